/- Both Checks, and both Builds, of any segment tell the same. -/
import Derived.Test.YtgmgoilleakdcaaTcpRo
import Derived.Test.YtgmgoilleakdcaaTcpRn
import Derived.Test.YtgmgoilleakdcaaTcpRm
import Derived.Test.YtgmgoilleakdcaaTcpBb
namespace Go.Proofs.Ytgmgoilleakdcaa
open Go.RowKit

theorem chk_any (sp dp sq ak fl wn ur : Nat) (mss : Int) (hs : Bool) (sc : Int) (sk : Bool) (bs : List (Nat × Nat)) (ht : Bool) (tv te dn : Nat) (htv : tv < 4294967296) (hte : te < 4294967296) :
    ∃ n : Int, (n = 0 ∧ TcpMayI mss hs sc sk bs ht tv te dn ∨ n ≠ 0) ∧
      (∀ ba bc da dc W, Blk W ba bs → Calls Try.prog 15 #[.agg (tcpV sp dp sq ak fl wn ur mss hs sc sk ba bs.length bc ht tv te da dn dc)] W fun e w' => e = .returned (.int .i64 n) ∧ Below W.heap.size W w') ∧
      (∀ ba bc da dc W, Blk W ba bs → Calls Try.prog 16 #[.agg (tcpV sp dp sq ak fl wn ur mss hs sc sk ba bs.length bc ht tv te da dn dc)] W fun e w' => e = .returned (.int .i64 n) ∧ Below W.heap.size W w') := by
  by_cases h4 : TcpNot4 mss hs sc ht tv te
  · exact ⟨4, .inr (by decide), fun ba bc da dc W _ => tcheck_n4 sp dp sq ak fl wn ur mss hs sc sk ba bs.length bc ht tv te da dn dc W h4, fun ba bc da dc W _ => rcheck_n4 sp dp sq ak fl wn ur mss hs sc sk ba bs.length bc ht tv te da dn dc W h4⟩
  · by_cases h3 : 4 < bs.length
    · exact ⟨3, .inr (by decide), fun ba bc da dc W _ => tcheck_n3 sp dp sq ak fl wn ur mss hs sc sk ba bs.length bc ht tv te da dn dc W h4 h3, fun ba bc da dc W _ => rcheck_n3 sp dp sq ak fl wn ur mss hs sc sk ba bs.length bc ht tv te da dn dc W h4 h3⟩
    · have n1 : ¬ mss < 0 := fun q => h4 (.inl q)
      have n2 : ¬ 65535 < mss := fun q => h4 (.inr (.inl q))
      have n3 : ¬ sc < 0 := fun q => h4 (.inr (.inr (.inl q)))
      have n4 : ¬ 255 < sc := fun q => h4 (.inr (.inr (.inr (.inl q))))
      obtain ⟨m, rfl⟩ : ∃ m : Nat, mss = m := ⟨mss.toNat, by omega⟩
      obtain ⟨c, rfl⟩ : ∃ c : Nat, sc = c := ⟨sc.toNat, by omega⟩
      have a1 : m < 65536 := by omega
      have a2 : c < 256 := by omega
      have a3 : hs = false → c = 0 := fun h => by
        by_cases h0 : c = 0
        · exact h0
        · exact absurd (.inr (.inr (.inr (.inr (.inl ⟨h, by omega⟩))))) h4
      have a4 : ht = false → tv = 0 ∧ te = 0 := fun h => by
        by_cases h0 : tv = 0 ∧ te = 0
        · exact h0
        · exact absurd (.inr (.inr (.inr (.inr (.inr ⟨h, by omega⟩))))) h4
      have a5 : bs.length ≤ 4 := by omega
      by_cases h6 : (laidO m hs c sk bs ht tv te).length ≤ 40
      · by_cases h7 : dn + (laidO m hs c sk bs ht tv te).length ≤ 65515
        · exact ⟨0, .inl ⟨rfl, m, c, rfl, rfl, a1, a2, a3, a4, a5, h6, h7⟩, fun ba bc da dc W hb => tcheck_ok sp dp sq ak fl wn ur m hs c sk ba bs bc ht tv te da dn dc W htv hte hb ⟨a1, a2, a3, a4, a5, h6, h7⟩, fun ba bc da dc W hb => rcheck_ok sp dp sq ak fl wn ur m hs c sk ba bs bc ht tv te da dn dc W htv hte hb ⟨a1, a2, a3, a4, a5, h6, h7⟩⟩
        · exact ⟨5, .inr (by decide), fun ba bc da dc W hb => tcheck_d sp dp sq ak fl wn ur m hs c sk ba bs bc ht tv te da dn dc W htv hte hb ⟨a1, a2, a3, a4, a5, h6, by omega⟩, fun ba bc da dc W hb => rcheck_d sp dp sq ak fl wn ur m hs c sk ba bs bc ht tv te da dn dc W htv hte hb ⟨a1, a2, a3, a4, a5, h6, by omega⟩⟩
      · exact ⟨51, .inr (by decide), fun ba bc da dc W hb => tcheck_o sp dp sq ak fl wn ur m hs c sk ba bs bc ht tv te da dn dc W htv hte hb ⟨a1, a2, a3, a4, a5, by omega⟩, fun ba bc da dc W hb => rcheck_o sp dp sq ak fl wn ur m hs c sk ba bs bc ht tv te da dn dc W htv hte hb ⟨a1, a2, a3, a4, a5, by omega⟩⟩

set_option maxRecDepth 100000 in
set_option maxHeartbeats 1000000 in
theorem tcpB_code (sp dp sq ak fl wn ur : Nat) (mss : Int) (hs : Bool) (sc : Int) (sk : Bool) (ba : Option Addr) (bs : List (Nat × Nat)) (bc : Nat) (ht : Bool) (tv te : Nat) (da : Option Addr) (dn dc src dst : Nat) (n : Int) (w : World) (hx : Blk w ba bs) (hn : n ≠ 0)
    (hck : ∀ W, Blk W ba bs → Calls Try.prog 15 #[.agg (tcpV sp dp sq ak fl wn ur mss hs sc sk ba bs.length bc ht tv te da dn dc)] W fun e w' => e = .returned (.int .i64 n) ∧ Below W.heap.size W w') :
    Calls Try.prog 8 #[.agg (tcpV sp dp sq ak fl wn ur mss hs sc sk ba bs.length bc ht tv te da dn dc), .int .u32 (src : Nat), .int .u32 (dst : Nat)] w fun e w' => e = .returned (.tuple #[.slice none 0 0, .int .i64 n]) ∧ Below w.heap.size w w' := by
  have bw := (Below.refl _ w).alloc (Nat.le_refl _) (.cells (tcpV sp dp sq ak fl wn ur mss hs sc sk ba bs.length bc ht tv te da dn dc) 27)
  have Hck := Lib.hid (hck _ (hx.below bw))
  have BW := Lib.hid bw
  have e1 : (n != 0) = true := by rw [bne_iff_ne]; exact hn
  clear hck bw hx hn
  unfold tcpV at *
  go_enter Try.func8, Try.ntmps8
  go_wp2_with fail
  refine Hck.out.mono ?_
  rintro e V ⟨rfl, b⟩
  have q := Lib.hid (BW.out.trans (b.mono BW.out.size))
  clear Hck b BW
  go_wp2
  go_ret2
  exact ⟨rfl, q.out⟩

set_option maxRecDepth 100000 in
set_option maxHeartbeats 1000000 in
theorem rB_code (sp dp sq ak fl wn ur : Nat) (mss : Int) (hs : Bool) (sc : Int) (sk : Bool) (ba : Option Addr) (bs : List (Nat × Nat)) (bc : Nat) (ht : Bool) (tv te : Nat) (da : Option Addr) (dn dc src dst : Nat) (n : Int) (w : World) (hx : Blk w ba bs) (hn : n ≠ 0)
    (hck : ∀ W, Blk W ba bs → Calls Try.prog 16 #[.agg (tcpV sp dp sq ak fl wn ur mss hs sc sk ba bs.length bc ht tv te da dn dc)] W fun e w' => e = .returned (.int .i64 n) ∧ Below W.heap.size W w') :
    Calls Try.prog 9 #[.agg (tcpV sp dp sq ak fl wn ur mss hs sc sk ba bs.length bc ht tv te da dn dc), .int .u32 (src : Nat), .int .u32 (dst : Nat)] w fun e w' => e = .returned (.tuple #[.slice none 0 0, .int .i64 n]) ∧ Below w.heap.size w w' := by
  have bw := (Below.refl _ w).alloc (Nat.le_refl _) (.cells (tcpV sp dp sq ak fl wn ur mss hs sc sk ba bs.length bc ht tv te da dn dc) 27)
  have Hck := Lib.hid (hck _ (hx.below bw))
  have BW := Lib.hid bw
  have e1 : (n != 0) = true := by rw [bne_iff_ne]; exact hn
  clear hck bw hx hn
  unfold tcpV at *
  go_enter Try.func9, Try.ntmps9
  go_wp2_with fail
  refine Hck.out.mono ?_
  rintro e V ⟨rfl, b⟩
  have q := Lib.hid (BW.out.trans (b.mono BW.out.size))
  clear Hck b BW
  go_wp2
  go_ret2
  exact ⟨rfl, q.out⟩

/-- Both Builds of a segment: the same octets, the same number. -/
theorem build_any (sp dp sq ak fl wn ur : Nat) (mss : Int) (hs : Bool) (sc : Int) (sk : Bool) (bs : List (Nat × Nat)) (ht : Bool) (tv te : Nat) (ds : List Nat) (src dst : Nat) (hsp : sp < 65536) (hdp : dp < 65536) (hsq : sq < 4294967296) (hak : ak < 4294967296) (hfl : fl < 256) (hwn : wn < 65536) (hur : ur < 65536) (htv : tv < 4294967296) (hte : te < 4294967296) (hsrc : src < 4294967296) (hdst : dst < 4294967296) :
    ∃ (n : Int) (R : List Nat), R.length ≤ 65535 ∧
      (∀ ba bc da dc W, Blk W ba bs → Calls Try.prog 15 #[.agg (tcpV sp dp sq ak fl wn ur mss hs sc sk ba bs.length bc ht tv te da ds.length dc)] W fun e w' => e = .returned (.int .i64 n) ∧ Below W.heap.size W w') ∧
      (∀ ba bc da dc W, Blk W ba bs → Calls Try.prog 16 #[.agg (tcpV sp dp sq ak fl wn ur mss hs sc sk ba bs.length bc ht tv te da ds.length dc)] W fun e w' => e = .returned (.int .i64 n) ∧ Below W.heap.size W w') ∧
      (∀ ba bc da dc W, Blk W ba bs → Bts W da ds → (da = none → dc = 0) → Calls Try.prog 8 #[.agg (tcpV sp dp sq ak fl wn ur mss hs sc sk ba bs.length bc ht tv te da ds.length dc), .int .u32 (src : Nat), .int .u32 (dst : Nat)] W fun e w' => ∃ a c, e = .returned (.tuple #[.slice a R.length c, .int .i64 n]) ∧ Bts w' a R ∧ Below W.heap.size W w') ∧
      (∀ ba bc da dc W, Blk W ba bs → Bts W da ds → (da = none → dc = 0) → Calls Try.prog 9 #[.agg (tcpV sp dp sq ak fl wn ur mss hs sc sk ba bs.length bc ht tv te da ds.length dc), .int .u32 (src : Nat), .int .u32 (dst : Nat)] W fun e w' => ∃ a c, e = .returned (.tuple #[.slice a R.length c, .int .i64 n]) ∧ Bts w' a R ∧ Below W.heap.size W w') := by
  obtain ⟨n, hn, C1, C2⟩ := chk_any sp dp sq ak fl wn ur mss hs sc sk bs ht tv te ds.length htv hte
  rcases hn with ⟨rfl, m, c, rfl, rfl, hm⟩ | hn
  · have hl : (tcpO sp dp sq ak fl wn ur m hs c sk bs ht tv te ds src dst).length = 20 + (laidO m hs c sk bs ht tv te).length + ds.length := by unfold tcpO; rw [tcpW_len]
    refine ⟨0, tcpO sp dp sq ak fl wn ur m hs c sk bs ht tv te ds src dst, by rw [hl]; have := hm.2.2.2.2.2.2; omega, C1, C2, fun ba bc da dc W hb hd hc => ?_, fun ba bc da dc W hb hd hc => ?_⟩
    · refine (tcpB_ok sp dp sq ak fl wn ur m hs c sk ba bs bc ht tv te da ds dc src dst W hm hsp hdp hsq hak hfl hwn hur htv hte hsrc hdst hd hc hb).mono ?_
      rintro e w' ⟨g, cp, rfl, O, b⟩
      rw [hl]
      exact ⟨_, cp, rfl, O.bts, b⟩
    · refine (rB_ok sp dp sq ak fl wn ur m hs c sk ba bs bc ht tv te da ds dc src dst W hm hsp hdp hsq hak hfl hwn hur htv hte hsrc hdst hd hc hb).mono ?_
      rintro e w' ⟨g, cp, rfl, O, b⟩
      rw [hl]
      exact ⟨_, cp, rfl, O.bts, b⟩
  · refine ⟨n, [], by simp, C1, C2, fun ba bc da dc W hb _ _ => ?_, fun ba bc da dc W hb _ _ => ?_⟩
    · refine (tcpB_code sp dp sq ak fl wn ur mss hs sc sk ba bs bc ht tv te da ds.length dc src dst n W hb hn (fun W h => C1 ba bc da dc W h)).mono ?_
      rintro e w' ⟨rfl, b⟩
      exact ⟨none, 0, rfl, Bts.nil _ _, b⟩
    · refine (rB_code sp dp sq ak fl wn ur mss hs sc sk ba bs bc ht tv te da ds.length dc src dst n W hb hn (fun W h => C2 ba bc da dc W h)).mono ?_
      rintro e w' ⟨rfl, b⟩
      exact ⟨none, 0, rfl, Bts.nil _ _, b⟩
end Go.Proofs.Ytgmgoilleakdcaa
