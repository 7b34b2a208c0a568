/- The port that is chosen, by the document's own answer; and where none is. -/
import Derived.Test.YtpdlmgafkjmjpaaToPortA
import Derived.Test.YtpdlmgafkjmjpaaToRefP
namespace Go.Proofs.Ytpdlmgafkjmjpaa
open Go.RowKit

/-- May a shard and a first port be? -/
abbrev PtIn (shard : Int) (frm : Nat) : Prop := (0 ≤ shard ∧ shard < 16) ∧ 32768 ≤ frm

set_option maxRecDepth 100000 in
set_option maxHeartbeats 2000000 in
theorem refport_ok (ka : Option Addr) (ks : List Nat) (kc : Nat) (ta : Option Addr) (ts : List Int) (tc : Nat) (loc rem rp : Nat) (shard : Int) (frm : Nat) (w : World)
    (hk : Bts w ka ks) (h40 : ks.length = 40) (ht : Its w ta ts) (hl : ts.length ≤ 9223372036854775807) (hck : ctE ts = 0) (hs0 : 0 ≤ shard) (hs16 : shard < 16) (hf : 32768 ≤ frm) (hf2 : frm < 65536)
    (hloc : loc < 4294967296) (hrem : rem < 4294967296) (hrp : rp < 65536) (o : Option Nat) (ho : portF (hitp ks ts loc rem rp shard) frm 32768 = o) :
    Calls Try.prog 52 #[.slice ka ks.length kc, .slice ta ts.length tc, .int .u32 loc, .int .u32 rem, .int .u16 rp, .int .i64 shard, .int .u16 frm] w fun e w' => e = .returned (.tuple #[.int .u16 (portV o frm : Nat), .int .i64 (portE o)]) ∧ Below w.heap.size w w' := by
  have HPO := Lib.hid ho
  have hc := refck_any ka ks kc ta ts tc w ht hl
  have hck2 : ckE ks ts = 0 := by unfold ckE; rw [if_pos h40, hck]
  have h128 := (ctE_zero hck).1
  rw [hck2] at hc
  have HC := Lib.hid hc
  have HK := Lib.hid hk
  have HT := Lib.hid ht
  have H40 := Lib.hid h40
  have H128 := Lib.hid h128
  have HF := Lib.hid hf
  have HF2 := Lib.hid hf2
  obtain ⟨fi, hfe⟩ : ∃ fi : Int, (frm : Int) = fi := ⟨_, rfl⟩
  have hfi : 32768 ≤ fi := by omega
  have hfi2 : fi < 65536 := by omega
  rw [hfe]
  have HFE := Lib.hid hfe
  have key : ∀ k W, Below w.heap.size w W → ∀ g c, Bts W (some ⟨g, 0, none⟩) (tup rem loc rp (tport frm k)) → Calls Try.prog 41 #[.slice ka ks.length kc, .slice (some ⟨g, 0, none⟩) 12 c] W fun e w' => e = .returned (.tuple #[.int .u32 (th ks (tup rem loc rp (tport frm k)) (8 * 12) : Nat), .int .i64 0]) ∧ Below W.heap.size W w' := fun k W hW g c hb => by
    have h := refhash_ok ka ks kc (some ⟨g, 0, none⟩) _ c W (hk.below hW) hb h40 (by rw [tup_len]; omega)
    rwa [tup_len] at h
  have HY := Lib.hid key
  clear hc hck hck2 hk ht h40 h128 hf hf2 hfe ho key hl
  rw [H128.out] at HC ⊢
  go_enter Try.func52, Try.ntmps52
  go_wp2_with fail
  refine HC.out.mono ?_
  rintro e w1 ⟨rfl, q1⟩
  go_wp2_with fail
  go_loopw [17, 18, 19, 20] (fun i _ _ _ wr => ∃ k : Nat, k ≤ 32768 ∧ i = .int .i64 k ∧ (∀ j, j < k → hitp ks ts loc rem rp shard (tport frm j) = false) ∧ Below w.heap.size w wr) (fun i _ _ _ _ => 32768 - (intOf i).toNat)
  case atStart => exact ⟨0, by omega, rfl, fun j h => by omega, q1⟩
  case round =>
    obtain ⟨k, hk, rfl, hno, hb⟩ := hrel
    have HNO := Lib.hid hno
    clear hno q1
    by_cases hlt : k < 32768
    · obtain ⟨v, hv⟩ : ∃ v, tport frm k = v := ⟨_, rfl⟩
      have hvl := tport_lt frm k
      have hHF := HF.out
      have hHF2 := HF2.out
      have hFE := HFE.out
      rw [hv] at hvl
      obtain ⟨f0, hf0⟩ : ∃ f0, frm - 32768 = f0 := ⟨_, rfl⟩
      obtain ⟨g0, hg0⟩ : ∃ g0, f0 + k = g0 := ⟨_, rfl⟩
      obtain ⟨v0, hv0⟩ : ∃ v0, g0 % 32768 = v0 := ⟨_, rfl⟩
      have hvv : 32768 + v0 = v := by rw [← hv, ← hv0, ← hg0, ← hf0]; rfl
      have e1 : fi - 32768 = (f0 : Int) := by omega
      have e2 : (f0 : Int) + (k : Int) = (g0 : Int) := by omega
      have e5 : (g0 : Int) % 32768 = (v0 : Int) := by omega
      have e6 : (g0 : Int).tmod 32768 = (v0 : Int) := by rw [Int.tmod_eq_emod_of_nonneg (by omega)]; exact e5
      have e3 : (32768 : Int) + (v0 : Int) = (v : Int) := by omega
      have e4 : IntKind.u16.wrap (v : Int) = (v : Int) := by rw [IntKind.wrap_u16]; omega
      have b1 : (g0 : Int) < 65536 := by omega
      have b2 : v < 65536 := hvl.2
      have j1 : (k : Int) < 32768 := by omega
      have hit := fun (h : hitp ks ts loc rem rp shard v = true) => (firstAt_some (fun i => hitp ks ts loc rem rp shard (tport frm i)) 32768 k HNO.out (by show hitp ks ts loc rem rp shard (tport frm k) = true; rw [hv]; exact h) hlt : portF (hitp ks ts loc rem rp shard) frm 32768 = some k)
      have more := fun (h : hitp ks ts loc rem rp shard v = false) (j : Nat) (hj : j < k + 1) => (by
        by_cases e : j = k
        · subst e; rw [hv]; exact h
        · exact HNO.out j (by omega) : hitp ks ts loc rem rp shard (tport frm j) = false)
      have TU := fun V => reftuple_any rem loc rp v hrem hloc hrp b2 V
      have hy := fun W hW g c => HY.out k W hW g c
      rw [hv] at hy
      have hhit : hitp ks ts loc rem rp shard v = (ts.getD (th ks (tup rem loc rp v) (8 * 12) % 128) 0 == shard) := rfl
      have hth := th_lt ks (tup rem loc rp v) (8 * 12)
      generalize th ks (tup rem loc rp v) (8 * 12) = H at hy hhit hth
      obtain ⟨m, hm⟩ : ∃ m, H % 128 = m := ⟨_, rfl⟩
      rw [hm] at hhit
      have hm1 : (H : Int) % 128 = (m : Int) := by omega
      have hm2 : m < 128 := by omega
      have cell : ∀ W, Below w.heap.size w W → ∃ b off, ta = some ⟨b, off, none⟩ ∧ W.cell? ⟨b, off + m, none⟩ = some (.int .i64 (ts.getD m 0)) := fun W hW => by
        obtain ⟨b, off, e, _, hc⟩ := (HT.out.below hW).isSome (by have := H128.out; omega)
        exact ⟨b, off, e, hc m (by have := H128.out; omega)⟩
      generalize ts.getD m 0 = t at cell hhit
      have HL := Lib.hid hlt
      have HIT := Lib.hid hit
      have HM := Lib.hid more
      have HTU := Lib.hid TU
      have HHY := Lib.hid hy
      have HC2 := Lib.hid cell
      have HHH := Lib.hid hhit
      have HV := Lib.hid hv
      have hm3 : (m : Int) < 128 := by omega
      clear hit more TU hy cell hhit hv hlt hk hvl hf0 hg0 hv0 hvv hHF hHF2 hFE hm hm2
      go_wp2_with fail
      refine (HTU.out _).mono ?_
      rintro e w2 ⟨g, c, rfl, O, bb⟩
      have O2 := Lib.hid O.bts
      have q2 := hb.trans (bb.mono hb.size)
      clear O bb
      go_wp2_with fail
      refine (HHY.out _ q2 g c O2.out).mono ?_
      rintro e w3 ⟨rfl, bb⟩
      have q3 := q2.trans (bb.mono q2.size)
      obtain ⟨tb, toff, rfl, hct⟩ := HC2.out _ q3
      clear bb O2 HHY HTU HC2
      by_cases hts : t = shard
      · subst hts
        have hp : portF (hitp ks ts loc rem rp t) frm 32768 = some k := HIT.out (by rw [HHH.out]; simp)
        rw [HPO.out] at hp
        have HP := Lib.hid hp
        clear hp
        go_wp2
        go_ret2
        refine ⟨?_, q3⟩
        rw [HP.out]
        show _ = Ending.returned (.tuple #[.int .u16 (tport frm k : Nat), .int .i64 0])
        rw [HV.out]; rfl
      · have hne : (t == shard) = false := by rw [beq_eq_false_iff_ne]; exact hts
        have hp := HM.out (by rw [HHH.out]; exact hne)
        have HP := Lib.hid hp
        clear hp
        go_wp2
        go_roundw
        case rel => exact ⟨k + 1, HL.out, by go_num, HP.out, q3⟩
        case measure => have := HL.out; simp [intOf]; omega
    · obtain rfl : k = 32768 := by omega
      have hp : portF (hitp ks ts loc rem rp shard) frm 32768 = none := firstAt_none _ _ HNO.out
      rw [HPO.out] at hp
      have HP := Lib.hid hp
      clear hp hlt hk
      go_wp2
      go_ret2
      exact ⟨by rw [HP.out]; rfl, hb⟩

set_option maxRecDepth 100000 in
set_option maxHeartbeats 1000000 in
theorem refport_ck (ka : Option Addr) (ks : List Nat) (kc : Nat) (ta : Option Addr) (ts : List Int) (tc : Nat) (loc rem rp : Nat) (shard : Int) (frm : Nat) (w : World) (ht : Its w ta ts) (hl : ts.length ≤ 9223372036854775807) (hck : ckE ks ts ≠ 0) :
    Calls Try.prog 52 #[.slice ka ks.length kc, .slice ta ts.length tc, .int .u32 loc, .int .u32 rem, .int .u16 rp, .int .i64 shard, .int .u16 frm] w fun e w' => e = .returned (.tuple #[.int .u16 0, .int .i64 (ckE ks ts)]) ∧ Below w.heap.size w w' := by
  have hc := refck_any ka ks kc ta ts tc w ht hl
  generalize ckE ks ts = er at hc hck ⊢
  have HC := Lib.hid hc
  have n1 : (er != 0) = true := by rw [bne_iff_ne]; exact hck
  have n2 : (er == 0) = false := by rw [beq_eq_false_iff_ne]; exact hck
  clear hc ht hl
  go_enter Try.func52, Try.ntmps52
  go_wp2_with fail
  refine HC.out.mono ?_
  rintro e w1 ⟨rfl, q1⟩
  go_wp2
  go_ret2
  exact ⟨rfl, q1⟩

set_option maxRecDepth 100000 in
set_option maxHeartbeats 1000000 in
theorem refport_in (ka : Option Addr) (ks : List Nat) (kc : Nat) (ta : Option Addr) (ts : List Int) (tc : Nat) (loc rem rp : Nat) (shard : Int) (frm : Nat) (w : World) (ht : Its w ta ts) (hl : ts.length ≤ 9223372036854775807) (hck : ckE ks ts = 0) (hin : ¬ PtIn shard frm) (hf2 : frm < 65536) :
    Calls Try.prog 52 #[.slice ka ks.length kc, .slice ta ts.length tc, .int .u32 loc, .int .u32 rem, .int .u16 rp, .int .i64 shard, .int .u16 frm] w fun e w' => e = .returned (.tuple #[.int .u16 0, .int .i64 4]) ∧ Below w.heap.size w w' := by
  have hc := refck_any ka ks kc ta ts tc w ht hl
  rw [hck] at hc
  have HC := Lib.hid hc
  obtain ⟨fi, hfe⟩ : ∃ fi : Int, (frm : Int) = fi := ⟨_, rfl⟩
  have hin2 : shard < 0 ∨ 16 ≤ shard ∨ fi < 32768 := by
    by_cases h1 : shard < 0
    · exact .inl h1
    · by_cases h2 : 16 ≤ shard
      · exact .inr (.inl h2)
      · refine .inr (.inr ?_)
        by_cases h3 : 32768 ≤ frm
        · exact absurd ⟨⟨by omega, by omega⟩, h3⟩ hin
        · omega
  rw [hfe]
  clear hc ht hl hck hin hfe hf2
  by_cases h1 : shard < 0
  · clear hin2
    go_enter Try.func52, Try.ntmps52
    go_wp2_with fail
    refine HC.out.mono ?_
    rintro e w1 ⟨rfl, q1⟩
    go_wp2
    go_ret2
    exact ⟨rfl, q1⟩
  · by_cases h2 : 16 ≤ shard
    · clear hin2
      go_enter Try.func52, Try.ntmps52
      go_wp2_with fail
      refine HC.out.mono ?_
      rintro e w1 ⟨rfl, q1⟩
      go_wp2
      go_ret2
      exact ⟨rfl, q1⟩
    · have h3 : fi < 32768 := by omega
      clear hin2
      go_enter Try.func52, Try.ntmps52
      go_wp2_with fail
      refine HC.out.mono ?_
      rintro e w1 ⟨rfl, q1⟩
      go_wp2
      go_ret2
      exact ⟨rfl, q1⟩
end Go.Proofs.Ytpdlmgafkjmjpaa
