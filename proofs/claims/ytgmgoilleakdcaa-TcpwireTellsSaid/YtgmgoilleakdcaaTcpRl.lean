/- The document's options of a segment, as they are laid. -/
import Derived.Test.YtgmgoilleakdcaaTcpO
import Derived.Test.YtgmgoilleakdcaaTcpBack
import Derived.Test.YtgmgoilleakdcaaGOcts
import Derived.Deep.DeepCutAuto
namespace Go.Proofs.Ytgmgoilleakdcaa
open Go.RowKit

set_option maxRecDepth 100000 in
set_option maxHeartbeats 4000000 in
theorem roptions_any (sp dp sq ak fl wn ur mss : Nat) (hs : Bool) (sc : Nat) (sk : Bool) (ba : Option Addr) (bs : List (Nat × Nat)) (bc : Nat) (ht : Bool) (tv te : Nat) (da : Option Addr) (dn dc : Nat) (w : World)
    (hm : mss < 65536) (hsc : sc < 256) (htv : tv < 4294967296) (hte : te < 4294967296) (hb4 : bs.length ≤ 4) (hx : Blk w ba bs) :
    Calls Try.prog 27 #[.agg (tcpV sp dp sq ak fl wn ur mss hs sc sk ba bs.length bc ht tv te da dn dc)] w fun e w' => (∃ a cap, e = .returned (.slice a (laidO mss hs sc sk bs ht tv te).length cap) ∧ OwnSl (w.heap.size + 1) a (laidO mss hs sc sk bs ht tv te) cap w') ∧ Below w.heap.size w w' := by
  obtain ⟨bx, hbx⟩ : ∃ bx, tcpV sp dp sq ak fl wn ur mss hs sc sk ba bs.length bc ht tv te da dn dc = bx := ⟨_, rfl⟩
  have bn := blk_new w (.cells (tcpV sp dp sq ak fl wn ur mss hs sc sk ba bs.length bc ht tv te da dn dc) 27)
  have hsz : w.heap.size + 1 ≤ (w.alloc (.cells (tcpV sp dp sq ak fl wn ur mss hs sc sk ba bs.length bc ht tv te da dn dc) 27)).heap.size := by rw [World.size_alloc]; exact Nat.le_refl _
  have bw := (Below.refl _ w).alloc (Nat.le_refl _) (.cells (tcpV sp dp sq ak fl wn ur mss hs sc sk ba bs.length bc ht tv te da dn dc) 27)
  have H0 : Hid (TcpOut w (tcpV sp dp sq ak fl wn ur mss hs sc sk ba bs.length bc ht tv te da dn dc) [] (.slice none 0 0) (w.alloc (.cells (tcpV sp dp sq ak fl wn ur mss hs sc sk ba bs.length bc ht tv te da dn dc) 27))) := Lib.hid ⟨none, 0, rfl, own_nil _ _, bn, bw, hsz⟩
  have g7 := blk_cell bn 7
  clear hbx hsz bw
  unfold tcpV at *
  go_enter Try.func27, Try.ntmps27
  go_upto_if 7 with (fail)
  generalize w.alloc (.cells #[.int .u16 sp, .int .u16 dp, .int .u32 sq, .int .u32 ak, .int .u8 fl, .int .u16 wn, .int .u16 ur, .int .i64 mss, .bool hs, .int .i64 sc, .bool sk, .slice ba bs.length bc, .bool ht, .int .u32 tv, .int .u32 te, .slice da dn dc] 27) = W0 at bn g7 H0 ⊢
  go_cut [3] (fun (v : Value) wx => TcpOut w #[.int .u16 sp, .int .u16 dp, .int .u32 sq, .int .u32 ak, .int .u8 fl, .int .u16 wn, .int .u16 ur, .int .i64 mss, .bool hs, .int .i64 sc, .bool sk, .slice ba bs.length bc, .bool ht, .int .u32 tv, .int .u32 te, .slice da dn dc] (oMss mss) v wx)
  case first =>
    by_cases h0 : mss = 0
    · have e : oMss mss = [] := if_pos h0
      have E := Lib.hid e
      clear e
      subst h0
      go_wp2
      go_meet
      case rel => rw [E.out]; exact H0.out
    · obtain ⟨q, hq⟩ : ∃ z, mss / 256 = z := ⟨_, rfl⟩
      obtain ⟨r, hr⟩ : ∃ z, mss % 256 = z := ⟨_, rfl⟩
      have e : oMss mss = [2, 4, q, r] := by unfold oMss; rw [if_neg h0, octs2 mss hm, hq, hr]; rfl
      have E := Lib.hid e
      have hne : (0 : Int) < (mss : Int) := by omega
      have m1 : (mss : Int) / 256 = (q : Int) := by omega
      have m2 : (mss : Int) % 256 = (r : Int) := by omega
      have m3 : (q : Int) % 256 = (q : Int) := by omega
      obtain ⟨a0, c0, e0, O, K, B, S⟩ := H0.out
      have Y := Lib.hid (bts_new W0 [2, 4, q, r] 5 (by intro x hx; simp at hx; omega))
      have ba := (Below.refl W0.heap.size W0).alloc (Nat.le_refl _) (.cells ([2, 4, q, r].map (fun x : Nat => Value.int .u8 (x : Nat))).toArray 5)
      have N0 := Lib.hid ((own_nil (w.heap.size + 1) W0).below ba)
      have B1 := Lib.hid (B.trans (ba.mono B.size))
      have K1 := Lib.hid ((ba.block _ (Nat.lt_of_succ_le S)).trans K)
      have S1 := Nat.le_trans S ba.size
      clear O K B S ba e0 H0 hq hr e
      go_wp2_with (at_builtin; refine wpList_append_bts rfl _ _ rfl (w.heap.size + 1) N0.out Y.out (fun h => by cases h) rfl rfl (by simp) S1 ?_; intro a1 c1 w1 Z b1; have K2 := Lib.hid ((b1.block _ (Nat.lt_succ_self _)).trans K1.out); have S2 := Nat.le_trans S1 b1.size; have B2 := Lib.hid (B1.out.trans (b1.mono (Nat.le_succ _))); have Z1 := Lib.hid Z; clear Z b1 N0 Y K1 B1)
      go_meet
      case rel =>
        rw [E.out]
        exact ⟨a1, c1, by first | rfl | simp, Z1.out, K2.out, B2.out, S2⟩
  case rest =>
    have hscm : (sc : Int) % 256 = (sc : Int) := by omega
    obtain ⟨a, c, rfl, O, K, B, S⟩ := hcut
    have hLl : (oMss mss).length ≤ 4 := by unfold oMss; split <;> simp [Mt.octs_length]
    obtain ⟨M1, hM1⟩ : ∃ M1, oMss mss = M1 := ⟨_, rfl⟩
    rw [hM1] at O hLl ⊢
    have HM1 := Lib.hid hM1
    have HO := Lib.hid O
    have HK := Lib.hid K
    have HB := Lib.hid B
    clear O B hM1
    have g8 := blk_cell HK.out 8
    have g9 := blk_cell HK.out 9
    clear K
    go_upto_if 19 with (fail)
    go_cut [3] (fun (v : Value) wx => TcpOut w #[.int .u16 sp, .int .u16 dp, .int .u32 sq, .int .u32 ak, .int .u8 fl, .int .u16 wn, .int .u16 ur, .int .i64 mss, .bool hs, .int .i64 sc, .bool sk, .slice ba bs.length bc, .bool ht, .int .u32 tv, .int .u32 te, .slice da dn dc] (M1 ++ oScale hs sc) v wx)
    case first =>
      cases hs with
      | false =>
        go_wp2
        go_meet
        case rel =>
          show TcpOut w _ (M1 ++ []) _ _
          rw [List.append_nil]
          exact ⟨a, c, rfl, HO.out, HK.out, HB.out, S⟩
      | true =>
        have Y := Lib.hid (bts_new wc [1, 3, 3, sc] 5 (by intro x hx; simp at hx; omega))
        have ba' := (Below.refl wc.heap.size wc).alloc (Nat.le_refl _) (.cells ([1, 3, 3, sc].map (fun x : Nat => Value.int .u8 (x : Nat))).toArray 5)
        have N0 := Lib.hid (HO.out.below ba')
        have B1 := Lib.hid (HB.out.trans (ba'.mono HB.out.size))
        have K1 := Lib.hid ((ba'.block _ (Nat.lt_of_succ_le S)).trans HK.out)
        have S1 := Nat.le_trans S ba'.size
        clear ba' HO HB HK
        go_wp2_with (at_builtin; refine wpList_append_bts rfl _ _ rfl (w.heap.size + 1) N0.out Y.out (fun h => by cases h) rfl rfl (by simp; omega) S1 ?_; intro a1 c1 w1 Z b1; have K2 := Lib.hid ((b1.block _ (Nat.lt_succ_self _)).trans K1.out);  have S2 := Nat.le_trans S1 b1.size; have B2 := Lib.hid (B1.out.trans (b1.mono (Nat.le_succ _))); have Z1 := Lib.hid Z; clear Z b1 N0 Y K1 B1)
        go_meet
        case rel =>
          have e : M1 ++ oScale true sc = (M1 ++ [1, 3, 3, sc]) := by simp [oScale]
          rw [e]
          exact ⟨a1, c1, by first | rfl | simp, Z1.out, K2.out, B2.out, S2⟩
    case rest =>
      obtain ⟨a, c, rfl, O, K, B, S⟩ := hcut
      have hLl : (M1 ++ oScale hs sc).length ≤ 8 := by have hq : (oScale hs sc).length ≤ 4 := (by unfold oScale; split <;> simp); rw [List.length_append]; omega
      obtain ⟨M2, hM2⟩ : ∃ M2, M1 ++ oScale hs sc = M2 := ⟨_, rfl⟩
      rw [hM2] at O hLl ⊢
      have HM2 := Lib.hid hM2
      have HO := Lib.hid O
      have HK := Lib.hid K
      have HB := Lib.hid B
      clear O B hM2
      have g10 := blk_cell HK.out 10
      clear K
      go_upto_if 27 with (fail)
      go_cut [3] (fun (v : Value) wx => TcpOut w #[.int .u16 sp, .int .u16 dp, .int .u32 sq, .int .u32 ak, .int .u8 fl, .int .u16 wn, .int .u16 ur, .int .i64 mss, .bool hs, .int .i64 sc, .bool sk, .slice ba bs.length bc, .bool ht, .int .u32 tv, .int .u32 te, .slice da dn dc] (M2 ++ oSok sk) v wx)
      case first =>
        cases sk with
        | false =>
          go_wp2
          go_meet
          case rel =>
            show TcpOut w _ (M2 ++ []) _ _
            rw [List.append_nil]
            exact ⟨a, c, rfl, HO.out, HK.out, HB.out, S⟩
        | true =>
          have Y := Lib.hid (bts_new wc [1, 1, 4, 2] 5 (by intro x hx; simp at hx; omega))
          have ba' := (Below.refl wc.heap.size wc).alloc (Nat.le_refl _) (.cells ([1, 1, 4, 2].map (fun x : Nat => Value.int .u8 (x : Nat))).toArray 5)
          have N0 := Lib.hid (HO.out.below ba')
          have B1 := Lib.hid (HB.out.trans (ba'.mono HB.out.size))
          have K1 := Lib.hid ((ba'.block _ (Nat.lt_of_succ_le S)).trans HK.out)
          have S1 := Nat.le_trans S ba'.size
          clear ba' HO HB HK
          go_wp2_with (at_builtin; refine wpList_append_bts rfl _ _ rfl (w.heap.size + 1) N0.out Y.out (fun h => by cases h) rfl rfl (by simp; omega) S1 ?_; intro a1 c1 w1 Z b1; have K2 := Lib.hid ((b1.block _ (Nat.lt_succ_self _)).trans K1.out);  have S2 := Nat.le_trans S1 b1.size; have B2 := Lib.hid (B1.out.trans (b1.mono (Nat.le_succ _))); have Z1 := Lib.hid Z; clear Z b1 N0 Y K1 B1)
          go_meet
          case rel =>
            have e : M2 ++ oSok true = (M2 ++ [1, 1, 4, 2]) := by simp [oSok]
            rw [e]
            exact ⟨a1, c1, by first | rfl | simp, Z1.out, K2.out, B2.out, S2⟩
      case rest =>
        obtain ⟨a, c, rfl, O, K, B, S⟩ := hcut
        have hLl : (M2 ++ oSok sk).length ≤ 12 := by have hq : (oSok sk).length ≤ 4 := (by unfold oSok; split <;> simp); rw [List.length_append]; omega
        obtain ⟨M3, hM3⟩ : ∃ M3, M2 ++ oSok sk = M3 := ⟨_, rfl⟩
        rw [hM3] at O hLl ⊢
        have HM3 := Lib.hid hM3
        have HO := Lib.hid O
        have HK := Lib.hid K
        have HB := Lib.hid B
        clear O B hM3
        have g12 := blk_cell HK.out 12
        clear K
        go_upto_if 32 with (fail)
        go_cut [3] (fun (v : Value) wx => TcpOut w #[.int .u16 sp, .int .u16 dp, .int .u32 sq, .int .u32 ak, .int .u8 fl, .int .u16 wn, .int .u16 ur, .int .i64 mss, .bool hs, .int .i64 sc, .bool sk, .slice ba bs.length bc, .bool ht, .int .u32 tv, .int .u32 te, .slice da dn dc] (M3 ++ oTs ht tv te) v wx)
        case first =>
          cases ht with
          | false =>
            go_wp2
            go_meet
            case rel =>
              show TcpOut w _ (M3 ++ []) _ _
              rw [List.append_nil]
              exact ⟨a, c, rfl, HO.out, HK.out, HB.out, S⟩
          | true =>
            have Y := Lib.hid (bts_new wc [1, 1, 8, 10] 5 (by intro x hx; simp at hx; omega))
            have ba' := (Below.refl wc.heap.size wc).alloc (Nat.le_refl _) (.cells ([1, 1, 8, 10].map (fun x : Nat => Value.int .u8 (x : Nat))).toArray 5)
            have N0 := Lib.hid (HO.out.below ba')
            have B1 := Lib.hid (HB.out.trans (ba'.mono HB.out.size))
            have K1 := Lib.hid ((ba'.block _ (Nat.lt_of_succ_le S)).trans HK.out)
            have S1 := Nat.le_trans S ba'.size
            clear ba' HO HB HK
            obtain ⟨NA, hNA⟩ : ∃ z, M3 ++ [1, 1, 8, 10] = z := ⟨_, rfl⟩
            obtain ⟨NB, hNB⟩ : ∃ z, NA ++ Mt.octs tv 4 = z := ⟨_, rfl⟩
            obtain ⟨NC, hNC⟩ : ∃ z, NB ++ Mt.octs te 4 = z := ⟨_, rfl⟩
            have hla : NA.length ≤ 70368744177664 := by rw [← hNA]; simp; omega
            have hlb : NB.length ≤ 70368744177664 := by rw [← hNB, ← hNA]; simp [Mt.octs_length]; omega
            have HNA := Lib.hid hNA
            have HNB := Lib.hid hNB
            have HNC := Lib.hid hNC
            clear hNA hNB hNC
            go_upto_region 10 with (first | (at_builtin; refine wpList_append_bts rfl _ _ rfl (w.heap.size + 1) N0.out Y.out (fun h => by cases h) rfl rfl (by simp; omega) S1 ?_; intro a1 c1 w1 Z b1; rw [HNA.out] at Z ⊢; have K2 := Lib.hid ((b1.block _ (Nat.lt_succ_self _)).trans K1.out); have k13 := blk_cell K2.out 13; have S2 := Nat.le_trans S1 b1.size; have B2 := Lib.hid (B1.out.trans (b1.mono (Nat.le_succ _))); have Z1 := Lib.hid Z; clear Z b1 N0 Y K1 B1) | fail)
            go_upto_region 11 with (first
              | (go_at_call 28; with_reducible refine (oct4_sl tv _).mono ?_; rintro e wO2 ⟨rfl, YO2, bO2⟩; have ZO2 := Lib.hid (Z1.out.below bO2); have KO2 := Lib.hid ((bO2.block _ (Nat.lt_of_succ_le S2)).trans K2.out); have BO2 := Lib.hid (B2.out.trans (bO2.mono B2.out.size)); have SO2 := Nat.le_trans S2 bO2.size; have YH2 := Lib.hid YO2.bts; clear bO2 YO2)
              | (at_builtin; refine wpList_append_bts rfl _ _ rfl (w.heap.size + 1) ZO2.out YH2.out (fun h => by cases h) rfl rfl (by rw [Mt.octs_length]; omega) SO2 ?_; intro a3 c3 w3 Z b; rw [HNB.out] at Z ⊢; have Kn3 := Lib.hid ((b.block _ (Nat.lt_succ_self _)).trans KO2.out); have k14 := blk_cell Kn3.out 14; have Bn3 := Lib.hid (BO2.out.trans (b.mono (Nat.le_succ _))); have Sn3 := Nat.le_trans SO2 b.size; have Zn3 := Lib.hid Z; clear Z b)
              | fail)
            clear k13
            go_wp2_with (first
              | (go_at_call 28; with_reducible refine (oct4_sl te _).mono ?_; rintro e wO3 ⟨rfl, YO3, bO3⟩; have ZO3 := Lib.hid (Zn3.out.below bO3); have KO3 := Lib.hid ((bO3.block _ (Nat.lt_of_succ_le Sn3)).trans Kn3.out); have BO3 := Lib.hid (Bn3.out.trans (bO3.mono Bn3.out.size)); have SO3 := Nat.le_trans Sn3 bO3.size; have YH3 := Lib.hid YO3.bts; clear bO3 YO3)
              | (at_builtin; refine wpList_append_bts rfl _ _ rfl (w.heap.size + 1) ZO3.out YH3.out (fun h => by cases h) rfl rfl (by rw [Mt.octs_length]; omega) SO3 ?_; intro a4 c4 w4 Z b; rw [HNC.out] at Z ⊢; have Kn4 := Lib.hid ((b.block _ (Nat.lt_succ_self _)).trans KO3.out); have Bn4 := Lib.hid (BO3.out.trans (b.mono (Nat.le_succ _))); have Sn4 := Nat.le_trans SO3 b.size; have Zn4 := Lib.hid Z; clear Z b)
              | fail)
            go_meet
            case rel =>
              have e : M3 ++ oTs true tv te = NC := by rw [← HNC.out, ← HNB.out, ← HNA.out]; simp [oTs]
              rw [e]
              exact ⟨a4, c4, by first | rfl | simp, Zn4.out, Kn4.out, Bn4.out, Sn4⟩
        case rest =>
          obtain ⟨a, c, rfl, O, K, B, S⟩ := hcut
          have hLl : (M3 ++ oTs ht tv te).length ≤ 24 := by have hq : (oTs ht tv te).length ≤ 12 := (by unfold oTs; split <;> simp [Mt.octs_length]); rw [List.length_append]; omega
          obtain ⟨M4, hM4⟩ : ∃ M4, M3 ++ oTs ht tv te = M4 := ⟨_, rfl⟩
          rw [hM4] at O hLl ⊢
          have HM4 := Lib.hid hM4
          have HO := Lib.hid O
          have HK := Lib.hid K
          have HB := Lib.hid B
          clear O B hM4
          have g11 := blk_cell HK.out 11
          clear K
          have hbb : ((2 + 8 * (bs.length : Int)) % 256 : Int) = ((2 + 8 * bs.length : Nat) : Int) := by omega
          go_upto_if 51 with (fail)
          go_cut [3] (fun (v : Value) wx => TcpOut w #[.int .u16 sp, .int .u16 dp, .int .u32 sq, .int .u32 ak, .int .u8 fl, .int .u16 wn, .int .u16 ur, .int .i64 mss, .bool hs, .int .i64 sc, .bool sk, .slice ba bs.length bc, .bool ht, .int .u32 tv, .int .u32 te, .slice da dn dc] (M4 ++ oHead bs.length) v wx)
          case first =>
            by_cases h0 : bs.length = 0
            · have e : oHead bs.length = [] := if_pos h0
              have E := Lib.hid e
              clear e
              go_wp2
              go_meet
              case rel =>
                rw [E.out, List.append_nil]
                exact ⟨a, c, rfl, HO.out, HK.out, HB.out, S⟩
            · have e : oHead bs.length = [1, 1, 5, 2 + 8 * bs.length] := if_neg h0
              have E := Lib.hid e
              clear e
              have Y := Lib.hid (bts_new wc [1, 1, 5, 2 + 8 * bs.length] 5 (by intro x hx; simp at hx; omega))
              have ba' := (Below.refl wc.heap.size wc).alloc (Nat.le_refl _) (.cells ([1, 1, 5, 2 + 8 * bs.length].map (fun x : Nat => Value.int .u8 (x : Nat))).toArray 5)
              have N0 := Lib.hid (HO.out.below ba')
              have B1 := Lib.hid (HB.out.trans (ba'.mono HB.out.size))
              have K1 := Lib.hid ((ba'.block _ (Nat.lt_of_succ_le S)).trans HK.out)
              have S1 := Nat.le_trans S ba'.size
              clear ba' HO HB HK
              go_wp2_with (at_builtin; refine wpList_append_bts rfl _ _ rfl (w.heap.size + 1) N0.out Y.out (fun h => by cases h) rfl rfl (by simp; omega) S1 ?_; intro a1 c1 w1 Z b1; have K2 := Lib.hid ((b1.block _ (Nat.lt_succ_self _)).trans K1.out);  have S2 := Nat.le_trans S1 b1.size; have B2 := Lib.hid (B1.out.trans (b1.mono (Nat.le_succ _))); have Z1 := Lib.hid Z; clear Z b1 N0 Y K1 B1)
              go_meet
              case rel =>
                rw [E.out]
                exact ⟨a1, c1, by first | rfl | simp, Z1.out, K2.out, B2.out, S2⟩
          case rest =>
            obtain ⟨a, c, rfl, O, K, B, S⟩ := hcut
            have hLl5 : (M4 ++ oHead bs.length).length ≤ 28 := by have hq : (oHead bs.length).length ≤ 4 := (by unfold oHead; split <;> simp); rw [List.length_append]; omega
            obtain ⟨M5, hM5⟩ : ∃ M5, M4 ++ oHead bs.length = M5 := ⟨_, rfl⟩
            rw [hM5] at O hLl5 ⊢
            have HM5 := Lib.hid hM5
            have HO := Lib.hid O
            have HK := Lib.hid K
            have HB := Lib.hid B
            clear O B hM5 hLl
            have g11 := blk_cell HK.out 11
            clear K
            go_wp2
            go_loopw [3, 4] (fun o i wr => ∃ k : Nat, k ≤ bs.length ∧ i = .int .i64 k ∧ TcpOut w #[.int .u16 sp, .int .u16 dp, .int .u32 sq, .int .u32 ak, .int .u8 fl, .int .u16 wn, .int .u16 ur, .int .i64 mss, .bool hs, .int .i64 sc, .bool sk, .slice ba bs.length bc, .bool ht, .int .u32 tv, .int .u32 te, .slice da dn dc] (M5 ++ ((bs.take k).map oBlk).flatten) o wr) (fun _ i _ => bs.length - (intOf i).toNat)
            case atStart => exact ⟨0, by omega, rfl, a, c, by simp, by simpa using HO.out, HK.out, HB.out, S⟩
            case round =>
              obtain ⟨k, hk, rfl, a2, c2, rfl, O, K, B, S'⟩ := hrel
              have HO2 := Lib.hid O
              have HK2 := Lib.hid K
              have HB2 := Lib.hid B
              have k11 := blk_cell K 11
              clear O K B HO HK HB g11
              have hml : (M5 ++ ((bs.take k).map oBlk).flatten).length ≤ 60 := by
                have hq : ((bs.take k).map oBlk).flatten.length ≤ 32 := by rw [blk_len, List.length_take]; omega
                rw [List.length_append]; omega
              obtain ⟨M6, hM6⟩ : ∃ M6, M5 ++ ((bs.take k).map oBlk).flatten = M6 := ⟨_, rfl⟩
              rw [hM6] at HO2 hml ⊢
              have HM6 := Lib.hid hM6
              clear hM6
              by_cases hlt : k < bs.length
              · obtain ⟨bk, off, rfl, hb, hcx⟩ := hx.2.resolve_left (fun h => by subst h; simp at hlt)
                obtain ⟨g1w, g2w⟩ := hcx k hlt
                have hv := hx.1 (bs.getD k (0, 0)) (by rw [List.getD_eq_getElem?_getD, List.getElem?_eq_getElem hlt]; exact List.getElem_mem _)
                have ek := Lib.hid (take_blk bs k hlt)
                generalize bs.getD k (0, 0) = pr at g1w g2w hv ek
                obtain ⟨x1, x2⟩ := pr
                dsimp only at g1w g2w hv
                rw [Nat.mul_comm 2 k] at g1w g2w
                clear hcx hx
                have i1 : (k : Int) < (bs.length : Int) := by omega
                have g1 := (HB2.out.cell (p := ⟨bk, off + k * 2, none⟩) hb).trans g1w
                obtain ⟨M7, hM7⟩ : ∃ M7, M6 ++ Mt.octs x1 4 = M7 := ⟨_, rfl⟩
                obtain ⟨M8, hM8⟩ : ∃ M8, M7 ++ Mt.octs x2 4 = M8 := ⟨_, rfl⟩
                have hm7 : M7.length ≤ 64 := by rw [← hM7, List.length_append, Mt.octs_length]; omega
                have HM7 := Lib.hid hM7
                have HM8 := Lib.hid hM8
                clear hM7 hM8
                go_upto_region 18 with (first
                  | (go_at_call 28; with_reducible refine (oct4_sl x1 _).mono ?_; rintro e wO2 ⟨rfl, YO2, bO2⟩; have ZO2 := Lib.hid (HO2.out.below bO2); have KO2 := Lib.hid ((bO2.block _ (Nat.lt_of_succ_le S')).trans HK2.out); have BO2 := Lib.hid (HB2.out.trans (bO2.mono HB2.out.size)); have SO2 := Nat.le_trans S' bO2.size; have YH2 := Lib.hid YO2.bts; clear bO2 YO2)
                  | (at_builtin; refine wpList_append_bts rfl _ _ rfl (w.heap.size + 1) ZO2.out YH2.out (fun h => by cases h) rfl rfl (by rw [Mt.octs_length]; omega) SO2 ?_; intro a3 c3 w3 Z b; rw [HM7.out] at Z ⊢; have Kn3 := Lib.hid ((b.block _ (Nat.lt_succ_self _)).trans KO2.out); have Bn3 := Lib.hid (BO2.out.trans (b.mono (Nat.le_succ _))); have Sn3 := Nat.le_trans SO2 b.size; have Zn3 := Lib.hid Z; clear k11 g1; have k11b := blk_cell Kn3.out 11; have g2 := (Bn3.out.cell (p := ⟨bk, off + k * 2 + 1, none⟩) hb).trans g2w; clear Z b)
                  | fail)
                go_wp2_with (first
                  | (go_at_call 28; with_reducible refine (oct4_sl x2 _).mono ?_; rintro e wO3 ⟨rfl, YO3, bO3⟩; have ZO3 := Lib.hid (Zn3.out.below bO3); have KO3 := Lib.hid ((bO3.block _ (Nat.lt_of_succ_le Sn3)).trans Kn3.out); have BO3 := Lib.hid (Bn3.out.trans (bO3.mono Bn3.out.size)); have SO3 := Nat.le_trans Sn3 bO3.size; have YH3 := Lib.hid YO3.bts; clear bO3 YO3)
                  | (at_builtin; refine wpList_append_bts rfl _ _ rfl (w.heap.size + 1) ZO3.out YH3.out (fun h => by cases h) rfl rfl (by rw [Mt.octs_length]; omega) SO3 ?_; intro a4 c4 w4 Z b; rw [HM8.out] at Z ⊢; have Kn4 := Lib.hid ((b.block _ (Nat.lt_succ_self _)).trans KO3.out); have Bn4 := Lib.hid (BO3.out.trans (b.mono (Nat.le_succ _))); have Sn4 := Nat.le_trans SO3 b.size; have Zn4 := Lib.hid Z; clear Z b)
                  | fail)
                go_roundw
                case rel =>
                  have e8 : M5 ++ ((bs.take (k + 1)).map oBlk).flatten = M8 := by rw [ek.out, ← HM8.out, ← HM7.out, ← HM6.out]; simp [oBlk]
                  exact ⟨k + 1, by omega, by go_num, a4, c4, by rw [e8], by rw [e8]; exact Zn4.out, Kn4.out, Bn4.out, Sn4⟩
                case measure => simp [intOf]; omega
              · obtain rfl : k = bs.length := by omega
                have e6 : laidO mss hs sc sk bs ht tv te = M6 := by rw [← HM6.out, ← HM5.out, ← HM4.out, ← HM3.out, ← HM2.out, ← HM1.out, List.take_length]; rfl
                have h4 : M6.length % 4 = 0 := by rw [← e6]; exact laid_four mss hs sc sk bs ht tv te
                have h4i : (M6.length : Int) % 4 = 0 := by omega
                have h4t : Int.tmod (M6.length : Int) 4 = 0 := by rw [Int.tmod_eq_emod_of_nonneg (by omega)]; exact h4i
                have E6 := Lib.hid e6
                clear hx e6
                go_wp2
                go_loopw [3] (fun o wx => o = .slice a2 M6.length c2 ∧ wr = wx) (fun _ _ => 0)
                case atStart => exact ⟨rfl, rfl⟩
                case round =>
                  obtain ⟨rfl, rfl⟩ := hrel
                  go_wp2
                  go_ret
                  rw [E6.out]
                  exact ⟨⟨a2, c2, rfl, HO2.out⟩, HB2.out⟩
end Go.Proofs.Ytgmgoilleakdcaa
