/- For every settings and list of samples and times that run out: the state may be, and the wait lies within its bounds; it never goes down by a time that runs out. No condition. -/
import Derived.Test.YtmpgpmdocofmgaaRows
import Derived.Test.YtmpgpmdocofmgaaRttA
import Derived.Test.YtmpgpmdocofmgaaGAgg
import Derived.RegionTactic
import Derived.Deep.DeepCutAuto
import Derived.Deep.RegionHeld3
import Derived.ProofKit
import Derived.OpenShut
import Derived.ChangeOld
import Derived.SizedLaws
namespace Go.Proofs.Ytmpgpmdocofmgaa.rttBounds
open Go.ChangeShapes Go.WideShapes Go.ChangeAt Go.RowKit Go.Deep Go.Proofs.Ytmpgpmdocofmgaa.Rt8

/-- What the region around a sample leaves. -/
def CutB (i m x g : Int) (hb : Bool) (S V B : Int) (nw : Array Value) (E : Int) (w V2 V4 : World) (p q : Value) (wx : World) : Prop :=
  ∃ gt, p = .pointer (some ⟨gt, 0, none⟩) ∧ q = .int .i64 E ∧ wx.heap[w.heap.size]? = some (.cells #[.int .i64 i, .int .i64 m, .int .i64 x, .int .i64 g] 23 (0, 0)) ∧ wx.heap[V2.heap.size]? = some (.cells #[.int .i64 i, .int .i64 m, .int .i64 x, .int .i64 g] 26 (0, 0)) ∧ wx.heap[V4.heap.size]? = some (.cells #[.bool hb, .int .i64 S, .int .i64 V, .int .i64 B] 27 (0, 0)) ∧ wx.heap[gt]? = some (.cells nw 27 (0, 0)) ∧ gt ≠ V4.heap.size ∧ Below w.heap.size w wx
theorem rto_bd {i m x g : Int} {hb : Bool} {S V B M : Int} (hP : PV i m x g) (hS : SV S V B) (h : rto 0 hb i m x g S V B = M) : m ≤ M ∧ M ≤ x := by
  subst h
  obtain ⟨_, ⟨m1, _⟩, _, _, hmx⟩ := hP
  obtain ⟨_, _, b0, b1⟩ := hS
  obtain ⟨p1, _⟩ := pow16 B b0 b1
  rw [rto, if_pos rfl]
  generalize (2 : Int) ^ B.toNat = p at p1 ⊢
  obtain ⟨U, hU⟩ : ∃ U, max (wt hb i g S V) m = U := ⟨_, rfl⟩
  rw [hU]
  have h1 : U * 1 ≤ U * p := Int.mul_le_mul_of_nonneg_left p1 (by omega)
  omega
theorem rto_mono {i m x g : Int} {hb : Bool} {S V B B' M M' : Int} (hP : PV i m x g) (hS : SV S V B) (hB : min (B + 1) 16 = B') (h : rto 0 hb i m x g S V B = M) (h' : rto 0 hb i m x g S V B' = M') : M ≤ M' := by
  subst h h' hB
  obtain ⟨_, ⟨m1, _⟩, _, _, _⟩ := hP
  obtain ⟨_, _, b0, b1⟩ := hS
  rw [rto, rto, if_pos rfl, if_pos rfl]
  by_cases h : B = 16
  · rw [show min (B + 1) 16 = B by omega]; exact Int.le_refl _
  · rw [show (min (B + 1) 16).toNat = B.toNat + 1 by omega, Int.pow_succ, ← Int.mul_assoc]
    obtain ⟨p1, _⟩ := pow16 B b0 b1
    obtain ⟨U, hU⟩ : ∃ U, max (wt hb i g S V) m = U := ⟨_, rfl⟩
    rw [hU]
    have := Int.mul_nonneg (show 0 ≤ U by omega) (show (0 : Int) ≤ 2 ^ B.toNat by omega)
    omega
theorem samp_sv {hb : Bool} {S V B z S' V' : Int} (hS : SV S V B) (hR : RV z) (h1 : sS 0 hb S z = S') (h2 : sV 0 hb S V z = V') : SV S' V' 0 := by
  subst h1 h2
  obtain ⟨s1, v1, _, _⟩ := hS
  obtain ⟨r1, r2⟩ := hR
  cases hb
  · simp only [sS, sV, if_true]
    exact ⟨by simp; omega, by simp; omega, by omega, by omega⟩
  · simp only [sS, sV, if_true]
    exact ⟨by omega, by omega, by omega, by omega⟩
theorem rto_m (i m x g : Int) (hb : Bool) (S V B M : Int) (w : World) (hP : PV i m x g) (hS : SV S V B) (h : rto 0 hb i m x g S V B = M) : Calls Try.prog 11 #[.agg #[.int .i64 i, .int .i64 m, .int .i64 x, .int .i64 g], .agg #[.bool hb, .int .i64 S, .int .i64 V, .int .i64 B]] w fun e w' => e = .returned (.tuple #[.int .i64 M, .int .i64 0]) ∧ Below w.heap.size w w' := by
  subst h
  exact rto_ok i m x g hb S V B w hP hS
theorem back_b (i m x g : Int) (hb : Bool) (S V B B' : Int) (w : World) (hP : PV i m x g) (hS : SV S V B) (h : min (B + 1) 16 = B') : Calls Try.prog 9 #[.agg #[.int .i64 i, .int .i64 m, .int .i64 x, .int .i64 g], .agg #[.bool hb, .int .i64 S, .int .i64 V, .int .i64 B]] w fun e w' => e = .returned (.tuple #[.agg #[.bool hb, .int .i64 S, .int .i64 V, .int .i64 B'], .int .i64 0]) ∧ Below w.heap.size w w' := by
  subst h
  exact back_ok i m x g hb S V B w hP hS
theorem samp_b (i m x g : Int) (hb : Bool) (S V B z S' V' : Int) (w : World) (hP : PV i m x g) (hS : SV S V B) (hR : RV z) (h1 : sS 0 hb S z = S') (h2 : sV 0 hb S V z = V') : Calls Try.prog 7 #[.agg #[.int .i64 i, .int .i64 m, .int .i64 x, .int .i64 g], .agg #[.bool hb, .int .i64 S, .int .i64 V, .int .i64 B], .int .i64 z] w fun e w' => e = .returned (.tuple #[.agg #[.bool true, .int .i64 S', .int .i64 V', .int .i64 0], .int .i64 0]) ∧ Below w.heap.size w w' := by
  subst h1 h2
  exact sample_ok i m x g hb S V B z w hP hS hR

set_option maxRecDepth 100000 in
set_option maxHeartbeats 1000000 in
theorem walk (i m x g : Int) (a : Option Addr) (zs : List Int) (cap : Nat) (w : World) (_i1 : -9223372036854775808 ≤ i) (_i2 : i ≤ 9223372036854775807) (_m1 : -9223372036854775808 ≤ m) (_m2 : m ≤ 9223372036854775807) (_x1 : -9223372036854775808 ≤ x) (_x2 : x ≤ 9223372036854775807) (_g1 : -9223372036854775808 ≤ g) (_g2 : g ≤ 9223372036854775807) (hx : Its w a zs) (_hcap : a = none → cap = 0) (hre : zs.length ≤ 17592186043904) :
    Calls Try.prog 4 #[.agg #[.int .i64 i, .int .i64 m, .int .i64 x, .int .i64 g], .slice a zs.length cap] w fun e w' => e = .returned (.bool true) ∧ Below w.heap.size w w' := by
  have HX := Lib.hid hx
  clear hx
  go_enter Try.func4, Try.ntmps4
  have q_0 := Below.refl w.heap.size w
  go_wp2_with fail
  have b : Below w.heap.size w (w.alloc (.cells #[.int .i64 i, .int .i64 m, .int .i64 x, .int .i64 g] 23)) := ((Below.refl _ w).alloc (Nat.le_refl _) (.cells #[.int .i64 i, .int .i64 m, .int .i64 x, .int .i64 g] 23))
  have nb0 := blk_new w (.cells #[.int .i64 i, .int .i64 m, .int .i64 x, .int .i64 g] 23)
  have nz0 : w.heap.size < (w.alloc (.cells #[.int .i64 i, .int .i64 m, .int .i64 x, .int .i64 g] 23)).heap.size := by simp only [World.size_alloc]; omega
  have q_1 := q_0.trans (b.mono q_0.size)
  clear q_0
  clear b
  have P_1 := Lib.hid nb0
  have Pz_1 := nz0
  clear nb0 nz0
  have Pc0_1 := blk_cell P_1.out 0
  have Pc1_1 := blk_cell P_1.out 1
  have Pc2_1 := blk_cell P_1.out 2
  have Pc3_1 := blk_cell P_1.out 3
  generalize (w.alloc (.cells #[.int .i64 i, .int .i64 m, .int .i64 x, .int .i64 g] 23)) = V1 at q_1 P_1 Pz_1 Pc0_1 Pc1_1 Pc2_1 Pc3_1 ⊢
  refine (alive_any _).mono ?_
  rintro e V2 ⟨rfl, b⟩
  have P_2 := Lib.hid ((b.block _ Pz_1).trans P_1.out)
  have Pz_2 := Nat.lt_of_lt_of_le Pz_1 b.size
  have Pc0_2 := blk_cell P_2.out 0
  have Pc1_2 := blk_cell P_2.out 1
  have Pc2_2 := blk_cell P_2.out 2
  have Pc3_2 := blk_cell P_2.out 3
  have q_2 := q_1.trans (b.mono q_1.size)
  clear P_1 Pz_1 Pc0_1 Pc1_1 Pc2_1 Pc3_1 q_1
  clear b
  go_wp2_with fail
  have b : Below V2.heap.size V2 (V2.alloc (.cells #[.int .i64 i, .int .i64 m, .int .i64 x, .int .i64 g] 26)) := ((Below.refl _ V2).alloc (Nat.le_refl _) (.cells #[.int .i64 i, .int .i64 m, .int .i64 x, .int .i64 g] 26))
  have nb0 := blk_new V2 (.cells #[.int .i64 i, .int .i64 m, .int .i64 x, .int .i64 g] 26)
  have nz0 : V2.heap.size < (V2.alloc (.cells #[.int .i64 i, .int .i64 m, .int .i64 x, .int .i64 g] 26)).heap.size := by simp only [World.size_alloc]; omega
  have P_3 := Lib.hid ((b.block _ Pz_2).trans P_2.out)
  have Pz_3 := Nat.lt_of_lt_of_le Pz_2 b.size
  have Pc0_3 := blk_cell P_3.out 0
  have Pc1_3 := blk_cell P_3.out 1
  have Pc2_3 := blk_cell P_3.out 2
  have Pc3_3 := blk_cell P_3.out 3
  have q_3 := q_2.trans (b.mono q_2.size)
  clear P_2 Pz_2 Pc0_2 Pc1_2 Pc2_2 Pc3_2 q_2
  clear b
  have A_3 := Lib.hid nb0
  have Az_3 := nz0
  clear nb0 nz0
  have Ac0_3 := blk_cell A_3.out 0
  have Ac1_3 := blk_cell A_3.out 1
  have Ac2_3 := blk_cell A_3.out 2
  have Ac3_3 := blk_cell A_3.out 3
  generalize (V2.alloc (.cells #[.int .i64 i, .int .i64 m, .int .i64 x, .int .i64 g] 26)) = V3 at q_3 P_3 Pz_3 Pc0_3 Pc1_3 Pc2_3 Pc3_3 A_3 Az_3 Ac0_3 Ac1_3 Ac2_3 Ac3_3 ⊢
  by_cases hP : PV i m x g
  case neg =>
      refine (check_no i m x g _ hP).mono ?_
      rintro e V4 ⟨rfl, b⟩
      have P_4 := Lib.hid ((b.block _ Pz_3).trans P_3.out)
      have Pz_4 := Nat.lt_of_lt_of_le Pz_3 b.size
      have Pc0_4 := blk_cell P_4.out 0
      have Pc1_4 := blk_cell P_4.out 1
      have Pc2_4 := blk_cell P_4.out 2
      have Pc3_4 := blk_cell P_4.out 3
      have A_4 := Lib.hid ((b.block _ Az_3).trans A_3.out)
      have Az_4 := Nat.lt_of_lt_of_le Az_3 b.size
      have Ac0_4 := blk_cell A_4.out 0
      have Ac1_4 := blk_cell A_4.out 1
      have Ac2_4 := blk_cell A_4.out 2
      have Ac3_4 := blk_cell A_4.out 3
      have q_4 := q_3.trans (b.mono q_3.size)
      clear P_3 Pz_3 Pc0_3 Pc1_3 Pc2_3 Pc3_3 A_3 Az_3 Ac0_3 Ac1_3 Ac2_3 Ac3_3 q_3
      clear b
      go_wp2_with fail
      refine (num_any _ _).mono ?_
      rintro e w' ⟨rfl, rfl⟩
      go_wp2
      go_ret
      exact ⟨rfl, q_4⟩
  case pos =>
      have HP := Lib.hid hP
      clear hP
      refine (check_yes i m x g _ HP.out).mono ?_
      rintro e V4 ⟨rfl, b⟩
      have P_4 := Lib.hid ((b.block _ Pz_3).trans P_3.out)
      have Pz_4 := Nat.lt_of_lt_of_le Pz_3 b.size
      have Pc0_4 := blk_cell P_4.out 0
      have Pc1_4 := blk_cell P_4.out 1
      have Pc2_4 := blk_cell P_4.out 2
      have Pc3_4 := blk_cell P_4.out 3
      have A_4 := Lib.hid ((b.block _ Az_3).trans A_3.out)
      have Az_4 := Nat.lt_of_lt_of_le Az_3 b.size
      have Ac0_4 := blk_cell A_4.out 0
      have Ac1_4 := blk_cell A_4.out 1
      have Ac2_4 := blk_cell A_4.out 2
      have Ac3_4 := blk_cell A_4.out 3
      have q_4 := q_3.trans (b.mono q_3.size)
      clear P_3 Pz_3 Pc0_3 Pc1_3 Pc2_3 Pc3_3 A_3 Az_3 Ac0_3 Ac1_3 Ac2_3 Ac3_3 q_3
      clear b
      go_wp2_with fail
      refine (num_any _ _).mono ?_
      rintro e w' ⟨rfl, rfl⟩
      have HLE : Hid (w.heap.size ≤ V4.heap.size) := Lib.hid q_4.size
      have N1 : Hid (V4.heap.size ≠ w.heap.size) := Lib.hid (Nat.ne_of_gt Pz_4)
      have N2 : Hid (V4.heap.size ≠ V2.heap.size) := Lib.hid (Nat.ne_of_gt Az_4)
      go_wp2_with fail
      have b : Below V4.heap.size V4 (V4.alloc (.cells #[.bool false, .int .i64 0, .int .i64 0, .int .i64 0] 27)) := ((Below.refl _ V4).alloc (Nat.le_refl _) (.cells #[.bool false, .int .i64 0, .int .i64 0, .int .i64 0] 27))
      have nb0 := blk_new V4 (.cells #[.bool false, .int .i64 0, .int .i64 0, .int .i64 0] 27)
      have nz0 : V4.heap.size < (V4.alloc (.cells #[.bool false, .int .i64 0, .int .i64 0, .int .i64 0] 27)).heap.size := by simp only [World.size_alloc]; omega
      have P_5 := Lib.hid ((b.block _ Pz_4).trans P_4.out)
      have Pz_5 := Nat.lt_of_lt_of_le Pz_4 b.size
      have Pc0_5 := blk_cell P_5.out 0
      have Pc1_5 := blk_cell P_5.out 1
      have Pc2_5 := blk_cell P_5.out 2
      have Pc3_5 := blk_cell P_5.out 3
      have A_5 := Lib.hid ((b.block _ Az_4).trans A_4.out)
      have Az_5 := Nat.lt_of_lt_of_le Az_4 b.size
      have Ac0_5 := blk_cell A_5.out 0
      have Ac1_5 := blk_cell A_5.out 1
      have Ac2_5 := blk_cell A_5.out 2
      have Ac3_5 := blk_cell A_5.out 3
      have q_5 := q_4.trans (b.mono q_4.size)
      clear P_4 Pz_4 Pc0_4 Pc1_4 Pc2_4 Pc3_4 A_4 Az_4 Ac0_4 Ac1_4 Ac2_4 Ac3_4 q_4
      clear b
      have T_5 := Lib.hid nb0
      have Tz_5 := nz0
      clear nb0 nz0
      have Tc0_5 := blk_cell T_5.out 0
      have Tc1_5 := blk_cell T_5.out 1
      have Tc2_5 := blk_cell T_5.out 2
      have Tc3_5 := blk_cell T_5.out 3
      generalize (V4.alloc (.cells #[.bool false, .int .i64 0, .int .i64 0, .int .i64 0] 27)) = V5 at q_5 P_5 Pz_5 Pc0_5 Pc1_5 Pc2_5 Pc3_5 A_5 Az_5 Ac0_5 Ac1_5 Ac2_5 Ac3_5 T_5 Tz_5 Tc0_5 Tc1_5 Tc2_5 Tc3_5 ⊢
      clear Pc0_5 Pc1_5 Pc2_5 Pc3_5
      clear Ac0_5 Ac1_5 Ac2_5 Ac3_5
      clear Tc0_5 Tc1_5 Tc2_5 Tc3_5
      go_loopw [7] (fun ii wr => ∃ (c : Nat) (hb : Bool) (S V B : Int), c ≤ zs.length ∧ ii = .int .i64 c ∧ Hid (SV S V B) ∧ wr.heap[w.heap.size]? = some (.cells #[.int .i64 i, .int .i64 m, .int .i64 x, .int .i64 g] 23 (0, 0)) ∧ wr.heap[V2.heap.size]? = some (.cells #[.int .i64 i, .int .i64 m, .int .i64 x, .int .i64 g] 26 (0, 0)) ∧ wr.heap[V4.heap.size]? = some (.cells #[.bool hb, .int .i64 S, .int .i64 V, .int .i64 B] 27 (0, 0)) ∧ Below w.heap.size w wr) (fun ii _ => zs.length - (intOf ii).toNat)
      case atStart => exact ⟨0, _, _, _, _, by omega, rfl, Lib.hid (by decide), P_5.out, A_5.out, T_5.out, q_5⟩
      case round =>
        obtain ⟨c, hb, S, V, B, hc, rfl, HS, h1, h2, h3, hq⟩ := hrel
        have q_0 := hq
        have Pz_0 := blk_lt h1
        have Az_0 := blk_lt h2
        have Tz_0 := blk_lt h3
        have P_0 := Lib.hid (h1)
        have Pc0_0 := blk_cell P_0.out 0
        have Pc1_0 := blk_cell P_0.out 1
        have Pc2_0 := blk_cell P_0.out 2
        have Pc3_0 := blk_cell P_0.out 3
        have A_0 := Lib.hid (h2)
        have Ac0_0 := blk_cell A_0.out 0
        have Ac1_0 := blk_cell A_0.out 1
        have Ac2_0 := blk_cell A_0.out 2
        have Ac3_0 := blk_cell A_0.out 3
        have T_0 := Lib.hid (h3)
        have Tc0_0 := blk_cell T_0.out 0
        have Tc1_0 := blk_cell T_0.out 1
        have Tc2_0 := blk_cell T_0.out 2
        have Tc3_0 := blk_cell T_0.out 3
        clear h1 h2 h3 hq P_5 A_5 T_5 q_5 Pz_5 Az_5 Tz_5
        by_cases hlt : c < zs.length
        case neg =>
          obtain rfl : c = zs.length := by omega
          go_wp2
          go_ret
          exact ⟨rfl, q_0⟩
        case pos =>
          obtain ⟨bl, off, rfl, hbl, hcx⟩ : ∃ b off, a = some ⟨b, off, none⟩ ∧ b < w.heap.size ∧ ∀ i, i < zs.length → w.cell? ⟨b, off + i, none⟩ = some (.int .i64 (zs.getD i 0)) := by
            rcases HX.out.2 with h | h
            · subst h; simp at hlt
            · exact h
          have hz0 := hcx c hlt
          have hzb := HX.out.1 (zs.getD c 0) (by rw [List.getD_eq_getElem?_getD, List.getElem?_eq_getElem hlt]; exact List.getElem_mem hlt)
          have i1 : (c : Int) < (zs.length : Int) := by omega
          generalize zs.getD c 0 = z at hz0 hzb
          obtain ⟨hzb1, hzb2⟩ := hzb
          clear hcx
          obtain ⟨M, hM⟩ : ∃ M, rto 0 hb i m x g S V B = M := ⟨_, rfl⟩
          obtain ⟨hM1, hM2⟩ := rto_bd HP.out HS.out hM
          have HM := Lib.hid hM
          clear hM
          go_wp2_with fail
          refine (rto_m i m x g hb S V B M _ HP.out HS.out HM.out).mono ?_
          rintro e V21 ⟨rfl, b⟩
          have P_1 := Lib.hid ((b.block _ Pz_0).trans P_0.out)
          have Pz_1 := Nat.lt_of_lt_of_le Pz_0 b.size
          have Pc0_1 := blk_cell P_1.out 0
          have Pc1_1 := blk_cell P_1.out 1
          have Pc2_1 := blk_cell P_1.out 2
          have Pc3_1 := blk_cell P_1.out 3
          have A_1 := Lib.hid ((b.block _ Az_0).trans A_0.out)
          have Az_1 := Nat.lt_of_lt_of_le Az_0 b.size
          have Ac0_1 := blk_cell A_1.out 0
          have Ac1_1 := blk_cell A_1.out 1
          have Ac2_1 := blk_cell A_1.out 2
          have Ac3_1 := blk_cell A_1.out 3
          have T_1 := Lib.hid ((b.block _ Tz_0).trans T_0.out)
          have Tz_1 := Nat.lt_of_lt_of_le Tz_0 b.size
          have Tc0_1 := blk_cell T_1.out 0
          have Tc1_1 := blk_cell T_1.out 1
          have Tc2_1 := blk_cell T_1.out 2
          have Tc3_1 := blk_cell T_1.out 3
          have q_1 := q_0.trans (b.mono q_0.size)
          clear P_0 Pz_0 Pc0_0 Pc1_0 Pc2_0 Pc3_0 A_0 Az_0 Ac0_0 Ac1_0 Ac2_0 Ac3_0 T_0 Tz_0 Tc0_0 Tc1_0 Tc2_0 Tc3_0 q_0
          clear b
          go_wp2_with fail
          refine (num_any _ _).mono ?_
          rintro e w' ⟨rfl, rfl⟩
          have z1 := (q_1.cell (p := ⟨bl, off + c, none⟩) hbl).trans hz0
          by_cases hneg : z < 0
          case pos =>
            obtain ⟨B', hB⟩ : ∃ B', min (B + 1) 16 = B' := ⟨_, rfl⟩
            have HS2 : Hid (SV S V B') := Lib.hid (by obtain ⟨t1, t2, t3, t4⟩ := HS.out; exact ⟨t1, t2, by omega, by omega⟩)
            obtain ⟨M', hM'⟩ : ∃ M, rto 0 hb i m x g S V B' = M := ⟨_, rfl⟩
            have hmm : M ≤ M' := rto_mono HP.out HS.out hB HM.out hM'
            have HM' := Lib.hid hM'
            have HB := Lib.hid hB
            clear hM' hB
            go_wp2_with fail
            refine (back_b i m x g hb S V B B' _ HP.out HS.out HB.out).mono ?_
            rintro e V22 ⟨rfl, b⟩
            have P_2 := Lib.hid ((b.block _ Pz_1).trans P_1.out)
            have Pz_2 := Nat.lt_of_lt_of_le Pz_1 b.size
            have Pc0_2 := blk_cell P_2.out 0
            have Pc1_2 := blk_cell P_2.out 1
            have Pc2_2 := blk_cell P_2.out 2
            have Pc3_2 := blk_cell P_2.out 3
            have A_2 := Lib.hid ((b.block _ Az_1).trans A_1.out)
            have Az_2 := Nat.lt_of_lt_of_le Az_1 b.size
            have Ac0_2 := blk_cell A_2.out 0
            have Ac1_2 := blk_cell A_2.out 1
            have Ac2_2 := blk_cell A_2.out 2
            have Ac3_2 := blk_cell A_2.out 3
            have T_2 := Lib.hid ((b.block _ Tz_1).trans T_1.out)
            have Tz_2 := Nat.lt_of_lt_of_le Tz_1 b.size
            have Tc0_2 := blk_cell T_2.out 0
            have Tc1_2 := blk_cell T_2.out 1
            have Tc2_2 := blk_cell T_2.out 2
            have Tc3_2 := blk_cell T_2.out 3
            have q_2 := q_1.trans (b.mono q_1.size)
            clear P_1 Pz_1 Pc0_1 Pc1_1 Pc2_1 Pc3_1 A_1 Az_1 Ac0_1 Ac1_1 Ac2_1 Ac3_1 T_1 Tz_1 Tc0_1 Tc1_1 Tc2_1 Tc3_1 q_1
            clear b
            go_wp2_with fail
            have b : Below V22.heap.size V22 (V22.alloc (.cells #[.bool hb, .int .i64 S, .int .i64 V, .int .i64 B'] 27)) := ((Below.refl _ V22).alloc (Nat.le_refl _) (.cells #[.bool hb, .int .i64 S, .int .i64 V, .int .i64 B'] 27))
            have nb0 := blk_new V22 (.cells #[.bool hb, .int .i64 S, .int .i64 V, .int .i64 B'] 27)
            have nz0 : V22.heap.size < (V22.alloc (.cells #[.bool hb, .int .i64 S, .int .i64 V, .int .i64 B'] 27)).heap.size := by simp only [World.size_alloc]; omega
            have P_3 := Lib.hid ((b.block _ Pz_2).trans P_2.out)
            have Pz_3 := Nat.lt_of_lt_of_le Pz_2 b.size
            have Pc0_3 := blk_cell P_3.out 0
            have Pc1_3 := blk_cell P_3.out 1
            have Pc2_3 := blk_cell P_3.out 2
            have Pc3_3 := blk_cell P_3.out 3
            have A_3 := Lib.hid ((b.block _ Az_2).trans A_2.out)
            have Az_3 := Nat.lt_of_lt_of_le Az_2 b.size
            have Ac0_3 := blk_cell A_3.out 0
            have Ac1_3 := blk_cell A_3.out 1
            have Ac2_3 := blk_cell A_3.out 2
            have Ac3_3 := blk_cell A_3.out 3
            have T_3 := Lib.hid ((b.block _ Tz_2).trans T_2.out)
            have Tz_3 := Nat.lt_of_lt_of_le Tz_2 b.size
            have Tc0_3 := blk_cell T_3.out 0
            have Tc1_3 := blk_cell T_3.out 1
            have Tc2_3 := blk_cell T_3.out 2
            have Tc3_3 := blk_cell T_3.out 3
            have q_3 := q_2.trans (b.mono q_2.size)
            clear P_2 Pz_2 Pc0_2 Pc1_2 Pc2_2 Pc3_2 A_2 Az_2 Ac0_2 Ac1_2 Ac2_2 Ac3_2 T_2 Tz_2 Tc0_2 Tc1_2 Tc2_2 Tc3_2 q_2
            clear b
            have X_3 := Lib.hid nb0
            have Xz_3 := nz0
            clear nb0 nz0
            have Xc0_3 := blk_cell X_3.out 0
            have Xc1_3 := blk_cell X_3.out 1
            have Xc2_3 := blk_cell X_3.out 2
            have Xc3_3 := blk_cell X_3.out 3
            generalize (V22.alloc (.cells #[.bool hb, .int .i64 S, .int .i64 V, .int .i64 B'] 27)) = V23 at q_3 P_3 Pz_3 Pc0_3 Pc1_3 Pc2_3 Pc3_3 A_3 Az_3 Ac0_3 Ac1_3 Ac2_3 Ac3_3 T_3 Tz_3 Tc0_3 Tc1_3 Tc2_3 Tc3_3 X_3 Xz_3 Xc0_3 Xc1_3 Xc2_3 Xc3_3 ⊢
            refine (rto_m i m x g hb S V B' M' _ HP.out HS2.out HM'.out).mono ?_
            rintro e V24 ⟨rfl, b⟩
            have P_4 := Lib.hid ((b.block _ Pz_3).trans P_3.out)
            have Pz_4 := Nat.lt_of_lt_of_le Pz_3 b.size
            have Pc0_4 := blk_cell P_4.out 0
            have Pc1_4 := blk_cell P_4.out 1
            have Pc2_4 := blk_cell P_4.out 2
            have Pc3_4 := blk_cell P_4.out 3
            have A_4 := Lib.hid ((b.block _ Az_3).trans A_3.out)
            have Az_4 := Nat.lt_of_lt_of_le Az_3 b.size
            have Ac0_4 := blk_cell A_4.out 0
            have Ac1_4 := blk_cell A_4.out 1
            have Ac2_4 := blk_cell A_4.out 2
            have Ac3_4 := blk_cell A_4.out 3
            have T_4 := Lib.hid ((b.block _ Tz_3).trans T_3.out)
            have Tz_4 := Nat.lt_of_lt_of_le Tz_3 b.size
            have Tc0_4 := blk_cell T_4.out 0
            have Tc1_4 := blk_cell T_4.out 1
            have Tc2_4 := blk_cell T_4.out 2
            have Tc3_4 := blk_cell T_4.out 3
            have X_4 := Lib.hid ((b.block _ Xz_3).trans X_3.out)
            have Xz_4 := Nat.lt_of_lt_of_le Xz_3 b.size
            have Xc0_4 := blk_cell X_4.out 0
            have Xc1_4 := blk_cell X_4.out 1
            have Xc2_4 := blk_cell X_4.out 2
            have Xc3_4 := blk_cell X_4.out 3
            have q_4 := q_3.trans (b.mono q_3.size)
            clear P_3 Pz_3 Pc0_3 Pc1_3 Pc2_3 Pc3_3 A_3 Az_3 Ac0_3 Ac1_3 Ac2_3 Ac3_3 T_3 Tz_3 Tc0_3 Tc1_3 Tc2_3 Tc3_3 X_3 Xz_3 Xc0_3 Xc1_3 Xc2_3 Xc3_3 q_3
            clear b
            go_wp2_with fail
            refine (num_any _ _).mono ?_
            rintro e w' ⟨rfl, rfl⟩
            go_wp2_with fail
            refine (num_any _ _).mono ?_
            rintro e w' ⟨rfl, rfl⟩
            have Tf0 := blk_free T_4.out 0
            have Tf1 := blk_free T_4.out 1
            have Tf2 := blk_free T_4.out 2
            have Tf3 := blk_free T_4.out 3
            go_wp2_with fail
            go_roundw
            case rel =>
              refine ⟨c + 1, hb, S, V, B', by omega, by go_num, HS2, blk_other (blk_other (blk_other (blk_other P_4.out N1.out _) N1.out _) N1.out _) N1.out _, blk_other (blk_other (blk_other (blk_other A_4.out N2.out _) N2.out _) N2.out _) N2.out _, blk_set (blk_set (blk_set (blk_set T_4.out 0 _) 1 _) 2 _) 3 _, ?_⟩
              have Q1 := Lib.hid q_4
              have hle := HLE.out
              (repeat' (first | (with_reducible exact Q1.out) | (with_reducible exact Below.refl _ _) | (with_reducible refine Below.alloc ?_ ?_ _) | (with_reducible refine Below.setCell ?_ ?_ _) | (with_reducible refine Below.drew ?_) | (with_reducible refine below_drewN ?_ _) | omega | (dsimp only; omega) | (simp; done) | (simp; omega)))
            case measure => simp [intOf]; omega
          case neg =>
            by_cases hR : RV z
            case pos =>
              have hR' := Lib.hid hR
              obtain ⟨S', hS'⟩ : ∃ t, sS 0 hb S z = t := ⟨_, rfl⟩
              obtain ⟨V', hV'⟩ : ∃ t, sV 0 hb S V z = t := ⟨_, rfl⟩
              have HS2 : Hid (SV S' V' 0) := Lib.hid (samp_sv HS.out hR hS' hV')
              have HSS := Lib.hid hS'
              have HVV := Lib.hid hV'
              clear hS' hV' hR
              have y := ((Below.refl V21.heap.size V21).alloc (Nat.le_refl _) (.cells #[.bool false, .int .i64 0, .int .i64 0, .int .i64 0] 27)).drew
              have PY := Lib.hid ((y.block _ Pz_1).trans P_1.out)
              have AY := Lib.hid ((y.block _ Az_1).trans A_1.out)
              have TY := Lib.hid ((y.block _ Tz_1).trans T_1.out)
              have PYz := Nat.lt_of_lt_of_le Pz_1 y.size
              have AYz := Nat.lt_of_lt_of_le Az_1 y.size
              have TYz := Nat.lt_of_lt_of_le Tz_1 y.size
              have hblV : bl < V21.heap.size := Nat.lt_of_lt_of_le hbl q_1.size
              have zY := Lib.hid ((y.cell (p := ⟨bl, off + c, none⟩) hblV).trans z1)
              have hblY := Nat.lt_of_lt_of_le hblV y.size
              have XY := Lib.hid (blk_new V21 (.cells #[.bool false, .int .i64 0, .int .i64 0, .int .i64 0] 27))
              have SD : Hid (V21.drew.cell? ⟨V2.heap.size, 0, none⟩ = some (.int .i64 i) ∧ V21.drew.cell? ⟨V2.heap.size, 1, none⟩ = some (.int .i64 m) ∧ V21.drew.cell? ⟨V2.heap.size, 2, none⟩ = some (.int .i64 x) ∧ V21.drew.cell? ⟨V2.heap.size, 3, none⟩ = some (.int .i64 g) ∧ V21.drew.cell? ⟨V4.heap.size, 0, none⟩ = some (.bool hb) ∧ V21.drew.cell? ⟨V4.heap.size, 1, none⟩ = some (.int .i64 S) ∧ V21.drew.cell? ⟨V4.heap.size, 2, none⟩ = some (.int .i64 V) ∧ V21.drew.cell? ⟨V4.heap.size, 3, none⟩ = some (.int .i64 B) ∧ V21.drew.cell? ⟨bl, off + c, none⟩ = some (.int .i64 z)) := Lib.hid ⟨blk_cell A_1.out 0, blk_cell A_1.out 1, blk_cell A_1.out 2, blk_cell A_1.out 3, blk_cell T_1.out 0, blk_cell T_1.out 1, blk_cell T_1.out 2, blk_cell T_1.out 3, z1⟩
              have SY : Hid ((V21.alloc (.cells #[.bool false, .int .i64 0, .int .i64 0, .int .i64 0] 27)).drew.cell? ⟨V2.heap.size, 0, none⟩ = some (.int .i64 i) ∧ (V21.alloc (.cells #[.bool false, .int .i64 0, .int .i64 0, .int .i64 0] 27)).drew.cell? ⟨V2.heap.size, 1, none⟩ = some (.int .i64 m) ∧ (V21.alloc (.cells #[.bool false, .int .i64 0, .int .i64 0, .int .i64 0] 27)).drew.cell? ⟨V2.heap.size, 2, none⟩ = some (.int .i64 x) ∧ (V21.alloc (.cells #[.bool false, .int .i64 0, .int .i64 0, .int .i64 0] 27)).drew.cell? ⟨V2.heap.size, 3, none⟩ = some (.int .i64 g) ∧ (V21.alloc (.cells #[.bool false, .int .i64 0, .int .i64 0, .int .i64 0] 27)).drew.cell? ⟨V4.heap.size, 0, none⟩ = some (.bool hb) ∧ (V21.alloc (.cells #[.bool false, .int .i64 0, .int .i64 0, .int .i64 0] 27)).drew.cell? ⟨V4.heap.size, 1, none⟩ = some (.int .i64 S) ∧ (V21.alloc (.cells #[.bool false, .int .i64 0, .int .i64 0, .int .i64 0] 27)).drew.cell? ⟨V4.heap.size, 2, none⟩ = some (.int .i64 V) ∧ (V21.alloc (.cells #[.bool false, .int .i64 0, .int .i64 0, .int .i64 0] 27)).drew.cell? ⟨V4.heap.size, 3, none⟩ = some (.int .i64 B) ∧ (V21.alloc (.cells #[.bool false, .int .i64 0, .int .i64 0, .int .i64 0] 27)).drew.cell? ⟨bl, off + c, none⟩ = some (.int .i64 z)) := Lib.hid ⟨blk_cell AY.out 0, blk_cell AY.out 1, blk_cell AY.out 2, blk_cell AY.out 3, blk_cell TY.out 0, blk_cell TY.out 1, blk_cell TY.out 2, blk_cell TY.out 3, zY.out⟩
              have qD := Lib.hid q_1.drew
              have qY := Lib.hid (q_1.trans (y.mono q_1.size))
              have z1H := Lib.hid z1
              have XN : Hid (V21.heap.size ≠ V4.heap.size) := Lib.hid (Nat.ne_of_gt Tz_1)
              have NA2 : Hid (V21.heap.size ≠ V2.heap.size) := Lib.hid (Nat.ne_of_gt Az_1)
              have bnx : V21.heap.size ≠ bl := Nat.ne_of_gt hblV
              have NP2 : Hid (V21.heap.size ≠ w.heap.size) := Lib.hid (Nat.ne_of_gt Pz_1)
              have HVL : Hid (w.heap.size ≤ V21.heap.size) := Lib.hid q_1.size
              clear y
              go_wp2_with fail

              go_cut [14, 15] (fun (pt pe : Value) (wx : World) => CutB i m x g hb S V B #[.bool true, .int .i64 S', .int .i64 V', .int .i64 0] 0 w V2 V4 pt pe wx)
              case first =>
                go_region_held3 (fun W' => W'.cell? ⟨V2.heap.size, 0, none⟩ = some (.int .i64 i) ∧ W'.cell? ⟨V2.heap.size, 1, none⟩ = some (.int .i64 m) ∧ W'.cell? ⟨V2.heap.size, 2, none⟩ = some (.int .i64 x) ∧ W'.cell? ⟨V2.heap.size, 3, none⟩ = some (.int .i64 g) ∧ W'.cell? ⟨V4.heap.size, 0, none⟩ = some (.bool hb) ∧ W'.cell? ⟨V4.heap.size, 1, none⟩ = some (.int .i64 S) ∧ W'.cell? ⟨V4.heap.size, 2, none⟩ = some (.int .i64 V) ∧ W'.cell? ⟨V4.heap.size, 3, none⟩ = some (.int .i64 B) ∧ W'.cell? ⟨bl, off + c, none⟩ = some (.int .i64 z)) (first | (with_reducible exact SD.out) | (with_reducible exact SY.out) | (with_reducible exact SW.out) | (with_reducible exact SA.out _) | (with_reducible exact SX.out) | go_keep) (first
                  | (go_at_call 7; (with_reducible refine (samp_b i m x g hb S V B z S' V' (V21.drew) HP.out HS.out hR'.out HSS.out HVV.out).mono ?_); rintro e W1 ⟨rfl, b⟩; have P1 := Lib.hid ((b.block _ Pz_1).trans P_1.out); have A1 := Lib.hid ((b.block _ Az_1).trans A_1.out); have T1 := Lib.hid ((b.block _ Tz_1).trans T_1.out); have Tz1 := Nat.lt_of_lt_of_le Tz_1 b.size; have zW := Lib.hid ((b.cell (p := ⟨bl, off + c, none⟩) hblV).trans z1H.out); have SW : Hid (W1.cell? ⟨V2.heap.size, 0, none⟩ = some (.int .i64 i) ∧ W1.cell? ⟨V2.heap.size, 1, none⟩ = some (.int .i64 m) ∧ W1.cell? ⟨V2.heap.size, 2, none⟩ = some (.int .i64 x) ∧ W1.cell? ⟨V2.heap.size, 3, none⟩ = some (.int .i64 g) ∧ W1.cell? ⟨V4.heap.size, 0, none⟩ = some (.bool hb) ∧ W1.cell? ⟨V4.heap.size, 1, none⟩ = some (.int .i64 S) ∧ W1.cell? ⟨V4.heap.size, 2, none⟩ = some (.int .i64 V) ∧ W1.cell? ⟨V4.heap.size, 3, none⟩ = some (.int .i64 B) ∧ W1.cell? ⟨bl, off + c, none⟩ = some (.int .i64 z)) := Lib.hid ⟨blk_cell A1.out 0, blk_cell A1.out 1, blk_cell A1.out 2, blk_cell A1.out 3, blk_cell T1.out 0, blk_cell T1.out 1, blk_cell T1.out 2, blk_cell T1.out 3, zW.out⟩; have QW := Lib.hid (qD.out.trans (b.mono qD.out.size)); have Az1 := Nat.lt_of_lt_of_le Az_1 b.size; have Pz1 := Nat.lt_of_lt_of_le Pz_1 b.size; have zl1 : bl < W1.heap.size := Nat.lt_of_lt_of_le hblV b.size; have SA : Hid (∀ o : Obj, (W1.alloc o).cell? ⟨V2.heap.size, 0, none⟩ = some (.int .i64 i) ∧ (W1.alloc o).cell? ⟨V2.heap.size, 1, none⟩ = some (.int .i64 m) ∧ (W1.alloc o).cell? ⟨V2.heap.size, 2, none⟩ = some (.int .i64 x) ∧ (W1.alloc o).cell? ⟨V2.heap.size, 3, none⟩ = some (.int .i64 g) ∧ (W1.alloc o).cell? ⟨V4.heap.size, 0, none⟩ = some (.bool hb) ∧ (W1.alloc o).cell? ⟨V4.heap.size, 1, none⟩ = some (.int .i64 S) ∧ (W1.alloc o).cell? ⟨V4.heap.size, 2, none⟩ = some (.int .i64 V) ∧ (W1.alloc o).cell? ⟨V4.heap.size, 3, none⟩ = some (.int .i64 B) ∧ (W1.alloc o).cell? ⟨bl, off + c, none⟩ = some (.int .i64 z)) := Lib.hid (fun o => by have ya := (Below.refl W1.heap.size W1).alloc (Nat.le_refl _) o; exact ⟨blk_cell ((ya.block _ Az1).trans A1.out) 0, blk_cell ((ya.block _ Az1).trans A1.out) 1, blk_cell ((ya.block _ Az1).trans A1.out) 2, blk_cell ((ya.block _ Az1).trans A1.out) 3, blk_cell ((ya.block _ Tz1).trans T1.out) 0, blk_cell ((ya.block _ Tz1).trans T1.out) 1, blk_cell ((ya.block _ Tz1).trans T1.out) 2, blk_cell ((ya.block _ Tz1).trans T1.out) 3, ((ya.cell (p := ⟨bl, off + c, none⟩) zl1).trans zW.out)⟩); clear b)
                  | (go_at_call 7; (with_reducible refine (samp_b i m x g hb S V B z S' V' (V21.alloc (.cells #[.bool false, .int .i64 0, .int .i64 0, .int .i64 0] 27)).drew HP.out HS.out hR'.out HSS.out HVV.out).mono ?_); rintro e W1 ⟨rfl, b⟩; have P1 := Lib.hid ((b.block _ PYz).trans PY.out); have A1 := Lib.hid ((b.block _ AYz).trans AY.out); have T1 := Lib.hid ((b.block _ TYz).trans TY.out); have zW := Lib.hid ((b.cell (p := ⟨bl, off + c, none⟩) hblY).trans zY.out); have X1 := Lib.hid ((b.block V21.heap.size (by simp)).trans XY.out); have SW : Hid (W1.cell? ⟨V2.heap.size, 0, none⟩ = some (.int .i64 i) ∧ W1.cell? ⟨V2.heap.size, 1, none⟩ = some (.int .i64 m) ∧ W1.cell? ⟨V2.heap.size, 2, none⟩ = some (.int .i64 x) ∧ W1.cell? ⟨V2.heap.size, 3, none⟩ = some (.int .i64 g) ∧ W1.cell? ⟨V4.heap.size, 0, none⟩ = some (.bool hb) ∧ W1.cell? ⟨V4.heap.size, 1, none⟩ = some (.int .i64 S) ∧ W1.cell? ⟨V4.heap.size, 2, none⟩ = some (.int .i64 V) ∧ W1.cell? ⟨V4.heap.size, 3, none⟩ = some (.int .i64 B) ∧ W1.cell? ⟨bl, off + c, none⟩ = some (.int .i64 z)) := Lib.hid ⟨blk_cell A1.out 0, blk_cell A1.out 1, blk_cell A1.out 2, blk_cell A1.out 3, blk_cell T1.out 0, blk_cell T1.out 1, blk_cell T1.out 2, blk_cell T1.out 3, zW.out⟩; have QW := Lib.hid (qY.out.trans (b.mono qY.out.size)); have x0 := blk_free X1.out 0; have x1 := blk_free X1.out 1; have x2 := blk_free X1.out 2; have x3 := blk_free X1.out 3; have y0 := blk_cell X1.out 0; have y1 := blk_cell X1.out 1; have y2 := blk_cell X1.out 2; have y3 := blk_cell X1.out 3; have SX : Hid (((((W1.setCell ⟨V21.heap.size, 0, none⟩ (.bool true)).setCell ⟨V21.heap.size, 1, none⟩ (.int .i64 S')).setCell ⟨V21.heap.size, 2, none⟩ (.int .i64 V')).setCell ⟨V21.heap.size, 3, none⟩ (.int .i64 0)).cell? ⟨V2.heap.size, 0, none⟩ = some (.int .i64 i) ∧ ((((W1.setCell ⟨V21.heap.size, 0, none⟩ (.bool true)).setCell ⟨V21.heap.size, 1, none⟩ (.int .i64 S')).setCell ⟨V21.heap.size, 2, none⟩ (.int .i64 V')).setCell ⟨V21.heap.size, 3, none⟩ (.int .i64 0)).cell? ⟨V2.heap.size, 1, none⟩ = some (.int .i64 m) ∧ ((((W1.setCell ⟨V21.heap.size, 0, none⟩ (.bool true)).setCell ⟨V21.heap.size, 1, none⟩ (.int .i64 S')).setCell ⟨V21.heap.size, 2, none⟩ (.int .i64 V')).setCell ⟨V21.heap.size, 3, none⟩ (.int .i64 0)).cell? ⟨V2.heap.size, 2, none⟩ = some (.int .i64 x) ∧ ((((W1.setCell ⟨V21.heap.size, 0, none⟩ (.bool true)).setCell ⟨V21.heap.size, 1, none⟩ (.int .i64 S')).setCell ⟨V21.heap.size, 2, none⟩ (.int .i64 V')).setCell ⟨V21.heap.size, 3, none⟩ (.int .i64 0)).cell? ⟨V2.heap.size, 3, none⟩ = some (.int .i64 g) ∧ ((((W1.setCell ⟨V21.heap.size, 0, none⟩ (.bool true)).setCell ⟨V21.heap.size, 1, none⟩ (.int .i64 S')).setCell ⟨V21.heap.size, 2, none⟩ (.int .i64 V')).setCell ⟨V21.heap.size, 3, none⟩ (.int .i64 0)).cell? ⟨V4.heap.size, 0, none⟩ = some (.bool hb) ∧ ((((W1.setCell ⟨V21.heap.size, 0, none⟩ (.bool true)).setCell ⟨V21.heap.size, 1, none⟩ (.int .i64 S')).setCell ⟨V21.heap.size, 2, none⟩ (.int .i64 V')).setCell ⟨V21.heap.size, 3, none⟩ (.int .i64 0)).cell? ⟨V4.heap.size, 1, none⟩ = some (.int .i64 S) ∧ ((((W1.setCell ⟨V21.heap.size, 0, none⟩ (.bool true)).setCell ⟨V21.heap.size, 1, none⟩ (.int .i64 S')).setCell ⟨V21.heap.size, 2, none⟩ (.int .i64 V')).setCell ⟨V21.heap.size, 3, none⟩ (.int .i64 0)).cell? ⟨V4.heap.size, 2, none⟩ = some (.int .i64 V) ∧ ((((W1.setCell ⟨V21.heap.size, 0, none⟩ (.bool true)).setCell ⟨V21.heap.size, 1, none⟩ (.int .i64 S')).setCell ⟨V21.heap.size, 2, none⟩ (.int .i64 V')).setCell ⟨V21.heap.size, 3, none⟩ (.int .i64 0)).cell? ⟨V4.heap.size, 3, none⟩ = some (.int .i64 B) ∧ ((((W1.setCell ⟨V21.heap.size, 0, none⟩ (.bool true)).setCell ⟨V21.heap.size, 1, none⟩ (.int .i64 S')).setCell ⟨V21.heap.size, 2, none⟩ (.int .i64 V')).setCell ⟨V21.heap.size, 3, none⟩ (.int .i64 0)).cell? ⟨bl, off + c, none⟩ = some (.int .i64 z)) := Lib.hid ⟨blk_cell (blk_other (blk_other (blk_other (blk_other A1.out NA2.out (.bool true)) NA2.out (.int .i64 S')) NA2.out (.int .i64 V')) NA2.out (.int .i64 0)) 0, blk_cell (blk_other (blk_other (blk_other (blk_other A1.out NA2.out (.bool true)) NA2.out (.int .i64 S')) NA2.out (.int .i64 V')) NA2.out (.int .i64 0)) 1, blk_cell (blk_other (blk_other (blk_other (blk_other A1.out NA2.out (.bool true)) NA2.out (.int .i64 S')) NA2.out (.int .i64 V')) NA2.out (.int .i64 0)) 2, blk_cell (blk_other (blk_other (blk_other (blk_other A1.out NA2.out (.bool true)) NA2.out (.int .i64 S')) NA2.out (.int .i64 V')) NA2.out (.int .i64 0)) 3, blk_cell (blk_other (blk_other (blk_other (blk_other T1.out XN.out (.bool true)) XN.out (.int .i64 S')) XN.out (.int .i64 V')) XN.out (.int .i64 0)) 0, blk_cell (blk_other (blk_other (blk_other (blk_other T1.out XN.out (.bool true)) XN.out (.int .i64 S')) XN.out (.int .i64 V')) XN.out (.int .i64 0)) 1, blk_cell (blk_other (blk_other (blk_other (blk_other T1.out XN.out (.bool true)) XN.out (.int .i64 S')) XN.out (.int .i64 V')) XN.out (.int .i64 0)) 2, blk_cell (blk_other (blk_other (blk_other (blk_other T1.out XN.out (.bool true)) XN.out (.int .i64 S')) XN.out (.int .i64 V')) XN.out (.int .i64 0)) 3, (by rw [World.cell?_setCell_far _ _ _ _ bnx, World.cell?_setCell_far _ _ _ _ bnx, World.cell?_setCell_far _ _ _ _ bnx, World.cell?_setCell_far _ _ _ _ bnx]; exact zW.out)⟩; clear b))
                all_goals
                  go_wp2_with fail
                  go_meet
                  first
                  | (have ya := (Below.refl W1.heap.size W1).alloc (Nat.le_refl _) (.cells #[.bool true, .int .i64 S', .int .i64 V', .int .i64 0] 27); exact ⟨_, rfl, rfl, (ya.block _ Pz1).trans P1.out, (ya.block _ Az1).trans A1.out, (ya.block _ Tz1).trans T1.out, blk_new W1 _, Nat.ne_of_gt Tz1, QW.out.alloc QW.out.size _⟩)
                  | exact ⟨_, rfl, rfl, (blk_other (blk_other (blk_other (blk_other P1.out NP2.out (.bool true)) NP2.out (.int .i64 S')) NP2.out (.int .i64 V')) NP2.out (.int .i64 0)), (blk_other (blk_other (blk_other (blk_other A1.out NA2.out (.bool true)) NA2.out (.int .i64 S')) NA2.out (.int .i64 V')) NA2.out (.int .i64 0)), (blk_other (blk_other (blk_other (blk_other T1.out XN.out (.bool true)) XN.out (.int .i64 S')) XN.out (.int .i64 V')) XN.out (.int .i64 0)), (blk_set (blk_set (blk_set (blk_set X1.out 0 (.bool true)) 1 (.int .i64 S')) 2 (.int .i64 V')) 3 (.int .i64 0)), XN.out, ((((QW.out.setCell (p := ⟨V21.heap.size, 0, none⟩) HVL.out (.bool true)).setCell (p := ⟨V21.heap.size, 1, none⟩) HVL.out (.int .i64 S')).setCell (p := ⟨V21.heap.size, 2, none⟩) HVL.out (.int .i64 V')).setCell (p := ⟨V21.heap.size, 3, none⟩) HVL.out (.int .i64 0))⟩
              case rest =>
                obtain ⟨gt, rfl, rfl, h1, h2, h3, h4, hne, hq⟩ := hcut
                clear P_1 A_1 T_1 PY AY TY XY SD SY qD qY q_1
                have q_0 := hq
                have Pz_0 := blk_lt h1
                have Az_0 := blk_lt h2
                have Tz_0 := blk_lt h3
                have Xz_0 := blk_lt h4
                have XN2 : gt ≠ V4.heap.size := hne
                have XN3 := XN2.symm
                have P_0 := Lib.hid (h1)
                have Pc0_0 := blk_cell P_0.out 0
                have Pc1_0 := blk_cell P_0.out 1
                have Pc2_0 := blk_cell P_0.out 2
                have Pc3_0 := blk_cell P_0.out 3
                have A_0 := Lib.hid (h2)
                have Ac0_0 := blk_cell A_0.out 0
                have Ac1_0 := blk_cell A_0.out 1
                have Ac2_0 := blk_cell A_0.out 2
                have Ac3_0 := blk_cell A_0.out 3
                have T_0 := Lib.hid (h3)
                have Tc0_0 := blk_cell T_0.out 0
                have Tc1_0 := blk_cell T_0.out 1
                have Tc2_0 := blk_cell T_0.out 2
                have Tc3_0 := blk_cell T_0.out 3
                have X_0 := Lib.hid (h4)
                have Xc0_0 := blk_cell X_0.out 0
                have Xc1_0 := blk_cell X_0.out 1
                have Xc2_0 := blk_cell X_0.out 2
                have Xc3_0 := blk_cell X_0.out 3
                clear h1 h2 h3 h4 hq hne
                go_wp2_with fail
                refine (num_any _ _).mono ?_
                rintro e w' ⟨rfl, rfl⟩
                have Tf0 := blk_free T_0.out 0
                have Tf1 := blk_free T_0.out 1
                have Tf2 := blk_free T_0.out 2
                have Tf3 := blk_free T_0.out 3
                go_wp2_with fail
                go_roundw
                case rel =>
                  refine ⟨c + 1, true, S', V', 0, by omega, by go_num, HS2, blk_other (blk_other (blk_other (blk_other P_0.out N1.out _) N1.out _) N1.out _) N1.out _, blk_other (blk_other (blk_other (blk_other A_0.out N2.out _) N2.out _) N2.out _) N2.out _, blk_set (blk_set (blk_set (blk_set T_0.out 0 _) 1 _) 2 _) 3 _, ?_⟩
                  have Q1 := Lib.hid q_0
                  have hle := HLE.out
                  (repeat' (first | (with_reducible exact Q1.out) | (with_reducible exact Below.refl _ _) | (with_reducible refine Below.alloc ?_ ?_ _) | (with_reducible refine Below.setCell ?_ ?_ _) | (with_reducible refine Below.drew ?_) | (with_reducible refine below_drewN ?_ _) | omega | (dsimp only; omega) | (simp; done) | (simp; omega)))
                case measure => simp [intOf]; omega
            case neg =>
              have hR' := Lib.hid hR
              clear hR
              have y := ((Below.refl V21.heap.size V21).alloc (Nat.le_refl _) (.cells #[.bool false, .int .i64 0, .int .i64 0, .int .i64 0] 27)).drew
              have PY := Lib.hid ((y.block _ Pz_1).trans P_1.out)
              have AY := Lib.hid ((y.block _ Az_1).trans A_1.out)
              have TY := Lib.hid ((y.block _ Tz_1).trans T_1.out)
              have PYz := Nat.lt_of_lt_of_le Pz_1 y.size
              have AYz := Nat.lt_of_lt_of_le Az_1 y.size
              have TYz := Nat.lt_of_lt_of_le Tz_1 y.size
              have hblV : bl < V21.heap.size := Nat.lt_of_lt_of_le hbl q_1.size
              have zY := Lib.hid ((y.cell (p := ⟨bl, off + c, none⟩) hblV).trans z1)
              have hblY := Nat.lt_of_lt_of_le hblV y.size
              have XY := Lib.hid (blk_new V21 (.cells #[.bool false, .int .i64 0, .int .i64 0, .int .i64 0] 27))
              have SD : Hid (V21.drew.cell? ⟨V2.heap.size, 0, none⟩ = some (.int .i64 i) ∧ V21.drew.cell? ⟨V2.heap.size, 1, none⟩ = some (.int .i64 m) ∧ V21.drew.cell? ⟨V2.heap.size, 2, none⟩ = some (.int .i64 x) ∧ V21.drew.cell? ⟨V2.heap.size, 3, none⟩ = some (.int .i64 g) ∧ V21.drew.cell? ⟨V4.heap.size, 0, none⟩ = some (.bool hb) ∧ V21.drew.cell? ⟨V4.heap.size, 1, none⟩ = some (.int .i64 S) ∧ V21.drew.cell? ⟨V4.heap.size, 2, none⟩ = some (.int .i64 V) ∧ V21.drew.cell? ⟨V4.heap.size, 3, none⟩ = some (.int .i64 B) ∧ V21.drew.cell? ⟨bl, off + c, none⟩ = some (.int .i64 z)) := Lib.hid ⟨blk_cell A_1.out 0, blk_cell A_1.out 1, blk_cell A_1.out 2, blk_cell A_1.out 3, blk_cell T_1.out 0, blk_cell T_1.out 1, blk_cell T_1.out 2, blk_cell T_1.out 3, z1⟩
              have SY : Hid ((V21.alloc (.cells #[.bool false, .int .i64 0, .int .i64 0, .int .i64 0] 27)).drew.cell? ⟨V2.heap.size, 0, none⟩ = some (.int .i64 i) ∧ (V21.alloc (.cells #[.bool false, .int .i64 0, .int .i64 0, .int .i64 0] 27)).drew.cell? ⟨V2.heap.size, 1, none⟩ = some (.int .i64 m) ∧ (V21.alloc (.cells #[.bool false, .int .i64 0, .int .i64 0, .int .i64 0] 27)).drew.cell? ⟨V2.heap.size, 2, none⟩ = some (.int .i64 x) ∧ (V21.alloc (.cells #[.bool false, .int .i64 0, .int .i64 0, .int .i64 0] 27)).drew.cell? ⟨V2.heap.size, 3, none⟩ = some (.int .i64 g) ∧ (V21.alloc (.cells #[.bool false, .int .i64 0, .int .i64 0, .int .i64 0] 27)).drew.cell? ⟨V4.heap.size, 0, none⟩ = some (.bool hb) ∧ (V21.alloc (.cells #[.bool false, .int .i64 0, .int .i64 0, .int .i64 0] 27)).drew.cell? ⟨V4.heap.size, 1, none⟩ = some (.int .i64 S) ∧ (V21.alloc (.cells #[.bool false, .int .i64 0, .int .i64 0, .int .i64 0] 27)).drew.cell? ⟨V4.heap.size, 2, none⟩ = some (.int .i64 V) ∧ (V21.alloc (.cells #[.bool false, .int .i64 0, .int .i64 0, .int .i64 0] 27)).drew.cell? ⟨V4.heap.size, 3, none⟩ = some (.int .i64 B) ∧ (V21.alloc (.cells #[.bool false, .int .i64 0, .int .i64 0, .int .i64 0] 27)).drew.cell? ⟨bl, off + c, none⟩ = some (.int .i64 z)) := Lib.hid ⟨blk_cell AY.out 0, blk_cell AY.out 1, blk_cell AY.out 2, blk_cell AY.out 3, blk_cell TY.out 0, blk_cell TY.out 1, blk_cell TY.out 2, blk_cell TY.out 3, zY.out⟩
              have qD := Lib.hid q_1.drew
              have qY := Lib.hid (q_1.trans (y.mono q_1.size))
              have z1H := Lib.hid z1
              have XN : Hid (V21.heap.size ≠ V4.heap.size) := Lib.hid (Nat.ne_of_gt Tz_1)
              have NA2 : Hid (V21.heap.size ≠ V2.heap.size) := Lib.hid (Nat.ne_of_gt Az_1)
              have bnx : V21.heap.size ≠ bl := Nat.ne_of_gt hblV
              have NP2 : Hid (V21.heap.size ≠ w.heap.size) := Lib.hid (Nat.ne_of_gt Pz_1)
              have HVL : Hid (w.heap.size ≤ V21.heap.size) := Lib.hid q_1.size
              clear y
              go_wp2_with fail

              go_cut [14, 15] (fun (pt pe : Value) (wx : World) => CutB i m x g hb S V B #[.bool false, .int .i64 0, .int .i64 0, .int .i64 0] 4 w V2 V4 pt pe wx)
              case first =>
                go_region_held3 (fun W' => W'.cell? ⟨V2.heap.size, 0, none⟩ = some (.int .i64 i) ∧ W'.cell? ⟨V2.heap.size, 1, none⟩ = some (.int .i64 m) ∧ W'.cell? ⟨V2.heap.size, 2, none⟩ = some (.int .i64 x) ∧ W'.cell? ⟨V2.heap.size, 3, none⟩ = some (.int .i64 g) ∧ W'.cell? ⟨V4.heap.size, 0, none⟩ = some (.bool hb) ∧ W'.cell? ⟨V4.heap.size, 1, none⟩ = some (.int .i64 S) ∧ W'.cell? ⟨V4.heap.size, 2, none⟩ = some (.int .i64 V) ∧ W'.cell? ⟨V4.heap.size, 3, none⟩ = some (.int .i64 B) ∧ W'.cell? ⟨bl, off + c, none⟩ = some (.int .i64 z)) (first | (with_reducible exact SD.out) | (with_reducible exact SY.out) | (with_reducible exact SW.out) | (with_reducible exact SA.out _) | (with_reducible exact SX.out) | go_keep) (first
                  | (go_at_call 7; (with_reducible refine (sample_r i m x g hb S V B z (V21.drew) HP.out HS.out hR'.out).mono ?_); rintro e W1 ⟨rfl, b⟩; have P1 := Lib.hid ((b.block _ Pz_1).trans P_1.out); have A1 := Lib.hid ((b.block _ Az_1).trans A_1.out); have T1 := Lib.hid ((b.block _ Tz_1).trans T_1.out); have Tz1 := Nat.lt_of_lt_of_le Tz_1 b.size; have zW := Lib.hid ((b.cell (p := ⟨bl, off + c, none⟩) hblV).trans z1H.out); have SW : Hid (W1.cell? ⟨V2.heap.size, 0, none⟩ = some (.int .i64 i) ∧ W1.cell? ⟨V2.heap.size, 1, none⟩ = some (.int .i64 m) ∧ W1.cell? ⟨V2.heap.size, 2, none⟩ = some (.int .i64 x) ∧ W1.cell? ⟨V2.heap.size, 3, none⟩ = some (.int .i64 g) ∧ W1.cell? ⟨V4.heap.size, 0, none⟩ = some (.bool hb) ∧ W1.cell? ⟨V4.heap.size, 1, none⟩ = some (.int .i64 S) ∧ W1.cell? ⟨V4.heap.size, 2, none⟩ = some (.int .i64 V) ∧ W1.cell? ⟨V4.heap.size, 3, none⟩ = some (.int .i64 B) ∧ W1.cell? ⟨bl, off + c, none⟩ = some (.int .i64 z)) := Lib.hid ⟨blk_cell A1.out 0, blk_cell A1.out 1, blk_cell A1.out 2, blk_cell A1.out 3, blk_cell T1.out 0, blk_cell T1.out 1, blk_cell T1.out 2, blk_cell T1.out 3, zW.out⟩; have QW := Lib.hid (qD.out.trans (b.mono qD.out.size)); have Az1 := Nat.lt_of_lt_of_le Az_1 b.size; have Pz1 := Nat.lt_of_lt_of_le Pz_1 b.size; have zl1 : bl < W1.heap.size := Nat.lt_of_lt_of_le hblV b.size; have SA : Hid (∀ o : Obj, (W1.alloc o).cell? ⟨V2.heap.size, 0, none⟩ = some (.int .i64 i) ∧ (W1.alloc o).cell? ⟨V2.heap.size, 1, none⟩ = some (.int .i64 m) ∧ (W1.alloc o).cell? ⟨V2.heap.size, 2, none⟩ = some (.int .i64 x) ∧ (W1.alloc o).cell? ⟨V2.heap.size, 3, none⟩ = some (.int .i64 g) ∧ (W1.alloc o).cell? ⟨V4.heap.size, 0, none⟩ = some (.bool hb) ∧ (W1.alloc o).cell? ⟨V4.heap.size, 1, none⟩ = some (.int .i64 S) ∧ (W1.alloc o).cell? ⟨V4.heap.size, 2, none⟩ = some (.int .i64 V) ∧ (W1.alloc o).cell? ⟨V4.heap.size, 3, none⟩ = some (.int .i64 B) ∧ (W1.alloc o).cell? ⟨bl, off + c, none⟩ = some (.int .i64 z)) := Lib.hid (fun o => by have ya := (Below.refl W1.heap.size W1).alloc (Nat.le_refl _) o; exact ⟨blk_cell ((ya.block _ Az1).trans A1.out) 0, blk_cell ((ya.block _ Az1).trans A1.out) 1, blk_cell ((ya.block _ Az1).trans A1.out) 2, blk_cell ((ya.block _ Az1).trans A1.out) 3, blk_cell ((ya.block _ Tz1).trans T1.out) 0, blk_cell ((ya.block _ Tz1).trans T1.out) 1, blk_cell ((ya.block _ Tz1).trans T1.out) 2, blk_cell ((ya.block _ Tz1).trans T1.out) 3, ((ya.cell (p := ⟨bl, off + c, none⟩) zl1).trans zW.out)⟩); clear b)
                  | (go_at_call 7; (with_reducible refine (sample_r i m x g hb S V B z (V21.alloc (.cells #[.bool false, .int .i64 0, .int .i64 0, .int .i64 0] 27)).drew HP.out HS.out hR'.out).mono ?_); rintro e W1 ⟨rfl, b⟩; have P1 := Lib.hid ((b.block _ PYz).trans PY.out); have A1 := Lib.hid ((b.block _ AYz).trans AY.out); have T1 := Lib.hid ((b.block _ TYz).trans TY.out); have zW := Lib.hid ((b.cell (p := ⟨bl, off + c, none⟩) hblY).trans zY.out); have X1 := Lib.hid ((b.block V21.heap.size (by simp)).trans XY.out); have SW : Hid (W1.cell? ⟨V2.heap.size, 0, none⟩ = some (.int .i64 i) ∧ W1.cell? ⟨V2.heap.size, 1, none⟩ = some (.int .i64 m) ∧ W1.cell? ⟨V2.heap.size, 2, none⟩ = some (.int .i64 x) ∧ W1.cell? ⟨V2.heap.size, 3, none⟩ = some (.int .i64 g) ∧ W1.cell? ⟨V4.heap.size, 0, none⟩ = some (.bool hb) ∧ W1.cell? ⟨V4.heap.size, 1, none⟩ = some (.int .i64 S) ∧ W1.cell? ⟨V4.heap.size, 2, none⟩ = some (.int .i64 V) ∧ W1.cell? ⟨V4.heap.size, 3, none⟩ = some (.int .i64 B) ∧ W1.cell? ⟨bl, off + c, none⟩ = some (.int .i64 z)) := Lib.hid ⟨blk_cell A1.out 0, blk_cell A1.out 1, blk_cell A1.out 2, blk_cell A1.out 3, blk_cell T1.out 0, blk_cell T1.out 1, blk_cell T1.out 2, blk_cell T1.out 3, zW.out⟩; have QW := Lib.hid (qY.out.trans (b.mono qY.out.size)); have x0 := blk_free X1.out 0; have x1 := blk_free X1.out 1; have x2 := blk_free X1.out 2; have x3 := blk_free X1.out 3; have y0 := blk_cell X1.out 0; have y1 := blk_cell X1.out 1; have y2 := blk_cell X1.out 2; have y3 := blk_cell X1.out 3; have SX : Hid (((((W1.setCell ⟨V21.heap.size, 0, none⟩ (.bool false)).setCell ⟨V21.heap.size, 1, none⟩ (.int .i64 0)).setCell ⟨V21.heap.size, 2, none⟩ (.int .i64 0)).setCell ⟨V21.heap.size, 3, none⟩ (.int .i64 0)).cell? ⟨V2.heap.size, 0, none⟩ = some (.int .i64 i) ∧ ((((W1.setCell ⟨V21.heap.size, 0, none⟩ (.bool false)).setCell ⟨V21.heap.size, 1, none⟩ (.int .i64 0)).setCell ⟨V21.heap.size, 2, none⟩ (.int .i64 0)).setCell ⟨V21.heap.size, 3, none⟩ (.int .i64 0)).cell? ⟨V2.heap.size, 1, none⟩ = some (.int .i64 m) ∧ ((((W1.setCell ⟨V21.heap.size, 0, none⟩ (.bool false)).setCell ⟨V21.heap.size, 1, none⟩ (.int .i64 0)).setCell ⟨V21.heap.size, 2, none⟩ (.int .i64 0)).setCell ⟨V21.heap.size, 3, none⟩ (.int .i64 0)).cell? ⟨V2.heap.size, 2, none⟩ = some (.int .i64 x) ∧ ((((W1.setCell ⟨V21.heap.size, 0, none⟩ (.bool false)).setCell ⟨V21.heap.size, 1, none⟩ (.int .i64 0)).setCell ⟨V21.heap.size, 2, none⟩ (.int .i64 0)).setCell ⟨V21.heap.size, 3, none⟩ (.int .i64 0)).cell? ⟨V2.heap.size, 3, none⟩ = some (.int .i64 g) ∧ ((((W1.setCell ⟨V21.heap.size, 0, none⟩ (.bool false)).setCell ⟨V21.heap.size, 1, none⟩ (.int .i64 0)).setCell ⟨V21.heap.size, 2, none⟩ (.int .i64 0)).setCell ⟨V21.heap.size, 3, none⟩ (.int .i64 0)).cell? ⟨V4.heap.size, 0, none⟩ = some (.bool hb) ∧ ((((W1.setCell ⟨V21.heap.size, 0, none⟩ (.bool false)).setCell ⟨V21.heap.size, 1, none⟩ (.int .i64 0)).setCell ⟨V21.heap.size, 2, none⟩ (.int .i64 0)).setCell ⟨V21.heap.size, 3, none⟩ (.int .i64 0)).cell? ⟨V4.heap.size, 1, none⟩ = some (.int .i64 S) ∧ ((((W1.setCell ⟨V21.heap.size, 0, none⟩ (.bool false)).setCell ⟨V21.heap.size, 1, none⟩ (.int .i64 0)).setCell ⟨V21.heap.size, 2, none⟩ (.int .i64 0)).setCell ⟨V21.heap.size, 3, none⟩ (.int .i64 0)).cell? ⟨V4.heap.size, 2, none⟩ = some (.int .i64 V) ∧ ((((W1.setCell ⟨V21.heap.size, 0, none⟩ (.bool false)).setCell ⟨V21.heap.size, 1, none⟩ (.int .i64 0)).setCell ⟨V21.heap.size, 2, none⟩ (.int .i64 0)).setCell ⟨V21.heap.size, 3, none⟩ (.int .i64 0)).cell? ⟨V4.heap.size, 3, none⟩ = some (.int .i64 B) ∧ ((((W1.setCell ⟨V21.heap.size, 0, none⟩ (.bool false)).setCell ⟨V21.heap.size, 1, none⟩ (.int .i64 0)).setCell ⟨V21.heap.size, 2, none⟩ (.int .i64 0)).setCell ⟨V21.heap.size, 3, none⟩ (.int .i64 0)).cell? ⟨bl, off + c, none⟩ = some (.int .i64 z)) := Lib.hid ⟨blk_cell (blk_other (blk_other (blk_other (blk_other A1.out NA2.out (.bool false)) NA2.out (.int .i64 0)) NA2.out (.int .i64 0)) NA2.out (.int .i64 0)) 0, blk_cell (blk_other (blk_other (blk_other (blk_other A1.out NA2.out (.bool false)) NA2.out (.int .i64 0)) NA2.out (.int .i64 0)) NA2.out (.int .i64 0)) 1, blk_cell (blk_other (blk_other (blk_other (blk_other A1.out NA2.out (.bool false)) NA2.out (.int .i64 0)) NA2.out (.int .i64 0)) NA2.out (.int .i64 0)) 2, blk_cell (blk_other (blk_other (blk_other (blk_other A1.out NA2.out (.bool false)) NA2.out (.int .i64 0)) NA2.out (.int .i64 0)) NA2.out (.int .i64 0)) 3, blk_cell (blk_other (blk_other (blk_other (blk_other T1.out XN.out (.bool false)) XN.out (.int .i64 0)) XN.out (.int .i64 0)) XN.out (.int .i64 0)) 0, blk_cell (blk_other (blk_other (blk_other (blk_other T1.out XN.out (.bool false)) XN.out (.int .i64 0)) XN.out (.int .i64 0)) XN.out (.int .i64 0)) 1, blk_cell (blk_other (blk_other (blk_other (blk_other T1.out XN.out (.bool false)) XN.out (.int .i64 0)) XN.out (.int .i64 0)) XN.out (.int .i64 0)) 2, blk_cell (blk_other (blk_other (blk_other (blk_other T1.out XN.out (.bool false)) XN.out (.int .i64 0)) XN.out (.int .i64 0)) XN.out (.int .i64 0)) 3, (by rw [World.cell?_setCell_far _ _ _ _ bnx, World.cell?_setCell_far _ _ _ _ bnx, World.cell?_setCell_far _ _ _ _ bnx, World.cell?_setCell_far _ _ _ _ bnx]; exact zW.out)⟩; clear b))
                all_goals
                  go_wp2_with fail
                  go_meet
                  first
                  | (have ya := (Below.refl W1.heap.size W1).alloc (Nat.le_refl _) (.cells #[.bool false, .int .i64 0, .int .i64 0, .int .i64 0] 27); exact ⟨_, rfl, rfl, (ya.block _ Pz1).trans P1.out, (ya.block _ Az1).trans A1.out, (ya.block _ Tz1).trans T1.out, blk_new W1 _, Nat.ne_of_gt Tz1, QW.out.alloc QW.out.size _⟩)
                  | exact ⟨_, rfl, rfl, (blk_other (blk_other (blk_other (blk_other P1.out NP2.out (.bool false)) NP2.out (.int .i64 0)) NP2.out (.int .i64 0)) NP2.out (.int .i64 0)), (blk_other (blk_other (blk_other (blk_other A1.out NA2.out (.bool false)) NA2.out (.int .i64 0)) NA2.out (.int .i64 0)) NA2.out (.int .i64 0)), (blk_other (blk_other (blk_other (blk_other T1.out XN.out (.bool false)) XN.out (.int .i64 0)) XN.out (.int .i64 0)) XN.out (.int .i64 0)), (blk_set (blk_set (blk_set (blk_set X1.out 0 (.bool false)) 1 (.int .i64 0)) 2 (.int .i64 0)) 3 (.int .i64 0)), XN.out, ((((QW.out.setCell (p := ⟨V21.heap.size, 0, none⟩) HVL.out (.bool false)).setCell (p := ⟨V21.heap.size, 1, none⟩) HVL.out (.int .i64 0)).setCell (p := ⟨V21.heap.size, 2, none⟩) HVL.out (.int .i64 0)).setCell (p := ⟨V21.heap.size, 3, none⟩) HVL.out (.int .i64 0))⟩
              case rest =>
                obtain ⟨gt, rfl, rfl, h1, h2, h3, h4, hne, hq⟩ := hcut
                clear P_1 A_1 T_1 PY AY TY XY SD SY qD qY q_1
                have q_0 := hq
                have Pz_0 := blk_lt h1
                have Az_0 := blk_lt h2
                have Tz_0 := blk_lt h3
                have Xz_0 := blk_lt h4
                have XN2 : gt ≠ V4.heap.size := hne
                have XN3 := XN2.symm
                have P_0 := Lib.hid (h1)
                have Pc0_0 := blk_cell P_0.out 0
                have Pc1_0 := blk_cell P_0.out 1
                have Pc2_0 := blk_cell P_0.out 2
                have Pc3_0 := blk_cell P_0.out 3
                have A_0 := Lib.hid (h2)
                have Ac0_0 := blk_cell A_0.out 0
                have Ac1_0 := blk_cell A_0.out 1
                have Ac2_0 := blk_cell A_0.out 2
                have Ac3_0 := blk_cell A_0.out 3
                have T_0 := Lib.hid (h3)
                have Tc0_0 := blk_cell T_0.out 0
                have Tc1_0 := blk_cell T_0.out 1
                have Tc2_0 := blk_cell T_0.out 2
                have Tc3_0 := blk_cell T_0.out 3
                have X_0 := Lib.hid (h4)
                have Xc0_0 := blk_cell X_0.out 0
                have Xc1_0 := blk_cell X_0.out 1
                have Xc2_0 := blk_cell X_0.out 2
                have Xc3_0 := blk_cell X_0.out 3
                clear h1 h2 h3 h4 hq hne
                go_wp2_with fail
                refine (num_any _ _).mono ?_
                rintro e w' ⟨rfl, rfl⟩
                have Tf0 := blk_free T_0.out 0
                have Tf1 := blk_free T_0.out 1
                have Tf2 := blk_free T_0.out 2
                have Tf3 := blk_free T_0.out 3
                go_wp2_with fail
                go_roundw
                case rel => exact ⟨c + 1, hb, S, V, B, by omega, by go_num, HS, P_0.out, A_0.out, T_0.out, q_0⟩
                case measure => simp [intOf]; omega

theorem of_len4 {α : Type} (l : List α) (h : l.length = 4) : ∃ x0 x1 x2 x3, l = [x0, x1, x2, x3] := by
  match l, h with
  | [x0, x1, x2, x3], _ => exact ⟨x0, x1, x2, x3, rfl⟩
theorem own : ownKnob Try.prog.godebug = none := by kernel_rfl
theorem laidOut : laidOutB Try.prog = true := by kernel_rfl

set_option maxRecDepth 100000 in
set_option maxHeartbeats 2000000 in
theorem lifted (os : Os) (started : os.Started) (H : Type) (enc : TypeId × Value → H) :
    ReturnsInHanded {} Try.checked os 4 .any (Rows.rttBoundsSpec.pre6 enc Try.prog Try.f4 Rows.rttBoundsRow.domain false) (Rows.rttBoundsSpec.post enc Try.prog Try.f4 false true false false) := by
  refine returnsInHanded_of_change_sized (C := Try.checked) own started (by kernel_rfl) Try.func4
    (ChangeSpec.witness6 (enc := enc) (C := Try.checked) false ⟨#[], #[.agg #[.int .i64 0, .int .i64 0, .int .i64 0, .int .i64 0], .slice none 0 0], []⟩ 8 (by kernel_rfl) (by kernel_rfl) (by kernel_rfl) (by kernel_rfl)) ?_
  intro W base args ds gs before hval0 hW hcnd hsz0 _
  have hval : ∀ (j : Nat) t v, Try.f4.params[j]? = some t → args[j]? = some v → Value.okWide Try.prog W .any base t v := hval0
  have hsz : (DataW.weightsEach Try.prog (Try.f4.params.toList ++ Rows.rttBoundsSpec.plain.varTypes Try.prog) (ds ++ gs)).all (· ≤ reachBytes) = true := hsz0
  have hW' := hW
  obtain ⟨p, q, hA0, hV, rfl, hfz, hnd⟩ := hW
  have hA : DataW.TrodAll enc Try.prog W 0 (fun _ => true) true Try.f4.params.toList args.toList ds p := hA0
  rw [Try.params4] at hA hval hsz
  obtain ⟨v0, vs0, d0, ds0, p0, q0, hargs, rfl, rfl, h0, r0⟩ := trodAll_cons hA
  obtain ⟨v1, vs1, d1, ds1, p1, q1, rfl, rfl, rfl, h1, r1⟩ := trodAll_cons r0
  obtain ⟨rfl, rfl, rfl⟩ := trodAll_nil r1
  obtain rfl : args = #[v0, v1] := by cases args; simp_all
  obtain ⟨rfl, rfl⟩ := trodVars_none hV
  have k0 := h0
  have lt0 : ∀ x ∈ p0, x.block < W.heap.size := by obtain ⟨m, hm⟩ := k0; exact DataW.trod_lt m _ _ _ hm
  obtain ⟨vs0', ys0', m0, rfl, lv0, ly0, hd0, F0⟩ := open_agg Try.underlying23 (by kernel_rfl) (by kernel_rfl) (hval 0 23 v0 rfl rfl) h0
  obtain ⟨c0_0, c0_1, c0_2, c0_3, rfl⟩ := of_len4 _ lv0
  obtain ⟨y0_0, y0_1, y0_2, y0_3, rfl⟩ := of_len4 _ ly0
  simp only [List.map_cons, List.map_nil] at hd0
  obtain ⟨_, _, e, g, t0_0⟩ := F0 0 _ rfl
  obtain rfl := Option.some.inj e; obtain rfl := Option.some.inj g; clear e g
  obtain ⟨z0_0, e, _, w0_0⟩ := DataW.trod_int Try.underlying3 t0_0
  obtain rfl := (List.cons.inj e).1; clear e
  obtain ⟨lo0_0, hi0_0⟩ := bounds_i64 w0_0
  obtain ⟨_, _, e, g, t0_1⟩ := F0 1 _ rfl
  obtain rfl := Option.some.inj e; obtain rfl := Option.some.inj g; clear e g
  obtain ⟨z0_1, e, _, w0_1⟩ := DataW.trod_int Try.underlying3 t0_1
  obtain rfl := (List.cons.inj e).1; clear e
  obtain ⟨lo0_1, hi0_1⟩ := bounds_i64 w0_1
  obtain ⟨_, _, e, g, t0_2⟩ := F0 2 _ rfl
  obtain rfl := Option.some.inj e; obtain rfl := Option.some.inj g; clear e g
  obtain ⟨z0_2, e, _, w0_2⟩ := DataW.trod_int Try.underlying3 t0_2
  obtain rfl := (List.cons.inj e).1; clear e
  obtain ⟨lo0_2, hi0_2⟩ := bounds_i64 w0_2
  obtain ⟨_, _, e, g, t0_3⟩ := F0 3 _ rfl
  obtain rfl := Option.some.inj e; obtain rfl := Option.some.inj g; clear e g
  obtain ⟨z0_3, e, _, w0_3⟩ := DataW.trod_int Try.underlying3 t0_3
  obtain rfl := (List.cons.inj e).1; clear e
  obtain ⟨lo0_3, hi0_3⟩ := bounds_i64 w0_3
  obtain ⟨a1, len1, cap1, rfl⟩ := okWide_slice Try.underlying44 (hval 1 44 v1 rfl rfl)
  have k1 := h1
  have lt1 : ∀ x ∈ p1, x.block < W.heap.size := by obtain ⟨m, hm⟩ := k1; exact DataW.trod_lt m _ _ _ hm
  obtain ⟨xs1, hxl1, hbt1, hcap1, hre1⟩ : ∃ xs : List Int, xs.length = len1 ∧ Its W a1 xs ∧ (a1 = none → cap1 = 0) ∧ xs.length ≤ 17592186043904 := by
    obtain ⟨fuel, hf⟩ := h1
    rcases open_ints Try.underlying44 Try.underlying3 (by kernel_rfl) hf with ⟨hcs, _⟩ | ⟨x, l, c, zs, hcs, _, hl, hm, hz, hd, hcell, hwz⟩
    · simp [Value.cells] at hcs
      obtain ⟨rfl, rfl, rfl⟩ := hcs
      exact ⟨[], rfl, ⟨(fun x h => by cases h), .inl rfl⟩, fun _ => rfl, by simp⟩
    · simp [Value.cells] at hcs
      obtain ⟨rfl, rfl, rfl⟩ := hcs
      have hz' : zs.length = cap1 := by simpa using hz
      obtain ⟨xs, h1, h2⟩ := its_of_ints hl hz' hcell hwz
      have hd' := (Prod.mk.inj hd).1
      have hw := sized_slice hsz (j := 1) (t := 44) (e := 3) rfl (by rw [hd']; rfl) Try.underlying44
      rw [bytes8] at hw
      simp only [lits, List.length_map, List.length_take, List.length_drop, reachBytes] at hw
      exact ⟨xs, h1, h2, (fun h => by cases h), by omega⟩
  clear hA0 hval0 hsz hsz0
  subst hxl1
  refine (walk z0_0 z0_1 z0_2 z0_3 a1 xs1 cap1 W lo0_0 hi0_0 lo0_1 hi0_1 lo0_2 hi0_2 lo0_3 hi0_3 hbt1 hcap1 hre1).mono fun e W' ⟨he, bel⟩ => ?_
  subst he
  exact ⟨_, rfl, _, _, _, [], _, [], hW', trodAll_mk1 (shut_bool Try.underlying4 _), (trodAll_cons_mk (Below.trod laidOut (by kernel_rfl) (of_decide_eq_true (by kernel_rfl)) k0 bel lt0) (trodAll_cons_mk (Below.trod laidOut (by kernel_rfl) (of_decide_eq_true (by kernel_rfl)) k1 bel lt1) trodAll_mk0)), rfl, bel.frame _, fun h => by cases h⟩

theorem over : Rows.rttBoundsRow.holds Try.pinned (OpenSpec.ofChange Rows.rttBoundsSpec) :=
  OpenClaim.holds_of_wide 4 Try.f4 rfl rfl rfl rfl rfl rfl rfl ⟨rfl, rfl, rfl, rfl, rfl⟩ rfl rfl rfl rfl rfl (by kernel_rfl) Try.func4 (by kernel_rfl)
    (of_decide_eq_true (by kernel_rfl)) (by unfold Func.isWrapper; first | (rw [if_pos (by decide +kernel)]; kernel_rfl) | (rw [if_neg (by decide +kernel)]; exact ⟨rfl, rfl⟩))
    (fun os started H enc _ => lifted os started H enc)

end Go.Proofs.Ytmpgpmdocofmgaa.rttBounds
namespace Go.Proofs.Ytmpgpmdocofmgaa
/-- The statement. -/
theorem rttBounds_holds : Rows.RttBoundsSaid := rttBounds.over
#print axioms rttBounds_holds
end Go.Proofs.Ytmpgpmdocofmgaa
