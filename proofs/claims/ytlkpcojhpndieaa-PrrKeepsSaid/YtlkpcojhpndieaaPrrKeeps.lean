/- For every state and every numbers: the states that follow may be. No condition. -/
import Derived.Test.YtlkpcojhpndieaaRows
import Derived.Test.YtlkpcojhpndieaaPrA
import Derived.Test.YtlkpcojhpndieaaPrF
import Derived.Test.YtlkpcojhpndieaaGAgg
import Derived.Deep.DeepCutAuto
import Derived.RegionTactic
import Derived.Deep.RegionHeld3
import Derived.ProofKit
import Derived.OpenShut
import Derived.ChangeOld
import Derived.SizedLaws
namespace Go.Proofs.Ytlkpcojhpndieaa.prrKeeps
open Go.ChangeShapes Go.WideShapes Go.ChangeAt Go.RowKit Go.Deep Go.Proofs.Ytlkpcojhpndieaa.Pr

set_option maxRecDepth 100000 in
set_option maxHeartbeats 8000000 in
theorem walk0 (t f d o : Int) (s : Rt) (n p v : Int) (w : World) (_n_l : -9223372036854775808 ≤ n) (_n_h : n ≤ 9223372036854775807) (_p_l : -9223372036854775808 ≤ p) (_p_h : p ≤ 9223372036854775807) (_v_l : -9223372036854775808 ≤ v) (_v_h : v ≤ 9223372036854775807) :
    Calls Try.prog 6 #[.agg #[.int .i64 t, .int .i64 f, .int .i64 d, .int .i64 o], .agg #[.int .i64 s.d, .int .i64 s.a, .int .i64 s.i, .int .i64 s.r, .int .i64 s.k], .int .i64 n, .int .i64 p, .int .i64 v] w fun e w' => e = .returned (.bool true) ∧ Below w.heap.size w w' := by
  have q_0 := Below.refl w.heap.size w
  go_enter Try.func6, Try.ntmps6
  go_wp2_with fail
  have b : Below w.heap.size w ((w.alloc (.cells #[.int .i64 t, .int .i64 f, .int .i64 d, .int .i64 o] 23)).alloc (.cells #[.int .i64 s.d, .int .i64 s.a, .int .i64 s.i, .int .i64 s.r, .int .i64 s.k] 40)) := (((Below.refl _ w).alloc (Nat.le_refl _) (.cells #[.int .i64 t, .int .i64 f, .int .i64 d, .int .i64 o] 23)).alloc (by simp only [World.size_alloc]; omega) (.cells #[.int .i64 s.d, .int .i64 s.a, .int .i64 s.i, .int .i64 s.r, .int .i64 s.k] 40))
  have nb0 := blk_new w (.cells #[.int .i64 t, .int .i64 f, .int .i64 d, .int .i64 o] 23)
  have nb0 := (Below.heap_alloc (w.alloc (.cells #[.int .i64 t, .int .i64 f, .int .i64 d, .int .i64 o] 23)) (.cells #[.int .i64 s.d, .int .i64 s.a, .int .i64 s.i, .int .i64 s.r, .int .i64 s.k] 40) (w.heap.size) (by simp only [World.size_alloc]; omega)).trans nb0
  have nz0 : w.heap.size < ((w.alloc (.cells #[.int .i64 t, .int .i64 f, .int .i64 d, .int .i64 o] 23)).alloc (.cells #[.int .i64 s.d, .int .i64 s.a, .int .i64 s.i, .int .i64 s.r, .int .i64 s.k] 40)).heap.size := by simp only [World.size_alloc]; omega
  have nb1 := blk_new (w.alloc (.cells #[.int .i64 t, .int .i64 f, .int .i64 d, .int .i64 o] 23)) (.cells #[.int .i64 s.d, .int .i64 s.a, .int .i64 s.i, .int .i64 s.r, .int .i64 s.k] 40)
  simp only [World.size_alloc] at nb1
  have nz1 : w.heap.size + 1 < ((w.alloc (.cells #[.int .i64 t, .int .i64 f, .int .i64 d, .int .i64 o] 23)).alloc (.cells #[.int .i64 s.d, .int .i64 s.a, .int .i64 s.i, .int .i64 s.r, .int .i64 s.k] 40)).heap.size := by simp only [World.size_alloc]; omega
  have q_1 := q_0.trans (b.mono q_0.size)
  clear q_0
  clear b
  have P_1 := Lib.hid nb0
  have Pz_1 := nz0
  clear nb0 nz0
  have Pc0_1 := blk_cell P_1.out 0
  have Pc1_1 := blk_cell P_1.out 1
  have Pc2_1 := blk_cell P_1.out 2
  have Pc3_1 := blk_cell P_1.out 3
  have Q_1 := Lib.hid nb1
  have Qz_1 := nz1
  clear nb1 nz1
  have Qc0_1 := blk_cell Q_1.out 0
  have Qc1_1 := blk_cell Q_1.out 1
  have Qc2_1 := blk_cell Q_1.out 2
  have Qc3_1 := blk_cell Q_1.out 3
  have Qc4_1 := blk_cell Q_1.out 4
  generalize ((w.alloc (.cells #[.int .i64 t, .int .i64 f, .int .i64 d, .int .i64 o] 23)).alloc (.cells #[.int .i64 s.d, .int .i64 s.a, .int .i64 s.i, .int .i64 s.r, .int .i64 s.k] 40)) = V1 at q_1 P_1 Pz_1 Pc0_1 Pc1_1 Pc2_1 Pc3_1 Q_1 Qz_1 Qc0_1 Qc1_1 Qc2_1 Qc3_1 Qc4_1 ⊢
  refine (alive_any _).mono ?_
  rintro e V2 ⟨rfl, b⟩
  have P_2 := Lib.hid ((b.block _ Pz_1).trans P_1.out)
  have Pz_2 := Nat.lt_of_lt_of_le Pz_1 b.size
  have Pc0_2 := blk_cell P_2.out 0
  have Pc1_2 := blk_cell P_2.out 1
  have Pc2_2 := blk_cell P_2.out 2
  have Pc3_2 := blk_cell P_2.out 3
  have Q_2 := Lib.hid ((b.block _ Qz_1).trans Q_1.out)
  have Qz_2 := Nat.lt_of_lt_of_le Qz_1 b.size
  have Qc0_2 := blk_cell Q_2.out 0
  have Qc1_2 := blk_cell Q_2.out 1
  have Qc2_2 := blk_cell Q_2.out 2
  have Qc3_2 := blk_cell Q_2.out 3
  have Qc4_2 := blk_cell Q_2.out 4
  have q_2 := q_1.trans (b.mono q_1.size)
  clear P_1 Pz_1 Pc0_1 Pc1_1 Pc2_1 Pc3_1 Q_1 Qz_1 Qc0_1 Qc1_1 Qc2_1 Qc3_1 Qc4_1 q_1
  clear b
  by_cases hA : SV t f d o ∧ AV n p 1000
  case pos =>
    have HE : Hid (aE t f d o n p 1000 = 0) := Lib.hid (by rw [aE, if_pos hA.1, if_pos hA.2])
    obtain ⟨D, hD⟩ : ∃ D, min (d + n) 2147483648 = D := ⟨_, rfl⟩
    obtain ⟨y, hy⟩ : ∃ y, kK t f d o n p 1000 = y := ⟨_, rfl⟩
    have y0 : 0 ≤ y := by rw [← hy]; unfold kK; omega
    have hD0 : UV D := by have h1 := hA.1.2.1; have h2 := hA.2.1.1; unfold UV at h1 ⊢; unfold NV at h2; omega
    have HSV : Hid (SV t f D o) := Lib.hid ⟨hA.1.1, hD0, hA.1.2.2⟩
    have HF : Hid (sE t f D o 0 = 0) := Lib.hid (by rw [sE, if_pos HSV.out, if_pos ⟨by decide, by decide⟩])
    obtain ⟨O, hO⟩ : ∃ O, min (o + 0) 2147483648 = O := ⟨_, rfl⟩
    have HD := Lib.hid hD
    have HY := Lib.hid hy
    have HO := Lib.hid hO
    clear hD hy hO hD0 hA
    go_wp2_with fail
    refine (ack_l t f d o n p 1000 0 t f D o y HE.out (zE_0 _) (zE_0 _) ((zE_0 _).trans HD.out) (zE_0 _) ((zE_0 _).trans HY.out) _).mono ?_
    rintro e V3 ⟨rfl, b⟩
    have P_3 := Lib.hid ((b.block _ Pz_2).trans P_2.out)
    have Pz_3 := Nat.lt_of_lt_of_le Pz_2 b.size
    have Pc0_3 := blk_cell P_3.out 0
    have Pc1_3 := blk_cell P_3.out 1
    have Pc2_3 := blk_cell P_3.out 2
    have Pc3_3 := blk_cell P_3.out 3
    have Q_3 := Lib.hid ((b.block _ Qz_2).trans Q_2.out)
    have Qz_3 := Nat.lt_of_lt_of_le Qz_2 b.size
    have Qc0_3 := blk_cell Q_3.out 0
    have Qc1_3 := blk_cell Q_3.out 1
    have Qc2_3 := blk_cell Q_3.out 2
    have Qc3_3 := blk_cell Q_3.out 3
    have Qc4_3 := blk_cell Q_3.out 4
    have q_3 := q_2.trans (b.mono q_2.size)
    clear P_2 Pz_2 Pc0_2 Pc1_2 Pc2_2 Pc3_2 Q_2 Qz_2 Qc0_2 Qc1_2 Qc2_2 Qc3_2 Qc4_2 q_2
    clear b
    go_wp2_with fail
    have b : Below V3.heap.size V3 (V3.alloc (.cells #[.int .i64 t, .int .i64 f, .int .i64 D, .int .i64 o] 24)) := ((Below.refl _ V3).alloc (Nat.le_refl _) (.cells #[.int .i64 t, .int .i64 f, .int .i64 D, .int .i64 o] 24))
    have nb0 := blk_new V3 (.cells #[.int .i64 t, .int .i64 f, .int .i64 D, .int .i64 o] 24)
    have nz0 : V3.heap.size < (V3.alloc (.cells #[.int .i64 t, .int .i64 f, .int .i64 D, .int .i64 o] 24)).heap.size := by simp only [World.size_alloc]; omega
    have P_4 := Lib.hid ((b.block _ Pz_3).trans P_3.out)
    have Pz_4 := Nat.lt_of_lt_of_le Pz_3 b.size
    have Pc0_4 := blk_cell P_4.out 0
    have Pc1_4 := blk_cell P_4.out 1
    have Pc2_4 := blk_cell P_4.out 2
    have Pc3_4 := blk_cell P_4.out 3
    have Q_4 := Lib.hid ((b.block _ Qz_3).trans Q_3.out)
    have Qz_4 := Nat.lt_of_lt_of_le Qz_3 b.size
    have Qc0_4 := blk_cell Q_4.out 0
    have Qc1_4 := blk_cell Q_4.out 1
    have Qc2_4 := blk_cell Q_4.out 2
    have Qc3_4 := blk_cell Q_4.out 3
    have Qc4_4 := blk_cell Q_4.out 4
    have q_4 := q_3.trans (b.mono q_3.size)
    clear P_3 Pz_3 Pc0_3 Pc1_3 Pc2_3 Pc3_3 Q_3 Qz_3 Qc0_3 Qc1_3 Qc2_3 Qc3_3 Qc4_3 q_3
    clear b
    have A_4 := Lib.hid nb0
    have Az_4 := nz0
    clear nb0 nz0
    have Ac0_4 := blk_cell A_4.out 0
    have Ac1_4 := blk_cell A_4.out 1
    have Ac2_4 := blk_cell A_4.out 2
    have Ac3_4 := blk_cell A_4.out 3
    generalize (V3.alloc (.cells #[.int .i64 t, .int .i64 f, .int .i64 D, .int .i64 o] 24)) = V4 at q_4 P_4 Pz_4 Pc0_4 Pc1_4 Pc2_4 Pc3_4 Q_4 Qz_4 Qc0_4 Qc1_4 Qc2_4 Qc3_4 Qc4_4 A_4 Az_4 Ac0_4 Ac1_4 Ac2_4 Ac3_4 ⊢
    refine (num_any _ _).mono ?_
    rintro e w' ⟨rfl, rfl⟩
    go_wp2_with fail
    refine (spent_l t f D o 0 0 t f D O HF.out (zE_0 _) (zE_0 _) (zE_0 _) ((zE_0 _).trans HO.out) _).mono ?_
    rintro e V5 ⟨rfl, b⟩
    have P_5 := Lib.hid ((b.block _ Pz_4).trans P_4.out)
    have Pz_5 := Nat.lt_of_lt_of_le Pz_4 b.size
    have Pc0_5 := blk_cell P_5.out 0
    have Pc1_5 := blk_cell P_5.out 1
    have Pc2_5 := blk_cell P_5.out 2
    have Pc3_5 := blk_cell P_5.out 3
    have Q_5 := Lib.hid ((b.block _ Qz_4).trans Q_4.out)
    have Qz_5 := Nat.lt_of_lt_of_le Qz_4 b.size
    have Qc0_5 := blk_cell Q_5.out 0
    have Qc1_5 := blk_cell Q_5.out 1
    have Qc2_5 := blk_cell Q_5.out 2
    have Qc3_5 := blk_cell Q_5.out 3
    have Qc4_5 := blk_cell Q_5.out 4
    have A_5 := Lib.hid ((b.block _ Az_4).trans A_4.out)
    have Az_5 := Nat.lt_of_lt_of_le Az_4 b.size
    have Ac0_5 := blk_cell A_5.out 0
    have Ac1_5 := blk_cell A_5.out 1
    have Ac2_5 := blk_cell A_5.out 2
    have Ac3_5 := blk_cell A_5.out 3
    have q_5 := q_4.trans (b.mono q_4.size)
    clear P_4 Pz_4 Pc0_4 Pc1_4 Pc2_4 Pc3_4 Q_4 Qz_4 Qc0_4 Qc1_4 Qc2_4 Qc3_4 Qc4_4 A_4 Az_4 Ac0_4 Ac1_4 Ac2_4 Ac3_4 q_4
    clear b
    go_wp2_with fail
    have b : Below V5.heap.size V5 (V5.alloc (.cells #[.int .i64 t, .int .i64 f, .int .i64 D, .int .i64 O] 24)) := ((Below.refl _ V5).alloc (Nat.le_refl _) (.cells #[.int .i64 t, .int .i64 f, .int .i64 D, .int .i64 O] 24))
    have P_6 := Lib.hid ((b.block _ Pz_5).trans P_5.out)
    have Pz_6 := Nat.lt_of_lt_of_le Pz_5 b.size
    have Pc0_6 := blk_cell P_6.out 0
    have Pc1_6 := blk_cell P_6.out 1
    have Pc2_6 := blk_cell P_6.out 2
    have Pc3_6 := blk_cell P_6.out 3
    have Q_6 := Lib.hid ((b.block _ Qz_5).trans Q_5.out)
    have Qz_6 := Nat.lt_of_lt_of_le Qz_5 b.size
    have Qc0_6 := blk_cell Q_6.out 0
    have Qc1_6 := blk_cell Q_6.out 1
    have Qc2_6 := blk_cell Q_6.out 2
    have Qc3_6 := blk_cell Q_6.out 3
    have Qc4_6 := blk_cell Q_6.out 4
    have A_6 := Lib.hid ((b.block _ Az_5).trans A_5.out)
    have Az_6 := Nat.lt_of_lt_of_le Az_5 b.size
    have Ac0_6 := blk_cell A_6.out 0
    have Ac1_6 := blk_cell A_6.out 1
    have Ac2_6 := blk_cell A_6.out 2
    have Ac3_6 := blk_cell A_6.out 3
    have q_6 := q_5.trans (b.mono q_5.size)
    clear P_5 Pz_5 Pc0_5 Pc1_5 Pc2_5 Pc3_5 Q_5 Qz_5 Qc0_5 Qc1_5 Qc2_5 Qc3_5 Qc4_5 A_5 Az_5 Ac0_5 Ac1_5 Ac2_5 Ac3_5 q_5
    clear b
    generalize (V5.alloc (.cells #[.int .i64 t, .int .i64 f, .int .i64 D, .int .i64 O] 24)) = V6 at q_6 P_6 Pz_6 Pc0_6 Pc1_6 Pc2_6 Pc3_6 Q_6 Qz_6 Qc0_6 Qc1_6 Qc2_6 Qc3_6 Qc4_6 A_6 Az_6 Ac0_6 Ac1_6 Ac2_6 Ac3_6 ⊢
    refine (num_any _ _).mono ?_
    rintro e w' ⟨rfl, rfl⟩
    by_cases hS : s.may
    case neg =>
      go_wp2_with fail
      refine (send_s s.d s.a s.i s.r s.k v false _ hS).mono ?_
      rintro e V7 ⟨rfl, b⟩
      have P_7 := Lib.hid ((b.block _ Pz_6).trans P_6.out)
      have Pz_7 := Nat.lt_of_lt_of_le Pz_6 b.size
      have Pc0_7 := blk_cell P_7.out 0
      have Pc1_7 := blk_cell P_7.out 1
      have Pc2_7 := blk_cell P_7.out 2
      have Pc3_7 := blk_cell P_7.out 3
      have Q_7 := Lib.hid ((b.block _ Qz_6).trans Q_6.out)
      have Qz_7 := Nat.lt_of_lt_of_le Qz_6 b.size
      have Qc0_7 := blk_cell Q_7.out 0
      have Qc1_7 := blk_cell Q_7.out 1
      have Qc2_7 := blk_cell Q_7.out 2
      have Qc3_7 := blk_cell Q_7.out 3
      have Qc4_7 := blk_cell Q_7.out 4
      have A_7 := Lib.hid ((b.block _ Az_6).trans A_6.out)
      have Az_7 := Nat.lt_of_lt_of_le Az_6 b.size
      have Ac0_7 := blk_cell A_7.out 0
      have Ac1_7 := blk_cell A_7.out 1
      have Ac2_7 := blk_cell A_7.out 2
      have Ac3_7 := blk_cell A_7.out 3
      have q_7 := q_6.trans (b.mono q_6.size)
      clear P_6 Pz_6 Pc0_6 Pc1_6 Pc2_6 Pc3_6 Q_6 Qz_6 Qc0_6 Qc1_6 Qc2_6 Qc3_6 Qc4_6 A_6 Az_6 Ac0_6 Ac1_6 Ac2_6 Ac3_6 q_6
      clear b
      go_wp2_with fail
      have b : Below V7.heap.size V7 ((V7.alloc (.cells #[.int .i64 0, .int .i64 0, .int .i64 0, .int .i64 0, .int .i64 0] 43)).alloc (.cells #[.int .i64 0, .int .i64 0, .int .i64 0, .int .i64 0] 44)) := (((Below.refl _ V7).alloc (Nat.le_refl _) (.cells #[.int .i64 0, .int .i64 0, .int .i64 0, .int .i64 0, .int .i64 0] 43)).alloc (by simp only [World.size_alloc]; omega) (.cells #[.int .i64 0, .int .i64 0, .int .i64 0, .int .i64 0] 44))
      have nb0 := blk_new V7 (.cells #[.int .i64 0, .int .i64 0, .int .i64 0, .int .i64 0, .int .i64 0] 43)
      have nb0 := (Below.heap_alloc (V7.alloc (.cells #[.int .i64 0, .int .i64 0, .int .i64 0, .int .i64 0, .int .i64 0] 43)) (.cells #[.int .i64 0, .int .i64 0, .int .i64 0, .int .i64 0] 44) (V7.heap.size) (by simp only [World.size_alloc]; omega)).trans nb0
      have nz0 : V7.heap.size < ((V7.alloc (.cells #[.int .i64 0, .int .i64 0, .int .i64 0, .int .i64 0, .int .i64 0] 43)).alloc (.cells #[.int .i64 0, .int .i64 0, .int .i64 0, .int .i64 0] 44)).heap.size := by simp only [World.size_alloc]; omega
      have P_8 := Lib.hid ((b.block _ Pz_7).trans P_7.out)
      have Pz_8 := Nat.lt_of_lt_of_le Pz_7 b.size
      have Pc0_8 := blk_cell P_8.out 0
      have Pc1_8 := blk_cell P_8.out 1
      have Pc2_8 := blk_cell P_8.out 2
      have Pc3_8 := blk_cell P_8.out 3
      have Q_8 := Lib.hid ((b.block _ Qz_7).trans Q_7.out)
      have Qz_8 := Nat.lt_of_lt_of_le Qz_7 b.size
      have Qc0_8 := blk_cell Q_8.out 0
      have Qc1_8 := blk_cell Q_8.out 1
      have Qc2_8 := blk_cell Q_8.out 2
      have Qc3_8 := blk_cell Q_8.out 3
      have Qc4_8 := blk_cell Q_8.out 4
      have A_8 := Lib.hid ((b.block _ Az_7).trans A_7.out)
      have Az_8 := Nat.lt_of_lt_of_le Az_7 b.size
      have Ac0_8 := blk_cell A_8.out 0
      have Ac1_8 := blk_cell A_8.out 1
      have Ac2_8 := blk_cell A_8.out 2
      have Ac3_8 := blk_cell A_8.out 3
      have q_8 := q_7.trans (b.mono q_7.size)
      clear P_7 Pz_7 Pc0_7 Pc1_7 Pc2_7 Pc3_7 Q_7 Qz_7 Qc0_7 Qc1_7 Qc2_7 Qc3_7 Qc4_7 A_7 Az_7 Ac0_7 Ac1_7 Ac2_7 Ac3_7 q_7
      clear b
      have T_8 := Lib.hid nb0
      have Tz_8 := nz0
      clear nb0 nz0
      have Tc0_8 := blk_cell T_8.out 0
      have Tc1_8 := blk_cell T_8.out 1
      have Tc2_8 := blk_cell T_8.out 2
      have Tc3_8 := blk_cell T_8.out 3
      have Tc4_8 := blk_cell T_8.out 4
      generalize ((V7.alloc (.cells #[.int .i64 0, .int .i64 0, .int .i64 0, .int .i64 0, .int .i64 0] 43)).alloc (.cells #[.int .i64 0, .int .i64 0, .int .i64 0, .int .i64 0] 44)) = V8 at q_8 P_8 Pz_8 Pc0_8 Pc1_8 Pc2_8 Pc3_8 Q_8 Qz_8 Qc0_8 Qc1_8 Qc2_8 Qc3_8 Qc4_8 A_8 Az_8 Ac0_8 Ac1_8 Ac2_8 Ac3_8 T_8 Tz_8 Tc0_8 Tc1_8 Tc2_8 Tc3_8 Tc4_8 ⊢
      refine (num_any _ _).mono ?_
      rintro e w' ⟨rfl, rfl⟩
      go_wp2
      go_ret
      exact ⟨rfl, q_8⟩
    case pos =>
      by_cases hV : TV v
      case neg =>
        go_wp2_with fail
        refine (send_v s.d s.a s.i s.r s.k v false _ hS hV).mono ?_
        rintro e V7 ⟨rfl, b⟩
        have P_7 := Lib.hid ((b.block _ Pz_6).trans P_6.out)
        have Pz_7 := Nat.lt_of_lt_of_le Pz_6 b.size
        have Pc0_7 := blk_cell P_7.out 0
        have Pc1_7 := blk_cell P_7.out 1
        have Pc2_7 := blk_cell P_7.out 2
        have Pc3_7 := blk_cell P_7.out 3
        have Q_7 := Lib.hid ((b.block _ Qz_6).trans Q_6.out)
        have Qz_7 := Nat.lt_of_lt_of_le Qz_6 b.size
        have Qc0_7 := blk_cell Q_7.out 0
        have Qc1_7 := blk_cell Q_7.out 1
        have Qc2_7 := blk_cell Q_7.out 2
        have Qc3_7 := blk_cell Q_7.out 3
        have Qc4_7 := blk_cell Q_7.out 4
        have A_7 := Lib.hid ((b.block _ Az_6).trans A_6.out)
        have Az_7 := Nat.lt_of_lt_of_le Az_6 b.size
        have Ac0_7 := blk_cell A_7.out 0
        have Ac1_7 := blk_cell A_7.out 1
        have Ac2_7 := blk_cell A_7.out 2
        have Ac3_7 := blk_cell A_7.out 3
        have q_7 := q_6.trans (b.mono q_6.size)
        clear P_6 Pz_6 Pc0_6 Pc1_6 Pc2_6 Pc3_6 Q_6 Qz_6 Qc0_6 Qc1_6 Qc2_6 Qc3_6 Qc4_6 A_6 Az_6 Ac0_6 Ac1_6 Ac2_6 Ac3_6 q_6
        clear b
        go_wp2_with fail
        have b : Below V7.heap.size V7 ((V7.alloc (.cells #[.int .i64 0, .int .i64 0, .int .i64 0, .int .i64 0, .int .i64 0] 43)).alloc (.cells #[.int .i64 0, .int .i64 0, .int .i64 0, .int .i64 0] 44)) := (((Below.refl _ V7).alloc (Nat.le_refl _) (.cells #[.int .i64 0, .int .i64 0, .int .i64 0, .int .i64 0, .int .i64 0] 43)).alloc (by simp only [World.size_alloc]; omega) (.cells #[.int .i64 0, .int .i64 0, .int .i64 0, .int .i64 0] 44))
        have nb0 := blk_new V7 (.cells #[.int .i64 0, .int .i64 0, .int .i64 0, .int .i64 0, .int .i64 0] 43)
        have nb0 := (Below.heap_alloc (V7.alloc (.cells #[.int .i64 0, .int .i64 0, .int .i64 0, .int .i64 0, .int .i64 0] 43)) (.cells #[.int .i64 0, .int .i64 0, .int .i64 0, .int .i64 0] 44) (V7.heap.size) (by simp only [World.size_alloc]; omega)).trans nb0
        have nz0 : V7.heap.size < ((V7.alloc (.cells #[.int .i64 0, .int .i64 0, .int .i64 0, .int .i64 0, .int .i64 0] 43)).alloc (.cells #[.int .i64 0, .int .i64 0, .int .i64 0, .int .i64 0] 44)).heap.size := by simp only [World.size_alloc]; omega
        have P_8 := Lib.hid ((b.block _ Pz_7).trans P_7.out)
        have Pz_8 := Nat.lt_of_lt_of_le Pz_7 b.size
        have Pc0_8 := blk_cell P_8.out 0
        have Pc1_8 := blk_cell P_8.out 1
        have Pc2_8 := blk_cell P_8.out 2
        have Pc3_8 := blk_cell P_8.out 3
        have Q_8 := Lib.hid ((b.block _ Qz_7).trans Q_7.out)
        have Qz_8 := Nat.lt_of_lt_of_le Qz_7 b.size
        have Qc0_8 := blk_cell Q_8.out 0
        have Qc1_8 := blk_cell Q_8.out 1
        have Qc2_8 := blk_cell Q_8.out 2
        have Qc3_8 := blk_cell Q_8.out 3
        have Qc4_8 := blk_cell Q_8.out 4
        have A_8 := Lib.hid ((b.block _ Az_7).trans A_7.out)
        have Az_8 := Nat.lt_of_lt_of_le Az_7 b.size
        have Ac0_8 := blk_cell A_8.out 0
        have Ac1_8 := blk_cell A_8.out 1
        have Ac2_8 := blk_cell A_8.out 2
        have Ac3_8 := blk_cell A_8.out 3
        have q_8 := q_7.trans (b.mono q_7.size)
        clear P_7 Pz_7 Pc0_7 Pc1_7 Pc2_7 Pc3_7 Q_7 Qz_7 Qc0_7 Qc1_7 Qc2_7 Qc3_7 Qc4_7 A_7 Az_7 Ac0_7 Ac1_7 Ac2_7 Ac3_7 q_7
        clear b
        have T_8 := Lib.hid nb0
        have Tz_8 := nz0
        clear nb0 nz0
        have Tc0_8 := blk_cell T_8.out 0
        have Tc1_8 := blk_cell T_8.out 1
        have Tc2_8 := blk_cell T_8.out 2
        have Tc3_8 := blk_cell T_8.out 3
        have Tc4_8 := blk_cell T_8.out 4
        generalize ((V7.alloc (.cells #[.int .i64 0, .int .i64 0, .int .i64 0, .int .i64 0, .int .i64 0] 43)).alloc (.cells #[.int .i64 0, .int .i64 0, .int .i64 0, .int .i64 0] 44)) = V8 at q_8 P_8 Pz_8 Pc0_8 Pc1_8 Pc2_8 Pc3_8 Q_8 Qz_8 Qc0_8 Qc1_8 Qc2_8 Qc3_8 Qc4_8 A_8 Az_8 Ac0_8 Ac1_8 Ac2_8 Ac3_8 T_8 Tz_8 Tc0_8 Tc1_8 Tc2_8 Tc3_8 Tc4_8 ⊢
        refine (num_any _ _).mono ?_
        rintro e w' ⟨rfl, rfl⟩
        go_wp2
        go_ret
        exact ⟨rfl, q_8⟩
      case pos =>
        have HS := Lib.hid hS
        have HV := Lib.hid hV
        have hD : Dok ⟨s.d, s.a, s.i, v⟩ 1 v := ⟨⟨by decide, by decide⟩, hV, hS.1, hS.2.1, hS.2.2.1, hV⟩
        have HE : Hid (dvE s ⟨s.d, s.a, s.i, v⟩ 1 v = 0) := Lib.hid (by rw [dvE, if_pos hS, if_pos hD])
        obtain ⟨u, hu⟩ : ∃ u, dvR s ⟨s.d, s.a, s.i, v⟩ 1 v = u := ⟨_, rfl⟩
        have hm : Hid (u.may) := Lib.hid (by rw [← hu, dvR, if_pos hS, if_pos hD]; exact dl1_may hS hD)
        obtain ⟨K, hK⟩ : ∃ K, dvK s ⟨s.d, s.a, s.i, v⟩ 1 v = K := ⟨_, rfl⟩
        obtain ⟨B, hB⟩ : ∃ B, dvB s ⟨s.d, s.a, s.i, v⟩ 1 v = B := ⟨_, rfl⟩
        have HU := Lib.hid hu
        have HK := Lib.hid hK
        have HB := Lib.hid hB
        have HF : Hid (ndE u v = 0) := Lib.hid (by rw [ndE, if_pos hm.out, if_pos hV])
        obtain ⟨x, hx⟩ : ∃ x, ndR u v true = x := ⟨_, rfl⟩
        obtain ⟨z, hz⟩ : ∃ z, ndS u v true = z := ⟨_, rfl⟩
        have HX := Lib.hid hx
        have HZ := Lib.hid hz
        clear hu hK hB hx hz hD hS hV
        go_wp2_with fail
        refine (send_false s.d s.a s.i s.r s.k v _ HS.out HV.out).mono ?_
        rintro e V7 ⟨rfl, b⟩
        have P_7 := Lib.hid ((b.block _ Pz_6).trans P_6.out)
        have Pz_7 := Nat.lt_of_lt_of_le Pz_6 b.size
        have Pc0_7 := blk_cell P_7.out 0
        have Pc1_7 := blk_cell P_7.out 1
        have Pc2_7 := blk_cell P_7.out 2
        have Pc3_7 := blk_cell P_7.out 3
        have Q_7 := Lib.hid ((b.block _ Qz_6).trans Q_6.out)
        have Qz_7 := Nat.lt_of_lt_of_le Qz_6 b.size
        have Qc0_7 := blk_cell Q_7.out 0
        have Qc1_7 := blk_cell Q_7.out 1
        have Qc2_7 := blk_cell Q_7.out 2
        have Qc3_7 := blk_cell Q_7.out 3
        have Qc4_7 := blk_cell Q_7.out 4
        have A_7 := Lib.hid ((b.block _ Az_6).trans A_6.out)
        have Az_7 := Nat.lt_of_lt_of_le Az_6 b.size
        have Ac0_7 := blk_cell A_7.out 0
        have Ac1_7 := blk_cell A_7.out 1
        have Ac2_7 := blk_cell A_7.out 2
        have Ac3_7 := blk_cell A_7.out 3
        have q_7 := q_6.trans (b.mono q_6.size)
        clear P_6 Pz_6 Pc0_6 Pc1_6 Pc2_6 Pc3_6 Q_6 Qz_6 Qc0_6 Qc1_6 Qc2_6 Qc3_6 Qc4_6 A_6 Az_6 Ac0_6 Ac1_6 Ac2_6 Ac3_6 q_6
        clear b
        go_wp2_with fail
        have b : Below V7.heap.size V7 ((V7.alloc (.cells #[.int .i64 s.d, .int .i64 s.a, .int .i64 s.i, .int .i64 s.r, .int .i64 s.k] 43)).alloc (.cells #[.int .i64 s.d, .int .i64 s.a, .int .i64 s.i, .int .i64 v] 44)) := (((Below.refl _ V7).alloc (Nat.le_refl _) (.cells #[.int .i64 s.d, .int .i64 s.a, .int .i64 s.i, .int .i64 s.r, .int .i64 s.k] 43)).alloc (by simp only [World.size_alloc]; omega) (.cells #[.int .i64 s.d, .int .i64 s.a, .int .i64 s.i, .int .i64 v] 44))
        have nb0 := blk_new V7 (.cells #[.int .i64 s.d, .int .i64 s.a, .int .i64 s.i, .int .i64 s.r, .int .i64 s.k] 43)
        have nb0 := (Below.heap_alloc (V7.alloc (.cells #[.int .i64 s.d, .int .i64 s.a, .int .i64 s.i, .int .i64 s.r, .int .i64 s.k] 43)) (.cells #[.int .i64 s.d, .int .i64 s.a, .int .i64 s.i, .int .i64 v] 44) (V7.heap.size) (by simp only [World.size_alloc]; omega)).trans nb0
        have nz0 : V7.heap.size < ((V7.alloc (.cells #[.int .i64 s.d, .int .i64 s.a, .int .i64 s.i, .int .i64 s.r, .int .i64 s.k] 43)).alloc (.cells #[.int .i64 s.d, .int .i64 s.a, .int .i64 s.i, .int .i64 v] 44)).heap.size := by simp only [World.size_alloc]; omega
        have nb1 := blk_new (V7.alloc (.cells #[.int .i64 s.d, .int .i64 s.a, .int .i64 s.i, .int .i64 s.r, .int .i64 s.k] 43)) (.cells #[.int .i64 s.d, .int .i64 s.a, .int .i64 s.i, .int .i64 v] 44)
        simp only [World.size_alloc] at nb1
        have nz1 : V7.heap.size + 1 < ((V7.alloc (.cells #[.int .i64 s.d, .int .i64 s.a, .int .i64 s.i, .int .i64 s.r, .int .i64 s.k] 43)).alloc (.cells #[.int .i64 s.d, .int .i64 s.a, .int .i64 s.i, .int .i64 v] 44)).heap.size := by simp only [World.size_alloc]; omega
        have P_8 := Lib.hid ((b.block _ Pz_7).trans P_7.out)
        have Pz_8 := Nat.lt_of_lt_of_le Pz_7 b.size
        have Pc0_8 := blk_cell P_8.out 0
        have Pc1_8 := blk_cell P_8.out 1
        have Pc2_8 := blk_cell P_8.out 2
        have Pc3_8 := blk_cell P_8.out 3
        have Q_8 := Lib.hid ((b.block _ Qz_7).trans Q_7.out)
        have Qz_8 := Nat.lt_of_lt_of_le Qz_7 b.size
        have Qc0_8 := blk_cell Q_8.out 0
        have Qc1_8 := blk_cell Q_8.out 1
        have Qc2_8 := blk_cell Q_8.out 2
        have Qc3_8 := blk_cell Q_8.out 3
        have Qc4_8 := blk_cell Q_8.out 4
        have A_8 := Lib.hid ((b.block _ Az_7).trans A_7.out)
        have Az_8 := Nat.lt_of_lt_of_le Az_7 b.size
        have Ac0_8 := blk_cell A_8.out 0
        have Ac1_8 := blk_cell A_8.out 1
        have Ac2_8 := blk_cell A_8.out 2
        have Ac3_8 := blk_cell A_8.out 3
        have q_8 := q_7.trans (b.mono q_7.size)
        clear P_7 Pz_7 Pc0_7 Pc1_7 Pc2_7 Pc3_7 Q_7 Qz_7 Qc0_7 Qc1_7 Qc2_7 Qc3_7 Qc4_7 A_7 Az_7 Ac0_7 Ac1_7 Ac2_7 Ac3_7 q_7
        clear b
        have T_8 := Lib.hid nb0
        have Tz_8 := nz0
        clear nb0 nz0
        have Tc0_8 := blk_cell T_8.out 0
        have Tc1_8 := blk_cell T_8.out 1
        have Tc2_8 := blk_cell T_8.out 2
        have Tc3_8 := blk_cell T_8.out 3
        have Tc4_8 := blk_cell T_8.out 4
        have N_8 := Lib.hid nb1
        have Nz_8 := nz1
        clear nb1 nz1
        have Nc0_8 := blk_cell N_8.out 0
        have Nc1_8 := blk_cell N_8.out 1
        have Nc2_8 := blk_cell N_8.out 2
        have Nc3_8 := blk_cell N_8.out 3
        generalize ((V7.alloc (.cells #[.int .i64 s.d, .int .i64 s.a, .int .i64 s.i, .int .i64 s.r, .int .i64 s.k] 43)).alloc (.cells #[.int .i64 s.d, .int .i64 s.a, .int .i64 s.i, .int .i64 v] 44)) = V8 at q_8 P_8 Pz_8 Pc0_8 Pc1_8 Pc2_8 Pc3_8 Q_8 Qz_8 Qc0_8 Qc1_8 Qc2_8 Qc3_8 Qc4_8 A_8 Az_8 Ac0_8 Ac1_8 Ac2_8 Ac3_8 T_8 Tz_8 Tc0_8 Tc1_8 Tc2_8 Tc3_8 Tc4_8 N_8 Nz_8 Nc0_8 Nc1_8 Nc2_8 Nc3_8 ⊢
        refine (num_any _ _).mono ?_
        rintro e w' ⟨rfl, rfl⟩
        go_wp2_with fail
        refine (deliver_l s ⟨s.d, s.a, s.i, v⟩ 1 v u K B 0 HE.out HU.out HK.out HB.out _).mono ?_
        rintro e V9 ⟨rfl, b⟩
        have P_9 := Lib.hid ((b.block _ Pz_8).trans P_8.out)
        have Pz_9 := Nat.lt_of_lt_of_le Pz_8 b.size
        have Pc0_9 := blk_cell P_9.out 0
        have Pc1_9 := blk_cell P_9.out 1
        have Pc2_9 := blk_cell P_9.out 2
        have Pc3_9 := blk_cell P_9.out 3
        have Q_9 := Lib.hid ((b.block _ Qz_8).trans Q_8.out)
        have Qz_9 := Nat.lt_of_lt_of_le Qz_8 b.size
        have Qc0_9 := blk_cell Q_9.out 0
        have Qc1_9 := blk_cell Q_9.out 1
        have Qc2_9 := blk_cell Q_9.out 2
        have Qc3_9 := blk_cell Q_9.out 3
        have Qc4_9 := blk_cell Q_9.out 4
        have A_9 := Lib.hid ((b.block _ Az_8).trans A_8.out)
        have Az_9 := Nat.lt_of_lt_of_le Az_8 b.size
        have Ac0_9 := blk_cell A_9.out 0
        have Ac1_9 := blk_cell A_9.out 1
        have Ac2_9 := blk_cell A_9.out 2
        have Ac3_9 := blk_cell A_9.out 3
        have T_9 := Lib.hid ((b.block _ Tz_8).trans T_8.out)
        have Tz_9 := Nat.lt_of_lt_of_le Tz_8 b.size
        have Tc0_9 := blk_cell T_9.out 0
        have Tc1_9 := blk_cell T_9.out 1
        have Tc2_9 := blk_cell T_9.out 2
        have Tc3_9 := blk_cell T_9.out 3
        have Tc4_9 := blk_cell T_9.out 4
        have N_9 := Lib.hid ((b.block _ Nz_8).trans N_8.out)
        have Nz_9 := Nat.lt_of_lt_of_le Nz_8 b.size
        have Nc0_9 := blk_cell N_9.out 0
        have Nc1_9 := blk_cell N_9.out 1
        have Nc2_9 := blk_cell N_9.out 2
        have Nc3_9 := blk_cell N_9.out 3
        have q_9 := q_8.trans (b.mono q_8.size)
        clear P_8 Pz_8 Pc0_8 Pc1_8 Pc2_8 Pc3_8 Q_8 Qz_8 Qc0_8 Qc1_8 Qc2_8 Qc3_8 Qc4_8 A_8 Az_8 Ac0_8 Ac1_8 Ac2_8 Ac3_8 T_8 Tz_8 Tc0_8 Tc1_8 Tc2_8 Tc3_8 Tc4_8 N_8 Nz_8 Nc0_8 Nc1_8 Nc2_8 Nc3_8 q_8
        clear b
        go_wp2_with fail
        have b : Below V9.heap.size V9 (V9.alloc (.cells #[.int .i64 u.d, .int .i64 u.a, .int .i64 u.i, .int .i64 u.r, .int .i64 u.k] 43)) := ((Below.refl _ V9).alloc (Nat.le_refl _) (.cells #[.int .i64 u.d, .int .i64 u.a, .int .i64 u.i, .int .i64 u.r, .int .i64 u.k] 43))
        have nb0 := blk_new V9 (.cells #[.int .i64 u.d, .int .i64 u.a, .int .i64 u.i, .int .i64 u.r, .int .i64 u.k] 43)
        have nz0 : V9.heap.size < (V9.alloc (.cells #[.int .i64 u.d, .int .i64 u.a, .int .i64 u.i, .int .i64 u.r, .int .i64 u.k] 43)).heap.size := by simp only [World.size_alloc]; omega
        have P_10 := Lib.hid ((b.block _ Pz_9).trans P_9.out)
        have Pz_10 := Nat.lt_of_lt_of_le Pz_9 b.size
        have Pc0_10 := blk_cell P_10.out 0
        have Pc1_10 := blk_cell P_10.out 1
        have Pc2_10 := blk_cell P_10.out 2
        have Pc3_10 := blk_cell P_10.out 3
        have Q_10 := Lib.hid ((b.block _ Qz_9).trans Q_9.out)
        have Qz_10 := Nat.lt_of_lt_of_le Qz_9 b.size
        have Qc0_10 := blk_cell Q_10.out 0
        have Qc1_10 := blk_cell Q_10.out 1
        have Qc2_10 := blk_cell Q_10.out 2
        have Qc3_10 := blk_cell Q_10.out 3
        have Qc4_10 := blk_cell Q_10.out 4
        have A_10 := Lib.hid ((b.block _ Az_9).trans A_9.out)
        have Az_10 := Nat.lt_of_lt_of_le Az_9 b.size
        have Ac0_10 := blk_cell A_10.out 0
        have Ac1_10 := blk_cell A_10.out 1
        have Ac2_10 := blk_cell A_10.out 2
        have Ac3_10 := blk_cell A_10.out 3
        have T_10 := Lib.hid ((b.block _ Tz_9).trans T_9.out)
        have Tz_10 := Nat.lt_of_lt_of_le Tz_9 b.size
        have Tc0_10 := blk_cell T_10.out 0
        have Tc1_10 := blk_cell T_10.out 1
        have Tc2_10 := blk_cell T_10.out 2
        have Tc3_10 := blk_cell T_10.out 3
        have Tc4_10 := blk_cell T_10.out 4
        have N_10 := Lib.hid ((b.block _ Nz_9).trans N_9.out)
        have Nz_10 := Nat.lt_of_lt_of_le Nz_9 b.size
        have Nc0_10 := blk_cell N_10.out 0
        have Nc1_10 := blk_cell N_10.out 1
        have Nc2_10 := blk_cell N_10.out 2
        have Nc3_10 := blk_cell N_10.out 3
        have q_10 := q_9.trans (b.mono q_9.size)
        clear P_9 Pz_9 Pc0_9 Pc1_9 Pc2_9 Pc3_9 Q_9 Qz_9 Qc0_9 Qc1_9 Qc2_9 Qc3_9 Qc4_9 A_9 Az_9 Ac0_9 Ac1_9 Ac2_9 Ac3_9 T_9 Tz_9 Tc0_9 Tc1_9 Tc2_9 Tc3_9 Tc4_9 N_9 Nz_9 Nc0_9 Nc1_9 Nc2_9 Nc3_9 q_9
        clear b
        have U_10 := Lib.hid nb0
        have Uz_10 := nz0
        clear nb0 nz0
        have Uc0_10 := blk_cell U_10.out 0
        have Uc1_10 := blk_cell U_10.out 1
        have Uc2_10 := blk_cell U_10.out 2
        have Uc3_10 := blk_cell U_10.out 3
        have Uc4_10 := blk_cell U_10.out 4
        generalize (V9.alloc (.cells #[.int .i64 u.d, .int .i64 u.a, .int .i64 u.i, .int .i64 u.r, .int .i64 u.k] 43)) = V10 at q_10 P_10 Pz_10 Pc0_10 Pc1_10 Pc2_10 Pc3_10 Q_10 Qz_10 Qc0_10 Qc1_10 Qc2_10 Qc3_10 Qc4_10 A_10 Az_10 Ac0_10 Ac1_10 Ac2_10 Ac3_10 T_10 Tz_10 Tc0_10 Tc1_10 Tc2_10 Tc3_10 Tc4_10 N_10 Nz_10 Nc0_10 Nc1_10 Nc2_10 Nc3_10 U_10 Uz_10 Uc0_10 Uc1_10 Uc2_10 Uc3_10 Uc4_10 ⊢
        refine (num_any _ _).mono ?_
        rintro e w' ⟨rfl, rfl⟩
        go_wp2_with fail
        refine (send_l u v true x z 0 HF.out HX.out HZ.out _).mono ?_
        rintro e V11 ⟨rfl, b⟩
        have P_11 := Lib.hid ((b.block _ Pz_10).trans P_10.out)
        have Pz_11 := Nat.lt_of_lt_of_le Pz_10 b.size
        have Pc0_11 := blk_cell P_11.out 0
        have Pc1_11 := blk_cell P_11.out 1
        have Pc2_11 := blk_cell P_11.out 2
        have Pc3_11 := blk_cell P_11.out 3
        have Q_11 := Lib.hid ((b.block _ Qz_10).trans Q_10.out)
        have Qz_11 := Nat.lt_of_lt_of_le Qz_10 b.size
        have Qc0_11 := blk_cell Q_11.out 0
        have Qc1_11 := blk_cell Q_11.out 1
        have Qc2_11 := blk_cell Q_11.out 2
        have Qc3_11 := blk_cell Q_11.out 3
        have Qc4_11 := blk_cell Q_11.out 4
        have A_11 := Lib.hid ((b.block _ Az_10).trans A_10.out)
        have Az_11 := Nat.lt_of_lt_of_le Az_10 b.size
        have Ac0_11 := blk_cell A_11.out 0
        have Ac1_11 := blk_cell A_11.out 1
        have Ac2_11 := blk_cell A_11.out 2
        have Ac3_11 := blk_cell A_11.out 3
        have T_11 := Lib.hid ((b.block _ Tz_10).trans T_10.out)
        have Tz_11 := Nat.lt_of_lt_of_le Tz_10 b.size
        have Tc0_11 := blk_cell T_11.out 0
        have Tc1_11 := blk_cell T_11.out 1
        have Tc2_11 := blk_cell T_11.out 2
        have Tc3_11 := blk_cell T_11.out 3
        have Tc4_11 := blk_cell T_11.out 4
        have N_11 := Lib.hid ((b.block _ Nz_10).trans N_10.out)
        have Nz_11 := Nat.lt_of_lt_of_le Nz_10 b.size
        have Nc0_11 := blk_cell N_11.out 0
        have Nc1_11 := blk_cell N_11.out 1
        have Nc2_11 := blk_cell N_11.out 2
        have Nc3_11 := blk_cell N_11.out 3
        have U_11 := Lib.hid ((b.block _ Uz_10).trans U_10.out)
        have Uz_11 := Nat.lt_of_lt_of_le Uz_10 b.size
        have Uc0_11 := blk_cell U_11.out 0
        have Uc1_11 := blk_cell U_11.out 1
        have Uc2_11 := blk_cell U_11.out 2
        have Uc3_11 := blk_cell U_11.out 3
        have Uc4_11 := blk_cell U_11.out 4
        have q_11 := q_10.trans (b.mono q_10.size)
        clear P_10 Pz_10 Pc0_10 Pc1_10 Pc2_10 Pc3_10 Q_10 Qz_10 Qc0_10 Qc1_10 Qc2_10 Qc3_10 Qc4_10 A_10 Az_10 Ac0_10 Ac1_10 Ac2_10 Ac3_10 T_10 Tz_10 Tc0_10 Tc1_10 Tc2_10 Tc3_10 Tc4_10 N_10 Nz_10 Nc0_10 Nc1_10 Nc2_10 Nc3_10 U_10 Uz_10 Uc0_10 Uc1_10 Uc2_10 Uc3_10 Uc4_10 q_10
        clear b
        go_wp2_with fail
        have b : Below V11.heap.size V11 ((V11.alloc (.cells #[.int .i64 x.d, .int .i64 x.a, .int .i64 x.i, .int .i64 x.r, .int .i64 x.k] 43)).alloc (.cells #[.int .i64 z.d, .int .i64 z.a, .int .i64 z.i, .int .i64 z.l] 44)) := (((Below.refl _ V11).alloc (Nat.le_refl _) (.cells #[.int .i64 x.d, .int .i64 x.a, .int .i64 x.i, .int .i64 x.r, .int .i64 x.k] 43)).alloc (by simp only [World.size_alloc]; omega) (.cells #[.int .i64 z.d, .int .i64 z.a, .int .i64 z.i, .int .i64 z.l] 44))
        have P_12 := Lib.hid ((b.block _ Pz_11).trans P_11.out)
        have Pz_12 := Nat.lt_of_lt_of_le Pz_11 b.size
        have Pc0_12 := blk_cell P_12.out 0
        have Pc1_12 := blk_cell P_12.out 1
        have Pc2_12 := blk_cell P_12.out 2
        have Pc3_12 := blk_cell P_12.out 3
        have Q_12 := Lib.hid ((b.block _ Qz_11).trans Q_11.out)
        have Qz_12 := Nat.lt_of_lt_of_le Qz_11 b.size
        have Qc0_12 := blk_cell Q_12.out 0
        have Qc1_12 := blk_cell Q_12.out 1
        have Qc2_12 := blk_cell Q_12.out 2
        have Qc3_12 := blk_cell Q_12.out 3
        have Qc4_12 := blk_cell Q_12.out 4
        have A_12 := Lib.hid ((b.block _ Az_11).trans A_11.out)
        have Az_12 := Nat.lt_of_lt_of_le Az_11 b.size
        have Ac0_12 := blk_cell A_12.out 0
        have Ac1_12 := blk_cell A_12.out 1
        have Ac2_12 := blk_cell A_12.out 2
        have Ac3_12 := blk_cell A_12.out 3
        have T_12 := Lib.hid ((b.block _ Tz_11).trans T_11.out)
        have Tz_12 := Nat.lt_of_lt_of_le Tz_11 b.size
        have Tc0_12 := blk_cell T_12.out 0
        have Tc1_12 := blk_cell T_12.out 1
        have Tc2_12 := blk_cell T_12.out 2
        have Tc3_12 := blk_cell T_12.out 3
        have Tc4_12 := blk_cell T_12.out 4
        have N_12 := Lib.hid ((b.block _ Nz_11).trans N_11.out)
        have Nz_12 := Nat.lt_of_lt_of_le Nz_11 b.size
        have Nc0_12 := blk_cell N_12.out 0
        have Nc1_12 := blk_cell N_12.out 1
        have Nc2_12 := blk_cell N_12.out 2
        have Nc3_12 := blk_cell N_12.out 3
        have U_12 := Lib.hid ((b.block _ Uz_11).trans U_11.out)
        have Uz_12 := Nat.lt_of_lt_of_le Uz_11 b.size
        have Uc0_12 := blk_cell U_12.out 0
        have Uc1_12 := blk_cell U_12.out 1
        have Uc2_12 := blk_cell U_12.out 2
        have Uc3_12 := blk_cell U_12.out 3
        have Uc4_12 := blk_cell U_12.out 4
        have q_12 := q_11.trans (b.mono q_11.size)
        clear P_11 Pz_11 Pc0_11 Pc1_11 Pc2_11 Pc3_11 Q_11 Qz_11 Qc0_11 Qc1_11 Qc2_11 Qc3_11 Qc4_11 A_11 Az_11 Ac0_11 Ac1_11 Ac2_11 Ac3_11 T_11 Tz_11 Tc0_11 Tc1_11 Tc2_11 Tc3_11 Tc4_11 N_11 Nz_11 Nc0_11 Nc1_11 Nc2_11 Nc3_11 U_11 Uz_11 Uc0_11 Uc1_11 Uc2_11 Uc3_11 Uc4_11 q_11
        clear b
        generalize ((V11.alloc (.cells #[.int .i64 x.d, .int .i64 x.a, .int .i64 x.i, .int .i64 x.r, .int .i64 x.k] 43)).alloc (.cells #[.int .i64 z.d, .int .i64 z.a, .int .i64 z.i, .int .i64 z.l] 44)) = V12 at q_12 P_12 Pz_12 Pc0_12 Pc1_12 Pc2_12 Pc3_12 Q_12 Qz_12 Qc0_12 Qc1_12 Qc2_12 Qc3_12 Qc4_12 A_12 Az_12 Ac0_12 Ac1_12 Ac2_12 Ac3_12 T_12 Tz_12 Tc0_12 Tc1_12 Tc2_12 Tc3_12 Tc4_12 N_12 Nz_12 Nc0_12 Nc1_12 Nc2_12 Nc3_12 U_12 Uz_12 Uc0_12 Uc1_12 Uc2_12 Uc3_12 Uc4_12 ⊢
        refine (num_any _ _).mono ?_
        rintro e w' ⟨rfl, rfl⟩
        go_wp2
        go_ret
        exact ⟨rfl, q_12⟩
  case neg =>
    obtain ⟨E, hE⟩ : ∃ E, aE t f d o n p 1000 = E := ⟨_, rfl⟩
    have hE0 : E ≠ 0 := by
      rw [← hE]; unfold aE; split
      · split
        · exact absurd ⟨by assumption, by assumption⟩ hA
        · decide
      · decide
    have e1 : (E == 0) = false := by rw [beq_eq_false_iff_ne]; exact hE0
    have HE := Lib.hid hE
    have HN := Lib.hid hE0
    clear hE hE0 hA
    go_wp2_with fail
    refine (ack_l t f d o n p 1000 E 0 0 0 0 0 HE.out (zE_n HN.out) (zE_n HN.out) (zE_n HN.out) (zE_n HN.out) (zE_n HN.out) _).mono ?_
    rintro e V3 ⟨rfl, b⟩
    have P_3 := Lib.hid ((b.block _ Pz_2).trans P_2.out)
    have Pz_3 := Nat.lt_of_lt_of_le Pz_2 b.size
    have Pc0_3 := blk_cell P_3.out 0
    have Pc1_3 := blk_cell P_3.out 1
    have Pc2_3 := blk_cell P_3.out 2
    have Pc3_3 := blk_cell P_3.out 3
    have Q_3 := Lib.hid ((b.block _ Qz_2).trans Q_2.out)
    have Qz_3 := Nat.lt_of_lt_of_le Qz_2 b.size
    have Qc0_3 := blk_cell Q_3.out 0
    have Qc1_3 := blk_cell Q_3.out 1
    have Qc2_3 := blk_cell Q_3.out 2
    have Qc3_3 := blk_cell Q_3.out 3
    have Qc4_3 := blk_cell Q_3.out 4
    have q_3 := q_2.trans (b.mono q_2.size)
    clear P_2 Pz_2 Pc0_2 Pc1_2 Pc2_2 Pc3_2 Q_2 Qz_2 Qc0_2 Qc1_2 Qc2_2 Qc3_2 Qc4_2 q_2
    clear b
    go_wp2_with fail
    have b : Below V3.heap.size V3 (V3.alloc (.cells #[.int .i64 0, .int .i64 0, .int .i64 0, .int .i64 0] 24)) := ((Below.refl _ V3).alloc (Nat.le_refl _) (.cells #[.int .i64 0, .int .i64 0, .int .i64 0, .int .i64 0] 24))
    have nb0 := blk_new V3 (.cells #[.int .i64 0, .int .i64 0, .int .i64 0, .int .i64 0] 24)
    have nz0 : V3.heap.size < (V3.alloc (.cells #[.int .i64 0, .int .i64 0, .int .i64 0, .int .i64 0] 24)).heap.size := by simp only [World.size_alloc]; omega
    have P_4 := Lib.hid ((b.block _ Pz_3).trans P_3.out)
    have Pz_4 := Nat.lt_of_lt_of_le Pz_3 b.size
    have Pc0_4 := blk_cell P_4.out 0
    have Pc1_4 := blk_cell P_4.out 1
    have Pc2_4 := blk_cell P_4.out 2
    have Pc3_4 := blk_cell P_4.out 3
    have Q_4 := Lib.hid ((b.block _ Qz_3).trans Q_3.out)
    have Qz_4 := Nat.lt_of_lt_of_le Qz_3 b.size
    have Qc0_4 := blk_cell Q_4.out 0
    have Qc1_4 := blk_cell Q_4.out 1
    have Qc2_4 := blk_cell Q_4.out 2
    have Qc3_4 := blk_cell Q_4.out 3
    have Qc4_4 := blk_cell Q_4.out 4
    have q_4 := q_3.trans (b.mono q_3.size)
    clear P_3 Pz_3 Pc0_3 Pc1_3 Pc2_3 Pc3_3 Q_3 Qz_3 Qc0_3 Qc1_3 Qc2_3 Qc3_3 Qc4_3 q_3
    clear b
    have A_4 := Lib.hid nb0
    have Az_4 := nz0
    clear nb0 nz0
    have Ac0_4 := blk_cell A_4.out 0
    have Ac1_4 := blk_cell A_4.out 1
    have Ac2_4 := blk_cell A_4.out 2
    have Ac3_4 := blk_cell A_4.out 3
    generalize (V3.alloc (.cells #[.int .i64 0, .int .i64 0, .int .i64 0, .int .i64 0] 24)) = V4 at q_4 P_4 Pz_4 Pc0_4 Pc1_4 Pc2_4 Pc3_4 Q_4 Qz_4 Qc0_4 Qc1_4 Qc2_4 Qc3_4 Qc4_4 A_4 Az_4 Ac0_4 Ac1_4 Ac2_4 Ac3_4 ⊢
    refine (num_any _ _).mono ?_
    rintro e w' ⟨rfl, rfl⟩
    by_cases hS : s.may
    case neg =>
      go_wp2_with fail
      refine (send_s s.d s.a s.i s.r s.k v false _ hS).mono ?_
      rintro e V5 ⟨rfl, b⟩
      have P_5 := Lib.hid ((b.block _ Pz_4).trans P_4.out)
      have Pz_5 := Nat.lt_of_lt_of_le Pz_4 b.size
      have Pc0_5 := blk_cell P_5.out 0
      have Pc1_5 := blk_cell P_5.out 1
      have Pc2_5 := blk_cell P_5.out 2
      have Pc3_5 := blk_cell P_5.out 3
      have Q_5 := Lib.hid ((b.block _ Qz_4).trans Q_4.out)
      have Qz_5 := Nat.lt_of_lt_of_le Qz_4 b.size
      have Qc0_5 := blk_cell Q_5.out 0
      have Qc1_5 := blk_cell Q_5.out 1
      have Qc2_5 := blk_cell Q_5.out 2
      have Qc3_5 := blk_cell Q_5.out 3
      have Qc4_5 := blk_cell Q_5.out 4
      have A_5 := Lib.hid ((b.block _ Az_4).trans A_4.out)
      have Az_5 := Nat.lt_of_lt_of_le Az_4 b.size
      have Ac0_5 := blk_cell A_5.out 0
      have Ac1_5 := blk_cell A_5.out 1
      have Ac2_5 := blk_cell A_5.out 2
      have Ac3_5 := blk_cell A_5.out 3
      have q_5 := q_4.trans (b.mono q_4.size)
      clear P_4 Pz_4 Pc0_4 Pc1_4 Pc2_4 Pc3_4 Q_4 Qz_4 Qc0_4 Qc1_4 Qc2_4 Qc3_4 Qc4_4 A_4 Az_4 Ac0_4 Ac1_4 Ac2_4 Ac3_4 q_4
      clear b
      go_wp2_with fail
      have b : Below V5.heap.size V5 ((V5.alloc (.cells #[.int .i64 0, .int .i64 0, .int .i64 0, .int .i64 0, .int .i64 0] 43)).alloc (.cells #[.int .i64 0, .int .i64 0, .int .i64 0, .int .i64 0] 44)) := (((Below.refl _ V5).alloc (Nat.le_refl _) (.cells #[.int .i64 0, .int .i64 0, .int .i64 0, .int .i64 0, .int .i64 0] 43)).alloc (by simp only [World.size_alloc]; omega) (.cells #[.int .i64 0, .int .i64 0, .int .i64 0, .int .i64 0] 44))
      have nb0 := blk_new V5 (.cells #[.int .i64 0, .int .i64 0, .int .i64 0, .int .i64 0, .int .i64 0] 43)
      have nb0 := (Below.heap_alloc (V5.alloc (.cells #[.int .i64 0, .int .i64 0, .int .i64 0, .int .i64 0, .int .i64 0] 43)) (.cells #[.int .i64 0, .int .i64 0, .int .i64 0, .int .i64 0] 44) (V5.heap.size) (by simp only [World.size_alloc]; omega)).trans nb0
      have nz0 : V5.heap.size < ((V5.alloc (.cells #[.int .i64 0, .int .i64 0, .int .i64 0, .int .i64 0, .int .i64 0] 43)).alloc (.cells #[.int .i64 0, .int .i64 0, .int .i64 0, .int .i64 0] 44)).heap.size := by simp only [World.size_alloc]; omega
      have P_6 := Lib.hid ((b.block _ Pz_5).trans P_5.out)
      have Pz_6 := Nat.lt_of_lt_of_le Pz_5 b.size
      have Pc0_6 := blk_cell P_6.out 0
      have Pc1_6 := blk_cell P_6.out 1
      have Pc2_6 := blk_cell P_6.out 2
      have Pc3_6 := blk_cell P_6.out 3
      have Q_6 := Lib.hid ((b.block _ Qz_5).trans Q_5.out)
      have Qz_6 := Nat.lt_of_lt_of_le Qz_5 b.size
      have Qc0_6 := blk_cell Q_6.out 0
      have Qc1_6 := blk_cell Q_6.out 1
      have Qc2_6 := blk_cell Q_6.out 2
      have Qc3_6 := blk_cell Q_6.out 3
      have Qc4_6 := blk_cell Q_6.out 4
      have A_6 := Lib.hid ((b.block _ Az_5).trans A_5.out)
      have Az_6 := Nat.lt_of_lt_of_le Az_5 b.size
      have Ac0_6 := blk_cell A_6.out 0
      have Ac1_6 := blk_cell A_6.out 1
      have Ac2_6 := blk_cell A_6.out 2
      have Ac3_6 := blk_cell A_6.out 3
      have q_6 := q_5.trans (b.mono q_5.size)
      clear P_5 Pz_5 Pc0_5 Pc1_5 Pc2_5 Pc3_5 Q_5 Qz_5 Qc0_5 Qc1_5 Qc2_5 Qc3_5 Qc4_5 A_5 Az_5 Ac0_5 Ac1_5 Ac2_5 Ac3_5 q_5
      clear b
      have T_6 := Lib.hid nb0
      have Tz_6 := nz0
      clear nb0 nz0
      have Tc0_6 := blk_cell T_6.out 0
      have Tc1_6 := blk_cell T_6.out 1
      have Tc2_6 := blk_cell T_6.out 2
      have Tc3_6 := blk_cell T_6.out 3
      have Tc4_6 := blk_cell T_6.out 4
      generalize ((V5.alloc (.cells #[.int .i64 0, .int .i64 0, .int .i64 0, .int .i64 0, .int .i64 0] 43)).alloc (.cells #[.int .i64 0, .int .i64 0, .int .i64 0, .int .i64 0] 44)) = V6 at q_6 P_6 Pz_6 Pc0_6 Pc1_6 Pc2_6 Pc3_6 Q_6 Qz_6 Qc0_6 Qc1_6 Qc2_6 Qc3_6 Qc4_6 A_6 Az_6 Ac0_6 Ac1_6 Ac2_6 Ac3_6 T_6 Tz_6 Tc0_6 Tc1_6 Tc2_6 Tc3_6 Tc4_6 ⊢
      refine (num_any _ _).mono ?_
      rintro e w' ⟨rfl, rfl⟩
      go_wp2
      go_ret
      exact ⟨rfl, q_6⟩
    case pos =>
      by_cases hV : TV v
      case neg =>
        go_wp2_with fail
        refine (send_v s.d s.a s.i s.r s.k v false _ hS hV).mono ?_
        rintro e V5 ⟨rfl, b⟩
        have P_5 := Lib.hid ((b.block _ Pz_4).trans P_4.out)
        have Pz_5 := Nat.lt_of_lt_of_le Pz_4 b.size
        have Pc0_5 := blk_cell P_5.out 0
        have Pc1_5 := blk_cell P_5.out 1
        have Pc2_5 := blk_cell P_5.out 2
        have Pc3_5 := blk_cell P_5.out 3
        have Q_5 := Lib.hid ((b.block _ Qz_4).trans Q_4.out)
        have Qz_5 := Nat.lt_of_lt_of_le Qz_4 b.size
        have Qc0_5 := blk_cell Q_5.out 0
        have Qc1_5 := blk_cell Q_5.out 1
        have Qc2_5 := blk_cell Q_5.out 2
        have Qc3_5 := blk_cell Q_5.out 3
        have Qc4_5 := blk_cell Q_5.out 4
        have A_5 := Lib.hid ((b.block _ Az_4).trans A_4.out)
        have Az_5 := Nat.lt_of_lt_of_le Az_4 b.size
        have Ac0_5 := blk_cell A_5.out 0
        have Ac1_5 := blk_cell A_5.out 1
        have Ac2_5 := blk_cell A_5.out 2
        have Ac3_5 := blk_cell A_5.out 3
        have q_5 := q_4.trans (b.mono q_4.size)
        clear P_4 Pz_4 Pc0_4 Pc1_4 Pc2_4 Pc3_4 Q_4 Qz_4 Qc0_4 Qc1_4 Qc2_4 Qc3_4 Qc4_4 A_4 Az_4 Ac0_4 Ac1_4 Ac2_4 Ac3_4 q_4
        clear b
        go_wp2_with fail
        have b : Below V5.heap.size V5 ((V5.alloc (.cells #[.int .i64 0, .int .i64 0, .int .i64 0, .int .i64 0, .int .i64 0] 43)).alloc (.cells #[.int .i64 0, .int .i64 0, .int .i64 0, .int .i64 0] 44)) := (((Below.refl _ V5).alloc (Nat.le_refl _) (.cells #[.int .i64 0, .int .i64 0, .int .i64 0, .int .i64 0, .int .i64 0] 43)).alloc (by simp only [World.size_alloc]; omega) (.cells #[.int .i64 0, .int .i64 0, .int .i64 0, .int .i64 0] 44))
        have nb0 := blk_new V5 (.cells #[.int .i64 0, .int .i64 0, .int .i64 0, .int .i64 0, .int .i64 0] 43)
        have nb0 := (Below.heap_alloc (V5.alloc (.cells #[.int .i64 0, .int .i64 0, .int .i64 0, .int .i64 0, .int .i64 0] 43)) (.cells #[.int .i64 0, .int .i64 0, .int .i64 0, .int .i64 0] 44) (V5.heap.size) (by simp only [World.size_alloc]; omega)).trans nb0
        have nz0 : V5.heap.size < ((V5.alloc (.cells #[.int .i64 0, .int .i64 0, .int .i64 0, .int .i64 0, .int .i64 0] 43)).alloc (.cells #[.int .i64 0, .int .i64 0, .int .i64 0, .int .i64 0] 44)).heap.size := by simp only [World.size_alloc]; omega
        have P_6 := Lib.hid ((b.block _ Pz_5).trans P_5.out)
        have Pz_6 := Nat.lt_of_lt_of_le Pz_5 b.size
        have Pc0_6 := blk_cell P_6.out 0
        have Pc1_6 := blk_cell P_6.out 1
        have Pc2_6 := blk_cell P_6.out 2
        have Pc3_6 := blk_cell P_6.out 3
        have Q_6 := Lib.hid ((b.block _ Qz_5).trans Q_5.out)
        have Qz_6 := Nat.lt_of_lt_of_le Qz_5 b.size
        have Qc0_6 := blk_cell Q_6.out 0
        have Qc1_6 := blk_cell Q_6.out 1
        have Qc2_6 := blk_cell Q_6.out 2
        have Qc3_6 := blk_cell Q_6.out 3
        have Qc4_6 := blk_cell Q_6.out 4
        have A_6 := Lib.hid ((b.block _ Az_5).trans A_5.out)
        have Az_6 := Nat.lt_of_lt_of_le Az_5 b.size
        have Ac0_6 := blk_cell A_6.out 0
        have Ac1_6 := blk_cell A_6.out 1
        have Ac2_6 := blk_cell A_6.out 2
        have Ac3_6 := blk_cell A_6.out 3
        have q_6 := q_5.trans (b.mono q_5.size)
        clear P_5 Pz_5 Pc0_5 Pc1_5 Pc2_5 Pc3_5 Q_5 Qz_5 Qc0_5 Qc1_5 Qc2_5 Qc3_5 Qc4_5 A_5 Az_5 Ac0_5 Ac1_5 Ac2_5 Ac3_5 q_5
        clear b
        have T_6 := Lib.hid nb0
        have Tz_6 := nz0
        clear nb0 nz0
        have Tc0_6 := blk_cell T_6.out 0
        have Tc1_6 := blk_cell T_6.out 1
        have Tc2_6 := blk_cell T_6.out 2
        have Tc3_6 := blk_cell T_6.out 3
        have Tc4_6 := blk_cell T_6.out 4
        generalize ((V5.alloc (.cells #[.int .i64 0, .int .i64 0, .int .i64 0, .int .i64 0, .int .i64 0] 43)).alloc (.cells #[.int .i64 0, .int .i64 0, .int .i64 0, .int .i64 0] 44)) = V6 at q_6 P_6 Pz_6 Pc0_6 Pc1_6 Pc2_6 Pc3_6 Q_6 Qz_6 Qc0_6 Qc1_6 Qc2_6 Qc3_6 Qc4_6 A_6 Az_6 Ac0_6 Ac1_6 Ac2_6 Ac3_6 T_6 Tz_6 Tc0_6 Tc1_6 Tc2_6 Tc3_6 Tc4_6 ⊢
        refine (num_any _ _).mono ?_
        rintro e w' ⟨rfl, rfl⟩
        go_wp2
        go_ret
        exact ⟨rfl, q_6⟩
      case pos =>
        have HS := Lib.hid hS
        have HV := Lib.hid hV
        have hD : Dok ⟨s.d, s.a, s.i, v⟩ 1 v := ⟨⟨by decide, by decide⟩, hV, hS.1, hS.2.1, hS.2.2.1, hV⟩
        have HE : Hid (dvE s ⟨s.d, s.a, s.i, v⟩ 1 v = 0) := Lib.hid (by rw [dvE, if_pos hS, if_pos hD])
        obtain ⟨u, hu⟩ : ∃ u, dvR s ⟨s.d, s.a, s.i, v⟩ 1 v = u := ⟨_, rfl⟩
        have hm : Hid (u.may) := Lib.hid (by rw [← hu, dvR, if_pos hS, if_pos hD]; exact dl1_may hS hD)
        obtain ⟨K, hK⟩ : ∃ K, dvK s ⟨s.d, s.a, s.i, v⟩ 1 v = K := ⟨_, rfl⟩
        obtain ⟨B, hB⟩ : ∃ B, dvB s ⟨s.d, s.a, s.i, v⟩ 1 v = B := ⟨_, rfl⟩
        have HU := Lib.hid hu
        have HK := Lib.hid hK
        have HB := Lib.hid hB
        have HF : Hid (ndE u v = 0) := Lib.hid (by rw [ndE, if_pos hm.out, if_pos hV])
        obtain ⟨x, hx⟩ : ∃ x, ndR u v true = x := ⟨_, rfl⟩
        obtain ⟨z, hz⟩ : ∃ z, ndS u v true = z := ⟨_, rfl⟩
        have HX := Lib.hid hx
        have HZ := Lib.hid hz
        clear hu hK hB hx hz hD hS hV
        go_wp2_with fail
        refine (send_false s.d s.a s.i s.r s.k v _ HS.out HV.out).mono ?_
        rintro e V5 ⟨rfl, b⟩
        have P_5 := Lib.hid ((b.block _ Pz_4).trans P_4.out)
        have Pz_5 := Nat.lt_of_lt_of_le Pz_4 b.size
        have Pc0_5 := blk_cell P_5.out 0
        have Pc1_5 := blk_cell P_5.out 1
        have Pc2_5 := blk_cell P_5.out 2
        have Pc3_5 := blk_cell P_5.out 3
        have Q_5 := Lib.hid ((b.block _ Qz_4).trans Q_4.out)
        have Qz_5 := Nat.lt_of_lt_of_le Qz_4 b.size
        have Qc0_5 := blk_cell Q_5.out 0
        have Qc1_5 := blk_cell Q_5.out 1
        have Qc2_5 := blk_cell Q_5.out 2
        have Qc3_5 := blk_cell Q_5.out 3
        have Qc4_5 := blk_cell Q_5.out 4
        have A_5 := Lib.hid ((b.block _ Az_4).trans A_4.out)
        have Az_5 := Nat.lt_of_lt_of_le Az_4 b.size
        have Ac0_5 := blk_cell A_5.out 0
        have Ac1_5 := blk_cell A_5.out 1
        have Ac2_5 := blk_cell A_5.out 2
        have Ac3_5 := blk_cell A_5.out 3
        have q_5 := q_4.trans (b.mono q_4.size)
        clear P_4 Pz_4 Pc0_4 Pc1_4 Pc2_4 Pc3_4 Q_4 Qz_4 Qc0_4 Qc1_4 Qc2_4 Qc3_4 Qc4_4 A_4 Az_4 Ac0_4 Ac1_4 Ac2_4 Ac3_4 q_4
        clear b
        go_wp2_with fail
        have b : Below V5.heap.size V5 ((V5.alloc (.cells #[.int .i64 s.d, .int .i64 s.a, .int .i64 s.i, .int .i64 s.r, .int .i64 s.k] 43)).alloc (.cells #[.int .i64 s.d, .int .i64 s.a, .int .i64 s.i, .int .i64 v] 44)) := (((Below.refl _ V5).alloc (Nat.le_refl _) (.cells #[.int .i64 s.d, .int .i64 s.a, .int .i64 s.i, .int .i64 s.r, .int .i64 s.k] 43)).alloc (by simp only [World.size_alloc]; omega) (.cells #[.int .i64 s.d, .int .i64 s.a, .int .i64 s.i, .int .i64 v] 44))
        have nb0 := blk_new V5 (.cells #[.int .i64 s.d, .int .i64 s.a, .int .i64 s.i, .int .i64 s.r, .int .i64 s.k] 43)
        have nb0 := (Below.heap_alloc (V5.alloc (.cells #[.int .i64 s.d, .int .i64 s.a, .int .i64 s.i, .int .i64 s.r, .int .i64 s.k] 43)) (.cells #[.int .i64 s.d, .int .i64 s.a, .int .i64 s.i, .int .i64 v] 44) (V5.heap.size) (by simp only [World.size_alloc]; omega)).trans nb0
        have nz0 : V5.heap.size < ((V5.alloc (.cells #[.int .i64 s.d, .int .i64 s.a, .int .i64 s.i, .int .i64 s.r, .int .i64 s.k] 43)).alloc (.cells #[.int .i64 s.d, .int .i64 s.a, .int .i64 s.i, .int .i64 v] 44)).heap.size := by simp only [World.size_alloc]; omega
        have nb1 := blk_new (V5.alloc (.cells #[.int .i64 s.d, .int .i64 s.a, .int .i64 s.i, .int .i64 s.r, .int .i64 s.k] 43)) (.cells #[.int .i64 s.d, .int .i64 s.a, .int .i64 s.i, .int .i64 v] 44)
        simp only [World.size_alloc] at nb1
        have nz1 : V5.heap.size + 1 < ((V5.alloc (.cells #[.int .i64 s.d, .int .i64 s.a, .int .i64 s.i, .int .i64 s.r, .int .i64 s.k] 43)).alloc (.cells #[.int .i64 s.d, .int .i64 s.a, .int .i64 s.i, .int .i64 v] 44)).heap.size := by simp only [World.size_alloc]; omega
        have P_6 := Lib.hid ((b.block _ Pz_5).trans P_5.out)
        have Pz_6 := Nat.lt_of_lt_of_le Pz_5 b.size
        have Pc0_6 := blk_cell P_6.out 0
        have Pc1_6 := blk_cell P_6.out 1
        have Pc2_6 := blk_cell P_6.out 2
        have Pc3_6 := blk_cell P_6.out 3
        have Q_6 := Lib.hid ((b.block _ Qz_5).trans Q_5.out)
        have Qz_6 := Nat.lt_of_lt_of_le Qz_5 b.size
        have Qc0_6 := blk_cell Q_6.out 0
        have Qc1_6 := blk_cell Q_6.out 1
        have Qc2_6 := blk_cell Q_6.out 2
        have Qc3_6 := blk_cell Q_6.out 3
        have Qc4_6 := blk_cell Q_6.out 4
        have A_6 := Lib.hid ((b.block _ Az_5).trans A_5.out)
        have Az_6 := Nat.lt_of_lt_of_le Az_5 b.size
        have Ac0_6 := blk_cell A_6.out 0
        have Ac1_6 := blk_cell A_6.out 1
        have Ac2_6 := blk_cell A_6.out 2
        have Ac3_6 := blk_cell A_6.out 3
        have q_6 := q_5.trans (b.mono q_5.size)
        clear P_5 Pz_5 Pc0_5 Pc1_5 Pc2_5 Pc3_5 Q_5 Qz_5 Qc0_5 Qc1_5 Qc2_5 Qc3_5 Qc4_5 A_5 Az_5 Ac0_5 Ac1_5 Ac2_5 Ac3_5 q_5
        clear b
        have T_6 := Lib.hid nb0
        have Tz_6 := nz0
        clear nb0 nz0
        have Tc0_6 := blk_cell T_6.out 0
        have Tc1_6 := blk_cell T_6.out 1
        have Tc2_6 := blk_cell T_6.out 2
        have Tc3_6 := blk_cell T_6.out 3
        have Tc4_6 := blk_cell T_6.out 4
        have N_6 := Lib.hid nb1
        have Nz_6 := nz1
        clear nb1 nz1
        have Nc0_6 := blk_cell N_6.out 0
        have Nc1_6 := blk_cell N_6.out 1
        have Nc2_6 := blk_cell N_6.out 2
        have Nc3_6 := blk_cell N_6.out 3
        generalize ((V5.alloc (.cells #[.int .i64 s.d, .int .i64 s.a, .int .i64 s.i, .int .i64 s.r, .int .i64 s.k] 43)).alloc (.cells #[.int .i64 s.d, .int .i64 s.a, .int .i64 s.i, .int .i64 v] 44)) = V6 at q_6 P_6 Pz_6 Pc0_6 Pc1_6 Pc2_6 Pc3_6 Q_6 Qz_6 Qc0_6 Qc1_6 Qc2_6 Qc3_6 Qc4_6 A_6 Az_6 Ac0_6 Ac1_6 Ac2_6 Ac3_6 T_6 Tz_6 Tc0_6 Tc1_6 Tc2_6 Tc3_6 Tc4_6 N_6 Nz_6 Nc0_6 Nc1_6 Nc2_6 Nc3_6 ⊢
        refine (num_any _ _).mono ?_
        rintro e w' ⟨rfl, rfl⟩
        go_wp2_with fail
        refine (deliver_l s ⟨s.d, s.a, s.i, v⟩ 1 v u K B 0 HE.out HU.out HK.out HB.out _).mono ?_
        rintro e V7 ⟨rfl, b⟩
        have P_7 := Lib.hid ((b.block _ Pz_6).trans P_6.out)
        have Pz_7 := Nat.lt_of_lt_of_le Pz_6 b.size
        have Pc0_7 := blk_cell P_7.out 0
        have Pc1_7 := blk_cell P_7.out 1
        have Pc2_7 := blk_cell P_7.out 2
        have Pc3_7 := blk_cell P_7.out 3
        have Q_7 := Lib.hid ((b.block _ Qz_6).trans Q_6.out)
        have Qz_7 := Nat.lt_of_lt_of_le Qz_6 b.size
        have Qc0_7 := blk_cell Q_7.out 0
        have Qc1_7 := blk_cell Q_7.out 1
        have Qc2_7 := blk_cell Q_7.out 2
        have Qc3_7 := blk_cell Q_7.out 3
        have Qc4_7 := blk_cell Q_7.out 4
        have A_7 := Lib.hid ((b.block _ Az_6).trans A_6.out)
        have Az_7 := Nat.lt_of_lt_of_le Az_6 b.size
        have Ac0_7 := blk_cell A_7.out 0
        have Ac1_7 := blk_cell A_7.out 1
        have Ac2_7 := blk_cell A_7.out 2
        have Ac3_7 := blk_cell A_7.out 3
        have T_7 := Lib.hid ((b.block _ Tz_6).trans T_6.out)
        have Tz_7 := Nat.lt_of_lt_of_le Tz_6 b.size
        have Tc0_7 := blk_cell T_7.out 0
        have Tc1_7 := blk_cell T_7.out 1
        have Tc2_7 := blk_cell T_7.out 2
        have Tc3_7 := blk_cell T_7.out 3
        have Tc4_7 := blk_cell T_7.out 4
        have N_7 := Lib.hid ((b.block _ Nz_6).trans N_6.out)
        have Nz_7 := Nat.lt_of_lt_of_le Nz_6 b.size
        have Nc0_7 := blk_cell N_7.out 0
        have Nc1_7 := blk_cell N_7.out 1
        have Nc2_7 := blk_cell N_7.out 2
        have Nc3_7 := blk_cell N_7.out 3
        have q_7 := q_6.trans (b.mono q_6.size)
        clear P_6 Pz_6 Pc0_6 Pc1_6 Pc2_6 Pc3_6 Q_6 Qz_6 Qc0_6 Qc1_6 Qc2_6 Qc3_6 Qc4_6 A_6 Az_6 Ac0_6 Ac1_6 Ac2_6 Ac3_6 T_6 Tz_6 Tc0_6 Tc1_6 Tc2_6 Tc3_6 Tc4_6 N_6 Nz_6 Nc0_6 Nc1_6 Nc2_6 Nc3_6 q_6
        clear b
        go_wp2_with fail
        have b : Below V7.heap.size V7 (V7.alloc (.cells #[.int .i64 u.d, .int .i64 u.a, .int .i64 u.i, .int .i64 u.r, .int .i64 u.k] 43)) := ((Below.refl _ V7).alloc (Nat.le_refl _) (.cells #[.int .i64 u.d, .int .i64 u.a, .int .i64 u.i, .int .i64 u.r, .int .i64 u.k] 43))
        have nb0 := blk_new V7 (.cells #[.int .i64 u.d, .int .i64 u.a, .int .i64 u.i, .int .i64 u.r, .int .i64 u.k] 43)
        have nz0 : V7.heap.size < (V7.alloc (.cells #[.int .i64 u.d, .int .i64 u.a, .int .i64 u.i, .int .i64 u.r, .int .i64 u.k] 43)).heap.size := by simp only [World.size_alloc]; omega
        have P_8 := Lib.hid ((b.block _ Pz_7).trans P_7.out)
        have Pz_8 := Nat.lt_of_lt_of_le Pz_7 b.size
        have Pc0_8 := blk_cell P_8.out 0
        have Pc1_8 := blk_cell P_8.out 1
        have Pc2_8 := blk_cell P_8.out 2
        have Pc3_8 := blk_cell P_8.out 3
        have Q_8 := Lib.hid ((b.block _ Qz_7).trans Q_7.out)
        have Qz_8 := Nat.lt_of_lt_of_le Qz_7 b.size
        have Qc0_8 := blk_cell Q_8.out 0
        have Qc1_8 := blk_cell Q_8.out 1
        have Qc2_8 := blk_cell Q_8.out 2
        have Qc3_8 := blk_cell Q_8.out 3
        have Qc4_8 := blk_cell Q_8.out 4
        have A_8 := Lib.hid ((b.block _ Az_7).trans A_7.out)
        have Az_8 := Nat.lt_of_lt_of_le Az_7 b.size
        have Ac0_8 := blk_cell A_8.out 0
        have Ac1_8 := blk_cell A_8.out 1
        have Ac2_8 := blk_cell A_8.out 2
        have Ac3_8 := blk_cell A_8.out 3
        have T_8 := Lib.hid ((b.block _ Tz_7).trans T_7.out)
        have Tz_8 := Nat.lt_of_lt_of_le Tz_7 b.size
        have Tc0_8 := blk_cell T_8.out 0
        have Tc1_8 := blk_cell T_8.out 1
        have Tc2_8 := blk_cell T_8.out 2
        have Tc3_8 := blk_cell T_8.out 3
        have Tc4_8 := blk_cell T_8.out 4
        have N_8 := Lib.hid ((b.block _ Nz_7).trans N_7.out)
        have Nz_8 := Nat.lt_of_lt_of_le Nz_7 b.size
        have Nc0_8 := blk_cell N_8.out 0
        have Nc1_8 := blk_cell N_8.out 1
        have Nc2_8 := blk_cell N_8.out 2
        have Nc3_8 := blk_cell N_8.out 3
        have q_8 := q_7.trans (b.mono q_7.size)
        clear P_7 Pz_7 Pc0_7 Pc1_7 Pc2_7 Pc3_7 Q_7 Qz_7 Qc0_7 Qc1_7 Qc2_7 Qc3_7 Qc4_7 A_7 Az_7 Ac0_7 Ac1_7 Ac2_7 Ac3_7 T_7 Tz_7 Tc0_7 Tc1_7 Tc2_7 Tc3_7 Tc4_7 N_7 Nz_7 Nc0_7 Nc1_7 Nc2_7 Nc3_7 q_7
        clear b
        have U_8 := Lib.hid nb0
        have Uz_8 := nz0
        clear nb0 nz0
        have Uc0_8 := blk_cell U_8.out 0
        have Uc1_8 := blk_cell U_8.out 1
        have Uc2_8 := blk_cell U_8.out 2
        have Uc3_8 := blk_cell U_8.out 3
        have Uc4_8 := blk_cell U_8.out 4
        generalize (V7.alloc (.cells #[.int .i64 u.d, .int .i64 u.a, .int .i64 u.i, .int .i64 u.r, .int .i64 u.k] 43)) = V8 at q_8 P_8 Pz_8 Pc0_8 Pc1_8 Pc2_8 Pc3_8 Q_8 Qz_8 Qc0_8 Qc1_8 Qc2_8 Qc3_8 Qc4_8 A_8 Az_8 Ac0_8 Ac1_8 Ac2_8 Ac3_8 T_8 Tz_8 Tc0_8 Tc1_8 Tc2_8 Tc3_8 Tc4_8 N_8 Nz_8 Nc0_8 Nc1_8 Nc2_8 Nc3_8 U_8 Uz_8 Uc0_8 Uc1_8 Uc2_8 Uc3_8 Uc4_8 ⊢
        refine (num_any _ _).mono ?_
        rintro e w' ⟨rfl, rfl⟩
        go_wp2_with fail
        refine (send_l u v true x z 0 HF.out HX.out HZ.out _).mono ?_
        rintro e V9 ⟨rfl, b⟩
        have P_9 := Lib.hid ((b.block _ Pz_8).trans P_8.out)
        have Pz_9 := Nat.lt_of_lt_of_le Pz_8 b.size
        have Pc0_9 := blk_cell P_9.out 0
        have Pc1_9 := blk_cell P_9.out 1
        have Pc2_9 := blk_cell P_9.out 2
        have Pc3_9 := blk_cell P_9.out 3
        have Q_9 := Lib.hid ((b.block _ Qz_8).trans Q_8.out)
        have Qz_9 := Nat.lt_of_lt_of_le Qz_8 b.size
        have Qc0_9 := blk_cell Q_9.out 0
        have Qc1_9 := blk_cell Q_9.out 1
        have Qc2_9 := blk_cell Q_9.out 2
        have Qc3_9 := blk_cell Q_9.out 3
        have Qc4_9 := blk_cell Q_9.out 4
        have A_9 := Lib.hid ((b.block _ Az_8).trans A_8.out)
        have Az_9 := Nat.lt_of_lt_of_le Az_8 b.size
        have Ac0_9 := blk_cell A_9.out 0
        have Ac1_9 := blk_cell A_9.out 1
        have Ac2_9 := blk_cell A_9.out 2
        have Ac3_9 := blk_cell A_9.out 3
        have T_9 := Lib.hid ((b.block _ Tz_8).trans T_8.out)
        have Tz_9 := Nat.lt_of_lt_of_le Tz_8 b.size
        have Tc0_9 := blk_cell T_9.out 0
        have Tc1_9 := blk_cell T_9.out 1
        have Tc2_9 := blk_cell T_9.out 2
        have Tc3_9 := blk_cell T_9.out 3
        have Tc4_9 := blk_cell T_9.out 4
        have N_9 := Lib.hid ((b.block _ Nz_8).trans N_8.out)
        have Nz_9 := Nat.lt_of_lt_of_le Nz_8 b.size
        have Nc0_9 := blk_cell N_9.out 0
        have Nc1_9 := blk_cell N_9.out 1
        have Nc2_9 := blk_cell N_9.out 2
        have Nc3_9 := blk_cell N_9.out 3
        have U_9 := Lib.hid ((b.block _ Uz_8).trans U_8.out)
        have Uz_9 := Nat.lt_of_lt_of_le Uz_8 b.size
        have Uc0_9 := blk_cell U_9.out 0
        have Uc1_9 := blk_cell U_9.out 1
        have Uc2_9 := blk_cell U_9.out 2
        have Uc3_9 := blk_cell U_9.out 3
        have Uc4_9 := blk_cell U_9.out 4
        have q_9 := q_8.trans (b.mono q_8.size)
        clear P_8 Pz_8 Pc0_8 Pc1_8 Pc2_8 Pc3_8 Q_8 Qz_8 Qc0_8 Qc1_8 Qc2_8 Qc3_8 Qc4_8 A_8 Az_8 Ac0_8 Ac1_8 Ac2_8 Ac3_8 T_8 Tz_8 Tc0_8 Tc1_8 Tc2_8 Tc3_8 Tc4_8 N_8 Nz_8 Nc0_8 Nc1_8 Nc2_8 Nc3_8 U_8 Uz_8 Uc0_8 Uc1_8 Uc2_8 Uc3_8 Uc4_8 q_8
        clear b
        go_wp2_with fail
        have b : Below V9.heap.size V9 ((V9.alloc (.cells #[.int .i64 x.d, .int .i64 x.a, .int .i64 x.i, .int .i64 x.r, .int .i64 x.k] 43)).alloc (.cells #[.int .i64 z.d, .int .i64 z.a, .int .i64 z.i, .int .i64 z.l] 44)) := (((Below.refl _ V9).alloc (Nat.le_refl _) (.cells #[.int .i64 x.d, .int .i64 x.a, .int .i64 x.i, .int .i64 x.r, .int .i64 x.k] 43)).alloc (by simp only [World.size_alloc]; omega) (.cells #[.int .i64 z.d, .int .i64 z.a, .int .i64 z.i, .int .i64 z.l] 44))
        have P_10 := Lib.hid ((b.block _ Pz_9).trans P_9.out)
        have Pz_10 := Nat.lt_of_lt_of_le Pz_9 b.size
        have Pc0_10 := blk_cell P_10.out 0
        have Pc1_10 := blk_cell P_10.out 1
        have Pc2_10 := blk_cell P_10.out 2
        have Pc3_10 := blk_cell P_10.out 3
        have Q_10 := Lib.hid ((b.block _ Qz_9).trans Q_9.out)
        have Qz_10 := Nat.lt_of_lt_of_le Qz_9 b.size
        have Qc0_10 := blk_cell Q_10.out 0
        have Qc1_10 := blk_cell Q_10.out 1
        have Qc2_10 := blk_cell Q_10.out 2
        have Qc3_10 := blk_cell Q_10.out 3
        have Qc4_10 := blk_cell Q_10.out 4
        have A_10 := Lib.hid ((b.block _ Az_9).trans A_9.out)
        have Az_10 := Nat.lt_of_lt_of_le Az_9 b.size
        have Ac0_10 := blk_cell A_10.out 0
        have Ac1_10 := blk_cell A_10.out 1
        have Ac2_10 := blk_cell A_10.out 2
        have Ac3_10 := blk_cell A_10.out 3
        have T_10 := Lib.hid ((b.block _ Tz_9).trans T_9.out)
        have Tz_10 := Nat.lt_of_lt_of_le Tz_9 b.size
        have Tc0_10 := blk_cell T_10.out 0
        have Tc1_10 := blk_cell T_10.out 1
        have Tc2_10 := blk_cell T_10.out 2
        have Tc3_10 := blk_cell T_10.out 3
        have Tc4_10 := blk_cell T_10.out 4
        have N_10 := Lib.hid ((b.block _ Nz_9).trans N_9.out)
        have Nz_10 := Nat.lt_of_lt_of_le Nz_9 b.size
        have Nc0_10 := blk_cell N_10.out 0
        have Nc1_10 := blk_cell N_10.out 1
        have Nc2_10 := blk_cell N_10.out 2
        have Nc3_10 := blk_cell N_10.out 3
        have U_10 := Lib.hid ((b.block _ Uz_9).trans U_9.out)
        have Uz_10 := Nat.lt_of_lt_of_le Uz_9 b.size
        have Uc0_10 := blk_cell U_10.out 0
        have Uc1_10 := blk_cell U_10.out 1
        have Uc2_10 := blk_cell U_10.out 2
        have Uc3_10 := blk_cell U_10.out 3
        have Uc4_10 := blk_cell U_10.out 4
        have q_10 := q_9.trans (b.mono q_9.size)
        clear P_9 Pz_9 Pc0_9 Pc1_9 Pc2_9 Pc3_9 Q_9 Qz_9 Qc0_9 Qc1_9 Qc2_9 Qc3_9 Qc4_9 A_9 Az_9 Ac0_9 Ac1_9 Ac2_9 Ac3_9 T_9 Tz_9 Tc0_9 Tc1_9 Tc2_9 Tc3_9 Tc4_9 N_9 Nz_9 Nc0_9 Nc1_9 Nc2_9 Nc3_9 U_9 Uz_9 Uc0_9 Uc1_9 Uc2_9 Uc3_9 Uc4_9 q_9
        clear b
        generalize ((V9.alloc (.cells #[.int .i64 x.d, .int .i64 x.a, .int .i64 x.i, .int .i64 x.r, .int .i64 x.k] 43)).alloc (.cells #[.int .i64 z.d, .int .i64 z.a, .int .i64 z.i, .int .i64 z.l] 44)) = V10 at q_10 P_10 Pz_10 Pc0_10 Pc1_10 Pc2_10 Pc3_10 Q_10 Qz_10 Qc0_10 Qc1_10 Qc2_10 Qc3_10 Qc4_10 A_10 Az_10 Ac0_10 Ac1_10 Ac2_10 Ac3_10 T_10 Tz_10 Tc0_10 Tc1_10 Tc2_10 Tc3_10 Tc4_10 N_10 Nz_10 Nc0_10 Nc1_10 Nc2_10 Nc3_10 U_10 Uz_10 Uc0_10 Uc1_10 Uc2_10 Uc3_10 Uc4_10 ⊢
        refine (num_any _ _).mono ?_
        rintro e w' ⟨rfl, rfl⟩
        go_wp2
        go_ret
        exact ⟨rfl, q_10⟩

theorem walk (t f d o d' a i r k n p v : Int) (w : World) (_t_l : -9223372036854775808 ≤ t) (_t_h : t ≤ 9223372036854775807) (_f_l : -9223372036854775808 ≤ f) (_f_h : f ≤ 9223372036854775807) (_d_l : -9223372036854775808 ≤ d) (_d_h : d ≤ 9223372036854775807) (_o_l : -9223372036854775808 ≤ o) (_o_h : o ≤ 9223372036854775807) (_d'_l : -9223372036854775808 ≤ d') (_d'_h : d' ≤ 9223372036854775807) (_a_l : -9223372036854775808 ≤ a) (_a_h : a ≤ 9223372036854775807) (_i_l : -9223372036854775808 ≤ i) (_i_h : i ≤ 9223372036854775807) (_r_l : -9223372036854775808 ≤ r) (_r_h : r ≤ 9223372036854775807) (_k_l : -9223372036854775808 ≤ k) (_k_h : k ≤ 9223372036854775807) (_n_l : -9223372036854775808 ≤ n) (_n_h : n ≤ 9223372036854775807) (_p_l : -9223372036854775808 ≤ p) (_p_h : p ≤ 9223372036854775807) (_v_l : -9223372036854775808 ≤ v) (_v_h : v ≤ 9223372036854775807) :
    Calls Try.prog 6 #[.agg #[.int .i64 t, .int .i64 f, .int .i64 d, .int .i64 o], .agg #[.int .i64 d', .int .i64 a, .int .i64 i, .int .i64 r, .int .i64 k], .int .i64 n, .int .i64 p, .int .i64 v] w fun e w' => e = .returned (.bool true) ∧ Below w.heap.size w w' :=
  walk0 t f d o ⟨d', a, i, r, k⟩ n p v w _n_l _n_h _p_l _p_h _v_l _v_h

theorem of_len4 {α : Type} (l : List α) (h : l.length = 4) : ∃ x0 x1 x2 x3, l = [x0, x1, x2, x3] := by
  match l, h with
  | [x0, x1, x2, x3], _ => exact ⟨x0, x1, x2, x3, rfl⟩
theorem of_len5 {α : Type} (l : List α) (h : l.length = 5) : ∃ x0 x1 x2 x3 x4, l = [x0, x1, x2, x3, x4] := by
  match l, h with
  | [x0, x1, x2, x3, x4], _ => exact ⟨x0, x1, x2, x3, x4, rfl⟩
theorem own : ownKnob Try.prog.godebug = none := by kernel_rfl
theorem laidOut : laidOutB Try.prog = true := by kernel_rfl

set_option maxRecDepth 100000 in
set_option maxHeartbeats 2000000 in
theorem lifted (os : Os) (started : os.Started) (H : Type) (enc : TypeId × Value → H) :
    ReturnsInHanded {} Try.checked os 6 .any (Rows.prrKeepsSpec.pre6 enc Try.prog Try.f6 Rows.prrKeepsRow.domain false) (Rows.prrKeepsSpec.post enc Try.prog Try.f6 false true false false) := by
  refine returnsInHanded_of_change_sized (C := Try.checked) own started (by kernel_rfl) Try.func6
    (ChangeSpec.witness6 (enc := enc) (C := Try.checked) false ⟨#[], #[.agg #[.int .i64 0, .int .i64 0, .int .i64 0, .int .i64 0], .agg #[.int .i64 0, .int .i64 0, .int .i64 0, .int .i64 0, .int .i64 0], .int .i64 0, .int .i64 0, .int .i64 0], []⟩ 8 (by kernel_rfl) (by kernel_rfl) (by kernel_rfl) (by kernel_rfl)) ?_
  intro W base args ds gs before hval0 hW hcnd hsz0 _
  have hval : ∀ (j : Nat) t v, Try.f6.params[j]? = some t → args[j]? = some v → Value.okWide Try.prog W .any base t v := hval0
  have hW' := hW
  obtain ⟨p, q, hA0, hV, rfl, hfz, hnd⟩ := hW
  have hA : DataW.TrodAll enc Try.prog W 0 (fun _ => true) true Try.f6.params.toList args.toList ds p := hA0
  rw [Try.params6] at hA hval
  obtain ⟨v0, vs0, d0, ds0, p0, q0, hargs, rfl, rfl, h0, r0⟩ := trodAll_cons hA
  obtain ⟨v1, vs1, d1, ds1, p1, q1, rfl, rfl, rfl, h1, r1⟩ := trodAll_cons r0
  obtain ⟨v2, vs2, d2, ds2, p2, q2, rfl, rfl, rfl, h2, r2⟩ := trodAll_cons r1
  obtain ⟨v3, vs3, d3, ds3, p3, q3, rfl, rfl, rfl, h3, r3⟩ := trodAll_cons r2
  obtain ⟨v4, vs4, d4, ds4, p4, q4, rfl, rfl, rfl, h4, r4⟩ := trodAll_cons r3
  obtain ⟨rfl, rfl, rfl⟩ := trodAll_nil r4
  obtain rfl : args = #[v0, v1, v2, v3, v4] := by cases args; simp_all
  obtain ⟨rfl, rfl⟩ := trodVars_none hV
  have k0 := h0
  have lt0 : ∀ x ∈ p0, x.block < W.heap.size := by obtain ⟨m, hm⟩ := k0; exact DataW.trod_lt m _ _ _ hm
  obtain ⟨vs0', ys0', m0, rfl, lv0, ly0, hd0, F0⟩ := open_agg Try.underlying23 (by kernel_rfl) (by kernel_rfl) (hval 0 23 v0 rfl rfl) h0
  obtain ⟨c0_0, c0_1, c0_2, c0_3, rfl⟩ := of_len4 _ lv0
  obtain ⟨y0_0, y0_1, y0_2, y0_3, rfl⟩ := of_len4 _ ly0
  simp only [List.map_cons, List.map_nil] at hd0
  obtain ⟨_, _, e, g, t0_0⟩ := F0 0 _ rfl
  obtain rfl := Option.some.inj e; obtain rfl := Option.some.inj g; clear e g
  obtain ⟨z0_0, e, _, w0_0⟩ := DataW.trod_int Try.underlying3 t0_0
  obtain rfl := (List.cons.inj e).1; clear e
  obtain ⟨lo0_0, hi0_0⟩ := bounds_i64 w0_0
  obtain ⟨_, _, e, g, t0_1⟩ := F0 1 _ rfl
  obtain rfl := Option.some.inj e; obtain rfl := Option.some.inj g; clear e g
  obtain ⟨z0_1, e, _, w0_1⟩ := DataW.trod_int Try.underlying3 t0_1
  obtain rfl := (List.cons.inj e).1; clear e
  obtain ⟨lo0_1, hi0_1⟩ := bounds_i64 w0_1
  obtain ⟨_, _, e, g, t0_2⟩ := F0 2 _ rfl
  obtain rfl := Option.some.inj e; obtain rfl := Option.some.inj g; clear e g
  obtain ⟨z0_2, e, _, w0_2⟩ := DataW.trod_int Try.underlying3 t0_2
  obtain rfl := (List.cons.inj e).1; clear e
  obtain ⟨lo0_2, hi0_2⟩ := bounds_i64 w0_2
  obtain ⟨_, _, e, g, t0_3⟩ := F0 3 _ rfl
  obtain rfl := Option.some.inj e; obtain rfl := Option.some.inj g; clear e g
  obtain ⟨z0_3, e, _, w0_3⟩ := DataW.trod_int Try.underlying3 t0_3
  obtain rfl := (List.cons.inj e).1; clear e
  obtain ⟨lo0_3, hi0_3⟩ := bounds_i64 w0_3
  have k1 := h1
  have lt1 : ∀ x ∈ p1, x.block < W.heap.size := by obtain ⟨m, hm⟩ := k1; exact DataW.trod_lt m _ _ _ hm
  obtain ⟨vs1', ys1', m1, rfl, lv1, ly1, hd1, F1⟩ := open_agg Try.underlying40 (by kernel_rfl) (by kernel_rfl) (hval 1 40 v1 rfl rfl) h1
  obtain ⟨c1_0, c1_1, c1_2, c1_3, c1_4, rfl⟩ := of_len5 _ lv1
  obtain ⟨y1_0, y1_1, y1_2, y1_3, y1_4, rfl⟩ := of_len5 _ ly1
  simp only [List.map_cons, List.map_nil] at hd1
  obtain ⟨_, _, e, g, t1_0⟩ := F1 0 _ rfl
  obtain rfl := Option.some.inj e; obtain rfl := Option.some.inj g; clear e g
  obtain ⟨z1_0, e, _, w1_0⟩ := DataW.trod_int Try.underlying3 t1_0
  obtain rfl := (List.cons.inj e).1; clear e
  obtain ⟨lo1_0, hi1_0⟩ := bounds_i64 w1_0
  obtain ⟨_, _, e, g, t1_1⟩ := F1 1 _ rfl
  obtain rfl := Option.some.inj e; obtain rfl := Option.some.inj g; clear e g
  obtain ⟨z1_1, e, _, w1_1⟩ := DataW.trod_int Try.underlying3 t1_1
  obtain rfl := (List.cons.inj e).1; clear e
  obtain ⟨lo1_1, hi1_1⟩ := bounds_i64 w1_1
  obtain ⟨_, _, e, g, t1_2⟩ := F1 2 _ rfl
  obtain rfl := Option.some.inj e; obtain rfl := Option.some.inj g; clear e g
  obtain ⟨z1_2, e, _, w1_2⟩ := DataW.trod_int Try.underlying3 t1_2
  obtain rfl := (List.cons.inj e).1; clear e
  obtain ⟨lo1_2, hi1_2⟩ := bounds_i64 w1_2
  obtain ⟨_, _, e, g, t1_3⟩ := F1 3 _ rfl
  obtain rfl := Option.some.inj e; obtain rfl := Option.some.inj g; clear e g
  obtain ⟨z1_3, e, _, w1_3⟩ := DataW.trod_int Try.underlying3 t1_3
  obtain rfl := (List.cons.inj e).1; clear e
  obtain ⟨lo1_3, hi1_3⟩ := bounds_i64 w1_3
  obtain ⟨_, _, e, g, t1_4⟩ := F1 4 _ rfl
  obtain rfl := Option.some.inj e; obtain rfl := Option.some.inj g; clear e g
  obtain ⟨z1_4, e, _, w1_4⟩ := DataW.trod_int Try.underlying3 t1_4
  obtain rfl := (List.cons.inj e).1; clear e
  obtain ⟨lo1_4, hi1_4⟩ := bounds_i64 w1_4
  obtain ⟨a2, rfl, rfl, rfl, w2⟩ := open_int Try.underlying3 (hval 2 3 v2 rfl rfl) h2
  obtain ⟨a3, rfl, rfl, rfl, w3⟩ := open_int Try.underlying3 (hval 3 3 v3 rfl rfl) h3
  obtain ⟨a4, rfl, rfl, rfl, w4⟩ := open_int Try.underlying3 (hval 4 3 v4 rfl rfl) h4
  clear hA0
  obtain ⟨lo2, hi2⟩ := bounds_i64 w2
  obtain ⟨lo3, hi3⟩ := bounds_i64 w3
  obtain ⟨lo4, hi4⟩ := bounds_i64 w4
  refine (walk z0_0 z0_1 z0_2 z0_3 z1_0 z1_1 z1_2 z1_3 z1_4 a2 a3 a4 W lo0_0 hi0_0 lo0_1 hi0_1 lo0_2 hi0_2 lo0_3 hi0_3 lo1_0 hi1_0 lo1_1 hi1_1 lo1_2 hi1_2 lo1_3 hi1_3 lo1_4 hi1_4 lo2 hi2 lo3 hi3 lo4 hi4).mono fun e W' ⟨he, bel⟩ => ?_
  subst he
  exact ⟨_, rfl, _, _, _, [], _, [], hW', trodAll_mk1 (shut_bool Try.underlying4 _), (trodAll_cons_mk (Below.trod laidOut (by kernel_rfl) (of_decide_eq_true (by kernel_rfl)) k0 bel lt0) (trodAll_cons_mk (Below.trod laidOut (by kernel_rfl) (of_decide_eq_true (by kernel_rfl)) k1 bel lt1) (trodAll_cons_mk (shut_int Try.underlying3 w2) (trodAll_cons_mk (shut_int Try.underlying3 w3) (trodAll_cons_mk (shut_int Try.underlying3 w4) trodAll_mk0))))), rfl, bel.frame _, fun h => by cases h⟩

theorem over : Rows.prrKeepsRow.holds Try.pinned (OpenSpec.ofChange Rows.prrKeepsSpec) :=
  OpenClaim.holds_of_wide 6 Try.f6 rfl rfl rfl rfl rfl rfl rfl ⟨rfl, rfl, rfl, rfl, rfl⟩ rfl rfl rfl rfl rfl (by kernel_rfl) Try.func6 (by kernel_rfl)
    (of_decide_eq_true (by kernel_rfl)) (by unfold Func.isWrapper; first | (rw [if_pos (by decide +kernel)]; kernel_rfl) | (rw [if_neg (by decide +kernel)]; exact ⟨rfl, rfl⟩))
    (fun os started H enc _ => lifted os started H enc)

end Go.Proofs.Ytlkpcojhpndieaa.prrKeeps
namespace Go.Proofs.Ytlkpcojhpndieaa
/-- The statement. -/
theorem prrKeeps_holds : Rows.PrrKeepsSaid := prrKeeps.over
#print axioms prrKeeps_holds
end Go.Proofs.Ytlkpcojhpndieaa
