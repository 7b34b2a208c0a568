/- For every state, segment and numbers: what follows of an acknowledgement, a loss, a time that ran out, is the page's. No condition. -/
import Derived.Test.YthkmphngfndebaaRows
import Derived.Test.YthkmphngfndebaaCuZ
import Derived.Test.YthkmphngfndebaaGAgg
import Derived.Deep.DeepCutAuto
import Derived.RegionTactic
import Derived.Deep.RegionHeld3
import Derived.ProofKit
import Derived.OpenShut
import Derived.ChangeOld
import Derived.SizedLaws
namespace Go.Proofs.Ythkmphngfndebaa.cubicTells
open Go.ChangeShapes Go.WideShapes Go.ChangeAt Go.RowKit Go.Deep Go.Proofs.Ythkmphngfndebaa.Cu

set_option maxRecDepth 100000 in
set_option maxHeartbeats 8000000 in
theorem walk0 (x : CS) (m n v r : Int) (w : World) (_m_l : -9223372036854775808 ≤ m) (_m_h : m ≤ 9223372036854775807) (_n_l : -9223372036854775808 ≤ n) (_n_h : n ≤ 9223372036854775807) (_v_l : -9223372036854775808 ≤ v) (_v_h : v ≤ 9223372036854775807) (_r_l : -9223372036854775808 ≤ r) (_r_h : r ≤ 9223372036854775807) :
    Calls Try.prog 4 #[.agg #[.int .i64 x.c, .int .i64 x.t, .int .i64 x.m, .int .i64 x.u, .int .i64 x.e, .int .i64 x.s, .bool x.h], .int .i64 m, .int .i64 n, .int .i64 v, .int .i64 r] w fun e w' => e = .returned (.bool true) ∧ Below w.heap.size w w' := by
  have q_0 := Below.refl w.heap.size w
  obtain ⟨E, hE⟩ : ∃ z, akE x m n v r = z := ⟨_, rfl⟩
  have HE : Hid (Sm (akE x m n v r) E) := Lib.hid ⟨hE⟩
  clear hE
  obtain ⟨G, hG⟩ : ∃ z, cE x m = z := ⟨_, rfl⟩
  have HG : Hid (Sm (cE x m) G) := Lib.hid ⟨hG⟩
  clear hG
  obtain ⟨J, hJ⟩ : ∃ z, nwE m = z := ⟨_, rfl⟩
  have HJ : Hid (Sm (nwE m) J) := Lib.hid ⟨hJ⟩
  clear hJ
  obtain ⟨ya, hya⟩ : ∃ z, akO x m n v r = z := ⟨_, rfl⟩
  have Hya : Hid (Sm (akO x m n v r) ya) := Lib.hid ⟨hya⟩
  clear hya
  obtain ⟨yl, hyl⟩ : ∃ z, lsO x m = z := ⟨_, rfl⟩
  have Hyl : Hid (Sm (lsO x m) yl) := Lib.hid ⟨hyl⟩
  clear hyl
  obtain ⟨yt, hyt⟩ : ∃ z, tmO x m = z := ⟨_, rfl⟩
  have Hyt : Hid (Sm (tmO x m) yt) := Lib.hid ⟨hyt⟩
  clear hyt
  obtain ⟨yn, hyn⟩ : ∃ z, nwO m = z := ⟨_, rfl⟩
  have Hyn : Hid (Sm (nwO m) yn) := Lib.hid ⟨hyn⟩
  clear hyn
  go_enter Try.func4, Try.ntmps4
  go_wp2_with fail
  have b : Below w.heap.size w ((w.alloc (.cells #[.int .i64 x.c, .int .i64 x.t, .int .i64 x.m, .int .i64 x.u, .int .i64 x.e, .int .i64 x.s, .bool x.h] 33)).alloc (.cells #[.int .i64 x.c, .int .i64 x.t, .int .i64 x.m, .int .i64 x.u, .int .i64 x.e, .int .i64 x.s, .bool x.h] 34)) := (((Below.refl _ w).alloc (Nat.le_refl _) (.cells #[.int .i64 x.c, .int .i64 x.t, .int .i64 x.m, .int .i64 x.u, .int .i64 x.e, .int .i64 x.s, .bool x.h] 33)).alloc (by simp only [World.size_alloc]; omega) (.cells #[.int .i64 x.c, .int .i64 x.t, .int .i64 x.m, .int .i64 x.u, .int .i64 x.e, .int .i64 x.s, .bool x.h] 34))
  have nb0 := blk_new w (.cells #[.int .i64 x.c, .int .i64 x.t, .int .i64 x.m, .int .i64 x.u, .int .i64 x.e, .int .i64 x.s, .bool x.h] 33)
  have nb0 := (Below.heap_alloc (w.alloc (.cells #[.int .i64 x.c, .int .i64 x.t, .int .i64 x.m, .int .i64 x.u, .int .i64 x.e, .int .i64 x.s, .bool x.h] 33)) (.cells #[.int .i64 x.c, .int .i64 x.t, .int .i64 x.m, .int .i64 x.u, .int .i64 x.e, .int .i64 x.s, .bool x.h] 34) (w.heap.size) (by simp only [World.size_alloc]; omega)).trans nb0
  have nz0 : w.heap.size < ((w.alloc (.cells #[.int .i64 x.c, .int .i64 x.t, .int .i64 x.m, .int .i64 x.u, .int .i64 x.e, .int .i64 x.s, .bool x.h] 33)).alloc (.cells #[.int .i64 x.c, .int .i64 x.t, .int .i64 x.m, .int .i64 x.u, .int .i64 x.e, .int .i64 x.s, .bool x.h] 34)).heap.size := by simp only [World.size_alloc]; omega
  have nb1 := blk_new (w.alloc (.cells #[.int .i64 x.c, .int .i64 x.t, .int .i64 x.m, .int .i64 x.u, .int .i64 x.e, .int .i64 x.s, .bool x.h] 33)) (.cells #[.int .i64 x.c, .int .i64 x.t, .int .i64 x.m, .int .i64 x.u, .int .i64 x.e, .int .i64 x.s, .bool x.h] 34)
  simp only [World.size_alloc] at nb1
  have nz1 : w.heap.size + 1 < ((w.alloc (.cells #[.int .i64 x.c, .int .i64 x.t, .int .i64 x.m, .int .i64 x.u, .int .i64 x.e, .int .i64 x.s, .bool x.h] 33)).alloc (.cells #[.int .i64 x.c, .int .i64 x.t, .int .i64 x.m, .int .i64 x.u, .int .i64 x.e, .int .i64 x.s, .bool x.h] 34)).heap.size := by simp only [World.size_alloc]; omega
  have q_1 := q_0.trans (b.mono q_0.size)
  clear q_0
  clear b
  have P_1 := Lib.hid nb0
  have Pz_1 := nz0
  clear nb0 nz0
  have Pc0_1 := blk_cell P_1.out 0
  have Pc1_1 := blk_cell P_1.out 1
  have Pc2_1 := blk_cell P_1.out 2
  have Pc3_1 := blk_cell P_1.out 3
  have Pc4_1 := blk_cell P_1.out 4
  have Pc5_1 := blk_cell P_1.out 5
  have Pc6_1 := blk_cell P_1.out 6
  have A_1 := Lib.hid nb1
  have Az_1 := nz1
  clear nb1 nz1
  have Ac0_1 := blk_cell A_1.out 0
  have Ac1_1 := blk_cell A_1.out 1
  have Ac2_1 := blk_cell A_1.out 2
  have Ac3_1 := blk_cell A_1.out 3
  have Ac4_1 := blk_cell A_1.out 4
  have Ac5_1 := blk_cell A_1.out 5
  have Ac6_1 := blk_cell A_1.out 6
  generalize ((w.alloc (.cells #[.int .i64 x.c, .int .i64 x.t, .int .i64 x.m, .int .i64 x.u, .int .i64 x.e, .int .i64 x.s, .bool x.h] 33)).alloc (.cells #[.int .i64 x.c, .int .i64 x.t, .int .i64 x.m, .int .i64 x.u, .int .i64 x.e, .int .i64 x.s, .bool x.h] 34)) = V1 at q_1 P_1 Pz_1 Pc0_1 Pc1_1 Pc2_1 Pc3_1 Pc4_1 Pc5_1 Pc6_1 A_1 Az_1 Ac0_1 Ac1_1 Ac2_1 Ac3_1 Ac4_1 Ac5_1 Ac6_1 ⊢
  refine (pack x ya m n v r E HE.out.eq Hya.out.eq _).mono ?_
  rintro e V2 ⟨rfl, b⟩
  have P_2 := Lib.hid ((b.block _ Pz_1).trans P_1.out)
  have Pz_2 := Nat.lt_of_lt_of_le Pz_1 b.size
  have Pc0_2 := blk_cell P_2.out 0
  have Pc1_2 := blk_cell P_2.out 1
  have Pc2_2 := blk_cell P_2.out 2
  have Pc3_2 := blk_cell P_2.out 3
  have Pc4_2 := blk_cell P_2.out 4
  have Pc5_2 := blk_cell P_2.out 5
  have Pc6_2 := blk_cell P_2.out 6
  have A_2 := Lib.hid ((b.block _ Az_1).trans A_1.out)
  have Az_2 := Nat.lt_of_lt_of_le Az_1 b.size
  have Ac0_2 := blk_cell A_2.out 0
  have Ac1_2 := blk_cell A_2.out 1
  have Ac2_2 := blk_cell A_2.out 2
  have Ac3_2 := blk_cell A_2.out 3
  have Ac4_2 := blk_cell A_2.out 4
  have Ac5_2 := blk_cell A_2.out 5
  have Ac6_2 := blk_cell A_2.out 6
  have q_2 := q_1.trans (b.mono q_1.size)
  clear P_1 Pz_1 Pc0_1 Pc1_1 Pc2_1 Pc3_1 Pc4_1 Pc5_1 Pc6_1 A_1 Az_1 Ac0_1 Ac1_1 Ac2_1 Ac3_1 Ac4_1 Ac5_1 Ac6_1 q_1
  clear b
  go_wp2_with fail
  have b : Below V2.heap.size V2 (V2.alloc (.cells #[.int .i64 ya.c, .int .i64 ya.t, .int .i64 ya.m, .int .i64 ya.u, .int .i64 ya.e, .int .i64 ya.s, .bool ya.h] 34)) := ((Below.refl _ V2).alloc (Nat.le_refl _) (.cells #[.int .i64 ya.c, .int .i64 ya.t, .int .i64 ya.m, .int .i64 ya.u, .int .i64 ya.e, .int .i64 ya.s, .bool ya.h] 34))
  have nb0 := blk_new V2 (.cells #[.int .i64 ya.c, .int .i64 ya.t, .int .i64 ya.m, .int .i64 ya.u, .int .i64 ya.e, .int .i64 ya.s, .bool ya.h] 34)
  have nz0 : V2.heap.size < (V2.alloc (.cells #[.int .i64 ya.c, .int .i64 ya.t, .int .i64 ya.m, .int .i64 ya.u, .int .i64 ya.e, .int .i64 ya.s, .bool ya.h] 34)).heap.size := by simp only [World.size_alloc]; omega
  have P_3 := Lib.hid ((b.block _ Pz_2).trans P_2.out)
  have Pz_3 := Nat.lt_of_lt_of_le Pz_2 b.size
  have Pc0_3 := blk_cell P_3.out 0
  have Pc1_3 := blk_cell P_3.out 1
  have Pc2_3 := blk_cell P_3.out 2
  have Pc3_3 := blk_cell P_3.out 3
  have Pc4_3 := blk_cell P_3.out 4
  have Pc5_3 := blk_cell P_3.out 5
  have Pc6_3 := blk_cell P_3.out 6
  have A_3 := Lib.hid ((b.block _ Az_2).trans A_2.out)
  have Az_3 := Nat.lt_of_lt_of_le Az_2 b.size
  have Ac0_3 := blk_cell A_3.out 0
  have Ac1_3 := blk_cell A_3.out 1
  have Ac2_3 := blk_cell A_3.out 2
  have Ac3_3 := blk_cell A_3.out 3
  have Ac4_3 := blk_cell A_3.out 4
  have Ac5_3 := blk_cell A_3.out 5
  have Ac6_3 := blk_cell A_3.out 6
  have q_3 := q_2.trans (b.mono q_2.size)
  clear P_2 Pz_2 Pc0_2 Pc1_2 Pc2_2 Pc3_2 Pc4_2 Pc5_2 Pc6_2 A_2 Az_2 Ac0_2 Ac1_2 Ac2_2 Ac3_2 Ac4_2 Ac5_2 Ac6_2 q_2
  clear b
  have R0_3 := Lib.hid nb0
  have R0z_3 := nz0
  clear nb0 nz0
  have R0c0_3 := blk_cell R0_3.out 0
  have R0c1_3 := blk_cell R0_3.out 1
  have R0c2_3 := blk_cell R0_3.out 2
  have R0c3_3 := blk_cell R0_3.out 3
  have R0c4_3 := blk_cell R0_3.out 4
  have R0c5_3 := blk_cell R0_3.out 5
  have R0c6_3 := blk_cell R0_3.out 6
  generalize (V2.alloc (.cells #[.int .i64 ya.c, .int .i64 ya.t, .int .i64 ya.m, .int .i64 ya.u, .int .i64 ya.e, .int .i64 ya.s, .bool ya.h] 34)) = V3 at q_3 P_3 Pz_3 Pc0_3 Pc1_3 Pc2_3 Pc3_3 Pc4_3 Pc5_3 Pc6_3 A_3 Az_3 Ac0_3 Ac1_3 Ac2_3 Ac3_3 Ac4_3 Ac5_3 Ac6_3 R0_3 R0z_3 R0c0_3 R0c1_3 R0c2_3 R0c3_3 R0c4_3 R0c5_3 R0c6_3 ⊢
  refine (dack x ya m n v r E HE.out.eq Hya.out.eq _).mono ?_
  rintro e V4 ⟨rfl, b⟩
  have P_4 := Lib.hid ((b.block _ Pz_3).trans P_3.out)
  have Pz_4 := Nat.lt_of_lt_of_le Pz_3 b.size
  have Pc0_4 := blk_cell P_4.out 0
  have Pc1_4 := blk_cell P_4.out 1
  have Pc2_4 := blk_cell P_4.out 2
  have Pc3_4 := blk_cell P_4.out 3
  have Pc4_4 := blk_cell P_4.out 4
  have Pc5_4 := blk_cell P_4.out 5
  have Pc6_4 := blk_cell P_4.out 6
  have A_4 := Lib.hid ((b.block _ Az_3).trans A_3.out)
  have Az_4 := Nat.lt_of_lt_of_le Az_3 b.size
  have Ac0_4 := blk_cell A_4.out 0
  have Ac1_4 := blk_cell A_4.out 1
  have Ac2_4 := blk_cell A_4.out 2
  have Ac3_4 := blk_cell A_4.out 3
  have Ac4_4 := blk_cell A_4.out 4
  have Ac5_4 := blk_cell A_4.out 5
  have Ac6_4 := blk_cell A_4.out 6
  have R0_4 := Lib.hid ((b.block _ R0z_3).trans R0_3.out)
  have R0z_4 := Nat.lt_of_lt_of_le R0z_3 b.size
  have R0c0_4 := blk_cell R0_4.out 0
  have R0c1_4 := blk_cell R0_4.out 1
  have R0c2_4 := blk_cell R0_4.out 2
  have R0c3_4 := blk_cell R0_4.out 3
  have R0c4_4 := blk_cell R0_4.out 4
  have R0c5_4 := blk_cell R0_4.out 5
  have R0c6_4 := blk_cell R0_4.out 6
  have q_4 := q_3.trans (b.mono q_3.size)
  clear P_3 Pz_3 Pc0_3 Pc1_3 Pc2_3 Pc3_3 Pc4_3 Pc5_3 Pc6_3 A_3 Az_3 Ac0_3 Ac1_3 Ac2_3 Ac3_3 Ac4_3 Ac5_3 Ac6_3 R0_3 R0z_3 R0c0_3 R0c1_3 R0c2_3 R0c3_3 R0c4_3 R0c5_3 R0c6_3 q_3
  clear b
  go_wp2_with fail
  have b : Below V4.heap.size V4 (V4.alloc (.cells #[.int .i64 ya.c, .int .i64 ya.t, .int .i64 ya.m, .int .i64 ya.u, .int .i64 ya.e, .int .i64 ya.s, .bool ya.h] 33)) := ((Below.refl _ V4).alloc (Nat.le_refl _) (.cells #[.int .i64 ya.c, .int .i64 ya.t, .int .i64 ya.m, .int .i64 ya.u, .int .i64 ya.e, .int .i64 ya.s, .bool ya.h] 33))
  have nb0 := blk_new V4 (.cells #[.int .i64 ya.c, .int .i64 ya.t, .int .i64 ya.m, .int .i64 ya.u, .int .i64 ya.e, .int .i64 ya.s, .bool ya.h] 33)
  have nz0 : V4.heap.size < (V4.alloc (.cells #[.int .i64 ya.c, .int .i64 ya.t, .int .i64 ya.m, .int .i64 ya.u, .int .i64 ya.e, .int .i64 ya.s, .bool ya.h] 33)).heap.size := by simp only [World.size_alloc]; omega
  have P_5 := Lib.hid ((b.block _ Pz_4).trans P_4.out)
  have Pz_5 := Nat.lt_of_lt_of_le Pz_4 b.size
  have Pc0_5 := blk_cell P_5.out 0
  have Pc1_5 := blk_cell P_5.out 1
  have Pc2_5 := blk_cell P_5.out 2
  have Pc3_5 := blk_cell P_5.out 3
  have Pc4_5 := blk_cell P_5.out 4
  have Pc5_5 := blk_cell P_5.out 5
  have Pc6_5 := blk_cell P_5.out 6
  have A_5 := Lib.hid ((b.block _ Az_4).trans A_4.out)
  have Az_5 := Nat.lt_of_lt_of_le Az_4 b.size
  have Ac0_5 := blk_cell A_5.out 0
  have Ac1_5 := blk_cell A_5.out 1
  have Ac2_5 := blk_cell A_5.out 2
  have Ac3_5 := blk_cell A_5.out 3
  have Ac4_5 := blk_cell A_5.out 4
  have Ac5_5 := blk_cell A_5.out 5
  have Ac6_5 := blk_cell A_5.out 6
  have R0_5 := Lib.hid ((b.block _ R0z_4).trans R0_4.out)
  have R0z_5 := Nat.lt_of_lt_of_le R0z_4 b.size
  have R0c0_5 := blk_cell R0_5.out 0
  have R0c1_5 := blk_cell R0_5.out 1
  have R0c2_5 := blk_cell R0_5.out 2
  have R0c3_5 := blk_cell R0_5.out 3
  have R0c4_5 := blk_cell R0_5.out 4
  have R0c5_5 := blk_cell R0_5.out 5
  have R0c6_5 := blk_cell R0_5.out 6
  have q_5 := q_4.trans (b.mono q_4.size)
  clear P_4 Pz_4 Pc0_4 Pc1_4 Pc2_4 Pc3_4 Pc4_4 Pc5_4 Pc6_4 A_4 Az_4 Ac0_4 Ac1_4 Ac2_4 Ac3_4 Ac4_4 Ac5_4 Ac6_4 R0_4 R0z_4 R0c0_4 R0c1_4 R0c2_4 R0c3_4 R0c4_4 R0c5_4 R0c6_4 q_4
  clear b
  have R1_5 := Lib.hid nb0
  have R1z_5 := nz0
  clear nb0 nz0
  have R1c0_5 := blk_cell R1_5.out 0
  have R1c1_5 := blk_cell R1_5.out 1
  have R1c2_5 := blk_cell R1_5.out 2
  have R1c3_5 := blk_cell R1_5.out 3
  have R1c4_5 := blk_cell R1_5.out 4
  have R1c5_5 := blk_cell R1_5.out 5
  have R1c6_5 := blk_cell R1_5.out 6
  generalize (V4.alloc (.cells #[.int .i64 ya.c, .int .i64 ya.t, .int .i64 ya.m, .int .i64 ya.u, .int .i64 ya.e, .int .i64 ya.s, .bool ya.h] 33)) = V5 at q_5 P_5 Pz_5 Pc0_5 Pc1_5 Pc2_5 Pc3_5 Pc4_5 Pc5_5 Pc6_5 A_5 Az_5 Ac0_5 Ac1_5 Ac2_5 Ac3_5 Ac4_5 Ac5_5 Ac6_5 R0_5 R0z_5 R0c0_5 R0c1_5 R0c2_5 R0c3_5 R0c4_5 R0c5_5 R0c6_5 R1_5 R1z_5 R1c0_5 R1c1_5 R1c2_5 R1c3_5 R1c4_5 R1c5_5 R1c6_5 ⊢
  refine (ploss x yl m G HG.out.eq Hyl.out.eq _).mono ?_
  rintro e V6 ⟨rfl, b⟩
  have P_6 := Lib.hid ((b.block _ Pz_5).trans P_5.out)
  have Pz_6 := Nat.lt_of_lt_of_le Pz_5 b.size
  have Pc0_6 := blk_cell P_6.out 0
  have Pc1_6 := blk_cell P_6.out 1
  have Pc2_6 := blk_cell P_6.out 2
  have Pc3_6 := blk_cell P_6.out 3
  have Pc4_6 := blk_cell P_6.out 4
  have Pc5_6 := blk_cell P_6.out 5
  have Pc6_6 := blk_cell P_6.out 6
  have A_6 := Lib.hid ((b.block _ Az_5).trans A_5.out)
  have Az_6 := Nat.lt_of_lt_of_le Az_5 b.size
  have Ac0_6 := blk_cell A_6.out 0
  have Ac1_6 := blk_cell A_6.out 1
  have Ac2_6 := blk_cell A_6.out 2
  have Ac3_6 := blk_cell A_6.out 3
  have Ac4_6 := blk_cell A_6.out 4
  have Ac5_6 := blk_cell A_6.out 5
  have Ac6_6 := blk_cell A_6.out 6
  have R0_6 := Lib.hid ((b.block _ R0z_5).trans R0_5.out)
  have R0z_6 := Nat.lt_of_lt_of_le R0z_5 b.size
  have R0c0_6 := blk_cell R0_6.out 0
  have R0c1_6 := blk_cell R0_6.out 1
  have R0c2_6 := blk_cell R0_6.out 2
  have R0c3_6 := blk_cell R0_6.out 3
  have R0c4_6 := blk_cell R0_6.out 4
  have R0c5_6 := blk_cell R0_6.out 5
  have R0c6_6 := blk_cell R0_6.out 6
  have R1_6 := Lib.hid ((b.block _ R1z_5).trans R1_5.out)
  have R1z_6 := Nat.lt_of_lt_of_le R1z_5 b.size
  have R1c0_6 := blk_cell R1_6.out 0
  have R1c1_6 := blk_cell R1_6.out 1
  have R1c2_6 := blk_cell R1_6.out 2
  have R1c3_6 := blk_cell R1_6.out 3
  have R1c4_6 := blk_cell R1_6.out 4
  have R1c5_6 := blk_cell R1_6.out 5
  have R1c6_6 := blk_cell R1_6.out 6
  have q_6 := q_5.trans (b.mono q_5.size)
  clear P_5 Pz_5 Pc0_5 Pc1_5 Pc2_5 Pc3_5 Pc4_5 Pc5_5 Pc6_5 A_5 Az_5 Ac0_5 Ac1_5 Ac2_5 Ac3_5 Ac4_5 Ac5_5 Ac6_5 R0_5 R0z_5 R0c0_5 R0c1_5 R0c2_5 R0c3_5 R0c4_5 R0c5_5 R0c6_5 R1_5 R1z_5 R1c0_5 R1c1_5 R1c2_5 R1c3_5 R1c4_5 R1c5_5 R1c6_5 q_5
  clear b
  go_wp2_with fail
  have b : Below V6.heap.size V6 (V6.alloc (.cells #[.int .i64 yl.c, .int .i64 yl.t, .int .i64 yl.m, .int .i64 yl.u, .int .i64 yl.e, .int .i64 yl.s, .bool yl.h] 34)) := ((Below.refl _ V6).alloc (Nat.le_refl _) (.cells #[.int .i64 yl.c, .int .i64 yl.t, .int .i64 yl.m, .int .i64 yl.u, .int .i64 yl.e, .int .i64 yl.s, .bool yl.h] 34))
  have nb0 := blk_new V6 (.cells #[.int .i64 yl.c, .int .i64 yl.t, .int .i64 yl.m, .int .i64 yl.u, .int .i64 yl.e, .int .i64 yl.s, .bool yl.h] 34)
  have nz0 : V6.heap.size < (V6.alloc (.cells #[.int .i64 yl.c, .int .i64 yl.t, .int .i64 yl.m, .int .i64 yl.u, .int .i64 yl.e, .int .i64 yl.s, .bool yl.h] 34)).heap.size := by simp only [World.size_alloc]; omega
  have P_7 := Lib.hid ((b.block _ Pz_6).trans P_6.out)
  have Pz_7 := Nat.lt_of_lt_of_le Pz_6 b.size
  have Pc0_7 := blk_cell P_7.out 0
  have Pc1_7 := blk_cell P_7.out 1
  have Pc2_7 := blk_cell P_7.out 2
  have Pc3_7 := blk_cell P_7.out 3
  have Pc4_7 := blk_cell P_7.out 4
  have Pc5_7 := blk_cell P_7.out 5
  have Pc6_7 := blk_cell P_7.out 6
  have A_7 := Lib.hid ((b.block _ Az_6).trans A_6.out)
  have Az_7 := Nat.lt_of_lt_of_le Az_6 b.size
  have Ac0_7 := blk_cell A_7.out 0
  have Ac1_7 := blk_cell A_7.out 1
  have Ac2_7 := blk_cell A_7.out 2
  have Ac3_7 := blk_cell A_7.out 3
  have Ac4_7 := blk_cell A_7.out 4
  have Ac5_7 := blk_cell A_7.out 5
  have Ac6_7 := blk_cell A_7.out 6
  have R0_7 := Lib.hid ((b.block _ R0z_6).trans R0_6.out)
  have R0z_7 := Nat.lt_of_lt_of_le R0z_6 b.size
  have R0c0_7 := blk_cell R0_7.out 0
  have R0c1_7 := blk_cell R0_7.out 1
  have R0c2_7 := blk_cell R0_7.out 2
  have R0c3_7 := blk_cell R0_7.out 3
  have R0c4_7 := blk_cell R0_7.out 4
  have R0c5_7 := blk_cell R0_7.out 5
  have R0c6_7 := blk_cell R0_7.out 6
  have R1_7 := Lib.hid ((b.block _ R1z_6).trans R1_6.out)
  have R1z_7 := Nat.lt_of_lt_of_le R1z_6 b.size
  have R1c0_7 := blk_cell R1_7.out 0
  have R1c1_7 := blk_cell R1_7.out 1
  have R1c2_7 := blk_cell R1_7.out 2
  have R1c3_7 := blk_cell R1_7.out 3
  have R1c4_7 := blk_cell R1_7.out 4
  have R1c5_7 := blk_cell R1_7.out 5
  have R1c6_7 := blk_cell R1_7.out 6
  have q_7 := q_6.trans (b.mono q_6.size)
  clear P_6 Pz_6 Pc0_6 Pc1_6 Pc2_6 Pc3_6 Pc4_6 Pc5_6 Pc6_6 A_6 Az_6 Ac0_6 Ac1_6 Ac2_6 Ac3_6 Ac4_6 Ac5_6 Ac6_6 R0_6 R0z_6 R0c0_6 R0c1_6 R0c2_6 R0c3_6 R0c4_6 R0c5_6 R0c6_6 R1_6 R1z_6 R1c0_6 R1c1_6 R1c2_6 R1c3_6 R1c4_6 R1c5_6 R1c6_6 q_6
  clear b
  have R2_7 := Lib.hid nb0
  have R2z_7 := nz0
  clear nb0 nz0
  have R2c0_7 := blk_cell R2_7.out 0
  have R2c1_7 := blk_cell R2_7.out 1
  have R2c2_7 := blk_cell R2_7.out 2
  have R2c3_7 := blk_cell R2_7.out 3
  have R2c4_7 := blk_cell R2_7.out 4
  have R2c5_7 := blk_cell R2_7.out 5
  have R2c6_7 := blk_cell R2_7.out 6
  generalize (V6.alloc (.cells #[.int .i64 yl.c, .int .i64 yl.t, .int .i64 yl.m, .int .i64 yl.u, .int .i64 yl.e, .int .i64 yl.s, .bool yl.h] 34)) = V7 at q_7 P_7 Pz_7 Pc0_7 Pc1_7 Pc2_7 Pc3_7 Pc4_7 Pc5_7 Pc6_7 A_7 Az_7 Ac0_7 Ac1_7 Ac2_7 Ac3_7 Ac4_7 Ac5_7 Ac6_7 R0_7 R0z_7 R0c0_7 R0c1_7 R0c2_7 R0c3_7 R0c4_7 R0c5_7 R0c6_7 R1_7 R1z_7 R1c0_7 R1c1_7 R1c2_7 R1c3_7 R1c4_7 R1c5_7 R1c6_7 R2_7 R2z_7 R2c0_7 R2c1_7 R2c2_7 R2c3_7 R2c4_7 R2c5_7 R2c6_7 ⊢
  refine (dloss x yl m G HG.out.eq Hyl.out.eq _).mono ?_
  rintro e V8 ⟨rfl, b⟩
  have P_8 := Lib.hid ((b.block _ Pz_7).trans P_7.out)
  have Pz_8 := Nat.lt_of_lt_of_le Pz_7 b.size
  have Pc0_8 := blk_cell P_8.out 0
  have Pc1_8 := blk_cell P_8.out 1
  have Pc2_8 := blk_cell P_8.out 2
  have Pc3_8 := blk_cell P_8.out 3
  have Pc4_8 := blk_cell P_8.out 4
  have Pc5_8 := blk_cell P_8.out 5
  have Pc6_8 := blk_cell P_8.out 6
  have A_8 := Lib.hid ((b.block _ Az_7).trans A_7.out)
  have Az_8 := Nat.lt_of_lt_of_le Az_7 b.size
  have Ac0_8 := blk_cell A_8.out 0
  have Ac1_8 := blk_cell A_8.out 1
  have Ac2_8 := blk_cell A_8.out 2
  have Ac3_8 := blk_cell A_8.out 3
  have Ac4_8 := blk_cell A_8.out 4
  have Ac5_8 := blk_cell A_8.out 5
  have Ac6_8 := blk_cell A_8.out 6
  have R0_8 := Lib.hid ((b.block _ R0z_7).trans R0_7.out)
  have R0z_8 := Nat.lt_of_lt_of_le R0z_7 b.size
  have R0c0_8 := blk_cell R0_8.out 0
  have R0c1_8 := blk_cell R0_8.out 1
  have R0c2_8 := blk_cell R0_8.out 2
  have R0c3_8 := blk_cell R0_8.out 3
  have R0c4_8 := blk_cell R0_8.out 4
  have R0c5_8 := blk_cell R0_8.out 5
  have R0c6_8 := blk_cell R0_8.out 6
  have R1_8 := Lib.hid ((b.block _ R1z_7).trans R1_7.out)
  have R1z_8 := Nat.lt_of_lt_of_le R1z_7 b.size
  have R1c0_8 := blk_cell R1_8.out 0
  have R1c1_8 := blk_cell R1_8.out 1
  have R1c2_8 := blk_cell R1_8.out 2
  have R1c3_8 := blk_cell R1_8.out 3
  have R1c4_8 := blk_cell R1_8.out 4
  have R1c5_8 := blk_cell R1_8.out 5
  have R1c6_8 := blk_cell R1_8.out 6
  have R2_8 := Lib.hid ((b.block _ R2z_7).trans R2_7.out)
  have R2z_8 := Nat.lt_of_lt_of_le R2z_7 b.size
  have R2c0_8 := blk_cell R2_8.out 0
  have R2c1_8 := blk_cell R2_8.out 1
  have R2c2_8 := blk_cell R2_8.out 2
  have R2c3_8 := blk_cell R2_8.out 3
  have R2c4_8 := blk_cell R2_8.out 4
  have R2c5_8 := blk_cell R2_8.out 5
  have R2c6_8 := blk_cell R2_8.out 6
  have q_8 := q_7.trans (b.mono q_7.size)
  clear P_7 Pz_7 Pc0_7 Pc1_7 Pc2_7 Pc3_7 Pc4_7 Pc5_7 Pc6_7 A_7 Az_7 Ac0_7 Ac1_7 Ac2_7 Ac3_7 Ac4_7 Ac5_7 Ac6_7 R0_7 R0z_7 R0c0_7 R0c1_7 R0c2_7 R0c3_7 R0c4_7 R0c5_7 R0c6_7 R1_7 R1z_7 R1c0_7 R1c1_7 R1c2_7 R1c3_7 R1c4_7 R1c5_7 R1c6_7 R2_7 R2z_7 R2c0_7 R2c1_7 R2c2_7 R2c3_7 R2c4_7 R2c5_7 R2c6_7 q_7
  clear b
  go_wp2_with fail
  have b : Below V8.heap.size V8 (V8.alloc (.cells #[.int .i64 yl.c, .int .i64 yl.t, .int .i64 yl.m, .int .i64 yl.u, .int .i64 yl.e, .int .i64 yl.s, .bool yl.h] 33)) := ((Below.refl _ V8).alloc (Nat.le_refl _) (.cells #[.int .i64 yl.c, .int .i64 yl.t, .int .i64 yl.m, .int .i64 yl.u, .int .i64 yl.e, .int .i64 yl.s, .bool yl.h] 33))
  have nb0 := blk_new V8 (.cells #[.int .i64 yl.c, .int .i64 yl.t, .int .i64 yl.m, .int .i64 yl.u, .int .i64 yl.e, .int .i64 yl.s, .bool yl.h] 33)
  have nz0 : V8.heap.size < (V8.alloc (.cells #[.int .i64 yl.c, .int .i64 yl.t, .int .i64 yl.m, .int .i64 yl.u, .int .i64 yl.e, .int .i64 yl.s, .bool yl.h] 33)).heap.size := by simp only [World.size_alloc]; omega
  have P_9 := Lib.hid ((b.block _ Pz_8).trans P_8.out)
  have Pz_9 := Nat.lt_of_lt_of_le Pz_8 b.size
  have Pc0_9 := blk_cell P_9.out 0
  have Pc1_9 := blk_cell P_9.out 1
  have Pc2_9 := blk_cell P_9.out 2
  have Pc3_9 := blk_cell P_9.out 3
  have Pc4_9 := blk_cell P_9.out 4
  have Pc5_9 := blk_cell P_9.out 5
  have Pc6_9 := blk_cell P_9.out 6
  have A_9 := Lib.hid ((b.block _ Az_8).trans A_8.out)
  have Az_9 := Nat.lt_of_lt_of_le Az_8 b.size
  have Ac0_9 := blk_cell A_9.out 0
  have Ac1_9 := blk_cell A_9.out 1
  have Ac2_9 := blk_cell A_9.out 2
  have Ac3_9 := blk_cell A_9.out 3
  have Ac4_9 := blk_cell A_9.out 4
  have Ac5_9 := blk_cell A_9.out 5
  have Ac6_9 := blk_cell A_9.out 6
  have R0_9 := Lib.hid ((b.block _ R0z_8).trans R0_8.out)
  have R0z_9 := Nat.lt_of_lt_of_le R0z_8 b.size
  have R0c0_9 := blk_cell R0_9.out 0
  have R0c1_9 := blk_cell R0_9.out 1
  have R0c2_9 := blk_cell R0_9.out 2
  have R0c3_9 := blk_cell R0_9.out 3
  have R0c4_9 := blk_cell R0_9.out 4
  have R0c5_9 := blk_cell R0_9.out 5
  have R0c6_9 := blk_cell R0_9.out 6
  have R1_9 := Lib.hid ((b.block _ R1z_8).trans R1_8.out)
  have R1z_9 := Nat.lt_of_lt_of_le R1z_8 b.size
  have R1c0_9 := blk_cell R1_9.out 0
  have R1c1_9 := blk_cell R1_9.out 1
  have R1c2_9 := blk_cell R1_9.out 2
  have R1c3_9 := blk_cell R1_9.out 3
  have R1c4_9 := blk_cell R1_9.out 4
  have R1c5_9 := blk_cell R1_9.out 5
  have R1c6_9 := blk_cell R1_9.out 6
  have R2_9 := Lib.hid ((b.block _ R2z_8).trans R2_8.out)
  have R2z_9 := Nat.lt_of_lt_of_le R2z_8 b.size
  have R2c0_9 := blk_cell R2_9.out 0
  have R2c1_9 := blk_cell R2_9.out 1
  have R2c2_9 := blk_cell R2_9.out 2
  have R2c3_9 := blk_cell R2_9.out 3
  have R2c4_9 := blk_cell R2_9.out 4
  have R2c5_9 := blk_cell R2_9.out 5
  have R2c6_9 := blk_cell R2_9.out 6
  have q_9 := q_8.trans (b.mono q_8.size)
  clear P_8 Pz_8 Pc0_8 Pc1_8 Pc2_8 Pc3_8 Pc4_8 Pc5_8 Pc6_8 A_8 Az_8 Ac0_8 Ac1_8 Ac2_8 Ac3_8 Ac4_8 Ac5_8 Ac6_8 R0_8 R0z_8 R0c0_8 R0c1_8 R0c2_8 R0c3_8 R0c4_8 R0c5_8 R0c6_8 R1_8 R1z_8 R1c0_8 R1c1_8 R1c2_8 R1c3_8 R1c4_8 R1c5_8 R1c6_8 R2_8 R2z_8 R2c0_8 R2c1_8 R2c2_8 R2c3_8 R2c4_8 R2c5_8 R2c6_8 q_8
  clear b
  have R3_9 := Lib.hid nb0
  have R3z_9 := nz0
  clear nb0 nz0
  have R3c0_9 := blk_cell R3_9.out 0
  have R3c1_9 := blk_cell R3_9.out 1
  have R3c2_9 := blk_cell R3_9.out 2
  have R3c3_9 := blk_cell R3_9.out 3
  have R3c4_9 := blk_cell R3_9.out 4
  have R3c5_9 := blk_cell R3_9.out 5
  have R3c6_9 := blk_cell R3_9.out 6
  generalize (V8.alloc (.cells #[.int .i64 yl.c, .int .i64 yl.t, .int .i64 yl.m, .int .i64 yl.u, .int .i64 yl.e, .int .i64 yl.s, .bool yl.h] 33)) = V9 at q_9 P_9 Pz_9 Pc0_9 Pc1_9 Pc2_9 Pc3_9 Pc4_9 Pc5_9 Pc6_9 A_9 Az_9 Ac0_9 Ac1_9 Ac2_9 Ac3_9 Ac4_9 Ac5_9 Ac6_9 R0_9 R0z_9 R0c0_9 R0c1_9 R0c2_9 R0c3_9 R0c4_9 R0c5_9 R0c6_9 R1_9 R1z_9 R1c0_9 R1c1_9 R1c2_9 R1c3_9 R1c4_9 R1c5_9 R1c6_9 R2_9 R2z_9 R2c0_9 R2c1_9 R2c2_9 R2c3_9 R2c4_9 R2c5_9 R2c6_9 R3_9 R3z_9 R3c0_9 R3c1_9 R3c2_9 R3c3_9 R3c4_9 R3c5_9 R3c6_9 ⊢
  refine (ptimeout x yt m G HG.out.eq Hyt.out.eq _).mono ?_
  rintro e V10 ⟨rfl, b⟩
  have P_10 := Lib.hid ((b.block _ Pz_9).trans P_9.out)
  have Pz_10 := Nat.lt_of_lt_of_le Pz_9 b.size
  have Pc0_10 := blk_cell P_10.out 0
  have Pc1_10 := blk_cell P_10.out 1
  have Pc2_10 := blk_cell P_10.out 2
  have Pc3_10 := blk_cell P_10.out 3
  have Pc4_10 := blk_cell P_10.out 4
  have Pc5_10 := blk_cell P_10.out 5
  have Pc6_10 := blk_cell P_10.out 6
  have A_10 := Lib.hid ((b.block _ Az_9).trans A_9.out)
  have Az_10 := Nat.lt_of_lt_of_le Az_9 b.size
  have Ac0_10 := blk_cell A_10.out 0
  have Ac1_10 := blk_cell A_10.out 1
  have Ac2_10 := blk_cell A_10.out 2
  have Ac3_10 := blk_cell A_10.out 3
  have Ac4_10 := blk_cell A_10.out 4
  have Ac5_10 := blk_cell A_10.out 5
  have Ac6_10 := blk_cell A_10.out 6
  have R0_10 := Lib.hid ((b.block _ R0z_9).trans R0_9.out)
  have R0z_10 := Nat.lt_of_lt_of_le R0z_9 b.size
  have R0c0_10 := blk_cell R0_10.out 0
  have R0c1_10 := blk_cell R0_10.out 1
  have R0c2_10 := blk_cell R0_10.out 2
  have R0c3_10 := blk_cell R0_10.out 3
  have R0c4_10 := blk_cell R0_10.out 4
  have R0c5_10 := blk_cell R0_10.out 5
  have R0c6_10 := blk_cell R0_10.out 6
  have R1_10 := Lib.hid ((b.block _ R1z_9).trans R1_9.out)
  have R1z_10 := Nat.lt_of_lt_of_le R1z_9 b.size
  have R1c0_10 := blk_cell R1_10.out 0
  have R1c1_10 := blk_cell R1_10.out 1
  have R1c2_10 := blk_cell R1_10.out 2
  have R1c3_10 := blk_cell R1_10.out 3
  have R1c4_10 := blk_cell R1_10.out 4
  have R1c5_10 := blk_cell R1_10.out 5
  have R1c6_10 := blk_cell R1_10.out 6
  have R2_10 := Lib.hid ((b.block _ R2z_9).trans R2_9.out)
  have R2z_10 := Nat.lt_of_lt_of_le R2z_9 b.size
  have R2c0_10 := blk_cell R2_10.out 0
  have R2c1_10 := blk_cell R2_10.out 1
  have R2c2_10 := blk_cell R2_10.out 2
  have R2c3_10 := blk_cell R2_10.out 3
  have R2c4_10 := blk_cell R2_10.out 4
  have R2c5_10 := blk_cell R2_10.out 5
  have R2c6_10 := blk_cell R2_10.out 6
  have R3_10 := Lib.hid ((b.block _ R3z_9).trans R3_9.out)
  have R3z_10 := Nat.lt_of_lt_of_le R3z_9 b.size
  have R3c0_10 := blk_cell R3_10.out 0
  have R3c1_10 := blk_cell R3_10.out 1
  have R3c2_10 := blk_cell R3_10.out 2
  have R3c3_10 := blk_cell R3_10.out 3
  have R3c4_10 := blk_cell R3_10.out 4
  have R3c5_10 := blk_cell R3_10.out 5
  have R3c6_10 := blk_cell R3_10.out 6
  have q_10 := q_9.trans (b.mono q_9.size)
  clear P_9 Pz_9 Pc0_9 Pc1_9 Pc2_9 Pc3_9 Pc4_9 Pc5_9 Pc6_9 A_9 Az_9 Ac0_9 Ac1_9 Ac2_9 Ac3_9 Ac4_9 Ac5_9 Ac6_9 R0_9 R0z_9 R0c0_9 R0c1_9 R0c2_9 R0c3_9 R0c4_9 R0c5_9 R0c6_9 R1_9 R1z_9 R1c0_9 R1c1_9 R1c2_9 R1c3_9 R1c4_9 R1c5_9 R1c6_9 R2_9 R2z_9 R2c0_9 R2c1_9 R2c2_9 R2c3_9 R2c4_9 R2c5_9 R2c6_9 R3_9 R3z_9 R3c0_9 R3c1_9 R3c2_9 R3c3_9 R3c4_9 R3c5_9 R3c6_9 q_9
  clear b
  go_wp2_with fail
  have b : Below V10.heap.size V10 (V10.alloc (.cells #[.int .i64 yt.c, .int .i64 yt.t, .int .i64 yt.m, .int .i64 yt.u, .int .i64 yt.e, .int .i64 yt.s, .bool yt.h] 34)) := ((Below.refl _ V10).alloc (Nat.le_refl _) (.cells #[.int .i64 yt.c, .int .i64 yt.t, .int .i64 yt.m, .int .i64 yt.u, .int .i64 yt.e, .int .i64 yt.s, .bool yt.h] 34))
  have nb0 := blk_new V10 (.cells #[.int .i64 yt.c, .int .i64 yt.t, .int .i64 yt.m, .int .i64 yt.u, .int .i64 yt.e, .int .i64 yt.s, .bool yt.h] 34)
  have nz0 : V10.heap.size < (V10.alloc (.cells #[.int .i64 yt.c, .int .i64 yt.t, .int .i64 yt.m, .int .i64 yt.u, .int .i64 yt.e, .int .i64 yt.s, .bool yt.h] 34)).heap.size := by simp only [World.size_alloc]; omega
  have P_11 := Lib.hid ((b.block _ Pz_10).trans P_10.out)
  have Pz_11 := Nat.lt_of_lt_of_le Pz_10 b.size
  have Pc0_11 := blk_cell P_11.out 0
  have Pc1_11 := blk_cell P_11.out 1
  have Pc2_11 := blk_cell P_11.out 2
  have Pc3_11 := blk_cell P_11.out 3
  have Pc4_11 := blk_cell P_11.out 4
  have Pc5_11 := blk_cell P_11.out 5
  have Pc6_11 := blk_cell P_11.out 6
  have A_11 := Lib.hid ((b.block _ Az_10).trans A_10.out)
  have Az_11 := Nat.lt_of_lt_of_le Az_10 b.size
  have Ac0_11 := blk_cell A_11.out 0
  have Ac1_11 := blk_cell A_11.out 1
  have Ac2_11 := blk_cell A_11.out 2
  have Ac3_11 := blk_cell A_11.out 3
  have Ac4_11 := blk_cell A_11.out 4
  have Ac5_11 := blk_cell A_11.out 5
  have Ac6_11 := blk_cell A_11.out 6
  have R0_11 := Lib.hid ((b.block _ R0z_10).trans R0_10.out)
  have R0z_11 := Nat.lt_of_lt_of_le R0z_10 b.size
  have R0c0_11 := blk_cell R0_11.out 0
  have R0c1_11 := blk_cell R0_11.out 1
  have R0c2_11 := blk_cell R0_11.out 2
  have R0c3_11 := blk_cell R0_11.out 3
  have R0c4_11 := blk_cell R0_11.out 4
  have R0c5_11 := blk_cell R0_11.out 5
  have R0c6_11 := blk_cell R0_11.out 6
  have R1_11 := Lib.hid ((b.block _ R1z_10).trans R1_10.out)
  have R1z_11 := Nat.lt_of_lt_of_le R1z_10 b.size
  have R1c0_11 := blk_cell R1_11.out 0
  have R1c1_11 := blk_cell R1_11.out 1
  have R1c2_11 := blk_cell R1_11.out 2
  have R1c3_11 := blk_cell R1_11.out 3
  have R1c4_11 := blk_cell R1_11.out 4
  have R1c5_11 := blk_cell R1_11.out 5
  have R1c6_11 := blk_cell R1_11.out 6
  have R2_11 := Lib.hid ((b.block _ R2z_10).trans R2_10.out)
  have R2z_11 := Nat.lt_of_lt_of_le R2z_10 b.size
  have R2c0_11 := blk_cell R2_11.out 0
  have R2c1_11 := blk_cell R2_11.out 1
  have R2c2_11 := blk_cell R2_11.out 2
  have R2c3_11 := blk_cell R2_11.out 3
  have R2c4_11 := blk_cell R2_11.out 4
  have R2c5_11 := blk_cell R2_11.out 5
  have R2c6_11 := blk_cell R2_11.out 6
  have R3_11 := Lib.hid ((b.block _ R3z_10).trans R3_10.out)
  have R3z_11 := Nat.lt_of_lt_of_le R3z_10 b.size
  have R3c0_11 := blk_cell R3_11.out 0
  have R3c1_11 := blk_cell R3_11.out 1
  have R3c2_11 := blk_cell R3_11.out 2
  have R3c3_11 := blk_cell R3_11.out 3
  have R3c4_11 := blk_cell R3_11.out 4
  have R3c5_11 := blk_cell R3_11.out 5
  have R3c6_11 := blk_cell R3_11.out 6
  have q_11 := q_10.trans (b.mono q_10.size)
  clear P_10 Pz_10 Pc0_10 Pc1_10 Pc2_10 Pc3_10 Pc4_10 Pc5_10 Pc6_10 A_10 Az_10 Ac0_10 Ac1_10 Ac2_10 Ac3_10 Ac4_10 Ac5_10 Ac6_10 R0_10 R0z_10 R0c0_10 R0c1_10 R0c2_10 R0c3_10 R0c4_10 R0c5_10 R0c6_10 R1_10 R1z_10 R1c0_10 R1c1_10 R1c2_10 R1c3_10 R1c4_10 R1c5_10 R1c6_10 R2_10 R2z_10 R2c0_10 R2c1_10 R2c2_10 R2c3_10 R2c4_10 R2c5_10 R2c6_10 R3_10 R3z_10 R3c0_10 R3c1_10 R3c2_10 R3c3_10 R3c4_10 R3c5_10 R3c6_10 q_10
  clear b
  have R4_11 := Lib.hid nb0
  have R4z_11 := nz0
  clear nb0 nz0
  have R4c0_11 := blk_cell R4_11.out 0
  have R4c1_11 := blk_cell R4_11.out 1
  have R4c2_11 := blk_cell R4_11.out 2
  have R4c3_11 := blk_cell R4_11.out 3
  have R4c4_11 := blk_cell R4_11.out 4
  have R4c5_11 := blk_cell R4_11.out 5
  have R4c6_11 := blk_cell R4_11.out 6
  generalize (V10.alloc (.cells #[.int .i64 yt.c, .int .i64 yt.t, .int .i64 yt.m, .int .i64 yt.u, .int .i64 yt.e, .int .i64 yt.s, .bool yt.h] 34)) = V11 at q_11 P_11 Pz_11 Pc0_11 Pc1_11 Pc2_11 Pc3_11 Pc4_11 Pc5_11 Pc6_11 A_11 Az_11 Ac0_11 Ac1_11 Ac2_11 Ac3_11 Ac4_11 Ac5_11 Ac6_11 R0_11 R0z_11 R0c0_11 R0c1_11 R0c2_11 R0c3_11 R0c4_11 R0c5_11 R0c6_11 R1_11 R1z_11 R1c0_11 R1c1_11 R1c2_11 R1c3_11 R1c4_11 R1c5_11 R1c6_11 R2_11 R2z_11 R2c0_11 R2c1_11 R2c2_11 R2c3_11 R2c4_11 R2c5_11 R2c6_11 R3_11 R3z_11 R3c0_11 R3c1_11 R3c2_11 R3c3_11 R3c4_11 R3c5_11 R3c6_11 R4_11 R4z_11 R4c0_11 R4c1_11 R4c2_11 R4c3_11 R4c4_11 R4c5_11 R4c6_11 ⊢
  refine (dtimeout x yt m G HG.out.eq Hyt.out.eq _).mono ?_
  rintro e V12 ⟨rfl, b⟩
  have P_12 := Lib.hid ((b.block _ Pz_11).trans P_11.out)
  have Pz_12 := Nat.lt_of_lt_of_le Pz_11 b.size
  have Pc0_12 := blk_cell P_12.out 0
  have Pc1_12 := blk_cell P_12.out 1
  have Pc2_12 := blk_cell P_12.out 2
  have Pc3_12 := blk_cell P_12.out 3
  have Pc4_12 := blk_cell P_12.out 4
  have Pc5_12 := blk_cell P_12.out 5
  have Pc6_12 := blk_cell P_12.out 6
  have A_12 := Lib.hid ((b.block _ Az_11).trans A_11.out)
  have Az_12 := Nat.lt_of_lt_of_le Az_11 b.size
  have Ac0_12 := blk_cell A_12.out 0
  have Ac1_12 := blk_cell A_12.out 1
  have Ac2_12 := blk_cell A_12.out 2
  have Ac3_12 := blk_cell A_12.out 3
  have Ac4_12 := blk_cell A_12.out 4
  have Ac5_12 := blk_cell A_12.out 5
  have Ac6_12 := blk_cell A_12.out 6
  have R0_12 := Lib.hid ((b.block _ R0z_11).trans R0_11.out)
  have R0z_12 := Nat.lt_of_lt_of_le R0z_11 b.size
  have R0c0_12 := blk_cell R0_12.out 0
  have R0c1_12 := blk_cell R0_12.out 1
  have R0c2_12 := blk_cell R0_12.out 2
  have R0c3_12 := blk_cell R0_12.out 3
  have R0c4_12 := blk_cell R0_12.out 4
  have R0c5_12 := blk_cell R0_12.out 5
  have R0c6_12 := blk_cell R0_12.out 6
  have R1_12 := Lib.hid ((b.block _ R1z_11).trans R1_11.out)
  have R1z_12 := Nat.lt_of_lt_of_le R1z_11 b.size
  have R1c0_12 := blk_cell R1_12.out 0
  have R1c1_12 := blk_cell R1_12.out 1
  have R1c2_12 := blk_cell R1_12.out 2
  have R1c3_12 := blk_cell R1_12.out 3
  have R1c4_12 := blk_cell R1_12.out 4
  have R1c5_12 := blk_cell R1_12.out 5
  have R1c6_12 := blk_cell R1_12.out 6
  have R2_12 := Lib.hid ((b.block _ R2z_11).trans R2_11.out)
  have R2z_12 := Nat.lt_of_lt_of_le R2z_11 b.size
  have R2c0_12 := blk_cell R2_12.out 0
  have R2c1_12 := blk_cell R2_12.out 1
  have R2c2_12 := blk_cell R2_12.out 2
  have R2c3_12 := blk_cell R2_12.out 3
  have R2c4_12 := blk_cell R2_12.out 4
  have R2c5_12 := blk_cell R2_12.out 5
  have R2c6_12 := blk_cell R2_12.out 6
  have R3_12 := Lib.hid ((b.block _ R3z_11).trans R3_11.out)
  have R3z_12 := Nat.lt_of_lt_of_le R3z_11 b.size
  have R3c0_12 := blk_cell R3_12.out 0
  have R3c1_12 := blk_cell R3_12.out 1
  have R3c2_12 := blk_cell R3_12.out 2
  have R3c3_12 := blk_cell R3_12.out 3
  have R3c4_12 := blk_cell R3_12.out 4
  have R3c5_12 := blk_cell R3_12.out 5
  have R3c6_12 := blk_cell R3_12.out 6
  have R4_12 := Lib.hid ((b.block _ R4z_11).trans R4_11.out)
  have R4z_12 := Nat.lt_of_lt_of_le R4z_11 b.size
  have R4c0_12 := blk_cell R4_12.out 0
  have R4c1_12 := blk_cell R4_12.out 1
  have R4c2_12 := blk_cell R4_12.out 2
  have R4c3_12 := blk_cell R4_12.out 3
  have R4c4_12 := blk_cell R4_12.out 4
  have R4c5_12 := blk_cell R4_12.out 5
  have R4c6_12 := blk_cell R4_12.out 6
  have q_12 := q_11.trans (b.mono q_11.size)
  clear P_11 Pz_11 Pc0_11 Pc1_11 Pc2_11 Pc3_11 Pc4_11 Pc5_11 Pc6_11 A_11 Az_11 Ac0_11 Ac1_11 Ac2_11 Ac3_11 Ac4_11 Ac5_11 Ac6_11 R0_11 R0z_11 R0c0_11 R0c1_11 R0c2_11 R0c3_11 R0c4_11 R0c5_11 R0c6_11 R1_11 R1z_11 R1c0_11 R1c1_11 R1c2_11 R1c3_11 R1c4_11 R1c5_11 R1c6_11 R2_11 R2z_11 R2c0_11 R2c1_11 R2c2_11 R2c3_11 R2c4_11 R2c5_11 R2c6_11 R3_11 R3z_11 R3c0_11 R3c1_11 R3c2_11 R3c3_11 R3c4_11 R3c5_11 R3c6_11 R4_11 R4z_11 R4c0_11 R4c1_11 R4c2_11 R4c3_11 R4c4_11 R4c5_11 R4c6_11 q_11
  clear b
  go_wp2_with fail
  have b : Below V12.heap.size V12 (V12.alloc (.cells #[.int .i64 yt.c, .int .i64 yt.t, .int .i64 yt.m, .int .i64 yt.u, .int .i64 yt.e, .int .i64 yt.s, .bool yt.h] 33)) := ((Below.refl _ V12).alloc (Nat.le_refl _) (.cells #[.int .i64 yt.c, .int .i64 yt.t, .int .i64 yt.m, .int .i64 yt.u, .int .i64 yt.e, .int .i64 yt.s, .bool yt.h] 33))
  have nb0 := blk_new V12 (.cells #[.int .i64 yt.c, .int .i64 yt.t, .int .i64 yt.m, .int .i64 yt.u, .int .i64 yt.e, .int .i64 yt.s, .bool yt.h] 33)
  have nz0 : V12.heap.size < (V12.alloc (.cells #[.int .i64 yt.c, .int .i64 yt.t, .int .i64 yt.m, .int .i64 yt.u, .int .i64 yt.e, .int .i64 yt.s, .bool yt.h] 33)).heap.size := by simp only [World.size_alloc]; omega
  have P_13 := Lib.hid ((b.block _ Pz_12).trans P_12.out)
  have Pz_13 := Nat.lt_of_lt_of_le Pz_12 b.size
  have Pc0_13 := blk_cell P_13.out 0
  have Pc1_13 := blk_cell P_13.out 1
  have Pc2_13 := blk_cell P_13.out 2
  have Pc3_13 := blk_cell P_13.out 3
  have Pc4_13 := blk_cell P_13.out 4
  have Pc5_13 := blk_cell P_13.out 5
  have Pc6_13 := blk_cell P_13.out 6
  have A_13 := Lib.hid ((b.block _ Az_12).trans A_12.out)
  have Az_13 := Nat.lt_of_lt_of_le Az_12 b.size
  have Ac0_13 := blk_cell A_13.out 0
  have Ac1_13 := blk_cell A_13.out 1
  have Ac2_13 := blk_cell A_13.out 2
  have Ac3_13 := blk_cell A_13.out 3
  have Ac4_13 := blk_cell A_13.out 4
  have Ac5_13 := blk_cell A_13.out 5
  have Ac6_13 := blk_cell A_13.out 6
  have R0_13 := Lib.hid ((b.block _ R0z_12).trans R0_12.out)
  have R0z_13 := Nat.lt_of_lt_of_le R0z_12 b.size
  have R0c0_13 := blk_cell R0_13.out 0
  have R0c1_13 := blk_cell R0_13.out 1
  have R0c2_13 := blk_cell R0_13.out 2
  have R0c3_13 := blk_cell R0_13.out 3
  have R0c4_13 := blk_cell R0_13.out 4
  have R0c5_13 := blk_cell R0_13.out 5
  have R0c6_13 := blk_cell R0_13.out 6
  have R1_13 := Lib.hid ((b.block _ R1z_12).trans R1_12.out)
  have R1z_13 := Nat.lt_of_lt_of_le R1z_12 b.size
  have R1c0_13 := blk_cell R1_13.out 0
  have R1c1_13 := blk_cell R1_13.out 1
  have R1c2_13 := blk_cell R1_13.out 2
  have R1c3_13 := blk_cell R1_13.out 3
  have R1c4_13 := blk_cell R1_13.out 4
  have R1c5_13 := blk_cell R1_13.out 5
  have R1c6_13 := blk_cell R1_13.out 6
  have R2_13 := Lib.hid ((b.block _ R2z_12).trans R2_12.out)
  have R2z_13 := Nat.lt_of_lt_of_le R2z_12 b.size
  have R2c0_13 := blk_cell R2_13.out 0
  have R2c1_13 := blk_cell R2_13.out 1
  have R2c2_13 := blk_cell R2_13.out 2
  have R2c3_13 := blk_cell R2_13.out 3
  have R2c4_13 := blk_cell R2_13.out 4
  have R2c5_13 := blk_cell R2_13.out 5
  have R2c6_13 := blk_cell R2_13.out 6
  have R3_13 := Lib.hid ((b.block _ R3z_12).trans R3_12.out)
  have R3z_13 := Nat.lt_of_lt_of_le R3z_12 b.size
  have R3c0_13 := blk_cell R3_13.out 0
  have R3c1_13 := blk_cell R3_13.out 1
  have R3c2_13 := blk_cell R3_13.out 2
  have R3c3_13 := blk_cell R3_13.out 3
  have R3c4_13 := blk_cell R3_13.out 4
  have R3c5_13 := blk_cell R3_13.out 5
  have R3c6_13 := blk_cell R3_13.out 6
  have R4_13 := Lib.hid ((b.block _ R4z_12).trans R4_12.out)
  have R4z_13 := Nat.lt_of_lt_of_le R4z_12 b.size
  have R4c0_13 := blk_cell R4_13.out 0
  have R4c1_13 := blk_cell R4_13.out 1
  have R4c2_13 := blk_cell R4_13.out 2
  have R4c3_13 := blk_cell R4_13.out 3
  have R4c4_13 := blk_cell R4_13.out 4
  have R4c5_13 := blk_cell R4_13.out 5
  have R4c6_13 := blk_cell R4_13.out 6
  have q_13 := q_12.trans (b.mono q_12.size)
  clear P_12 Pz_12 Pc0_12 Pc1_12 Pc2_12 Pc3_12 Pc4_12 Pc5_12 Pc6_12 A_12 Az_12 Ac0_12 Ac1_12 Ac2_12 Ac3_12 Ac4_12 Ac5_12 Ac6_12 R0_12 R0z_12 R0c0_12 R0c1_12 R0c2_12 R0c3_12 R0c4_12 R0c5_12 R0c6_12 R1_12 R1z_12 R1c0_12 R1c1_12 R1c2_12 R1c3_12 R1c4_12 R1c5_12 R1c6_12 R2_12 R2z_12 R2c0_12 R2c1_12 R2c2_12 R2c3_12 R2c4_12 R2c5_12 R2c6_12 R3_12 R3z_12 R3c0_12 R3c1_12 R3c2_12 R3c3_12 R3c4_12 R3c5_12 R3c6_12 R4_12 R4z_12 R4c0_12 R4c1_12 R4c2_12 R4c3_12 R4c4_12 R4c5_12 R4c6_12 q_12
  clear b
  have R5_13 := Lib.hid nb0
  have R5z_13 := nz0
  clear nb0 nz0
  have R5c0_13 := blk_cell R5_13.out 0
  have R5c1_13 := blk_cell R5_13.out 1
  have R5c2_13 := blk_cell R5_13.out 2
  have R5c3_13 := blk_cell R5_13.out 3
  have R5c4_13 := blk_cell R5_13.out 4
  have R5c5_13 := blk_cell R5_13.out 5
  have R5c6_13 := blk_cell R5_13.out 6
  generalize (V12.alloc (.cells #[.int .i64 yt.c, .int .i64 yt.t, .int .i64 yt.m, .int .i64 yt.u, .int .i64 yt.e, .int .i64 yt.s, .bool yt.h] 33)) = V13 at q_13 P_13 Pz_13 Pc0_13 Pc1_13 Pc2_13 Pc3_13 Pc4_13 Pc5_13 Pc6_13 A_13 Az_13 Ac0_13 Ac1_13 Ac2_13 Ac3_13 Ac4_13 Ac5_13 Ac6_13 R0_13 R0z_13 R0c0_13 R0c1_13 R0c2_13 R0c3_13 R0c4_13 R0c5_13 R0c6_13 R1_13 R1z_13 R1c0_13 R1c1_13 R1c2_13 R1c3_13 R1c4_13 R1c5_13 R1c6_13 R2_13 R2z_13 R2c0_13 R2c1_13 R2c2_13 R2c3_13 R2c4_13 R2c5_13 R2c6_13 R3_13 R3z_13 R3c0_13 R3c1_13 R3c2_13 R3c3_13 R3c4_13 R3c5_13 R3c6_13 R4_13 R4z_13 R4c0_13 R4c1_13 R4c2_13 R4c3_13 R4c4_13 R4c5_13 R4c6_13 R5_13 R5z_13 R5c0_13 R5c1_13 R5c2_13 R5c3_13 R5c4_13 R5c5_13 R5c6_13 ⊢
  refine (pnew m J yn HJ.out.eq Hyn.out.eq _).mono ?_
  rintro e V14 ⟨rfl, b⟩
  have P_14 := Lib.hid ((b.block _ Pz_13).trans P_13.out)
  have Pz_14 := Nat.lt_of_lt_of_le Pz_13 b.size
  have Pc0_14 := blk_cell P_14.out 0
  have Pc1_14 := blk_cell P_14.out 1
  have Pc2_14 := blk_cell P_14.out 2
  have Pc3_14 := blk_cell P_14.out 3
  have Pc4_14 := blk_cell P_14.out 4
  have Pc5_14 := blk_cell P_14.out 5
  have Pc6_14 := blk_cell P_14.out 6
  have A_14 := Lib.hid ((b.block _ Az_13).trans A_13.out)
  have Az_14 := Nat.lt_of_lt_of_le Az_13 b.size
  have Ac0_14 := blk_cell A_14.out 0
  have Ac1_14 := blk_cell A_14.out 1
  have Ac2_14 := blk_cell A_14.out 2
  have Ac3_14 := blk_cell A_14.out 3
  have Ac4_14 := blk_cell A_14.out 4
  have Ac5_14 := blk_cell A_14.out 5
  have Ac6_14 := blk_cell A_14.out 6
  have R0_14 := Lib.hid ((b.block _ R0z_13).trans R0_13.out)
  have R0z_14 := Nat.lt_of_lt_of_le R0z_13 b.size
  have R0c0_14 := blk_cell R0_14.out 0
  have R0c1_14 := blk_cell R0_14.out 1
  have R0c2_14 := blk_cell R0_14.out 2
  have R0c3_14 := blk_cell R0_14.out 3
  have R0c4_14 := blk_cell R0_14.out 4
  have R0c5_14 := blk_cell R0_14.out 5
  have R0c6_14 := blk_cell R0_14.out 6
  have R1_14 := Lib.hid ((b.block _ R1z_13).trans R1_13.out)
  have R1z_14 := Nat.lt_of_lt_of_le R1z_13 b.size
  have R1c0_14 := blk_cell R1_14.out 0
  have R1c1_14 := blk_cell R1_14.out 1
  have R1c2_14 := blk_cell R1_14.out 2
  have R1c3_14 := blk_cell R1_14.out 3
  have R1c4_14 := blk_cell R1_14.out 4
  have R1c5_14 := blk_cell R1_14.out 5
  have R1c6_14 := blk_cell R1_14.out 6
  have R2_14 := Lib.hid ((b.block _ R2z_13).trans R2_13.out)
  have R2z_14 := Nat.lt_of_lt_of_le R2z_13 b.size
  have R2c0_14 := blk_cell R2_14.out 0
  have R2c1_14 := blk_cell R2_14.out 1
  have R2c2_14 := blk_cell R2_14.out 2
  have R2c3_14 := blk_cell R2_14.out 3
  have R2c4_14 := blk_cell R2_14.out 4
  have R2c5_14 := blk_cell R2_14.out 5
  have R2c6_14 := blk_cell R2_14.out 6
  have R3_14 := Lib.hid ((b.block _ R3z_13).trans R3_13.out)
  have R3z_14 := Nat.lt_of_lt_of_le R3z_13 b.size
  have R3c0_14 := blk_cell R3_14.out 0
  have R3c1_14 := blk_cell R3_14.out 1
  have R3c2_14 := blk_cell R3_14.out 2
  have R3c3_14 := blk_cell R3_14.out 3
  have R3c4_14 := blk_cell R3_14.out 4
  have R3c5_14 := blk_cell R3_14.out 5
  have R3c6_14 := blk_cell R3_14.out 6
  have R4_14 := Lib.hid ((b.block _ R4z_13).trans R4_13.out)
  have R4z_14 := Nat.lt_of_lt_of_le R4z_13 b.size
  have R4c0_14 := blk_cell R4_14.out 0
  have R4c1_14 := blk_cell R4_14.out 1
  have R4c2_14 := blk_cell R4_14.out 2
  have R4c3_14 := blk_cell R4_14.out 3
  have R4c4_14 := blk_cell R4_14.out 4
  have R4c5_14 := blk_cell R4_14.out 5
  have R4c6_14 := blk_cell R4_14.out 6
  have R5_14 := Lib.hid ((b.block _ R5z_13).trans R5_13.out)
  have R5z_14 := Nat.lt_of_lt_of_le R5z_13 b.size
  have R5c0_14 := blk_cell R5_14.out 0
  have R5c1_14 := blk_cell R5_14.out 1
  have R5c2_14 := blk_cell R5_14.out 2
  have R5c3_14 := blk_cell R5_14.out 3
  have R5c4_14 := blk_cell R5_14.out 4
  have R5c5_14 := blk_cell R5_14.out 5
  have R5c6_14 := blk_cell R5_14.out 6
  have q_14 := q_13.trans (b.mono q_13.size)
  clear P_13 Pz_13 Pc0_13 Pc1_13 Pc2_13 Pc3_13 Pc4_13 Pc5_13 Pc6_13 A_13 Az_13 Ac0_13 Ac1_13 Ac2_13 Ac3_13 Ac4_13 Ac5_13 Ac6_13 R0_13 R0z_13 R0c0_13 R0c1_13 R0c2_13 R0c3_13 R0c4_13 R0c5_13 R0c6_13 R1_13 R1z_13 R1c0_13 R1c1_13 R1c2_13 R1c3_13 R1c4_13 R1c5_13 R1c6_13 R2_13 R2z_13 R2c0_13 R2c1_13 R2c2_13 R2c3_13 R2c4_13 R2c5_13 R2c6_13 R3_13 R3z_13 R3c0_13 R3c1_13 R3c2_13 R3c3_13 R3c4_13 R3c5_13 R3c6_13 R4_13 R4z_13 R4c0_13 R4c1_13 R4c2_13 R4c3_13 R4c4_13 R4c5_13 R4c6_13 R5_13 R5z_13 R5c0_13 R5c1_13 R5c2_13 R5c3_13 R5c4_13 R5c5_13 R5c6_13 q_13
  clear b
  go_wp2_with fail
  have b : Below V14.heap.size V14 (V14.alloc (.cells #[.int .i64 yn.c, .int .i64 yn.t, .int .i64 yn.m, .int .i64 yn.u, .int .i64 yn.e, .int .i64 yn.s, .bool yn.h] 34)) := ((Below.refl _ V14).alloc (Nat.le_refl _) (.cells #[.int .i64 yn.c, .int .i64 yn.t, .int .i64 yn.m, .int .i64 yn.u, .int .i64 yn.e, .int .i64 yn.s, .bool yn.h] 34))
  have nb0 := blk_new V14 (.cells #[.int .i64 yn.c, .int .i64 yn.t, .int .i64 yn.m, .int .i64 yn.u, .int .i64 yn.e, .int .i64 yn.s, .bool yn.h] 34)
  have nz0 : V14.heap.size < (V14.alloc (.cells #[.int .i64 yn.c, .int .i64 yn.t, .int .i64 yn.m, .int .i64 yn.u, .int .i64 yn.e, .int .i64 yn.s, .bool yn.h] 34)).heap.size := by simp only [World.size_alloc]; omega
  have P_15 := Lib.hid ((b.block _ Pz_14).trans P_14.out)
  have Pz_15 := Nat.lt_of_lt_of_le Pz_14 b.size
  have Pc0_15 := blk_cell P_15.out 0
  have Pc1_15 := blk_cell P_15.out 1
  have Pc2_15 := blk_cell P_15.out 2
  have Pc3_15 := blk_cell P_15.out 3
  have Pc4_15 := blk_cell P_15.out 4
  have Pc5_15 := blk_cell P_15.out 5
  have Pc6_15 := blk_cell P_15.out 6
  have A_15 := Lib.hid ((b.block _ Az_14).trans A_14.out)
  have Az_15 := Nat.lt_of_lt_of_le Az_14 b.size
  have Ac0_15 := blk_cell A_15.out 0
  have Ac1_15 := blk_cell A_15.out 1
  have Ac2_15 := blk_cell A_15.out 2
  have Ac3_15 := blk_cell A_15.out 3
  have Ac4_15 := blk_cell A_15.out 4
  have Ac5_15 := blk_cell A_15.out 5
  have Ac6_15 := blk_cell A_15.out 6
  have R0_15 := Lib.hid ((b.block _ R0z_14).trans R0_14.out)
  have R0z_15 := Nat.lt_of_lt_of_le R0z_14 b.size
  have R0c0_15 := blk_cell R0_15.out 0
  have R0c1_15 := blk_cell R0_15.out 1
  have R0c2_15 := blk_cell R0_15.out 2
  have R0c3_15 := blk_cell R0_15.out 3
  have R0c4_15 := blk_cell R0_15.out 4
  have R0c5_15 := blk_cell R0_15.out 5
  have R0c6_15 := blk_cell R0_15.out 6
  have R1_15 := Lib.hid ((b.block _ R1z_14).trans R1_14.out)
  have R1z_15 := Nat.lt_of_lt_of_le R1z_14 b.size
  have R1c0_15 := blk_cell R1_15.out 0
  have R1c1_15 := blk_cell R1_15.out 1
  have R1c2_15 := blk_cell R1_15.out 2
  have R1c3_15 := blk_cell R1_15.out 3
  have R1c4_15 := blk_cell R1_15.out 4
  have R1c5_15 := blk_cell R1_15.out 5
  have R1c6_15 := blk_cell R1_15.out 6
  have R2_15 := Lib.hid ((b.block _ R2z_14).trans R2_14.out)
  have R2z_15 := Nat.lt_of_lt_of_le R2z_14 b.size
  have R2c0_15 := blk_cell R2_15.out 0
  have R2c1_15 := blk_cell R2_15.out 1
  have R2c2_15 := blk_cell R2_15.out 2
  have R2c3_15 := blk_cell R2_15.out 3
  have R2c4_15 := blk_cell R2_15.out 4
  have R2c5_15 := blk_cell R2_15.out 5
  have R2c6_15 := blk_cell R2_15.out 6
  have R3_15 := Lib.hid ((b.block _ R3z_14).trans R3_14.out)
  have R3z_15 := Nat.lt_of_lt_of_le R3z_14 b.size
  have R3c0_15 := blk_cell R3_15.out 0
  have R3c1_15 := blk_cell R3_15.out 1
  have R3c2_15 := blk_cell R3_15.out 2
  have R3c3_15 := blk_cell R3_15.out 3
  have R3c4_15 := blk_cell R3_15.out 4
  have R3c5_15 := blk_cell R3_15.out 5
  have R3c6_15 := blk_cell R3_15.out 6
  have R4_15 := Lib.hid ((b.block _ R4z_14).trans R4_14.out)
  have R4z_15 := Nat.lt_of_lt_of_le R4z_14 b.size
  have R4c0_15 := blk_cell R4_15.out 0
  have R4c1_15 := blk_cell R4_15.out 1
  have R4c2_15 := blk_cell R4_15.out 2
  have R4c3_15 := blk_cell R4_15.out 3
  have R4c4_15 := blk_cell R4_15.out 4
  have R4c5_15 := blk_cell R4_15.out 5
  have R4c6_15 := blk_cell R4_15.out 6
  have R5_15 := Lib.hid ((b.block _ R5z_14).trans R5_14.out)
  have R5z_15 := Nat.lt_of_lt_of_le R5z_14 b.size
  have R5c0_15 := blk_cell R5_15.out 0
  have R5c1_15 := blk_cell R5_15.out 1
  have R5c2_15 := blk_cell R5_15.out 2
  have R5c3_15 := blk_cell R5_15.out 3
  have R5c4_15 := blk_cell R5_15.out 4
  have R5c5_15 := blk_cell R5_15.out 5
  have R5c6_15 := blk_cell R5_15.out 6
  have q_15 := q_14.trans (b.mono q_14.size)
  clear P_14 Pz_14 Pc0_14 Pc1_14 Pc2_14 Pc3_14 Pc4_14 Pc5_14 Pc6_14 A_14 Az_14 Ac0_14 Ac1_14 Ac2_14 Ac3_14 Ac4_14 Ac5_14 Ac6_14 R0_14 R0z_14 R0c0_14 R0c1_14 R0c2_14 R0c3_14 R0c4_14 R0c5_14 R0c6_14 R1_14 R1z_14 R1c0_14 R1c1_14 R1c2_14 R1c3_14 R1c4_14 R1c5_14 R1c6_14 R2_14 R2z_14 R2c0_14 R2c1_14 R2c2_14 R2c3_14 R2c4_14 R2c5_14 R2c6_14 R3_14 R3z_14 R3c0_14 R3c1_14 R3c2_14 R3c3_14 R3c4_14 R3c5_14 R3c6_14 R4_14 R4z_14 R4c0_14 R4c1_14 R4c2_14 R4c3_14 R4c4_14 R4c5_14 R4c6_14 R5_14 R5z_14 R5c0_14 R5c1_14 R5c2_14 R5c3_14 R5c4_14 R5c5_14 R5c6_14 q_14
  clear b
  have R6_15 := Lib.hid nb0
  have R6z_15 := nz0
  clear nb0 nz0
  have R6c0_15 := blk_cell R6_15.out 0
  have R6c1_15 := blk_cell R6_15.out 1
  have R6c2_15 := blk_cell R6_15.out 2
  have R6c3_15 := blk_cell R6_15.out 3
  have R6c4_15 := blk_cell R6_15.out 4
  have R6c5_15 := blk_cell R6_15.out 5
  have R6c6_15 := blk_cell R6_15.out 6
  generalize (V14.alloc (.cells #[.int .i64 yn.c, .int .i64 yn.t, .int .i64 yn.m, .int .i64 yn.u, .int .i64 yn.e, .int .i64 yn.s, .bool yn.h] 34)) = V15 at q_15 P_15 Pz_15 Pc0_15 Pc1_15 Pc2_15 Pc3_15 Pc4_15 Pc5_15 Pc6_15 A_15 Az_15 Ac0_15 Ac1_15 Ac2_15 Ac3_15 Ac4_15 Ac5_15 Ac6_15 R0_15 R0z_15 R0c0_15 R0c1_15 R0c2_15 R0c3_15 R0c4_15 R0c5_15 R0c6_15 R1_15 R1z_15 R1c0_15 R1c1_15 R1c2_15 R1c3_15 R1c4_15 R1c5_15 R1c6_15 R2_15 R2z_15 R2c0_15 R2c1_15 R2c2_15 R2c3_15 R2c4_15 R2c5_15 R2c6_15 R3_15 R3z_15 R3c0_15 R3c1_15 R3c2_15 R3c3_15 R3c4_15 R3c5_15 R3c6_15 R4_15 R4z_15 R4c0_15 R4c1_15 R4c2_15 R4c3_15 R4c4_15 R4c5_15 R4c6_15 R5_15 R5z_15 R5c0_15 R5c1_15 R5c2_15 R5c3_15 R5c4_15 R5c5_15 R5c6_15 R6_15 R6z_15 R6c0_15 R6c1_15 R6c2_15 R6c3_15 R6c4_15 R6c5_15 R6c6_15 ⊢
  refine (dnew m J yn HJ.out.eq Hyn.out.eq _).mono ?_
  rintro e V16 ⟨rfl, b⟩
  have P_16 := Lib.hid ((b.block _ Pz_15).trans P_15.out)
  have Pz_16 := Nat.lt_of_lt_of_le Pz_15 b.size
  have Pc0_16 := blk_cell P_16.out 0
  have Pc1_16 := blk_cell P_16.out 1
  have Pc2_16 := blk_cell P_16.out 2
  have Pc3_16 := blk_cell P_16.out 3
  have Pc4_16 := blk_cell P_16.out 4
  have Pc5_16 := blk_cell P_16.out 5
  have Pc6_16 := blk_cell P_16.out 6
  have A_16 := Lib.hid ((b.block _ Az_15).trans A_15.out)
  have Az_16 := Nat.lt_of_lt_of_le Az_15 b.size
  have Ac0_16 := blk_cell A_16.out 0
  have Ac1_16 := blk_cell A_16.out 1
  have Ac2_16 := blk_cell A_16.out 2
  have Ac3_16 := blk_cell A_16.out 3
  have Ac4_16 := blk_cell A_16.out 4
  have Ac5_16 := blk_cell A_16.out 5
  have Ac6_16 := blk_cell A_16.out 6
  have R0_16 := Lib.hid ((b.block _ R0z_15).trans R0_15.out)
  have R0z_16 := Nat.lt_of_lt_of_le R0z_15 b.size
  have R0c0_16 := blk_cell R0_16.out 0
  have R0c1_16 := blk_cell R0_16.out 1
  have R0c2_16 := blk_cell R0_16.out 2
  have R0c3_16 := blk_cell R0_16.out 3
  have R0c4_16 := blk_cell R0_16.out 4
  have R0c5_16 := blk_cell R0_16.out 5
  have R0c6_16 := blk_cell R0_16.out 6
  have R1_16 := Lib.hid ((b.block _ R1z_15).trans R1_15.out)
  have R1z_16 := Nat.lt_of_lt_of_le R1z_15 b.size
  have R1c0_16 := blk_cell R1_16.out 0
  have R1c1_16 := blk_cell R1_16.out 1
  have R1c2_16 := blk_cell R1_16.out 2
  have R1c3_16 := blk_cell R1_16.out 3
  have R1c4_16 := blk_cell R1_16.out 4
  have R1c5_16 := blk_cell R1_16.out 5
  have R1c6_16 := blk_cell R1_16.out 6
  have R2_16 := Lib.hid ((b.block _ R2z_15).trans R2_15.out)
  have R2z_16 := Nat.lt_of_lt_of_le R2z_15 b.size
  have R2c0_16 := blk_cell R2_16.out 0
  have R2c1_16 := blk_cell R2_16.out 1
  have R2c2_16 := blk_cell R2_16.out 2
  have R2c3_16 := blk_cell R2_16.out 3
  have R2c4_16 := blk_cell R2_16.out 4
  have R2c5_16 := blk_cell R2_16.out 5
  have R2c6_16 := blk_cell R2_16.out 6
  have R3_16 := Lib.hid ((b.block _ R3z_15).trans R3_15.out)
  have R3z_16 := Nat.lt_of_lt_of_le R3z_15 b.size
  have R3c0_16 := blk_cell R3_16.out 0
  have R3c1_16 := blk_cell R3_16.out 1
  have R3c2_16 := blk_cell R3_16.out 2
  have R3c3_16 := blk_cell R3_16.out 3
  have R3c4_16 := blk_cell R3_16.out 4
  have R3c5_16 := blk_cell R3_16.out 5
  have R3c6_16 := blk_cell R3_16.out 6
  have R4_16 := Lib.hid ((b.block _ R4z_15).trans R4_15.out)
  have R4z_16 := Nat.lt_of_lt_of_le R4z_15 b.size
  have R4c0_16 := blk_cell R4_16.out 0
  have R4c1_16 := blk_cell R4_16.out 1
  have R4c2_16 := blk_cell R4_16.out 2
  have R4c3_16 := blk_cell R4_16.out 3
  have R4c4_16 := blk_cell R4_16.out 4
  have R4c5_16 := blk_cell R4_16.out 5
  have R4c6_16 := blk_cell R4_16.out 6
  have R5_16 := Lib.hid ((b.block _ R5z_15).trans R5_15.out)
  have R5z_16 := Nat.lt_of_lt_of_le R5z_15 b.size
  have R5c0_16 := blk_cell R5_16.out 0
  have R5c1_16 := blk_cell R5_16.out 1
  have R5c2_16 := blk_cell R5_16.out 2
  have R5c3_16 := blk_cell R5_16.out 3
  have R5c4_16 := blk_cell R5_16.out 4
  have R5c5_16 := blk_cell R5_16.out 5
  have R5c6_16 := blk_cell R5_16.out 6
  have R6_16 := Lib.hid ((b.block _ R6z_15).trans R6_15.out)
  have R6z_16 := Nat.lt_of_lt_of_le R6z_15 b.size
  have R6c0_16 := blk_cell R6_16.out 0
  have R6c1_16 := blk_cell R6_16.out 1
  have R6c2_16 := blk_cell R6_16.out 2
  have R6c3_16 := blk_cell R6_16.out 3
  have R6c4_16 := blk_cell R6_16.out 4
  have R6c5_16 := blk_cell R6_16.out 5
  have R6c6_16 := blk_cell R6_16.out 6
  have q_16 := q_15.trans (b.mono q_15.size)
  clear P_15 Pz_15 Pc0_15 Pc1_15 Pc2_15 Pc3_15 Pc4_15 Pc5_15 Pc6_15 A_15 Az_15 Ac0_15 Ac1_15 Ac2_15 Ac3_15 Ac4_15 Ac5_15 Ac6_15 R0_15 R0z_15 R0c0_15 R0c1_15 R0c2_15 R0c3_15 R0c4_15 R0c5_15 R0c6_15 R1_15 R1z_15 R1c0_15 R1c1_15 R1c2_15 R1c3_15 R1c4_15 R1c5_15 R1c6_15 R2_15 R2z_15 R2c0_15 R2c1_15 R2c2_15 R2c3_15 R2c4_15 R2c5_15 R2c6_15 R3_15 R3z_15 R3c0_15 R3c1_15 R3c2_15 R3c3_15 R3c4_15 R3c5_15 R3c6_15 R4_15 R4z_15 R4c0_15 R4c1_15 R4c2_15 R4c3_15 R4c4_15 R4c5_15 R4c6_15 R5_15 R5z_15 R5c0_15 R5c1_15 R5c2_15 R5c3_15 R5c4_15 R5c5_15 R5c6_15 R6_15 R6z_15 R6c0_15 R6c1_15 R6c2_15 R6c3_15 R6c4_15 R6c5_15 R6c6_15 q_15
  clear b
  go_wp2_with fail
  have b : Below V16.heap.size V16 (V16.alloc (.cells #[.int .i64 yn.c, .int .i64 yn.t, .int .i64 yn.m, .int .i64 yn.u, .int .i64 yn.e, .int .i64 yn.s, .bool yn.h] 33)) := ((Below.refl _ V16).alloc (Nat.le_refl _) (.cells #[.int .i64 yn.c, .int .i64 yn.t, .int .i64 yn.m, .int .i64 yn.u, .int .i64 yn.e, .int .i64 yn.s, .bool yn.h] 33))
  have nb0 := blk_new V16 (.cells #[.int .i64 yn.c, .int .i64 yn.t, .int .i64 yn.m, .int .i64 yn.u, .int .i64 yn.e, .int .i64 yn.s, .bool yn.h] 33)
  have nz0 : V16.heap.size < (V16.alloc (.cells #[.int .i64 yn.c, .int .i64 yn.t, .int .i64 yn.m, .int .i64 yn.u, .int .i64 yn.e, .int .i64 yn.s, .bool yn.h] 33)).heap.size := by simp only [World.size_alloc]; omega
  have P_17 := Lib.hid ((b.block _ Pz_16).trans P_16.out)
  have Pz_17 := Nat.lt_of_lt_of_le Pz_16 b.size
  have Pc0_17 := blk_cell P_17.out 0
  have Pc1_17 := blk_cell P_17.out 1
  have Pc2_17 := blk_cell P_17.out 2
  have Pc3_17 := blk_cell P_17.out 3
  have Pc4_17 := blk_cell P_17.out 4
  have Pc5_17 := blk_cell P_17.out 5
  have Pc6_17 := blk_cell P_17.out 6
  have A_17 := Lib.hid ((b.block _ Az_16).trans A_16.out)
  have Az_17 := Nat.lt_of_lt_of_le Az_16 b.size
  have Ac0_17 := blk_cell A_17.out 0
  have Ac1_17 := blk_cell A_17.out 1
  have Ac2_17 := blk_cell A_17.out 2
  have Ac3_17 := blk_cell A_17.out 3
  have Ac4_17 := blk_cell A_17.out 4
  have Ac5_17 := blk_cell A_17.out 5
  have Ac6_17 := blk_cell A_17.out 6
  have R0_17 := Lib.hid ((b.block _ R0z_16).trans R0_16.out)
  have R0z_17 := Nat.lt_of_lt_of_le R0z_16 b.size
  have R0c0_17 := blk_cell R0_17.out 0
  have R0c1_17 := blk_cell R0_17.out 1
  have R0c2_17 := blk_cell R0_17.out 2
  have R0c3_17 := blk_cell R0_17.out 3
  have R0c4_17 := blk_cell R0_17.out 4
  have R0c5_17 := blk_cell R0_17.out 5
  have R0c6_17 := blk_cell R0_17.out 6
  have R1_17 := Lib.hid ((b.block _ R1z_16).trans R1_16.out)
  have R1z_17 := Nat.lt_of_lt_of_le R1z_16 b.size
  have R1c0_17 := blk_cell R1_17.out 0
  have R1c1_17 := blk_cell R1_17.out 1
  have R1c2_17 := blk_cell R1_17.out 2
  have R1c3_17 := blk_cell R1_17.out 3
  have R1c4_17 := blk_cell R1_17.out 4
  have R1c5_17 := blk_cell R1_17.out 5
  have R1c6_17 := blk_cell R1_17.out 6
  have R2_17 := Lib.hid ((b.block _ R2z_16).trans R2_16.out)
  have R2z_17 := Nat.lt_of_lt_of_le R2z_16 b.size
  have R2c0_17 := blk_cell R2_17.out 0
  have R2c1_17 := blk_cell R2_17.out 1
  have R2c2_17 := blk_cell R2_17.out 2
  have R2c3_17 := blk_cell R2_17.out 3
  have R2c4_17 := blk_cell R2_17.out 4
  have R2c5_17 := blk_cell R2_17.out 5
  have R2c6_17 := blk_cell R2_17.out 6
  have R3_17 := Lib.hid ((b.block _ R3z_16).trans R3_16.out)
  have R3z_17 := Nat.lt_of_lt_of_le R3z_16 b.size
  have R3c0_17 := blk_cell R3_17.out 0
  have R3c1_17 := blk_cell R3_17.out 1
  have R3c2_17 := blk_cell R3_17.out 2
  have R3c3_17 := blk_cell R3_17.out 3
  have R3c4_17 := blk_cell R3_17.out 4
  have R3c5_17 := blk_cell R3_17.out 5
  have R3c6_17 := blk_cell R3_17.out 6
  have R4_17 := Lib.hid ((b.block _ R4z_16).trans R4_16.out)
  have R4z_17 := Nat.lt_of_lt_of_le R4z_16 b.size
  have R4c0_17 := blk_cell R4_17.out 0
  have R4c1_17 := blk_cell R4_17.out 1
  have R4c2_17 := blk_cell R4_17.out 2
  have R4c3_17 := blk_cell R4_17.out 3
  have R4c4_17 := blk_cell R4_17.out 4
  have R4c5_17 := blk_cell R4_17.out 5
  have R4c6_17 := blk_cell R4_17.out 6
  have R5_17 := Lib.hid ((b.block _ R5z_16).trans R5_16.out)
  have R5z_17 := Nat.lt_of_lt_of_le R5z_16 b.size
  have R5c0_17 := blk_cell R5_17.out 0
  have R5c1_17 := blk_cell R5_17.out 1
  have R5c2_17 := blk_cell R5_17.out 2
  have R5c3_17 := blk_cell R5_17.out 3
  have R5c4_17 := blk_cell R5_17.out 4
  have R5c5_17 := blk_cell R5_17.out 5
  have R5c6_17 := blk_cell R5_17.out 6
  have R6_17 := Lib.hid ((b.block _ R6z_16).trans R6_16.out)
  have R6z_17 := Nat.lt_of_lt_of_le R6z_16 b.size
  have R6c0_17 := blk_cell R6_17.out 0
  have R6c1_17 := blk_cell R6_17.out 1
  have R6c2_17 := blk_cell R6_17.out 2
  have R6c3_17 := blk_cell R6_17.out 3
  have R6c4_17 := blk_cell R6_17.out 4
  have R6c5_17 := blk_cell R6_17.out 5
  have R6c6_17 := blk_cell R6_17.out 6
  have q_17 := q_16.trans (b.mono q_16.size)
  clear P_16 Pz_16 Pc0_16 Pc1_16 Pc2_16 Pc3_16 Pc4_16 Pc5_16 Pc6_16 A_16 Az_16 Ac0_16 Ac1_16 Ac2_16 Ac3_16 Ac4_16 Ac5_16 Ac6_16 R0_16 R0z_16 R0c0_16 R0c1_16 R0c2_16 R0c3_16 R0c4_16 R0c5_16 R0c6_16 R1_16 R1z_16 R1c0_16 R1c1_16 R1c2_16 R1c3_16 R1c4_16 R1c5_16 R1c6_16 R2_16 R2z_16 R2c0_16 R2c1_16 R2c2_16 R2c3_16 R2c4_16 R2c5_16 R2c6_16 R3_16 R3z_16 R3c0_16 R3c1_16 R3c2_16 R3c3_16 R3c4_16 R3c5_16 R3c6_16 R4_16 R4z_16 R4c0_16 R4c1_16 R4c2_16 R4c3_16 R4c4_16 R4c5_16 R4c6_16 R5_16 R5z_16 R5c0_16 R5c1_16 R5c2_16 R5c3_16 R5c4_16 R5c5_16 R5c6_16 R6_16 R6z_16 R6c0_16 R6c1_16 R6c2_16 R6c3_16 R6c4_16 R6c5_16 R6c6_16 q_16
  clear b
  have R7_17 := Lib.hid nb0
  have R7z_17 := nz0
  clear nb0 nz0
  have R7c0_17 := blk_cell R7_17.out 0
  have R7c1_17 := blk_cell R7_17.out 1
  have R7c2_17 := blk_cell R7_17.out 2
  have R7c3_17 := blk_cell R7_17.out 3
  have R7c4_17 := blk_cell R7_17.out 4
  have R7c5_17 := blk_cell R7_17.out 5
  have R7c6_17 := blk_cell R7_17.out 6
  generalize (V16.alloc (.cells #[.int .i64 yn.c, .int .i64 yn.t, .int .i64 yn.m, .int .i64 yn.u, .int .i64 yn.e, .int .i64 yn.s, .bool yn.h] 33)) = V17 at q_17 P_17 Pz_17 Pc0_17 Pc1_17 Pc2_17 Pc3_17 Pc4_17 Pc5_17 Pc6_17 A_17 Az_17 Ac0_17 Ac1_17 Ac2_17 Ac3_17 Ac4_17 Ac5_17 Ac6_17 R0_17 R0z_17 R0c0_17 R0c1_17 R0c2_17 R0c3_17 R0c4_17 R0c5_17 R0c6_17 R1_17 R1z_17 R1c0_17 R1c1_17 R1c2_17 R1c3_17 R1c4_17 R1c5_17 R1c6_17 R2_17 R2z_17 R2c0_17 R2c1_17 R2c2_17 R2c3_17 R2c4_17 R2c5_17 R2c6_17 R3_17 R3z_17 R3c0_17 R3c1_17 R3c2_17 R3c3_17 R3c4_17 R3c5_17 R3c6_17 R4_17 R4z_17 R4c0_17 R4c1_17 R4c2_17 R4c3_17 R4c4_17 R4c5_17 R4c6_17 R5_17 R5z_17 R5c0_17 R5c1_17 R5c2_17 R5c3_17 R5c4_17 R5c5_17 R5c6_17 R6_17 R6z_17 R6c0_17 R6c1_17 R6c2_17 R6c3_17 R6c4_17 R6c5_17 R6c6_17 R7_17 R7z_17 R7c0_17 R7c1_17 R7c2_17 R7c3_17 R7c4_17 R7c5_17 R7c6_17 ⊢
  refine (num_any _ _).mono ?_
  rintro e w' ⟨rfl, rfl⟩
  go_wp2_with fail
  refine (num_any _ _).mono ?_
  rintro e w' ⟨rfl, rfl⟩
  go_wp2_with fail
  refine (num_any _ _).mono ?_
  rintro e w' ⟨rfl, rfl⟩
  clear R0c0_17 R0c1_17 R0c2_17 R0c3_17 R0c4_17 R0c5_17 R0c6_17
  clear R1c0_17 R1c1_17 R1c2_17 R1c3_17 R1c4_17 R1c5_17 R1c6_17
  clear R2c0_17 R2c1_17 R2c2_17 R2c3_17 R2c4_17 R2c5_17 R2c6_17
  clear R3c0_17 R3c1_17 R3c2_17 R3c3_17 R3c4_17 R3c5_17 R3c6_17
  clear R4c0_17 R4c1_17 R4c2_17 R4c3_17 R4c4_17 R4c5_17 R4c6_17
  clear R5c0_17 R5c1_17 R5c2_17 R5c3_17 R5c4_17 R5c5_17 R5c6_17
  go_wp2_with fail
  clear Pc0_17 Pc1_17 Pc2_17 Pc3_17 Pc4_17 Pc5_17 Pc6_17
  clear Ac0_17 Ac1_17 Ac2_17 Ac3_17 Ac4_17 Ac5_17 Ac6_17
  clear R6c0_17 R6c1_17 R6c2_17 R6c3_17 R6c4_17 R6c5_17 R6c6_17
  clear R7c0_17 R7c1_17 R7c2_17 R7c3_17 R7c4_17 R7c5_17 R7c6_17
  have P_18 := Lib.hid ((((Below.refl V17.heap.size V17).drew).block _ Pz_17).trans P_17.out)
  have Pz_18 := Nat.lt_of_lt_of_le Pz_17 ((Below.refl V17.heap.size V17).drew).size
  have A_18 := Lib.hid ((((Below.refl V17.heap.size V17).drew).block _ Az_17).trans A_17.out)
  have Az_18 := Nat.lt_of_lt_of_le Az_17 ((Below.refl V17.heap.size V17).drew).size
  have R0_18 := Lib.hid ((((Below.refl V17.heap.size V17).drew).block _ R0z_17).trans R0_17.out)
  have R0z_18 := Nat.lt_of_lt_of_le R0z_17 ((Below.refl V17.heap.size V17).drew).size
  have R1_18 := Lib.hid ((((Below.refl V17.heap.size V17).drew).block _ R1z_17).trans R1_17.out)
  have R1z_18 := Nat.lt_of_lt_of_le R1z_17 ((Below.refl V17.heap.size V17).drew).size
  have R2_18 := Lib.hid ((((Below.refl V17.heap.size V17).drew).block _ R2z_17).trans R2_17.out)
  have R2z_18 := Nat.lt_of_lt_of_le R2z_17 ((Below.refl V17.heap.size V17).drew).size
  have R3_18 := Lib.hid ((((Below.refl V17.heap.size V17).drew).block _ R3z_17).trans R3_17.out)
  have R3z_18 := Nat.lt_of_lt_of_le R3z_17 ((Below.refl V17.heap.size V17).drew).size
  have R4_18 := Lib.hid ((((Below.refl V17.heap.size V17).drew).block _ R4z_17).trans R4_17.out)
  have R4z_18 := Nat.lt_of_lt_of_le R4z_17 ((Below.refl V17.heap.size V17).drew).size
  have R5_18 := Lib.hid ((((Below.refl V17.heap.size V17).drew).block _ R5z_17).trans R5_17.out)
  have R5z_18 := Nat.lt_of_lt_of_le R5z_17 ((Below.refl V17.heap.size V17).drew).size
  have R6_18 := Lib.hid ((((Below.refl V17.heap.size V17).drew).block _ R6z_17).trans R6_17.out)
  have R6z_18 := Nat.lt_of_lt_of_le R6z_17 ((Below.refl V17.heap.size V17).drew).size
  have R7_18 := Lib.hid ((((Below.refl V17.heap.size V17).drew).block _ R7z_17).trans R7_17.out)
  have R7z_18 := Nat.lt_of_lt_of_le R7z_17 ((Below.refl V17.heap.size V17).drew).size
  have q_18 := q_17.trans (((Below.refl V17.heap.size V17).drew).mono q_17.size)
  clear P_17 Pz_17 A_17 Az_17 R0_17 R0z_17 R1_17 R1z_17 R2_17 R2z_17 R3_17 R3z_17 R4_17 R4z_17 R5_17 R5z_17 R6_17 R6z_17 R7_17 R7z_17 q_17
  have SS_18 : Hid (V17.drew.cell? ⟨V14.heap.size, 0, none⟩ = some (.int .i64 yn.c) ∧ V17.drew.cell? ⟨V14.heap.size, 1, none⟩ = some (.int .i64 yn.t) ∧ V17.drew.cell? ⟨V14.heap.size, 2, none⟩ = some (.int .i64 yn.m) ∧ V17.drew.cell? ⟨V14.heap.size, 3, none⟩ = some (.int .i64 yn.u) ∧ V17.drew.cell? ⟨V14.heap.size, 4, none⟩ = some (.int .i64 yn.e) ∧ V17.drew.cell? ⟨V14.heap.size, 5, none⟩ = some (.int .i64 yn.s) ∧ V17.drew.cell? ⟨V14.heap.size, 6, none⟩ = some (.bool yn.h) ∧ V17.drew.cell? ⟨V16.heap.size, 0, none⟩ = some (.int .i64 yn.c) ∧ V17.drew.cell? ⟨V16.heap.size, 1, none⟩ = some (.int .i64 yn.t) ∧ V17.drew.cell? ⟨V16.heap.size, 2, none⟩ = some (.int .i64 yn.m) ∧ V17.drew.cell? ⟨V16.heap.size, 3, none⟩ = some (.int .i64 yn.u) ∧ V17.drew.cell? ⟨V16.heap.size, 4, none⟩ = some (.int .i64 yn.e) ∧ V17.drew.cell? ⟨V16.heap.size, 5, none⟩ = some (.int .i64 yn.s) ∧ V17.drew.cell? ⟨V16.heap.size, 6, none⟩ = some (.bool yn.h) ∧ V17.drew.cell? ⟨w.heap.size + 1, 0, none⟩ = some (.int .i64 x.c) ∧ V17.drew.cell? ⟨w.heap.size + 1, 1, none⟩ = some (.int .i64 x.t) ∧ V17.drew.cell? ⟨w.heap.size + 1, 2, none⟩ = some (.int .i64 x.m) ∧ V17.drew.cell? ⟨w.heap.size + 1, 3, none⟩ = some (.int .i64 x.u) ∧ V17.drew.cell? ⟨w.heap.size + 1, 4, none⟩ = some (.int .i64 x.e) ∧ V17.drew.cell? ⟨w.heap.size + 1, 5, none⟩ = some (.int .i64 x.s) ∧ V17.drew.cell? ⟨w.heap.size + 1, 6, none⟩ = some (.bool x.h) ∧ V17.drew.cell? ⟨w.heap.size, 0, none⟩ = some (.int .i64 x.c) ∧ V17.drew.cell? ⟨w.heap.size, 1, none⟩ = some (.int .i64 x.t) ∧ V17.drew.cell? ⟨w.heap.size, 2, none⟩ = some (.int .i64 x.m) ∧ V17.drew.cell? ⟨w.heap.size, 3, none⟩ = some (.int .i64 x.u) ∧ V17.drew.cell? ⟨w.heap.size, 4, none⟩ = some (.int .i64 x.e) ∧ V17.drew.cell? ⟨w.heap.size, 5, none⟩ = some (.int .i64 x.s) ∧ V17.drew.cell? ⟨w.heap.size, 6, none⟩ = some (.bool x.h)) := Lib.hid ⟨blk_cell R6_18.out 0, blk_cell R6_18.out 1, blk_cell R6_18.out 2, blk_cell R6_18.out 3, blk_cell R6_18.out 4, blk_cell R6_18.out 5, blk_cell R6_18.out 6, blk_cell R7_18.out 0, blk_cell R7_18.out 1, blk_cell R7_18.out 2, blk_cell R7_18.out 3, blk_cell R7_18.out 4, blk_cell R7_18.out 5, blk_cell R7_18.out 6, blk_cell A_18.out 0, blk_cell A_18.out 1, blk_cell A_18.out 2, blk_cell A_18.out 3, blk_cell A_18.out 4, blk_cell A_18.out 5, blk_cell A_18.out 6, blk_cell P_18.out 0, blk_cell P_18.out 1, blk_cell P_18.out 2, blk_cell P_18.out 3, blk_cell P_18.out 4, blk_cell P_18.out 5, blk_cell P_18.out 6⟩
  go_region_held3 (fun W' => W'.cell? ⟨V14.heap.size, 0, none⟩ = some (.int .i64 yn.c) ∧ W'.cell? ⟨V14.heap.size, 1, none⟩ = some (.int .i64 yn.t) ∧ W'.cell? ⟨V14.heap.size, 2, none⟩ = some (.int .i64 yn.m) ∧ W'.cell? ⟨V14.heap.size, 3, none⟩ = some (.int .i64 yn.u) ∧ W'.cell? ⟨V14.heap.size, 4, none⟩ = some (.int .i64 yn.e) ∧ W'.cell? ⟨V14.heap.size, 5, none⟩ = some (.int .i64 yn.s) ∧ W'.cell? ⟨V14.heap.size, 6, none⟩ = some (.bool yn.h) ∧ W'.cell? ⟨V16.heap.size, 0, none⟩ = some (.int .i64 yn.c) ∧ W'.cell? ⟨V16.heap.size, 1, none⟩ = some (.int .i64 yn.t) ∧ W'.cell? ⟨V16.heap.size, 2, none⟩ = some (.int .i64 yn.m) ∧ W'.cell? ⟨V16.heap.size, 3, none⟩ = some (.int .i64 yn.u) ∧ W'.cell? ⟨V16.heap.size, 4, none⟩ = some (.int .i64 yn.e) ∧ W'.cell? ⟨V16.heap.size, 5, none⟩ = some (.int .i64 yn.s) ∧ W'.cell? ⟨V16.heap.size, 6, none⟩ = some (.bool yn.h) ∧ W'.cell? ⟨w.heap.size + 1, 0, none⟩ = some (.int .i64 x.c) ∧ W'.cell? ⟨w.heap.size + 1, 1, none⟩ = some (.int .i64 x.t) ∧ W'.cell? ⟨w.heap.size + 1, 2, none⟩ = some (.int .i64 x.m) ∧ W'.cell? ⟨w.heap.size + 1, 3, none⟩ = some (.int .i64 x.u) ∧ W'.cell? ⟨w.heap.size + 1, 4, none⟩ = some (.int .i64 x.e) ∧ W'.cell? ⟨w.heap.size + 1, 5, none⟩ = some (.int .i64 x.s) ∧ W'.cell? ⟨w.heap.size + 1, 6, none⟩ = some (.bool x.h) ∧ W'.cell? ⟨w.heap.size, 0, none⟩ = some (.int .i64 x.c) ∧ W'.cell? ⟨w.heap.size, 1, none⟩ = some (.int .i64 x.t) ∧ W'.cell? ⟨w.heap.size, 2, none⟩ = some (.int .i64 x.m) ∧ W'.cell? ⟨w.heap.size, 3, none⟩ = some (.int .i64 x.u) ∧ W'.cell? ⟨w.heap.size, 4, none⟩ = some (.int .i64 x.e) ∧ W'.cell? ⟨w.heap.size, 5, none⟩ = some (.int .i64 x.s) ∧ W'.cell? ⟨w.heap.size, 6, none⟩ = some (.bool x.h)) (first | (with_reducible exact SS_21.out) | (with_reducible exact SS_20.out) | (with_reducible exact SS_19.out) | (with_reducible exact SS_18.out) | go_keep) (first
    | (go_at_call 13; refine (num_any _ _).mono ?_; rintro e w' ⟨rfl, rfl⟩)
    | (go_at_call 23; (with_reducible refine (check_l x m G HG.out.eq _).mono ?_); rintro e V18 ⟨rfl, b⟩; have P_19 := Lib.hid ((b.block _ Pz_18).trans P_18.out); have Pz_19 := Nat.lt_of_lt_of_le Pz_18 b.size; have A_19 := Lib.hid ((b.block _ Az_18).trans A_18.out); have Az_19 := Nat.lt_of_lt_of_le Az_18 b.size; have R0_19 := Lib.hid ((b.block _ R0z_18).trans R0_18.out); have R0z_19 := Nat.lt_of_lt_of_le R0z_18 b.size; have R1_19 := Lib.hid ((b.block _ R1z_18).trans R1_18.out); have R1z_19 := Nat.lt_of_lt_of_le R1z_18 b.size; have R2_19 := Lib.hid ((b.block _ R2z_18).trans R2_18.out); have R2z_19 := Nat.lt_of_lt_of_le R2z_18 b.size; have R3_19 := Lib.hid ((b.block _ R3z_18).trans R3_18.out); have R3z_19 := Nat.lt_of_lt_of_le R3z_18 b.size; have R4_19 := Lib.hid ((b.block _ R4z_18).trans R4_18.out); have R4z_19 := Nat.lt_of_lt_of_le R4z_18 b.size; have R5_19 := Lib.hid ((b.block _ R5z_18).trans R5_18.out); have R5z_19 := Nat.lt_of_lt_of_le R5z_18 b.size; have R6_19 := Lib.hid ((b.block _ R6z_18).trans R6_18.out); have R6z_19 := Nat.lt_of_lt_of_le R6z_18 b.size; have R7_19 := Lib.hid ((b.block _ R7z_18).trans R7_18.out); have R7z_19 := Nat.lt_of_lt_of_le R7z_18 b.size; have q_19 := q_18.trans (b.mono q_18.size); clear P_18 Pz_18 A_18 Az_18 R0_18 R0z_18 R1_18 R1z_18 R2_18 R2z_18 R3_18 R3z_18 R4_18 R4z_18 R5_18 R5z_18 R6_18 R6z_18 R7_18 R7z_18 q_18; clear b; have SS_19 : Hid (V18.cell? ⟨V14.heap.size, 0, none⟩ = some (.int .i64 yn.c) ∧ V18.cell? ⟨V14.heap.size, 1, none⟩ = some (.int .i64 yn.t) ∧ V18.cell? ⟨V14.heap.size, 2, none⟩ = some (.int .i64 yn.m) ∧ V18.cell? ⟨V14.heap.size, 3, none⟩ = some (.int .i64 yn.u) ∧ V18.cell? ⟨V14.heap.size, 4, none⟩ = some (.int .i64 yn.e) ∧ V18.cell? ⟨V14.heap.size, 5, none⟩ = some (.int .i64 yn.s) ∧ V18.cell? ⟨V14.heap.size, 6, none⟩ = some (.bool yn.h) ∧ V18.cell? ⟨V16.heap.size, 0, none⟩ = some (.int .i64 yn.c) ∧ V18.cell? ⟨V16.heap.size, 1, none⟩ = some (.int .i64 yn.t) ∧ V18.cell? ⟨V16.heap.size, 2, none⟩ = some (.int .i64 yn.m) ∧ V18.cell? ⟨V16.heap.size, 3, none⟩ = some (.int .i64 yn.u) ∧ V18.cell? ⟨V16.heap.size, 4, none⟩ = some (.int .i64 yn.e) ∧ V18.cell? ⟨V16.heap.size, 5, none⟩ = some (.int .i64 yn.s) ∧ V18.cell? ⟨V16.heap.size, 6, none⟩ = some (.bool yn.h) ∧ V18.cell? ⟨w.heap.size + 1, 0, none⟩ = some (.int .i64 x.c) ∧ V18.cell? ⟨w.heap.size + 1, 1, none⟩ = some (.int .i64 x.t) ∧ V18.cell? ⟨w.heap.size + 1, 2, none⟩ = some (.int .i64 x.m) ∧ V18.cell? ⟨w.heap.size + 1, 3, none⟩ = some (.int .i64 x.u) ∧ V18.cell? ⟨w.heap.size + 1, 4, none⟩ = some (.int .i64 x.e) ∧ V18.cell? ⟨w.heap.size + 1, 5, none⟩ = some (.int .i64 x.s) ∧ V18.cell? ⟨w.heap.size + 1, 6, none⟩ = some (.bool x.h) ∧ V18.cell? ⟨w.heap.size, 0, none⟩ = some (.int .i64 x.c) ∧ V18.cell? ⟨w.heap.size, 1, none⟩ = some (.int .i64 x.t) ∧ V18.cell? ⟨w.heap.size, 2, none⟩ = some (.int .i64 x.m) ∧ V18.cell? ⟨w.heap.size, 3, none⟩ = some (.int .i64 x.u) ∧ V18.cell? ⟨w.heap.size, 4, none⟩ = some (.int .i64 x.e) ∧ V18.cell? ⟨w.heap.size, 5, none⟩ = some (.int .i64 x.s) ∧ V18.cell? ⟨w.heap.size, 6, none⟩ = some (.bool x.h)) := Lib.hid ⟨blk_cell R6_19.out 0, blk_cell R6_19.out 1, blk_cell R6_19.out 2, blk_cell R6_19.out 3, blk_cell R6_19.out 4, blk_cell R6_19.out 5, blk_cell R6_19.out 6, blk_cell R7_19.out 0, blk_cell R7_19.out 1, blk_cell R7_19.out 2, blk_cell R7_19.out 3, blk_cell R7_19.out 4, blk_cell R7_19.out 5, blk_cell R7_19.out 6, blk_cell A_19.out 0, blk_cell A_19.out 1, blk_cell A_19.out 2, blk_cell A_19.out 3, blk_cell A_19.out 4, blk_cell A_19.out 5, blk_cell A_19.out 6, blk_cell P_19.out 0, blk_cell P_19.out 1, blk_cell P_19.out 2, blk_cell P_19.out 3, blk_cell P_19.out 4, blk_cell P_19.out 5, blk_cell P_19.out 6⟩)
    | (go_at_call 24; (with_reducible refine (rcheck_l x m G HG.out.eq _).mono ?_); rintro e V19 ⟨rfl, b⟩; have P_20 := Lib.hid ((b.block _ Pz_19).trans P_19.out); have Pz_20 := Nat.lt_of_lt_of_le Pz_19 b.size; have A_20 := Lib.hid ((b.block _ Az_19).trans A_19.out); have Az_20 := Nat.lt_of_lt_of_le Az_19 b.size; have R0_20 := Lib.hid ((b.block _ R0z_19).trans R0_19.out); have R0z_20 := Nat.lt_of_lt_of_le R0z_19 b.size; have R1_20 := Lib.hid ((b.block _ R1z_19).trans R1_19.out); have R1z_20 := Nat.lt_of_lt_of_le R1z_19 b.size; have R2_20 := Lib.hid ((b.block _ R2z_19).trans R2_19.out); have R2z_20 := Nat.lt_of_lt_of_le R2z_19 b.size; have R3_20 := Lib.hid ((b.block _ R3z_19).trans R3_19.out); have R3z_20 := Nat.lt_of_lt_of_le R3z_19 b.size; have R4_20 := Lib.hid ((b.block _ R4z_19).trans R4_19.out); have R4z_20 := Nat.lt_of_lt_of_le R4z_19 b.size; have R5_20 := Lib.hid ((b.block _ R5z_19).trans R5_19.out); have R5z_20 := Nat.lt_of_lt_of_le R5z_19 b.size; have R6_20 := Lib.hid ((b.block _ R6z_19).trans R6_19.out); have R6z_20 := Nat.lt_of_lt_of_le R6z_19 b.size; have R7_20 := Lib.hid ((b.block _ R7z_19).trans R7_19.out); have R7z_20 := Nat.lt_of_lt_of_le R7z_19 b.size; have q_20 := q_19.trans (b.mono q_19.size); clear P_19 Pz_19 A_19 Az_19 R0_19 R0z_19 R1_19 R1z_19 R2_19 R2z_19 R3_19 R3z_19 R4_19 R4z_19 R5_19 R5z_19 R6_19 R6z_19 R7_19 R7z_19 q_19; clear b; have SS_20 : Hid (V19.cell? ⟨V14.heap.size, 0, none⟩ = some (.int .i64 yn.c) ∧ V19.cell? ⟨V14.heap.size, 1, none⟩ = some (.int .i64 yn.t) ∧ V19.cell? ⟨V14.heap.size, 2, none⟩ = some (.int .i64 yn.m) ∧ V19.cell? ⟨V14.heap.size, 3, none⟩ = some (.int .i64 yn.u) ∧ V19.cell? ⟨V14.heap.size, 4, none⟩ = some (.int .i64 yn.e) ∧ V19.cell? ⟨V14.heap.size, 5, none⟩ = some (.int .i64 yn.s) ∧ V19.cell? ⟨V14.heap.size, 6, none⟩ = some (.bool yn.h) ∧ V19.cell? ⟨V16.heap.size, 0, none⟩ = some (.int .i64 yn.c) ∧ V19.cell? ⟨V16.heap.size, 1, none⟩ = some (.int .i64 yn.t) ∧ V19.cell? ⟨V16.heap.size, 2, none⟩ = some (.int .i64 yn.m) ∧ V19.cell? ⟨V16.heap.size, 3, none⟩ = some (.int .i64 yn.u) ∧ V19.cell? ⟨V16.heap.size, 4, none⟩ = some (.int .i64 yn.e) ∧ V19.cell? ⟨V16.heap.size, 5, none⟩ = some (.int .i64 yn.s) ∧ V19.cell? ⟨V16.heap.size, 6, none⟩ = some (.bool yn.h) ∧ V19.cell? ⟨w.heap.size + 1, 0, none⟩ = some (.int .i64 x.c) ∧ V19.cell? ⟨w.heap.size + 1, 1, none⟩ = some (.int .i64 x.t) ∧ V19.cell? ⟨w.heap.size + 1, 2, none⟩ = some (.int .i64 x.m) ∧ V19.cell? ⟨w.heap.size + 1, 3, none⟩ = some (.int .i64 x.u) ∧ V19.cell? ⟨w.heap.size + 1, 4, none⟩ = some (.int .i64 x.e) ∧ V19.cell? ⟨w.heap.size + 1, 5, none⟩ = some (.int .i64 x.s) ∧ V19.cell? ⟨w.heap.size + 1, 6, none⟩ = some (.bool x.h) ∧ V19.cell? ⟨w.heap.size, 0, none⟩ = some (.int .i64 x.c) ∧ V19.cell? ⟨w.heap.size, 1, none⟩ = some (.int .i64 x.t) ∧ V19.cell? ⟨w.heap.size, 2, none⟩ = some (.int .i64 x.m) ∧ V19.cell? ⟨w.heap.size, 3, none⟩ = some (.int .i64 x.u) ∧ V19.cell? ⟨w.heap.size, 4, none⟩ = some (.int .i64 x.e) ∧ V19.cell? ⟨w.heap.size, 5, none⟩ = some (.int .i64 x.s) ∧ V19.cell? ⟨w.heap.size, 6, none⟩ = some (.bool x.h)) := Lib.hid ⟨blk_cell R6_20.out 0, blk_cell R6_20.out 1, blk_cell R6_20.out 2, blk_cell R6_20.out 3, blk_cell R6_20.out 4, blk_cell R6_20.out 5, blk_cell R6_20.out 6, blk_cell R7_20.out 0, blk_cell R7_20.out 1, blk_cell R7_20.out 2, blk_cell R7_20.out 3, blk_cell R7_20.out 4, blk_cell R7_20.out 5, blk_cell R7_20.out 6, blk_cell A_20.out 0, blk_cell A_20.out 1, blk_cell A_20.out 2, blk_cell A_20.out 3, blk_cell A_20.out 4, blk_cell A_20.out 5, blk_cell A_20.out 6, blk_cell P_20.out 0, blk_cell P_20.out 1, blk_cell P_20.out 2, blk_cell P_20.out 3, blk_cell P_20.out 4, blk_cell P_20.out 5, blk_cell P_20.out 6⟩)
    | (go_at_call 14; (with_reducible refine (alive_any _).mono ?_); rintro e V20 ⟨rfl, b⟩; have P_21 := Lib.hid ((b.block _ Pz_20).trans P_20.out); have Pz_21 := Nat.lt_of_lt_of_le Pz_20 b.size; have A_21 := Lib.hid ((b.block _ Az_20).trans A_20.out); have Az_21 := Nat.lt_of_lt_of_le Az_20 b.size; have R0_21 := Lib.hid ((b.block _ R0z_20).trans R0_20.out); have R0z_21 := Nat.lt_of_lt_of_le R0z_20 b.size; have R1_21 := Lib.hid ((b.block _ R1z_20).trans R1_20.out); have R1z_21 := Nat.lt_of_lt_of_le R1z_20 b.size; have R2_21 := Lib.hid ((b.block _ R2z_20).trans R2_20.out); have R2z_21 := Nat.lt_of_lt_of_le R2z_20 b.size; have R3_21 := Lib.hid ((b.block _ R3z_20).trans R3_20.out); have R3z_21 := Nat.lt_of_lt_of_le R3z_20 b.size; have R4_21 := Lib.hid ((b.block _ R4z_20).trans R4_20.out); have R4z_21 := Nat.lt_of_lt_of_le R4z_20 b.size; have R5_21 := Lib.hid ((b.block _ R5z_20).trans R5_20.out); have R5z_21 := Nat.lt_of_lt_of_le R5z_20 b.size; have R6_21 := Lib.hid ((b.block _ R6z_20).trans R6_20.out); have R6z_21 := Nat.lt_of_lt_of_le R6z_20 b.size; have R7_21 := Lib.hid ((b.block _ R7z_20).trans R7_20.out); have R7z_21 := Nat.lt_of_lt_of_le R7z_20 b.size; have q_21 := q_20.trans (b.mono q_20.size); clear P_20 Pz_20 A_20 Az_20 R0_20 R0z_20 R1_20 R1z_20 R2_20 R2z_20 R3_20 R3z_20 R4_20 R4z_20 R5_20 R5z_20 R6_20 R6z_20 R7_20 R7z_20 q_20; clear b; have SS_21 : Hid (V20.cell? ⟨V14.heap.size, 0, none⟩ = some (.int .i64 yn.c) ∧ V20.cell? ⟨V14.heap.size, 1, none⟩ = some (.int .i64 yn.t) ∧ V20.cell? ⟨V14.heap.size, 2, none⟩ = some (.int .i64 yn.m) ∧ V20.cell? ⟨V14.heap.size, 3, none⟩ = some (.int .i64 yn.u) ∧ V20.cell? ⟨V14.heap.size, 4, none⟩ = some (.int .i64 yn.e) ∧ V20.cell? ⟨V14.heap.size, 5, none⟩ = some (.int .i64 yn.s) ∧ V20.cell? ⟨V14.heap.size, 6, none⟩ = some (.bool yn.h) ∧ V20.cell? ⟨V16.heap.size, 0, none⟩ = some (.int .i64 yn.c) ∧ V20.cell? ⟨V16.heap.size, 1, none⟩ = some (.int .i64 yn.t) ∧ V20.cell? ⟨V16.heap.size, 2, none⟩ = some (.int .i64 yn.m) ∧ V20.cell? ⟨V16.heap.size, 3, none⟩ = some (.int .i64 yn.u) ∧ V20.cell? ⟨V16.heap.size, 4, none⟩ = some (.int .i64 yn.e) ∧ V20.cell? ⟨V16.heap.size, 5, none⟩ = some (.int .i64 yn.s) ∧ V20.cell? ⟨V16.heap.size, 6, none⟩ = some (.bool yn.h) ∧ V20.cell? ⟨w.heap.size + 1, 0, none⟩ = some (.int .i64 x.c) ∧ V20.cell? ⟨w.heap.size + 1, 1, none⟩ = some (.int .i64 x.t) ∧ V20.cell? ⟨w.heap.size + 1, 2, none⟩ = some (.int .i64 x.m) ∧ V20.cell? ⟨w.heap.size + 1, 3, none⟩ = some (.int .i64 x.u) ∧ V20.cell? ⟨w.heap.size + 1, 4, none⟩ = some (.int .i64 x.e) ∧ V20.cell? ⟨w.heap.size + 1, 5, none⟩ = some (.int .i64 x.s) ∧ V20.cell? ⟨w.heap.size + 1, 6, none⟩ = some (.bool x.h) ∧ V20.cell? ⟨w.heap.size, 0, none⟩ = some (.int .i64 x.c) ∧ V20.cell? ⟨w.heap.size, 1, none⟩ = some (.int .i64 x.t) ∧ V20.cell? ⟨w.heap.size, 2, none⟩ = some (.int .i64 x.m) ∧ V20.cell? ⟨w.heap.size, 3, none⟩ = some (.int .i64 x.u) ∧ V20.cell? ⟨w.heap.size, 4, none⟩ = some (.int .i64 x.e) ∧ V20.cell? ⟨w.heap.size, 5, none⟩ = some (.int .i64 x.s) ∧ V20.cell? ⟨w.heap.size, 6, none⟩ = some (.bool x.h)) := Lib.hid ⟨blk_cell R6_21.out 0, blk_cell R6_21.out 1, blk_cell R6_21.out 2, blk_cell R6_21.out 3, blk_cell R6_21.out 4, blk_cell R6_21.out 5, blk_cell R6_21.out 6, blk_cell R7_21.out 0, blk_cell R7_21.out 1, blk_cell R7_21.out 2, blk_cell R7_21.out 3, blk_cell R7_21.out 4, blk_cell R7_21.out 5, blk_cell R7_21.out 6, blk_cell A_21.out 0, blk_cell A_21.out 1, blk_cell A_21.out 2, blk_cell A_21.out 3, blk_cell A_21.out 4, blk_cell A_21.out 5, blk_cell A_21.out 6, blk_cell P_21.out 0, blk_cell P_21.out 1, blk_cell P_21.out 2, blk_cell P_21.out 3, blk_cell P_21.out 4, blk_cell P_21.out 5, blk_cell P_21.out 6⟩))
  all_goals
    clear SS_18 SS_19 SS_20 SS_21
    go_wp2
    go_ret
    exact ⟨rfl, q_21⟩

theorem walk (c t q u e s : Int) (h : Bool) (m n v r : Int) (w : World) (_c_l : -9223372036854775808 ≤ c) (_c_h : c ≤ 9223372036854775807) (_t_l : -9223372036854775808 ≤ t) (_t_h : t ≤ 9223372036854775807) (_q_l : -9223372036854775808 ≤ q) (_q_h : q ≤ 9223372036854775807) (_u_l : -9223372036854775808 ≤ u) (_u_h : u ≤ 9223372036854775807) (_e_l : -9223372036854775808 ≤ e) (_e_h : e ≤ 9223372036854775807) (_s_l : -9223372036854775808 ≤ s) (_s_h : s ≤ 9223372036854775807) (_m_l : -9223372036854775808 ≤ m) (_m_h : m ≤ 9223372036854775807) (_n_l : -9223372036854775808 ≤ n) (_n_h : n ≤ 9223372036854775807) (_v_l : -9223372036854775808 ≤ v) (_v_h : v ≤ 9223372036854775807) (_r_l : -9223372036854775808 ≤ r) (_r_h : r ≤ 9223372036854775807) :
    Calls Try.prog 4 #[.agg #[.int .i64 c, .int .i64 t, .int .i64 q, .int .i64 u, .int .i64 e, .int .i64 s, .bool h], .int .i64 m, .int .i64 n, .int .i64 v, .int .i64 r] w fun e w' => e = .returned (.bool true) ∧ Below w.heap.size w w' :=
  walk0 ⟨c, t, q, u, e, s, h⟩ m n v r w _m_l _m_h _n_l _n_h _v_l _v_h _r_l _r_h

theorem of_len7 {α : Type} (l : List α) (h : l.length = 7) : ∃ x0 x1 x2 x3 x4 x5 x6, l = [x0, x1, x2, x3, x4, x5, x6] := by
  match l, h with
  | [x0, x1, x2, x3, x4, x5, x6], _ => exact ⟨x0, x1, x2, x3, x4, x5, x6, rfl⟩
theorem own : ownKnob Try.prog.godebug = none := by kernel_rfl
theorem laidOut : laidOutB Try.prog = true := by kernel_rfl

set_option maxRecDepth 100000 in
set_option maxHeartbeats 2000000 in
theorem lifted (os : Os) (started : os.Started) (H : Type) (enc : TypeId × Value → H) :
    ReturnsInHanded {} Try.checked os 4 .any (Rows.cubicTellsSpec.pre6 enc Try.prog Try.f4 Rows.cubicTellsRow.domain false) (Rows.cubicTellsSpec.post enc Try.prog Try.f4 false true false false) := by
  refine returnsInHanded_of_change_sized (C := Try.checked) own started (by kernel_rfl) Try.func4
    (ChangeSpec.witness6 (enc := enc) (C := Try.checked) false ⟨#[], #[.agg #[.int .i64 0, .int .i64 0, .int .i64 0, .int .i64 0, .int .i64 0, .int .i64 0, .bool false], .int .i64 0, .int .i64 0, .int .i64 0, .int .i64 0], []⟩ 8 (by kernel_rfl) (by kernel_rfl) (by kernel_rfl) (by kernel_rfl)) ?_
  intro W base args ds gs before hval0 hW hcnd hsz0 _
  have hval : ∀ (j : Nat) t v, Try.f4.params[j]? = some t → args[j]? = some v → Value.okWide Try.prog W .any base t v := hval0
  have hW' := hW
  obtain ⟨p, q, hA0, hV, rfl, hfz, hnd⟩ := hW
  have hA : DataW.TrodAll enc Try.prog W 0 (fun _ => true) true Try.f4.params.toList args.toList ds p := hA0
  rw [Try.params4] at hA hval
  obtain ⟨v0, vs0, d0, ds0, p0, q0, hargs, rfl, rfl, h0, r0⟩ := trodAll_cons hA
  obtain ⟨v1, vs1, d1, ds1, p1, q1, rfl, rfl, rfl, h1, r1⟩ := trodAll_cons r0
  obtain ⟨v2, vs2, d2, ds2, p2, q2, rfl, rfl, rfl, h2, r2⟩ := trodAll_cons r1
  obtain ⟨v3, vs3, d3, ds3, p3, q3, rfl, rfl, rfl, h3, r3⟩ := trodAll_cons r2
  obtain ⟨v4, vs4, d4, ds4, p4, q4, rfl, rfl, rfl, h4, r4⟩ := trodAll_cons r3
  obtain ⟨rfl, rfl, rfl⟩ := trodAll_nil r4
  obtain rfl : args = #[v0, v1, v2, v3, v4] := by cases args; simp_all
  obtain ⟨rfl, rfl⟩ := trodVars_none hV
  have k0 := h0
  have lt0 : ∀ x ∈ p0, x.block < W.heap.size := by obtain ⟨m, hm⟩ := k0; exact DataW.trod_lt m _ _ _ hm
  obtain ⟨vs0', ys0', m0, rfl, lv0, ly0, hd0, F0⟩ := open_agg Try.underlying33 (by kernel_rfl) (by kernel_rfl) (hval 0 33 v0 rfl rfl) h0
  obtain ⟨c0_0, c0_1, c0_2, c0_3, c0_4, c0_5, c0_6, rfl⟩ := of_len7 _ lv0
  obtain ⟨y0_0, y0_1, y0_2, y0_3, y0_4, y0_5, y0_6, rfl⟩ := of_len7 _ ly0
  simp only [List.map_cons, List.map_nil] at hd0
  obtain ⟨_, _, e, g, t0_0⟩ := F0 0 _ rfl
  obtain rfl := Option.some.inj e; obtain rfl := Option.some.inj g; clear e g
  obtain ⟨z0_0, e, _, w0_0⟩ := DataW.trod_int Try.underlying3 t0_0
  obtain rfl := (List.cons.inj e).1; clear e
  obtain ⟨lo0_0, hi0_0⟩ := bounds_i64 w0_0
  obtain ⟨_, _, e, g, t0_1⟩ := F0 1 _ rfl
  obtain rfl := Option.some.inj e; obtain rfl := Option.some.inj g; clear e g
  obtain ⟨z0_1, e, _, w0_1⟩ := DataW.trod_int Try.underlying3 t0_1
  obtain rfl := (List.cons.inj e).1; clear e
  obtain ⟨lo0_1, hi0_1⟩ := bounds_i64 w0_1
  obtain ⟨_, _, e, g, t0_2⟩ := F0 2 _ rfl
  obtain rfl := Option.some.inj e; obtain rfl := Option.some.inj g; clear e g
  obtain ⟨z0_2, e, _, w0_2⟩ := DataW.trod_int Try.underlying3 t0_2
  obtain rfl := (List.cons.inj e).1; clear e
  obtain ⟨lo0_2, hi0_2⟩ := bounds_i64 w0_2
  obtain ⟨_, _, e, g, t0_3⟩ := F0 3 _ rfl
  obtain rfl := Option.some.inj e; obtain rfl := Option.some.inj g; clear e g
  obtain ⟨z0_3, e, _, w0_3⟩ := DataW.trod_int Try.underlying3 t0_3
  obtain rfl := (List.cons.inj e).1; clear e
  obtain ⟨lo0_3, hi0_3⟩ := bounds_i64 w0_3
  obtain ⟨_, _, e, g, t0_4⟩ := F0 4 _ rfl
  obtain rfl := Option.some.inj e; obtain rfl := Option.some.inj g; clear e g
  obtain ⟨z0_4, e, _, w0_4⟩ := DataW.trod_int Try.underlying3 t0_4
  obtain rfl := (List.cons.inj e).1; clear e
  obtain ⟨lo0_4, hi0_4⟩ := bounds_i64 w0_4
  obtain ⟨_, _, e, g, t0_5⟩ := F0 5 _ rfl
  obtain rfl := Option.some.inj e; obtain rfl := Option.some.inj g; clear e g
  obtain ⟨z0_5, e, _, w0_5⟩ := DataW.trod_int Try.underlying3 t0_5
  obtain rfl := (List.cons.inj e).1; clear e
  obtain ⟨lo0_5, hi0_5⟩ := bounds_i64 w0_5
  obtain ⟨_, _, e, g, t0_6⟩ := F0 6 _ rfl
  obtain rfl := Option.some.inj e; obtain rfl := Option.some.inj g; clear e g
  obtain ⟨b0_6, e, _⟩ := DataW.trod_bool Try.underlying4 t0_6
  obtain rfl := (List.cons.inj e).1; clear e
  obtain ⟨a1, rfl, rfl, rfl, w1⟩ := open_int Try.underlying3 (hval 1 3 v1 rfl rfl) h1
  obtain ⟨a2, rfl, rfl, rfl, w2⟩ := open_int Try.underlying3 (hval 2 3 v2 rfl rfl) h2
  obtain ⟨a3, rfl, rfl, rfl, w3⟩ := open_int Try.underlying3 (hval 3 3 v3 rfl rfl) h3
  obtain ⟨a4, rfl, rfl, rfl, w4⟩ := open_int Try.underlying3 (hval 4 3 v4 rfl rfl) h4
  clear hA0
  obtain ⟨lo1, hi1⟩ := bounds_i64 w1
  obtain ⟨lo2, hi2⟩ := bounds_i64 w2
  obtain ⟨lo3, hi3⟩ := bounds_i64 w3
  obtain ⟨lo4, hi4⟩ := bounds_i64 w4
  refine (walk z0_0 z0_1 z0_2 z0_3 z0_4 z0_5 b0_6 a1 a2 a3 a4 W lo0_0 hi0_0 lo0_1 hi0_1 lo0_2 hi0_2 lo0_3 hi0_3 lo0_4 hi0_4 lo0_5 hi0_5 lo1 hi1 lo2 hi2 lo3 hi3 lo4 hi4).mono fun e W' ⟨he, bel⟩ => ?_
  subst he
  exact ⟨_, rfl, _, _, _, [], _, [], hW', trodAll_mk1 (shut_bool Try.underlying4 _), (trodAll_cons_mk (Below.trod laidOut (by kernel_rfl) (of_decide_eq_true (by kernel_rfl)) k0 bel lt0) (trodAll_cons_mk (shut_int Try.underlying3 w1) (trodAll_cons_mk (shut_int Try.underlying3 w2) (trodAll_cons_mk (shut_int Try.underlying3 w3) (trodAll_cons_mk (shut_int Try.underlying3 w4) trodAll_mk0))))), rfl, bel.frame _, fun h => by cases h⟩

theorem over : Rows.cubicTellsRow.holds Try.pinned (OpenSpec.ofChange Rows.cubicTellsSpec) :=
  OpenClaim.holds_of_wide 4 Try.f4 rfl rfl rfl rfl rfl rfl rfl ⟨rfl, rfl, rfl, rfl, rfl⟩ rfl rfl rfl rfl rfl (by kernel_rfl) Try.func4 (by kernel_rfl)
    (of_decide_eq_true (by kernel_rfl)) (by unfold Func.isWrapper; first | (rw [if_pos (by decide +kernel)]; kernel_rfl) | (rw [if_neg (by decide +kernel)]; exact ⟨rfl, rfl⟩))
    (fun os started H enc _ => lifted os started H enc)

end Go.Proofs.Ythkmphngfndebaa.cubicTells
namespace Go.Proofs.Ythkmphngfndebaa
/-- The statement. -/
theorem cubicTells_holds : Rows.CubicTellsSaid := cubicTells.over
#print axioms cubicTells_holds
end Go.Proofs.Ythkmphngfndebaa
