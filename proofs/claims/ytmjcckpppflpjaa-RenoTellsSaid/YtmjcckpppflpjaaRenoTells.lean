/- For every state, segment and number of octets: the windows that follow of acknowledgements, losses and times that run out are the page's. No condition. -/
import Derived.Test.YtmjcckpppflpjaaRows
import Derived.Test.YtmjcckpppflpjaaRnA
import Derived.Test.YtmjcckpppflpjaaGAgg
import Derived.Deep.DeepCutAuto
import Derived.RegionTactic
import Derived.Deep.RegionHeld3
import Derived.ProofKit
import Derived.OpenShut
import Derived.ChangeOld
import Derived.SizedLaws
namespace Go.Proofs.Ytmjcckpppflpjaa.renoTells
open Go.ChangeShapes Go.WideShapes Go.ChangeAt Go.RowKit Go.Deep Go.Proofs.Ytmjcckpppflpjaa.Rn

set_option maxRecDepth 100000 in
set_option maxHeartbeats 8000000 in
theorem walk (c t a m n : Int) (w : World) (_c_l : -9223372036854775808 ≤ c) (_c_h : c ≤ 9223372036854775807) (_t_l : -9223372036854775808 ≤ t) (_t_h : t ≤ 9223372036854775807) (_a_l : -9223372036854775808 ≤ a) (_a_h : a ≤ 9223372036854775807) (_m_l : -9223372036854775808 ≤ m) (_m_h : m ≤ 9223372036854775807) (_n_l : -9223372036854775808 ≤ n) (_n_h : n ≤ 9223372036854775807) :
    Calls Try.prog 3 #[.agg #[.int .i64 c, .int .i64 t, .int .i64 a], .int .i64 m, .int .i64 n] w fun e w' => e = .returned (.bool true) ∧ Below w.heap.size w w' := by
  have q_0 := Below.refl w.heap.size w
  obtain ⟨E, hE⟩ : ∃ z, aE c t a m n = z := ⟨_, rfl⟩
  obtain ⟨G, hG⟩ : ∃ z, cE c t a m = z := ⟨_, rfl⟩
  obtain ⟨J, hJ⟩ : ∃ z, nE m = z := ⟨_, rfl⟩
  obtain ⟨x1, hx1⟩ : ∃ z, kC E c t a m n = z := ⟨_, rfl⟩
  obtain ⟨x2, hx2⟩ : ∃ z, kT E t = z := ⟨_, rfl⟩
  obtain ⟨x3, hx3⟩ : ∃ z, kA E c t a n = z := ⟨_, rfl⟩
  obtain ⟨y1, hy1⟩ : ∃ z, lH E m n = z := ⟨_, rfl⟩
  obtain ⟨z1, hz1⟩ : ∃ z, tC E m = z := ⟨_, rfl⟩
  obtain ⟨p1, hp1⟩ : ∃ z, nC J m = z := ⟨_, rfl⟩
  obtain ⟨p2, hp2⟩ : ∃ z, nT J = z := ⟨_, rfl⟩
  have HE := Lib.hid hE
  clear hE
  have HG := Lib.hid hG
  clear hG
  have HJ := Lib.hid hJ
  clear hJ
  have Hx1 := Lib.hid hx1
  clear hx1
  have Hx2 := Lib.hid hx2
  clear hx2
  have Hx3 := Lib.hid hx3
  clear hx3
  have Hy1 := Lib.hid hy1
  clear hy1
  have Hz1 := Lib.hid hz1
  clear hz1
  have Hp1 := Lib.hid hp1
  clear hp1
  have Hp2 := Lib.hid hp2
  clear hp2
  go_enter Try.func3, Try.ntmps3
  go_wp2_with fail
  have b : Below w.heap.size w ((w.alloc (.cells #[.int .i64 c, .int .i64 t, .int .i64 a] 23)).alloc (.cells #[.int .i64 c, .int .i64 t, .int .i64 a] 24)) := (((Below.refl _ w).alloc (Nat.le_refl _) (.cells #[.int .i64 c, .int .i64 t, .int .i64 a] 23)).alloc (by simp only [World.size_alloc]; omega) (.cells #[.int .i64 c, .int .i64 t, .int .i64 a] 24))
  have nb0 := blk_new w (.cells #[.int .i64 c, .int .i64 t, .int .i64 a] 23)
  have nb0 := (Below.heap_alloc (w.alloc (.cells #[.int .i64 c, .int .i64 t, .int .i64 a] 23)) (.cells #[.int .i64 c, .int .i64 t, .int .i64 a] 24) (w.heap.size) (by simp only [World.size_alloc]; omega)).trans nb0
  have nz0 : w.heap.size < ((w.alloc (.cells #[.int .i64 c, .int .i64 t, .int .i64 a] 23)).alloc (.cells #[.int .i64 c, .int .i64 t, .int .i64 a] 24)).heap.size := by simp only [World.size_alloc]; omega
  have nb1 := blk_new (w.alloc (.cells #[.int .i64 c, .int .i64 t, .int .i64 a] 23)) (.cells #[.int .i64 c, .int .i64 t, .int .i64 a] 24)
  simp only [World.size_alloc] at nb1
  have nz1 : w.heap.size + 1 < ((w.alloc (.cells #[.int .i64 c, .int .i64 t, .int .i64 a] 23)).alloc (.cells #[.int .i64 c, .int .i64 t, .int .i64 a] 24)).heap.size := by simp only [World.size_alloc]; omega
  have q_1 := q_0.trans (b.mono q_0.size)
  clear q_0
  clear b
  have P_1 := Lib.hid nb0
  have Pz_1 := nz0
  clear nb0 nz0
  have Pc0_1 := blk_cell P_1.out 0
  have Pc1_1 := blk_cell P_1.out 1
  have Pc2_1 := blk_cell P_1.out 2
  have A_1 := Lib.hid nb1
  have Az_1 := nz1
  clear nb1 nz1
  have Ac0_1 := blk_cell A_1.out 0
  have Ac1_1 := blk_cell A_1.out 1
  have Ac2_1 := blk_cell A_1.out 2
  generalize ((w.alloc (.cells #[.int .i64 c, .int .i64 t, .int .i64 a] 23)).alloc (.cells #[.int .i64 c, .int .i64 t, .int .i64 a] 24)) = V1 at q_1 P_1 Pz_1 Pc0_1 Pc1_1 Pc2_1 A_1 Az_1 Ac0_1 Ac1_1 Ac2_1 ⊢
  refine (ack_l c t a m n E x1 x2 x3 HE.out Hx1.out Hx2.out Hx3.out _).mono ?_
  rintro e V2 ⟨rfl, b⟩
  have P_2 := Lib.hid ((b.block _ Pz_1).trans P_1.out)
  have Pz_2 := Nat.lt_of_lt_of_le Pz_1 b.size
  have Pc0_2 := blk_cell P_2.out 0
  have Pc1_2 := blk_cell P_2.out 1
  have Pc2_2 := blk_cell P_2.out 2
  have A_2 := Lib.hid ((b.block _ Az_1).trans A_1.out)
  have Az_2 := Nat.lt_of_lt_of_le Az_1 b.size
  have Ac0_2 := blk_cell A_2.out 0
  have Ac1_2 := blk_cell A_2.out 1
  have Ac2_2 := blk_cell A_2.out 2
  have q_2 := q_1.trans (b.mono q_1.size)
  clear P_1 Pz_1 Pc0_1 Pc1_1 Pc2_1 A_1 Az_1 Ac0_1 Ac1_1 Ac2_1 q_1
  clear b
  go_wp2_with fail
  have b : Below V2.heap.size V2 (V2.alloc (.cells #[.int .i64 x1, .int .i64 x2, .int .i64 x3] 24)) := ((Below.refl _ V2).alloc (Nat.le_refl _) (.cells #[.int .i64 x1, .int .i64 x2, .int .i64 x3] 24))
  have nb0 := blk_new V2 (.cells #[.int .i64 x1, .int .i64 x2, .int .i64 x3] 24)
  have nz0 : V2.heap.size < (V2.alloc (.cells #[.int .i64 x1, .int .i64 x2, .int .i64 x3] 24)).heap.size := by simp only [World.size_alloc]; omega
  have P_3 := Lib.hid ((b.block _ Pz_2).trans P_2.out)
  have Pz_3 := Nat.lt_of_lt_of_le Pz_2 b.size
  have Pc0_3 := blk_cell P_3.out 0
  have Pc1_3 := blk_cell P_3.out 1
  have Pc2_3 := blk_cell P_3.out 2
  have A_3 := Lib.hid ((b.block _ Az_2).trans A_2.out)
  have Az_3 := Nat.lt_of_lt_of_le Az_2 b.size
  have Ac0_3 := blk_cell A_3.out 0
  have Ac1_3 := blk_cell A_3.out 1
  have Ac2_3 := blk_cell A_3.out 2
  have q_3 := q_2.trans (b.mono q_2.size)
  clear P_2 Pz_2 Pc0_2 Pc1_2 Pc2_2 A_2 Az_2 Ac0_2 Ac1_2 Ac2_2 q_2
  clear b
  have R0_3 := Lib.hid nb0
  have R0z_3 := nz0
  clear nb0 nz0
  have R0c0_3 := blk_cell R0_3.out 0
  have R0c1_3 := blk_cell R0_3.out 1
  have R0c2_3 := blk_cell R0_3.out 2
  generalize (V2.alloc (.cells #[.int .i64 x1, .int .i64 x2, .int .i64 x3] 24)) = V3 at q_3 P_3 Pz_3 Pc0_3 Pc1_3 Pc2_3 A_3 Az_3 Ac0_3 Ac1_3 Ac2_3 R0_3 R0z_3 R0c0_3 R0c1_3 R0c2_3 ⊢
  refine (rack_l c t a m n E x1 x2 x3 HE.out Hx1.out Hx2.out Hx3.out _).mono ?_
  rintro e V4 ⟨rfl, b⟩
  have P_4 := Lib.hid ((b.block _ Pz_3).trans P_3.out)
  have Pz_4 := Nat.lt_of_lt_of_le Pz_3 b.size
  have Pc0_4 := blk_cell P_4.out 0
  have Pc1_4 := blk_cell P_4.out 1
  have Pc2_4 := blk_cell P_4.out 2
  have A_4 := Lib.hid ((b.block _ Az_3).trans A_3.out)
  have Az_4 := Nat.lt_of_lt_of_le Az_3 b.size
  have Ac0_4 := blk_cell A_4.out 0
  have Ac1_4 := blk_cell A_4.out 1
  have Ac2_4 := blk_cell A_4.out 2
  have R0_4 := Lib.hid ((b.block _ R0z_3).trans R0_3.out)
  have R0z_4 := Nat.lt_of_lt_of_le R0z_3 b.size
  have R0c0_4 := blk_cell R0_4.out 0
  have R0c1_4 := blk_cell R0_4.out 1
  have R0c2_4 := blk_cell R0_4.out 2
  have q_4 := q_3.trans (b.mono q_3.size)
  clear P_3 Pz_3 Pc0_3 Pc1_3 Pc2_3 A_3 Az_3 Ac0_3 Ac1_3 Ac2_3 R0_3 R0z_3 R0c0_3 R0c1_3 R0c2_3 q_3
  clear b
  go_wp2_with fail
  have b : Below V4.heap.size V4 (V4.alloc (.cells #[.int .i64 x1, .int .i64 x2, .int .i64 x3] 23)) := ((Below.refl _ V4).alloc (Nat.le_refl _) (.cells #[.int .i64 x1, .int .i64 x2, .int .i64 x3] 23))
  have nb0 := blk_new V4 (.cells #[.int .i64 x1, .int .i64 x2, .int .i64 x3] 23)
  have nz0 : V4.heap.size < (V4.alloc (.cells #[.int .i64 x1, .int .i64 x2, .int .i64 x3] 23)).heap.size := by simp only [World.size_alloc]; omega
  have P_5 := Lib.hid ((b.block _ Pz_4).trans P_4.out)
  have Pz_5 := Nat.lt_of_lt_of_le Pz_4 b.size
  have Pc0_5 := blk_cell P_5.out 0
  have Pc1_5 := blk_cell P_5.out 1
  have Pc2_5 := blk_cell P_5.out 2
  have A_5 := Lib.hid ((b.block _ Az_4).trans A_4.out)
  have Az_5 := Nat.lt_of_lt_of_le Az_4 b.size
  have Ac0_5 := blk_cell A_5.out 0
  have Ac1_5 := blk_cell A_5.out 1
  have Ac2_5 := blk_cell A_5.out 2
  have R0_5 := Lib.hid ((b.block _ R0z_4).trans R0_4.out)
  have R0z_5 := Nat.lt_of_lt_of_le R0z_4 b.size
  have R0c0_5 := blk_cell R0_5.out 0
  have R0c1_5 := blk_cell R0_5.out 1
  have R0c2_5 := blk_cell R0_5.out 2
  have q_5 := q_4.trans (b.mono q_4.size)
  clear P_4 Pz_4 Pc0_4 Pc1_4 Pc2_4 A_4 Az_4 Ac0_4 Ac1_4 Ac2_4 R0_4 R0z_4 R0c0_4 R0c1_4 R0c2_4 q_4
  clear b
  have R1_5 := Lib.hid nb0
  have R1z_5 := nz0
  clear nb0 nz0
  have R1c0_5 := blk_cell R1_5.out 0
  have R1c1_5 := blk_cell R1_5.out 1
  have R1c2_5 := blk_cell R1_5.out 2
  generalize (V4.alloc (.cells #[.int .i64 x1, .int .i64 x2, .int .i64 x3] 23)) = V5 at q_5 P_5 Pz_5 Pc0_5 Pc1_5 Pc2_5 A_5 Az_5 Ac0_5 Ac1_5 Ac2_5 R0_5 R0z_5 R0c0_5 R0c1_5 R0c2_5 R1_5 R1z_5 R1c0_5 R1c1_5 R1c2_5 ⊢
  refine (loss_l c t a m n E y1 HE.out Hy1.out _).mono ?_
  rintro e V6 ⟨rfl, b⟩
  have P_6 := Lib.hid ((b.block _ Pz_5).trans P_5.out)
  have Pz_6 := Nat.lt_of_lt_of_le Pz_5 b.size
  have Pc0_6 := blk_cell P_6.out 0
  have Pc1_6 := blk_cell P_6.out 1
  have Pc2_6 := blk_cell P_6.out 2
  have A_6 := Lib.hid ((b.block _ Az_5).trans A_5.out)
  have Az_6 := Nat.lt_of_lt_of_le Az_5 b.size
  have Ac0_6 := blk_cell A_6.out 0
  have Ac1_6 := blk_cell A_6.out 1
  have Ac2_6 := blk_cell A_6.out 2
  have R0_6 := Lib.hid ((b.block _ R0z_5).trans R0_5.out)
  have R0z_6 := Nat.lt_of_lt_of_le R0z_5 b.size
  have R0c0_6 := blk_cell R0_6.out 0
  have R0c1_6 := blk_cell R0_6.out 1
  have R0c2_6 := blk_cell R0_6.out 2
  have R1_6 := Lib.hid ((b.block _ R1z_5).trans R1_5.out)
  have R1z_6 := Nat.lt_of_lt_of_le R1z_5 b.size
  have R1c0_6 := blk_cell R1_6.out 0
  have R1c1_6 := blk_cell R1_6.out 1
  have R1c2_6 := blk_cell R1_6.out 2
  have q_6 := q_5.trans (b.mono q_5.size)
  clear P_5 Pz_5 Pc0_5 Pc1_5 Pc2_5 A_5 Az_5 Ac0_5 Ac1_5 Ac2_5 R0_5 R0z_5 R0c0_5 R0c1_5 R0c2_5 R1_5 R1z_5 R1c0_5 R1c1_5 R1c2_5 q_5
  clear b
  go_wp2_with fail
  have b : Below V6.heap.size V6 (V6.alloc (.cells #[.int .i64 y1, .int .i64 y1, .int .i64 0] 24)) := ((Below.refl _ V6).alloc (Nat.le_refl _) (.cells #[.int .i64 y1, .int .i64 y1, .int .i64 0] 24))
  have nb0 := blk_new V6 (.cells #[.int .i64 y1, .int .i64 y1, .int .i64 0] 24)
  have nz0 : V6.heap.size < (V6.alloc (.cells #[.int .i64 y1, .int .i64 y1, .int .i64 0] 24)).heap.size := by simp only [World.size_alloc]; omega
  have P_7 := Lib.hid ((b.block _ Pz_6).trans P_6.out)
  have Pz_7 := Nat.lt_of_lt_of_le Pz_6 b.size
  have Pc0_7 := blk_cell P_7.out 0
  have Pc1_7 := blk_cell P_7.out 1
  have Pc2_7 := blk_cell P_7.out 2
  have A_7 := Lib.hid ((b.block _ Az_6).trans A_6.out)
  have Az_7 := Nat.lt_of_lt_of_le Az_6 b.size
  have Ac0_7 := blk_cell A_7.out 0
  have Ac1_7 := blk_cell A_7.out 1
  have Ac2_7 := blk_cell A_7.out 2
  have R0_7 := Lib.hid ((b.block _ R0z_6).trans R0_6.out)
  have R0z_7 := Nat.lt_of_lt_of_le R0z_6 b.size
  have R0c0_7 := blk_cell R0_7.out 0
  have R0c1_7 := blk_cell R0_7.out 1
  have R0c2_7 := blk_cell R0_7.out 2
  have R1_7 := Lib.hid ((b.block _ R1z_6).trans R1_6.out)
  have R1z_7 := Nat.lt_of_lt_of_le R1z_6 b.size
  have R1c0_7 := blk_cell R1_7.out 0
  have R1c1_7 := blk_cell R1_7.out 1
  have R1c2_7 := blk_cell R1_7.out 2
  have q_7 := q_6.trans (b.mono q_6.size)
  clear P_6 Pz_6 Pc0_6 Pc1_6 Pc2_6 A_6 Az_6 Ac0_6 Ac1_6 Ac2_6 R0_6 R0z_6 R0c0_6 R0c1_6 R0c2_6 R1_6 R1z_6 R1c0_6 R1c1_6 R1c2_6 q_6
  clear b
  have R2_7 := Lib.hid nb0
  have R2z_7 := nz0
  clear nb0 nz0
  have R2c0_7 := blk_cell R2_7.out 0
  have R2c1_7 := blk_cell R2_7.out 1
  have R2c2_7 := blk_cell R2_7.out 2
  generalize (V6.alloc (.cells #[.int .i64 y1, .int .i64 y1, .int .i64 0] 24)) = V7 at q_7 P_7 Pz_7 Pc0_7 Pc1_7 Pc2_7 A_7 Az_7 Ac0_7 Ac1_7 Ac2_7 R0_7 R0z_7 R0c0_7 R0c1_7 R0c2_7 R1_7 R1z_7 R1c0_7 R1c1_7 R1c2_7 R2_7 R2z_7 R2c0_7 R2c1_7 R2c2_7 ⊢
  refine (rloss_l c t a m n E y1 HE.out Hy1.out _).mono ?_
  rintro e V8 ⟨rfl, b⟩
  have P_8 := Lib.hid ((b.block _ Pz_7).trans P_7.out)
  have Pz_8 := Nat.lt_of_lt_of_le Pz_7 b.size
  have Pc0_8 := blk_cell P_8.out 0
  have Pc1_8 := blk_cell P_8.out 1
  have Pc2_8 := blk_cell P_8.out 2
  have A_8 := Lib.hid ((b.block _ Az_7).trans A_7.out)
  have Az_8 := Nat.lt_of_lt_of_le Az_7 b.size
  have Ac0_8 := blk_cell A_8.out 0
  have Ac1_8 := blk_cell A_8.out 1
  have Ac2_8 := blk_cell A_8.out 2
  have R0_8 := Lib.hid ((b.block _ R0z_7).trans R0_7.out)
  have R0z_8 := Nat.lt_of_lt_of_le R0z_7 b.size
  have R0c0_8 := blk_cell R0_8.out 0
  have R0c1_8 := blk_cell R0_8.out 1
  have R0c2_8 := blk_cell R0_8.out 2
  have R1_8 := Lib.hid ((b.block _ R1z_7).trans R1_7.out)
  have R1z_8 := Nat.lt_of_lt_of_le R1z_7 b.size
  have R1c0_8 := blk_cell R1_8.out 0
  have R1c1_8 := blk_cell R1_8.out 1
  have R1c2_8 := blk_cell R1_8.out 2
  have R2_8 := Lib.hid ((b.block _ R2z_7).trans R2_7.out)
  have R2z_8 := Nat.lt_of_lt_of_le R2z_7 b.size
  have R2c0_8 := blk_cell R2_8.out 0
  have R2c1_8 := blk_cell R2_8.out 1
  have R2c2_8 := blk_cell R2_8.out 2
  have q_8 := q_7.trans (b.mono q_7.size)
  clear P_7 Pz_7 Pc0_7 Pc1_7 Pc2_7 A_7 Az_7 Ac0_7 Ac1_7 Ac2_7 R0_7 R0z_7 R0c0_7 R0c1_7 R0c2_7 R1_7 R1z_7 R1c0_7 R1c1_7 R1c2_7 R2_7 R2z_7 R2c0_7 R2c1_7 R2c2_7 q_7
  clear b
  go_wp2_with fail
  have b : Below V8.heap.size V8 (V8.alloc (.cells #[.int .i64 y1, .int .i64 y1, .int .i64 0] 23)) := ((Below.refl _ V8).alloc (Nat.le_refl _) (.cells #[.int .i64 y1, .int .i64 y1, .int .i64 0] 23))
  have nb0 := blk_new V8 (.cells #[.int .i64 y1, .int .i64 y1, .int .i64 0] 23)
  have nz0 : V8.heap.size < (V8.alloc (.cells #[.int .i64 y1, .int .i64 y1, .int .i64 0] 23)).heap.size := by simp only [World.size_alloc]; omega
  have P_9 := Lib.hid ((b.block _ Pz_8).trans P_8.out)
  have Pz_9 := Nat.lt_of_lt_of_le Pz_8 b.size
  have Pc0_9 := blk_cell P_9.out 0
  have Pc1_9 := blk_cell P_9.out 1
  have Pc2_9 := blk_cell P_9.out 2
  have A_9 := Lib.hid ((b.block _ Az_8).trans A_8.out)
  have Az_9 := Nat.lt_of_lt_of_le Az_8 b.size
  have Ac0_9 := blk_cell A_9.out 0
  have Ac1_9 := blk_cell A_9.out 1
  have Ac2_9 := blk_cell A_9.out 2
  have R0_9 := Lib.hid ((b.block _ R0z_8).trans R0_8.out)
  have R0z_9 := Nat.lt_of_lt_of_le R0z_8 b.size
  have R0c0_9 := blk_cell R0_9.out 0
  have R0c1_9 := blk_cell R0_9.out 1
  have R0c2_9 := blk_cell R0_9.out 2
  have R1_9 := Lib.hid ((b.block _ R1z_8).trans R1_8.out)
  have R1z_9 := Nat.lt_of_lt_of_le R1z_8 b.size
  have R1c0_9 := blk_cell R1_9.out 0
  have R1c1_9 := blk_cell R1_9.out 1
  have R1c2_9 := blk_cell R1_9.out 2
  have R2_9 := Lib.hid ((b.block _ R2z_8).trans R2_8.out)
  have R2z_9 := Nat.lt_of_lt_of_le R2z_8 b.size
  have R2c0_9 := blk_cell R2_9.out 0
  have R2c1_9 := blk_cell R2_9.out 1
  have R2c2_9 := blk_cell R2_9.out 2
  have q_9 := q_8.trans (b.mono q_8.size)
  clear P_8 Pz_8 Pc0_8 Pc1_8 Pc2_8 A_8 Az_8 Ac0_8 Ac1_8 Ac2_8 R0_8 R0z_8 R0c0_8 R0c1_8 R0c2_8 R1_8 R1z_8 R1c0_8 R1c1_8 R1c2_8 R2_8 R2z_8 R2c0_8 R2c1_8 R2c2_8 q_8
  clear b
  have R3_9 := Lib.hid nb0
  have R3z_9 := nz0
  clear nb0 nz0
  have R3c0_9 := blk_cell R3_9.out 0
  have R3c1_9 := blk_cell R3_9.out 1
  have R3c2_9 := blk_cell R3_9.out 2
  generalize (V8.alloc (.cells #[.int .i64 y1, .int .i64 y1, .int .i64 0] 23)) = V9 at q_9 P_9 Pz_9 Pc0_9 Pc1_9 Pc2_9 A_9 Az_9 Ac0_9 Ac1_9 Ac2_9 R0_9 R0z_9 R0c0_9 R0c1_9 R0c2_9 R1_9 R1z_9 R1c0_9 R1c1_9 R1c2_9 R2_9 R2z_9 R2c0_9 R2c1_9 R2c2_9 R3_9 R3z_9 R3c0_9 R3c1_9 R3c2_9 ⊢
  refine (timeout_l c t a m n E z1 y1 HE.out Hz1.out Hy1.out _).mono ?_
  rintro e V10 ⟨rfl, b⟩
  have P_10 := Lib.hid ((b.block _ Pz_9).trans P_9.out)
  have Pz_10 := Nat.lt_of_lt_of_le Pz_9 b.size
  have Pc0_10 := blk_cell P_10.out 0
  have Pc1_10 := blk_cell P_10.out 1
  have Pc2_10 := blk_cell P_10.out 2
  have A_10 := Lib.hid ((b.block _ Az_9).trans A_9.out)
  have Az_10 := Nat.lt_of_lt_of_le Az_9 b.size
  have Ac0_10 := blk_cell A_10.out 0
  have Ac1_10 := blk_cell A_10.out 1
  have Ac2_10 := blk_cell A_10.out 2
  have R0_10 := Lib.hid ((b.block _ R0z_9).trans R0_9.out)
  have R0z_10 := Nat.lt_of_lt_of_le R0z_9 b.size
  have R0c0_10 := blk_cell R0_10.out 0
  have R0c1_10 := blk_cell R0_10.out 1
  have R0c2_10 := blk_cell R0_10.out 2
  have R1_10 := Lib.hid ((b.block _ R1z_9).trans R1_9.out)
  have R1z_10 := Nat.lt_of_lt_of_le R1z_9 b.size
  have R1c0_10 := blk_cell R1_10.out 0
  have R1c1_10 := blk_cell R1_10.out 1
  have R1c2_10 := blk_cell R1_10.out 2
  have R2_10 := Lib.hid ((b.block _ R2z_9).trans R2_9.out)
  have R2z_10 := Nat.lt_of_lt_of_le R2z_9 b.size
  have R2c0_10 := blk_cell R2_10.out 0
  have R2c1_10 := blk_cell R2_10.out 1
  have R2c2_10 := blk_cell R2_10.out 2
  have R3_10 := Lib.hid ((b.block _ R3z_9).trans R3_9.out)
  have R3z_10 := Nat.lt_of_lt_of_le R3z_9 b.size
  have R3c0_10 := blk_cell R3_10.out 0
  have R3c1_10 := blk_cell R3_10.out 1
  have R3c2_10 := blk_cell R3_10.out 2
  have q_10 := q_9.trans (b.mono q_9.size)
  clear P_9 Pz_9 Pc0_9 Pc1_9 Pc2_9 A_9 Az_9 Ac0_9 Ac1_9 Ac2_9 R0_9 R0z_9 R0c0_9 R0c1_9 R0c2_9 R1_9 R1z_9 R1c0_9 R1c1_9 R1c2_9 R2_9 R2z_9 R2c0_9 R2c1_9 R2c2_9 R3_9 R3z_9 R3c0_9 R3c1_9 R3c2_9 q_9
  clear b
  go_wp2_with fail
  have b : Below V10.heap.size V10 (V10.alloc (.cells #[.int .i64 z1, .int .i64 y1, .int .i64 0] 24)) := ((Below.refl _ V10).alloc (Nat.le_refl _) (.cells #[.int .i64 z1, .int .i64 y1, .int .i64 0] 24))
  have nb0 := blk_new V10 (.cells #[.int .i64 z1, .int .i64 y1, .int .i64 0] 24)
  have nz0 : V10.heap.size < (V10.alloc (.cells #[.int .i64 z1, .int .i64 y1, .int .i64 0] 24)).heap.size := by simp only [World.size_alloc]; omega
  have P_11 := Lib.hid ((b.block _ Pz_10).trans P_10.out)
  have Pz_11 := Nat.lt_of_lt_of_le Pz_10 b.size
  have Pc0_11 := blk_cell P_11.out 0
  have Pc1_11 := blk_cell P_11.out 1
  have Pc2_11 := blk_cell P_11.out 2
  have A_11 := Lib.hid ((b.block _ Az_10).trans A_10.out)
  have Az_11 := Nat.lt_of_lt_of_le Az_10 b.size
  have Ac0_11 := blk_cell A_11.out 0
  have Ac1_11 := blk_cell A_11.out 1
  have Ac2_11 := blk_cell A_11.out 2
  have R0_11 := Lib.hid ((b.block _ R0z_10).trans R0_10.out)
  have R0z_11 := Nat.lt_of_lt_of_le R0z_10 b.size
  have R0c0_11 := blk_cell R0_11.out 0
  have R0c1_11 := blk_cell R0_11.out 1
  have R0c2_11 := blk_cell R0_11.out 2
  have R1_11 := Lib.hid ((b.block _ R1z_10).trans R1_10.out)
  have R1z_11 := Nat.lt_of_lt_of_le R1z_10 b.size
  have R1c0_11 := blk_cell R1_11.out 0
  have R1c1_11 := blk_cell R1_11.out 1
  have R1c2_11 := blk_cell R1_11.out 2
  have R2_11 := Lib.hid ((b.block _ R2z_10).trans R2_10.out)
  have R2z_11 := Nat.lt_of_lt_of_le R2z_10 b.size
  have R2c0_11 := blk_cell R2_11.out 0
  have R2c1_11 := blk_cell R2_11.out 1
  have R2c2_11 := blk_cell R2_11.out 2
  have R3_11 := Lib.hid ((b.block _ R3z_10).trans R3_10.out)
  have R3z_11 := Nat.lt_of_lt_of_le R3z_10 b.size
  have R3c0_11 := blk_cell R3_11.out 0
  have R3c1_11 := blk_cell R3_11.out 1
  have R3c2_11 := blk_cell R3_11.out 2
  have q_11 := q_10.trans (b.mono q_10.size)
  clear P_10 Pz_10 Pc0_10 Pc1_10 Pc2_10 A_10 Az_10 Ac0_10 Ac1_10 Ac2_10 R0_10 R0z_10 R0c0_10 R0c1_10 R0c2_10 R1_10 R1z_10 R1c0_10 R1c1_10 R1c2_10 R2_10 R2z_10 R2c0_10 R2c1_10 R2c2_10 R3_10 R3z_10 R3c0_10 R3c1_10 R3c2_10 q_10
  clear b
  have R4_11 := Lib.hid nb0
  have R4z_11 := nz0
  clear nb0 nz0
  have R4c0_11 := blk_cell R4_11.out 0
  have R4c1_11 := blk_cell R4_11.out 1
  have R4c2_11 := blk_cell R4_11.out 2
  generalize (V10.alloc (.cells #[.int .i64 z1, .int .i64 y1, .int .i64 0] 24)) = V11 at q_11 P_11 Pz_11 Pc0_11 Pc1_11 Pc2_11 A_11 Az_11 Ac0_11 Ac1_11 Ac2_11 R0_11 R0z_11 R0c0_11 R0c1_11 R0c2_11 R1_11 R1z_11 R1c0_11 R1c1_11 R1c2_11 R2_11 R2z_11 R2c0_11 R2c1_11 R2c2_11 R3_11 R3z_11 R3c0_11 R3c1_11 R3c2_11 R4_11 R4z_11 R4c0_11 R4c1_11 R4c2_11 ⊢
  refine (rtimeout_l c t a m n E z1 y1 HE.out Hz1.out Hy1.out _).mono ?_
  rintro e V12 ⟨rfl, b⟩
  have P_12 := Lib.hid ((b.block _ Pz_11).trans P_11.out)
  have Pz_12 := Nat.lt_of_lt_of_le Pz_11 b.size
  have Pc0_12 := blk_cell P_12.out 0
  have Pc1_12 := blk_cell P_12.out 1
  have Pc2_12 := blk_cell P_12.out 2
  have A_12 := Lib.hid ((b.block _ Az_11).trans A_11.out)
  have Az_12 := Nat.lt_of_lt_of_le Az_11 b.size
  have Ac0_12 := blk_cell A_12.out 0
  have Ac1_12 := blk_cell A_12.out 1
  have Ac2_12 := blk_cell A_12.out 2
  have R0_12 := Lib.hid ((b.block _ R0z_11).trans R0_11.out)
  have R0z_12 := Nat.lt_of_lt_of_le R0z_11 b.size
  have R0c0_12 := blk_cell R0_12.out 0
  have R0c1_12 := blk_cell R0_12.out 1
  have R0c2_12 := blk_cell R0_12.out 2
  have R1_12 := Lib.hid ((b.block _ R1z_11).trans R1_11.out)
  have R1z_12 := Nat.lt_of_lt_of_le R1z_11 b.size
  have R1c0_12 := blk_cell R1_12.out 0
  have R1c1_12 := blk_cell R1_12.out 1
  have R1c2_12 := blk_cell R1_12.out 2
  have R2_12 := Lib.hid ((b.block _ R2z_11).trans R2_11.out)
  have R2z_12 := Nat.lt_of_lt_of_le R2z_11 b.size
  have R2c0_12 := blk_cell R2_12.out 0
  have R2c1_12 := blk_cell R2_12.out 1
  have R2c2_12 := blk_cell R2_12.out 2
  have R3_12 := Lib.hid ((b.block _ R3z_11).trans R3_11.out)
  have R3z_12 := Nat.lt_of_lt_of_le R3z_11 b.size
  have R3c0_12 := blk_cell R3_12.out 0
  have R3c1_12 := blk_cell R3_12.out 1
  have R3c2_12 := blk_cell R3_12.out 2
  have R4_12 := Lib.hid ((b.block _ R4z_11).trans R4_11.out)
  have R4z_12 := Nat.lt_of_lt_of_le R4z_11 b.size
  have R4c0_12 := blk_cell R4_12.out 0
  have R4c1_12 := blk_cell R4_12.out 1
  have R4c2_12 := blk_cell R4_12.out 2
  have q_12 := q_11.trans (b.mono q_11.size)
  clear P_11 Pz_11 Pc0_11 Pc1_11 Pc2_11 A_11 Az_11 Ac0_11 Ac1_11 Ac2_11 R0_11 R0z_11 R0c0_11 R0c1_11 R0c2_11 R1_11 R1z_11 R1c0_11 R1c1_11 R1c2_11 R2_11 R2z_11 R2c0_11 R2c1_11 R2c2_11 R3_11 R3z_11 R3c0_11 R3c1_11 R3c2_11 R4_11 R4z_11 R4c0_11 R4c1_11 R4c2_11 q_11
  clear b
  go_wp2_with fail
  have b : Below V12.heap.size V12 (V12.alloc (.cells #[.int .i64 z1, .int .i64 y1, .int .i64 0] 23)) := ((Below.refl _ V12).alloc (Nat.le_refl _) (.cells #[.int .i64 z1, .int .i64 y1, .int .i64 0] 23))
  have nb0 := blk_new V12 (.cells #[.int .i64 z1, .int .i64 y1, .int .i64 0] 23)
  have nz0 : V12.heap.size < (V12.alloc (.cells #[.int .i64 z1, .int .i64 y1, .int .i64 0] 23)).heap.size := by simp only [World.size_alloc]; omega
  have P_13 := Lib.hid ((b.block _ Pz_12).trans P_12.out)
  have Pz_13 := Nat.lt_of_lt_of_le Pz_12 b.size
  have Pc0_13 := blk_cell P_13.out 0
  have Pc1_13 := blk_cell P_13.out 1
  have Pc2_13 := blk_cell P_13.out 2
  have A_13 := Lib.hid ((b.block _ Az_12).trans A_12.out)
  have Az_13 := Nat.lt_of_lt_of_le Az_12 b.size
  have Ac0_13 := blk_cell A_13.out 0
  have Ac1_13 := blk_cell A_13.out 1
  have Ac2_13 := blk_cell A_13.out 2
  have R0_13 := Lib.hid ((b.block _ R0z_12).trans R0_12.out)
  have R0z_13 := Nat.lt_of_lt_of_le R0z_12 b.size
  have R0c0_13 := blk_cell R0_13.out 0
  have R0c1_13 := blk_cell R0_13.out 1
  have R0c2_13 := blk_cell R0_13.out 2
  have R1_13 := Lib.hid ((b.block _ R1z_12).trans R1_12.out)
  have R1z_13 := Nat.lt_of_lt_of_le R1z_12 b.size
  have R1c0_13 := blk_cell R1_13.out 0
  have R1c1_13 := blk_cell R1_13.out 1
  have R1c2_13 := blk_cell R1_13.out 2
  have R2_13 := Lib.hid ((b.block _ R2z_12).trans R2_12.out)
  have R2z_13 := Nat.lt_of_lt_of_le R2z_12 b.size
  have R2c0_13 := blk_cell R2_13.out 0
  have R2c1_13 := blk_cell R2_13.out 1
  have R2c2_13 := blk_cell R2_13.out 2
  have R3_13 := Lib.hid ((b.block _ R3z_12).trans R3_12.out)
  have R3z_13 := Nat.lt_of_lt_of_le R3z_12 b.size
  have R3c0_13 := blk_cell R3_13.out 0
  have R3c1_13 := blk_cell R3_13.out 1
  have R3c2_13 := blk_cell R3_13.out 2
  have R4_13 := Lib.hid ((b.block _ R4z_12).trans R4_12.out)
  have R4z_13 := Nat.lt_of_lt_of_le R4z_12 b.size
  have R4c0_13 := blk_cell R4_13.out 0
  have R4c1_13 := blk_cell R4_13.out 1
  have R4c2_13 := blk_cell R4_13.out 2
  have q_13 := q_12.trans (b.mono q_12.size)
  clear P_12 Pz_12 Pc0_12 Pc1_12 Pc2_12 A_12 Az_12 Ac0_12 Ac1_12 Ac2_12 R0_12 R0z_12 R0c0_12 R0c1_12 R0c2_12 R1_12 R1z_12 R1c0_12 R1c1_12 R1c2_12 R2_12 R2z_12 R2c0_12 R2c1_12 R2c2_12 R3_12 R3z_12 R3c0_12 R3c1_12 R3c2_12 R4_12 R4z_12 R4c0_12 R4c1_12 R4c2_12 q_12
  clear b
  have R5_13 := Lib.hid nb0
  have R5z_13 := nz0
  clear nb0 nz0
  have R5c0_13 := blk_cell R5_13.out 0
  have R5c1_13 := blk_cell R5_13.out 1
  have R5c2_13 := blk_cell R5_13.out 2
  generalize (V12.alloc (.cells #[.int .i64 z1, .int .i64 y1, .int .i64 0] 23)) = V13 at q_13 P_13 Pz_13 Pc0_13 Pc1_13 Pc2_13 A_13 Az_13 Ac0_13 Ac1_13 Ac2_13 R0_13 R0z_13 R0c0_13 R0c1_13 R0c2_13 R1_13 R1z_13 R1c0_13 R1c1_13 R1c2_13 R2_13 R2z_13 R2c0_13 R2c1_13 R2c2_13 R3_13 R3z_13 R3c0_13 R3c1_13 R3c2_13 R4_13 R4z_13 R4c0_13 R4c1_13 R4c2_13 R5_13 R5z_13 R5c0_13 R5c1_13 R5c2_13 ⊢
  refine (new_l m J p1 p2 HJ.out Hp1.out Hp2.out _).mono ?_
  rintro e V14 ⟨rfl, b⟩
  have P_14 := Lib.hid ((b.block _ Pz_13).trans P_13.out)
  have Pz_14 := Nat.lt_of_lt_of_le Pz_13 b.size
  have Pc0_14 := blk_cell P_14.out 0
  have Pc1_14 := blk_cell P_14.out 1
  have Pc2_14 := blk_cell P_14.out 2
  have A_14 := Lib.hid ((b.block _ Az_13).trans A_13.out)
  have Az_14 := Nat.lt_of_lt_of_le Az_13 b.size
  have Ac0_14 := blk_cell A_14.out 0
  have Ac1_14 := blk_cell A_14.out 1
  have Ac2_14 := blk_cell A_14.out 2
  have R0_14 := Lib.hid ((b.block _ R0z_13).trans R0_13.out)
  have R0z_14 := Nat.lt_of_lt_of_le R0z_13 b.size
  have R0c0_14 := blk_cell R0_14.out 0
  have R0c1_14 := blk_cell R0_14.out 1
  have R0c2_14 := blk_cell R0_14.out 2
  have R1_14 := Lib.hid ((b.block _ R1z_13).trans R1_13.out)
  have R1z_14 := Nat.lt_of_lt_of_le R1z_13 b.size
  have R1c0_14 := blk_cell R1_14.out 0
  have R1c1_14 := blk_cell R1_14.out 1
  have R1c2_14 := blk_cell R1_14.out 2
  have R2_14 := Lib.hid ((b.block _ R2z_13).trans R2_13.out)
  have R2z_14 := Nat.lt_of_lt_of_le R2z_13 b.size
  have R2c0_14 := blk_cell R2_14.out 0
  have R2c1_14 := blk_cell R2_14.out 1
  have R2c2_14 := blk_cell R2_14.out 2
  have R3_14 := Lib.hid ((b.block _ R3z_13).trans R3_13.out)
  have R3z_14 := Nat.lt_of_lt_of_le R3z_13 b.size
  have R3c0_14 := blk_cell R3_14.out 0
  have R3c1_14 := blk_cell R3_14.out 1
  have R3c2_14 := blk_cell R3_14.out 2
  have R4_14 := Lib.hid ((b.block _ R4z_13).trans R4_13.out)
  have R4z_14 := Nat.lt_of_lt_of_le R4z_13 b.size
  have R4c0_14 := blk_cell R4_14.out 0
  have R4c1_14 := blk_cell R4_14.out 1
  have R4c2_14 := blk_cell R4_14.out 2
  have R5_14 := Lib.hid ((b.block _ R5z_13).trans R5_13.out)
  have R5z_14 := Nat.lt_of_lt_of_le R5z_13 b.size
  have R5c0_14 := blk_cell R5_14.out 0
  have R5c1_14 := blk_cell R5_14.out 1
  have R5c2_14 := blk_cell R5_14.out 2
  have q_14 := q_13.trans (b.mono q_13.size)
  clear P_13 Pz_13 Pc0_13 Pc1_13 Pc2_13 A_13 Az_13 Ac0_13 Ac1_13 Ac2_13 R0_13 R0z_13 R0c0_13 R0c1_13 R0c2_13 R1_13 R1z_13 R1c0_13 R1c1_13 R1c2_13 R2_13 R2z_13 R2c0_13 R2c1_13 R2c2_13 R3_13 R3z_13 R3c0_13 R3c1_13 R3c2_13 R4_13 R4z_13 R4c0_13 R4c1_13 R4c2_13 R5_13 R5z_13 R5c0_13 R5c1_13 R5c2_13 q_13
  clear b
  go_wp2_with fail
  have b : Below V14.heap.size V14 (V14.alloc (.cells #[.int .i64 p1, .int .i64 p2, .int .i64 0] 24)) := ((Below.refl _ V14).alloc (Nat.le_refl _) (.cells #[.int .i64 p1, .int .i64 p2, .int .i64 0] 24))
  have nb0 := blk_new V14 (.cells #[.int .i64 p1, .int .i64 p2, .int .i64 0] 24)
  have nz0 : V14.heap.size < (V14.alloc (.cells #[.int .i64 p1, .int .i64 p2, .int .i64 0] 24)).heap.size := by simp only [World.size_alloc]; omega
  have P_15 := Lib.hid ((b.block _ Pz_14).trans P_14.out)
  have Pz_15 := Nat.lt_of_lt_of_le Pz_14 b.size
  have Pc0_15 := blk_cell P_15.out 0
  have Pc1_15 := blk_cell P_15.out 1
  have Pc2_15 := blk_cell P_15.out 2
  have A_15 := Lib.hid ((b.block _ Az_14).trans A_14.out)
  have Az_15 := Nat.lt_of_lt_of_le Az_14 b.size
  have Ac0_15 := blk_cell A_15.out 0
  have Ac1_15 := blk_cell A_15.out 1
  have Ac2_15 := blk_cell A_15.out 2
  have R0_15 := Lib.hid ((b.block _ R0z_14).trans R0_14.out)
  have R0z_15 := Nat.lt_of_lt_of_le R0z_14 b.size
  have R0c0_15 := blk_cell R0_15.out 0
  have R0c1_15 := blk_cell R0_15.out 1
  have R0c2_15 := blk_cell R0_15.out 2
  have R1_15 := Lib.hid ((b.block _ R1z_14).trans R1_14.out)
  have R1z_15 := Nat.lt_of_lt_of_le R1z_14 b.size
  have R1c0_15 := blk_cell R1_15.out 0
  have R1c1_15 := blk_cell R1_15.out 1
  have R1c2_15 := blk_cell R1_15.out 2
  have R2_15 := Lib.hid ((b.block _ R2z_14).trans R2_14.out)
  have R2z_15 := Nat.lt_of_lt_of_le R2z_14 b.size
  have R2c0_15 := blk_cell R2_15.out 0
  have R2c1_15 := blk_cell R2_15.out 1
  have R2c2_15 := blk_cell R2_15.out 2
  have R3_15 := Lib.hid ((b.block _ R3z_14).trans R3_14.out)
  have R3z_15 := Nat.lt_of_lt_of_le R3z_14 b.size
  have R3c0_15 := blk_cell R3_15.out 0
  have R3c1_15 := blk_cell R3_15.out 1
  have R3c2_15 := blk_cell R3_15.out 2
  have R4_15 := Lib.hid ((b.block _ R4z_14).trans R4_14.out)
  have R4z_15 := Nat.lt_of_lt_of_le R4z_14 b.size
  have R4c0_15 := blk_cell R4_15.out 0
  have R4c1_15 := blk_cell R4_15.out 1
  have R4c2_15 := blk_cell R4_15.out 2
  have R5_15 := Lib.hid ((b.block _ R5z_14).trans R5_14.out)
  have R5z_15 := Nat.lt_of_lt_of_le R5z_14 b.size
  have R5c0_15 := blk_cell R5_15.out 0
  have R5c1_15 := blk_cell R5_15.out 1
  have R5c2_15 := blk_cell R5_15.out 2
  have q_15 := q_14.trans (b.mono q_14.size)
  clear P_14 Pz_14 Pc0_14 Pc1_14 Pc2_14 A_14 Az_14 Ac0_14 Ac1_14 Ac2_14 R0_14 R0z_14 R0c0_14 R0c1_14 R0c2_14 R1_14 R1z_14 R1c0_14 R1c1_14 R1c2_14 R2_14 R2z_14 R2c0_14 R2c1_14 R2c2_14 R3_14 R3z_14 R3c0_14 R3c1_14 R3c2_14 R4_14 R4z_14 R4c0_14 R4c1_14 R4c2_14 R5_14 R5z_14 R5c0_14 R5c1_14 R5c2_14 q_14
  clear b
  have R6_15 := Lib.hid nb0
  have R6z_15 := nz0
  clear nb0 nz0
  have R6c0_15 := blk_cell R6_15.out 0
  have R6c1_15 := blk_cell R6_15.out 1
  have R6c2_15 := blk_cell R6_15.out 2
  generalize (V14.alloc (.cells #[.int .i64 p1, .int .i64 p2, .int .i64 0] 24)) = V15 at q_15 P_15 Pz_15 Pc0_15 Pc1_15 Pc2_15 A_15 Az_15 Ac0_15 Ac1_15 Ac2_15 R0_15 R0z_15 R0c0_15 R0c1_15 R0c2_15 R1_15 R1z_15 R1c0_15 R1c1_15 R1c2_15 R2_15 R2z_15 R2c0_15 R2c1_15 R2c2_15 R3_15 R3z_15 R3c0_15 R3c1_15 R3c2_15 R4_15 R4z_15 R4c0_15 R4c1_15 R4c2_15 R5_15 R5z_15 R5c0_15 R5c1_15 R5c2_15 R6_15 R6z_15 R6c0_15 R6c1_15 R6c2_15 ⊢
  refine (rnew_l m J p1 p2 HJ.out Hp1.out Hp2.out _).mono ?_
  rintro e V16 ⟨rfl, b⟩
  have P_16 := Lib.hid ((b.block _ Pz_15).trans P_15.out)
  have Pz_16 := Nat.lt_of_lt_of_le Pz_15 b.size
  have Pc0_16 := blk_cell P_16.out 0
  have Pc1_16 := blk_cell P_16.out 1
  have Pc2_16 := blk_cell P_16.out 2
  have A_16 := Lib.hid ((b.block _ Az_15).trans A_15.out)
  have Az_16 := Nat.lt_of_lt_of_le Az_15 b.size
  have Ac0_16 := blk_cell A_16.out 0
  have Ac1_16 := blk_cell A_16.out 1
  have Ac2_16 := blk_cell A_16.out 2
  have R0_16 := Lib.hid ((b.block _ R0z_15).trans R0_15.out)
  have R0z_16 := Nat.lt_of_lt_of_le R0z_15 b.size
  have R0c0_16 := blk_cell R0_16.out 0
  have R0c1_16 := blk_cell R0_16.out 1
  have R0c2_16 := blk_cell R0_16.out 2
  have R1_16 := Lib.hid ((b.block _ R1z_15).trans R1_15.out)
  have R1z_16 := Nat.lt_of_lt_of_le R1z_15 b.size
  have R1c0_16 := blk_cell R1_16.out 0
  have R1c1_16 := blk_cell R1_16.out 1
  have R1c2_16 := blk_cell R1_16.out 2
  have R2_16 := Lib.hid ((b.block _ R2z_15).trans R2_15.out)
  have R2z_16 := Nat.lt_of_lt_of_le R2z_15 b.size
  have R2c0_16 := blk_cell R2_16.out 0
  have R2c1_16 := blk_cell R2_16.out 1
  have R2c2_16 := blk_cell R2_16.out 2
  have R3_16 := Lib.hid ((b.block _ R3z_15).trans R3_15.out)
  have R3z_16 := Nat.lt_of_lt_of_le R3z_15 b.size
  have R3c0_16 := blk_cell R3_16.out 0
  have R3c1_16 := blk_cell R3_16.out 1
  have R3c2_16 := blk_cell R3_16.out 2
  have R4_16 := Lib.hid ((b.block _ R4z_15).trans R4_15.out)
  have R4z_16 := Nat.lt_of_lt_of_le R4z_15 b.size
  have R4c0_16 := blk_cell R4_16.out 0
  have R4c1_16 := blk_cell R4_16.out 1
  have R4c2_16 := blk_cell R4_16.out 2
  have R5_16 := Lib.hid ((b.block _ R5z_15).trans R5_15.out)
  have R5z_16 := Nat.lt_of_lt_of_le R5z_15 b.size
  have R5c0_16 := blk_cell R5_16.out 0
  have R5c1_16 := blk_cell R5_16.out 1
  have R5c2_16 := blk_cell R5_16.out 2
  have R6_16 := Lib.hid ((b.block _ R6z_15).trans R6_15.out)
  have R6z_16 := Nat.lt_of_lt_of_le R6z_15 b.size
  have R6c0_16 := blk_cell R6_16.out 0
  have R6c1_16 := blk_cell R6_16.out 1
  have R6c2_16 := blk_cell R6_16.out 2
  have q_16 := q_15.trans (b.mono q_15.size)
  clear P_15 Pz_15 Pc0_15 Pc1_15 Pc2_15 A_15 Az_15 Ac0_15 Ac1_15 Ac2_15 R0_15 R0z_15 R0c0_15 R0c1_15 R0c2_15 R1_15 R1z_15 R1c0_15 R1c1_15 R1c2_15 R2_15 R2z_15 R2c0_15 R2c1_15 R2c2_15 R3_15 R3z_15 R3c0_15 R3c1_15 R3c2_15 R4_15 R4z_15 R4c0_15 R4c1_15 R4c2_15 R5_15 R5z_15 R5c0_15 R5c1_15 R5c2_15 R6_15 R6z_15 R6c0_15 R6c1_15 R6c2_15 q_15
  clear b
  go_wp2_with fail
  have b : Below V16.heap.size V16 (V16.alloc (.cells #[.int .i64 p1, .int .i64 p2, .int .i64 0] 23)) := ((Below.refl _ V16).alloc (Nat.le_refl _) (.cells #[.int .i64 p1, .int .i64 p2, .int .i64 0] 23))
  have nb0 := blk_new V16 (.cells #[.int .i64 p1, .int .i64 p2, .int .i64 0] 23)
  have nz0 : V16.heap.size < (V16.alloc (.cells #[.int .i64 p1, .int .i64 p2, .int .i64 0] 23)).heap.size := by simp only [World.size_alloc]; omega
  have P_17 := Lib.hid ((b.block _ Pz_16).trans P_16.out)
  have Pz_17 := Nat.lt_of_lt_of_le Pz_16 b.size
  have Pc0_17 := blk_cell P_17.out 0
  have Pc1_17 := blk_cell P_17.out 1
  have Pc2_17 := blk_cell P_17.out 2
  have A_17 := Lib.hid ((b.block _ Az_16).trans A_16.out)
  have Az_17 := Nat.lt_of_lt_of_le Az_16 b.size
  have Ac0_17 := blk_cell A_17.out 0
  have Ac1_17 := blk_cell A_17.out 1
  have Ac2_17 := blk_cell A_17.out 2
  have R0_17 := Lib.hid ((b.block _ R0z_16).trans R0_16.out)
  have R0z_17 := Nat.lt_of_lt_of_le R0z_16 b.size
  have R0c0_17 := blk_cell R0_17.out 0
  have R0c1_17 := blk_cell R0_17.out 1
  have R0c2_17 := blk_cell R0_17.out 2
  have R1_17 := Lib.hid ((b.block _ R1z_16).trans R1_16.out)
  have R1z_17 := Nat.lt_of_lt_of_le R1z_16 b.size
  have R1c0_17 := blk_cell R1_17.out 0
  have R1c1_17 := blk_cell R1_17.out 1
  have R1c2_17 := blk_cell R1_17.out 2
  have R2_17 := Lib.hid ((b.block _ R2z_16).trans R2_16.out)
  have R2z_17 := Nat.lt_of_lt_of_le R2z_16 b.size
  have R2c0_17 := blk_cell R2_17.out 0
  have R2c1_17 := blk_cell R2_17.out 1
  have R2c2_17 := blk_cell R2_17.out 2
  have R3_17 := Lib.hid ((b.block _ R3z_16).trans R3_16.out)
  have R3z_17 := Nat.lt_of_lt_of_le R3z_16 b.size
  have R3c0_17 := blk_cell R3_17.out 0
  have R3c1_17 := blk_cell R3_17.out 1
  have R3c2_17 := blk_cell R3_17.out 2
  have R4_17 := Lib.hid ((b.block _ R4z_16).trans R4_16.out)
  have R4z_17 := Nat.lt_of_lt_of_le R4z_16 b.size
  have R4c0_17 := blk_cell R4_17.out 0
  have R4c1_17 := blk_cell R4_17.out 1
  have R4c2_17 := blk_cell R4_17.out 2
  have R5_17 := Lib.hid ((b.block _ R5z_16).trans R5_16.out)
  have R5z_17 := Nat.lt_of_lt_of_le R5z_16 b.size
  have R5c0_17 := blk_cell R5_17.out 0
  have R5c1_17 := blk_cell R5_17.out 1
  have R5c2_17 := blk_cell R5_17.out 2
  have R6_17 := Lib.hid ((b.block _ R6z_16).trans R6_16.out)
  have R6z_17 := Nat.lt_of_lt_of_le R6z_16 b.size
  have R6c0_17 := blk_cell R6_17.out 0
  have R6c1_17 := blk_cell R6_17.out 1
  have R6c2_17 := blk_cell R6_17.out 2
  have q_17 := q_16.trans (b.mono q_16.size)
  clear P_16 Pz_16 Pc0_16 Pc1_16 Pc2_16 A_16 Az_16 Ac0_16 Ac1_16 Ac2_16 R0_16 R0z_16 R0c0_16 R0c1_16 R0c2_16 R1_16 R1z_16 R1c0_16 R1c1_16 R1c2_16 R2_16 R2z_16 R2c0_16 R2c1_16 R2c2_16 R3_16 R3z_16 R3c0_16 R3c1_16 R3c2_16 R4_16 R4z_16 R4c0_16 R4c1_16 R4c2_16 R5_16 R5z_16 R5c0_16 R5c1_16 R5c2_16 R6_16 R6z_16 R6c0_16 R6c1_16 R6c2_16 q_16
  clear b
  have R7_17 := Lib.hid nb0
  have R7z_17 := nz0
  clear nb0 nz0
  have R7c0_17 := blk_cell R7_17.out 0
  have R7c1_17 := blk_cell R7_17.out 1
  have R7c2_17 := blk_cell R7_17.out 2
  generalize (V16.alloc (.cells #[.int .i64 p1, .int .i64 p2, .int .i64 0] 23)) = V17 at q_17 P_17 Pz_17 Pc0_17 Pc1_17 Pc2_17 A_17 Az_17 Ac0_17 Ac1_17 Ac2_17 R0_17 R0z_17 R0c0_17 R0c1_17 R0c2_17 R1_17 R1z_17 R1c0_17 R1c1_17 R1c2_17 R2_17 R2z_17 R2c0_17 R2c1_17 R2c2_17 R3_17 R3z_17 R3c0_17 R3c1_17 R3c2_17 R4_17 R4z_17 R4c0_17 R4c1_17 R4c2_17 R5_17 R5z_17 R5c0_17 R5c1_17 R5c2_17 R6_17 R6z_17 R6c0_17 R6c1_17 R6c2_17 R7_17 R7z_17 R7c0_17 R7c1_17 R7c2_17 ⊢
  go_wp2_with fail
  clear Pc0_17 Pc1_17 Pc2_17
  clear Ac0_17 Ac1_17 Ac2_17
  clear R0c0_17 R0c1_17 R0c2_17
  clear R1c0_17 R1c1_17 R1c2_17
  clear R2c0_17 R2c1_17 R2c2_17
  clear R3c0_17 R3c1_17 R3c2_17
  clear R4c0_17 R4c1_17 R4c2_17
  clear R5c0_17 R5c1_17 R5c2_17
  clear R6c0_17 R6c1_17 R6c2_17
  clear R7c0_17 R7c1_17 R7c2_17
  have P_18 := Lib.hid ((((Below.refl V17.heap.size V17).drew).block _ Pz_17).trans P_17.out)
  have Pz_18 := Nat.lt_of_lt_of_le Pz_17 ((Below.refl V17.heap.size V17).drew).size
  have A_18 := Lib.hid ((((Below.refl V17.heap.size V17).drew).block _ Az_17).trans A_17.out)
  have Az_18 := Nat.lt_of_lt_of_le Az_17 ((Below.refl V17.heap.size V17).drew).size
  have R0_18 := Lib.hid ((((Below.refl V17.heap.size V17).drew).block _ R0z_17).trans R0_17.out)
  have R0z_18 := Nat.lt_of_lt_of_le R0z_17 ((Below.refl V17.heap.size V17).drew).size
  have R1_18 := Lib.hid ((((Below.refl V17.heap.size V17).drew).block _ R1z_17).trans R1_17.out)
  have R1z_18 := Nat.lt_of_lt_of_le R1z_17 ((Below.refl V17.heap.size V17).drew).size
  have R2_18 := Lib.hid ((((Below.refl V17.heap.size V17).drew).block _ R2z_17).trans R2_17.out)
  have R2z_18 := Nat.lt_of_lt_of_le R2z_17 ((Below.refl V17.heap.size V17).drew).size
  have R3_18 := Lib.hid ((((Below.refl V17.heap.size V17).drew).block _ R3z_17).trans R3_17.out)
  have R3z_18 := Nat.lt_of_lt_of_le R3z_17 ((Below.refl V17.heap.size V17).drew).size
  have R4_18 := Lib.hid ((((Below.refl V17.heap.size V17).drew).block _ R4z_17).trans R4_17.out)
  have R4z_18 := Nat.lt_of_lt_of_le R4z_17 ((Below.refl V17.heap.size V17).drew).size
  have R5_18 := Lib.hid ((((Below.refl V17.heap.size V17).drew).block _ R5z_17).trans R5_17.out)
  have R5z_18 := Nat.lt_of_lt_of_le R5z_17 ((Below.refl V17.heap.size V17).drew).size
  have R6_18 := Lib.hid ((((Below.refl V17.heap.size V17).drew).block _ R6z_17).trans R6_17.out)
  have R6z_18 := Nat.lt_of_lt_of_le R6z_17 ((Below.refl V17.heap.size V17).drew).size
  have R7_18 := Lib.hid ((((Below.refl V17.heap.size V17).drew).block _ R7z_17).trans R7_17.out)
  have R7z_18 := Nat.lt_of_lt_of_le R7z_17 ((Below.refl V17.heap.size V17).drew).size
  have q_18 := q_17.trans (((Below.refl V17.heap.size V17).drew).mono q_17.size)
  clear P_17 Pz_17 A_17 Az_17 R0_17 R0z_17 R1_17 R1z_17 R2_17 R2z_17 R3_17 R3z_17 R4_17 R4z_17 R5_17 R5z_17 R6_17 R6z_17 R7_17 R7z_17 q_17
  have SS_18 : Hid (V17.drew.cell? ⟨V2.heap.size, 0, none⟩ = some (.int .i64 x1) ∧ V17.drew.cell? ⟨V2.heap.size, 1, none⟩ = some (.int .i64 x2) ∧ V17.drew.cell? ⟨V2.heap.size, 2, none⟩ = some (.int .i64 x3) ∧ V17.drew.cell? ⟨V4.heap.size, 0, none⟩ = some (.int .i64 x1) ∧ V17.drew.cell? ⟨V4.heap.size, 1, none⟩ = some (.int .i64 x2) ∧ V17.drew.cell? ⟨V4.heap.size, 2, none⟩ = some (.int .i64 x3) ∧ V17.drew.cell? ⟨V6.heap.size, 0, none⟩ = some (.int .i64 y1) ∧ V17.drew.cell? ⟨V6.heap.size, 1, none⟩ = some (.int .i64 y1) ∧ V17.drew.cell? ⟨V6.heap.size, 2, none⟩ = some (.int .i64 0) ∧ V17.drew.cell? ⟨V8.heap.size, 0, none⟩ = some (.int .i64 y1) ∧ V17.drew.cell? ⟨V8.heap.size, 1, none⟩ = some (.int .i64 y1) ∧ V17.drew.cell? ⟨V8.heap.size, 2, none⟩ = some (.int .i64 0) ∧ V17.drew.cell? ⟨V10.heap.size, 0, none⟩ = some (.int .i64 z1) ∧ V17.drew.cell? ⟨V10.heap.size, 1, none⟩ = some (.int .i64 y1) ∧ V17.drew.cell? ⟨V10.heap.size, 2, none⟩ = some (.int .i64 0) ∧ V17.drew.cell? ⟨V12.heap.size, 0, none⟩ = some (.int .i64 z1) ∧ V17.drew.cell? ⟨V12.heap.size, 1, none⟩ = some (.int .i64 y1) ∧ V17.drew.cell? ⟨V12.heap.size, 2, none⟩ = some (.int .i64 0) ∧ V17.drew.cell? ⟨V14.heap.size, 0, none⟩ = some (.int .i64 p1) ∧ V17.drew.cell? ⟨V14.heap.size, 1, none⟩ = some (.int .i64 p2) ∧ V17.drew.cell? ⟨V14.heap.size, 2, none⟩ = some (.int .i64 0) ∧ V17.drew.cell? ⟨V16.heap.size, 0, none⟩ = some (.int .i64 p1) ∧ V17.drew.cell? ⟨V16.heap.size, 1, none⟩ = some (.int .i64 p2) ∧ V17.drew.cell? ⟨V16.heap.size, 2, none⟩ = some (.int .i64 0) ∧ V17.drew.cell? ⟨w.heap.size + 1, 0, none⟩ = some (.int .i64 c) ∧ V17.drew.cell? ⟨w.heap.size + 1, 1, none⟩ = some (.int .i64 t) ∧ V17.drew.cell? ⟨w.heap.size + 1, 2, none⟩ = some (.int .i64 a) ∧ V17.drew.cell? ⟨w.heap.size, 0, none⟩ = some (.int .i64 c) ∧ V17.drew.cell? ⟨w.heap.size, 1, none⟩ = some (.int .i64 t) ∧ V17.drew.cell? ⟨w.heap.size, 2, none⟩ = some (.int .i64 a)) := Lib.hid ⟨blk_cell R0_18.out 0, blk_cell R0_18.out 1, blk_cell R0_18.out 2, blk_cell R1_18.out 0, blk_cell R1_18.out 1, blk_cell R1_18.out 2, blk_cell R2_18.out 0, blk_cell R2_18.out 1, blk_cell R2_18.out 2, blk_cell R3_18.out 0, blk_cell R3_18.out 1, blk_cell R3_18.out 2, blk_cell R4_18.out 0, blk_cell R4_18.out 1, blk_cell R4_18.out 2, blk_cell R5_18.out 0, blk_cell R5_18.out 1, blk_cell R5_18.out 2, blk_cell R6_18.out 0, blk_cell R6_18.out 1, blk_cell R6_18.out 2, blk_cell R7_18.out 0, blk_cell R7_18.out 1, blk_cell R7_18.out 2, blk_cell A_18.out 0, blk_cell A_18.out 1, blk_cell A_18.out 2, blk_cell P_18.out 0, blk_cell P_18.out 1, blk_cell P_18.out 2⟩
  go_region_held3 (fun W' => W'.cell? ⟨V2.heap.size, 0, none⟩ = some (.int .i64 x1) ∧ W'.cell? ⟨V2.heap.size, 1, none⟩ = some (.int .i64 x2) ∧ W'.cell? ⟨V2.heap.size, 2, none⟩ = some (.int .i64 x3) ∧ W'.cell? ⟨V4.heap.size, 0, none⟩ = some (.int .i64 x1) ∧ W'.cell? ⟨V4.heap.size, 1, none⟩ = some (.int .i64 x2) ∧ W'.cell? ⟨V4.heap.size, 2, none⟩ = some (.int .i64 x3) ∧ W'.cell? ⟨V6.heap.size, 0, none⟩ = some (.int .i64 y1) ∧ W'.cell? ⟨V6.heap.size, 1, none⟩ = some (.int .i64 y1) ∧ W'.cell? ⟨V6.heap.size, 2, none⟩ = some (.int .i64 0) ∧ W'.cell? ⟨V8.heap.size, 0, none⟩ = some (.int .i64 y1) ∧ W'.cell? ⟨V8.heap.size, 1, none⟩ = some (.int .i64 y1) ∧ W'.cell? ⟨V8.heap.size, 2, none⟩ = some (.int .i64 0) ∧ W'.cell? ⟨V10.heap.size, 0, none⟩ = some (.int .i64 z1) ∧ W'.cell? ⟨V10.heap.size, 1, none⟩ = some (.int .i64 y1) ∧ W'.cell? ⟨V10.heap.size, 2, none⟩ = some (.int .i64 0) ∧ W'.cell? ⟨V12.heap.size, 0, none⟩ = some (.int .i64 z1) ∧ W'.cell? ⟨V12.heap.size, 1, none⟩ = some (.int .i64 y1) ∧ W'.cell? ⟨V12.heap.size, 2, none⟩ = some (.int .i64 0) ∧ W'.cell? ⟨V14.heap.size, 0, none⟩ = some (.int .i64 p1) ∧ W'.cell? ⟨V14.heap.size, 1, none⟩ = some (.int .i64 p2) ∧ W'.cell? ⟨V14.heap.size, 2, none⟩ = some (.int .i64 0) ∧ W'.cell? ⟨V16.heap.size, 0, none⟩ = some (.int .i64 p1) ∧ W'.cell? ⟨V16.heap.size, 1, none⟩ = some (.int .i64 p2) ∧ W'.cell? ⟨V16.heap.size, 2, none⟩ = some (.int .i64 0) ∧ W'.cell? ⟨w.heap.size + 1, 0, none⟩ = some (.int .i64 c) ∧ W'.cell? ⟨w.heap.size + 1, 1, none⟩ = some (.int .i64 t) ∧ W'.cell? ⟨w.heap.size + 1, 2, none⟩ = some (.int .i64 a) ∧ W'.cell? ⟨w.heap.size, 0, none⟩ = some (.int .i64 c) ∧ W'.cell? ⟨w.heap.size, 1, none⟩ = some (.int .i64 t) ∧ W'.cell? ⟨w.heap.size, 2, none⟩ = some (.int .i64 a)) (first | (with_reducible exact SS_21.out) | (with_reducible exact SS_20.out) | (with_reducible exact SS_19.out) | (with_reducible exact SS_18.out) | go_keep) (first
    | (go_at_call 15; refine (num_any _ _).mono ?_; rintro e w' ⟨rfl, rfl⟩)
    | (go_at_call 16; (with_reducible refine (check_l c t a m G HG.out _).mono ?_); rintro e V18 ⟨rfl, b⟩; have P_19 := Lib.hid ((b.block _ Pz_18).trans P_18.out); have Pz_19 := Nat.lt_of_lt_of_le Pz_18 b.size; have A_19 := Lib.hid ((b.block _ Az_18).trans A_18.out); have Az_19 := Nat.lt_of_lt_of_le Az_18 b.size; have R0_19 := Lib.hid ((b.block _ R0z_18).trans R0_18.out); have R0z_19 := Nat.lt_of_lt_of_le R0z_18 b.size; have R1_19 := Lib.hid ((b.block _ R1z_18).trans R1_18.out); have R1z_19 := Nat.lt_of_lt_of_le R1z_18 b.size; have R2_19 := Lib.hid ((b.block _ R2z_18).trans R2_18.out); have R2z_19 := Nat.lt_of_lt_of_le R2z_18 b.size; have R3_19 := Lib.hid ((b.block _ R3z_18).trans R3_18.out); have R3z_19 := Nat.lt_of_lt_of_le R3z_18 b.size; have R4_19 := Lib.hid ((b.block _ R4z_18).trans R4_18.out); have R4z_19 := Nat.lt_of_lt_of_le R4z_18 b.size; have R5_19 := Lib.hid ((b.block _ R5z_18).trans R5_18.out); have R5z_19 := Nat.lt_of_lt_of_le R5z_18 b.size; have R6_19 := Lib.hid ((b.block _ R6z_18).trans R6_18.out); have R6z_19 := Nat.lt_of_lt_of_le R6z_18 b.size; have R7_19 := Lib.hid ((b.block _ R7z_18).trans R7_18.out); have R7z_19 := Nat.lt_of_lt_of_le R7z_18 b.size; have q_19 := q_18.trans (b.mono q_18.size); clear P_18 Pz_18 A_18 Az_18 R0_18 R0z_18 R1_18 R1z_18 R2_18 R2z_18 R3_18 R3z_18 R4_18 R4z_18 R5_18 R5z_18 R6_18 R6z_18 R7_18 R7z_18 q_18; clear b; have SS_19 : Hid (V18.cell? ⟨V2.heap.size, 0, none⟩ = some (.int .i64 x1) ∧ V18.cell? ⟨V2.heap.size, 1, none⟩ = some (.int .i64 x2) ∧ V18.cell? ⟨V2.heap.size, 2, none⟩ = some (.int .i64 x3) ∧ V18.cell? ⟨V4.heap.size, 0, none⟩ = some (.int .i64 x1) ∧ V18.cell? ⟨V4.heap.size, 1, none⟩ = some (.int .i64 x2) ∧ V18.cell? ⟨V4.heap.size, 2, none⟩ = some (.int .i64 x3) ∧ V18.cell? ⟨V6.heap.size, 0, none⟩ = some (.int .i64 y1) ∧ V18.cell? ⟨V6.heap.size, 1, none⟩ = some (.int .i64 y1) ∧ V18.cell? ⟨V6.heap.size, 2, none⟩ = some (.int .i64 0) ∧ V18.cell? ⟨V8.heap.size, 0, none⟩ = some (.int .i64 y1) ∧ V18.cell? ⟨V8.heap.size, 1, none⟩ = some (.int .i64 y1) ∧ V18.cell? ⟨V8.heap.size, 2, none⟩ = some (.int .i64 0) ∧ V18.cell? ⟨V10.heap.size, 0, none⟩ = some (.int .i64 z1) ∧ V18.cell? ⟨V10.heap.size, 1, none⟩ = some (.int .i64 y1) ∧ V18.cell? ⟨V10.heap.size, 2, none⟩ = some (.int .i64 0) ∧ V18.cell? ⟨V12.heap.size, 0, none⟩ = some (.int .i64 z1) ∧ V18.cell? ⟨V12.heap.size, 1, none⟩ = some (.int .i64 y1) ∧ V18.cell? ⟨V12.heap.size, 2, none⟩ = some (.int .i64 0) ∧ V18.cell? ⟨V14.heap.size, 0, none⟩ = some (.int .i64 p1) ∧ V18.cell? ⟨V14.heap.size, 1, none⟩ = some (.int .i64 p2) ∧ V18.cell? ⟨V14.heap.size, 2, none⟩ = some (.int .i64 0) ∧ V18.cell? ⟨V16.heap.size, 0, none⟩ = some (.int .i64 p1) ∧ V18.cell? ⟨V16.heap.size, 1, none⟩ = some (.int .i64 p2) ∧ V18.cell? ⟨V16.heap.size, 2, none⟩ = some (.int .i64 0) ∧ V18.cell? ⟨w.heap.size + 1, 0, none⟩ = some (.int .i64 c) ∧ V18.cell? ⟨w.heap.size + 1, 1, none⟩ = some (.int .i64 t) ∧ V18.cell? ⟨w.heap.size + 1, 2, none⟩ = some (.int .i64 a) ∧ V18.cell? ⟨w.heap.size, 0, none⟩ = some (.int .i64 c) ∧ V18.cell? ⟨w.heap.size, 1, none⟩ = some (.int .i64 t) ∧ V18.cell? ⟨w.heap.size, 2, none⟩ = some (.int .i64 a)) := Lib.hid ⟨blk_cell R0_19.out 0, blk_cell R0_19.out 1, blk_cell R0_19.out 2, blk_cell R1_19.out 0, blk_cell R1_19.out 1, blk_cell R1_19.out 2, blk_cell R2_19.out 0, blk_cell R2_19.out 1, blk_cell R2_19.out 2, blk_cell R3_19.out 0, blk_cell R3_19.out 1, blk_cell R3_19.out 2, blk_cell R4_19.out 0, blk_cell R4_19.out 1, blk_cell R4_19.out 2, blk_cell R5_19.out 0, blk_cell R5_19.out 1, blk_cell R5_19.out 2, blk_cell R6_19.out 0, blk_cell R6_19.out 1, blk_cell R6_19.out 2, blk_cell R7_19.out 0, blk_cell R7_19.out 1, blk_cell R7_19.out 2, blk_cell A_19.out 0, blk_cell A_19.out 1, blk_cell A_19.out 2, blk_cell P_19.out 0, blk_cell P_19.out 1, blk_cell P_19.out 2⟩)
    | (go_at_call 17; (with_reducible refine (rcheck_l c t a m G HG.out _).mono ?_); rintro e V19 ⟨rfl, b⟩; have P_20 := Lib.hid ((b.block _ Pz_19).trans P_19.out); have Pz_20 := Nat.lt_of_lt_of_le Pz_19 b.size; have A_20 := Lib.hid ((b.block _ Az_19).trans A_19.out); have Az_20 := Nat.lt_of_lt_of_le Az_19 b.size; have R0_20 := Lib.hid ((b.block _ R0z_19).trans R0_19.out); have R0z_20 := Nat.lt_of_lt_of_le R0z_19 b.size; have R1_20 := Lib.hid ((b.block _ R1z_19).trans R1_19.out); have R1z_20 := Nat.lt_of_lt_of_le R1z_19 b.size; have R2_20 := Lib.hid ((b.block _ R2z_19).trans R2_19.out); have R2z_20 := Nat.lt_of_lt_of_le R2z_19 b.size; have R3_20 := Lib.hid ((b.block _ R3z_19).trans R3_19.out); have R3z_20 := Nat.lt_of_lt_of_le R3z_19 b.size; have R4_20 := Lib.hid ((b.block _ R4z_19).trans R4_19.out); have R4z_20 := Nat.lt_of_lt_of_le R4z_19 b.size; have R5_20 := Lib.hid ((b.block _ R5z_19).trans R5_19.out); have R5z_20 := Nat.lt_of_lt_of_le R5z_19 b.size; have R6_20 := Lib.hid ((b.block _ R6z_19).trans R6_19.out); have R6z_20 := Nat.lt_of_lt_of_le R6z_19 b.size; have R7_20 := Lib.hid ((b.block _ R7z_19).trans R7_19.out); have R7z_20 := Nat.lt_of_lt_of_le R7z_19 b.size; have q_20 := q_19.trans (b.mono q_19.size); clear P_19 Pz_19 A_19 Az_19 R0_19 R0z_19 R1_19 R1z_19 R2_19 R2z_19 R3_19 R3z_19 R4_19 R4z_19 R5_19 R5z_19 R6_19 R6z_19 R7_19 R7z_19 q_19; clear b; have SS_20 : Hid (V19.cell? ⟨V2.heap.size, 0, none⟩ = some (.int .i64 x1) ∧ V19.cell? ⟨V2.heap.size, 1, none⟩ = some (.int .i64 x2) ∧ V19.cell? ⟨V2.heap.size, 2, none⟩ = some (.int .i64 x3) ∧ V19.cell? ⟨V4.heap.size, 0, none⟩ = some (.int .i64 x1) ∧ V19.cell? ⟨V4.heap.size, 1, none⟩ = some (.int .i64 x2) ∧ V19.cell? ⟨V4.heap.size, 2, none⟩ = some (.int .i64 x3) ∧ V19.cell? ⟨V6.heap.size, 0, none⟩ = some (.int .i64 y1) ∧ V19.cell? ⟨V6.heap.size, 1, none⟩ = some (.int .i64 y1) ∧ V19.cell? ⟨V6.heap.size, 2, none⟩ = some (.int .i64 0) ∧ V19.cell? ⟨V8.heap.size, 0, none⟩ = some (.int .i64 y1) ∧ V19.cell? ⟨V8.heap.size, 1, none⟩ = some (.int .i64 y1) ∧ V19.cell? ⟨V8.heap.size, 2, none⟩ = some (.int .i64 0) ∧ V19.cell? ⟨V10.heap.size, 0, none⟩ = some (.int .i64 z1) ∧ V19.cell? ⟨V10.heap.size, 1, none⟩ = some (.int .i64 y1) ∧ V19.cell? ⟨V10.heap.size, 2, none⟩ = some (.int .i64 0) ∧ V19.cell? ⟨V12.heap.size, 0, none⟩ = some (.int .i64 z1) ∧ V19.cell? ⟨V12.heap.size, 1, none⟩ = some (.int .i64 y1) ∧ V19.cell? ⟨V12.heap.size, 2, none⟩ = some (.int .i64 0) ∧ V19.cell? ⟨V14.heap.size, 0, none⟩ = some (.int .i64 p1) ∧ V19.cell? ⟨V14.heap.size, 1, none⟩ = some (.int .i64 p2) ∧ V19.cell? ⟨V14.heap.size, 2, none⟩ = some (.int .i64 0) ∧ V19.cell? ⟨V16.heap.size, 0, none⟩ = some (.int .i64 p1) ∧ V19.cell? ⟨V16.heap.size, 1, none⟩ = some (.int .i64 p2) ∧ V19.cell? ⟨V16.heap.size, 2, none⟩ = some (.int .i64 0) ∧ V19.cell? ⟨w.heap.size + 1, 0, none⟩ = some (.int .i64 c) ∧ V19.cell? ⟨w.heap.size + 1, 1, none⟩ = some (.int .i64 t) ∧ V19.cell? ⟨w.heap.size + 1, 2, none⟩ = some (.int .i64 a) ∧ V19.cell? ⟨w.heap.size, 0, none⟩ = some (.int .i64 c) ∧ V19.cell? ⟨w.heap.size, 1, none⟩ = some (.int .i64 t) ∧ V19.cell? ⟨w.heap.size, 2, none⟩ = some (.int .i64 a)) := Lib.hid ⟨blk_cell R0_20.out 0, blk_cell R0_20.out 1, blk_cell R0_20.out 2, blk_cell R1_20.out 0, blk_cell R1_20.out 1, blk_cell R1_20.out 2, blk_cell R2_20.out 0, blk_cell R2_20.out 1, blk_cell R2_20.out 2, blk_cell R3_20.out 0, blk_cell R3_20.out 1, blk_cell R3_20.out 2, blk_cell R4_20.out 0, blk_cell R4_20.out 1, blk_cell R4_20.out 2, blk_cell R5_20.out 0, blk_cell R5_20.out 1, blk_cell R5_20.out 2, blk_cell R6_20.out 0, blk_cell R6_20.out 1, blk_cell R6_20.out 2, blk_cell R7_20.out 0, blk_cell R7_20.out 1, blk_cell R7_20.out 2, blk_cell A_20.out 0, blk_cell A_20.out 1, blk_cell A_20.out 2, blk_cell P_20.out 0, blk_cell P_20.out 1, blk_cell P_20.out 2⟩)
    | (go_at_call 18; (with_reducible refine (alive_any _).mono ?_); rintro e V20 ⟨rfl, b⟩; have P_21 := Lib.hid ((b.block _ Pz_20).trans P_20.out); have Pz_21 := Nat.lt_of_lt_of_le Pz_20 b.size; have A_21 := Lib.hid ((b.block _ Az_20).trans A_20.out); have Az_21 := Nat.lt_of_lt_of_le Az_20 b.size; have R0_21 := Lib.hid ((b.block _ R0z_20).trans R0_20.out); have R0z_21 := Nat.lt_of_lt_of_le R0z_20 b.size; have R1_21 := Lib.hid ((b.block _ R1z_20).trans R1_20.out); have R1z_21 := Nat.lt_of_lt_of_le R1z_20 b.size; have R2_21 := Lib.hid ((b.block _ R2z_20).trans R2_20.out); have R2z_21 := Nat.lt_of_lt_of_le R2z_20 b.size; have R3_21 := Lib.hid ((b.block _ R3z_20).trans R3_20.out); have R3z_21 := Nat.lt_of_lt_of_le R3z_20 b.size; have R4_21 := Lib.hid ((b.block _ R4z_20).trans R4_20.out); have R4z_21 := Nat.lt_of_lt_of_le R4z_20 b.size; have R5_21 := Lib.hid ((b.block _ R5z_20).trans R5_20.out); have R5z_21 := Nat.lt_of_lt_of_le R5z_20 b.size; have R6_21 := Lib.hid ((b.block _ R6z_20).trans R6_20.out); have R6z_21 := Nat.lt_of_lt_of_le R6z_20 b.size; have R7_21 := Lib.hid ((b.block _ R7z_20).trans R7_20.out); have R7z_21 := Nat.lt_of_lt_of_le R7z_20 b.size; have q_21 := q_20.trans (b.mono q_20.size); clear P_20 Pz_20 A_20 Az_20 R0_20 R0z_20 R1_20 R1z_20 R2_20 R2z_20 R3_20 R3z_20 R4_20 R4z_20 R5_20 R5z_20 R6_20 R6z_20 R7_20 R7z_20 q_20; clear b; have SS_21 : Hid (V20.cell? ⟨V2.heap.size, 0, none⟩ = some (.int .i64 x1) ∧ V20.cell? ⟨V2.heap.size, 1, none⟩ = some (.int .i64 x2) ∧ V20.cell? ⟨V2.heap.size, 2, none⟩ = some (.int .i64 x3) ∧ V20.cell? ⟨V4.heap.size, 0, none⟩ = some (.int .i64 x1) ∧ V20.cell? ⟨V4.heap.size, 1, none⟩ = some (.int .i64 x2) ∧ V20.cell? ⟨V4.heap.size, 2, none⟩ = some (.int .i64 x3) ∧ V20.cell? ⟨V6.heap.size, 0, none⟩ = some (.int .i64 y1) ∧ V20.cell? ⟨V6.heap.size, 1, none⟩ = some (.int .i64 y1) ∧ V20.cell? ⟨V6.heap.size, 2, none⟩ = some (.int .i64 0) ∧ V20.cell? ⟨V8.heap.size, 0, none⟩ = some (.int .i64 y1) ∧ V20.cell? ⟨V8.heap.size, 1, none⟩ = some (.int .i64 y1) ∧ V20.cell? ⟨V8.heap.size, 2, none⟩ = some (.int .i64 0) ∧ V20.cell? ⟨V10.heap.size, 0, none⟩ = some (.int .i64 z1) ∧ V20.cell? ⟨V10.heap.size, 1, none⟩ = some (.int .i64 y1) ∧ V20.cell? ⟨V10.heap.size, 2, none⟩ = some (.int .i64 0) ∧ V20.cell? ⟨V12.heap.size, 0, none⟩ = some (.int .i64 z1) ∧ V20.cell? ⟨V12.heap.size, 1, none⟩ = some (.int .i64 y1) ∧ V20.cell? ⟨V12.heap.size, 2, none⟩ = some (.int .i64 0) ∧ V20.cell? ⟨V14.heap.size, 0, none⟩ = some (.int .i64 p1) ∧ V20.cell? ⟨V14.heap.size, 1, none⟩ = some (.int .i64 p2) ∧ V20.cell? ⟨V14.heap.size, 2, none⟩ = some (.int .i64 0) ∧ V20.cell? ⟨V16.heap.size, 0, none⟩ = some (.int .i64 p1) ∧ V20.cell? ⟨V16.heap.size, 1, none⟩ = some (.int .i64 p2) ∧ V20.cell? ⟨V16.heap.size, 2, none⟩ = some (.int .i64 0) ∧ V20.cell? ⟨w.heap.size + 1, 0, none⟩ = some (.int .i64 c) ∧ V20.cell? ⟨w.heap.size + 1, 1, none⟩ = some (.int .i64 t) ∧ V20.cell? ⟨w.heap.size + 1, 2, none⟩ = some (.int .i64 a) ∧ V20.cell? ⟨w.heap.size, 0, none⟩ = some (.int .i64 c) ∧ V20.cell? ⟨w.heap.size, 1, none⟩ = some (.int .i64 t) ∧ V20.cell? ⟨w.heap.size, 2, none⟩ = some (.int .i64 a)) := Lib.hid ⟨blk_cell R0_21.out 0, blk_cell R0_21.out 1, blk_cell R0_21.out 2, blk_cell R1_21.out 0, blk_cell R1_21.out 1, blk_cell R1_21.out 2, blk_cell R2_21.out 0, blk_cell R2_21.out 1, blk_cell R2_21.out 2, blk_cell R3_21.out 0, blk_cell R3_21.out 1, blk_cell R3_21.out 2, blk_cell R4_21.out 0, blk_cell R4_21.out 1, blk_cell R4_21.out 2, blk_cell R5_21.out 0, blk_cell R5_21.out 1, blk_cell R5_21.out 2, blk_cell R6_21.out 0, blk_cell R6_21.out 1, blk_cell R6_21.out 2, blk_cell R7_21.out 0, blk_cell R7_21.out 1, blk_cell R7_21.out 2, blk_cell A_21.out 0, blk_cell A_21.out 1, blk_cell A_21.out 2, blk_cell P_21.out 0, blk_cell P_21.out 1, blk_cell P_21.out 2⟩))
  all_goals
    clear SS_18 SS_19 SS_20 SS_21
    go_wp2
    go_ret
    exact ⟨rfl, q_21⟩

theorem of_len3 {α : Type} (l : List α) (h : l.length = 3) : ∃ x0 x1 x2, l = [x0, x1, x2] := by
  match l, h with
  | [x0, x1, x2], _ => exact ⟨x0, x1, x2, rfl⟩
theorem own : ownKnob Try.prog.godebug = none := by kernel_rfl
theorem laidOut : laidOutB Try.prog = true := by kernel_rfl

set_option maxRecDepth 100000 in
set_option maxHeartbeats 2000000 in
theorem lifted (os : Os) (started : os.Started) (H : Type) (enc : TypeId × Value → H) :
    ReturnsInHanded {} Try.checked os 3 .any (Rows.renoTellsSpec.pre6 enc Try.prog Try.f3 Rows.renoTellsRow.domain false) (Rows.renoTellsSpec.post enc Try.prog Try.f3 false true false false) := by
  refine returnsInHanded_of_change_sized (C := Try.checked) own started (by kernel_rfl) Try.func3
    (ChangeSpec.witness6 (enc := enc) (C := Try.checked) false ⟨#[], #[.agg #[.int .i64 0, .int .i64 0, .int .i64 0], .int .i64 0, .int .i64 0], []⟩ 8 (by kernel_rfl) (by kernel_rfl) (by kernel_rfl) (by kernel_rfl)) ?_
  intro W base args ds gs before hval0 hW hcnd hsz0 _
  have hval : ∀ (j : Nat) t v, Try.f3.params[j]? = some t → args[j]? = some v → Value.okWide Try.prog W .any base t v := hval0
  have hW' := hW
  obtain ⟨p, q, hA0, hV, rfl, hfz, hnd⟩ := hW
  have hA : DataW.TrodAll enc Try.prog W 0 (fun _ => true) true Try.f3.params.toList args.toList ds p := hA0
  rw [Try.params3] at hA hval
  obtain ⟨v0, vs0, d0, ds0, p0, q0, hargs, rfl, rfl, h0, r0⟩ := trodAll_cons hA
  obtain ⟨v1, vs1, d1, ds1, p1, q1, rfl, rfl, rfl, h1, r1⟩ := trodAll_cons r0
  obtain ⟨v2, vs2, d2, ds2, p2, q2, rfl, rfl, rfl, h2, r2⟩ := trodAll_cons r1
  obtain ⟨rfl, rfl, rfl⟩ := trodAll_nil r2
  obtain rfl : args = #[v0, v1, v2] := by cases args; simp_all
  obtain ⟨rfl, rfl⟩ := trodVars_none hV
  have k0 := h0
  have lt0 : ∀ x ∈ p0, x.block < W.heap.size := by obtain ⟨m, hm⟩ := k0; exact DataW.trod_lt m _ _ _ hm
  obtain ⟨vs0', ys0', m0, rfl, lv0, ly0, hd0, F0⟩ := open_agg Try.underlying23 (by kernel_rfl) (by kernel_rfl) (hval 0 23 v0 rfl rfl) h0
  obtain ⟨c0_0, c0_1, c0_2, rfl⟩ := of_len3 _ lv0
  obtain ⟨y0_0, y0_1, y0_2, rfl⟩ := of_len3 _ ly0
  simp only [List.map_cons, List.map_nil] at hd0
  obtain ⟨_, _, e, g, t0_0⟩ := F0 0 _ rfl
  obtain rfl := Option.some.inj e; obtain rfl := Option.some.inj g; clear e g
  obtain ⟨z0_0, e, _, w0_0⟩ := DataW.trod_int Try.underlying3 t0_0
  obtain rfl := (List.cons.inj e).1; clear e
  obtain ⟨lo0_0, hi0_0⟩ := bounds_i64 w0_0
  obtain ⟨_, _, e, g, t0_1⟩ := F0 1 _ rfl
  obtain rfl := Option.some.inj e; obtain rfl := Option.some.inj g; clear e g
  obtain ⟨z0_1, e, _, w0_1⟩ := DataW.trod_int Try.underlying3 t0_1
  obtain rfl := (List.cons.inj e).1; clear e
  obtain ⟨lo0_1, hi0_1⟩ := bounds_i64 w0_1
  obtain ⟨_, _, e, g, t0_2⟩ := F0 2 _ rfl
  obtain rfl := Option.some.inj e; obtain rfl := Option.some.inj g; clear e g
  obtain ⟨z0_2, e, _, w0_2⟩ := DataW.trod_int Try.underlying3 t0_2
  obtain rfl := (List.cons.inj e).1; clear e
  obtain ⟨lo0_2, hi0_2⟩ := bounds_i64 w0_2
  obtain ⟨a1, rfl, rfl, rfl, w1⟩ := open_int Try.underlying3 (hval 1 3 v1 rfl rfl) h1
  obtain ⟨a2, rfl, rfl, rfl, w2⟩ := open_int Try.underlying3 (hval 2 3 v2 rfl rfl) h2
  clear hA0
  obtain ⟨lo1, hi1⟩ := bounds_i64 w1
  obtain ⟨lo2, hi2⟩ := bounds_i64 w2
  refine (walk z0_0 z0_1 z0_2 a1 a2 W lo0_0 hi0_0 lo0_1 hi0_1 lo0_2 hi0_2 lo1 hi1 lo2 hi2).mono fun e W' ⟨he, bel⟩ => ?_
  subst he
  exact ⟨_, rfl, _, _, _, [], _, [], hW', trodAll_mk1 (shut_bool Try.underlying4 _), (trodAll_cons_mk (Below.trod laidOut (by kernel_rfl) (of_decide_eq_true (by kernel_rfl)) k0 bel lt0) (trodAll_cons_mk (shut_int Try.underlying3 w1) (trodAll_cons_mk (shut_int Try.underlying3 w2) trodAll_mk0))), rfl, bel.frame _, fun h => by cases h⟩

theorem over : Rows.renoTellsRow.holds Try.pinned (OpenSpec.ofChange Rows.renoTellsSpec) :=
  OpenClaim.holds_of_wide 3 Try.f3 rfl rfl rfl rfl rfl rfl rfl ⟨rfl, rfl, rfl, rfl, rfl⟩ rfl rfl rfl rfl rfl (by kernel_rfl) Try.func3 (by kernel_rfl)
    (of_decide_eq_true (by kernel_rfl)) (by unfold Func.isWrapper; first | (rw [if_pos (by decide +kernel)]; kernel_rfl) | (rw [if_neg (by decide +kernel)]; exact ⟨rfl, rfl⟩))
    (fun os started H enc _ => lifted os started H enc)

end Go.Proofs.Ytmjcckpppflpjaa.renoTells
namespace Go.Proofs.Ytmjcckpppflpjaa
/-- The statement. -/
theorem renoTells_holds : Rows.RenoTellsSaid := renoTells.over
#print axioms renoTells_holds
end Go.Proofs.Ytmjcckpppflpjaa
