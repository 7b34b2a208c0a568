/- For every state and every numbers: what may be sent, and what follows, are the page's. No condition. -/
import Derived.Test.YtmlmachbhhomfaaRows
import Derived.Test.YtmlmachbhhomfaaPrA
import Derived.Test.YtmlmachbhhomfaaGAgg
import Derived.Deep.DeepCutAuto
import Derived.RegionTactic
import Derived.Deep.RegionHeld3
import Derived.ProofKit
import Derived.OpenShut
import Derived.ChangeOld
import Derived.SizedLaws
namespace Go.Proofs.Ytmlmachbhhomfaa.prrTells
open Go.ChangeShapes Go.WideShapes Go.ChangeAt Go.RowKit Go.Deep Go.Proofs.Ytmlmachbhhomfaa.Pr

set_option maxRecDepth 100000 in
set_option maxHeartbeats 8000000 in
theorem walk (t f d o n p m fl th : Int) (w : World) (_t_l : -9223372036854775808 ≤ t) (_t_h : t ≤ 9223372036854775807) (_f_l : -9223372036854775808 ≤ f) (_f_h : f ≤ 9223372036854775807) (_d_l : -9223372036854775808 ≤ d) (_d_h : d ≤ 9223372036854775807) (_o_l : -9223372036854775808 ≤ o) (_o_h : o ≤ 9223372036854775807) (_n_l : -9223372036854775808 ≤ n) (_n_h : n ≤ 9223372036854775807) (_p_l : -9223372036854775808 ≤ p) (_p_h : p ≤ 9223372036854775807) (_m_l : -9223372036854775808 ≤ m) (_m_h : m ≤ 9223372036854775807) (_fl_l : -9223372036854775808 ≤ fl) (_fl_h : fl ≤ 9223372036854775807) (_th_l : -9223372036854775808 ≤ th) (_th_h : th ≤ 9223372036854775807) :
    Calls Try.prog 3 #[.agg #[.int .i64 t, .int .i64 f, .int .i64 d, .int .i64 o], .int .i64 n, .int .i64 p, .int .i64 m, .int .i64 fl, .int .i64 th] w fun e w' => e = .returned (.bool true) ∧ Below w.heap.size w w' := by
  have q_0 := Below.refl w.heap.size w
  obtain ⟨E, hE⟩ : ∃ z, aE t f d o n p m = z := ⟨_, rfl⟩
  obtain ⟨G, hG⟩ : ∃ z, sE t f d o n = z := ⟨_, rfl⟩
  obtain ⟨J, hJ⟩ : ∃ z, bE fl th = z := ⟨_, rfl⟩
  obtain ⟨x1, hx1⟩ : ∃ z, zE E t = z := ⟨_, rfl⟩
  obtain ⟨x2, hx2⟩ : ∃ z, zE E f = z := ⟨_, rfl⟩
  obtain ⟨x3, hx3⟩ : ∃ z, zE E (min (d + n) 2147483648) = z := ⟨_, rfl⟩
  obtain ⟨x4, hx4⟩ : ∃ z, zE E o = z := ⟨_, rfl⟩
  obtain ⟨y, hy⟩ : ∃ z, zE E (kK t f d o n p m) = z := ⟨_, rfl⟩
  obtain ⟨u1, hu1⟩ : ∃ z, zE G t = z := ⟨_, rfl⟩
  obtain ⟨u2, hu2⟩ : ∃ z, zE G f = z := ⟨_, rfl⟩
  obtain ⟨u3, hu3⟩ : ∃ z, zE G d = z := ⟨_, rfl⟩
  obtain ⟨u4, hu4⟩ : ∃ z, zE G (min (o + n) 2147483648) = z := ⟨_, rfl⟩
  obtain ⟨c1, hc1⟩ : ∃ z, zE J th = z := ⟨_, rfl⟩
  obtain ⟨c2, hc2⟩ : ∃ z, zE J fl = z := ⟨_, rfl⟩
  have HE := Lib.hid hE
  clear hE
  have HG := Lib.hid hG
  clear hG
  have HJ := Lib.hid hJ
  clear hJ
  have Hx1 := Lib.hid hx1
  clear hx1
  have Hx2 := Lib.hid hx2
  clear hx2
  have Hx3 := Lib.hid hx3
  clear hx3
  have Hx4 := Lib.hid hx4
  clear hx4
  have Hy := Lib.hid hy
  clear hy
  have Hu1 := Lib.hid hu1
  clear hu1
  have Hu2 := Lib.hid hu2
  clear hu2
  have Hu3 := Lib.hid hu3
  clear hu3
  have Hu4 := Lib.hid hu4
  clear hu4
  have Hc1 := Lib.hid hc1
  clear hc1
  have Hc2 := Lib.hid hc2
  clear hc2
  go_enter Try.func3, Try.ntmps3
  go_wp2_with fail
  have b : Below w.heap.size w (w.alloc (.cells #[.int .i64 t, .int .i64 f, .int .i64 d, .int .i64 o] 23)) := ((Below.refl _ w).alloc (Nat.le_refl _) (.cells #[.int .i64 t, .int .i64 f, .int .i64 d, .int .i64 o] 23))
  have nb0 := blk_new w (.cells #[.int .i64 t, .int .i64 f, .int .i64 d, .int .i64 o] 23)
  have nz0 : w.heap.size < (w.alloc (.cells #[.int .i64 t, .int .i64 f, .int .i64 d, .int .i64 o] 23)).heap.size := by simp only [World.size_alloc]; omega
  have q_1 := q_0.trans (b.mono q_0.size)
  clear q_0
  clear b
  have P_1 := Lib.hid nb0
  have Pz_1 := nz0
  clear nb0 nz0
  have Pc0_1 := blk_cell P_1.out 0
  have Pc1_1 := blk_cell P_1.out 1
  have Pc2_1 := blk_cell P_1.out 2
  have Pc3_1 := blk_cell P_1.out 3
  generalize (w.alloc (.cells #[.int .i64 t, .int .i64 f, .int .i64 d, .int .i64 o] 23)) = V1 at q_1 P_1 Pz_1 Pc0_1 Pc1_1 Pc2_1 Pc3_1 ⊢
  refine (ack_l t f d o n p m E x1 x2 x3 x4 y HE.out Hx1.out Hx2.out Hx3.out Hx4.out Hy.out _).mono ?_
  rintro e V2 ⟨rfl, b⟩
  have P_2 := Lib.hid ((b.block _ Pz_1).trans P_1.out)
  have Pz_2 := Nat.lt_of_lt_of_le Pz_1 b.size
  have Pc0_2 := blk_cell P_2.out 0
  have Pc1_2 := blk_cell P_2.out 1
  have Pc2_2 := blk_cell P_2.out 2
  have Pc3_2 := blk_cell P_2.out 3
  have q_2 := q_1.trans (b.mono q_1.size)
  clear P_1 Pz_1 Pc0_1 Pc1_1 Pc2_1 Pc3_1 q_1
  clear b
  go_wp2_with fail
  have b : Below V2.heap.size V2 (V2.alloc (.cells #[.int .i64 x1, .int .i64 x2, .int .i64 x3, .int .i64 x4] 24)) := ((Below.refl _ V2).alloc (Nat.le_refl _) (.cells #[.int .i64 x1, .int .i64 x2, .int .i64 x3, .int .i64 x4] 24))
  have nb0 := blk_new V2 (.cells #[.int .i64 x1, .int .i64 x2, .int .i64 x3, .int .i64 x4] 24)
  have nz0 : V2.heap.size < (V2.alloc (.cells #[.int .i64 x1, .int .i64 x2, .int .i64 x3, .int .i64 x4] 24)).heap.size := by simp only [World.size_alloc]; omega
  have P_3 := Lib.hid ((b.block _ Pz_2).trans P_2.out)
  have Pz_3 := Nat.lt_of_lt_of_le Pz_2 b.size
  have Pc0_3 := blk_cell P_3.out 0
  have Pc1_3 := blk_cell P_3.out 1
  have Pc2_3 := blk_cell P_3.out 2
  have Pc3_3 := blk_cell P_3.out 3
  have q_3 := q_2.trans (b.mono q_2.size)
  clear P_2 Pz_2 Pc0_2 Pc1_2 Pc2_2 Pc3_2 q_2
  clear b
  have R0_3 := Lib.hid nb0
  have R0z_3 := nz0
  clear nb0 nz0
  have R0c0_3 := blk_cell R0_3.out 0
  have R0c1_3 := blk_cell R0_3.out 1
  have R0c2_3 := blk_cell R0_3.out 2
  have R0c3_3 := blk_cell R0_3.out 3
  generalize (V2.alloc (.cells #[.int .i64 x1, .int .i64 x2, .int .i64 x3, .int .i64 x4] 24)) = V3 at q_3 P_3 Pz_3 Pc0_3 Pc1_3 Pc2_3 Pc3_3 R0_3 R0z_3 R0c0_3 R0c1_3 R0c2_3 R0c3_3 ⊢
  refine (rack_l t f d o n p m E x1 x2 x3 x4 y HE.out Hx1.out Hx2.out Hx3.out Hx4.out Hy.out _).mono ?_
  rintro e V4 ⟨rfl, b⟩
  have P_4 := Lib.hid ((b.block _ Pz_3).trans P_3.out)
  have Pz_4 := Nat.lt_of_lt_of_le Pz_3 b.size
  have Pc0_4 := blk_cell P_4.out 0
  have Pc1_4 := blk_cell P_4.out 1
  have Pc2_4 := blk_cell P_4.out 2
  have Pc3_4 := blk_cell P_4.out 3
  have R0_4 := Lib.hid ((b.block _ R0z_3).trans R0_3.out)
  have R0z_4 := Nat.lt_of_lt_of_le R0z_3 b.size
  have R0c0_4 := blk_cell R0_4.out 0
  have R0c1_4 := blk_cell R0_4.out 1
  have R0c2_4 := blk_cell R0_4.out 2
  have R0c3_4 := blk_cell R0_4.out 3
  have q_4 := q_3.trans (b.mono q_3.size)
  clear P_3 Pz_3 Pc0_3 Pc1_3 Pc2_3 Pc3_3 R0_3 R0z_3 R0c0_3 R0c1_3 R0c2_3 R0c3_3 q_3
  clear b
  go_wp2_with fail
  have b : Below V4.heap.size V4 (V4.alloc (.cells #[.int .i64 x1, .int .i64 x2, .int .i64 x3, .int .i64 x4] 23)) := ((Below.refl _ V4).alloc (Nat.le_refl _) (.cells #[.int .i64 x1, .int .i64 x2, .int .i64 x3, .int .i64 x4] 23))
  have nb0 := blk_new V4 (.cells #[.int .i64 x1, .int .i64 x2, .int .i64 x3, .int .i64 x4] 23)
  have nz0 : V4.heap.size < (V4.alloc (.cells #[.int .i64 x1, .int .i64 x2, .int .i64 x3, .int .i64 x4] 23)).heap.size := by simp only [World.size_alloc]; omega
  have P_5 := Lib.hid ((b.block _ Pz_4).trans P_4.out)
  have Pz_5 := Nat.lt_of_lt_of_le Pz_4 b.size
  have Pc0_5 := blk_cell P_5.out 0
  have Pc1_5 := blk_cell P_5.out 1
  have Pc2_5 := blk_cell P_5.out 2
  have Pc3_5 := blk_cell P_5.out 3
  have R0_5 := Lib.hid ((b.block _ R0z_4).trans R0_4.out)
  have R0z_5 := Nat.lt_of_lt_of_le R0z_4 b.size
  have R0c0_5 := blk_cell R0_5.out 0
  have R0c1_5 := blk_cell R0_5.out 1
  have R0c2_5 := blk_cell R0_5.out 2
  have R0c3_5 := blk_cell R0_5.out 3
  have q_5 := q_4.trans (b.mono q_4.size)
  clear P_4 Pz_4 Pc0_4 Pc1_4 Pc2_4 Pc3_4 R0_4 R0z_4 R0c0_4 R0c1_4 R0c2_4 R0c3_4 q_4
  clear b
  have R1_5 := Lib.hid nb0
  have R1z_5 := nz0
  clear nb0 nz0
  have R1c0_5 := blk_cell R1_5.out 0
  have R1c1_5 := blk_cell R1_5.out 1
  have R1c2_5 := blk_cell R1_5.out 2
  have R1c3_5 := blk_cell R1_5.out 3
  generalize (V4.alloc (.cells #[.int .i64 x1, .int .i64 x2, .int .i64 x3, .int .i64 x4] 23)) = V5 at q_5 P_5 Pz_5 Pc0_5 Pc1_5 Pc2_5 Pc3_5 R0_5 R0z_5 R0c0_5 R0c1_5 R0c2_5 R0c3_5 R1_5 R1z_5 R1c0_5 R1c1_5 R1c2_5 R1c3_5 ⊢
  refine (spent_l t f d o n G u1 u2 u3 u4 HG.out Hu1.out Hu2.out Hu3.out Hu4.out _).mono ?_
  rintro e V6 ⟨rfl, b⟩
  have P_6 := Lib.hid ((b.block _ Pz_5).trans P_5.out)
  have Pz_6 := Nat.lt_of_lt_of_le Pz_5 b.size
  have Pc0_6 := blk_cell P_6.out 0
  have Pc1_6 := blk_cell P_6.out 1
  have Pc2_6 := blk_cell P_6.out 2
  have Pc3_6 := blk_cell P_6.out 3
  have R0_6 := Lib.hid ((b.block _ R0z_5).trans R0_5.out)
  have R0z_6 := Nat.lt_of_lt_of_le R0z_5 b.size
  have R0c0_6 := blk_cell R0_6.out 0
  have R0c1_6 := blk_cell R0_6.out 1
  have R0c2_6 := blk_cell R0_6.out 2
  have R0c3_6 := blk_cell R0_6.out 3
  have R1_6 := Lib.hid ((b.block _ R1z_5).trans R1_5.out)
  have R1z_6 := Nat.lt_of_lt_of_le R1z_5 b.size
  have R1c0_6 := blk_cell R1_6.out 0
  have R1c1_6 := blk_cell R1_6.out 1
  have R1c2_6 := blk_cell R1_6.out 2
  have R1c3_6 := blk_cell R1_6.out 3
  have q_6 := q_5.trans (b.mono q_5.size)
  clear P_5 Pz_5 Pc0_5 Pc1_5 Pc2_5 Pc3_5 R0_5 R0z_5 R0c0_5 R0c1_5 R0c2_5 R0c3_5 R1_5 R1z_5 R1c0_5 R1c1_5 R1c2_5 R1c3_5 q_5
  clear b
  go_wp2_with fail
  have b : Below V6.heap.size V6 (V6.alloc (.cells #[.int .i64 u1, .int .i64 u2, .int .i64 u3, .int .i64 u4] 24)) := ((Below.refl _ V6).alloc (Nat.le_refl _) (.cells #[.int .i64 u1, .int .i64 u2, .int .i64 u3, .int .i64 u4] 24))
  have nb0 := blk_new V6 (.cells #[.int .i64 u1, .int .i64 u2, .int .i64 u3, .int .i64 u4] 24)
  have nz0 : V6.heap.size < (V6.alloc (.cells #[.int .i64 u1, .int .i64 u2, .int .i64 u3, .int .i64 u4] 24)).heap.size := by simp only [World.size_alloc]; omega
  have P_7 := Lib.hid ((b.block _ Pz_6).trans P_6.out)
  have Pz_7 := Nat.lt_of_lt_of_le Pz_6 b.size
  have Pc0_7 := blk_cell P_7.out 0
  have Pc1_7 := blk_cell P_7.out 1
  have Pc2_7 := blk_cell P_7.out 2
  have Pc3_7 := blk_cell P_7.out 3
  have R0_7 := Lib.hid ((b.block _ R0z_6).trans R0_6.out)
  have R0z_7 := Nat.lt_of_lt_of_le R0z_6 b.size
  have R0c0_7 := blk_cell R0_7.out 0
  have R0c1_7 := blk_cell R0_7.out 1
  have R0c2_7 := blk_cell R0_7.out 2
  have R0c3_7 := blk_cell R0_7.out 3
  have R1_7 := Lib.hid ((b.block _ R1z_6).trans R1_6.out)
  have R1z_7 := Nat.lt_of_lt_of_le R1z_6 b.size
  have R1c0_7 := blk_cell R1_7.out 0
  have R1c1_7 := blk_cell R1_7.out 1
  have R1c2_7 := blk_cell R1_7.out 2
  have R1c3_7 := blk_cell R1_7.out 3
  have q_7 := q_6.trans (b.mono q_6.size)
  clear P_6 Pz_6 Pc0_6 Pc1_6 Pc2_6 Pc3_6 R0_6 R0z_6 R0c0_6 R0c1_6 R0c2_6 R0c3_6 R1_6 R1z_6 R1c0_6 R1c1_6 R1c2_6 R1c3_6 q_6
  clear b
  have R2_7 := Lib.hid nb0
  have R2z_7 := nz0
  clear nb0 nz0
  have R2c0_7 := blk_cell R2_7.out 0
  have R2c1_7 := blk_cell R2_7.out 1
  have R2c2_7 := blk_cell R2_7.out 2
  have R2c3_7 := blk_cell R2_7.out 3
  generalize (V6.alloc (.cells #[.int .i64 u1, .int .i64 u2, .int .i64 u3, .int .i64 u4] 24)) = V7 at q_7 P_7 Pz_7 Pc0_7 Pc1_7 Pc2_7 Pc3_7 R0_7 R0z_7 R0c0_7 R0c1_7 R0c2_7 R0c3_7 R1_7 R1z_7 R1c0_7 R1c1_7 R1c2_7 R1c3_7 R2_7 R2z_7 R2c0_7 R2c1_7 R2c2_7 R2c3_7 ⊢
  refine (rspent_l t f d o n G u1 u2 u3 u4 HG.out Hu1.out Hu2.out Hu3.out Hu4.out _).mono ?_
  rintro e V8 ⟨rfl, b⟩
  have P_8 := Lib.hid ((b.block _ Pz_7).trans P_7.out)
  have Pz_8 := Nat.lt_of_lt_of_le Pz_7 b.size
  have Pc0_8 := blk_cell P_8.out 0
  have Pc1_8 := blk_cell P_8.out 1
  have Pc2_8 := blk_cell P_8.out 2
  have Pc3_8 := blk_cell P_8.out 3
  have R0_8 := Lib.hid ((b.block _ R0z_7).trans R0_7.out)
  have R0z_8 := Nat.lt_of_lt_of_le R0z_7 b.size
  have R0c0_8 := blk_cell R0_8.out 0
  have R0c1_8 := blk_cell R0_8.out 1
  have R0c2_8 := blk_cell R0_8.out 2
  have R0c3_8 := blk_cell R0_8.out 3
  have R1_8 := Lib.hid ((b.block _ R1z_7).trans R1_7.out)
  have R1z_8 := Nat.lt_of_lt_of_le R1z_7 b.size
  have R1c0_8 := blk_cell R1_8.out 0
  have R1c1_8 := blk_cell R1_8.out 1
  have R1c2_8 := blk_cell R1_8.out 2
  have R1c3_8 := blk_cell R1_8.out 3
  have R2_8 := Lib.hid ((b.block _ R2z_7).trans R2_7.out)
  have R2z_8 := Nat.lt_of_lt_of_le R2z_7 b.size
  have R2c0_8 := blk_cell R2_8.out 0
  have R2c1_8 := blk_cell R2_8.out 1
  have R2c2_8 := blk_cell R2_8.out 2
  have R2c3_8 := blk_cell R2_8.out 3
  have q_8 := q_7.trans (b.mono q_7.size)
  clear P_7 Pz_7 Pc0_7 Pc1_7 Pc2_7 Pc3_7 R0_7 R0z_7 R0c0_7 R0c1_7 R0c2_7 R0c3_7 R1_7 R1z_7 R1c0_7 R1c1_7 R1c2_7 R1c3_7 R2_7 R2z_7 R2c0_7 R2c1_7 R2c2_7 R2c3_7 q_7
  clear b
  go_wp2_with fail
  have b : Below V8.heap.size V8 (V8.alloc (.cells #[.int .i64 u1, .int .i64 u2, .int .i64 u3, .int .i64 u4] 23)) := ((Below.refl _ V8).alloc (Nat.le_refl _) (.cells #[.int .i64 u1, .int .i64 u2, .int .i64 u3, .int .i64 u4] 23))
  have nb0 := blk_new V8 (.cells #[.int .i64 u1, .int .i64 u2, .int .i64 u3, .int .i64 u4] 23)
  have nz0 : V8.heap.size < (V8.alloc (.cells #[.int .i64 u1, .int .i64 u2, .int .i64 u3, .int .i64 u4] 23)).heap.size := by simp only [World.size_alloc]; omega
  have P_9 := Lib.hid ((b.block _ Pz_8).trans P_8.out)
  have Pz_9 := Nat.lt_of_lt_of_le Pz_8 b.size
  have Pc0_9 := blk_cell P_9.out 0
  have Pc1_9 := blk_cell P_9.out 1
  have Pc2_9 := blk_cell P_9.out 2
  have Pc3_9 := blk_cell P_9.out 3
  have R0_9 := Lib.hid ((b.block _ R0z_8).trans R0_8.out)
  have R0z_9 := Nat.lt_of_lt_of_le R0z_8 b.size
  have R0c0_9 := blk_cell R0_9.out 0
  have R0c1_9 := blk_cell R0_9.out 1
  have R0c2_9 := blk_cell R0_9.out 2
  have R0c3_9 := blk_cell R0_9.out 3
  have R1_9 := Lib.hid ((b.block _ R1z_8).trans R1_8.out)
  have R1z_9 := Nat.lt_of_lt_of_le R1z_8 b.size
  have R1c0_9 := blk_cell R1_9.out 0
  have R1c1_9 := blk_cell R1_9.out 1
  have R1c2_9 := blk_cell R1_9.out 2
  have R1c3_9 := blk_cell R1_9.out 3
  have R2_9 := Lib.hid ((b.block _ R2z_8).trans R2_8.out)
  have R2z_9 := Nat.lt_of_lt_of_le R2z_8 b.size
  have R2c0_9 := blk_cell R2_9.out 0
  have R2c1_9 := blk_cell R2_9.out 1
  have R2c2_9 := blk_cell R2_9.out 2
  have R2c3_9 := blk_cell R2_9.out 3
  have q_9 := q_8.trans (b.mono q_8.size)
  clear P_8 Pz_8 Pc0_8 Pc1_8 Pc2_8 Pc3_8 R0_8 R0z_8 R0c0_8 R0c1_8 R0c2_8 R0c3_8 R1_8 R1z_8 R1c0_8 R1c1_8 R1c2_8 R1c3_8 R2_8 R2z_8 R2c0_8 R2c1_8 R2c2_8 R2c3_8 q_8
  clear b
  have R3_9 := Lib.hid nb0
  have R3z_9 := nz0
  clear nb0 nz0
  have R3c0_9 := blk_cell R3_9.out 0
  have R3c1_9 := blk_cell R3_9.out 1
  have R3c2_9 := blk_cell R3_9.out 2
  have R3c3_9 := blk_cell R3_9.out 3
  generalize (V8.alloc (.cells #[.int .i64 u1, .int .i64 u2, .int .i64 u3, .int .i64 u4] 23)) = V9 at q_9 P_9 Pz_9 Pc0_9 Pc1_9 Pc2_9 Pc3_9 R0_9 R0z_9 R0c0_9 R0c1_9 R0c2_9 R0c3_9 R1_9 R1z_9 R1c0_9 R1c1_9 R1c2_9 R1c3_9 R2_9 R2z_9 R2c0_9 R2c1_9 R2c2_9 R2c3_9 R3_9 R3z_9 R3c0_9 R3c1_9 R3c2_9 R3c3_9 ⊢
  refine (start_l fl th J c1 c2 HJ.out Hc1.out Hc2.out _).mono ?_
  rintro e V10 ⟨rfl, b⟩
  have P_10 := Lib.hid ((b.block _ Pz_9).trans P_9.out)
  have Pz_10 := Nat.lt_of_lt_of_le Pz_9 b.size
  have Pc0_10 := blk_cell P_10.out 0
  have Pc1_10 := blk_cell P_10.out 1
  have Pc2_10 := blk_cell P_10.out 2
  have Pc3_10 := blk_cell P_10.out 3
  have R0_10 := Lib.hid ((b.block _ R0z_9).trans R0_9.out)
  have R0z_10 := Nat.lt_of_lt_of_le R0z_9 b.size
  have R0c0_10 := blk_cell R0_10.out 0
  have R0c1_10 := blk_cell R0_10.out 1
  have R0c2_10 := blk_cell R0_10.out 2
  have R0c3_10 := blk_cell R0_10.out 3
  have R1_10 := Lib.hid ((b.block _ R1z_9).trans R1_9.out)
  have R1z_10 := Nat.lt_of_lt_of_le R1z_9 b.size
  have R1c0_10 := blk_cell R1_10.out 0
  have R1c1_10 := blk_cell R1_10.out 1
  have R1c2_10 := blk_cell R1_10.out 2
  have R1c3_10 := blk_cell R1_10.out 3
  have R2_10 := Lib.hid ((b.block _ R2z_9).trans R2_9.out)
  have R2z_10 := Nat.lt_of_lt_of_le R2z_9 b.size
  have R2c0_10 := blk_cell R2_10.out 0
  have R2c1_10 := blk_cell R2_10.out 1
  have R2c2_10 := blk_cell R2_10.out 2
  have R2c3_10 := blk_cell R2_10.out 3
  have R3_10 := Lib.hid ((b.block _ R3z_9).trans R3_9.out)
  have R3z_10 := Nat.lt_of_lt_of_le R3z_9 b.size
  have R3c0_10 := blk_cell R3_10.out 0
  have R3c1_10 := blk_cell R3_10.out 1
  have R3c2_10 := blk_cell R3_10.out 2
  have R3c3_10 := blk_cell R3_10.out 3
  have q_10 := q_9.trans (b.mono q_9.size)
  clear P_9 Pz_9 Pc0_9 Pc1_9 Pc2_9 Pc3_9 R0_9 R0z_9 R0c0_9 R0c1_9 R0c2_9 R0c3_9 R1_9 R1z_9 R1c0_9 R1c1_9 R1c2_9 R1c3_9 R2_9 R2z_9 R2c0_9 R2c1_9 R2c2_9 R2c3_9 R3_9 R3z_9 R3c0_9 R3c1_9 R3c2_9 R3c3_9 q_9
  clear b
  go_wp2_with fail
  have b : Below V10.heap.size V10 (V10.alloc (.cells #[.int .i64 c1, .int .i64 c2, .int .i64 0, .int .i64 0] 24)) := ((Below.refl _ V10).alloc (Nat.le_refl _) (.cells #[.int .i64 c1, .int .i64 c2, .int .i64 0, .int .i64 0] 24))
  have nb0 := blk_new V10 (.cells #[.int .i64 c1, .int .i64 c2, .int .i64 0, .int .i64 0] 24)
  have nz0 : V10.heap.size < (V10.alloc (.cells #[.int .i64 c1, .int .i64 c2, .int .i64 0, .int .i64 0] 24)).heap.size := by simp only [World.size_alloc]; omega
  have P_11 := Lib.hid ((b.block _ Pz_10).trans P_10.out)
  have Pz_11 := Nat.lt_of_lt_of_le Pz_10 b.size
  have Pc0_11 := blk_cell P_11.out 0
  have Pc1_11 := blk_cell P_11.out 1
  have Pc2_11 := blk_cell P_11.out 2
  have Pc3_11 := blk_cell P_11.out 3
  have R0_11 := Lib.hid ((b.block _ R0z_10).trans R0_10.out)
  have R0z_11 := Nat.lt_of_lt_of_le R0z_10 b.size
  have R0c0_11 := blk_cell R0_11.out 0
  have R0c1_11 := blk_cell R0_11.out 1
  have R0c2_11 := blk_cell R0_11.out 2
  have R0c3_11 := blk_cell R0_11.out 3
  have R1_11 := Lib.hid ((b.block _ R1z_10).trans R1_10.out)
  have R1z_11 := Nat.lt_of_lt_of_le R1z_10 b.size
  have R1c0_11 := blk_cell R1_11.out 0
  have R1c1_11 := blk_cell R1_11.out 1
  have R1c2_11 := blk_cell R1_11.out 2
  have R1c3_11 := blk_cell R1_11.out 3
  have R2_11 := Lib.hid ((b.block _ R2z_10).trans R2_10.out)
  have R2z_11 := Nat.lt_of_lt_of_le R2z_10 b.size
  have R2c0_11 := blk_cell R2_11.out 0
  have R2c1_11 := blk_cell R2_11.out 1
  have R2c2_11 := blk_cell R2_11.out 2
  have R2c3_11 := blk_cell R2_11.out 3
  have R3_11 := Lib.hid ((b.block _ R3z_10).trans R3_10.out)
  have R3z_11 := Nat.lt_of_lt_of_le R3z_10 b.size
  have R3c0_11 := blk_cell R3_11.out 0
  have R3c1_11 := blk_cell R3_11.out 1
  have R3c2_11 := blk_cell R3_11.out 2
  have R3c3_11 := blk_cell R3_11.out 3
  have q_11 := q_10.trans (b.mono q_10.size)
  clear P_10 Pz_10 Pc0_10 Pc1_10 Pc2_10 Pc3_10 R0_10 R0z_10 R0c0_10 R0c1_10 R0c2_10 R0c3_10 R1_10 R1z_10 R1c0_10 R1c1_10 R1c2_10 R1c3_10 R2_10 R2z_10 R2c0_10 R2c1_10 R2c2_10 R2c3_10 R3_10 R3z_10 R3c0_10 R3c1_10 R3c2_10 R3c3_10 q_10
  clear b
  have R4_11 := Lib.hid nb0
  have R4z_11 := nz0
  clear nb0 nz0
  have R4c0_11 := blk_cell R4_11.out 0
  have R4c1_11 := blk_cell R4_11.out 1
  have R4c2_11 := blk_cell R4_11.out 2
  have R4c3_11 := blk_cell R4_11.out 3
  generalize (V10.alloc (.cells #[.int .i64 c1, .int .i64 c2, .int .i64 0, .int .i64 0] 24)) = V11 at q_11 P_11 Pz_11 Pc0_11 Pc1_11 Pc2_11 Pc3_11 R0_11 R0z_11 R0c0_11 R0c1_11 R0c2_11 R0c3_11 R1_11 R1z_11 R1c0_11 R1c1_11 R1c2_11 R1c3_11 R2_11 R2z_11 R2c0_11 R2c1_11 R2c2_11 R2c3_11 R3_11 R3z_11 R3c0_11 R3c1_11 R3c2_11 R3c3_11 R4_11 R4z_11 R4c0_11 R4c1_11 R4c2_11 R4c3_11 ⊢
  refine (rstart_l fl th J c1 c2 HJ.out Hc1.out Hc2.out _).mono ?_
  rintro e V12 ⟨rfl, b⟩
  have P_12 := Lib.hid ((b.block _ Pz_11).trans P_11.out)
  have Pz_12 := Nat.lt_of_lt_of_le Pz_11 b.size
  have Pc0_12 := blk_cell P_12.out 0
  have Pc1_12 := blk_cell P_12.out 1
  have Pc2_12 := blk_cell P_12.out 2
  have Pc3_12 := blk_cell P_12.out 3
  have R0_12 := Lib.hid ((b.block _ R0z_11).trans R0_11.out)
  have R0z_12 := Nat.lt_of_lt_of_le R0z_11 b.size
  have R0c0_12 := blk_cell R0_12.out 0
  have R0c1_12 := blk_cell R0_12.out 1
  have R0c2_12 := blk_cell R0_12.out 2
  have R0c3_12 := blk_cell R0_12.out 3
  have R1_12 := Lib.hid ((b.block _ R1z_11).trans R1_11.out)
  have R1z_12 := Nat.lt_of_lt_of_le R1z_11 b.size
  have R1c0_12 := blk_cell R1_12.out 0
  have R1c1_12 := blk_cell R1_12.out 1
  have R1c2_12 := blk_cell R1_12.out 2
  have R1c3_12 := blk_cell R1_12.out 3
  have R2_12 := Lib.hid ((b.block _ R2z_11).trans R2_11.out)
  have R2z_12 := Nat.lt_of_lt_of_le R2z_11 b.size
  have R2c0_12 := blk_cell R2_12.out 0
  have R2c1_12 := blk_cell R2_12.out 1
  have R2c2_12 := blk_cell R2_12.out 2
  have R2c3_12 := blk_cell R2_12.out 3
  have R3_12 := Lib.hid ((b.block _ R3z_11).trans R3_11.out)
  have R3z_12 := Nat.lt_of_lt_of_le R3z_11 b.size
  have R3c0_12 := blk_cell R3_12.out 0
  have R3c1_12 := blk_cell R3_12.out 1
  have R3c2_12 := blk_cell R3_12.out 2
  have R3c3_12 := blk_cell R3_12.out 3
  have R4_12 := Lib.hid ((b.block _ R4z_11).trans R4_11.out)
  have R4z_12 := Nat.lt_of_lt_of_le R4z_11 b.size
  have R4c0_12 := blk_cell R4_12.out 0
  have R4c1_12 := blk_cell R4_12.out 1
  have R4c2_12 := blk_cell R4_12.out 2
  have R4c3_12 := blk_cell R4_12.out 3
  have q_12 := q_11.trans (b.mono q_11.size)
  clear P_11 Pz_11 Pc0_11 Pc1_11 Pc2_11 Pc3_11 R0_11 R0z_11 R0c0_11 R0c1_11 R0c2_11 R0c3_11 R1_11 R1z_11 R1c0_11 R1c1_11 R1c2_11 R1c3_11 R2_11 R2z_11 R2c0_11 R2c1_11 R2c2_11 R2c3_11 R3_11 R3z_11 R3c0_11 R3c1_11 R3c2_11 R3c3_11 R4_11 R4z_11 R4c0_11 R4c1_11 R4c2_11 R4c3_11 q_11
  clear b
  go_wp2_with fail
  have b : Below V12.heap.size V12 (V12.alloc (.cells #[.int .i64 c1, .int .i64 c2, .int .i64 0, .int .i64 0] 23)) := ((Below.refl _ V12).alloc (Nat.le_refl _) (.cells #[.int .i64 c1, .int .i64 c2, .int .i64 0, .int .i64 0] 23))
  have nb0 := blk_new V12 (.cells #[.int .i64 c1, .int .i64 c2, .int .i64 0, .int .i64 0] 23)
  have nz0 : V12.heap.size < (V12.alloc (.cells #[.int .i64 c1, .int .i64 c2, .int .i64 0, .int .i64 0] 23)).heap.size := by simp only [World.size_alloc]; omega
  have P_13 := Lib.hid ((b.block _ Pz_12).trans P_12.out)
  have Pz_13 := Nat.lt_of_lt_of_le Pz_12 b.size
  have Pc0_13 := blk_cell P_13.out 0
  have Pc1_13 := blk_cell P_13.out 1
  have Pc2_13 := blk_cell P_13.out 2
  have Pc3_13 := blk_cell P_13.out 3
  have R0_13 := Lib.hid ((b.block _ R0z_12).trans R0_12.out)
  have R0z_13 := Nat.lt_of_lt_of_le R0z_12 b.size
  have R0c0_13 := blk_cell R0_13.out 0
  have R0c1_13 := blk_cell R0_13.out 1
  have R0c2_13 := blk_cell R0_13.out 2
  have R0c3_13 := blk_cell R0_13.out 3
  have R1_13 := Lib.hid ((b.block _ R1z_12).trans R1_12.out)
  have R1z_13 := Nat.lt_of_lt_of_le R1z_12 b.size
  have R1c0_13 := blk_cell R1_13.out 0
  have R1c1_13 := blk_cell R1_13.out 1
  have R1c2_13 := blk_cell R1_13.out 2
  have R1c3_13 := blk_cell R1_13.out 3
  have R2_13 := Lib.hid ((b.block _ R2z_12).trans R2_12.out)
  have R2z_13 := Nat.lt_of_lt_of_le R2z_12 b.size
  have R2c0_13 := blk_cell R2_13.out 0
  have R2c1_13 := blk_cell R2_13.out 1
  have R2c2_13 := blk_cell R2_13.out 2
  have R2c3_13 := blk_cell R2_13.out 3
  have R3_13 := Lib.hid ((b.block _ R3z_12).trans R3_12.out)
  have R3z_13 := Nat.lt_of_lt_of_le R3z_12 b.size
  have R3c0_13 := blk_cell R3_13.out 0
  have R3c1_13 := blk_cell R3_13.out 1
  have R3c2_13 := blk_cell R3_13.out 2
  have R3c3_13 := blk_cell R3_13.out 3
  have R4_13 := Lib.hid ((b.block _ R4z_12).trans R4_12.out)
  have R4z_13 := Nat.lt_of_lt_of_le R4z_12 b.size
  have R4c0_13 := blk_cell R4_13.out 0
  have R4c1_13 := blk_cell R4_13.out 1
  have R4c2_13 := blk_cell R4_13.out 2
  have R4c3_13 := blk_cell R4_13.out 3
  have q_13 := q_12.trans (b.mono q_12.size)
  clear P_12 Pz_12 Pc0_12 Pc1_12 Pc2_12 Pc3_12 R0_12 R0z_12 R0c0_12 R0c1_12 R0c2_12 R0c3_12 R1_12 R1z_12 R1c0_12 R1c1_12 R1c2_12 R1c3_12 R2_12 R2z_12 R2c0_12 R2c1_12 R2c2_12 R2c3_12 R3_12 R3z_12 R3c0_12 R3c1_12 R3c2_12 R3c3_12 R4_12 R4z_12 R4c0_12 R4c1_12 R4c2_12 R4c3_12 q_12
  clear b
  have R5_13 := Lib.hid nb0
  have R5z_13 := nz0
  clear nb0 nz0
  have R5c0_13 := blk_cell R5_13.out 0
  have R5c1_13 := blk_cell R5_13.out 1
  have R5c2_13 := blk_cell R5_13.out 2
  have R5c3_13 := blk_cell R5_13.out 3
  generalize (V12.alloc (.cells #[.int .i64 c1, .int .i64 c2, .int .i64 0, .int .i64 0] 23)) = V13 at q_13 P_13 Pz_13 Pc0_13 Pc1_13 Pc2_13 Pc3_13 R0_13 R0z_13 R0c0_13 R0c1_13 R0c2_13 R0c3_13 R1_13 R1z_13 R1c0_13 R1c1_13 R1c2_13 R1c3_13 R2_13 R2z_13 R2c0_13 R2c1_13 R2c2_13 R2c3_13 R3_13 R3z_13 R3c0_13 R3c1_13 R3c2_13 R3c3_13 R4_13 R4z_13 R4c0_13 R4c1_13 R4c2_13 R4c3_13 R5_13 R5z_13 R5c0_13 R5c1_13 R5c2_13 R5c3_13 ⊢
  refine (num_any _ _).mono ?_
  rintro e w' ⟨rfl, rfl⟩
  go_wp2_with fail
  refine (num_any _ _).mono ?_
  rintro e w' ⟨rfl, rfl⟩
  go_wp2_with fail
  refine (num_any _ _).mono ?_
  rintro e w' ⟨rfl, rfl⟩
  go_wp2_with fail
  refine (alive_any _).mono ?_
  rintro e V14 ⟨rfl, b⟩
  have P_14 := Lib.hid ((b.block _ Pz_13).trans P_13.out)
  have Pz_14 := Nat.lt_of_lt_of_le Pz_13 b.size
  have Pc0_14 := blk_cell P_14.out 0
  have Pc1_14 := blk_cell P_14.out 1
  have Pc2_14 := blk_cell P_14.out 2
  have Pc3_14 := blk_cell P_14.out 3
  have R0_14 := Lib.hid ((b.block _ R0z_13).trans R0_13.out)
  have R0z_14 := Nat.lt_of_lt_of_le R0z_13 b.size
  have R0c0_14 := blk_cell R0_14.out 0
  have R0c1_14 := blk_cell R0_14.out 1
  have R0c2_14 := blk_cell R0_14.out 2
  have R0c3_14 := blk_cell R0_14.out 3
  have R1_14 := Lib.hid ((b.block _ R1z_13).trans R1_13.out)
  have R1z_14 := Nat.lt_of_lt_of_le R1z_13 b.size
  have R1c0_14 := blk_cell R1_14.out 0
  have R1c1_14 := blk_cell R1_14.out 1
  have R1c2_14 := blk_cell R1_14.out 2
  have R1c3_14 := blk_cell R1_14.out 3
  have R2_14 := Lib.hid ((b.block _ R2z_13).trans R2_13.out)
  have R2z_14 := Nat.lt_of_lt_of_le R2z_13 b.size
  have R2c0_14 := blk_cell R2_14.out 0
  have R2c1_14 := blk_cell R2_14.out 1
  have R2c2_14 := blk_cell R2_14.out 2
  have R2c3_14 := blk_cell R2_14.out 3
  have R3_14 := Lib.hid ((b.block _ R3z_13).trans R3_13.out)
  have R3z_14 := Nat.lt_of_lt_of_le R3z_13 b.size
  have R3c0_14 := blk_cell R3_14.out 0
  have R3c1_14 := blk_cell R3_14.out 1
  have R3c2_14 := blk_cell R3_14.out 2
  have R3c3_14 := blk_cell R3_14.out 3
  have R4_14 := Lib.hid ((b.block _ R4z_13).trans R4_13.out)
  have R4z_14 := Nat.lt_of_lt_of_le R4z_13 b.size
  have R4c0_14 := blk_cell R4_14.out 0
  have R4c1_14 := blk_cell R4_14.out 1
  have R4c2_14 := blk_cell R4_14.out 2
  have R4c3_14 := blk_cell R4_14.out 3
  have R5_14 := Lib.hid ((b.block _ R5z_13).trans R5_13.out)
  have R5z_14 := Nat.lt_of_lt_of_le R5z_13 b.size
  have R5c0_14 := blk_cell R5_14.out 0
  have R5c1_14 := blk_cell R5_14.out 1
  have R5c2_14 := blk_cell R5_14.out 2
  have R5c3_14 := blk_cell R5_14.out 3
  have q_14 := q_13.trans (b.mono q_13.size)
  clear P_13 Pz_13 Pc0_13 Pc1_13 Pc2_13 Pc3_13 R0_13 R0z_13 R0c0_13 R0c1_13 R0c2_13 R0c3_13 R1_13 R1z_13 R1c0_13 R1c1_13 R1c2_13 R1c3_13 R2_13 R2z_13 R2c0_13 R2c1_13 R2c2_13 R2c3_13 R3_13 R3z_13 R3c0_13 R3c1_13 R3c2_13 R3c3_13 R4_13 R4z_13 R4c0_13 R4c1_13 R4c2_13 R4c3_13 R5_13 R5z_13 R5c0_13 R5c1_13 R5c2_13 R5c3_13 q_13
  clear b
  go_wp2
  go_ret
  exact ⟨rfl, q_14⟩

theorem of_len4 {α : Type} (l : List α) (h : l.length = 4) : ∃ x0 x1 x2 x3, l = [x0, x1, x2, x3] := by
  match l, h with
  | [x0, x1, x2, x3], _ => exact ⟨x0, x1, x2, x3, rfl⟩
theorem own : ownKnob Try.prog.godebug = none := by kernel_rfl
theorem laidOut : laidOutB Try.prog = true := by kernel_rfl

set_option maxRecDepth 100000 in
set_option maxHeartbeats 2000000 in
theorem lifted (os : Os) (started : os.Started) (H : Type) (enc : TypeId × Value → H) :
    ReturnsInHanded {} Try.checked os 3 .any (Rows.prrTellsSpec.pre6 enc Try.prog Try.f3 Rows.prrTellsRow.domain false) (Rows.prrTellsSpec.post enc Try.prog Try.f3 false true false false) := by
  refine returnsInHanded_of_change_sized (C := Try.checked) own started (by kernel_rfl) Try.func3
    (ChangeSpec.witness6 (enc := enc) (C := Try.checked) false ⟨#[], #[.agg #[.int .i64 0, .int .i64 0, .int .i64 0, .int .i64 0], .int .i64 0, .int .i64 0, .int .i64 0, .int .i64 0, .int .i64 0], []⟩ 8 (by kernel_rfl) (by kernel_rfl) (by kernel_rfl) (by kernel_rfl)) ?_
  intro W base args ds gs before hval0 hW hcnd hsz0 _
  have hval : ∀ (j : Nat) t v, Try.f3.params[j]? = some t → args[j]? = some v → Value.okWide Try.prog W .any base t v := hval0
  have hW' := hW
  obtain ⟨p, q, hA0, hV, rfl, hfz, hnd⟩ := hW
  have hA : DataW.TrodAll enc Try.prog W 0 (fun _ => true) true Try.f3.params.toList args.toList ds p := hA0
  rw [Try.params3] at hA hval
  obtain ⟨v0, vs0, d0, ds0, p0, q0, hargs, rfl, rfl, h0, r0⟩ := trodAll_cons hA
  obtain ⟨v1, vs1, d1, ds1, p1, q1, rfl, rfl, rfl, h1, r1⟩ := trodAll_cons r0
  obtain ⟨v2, vs2, d2, ds2, p2, q2, rfl, rfl, rfl, h2, r2⟩ := trodAll_cons r1
  obtain ⟨v3, vs3, d3, ds3, p3, q3, rfl, rfl, rfl, h3, r3⟩ := trodAll_cons r2
  obtain ⟨v4, vs4, d4, ds4, p4, q4, rfl, rfl, rfl, h4, r4⟩ := trodAll_cons r3
  obtain ⟨v5, vs5, d5, ds5, p5, q5, rfl, rfl, rfl, h5, r5⟩ := trodAll_cons r4
  obtain ⟨rfl, rfl, rfl⟩ := trodAll_nil r5
  obtain rfl : args = #[v0, v1, v2, v3, v4, v5] := by cases args; simp_all
  obtain ⟨rfl, rfl⟩ := trodVars_none hV
  have k0 := h0
  have lt0 : ∀ x ∈ p0, x.block < W.heap.size := by obtain ⟨m, hm⟩ := k0; exact DataW.trod_lt m _ _ _ hm
  obtain ⟨vs0', ys0', m0, rfl, lv0, ly0, hd0, F0⟩ := open_agg Try.underlying23 (by kernel_rfl) (by kernel_rfl) (hval 0 23 v0 rfl rfl) h0
  obtain ⟨c0_0, c0_1, c0_2, c0_3, rfl⟩ := of_len4 _ lv0
  obtain ⟨y0_0, y0_1, y0_2, y0_3, rfl⟩ := of_len4 _ ly0
  simp only [List.map_cons, List.map_nil] at hd0
  obtain ⟨_, _, e, g, t0_0⟩ := F0 0 _ rfl
  obtain rfl := Option.some.inj e; obtain rfl := Option.some.inj g; clear e g
  obtain ⟨z0_0, e, _, w0_0⟩ := DataW.trod_int Try.underlying3 t0_0
  obtain rfl := (List.cons.inj e).1; clear e
  obtain ⟨lo0_0, hi0_0⟩ := bounds_i64 w0_0
  obtain ⟨_, _, e, g, t0_1⟩ := F0 1 _ rfl
  obtain rfl := Option.some.inj e; obtain rfl := Option.some.inj g; clear e g
  obtain ⟨z0_1, e, _, w0_1⟩ := DataW.trod_int Try.underlying3 t0_1
  obtain rfl := (List.cons.inj e).1; clear e
  obtain ⟨lo0_1, hi0_1⟩ := bounds_i64 w0_1
  obtain ⟨_, _, e, g, t0_2⟩ := F0 2 _ rfl
  obtain rfl := Option.some.inj e; obtain rfl := Option.some.inj g; clear e g
  obtain ⟨z0_2, e, _, w0_2⟩ := DataW.trod_int Try.underlying3 t0_2
  obtain rfl := (List.cons.inj e).1; clear e
  obtain ⟨lo0_2, hi0_2⟩ := bounds_i64 w0_2
  obtain ⟨_, _, e, g, t0_3⟩ := F0 3 _ rfl
  obtain rfl := Option.some.inj e; obtain rfl := Option.some.inj g; clear e g
  obtain ⟨z0_3, e, _, w0_3⟩ := DataW.trod_int Try.underlying3 t0_3
  obtain rfl := (List.cons.inj e).1; clear e
  obtain ⟨lo0_3, hi0_3⟩ := bounds_i64 w0_3
  obtain ⟨a1, rfl, rfl, rfl, w1⟩ := open_int Try.underlying3 (hval 1 3 v1 rfl rfl) h1
  obtain ⟨a2, rfl, rfl, rfl, w2⟩ := open_int Try.underlying3 (hval 2 3 v2 rfl rfl) h2
  obtain ⟨a3, rfl, rfl, rfl, w3⟩ := open_int Try.underlying3 (hval 3 3 v3 rfl rfl) h3
  obtain ⟨a4, rfl, rfl, rfl, w4⟩ := open_int Try.underlying3 (hval 4 3 v4 rfl rfl) h4
  obtain ⟨a5, rfl, rfl, rfl, w5⟩ := open_int Try.underlying3 (hval 5 3 v5 rfl rfl) h5
  clear hA0
  obtain ⟨lo1, hi1⟩ := bounds_i64 w1
  obtain ⟨lo2, hi2⟩ := bounds_i64 w2
  obtain ⟨lo3, hi3⟩ := bounds_i64 w3
  obtain ⟨lo4, hi4⟩ := bounds_i64 w4
  obtain ⟨lo5, hi5⟩ := bounds_i64 w5
  refine (walk z0_0 z0_1 z0_2 z0_3 a1 a2 a3 a4 a5 W lo0_0 hi0_0 lo0_1 hi0_1 lo0_2 hi0_2 lo0_3 hi0_3 lo1 hi1 lo2 hi2 lo3 hi3 lo4 hi4 lo5 hi5).mono fun e W' ⟨he, bel⟩ => ?_
  subst he
  exact ⟨_, rfl, _, _, _, [], _, [], hW', trodAll_mk1 (shut_bool Try.underlying4 _), (trodAll_cons_mk (Below.trod laidOut (by kernel_rfl) (of_decide_eq_true (by kernel_rfl)) k0 bel lt0) (trodAll_cons_mk (shut_int Try.underlying3 w1) (trodAll_cons_mk (shut_int Try.underlying3 w2) (trodAll_cons_mk (shut_int Try.underlying3 w3) (trodAll_cons_mk (shut_int Try.underlying3 w4) (trodAll_cons_mk (shut_int Try.underlying3 w5) trodAll_mk0)))))), rfl, bel.frame _, fun h => by cases h⟩

theorem over : Rows.prrTellsRow.holds Try.pinned (OpenSpec.ofChange Rows.prrTellsSpec) :=
  OpenClaim.holds_of_wide 3 Try.f3 rfl rfl rfl rfl rfl rfl rfl ⟨rfl, rfl, rfl, rfl, rfl⟩ rfl rfl rfl rfl rfl (by kernel_rfl) Try.func3 (by kernel_rfl)
    (of_decide_eq_true (by kernel_rfl)) (by unfold Func.isWrapper; first | (rw [if_pos (by decide +kernel)]; kernel_rfl) | (rw [if_neg (by decide +kernel)]; exact ⟨rfl, rfl⟩))
    (fun os started H enc _ => lifted os started H enc)

end Go.Proofs.Ytmlmachbhhomfaa.prrTells
namespace Go.Proofs.Ytmlmachbhhomfaa
/-- The statement. -/
theorem prrTells_holds : Rows.PrrTellsSaid := prrTells.over
#print axioms prrTells_holds
end Go.Proofs.Ytmlmachbhhomfaa
