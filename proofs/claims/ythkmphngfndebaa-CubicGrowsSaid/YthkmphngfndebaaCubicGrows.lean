/- For every state, segment and numbers: an acknowledgement never makes the window less, a loss never more (but up to two segments); the states that follow may be. No condition. -/
import Derived.Test.YthkmphngfndebaaRows
import Derived.Test.YthkmphngfndebaaCuX
import Derived.Test.YthkmphngfndebaaGAgg
import Derived.Deep.DeepCutAuto
import Derived.RegionTactic
import Derived.Deep.RegionHeld3
import Derived.ProofKit
import Derived.OpenShut
import Derived.ChangeOld
import Derived.SizedLaws
namespace Go.Proofs.Ythkmphngfndebaa.cubicGrows
open Go.ChangeShapes Go.WideShapes Go.ChangeAt Go.RowKit Go.Deep Go.Proofs.Ythkmphngfndebaa.Cu

theorem pack0 (x : CS) (m n v r E : Int) (hE : akE x m n v r = E) (hy : akO x m n v r = Cu.Z) (w : World) : Calls Try.prog 15 #[.agg #[.int .i64 x.c, .int .i64 x.t, .int .i64 x.m, .int .i64 x.u, .int .i64 x.e, .int .i64 x.s, .bool x.h], .int .i64 m, .int .i64 n, .int .i64 v, .int .i64 r] w fun e w' => e = .returned (.tuple #[.agg #[.int .i64 0, .int .i64 0, .int .i64 0, .int .i64 0, .int .i64 0, .int .i64 0, .bool false], .int .i64 E]) ∧ Below w.heap.size w w' := pack x Cu.Z m n v r E hE hy w
theorem ploss0 (x : CS) (m E : Int) (hE : cE x m = E) (hy : lsO x m = Cu.Z) (w : World) : Calls Try.prog 17 #[.agg #[.int .i64 x.c, .int .i64 x.t, .int .i64 x.m, .int .i64 x.u, .int .i64 x.e, .int .i64 x.s, .bool x.h], .int .i64 m] w fun e w' => e = .returned (.tuple #[.agg #[.int .i64 0, .int .i64 0, .int .i64 0, .int .i64 0, .int .i64 0, .int .i64 0, .bool false], .int .i64 E]) ∧ Below w.heap.size w w' := ploss x Cu.Z m E hE hy w
theorem ptimeout0 (x : CS) (m E : Int) (hE : cE x m = E) (hy : tmO x m = Cu.Z) (w : World) : Calls Try.prog 19 #[.agg #[.int .i64 x.c, .int .i64 x.t, .int .i64 x.m, .int .i64 x.u, .int .i64 x.e, .int .i64 x.s, .bool x.h], .int .i64 m] w fun e w' => e = .returned (.tuple #[.agg #[.int .i64 0, .int .i64 0, .int .i64 0, .int .i64 0, .int .i64 0, .int .i64 0, .bool false], .int .i64 E]) ∧ Below w.heap.size w w' := ptimeout x Cu.Z m E hE hy w
set_option maxRecDepth 100000 in
set_option maxHeartbeats 8000000 in
theorem walk0 (x : CS) (m n v r : Int) (w : World) (_m_l : -9223372036854775808 ≤ m) (_m_h : m ≤ 9223372036854775807) (_n_l : -9223372036854775808 ≤ n) (_n_h : n ≤ 9223372036854775807) (_v_l : -9223372036854775808 ≤ v) (_v_h : v ≤ 9223372036854775807) (_r_l : -9223372036854775808 ≤ r) (_r_h : r ≤ 9223372036854775807) :
    Calls Try.prog 7 #[.agg #[.int .i64 x.c, .int .i64 x.t, .int .i64 x.m, .int .i64 x.u, .int .i64 x.e, .int .i64 x.s, .bool x.h], .int .i64 m, .int .i64 n, .int .i64 v, .int .i64 r] w fun e w' => e = .returned (.bool true) ∧ Below w.heap.size w w' := by
  by_cases h : MV m ∧ CV x m
  case pos =>
    obtain ⟨hM, hV⟩ := h
    by_cases hA : AV n v r
    case pos =>
      have ha := ak_cv hM hV hA
      obtain ⟨ya, hya⟩ : ∃ y, ak x m n v r = y := ⟨_, rfl⟩
      have HCa : Hid (Sm (cE ya m) 0) := Lib.hid ⟨by rw [← hya, cE, if_pos hM, if_pos ha.1]⟩
      rw [hya] at ha
      obtain ⟨-, a1⟩ := ha
      have a2 : ¬ ya.c < x.c := by omega
      have Ha : Hid (Sm (akO x m n v r) ya) := Lib.hid ⟨by rw [akO, if_pos ⟨hM, hV, hA⟩, hya]⟩
      have HE : Hid (Sm (akE x m n v r) 0) := Lib.hid ⟨by rw [akE, if_pos hM, if_pos hV, if_pos hA]⟩
      clear hya a1
      have HM := Lib.hid hM
      have hf := ls_facts hM hV
      have hcl : Hid (Sm (cE (ls x m) m) 0) := Lib.hid ⟨by rw [cE, if_pos hM, if_pos (ls_cv hM hV)]⟩
      have hct : Hid (Sm (cE { ls x m with c := m } m) 0) := Lib.hid ⟨by rw [cE, if_pos hM, if_pos (tm_cv hM hV)]⟩
      obtain ⟨yt, hyt⟩ : ∃ y, ({ ls x m with c := m } : CS) = y := ⟨_, rfl⟩
      have ht1 : yt.c = m := by rw [← hyt]
      obtain ⟨yl, hyl⟩ : ∃ y, ls x m = y := ⟨_, rfl⟩
      rw [hyt] at hct
      rw [hyl] at hcl hf
      obtain ⟨f1, f2, f3⟩ := hf
      have HF3 := Lib.hid f3
      have HT1 := Lib.hid ht1
      clear f3 ht1
      have HCl := hcl
      have HCt := hct
      have Hl : Hid (Sm (lsO x m) yl) := Lib.hid ⟨by rw [lsO, if_pos ⟨hM, hV⟩, hyl]⟩
      have Ht : Hid (Sm (tmO x m) yt) := Lib.hid ⟨by rw [tmO, if_pos ⟨hM, hV⟩, hyt]⟩
      have HG : Hid (Sm (cE x m) 0) := Lib.hid ⟨by rw [cE, if_pos hM, if_pos hV]⟩
      clear hyl hyt hcl hct
      clear hM hV hA
      have q_0 := Below.refl w.heap.size w
      go_enter Try.func7, Try.ntmps7
      go_wp2_with fail
      have b : Below w.heap.size w (w.alloc (.cells #[.int .i64 x.c, .int .i64 x.t, .int .i64 x.m, .int .i64 x.u, .int .i64 x.e, .int .i64 x.s, .bool x.h] 33)) := ((Below.refl _ w).alloc (Nat.le_refl _) (.cells #[.int .i64 x.c, .int .i64 x.t, .int .i64 x.m, .int .i64 x.u, .int .i64 x.e, .int .i64 x.s, .bool x.h] 33))
      have nb0 := blk_new w (.cells #[.int .i64 x.c, .int .i64 x.t, .int .i64 x.m, .int .i64 x.u, .int .i64 x.e, .int .i64 x.s, .bool x.h] 33)
      have nz0 : w.heap.size < (w.alloc (.cells #[.int .i64 x.c, .int .i64 x.t, .int .i64 x.m, .int .i64 x.u, .int .i64 x.e, .int .i64 x.s, .bool x.h] 33)).heap.size := by simp only [World.size_alloc]; omega
      have q_1 := q_0.trans (b.mono q_0.size)
      clear q_0
      clear b
      have P_1 := Lib.hid nb0
      have Pz_1 := nz0
      clear nb0 nz0
      have Pc0_1 := blk_cell P_1.out 0
      have Pc1_1 := blk_cell P_1.out 1
      have Pc2_1 := blk_cell P_1.out 2
      have Pc3_1 := blk_cell P_1.out 3
      have Pc4_1 := blk_cell P_1.out 4
      have Pc5_1 := blk_cell P_1.out 5
      have Pc6_1 := blk_cell P_1.out 6
      generalize (w.alloc (.cells #[.int .i64 x.c, .int .i64 x.t, .int .i64 x.m, .int .i64 x.u, .int .i64 x.e, .int .i64 x.s, .bool x.h] 33)) = V1 at q_1 P_1 Pz_1 Pc0_1 Pc1_1 Pc2_1 Pc3_1 Pc4_1 Pc5_1 Pc6_1 ⊢
      refine (alive_any _).mono ?_
      rintro e V2 ⟨rfl, b⟩
      have P_2 := Lib.hid ((b.block _ Pz_1).trans P_1.out)
      have Pz_2 := Nat.lt_of_lt_of_le Pz_1 b.size
      have Pc0_2 := blk_cell P_2.out 0
      have Pc1_2 := blk_cell P_2.out 1
      have Pc2_2 := blk_cell P_2.out 2
      have Pc3_2 := blk_cell P_2.out 3
      have Pc4_2 := blk_cell P_2.out 4
      have Pc5_2 := blk_cell P_2.out 5
      have Pc6_2 := blk_cell P_2.out 6
      have q_2 := q_1.trans (b.mono q_1.size)
      clear P_1 Pz_1 Pc0_1 Pc1_1 Pc2_1 Pc3_1 Pc4_1 Pc5_1 Pc6_1 q_1
      clear b
      go_wp2_with fail
      refine (pack x ya m n v r 0 HE.out.eq Ha.out.eq _).mono ?_
      rintro e V3 ⟨rfl, b⟩
      have P_3 := Lib.hid ((b.block _ Pz_2).trans P_2.out)
      have Pz_3 := Nat.lt_of_lt_of_le Pz_2 b.size
      have Pc0_3 := blk_cell P_3.out 0
      have Pc1_3 := blk_cell P_3.out 1
      have Pc2_3 := blk_cell P_3.out 2
      have Pc3_3 := blk_cell P_3.out 3
      have Pc4_3 := blk_cell P_3.out 4
      have Pc5_3 := blk_cell P_3.out 5
      have Pc6_3 := blk_cell P_3.out 6
      have q_3 := q_2.trans (b.mono q_2.size)
      clear P_2 Pz_2 Pc0_2 Pc1_2 Pc2_2 Pc3_2 Pc4_2 Pc5_2 Pc6_2 q_2
      clear b
      go_wp2_with fail
      have b : Below V3.heap.size V3 (V3.alloc (.cells #[.int .i64 ya.c, .int .i64 ya.t, .int .i64 ya.m, .int .i64 ya.u, .int .i64 ya.e, .int .i64 ya.s, .bool ya.h] 34)) := ((Below.refl _ V3).alloc (Nat.le_refl _) (.cells #[.int .i64 ya.c, .int .i64 ya.t, .int .i64 ya.m, .int .i64 ya.u, .int .i64 ya.e, .int .i64 ya.s, .bool ya.h] 34))
      have nb0 := blk_new V3 (.cells #[.int .i64 ya.c, .int .i64 ya.t, .int .i64 ya.m, .int .i64 ya.u, .int .i64 ya.e, .int .i64 ya.s, .bool ya.h] 34)
      have nz0 : V3.heap.size < (V3.alloc (.cells #[.int .i64 ya.c, .int .i64 ya.t, .int .i64 ya.m, .int .i64 ya.u, .int .i64 ya.e, .int .i64 ya.s, .bool ya.h] 34)).heap.size := by simp only [World.size_alloc]; omega
      have P_4 := Lib.hid ((b.block _ Pz_3).trans P_3.out)
      have Pz_4 := Nat.lt_of_lt_of_le Pz_3 b.size
      have Pc0_4 := blk_cell P_4.out 0
      have Pc1_4 := blk_cell P_4.out 1
      have Pc2_4 := blk_cell P_4.out 2
      have Pc3_4 := blk_cell P_4.out 3
      have Pc4_4 := blk_cell P_4.out 4
      have Pc5_4 := blk_cell P_4.out 5
      have Pc6_4 := blk_cell P_4.out 6
      have q_4 := q_3.trans (b.mono q_3.size)
      clear P_3 Pz_3 Pc0_3 Pc1_3 Pc2_3 Pc3_3 Pc4_3 Pc5_3 Pc6_3 q_3
      clear b
      have A_4 := Lib.hid nb0
      have Az_4 := nz0
      clear nb0 nz0
      have Ac0_4 := blk_cell A_4.out 0
      have Ac1_4 := blk_cell A_4.out 1
      have Ac2_4 := blk_cell A_4.out 2
      have Ac3_4 := blk_cell A_4.out 3
      have Ac4_4 := blk_cell A_4.out 4
      have Ac5_4 := blk_cell A_4.out 5
      have Ac6_4 := blk_cell A_4.out 6
      generalize (V3.alloc (.cells #[.int .i64 ya.c, .int .i64 ya.t, .int .i64 ya.m, .int .i64 ya.u, .int .i64 ya.e, .int .i64 ya.s, .bool ya.h] 34)) = V4 at q_4 P_4 Pz_4 Pc0_4 Pc1_4 Pc2_4 Pc3_4 Pc4_4 Pc5_4 Pc6_4 A_4 Az_4 Ac0_4 Ac1_4 Ac2_4 Ac3_4 Ac4_4 Ac5_4 Ac6_4 ⊢
      refine (num_any _ _).mono ?_
      rintro e w' ⟨rfl, rfl⟩
      go_wp2_with fail
      refine (check_l ya m 0 HCa.out.eq _).mono ?_
      rintro e V5 ⟨rfl, b⟩
      have P_5 := Lib.hid ((b.block _ Pz_4).trans P_4.out)
      have Pz_5 := Nat.lt_of_lt_of_le Pz_4 b.size
      have Pc0_5 := blk_cell P_5.out 0
      have Pc1_5 := blk_cell P_5.out 1
      have Pc2_5 := blk_cell P_5.out 2
      have Pc3_5 := blk_cell P_5.out 3
      have Pc4_5 := blk_cell P_5.out 4
      have Pc5_5 := blk_cell P_5.out 5
      have Pc6_5 := blk_cell P_5.out 6
      have A_5 := Lib.hid ((b.block _ Az_4).trans A_4.out)
      have Az_5 := Nat.lt_of_lt_of_le Az_4 b.size
      have Ac0_5 := blk_cell A_5.out 0
      have Ac1_5 := blk_cell A_5.out 1
      have Ac2_5 := blk_cell A_5.out 2
      have Ac3_5 := blk_cell A_5.out 3
      have Ac4_5 := blk_cell A_5.out 4
      have Ac5_5 := blk_cell A_5.out 5
      have Ac6_5 := blk_cell A_5.out 6
      have q_5 := q_4.trans (b.mono q_4.size)
      clear P_4 Pz_4 Pc0_4 Pc1_4 Pc2_4 Pc3_4 Pc4_4 Pc5_4 Pc6_4 A_4 Az_4 Ac0_4 Ac1_4 Ac2_4 Ac3_4 Ac4_4 Ac5_4 Ac6_4 q_4
      clear b
      go_wp2_with fail
      refine (num_any _ _).mono ?_
      rintro e w' ⟨rfl, rfl⟩
      go_wp2_with fail
      refine (ploss x yl m 0 HG.out.eq Hl.out.eq _).mono ?_
      rintro e V6 ⟨rfl, b⟩
      have P_6 := Lib.hid ((b.block _ Pz_5).trans P_5.out)
      have Pz_6 := Nat.lt_of_lt_of_le Pz_5 b.size
      have Pc0_6 := blk_cell P_6.out 0
      have Pc1_6 := blk_cell P_6.out 1
      have Pc2_6 := blk_cell P_6.out 2
      have Pc3_6 := blk_cell P_6.out 3
      have Pc4_6 := blk_cell P_6.out 4
      have Pc5_6 := blk_cell P_6.out 5
      have Pc6_6 := blk_cell P_6.out 6
      have A_6 := Lib.hid ((b.block _ Az_5).trans A_5.out)
      have Az_6 := Nat.lt_of_lt_of_le Az_5 b.size
      have Ac0_6 := blk_cell A_6.out 0
      have Ac1_6 := blk_cell A_6.out 1
      have Ac2_6 := blk_cell A_6.out 2
      have Ac3_6 := blk_cell A_6.out 3
      have Ac4_6 := blk_cell A_6.out 4
      have Ac5_6 := blk_cell A_6.out 5
      have Ac6_6 := blk_cell A_6.out 6
      have q_6 := q_5.trans (b.mono q_5.size)
      clear P_5 Pz_5 Pc0_5 Pc1_5 Pc2_5 Pc3_5 Pc4_5 Pc5_5 Pc6_5 A_5 Az_5 Ac0_5 Ac1_5 Ac2_5 Ac3_5 Ac4_5 Ac5_5 Ac6_5 q_5
      clear b
      go_wp2_with fail
      have b : Below V6.heap.size V6 (V6.alloc (.cells #[.int .i64 yl.c, .int .i64 yl.t, .int .i64 yl.m, .int .i64 yl.u, .int .i64 yl.e, .int .i64 yl.s, .bool yl.h] 34)) := ((Below.refl _ V6).alloc (Nat.le_refl _) (.cells #[.int .i64 yl.c, .int .i64 yl.t, .int .i64 yl.m, .int .i64 yl.u, .int .i64 yl.e, .int .i64 yl.s, .bool yl.h] 34))
      have nb0 := blk_new V6 (.cells #[.int .i64 yl.c, .int .i64 yl.t, .int .i64 yl.m, .int .i64 yl.u, .int .i64 yl.e, .int .i64 yl.s, .bool yl.h] 34)
      have nz0 : V6.heap.size < (V6.alloc (.cells #[.int .i64 yl.c, .int .i64 yl.t, .int .i64 yl.m, .int .i64 yl.u, .int .i64 yl.e, .int .i64 yl.s, .bool yl.h] 34)).heap.size := by simp only [World.size_alloc]; omega
      have P_7 := Lib.hid ((b.block _ Pz_6).trans P_6.out)
      have Pz_7 := Nat.lt_of_lt_of_le Pz_6 b.size
      have Pc0_7 := blk_cell P_7.out 0
      have Pc1_7 := blk_cell P_7.out 1
      have Pc2_7 := blk_cell P_7.out 2
      have Pc3_7 := blk_cell P_7.out 3
      have Pc4_7 := blk_cell P_7.out 4
      have Pc5_7 := blk_cell P_7.out 5
      have Pc6_7 := blk_cell P_7.out 6
      have A_7 := Lib.hid ((b.block _ Az_6).trans A_6.out)
      have Az_7 := Nat.lt_of_lt_of_le Az_6 b.size
      have Ac0_7 := blk_cell A_7.out 0
      have Ac1_7 := blk_cell A_7.out 1
      have Ac2_7 := blk_cell A_7.out 2
      have Ac3_7 := blk_cell A_7.out 3
      have Ac4_7 := blk_cell A_7.out 4
      have Ac5_7 := blk_cell A_7.out 5
      have Ac6_7 := blk_cell A_7.out 6
      have q_7 := q_6.trans (b.mono q_6.size)
      clear P_6 Pz_6 Pc0_6 Pc1_6 Pc2_6 Pc3_6 Pc4_6 Pc5_6 Pc6_6 A_6 Az_6 Ac0_6 Ac1_6 Ac2_6 Ac3_6 Ac4_6 Ac5_6 Ac6_6 q_6
      clear b
      have L_7 := Lib.hid nb0
      have Lz_7 := nz0
      clear nb0 nz0
      have Lc0_7 := blk_cell L_7.out 0
      have Lc1_7 := blk_cell L_7.out 1
      have Lc2_7 := blk_cell L_7.out 2
      have Lc3_7 := blk_cell L_7.out 3
      have Lc4_7 := blk_cell L_7.out 4
      have Lc5_7 := blk_cell L_7.out 5
      have Lc6_7 := blk_cell L_7.out 6
      generalize (V6.alloc (.cells #[.int .i64 yl.c, .int .i64 yl.t, .int .i64 yl.m, .int .i64 yl.u, .int .i64 yl.e, .int .i64 yl.s, .bool yl.h] 34)) = V7 at q_7 P_7 Pz_7 Pc0_7 Pc1_7 Pc2_7 Pc3_7 Pc4_7 Pc5_7 Pc6_7 A_7 Az_7 Ac0_7 Ac1_7 Ac2_7 Ac3_7 Ac4_7 Ac5_7 Ac6_7 L_7 Lz_7 Lc0_7 Lc1_7 Lc2_7 Lc3_7 Lc4_7 Lc5_7 Lc6_7 ⊢
      refine (ptimeout x yt m 0 HG.out.eq Ht.out.eq _).mono ?_
      rintro e V8 ⟨rfl, b⟩
      have P_8 := Lib.hid ((b.block _ Pz_7).trans P_7.out)
      have Pz_8 := Nat.lt_of_lt_of_le Pz_7 b.size
      have Pc0_8 := blk_cell P_8.out 0
      have Pc1_8 := blk_cell P_8.out 1
      have Pc2_8 := blk_cell P_8.out 2
      have Pc3_8 := blk_cell P_8.out 3
      have Pc4_8 := blk_cell P_8.out 4
      have Pc5_8 := blk_cell P_8.out 5
      have Pc6_8 := blk_cell P_8.out 6
      have A_8 := Lib.hid ((b.block _ Az_7).trans A_7.out)
      have Az_8 := Nat.lt_of_lt_of_le Az_7 b.size
      have Ac0_8 := blk_cell A_8.out 0
      have Ac1_8 := blk_cell A_8.out 1
      have Ac2_8 := blk_cell A_8.out 2
      have Ac3_8 := blk_cell A_8.out 3
      have Ac4_8 := blk_cell A_8.out 4
      have Ac5_8 := blk_cell A_8.out 5
      have Ac6_8 := blk_cell A_8.out 6
      have L_8 := Lib.hid ((b.block _ Lz_7).trans L_7.out)
      have Lz_8 := Nat.lt_of_lt_of_le Lz_7 b.size
      have Lc0_8 := blk_cell L_8.out 0
      have Lc1_8 := blk_cell L_8.out 1
      have Lc2_8 := blk_cell L_8.out 2
      have Lc3_8 := blk_cell L_8.out 3
      have Lc4_8 := blk_cell L_8.out 4
      have Lc5_8 := blk_cell L_8.out 5
      have Lc6_8 := blk_cell L_8.out 6
      have q_8 := q_7.trans (b.mono q_7.size)
      clear P_7 Pz_7 Pc0_7 Pc1_7 Pc2_7 Pc3_7 Pc4_7 Pc5_7 Pc6_7 A_7 Az_7 Ac0_7 Ac1_7 Ac2_7 Ac3_7 Ac4_7 Ac5_7 Ac6_7 L_7 Lz_7 Lc0_7 Lc1_7 Lc2_7 Lc3_7 Lc4_7 Lc5_7 Lc6_7 q_7
      clear b
      go_wp2_with fail
      have b : Below V8.heap.size V8 (V8.alloc (.cells #[.int .i64 yt.c, .int .i64 yt.t, .int .i64 yt.m, .int .i64 yt.u, .int .i64 yt.e, .int .i64 yt.s, .bool yt.h] 34)) := ((Below.refl _ V8).alloc (Nat.le_refl _) (.cells #[.int .i64 yt.c, .int .i64 yt.t, .int .i64 yt.m, .int .i64 yt.u, .int .i64 yt.e, .int .i64 yt.s, .bool yt.h] 34))
      have nb0 := blk_new V8 (.cells #[.int .i64 yt.c, .int .i64 yt.t, .int .i64 yt.m, .int .i64 yt.u, .int .i64 yt.e, .int .i64 yt.s, .bool yt.h] 34)
      have nz0 : V8.heap.size < (V8.alloc (.cells #[.int .i64 yt.c, .int .i64 yt.t, .int .i64 yt.m, .int .i64 yt.u, .int .i64 yt.e, .int .i64 yt.s, .bool yt.h] 34)).heap.size := by simp only [World.size_alloc]; omega
      have P_9 := Lib.hid ((b.block _ Pz_8).trans P_8.out)
      have Pz_9 := Nat.lt_of_lt_of_le Pz_8 b.size
      have Pc0_9 := blk_cell P_9.out 0
      have Pc1_9 := blk_cell P_9.out 1
      have Pc2_9 := blk_cell P_9.out 2
      have Pc3_9 := blk_cell P_9.out 3
      have Pc4_9 := blk_cell P_9.out 4
      have Pc5_9 := blk_cell P_9.out 5
      have Pc6_9 := blk_cell P_9.out 6
      have A_9 := Lib.hid ((b.block _ Az_8).trans A_8.out)
      have Az_9 := Nat.lt_of_lt_of_le Az_8 b.size
      have Ac0_9 := blk_cell A_9.out 0
      have Ac1_9 := blk_cell A_9.out 1
      have Ac2_9 := blk_cell A_9.out 2
      have Ac3_9 := blk_cell A_9.out 3
      have Ac4_9 := blk_cell A_9.out 4
      have Ac5_9 := blk_cell A_9.out 5
      have Ac6_9 := blk_cell A_9.out 6
      have L_9 := Lib.hid ((b.block _ Lz_8).trans L_8.out)
      have Lz_9 := Nat.lt_of_lt_of_le Lz_8 b.size
      have Lc0_9 := blk_cell L_9.out 0
      have Lc1_9 := blk_cell L_9.out 1
      have Lc2_9 := blk_cell L_9.out 2
      have Lc3_9 := blk_cell L_9.out 3
      have Lc4_9 := blk_cell L_9.out 4
      have Lc5_9 := blk_cell L_9.out 5
      have Lc6_9 := blk_cell L_9.out 6
      have q_9 := q_8.trans (b.mono q_8.size)
      clear P_8 Pz_8 Pc0_8 Pc1_8 Pc2_8 Pc3_8 Pc4_8 Pc5_8 Pc6_8 A_8 Az_8 Ac0_8 Ac1_8 Ac2_8 Ac3_8 Ac4_8 Ac5_8 Ac6_8 L_8 Lz_8 Lc0_8 Lc1_8 Lc2_8 Lc3_8 Lc4_8 Lc5_8 Lc6_8 q_8
      clear b
      have T_9 := Lib.hid nb0
      have Tz_9 := nz0
      clear nb0 nz0
      have Tc0_9 := blk_cell T_9.out 0
      have Tc1_9 := blk_cell T_9.out 1
      have Tc2_9 := blk_cell T_9.out 2
      have Tc3_9 := blk_cell T_9.out 3
      have Tc4_9 := blk_cell T_9.out 4
      have Tc5_9 := blk_cell T_9.out 5
      have Tc6_9 := blk_cell T_9.out 6
      generalize (V8.alloc (.cells #[.int .i64 yt.c, .int .i64 yt.t, .int .i64 yt.m, .int .i64 yt.u, .int .i64 yt.e, .int .i64 yt.s, .bool yt.h] 34)) = V9 at q_9 P_9 Pz_9 Pc0_9 Pc1_9 Pc2_9 Pc3_9 Pc4_9 Pc5_9 Pc6_9 A_9 Az_9 Ac0_9 Ac1_9 Ac2_9 Ac3_9 Ac4_9 Ac5_9 Ac6_9 L_9 Lz_9 Lc0_9 Lc1_9 Lc2_9 Lc3_9 Lc4_9 Lc5_9 Lc6_9 T_9 Tz_9 Tc0_9 Tc1_9 Tc2_9 Tc3_9 Tc4_9 Tc5_9 Tc6_9 ⊢
      refine (num_any _ _).mono ?_
      rintro e w' ⟨rfl, rfl⟩
      go_wp2_with fail
      refine (check_l yl m 0 HCl.out.eq _).mono ?_
      rintro e V10 ⟨rfl, b⟩
      have P_10 := Lib.hid ((b.block _ Pz_9).trans P_9.out)
      have Pz_10 := Nat.lt_of_lt_of_le Pz_9 b.size
      have Pc0_10 := blk_cell P_10.out 0
      have Pc1_10 := blk_cell P_10.out 1
      have Pc2_10 := blk_cell P_10.out 2
      have Pc3_10 := blk_cell P_10.out 3
      have Pc4_10 := blk_cell P_10.out 4
      have Pc5_10 := blk_cell P_10.out 5
      have Pc6_10 := blk_cell P_10.out 6
      have A_10 := Lib.hid ((b.block _ Az_9).trans A_9.out)
      have Az_10 := Nat.lt_of_lt_of_le Az_9 b.size
      have Ac0_10 := blk_cell A_10.out 0
      have Ac1_10 := blk_cell A_10.out 1
      have Ac2_10 := blk_cell A_10.out 2
      have Ac3_10 := blk_cell A_10.out 3
      have Ac4_10 := blk_cell A_10.out 4
      have Ac5_10 := blk_cell A_10.out 5
      have Ac6_10 := blk_cell A_10.out 6
      have L_10 := Lib.hid ((b.block _ Lz_9).trans L_9.out)
      have Lz_10 := Nat.lt_of_lt_of_le Lz_9 b.size
      have Lc0_10 := blk_cell L_10.out 0
      have Lc1_10 := blk_cell L_10.out 1
      have Lc2_10 := blk_cell L_10.out 2
      have Lc3_10 := blk_cell L_10.out 3
      have Lc4_10 := blk_cell L_10.out 4
      have Lc5_10 := blk_cell L_10.out 5
      have Lc6_10 := blk_cell L_10.out 6
      have T_10 := Lib.hid ((b.block _ Tz_9).trans T_9.out)
      have Tz_10 := Nat.lt_of_lt_of_le Tz_9 b.size
      have Tc0_10 := blk_cell T_10.out 0
      have Tc1_10 := blk_cell T_10.out 1
      have Tc2_10 := blk_cell T_10.out 2
      have Tc3_10 := blk_cell T_10.out 3
      have Tc4_10 := blk_cell T_10.out 4
      have Tc5_10 := blk_cell T_10.out 5
      have Tc6_10 := blk_cell T_10.out 6
      have q_10 := q_9.trans (b.mono q_9.size)
      clear P_9 Pz_9 Pc0_9 Pc1_9 Pc2_9 Pc3_9 Pc4_9 Pc5_9 Pc6_9 A_9 Az_9 Ac0_9 Ac1_9 Ac2_9 Ac3_9 Ac4_9 Ac5_9 Ac6_9 L_9 Lz_9 Lc0_9 Lc1_9 Lc2_9 Lc3_9 Lc4_9 Lc5_9 Lc6_9 T_9 Tz_9 Tc0_9 Tc1_9 Tc2_9 Tc3_9 Tc4_9 Tc5_9 Tc6_9 q_9
      clear b
      go_wp2_with fail
      refine (num_any _ _).mono ?_
      rintro e w' ⟨rfl, rfl⟩
      go_wp2_with fail
      refine (check_l yt m 0 HCt.out.eq _).mono ?_
      rintro e V11 ⟨rfl, b⟩
      have P_11 := Lib.hid ((b.block _ Pz_10).trans P_10.out)
      have Pz_11 := Nat.lt_of_lt_of_le Pz_10 b.size
      have Pc0_11 := blk_cell P_11.out 0
      have Pc1_11 := blk_cell P_11.out 1
      have Pc2_11 := blk_cell P_11.out 2
      have Pc3_11 := blk_cell P_11.out 3
      have Pc4_11 := blk_cell P_11.out 4
      have Pc5_11 := blk_cell P_11.out 5
      have Pc6_11 := blk_cell P_11.out 6
      have A_11 := Lib.hid ((b.block _ Az_10).trans A_10.out)
      have Az_11 := Nat.lt_of_lt_of_le Az_10 b.size
      have Ac0_11 := blk_cell A_11.out 0
      have Ac1_11 := blk_cell A_11.out 1
      have Ac2_11 := blk_cell A_11.out 2
      have Ac3_11 := blk_cell A_11.out 3
      have Ac4_11 := blk_cell A_11.out 4
      have Ac5_11 := blk_cell A_11.out 5
      have Ac6_11 := blk_cell A_11.out 6
      have L_11 := Lib.hid ((b.block _ Lz_10).trans L_10.out)
      have Lz_11 := Nat.lt_of_lt_of_le Lz_10 b.size
      have Lc0_11 := blk_cell L_11.out 0
      have Lc1_11 := blk_cell L_11.out 1
      have Lc2_11 := blk_cell L_11.out 2
      have Lc3_11 := blk_cell L_11.out 3
      have Lc4_11 := blk_cell L_11.out 4
      have Lc5_11 := blk_cell L_11.out 5
      have Lc6_11 := blk_cell L_11.out 6
      have T_11 := Lib.hid ((b.block _ Tz_10).trans T_10.out)
      have Tz_11 := Nat.lt_of_lt_of_le Tz_10 b.size
      have Tc0_11 := blk_cell T_11.out 0
      have Tc1_11 := blk_cell T_11.out 1
      have Tc2_11 := blk_cell T_11.out 2
      have Tc3_11 := blk_cell T_11.out 3
      have Tc4_11 := blk_cell T_11.out 4
      have Tc5_11 := blk_cell T_11.out 5
      have Tc6_11 := blk_cell T_11.out 6
      have q_11 := q_10.trans (b.mono q_10.size)
      clear P_10 Pz_10 Pc0_10 Pc1_10 Pc2_10 Pc3_10 Pc4_10 Pc5_10 Pc6_10 A_10 Az_10 Ac0_10 Ac1_10 Ac2_10 Ac3_10 Ac4_10 Ac5_10 Ac6_10 L_10 Lz_10 Lc0_10 Lc1_10 Lc2_10 Lc3_10 Lc4_10 Lc5_10 Lc6_10 T_10 Tz_10 Tc0_10 Tc1_10 Tc2_10 Tc3_10 Tc4_10 Tc5_10 Tc6_10 q_10
      clear b
      go_wp2_with fail
      refine (num_any _ _).mono ?_
      rintro e w' ⟨rfl, rfl⟩
      have f3 := HF3.out
      have ht1 := HT1.out
      obtain ⟨m0, m1⟩ := HM.out
      have e5 : (yt.c == m) = true := by rw [beq_iff_eq]; exact ht1
      go_wp2
      go_ret
      exact ⟨rfl, q_11⟩
    case neg =>
      obtain ⟨E, hE⟩ : ∃ z, akE x m n v r = z := ⟨_, rfl⟩
      have e1 : (E == 0) = false := by rw [beq_eq_false_iff_ne, ← hE, akE, if_pos hM, if_pos hV, if_neg hA]; decide
      have HE : Hid (Sm (akE x m n v r) E) := Lib.hid ⟨hE⟩
      have Ha : Hid (Sm (akO x m n v r) Cu.Z) := Lib.hid ⟨if_neg (fun hh => hA hh.2.2)⟩
      clear hE
      have HM := Lib.hid hM
      have hf := ls_facts hM hV
      have hcl : Hid (Sm (cE (ls x m) m) 0) := Lib.hid ⟨by rw [cE, if_pos hM, if_pos (ls_cv hM hV)]⟩
      have hct : Hid (Sm (cE { ls x m with c := m } m) 0) := Lib.hid ⟨by rw [cE, if_pos hM, if_pos (tm_cv hM hV)]⟩
      obtain ⟨yt, hyt⟩ : ∃ y, ({ ls x m with c := m } : CS) = y := ⟨_, rfl⟩
      have ht1 : yt.c = m := by rw [← hyt]
      obtain ⟨yl, hyl⟩ : ∃ y, ls x m = y := ⟨_, rfl⟩
      rw [hyt] at hct
      rw [hyl] at hcl hf
      obtain ⟨f1, f2, f3⟩ := hf
      have HF3 := Lib.hid f3
      have HT1 := Lib.hid ht1
      clear f3 ht1
      have HCl := hcl
      have HCt := hct
      have Hl : Hid (Sm (lsO x m) yl) := Lib.hid ⟨by rw [lsO, if_pos ⟨hM, hV⟩, hyl]⟩
      have Ht : Hid (Sm (tmO x m) yt) := Lib.hid ⟨by rw [tmO, if_pos ⟨hM, hV⟩, hyt]⟩
      have HG : Hid (Sm (cE x m) 0) := Lib.hid ⟨by rw [cE, if_pos hM, if_pos hV]⟩
      clear hyl hyt hcl hct
      clear hM hV hA
      have q_0 := Below.refl w.heap.size w
      go_enter Try.func7, Try.ntmps7
      go_wp2_with fail
      have b : Below w.heap.size w (w.alloc (.cells #[.int .i64 x.c, .int .i64 x.t, .int .i64 x.m, .int .i64 x.u, .int .i64 x.e, .int .i64 x.s, .bool x.h] 33)) := ((Below.refl _ w).alloc (Nat.le_refl _) (.cells #[.int .i64 x.c, .int .i64 x.t, .int .i64 x.m, .int .i64 x.u, .int .i64 x.e, .int .i64 x.s, .bool x.h] 33))
      have nb0 := blk_new w (.cells #[.int .i64 x.c, .int .i64 x.t, .int .i64 x.m, .int .i64 x.u, .int .i64 x.e, .int .i64 x.s, .bool x.h] 33)
      have nz0 : w.heap.size < (w.alloc (.cells #[.int .i64 x.c, .int .i64 x.t, .int .i64 x.m, .int .i64 x.u, .int .i64 x.e, .int .i64 x.s, .bool x.h] 33)).heap.size := by simp only [World.size_alloc]; omega
      have q_1 := q_0.trans (b.mono q_0.size)
      clear q_0
      clear b
      have P_1 := Lib.hid nb0
      have Pz_1 := nz0
      clear nb0 nz0
      have Pc0_1 := blk_cell P_1.out 0
      have Pc1_1 := blk_cell P_1.out 1
      have Pc2_1 := blk_cell P_1.out 2
      have Pc3_1 := blk_cell P_1.out 3
      have Pc4_1 := blk_cell P_1.out 4
      have Pc5_1 := blk_cell P_1.out 5
      have Pc6_1 := blk_cell P_1.out 6
      generalize (w.alloc (.cells #[.int .i64 x.c, .int .i64 x.t, .int .i64 x.m, .int .i64 x.u, .int .i64 x.e, .int .i64 x.s, .bool x.h] 33)) = V1 at q_1 P_1 Pz_1 Pc0_1 Pc1_1 Pc2_1 Pc3_1 Pc4_1 Pc5_1 Pc6_1 ⊢
      refine (alive_any _).mono ?_
      rintro e V2 ⟨rfl, b⟩
      have P_2 := Lib.hid ((b.block _ Pz_1).trans P_1.out)
      have Pz_2 := Nat.lt_of_lt_of_le Pz_1 b.size
      have Pc0_2 := blk_cell P_2.out 0
      have Pc1_2 := blk_cell P_2.out 1
      have Pc2_2 := blk_cell P_2.out 2
      have Pc3_2 := blk_cell P_2.out 3
      have Pc4_2 := blk_cell P_2.out 4
      have Pc5_2 := blk_cell P_2.out 5
      have Pc6_2 := blk_cell P_2.out 6
      have q_2 := q_1.trans (b.mono q_1.size)
      clear P_1 Pz_1 Pc0_1 Pc1_1 Pc2_1 Pc3_1 Pc4_1 Pc5_1 Pc6_1 q_1
      clear b
      go_wp2_with fail
      refine (pack0 x m n v r E HE.out.eq Ha.out.eq _).mono ?_
      rintro e V3 ⟨rfl, b⟩
      have P_3 := Lib.hid ((b.block _ Pz_2).trans P_2.out)
      have Pz_3 := Nat.lt_of_lt_of_le Pz_2 b.size
      have Pc0_3 := blk_cell P_3.out 0
      have Pc1_3 := blk_cell P_3.out 1
      have Pc2_3 := blk_cell P_3.out 2
      have Pc3_3 := blk_cell P_3.out 3
      have Pc4_3 := blk_cell P_3.out 4
      have Pc5_3 := blk_cell P_3.out 5
      have Pc6_3 := blk_cell P_3.out 6
      have q_3 := q_2.trans (b.mono q_2.size)
      clear P_2 Pz_2 Pc0_2 Pc1_2 Pc2_2 Pc3_2 Pc4_2 Pc5_2 Pc6_2 q_2
      clear b
      go_wp2_with fail
      have b : Below V3.heap.size V3 (V3.alloc (.cells #[.int .i64 0, .int .i64 0, .int .i64 0, .int .i64 0, .int .i64 0, .int .i64 0, .bool false] 34)) := ((Below.refl _ V3).alloc (Nat.le_refl _) (.cells #[.int .i64 0, .int .i64 0, .int .i64 0, .int .i64 0, .int .i64 0, .int .i64 0, .bool false] 34))
      have nb0 := blk_new V3 (.cells #[.int .i64 0, .int .i64 0, .int .i64 0, .int .i64 0, .int .i64 0, .int .i64 0, .bool false] 34)
      have nz0 : V3.heap.size < (V3.alloc (.cells #[.int .i64 0, .int .i64 0, .int .i64 0, .int .i64 0, .int .i64 0, .int .i64 0, .bool false] 34)).heap.size := by simp only [World.size_alloc]; omega
      have P_4 := Lib.hid ((b.block _ Pz_3).trans P_3.out)
      have Pz_4 := Nat.lt_of_lt_of_le Pz_3 b.size
      have Pc0_4 := blk_cell P_4.out 0
      have Pc1_4 := blk_cell P_4.out 1
      have Pc2_4 := blk_cell P_4.out 2
      have Pc3_4 := blk_cell P_4.out 3
      have Pc4_4 := blk_cell P_4.out 4
      have Pc5_4 := blk_cell P_4.out 5
      have Pc6_4 := blk_cell P_4.out 6
      have q_4 := q_3.trans (b.mono q_3.size)
      clear P_3 Pz_3 Pc0_3 Pc1_3 Pc2_3 Pc3_3 Pc4_3 Pc5_3 Pc6_3 q_3
      clear b
      have A_4 := Lib.hid nb0
      have Az_4 := nz0
      clear nb0 nz0
      have Ac0_4 := blk_cell A_4.out 0
      have Ac1_4 := blk_cell A_4.out 1
      have Ac2_4 := blk_cell A_4.out 2
      have Ac3_4 := blk_cell A_4.out 3
      have Ac4_4 := blk_cell A_4.out 4
      have Ac5_4 := blk_cell A_4.out 5
      have Ac6_4 := blk_cell A_4.out 6
      generalize (V3.alloc (.cells #[.int .i64 0, .int .i64 0, .int .i64 0, .int .i64 0, .int .i64 0, .int .i64 0, .bool false] 34)) = V4 at q_4 P_4 Pz_4 Pc0_4 Pc1_4 Pc2_4 Pc3_4 Pc4_4 Pc5_4 Pc6_4 A_4 Az_4 Ac0_4 Ac1_4 Ac2_4 Ac3_4 Ac4_4 Ac5_4 Ac6_4 ⊢
      refine (num_any _ _).mono ?_
      rintro e w' ⟨rfl, rfl⟩
      go_wp2_with fail
      refine (ploss x yl m 0 HG.out.eq Hl.out.eq _).mono ?_
      rintro e V5 ⟨rfl, b⟩
      have P_5 := Lib.hid ((b.block _ Pz_4).trans P_4.out)
      have Pz_5 := Nat.lt_of_lt_of_le Pz_4 b.size
      have Pc0_5 := blk_cell P_5.out 0
      have Pc1_5 := blk_cell P_5.out 1
      have Pc2_5 := blk_cell P_5.out 2
      have Pc3_5 := blk_cell P_5.out 3
      have Pc4_5 := blk_cell P_5.out 4
      have Pc5_5 := blk_cell P_5.out 5
      have Pc6_5 := blk_cell P_5.out 6
      have A_5 := Lib.hid ((b.block _ Az_4).trans A_4.out)
      have Az_5 := Nat.lt_of_lt_of_le Az_4 b.size
      have Ac0_5 := blk_cell A_5.out 0
      have Ac1_5 := blk_cell A_5.out 1
      have Ac2_5 := blk_cell A_5.out 2
      have Ac3_5 := blk_cell A_5.out 3
      have Ac4_5 := blk_cell A_5.out 4
      have Ac5_5 := blk_cell A_5.out 5
      have Ac6_5 := blk_cell A_5.out 6
      have q_5 := q_4.trans (b.mono q_4.size)
      clear P_4 Pz_4 Pc0_4 Pc1_4 Pc2_4 Pc3_4 Pc4_4 Pc5_4 Pc6_4 A_4 Az_4 Ac0_4 Ac1_4 Ac2_4 Ac3_4 Ac4_4 Ac5_4 Ac6_4 q_4
      clear b
      go_wp2_with fail
      have b : Below V5.heap.size V5 (V5.alloc (.cells #[.int .i64 yl.c, .int .i64 yl.t, .int .i64 yl.m, .int .i64 yl.u, .int .i64 yl.e, .int .i64 yl.s, .bool yl.h] 34)) := ((Below.refl _ V5).alloc (Nat.le_refl _) (.cells #[.int .i64 yl.c, .int .i64 yl.t, .int .i64 yl.m, .int .i64 yl.u, .int .i64 yl.e, .int .i64 yl.s, .bool yl.h] 34))
      have nb0 := blk_new V5 (.cells #[.int .i64 yl.c, .int .i64 yl.t, .int .i64 yl.m, .int .i64 yl.u, .int .i64 yl.e, .int .i64 yl.s, .bool yl.h] 34)
      have nz0 : V5.heap.size < (V5.alloc (.cells #[.int .i64 yl.c, .int .i64 yl.t, .int .i64 yl.m, .int .i64 yl.u, .int .i64 yl.e, .int .i64 yl.s, .bool yl.h] 34)).heap.size := by simp only [World.size_alloc]; omega
      have P_6 := Lib.hid ((b.block _ Pz_5).trans P_5.out)
      have Pz_6 := Nat.lt_of_lt_of_le Pz_5 b.size
      have Pc0_6 := blk_cell P_6.out 0
      have Pc1_6 := blk_cell P_6.out 1
      have Pc2_6 := blk_cell P_6.out 2
      have Pc3_6 := blk_cell P_6.out 3
      have Pc4_6 := blk_cell P_6.out 4
      have Pc5_6 := blk_cell P_6.out 5
      have Pc6_6 := blk_cell P_6.out 6
      have A_6 := Lib.hid ((b.block _ Az_5).trans A_5.out)
      have Az_6 := Nat.lt_of_lt_of_le Az_5 b.size
      have Ac0_6 := blk_cell A_6.out 0
      have Ac1_6 := blk_cell A_6.out 1
      have Ac2_6 := blk_cell A_6.out 2
      have Ac3_6 := blk_cell A_6.out 3
      have Ac4_6 := blk_cell A_6.out 4
      have Ac5_6 := blk_cell A_6.out 5
      have Ac6_6 := blk_cell A_6.out 6
      have q_6 := q_5.trans (b.mono q_5.size)
      clear P_5 Pz_5 Pc0_5 Pc1_5 Pc2_5 Pc3_5 Pc4_5 Pc5_5 Pc6_5 A_5 Az_5 Ac0_5 Ac1_5 Ac2_5 Ac3_5 Ac4_5 Ac5_5 Ac6_5 q_5
      clear b
      have L_6 := Lib.hid nb0
      have Lz_6 := nz0
      clear nb0 nz0
      have Lc0_6 := blk_cell L_6.out 0
      have Lc1_6 := blk_cell L_6.out 1
      have Lc2_6 := blk_cell L_6.out 2
      have Lc3_6 := blk_cell L_6.out 3
      have Lc4_6 := blk_cell L_6.out 4
      have Lc5_6 := blk_cell L_6.out 5
      have Lc6_6 := blk_cell L_6.out 6
      generalize (V5.alloc (.cells #[.int .i64 yl.c, .int .i64 yl.t, .int .i64 yl.m, .int .i64 yl.u, .int .i64 yl.e, .int .i64 yl.s, .bool yl.h] 34)) = V6 at q_6 P_6 Pz_6 Pc0_6 Pc1_6 Pc2_6 Pc3_6 Pc4_6 Pc5_6 Pc6_6 A_6 Az_6 Ac0_6 Ac1_6 Ac2_6 Ac3_6 Ac4_6 Ac5_6 Ac6_6 L_6 Lz_6 Lc0_6 Lc1_6 Lc2_6 Lc3_6 Lc4_6 Lc5_6 Lc6_6 ⊢
      refine (ptimeout x yt m 0 HG.out.eq Ht.out.eq _).mono ?_
      rintro e V7 ⟨rfl, b⟩
      have P_7 := Lib.hid ((b.block _ Pz_6).trans P_6.out)
      have Pz_7 := Nat.lt_of_lt_of_le Pz_6 b.size
      have Pc0_7 := blk_cell P_7.out 0
      have Pc1_7 := blk_cell P_7.out 1
      have Pc2_7 := blk_cell P_7.out 2
      have Pc3_7 := blk_cell P_7.out 3
      have Pc4_7 := blk_cell P_7.out 4
      have Pc5_7 := blk_cell P_7.out 5
      have Pc6_7 := blk_cell P_7.out 6
      have A_7 := Lib.hid ((b.block _ Az_6).trans A_6.out)
      have Az_7 := Nat.lt_of_lt_of_le Az_6 b.size
      have Ac0_7 := blk_cell A_7.out 0
      have Ac1_7 := blk_cell A_7.out 1
      have Ac2_7 := blk_cell A_7.out 2
      have Ac3_7 := blk_cell A_7.out 3
      have Ac4_7 := blk_cell A_7.out 4
      have Ac5_7 := blk_cell A_7.out 5
      have Ac6_7 := blk_cell A_7.out 6
      have L_7 := Lib.hid ((b.block _ Lz_6).trans L_6.out)
      have Lz_7 := Nat.lt_of_lt_of_le Lz_6 b.size
      have Lc0_7 := blk_cell L_7.out 0
      have Lc1_7 := blk_cell L_7.out 1
      have Lc2_7 := blk_cell L_7.out 2
      have Lc3_7 := blk_cell L_7.out 3
      have Lc4_7 := blk_cell L_7.out 4
      have Lc5_7 := blk_cell L_7.out 5
      have Lc6_7 := blk_cell L_7.out 6
      have q_7 := q_6.trans (b.mono q_6.size)
      clear P_6 Pz_6 Pc0_6 Pc1_6 Pc2_6 Pc3_6 Pc4_6 Pc5_6 Pc6_6 A_6 Az_6 Ac0_6 Ac1_6 Ac2_6 Ac3_6 Ac4_6 Ac5_6 Ac6_6 L_6 Lz_6 Lc0_6 Lc1_6 Lc2_6 Lc3_6 Lc4_6 Lc5_6 Lc6_6 q_6
      clear b
      go_wp2_with fail
      have b : Below V7.heap.size V7 (V7.alloc (.cells #[.int .i64 yt.c, .int .i64 yt.t, .int .i64 yt.m, .int .i64 yt.u, .int .i64 yt.e, .int .i64 yt.s, .bool yt.h] 34)) := ((Below.refl _ V7).alloc (Nat.le_refl _) (.cells #[.int .i64 yt.c, .int .i64 yt.t, .int .i64 yt.m, .int .i64 yt.u, .int .i64 yt.e, .int .i64 yt.s, .bool yt.h] 34))
      have nb0 := blk_new V7 (.cells #[.int .i64 yt.c, .int .i64 yt.t, .int .i64 yt.m, .int .i64 yt.u, .int .i64 yt.e, .int .i64 yt.s, .bool yt.h] 34)
      have nz0 : V7.heap.size < (V7.alloc (.cells #[.int .i64 yt.c, .int .i64 yt.t, .int .i64 yt.m, .int .i64 yt.u, .int .i64 yt.e, .int .i64 yt.s, .bool yt.h] 34)).heap.size := by simp only [World.size_alloc]; omega
      have P_8 := Lib.hid ((b.block _ Pz_7).trans P_7.out)
      have Pz_8 := Nat.lt_of_lt_of_le Pz_7 b.size
      have Pc0_8 := blk_cell P_8.out 0
      have Pc1_8 := blk_cell P_8.out 1
      have Pc2_8 := blk_cell P_8.out 2
      have Pc3_8 := blk_cell P_8.out 3
      have Pc4_8 := blk_cell P_8.out 4
      have Pc5_8 := blk_cell P_8.out 5
      have Pc6_8 := blk_cell P_8.out 6
      have A_8 := Lib.hid ((b.block _ Az_7).trans A_7.out)
      have Az_8 := Nat.lt_of_lt_of_le Az_7 b.size
      have Ac0_8 := blk_cell A_8.out 0
      have Ac1_8 := blk_cell A_8.out 1
      have Ac2_8 := blk_cell A_8.out 2
      have Ac3_8 := blk_cell A_8.out 3
      have Ac4_8 := blk_cell A_8.out 4
      have Ac5_8 := blk_cell A_8.out 5
      have Ac6_8 := blk_cell A_8.out 6
      have L_8 := Lib.hid ((b.block _ Lz_7).trans L_7.out)
      have Lz_8 := Nat.lt_of_lt_of_le Lz_7 b.size
      have Lc0_8 := blk_cell L_8.out 0
      have Lc1_8 := blk_cell L_8.out 1
      have Lc2_8 := blk_cell L_8.out 2
      have Lc3_8 := blk_cell L_8.out 3
      have Lc4_8 := blk_cell L_8.out 4
      have Lc5_8 := blk_cell L_8.out 5
      have Lc6_8 := blk_cell L_8.out 6
      have q_8 := q_7.trans (b.mono q_7.size)
      clear P_7 Pz_7 Pc0_7 Pc1_7 Pc2_7 Pc3_7 Pc4_7 Pc5_7 Pc6_7 A_7 Az_7 Ac0_7 Ac1_7 Ac2_7 Ac3_7 Ac4_7 Ac5_7 Ac6_7 L_7 Lz_7 Lc0_7 Lc1_7 Lc2_7 Lc3_7 Lc4_7 Lc5_7 Lc6_7 q_7
      clear b
      have T_8 := Lib.hid nb0
      have Tz_8 := nz0
      clear nb0 nz0
      have Tc0_8 := blk_cell T_8.out 0
      have Tc1_8 := blk_cell T_8.out 1
      have Tc2_8 := blk_cell T_8.out 2
      have Tc3_8 := blk_cell T_8.out 3
      have Tc4_8 := blk_cell T_8.out 4
      have Tc5_8 := blk_cell T_8.out 5
      have Tc6_8 := blk_cell T_8.out 6
      generalize (V7.alloc (.cells #[.int .i64 yt.c, .int .i64 yt.t, .int .i64 yt.m, .int .i64 yt.u, .int .i64 yt.e, .int .i64 yt.s, .bool yt.h] 34)) = V8 at q_8 P_8 Pz_8 Pc0_8 Pc1_8 Pc2_8 Pc3_8 Pc4_8 Pc5_8 Pc6_8 A_8 Az_8 Ac0_8 Ac1_8 Ac2_8 Ac3_8 Ac4_8 Ac5_8 Ac6_8 L_8 Lz_8 Lc0_8 Lc1_8 Lc2_8 Lc3_8 Lc4_8 Lc5_8 Lc6_8 T_8 Tz_8 Tc0_8 Tc1_8 Tc2_8 Tc3_8 Tc4_8 Tc5_8 Tc6_8 ⊢
      refine (num_any _ _).mono ?_
      rintro e w' ⟨rfl, rfl⟩
      go_wp2_with fail
      refine (check_l yl m 0 HCl.out.eq _).mono ?_
      rintro e V9 ⟨rfl, b⟩
      have P_9 := Lib.hid ((b.block _ Pz_8).trans P_8.out)
      have Pz_9 := Nat.lt_of_lt_of_le Pz_8 b.size
      have Pc0_9 := blk_cell P_9.out 0
      have Pc1_9 := blk_cell P_9.out 1
      have Pc2_9 := blk_cell P_9.out 2
      have Pc3_9 := blk_cell P_9.out 3
      have Pc4_9 := blk_cell P_9.out 4
      have Pc5_9 := blk_cell P_9.out 5
      have Pc6_9 := blk_cell P_9.out 6
      have A_9 := Lib.hid ((b.block _ Az_8).trans A_8.out)
      have Az_9 := Nat.lt_of_lt_of_le Az_8 b.size
      have Ac0_9 := blk_cell A_9.out 0
      have Ac1_9 := blk_cell A_9.out 1
      have Ac2_9 := blk_cell A_9.out 2
      have Ac3_9 := blk_cell A_9.out 3
      have Ac4_9 := blk_cell A_9.out 4
      have Ac5_9 := blk_cell A_9.out 5
      have Ac6_9 := blk_cell A_9.out 6
      have L_9 := Lib.hid ((b.block _ Lz_8).trans L_8.out)
      have Lz_9 := Nat.lt_of_lt_of_le Lz_8 b.size
      have Lc0_9 := blk_cell L_9.out 0
      have Lc1_9 := blk_cell L_9.out 1
      have Lc2_9 := blk_cell L_9.out 2
      have Lc3_9 := blk_cell L_9.out 3
      have Lc4_9 := blk_cell L_9.out 4
      have Lc5_9 := blk_cell L_9.out 5
      have Lc6_9 := blk_cell L_9.out 6
      have T_9 := Lib.hid ((b.block _ Tz_8).trans T_8.out)
      have Tz_9 := Nat.lt_of_lt_of_le Tz_8 b.size
      have Tc0_9 := blk_cell T_9.out 0
      have Tc1_9 := blk_cell T_9.out 1
      have Tc2_9 := blk_cell T_9.out 2
      have Tc3_9 := blk_cell T_9.out 3
      have Tc4_9 := blk_cell T_9.out 4
      have Tc5_9 := blk_cell T_9.out 5
      have Tc6_9 := blk_cell T_9.out 6
      have q_9 := q_8.trans (b.mono q_8.size)
      clear P_8 Pz_8 Pc0_8 Pc1_8 Pc2_8 Pc3_8 Pc4_8 Pc5_8 Pc6_8 A_8 Az_8 Ac0_8 Ac1_8 Ac2_8 Ac3_8 Ac4_8 Ac5_8 Ac6_8 L_8 Lz_8 Lc0_8 Lc1_8 Lc2_8 Lc3_8 Lc4_8 Lc5_8 Lc6_8 T_8 Tz_8 Tc0_8 Tc1_8 Tc2_8 Tc3_8 Tc4_8 Tc5_8 Tc6_8 q_8
      clear b
      go_wp2_with fail
      refine (num_any _ _).mono ?_
      rintro e w' ⟨rfl, rfl⟩
      go_wp2_with fail
      refine (check_l yt m 0 HCt.out.eq _).mono ?_
      rintro e V10 ⟨rfl, b⟩
      have P_10 := Lib.hid ((b.block _ Pz_9).trans P_9.out)
      have Pz_10 := Nat.lt_of_lt_of_le Pz_9 b.size
      have Pc0_10 := blk_cell P_10.out 0
      have Pc1_10 := blk_cell P_10.out 1
      have Pc2_10 := blk_cell P_10.out 2
      have Pc3_10 := blk_cell P_10.out 3
      have Pc4_10 := blk_cell P_10.out 4
      have Pc5_10 := blk_cell P_10.out 5
      have Pc6_10 := blk_cell P_10.out 6
      have A_10 := Lib.hid ((b.block _ Az_9).trans A_9.out)
      have Az_10 := Nat.lt_of_lt_of_le Az_9 b.size
      have Ac0_10 := blk_cell A_10.out 0
      have Ac1_10 := blk_cell A_10.out 1
      have Ac2_10 := blk_cell A_10.out 2
      have Ac3_10 := blk_cell A_10.out 3
      have Ac4_10 := blk_cell A_10.out 4
      have Ac5_10 := blk_cell A_10.out 5
      have Ac6_10 := blk_cell A_10.out 6
      have L_10 := Lib.hid ((b.block _ Lz_9).trans L_9.out)
      have Lz_10 := Nat.lt_of_lt_of_le Lz_9 b.size
      have Lc0_10 := blk_cell L_10.out 0
      have Lc1_10 := blk_cell L_10.out 1
      have Lc2_10 := blk_cell L_10.out 2
      have Lc3_10 := blk_cell L_10.out 3
      have Lc4_10 := blk_cell L_10.out 4
      have Lc5_10 := blk_cell L_10.out 5
      have Lc6_10 := blk_cell L_10.out 6
      have T_10 := Lib.hid ((b.block _ Tz_9).trans T_9.out)
      have Tz_10 := Nat.lt_of_lt_of_le Tz_9 b.size
      have Tc0_10 := blk_cell T_10.out 0
      have Tc1_10 := blk_cell T_10.out 1
      have Tc2_10 := blk_cell T_10.out 2
      have Tc3_10 := blk_cell T_10.out 3
      have Tc4_10 := blk_cell T_10.out 4
      have Tc5_10 := blk_cell T_10.out 5
      have Tc6_10 := blk_cell T_10.out 6
      have q_10 := q_9.trans (b.mono q_9.size)
      clear P_9 Pz_9 Pc0_9 Pc1_9 Pc2_9 Pc3_9 Pc4_9 Pc5_9 Pc6_9 A_9 Az_9 Ac0_9 Ac1_9 Ac2_9 Ac3_9 Ac4_9 Ac5_9 Ac6_9 L_9 Lz_9 Lc0_9 Lc1_9 Lc2_9 Lc3_9 Lc4_9 Lc5_9 Lc6_9 T_9 Tz_9 Tc0_9 Tc1_9 Tc2_9 Tc3_9 Tc4_9 Tc5_9 Tc6_9 q_9
      clear b
      go_wp2_with fail
      refine (num_any _ _).mono ?_
      rintro e w' ⟨rfl, rfl⟩
      have f3 := HF3.out
      have ht1 := HT1.out
      obtain ⟨m0, m1⟩ := HM.out
      have e5 : (yt.c == m) = true := by rw [beq_iff_eq]; exact ht1
      go_wp2
      go_ret
      exact ⟨rfl, q_10⟩
  case neg =>
    obtain ⟨E, hE⟩ : ∃ z, akE x m n v r = z := ⟨_, rfl⟩
    obtain ⟨G, hG⟩ : ∃ z, cE x m = z := ⟨_, rfl⟩
    have e1 : (E == 0) = false := by
      rw [beq_eq_false_iff_ne, ← hE]
      unfold akE
      split
      · split
        · exact absurd ⟨by assumption, by assumption⟩ h
        · decide
      · decide
    have e2 : (G != 0) = true := by
      rw [bne_iff_ne, ← hG]
      unfold cE
      split
      · split
        · exact absurd ⟨by assumption, by assumption⟩ h
        · decide
      · decide
    have HE : Hid (Sm (akE x m n v r) E) := Lib.hid ⟨hE⟩
    have HG : Hid (Sm (cE x m) G) := Lib.hid ⟨hG⟩
    have Ha : Hid (Sm (akO x m n v r) Cu.Z) := Lib.hid ⟨if_neg (fun hh => h ⟨hh.1, hh.2.1⟩)⟩
    have Hl : Hid (Sm (lsO x m) Cu.Z) := Lib.hid ⟨if_neg h⟩
    have Ht : Hid (Sm (tmO x m) Cu.Z) := Lib.hid ⟨if_neg h⟩
    clear hE hG h
    have q_0 := Below.refl w.heap.size w
    go_enter Try.func7, Try.ntmps7
    go_wp2_with fail
    have b : Below w.heap.size w (w.alloc (.cells #[.int .i64 x.c, .int .i64 x.t, .int .i64 x.m, .int .i64 x.u, .int .i64 x.e, .int .i64 x.s, .bool x.h] 33)) := ((Below.refl _ w).alloc (Nat.le_refl _) (.cells #[.int .i64 x.c, .int .i64 x.t, .int .i64 x.m, .int .i64 x.u, .int .i64 x.e, .int .i64 x.s, .bool x.h] 33))
    have nb0 := blk_new w (.cells #[.int .i64 x.c, .int .i64 x.t, .int .i64 x.m, .int .i64 x.u, .int .i64 x.e, .int .i64 x.s, .bool x.h] 33)
    have nz0 : w.heap.size < (w.alloc (.cells #[.int .i64 x.c, .int .i64 x.t, .int .i64 x.m, .int .i64 x.u, .int .i64 x.e, .int .i64 x.s, .bool x.h] 33)).heap.size := by simp only [World.size_alloc]; omega
    have q_1 := q_0.trans (b.mono q_0.size)
    clear q_0
    clear b
    have P_1 := Lib.hid nb0
    have Pz_1 := nz0
    clear nb0 nz0
    have Pc0_1 := blk_cell P_1.out 0
    have Pc1_1 := blk_cell P_1.out 1
    have Pc2_1 := blk_cell P_1.out 2
    have Pc3_1 := blk_cell P_1.out 3
    have Pc4_1 := blk_cell P_1.out 4
    have Pc5_1 := blk_cell P_1.out 5
    have Pc6_1 := blk_cell P_1.out 6
    generalize (w.alloc (.cells #[.int .i64 x.c, .int .i64 x.t, .int .i64 x.m, .int .i64 x.u, .int .i64 x.e, .int .i64 x.s, .bool x.h] 33)) = V1 at q_1 P_1 Pz_1 Pc0_1 Pc1_1 Pc2_1 Pc3_1 Pc4_1 Pc5_1 Pc6_1 ⊢
    refine (alive_any _).mono ?_
    rintro e V2 ⟨rfl, b⟩
    have P_2 := Lib.hid ((b.block _ Pz_1).trans P_1.out)
    have Pz_2 := Nat.lt_of_lt_of_le Pz_1 b.size
    have Pc0_2 := blk_cell P_2.out 0
    have Pc1_2 := blk_cell P_2.out 1
    have Pc2_2 := blk_cell P_2.out 2
    have Pc3_2 := blk_cell P_2.out 3
    have Pc4_2 := blk_cell P_2.out 4
    have Pc5_2 := blk_cell P_2.out 5
    have Pc6_2 := blk_cell P_2.out 6
    have q_2 := q_1.trans (b.mono q_1.size)
    clear P_1 Pz_1 Pc0_1 Pc1_1 Pc2_1 Pc3_1 Pc4_1 Pc5_1 Pc6_1 q_1
    clear b
    go_wp2_with fail
    refine (pack0 x m n v r E HE.out.eq Ha.out.eq _).mono ?_
    rintro e V3 ⟨rfl, b⟩
    have P_3 := Lib.hid ((b.block _ Pz_2).trans P_2.out)
    have Pz_3 := Nat.lt_of_lt_of_le Pz_2 b.size
    have Pc0_3 := blk_cell P_3.out 0
    have Pc1_3 := blk_cell P_3.out 1
    have Pc2_3 := blk_cell P_3.out 2
    have Pc3_3 := blk_cell P_3.out 3
    have Pc4_3 := blk_cell P_3.out 4
    have Pc5_3 := blk_cell P_3.out 5
    have Pc6_3 := blk_cell P_3.out 6
    have q_3 := q_2.trans (b.mono q_2.size)
    clear P_2 Pz_2 Pc0_2 Pc1_2 Pc2_2 Pc3_2 Pc4_2 Pc5_2 Pc6_2 q_2
    clear b
    go_wp2_with fail
    have b : Below V3.heap.size V3 (V3.alloc (.cells #[.int .i64 0, .int .i64 0, .int .i64 0, .int .i64 0, .int .i64 0, .int .i64 0, .bool false] 34)) := ((Below.refl _ V3).alloc (Nat.le_refl _) (.cells #[.int .i64 0, .int .i64 0, .int .i64 0, .int .i64 0, .int .i64 0, .int .i64 0, .bool false] 34))
    have nb0 := blk_new V3 (.cells #[.int .i64 0, .int .i64 0, .int .i64 0, .int .i64 0, .int .i64 0, .int .i64 0, .bool false] 34)
    have nz0 : V3.heap.size < (V3.alloc (.cells #[.int .i64 0, .int .i64 0, .int .i64 0, .int .i64 0, .int .i64 0, .int .i64 0, .bool false] 34)).heap.size := by simp only [World.size_alloc]; omega
    have P_4 := Lib.hid ((b.block _ Pz_3).trans P_3.out)
    have Pz_4 := Nat.lt_of_lt_of_le Pz_3 b.size
    have Pc0_4 := blk_cell P_4.out 0
    have Pc1_4 := blk_cell P_4.out 1
    have Pc2_4 := blk_cell P_4.out 2
    have Pc3_4 := blk_cell P_4.out 3
    have Pc4_4 := blk_cell P_4.out 4
    have Pc5_4 := blk_cell P_4.out 5
    have Pc6_4 := blk_cell P_4.out 6
    have q_4 := q_3.trans (b.mono q_3.size)
    clear P_3 Pz_3 Pc0_3 Pc1_3 Pc2_3 Pc3_3 Pc4_3 Pc5_3 Pc6_3 q_3
    clear b
    have A_4 := Lib.hid nb0
    have Az_4 := nz0
    clear nb0 nz0
    have Ac0_4 := blk_cell A_4.out 0
    have Ac1_4 := blk_cell A_4.out 1
    have Ac2_4 := blk_cell A_4.out 2
    have Ac3_4 := blk_cell A_4.out 3
    have Ac4_4 := blk_cell A_4.out 4
    have Ac5_4 := blk_cell A_4.out 5
    have Ac6_4 := blk_cell A_4.out 6
    generalize (V3.alloc (.cells #[.int .i64 0, .int .i64 0, .int .i64 0, .int .i64 0, .int .i64 0, .int .i64 0, .bool false] 34)) = V4 at q_4 P_4 Pz_4 Pc0_4 Pc1_4 Pc2_4 Pc3_4 Pc4_4 Pc5_4 Pc6_4 A_4 Az_4 Ac0_4 Ac1_4 Ac2_4 Ac3_4 Ac4_4 Ac5_4 Ac6_4 ⊢
    refine (num_any _ _).mono ?_
    rintro e w' ⟨rfl, rfl⟩
    go_wp2_with fail
    refine (ploss0 x m G HG.out.eq Hl.out.eq _).mono ?_
    rintro e V5 ⟨rfl, b⟩
    have P_5 := Lib.hid ((b.block _ Pz_4).trans P_4.out)
    have Pz_5 := Nat.lt_of_lt_of_le Pz_4 b.size
    have Pc0_5 := blk_cell P_5.out 0
    have Pc1_5 := blk_cell P_5.out 1
    have Pc2_5 := blk_cell P_5.out 2
    have Pc3_5 := blk_cell P_5.out 3
    have Pc4_5 := blk_cell P_5.out 4
    have Pc5_5 := blk_cell P_5.out 5
    have Pc6_5 := blk_cell P_5.out 6
    have A_5 := Lib.hid ((b.block _ Az_4).trans A_4.out)
    have Az_5 := Nat.lt_of_lt_of_le Az_4 b.size
    have Ac0_5 := blk_cell A_5.out 0
    have Ac1_5 := blk_cell A_5.out 1
    have Ac2_5 := blk_cell A_5.out 2
    have Ac3_5 := blk_cell A_5.out 3
    have Ac4_5 := blk_cell A_5.out 4
    have Ac5_5 := blk_cell A_5.out 5
    have Ac6_5 := blk_cell A_5.out 6
    have q_5 := q_4.trans (b.mono q_4.size)
    clear P_4 Pz_4 Pc0_4 Pc1_4 Pc2_4 Pc3_4 Pc4_4 Pc5_4 Pc6_4 A_4 Az_4 Ac0_4 Ac1_4 Ac2_4 Ac3_4 Ac4_4 Ac5_4 Ac6_4 q_4
    clear b
    go_wp2_with fail
    have b : Below V5.heap.size V5 (V5.alloc (.cells #[.int .i64 0, .int .i64 0, .int .i64 0, .int .i64 0, .int .i64 0, .int .i64 0, .bool false] 34)) := ((Below.refl _ V5).alloc (Nat.le_refl _) (.cells #[.int .i64 0, .int .i64 0, .int .i64 0, .int .i64 0, .int .i64 0, .int .i64 0, .bool false] 34))
    have nb0 := blk_new V5 (.cells #[.int .i64 0, .int .i64 0, .int .i64 0, .int .i64 0, .int .i64 0, .int .i64 0, .bool false] 34)
    have nz0 : V5.heap.size < (V5.alloc (.cells #[.int .i64 0, .int .i64 0, .int .i64 0, .int .i64 0, .int .i64 0, .int .i64 0, .bool false] 34)).heap.size := by simp only [World.size_alloc]; omega
    have P_6 := Lib.hid ((b.block _ Pz_5).trans P_5.out)
    have Pz_6 := Nat.lt_of_lt_of_le Pz_5 b.size
    have Pc0_6 := blk_cell P_6.out 0
    have Pc1_6 := blk_cell P_6.out 1
    have Pc2_6 := blk_cell P_6.out 2
    have Pc3_6 := blk_cell P_6.out 3
    have Pc4_6 := blk_cell P_6.out 4
    have Pc5_6 := blk_cell P_6.out 5
    have Pc6_6 := blk_cell P_6.out 6
    have A_6 := Lib.hid ((b.block _ Az_5).trans A_5.out)
    have Az_6 := Nat.lt_of_lt_of_le Az_5 b.size
    have Ac0_6 := blk_cell A_6.out 0
    have Ac1_6 := blk_cell A_6.out 1
    have Ac2_6 := blk_cell A_6.out 2
    have Ac3_6 := blk_cell A_6.out 3
    have Ac4_6 := blk_cell A_6.out 4
    have Ac5_6 := blk_cell A_6.out 5
    have Ac6_6 := blk_cell A_6.out 6
    have q_6 := q_5.trans (b.mono q_5.size)
    clear P_5 Pz_5 Pc0_5 Pc1_5 Pc2_5 Pc3_5 Pc4_5 Pc5_5 Pc6_5 A_5 Az_5 Ac0_5 Ac1_5 Ac2_5 Ac3_5 Ac4_5 Ac5_5 Ac6_5 q_5
    clear b
    have L_6 := Lib.hid nb0
    have Lz_6 := nz0
    clear nb0 nz0
    have Lc0_6 := blk_cell L_6.out 0
    have Lc1_6 := blk_cell L_6.out 1
    have Lc2_6 := blk_cell L_6.out 2
    have Lc3_6 := blk_cell L_6.out 3
    have Lc4_6 := blk_cell L_6.out 4
    have Lc5_6 := blk_cell L_6.out 5
    have Lc6_6 := blk_cell L_6.out 6
    generalize (V5.alloc (.cells #[.int .i64 0, .int .i64 0, .int .i64 0, .int .i64 0, .int .i64 0, .int .i64 0, .bool false] 34)) = V6 at q_6 P_6 Pz_6 Pc0_6 Pc1_6 Pc2_6 Pc3_6 Pc4_6 Pc5_6 Pc6_6 A_6 Az_6 Ac0_6 Ac1_6 Ac2_6 Ac3_6 Ac4_6 Ac5_6 Ac6_6 L_6 Lz_6 Lc0_6 Lc1_6 Lc2_6 Lc3_6 Lc4_6 Lc5_6 Lc6_6 ⊢
    refine (ptimeout0 x m G HG.out.eq Ht.out.eq _).mono ?_
    rintro e V7 ⟨rfl, b⟩
    have P_7 := Lib.hid ((b.block _ Pz_6).trans P_6.out)
    have Pz_7 := Nat.lt_of_lt_of_le Pz_6 b.size
    have Pc0_7 := blk_cell P_7.out 0
    have Pc1_7 := blk_cell P_7.out 1
    have Pc2_7 := blk_cell P_7.out 2
    have Pc3_7 := blk_cell P_7.out 3
    have Pc4_7 := blk_cell P_7.out 4
    have Pc5_7 := blk_cell P_7.out 5
    have Pc6_7 := blk_cell P_7.out 6
    have A_7 := Lib.hid ((b.block _ Az_6).trans A_6.out)
    have Az_7 := Nat.lt_of_lt_of_le Az_6 b.size
    have Ac0_7 := blk_cell A_7.out 0
    have Ac1_7 := blk_cell A_7.out 1
    have Ac2_7 := blk_cell A_7.out 2
    have Ac3_7 := blk_cell A_7.out 3
    have Ac4_7 := blk_cell A_7.out 4
    have Ac5_7 := blk_cell A_7.out 5
    have Ac6_7 := blk_cell A_7.out 6
    have L_7 := Lib.hid ((b.block _ Lz_6).trans L_6.out)
    have Lz_7 := Nat.lt_of_lt_of_le Lz_6 b.size
    have Lc0_7 := blk_cell L_7.out 0
    have Lc1_7 := blk_cell L_7.out 1
    have Lc2_7 := blk_cell L_7.out 2
    have Lc3_7 := blk_cell L_7.out 3
    have Lc4_7 := blk_cell L_7.out 4
    have Lc5_7 := blk_cell L_7.out 5
    have Lc6_7 := blk_cell L_7.out 6
    have q_7 := q_6.trans (b.mono q_6.size)
    clear P_6 Pz_6 Pc0_6 Pc1_6 Pc2_6 Pc3_6 Pc4_6 Pc5_6 Pc6_6 A_6 Az_6 Ac0_6 Ac1_6 Ac2_6 Ac3_6 Ac4_6 Ac5_6 Ac6_6 L_6 Lz_6 Lc0_6 Lc1_6 Lc2_6 Lc3_6 Lc4_6 Lc5_6 Lc6_6 q_6
    clear b
    go_wp2_with fail
    have b : Below V7.heap.size V7 (V7.alloc (.cells #[.int .i64 0, .int .i64 0, .int .i64 0, .int .i64 0, .int .i64 0, .int .i64 0, .bool false] 34)) := ((Below.refl _ V7).alloc (Nat.le_refl _) (.cells #[.int .i64 0, .int .i64 0, .int .i64 0, .int .i64 0, .int .i64 0, .int .i64 0, .bool false] 34))
    have nb0 := blk_new V7 (.cells #[.int .i64 0, .int .i64 0, .int .i64 0, .int .i64 0, .int .i64 0, .int .i64 0, .bool false] 34)
    have nz0 : V7.heap.size < (V7.alloc (.cells #[.int .i64 0, .int .i64 0, .int .i64 0, .int .i64 0, .int .i64 0, .int .i64 0, .bool false] 34)).heap.size := by simp only [World.size_alloc]; omega
    have P_8 := Lib.hid ((b.block _ Pz_7).trans P_7.out)
    have Pz_8 := Nat.lt_of_lt_of_le Pz_7 b.size
    have Pc0_8 := blk_cell P_8.out 0
    have Pc1_8 := blk_cell P_8.out 1
    have Pc2_8 := blk_cell P_8.out 2
    have Pc3_8 := blk_cell P_8.out 3
    have Pc4_8 := blk_cell P_8.out 4
    have Pc5_8 := blk_cell P_8.out 5
    have Pc6_8 := blk_cell P_8.out 6
    have A_8 := Lib.hid ((b.block _ Az_7).trans A_7.out)
    have Az_8 := Nat.lt_of_lt_of_le Az_7 b.size
    have Ac0_8 := blk_cell A_8.out 0
    have Ac1_8 := blk_cell A_8.out 1
    have Ac2_8 := blk_cell A_8.out 2
    have Ac3_8 := blk_cell A_8.out 3
    have Ac4_8 := blk_cell A_8.out 4
    have Ac5_8 := blk_cell A_8.out 5
    have Ac6_8 := blk_cell A_8.out 6
    have L_8 := Lib.hid ((b.block _ Lz_7).trans L_7.out)
    have Lz_8 := Nat.lt_of_lt_of_le Lz_7 b.size
    have Lc0_8 := blk_cell L_8.out 0
    have Lc1_8 := blk_cell L_8.out 1
    have Lc2_8 := blk_cell L_8.out 2
    have Lc3_8 := blk_cell L_8.out 3
    have Lc4_8 := blk_cell L_8.out 4
    have Lc5_8 := blk_cell L_8.out 5
    have Lc6_8 := blk_cell L_8.out 6
    have q_8 := q_7.trans (b.mono q_7.size)
    clear P_7 Pz_7 Pc0_7 Pc1_7 Pc2_7 Pc3_7 Pc4_7 Pc5_7 Pc6_7 A_7 Az_7 Ac0_7 Ac1_7 Ac2_7 Ac3_7 Ac4_7 Ac5_7 Ac6_7 L_7 Lz_7 Lc0_7 Lc1_7 Lc2_7 Lc3_7 Lc4_7 Lc5_7 Lc6_7 q_7
    clear b
    have T_8 := Lib.hid nb0
    have Tz_8 := nz0
    clear nb0 nz0
    have Tc0_8 := blk_cell T_8.out 0
    have Tc1_8 := blk_cell T_8.out 1
    have Tc2_8 := blk_cell T_8.out 2
    have Tc3_8 := blk_cell T_8.out 3
    have Tc4_8 := blk_cell T_8.out 4
    have Tc5_8 := blk_cell T_8.out 5
    have Tc6_8 := blk_cell T_8.out 6
    generalize (V7.alloc (.cells #[.int .i64 0, .int .i64 0, .int .i64 0, .int .i64 0, .int .i64 0, .int .i64 0, .bool false] 34)) = V8 at q_8 P_8 Pz_8 Pc0_8 Pc1_8 Pc2_8 Pc3_8 Pc4_8 Pc5_8 Pc6_8 A_8 Az_8 Ac0_8 Ac1_8 Ac2_8 Ac3_8 Ac4_8 Ac5_8 Ac6_8 L_8 Lz_8 Lc0_8 Lc1_8 Lc2_8 Lc3_8 Lc4_8 Lc5_8 Lc6_8 T_8 Tz_8 Tc0_8 Tc1_8 Tc2_8 Tc3_8 Tc4_8 Tc5_8 Tc6_8 ⊢
    refine (num_any _ _).mono ?_
    rintro e w' ⟨rfl, rfl⟩
    go_wp2
    go_ret
    exact ⟨rfl, q_8⟩

theorem walk (c t q u e s : Int) (h : Bool) (m n v r : Int) (w : World) (_c_l : -9223372036854775808 ≤ c) (_c_h : c ≤ 9223372036854775807) (_t_l : -9223372036854775808 ≤ t) (_t_h : t ≤ 9223372036854775807) (_q_l : -9223372036854775808 ≤ q) (_q_h : q ≤ 9223372036854775807) (_u_l : -9223372036854775808 ≤ u) (_u_h : u ≤ 9223372036854775807) (_e_l : -9223372036854775808 ≤ e) (_e_h : e ≤ 9223372036854775807) (_s_l : -9223372036854775808 ≤ s) (_s_h : s ≤ 9223372036854775807) (_m_l : -9223372036854775808 ≤ m) (_m_h : m ≤ 9223372036854775807) (_n_l : -9223372036854775808 ≤ n) (_n_h : n ≤ 9223372036854775807) (_v_l : -9223372036854775808 ≤ v) (_v_h : v ≤ 9223372036854775807) (_r_l : -9223372036854775808 ≤ r) (_r_h : r ≤ 9223372036854775807) :
    Calls Try.prog 7 #[.agg #[.int .i64 c, .int .i64 t, .int .i64 q, .int .i64 u, .int .i64 e, .int .i64 s, .bool h], .int .i64 m, .int .i64 n, .int .i64 v, .int .i64 r] w fun e w' => e = .returned (.bool true) ∧ Below w.heap.size w w' :=
  walk0 ⟨c, t, q, u, e, s, h⟩ m n v r w _m_l _m_h _n_l _n_h _v_l _v_h _r_l _r_h

theorem of_len7 {α : Type} (l : List α) (h : l.length = 7) : ∃ x0 x1 x2 x3 x4 x5 x6, l = [x0, x1, x2, x3, x4, x5, x6] := by
  match l, h with
  | [x0, x1, x2, x3, x4, x5, x6], _ => exact ⟨x0, x1, x2, x3, x4, x5, x6, rfl⟩
theorem own : ownKnob Try.prog.godebug = none := by kernel_rfl
theorem laidOut : laidOutB Try.prog = true := by kernel_rfl

set_option maxRecDepth 100000 in
set_option maxHeartbeats 2000000 in
theorem lifted (os : Os) (started : os.Started) (H : Type) (enc : TypeId × Value → H) :
    ReturnsInHanded {} Try.checked os 7 .any (Rows.cubicGrowsSpec.pre6 enc Try.prog Try.f7 Rows.cubicGrowsRow.domain false) (Rows.cubicGrowsSpec.post enc Try.prog Try.f7 false true false false) := by
  refine returnsInHanded_of_change_sized (C := Try.checked) own started (by kernel_rfl) Try.func7
    (ChangeSpec.witness6 (enc := enc) (C := Try.checked) false ⟨#[], #[.agg #[.int .i64 0, .int .i64 0, .int .i64 0, .int .i64 0, .int .i64 0, .int .i64 0, .bool false], .int .i64 0, .int .i64 0, .int .i64 0, .int .i64 0], []⟩ 8 (by kernel_rfl) (by kernel_rfl) (by kernel_rfl) (by kernel_rfl)) ?_
  intro W base args ds gs before hval0 hW hcnd hsz0 _
  have hval : ∀ (j : Nat) t v, Try.f7.params[j]? = some t → args[j]? = some v → Value.okWide Try.prog W .any base t v := hval0
  have hW' := hW
  obtain ⟨p, q, hA0, hV, rfl, hfz, hnd⟩ := hW
  have hA : DataW.TrodAll enc Try.prog W 0 (fun _ => true) true Try.f7.params.toList args.toList ds p := hA0
  rw [Try.params7] at hA hval
  obtain ⟨v0, vs0, d0, ds0, p0, q0, hargs, rfl, rfl, h0, r0⟩ := trodAll_cons hA
  obtain ⟨v1, vs1, d1, ds1, p1, q1, rfl, rfl, rfl, h1, r1⟩ := trodAll_cons r0
  obtain ⟨v2, vs2, d2, ds2, p2, q2, rfl, rfl, rfl, h2, r2⟩ := trodAll_cons r1
  obtain ⟨v3, vs3, d3, ds3, p3, q3, rfl, rfl, rfl, h3, r3⟩ := trodAll_cons r2
  obtain ⟨v4, vs4, d4, ds4, p4, q4, rfl, rfl, rfl, h4, r4⟩ := trodAll_cons r3
  obtain ⟨rfl, rfl, rfl⟩ := trodAll_nil r4
  obtain rfl : args = #[v0, v1, v2, v3, v4] := by cases args; simp_all
  obtain ⟨rfl, rfl⟩ := trodVars_none hV
  have k0 := h0
  have lt0 : ∀ x ∈ p0, x.block < W.heap.size := by obtain ⟨m, hm⟩ := k0; exact DataW.trod_lt m _ _ _ hm
  obtain ⟨vs0', ys0', m0, rfl, lv0, ly0, hd0, F0⟩ := open_agg Try.underlying33 (by kernel_rfl) (by kernel_rfl) (hval 0 33 v0 rfl rfl) h0
  obtain ⟨c0_0, c0_1, c0_2, c0_3, c0_4, c0_5, c0_6, rfl⟩ := of_len7 _ lv0
  obtain ⟨y0_0, y0_1, y0_2, y0_3, y0_4, y0_5, y0_6, rfl⟩ := of_len7 _ ly0
  simp only [List.map_cons, List.map_nil] at hd0
  obtain ⟨_, _, e, g, t0_0⟩ := F0 0 _ rfl
  obtain rfl := Option.some.inj e; obtain rfl := Option.some.inj g; clear e g
  obtain ⟨z0_0, e, _, w0_0⟩ := DataW.trod_int Try.underlying3 t0_0
  obtain rfl := (List.cons.inj e).1; clear e
  obtain ⟨lo0_0, hi0_0⟩ := bounds_i64 w0_0
  obtain ⟨_, _, e, g, t0_1⟩ := F0 1 _ rfl
  obtain rfl := Option.some.inj e; obtain rfl := Option.some.inj g; clear e g
  obtain ⟨z0_1, e, _, w0_1⟩ := DataW.trod_int Try.underlying3 t0_1
  obtain rfl := (List.cons.inj e).1; clear e
  obtain ⟨lo0_1, hi0_1⟩ := bounds_i64 w0_1
  obtain ⟨_, _, e, g, t0_2⟩ := F0 2 _ rfl
  obtain rfl := Option.some.inj e; obtain rfl := Option.some.inj g; clear e g
  obtain ⟨z0_2, e, _, w0_2⟩ := DataW.trod_int Try.underlying3 t0_2
  obtain rfl := (List.cons.inj e).1; clear e
  obtain ⟨lo0_2, hi0_2⟩ := bounds_i64 w0_2
  obtain ⟨_, _, e, g, t0_3⟩ := F0 3 _ rfl
  obtain rfl := Option.some.inj e; obtain rfl := Option.some.inj g; clear e g
  obtain ⟨z0_3, e, _, w0_3⟩ := DataW.trod_int Try.underlying3 t0_3
  obtain rfl := (List.cons.inj e).1; clear e
  obtain ⟨lo0_3, hi0_3⟩ := bounds_i64 w0_3
  obtain ⟨_, _, e, g, t0_4⟩ := F0 4 _ rfl
  obtain rfl := Option.some.inj e; obtain rfl := Option.some.inj g; clear e g
  obtain ⟨z0_4, e, _, w0_4⟩ := DataW.trod_int Try.underlying3 t0_4
  obtain rfl := (List.cons.inj e).1; clear e
  obtain ⟨lo0_4, hi0_4⟩ := bounds_i64 w0_4
  obtain ⟨_, _, e, g, t0_5⟩ := F0 5 _ rfl
  obtain rfl := Option.some.inj e; obtain rfl := Option.some.inj g; clear e g
  obtain ⟨z0_5, e, _, w0_5⟩ := DataW.trod_int Try.underlying3 t0_5
  obtain rfl := (List.cons.inj e).1; clear e
  obtain ⟨lo0_5, hi0_5⟩ := bounds_i64 w0_5
  obtain ⟨_, _, e, g, t0_6⟩ := F0 6 _ rfl
  obtain rfl := Option.some.inj e; obtain rfl := Option.some.inj g; clear e g
  obtain ⟨b0_6, e, _⟩ := DataW.trod_bool Try.underlying4 t0_6
  obtain rfl := (List.cons.inj e).1; clear e
  obtain ⟨a1, rfl, rfl, rfl, w1⟩ := open_int Try.underlying3 (hval 1 3 v1 rfl rfl) h1
  obtain ⟨a2, rfl, rfl, rfl, w2⟩ := open_int Try.underlying3 (hval 2 3 v2 rfl rfl) h2
  obtain ⟨a3, rfl, rfl, rfl, w3⟩ := open_int Try.underlying3 (hval 3 3 v3 rfl rfl) h3
  obtain ⟨a4, rfl, rfl, rfl, w4⟩ := open_int Try.underlying3 (hval 4 3 v4 rfl rfl) h4
  clear hA0
  obtain ⟨lo1, hi1⟩ := bounds_i64 w1
  obtain ⟨lo2, hi2⟩ := bounds_i64 w2
  obtain ⟨lo3, hi3⟩ := bounds_i64 w3
  obtain ⟨lo4, hi4⟩ := bounds_i64 w4
  refine (walk z0_0 z0_1 z0_2 z0_3 z0_4 z0_5 b0_6 a1 a2 a3 a4 W lo0_0 hi0_0 lo0_1 hi0_1 lo0_2 hi0_2 lo0_3 hi0_3 lo0_4 hi0_4 lo0_5 hi0_5 lo1 hi1 lo2 hi2 lo3 hi3 lo4 hi4).mono fun e W' ⟨he, bel⟩ => ?_
  subst he
  exact ⟨_, rfl, _, _, _, [], _, [], hW', trodAll_mk1 (shut_bool Try.underlying4 _), (trodAll_cons_mk (Below.trod laidOut (by kernel_rfl) (of_decide_eq_true (by kernel_rfl)) k0 bel lt0) (trodAll_cons_mk (shut_int Try.underlying3 w1) (trodAll_cons_mk (shut_int Try.underlying3 w2) (trodAll_cons_mk (shut_int Try.underlying3 w3) (trodAll_cons_mk (shut_int Try.underlying3 w4) trodAll_mk0))))), rfl, bel.frame _, fun h => by cases h⟩

theorem over : Rows.cubicGrowsRow.holds Try.pinned (OpenSpec.ofChange Rows.cubicGrowsSpec) :=
  OpenClaim.holds_of_wide 7 Try.f7 rfl rfl rfl rfl rfl rfl rfl ⟨rfl, rfl, rfl, rfl, rfl⟩ rfl rfl rfl rfl rfl (by kernel_rfl) Try.func7 (by kernel_rfl)
    (of_decide_eq_true (by kernel_rfl)) (by unfold Func.isWrapper; first | (rw [if_pos (by decide +kernel)]; kernel_rfl) | (rw [if_neg (by decide +kernel)]; exact ⟨rfl, rfl⟩))
    (fun os started H enc _ => lifted os started H enc)

end Go.Proofs.Ythkmphngfndebaa.cubicGrows
namespace Go.Proofs.Ythkmphngfndebaa
/-- The statement. -/
theorem cubicGrows_holds : Rows.CubicGrowsSaid := cubicGrows.over
#print axioms cubicGrows_holds
end Go.Proofs.Ythkmphngfndebaa
