/- Cubic: Ack of the document, one way. -/
import Derived.Test.YthkmphngfndebaaCuE
import Derived.StillTailTactics
namespace Go.Proofs.Ythkmphngfndebaa
open Go.RowKit Go.Proofs.Ythkmphngfndebaa.Cu

set_option maxRecDepth 100000 in
set_option maxHeartbeats 2000000 in
theorem rack_new_ge (x b : CS) (m n v r : Int) (w : World) (hM : MV m) (hV : CV x m) (hA : AV n v r) (hct : x.t ≤ x.c) (hh : x.h = false) (hb : bg x m v = b) (hlt : ¬ crv b.m m (tt b v r - b.u) < es b m n) :
    Calls Try.prog 16 #[.agg #[.int .i64 x.c, .int .i64 x.t, .int .i64 x.m, .int .i64 x.u, .int .i64 x.e, .int .i64 x.s, .bool x.h], .int .i64 m, .int .i64 n, .int .i64 v, .int .i64 r] w fun e w' => e = .returned (.tuple #[.agg #[.int .i64 (min (b.c + (aim b (crv b.m m (tt b v r - b.u)) - b.c) * n / b.c) 1073741824), .int .i64 b.t, .int .i64 b.m, .int .i64 b.u, .int .i64 b.e, .int .i64 (es b m n), .bool b.h], .int .i64 0]) ∧ Below w.heap.size w w' := by
  have HM := Lib.hid hM
  have HV := Lib.hid hV
  have H0 := Lib.hid hA.1
  have H1 := Lib.hid hA.2.1
  have H2 := Lib.hid hA.2.2
  have hVB : CV b m := by rw [← hb]; exact bg_cv hM hV hA.2.1
  have hb0 := hb
  have HB : Hid (Sm (bg x m v) b) := Lib.hid ⟨hb⟩
  have HO : Hid (WV x.m ∧ WV x.c) := Lib.hid ⟨hV.2.2.1.1, by have := hV.1; have := hM.1; exact ⟨by omega, by omega⟩⟩
  clear hb
  obtain ⟨T, hT⟩ : ∃ z, tt b v r = z := ⟨_, rfl⟩
  rw [hT] at hlt
  try rw [hT]
  unfold tt at hT
  have hT0 : 0 ≤ T ∧ T ≤ 4398046511104 := by
    obtain ⟨_, ⟨v0, v1⟩, r0, r1⟩ := hA
    obtain ⟨_, _, _, _, e0, e1⟩ := hVB
    omega
  obtain ⟨g0, g1⟩ := hT0
  have hcu := crv_bd b.m m (T - b.u)
  have hes := es_bd hM hVB hA.1
  have ham := aim_bd (cu := crv b.m m (T - b.u)) hM hVB hA.1
  have HOB : Hid (WV b.m) := Lib.hid hVB.2.2.1.1
  obtain ⟨cu, hcu2⟩ : ∃ z, crv b.m m (T - b.u) = z := ⟨_, rfl⟩
  rw [hcu2] at hcu ham hlt
  try rw [hcu2]
  have HC : Hid (Sm (crv b.m m (T - b.u)) cu) := Lib.hid ⟨hcu2⟩
  clear hcu2
  obtain ⟨cu0, cu1⟩ := hcu
  obtain ⟨⟨a0, a1⟩, ⟨b0, b1⟩, d0, d1⟩ := hes
  obtain ⟨E, hE⟩ : ∃ z, es b m n = z := ⟨_, rfl⟩
  rw [hE] at d0 d1 hlt
  rw [hE]
  unfold es at hE
  obtain ⟨P, hP⟩ : ∃ z, 9 * m * n = z := ⟨_, rfl⟩
  rw [hP] at hE a0 a1 b0 b1
  obtain ⟨R, hR⟩ : ∃ z, P / (17 * b.c) = z := ⟨_, rfl⟩
  rw [hR] at hE b0 b1
  obtain ⟨n0, n1⟩ := hA.1
  have hM2 := hM
  obtain ⟨m0, m1⟩ := hM2
  have hc17 : 17 ≤ 17 * b.c ∧ 17 * b.c ≤ 18253611008 := by have := hVB.1; omega
  have hsS := hVB.2.2.1.2
  have W1 : IntKind.i64.wrap (9 * m) = 9 * m := IntWalk.i64_in _ ⟨by omega, by omega⟩
  have W2 : IntKind.i64.wrap (9 * m * n) = P := by rw [hP]; exact IntWalk.i64_in _ ⟨by omega, by omega⟩
  have W3 : IntKind.i64.wrap (17 * b.c) = 17 * b.c := IntWalk.i64_in _ ⟨by omega, by omega⟩
  have W4 : IntKind.i64.wrap (P.tdiv (17 * b.c)) = R := by rw [← hR]; exact IntWalk.i64_quo _ _ ⟨by omega, by omega, by omega⟩
  have W5 : IntKind.i64.wrap (b.s + R) = b.s + R := IntWalk.i64_in _ ⟨by have := hsS.1; omega, by have := hsS.2; omega⟩
  have fz : ¬ 17 * b.c = 0 := by omega
  have fz2 : ¬ b.c = 0 := by omega
  have fzb : (17 * b.c == 0) = false := by rw [beq_eq_false_iff_ne]; omega
  clear hc17 hsS
  obtain ⟨⟨f0, f1⟩, ⟨k0, k1⟩, l0, l1⟩ := ham
  obtain ⟨A, hA0⟩ : ∃ z, aim b cu = z := ⟨_, rfl⟩
  rw [hA0] at f0 f1 k0 k1 l0 l1
  rw [hA0]
  obtain ⟨B, hB⟩ : ∃ z, (A - b.c) * n = z := ⟨_, rfl⟩
  rw [hB] at k0 k1 l0 l1
  rw [hB]
  have hc1 := hVB.1
  have hA2 : max b.c (min cu (b.c * 3 / 2)) = A := by rw [← hA0]; unfold aim; omega
  have W6 : IntKind.i64.wrap (b.c * 3) = b.c * 3 := IntWalk.i64_in _ ⟨by omega, by omega⟩
  have W7 : IntKind.i64.wrap ((b.c * 3).tdiv 2) = b.c * 3 / 2 := IntWalk.i64_quo _ _ ⟨by omega, by omega, by omega⟩
  have W8 : IntKind.i64.wrap (A - b.c) = A - b.c := IntWalk.i64_in _ ⟨by omega, by omega⟩
  have W9 : IntKind.i64.wrap ((A - b.c) * n) = B := by rw [hB]; exact IntWalk.i64_in _ ⟨by omega, by omega⟩
  have W10 : IntKind.i64.wrap (B.tdiv b.c) = B / b.c := IntWalk.i64_quo _ _ ⟨by omega, by omega, by omega⟩
  have W11 : IntKind.i64.wrap (b.c + B / b.c) = b.c + B / b.c := IntWalk.i64_in _ ⟨by omega, by omega⟩
  have fzc : (b.c == 0) = false := by rw [beq_eq_false_iff_ne]; omega
  clear hA0 hc1
  have hT3 : max 0 (v - b.e) + r = T := by rw [← hT]; omega
  clear hT
  obtain ⟨M, hMX⟩ : ∃ z, max x.m x.c = z := ⟨_, rfl⟩
  obtain ⟨TU, hTU⟩ : ∃ z, trn x.m x.c m = z := ⟨_, rfl⟩
  obtain rfl : b = ⟨x.c, x.t, M, TU, v, x.c, true⟩ := by rw [← hb0, bg, hMX, hTU]
  clear hb0 HB
  dsimp only at *
  obtain rfl : r = T := by omega
  have HTU : Hid (Sm (trn x.m x.c m) TU) := Lib.hid ⟨hTU⟩
  clear hTU
  have hx1 := hV.1
  have hx2 := hV.2.1
  have hx3 := hV.2.2.1
  obtain ⟨_, ⟨v0, v1⟩, r0, r1⟩ := hA
  obtain ⟨⟨c0, c1⟩, ⟨t0, t1⟩, ⟨⟨p0, p1⟩, s0, s1⟩, ⟨u0, u1⟩, e0, e1⟩ := hVB
  have HH := Lib.hid hh
  have HCT := Lib.hid hct
  have HLT := Lib.hid hlt
  clear hM hV hh hct hlt
  have q_0 := Below.refl w.heap.size w
  go_enter Try.func16, Try.ntmps16
  go_wp2_with fail
  have b : Below w.heap.size w ((w.alloc (.cells #[.int .i64 x.c, .int .i64 x.t, .int .i64 x.m, .int .i64 x.u, .int .i64 x.e, .int .i64 x.s, .bool x.h] 33)).alloc (.cells #[.int .i64 0, .int .i64 0, .int .i64 0, .int .i64 0, .int .i64 0, .int .i64 0, .bool false] 33)) := (((Below.refl _ w).alloc (Nat.le_refl _) (.cells #[.int .i64 x.c, .int .i64 x.t, .int .i64 x.m, .int .i64 x.u, .int .i64 x.e, .int .i64 x.s, .bool x.h] 33)).alloc (by simp only [World.size_alloc]; omega) (.cells #[.int .i64 0, .int .i64 0, .int .i64 0, .int .i64 0, .int .i64 0, .int .i64 0, .bool false] 33))
  have nb0 := blk_new w (.cells #[.int .i64 x.c, .int .i64 x.t, .int .i64 x.m, .int .i64 x.u, .int .i64 x.e, .int .i64 x.s, .bool x.h] 33)
  have nb0 := (Below.heap_alloc (w.alloc (.cells #[.int .i64 x.c, .int .i64 x.t, .int .i64 x.m, .int .i64 x.u, .int .i64 x.e, .int .i64 x.s, .bool x.h] 33)) (.cells #[.int .i64 0, .int .i64 0, .int .i64 0, .int .i64 0, .int .i64 0, .int .i64 0, .bool false] 33) (w.heap.size) (by simp only [World.size_alloc]; omega)).trans nb0
  have nz0 : w.heap.size < ((w.alloc (.cells #[.int .i64 x.c, .int .i64 x.t, .int .i64 x.m, .int .i64 x.u, .int .i64 x.e, .int .i64 x.s, .bool x.h] 33)).alloc (.cells #[.int .i64 0, .int .i64 0, .int .i64 0, .int .i64 0, .int .i64 0, .int .i64 0, .bool false] 33)).heap.size := by simp only [World.size_alloc]; omega
  have nb1 := blk_new (w.alloc (.cells #[.int .i64 x.c, .int .i64 x.t, .int .i64 x.m, .int .i64 x.u, .int .i64 x.e, .int .i64 x.s, .bool x.h] 33)) (.cells #[.int .i64 0, .int .i64 0, .int .i64 0, .int .i64 0, .int .i64 0, .int .i64 0, .bool false] 33)
  simp only [World.size_alloc] at nb1
  have nz1 : w.heap.size + 1 < ((w.alloc (.cells #[.int .i64 x.c, .int .i64 x.t, .int .i64 x.m, .int .i64 x.u, .int .i64 x.e, .int .i64 x.s, .bool x.h] 33)).alloc (.cells #[.int .i64 0, .int .i64 0, .int .i64 0, .int .i64 0, .int .i64 0, .int .i64 0, .bool false] 33)).heap.size := by simp only [World.size_alloc]; omega
  have q_1 := q_0.trans (b.mono q_0.size)
  clear q_0
  clear b
  have S_1 := Lib.hid nb0
  have Sz_1 := nz0
  clear nb0 nz0
  have Sc0_1 := blk_cell S_1.out 0
  have Sc1_1 := blk_cell S_1.out 1
  have Sc2_1 := blk_cell S_1.out 2
  have Sc3_1 := blk_cell S_1.out 3
  have Sc4_1 := blk_cell S_1.out 4
  have Sc5_1 := blk_cell S_1.out 5
  have Sc6_1 := blk_cell S_1.out 6
  have R_1 := Lib.hid nb1
  have Rz_1 := nz1
  clear nb1 nz1
  have Rc0_1 := blk_cell R_1.out 0
  have Rc1_1 := blk_cell R_1.out 1
  have Rc2_1 := blk_cell R_1.out 2
  have Rc3_1 := blk_cell R_1.out 3
  have Rc4_1 := blk_cell R_1.out 4
  have Rc5_1 := blk_cell R_1.out 5
  have Rc6_1 := blk_cell R_1.out 6
  generalize ((w.alloc (.cells #[.int .i64 x.c, .int .i64 x.t, .int .i64 x.m, .int .i64 x.u, .int .i64 x.e, .int .i64 x.s, .bool x.h] 33)).alloc (.cells #[.int .i64 0, .int .i64 0, .int .i64 0, .int .i64 0, .int .i64 0, .int .i64 0, .bool false] 33)) = V1 at q_1 S_1 Sz_1 Sc0_1 Sc1_1 Sc2_1 Sc3_1 Sc4_1 Sc5_1 Sc6_1 R_1 Rz_1 Rc0_1 Rc1_1 Rc2_1 Rc3_1 Rc4_1 Rc5_1 Rc6_1 ⊢
  refine (rcheck_yes x m _ HM.out HV.out).mono ?_
  rintro e V2 ⟨rfl, b⟩
  have S_2 := Lib.hid ((b.block _ Sz_1).trans S_1.out)
  have Sz_2 := Nat.lt_of_lt_of_le Sz_1 b.size
  have Sc0_2 := blk_cell S_2.out 0
  have Sc1_2 := blk_cell S_2.out 1
  have Sc2_2 := blk_cell S_2.out 2
  have Sc3_2 := blk_cell S_2.out 3
  have Sc4_2 := blk_cell S_2.out 4
  have Sc5_2 := blk_cell S_2.out 5
  have Sc6_2 := blk_cell S_2.out 6
  have R_2 := Lib.hid ((b.block _ Rz_1).trans R_1.out)
  have Rz_2 := Nat.lt_of_lt_of_le Rz_1 b.size
  have Rc0_2 := blk_cell R_2.out 0
  have Rc1_2 := blk_cell R_2.out 1
  have Rc2_2 := blk_cell R_2.out 2
  have Rc3_2 := blk_cell R_2.out 3
  have Rc4_2 := blk_cell R_2.out 4
  have Rc5_2 := blk_cell R_2.out 5
  have Rc6_2 := blk_cell R_2.out 6
  have q_2 := q_1.trans (b.mono q_1.size)
  clear S_1 Sz_1 Sc0_1 Sc1_1 Sc2_1 Sc3_1 Sc4_1 Sc5_1 Sc6_1 R_1 Rz_1 Rc0_1 Rc1_1 Rc2_1 Rc3_1 Rc4_1 Rc5_1 Rc6_1 q_1
  clear b
  have fS0 := blk_free S_2.out 0
  have fS1 := blk_free S_2.out 1
  have fS2 := blk_free S_2.out 2
  have fS3 := blk_free S_2.out 3
  have fS4 := blk_free S_2.out 4
  have fS5 := blk_free S_2.out 5
  have fS6 := blk_free S_2.out 6
  have fR0 := blk_free R_2.out 0
  have fR1 := blk_free R_2.out 1
  have fR2 := blk_free R_2.out 2
  have fR3 := blk_free R_2.out 3
  have fR4 := blk_free R_2.out 4
  have fR5 := blk_free R_2.out 5
  have fR6 := blk_free R_2.out 6
  go_wp2_with fail
  refine (rwi_yes n 0 1073741824 _ H0.out).mono ?_
  rintro e w' ⟨rfl, rfl⟩
  go_wp2_with fail
  refine (rwi_yes v 0 1099511627776 _ H1.out).mono ?_
  rintro e w' ⟨rfl, rfl⟩
  go_wp2_with fail
  refine (rwi_yes r 0 1073741824 _ H2.out).mono ?_
  rintro e w' ⟨rfl, rfl⟩
  obtain ⟨m0, m1⟩ := HM.out
  have hh := HH.out
  have hct := HCT.out
  have NE : w.heap.size + 1 ≠ w.heap.size := by omega
  have NE2 := NE.symm
  go_wp2_with fail
  clear hh hct fS0 fS1 fS2 fS3 fS4 fS5 fS6 fR0 fR1 fR2 fR3 fR4 fR5 fR6
  have ys : (((V2.setCell ⟨w.heap.size, 6, none⟩ (.bool true)).setCell ⟨w.heap.size, 4, none⟩ (.int .i64 v)).setCell ⟨w.heap.size, 5, none⟩ (.int .i64 x.c)).heap.size = V2.heap.size := by simp
  have yb : Below (((V2.setCell ⟨w.heap.size, 6, none⟩ (.bool true)).setCell ⟨w.heap.size, 4, none⟩ (.int .i64 v)).setCell ⟨w.heap.size, 5, none⟩ (.int .i64 x.c)).heap.size (((V2.setCell ⟨w.heap.size, 6, none⟩ (.bool true)).setCell ⟨w.heap.size, 4, none⟩ (.int .i64 v)).setCell ⟨w.heap.size, 5, none⟩ (.int .i64 x.c)) (((V2.setCell ⟨w.heap.size, 6, none⟩ (.bool true)).setCell ⟨w.heap.size, 4, none⟩ (.int .i64 v)).setCell ⟨w.heap.size, 5, none⟩ (.int .i64 x.c)) := (Below.refl (((V2.setCell ⟨w.heap.size, 6, none⟩ (.bool true)).setCell ⟨w.heap.size, 4, none⟩ (.int .i64 v)).setCell ⟨w.heap.size, 5, none⟩ (.int .i64 x.c)).heap.size (((V2.setCell ⟨w.heap.size, 6, none⟩ (.bool true)).setCell ⟨w.heap.size, 4, none⟩ (.int .i64 v)).setCell ⟨w.heap.size, 5, none⟩ (.int .i64 x.c)))
  clear Sc0_2 Sc1_2 Sc2_2 Sc3_2 Sc4_2 Sc5_2 Sc6_2 Rc0_2 Rc1_2 Rc2_2 Rc3_2 Rc4_2 Rc5_2 Rc6_2
  have S_3 : Hid ((((V2.setCell ⟨w.heap.size, 6, none⟩ (.bool true)).setCell ⟨w.heap.size, 4, none⟩ (.int .i64 v)).setCell ⟨w.heap.size, 5, none⟩ (.int .i64 x.c)).heap[w.heap.size]? = some (.cells #[.int .i64 x.c, .int .i64 x.t, .int .i64 x.m, .int .i64 x.u, .int .i64 v, .int .i64 x.c, .bool true] 33 (0, 0))) := Lib.hid ((yb.block _ (by rw [ys]; exact Sz_2)).trans (blk_set (blk_set (blk_set S_2.out 6 (.bool true)) 4 (.int .i64 v)) 5 (.int .i64 x.c)))
  have R_3 : Hid ((((V2.setCell ⟨w.heap.size, 6, none⟩ (.bool true)).setCell ⟨w.heap.size, 4, none⟩ (.int .i64 v)).setCell ⟨w.heap.size, 5, none⟩ (.int .i64 x.c)).heap[w.heap.size + 1]? = some (.cells #[.int .i64 0, .int .i64 0, .int .i64 0, .int .i64 0, .int .i64 0, .int .i64 0, .bool false] 33 (0, 0))) := Lib.hid ((yb.block _ (by rw [ys]; exact Rz_2)).trans (blk_other (i := 5) (blk_other (i := 4) (blk_other (i := 6) R_2.out (by first | assumption | omega) (.bool true)) (by first | assumption | omega) (.int .i64 v)) (by first | assumption | omega) (.int .i64 x.c)))
  have q_3 : Below w.heap.size w (((V2.setCell ⟨w.heap.size, 6, none⟩ (.bool true)).setCell ⟨w.heap.size, 4, none⟩ (.int .i64 v)).setCell ⟨w.heap.size, 5, none⟩ (.int .i64 x.c)) := below_after (((q_2.setCell (p := ⟨w.heap.size, 6, none⟩) (by first | assumption | (dsimp only; omega)) (.bool true)).setCell (p := ⟨w.heap.size, 4, none⟩) (by first | assumption | (dsimp only; omega)) (.int .i64 v)).setCell (p := ⟨w.heap.size, 5, none⟩) (by first | assumption | (dsimp only; omega)) (.int .i64 x.c)) yb
  clear yb ys q_2 S_2 Sz_2 R_2 Rz_2
  generalize (((V2.setCell ⟨w.heap.size, 6, none⟩ (.bool true)).setCell ⟨w.heap.size, 4, none⟩ (.int .i64 v)).setCell ⟨w.heap.size, 5, none⟩ (.int .i64 x.c)) = X1 at q_3 S_3 R_3 ⊢
  have Sz_3 := blk_lt S_3.out
  have Sc0_3 := blk_cell S_3.out 0
  have Sc1_3 := blk_cell S_3.out 1
  have Sc2_3 := blk_cell S_3.out 2
  have Sc3_3 := blk_cell S_3.out 3
  have Sc4_3 := blk_cell S_3.out 4
  have Sc5_3 := blk_cell S_3.out 5
  have Sc6_3 := blk_cell S_3.out 6
  have fS0 := blk_free S_3.out 0
  have fS1 := blk_free S_3.out 1
  have fS2 := blk_free S_3.out 2
  have fS3 := blk_free S_3.out 3
  have fS4 := blk_free S_3.out 4
  have fS5 := blk_free S_3.out 5
  have fS6 := blk_free S_3.out 6
  have Rz_3 := blk_lt R_3.out
  have Rc0_3 := blk_cell R_3.out 0
  have Rc1_3 := blk_cell R_3.out 1
  have Rc2_3 := blk_cell R_3.out 2
  have Rc3_3 := blk_cell R_3.out 3
  have Rc4_3 := blk_cell R_3.out 4
  have Rc5_3 := blk_cell R_3.out 5
  have Rc6_3 := blk_cell R_3.out 6
  have fR0 := blk_free R_3.out 0
  have fR1 := blk_free R_3.out 1
  have fR2 := blk_free R_3.out 2
  have fR3 := blk_free R_3.out 3
  have fR4 := blk_free R_3.out 4
  have fR5 := blk_free R_3.out 5
  have fR6 := blk_free R_3.out 6
  have htu := rturn_l x.m x.c m HO.out HM.out X1
  rw [HTU.out.eq] at htu
  refine htu.mono ?_
  rintro e w' ⟨rfl, rfl⟩
  go_wp2_with fail
  clear fS0 fS1 fS2 fS3 fS4 fS5 fS6 fR0 fR1 fR2 fR3 fR4 fR5 fR6
  have ys : ((X1.setCell ⟨w.heap.size, 3, none⟩ (.int .i64 TU)).setCell ⟨w.heap.size, 2, none⟩ (.int .i64 M)).heap.size = X1.heap.size := by simp
  have yb : Below ((X1.setCell ⟨w.heap.size, 3, none⟩ (.int .i64 TU)).setCell ⟨w.heap.size, 2, none⟩ (.int .i64 M)).heap.size ((X1.setCell ⟨w.heap.size, 3, none⟩ (.int .i64 TU)).setCell ⟨w.heap.size, 2, none⟩ (.int .i64 M)) ((X1.setCell ⟨w.heap.size, 3, none⟩ (.int .i64 TU)).setCell ⟨w.heap.size, 2, none⟩ (.int .i64 M)) := (Below.refl ((X1.setCell ⟨w.heap.size, 3, none⟩ (.int .i64 TU)).setCell ⟨w.heap.size, 2, none⟩ (.int .i64 M)).heap.size ((X1.setCell ⟨w.heap.size, 3, none⟩ (.int .i64 TU)).setCell ⟨w.heap.size, 2, none⟩ (.int .i64 M)))
  clear Sc0_3 Sc1_3 Sc2_3 Sc3_3 Sc4_3 Sc5_3 Sc6_3 Rc0_3 Rc1_3 Rc2_3 Rc3_3 Rc4_3 Rc5_3 Rc6_3
  have S_4 : Hid (((X1.setCell ⟨w.heap.size, 3, none⟩ (.int .i64 TU)).setCell ⟨w.heap.size, 2, none⟩ (.int .i64 M)).heap[w.heap.size]? = some (.cells #[.int .i64 x.c, .int .i64 x.t, .int .i64 M, .int .i64 TU, .int .i64 v, .int .i64 x.c, .bool true] 33 (0, 0))) := Lib.hid ((yb.block _ (by rw [ys]; exact Sz_3)).trans (blk_set (blk_set S_3.out 3 (.int .i64 TU)) 2 (.int .i64 M)))
  have R_4 : Hid (((X1.setCell ⟨w.heap.size, 3, none⟩ (.int .i64 TU)).setCell ⟨w.heap.size, 2, none⟩ (.int .i64 M)).heap[w.heap.size + 1]? = some (.cells #[.int .i64 0, .int .i64 0, .int .i64 0, .int .i64 0, .int .i64 0, .int .i64 0, .bool false] 33 (0, 0))) := Lib.hid ((yb.block _ (by rw [ys]; exact Rz_3)).trans (blk_other (i := 2) (blk_other (i := 3) R_3.out (by first | assumption | omega) (.int .i64 TU)) (by first | assumption | omega) (.int .i64 M)))
  have q_4 : Below w.heap.size w ((X1.setCell ⟨w.heap.size, 3, none⟩ (.int .i64 TU)).setCell ⟨w.heap.size, 2, none⟩ (.int .i64 M)) := below_after ((q_3.setCell (p := ⟨w.heap.size, 3, none⟩) (by first | assumption | (dsimp only; omega)) (.int .i64 TU)).setCell (p := ⟨w.heap.size, 2, none⟩) (by first | assumption | (dsimp only; omega)) (.int .i64 M)) yb
  clear yb ys q_3 S_3 Sz_3 R_3 Rz_3
  generalize ((X1.setCell ⟨w.heap.size, 3, none⟩ (.int .i64 TU)).setCell ⟨w.heap.size, 2, none⟩ (.int .i64 M)) = X2 at q_4 S_4 R_4 ⊢
  have Sz_4 := blk_lt S_4.out
  have Sc0_4 := blk_cell S_4.out 0
  have Sc1_4 := blk_cell S_4.out 1
  have Sc2_4 := blk_cell S_4.out 2
  have Sc3_4 := blk_cell S_4.out 3
  have Sc4_4 := blk_cell S_4.out 4
  have Sc5_4 := blk_cell S_4.out 5
  have Sc6_4 := blk_cell S_4.out 6
  have fS0 := blk_free S_4.out 0
  have fS1 := blk_free S_4.out 1
  have fS2 := blk_free S_4.out 2
  have fS3 := blk_free S_4.out 3
  have fS4 := blk_free S_4.out 4
  have fS5 := blk_free S_4.out 5
  have fS6 := blk_free S_4.out 6
  have Rz_4 := blk_lt R_4.out
  have Rc0_4 := blk_cell R_4.out 0
  have Rc1_4 := blk_cell R_4.out 1
  have Rc2_4 := blk_cell R_4.out 2
  have Rc3_4 := blk_cell R_4.out 3
  have Rc4_4 := blk_cell R_4.out 4
  have Rc5_4 := blk_cell R_4.out 5
  have Rc6_4 := blk_cell R_4.out 6
  have fR0 := blk_free R_4.out 0
  have fR1 := blk_free R_4.out 1
  have fR2 := blk_free R_4.out 2
  have fR3 := blk_free R_4.out 3
  have fR4 := blk_free R_4.out 4
  have fR5 := blk_free R_4.out 5
  have fR6 := blk_free R_4.out 6

  refine (rcurve_l M m (r - TU) cu HC.out.eq HOB.out HM.out _).mono ?_
  rintro e w' ⟨rfl, rfl⟩
  have hlt := HLT.out
  go_wp2_with fail
  refine wp_region_still_tail 13 (by kernel_rfl) (by kernel_rfl) ?_
  simp only [List.take_succ_cons, List.take_zero, List.drop_succ_cons, List.drop_zero]
  repeat (first | still_step)
  refine wpStill_nil ?_
  change wpList _ _ _ _ _ X2.drew
  clear Sc0_4 fS0 Sc1_4 fS1 Sc2_4 fS2 Sc3_4 fS3 Sc4_4 fS4 Sc5_4 fS5 Sc6_4 fS6 Rc0_4 fR0 Rc1_4 fR1 Rc2_4 fR2 Rc3_4 fR3 Rc4_4 fR4 Rc5_4 fR5 Rc6_4 fR6
  have S_5 : Hid (X2.drew.heap[w.heap.size]? = some (.cells #[.int .i64 x.c, .int .i64 x.t, .int .i64 M, .int .i64 TU, .int .i64 v, .int .i64 x.c, .bool true] 33 (0, 0))) := Lib.hid (blk_drew S_4.out)
  have R_5 : Hid (X2.drew.heap[w.heap.size + 1]? = some (.cells #[.int .i64 0, .int .i64 0, .int .i64 0, .int .i64 0, .int .i64 0, .int .i64 0, .bool false] 33 (0, 0))) := Lib.hid (blk_drew R_4.out)
  have q_5 := q_4.drew
  clear q_4 S_4 Sz_4 R_4 Rz_4
  generalize X2.drew = X30 at q_5 S_5 R_5 ⊢
  have Sz_5 := blk_lt S_5.out
  have Sc0_5 := blk_cell S_5.out 0
  have Sc1_5 := blk_cell S_5.out 1
  have Sc2_5 := blk_cell S_5.out 2
  have Sc3_5 := blk_cell S_5.out 3
  have Sc4_5 := blk_cell S_5.out 4
  have Sc5_5 := blk_cell S_5.out 5
  have Sc6_5 := blk_cell S_5.out 6
  have Rz_5 := blk_lt R_5.out
  have Rc0_5 := blk_cell R_5.out 0
  have Rc1_5 := blk_cell R_5.out 1
  have Rc2_5 := blk_cell R_5.out 2
  have Rc3_5 := blk_cell R_5.out 3
  have Rc4_5 := blk_cell R_5.out 4
  have Rc5_5 := blk_cell R_5.out 5
  have Rc6_5 := blk_cell R_5.out 6
  have fS0 := blk_free S_5.out 0
  have fS1 := blk_free S_5.out 1
  have fS2 := blk_free S_5.out 2
  have fS3 := blk_free S_5.out 3
  have fS4 := blk_free S_5.out 4
  have fS5 := blk_free S_5.out 5
  have fS6 := blk_free S_5.out 6
  have fR0 := blk_free R_5.out 0
  have fR1 := blk_free R_5.out 1
  have fR2 := blk_free R_5.out 2
  have fR3 := blk_free R_5.out 3
  have fR4 := blk_free R_5.out 4
  have fR5 := blk_free R_5.out 5
  have fR6 := blk_free R_5.out 6
  go_wp2_with fail
  clear fS0 fS1 fS2 fS3 fS4 fS5 fS6 fR0 fR1 fR2 fR3 fR4 fR5 fR6
  have ys : (X30.setCell ⟨w.heap.size, 5, none⟩ (.int .i64 E)).heap.size = X30.heap.size := by simp
  have yb : Below (X30.setCell ⟨w.heap.size, 5, none⟩ (.int .i64 E)).heap.size (X30.setCell ⟨w.heap.size, 5, none⟩ (.int .i64 E)) (X30.setCell ⟨w.heap.size, 5, none⟩ (.int .i64 E)) := (Below.refl (X30.setCell ⟨w.heap.size, 5, none⟩ (.int .i64 E)).heap.size (X30.setCell ⟨w.heap.size, 5, none⟩ (.int .i64 E)))
  clear Sc0_5 Sc1_5 Sc2_5 Sc3_5 Sc4_5 Sc5_5 Sc6_5 Rc0_5 Rc1_5 Rc2_5 Rc3_5 Rc4_5 Rc5_5 Rc6_5
  have S_6 : Hid ((X30.setCell ⟨w.heap.size, 5, none⟩ (.int .i64 E)).heap[w.heap.size]? = some (.cells #[.int .i64 x.c, .int .i64 x.t, .int .i64 M, .int .i64 TU, .int .i64 v, .int .i64 E, .bool true] 33 (0, 0))) := Lib.hid ((yb.block _ (by rw [ys]; exact Sz_5)).trans (blk_set S_5.out 5 (.int .i64 E)))
  have R_6 : Hid ((X30.setCell ⟨w.heap.size, 5, none⟩ (.int .i64 E)).heap[w.heap.size + 1]? = some (.cells #[.int .i64 0, .int .i64 0, .int .i64 0, .int .i64 0, .int .i64 0, .int .i64 0, .bool false] 33 (0, 0))) := Lib.hid ((yb.block _ (by rw [ys]; exact Rz_5)).trans (blk_other (i := 5) R_5.out (by first | assumption | omega) (.int .i64 E)))
  have q_6 : Below w.heap.size w (X30.setCell ⟨w.heap.size, 5, none⟩ (.int .i64 E)) := below_after (q_5.setCell (p := ⟨w.heap.size, 5, none⟩) (by first | assumption | (dsimp only; omega)) (.int .i64 E)) yb
  clear yb ys q_5 S_5 Sz_5 R_5 Rz_5
  generalize (X30.setCell ⟨w.heap.size, 5, none⟩ (.int .i64 E)) = X3 at q_6 S_6 R_6 ⊢
  have Sz_6 := blk_lt S_6.out
  have Sc0_6 := blk_cell S_6.out 0
  have Sc1_6 := blk_cell S_6.out 1
  have Sc2_6 := blk_cell S_6.out 2
  have Sc3_6 := blk_cell S_6.out 3
  have Sc4_6 := blk_cell S_6.out 4
  have Sc5_6 := blk_cell S_6.out 5
  have Sc6_6 := blk_cell S_6.out 6
  have fS0 := blk_free S_6.out 0
  have fS1 := blk_free S_6.out 1
  have fS2 := blk_free S_6.out 2
  have fS3 := blk_free S_6.out 3
  have fS4 := blk_free S_6.out 4
  have fS5 := blk_free S_6.out 5
  have fS6 := blk_free S_6.out 6
  have Rz_6 := blk_lt R_6.out
  have Rc0_6 := blk_cell R_6.out 0
  have Rc1_6 := blk_cell R_6.out 1
  have Rc2_6 := blk_cell R_6.out 2
  have Rc3_6 := blk_cell R_6.out 3
  have Rc4_6 := blk_cell R_6.out 4
  have Rc5_6 := blk_cell R_6.out 5
  have Rc6_6 := blk_cell R_6.out 6
  have fR0 := blk_free R_6.out 0
  have fR1 := blk_free R_6.out 1
  have fR2 := blk_free R_6.out 2
  have fR3 := blk_free R_6.out 3
  have fR4 := blk_free R_6.out 4
  have fR5 := blk_free R_6.out 5
  have fR6 := blk_free R_6.out 6
  go_wp2_with fail
  refine wp_region_still_tail 14 (by kernel_rfl) (by kernel_rfl) ?_
  simp only [List.take_succ_cons, List.take_zero, List.drop_succ_cons, List.drop_zero]
  repeat (first | still_step)
  refine wpStill_nil ?_
  change wpList _ _ _ _ _ X3.drew
  clear Sc0_6 fS0 Sc1_6 fS1 Sc2_6 fS2 Sc3_6 fS3 Sc4_6 fS4 Sc5_6 fS5 Sc6_6 fS6 Rc0_6 fR0 Rc1_6 fR1 Rc2_6 fR2 Rc3_6 fR3 Rc4_6 fR4 Rc5_6 fR5 Rc6_6 fR6
  have S_7 : Hid (X3.drew.heap[w.heap.size]? = some (.cells #[.int .i64 x.c, .int .i64 x.t, .int .i64 M, .int .i64 TU, .int .i64 v, .int .i64 E, .bool true] 33 (0, 0))) := Lib.hid (blk_drew S_6.out)
  have R_7 : Hid (X3.drew.heap[w.heap.size + 1]? = some (.cells #[.int .i64 0, .int .i64 0, .int .i64 0, .int .i64 0, .int .i64 0, .int .i64 0, .bool false] 33 (0, 0))) := Lib.hid (blk_drew R_6.out)
  have q_7 := q_6.drew
  clear q_6 S_6 Sz_6 R_6 Rz_6
  generalize X3.drew = X40 at q_7 S_7 R_7 ⊢
  have Sz_7 := blk_lt S_7.out
  have Sc0_7 := blk_cell S_7.out 0
  have Sc1_7 := blk_cell S_7.out 1
  have Sc2_7 := blk_cell S_7.out 2
  have Sc3_7 := blk_cell S_7.out 3
  have Sc4_7 := blk_cell S_7.out 4
  have Sc5_7 := blk_cell S_7.out 5
  have Sc6_7 := blk_cell S_7.out 6
  have Rz_7 := blk_lt R_7.out
  have Rc0_7 := blk_cell R_7.out 0
  have Rc1_7 := blk_cell R_7.out 1
  have Rc2_7 := blk_cell R_7.out 2
  have Rc3_7 := blk_cell R_7.out 3
  have Rc4_7 := blk_cell R_7.out 4
  have Rc5_7 := blk_cell R_7.out 5
  have Rc6_7 := blk_cell R_7.out 6
  have fS0 := blk_free S_7.out 0
  have fS1 := blk_free S_7.out 1
  have fS2 := blk_free S_7.out 2
  have fS3 := blk_free S_7.out 3
  have fS4 := blk_free S_7.out 4
  have fS5 := blk_free S_7.out 5
  have fS6 := blk_free S_7.out 6
  have fR0 := blk_free R_7.out 0
  have fR1 := blk_free R_7.out 1
  have fR2 := blk_free R_7.out 2
  have fR3 := blk_free R_7.out 3
  have fR4 := blk_free R_7.out 4
  have fR5 := blk_free R_7.out 5
  have fR6 := blk_free R_7.out 6
  go_wp2_with fail
  clear fS0 fS1 fS2 fS3 fS4 fS5 fS6 fR0 fR1 fR2 fR3 fR4 fR5 fR6
  have ys : (X40.setCell ⟨w.heap.size, 0, none⟩ (.int .i64 (min (x.c + B / x.c) 1073741824))).heap.size = X40.heap.size := by simp
  have yb : Below (X40.setCell ⟨w.heap.size, 0, none⟩ (.int .i64 (min (x.c + B / x.c) 1073741824))).heap.size (X40.setCell ⟨w.heap.size, 0, none⟩ (.int .i64 (min (x.c + B / x.c) 1073741824))) (X40.setCell ⟨w.heap.size, 0, none⟩ (.int .i64 (min (x.c + B / x.c) 1073741824))) := (Below.refl (X40.setCell ⟨w.heap.size, 0, none⟩ (.int .i64 (min (x.c + B / x.c) 1073741824))).heap.size (X40.setCell ⟨w.heap.size, 0, none⟩ (.int .i64 (min (x.c + B / x.c) 1073741824))))
  clear Sc0_7 Sc1_7 Sc2_7 Sc3_7 Sc4_7 Sc5_7 Sc6_7 Rc0_7 Rc1_7 Rc2_7 Rc3_7 Rc4_7 Rc5_7 Rc6_7
  have S_8 : Hid ((X40.setCell ⟨w.heap.size, 0, none⟩ (.int .i64 (min (x.c + B / x.c) 1073741824))).heap[w.heap.size]? = some (.cells #[.int .i64 (min (x.c + B / x.c) 1073741824), .int .i64 x.t, .int .i64 M, .int .i64 TU, .int .i64 v, .int .i64 E, .bool true] 33 (0, 0))) := Lib.hid ((yb.block _ (by rw [ys]; exact Sz_7)).trans (blk_set S_7.out 0 (.int .i64 (min (x.c + B / x.c) 1073741824))))
  have R_8 : Hid ((X40.setCell ⟨w.heap.size, 0, none⟩ (.int .i64 (min (x.c + B / x.c) 1073741824))).heap[w.heap.size + 1]? = some (.cells #[.int .i64 0, .int .i64 0, .int .i64 0, .int .i64 0, .int .i64 0, .int .i64 0, .bool false] 33 (0, 0))) := Lib.hid ((yb.block _ (by rw [ys]; exact Rz_7)).trans (blk_other (i := 0) R_7.out (by first | assumption | omega) (.int .i64 (min (x.c + B / x.c) 1073741824))))
  have q_8 : Below w.heap.size w (X40.setCell ⟨w.heap.size, 0, none⟩ (.int .i64 (min (x.c + B / x.c) 1073741824))) := below_after (q_7.setCell (p := ⟨w.heap.size, 0, none⟩) (by first | assumption | (dsimp only; omega)) (.int .i64 (min (x.c + B / x.c) 1073741824))) yb
  clear yb ys q_7 S_7 Sz_7 R_7 Rz_7
  generalize (X40.setCell ⟨w.heap.size, 0, none⟩ (.int .i64 (min (x.c + B / x.c) 1073741824))) = X4 at q_8 S_8 R_8 ⊢
  have Sz_8 := blk_lt S_8.out
  have Sc0_8 := blk_cell S_8.out 0
  have Sc1_8 := blk_cell S_8.out 1
  have Sc2_8 := blk_cell S_8.out 2
  have Sc3_8 := blk_cell S_8.out 3
  have Sc4_8 := blk_cell S_8.out 4
  have Sc5_8 := blk_cell S_8.out 5
  have Sc6_8 := blk_cell S_8.out 6
  have fS0 := blk_free S_8.out 0
  have fS1 := blk_free S_8.out 1
  have fS2 := blk_free S_8.out 2
  have fS3 := blk_free S_8.out 3
  have fS4 := blk_free S_8.out 4
  have fS5 := blk_free S_8.out 5
  have fS6 := blk_free S_8.out 6
  have Rz_8 := blk_lt R_8.out
  have Rc0_8 := blk_cell R_8.out 0
  have Rc1_8 := blk_cell R_8.out 1
  have Rc2_8 := blk_cell R_8.out 2
  have Rc3_8 := blk_cell R_8.out 3
  have Rc4_8 := blk_cell R_8.out 4
  have Rc5_8 := blk_cell R_8.out 5
  have Rc6_8 := blk_cell R_8.out 6
  have fR0 := blk_free R_8.out 0
  have fR1 := blk_free R_8.out 1
  have fR2 := blk_free R_8.out 2
  have fR3 := blk_free R_8.out 3
  have fR4 := blk_free R_8.out 4
  have fR5 := blk_free R_8.out 5
  have fR6 := blk_free R_8.out 6
  have QY := Lib.hid q_8
  clear S_8 R_8
  go_wp2
  refine bodyPost_ret (v := .tuple #[.agg #[.int .i64 (min (x.c + B / x.c) 1073741824), .int .i64 x.t, .int .i64 M, .int .i64 TU, .int .i64 v, .int .i64 E, .bool true], .int .i64 0]) (by simp [results, Try.results16, go_sem, *]) rfl ⟨rfl, ?_⟩
  (repeat' (first | (with_reducible exact QY.out) | (with_reducible exact Below.refl _ _) | (with_reducible refine Below.alloc ?_ ?_ _) | (with_reducible refine Below.setCell ?_ ?_ _) | (with_reducible refine Below.drew ?_) | (with_reducible refine below_drewN ?_ _) | omega | (dsimp only; omega) | (simp; done) | (simp; omega)))

end Go.Proofs.Ythkmphngfndebaa
