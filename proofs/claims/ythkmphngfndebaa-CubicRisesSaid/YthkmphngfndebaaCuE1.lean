/- Cubic: Ack of the document, one way. -/
import Derived.Test.YthkmphngfndebaaCuE
import Derived.StillTailTactics
namespace Go.Proofs.Ythkmphngfndebaa
open Go.RowKit Go.Proofs.Ythkmphngfndebaa.Cu

set_option maxRecDepth 100000 in
set_option maxHeartbeats 2000000 in
theorem rack_on_lt (x : CS) (m n v r : Int) (w : World) (hM : MV m) (hV : CV x m) (hA : AV n v r) (hct : x.t ≤ x.c) (hh : x.h = true) (hlt : crv x.m m (tt x v r - x.u) < es x m n) :
    Calls Try.prog 16 #[.agg #[.int .i64 x.c, .int .i64 x.t, .int .i64 x.m, .int .i64 x.u, .int .i64 x.e, .int .i64 x.s, .bool x.h], .int .i64 m, .int .i64 n, .int .i64 v, .int .i64 r] w fun e w' => e = .returned (.tuple #[.agg #[.int .i64 (max x.c (es x m n)), .int .i64 x.t, .int .i64 x.m, .int .i64 x.u, .int .i64 x.e, .int .i64 (es x m n), .bool x.h], .int .i64 0]) ∧ Below w.heap.size w w' := by
  have HM := Lib.hid hM
  have HV := Lib.hid hV
  have H0 := Lib.hid hA.1
  have H1 := Lib.hid hA.2.1
  have H2 := Lib.hid hA.2.2
  have hVB := hV
  obtain ⟨T, hT⟩ : ∃ z, tt x v r = z := ⟨_, rfl⟩
  rw [hT] at hlt
  try rw [hT]
  unfold tt at hT
  have hT0 : 0 ≤ T ∧ T ≤ 4398046511104 := by
    obtain ⟨_, ⟨v0, v1⟩, r0, r1⟩ := hA
    obtain ⟨_, _, _, _, e0, e1⟩ := hVB
    omega
  obtain ⟨g0, g1⟩ := hT0
  have hcu := crv_bd x.m m (T - x.u)
  have hes := es_bd hM hVB hA.1
  have ham := aim_bd (cu := crv x.m m (T - x.u)) hM hVB hA.1
  have HOB : Hid (WV x.m) := Lib.hid hVB.2.2.1.1
  obtain ⟨cu, hcu2⟩ : ∃ z, crv x.m m (T - x.u) = z := ⟨_, rfl⟩
  rw [hcu2] at hcu ham hlt
  try rw [hcu2]
  have HC : Hid (Sm (crv x.m m (T - x.u)) cu) := Lib.hid ⟨hcu2⟩
  clear hcu2
  obtain ⟨cu0, cu1⟩ := hcu
  obtain ⟨⟨a0, a1⟩, ⟨b0, b1⟩, d0, d1⟩ := hes
  obtain ⟨E, hE⟩ : ∃ z, es x m n = z := ⟨_, rfl⟩
  rw [hE] at d0 d1 hlt
  rw [hE]
  unfold es at hE
  obtain ⟨P, hP⟩ : ∃ z, 9 * m * n = z := ⟨_, rfl⟩
  rw [hP] at hE a0 a1 b0 b1
  obtain ⟨R, hR⟩ : ∃ z, P / (17 * x.c) = z := ⟨_, rfl⟩
  rw [hR] at hE b0 b1
  obtain ⟨n0, n1⟩ := hA.1
  have hM2 := hM
  obtain ⟨m0, m1⟩ := hM2
  have hc17 : 17 ≤ 17 * x.c ∧ 17 * x.c ≤ 18253611008 := by have := hVB.1; omega
  have hsS := hVB.2.2.1.2
  have W1 : IntKind.i64.wrap (9 * m) = 9 * m := IntWalk.i64_in _ ⟨by omega, by omega⟩
  have W2 : IntKind.i64.wrap (9 * m * n) = P := by rw [hP]; exact IntWalk.i64_in _ ⟨by omega, by omega⟩
  have W3 : IntKind.i64.wrap (17 * x.c) = 17 * x.c := IntWalk.i64_in _ ⟨by omega, by omega⟩
  have W4 : IntKind.i64.wrap (P.tdiv (17 * x.c)) = R := by rw [← hR]; exact IntWalk.i64_quo _ _ ⟨by omega, by omega, by omega⟩
  have W5 : IntKind.i64.wrap (x.s + R) = x.s + R := IntWalk.i64_in _ ⟨by have := hsS.1; omega, by have := hsS.2; omega⟩
  have fz : ¬ 17 * x.c = 0 := by omega
  have fz2 : ¬ x.c = 0 := by omega
  have fzb : (17 * x.c == 0) = false := by rw [beq_eq_false_iff_ne]; omega
  clear hc17 hsS
  clear ham
  have hT3 : max 0 (v - x.e) + r = T := by rw [← hT]; omega
  clear hT
  obtain ⟨_, ⟨v0, v1⟩, r0, r1⟩ := hA
  obtain ⟨⟨c0, c1⟩, ⟨t0, t1⟩, ⟨⟨p0, p1⟩, s0, s1⟩, ⟨u0, u1⟩, e0, e1⟩ := hVB
  have HH := Lib.hid hh
  have HCT := Lib.hid hct
  have HLT := Lib.hid hlt
  clear hM hV hh hct hlt
  have q_0 := Below.refl w.heap.size w
  go_enter Try.func16, Try.ntmps16
  go_wp2_with fail
  have b : Below w.heap.size w ((w.alloc (.cells #[.int .i64 x.c, .int .i64 x.t, .int .i64 x.m, .int .i64 x.u, .int .i64 x.e, .int .i64 x.s, .bool x.h] 33)).alloc (.cells #[.int .i64 0, .int .i64 0, .int .i64 0, .int .i64 0, .int .i64 0, .int .i64 0, .bool false] 33)) := (((Below.refl _ w).alloc (Nat.le_refl _) (.cells #[.int .i64 x.c, .int .i64 x.t, .int .i64 x.m, .int .i64 x.u, .int .i64 x.e, .int .i64 x.s, .bool x.h] 33)).alloc (by simp only [World.size_alloc]; omega) (.cells #[.int .i64 0, .int .i64 0, .int .i64 0, .int .i64 0, .int .i64 0, .int .i64 0, .bool false] 33))
  have nb0 := blk_new w (.cells #[.int .i64 x.c, .int .i64 x.t, .int .i64 x.m, .int .i64 x.u, .int .i64 x.e, .int .i64 x.s, .bool x.h] 33)
  have nb0 := (Below.heap_alloc (w.alloc (.cells #[.int .i64 x.c, .int .i64 x.t, .int .i64 x.m, .int .i64 x.u, .int .i64 x.e, .int .i64 x.s, .bool x.h] 33)) (.cells #[.int .i64 0, .int .i64 0, .int .i64 0, .int .i64 0, .int .i64 0, .int .i64 0, .bool false] 33) (w.heap.size) (by simp only [World.size_alloc]; omega)).trans nb0
  have nz0 : w.heap.size < ((w.alloc (.cells #[.int .i64 x.c, .int .i64 x.t, .int .i64 x.m, .int .i64 x.u, .int .i64 x.e, .int .i64 x.s, .bool x.h] 33)).alloc (.cells #[.int .i64 0, .int .i64 0, .int .i64 0, .int .i64 0, .int .i64 0, .int .i64 0, .bool false] 33)).heap.size := by simp only [World.size_alloc]; omega
  have nb1 := blk_new (w.alloc (.cells #[.int .i64 x.c, .int .i64 x.t, .int .i64 x.m, .int .i64 x.u, .int .i64 x.e, .int .i64 x.s, .bool x.h] 33)) (.cells #[.int .i64 0, .int .i64 0, .int .i64 0, .int .i64 0, .int .i64 0, .int .i64 0, .bool false] 33)
  simp only [World.size_alloc] at nb1
  have nz1 : w.heap.size + 1 < ((w.alloc (.cells #[.int .i64 x.c, .int .i64 x.t, .int .i64 x.m, .int .i64 x.u, .int .i64 x.e, .int .i64 x.s, .bool x.h] 33)).alloc (.cells #[.int .i64 0, .int .i64 0, .int .i64 0, .int .i64 0, .int .i64 0, .int .i64 0, .bool false] 33)).heap.size := by simp only [World.size_alloc]; omega
  have q_1 := q_0.trans (b.mono q_0.size)
  clear q_0
  clear b
  have S_1 := Lib.hid nb0
  have Sz_1 := nz0
  clear nb0 nz0
  have Sc0_1 := blk_cell S_1.out 0
  have Sc1_1 := blk_cell S_1.out 1
  have Sc2_1 := blk_cell S_1.out 2
  have Sc3_1 := blk_cell S_1.out 3
  have Sc4_1 := blk_cell S_1.out 4
  have Sc5_1 := blk_cell S_1.out 5
  have Sc6_1 := blk_cell S_1.out 6
  have R_1 := Lib.hid nb1
  have Rz_1 := nz1
  clear nb1 nz1
  have Rc0_1 := blk_cell R_1.out 0
  have Rc1_1 := blk_cell R_1.out 1
  have Rc2_1 := blk_cell R_1.out 2
  have Rc3_1 := blk_cell R_1.out 3
  have Rc4_1 := blk_cell R_1.out 4
  have Rc5_1 := blk_cell R_1.out 5
  have Rc6_1 := blk_cell R_1.out 6
  generalize ((w.alloc (.cells #[.int .i64 x.c, .int .i64 x.t, .int .i64 x.m, .int .i64 x.u, .int .i64 x.e, .int .i64 x.s, .bool x.h] 33)).alloc (.cells #[.int .i64 0, .int .i64 0, .int .i64 0, .int .i64 0, .int .i64 0, .int .i64 0, .bool false] 33)) = V1 at q_1 S_1 Sz_1 Sc0_1 Sc1_1 Sc2_1 Sc3_1 Sc4_1 Sc5_1 Sc6_1 R_1 Rz_1 Rc0_1 Rc1_1 Rc2_1 Rc3_1 Rc4_1 Rc5_1 Rc6_1 ⊢
  refine (rcheck_yes x m _ HM.out HV.out).mono ?_
  rintro e V2 ⟨rfl, b⟩
  have S_2 := Lib.hid ((b.block _ Sz_1).trans S_1.out)
  have Sz_2 := Nat.lt_of_lt_of_le Sz_1 b.size
  have Sc0_2 := blk_cell S_2.out 0
  have Sc1_2 := blk_cell S_2.out 1
  have Sc2_2 := blk_cell S_2.out 2
  have Sc3_2 := blk_cell S_2.out 3
  have Sc4_2 := blk_cell S_2.out 4
  have Sc5_2 := blk_cell S_2.out 5
  have Sc6_2 := blk_cell S_2.out 6
  have R_2 := Lib.hid ((b.block _ Rz_1).trans R_1.out)
  have Rz_2 := Nat.lt_of_lt_of_le Rz_1 b.size
  have Rc0_2 := blk_cell R_2.out 0
  have Rc1_2 := blk_cell R_2.out 1
  have Rc2_2 := blk_cell R_2.out 2
  have Rc3_2 := blk_cell R_2.out 3
  have Rc4_2 := blk_cell R_2.out 4
  have Rc5_2 := blk_cell R_2.out 5
  have Rc6_2 := blk_cell R_2.out 6
  have q_2 := q_1.trans (b.mono q_1.size)
  clear S_1 Sz_1 Sc0_1 Sc1_1 Sc2_1 Sc3_1 Sc4_1 Sc5_1 Sc6_1 R_1 Rz_1 Rc0_1 Rc1_1 Rc2_1 Rc3_1 Rc4_1 Rc5_1 Rc6_1 q_1
  clear b
  have fS0 := blk_free S_2.out 0
  have fS1 := blk_free S_2.out 1
  have fS2 := blk_free S_2.out 2
  have fS3 := blk_free S_2.out 3
  have fS4 := blk_free S_2.out 4
  have fS5 := blk_free S_2.out 5
  have fS6 := blk_free S_2.out 6
  have fR0 := blk_free R_2.out 0
  have fR1 := blk_free R_2.out 1
  have fR2 := blk_free R_2.out 2
  have fR3 := blk_free R_2.out 3
  have fR4 := blk_free R_2.out 4
  have fR5 := blk_free R_2.out 5
  have fR6 := blk_free R_2.out 6
  go_wp2_with fail
  refine (rwi_yes n 0 1073741824 _ H0.out).mono ?_
  rintro e w' ⟨rfl, rfl⟩
  go_wp2_with fail
  refine (rwi_yes v 0 1099511627776 _ H1.out).mono ?_
  rintro e w' ⟨rfl, rfl⟩
  go_wp2_with fail
  refine (rwi_yes r 0 1073741824 _ H2.out).mono ?_
  rintro e w' ⟨rfl, rfl⟩
  obtain ⟨m0, m1⟩ := HM.out
  have hh := HH.out
  have hct := HCT.out
  have NE : w.heap.size + 1 ≠ w.heap.size := by omega
  have NE2 := NE.symm
  go_wp2_with fail

  refine (rcurve_l x.m m (T - x.u) cu HC.out.eq HOB.out HM.out _).mono ?_
  rintro e w' ⟨rfl, rfl⟩
  have hlt := HLT.out
  go_wp2_with fail
  refine wp_region_still_tail 13 (by kernel_rfl) (by kernel_rfl) ?_
  simp only [List.take_succ_cons, List.take_zero, List.drop_succ_cons, List.drop_zero]
  repeat (first | still_step)
  refine wpStill_nil ?_
  change wpList _ _ _ _ _ V2.drew
  clear Sc0_2 fS0 Sc1_2 fS1 Sc2_2 fS2 Sc3_2 fS3 Sc4_2 fS4 Sc5_2 fS5 Sc6_2 fS6 Rc0_2 fR0 Rc1_2 fR1 Rc2_2 fR2 Rc3_2 fR3 Rc4_2 fR4 Rc5_2 fR5 Rc6_2 fR6
  have S_3 : Hid (V2.drew.heap[w.heap.size]? = some (.cells #[.int .i64 x.c, .int .i64 x.t, .int .i64 x.m, .int .i64 x.u, .int .i64 x.e, .int .i64 x.s, .bool x.h] 33 (0, 0))) := Lib.hid (blk_drew S_2.out)
  have R_3 : Hid (V2.drew.heap[w.heap.size + 1]? = some (.cells #[.int .i64 0, .int .i64 0, .int .i64 0, .int .i64 0, .int .i64 0, .int .i64 0, .bool false] 33 (0, 0))) := Lib.hid (blk_drew R_2.out)
  have q_3 := q_2.drew
  clear q_2 S_2 Sz_2 R_2 Rz_2
  generalize V2.drew = X30 at q_3 S_3 R_3 ⊢
  have Sz_3 := blk_lt S_3.out
  have Sc0_3 := blk_cell S_3.out 0
  have Sc1_3 := blk_cell S_3.out 1
  have Sc2_3 := blk_cell S_3.out 2
  have Sc3_3 := blk_cell S_3.out 3
  have Sc4_3 := blk_cell S_3.out 4
  have Sc5_3 := blk_cell S_3.out 5
  have Sc6_3 := blk_cell S_3.out 6
  have Rz_3 := blk_lt R_3.out
  have Rc0_3 := blk_cell R_3.out 0
  have Rc1_3 := blk_cell R_3.out 1
  have Rc2_3 := blk_cell R_3.out 2
  have Rc3_3 := blk_cell R_3.out 3
  have Rc4_3 := blk_cell R_3.out 4
  have Rc5_3 := blk_cell R_3.out 5
  have Rc6_3 := blk_cell R_3.out 6
  have fS0 := blk_free S_3.out 0
  have fS1 := blk_free S_3.out 1
  have fS2 := blk_free S_3.out 2
  have fS3 := blk_free S_3.out 3
  have fS4 := blk_free S_3.out 4
  have fS5 := blk_free S_3.out 5
  have fS6 := blk_free S_3.out 6
  have fR0 := blk_free R_3.out 0
  have fR1 := blk_free R_3.out 1
  have fR2 := blk_free R_3.out 2
  have fR3 := blk_free R_3.out 3
  have fR4 := blk_free R_3.out 4
  have fR5 := blk_free R_3.out 5
  have fR6 := blk_free R_3.out 6
  have QY := Lib.hid q_3
  clear S_3 R_3
  go_wp2
  refine bodyPost_ret (v := .tuple #[.agg #[.int .i64 (max x.c E), .int .i64 x.t, .int .i64 x.m, .int .i64 x.u, .int .i64 x.e, .int .i64 E, .bool x.h], .int .i64 0]) (by simp [results, Try.results16, go_sem, *]) rfl ⟨rfl, ?_⟩
  (repeat' (first | (with_reducible exact QY.out) | (with_reducible exact Below.refl _ _) | (with_reducible refine Below.alloc ?_ ?_ _) | (with_reducible refine Below.setCell ?_ ?_ _) | (with_reducible refine Below.drew ?_) | (with_reducible refine below_drewN ?_ _) | omega | (dsimp only; omega) | (simp; done) | (simp; omega)))

end Go.Proofs.Ythkmphngfndebaa
