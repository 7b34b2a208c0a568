/- Cubic: New on both sides; Loss and Timeout of the document. -/
import Derived.Test.YthkmphngfndebaaCuA
namespace Go.Proofs.Ythkmphngfndebaa
open Go.RowKit Go.Proofs.Ythkmphngfndebaa.Cu

set_option maxHeartbeats 2000000 in
theorem reno_ok (m : Int) (w : World) (hM : MV m) :
    Calls Try.prog 34 #[.int .i64 m] w fun e w' => e = .returned (.tuple #[.agg #[.int .i64 (min (10 * m) (max (2 * m) 14600)), .int .i64 1073741824, .int .i64 0], .int .i64 0]) ∧ Below w.heap.size w w' := by
  obtain ⟨m0, m1⟩ := hM
  go_enter Try.func34, Try.ntmps34
  go_wp2
  refine bodyPost_ret (v := .tuple #[.agg #[.int .i64 (min (10 * m) (max (2 * m) 14600)), .int .i64 1073741824, .int .i64 0], .int .i64 0]) (by simp [results, Try.results34, go_sem, *]) rfl ⟨rfl, ?_⟩
  (repeat' (first | (with_reducible exact Below.refl _ _) | (with_reducible refine Below.alloc ?_ ?_ _) | (with_reducible refine Below.setCell ?_ ?_ _) | (with_reducible refine Below.drew ?_) | (with_reducible refine below_drewN ?_ _) | omega | (dsimp only; omega) | (simp; done) | (simp; omega)))

set_option maxHeartbeats 2000000 in
theorem reno_no (m : Int) (w : World) (hM : ¬ MV m) :
    Calls Try.prog 34 #[.int .i64 m] w fun e w' => e = .returned (.tuple #[.agg #[.int .i64 0, .int .i64 0, .int .i64 0], .int .i64 4]) ∧ Below w.heap.size w w' := by
  by_cases h1 : m < 1
  · clear hM
    go_enter Try.func34, Try.ntmps34
    go_wp2
    refine bodyPost_ret (v := .tuple #[.agg #[.int .i64 0, .int .i64 0, .int .i64 0], .int .i64 4]) (by simp [results, Try.results34, go_sem, *]) rfl ⟨rfl, ?_⟩
    (repeat' (first | (with_reducible exact Below.refl _ _) | (with_reducible refine Below.alloc ?_ ?_ _) | (with_reducible refine Below.setCell ?_ ?_ _) | (with_reducible refine Below.drew ?_) | (with_reducible refine below_drewN ?_ _) | omega | (dsimp only; omega) | (simp; done) | (simp; omega)))
  · have h2 : 65535 < m := by unfold MV at hM; omega
    clear hM
    go_enter Try.func34, Try.ntmps34
    go_wp2
    refine bodyPost_ret (v := .tuple #[.agg #[.int .i64 0, .int .i64 0, .int .i64 0], .int .i64 4]) (by simp [results, Try.results34, go_sem, *]) rfl ⟨rfl, ?_⟩
    (repeat' (first | (with_reducible exact Below.refl _ _) | (with_reducible refine Below.alloc ?_ ?_ _) | (with_reducible refine Below.setCell ?_ ?_ _) | (with_reducible refine Below.drew ?_) | (with_reducible refine below_drewN ?_ _) | omega | (dsimp only; omega) | (simp; done) | (simp; omega)))

set_option maxHeartbeats 2000000 in
theorem begin20 (m : Int) (w : World) (hM : MV m) :
    Calls Try.prog 35 #[.int .i64 m] w fun e w' => e = .returned (.int .i64 (min (10 * m) (max (2 * m) 14600))) ∧ w = w' := by
  obtain ⟨m0, m1⟩ := hM
  go_enter Try.func35, Try.ntmps35
  go_wp2
  go_ret
  exact ⟨rfl, rfl⟩

set_option maxRecDepth 100000 in
set_option maxHeartbeats 2000000 in
theorem new_ok (m : Int) (w : World) (hM : MV m) :
    Calls Try.prog 21 #[.int .i64 m] w fun e w' => e = .returned (.tuple #[.agg #[.int .i64 (min (10 * m) (max (2 * m) 14600)), .int .i64 1073741824, .int .i64 0, .int .i64 0, .int .i64 0, .int .i64 0, .bool false], .int .i64 0]) ∧ Below w.heap.size w w' := by
  have HM := Lib.hid hM
  clear hM
  have q_0 := Below.refl w.heap.size w
  go_enter Try.func21, Try.ntmps21
  go_wp2_with fail
  have b : Below w.heap.size w (w.alloc (.cells #[.int .i64 0, .int .i64 0, .int .i64 0, .int .i64 0, .int .i64 0, .int .i64 0, .bool false] 34)) := ((Below.refl _ w).alloc (Nat.le_refl _) (.cells #[.int .i64 0, .int .i64 0, .int .i64 0, .int .i64 0, .int .i64 0, .int .i64 0, .bool false] 34))
  have nb0 := blk_new w (.cells #[.int .i64 0, .int .i64 0, .int .i64 0, .int .i64 0, .int .i64 0, .int .i64 0, .bool false] 34)
  have nz0 : w.heap.size < (w.alloc (.cells #[.int .i64 0, .int .i64 0, .int .i64 0, .int .i64 0, .int .i64 0, .int .i64 0, .bool false] 34)).heap.size := by simp only [World.size_alloc]; omega
  have q_1 := q_0.trans (b.mono q_0.size)
  clear q_0
  clear b
  have R_1 := Lib.hid nb0
  have Rz_1 := nz0
  clear nb0 nz0
  have Rc0_1 := blk_cell R_1.out 0
  have Rc1_1 := blk_cell R_1.out 1
  have Rc2_1 := blk_cell R_1.out 2
  have Rc3_1 := blk_cell R_1.out 3
  have Rc4_1 := blk_cell R_1.out 4
  have Rc5_1 := blk_cell R_1.out 5
  have Rc6_1 := blk_cell R_1.out 6
  generalize (w.alloc (.cells #[.int .i64 0, .int .i64 0, .int .i64 0, .int .i64 0, .int .i64 0, .int .i64 0, .bool false] 34)) = V1 at q_1 R_1 Rz_1 Rc0_1 Rc1_1 Rc2_1 Rc3_1 Rc4_1 Rc5_1 Rc6_1 ⊢
  refine (reno_ok m _ HM.out).mono ?_
  rintro e V2 ⟨rfl, b⟩
  have R_2 := Lib.hid ((b.block _ Rz_1).trans R_1.out)
  have Rz_2 := Nat.lt_of_lt_of_le Rz_1 b.size
  have Rc0_2 := blk_cell R_2.out 0
  have Rc1_2 := blk_cell R_2.out 1
  have Rc2_2 := blk_cell R_2.out 2
  have Rc3_2 := blk_cell R_2.out 3
  have Rc4_2 := blk_cell R_2.out 4
  have Rc5_2 := blk_cell R_2.out 5
  have Rc6_2 := blk_cell R_2.out 6
  have q_2 := q_1.trans (b.mono q_1.size)
  clear R_1 Rz_1 Rc0_1 Rc1_1 Rc2_1 Rc3_1 Rc4_1 Rc5_1 Rc6_1 q_1
  clear b
  have fR0 := blk_free R_2.out 0
  have fR1 := blk_free R_2.out 1
  have fR2 := blk_free R_2.out 2
  have fR3 := blk_free R_2.out 3
  have fR4 := blk_free R_2.out 4
  have fR5 := blk_free R_2.out 5
  have fR6 := blk_free R_2.out 6
  have QY := Lib.hid q_2
  clear R_2
  go_wp2
  refine bodyPost_ret (v := .tuple #[.agg #[.int .i64 (min (10 * m) (max (2 * m) 14600)), .int .i64 1073741824, .int .i64 0, .int .i64 0, .int .i64 0, .int .i64 0, .bool false], .int .i64 0]) (by simp [results, Try.results21, go_sem, *]) rfl ⟨rfl, ?_⟩
  (repeat' (first | (with_reducible exact QY.out) | (with_reducible exact Below.refl _ _) | (with_reducible refine Below.alloc ?_ ?_ _) | (with_reducible refine Below.setCell ?_ ?_ _) | (with_reducible refine Below.drew ?_) | (with_reducible refine below_drewN ?_ _) | omega | (dsimp only; omega) | (simp; done) | (simp; omega)))

set_option maxRecDepth 100000 in
set_option maxHeartbeats 2000000 in
theorem new_no (m : Int) (w : World) (hM : ¬ MV m) :
    Calls Try.prog 21 #[.int .i64 m] w fun e w' => e = .returned (.tuple #[.agg #[.int .i64 0, .int .i64 0, .int .i64 0, .int .i64 0, .int .i64 0, .int .i64 0, .bool false], .int .i64 4]) ∧ Below w.heap.size w w' := by
  have HM := Lib.hid hM
  clear hM
  have q_0 := Below.refl w.heap.size w
  go_enter Try.func21, Try.ntmps21
  go_wp2_with fail
  have b : Below w.heap.size w (w.alloc (.cells #[.int .i64 0, .int .i64 0, .int .i64 0, .int .i64 0, .int .i64 0, .int .i64 0, .bool false] 34)) := ((Below.refl _ w).alloc (Nat.le_refl _) (.cells #[.int .i64 0, .int .i64 0, .int .i64 0, .int .i64 0, .int .i64 0, .int .i64 0, .bool false] 34))
  have nb0 := blk_new w (.cells #[.int .i64 0, .int .i64 0, .int .i64 0, .int .i64 0, .int .i64 0, .int .i64 0, .bool false] 34)
  have nz0 : w.heap.size < (w.alloc (.cells #[.int .i64 0, .int .i64 0, .int .i64 0, .int .i64 0, .int .i64 0, .int .i64 0, .bool false] 34)).heap.size := by simp only [World.size_alloc]; omega
  have q_1 := q_0.trans (b.mono q_0.size)
  clear q_0
  clear b
  have R_1 := Lib.hid nb0
  have Rz_1 := nz0
  clear nb0 nz0
  have Rc0_1 := blk_cell R_1.out 0
  have Rc1_1 := blk_cell R_1.out 1
  have Rc2_1 := blk_cell R_1.out 2
  have Rc3_1 := blk_cell R_1.out 3
  have Rc4_1 := blk_cell R_1.out 4
  have Rc5_1 := blk_cell R_1.out 5
  have Rc6_1 := blk_cell R_1.out 6
  generalize (w.alloc (.cells #[.int .i64 0, .int .i64 0, .int .i64 0, .int .i64 0, .int .i64 0, .int .i64 0, .bool false] 34)) = V1 at q_1 R_1 Rz_1 Rc0_1 Rc1_1 Rc2_1 Rc3_1 Rc4_1 Rc5_1 Rc6_1 ⊢
  refine (reno_no m _ HM.out).mono ?_
  rintro e V2 ⟨rfl, b⟩
  have R_2 := Lib.hid ((b.block _ Rz_1).trans R_1.out)
  have Rz_2 := Nat.lt_of_lt_of_le Rz_1 b.size
  have Rc0_2 := blk_cell R_2.out 0
  have Rc1_2 := blk_cell R_2.out 1
  have Rc2_2 := blk_cell R_2.out 2
  have Rc3_2 := blk_cell R_2.out 3
  have Rc4_2 := blk_cell R_2.out 4
  have Rc5_2 := blk_cell R_2.out 5
  have Rc6_2 := blk_cell R_2.out 6
  have q_2 := q_1.trans (b.mono q_1.size)
  clear R_1 Rz_1 Rc0_1 Rc1_1 Rc2_1 Rc3_1 Rc4_1 Rc5_1 Rc6_1 q_1
  clear b
  have fR0 := blk_free R_2.out 0
  have fR1 := blk_free R_2.out 1
  have fR2 := blk_free R_2.out 2
  have fR3 := blk_free R_2.out 3
  have fR4 := blk_free R_2.out 4
  have fR5 := blk_free R_2.out 5
  have fR6 := blk_free R_2.out 6
  have QY := Lib.hid q_2
  clear R_2
  go_wp2
  refine bodyPost_ret (v := .tuple #[.agg #[.int .i64 0, .int .i64 0, .int .i64 0, .int .i64 0, .int .i64 0, .int .i64 0, .bool false], .int .i64 4]) (by simp [results, Try.results21, go_sem, *]) rfl ⟨rfl, ?_⟩
  (repeat' (first | (with_reducible exact QY.out) | (with_reducible exact Below.refl _ _) | (with_reducible refine Below.alloc ?_ ?_ _) | (with_reducible refine Below.setCell ?_ ?_ _) | (with_reducible refine Below.drew ?_) | (with_reducible refine below_drewN ?_ _) | omega | (dsimp only; omega) | (simp; done) | (simp; omega)))

set_option maxRecDepth 100000 in
set_option maxHeartbeats 2000000 in
theorem rnew_ok (m : Int) (w : World) (hM : MV m) :
    Calls Try.prog 22 #[.int .i64 m] w fun e w' => e = .returned (.tuple #[.agg #[.int .i64 (min (10 * m) (max (2 * m) 14600)), .int .i64 1073741824, .int .i64 0, .int .i64 0, .int .i64 0, .int .i64 0, .bool false], .int .i64 0]) ∧ Below w.heap.size w w' := by
  have HM := Lib.hid hM
  clear hM
  have q_0 := Below.refl w.heap.size w
  go_enter Try.func22, Try.ntmps22
  go_wp2_with fail
  have b : Below w.heap.size w (w.alloc (.cells #[.int .i64 0, .int .i64 0, .int .i64 0, .int .i64 0, .int .i64 0, .int .i64 0, .bool false] 33)) := ((Below.refl _ w).alloc (Nat.le_refl _) (.cells #[.int .i64 0, .int .i64 0, .int .i64 0, .int .i64 0, .int .i64 0, .int .i64 0, .bool false] 33))
  have nb0 := blk_new w (.cells #[.int .i64 0, .int .i64 0, .int .i64 0, .int .i64 0, .int .i64 0, .int .i64 0, .bool false] 33)
  have nz0 : w.heap.size < (w.alloc (.cells #[.int .i64 0, .int .i64 0, .int .i64 0, .int .i64 0, .int .i64 0, .int .i64 0, .bool false] 33)).heap.size := by simp only [World.size_alloc]; omega
  have q_1 := q_0.trans (b.mono q_0.size)
  clear q_0
  clear b
  have R_1 := Lib.hid nb0
  have Rz_1 := nz0
  clear nb0 nz0
  have Rc0_1 := blk_cell R_1.out 0
  have Rc1_1 := blk_cell R_1.out 1
  have Rc2_1 := blk_cell R_1.out 2
  have Rc3_1 := blk_cell R_1.out 3
  have Rc4_1 := blk_cell R_1.out 4
  have Rc5_1 := blk_cell R_1.out 5
  have Rc6_1 := blk_cell R_1.out 6
  generalize (w.alloc (.cells #[.int .i64 0, .int .i64 0, .int .i64 0, .int .i64 0, .int .i64 0, .int .i64 0, .bool false] 33)) = V1 at q_1 R_1 Rz_1 Rc0_1 Rc1_1 Rc2_1 Rc3_1 Rc4_1 Rc5_1 Rc6_1 ⊢
  refine (rwi_yes m 1 65535 _ HM.out).mono ?_
  rintro e w' ⟨rfl, rfl⟩
  go_wp2_with fail
  refine (begin20 m _ HM.out).mono ?_
  rintro e w' ⟨rfl, rfl⟩
  have fR0 := blk_free R_1.out 0
  have fR1 := blk_free R_1.out 1
  have fR2 := blk_free R_1.out 2
  have fR3 := blk_free R_1.out 3
  have fR4 := blk_free R_1.out 4
  have fR5 := blk_free R_1.out 5
  have fR6 := blk_free R_1.out 6
  have QY := Lib.hid q_1
  clear R_1
  go_wp2
  refine bodyPost_ret (v := .tuple #[.agg #[.int .i64 (min (10 * m) (max (2 * m) 14600)), .int .i64 1073741824, .int .i64 0, .int .i64 0, .int .i64 0, .int .i64 0, .bool false], .int .i64 0]) (by simp [results, Try.results22, go_sem, *]) rfl ⟨rfl, ?_⟩
  (repeat' (first | (with_reducible exact QY.out) | (with_reducible exact Below.refl _ _) | (with_reducible refine Below.alloc ?_ ?_ _) | (with_reducible refine Below.setCell ?_ ?_ _) | (with_reducible refine Below.drew ?_) | (with_reducible refine below_drewN ?_ _) | omega | (dsimp only; omega) | (simp; done) | (simp; omega)))

set_option maxRecDepth 100000 in
set_option maxHeartbeats 2000000 in
theorem rnew_no (m : Int) (w : World) (hM : ¬ MV m) :
    Calls Try.prog 22 #[.int .i64 m] w fun e w' => e = .returned (.tuple #[.agg #[.int .i64 0, .int .i64 0, .int .i64 0, .int .i64 0, .int .i64 0, .int .i64 0, .bool false], .int .i64 4]) ∧ Below w.heap.size w w' := by
  have HM := Lib.hid hM
  clear hM
  have q_0 := Below.refl w.heap.size w
  go_enter Try.func22, Try.ntmps22
  go_wp2_with fail
  have b : Below w.heap.size w (w.alloc (.cells #[.int .i64 0, .int .i64 0, .int .i64 0, .int .i64 0, .int .i64 0, .int .i64 0, .bool false] 33)) := ((Below.refl _ w).alloc (Nat.le_refl _) (.cells #[.int .i64 0, .int .i64 0, .int .i64 0, .int .i64 0, .int .i64 0, .int .i64 0, .bool false] 33))
  have nb0 := blk_new w (.cells #[.int .i64 0, .int .i64 0, .int .i64 0, .int .i64 0, .int .i64 0, .int .i64 0, .bool false] 33)
  have nz0 : w.heap.size < (w.alloc (.cells #[.int .i64 0, .int .i64 0, .int .i64 0, .int .i64 0, .int .i64 0, .int .i64 0, .bool false] 33)).heap.size := by simp only [World.size_alloc]; omega
  have q_1 := q_0.trans (b.mono q_0.size)
  clear q_0
  clear b
  have R_1 := Lib.hid nb0
  have Rz_1 := nz0
  clear nb0 nz0
  have Rc0_1 := blk_cell R_1.out 0
  have Rc1_1 := blk_cell R_1.out 1
  have Rc2_1 := blk_cell R_1.out 2
  have Rc3_1 := blk_cell R_1.out 3
  have Rc4_1 := blk_cell R_1.out 4
  have Rc5_1 := blk_cell R_1.out 5
  have Rc6_1 := blk_cell R_1.out 6
  generalize (w.alloc (.cells #[.int .i64 0, .int .i64 0, .int .i64 0, .int .i64 0, .int .i64 0, .int .i64 0, .bool false] 33)) = V1 at q_1 R_1 Rz_1 Rc0_1 Rc1_1 Rc2_1 Rc3_1 Rc4_1 Rc5_1 Rc6_1 ⊢
  refine (rwi_no m 1 65535 _ HM.out).mono ?_
  rintro e w' ⟨rfl, rfl⟩
  have fR0 := blk_free R_1.out 0
  have fR1 := blk_free R_1.out 1
  have fR2 := blk_free R_1.out 2
  have fR3 := blk_free R_1.out 3
  have fR4 := blk_free R_1.out 4
  have fR5 := blk_free R_1.out 5
  have fR6 := blk_free R_1.out 6
  have QY := Lib.hid q_1
  clear R_1
  go_wp2
  refine bodyPost_ret (v := .tuple #[.agg #[.int .i64 0, .int .i64 0, .int .i64 0, .int .i64 0, .int .i64 0, .int .i64 0, .bool false], .int .i64 4]) (by simp [results, Try.results22, go_sem, *]) rfl ⟨rfl, ?_⟩
  (repeat' (first | (with_reducible exact QY.out) | (with_reducible exact Below.refl _ _) | (with_reducible refine Below.alloc ?_ ?_ _) | (with_reducible refine Below.setCell ?_ ?_ _) | (with_reducible refine Below.drew ?_) | (with_reducible refine below_drewN ?_ _) | omega | (dsimp only; omega) | (simp; done) | (simp; omega)))

theorem rcheck_l (x : CS) (m E : Int) (hE : cE x m = E) (w : World) : Calls Try.prog 24 #[.agg #[.int .i64 x.c, .int .i64 x.t, .int .i64 x.m, .int .i64 x.u, .int .i64 x.e, .int .i64 x.s, .bool x.h], .int .i64 m] w fun e w' => e = .returned (.int .i64 E) ∧ Below w.heap.size w w' := by
  subst hE
  by_cases hM : MV m
  · by_cases hV : CV x m
    · rw [show cE x m = 0 by rw [cE, if_pos hM, if_pos hV]]; exact rcheck_yes x m w hM hV
    · rw [show cE x m = 171 by rw [cE, if_pos hM, if_neg hV]]; exact rcheck_s x m w hM hV
  · rw [show cE x m = 4 by rw [cE, if_neg hM]]; exact rcheck_m x m w hM
set_option maxRecDepth 100000 in
set_option maxHeartbeats 2000000 in
theorem rloss_e (x : CS) (m E : Int) (w : World) (hE : cE x m = E) (hne : E ≠ 0) :
    Calls Try.prog 18 #[.agg #[.int .i64 x.c, .int .i64 x.t, .int .i64 x.m, .int .i64 x.u, .int .i64 x.e, .int .i64 x.s, .bool x.h], .int .i64 m] w fun e w' => e = .returned (.tuple #[.agg #[.int .i64 0, .int .i64 0, .int .i64 0, .int .i64 0, .int .i64 0, .int .i64 0, .bool false], .int .i64 E]) ∧ Below w.heap.size w w' := by
  have HE := Lib.hid hE
  have HNE := Lib.hid hne
  have e1 : (E != 0) = true := by rw [bne_iff_ne]; exact hne
  have e2 : (E == 0) = false := by rw [beq_eq_false_iff_ne]; exact hne
  clear hE hne
  have q_0 := Below.refl w.heap.size w
  go_enter Try.func18, Try.ntmps18
  go_wp2_with fail
  have b : Below w.heap.size w ((w.alloc (.cells #[.int .i64 x.c, .int .i64 x.t, .int .i64 x.m, .int .i64 x.u, .int .i64 x.e, .int .i64 x.s, .bool x.h] 33)).alloc (.cells #[.int .i64 0, .int .i64 0, .int .i64 0, .int .i64 0, .int .i64 0, .int .i64 0, .bool false] 33)) := (((Below.refl _ w).alloc (Nat.le_refl _) (.cells #[.int .i64 x.c, .int .i64 x.t, .int .i64 x.m, .int .i64 x.u, .int .i64 x.e, .int .i64 x.s, .bool x.h] 33)).alloc (by simp only [World.size_alloc]; omega) (.cells #[.int .i64 0, .int .i64 0, .int .i64 0, .int .i64 0, .int .i64 0, .int .i64 0, .bool false] 33))
  have nb0 := blk_new w (.cells #[.int .i64 x.c, .int .i64 x.t, .int .i64 x.m, .int .i64 x.u, .int .i64 x.e, .int .i64 x.s, .bool x.h] 33)
  have nb0 := (Below.heap_alloc (w.alloc (.cells #[.int .i64 x.c, .int .i64 x.t, .int .i64 x.m, .int .i64 x.u, .int .i64 x.e, .int .i64 x.s, .bool x.h] 33)) (.cells #[.int .i64 0, .int .i64 0, .int .i64 0, .int .i64 0, .int .i64 0, .int .i64 0, .bool false] 33) (w.heap.size) (by simp only [World.size_alloc]; omega)).trans nb0
  have nz0 : w.heap.size < ((w.alloc (.cells #[.int .i64 x.c, .int .i64 x.t, .int .i64 x.m, .int .i64 x.u, .int .i64 x.e, .int .i64 x.s, .bool x.h] 33)).alloc (.cells #[.int .i64 0, .int .i64 0, .int .i64 0, .int .i64 0, .int .i64 0, .int .i64 0, .bool false] 33)).heap.size := by simp only [World.size_alloc]; omega
  have nb1 := blk_new (w.alloc (.cells #[.int .i64 x.c, .int .i64 x.t, .int .i64 x.m, .int .i64 x.u, .int .i64 x.e, .int .i64 x.s, .bool x.h] 33)) (.cells #[.int .i64 0, .int .i64 0, .int .i64 0, .int .i64 0, .int .i64 0, .int .i64 0, .bool false] 33)
  simp only [World.size_alloc] at nb1
  have nz1 : w.heap.size + 1 < ((w.alloc (.cells #[.int .i64 x.c, .int .i64 x.t, .int .i64 x.m, .int .i64 x.u, .int .i64 x.e, .int .i64 x.s, .bool x.h] 33)).alloc (.cells #[.int .i64 0, .int .i64 0, .int .i64 0, .int .i64 0, .int .i64 0, .int .i64 0, .bool false] 33)).heap.size := by simp only [World.size_alloc]; omega
  have q_1 := q_0.trans (b.mono q_0.size)
  clear q_0
  clear b
  have S_1 := Lib.hid nb0
  have Sz_1 := nz0
  clear nb0 nz0
  have Sc0_1 := blk_cell S_1.out 0
  have Sc1_1 := blk_cell S_1.out 1
  have Sc2_1 := blk_cell S_1.out 2
  have Sc3_1 := blk_cell S_1.out 3
  have Sc4_1 := blk_cell S_1.out 4
  have Sc5_1 := blk_cell S_1.out 5
  have Sc6_1 := blk_cell S_1.out 6
  have R_1 := Lib.hid nb1
  have Rz_1 := nz1
  clear nb1 nz1
  have Rc0_1 := blk_cell R_1.out 0
  have Rc1_1 := blk_cell R_1.out 1
  have Rc2_1 := blk_cell R_1.out 2
  have Rc3_1 := blk_cell R_1.out 3
  have Rc4_1 := blk_cell R_1.out 4
  have Rc5_1 := blk_cell R_1.out 5
  have Rc6_1 := blk_cell R_1.out 6
  generalize ((w.alloc (.cells #[.int .i64 x.c, .int .i64 x.t, .int .i64 x.m, .int .i64 x.u, .int .i64 x.e, .int .i64 x.s, .bool x.h] 33)).alloc (.cells #[.int .i64 0, .int .i64 0, .int .i64 0, .int .i64 0, .int .i64 0, .int .i64 0, .bool false] 33)) = V1 at q_1 S_1 Sz_1 Sc0_1 Sc1_1 Sc2_1 Sc3_1 Sc4_1 Sc5_1 Sc6_1 R_1 Rz_1 Rc0_1 Rc1_1 Rc2_1 Rc3_1 Rc4_1 Rc5_1 Rc6_1 ⊢
  refine (rcheck_l x m E HE.out _).mono ?_
  rintro e V2 ⟨rfl, b⟩
  have S_2 := Lib.hid ((b.block _ Sz_1).trans S_1.out)
  have Sz_2 := Nat.lt_of_lt_of_le Sz_1 b.size
  have Sc0_2 := blk_cell S_2.out 0
  have Sc1_2 := blk_cell S_2.out 1
  have Sc2_2 := blk_cell S_2.out 2
  have Sc3_2 := blk_cell S_2.out 3
  have Sc4_2 := blk_cell S_2.out 4
  have Sc5_2 := blk_cell S_2.out 5
  have Sc6_2 := blk_cell S_2.out 6
  have R_2 := Lib.hid ((b.block _ Rz_1).trans R_1.out)
  have Rz_2 := Nat.lt_of_lt_of_le Rz_1 b.size
  have Rc0_2 := blk_cell R_2.out 0
  have Rc1_2 := blk_cell R_2.out 1
  have Rc2_2 := blk_cell R_2.out 2
  have Rc3_2 := blk_cell R_2.out 3
  have Rc4_2 := blk_cell R_2.out 4
  have Rc5_2 := blk_cell R_2.out 5
  have Rc6_2 := blk_cell R_2.out 6
  have q_2 := q_1.trans (b.mono q_1.size)
  clear S_1 Sz_1 Sc0_1 Sc1_1 Sc2_1 Sc3_1 Sc4_1 Sc5_1 Sc6_1 R_1 Rz_1 Rc0_1 Rc1_1 Rc2_1 Rc3_1 Rc4_1 Rc5_1 Rc6_1 q_1
  clear b
  have fS0 := blk_free S_2.out 0
  have fS1 := blk_free S_2.out 1
  have fS2 := blk_free S_2.out 2
  have fS3 := blk_free S_2.out 3
  have fS4 := blk_free S_2.out 4
  have fS5 := blk_free S_2.out 5
  have fS6 := blk_free S_2.out 6
  have fR0 := blk_free R_2.out 0
  have fR1 := blk_free R_2.out 1
  have fR2 := blk_free R_2.out 2
  have fR3 := blk_free R_2.out 3
  have fR4 := blk_free R_2.out 4
  have fR5 := blk_free R_2.out 5
  have fR6 := blk_free R_2.out 6
  have QY := Lib.hid q_2
  clear S_2 R_2
  go_wp2
  refine bodyPost_ret (v := .tuple #[.agg #[.int .i64 0, .int .i64 0, .int .i64 0, .int .i64 0, .int .i64 0, .int .i64 0, .bool false], .int .i64 E]) (by simp [results, Try.results18, go_sem, *]) rfl ⟨rfl, ?_⟩
  (repeat' (first | (with_reducible exact QY.out) | (with_reducible exact Below.refl _ _) | (with_reducible refine Below.alloc ?_ ?_ _) | (with_reducible refine Below.setCell ?_ ?_ _) | (with_reducible refine Below.drew ?_) | (with_reducible refine below_drewN ?_ _) | omega | (dsimp only; omega) | (simp; done) | (simp; omega)))

set_option maxRecDepth 100000 in
set_option maxHeartbeats 2000000 in
theorem rloss_lt (x : CS) (m : Int) (w : World) (hM : MV m) (hV : CV x m) (h : x.c < x.m) :
    Calls Try.prog 18 #[.agg #[.int .i64 x.c, .int .i64 x.t, .int .i64 x.m, .int .i64 x.u, .int .i64 x.e, .int .i64 x.s, .bool x.h], .int .i64 m] w fun e w' => e = .returned (.tuple #[.agg #[.int .i64 (max (x.c * 7 / 10) (2 * m)), .int .i64 (max (x.c * 7 / 10) (2 * m)), .int .i64 (x.c * 17 / 20), .int .i64 x.u, .int .i64 x.e, .int .i64 x.s, .bool false], .int .i64 0]) ∧ Below w.heap.size w w' := by
  have HM := Lib.hid hM
  have HV := Lib.hid hV
  clear hM hV
  obtain ⟨L, hL⟩ : ∃ z, max (x.c * 7 / 10) (2 * m) = z := ⟨_, rfl⟩
  rw [hL]
  have HL := Lib.hid hL
  clear hL
  have q_0 := Below.refl w.heap.size w
  go_enter Try.func18, Try.ntmps18
  go_wp2_with fail
  have b : Below w.heap.size w ((w.alloc (.cells #[.int .i64 x.c, .int .i64 x.t, .int .i64 x.m, .int .i64 x.u, .int .i64 x.e, .int .i64 x.s, .bool x.h] 33)).alloc (.cells #[.int .i64 0, .int .i64 0, .int .i64 0, .int .i64 0, .int .i64 0, .int .i64 0, .bool false] 33)) := (((Below.refl _ w).alloc (Nat.le_refl _) (.cells #[.int .i64 x.c, .int .i64 x.t, .int .i64 x.m, .int .i64 x.u, .int .i64 x.e, .int .i64 x.s, .bool x.h] 33)).alloc (by simp only [World.size_alloc]; omega) (.cells #[.int .i64 0, .int .i64 0, .int .i64 0, .int .i64 0, .int .i64 0, .int .i64 0, .bool false] 33))
  have nb0 := blk_new w (.cells #[.int .i64 x.c, .int .i64 x.t, .int .i64 x.m, .int .i64 x.u, .int .i64 x.e, .int .i64 x.s, .bool x.h] 33)
  have nb0 := (Below.heap_alloc (w.alloc (.cells #[.int .i64 x.c, .int .i64 x.t, .int .i64 x.m, .int .i64 x.u, .int .i64 x.e, .int .i64 x.s, .bool x.h] 33)) (.cells #[.int .i64 0, .int .i64 0, .int .i64 0, .int .i64 0, .int .i64 0, .int .i64 0, .bool false] 33) (w.heap.size) (by simp only [World.size_alloc]; omega)).trans nb0
  have nz0 : w.heap.size < ((w.alloc (.cells #[.int .i64 x.c, .int .i64 x.t, .int .i64 x.m, .int .i64 x.u, .int .i64 x.e, .int .i64 x.s, .bool x.h] 33)).alloc (.cells #[.int .i64 0, .int .i64 0, .int .i64 0, .int .i64 0, .int .i64 0, .int .i64 0, .bool false] 33)).heap.size := by simp only [World.size_alloc]; omega
  have nb1 := blk_new (w.alloc (.cells #[.int .i64 x.c, .int .i64 x.t, .int .i64 x.m, .int .i64 x.u, .int .i64 x.e, .int .i64 x.s, .bool x.h] 33)) (.cells #[.int .i64 0, .int .i64 0, .int .i64 0, .int .i64 0, .int .i64 0, .int .i64 0, .bool false] 33)
  simp only [World.size_alloc] at nb1
  have nz1 : w.heap.size + 1 < ((w.alloc (.cells #[.int .i64 x.c, .int .i64 x.t, .int .i64 x.m, .int .i64 x.u, .int .i64 x.e, .int .i64 x.s, .bool x.h] 33)).alloc (.cells #[.int .i64 0, .int .i64 0, .int .i64 0, .int .i64 0, .int .i64 0, .int .i64 0, .bool false] 33)).heap.size := by simp only [World.size_alloc]; omega
  have q_1 := q_0.trans (b.mono q_0.size)
  clear q_0
  clear b
  have S_1 := Lib.hid nb0
  have Sz_1 := nz0
  clear nb0 nz0
  have Sc0_1 := blk_cell S_1.out 0
  have Sc1_1 := blk_cell S_1.out 1
  have Sc2_1 := blk_cell S_1.out 2
  have Sc3_1 := blk_cell S_1.out 3
  have Sc4_1 := blk_cell S_1.out 4
  have Sc5_1 := blk_cell S_1.out 5
  have Sc6_1 := blk_cell S_1.out 6
  have R_1 := Lib.hid nb1
  have Rz_1 := nz1
  clear nb1 nz1
  have Rc0_1 := blk_cell R_1.out 0
  have Rc1_1 := blk_cell R_1.out 1
  have Rc2_1 := blk_cell R_1.out 2
  have Rc3_1 := blk_cell R_1.out 3
  have Rc4_1 := blk_cell R_1.out 4
  have Rc5_1 := blk_cell R_1.out 5
  have Rc6_1 := blk_cell R_1.out 6
  generalize ((w.alloc (.cells #[.int .i64 x.c, .int .i64 x.t, .int .i64 x.m, .int .i64 x.u, .int .i64 x.e, .int .i64 x.s, .bool x.h] 33)).alloc (.cells #[.int .i64 0, .int .i64 0, .int .i64 0, .int .i64 0, .int .i64 0, .int .i64 0, .bool false] 33)) = V1 at q_1 S_1 Sz_1 Sc0_1 Sc1_1 Sc2_1 Sc3_1 Sc4_1 Sc5_1 Sc6_1 R_1 Rz_1 Rc0_1 Rc1_1 Rc2_1 Rc3_1 Rc4_1 Rc5_1 Rc6_1 ⊢
  refine (rcheck_yes x m _ HM.out HV.out).mono ?_
  rintro e V2 ⟨rfl, b⟩
  have S_2 := Lib.hid ((b.block _ Sz_1).trans S_1.out)
  have Sz_2 := Nat.lt_of_lt_of_le Sz_1 b.size
  have Sc0_2 := blk_cell S_2.out 0
  have Sc1_2 := blk_cell S_2.out 1
  have Sc2_2 := blk_cell S_2.out 2
  have Sc3_2 := blk_cell S_2.out 3
  have Sc4_2 := blk_cell S_2.out 4
  have Sc5_2 := blk_cell S_2.out 5
  have Sc6_2 := blk_cell S_2.out 6
  have R_2 := Lib.hid ((b.block _ Rz_1).trans R_1.out)
  have Rz_2 := Nat.lt_of_lt_of_le Rz_1 b.size
  have Rc0_2 := blk_cell R_2.out 0
  have Rc1_2 := blk_cell R_2.out 1
  have Rc2_2 := blk_cell R_2.out 2
  have Rc3_2 := blk_cell R_2.out 3
  have Rc4_2 := blk_cell R_2.out 4
  have Rc5_2 := blk_cell R_2.out 5
  have Rc6_2 := blk_cell R_2.out 6
  have q_2 := q_1.trans (b.mono q_1.size)
  clear S_1 Sz_1 Sc0_1 Sc1_1 Sc2_1 Sc3_1 Sc4_1 Sc5_1 Sc6_1 R_1 Rz_1 Rc0_1 Rc1_1 Rc2_1 Rc3_1 Rc4_1 Rc5_1 Rc6_1 q_1
  clear b
  have fS0 := blk_free S_2.out 0
  have fS1 := blk_free S_2.out 1
  have fS2 := blk_free S_2.out 2
  have fS3 := blk_free S_2.out 3
  have fS4 := blk_free S_2.out 4
  have fS5 := blk_free S_2.out 5
  have fS6 := blk_free S_2.out 6
  have fR0 := blk_free R_2.out 0
  have fR1 := blk_free R_2.out 1
  have fR2 := blk_free R_2.out 2
  have fR3 := blk_free R_2.out 3
  have fR4 := blk_free R_2.out 4
  have fR5 := blk_free R_2.out 5
  have fR6 := blk_free R_2.out 6
  obtain ⟨⟨c0, c1⟩, ⟨t0, t1⟩, ⟨⟨p0, p1⟩, s0, s1⟩, ⟨u0, u1⟩, e0, e1⟩ := HV.out
  obtain ⟨m0, m1⟩ := HM.out
  have hL := HL.out
  have hL2 : min L 1073741824 = L := by omega
  have QY := Lib.hid q_2
  clear S_2 R_2
  go_wp2
  refine bodyPost_ret (v := .tuple #[.agg #[.int .i64 L, .int .i64 L, .int .i64 (x.c * 17 / 20), .int .i64 x.u, .int .i64 x.e, .int .i64 x.s, .bool false], .int .i64 0]) (by simp [results, Try.results18, go_sem, *]) rfl ⟨rfl, ?_⟩
  (repeat' (first | (with_reducible exact QY.out) | (with_reducible exact Below.refl _ _) | (with_reducible refine Below.alloc ?_ ?_ _) | (with_reducible refine Below.setCell ?_ ?_ _) | (with_reducible refine Below.drew ?_) | (with_reducible refine below_drewN ?_ _) | omega | (dsimp only; omega) | (simp; done) | (simp; omega)))

set_option maxRecDepth 100000 in
set_option maxHeartbeats 2000000 in
theorem rloss_ge (x : CS) (m : Int) (w : World) (hM : MV m) (hV : CV x m) (h : x.m ≤ x.c) :
    Calls Try.prog 18 #[.agg #[.int .i64 x.c, .int .i64 x.t, .int .i64 x.m, .int .i64 x.u, .int .i64 x.e, .int .i64 x.s, .bool x.h], .int .i64 m] w fun e w' => e = .returned (.tuple #[.agg #[.int .i64 (max (x.c * 7 / 10) (2 * m)), .int .i64 (max (x.c * 7 / 10) (2 * m)), .int .i64 (x.c), .int .i64 x.u, .int .i64 x.e, .int .i64 x.s, .bool false], .int .i64 0]) ∧ Below w.heap.size w w' := by
  have HM := Lib.hid hM
  have HV := Lib.hid hV
  clear hM hV
  obtain ⟨L, hL⟩ : ∃ z, max (x.c * 7 / 10) (2 * m) = z := ⟨_, rfl⟩
  rw [hL]
  have HL := Lib.hid hL
  clear hL
  have q_0 := Below.refl w.heap.size w
  go_enter Try.func18, Try.ntmps18
  go_wp2_with fail
  have b : Below w.heap.size w ((w.alloc (.cells #[.int .i64 x.c, .int .i64 x.t, .int .i64 x.m, .int .i64 x.u, .int .i64 x.e, .int .i64 x.s, .bool x.h] 33)).alloc (.cells #[.int .i64 0, .int .i64 0, .int .i64 0, .int .i64 0, .int .i64 0, .int .i64 0, .bool false] 33)) := (((Below.refl _ w).alloc (Nat.le_refl _) (.cells #[.int .i64 x.c, .int .i64 x.t, .int .i64 x.m, .int .i64 x.u, .int .i64 x.e, .int .i64 x.s, .bool x.h] 33)).alloc (by simp only [World.size_alloc]; omega) (.cells #[.int .i64 0, .int .i64 0, .int .i64 0, .int .i64 0, .int .i64 0, .int .i64 0, .bool false] 33))
  have nb0 := blk_new w (.cells #[.int .i64 x.c, .int .i64 x.t, .int .i64 x.m, .int .i64 x.u, .int .i64 x.e, .int .i64 x.s, .bool x.h] 33)
  have nb0 := (Below.heap_alloc (w.alloc (.cells #[.int .i64 x.c, .int .i64 x.t, .int .i64 x.m, .int .i64 x.u, .int .i64 x.e, .int .i64 x.s, .bool x.h] 33)) (.cells #[.int .i64 0, .int .i64 0, .int .i64 0, .int .i64 0, .int .i64 0, .int .i64 0, .bool false] 33) (w.heap.size) (by simp only [World.size_alloc]; omega)).trans nb0
  have nz0 : w.heap.size < ((w.alloc (.cells #[.int .i64 x.c, .int .i64 x.t, .int .i64 x.m, .int .i64 x.u, .int .i64 x.e, .int .i64 x.s, .bool x.h] 33)).alloc (.cells #[.int .i64 0, .int .i64 0, .int .i64 0, .int .i64 0, .int .i64 0, .int .i64 0, .bool false] 33)).heap.size := by simp only [World.size_alloc]; omega
  have nb1 := blk_new (w.alloc (.cells #[.int .i64 x.c, .int .i64 x.t, .int .i64 x.m, .int .i64 x.u, .int .i64 x.e, .int .i64 x.s, .bool x.h] 33)) (.cells #[.int .i64 0, .int .i64 0, .int .i64 0, .int .i64 0, .int .i64 0, .int .i64 0, .bool false] 33)
  simp only [World.size_alloc] at nb1
  have nz1 : w.heap.size + 1 < ((w.alloc (.cells #[.int .i64 x.c, .int .i64 x.t, .int .i64 x.m, .int .i64 x.u, .int .i64 x.e, .int .i64 x.s, .bool x.h] 33)).alloc (.cells #[.int .i64 0, .int .i64 0, .int .i64 0, .int .i64 0, .int .i64 0, .int .i64 0, .bool false] 33)).heap.size := by simp only [World.size_alloc]; omega
  have q_1 := q_0.trans (b.mono q_0.size)
  clear q_0
  clear b
  have S_1 := Lib.hid nb0
  have Sz_1 := nz0
  clear nb0 nz0
  have Sc0_1 := blk_cell S_1.out 0
  have Sc1_1 := blk_cell S_1.out 1
  have Sc2_1 := blk_cell S_1.out 2
  have Sc3_1 := blk_cell S_1.out 3
  have Sc4_1 := blk_cell S_1.out 4
  have Sc5_1 := blk_cell S_1.out 5
  have Sc6_1 := blk_cell S_1.out 6
  have R_1 := Lib.hid nb1
  have Rz_1 := nz1
  clear nb1 nz1
  have Rc0_1 := blk_cell R_1.out 0
  have Rc1_1 := blk_cell R_1.out 1
  have Rc2_1 := blk_cell R_1.out 2
  have Rc3_1 := blk_cell R_1.out 3
  have Rc4_1 := blk_cell R_1.out 4
  have Rc5_1 := blk_cell R_1.out 5
  have Rc6_1 := blk_cell R_1.out 6
  generalize ((w.alloc (.cells #[.int .i64 x.c, .int .i64 x.t, .int .i64 x.m, .int .i64 x.u, .int .i64 x.e, .int .i64 x.s, .bool x.h] 33)).alloc (.cells #[.int .i64 0, .int .i64 0, .int .i64 0, .int .i64 0, .int .i64 0, .int .i64 0, .bool false] 33)) = V1 at q_1 S_1 Sz_1 Sc0_1 Sc1_1 Sc2_1 Sc3_1 Sc4_1 Sc5_1 Sc6_1 R_1 Rz_1 Rc0_1 Rc1_1 Rc2_1 Rc3_1 Rc4_1 Rc5_1 Rc6_1 ⊢
  refine (rcheck_yes x m _ HM.out HV.out).mono ?_
  rintro e V2 ⟨rfl, b⟩
  have S_2 := Lib.hid ((b.block _ Sz_1).trans S_1.out)
  have Sz_2 := Nat.lt_of_lt_of_le Sz_1 b.size
  have Sc0_2 := blk_cell S_2.out 0
  have Sc1_2 := blk_cell S_2.out 1
  have Sc2_2 := blk_cell S_2.out 2
  have Sc3_2 := blk_cell S_2.out 3
  have Sc4_2 := blk_cell S_2.out 4
  have Sc5_2 := blk_cell S_2.out 5
  have Sc6_2 := blk_cell S_2.out 6
  have R_2 := Lib.hid ((b.block _ Rz_1).trans R_1.out)
  have Rz_2 := Nat.lt_of_lt_of_le Rz_1 b.size
  have Rc0_2 := blk_cell R_2.out 0
  have Rc1_2 := blk_cell R_2.out 1
  have Rc2_2 := blk_cell R_2.out 2
  have Rc3_2 := blk_cell R_2.out 3
  have Rc4_2 := blk_cell R_2.out 4
  have Rc5_2 := blk_cell R_2.out 5
  have Rc6_2 := blk_cell R_2.out 6
  have q_2 := q_1.trans (b.mono q_1.size)
  clear S_1 Sz_1 Sc0_1 Sc1_1 Sc2_1 Sc3_1 Sc4_1 Sc5_1 Sc6_1 R_1 Rz_1 Rc0_1 Rc1_1 Rc2_1 Rc3_1 Rc4_1 Rc5_1 Rc6_1 q_1
  clear b
  have fS0 := blk_free S_2.out 0
  have fS1 := blk_free S_2.out 1
  have fS2 := blk_free S_2.out 2
  have fS3 := blk_free S_2.out 3
  have fS4 := blk_free S_2.out 4
  have fS5 := blk_free S_2.out 5
  have fS6 := blk_free S_2.out 6
  have fR0 := blk_free R_2.out 0
  have fR1 := blk_free R_2.out 1
  have fR2 := blk_free R_2.out 2
  have fR3 := blk_free R_2.out 3
  have fR4 := blk_free R_2.out 4
  have fR5 := blk_free R_2.out 5
  have fR6 := blk_free R_2.out 6
  obtain ⟨⟨c0, c1⟩, ⟨t0, t1⟩, ⟨⟨p0, p1⟩, s0, s1⟩, ⟨u0, u1⟩, e0, e1⟩ := HV.out
  obtain ⟨m0, m1⟩ := HM.out
  have hL := HL.out
  have hL2 : min L 1073741824 = L := by omega
  have QY := Lib.hid q_2
  clear S_2 R_2
  go_wp2
  refine bodyPost_ret (v := .tuple #[.agg #[.int .i64 L, .int .i64 L, .int .i64 (x.c), .int .i64 x.u, .int .i64 x.e, .int .i64 x.s, .bool false], .int .i64 0]) (by simp [results, Try.results18, go_sem, *]) rfl ⟨rfl, ?_⟩
  (repeat' (first | (with_reducible exact QY.out) | (with_reducible exact Below.refl _ _) | (with_reducible refine Below.alloc ?_ ?_ _) | (with_reducible refine Below.setCell ?_ ?_ _) | (with_reducible refine Below.drew ?_) | (with_reducible refine below_drewN ?_ _) | omega | (dsimp only; omega) | (simp; done) | (simp; omega)))

theorem rloss_l (x y : CS) (m : Int) (hy : ls x m = y) (w : World) (hM : MV m) (hV : CV x m) :
    Calls Try.prog 18 #[.agg #[.int .i64 x.c, .int .i64 x.t, .int .i64 x.m, .int .i64 x.u, .int .i64 x.e, .int .i64 x.s, .bool x.h], .int .i64 m] w fun e w' => e = .returned (.tuple #[.agg #[.int .i64 y.c, .int .i64 y.t, .int .i64 y.m, .int .i64 y.u, .int .i64 y.e, .int .i64 y.s, .bool y.h], .int .i64 0]) ∧ Below w.heap.size w w' := by
  subst hy
  by_cases h : x.c < x.m
  · rw [show ls x m = ⟨max (x.c * 7 / 10) (2 * m), max (x.c * 7 / 10) (2 * m), x.c * 17 / 20, x.u, x.e, x.s, false⟩ by rw [ls, if_pos h]]; exact rloss_lt x m w hM hV h
  · rw [show ls x m = ⟨max (x.c * 7 / 10) (2 * m), max (x.c * 7 / 10) (2 * m), x.c, x.u, x.e, x.s, false⟩ by rw [ls, if_neg h]]; exact rloss_ge x m w hM hV (by omega)
set_option maxRecDepth 100000 in
set_option maxHeartbeats 2000000 in
theorem rtimeout_e (x : CS) (m E : Int) (w : World) (hE : cE x m = E) (hne : E ≠ 0) :
    Calls Try.prog 20 #[.agg #[.int .i64 x.c, .int .i64 x.t, .int .i64 x.m, .int .i64 x.u, .int .i64 x.e, .int .i64 x.s, .bool x.h], .int .i64 m] w fun e w' => e = .returned (.tuple #[.agg #[.int .i64 0, .int .i64 0, .int .i64 0, .int .i64 0, .int .i64 0, .int .i64 0, .bool false], .int .i64 E]) ∧ Below w.heap.size w w' := by
  have HE := Lib.hid hE
  have HNE := Lib.hid hne
  have e1 : (E != 0) = true := by rw [bne_iff_ne]; exact hne
  have e2 : (E == 0) = false := by rw [beq_eq_false_iff_ne]; exact hne
  clear hE hne
  have q_0 := Below.refl w.heap.size w
  go_enter Try.func20, Try.ntmps20
  go_wp2_with fail
  have b : Below w.heap.size w ((w.alloc (.cells #[.int .i64 x.c, .int .i64 x.t, .int .i64 x.m, .int .i64 x.u, .int .i64 x.e, .int .i64 x.s, .bool x.h] 33)).alloc (.cells #[.int .i64 0, .int .i64 0, .int .i64 0, .int .i64 0, .int .i64 0, .int .i64 0, .bool false] 33)) := (((Below.refl _ w).alloc (Nat.le_refl _) (.cells #[.int .i64 x.c, .int .i64 x.t, .int .i64 x.m, .int .i64 x.u, .int .i64 x.e, .int .i64 x.s, .bool x.h] 33)).alloc (by simp only [World.size_alloc]; omega) (.cells #[.int .i64 0, .int .i64 0, .int .i64 0, .int .i64 0, .int .i64 0, .int .i64 0, .bool false] 33))
  have nb0 := blk_new w (.cells #[.int .i64 x.c, .int .i64 x.t, .int .i64 x.m, .int .i64 x.u, .int .i64 x.e, .int .i64 x.s, .bool x.h] 33)
  have nb0 := (Below.heap_alloc (w.alloc (.cells #[.int .i64 x.c, .int .i64 x.t, .int .i64 x.m, .int .i64 x.u, .int .i64 x.e, .int .i64 x.s, .bool x.h] 33)) (.cells #[.int .i64 0, .int .i64 0, .int .i64 0, .int .i64 0, .int .i64 0, .int .i64 0, .bool false] 33) (w.heap.size) (by simp only [World.size_alloc]; omega)).trans nb0
  have nz0 : w.heap.size < ((w.alloc (.cells #[.int .i64 x.c, .int .i64 x.t, .int .i64 x.m, .int .i64 x.u, .int .i64 x.e, .int .i64 x.s, .bool x.h] 33)).alloc (.cells #[.int .i64 0, .int .i64 0, .int .i64 0, .int .i64 0, .int .i64 0, .int .i64 0, .bool false] 33)).heap.size := by simp only [World.size_alloc]; omega
  have nb1 := blk_new (w.alloc (.cells #[.int .i64 x.c, .int .i64 x.t, .int .i64 x.m, .int .i64 x.u, .int .i64 x.e, .int .i64 x.s, .bool x.h] 33)) (.cells #[.int .i64 0, .int .i64 0, .int .i64 0, .int .i64 0, .int .i64 0, .int .i64 0, .bool false] 33)
  simp only [World.size_alloc] at nb1
  have nz1 : w.heap.size + 1 < ((w.alloc (.cells #[.int .i64 x.c, .int .i64 x.t, .int .i64 x.m, .int .i64 x.u, .int .i64 x.e, .int .i64 x.s, .bool x.h] 33)).alloc (.cells #[.int .i64 0, .int .i64 0, .int .i64 0, .int .i64 0, .int .i64 0, .int .i64 0, .bool false] 33)).heap.size := by simp only [World.size_alloc]; omega
  have q_1 := q_0.trans (b.mono q_0.size)
  clear q_0
  clear b
  have S_1 := Lib.hid nb0
  have Sz_1 := nz0
  clear nb0 nz0
  have Sc0_1 := blk_cell S_1.out 0
  have Sc1_1 := blk_cell S_1.out 1
  have Sc2_1 := blk_cell S_1.out 2
  have Sc3_1 := blk_cell S_1.out 3
  have Sc4_1 := blk_cell S_1.out 4
  have Sc5_1 := blk_cell S_1.out 5
  have Sc6_1 := blk_cell S_1.out 6
  have R_1 := Lib.hid nb1
  have Rz_1 := nz1
  clear nb1 nz1
  have Rc0_1 := blk_cell R_1.out 0
  have Rc1_1 := blk_cell R_1.out 1
  have Rc2_1 := blk_cell R_1.out 2
  have Rc3_1 := blk_cell R_1.out 3
  have Rc4_1 := blk_cell R_1.out 4
  have Rc5_1 := blk_cell R_1.out 5
  have Rc6_1 := blk_cell R_1.out 6
  generalize ((w.alloc (.cells #[.int .i64 x.c, .int .i64 x.t, .int .i64 x.m, .int .i64 x.u, .int .i64 x.e, .int .i64 x.s, .bool x.h] 33)).alloc (.cells #[.int .i64 0, .int .i64 0, .int .i64 0, .int .i64 0, .int .i64 0, .int .i64 0, .bool false] 33)) = V1 at q_1 S_1 Sz_1 Sc0_1 Sc1_1 Sc2_1 Sc3_1 Sc4_1 Sc5_1 Sc6_1 R_1 Rz_1 Rc0_1 Rc1_1 Rc2_1 Rc3_1 Rc4_1 Rc5_1 Rc6_1 ⊢
  refine (rloss_e x m E _ HE.out HNE.out).mono ?_
  rintro e V2 ⟨rfl, b⟩
  have S_2 := Lib.hid ((b.block _ Sz_1).trans S_1.out)
  have Sz_2 := Nat.lt_of_lt_of_le Sz_1 b.size
  have Sc0_2 := blk_cell S_2.out 0
  have Sc1_2 := blk_cell S_2.out 1
  have Sc2_2 := blk_cell S_2.out 2
  have Sc3_2 := blk_cell S_2.out 3
  have Sc4_2 := blk_cell S_2.out 4
  have Sc5_2 := blk_cell S_2.out 5
  have Sc6_2 := blk_cell S_2.out 6
  have R_2 := Lib.hid ((b.block _ Rz_1).trans R_1.out)
  have Rz_2 := Nat.lt_of_lt_of_le Rz_1 b.size
  have Rc0_2 := blk_cell R_2.out 0
  have Rc1_2 := blk_cell R_2.out 1
  have Rc2_2 := blk_cell R_2.out 2
  have Rc3_2 := blk_cell R_2.out 3
  have Rc4_2 := blk_cell R_2.out 4
  have Rc5_2 := blk_cell R_2.out 5
  have Rc6_2 := blk_cell R_2.out 6
  have q_2 := q_1.trans (b.mono q_1.size)
  clear S_1 Sz_1 Sc0_1 Sc1_1 Sc2_1 Sc3_1 Sc4_1 Sc5_1 Sc6_1 R_1 Rz_1 Rc0_1 Rc1_1 Rc2_1 Rc3_1 Rc4_1 Rc5_1 Rc6_1 q_1
  clear b
  have fS0 := blk_free S_2.out 0
  have fS1 := blk_free S_2.out 1
  have fS2 := blk_free S_2.out 2
  have fS3 := blk_free S_2.out 3
  have fS4 := blk_free S_2.out 4
  have fS5 := blk_free S_2.out 5
  have fS6 := blk_free S_2.out 6
  have fR0 := blk_free R_2.out 0
  have fR1 := blk_free R_2.out 1
  have fR2 := blk_free R_2.out 2
  have fR3 := blk_free R_2.out 3
  have fR4 := blk_free R_2.out 4
  have fR5 := blk_free R_2.out 5
  have fR6 := blk_free R_2.out 6
  have QY := Lib.hid q_2
  clear S_2 R_2
  go_wp2
  refine bodyPost_ret (v := .tuple #[.agg #[.int .i64 0, .int .i64 0, .int .i64 0, .int .i64 0, .int .i64 0, .int .i64 0, .bool false], .int .i64 E]) (by simp [results, Try.results20, go_sem, *]) rfl ⟨rfl, ?_⟩
  (repeat' (first | (with_reducible exact QY.out) | (with_reducible exact Below.refl _ _) | (with_reducible refine Below.alloc ?_ ?_ _) | (with_reducible refine Below.setCell ?_ ?_ _) | (with_reducible refine Below.drew ?_) | (with_reducible refine below_drewN ?_ _) | omega | (dsimp only; omega) | (simp; done) | (simp; omega)))

set_option maxRecDepth 100000 in
set_option maxHeartbeats 2000000 in
theorem rtimeout_ok (x y : CS) (m : Int) (w : World) (hM : MV m) (hV : CV x m) (hy : ls x m = y) :
    Calls Try.prog 20 #[.agg #[.int .i64 x.c, .int .i64 x.t, .int .i64 x.m, .int .i64 x.u, .int .i64 x.e, .int .i64 x.s, .bool x.h], .int .i64 m] w fun e w' => e = .returned (.tuple #[.agg #[.int .i64 m, .int .i64 y.t, .int .i64 y.m, .int .i64 y.u, .int .i64 y.e, .int .i64 y.s, .bool y.h], .int .i64 0]) ∧ Below w.heap.size w w' := by
  have HM := Lib.hid hM
  have HV := Lib.hid hV
  have HY := Lib.hid hy
  clear hM hV hy
  have q_0 := Below.refl w.heap.size w
  go_enter Try.func20, Try.ntmps20
  go_wp2_with fail
  have b : Below w.heap.size w ((w.alloc (.cells #[.int .i64 x.c, .int .i64 x.t, .int .i64 x.m, .int .i64 x.u, .int .i64 x.e, .int .i64 x.s, .bool x.h] 33)).alloc (.cells #[.int .i64 0, .int .i64 0, .int .i64 0, .int .i64 0, .int .i64 0, .int .i64 0, .bool false] 33)) := (((Below.refl _ w).alloc (Nat.le_refl _) (.cells #[.int .i64 x.c, .int .i64 x.t, .int .i64 x.m, .int .i64 x.u, .int .i64 x.e, .int .i64 x.s, .bool x.h] 33)).alloc (by simp only [World.size_alloc]; omega) (.cells #[.int .i64 0, .int .i64 0, .int .i64 0, .int .i64 0, .int .i64 0, .int .i64 0, .bool false] 33))
  have nb0 := blk_new w (.cells #[.int .i64 x.c, .int .i64 x.t, .int .i64 x.m, .int .i64 x.u, .int .i64 x.e, .int .i64 x.s, .bool x.h] 33)
  have nb0 := (Below.heap_alloc (w.alloc (.cells #[.int .i64 x.c, .int .i64 x.t, .int .i64 x.m, .int .i64 x.u, .int .i64 x.e, .int .i64 x.s, .bool x.h] 33)) (.cells #[.int .i64 0, .int .i64 0, .int .i64 0, .int .i64 0, .int .i64 0, .int .i64 0, .bool false] 33) (w.heap.size) (by simp only [World.size_alloc]; omega)).trans nb0
  have nz0 : w.heap.size < ((w.alloc (.cells #[.int .i64 x.c, .int .i64 x.t, .int .i64 x.m, .int .i64 x.u, .int .i64 x.e, .int .i64 x.s, .bool x.h] 33)).alloc (.cells #[.int .i64 0, .int .i64 0, .int .i64 0, .int .i64 0, .int .i64 0, .int .i64 0, .bool false] 33)).heap.size := by simp only [World.size_alloc]; omega
  have nb1 := blk_new (w.alloc (.cells #[.int .i64 x.c, .int .i64 x.t, .int .i64 x.m, .int .i64 x.u, .int .i64 x.e, .int .i64 x.s, .bool x.h] 33)) (.cells #[.int .i64 0, .int .i64 0, .int .i64 0, .int .i64 0, .int .i64 0, .int .i64 0, .bool false] 33)
  simp only [World.size_alloc] at nb1
  have nz1 : w.heap.size + 1 < ((w.alloc (.cells #[.int .i64 x.c, .int .i64 x.t, .int .i64 x.m, .int .i64 x.u, .int .i64 x.e, .int .i64 x.s, .bool x.h] 33)).alloc (.cells #[.int .i64 0, .int .i64 0, .int .i64 0, .int .i64 0, .int .i64 0, .int .i64 0, .bool false] 33)).heap.size := by simp only [World.size_alloc]; omega
  have q_1 := q_0.trans (b.mono q_0.size)
  clear q_0
  clear b
  have S_1 := Lib.hid nb0
  have Sz_1 := nz0
  clear nb0 nz0
  have Sc0_1 := blk_cell S_1.out 0
  have Sc1_1 := blk_cell S_1.out 1
  have Sc2_1 := blk_cell S_1.out 2
  have Sc3_1 := blk_cell S_1.out 3
  have Sc4_1 := blk_cell S_1.out 4
  have Sc5_1 := blk_cell S_1.out 5
  have Sc6_1 := blk_cell S_1.out 6
  have R_1 := Lib.hid nb1
  have Rz_1 := nz1
  clear nb1 nz1
  have Rc0_1 := blk_cell R_1.out 0
  have Rc1_1 := blk_cell R_1.out 1
  have Rc2_1 := blk_cell R_1.out 2
  have Rc3_1 := blk_cell R_1.out 3
  have Rc4_1 := blk_cell R_1.out 4
  have Rc5_1 := blk_cell R_1.out 5
  have Rc6_1 := blk_cell R_1.out 6
  generalize ((w.alloc (.cells #[.int .i64 x.c, .int .i64 x.t, .int .i64 x.m, .int .i64 x.u, .int .i64 x.e, .int .i64 x.s, .bool x.h] 33)).alloc (.cells #[.int .i64 0, .int .i64 0, .int .i64 0, .int .i64 0, .int .i64 0, .int .i64 0, .bool false] 33)) = V1 at q_1 S_1 Sz_1 Sc0_1 Sc1_1 Sc2_1 Sc3_1 Sc4_1 Sc5_1 Sc6_1 R_1 Rz_1 Rc0_1 Rc1_1 Rc2_1 Rc3_1 Rc4_1 Rc5_1 Rc6_1 ⊢
  refine (rloss_l x y m HY.out _ HM.out HV.out).mono ?_
  rintro e V2 ⟨rfl, b⟩
  have S_2 := Lib.hid ((b.block _ Sz_1).trans S_1.out)
  have Sz_2 := Nat.lt_of_lt_of_le Sz_1 b.size
  have Sc0_2 := blk_cell S_2.out 0
  have Sc1_2 := blk_cell S_2.out 1
  have Sc2_2 := blk_cell S_2.out 2
  have Sc3_2 := blk_cell S_2.out 3
  have Sc4_2 := blk_cell S_2.out 4
  have Sc5_2 := blk_cell S_2.out 5
  have Sc6_2 := blk_cell S_2.out 6
  have R_2 := Lib.hid ((b.block _ Rz_1).trans R_1.out)
  have Rz_2 := Nat.lt_of_lt_of_le Rz_1 b.size
  have Rc0_2 := blk_cell R_2.out 0
  have Rc1_2 := blk_cell R_2.out 1
  have Rc2_2 := blk_cell R_2.out 2
  have Rc3_2 := blk_cell R_2.out 3
  have Rc4_2 := blk_cell R_2.out 4
  have Rc5_2 := blk_cell R_2.out 5
  have Rc6_2 := blk_cell R_2.out 6
  have q_2 := q_1.trans (b.mono q_1.size)
  clear S_1 Sz_1 Sc0_1 Sc1_1 Sc2_1 Sc3_1 Sc4_1 Sc5_1 Sc6_1 R_1 Rz_1 Rc0_1 Rc1_1 Rc2_1 Rc3_1 Rc4_1 Rc5_1 Rc6_1 q_1
  clear b
  have fS0 := blk_free S_2.out 0
  have fS1 := blk_free S_2.out 1
  have fS2 := blk_free S_2.out 2
  have fS3 := blk_free S_2.out 3
  have fS4 := blk_free S_2.out 4
  have fS5 := blk_free S_2.out 5
  have fS6 := blk_free S_2.out 6
  have fR0 := blk_free R_2.out 0
  have fR1 := blk_free R_2.out 1
  have fR2 := blk_free R_2.out 2
  have fR3 := blk_free R_2.out 3
  have fR4 := blk_free R_2.out 4
  have fR5 := blk_free R_2.out 5
  have fR6 := blk_free R_2.out 6
  have QY := Lib.hid q_2
  clear S_2 R_2
  go_wp2
  refine bodyPost_ret (v := .tuple #[.agg #[.int .i64 m, .int .i64 y.t, .int .i64 y.m, .int .i64 y.u, .int .i64 y.e, .int .i64 y.s, .bool y.h], .int .i64 0]) (by simp [results, Try.results20, go_sem, *]) rfl ⟨rfl, ?_⟩
  (repeat' (first | (with_reducible exact QY.out) | (with_reducible exact Below.refl _ _) | (with_reducible refine Below.alloc ?_ ?_ _) | (with_reducible refine Below.setCell ?_ ?_ _) | (with_reducible refine Below.drew ?_) | (with_reducible refine below_drewN ?_ _) | omega | (dsimp only; omega) | (simp; done) | (simp; omega)))

end Go.Proofs.Ythkmphngfndebaa
