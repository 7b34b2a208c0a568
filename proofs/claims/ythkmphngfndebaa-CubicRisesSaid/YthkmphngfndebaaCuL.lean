/- Cubic: Loss, Timeout, Ack, New of the program. -/
import Derived.Test.YthkmphngfndebaaCuG
import Derived.Test.YthkmphngfndebaaGStore
namespace Go.Proofs.Ythkmphngfndebaa
open Go.RowKit Go.Proofs.Ythkmphngfndebaa.Cu

/-- Two that are one, told by a word that nothing unfolds. -/
structure Sm {α : Type} (a b : α) : Prop where
  eq : a = b
theorem check_l (x : CS) (m E : Int) (hE : cE x m = E) (w : World) : Calls Try.prog 23 #[.agg #[.int .i64 x.c, .int .i64 x.t, .int .i64 x.m, .int .i64 x.u, .int .i64 x.e, .int .i64 x.s, .bool x.h], .int .i64 m] w fun e w' => e = .returned (.int .i64 E) ∧ Below w.heap.size w w' := by
  subst hE
  by_cases hM : MV m
  · by_cases hV : CV x m
    · rw [show cE x m = 0 by rw [cE, if_pos hM, if_pos hV]]; exact check_yes x m w hM hV
    · rw [show cE x m = 171 by rw [cE, if_pos hM, if_neg hV]]; exact check_s x m w hM hV
  · rw [show cE x m = 4 by rw [cE, if_neg hM]]; exact check_m x m w hM
theorem lose_l (x y : CS) (m : Int) (hy : ls x m = y) (g : Nat) (w : World) (hM : MV m) (hV : CV x m) (hS : w.heap[g]? = some (.cells #[.int .i64 x.c, .int .i64 x.t, .int .i64 x.m, .int .i64 x.u, .int .i64 x.e, .int .i64 x.s, .bool x.h] 34 (0, 0))) :
    Calls Try.prog 33 #[.pointer (some ⟨g, 0, none⟩), .int .i64 m] w fun e w' => e = .returned (.tuple #[]) ∧ w'.heap[g]? = some (.cells #[.int .i64 y.c, .int .i64 y.t, .int .i64 y.m, .int .i64 y.u, .int .i64 y.e, .int .i64 y.s, .bool y.h] 34 (0, 0)) ∧ w.grownBy w' (some g) := by
  subst hy
  by_cases h : x.c < x.m
  · rw [show ls x m = ⟨max (x.c * 7 / 10) (2 * m), max (x.c * 7 / 10) (2 * m), x.c * 17 / 20, x.u, x.e, x.s, false⟩ by rw [ls, if_pos h]]; exact lose_lt x m g w hM hV h hS
  · rw [show ls x m = ⟨max (x.c * 7 / 10) (2 * m), max (x.c * 7 / 10) (2 * m), x.c, x.u, x.e, x.s, false⟩ by rw [ls, if_neg h]]; exact lose_ge x m g w hM hV (by omega) hS
theorem begin_l (x y : CS) (m v : Int) (hy : bg x m v = y) (g : Nat) (w : World) (hM : MV m) (hV : CV x m) (hS : w.heap[g]? = some (.cells #[.int .i64 x.c, .int .i64 x.t, .int .i64 x.m, .int .i64 x.u, .int .i64 x.e, .int .i64 x.s, .bool x.h] 34 (0, 0))) :
    Calls Try.prog 31 #[.pointer (some ⟨g, 0, none⟩), .int .i64 m, .int .i64 v] w fun e w' => e = .returned (.tuple #[]) ∧ w'.heap[g]? = some (.cells #[.int .i64 y.c, .int .i64 y.t, .int .i64 y.m, .int .i64 y.u, .int .i64 y.e, .int .i64 y.s, .bool y.h] 34 (0, 0)) ∧ w.grownBy w' (some g) := by
  subst hy
  exact begin_ok x m v g w hM hV hS
theorem goon_l (x y : CS) (m n t : Int) (hy : go1 x m n t = y) (g : Nat) (w : World) (hM : MV m) (hV : CV x m) (hN : WV n) (g0 : 0 ≤ t) (g1 : t ≤ 4398046511104) (hS : w.heap[g]? = some (.cells #[.int .i64 x.c, .int .i64 x.t, .int .i64 x.m, .int .i64 x.u, .int .i64 x.e, .int .i64 x.s, .bool x.h] 34 (0, 0))) :
    Calls Try.prog 32 #[.pointer (some ⟨g, 0, none⟩), .int .i64 m, .int .i64 n, .int .i64 t] w fun e w' => e = .returned (.tuple #[]) ∧ w'.heap[g]? = some (.cells #[.int .i64 y.c, .int .i64 y.t, .int .i64 y.m, .int .i64 y.u, .int .i64 y.e, .int .i64 y.s, .bool y.h] 34 (0, 0)) ∧ w.grownBy w' (some g) := by
  subst hy
  by_cases h : crv x.m m (t - x.u) < es x m n
  · rw [show go1 x m n t = { x with s := es x m n, c := max x.c (es x m n) } by rw [go1, if_pos h]]; exact goon_lt x m n t g w hM hV hN g0 g1 h hS
  · rw [show go1 x m n t = { x with s := es x m n, c := min (x.c + (aim x (crv x.m m (t - x.u)) - x.c) * n / x.c) 1073741824 } by rw [go1, if_neg h]]; exact goon_ge x m n t g w hM hV hN g0 g1 h hS
set_option maxRecDepth 100000 in
set_option maxHeartbeats 2000000 in
theorem loss_e (x : CS) (m E : Int) (w : World) (hE : cE x m = E) (hne : E ≠ 0) :
    Calls Try.prog 17 #[.agg #[.int .i64 x.c, .int .i64 x.t, .int .i64 x.m, .int .i64 x.u, .int .i64 x.e, .int .i64 x.s, .bool x.h], .int .i64 m] w fun e w' => e = .returned (.tuple #[.agg #[.int .i64 0, .int .i64 0, .int .i64 0, .int .i64 0, .int .i64 0, .int .i64 0, .bool false], .int .i64 E]) ∧ Below w.heap.size w w' := by
  have HE := Lib.hid hE
  have e1 : (E != 0) = true := by rw [bne_iff_ne]; exact hne
  have e2 : (E == 0) = false := by rw [beq_eq_false_iff_ne]; exact hne
  clear hE hne
  have q_0 := Below.refl w.heap.size w
  go_enter Try.func17, Try.ntmps17
  go_wp2_with fail
  have b : Below w.heap.size w ((w.alloc (.cells #[.int .i64 x.c, .int .i64 x.t, .int .i64 x.m, .int .i64 x.u, .int .i64 x.e, .int .i64 x.s, .bool x.h] 34)).alloc (.cells #[.int .i64 0, .int .i64 0, .int .i64 0, .int .i64 0, .int .i64 0, .int .i64 0, .bool false] 34)) := (((Below.refl _ w).alloc (Nat.le_refl _) (.cells #[.int .i64 x.c, .int .i64 x.t, .int .i64 x.m, .int .i64 x.u, .int .i64 x.e, .int .i64 x.s, .bool x.h] 34)).alloc (by simp only [World.size_alloc]; omega) (.cells #[.int .i64 0, .int .i64 0, .int .i64 0, .int .i64 0, .int .i64 0, .int .i64 0, .bool false] 34))
  have nb0 := blk_new w (.cells #[.int .i64 x.c, .int .i64 x.t, .int .i64 x.m, .int .i64 x.u, .int .i64 x.e, .int .i64 x.s, .bool x.h] 34)
  have nb0 := (Below.heap_alloc (w.alloc (.cells #[.int .i64 x.c, .int .i64 x.t, .int .i64 x.m, .int .i64 x.u, .int .i64 x.e, .int .i64 x.s, .bool x.h] 34)) (.cells #[.int .i64 0, .int .i64 0, .int .i64 0, .int .i64 0, .int .i64 0, .int .i64 0, .bool false] 34) (w.heap.size) (by simp only [World.size_alloc]; omega)).trans nb0
  have nz0 : w.heap.size < ((w.alloc (.cells #[.int .i64 x.c, .int .i64 x.t, .int .i64 x.m, .int .i64 x.u, .int .i64 x.e, .int .i64 x.s, .bool x.h] 34)).alloc (.cells #[.int .i64 0, .int .i64 0, .int .i64 0, .int .i64 0, .int .i64 0, .int .i64 0, .bool false] 34)).heap.size := by simp only [World.size_alloc]; omega
  have nb1 := blk_new (w.alloc (.cells #[.int .i64 x.c, .int .i64 x.t, .int .i64 x.m, .int .i64 x.u, .int .i64 x.e, .int .i64 x.s, .bool x.h] 34)) (.cells #[.int .i64 0, .int .i64 0, .int .i64 0, .int .i64 0, .int .i64 0, .int .i64 0, .bool false] 34)
  simp only [World.size_alloc] at nb1
  have nz1 : w.heap.size + 1 < ((w.alloc (.cells #[.int .i64 x.c, .int .i64 x.t, .int .i64 x.m, .int .i64 x.u, .int .i64 x.e, .int .i64 x.s, .bool x.h] 34)).alloc (.cells #[.int .i64 0, .int .i64 0, .int .i64 0, .int .i64 0, .int .i64 0, .int .i64 0, .bool false] 34)).heap.size := by simp only [World.size_alloc]; omega
  have q_1 := q_0.trans (b.mono q_0.size)
  clear q_0
  clear b
  have S_1 := Lib.hid nb0
  have Sz_1 := nz0
  clear nb0 nz0
  have Sc0_1 := blk_cell S_1.out 0
  have Sc1_1 := blk_cell S_1.out 1
  have Sc2_1 := blk_cell S_1.out 2
  have Sc3_1 := blk_cell S_1.out 3
  have Sc4_1 := blk_cell S_1.out 4
  have Sc5_1 := blk_cell S_1.out 5
  have Sc6_1 := blk_cell S_1.out 6
  have R_1 := Lib.hid nb1
  have Rz_1 := nz1
  clear nb1 nz1
  have Rc0_1 := blk_cell R_1.out 0
  have Rc1_1 := blk_cell R_1.out 1
  have Rc2_1 := blk_cell R_1.out 2
  have Rc3_1 := blk_cell R_1.out 3
  have Rc4_1 := blk_cell R_1.out 4
  have Rc5_1 := blk_cell R_1.out 5
  have Rc6_1 := blk_cell R_1.out 6
  generalize ((w.alloc (.cells #[.int .i64 x.c, .int .i64 x.t, .int .i64 x.m, .int .i64 x.u, .int .i64 x.e, .int .i64 x.s, .bool x.h] 34)).alloc (.cells #[.int .i64 0, .int .i64 0, .int .i64 0, .int .i64 0, .int .i64 0, .int .i64 0, .bool false] 34)) = V1 at q_1 S_1 Sz_1 Sc0_1 Sc1_1 Sc2_1 Sc3_1 Sc4_1 Sc5_1 Sc6_1 R_1 Rz_1 Rc0_1 Rc1_1 Rc2_1 Rc3_1 Rc4_1 Rc5_1 Rc6_1 ⊢
  refine (check_l x m E HE.out _).mono ?_
  rintro e V2 ⟨rfl, b⟩
  have S_2 := Lib.hid ((b.block _ Sz_1).trans S_1.out)
  have Sz_2 := Nat.lt_of_lt_of_le Sz_1 b.size
  have Sc0_2 := blk_cell S_2.out 0
  have Sc1_2 := blk_cell S_2.out 1
  have Sc2_2 := blk_cell S_2.out 2
  have Sc3_2 := blk_cell S_2.out 3
  have Sc4_2 := blk_cell S_2.out 4
  have Sc5_2 := blk_cell S_2.out 5
  have Sc6_2 := blk_cell S_2.out 6
  have R_2 := Lib.hid ((b.block _ Rz_1).trans R_1.out)
  have Rz_2 := Nat.lt_of_lt_of_le Rz_1 b.size
  have Rc0_2 := blk_cell R_2.out 0
  have Rc1_2 := blk_cell R_2.out 1
  have Rc2_2 := blk_cell R_2.out 2
  have Rc3_2 := blk_cell R_2.out 3
  have Rc4_2 := blk_cell R_2.out 4
  have Rc5_2 := blk_cell R_2.out 5
  have Rc6_2 := blk_cell R_2.out 6
  have q_2 := q_1.trans (b.mono q_1.size)
  clear S_1 Sz_1 Sc0_1 Sc1_1 Sc2_1 Sc3_1 Sc4_1 Sc5_1 Sc6_1 R_1 Rz_1 Rc0_1 Rc1_1 Rc2_1 Rc3_1 Rc4_1 Rc5_1 Rc6_1 q_1
  clear b
  have fS0 := blk_free S_2.out 0
  have fS1 := blk_free S_2.out 1
  have fS2 := blk_free S_2.out 2
  have fS3 := blk_free S_2.out 3
  have fS4 := blk_free S_2.out 4
  have fS5 := blk_free S_2.out 5
  have fS6 := blk_free S_2.out 6
  have fR0 := blk_free R_2.out 0
  have fR1 := blk_free R_2.out 1
  have fR2 := blk_free R_2.out 2
  have fR3 := blk_free R_2.out 3
  have fR4 := blk_free R_2.out 4
  have fR5 := blk_free R_2.out 5
  have fR6 := blk_free R_2.out 6
  have QY := Lib.hid q_2
  clear S_2 R_2
  go_wp2
  refine bodyPost_ret (v := .tuple #[.agg #[.int .i64 0, .int .i64 0, .int .i64 0, .int .i64 0, .int .i64 0, .int .i64 0, .bool false], .int .i64 E]) (by simp [results, Try.results17, go_sem, *]) rfl ⟨rfl, ?_⟩
  (repeat' (first | (with_reducible exact QY.out) | (with_reducible exact Below.refl _ _) | (with_reducible refine Below.alloc ?_ ?_ _) | (with_reducible refine Below.setCell ?_ ?_ _) | (with_reducible refine Below.drew ?_) | (with_reducible refine below_drewN ?_ _) | omega | (dsimp only; omega) | (simp; done) | (simp; omega)))

set_option maxRecDepth 100000 in
set_option maxHeartbeats 2000000 in
theorem loss_ok (x y : CS) (m : Int) (w : World) (hM : MV m) (hV : CV x m) (hy : ls x m = y) :
    Calls Try.prog 17 #[.agg #[.int .i64 x.c, .int .i64 x.t, .int .i64 x.m, .int .i64 x.u, .int .i64 x.e, .int .i64 x.s, .bool x.h], .int .i64 m] w fun e w' => e = .returned (.tuple #[.agg #[.int .i64 y.c, .int .i64 y.t, .int .i64 y.m, .int .i64 y.u, .int .i64 y.e, .int .i64 y.s, .bool y.h], .int .i64 0]) ∧ Below w.heap.size w w' := by
  have HM := Lib.hid hM
  have HV := Lib.hid hV
  have HY := Lib.hid hy
  clear hM hV hy
  have q_0 := Below.refl w.heap.size w
  go_enter Try.func17, Try.ntmps17
  go_wp2_with fail
  have b : Below w.heap.size w ((w.alloc (.cells #[.int .i64 x.c, .int .i64 x.t, .int .i64 x.m, .int .i64 x.u, .int .i64 x.e, .int .i64 x.s, .bool x.h] 34)).alloc (.cells #[.int .i64 0, .int .i64 0, .int .i64 0, .int .i64 0, .int .i64 0, .int .i64 0, .bool false] 34)) := (((Below.refl _ w).alloc (Nat.le_refl _) (.cells #[.int .i64 x.c, .int .i64 x.t, .int .i64 x.m, .int .i64 x.u, .int .i64 x.e, .int .i64 x.s, .bool x.h] 34)).alloc (by simp only [World.size_alloc]; omega) (.cells #[.int .i64 0, .int .i64 0, .int .i64 0, .int .i64 0, .int .i64 0, .int .i64 0, .bool false] 34))
  have nb0 := blk_new w (.cells #[.int .i64 x.c, .int .i64 x.t, .int .i64 x.m, .int .i64 x.u, .int .i64 x.e, .int .i64 x.s, .bool x.h] 34)
  have nb0 := (Below.heap_alloc (w.alloc (.cells #[.int .i64 x.c, .int .i64 x.t, .int .i64 x.m, .int .i64 x.u, .int .i64 x.e, .int .i64 x.s, .bool x.h] 34)) (.cells #[.int .i64 0, .int .i64 0, .int .i64 0, .int .i64 0, .int .i64 0, .int .i64 0, .bool false] 34) (w.heap.size) (by simp only [World.size_alloc]; omega)).trans nb0
  have nz0 : w.heap.size < ((w.alloc (.cells #[.int .i64 x.c, .int .i64 x.t, .int .i64 x.m, .int .i64 x.u, .int .i64 x.e, .int .i64 x.s, .bool x.h] 34)).alloc (.cells #[.int .i64 0, .int .i64 0, .int .i64 0, .int .i64 0, .int .i64 0, .int .i64 0, .bool false] 34)).heap.size := by simp only [World.size_alloc]; omega
  have nb1 := blk_new (w.alloc (.cells #[.int .i64 x.c, .int .i64 x.t, .int .i64 x.m, .int .i64 x.u, .int .i64 x.e, .int .i64 x.s, .bool x.h] 34)) (.cells #[.int .i64 0, .int .i64 0, .int .i64 0, .int .i64 0, .int .i64 0, .int .i64 0, .bool false] 34)
  simp only [World.size_alloc] at nb1
  have nz1 : w.heap.size + 1 < ((w.alloc (.cells #[.int .i64 x.c, .int .i64 x.t, .int .i64 x.m, .int .i64 x.u, .int .i64 x.e, .int .i64 x.s, .bool x.h] 34)).alloc (.cells #[.int .i64 0, .int .i64 0, .int .i64 0, .int .i64 0, .int .i64 0, .int .i64 0, .bool false] 34)).heap.size := by simp only [World.size_alloc]; omega
  have q_1 := q_0.trans (b.mono q_0.size)
  clear q_0
  clear b
  have S_1 := Lib.hid nb0
  have Sz_1 := nz0
  clear nb0 nz0
  have Sc0_1 := blk_cell S_1.out 0
  have Sc1_1 := blk_cell S_1.out 1
  have Sc2_1 := blk_cell S_1.out 2
  have Sc3_1 := blk_cell S_1.out 3
  have Sc4_1 := blk_cell S_1.out 4
  have Sc5_1 := blk_cell S_1.out 5
  have Sc6_1 := blk_cell S_1.out 6
  have R_1 := Lib.hid nb1
  have Rz_1 := nz1
  clear nb1 nz1
  have Rc0_1 := blk_cell R_1.out 0
  have Rc1_1 := blk_cell R_1.out 1
  have Rc2_1 := blk_cell R_1.out 2
  have Rc3_1 := blk_cell R_1.out 3
  have Rc4_1 := blk_cell R_1.out 4
  have Rc5_1 := blk_cell R_1.out 5
  have Rc6_1 := blk_cell R_1.out 6
  generalize ((w.alloc (.cells #[.int .i64 x.c, .int .i64 x.t, .int .i64 x.m, .int .i64 x.u, .int .i64 x.e, .int .i64 x.s, .bool x.h] 34)).alloc (.cells #[.int .i64 0, .int .i64 0, .int .i64 0, .int .i64 0, .int .i64 0, .int .i64 0, .bool false] 34)) = V1 at q_1 S_1 Sz_1 Sc0_1 Sc1_1 Sc2_1 Sc3_1 Sc4_1 Sc5_1 Sc6_1 R_1 Rz_1 Rc0_1 Rc1_1 Rc2_1 Rc3_1 Rc4_1 Rc5_1 Rc6_1 ⊢
  refine (check_yes x m _ HM.out HV.out).mono ?_
  rintro e V2 ⟨rfl, b⟩
  have S_2 := Lib.hid ((b.block _ Sz_1).trans S_1.out)
  have Sz_2 := Nat.lt_of_lt_of_le Sz_1 b.size
  have Sc0_2 := blk_cell S_2.out 0
  have Sc1_2 := blk_cell S_2.out 1
  have Sc2_2 := blk_cell S_2.out 2
  have Sc3_2 := blk_cell S_2.out 3
  have Sc4_2 := blk_cell S_2.out 4
  have Sc5_2 := blk_cell S_2.out 5
  have Sc6_2 := blk_cell S_2.out 6
  have R_2 := Lib.hid ((b.block _ Rz_1).trans R_1.out)
  have Rz_2 := Nat.lt_of_lt_of_le Rz_1 b.size
  have Rc0_2 := blk_cell R_2.out 0
  have Rc1_2 := blk_cell R_2.out 1
  have Rc2_2 := blk_cell R_2.out 2
  have Rc3_2 := blk_cell R_2.out 3
  have Rc4_2 := blk_cell R_2.out 4
  have Rc5_2 := blk_cell R_2.out 5
  have Rc6_2 := blk_cell R_2.out 6
  have q_2 := q_1.trans (b.mono q_1.size)
  clear S_1 Sz_1 Sc0_1 Sc1_1 Sc2_1 Sc3_1 Sc4_1 Sc5_1 Sc6_1 R_1 Rz_1 Rc0_1 Rc1_1 Rc2_1 Rc3_1 Rc4_1 Rc5_1 Rc6_1 q_1
  clear b
  have fS0 := blk_free S_2.out 0
  have fS1 := blk_free S_2.out 1
  have fS2 := blk_free S_2.out 2
  have fS3 := blk_free S_2.out 3
  have fS4 := blk_free S_2.out 4
  have fS5 := blk_free S_2.out 5
  have fS6 := blk_free S_2.out 6
  have fR0 := blk_free R_2.out 0
  have fR1 := blk_free R_2.out 1
  have fR2 := blk_free R_2.out 2
  have fR3 := blk_free R_2.out 3
  have fR4 := blk_free R_2.out 4
  have fR5 := blk_free R_2.out 5
  have fR6 := blk_free R_2.out 6
  have NE : w.heap.size + 1 ≠ w.heap.size := by omega
  have NE2 := NE.symm
  go_wp2_with fail
  refine (lose_l x y m HY.out w.heap.size _ HM.out HV.out S_2.out).mono ?_
  rintro e Y1 ⟨rfl, kS, hG⟩
  have S_3 := Lib.hid kS
  have R_3 := Lib.hid ((hG.block (w.heap.size + 1) Rz_2 (by simp)).trans R_2.out)
  have q_3 := q_2.grown hG q_2.size (fun j e => by cases e; exact Nat.le_refl _)
  clear kS hG q_2 S_2 R_2 Sz_2 Rz_2 Sc0_2 Sc1_2 Sc2_2 Sc3_2 Sc4_2 Sc5_2 Sc6_2 Rc0_2 Rc1_2 Rc2_2 Rc3_2 Rc4_2 Rc5_2 Rc6_2 fS0 fS1 fS2 fS3 fS4 fS5 fS6 fR0 fR1 fR2 fR3 fR4 fR5 fR6
  have Sz_3 := blk_lt S_3.out
  have Sc0_3 := blk_cell S_3.out 0
  have Sc1_3 := blk_cell S_3.out 1
  have Sc2_3 := blk_cell S_3.out 2
  have Sc3_3 := blk_cell S_3.out 3
  have Sc4_3 := blk_cell S_3.out 4
  have Sc5_3 := blk_cell S_3.out 5
  have Sc6_3 := blk_cell S_3.out 6
  have Rz_3 := blk_lt R_3.out
  have Rc0_3 := blk_cell R_3.out 0
  have Rc1_3 := blk_cell R_3.out 1
  have Rc2_3 := blk_cell R_3.out 2
  have Rc3_3 := blk_cell R_3.out 3
  have Rc4_3 := blk_cell R_3.out 4
  have Rc5_3 := blk_cell R_3.out 5
  have Rc6_3 := blk_cell R_3.out 6
  have fS0 := blk_free S_3.out 0
  have fS1 := blk_free S_3.out 1
  have fS2 := blk_free S_3.out 2
  have fS3 := blk_free S_3.out 3
  have fS4 := blk_free S_3.out 4
  have fS5 := blk_free S_3.out 5
  have fS6 := blk_free S_3.out 6
  have fR0 := blk_free R_3.out 0
  have fR1 := blk_free R_3.out 1
  have fR2 := blk_free R_3.out 2
  have fR3 := blk_free R_3.out 3
  have fR4 := blk_free R_3.out 4
  have fR5 := blk_free R_3.out 5
  have fR6 := blk_free R_3.out 6
  have QY := Lib.hid q_3
  clear S_3 R_3
  go_wp2
  refine bodyPost_ret (v := .tuple #[.agg #[.int .i64 y.c, .int .i64 y.t, .int .i64 y.m, .int .i64 y.u, .int .i64 y.e, .int .i64 y.s, .bool y.h], .int .i64 0]) (by simp [results, Try.results17, go_sem, *]) rfl ⟨rfl, ?_⟩
  (repeat' (first | (with_reducible exact QY.out) | (with_reducible exact Below.refl _ _) | (with_reducible refine Below.alloc ?_ ?_ _) | (with_reducible refine Below.setCell ?_ ?_ _) | (with_reducible refine Below.drew ?_) | (with_reducible refine below_drewN ?_ _) | omega | (dsimp only; omega) | (simp; done) | (simp; omega)))

set_option maxRecDepth 100000 in
set_option maxHeartbeats 2000000 in
theorem timeout_e (x : CS) (m E : Int) (w : World) (hE : cE x m = E) (hne : E ≠ 0) :
    Calls Try.prog 19 #[.agg #[.int .i64 x.c, .int .i64 x.t, .int .i64 x.m, .int .i64 x.u, .int .i64 x.e, .int .i64 x.s, .bool x.h], .int .i64 m] w fun e w' => e = .returned (.tuple #[.agg #[.int .i64 0, .int .i64 0, .int .i64 0, .int .i64 0, .int .i64 0, .int .i64 0, .bool false], .int .i64 E]) ∧ Below w.heap.size w w' := by
  have HE := Lib.hid hE
  have e1 : (E != 0) = true := by rw [bne_iff_ne]; exact hne
  have e2 : (E == 0) = false := by rw [beq_eq_false_iff_ne]; exact hne
  clear hE hne
  have q_0 := Below.refl w.heap.size w
  go_enter Try.func19, Try.ntmps19
  go_wp2_with fail
  have b : Below w.heap.size w ((w.alloc (.cells #[.int .i64 x.c, .int .i64 x.t, .int .i64 x.m, .int .i64 x.u, .int .i64 x.e, .int .i64 x.s, .bool x.h] 34)).alloc (.cells #[.int .i64 0, .int .i64 0, .int .i64 0, .int .i64 0, .int .i64 0, .int .i64 0, .bool false] 34)) := (((Below.refl _ w).alloc (Nat.le_refl _) (.cells #[.int .i64 x.c, .int .i64 x.t, .int .i64 x.m, .int .i64 x.u, .int .i64 x.e, .int .i64 x.s, .bool x.h] 34)).alloc (by simp only [World.size_alloc]; omega) (.cells #[.int .i64 0, .int .i64 0, .int .i64 0, .int .i64 0, .int .i64 0, .int .i64 0, .bool false] 34))
  have nb0 := blk_new w (.cells #[.int .i64 x.c, .int .i64 x.t, .int .i64 x.m, .int .i64 x.u, .int .i64 x.e, .int .i64 x.s, .bool x.h] 34)
  have nb0 := (Below.heap_alloc (w.alloc (.cells #[.int .i64 x.c, .int .i64 x.t, .int .i64 x.m, .int .i64 x.u, .int .i64 x.e, .int .i64 x.s, .bool x.h] 34)) (.cells #[.int .i64 0, .int .i64 0, .int .i64 0, .int .i64 0, .int .i64 0, .int .i64 0, .bool false] 34) (w.heap.size) (by simp only [World.size_alloc]; omega)).trans nb0
  have nz0 : w.heap.size < ((w.alloc (.cells #[.int .i64 x.c, .int .i64 x.t, .int .i64 x.m, .int .i64 x.u, .int .i64 x.e, .int .i64 x.s, .bool x.h] 34)).alloc (.cells #[.int .i64 0, .int .i64 0, .int .i64 0, .int .i64 0, .int .i64 0, .int .i64 0, .bool false] 34)).heap.size := by simp only [World.size_alloc]; omega
  have nb1 := blk_new (w.alloc (.cells #[.int .i64 x.c, .int .i64 x.t, .int .i64 x.m, .int .i64 x.u, .int .i64 x.e, .int .i64 x.s, .bool x.h] 34)) (.cells #[.int .i64 0, .int .i64 0, .int .i64 0, .int .i64 0, .int .i64 0, .int .i64 0, .bool false] 34)
  simp only [World.size_alloc] at nb1
  have nz1 : w.heap.size + 1 < ((w.alloc (.cells #[.int .i64 x.c, .int .i64 x.t, .int .i64 x.m, .int .i64 x.u, .int .i64 x.e, .int .i64 x.s, .bool x.h] 34)).alloc (.cells #[.int .i64 0, .int .i64 0, .int .i64 0, .int .i64 0, .int .i64 0, .int .i64 0, .bool false] 34)).heap.size := by simp only [World.size_alloc]; omega
  have q_1 := q_0.trans (b.mono q_0.size)
  clear q_0
  clear b
  have S_1 := Lib.hid nb0
  have Sz_1 := nz0
  clear nb0 nz0
  have Sc0_1 := blk_cell S_1.out 0
  have Sc1_1 := blk_cell S_1.out 1
  have Sc2_1 := blk_cell S_1.out 2
  have Sc3_1 := blk_cell S_1.out 3
  have Sc4_1 := blk_cell S_1.out 4
  have Sc5_1 := blk_cell S_1.out 5
  have Sc6_1 := blk_cell S_1.out 6
  have R_1 := Lib.hid nb1
  have Rz_1 := nz1
  clear nb1 nz1
  have Rc0_1 := blk_cell R_1.out 0
  have Rc1_1 := blk_cell R_1.out 1
  have Rc2_1 := blk_cell R_1.out 2
  have Rc3_1 := blk_cell R_1.out 3
  have Rc4_1 := blk_cell R_1.out 4
  have Rc5_1 := blk_cell R_1.out 5
  have Rc6_1 := blk_cell R_1.out 6
  generalize ((w.alloc (.cells #[.int .i64 x.c, .int .i64 x.t, .int .i64 x.m, .int .i64 x.u, .int .i64 x.e, .int .i64 x.s, .bool x.h] 34)).alloc (.cells #[.int .i64 0, .int .i64 0, .int .i64 0, .int .i64 0, .int .i64 0, .int .i64 0, .bool false] 34)) = V1 at q_1 S_1 Sz_1 Sc0_1 Sc1_1 Sc2_1 Sc3_1 Sc4_1 Sc5_1 Sc6_1 R_1 Rz_1 Rc0_1 Rc1_1 Rc2_1 Rc3_1 Rc4_1 Rc5_1 Rc6_1 ⊢
  refine (check_l x m E HE.out _).mono ?_
  rintro e V2 ⟨rfl, b⟩
  have S_2 := Lib.hid ((b.block _ Sz_1).trans S_1.out)
  have Sz_2 := Nat.lt_of_lt_of_le Sz_1 b.size
  have Sc0_2 := blk_cell S_2.out 0
  have Sc1_2 := blk_cell S_2.out 1
  have Sc2_2 := blk_cell S_2.out 2
  have Sc3_2 := blk_cell S_2.out 3
  have Sc4_2 := blk_cell S_2.out 4
  have Sc5_2 := blk_cell S_2.out 5
  have Sc6_2 := blk_cell S_2.out 6
  have R_2 := Lib.hid ((b.block _ Rz_1).trans R_1.out)
  have Rz_2 := Nat.lt_of_lt_of_le Rz_1 b.size
  have Rc0_2 := blk_cell R_2.out 0
  have Rc1_2 := blk_cell R_2.out 1
  have Rc2_2 := blk_cell R_2.out 2
  have Rc3_2 := blk_cell R_2.out 3
  have Rc4_2 := blk_cell R_2.out 4
  have Rc5_2 := blk_cell R_2.out 5
  have Rc6_2 := blk_cell R_2.out 6
  have q_2 := q_1.trans (b.mono q_1.size)
  clear S_1 Sz_1 Sc0_1 Sc1_1 Sc2_1 Sc3_1 Sc4_1 Sc5_1 Sc6_1 R_1 Rz_1 Rc0_1 Rc1_1 Rc2_1 Rc3_1 Rc4_1 Rc5_1 Rc6_1 q_1
  clear b
  have fS0 := blk_free S_2.out 0
  have fS1 := blk_free S_2.out 1
  have fS2 := blk_free S_2.out 2
  have fS3 := blk_free S_2.out 3
  have fS4 := blk_free S_2.out 4
  have fS5 := blk_free S_2.out 5
  have fS6 := blk_free S_2.out 6
  have fR0 := blk_free R_2.out 0
  have fR1 := blk_free R_2.out 1
  have fR2 := blk_free R_2.out 2
  have fR3 := blk_free R_2.out 3
  have fR4 := blk_free R_2.out 4
  have fR5 := blk_free R_2.out 5
  have fR6 := blk_free R_2.out 6
  have QY := Lib.hid q_2
  clear S_2 R_2
  go_wp2
  refine bodyPost_ret (v := .tuple #[.agg #[.int .i64 0, .int .i64 0, .int .i64 0, .int .i64 0, .int .i64 0, .int .i64 0, .bool false], .int .i64 E]) (by simp [results, Try.results19, go_sem, *]) rfl ⟨rfl, ?_⟩
  (repeat' (first | (with_reducible exact QY.out) | (with_reducible exact Below.refl _ _) | (with_reducible refine Below.alloc ?_ ?_ _) | (with_reducible refine Below.setCell ?_ ?_ _) | (with_reducible refine Below.drew ?_) | (with_reducible refine below_drewN ?_ _) | omega | (dsimp only; omega) | (simp; done) | (simp; omega)))

set_option maxRecDepth 100000 in
set_option maxHeartbeats 2000000 in
theorem timeout_ok (x y : CS) (m : Int) (w : World) (hM : MV m) (hV : CV x m) (hy : ls x m = y) :
    Calls Try.prog 19 #[.agg #[.int .i64 x.c, .int .i64 x.t, .int .i64 x.m, .int .i64 x.u, .int .i64 x.e, .int .i64 x.s, .bool x.h], .int .i64 m] w fun e w' => e = .returned (.tuple #[.agg #[.int .i64 m, .int .i64 y.t, .int .i64 y.m, .int .i64 y.u, .int .i64 y.e, .int .i64 y.s, .bool y.h], .int .i64 0]) ∧ Below w.heap.size w w' := by
  have HM := Lib.hid hM
  have HV := Lib.hid hV
  have HY := Lib.hid hy
  clear hM hV hy
  have q_0 := Below.refl w.heap.size w
  go_enter Try.func19, Try.ntmps19
  go_wp2_with fail
  have b : Below w.heap.size w ((w.alloc (.cells #[.int .i64 x.c, .int .i64 x.t, .int .i64 x.m, .int .i64 x.u, .int .i64 x.e, .int .i64 x.s, .bool x.h] 34)).alloc (.cells #[.int .i64 0, .int .i64 0, .int .i64 0, .int .i64 0, .int .i64 0, .int .i64 0, .bool false] 34)) := (((Below.refl _ w).alloc (Nat.le_refl _) (.cells #[.int .i64 x.c, .int .i64 x.t, .int .i64 x.m, .int .i64 x.u, .int .i64 x.e, .int .i64 x.s, .bool x.h] 34)).alloc (by simp only [World.size_alloc]; omega) (.cells #[.int .i64 0, .int .i64 0, .int .i64 0, .int .i64 0, .int .i64 0, .int .i64 0, .bool false] 34))
  have nb0 := blk_new w (.cells #[.int .i64 x.c, .int .i64 x.t, .int .i64 x.m, .int .i64 x.u, .int .i64 x.e, .int .i64 x.s, .bool x.h] 34)
  have nb0 := (Below.heap_alloc (w.alloc (.cells #[.int .i64 x.c, .int .i64 x.t, .int .i64 x.m, .int .i64 x.u, .int .i64 x.e, .int .i64 x.s, .bool x.h] 34)) (.cells #[.int .i64 0, .int .i64 0, .int .i64 0, .int .i64 0, .int .i64 0, .int .i64 0, .bool false] 34) (w.heap.size) (by simp only [World.size_alloc]; omega)).trans nb0
  have nz0 : w.heap.size < ((w.alloc (.cells #[.int .i64 x.c, .int .i64 x.t, .int .i64 x.m, .int .i64 x.u, .int .i64 x.e, .int .i64 x.s, .bool x.h] 34)).alloc (.cells #[.int .i64 0, .int .i64 0, .int .i64 0, .int .i64 0, .int .i64 0, .int .i64 0, .bool false] 34)).heap.size := by simp only [World.size_alloc]; omega
  have nb1 := blk_new (w.alloc (.cells #[.int .i64 x.c, .int .i64 x.t, .int .i64 x.m, .int .i64 x.u, .int .i64 x.e, .int .i64 x.s, .bool x.h] 34)) (.cells #[.int .i64 0, .int .i64 0, .int .i64 0, .int .i64 0, .int .i64 0, .int .i64 0, .bool false] 34)
  simp only [World.size_alloc] at nb1
  have nz1 : w.heap.size + 1 < ((w.alloc (.cells #[.int .i64 x.c, .int .i64 x.t, .int .i64 x.m, .int .i64 x.u, .int .i64 x.e, .int .i64 x.s, .bool x.h] 34)).alloc (.cells #[.int .i64 0, .int .i64 0, .int .i64 0, .int .i64 0, .int .i64 0, .int .i64 0, .bool false] 34)).heap.size := by simp only [World.size_alloc]; omega
  have q_1 := q_0.trans (b.mono q_0.size)
  clear q_0
  clear b
  have S_1 := Lib.hid nb0
  have Sz_1 := nz0
  clear nb0 nz0
  have Sc0_1 := blk_cell S_1.out 0
  have Sc1_1 := blk_cell S_1.out 1
  have Sc2_1 := blk_cell S_1.out 2
  have Sc3_1 := blk_cell S_1.out 3
  have Sc4_1 := blk_cell S_1.out 4
  have Sc5_1 := blk_cell S_1.out 5
  have Sc6_1 := blk_cell S_1.out 6
  have R_1 := Lib.hid nb1
  have Rz_1 := nz1
  clear nb1 nz1
  have Rc0_1 := blk_cell R_1.out 0
  have Rc1_1 := blk_cell R_1.out 1
  have Rc2_1 := blk_cell R_1.out 2
  have Rc3_1 := blk_cell R_1.out 3
  have Rc4_1 := blk_cell R_1.out 4
  have Rc5_1 := blk_cell R_1.out 5
  have Rc6_1 := blk_cell R_1.out 6
  generalize ((w.alloc (.cells #[.int .i64 x.c, .int .i64 x.t, .int .i64 x.m, .int .i64 x.u, .int .i64 x.e, .int .i64 x.s, .bool x.h] 34)).alloc (.cells #[.int .i64 0, .int .i64 0, .int .i64 0, .int .i64 0, .int .i64 0, .int .i64 0, .bool false] 34)) = V1 at q_1 S_1 Sz_1 Sc0_1 Sc1_1 Sc2_1 Sc3_1 Sc4_1 Sc5_1 Sc6_1 R_1 Rz_1 Rc0_1 Rc1_1 Rc2_1 Rc3_1 Rc4_1 Rc5_1 Rc6_1 ⊢
  refine (check_yes x m _ HM.out HV.out).mono ?_
  rintro e V2 ⟨rfl, b⟩
  have S_2 := Lib.hid ((b.block _ Sz_1).trans S_1.out)
  have Sz_2 := Nat.lt_of_lt_of_le Sz_1 b.size
  have Sc0_2 := blk_cell S_2.out 0
  have Sc1_2 := blk_cell S_2.out 1
  have Sc2_2 := blk_cell S_2.out 2
  have Sc3_2 := blk_cell S_2.out 3
  have Sc4_2 := blk_cell S_2.out 4
  have Sc5_2 := blk_cell S_2.out 5
  have Sc6_2 := blk_cell S_2.out 6
  have R_2 := Lib.hid ((b.block _ Rz_1).trans R_1.out)
  have Rz_2 := Nat.lt_of_lt_of_le Rz_1 b.size
  have Rc0_2 := blk_cell R_2.out 0
  have Rc1_2 := blk_cell R_2.out 1
  have Rc2_2 := blk_cell R_2.out 2
  have Rc3_2 := blk_cell R_2.out 3
  have Rc4_2 := blk_cell R_2.out 4
  have Rc5_2 := blk_cell R_2.out 5
  have Rc6_2 := blk_cell R_2.out 6
  have q_2 := q_1.trans (b.mono q_1.size)
  clear S_1 Sz_1 Sc0_1 Sc1_1 Sc2_1 Sc3_1 Sc4_1 Sc5_1 Sc6_1 R_1 Rz_1 Rc0_1 Rc1_1 Rc2_1 Rc3_1 Rc4_1 Rc5_1 Rc6_1 q_1
  clear b
  have fS0 := blk_free S_2.out 0
  have fS1 := blk_free S_2.out 1
  have fS2 := blk_free S_2.out 2
  have fS3 := blk_free S_2.out 3
  have fS4 := blk_free S_2.out 4
  have fS5 := blk_free S_2.out 5
  have fS6 := blk_free S_2.out 6
  have fR0 := blk_free R_2.out 0
  have fR1 := blk_free R_2.out 1
  have fR2 := blk_free R_2.out 2
  have fR3 := blk_free R_2.out 3
  have fR4 := blk_free R_2.out 4
  have fR5 := blk_free R_2.out 5
  have fR6 := blk_free R_2.out 6
  have NE : w.heap.size + 1 ≠ w.heap.size := by omega
  have NE2 := NE.symm
  go_wp2_with fail
  refine (lose_l x y m HY.out w.heap.size _ HM.out HV.out S_2.out).mono ?_
  rintro e Y1 ⟨rfl, kS, hG⟩
  have S_3 := Lib.hid kS
  have R_3 := Lib.hid ((hG.block (w.heap.size + 1) Rz_2 (by simp)).trans R_2.out)
  have q_3 := q_2.grown hG q_2.size (fun j e => by cases e; exact Nat.le_refl _)
  clear kS hG q_2 S_2 R_2 Sz_2 Rz_2 Sc0_2 Sc1_2 Sc2_2 Sc3_2 Sc4_2 Sc5_2 Sc6_2 Rc0_2 Rc1_2 Rc2_2 Rc3_2 Rc4_2 Rc5_2 Rc6_2 fS0 fS1 fS2 fS3 fS4 fS5 fS6 fR0 fR1 fR2 fR3 fR4 fR5 fR6
  have Sz_3 := blk_lt S_3.out
  have Sc0_3 := blk_cell S_3.out 0
  have Sc1_3 := blk_cell S_3.out 1
  have Sc2_3 := blk_cell S_3.out 2
  have Sc3_3 := blk_cell S_3.out 3
  have Sc4_3 := blk_cell S_3.out 4
  have Sc5_3 := blk_cell S_3.out 5
  have Sc6_3 := blk_cell S_3.out 6
  have Rz_3 := blk_lt R_3.out
  have Rc0_3 := blk_cell R_3.out 0
  have Rc1_3 := blk_cell R_3.out 1
  have Rc2_3 := blk_cell R_3.out 2
  have Rc3_3 := blk_cell R_3.out 3
  have Rc4_3 := blk_cell R_3.out 4
  have Rc5_3 := blk_cell R_3.out 5
  have Rc6_3 := blk_cell R_3.out 6
  have fS0 := blk_free S_3.out 0
  have fS1 := blk_free S_3.out 1
  have fS2 := blk_free S_3.out 2
  have fS3 := blk_free S_3.out 3
  have fS4 := blk_free S_3.out 4
  have fS5 := blk_free S_3.out 5
  have fS6 := blk_free S_3.out 6
  have fR0 := blk_free R_3.out 0
  have fR1 := blk_free R_3.out 1
  have fR2 := blk_free R_3.out 2
  have fR3 := blk_free R_3.out 3
  have fR4 := blk_free R_3.out 4
  have fR5 := blk_free R_3.out 5
  have fR6 := blk_free R_3.out 6
  have QY := Lib.hid q_3
  clear S_3 R_3
  go_wp2
  refine bodyPost_ret (v := .tuple #[.agg #[.int .i64 m, .int .i64 y.t, .int .i64 y.m, .int .i64 y.u, .int .i64 y.e, .int .i64 y.s, .bool y.h], .int .i64 0]) (by simp [results, Try.results19, go_sem, *]) rfl ⟨rfl, ?_⟩
  (repeat' (first | (with_reducible exact QY.out) | (with_reducible exact Below.refl _ _) | (with_reducible refine Below.alloc ?_ ?_ _) | (with_reducible refine Below.setCell ?_ ?_ _) | (with_reducible refine Below.drew ?_) | (with_reducible refine below_drewN ?_ _) | omega | (dsimp only; omega) | (simp; done) | (simp; omega)))

end Go.Proofs.Ythkmphngfndebaa
