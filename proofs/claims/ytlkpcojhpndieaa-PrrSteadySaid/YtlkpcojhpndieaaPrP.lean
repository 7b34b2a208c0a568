/- Prr: the calls of the program. -/
import Derived.Test.YtlkpcojhpndieaaPrC
import Derived.Deep.RegionHeld3
namespace Go.Proofs.Ytlkpcojhpndieaa
open Go.RowKit Go.Proofs.Ytlkpcojhpndieaa.Pr

set_option maxHeartbeats 2000000 in
theorem start_ok (f t : Int) (w : World) (h : OV f ∧ OV t) :
    Calls Try.prog 11 #[.int .i64 f, .int .i64 t] w fun e w' => e = .returned (.tuple #[.agg #[.int .i64 (t), .int .i64 (f), .int .i64 (0), .int .i64 (0)], .int .i64 0]) ∧ Below w.heap.size w w' := by
  have HA : Hid (InR 1 1073741824 [f, t]) := Lib.hid (inR2.2 h)
  clear h
  go_enter Try.func11, Try.ntmps11
  go_wp2_with fail
  refine (wn_yes 1 1073741824 [f, t] _ _ _ _ _ _ rfl rfl (by simp) (by simp) HA.out).mono ?_
  rintro e w' ⟨rfl, rfl⟩
  go_wp2
  refine bodyPost_ret (v := .tuple #[.agg #[.int .i64 (t), .int .i64 (f), .int .i64 (0), .int .i64 (0)], .int .i64 0]) (by simp [results, Try.results11, go_sem, *]) rfl ⟨rfl, ?_⟩
  (repeat' (first | (with_reducible exact Below.refl _ _) | (with_reducible refine Below.alloc ?_ ?_ _) | (with_reducible refine Below.setCell ?_ ?_ _) | (with_reducible refine Below.drew ?_) | (with_reducible refine below_drewN ?_ _) | omega | (dsimp only; omega) | (simp; done) | (simp; omega)))

set_option maxHeartbeats 2000000 in
theorem start_no (f t : Int) (w : World) (h : ¬ (OV f ∧ OV t)) :
    Calls Try.prog 11 #[.int .i64 f, .int .i64 t] w fun e w' => e = .returned (.tuple #[.agg #[.int .i64 0, .int .i64 0, .int .i64 0, .int .i64 0], .int .i64 4]) ∧ Below w.heap.size w w' := by
  have HA : Hid (¬ InR 1 1073741824 [f, t]) := Lib.hid (fun hb => h (inR2.1 hb))
  clear h
  go_enter Try.func11, Try.ntmps11
  go_wp2_with fail
  refine (wn_no 1 1073741824 [f, t] _ _ _ _ _ _ rfl rfl (by simp) (by simp) HA.out).mono ?_
  rintro e w' ⟨rfl, rfl⟩
  go_wp2
  refine bodyPost_ret (v := .tuple #[.agg #[.int .i64 0, .int .i64 0, .int .i64 0, .int .i64 0], .int .i64 4]) (by simp [results, Try.results11, go_sem, *]) rfl ⟨rfl, ?_⟩
  (repeat' (first | (with_reducible exact Below.refl _ _) | (with_reducible refine Below.alloc ?_ ?_ _) | (with_reducible refine Below.setCell ?_ ?_ _) | (with_reducible refine Below.drew ?_) | (with_reducible refine below_drewN ?_ _) | omega | (dsimp only; omega) | (simp; done) | (simp; omega)))

set_option maxHeartbeats 2000000 in
theorem ack_s (t f d o n p m : Int) (w : World) (hS : ¬ SV t f d o) :
    Calls Try.prog 7 #[.agg #[.int .i64 t, .int .i64 f, .int .i64 d, .int .i64 o], .int .i64 n, .int .i64 p, .int .i64 m] w fun e w' => e = .returned (.tuple #[.agg #[.int .i64 0, .int .i64 0, .int .i64 0, .int .i64 0], .int .i64 0, .int .i64 171]) ∧ Below w.heap.size w w' := by
  have q_0 := Below.refl w.heap.size w
  go_enter Try.func7, Try.ntmps7
  go_wp2_with fail
  have b : Below w.heap.size w ((w.alloc (.cells #[.int .i64 t, .int .i64 f, .int .i64 d, .int .i64 o] 24)).alloc (.cells #[.int .i64 0, .int .i64 0, .int .i64 0, .int .i64 0] 24)) := (((Below.refl _ w).alloc (Nat.le_refl _) (.cells #[.int .i64 t, .int .i64 f, .int .i64 d, .int .i64 o] 24)).alloc (by simp only [World.size_alloc]; omega) (.cells #[.int .i64 0, .int .i64 0, .int .i64 0, .int .i64 0] 24))
  have nb0 := blk_new w (.cells #[.int .i64 t, .int .i64 f, .int .i64 d, .int .i64 o] 24)
  have nb0 := (Below.heap_alloc (w.alloc (.cells #[.int .i64 t, .int .i64 f, .int .i64 d, .int .i64 o] 24)) (.cells #[.int .i64 0, .int .i64 0, .int .i64 0, .int .i64 0] 24) (w.heap.size) (by simp only [World.size_alloc]; omega)).trans nb0
  have nz0 : w.heap.size < ((w.alloc (.cells #[.int .i64 t, .int .i64 f, .int .i64 d, .int .i64 o] 24)).alloc (.cells #[.int .i64 0, .int .i64 0, .int .i64 0, .int .i64 0] 24)).heap.size := by simp only [World.size_alloc]; omega
  have nb1 := blk_new (w.alloc (.cells #[.int .i64 t, .int .i64 f, .int .i64 d, .int .i64 o] 24)) (.cells #[.int .i64 0, .int .i64 0, .int .i64 0, .int .i64 0] 24)
  simp only [World.size_alloc] at nb1
  have nz1 : w.heap.size + 1 < ((w.alloc (.cells #[.int .i64 t, .int .i64 f, .int .i64 d, .int .i64 o] 24)).alloc (.cells #[.int .i64 0, .int .i64 0, .int .i64 0, .int .i64 0] 24)).heap.size := by simp only [World.size_alloc]; omega
  have q_1 := q_0.trans (b.mono q_0.size)
  clear q_0
  clear b
  have S_1 := Lib.hid nb0
  have Sz_1 := nz0
  clear nb0 nz0
  have Sc0_1 := blk_cell S_1.out 0
  have Sc1_1 := blk_cell S_1.out 1
  have Sc2_1 := blk_cell S_1.out 2
  have Sc3_1 := blk_cell S_1.out 3
  have R_1 := Lib.hid nb1
  have Rz_1 := nz1
  clear nb1 nz1
  have Rc0_1 := blk_cell R_1.out 0
  have Rc1_1 := blk_cell R_1.out 1
  have Rc2_1 := blk_cell R_1.out 2
  have Rc3_1 := blk_cell R_1.out 3
  generalize ((w.alloc (.cells #[.int .i64 t, .int .i64 f, .int .i64 d, .int .i64 o] 24)).alloc (.cells #[.int .i64 0, .int .i64 0, .int .i64 0, .int .i64 0] 24)) = V1 at q_1 S_1 Sz_1 Sc0_1 Sc1_1 Sc2_1 Sc3_1 R_1 Rz_1 Rc0_1 Rc1_1 Rc2_1 Rc3_1 ⊢
  refine (smay_no t f d o _ hS).mono ?_
  rintro e V2 ⟨rfl, b⟩
  have S_2 := Lib.hid ((b.block _ Sz_1).trans S_1.out)
  have Sz_2 := Nat.lt_of_lt_of_le Sz_1 b.size
  have Sc0_2 := blk_cell S_2.out 0
  have Sc1_2 := blk_cell S_2.out 1
  have Sc2_2 := blk_cell S_2.out 2
  have Sc3_2 := blk_cell S_2.out 3
  have R_2 := Lib.hid ((b.block _ Rz_1).trans R_1.out)
  have Rz_2 := Nat.lt_of_lt_of_le Rz_1 b.size
  have Rc0_2 := blk_cell R_2.out 0
  have Rc1_2 := blk_cell R_2.out 1
  have Rc2_2 := blk_cell R_2.out 2
  have Rc3_2 := blk_cell R_2.out 3
  have q_2 := q_1.trans (b.mono q_1.size)
  clear S_1 Sz_1 Sc0_1 Sc1_1 Sc2_1 Sc3_1 R_1 Rz_1 Rc0_1 Rc1_1 Rc2_1 Rc3_1 q_1
  clear b
  have fS0 := blk_free S_2.out 0
  have fS1 := blk_free S_2.out 1
  have fS2 := blk_free S_2.out 2
  have fS3 := blk_free S_2.out 3
  have fR0 := blk_free R_2.out 0
  have fR1 := blk_free R_2.out 1
  have fR2 := blk_free R_2.out 2
  have fR3 := blk_free R_2.out 3
  have QY := Lib.hid q_2
  clear S_2 R_2
  go_wp2
  refine bodyPost_ret (v := .tuple #[.agg #[.int .i64 0, .int .i64 0, .int .i64 0, .int .i64 0], .int .i64 0, .int .i64 171]) (by simp [results, Try.results7, go_sem, *]) rfl ⟨rfl, ?_⟩
  (repeat' (first | (with_reducible exact QY.out) | (with_reducible exact Below.refl _ _) | (with_reducible refine Below.alloc ?_ ?_ _) | (with_reducible refine Below.setCell ?_ ?_ _) | (with_reducible refine Below.drew ?_) | (with_reducible refine below_drewN ?_ _) | omega | (dsimp only; omega) | (simp; done) | (simp; omega)))

set_option maxHeartbeats 2000000 in
theorem ack_a (t f d o n p m : Int) (w : World) (hS : SV t f d o) (hA : ¬ AV n p m) :
    Calls Try.prog 7 #[.agg #[.int .i64 t, .int .i64 f, .int .i64 d, .int .i64 o], .int .i64 n, .int .i64 p, .int .i64 m] w fun e w' => e = .returned (.tuple #[.agg #[.int .i64 0, .int .i64 0, .int .i64 0, .int .i64 0], .int .i64 0, .int .i64 4]) ∧ Below w.heap.size w w' := by
  by_cases hB : InR 0 1073741824 [n, p]
  · have HB := Lib.hid hB
    have HM : Hid (¬ InR 1 65535 [m]) := Lib.hid (fun hb => hA ⟨inR2.1 hB, inR1.1 hb⟩)
    clear hB hA
    have q_0 := Below.refl w.heap.size w
    go_enter Try.func7, Try.ntmps7
    go_wp2_with fail
    have b : Below w.heap.size w ((w.alloc (.cells #[.int .i64 t, .int .i64 f, .int .i64 d, .int .i64 o] 24)).alloc (.cells #[.int .i64 0, .int .i64 0, .int .i64 0, .int .i64 0] 24)) := (((Below.refl _ w).alloc (Nat.le_refl _) (.cells #[.int .i64 t, .int .i64 f, .int .i64 d, .int .i64 o] 24)).alloc (by simp only [World.size_alloc]; omega) (.cells #[.int .i64 0, .int .i64 0, .int .i64 0, .int .i64 0] 24))
    have nb0 := blk_new w (.cells #[.int .i64 t, .int .i64 f, .int .i64 d, .int .i64 o] 24)
    have nb0 := (Below.heap_alloc (w.alloc (.cells #[.int .i64 t, .int .i64 f, .int .i64 d, .int .i64 o] 24)) (.cells #[.int .i64 0, .int .i64 0, .int .i64 0, .int .i64 0] 24) (w.heap.size) (by simp only [World.size_alloc]; omega)).trans nb0
    have nz0 : w.heap.size < ((w.alloc (.cells #[.int .i64 t, .int .i64 f, .int .i64 d, .int .i64 o] 24)).alloc (.cells #[.int .i64 0, .int .i64 0, .int .i64 0, .int .i64 0] 24)).heap.size := by simp only [World.size_alloc]; omega
    have nb1 := blk_new (w.alloc (.cells #[.int .i64 t, .int .i64 f, .int .i64 d, .int .i64 o] 24)) (.cells #[.int .i64 0, .int .i64 0, .int .i64 0, .int .i64 0] 24)
    simp only [World.size_alloc] at nb1
    have nz1 : w.heap.size + 1 < ((w.alloc (.cells #[.int .i64 t, .int .i64 f, .int .i64 d, .int .i64 o] 24)).alloc (.cells #[.int .i64 0, .int .i64 0, .int .i64 0, .int .i64 0] 24)).heap.size := by simp only [World.size_alloc]; omega
    have q_1 := q_0.trans (b.mono q_0.size)
    clear q_0
    clear b
    have S_1 := Lib.hid nb0
    have Sz_1 := nz0
    clear nb0 nz0
    have Sc0_1 := blk_cell S_1.out 0
    have Sc1_1 := blk_cell S_1.out 1
    have Sc2_1 := blk_cell S_1.out 2
    have Sc3_1 := blk_cell S_1.out 3
    have R_1 := Lib.hid nb1
    have Rz_1 := nz1
    clear nb1 nz1
    have Rc0_1 := blk_cell R_1.out 0
    have Rc1_1 := blk_cell R_1.out 1
    have Rc2_1 := blk_cell R_1.out 2
    have Rc3_1 := blk_cell R_1.out 3
    generalize ((w.alloc (.cells #[.int .i64 t, .int .i64 f, .int .i64 d, .int .i64 o] 24)).alloc (.cells #[.int .i64 0, .int .i64 0, .int .i64 0, .int .i64 0] 24)) = V1 at q_1 S_1 Sz_1 Sc0_1 Sc1_1 Sc2_1 Sc3_1 R_1 Rz_1 Rc0_1 Rc1_1 Rc2_1 Rc3_1 ⊢
    refine (smay_yes t f d o _ hS).mono ?_
    rintro e V2 ⟨rfl, b⟩
    have S_2 := Lib.hid ((b.block _ Sz_1).trans S_1.out)
    have Sz_2 := Nat.lt_of_lt_of_le Sz_1 b.size
    have Sc0_2 := blk_cell S_2.out 0
    have Sc1_2 := blk_cell S_2.out 1
    have Sc2_2 := blk_cell S_2.out 2
    have Sc3_2 := blk_cell S_2.out 3
    have R_2 := Lib.hid ((b.block _ Rz_1).trans R_1.out)
    have Rz_2 := Nat.lt_of_lt_of_le Rz_1 b.size
    have Rc0_2 := blk_cell R_2.out 0
    have Rc1_2 := blk_cell R_2.out 1
    have Rc2_2 := blk_cell R_2.out 2
    have Rc3_2 := blk_cell R_2.out 3
    have q_2 := q_1.trans (b.mono q_1.size)
    clear S_1 Sz_1 Sc0_1 Sc1_1 Sc2_1 Sc3_1 R_1 Rz_1 Rc0_1 Rc1_1 Rc2_1 Rc3_1 q_1
    clear b
    have fS0 := blk_free S_2.out 0
    have fS1 := blk_free S_2.out 1
    have fS2 := blk_free S_2.out 2
    have fS3 := blk_free S_2.out 3
    have fR0 := blk_free R_2.out 0
    have fR1 := blk_free R_2.out 1
    have fR2 := blk_free R_2.out 2
    have fR3 := blk_free R_2.out 3
    go_wp2_with fail
    refine (wn_yes 0 1073741824 [n, p] _ _ _ _ _ _ rfl rfl (by simp) (by simp) HB.out).mono ?_
    rintro e w' ⟨rfl, rfl⟩
    go_wp2_with fail
    refine (wn_no 1 65535 [m] _ _ _ _ _ _ rfl rfl (by simp) (by simp) HM.out).mono ?_
    rintro e w' ⟨rfl, rfl⟩
    have QY := Lib.hid q_2
    clear S_2 R_2
    go_wp2
    refine bodyPost_ret (v := .tuple #[.agg #[.int .i64 0, .int .i64 0, .int .i64 0, .int .i64 0], .int .i64 0, .int .i64 4]) (by simp [results, Try.results7, go_sem, *]) rfl ⟨rfl, ?_⟩
    (repeat' (first | (with_reducible exact QY.out) | (with_reducible exact Below.refl _ _) | (with_reducible refine Below.alloc ?_ ?_ _) | (with_reducible refine Below.setCell ?_ ?_ _) | (with_reducible refine Below.drew ?_) | (with_reducible refine below_drewN ?_ _) | omega | (dsimp only; omega) | (simp; done) | (simp; omega)))
  · have HB := Lib.hid hB
    clear hB hA
    have q_0 := Below.refl w.heap.size w
    go_enter Try.func7, Try.ntmps7
    go_wp2_with fail
    have b : Below w.heap.size w ((w.alloc (.cells #[.int .i64 t, .int .i64 f, .int .i64 d, .int .i64 o] 24)).alloc (.cells #[.int .i64 0, .int .i64 0, .int .i64 0, .int .i64 0] 24)) := (((Below.refl _ w).alloc (Nat.le_refl _) (.cells #[.int .i64 t, .int .i64 f, .int .i64 d, .int .i64 o] 24)).alloc (by simp only [World.size_alloc]; omega) (.cells #[.int .i64 0, .int .i64 0, .int .i64 0, .int .i64 0] 24))
    have nb0 := blk_new w (.cells #[.int .i64 t, .int .i64 f, .int .i64 d, .int .i64 o] 24)
    have nb0 := (Below.heap_alloc (w.alloc (.cells #[.int .i64 t, .int .i64 f, .int .i64 d, .int .i64 o] 24)) (.cells #[.int .i64 0, .int .i64 0, .int .i64 0, .int .i64 0] 24) (w.heap.size) (by simp only [World.size_alloc]; omega)).trans nb0
    have nz0 : w.heap.size < ((w.alloc (.cells #[.int .i64 t, .int .i64 f, .int .i64 d, .int .i64 o] 24)).alloc (.cells #[.int .i64 0, .int .i64 0, .int .i64 0, .int .i64 0] 24)).heap.size := by simp only [World.size_alloc]; omega
    have nb1 := blk_new (w.alloc (.cells #[.int .i64 t, .int .i64 f, .int .i64 d, .int .i64 o] 24)) (.cells #[.int .i64 0, .int .i64 0, .int .i64 0, .int .i64 0] 24)
    simp only [World.size_alloc] at nb1
    have nz1 : w.heap.size + 1 < ((w.alloc (.cells #[.int .i64 t, .int .i64 f, .int .i64 d, .int .i64 o] 24)).alloc (.cells #[.int .i64 0, .int .i64 0, .int .i64 0, .int .i64 0] 24)).heap.size := by simp only [World.size_alloc]; omega
    have q_1 := q_0.trans (b.mono q_0.size)
    clear q_0
    clear b
    have S_1 := Lib.hid nb0
    have Sz_1 := nz0
    clear nb0 nz0
    have Sc0_1 := blk_cell S_1.out 0
    have Sc1_1 := blk_cell S_1.out 1
    have Sc2_1 := blk_cell S_1.out 2
    have Sc3_1 := blk_cell S_1.out 3
    have R_1 := Lib.hid nb1
    have Rz_1 := nz1
    clear nb1 nz1
    have Rc0_1 := blk_cell R_1.out 0
    have Rc1_1 := blk_cell R_1.out 1
    have Rc2_1 := blk_cell R_1.out 2
    have Rc3_1 := blk_cell R_1.out 3
    generalize ((w.alloc (.cells #[.int .i64 t, .int .i64 f, .int .i64 d, .int .i64 o] 24)).alloc (.cells #[.int .i64 0, .int .i64 0, .int .i64 0, .int .i64 0] 24)) = V1 at q_1 S_1 Sz_1 Sc0_1 Sc1_1 Sc2_1 Sc3_1 R_1 Rz_1 Rc0_1 Rc1_1 Rc2_1 Rc3_1 ⊢
    refine (smay_yes t f d o _ hS).mono ?_
    rintro e V2 ⟨rfl, b⟩
    have S_2 := Lib.hid ((b.block _ Sz_1).trans S_1.out)
    have Sz_2 := Nat.lt_of_lt_of_le Sz_1 b.size
    have Sc0_2 := blk_cell S_2.out 0
    have Sc1_2 := blk_cell S_2.out 1
    have Sc2_2 := blk_cell S_2.out 2
    have Sc3_2 := blk_cell S_2.out 3
    have R_2 := Lib.hid ((b.block _ Rz_1).trans R_1.out)
    have Rz_2 := Nat.lt_of_lt_of_le Rz_1 b.size
    have Rc0_2 := blk_cell R_2.out 0
    have Rc1_2 := blk_cell R_2.out 1
    have Rc2_2 := blk_cell R_2.out 2
    have Rc3_2 := blk_cell R_2.out 3
    have q_2 := q_1.trans (b.mono q_1.size)
    clear S_1 Sz_1 Sc0_1 Sc1_1 Sc2_1 Sc3_1 R_1 Rz_1 Rc0_1 Rc1_1 Rc2_1 Rc3_1 q_1
    clear b
    have fS0 := blk_free S_2.out 0
    have fS1 := blk_free S_2.out 1
    have fS2 := blk_free S_2.out 2
    have fS3 := blk_free S_2.out 3
    have fR0 := blk_free R_2.out 0
    have fR1 := blk_free R_2.out 1
    have fR2 := blk_free R_2.out 2
    have fR3 := blk_free R_2.out 3
    go_wp2_with fail
    refine (wn_no 0 1073741824 [n, p] _ _ _ _ _ _ rfl rfl (by simp) (by simp) HB.out).mono ?_
    rintro e w' ⟨rfl, rfl⟩
    have QY := Lib.hid q_2
    clear S_2 R_2
    go_wp2
    refine bodyPost_ret (v := .tuple #[.agg #[.int .i64 0, .int .i64 0, .int .i64 0, .int .i64 0], .int .i64 0, .int .i64 4]) (by simp [results, Try.results7, go_sem, *]) rfl ⟨rfl, ?_⟩
    (repeat' (first | (with_reducible exact QY.out) | (with_reducible exact Below.refl _ _) | (with_reducible refine Below.alloc ?_ ?_ _) | (with_reducible refine Below.setCell ?_ ?_ _) | (with_reducible refine Below.drew ?_) | (with_reducible refine below_drewN ?_ _) | omega | (dsimp only; omega) | (simp; done) | (simp; omega)))

set_option maxHeartbeats 2000000 in
theorem ack_ok (t f d o n p m : Int) (w : World) (hS : SV t f d o) (hA : AV n p m) :
    Calls Try.prog 7 #[.agg #[.int .i64 t, .int .i64 f, .int .i64 d, .int .i64 o], .int .i64 n, .int .i64 p, .int .i64 m] w fun e w' => e = .returned (.tuple #[.agg #[.int .i64 (t), .int .i64 (f), .int .i64 (min (d + n) 2147483648), .int .i64 (o)], .int .i64 (max (al t f (min (d + n) 2147483648) o n p m) 0), .int .i64 0]) ∧ Below w.heap.size w w' := by
  have HS := Lib.hid hS
  have HA := Lib.hid hA
  have HB : Hid (InR 0 1073741824 [n, p]) := Lib.hid (inR2.2 hA.1)
  have HM : Hid (InR 1 65535 [m]) := Lib.hid (inR1.2 hA.2)
  obtain ⟨⟨⟨t0, t1⟩, f0, f1⟩, ⟨d0, d1⟩, o0, o1⟩ := hS
  obtain ⟨⟨⟨n0, n1⟩, p0, p1⟩, m0, m1⟩ := hA
  obtain ⟨D, hD⟩ : ∃ D, min (d + n) 2147483648 = D := ⟨_, rfl⟩
  rw [hD]
  have HSD : Hid (SV t f D o) := Lib.hid ⟨⟨⟨t0, t1⟩, f0, f1⟩, ⟨by omega, by omega⟩, o0, o1⟩
  have q_0 := Below.refl w.heap.size w
  go_enter Try.func7, Try.ntmps7
  go_wp2_with fail
  have b : Below w.heap.size w ((w.alloc (.cells #[.int .i64 t, .int .i64 f, .int .i64 d, .int .i64 o] 24)).alloc (.cells #[.int .i64 0, .int .i64 0, .int .i64 0, .int .i64 0] 24)) := (((Below.refl _ w).alloc (Nat.le_refl _) (.cells #[.int .i64 t, .int .i64 f, .int .i64 d, .int .i64 o] 24)).alloc (by simp only [World.size_alloc]; omega) (.cells #[.int .i64 0, .int .i64 0, .int .i64 0, .int .i64 0] 24))
  have nb0 := blk_new w (.cells #[.int .i64 t, .int .i64 f, .int .i64 d, .int .i64 o] 24)
  have nb0 := (Below.heap_alloc (w.alloc (.cells #[.int .i64 t, .int .i64 f, .int .i64 d, .int .i64 o] 24)) (.cells #[.int .i64 0, .int .i64 0, .int .i64 0, .int .i64 0] 24) (w.heap.size) (by simp only [World.size_alloc]; omega)).trans nb0
  have nz0 : w.heap.size < ((w.alloc (.cells #[.int .i64 t, .int .i64 f, .int .i64 d, .int .i64 o] 24)).alloc (.cells #[.int .i64 0, .int .i64 0, .int .i64 0, .int .i64 0] 24)).heap.size := by simp only [World.size_alloc]; omega
  have nb1 := blk_new (w.alloc (.cells #[.int .i64 t, .int .i64 f, .int .i64 d, .int .i64 o] 24)) (.cells #[.int .i64 0, .int .i64 0, .int .i64 0, .int .i64 0] 24)
  simp only [World.size_alloc] at nb1
  have nz1 : w.heap.size + 1 < ((w.alloc (.cells #[.int .i64 t, .int .i64 f, .int .i64 d, .int .i64 o] 24)).alloc (.cells #[.int .i64 0, .int .i64 0, .int .i64 0, .int .i64 0] 24)).heap.size := by simp only [World.size_alloc]; omega
  have q_1 := q_0.trans (b.mono q_0.size)
  clear q_0
  clear b
  have S_1 := Lib.hid nb0
  have Sz_1 := nz0
  clear nb0 nz0
  have Sc0_1 := blk_cell S_1.out 0
  have Sc1_1 := blk_cell S_1.out 1
  have Sc2_1 := blk_cell S_1.out 2
  have Sc3_1 := blk_cell S_1.out 3
  have R_1 := Lib.hid nb1
  have Rz_1 := nz1
  clear nb1 nz1
  have Rc0_1 := blk_cell R_1.out 0
  have Rc1_1 := blk_cell R_1.out 1
  have Rc2_1 := blk_cell R_1.out 2
  have Rc3_1 := blk_cell R_1.out 3
  generalize ((w.alloc (.cells #[.int .i64 t, .int .i64 f, .int .i64 d, .int .i64 o] 24)).alloc (.cells #[.int .i64 0, .int .i64 0, .int .i64 0, .int .i64 0] 24)) = V1 at q_1 S_1 Sz_1 Sc0_1 Sc1_1 Sc2_1 Sc3_1 R_1 Rz_1 Rc0_1 Rc1_1 Rc2_1 Rc3_1 ⊢
  refine (smay_yes t f d o _ HS.out).mono ?_
  rintro e V2 ⟨rfl, b⟩
  have S_2 := Lib.hid ((b.block _ Sz_1).trans S_1.out)
  have Sz_2 := Nat.lt_of_lt_of_le Sz_1 b.size
  have Sc0_2 := blk_cell S_2.out 0
  have Sc1_2 := blk_cell S_2.out 1
  have Sc2_2 := blk_cell S_2.out 2
  have Sc3_2 := blk_cell S_2.out 3
  have R_2 := Lib.hid ((b.block _ Rz_1).trans R_1.out)
  have Rz_2 := Nat.lt_of_lt_of_le Rz_1 b.size
  have Rc0_2 := blk_cell R_2.out 0
  have Rc1_2 := blk_cell R_2.out 1
  have Rc2_2 := blk_cell R_2.out 2
  have Rc3_2 := blk_cell R_2.out 3
  have q_2 := q_1.trans (b.mono q_1.size)
  clear S_1 Sz_1 Sc0_1 Sc1_1 Sc2_1 Sc3_1 R_1 Rz_1 Rc0_1 Rc1_1 Rc2_1 Rc3_1 q_1
  clear b
  have fS0 := blk_free S_2.out 0
  have fS1 := blk_free S_2.out 1
  have fS2 := blk_free S_2.out 2
  have fS3 := blk_free S_2.out 3
  have fR0 := blk_free R_2.out 0
  have fR1 := blk_free R_2.out 1
  have fR2 := blk_free R_2.out 2
  have fR3 := blk_free R_2.out 3
  go_wp2_with fail
  refine (wn_yes 0 1073741824 [n, p] _ _ _ _ _ _ rfl rfl (by simp) (by simp) HB.out).mono ?_
  rintro e w' ⟨rfl, rfl⟩
  go_wp2_with fail
  refine (wn_yes 1 65535 [m] _ _ _ _ _ _ rfl rfl (by simp) (by simp) HM.out).mono ?_
  rintro e w' ⟨rfl, rfl⟩
  go_wp2_with fail
  clear fS0 fS1 fS2 fS3 fR0 fR1 fR2 fR3
  have ys : (V2.setCell ⟨w.heap.size, 2, none⟩ (.int .i64 D)).heap.size = V2.heap.size := by simp
  have yb : Below (V2.setCell ⟨w.heap.size, 2, none⟩ (.int .i64 D)).heap.size (V2.setCell ⟨w.heap.size, 2, none⟩ (.int .i64 D)) (((V2.setCell ⟨w.heap.size, 2, none⟩ (.int .i64 D)).alloc (.cells #[.int .i64 n, .int .i64 p] 3)).alloc (.cells #[.int .i64 m] 3)) := (((Below.refl (V2.setCell ⟨w.heap.size, 2, none⟩ (.int .i64 D)).heap.size (V2.setCell ⟨w.heap.size, 2, none⟩ (.int .i64 D))).alloc (by first | exact Nat.le_refl _ | (simp only [World.size_alloc]; omega)) (.cells #[.int .i64 n, .int .i64 p] 3)).alloc (by first | exact Nat.le_refl _ | (simp only [World.size_alloc]; omega)) (.cells #[.int .i64 m] 3))
  clear Sc0_2 Sc1_2 Sc2_2 Sc3_2 Rc0_2 Rc1_2 Rc2_2 Rc3_2
  have S_3 : Hid ((((V2.setCell ⟨w.heap.size, 2, none⟩ (.int .i64 D)).alloc (.cells #[.int .i64 n, .int .i64 p] 3)).alloc (.cells #[.int .i64 m] 3)).heap[w.heap.size]? = some (.cells #[.int .i64 t, .int .i64 f, .int .i64 D, .int .i64 o] 24 (0, 0))) := Lib.hid ((yb.block _ (by rw [ys]; exact Sz_2)).trans (blk_set S_2.out 2 (.int .i64 D)))
  have R_3 : Hid ((((V2.setCell ⟨w.heap.size, 2, none⟩ (.int .i64 D)).alloc (.cells #[.int .i64 n, .int .i64 p] 3)).alloc (.cells #[.int .i64 m] 3)).heap[w.heap.size + 1]? = some (.cells #[.int .i64 0, .int .i64 0, .int .i64 0, .int .i64 0] 24 (0, 0))) := Lib.hid ((yb.block _ (by rw [ys]; exact Rz_2)).trans (blk_other (i := 2) R_2.out (by first | assumption | omega) (.int .i64 D)))
  have q_3 : Below w.heap.size w (((V2.setCell ⟨w.heap.size, 2, none⟩ (.int .i64 D)).alloc (.cells #[.int .i64 n, .int .i64 p] 3)).alloc (.cells #[.int .i64 m] 3)) := below_after (q_2.setCell (p := ⟨w.heap.size, 2, none⟩) (by first | assumption | (dsimp only; omega)) (.int .i64 D)) yb
  clear yb ys q_2 S_2 Sz_2 R_2 Rz_2
  generalize (((V2.setCell ⟨w.heap.size, 2, none⟩ (.int .i64 D)).alloc (.cells #[.int .i64 n, .int .i64 p] 3)).alloc (.cells #[.int .i64 m] 3)) = Y1 at q_3 S_3 R_3 ⊢
  have Sz_3 := blk_lt S_3.out
  have Sc0_3 := blk_cell S_3.out 0
  have Sc1_3 := blk_cell S_3.out 1
  have Sc2_3 := blk_cell S_3.out 2
  have Sc3_3 := blk_cell S_3.out 3
  have fS0 := blk_free S_3.out 0
  have fS1 := blk_free S_3.out 1
  have fS2 := blk_free S_3.out 2
  have fS3 := blk_free S_3.out 3
  have Rz_3 := blk_lt R_3.out
  have Rc0_3 := blk_cell R_3.out 0
  have Rc1_3 := blk_cell R_3.out 1
  have Rc2_3 := blk_cell R_3.out 2
  have Rc3_3 := blk_cell R_3.out 3
  have fR0 := blk_free R_3.out 0
  have fR1 := blk_free R_3.out 1
  have fR2 := blk_free R_3.out 2
  have fR3 := blk_free R_3.out 3
  clear hD
  go_wp2_with fail
  go_region_held3 (fun W' => W'.cell? ⟨w.heap.size, 0, none⟩ = some (.int .i64 t) ∧ W'.cell? ⟨w.heap.size, 1, none⟩ = some (.int .i64 f) ∧ W'.cell? ⟨w.heap.size, 2, none⟩ = some (.int .i64 D) ∧ W'.cell? ⟨w.heap.size, 3, none⟩ = some (.int .i64 o)) (first | go_keep) (first
    | (go_at_call 21; (with_reducible refine (allowed_any t f D o n p m _ HSD.out HA.out).mono ?_); rintro e Y2 ⟨rfl, b⟩; have SK := (b.block _ Sz_3).trans S_3.out; have RK := (b.block _ Rz_3).trans R_3.out; have zr := blk_lt RK; have HQK := Lib.hid ((q_3.drew).trans (b.mono q_3.size)); have ks0 := blk_cell SK 0; have kr0 := blk_cell RK 0; have kf0 := blk_free RK 0; have ks1 := blk_cell SK 1; have kr1 := blk_cell RK 1; have kf1 := blk_free RK 1; have ks2 := blk_cell SK 2; have kr2 := blk_cell RK 2; have kf2 := blk_free RK 2; have ks3 := blk_cell SK 3; have kr3 := blk_cell RK 3; have kf3 := blk_free RK 3; clear SK RK b))
  all_goals
    clear S_3 R_3 q_3
    go_wp2
    refine bodyPost_ret (v := .tuple #[.agg #[.int .i64 (t), .int .i64 (f), .int .i64 D, .int .i64 (o)], .int .i64 (max (al t f D o n p m) 0), .int .i64 0]) (by simp [results, Try.results7, go_sem, *]) rfl ⟨rfl, ?_⟩
    (repeat' (first | (with_reducible exact HQK.out) | (with_reducible exact Below.refl _ _) | (with_reducible refine Below.alloc ?_ ?_ _) | (with_reducible refine Below.setCell ?_ ?_ _) | (with_reducible refine Below.drew ?_) | (with_reducible refine below_drewN ?_ _) | omega | (dsimp only; omega) | (simp; done) | (simp; omega)))

set_option maxHeartbeats 2000000 in
theorem spent_s (t f d o n : Int) (w : World) (hS : ¬ SV t f d o) :
    Calls Try.prog 9 #[.agg #[.int .i64 t, .int .i64 f, .int .i64 d, .int .i64 o], .int .i64 n] w fun e w' => e = .returned (.tuple #[.agg #[.int .i64 0, .int .i64 0, .int .i64 0, .int .i64 0], .int .i64 171]) ∧ Below w.heap.size w w' := by
  have q_0 := Below.refl w.heap.size w
  go_enter Try.func9, Try.ntmps9
  go_wp2_with fail
  have b : Below w.heap.size w ((w.alloc (.cells #[.int .i64 t, .int .i64 f, .int .i64 d, .int .i64 o] 24)).alloc (.cells #[.int .i64 0, .int .i64 0, .int .i64 0, .int .i64 0] 24)) := (((Below.refl _ w).alloc (Nat.le_refl _) (.cells #[.int .i64 t, .int .i64 f, .int .i64 d, .int .i64 o] 24)).alloc (by simp only [World.size_alloc]; omega) (.cells #[.int .i64 0, .int .i64 0, .int .i64 0, .int .i64 0] 24))
  have nb0 := blk_new w (.cells #[.int .i64 t, .int .i64 f, .int .i64 d, .int .i64 o] 24)
  have nb0 := (Below.heap_alloc (w.alloc (.cells #[.int .i64 t, .int .i64 f, .int .i64 d, .int .i64 o] 24)) (.cells #[.int .i64 0, .int .i64 0, .int .i64 0, .int .i64 0] 24) (w.heap.size) (by simp only [World.size_alloc]; omega)).trans nb0
  have nz0 : w.heap.size < ((w.alloc (.cells #[.int .i64 t, .int .i64 f, .int .i64 d, .int .i64 o] 24)).alloc (.cells #[.int .i64 0, .int .i64 0, .int .i64 0, .int .i64 0] 24)).heap.size := by simp only [World.size_alloc]; omega
  have nb1 := blk_new (w.alloc (.cells #[.int .i64 t, .int .i64 f, .int .i64 d, .int .i64 o] 24)) (.cells #[.int .i64 0, .int .i64 0, .int .i64 0, .int .i64 0] 24)
  simp only [World.size_alloc] at nb1
  have nz1 : w.heap.size + 1 < ((w.alloc (.cells #[.int .i64 t, .int .i64 f, .int .i64 d, .int .i64 o] 24)).alloc (.cells #[.int .i64 0, .int .i64 0, .int .i64 0, .int .i64 0] 24)).heap.size := by simp only [World.size_alloc]; omega
  have q_1 := q_0.trans (b.mono q_0.size)
  clear q_0
  clear b
  have S_1 := Lib.hid nb0
  have Sz_1 := nz0
  clear nb0 nz0
  have Sc0_1 := blk_cell S_1.out 0
  have Sc1_1 := blk_cell S_1.out 1
  have Sc2_1 := blk_cell S_1.out 2
  have Sc3_1 := blk_cell S_1.out 3
  have R_1 := Lib.hid nb1
  have Rz_1 := nz1
  clear nb1 nz1
  have Rc0_1 := blk_cell R_1.out 0
  have Rc1_1 := blk_cell R_1.out 1
  have Rc2_1 := blk_cell R_1.out 2
  have Rc3_1 := blk_cell R_1.out 3
  generalize ((w.alloc (.cells #[.int .i64 t, .int .i64 f, .int .i64 d, .int .i64 o] 24)).alloc (.cells #[.int .i64 0, .int .i64 0, .int .i64 0, .int .i64 0] 24)) = V1 at q_1 S_1 Sz_1 Sc0_1 Sc1_1 Sc2_1 Sc3_1 R_1 Rz_1 Rc0_1 Rc1_1 Rc2_1 Rc3_1 ⊢
  refine (smay_no t f d o _ hS).mono ?_
  rintro e V2 ⟨rfl, b⟩
  have S_2 := Lib.hid ((b.block _ Sz_1).trans S_1.out)
  have Sz_2 := Nat.lt_of_lt_of_le Sz_1 b.size
  have Sc0_2 := blk_cell S_2.out 0
  have Sc1_2 := blk_cell S_2.out 1
  have Sc2_2 := blk_cell S_2.out 2
  have Sc3_2 := blk_cell S_2.out 3
  have R_2 := Lib.hid ((b.block _ Rz_1).trans R_1.out)
  have Rz_2 := Nat.lt_of_lt_of_le Rz_1 b.size
  have Rc0_2 := blk_cell R_2.out 0
  have Rc1_2 := blk_cell R_2.out 1
  have Rc2_2 := blk_cell R_2.out 2
  have Rc3_2 := blk_cell R_2.out 3
  have q_2 := q_1.trans (b.mono q_1.size)
  clear S_1 Sz_1 Sc0_1 Sc1_1 Sc2_1 Sc3_1 R_1 Rz_1 Rc0_1 Rc1_1 Rc2_1 Rc3_1 q_1
  clear b
  have fS0 := blk_free S_2.out 0
  have fS1 := blk_free S_2.out 1
  have fS2 := blk_free S_2.out 2
  have fS3 := blk_free S_2.out 3
  have fR0 := blk_free R_2.out 0
  have fR1 := blk_free R_2.out 1
  have fR2 := blk_free R_2.out 2
  have fR3 := blk_free R_2.out 3
  have QY := Lib.hid q_2
  clear S_2 R_2
  go_wp2
  refine bodyPost_ret (v := .tuple #[.agg #[.int .i64 0, .int .i64 0, .int .i64 0, .int .i64 0], .int .i64 171]) (by simp [results, Try.results9, go_sem, *]) rfl ⟨rfl, ?_⟩
  (repeat' (first | (with_reducible exact QY.out) | (with_reducible exact Below.refl _ _) | (with_reducible refine Below.alloc ?_ ?_ _) | (with_reducible refine Below.setCell ?_ ?_ _) | (with_reducible refine Below.drew ?_) | (with_reducible refine below_drewN ?_ _) | omega | (dsimp only; omega) | (simp; done) | (simp; omega)))

set_option maxHeartbeats 2000000 in
theorem spent_n (t f d o n : Int) (w : World) (hS : SV t f d o) (hN : ¬ NV n) :
    Calls Try.prog 9 #[.agg #[.int .i64 t, .int .i64 f, .int .i64 d, .int .i64 o], .int .i64 n] w fun e w' => e = .returned (.tuple #[.agg #[.int .i64 0, .int .i64 0, .int .i64 0, .int .i64 0], .int .i64 4]) ∧ Below w.heap.size w w' := by
  have HB : Hid (¬ InR 0 1073741824 [n]) := Lib.hid (fun hb => hN (inR1.1 hb))
  clear hN
  have q_0 := Below.refl w.heap.size w
  go_enter Try.func9, Try.ntmps9
  go_wp2_with fail
  have b : Below w.heap.size w ((w.alloc (.cells #[.int .i64 t, .int .i64 f, .int .i64 d, .int .i64 o] 24)).alloc (.cells #[.int .i64 0, .int .i64 0, .int .i64 0, .int .i64 0] 24)) := (((Below.refl _ w).alloc (Nat.le_refl _) (.cells #[.int .i64 t, .int .i64 f, .int .i64 d, .int .i64 o] 24)).alloc (by simp only [World.size_alloc]; omega) (.cells #[.int .i64 0, .int .i64 0, .int .i64 0, .int .i64 0] 24))
  have nb0 := blk_new w (.cells #[.int .i64 t, .int .i64 f, .int .i64 d, .int .i64 o] 24)
  have nb0 := (Below.heap_alloc (w.alloc (.cells #[.int .i64 t, .int .i64 f, .int .i64 d, .int .i64 o] 24)) (.cells #[.int .i64 0, .int .i64 0, .int .i64 0, .int .i64 0] 24) (w.heap.size) (by simp only [World.size_alloc]; omega)).trans nb0
  have nz0 : w.heap.size < ((w.alloc (.cells #[.int .i64 t, .int .i64 f, .int .i64 d, .int .i64 o] 24)).alloc (.cells #[.int .i64 0, .int .i64 0, .int .i64 0, .int .i64 0] 24)).heap.size := by simp only [World.size_alloc]; omega
  have nb1 := blk_new (w.alloc (.cells #[.int .i64 t, .int .i64 f, .int .i64 d, .int .i64 o] 24)) (.cells #[.int .i64 0, .int .i64 0, .int .i64 0, .int .i64 0] 24)
  simp only [World.size_alloc] at nb1
  have nz1 : w.heap.size + 1 < ((w.alloc (.cells #[.int .i64 t, .int .i64 f, .int .i64 d, .int .i64 o] 24)).alloc (.cells #[.int .i64 0, .int .i64 0, .int .i64 0, .int .i64 0] 24)).heap.size := by simp only [World.size_alloc]; omega
  have q_1 := q_0.trans (b.mono q_0.size)
  clear q_0
  clear b
  have S_1 := Lib.hid nb0
  have Sz_1 := nz0
  clear nb0 nz0
  have Sc0_1 := blk_cell S_1.out 0
  have Sc1_1 := blk_cell S_1.out 1
  have Sc2_1 := blk_cell S_1.out 2
  have Sc3_1 := blk_cell S_1.out 3
  have R_1 := Lib.hid nb1
  have Rz_1 := nz1
  clear nb1 nz1
  have Rc0_1 := blk_cell R_1.out 0
  have Rc1_1 := blk_cell R_1.out 1
  have Rc2_1 := blk_cell R_1.out 2
  have Rc3_1 := blk_cell R_1.out 3
  generalize ((w.alloc (.cells #[.int .i64 t, .int .i64 f, .int .i64 d, .int .i64 o] 24)).alloc (.cells #[.int .i64 0, .int .i64 0, .int .i64 0, .int .i64 0] 24)) = V1 at q_1 S_1 Sz_1 Sc0_1 Sc1_1 Sc2_1 Sc3_1 R_1 Rz_1 Rc0_1 Rc1_1 Rc2_1 Rc3_1 ⊢
  refine (smay_yes t f d o _ hS).mono ?_
  rintro e V2 ⟨rfl, b⟩
  have S_2 := Lib.hid ((b.block _ Sz_1).trans S_1.out)
  have Sz_2 := Nat.lt_of_lt_of_le Sz_1 b.size
  have Sc0_2 := blk_cell S_2.out 0
  have Sc1_2 := blk_cell S_2.out 1
  have Sc2_2 := blk_cell S_2.out 2
  have Sc3_2 := blk_cell S_2.out 3
  have R_2 := Lib.hid ((b.block _ Rz_1).trans R_1.out)
  have Rz_2 := Nat.lt_of_lt_of_le Rz_1 b.size
  have Rc0_2 := blk_cell R_2.out 0
  have Rc1_2 := blk_cell R_2.out 1
  have Rc2_2 := blk_cell R_2.out 2
  have Rc3_2 := blk_cell R_2.out 3
  have q_2 := q_1.trans (b.mono q_1.size)
  clear S_1 Sz_1 Sc0_1 Sc1_1 Sc2_1 Sc3_1 R_1 Rz_1 Rc0_1 Rc1_1 Rc2_1 Rc3_1 q_1
  clear b
  have fS0 := blk_free S_2.out 0
  have fS1 := blk_free S_2.out 1
  have fS2 := blk_free S_2.out 2
  have fS3 := blk_free S_2.out 3
  have fR0 := blk_free R_2.out 0
  have fR1 := blk_free R_2.out 1
  have fR2 := blk_free R_2.out 2
  have fR3 := blk_free R_2.out 3
  go_wp2_with fail
  refine (wn_no 0 1073741824 [n] _ _ _ _ _ _ rfl rfl (by simp) (by simp) HB.out).mono ?_
  rintro e w' ⟨rfl, rfl⟩
  have QY := Lib.hid q_2
  clear S_2 R_2
  go_wp2
  refine bodyPost_ret (v := .tuple #[.agg #[.int .i64 0, .int .i64 0, .int .i64 0, .int .i64 0], .int .i64 4]) (by simp [results, Try.results9, go_sem, *]) rfl ⟨rfl, ?_⟩
  (repeat' (first | (with_reducible exact QY.out) | (with_reducible exact Below.refl _ _) | (with_reducible refine Below.alloc ?_ ?_ _) | (with_reducible refine Below.setCell ?_ ?_ _) | (with_reducible refine Below.drew ?_) | (with_reducible refine below_drewN ?_ _) | omega | (dsimp only; omega) | (simp; done) | (simp; omega)))

set_option maxHeartbeats 2000000 in
theorem spent_ok (t f d o n : Int) (w : World) (hS : SV t f d o) (hN : NV n) :
    Calls Try.prog 9 #[.agg #[.int .i64 t, .int .i64 f, .int .i64 d, .int .i64 o], .int .i64 n] w fun e w' => e = .returned (.tuple #[.agg #[.int .i64 (t), .int .i64 (f), .int .i64 (d), .int .i64 (min (o + n) 2147483648)], .int .i64 0]) ∧ Below w.heap.size w w' := by
  have HS := Lib.hid hS
  have HB : Hid (InR 0 1073741824 [n]) := Lib.hid (inR1.2 hN)
  obtain ⟨⟨⟨t0, t1⟩, f0, f1⟩, ⟨d0, d1⟩, o0, o1⟩ := hS
  obtain ⟨n0, n1⟩ := hN
  have q_0 := Below.refl w.heap.size w
  go_enter Try.func9, Try.ntmps9
  go_wp2_with fail
  have b : Below w.heap.size w ((w.alloc (.cells #[.int .i64 t, .int .i64 f, .int .i64 d, .int .i64 o] 24)).alloc (.cells #[.int .i64 0, .int .i64 0, .int .i64 0, .int .i64 0] 24)) := (((Below.refl _ w).alloc (Nat.le_refl _) (.cells #[.int .i64 t, .int .i64 f, .int .i64 d, .int .i64 o] 24)).alloc (by simp only [World.size_alloc]; omega) (.cells #[.int .i64 0, .int .i64 0, .int .i64 0, .int .i64 0] 24))
  have nb0 := blk_new w (.cells #[.int .i64 t, .int .i64 f, .int .i64 d, .int .i64 o] 24)
  have nb0 := (Below.heap_alloc (w.alloc (.cells #[.int .i64 t, .int .i64 f, .int .i64 d, .int .i64 o] 24)) (.cells #[.int .i64 0, .int .i64 0, .int .i64 0, .int .i64 0] 24) (w.heap.size) (by simp only [World.size_alloc]; omega)).trans nb0
  have nz0 : w.heap.size < ((w.alloc (.cells #[.int .i64 t, .int .i64 f, .int .i64 d, .int .i64 o] 24)).alloc (.cells #[.int .i64 0, .int .i64 0, .int .i64 0, .int .i64 0] 24)).heap.size := by simp only [World.size_alloc]; omega
  have nb1 := blk_new (w.alloc (.cells #[.int .i64 t, .int .i64 f, .int .i64 d, .int .i64 o] 24)) (.cells #[.int .i64 0, .int .i64 0, .int .i64 0, .int .i64 0] 24)
  simp only [World.size_alloc] at nb1
  have nz1 : w.heap.size + 1 < ((w.alloc (.cells #[.int .i64 t, .int .i64 f, .int .i64 d, .int .i64 o] 24)).alloc (.cells #[.int .i64 0, .int .i64 0, .int .i64 0, .int .i64 0] 24)).heap.size := by simp only [World.size_alloc]; omega
  have q_1 := q_0.trans (b.mono q_0.size)
  clear q_0
  clear b
  have S_1 := Lib.hid nb0
  have Sz_1 := nz0
  clear nb0 nz0
  have Sc0_1 := blk_cell S_1.out 0
  have Sc1_1 := blk_cell S_1.out 1
  have Sc2_1 := blk_cell S_1.out 2
  have Sc3_1 := blk_cell S_1.out 3
  have R_1 := Lib.hid nb1
  have Rz_1 := nz1
  clear nb1 nz1
  have Rc0_1 := blk_cell R_1.out 0
  have Rc1_1 := blk_cell R_1.out 1
  have Rc2_1 := blk_cell R_1.out 2
  have Rc3_1 := blk_cell R_1.out 3
  generalize ((w.alloc (.cells #[.int .i64 t, .int .i64 f, .int .i64 d, .int .i64 o] 24)).alloc (.cells #[.int .i64 0, .int .i64 0, .int .i64 0, .int .i64 0] 24)) = V1 at q_1 S_1 Sz_1 Sc0_1 Sc1_1 Sc2_1 Sc3_1 R_1 Rz_1 Rc0_1 Rc1_1 Rc2_1 Rc3_1 ⊢
  refine (smay_yes t f d o _ HS.out).mono ?_
  rintro e V2 ⟨rfl, b⟩
  have S_2 := Lib.hid ((b.block _ Sz_1).trans S_1.out)
  have Sz_2 := Nat.lt_of_lt_of_le Sz_1 b.size
  have Sc0_2 := blk_cell S_2.out 0
  have Sc1_2 := blk_cell S_2.out 1
  have Sc2_2 := blk_cell S_2.out 2
  have Sc3_2 := blk_cell S_2.out 3
  have R_2 := Lib.hid ((b.block _ Rz_1).trans R_1.out)
  have Rz_2 := Nat.lt_of_lt_of_le Rz_1 b.size
  have Rc0_2 := blk_cell R_2.out 0
  have Rc1_2 := blk_cell R_2.out 1
  have Rc2_2 := blk_cell R_2.out 2
  have Rc3_2 := blk_cell R_2.out 3
  have q_2 := q_1.trans (b.mono q_1.size)
  clear S_1 Sz_1 Sc0_1 Sc1_1 Sc2_1 Sc3_1 R_1 Rz_1 Rc0_1 Rc1_1 Rc2_1 Rc3_1 q_1
  clear b
  have fS0 := blk_free S_2.out 0
  have fS1 := blk_free S_2.out 1
  have fS2 := blk_free S_2.out 2
  have fS3 := blk_free S_2.out 3
  have fR0 := blk_free R_2.out 0
  have fR1 := blk_free R_2.out 1
  have fR2 := blk_free R_2.out 2
  have fR3 := blk_free R_2.out 3
  go_wp2_with fail
  refine (wn_yes 0 1073741824 [n] _ _ _ _ _ _ rfl rfl (by simp) (by simp) HB.out).mono ?_
  rintro e w' ⟨rfl, rfl⟩
  have QY := Lib.hid q_2
  clear S_2 R_2
  go_wp2
  refine bodyPost_ret (v := .tuple #[.agg #[.int .i64 (t), .int .i64 (f), .int .i64 (d), .int .i64 (min (o + n) 2147483648)], .int .i64 0]) (by simp [results, Try.results9, go_sem, *]) rfl ⟨rfl, ?_⟩
  (repeat' (first | (with_reducible exact QY.out) | (with_reducible exact Below.refl _ _) | (with_reducible refine Below.alloc ?_ ?_ _) | (with_reducible refine Below.setCell ?_ ?_ _) | (with_reducible refine Below.drew ?_) | (with_reducible refine below_drewN ?_ _) | omega | (dsimp only; omega) | (simp; done) | (simp; omega)))

set_option maxHeartbeats 2000000 in
theorem send_s (d a i r k v : Int) (e : Bool) (w : World) (hS : ¬ RV d a i r k) :
    Calls Try.prog 15 #[.agg #[.int .i64 d, .int .i64 a, .int .i64 i, .int .i64 r, .int .i64 k], .int .i64 v, .bool e] w fun e w' => e = .returned (.tuple #[.agg #[.int .i64 0, .int .i64 0, .int .i64 0, .int .i64 0, .int .i64 0], .agg #[.int .i64 0, .int .i64 0, .int .i64 0, .int .i64 0], .int .i64 171]) ∧ Below w.heap.size w w' := by
  have q_0 := Below.refl w.heap.size w
  go_enter Try.func15, Try.ntmps15
  go_wp2_with fail
  have b : Below w.heap.size w (((w.alloc (.cells #[.int .i64 d, .int .i64 a, .int .i64 i, .int .i64 r, .int .i64 k] 43)).alloc (.cells #[.int .i64 0, .int .i64 0, .int .i64 0, .int .i64 0, .int .i64 0] 43)).alloc (.cells #[.int .i64 0, .int .i64 0, .int .i64 0, .int .i64 0] 44)) := ((((Below.refl _ w).alloc (Nat.le_refl _) (.cells #[.int .i64 d, .int .i64 a, .int .i64 i, .int .i64 r, .int .i64 k] 43)).alloc (by simp only [World.size_alloc]; omega) (.cells #[.int .i64 0, .int .i64 0, .int .i64 0, .int .i64 0, .int .i64 0] 43)).alloc (by simp only [World.size_alloc]; omega) (.cells #[.int .i64 0, .int .i64 0, .int .i64 0, .int .i64 0] 44))
  have nb0 := blk_new w (.cells #[.int .i64 d, .int .i64 a, .int .i64 i, .int .i64 r, .int .i64 k] 43)
  have nb0 := (Below.heap_alloc (w.alloc (.cells #[.int .i64 d, .int .i64 a, .int .i64 i, .int .i64 r, .int .i64 k] 43)) (.cells #[.int .i64 0, .int .i64 0, .int .i64 0, .int .i64 0, .int .i64 0] 43) (w.heap.size) (by simp only [World.size_alloc]; omega)).trans nb0
  have nb0 := (Below.heap_alloc ((w.alloc (.cells #[.int .i64 d, .int .i64 a, .int .i64 i, .int .i64 r, .int .i64 k] 43)).alloc (.cells #[.int .i64 0, .int .i64 0, .int .i64 0, .int .i64 0, .int .i64 0] 43)) (.cells #[.int .i64 0, .int .i64 0, .int .i64 0, .int .i64 0] 44) (w.heap.size) (by simp only [World.size_alloc]; omega)).trans nb0
  have nz0 : w.heap.size < (((w.alloc (.cells #[.int .i64 d, .int .i64 a, .int .i64 i, .int .i64 r, .int .i64 k] 43)).alloc (.cells #[.int .i64 0, .int .i64 0, .int .i64 0, .int .i64 0, .int .i64 0] 43)).alloc (.cells #[.int .i64 0, .int .i64 0, .int .i64 0, .int .i64 0] 44)).heap.size := by simp only [World.size_alloc]; omega
  have nb1 := blk_new (w.alloc (.cells #[.int .i64 d, .int .i64 a, .int .i64 i, .int .i64 r, .int .i64 k] 43)) (.cells #[.int .i64 0, .int .i64 0, .int .i64 0, .int .i64 0, .int .i64 0] 43)
  simp only [World.size_alloc] at nb1
  have nb1 := (Below.heap_alloc ((w.alloc (.cells #[.int .i64 d, .int .i64 a, .int .i64 i, .int .i64 r, .int .i64 k] 43)).alloc (.cells #[.int .i64 0, .int .i64 0, .int .i64 0, .int .i64 0, .int .i64 0] 43)) (.cells #[.int .i64 0, .int .i64 0, .int .i64 0, .int .i64 0] 44) (w.heap.size + 1) (by simp only [World.size_alloc]; omega)).trans nb1
  have nz1 : w.heap.size + 1 < (((w.alloc (.cells #[.int .i64 d, .int .i64 a, .int .i64 i, .int .i64 r, .int .i64 k] 43)).alloc (.cells #[.int .i64 0, .int .i64 0, .int .i64 0, .int .i64 0, .int .i64 0] 43)).alloc (.cells #[.int .i64 0, .int .i64 0, .int .i64 0, .int .i64 0] 44)).heap.size := by simp only [World.size_alloc]; omega
  have nb2 := blk_new ((w.alloc (.cells #[.int .i64 d, .int .i64 a, .int .i64 i, .int .i64 r, .int .i64 k] 43)).alloc (.cells #[.int .i64 0, .int .i64 0, .int .i64 0, .int .i64 0, .int .i64 0] 43)) (.cells #[.int .i64 0, .int .i64 0, .int .i64 0, .int .i64 0] 44)
  simp only [World.size_alloc] at nb2
  have nz2 : w.heap.size + 2 < (((w.alloc (.cells #[.int .i64 d, .int .i64 a, .int .i64 i, .int .i64 r, .int .i64 k] 43)).alloc (.cells #[.int .i64 0, .int .i64 0, .int .i64 0, .int .i64 0, .int .i64 0] 43)).alloc (.cells #[.int .i64 0, .int .i64 0, .int .i64 0, .int .i64 0] 44)).heap.size := by simp only [World.size_alloc]; omega
  have q_1 := q_0.trans (b.mono q_0.size)
  clear q_0
  clear b
  have S_1 := Lib.hid nb0
  have Sz_1 := nz0
  clear nb0 nz0
  have Sc0_1 := blk_cell S_1.out 0
  have Sc1_1 := blk_cell S_1.out 1
  have Sc2_1 := blk_cell S_1.out 2
  have Sc3_1 := blk_cell S_1.out 3
  have Sc4_1 := blk_cell S_1.out 4
  have R_1 := Lib.hid nb1
  have Rz_1 := nz1
  clear nb1 nz1
  have Rc0_1 := blk_cell R_1.out 0
  have Rc1_1 := blk_cell R_1.out 1
  have Rc2_1 := blk_cell R_1.out 2
  have Rc3_1 := blk_cell R_1.out 3
  have Rc4_1 := blk_cell R_1.out 4
  have X_1 := Lib.hid nb2
  have Xz_1 := nz2
  clear nb2 nz2
  have Xc0_1 := blk_cell X_1.out 0
  have Xc1_1 := blk_cell X_1.out 1
  have Xc2_1 := blk_cell X_1.out 2
  have Xc3_1 := blk_cell X_1.out 3
  generalize (((w.alloc (.cells #[.int .i64 d, .int .i64 a, .int .i64 i, .int .i64 r, .int .i64 k] 43)).alloc (.cells #[.int .i64 0, .int .i64 0, .int .i64 0, .int .i64 0, .int .i64 0] 43)).alloc (.cells #[.int .i64 0, .int .i64 0, .int .i64 0, .int .i64 0] 44)) = V1 at q_1 S_1 Sz_1 Sc0_1 Sc1_1 Sc2_1 Sc3_1 Sc4_1 R_1 Rz_1 Rc0_1 Rc1_1 Rc2_1 Rc3_1 Rc4_1 X_1 Xz_1 Xc0_1 Xc1_1 Xc2_1 Xc3_1 ⊢
  refine (rmay_no d a i r k _ hS).mono ?_
  rintro e V2 ⟨rfl, b⟩
  have S_2 := Lib.hid ((b.block _ Sz_1).trans S_1.out)
  have Sz_2 := Nat.lt_of_lt_of_le Sz_1 b.size
  have Sc0_2 := blk_cell S_2.out 0
  have Sc1_2 := blk_cell S_2.out 1
  have Sc2_2 := blk_cell S_2.out 2
  have Sc3_2 := blk_cell S_2.out 3
  have Sc4_2 := blk_cell S_2.out 4
  have R_2 := Lib.hid ((b.block _ Rz_1).trans R_1.out)
  have Rz_2 := Nat.lt_of_lt_of_le Rz_1 b.size
  have Rc0_2 := blk_cell R_2.out 0
  have Rc1_2 := blk_cell R_2.out 1
  have Rc2_2 := blk_cell R_2.out 2
  have Rc3_2 := blk_cell R_2.out 3
  have Rc4_2 := blk_cell R_2.out 4
  have X_2 := Lib.hid ((b.block _ Xz_1).trans X_1.out)
  have Xz_2 := Nat.lt_of_lt_of_le Xz_1 b.size
  have Xc0_2 := blk_cell X_2.out 0
  have Xc1_2 := blk_cell X_2.out 1
  have Xc2_2 := blk_cell X_2.out 2
  have Xc3_2 := blk_cell X_2.out 3
  have q_2 := q_1.trans (b.mono q_1.size)
  clear S_1 Sz_1 Sc0_1 Sc1_1 Sc2_1 Sc3_1 Sc4_1 R_1 Rz_1 Rc0_1 Rc1_1 Rc2_1 Rc3_1 Rc4_1 X_1 Xz_1 Xc0_1 Xc1_1 Xc2_1 Xc3_1 q_1
  clear b
  have fS0 := blk_free S_2.out 0
  have fS1 := blk_free S_2.out 1
  have fS2 := blk_free S_2.out 2
  have fS3 := blk_free S_2.out 3
  have fS4 := blk_free S_2.out 4
  have fR0 := blk_free R_2.out 0
  have fR1 := blk_free R_2.out 1
  have fR2 := blk_free R_2.out 2
  have fR3 := blk_free R_2.out 3
  have fR4 := blk_free R_2.out 4
  have fX0 := blk_free X_2.out 0
  have fX1 := blk_free X_2.out 1
  have fX2 := blk_free X_2.out 2
  have fX3 := blk_free X_2.out 3
  have QY := Lib.hid q_2
  clear S_2 R_2 X_2
  go_wp2
  refine bodyPost_ret (v := .tuple #[.agg #[.int .i64 0, .int .i64 0, .int .i64 0, .int .i64 0, .int .i64 0], .agg #[.int .i64 0, .int .i64 0, .int .i64 0, .int .i64 0], .int .i64 171]) (by simp [results, Try.results15, go_sem, *]) rfl ⟨rfl, ?_⟩
  (repeat' (first | (with_reducible exact QY.out) | (with_reducible exact Below.refl _ _) | (with_reducible refine Below.alloc ?_ ?_ _) | (with_reducible refine Below.setCell ?_ ?_ _) | (with_reducible refine Below.drew ?_) | (with_reducible refine below_drewN ?_ _) | omega | (dsimp only; omega) | (simp; done) | (simp; omega)))

set_option maxHeartbeats 2000000 in
theorem send_v (d a i r k v : Int) (e : Bool) (w : World) (hS : RV d a i r k) (hV : ¬ TV v) :
    Calls Try.prog 15 #[.agg #[.int .i64 d, .int .i64 a, .int .i64 i, .int .i64 r, .int .i64 k], .int .i64 v, .bool e] w fun e w' => e = .returned (.tuple #[.agg #[.int .i64 0, .int .i64 0, .int .i64 0, .int .i64 0, .int .i64 0], .agg #[.int .i64 0, .int .i64 0, .int .i64 0, .int .i64 0], .int .i64 4]) ∧ Below w.heap.size w w' := by
  have HB : Hid (¬ InR 0 1099511627776 [v]) := Lib.hid (fun hb => hV (inR1.1 hb))
  clear hV
  have q_0 := Below.refl w.heap.size w
  go_enter Try.func15, Try.ntmps15
  go_wp2_with fail
  have b : Below w.heap.size w (((w.alloc (.cells #[.int .i64 d, .int .i64 a, .int .i64 i, .int .i64 r, .int .i64 k] 43)).alloc (.cells #[.int .i64 0, .int .i64 0, .int .i64 0, .int .i64 0, .int .i64 0] 43)).alloc (.cells #[.int .i64 0, .int .i64 0, .int .i64 0, .int .i64 0] 44)) := ((((Below.refl _ w).alloc (Nat.le_refl _) (.cells #[.int .i64 d, .int .i64 a, .int .i64 i, .int .i64 r, .int .i64 k] 43)).alloc (by simp only [World.size_alloc]; omega) (.cells #[.int .i64 0, .int .i64 0, .int .i64 0, .int .i64 0, .int .i64 0] 43)).alloc (by simp only [World.size_alloc]; omega) (.cells #[.int .i64 0, .int .i64 0, .int .i64 0, .int .i64 0] 44))
  have nb0 := blk_new w (.cells #[.int .i64 d, .int .i64 a, .int .i64 i, .int .i64 r, .int .i64 k] 43)
  have nb0 := (Below.heap_alloc (w.alloc (.cells #[.int .i64 d, .int .i64 a, .int .i64 i, .int .i64 r, .int .i64 k] 43)) (.cells #[.int .i64 0, .int .i64 0, .int .i64 0, .int .i64 0, .int .i64 0] 43) (w.heap.size) (by simp only [World.size_alloc]; omega)).trans nb0
  have nb0 := (Below.heap_alloc ((w.alloc (.cells #[.int .i64 d, .int .i64 a, .int .i64 i, .int .i64 r, .int .i64 k] 43)).alloc (.cells #[.int .i64 0, .int .i64 0, .int .i64 0, .int .i64 0, .int .i64 0] 43)) (.cells #[.int .i64 0, .int .i64 0, .int .i64 0, .int .i64 0] 44) (w.heap.size) (by simp only [World.size_alloc]; omega)).trans nb0
  have nz0 : w.heap.size < (((w.alloc (.cells #[.int .i64 d, .int .i64 a, .int .i64 i, .int .i64 r, .int .i64 k] 43)).alloc (.cells #[.int .i64 0, .int .i64 0, .int .i64 0, .int .i64 0, .int .i64 0] 43)).alloc (.cells #[.int .i64 0, .int .i64 0, .int .i64 0, .int .i64 0] 44)).heap.size := by simp only [World.size_alloc]; omega
  have nb1 := blk_new (w.alloc (.cells #[.int .i64 d, .int .i64 a, .int .i64 i, .int .i64 r, .int .i64 k] 43)) (.cells #[.int .i64 0, .int .i64 0, .int .i64 0, .int .i64 0, .int .i64 0] 43)
  simp only [World.size_alloc] at nb1
  have nb1 := (Below.heap_alloc ((w.alloc (.cells #[.int .i64 d, .int .i64 a, .int .i64 i, .int .i64 r, .int .i64 k] 43)).alloc (.cells #[.int .i64 0, .int .i64 0, .int .i64 0, .int .i64 0, .int .i64 0] 43)) (.cells #[.int .i64 0, .int .i64 0, .int .i64 0, .int .i64 0] 44) (w.heap.size + 1) (by simp only [World.size_alloc]; omega)).trans nb1
  have nz1 : w.heap.size + 1 < (((w.alloc (.cells #[.int .i64 d, .int .i64 a, .int .i64 i, .int .i64 r, .int .i64 k] 43)).alloc (.cells #[.int .i64 0, .int .i64 0, .int .i64 0, .int .i64 0, .int .i64 0] 43)).alloc (.cells #[.int .i64 0, .int .i64 0, .int .i64 0, .int .i64 0] 44)).heap.size := by simp only [World.size_alloc]; omega
  have nb2 := blk_new ((w.alloc (.cells #[.int .i64 d, .int .i64 a, .int .i64 i, .int .i64 r, .int .i64 k] 43)).alloc (.cells #[.int .i64 0, .int .i64 0, .int .i64 0, .int .i64 0, .int .i64 0] 43)) (.cells #[.int .i64 0, .int .i64 0, .int .i64 0, .int .i64 0] 44)
  simp only [World.size_alloc] at nb2
  have nz2 : w.heap.size + 2 < (((w.alloc (.cells #[.int .i64 d, .int .i64 a, .int .i64 i, .int .i64 r, .int .i64 k] 43)).alloc (.cells #[.int .i64 0, .int .i64 0, .int .i64 0, .int .i64 0, .int .i64 0] 43)).alloc (.cells #[.int .i64 0, .int .i64 0, .int .i64 0, .int .i64 0] 44)).heap.size := by simp only [World.size_alloc]; omega
  have q_1 := q_0.trans (b.mono q_0.size)
  clear q_0
  clear b
  have S_1 := Lib.hid nb0
  have Sz_1 := nz0
  clear nb0 nz0
  have Sc0_1 := blk_cell S_1.out 0
  have Sc1_1 := blk_cell S_1.out 1
  have Sc2_1 := blk_cell S_1.out 2
  have Sc3_1 := blk_cell S_1.out 3
  have Sc4_1 := blk_cell S_1.out 4
  have R_1 := Lib.hid nb1
  have Rz_1 := nz1
  clear nb1 nz1
  have Rc0_1 := blk_cell R_1.out 0
  have Rc1_1 := blk_cell R_1.out 1
  have Rc2_1 := blk_cell R_1.out 2
  have Rc3_1 := blk_cell R_1.out 3
  have Rc4_1 := blk_cell R_1.out 4
  have X_1 := Lib.hid nb2
  have Xz_1 := nz2
  clear nb2 nz2
  have Xc0_1 := blk_cell X_1.out 0
  have Xc1_1 := blk_cell X_1.out 1
  have Xc2_1 := blk_cell X_1.out 2
  have Xc3_1 := blk_cell X_1.out 3
  generalize (((w.alloc (.cells #[.int .i64 d, .int .i64 a, .int .i64 i, .int .i64 r, .int .i64 k] 43)).alloc (.cells #[.int .i64 0, .int .i64 0, .int .i64 0, .int .i64 0, .int .i64 0] 43)).alloc (.cells #[.int .i64 0, .int .i64 0, .int .i64 0, .int .i64 0] 44)) = V1 at q_1 S_1 Sz_1 Sc0_1 Sc1_1 Sc2_1 Sc3_1 Sc4_1 R_1 Rz_1 Rc0_1 Rc1_1 Rc2_1 Rc3_1 Rc4_1 X_1 Xz_1 Xc0_1 Xc1_1 Xc2_1 Xc3_1 ⊢
  refine (rmay_yes d a i r k _ hS).mono ?_
  rintro e V2 ⟨rfl, b⟩
  have S_2 := Lib.hid ((b.block _ Sz_1).trans S_1.out)
  have Sz_2 := Nat.lt_of_lt_of_le Sz_1 b.size
  have Sc0_2 := blk_cell S_2.out 0
  have Sc1_2 := blk_cell S_2.out 1
  have Sc2_2 := blk_cell S_2.out 2
  have Sc3_2 := blk_cell S_2.out 3
  have Sc4_2 := blk_cell S_2.out 4
  have R_2 := Lib.hid ((b.block _ Rz_1).trans R_1.out)
  have Rz_2 := Nat.lt_of_lt_of_le Rz_1 b.size
  have Rc0_2 := blk_cell R_2.out 0
  have Rc1_2 := blk_cell R_2.out 1
  have Rc2_2 := blk_cell R_2.out 2
  have Rc3_2 := blk_cell R_2.out 3
  have Rc4_2 := blk_cell R_2.out 4
  have X_2 := Lib.hid ((b.block _ Xz_1).trans X_1.out)
  have Xz_2 := Nat.lt_of_lt_of_le Xz_1 b.size
  have Xc0_2 := blk_cell X_2.out 0
  have Xc1_2 := blk_cell X_2.out 1
  have Xc2_2 := blk_cell X_2.out 2
  have Xc3_2 := blk_cell X_2.out 3
  have q_2 := q_1.trans (b.mono q_1.size)
  clear S_1 Sz_1 Sc0_1 Sc1_1 Sc2_1 Sc3_1 Sc4_1 R_1 Rz_1 Rc0_1 Rc1_1 Rc2_1 Rc3_1 Rc4_1 X_1 Xz_1 Xc0_1 Xc1_1 Xc2_1 Xc3_1 q_1
  clear b
  have fS0 := blk_free S_2.out 0
  have fS1 := blk_free S_2.out 1
  have fS2 := blk_free S_2.out 2
  have fS3 := blk_free S_2.out 3
  have fS4 := blk_free S_2.out 4
  have fR0 := blk_free R_2.out 0
  have fR1 := blk_free R_2.out 1
  have fR2 := blk_free R_2.out 2
  have fR3 := blk_free R_2.out 3
  have fR4 := blk_free R_2.out 4
  have fX0 := blk_free X_2.out 0
  have fX1 := blk_free X_2.out 1
  have fX2 := blk_free X_2.out 2
  have fX3 := blk_free X_2.out 3
  go_wp2_with fail
  refine (wn_no 0 1099511627776 [v] _ _ _ _ _ _ rfl rfl (by simp) (by simp) HB.out).mono ?_
  rintro e w' ⟨rfl, rfl⟩
  have QY := Lib.hid q_2
  clear S_2 R_2 X_2
  go_wp2
  refine bodyPost_ret (v := .tuple #[.agg #[.int .i64 0, .int .i64 0, .int .i64 0, .int .i64 0, .int .i64 0], .agg #[.int .i64 0, .int .i64 0, .int .i64 0, .int .i64 0], .int .i64 4]) (by simp [results, Try.results15, go_sem, *]) rfl ⟨rfl, ?_⟩
  (repeat' (first | (with_reducible exact QY.out) | (with_reducible exact Below.refl _ _) | (with_reducible refine Below.alloc ?_ ?_ _) | (with_reducible refine Below.setCell ?_ ?_ _) | (with_reducible refine Below.drew ?_) | (with_reducible refine below_drewN ?_ _) | omega | (dsimp only; omega) | (simp; done) | (simp; omega)))

set_option maxHeartbeats 2000000 in
theorem send_true (d a i r k v : Int) (w : World) (hS : RV d a i r k) (hV : TV v) :
    Calls Try.prog 15 #[.agg #[.int .i64 d, .int .i64 a, .int .i64 i, .int .i64 r, .int .i64 k], .int .i64 v, .bool true] w fun e w' => e = .returned (.tuple #[.agg #[.int .i64 (d), .int .i64 (v), .int .i64 (v), .int .i64 (r), .int .i64 (k)], .agg #[.int .i64 (d), .int .i64 (v), .int .i64 (v), .int .i64 (v)], .int .i64 0]) ∧ Below w.heap.size w w' := by
  have HB : Hid (InR 0 1099511627776 [v]) := Lib.hid (inR1.2 hV)
  have q_0 := Below.refl w.heap.size w
  go_enter Try.func15, Try.ntmps15
  go_wp2_with fail
  have b : Below w.heap.size w (((w.alloc (.cells #[.int .i64 d, .int .i64 a, .int .i64 i, .int .i64 r, .int .i64 k] 43)).alloc (.cells #[.int .i64 0, .int .i64 0, .int .i64 0, .int .i64 0, .int .i64 0] 43)).alloc (.cells #[.int .i64 0, .int .i64 0, .int .i64 0, .int .i64 0] 44)) := ((((Below.refl _ w).alloc (Nat.le_refl _) (.cells #[.int .i64 d, .int .i64 a, .int .i64 i, .int .i64 r, .int .i64 k] 43)).alloc (by simp only [World.size_alloc]; omega) (.cells #[.int .i64 0, .int .i64 0, .int .i64 0, .int .i64 0, .int .i64 0] 43)).alloc (by simp only [World.size_alloc]; omega) (.cells #[.int .i64 0, .int .i64 0, .int .i64 0, .int .i64 0] 44))
  have nb0 := blk_new w (.cells #[.int .i64 d, .int .i64 a, .int .i64 i, .int .i64 r, .int .i64 k] 43)
  have nb0 := (Below.heap_alloc (w.alloc (.cells #[.int .i64 d, .int .i64 a, .int .i64 i, .int .i64 r, .int .i64 k] 43)) (.cells #[.int .i64 0, .int .i64 0, .int .i64 0, .int .i64 0, .int .i64 0] 43) (w.heap.size) (by simp only [World.size_alloc]; omega)).trans nb0
  have nb0 := (Below.heap_alloc ((w.alloc (.cells #[.int .i64 d, .int .i64 a, .int .i64 i, .int .i64 r, .int .i64 k] 43)).alloc (.cells #[.int .i64 0, .int .i64 0, .int .i64 0, .int .i64 0, .int .i64 0] 43)) (.cells #[.int .i64 0, .int .i64 0, .int .i64 0, .int .i64 0] 44) (w.heap.size) (by simp only [World.size_alloc]; omega)).trans nb0
  have nz0 : w.heap.size < (((w.alloc (.cells #[.int .i64 d, .int .i64 a, .int .i64 i, .int .i64 r, .int .i64 k] 43)).alloc (.cells #[.int .i64 0, .int .i64 0, .int .i64 0, .int .i64 0, .int .i64 0] 43)).alloc (.cells #[.int .i64 0, .int .i64 0, .int .i64 0, .int .i64 0] 44)).heap.size := by simp only [World.size_alloc]; omega
  have nb1 := blk_new (w.alloc (.cells #[.int .i64 d, .int .i64 a, .int .i64 i, .int .i64 r, .int .i64 k] 43)) (.cells #[.int .i64 0, .int .i64 0, .int .i64 0, .int .i64 0, .int .i64 0] 43)
  simp only [World.size_alloc] at nb1
  have nb1 := (Below.heap_alloc ((w.alloc (.cells #[.int .i64 d, .int .i64 a, .int .i64 i, .int .i64 r, .int .i64 k] 43)).alloc (.cells #[.int .i64 0, .int .i64 0, .int .i64 0, .int .i64 0, .int .i64 0] 43)) (.cells #[.int .i64 0, .int .i64 0, .int .i64 0, .int .i64 0] 44) (w.heap.size + 1) (by simp only [World.size_alloc]; omega)).trans nb1
  have nz1 : w.heap.size + 1 < (((w.alloc (.cells #[.int .i64 d, .int .i64 a, .int .i64 i, .int .i64 r, .int .i64 k] 43)).alloc (.cells #[.int .i64 0, .int .i64 0, .int .i64 0, .int .i64 0, .int .i64 0] 43)).alloc (.cells #[.int .i64 0, .int .i64 0, .int .i64 0, .int .i64 0] 44)).heap.size := by simp only [World.size_alloc]; omega
  have nb2 := blk_new ((w.alloc (.cells #[.int .i64 d, .int .i64 a, .int .i64 i, .int .i64 r, .int .i64 k] 43)).alloc (.cells #[.int .i64 0, .int .i64 0, .int .i64 0, .int .i64 0, .int .i64 0] 43)) (.cells #[.int .i64 0, .int .i64 0, .int .i64 0, .int .i64 0] 44)
  simp only [World.size_alloc] at nb2
  have nz2 : w.heap.size + 2 < (((w.alloc (.cells #[.int .i64 d, .int .i64 a, .int .i64 i, .int .i64 r, .int .i64 k] 43)).alloc (.cells #[.int .i64 0, .int .i64 0, .int .i64 0, .int .i64 0, .int .i64 0] 43)).alloc (.cells #[.int .i64 0, .int .i64 0, .int .i64 0, .int .i64 0] 44)).heap.size := by simp only [World.size_alloc]; omega
  have q_1 := q_0.trans (b.mono q_0.size)
  clear q_0
  clear b
  have S_1 := Lib.hid nb0
  have Sz_1 := nz0
  clear nb0 nz0
  have Sc0_1 := blk_cell S_1.out 0
  have Sc1_1 := blk_cell S_1.out 1
  have Sc2_1 := blk_cell S_1.out 2
  have Sc3_1 := blk_cell S_1.out 3
  have Sc4_1 := blk_cell S_1.out 4
  have R_1 := Lib.hid nb1
  have Rz_1 := nz1
  clear nb1 nz1
  have Rc0_1 := blk_cell R_1.out 0
  have Rc1_1 := blk_cell R_1.out 1
  have Rc2_1 := blk_cell R_1.out 2
  have Rc3_1 := blk_cell R_1.out 3
  have Rc4_1 := blk_cell R_1.out 4
  have X_1 := Lib.hid nb2
  have Xz_1 := nz2
  clear nb2 nz2
  have Xc0_1 := blk_cell X_1.out 0
  have Xc1_1 := blk_cell X_1.out 1
  have Xc2_1 := blk_cell X_1.out 2
  have Xc3_1 := blk_cell X_1.out 3
  generalize (((w.alloc (.cells #[.int .i64 d, .int .i64 a, .int .i64 i, .int .i64 r, .int .i64 k] 43)).alloc (.cells #[.int .i64 0, .int .i64 0, .int .i64 0, .int .i64 0, .int .i64 0] 43)).alloc (.cells #[.int .i64 0, .int .i64 0, .int .i64 0, .int .i64 0] 44)) = V1 at q_1 S_1 Sz_1 Sc0_1 Sc1_1 Sc2_1 Sc3_1 Sc4_1 R_1 Rz_1 Rc0_1 Rc1_1 Rc2_1 Rc3_1 Rc4_1 X_1 Xz_1 Xc0_1 Xc1_1 Xc2_1 Xc3_1 ⊢
  refine (rmay_yes d a i r k _ hS).mono ?_
  rintro e V2 ⟨rfl, b⟩
  have S_2 := Lib.hid ((b.block _ Sz_1).trans S_1.out)
  have Sz_2 := Nat.lt_of_lt_of_le Sz_1 b.size
  have Sc0_2 := blk_cell S_2.out 0
  have Sc1_2 := blk_cell S_2.out 1
  have Sc2_2 := blk_cell S_2.out 2
  have Sc3_2 := blk_cell S_2.out 3
  have Sc4_2 := blk_cell S_2.out 4
  have R_2 := Lib.hid ((b.block _ Rz_1).trans R_1.out)
  have Rz_2 := Nat.lt_of_lt_of_le Rz_1 b.size
  have Rc0_2 := blk_cell R_2.out 0
  have Rc1_2 := blk_cell R_2.out 1
  have Rc2_2 := blk_cell R_2.out 2
  have Rc3_2 := blk_cell R_2.out 3
  have Rc4_2 := blk_cell R_2.out 4
  have X_2 := Lib.hid ((b.block _ Xz_1).trans X_1.out)
  have Xz_2 := Nat.lt_of_lt_of_le Xz_1 b.size
  have Xc0_2 := blk_cell X_2.out 0
  have Xc1_2 := blk_cell X_2.out 1
  have Xc2_2 := blk_cell X_2.out 2
  have Xc3_2 := blk_cell X_2.out 3
  have q_2 := q_1.trans (b.mono q_1.size)
  clear S_1 Sz_1 Sc0_1 Sc1_1 Sc2_1 Sc3_1 Sc4_1 R_1 Rz_1 Rc0_1 Rc1_1 Rc2_1 Rc3_1 Rc4_1 X_1 Xz_1 Xc0_1 Xc1_1 Xc2_1 Xc3_1 q_1
  clear b
  have fS0 := blk_free S_2.out 0
  have fS1 := blk_free S_2.out 1
  have fS2 := blk_free S_2.out 2
  have fS3 := blk_free S_2.out 3
  have fS4 := blk_free S_2.out 4
  have fR0 := blk_free R_2.out 0
  have fR1 := blk_free R_2.out 1
  have fR2 := blk_free R_2.out 2
  have fR3 := blk_free R_2.out 3
  have fR4 := blk_free R_2.out 4
  have fX0 := blk_free X_2.out 0
  have fX1 := blk_free X_2.out 1
  have fX2 := blk_free X_2.out 2
  have fX3 := blk_free X_2.out 3
  go_wp2_with fail
  refine (wn_yes 0 1099511627776 [v] _ _ _ _ _ _ rfl rfl (by simp) (by simp) HB.out).mono ?_
  rintro e w' ⟨rfl, rfl⟩
  go_wp2_with fail
  clear fS0 fS1 fS2 fS3 fS4 fR0 fR1 fR2 fR3 fR4 fX0 fX1 fX2 fX3
  have ys : ((V2.setCell ⟨w.heap.size, 1, none⟩ (.int .i64 v)).setCell ⟨w.heap.size, 2, none⟩ (.int .i64 v)).heap.size = V2.heap.size := by simp
  have yb : Below ((V2.setCell ⟨w.heap.size, 1, none⟩ (.int .i64 v)).setCell ⟨w.heap.size, 2, none⟩ (.int .i64 v)).heap.size ((V2.setCell ⟨w.heap.size, 1, none⟩ (.int .i64 v)).setCell ⟨w.heap.size, 2, none⟩ (.int .i64 v)) (((V2.setCell ⟨w.heap.size, 1, none⟩ (.int .i64 v)).setCell ⟨w.heap.size, 2, none⟩ (.int .i64 v)).alloc (.cells #[.int .i64 v] 3)) := ((Below.refl ((V2.setCell ⟨w.heap.size, 1, none⟩ (.int .i64 v)).setCell ⟨w.heap.size, 2, none⟩ (.int .i64 v)).heap.size ((V2.setCell ⟨w.heap.size, 1, none⟩ (.int .i64 v)).setCell ⟨w.heap.size, 2, none⟩ (.int .i64 v))).alloc (by first | exact Nat.le_refl _ | (simp only [World.size_alloc]; omega)) (.cells #[.int .i64 v] 3))
  clear Sc0_2 Sc1_2 Sc2_2 Sc3_2 Sc4_2 Rc0_2 Rc1_2 Rc2_2 Rc3_2 Rc4_2 Xc0_2 Xc1_2 Xc2_2 Xc3_2
  have S_3 : Hid ((((V2.setCell ⟨w.heap.size, 1, none⟩ (.int .i64 v)).setCell ⟨w.heap.size, 2, none⟩ (.int .i64 v)).alloc (.cells #[.int .i64 v] 3)).heap[w.heap.size]? = some (.cells #[.int .i64 d, .int .i64 v, .int .i64 v, .int .i64 r, .int .i64 k] 43 (0, 0))) := Lib.hid ((yb.block _ (by rw [ys]; exact Sz_2)).trans (blk_set (blk_set S_2.out 1 (.int .i64 v)) 2 (.int .i64 v)))
  have R_3 : Hid ((((V2.setCell ⟨w.heap.size, 1, none⟩ (.int .i64 v)).setCell ⟨w.heap.size, 2, none⟩ (.int .i64 v)).alloc (.cells #[.int .i64 v] 3)).heap[w.heap.size + 1]? = some (.cells #[.int .i64 0, .int .i64 0, .int .i64 0, .int .i64 0, .int .i64 0] 43 (0, 0))) := Lib.hid ((yb.block _ (by rw [ys]; exact Rz_2)).trans (blk_other (i := 2) (blk_other (i := 1) R_2.out (by first | assumption | omega) (.int .i64 v)) (by first | assumption | omega) (.int .i64 v)))
  have X_3 : Hid ((((V2.setCell ⟨w.heap.size, 1, none⟩ (.int .i64 v)).setCell ⟨w.heap.size, 2, none⟩ (.int .i64 v)).alloc (.cells #[.int .i64 v] 3)).heap[w.heap.size + 2]? = some (.cells #[.int .i64 0, .int .i64 0, .int .i64 0, .int .i64 0] 44 (0, 0))) := Lib.hid ((yb.block _ (by rw [ys]; exact Xz_2)).trans (blk_other (i := 2) (blk_other (i := 1) X_2.out (by first | assumption | omega) (.int .i64 v)) (by first | assumption | omega) (.int .i64 v)))
  have q_3 : Below w.heap.size w (((V2.setCell ⟨w.heap.size, 1, none⟩ (.int .i64 v)).setCell ⟨w.heap.size, 2, none⟩ (.int .i64 v)).alloc (.cells #[.int .i64 v] 3)) := below_after ((q_2.setCell (p := ⟨w.heap.size, 1, none⟩) (by first | assumption | (dsimp only; omega)) (.int .i64 v)).setCell (p := ⟨w.heap.size, 2, none⟩) (by first | assumption | (dsimp only; omega)) (.int .i64 v)) yb
  clear yb ys q_2 S_2 Sz_2 R_2 Rz_2 X_2 Xz_2
  generalize (((V2.setCell ⟨w.heap.size, 1, none⟩ (.int .i64 v)).setCell ⟨w.heap.size, 2, none⟩ (.int .i64 v)).alloc (.cells #[.int .i64 v] 3)) = Y1 at q_3 S_3 R_3 X_3 ⊢
  have Sz_3 := blk_lt S_3.out
  have Sc0_3 := blk_cell S_3.out 0
  have Sc1_3 := blk_cell S_3.out 1
  have Sc2_3 := blk_cell S_3.out 2
  have Sc3_3 := blk_cell S_3.out 3
  have Sc4_3 := blk_cell S_3.out 4
  have fS0 := blk_free S_3.out 0
  have fS1 := blk_free S_3.out 1
  have fS2 := blk_free S_3.out 2
  have fS3 := blk_free S_3.out 3
  have fS4 := blk_free S_3.out 4
  have Rz_3 := blk_lt R_3.out
  have Rc0_3 := blk_cell R_3.out 0
  have Rc1_3 := blk_cell R_3.out 1
  have Rc2_3 := blk_cell R_3.out 2
  have Rc3_3 := blk_cell R_3.out 3
  have Rc4_3 := blk_cell R_3.out 4
  have fR0 := blk_free R_3.out 0
  have fR1 := blk_free R_3.out 1
  have fR2 := blk_free R_3.out 2
  have fR3 := blk_free R_3.out 3
  have fR4 := blk_free R_3.out 4
  have Xz_3 := blk_lt X_3.out
  have Xc0_3 := blk_cell X_3.out 0
  have Xc1_3 := blk_cell X_3.out 1
  have Xc2_3 := blk_cell X_3.out 2
  have Xc3_3 := blk_cell X_3.out 3
  have fX0 := blk_free X_3.out 0
  have fX1 := blk_free X_3.out 1
  have fX2 := blk_free X_3.out 2
  have fX3 := blk_free X_3.out 3
  go_wp2_with fail
  have QY := Lib.hid q_3
  have na : w.heap.size + 1 ≠ w.heap.size := by omega
  have nb : w.heap.size + 1 + 1 ≠ w.heap.size := by omega
  have SE0 : Hid (Y1.drew.cell? ⟨w.heap.size, 0, none⟩ = some (.int .i64 d) ∧ Y1.drew.cell? ⟨w.heap.size, 1, none⟩ = some (.int .i64 v) ∧ Y1.drew.cell? ⟨w.heap.size, 2, none⟩ = some (.int .i64 v) ∧ Y1.drew.cell? ⟨w.heap.size, 3, none⟩ = some (.int .i64 r) ∧ Y1.drew.cell? ⟨w.heap.size, 4, none⟩ = some (.int .i64 k)) := Lib.hid ⟨blk_cell (blk_drew S_3.out) 0, blk_cell (blk_drew S_3.out) 1, blk_cell (blk_drew S_3.out) 2, blk_cell (blk_drew S_3.out) 3, blk_cell (blk_drew S_3.out) 4⟩
  have SE1 : Hid ((((((Y1.setCell ⟨w.heap.size + 1, 0, none⟩ (.int .i64 d)).setCell ⟨w.heap.size + 1, 1, none⟩ (.int .i64 v)).setCell ⟨w.heap.size + 1, 2, none⟩ (.int .i64 v)).setCell ⟨w.heap.size + 1, 3, none⟩ (.int .i64 r)).setCell ⟨w.heap.size + 1, 4, none⟩ (.int .i64 k)).drew.cell? ⟨w.heap.size, 0, none⟩ = some (.int .i64 d) ∧ (((((Y1.setCell ⟨w.heap.size + 1, 0, none⟩ (.int .i64 d)).setCell ⟨w.heap.size + 1, 1, none⟩ (.int .i64 v)).setCell ⟨w.heap.size + 1, 2, none⟩ (.int .i64 v)).setCell ⟨w.heap.size + 1, 3, none⟩ (.int .i64 r)).setCell ⟨w.heap.size + 1, 4, none⟩ (.int .i64 k)).drew.cell? ⟨w.heap.size, 1, none⟩ = some (.int .i64 v) ∧ (((((Y1.setCell ⟨w.heap.size + 1, 0, none⟩ (.int .i64 d)).setCell ⟨w.heap.size + 1, 1, none⟩ (.int .i64 v)).setCell ⟨w.heap.size + 1, 2, none⟩ (.int .i64 v)).setCell ⟨w.heap.size + 1, 3, none⟩ (.int .i64 r)).setCell ⟨w.heap.size + 1, 4, none⟩ (.int .i64 k)).drew.cell? ⟨w.heap.size, 2, none⟩ = some (.int .i64 v) ∧ (((((Y1.setCell ⟨w.heap.size + 1, 0, none⟩ (.int .i64 d)).setCell ⟨w.heap.size + 1, 1, none⟩ (.int .i64 v)).setCell ⟨w.heap.size + 1, 2, none⟩ (.int .i64 v)).setCell ⟨w.heap.size + 1, 3, none⟩ (.int .i64 r)).setCell ⟨w.heap.size + 1, 4, none⟩ (.int .i64 k)).drew.cell? ⟨w.heap.size, 3, none⟩ = some (.int .i64 r) ∧ (((((Y1.setCell ⟨w.heap.size + 1, 0, none⟩ (.int .i64 d)).setCell ⟨w.heap.size + 1, 1, none⟩ (.int .i64 v)).setCell ⟨w.heap.size + 1, 2, none⟩ (.int .i64 v)).setCell ⟨w.heap.size + 1, 3, none⟩ (.int .i64 r)).setCell ⟨w.heap.size + 1, 4, none⟩ (.int .i64 k)).drew.cell? ⟨w.heap.size, 4, none⟩ = some (.int .i64 k)) := Lib.hid ⟨blk_cell (blk_drew (blk_other (i := 4) (blk_other (i := 3) (blk_other (i := 2) (blk_other (i := 1) (blk_other (i := 0) S_3.out na (.int .i64 d)) na (.int .i64 v)) na (.int .i64 v)) na (.int .i64 r)) na (.int .i64 k))) 0, blk_cell (blk_drew (blk_other (i := 4) (blk_other (i := 3) (blk_other (i := 2) (blk_other (i := 1) (blk_other (i := 0) S_3.out na (.int .i64 d)) na (.int .i64 v)) na (.int .i64 v)) na (.int .i64 r)) na (.int .i64 k))) 1, blk_cell (blk_drew (blk_other (i := 4) (blk_other (i := 3) (blk_other (i := 2) (blk_other (i := 1) (blk_other (i := 0) S_3.out na (.int .i64 d)) na (.int .i64 v)) na (.int .i64 v)) na (.int .i64 r)) na (.int .i64 k))) 2, blk_cell (blk_drew (blk_other (i := 4) (blk_other (i := 3) (blk_other (i := 2) (blk_other (i := 1) (blk_other (i := 0) S_3.out na (.int .i64 d)) na (.int .i64 v)) na (.int .i64 v)) na (.int .i64 r)) na (.int .i64 k))) 3, blk_cell (blk_drew (blk_other (i := 4) (blk_other (i := 3) (blk_other (i := 2) (blk_other (i := 1) (blk_other (i := 0) S_3.out na (.int .i64 d)) na (.int .i64 v)) na (.int .i64 v)) na (.int .i64 r)) na (.int .i64 k))) 4⟩
  have SE2 : Hid ((((((((((Y1.setCell ⟨w.heap.size + 1, 0, none⟩ (.int .i64 d)).setCell ⟨w.heap.size + 1, 1, none⟩ (.int .i64 v)).setCell ⟨w.heap.size + 1, 2, none⟩ (.int .i64 v)).setCell ⟨w.heap.size + 1, 3, none⟩ (.int .i64 r)).setCell ⟨w.heap.size + 1, 4, none⟩ (.int .i64 k)).setCell ⟨w.heap.size + 1 + 1, 0, none⟩ (.int .i64 d)).setCell ⟨w.heap.size + 1 + 1, 1, none⟩ (.int .i64 v)).setCell ⟨w.heap.size + 1 + 1, 2, none⟩ (.int .i64 v)).setCell ⟨w.heap.size + 1 + 1, 3, none⟩ (.int .i64 v)).drew.cell? ⟨w.heap.size, 0, none⟩ = some (.int .i64 d) ∧ (((((((((Y1.setCell ⟨w.heap.size + 1, 0, none⟩ (.int .i64 d)).setCell ⟨w.heap.size + 1, 1, none⟩ (.int .i64 v)).setCell ⟨w.heap.size + 1, 2, none⟩ (.int .i64 v)).setCell ⟨w.heap.size + 1, 3, none⟩ (.int .i64 r)).setCell ⟨w.heap.size + 1, 4, none⟩ (.int .i64 k)).setCell ⟨w.heap.size + 1 + 1, 0, none⟩ (.int .i64 d)).setCell ⟨w.heap.size + 1 + 1, 1, none⟩ (.int .i64 v)).setCell ⟨w.heap.size + 1 + 1, 2, none⟩ (.int .i64 v)).setCell ⟨w.heap.size + 1 + 1, 3, none⟩ (.int .i64 v)).drew.cell? ⟨w.heap.size, 1, none⟩ = some (.int .i64 v) ∧ (((((((((Y1.setCell ⟨w.heap.size + 1, 0, none⟩ (.int .i64 d)).setCell ⟨w.heap.size + 1, 1, none⟩ (.int .i64 v)).setCell ⟨w.heap.size + 1, 2, none⟩ (.int .i64 v)).setCell ⟨w.heap.size + 1, 3, none⟩ (.int .i64 r)).setCell ⟨w.heap.size + 1, 4, none⟩ (.int .i64 k)).setCell ⟨w.heap.size + 1 + 1, 0, none⟩ (.int .i64 d)).setCell ⟨w.heap.size + 1 + 1, 1, none⟩ (.int .i64 v)).setCell ⟨w.heap.size + 1 + 1, 2, none⟩ (.int .i64 v)).setCell ⟨w.heap.size + 1 + 1, 3, none⟩ (.int .i64 v)).drew.cell? ⟨w.heap.size, 2, none⟩ = some (.int .i64 v) ∧ (((((((((Y1.setCell ⟨w.heap.size + 1, 0, none⟩ (.int .i64 d)).setCell ⟨w.heap.size + 1, 1, none⟩ (.int .i64 v)).setCell ⟨w.heap.size + 1, 2, none⟩ (.int .i64 v)).setCell ⟨w.heap.size + 1, 3, none⟩ (.int .i64 r)).setCell ⟨w.heap.size + 1, 4, none⟩ (.int .i64 k)).setCell ⟨w.heap.size + 1 + 1, 0, none⟩ (.int .i64 d)).setCell ⟨w.heap.size + 1 + 1, 1, none⟩ (.int .i64 v)).setCell ⟨w.heap.size + 1 + 1, 2, none⟩ (.int .i64 v)).setCell ⟨w.heap.size + 1 + 1, 3, none⟩ (.int .i64 v)).drew.cell? ⟨w.heap.size, 3, none⟩ = some (.int .i64 r) ∧ (((((((((Y1.setCell ⟨w.heap.size + 1, 0, none⟩ (.int .i64 d)).setCell ⟨w.heap.size + 1, 1, none⟩ (.int .i64 v)).setCell ⟨w.heap.size + 1, 2, none⟩ (.int .i64 v)).setCell ⟨w.heap.size + 1, 3, none⟩ (.int .i64 r)).setCell ⟨w.heap.size + 1, 4, none⟩ (.int .i64 k)).setCell ⟨w.heap.size + 1 + 1, 0, none⟩ (.int .i64 d)).setCell ⟨w.heap.size + 1 + 1, 1, none⟩ (.int .i64 v)).setCell ⟨w.heap.size + 1 + 1, 2, none⟩ (.int .i64 v)).setCell ⟨w.heap.size + 1 + 1, 3, none⟩ (.int .i64 v)).drew.cell? ⟨w.heap.size, 4, none⟩ = some (.int .i64 k)) := Lib.hid ⟨blk_cell (blk_drew (blk_other (i := 3) (blk_other (i := 2) (blk_other (i := 1) (blk_other (i := 0) (blk_other (i := 4) (blk_other (i := 3) (blk_other (i := 2) (blk_other (i := 1) (blk_other (i := 0) S_3.out na (.int .i64 d)) na (.int .i64 v)) na (.int .i64 v)) na (.int .i64 r)) na (.int .i64 k)) nb (.int .i64 d)) nb (.int .i64 v)) nb (.int .i64 v)) nb (.int .i64 v))) 0, blk_cell (blk_drew (blk_other (i := 3) (blk_other (i := 2) (blk_other (i := 1) (blk_other (i := 0) (blk_other (i := 4) (blk_other (i := 3) (blk_other (i := 2) (blk_other (i := 1) (blk_other (i := 0) S_3.out na (.int .i64 d)) na (.int .i64 v)) na (.int .i64 v)) na (.int .i64 r)) na (.int .i64 k)) nb (.int .i64 d)) nb (.int .i64 v)) nb (.int .i64 v)) nb (.int .i64 v))) 1, blk_cell (blk_drew (blk_other (i := 3) (blk_other (i := 2) (blk_other (i := 1) (blk_other (i := 0) (blk_other (i := 4) (blk_other (i := 3) (blk_other (i := 2) (blk_other (i := 1) (blk_other (i := 0) S_3.out na (.int .i64 d)) na (.int .i64 v)) na (.int .i64 v)) na (.int .i64 r)) na (.int .i64 k)) nb (.int .i64 d)) nb (.int .i64 v)) nb (.int .i64 v)) nb (.int .i64 v))) 2, blk_cell (blk_drew (blk_other (i := 3) (blk_other (i := 2) (blk_other (i := 1) (blk_other (i := 0) (blk_other (i := 4) (blk_other (i := 3) (blk_other (i := 2) (blk_other (i := 1) (blk_other (i := 0) S_3.out na (.int .i64 d)) na (.int .i64 v)) na (.int .i64 v)) na (.int .i64 r)) na (.int .i64 k)) nb (.int .i64 d)) nb (.int .i64 v)) nb (.int .i64 v)) nb (.int .i64 v))) 3, blk_cell (blk_drew (blk_other (i := 3) (blk_other (i := 2) (blk_other (i := 1) (blk_other (i := 0) (blk_other (i := 4) (blk_other (i := 3) (blk_other (i := 2) (blk_other (i := 1) (blk_other (i := 0) S_3.out na (.int .i64 d)) na (.int .i64 v)) na (.int .i64 v)) na (.int .i64 r)) na (.int .i64 k)) nb (.int .i64 d)) nb (.int .i64 v)) nb (.int .i64 v)) nb (.int .i64 v))) 4⟩
  go_region_held3 (fun W' => W'.cell? ⟨w.heap.size, 0, none⟩ = some (.int .i64 d) ∧ W'.cell? ⟨w.heap.size, 1, none⟩ = some (.int .i64 v) ∧ W'.cell? ⟨w.heap.size, 2, none⟩ = some (.int .i64 v) ∧ W'.cell? ⟨w.heap.size, 3, none⟩ = some (.int .i64 r) ∧ W'.cell? ⟨w.heap.size, 4, none⟩ = some (.int .i64 k)) (first | (with_reducible exact SE0.out) | (with_reducible exact SE1.out) | (with_reducible exact SE2.out)) (first
    | fail)
  all_goals
    clear S_3 R_3 X_3 q_3
    go_wp2
    refine bodyPost_ret (v := .tuple #[.agg #[.int .i64 (d), .int .i64 (v), .int .i64 (v), .int .i64 (r), .int .i64 (k)], .agg #[.int .i64 (d), .int .i64 (v), .int .i64 (v), .int .i64 (v)], .int .i64 0]) (by simp [results, Try.results15, go_sem, *]) rfl ⟨rfl, ?_⟩
    (repeat' (first | (with_reducible exact QY.out) | (with_reducible exact Below.refl _ _) | (with_reducible refine Below.alloc ?_ ?_ _) | (with_reducible refine Below.setCell ?_ ?_ _) | (with_reducible refine Below.drew ?_) | (with_reducible refine below_drewN ?_ _) | omega | (dsimp only; omega) | (simp; done) | (simp; omega)))

set_option maxHeartbeats 2000000 in
theorem send_false (d a i r k v : Int) (w : World) (hS : RV d a i r k) (hV : TV v) :
    Calls Try.prog 15 #[.agg #[.int .i64 d, .int .i64 a, .int .i64 i, .int .i64 r, .int .i64 k], .int .i64 v, .bool false] w fun e w' => e = .returned (.tuple #[.agg #[.int .i64 (d), .int .i64 (a), .int .i64 (i), .int .i64 (r), .int .i64 (k)], .agg #[.int .i64 (d), .int .i64 (a), .int .i64 (i), .int .i64 (v)], .int .i64 0]) ∧ Below w.heap.size w w' := by
  have HB : Hid (InR 0 1099511627776 [v]) := Lib.hid (inR1.2 hV)
  have q_0 := Below.refl w.heap.size w
  go_enter Try.func15, Try.ntmps15
  go_wp2_with fail
  have b : Below w.heap.size w (((w.alloc (.cells #[.int .i64 d, .int .i64 a, .int .i64 i, .int .i64 r, .int .i64 k] 43)).alloc (.cells #[.int .i64 0, .int .i64 0, .int .i64 0, .int .i64 0, .int .i64 0] 43)).alloc (.cells #[.int .i64 0, .int .i64 0, .int .i64 0, .int .i64 0] 44)) := ((((Below.refl _ w).alloc (Nat.le_refl _) (.cells #[.int .i64 d, .int .i64 a, .int .i64 i, .int .i64 r, .int .i64 k] 43)).alloc (by simp only [World.size_alloc]; omega) (.cells #[.int .i64 0, .int .i64 0, .int .i64 0, .int .i64 0, .int .i64 0] 43)).alloc (by simp only [World.size_alloc]; omega) (.cells #[.int .i64 0, .int .i64 0, .int .i64 0, .int .i64 0] 44))
  have nb0 := blk_new w (.cells #[.int .i64 d, .int .i64 a, .int .i64 i, .int .i64 r, .int .i64 k] 43)
  have nb0 := (Below.heap_alloc (w.alloc (.cells #[.int .i64 d, .int .i64 a, .int .i64 i, .int .i64 r, .int .i64 k] 43)) (.cells #[.int .i64 0, .int .i64 0, .int .i64 0, .int .i64 0, .int .i64 0] 43) (w.heap.size) (by simp only [World.size_alloc]; omega)).trans nb0
  have nb0 := (Below.heap_alloc ((w.alloc (.cells #[.int .i64 d, .int .i64 a, .int .i64 i, .int .i64 r, .int .i64 k] 43)).alloc (.cells #[.int .i64 0, .int .i64 0, .int .i64 0, .int .i64 0, .int .i64 0] 43)) (.cells #[.int .i64 0, .int .i64 0, .int .i64 0, .int .i64 0] 44) (w.heap.size) (by simp only [World.size_alloc]; omega)).trans nb0
  have nz0 : w.heap.size < (((w.alloc (.cells #[.int .i64 d, .int .i64 a, .int .i64 i, .int .i64 r, .int .i64 k] 43)).alloc (.cells #[.int .i64 0, .int .i64 0, .int .i64 0, .int .i64 0, .int .i64 0] 43)).alloc (.cells #[.int .i64 0, .int .i64 0, .int .i64 0, .int .i64 0] 44)).heap.size := by simp only [World.size_alloc]; omega
  have nb1 := blk_new (w.alloc (.cells #[.int .i64 d, .int .i64 a, .int .i64 i, .int .i64 r, .int .i64 k] 43)) (.cells #[.int .i64 0, .int .i64 0, .int .i64 0, .int .i64 0, .int .i64 0] 43)
  simp only [World.size_alloc] at nb1
  have nb1 := (Below.heap_alloc ((w.alloc (.cells #[.int .i64 d, .int .i64 a, .int .i64 i, .int .i64 r, .int .i64 k] 43)).alloc (.cells #[.int .i64 0, .int .i64 0, .int .i64 0, .int .i64 0, .int .i64 0] 43)) (.cells #[.int .i64 0, .int .i64 0, .int .i64 0, .int .i64 0] 44) (w.heap.size + 1) (by simp only [World.size_alloc]; omega)).trans nb1
  have nz1 : w.heap.size + 1 < (((w.alloc (.cells #[.int .i64 d, .int .i64 a, .int .i64 i, .int .i64 r, .int .i64 k] 43)).alloc (.cells #[.int .i64 0, .int .i64 0, .int .i64 0, .int .i64 0, .int .i64 0] 43)).alloc (.cells #[.int .i64 0, .int .i64 0, .int .i64 0, .int .i64 0] 44)).heap.size := by simp only [World.size_alloc]; omega
  have nb2 := blk_new ((w.alloc (.cells #[.int .i64 d, .int .i64 a, .int .i64 i, .int .i64 r, .int .i64 k] 43)).alloc (.cells #[.int .i64 0, .int .i64 0, .int .i64 0, .int .i64 0, .int .i64 0] 43)) (.cells #[.int .i64 0, .int .i64 0, .int .i64 0, .int .i64 0] 44)
  simp only [World.size_alloc] at nb2
  have nz2 : w.heap.size + 2 < (((w.alloc (.cells #[.int .i64 d, .int .i64 a, .int .i64 i, .int .i64 r, .int .i64 k] 43)).alloc (.cells #[.int .i64 0, .int .i64 0, .int .i64 0, .int .i64 0, .int .i64 0] 43)).alloc (.cells #[.int .i64 0, .int .i64 0, .int .i64 0, .int .i64 0] 44)).heap.size := by simp only [World.size_alloc]; omega
  have q_1 := q_0.trans (b.mono q_0.size)
  clear q_0
  clear b
  have S_1 := Lib.hid nb0
  have Sz_1 := nz0
  clear nb0 nz0
  have Sc0_1 := blk_cell S_1.out 0
  have Sc1_1 := blk_cell S_1.out 1
  have Sc2_1 := blk_cell S_1.out 2
  have Sc3_1 := blk_cell S_1.out 3
  have Sc4_1 := blk_cell S_1.out 4
  have R_1 := Lib.hid nb1
  have Rz_1 := nz1
  clear nb1 nz1
  have Rc0_1 := blk_cell R_1.out 0
  have Rc1_1 := blk_cell R_1.out 1
  have Rc2_1 := blk_cell R_1.out 2
  have Rc3_1 := blk_cell R_1.out 3
  have Rc4_1 := blk_cell R_1.out 4
  have X_1 := Lib.hid nb2
  have Xz_1 := nz2
  clear nb2 nz2
  have Xc0_1 := blk_cell X_1.out 0
  have Xc1_1 := blk_cell X_1.out 1
  have Xc2_1 := blk_cell X_1.out 2
  have Xc3_1 := blk_cell X_1.out 3
  generalize (((w.alloc (.cells #[.int .i64 d, .int .i64 a, .int .i64 i, .int .i64 r, .int .i64 k] 43)).alloc (.cells #[.int .i64 0, .int .i64 0, .int .i64 0, .int .i64 0, .int .i64 0] 43)).alloc (.cells #[.int .i64 0, .int .i64 0, .int .i64 0, .int .i64 0] 44)) = V1 at q_1 S_1 Sz_1 Sc0_1 Sc1_1 Sc2_1 Sc3_1 Sc4_1 R_1 Rz_1 Rc0_1 Rc1_1 Rc2_1 Rc3_1 Rc4_1 X_1 Xz_1 Xc0_1 Xc1_1 Xc2_1 Xc3_1 ⊢
  refine (rmay_yes d a i r k _ hS).mono ?_
  rintro e V2 ⟨rfl, b⟩
  have S_2 := Lib.hid ((b.block _ Sz_1).trans S_1.out)
  have Sz_2 := Nat.lt_of_lt_of_le Sz_1 b.size
  have Sc0_2 := blk_cell S_2.out 0
  have Sc1_2 := blk_cell S_2.out 1
  have Sc2_2 := blk_cell S_2.out 2
  have Sc3_2 := blk_cell S_2.out 3
  have Sc4_2 := blk_cell S_2.out 4
  have R_2 := Lib.hid ((b.block _ Rz_1).trans R_1.out)
  have Rz_2 := Nat.lt_of_lt_of_le Rz_1 b.size
  have Rc0_2 := blk_cell R_2.out 0
  have Rc1_2 := blk_cell R_2.out 1
  have Rc2_2 := blk_cell R_2.out 2
  have Rc3_2 := blk_cell R_2.out 3
  have Rc4_2 := blk_cell R_2.out 4
  have X_2 := Lib.hid ((b.block _ Xz_1).trans X_1.out)
  have Xz_2 := Nat.lt_of_lt_of_le Xz_1 b.size
  have Xc0_2 := blk_cell X_2.out 0
  have Xc1_2 := blk_cell X_2.out 1
  have Xc2_2 := blk_cell X_2.out 2
  have Xc3_2 := blk_cell X_2.out 3
  have q_2 := q_1.trans (b.mono q_1.size)
  clear S_1 Sz_1 Sc0_1 Sc1_1 Sc2_1 Sc3_1 Sc4_1 R_1 Rz_1 Rc0_1 Rc1_1 Rc2_1 Rc3_1 Rc4_1 X_1 Xz_1 Xc0_1 Xc1_1 Xc2_1 Xc3_1 q_1
  clear b
  have fS0 := blk_free S_2.out 0
  have fS1 := blk_free S_2.out 1
  have fS2 := blk_free S_2.out 2
  have fS3 := blk_free S_2.out 3
  have fS4 := blk_free S_2.out 4
  have fR0 := blk_free R_2.out 0
  have fR1 := blk_free R_2.out 1
  have fR2 := blk_free R_2.out 2
  have fR3 := blk_free R_2.out 3
  have fR4 := blk_free R_2.out 4
  have fX0 := blk_free X_2.out 0
  have fX1 := blk_free X_2.out 1
  have fX2 := blk_free X_2.out 2
  have fX3 := blk_free X_2.out 3
  go_wp2_with fail
  refine (wn_yes 0 1099511627776 [v] _ _ _ _ _ _ rfl rfl (by simp) (by simp) HB.out).mono ?_
  rintro e w' ⟨rfl, rfl⟩
  go_wp2_with fail
  clear fS0 fS1 fS2 fS3 fS4 fR0 fR1 fR2 fR3 fR4 fX0 fX1 fX2 fX3
  have ys : V2.heap.size = V2.heap.size := by simp
  have yb : Below V2.heap.size V2 (V2.alloc (.cells #[.int .i64 v] 3)) := ((Below.refl V2.heap.size V2).alloc (by first | exact Nat.le_refl _ | (simp only [World.size_alloc]; omega)) (.cells #[.int .i64 v] 3))
  clear Sc0_2 Sc1_2 Sc2_2 Sc3_2 Sc4_2 Rc0_2 Rc1_2 Rc2_2 Rc3_2 Rc4_2 Xc0_2 Xc1_2 Xc2_2 Xc3_2
  have S_3 : Hid ((V2.alloc (.cells #[.int .i64 v] 3)).heap[w.heap.size]? = some (.cells #[.int .i64 d, .int .i64 a, .int .i64 i, .int .i64 r, .int .i64 k] 43 (0, 0))) := Lib.hid ((yb.block _ (by rw [ys]; exact Sz_2)).trans S_2.out)
  have R_3 : Hid ((V2.alloc (.cells #[.int .i64 v] 3)).heap[w.heap.size + 1]? = some (.cells #[.int .i64 0, .int .i64 0, .int .i64 0, .int .i64 0, .int .i64 0] 43 (0, 0))) := Lib.hid ((yb.block _ (by rw [ys]; exact Rz_2)).trans R_2.out)
  have X_3 : Hid ((V2.alloc (.cells #[.int .i64 v] 3)).heap[w.heap.size + 2]? = some (.cells #[.int .i64 0, .int .i64 0, .int .i64 0, .int .i64 0] 44 (0, 0))) := Lib.hid ((yb.block _ (by rw [ys]; exact Xz_2)).trans X_2.out)
  have q_3 : Below w.heap.size w (V2.alloc (.cells #[.int .i64 v] 3)) := below_after q_2 yb
  clear yb ys q_2 S_2 Sz_2 R_2 Rz_2 X_2 Xz_2
  generalize (V2.alloc (.cells #[.int .i64 v] 3)) = Y1 at q_3 S_3 R_3 X_3 ⊢
  have Sz_3 := blk_lt S_3.out
  have Sc0_3 := blk_cell S_3.out 0
  have Sc1_3 := blk_cell S_3.out 1
  have Sc2_3 := blk_cell S_3.out 2
  have Sc3_3 := blk_cell S_3.out 3
  have Sc4_3 := blk_cell S_3.out 4
  have fS0 := blk_free S_3.out 0
  have fS1 := blk_free S_3.out 1
  have fS2 := blk_free S_3.out 2
  have fS3 := blk_free S_3.out 3
  have fS4 := blk_free S_3.out 4
  have Rz_3 := blk_lt R_3.out
  have Rc0_3 := blk_cell R_3.out 0
  have Rc1_3 := blk_cell R_3.out 1
  have Rc2_3 := blk_cell R_3.out 2
  have Rc3_3 := blk_cell R_3.out 3
  have Rc4_3 := blk_cell R_3.out 4
  have fR0 := blk_free R_3.out 0
  have fR1 := blk_free R_3.out 1
  have fR2 := blk_free R_3.out 2
  have fR3 := blk_free R_3.out 3
  have fR4 := blk_free R_3.out 4
  have Xz_3 := blk_lt X_3.out
  have Xc0_3 := blk_cell X_3.out 0
  have Xc1_3 := blk_cell X_3.out 1
  have Xc2_3 := blk_cell X_3.out 2
  have Xc3_3 := blk_cell X_3.out 3
  have fX0 := blk_free X_3.out 0
  have fX1 := blk_free X_3.out 1
  have fX2 := blk_free X_3.out 2
  have fX3 := blk_free X_3.out 3
  go_wp2_with fail
  have QY := Lib.hid q_3
  have na : w.heap.size + 1 ≠ w.heap.size := by omega
  have nb : w.heap.size + 1 + 1 ≠ w.heap.size := by omega
  have SE0 : Hid (Y1.drew.cell? ⟨w.heap.size, 0, none⟩ = some (.int .i64 d) ∧ Y1.drew.cell? ⟨w.heap.size, 1, none⟩ = some (.int .i64 a) ∧ Y1.drew.cell? ⟨w.heap.size, 2, none⟩ = some (.int .i64 i) ∧ Y1.drew.cell? ⟨w.heap.size, 3, none⟩ = some (.int .i64 r) ∧ Y1.drew.cell? ⟨w.heap.size, 4, none⟩ = some (.int .i64 k)) := Lib.hid ⟨blk_cell (blk_drew S_3.out) 0, blk_cell (blk_drew S_3.out) 1, blk_cell (blk_drew S_3.out) 2, blk_cell (blk_drew S_3.out) 3, blk_cell (blk_drew S_3.out) 4⟩
  have SE1 : Hid ((((((Y1.setCell ⟨w.heap.size + 1, 0, none⟩ (.int .i64 d)).setCell ⟨w.heap.size + 1, 1, none⟩ (.int .i64 a)).setCell ⟨w.heap.size + 1, 2, none⟩ (.int .i64 i)).setCell ⟨w.heap.size + 1, 3, none⟩ (.int .i64 r)).setCell ⟨w.heap.size + 1, 4, none⟩ (.int .i64 k)).drew.cell? ⟨w.heap.size, 0, none⟩ = some (.int .i64 d) ∧ (((((Y1.setCell ⟨w.heap.size + 1, 0, none⟩ (.int .i64 d)).setCell ⟨w.heap.size + 1, 1, none⟩ (.int .i64 a)).setCell ⟨w.heap.size + 1, 2, none⟩ (.int .i64 i)).setCell ⟨w.heap.size + 1, 3, none⟩ (.int .i64 r)).setCell ⟨w.heap.size + 1, 4, none⟩ (.int .i64 k)).drew.cell? ⟨w.heap.size, 1, none⟩ = some (.int .i64 a) ∧ (((((Y1.setCell ⟨w.heap.size + 1, 0, none⟩ (.int .i64 d)).setCell ⟨w.heap.size + 1, 1, none⟩ (.int .i64 a)).setCell ⟨w.heap.size + 1, 2, none⟩ (.int .i64 i)).setCell ⟨w.heap.size + 1, 3, none⟩ (.int .i64 r)).setCell ⟨w.heap.size + 1, 4, none⟩ (.int .i64 k)).drew.cell? ⟨w.heap.size, 2, none⟩ = some (.int .i64 i) ∧ (((((Y1.setCell ⟨w.heap.size + 1, 0, none⟩ (.int .i64 d)).setCell ⟨w.heap.size + 1, 1, none⟩ (.int .i64 a)).setCell ⟨w.heap.size + 1, 2, none⟩ (.int .i64 i)).setCell ⟨w.heap.size + 1, 3, none⟩ (.int .i64 r)).setCell ⟨w.heap.size + 1, 4, none⟩ (.int .i64 k)).drew.cell? ⟨w.heap.size, 3, none⟩ = some (.int .i64 r) ∧ (((((Y1.setCell ⟨w.heap.size + 1, 0, none⟩ (.int .i64 d)).setCell ⟨w.heap.size + 1, 1, none⟩ (.int .i64 a)).setCell ⟨w.heap.size + 1, 2, none⟩ (.int .i64 i)).setCell ⟨w.heap.size + 1, 3, none⟩ (.int .i64 r)).setCell ⟨w.heap.size + 1, 4, none⟩ (.int .i64 k)).drew.cell? ⟨w.heap.size, 4, none⟩ = some (.int .i64 k)) := Lib.hid ⟨blk_cell (blk_drew (blk_other (i := 4) (blk_other (i := 3) (blk_other (i := 2) (blk_other (i := 1) (blk_other (i := 0) S_3.out na (.int .i64 d)) na (.int .i64 a)) na (.int .i64 i)) na (.int .i64 r)) na (.int .i64 k))) 0, blk_cell (blk_drew (blk_other (i := 4) (blk_other (i := 3) (blk_other (i := 2) (blk_other (i := 1) (blk_other (i := 0) S_3.out na (.int .i64 d)) na (.int .i64 a)) na (.int .i64 i)) na (.int .i64 r)) na (.int .i64 k))) 1, blk_cell (blk_drew (blk_other (i := 4) (blk_other (i := 3) (blk_other (i := 2) (blk_other (i := 1) (blk_other (i := 0) S_3.out na (.int .i64 d)) na (.int .i64 a)) na (.int .i64 i)) na (.int .i64 r)) na (.int .i64 k))) 2, blk_cell (blk_drew (blk_other (i := 4) (blk_other (i := 3) (blk_other (i := 2) (blk_other (i := 1) (blk_other (i := 0) S_3.out na (.int .i64 d)) na (.int .i64 a)) na (.int .i64 i)) na (.int .i64 r)) na (.int .i64 k))) 3, blk_cell (blk_drew (blk_other (i := 4) (blk_other (i := 3) (blk_other (i := 2) (blk_other (i := 1) (blk_other (i := 0) S_3.out na (.int .i64 d)) na (.int .i64 a)) na (.int .i64 i)) na (.int .i64 r)) na (.int .i64 k))) 4⟩
  have SE2 : Hid ((((((((((Y1.setCell ⟨w.heap.size + 1, 0, none⟩ (.int .i64 d)).setCell ⟨w.heap.size + 1, 1, none⟩ (.int .i64 a)).setCell ⟨w.heap.size + 1, 2, none⟩ (.int .i64 i)).setCell ⟨w.heap.size + 1, 3, none⟩ (.int .i64 r)).setCell ⟨w.heap.size + 1, 4, none⟩ (.int .i64 k)).setCell ⟨w.heap.size + 1 + 1, 0, none⟩ (.int .i64 d)).setCell ⟨w.heap.size + 1 + 1, 1, none⟩ (.int .i64 a)).setCell ⟨w.heap.size + 1 + 1, 2, none⟩ (.int .i64 i)).setCell ⟨w.heap.size + 1 + 1, 3, none⟩ (.int .i64 v)).drew.cell? ⟨w.heap.size, 0, none⟩ = some (.int .i64 d) ∧ (((((((((Y1.setCell ⟨w.heap.size + 1, 0, none⟩ (.int .i64 d)).setCell ⟨w.heap.size + 1, 1, none⟩ (.int .i64 a)).setCell ⟨w.heap.size + 1, 2, none⟩ (.int .i64 i)).setCell ⟨w.heap.size + 1, 3, none⟩ (.int .i64 r)).setCell ⟨w.heap.size + 1, 4, none⟩ (.int .i64 k)).setCell ⟨w.heap.size + 1 + 1, 0, none⟩ (.int .i64 d)).setCell ⟨w.heap.size + 1 + 1, 1, none⟩ (.int .i64 a)).setCell ⟨w.heap.size + 1 + 1, 2, none⟩ (.int .i64 i)).setCell ⟨w.heap.size + 1 + 1, 3, none⟩ (.int .i64 v)).drew.cell? ⟨w.heap.size, 1, none⟩ = some (.int .i64 a) ∧ (((((((((Y1.setCell ⟨w.heap.size + 1, 0, none⟩ (.int .i64 d)).setCell ⟨w.heap.size + 1, 1, none⟩ (.int .i64 a)).setCell ⟨w.heap.size + 1, 2, none⟩ (.int .i64 i)).setCell ⟨w.heap.size + 1, 3, none⟩ (.int .i64 r)).setCell ⟨w.heap.size + 1, 4, none⟩ (.int .i64 k)).setCell ⟨w.heap.size + 1 + 1, 0, none⟩ (.int .i64 d)).setCell ⟨w.heap.size + 1 + 1, 1, none⟩ (.int .i64 a)).setCell ⟨w.heap.size + 1 + 1, 2, none⟩ (.int .i64 i)).setCell ⟨w.heap.size + 1 + 1, 3, none⟩ (.int .i64 v)).drew.cell? ⟨w.heap.size, 2, none⟩ = some (.int .i64 i) ∧ (((((((((Y1.setCell ⟨w.heap.size + 1, 0, none⟩ (.int .i64 d)).setCell ⟨w.heap.size + 1, 1, none⟩ (.int .i64 a)).setCell ⟨w.heap.size + 1, 2, none⟩ (.int .i64 i)).setCell ⟨w.heap.size + 1, 3, none⟩ (.int .i64 r)).setCell ⟨w.heap.size + 1, 4, none⟩ (.int .i64 k)).setCell ⟨w.heap.size + 1 + 1, 0, none⟩ (.int .i64 d)).setCell ⟨w.heap.size + 1 + 1, 1, none⟩ (.int .i64 a)).setCell ⟨w.heap.size + 1 + 1, 2, none⟩ (.int .i64 i)).setCell ⟨w.heap.size + 1 + 1, 3, none⟩ (.int .i64 v)).drew.cell? ⟨w.heap.size, 3, none⟩ = some (.int .i64 r) ∧ (((((((((Y1.setCell ⟨w.heap.size + 1, 0, none⟩ (.int .i64 d)).setCell ⟨w.heap.size + 1, 1, none⟩ (.int .i64 a)).setCell ⟨w.heap.size + 1, 2, none⟩ (.int .i64 i)).setCell ⟨w.heap.size + 1, 3, none⟩ (.int .i64 r)).setCell ⟨w.heap.size + 1, 4, none⟩ (.int .i64 k)).setCell ⟨w.heap.size + 1 + 1, 0, none⟩ (.int .i64 d)).setCell ⟨w.heap.size + 1 + 1, 1, none⟩ (.int .i64 a)).setCell ⟨w.heap.size + 1 + 1, 2, none⟩ (.int .i64 i)).setCell ⟨w.heap.size + 1 + 1, 3, none⟩ (.int .i64 v)).drew.cell? ⟨w.heap.size, 4, none⟩ = some (.int .i64 k)) := Lib.hid ⟨blk_cell (blk_drew (blk_other (i := 3) (blk_other (i := 2) (blk_other (i := 1) (blk_other (i := 0) (blk_other (i := 4) (blk_other (i := 3) (blk_other (i := 2) (blk_other (i := 1) (blk_other (i := 0) S_3.out na (.int .i64 d)) na (.int .i64 a)) na (.int .i64 i)) na (.int .i64 r)) na (.int .i64 k)) nb (.int .i64 d)) nb (.int .i64 a)) nb (.int .i64 i)) nb (.int .i64 v))) 0, blk_cell (blk_drew (blk_other (i := 3) (blk_other (i := 2) (blk_other (i := 1) (blk_other (i := 0) (blk_other (i := 4) (blk_other (i := 3) (blk_other (i := 2) (blk_other (i := 1) (blk_other (i := 0) S_3.out na (.int .i64 d)) na (.int .i64 a)) na (.int .i64 i)) na (.int .i64 r)) na (.int .i64 k)) nb (.int .i64 d)) nb (.int .i64 a)) nb (.int .i64 i)) nb (.int .i64 v))) 1, blk_cell (blk_drew (blk_other (i := 3) (blk_other (i := 2) (blk_other (i := 1) (blk_other (i := 0) (blk_other (i := 4) (blk_other (i := 3) (blk_other (i := 2) (blk_other (i := 1) (blk_other (i := 0) S_3.out na (.int .i64 d)) na (.int .i64 a)) na (.int .i64 i)) na (.int .i64 r)) na (.int .i64 k)) nb (.int .i64 d)) nb (.int .i64 a)) nb (.int .i64 i)) nb (.int .i64 v))) 2, blk_cell (blk_drew (blk_other (i := 3) (blk_other (i := 2) (blk_other (i := 1) (blk_other (i := 0) (blk_other (i := 4) (blk_other (i := 3) (blk_other (i := 2) (blk_other (i := 1) (blk_other (i := 0) S_3.out na (.int .i64 d)) na (.int .i64 a)) na (.int .i64 i)) na (.int .i64 r)) na (.int .i64 k)) nb (.int .i64 d)) nb (.int .i64 a)) nb (.int .i64 i)) nb (.int .i64 v))) 3, blk_cell (blk_drew (blk_other (i := 3) (blk_other (i := 2) (blk_other (i := 1) (blk_other (i := 0) (blk_other (i := 4) (blk_other (i := 3) (blk_other (i := 2) (blk_other (i := 1) (blk_other (i := 0) S_3.out na (.int .i64 d)) na (.int .i64 a)) na (.int .i64 i)) na (.int .i64 r)) na (.int .i64 k)) nb (.int .i64 d)) nb (.int .i64 a)) nb (.int .i64 i)) nb (.int .i64 v))) 4⟩
  go_region_held3 (fun W' => W'.cell? ⟨w.heap.size, 0, none⟩ = some (.int .i64 d) ∧ W'.cell? ⟨w.heap.size, 1, none⟩ = some (.int .i64 a) ∧ W'.cell? ⟨w.heap.size, 2, none⟩ = some (.int .i64 i) ∧ W'.cell? ⟨w.heap.size, 3, none⟩ = some (.int .i64 r) ∧ W'.cell? ⟨w.heap.size, 4, none⟩ = some (.int .i64 k)) (first | (with_reducible exact SE0.out) | (with_reducible exact SE1.out) | (with_reducible exact SE2.out)) (first
    | fail)
  all_goals
    clear S_3 R_3 X_3 q_3
    go_wp2
    refine bodyPost_ret (v := .tuple #[.agg #[.int .i64 (d), .int .i64 (a), .int .i64 (i), .int .i64 (r), .int .i64 (k)], .agg #[.int .i64 (d), .int .i64 (a), .int .i64 (i), .int .i64 (v)], .int .i64 0]) (by simp [results, Try.results15, go_sem, *]) rfl ⟨rfl, ?_⟩
    (repeat' (first | (with_reducible exact QY.out) | (with_reducible exact Below.refl _ _) | (with_reducible refine Below.alloc ?_ ?_ _) | (with_reducible refine Below.setCell ?_ ?_ _) | (with_reducible refine Below.drew ?_) | (with_reducible refine below_drewN ?_ _) | omega | (dsimp only; omega) | (simp; done) | (simp; omega)))

end Go.Proofs.Ytlkpcojhpndieaa
