/- Reno: the calls of the program. -/
import Derived.Test.YtmjcckpppflpjaaRnB
namespace Go.Proofs.Ytmjcckpppflpjaa
open Go.RowKit Go.Proofs.Ytmjcckpppflpjaa.Rn

set_option maxHeartbeats 2000000 in
theorem ack_slow (c t a m n : Int) (w : World) (hM : MV m) (hS : SV c t a m) (hN : NV n) (hct : c < t) :
    Calls Try.prog 7 #[.agg #[.int .i64 c, .int .i64 t, .int .i64 a], .int .i64 m, .int .i64 n] w fun e w' => e = .returned (.tuple #[.agg #[.int .i64 (min (c + min n m) 1073741824), .int .i64 (t), .int .i64 (a)], .int .i64 0]) ∧ Below w.heap.size w w' := by
  have q_0 := Below.refl w.heap.size w
  go_enter Try.func7, Try.ntmps7
  go_wp2_with fail
  have b : Below w.heap.size w ((((w.alloc (.cells #[.int .i64 c, .int .i64 t, .int .i64 a] 24)).alloc (.cells #[.int .i64 m] 3)).alloc (.cells #[.int .i64 n] 3)).alloc (.cells #[.int .i64 0, .int .i64 0, .int .i64 0] 24)) := (((((Below.refl _ w).alloc (Nat.le_refl _) (.cells #[.int .i64 c, .int .i64 t, .int .i64 a] 24)).alloc (by simp only [World.size_alloc]; omega) (.cells #[.int .i64 m] 3)).alloc (by simp only [World.size_alloc]; omega) (.cells #[.int .i64 n] 3)).alloc (by simp only [World.size_alloc]; omega) (.cells #[.int .i64 0, .int .i64 0, .int .i64 0] 24))
  have nb1 := blk_new (w.alloc (.cells #[.int .i64 c, .int .i64 t, .int .i64 a] 24)) (.cells #[.int .i64 m] 3)
  simp only [World.size_alloc] at nb1
  have nb1 := (Below.heap_alloc ((w.alloc (.cells #[.int .i64 c, .int .i64 t, .int .i64 a] 24)).alloc (.cells #[.int .i64 m] 3)) (.cells #[.int .i64 n] 3) (w.heap.size + 1) (by simp only [World.size_alloc]; omega)).trans nb1
  have nb1 := (Below.heap_alloc (((w.alloc (.cells #[.int .i64 c, .int .i64 t, .int .i64 a] 24)).alloc (.cells #[.int .i64 m] 3)).alloc (.cells #[.int .i64 n] 3)) (.cells #[.int .i64 0, .int .i64 0, .int .i64 0] 24) (w.heap.size + 1) (by simp only [World.size_alloc]; omega)).trans nb1
  have nz1 : w.heap.size + 1 < ((((w.alloc (.cells #[.int .i64 c, .int .i64 t, .int .i64 a] 24)).alloc (.cells #[.int .i64 m] 3)).alloc (.cells #[.int .i64 n] 3)).alloc (.cells #[.int .i64 0, .int .i64 0, .int .i64 0] 24)).heap.size := by simp only [World.size_alloc]; omega
  have nb2 := blk_new ((w.alloc (.cells #[.int .i64 c, .int .i64 t, .int .i64 a] 24)).alloc (.cells #[.int .i64 m] 3)) (.cells #[.int .i64 n] 3)
  simp only [World.size_alloc] at nb2
  have nb2 := (Below.heap_alloc (((w.alloc (.cells #[.int .i64 c, .int .i64 t, .int .i64 a] 24)).alloc (.cells #[.int .i64 m] 3)).alloc (.cells #[.int .i64 n] 3)) (.cells #[.int .i64 0, .int .i64 0, .int .i64 0] 24) (w.heap.size + 2) (by simp only [World.size_alloc]; omega)).trans nb2
  have nz2 : w.heap.size + 2 < ((((w.alloc (.cells #[.int .i64 c, .int .i64 t, .int .i64 a] 24)).alloc (.cells #[.int .i64 m] 3)).alloc (.cells #[.int .i64 n] 3)).alloc (.cells #[.int .i64 0, .int .i64 0, .int .i64 0] 24)).heap.size := by simp only [World.size_alloc]; omega
  have nb3 := blk_new (((w.alloc (.cells #[.int .i64 c, .int .i64 t, .int .i64 a] 24)).alloc (.cells #[.int .i64 m] 3)).alloc (.cells #[.int .i64 n] 3)) (.cells #[.int .i64 0, .int .i64 0, .int .i64 0] 24)
  simp only [World.size_alloc] at nb3
  have nz3 : w.heap.size + 3 < ((((w.alloc (.cells #[.int .i64 c, .int .i64 t, .int .i64 a] 24)).alloc (.cells #[.int .i64 m] 3)).alloc (.cells #[.int .i64 n] 3)).alloc (.cells #[.int .i64 0, .int .i64 0, .int .i64 0] 24)).heap.size := by simp only [World.size_alloc]; omega
  have q_1 := q_0.trans (b.mono q_0.size)
  clear q_0
  clear b
  have M_1 := Lib.hid nb1
  have Mz_1 := nz1
  clear nb1 nz1
  have N_1 := Lib.hid nb2
  have Nz_1 := nz2
  clear nb2 nz2
  have R_1 := Lib.hid nb3
  have Rz_1 := nz3
  clear nb3 nz3
  have Rc0_1 := blk_cell R_1.out 0
  have Rc1_1 := blk_cell R_1.out 1
  have Rc2_1 := blk_cell R_1.out 2
  generalize ((((w.alloc (.cells #[.int .i64 c, .int .i64 t, .int .i64 a] 24)).alloc (.cells #[.int .i64 m] 3)).alloc (.cells #[.int .i64 n] 3)).alloc (.cells #[.int .i64 0, .int .i64 0, .int .i64 0] 24)) = V1 at q_1 M_1 Mz_1 N_1 Nz_1 R_1 Rz_1 Rc0_1 Rc1_1 Rc2_1 ⊢
  refine (beh_ack_slow c t a m n _ _ _ hM hS hN hct M_1.out N_1.out).mono ?_
  rintro e V2 ⟨rfl, b⟩
  have R_2 := Lib.hid ((b.block _ Rz_1).trans R_1.out)
  have Rz_2 := Nat.lt_of_lt_of_le Rz_1 b.size
  have Rc0_2 := blk_cell R_2.out 0
  have Rc1_2 := blk_cell R_2.out 1
  have Rc2_2 := blk_cell R_2.out 2
  have q_2 := q_1.trans (b.mono q_1.size)
  clear M_1 Mz_1 N_1 Nz_1 R_1 Rz_1 Rc0_1 Rc1_1 Rc2_1 q_1
  clear b
  have rf0 := blk_free R_2.out 0
  have rf1 := blk_free R_2.out 1
  have rf2 := blk_free R_2.out 2
  have QY := Lib.hid q_2
  clear R_2
  go_wp2
  refine bodyPost_ret (v := .tuple #[.agg #[.int .i64 (min (c + min n m) 1073741824), .int .i64 (t), .int .i64 (a)], .int .i64 0]) (by simp [results, Try.results7, go_sem, *]) rfl ⟨rfl, ?_⟩
  (repeat' (first | (with_reducible exact QY.out) | (with_reducible exact Below.refl _ _) | (with_reducible refine Below.alloc ?_ ?_ _) | (with_reducible refine Below.setCell ?_ ?_ _) | (with_reducible refine Below.drew ?_) | (with_reducible refine below_drewN ?_ _) | omega | (dsimp only; omega) | (simp; done) | (simp; omega)))

set_option maxHeartbeats 2000000 in
theorem ack_up (c t a m n : Int) (w : World) (hM : MV m) (hS : SV c t a m) (hN : NV n) (hct : t ≤ c) (hup : c ≤ min (a + n) 1073741824) :
    Calls Try.prog 7 #[.agg #[.int .i64 c, .int .i64 t, .int .i64 a], .int .i64 m, .int .i64 n] w fun e w' => e = .returned (.tuple #[.agg #[.int .i64 (min (c + m) 1073741824), .int .i64 (t), .int .i64 (min (a + n) 1073741824 - c)], .int .i64 0]) ∧ Below w.heap.size w w' := by
  have q_0 := Below.refl w.heap.size w
  go_enter Try.func7, Try.ntmps7
  go_wp2_with fail
  have b : Below w.heap.size w ((((w.alloc (.cells #[.int .i64 c, .int .i64 t, .int .i64 a] 24)).alloc (.cells #[.int .i64 m] 3)).alloc (.cells #[.int .i64 n] 3)).alloc (.cells #[.int .i64 0, .int .i64 0, .int .i64 0] 24)) := (((((Below.refl _ w).alloc (Nat.le_refl _) (.cells #[.int .i64 c, .int .i64 t, .int .i64 a] 24)).alloc (by simp only [World.size_alloc]; omega) (.cells #[.int .i64 m] 3)).alloc (by simp only [World.size_alloc]; omega) (.cells #[.int .i64 n] 3)).alloc (by simp only [World.size_alloc]; omega) (.cells #[.int .i64 0, .int .i64 0, .int .i64 0] 24))
  have nb1 := blk_new (w.alloc (.cells #[.int .i64 c, .int .i64 t, .int .i64 a] 24)) (.cells #[.int .i64 m] 3)
  simp only [World.size_alloc] at nb1
  have nb1 := (Below.heap_alloc ((w.alloc (.cells #[.int .i64 c, .int .i64 t, .int .i64 a] 24)).alloc (.cells #[.int .i64 m] 3)) (.cells #[.int .i64 n] 3) (w.heap.size + 1) (by simp only [World.size_alloc]; omega)).trans nb1
  have nb1 := (Below.heap_alloc (((w.alloc (.cells #[.int .i64 c, .int .i64 t, .int .i64 a] 24)).alloc (.cells #[.int .i64 m] 3)).alloc (.cells #[.int .i64 n] 3)) (.cells #[.int .i64 0, .int .i64 0, .int .i64 0] 24) (w.heap.size + 1) (by simp only [World.size_alloc]; omega)).trans nb1
  have nz1 : w.heap.size + 1 < ((((w.alloc (.cells #[.int .i64 c, .int .i64 t, .int .i64 a] 24)).alloc (.cells #[.int .i64 m] 3)).alloc (.cells #[.int .i64 n] 3)).alloc (.cells #[.int .i64 0, .int .i64 0, .int .i64 0] 24)).heap.size := by simp only [World.size_alloc]; omega
  have nb2 := blk_new ((w.alloc (.cells #[.int .i64 c, .int .i64 t, .int .i64 a] 24)).alloc (.cells #[.int .i64 m] 3)) (.cells #[.int .i64 n] 3)
  simp only [World.size_alloc] at nb2
  have nb2 := (Below.heap_alloc (((w.alloc (.cells #[.int .i64 c, .int .i64 t, .int .i64 a] 24)).alloc (.cells #[.int .i64 m] 3)).alloc (.cells #[.int .i64 n] 3)) (.cells #[.int .i64 0, .int .i64 0, .int .i64 0] 24) (w.heap.size + 2) (by simp only [World.size_alloc]; omega)).trans nb2
  have nz2 : w.heap.size + 2 < ((((w.alloc (.cells #[.int .i64 c, .int .i64 t, .int .i64 a] 24)).alloc (.cells #[.int .i64 m] 3)).alloc (.cells #[.int .i64 n] 3)).alloc (.cells #[.int .i64 0, .int .i64 0, .int .i64 0] 24)).heap.size := by simp only [World.size_alloc]; omega
  have nb3 := blk_new (((w.alloc (.cells #[.int .i64 c, .int .i64 t, .int .i64 a] 24)).alloc (.cells #[.int .i64 m] 3)).alloc (.cells #[.int .i64 n] 3)) (.cells #[.int .i64 0, .int .i64 0, .int .i64 0] 24)
  simp only [World.size_alloc] at nb3
  have nz3 : w.heap.size + 3 < ((((w.alloc (.cells #[.int .i64 c, .int .i64 t, .int .i64 a] 24)).alloc (.cells #[.int .i64 m] 3)).alloc (.cells #[.int .i64 n] 3)).alloc (.cells #[.int .i64 0, .int .i64 0, .int .i64 0] 24)).heap.size := by simp only [World.size_alloc]; omega
  have q_1 := q_0.trans (b.mono q_0.size)
  clear q_0
  clear b
  have M_1 := Lib.hid nb1
  have Mz_1 := nz1
  clear nb1 nz1
  have N_1 := Lib.hid nb2
  have Nz_1 := nz2
  clear nb2 nz2
  have R_1 := Lib.hid nb3
  have Rz_1 := nz3
  clear nb3 nz3
  have Rc0_1 := blk_cell R_1.out 0
  have Rc1_1 := blk_cell R_1.out 1
  have Rc2_1 := blk_cell R_1.out 2
  generalize ((((w.alloc (.cells #[.int .i64 c, .int .i64 t, .int .i64 a] 24)).alloc (.cells #[.int .i64 m] 3)).alloc (.cells #[.int .i64 n] 3)).alloc (.cells #[.int .i64 0, .int .i64 0, .int .i64 0] 24)) = V1 at q_1 M_1 Mz_1 N_1 Nz_1 R_1 Rz_1 Rc0_1 Rc1_1 Rc2_1 ⊢
  refine (beh_ack_up c t a m n _ _ _ hM hS hN hct hup M_1.out N_1.out).mono ?_
  rintro e V2 ⟨rfl, b⟩
  have R_2 := Lib.hid ((b.block _ Rz_1).trans R_1.out)
  have Rz_2 := Nat.lt_of_lt_of_le Rz_1 b.size
  have Rc0_2 := blk_cell R_2.out 0
  have Rc1_2 := blk_cell R_2.out 1
  have Rc2_2 := blk_cell R_2.out 2
  have q_2 := q_1.trans (b.mono q_1.size)
  clear M_1 Mz_1 N_1 Nz_1 R_1 Rz_1 Rc0_1 Rc1_1 Rc2_1 q_1
  clear b
  have rf0 := blk_free R_2.out 0
  have rf1 := blk_free R_2.out 1
  have rf2 := blk_free R_2.out 2
  have QY := Lib.hid q_2
  clear R_2
  go_wp2
  refine bodyPost_ret (v := .tuple #[.agg #[.int .i64 (min (c + m) 1073741824), .int .i64 (t), .int .i64 (min (a + n) 1073741824 - c)], .int .i64 0]) (by simp [results, Try.results7, go_sem, *]) rfl ⟨rfl, ?_⟩
  (repeat' (first | (with_reducible exact QY.out) | (with_reducible exact Below.refl _ _) | (with_reducible refine Below.alloc ?_ ?_ _) | (with_reducible refine Below.setCell ?_ ?_ _) | (with_reducible refine Below.drew ?_) | (with_reducible refine below_drewN ?_ _) | omega | (dsimp only; omega) | (simp; done) | (simp; omega)))

set_option maxHeartbeats 2000000 in
theorem ack_on (c t a m n : Int) (w : World) (hM : MV m) (hS : SV c t a m) (hN : NV n) (hct : t ≤ c) (hup : min (a + n) 1073741824 < c) :
    Calls Try.prog 7 #[.agg #[.int .i64 c, .int .i64 t, .int .i64 a], .int .i64 m, .int .i64 n] w fun e w' => e = .returned (.tuple #[.agg #[.int .i64 (c), .int .i64 (t), .int .i64 (min (a + n) 1073741824)], .int .i64 0]) ∧ Below w.heap.size w w' := by
  have q_0 := Below.refl w.heap.size w
  go_enter Try.func7, Try.ntmps7
  go_wp2_with fail
  have b : Below w.heap.size w ((((w.alloc (.cells #[.int .i64 c, .int .i64 t, .int .i64 a] 24)).alloc (.cells #[.int .i64 m] 3)).alloc (.cells #[.int .i64 n] 3)).alloc (.cells #[.int .i64 0, .int .i64 0, .int .i64 0] 24)) := (((((Below.refl _ w).alloc (Nat.le_refl _) (.cells #[.int .i64 c, .int .i64 t, .int .i64 a] 24)).alloc (by simp only [World.size_alloc]; omega) (.cells #[.int .i64 m] 3)).alloc (by simp only [World.size_alloc]; omega) (.cells #[.int .i64 n] 3)).alloc (by simp only [World.size_alloc]; omega) (.cells #[.int .i64 0, .int .i64 0, .int .i64 0] 24))
  have nb1 := blk_new (w.alloc (.cells #[.int .i64 c, .int .i64 t, .int .i64 a] 24)) (.cells #[.int .i64 m] 3)
  simp only [World.size_alloc] at nb1
  have nb1 := (Below.heap_alloc ((w.alloc (.cells #[.int .i64 c, .int .i64 t, .int .i64 a] 24)).alloc (.cells #[.int .i64 m] 3)) (.cells #[.int .i64 n] 3) (w.heap.size + 1) (by simp only [World.size_alloc]; omega)).trans nb1
  have nb1 := (Below.heap_alloc (((w.alloc (.cells #[.int .i64 c, .int .i64 t, .int .i64 a] 24)).alloc (.cells #[.int .i64 m] 3)).alloc (.cells #[.int .i64 n] 3)) (.cells #[.int .i64 0, .int .i64 0, .int .i64 0] 24) (w.heap.size + 1) (by simp only [World.size_alloc]; omega)).trans nb1
  have nz1 : w.heap.size + 1 < ((((w.alloc (.cells #[.int .i64 c, .int .i64 t, .int .i64 a] 24)).alloc (.cells #[.int .i64 m] 3)).alloc (.cells #[.int .i64 n] 3)).alloc (.cells #[.int .i64 0, .int .i64 0, .int .i64 0] 24)).heap.size := by simp only [World.size_alloc]; omega
  have nb2 := blk_new ((w.alloc (.cells #[.int .i64 c, .int .i64 t, .int .i64 a] 24)).alloc (.cells #[.int .i64 m] 3)) (.cells #[.int .i64 n] 3)
  simp only [World.size_alloc] at nb2
  have nb2 := (Below.heap_alloc (((w.alloc (.cells #[.int .i64 c, .int .i64 t, .int .i64 a] 24)).alloc (.cells #[.int .i64 m] 3)).alloc (.cells #[.int .i64 n] 3)) (.cells #[.int .i64 0, .int .i64 0, .int .i64 0] 24) (w.heap.size + 2) (by simp only [World.size_alloc]; omega)).trans nb2
  have nz2 : w.heap.size + 2 < ((((w.alloc (.cells #[.int .i64 c, .int .i64 t, .int .i64 a] 24)).alloc (.cells #[.int .i64 m] 3)).alloc (.cells #[.int .i64 n] 3)).alloc (.cells #[.int .i64 0, .int .i64 0, .int .i64 0] 24)).heap.size := by simp only [World.size_alloc]; omega
  have nb3 := blk_new (((w.alloc (.cells #[.int .i64 c, .int .i64 t, .int .i64 a] 24)).alloc (.cells #[.int .i64 m] 3)).alloc (.cells #[.int .i64 n] 3)) (.cells #[.int .i64 0, .int .i64 0, .int .i64 0] 24)
  simp only [World.size_alloc] at nb3
  have nz3 : w.heap.size + 3 < ((((w.alloc (.cells #[.int .i64 c, .int .i64 t, .int .i64 a] 24)).alloc (.cells #[.int .i64 m] 3)).alloc (.cells #[.int .i64 n] 3)).alloc (.cells #[.int .i64 0, .int .i64 0, .int .i64 0] 24)).heap.size := by simp only [World.size_alloc]; omega
  have q_1 := q_0.trans (b.mono q_0.size)
  clear q_0
  clear b
  have M_1 := Lib.hid nb1
  have Mz_1 := nz1
  clear nb1 nz1
  have N_1 := Lib.hid nb2
  have Nz_1 := nz2
  clear nb2 nz2
  have R_1 := Lib.hid nb3
  have Rz_1 := nz3
  clear nb3 nz3
  have Rc0_1 := blk_cell R_1.out 0
  have Rc1_1 := blk_cell R_1.out 1
  have Rc2_1 := blk_cell R_1.out 2
  generalize ((((w.alloc (.cells #[.int .i64 c, .int .i64 t, .int .i64 a] 24)).alloc (.cells #[.int .i64 m] 3)).alloc (.cells #[.int .i64 n] 3)).alloc (.cells #[.int .i64 0, .int .i64 0, .int .i64 0] 24)) = V1 at q_1 M_1 Mz_1 N_1 Nz_1 R_1 Rz_1 Rc0_1 Rc1_1 Rc2_1 ⊢
  refine (beh_ack_on c t a m n _ _ _ hM hS hN hct hup M_1.out N_1.out).mono ?_
  rintro e V2 ⟨rfl, b⟩
  have R_2 := Lib.hid ((b.block _ Rz_1).trans R_1.out)
  have Rz_2 := Nat.lt_of_lt_of_le Rz_1 b.size
  have Rc0_2 := blk_cell R_2.out 0
  have Rc1_2 := blk_cell R_2.out 1
  have Rc2_2 := blk_cell R_2.out 2
  have q_2 := q_1.trans (b.mono q_1.size)
  clear M_1 Mz_1 N_1 Nz_1 R_1 Rz_1 Rc0_1 Rc1_1 Rc2_1 q_1
  clear b
  have rf0 := blk_free R_2.out 0
  have rf1 := blk_free R_2.out 1
  have rf2 := blk_free R_2.out 2
  have QY := Lib.hid q_2
  clear R_2
  go_wp2
  refine bodyPost_ret (v := .tuple #[.agg #[.int .i64 (c), .int .i64 (t), .int .i64 (min (a + n) 1073741824)], .int .i64 0]) (by simp [results, Try.results7, go_sem, *]) rfl ⟨rfl, ?_⟩
  (repeat' (first | (with_reducible exact QY.out) | (with_reducible exact Below.refl _ _) | (with_reducible refine Below.alloc ?_ ?_ _) | (with_reducible refine Below.setCell ?_ ?_ _) | (with_reducible refine Below.drew ?_) | (with_reducible refine below_drewN ?_ _) | omega | (dsimp only; omega) | (simp; done) | (simp; omega)))

set_option maxHeartbeats 2000000 in
theorem loss_ok (c t a m n : Int) (w : World) (hM : MV m) (hS : SV c t a m) (hN : NV n)  :
    Calls Try.prog 9 #[.agg #[.int .i64 c, .int .i64 t, .int .i64 a], .int .i64 m, .int .i64 n] w fun e w' => e = .returned (.tuple #[.agg #[.int .i64 (max (n / 2) (2 * m)), .int .i64 (max (n / 2) (2 * m)), .int .i64 (0)], .int .i64 0]) ∧ Below w.heap.size w w' := by
  have q_0 := Below.refl w.heap.size w
  go_enter Try.func9, Try.ntmps9
  go_wp2_with fail
  have b : Below w.heap.size w ((((w.alloc (.cells #[.int .i64 c, .int .i64 t, .int .i64 a] 24)).alloc (.cells #[.int .i64 m] 3)).alloc (.cells #[.int .i64 n] 3)).alloc (.cells #[.int .i64 0, .int .i64 0, .int .i64 0] 24)) := (((((Below.refl _ w).alloc (Nat.le_refl _) (.cells #[.int .i64 c, .int .i64 t, .int .i64 a] 24)).alloc (by simp only [World.size_alloc]; omega) (.cells #[.int .i64 m] 3)).alloc (by simp only [World.size_alloc]; omega) (.cells #[.int .i64 n] 3)).alloc (by simp only [World.size_alloc]; omega) (.cells #[.int .i64 0, .int .i64 0, .int .i64 0] 24))
  have nb1 := blk_new (w.alloc (.cells #[.int .i64 c, .int .i64 t, .int .i64 a] 24)) (.cells #[.int .i64 m] 3)
  simp only [World.size_alloc] at nb1
  have nb1 := (Below.heap_alloc ((w.alloc (.cells #[.int .i64 c, .int .i64 t, .int .i64 a] 24)).alloc (.cells #[.int .i64 m] 3)) (.cells #[.int .i64 n] 3) (w.heap.size + 1) (by simp only [World.size_alloc]; omega)).trans nb1
  have nb1 := (Below.heap_alloc (((w.alloc (.cells #[.int .i64 c, .int .i64 t, .int .i64 a] 24)).alloc (.cells #[.int .i64 m] 3)).alloc (.cells #[.int .i64 n] 3)) (.cells #[.int .i64 0, .int .i64 0, .int .i64 0] 24) (w.heap.size + 1) (by simp only [World.size_alloc]; omega)).trans nb1
  have nz1 : w.heap.size + 1 < ((((w.alloc (.cells #[.int .i64 c, .int .i64 t, .int .i64 a] 24)).alloc (.cells #[.int .i64 m] 3)).alloc (.cells #[.int .i64 n] 3)).alloc (.cells #[.int .i64 0, .int .i64 0, .int .i64 0] 24)).heap.size := by simp only [World.size_alloc]; omega
  have nb2 := blk_new ((w.alloc (.cells #[.int .i64 c, .int .i64 t, .int .i64 a] 24)).alloc (.cells #[.int .i64 m] 3)) (.cells #[.int .i64 n] 3)
  simp only [World.size_alloc] at nb2
  have nb2 := (Below.heap_alloc (((w.alloc (.cells #[.int .i64 c, .int .i64 t, .int .i64 a] 24)).alloc (.cells #[.int .i64 m] 3)).alloc (.cells #[.int .i64 n] 3)) (.cells #[.int .i64 0, .int .i64 0, .int .i64 0] 24) (w.heap.size + 2) (by simp only [World.size_alloc]; omega)).trans nb2
  have nz2 : w.heap.size + 2 < ((((w.alloc (.cells #[.int .i64 c, .int .i64 t, .int .i64 a] 24)).alloc (.cells #[.int .i64 m] 3)).alloc (.cells #[.int .i64 n] 3)).alloc (.cells #[.int .i64 0, .int .i64 0, .int .i64 0] 24)).heap.size := by simp only [World.size_alloc]; omega
  have nb3 := blk_new (((w.alloc (.cells #[.int .i64 c, .int .i64 t, .int .i64 a] 24)).alloc (.cells #[.int .i64 m] 3)).alloc (.cells #[.int .i64 n] 3)) (.cells #[.int .i64 0, .int .i64 0, .int .i64 0] 24)
  simp only [World.size_alloc] at nb3
  have nz3 : w.heap.size + 3 < ((((w.alloc (.cells #[.int .i64 c, .int .i64 t, .int .i64 a] 24)).alloc (.cells #[.int .i64 m] 3)).alloc (.cells #[.int .i64 n] 3)).alloc (.cells #[.int .i64 0, .int .i64 0, .int .i64 0] 24)).heap.size := by simp only [World.size_alloc]; omega
  have q_1 := q_0.trans (b.mono q_0.size)
  clear q_0
  clear b
  have M_1 := Lib.hid nb1
  have Mz_1 := nz1
  clear nb1 nz1
  have N_1 := Lib.hid nb2
  have Nz_1 := nz2
  clear nb2 nz2
  have R_1 := Lib.hid nb3
  have Rz_1 := nz3
  clear nb3 nz3
  have Rc0_1 := blk_cell R_1.out 0
  have Rc1_1 := blk_cell R_1.out 1
  have Rc2_1 := blk_cell R_1.out 2
  generalize ((((w.alloc (.cells #[.int .i64 c, .int .i64 t, .int .i64 a] 24)).alloc (.cells #[.int .i64 m] 3)).alloc (.cells #[.int .i64 n] 3)).alloc (.cells #[.int .i64 0, .int .i64 0, .int .i64 0] 24)) = V1 at q_1 M_1 Mz_1 N_1 Nz_1 R_1 Rz_1 Rc0_1 Rc1_1 Rc2_1 ⊢
  refine (beh_loss c t a m n _ _ _ hM hS hN M_1.out N_1.out).mono ?_
  rintro e V2 ⟨rfl, b⟩
  have R_2 := Lib.hid ((b.block _ Rz_1).trans R_1.out)
  have Rz_2 := Nat.lt_of_lt_of_le Rz_1 b.size
  have Rc0_2 := blk_cell R_2.out 0
  have Rc1_2 := blk_cell R_2.out 1
  have Rc2_2 := blk_cell R_2.out 2
  have q_2 := q_1.trans (b.mono q_1.size)
  clear M_1 Mz_1 N_1 Nz_1 R_1 Rz_1 Rc0_1 Rc1_1 Rc2_1 q_1
  clear b
  have rf0 := blk_free R_2.out 0
  have rf1 := blk_free R_2.out 1
  have rf2 := blk_free R_2.out 2
  have QY := Lib.hid q_2
  clear R_2
  go_wp2
  refine bodyPost_ret (v := .tuple #[.agg #[.int .i64 (max (n / 2) (2 * m)), .int .i64 (max (n / 2) (2 * m)), .int .i64 (0)], .int .i64 0]) (by simp [results, Try.results9, go_sem, *]) rfl ⟨rfl, ?_⟩
  (repeat' (first | (with_reducible exact QY.out) | (with_reducible exact Below.refl _ _) | (with_reducible refine Below.alloc ?_ ?_ _) | (with_reducible refine Below.setCell ?_ ?_ _) | (with_reducible refine Below.drew ?_) | (with_reducible refine below_drewN ?_ _) | omega | (dsimp only; omega) | (simp; done) | (simp; omega)))

set_option maxHeartbeats 2000000 in
theorem timeout_ok (c t a m n : Int) (w : World) (hM : MV m) (hS : SV c t a m) (hN : NV n)  :
    Calls Try.prog 11 #[.agg #[.int .i64 c, .int .i64 t, .int .i64 a], .int .i64 m, .int .i64 n] w fun e w' => e = .returned (.tuple #[.agg #[.int .i64 (m), .int .i64 (max (n / 2) (2 * m)), .int .i64 (0)], .int .i64 0]) ∧ Below w.heap.size w w' := by
  have q_0 := Below.refl w.heap.size w
  go_enter Try.func11, Try.ntmps11
  go_wp2_with fail
  have b : Below w.heap.size w ((((w.alloc (.cells #[.int .i64 c, .int .i64 t, .int .i64 a] 24)).alloc (.cells #[.int .i64 m] 3)).alloc (.cells #[.int .i64 n] 3)).alloc (.cells #[.int .i64 0, .int .i64 0, .int .i64 0] 24)) := (((((Below.refl _ w).alloc (Nat.le_refl _) (.cells #[.int .i64 c, .int .i64 t, .int .i64 a] 24)).alloc (by simp only [World.size_alloc]; omega) (.cells #[.int .i64 m] 3)).alloc (by simp only [World.size_alloc]; omega) (.cells #[.int .i64 n] 3)).alloc (by simp only [World.size_alloc]; omega) (.cells #[.int .i64 0, .int .i64 0, .int .i64 0] 24))
  have nb1 := blk_new (w.alloc (.cells #[.int .i64 c, .int .i64 t, .int .i64 a] 24)) (.cells #[.int .i64 m] 3)
  simp only [World.size_alloc] at nb1
  have nb1 := (Below.heap_alloc ((w.alloc (.cells #[.int .i64 c, .int .i64 t, .int .i64 a] 24)).alloc (.cells #[.int .i64 m] 3)) (.cells #[.int .i64 n] 3) (w.heap.size + 1) (by simp only [World.size_alloc]; omega)).trans nb1
  have nb1 := (Below.heap_alloc (((w.alloc (.cells #[.int .i64 c, .int .i64 t, .int .i64 a] 24)).alloc (.cells #[.int .i64 m] 3)).alloc (.cells #[.int .i64 n] 3)) (.cells #[.int .i64 0, .int .i64 0, .int .i64 0] 24) (w.heap.size + 1) (by simp only [World.size_alloc]; omega)).trans nb1
  have nz1 : w.heap.size + 1 < ((((w.alloc (.cells #[.int .i64 c, .int .i64 t, .int .i64 a] 24)).alloc (.cells #[.int .i64 m] 3)).alloc (.cells #[.int .i64 n] 3)).alloc (.cells #[.int .i64 0, .int .i64 0, .int .i64 0] 24)).heap.size := by simp only [World.size_alloc]; omega
  have nb2 := blk_new ((w.alloc (.cells #[.int .i64 c, .int .i64 t, .int .i64 a] 24)).alloc (.cells #[.int .i64 m] 3)) (.cells #[.int .i64 n] 3)
  simp only [World.size_alloc] at nb2
  have nb2 := (Below.heap_alloc (((w.alloc (.cells #[.int .i64 c, .int .i64 t, .int .i64 a] 24)).alloc (.cells #[.int .i64 m] 3)).alloc (.cells #[.int .i64 n] 3)) (.cells #[.int .i64 0, .int .i64 0, .int .i64 0] 24) (w.heap.size + 2) (by simp only [World.size_alloc]; omega)).trans nb2
  have nz2 : w.heap.size + 2 < ((((w.alloc (.cells #[.int .i64 c, .int .i64 t, .int .i64 a] 24)).alloc (.cells #[.int .i64 m] 3)).alloc (.cells #[.int .i64 n] 3)).alloc (.cells #[.int .i64 0, .int .i64 0, .int .i64 0] 24)).heap.size := by simp only [World.size_alloc]; omega
  have nb3 := blk_new (((w.alloc (.cells #[.int .i64 c, .int .i64 t, .int .i64 a] 24)).alloc (.cells #[.int .i64 m] 3)).alloc (.cells #[.int .i64 n] 3)) (.cells #[.int .i64 0, .int .i64 0, .int .i64 0] 24)
  simp only [World.size_alloc] at nb3
  have nz3 : w.heap.size + 3 < ((((w.alloc (.cells #[.int .i64 c, .int .i64 t, .int .i64 a] 24)).alloc (.cells #[.int .i64 m] 3)).alloc (.cells #[.int .i64 n] 3)).alloc (.cells #[.int .i64 0, .int .i64 0, .int .i64 0] 24)).heap.size := by simp only [World.size_alloc]; omega
  have q_1 := q_0.trans (b.mono q_0.size)
  clear q_0
  clear b
  have M_1 := Lib.hid nb1
  have Mz_1 := nz1
  clear nb1 nz1
  have N_1 := Lib.hid nb2
  have Nz_1 := nz2
  clear nb2 nz2
  have R_1 := Lib.hid nb3
  have Rz_1 := nz3
  clear nb3 nz3
  have Rc0_1 := blk_cell R_1.out 0
  have Rc1_1 := blk_cell R_1.out 1
  have Rc2_1 := blk_cell R_1.out 2
  generalize ((((w.alloc (.cells #[.int .i64 c, .int .i64 t, .int .i64 a] 24)).alloc (.cells #[.int .i64 m] 3)).alloc (.cells #[.int .i64 n] 3)).alloc (.cells #[.int .i64 0, .int .i64 0, .int .i64 0] 24)) = V1 at q_1 M_1 Mz_1 N_1 Nz_1 R_1 Rz_1 Rc0_1 Rc1_1 Rc2_1 ⊢
  refine (beh_timeout c t a m n _ _ _ hM hS hN M_1.out N_1.out).mono ?_
  rintro e V2 ⟨rfl, b⟩
  have R_2 := Lib.hid ((b.block _ Rz_1).trans R_1.out)
  have Rz_2 := Nat.lt_of_lt_of_le Rz_1 b.size
  have Rc0_2 := blk_cell R_2.out 0
  have Rc1_2 := blk_cell R_2.out 1
  have Rc2_2 := blk_cell R_2.out 2
  have q_2 := q_1.trans (b.mono q_1.size)
  clear M_1 Mz_1 N_1 Nz_1 R_1 Rz_1 Rc0_1 Rc1_1 Rc2_1 q_1
  clear b
  have rf0 := blk_free R_2.out 0
  have rf1 := blk_free R_2.out 1
  have rf2 := blk_free R_2.out 2
  have QY := Lib.hid q_2
  clear R_2
  go_wp2
  refine bodyPost_ret (v := .tuple #[.agg #[.int .i64 (m), .int .i64 (max (n / 2) (2 * m)), .int .i64 (0)], .int .i64 0]) (by simp [results, Try.results11, go_sem, *]) rfl ⟨rfl, ?_⟩
  (repeat' (first | (with_reducible exact QY.out) | (with_reducible exact Below.refl _ _) | (with_reducible refine Below.alloc ?_ ?_ _) | (with_reducible refine Below.setCell ?_ ?_ _) | (with_reducible refine Below.drew ?_) | (with_reducible refine below_drewN ?_ _) | omega | (dsimp only; omega) | (simp; done) | (simp; omega)))

set_option maxHeartbeats 2000000 in
theorem ack_m (c t a m n : Int) (w : World) (hM : ¬ MV m) :
    Calls Try.prog 7 #[.agg #[.int .i64 c, .int .i64 t, .int .i64 a], .int .i64 m, .int .i64 n] w fun e w' => e = .returned (.tuple #[.agg #[.int .i64 0, .int .i64 0, .int .i64 0], .int .i64 4]) ∧ Below w.heap.size w w' := by
  have q_0 := Below.refl w.heap.size w
  go_enter Try.func7, Try.ntmps7
  go_wp2_with fail
  have b : Below w.heap.size w ((((w.alloc (.cells #[.int .i64 c, .int .i64 t, .int .i64 a] 24)).alloc (.cells #[.int .i64 m] 3)).alloc (.cells #[.int .i64 n] 3)).alloc (.cells #[.int .i64 0, .int .i64 0, .int .i64 0] 24)) := (((((Below.refl _ w).alloc (Nat.le_refl _) (.cells #[.int .i64 c, .int .i64 t, .int .i64 a] 24)).alloc (by simp only [World.size_alloc]; omega) (.cells #[.int .i64 m] 3)).alloc (by simp only [World.size_alloc]; omega) (.cells #[.int .i64 n] 3)).alloc (by simp only [World.size_alloc]; omega) (.cells #[.int .i64 0, .int .i64 0, .int .i64 0] 24))
  have nb1 := blk_new (w.alloc (.cells #[.int .i64 c, .int .i64 t, .int .i64 a] 24)) (.cells #[.int .i64 m] 3)
  simp only [World.size_alloc] at nb1
  have nb1 := (Below.heap_alloc ((w.alloc (.cells #[.int .i64 c, .int .i64 t, .int .i64 a] 24)).alloc (.cells #[.int .i64 m] 3)) (.cells #[.int .i64 n] 3) (w.heap.size + 1) (by simp only [World.size_alloc]; omega)).trans nb1
  have nb1 := (Below.heap_alloc (((w.alloc (.cells #[.int .i64 c, .int .i64 t, .int .i64 a] 24)).alloc (.cells #[.int .i64 m] 3)).alloc (.cells #[.int .i64 n] 3)) (.cells #[.int .i64 0, .int .i64 0, .int .i64 0] 24) (w.heap.size + 1) (by simp only [World.size_alloc]; omega)).trans nb1
  have nz1 : w.heap.size + 1 < ((((w.alloc (.cells #[.int .i64 c, .int .i64 t, .int .i64 a] 24)).alloc (.cells #[.int .i64 m] 3)).alloc (.cells #[.int .i64 n] 3)).alloc (.cells #[.int .i64 0, .int .i64 0, .int .i64 0] 24)).heap.size := by simp only [World.size_alloc]; omega
  have nb2 := blk_new ((w.alloc (.cells #[.int .i64 c, .int .i64 t, .int .i64 a] 24)).alloc (.cells #[.int .i64 m] 3)) (.cells #[.int .i64 n] 3)
  simp only [World.size_alloc] at nb2
  have nb2 := (Below.heap_alloc (((w.alloc (.cells #[.int .i64 c, .int .i64 t, .int .i64 a] 24)).alloc (.cells #[.int .i64 m] 3)).alloc (.cells #[.int .i64 n] 3)) (.cells #[.int .i64 0, .int .i64 0, .int .i64 0] 24) (w.heap.size + 2) (by simp only [World.size_alloc]; omega)).trans nb2
  have nz2 : w.heap.size + 2 < ((((w.alloc (.cells #[.int .i64 c, .int .i64 t, .int .i64 a] 24)).alloc (.cells #[.int .i64 m] 3)).alloc (.cells #[.int .i64 n] 3)).alloc (.cells #[.int .i64 0, .int .i64 0, .int .i64 0] 24)).heap.size := by simp only [World.size_alloc]; omega
  have nb3 := blk_new (((w.alloc (.cells #[.int .i64 c, .int .i64 t, .int .i64 a] 24)).alloc (.cells #[.int .i64 m] 3)).alloc (.cells #[.int .i64 n] 3)) (.cells #[.int .i64 0, .int .i64 0, .int .i64 0] 24)
  simp only [World.size_alloc] at nb3
  have nz3 : w.heap.size + 3 < ((((w.alloc (.cells #[.int .i64 c, .int .i64 t, .int .i64 a] 24)).alloc (.cells #[.int .i64 m] 3)).alloc (.cells #[.int .i64 n] 3)).alloc (.cells #[.int .i64 0, .int .i64 0, .int .i64 0] 24)).heap.size := by simp only [World.size_alloc]; omega
  have q_1 := q_0.trans (b.mono q_0.size)
  clear q_0
  clear b
  have M_1 := Lib.hid nb1
  have Mz_1 := nz1
  clear nb1 nz1
  have N_1 := Lib.hid nb2
  have Nz_1 := nz2
  clear nb2 nz2
  have R_1 := Lib.hid nb3
  have Rz_1 := nz3
  clear nb3 nz3
  have Rc0_1 := blk_cell R_1.out 0
  have Rc1_1 := blk_cell R_1.out 1
  have Rc2_1 := blk_cell R_1.out 2
  generalize ((((w.alloc (.cells #[.int .i64 c, .int .i64 t, .int .i64 a] 24)).alloc (.cells #[.int .i64 m] 3)).alloc (.cells #[.int .i64 n] 3)).alloc (.cells #[.int .i64 0, .int .i64 0, .int .i64 0] 24)) = V1 at q_1 M_1 Mz_1 N_1 Nz_1 R_1 Rz_1 Rc0_1 Rc1_1 Rc2_1 ⊢
  refine (beh_m c t a m n _ _ hM).mono ?_
  rintro e V2 ⟨rfl, b⟩
  have R_2 := Lib.hid ((b.block _ Rz_1).trans R_1.out)
  have Rz_2 := Nat.lt_of_lt_of_le Rz_1 b.size
  have Rc0_2 := blk_cell R_2.out 0
  have Rc1_2 := blk_cell R_2.out 1
  have Rc2_2 := blk_cell R_2.out 2
  have q_2 := q_1.trans (b.mono q_1.size)
  clear M_1 Mz_1 N_1 Nz_1 R_1 Rz_1 Rc0_1 Rc1_1 Rc2_1 q_1
  clear b
  have rf0 := blk_free R_2.out 0
  have rf1 := blk_free R_2.out 1
  have rf2 := blk_free R_2.out 2
  have QY := Lib.hid q_2
  clear R_2
  go_wp2
  refine bodyPost_ret (v := .tuple #[.agg #[.int .i64 0, .int .i64 0, .int .i64 0], .int .i64 4]) (by simp [results, Try.results7, go_sem, *]) rfl ⟨rfl, ?_⟩
  (repeat' (first | (with_reducible exact QY.out) | (with_reducible exact Below.refl _ _) | (with_reducible refine Below.alloc ?_ ?_ _) | (with_reducible refine Below.setCell ?_ ?_ _) | (with_reducible refine Below.drew ?_) | (with_reducible refine below_drewN ?_ _) | omega | (dsimp only; omega) | (simp; done) | (simp; omega)))

set_option maxHeartbeats 2000000 in
theorem ack_s (c t a m n : Int) (w : World) (hM : MV m) (hS : ¬ SV c t a m) :
    Calls Try.prog 7 #[.agg #[.int .i64 c, .int .i64 t, .int .i64 a], .int .i64 m, .int .i64 n] w fun e w' => e = .returned (.tuple #[.agg #[.int .i64 0, .int .i64 0, .int .i64 0], .int .i64 171]) ∧ Below w.heap.size w w' := by
  have q_0 := Below.refl w.heap.size w
  go_enter Try.func7, Try.ntmps7
  go_wp2_with fail
  have b : Below w.heap.size w ((((w.alloc (.cells #[.int .i64 c, .int .i64 t, .int .i64 a] 24)).alloc (.cells #[.int .i64 m] 3)).alloc (.cells #[.int .i64 n] 3)).alloc (.cells #[.int .i64 0, .int .i64 0, .int .i64 0] 24)) := (((((Below.refl _ w).alloc (Nat.le_refl _) (.cells #[.int .i64 c, .int .i64 t, .int .i64 a] 24)).alloc (by simp only [World.size_alloc]; omega) (.cells #[.int .i64 m] 3)).alloc (by simp only [World.size_alloc]; omega) (.cells #[.int .i64 n] 3)).alloc (by simp only [World.size_alloc]; omega) (.cells #[.int .i64 0, .int .i64 0, .int .i64 0] 24))
  have nb1 := blk_new (w.alloc (.cells #[.int .i64 c, .int .i64 t, .int .i64 a] 24)) (.cells #[.int .i64 m] 3)
  simp only [World.size_alloc] at nb1
  have nb1 := (Below.heap_alloc ((w.alloc (.cells #[.int .i64 c, .int .i64 t, .int .i64 a] 24)).alloc (.cells #[.int .i64 m] 3)) (.cells #[.int .i64 n] 3) (w.heap.size + 1) (by simp only [World.size_alloc]; omega)).trans nb1
  have nb1 := (Below.heap_alloc (((w.alloc (.cells #[.int .i64 c, .int .i64 t, .int .i64 a] 24)).alloc (.cells #[.int .i64 m] 3)).alloc (.cells #[.int .i64 n] 3)) (.cells #[.int .i64 0, .int .i64 0, .int .i64 0] 24) (w.heap.size + 1) (by simp only [World.size_alloc]; omega)).trans nb1
  have nz1 : w.heap.size + 1 < ((((w.alloc (.cells #[.int .i64 c, .int .i64 t, .int .i64 a] 24)).alloc (.cells #[.int .i64 m] 3)).alloc (.cells #[.int .i64 n] 3)).alloc (.cells #[.int .i64 0, .int .i64 0, .int .i64 0] 24)).heap.size := by simp only [World.size_alloc]; omega
  have nb2 := blk_new ((w.alloc (.cells #[.int .i64 c, .int .i64 t, .int .i64 a] 24)).alloc (.cells #[.int .i64 m] 3)) (.cells #[.int .i64 n] 3)
  simp only [World.size_alloc] at nb2
  have nb2 := (Below.heap_alloc (((w.alloc (.cells #[.int .i64 c, .int .i64 t, .int .i64 a] 24)).alloc (.cells #[.int .i64 m] 3)).alloc (.cells #[.int .i64 n] 3)) (.cells #[.int .i64 0, .int .i64 0, .int .i64 0] 24) (w.heap.size + 2) (by simp only [World.size_alloc]; omega)).trans nb2
  have nz2 : w.heap.size + 2 < ((((w.alloc (.cells #[.int .i64 c, .int .i64 t, .int .i64 a] 24)).alloc (.cells #[.int .i64 m] 3)).alloc (.cells #[.int .i64 n] 3)).alloc (.cells #[.int .i64 0, .int .i64 0, .int .i64 0] 24)).heap.size := by simp only [World.size_alloc]; omega
  have nb3 := blk_new (((w.alloc (.cells #[.int .i64 c, .int .i64 t, .int .i64 a] 24)).alloc (.cells #[.int .i64 m] 3)).alloc (.cells #[.int .i64 n] 3)) (.cells #[.int .i64 0, .int .i64 0, .int .i64 0] 24)
  simp only [World.size_alloc] at nb3
  have nz3 : w.heap.size + 3 < ((((w.alloc (.cells #[.int .i64 c, .int .i64 t, .int .i64 a] 24)).alloc (.cells #[.int .i64 m] 3)).alloc (.cells #[.int .i64 n] 3)).alloc (.cells #[.int .i64 0, .int .i64 0, .int .i64 0] 24)).heap.size := by simp only [World.size_alloc]; omega
  have q_1 := q_0.trans (b.mono q_0.size)
  clear q_0
  clear b
  have M_1 := Lib.hid nb1
  have Mz_1 := nz1
  clear nb1 nz1
  have N_1 := Lib.hid nb2
  have Nz_1 := nz2
  clear nb2 nz2
  have R_1 := Lib.hid nb3
  have Rz_1 := nz3
  clear nb3 nz3
  have Rc0_1 := blk_cell R_1.out 0
  have Rc1_1 := blk_cell R_1.out 1
  have Rc2_1 := blk_cell R_1.out 2
  generalize ((((w.alloc (.cells #[.int .i64 c, .int .i64 t, .int .i64 a] 24)).alloc (.cells #[.int .i64 m] 3)).alloc (.cells #[.int .i64 n] 3)).alloc (.cells #[.int .i64 0, .int .i64 0, .int .i64 0] 24)) = V1 at q_1 M_1 Mz_1 N_1 Nz_1 R_1 Rz_1 Rc0_1 Rc1_1 Rc2_1 ⊢
  refine (beh_s c t a m n _ _ hM hS).mono ?_
  rintro e V2 ⟨rfl, b⟩
  have R_2 := Lib.hid ((b.block _ Rz_1).trans R_1.out)
  have Rz_2 := Nat.lt_of_lt_of_le Rz_1 b.size
  have Rc0_2 := blk_cell R_2.out 0
  have Rc1_2 := blk_cell R_2.out 1
  have Rc2_2 := blk_cell R_2.out 2
  have q_2 := q_1.trans (b.mono q_1.size)
  clear M_1 Mz_1 N_1 Nz_1 R_1 Rz_1 Rc0_1 Rc1_1 Rc2_1 q_1
  clear b
  have rf0 := blk_free R_2.out 0
  have rf1 := blk_free R_2.out 1
  have rf2 := blk_free R_2.out 2
  have QY := Lib.hid q_2
  clear R_2
  go_wp2
  refine bodyPost_ret (v := .tuple #[.agg #[.int .i64 0, .int .i64 0, .int .i64 0], .int .i64 171]) (by simp [results, Try.results7, go_sem, *]) rfl ⟨rfl, ?_⟩
  (repeat' (first | (with_reducible exact QY.out) | (with_reducible exact Below.refl _ _) | (with_reducible refine Below.alloc ?_ ?_ _) | (with_reducible refine Below.setCell ?_ ?_ _) | (with_reducible refine Below.drew ?_) | (with_reducible refine below_drewN ?_ _) | omega | (dsimp only; omega) | (simp; done) | (simp; omega)))

set_option maxHeartbeats 2000000 in
theorem ack_n (c t a m n : Int) (w : World) (hM : MV m) (hS : SV c t a m) (hN : ¬ NV n) :
    Calls Try.prog 7 #[.agg #[.int .i64 c, .int .i64 t, .int .i64 a], .int .i64 m, .int .i64 n] w fun e w' => e = .returned (.tuple #[.agg #[.int .i64 0, .int .i64 0, .int .i64 0], .int .i64 4]) ∧ Below w.heap.size w w' := by
  have q_0 := Below.refl w.heap.size w
  go_enter Try.func7, Try.ntmps7
  go_wp2_with fail
  have b : Below w.heap.size w ((((w.alloc (.cells #[.int .i64 c, .int .i64 t, .int .i64 a] 24)).alloc (.cells #[.int .i64 m] 3)).alloc (.cells #[.int .i64 n] 3)).alloc (.cells #[.int .i64 0, .int .i64 0, .int .i64 0] 24)) := (((((Below.refl _ w).alloc (Nat.le_refl _) (.cells #[.int .i64 c, .int .i64 t, .int .i64 a] 24)).alloc (by simp only [World.size_alloc]; omega) (.cells #[.int .i64 m] 3)).alloc (by simp only [World.size_alloc]; omega) (.cells #[.int .i64 n] 3)).alloc (by simp only [World.size_alloc]; omega) (.cells #[.int .i64 0, .int .i64 0, .int .i64 0] 24))
  have nb1 := blk_new (w.alloc (.cells #[.int .i64 c, .int .i64 t, .int .i64 a] 24)) (.cells #[.int .i64 m] 3)
  simp only [World.size_alloc] at nb1
  have nb1 := (Below.heap_alloc ((w.alloc (.cells #[.int .i64 c, .int .i64 t, .int .i64 a] 24)).alloc (.cells #[.int .i64 m] 3)) (.cells #[.int .i64 n] 3) (w.heap.size + 1) (by simp only [World.size_alloc]; omega)).trans nb1
  have nb1 := (Below.heap_alloc (((w.alloc (.cells #[.int .i64 c, .int .i64 t, .int .i64 a] 24)).alloc (.cells #[.int .i64 m] 3)).alloc (.cells #[.int .i64 n] 3)) (.cells #[.int .i64 0, .int .i64 0, .int .i64 0] 24) (w.heap.size + 1) (by simp only [World.size_alloc]; omega)).trans nb1
  have nz1 : w.heap.size + 1 < ((((w.alloc (.cells #[.int .i64 c, .int .i64 t, .int .i64 a] 24)).alloc (.cells #[.int .i64 m] 3)).alloc (.cells #[.int .i64 n] 3)).alloc (.cells #[.int .i64 0, .int .i64 0, .int .i64 0] 24)).heap.size := by simp only [World.size_alloc]; omega
  have nb2 := blk_new ((w.alloc (.cells #[.int .i64 c, .int .i64 t, .int .i64 a] 24)).alloc (.cells #[.int .i64 m] 3)) (.cells #[.int .i64 n] 3)
  simp only [World.size_alloc] at nb2
  have nb2 := (Below.heap_alloc (((w.alloc (.cells #[.int .i64 c, .int .i64 t, .int .i64 a] 24)).alloc (.cells #[.int .i64 m] 3)).alloc (.cells #[.int .i64 n] 3)) (.cells #[.int .i64 0, .int .i64 0, .int .i64 0] 24) (w.heap.size + 2) (by simp only [World.size_alloc]; omega)).trans nb2
  have nz2 : w.heap.size + 2 < ((((w.alloc (.cells #[.int .i64 c, .int .i64 t, .int .i64 a] 24)).alloc (.cells #[.int .i64 m] 3)).alloc (.cells #[.int .i64 n] 3)).alloc (.cells #[.int .i64 0, .int .i64 0, .int .i64 0] 24)).heap.size := by simp only [World.size_alloc]; omega
  have nb3 := blk_new (((w.alloc (.cells #[.int .i64 c, .int .i64 t, .int .i64 a] 24)).alloc (.cells #[.int .i64 m] 3)).alloc (.cells #[.int .i64 n] 3)) (.cells #[.int .i64 0, .int .i64 0, .int .i64 0] 24)
  simp only [World.size_alloc] at nb3
  have nz3 : w.heap.size + 3 < ((((w.alloc (.cells #[.int .i64 c, .int .i64 t, .int .i64 a] 24)).alloc (.cells #[.int .i64 m] 3)).alloc (.cells #[.int .i64 n] 3)).alloc (.cells #[.int .i64 0, .int .i64 0, .int .i64 0] 24)).heap.size := by simp only [World.size_alloc]; omega
  have q_1 := q_0.trans (b.mono q_0.size)
  clear q_0
  clear b
  have M_1 := Lib.hid nb1
  have Mz_1 := nz1
  clear nb1 nz1
  have N_1 := Lib.hid nb2
  have Nz_1 := nz2
  clear nb2 nz2
  have R_1 := Lib.hid nb3
  have Rz_1 := nz3
  clear nb3 nz3
  have Rc0_1 := blk_cell R_1.out 0
  have Rc1_1 := blk_cell R_1.out 1
  have Rc2_1 := blk_cell R_1.out 2
  generalize ((((w.alloc (.cells #[.int .i64 c, .int .i64 t, .int .i64 a] 24)).alloc (.cells #[.int .i64 m] 3)).alloc (.cells #[.int .i64 n] 3)).alloc (.cells #[.int .i64 0, .int .i64 0, .int .i64 0] 24)) = V1 at q_1 M_1 Mz_1 N_1 Nz_1 R_1 Rz_1 Rc0_1 Rc1_1 Rc2_1 ⊢
  refine (beh_n c t a m n _ _ hM hS hN).mono ?_
  rintro e V2 ⟨rfl, b⟩
  have R_2 := Lib.hid ((b.block _ Rz_1).trans R_1.out)
  have Rz_2 := Nat.lt_of_lt_of_le Rz_1 b.size
  have Rc0_2 := blk_cell R_2.out 0
  have Rc1_2 := blk_cell R_2.out 1
  have Rc2_2 := blk_cell R_2.out 2
  have q_2 := q_1.trans (b.mono q_1.size)
  clear M_1 Mz_1 N_1 Nz_1 R_1 Rz_1 Rc0_1 Rc1_1 Rc2_1 q_1
  clear b
  have rf0 := blk_free R_2.out 0
  have rf1 := blk_free R_2.out 1
  have rf2 := blk_free R_2.out 2
  have QY := Lib.hid q_2
  clear R_2
  go_wp2
  refine bodyPost_ret (v := .tuple #[.agg #[.int .i64 0, .int .i64 0, .int .i64 0], .int .i64 4]) (by simp [results, Try.results7, go_sem, *]) rfl ⟨rfl, ?_⟩
  (repeat' (first | (with_reducible exact QY.out) | (with_reducible exact Below.refl _ _) | (with_reducible refine Below.alloc ?_ ?_ _) | (with_reducible refine Below.setCell ?_ ?_ _) | (with_reducible refine Below.drew ?_) | (with_reducible refine below_drewN ?_ _) | omega | (dsimp only; omega) | (simp; done) | (simp; omega)))

set_option maxHeartbeats 2000000 in
theorem loss_m (c t a m n : Int) (w : World) (hM : ¬ MV m) :
    Calls Try.prog 9 #[.agg #[.int .i64 c, .int .i64 t, .int .i64 a], .int .i64 m, .int .i64 n] w fun e w' => e = .returned (.tuple #[.agg #[.int .i64 0, .int .i64 0, .int .i64 0], .int .i64 4]) ∧ Below w.heap.size w w' := by
  have q_0 := Below.refl w.heap.size w
  go_enter Try.func9, Try.ntmps9
  go_wp2_with fail
  have b : Below w.heap.size w ((((w.alloc (.cells #[.int .i64 c, .int .i64 t, .int .i64 a] 24)).alloc (.cells #[.int .i64 m] 3)).alloc (.cells #[.int .i64 n] 3)).alloc (.cells #[.int .i64 0, .int .i64 0, .int .i64 0] 24)) := (((((Below.refl _ w).alloc (Nat.le_refl _) (.cells #[.int .i64 c, .int .i64 t, .int .i64 a] 24)).alloc (by simp only [World.size_alloc]; omega) (.cells #[.int .i64 m] 3)).alloc (by simp only [World.size_alloc]; omega) (.cells #[.int .i64 n] 3)).alloc (by simp only [World.size_alloc]; omega) (.cells #[.int .i64 0, .int .i64 0, .int .i64 0] 24))
  have nb1 := blk_new (w.alloc (.cells #[.int .i64 c, .int .i64 t, .int .i64 a] 24)) (.cells #[.int .i64 m] 3)
  simp only [World.size_alloc] at nb1
  have nb1 := (Below.heap_alloc ((w.alloc (.cells #[.int .i64 c, .int .i64 t, .int .i64 a] 24)).alloc (.cells #[.int .i64 m] 3)) (.cells #[.int .i64 n] 3) (w.heap.size + 1) (by simp only [World.size_alloc]; omega)).trans nb1
  have nb1 := (Below.heap_alloc (((w.alloc (.cells #[.int .i64 c, .int .i64 t, .int .i64 a] 24)).alloc (.cells #[.int .i64 m] 3)).alloc (.cells #[.int .i64 n] 3)) (.cells #[.int .i64 0, .int .i64 0, .int .i64 0] 24) (w.heap.size + 1) (by simp only [World.size_alloc]; omega)).trans nb1
  have nz1 : w.heap.size + 1 < ((((w.alloc (.cells #[.int .i64 c, .int .i64 t, .int .i64 a] 24)).alloc (.cells #[.int .i64 m] 3)).alloc (.cells #[.int .i64 n] 3)).alloc (.cells #[.int .i64 0, .int .i64 0, .int .i64 0] 24)).heap.size := by simp only [World.size_alloc]; omega
  have nb2 := blk_new ((w.alloc (.cells #[.int .i64 c, .int .i64 t, .int .i64 a] 24)).alloc (.cells #[.int .i64 m] 3)) (.cells #[.int .i64 n] 3)
  simp only [World.size_alloc] at nb2
  have nb2 := (Below.heap_alloc (((w.alloc (.cells #[.int .i64 c, .int .i64 t, .int .i64 a] 24)).alloc (.cells #[.int .i64 m] 3)).alloc (.cells #[.int .i64 n] 3)) (.cells #[.int .i64 0, .int .i64 0, .int .i64 0] 24) (w.heap.size + 2) (by simp only [World.size_alloc]; omega)).trans nb2
  have nz2 : w.heap.size + 2 < ((((w.alloc (.cells #[.int .i64 c, .int .i64 t, .int .i64 a] 24)).alloc (.cells #[.int .i64 m] 3)).alloc (.cells #[.int .i64 n] 3)).alloc (.cells #[.int .i64 0, .int .i64 0, .int .i64 0] 24)).heap.size := by simp only [World.size_alloc]; omega
  have nb3 := blk_new (((w.alloc (.cells #[.int .i64 c, .int .i64 t, .int .i64 a] 24)).alloc (.cells #[.int .i64 m] 3)).alloc (.cells #[.int .i64 n] 3)) (.cells #[.int .i64 0, .int .i64 0, .int .i64 0] 24)
  simp only [World.size_alloc] at nb3
  have nz3 : w.heap.size + 3 < ((((w.alloc (.cells #[.int .i64 c, .int .i64 t, .int .i64 a] 24)).alloc (.cells #[.int .i64 m] 3)).alloc (.cells #[.int .i64 n] 3)).alloc (.cells #[.int .i64 0, .int .i64 0, .int .i64 0] 24)).heap.size := by simp only [World.size_alloc]; omega
  have q_1 := q_0.trans (b.mono q_0.size)
  clear q_0
  clear b
  have M_1 := Lib.hid nb1
  have Mz_1 := nz1
  clear nb1 nz1
  have N_1 := Lib.hid nb2
  have Nz_1 := nz2
  clear nb2 nz2
  have R_1 := Lib.hid nb3
  have Rz_1 := nz3
  clear nb3 nz3
  have Rc0_1 := blk_cell R_1.out 0
  have Rc1_1 := blk_cell R_1.out 1
  have Rc2_1 := blk_cell R_1.out 2
  generalize ((((w.alloc (.cells #[.int .i64 c, .int .i64 t, .int .i64 a] 24)).alloc (.cells #[.int .i64 m] 3)).alloc (.cells #[.int .i64 n] 3)).alloc (.cells #[.int .i64 0, .int .i64 0, .int .i64 0] 24)) = V1 at q_1 M_1 Mz_1 N_1 Nz_1 R_1 Rz_1 Rc0_1 Rc1_1 Rc2_1 ⊢
  refine (beh_m c t a m n _ _ hM).mono ?_
  rintro e V2 ⟨rfl, b⟩
  have R_2 := Lib.hid ((b.block _ Rz_1).trans R_1.out)
  have Rz_2 := Nat.lt_of_lt_of_le Rz_1 b.size
  have Rc0_2 := blk_cell R_2.out 0
  have Rc1_2 := blk_cell R_2.out 1
  have Rc2_2 := blk_cell R_2.out 2
  have q_2 := q_1.trans (b.mono q_1.size)
  clear M_1 Mz_1 N_1 Nz_1 R_1 Rz_1 Rc0_1 Rc1_1 Rc2_1 q_1
  clear b
  have rf0 := blk_free R_2.out 0
  have rf1 := blk_free R_2.out 1
  have rf2 := blk_free R_2.out 2
  have QY := Lib.hid q_2
  clear R_2
  go_wp2
  refine bodyPost_ret (v := .tuple #[.agg #[.int .i64 0, .int .i64 0, .int .i64 0], .int .i64 4]) (by simp [results, Try.results9, go_sem, *]) rfl ⟨rfl, ?_⟩
  (repeat' (first | (with_reducible exact QY.out) | (with_reducible exact Below.refl _ _) | (with_reducible refine Below.alloc ?_ ?_ _) | (with_reducible refine Below.setCell ?_ ?_ _) | (with_reducible refine Below.drew ?_) | (with_reducible refine below_drewN ?_ _) | omega | (dsimp only; omega) | (simp; done) | (simp; omega)))

set_option maxHeartbeats 2000000 in
theorem loss_s (c t a m n : Int) (w : World) (hM : MV m) (hS : ¬ SV c t a m) :
    Calls Try.prog 9 #[.agg #[.int .i64 c, .int .i64 t, .int .i64 a], .int .i64 m, .int .i64 n] w fun e w' => e = .returned (.tuple #[.agg #[.int .i64 0, .int .i64 0, .int .i64 0], .int .i64 171]) ∧ Below w.heap.size w w' := by
  have q_0 := Below.refl w.heap.size w
  go_enter Try.func9, Try.ntmps9
  go_wp2_with fail
  have b : Below w.heap.size w ((((w.alloc (.cells #[.int .i64 c, .int .i64 t, .int .i64 a] 24)).alloc (.cells #[.int .i64 m] 3)).alloc (.cells #[.int .i64 n] 3)).alloc (.cells #[.int .i64 0, .int .i64 0, .int .i64 0] 24)) := (((((Below.refl _ w).alloc (Nat.le_refl _) (.cells #[.int .i64 c, .int .i64 t, .int .i64 a] 24)).alloc (by simp only [World.size_alloc]; omega) (.cells #[.int .i64 m] 3)).alloc (by simp only [World.size_alloc]; omega) (.cells #[.int .i64 n] 3)).alloc (by simp only [World.size_alloc]; omega) (.cells #[.int .i64 0, .int .i64 0, .int .i64 0] 24))
  have nb1 := blk_new (w.alloc (.cells #[.int .i64 c, .int .i64 t, .int .i64 a] 24)) (.cells #[.int .i64 m] 3)
  simp only [World.size_alloc] at nb1
  have nb1 := (Below.heap_alloc ((w.alloc (.cells #[.int .i64 c, .int .i64 t, .int .i64 a] 24)).alloc (.cells #[.int .i64 m] 3)) (.cells #[.int .i64 n] 3) (w.heap.size + 1) (by simp only [World.size_alloc]; omega)).trans nb1
  have nb1 := (Below.heap_alloc (((w.alloc (.cells #[.int .i64 c, .int .i64 t, .int .i64 a] 24)).alloc (.cells #[.int .i64 m] 3)).alloc (.cells #[.int .i64 n] 3)) (.cells #[.int .i64 0, .int .i64 0, .int .i64 0] 24) (w.heap.size + 1) (by simp only [World.size_alloc]; omega)).trans nb1
  have nz1 : w.heap.size + 1 < ((((w.alloc (.cells #[.int .i64 c, .int .i64 t, .int .i64 a] 24)).alloc (.cells #[.int .i64 m] 3)).alloc (.cells #[.int .i64 n] 3)).alloc (.cells #[.int .i64 0, .int .i64 0, .int .i64 0] 24)).heap.size := by simp only [World.size_alloc]; omega
  have nb2 := blk_new ((w.alloc (.cells #[.int .i64 c, .int .i64 t, .int .i64 a] 24)).alloc (.cells #[.int .i64 m] 3)) (.cells #[.int .i64 n] 3)
  simp only [World.size_alloc] at nb2
  have nb2 := (Below.heap_alloc (((w.alloc (.cells #[.int .i64 c, .int .i64 t, .int .i64 a] 24)).alloc (.cells #[.int .i64 m] 3)).alloc (.cells #[.int .i64 n] 3)) (.cells #[.int .i64 0, .int .i64 0, .int .i64 0] 24) (w.heap.size + 2) (by simp only [World.size_alloc]; omega)).trans nb2
  have nz2 : w.heap.size + 2 < ((((w.alloc (.cells #[.int .i64 c, .int .i64 t, .int .i64 a] 24)).alloc (.cells #[.int .i64 m] 3)).alloc (.cells #[.int .i64 n] 3)).alloc (.cells #[.int .i64 0, .int .i64 0, .int .i64 0] 24)).heap.size := by simp only [World.size_alloc]; omega
  have nb3 := blk_new (((w.alloc (.cells #[.int .i64 c, .int .i64 t, .int .i64 a] 24)).alloc (.cells #[.int .i64 m] 3)).alloc (.cells #[.int .i64 n] 3)) (.cells #[.int .i64 0, .int .i64 0, .int .i64 0] 24)
  simp only [World.size_alloc] at nb3
  have nz3 : w.heap.size + 3 < ((((w.alloc (.cells #[.int .i64 c, .int .i64 t, .int .i64 a] 24)).alloc (.cells #[.int .i64 m] 3)).alloc (.cells #[.int .i64 n] 3)).alloc (.cells #[.int .i64 0, .int .i64 0, .int .i64 0] 24)).heap.size := by simp only [World.size_alloc]; omega
  have q_1 := q_0.trans (b.mono q_0.size)
  clear q_0
  clear b
  have M_1 := Lib.hid nb1
  have Mz_1 := nz1
  clear nb1 nz1
  have N_1 := Lib.hid nb2
  have Nz_1 := nz2
  clear nb2 nz2
  have R_1 := Lib.hid nb3
  have Rz_1 := nz3
  clear nb3 nz3
  have Rc0_1 := blk_cell R_1.out 0
  have Rc1_1 := blk_cell R_1.out 1
  have Rc2_1 := blk_cell R_1.out 2
  generalize ((((w.alloc (.cells #[.int .i64 c, .int .i64 t, .int .i64 a] 24)).alloc (.cells #[.int .i64 m] 3)).alloc (.cells #[.int .i64 n] 3)).alloc (.cells #[.int .i64 0, .int .i64 0, .int .i64 0] 24)) = V1 at q_1 M_1 Mz_1 N_1 Nz_1 R_1 Rz_1 Rc0_1 Rc1_1 Rc2_1 ⊢
  refine (beh_s c t a m n _ _ hM hS).mono ?_
  rintro e V2 ⟨rfl, b⟩
  have R_2 := Lib.hid ((b.block _ Rz_1).trans R_1.out)
  have Rz_2 := Nat.lt_of_lt_of_le Rz_1 b.size
  have Rc0_2 := blk_cell R_2.out 0
  have Rc1_2 := blk_cell R_2.out 1
  have Rc2_2 := blk_cell R_2.out 2
  have q_2 := q_1.trans (b.mono q_1.size)
  clear M_1 Mz_1 N_1 Nz_1 R_1 Rz_1 Rc0_1 Rc1_1 Rc2_1 q_1
  clear b
  have rf0 := blk_free R_2.out 0
  have rf1 := blk_free R_2.out 1
  have rf2 := blk_free R_2.out 2
  have QY := Lib.hid q_2
  clear R_2
  go_wp2
  refine bodyPost_ret (v := .tuple #[.agg #[.int .i64 0, .int .i64 0, .int .i64 0], .int .i64 171]) (by simp [results, Try.results9, go_sem, *]) rfl ⟨rfl, ?_⟩
  (repeat' (first | (with_reducible exact QY.out) | (with_reducible exact Below.refl _ _) | (with_reducible refine Below.alloc ?_ ?_ _) | (with_reducible refine Below.setCell ?_ ?_ _) | (with_reducible refine Below.drew ?_) | (with_reducible refine below_drewN ?_ _) | omega | (dsimp only; omega) | (simp; done) | (simp; omega)))

set_option maxHeartbeats 2000000 in
theorem loss_n (c t a m n : Int) (w : World) (hM : MV m) (hS : SV c t a m) (hN : ¬ NV n) :
    Calls Try.prog 9 #[.agg #[.int .i64 c, .int .i64 t, .int .i64 a], .int .i64 m, .int .i64 n] w fun e w' => e = .returned (.tuple #[.agg #[.int .i64 0, .int .i64 0, .int .i64 0], .int .i64 4]) ∧ Below w.heap.size w w' := by
  have q_0 := Below.refl w.heap.size w
  go_enter Try.func9, Try.ntmps9
  go_wp2_with fail
  have b : Below w.heap.size w ((((w.alloc (.cells #[.int .i64 c, .int .i64 t, .int .i64 a] 24)).alloc (.cells #[.int .i64 m] 3)).alloc (.cells #[.int .i64 n] 3)).alloc (.cells #[.int .i64 0, .int .i64 0, .int .i64 0] 24)) := (((((Below.refl _ w).alloc (Nat.le_refl _) (.cells #[.int .i64 c, .int .i64 t, .int .i64 a] 24)).alloc (by simp only [World.size_alloc]; omega) (.cells #[.int .i64 m] 3)).alloc (by simp only [World.size_alloc]; omega) (.cells #[.int .i64 n] 3)).alloc (by simp only [World.size_alloc]; omega) (.cells #[.int .i64 0, .int .i64 0, .int .i64 0] 24))
  have nb1 := blk_new (w.alloc (.cells #[.int .i64 c, .int .i64 t, .int .i64 a] 24)) (.cells #[.int .i64 m] 3)
  simp only [World.size_alloc] at nb1
  have nb1 := (Below.heap_alloc ((w.alloc (.cells #[.int .i64 c, .int .i64 t, .int .i64 a] 24)).alloc (.cells #[.int .i64 m] 3)) (.cells #[.int .i64 n] 3) (w.heap.size + 1) (by simp only [World.size_alloc]; omega)).trans nb1
  have nb1 := (Below.heap_alloc (((w.alloc (.cells #[.int .i64 c, .int .i64 t, .int .i64 a] 24)).alloc (.cells #[.int .i64 m] 3)).alloc (.cells #[.int .i64 n] 3)) (.cells #[.int .i64 0, .int .i64 0, .int .i64 0] 24) (w.heap.size + 1) (by simp only [World.size_alloc]; omega)).trans nb1
  have nz1 : w.heap.size + 1 < ((((w.alloc (.cells #[.int .i64 c, .int .i64 t, .int .i64 a] 24)).alloc (.cells #[.int .i64 m] 3)).alloc (.cells #[.int .i64 n] 3)).alloc (.cells #[.int .i64 0, .int .i64 0, .int .i64 0] 24)).heap.size := by simp only [World.size_alloc]; omega
  have nb2 := blk_new ((w.alloc (.cells #[.int .i64 c, .int .i64 t, .int .i64 a] 24)).alloc (.cells #[.int .i64 m] 3)) (.cells #[.int .i64 n] 3)
  simp only [World.size_alloc] at nb2
  have nb2 := (Below.heap_alloc (((w.alloc (.cells #[.int .i64 c, .int .i64 t, .int .i64 a] 24)).alloc (.cells #[.int .i64 m] 3)).alloc (.cells #[.int .i64 n] 3)) (.cells #[.int .i64 0, .int .i64 0, .int .i64 0] 24) (w.heap.size + 2) (by simp only [World.size_alloc]; omega)).trans nb2
  have nz2 : w.heap.size + 2 < ((((w.alloc (.cells #[.int .i64 c, .int .i64 t, .int .i64 a] 24)).alloc (.cells #[.int .i64 m] 3)).alloc (.cells #[.int .i64 n] 3)).alloc (.cells #[.int .i64 0, .int .i64 0, .int .i64 0] 24)).heap.size := by simp only [World.size_alloc]; omega
  have nb3 := blk_new (((w.alloc (.cells #[.int .i64 c, .int .i64 t, .int .i64 a] 24)).alloc (.cells #[.int .i64 m] 3)).alloc (.cells #[.int .i64 n] 3)) (.cells #[.int .i64 0, .int .i64 0, .int .i64 0] 24)
  simp only [World.size_alloc] at nb3
  have nz3 : w.heap.size + 3 < ((((w.alloc (.cells #[.int .i64 c, .int .i64 t, .int .i64 a] 24)).alloc (.cells #[.int .i64 m] 3)).alloc (.cells #[.int .i64 n] 3)).alloc (.cells #[.int .i64 0, .int .i64 0, .int .i64 0] 24)).heap.size := by simp only [World.size_alloc]; omega
  have q_1 := q_0.trans (b.mono q_0.size)
  clear q_0
  clear b
  have M_1 := Lib.hid nb1
  have Mz_1 := nz1
  clear nb1 nz1
  have N_1 := Lib.hid nb2
  have Nz_1 := nz2
  clear nb2 nz2
  have R_1 := Lib.hid nb3
  have Rz_1 := nz3
  clear nb3 nz3
  have Rc0_1 := blk_cell R_1.out 0
  have Rc1_1 := blk_cell R_1.out 1
  have Rc2_1 := blk_cell R_1.out 2
  generalize ((((w.alloc (.cells #[.int .i64 c, .int .i64 t, .int .i64 a] 24)).alloc (.cells #[.int .i64 m] 3)).alloc (.cells #[.int .i64 n] 3)).alloc (.cells #[.int .i64 0, .int .i64 0, .int .i64 0] 24)) = V1 at q_1 M_1 Mz_1 N_1 Nz_1 R_1 Rz_1 Rc0_1 Rc1_1 Rc2_1 ⊢
  refine (beh_n c t a m n _ _ hM hS hN).mono ?_
  rintro e V2 ⟨rfl, b⟩
  have R_2 := Lib.hid ((b.block _ Rz_1).trans R_1.out)
  have Rz_2 := Nat.lt_of_lt_of_le Rz_1 b.size
  have Rc0_2 := blk_cell R_2.out 0
  have Rc1_2 := blk_cell R_2.out 1
  have Rc2_2 := blk_cell R_2.out 2
  have q_2 := q_1.trans (b.mono q_1.size)
  clear M_1 Mz_1 N_1 Nz_1 R_1 Rz_1 Rc0_1 Rc1_1 Rc2_1 q_1
  clear b
  have rf0 := blk_free R_2.out 0
  have rf1 := blk_free R_2.out 1
  have rf2 := blk_free R_2.out 2
  have QY := Lib.hid q_2
  clear R_2
  go_wp2
  refine bodyPost_ret (v := .tuple #[.agg #[.int .i64 0, .int .i64 0, .int .i64 0], .int .i64 4]) (by simp [results, Try.results9, go_sem, *]) rfl ⟨rfl, ?_⟩
  (repeat' (first | (with_reducible exact QY.out) | (with_reducible exact Below.refl _ _) | (with_reducible refine Below.alloc ?_ ?_ _) | (with_reducible refine Below.setCell ?_ ?_ _) | (with_reducible refine Below.drew ?_) | (with_reducible refine below_drewN ?_ _) | omega | (dsimp only; omega) | (simp; done) | (simp; omega)))

set_option maxHeartbeats 2000000 in
theorem timeout_m (c t a m n : Int) (w : World) (hM : ¬ MV m) :
    Calls Try.prog 11 #[.agg #[.int .i64 c, .int .i64 t, .int .i64 a], .int .i64 m, .int .i64 n] w fun e w' => e = .returned (.tuple #[.agg #[.int .i64 0, .int .i64 0, .int .i64 0], .int .i64 4]) ∧ Below w.heap.size w w' := by
  have q_0 := Below.refl w.heap.size w
  go_enter Try.func11, Try.ntmps11
  go_wp2_with fail
  have b : Below w.heap.size w ((((w.alloc (.cells #[.int .i64 c, .int .i64 t, .int .i64 a] 24)).alloc (.cells #[.int .i64 m] 3)).alloc (.cells #[.int .i64 n] 3)).alloc (.cells #[.int .i64 0, .int .i64 0, .int .i64 0] 24)) := (((((Below.refl _ w).alloc (Nat.le_refl _) (.cells #[.int .i64 c, .int .i64 t, .int .i64 a] 24)).alloc (by simp only [World.size_alloc]; omega) (.cells #[.int .i64 m] 3)).alloc (by simp only [World.size_alloc]; omega) (.cells #[.int .i64 n] 3)).alloc (by simp only [World.size_alloc]; omega) (.cells #[.int .i64 0, .int .i64 0, .int .i64 0] 24))
  have nb1 := blk_new (w.alloc (.cells #[.int .i64 c, .int .i64 t, .int .i64 a] 24)) (.cells #[.int .i64 m] 3)
  simp only [World.size_alloc] at nb1
  have nb1 := (Below.heap_alloc ((w.alloc (.cells #[.int .i64 c, .int .i64 t, .int .i64 a] 24)).alloc (.cells #[.int .i64 m] 3)) (.cells #[.int .i64 n] 3) (w.heap.size + 1) (by simp only [World.size_alloc]; omega)).trans nb1
  have nb1 := (Below.heap_alloc (((w.alloc (.cells #[.int .i64 c, .int .i64 t, .int .i64 a] 24)).alloc (.cells #[.int .i64 m] 3)).alloc (.cells #[.int .i64 n] 3)) (.cells #[.int .i64 0, .int .i64 0, .int .i64 0] 24) (w.heap.size + 1) (by simp only [World.size_alloc]; omega)).trans nb1
  have nz1 : w.heap.size + 1 < ((((w.alloc (.cells #[.int .i64 c, .int .i64 t, .int .i64 a] 24)).alloc (.cells #[.int .i64 m] 3)).alloc (.cells #[.int .i64 n] 3)).alloc (.cells #[.int .i64 0, .int .i64 0, .int .i64 0] 24)).heap.size := by simp only [World.size_alloc]; omega
  have nb2 := blk_new ((w.alloc (.cells #[.int .i64 c, .int .i64 t, .int .i64 a] 24)).alloc (.cells #[.int .i64 m] 3)) (.cells #[.int .i64 n] 3)
  simp only [World.size_alloc] at nb2
  have nb2 := (Below.heap_alloc (((w.alloc (.cells #[.int .i64 c, .int .i64 t, .int .i64 a] 24)).alloc (.cells #[.int .i64 m] 3)).alloc (.cells #[.int .i64 n] 3)) (.cells #[.int .i64 0, .int .i64 0, .int .i64 0] 24) (w.heap.size + 2) (by simp only [World.size_alloc]; omega)).trans nb2
  have nz2 : w.heap.size + 2 < ((((w.alloc (.cells #[.int .i64 c, .int .i64 t, .int .i64 a] 24)).alloc (.cells #[.int .i64 m] 3)).alloc (.cells #[.int .i64 n] 3)).alloc (.cells #[.int .i64 0, .int .i64 0, .int .i64 0] 24)).heap.size := by simp only [World.size_alloc]; omega
  have nb3 := blk_new (((w.alloc (.cells #[.int .i64 c, .int .i64 t, .int .i64 a] 24)).alloc (.cells #[.int .i64 m] 3)).alloc (.cells #[.int .i64 n] 3)) (.cells #[.int .i64 0, .int .i64 0, .int .i64 0] 24)
  simp only [World.size_alloc] at nb3
  have nz3 : w.heap.size + 3 < ((((w.alloc (.cells #[.int .i64 c, .int .i64 t, .int .i64 a] 24)).alloc (.cells #[.int .i64 m] 3)).alloc (.cells #[.int .i64 n] 3)).alloc (.cells #[.int .i64 0, .int .i64 0, .int .i64 0] 24)).heap.size := by simp only [World.size_alloc]; omega
  have q_1 := q_0.trans (b.mono q_0.size)
  clear q_0
  clear b
  have M_1 := Lib.hid nb1
  have Mz_1 := nz1
  clear nb1 nz1
  have N_1 := Lib.hid nb2
  have Nz_1 := nz2
  clear nb2 nz2
  have R_1 := Lib.hid nb3
  have Rz_1 := nz3
  clear nb3 nz3
  have Rc0_1 := blk_cell R_1.out 0
  have Rc1_1 := blk_cell R_1.out 1
  have Rc2_1 := blk_cell R_1.out 2
  generalize ((((w.alloc (.cells #[.int .i64 c, .int .i64 t, .int .i64 a] 24)).alloc (.cells #[.int .i64 m] 3)).alloc (.cells #[.int .i64 n] 3)).alloc (.cells #[.int .i64 0, .int .i64 0, .int .i64 0] 24)) = V1 at q_1 M_1 Mz_1 N_1 Nz_1 R_1 Rz_1 Rc0_1 Rc1_1 Rc2_1 ⊢
  refine (beh_m c t a m n _ _ hM).mono ?_
  rintro e V2 ⟨rfl, b⟩
  have R_2 := Lib.hid ((b.block _ Rz_1).trans R_1.out)
  have Rz_2 := Nat.lt_of_lt_of_le Rz_1 b.size
  have Rc0_2 := blk_cell R_2.out 0
  have Rc1_2 := blk_cell R_2.out 1
  have Rc2_2 := blk_cell R_2.out 2
  have q_2 := q_1.trans (b.mono q_1.size)
  clear M_1 Mz_1 N_1 Nz_1 R_1 Rz_1 Rc0_1 Rc1_1 Rc2_1 q_1
  clear b
  have rf0 := blk_free R_2.out 0
  have rf1 := blk_free R_2.out 1
  have rf2 := blk_free R_2.out 2
  have QY := Lib.hid q_2
  clear R_2
  go_wp2
  refine bodyPost_ret (v := .tuple #[.agg #[.int .i64 0, .int .i64 0, .int .i64 0], .int .i64 4]) (by simp [results, Try.results11, go_sem, *]) rfl ⟨rfl, ?_⟩
  (repeat' (first | (with_reducible exact QY.out) | (with_reducible exact Below.refl _ _) | (with_reducible refine Below.alloc ?_ ?_ _) | (with_reducible refine Below.setCell ?_ ?_ _) | (with_reducible refine Below.drew ?_) | (with_reducible refine below_drewN ?_ _) | omega | (dsimp only; omega) | (simp; done) | (simp; omega)))

set_option maxHeartbeats 2000000 in
theorem timeout_s (c t a m n : Int) (w : World) (hM : MV m) (hS : ¬ SV c t a m) :
    Calls Try.prog 11 #[.agg #[.int .i64 c, .int .i64 t, .int .i64 a], .int .i64 m, .int .i64 n] w fun e w' => e = .returned (.tuple #[.agg #[.int .i64 0, .int .i64 0, .int .i64 0], .int .i64 171]) ∧ Below w.heap.size w w' := by
  have q_0 := Below.refl w.heap.size w
  go_enter Try.func11, Try.ntmps11
  go_wp2_with fail
  have b : Below w.heap.size w ((((w.alloc (.cells #[.int .i64 c, .int .i64 t, .int .i64 a] 24)).alloc (.cells #[.int .i64 m] 3)).alloc (.cells #[.int .i64 n] 3)).alloc (.cells #[.int .i64 0, .int .i64 0, .int .i64 0] 24)) := (((((Below.refl _ w).alloc (Nat.le_refl _) (.cells #[.int .i64 c, .int .i64 t, .int .i64 a] 24)).alloc (by simp only [World.size_alloc]; omega) (.cells #[.int .i64 m] 3)).alloc (by simp only [World.size_alloc]; omega) (.cells #[.int .i64 n] 3)).alloc (by simp only [World.size_alloc]; omega) (.cells #[.int .i64 0, .int .i64 0, .int .i64 0] 24))
  have nb1 := blk_new (w.alloc (.cells #[.int .i64 c, .int .i64 t, .int .i64 a] 24)) (.cells #[.int .i64 m] 3)
  simp only [World.size_alloc] at nb1
  have nb1 := (Below.heap_alloc ((w.alloc (.cells #[.int .i64 c, .int .i64 t, .int .i64 a] 24)).alloc (.cells #[.int .i64 m] 3)) (.cells #[.int .i64 n] 3) (w.heap.size + 1) (by simp only [World.size_alloc]; omega)).trans nb1
  have nb1 := (Below.heap_alloc (((w.alloc (.cells #[.int .i64 c, .int .i64 t, .int .i64 a] 24)).alloc (.cells #[.int .i64 m] 3)).alloc (.cells #[.int .i64 n] 3)) (.cells #[.int .i64 0, .int .i64 0, .int .i64 0] 24) (w.heap.size + 1) (by simp only [World.size_alloc]; omega)).trans nb1
  have nz1 : w.heap.size + 1 < ((((w.alloc (.cells #[.int .i64 c, .int .i64 t, .int .i64 a] 24)).alloc (.cells #[.int .i64 m] 3)).alloc (.cells #[.int .i64 n] 3)).alloc (.cells #[.int .i64 0, .int .i64 0, .int .i64 0] 24)).heap.size := by simp only [World.size_alloc]; omega
  have nb2 := blk_new ((w.alloc (.cells #[.int .i64 c, .int .i64 t, .int .i64 a] 24)).alloc (.cells #[.int .i64 m] 3)) (.cells #[.int .i64 n] 3)
  simp only [World.size_alloc] at nb2
  have nb2 := (Below.heap_alloc (((w.alloc (.cells #[.int .i64 c, .int .i64 t, .int .i64 a] 24)).alloc (.cells #[.int .i64 m] 3)).alloc (.cells #[.int .i64 n] 3)) (.cells #[.int .i64 0, .int .i64 0, .int .i64 0] 24) (w.heap.size + 2) (by simp only [World.size_alloc]; omega)).trans nb2
  have nz2 : w.heap.size + 2 < ((((w.alloc (.cells #[.int .i64 c, .int .i64 t, .int .i64 a] 24)).alloc (.cells #[.int .i64 m] 3)).alloc (.cells #[.int .i64 n] 3)).alloc (.cells #[.int .i64 0, .int .i64 0, .int .i64 0] 24)).heap.size := by simp only [World.size_alloc]; omega
  have nb3 := blk_new (((w.alloc (.cells #[.int .i64 c, .int .i64 t, .int .i64 a] 24)).alloc (.cells #[.int .i64 m] 3)).alloc (.cells #[.int .i64 n] 3)) (.cells #[.int .i64 0, .int .i64 0, .int .i64 0] 24)
  simp only [World.size_alloc] at nb3
  have nz3 : w.heap.size + 3 < ((((w.alloc (.cells #[.int .i64 c, .int .i64 t, .int .i64 a] 24)).alloc (.cells #[.int .i64 m] 3)).alloc (.cells #[.int .i64 n] 3)).alloc (.cells #[.int .i64 0, .int .i64 0, .int .i64 0] 24)).heap.size := by simp only [World.size_alloc]; omega
  have q_1 := q_0.trans (b.mono q_0.size)
  clear q_0
  clear b
  have M_1 := Lib.hid nb1
  have Mz_1 := nz1
  clear nb1 nz1
  have N_1 := Lib.hid nb2
  have Nz_1 := nz2
  clear nb2 nz2
  have R_1 := Lib.hid nb3
  have Rz_1 := nz3
  clear nb3 nz3
  have Rc0_1 := blk_cell R_1.out 0
  have Rc1_1 := blk_cell R_1.out 1
  have Rc2_1 := blk_cell R_1.out 2
  generalize ((((w.alloc (.cells #[.int .i64 c, .int .i64 t, .int .i64 a] 24)).alloc (.cells #[.int .i64 m] 3)).alloc (.cells #[.int .i64 n] 3)).alloc (.cells #[.int .i64 0, .int .i64 0, .int .i64 0] 24)) = V1 at q_1 M_1 Mz_1 N_1 Nz_1 R_1 Rz_1 Rc0_1 Rc1_1 Rc2_1 ⊢
  refine (beh_s c t a m n _ _ hM hS).mono ?_
  rintro e V2 ⟨rfl, b⟩
  have R_2 := Lib.hid ((b.block _ Rz_1).trans R_1.out)
  have Rz_2 := Nat.lt_of_lt_of_le Rz_1 b.size
  have Rc0_2 := blk_cell R_2.out 0
  have Rc1_2 := blk_cell R_2.out 1
  have Rc2_2 := blk_cell R_2.out 2
  have q_2 := q_1.trans (b.mono q_1.size)
  clear M_1 Mz_1 N_1 Nz_1 R_1 Rz_1 Rc0_1 Rc1_1 Rc2_1 q_1
  clear b
  have rf0 := blk_free R_2.out 0
  have rf1 := blk_free R_2.out 1
  have rf2 := blk_free R_2.out 2
  have QY := Lib.hid q_2
  clear R_2
  go_wp2
  refine bodyPost_ret (v := .tuple #[.agg #[.int .i64 0, .int .i64 0, .int .i64 0], .int .i64 171]) (by simp [results, Try.results11, go_sem, *]) rfl ⟨rfl, ?_⟩
  (repeat' (first | (with_reducible exact QY.out) | (with_reducible exact Below.refl _ _) | (with_reducible refine Below.alloc ?_ ?_ _) | (with_reducible refine Below.setCell ?_ ?_ _) | (with_reducible refine Below.drew ?_) | (with_reducible refine below_drewN ?_ _) | omega | (dsimp only; omega) | (simp; done) | (simp; omega)))

set_option maxHeartbeats 2000000 in
theorem timeout_n (c t a m n : Int) (w : World) (hM : MV m) (hS : SV c t a m) (hN : ¬ NV n) :
    Calls Try.prog 11 #[.agg #[.int .i64 c, .int .i64 t, .int .i64 a], .int .i64 m, .int .i64 n] w fun e w' => e = .returned (.tuple #[.agg #[.int .i64 0, .int .i64 0, .int .i64 0], .int .i64 4]) ∧ Below w.heap.size w w' := by
  have q_0 := Below.refl w.heap.size w
  go_enter Try.func11, Try.ntmps11
  go_wp2_with fail
  have b : Below w.heap.size w ((((w.alloc (.cells #[.int .i64 c, .int .i64 t, .int .i64 a] 24)).alloc (.cells #[.int .i64 m] 3)).alloc (.cells #[.int .i64 n] 3)).alloc (.cells #[.int .i64 0, .int .i64 0, .int .i64 0] 24)) := (((((Below.refl _ w).alloc (Nat.le_refl _) (.cells #[.int .i64 c, .int .i64 t, .int .i64 a] 24)).alloc (by simp only [World.size_alloc]; omega) (.cells #[.int .i64 m] 3)).alloc (by simp only [World.size_alloc]; omega) (.cells #[.int .i64 n] 3)).alloc (by simp only [World.size_alloc]; omega) (.cells #[.int .i64 0, .int .i64 0, .int .i64 0] 24))
  have nb1 := blk_new (w.alloc (.cells #[.int .i64 c, .int .i64 t, .int .i64 a] 24)) (.cells #[.int .i64 m] 3)
  simp only [World.size_alloc] at nb1
  have nb1 := (Below.heap_alloc ((w.alloc (.cells #[.int .i64 c, .int .i64 t, .int .i64 a] 24)).alloc (.cells #[.int .i64 m] 3)) (.cells #[.int .i64 n] 3) (w.heap.size + 1) (by simp only [World.size_alloc]; omega)).trans nb1
  have nb1 := (Below.heap_alloc (((w.alloc (.cells #[.int .i64 c, .int .i64 t, .int .i64 a] 24)).alloc (.cells #[.int .i64 m] 3)).alloc (.cells #[.int .i64 n] 3)) (.cells #[.int .i64 0, .int .i64 0, .int .i64 0] 24) (w.heap.size + 1) (by simp only [World.size_alloc]; omega)).trans nb1
  have nz1 : w.heap.size + 1 < ((((w.alloc (.cells #[.int .i64 c, .int .i64 t, .int .i64 a] 24)).alloc (.cells #[.int .i64 m] 3)).alloc (.cells #[.int .i64 n] 3)).alloc (.cells #[.int .i64 0, .int .i64 0, .int .i64 0] 24)).heap.size := by simp only [World.size_alloc]; omega
  have nb2 := blk_new ((w.alloc (.cells #[.int .i64 c, .int .i64 t, .int .i64 a] 24)).alloc (.cells #[.int .i64 m] 3)) (.cells #[.int .i64 n] 3)
  simp only [World.size_alloc] at nb2
  have nb2 := (Below.heap_alloc (((w.alloc (.cells #[.int .i64 c, .int .i64 t, .int .i64 a] 24)).alloc (.cells #[.int .i64 m] 3)).alloc (.cells #[.int .i64 n] 3)) (.cells #[.int .i64 0, .int .i64 0, .int .i64 0] 24) (w.heap.size + 2) (by simp only [World.size_alloc]; omega)).trans nb2
  have nz2 : w.heap.size + 2 < ((((w.alloc (.cells #[.int .i64 c, .int .i64 t, .int .i64 a] 24)).alloc (.cells #[.int .i64 m] 3)).alloc (.cells #[.int .i64 n] 3)).alloc (.cells #[.int .i64 0, .int .i64 0, .int .i64 0] 24)).heap.size := by simp only [World.size_alloc]; omega
  have nb3 := blk_new (((w.alloc (.cells #[.int .i64 c, .int .i64 t, .int .i64 a] 24)).alloc (.cells #[.int .i64 m] 3)).alloc (.cells #[.int .i64 n] 3)) (.cells #[.int .i64 0, .int .i64 0, .int .i64 0] 24)
  simp only [World.size_alloc] at nb3
  have nz3 : w.heap.size + 3 < ((((w.alloc (.cells #[.int .i64 c, .int .i64 t, .int .i64 a] 24)).alloc (.cells #[.int .i64 m] 3)).alloc (.cells #[.int .i64 n] 3)).alloc (.cells #[.int .i64 0, .int .i64 0, .int .i64 0] 24)).heap.size := by simp only [World.size_alloc]; omega
  have q_1 := q_0.trans (b.mono q_0.size)
  clear q_0
  clear b
  have M_1 := Lib.hid nb1
  have Mz_1 := nz1
  clear nb1 nz1
  have N_1 := Lib.hid nb2
  have Nz_1 := nz2
  clear nb2 nz2
  have R_1 := Lib.hid nb3
  have Rz_1 := nz3
  clear nb3 nz3
  have Rc0_1 := blk_cell R_1.out 0
  have Rc1_1 := blk_cell R_1.out 1
  have Rc2_1 := blk_cell R_1.out 2
  generalize ((((w.alloc (.cells #[.int .i64 c, .int .i64 t, .int .i64 a] 24)).alloc (.cells #[.int .i64 m] 3)).alloc (.cells #[.int .i64 n] 3)).alloc (.cells #[.int .i64 0, .int .i64 0, .int .i64 0] 24)) = V1 at q_1 M_1 Mz_1 N_1 Nz_1 R_1 Rz_1 Rc0_1 Rc1_1 Rc2_1 ⊢
  refine (beh_n c t a m n _ _ hM hS hN).mono ?_
  rintro e V2 ⟨rfl, b⟩
  have R_2 := Lib.hid ((b.block _ Rz_1).trans R_1.out)
  have Rz_2 := Nat.lt_of_lt_of_le Rz_1 b.size
  have Rc0_2 := blk_cell R_2.out 0
  have Rc1_2 := blk_cell R_2.out 1
  have Rc2_2 := blk_cell R_2.out 2
  have q_2 := q_1.trans (b.mono q_1.size)
  clear M_1 Mz_1 N_1 Nz_1 R_1 Rz_1 Rc0_1 Rc1_1 Rc2_1 q_1
  clear b
  have rf0 := blk_free R_2.out 0
  have rf1 := blk_free R_2.out 1
  have rf2 := blk_free R_2.out 2
  have QY := Lib.hid q_2
  clear R_2
  go_wp2
  refine bodyPost_ret (v := .tuple #[.agg #[.int .i64 0, .int .i64 0, .int .i64 0], .int .i64 4]) (by simp [results, Try.results11, go_sem, *]) rfl ⟨rfl, ?_⟩
  (repeat' (first | (with_reducible exact QY.out) | (with_reducible exact Below.refl _ _) | (with_reducible refine Below.alloc ?_ ?_ _) | (with_reducible refine Below.setCell ?_ ?_ _) | (with_reducible refine Below.drew ?_) | (with_reducible refine below_drewN ?_ _) | omega | (dsimp only; omega) | (simp; done) | (simp; omega)))

set_option maxHeartbeats 2000000 in
theorem new_ok (m : Int) (w : World) (hM : MV m) :
    Calls Try.prog 13 #[.int .i64 m] w fun e w' => e = .returned (.tuple #[.agg #[.int .i64 (min (10 * m) (max (2 * m) 14600)), .int .i64 1073741824, .int .i64 0], .int .i64 0]) ∧ Below w.heap.size w w' := by
  obtain ⟨m0, m1⟩ := hM
  go_enter Try.func13, Try.ntmps13
  go_wp2
  refine bodyPost_ret (v := .tuple #[.agg #[.int .i64 (min (10 * m) (max (2 * m) 14600)), .int .i64 1073741824, .int .i64 0], .int .i64 0]) (by simp [results, Try.results13, go_sem, *]) rfl ⟨rfl, ?_⟩
  (repeat' (first | (with_reducible exact Below.refl _ _) | (with_reducible refine Below.alloc ?_ ?_ _) | (with_reducible refine Below.setCell ?_ ?_ _) | (with_reducible refine Below.drew ?_) | (with_reducible refine below_drewN ?_ _) | omega | (dsimp only; omega) | (simp; done) | (simp; omega)))

set_option maxHeartbeats 2000000 in
theorem new_m (m : Int) (w : World) (hM : ¬ MV m) :
    Calls Try.prog 13 #[.int .i64 m] w fun e w' => e = .returned (.tuple #[.agg #[.int .i64 0, .int .i64 0, .int .i64 0], .int .i64 4]) ∧ Below w.heap.size w w' := by
  have hM' : m < 1 ∨ 65535 < m := by unfold MV at hM; omega
  clear hM
  rcases hM' with h | h
  · go_enter Try.func13, Try.ntmps13
    go_wp2
    refine bodyPost_ret (v := .tuple #[.agg #[.int .i64 0, .int .i64 0, .int .i64 0], .int .i64 4]) (by simp [results, Try.results13, go_sem, *]) rfl ⟨rfl, ?_⟩
    (repeat' (first | (with_reducible exact Below.refl _ _) | (with_reducible refine Below.alloc ?_ ?_ _) | (with_reducible refine Below.setCell ?_ ?_ _) | (with_reducible refine Below.drew ?_) | (with_reducible refine below_drewN ?_ _) | omega | (dsimp only; omega) | (simp; done) | (simp; omega)))
  · by_cases h1 : m < 1
    · omega
    go_enter Try.func13, Try.ntmps13
    go_wp2
    refine bodyPost_ret (v := .tuple #[.agg #[.int .i64 0, .int .i64 0, .int .i64 0], .int .i64 4]) (by simp [results, Try.results13, go_sem, *]) rfl ⟨rfl, ?_⟩
    (repeat' (first | (with_reducible exact Below.refl _ _) | (with_reducible refine Below.alloc ?_ ?_ _) | (with_reducible refine Below.setCell ?_ ?_ _) | (with_reducible refine Below.drew ?_) | (with_reducible refine below_drewN ?_ _) | omega | (dsimp only; omega) | (simp; done) | (simp; omega)))

end Go.Proofs.Ytmjcckpppflpjaa
