/- Prr: Deliver. -/
import Derived.Test.YtlkpcojhpndieaaPrC
import Derived.Test.YtlkpcojhpndieaaGStore
import Derived.RegionTactic
namespace Go.Proofs.Ytlkpcojhpndieaa
open Go.RowKit Go.Proofs.Ytlkpcojhpndieaa.Pr

set_option maxHeartbeats 2000000 in
theorem deliver_s (d a i r k pd pa pi pl n v : Int) (w : World) (hS : ¬ RV d a i r k) :
    Calls Try.prog 17 #[.agg #[.int .i64 d, .int .i64 a, .int .i64 i, .int .i64 r, .int .i64 k], .agg #[.int .i64 pd, .int .i64 pa, .int .i64 pi, .int .i64 pl], .int .i64 n, .int .i64 v] w fun e w' => e = .returned (.tuple #[.agg #[.int .i64 0, .int .i64 0, .int .i64 0, .int .i64 0, .int .i64 0], .int .i64 0, .bool false, .int .i64 171]) ∧ Below w.heap.size w w' := by
  have q_0 := Below.refl w.heap.size w
  go_enter Try.func17, Try.ntmps17
  go_wp2_with fail
  have b : Below w.heap.size w (((w.alloc (.cells #[.int .i64 d, .int .i64 a, .int .i64 i, .int .i64 r, .int .i64 k] 43)).alloc (.cells #[.int .i64 pd, .int .i64 pa, .int .i64 pi, .int .i64 pl] 44)).alloc (.cells #[.int .i64 0, .int .i64 0, .int .i64 0, .int .i64 0, .int .i64 0] 43)) := ((((Below.refl _ w).alloc (Nat.le_refl _) (.cells #[.int .i64 d, .int .i64 a, .int .i64 i, .int .i64 r, .int .i64 k] 43)).alloc (by simp only [World.size_alloc]; omega) (.cells #[.int .i64 pd, .int .i64 pa, .int .i64 pi, .int .i64 pl] 44)).alloc (by simp only [World.size_alloc]; omega) (.cells #[.int .i64 0, .int .i64 0, .int .i64 0, .int .i64 0, .int .i64 0] 43))
  have nb0 := blk_new w (.cells #[.int .i64 d, .int .i64 a, .int .i64 i, .int .i64 r, .int .i64 k] 43)
  have nb0 := (Below.heap_alloc (w.alloc (.cells #[.int .i64 d, .int .i64 a, .int .i64 i, .int .i64 r, .int .i64 k] 43)) (.cells #[.int .i64 pd, .int .i64 pa, .int .i64 pi, .int .i64 pl] 44) (w.heap.size) (by simp only [World.size_alloc]; omega)).trans nb0
  have nb0 := (Below.heap_alloc ((w.alloc (.cells #[.int .i64 d, .int .i64 a, .int .i64 i, .int .i64 r, .int .i64 k] 43)).alloc (.cells #[.int .i64 pd, .int .i64 pa, .int .i64 pi, .int .i64 pl] 44)) (.cells #[.int .i64 0, .int .i64 0, .int .i64 0, .int .i64 0, .int .i64 0] 43) (w.heap.size) (by simp only [World.size_alloc]; omega)).trans nb0
  have nz0 : w.heap.size < (((w.alloc (.cells #[.int .i64 d, .int .i64 a, .int .i64 i, .int .i64 r, .int .i64 k] 43)).alloc (.cells #[.int .i64 pd, .int .i64 pa, .int .i64 pi, .int .i64 pl] 44)).alloc (.cells #[.int .i64 0, .int .i64 0, .int .i64 0, .int .i64 0, .int .i64 0] 43)).heap.size := by simp only [World.size_alloc]; omega
  have nb1 := blk_new (w.alloc (.cells #[.int .i64 d, .int .i64 a, .int .i64 i, .int .i64 r, .int .i64 k] 43)) (.cells #[.int .i64 pd, .int .i64 pa, .int .i64 pi, .int .i64 pl] 44)
  simp only [World.size_alloc] at nb1
  have nb1 := (Below.heap_alloc ((w.alloc (.cells #[.int .i64 d, .int .i64 a, .int .i64 i, .int .i64 r, .int .i64 k] 43)).alloc (.cells #[.int .i64 pd, .int .i64 pa, .int .i64 pi, .int .i64 pl] 44)) (.cells #[.int .i64 0, .int .i64 0, .int .i64 0, .int .i64 0, .int .i64 0] 43) (w.heap.size + 1) (by simp only [World.size_alloc]; omega)).trans nb1
  have nz1 : w.heap.size + 1 < (((w.alloc (.cells #[.int .i64 d, .int .i64 a, .int .i64 i, .int .i64 r, .int .i64 k] 43)).alloc (.cells #[.int .i64 pd, .int .i64 pa, .int .i64 pi, .int .i64 pl] 44)).alloc (.cells #[.int .i64 0, .int .i64 0, .int .i64 0, .int .i64 0, .int .i64 0] 43)).heap.size := by simp only [World.size_alloc]; omega
  have nb2 := blk_new ((w.alloc (.cells #[.int .i64 d, .int .i64 a, .int .i64 i, .int .i64 r, .int .i64 k] 43)).alloc (.cells #[.int .i64 pd, .int .i64 pa, .int .i64 pi, .int .i64 pl] 44)) (.cells #[.int .i64 0, .int .i64 0, .int .i64 0, .int .i64 0, .int .i64 0] 43)
  simp only [World.size_alloc] at nb2
  have nz2 : w.heap.size + 2 < (((w.alloc (.cells #[.int .i64 d, .int .i64 a, .int .i64 i, .int .i64 r, .int .i64 k] 43)).alloc (.cells #[.int .i64 pd, .int .i64 pa, .int .i64 pi, .int .i64 pl] 44)).alloc (.cells #[.int .i64 0, .int .i64 0, .int .i64 0, .int .i64 0, .int .i64 0] 43)).heap.size := by simp only [World.size_alloc]; omega
  have q_1 := q_0.trans (b.mono q_0.size)
  clear q_0
  clear b
  have S_1 := Lib.hid nb0
  have Sz_1 := nz0
  clear nb0 nz0
  have Sc0_1 := blk_cell S_1.out 0
  have Sc1_1 := blk_cell S_1.out 1
  have Sc2_1 := blk_cell S_1.out 2
  have Sc3_1 := blk_cell S_1.out 3
  have Sc4_1 := blk_cell S_1.out 4
  have X_1 := Lib.hid nb1
  have Xz_1 := nz1
  clear nb1 nz1
  have Xc0_1 := blk_cell X_1.out 0
  have Xc1_1 := blk_cell X_1.out 1
  have Xc2_1 := blk_cell X_1.out 2
  have Xc3_1 := blk_cell X_1.out 3
  have R_1 := Lib.hid nb2
  have Rz_1 := nz2
  clear nb2 nz2
  have Rc0_1 := blk_cell R_1.out 0
  have Rc1_1 := blk_cell R_1.out 1
  have Rc2_1 := blk_cell R_1.out 2
  have Rc3_1 := blk_cell R_1.out 3
  have Rc4_1 := blk_cell R_1.out 4
  generalize (((w.alloc (.cells #[.int .i64 d, .int .i64 a, .int .i64 i, .int .i64 r, .int .i64 k] 43)).alloc (.cells #[.int .i64 pd, .int .i64 pa, .int .i64 pi, .int .i64 pl] 44)).alloc (.cells #[.int .i64 0, .int .i64 0, .int .i64 0, .int .i64 0, .int .i64 0] 43)) = V1 at q_1 S_1 Sz_1 Sc0_1 Sc1_1 Sc2_1 Sc3_1 Sc4_1 X_1 Xz_1 Xc0_1 Xc1_1 Xc2_1 Xc3_1 R_1 Rz_1 Rc0_1 Rc1_1 Rc2_1 Rc3_1 Rc4_1 ⊢
  have nsx : w.heap.size ≠ w.heap.size + 1 := by omega
  have nsr : w.heap.size ≠ w.heap.size + 1 + 1 := by omega
  have nxr : w.heap.size + 1 ≠ w.heap.size + 1 + 1 := by omega
  have nxs := nsx.symm
  have nrs := nsr.symm
  have nrx := nxr.symm
  refine (rmay_no d a i r k _ hS).mono ?_
  rintro e V2 ⟨rfl, b⟩
  have S_2 := Lib.hid ((b.block _ Sz_1).trans S_1.out)
  have Sz_2 := Nat.lt_of_lt_of_le Sz_1 b.size
  have Sc0_2 := blk_cell S_2.out 0
  have Sc1_2 := blk_cell S_2.out 1
  have Sc2_2 := blk_cell S_2.out 2
  have Sc3_2 := blk_cell S_2.out 3
  have Sc4_2 := blk_cell S_2.out 4
  have X_2 := Lib.hid ((b.block _ Xz_1).trans X_1.out)
  have Xz_2 := Nat.lt_of_lt_of_le Xz_1 b.size
  have Xc0_2 := blk_cell X_2.out 0
  have Xc1_2 := blk_cell X_2.out 1
  have Xc2_2 := blk_cell X_2.out 2
  have Xc3_2 := blk_cell X_2.out 3
  have R_2 := Lib.hid ((b.block _ Rz_1).trans R_1.out)
  have Rz_2 := Nat.lt_of_lt_of_le Rz_1 b.size
  have Rc0_2 := blk_cell R_2.out 0
  have Rc1_2 := blk_cell R_2.out 1
  have Rc2_2 := blk_cell R_2.out 2
  have Rc3_2 := blk_cell R_2.out 3
  have Rc4_2 := blk_cell R_2.out 4
  have q_2 := q_1.trans (b.mono q_1.size)
  clear S_1 Sz_1 Sc0_1 Sc1_1 Sc2_1 Sc3_1 Sc4_1 X_1 Xz_1 Xc0_1 Xc1_1 Xc2_1 Xc3_1 R_1 Rz_1 Rc0_1 Rc1_1 Rc2_1 Rc3_1 Rc4_1 q_1
  clear b
  have fR0 := blk_free R_2.out 0
  have fR1 := blk_free R_2.out 1
  have fR2 := blk_free R_2.out 2
  have fR3 := blk_free R_2.out 3
  have fR4 := blk_free R_2.out 4
  have QY := Lib.hid q_2
  clear S_2 X_2 R_2
  go_wp2
  refine bodyPost_ret (v := .tuple #[.agg #[.int .i64 0, .int .i64 0, .int .i64 0, .int .i64 0, .int .i64 0], .int .i64 0, .bool false, .int .i64 171]) (by simp [results, Try.results17, go_sem, *]) rfl ⟨rfl, ?_⟩
  (repeat' (first | (with_reducible exact QY.out) | (with_reducible exact Below.refl _ _) | (with_reducible refine Below.alloc ?_ ?_ _) | (with_reducible refine Below.setCell ?_ ?_ _) | (with_reducible refine Below.drew ?_) | (with_reducible refine below_drewN ?_ _) | omega | (dsimp only; omega) | (simp; done) | (simp; omega)))

set_option maxHeartbeats 2000000 in
theorem deliver_d (d a i r k pd pa pi pl n v : Int) (w : World) (hS : RV d a i r k) (hD : ¬ DV n v pd pa pi pl) :
    Calls Try.prog 17 #[.agg #[.int .i64 d, .int .i64 a, .int .i64 i, .int .i64 r, .int .i64 k], .agg #[.int .i64 pd, .int .i64 pa, .int .i64 pi, .int .i64 pl], .int .i64 n, .int .i64 v] w fun e w' => e = .returned (.tuple #[.agg #[.int .i64 0, .int .i64 0, .int .i64 0, .int .i64 0, .int .i64 0], .int .i64 0, .bool false, .int .i64 4]) ∧ Below w.heap.size w w' := by
  by_cases hB : InR 1 1073741824 [n]
  · have HB := Lib.hid hB
    have HM : Hid (¬ InR 0 1099511627776 [v, pd, pa, pi, pl]) := Lib.hid (fun hb => hD ⟨inR1.1 hB, inR5.1 hb⟩)
    clear hB hD
    have q_0 := Below.refl w.heap.size w
    go_enter Try.func17, Try.ntmps17
    go_wp2_with fail
    have b : Below w.heap.size w (((w.alloc (.cells #[.int .i64 d, .int .i64 a, .int .i64 i, .int .i64 r, .int .i64 k] 43)).alloc (.cells #[.int .i64 pd, .int .i64 pa, .int .i64 pi, .int .i64 pl] 44)).alloc (.cells #[.int .i64 0, .int .i64 0, .int .i64 0, .int .i64 0, .int .i64 0] 43)) := ((((Below.refl _ w).alloc (Nat.le_refl _) (.cells #[.int .i64 d, .int .i64 a, .int .i64 i, .int .i64 r, .int .i64 k] 43)).alloc (by simp only [World.size_alloc]; omega) (.cells #[.int .i64 pd, .int .i64 pa, .int .i64 pi, .int .i64 pl] 44)).alloc (by simp only [World.size_alloc]; omega) (.cells #[.int .i64 0, .int .i64 0, .int .i64 0, .int .i64 0, .int .i64 0] 43))
    have nb0 := blk_new w (.cells #[.int .i64 d, .int .i64 a, .int .i64 i, .int .i64 r, .int .i64 k] 43)
    have nb0 := (Below.heap_alloc (w.alloc (.cells #[.int .i64 d, .int .i64 a, .int .i64 i, .int .i64 r, .int .i64 k] 43)) (.cells #[.int .i64 pd, .int .i64 pa, .int .i64 pi, .int .i64 pl] 44) (w.heap.size) (by simp only [World.size_alloc]; omega)).trans nb0
    have nb0 := (Below.heap_alloc ((w.alloc (.cells #[.int .i64 d, .int .i64 a, .int .i64 i, .int .i64 r, .int .i64 k] 43)).alloc (.cells #[.int .i64 pd, .int .i64 pa, .int .i64 pi, .int .i64 pl] 44)) (.cells #[.int .i64 0, .int .i64 0, .int .i64 0, .int .i64 0, .int .i64 0] 43) (w.heap.size) (by simp only [World.size_alloc]; omega)).trans nb0
    have nz0 : w.heap.size < (((w.alloc (.cells #[.int .i64 d, .int .i64 a, .int .i64 i, .int .i64 r, .int .i64 k] 43)).alloc (.cells #[.int .i64 pd, .int .i64 pa, .int .i64 pi, .int .i64 pl] 44)).alloc (.cells #[.int .i64 0, .int .i64 0, .int .i64 0, .int .i64 0, .int .i64 0] 43)).heap.size := by simp only [World.size_alloc]; omega
    have nb1 := blk_new (w.alloc (.cells #[.int .i64 d, .int .i64 a, .int .i64 i, .int .i64 r, .int .i64 k] 43)) (.cells #[.int .i64 pd, .int .i64 pa, .int .i64 pi, .int .i64 pl] 44)
    simp only [World.size_alloc] at nb1
    have nb1 := (Below.heap_alloc ((w.alloc (.cells #[.int .i64 d, .int .i64 a, .int .i64 i, .int .i64 r, .int .i64 k] 43)).alloc (.cells #[.int .i64 pd, .int .i64 pa, .int .i64 pi, .int .i64 pl] 44)) (.cells #[.int .i64 0, .int .i64 0, .int .i64 0, .int .i64 0, .int .i64 0] 43) (w.heap.size + 1) (by simp only [World.size_alloc]; omega)).trans nb1
    have nz1 : w.heap.size + 1 < (((w.alloc (.cells #[.int .i64 d, .int .i64 a, .int .i64 i, .int .i64 r, .int .i64 k] 43)).alloc (.cells #[.int .i64 pd, .int .i64 pa, .int .i64 pi, .int .i64 pl] 44)).alloc (.cells #[.int .i64 0, .int .i64 0, .int .i64 0, .int .i64 0, .int .i64 0] 43)).heap.size := by simp only [World.size_alloc]; omega
    have nb2 := blk_new ((w.alloc (.cells #[.int .i64 d, .int .i64 a, .int .i64 i, .int .i64 r, .int .i64 k] 43)).alloc (.cells #[.int .i64 pd, .int .i64 pa, .int .i64 pi, .int .i64 pl] 44)) (.cells #[.int .i64 0, .int .i64 0, .int .i64 0, .int .i64 0, .int .i64 0] 43)
    simp only [World.size_alloc] at nb2
    have nz2 : w.heap.size + 2 < (((w.alloc (.cells #[.int .i64 d, .int .i64 a, .int .i64 i, .int .i64 r, .int .i64 k] 43)).alloc (.cells #[.int .i64 pd, .int .i64 pa, .int .i64 pi, .int .i64 pl] 44)).alloc (.cells #[.int .i64 0, .int .i64 0, .int .i64 0, .int .i64 0, .int .i64 0] 43)).heap.size := by simp only [World.size_alloc]; omega
    have q_1 := q_0.trans (b.mono q_0.size)
    clear q_0
    clear b
    have S_1 := Lib.hid nb0
    have Sz_1 := nz0
    clear nb0 nz0
    have Sc0_1 := blk_cell S_1.out 0
    have Sc1_1 := blk_cell S_1.out 1
    have Sc2_1 := blk_cell S_1.out 2
    have Sc3_1 := blk_cell S_1.out 3
    have Sc4_1 := blk_cell S_1.out 4
    have X_1 := Lib.hid nb1
    have Xz_1 := nz1
    clear nb1 nz1
    have Xc0_1 := blk_cell X_1.out 0
    have Xc1_1 := blk_cell X_1.out 1
    have Xc2_1 := blk_cell X_1.out 2
    have Xc3_1 := blk_cell X_1.out 3
    have R_1 := Lib.hid nb2
    have Rz_1 := nz2
    clear nb2 nz2
    have Rc0_1 := blk_cell R_1.out 0
    have Rc1_1 := blk_cell R_1.out 1
    have Rc2_1 := blk_cell R_1.out 2
    have Rc3_1 := blk_cell R_1.out 3
    have Rc4_1 := blk_cell R_1.out 4
    generalize (((w.alloc (.cells #[.int .i64 d, .int .i64 a, .int .i64 i, .int .i64 r, .int .i64 k] 43)).alloc (.cells #[.int .i64 pd, .int .i64 pa, .int .i64 pi, .int .i64 pl] 44)).alloc (.cells #[.int .i64 0, .int .i64 0, .int .i64 0, .int .i64 0, .int .i64 0] 43)) = V1 at q_1 S_1 Sz_1 Sc0_1 Sc1_1 Sc2_1 Sc3_1 Sc4_1 X_1 Xz_1 Xc0_1 Xc1_1 Xc2_1 Xc3_1 R_1 Rz_1 Rc0_1 Rc1_1 Rc2_1 Rc3_1 Rc4_1 ⊢
    have nsx : w.heap.size ≠ w.heap.size + 1 := by omega
    have nsr : w.heap.size ≠ w.heap.size + 1 + 1 := by omega
    have nxr : w.heap.size + 1 ≠ w.heap.size + 1 + 1 := by omega
    have nxs := nsx.symm
    have nrs := nsr.symm
    have nrx := nxr.symm
    refine (rmay_yes d a i r k _ hS).mono ?_
    rintro e V2 ⟨rfl, b⟩
    have S_2 := Lib.hid ((b.block _ Sz_1).trans S_1.out)
    have Sz_2 := Nat.lt_of_lt_of_le Sz_1 b.size
    have Sc0_2 := blk_cell S_2.out 0
    have Sc1_2 := blk_cell S_2.out 1
    have Sc2_2 := blk_cell S_2.out 2
    have Sc3_2 := blk_cell S_2.out 3
    have Sc4_2 := blk_cell S_2.out 4
    have X_2 := Lib.hid ((b.block _ Xz_1).trans X_1.out)
    have Xz_2 := Nat.lt_of_lt_of_le Xz_1 b.size
    have Xc0_2 := blk_cell X_2.out 0
    have Xc1_2 := blk_cell X_2.out 1
    have Xc2_2 := blk_cell X_2.out 2
    have Xc3_2 := blk_cell X_2.out 3
    have R_2 := Lib.hid ((b.block _ Rz_1).trans R_1.out)
    have Rz_2 := Nat.lt_of_lt_of_le Rz_1 b.size
    have Rc0_2 := blk_cell R_2.out 0
    have Rc1_2 := blk_cell R_2.out 1
    have Rc2_2 := blk_cell R_2.out 2
    have Rc3_2 := blk_cell R_2.out 3
    have Rc4_2 := blk_cell R_2.out 4
    have q_2 := q_1.trans (b.mono q_1.size)
    clear S_1 Sz_1 Sc0_1 Sc1_1 Sc2_1 Sc3_1 Sc4_1 X_1 Xz_1 Xc0_1 Xc1_1 Xc2_1 Xc3_1 R_1 Rz_1 Rc0_1 Rc1_1 Rc2_1 Rc3_1 Rc4_1 q_1
    clear b
    go_wp2_with fail
    refine (wn_yes 1 1073741824 [n] _ _ _ _ _ _ rfl rfl (by simp) (by simp) HB.out).mono ?_
    rintro e w' ⟨rfl, rfl⟩
    go_wp2_with fail
    refine (wn_no 0 1099511627776 [v, pd, pa, pi, pl] _ _ _ _ _ _ rfl rfl (by simp) (by simp) HM.out).mono ?_
    rintro e w' ⟨rfl, rfl⟩
    have fR0 := blk_free R_2.out 0
    have fR1 := blk_free R_2.out 1
    have fR2 := blk_free R_2.out 2
    have fR3 := blk_free R_2.out 3
    have fR4 := blk_free R_2.out 4
    have QY := Lib.hid q_2
    clear S_2 X_2 R_2
    go_wp2
    refine bodyPost_ret (v := .tuple #[.agg #[.int .i64 0, .int .i64 0, .int .i64 0, .int .i64 0, .int .i64 0], .int .i64 0, .bool false, .int .i64 4]) (by simp [results, Try.results17, go_sem, *]) rfl ⟨rfl, ?_⟩
    (repeat' (first | (with_reducible exact QY.out) | (with_reducible exact Below.refl _ _) | (with_reducible refine Below.alloc ?_ ?_ _) | (with_reducible refine Below.setCell ?_ ?_ _) | (with_reducible refine Below.drew ?_) | (with_reducible refine below_drewN ?_ _) | omega | (dsimp only; omega) | (simp; done) | (simp; omega)))
  · have HB := Lib.hid hB
    clear hB hD
    have q_0 := Below.refl w.heap.size w
    go_enter Try.func17, Try.ntmps17
    go_wp2_with fail
    have b : Below w.heap.size w (((w.alloc (.cells #[.int .i64 d, .int .i64 a, .int .i64 i, .int .i64 r, .int .i64 k] 43)).alloc (.cells #[.int .i64 pd, .int .i64 pa, .int .i64 pi, .int .i64 pl] 44)).alloc (.cells #[.int .i64 0, .int .i64 0, .int .i64 0, .int .i64 0, .int .i64 0] 43)) := ((((Below.refl _ w).alloc (Nat.le_refl _) (.cells #[.int .i64 d, .int .i64 a, .int .i64 i, .int .i64 r, .int .i64 k] 43)).alloc (by simp only [World.size_alloc]; omega) (.cells #[.int .i64 pd, .int .i64 pa, .int .i64 pi, .int .i64 pl] 44)).alloc (by simp only [World.size_alloc]; omega) (.cells #[.int .i64 0, .int .i64 0, .int .i64 0, .int .i64 0, .int .i64 0] 43))
    have nb0 := blk_new w (.cells #[.int .i64 d, .int .i64 a, .int .i64 i, .int .i64 r, .int .i64 k] 43)
    have nb0 := (Below.heap_alloc (w.alloc (.cells #[.int .i64 d, .int .i64 a, .int .i64 i, .int .i64 r, .int .i64 k] 43)) (.cells #[.int .i64 pd, .int .i64 pa, .int .i64 pi, .int .i64 pl] 44) (w.heap.size) (by simp only [World.size_alloc]; omega)).trans nb0
    have nb0 := (Below.heap_alloc ((w.alloc (.cells #[.int .i64 d, .int .i64 a, .int .i64 i, .int .i64 r, .int .i64 k] 43)).alloc (.cells #[.int .i64 pd, .int .i64 pa, .int .i64 pi, .int .i64 pl] 44)) (.cells #[.int .i64 0, .int .i64 0, .int .i64 0, .int .i64 0, .int .i64 0] 43) (w.heap.size) (by simp only [World.size_alloc]; omega)).trans nb0
    have nz0 : w.heap.size < (((w.alloc (.cells #[.int .i64 d, .int .i64 a, .int .i64 i, .int .i64 r, .int .i64 k] 43)).alloc (.cells #[.int .i64 pd, .int .i64 pa, .int .i64 pi, .int .i64 pl] 44)).alloc (.cells #[.int .i64 0, .int .i64 0, .int .i64 0, .int .i64 0, .int .i64 0] 43)).heap.size := by simp only [World.size_alloc]; omega
    have nb1 := blk_new (w.alloc (.cells #[.int .i64 d, .int .i64 a, .int .i64 i, .int .i64 r, .int .i64 k] 43)) (.cells #[.int .i64 pd, .int .i64 pa, .int .i64 pi, .int .i64 pl] 44)
    simp only [World.size_alloc] at nb1
    have nb1 := (Below.heap_alloc ((w.alloc (.cells #[.int .i64 d, .int .i64 a, .int .i64 i, .int .i64 r, .int .i64 k] 43)).alloc (.cells #[.int .i64 pd, .int .i64 pa, .int .i64 pi, .int .i64 pl] 44)) (.cells #[.int .i64 0, .int .i64 0, .int .i64 0, .int .i64 0, .int .i64 0] 43) (w.heap.size + 1) (by simp only [World.size_alloc]; omega)).trans nb1
    have nz1 : w.heap.size + 1 < (((w.alloc (.cells #[.int .i64 d, .int .i64 a, .int .i64 i, .int .i64 r, .int .i64 k] 43)).alloc (.cells #[.int .i64 pd, .int .i64 pa, .int .i64 pi, .int .i64 pl] 44)).alloc (.cells #[.int .i64 0, .int .i64 0, .int .i64 0, .int .i64 0, .int .i64 0] 43)).heap.size := by simp only [World.size_alloc]; omega
    have nb2 := blk_new ((w.alloc (.cells #[.int .i64 d, .int .i64 a, .int .i64 i, .int .i64 r, .int .i64 k] 43)).alloc (.cells #[.int .i64 pd, .int .i64 pa, .int .i64 pi, .int .i64 pl] 44)) (.cells #[.int .i64 0, .int .i64 0, .int .i64 0, .int .i64 0, .int .i64 0] 43)
    simp only [World.size_alloc] at nb2
    have nz2 : w.heap.size + 2 < (((w.alloc (.cells #[.int .i64 d, .int .i64 a, .int .i64 i, .int .i64 r, .int .i64 k] 43)).alloc (.cells #[.int .i64 pd, .int .i64 pa, .int .i64 pi, .int .i64 pl] 44)).alloc (.cells #[.int .i64 0, .int .i64 0, .int .i64 0, .int .i64 0, .int .i64 0] 43)).heap.size := by simp only [World.size_alloc]; omega
    have q_1 := q_0.trans (b.mono q_0.size)
    clear q_0
    clear b
    have S_1 := Lib.hid nb0
    have Sz_1 := nz0
    clear nb0 nz0
    have Sc0_1 := blk_cell S_1.out 0
    have Sc1_1 := blk_cell S_1.out 1
    have Sc2_1 := blk_cell S_1.out 2
    have Sc3_1 := blk_cell S_1.out 3
    have Sc4_1 := blk_cell S_1.out 4
    have X_1 := Lib.hid nb1
    have Xz_1 := nz1
    clear nb1 nz1
    have Xc0_1 := blk_cell X_1.out 0
    have Xc1_1 := blk_cell X_1.out 1
    have Xc2_1 := blk_cell X_1.out 2
    have Xc3_1 := blk_cell X_1.out 3
    have R_1 := Lib.hid nb2
    have Rz_1 := nz2
    clear nb2 nz2
    have Rc0_1 := blk_cell R_1.out 0
    have Rc1_1 := blk_cell R_1.out 1
    have Rc2_1 := blk_cell R_1.out 2
    have Rc3_1 := blk_cell R_1.out 3
    have Rc4_1 := blk_cell R_1.out 4
    generalize (((w.alloc (.cells #[.int .i64 d, .int .i64 a, .int .i64 i, .int .i64 r, .int .i64 k] 43)).alloc (.cells #[.int .i64 pd, .int .i64 pa, .int .i64 pi, .int .i64 pl] 44)).alloc (.cells #[.int .i64 0, .int .i64 0, .int .i64 0, .int .i64 0, .int .i64 0] 43)) = V1 at q_1 S_1 Sz_1 Sc0_1 Sc1_1 Sc2_1 Sc3_1 Sc4_1 X_1 Xz_1 Xc0_1 Xc1_1 Xc2_1 Xc3_1 R_1 Rz_1 Rc0_1 Rc1_1 Rc2_1 Rc3_1 Rc4_1 ⊢
    have nsx : w.heap.size ≠ w.heap.size + 1 := by omega
    have nsr : w.heap.size ≠ w.heap.size + 1 + 1 := by omega
    have nxr : w.heap.size + 1 ≠ w.heap.size + 1 + 1 := by omega
    have nxs := nsx.symm
    have nrs := nsr.symm
    have nrx := nxr.symm
    refine (rmay_yes d a i r k _ hS).mono ?_
    rintro e V2 ⟨rfl, b⟩
    have S_2 := Lib.hid ((b.block _ Sz_1).trans S_1.out)
    have Sz_2 := Nat.lt_of_lt_of_le Sz_1 b.size
    have Sc0_2 := blk_cell S_2.out 0
    have Sc1_2 := blk_cell S_2.out 1
    have Sc2_2 := blk_cell S_2.out 2
    have Sc3_2 := blk_cell S_2.out 3
    have Sc4_2 := blk_cell S_2.out 4
    have X_2 := Lib.hid ((b.block _ Xz_1).trans X_1.out)
    have Xz_2 := Nat.lt_of_lt_of_le Xz_1 b.size
    have Xc0_2 := blk_cell X_2.out 0
    have Xc1_2 := blk_cell X_2.out 1
    have Xc2_2 := blk_cell X_2.out 2
    have Xc3_2 := blk_cell X_2.out 3
    have R_2 := Lib.hid ((b.block _ Rz_1).trans R_1.out)
    have Rz_2 := Nat.lt_of_lt_of_le Rz_1 b.size
    have Rc0_2 := blk_cell R_2.out 0
    have Rc1_2 := blk_cell R_2.out 1
    have Rc2_2 := blk_cell R_2.out 2
    have Rc3_2 := blk_cell R_2.out 3
    have Rc4_2 := blk_cell R_2.out 4
    have q_2 := q_1.trans (b.mono q_1.size)
    clear S_1 Sz_1 Sc0_1 Sc1_1 Sc2_1 Sc3_1 Sc4_1 X_1 Xz_1 Xc0_1 Xc1_1 Xc2_1 Xc3_1 R_1 Rz_1 Rc0_1 Rc1_1 Rc2_1 Rc3_1 Rc4_1 q_1
    clear b
    go_wp2_with fail
    refine (wn_no 1 1073741824 [n] _ _ _ _ _ _ rfl rfl (by simp) (by simp) HB.out).mono ?_
    rintro e w' ⟨rfl, rfl⟩
    have fR0 := blk_free R_2.out 0
    have fR1 := blk_free R_2.out 1
    have fR2 := blk_free R_2.out 2
    have fR3 := blk_free R_2.out 3
    have fR4 := blk_free R_2.out 4
    have QY := Lib.hid q_2
    clear S_2 X_2 R_2
    go_wp2
    refine bodyPost_ret (v := .tuple #[.agg #[.int .i64 0, .int .i64 0, .int .i64 0, .int .i64 0, .int .i64 0], .int .i64 0, .bool false, .int .i64 4]) (by simp [results, Try.results17, go_sem, *]) rfl ⟨rfl, ?_⟩
    (repeat' (first | (with_reducible exact QY.out) | (with_reducible exact Below.refl _ _) | (with_reducible refine Below.alloc ?_ ?_ _) | (with_reducible refine Below.setCell ?_ ?_ _) | (with_reducible refine Below.drew ?_) | (with_reducible refine below_drewN ?_ _) | omega | (dsimp only; omega) | (simp; done) | (simp; omega)))

set_option maxRecDepth 100000 in
set_option maxHeartbeats 2000000 in
theorem deliver_mo (d a i r k pd pa pi pl n v D N O T : Int) (w : World) (hS : RV d a i r k) (hD : DV n v pd pa pi pl) (hDD : min (d + n) 1099511627776 = D) (hRR : min (r + 1) 1099511627776 = N) (hO : D - pd = O) (hT : max (pl - pi) (v - pa) = T) (hk : k ≤ pd) (h0 : O ≤ 0) :
    Calls Try.prog 17 #[.agg #[.int .i64 d, .int .i64 a, .int .i64 i, .int .i64 r, .int .i64 k], .agg #[.int .i64 pd, .int .i64 pa, .int .i64 pi, .int .i64 pl], .int .i64 n, .int .i64 v] w fun e w' => e = .returned (.tuple #[.agg #[.int .i64 D, .int .i64 v, .int .i64 pl, .int .i64 N, .int .i64 D], .int .i64 0, .bool false, .int .i64 0]) ∧ Below w.heap.size w w' := by
  have HS := Lib.hid hS
  have HB : Hid (InR 1 1073741824 [n]) := Lib.hid (inR1.2 hD.1)
  have HM : Hid (InR 0 1099511627776 [v, pd, pa, pi, pl]) := Lib.hid (inR5.2 hD.2)
  obtain ⟨⟨d0, d1⟩, ⟨a0, a1⟩, ⟨i0, i1⟩, ⟨r0, r1⟩, k0, k1⟩ := hS
  obtain ⟨⟨n0, n1⟩, ⟨v0, v1⟩, ⟨pd0, pd1⟩, ⟨pa0, pa1⟩, ⟨pi0, pi1⟩, pl0, pl1⟩ := hD
  have D0 : 0 ≤ D ∧ D ≤ 1099511627776 := by omega
  obtain ⟨D0, D1⟩ := D0
  have HO := Lib.hid hO
  have HT := Lib.hid hT
  have HDD := Lib.hid hDD
  have HRR := Lib.hid hRR
  clear hO hT hRR
  have q_0 := Below.refl w.heap.size w
  go_enter Try.func17, Try.ntmps17
  go_wp2_with fail
  have b : Below w.heap.size w (((w.alloc (.cells #[.int .i64 d, .int .i64 a, .int .i64 i, .int .i64 r, .int .i64 k] 43)).alloc (.cells #[.int .i64 pd, .int .i64 pa, .int .i64 pi, .int .i64 pl] 44)).alloc (.cells #[.int .i64 0, .int .i64 0, .int .i64 0, .int .i64 0, .int .i64 0] 43)) := ((((Below.refl _ w).alloc (Nat.le_refl _) (.cells #[.int .i64 d, .int .i64 a, .int .i64 i, .int .i64 r, .int .i64 k] 43)).alloc (by simp only [World.size_alloc]; omega) (.cells #[.int .i64 pd, .int .i64 pa, .int .i64 pi, .int .i64 pl] 44)).alloc (by simp only [World.size_alloc]; omega) (.cells #[.int .i64 0, .int .i64 0, .int .i64 0, .int .i64 0, .int .i64 0] 43))
  have nb0 := blk_new w (.cells #[.int .i64 d, .int .i64 a, .int .i64 i, .int .i64 r, .int .i64 k] 43)
  have nb0 := (Below.heap_alloc (w.alloc (.cells #[.int .i64 d, .int .i64 a, .int .i64 i, .int .i64 r, .int .i64 k] 43)) (.cells #[.int .i64 pd, .int .i64 pa, .int .i64 pi, .int .i64 pl] 44) (w.heap.size) (by simp only [World.size_alloc]; omega)).trans nb0
  have nb0 := (Below.heap_alloc ((w.alloc (.cells #[.int .i64 d, .int .i64 a, .int .i64 i, .int .i64 r, .int .i64 k] 43)).alloc (.cells #[.int .i64 pd, .int .i64 pa, .int .i64 pi, .int .i64 pl] 44)) (.cells #[.int .i64 0, .int .i64 0, .int .i64 0, .int .i64 0, .int .i64 0] 43) (w.heap.size) (by simp only [World.size_alloc]; omega)).trans nb0
  have nz0 : w.heap.size < (((w.alloc (.cells #[.int .i64 d, .int .i64 a, .int .i64 i, .int .i64 r, .int .i64 k] 43)).alloc (.cells #[.int .i64 pd, .int .i64 pa, .int .i64 pi, .int .i64 pl] 44)).alloc (.cells #[.int .i64 0, .int .i64 0, .int .i64 0, .int .i64 0, .int .i64 0] 43)).heap.size := by simp only [World.size_alloc]; omega
  have nb1 := blk_new (w.alloc (.cells #[.int .i64 d, .int .i64 a, .int .i64 i, .int .i64 r, .int .i64 k] 43)) (.cells #[.int .i64 pd, .int .i64 pa, .int .i64 pi, .int .i64 pl] 44)
  simp only [World.size_alloc] at nb1
  have nb1 := (Below.heap_alloc ((w.alloc (.cells #[.int .i64 d, .int .i64 a, .int .i64 i, .int .i64 r, .int .i64 k] 43)).alloc (.cells #[.int .i64 pd, .int .i64 pa, .int .i64 pi, .int .i64 pl] 44)) (.cells #[.int .i64 0, .int .i64 0, .int .i64 0, .int .i64 0, .int .i64 0] 43) (w.heap.size + 1) (by simp only [World.size_alloc]; omega)).trans nb1
  have nz1 : w.heap.size + 1 < (((w.alloc (.cells #[.int .i64 d, .int .i64 a, .int .i64 i, .int .i64 r, .int .i64 k] 43)).alloc (.cells #[.int .i64 pd, .int .i64 pa, .int .i64 pi, .int .i64 pl] 44)).alloc (.cells #[.int .i64 0, .int .i64 0, .int .i64 0, .int .i64 0, .int .i64 0] 43)).heap.size := by simp only [World.size_alloc]; omega
  have nb2 := blk_new ((w.alloc (.cells #[.int .i64 d, .int .i64 a, .int .i64 i, .int .i64 r, .int .i64 k] 43)).alloc (.cells #[.int .i64 pd, .int .i64 pa, .int .i64 pi, .int .i64 pl] 44)) (.cells #[.int .i64 0, .int .i64 0, .int .i64 0, .int .i64 0, .int .i64 0] 43)
  simp only [World.size_alloc] at nb2
  have nz2 : w.heap.size + 2 < (((w.alloc (.cells #[.int .i64 d, .int .i64 a, .int .i64 i, .int .i64 r, .int .i64 k] 43)).alloc (.cells #[.int .i64 pd, .int .i64 pa, .int .i64 pi, .int .i64 pl] 44)).alloc (.cells #[.int .i64 0, .int .i64 0, .int .i64 0, .int .i64 0, .int .i64 0] 43)).heap.size := by simp only [World.size_alloc]; omega
  have q_1 := q_0.trans (b.mono q_0.size)
  clear q_0
  clear b
  have S_1 := Lib.hid nb0
  have Sz_1 := nz0
  clear nb0 nz0
  have Sc0_1 := blk_cell S_1.out 0
  have Sc1_1 := blk_cell S_1.out 1
  have Sc2_1 := blk_cell S_1.out 2
  have Sc3_1 := blk_cell S_1.out 3
  have Sc4_1 := blk_cell S_1.out 4
  have X_1 := Lib.hid nb1
  have Xz_1 := nz1
  clear nb1 nz1
  have Xc0_1 := blk_cell X_1.out 0
  have Xc1_1 := blk_cell X_1.out 1
  have Xc2_1 := blk_cell X_1.out 2
  have Xc3_1 := blk_cell X_1.out 3
  have R_1 := Lib.hid nb2
  have Rz_1 := nz2
  clear nb2 nz2
  have Rc0_1 := blk_cell R_1.out 0
  have Rc1_1 := blk_cell R_1.out 1
  have Rc2_1 := blk_cell R_1.out 2
  have Rc3_1 := blk_cell R_1.out 3
  have Rc4_1 := blk_cell R_1.out 4
  generalize (((w.alloc (.cells #[.int .i64 d, .int .i64 a, .int .i64 i, .int .i64 r, .int .i64 k] 43)).alloc (.cells #[.int .i64 pd, .int .i64 pa, .int .i64 pi, .int .i64 pl] 44)).alloc (.cells #[.int .i64 0, .int .i64 0, .int .i64 0, .int .i64 0, .int .i64 0] 43)) = V1 at q_1 S_1 Sz_1 Sc0_1 Sc1_1 Sc2_1 Sc3_1 Sc4_1 X_1 Xz_1 Xc0_1 Xc1_1 Xc2_1 Xc3_1 R_1 Rz_1 Rc0_1 Rc1_1 Rc2_1 Rc3_1 Rc4_1 ⊢
  have nsx : w.heap.size ≠ w.heap.size + 1 := by omega
  have nsr : w.heap.size ≠ w.heap.size + 1 + 1 := by omega
  have nxr : w.heap.size + 1 ≠ w.heap.size + 1 + 1 := by omega
  have nxs := nsx.symm
  have nrs := nsr.symm
  have nrx := nxr.symm
  refine (rmay_yes d a i r k _ HS.out).mono ?_
  rintro e V2 ⟨rfl, b⟩
  have S_2 := Lib.hid ((b.block _ Sz_1).trans S_1.out)
  have Sz_2 := Nat.lt_of_lt_of_le Sz_1 b.size
  have Sc0_2 := blk_cell S_2.out 0
  have Sc1_2 := blk_cell S_2.out 1
  have Sc2_2 := blk_cell S_2.out 2
  have Sc3_2 := blk_cell S_2.out 3
  have Sc4_2 := blk_cell S_2.out 4
  have X_2 := Lib.hid ((b.block _ Xz_1).trans X_1.out)
  have Xz_2 := Nat.lt_of_lt_of_le Xz_1 b.size
  have Xc0_2 := blk_cell X_2.out 0
  have Xc1_2 := blk_cell X_2.out 1
  have Xc2_2 := blk_cell X_2.out 2
  have Xc3_2 := blk_cell X_2.out 3
  have R_2 := Lib.hid ((b.block _ Rz_1).trans R_1.out)
  have Rz_2 := Nat.lt_of_lt_of_le Rz_1 b.size
  have Rc0_2 := blk_cell R_2.out 0
  have Rc1_2 := blk_cell R_2.out 1
  have Rc2_2 := blk_cell R_2.out 2
  have Rc3_2 := blk_cell R_2.out 3
  have Rc4_2 := blk_cell R_2.out 4
  have q_2 := q_1.trans (b.mono q_1.size)
  clear S_1 Sz_1 Sc0_1 Sc1_1 Sc2_1 Sc3_1 Sc4_1 X_1 Xz_1 Xc0_1 Xc1_1 Xc2_1 Xc3_1 R_1 Rz_1 Rc0_1 Rc1_1 Rc2_1 Rc3_1 Rc4_1 q_1
  clear b
  go_wp2_with fail
  refine (wn_yes 1 1073741824 [n] _ _ _ _ _ _ rfl rfl (by simp) (by simp) HB.out).mono ?_
  rintro e w' ⟨rfl, rfl⟩
  go_wp2_with fail
  refine (wn_yes 0 1099511627776 [v, pd, pa, pi, pl] _ _ _ _ _ _ rfl rfl (by simp) (by simp) HM.out).mono ?_
  rintro e w' ⟨rfl, rfl⟩
  have fS0 := blk_free S_2.out 0
  have fS1 := blk_free S_2.out 1
  have fS2 := blk_free S_2.out 2
  have fS3 := blk_free S_2.out 3
  have fS4 := blk_free S_2.out 4
  have fR0 := blk_free R_2.out 0
  have fR1 := blk_free R_2.out 1
  have fR2 := blk_free R_2.out 2
  have fR3 := blk_free R_2.out 3
  have fR4 := blk_free R_2.out 4
  have hRR := HRR.out
  go_wp2_with fail
  clear fS0 fS1 fS2 fS3 fS4 fR0 fR1 fR2 fR3 fR4
  clear Sc0_2 Sc1_2 Sc2_2 Sc3_2 Sc4_2 Xc0_2 Xc1_2 Xc2_2 Xc3_2 Rc0_2 Rc1_2 Rc2_2 Rc3_2 Rc4_2
  have st0 : Hid ((V2.setCell ⟨w.heap.size, 0, none⟩ (.int .i64 D)).heap[w.heap.size]? = some (.cells #[.int .i64 D, .int .i64 a, .int .i64 i, .int .i64 r, .int .i64 k] 43 (0, 0))) := Lib.hid (blk_set S_2.out 0 (.int .i64 D))
  have st1 : Hid (((V2.setCell ⟨w.heap.size, 0, none⟩ (.int .i64 D)).setCell ⟨w.heap.size, 1, none⟩ (.int .i64 v)).heap[w.heap.size]? = some (.cells #[.int .i64 D, .int .i64 v, .int .i64 i, .int .i64 r, .int .i64 k] 43 (0, 0))) := Lib.hid (blk_set st0.out 1 (.int .i64 v))
  have st2 : Hid ((((V2.setCell ⟨w.heap.size, 0, none⟩ (.int .i64 D)).setCell ⟨w.heap.size, 1, none⟩ (.int .i64 v)).setCell ⟨w.heap.size, 2, none⟩ (.int .i64 pl)).heap[w.heap.size]? = some (.cells #[.int .i64 D, .int .i64 v, .int .i64 pl, .int .i64 r, .int .i64 k] 43 (0, 0))) := Lib.hid (blk_set st1.out 2 (.int .i64 pl))
  have st3 : Hid (((((V2.setCell ⟨w.heap.size, 0, none⟩ (.int .i64 D)).setCell ⟨w.heap.size, 1, none⟩ (.int .i64 v)).setCell ⟨w.heap.size, 2, none⟩ (.int .i64 pl)).setCell ⟨w.heap.size, 3, none⟩ (.int .i64 N)).heap[w.heap.size]? = some (.cells #[.int .i64 D, .int .i64 v, .int .i64 pl, .int .i64 N, .int .i64 k] 43 (0, 0))) := Lib.hid (blk_set st2.out 3 (.int .i64 N))
  have st4 : Hid ((((((V2.setCell ⟨w.heap.size, 0, none⟩ (.int .i64 D)).setCell ⟨w.heap.size, 1, none⟩ (.int .i64 v)).setCell ⟨w.heap.size, 2, none⟩ (.int .i64 pl)).setCell ⟨w.heap.size, 3, none⟩ (.int .i64 N)).setCell ⟨w.heap.size, 4, none⟩ (.int .i64 D)).heap[w.heap.size]? = some (.cells #[.int .i64 D, .int .i64 v, .int .i64 pl, .int .i64 N, .int .i64 D] 43 (0, 0))) := Lib.hid (blk_set st3.out 4 (.int .i64 D))
  have S_3 : Hid ((((((V2.setCell ⟨w.heap.size, 0, none⟩ (.int .i64 D)).setCell ⟨w.heap.size, 1, none⟩ (.int .i64 v)).setCell ⟨w.heap.size, 2, none⟩ (.int .i64 pl)).setCell ⟨w.heap.size, 3, none⟩ (.int .i64 N)).setCell ⟨w.heap.size, 4, none⟩ (.int .i64 D)).heap[w.heap.size]? = some (.cells #[.int .i64 D, .int .i64 v, .int .i64 pl, .int .i64 N, .int .i64 D] 43 (0, 0))) := Lib.hid (st4.out)
  have X_3 : Hid ((((((V2.setCell ⟨w.heap.size, 0, none⟩ (.int .i64 D)).setCell ⟨w.heap.size, 1, none⟩ (.int .i64 v)).setCell ⟨w.heap.size, 2, none⟩ (.int .i64 pl)).setCell ⟨w.heap.size, 3, none⟩ (.int .i64 N)).setCell ⟨w.heap.size, 4, none⟩ (.int .i64 D)).heap[w.heap.size + 1]? = some (.cells #[.int .i64 pd, .int .i64 pa, .int .i64 pi, .int .i64 pl] 44 (0, 0))) := Lib.hid ((blk_other (i := 4) (blk_other (i := 3) (blk_other (i := 2) (blk_other (i := 1) (blk_other (i := 0) X_2.out (by first | assumption | omega) (.int .i64 D)) (by first | assumption | omega) (.int .i64 v)) (by first | assumption | omega) (.int .i64 pl)) (by first | assumption | omega) (.int .i64 N)) (by first | assumption | omega) (.int .i64 D)))
  have R_3 : Hid ((((((V2.setCell ⟨w.heap.size, 0, none⟩ (.int .i64 D)).setCell ⟨w.heap.size, 1, none⟩ (.int .i64 v)).setCell ⟨w.heap.size, 2, none⟩ (.int .i64 pl)).setCell ⟨w.heap.size, 3, none⟩ (.int .i64 N)).setCell ⟨w.heap.size, 4, none⟩ (.int .i64 D)).heap[w.heap.size + 1 + 1]? = some (.cells #[.int .i64 0, .int .i64 0, .int .i64 0, .int .i64 0, .int .i64 0] 43 (0, 0))) := Lib.hid ((blk_other (i := 4) (blk_other (i := 3) (blk_other (i := 2) (blk_other (i := 1) (blk_other (i := 0) R_2.out (by first | assumption | omega) (.int .i64 D)) (by first | assumption | omega) (.int .i64 v)) (by first | assumption | omega) (.int .i64 pl)) (by first | assumption | omega) (.int .i64 N)) (by first | assumption | omega) (.int .i64 D)))
  have q_3 : Below w.heap.size w (((((V2.setCell ⟨w.heap.size, 0, none⟩ (.int .i64 D)).setCell ⟨w.heap.size, 1, none⟩ (.int .i64 v)).setCell ⟨w.heap.size, 2, none⟩ (.int .i64 pl)).setCell ⟨w.heap.size, 3, none⟩ (.int .i64 N)).setCell ⟨w.heap.size, 4, none⟩ (.int .i64 D)) := (((((q_2.setCell (p := ⟨w.heap.size, 0, none⟩) (by first | exact Nat.le_refl _ | omega) (.int .i64 D)).setCell (p := ⟨w.heap.size, 1, none⟩) (by first | exact Nat.le_refl _ | omega) (.int .i64 v)).setCell (p := ⟨w.heap.size, 2, none⟩) (by first | exact Nat.le_refl _ | omega) (.int .i64 pl)).setCell (p := ⟨w.heap.size, 3, none⟩) (by first | exact Nat.le_refl _ | omega) (.int .i64 N)).setCell (p := ⟨w.heap.size, 4, none⟩) (by first | exact Nat.le_refl _ | omega) (.int .i64 D))
  clear q_2 S_2 Sz_2 X_2 Xz_2 R_2 Rz_2 st0 st1 st2 st3 st4
  generalize (((((V2.setCell ⟨w.heap.size, 0, none⟩ (.int .i64 D)).setCell ⟨w.heap.size, 1, none⟩ (.int .i64 v)).setCell ⟨w.heap.size, 2, none⟩ (.int .i64 pl)).setCell ⟨w.heap.size, 3, none⟩ (.int .i64 N)).setCell ⟨w.heap.size, 4, none⟩ (.int .i64 D)) = Y1 at q_3 S_3 X_3 R_3 ⊢
  have Sz_3 := blk_lt S_3.out
  have Sc0_3 := blk_cell S_3.out 0
  have Sc1_3 := blk_cell S_3.out 1
  have Sc2_3 := blk_cell S_3.out 2
  have Sc3_3 := blk_cell S_3.out 3
  have Sc4_3 := blk_cell S_3.out 4
  have Xz_3 := blk_lt X_3.out
  have Xc0_3 := blk_cell X_3.out 0
  have Xc1_3 := blk_cell X_3.out 1
  have Xc2_3 := blk_cell X_3.out 2
  have Xc3_3 := blk_cell X_3.out 3
  have Rz_3 := blk_lt R_3.out
  have Rc0_3 := blk_cell R_3.out 0
  have Rc1_3 := blk_cell R_3.out 1
  have Rc2_3 := blk_cell R_3.out 2
  have Rc3_3 := blk_cell R_3.out 3
  have Rc4_3 := blk_cell R_3.out 4
  have b : Below Y1.heap.size Y1 ((Y1.alloc (.cells #[.int .i64 n] 3)).alloc (.cells #[.int .i64 v, .int .i64 pd, .int .i64 pa, .int .i64 pi, .int .i64 pl] 3)) := (((Below.refl _ Y1).alloc (Nat.le_refl _) (.cells #[.int .i64 n] 3)).alloc (by simp only [World.size_alloc]; omega) (.cells #[.int .i64 v, .int .i64 pd, .int .i64 pa, .int .i64 pi, .int .i64 pl] 3))
  have S_4 := Lib.hid ((b.block _ Sz_3).trans S_3.out)
  have Sz_4 := Nat.lt_of_lt_of_le Sz_3 b.size
  have Sc0_4 := blk_cell S_4.out 0
  have Sc1_4 := blk_cell S_4.out 1
  have Sc2_4 := blk_cell S_4.out 2
  have Sc3_4 := blk_cell S_4.out 3
  have Sc4_4 := blk_cell S_4.out 4
  have X_4 := Lib.hid ((b.block _ Xz_3).trans X_3.out)
  have Xz_4 := Nat.lt_of_lt_of_le Xz_3 b.size
  have Xc0_4 := blk_cell X_4.out 0
  have Xc1_4 := blk_cell X_4.out 1
  have Xc2_4 := blk_cell X_4.out 2
  have Xc3_4 := blk_cell X_4.out 3
  have R_4 := Lib.hid ((b.block _ Rz_3).trans R_3.out)
  have Rz_4 := Nat.lt_of_lt_of_le Rz_3 b.size
  have Rc0_4 := blk_cell R_4.out 0
  have Rc1_4 := blk_cell R_4.out 1
  have Rc2_4 := blk_cell R_4.out 2
  have Rc3_4 := blk_cell R_4.out 3
  have Rc4_4 := blk_cell R_4.out 4
  have q_4 := q_3.trans (b.mono q_3.size)
  clear S_3 Sz_3 Sc0_3 Sc1_3 Sc2_3 Sc3_3 Sc4_3 X_3 Xz_3 Xc0_3 Xc1_3 Xc2_3 Xc3_3 R_3 Rz_3 Rc0_3 Rc1_3 Rc2_3 Rc3_3 Rc4_3 q_3
  clear b
  generalize ((Y1.alloc (.cells #[.int .i64 n] 3)).alloc (.cells #[.int .i64 v, .int .i64 pd, .int .i64 pa, .int .i64 pi, .int .i64 pl] 3)) = V3 at q_4 S_4 Sz_4 Sc0_4 Sc1_4 Sc2_4 Sc3_4 Sc4_4 X_4 Xz_4 Xc0_4 Xc1_4 Xc2_4 Xc3_4 R_4 Rz_4 Rc0_4 Rc1_4 Rc2_4 Rc3_4 Rc4_4 ⊢
  have hO := HO.out
  have hT := HT.out
  go_quiet (fail)
  clear Sc0_4 Sc1_4 Sc2_4 Sc3_4 Sc4_4 Xc0_4 Xc1_4 Xc2_4 Xc3_4 Rc0_4 Rc1_4 Rc2_4 Rc3_4 Rc4_4
  have S_5 : Hid ((V3.drewN nq).heap[w.heap.size]? = some (.cells #[.int .i64 D, .int .i64 v, .int .i64 pl, .int .i64 N, .int .i64 D] 43 (0, 0))) := Lib.hid (blk_drewN S_4.out nq)
  have X_5 : Hid ((V3.drewN nq).heap[w.heap.size + 1]? = some (.cells #[.int .i64 pd, .int .i64 pa, .int .i64 pi, .int .i64 pl] 44 (0, 0))) := Lib.hid (blk_drewN X_4.out nq)
  have R_5 : Hid ((V3.drewN nq).heap[w.heap.size + 1 + 1]? = some (.cells #[.int .i64 0, .int .i64 0, .int .i64 0, .int .i64 0, .int .i64 0] 43 (0, 0))) := Lib.hid (blk_drewN R_4.out nq)
  have q_5 := below_drewN q_4 nq
  clear q_4 S_4 Sz_4 X_4 Xz_4 R_4 Rz_4
  generalize V3.drewN nq = Y2 at q_5 S_5 X_5 R_5 ⊢
  have Sz_5 := blk_lt S_5.out
  have Sc0_5 := blk_cell S_5.out 0
  have Sc1_5 := blk_cell S_5.out 1
  have Sc2_5 := blk_cell S_5.out 2
  have Sc3_5 := blk_cell S_5.out 3
  have Sc4_5 := blk_cell S_5.out 4
  have Xz_5 := blk_lt X_5.out
  have Xc0_5 := blk_cell X_5.out 0
  have Xc1_5 := blk_cell X_5.out 1
  have Xc2_5 := blk_cell X_5.out 2
  have Xc3_5 := blk_cell X_5.out 3
  have Rz_5 := blk_lt R_5.out
  have Rc0_5 := blk_cell R_5.out 0
  have Rc1_5 := blk_cell R_5.out 1
  have Rc2_5 := blk_cell R_5.out 2
  have Rc3_5 := blk_cell R_5.out 3
  have Rc4_5 := blk_cell R_5.out 4
  clear hO hT HO HT
  have fS0 := blk_free S_5.out 0
  have fS1 := blk_free S_5.out 1
  have fS2 := blk_free S_5.out 2
  have fS3 := blk_free S_5.out 3
  have fS4 := blk_free S_5.out 4
  have fR0 := blk_free R_5.out 0
  have fR1 := blk_free R_5.out 1
  have fR2 := blk_free R_5.out 2
  have fR3 := blk_free R_5.out 3
  have fR4 := blk_free R_5.out 4
  have QY := Lib.hid q_5
  clear S_5 X_5 R_5
  go_wp2
  refine bodyPost_ret (v := .tuple #[.agg #[.int .i64 D, .int .i64 v, .int .i64 pl, .int .i64 N, .int .i64 D], .int .i64 0, .bool false, .int .i64 0]) (by simp [results, Try.results17, go_sem, *]) rfl ⟨rfl, ?_⟩
  (repeat' (first | (with_reducible exact QY.out) | (with_reducible exact Below.refl _ _) | (with_reducible refine Below.alloc ?_ ?_ _) | (with_reducible refine Below.setCell ?_ ?_ _) | (with_reducible refine Below.drew ?_) | (with_reducible refine below_drewN ?_ _) | omega | (dsimp only; omega) | (simp; done) | (simp; omega)))

set_option maxRecDepth 100000 in
set_option maxHeartbeats 2000000 in
theorem deliver_mt (d a i r k pd pa pi pl n v D N O T : Int) (w : World) (hS : RV d a i r k) (hD : DV n v pd pa pi pl) (hDD : min (d + n) 1099511627776 = D) (hRR : min (r + 1) 1099511627776 = N) (hO : D - pd = O) (hT : max (pl - pi) (v - pa) = T) (hk : k ≤ pd) (h0 : 0 < O) (h1 : T ≤ 0) :
    Calls Try.prog 17 #[.agg #[.int .i64 d, .int .i64 a, .int .i64 i, .int .i64 r, .int .i64 k], .agg #[.int .i64 pd, .int .i64 pa, .int .i64 pi, .int .i64 pl], .int .i64 n, .int .i64 v] w fun e w' => e = .returned (.tuple #[.agg #[.int .i64 D, .int .i64 v, .int .i64 pl, .int .i64 N, .int .i64 D], .int .i64 0, .bool false, .int .i64 0]) ∧ Below w.heap.size w w' := by
  have HS := Lib.hid hS
  have HB : Hid (InR 1 1073741824 [n]) := Lib.hid (inR1.2 hD.1)
  have HM : Hid (InR 0 1099511627776 [v, pd, pa, pi, pl]) := Lib.hid (inR5.2 hD.2)
  obtain ⟨⟨d0, d1⟩, ⟨a0, a1⟩, ⟨i0, i1⟩, ⟨r0, r1⟩, k0, k1⟩ := hS
  obtain ⟨⟨n0, n1⟩, ⟨v0, v1⟩, ⟨pd0, pd1⟩, ⟨pa0, pa1⟩, ⟨pi0, pi1⟩, pl0, pl1⟩ := hD
  have D0 : 0 ≤ D ∧ D ≤ 1099511627776 := by omega
  obtain ⟨D0, D1⟩ := D0
  have HO := Lib.hid hO
  have HT := Lib.hid hT
  have HDD := Lib.hid hDD
  have HRR := Lib.hid hRR
  clear hO hT hRR
  have q_0 := Below.refl w.heap.size w
  go_enter Try.func17, Try.ntmps17
  go_wp2_with fail
  have b : Below w.heap.size w (((w.alloc (.cells #[.int .i64 d, .int .i64 a, .int .i64 i, .int .i64 r, .int .i64 k] 43)).alloc (.cells #[.int .i64 pd, .int .i64 pa, .int .i64 pi, .int .i64 pl] 44)).alloc (.cells #[.int .i64 0, .int .i64 0, .int .i64 0, .int .i64 0, .int .i64 0] 43)) := ((((Below.refl _ w).alloc (Nat.le_refl _) (.cells #[.int .i64 d, .int .i64 a, .int .i64 i, .int .i64 r, .int .i64 k] 43)).alloc (by simp only [World.size_alloc]; omega) (.cells #[.int .i64 pd, .int .i64 pa, .int .i64 pi, .int .i64 pl] 44)).alloc (by simp only [World.size_alloc]; omega) (.cells #[.int .i64 0, .int .i64 0, .int .i64 0, .int .i64 0, .int .i64 0] 43))
  have nb0 := blk_new w (.cells #[.int .i64 d, .int .i64 a, .int .i64 i, .int .i64 r, .int .i64 k] 43)
  have nb0 := (Below.heap_alloc (w.alloc (.cells #[.int .i64 d, .int .i64 a, .int .i64 i, .int .i64 r, .int .i64 k] 43)) (.cells #[.int .i64 pd, .int .i64 pa, .int .i64 pi, .int .i64 pl] 44) (w.heap.size) (by simp only [World.size_alloc]; omega)).trans nb0
  have nb0 := (Below.heap_alloc ((w.alloc (.cells #[.int .i64 d, .int .i64 a, .int .i64 i, .int .i64 r, .int .i64 k] 43)).alloc (.cells #[.int .i64 pd, .int .i64 pa, .int .i64 pi, .int .i64 pl] 44)) (.cells #[.int .i64 0, .int .i64 0, .int .i64 0, .int .i64 0, .int .i64 0] 43) (w.heap.size) (by simp only [World.size_alloc]; omega)).trans nb0
  have nz0 : w.heap.size < (((w.alloc (.cells #[.int .i64 d, .int .i64 a, .int .i64 i, .int .i64 r, .int .i64 k] 43)).alloc (.cells #[.int .i64 pd, .int .i64 pa, .int .i64 pi, .int .i64 pl] 44)).alloc (.cells #[.int .i64 0, .int .i64 0, .int .i64 0, .int .i64 0, .int .i64 0] 43)).heap.size := by simp only [World.size_alloc]; omega
  have nb1 := blk_new (w.alloc (.cells #[.int .i64 d, .int .i64 a, .int .i64 i, .int .i64 r, .int .i64 k] 43)) (.cells #[.int .i64 pd, .int .i64 pa, .int .i64 pi, .int .i64 pl] 44)
  simp only [World.size_alloc] at nb1
  have nb1 := (Below.heap_alloc ((w.alloc (.cells #[.int .i64 d, .int .i64 a, .int .i64 i, .int .i64 r, .int .i64 k] 43)).alloc (.cells #[.int .i64 pd, .int .i64 pa, .int .i64 pi, .int .i64 pl] 44)) (.cells #[.int .i64 0, .int .i64 0, .int .i64 0, .int .i64 0, .int .i64 0] 43) (w.heap.size + 1) (by simp only [World.size_alloc]; omega)).trans nb1
  have nz1 : w.heap.size + 1 < (((w.alloc (.cells #[.int .i64 d, .int .i64 a, .int .i64 i, .int .i64 r, .int .i64 k] 43)).alloc (.cells #[.int .i64 pd, .int .i64 pa, .int .i64 pi, .int .i64 pl] 44)).alloc (.cells #[.int .i64 0, .int .i64 0, .int .i64 0, .int .i64 0, .int .i64 0] 43)).heap.size := by simp only [World.size_alloc]; omega
  have nb2 := blk_new ((w.alloc (.cells #[.int .i64 d, .int .i64 a, .int .i64 i, .int .i64 r, .int .i64 k] 43)).alloc (.cells #[.int .i64 pd, .int .i64 pa, .int .i64 pi, .int .i64 pl] 44)) (.cells #[.int .i64 0, .int .i64 0, .int .i64 0, .int .i64 0, .int .i64 0] 43)
  simp only [World.size_alloc] at nb2
  have nz2 : w.heap.size + 2 < (((w.alloc (.cells #[.int .i64 d, .int .i64 a, .int .i64 i, .int .i64 r, .int .i64 k] 43)).alloc (.cells #[.int .i64 pd, .int .i64 pa, .int .i64 pi, .int .i64 pl] 44)).alloc (.cells #[.int .i64 0, .int .i64 0, .int .i64 0, .int .i64 0, .int .i64 0] 43)).heap.size := by simp only [World.size_alloc]; omega
  have q_1 := q_0.trans (b.mono q_0.size)
  clear q_0
  clear b
  have S_1 := Lib.hid nb0
  have Sz_1 := nz0
  clear nb0 nz0
  have Sc0_1 := blk_cell S_1.out 0
  have Sc1_1 := blk_cell S_1.out 1
  have Sc2_1 := blk_cell S_1.out 2
  have Sc3_1 := blk_cell S_1.out 3
  have Sc4_1 := blk_cell S_1.out 4
  have X_1 := Lib.hid nb1
  have Xz_1 := nz1
  clear nb1 nz1
  have Xc0_1 := blk_cell X_1.out 0
  have Xc1_1 := blk_cell X_1.out 1
  have Xc2_1 := blk_cell X_1.out 2
  have Xc3_1 := blk_cell X_1.out 3
  have R_1 := Lib.hid nb2
  have Rz_1 := nz2
  clear nb2 nz2
  have Rc0_1 := blk_cell R_1.out 0
  have Rc1_1 := blk_cell R_1.out 1
  have Rc2_1 := blk_cell R_1.out 2
  have Rc3_1 := blk_cell R_1.out 3
  have Rc4_1 := blk_cell R_1.out 4
  generalize (((w.alloc (.cells #[.int .i64 d, .int .i64 a, .int .i64 i, .int .i64 r, .int .i64 k] 43)).alloc (.cells #[.int .i64 pd, .int .i64 pa, .int .i64 pi, .int .i64 pl] 44)).alloc (.cells #[.int .i64 0, .int .i64 0, .int .i64 0, .int .i64 0, .int .i64 0] 43)) = V1 at q_1 S_1 Sz_1 Sc0_1 Sc1_1 Sc2_1 Sc3_1 Sc4_1 X_1 Xz_1 Xc0_1 Xc1_1 Xc2_1 Xc3_1 R_1 Rz_1 Rc0_1 Rc1_1 Rc2_1 Rc3_1 Rc4_1 ⊢
  have nsx : w.heap.size ≠ w.heap.size + 1 := by omega
  have nsr : w.heap.size ≠ w.heap.size + 1 + 1 := by omega
  have nxr : w.heap.size + 1 ≠ w.heap.size + 1 + 1 := by omega
  have nxs := nsx.symm
  have nrs := nsr.symm
  have nrx := nxr.symm
  refine (rmay_yes d a i r k _ HS.out).mono ?_
  rintro e V2 ⟨rfl, b⟩
  have S_2 := Lib.hid ((b.block _ Sz_1).trans S_1.out)
  have Sz_2 := Nat.lt_of_lt_of_le Sz_1 b.size
  have Sc0_2 := blk_cell S_2.out 0
  have Sc1_2 := blk_cell S_2.out 1
  have Sc2_2 := blk_cell S_2.out 2
  have Sc3_2 := blk_cell S_2.out 3
  have Sc4_2 := blk_cell S_2.out 4
  have X_2 := Lib.hid ((b.block _ Xz_1).trans X_1.out)
  have Xz_2 := Nat.lt_of_lt_of_le Xz_1 b.size
  have Xc0_2 := blk_cell X_2.out 0
  have Xc1_2 := blk_cell X_2.out 1
  have Xc2_2 := blk_cell X_2.out 2
  have Xc3_2 := blk_cell X_2.out 3
  have R_2 := Lib.hid ((b.block _ Rz_1).trans R_1.out)
  have Rz_2 := Nat.lt_of_lt_of_le Rz_1 b.size
  have Rc0_2 := blk_cell R_2.out 0
  have Rc1_2 := blk_cell R_2.out 1
  have Rc2_2 := blk_cell R_2.out 2
  have Rc3_2 := blk_cell R_2.out 3
  have Rc4_2 := blk_cell R_2.out 4
  have q_2 := q_1.trans (b.mono q_1.size)
  clear S_1 Sz_1 Sc0_1 Sc1_1 Sc2_1 Sc3_1 Sc4_1 X_1 Xz_1 Xc0_1 Xc1_1 Xc2_1 Xc3_1 R_1 Rz_1 Rc0_1 Rc1_1 Rc2_1 Rc3_1 Rc4_1 q_1
  clear b
  go_wp2_with fail
  refine (wn_yes 1 1073741824 [n] _ _ _ _ _ _ rfl rfl (by simp) (by simp) HB.out).mono ?_
  rintro e w' ⟨rfl, rfl⟩
  go_wp2_with fail
  refine (wn_yes 0 1099511627776 [v, pd, pa, pi, pl] _ _ _ _ _ _ rfl rfl (by simp) (by simp) HM.out).mono ?_
  rintro e w' ⟨rfl, rfl⟩
  have fS0 := blk_free S_2.out 0
  have fS1 := blk_free S_2.out 1
  have fS2 := blk_free S_2.out 2
  have fS3 := blk_free S_2.out 3
  have fS4 := blk_free S_2.out 4
  have fR0 := blk_free R_2.out 0
  have fR1 := blk_free R_2.out 1
  have fR2 := blk_free R_2.out 2
  have fR3 := blk_free R_2.out 3
  have fR4 := blk_free R_2.out 4
  have hRR := HRR.out
  go_wp2_with fail
  clear fS0 fS1 fS2 fS3 fS4 fR0 fR1 fR2 fR3 fR4
  clear Sc0_2 Sc1_2 Sc2_2 Sc3_2 Sc4_2 Xc0_2 Xc1_2 Xc2_2 Xc3_2 Rc0_2 Rc1_2 Rc2_2 Rc3_2 Rc4_2
  have st0 : Hid ((V2.setCell ⟨w.heap.size, 0, none⟩ (.int .i64 D)).heap[w.heap.size]? = some (.cells #[.int .i64 D, .int .i64 a, .int .i64 i, .int .i64 r, .int .i64 k] 43 (0, 0))) := Lib.hid (blk_set S_2.out 0 (.int .i64 D))
  have st1 : Hid (((V2.setCell ⟨w.heap.size, 0, none⟩ (.int .i64 D)).setCell ⟨w.heap.size, 1, none⟩ (.int .i64 v)).heap[w.heap.size]? = some (.cells #[.int .i64 D, .int .i64 v, .int .i64 i, .int .i64 r, .int .i64 k] 43 (0, 0))) := Lib.hid (blk_set st0.out 1 (.int .i64 v))
  have st2 : Hid ((((V2.setCell ⟨w.heap.size, 0, none⟩ (.int .i64 D)).setCell ⟨w.heap.size, 1, none⟩ (.int .i64 v)).setCell ⟨w.heap.size, 2, none⟩ (.int .i64 pl)).heap[w.heap.size]? = some (.cells #[.int .i64 D, .int .i64 v, .int .i64 pl, .int .i64 r, .int .i64 k] 43 (0, 0))) := Lib.hid (blk_set st1.out 2 (.int .i64 pl))
  have st3 : Hid (((((V2.setCell ⟨w.heap.size, 0, none⟩ (.int .i64 D)).setCell ⟨w.heap.size, 1, none⟩ (.int .i64 v)).setCell ⟨w.heap.size, 2, none⟩ (.int .i64 pl)).setCell ⟨w.heap.size, 3, none⟩ (.int .i64 N)).heap[w.heap.size]? = some (.cells #[.int .i64 D, .int .i64 v, .int .i64 pl, .int .i64 N, .int .i64 k] 43 (0, 0))) := Lib.hid (blk_set st2.out 3 (.int .i64 N))
  have st4 : Hid ((((((V2.setCell ⟨w.heap.size, 0, none⟩ (.int .i64 D)).setCell ⟨w.heap.size, 1, none⟩ (.int .i64 v)).setCell ⟨w.heap.size, 2, none⟩ (.int .i64 pl)).setCell ⟨w.heap.size, 3, none⟩ (.int .i64 N)).setCell ⟨w.heap.size, 4, none⟩ (.int .i64 D)).heap[w.heap.size]? = some (.cells #[.int .i64 D, .int .i64 v, .int .i64 pl, .int .i64 N, .int .i64 D] 43 (0, 0))) := Lib.hid (blk_set st3.out 4 (.int .i64 D))
  have S_3 : Hid ((((((V2.setCell ⟨w.heap.size, 0, none⟩ (.int .i64 D)).setCell ⟨w.heap.size, 1, none⟩ (.int .i64 v)).setCell ⟨w.heap.size, 2, none⟩ (.int .i64 pl)).setCell ⟨w.heap.size, 3, none⟩ (.int .i64 N)).setCell ⟨w.heap.size, 4, none⟩ (.int .i64 D)).heap[w.heap.size]? = some (.cells #[.int .i64 D, .int .i64 v, .int .i64 pl, .int .i64 N, .int .i64 D] 43 (0, 0))) := Lib.hid (st4.out)
  have X_3 : Hid ((((((V2.setCell ⟨w.heap.size, 0, none⟩ (.int .i64 D)).setCell ⟨w.heap.size, 1, none⟩ (.int .i64 v)).setCell ⟨w.heap.size, 2, none⟩ (.int .i64 pl)).setCell ⟨w.heap.size, 3, none⟩ (.int .i64 N)).setCell ⟨w.heap.size, 4, none⟩ (.int .i64 D)).heap[w.heap.size + 1]? = some (.cells #[.int .i64 pd, .int .i64 pa, .int .i64 pi, .int .i64 pl] 44 (0, 0))) := Lib.hid ((blk_other (i := 4) (blk_other (i := 3) (blk_other (i := 2) (blk_other (i := 1) (blk_other (i := 0) X_2.out (by first | assumption | omega) (.int .i64 D)) (by first | assumption | omega) (.int .i64 v)) (by first | assumption | omega) (.int .i64 pl)) (by first | assumption | omega) (.int .i64 N)) (by first | assumption | omega) (.int .i64 D)))
  have R_3 : Hid ((((((V2.setCell ⟨w.heap.size, 0, none⟩ (.int .i64 D)).setCell ⟨w.heap.size, 1, none⟩ (.int .i64 v)).setCell ⟨w.heap.size, 2, none⟩ (.int .i64 pl)).setCell ⟨w.heap.size, 3, none⟩ (.int .i64 N)).setCell ⟨w.heap.size, 4, none⟩ (.int .i64 D)).heap[w.heap.size + 1 + 1]? = some (.cells #[.int .i64 0, .int .i64 0, .int .i64 0, .int .i64 0, .int .i64 0] 43 (0, 0))) := Lib.hid ((blk_other (i := 4) (blk_other (i := 3) (blk_other (i := 2) (blk_other (i := 1) (blk_other (i := 0) R_2.out (by first | assumption | omega) (.int .i64 D)) (by first | assumption | omega) (.int .i64 v)) (by first | assumption | omega) (.int .i64 pl)) (by first | assumption | omega) (.int .i64 N)) (by first | assumption | omega) (.int .i64 D)))
  have q_3 : Below w.heap.size w (((((V2.setCell ⟨w.heap.size, 0, none⟩ (.int .i64 D)).setCell ⟨w.heap.size, 1, none⟩ (.int .i64 v)).setCell ⟨w.heap.size, 2, none⟩ (.int .i64 pl)).setCell ⟨w.heap.size, 3, none⟩ (.int .i64 N)).setCell ⟨w.heap.size, 4, none⟩ (.int .i64 D)) := (((((q_2.setCell (p := ⟨w.heap.size, 0, none⟩) (by first | exact Nat.le_refl _ | omega) (.int .i64 D)).setCell (p := ⟨w.heap.size, 1, none⟩) (by first | exact Nat.le_refl _ | omega) (.int .i64 v)).setCell (p := ⟨w.heap.size, 2, none⟩) (by first | exact Nat.le_refl _ | omega) (.int .i64 pl)).setCell (p := ⟨w.heap.size, 3, none⟩) (by first | exact Nat.le_refl _ | omega) (.int .i64 N)).setCell (p := ⟨w.heap.size, 4, none⟩) (by first | exact Nat.le_refl _ | omega) (.int .i64 D))
  clear q_2 S_2 Sz_2 X_2 Xz_2 R_2 Rz_2 st0 st1 st2 st3 st4
  generalize (((((V2.setCell ⟨w.heap.size, 0, none⟩ (.int .i64 D)).setCell ⟨w.heap.size, 1, none⟩ (.int .i64 v)).setCell ⟨w.heap.size, 2, none⟩ (.int .i64 pl)).setCell ⟨w.heap.size, 3, none⟩ (.int .i64 N)).setCell ⟨w.heap.size, 4, none⟩ (.int .i64 D)) = Y1 at q_3 S_3 X_3 R_3 ⊢
  have Sz_3 := blk_lt S_3.out
  have Sc0_3 := blk_cell S_3.out 0
  have Sc1_3 := blk_cell S_3.out 1
  have Sc2_3 := blk_cell S_3.out 2
  have Sc3_3 := blk_cell S_3.out 3
  have Sc4_3 := blk_cell S_3.out 4
  have Xz_3 := blk_lt X_3.out
  have Xc0_3 := blk_cell X_3.out 0
  have Xc1_3 := blk_cell X_3.out 1
  have Xc2_3 := blk_cell X_3.out 2
  have Xc3_3 := blk_cell X_3.out 3
  have Rz_3 := blk_lt R_3.out
  have Rc0_3 := blk_cell R_3.out 0
  have Rc1_3 := blk_cell R_3.out 1
  have Rc2_3 := blk_cell R_3.out 2
  have Rc3_3 := blk_cell R_3.out 3
  have Rc4_3 := blk_cell R_3.out 4
  have b : Below Y1.heap.size Y1 ((Y1.alloc (.cells #[.int .i64 n] 3)).alloc (.cells #[.int .i64 v, .int .i64 pd, .int .i64 pa, .int .i64 pi, .int .i64 pl] 3)) := (((Below.refl _ Y1).alloc (Nat.le_refl _) (.cells #[.int .i64 n] 3)).alloc (by simp only [World.size_alloc]; omega) (.cells #[.int .i64 v, .int .i64 pd, .int .i64 pa, .int .i64 pi, .int .i64 pl] 3))
  have S_4 := Lib.hid ((b.block _ Sz_3).trans S_3.out)
  have Sz_4 := Nat.lt_of_lt_of_le Sz_3 b.size
  have Sc0_4 := blk_cell S_4.out 0
  have Sc1_4 := blk_cell S_4.out 1
  have Sc2_4 := blk_cell S_4.out 2
  have Sc3_4 := blk_cell S_4.out 3
  have Sc4_4 := blk_cell S_4.out 4
  have X_4 := Lib.hid ((b.block _ Xz_3).trans X_3.out)
  have Xz_4 := Nat.lt_of_lt_of_le Xz_3 b.size
  have Xc0_4 := blk_cell X_4.out 0
  have Xc1_4 := blk_cell X_4.out 1
  have Xc2_4 := blk_cell X_4.out 2
  have Xc3_4 := blk_cell X_4.out 3
  have R_4 := Lib.hid ((b.block _ Rz_3).trans R_3.out)
  have Rz_4 := Nat.lt_of_lt_of_le Rz_3 b.size
  have Rc0_4 := blk_cell R_4.out 0
  have Rc1_4 := blk_cell R_4.out 1
  have Rc2_4 := blk_cell R_4.out 2
  have Rc3_4 := blk_cell R_4.out 3
  have Rc4_4 := blk_cell R_4.out 4
  have q_4 := q_3.trans (b.mono q_3.size)
  clear S_3 Sz_3 Sc0_3 Sc1_3 Sc2_3 Sc3_3 Sc4_3 X_3 Xz_3 Xc0_3 Xc1_3 Xc2_3 Xc3_3 R_3 Rz_3 Rc0_3 Rc1_3 Rc2_3 Rc3_3 Rc4_3 q_3
  clear b
  generalize ((Y1.alloc (.cells #[.int .i64 n] 3)).alloc (.cells #[.int .i64 v, .int .i64 pd, .int .i64 pa, .int .i64 pi, .int .i64 pl] 3)) = V3 at q_4 S_4 Sz_4 Sc0_4 Sc1_4 Sc2_4 Sc3_4 Sc4_4 X_4 Xz_4 Xc0_4 Xc1_4 Xc2_4 Xc3_4 R_4 Rz_4 Rc0_4 Rc1_4 Rc2_4 Rc3_4 Rc4_4 ⊢
  have hO := HO.out
  have hT := HT.out
  go_quiet (fail)
  clear Sc0_4 Sc1_4 Sc2_4 Sc3_4 Sc4_4 Xc0_4 Xc1_4 Xc2_4 Xc3_4 Rc0_4 Rc1_4 Rc2_4 Rc3_4 Rc4_4
  have S_5 : Hid ((V3.drewN nq).heap[w.heap.size]? = some (.cells #[.int .i64 D, .int .i64 v, .int .i64 pl, .int .i64 N, .int .i64 D] 43 (0, 0))) := Lib.hid (blk_drewN S_4.out nq)
  have X_5 : Hid ((V3.drewN nq).heap[w.heap.size + 1]? = some (.cells #[.int .i64 pd, .int .i64 pa, .int .i64 pi, .int .i64 pl] 44 (0, 0))) := Lib.hid (blk_drewN X_4.out nq)
  have R_5 : Hid ((V3.drewN nq).heap[w.heap.size + 1 + 1]? = some (.cells #[.int .i64 0, .int .i64 0, .int .i64 0, .int .i64 0, .int .i64 0] 43 (0, 0))) := Lib.hid (blk_drewN R_4.out nq)
  have q_5 := below_drewN q_4 nq
  clear q_4 S_4 Sz_4 X_4 Xz_4 R_4 Rz_4
  generalize V3.drewN nq = Y2 at q_5 S_5 X_5 R_5 ⊢
  have Sz_5 := blk_lt S_5.out
  have Sc0_5 := blk_cell S_5.out 0
  have Sc1_5 := blk_cell S_5.out 1
  have Sc2_5 := blk_cell S_5.out 2
  have Sc3_5 := blk_cell S_5.out 3
  have Sc4_5 := blk_cell S_5.out 4
  have Xz_5 := blk_lt X_5.out
  have Xc0_5 := blk_cell X_5.out 0
  have Xc1_5 := blk_cell X_5.out 1
  have Xc2_5 := blk_cell X_5.out 2
  have Xc3_5 := blk_cell X_5.out 3
  have Rz_5 := blk_lt R_5.out
  have Rc0_5 := blk_cell R_5.out 0
  have Rc1_5 := blk_cell R_5.out 1
  have Rc2_5 := blk_cell R_5.out 2
  have Rc3_5 := blk_cell R_5.out 3
  have Rc4_5 := blk_cell R_5.out 4
  clear hO hT HO HT
  have fS0 := blk_free S_5.out 0
  have fS1 := blk_free S_5.out 1
  have fS2 := blk_free S_5.out 2
  have fS3 := blk_free S_5.out 3
  have fS4 := blk_free S_5.out 4
  have fR0 := blk_free R_5.out 0
  have fR1 := blk_free R_5.out 1
  have fR2 := blk_free R_5.out 2
  have fR3 := blk_free R_5.out 3
  have fR4 := blk_free R_5.out 4
  have QY := Lib.hid q_5
  clear S_5 X_5 R_5
  go_wp2
  refine bodyPost_ret (v := .tuple #[.agg #[.int .i64 D, .int .i64 v, .int .i64 pl, .int .i64 N, .int .i64 D], .int .i64 0, .bool false, .int .i64 0]) (by simp [results, Try.results17, go_sem, *]) rfl ⟨rfl, ?_⟩
  (repeat' (first | (with_reducible exact QY.out) | (with_reducible exact Below.refl _ _) | (with_reducible refine Below.alloc ?_ ?_ _) | (with_reducible refine Below.setCell ?_ ?_ _) | (with_reducible refine Below.drew ?_) | (with_reducible refine below_drewN ?_ _) | omega | (dsimp only; omega) | (simp; done) | (simp; omega)))

set_option maxRecDepth 100000 in
set_option maxHeartbeats 2000000 in
theorem deliver_mr (d a i r k pd pa pi pl n v D N O T Q : Int) (w : World) (hS : RV d a i r k) (hD : DV n v pd pa pi pl) (hDD : min (d + n) 1099511627776 = D) (hRR : min (r + 1) 1099511627776 = N) (hO : D - pd = O) (hT : max (pl - pi) (v - pa) = T) (hk : k ≤ pd) (h0 : 0 < O) (h1 : 0 < T) (hQ : min (O * 1024 / T) 1073741824 = Q) :
    Calls Try.prog 17 #[.agg #[.int .i64 d, .int .i64 a, .int .i64 i, .int .i64 r, .int .i64 k], .agg #[.int .i64 pd, .int .i64 pa, .int .i64 pi, .int .i64 pl], .int .i64 n, .int .i64 v] w fun e w' => e = .returned (.tuple #[.agg #[.int .i64 D, .int .i64 v, .int .i64 pl, .int .i64 N, .int .i64 D], .int .i64 Q, .bool true, .int .i64 0]) ∧ Below w.heap.size w w' := by
  have HS := Lib.hid hS
  have HB : Hid (InR 1 1073741824 [n]) := Lib.hid (inR1.2 hD.1)
  have HM : Hid (InR 0 1099511627776 [v, pd, pa, pi, pl]) := Lib.hid (inR5.2 hD.2)
  obtain ⟨⟨d0, d1⟩, ⟨a0, a1⟩, ⟨i0, i1⟩, ⟨r0, r1⟩, k0, k1⟩ := hS
  obtain ⟨⟨n0, n1⟩, ⟨v0, v1⟩, ⟨pd0, pd1⟩, ⟨pa0, pa1⟩, ⟨pi0, pi1⟩, pl0, pl1⟩ := hD
  have D0 : 0 ≤ D ∧ D ≤ 1099511627776 := by omega
  obtain ⟨D0, D1⟩ := D0
  have HO := Lib.hid hO
  have HT := Lib.hid hT
  have HDD := Lib.hid hDD
  have HRR := Lib.hid hRR
  clear hO hT hRR
  have q_0 := Below.refl w.heap.size w
  go_enter Try.func17, Try.ntmps17
  go_wp2_with fail
  have b : Below w.heap.size w (((w.alloc (.cells #[.int .i64 d, .int .i64 a, .int .i64 i, .int .i64 r, .int .i64 k] 43)).alloc (.cells #[.int .i64 pd, .int .i64 pa, .int .i64 pi, .int .i64 pl] 44)).alloc (.cells #[.int .i64 0, .int .i64 0, .int .i64 0, .int .i64 0, .int .i64 0] 43)) := ((((Below.refl _ w).alloc (Nat.le_refl _) (.cells #[.int .i64 d, .int .i64 a, .int .i64 i, .int .i64 r, .int .i64 k] 43)).alloc (by simp only [World.size_alloc]; omega) (.cells #[.int .i64 pd, .int .i64 pa, .int .i64 pi, .int .i64 pl] 44)).alloc (by simp only [World.size_alloc]; omega) (.cells #[.int .i64 0, .int .i64 0, .int .i64 0, .int .i64 0, .int .i64 0] 43))
  have nb0 := blk_new w (.cells #[.int .i64 d, .int .i64 a, .int .i64 i, .int .i64 r, .int .i64 k] 43)
  have nb0 := (Below.heap_alloc (w.alloc (.cells #[.int .i64 d, .int .i64 a, .int .i64 i, .int .i64 r, .int .i64 k] 43)) (.cells #[.int .i64 pd, .int .i64 pa, .int .i64 pi, .int .i64 pl] 44) (w.heap.size) (by simp only [World.size_alloc]; omega)).trans nb0
  have nb0 := (Below.heap_alloc ((w.alloc (.cells #[.int .i64 d, .int .i64 a, .int .i64 i, .int .i64 r, .int .i64 k] 43)).alloc (.cells #[.int .i64 pd, .int .i64 pa, .int .i64 pi, .int .i64 pl] 44)) (.cells #[.int .i64 0, .int .i64 0, .int .i64 0, .int .i64 0, .int .i64 0] 43) (w.heap.size) (by simp only [World.size_alloc]; omega)).trans nb0
  have nz0 : w.heap.size < (((w.alloc (.cells #[.int .i64 d, .int .i64 a, .int .i64 i, .int .i64 r, .int .i64 k] 43)).alloc (.cells #[.int .i64 pd, .int .i64 pa, .int .i64 pi, .int .i64 pl] 44)).alloc (.cells #[.int .i64 0, .int .i64 0, .int .i64 0, .int .i64 0, .int .i64 0] 43)).heap.size := by simp only [World.size_alloc]; omega
  have nb1 := blk_new (w.alloc (.cells #[.int .i64 d, .int .i64 a, .int .i64 i, .int .i64 r, .int .i64 k] 43)) (.cells #[.int .i64 pd, .int .i64 pa, .int .i64 pi, .int .i64 pl] 44)
  simp only [World.size_alloc] at nb1
  have nb1 := (Below.heap_alloc ((w.alloc (.cells #[.int .i64 d, .int .i64 a, .int .i64 i, .int .i64 r, .int .i64 k] 43)).alloc (.cells #[.int .i64 pd, .int .i64 pa, .int .i64 pi, .int .i64 pl] 44)) (.cells #[.int .i64 0, .int .i64 0, .int .i64 0, .int .i64 0, .int .i64 0] 43) (w.heap.size + 1) (by simp only [World.size_alloc]; omega)).trans nb1
  have nz1 : w.heap.size + 1 < (((w.alloc (.cells #[.int .i64 d, .int .i64 a, .int .i64 i, .int .i64 r, .int .i64 k] 43)).alloc (.cells #[.int .i64 pd, .int .i64 pa, .int .i64 pi, .int .i64 pl] 44)).alloc (.cells #[.int .i64 0, .int .i64 0, .int .i64 0, .int .i64 0, .int .i64 0] 43)).heap.size := by simp only [World.size_alloc]; omega
  have nb2 := blk_new ((w.alloc (.cells #[.int .i64 d, .int .i64 a, .int .i64 i, .int .i64 r, .int .i64 k] 43)).alloc (.cells #[.int .i64 pd, .int .i64 pa, .int .i64 pi, .int .i64 pl] 44)) (.cells #[.int .i64 0, .int .i64 0, .int .i64 0, .int .i64 0, .int .i64 0] 43)
  simp only [World.size_alloc] at nb2
  have nz2 : w.heap.size + 2 < (((w.alloc (.cells #[.int .i64 d, .int .i64 a, .int .i64 i, .int .i64 r, .int .i64 k] 43)).alloc (.cells #[.int .i64 pd, .int .i64 pa, .int .i64 pi, .int .i64 pl] 44)).alloc (.cells #[.int .i64 0, .int .i64 0, .int .i64 0, .int .i64 0, .int .i64 0] 43)).heap.size := by simp only [World.size_alloc]; omega
  have q_1 := q_0.trans (b.mono q_0.size)
  clear q_0
  clear b
  have S_1 := Lib.hid nb0
  have Sz_1 := nz0
  clear nb0 nz0
  have Sc0_1 := blk_cell S_1.out 0
  have Sc1_1 := blk_cell S_1.out 1
  have Sc2_1 := blk_cell S_1.out 2
  have Sc3_1 := blk_cell S_1.out 3
  have Sc4_1 := blk_cell S_1.out 4
  have X_1 := Lib.hid nb1
  have Xz_1 := nz1
  clear nb1 nz1
  have Xc0_1 := blk_cell X_1.out 0
  have Xc1_1 := blk_cell X_1.out 1
  have Xc2_1 := blk_cell X_1.out 2
  have Xc3_1 := blk_cell X_1.out 3
  have R_1 := Lib.hid nb2
  have Rz_1 := nz2
  clear nb2 nz2
  have Rc0_1 := blk_cell R_1.out 0
  have Rc1_1 := blk_cell R_1.out 1
  have Rc2_1 := blk_cell R_1.out 2
  have Rc3_1 := blk_cell R_1.out 3
  have Rc4_1 := blk_cell R_1.out 4
  generalize (((w.alloc (.cells #[.int .i64 d, .int .i64 a, .int .i64 i, .int .i64 r, .int .i64 k] 43)).alloc (.cells #[.int .i64 pd, .int .i64 pa, .int .i64 pi, .int .i64 pl] 44)).alloc (.cells #[.int .i64 0, .int .i64 0, .int .i64 0, .int .i64 0, .int .i64 0] 43)) = V1 at q_1 S_1 Sz_1 Sc0_1 Sc1_1 Sc2_1 Sc3_1 Sc4_1 X_1 Xz_1 Xc0_1 Xc1_1 Xc2_1 Xc3_1 R_1 Rz_1 Rc0_1 Rc1_1 Rc2_1 Rc3_1 Rc4_1 ⊢
  have nsx : w.heap.size ≠ w.heap.size + 1 := by omega
  have nsr : w.heap.size ≠ w.heap.size + 1 + 1 := by omega
  have nxr : w.heap.size + 1 ≠ w.heap.size + 1 + 1 := by omega
  have nxs := nsx.symm
  have nrs := nsr.symm
  have nrx := nxr.symm
  refine (rmay_yes d a i r k _ HS.out).mono ?_
  rintro e V2 ⟨rfl, b⟩
  have S_2 := Lib.hid ((b.block _ Sz_1).trans S_1.out)
  have Sz_2 := Nat.lt_of_lt_of_le Sz_1 b.size
  have Sc0_2 := blk_cell S_2.out 0
  have Sc1_2 := blk_cell S_2.out 1
  have Sc2_2 := blk_cell S_2.out 2
  have Sc3_2 := blk_cell S_2.out 3
  have Sc4_2 := blk_cell S_2.out 4
  have X_2 := Lib.hid ((b.block _ Xz_1).trans X_1.out)
  have Xz_2 := Nat.lt_of_lt_of_le Xz_1 b.size
  have Xc0_2 := blk_cell X_2.out 0
  have Xc1_2 := blk_cell X_2.out 1
  have Xc2_2 := blk_cell X_2.out 2
  have Xc3_2 := blk_cell X_2.out 3
  have R_2 := Lib.hid ((b.block _ Rz_1).trans R_1.out)
  have Rz_2 := Nat.lt_of_lt_of_le Rz_1 b.size
  have Rc0_2 := blk_cell R_2.out 0
  have Rc1_2 := blk_cell R_2.out 1
  have Rc2_2 := blk_cell R_2.out 2
  have Rc3_2 := blk_cell R_2.out 3
  have Rc4_2 := blk_cell R_2.out 4
  have q_2 := q_1.trans (b.mono q_1.size)
  clear S_1 Sz_1 Sc0_1 Sc1_1 Sc2_1 Sc3_1 Sc4_1 X_1 Xz_1 Xc0_1 Xc1_1 Xc2_1 Xc3_1 R_1 Rz_1 Rc0_1 Rc1_1 Rc2_1 Rc3_1 Rc4_1 q_1
  clear b
  go_wp2_with fail
  refine (wn_yes 1 1073741824 [n] _ _ _ _ _ _ rfl rfl (by simp) (by simp) HB.out).mono ?_
  rintro e w' ⟨rfl, rfl⟩
  go_wp2_with fail
  refine (wn_yes 0 1099511627776 [v, pd, pa, pi, pl] _ _ _ _ _ _ rfl rfl (by simp) (by simp) HM.out).mono ?_
  rintro e w' ⟨rfl, rfl⟩
  have fS0 := blk_free S_2.out 0
  have fS1 := blk_free S_2.out 1
  have fS2 := blk_free S_2.out 2
  have fS3 := blk_free S_2.out 3
  have fS4 := blk_free S_2.out 4
  have fR0 := blk_free R_2.out 0
  have fR1 := blk_free R_2.out 1
  have fR2 := blk_free R_2.out 2
  have fR3 := blk_free R_2.out 3
  have fR4 := blk_free R_2.out 4
  have hRR := HRR.out
  go_wp2_with fail
  clear fS0 fS1 fS2 fS3 fS4 fR0 fR1 fR2 fR3 fR4
  clear Sc0_2 Sc1_2 Sc2_2 Sc3_2 Sc4_2 Xc0_2 Xc1_2 Xc2_2 Xc3_2 Rc0_2 Rc1_2 Rc2_2 Rc3_2 Rc4_2
  have st0 : Hid ((V2.setCell ⟨w.heap.size, 0, none⟩ (.int .i64 D)).heap[w.heap.size]? = some (.cells #[.int .i64 D, .int .i64 a, .int .i64 i, .int .i64 r, .int .i64 k] 43 (0, 0))) := Lib.hid (blk_set S_2.out 0 (.int .i64 D))
  have st1 : Hid (((V2.setCell ⟨w.heap.size, 0, none⟩ (.int .i64 D)).setCell ⟨w.heap.size, 1, none⟩ (.int .i64 v)).heap[w.heap.size]? = some (.cells #[.int .i64 D, .int .i64 v, .int .i64 i, .int .i64 r, .int .i64 k] 43 (0, 0))) := Lib.hid (blk_set st0.out 1 (.int .i64 v))
  have st2 : Hid ((((V2.setCell ⟨w.heap.size, 0, none⟩ (.int .i64 D)).setCell ⟨w.heap.size, 1, none⟩ (.int .i64 v)).setCell ⟨w.heap.size, 2, none⟩ (.int .i64 pl)).heap[w.heap.size]? = some (.cells #[.int .i64 D, .int .i64 v, .int .i64 pl, .int .i64 r, .int .i64 k] 43 (0, 0))) := Lib.hid (blk_set st1.out 2 (.int .i64 pl))
  have st3 : Hid (((((V2.setCell ⟨w.heap.size, 0, none⟩ (.int .i64 D)).setCell ⟨w.heap.size, 1, none⟩ (.int .i64 v)).setCell ⟨w.heap.size, 2, none⟩ (.int .i64 pl)).setCell ⟨w.heap.size, 3, none⟩ (.int .i64 N)).heap[w.heap.size]? = some (.cells #[.int .i64 D, .int .i64 v, .int .i64 pl, .int .i64 N, .int .i64 k] 43 (0, 0))) := Lib.hid (blk_set st2.out 3 (.int .i64 N))
  have st4 : Hid ((((((V2.setCell ⟨w.heap.size, 0, none⟩ (.int .i64 D)).setCell ⟨w.heap.size, 1, none⟩ (.int .i64 v)).setCell ⟨w.heap.size, 2, none⟩ (.int .i64 pl)).setCell ⟨w.heap.size, 3, none⟩ (.int .i64 N)).setCell ⟨w.heap.size, 4, none⟩ (.int .i64 D)).heap[w.heap.size]? = some (.cells #[.int .i64 D, .int .i64 v, .int .i64 pl, .int .i64 N, .int .i64 D] 43 (0, 0))) := Lib.hid (blk_set st3.out 4 (.int .i64 D))
  have S_3 : Hid ((((((V2.setCell ⟨w.heap.size, 0, none⟩ (.int .i64 D)).setCell ⟨w.heap.size, 1, none⟩ (.int .i64 v)).setCell ⟨w.heap.size, 2, none⟩ (.int .i64 pl)).setCell ⟨w.heap.size, 3, none⟩ (.int .i64 N)).setCell ⟨w.heap.size, 4, none⟩ (.int .i64 D)).heap[w.heap.size]? = some (.cells #[.int .i64 D, .int .i64 v, .int .i64 pl, .int .i64 N, .int .i64 D] 43 (0, 0))) := Lib.hid (st4.out)
  have X_3 : Hid ((((((V2.setCell ⟨w.heap.size, 0, none⟩ (.int .i64 D)).setCell ⟨w.heap.size, 1, none⟩ (.int .i64 v)).setCell ⟨w.heap.size, 2, none⟩ (.int .i64 pl)).setCell ⟨w.heap.size, 3, none⟩ (.int .i64 N)).setCell ⟨w.heap.size, 4, none⟩ (.int .i64 D)).heap[w.heap.size + 1]? = some (.cells #[.int .i64 pd, .int .i64 pa, .int .i64 pi, .int .i64 pl] 44 (0, 0))) := Lib.hid ((blk_other (i := 4) (blk_other (i := 3) (blk_other (i := 2) (blk_other (i := 1) (blk_other (i := 0) X_2.out (by first | assumption | omega) (.int .i64 D)) (by first | assumption | omega) (.int .i64 v)) (by first | assumption | omega) (.int .i64 pl)) (by first | assumption | omega) (.int .i64 N)) (by first | assumption | omega) (.int .i64 D)))
  have R_3 : Hid ((((((V2.setCell ⟨w.heap.size, 0, none⟩ (.int .i64 D)).setCell ⟨w.heap.size, 1, none⟩ (.int .i64 v)).setCell ⟨w.heap.size, 2, none⟩ (.int .i64 pl)).setCell ⟨w.heap.size, 3, none⟩ (.int .i64 N)).setCell ⟨w.heap.size, 4, none⟩ (.int .i64 D)).heap[w.heap.size + 1 + 1]? = some (.cells #[.int .i64 0, .int .i64 0, .int .i64 0, .int .i64 0, .int .i64 0] 43 (0, 0))) := Lib.hid ((blk_other (i := 4) (blk_other (i := 3) (blk_other (i := 2) (blk_other (i := 1) (blk_other (i := 0) R_2.out (by first | assumption | omega) (.int .i64 D)) (by first | assumption | omega) (.int .i64 v)) (by first | assumption | omega) (.int .i64 pl)) (by first | assumption | omega) (.int .i64 N)) (by first | assumption | omega) (.int .i64 D)))
  have q_3 : Below w.heap.size w (((((V2.setCell ⟨w.heap.size, 0, none⟩ (.int .i64 D)).setCell ⟨w.heap.size, 1, none⟩ (.int .i64 v)).setCell ⟨w.heap.size, 2, none⟩ (.int .i64 pl)).setCell ⟨w.heap.size, 3, none⟩ (.int .i64 N)).setCell ⟨w.heap.size, 4, none⟩ (.int .i64 D)) := (((((q_2.setCell (p := ⟨w.heap.size, 0, none⟩) (by first | exact Nat.le_refl _ | omega) (.int .i64 D)).setCell (p := ⟨w.heap.size, 1, none⟩) (by first | exact Nat.le_refl _ | omega) (.int .i64 v)).setCell (p := ⟨w.heap.size, 2, none⟩) (by first | exact Nat.le_refl _ | omega) (.int .i64 pl)).setCell (p := ⟨w.heap.size, 3, none⟩) (by first | exact Nat.le_refl _ | omega) (.int .i64 N)).setCell (p := ⟨w.heap.size, 4, none⟩) (by first | exact Nat.le_refl _ | omega) (.int .i64 D))
  clear q_2 S_2 Sz_2 X_2 Xz_2 R_2 Rz_2 st0 st1 st2 st3 st4
  generalize (((((V2.setCell ⟨w.heap.size, 0, none⟩ (.int .i64 D)).setCell ⟨w.heap.size, 1, none⟩ (.int .i64 v)).setCell ⟨w.heap.size, 2, none⟩ (.int .i64 pl)).setCell ⟨w.heap.size, 3, none⟩ (.int .i64 N)).setCell ⟨w.heap.size, 4, none⟩ (.int .i64 D)) = Y1 at q_3 S_3 X_3 R_3 ⊢
  have Sz_3 := blk_lt S_3.out
  have Sc0_3 := blk_cell S_3.out 0
  have Sc1_3 := blk_cell S_3.out 1
  have Sc2_3 := blk_cell S_3.out 2
  have Sc3_3 := blk_cell S_3.out 3
  have Sc4_3 := blk_cell S_3.out 4
  have Xz_3 := blk_lt X_3.out
  have Xc0_3 := blk_cell X_3.out 0
  have Xc1_3 := blk_cell X_3.out 1
  have Xc2_3 := blk_cell X_3.out 2
  have Xc3_3 := blk_cell X_3.out 3
  have Rz_3 := blk_lt R_3.out
  have Rc0_3 := blk_cell R_3.out 0
  have Rc1_3 := blk_cell R_3.out 1
  have Rc2_3 := blk_cell R_3.out 2
  have Rc3_3 := blk_cell R_3.out 3
  have Rc4_3 := blk_cell R_3.out 4
  have b : Below Y1.heap.size Y1 ((Y1.alloc (.cells #[.int .i64 n] 3)).alloc (.cells #[.int .i64 v, .int .i64 pd, .int .i64 pa, .int .i64 pi, .int .i64 pl] 3)) := (((Below.refl _ Y1).alloc (Nat.le_refl _) (.cells #[.int .i64 n] 3)).alloc (by simp only [World.size_alloc]; omega) (.cells #[.int .i64 v, .int .i64 pd, .int .i64 pa, .int .i64 pi, .int .i64 pl] 3))
  have S_4 := Lib.hid ((b.block _ Sz_3).trans S_3.out)
  have Sz_4 := Nat.lt_of_lt_of_le Sz_3 b.size
  have Sc0_4 := blk_cell S_4.out 0
  have Sc1_4 := blk_cell S_4.out 1
  have Sc2_4 := blk_cell S_4.out 2
  have Sc3_4 := blk_cell S_4.out 3
  have Sc4_4 := blk_cell S_4.out 4
  have X_4 := Lib.hid ((b.block _ Xz_3).trans X_3.out)
  have Xz_4 := Nat.lt_of_lt_of_le Xz_3 b.size
  have Xc0_4 := blk_cell X_4.out 0
  have Xc1_4 := blk_cell X_4.out 1
  have Xc2_4 := blk_cell X_4.out 2
  have Xc3_4 := blk_cell X_4.out 3
  have R_4 := Lib.hid ((b.block _ Rz_3).trans R_3.out)
  have Rz_4 := Nat.lt_of_lt_of_le Rz_3 b.size
  have Rc0_4 := blk_cell R_4.out 0
  have Rc1_4 := blk_cell R_4.out 1
  have Rc2_4 := blk_cell R_4.out 2
  have Rc3_4 := blk_cell R_4.out 3
  have Rc4_4 := blk_cell R_4.out 4
  have q_4 := q_3.trans (b.mono q_3.size)
  clear S_3 Sz_3 Sc0_3 Sc1_3 Sc2_3 Sc3_3 Sc4_3 X_3 Xz_3 Xc0_3 Xc1_3 Xc2_3 Xc3_3 R_3 Rz_3 Rc0_3 Rc1_3 Rc2_3 Rc3_3 Rc4_3 q_3
  clear b
  generalize ((Y1.alloc (.cells #[.int .i64 n] 3)).alloc (.cells #[.int .i64 v, .int .i64 pd, .int .i64 pa, .int .i64 pi, .int .i64 pl] 3)) = V3 at q_4 S_4 Sz_4 Sc0_4 Sc1_4 Sc2_4 Sc3_4 Sc4_4 X_4 Xz_4 Xc0_4 Xc1_4 Xc2_4 Xc3_4 R_4 Rz_4 Rc0_4 Rc1_4 Rc2_4 Rc3_4 Rc4_4 ⊢
  have hO := HO.out
  have hT := HT.out
  have tz : (T == 0) = false := by rw [beq_eq_false_iff_ne]; omega
  have O1 : O ≤ 1099511627776 := by omega
  obtain ⟨c0, c1⟩ := quot_bd (x := O * 1024) (f := T) (by omega) (by omega)
  go_quiet (fail)
  clear Sc0_4 Sc1_4 Sc2_4 Sc3_4 Sc4_4 Xc0_4 Xc1_4 Xc2_4 Xc3_4 Rc0_4 Rc1_4 Rc2_4 Rc3_4 Rc4_4
  have S_5 : Hid ((V3.drewN nq).heap[w.heap.size]? = some (.cells #[.int .i64 D, .int .i64 v, .int .i64 pl, .int .i64 N, .int .i64 D] 43 (0, 0))) := Lib.hid (blk_drewN S_4.out nq)
  have X_5 : Hid ((V3.drewN nq).heap[w.heap.size + 1]? = some (.cells #[.int .i64 pd, .int .i64 pa, .int .i64 pi, .int .i64 pl] 44 (0, 0))) := Lib.hid (blk_drewN X_4.out nq)
  have R_5 : Hid ((V3.drewN nq).heap[w.heap.size + 1 + 1]? = some (.cells #[.int .i64 0, .int .i64 0, .int .i64 0, .int .i64 0, .int .i64 0] 43 (0, 0))) := Lib.hid (blk_drewN R_4.out nq)
  have q_5 := below_drewN q_4 nq
  clear q_4 S_4 Sz_4 X_4 Xz_4 R_4 Rz_4
  generalize V3.drewN nq = Y2 at q_5 S_5 X_5 R_5 ⊢
  have Sz_5 := blk_lt S_5.out
  have Sc0_5 := blk_cell S_5.out 0
  have Sc1_5 := blk_cell S_5.out 1
  have Sc2_5 := blk_cell S_5.out 2
  have Sc3_5 := blk_cell S_5.out 3
  have Sc4_5 := blk_cell S_5.out 4
  have Xz_5 := blk_lt X_5.out
  have Xc0_5 := blk_cell X_5.out 0
  have Xc1_5 := blk_cell X_5.out 1
  have Xc2_5 := blk_cell X_5.out 2
  have Xc3_5 := blk_cell X_5.out 3
  have Rz_5 := blk_lt R_5.out
  have Rc0_5 := blk_cell R_5.out 0
  have Rc1_5 := blk_cell R_5.out 1
  have Rc2_5 := blk_cell R_5.out 2
  have Rc3_5 := blk_cell R_5.out 3
  have Rc4_5 := blk_cell R_5.out 4
  clear hO hT HO HT
  have fS0 := blk_free S_5.out 0
  have fS1 := blk_free S_5.out 1
  have fS2 := blk_free S_5.out 2
  have fS3 := blk_free S_5.out 3
  have fS4 := blk_free S_5.out 4
  have fR0 := blk_free R_5.out 0
  have fR1 := blk_free R_5.out 1
  have fR2 := blk_free R_5.out 2
  have fR3 := blk_free R_5.out 3
  have fR4 := blk_free R_5.out 4
  have QY := Lib.hid q_5
  clear S_5 X_5 R_5
  have tn0 : ¬ T = 0 := by omega
  have e1 : IntKind.i64.wrap (O * 1024) = O * 1024 := by rw [IntKind.wrap_i64]; omega
  have e2 : (O * 1024).tdiv T = O * 1024 / T := Int.tdiv_eq_ediv_of_nonneg (by omega)
  have e3 : IntKind.i64.wrap (O * 1024 / T) = O * 1024 / T := by rw [IntKind.wrap_i64]; omega
  clear tz
  go_wp2_with fail
  go_region
  all_goals
    go_wp2
    refine bodyPost_ret (v := .tuple #[.agg #[.int .i64 D, .int .i64 v, .int .i64 pl, .int .i64 N, .int .i64 D], .int .i64 Q, .bool true, .int .i64 0]) (by simp [results, Try.results17, go_sem, *]) rfl ⟨rfl, ?_⟩
    (repeat' (first | (with_reducible exact QY.out) | (with_reducible exact Below.refl _ _) | (with_reducible refine Below.alloc ?_ ?_ _) | (with_reducible refine Below.setCell ?_ ?_ _) | (with_reducible refine Below.drew ?_) | (with_reducible refine below_drewN ?_ _) | omega | (dsimp only; omega) | (simp; done) | (simp; omega)))

set_option maxRecDepth 100000 in
set_option maxHeartbeats 2000000 in
theorem deliver_no (d a i r k pd pa pi pl n v D N O T : Int) (w : World) (hS : RV d a i r k) (hD : DV n v pd pa pi pl) (hDD : min (d + n) 1099511627776 = D) (hRR : min (r + 1) 1099511627776 = N) (hO : D - pd = O) (hT : max (pl - pi) (v - pa) = T) (hk : pd < k) (h0 : O ≤ 0) :
    Calls Try.prog 17 #[.agg #[.int .i64 d, .int .i64 a, .int .i64 i, .int .i64 r, .int .i64 k], .agg #[.int .i64 pd, .int .i64 pa, .int .i64 pi, .int .i64 pl], .int .i64 n, .int .i64 v] w fun e w' => e = .returned (.tuple #[.agg #[.int .i64 D, .int .i64 v, .int .i64 pl, .int .i64 r, .int .i64 k], .int .i64 0, .bool false, .int .i64 0]) ∧ Below w.heap.size w w' := by
  have HS := Lib.hid hS
  have HB : Hid (InR 1 1073741824 [n]) := Lib.hid (inR1.2 hD.1)
  have HM : Hid (InR 0 1099511627776 [v, pd, pa, pi, pl]) := Lib.hid (inR5.2 hD.2)
  obtain ⟨⟨d0, d1⟩, ⟨a0, a1⟩, ⟨i0, i1⟩, ⟨r0, r1⟩, k0, k1⟩ := hS
  obtain ⟨⟨n0, n1⟩, ⟨v0, v1⟩, ⟨pd0, pd1⟩, ⟨pa0, pa1⟩, ⟨pi0, pi1⟩, pl0, pl1⟩ := hD
  have D0 : 0 ≤ D ∧ D ≤ 1099511627776 := by omega
  obtain ⟨D0, D1⟩ := D0
  have HO := Lib.hid hO
  have HT := Lib.hid hT
  have HDD := Lib.hid hDD
  have HRR := Lib.hid hRR
  clear hO hT hRR
  have q_0 := Below.refl w.heap.size w
  go_enter Try.func17, Try.ntmps17
  go_wp2_with fail
  have b : Below w.heap.size w (((w.alloc (.cells #[.int .i64 d, .int .i64 a, .int .i64 i, .int .i64 r, .int .i64 k] 43)).alloc (.cells #[.int .i64 pd, .int .i64 pa, .int .i64 pi, .int .i64 pl] 44)).alloc (.cells #[.int .i64 0, .int .i64 0, .int .i64 0, .int .i64 0, .int .i64 0] 43)) := ((((Below.refl _ w).alloc (Nat.le_refl _) (.cells #[.int .i64 d, .int .i64 a, .int .i64 i, .int .i64 r, .int .i64 k] 43)).alloc (by simp only [World.size_alloc]; omega) (.cells #[.int .i64 pd, .int .i64 pa, .int .i64 pi, .int .i64 pl] 44)).alloc (by simp only [World.size_alloc]; omega) (.cells #[.int .i64 0, .int .i64 0, .int .i64 0, .int .i64 0, .int .i64 0] 43))
  have nb0 := blk_new w (.cells #[.int .i64 d, .int .i64 a, .int .i64 i, .int .i64 r, .int .i64 k] 43)
  have nb0 := (Below.heap_alloc (w.alloc (.cells #[.int .i64 d, .int .i64 a, .int .i64 i, .int .i64 r, .int .i64 k] 43)) (.cells #[.int .i64 pd, .int .i64 pa, .int .i64 pi, .int .i64 pl] 44) (w.heap.size) (by simp only [World.size_alloc]; omega)).trans nb0
  have nb0 := (Below.heap_alloc ((w.alloc (.cells #[.int .i64 d, .int .i64 a, .int .i64 i, .int .i64 r, .int .i64 k] 43)).alloc (.cells #[.int .i64 pd, .int .i64 pa, .int .i64 pi, .int .i64 pl] 44)) (.cells #[.int .i64 0, .int .i64 0, .int .i64 0, .int .i64 0, .int .i64 0] 43) (w.heap.size) (by simp only [World.size_alloc]; omega)).trans nb0
  have nz0 : w.heap.size < (((w.alloc (.cells #[.int .i64 d, .int .i64 a, .int .i64 i, .int .i64 r, .int .i64 k] 43)).alloc (.cells #[.int .i64 pd, .int .i64 pa, .int .i64 pi, .int .i64 pl] 44)).alloc (.cells #[.int .i64 0, .int .i64 0, .int .i64 0, .int .i64 0, .int .i64 0] 43)).heap.size := by simp only [World.size_alloc]; omega
  have nb1 := blk_new (w.alloc (.cells #[.int .i64 d, .int .i64 a, .int .i64 i, .int .i64 r, .int .i64 k] 43)) (.cells #[.int .i64 pd, .int .i64 pa, .int .i64 pi, .int .i64 pl] 44)
  simp only [World.size_alloc] at nb1
  have nb1 := (Below.heap_alloc ((w.alloc (.cells #[.int .i64 d, .int .i64 a, .int .i64 i, .int .i64 r, .int .i64 k] 43)).alloc (.cells #[.int .i64 pd, .int .i64 pa, .int .i64 pi, .int .i64 pl] 44)) (.cells #[.int .i64 0, .int .i64 0, .int .i64 0, .int .i64 0, .int .i64 0] 43) (w.heap.size + 1) (by simp only [World.size_alloc]; omega)).trans nb1
  have nz1 : w.heap.size + 1 < (((w.alloc (.cells #[.int .i64 d, .int .i64 a, .int .i64 i, .int .i64 r, .int .i64 k] 43)).alloc (.cells #[.int .i64 pd, .int .i64 pa, .int .i64 pi, .int .i64 pl] 44)).alloc (.cells #[.int .i64 0, .int .i64 0, .int .i64 0, .int .i64 0, .int .i64 0] 43)).heap.size := by simp only [World.size_alloc]; omega
  have nb2 := blk_new ((w.alloc (.cells #[.int .i64 d, .int .i64 a, .int .i64 i, .int .i64 r, .int .i64 k] 43)).alloc (.cells #[.int .i64 pd, .int .i64 pa, .int .i64 pi, .int .i64 pl] 44)) (.cells #[.int .i64 0, .int .i64 0, .int .i64 0, .int .i64 0, .int .i64 0] 43)
  simp only [World.size_alloc] at nb2
  have nz2 : w.heap.size + 2 < (((w.alloc (.cells #[.int .i64 d, .int .i64 a, .int .i64 i, .int .i64 r, .int .i64 k] 43)).alloc (.cells #[.int .i64 pd, .int .i64 pa, .int .i64 pi, .int .i64 pl] 44)).alloc (.cells #[.int .i64 0, .int .i64 0, .int .i64 0, .int .i64 0, .int .i64 0] 43)).heap.size := by simp only [World.size_alloc]; omega
  have q_1 := q_0.trans (b.mono q_0.size)
  clear q_0
  clear b
  have S_1 := Lib.hid nb0
  have Sz_1 := nz0
  clear nb0 nz0
  have Sc0_1 := blk_cell S_1.out 0
  have Sc1_1 := blk_cell S_1.out 1
  have Sc2_1 := blk_cell S_1.out 2
  have Sc3_1 := blk_cell S_1.out 3
  have Sc4_1 := blk_cell S_1.out 4
  have X_1 := Lib.hid nb1
  have Xz_1 := nz1
  clear nb1 nz1
  have Xc0_1 := blk_cell X_1.out 0
  have Xc1_1 := blk_cell X_1.out 1
  have Xc2_1 := blk_cell X_1.out 2
  have Xc3_1 := blk_cell X_1.out 3
  have R_1 := Lib.hid nb2
  have Rz_1 := nz2
  clear nb2 nz2
  have Rc0_1 := blk_cell R_1.out 0
  have Rc1_1 := blk_cell R_1.out 1
  have Rc2_1 := blk_cell R_1.out 2
  have Rc3_1 := blk_cell R_1.out 3
  have Rc4_1 := blk_cell R_1.out 4
  generalize (((w.alloc (.cells #[.int .i64 d, .int .i64 a, .int .i64 i, .int .i64 r, .int .i64 k] 43)).alloc (.cells #[.int .i64 pd, .int .i64 pa, .int .i64 pi, .int .i64 pl] 44)).alloc (.cells #[.int .i64 0, .int .i64 0, .int .i64 0, .int .i64 0, .int .i64 0] 43)) = V1 at q_1 S_1 Sz_1 Sc0_1 Sc1_1 Sc2_1 Sc3_1 Sc4_1 X_1 Xz_1 Xc0_1 Xc1_1 Xc2_1 Xc3_1 R_1 Rz_1 Rc0_1 Rc1_1 Rc2_1 Rc3_1 Rc4_1 ⊢
  have nsx : w.heap.size ≠ w.heap.size + 1 := by omega
  have nsr : w.heap.size ≠ w.heap.size + 1 + 1 := by omega
  have nxr : w.heap.size + 1 ≠ w.heap.size + 1 + 1 := by omega
  have nxs := nsx.symm
  have nrs := nsr.symm
  have nrx := nxr.symm
  refine (rmay_yes d a i r k _ HS.out).mono ?_
  rintro e V2 ⟨rfl, b⟩
  have S_2 := Lib.hid ((b.block _ Sz_1).trans S_1.out)
  have Sz_2 := Nat.lt_of_lt_of_le Sz_1 b.size
  have Sc0_2 := blk_cell S_2.out 0
  have Sc1_2 := blk_cell S_2.out 1
  have Sc2_2 := blk_cell S_2.out 2
  have Sc3_2 := blk_cell S_2.out 3
  have Sc4_2 := blk_cell S_2.out 4
  have X_2 := Lib.hid ((b.block _ Xz_1).trans X_1.out)
  have Xz_2 := Nat.lt_of_lt_of_le Xz_1 b.size
  have Xc0_2 := blk_cell X_2.out 0
  have Xc1_2 := blk_cell X_2.out 1
  have Xc2_2 := blk_cell X_2.out 2
  have Xc3_2 := blk_cell X_2.out 3
  have R_2 := Lib.hid ((b.block _ Rz_1).trans R_1.out)
  have Rz_2 := Nat.lt_of_lt_of_le Rz_1 b.size
  have Rc0_2 := blk_cell R_2.out 0
  have Rc1_2 := blk_cell R_2.out 1
  have Rc2_2 := blk_cell R_2.out 2
  have Rc3_2 := blk_cell R_2.out 3
  have Rc4_2 := blk_cell R_2.out 4
  have q_2 := q_1.trans (b.mono q_1.size)
  clear S_1 Sz_1 Sc0_1 Sc1_1 Sc2_1 Sc3_1 Sc4_1 X_1 Xz_1 Xc0_1 Xc1_1 Xc2_1 Xc3_1 R_1 Rz_1 Rc0_1 Rc1_1 Rc2_1 Rc3_1 Rc4_1 q_1
  clear b
  go_wp2_with fail
  refine (wn_yes 1 1073741824 [n] _ _ _ _ _ _ rfl rfl (by simp) (by simp) HB.out).mono ?_
  rintro e w' ⟨rfl, rfl⟩
  go_wp2_with fail
  refine (wn_yes 0 1099511627776 [v, pd, pa, pi, pl] _ _ _ _ _ _ rfl rfl (by simp) (by simp) HM.out).mono ?_
  rintro e w' ⟨rfl, rfl⟩
  have fS0 := blk_free S_2.out 0
  have fS1 := blk_free S_2.out 1
  have fS2 := blk_free S_2.out 2
  have fS3 := blk_free S_2.out 3
  have fS4 := blk_free S_2.out 4
  have fR0 := blk_free R_2.out 0
  have fR1 := blk_free R_2.out 1
  have fR2 := blk_free R_2.out 2
  have fR3 := blk_free R_2.out 3
  have fR4 := blk_free R_2.out 4
  have hRR := HRR.out
  go_wp2_with fail
  clear fS0 fS1 fS2 fS3 fS4 fR0 fR1 fR2 fR3 fR4
  have Nz : Hid (min (r + 1) 1099511627776 = N) := HRR
  clear Nz
  clear Sc0_2 Sc1_2 Sc2_2 Sc3_2 Sc4_2 Xc0_2 Xc1_2 Xc2_2 Xc3_2 Rc0_2 Rc1_2 Rc2_2 Rc3_2 Rc4_2
  have st0 : Hid ((V2.setCell ⟨w.heap.size, 0, none⟩ (.int .i64 D)).heap[w.heap.size]? = some (.cells #[.int .i64 D, .int .i64 a, .int .i64 i, .int .i64 r, .int .i64 k] 43 (0, 0))) := Lib.hid (blk_set S_2.out 0 (.int .i64 D))
  have st1 : Hid (((V2.setCell ⟨w.heap.size, 0, none⟩ (.int .i64 D)).setCell ⟨w.heap.size, 1, none⟩ (.int .i64 v)).heap[w.heap.size]? = some (.cells #[.int .i64 D, .int .i64 v, .int .i64 i, .int .i64 r, .int .i64 k] 43 (0, 0))) := Lib.hid (blk_set st0.out 1 (.int .i64 v))
  have st2 : Hid ((((V2.setCell ⟨w.heap.size, 0, none⟩ (.int .i64 D)).setCell ⟨w.heap.size, 1, none⟩ (.int .i64 v)).setCell ⟨w.heap.size, 2, none⟩ (.int .i64 pl)).heap[w.heap.size]? = some (.cells #[.int .i64 D, .int .i64 v, .int .i64 pl, .int .i64 r, .int .i64 k] 43 (0, 0))) := Lib.hid (blk_set st1.out 2 (.int .i64 pl))
  have S_3 : Hid ((((V2.setCell ⟨w.heap.size, 0, none⟩ (.int .i64 D)).setCell ⟨w.heap.size, 1, none⟩ (.int .i64 v)).setCell ⟨w.heap.size, 2, none⟩ (.int .i64 pl)).heap[w.heap.size]? = some (.cells #[.int .i64 D, .int .i64 v, .int .i64 pl, .int .i64 r, .int .i64 k] 43 (0, 0))) := Lib.hid (st2.out)
  have X_3 : Hid ((((V2.setCell ⟨w.heap.size, 0, none⟩ (.int .i64 D)).setCell ⟨w.heap.size, 1, none⟩ (.int .i64 v)).setCell ⟨w.heap.size, 2, none⟩ (.int .i64 pl)).heap[w.heap.size + 1]? = some (.cells #[.int .i64 pd, .int .i64 pa, .int .i64 pi, .int .i64 pl] 44 (0, 0))) := Lib.hid ((blk_other (i := 2) (blk_other (i := 1) (blk_other (i := 0) X_2.out (by first | assumption | omega) (.int .i64 D)) (by first | assumption | omega) (.int .i64 v)) (by first | assumption | omega) (.int .i64 pl)))
  have R_3 : Hid ((((V2.setCell ⟨w.heap.size, 0, none⟩ (.int .i64 D)).setCell ⟨w.heap.size, 1, none⟩ (.int .i64 v)).setCell ⟨w.heap.size, 2, none⟩ (.int .i64 pl)).heap[w.heap.size + 1 + 1]? = some (.cells #[.int .i64 0, .int .i64 0, .int .i64 0, .int .i64 0, .int .i64 0] 43 (0, 0))) := Lib.hid ((blk_other (i := 2) (blk_other (i := 1) (blk_other (i := 0) R_2.out (by first | assumption | omega) (.int .i64 D)) (by first | assumption | omega) (.int .i64 v)) (by first | assumption | omega) (.int .i64 pl)))
  have q_3 : Below w.heap.size w (((V2.setCell ⟨w.heap.size, 0, none⟩ (.int .i64 D)).setCell ⟨w.heap.size, 1, none⟩ (.int .i64 v)).setCell ⟨w.heap.size, 2, none⟩ (.int .i64 pl)) := (((q_2.setCell (p := ⟨w.heap.size, 0, none⟩) (by first | exact Nat.le_refl _ | omega) (.int .i64 D)).setCell (p := ⟨w.heap.size, 1, none⟩) (by first | exact Nat.le_refl _ | omega) (.int .i64 v)).setCell (p := ⟨w.heap.size, 2, none⟩) (by first | exact Nat.le_refl _ | omega) (.int .i64 pl))
  clear q_2 S_2 Sz_2 X_2 Xz_2 R_2 Rz_2 st0 st1 st2
  generalize (((V2.setCell ⟨w.heap.size, 0, none⟩ (.int .i64 D)).setCell ⟨w.heap.size, 1, none⟩ (.int .i64 v)).setCell ⟨w.heap.size, 2, none⟩ (.int .i64 pl)) = Y1 at q_3 S_3 X_3 R_3 ⊢
  have Sz_3 := blk_lt S_3.out
  have Sc0_3 := blk_cell S_3.out 0
  have Sc1_3 := blk_cell S_3.out 1
  have Sc2_3 := blk_cell S_3.out 2
  have Sc3_3 := blk_cell S_3.out 3
  have Sc4_3 := blk_cell S_3.out 4
  have Xz_3 := blk_lt X_3.out
  have Xc0_3 := blk_cell X_3.out 0
  have Xc1_3 := blk_cell X_3.out 1
  have Xc2_3 := blk_cell X_3.out 2
  have Xc3_3 := blk_cell X_3.out 3
  have Rz_3 := blk_lt R_3.out
  have Rc0_3 := blk_cell R_3.out 0
  have Rc1_3 := blk_cell R_3.out 1
  have Rc2_3 := blk_cell R_3.out 2
  have Rc3_3 := blk_cell R_3.out 3
  have Rc4_3 := blk_cell R_3.out 4
  have b : Below Y1.heap.size Y1 ((Y1.alloc (.cells #[.int .i64 n] 3)).alloc (.cells #[.int .i64 v, .int .i64 pd, .int .i64 pa, .int .i64 pi, .int .i64 pl] 3)) := (((Below.refl _ Y1).alloc (Nat.le_refl _) (.cells #[.int .i64 n] 3)).alloc (by simp only [World.size_alloc]; omega) (.cells #[.int .i64 v, .int .i64 pd, .int .i64 pa, .int .i64 pi, .int .i64 pl] 3))
  have S_4 := Lib.hid ((b.block _ Sz_3).trans S_3.out)
  have Sz_4 := Nat.lt_of_lt_of_le Sz_3 b.size
  have Sc0_4 := blk_cell S_4.out 0
  have Sc1_4 := blk_cell S_4.out 1
  have Sc2_4 := blk_cell S_4.out 2
  have Sc3_4 := blk_cell S_4.out 3
  have Sc4_4 := blk_cell S_4.out 4
  have X_4 := Lib.hid ((b.block _ Xz_3).trans X_3.out)
  have Xz_4 := Nat.lt_of_lt_of_le Xz_3 b.size
  have Xc0_4 := blk_cell X_4.out 0
  have Xc1_4 := blk_cell X_4.out 1
  have Xc2_4 := blk_cell X_4.out 2
  have Xc3_4 := blk_cell X_4.out 3
  have R_4 := Lib.hid ((b.block _ Rz_3).trans R_3.out)
  have Rz_4 := Nat.lt_of_lt_of_le Rz_3 b.size
  have Rc0_4 := blk_cell R_4.out 0
  have Rc1_4 := blk_cell R_4.out 1
  have Rc2_4 := blk_cell R_4.out 2
  have Rc3_4 := blk_cell R_4.out 3
  have Rc4_4 := blk_cell R_4.out 4
  have q_4 := q_3.trans (b.mono q_3.size)
  clear S_3 Sz_3 Sc0_3 Sc1_3 Sc2_3 Sc3_3 Sc4_3 X_3 Xz_3 Xc0_3 Xc1_3 Xc2_3 Xc3_3 R_3 Rz_3 Rc0_3 Rc1_3 Rc2_3 Rc3_3 Rc4_3 q_3
  clear b
  generalize ((Y1.alloc (.cells #[.int .i64 n] 3)).alloc (.cells #[.int .i64 v, .int .i64 pd, .int .i64 pa, .int .i64 pi, .int .i64 pl] 3)) = V3 at q_4 S_4 Sz_4 Sc0_4 Sc1_4 Sc2_4 Sc3_4 Sc4_4 X_4 Xz_4 Xc0_4 Xc1_4 Xc2_4 Xc3_4 R_4 Rz_4 Rc0_4 Rc1_4 Rc2_4 Rc3_4 Rc4_4 ⊢
  have hO := HO.out
  have hT := HT.out
  go_quiet (fail)
  clear Sc0_4 Sc1_4 Sc2_4 Sc3_4 Sc4_4 Xc0_4 Xc1_4 Xc2_4 Xc3_4 Rc0_4 Rc1_4 Rc2_4 Rc3_4 Rc4_4
  have S_5 : Hid ((V3.drewN nq).heap[w.heap.size]? = some (.cells #[.int .i64 D, .int .i64 v, .int .i64 pl, .int .i64 r, .int .i64 k] 43 (0, 0))) := Lib.hid (blk_drewN S_4.out nq)
  have X_5 : Hid ((V3.drewN nq).heap[w.heap.size + 1]? = some (.cells #[.int .i64 pd, .int .i64 pa, .int .i64 pi, .int .i64 pl] 44 (0, 0))) := Lib.hid (blk_drewN X_4.out nq)
  have R_5 : Hid ((V3.drewN nq).heap[w.heap.size + 1 + 1]? = some (.cells #[.int .i64 0, .int .i64 0, .int .i64 0, .int .i64 0, .int .i64 0] 43 (0, 0))) := Lib.hid (blk_drewN R_4.out nq)
  have q_5 := below_drewN q_4 nq
  clear q_4 S_4 Sz_4 X_4 Xz_4 R_4 Rz_4
  generalize V3.drewN nq = Y2 at q_5 S_5 X_5 R_5 ⊢
  have Sz_5 := blk_lt S_5.out
  have Sc0_5 := blk_cell S_5.out 0
  have Sc1_5 := blk_cell S_5.out 1
  have Sc2_5 := blk_cell S_5.out 2
  have Sc3_5 := blk_cell S_5.out 3
  have Sc4_5 := blk_cell S_5.out 4
  have Xz_5 := blk_lt X_5.out
  have Xc0_5 := blk_cell X_5.out 0
  have Xc1_5 := blk_cell X_5.out 1
  have Xc2_5 := blk_cell X_5.out 2
  have Xc3_5 := blk_cell X_5.out 3
  have Rz_5 := blk_lt R_5.out
  have Rc0_5 := blk_cell R_5.out 0
  have Rc1_5 := blk_cell R_5.out 1
  have Rc2_5 := blk_cell R_5.out 2
  have Rc3_5 := blk_cell R_5.out 3
  have Rc4_5 := blk_cell R_5.out 4
  clear hO hT HO HT
  have fS0 := blk_free S_5.out 0
  have fS1 := blk_free S_5.out 1
  have fS2 := blk_free S_5.out 2
  have fS3 := blk_free S_5.out 3
  have fS4 := blk_free S_5.out 4
  have fR0 := blk_free R_5.out 0
  have fR1 := blk_free R_5.out 1
  have fR2 := blk_free R_5.out 2
  have fR3 := blk_free R_5.out 3
  have fR4 := blk_free R_5.out 4
  have QY := Lib.hid q_5
  clear S_5 X_5 R_5
  go_wp2
  refine bodyPost_ret (v := .tuple #[.agg #[.int .i64 D, .int .i64 v, .int .i64 pl, .int .i64 r, .int .i64 k], .int .i64 0, .bool false, .int .i64 0]) (by simp [results, Try.results17, go_sem, *]) rfl ⟨rfl, ?_⟩
  (repeat' (first | (with_reducible exact QY.out) | (with_reducible exact Below.refl _ _) | (with_reducible refine Below.alloc ?_ ?_ _) | (with_reducible refine Below.setCell ?_ ?_ _) | (with_reducible refine Below.drew ?_) | (with_reducible refine below_drewN ?_ _) | omega | (dsimp only; omega) | (simp; done) | (simp; omega)))

set_option maxRecDepth 100000 in
set_option maxHeartbeats 2000000 in
theorem deliver_nt (d a i r k pd pa pi pl n v D N O T : Int) (w : World) (hS : RV d a i r k) (hD : DV n v pd pa pi pl) (hDD : min (d + n) 1099511627776 = D) (hRR : min (r + 1) 1099511627776 = N) (hO : D - pd = O) (hT : max (pl - pi) (v - pa) = T) (hk : pd < k) (h0 : 0 < O) (h1 : T ≤ 0) :
    Calls Try.prog 17 #[.agg #[.int .i64 d, .int .i64 a, .int .i64 i, .int .i64 r, .int .i64 k], .agg #[.int .i64 pd, .int .i64 pa, .int .i64 pi, .int .i64 pl], .int .i64 n, .int .i64 v] w fun e w' => e = .returned (.tuple #[.agg #[.int .i64 D, .int .i64 v, .int .i64 pl, .int .i64 r, .int .i64 k], .int .i64 0, .bool false, .int .i64 0]) ∧ Below w.heap.size w w' := by
  have HS := Lib.hid hS
  have HB : Hid (InR 1 1073741824 [n]) := Lib.hid (inR1.2 hD.1)
  have HM : Hid (InR 0 1099511627776 [v, pd, pa, pi, pl]) := Lib.hid (inR5.2 hD.2)
  obtain ⟨⟨d0, d1⟩, ⟨a0, a1⟩, ⟨i0, i1⟩, ⟨r0, r1⟩, k0, k1⟩ := hS
  obtain ⟨⟨n0, n1⟩, ⟨v0, v1⟩, ⟨pd0, pd1⟩, ⟨pa0, pa1⟩, ⟨pi0, pi1⟩, pl0, pl1⟩ := hD
  have D0 : 0 ≤ D ∧ D ≤ 1099511627776 := by omega
  obtain ⟨D0, D1⟩ := D0
  have HO := Lib.hid hO
  have HT := Lib.hid hT
  have HDD := Lib.hid hDD
  have HRR := Lib.hid hRR
  clear hO hT hRR
  have q_0 := Below.refl w.heap.size w
  go_enter Try.func17, Try.ntmps17
  go_wp2_with fail
  have b : Below w.heap.size w (((w.alloc (.cells #[.int .i64 d, .int .i64 a, .int .i64 i, .int .i64 r, .int .i64 k] 43)).alloc (.cells #[.int .i64 pd, .int .i64 pa, .int .i64 pi, .int .i64 pl] 44)).alloc (.cells #[.int .i64 0, .int .i64 0, .int .i64 0, .int .i64 0, .int .i64 0] 43)) := ((((Below.refl _ w).alloc (Nat.le_refl _) (.cells #[.int .i64 d, .int .i64 a, .int .i64 i, .int .i64 r, .int .i64 k] 43)).alloc (by simp only [World.size_alloc]; omega) (.cells #[.int .i64 pd, .int .i64 pa, .int .i64 pi, .int .i64 pl] 44)).alloc (by simp only [World.size_alloc]; omega) (.cells #[.int .i64 0, .int .i64 0, .int .i64 0, .int .i64 0, .int .i64 0] 43))
  have nb0 := blk_new w (.cells #[.int .i64 d, .int .i64 a, .int .i64 i, .int .i64 r, .int .i64 k] 43)
  have nb0 := (Below.heap_alloc (w.alloc (.cells #[.int .i64 d, .int .i64 a, .int .i64 i, .int .i64 r, .int .i64 k] 43)) (.cells #[.int .i64 pd, .int .i64 pa, .int .i64 pi, .int .i64 pl] 44) (w.heap.size) (by simp only [World.size_alloc]; omega)).trans nb0
  have nb0 := (Below.heap_alloc ((w.alloc (.cells #[.int .i64 d, .int .i64 a, .int .i64 i, .int .i64 r, .int .i64 k] 43)).alloc (.cells #[.int .i64 pd, .int .i64 pa, .int .i64 pi, .int .i64 pl] 44)) (.cells #[.int .i64 0, .int .i64 0, .int .i64 0, .int .i64 0, .int .i64 0] 43) (w.heap.size) (by simp only [World.size_alloc]; omega)).trans nb0
  have nz0 : w.heap.size < (((w.alloc (.cells #[.int .i64 d, .int .i64 a, .int .i64 i, .int .i64 r, .int .i64 k] 43)).alloc (.cells #[.int .i64 pd, .int .i64 pa, .int .i64 pi, .int .i64 pl] 44)).alloc (.cells #[.int .i64 0, .int .i64 0, .int .i64 0, .int .i64 0, .int .i64 0] 43)).heap.size := by simp only [World.size_alloc]; omega
  have nb1 := blk_new (w.alloc (.cells #[.int .i64 d, .int .i64 a, .int .i64 i, .int .i64 r, .int .i64 k] 43)) (.cells #[.int .i64 pd, .int .i64 pa, .int .i64 pi, .int .i64 pl] 44)
  simp only [World.size_alloc] at nb1
  have nb1 := (Below.heap_alloc ((w.alloc (.cells #[.int .i64 d, .int .i64 a, .int .i64 i, .int .i64 r, .int .i64 k] 43)).alloc (.cells #[.int .i64 pd, .int .i64 pa, .int .i64 pi, .int .i64 pl] 44)) (.cells #[.int .i64 0, .int .i64 0, .int .i64 0, .int .i64 0, .int .i64 0] 43) (w.heap.size + 1) (by simp only [World.size_alloc]; omega)).trans nb1
  have nz1 : w.heap.size + 1 < (((w.alloc (.cells #[.int .i64 d, .int .i64 a, .int .i64 i, .int .i64 r, .int .i64 k] 43)).alloc (.cells #[.int .i64 pd, .int .i64 pa, .int .i64 pi, .int .i64 pl] 44)).alloc (.cells #[.int .i64 0, .int .i64 0, .int .i64 0, .int .i64 0, .int .i64 0] 43)).heap.size := by simp only [World.size_alloc]; omega
  have nb2 := blk_new ((w.alloc (.cells #[.int .i64 d, .int .i64 a, .int .i64 i, .int .i64 r, .int .i64 k] 43)).alloc (.cells #[.int .i64 pd, .int .i64 pa, .int .i64 pi, .int .i64 pl] 44)) (.cells #[.int .i64 0, .int .i64 0, .int .i64 0, .int .i64 0, .int .i64 0] 43)
  simp only [World.size_alloc] at nb2
  have nz2 : w.heap.size + 2 < (((w.alloc (.cells #[.int .i64 d, .int .i64 a, .int .i64 i, .int .i64 r, .int .i64 k] 43)).alloc (.cells #[.int .i64 pd, .int .i64 pa, .int .i64 pi, .int .i64 pl] 44)).alloc (.cells #[.int .i64 0, .int .i64 0, .int .i64 0, .int .i64 0, .int .i64 0] 43)).heap.size := by simp only [World.size_alloc]; omega
  have q_1 := q_0.trans (b.mono q_0.size)
  clear q_0
  clear b
  have S_1 := Lib.hid nb0
  have Sz_1 := nz0
  clear nb0 nz0
  have Sc0_1 := blk_cell S_1.out 0
  have Sc1_1 := blk_cell S_1.out 1
  have Sc2_1 := blk_cell S_1.out 2
  have Sc3_1 := blk_cell S_1.out 3
  have Sc4_1 := blk_cell S_1.out 4
  have X_1 := Lib.hid nb1
  have Xz_1 := nz1
  clear nb1 nz1
  have Xc0_1 := blk_cell X_1.out 0
  have Xc1_1 := blk_cell X_1.out 1
  have Xc2_1 := blk_cell X_1.out 2
  have Xc3_1 := blk_cell X_1.out 3
  have R_1 := Lib.hid nb2
  have Rz_1 := nz2
  clear nb2 nz2
  have Rc0_1 := blk_cell R_1.out 0
  have Rc1_1 := blk_cell R_1.out 1
  have Rc2_1 := blk_cell R_1.out 2
  have Rc3_1 := blk_cell R_1.out 3
  have Rc4_1 := blk_cell R_1.out 4
  generalize (((w.alloc (.cells #[.int .i64 d, .int .i64 a, .int .i64 i, .int .i64 r, .int .i64 k] 43)).alloc (.cells #[.int .i64 pd, .int .i64 pa, .int .i64 pi, .int .i64 pl] 44)).alloc (.cells #[.int .i64 0, .int .i64 0, .int .i64 0, .int .i64 0, .int .i64 0] 43)) = V1 at q_1 S_1 Sz_1 Sc0_1 Sc1_1 Sc2_1 Sc3_1 Sc4_1 X_1 Xz_1 Xc0_1 Xc1_1 Xc2_1 Xc3_1 R_1 Rz_1 Rc0_1 Rc1_1 Rc2_1 Rc3_1 Rc4_1 ⊢
  have nsx : w.heap.size ≠ w.heap.size + 1 := by omega
  have nsr : w.heap.size ≠ w.heap.size + 1 + 1 := by omega
  have nxr : w.heap.size + 1 ≠ w.heap.size + 1 + 1 := by omega
  have nxs := nsx.symm
  have nrs := nsr.symm
  have nrx := nxr.symm
  refine (rmay_yes d a i r k _ HS.out).mono ?_
  rintro e V2 ⟨rfl, b⟩
  have S_2 := Lib.hid ((b.block _ Sz_1).trans S_1.out)
  have Sz_2 := Nat.lt_of_lt_of_le Sz_1 b.size
  have Sc0_2 := blk_cell S_2.out 0
  have Sc1_2 := blk_cell S_2.out 1
  have Sc2_2 := blk_cell S_2.out 2
  have Sc3_2 := blk_cell S_2.out 3
  have Sc4_2 := blk_cell S_2.out 4
  have X_2 := Lib.hid ((b.block _ Xz_1).trans X_1.out)
  have Xz_2 := Nat.lt_of_lt_of_le Xz_1 b.size
  have Xc0_2 := blk_cell X_2.out 0
  have Xc1_2 := blk_cell X_2.out 1
  have Xc2_2 := blk_cell X_2.out 2
  have Xc3_2 := blk_cell X_2.out 3
  have R_2 := Lib.hid ((b.block _ Rz_1).trans R_1.out)
  have Rz_2 := Nat.lt_of_lt_of_le Rz_1 b.size
  have Rc0_2 := blk_cell R_2.out 0
  have Rc1_2 := blk_cell R_2.out 1
  have Rc2_2 := blk_cell R_2.out 2
  have Rc3_2 := blk_cell R_2.out 3
  have Rc4_2 := blk_cell R_2.out 4
  have q_2 := q_1.trans (b.mono q_1.size)
  clear S_1 Sz_1 Sc0_1 Sc1_1 Sc2_1 Sc3_1 Sc4_1 X_1 Xz_1 Xc0_1 Xc1_1 Xc2_1 Xc3_1 R_1 Rz_1 Rc0_1 Rc1_1 Rc2_1 Rc3_1 Rc4_1 q_1
  clear b
  go_wp2_with fail
  refine (wn_yes 1 1073741824 [n] _ _ _ _ _ _ rfl rfl (by simp) (by simp) HB.out).mono ?_
  rintro e w' ⟨rfl, rfl⟩
  go_wp2_with fail
  refine (wn_yes 0 1099511627776 [v, pd, pa, pi, pl] _ _ _ _ _ _ rfl rfl (by simp) (by simp) HM.out).mono ?_
  rintro e w' ⟨rfl, rfl⟩
  have fS0 := blk_free S_2.out 0
  have fS1 := blk_free S_2.out 1
  have fS2 := blk_free S_2.out 2
  have fS3 := blk_free S_2.out 3
  have fS4 := blk_free S_2.out 4
  have fR0 := blk_free R_2.out 0
  have fR1 := blk_free R_2.out 1
  have fR2 := blk_free R_2.out 2
  have fR3 := blk_free R_2.out 3
  have fR4 := blk_free R_2.out 4
  have hRR := HRR.out
  go_wp2_with fail
  clear fS0 fS1 fS2 fS3 fS4 fR0 fR1 fR2 fR3 fR4
  have Nz : Hid (min (r + 1) 1099511627776 = N) := HRR
  clear Nz
  clear Sc0_2 Sc1_2 Sc2_2 Sc3_2 Sc4_2 Xc0_2 Xc1_2 Xc2_2 Xc3_2 Rc0_2 Rc1_2 Rc2_2 Rc3_2 Rc4_2
  have st0 : Hid ((V2.setCell ⟨w.heap.size, 0, none⟩ (.int .i64 D)).heap[w.heap.size]? = some (.cells #[.int .i64 D, .int .i64 a, .int .i64 i, .int .i64 r, .int .i64 k] 43 (0, 0))) := Lib.hid (blk_set S_2.out 0 (.int .i64 D))
  have st1 : Hid (((V2.setCell ⟨w.heap.size, 0, none⟩ (.int .i64 D)).setCell ⟨w.heap.size, 1, none⟩ (.int .i64 v)).heap[w.heap.size]? = some (.cells #[.int .i64 D, .int .i64 v, .int .i64 i, .int .i64 r, .int .i64 k] 43 (0, 0))) := Lib.hid (blk_set st0.out 1 (.int .i64 v))
  have st2 : Hid ((((V2.setCell ⟨w.heap.size, 0, none⟩ (.int .i64 D)).setCell ⟨w.heap.size, 1, none⟩ (.int .i64 v)).setCell ⟨w.heap.size, 2, none⟩ (.int .i64 pl)).heap[w.heap.size]? = some (.cells #[.int .i64 D, .int .i64 v, .int .i64 pl, .int .i64 r, .int .i64 k] 43 (0, 0))) := Lib.hid (blk_set st1.out 2 (.int .i64 pl))
  have S_3 : Hid ((((V2.setCell ⟨w.heap.size, 0, none⟩ (.int .i64 D)).setCell ⟨w.heap.size, 1, none⟩ (.int .i64 v)).setCell ⟨w.heap.size, 2, none⟩ (.int .i64 pl)).heap[w.heap.size]? = some (.cells #[.int .i64 D, .int .i64 v, .int .i64 pl, .int .i64 r, .int .i64 k] 43 (0, 0))) := Lib.hid (st2.out)
  have X_3 : Hid ((((V2.setCell ⟨w.heap.size, 0, none⟩ (.int .i64 D)).setCell ⟨w.heap.size, 1, none⟩ (.int .i64 v)).setCell ⟨w.heap.size, 2, none⟩ (.int .i64 pl)).heap[w.heap.size + 1]? = some (.cells #[.int .i64 pd, .int .i64 pa, .int .i64 pi, .int .i64 pl] 44 (0, 0))) := Lib.hid ((blk_other (i := 2) (blk_other (i := 1) (blk_other (i := 0) X_2.out (by first | assumption | omega) (.int .i64 D)) (by first | assumption | omega) (.int .i64 v)) (by first | assumption | omega) (.int .i64 pl)))
  have R_3 : Hid ((((V2.setCell ⟨w.heap.size, 0, none⟩ (.int .i64 D)).setCell ⟨w.heap.size, 1, none⟩ (.int .i64 v)).setCell ⟨w.heap.size, 2, none⟩ (.int .i64 pl)).heap[w.heap.size + 1 + 1]? = some (.cells #[.int .i64 0, .int .i64 0, .int .i64 0, .int .i64 0, .int .i64 0] 43 (0, 0))) := Lib.hid ((blk_other (i := 2) (blk_other (i := 1) (blk_other (i := 0) R_2.out (by first | assumption | omega) (.int .i64 D)) (by first | assumption | omega) (.int .i64 v)) (by first | assumption | omega) (.int .i64 pl)))
  have q_3 : Below w.heap.size w (((V2.setCell ⟨w.heap.size, 0, none⟩ (.int .i64 D)).setCell ⟨w.heap.size, 1, none⟩ (.int .i64 v)).setCell ⟨w.heap.size, 2, none⟩ (.int .i64 pl)) := (((q_2.setCell (p := ⟨w.heap.size, 0, none⟩) (by first | exact Nat.le_refl _ | omega) (.int .i64 D)).setCell (p := ⟨w.heap.size, 1, none⟩) (by first | exact Nat.le_refl _ | omega) (.int .i64 v)).setCell (p := ⟨w.heap.size, 2, none⟩) (by first | exact Nat.le_refl _ | omega) (.int .i64 pl))
  clear q_2 S_2 Sz_2 X_2 Xz_2 R_2 Rz_2 st0 st1 st2
  generalize (((V2.setCell ⟨w.heap.size, 0, none⟩ (.int .i64 D)).setCell ⟨w.heap.size, 1, none⟩ (.int .i64 v)).setCell ⟨w.heap.size, 2, none⟩ (.int .i64 pl)) = Y1 at q_3 S_3 X_3 R_3 ⊢
  have Sz_3 := blk_lt S_3.out
  have Sc0_3 := blk_cell S_3.out 0
  have Sc1_3 := blk_cell S_3.out 1
  have Sc2_3 := blk_cell S_3.out 2
  have Sc3_3 := blk_cell S_3.out 3
  have Sc4_3 := blk_cell S_3.out 4
  have Xz_3 := blk_lt X_3.out
  have Xc0_3 := blk_cell X_3.out 0
  have Xc1_3 := blk_cell X_3.out 1
  have Xc2_3 := blk_cell X_3.out 2
  have Xc3_3 := blk_cell X_3.out 3
  have Rz_3 := blk_lt R_3.out
  have Rc0_3 := blk_cell R_3.out 0
  have Rc1_3 := blk_cell R_3.out 1
  have Rc2_3 := blk_cell R_3.out 2
  have Rc3_3 := blk_cell R_3.out 3
  have Rc4_3 := blk_cell R_3.out 4
  have b : Below Y1.heap.size Y1 ((Y1.alloc (.cells #[.int .i64 n] 3)).alloc (.cells #[.int .i64 v, .int .i64 pd, .int .i64 pa, .int .i64 pi, .int .i64 pl] 3)) := (((Below.refl _ Y1).alloc (Nat.le_refl _) (.cells #[.int .i64 n] 3)).alloc (by simp only [World.size_alloc]; omega) (.cells #[.int .i64 v, .int .i64 pd, .int .i64 pa, .int .i64 pi, .int .i64 pl] 3))
  have S_4 := Lib.hid ((b.block _ Sz_3).trans S_3.out)
  have Sz_4 := Nat.lt_of_lt_of_le Sz_3 b.size
  have Sc0_4 := blk_cell S_4.out 0
  have Sc1_4 := blk_cell S_4.out 1
  have Sc2_4 := blk_cell S_4.out 2
  have Sc3_4 := blk_cell S_4.out 3
  have Sc4_4 := blk_cell S_4.out 4
  have X_4 := Lib.hid ((b.block _ Xz_3).trans X_3.out)
  have Xz_4 := Nat.lt_of_lt_of_le Xz_3 b.size
  have Xc0_4 := blk_cell X_4.out 0
  have Xc1_4 := blk_cell X_4.out 1
  have Xc2_4 := blk_cell X_4.out 2
  have Xc3_4 := blk_cell X_4.out 3
  have R_4 := Lib.hid ((b.block _ Rz_3).trans R_3.out)
  have Rz_4 := Nat.lt_of_lt_of_le Rz_3 b.size
  have Rc0_4 := blk_cell R_4.out 0
  have Rc1_4 := blk_cell R_4.out 1
  have Rc2_4 := blk_cell R_4.out 2
  have Rc3_4 := blk_cell R_4.out 3
  have Rc4_4 := blk_cell R_4.out 4
  have q_4 := q_3.trans (b.mono q_3.size)
  clear S_3 Sz_3 Sc0_3 Sc1_3 Sc2_3 Sc3_3 Sc4_3 X_3 Xz_3 Xc0_3 Xc1_3 Xc2_3 Xc3_3 R_3 Rz_3 Rc0_3 Rc1_3 Rc2_3 Rc3_3 Rc4_3 q_3
  clear b
  generalize ((Y1.alloc (.cells #[.int .i64 n] 3)).alloc (.cells #[.int .i64 v, .int .i64 pd, .int .i64 pa, .int .i64 pi, .int .i64 pl] 3)) = V3 at q_4 S_4 Sz_4 Sc0_4 Sc1_4 Sc2_4 Sc3_4 Sc4_4 X_4 Xz_4 Xc0_4 Xc1_4 Xc2_4 Xc3_4 R_4 Rz_4 Rc0_4 Rc1_4 Rc2_4 Rc3_4 Rc4_4 ⊢
  have hO := HO.out
  have hT := HT.out
  go_quiet (fail)
  clear Sc0_4 Sc1_4 Sc2_4 Sc3_4 Sc4_4 Xc0_4 Xc1_4 Xc2_4 Xc3_4 Rc0_4 Rc1_4 Rc2_4 Rc3_4 Rc4_4
  have S_5 : Hid ((V3.drewN nq).heap[w.heap.size]? = some (.cells #[.int .i64 D, .int .i64 v, .int .i64 pl, .int .i64 r, .int .i64 k] 43 (0, 0))) := Lib.hid (blk_drewN S_4.out nq)
  have X_5 : Hid ((V3.drewN nq).heap[w.heap.size + 1]? = some (.cells #[.int .i64 pd, .int .i64 pa, .int .i64 pi, .int .i64 pl] 44 (0, 0))) := Lib.hid (blk_drewN X_4.out nq)
  have R_5 : Hid ((V3.drewN nq).heap[w.heap.size + 1 + 1]? = some (.cells #[.int .i64 0, .int .i64 0, .int .i64 0, .int .i64 0, .int .i64 0] 43 (0, 0))) := Lib.hid (blk_drewN R_4.out nq)
  have q_5 := below_drewN q_4 nq
  clear q_4 S_4 Sz_4 X_4 Xz_4 R_4 Rz_4
  generalize V3.drewN nq = Y2 at q_5 S_5 X_5 R_5 ⊢
  have Sz_5 := blk_lt S_5.out
  have Sc0_5 := blk_cell S_5.out 0
  have Sc1_5 := blk_cell S_5.out 1
  have Sc2_5 := blk_cell S_5.out 2
  have Sc3_5 := blk_cell S_5.out 3
  have Sc4_5 := blk_cell S_5.out 4
  have Xz_5 := blk_lt X_5.out
  have Xc0_5 := blk_cell X_5.out 0
  have Xc1_5 := blk_cell X_5.out 1
  have Xc2_5 := blk_cell X_5.out 2
  have Xc3_5 := blk_cell X_5.out 3
  have Rz_5 := blk_lt R_5.out
  have Rc0_5 := blk_cell R_5.out 0
  have Rc1_5 := blk_cell R_5.out 1
  have Rc2_5 := blk_cell R_5.out 2
  have Rc3_5 := blk_cell R_5.out 3
  have Rc4_5 := blk_cell R_5.out 4
  clear hO hT HO HT
  have fS0 := blk_free S_5.out 0
  have fS1 := blk_free S_5.out 1
  have fS2 := blk_free S_5.out 2
  have fS3 := blk_free S_5.out 3
  have fS4 := blk_free S_5.out 4
  have fR0 := blk_free R_5.out 0
  have fR1 := blk_free R_5.out 1
  have fR2 := blk_free R_5.out 2
  have fR3 := blk_free R_5.out 3
  have fR4 := blk_free R_5.out 4
  have QY := Lib.hid q_5
  clear S_5 X_5 R_5
  go_wp2
  refine bodyPost_ret (v := .tuple #[.agg #[.int .i64 D, .int .i64 v, .int .i64 pl, .int .i64 r, .int .i64 k], .int .i64 0, .bool false, .int .i64 0]) (by simp [results, Try.results17, go_sem, *]) rfl ⟨rfl, ?_⟩
  (repeat' (first | (with_reducible exact QY.out) | (with_reducible exact Below.refl _ _) | (with_reducible refine Below.alloc ?_ ?_ _) | (with_reducible refine Below.setCell ?_ ?_ _) | (with_reducible refine Below.drew ?_) | (with_reducible refine below_drewN ?_ _) | omega | (dsimp only; omega) | (simp; done) | (simp; omega)))

set_option maxRecDepth 100000 in
set_option maxHeartbeats 2000000 in
theorem deliver_nr (d a i r k pd pa pi pl n v D N O T Q : Int) (w : World) (hS : RV d a i r k) (hD : DV n v pd pa pi pl) (hDD : min (d + n) 1099511627776 = D) (hRR : min (r + 1) 1099511627776 = N) (hO : D - pd = O) (hT : max (pl - pi) (v - pa) = T) (hk : pd < k) (h0 : 0 < O) (h1 : 0 < T) (hQ : min (O * 1024 / T) 1073741824 = Q) :
    Calls Try.prog 17 #[.agg #[.int .i64 d, .int .i64 a, .int .i64 i, .int .i64 r, .int .i64 k], .agg #[.int .i64 pd, .int .i64 pa, .int .i64 pi, .int .i64 pl], .int .i64 n, .int .i64 v] w fun e w' => e = .returned (.tuple #[.agg #[.int .i64 D, .int .i64 v, .int .i64 pl, .int .i64 r, .int .i64 k], .int .i64 Q, .bool true, .int .i64 0]) ∧ Below w.heap.size w w' := by
  have HS := Lib.hid hS
  have HB : Hid (InR 1 1073741824 [n]) := Lib.hid (inR1.2 hD.1)
  have HM : Hid (InR 0 1099511627776 [v, pd, pa, pi, pl]) := Lib.hid (inR5.2 hD.2)
  obtain ⟨⟨d0, d1⟩, ⟨a0, a1⟩, ⟨i0, i1⟩, ⟨r0, r1⟩, k0, k1⟩ := hS
  obtain ⟨⟨n0, n1⟩, ⟨v0, v1⟩, ⟨pd0, pd1⟩, ⟨pa0, pa1⟩, ⟨pi0, pi1⟩, pl0, pl1⟩ := hD
  have D0 : 0 ≤ D ∧ D ≤ 1099511627776 := by omega
  obtain ⟨D0, D1⟩ := D0
  have HO := Lib.hid hO
  have HT := Lib.hid hT
  have HDD := Lib.hid hDD
  have HRR := Lib.hid hRR
  clear hO hT hRR
  have q_0 := Below.refl w.heap.size w
  go_enter Try.func17, Try.ntmps17
  go_wp2_with fail
  have b : Below w.heap.size w (((w.alloc (.cells #[.int .i64 d, .int .i64 a, .int .i64 i, .int .i64 r, .int .i64 k] 43)).alloc (.cells #[.int .i64 pd, .int .i64 pa, .int .i64 pi, .int .i64 pl] 44)).alloc (.cells #[.int .i64 0, .int .i64 0, .int .i64 0, .int .i64 0, .int .i64 0] 43)) := ((((Below.refl _ w).alloc (Nat.le_refl _) (.cells #[.int .i64 d, .int .i64 a, .int .i64 i, .int .i64 r, .int .i64 k] 43)).alloc (by simp only [World.size_alloc]; omega) (.cells #[.int .i64 pd, .int .i64 pa, .int .i64 pi, .int .i64 pl] 44)).alloc (by simp only [World.size_alloc]; omega) (.cells #[.int .i64 0, .int .i64 0, .int .i64 0, .int .i64 0, .int .i64 0] 43))
  have nb0 := blk_new w (.cells #[.int .i64 d, .int .i64 a, .int .i64 i, .int .i64 r, .int .i64 k] 43)
  have nb0 := (Below.heap_alloc (w.alloc (.cells #[.int .i64 d, .int .i64 a, .int .i64 i, .int .i64 r, .int .i64 k] 43)) (.cells #[.int .i64 pd, .int .i64 pa, .int .i64 pi, .int .i64 pl] 44) (w.heap.size) (by simp only [World.size_alloc]; omega)).trans nb0
  have nb0 := (Below.heap_alloc ((w.alloc (.cells #[.int .i64 d, .int .i64 a, .int .i64 i, .int .i64 r, .int .i64 k] 43)).alloc (.cells #[.int .i64 pd, .int .i64 pa, .int .i64 pi, .int .i64 pl] 44)) (.cells #[.int .i64 0, .int .i64 0, .int .i64 0, .int .i64 0, .int .i64 0] 43) (w.heap.size) (by simp only [World.size_alloc]; omega)).trans nb0
  have nz0 : w.heap.size < (((w.alloc (.cells #[.int .i64 d, .int .i64 a, .int .i64 i, .int .i64 r, .int .i64 k] 43)).alloc (.cells #[.int .i64 pd, .int .i64 pa, .int .i64 pi, .int .i64 pl] 44)).alloc (.cells #[.int .i64 0, .int .i64 0, .int .i64 0, .int .i64 0, .int .i64 0] 43)).heap.size := by simp only [World.size_alloc]; omega
  have nb1 := blk_new (w.alloc (.cells #[.int .i64 d, .int .i64 a, .int .i64 i, .int .i64 r, .int .i64 k] 43)) (.cells #[.int .i64 pd, .int .i64 pa, .int .i64 pi, .int .i64 pl] 44)
  simp only [World.size_alloc] at nb1
  have nb1 := (Below.heap_alloc ((w.alloc (.cells #[.int .i64 d, .int .i64 a, .int .i64 i, .int .i64 r, .int .i64 k] 43)).alloc (.cells #[.int .i64 pd, .int .i64 pa, .int .i64 pi, .int .i64 pl] 44)) (.cells #[.int .i64 0, .int .i64 0, .int .i64 0, .int .i64 0, .int .i64 0] 43) (w.heap.size + 1) (by simp only [World.size_alloc]; omega)).trans nb1
  have nz1 : w.heap.size + 1 < (((w.alloc (.cells #[.int .i64 d, .int .i64 a, .int .i64 i, .int .i64 r, .int .i64 k] 43)).alloc (.cells #[.int .i64 pd, .int .i64 pa, .int .i64 pi, .int .i64 pl] 44)).alloc (.cells #[.int .i64 0, .int .i64 0, .int .i64 0, .int .i64 0, .int .i64 0] 43)).heap.size := by simp only [World.size_alloc]; omega
  have nb2 := blk_new ((w.alloc (.cells #[.int .i64 d, .int .i64 a, .int .i64 i, .int .i64 r, .int .i64 k] 43)).alloc (.cells #[.int .i64 pd, .int .i64 pa, .int .i64 pi, .int .i64 pl] 44)) (.cells #[.int .i64 0, .int .i64 0, .int .i64 0, .int .i64 0, .int .i64 0] 43)
  simp only [World.size_alloc] at nb2
  have nz2 : w.heap.size + 2 < (((w.alloc (.cells #[.int .i64 d, .int .i64 a, .int .i64 i, .int .i64 r, .int .i64 k] 43)).alloc (.cells #[.int .i64 pd, .int .i64 pa, .int .i64 pi, .int .i64 pl] 44)).alloc (.cells #[.int .i64 0, .int .i64 0, .int .i64 0, .int .i64 0, .int .i64 0] 43)).heap.size := by simp only [World.size_alloc]; omega
  have q_1 := q_0.trans (b.mono q_0.size)
  clear q_0
  clear b
  have S_1 := Lib.hid nb0
  have Sz_1 := nz0
  clear nb0 nz0
  have Sc0_1 := blk_cell S_1.out 0
  have Sc1_1 := blk_cell S_1.out 1
  have Sc2_1 := blk_cell S_1.out 2
  have Sc3_1 := blk_cell S_1.out 3
  have Sc4_1 := blk_cell S_1.out 4
  have X_1 := Lib.hid nb1
  have Xz_1 := nz1
  clear nb1 nz1
  have Xc0_1 := blk_cell X_1.out 0
  have Xc1_1 := blk_cell X_1.out 1
  have Xc2_1 := blk_cell X_1.out 2
  have Xc3_1 := blk_cell X_1.out 3
  have R_1 := Lib.hid nb2
  have Rz_1 := nz2
  clear nb2 nz2
  have Rc0_1 := blk_cell R_1.out 0
  have Rc1_1 := blk_cell R_1.out 1
  have Rc2_1 := blk_cell R_1.out 2
  have Rc3_1 := blk_cell R_1.out 3
  have Rc4_1 := blk_cell R_1.out 4
  generalize (((w.alloc (.cells #[.int .i64 d, .int .i64 a, .int .i64 i, .int .i64 r, .int .i64 k] 43)).alloc (.cells #[.int .i64 pd, .int .i64 pa, .int .i64 pi, .int .i64 pl] 44)).alloc (.cells #[.int .i64 0, .int .i64 0, .int .i64 0, .int .i64 0, .int .i64 0] 43)) = V1 at q_1 S_1 Sz_1 Sc0_1 Sc1_1 Sc2_1 Sc3_1 Sc4_1 X_1 Xz_1 Xc0_1 Xc1_1 Xc2_1 Xc3_1 R_1 Rz_1 Rc0_1 Rc1_1 Rc2_1 Rc3_1 Rc4_1 ⊢
  have nsx : w.heap.size ≠ w.heap.size + 1 := by omega
  have nsr : w.heap.size ≠ w.heap.size + 1 + 1 := by omega
  have nxr : w.heap.size + 1 ≠ w.heap.size + 1 + 1 := by omega
  have nxs := nsx.symm
  have nrs := nsr.symm
  have nrx := nxr.symm
  refine (rmay_yes d a i r k _ HS.out).mono ?_
  rintro e V2 ⟨rfl, b⟩
  have S_2 := Lib.hid ((b.block _ Sz_1).trans S_1.out)
  have Sz_2 := Nat.lt_of_lt_of_le Sz_1 b.size
  have Sc0_2 := blk_cell S_2.out 0
  have Sc1_2 := blk_cell S_2.out 1
  have Sc2_2 := blk_cell S_2.out 2
  have Sc3_2 := blk_cell S_2.out 3
  have Sc4_2 := blk_cell S_2.out 4
  have X_2 := Lib.hid ((b.block _ Xz_1).trans X_1.out)
  have Xz_2 := Nat.lt_of_lt_of_le Xz_1 b.size
  have Xc0_2 := blk_cell X_2.out 0
  have Xc1_2 := blk_cell X_2.out 1
  have Xc2_2 := blk_cell X_2.out 2
  have Xc3_2 := blk_cell X_2.out 3
  have R_2 := Lib.hid ((b.block _ Rz_1).trans R_1.out)
  have Rz_2 := Nat.lt_of_lt_of_le Rz_1 b.size
  have Rc0_2 := blk_cell R_2.out 0
  have Rc1_2 := blk_cell R_2.out 1
  have Rc2_2 := blk_cell R_2.out 2
  have Rc3_2 := blk_cell R_2.out 3
  have Rc4_2 := blk_cell R_2.out 4
  have q_2 := q_1.trans (b.mono q_1.size)
  clear S_1 Sz_1 Sc0_1 Sc1_1 Sc2_1 Sc3_1 Sc4_1 X_1 Xz_1 Xc0_1 Xc1_1 Xc2_1 Xc3_1 R_1 Rz_1 Rc0_1 Rc1_1 Rc2_1 Rc3_1 Rc4_1 q_1
  clear b
  go_wp2_with fail
  refine (wn_yes 1 1073741824 [n] _ _ _ _ _ _ rfl rfl (by simp) (by simp) HB.out).mono ?_
  rintro e w' ⟨rfl, rfl⟩
  go_wp2_with fail
  refine (wn_yes 0 1099511627776 [v, pd, pa, pi, pl] _ _ _ _ _ _ rfl rfl (by simp) (by simp) HM.out).mono ?_
  rintro e w' ⟨rfl, rfl⟩
  have fS0 := blk_free S_2.out 0
  have fS1 := blk_free S_2.out 1
  have fS2 := blk_free S_2.out 2
  have fS3 := blk_free S_2.out 3
  have fS4 := blk_free S_2.out 4
  have fR0 := blk_free R_2.out 0
  have fR1 := blk_free R_2.out 1
  have fR2 := blk_free R_2.out 2
  have fR3 := blk_free R_2.out 3
  have fR4 := blk_free R_2.out 4
  have hRR := HRR.out
  go_wp2_with fail
  clear fS0 fS1 fS2 fS3 fS4 fR0 fR1 fR2 fR3 fR4
  have Nz : Hid (min (r + 1) 1099511627776 = N) := HRR
  clear Nz
  clear Sc0_2 Sc1_2 Sc2_2 Sc3_2 Sc4_2 Xc0_2 Xc1_2 Xc2_2 Xc3_2 Rc0_2 Rc1_2 Rc2_2 Rc3_2 Rc4_2
  have st0 : Hid ((V2.setCell ⟨w.heap.size, 0, none⟩ (.int .i64 D)).heap[w.heap.size]? = some (.cells #[.int .i64 D, .int .i64 a, .int .i64 i, .int .i64 r, .int .i64 k] 43 (0, 0))) := Lib.hid (blk_set S_2.out 0 (.int .i64 D))
  have st1 : Hid (((V2.setCell ⟨w.heap.size, 0, none⟩ (.int .i64 D)).setCell ⟨w.heap.size, 1, none⟩ (.int .i64 v)).heap[w.heap.size]? = some (.cells #[.int .i64 D, .int .i64 v, .int .i64 i, .int .i64 r, .int .i64 k] 43 (0, 0))) := Lib.hid (blk_set st0.out 1 (.int .i64 v))
  have st2 : Hid ((((V2.setCell ⟨w.heap.size, 0, none⟩ (.int .i64 D)).setCell ⟨w.heap.size, 1, none⟩ (.int .i64 v)).setCell ⟨w.heap.size, 2, none⟩ (.int .i64 pl)).heap[w.heap.size]? = some (.cells #[.int .i64 D, .int .i64 v, .int .i64 pl, .int .i64 r, .int .i64 k] 43 (0, 0))) := Lib.hid (blk_set st1.out 2 (.int .i64 pl))
  have S_3 : Hid ((((V2.setCell ⟨w.heap.size, 0, none⟩ (.int .i64 D)).setCell ⟨w.heap.size, 1, none⟩ (.int .i64 v)).setCell ⟨w.heap.size, 2, none⟩ (.int .i64 pl)).heap[w.heap.size]? = some (.cells #[.int .i64 D, .int .i64 v, .int .i64 pl, .int .i64 r, .int .i64 k] 43 (0, 0))) := Lib.hid (st2.out)
  have X_3 : Hid ((((V2.setCell ⟨w.heap.size, 0, none⟩ (.int .i64 D)).setCell ⟨w.heap.size, 1, none⟩ (.int .i64 v)).setCell ⟨w.heap.size, 2, none⟩ (.int .i64 pl)).heap[w.heap.size + 1]? = some (.cells #[.int .i64 pd, .int .i64 pa, .int .i64 pi, .int .i64 pl] 44 (0, 0))) := Lib.hid ((blk_other (i := 2) (blk_other (i := 1) (blk_other (i := 0) X_2.out (by first | assumption | omega) (.int .i64 D)) (by first | assumption | omega) (.int .i64 v)) (by first | assumption | omega) (.int .i64 pl)))
  have R_3 : Hid ((((V2.setCell ⟨w.heap.size, 0, none⟩ (.int .i64 D)).setCell ⟨w.heap.size, 1, none⟩ (.int .i64 v)).setCell ⟨w.heap.size, 2, none⟩ (.int .i64 pl)).heap[w.heap.size + 1 + 1]? = some (.cells #[.int .i64 0, .int .i64 0, .int .i64 0, .int .i64 0, .int .i64 0] 43 (0, 0))) := Lib.hid ((blk_other (i := 2) (blk_other (i := 1) (blk_other (i := 0) R_2.out (by first | assumption | omega) (.int .i64 D)) (by first | assumption | omega) (.int .i64 v)) (by first | assumption | omega) (.int .i64 pl)))
  have q_3 : Below w.heap.size w (((V2.setCell ⟨w.heap.size, 0, none⟩ (.int .i64 D)).setCell ⟨w.heap.size, 1, none⟩ (.int .i64 v)).setCell ⟨w.heap.size, 2, none⟩ (.int .i64 pl)) := (((q_2.setCell (p := ⟨w.heap.size, 0, none⟩) (by first | exact Nat.le_refl _ | omega) (.int .i64 D)).setCell (p := ⟨w.heap.size, 1, none⟩) (by first | exact Nat.le_refl _ | omega) (.int .i64 v)).setCell (p := ⟨w.heap.size, 2, none⟩) (by first | exact Nat.le_refl _ | omega) (.int .i64 pl))
  clear q_2 S_2 Sz_2 X_2 Xz_2 R_2 Rz_2 st0 st1 st2
  generalize (((V2.setCell ⟨w.heap.size, 0, none⟩ (.int .i64 D)).setCell ⟨w.heap.size, 1, none⟩ (.int .i64 v)).setCell ⟨w.heap.size, 2, none⟩ (.int .i64 pl)) = Y1 at q_3 S_3 X_3 R_3 ⊢
  have Sz_3 := blk_lt S_3.out
  have Sc0_3 := blk_cell S_3.out 0
  have Sc1_3 := blk_cell S_3.out 1
  have Sc2_3 := blk_cell S_3.out 2
  have Sc3_3 := blk_cell S_3.out 3
  have Sc4_3 := blk_cell S_3.out 4
  have Xz_3 := blk_lt X_3.out
  have Xc0_3 := blk_cell X_3.out 0
  have Xc1_3 := blk_cell X_3.out 1
  have Xc2_3 := blk_cell X_3.out 2
  have Xc3_3 := blk_cell X_3.out 3
  have Rz_3 := blk_lt R_3.out
  have Rc0_3 := blk_cell R_3.out 0
  have Rc1_3 := blk_cell R_3.out 1
  have Rc2_3 := blk_cell R_3.out 2
  have Rc3_3 := blk_cell R_3.out 3
  have Rc4_3 := blk_cell R_3.out 4
  have b : Below Y1.heap.size Y1 ((Y1.alloc (.cells #[.int .i64 n] 3)).alloc (.cells #[.int .i64 v, .int .i64 pd, .int .i64 pa, .int .i64 pi, .int .i64 pl] 3)) := (((Below.refl _ Y1).alloc (Nat.le_refl _) (.cells #[.int .i64 n] 3)).alloc (by simp only [World.size_alloc]; omega) (.cells #[.int .i64 v, .int .i64 pd, .int .i64 pa, .int .i64 pi, .int .i64 pl] 3))
  have S_4 := Lib.hid ((b.block _ Sz_3).trans S_3.out)
  have Sz_4 := Nat.lt_of_lt_of_le Sz_3 b.size
  have Sc0_4 := blk_cell S_4.out 0
  have Sc1_4 := blk_cell S_4.out 1
  have Sc2_4 := blk_cell S_4.out 2
  have Sc3_4 := blk_cell S_4.out 3
  have Sc4_4 := blk_cell S_4.out 4
  have X_4 := Lib.hid ((b.block _ Xz_3).trans X_3.out)
  have Xz_4 := Nat.lt_of_lt_of_le Xz_3 b.size
  have Xc0_4 := blk_cell X_4.out 0
  have Xc1_4 := blk_cell X_4.out 1
  have Xc2_4 := blk_cell X_4.out 2
  have Xc3_4 := blk_cell X_4.out 3
  have R_4 := Lib.hid ((b.block _ Rz_3).trans R_3.out)
  have Rz_4 := Nat.lt_of_lt_of_le Rz_3 b.size
  have Rc0_4 := blk_cell R_4.out 0
  have Rc1_4 := blk_cell R_4.out 1
  have Rc2_4 := blk_cell R_4.out 2
  have Rc3_4 := blk_cell R_4.out 3
  have Rc4_4 := blk_cell R_4.out 4
  have q_4 := q_3.trans (b.mono q_3.size)
  clear S_3 Sz_3 Sc0_3 Sc1_3 Sc2_3 Sc3_3 Sc4_3 X_3 Xz_3 Xc0_3 Xc1_3 Xc2_3 Xc3_3 R_3 Rz_3 Rc0_3 Rc1_3 Rc2_3 Rc3_3 Rc4_3 q_3
  clear b
  generalize ((Y1.alloc (.cells #[.int .i64 n] 3)).alloc (.cells #[.int .i64 v, .int .i64 pd, .int .i64 pa, .int .i64 pi, .int .i64 pl] 3)) = V3 at q_4 S_4 Sz_4 Sc0_4 Sc1_4 Sc2_4 Sc3_4 Sc4_4 X_4 Xz_4 Xc0_4 Xc1_4 Xc2_4 Xc3_4 R_4 Rz_4 Rc0_4 Rc1_4 Rc2_4 Rc3_4 Rc4_4 ⊢
  have hO := HO.out
  have hT := HT.out
  have tz : (T == 0) = false := by rw [beq_eq_false_iff_ne]; omega
  have O1 : O ≤ 1099511627776 := by omega
  obtain ⟨c0, c1⟩ := quot_bd (x := O * 1024) (f := T) (by omega) (by omega)
  go_quiet (fail)
  clear Sc0_4 Sc1_4 Sc2_4 Sc3_4 Sc4_4 Xc0_4 Xc1_4 Xc2_4 Xc3_4 Rc0_4 Rc1_4 Rc2_4 Rc3_4 Rc4_4
  have S_5 : Hid ((V3.drewN nq).heap[w.heap.size]? = some (.cells #[.int .i64 D, .int .i64 v, .int .i64 pl, .int .i64 r, .int .i64 k] 43 (0, 0))) := Lib.hid (blk_drewN S_4.out nq)
  have X_5 : Hid ((V3.drewN nq).heap[w.heap.size + 1]? = some (.cells #[.int .i64 pd, .int .i64 pa, .int .i64 pi, .int .i64 pl] 44 (0, 0))) := Lib.hid (blk_drewN X_4.out nq)
  have R_5 : Hid ((V3.drewN nq).heap[w.heap.size + 1 + 1]? = some (.cells #[.int .i64 0, .int .i64 0, .int .i64 0, .int .i64 0, .int .i64 0] 43 (0, 0))) := Lib.hid (blk_drewN R_4.out nq)
  have q_5 := below_drewN q_4 nq
  clear q_4 S_4 Sz_4 X_4 Xz_4 R_4 Rz_4
  generalize V3.drewN nq = Y2 at q_5 S_5 X_5 R_5 ⊢
  have Sz_5 := blk_lt S_5.out
  have Sc0_5 := blk_cell S_5.out 0
  have Sc1_5 := blk_cell S_5.out 1
  have Sc2_5 := blk_cell S_5.out 2
  have Sc3_5 := blk_cell S_5.out 3
  have Sc4_5 := blk_cell S_5.out 4
  have Xz_5 := blk_lt X_5.out
  have Xc0_5 := blk_cell X_5.out 0
  have Xc1_5 := blk_cell X_5.out 1
  have Xc2_5 := blk_cell X_5.out 2
  have Xc3_5 := blk_cell X_5.out 3
  have Rz_5 := blk_lt R_5.out
  have Rc0_5 := blk_cell R_5.out 0
  have Rc1_5 := blk_cell R_5.out 1
  have Rc2_5 := blk_cell R_5.out 2
  have Rc3_5 := blk_cell R_5.out 3
  have Rc4_5 := blk_cell R_5.out 4
  clear hO hT HO HT
  have fS0 := blk_free S_5.out 0
  have fS1 := blk_free S_5.out 1
  have fS2 := blk_free S_5.out 2
  have fS3 := blk_free S_5.out 3
  have fS4 := blk_free S_5.out 4
  have fR0 := blk_free R_5.out 0
  have fR1 := blk_free R_5.out 1
  have fR2 := blk_free R_5.out 2
  have fR3 := blk_free R_5.out 3
  have fR4 := blk_free R_5.out 4
  have QY := Lib.hid q_5
  clear S_5 X_5 R_5
  have tn0 : ¬ T = 0 := by omega
  have e1 : IntKind.i64.wrap (O * 1024) = O * 1024 := by rw [IntKind.wrap_i64]; omega
  have e2 : (O * 1024).tdiv T = O * 1024 / T := Int.tdiv_eq_ediv_of_nonneg (by omega)
  have e3 : IntKind.i64.wrap (O * 1024 / T) = O * 1024 / T := by rw [IntKind.wrap_i64]; omega
  clear tz
  go_wp2_with fail
  go_region
  all_goals
    go_wp2
    refine bodyPost_ret (v := .tuple #[.agg #[.int .i64 D, .int .i64 v, .int .i64 pl, .int .i64 r, .int .i64 k], .int .i64 Q, .bool true, .int .i64 0]) (by simp [results, Try.results17, go_sem, *]) rfl ⟨rfl, ?_⟩
    (repeat' (first | (with_reducible exact QY.out) | (with_reducible exact Below.refl _ _) | (with_reducible refine Below.alloc ?_ ?_ _) | (with_reducible refine Below.setCell ?_ ?_ _) | (with_reducible refine Below.drew ?_) | (with_reducible refine below_drewN ?_ _) | omega | (dsimp only; omega) | (simp; done) | (simp; omega)))

end Go.Proofs.Ytlkpcojhpndieaa
