/- For every segment and list of events, one behind the other: the window is the page's recurrence; it lies from a segment to the greatest window. No condition. -/
import Derived.Test.YtmjcckpppflpjaaRows
import Derived.Test.YtmjcckpppflpjaaRnA
import Derived.Test.YtmjcckpppflpjaaGStep20
import Derived.Test.YtmjcckpppflpjaaGAgg
import Derived.Deep.DeepCutAuto
import Derived.RegionTactic
import Derived.Deep.RegionHeld3
import Derived.ProofKit
import Derived.OpenShut
import Derived.ChangeOld
import Derived.SizedLaws
namespace Go.Proofs.Ytmjcckpppflpjaa.renoPlays
open Go.ChangeShapes Go.WideShapes Go.ChangeAt Go.RowKit Go.Deep Go.Proofs.Ytmjcckpppflpjaa.Rn

set_option maxHeartbeats 2000000 in
theorem after_0 (c t a m n E x y z : Int) (hE : aE c t a m n = E) (h1 : kC E c t a m n = x) (h2 : kT E t = y) (h3 : kA E c t a n = z) (wh : Int) (n1 : (wh == 1) = false) (n2 : (wh == 2) = false) (w : World) : Calls Try.prog 19 #[.agg #[.int .i64 c, .int .i64 t, .int .i64 a], .int .i64 m, .agg #[.int .i64 wh, .int .i64 n]] w fun e w' => e = .returned (.tuple #[.agg #[.int .i64 x, .int .i64 y, .int .i64 z], .int .i64 E]) ∧ Below w.heap.size w w' := by
  have q_0 := Below.refl w.heap.size w
  have HE := Lib.hid hE
  clear hE
  have H1 := Lib.hid h1
  clear h1
  have H2 := Lib.hid h2
  clear h2
  have H3 := Lib.hid h3
  clear h3
  go_enter Try.func19, Try.ntmps19
  go_wp2_with fail
  have b : Below w.heap.size w (((w.alloc (.cells #[.int .i64 c, .int .i64 t, .int .i64 a] 24)).alloc (.cells #[.int .i64 wh, .int .i64 n] 40)).alloc (.cells #[.int .i64 0, .int .i64 0, .int .i64 0] 24)) := ((((Below.refl _ w).alloc (Nat.le_refl _) (.cells #[.int .i64 c, .int .i64 t, .int .i64 a] 24)).alloc (by simp only [World.size_alloc]; omega) (.cells #[.int .i64 wh, .int .i64 n] 40)).alloc (by simp only [World.size_alloc]; omega) (.cells #[.int .i64 0, .int .i64 0, .int .i64 0] 24))
  have nb0 := blk_new w (.cells #[.int .i64 c, .int .i64 t, .int .i64 a] 24)
  have nb0 := (Below.heap_alloc (w.alloc (.cells #[.int .i64 c, .int .i64 t, .int .i64 a] 24)) (.cells #[.int .i64 wh, .int .i64 n] 40) (w.heap.size) (by simp only [World.size_alloc]; omega)).trans nb0
  have nb0 := (Below.heap_alloc ((w.alloc (.cells #[.int .i64 c, .int .i64 t, .int .i64 a] 24)).alloc (.cells #[.int .i64 wh, .int .i64 n] 40)) (.cells #[.int .i64 0, .int .i64 0, .int .i64 0] 24) (w.heap.size) (by simp only [World.size_alloc]; omega)).trans nb0
  have nz0 : w.heap.size < (((w.alloc (.cells #[.int .i64 c, .int .i64 t, .int .i64 a] 24)).alloc (.cells #[.int .i64 wh, .int .i64 n] 40)).alloc (.cells #[.int .i64 0, .int .i64 0, .int .i64 0] 24)).heap.size := by simp only [World.size_alloc]; omega
  have nb1 := blk_new (w.alloc (.cells #[.int .i64 c, .int .i64 t, .int .i64 a] 24)) (.cells #[.int .i64 wh, .int .i64 n] 40)
  simp only [World.size_alloc] at nb1
  have nb1 := (Below.heap_alloc ((w.alloc (.cells #[.int .i64 c, .int .i64 t, .int .i64 a] 24)).alloc (.cells #[.int .i64 wh, .int .i64 n] 40)) (.cells #[.int .i64 0, .int .i64 0, .int .i64 0] 24) (w.heap.size + 1) (by simp only [World.size_alloc]; omega)).trans nb1
  have nz1 : w.heap.size + 1 < (((w.alloc (.cells #[.int .i64 c, .int .i64 t, .int .i64 a] 24)).alloc (.cells #[.int .i64 wh, .int .i64 n] 40)).alloc (.cells #[.int .i64 0, .int .i64 0, .int .i64 0] 24)).heap.size := by simp only [World.size_alloc]; omega
  have nb2 := blk_new ((w.alloc (.cells #[.int .i64 c, .int .i64 t, .int .i64 a] 24)).alloc (.cells #[.int .i64 wh, .int .i64 n] 40)) (.cells #[.int .i64 0, .int .i64 0, .int .i64 0] 24)
  simp only [World.size_alloc] at nb2
  have nz2 : w.heap.size + 2 < (((w.alloc (.cells #[.int .i64 c, .int .i64 t, .int .i64 a] 24)).alloc (.cells #[.int .i64 wh, .int .i64 n] 40)).alloc (.cells #[.int .i64 0, .int .i64 0, .int .i64 0] 24)).heap.size := by simp only [World.size_alloc]; omega
  have q_1 := q_0.trans (b.mono q_0.size)
  clear q_0
  clear b
  have S_1 := Lib.hid nb0
  have Sz_1 := nz0
  clear nb0 nz0
  have Sc0_1 := blk_cell S_1.out 0
  have Sc1_1 := blk_cell S_1.out 1
  have Sc2_1 := blk_cell S_1.out 2
  have X_1 := Lib.hid nb1
  have Xz_1 := nz1
  clear nb1 nz1
  have Xc0_1 := blk_cell X_1.out 0
  have Xc1_1 := blk_cell X_1.out 1
  have R_1 := Lib.hid nb2
  have Rz_1 := nz2
  clear nb2 nz2
  have Rc0_1 := blk_cell R_1.out 0
  have Rc1_1 := blk_cell R_1.out 1
  have Rc2_1 := blk_cell R_1.out 2
  generalize (((w.alloc (.cells #[.int .i64 c, .int .i64 t, .int .i64 a] 24)).alloc (.cells #[.int .i64 wh, .int .i64 n] 40)).alloc (.cells #[.int .i64 0, .int .i64 0, .int .i64 0] 24)) = V1 at q_1 S_1 Sz_1 Sc0_1 Sc1_1 Sc2_1 X_1 Xz_1 Xc0_1 Xc1_1 R_1 Rz_1 Rc0_1 Rc1_1 Rc2_1 ⊢
  refine (ack_l c t a m n E x y z HE.out H1.out H2.out H3.out _).mono ?_
  rintro e V2 ⟨rfl, b⟩
  have S_2 := Lib.hid ((b.block _ Sz_1).trans S_1.out)
  have Sz_2 := Nat.lt_of_lt_of_le Sz_1 b.size
  have Sc0_2 := blk_cell S_2.out 0
  have Sc1_2 := blk_cell S_2.out 1
  have Sc2_2 := blk_cell S_2.out 2
  have X_2 := Lib.hid ((b.block _ Xz_1).trans X_1.out)
  have Xz_2 := Nat.lt_of_lt_of_le Xz_1 b.size
  have Xc0_2 := blk_cell X_2.out 0
  have Xc1_2 := blk_cell X_2.out 1
  have R_2 := Lib.hid ((b.block _ Rz_1).trans R_1.out)
  have Rz_2 := Nat.lt_of_lt_of_le Rz_1 b.size
  have Rc0_2 := blk_cell R_2.out 0
  have Rc1_2 := blk_cell R_2.out 1
  have Rc2_2 := blk_cell R_2.out 2
  have q_2 := q_1.trans (b.mono q_1.size)
  clear S_1 Sz_1 Sc0_1 Sc1_1 Sc2_1 X_1 Xz_1 Xc0_1 Xc1_1 R_1 Rz_1 Rc0_1 Rc1_1 Rc2_1 q_1
  clear b
  have rf0 := blk_free R_2.out 0
  have rf1 := blk_free R_2.out 1
  have rf2 := blk_free R_2.out 2
  have QY := Lib.hid q_2
  clear R_2 S_2 X_2
  go_wp2
  refine bodyPost_ret (v := .tuple #[.agg #[.int .i64 x, .int .i64 y, .int .i64 z], .int .i64 E]) (by simp [results, Try.results19, go_sem, *]) rfl ⟨rfl, ?_⟩
  (repeat' (first | (with_reducible exact QY.out) | (with_reducible exact Below.refl _ _) | (with_reducible refine Below.alloc ?_ ?_ _) | (with_reducible refine Below.setCell ?_ ?_ _) | (with_reducible refine Below.drew ?_) | (with_reducible refine below_drewN ?_ _) | omega | (dsimp only; omega) | (simp; done) | (simp; omega)))

set_option maxHeartbeats 2000000 in
theorem after_1 (c t a m n E x : Int) (hE : aE c t a m n = E) (h1 : lH E m n = x)  (w : World) : Calls Try.prog 19 #[.agg #[.int .i64 c, .int .i64 t, .int .i64 a], .int .i64 m, .agg #[.int .i64 1, .int .i64 n]] w fun e w' => e = .returned (.tuple #[.agg #[.int .i64 x, .int .i64 x, .int .i64 0], .int .i64 E]) ∧ Below w.heap.size w w' := by
  have q_0 := Below.refl w.heap.size w
  have HE := Lib.hid hE
  clear hE
  have H1 := Lib.hid h1
  clear h1
  go_enter Try.func19, Try.ntmps19
  go_wp2_with fail
  have b : Below w.heap.size w (((w.alloc (.cells #[.int .i64 c, .int .i64 t, .int .i64 a] 24)).alloc (.cells #[.int .i64 1, .int .i64 n] 40)).alloc (.cells #[.int .i64 0, .int .i64 0, .int .i64 0] 24)) := ((((Below.refl _ w).alloc (Nat.le_refl _) (.cells #[.int .i64 c, .int .i64 t, .int .i64 a] 24)).alloc (by simp only [World.size_alloc]; omega) (.cells #[.int .i64 1, .int .i64 n] 40)).alloc (by simp only [World.size_alloc]; omega) (.cells #[.int .i64 0, .int .i64 0, .int .i64 0] 24))
  have nb0 := blk_new w (.cells #[.int .i64 c, .int .i64 t, .int .i64 a] 24)
  have nb0 := (Below.heap_alloc (w.alloc (.cells #[.int .i64 c, .int .i64 t, .int .i64 a] 24)) (.cells #[.int .i64 1, .int .i64 n] 40) (w.heap.size) (by simp only [World.size_alloc]; omega)).trans nb0
  have nb0 := (Below.heap_alloc ((w.alloc (.cells #[.int .i64 c, .int .i64 t, .int .i64 a] 24)).alloc (.cells #[.int .i64 1, .int .i64 n] 40)) (.cells #[.int .i64 0, .int .i64 0, .int .i64 0] 24) (w.heap.size) (by simp only [World.size_alloc]; omega)).trans nb0
  have nz0 : w.heap.size < (((w.alloc (.cells #[.int .i64 c, .int .i64 t, .int .i64 a] 24)).alloc (.cells #[.int .i64 1, .int .i64 n] 40)).alloc (.cells #[.int .i64 0, .int .i64 0, .int .i64 0] 24)).heap.size := by simp only [World.size_alloc]; omega
  have nb1 := blk_new (w.alloc (.cells #[.int .i64 c, .int .i64 t, .int .i64 a] 24)) (.cells #[.int .i64 1, .int .i64 n] 40)
  simp only [World.size_alloc] at nb1
  have nb1 := (Below.heap_alloc ((w.alloc (.cells #[.int .i64 c, .int .i64 t, .int .i64 a] 24)).alloc (.cells #[.int .i64 1, .int .i64 n] 40)) (.cells #[.int .i64 0, .int .i64 0, .int .i64 0] 24) (w.heap.size + 1) (by simp only [World.size_alloc]; omega)).trans nb1
  have nz1 : w.heap.size + 1 < (((w.alloc (.cells #[.int .i64 c, .int .i64 t, .int .i64 a] 24)).alloc (.cells #[.int .i64 1, .int .i64 n] 40)).alloc (.cells #[.int .i64 0, .int .i64 0, .int .i64 0] 24)).heap.size := by simp only [World.size_alloc]; omega
  have nb2 := blk_new ((w.alloc (.cells #[.int .i64 c, .int .i64 t, .int .i64 a] 24)).alloc (.cells #[.int .i64 1, .int .i64 n] 40)) (.cells #[.int .i64 0, .int .i64 0, .int .i64 0] 24)
  simp only [World.size_alloc] at nb2
  have nz2 : w.heap.size + 2 < (((w.alloc (.cells #[.int .i64 c, .int .i64 t, .int .i64 a] 24)).alloc (.cells #[.int .i64 1, .int .i64 n] 40)).alloc (.cells #[.int .i64 0, .int .i64 0, .int .i64 0] 24)).heap.size := by simp only [World.size_alloc]; omega
  have q_1 := q_0.trans (b.mono q_0.size)
  clear q_0
  clear b
  have S_1 := Lib.hid nb0
  have Sz_1 := nz0
  clear nb0 nz0
  have Sc0_1 := blk_cell S_1.out 0
  have Sc1_1 := blk_cell S_1.out 1
  have Sc2_1 := blk_cell S_1.out 2
  have X_1 := Lib.hid nb1
  have Xz_1 := nz1
  clear nb1 nz1
  have Xc0_1 := blk_cell X_1.out 0
  have Xc1_1 := blk_cell X_1.out 1
  have R_1 := Lib.hid nb2
  have Rz_1 := nz2
  clear nb2 nz2
  have Rc0_1 := blk_cell R_1.out 0
  have Rc1_1 := blk_cell R_1.out 1
  have Rc2_1 := blk_cell R_1.out 2
  generalize (((w.alloc (.cells #[.int .i64 c, .int .i64 t, .int .i64 a] 24)).alloc (.cells #[.int .i64 1, .int .i64 n] 40)).alloc (.cells #[.int .i64 0, .int .i64 0, .int .i64 0] 24)) = V1 at q_1 S_1 Sz_1 Sc0_1 Sc1_1 Sc2_1 X_1 Xz_1 Xc0_1 Xc1_1 R_1 Rz_1 Rc0_1 Rc1_1 Rc2_1 ⊢
  refine (loss_l c t a m n E x HE.out H1.out _).mono ?_
  rintro e V2 ⟨rfl, b⟩
  have S_2 := Lib.hid ((b.block _ Sz_1).trans S_1.out)
  have Sz_2 := Nat.lt_of_lt_of_le Sz_1 b.size
  have Sc0_2 := blk_cell S_2.out 0
  have Sc1_2 := blk_cell S_2.out 1
  have Sc2_2 := blk_cell S_2.out 2
  have X_2 := Lib.hid ((b.block _ Xz_1).trans X_1.out)
  have Xz_2 := Nat.lt_of_lt_of_le Xz_1 b.size
  have Xc0_2 := blk_cell X_2.out 0
  have Xc1_2 := blk_cell X_2.out 1
  have R_2 := Lib.hid ((b.block _ Rz_1).trans R_1.out)
  have Rz_2 := Nat.lt_of_lt_of_le Rz_1 b.size
  have Rc0_2 := blk_cell R_2.out 0
  have Rc1_2 := blk_cell R_2.out 1
  have Rc2_2 := blk_cell R_2.out 2
  have q_2 := q_1.trans (b.mono q_1.size)
  clear S_1 Sz_1 Sc0_1 Sc1_1 Sc2_1 X_1 Xz_1 Xc0_1 Xc1_1 R_1 Rz_1 Rc0_1 Rc1_1 Rc2_1 q_1
  clear b
  have rf0 := blk_free R_2.out 0
  have rf1 := blk_free R_2.out 1
  have rf2 := blk_free R_2.out 2
  have QY := Lib.hid q_2
  clear R_2 S_2 X_2
  go_wp2
  refine bodyPost_ret (v := .tuple #[.agg #[.int .i64 x, .int .i64 x, .int .i64 0], .int .i64 E]) (by simp [results, Try.results19, go_sem, *]) rfl ⟨rfl, ?_⟩
  (repeat' (first | (with_reducible exact QY.out) | (with_reducible exact Below.refl _ _) | (with_reducible refine Below.alloc ?_ ?_ _) | (with_reducible refine Below.setCell ?_ ?_ _) | (with_reducible refine Below.drew ?_) | (with_reducible refine below_drewN ?_ _) | omega | (dsimp only; omega) | (simp; done) | (simp; omega)))

set_option maxHeartbeats 2000000 in
theorem after_2 (c t a m n E x y : Int) (hE : aE c t a m n = E) (h1 : tC E m = x) (h2 : lH E m n = y)  (w : World) : Calls Try.prog 19 #[.agg #[.int .i64 c, .int .i64 t, .int .i64 a], .int .i64 m, .agg #[.int .i64 2, .int .i64 n]] w fun e w' => e = .returned (.tuple #[.agg #[.int .i64 x, .int .i64 y, .int .i64 0], .int .i64 E]) ∧ Below w.heap.size w w' := by
  have q_0 := Below.refl w.heap.size w
  have HE := Lib.hid hE
  clear hE
  have H1 := Lib.hid h1
  clear h1
  have H2 := Lib.hid h2
  clear h2
  go_enter Try.func19, Try.ntmps19
  go_wp2_with fail
  have b : Below w.heap.size w (((w.alloc (.cells #[.int .i64 c, .int .i64 t, .int .i64 a] 24)).alloc (.cells #[.int .i64 2, .int .i64 n] 40)).alloc (.cells #[.int .i64 0, .int .i64 0, .int .i64 0] 24)) := ((((Below.refl _ w).alloc (Nat.le_refl _) (.cells #[.int .i64 c, .int .i64 t, .int .i64 a] 24)).alloc (by simp only [World.size_alloc]; omega) (.cells #[.int .i64 2, .int .i64 n] 40)).alloc (by simp only [World.size_alloc]; omega) (.cells #[.int .i64 0, .int .i64 0, .int .i64 0] 24))
  have nb0 := blk_new w (.cells #[.int .i64 c, .int .i64 t, .int .i64 a] 24)
  have nb0 := (Below.heap_alloc (w.alloc (.cells #[.int .i64 c, .int .i64 t, .int .i64 a] 24)) (.cells #[.int .i64 2, .int .i64 n] 40) (w.heap.size) (by simp only [World.size_alloc]; omega)).trans nb0
  have nb0 := (Below.heap_alloc ((w.alloc (.cells #[.int .i64 c, .int .i64 t, .int .i64 a] 24)).alloc (.cells #[.int .i64 2, .int .i64 n] 40)) (.cells #[.int .i64 0, .int .i64 0, .int .i64 0] 24) (w.heap.size) (by simp only [World.size_alloc]; omega)).trans nb0
  have nz0 : w.heap.size < (((w.alloc (.cells #[.int .i64 c, .int .i64 t, .int .i64 a] 24)).alloc (.cells #[.int .i64 2, .int .i64 n] 40)).alloc (.cells #[.int .i64 0, .int .i64 0, .int .i64 0] 24)).heap.size := by simp only [World.size_alloc]; omega
  have nb1 := blk_new (w.alloc (.cells #[.int .i64 c, .int .i64 t, .int .i64 a] 24)) (.cells #[.int .i64 2, .int .i64 n] 40)
  simp only [World.size_alloc] at nb1
  have nb1 := (Below.heap_alloc ((w.alloc (.cells #[.int .i64 c, .int .i64 t, .int .i64 a] 24)).alloc (.cells #[.int .i64 2, .int .i64 n] 40)) (.cells #[.int .i64 0, .int .i64 0, .int .i64 0] 24) (w.heap.size + 1) (by simp only [World.size_alloc]; omega)).trans nb1
  have nz1 : w.heap.size + 1 < (((w.alloc (.cells #[.int .i64 c, .int .i64 t, .int .i64 a] 24)).alloc (.cells #[.int .i64 2, .int .i64 n] 40)).alloc (.cells #[.int .i64 0, .int .i64 0, .int .i64 0] 24)).heap.size := by simp only [World.size_alloc]; omega
  have nb2 := blk_new ((w.alloc (.cells #[.int .i64 c, .int .i64 t, .int .i64 a] 24)).alloc (.cells #[.int .i64 2, .int .i64 n] 40)) (.cells #[.int .i64 0, .int .i64 0, .int .i64 0] 24)
  simp only [World.size_alloc] at nb2
  have nz2 : w.heap.size + 2 < (((w.alloc (.cells #[.int .i64 c, .int .i64 t, .int .i64 a] 24)).alloc (.cells #[.int .i64 2, .int .i64 n] 40)).alloc (.cells #[.int .i64 0, .int .i64 0, .int .i64 0] 24)).heap.size := by simp only [World.size_alloc]; omega
  have q_1 := q_0.trans (b.mono q_0.size)
  clear q_0
  clear b
  have S_1 := Lib.hid nb0
  have Sz_1 := nz0
  clear nb0 nz0
  have Sc0_1 := blk_cell S_1.out 0
  have Sc1_1 := blk_cell S_1.out 1
  have Sc2_1 := blk_cell S_1.out 2
  have X_1 := Lib.hid nb1
  have Xz_1 := nz1
  clear nb1 nz1
  have Xc0_1 := blk_cell X_1.out 0
  have Xc1_1 := blk_cell X_1.out 1
  have R_1 := Lib.hid nb2
  have Rz_1 := nz2
  clear nb2 nz2
  have Rc0_1 := blk_cell R_1.out 0
  have Rc1_1 := blk_cell R_1.out 1
  have Rc2_1 := blk_cell R_1.out 2
  generalize (((w.alloc (.cells #[.int .i64 c, .int .i64 t, .int .i64 a] 24)).alloc (.cells #[.int .i64 2, .int .i64 n] 40)).alloc (.cells #[.int .i64 0, .int .i64 0, .int .i64 0] 24)) = V1 at q_1 S_1 Sz_1 Sc0_1 Sc1_1 Sc2_1 X_1 Xz_1 Xc0_1 Xc1_1 R_1 Rz_1 Rc0_1 Rc1_1 Rc2_1 ⊢
  refine (timeout_l c t a m n E x y HE.out H1.out H2.out _).mono ?_
  rintro e V2 ⟨rfl, b⟩
  have S_2 := Lib.hid ((b.block _ Sz_1).trans S_1.out)
  have Sz_2 := Nat.lt_of_lt_of_le Sz_1 b.size
  have Sc0_2 := blk_cell S_2.out 0
  have Sc1_2 := blk_cell S_2.out 1
  have Sc2_2 := blk_cell S_2.out 2
  have X_2 := Lib.hid ((b.block _ Xz_1).trans X_1.out)
  have Xz_2 := Nat.lt_of_lt_of_le Xz_1 b.size
  have Xc0_2 := blk_cell X_2.out 0
  have Xc1_2 := blk_cell X_2.out 1
  have R_2 := Lib.hid ((b.block _ Rz_1).trans R_1.out)
  have Rz_2 := Nat.lt_of_lt_of_le Rz_1 b.size
  have Rc0_2 := blk_cell R_2.out 0
  have Rc1_2 := blk_cell R_2.out 1
  have Rc2_2 := blk_cell R_2.out 2
  have q_2 := q_1.trans (b.mono q_1.size)
  clear S_1 Sz_1 Sc0_1 Sc1_1 Sc2_1 X_1 Xz_1 Xc0_1 Xc1_1 R_1 Rz_1 Rc0_1 Rc1_1 Rc2_1 q_1
  clear b
  have rf0 := blk_free R_2.out 0
  have rf1 := blk_free R_2.out 1
  have rf2 := blk_free R_2.out 2
  have QY := Lib.hid q_2
  clear R_2 S_2 X_2
  go_wp2
  refine bodyPost_ret (v := .tuple #[.agg #[.int .i64 x, .int .i64 y, .int .i64 0], .int .i64 E]) (by simp [results, Try.results19, go_sem, *]) rfl ⟨rfl, ?_⟩
  (repeat' (first | (with_reducible exact QY.out) | (with_reducible exact Below.refl _ _) | (with_reducible refine Below.alloc ?_ ?_ _) | (with_reducible refine Below.setCell ?_ ?_ _) | (with_reducible refine Below.drew ?_) | (with_reducible refine below_drewN ?_ _) | omega | (dsimp only; omega) | (simp; done) | (simp; omega)))

theorem aE_zero {c t a m n : Int} (h : aE c t a m n = 0) : MV m ∧ SV c t a m ∧ NV n := by
  unfold aE at h
  split at h
  · split at h
    · split at h
      · exact ⟨by assumption, by assumption, by assumption⟩
      · omega
    · omega
  · omega
theorem sv_loss {c t a m n x : Int} (h : aE c t a m n = 0) (hx : lH 0 m n = x) : SV x x 0 m := by
  obtain ⟨⟨m0, m1⟩, _, n0, n1⟩ := aE_zero h
  rw [lH, if_pos rfl] at hx
  exact ⟨⟨by omega, by omega⟩, ⟨by omega, by omega⟩, by omega, by omega⟩
theorem sv_time {c t a m n x y : Int} (h : aE c t a m n = 0) (hx : tC 0 m = x) (hy : lH 0 m n = y) : SV x y 0 m := by
  obtain ⟨⟨m0, m1⟩, _, n0, n1⟩ := aE_zero h
  rw [lH, if_pos rfl] at hy
  rw [tC, if_pos rfl] at hx
  exact ⟨⟨by omega, by omega⟩, ⟨by omega, by omega⟩, by omega, by omega⟩
theorem sv_ack {c t a m n x y z : Int} (h : aE c t a m n = 0) (hx : kC 0 c t a m n = x) (hy : kT 0 t = y) (hz : kA 0 c t a n = z) : SV x y z m := by
  obtain ⟨⟨m0, m1⟩, ⟨⟨c0, c1⟩, ⟨t0, t1⟩, a0, a1⟩, n0, n1⟩ := aE_zero h
  rw [kT, if_pos rfl] at hy
  rw [kC, if_pos rfl] at hx
  rw [kA, if_pos rfl] at hz
  split at hx
  · rw [if_pos (by assumption)] at hz
    exact ⟨⟨by omega, by omega⟩, ⟨by omega, by omega⟩, by omega, by omega⟩
  · rw [if_neg (by assumption)] at hz
    split at hx
    · rw [if_pos (by assumption)] at hz
      exact ⟨⟨by omega, by omega⟩, ⟨by omega, by omega⟩, by omega, by omega⟩
    · rw [if_neg (by assumption)] at hz
      exact ⟨⟨by omega, by omega⟩, ⟨by omega, by omega⟩, by omega, by omega⟩

set_option maxRecDepth 100000 in
set_option maxHeartbeats 20000000 in
theorem walk_ok (m : Int) (pa : Option Addr) (rs : List Step20) (cap : Nat) (w : World) (hM : MV m) (hx : Sts 2 Step20.cells Step20.ok w pa rs) (hre : rs.length ≤ 8796093021952) :
    Calls Try.prog 4 #[.int .i64 m, .slice pa rs.length cap] w fun e w' => e = .returned (.bool true) ∧ Below w.heap.size w w' := by
  have HX := Lib.hid hx
  clear hx
  have q_0 := Below.refl w.heap.size w
  go_enter Try.func4, Try.ntmps4
  have HM := Lib.hid hM
  clear hM
  obtain ⟨m0, m1⟩ := HM.out
  obtain ⟨C, hC⟩ : ∃ C, min (10 * m) (max (2 * m) 14600) = C := ⟨_, rfl⟩
  have HSV : Hid (SV C 1073741824 0 m) := Lib.hid ⟨⟨by omega, by omega⟩, ⟨by omega, by omega⟩, by omega, by omega⟩
  have HC := Lib.hid hC
  clear hC
  go_wp2_with fail
  refine (new_ok m _ HM.out).mono ?_
  rintro e V1 ⟨rfl, b⟩
  have q_1 := q_0.trans (b.mono q_0.size)
  clear q_0
  clear b
  rw [HC.out]
  have HL1 : Hid (w.heap.size ≤ V1.heap.size) := Lib.hid q_1.size
  go_wp2_with fail
  have b : Below V1.heap.size V1 (V1.alloc (.cells #[.int .i64 C, .int .i64 1073741824, .int .i64 0] 24)) := ((Below.refl _ V1).alloc (Nat.le_refl _) (.cells #[.int .i64 C, .int .i64 1073741824, .int .i64 0] 24))
  have nb0 := blk_new V1 (.cells #[.int .i64 C, .int .i64 1073741824, .int .i64 0] 24)
  have nz0 : V1.heap.size < (V1.alloc (.cells #[.int .i64 C, .int .i64 1073741824, .int .i64 0] 24)).heap.size := by simp only [World.size_alloc]; omega
  have q_2 := q_1.trans (b.mono q_1.size)
  clear q_1
  clear b
  have S_2 := Lib.hid nb0
  have Sz_2 := nz0
  clear nb0 nz0
  have Sc0_2 := blk_cell S_2.out 0
  have Sc1_2 := blk_cell S_2.out 1
  have Sc2_2 := blk_cell S_2.out 2
  generalize (V1.alloc (.cells #[.int .i64 C, .int .i64 1073741824, .int .i64 0] 24)) = V2 at q_2 S_2 Sz_2 Sc0_2 Sc1_2 Sc2_2 ⊢
  refine (rnew_ok m _ HM.out).mono ?_
  rintro e V3 ⟨rfl, b⟩
  have S_3 := Lib.hid ((b.block _ Sz_2).trans S_2.out)
  have Sz_3 := Nat.lt_of_lt_of_le Sz_2 b.size
  have Sc0_3 := blk_cell S_3.out 0
  have Sc1_3 := blk_cell S_3.out 1
  have Sc2_3 := blk_cell S_3.out 2
  have q_3 := q_2.trans (b.mono q_2.size)
  clear S_2 Sz_2 Sc0_2 Sc1_2 Sc2_2 q_2
  clear b
  rw [HC.out]
  go_wp2_with fail
  have HL3 : Hid (w.heap.size ≤ V3.heap.size) := Lib.hid q_3.size
  have HNE : Hid (V1.heap.size ≠ V3.heap.size) := Lib.hid (Nat.ne_of_lt Sz_3)
  have b : Below V3.heap.size V3 (V3.alloc (.cells #[.int .i64 C, .int .i64 1073741824, .int .i64 0] 23)) := ((Below.refl _ V3).alloc (Nat.le_refl _) (.cells #[.int .i64 C, .int .i64 1073741824, .int .i64 0] 23))
  have nb0 := blk_new V3 (.cells #[.int .i64 C, .int .i64 1073741824, .int .i64 0] 23)
  have nz0 : V3.heap.size < (V3.alloc (.cells #[.int .i64 C, .int .i64 1073741824, .int .i64 0] 23)).heap.size := by simp only [World.size_alloc]; omega
  have S_4 := Lib.hid ((b.block _ Sz_3).trans S_3.out)
  have Sz_4 := Nat.lt_of_lt_of_le Sz_3 b.size
  have Sc0_4 := blk_cell S_4.out 0
  have Sc1_4 := blk_cell S_4.out 1
  have Sc2_4 := blk_cell S_4.out 2
  have q_4 := q_3.trans (b.mono q_3.size)
  clear S_3 Sz_3 Sc0_3 Sc1_3 Sc2_3 q_3
  clear b
  have W_4 := Lib.hid nb0
  have Wz_4 := nz0
  clear nb0 nz0
  have Wc0_4 := blk_cell W_4.out 0
  have Wc1_4 := blk_cell W_4.out 1
  have Wc2_4 := blk_cell W_4.out 2
  generalize (V3.alloc (.cells #[.int .i64 C, .int .i64 1073741824, .int .i64 0] 23)) = V4 at q_4 S_4 Sz_4 Sc0_4 Sc1_4 Sc2_4 W_4 Wz_4 Wc0_4 Wc1_4 Wc2_4 ⊢
  refine (num_any _ _).mono ?_
  rintro e w' ⟨rfl, rfl⟩
  have HLE1 : Hid (w.heap.size ≤ V1.heap.size) := HL1
  have HLE3 : Hid (w.heap.size ≤ V3.heap.size) := HL3
  have NSW : Hid (V1.heap.size ≠ V3.heap.size) := HNE
  go_wp2_with fail
  clear Sc0_4 Sc1_4 Sc2_4
  clear Wc0_4 Wc1_4 Wc2_4
  go_loopw [9] (fun ii wr => ∃ (k : Nat) (c t a : Int), k ≤ rs.length ∧ ii = .int .i64 k ∧ Hid (SV c t a m) ∧ wr.heap[V1.heap.size]? = some (.cells #[.int .i64 c, .int .i64 t, .int .i64 a] 24 (0, 0)) ∧ wr.heap[V3.heap.size]? = some (.cells #[.int .i64 c, .int .i64 t, .int .i64 a] 23 (0, 0)) ∧ Below w.heap.size w wr) (fun ii _ => rs.length - (intOf ii).toNat)
  case atStart => exact ⟨0, _, _, _, by omega, rfl, HSV, S_4.out, W_4.out, q_4⟩
  case round =>
    obtain ⟨k, c, t, a, hk, rfl, HS, hS, hW, hq⟩ := hrel
    have q_0 := hq
    have Sz_0 := blk_lt hS
    have Wz_0 := blk_lt hW
    have S_0 := Lib.hid (hS)
    have Sc0_0 := blk_cell S_0.out 0
    have Sc1_0 := blk_cell S_0.out 1
    have Sc2_0 := blk_cell S_0.out 2
    have W_0 := Lib.hid (hW)
    have Wc0_0 := blk_cell W_0.out 0
    have Wc1_0 := blk_cell W_0.out 1
    have Wc2_0 := blk_cell W_0.out 2
    clear hS hW hq S_4 W_4 q_4 Sz_4 Wz_4
    by_cases hlt : k < rs.length
    case neg =>
      obtain rfl : k = rs.length := by omega
      go_wp2_with fail
      refine (alive_any _).mono ?_
      rintro e w9 ⟨rfl, b9⟩
      go_wp2
      go_ret
      exact ⟨rfl, q_0.trans (b9.mono q_0.size)⟩
    case pos =>
      obtain ⟨hok, bl, off, rfl, hbl, hcx⟩ := HX.out.at (List.getElem?_eq_getElem hlt)
      have x0 := hcx 0 _ rfl
      have x1 := hcx 1 _ rfl
      clear hcx
      generalize rs[k] = r at hok x0 x1
      obtain ⟨wh, n⟩ := r
      dsimp only at hok x0 x1
      have i1 : (k : Int) < (rs.length : Int) := by omega
      obtain ⟨E, hEE⟩ : ∃ E, aE c t a m n = E := ⟨_, rfl⟩
      have HE := Lib.hid hEE
      by_cases h1 : wh = 1
      case pos =>
        subst h1
        obtain ⟨x, hx⟩ : ∃ z, lH E m n = z := ⟨_, rfl⟩
        have Hx := Lib.hid hx
        clear hx
        by_cases hE : E = 0
        case pos =>
          subst hE
          have HN : Hid (SV x x 0 m) := Lib.hid (sv_loss hEE Hx.out)
          have nb := HN.out.1
          obtain ⟨nb1, nb2⟩ := nb
          have x0w := (q_0.cell (p := ⟨bl, off + k * 2, none⟩) hbl).trans x0
          have x1w := (q_0.cell (p := ⟨bl, off + k * 2 + 1, none⟩) hbl).trans x1
          have y := ((Below.refl wr.heap.size wr).alloc (Nat.le_refl _) (.cells #[.int .i64 0, .int .i64 0, .int .i64 0] 24)).drew
          have SY := Lib.hid ((y.block _ Sz_0).trans S_0.out)
          have SYz := Nat.lt_of_lt_of_le Sz_0 y.size
          have SN : Hid (wr.heap.size ≠ V1.heap.size) := Lib.hid (Nat.ne_of_gt Sz_0)
          have WY := Lib.hid ((y.block _ Wz_0).trans W_0.out)
          have WYz := Nat.lt_of_lt_of_le Wz_0 y.size
          have WN : Hid (wr.heap.size ≠ V3.heap.size) := Lib.hid (Nat.ne_of_gt Wz_0)
          have x0wB : bl < wr.heap.size := Nat.lt_of_lt_of_le hbl q_0.size
          have x0wY := Lib.hid ((y.cell (p := ⟨bl, off + k * 2, none⟩) x0wB).trans x0w)
          have x0wYB := Nat.lt_of_lt_of_le x0wB y.size
          have x0wN : wr.heap.size ≠ bl := Nat.ne_of_gt x0wB
          have x0wH := Lib.hid x0w
          have x1wB : bl < wr.heap.size := Nat.lt_of_lt_of_le hbl q_0.size
          have x1wY := Lib.hid ((y.cell (p := ⟨bl, off + k * 2 + 1, none⟩) x1wB).trans x1w)
          have x1wYB := Nat.lt_of_lt_of_le x1wB y.size
          have x1wN : wr.heap.size ≠ bl := Nat.ne_of_gt x1wB
          have x1wH := Lib.hid x1w
          have XY := Lib.hid (blk_new wr (.cells #[.int .i64 0, .int .i64 0, .int .i64 0] 24))
          have cjD : Hid (wr.drew.cell? ⟨V1.heap.size, 0, none⟩ = some (.int .i64 c) ∧ wr.drew.cell? ⟨V1.heap.size, 1, none⟩ = some (.int .i64 t) ∧ wr.drew.cell? ⟨V1.heap.size, 2, none⟩ = some (.int .i64 a) ∧ wr.drew.cell? ⟨V3.heap.size, 0, none⟩ = some (.int .i64 c) ∧ wr.drew.cell? ⟨V3.heap.size, 1, none⟩ = some (.int .i64 t) ∧ wr.drew.cell? ⟨V3.heap.size, 2, none⟩ = some (.int .i64 a) ∧ wr.drew.cell? ⟨bl, off + k * 2, none⟩ = some (.int .i64 1) ∧ wr.drew.cell? ⟨bl, off + k * 2 + 1, none⟩ = some (.int .i64 n)) := Lib.hid ⟨blk_cell S_0.out 0, blk_cell S_0.out 1, blk_cell S_0.out 2, blk_cell W_0.out 0, blk_cell W_0.out 1, blk_cell W_0.out 2, x0w, x1w⟩
          have cjY : Hid ((wr.alloc (.cells #[.int .i64 0, .int .i64 0, .int .i64 0] 24)).drew.cell? ⟨V1.heap.size, 0, none⟩ = some (.int .i64 c) ∧ (wr.alloc (.cells #[.int .i64 0, .int .i64 0, .int .i64 0] 24)).drew.cell? ⟨V1.heap.size, 1, none⟩ = some (.int .i64 t) ∧ (wr.alloc (.cells #[.int .i64 0, .int .i64 0, .int .i64 0] 24)).drew.cell? ⟨V1.heap.size, 2, none⟩ = some (.int .i64 a) ∧ (wr.alloc (.cells #[.int .i64 0, .int .i64 0, .int .i64 0] 24)).drew.cell? ⟨V3.heap.size, 0, none⟩ = some (.int .i64 c) ∧ (wr.alloc (.cells #[.int .i64 0, .int .i64 0, .int .i64 0] 24)).drew.cell? ⟨V3.heap.size, 1, none⟩ = some (.int .i64 t) ∧ (wr.alloc (.cells #[.int .i64 0, .int .i64 0, .int .i64 0] 24)).drew.cell? ⟨V3.heap.size, 2, none⟩ = some (.int .i64 a) ∧ (wr.alloc (.cells #[.int .i64 0, .int .i64 0, .int .i64 0] 24)).drew.cell? ⟨bl, off + k * 2, none⟩ = some (.int .i64 1) ∧ (wr.alloc (.cells #[.int .i64 0, .int .i64 0, .int .i64 0] 24)).drew.cell? ⟨bl, off + k * 2 + 1, none⟩ = some (.int .i64 n)) := Lib.hid ⟨blk_cell SY.out 0, blk_cell SY.out 1, blk_cell SY.out 2, blk_cell WY.out 0, blk_cell WY.out 1, blk_cell WY.out 2, x0wY.out, x1wY.out⟩
          have qD := Lib.hid q_0.drew
          have qY := Lib.hid (q_0.trans (y.mono q_0.size))
          have HVL : Hid (w.heap.size ≤ wr.heap.size) := Lib.hid q_0.size
          clear y
          go_wp2_with fail
          go_cut [10, 11] (fun (pt pe : Value) (wx : World) => BoxCut wr (fun W' : World => W'.heap[V1.heap.size]? = some (.cells #[.int .i64 c, .int .i64 t, .int .i64 a] 24 (0, 0)) ∧ W'.heap[V3.heap.size]? = some (.cells #[.int .i64 c, .int .i64 t, .int .i64 a] 23 (0, 0))) #[.int .i64 x, .int .i64 x, .int .i64 0] 24 (.int .i64 0) w pt pe wx)
          case first =>
            go_region_held3 (fun W' => W'.cell? ⟨V1.heap.size, 0, none⟩ = some (.int .i64 c) ∧ W'.cell? ⟨V1.heap.size, 1, none⟩ = some (.int .i64 t) ∧ W'.cell? ⟨V1.heap.size, 2, none⟩ = some (.int .i64 a) ∧ W'.cell? ⟨V3.heap.size, 0, none⟩ = some (.int .i64 c) ∧ W'.cell? ⟨V3.heap.size, 1, none⟩ = some (.int .i64 t) ∧ W'.cell? ⟨V3.heap.size, 2, none⟩ = some (.int .i64 a) ∧ W'.cell? ⟨bl, off + k * 2, none⟩ = some (.int .i64 1) ∧ W'.cell? ⟨bl, off + k * 2 + 1, none⟩ = some (.int .i64 n)) (first | (with_reducible exact cjD.out) | (with_reducible exact cjY.out) | (with_reducible exact cjW.out) | (with_reducible exact cjA.out _) | (with_reducible exact cjX.out) | go_keep) (first
              | (go_at_call 19; (with_reducible refine (after_1 c t a m n 0 x HE.out Hx.out wr.drew).mono ?_); rintro e WX ⟨rfl, b⟩; have S1 := Lib.hid ((b.block _ Sz_0).trans S_0.out); have Sz1 := Nat.lt_of_lt_of_le Sz_0 b.size; have W1 := Lib.hid ((b.block _ Wz_0).trans W_0.out); have Wz1 := Nat.lt_of_lt_of_le Wz_0 b.size; have x0w1 := Lib.hid ((b.cell (p := ⟨bl, off + k * 2, none⟩) x0wB).trans x0wH.out); have x0wz1 : bl < WX.heap.size := Nat.lt_of_lt_of_le x0wB b.size; have x1w1 := Lib.hid ((b.cell (p := ⟨bl, off + k * 2 + 1, none⟩) x1wB).trans x1wH.out); have x1wz1 : bl < WX.heap.size := Nat.lt_of_lt_of_le x1wB b.size; have cjW : Hid (WX.cell? ⟨V1.heap.size, 0, none⟩ = some (.int .i64 c) ∧ WX.cell? ⟨V1.heap.size, 1, none⟩ = some (.int .i64 t) ∧ WX.cell? ⟨V1.heap.size, 2, none⟩ = some (.int .i64 a) ∧ WX.cell? ⟨V3.heap.size, 0, none⟩ = some (.int .i64 c) ∧ WX.cell? ⟨V3.heap.size, 1, none⟩ = some (.int .i64 t) ∧ WX.cell? ⟨V3.heap.size, 2, none⟩ = some (.int .i64 a) ∧ WX.cell? ⟨bl, off + k * 2, none⟩ = some (.int .i64 1) ∧ WX.cell? ⟨bl, off + k * 2 + 1, none⟩ = some (.int .i64 n)) := Lib.hid ⟨blk_cell S1.out 0, blk_cell S1.out 1, blk_cell S1.out 2, blk_cell W1.out 0, blk_cell W1.out 1, blk_cell W1.out 2, x0w1.out, x1w1.out⟩; have QW := Lib.hid (qD.out.trans (b.mono qD.out.size)); have VL1 := Lib.hid b.size; have cjA : Hid (∀ o : Obj, (WX.alloc o).cell? ⟨V1.heap.size, 0, none⟩ = some (.int .i64 c) ∧ (WX.alloc o).cell? ⟨V1.heap.size, 1, none⟩ = some (.int .i64 t) ∧ (WX.alloc o).cell? ⟨V1.heap.size, 2, none⟩ = some (.int .i64 a) ∧ (WX.alloc o).cell? ⟨V3.heap.size, 0, none⟩ = some (.int .i64 c) ∧ (WX.alloc o).cell? ⟨V3.heap.size, 1, none⟩ = some (.int .i64 t) ∧ (WX.alloc o).cell? ⟨V3.heap.size, 2, none⟩ = some (.int .i64 a) ∧ (WX.alloc o).cell? ⟨bl, off + k * 2, none⟩ = some (.int .i64 1) ∧ (WX.alloc o).cell? ⟨bl, off + k * 2 + 1, none⟩ = some (.int .i64 n)) := Lib.hid (fun o => by have ya := (Below.refl WX.heap.size WX).alloc (Nat.le_refl _) o; exact ⟨blk_cell ((ya.block _ Sz1).trans S1.out) 0, blk_cell ((ya.block _ Sz1).trans S1.out) 1, blk_cell ((ya.block _ Sz1).trans S1.out) 2, blk_cell ((ya.block _ Wz1).trans W1.out) 0, blk_cell ((ya.block _ Wz1).trans W1.out) 1, blk_cell ((ya.block _ Wz1).trans W1.out) 2, ((ya.cell (p := ⟨bl, off + k * 2, none⟩) x0wz1).trans x0w1.out), ((ya.cell (p := ⟨bl, off + k * 2 + 1, none⟩) x1wz1).trans x1w1.out)⟩); clear b)
              | (go_at_call 19; (with_reducible refine (after_1 c t a m n 0 x HE.out Hx.out ((wr.alloc (.cells #[.int .i64 0, .int .i64 0, .int .i64 0] 24)).drew)).mono ?_); rintro e WX ⟨rfl, b⟩; have S1 := Lib.hid ((b.block _ SYz).trans SY.out); have W1 := Lib.hid ((b.block _ WYz).trans WY.out); have x0w1 := Lib.hid ((b.cell (p := ⟨bl, off + k * 2, none⟩) x0wYB).trans x0wY.out); have x1w1 := Lib.hid ((b.cell (p := ⟨bl, off + k * 2 + 1, none⟩) x1wYB).trans x1wY.out); have X1 := Lib.hid ((b.block wr.heap.size (by simp)).trans XY.out); have cjW : Hid (WX.cell? ⟨V1.heap.size, 0, none⟩ = some (.int .i64 c) ∧ WX.cell? ⟨V1.heap.size, 1, none⟩ = some (.int .i64 t) ∧ WX.cell? ⟨V1.heap.size, 2, none⟩ = some (.int .i64 a) ∧ WX.cell? ⟨V3.heap.size, 0, none⟩ = some (.int .i64 c) ∧ WX.cell? ⟨V3.heap.size, 1, none⟩ = some (.int .i64 t) ∧ WX.cell? ⟨V3.heap.size, 2, none⟩ = some (.int .i64 a) ∧ WX.cell? ⟨bl, off + k * 2, none⟩ = some (.int .i64 1) ∧ WX.cell? ⟨bl, off + k * 2 + 1, none⟩ = some (.int .i64 n)) := Lib.hid ⟨blk_cell S1.out 0, blk_cell S1.out 1, blk_cell S1.out 2, blk_cell W1.out 0, blk_cell W1.out 1, blk_cell W1.out 2, x0w1.out, x1w1.out⟩; have QW := Lib.hid (qY.out.trans (b.mono qY.out.size)); have x0 := blk_free X1.out 0; have y0 := blk_cell X1.out 0; have x1 := blk_free X1.out 1; have y1 := blk_cell X1.out 1; have x2 := blk_free X1.out 2; have y2 := blk_cell X1.out 2; have cjX : Hid ((((WX.setCell ⟨wr.heap.size, 0, none⟩ (.int .i64 x)).setCell ⟨wr.heap.size, 1, none⟩ (.int .i64 x)).setCell ⟨wr.heap.size, 2, none⟩ (.int .i64 0)).cell? ⟨V1.heap.size, 0, none⟩ = some (.int .i64 c) ∧ (((WX.setCell ⟨wr.heap.size, 0, none⟩ (.int .i64 x)).setCell ⟨wr.heap.size, 1, none⟩ (.int .i64 x)).setCell ⟨wr.heap.size, 2, none⟩ (.int .i64 0)).cell? ⟨V1.heap.size, 1, none⟩ = some (.int .i64 t) ∧ (((WX.setCell ⟨wr.heap.size, 0, none⟩ (.int .i64 x)).setCell ⟨wr.heap.size, 1, none⟩ (.int .i64 x)).setCell ⟨wr.heap.size, 2, none⟩ (.int .i64 0)).cell? ⟨V1.heap.size, 2, none⟩ = some (.int .i64 a) ∧ (((WX.setCell ⟨wr.heap.size, 0, none⟩ (.int .i64 x)).setCell ⟨wr.heap.size, 1, none⟩ (.int .i64 x)).setCell ⟨wr.heap.size, 2, none⟩ (.int .i64 0)).cell? ⟨V3.heap.size, 0, none⟩ = some (.int .i64 c) ∧ (((WX.setCell ⟨wr.heap.size, 0, none⟩ (.int .i64 x)).setCell ⟨wr.heap.size, 1, none⟩ (.int .i64 x)).setCell ⟨wr.heap.size, 2, none⟩ (.int .i64 0)).cell? ⟨V3.heap.size, 1, none⟩ = some (.int .i64 t) ∧ (((WX.setCell ⟨wr.heap.size, 0, none⟩ (.int .i64 x)).setCell ⟨wr.heap.size, 1, none⟩ (.int .i64 x)).setCell ⟨wr.heap.size, 2, none⟩ (.int .i64 0)).cell? ⟨V3.heap.size, 2, none⟩ = some (.int .i64 a) ∧ (((WX.setCell ⟨wr.heap.size, 0, none⟩ (.int .i64 x)).setCell ⟨wr.heap.size, 1, none⟩ (.int .i64 x)).setCell ⟨wr.heap.size, 2, none⟩ (.int .i64 0)).cell? ⟨bl, off + k * 2, none⟩ = some (.int .i64 1) ∧ (((WX.setCell ⟨wr.heap.size, 0, none⟩ (.int .i64 x)).setCell ⟨wr.heap.size, 1, none⟩ (.int .i64 x)).setCell ⟨wr.heap.size, 2, none⟩ (.int .i64 0)).cell? ⟨bl, off + k * 2 + 1, none⟩ = some (.int .i64 n)) := Lib.hid ⟨blk_cell (blk_other (i := 2) (blk_other (i := 1) (blk_other (i := 0) S1.out SN.out (.int .i64 x)) SN.out (.int .i64 x)) SN.out (.int .i64 0)) 0, blk_cell (blk_other (i := 2) (blk_other (i := 1) (blk_other (i := 0) S1.out SN.out (.int .i64 x)) SN.out (.int .i64 x)) SN.out (.int .i64 0)) 1, blk_cell (blk_other (i := 2) (blk_other (i := 1) (blk_other (i := 0) S1.out SN.out (.int .i64 x)) SN.out (.int .i64 x)) SN.out (.int .i64 0)) 2, blk_cell (blk_other (i := 2) (blk_other (i := 1) (blk_other (i := 0) W1.out WN.out (.int .i64 x)) WN.out (.int .i64 x)) WN.out (.int .i64 0)) 0, blk_cell (blk_other (i := 2) (blk_other (i := 1) (blk_other (i := 0) W1.out WN.out (.int .i64 x)) WN.out (.int .i64 x)) WN.out (.int .i64 0)) 1, blk_cell (blk_other (i := 2) (blk_other (i := 1) (blk_other (i := 0) W1.out WN.out (.int .i64 x)) WN.out (.int .i64 x)) WN.out (.int .i64 0)) 2, (by rw [World.cell?_setCell_far _ _ _ _ x0wN, World.cell?_setCell_far _ _ _ _ x0wN, World.cell?_setCell_far _ _ _ _ x0wN]; exact x0w1.out), (by rw [World.cell?_setCell_far _ _ _ _ x1wN, World.cell?_setCell_far _ _ _ _ x1wN, World.cell?_setCell_far _ _ _ _ x1wN]; exact x1w1.out)⟩; clear b))
            all_goals
              go_wp2_with fail
              go_meet
              first
              | (have ya := (Below.refl WX.heap.size WX).alloc (Nat.le_refl _) (.cells #[.int .i64 x, .int .i64 x, .int .i64 0] 24); exact ⟨_, rfl, rfl, ⟨(ya.block _ Sz1).trans S1.out, (ya.block _ Wz1).trans W1.out⟩, blk_new WX _, VL1.out, QW.out.alloc QW.out.size _⟩)
              | exact ⟨_, rfl, rfl, ⟨(blk_other (i := 2) (blk_other (i := 1) (blk_other (i := 0) S1.out SN.out (.int .i64 x)) SN.out (.int .i64 x)) SN.out (.int .i64 0)), (blk_other (i := 2) (blk_other (i := 1) (blk_other (i := 0) W1.out WN.out (.int .i64 x)) WN.out (.int .i64 x)) WN.out (.int .i64 0))⟩, (blk_set (blk_set (blk_set X1.out 0 (.int .i64 x)) 1 (.int .i64 x)) 2 (.int .i64 0)), Nat.le_refl _, (((QW.out.setCell (p := ⟨wr.heap.size, 0, none⟩) HVL.out (.int .i64 x)).setCell (p := ⟨wr.heap.size, 1, none⟩) HVL.out (.int .i64 x)).setCell (p := ⟨wr.heap.size, 2, none⟩) HVL.out (.int .i64 0))⟩
          case rest =>
            obtain ⟨gt, rfl, rfl, ⟨kS, kW⟩, kNew, gle, hq⟩ := hcut
            clear S_0 SY W_0 WY XY cjD cjY qD qY q_0
            have q_0 := hq
            have Sz_0 := blk_lt kS
            have Sne : gt ≠ V1.heap.size := by have := SN.out; have := Sz_0; omega
            have Sne2 := Sne.symm
            have Wz_0 := blk_lt kW
            have Wne : gt ≠ V3.heap.size := by have := WN.out; have := Wz_0; omega
            have Wne2 := Wne.symm
            have gz := blk_lt kNew
            have S_0 := Lib.hid (kS)
            have Sc0_0 := blk_cell S_0.out 0
            have Sc1_0 := blk_cell S_0.out 1
            have Sc2_0 := blk_cell S_0.out 2
            have W_0 := Lib.hid (kW)
            have Wc0_0 := blk_cell W_0.out 0
            have Wc1_0 := blk_cell W_0.out 1
            have Wc2_0 := blk_cell W_0.out 2
            clear kS kW hq
            clear x0w x1w x0wH x1wH
            have T_0 := Lib.hid kNew
            clear kNew
            have x0v := (q_0.cell (p := ⟨bl, off + k * 2, none⟩) hbl).trans x0
            have x1v := (q_0.cell (p := ⟨bl, off + k * 2 + 1, none⟩) hbl).trans x1
            have Tz_0 := gz
            have Tc0_0 := blk_cell T_0.out 0
            have Tc1_0 := blk_cell T_0.out 1
            have Tc2_0 := blk_cell T_0.out 2
            have uS : wc.heap.size ≠ V1.heap.size := Nat.ne_of_gt Sz_0
            have uW : wc.heap.size ≠ V3.heap.size := Nat.ne_of_gt Wz_0
            have uT : wc.heap.size ≠ gt := Nat.ne_of_gt Tz_0
            have uB : bl < wc.heap.size := Nat.lt_of_lt_of_le hbl q_0.size
            have HUL : Hid (w.heap.size ≤ wc.heap.size) := Lib.hid q_0.size
            go_wp2_with fail
            have b : Below wc.heap.size wc (wc.alloc (.cells #[.int .i64 c, .int .i64 t, .int .i64 a] 23)) := ((Below.refl _ wc).alloc (Nat.le_refl _) (.cells #[.int .i64 c, .int .i64 t, .int .i64 a] 23))
            have nb0 := blk_new wc (.cells #[.int .i64 c, .int .i64 t, .int .i64 a] 23)
            have nz0 : wc.heap.size < (wc.alloc (.cells #[.int .i64 c, .int .i64 t, .int .i64 a] 23)).heap.size := by simp only [World.size_alloc]; omega
            have S_1 := Lib.hid ((b.block _ Sz_0).trans S_0.out)
            have Sz_1 := Nat.lt_of_lt_of_le Sz_0 b.size
            have Sc0_1 := blk_cell S_1.out 0
            have Sc1_1 := blk_cell S_1.out 1
            have Sc2_1 := blk_cell S_1.out 2
            have W_1 := Lib.hid ((b.block _ Wz_0).trans W_0.out)
            have Wz_1 := Nat.lt_of_lt_of_le Wz_0 b.size
            have Wc0_1 := blk_cell W_1.out 0
            have Wc1_1 := blk_cell W_1.out 1
            have Wc2_1 := blk_cell W_1.out 2
            have T_1 := Lib.hid ((b.block _ Tz_0).trans T_0.out)
            have Tz_1 := Nat.lt_of_lt_of_le Tz_0 b.size
            have Tc0_1 := blk_cell T_1.out 0
            have Tc1_1 := blk_cell T_1.out 1
            have Tc2_1 := blk_cell T_1.out 2
            have q_1 := q_0.trans (b.mono q_0.size)
            clear S_0 Sz_0 Sc0_0 Sc1_0 Sc2_0 W_0 Wz_0 Wc0_0 Wc1_0 Wc2_0 T_0 Tz_0 Tc0_0 Tc1_0 Tc2_0 q_0
            clear b
            have U_1 := Lib.hid nb0
            have Uz_1 := nz0
            clear nb0 nz0
            have Uc0_1 := blk_cell U_1.out 0
            have Uc1_1 := blk_cell U_1.out 1
            have Uc2_1 := blk_cell U_1.out 2
            generalize (wc.alloc (.cells #[.int .i64 c, .int .i64 t, .int .i64 a] 23)) = V41 at q_1 S_1 Sz_1 Sc0_1 Sc1_1 Sc2_1 W_1 Wz_1 Wc0_1 Wc1_1 Wc2_1 T_1 Tz_1 Tc0_1 Tc1_1 Tc2_1 U_1 Uz_1 Uc0_1 Uc1_1 Uc2_1 ⊢
            have x1u := (q_1.cell (p := ⟨bl, off + k * 2 + 1, none⟩) hbl).trans x1
            clear x0v x1v
            have SD : Hid (V41.drew.cell? ⟨V3.heap.size, 0, none⟩ = some (.int .i64 c) ∧ V41.drew.cell? ⟨V3.heap.size, 1, none⟩ = some (.int .i64 t) ∧ V41.drew.cell? ⟨V3.heap.size, 2, none⟩ = some (.int .i64 a) ∧ V41.drew.cell? ⟨bl, off + k * 2 + 1, none⟩ = some (.int .i64 n)) := Lib.hid ⟨blk_cell W_1.out 0, blk_cell W_1.out 1, blk_cell W_1.out 2, x1u⟩
            have x1H := Lib.hid x1u
            clear Sc0_1 Sc1_1 Sc2_1
            clear Wc0_1 Wc1_1 Wc2_1
            clear Tc0_1 Tc1_1 Tc2_1
            clear Uc0_1 Uc1_1 Uc2_1
            have S_2 := Lib.hid ((((Below.refl V41.heap.size V41).drew).block _ Sz_1).trans S_1.out)
            have Sz_2 := Nat.lt_of_lt_of_le Sz_1 ((Below.refl V41.heap.size V41).drew).size
            have W_2 := Lib.hid ((((Below.refl V41.heap.size V41).drew).block _ Wz_1).trans W_1.out)
            have Wz_2 := Nat.lt_of_lt_of_le Wz_1 ((Below.refl V41.heap.size V41).drew).size
            have T_2 := Lib.hid ((((Below.refl V41.heap.size V41).drew).block _ Tz_1).trans T_1.out)
            have Tz_2 := Nat.lt_of_lt_of_le Tz_1 ((Below.refl V41.heap.size V41).drew).size
            have U_2 := Lib.hid ((((Below.refl V41.heap.size V41).drew).block _ Uz_1).trans U_1.out)
            have Uz_2 := Nat.lt_of_lt_of_le Uz_1 ((Below.refl V41.heap.size V41).drew).size
            have q_2 := q_1.trans (((Below.refl V41.heap.size V41).drew).mono q_1.size)
            clear S_1 Sz_1 W_1 Wz_1 T_1 Tz_1 U_1 Uz_1 q_1
            have uBn : wc.heap.size ≠ bl := Nat.ne_of_gt uB
            have uTn := uT.symm
            go_region_held3 (fun W' => W'.cell? ⟨V3.heap.size, 0, none⟩ = some (.int .i64 c) ∧ W'.cell? ⟨V3.heap.size, 1, none⟩ = some (.int .i64 t) ∧ W'.cell? ⟨V3.heap.size, 2, none⟩ = some (.int .i64 a) ∧ W'.cell? ⟨bl, off + k * 2 + 1, none⟩ = some (.int .i64 n)) (first | (with_reducible exact SD.out) | (with_reducible exact SW.out) | (with_reducible exact SXh.out) | go_keep) (first
              | (go_at_call 10; (with_reducible refine (rloss_l c t a m n 0 x HE.out Hx.out (V41.drew)).mono ?_); rintro e V42 ⟨rfl, b⟩; have S_3 := Lib.hid ((b.block _ Sz_2).trans S_2.out); have Sz_3 := Nat.lt_of_lt_of_le Sz_2 b.size; have W_3 := Lib.hid ((b.block _ Wz_2).trans W_2.out); have Wz_3 := Nat.lt_of_lt_of_le Wz_2 b.size; have T_3 := Lib.hid ((b.block _ Tz_2).trans T_2.out); have Tz_3 := Nat.lt_of_lt_of_le Tz_2 b.size; have U_3 := Lib.hid ((b.block _ Uz_2).trans U_2.out); have Uz_3 := Nat.lt_of_lt_of_le Uz_2 b.size; have q_3 := q_2.trans (b.mono q_2.size); clear S_2 Sz_2 W_2 Wz_2 T_2 Tz_2 U_2 Uz_2 q_2; clear b; have SW : Hid (V42.cell? ⟨V3.heap.size, 0, none⟩ = some (.int .i64 c) ∧ V42.cell? ⟨V3.heap.size, 1, none⟩ = some (.int .i64 t) ∧ V42.cell? ⟨V3.heap.size, 2, none⟩ = some (.int .i64 a) ∧ V42.cell? ⟨bl, off + k * 2 + 1, none⟩ = some (.int .i64 n)) := Lib.hid ⟨blk_cell W_3.out 0, blk_cell W_3.out 1, blk_cell W_3.out 2, (q_3.cell (p := ⟨bl, off + k * 2 + 1, none⟩) hbl).trans x1⟩; have Uc0 := blk_cell U_3.out 0; have Uf0 := blk_free U_3.out 0; have Tc0 := blk_cell T_3.out 0; have Uc1 := blk_cell U_3.out 1; have Uf1 := blk_free U_3.out 1; have Tc1 := blk_cell T_3.out 1; have Uc2 := blk_cell U_3.out 2; have Uf2 := blk_free U_3.out 2; have Tc2 := blk_cell T_3.out 2; have SXh : Hid ((((V42.setCell ⟨wc.heap.size, 0, none⟩ (.int .i64 x)).setCell ⟨wc.heap.size, 1, none⟩ (.int .i64 x)).setCell ⟨wc.heap.size, 2, none⟩ (.int .i64 0)).cell? ⟨V3.heap.size, 0, none⟩ = some (.int .i64 c) ∧ (((V42.setCell ⟨wc.heap.size, 0, none⟩ (.int .i64 x)).setCell ⟨wc.heap.size, 1, none⟩ (.int .i64 x)).setCell ⟨wc.heap.size, 2, none⟩ (.int .i64 0)).cell? ⟨V3.heap.size, 1, none⟩ = some (.int .i64 t) ∧ (((V42.setCell ⟨wc.heap.size, 0, none⟩ (.int .i64 x)).setCell ⟨wc.heap.size, 1, none⟩ (.int .i64 x)).setCell ⟨wc.heap.size, 2, none⟩ (.int .i64 0)).cell? ⟨V3.heap.size, 2, none⟩ = some (.int .i64 a) ∧ (((V42.setCell ⟨wc.heap.size, 0, none⟩ (.int .i64 x)).setCell ⟨wc.heap.size, 1, none⟩ (.int .i64 x)).setCell ⟨wc.heap.size, 2, none⟩ (.int .i64 0)).cell? ⟨bl, off + k * 2 + 1, none⟩ = some (.int .i64 n)) := Lib.hid ⟨blk_cell (blk_other (i := 2) (blk_other (i := 1) (blk_other (i := 0) W_3.out uW (.int .i64 x)) uW (.int .i64 x)) uW (.int .i64 0)) 0, blk_cell (blk_other (i := 2) (blk_other (i := 1) (blk_other (i := 0) W_3.out uW (.int .i64 x)) uW (.int .i64 x)) uW (.int .i64 0)) 1, blk_cell (blk_other (i := 2) (blk_other (i := 1) (blk_other (i := 0) W_3.out uW (.int .i64 x)) uW (.int .i64 x)) uW (.int .i64 0)) 2, (by rw [World.cell?_setCell_far _ _ _ _ uBn, World.cell?_setCell_far _ _ _ _ uBn, World.cell?_setCell_far _ _ _ _ uBn]; exact SW.out.2.2.2)⟩))
            go_wp2_with fail
            have QN := Lib.hid q_3
            have ZS : Hid (((((V42.setCell ⟨wc.heap.size, 0, none⟩ (.int .i64 x)).setCell ⟨wc.heap.size, 1, none⟩ (.int .i64 x)).setCell ⟨wc.heap.size, 2, none⟩ (.int .i64 0))).heap[V1.heap.size]? = some (.cells #[.int .i64 c, .int .i64 t, .int .i64 a] 24 (0, 0))) := Lib.hid (blk_other (i := 2) (blk_other (i := 1) (blk_other (i := 0) S_3.out uS (.int .i64 x)) uS (.int .i64 x)) uS (.int .i64 0))
            have ZW : Hid (((((V42.setCell ⟨wc.heap.size, 0, none⟩ (.int .i64 x)).setCell ⟨wc.heap.size, 1, none⟩ (.int .i64 x)).setCell ⟨wc.heap.size, 2, none⟩ (.int .i64 0))).heap[V3.heap.size]? = some (.cells #[.int .i64 c, .int .i64 t, .int .i64 a] 23 (0, 0))) := Lib.hid (blk_other (i := 2) (blk_other (i := 1) (blk_other (i := 0) W_3.out uW (.int .i64 x)) uW (.int .i64 x)) uW (.int .i64 0))
            have ZT : Hid (((((V42.setCell ⟨wc.heap.size, 0, none⟩ (.int .i64 x)).setCell ⟨wc.heap.size, 1, none⟩ (.int .i64 x)).setCell ⟨wc.heap.size, 2, none⟩ (.int .i64 0))).heap[gt]? = some (.cells #[.int .i64 x, .int .i64 x, .int .i64 0] 24 (0, 0))) := Lib.hid (blk_other (i := 2) (blk_other (i := 1) (blk_other (i := 0) T_3.out uT (.int .i64 x)) uT (.int .i64 x)) uT (.int .i64 0))
            have ZU : Hid (((((V42.setCell ⟨wc.heap.size, 0, none⟩ (.int .i64 x)).setCell ⟨wc.heap.size, 1, none⟩ (.int .i64 x)).setCell ⟨wc.heap.size, 2, none⟩ (.int .i64 0))).heap[wc.heap.size]? = some (.cells #[.int .i64 x, .int .i64 x, .int .i64 0] 23 (0, 0))) := Lib.hid (blk_set (blk_set (blk_set U_3.out 0 (.int .i64 x)) 1 (.int .i64 x)) 2 (.int .i64 0))
            have ZQ : Below w.heap.size w (((V42.setCell ⟨wc.heap.size, 0, none⟩ (.int .i64 x)).setCell ⟨wc.heap.size, 1, none⟩ (.int .i64 x)).setCell ⟨wc.heap.size, 2, none⟩ (.int .i64 0)) := (((QN.out.setCell (p := ⟨wc.heap.size, 0, none⟩) HUL.out (.int .i64 x)).setCell (p := ⟨wc.heap.size, 1, none⟩) HUL.out (.int .i64 x)).setCell (p := ⟨wc.heap.size, 2, none⟩) HUL.out (.int .i64 0))
            clear SW SD SXh QN q_3 Uc0 Uf0 Tc0 Uc1 Uf1 Tc1 Uc2 Uf2 Tc2 S_3 W_3 T_3 U_3
            generalize (((V42.setCell ⟨wc.heap.size, 0, none⟩ (.int .i64 x)).setCell ⟨wc.heap.size, 1, none⟩ (.int .i64 x)).setCell ⟨wc.heap.size, 2, none⟩ (.int .i64 0)) = Z at ZS ZW ZT ZU ZQ ⊢
            refine (num_any _ _).mono ?_
            rintro e w' ⟨rfl, rfl⟩
            have ZSc0 := blk_cell ZS.out 0
            have ZSf0 := blk_free ZS.out 0
            have ZSc1 := blk_cell ZS.out 1
            have ZSf1 := blk_free ZS.out 1
            have ZSc2 := blk_cell ZS.out 2
            have ZSf2 := blk_free ZS.out 2
            have ZWc0 := blk_cell ZW.out 0
            have ZWf0 := blk_free ZW.out 0
            have ZWc1 := blk_cell ZW.out 1
            have ZWf1 := blk_free ZW.out 1
            have ZWc2 := blk_cell ZW.out 2
            have ZWf2 := blk_free ZW.out 2
            have ZTc0 := blk_cell ZT.out 0
            have ZTf0 := blk_free ZT.out 0
            have ZTc1 := blk_cell ZT.out 1
            have ZTf1 := blk_free ZT.out 1
            have ZTc2 := blk_cell ZT.out 2
            have ZTf2 := blk_free ZT.out 2
            have ZUc0 := blk_cell ZU.out 0
            have ZUf0 := blk_free ZU.out 0
            have ZUc1 := blk_cell ZU.out 1
            have ZUf1 := blk_free ZU.out 1
            have ZUc2 := blk_cell ZU.out 2
            have ZUf2 := blk_free ZU.out 2
            have nsw := NSW.out
            have nws := nsw.symm
            have uSn := uS.symm
            have uWn := uW.symm
            go_wp2_with fail
            have tS : V1.heap.size ≠ gt := Sne2
            have tW : V3.heap.size ≠ gt := Wne2
            have SE0 : Hid (Z.drew.cell? ⟨gt, 0, none⟩ = some (.int .i64 x) ∧ Z.drew.cell? ⟨gt, 1, none⟩ = some (.int .i64 x) ∧ Z.drew.cell? ⟨gt, 2, none⟩ = some (.int .i64 0) ∧ Z.drew.cell? ⟨wc.heap.size, 0, none⟩ = some (.int .i64 x) ∧ Z.drew.cell? ⟨wc.heap.size, 1, none⟩ = some (.int .i64 x) ∧ Z.drew.cell? ⟨wc.heap.size, 2, none⟩ = some (.int .i64 0)) := Lib.hid ⟨blk_cell (blk_drew ZT.out) 0, blk_cell (blk_drew ZT.out) 1, blk_cell (blk_drew ZT.out) 2, blk_cell (blk_drew ZU.out) 0, blk_cell (blk_drew ZU.out) 1, blk_cell (blk_drew ZU.out) 2⟩
            have SES : Hid ((((Z.setCell ⟨V1.heap.size, 0, none⟩ (.int .i64 x)).setCell ⟨V1.heap.size, 1, none⟩ (.int .i64 x)).setCell ⟨V1.heap.size, 2, none⟩ (.int .i64 0)).drew.cell? ⟨gt, 0, none⟩ = some (.int .i64 x) ∧ (((Z.setCell ⟨V1.heap.size, 0, none⟩ (.int .i64 x)).setCell ⟨V1.heap.size, 1, none⟩ (.int .i64 x)).setCell ⟨V1.heap.size, 2, none⟩ (.int .i64 0)).drew.cell? ⟨gt, 1, none⟩ = some (.int .i64 x) ∧ (((Z.setCell ⟨V1.heap.size, 0, none⟩ (.int .i64 x)).setCell ⟨V1.heap.size, 1, none⟩ (.int .i64 x)).setCell ⟨V1.heap.size, 2, none⟩ (.int .i64 0)).drew.cell? ⟨gt, 2, none⟩ = some (.int .i64 0) ∧ (((Z.setCell ⟨V1.heap.size, 0, none⟩ (.int .i64 x)).setCell ⟨V1.heap.size, 1, none⟩ (.int .i64 x)).setCell ⟨V1.heap.size, 2, none⟩ (.int .i64 0)).drew.cell? ⟨wc.heap.size, 0, none⟩ = some (.int .i64 x) ∧ (((Z.setCell ⟨V1.heap.size, 0, none⟩ (.int .i64 x)).setCell ⟨V1.heap.size, 1, none⟩ (.int .i64 x)).setCell ⟨V1.heap.size, 2, none⟩ (.int .i64 0)).drew.cell? ⟨wc.heap.size, 1, none⟩ = some (.int .i64 x) ∧ (((Z.setCell ⟨V1.heap.size, 0, none⟩ (.int .i64 x)).setCell ⟨V1.heap.size, 1, none⟩ (.int .i64 x)).setCell ⟨V1.heap.size, 2, none⟩ (.int .i64 0)).drew.cell? ⟨wc.heap.size, 2, none⟩ = some (.int .i64 0)) := Lib.hid ⟨blk_cell (blk_drew (blk_other (i := 2) (blk_other (i := 1) (blk_other (i := 0) ZT.out tS (.int .i64 x)) tS (.int .i64 x)) tS (.int .i64 0))) 0, blk_cell (blk_drew (blk_other (i := 2) (blk_other (i := 1) (blk_other (i := 0) ZT.out tS (.int .i64 x)) tS (.int .i64 x)) tS (.int .i64 0))) 1, blk_cell (blk_drew (blk_other (i := 2) (blk_other (i := 1) (blk_other (i := 0) ZT.out tS (.int .i64 x)) tS (.int .i64 x)) tS (.int .i64 0))) 2, blk_cell (blk_drew (blk_other (i := 2) (blk_other (i := 1) (blk_other (i := 0) ZU.out uSn (.int .i64 x)) uSn (.int .i64 x)) uSn (.int .i64 0))) 0, blk_cell (blk_drew (blk_other (i := 2) (blk_other (i := 1) (blk_other (i := 0) ZU.out uSn (.int .i64 x)) uSn (.int .i64 x)) uSn (.int .i64 0))) 1, blk_cell (blk_drew (blk_other (i := 2) (blk_other (i := 1) (blk_other (i := 0) ZU.out uSn (.int .i64 x)) uSn (.int .i64 x)) uSn (.int .i64 0))) 2⟩
            have SEW : Hid (((((((Z.setCell ⟨V1.heap.size, 0, none⟩ (.int .i64 x)).setCell ⟨V1.heap.size, 1, none⟩ (.int .i64 x)).setCell ⟨V1.heap.size, 2, none⟩ (.int .i64 0)).setCell ⟨V3.heap.size, 0, none⟩ (.int .i64 x)).setCell ⟨V3.heap.size, 1, none⟩ (.int .i64 x)).setCell ⟨V3.heap.size, 2, none⟩ (.int .i64 0)).drew.cell? ⟨gt, 0, none⟩ = some (.int .i64 x) ∧ ((((((Z.setCell ⟨V1.heap.size, 0, none⟩ (.int .i64 x)).setCell ⟨V1.heap.size, 1, none⟩ (.int .i64 x)).setCell ⟨V1.heap.size, 2, none⟩ (.int .i64 0)).setCell ⟨V3.heap.size, 0, none⟩ (.int .i64 x)).setCell ⟨V3.heap.size, 1, none⟩ (.int .i64 x)).setCell ⟨V3.heap.size, 2, none⟩ (.int .i64 0)).drew.cell? ⟨gt, 1, none⟩ = some (.int .i64 x) ∧ ((((((Z.setCell ⟨V1.heap.size, 0, none⟩ (.int .i64 x)).setCell ⟨V1.heap.size, 1, none⟩ (.int .i64 x)).setCell ⟨V1.heap.size, 2, none⟩ (.int .i64 0)).setCell ⟨V3.heap.size, 0, none⟩ (.int .i64 x)).setCell ⟨V3.heap.size, 1, none⟩ (.int .i64 x)).setCell ⟨V3.heap.size, 2, none⟩ (.int .i64 0)).drew.cell? ⟨gt, 2, none⟩ = some (.int .i64 0) ∧ ((((((Z.setCell ⟨V1.heap.size, 0, none⟩ (.int .i64 x)).setCell ⟨V1.heap.size, 1, none⟩ (.int .i64 x)).setCell ⟨V1.heap.size, 2, none⟩ (.int .i64 0)).setCell ⟨V3.heap.size, 0, none⟩ (.int .i64 x)).setCell ⟨V3.heap.size, 1, none⟩ (.int .i64 x)).setCell ⟨V3.heap.size, 2, none⟩ (.int .i64 0)).drew.cell? ⟨wc.heap.size, 0, none⟩ = some (.int .i64 x) ∧ ((((((Z.setCell ⟨V1.heap.size, 0, none⟩ (.int .i64 x)).setCell ⟨V1.heap.size, 1, none⟩ (.int .i64 x)).setCell ⟨V1.heap.size, 2, none⟩ (.int .i64 0)).setCell ⟨V3.heap.size, 0, none⟩ (.int .i64 x)).setCell ⟨V3.heap.size, 1, none⟩ (.int .i64 x)).setCell ⟨V3.heap.size, 2, none⟩ (.int .i64 0)).drew.cell? ⟨wc.heap.size, 1, none⟩ = some (.int .i64 x) ∧ ((((((Z.setCell ⟨V1.heap.size, 0, none⟩ (.int .i64 x)).setCell ⟨V1.heap.size, 1, none⟩ (.int .i64 x)).setCell ⟨V1.heap.size, 2, none⟩ (.int .i64 0)).setCell ⟨V3.heap.size, 0, none⟩ (.int .i64 x)).setCell ⟨V3.heap.size, 1, none⟩ (.int .i64 x)).setCell ⟨V3.heap.size, 2, none⟩ (.int .i64 0)).drew.cell? ⟨wc.heap.size, 2, none⟩ = some (.int .i64 0)) := Lib.hid ⟨blk_cell (blk_drew (blk_other (i := 2) (blk_other (i := 1) (blk_other (i := 0) (blk_other (i := 2) (blk_other (i := 1) (blk_other (i := 0) ZT.out tS (.int .i64 x)) tS (.int .i64 x)) tS (.int .i64 0)) tW (.int .i64 x)) tW (.int .i64 x)) tW (.int .i64 0))) 0, blk_cell (blk_drew (blk_other (i := 2) (blk_other (i := 1) (blk_other (i := 0) (blk_other (i := 2) (blk_other (i := 1) (blk_other (i := 0) ZT.out tS (.int .i64 x)) tS (.int .i64 x)) tS (.int .i64 0)) tW (.int .i64 x)) tW (.int .i64 x)) tW (.int .i64 0))) 1, blk_cell (blk_drew (blk_other (i := 2) (blk_other (i := 1) (blk_other (i := 0) (blk_other (i := 2) (blk_other (i := 1) (blk_other (i := 0) ZT.out tS (.int .i64 x)) tS (.int .i64 x)) tS (.int .i64 0)) tW (.int .i64 x)) tW (.int .i64 x)) tW (.int .i64 0))) 2, blk_cell (blk_drew (blk_other (i := 2) (blk_other (i := 1) (blk_other (i := 0) (blk_other (i := 2) (blk_other (i := 1) (blk_other (i := 0) ZU.out uSn (.int .i64 x)) uSn (.int .i64 x)) uSn (.int .i64 0)) uWn (.int .i64 x)) uWn (.int .i64 x)) uWn (.int .i64 0))) 0, blk_cell (blk_drew (blk_other (i := 2) (blk_other (i := 1) (blk_other (i := 0) (blk_other (i := 2) (blk_other (i := 1) (blk_other (i := 0) ZU.out uSn (.int .i64 x)) uSn (.int .i64 x)) uSn (.int .i64 0)) uWn (.int .i64 x)) uWn (.int .i64 x)) uWn (.int .i64 0))) 1, blk_cell (blk_drew (blk_other (i := 2) (blk_other (i := 1) (blk_other (i := 0) (blk_other (i := 2) (blk_other (i := 1) (blk_other (i := 0) ZU.out uSn (.int .i64 x)) uSn (.int .i64 x)) uSn (.int .i64 0)) uWn (.int .i64 x)) uWn (.int .i64 x)) uWn (.int .i64 0))) 2⟩
            have FS : Hid (((((((Z.setCell ⟨V1.heap.size, 0, none⟩ (.int .i64 x)).setCell ⟨V1.heap.size, 1, none⟩ (.int .i64 x)).setCell ⟨V1.heap.size, 2, none⟩ (.int .i64 0)).setCell ⟨V3.heap.size, 0, none⟩ (.int .i64 x)).setCell ⟨V3.heap.size, 1, none⟩ (.int .i64 x)).setCell ⟨V3.heap.size, 2, none⟩ (.int .i64 0)).drew.heap[V1.heap.size]? = some (.cells #[.int .i64 x, .int .i64 x, .int .i64 0] 24 (0, 0))) := Lib.hid (blk_drew (blk_other (i := 2) (blk_other (i := 1) (blk_other (i := 0) (blk_set (blk_set (blk_set ZS.out 0 (.int .i64 x)) 1 (.int .i64 x)) 2 (.int .i64 0)) nws (.int .i64 x)) nws (.int .i64 x)) nws (.int .i64 0)))
            have FW : Hid (((((((Z.setCell ⟨V1.heap.size, 0, none⟩ (.int .i64 x)).setCell ⟨V1.heap.size, 1, none⟩ (.int .i64 x)).setCell ⟨V1.heap.size, 2, none⟩ (.int .i64 0)).setCell ⟨V3.heap.size, 0, none⟩ (.int .i64 x)).setCell ⟨V3.heap.size, 1, none⟩ (.int .i64 x)).setCell ⟨V3.heap.size, 2, none⟩ (.int .i64 0)).drew.heap[V3.heap.size]? = some (.cells #[.int .i64 x, .int .i64 x, .int .i64 0] 23 (0, 0))) := Lib.hid (blk_drew (blk_set (blk_set (blk_set (blk_other (i := 2) (blk_other (i := 1) (blk_other (i := 0) ZW.out nsw (.int .i64 x)) nsw (.int .i64 x)) nsw (.int .i64 0)) 0 (.int .i64 x)) 1 (.int .i64 x)) 2 (.int .i64 0)))
            have FQ : Hid (Below w.heap.size w ((((((Z.setCell ⟨V1.heap.size, 0, none⟩ (.int .i64 x)).setCell ⟨V1.heap.size, 1, none⟩ (.int .i64 x)).setCell ⟨V1.heap.size, 2, none⟩ (.int .i64 0)).setCell ⟨V3.heap.size, 0, none⟩ (.int .i64 x)).setCell ⟨V3.heap.size, 1, none⟩ (.int .i64 x)).setCell ⟨V3.heap.size, 2, none⟩ (.int .i64 0)).drew) := Lib.hid ((((((ZQ.setCell (p := ⟨V1.heap.size, 0, none⟩) HLE1.out (.int .i64 x)).setCell (p := ⟨V1.heap.size, 1, none⟩) HLE1.out (.int .i64 x)).setCell (p := ⟨V1.heap.size, 2, none⟩) HLE1.out (.int .i64 0)).setCell (p := ⟨V3.heap.size, 0, none⟩) HLE3.out (.int .i64 x)).setCell (p := ⟨V3.heap.size, 1, none⟩) HLE3.out (.int .i64 x)).setCell (p := ⟨V3.heap.size, 2, none⟩) HLE3.out (.int .i64 0)).drew
            go_region_held3 (fun W' => W'.cell? ⟨gt, 0, none⟩ = some (.int .i64 x) ∧ W'.cell? ⟨gt, 1, none⟩ = some (.int .i64 x) ∧ W'.cell? ⟨gt, 2, none⟩ = some (.int .i64 0) ∧ W'.cell? ⟨wc.heap.size, 0, none⟩ = some (.int .i64 x) ∧ W'.cell? ⟨wc.heap.size, 1, none⟩ = some (.int .i64 x) ∧ W'.cell? ⟨wc.heap.size, 2, none⟩ = some (.int .i64 0)) (first | (with_reducible exact SE0.out) | (with_reducible exact SES.out) | (with_reducible exact SEW.out)) (first
              | fail)
            all_goals
              clear SE0 SES SEW ZSc0 ZSf0 ZSc1 ZSf1 ZSc2 ZSf2 ZWc0 ZWf0 ZWc1 ZWf1 ZWc2 ZWf2 ZTc0 ZTf0 ZTc1 ZTf1 ZTc2 ZTf2 ZUc0 ZUf0 ZUc1 ZUf1 ZUc2 ZUf2 ZS ZW ZT ZU ZQ
              generalize ((((((Z.setCell ⟨V1.heap.size, 0, none⟩ (.int .i64 x)).setCell ⟨V1.heap.size, 1, none⟩ (.int .i64 x)).setCell ⟨V1.heap.size, 2, none⟩ (.int .i64 0)).setCell ⟨V3.heap.size, 0, none⟩ (.int .i64 x)).setCell ⟨V3.heap.size, 1, none⟩ (.int .i64 x)).setCell ⟨V3.heap.size, 2, none⟩ (.int .i64 0)).drew = Z2 at FS FW FQ ⊢
              have zc0 := blk_cell FS.out 0
              go_wp2_with fail
              go_roundw
              case rel => (with_reducible exact ⟨k + 1, _, _, _, by omega, by go_num, HN, FS.out, FW.out, FQ.out⟩)
              case measure => simp [intOf]; omega
        case neg =>
          have e2 : (E == 0) = false := by rw [beq_eq_false_iff_ne]; exact hE
          clear hEE hE
          have x0w := (q_0.cell (p := ⟨bl, off + k * 2, none⟩) hbl).trans x0
          have x1w := (q_0.cell (p := ⟨bl, off + k * 2 + 1, none⟩) hbl).trans x1
          have y := ((Below.refl wr.heap.size wr).alloc (Nat.le_refl _) (.cells #[.int .i64 0, .int .i64 0, .int .i64 0] 24)).drew
          have SY := Lib.hid ((y.block _ Sz_0).trans S_0.out)
          have SYz := Nat.lt_of_lt_of_le Sz_0 y.size
          have SN : Hid (wr.heap.size ≠ V1.heap.size) := Lib.hid (Nat.ne_of_gt Sz_0)
          have WY := Lib.hid ((y.block _ Wz_0).trans W_0.out)
          have WYz := Nat.lt_of_lt_of_le Wz_0 y.size
          have WN : Hid (wr.heap.size ≠ V3.heap.size) := Lib.hid (Nat.ne_of_gt Wz_0)
          have x0wB : bl < wr.heap.size := Nat.lt_of_lt_of_le hbl q_0.size
          have x0wY := Lib.hid ((y.cell (p := ⟨bl, off + k * 2, none⟩) x0wB).trans x0w)
          have x0wYB := Nat.lt_of_lt_of_le x0wB y.size
          have x0wN : wr.heap.size ≠ bl := Nat.ne_of_gt x0wB
          have x0wH := Lib.hid x0w
          have x1wB : bl < wr.heap.size := Nat.lt_of_lt_of_le hbl q_0.size
          have x1wY := Lib.hid ((y.cell (p := ⟨bl, off + k * 2 + 1, none⟩) x1wB).trans x1w)
          have x1wYB := Nat.lt_of_lt_of_le x1wB y.size
          have x1wN : wr.heap.size ≠ bl := Nat.ne_of_gt x1wB
          have x1wH := Lib.hid x1w
          have XY := Lib.hid (blk_new wr (.cells #[.int .i64 0, .int .i64 0, .int .i64 0] 24))
          have cjD : Hid (wr.drew.cell? ⟨V1.heap.size, 0, none⟩ = some (.int .i64 c) ∧ wr.drew.cell? ⟨V1.heap.size, 1, none⟩ = some (.int .i64 t) ∧ wr.drew.cell? ⟨V1.heap.size, 2, none⟩ = some (.int .i64 a) ∧ wr.drew.cell? ⟨V3.heap.size, 0, none⟩ = some (.int .i64 c) ∧ wr.drew.cell? ⟨V3.heap.size, 1, none⟩ = some (.int .i64 t) ∧ wr.drew.cell? ⟨V3.heap.size, 2, none⟩ = some (.int .i64 a) ∧ wr.drew.cell? ⟨bl, off + k * 2, none⟩ = some (.int .i64 1) ∧ wr.drew.cell? ⟨bl, off + k * 2 + 1, none⟩ = some (.int .i64 n)) := Lib.hid ⟨blk_cell S_0.out 0, blk_cell S_0.out 1, blk_cell S_0.out 2, blk_cell W_0.out 0, blk_cell W_0.out 1, blk_cell W_0.out 2, x0w, x1w⟩
          have cjY : Hid ((wr.alloc (.cells #[.int .i64 0, .int .i64 0, .int .i64 0] 24)).drew.cell? ⟨V1.heap.size, 0, none⟩ = some (.int .i64 c) ∧ (wr.alloc (.cells #[.int .i64 0, .int .i64 0, .int .i64 0] 24)).drew.cell? ⟨V1.heap.size, 1, none⟩ = some (.int .i64 t) ∧ (wr.alloc (.cells #[.int .i64 0, .int .i64 0, .int .i64 0] 24)).drew.cell? ⟨V1.heap.size, 2, none⟩ = some (.int .i64 a) ∧ (wr.alloc (.cells #[.int .i64 0, .int .i64 0, .int .i64 0] 24)).drew.cell? ⟨V3.heap.size, 0, none⟩ = some (.int .i64 c) ∧ (wr.alloc (.cells #[.int .i64 0, .int .i64 0, .int .i64 0] 24)).drew.cell? ⟨V3.heap.size, 1, none⟩ = some (.int .i64 t) ∧ (wr.alloc (.cells #[.int .i64 0, .int .i64 0, .int .i64 0] 24)).drew.cell? ⟨V3.heap.size, 2, none⟩ = some (.int .i64 a) ∧ (wr.alloc (.cells #[.int .i64 0, .int .i64 0, .int .i64 0] 24)).drew.cell? ⟨bl, off + k * 2, none⟩ = some (.int .i64 1) ∧ (wr.alloc (.cells #[.int .i64 0, .int .i64 0, .int .i64 0] 24)).drew.cell? ⟨bl, off + k * 2 + 1, none⟩ = some (.int .i64 n)) := Lib.hid ⟨blk_cell SY.out 0, blk_cell SY.out 1, blk_cell SY.out 2, blk_cell WY.out 0, blk_cell WY.out 1, blk_cell WY.out 2, x0wY.out, x1wY.out⟩
          have qD := Lib.hid q_0.drew
          have qY := Lib.hid (q_0.trans (y.mono q_0.size))
          have HVL : Hid (w.heap.size ≤ wr.heap.size) := Lib.hid q_0.size
          clear y
          go_wp2_with fail
          go_cut [10, 11] (fun (pt pe : Value) (wx : World) => BoxCut wr (fun W' : World => W'.heap[V1.heap.size]? = some (.cells #[.int .i64 c, .int .i64 t, .int .i64 a] 24 (0, 0)) ∧ W'.heap[V3.heap.size]? = some (.cells #[.int .i64 c, .int .i64 t, .int .i64 a] 23 (0, 0))) #[.int .i64 x, .int .i64 x, .int .i64 0] 24 (.int .i64 E) w pt pe wx)
          case first =>
            go_region_held3 (fun W' => W'.cell? ⟨V1.heap.size, 0, none⟩ = some (.int .i64 c) ∧ W'.cell? ⟨V1.heap.size, 1, none⟩ = some (.int .i64 t) ∧ W'.cell? ⟨V1.heap.size, 2, none⟩ = some (.int .i64 a) ∧ W'.cell? ⟨V3.heap.size, 0, none⟩ = some (.int .i64 c) ∧ W'.cell? ⟨V3.heap.size, 1, none⟩ = some (.int .i64 t) ∧ W'.cell? ⟨V3.heap.size, 2, none⟩ = some (.int .i64 a) ∧ W'.cell? ⟨bl, off + k * 2, none⟩ = some (.int .i64 1) ∧ W'.cell? ⟨bl, off + k * 2 + 1, none⟩ = some (.int .i64 n)) (first | (with_reducible exact cjD.out) | (with_reducible exact cjY.out) | (with_reducible exact cjW.out) | (with_reducible exact cjA.out _) | (with_reducible exact cjX.out) | go_keep) (first
              | (go_at_call 19; (with_reducible refine (after_1 c t a m n E x HE.out Hx.out wr.drew).mono ?_); rintro e WX ⟨rfl, b⟩; have S1 := Lib.hid ((b.block _ Sz_0).trans S_0.out); have Sz1 := Nat.lt_of_lt_of_le Sz_0 b.size; have W1 := Lib.hid ((b.block _ Wz_0).trans W_0.out); have Wz1 := Nat.lt_of_lt_of_le Wz_0 b.size; have x0w1 := Lib.hid ((b.cell (p := ⟨bl, off + k * 2, none⟩) x0wB).trans x0wH.out); have x0wz1 : bl < WX.heap.size := Nat.lt_of_lt_of_le x0wB b.size; have x1w1 := Lib.hid ((b.cell (p := ⟨bl, off + k * 2 + 1, none⟩) x1wB).trans x1wH.out); have x1wz1 : bl < WX.heap.size := Nat.lt_of_lt_of_le x1wB b.size; have cjW : Hid (WX.cell? ⟨V1.heap.size, 0, none⟩ = some (.int .i64 c) ∧ WX.cell? ⟨V1.heap.size, 1, none⟩ = some (.int .i64 t) ∧ WX.cell? ⟨V1.heap.size, 2, none⟩ = some (.int .i64 a) ∧ WX.cell? ⟨V3.heap.size, 0, none⟩ = some (.int .i64 c) ∧ WX.cell? ⟨V3.heap.size, 1, none⟩ = some (.int .i64 t) ∧ WX.cell? ⟨V3.heap.size, 2, none⟩ = some (.int .i64 a) ∧ WX.cell? ⟨bl, off + k * 2, none⟩ = some (.int .i64 1) ∧ WX.cell? ⟨bl, off + k * 2 + 1, none⟩ = some (.int .i64 n)) := Lib.hid ⟨blk_cell S1.out 0, blk_cell S1.out 1, blk_cell S1.out 2, blk_cell W1.out 0, blk_cell W1.out 1, blk_cell W1.out 2, x0w1.out, x1w1.out⟩; have QW := Lib.hid (qD.out.trans (b.mono qD.out.size)); have VL1 := Lib.hid b.size; have cjA : Hid (∀ o : Obj, (WX.alloc o).cell? ⟨V1.heap.size, 0, none⟩ = some (.int .i64 c) ∧ (WX.alloc o).cell? ⟨V1.heap.size, 1, none⟩ = some (.int .i64 t) ∧ (WX.alloc o).cell? ⟨V1.heap.size, 2, none⟩ = some (.int .i64 a) ∧ (WX.alloc o).cell? ⟨V3.heap.size, 0, none⟩ = some (.int .i64 c) ∧ (WX.alloc o).cell? ⟨V3.heap.size, 1, none⟩ = some (.int .i64 t) ∧ (WX.alloc o).cell? ⟨V3.heap.size, 2, none⟩ = some (.int .i64 a) ∧ (WX.alloc o).cell? ⟨bl, off + k * 2, none⟩ = some (.int .i64 1) ∧ (WX.alloc o).cell? ⟨bl, off + k * 2 + 1, none⟩ = some (.int .i64 n)) := Lib.hid (fun o => by have ya := (Below.refl WX.heap.size WX).alloc (Nat.le_refl _) o; exact ⟨blk_cell ((ya.block _ Sz1).trans S1.out) 0, blk_cell ((ya.block _ Sz1).trans S1.out) 1, blk_cell ((ya.block _ Sz1).trans S1.out) 2, blk_cell ((ya.block _ Wz1).trans W1.out) 0, blk_cell ((ya.block _ Wz1).trans W1.out) 1, blk_cell ((ya.block _ Wz1).trans W1.out) 2, ((ya.cell (p := ⟨bl, off + k * 2, none⟩) x0wz1).trans x0w1.out), ((ya.cell (p := ⟨bl, off + k * 2 + 1, none⟩) x1wz1).trans x1w1.out)⟩); clear b)
              | (go_at_call 19; (with_reducible refine (after_1 c t a m n E x HE.out Hx.out ((wr.alloc (.cells #[.int .i64 0, .int .i64 0, .int .i64 0] 24)).drew)).mono ?_); rintro e WX ⟨rfl, b⟩; have S1 := Lib.hid ((b.block _ SYz).trans SY.out); have W1 := Lib.hid ((b.block _ WYz).trans WY.out); have x0w1 := Lib.hid ((b.cell (p := ⟨bl, off + k * 2, none⟩) x0wYB).trans x0wY.out); have x1w1 := Lib.hid ((b.cell (p := ⟨bl, off + k * 2 + 1, none⟩) x1wYB).trans x1wY.out); have X1 := Lib.hid ((b.block wr.heap.size (by simp)).trans XY.out); have cjW : Hid (WX.cell? ⟨V1.heap.size, 0, none⟩ = some (.int .i64 c) ∧ WX.cell? ⟨V1.heap.size, 1, none⟩ = some (.int .i64 t) ∧ WX.cell? ⟨V1.heap.size, 2, none⟩ = some (.int .i64 a) ∧ WX.cell? ⟨V3.heap.size, 0, none⟩ = some (.int .i64 c) ∧ WX.cell? ⟨V3.heap.size, 1, none⟩ = some (.int .i64 t) ∧ WX.cell? ⟨V3.heap.size, 2, none⟩ = some (.int .i64 a) ∧ WX.cell? ⟨bl, off + k * 2, none⟩ = some (.int .i64 1) ∧ WX.cell? ⟨bl, off + k * 2 + 1, none⟩ = some (.int .i64 n)) := Lib.hid ⟨blk_cell S1.out 0, blk_cell S1.out 1, blk_cell S1.out 2, blk_cell W1.out 0, blk_cell W1.out 1, blk_cell W1.out 2, x0w1.out, x1w1.out⟩; have QW := Lib.hid (qY.out.trans (b.mono qY.out.size)); have x0 := blk_free X1.out 0; have y0 := blk_cell X1.out 0; have x1 := blk_free X1.out 1; have y1 := blk_cell X1.out 1; have x2 := blk_free X1.out 2; have y2 := blk_cell X1.out 2; have cjX : Hid ((((WX.setCell ⟨wr.heap.size, 0, none⟩ (.int .i64 x)).setCell ⟨wr.heap.size, 1, none⟩ (.int .i64 x)).setCell ⟨wr.heap.size, 2, none⟩ (.int .i64 0)).cell? ⟨V1.heap.size, 0, none⟩ = some (.int .i64 c) ∧ (((WX.setCell ⟨wr.heap.size, 0, none⟩ (.int .i64 x)).setCell ⟨wr.heap.size, 1, none⟩ (.int .i64 x)).setCell ⟨wr.heap.size, 2, none⟩ (.int .i64 0)).cell? ⟨V1.heap.size, 1, none⟩ = some (.int .i64 t) ∧ (((WX.setCell ⟨wr.heap.size, 0, none⟩ (.int .i64 x)).setCell ⟨wr.heap.size, 1, none⟩ (.int .i64 x)).setCell ⟨wr.heap.size, 2, none⟩ (.int .i64 0)).cell? ⟨V1.heap.size, 2, none⟩ = some (.int .i64 a) ∧ (((WX.setCell ⟨wr.heap.size, 0, none⟩ (.int .i64 x)).setCell ⟨wr.heap.size, 1, none⟩ (.int .i64 x)).setCell ⟨wr.heap.size, 2, none⟩ (.int .i64 0)).cell? ⟨V3.heap.size, 0, none⟩ = some (.int .i64 c) ∧ (((WX.setCell ⟨wr.heap.size, 0, none⟩ (.int .i64 x)).setCell ⟨wr.heap.size, 1, none⟩ (.int .i64 x)).setCell ⟨wr.heap.size, 2, none⟩ (.int .i64 0)).cell? ⟨V3.heap.size, 1, none⟩ = some (.int .i64 t) ∧ (((WX.setCell ⟨wr.heap.size, 0, none⟩ (.int .i64 x)).setCell ⟨wr.heap.size, 1, none⟩ (.int .i64 x)).setCell ⟨wr.heap.size, 2, none⟩ (.int .i64 0)).cell? ⟨V3.heap.size, 2, none⟩ = some (.int .i64 a) ∧ (((WX.setCell ⟨wr.heap.size, 0, none⟩ (.int .i64 x)).setCell ⟨wr.heap.size, 1, none⟩ (.int .i64 x)).setCell ⟨wr.heap.size, 2, none⟩ (.int .i64 0)).cell? ⟨bl, off + k * 2, none⟩ = some (.int .i64 1) ∧ (((WX.setCell ⟨wr.heap.size, 0, none⟩ (.int .i64 x)).setCell ⟨wr.heap.size, 1, none⟩ (.int .i64 x)).setCell ⟨wr.heap.size, 2, none⟩ (.int .i64 0)).cell? ⟨bl, off + k * 2 + 1, none⟩ = some (.int .i64 n)) := Lib.hid ⟨blk_cell (blk_other (i := 2) (blk_other (i := 1) (blk_other (i := 0) S1.out SN.out (.int .i64 x)) SN.out (.int .i64 x)) SN.out (.int .i64 0)) 0, blk_cell (blk_other (i := 2) (blk_other (i := 1) (blk_other (i := 0) S1.out SN.out (.int .i64 x)) SN.out (.int .i64 x)) SN.out (.int .i64 0)) 1, blk_cell (blk_other (i := 2) (blk_other (i := 1) (blk_other (i := 0) S1.out SN.out (.int .i64 x)) SN.out (.int .i64 x)) SN.out (.int .i64 0)) 2, blk_cell (blk_other (i := 2) (blk_other (i := 1) (blk_other (i := 0) W1.out WN.out (.int .i64 x)) WN.out (.int .i64 x)) WN.out (.int .i64 0)) 0, blk_cell (blk_other (i := 2) (blk_other (i := 1) (blk_other (i := 0) W1.out WN.out (.int .i64 x)) WN.out (.int .i64 x)) WN.out (.int .i64 0)) 1, blk_cell (blk_other (i := 2) (blk_other (i := 1) (blk_other (i := 0) W1.out WN.out (.int .i64 x)) WN.out (.int .i64 x)) WN.out (.int .i64 0)) 2, (by rw [World.cell?_setCell_far _ _ _ _ x0wN, World.cell?_setCell_far _ _ _ _ x0wN, World.cell?_setCell_far _ _ _ _ x0wN]; exact x0w1.out), (by rw [World.cell?_setCell_far _ _ _ _ x1wN, World.cell?_setCell_far _ _ _ _ x1wN, World.cell?_setCell_far _ _ _ _ x1wN]; exact x1w1.out)⟩; clear b))
            all_goals
              go_wp2_with fail
              go_meet
              first
              | (have ya := (Below.refl WX.heap.size WX).alloc (Nat.le_refl _) (.cells #[.int .i64 x, .int .i64 x, .int .i64 0] 24); exact ⟨_, rfl, rfl, ⟨(ya.block _ Sz1).trans S1.out, (ya.block _ Wz1).trans W1.out⟩, blk_new WX _, VL1.out, QW.out.alloc QW.out.size _⟩)
              | exact ⟨_, rfl, rfl, ⟨(blk_other (i := 2) (blk_other (i := 1) (blk_other (i := 0) S1.out SN.out (.int .i64 x)) SN.out (.int .i64 x)) SN.out (.int .i64 0)), (blk_other (i := 2) (blk_other (i := 1) (blk_other (i := 0) W1.out WN.out (.int .i64 x)) WN.out (.int .i64 x)) WN.out (.int .i64 0))⟩, (blk_set (blk_set (blk_set X1.out 0 (.int .i64 x)) 1 (.int .i64 x)) 2 (.int .i64 0)), Nat.le_refl _, (((QW.out.setCell (p := ⟨wr.heap.size, 0, none⟩) HVL.out (.int .i64 x)).setCell (p := ⟨wr.heap.size, 1, none⟩) HVL.out (.int .i64 x)).setCell (p := ⟨wr.heap.size, 2, none⟩) HVL.out (.int .i64 0))⟩
          case rest =>
            obtain ⟨gt, rfl, rfl, ⟨kS, kW⟩, kNew, gle, hq⟩ := hcut
            clear S_0 SY W_0 WY XY cjD cjY qD qY q_0
            have q_0 := hq
            have Sz_0 := blk_lt kS
            have Sne : gt ≠ V1.heap.size := by have := SN.out; have := Sz_0; omega
            have Sne2 := Sne.symm
            have Wz_0 := blk_lt kW
            have Wne : gt ≠ V3.heap.size := by have := WN.out; have := Wz_0; omega
            have Wne2 := Wne.symm
            have gz := blk_lt kNew
            have S_0 := Lib.hid (kS)
            have Sc0_0 := blk_cell S_0.out 0
            have Sc1_0 := blk_cell S_0.out 1
            have Sc2_0 := blk_cell S_0.out 2
            have W_0 := Lib.hid (kW)
            have Wc0_0 := blk_cell W_0.out 0
            have Wc1_0 := blk_cell W_0.out 1
            have Wc2_0 := blk_cell W_0.out 2
            clear kS kW hq
            clear x0w x1w x0wH x1wH
            have T_0 := Lib.hid kNew
            clear kNew
            have x0v := (q_0.cell (p := ⟨bl, off + k * 2, none⟩) hbl).trans x0
            have x1v := (q_0.cell (p := ⟨bl, off + k * 2 + 1, none⟩) hbl).trans x1
            have Tz_0 := gz
            have Tc0_0 := blk_cell T_0.out 0
            have Tc1_0 := blk_cell T_0.out 1
            have Tc2_0 := blk_cell T_0.out 2
            have uS : wc.heap.size ≠ V1.heap.size := Nat.ne_of_gt Sz_0
            have uW : wc.heap.size ≠ V3.heap.size := Nat.ne_of_gt Wz_0
            have uT : wc.heap.size ≠ gt := Nat.ne_of_gt Tz_0
            have uB : bl < wc.heap.size := Nat.lt_of_lt_of_le hbl q_0.size
            have HUL : Hid (w.heap.size ≤ wc.heap.size) := Lib.hid q_0.size
            go_wp2_with fail
            have b : Below wc.heap.size wc (wc.alloc (.cells #[.int .i64 c, .int .i64 t, .int .i64 a] 23)) := ((Below.refl _ wc).alloc (Nat.le_refl _) (.cells #[.int .i64 c, .int .i64 t, .int .i64 a] 23))
            have nb0 := blk_new wc (.cells #[.int .i64 c, .int .i64 t, .int .i64 a] 23)
            have nz0 : wc.heap.size < (wc.alloc (.cells #[.int .i64 c, .int .i64 t, .int .i64 a] 23)).heap.size := by simp only [World.size_alloc]; omega
            have S_1 := Lib.hid ((b.block _ Sz_0).trans S_0.out)
            have Sz_1 := Nat.lt_of_lt_of_le Sz_0 b.size
            have Sc0_1 := blk_cell S_1.out 0
            have Sc1_1 := blk_cell S_1.out 1
            have Sc2_1 := blk_cell S_1.out 2
            have W_1 := Lib.hid ((b.block _ Wz_0).trans W_0.out)
            have Wz_1 := Nat.lt_of_lt_of_le Wz_0 b.size
            have Wc0_1 := blk_cell W_1.out 0
            have Wc1_1 := blk_cell W_1.out 1
            have Wc2_1 := blk_cell W_1.out 2
            have T_1 := Lib.hid ((b.block _ Tz_0).trans T_0.out)
            have Tz_1 := Nat.lt_of_lt_of_le Tz_0 b.size
            have Tc0_1 := blk_cell T_1.out 0
            have Tc1_1 := blk_cell T_1.out 1
            have Tc2_1 := blk_cell T_1.out 2
            have q_1 := q_0.trans (b.mono q_0.size)
            clear S_0 Sz_0 Sc0_0 Sc1_0 Sc2_0 W_0 Wz_0 Wc0_0 Wc1_0 Wc2_0 T_0 Tz_0 Tc0_0 Tc1_0 Tc2_0 q_0
            clear b
            have U_1 := Lib.hid nb0
            have Uz_1 := nz0
            clear nb0 nz0
            have Uc0_1 := blk_cell U_1.out 0
            have Uc1_1 := blk_cell U_1.out 1
            have Uc2_1 := blk_cell U_1.out 2
            generalize (wc.alloc (.cells #[.int .i64 c, .int .i64 t, .int .i64 a] 23)) = V41 at q_1 S_1 Sz_1 Sc0_1 Sc1_1 Sc2_1 W_1 Wz_1 Wc0_1 Wc1_1 Wc2_1 T_1 Tz_1 Tc0_1 Tc1_1 Tc2_1 U_1 Uz_1 Uc0_1 Uc1_1 Uc2_1 ⊢
            have x1u := (q_1.cell (p := ⟨bl, off + k * 2 + 1, none⟩) hbl).trans x1
            clear x0v x1v
            have SD : Hid (V41.drew.cell? ⟨V3.heap.size, 0, none⟩ = some (.int .i64 c) ∧ V41.drew.cell? ⟨V3.heap.size, 1, none⟩ = some (.int .i64 t) ∧ V41.drew.cell? ⟨V3.heap.size, 2, none⟩ = some (.int .i64 a) ∧ V41.drew.cell? ⟨bl, off + k * 2 + 1, none⟩ = some (.int .i64 n)) := Lib.hid ⟨blk_cell W_1.out 0, blk_cell W_1.out 1, blk_cell W_1.out 2, x1u⟩
            have x1H := Lib.hid x1u
            clear Sc0_1 Sc1_1 Sc2_1
            clear Wc0_1 Wc1_1 Wc2_1
            clear Tc0_1 Tc1_1 Tc2_1
            clear Uc0_1 Uc1_1 Uc2_1
            have S_2 := Lib.hid ((((Below.refl V41.heap.size V41).drew).block _ Sz_1).trans S_1.out)
            have Sz_2 := Nat.lt_of_lt_of_le Sz_1 ((Below.refl V41.heap.size V41).drew).size
            have W_2 := Lib.hid ((((Below.refl V41.heap.size V41).drew).block _ Wz_1).trans W_1.out)
            have Wz_2 := Nat.lt_of_lt_of_le Wz_1 ((Below.refl V41.heap.size V41).drew).size
            have T_2 := Lib.hid ((((Below.refl V41.heap.size V41).drew).block _ Tz_1).trans T_1.out)
            have Tz_2 := Nat.lt_of_lt_of_le Tz_1 ((Below.refl V41.heap.size V41).drew).size
            have U_2 := Lib.hid ((((Below.refl V41.heap.size V41).drew).block _ Uz_1).trans U_1.out)
            have Uz_2 := Nat.lt_of_lt_of_le Uz_1 ((Below.refl V41.heap.size V41).drew).size
            have q_2 := q_1.trans (((Below.refl V41.heap.size V41).drew).mono q_1.size)
            clear S_1 Sz_1 W_1 Wz_1 T_1 Tz_1 U_1 Uz_1 q_1
            have uBn : wc.heap.size ≠ bl := Nat.ne_of_gt uB
            have uTn := uT.symm
            go_region_held3 (fun W' => W'.cell? ⟨V3.heap.size, 0, none⟩ = some (.int .i64 c) ∧ W'.cell? ⟨V3.heap.size, 1, none⟩ = some (.int .i64 t) ∧ W'.cell? ⟨V3.heap.size, 2, none⟩ = some (.int .i64 a) ∧ W'.cell? ⟨bl, off + k * 2 + 1, none⟩ = some (.int .i64 n)) (first | (with_reducible exact SD.out) | (with_reducible exact SW.out) | (with_reducible exact SXh.out) | go_keep) (first
              | (go_at_call 10; (with_reducible refine (rloss_l c t a m n E x HE.out Hx.out (V41.drew)).mono ?_); rintro e V42 ⟨rfl, b⟩; have S_3 := Lib.hid ((b.block _ Sz_2).trans S_2.out); have Sz_3 := Nat.lt_of_lt_of_le Sz_2 b.size; have W_3 := Lib.hid ((b.block _ Wz_2).trans W_2.out); have Wz_3 := Nat.lt_of_lt_of_le Wz_2 b.size; have T_3 := Lib.hid ((b.block _ Tz_2).trans T_2.out); have Tz_3 := Nat.lt_of_lt_of_le Tz_2 b.size; have U_3 := Lib.hid ((b.block _ Uz_2).trans U_2.out); have Uz_3 := Nat.lt_of_lt_of_le Uz_2 b.size; have q_3 := q_2.trans (b.mono q_2.size); clear S_2 Sz_2 W_2 Wz_2 T_2 Tz_2 U_2 Uz_2 q_2; clear b; have SW : Hid (V42.cell? ⟨V3.heap.size, 0, none⟩ = some (.int .i64 c) ∧ V42.cell? ⟨V3.heap.size, 1, none⟩ = some (.int .i64 t) ∧ V42.cell? ⟨V3.heap.size, 2, none⟩ = some (.int .i64 a) ∧ V42.cell? ⟨bl, off + k * 2 + 1, none⟩ = some (.int .i64 n)) := Lib.hid ⟨blk_cell W_3.out 0, blk_cell W_3.out 1, blk_cell W_3.out 2, (q_3.cell (p := ⟨bl, off + k * 2 + 1, none⟩) hbl).trans x1⟩; have Uc0 := blk_cell U_3.out 0; have Uf0 := blk_free U_3.out 0; have Tc0 := blk_cell T_3.out 0; have Uc1 := blk_cell U_3.out 1; have Uf1 := blk_free U_3.out 1; have Tc1 := blk_cell T_3.out 1; have Uc2 := blk_cell U_3.out 2; have Uf2 := blk_free U_3.out 2; have Tc2 := blk_cell T_3.out 2; have SXh : Hid ((((V42.setCell ⟨wc.heap.size, 0, none⟩ (.int .i64 x)).setCell ⟨wc.heap.size, 1, none⟩ (.int .i64 x)).setCell ⟨wc.heap.size, 2, none⟩ (.int .i64 0)).cell? ⟨V3.heap.size, 0, none⟩ = some (.int .i64 c) ∧ (((V42.setCell ⟨wc.heap.size, 0, none⟩ (.int .i64 x)).setCell ⟨wc.heap.size, 1, none⟩ (.int .i64 x)).setCell ⟨wc.heap.size, 2, none⟩ (.int .i64 0)).cell? ⟨V3.heap.size, 1, none⟩ = some (.int .i64 t) ∧ (((V42.setCell ⟨wc.heap.size, 0, none⟩ (.int .i64 x)).setCell ⟨wc.heap.size, 1, none⟩ (.int .i64 x)).setCell ⟨wc.heap.size, 2, none⟩ (.int .i64 0)).cell? ⟨V3.heap.size, 2, none⟩ = some (.int .i64 a) ∧ (((V42.setCell ⟨wc.heap.size, 0, none⟩ (.int .i64 x)).setCell ⟨wc.heap.size, 1, none⟩ (.int .i64 x)).setCell ⟨wc.heap.size, 2, none⟩ (.int .i64 0)).cell? ⟨bl, off + k * 2 + 1, none⟩ = some (.int .i64 n)) := Lib.hid ⟨blk_cell (blk_other (i := 2) (blk_other (i := 1) (blk_other (i := 0) W_3.out uW (.int .i64 x)) uW (.int .i64 x)) uW (.int .i64 0)) 0, blk_cell (blk_other (i := 2) (blk_other (i := 1) (blk_other (i := 0) W_3.out uW (.int .i64 x)) uW (.int .i64 x)) uW (.int .i64 0)) 1, blk_cell (blk_other (i := 2) (blk_other (i := 1) (blk_other (i := 0) W_3.out uW (.int .i64 x)) uW (.int .i64 x)) uW (.int .i64 0)) 2, (by rw [World.cell?_setCell_far _ _ _ _ uBn, World.cell?_setCell_far _ _ _ _ uBn, World.cell?_setCell_far _ _ _ _ uBn]; exact SW.out.2.2.2)⟩))
            go_wp2_with fail
            have QN := Lib.hid q_3
            have ZS : Hid (((((V42.setCell ⟨wc.heap.size, 0, none⟩ (.int .i64 x)).setCell ⟨wc.heap.size, 1, none⟩ (.int .i64 x)).setCell ⟨wc.heap.size, 2, none⟩ (.int .i64 0))).heap[V1.heap.size]? = some (.cells #[.int .i64 c, .int .i64 t, .int .i64 a] 24 (0, 0))) := Lib.hid (blk_other (i := 2) (blk_other (i := 1) (blk_other (i := 0) S_3.out uS (.int .i64 x)) uS (.int .i64 x)) uS (.int .i64 0))
            have ZW : Hid (((((V42.setCell ⟨wc.heap.size, 0, none⟩ (.int .i64 x)).setCell ⟨wc.heap.size, 1, none⟩ (.int .i64 x)).setCell ⟨wc.heap.size, 2, none⟩ (.int .i64 0))).heap[V3.heap.size]? = some (.cells #[.int .i64 c, .int .i64 t, .int .i64 a] 23 (0, 0))) := Lib.hid (blk_other (i := 2) (blk_other (i := 1) (blk_other (i := 0) W_3.out uW (.int .i64 x)) uW (.int .i64 x)) uW (.int .i64 0))
            have ZT : Hid (((((V42.setCell ⟨wc.heap.size, 0, none⟩ (.int .i64 x)).setCell ⟨wc.heap.size, 1, none⟩ (.int .i64 x)).setCell ⟨wc.heap.size, 2, none⟩ (.int .i64 0))).heap[gt]? = some (.cells #[.int .i64 x, .int .i64 x, .int .i64 0] 24 (0, 0))) := Lib.hid (blk_other (i := 2) (blk_other (i := 1) (blk_other (i := 0) T_3.out uT (.int .i64 x)) uT (.int .i64 x)) uT (.int .i64 0))
            have ZU : Hid (((((V42.setCell ⟨wc.heap.size, 0, none⟩ (.int .i64 x)).setCell ⟨wc.heap.size, 1, none⟩ (.int .i64 x)).setCell ⟨wc.heap.size, 2, none⟩ (.int .i64 0))).heap[wc.heap.size]? = some (.cells #[.int .i64 x, .int .i64 x, .int .i64 0] 23 (0, 0))) := Lib.hid (blk_set (blk_set (blk_set U_3.out 0 (.int .i64 x)) 1 (.int .i64 x)) 2 (.int .i64 0))
            have ZQ : Below w.heap.size w (((V42.setCell ⟨wc.heap.size, 0, none⟩ (.int .i64 x)).setCell ⟨wc.heap.size, 1, none⟩ (.int .i64 x)).setCell ⟨wc.heap.size, 2, none⟩ (.int .i64 0)) := (((QN.out.setCell (p := ⟨wc.heap.size, 0, none⟩) HUL.out (.int .i64 x)).setCell (p := ⟨wc.heap.size, 1, none⟩) HUL.out (.int .i64 x)).setCell (p := ⟨wc.heap.size, 2, none⟩) HUL.out (.int .i64 0))
            clear SW SD SXh QN q_3 Uc0 Uf0 Tc0 Uc1 Uf1 Tc1 Uc2 Uf2 Tc2 S_3 W_3 T_3 U_3
            generalize (((V42.setCell ⟨wc.heap.size, 0, none⟩ (.int .i64 x)).setCell ⟨wc.heap.size, 1, none⟩ (.int .i64 x)).setCell ⟨wc.heap.size, 2, none⟩ (.int .i64 0)) = Z at ZS ZW ZT ZU ZQ ⊢
            refine (num_any _ _).mono ?_
            rintro e w' ⟨rfl, rfl⟩
            have ZSc0 := blk_cell ZS.out 0
            have ZSf0 := blk_free ZS.out 0
            have ZSc1 := blk_cell ZS.out 1
            have ZSf1 := blk_free ZS.out 1
            have ZSc2 := blk_cell ZS.out 2
            have ZSf2 := blk_free ZS.out 2
            have ZWc0 := blk_cell ZW.out 0
            have ZWf0 := blk_free ZW.out 0
            have ZWc1 := blk_cell ZW.out 1
            have ZWf1 := blk_free ZW.out 1
            have ZWc2 := blk_cell ZW.out 2
            have ZWf2 := blk_free ZW.out 2
            have ZTc0 := blk_cell ZT.out 0
            have ZTf0 := blk_free ZT.out 0
            have ZTc1 := blk_cell ZT.out 1
            have ZTf1 := blk_free ZT.out 1
            have ZTc2 := blk_cell ZT.out 2
            have ZTf2 := blk_free ZT.out 2
            have ZUc0 := blk_cell ZU.out 0
            have ZUf0 := blk_free ZU.out 0
            have ZUc1 := blk_cell ZU.out 1
            have ZUf1 := blk_free ZU.out 1
            have ZUc2 := blk_cell ZU.out 2
            have ZUf2 := blk_free ZU.out 2
            have nsw := NSW.out
            have nws := nsw.symm
            have uSn := uS.symm
            have uWn := uW.symm
            go_wp2_with fail
            go_roundw
            case rel => exact ⟨k + 1, c, t, a, by omega, by go_num, HS, ZS.out, ZW.out, ZQ⟩
            case measure => simp [intOf]; omega
      case neg =>
        by_cases h2 : wh = 2
        case pos =>
          subst h2
          obtain ⟨x, hx⟩ : ∃ z, tC E m = z := ⟨_, rfl⟩
          obtain ⟨y, hy⟩ : ∃ z, lH E m n = z := ⟨_, rfl⟩
          have Hx := Lib.hid hx
          clear hx
          have Hy := Lib.hid hy
          clear hy
          by_cases hE : E = 0
          case pos =>
            subst hE
            have HN : Hid (SV x y 0 m) := Lib.hid (sv_time hEE Hx.out Hy.out)
            have nb := HN.out.1
            obtain ⟨nb1, nb2⟩ := nb
            have x0w := (q_0.cell (p := ⟨bl, off + k * 2, none⟩) hbl).trans x0
            have x1w := (q_0.cell (p := ⟨bl, off + k * 2 + 1, none⟩) hbl).trans x1
            have y := ((Below.refl wr.heap.size wr).alloc (Nat.le_refl _) (.cells #[.int .i64 0, .int .i64 0, .int .i64 0] 24)).drew
            have SY := Lib.hid ((y.block _ Sz_0).trans S_0.out)
            have SYz := Nat.lt_of_lt_of_le Sz_0 y.size
            have SN : Hid (wr.heap.size ≠ V1.heap.size) := Lib.hid (Nat.ne_of_gt Sz_0)
            have WY := Lib.hid ((y.block _ Wz_0).trans W_0.out)
            have WYz := Nat.lt_of_lt_of_le Wz_0 y.size
            have WN : Hid (wr.heap.size ≠ V3.heap.size) := Lib.hid (Nat.ne_of_gt Wz_0)
            have x0wB : bl < wr.heap.size := Nat.lt_of_lt_of_le hbl q_0.size
            have x0wY := Lib.hid ((y.cell (p := ⟨bl, off + k * 2, none⟩) x0wB).trans x0w)
            have x0wYB := Nat.lt_of_lt_of_le x0wB y.size
            have x0wN : wr.heap.size ≠ bl := Nat.ne_of_gt x0wB
            have x0wH := Lib.hid x0w
            have x1wB : bl < wr.heap.size := Nat.lt_of_lt_of_le hbl q_0.size
            have x1wY := Lib.hid ((y.cell (p := ⟨bl, off + k * 2 + 1, none⟩) x1wB).trans x1w)
            have x1wYB := Nat.lt_of_lt_of_le x1wB y.size
            have x1wN : wr.heap.size ≠ bl := Nat.ne_of_gt x1wB
            have x1wH := Lib.hid x1w
            have XY := Lib.hid (blk_new wr (.cells #[.int .i64 0, .int .i64 0, .int .i64 0] 24))
            have cjD : Hid (wr.drew.cell? ⟨V1.heap.size, 0, none⟩ = some (.int .i64 c) ∧ wr.drew.cell? ⟨V1.heap.size, 1, none⟩ = some (.int .i64 t) ∧ wr.drew.cell? ⟨V1.heap.size, 2, none⟩ = some (.int .i64 a) ∧ wr.drew.cell? ⟨V3.heap.size, 0, none⟩ = some (.int .i64 c) ∧ wr.drew.cell? ⟨V3.heap.size, 1, none⟩ = some (.int .i64 t) ∧ wr.drew.cell? ⟨V3.heap.size, 2, none⟩ = some (.int .i64 a) ∧ wr.drew.cell? ⟨bl, off + k * 2, none⟩ = some (.int .i64 2) ∧ wr.drew.cell? ⟨bl, off + k * 2 + 1, none⟩ = some (.int .i64 n)) := Lib.hid ⟨blk_cell S_0.out 0, blk_cell S_0.out 1, blk_cell S_0.out 2, blk_cell W_0.out 0, blk_cell W_0.out 1, blk_cell W_0.out 2, x0w, x1w⟩
            have cjY : Hid ((wr.alloc (.cells #[.int .i64 0, .int .i64 0, .int .i64 0] 24)).drew.cell? ⟨V1.heap.size, 0, none⟩ = some (.int .i64 c) ∧ (wr.alloc (.cells #[.int .i64 0, .int .i64 0, .int .i64 0] 24)).drew.cell? ⟨V1.heap.size, 1, none⟩ = some (.int .i64 t) ∧ (wr.alloc (.cells #[.int .i64 0, .int .i64 0, .int .i64 0] 24)).drew.cell? ⟨V1.heap.size, 2, none⟩ = some (.int .i64 a) ∧ (wr.alloc (.cells #[.int .i64 0, .int .i64 0, .int .i64 0] 24)).drew.cell? ⟨V3.heap.size, 0, none⟩ = some (.int .i64 c) ∧ (wr.alloc (.cells #[.int .i64 0, .int .i64 0, .int .i64 0] 24)).drew.cell? ⟨V3.heap.size, 1, none⟩ = some (.int .i64 t) ∧ (wr.alloc (.cells #[.int .i64 0, .int .i64 0, .int .i64 0] 24)).drew.cell? ⟨V3.heap.size, 2, none⟩ = some (.int .i64 a) ∧ (wr.alloc (.cells #[.int .i64 0, .int .i64 0, .int .i64 0] 24)).drew.cell? ⟨bl, off + k * 2, none⟩ = some (.int .i64 2) ∧ (wr.alloc (.cells #[.int .i64 0, .int .i64 0, .int .i64 0] 24)).drew.cell? ⟨bl, off + k * 2 + 1, none⟩ = some (.int .i64 n)) := Lib.hid ⟨blk_cell SY.out 0, blk_cell SY.out 1, blk_cell SY.out 2, blk_cell WY.out 0, blk_cell WY.out 1, blk_cell WY.out 2, x0wY.out, x1wY.out⟩
            have qD := Lib.hid q_0.drew
            have qY := Lib.hid (q_0.trans (y.mono q_0.size))
            have HVL : Hid (w.heap.size ≤ wr.heap.size) := Lib.hid q_0.size
            clear y
            go_wp2_with fail
            go_cut [10, 11] (fun (pt pe : Value) (wx : World) => BoxCut wr (fun W' : World => W'.heap[V1.heap.size]? = some (.cells #[.int .i64 c, .int .i64 t, .int .i64 a] 24 (0, 0)) ∧ W'.heap[V3.heap.size]? = some (.cells #[.int .i64 c, .int .i64 t, .int .i64 a] 23 (0, 0))) #[.int .i64 x, .int .i64 y, .int .i64 0] 24 (.int .i64 0) w pt pe wx)
            case first =>
              go_region_held3 (fun W' => W'.cell? ⟨V1.heap.size, 0, none⟩ = some (.int .i64 c) ∧ W'.cell? ⟨V1.heap.size, 1, none⟩ = some (.int .i64 t) ∧ W'.cell? ⟨V1.heap.size, 2, none⟩ = some (.int .i64 a) ∧ W'.cell? ⟨V3.heap.size, 0, none⟩ = some (.int .i64 c) ∧ W'.cell? ⟨V3.heap.size, 1, none⟩ = some (.int .i64 t) ∧ W'.cell? ⟨V3.heap.size, 2, none⟩ = some (.int .i64 a) ∧ W'.cell? ⟨bl, off + k * 2, none⟩ = some (.int .i64 2) ∧ W'.cell? ⟨bl, off + k * 2 + 1, none⟩ = some (.int .i64 n)) (first | (with_reducible exact cjD.out) | (with_reducible exact cjY.out) | (with_reducible exact cjW.out) | (with_reducible exact cjA.out _) | (with_reducible exact cjX.out) | go_keep) (first
                | (go_at_call 19; (with_reducible refine (after_2 c t a m n 0 x y HE.out Hx.out Hy.out wr.drew).mono ?_); rintro e WX ⟨rfl, b⟩; have S1 := Lib.hid ((b.block _ Sz_0).trans S_0.out); have Sz1 := Nat.lt_of_lt_of_le Sz_0 b.size; have W1 := Lib.hid ((b.block _ Wz_0).trans W_0.out); have Wz1 := Nat.lt_of_lt_of_le Wz_0 b.size; have x0w1 := Lib.hid ((b.cell (p := ⟨bl, off + k * 2, none⟩) x0wB).trans x0wH.out); have x0wz1 : bl < WX.heap.size := Nat.lt_of_lt_of_le x0wB b.size; have x1w1 := Lib.hid ((b.cell (p := ⟨bl, off + k * 2 + 1, none⟩) x1wB).trans x1wH.out); have x1wz1 : bl < WX.heap.size := Nat.lt_of_lt_of_le x1wB b.size; have cjW : Hid (WX.cell? ⟨V1.heap.size, 0, none⟩ = some (.int .i64 c) ∧ WX.cell? ⟨V1.heap.size, 1, none⟩ = some (.int .i64 t) ∧ WX.cell? ⟨V1.heap.size, 2, none⟩ = some (.int .i64 a) ∧ WX.cell? ⟨V3.heap.size, 0, none⟩ = some (.int .i64 c) ∧ WX.cell? ⟨V3.heap.size, 1, none⟩ = some (.int .i64 t) ∧ WX.cell? ⟨V3.heap.size, 2, none⟩ = some (.int .i64 a) ∧ WX.cell? ⟨bl, off + k * 2, none⟩ = some (.int .i64 2) ∧ WX.cell? ⟨bl, off + k * 2 + 1, none⟩ = some (.int .i64 n)) := Lib.hid ⟨blk_cell S1.out 0, blk_cell S1.out 1, blk_cell S1.out 2, blk_cell W1.out 0, blk_cell W1.out 1, blk_cell W1.out 2, x0w1.out, x1w1.out⟩; have QW := Lib.hid (qD.out.trans (b.mono qD.out.size)); have VL1 := Lib.hid b.size; have cjA : Hid (∀ o : Obj, (WX.alloc o).cell? ⟨V1.heap.size, 0, none⟩ = some (.int .i64 c) ∧ (WX.alloc o).cell? ⟨V1.heap.size, 1, none⟩ = some (.int .i64 t) ∧ (WX.alloc o).cell? ⟨V1.heap.size, 2, none⟩ = some (.int .i64 a) ∧ (WX.alloc o).cell? ⟨V3.heap.size, 0, none⟩ = some (.int .i64 c) ∧ (WX.alloc o).cell? ⟨V3.heap.size, 1, none⟩ = some (.int .i64 t) ∧ (WX.alloc o).cell? ⟨V3.heap.size, 2, none⟩ = some (.int .i64 a) ∧ (WX.alloc o).cell? ⟨bl, off + k * 2, none⟩ = some (.int .i64 2) ∧ (WX.alloc o).cell? ⟨bl, off + k * 2 + 1, none⟩ = some (.int .i64 n)) := Lib.hid (fun o => by have ya := (Below.refl WX.heap.size WX).alloc (Nat.le_refl _) o; exact ⟨blk_cell ((ya.block _ Sz1).trans S1.out) 0, blk_cell ((ya.block _ Sz1).trans S1.out) 1, blk_cell ((ya.block _ Sz1).trans S1.out) 2, blk_cell ((ya.block _ Wz1).trans W1.out) 0, blk_cell ((ya.block _ Wz1).trans W1.out) 1, blk_cell ((ya.block _ Wz1).trans W1.out) 2, ((ya.cell (p := ⟨bl, off + k * 2, none⟩) x0wz1).trans x0w1.out), ((ya.cell (p := ⟨bl, off + k * 2 + 1, none⟩) x1wz1).trans x1w1.out)⟩); clear b)
                | (go_at_call 19; (with_reducible refine (after_2 c t a m n 0 x y HE.out Hx.out Hy.out ((wr.alloc (.cells #[.int .i64 0, .int .i64 0, .int .i64 0] 24)).drew)).mono ?_); rintro e WX ⟨rfl, b⟩; have S1 := Lib.hid ((b.block _ SYz).trans SY.out); have W1 := Lib.hid ((b.block _ WYz).trans WY.out); have x0w1 := Lib.hid ((b.cell (p := ⟨bl, off + k * 2, none⟩) x0wYB).trans x0wY.out); have x1w1 := Lib.hid ((b.cell (p := ⟨bl, off + k * 2 + 1, none⟩) x1wYB).trans x1wY.out); have X1 := Lib.hid ((b.block wr.heap.size (by simp)).trans XY.out); have cjW : Hid (WX.cell? ⟨V1.heap.size, 0, none⟩ = some (.int .i64 c) ∧ WX.cell? ⟨V1.heap.size, 1, none⟩ = some (.int .i64 t) ∧ WX.cell? ⟨V1.heap.size, 2, none⟩ = some (.int .i64 a) ∧ WX.cell? ⟨V3.heap.size, 0, none⟩ = some (.int .i64 c) ∧ WX.cell? ⟨V3.heap.size, 1, none⟩ = some (.int .i64 t) ∧ WX.cell? ⟨V3.heap.size, 2, none⟩ = some (.int .i64 a) ∧ WX.cell? ⟨bl, off + k * 2, none⟩ = some (.int .i64 2) ∧ WX.cell? ⟨bl, off + k * 2 + 1, none⟩ = some (.int .i64 n)) := Lib.hid ⟨blk_cell S1.out 0, blk_cell S1.out 1, blk_cell S1.out 2, blk_cell W1.out 0, blk_cell W1.out 1, blk_cell W1.out 2, x0w1.out, x1w1.out⟩; have QW := Lib.hid (qY.out.trans (b.mono qY.out.size)); have x0 := blk_free X1.out 0; have y0 := blk_cell X1.out 0; have x1 := blk_free X1.out 1; have y1 := blk_cell X1.out 1; have x2 := blk_free X1.out 2; have y2 := blk_cell X1.out 2; have cjX : Hid ((((WX.setCell ⟨wr.heap.size, 0, none⟩ (.int .i64 x)).setCell ⟨wr.heap.size, 1, none⟩ (.int .i64 y)).setCell ⟨wr.heap.size, 2, none⟩ (.int .i64 0)).cell? ⟨V1.heap.size, 0, none⟩ = some (.int .i64 c) ∧ (((WX.setCell ⟨wr.heap.size, 0, none⟩ (.int .i64 x)).setCell ⟨wr.heap.size, 1, none⟩ (.int .i64 y)).setCell ⟨wr.heap.size, 2, none⟩ (.int .i64 0)).cell? ⟨V1.heap.size, 1, none⟩ = some (.int .i64 t) ∧ (((WX.setCell ⟨wr.heap.size, 0, none⟩ (.int .i64 x)).setCell ⟨wr.heap.size, 1, none⟩ (.int .i64 y)).setCell ⟨wr.heap.size, 2, none⟩ (.int .i64 0)).cell? ⟨V1.heap.size, 2, none⟩ = some (.int .i64 a) ∧ (((WX.setCell ⟨wr.heap.size, 0, none⟩ (.int .i64 x)).setCell ⟨wr.heap.size, 1, none⟩ (.int .i64 y)).setCell ⟨wr.heap.size, 2, none⟩ (.int .i64 0)).cell? ⟨V3.heap.size, 0, none⟩ = some (.int .i64 c) ∧ (((WX.setCell ⟨wr.heap.size, 0, none⟩ (.int .i64 x)).setCell ⟨wr.heap.size, 1, none⟩ (.int .i64 y)).setCell ⟨wr.heap.size, 2, none⟩ (.int .i64 0)).cell? ⟨V3.heap.size, 1, none⟩ = some (.int .i64 t) ∧ (((WX.setCell ⟨wr.heap.size, 0, none⟩ (.int .i64 x)).setCell ⟨wr.heap.size, 1, none⟩ (.int .i64 y)).setCell ⟨wr.heap.size, 2, none⟩ (.int .i64 0)).cell? ⟨V3.heap.size, 2, none⟩ = some (.int .i64 a) ∧ (((WX.setCell ⟨wr.heap.size, 0, none⟩ (.int .i64 x)).setCell ⟨wr.heap.size, 1, none⟩ (.int .i64 y)).setCell ⟨wr.heap.size, 2, none⟩ (.int .i64 0)).cell? ⟨bl, off + k * 2, none⟩ = some (.int .i64 2) ∧ (((WX.setCell ⟨wr.heap.size, 0, none⟩ (.int .i64 x)).setCell ⟨wr.heap.size, 1, none⟩ (.int .i64 y)).setCell ⟨wr.heap.size, 2, none⟩ (.int .i64 0)).cell? ⟨bl, off + k * 2 + 1, none⟩ = some (.int .i64 n)) := Lib.hid ⟨blk_cell (blk_other (i := 2) (blk_other (i := 1) (blk_other (i := 0) S1.out SN.out (.int .i64 x)) SN.out (.int .i64 y)) SN.out (.int .i64 0)) 0, blk_cell (blk_other (i := 2) (blk_other (i := 1) (blk_other (i := 0) S1.out SN.out (.int .i64 x)) SN.out (.int .i64 y)) SN.out (.int .i64 0)) 1, blk_cell (blk_other (i := 2) (blk_other (i := 1) (blk_other (i := 0) S1.out SN.out (.int .i64 x)) SN.out (.int .i64 y)) SN.out (.int .i64 0)) 2, blk_cell (blk_other (i := 2) (blk_other (i := 1) (blk_other (i := 0) W1.out WN.out (.int .i64 x)) WN.out (.int .i64 y)) WN.out (.int .i64 0)) 0, blk_cell (blk_other (i := 2) (blk_other (i := 1) (blk_other (i := 0) W1.out WN.out (.int .i64 x)) WN.out (.int .i64 y)) WN.out (.int .i64 0)) 1, blk_cell (blk_other (i := 2) (blk_other (i := 1) (blk_other (i := 0) W1.out WN.out (.int .i64 x)) WN.out (.int .i64 y)) WN.out (.int .i64 0)) 2, (by rw [World.cell?_setCell_far _ _ _ _ x0wN, World.cell?_setCell_far _ _ _ _ x0wN, World.cell?_setCell_far _ _ _ _ x0wN]; exact x0w1.out), (by rw [World.cell?_setCell_far _ _ _ _ x1wN, World.cell?_setCell_far _ _ _ _ x1wN, World.cell?_setCell_far _ _ _ _ x1wN]; exact x1w1.out)⟩; clear b))
              all_goals
                go_wp2_with fail
                go_meet
                first
                | (have ya := (Below.refl WX.heap.size WX).alloc (Nat.le_refl _) (.cells #[.int .i64 x, .int .i64 y, .int .i64 0] 24); exact ⟨_, rfl, rfl, ⟨(ya.block _ Sz1).trans S1.out, (ya.block _ Wz1).trans W1.out⟩, blk_new WX _, VL1.out, QW.out.alloc QW.out.size _⟩)
                | exact ⟨_, rfl, rfl, ⟨(blk_other (i := 2) (blk_other (i := 1) (blk_other (i := 0) S1.out SN.out (.int .i64 x)) SN.out (.int .i64 y)) SN.out (.int .i64 0)), (blk_other (i := 2) (blk_other (i := 1) (blk_other (i := 0) W1.out WN.out (.int .i64 x)) WN.out (.int .i64 y)) WN.out (.int .i64 0))⟩, (blk_set (blk_set (blk_set X1.out 0 (.int .i64 x)) 1 (.int .i64 y)) 2 (.int .i64 0)), Nat.le_refl _, (((QW.out.setCell (p := ⟨wr.heap.size, 0, none⟩) HVL.out (.int .i64 x)).setCell (p := ⟨wr.heap.size, 1, none⟩) HVL.out (.int .i64 y)).setCell (p := ⟨wr.heap.size, 2, none⟩) HVL.out (.int .i64 0))⟩
            case rest =>
              obtain ⟨gt, rfl, rfl, ⟨kS, kW⟩, kNew, gle, hq⟩ := hcut
              clear S_0 SY W_0 WY XY cjD cjY qD qY q_0
              have q_0 := hq
              have Sz_0 := blk_lt kS
              have Sne : gt ≠ V1.heap.size := by have := SN.out; have := Sz_0; omega
              have Sne2 := Sne.symm
              have Wz_0 := blk_lt kW
              have Wne : gt ≠ V3.heap.size := by have := WN.out; have := Wz_0; omega
              have Wne2 := Wne.symm
              have gz := blk_lt kNew
              have S_0 := Lib.hid (kS)
              have Sc0_0 := blk_cell S_0.out 0
              have Sc1_0 := blk_cell S_0.out 1
              have Sc2_0 := blk_cell S_0.out 2
              have W_0 := Lib.hid (kW)
              have Wc0_0 := blk_cell W_0.out 0
              have Wc1_0 := blk_cell W_0.out 1
              have Wc2_0 := blk_cell W_0.out 2
              clear kS kW hq
              clear x0w x1w x0wH x1wH
              have T_0 := Lib.hid kNew
              clear kNew
              have x0v := (q_0.cell (p := ⟨bl, off + k * 2, none⟩) hbl).trans x0
              have x1v := (q_0.cell (p := ⟨bl, off + k * 2 + 1, none⟩) hbl).trans x1
              have Tz_0 := gz
              have Tc0_0 := blk_cell T_0.out 0
              have Tc1_0 := blk_cell T_0.out 1
              have Tc2_0 := blk_cell T_0.out 2
              have uS : wc.heap.size ≠ V1.heap.size := Nat.ne_of_gt Sz_0
              have uW : wc.heap.size ≠ V3.heap.size := Nat.ne_of_gt Wz_0
              have uT : wc.heap.size ≠ gt := Nat.ne_of_gt Tz_0
              have uB : bl < wc.heap.size := Nat.lt_of_lt_of_le hbl q_0.size
              have HUL : Hid (w.heap.size ≤ wc.heap.size) := Lib.hid q_0.size
              go_wp2_with fail
              have b : Below wc.heap.size wc (wc.alloc (.cells #[.int .i64 c, .int .i64 t, .int .i64 a] 23)) := ((Below.refl _ wc).alloc (Nat.le_refl _) (.cells #[.int .i64 c, .int .i64 t, .int .i64 a] 23))
              have nb0 := blk_new wc (.cells #[.int .i64 c, .int .i64 t, .int .i64 a] 23)
              have nz0 : wc.heap.size < (wc.alloc (.cells #[.int .i64 c, .int .i64 t, .int .i64 a] 23)).heap.size := by simp only [World.size_alloc]; omega
              have S_1 := Lib.hid ((b.block _ Sz_0).trans S_0.out)
              have Sz_1 := Nat.lt_of_lt_of_le Sz_0 b.size
              have Sc0_1 := blk_cell S_1.out 0
              have Sc1_1 := blk_cell S_1.out 1
              have Sc2_1 := blk_cell S_1.out 2
              have W_1 := Lib.hid ((b.block _ Wz_0).trans W_0.out)
              have Wz_1 := Nat.lt_of_lt_of_le Wz_0 b.size
              have Wc0_1 := blk_cell W_1.out 0
              have Wc1_1 := blk_cell W_1.out 1
              have Wc2_1 := blk_cell W_1.out 2
              have T_1 := Lib.hid ((b.block _ Tz_0).trans T_0.out)
              have Tz_1 := Nat.lt_of_lt_of_le Tz_0 b.size
              have Tc0_1 := blk_cell T_1.out 0
              have Tc1_1 := blk_cell T_1.out 1
              have Tc2_1 := blk_cell T_1.out 2
              have q_1 := q_0.trans (b.mono q_0.size)
              clear S_0 Sz_0 Sc0_0 Sc1_0 Sc2_0 W_0 Wz_0 Wc0_0 Wc1_0 Wc2_0 T_0 Tz_0 Tc0_0 Tc1_0 Tc2_0 q_0
              clear b
              have U_1 := Lib.hid nb0
              have Uz_1 := nz0
              clear nb0 nz0
              have Uc0_1 := blk_cell U_1.out 0
              have Uc1_1 := blk_cell U_1.out 1
              have Uc2_1 := blk_cell U_1.out 2
              generalize (wc.alloc (.cells #[.int .i64 c, .int .i64 t, .int .i64 a] 23)) = V41 at q_1 S_1 Sz_1 Sc0_1 Sc1_1 Sc2_1 W_1 Wz_1 Wc0_1 Wc1_1 Wc2_1 T_1 Tz_1 Tc0_1 Tc1_1 Tc2_1 U_1 Uz_1 Uc0_1 Uc1_1 Uc2_1 ⊢
              have x1u := (q_1.cell (p := ⟨bl, off + k * 2 + 1, none⟩) hbl).trans x1
              clear x0v x1v
              have SD : Hid (V41.drew.cell? ⟨V3.heap.size, 0, none⟩ = some (.int .i64 c) ∧ V41.drew.cell? ⟨V3.heap.size, 1, none⟩ = some (.int .i64 t) ∧ V41.drew.cell? ⟨V3.heap.size, 2, none⟩ = some (.int .i64 a) ∧ V41.drew.cell? ⟨bl, off + k * 2 + 1, none⟩ = some (.int .i64 n)) := Lib.hid ⟨blk_cell W_1.out 0, blk_cell W_1.out 1, blk_cell W_1.out 2, x1u⟩
              have x1H := Lib.hid x1u
              clear Sc0_1 Sc1_1 Sc2_1
              clear Wc0_1 Wc1_1 Wc2_1
              clear Tc0_1 Tc1_1 Tc2_1
              clear Uc0_1 Uc1_1 Uc2_1
              have S_2 := Lib.hid ((((Below.refl V41.heap.size V41).drew).block _ Sz_1).trans S_1.out)
              have Sz_2 := Nat.lt_of_lt_of_le Sz_1 ((Below.refl V41.heap.size V41).drew).size
              have W_2 := Lib.hid ((((Below.refl V41.heap.size V41).drew).block _ Wz_1).trans W_1.out)
              have Wz_2 := Nat.lt_of_lt_of_le Wz_1 ((Below.refl V41.heap.size V41).drew).size
              have T_2 := Lib.hid ((((Below.refl V41.heap.size V41).drew).block _ Tz_1).trans T_1.out)
              have Tz_2 := Nat.lt_of_lt_of_le Tz_1 ((Below.refl V41.heap.size V41).drew).size
              have U_2 := Lib.hid ((((Below.refl V41.heap.size V41).drew).block _ Uz_1).trans U_1.out)
              have Uz_2 := Nat.lt_of_lt_of_le Uz_1 ((Below.refl V41.heap.size V41).drew).size
              have q_2 := q_1.trans (((Below.refl V41.heap.size V41).drew).mono q_1.size)
              clear S_1 Sz_1 W_1 Wz_1 T_1 Tz_1 U_1 Uz_1 q_1
              have uBn : wc.heap.size ≠ bl := Nat.ne_of_gt uB
              have uTn := uT.symm
              go_region_held3 (fun W' => W'.cell? ⟨V3.heap.size, 0, none⟩ = some (.int .i64 c) ∧ W'.cell? ⟨V3.heap.size, 1, none⟩ = some (.int .i64 t) ∧ W'.cell? ⟨V3.heap.size, 2, none⟩ = some (.int .i64 a) ∧ W'.cell? ⟨bl, off + k * 2 + 1, none⟩ = some (.int .i64 n)) (first | (with_reducible exact SD.out) | (with_reducible exact SW.out) | (with_reducible exact SXh.out) | go_keep) (first
                | (go_at_call 12; (with_reducible refine (rtimeout_l c t a m n 0 x y HE.out Hx.out Hy.out (V41.drew)).mono ?_); rintro e V42 ⟨rfl, b⟩; have S_3 := Lib.hid ((b.block _ Sz_2).trans S_2.out); have Sz_3 := Nat.lt_of_lt_of_le Sz_2 b.size; have W_3 := Lib.hid ((b.block _ Wz_2).trans W_2.out); have Wz_3 := Nat.lt_of_lt_of_le Wz_2 b.size; have T_3 := Lib.hid ((b.block _ Tz_2).trans T_2.out); have Tz_3 := Nat.lt_of_lt_of_le Tz_2 b.size; have U_3 := Lib.hid ((b.block _ Uz_2).trans U_2.out); have Uz_3 := Nat.lt_of_lt_of_le Uz_2 b.size; have q_3 := q_2.trans (b.mono q_2.size); clear S_2 Sz_2 W_2 Wz_2 T_2 Tz_2 U_2 Uz_2 q_2; clear b; have SW : Hid (V42.cell? ⟨V3.heap.size, 0, none⟩ = some (.int .i64 c) ∧ V42.cell? ⟨V3.heap.size, 1, none⟩ = some (.int .i64 t) ∧ V42.cell? ⟨V3.heap.size, 2, none⟩ = some (.int .i64 a) ∧ V42.cell? ⟨bl, off + k * 2 + 1, none⟩ = some (.int .i64 n)) := Lib.hid ⟨blk_cell W_3.out 0, blk_cell W_3.out 1, blk_cell W_3.out 2, (q_3.cell (p := ⟨bl, off + k * 2 + 1, none⟩) hbl).trans x1⟩; have Uc0 := blk_cell U_3.out 0; have Uf0 := blk_free U_3.out 0; have Tc0 := blk_cell T_3.out 0; have Uc1 := blk_cell U_3.out 1; have Uf1 := blk_free U_3.out 1; have Tc1 := blk_cell T_3.out 1; have Uc2 := blk_cell U_3.out 2; have Uf2 := blk_free U_3.out 2; have Tc2 := blk_cell T_3.out 2; have SXh : Hid ((((V42.setCell ⟨wc.heap.size, 0, none⟩ (.int .i64 x)).setCell ⟨wc.heap.size, 1, none⟩ (.int .i64 y)).setCell ⟨wc.heap.size, 2, none⟩ (.int .i64 0)).cell? ⟨V3.heap.size, 0, none⟩ = some (.int .i64 c) ∧ (((V42.setCell ⟨wc.heap.size, 0, none⟩ (.int .i64 x)).setCell ⟨wc.heap.size, 1, none⟩ (.int .i64 y)).setCell ⟨wc.heap.size, 2, none⟩ (.int .i64 0)).cell? ⟨V3.heap.size, 1, none⟩ = some (.int .i64 t) ∧ (((V42.setCell ⟨wc.heap.size, 0, none⟩ (.int .i64 x)).setCell ⟨wc.heap.size, 1, none⟩ (.int .i64 y)).setCell ⟨wc.heap.size, 2, none⟩ (.int .i64 0)).cell? ⟨V3.heap.size, 2, none⟩ = some (.int .i64 a) ∧ (((V42.setCell ⟨wc.heap.size, 0, none⟩ (.int .i64 x)).setCell ⟨wc.heap.size, 1, none⟩ (.int .i64 y)).setCell ⟨wc.heap.size, 2, none⟩ (.int .i64 0)).cell? ⟨bl, off + k * 2 + 1, none⟩ = some (.int .i64 n)) := Lib.hid ⟨blk_cell (blk_other (i := 2) (blk_other (i := 1) (blk_other (i := 0) W_3.out uW (.int .i64 x)) uW (.int .i64 y)) uW (.int .i64 0)) 0, blk_cell (blk_other (i := 2) (blk_other (i := 1) (blk_other (i := 0) W_3.out uW (.int .i64 x)) uW (.int .i64 y)) uW (.int .i64 0)) 1, blk_cell (blk_other (i := 2) (blk_other (i := 1) (blk_other (i := 0) W_3.out uW (.int .i64 x)) uW (.int .i64 y)) uW (.int .i64 0)) 2, (by rw [World.cell?_setCell_far _ _ _ _ uBn, World.cell?_setCell_far _ _ _ _ uBn, World.cell?_setCell_far _ _ _ _ uBn]; exact SW.out.2.2.2)⟩))
              go_wp2_with fail
              have QN := Lib.hid q_3
              have ZS : Hid (((((V42.setCell ⟨wc.heap.size, 0, none⟩ (.int .i64 x)).setCell ⟨wc.heap.size, 1, none⟩ (.int .i64 y)).setCell ⟨wc.heap.size, 2, none⟩ (.int .i64 0))).heap[V1.heap.size]? = some (.cells #[.int .i64 c, .int .i64 t, .int .i64 a] 24 (0, 0))) := Lib.hid (blk_other (i := 2) (blk_other (i := 1) (blk_other (i := 0) S_3.out uS (.int .i64 x)) uS (.int .i64 y)) uS (.int .i64 0))
              have ZW : Hid (((((V42.setCell ⟨wc.heap.size, 0, none⟩ (.int .i64 x)).setCell ⟨wc.heap.size, 1, none⟩ (.int .i64 y)).setCell ⟨wc.heap.size, 2, none⟩ (.int .i64 0))).heap[V3.heap.size]? = some (.cells #[.int .i64 c, .int .i64 t, .int .i64 a] 23 (0, 0))) := Lib.hid (blk_other (i := 2) (blk_other (i := 1) (blk_other (i := 0) W_3.out uW (.int .i64 x)) uW (.int .i64 y)) uW (.int .i64 0))
              have ZT : Hid (((((V42.setCell ⟨wc.heap.size, 0, none⟩ (.int .i64 x)).setCell ⟨wc.heap.size, 1, none⟩ (.int .i64 y)).setCell ⟨wc.heap.size, 2, none⟩ (.int .i64 0))).heap[gt]? = some (.cells #[.int .i64 x, .int .i64 y, .int .i64 0] 24 (0, 0))) := Lib.hid (blk_other (i := 2) (blk_other (i := 1) (blk_other (i := 0) T_3.out uT (.int .i64 x)) uT (.int .i64 y)) uT (.int .i64 0))
              have ZU : Hid (((((V42.setCell ⟨wc.heap.size, 0, none⟩ (.int .i64 x)).setCell ⟨wc.heap.size, 1, none⟩ (.int .i64 y)).setCell ⟨wc.heap.size, 2, none⟩ (.int .i64 0))).heap[wc.heap.size]? = some (.cells #[.int .i64 x, .int .i64 y, .int .i64 0] 23 (0, 0))) := Lib.hid (blk_set (blk_set (blk_set U_3.out 0 (.int .i64 x)) 1 (.int .i64 y)) 2 (.int .i64 0))
              have ZQ : Below w.heap.size w (((V42.setCell ⟨wc.heap.size, 0, none⟩ (.int .i64 x)).setCell ⟨wc.heap.size, 1, none⟩ (.int .i64 y)).setCell ⟨wc.heap.size, 2, none⟩ (.int .i64 0)) := (((QN.out.setCell (p := ⟨wc.heap.size, 0, none⟩) HUL.out (.int .i64 x)).setCell (p := ⟨wc.heap.size, 1, none⟩) HUL.out (.int .i64 y)).setCell (p := ⟨wc.heap.size, 2, none⟩) HUL.out (.int .i64 0))
              clear SW SD SXh QN q_3 Uc0 Uf0 Tc0 Uc1 Uf1 Tc1 Uc2 Uf2 Tc2 S_3 W_3 T_3 U_3
              generalize (((V42.setCell ⟨wc.heap.size, 0, none⟩ (.int .i64 x)).setCell ⟨wc.heap.size, 1, none⟩ (.int .i64 y)).setCell ⟨wc.heap.size, 2, none⟩ (.int .i64 0)) = Z at ZS ZW ZT ZU ZQ ⊢
              refine (num_any _ _).mono ?_
              rintro e w' ⟨rfl, rfl⟩
              have ZSc0 := blk_cell ZS.out 0
              have ZSf0 := blk_free ZS.out 0
              have ZSc1 := blk_cell ZS.out 1
              have ZSf1 := blk_free ZS.out 1
              have ZSc2 := blk_cell ZS.out 2
              have ZSf2 := blk_free ZS.out 2
              have ZWc0 := blk_cell ZW.out 0
              have ZWf0 := blk_free ZW.out 0
              have ZWc1 := blk_cell ZW.out 1
              have ZWf1 := blk_free ZW.out 1
              have ZWc2 := blk_cell ZW.out 2
              have ZWf2 := blk_free ZW.out 2
              have ZTc0 := blk_cell ZT.out 0
              have ZTf0 := blk_free ZT.out 0
              have ZTc1 := blk_cell ZT.out 1
              have ZTf1 := blk_free ZT.out 1
              have ZTc2 := blk_cell ZT.out 2
              have ZTf2 := blk_free ZT.out 2
              have ZUc0 := blk_cell ZU.out 0
              have ZUf0 := blk_free ZU.out 0
              have ZUc1 := blk_cell ZU.out 1
              have ZUf1 := blk_free ZU.out 1
              have ZUc2 := blk_cell ZU.out 2
              have ZUf2 := blk_free ZU.out 2
              have nsw := NSW.out
              have nws := nsw.symm
              have uSn := uS.symm
              have uWn := uW.symm
              go_wp2_with fail
              have tS : V1.heap.size ≠ gt := Sne2
              have tW : V3.heap.size ≠ gt := Wne2
              have SE0 : Hid (Z.drew.cell? ⟨gt, 0, none⟩ = some (.int .i64 x) ∧ Z.drew.cell? ⟨gt, 1, none⟩ = some (.int .i64 y) ∧ Z.drew.cell? ⟨gt, 2, none⟩ = some (.int .i64 0) ∧ Z.drew.cell? ⟨wc.heap.size, 0, none⟩ = some (.int .i64 x) ∧ Z.drew.cell? ⟨wc.heap.size, 1, none⟩ = some (.int .i64 y) ∧ Z.drew.cell? ⟨wc.heap.size, 2, none⟩ = some (.int .i64 0)) := Lib.hid ⟨blk_cell (blk_drew ZT.out) 0, blk_cell (blk_drew ZT.out) 1, blk_cell (blk_drew ZT.out) 2, blk_cell (blk_drew ZU.out) 0, blk_cell (blk_drew ZU.out) 1, blk_cell (blk_drew ZU.out) 2⟩
              have SES : Hid ((((Z.setCell ⟨V1.heap.size, 0, none⟩ (.int .i64 x)).setCell ⟨V1.heap.size, 1, none⟩ (.int .i64 y)).setCell ⟨V1.heap.size, 2, none⟩ (.int .i64 0)).drew.cell? ⟨gt, 0, none⟩ = some (.int .i64 x) ∧ (((Z.setCell ⟨V1.heap.size, 0, none⟩ (.int .i64 x)).setCell ⟨V1.heap.size, 1, none⟩ (.int .i64 y)).setCell ⟨V1.heap.size, 2, none⟩ (.int .i64 0)).drew.cell? ⟨gt, 1, none⟩ = some (.int .i64 y) ∧ (((Z.setCell ⟨V1.heap.size, 0, none⟩ (.int .i64 x)).setCell ⟨V1.heap.size, 1, none⟩ (.int .i64 y)).setCell ⟨V1.heap.size, 2, none⟩ (.int .i64 0)).drew.cell? ⟨gt, 2, none⟩ = some (.int .i64 0) ∧ (((Z.setCell ⟨V1.heap.size, 0, none⟩ (.int .i64 x)).setCell ⟨V1.heap.size, 1, none⟩ (.int .i64 y)).setCell ⟨V1.heap.size, 2, none⟩ (.int .i64 0)).drew.cell? ⟨wc.heap.size, 0, none⟩ = some (.int .i64 x) ∧ (((Z.setCell ⟨V1.heap.size, 0, none⟩ (.int .i64 x)).setCell ⟨V1.heap.size, 1, none⟩ (.int .i64 y)).setCell ⟨V1.heap.size, 2, none⟩ (.int .i64 0)).drew.cell? ⟨wc.heap.size, 1, none⟩ = some (.int .i64 y) ∧ (((Z.setCell ⟨V1.heap.size, 0, none⟩ (.int .i64 x)).setCell ⟨V1.heap.size, 1, none⟩ (.int .i64 y)).setCell ⟨V1.heap.size, 2, none⟩ (.int .i64 0)).drew.cell? ⟨wc.heap.size, 2, none⟩ = some (.int .i64 0)) := Lib.hid ⟨blk_cell (blk_drew (blk_other (i := 2) (blk_other (i := 1) (blk_other (i := 0) ZT.out tS (.int .i64 x)) tS (.int .i64 y)) tS (.int .i64 0))) 0, blk_cell (blk_drew (blk_other (i := 2) (blk_other (i := 1) (blk_other (i := 0) ZT.out tS (.int .i64 x)) tS (.int .i64 y)) tS (.int .i64 0))) 1, blk_cell (blk_drew (blk_other (i := 2) (blk_other (i := 1) (blk_other (i := 0) ZT.out tS (.int .i64 x)) tS (.int .i64 y)) tS (.int .i64 0))) 2, blk_cell (blk_drew (blk_other (i := 2) (blk_other (i := 1) (blk_other (i := 0) ZU.out uSn (.int .i64 x)) uSn (.int .i64 y)) uSn (.int .i64 0))) 0, blk_cell (blk_drew (blk_other (i := 2) (blk_other (i := 1) (blk_other (i := 0) ZU.out uSn (.int .i64 x)) uSn (.int .i64 y)) uSn (.int .i64 0))) 1, blk_cell (blk_drew (blk_other (i := 2) (blk_other (i := 1) (blk_other (i := 0) ZU.out uSn (.int .i64 x)) uSn (.int .i64 y)) uSn (.int .i64 0))) 2⟩
              have SEW : Hid (((((((Z.setCell ⟨V1.heap.size, 0, none⟩ (.int .i64 x)).setCell ⟨V1.heap.size, 1, none⟩ (.int .i64 y)).setCell ⟨V1.heap.size, 2, none⟩ (.int .i64 0)).setCell ⟨V3.heap.size, 0, none⟩ (.int .i64 x)).setCell ⟨V3.heap.size, 1, none⟩ (.int .i64 y)).setCell ⟨V3.heap.size, 2, none⟩ (.int .i64 0)).drew.cell? ⟨gt, 0, none⟩ = some (.int .i64 x) ∧ ((((((Z.setCell ⟨V1.heap.size, 0, none⟩ (.int .i64 x)).setCell ⟨V1.heap.size, 1, none⟩ (.int .i64 y)).setCell ⟨V1.heap.size, 2, none⟩ (.int .i64 0)).setCell ⟨V3.heap.size, 0, none⟩ (.int .i64 x)).setCell ⟨V3.heap.size, 1, none⟩ (.int .i64 y)).setCell ⟨V3.heap.size, 2, none⟩ (.int .i64 0)).drew.cell? ⟨gt, 1, none⟩ = some (.int .i64 y) ∧ ((((((Z.setCell ⟨V1.heap.size, 0, none⟩ (.int .i64 x)).setCell ⟨V1.heap.size, 1, none⟩ (.int .i64 y)).setCell ⟨V1.heap.size, 2, none⟩ (.int .i64 0)).setCell ⟨V3.heap.size, 0, none⟩ (.int .i64 x)).setCell ⟨V3.heap.size, 1, none⟩ (.int .i64 y)).setCell ⟨V3.heap.size, 2, none⟩ (.int .i64 0)).drew.cell? ⟨gt, 2, none⟩ = some (.int .i64 0) ∧ ((((((Z.setCell ⟨V1.heap.size, 0, none⟩ (.int .i64 x)).setCell ⟨V1.heap.size, 1, none⟩ (.int .i64 y)).setCell ⟨V1.heap.size, 2, none⟩ (.int .i64 0)).setCell ⟨V3.heap.size, 0, none⟩ (.int .i64 x)).setCell ⟨V3.heap.size, 1, none⟩ (.int .i64 y)).setCell ⟨V3.heap.size, 2, none⟩ (.int .i64 0)).drew.cell? ⟨wc.heap.size, 0, none⟩ = some (.int .i64 x) ∧ ((((((Z.setCell ⟨V1.heap.size, 0, none⟩ (.int .i64 x)).setCell ⟨V1.heap.size, 1, none⟩ (.int .i64 y)).setCell ⟨V1.heap.size, 2, none⟩ (.int .i64 0)).setCell ⟨V3.heap.size, 0, none⟩ (.int .i64 x)).setCell ⟨V3.heap.size, 1, none⟩ (.int .i64 y)).setCell ⟨V3.heap.size, 2, none⟩ (.int .i64 0)).drew.cell? ⟨wc.heap.size, 1, none⟩ = some (.int .i64 y) ∧ ((((((Z.setCell ⟨V1.heap.size, 0, none⟩ (.int .i64 x)).setCell ⟨V1.heap.size, 1, none⟩ (.int .i64 y)).setCell ⟨V1.heap.size, 2, none⟩ (.int .i64 0)).setCell ⟨V3.heap.size, 0, none⟩ (.int .i64 x)).setCell ⟨V3.heap.size, 1, none⟩ (.int .i64 y)).setCell ⟨V3.heap.size, 2, none⟩ (.int .i64 0)).drew.cell? ⟨wc.heap.size, 2, none⟩ = some (.int .i64 0)) := Lib.hid ⟨blk_cell (blk_drew (blk_other (i := 2) (blk_other (i := 1) (blk_other (i := 0) (blk_other (i := 2) (blk_other (i := 1) (blk_other (i := 0) ZT.out tS (.int .i64 x)) tS (.int .i64 y)) tS (.int .i64 0)) tW (.int .i64 x)) tW (.int .i64 y)) tW (.int .i64 0))) 0, blk_cell (blk_drew (blk_other (i := 2) (blk_other (i := 1) (blk_other (i := 0) (blk_other (i := 2) (blk_other (i := 1) (blk_other (i := 0) ZT.out tS (.int .i64 x)) tS (.int .i64 y)) tS (.int .i64 0)) tW (.int .i64 x)) tW (.int .i64 y)) tW (.int .i64 0))) 1, blk_cell (blk_drew (blk_other (i := 2) (blk_other (i := 1) (blk_other (i := 0) (blk_other (i := 2) (blk_other (i := 1) (blk_other (i := 0) ZT.out tS (.int .i64 x)) tS (.int .i64 y)) tS (.int .i64 0)) tW (.int .i64 x)) tW (.int .i64 y)) tW (.int .i64 0))) 2, blk_cell (blk_drew (blk_other (i := 2) (blk_other (i := 1) (blk_other (i := 0) (blk_other (i := 2) (blk_other (i := 1) (blk_other (i := 0) ZU.out uSn (.int .i64 x)) uSn (.int .i64 y)) uSn (.int .i64 0)) uWn (.int .i64 x)) uWn (.int .i64 y)) uWn (.int .i64 0))) 0, blk_cell (blk_drew (blk_other (i := 2) (blk_other (i := 1) (blk_other (i := 0) (blk_other (i := 2) (blk_other (i := 1) (blk_other (i := 0) ZU.out uSn (.int .i64 x)) uSn (.int .i64 y)) uSn (.int .i64 0)) uWn (.int .i64 x)) uWn (.int .i64 y)) uWn (.int .i64 0))) 1, blk_cell (blk_drew (blk_other (i := 2) (blk_other (i := 1) (blk_other (i := 0) (blk_other (i := 2) (blk_other (i := 1) (blk_other (i := 0) ZU.out uSn (.int .i64 x)) uSn (.int .i64 y)) uSn (.int .i64 0)) uWn (.int .i64 x)) uWn (.int .i64 y)) uWn (.int .i64 0))) 2⟩
              have FS : Hid (((((((Z.setCell ⟨V1.heap.size, 0, none⟩ (.int .i64 x)).setCell ⟨V1.heap.size, 1, none⟩ (.int .i64 y)).setCell ⟨V1.heap.size, 2, none⟩ (.int .i64 0)).setCell ⟨V3.heap.size, 0, none⟩ (.int .i64 x)).setCell ⟨V3.heap.size, 1, none⟩ (.int .i64 y)).setCell ⟨V3.heap.size, 2, none⟩ (.int .i64 0)).drew.heap[V1.heap.size]? = some (.cells #[.int .i64 x, .int .i64 y, .int .i64 0] 24 (0, 0))) := Lib.hid (blk_drew (blk_other (i := 2) (blk_other (i := 1) (blk_other (i := 0) (blk_set (blk_set (blk_set ZS.out 0 (.int .i64 x)) 1 (.int .i64 y)) 2 (.int .i64 0)) nws (.int .i64 x)) nws (.int .i64 y)) nws (.int .i64 0)))
              have FW : Hid (((((((Z.setCell ⟨V1.heap.size, 0, none⟩ (.int .i64 x)).setCell ⟨V1.heap.size, 1, none⟩ (.int .i64 y)).setCell ⟨V1.heap.size, 2, none⟩ (.int .i64 0)).setCell ⟨V3.heap.size, 0, none⟩ (.int .i64 x)).setCell ⟨V3.heap.size, 1, none⟩ (.int .i64 y)).setCell ⟨V3.heap.size, 2, none⟩ (.int .i64 0)).drew.heap[V3.heap.size]? = some (.cells #[.int .i64 x, .int .i64 y, .int .i64 0] 23 (0, 0))) := Lib.hid (blk_drew (blk_set (blk_set (blk_set (blk_other (i := 2) (blk_other (i := 1) (blk_other (i := 0) ZW.out nsw (.int .i64 x)) nsw (.int .i64 y)) nsw (.int .i64 0)) 0 (.int .i64 x)) 1 (.int .i64 y)) 2 (.int .i64 0)))
              have FQ : Hid (Below w.heap.size w ((((((Z.setCell ⟨V1.heap.size, 0, none⟩ (.int .i64 x)).setCell ⟨V1.heap.size, 1, none⟩ (.int .i64 y)).setCell ⟨V1.heap.size, 2, none⟩ (.int .i64 0)).setCell ⟨V3.heap.size, 0, none⟩ (.int .i64 x)).setCell ⟨V3.heap.size, 1, none⟩ (.int .i64 y)).setCell ⟨V3.heap.size, 2, none⟩ (.int .i64 0)).drew) := Lib.hid ((((((ZQ.setCell (p := ⟨V1.heap.size, 0, none⟩) HLE1.out (.int .i64 x)).setCell (p := ⟨V1.heap.size, 1, none⟩) HLE1.out (.int .i64 y)).setCell (p := ⟨V1.heap.size, 2, none⟩) HLE1.out (.int .i64 0)).setCell (p := ⟨V3.heap.size, 0, none⟩) HLE3.out (.int .i64 x)).setCell (p := ⟨V3.heap.size, 1, none⟩) HLE3.out (.int .i64 y)).setCell (p := ⟨V3.heap.size, 2, none⟩) HLE3.out (.int .i64 0)).drew
              go_region_held3 (fun W' => W'.cell? ⟨gt, 0, none⟩ = some (.int .i64 x) ∧ W'.cell? ⟨gt, 1, none⟩ = some (.int .i64 y) ∧ W'.cell? ⟨gt, 2, none⟩ = some (.int .i64 0) ∧ W'.cell? ⟨wc.heap.size, 0, none⟩ = some (.int .i64 x) ∧ W'.cell? ⟨wc.heap.size, 1, none⟩ = some (.int .i64 y) ∧ W'.cell? ⟨wc.heap.size, 2, none⟩ = some (.int .i64 0)) (first | (with_reducible exact SE0.out) | (with_reducible exact SES.out) | (with_reducible exact SEW.out)) (first
                | fail)
              all_goals
                clear SE0 SES SEW ZSc0 ZSf0 ZSc1 ZSf1 ZSc2 ZSf2 ZWc0 ZWf0 ZWc1 ZWf1 ZWc2 ZWf2 ZTc0 ZTf0 ZTc1 ZTf1 ZTc2 ZTf2 ZUc0 ZUf0 ZUc1 ZUf1 ZUc2 ZUf2 ZS ZW ZT ZU ZQ
                generalize ((((((Z.setCell ⟨V1.heap.size, 0, none⟩ (.int .i64 x)).setCell ⟨V1.heap.size, 1, none⟩ (.int .i64 y)).setCell ⟨V1.heap.size, 2, none⟩ (.int .i64 0)).setCell ⟨V3.heap.size, 0, none⟩ (.int .i64 x)).setCell ⟨V3.heap.size, 1, none⟩ (.int .i64 y)).setCell ⟨V3.heap.size, 2, none⟩ (.int .i64 0)).drew = Z2 at FS FW FQ ⊢
                have zc0 := blk_cell FS.out 0
                go_wp2_with fail
                go_roundw
                case rel => (with_reducible exact ⟨k + 1, _, _, _, by omega, by go_num, HN, FS.out, FW.out, FQ.out⟩)
                case measure => simp [intOf]; omega
          case neg =>
            have e2 : (E == 0) = false := by rw [beq_eq_false_iff_ne]; exact hE
            clear hEE hE
            have x0w := (q_0.cell (p := ⟨bl, off + k * 2, none⟩) hbl).trans x0
            have x1w := (q_0.cell (p := ⟨bl, off + k * 2 + 1, none⟩) hbl).trans x1
            have y := ((Below.refl wr.heap.size wr).alloc (Nat.le_refl _) (.cells #[.int .i64 0, .int .i64 0, .int .i64 0] 24)).drew
            have SY := Lib.hid ((y.block _ Sz_0).trans S_0.out)
            have SYz := Nat.lt_of_lt_of_le Sz_0 y.size
            have SN : Hid (wr.heap.size ≠ V1.heap.size) := Lib.hid (Nat.ne_of_gt Sz_0)
            have WY := Lib.hid ((y.block _ Wz_0).trans W_0.out)
            have WYz := Nat.lt_of_lt_of_le Wz_0 y.size
            have WN : Hid (wr.heap.size ≠ V3.heap.size) := Lib.hid (Nat.ne_of_gt Wz_0)
            have x0wB : bl < wr.heap.size := Nat.lt_of_lt_of_le hbl q_0.size
            have x0wY := Lib.hid ((y.cell (p := ⟨bl, off + k * 2, none⟩) x0wB).trans x0w)
            have x0wYB := Nat.lt_of_lt_of_le x0wB y.size
            have x0wN : wr.heap.size ≠ bl := Nat.ne_of_gt x0wB
            have x0wH := Lib.hid x0w
            have x1wB : bl < wr.heap.size := Nat.lt_of_lt_of_le hbl q_0.size
            have x1wY := Lib.hid ((y.cell (p := ⟨bl, off + k * 2 + 1, none⟩) x1wB).trans x1w)
            have x1wYB := Nat.lt_of_lt_of_le x1wB y.size
            have x1wN : wr.heap.size ≠ bl := Nat.ne_of_gt x1wB
            have x1wH := Lib.hid x1w
            have XY := Lib.hid (blk_new wr (.cells #[.int .i64 0, .int .i64 0, .int .i64 0] 24))
            have cjD : Hid (wr.drew.cell? ⟨V1.heap.size, 0, none⟩ = some (.int .i64 c) ∧ wr.drew.cell? ⟨V1.heap.size, 1, none⟩ = some (.int .i64 t) ∧ wr.drew.cell? ⟨V1.heap.size, 2, none⟩ = some (.int .i64 a) ∧ wr.drew.cell? ⟨V3.heap.size, 0, none⟩ = some (.int .i64 c) ∧ wr.drew.cell? ⟨V3.heap.size, 1, none⟩ = some (.int .i64 t) ∧ wr.drew.cell? ⟨V3.heap.size, 2, none⟩ = some (.int .i64 a) ∧ wr.drew.cell? ⟨bl, off + k * 2, none⟩ = some (.int .i64 2) ∧ wr.drew.cell? ⟨bl, off + k * 2 + 1, none⟩ = some (.int .i64 n)) := Lib.hid ⟨blk_cell S_0.out 0, blk_cell S_0.out 1, blk_cell S_0.out 2, blk_cell W_0.out 0, blk_cell W_0.out 1, blk_cell W_0.out 2, x0w, x1w⟩
            have cjY : Hid ((wr.alloc (.cells #[.int .i64 0, .int .i64 0, .int .i64 0] 24)).drew.cell? ⟨V1.heap.size, 0, none⟩ = some (.int .i64 c) ∧ (wr.alloc (.cells #[.int .i64 0, .int .i64 0, .int .i64 0] 24)).drew.cell? ⟨V1.heap.size, 1, none⟩ = some (.int .i64 t) ∧ (wr.alloc (.cells #[.int .i64 0, .int .i64 0, .int .i64 0] 24)).drew.cell? ⟨V1.heap.size, 2, none⟩ = some (.int .i64 a) ∧ (wr.alloc (.cells #[.int .i64 0, .int .i64 0, .int .i64 0] 24)).drew.cell? ⟨V3.heap.size, 0, none⟩ = some (.int .i64 c) ∧ (wr.alloc (.cells #[.int .i64 0, .int .i64 0, .int .i64 0] 24)).drew.cell? ⟨V3.heap.size, 1, none⟩ = some (.int .i64 t) ∧ (wr.alloc (.cells #[.int .i64 0, .int .i64 0, .int .i64 0] 24)).drew.cell? ⟨V3.heap.size, 2, none⟩ = some (.int .i64 a) ∧ (wr.alloc (.cells #[.int .i64 0, .int .i64 0, .int .i64 0] 24)).drew.cell? ⟨bl, off + k * 2, none⟩ = some (.int .i64 2) ∧ (wr.alloc (.cells #[.int .i64 0, .int .i64 0, .int .i64 0] 24)).drew.cell? ⟨bl, off + k * 2 + 1, none⟩ = some (.int .i64 n)) := Lib.hid ⟨blk_cell SY.out 0, blk_cell SY.out 1, blk_cell SY.out 2, blk_cell WY.out 0, blk_cell WY.out 1, blk_cell WY.out 2, x0wY.out, x1wY.out⟩
            have qD := Lib.hid q_0.drew
            have qY := Lib.hid (q_0.trans (y.mono q_0.size))
            have HVL : Hid (w.heap.size ≤ wr.heap.size) := Lib.hid q_0.size
            clear y
            go_wp2_with fail
            go_cut [10, 11] (fun (pt pe : Value) (wx : World) => BoxCut wr (fun W' : World => W'.heap[V1.heap.size]? = some (.cells #[.int .i64 c, .int .i64 t, .int .i64 a] 24 (0, 0)) ∧ W'.heap[V3.heap.size]? = some (.cells #[.int .i64 c, .int .i64 t, .int .i64 a] 23 (0, 0))) #[.int .i64 x, .int .i64 y, .int .i64 0] 24 (.int .i64 E) w pt pe wx)
            case first =>
              go_region_held3 (fun W' => W'.cell? ⟨V1.heap.size, 0, none⟩ = some (.int .i64 c) ∧ W'.cell? ⟨V1.heap.size, 1, none⟩ = some (.int .i64 t) ∧ W'.cell? ⟨V1.heap.size, 2, none⟩ = some (.int .i64 a) ∧ W'.cell? ⟨V3.heap.size, 0, none⟩ = some (.int .i64 c) ∧ W'.cell? ⟨V3.heap.size, 1, none⟩ = some (.int .i64 t) ∧ W'.cell? ⟨V3.heap.size, 2, none⟩ = some (.int .i64 a) ∧ W'.cell? ⟨bl, off + k * 2, none⟩ = some (.int .i64 2) ∧ W'.cell? ⟨bl, off + k * 2 + 1, none⟩ = some (.int .i64 n)) (first | (with_reducible exact cjD.out) | (with_reducible exact cjY.out) | (with_reducible exact cjW.out) | (with_reducible exact cjA.out _) | (with_reducible exact cjX.out) | go_keep) (first
                | (go_at_call 19; (with_reducible refine (after_2 c t a m n E x y HE.out Hx.out Hy.out wr.drew).mono ?_); rintro e WX ⟨rfl, b⟩; have S1 := Lib.hid ((b.block _ Sz_0).trans S_0.out); have Sz1 := Nat.lt_of_lt_of_le Sz_0 b.size; have W1 := Lib.hid ((b.block _ Wz_0).trans W_0.out); have Wz1 := Nat.lt_of_lt_of_le Wz_0 b.size; have x0w1 := Lib.hid ((b.cell (p := ⟨bl, off + k * 2, none⟩) x0wB).trans x0wH.out); have x0wz1 : bl < WX.heap.size := Nat.lt_of_lt_of_le x0wB b.size; have x1w1 := Lib.hid ((b.cell (p := ⟨bl, off + k * 2 + 1, none⟩) x1wB).trans x1wH.out); have x1wz1 : bl < WX.heap.size := Nat.lt_of_lt_of_le x1wB b.size; have cjW : Hid (WX.cell? ⟨V1.heap.size, 0, none⟩ = some (.int .i64 c) ∧ WX.cell? ⟨V1.heap.size, 1, none⟩ = some (.int .i64 t) ∧ WX.cell? ⟨V1.heap.size, 2, none⟩ = some (.int .i64 a) ∧ WX.cell? ⟨V3.heap.size, 0, none⟩ = some (.int .i64 c) ∧ WX.cell? ⟨V3.heap.size, 1, none⟩ = some (.int .i64 t) ∧ WX.cell? ⟨V3.heap.size, 2, none⟩ = some (.int .i64 a) ∧ WX.cell? ⟨bl, off + k * 2, none⟩ = some (.int .i64 2) ∧ WX.cell? ⟨bl, off + k * 2 + 1, none⟩ = some (.int .i64 n)) := Lib.hid ⟨blk_cell S1.out 0, blk_cell S1.out 1, blk_cell S1.out 2, blk_cell W1.out 0, blk_cell W1.out 1, blk_cell W1.out 2, x0w1.out, x1w1.out⟩; have QW := Lib.hid (qD.out.trans (b.mono qD.out.size)); have VL1 := Lib.hid b.size; have cjA : Hid (∀ o : Obj, (WX.alloc o).cell? ⟨V1.heap.size, 0, none⟩ = some (.int .i64 c) ∧ (WX.alloc o).cell? ⟨V1.heap.size, 1, none⟩ = some (.int .i64 t) ∧ (WX.alloc o).cell? ⟨V1.heap.size, 2, none⟩ = some (.int .i64 a) ∧ (WX.alloc o).cell? ⟨V3.heap.size, 0, none⟩ = some (.int .i64 c) ∧ (WX.alloc o).cell? ⟨V3.heap.size, 1, none⟩ = some (.int .i64 t) ∧ (WX.alloc o).cell? ⟨V3.heap.size, 2, none⟩ = some (.int .i64 a) ∧ (WX.alloc o).cell? ⟨bl, off + k * 2, none⟩ = some (.int .i64 2) ∧ (WX.alloc o).cell? ⟨bl, off + k * 2 + 1, none⟩ = some (.int .i64 n)) := Lib.hid (fun o => by have ya := (Below.refl WX.heap.size WX).alloc (Nat.le_refl _) o; exact ⟨blk_cell ((ya.block _ Sz1).trans S1.out) 0, blk_cell ((ya.block _ Sz1).trans S1.out) 1, blk_cell ((ya.block _ Sz1).trans S1.out) 2, blk_cell ((ya.block _ Wz1).trans W1.out) 0, blk_cell ((ya.block _ Wz1).trans W1.out) 1, blk_cell ((ya.block _ Wz1).trans W1.out) 2, ((ya.cell (p := ⟨bl, off + k * 2, none⟩) x0wz1).trans x0w1.out), ((ya.cell (p := ⟨bl, off + k * 2 + 1, none⟩) x1wz1).trans x1w1.out)⟩); clear b)
                | (go_at_call 19; (with_reducible refine (after_2 c t a m n E x y HE.out Hx.out Hy.out ((wr.alloc (.cells #[.int .i64 0, .int .i64 0, .int .i64 0] 24)).drew)).mono ?_); rintro e WX ⟨rfl, b⟩; have S1 := Lib.hid ((b.block _ SYz).trans SY.out); have W1 := Lib.hid ((b.block _ WYz).trans WY.out); have x0w1 := Lib.hid ((b.cell (p := ⟨bl, off + k * 2, none⟩) x0wYB).trans x0wY.out); have x1w1 := Lib.hid ((b.cell (p := ⟨bl, off + k * 2 + 1, none⟩) x1wYB).trans x1wY.out); have X1 := Lib.hid ((b.block wr.heap.size (by simp)).trans XY.out); have cjW : Hid (WX.cell? ⟨V1.heap.size, 0, none⟩ = some (.int .i64 c) ∧ WX.cell? ⟨V1.heap.size, 1, none⟩ = some (.int .i64 t) ∧ WX.cell? ⟨V1.heap.size, 2, none⟩ = some (.int .i64 a) ∧ WX.cell? ⟨V3.heap.size, 0, none⟩ = some (.int .i64 c) ∧ WX.cell? ⟨V3.heap.size, 1, none⟩ = some (.int .i64 t) ∧ WX.cell? ⟨V3.heap.size, 2, none⟩ = some (.int .i64 a) ∧ WX.cell? ⟨bl, off + k * 2, none⟩ = some (.int .i64 2) ∧ WX.cell? ⟨bl, off + k * 2 + 1, none⟩ = some (.int .i64 n)) := Lib.hid ⟨blk_cell S1.out 0, blk_cell S1.out 1, blk_cell S1.out 2, blk_cell W1.out 0, blk_cell W1.out 1, blk_cell W1.out 2, x0w1.out, x1w1.out⟩; have QW := Lib.hid (qY.out.trans (b.mono qY.out.size)); have x0 := blk_free X1.out 0; have y0 := blk_cell X1.out 0; have x1 := blk_free X1.out 1; have y1 := blk_cell X1.out 1; have x2 := blk_free X1.out 2; have y2 := blk_cell X1.out 2; have cjX : Hid ((((WX.setCell ⟨wr.heap.size, 0, none⟩ (.int .i64 x)).setCell ⟨wr.heap.size, 1, none⟩ (.int .i64 y)).setCell ⟨wr.heap.size, 2, none⟩ (.int .i64 0)).cell? ⟨V1.heap.size, 0, none⟩ = some (.int .i64 c) ∧ (((WX.setCell ⟨wr.heap.size, 0, none⟩ (.int .i64 x)).setCell ⟨wr.heap.size, 1, none⟩ (.int .i64 y)).setCell ⟨wr.heap.size, 2, none⟩ (.int .i64 0)).cell? ⟨V1.heap.size, 1, none⟩ = some (.int .i64 t) ∧ (((WX.setCell ⟨wr.heap.size, 0, none⟩ (.int .i64 x)).setCell ⟨wr.heap.size, 1, none⟩ (.int .i64 y)).setCell ⟨wr.heap.size, 2, none⟩ (.int .i64 0)).cell? ⟨V1.heap.size, 2, none⟩ = some (.int .i64 a) ∧ (((WX.setCell ⟨wr.heap.size, 0, none⟩ (.int .i64 x)).setCell ⟨wr.heap.size, 1, none⟩ (.int .i64 y)).setCell ⟨wr.heap.size, 2, none⟩ (.int .i64 0)).cell? ⟨V3.heap.size, 0, none⟩ = some (.int .i64 c) ∧ (((WX.setCell ⟨wr.heap.size, 0, none⟩ (.int .i64 x)).setCell ⟨wr.heap.size, 1, none⟩ (.int .i64 y)).setCell ⟨wr.heap.size, 2, none⟩ (.int .i64 0)).cell? ⟨V3.heap.size, 1, none⟩ = some (.int .i64 t) ∧ (((WX.setCell ⟨wr.heap.size, 0, none⟩ (.int .i64 x)).setCell ⟨wr.heap.size, 1, none⟩ (.int .i64 y)).setCell ⟨wr.heap.size, 2, none⟩ (.int .i64 0)).cell? ⟨V3.heap.size, 2, none⟩ = some (.int .i64 a) ∧ (((WX.setCell ⟨wr.heap.size, 0, none⟩ (.int .i64 x)).setCell ⟨wr.heap.size, 1, none⟩ (.int .i64 y)).setCell ⟨wr.heap.size, 2, none⟩ (.int .i64 0)).cell? ⟨bl, off + k * 2, none⟩ = some (.int .i64 2) ∧ (((WX.setCell ⟨wr.heap.size, 0, none⟩ (.int .i64 x)).setCell ⟨wr.heap.size, 1, none⟩ (.int .i64 y)).setCell ⟨wr.heap.size, 2, none⟩ (.int .i64 0)).cell? ⟨bl, off + k * 2 + 1, none⟩ = some (.int .i64 n)) := Lib.hid ⟨blk_cell (blk_other (i := 2) (blk_other (i := 1) (blk_other (i := 0) S1.out SN.out (.int .i64 x)) SN.out (.int .i64 y)) SN.out (.int .i64 0)) 0, blk_cell (blk_other (i := 2) (blk_other (i := 1) (blk_other (i := 0) S1.out SN.out (.int .i64 x)) SN.out (.int .i64 y)) SN.out (.int .i64 0)) 1, blk_cell (blk_other (i := 2) (blk_other (i := 1) (blk_other (i := 0) S1.out SN.out (.int .i64 x)) SN.out (.int .i64 y)) SN.out (.int .i64 0)) 2, blk_cell (blk_other (i := 2) (blk_other (i := 1) (blk_other (i := 0) W1.out WN.out (.int .i64 x)) WN.out (.int .i64 y)) WN.out (.int .i64 0)) 0, blk_cell (blk_other (i := 2) (blk_other (i := 1) (blk_other (i := 0) W1.out WN.out (.int .i64 x)) WN.out (.int .i64 y)) WN.out (.int .i64 0)) 1, blk_cell (blk_other (i := 2) (blk_other (i := 1) (blk_other (i := 0) W1.out WN.out (.int .i64 x)) WN.out (.int .i64 y)) WN.out (.int .i64 0)) 2, (by rw [World.cell?_setCell_far _ _ _ _ x0wN, World.cell?_setCell_far _ _ _ _ x0wN, World.cell?_setCell_far _ _ _ _ x0wN]; exact x0w1.out), (by rw [World.cell?_setCell_far _ _ _ _ x1wN, World.cell?_setCell_far _ _ _ _ x1wN, World.cell?_setCell_far _ _ _ _ x1wN]; exact x1w1.out)⟩; clear b))
              all_goals
                go_wp2_with fail
                go_meet
                first
                | (have ya := (Below.refl WX.heap.size WX).alloc (Nat.le_refl _) (.cells #[.int .i64 x, .int .i64 y, .int .i64 0] 24); exact ⟨_, rfl, rfl, ⟨(ya.block _ Sz1).trans S1.out, (ya.block _ Wz1).trans W1.out⟩, blk_new WX _, VL1.out, QW.out.alloc QW.out.size _⟩)
                | exact ⟨_, rfl, rfl, ⟨(blk_other (i := 2) (blk_other (i := 1) (blk_other (i := 0) S1.out SN.out (.int .i64 x)) SN.out (.int .i64 y)) SN.out (.int .i64 0)), (blk_other (i := 2) (blk_other (i := 1) (blk_other (i := 0) W1.out WN.out (.int .i64 x)) WN.out (.int .i64 y)) WN.out (.int .i64 0))⟩, (blk_set (blk_set (blk_set X1.out 0 (.int .i64 x)) 1 (.int .i64 y)) 2 (.int .i64 0)), Nat.le_refl _, (((QW.out.setCell (p := ⟨wr.heap.size, 0, none⟩) HVL.out (.int .i64 x)).setCell (p := ⟨wr.heap.size, 1, none⟩) HVL.out (.int .i64 y)).setCell (p := ⟨wr.heap.size, 2, none⟩) HVL.out (.int .i64 0))⟩
            case rest =>
              obtain ⟨gt, rfl, rfl, ⟨kS, kW⟩, kNew, gle, hq⟩ := hcut
              clear S_0 SY W_0 WY XY cjD cjY qD qY q_0
              have q_0 := hq
              have Sz_0 := blk_lt kS
              have Sne : gt ≠ V1.heap.size := by have := SN.out; have := Sz_0; omega
              have Sne2 := Sne.symm
              have Wz_0 := blk_lt kW
              have Wne : gt ≠ V3.heap.size := by have := WN.out; have := Wz_0; omega
              have Wne2 := Wne.symm
              have gz := blk_lt kNew
              have S_0 := Lib.hid (kS)
              have Sc0_0 := blk_cell S_0.out 0
              have Sc1_0 := blk_cell S_0.out 1
              have Sc2_0 := blk_cell S_0.out 2
              have W_0 := Lib.hid (kW)
              have Wc0_0 := blk_cell W_0.out 0
              have Wc1_0 := blk_cell W_0.out 1
              have Wc2_0 := blk_cell W_0.out 2
              clear kS kW hq
              clear x0w x1w x0wH x1wH
              have T_0 := Lib.hid kNew
              clear kNew
              have x0v := (q_0.cell (p := ⟨bl, off + k * 2, none⟩) hbl).trans x0
              have x1v := (q_0.cell (p := ⟨bl, off + k * 2 + 1, none⟩) hbl).trans x1
              have Tz_0 := gz
              have Tc0_0 := blk_cell T_0.out 0
              have Tc1_0 := blk_cell T_0.out 1
              have Tc2_0 := blk_cell T_0.out 2
              have uS : wc.heap.size ≠ V1.heap.size := Nat.ne_of_gt Sz_0
              have uW : wc.heap.size ≠ V3.heap.size := Nat.ne_of_gt Wz_0
              have uT : wc.heap.size ≠ gt := Nat.ne_of_gt Tz_0
              have uB : bl < wc.heap.size := Nat.lt_of_lt_of_le hbl q_0.size
              have HUL : Hid (w.heap.size ≤ wc.heap.size) := Lib.hid q_0.size
              go_wp2_with fail
              have b : Below wc.heap.size wc (wc.alloc (.cells #[.int .i64 c, .int .i64 t, .int .i64 a] 23)) := ((Below.refl _ wc).alloc (Nat.le_refl _) (.cells #[.int .i64 c, .int .i64 t, .int .i64 a] 23))
              have nb0 := blk_new wc (.cells #[.int .i64 c, .int .i64 t, .int .i64 a] 23)
              have nz0 : wc.heap.size < (wc.alloc (.cells #[.int .i64 c, .int .i64 t, .int .i64 a] 23)).heap.size := by simp only [World.size_alloc]; omega
              have S_1 := Lib.hid ((b.block _ Sz_0).trans S_0.out)
              have Sz_1 := Nat.lt_of_lt_of_le Sz_0 b.size
              have Sc0_1 := blk_cell S_1.out 0
              have Sc1_1 := blk_cell S_1.out 1
              have Sc2_1 := blk_cell S_1.out 2
              have W_1 := Lib.hid ((b.block _ Wz_0).trans W_0.out)
              have Wz_1 := Nat.lt_of_lt_of_le Wz_0 b.size
              have Wc0_1 := blk_cell W_1.out 0
              have Wc1_1 := blk_cell W_1.out 1
              have Wc2_1 := blk_cell W_1.out 2
              have T_1 := Lib.hid ((b.block _ Tz_0).trans T_0.out)
              have Tz_1 := Nat.lt_of_lt_of_le Tz_0 b.size
              have Tc0_1 := blk_cell T_1.out 0
              have Tc1_1 := blk_cell T_1.out 1
              have Tc2_1 := blk_cell T_1.out 2
              have q_1 := q_0.trans (b.mono q_0.size)
              clear S_0 Sz_0 Sc0_0 Sc1_0 Sc2_0 W_0 Wz_0 Wc0_0 Wc1_0 Wc2_0 T_0 Tz_0 Tc0_0 Tc1_0 Tc2_0 q_0
              clear b
              have U_1 := Lib.hid nb0
              have Uz_1 := nz0
              clear nb0 nz0
              have Uc0_1 := blk_cell U_1.out 0
              have Uc1_1 := blk_cell U_1.out 1
              have Uc2_1 := blk_cell U_1.out 2
              generalize (wc.alloc (.cells #[.int .i64 c, .int .i64 t, .int .i64 a] 23)) = V41 at q_1 S_1 Sz_1 Sc0_1 Sc1_1 Sc2_1 W_1 Wz_1 Wc0_1 Wc1_1 Wc2_1 T_1 Tz_1 Tc0_1 Tc1_1 Tc2_1 U_1 Uz_1 Uc0_1 Uc1_1 Uc2_1 ⊢
              have x1u := (q_1.cell (p := ⟨bl, off + k * 2 + 1, none⟩) hbl).trans x1
              clear x0v x1v
              have SD : Hid (V41.drew.cell? ⟨V3.heap.size, 0, none⟩ = some (.int .i64 c) ∧ V41.drew.cell? ⟨V3.heap.size, 1, none⟩ = some (.int .i64 t) ∧ V41.drew.cell? ⟨V3.heap.size, 2, none⟩ = some (.int .i64 a) ∧ V41.drew.cell? ⟨bl, off + k * 2 + 1, none⟩ = some (.int .i64 n)) := Lib.hid ⟨blk_cell W_1.out 0, blk_cell W_1.out 1, blk_cell W_1.out 2, x1u⟩
              have x1H := Lib.hid x1u
              clear Sc0_1 Sc1_1 Sc2_1
              clear Wc0_1 Wc1_1 Wc2_1
              clear Tc0_1 Tc1_1 Tc2_1
              clear Uc0_1 Uc1_1 Uc2_1
              have S_2 := Lib.hid ((((Below.refl V41.heap.size V41).drew).block _ Sz_1).trans S_1.out)
              have Sz_2 := Nat.lt_of_lt_of_le Sz_1 ((Below.refl V41.heap.size V41).drew).size
              have W_2 := Lib.hid ((((Below.refl V41.heap.size V41).drew).block _ Wz_1).trans W_1.out)
              have Wz_2 := Nat.lt_of_lt_of_le Wz_1 ((Below.refl V41.heap.size V41).drew).size
              have T_2 := Lib.hid ((((Below.refl V41.heap.size V41).drew).block _ Tz_1).trans T_1.out)
              have Tz_2 := Nat.lt_of_lt_of_le Tz_1 ((Below.refl V41.heap.size V41).drew).size
              have U_2 := Lib.hid ((((Below.refl V41.heap.size V41).drew).block _ Uz_1).trans U_1.out)
              have Uz_2 := Nat.lt_of_lt_of_le Uz_1 ((Below.refl V41.heap.size V41).drew).size
              have q_2 := q_1.trans (((Below.refl V41.heap.size V41).drew).mono q_1.size)
              clear S_1 Sz_1 W_1 Wz_1 T_1 Tz_1 U_1 Uz_1 q_1
              have uBn : wc.heap.size ≠ bl := Nat.ne_of_gt uB
              have uTn := uT.symm
              go_region_held3 (fun W' => W'.cell? ⟨V3.heap.size, 0, none⟩ = some (.int .i64 c) ∧ W'.cell? ⟨V3.heap.size, 1, none⟩ = some (.int .i64 t) ∧ W'.cell? ⟨V3.heap.size, 2, none⟩ = some (.int .i64 a) ∧ W'.cell? ⟨bl, off + k * 2 + 1, none⟩ = some (.int .i64 n)) (first | (with_reducible exact SD.out) | (with_reducible exact SW.out) | (with_reducible exact SXh.out) | go_keep) (first
                | (go_at_call 12; (with_reducible refine (rtimeout_l c t a m n E x y HE.out Hx.out Hy.out (V41.drew)).mono ?_); rintro e V42 ⟨rfl, b⟩; have S_3 := Lib.hid ((b.block _ Sz_2).trans S_2.out); have Sz_3 := Nat.lt_of_lt_of_le Sz_2 b.size; have W_3 := Lib.hid ((b.block _ Wz_2).trans W_2.out); have Wz_3 := Nat.lt_of_lt_of_le Wz_2 b.size; have T_3 := Lib.hid ((b.block _ Tz_2).trans T_2.out); have Tz_3 := Nat.lt_of_lt_of_le Tz_2 b.size; have U_3 := Lib.hid ((b.block _ Uz_2).trans U_2.out); have Uz_3 := Nat.lt_of_lt_of_le Uz_2 b.size; have q_3 := q_2.trans (b.mono q_2.size); clear S_2 Sz_2 W_2 Wz_2 T_2 Tz_2 U_2 Uz_2 q_2; clear b; have SW : Hid (V42.cell? ⟨V3.heap.size, 0, none⟩ = some (.int .i64 c) ∧ V42.cell? ⟨V3.heap.size, 1, none⟩ = some (.int .i64 t) ∧ V42.cell? ⟨V3.heap.size, 2, none⟩ = some (.int .i64 a) ∧ V42.cell? ⟨bl, off + k * 2 + 1, none⟩ = some (.int .i64 n)) := Lib.hid ⟨blk_cell W_3.out 0, blk_cell W_3.out 1, blk_cell W_3.out 2, (q_3.cell (p := ⟨bl, off + k * 2 + 1, none⟩) hbl).trans x1⟩; have Uc0 := blk_cell U_3.out 0; have Uf0 := blk_free U_3.out 0; have Tc0 := blk_cell T_3.out 0; have Uc1 := blk_cell U_3.out 1; have Uf1 := blk_free U_3.out 1; have Tc1 := blk_cell T_3.out 1; have Uc2 := blk_cell U_3.out 2; have Uf2 := blk_free U_3.out 2; have Tc2 := blk_cell T_3.out 2; have SXh : Hid ((((V42.setCell ⟨wc.heap.size, 0, none⟩ (.int .i64 x)).setCell ⟨wc.heap.size, 1, none⟩ (.int .i64 y)).setCell ⟨wc.heap.size, 2, none⟩ (.int .i64 0)).cell? ⟨V3.heap.size, 0, none⟩ = some (.int .i64 c) ∧ (((V42.setCell ⟨wc.heap.size, 0, none⟩ (.int .i64 x)).setCell ⟨wc.heap.size, 1, none⟩ (.int .i64 y)).setCell ⟨wc.heap.size, 2, none⟩ (.int .i64 0)).cell? ⟨V3.heap.size, 1, none⟩ = some (.int .i64 t) ∧ (((V42.setCell ⟨wc.heap.size, 0, none⟩ (.int .i64 x)).setCell ⟨wc.heap.size, 1, none⟩ (.int .i64 y)).setCell ⟨wc.heap.size, 2, none⟩ (.int .i64 0)).cell? ⟨V3.heap.size, 2, none⟩ = some (.int .i64 a) ∧ (((V42.setCell ⟨wc.heap.size, 0, none⟩ (.int .i64 x)).setCell ⟨wc.heap.size, 1, none⟩ (.int .i64 y)).setCell ⟨wc.heap.size, 2, none⟩ (.int .i64 0)).cell? ⟨bl, off + k * 2 + 1, none⟩ = some (.int .i64 n)) := Lib.hid ⟨blk_cell (blk_other (i := 2) (blk_other (i := 1) (blk_other (i := 0) W_3.out uW (.int .i64 x)) uW (.int .i64 y)) uW (.int .i64 0)) 0, blk_cell (blk_other (i := 2) (blk_other (i := 1) (blk_other (i := 0) W_3.out uW (.int .i64 x)) uW (.int .i64 y)) uW (.int .i64 0)) 1, blk_cell (blk_other (i := 2) (blk_other (i := 1) (blk_other (i := 0) W_3.out uW (.int .i64 x)) uW (.int .i64 y)) uW (.int .i64 0)) 2, (by rw [World.cell?_setCell_far _ _ _ _ uBn, World.cell?_setCell_far _ _ _ _ uBn, World.cell?_setCell_far _ _ _ _ uBn]; exact SW.out.2.2.2)⟩))
              go_wp2_with fail
              have QN := Lib.hid q_3
              have ZS : Hid (((((V42.setCell ⟨wc.heap.size, 0, none⟩ (.int .i64 x)).setCell ⟨wc.heap.size, 1, none⟩ (.int .i64 y)).setCell ⟨wc.heap.size, 2, none⟩ (.int .i64 0))).heap[V1.heap.size]? = some (.cells #[.int .i64 c, .int .i64 t, .int .i64 a] 24 (0, 0))) := Lib.hid (blk_other (i := 2) (blk_other (i := 1) (blk_other (i := 0) S_3.out uS (.int .i64 x)) uS (.int .i64 y)) uS (.int .i64 0))
              have ZW : Hid (((((V42.setCell ⟨wc.heap.size, 0, none⟩ (.int .i64 x)).setCell ⟨wc.heap.size, 1, none⟩ (.int .i64 y)).setCell ⟨wc.heap.size, 2, none⟩ (.int .i64 0))).heap[V3.heap.size]? = some (.cells #[.int .i64 c, .int .i64 t, .int .i64 a] 23 (0, 0))) := Lib.hid (blk_other (i := 2) (blk_other (i := 1) (blk_other (i := 0) W_3.out uW (.int .i64 x)) uW (.int .i64 y)) uW (.int .i64 0))
              have ZT : Hid (((((V42.setCell ⟨wc.heap.size, 0, none⟩ (.int .i64 x)).setCell ⟨wc.heap.size, 1, none⟩ (.int .i64 y)).setCell ⟨wc.heap.size, 2, none⟩ (.int .i64 0))).heap[gt]? = some (.cells #[.int .i64 x, .int .i64 y, .int .i64 0] 24 (0, 0))) := Lib.hid (blk_other (i := 2) (blk_other (i := 1) (blk_other (i := 0) T_3.out uT (.int .i64 x)) uT (.int .i64 y)) uT (.int .i64 0))
              have ZU : Hid (((((V42.setCell ⟨wc.heap.size, 0, none⟩ (.int .i64 x)).setCell ⟨wc.heap.size, 1, none⟩ (.int .i64 y)).setCell ⟨wc.heap.size, 2, none⟩ (.int .i64 0))).heap[wc.heap.size]? = some (.cells #[.int .i64 x, .int .i64 y, .int .i64 0] 23 (0, 0))) := Lib.hid (blk_set (blk_set (blk_set U_3.out 0 (.int .i64 x)) 1 (.int .i64 y)) 2 (.int .i64 0))
              have ZQ : Below w.heap.size w (((V42.setCell ⟨wc.heap.size, 0, none⟩ (.int .i64 x)).setCell ⟨wc.heap.size, 1, none⟩ (.int .i64 y)).setCell ⟨wc.heap.size, 2, none⟩ (.int .i64 0)) := (((QN.out.setCell (p := ⟨wc.heap.size, 0, none⟩) HUL.out (.int .i64 x)).setCell (p := ⟨wc.heap.size, 1, none⟩) HUL.out (.int .i64 y)).setCell (p := ⟨wc.heap.size, 2, none⟩) HUL.out (.int .i64 0))
              clear SW SD SXh QN q_3 Uc0 Uf0 Tc0 Uc1 Uf1 Tc1 Uc2 Uf2 Tc2 S_3 W_3 T_3 U_3
              generalize (((V42.setCell ⟨wc.heap.size, 0, none⟩ (.int .i64 x)).setCell ⟨wc.heap.size, 1, none⟩ (.int .i64 y)).setCell ⟨wc.heap.size, 2, none⟩ (.int .i64 0)) = Z at ZS ZW ZT ZU ZQ ⊢
              refine (num_any _ _).mono ?_
              rintro e w' ⟨rfl, rfl⟩
              have ZSc0 := blk_cell ZS.out 0
              have ZSf0 := blk_free ZS.out 0
              have ZSc1 := blk_cell ZS.out 1
              have ZSf1 := blk_free ZS.out 1
              have ZSc2 := blk_cell ZS.out 2
              have ZSf2 := blk_free ZS.out 2
              have ZWc0 := blk_cell ZW.out 0
              have ZWf0 := blk_free ZW.out 0
              have ZWc1 := blk_cell ZW.out 1
              have ZWf1 := blk_free ZW.out 1
              have ZWc2 := blk_cell ZW.out 2
              have ZWf2 := blk_free ZW.out 2
              have ZTc0 := blk_cell ZT.out 0
              have ZTf0 := blk_free ZT.out 0
              have ZTc1 := blk_cell ZT.out 1
              have ZTf1 := blk_free ZT.out 1
              have ZTc2 := blk_cell ZT.out 2
              have ZTf2 := blk_free ZT.out 2
              have ZUc0 := blk_cell ZU.out 0
              have ZUf0 := blk_free ZU.out 0
              have ZUc1 := blk_cell ZU.out 1
              have ZUf1 := blk_free ZU.out 1
              have ZUc2 := blk_cell ZU.out 2
              have ZUf2 := blk_free ZU.out 2
              have nsw := NSW.out
              have nws := nsw.symm
              have uSn := uS.symm
              have uWn := uW.symm
              go_wp2_with fail
              go_roundw
              case rel => exact ⟨k + 1, c, t, a, by omega, by go_num, HS, ZS.out, ZW.out, ZQ⟩
              case measure => simp [intOf]; omega
        case neg =>
          have n1 : (wh == 1) = false := by rw [beq_eq_false_iff_ne]; exact h1
          have n2 : (wh == 2) = false := by rw [beq_eq_false_iff_ne]; exact h2
          clear h1 h2
          obtain ⟨x, hx⟩ : ∃ z, kC E c t a m n = z := ⟨_, rfl⟩
          obtain ⟨y, hy⟩ : ∃ z, kT E t = z := ⟨_, rfl⟩
          obtain ⟨z, hz⟩ : ∃ z, kA E c t a n = z := ⟨_, rfl⟩
          have Hx := Lib.hid hx
          clear hx
          have Hy := Lib.hid hy
          clear hy
          have Hz := Lib.hid hz
          clear hz
          by_cases hE : E = 0
          case pos =>
            subst hE
            have HN : Hid (SV x y z m) := Lib.hid (sv_ack hEE Hx.out Hy.out Hz.out)
            have nb := HN.out.1
            obtain ⟨nb1, nb2⟩ := nb
            have x0w := (q_0.cell (p := ⟨bl, off + k * 2, none⟩) hbl).trans x0
            have x1w := (q_0.cell (p := ⟨bl, off + k * 2 + 1, none⟩) hbl).trans x1
            have y := ((Below.refl wr.heap.size wr).alloc (Nat.le_refl _) (.cells #[.int .i64 0, .int .i64 0, .int .i64 0] 24)).drew
            have SY := Lib.hid ((y.block _ Sz_0).trans S_0.out)
            have SYz := Nat.lt_of_lt_of_le Sz_0 y.size
            have SN : Hid (wr.heap.size ≠ V1.heap.size) := Lib.hid (Nat.ne_of_gt Sz_0)
            have WY := Lib.hid ((y.block _ Wz_0).trans W_0.out)
            have WYz := Nat.lt_of_lt_of_le Wz_0 y.size
            have WN : Hid (wr.heap.size ≠ V3.heap.size) := Lib.hid (Nat.ne_of_gt Wz_0)
            have x0wB : bl < wr.heap.size := Nat.lt_of_lt_of_le hbl q_0.size
            have x0wY := Lib.hid ((y.cell (p := ⟨bl, off + k * 2, none⟩) x0wB).trans x0w)
            have x0wYB := Nat.lt_of_lt_of_le x0wB y.size
            have x0wN : wr.heap.size ≠ bl := Nat.ne_of_gt x0wB
            have x0wH := Lib.hid x0w
            have x1wB : bl < wr.heap.size := Nat.lt_of_lt_of_le hbl q_0.size
            have x1wY := Lib.hid ((y.cell (p := ⟨bl, off + k * 2 + 1, none⟩) x1wB).trans x1w)
            have x1wYB := Nat.lt_of_lt_of_le x1wB y.size
            have x1wN : wr.heap.size ≠ bl := Nat.ne_of_gt x1wB
            have x1wH := Lib.hid x1w
            have XY := Lib.hid (blk_new wr (.cells #[.int .i64 0, .int .i64 0, .int .i64 0] 24))
            have cjD : Hid (wr.drew.cell? ⟨V1.heap.size, 0, none⟩ = some (.int .i64 c) ∧ wr.drew.cell? ⟨V1.heap.size, 1, none⟩ = some (.int .i64 t) ∧ wr.drew.cell? ⟨V1.heap.size, 2, none⟩ = some (.int .i64 a) ∧ wr.drew.cell? ⟨V3.heap.size, 0, none⟩ = some (.int .i64 c) ∧ wr.drew.cell? ⟨V3.heap.size, 1, none⟩ = some (.int .i64 t) ∧ wr.drew.cell? ⟨V3.heap.size, 2, none⟩ = some (.int .i64 a) ∧ wr.drew.cell? ⟨bl, off + k * 2, none⟩ = some (.int .i64 wh) ∧ wr.drew.cell? ⟨bl, off + k * 2 + 1, none⟩ = some (.int .i64 n)) := Lib.hid ⟨blk_cell S_0.out 0, blk_cell S_0.out 1, blk_cell S_0.out 2, blk_cell W_0.out 0, blk_cell W_0.out 1, blk_cell W_0.out 2, x0w, x1w⟩
            have cjY : Hid ((wr.alloc (.cells #[.int .i64 0, .int .i64 0, .int .i64 0] 24)).drew.cell? ⟨V1.heap.size, 0, none⟩ = some (.int .i64 c) ∧ (wr.alloc (.cells #[.int .i64 0, .int .i64 0, .int .i64 0] 24)).drew.cell? ⟨V1.heap.size, 1, none⟩ = some (.int .i64 t) ∧ (wr.alloc (.cells #[.int .i64 0, .int .i64 0, .int .i64 0] 24)).drew.cell? ⟨V1.heap.size, 2, none⟩ = some (.int .i64 a) ∧ (wr.alloc (.cells #[.int .i64 0, .int .i64 0, .int .i64 0] 24)).drew.cell? ⟨V3.heap.size, 0, none⟩ = some (.int .i64 c) ∧ (wr.alloc (.cells #[.int .i64 0, .int .i64 0, .int .i64 0] 24)).drew.cell? ⟨V3.heap.size, 1, none⟩ = some (.int .i64 t) ∧ (wr.alloc (.cells #[.int .i64 0, .int .i64 0, .int .i64 0] 24)).drew.cell? ⟨V3.heap.size, 2, none⟩ = some (.int .i64 a) ∧ (wr.alloc (.cells #[.int .i64 0, .int .i64 0, .int .i64 0] 24)).drew.cell? ⟨bl, off + k * 2, none⟩ = some (.int .i64 wh) ∧ (wr.alloc (.cells #[.int .i64 0, .int .i64 0, .int .i64 0] 24)).drew.cell? ⟨bl, off + k * 2 + 1, none⟩ = some (.int .i64 n)) := Lib.hid ⟨blk_cell SY.out 0, blk_cell SY.out 1, blk_cell SY.out 2, blk_cell WY.out 0, blk_cell WY.out 1, blk_cell WY.out 2, x0wY.out, x1wY.out⟩
            have qD := Lib.hid q_0.drew
            have qY := Lib.hid (q_0.trans (y.mono q_0.size))
            have HVL : Hid (w.heap.size ≤ wr.heap.size) := Lib.hid q_0.size
            clear y
            go_wp2_with fail
            go_cut [10, 11] (fun (pt pe : Value) (wx : World) => BoxCut wr (fun W' : World => W'.heap[V1.heap.size]? = some (.cells #[.int .i64 c, .int .i64 t, .int .i64 a] 24 (0, 0)) ∧ W'.heap[V3.heap.size]? = some (.cells #[.int .i64 c, .int .i64 t, .int .i64 a] 23 (0, 0))) #[.int .i64 x, .int .i64 y, .int .i64 z] 24 (.int .i64 0) w pt pe wx)
            case first =>
              go_region_held3 (fun W' => W'.cell? ⟨V1.heap.size, 0, none⟩ = some (.int .i64 c) ∧ W'.cell? ⟨V1.heap.size, 1, none⟩ = some (.int .i64 t) ∧ W'.cell? ⟨V1.heap.size, 2, none⟩ = some (.int .i64 a) ∧ W'.cell? ⟨V3.heap.size, 0, none⟩ = some (.int .i64 c) ∧ W'.cell? ⟨V3.heap.size, 1, none⟩ = some (.int .i64 t) ∧ W'.cell? ⟨V3.heap.size, 2, none⟩ = some (.int .i64 a) ∧ W'.cell? ⟨bl, off + k * 2, none⟩ = some (.int .i64 wh) ∧ W'.cell? ⟨bl, off + k * 2 + 1, none⟩ = some (.int .i64 n)) (first | (with_reducible exact cjD.out) | (with_reducible exact cjY.out) | (with_reducible exact cjW.out) | (with_reducible exact cjA.out _) | (with_reducible exact cjX.out) | go_keep) (first
                | (go_at_call 19; (with_reducible refine (after_0 c t a m n 0 x y z HE.out Hx.out Hy.out Hz.out wh n1 n2 wr.drew).mono ?_); rintro e WX ⟨rfl, b⟩; have S1 := Lib.hid ((b.block _ Sz_0).trans S_0.out); have Sz1 := Nat.lt_of_lt_of_le Sz_0 b.size; have W1 := Lib.hid ((b.block _ Wz_0).trans W_0.out); have Wz1 := Nat.lt_of_lt_of_le Wz_0 b.size; have x0w1 := Lib.hid ((b.cell (p := ⟨bl, off + k * 2, none⟩) x0wB).trans x0wH.out); have x0wz1 : bl < WX.heap.size := Nat.lt_of_lt_of_le x0wB b.size; have x1w1 := Lib.hid ((b.cell (p := ⟨bl, off + k * 2 + 1, none⟩) x1wB).trans x1wH.out); have x1wz1 : bl < WX.heap.size := Nat.lt_of_lt_of_le x1wB b.size; have cjW : Hid (WX.cell? ⟨V1.heap.size, 0, none⟩ = some (.int .i64 c) ∧ WX.cell? ⟨V1.heap.size, 1, none⟩ = some (.int .i64 t) ∧ WX.cell? ⟨V1.heap.size, 2, none⟩ = some (.int .i64 a) ∧ WX.cell? ⟨V3.heap.size, 0, none⟩ = some (.int .i64 c) ∧ WX.cell? ⟨V3.heap.size, 1, none⟩ = some (.int .i64 t) ∧ WX.cell? ⟨V3.heap.size, 2, none⟩ = some (.int .i64 a) ∧ WX.cell? ⟨bl, off + k * 2, none⟩ = some (.int .i64 wh) ∧ WX.cell? ⟨bl, off + k * 2 + 1, none⟩ = some (.int .i64 n)) := Lib.hid ⟨blk_cell S1.out 0, blk_cell S1.out 1, blk_cell S1.out 2, blk_cell W1.out 0, blk_cell W1.out 1, blk_cell W1.out 2, x0w1.out, x1w1.out⟩; have QW := Lib.hid (qD.out.trans (b.mono qD.out.size)); have VL1 := Lib.hid b.size; have cjA : Hid (∀ o : Obj, (WX.alloc o).cell? ⟨V1.heap.size, 0, none⟩ = some (.int .i64 c) ∧ (WX.alloc o).cell? ⟨V1.heap.size, 1, none⟩ = some (.int .i64 t) ∧ (WX.alloc o).cell? ⟨V1.heap.size, 2, none⟩ = some (.int .i64 a) ∧ (WX.alloc o).cell? ⟨V3.heap.size, 0, none⟩ = some (.int .i64 c) ∧ (WX.alloc o).cell? ⟨V3.heap.size, 1, none⟩ = some (.int .i64 t) ∧ (WX.alloc o).cell? ⟨V3.heap.size, 2, none⟩ = some (.int .i64 a) ∧ (WX.alloc o).cell? ⟨bl, off + k * 2, none⟩ = some (.int .i64 wh) ∧ (WX.alloc o).cell? ⟨bl, off + k * 2 + 1, none⟩ = some (.int .i64 n)) := Lib.hid (fun o => by have ya := (Below.refl WX.heap.size WX).alloc (Nat.le_refl _) o; exact ⟨blk_cell ((ya.block _ Sz1).trans S1.out) 0, blk_cell ((ya.block _ Sz1).trans S1.out) 1, blk_cell ((ya.block _ Sz1).trans S1.out) 2, blk_cell ((ya.block _ Wz1).trans W1.out) 0, blk_cell ((ya.block _ Wz1).trans W1.out) 1, blk_cell ((ya.block _ Wz1).trans W1.out) 2, ((ya.cell (p := ⟨bl, off + k * 2, none⟩) x0wz1).trans x0w1.out), ((ya.cell (p := ⟨bl, off + k * 2 + 1, none⟩) x1wz1).trans x1w1.out)⟩); clear b)
                | (go_at_call 19; (with_reducible refine (after_0 c t a m n 0 x y z HE.out Hx.out Hy.out Hz.out wh n1 n2 ((wr.alloc (.cells #[.int .i64 0, .int .i64 0, .int .i64 0] 24)).drew)).mono ?_); rintro e WX ⟨rfl, b⟩; have S1 := Lib.hid ((b.block _ SYz).trans SY.out); have W1 := Lib.hid ((b.block _ WYz).trans WY.out); have x0w1 := Lib.hid ((b.cell (p := ⟨bl, off + k * 2, none⟩) x0wYB).trans x0wY.out); have x1w1 := Lib.hid ((b.cell (p := ⟨bl, off + k * 2 + 1, none⟩) x1wYB).trans x1wY.out); have X1 := Lib.hid ((b.block wr.heap.size (by simp)).trans XY.out); have cjW : Hid (WX.cell? ⟨V1.heap.size, 0, none⟩ = some (.int .i64 c) ∧ WX.cell? ⟨V1.heap.size, 1, none⟩ = some (.int .i64 t) ∧ WX.cell? ⟨V1.heap.size, 2, none⟩ = some (.int .i64 a) ∧ WX.cell? ⟨V3.heap.size, 0, none⟩ = some (.int .i64 c) ∧ WX.cell? ⟨V3.heap.size, 1, none⟩ = some (.int .i64 t) ∧ WX.cell? ⟨V3.heap.size, 2, none⟩ = some (.int .i64 a) ∧ WX.cell? ⟨bl, off + k * 2, none⟩ = some (.int .i64 wh) ∧ WX.cell? ⟨bl, off + k * 2 + 1, none⟩ = some (.int .i64 n)) := Lib.hid ⟨blk_cell S1.out 0, blk_cell S1.out 1, blk_cell S1.out 2, blk_cell W1.out 0, blk_cell W1.out 1, blk_cell W1.out 2, x0w1.out, x1w1.out⟩; have QW := Lib.hid (qY.out.trans (b.mono qY.out.size)); have x0 := blk_free X1.out 0; have y0 := blk_cell X1.out 0; have x1 := blk_free X1.out 1; have y1 := blk_cell X1.out 1; have x2 := blk_free X1.out 2; have y2 := blk_cell X1.out 2; have cjX : Hid ((((WX.setCell ⟨wr.heap.size, 0, none⟩ (.int .i64 x)).setCell ⟨wr.heap.size, 1, none⟩ (.int .i64 y)).setCell ⟨wr.heap.size, 2, none⟩ (.int .i64 z)).cell? ⟨V1.heap.size, 0, none⟩ = some (.int .i64 c) ∧ (((WX.setCell ⟨wr.heap.size, 0, none⟩ (.int .i64 x)).setCell ⟨wr.heap.size, 1, none⟩ (.int .i64 y)).setCell ⟨wr.heap.size, 2, none⟩ (.int .i64 z)).cell? ⟨V1.heap.size, 1, none⟩ = some (.int .i64 t) ∧ (((WX.setCell ⟨wr.heap.size, 0, none⟩ (.int .i64 x)).setCell ⟨wr.heap.size, 1, none⟩ (.int .i64 y)).setCell ⟨wr.heap.size, 2, none⟩ (.int .i64 z)).cell? ⟨V1.heap.size, 2, none⟩ = some (.int .i64 a) ∧ (((WX.setCell ⟨wr.heap.size, 0, none⟩ (.int .i64 x)).setCell ⟨wr.heap.size, 1, none⟩ (.int .i64 y)).setCell ⟨wr.heap.size, 2, none⟩ (.int .i64 z)).cell? ⟨V3.heap.size, 0, none⟩ = some (.int .i64 c) ∧ (((WX.setCell ⟨wr.heap.size, 0, none⟩ (.int .i64 x)).setCell ⟨wr.heap.size, 1, none⟩ (.int .i64 y)).setCell ⟨wr.heap.size, 2, none⟩ (.int .i64 z)).cell? ⟨V3.heap.size, 1, none⟩ = some (.int .i64 t) ∧ (((WX.setCell ⟨wr.heap.size, 0, none⟩ (.int .i64 x)).setCell ⟨wr.heap.size, 1, none⟩ (.int .i64 y)).setCell ⟨wr.heap.size, 2, none⟩ (.int .i64 z)).cell? ⟨V3.heap.size, 2, none⟩ = some (.int .i64 a) ∧ (((WX.setCell ⟨wr.heap.size, 0, none⟩ (.int .i64 x)).setCell ⟨wr.heap.size, 1, none⟩ (.int .i64 y)).setCell ⟨wr.heap.size, 2, none⟩ (.int .i64 z)).cell? ⟨bl, off + k * 2, none⟩ = some (.int .i64 wh) ∧ (((WX.setCell ⟨wr.heap.size, 0, none⟩ (.int .i64 x)).setCell ⟨wr.heap.size, 1, none⟩ (.int .i64 y)).setCell ⟨wr.heap.size, 2, none⟩ (.int .i64 z)).cell? ⟨bl, off + k * 2 + 1, none⟩ = some (.int .i64 n)) := Lib.hid ⟨blk_cell (blk_other (i := 2) (blk_other (i := 1) (blk_other (i := 0) S1.out SN.out (.int .i64 x)) SN.out (.int .i64 y)) SN.out (.int .i64 z)) 0, blk_cell (blk_other (i := 2) (blk_other (i := 1) (blk_other (i := 0) S1.out SN.out (.int .i64 x)) SN.out (.int .i64 y)) SN.out (.int .i64 z)) 1, blk_cell (blk_other (i := 2) (blk_other (i := 1) (blk_other (i := 0) S1.out SN.out (.int .i64 x)) SN.out (.int .i64 y)) SN.out (.int .i64 z)) 2, blk_cell (blk_other (i := 2) (blk_other (i := 1) (blk_other (i := 0) W1.out WN.out (.int .i64 x)) WN.out (.int .i64 y)) WN.out (.int .i64 z)) 0, blk_cell (blk_other (i := 2) (blk_other (i := 1) (blk_other (i := 0) W1.out WN.out (.int .i64 x)) WN.out (.int .i64 y)) WN.out (.int .i64 z)) 1, blk_cell (blk_other (i := 2) (blk_other (i := 1) (blk_other (i := 0) W1.out WN.out (.int .i64 x)) WN.out (.int .i64 y)) WN.out (.int .i64 z)) 2, (by rw [World.cell?_setCell_far _ _ _ _ x0wN, World.cell?_setCell_far _ _ _ _ x0wN, World.cell?_setCell_far _ _ _ _ x0wN]; exact x0w1.out), (by rw [World.cell?_setCell_far _ _ _ _ x1wN, World.cell?_setCell_far _ _ _ _ x1wN, World.cell?_setCell_far _ _ _ _ x1wN]; exact x1w1.out)⟩; clear b))
              all_goals
                go_wp2_with fail
                go_meet
                first
                | (have ya := (Below.refl WX.heap.size WX).alloc (Nat.le_refl _) (.cells #[.int .i64 x, .int .i64 y, .int .i64 z] 24); exact ⟨_, rfl, rfl, ⟨(ya.block _ Sz1).trans S1.out, (ya.block _ Wz1).trans W1.out⟩, blk_new WX _, VL1.out, QW.out.alloc QW.out.size _⟩)
                | exact ⟨_, rfl, rfl, ⟨(blk_other (i := 2) (blk_other (i := 1) (blk_other (i := 0) S1.out SN.out (.int .i64 x)) SN.out (.int .i64 y)) SN.out (.int .i64 z)), (blk_other (i := 2) (blk_other (i := 1) (blk_other (i := 0) W1.out WN.out (.int .i64 x)) WN.out (.int .i64 y)) WN.out (.int .i64 z))⟩, (blk_set (blk_set (blk_set X1.out 0 (.int .i64 x)) 1 (.int .i64 y)) 2 (.int .i64 z)), Nat.le_refl _, (((QW.out.setCell (p := ⟨wr.heap.size, 0, none⟩) HVL.out (.int .i64 x)).setCell (p := ⟨wr.heap.size, 1, none⟩) HVL.out (.int .i64 y)).setCell (p := ⟨wr.heap.size, 2, none⟩) HVL.out (.int .i64 z))⟩
            case rest =>
              obtain ⟨gt, rfl, rfl, ⟨kS, kW⟩, kNew, gle, hq⟩ := hcut
              clear S_0 SY W_0 WY XY cjD cjY qD qY q_0
              have q_0 := hq
              have Sz_0 := blk_lt kS
              have Sne : gt ≠ V1.heap.size := by have := SN.out; have := Sz_0; omega
              have Sne2 := Sne.symm
              have Wz_0 := blk_lt kW
              have Wne : gt ≠ V3.heap.size := by have := WN.out; have := Wz_0; omega
              have Wne2 := Wne.symm
              have gz := blk_lt kNew
              have S_0 := Lib.hid (kS)
              have Sc0_0 := blk_cell S_0.out 0
              have Sc1_0 := blk_cell S_0.out 1
              have Sc2_0 := blk_cell S_0.out 2
              have W_0 := Lib.hid (kW)
              have Wc0_0 := blk_cell W_0.out 0
              have Wc1_0 := blk_cell W_0.out 1
              have Wc2_0 := blk_cell W_0.out 2
              clear kS kW hq
              clear x0w x1w x0wH x1wH
              have T_0 := Lib.hid kNew
              clear kNew
              have x0v := (q_0.cell (p := ⟨bl, off + k * 2, none⟩) hbl).trans x0
              have x1v := (q_0.cell (p := ⟨bl, off + k * 2 + 1, none⟩) hbl).trans x1
              have Tz_0 := gz
              have Tc0_0 := blk_cell T_0.out 0
              have Tc1_0 := blk_cell T_0.out 1
              have Tc2_0 := blk_cell T_0.out 2
              have uS : wc.heap.size ≠ V1.heap.size := Nat.ne_of_gt Sz_0
              have uW : wc.heap.size ≠ V3.heap.size := Nat.ne_of_gt Wz_0
              have uT : wc.heap.size ≠ gt := Nat.ne_of_gt Tz_0
              have uB : bl < wc.heap.size := Nat.lt_of_lt_of_le hbl q_0.size
              have HUL : Hid (w.heap.size ≤ wc.heap.size) := Lib.hid q_0.size
              go_wp2_with fail
              have b : Below wc.heap.size wc (wc.alloc (.cells #[.int .i64 c, .int .i64 t, .int .i64 a] 23)) := ((Below.refl _ wc).alloc (Nat.le_refl _) (.cells #[.int .i64 c, .int .i64 t, .int .i64 a] 23))
              have nb0 := blk_new wc (.cells #[.int .i64 c, .int .i64 t, .int .i64 a] 23)
              have nz0 : wc.heap.size < (wc.alloc (.cells #[.int .i64 c, .int .i64 t, .int .i64 a] 23)).heap.size := by simp only [World.size_alloc]; omega
              have S_1 := Lib.hid ((b.block _ Sz_0).trans S_0.out)
              have Sz_1 := Nat.lt_of_lt_of_le Sz_0 b.size
              have Sc0_1 := blk_cell S_1.out 0
              have Sc1_1 := blk_cell S_1.out 1
              have Sc2_1 := blk_cell S_1.out 2
              have W_1 := Lib.hid ((b.block _ Wz_0).trans W_0.out)
              have Wz_1 := Nat.lt_of_lt_of_le Wz_0 b.size
              have Wc0_1 := blk_cell W_1.out 0
              have Wc1_1 := blk_cell W_1.out 1
              have Wc2_1 := blk_cell W_1.out 2
              have T_1 := Lib.hid ((b.block _ Tz_0).trans T_0.out)
              have Tz_1 := Nat.lt_of_lt_of_le Tz_0 b.size
              have Tc0_1 := blk_cell T_1.out 0
              have Tc1_1 := blk_cell T_1.out 1
              have Tc2_1 := blk_cell T_1.out 2
              have q_1 := q_0.trans (b.mono q_0.size)
              clear S_0 Sz_0 Sc0_0 Sc1_0 Sc2_0 W_0 Wz_0 Wc0_0 Wc1_0 Wc2_0 T_0 Tz_0 Tc0_0 Tc1_0 Tc2_0 q_0
              clear b
              have U_1 := Lib.hid nb0
              have Uz_1 := nz0
              clear nb0 nz0
              have Uc0_1 := blk_cell U_1.out 0
              have Uc1_1 := blk_cell U_1.out 1
              have Uc2_1 := blk_cell U_1.out 2
              generalize (wc.alloc (.cells #[.int .i64 c, .int .i64 t, .int .i64 a] 23)) = V41 at q_1 S_1 Sz_1 Sc0_1 Sc1_1 Sc2_1 W_1 Wz_1 Wc0_1 Wc1_1 Wc2_1 T_1 Tz_1 Tc0_1 Tc1_1 Tc2_1 U_1 Uz_1 Uc0_1 Uc1_1 Uc2_1 ⊢
              have x1u := (q_1.cell (p := ⟨bl, off + k * 2 + 1, none⟩) hbl).trans x1
              clear x0v x1v
              have SD : Hid (V41.drew.cell? ⟨V3.heap.size, 0, none⟩ = some (.int .i64 c) ∧ V41.drew.cell? ⟨V3.heap.size, 1, none⟩ = some (.int .i64 t) ∧ V41.drew.cell? ⟨V3.heap.size, 2, none⟩ = some (.int .i64 a) ∧ V41.drew.cell? ⟨bl, off + k * 2 + 1, none⟩ = some (.int .i64 n)) := Lib.hid ⟨blk_cell W_1.out 0, blk_cell W_1.out 1, blk_cell W_1.out 2, x1u⟩
              have x1H := Lib.hid x1u
              clear Sc0_1 Sc1_1 Sc2_1
              clear Wc0_1 Wc1_1 Wc2_1
              clear Tc0_1 Tc1_1 Tc2_1
              clear Uc0_1 Uc1_1 Uc2_1
              have S_2 := Lib.hid ((((Below.refl V41.heap.size V41).drew).block _ Sz_1).trans S_1.out)
              have Sz_2 := Nat.lt_of_lt_of_le Sz_1 ((Below.refl V41.heap.size V41).drew).size
              have W_2 := Lib.hid ((((Below.refl V41.heap.size V41).drew).block _ Wz_1).trans W_1.out)
              have Wz_2 := Nat.lt_of_lt_of_le Wz_1 ((Below.refl V41.heap.size V41).drew).size
              have T_2 := Lib.hid ((((Below.refl V41.heap.size V41).drew).block _ Tz_1).trans T_1.out)
              have Tz_2 := Nat.lt_of_lt_of_le Tz_1 ((Below.refl V41.heap.size V41).drew).size
              have U_2 := Lib.hid ((((Below.refl V41.heap.size V41).drew).block _ Uz_1).trans U_1.out)
              have Uz_2 := Nat.lt_of_lt_of_le Uz_1 ((Below.refl V41.heap.size V41).drew).size
              have q_2 := q_1.trans (((Below.refl V41.heap.size V41).drew).mono q_1.size)
              clear S_1 Sz_1 W_1 Wz_1 T_1 Tz_1 U_1 Uz_1 q_1
              have uBn : wc.heap.size ≠ bl := Nat.ne_of_gt uB
              have uTn := uT.symm
              go_region_held3 (fun W' => W'.cell? ⟨V3.heap.size, 0, none⟩ = some (.int .i64 c) ∧ W'.cell? ⟨V3.heap.size, 1, none⟩ = some (.int .i64 t) ∧ W'.cell? ⟨V3.heap.size, 2, none⟩ = some (.int .i64 a) ∧ W'.cell? ⟨bl, off + k * 2 + 1, none⟩ = some (.int .i64 n)) (first | (with_reducible exact SD.out) | (with_reducible exact SW.out) | (with_reducible exact SXh.out) | go_keep) (first
                | (go_at_call 8; (with_reducible refine (rack_l c t a m n 0 x y z HE.out Hx.out Hy.out Hz.out (V41.drew)).mono ?_); rintro e V42 ⟨rfl, b⟩; have S_3 := Lib.hid ((b.block _ Sz_2).trans S_2.out); have Sz_3 := Nat.lt_of_lt_of_le Sz_2 b.size; have W_3 := Lib.hid ((b.block _ Wz_2).trans W_2.out); have Wz_3 := Nat.lt_of_lt_of_le Wz_2 b.size; have T_3 := Lib.hid ((b.block _ Tz_2).trans T_2.out); have Tz_3 := Nat.lt_of_lt_of_le Tz_2 b.size; have U_3 := Lib.hid ((b.block _ Uz_2).trans U_2.out); have Uz_3 := Nat.lt_of_lt_of_le Uz_2 b.size; have q_3 := q_2.trans (b.mono q_2.size); clear S_2 Sz_2 W_2 Wz_2 T_2 Tz_2 U_2 Uz_2 q_2; clear b; have SW : Hid (V42.cell? ⟨V3.heap.size, 0, none⟩ = some (.int .i64 c) ∧ V42.cell? ⟨V3.heap.size, 1, none⟩ = some (.int .i64 t) ∧ V42.cell? ⟨V3.heap.size, 2, none⟩ = some (.int .i64 a) ∧ V42.cell? ⟨bl, off + k * 2 + 1, none⟩ = some (.int .i64 n)) := Lib.hid ⟨blk_cell W_3.out 0, blk_cell W_3.out 1, blk_cell W_3.out 2, (q_3.cell (p := ⟨bl, off + k * 2 + 1, none⟩) hbl).trans x1⟩; have Uc0 := blk_cell U_3.out 0; have Uf0 := blk_free U_3.out 0; have Tc0 := blk_cell T_3.out 0; have Uc1 := blk_cell U_3.out 1; have Uf1 := blk_free U_3.out 1; have Tc1 := blk_cell T_3.out 1; have Uc2 := blk_cell U_3.out 2; have Uf2 := blk_free U_3.out 2; have Tc2 := blk_cell T_3.out 2; have SXh : Hid ((((V42.setCell ⟨wc.heap.size, 0, none⟩ (.int .i64 x)).setCell ⟨wc.heap.size, 1, none⟩ (.int .i64 y)).setCell ⟨wc.heap.size, 2, none⟩ (.int .i64 z)).cell? ⟨V3.heap.size, 0, none⟩ = some (.int .i64 c) ∧ (((V42.setCell ⟨wc.heap.size, 0, none⟩ (.int .i64 x)).setCell ⟨wc.heap.size, 1, none⟩ (.int .i64 y)).setCell ⟨wc.heap.size, 2, none⟩ (.int .i64 z)).cell? ⟨V3.heap.size, 1, none⟩ = some (.int .i64 t) ∧ (((V42.setCell ⟨wc.heap.size, 0, none⟩ (.int .i64 x)).setCell ⟨wc.heap.size, 1, none⟩ (.int .i64 y)).setCell ⟨wc.heap.size, 2, none⟩ (.int .i64 z)).cell? ⟨V3.heap.size, 2, none⟩ = some (.int .i64 a) ∧ (((V42.setCell ⟨wc.heap.size, 0, none⟩ (.int .i64 x)).setCell ⟨wc.heap.size, 1, none⟩ (.int .i64 y)).setCell ⟨wc.heap.size, 2, none⟩ (.int .i64 z)).cell? ⟨bl, off + k * 2 + 1, none⟩ = some (.int .i64 n)) := Lib.hid ⟨blk_cell (blk_other (i := 2) (blk_other (i := 1) (blk_other (i := 0) W_3.out uW (.int .i64 x)) uW (.int .i64 y)) uW (.int .i64 z)) 0, blk_cell (blk_other (i := 2) (blk_other (i := 1) (blk_other (i := 0) W_3.out uW (.int .i64 x)) uW (.int .i64 y)) uW (.int .i64 z)) 1, blk_cell (blk_other (i := 2) (blk_other (i := 1) (blk_other (i := 0) W_3.out uW (.int .i64 x)) uW (.int .i64 y)) uW (.int .i64 z)) 2, (by rw [World.cell?_setCell_far _ _ _ _ uBn, World.cell?_setCell_far _ _ _ _ uBn, World.cell?_setCell_far _ _ _ _ uBn]; exact SW.out.2.2.2)⟩))
              go_wp2_with fail
              have QN := Lib.hid q_3
              have ZS : Hid (((((V42.setCell ⟨wc.heap.size, 0, none⟩ (.int .i64 x)).setCell ⟨wc.heap.size, 1, none⟩ (.int .i64 y)).setCell ⟨wc.heap.size, 2, none⟩ (.int .i64 z))).heap[V1.heap.size]? = some (.cells #[.int .i64 c, .int .i64 t, .int .i64 a] 24 (0, 0))) := Lib.hid (blk_other (i := 2) (blk_other (i := 1) (blk_other (i := 0) S_3.out uS (.int .i64 x)) uS (.int .i64 y)) uS (.int .i64 z))
              have ZW : Hid (((((V42.setCell ⟨wc.heap.size, 0, none⟩ (.int .i64 x)).setCell ⟨wc.heap.size, 1, none⟩ (.int .i64 y)).setCell ⟨wc.heap.size, 2, none⟩ (.int .i64 z))).heap[V3.heap.size]? = some (.cells #[.int .i64 c, .int .i64 t, .int .i64 a] 23 (0, 0))) := Lib.hid (blk_other (i := 2) (blk_other (i := 1) (blk_other (i := 0) W_3.out uW (.int .i64 x)) uW (.int .i64 y)) uW (.int .i64 z))
              have ZT : Hid (((((V42.setCell ⟨wc.heap.size, 0, none⟩ (.int .i64 x)).setCell ⟨wc.heap.size, 1, none⟩ (.int .i64 y)).setCell ⟨wc.heap.size, 2, none⟩ (.int .i64 z))).heap[gt]? = some (.cells #[.int .i64 x, .int .i64 y, .int .i64 z] 24 (0, 0))) := Lib.hid (blk_other (i := 2) (blk_other (i := 1) (blk_other (i := 0) T_3.out uT (.int .i64 x)) uT (.int .i64 y)) uT (.int .i64 z))
              have ZU : Hid (((((V42.setCell ⟨wc.heap.size, 0, none⟩ (.int .i64 x)).setCell ⟨wc.heap.size, 1, none⟩ (.int .i64 y)).setCell ⟨wc.heap.size, 2, none⟩ (.int .i64 z))).heap[wc.heap.size]? = some (.cells #[.int .i64 x, .int .i64 y, .int .i64 z] 23 (0, 0))) := Lib.hid (blk_set (blk_set (blk_set U_3.out 0 (.int .i64 x)) 1 (.int .i64 y)) 2 (.int .i64 z))
              have ZQ : Below w.heap.size w (((V42.setCell ⟨wc.heap.size, 0, none⟩ (.int .i64 x)).setCell ⟨wc.heap.size, 1, none⟩ (.int .i64 y)).setCell ⟨wc.heap.size, 2, none⟩ (.int .i64 z)) := (((QN.out.setCell (p := ⟨wc.heap.size, 0, none⟩) HUL.out (.int .i64 x)).setCell (p := ⟨wc.heap.size, 1, none⟩) HUL.out (.int .i64 y)).setCell (p := ⟨wc.heap.size, 2, none⟩) HUL.out (.int .i64 z))
              clear SW SD SXh QN q_3 Uc0 Uf0 Tc0 Uc1 Uf1 Tc1 Uc2 Uf2 Tc2 S_3 W_3 T_3 U_3
              generalize (((V42.setCell ⟨wc.heap.size, 0, none⟩ (.int .i64 x)).setCell ⟨wc.heap.size, 1, none⟩ (.int .i64 y)).setCell ⟨wc.heap.size, 2, none⟩ (.int .i64 z)) = Z at ZS ZW ZT ZU ZQ ⊢
              refine (num_any _ _).mono ?_
              rintro e w' ⟨rfl, rfl⟩
              have ZSc0 := blk_cell ZS.out 0
              have ZSf0 := blk_free ZS.out 0
              have ZSc1 := blk_cell ZS.out 1
              have ZSf1 := blk_free ZS.out 1
              have ZSc2 := blk_cell ZS.out 2
              have ZSf2 := blk_free ZS.out 2
              have ZWc0 := blk_cell ZW.out 0
              have ZWf0 := blk_free ZW.out 0
              have ZWc1 := blk_cell ZW.out 1
              have ZWf1 := blk_free ZW.out 1
              have ZWc2 := blk_cell ZW.out 2
              have ZWf2 := blk_free ZW.out 2
              have ZTc0 := blk_cell ZT.out 0
              have ZTf0 := blk_free ZT.out 0
              have ZTc1 := blk_cell ZT.out 1
              have ZTf1 := blk_free ZT.out 1
              have ZTc2 := blk_cell ZT.out 2
              have ZTf2 := blk_free ZT.out 2
              have ZUc0 := blk_cell ZU.out 0
              have ZUf0 := blk_free ZU.out 0
              have ZUc1 := blk_cell ZU.out 1
              have ZUf1 := blk_free ZU.out 1
              have ZUc2 := blk_cell ZU.out 2
              have ZUf2 := blk_free ZU.out 2
              have nsw := NSW.out
              have nws := nsw.symm
              have uSn := uS.symm
              have uWn := uW.symm
              go_wp2_with fail
              have tS : V1.heap.size ≠ gt := Sne2
              have tW : V3.heap.size ≠ gt := Wne2
              have SE0 : Hid (Z.drew.cell? ⟨gt, 0, none⟩ = some (.int .i64 x) ∧ Z.drew.cell? ⟨gt, 1, none⟩ = some (.int .i64 y) ∧ Z.drew.cell? ⟨gt, 2, none⟩ = some (.int .i64 z) ∧ Z.drew.cell? ⟨wc.heap.size, 0, none⟩ = some (.int .i64 x) ∧ Z.drew.cell? ⟨wc.heap.size, 1, none⟩ = some (.int .i64 y) ∧ Z.drew.cell? ⟨wc.heap.size, 2, none⟩ = some (.int .i64 z)) := Lib.hid ⟨blk_cell (blk_drew ZT.out) 0, blk_cell (blk_drew ZT.out) 1, blk_cell (blk_drew ZT.out) 2, blk_cell (blk_drew ZU.out) 0, blk_cell (blk_drew ZU.out) 1, blk_cell (blk_drew ZU.out) 2⟩
              have SES : Hid ((((Z.setCell ⟨V1.heap.size, 0, none⟩ (.int .i64 x)).setCell ⟨V1.heap.size, 1, none⟩ (.int .i64 y)).setCell ⟨V1.heap.size, 2, none⟩ (.int .i64 z)).drew.cell? ⟨gt, 0, none⟩ = some (.int .i64 x) ∧ (((Z.setCell ⟨V1.heap.size, 0, none⟩ (.int .i64 x)).setCell ⟨V1.heap.size, 1, none⟩ (.int .i64 y)).setCell ⟨V1.heap.size, 2, none⟩ (.int .i64 z)).drew.cell? ⟨gt, 1, none⟩ = some (.int .i64 y) ∧ (((Z.setCell ⟨V1.heap.size, 0, none⟩ (.int .i64 x)).setCell ⟨V1.heap.size, 1, none⟩ (.int .i64 y)).setCell ⟨V1.heap.size, 2, none⟩ (.int .i64 z)).drew.cell? ⟨gt, 2, none⟩ = some (.int .i64 z) ∧ (((Z.setCell ⟨V1.heap.size, 0, none⟩ (.int .i64 x)).setCell ⟨V1.heap.size, 1, none⟩ (.int .i64 y)).setCell ⟨V1.heap.size, 2, none⟩ (.int .i64 z)).drew.cell? ⟨wc.heap.size, 0, none⟩ = some (.int .i64 x) ∧ (((Z.setCell ⟨V1.heap.size, 0, none⟩ (.int .i64 x)).setCell ⟨V1.heap.size, 1, none⟩ (.int .i64 y)).setCell ⟨V1.heap.size, 2, none⟩ (.int .i64 z)).drew.cell? ⟨wc.heap.size, 1, none⟩ = some (.int .i64 y) ∧ (((Z.setCell ⟨V1.heap.size, 0, none⟩ (.int .i64 x)).setCell ⟨V1.heap.size, 1, none⟩ (.int .i64 y)).setCell ⟨V1.heap.size, 2, none⟩ (.int .i64 z)).drew.cell? ⟨wc.heap.size, 2, none⟩ = some (.int .i64 z)) := Lib.hid ⟨blk_cell (blk_drew (blk_other (i := 2) (blk_other (i := 1) (blk_other (i := 0) ZT.out tS (.int .i64 x)) tS (.int .i64 y)) tS (.int .i64 z))) 0, blk_cell (blk_drew (blk_other (i := 2) (blk_other (i := 1) (blk_other (i := 0) ZT.out tS (.int .i64 x)) tS (.int .i64 y)) tS (.int .i64 z))) 1, blk_cell (blk_drew (blk_other (i := 2) (blk_other (i := 1) (blk_other (i := 0) ZT.out tS (.int .i64 x)) tS (.int .i64 y)) tS (.int .i64 z))) 2, blk_cell (blk_drew (blk_other (i := 2) (blk_other (i := 1) (blk_other (i := 0) ZU.out uSn (.int .i64 x)) uSn (.int .i64 y)) uSn (.int .i64 z))) 0, blk_cell (blk_drew (blk_other (i := 2) (blk_other (i := 1) (blk_other (i := 0) ZU.out uSn (.int .i64 x)) uSn (.int .i64 y)) uSn (.int .i64 z))) 1, blk_cell (blk_drew (blk_other (i := 2) (blk_other (i := 1) (blk_other (i := 0) ZU.out uSn (.int .i64 x)) uSn (.int .i64 y)) uSn (.int .i64 z))) 2⟩
              have SEW : Hid (((((((Z.setCell ⟨V1.heap.size, 0, none⟩ (.int .i64 x)).setCell ⟨V1.heap.size, 1, none⟩ (.int .i64 y)).setCell ⟨V1.heap.size, 2, none⟩ (.int .i64 z)).setCell ⟨V3.heap.size, 0, none⟩ (.int .i64 x)).setCell ⟨V3.heap.size, 1, none⟩ (.int .i64 y)).setCell ⟨V3.heap.size, 2, none⟩ (.int .i64 z)).drew.cell? ⟨gt, 0, none⟩ = some (.int .i64 x) ∧ ((((((Z.setCell ⟨V1.heap.size, 0, none⟩ (.int .i64 x)).setCell ⟨V1.heap.size, 1, none⟩ (.int .i64 y)).setCell ⟨V1.heap.size, 2, none⟩ (.int .i64 z)).setCell ⟨V3.heap.size, 0, none⟩ (.int .i64 x)).setCell ⟨V3.heap.size, 1, none⟩ (.int .i64 y)).setCell ⟨V3.heap.size, 2, none⟩ (.int .i64 z)).drew.cell? ⟨gt, 1, none⟩ = some (.int .i64 y) ∧ ((((((Z.setCell ⟨V1.heap.size, 0, none⟩ (.int .i64 x)).setCell ⟨V1.heap.size, 1, none⟩ (.int .i64 y)).setCell ⟨V1.heap.size, 2, none⟩ (.int .i64 z)).setCell ⟨V3.heap.size, 0, none⟩ (.int .i64 x)).setCell ⟨V3.heap.size, 1, none⟩ (.int .i64 y)).setCell ⟨V3.heap.size, 2, none⟩ (.int .i64 z)).drew.cell? ⟨gt, 2, none⟩ = some (.int .i64 z) ∧ ((((((Z.setCell ⟨V1.heap.size, 0, none⟩ (.int .i64 x)).setCell ⟨V1.heap.size, 1, none⟩ (.int .i64 y)).setCell ⟨V1.heap.size, 2, none⟩ (.int .i64 z)).setCell ⟨V3.heap.size, 0, none⟩ (.int .i64 x)).setCell ⟨V3.heap.size, 1, none⟩ (.int .i64 y)).setCell ⟨V3.heap.size, 2, none⟩ (.int .i64 z)).drew.cell? ⟨wc.heap.size, 0, none⟩ = some (.int .i64 x) ∧ ((((((Z.setCell ⟨V1.heap.size, 0, none⟩ (.int .i64 x)).setCell ⟨V1.heap.size, 1, none⟩ (.int .i64 y)).setCell ⟨V1.heap.size, 2, none⟩ (.int .i64 z)).setCell ⟨V3.heap.size, 0, none⟩ (.int .i64 x)).setCell ⟨V3.heap.size, 1, none⟩ (.int .i64 y)).setCell ⟨V3.heap.size, 2, none⟩ (.int .i64 z)).drew.cell? ⟨wc.heap.size, 1, none⟩ = some (.int .i64 y) ∧ ((((((Z.setCell ⟨V1.heap.size, 0, none⟩ (.int .i64 x)).setCell ⟨V1.heap.size, 1, none⟩ (.int .i64 y)).setCell ⟨V1.heap.size, 2, none⟩ (.int .i64 z)).setCell ⟨V3.heap.size, 0, none⟩ (.int .i64 x)).setCell ⟨V3.heap.size, 1, none⟩ (.int .i64 y)).setCell ⟨V3.heap.size, 2, none⟩ (.int .i64 z)).drew.cell? ⟨wc.heap.size, 2, none⟩ = some (.int .i64 z)) := Lib.hid ⟨blk_cell (blk_drew (blk_other (i := 2) (blk_other (i := 1) (blk_other (i := 0) (blk_other (i := 2) (blk_other (i := 1) (blk_other (i := 0) ZT.out tS (.int .i64 x)) tS (.int .i64 y)) tS (.int .i64 z)) tW (.int .i64 x)) tW (.int .i64 y)) tW (.int .i64 z))) 0, blk_cell (blk_drew (blk_other (i := 2) (blk_other (i := 1) (blk_other (i := 0) (blk_other (i := 2) (blk_other (i := 1) (blk_other (i := 0) ZT.out tS (.int .i64 x)) tS (.int .i64 y)) tS (.int .i64 z)) tW (.int .i64 x)) tW (.int .i64 y)) tW (.int .i64 z))) 1, blk_cell (blk_drew (blk_other (i := 2) (blk_other (i := 1) (blk_other (i := 0) (blk_other (i := 2) (blk_other (i := 1) (blk_other (i := 0) ZT.out tS (.int .i64 x)) tS (.int .i64 y)) tS (.int .i64 z)) tW (.int .i64 x)) tW (.int .i64 y)) tW (.int .i64 z))) 2, blk_cell (blk_drew (blk_other (i := 2) (blk_other (i := 1) (blk_other (i := 0) (blk_other (i := 2) (blk_other (i := 1) (blk_other (i := 0) ZU.out uSn (.int .i64 x)) uSn (.int .i64 y)) uSn (.int .i64 z)) uWn (.int .i64 x)) uWn (.int .i64 y)) uWn (.int .i64 z))) 0, blk_cell (blk_drew (blk_other (i := 2) (blk_other (i := 1) (blk_other (i := 0) (blk_other (i := 2) (blk_other (i := 1) (blk_other (i := 0) ZU.out uSn (.int .i64 x)) uSn (.int .i64 y)) uSn (.int .i64 z)) uWn (.int .i64 x)) uWn (.int .i64 y)) uWn (.int .i64 z))) 1, blk_cell (blk_drew (blk_other (i := 2) (blk_other (i := 1) (blk_other (i := 0) (blk_other (i := 2) (blk_other (i := 1) (blk_other (i := 0) ZU.out uSn (.int .i64 x)) uSn (.int .i64 y)) uSn (.int .i64 z)) uWn (.int .i64 x)) uWn (.int .i64 y)) uWn (.int .i64 z))) 2⟩
              have FS : Hid (((((((Z.setCell ⟨V1.heap.size, 0, none⟩ (.int .i64 x)).setCell ⟨V1.heap.size, 1, none⟩ (.int .i64 y)).setCell ⟨V1.heap.size, 2, none⟩ (.int .i64 z)).setCell ⟨V3.heap.size, 0, none⟩ (.int .i64 x)).setCell ⟨V3.heap.size, 1, none⟩ (.int .i64 y)).setCell ⟨V3.heap.size, 2, none⟩ (.int .i64 z)).drew.heap[V1.heap.size]? = some (.cells #[.int .i64 x, .int .i64 y, .int .i64 z] 24 (0, 0))) := Lib.hid (blk_drew (blk_other (i := 2) (blk_other (i := 1) (blk_other (i := 0) (blk_set (blk_set (blk_set ZS.out 0 (.int .i64 x)) 1 (.int .i64 y)) 2 (.int .i64 z)) nws (.int .i64 x)) nws (.int .i64 y)) nws (.int .i64 z)))
              have FW : Hid (((((((Z.setCell ⟨V1.heap.size, 0, none⟩ (.int .i64 x)).setCell ⟨V1.heap.size, 1, none⟩ (.int .i64 y)).setCell ⟨V1.heap.size, 2, none⟩ (.int .i64 z)).setCell ⟨V3.heap.size, 0, none⟩ (.int .i64 x)).setCell ⟨V3.heap.size, 1, none⟩ (.int .i64 y)).setCell ⟨V3.heap.size, 2, none⟩ (.int .i64 z)).drew.heap[V3.heap.size]? = some (.cells #[.int .i64 x, .int .i64 y, .int .i64 z] 23 (0, 0))) := Lib.hid (blk_drew (blk_set (blk_set (blk_set (blk_other (i := 2) (blk_other (i := 1) (blk_other (i := 0) ZW.out nsw (.int .i64 x)) nsw (.int .i64 y)) nsw (.int .i64 z)) 0 (.int .i64 x)) 1 (.int .i64 y)) 2 (.int .i64 z)))
              have FQ : Hid (Below w.heap.size w ((((((Z.setCell ⟨V1.heap.size, 0, none⟩ (.int .i64 x)).setCell ⟨V1.heap.size, 1, none⟩ (.int .i64 y)).setCell ⟨V1.heap.size, 2, none⟩ (.int .i64 z)).setCell ⟨V3.heap.size, 0, none⟩ (.int .i64 x)).setCell ⟨V3.heap.size, 1, none⟩ (.int .i64 y)).setCell ⟨V3.heap.size, 2, none⟩ (.int .i64 z)).drew) := Lib.hid ((((((ZQ.setCell (p := ⟨V1.heap.size, 0, none⟩) HLE1.out (.int .i64 x)).setCell (p := ⟨V1.heap.size, 1, none⟩) HLE1.out (.int .i64 y)).setCell (p := ⟨V1.heap.size, 2, none⟩) HLE1.out (.int .i64 z)).setCell (p := ⟨V3.heap.size, 0, none⟩) HLE3.out (.int .i64 x)).setCell (p := ⟨V3.heap.size, 1, none⟩) HLE3.out (.int .i64 y)).setCell (p := ⟨V3.heap.size, 2, none⟩) HLE3.out (.int .i64 z)).drew
              go_region_held3 (fun W' => W'.cell? ⟨gt, 0, none⟩ = some (.int .i64 x) ∧ W'.cell? ⟨gt, 1, none⟩ = some (.int .i64 y) ∧ W'.cell? ⟨gt, 2, none⟩ = some (.int .i64 z) ∧ W'.cell? ⟨wc.heap.size, 0, none⟩ = some (.int .i64 x) ∧ W'.cell? ⟨wc.heap.size, 1, none⟩ = some (.int .i64 y) ∧ W'.cell? ⟨wc.heap.size, 2, none⟩ = some (.int .i64 z)) (first | (with_reducible exact SE0.out) | (with_reducible exact SES.out) | (with_reducible exact SEW.out)) (first
                | fail)
              all_goals
                clear SE0 SES SEW ZSc0 ZSf0 ZSc1 ZSf1 ZSc2 ZSf2 ZWc0 ZWf0 ZWc1 ZWf1 ZWc2 ZWf2 ZTc0 ZTf0 ZTc1 ZTf1 ZTc2 ZTf2 ZUc0 ZUf0 ZUc1 ZUf1 ZUc2 ZUf2 ZS ZW ZT ZU ZQ
                generalize ((((((Z.setCell ⟨V1.heap.size, 0, none⟩ (.int .i64 x)).setCell ⟨V1.heap.size, 1, none⟩ (.int .i64 y)).setCell ⟨V1.heap.size, 2, none⟩ (.int .i64 z)).setCell ⟨V3.heap.size, 0, none⟩ (.int .i64 x)).setCell ⟨V3.heap.size, 1, none⟩ (.int .i64 y)).setCell ⟨V3.heap.size, 2, none⟩ (.int .i64 z)).drew = Z2 at FS FW FQ ⊢
                have zc0 := blk_cell FS.out 0
                go_wp2_with fail
                go_roundw
                case rel => (with_reducible exact ⟨k + 1, _, _, _, by omega, by go_num, HN, FS.out, FW.out, FQ.out⟩)
                case measure => simp [intOf]; omega
          case neg =>
            have e2 : (E == 0) = false := by rw [beq_eq_false_iff_ne]; exact hE
            clear hEE hE
            have x0w := (q_0.cell (p := ⟨bl, off + k * 2, none⟩) hbl).trans x0
            have x1w := (q_0.cell (p := ⟨bl, off + k * 2 + 1, none⟩) hbl).trans x1
            have y := ((Below.refl wr.heap.size wr).alloc (Nat.le_refl _) (.cells #[.int .i64 0, .int .i64 0, .int .i64 0] 24)).drew
            have SY := Lib.hid ((y.block _ Sz_0).trans S_0.out)
            have SYz := Nat.lt_of_lt_of_le Sz_0 y.size
            have SN : Hid (wr.heap.size ≠ V1.heap.size) := Lib.hid (Nat.ne_of_gt Sz_0)
            have WY := Lib.hid ((y.block _ Wz_0).trans W_0.out)
            have WYz := Nat.lt_of_lt_of_le Wz_0 y.size
            have WN : Hid (wr.heap.size ≠ V3.heap.size) := Lib.hid (Nat.ne_of_gt Wz_0)
            have x0wB : bl < wr.heap.size := Nat.lt_of_lt_of_le hbl q_0.size
            have x0wY := Lib.hid ((y.cell (p := ⟨bl, off + k * 2, none⟩) x0wB).trans x0w)
            have x0wYB := Nat.lt_of_lt_of_le x0wB y.size
            have x0wN : wr.heap.size ≠ bl := Nat.ne_of_gt x0wB
            have x0wH := Lib.hid x0w
            have x1wB : bl < wr.heap.size := Nat.lt_of_lt_of_le hbl q_0.size
            have x1wY := Lib.hid ((y.cell (p := ⟨bl, off + k * 2 + 1, none⟩) x1wB).trans x1w)
            have x1wYB := Nat.lt_of_lt_of_le x1wB y.size
            have x1wN : wr.heap.size ≠ bl := Nat.ne_of_gt x1wB
            have x1wH := Lib.hid x1w
            have XY := Lib.hid (blk_new wr (.cells #[.int .i64 0, .int .i64 0, .int .i64 0] 24))
            have cjD : Hid (wr.drew.cell? ⟨V1.heap.size, 0, none⟩ = some (.int .i64 c) ∧ wr.drew.cell? ⟨V1.heap.size, 1, none⟩ = some (.int .i64 t) ∧ wr.drew.cell? ⟨V1.heap.size, 2, none⟩ = some (.int .i64 a) ∧ wr.drew.cell? ⟨V3.heap.size, 0, none⟩ = some (.int .i64 c) ∧ wr.drew.cell? ⟨V3.heap.size, 1, none⟩ = some (.int .i64 t) ∧ wr.drew.cell? ⟨V3.heap.size, 2, none⟩ = some (.int .i64 a) ∧ wr.drew.cell? ⟨bl, off + k * 2, none⟩ = some (.int .i64 wh) ∧ wr.drew.cell? ⟨bl, off + k * 2 + 1, none⟩ = some (.int .i64 n)) := Lib.hid ⟨blk_cell S_0.out 0, blk_cell S_0.out 1, blk_cell S_0.out 2, blk_cell W_0.out 0, blk_cell W_0.out 1, blk_cell W_0.out 2, x0w, x1w⟩
            have cjY : Hid ((wr.alloc (.cells #[.int .i64 0, .int .i64 0, .int .i64 0] 24)).drew.cell? ⟨V1.heap.size, 0, none⟩ = some (.int .i64 c) ∧ (wr.alloc (.cells #[.int .i64 0, .int .i64 0, .int .i64 0] 24)).drew.cell? ⟨V1.heap.size, 1, none⟩ = some (.int .i64 t) ∧ (wr.alloc (.cells #[.int .i64 0, .int .i64 0, .int .i64 0] 24)).drew.cell? ⟨V1.heap.size, 2, none⟩ = some (.int .i64 a) ∧ (wr.alloc (.cells #[.int .i64 0, .int .i64 0, .int .i64 0] 24)).drew.cell? ⟨V3.heap.size, 0, none⟩ = some (.int .i64 c) ∧ (wr.alloc (.cells #[.int .i64 0, .int .i64 0, .int .i64 0] 24)).drew.cell? ⟨V3.heap.size, 1, none⟩ = some (.int .i64 t) ∧ (wr.alloc (.cells #[.int .i64 0, .int .i64 0, .int .i64 0] 24)).drew.cell? ⟨V3.heap.size, 2, none⟩ = some (.int .i64 a) ∧ (wr.alloc (.cells #[.int .i64 0, .int .i64 0, .int .i64 0] 24)).drew.cell? ⟨bl, off + k * 2, none⟩ = some (.int .i64 wh) ∧ (wr.alloc (.cells #[.int .i64 0, .int .i64 0, .int .i64 0] 24)).drew.cell? ⟨bl, off + k * 2 + 1, none⟩ = some (.int .i64 n)) := Lib.hid ⟨blk_cell SY.out 0, blk_cell SY.out 1, blk_cell SY.out 2, blk_cell WY.out 0, blk_cell WY.out 1, blk_cell WY.out 2, x0wY.out, x1wY.out⟩
            have qD := Lib.hid q_0.drew
            have qY := Lib.hid (q_0.trans (y.mono q_0.size))
            have HVL : Hid (w.heap.size ≤ wr.heap.size) := Lib.hid q_0.size
            clear y
            go_wp2_with fail
            go_cut [10, 11] (fun (pt pe : Value) (wx : World) => BoxCut wr (fun W' : World => W'.heap[V1.heap.size]? = some (.cells #[.int .i64 c, .int .i64 t, .int .i64 a] 24 (0, 0)) ∧ W'.heap[V3.heap.size]? = some (.cells #[.int .i64 c, .int .i64 t, .int .i64 a] 23 (0, 0))) #[.int .i64 x, .int .i64 y, .int .i64 z] 24 (.int .i64 E) w pt pe wx)
            case first =>
              go_region_held3 (fun W' => W'.cell? ⟨V1.heap.size, 0, none⟩ = some (.int .i64 c) ∧ W'.cell? ⟨V1.heap.size, 1, none⟩ = some (.int .i64 t) ∧ W'.cell? ⟨V1.heap.size, 2, none⟩ = some (.int .i64 a) ∧ W'.cell? ⟨V3.heap.size, 0, none⟩ = some (.int .i64 c) ∧ W'.cell? ⟨V3.heap.size, 1, none⟩ = some (.int .i64 t) ∧ W'.cell? ⟨V3.heap.size, 2, none⟩ = some (.int .i64 a) ∧ W'.cell? ⟨bl, off + k * 2, none⟩ = some (.int .i64 wh) ∧ W'.cell? ⟨bl, off + k * 2 + 1, none⟩ = some (.int .i64 n)) (first | (with_reducible exact cjD.out) | (with_reducible exact cjY.out) | (with_reducible exact cjW.out) | (with_reducible exact cjA.out _) | (with_reducible exact cjX.out) | go_keep) (first
                | (go_at_call 19; (with_reducible refine (after_0 c t a m n E x y z HE.out Hx.out Hy.out Hz.out wh n1 n2 wr.drew).mono ?_); rintro e WX ⟨rfl, b⟩; have S1 := Lib.hid ((b.block _ Sz_0).trans S_0.out); have Sz1 := Nat.lt_of_lt_of_le Sz_0 b.size; have W1 := Lib.hid ((b.block _ Wz_0).trans W_0.out); have Wz1 := Nat.lt_of_lt_of_le Wz_0 b.size; have x0w1 := Lib.hid ((b.cell (p := ⟨bl, off + k * 2, none⟩) x0wB).trans x0wH.out); have x0wz1 : bl < WX.heap.size := Nat.lt_of_lt_of_le x0wB b.size; have x1w1 := Lib.hid ((b.cell (p := ⟨bl, off + k * 2 + 1, none⟩) x1wB).trans x1wH.out); have x1wz1 : bl < WX.heap.size := Nat.lt_of_lt_of_le x1wB b.size; have cjW : Hid (WX.cell? ⟨V1.heap.size, 0, none⟩ = some (.int .i64 c) ∧ WX.cell? ⟨V1.heap.size, 1, none⟩ = some (.int .i64 t) ∧ WX.cell? ⟨V1.heap.size, 2, none⟩ = some (.int .i64 a) ∧ WX.cell? ⟨V3.heap.size, 0, none⟩ = some (.int .i64 c) ∧ WX.cell? ⟨V3.heap.size, 1, none⟩ = some (.int .i64 t) ∧ WX.cell? ⟨V3.heap.size, 2, none⟩ = some (.int .i64 a) ∧ WX.cell? ⟨bl, off + k * 2, none⟩ = some (.int .i64 wh) ∧ WX.cell? ⟨bl, off + k * 2 + 1, none⟩ = some (.int .i64 n)) := Lib.hid ⟨blk_cell S1.out 0, blk_cell S1.out 1, blk_cell S1.out 2, blk_cell W1.out 0, blk_cell W1.out 1, blk_cell W1.out 2, x0w1.out, x1w1.out⟩; have QW := Lib.hid (qD.out.trans (b.mono qD.out.size)); have VL1 := Lib.hid b.size; have cjA : Hid (∀ o : Obj, (WX.alloc o).cell? ⟨V1.heap.size, 0, none⟩ = some (.int .i64 c) ∧ (WX.alloc o).cell? ⟨V1.heap.size, 1, none⟩ = some (.int .i64 t) ∧ (WX.alloc o).cell? ⟨V1.heap.size, 2, none⟩ = some (.int .i64 a) ∧ (WX.alloc o).cell? ⟨V3.heap.size, 0, none⟩ = some (.int .i64 c) ∧ (WX.alloc o).cell? ⟨V3.heap.size, 1, none⟩ = some (.int .i64 t) ∧ (WX.alloc o).cell? ⟨V3.heap.size, 2, none⟩ = some (.int .i64 a) ∧ (WX.alloc o).cell? ⟨bl, off + k * 2, none⟩ = some (.int .i64 wh) ∧ (WX.alloc o).cell? ⟨bl, off + k * 2 + 1, none⟩ = some (.int .i64 n)) := Lib.hid (fun o => by have ya := (Below.refl WX.heap.size WX).alloc (Nat.le_refl _) o; exact ⟨blk_cell ((ya.block _ Sz1).trans S1.out) 0, blk_cell ((ya.block _ Sz1).trans S1.out) 1, blk_cell ((ya.block _ Sz1).trans S1.out) 2, blk_cell ((ya.block _ Wz1).trans W1.out) 0, blk_cell ((ya.block _ Wz1).trans W1.out) 1, blk_cell ((ya.block _ Wz1).trans W1.out) 2, ((ya.cell (p := ⟨bl, off + k * 2, none⟩) x0wz1).trans x0w1.out), ((ya.cell (p := ⟨bl, off + k * 2 + 1, none⟩) x1wz1).trans x1w1.out)⟩); clear b)
                | (go_at_call 19; (with_reducible refine (after_0 c t a m n E x y z HE.out Hx.out Hy.out Hz.out wh n1 n2 ((wr.alloc (.cells #[.int .i64 0, .int .i64 0, .int .i64 0] 24)).drew)).mono ?_); rintro e WX ⟨rfl, b⟩; have S1 := Lib.hid ((b.block _ SYz).trans SY.out); have W1 := Lib.hid ((b.block _ WYz).trans WY.out); have x0w1 := Lib.hid ((b.cell (p := ⟨bl, off + k * 2, none⟩) x0wYB).trans x0wY.out); have x1w1 := Lib.hid ((b.cell (p := ⟨bl, off + k * 2 + 1, none⟩) x1wYB).trans x1wY.out); have X1 := Lib.hid ((b.block wr.heap.size (by simp)).trans XY.out); have cjW : Hid (WX.cell? ⟨V1.heap.size, 0, none⟩ = some (.int .i64 c) ∧ WX.cell? ⟨V1.heap.size, 1, none⟩ = some (.int .i64 t) ∧ WX.cell? ⟨V1.heap.size, 2, none⟩ = some (.int .i64 a) ∧ WX.cell? ⟨V3.heap.size, 0, none⟩ = some (.int .i64 c) ∧ WX.cell? ⟨V3.heap.size, 1, none⟩ = some (.int .i64 t) ∧ WX.cell? ⟨V3.heap.size, 2, none⟩ = some (.int .i64 a) ∧ WX.cell? ⟨bl, off + k * 2, none⟩ = some (.int .i64 wh) ∧ WX.cell? ⟨bl, off + k * 2 + 1, none⟩ = some (.int .i64 n)) := Lib.hid ⟨blk_cell S1.out 0, blk_cell S1.out 1, blk_cell S1.out 2, blk_cell W1.out 0, blk_cell W1.out 1, blk_cell W1.out 2, x0w1.out, x1w1.out⟩; have QW := Lib.hid (qY.out.trans (b.mono qY.out.size)); have x0 := blk_free X1.out 0; have y0 := blk_cell X1.out 0; have x1 := blk_free X1.out 1; have y1 := blk_cell X1.out 1; have x2 := blk_free X1.out 2; have y2 := blk_cell X1.out 2; have cjX : Hid ((((WX.setCell ⟨wr.heap.size, 0, none⟩ (.int .i64 x)).setCell ⟨wr.heap.size, 1, none⟩ (.int .i64 y)).setCell ⟨wr.heap.size, 2, none⟩ (.int .i64 z)).cell? ⟨V1.heap.size, 0, none⟩ = some (.int .i64 c) ∧ (((WX.setCell ⟨wr.heap.size, 0, none⟩ (.int .i64 x)).setCell ⟨wr.heap.size, 1, none⟩ (.int .i64 y)).setCell ⟨wr.heap.size, 2, none⟩ (.int .i64 z)).cell? ⟨V1.heap.size, 1, none⟩ = some (.int .i64 t) ∧ (((WX.setCell ⟨wr.heap.size, 0, none⟩ (.int .i64 x)).setCell ⟨wr.heap.size, 1, none⟩ (.int .i64 y)).setCell ⟨wr.heap.size, 2, none⟩ (.int .i64 z)).cell? ⟨V1.heap.size, 2, none⟩ = some (.int .i64 a) ∧ (((WX.setCell ⟨wr.heap.size, 0, none⟩ (.int .i64 x)).setCell ⟨wr.heap.size, 1, none⟩ (.int .i64 y)).setCell ⟨wr.heap.size, 2, none⟩ (.int .i64 z)).cell? ⟨V3.heap.size, 0, none⟩ = some (.int .i64 c) ∧ (((WX.setCell ⟨wr.heap.size, 0, none⟩ (.int .i64 x)).setCell ⟨wr.heap.size, 1, none⟩ (.int .i64 y)).setCell ⟨wr.heap.size, 2, none⟩ (.int .i64 z)).cell? ⟨V3.heap.size, 1, none⟩ = some (.int .i64 t) ∧ (((WX.setCell ⟨wr.heap.size, 0, none⟩ (.int .i64 x)).setCell ⟨wr.heap.size, 1, none⟩ (.int .i64 y)).setCell ⟨wr.heap.size, 2, none⟩ (.int .i64 z)).cell? ⟨V3.heap.size, 2, none⟩ = some (.int .i64 a) ∧ (((WX.setCell ⟨wr.heap.size, 0, none⟩ (.int .i64 x)).setCell ⟨wr.heap.size, 1, none⟩ (.int .i64 y)).setCell ⟨wr.heap.size, 2, none⟩ (.int .i64 z)).cell? ⟨bl, off + k * 2, none⟩ = some (.int .i64 wh) ∧ (((WX.setCell ⟨wr.heap.size, 0, none⟩ (.int .i64 x)).setCell ⟨wr.heap.size, 1, none⟩ (.int .i64 y)).setCell ⟨wr.heap.size, 2, none⟩ (.int .i64 z)).cell? ⟨bl, off + k * 2 + 1, none⟩ = some (.int .i64 n)) := Lib.hid ⟨blk_cell (blk_other (i := 2) (blk_other (i := 1) (blk_other (i := 0) S1.out SN.out (.int .i64 x)) SN.out (.int .i64 y)) SN.out (.int .i64 z)) 0, blk_cell (blk_other (i := 2) (blk_other (i := 1) (blk_other (i := 0) S1.out SN.out (.int .i64 x)) SN.out (.int .i64 y)) SN.out (.int .i64 z)) 1, blk_cell (blk_other (i := 2) (blk_other (i := 1) (blk_other (i := 0) S1.out SN.out (.int .i64 x)) SN.out (.int .i64 y)) SN.out (.int .i64 z)) 2, blk_cell (blk_other (i := 2) (blk_other (i := 1) (blk_other (i := 0) W1.out WN.out (.int .i64 x)) WN.out (.int .i64 y)) WN.out (.int .i64 z)) 0, blk_cell (blk_other (i := 2) (blk_other (i := 1) (blk_other (i := 0) W1.out WN.out (.int .i64 x)) WN.out (.int .i64 y)) WN.out (.int .i64 z)) 1, blk_cell (blk_other (i := 2) (blk_other (i := 1) (blk_other (i := 0) W1.out WN.out (.int .i64 x)) WN.out (.int .i64 y)) WN.out (.int .i64 z)) 2, (by rw [World.cell?_setCell_far _ _ _ _ x0wN, World.cell?_setCell_far _ _ _ _ x0wN, World.cell?_setCell_far _ _ _ _ x0wN]; exact x0w1.out), (by rw [World.cell?_setCell_far _ _ _ _ x1wN, World.cell?_setCell_far _ _ _ _ x1wN, World.cell?_setCell_far _ _ _ _ x1wN]; exact x1w1.out)⟩; clear b))
              all_goals
                go_wp2_with fail
                go_meet
                first
                | (have ya := (Below.refl WX.heap.size WX).alloc (Nat.le_refl _) (.cells #[.int .i64 x, .int .i64 y, .int .i64 z] 24); exact ⟨_, rfl, rfl, ⟨(ya.block _ Sz1).trans S1.out, (ya.block _ Wz1).trans W1.out⟩, blk_new WX _, VL1.out, QW.out.alloc QW.out.size _⟩)
                | exact ⟨_, rfl, rfl, ⟨(blk_other (i := 2) (blk_other (i := 1) (blk_other (i := 0) S1.out SN.out (.int .i64 x)) SN.out (.int .i64 y)) SN.out (.int .i64 z)), (blk_other (i := 2) (blk_other (i := 1) (blk_other (i := 0) W1.out WN.out (.int .i64 x)) WN.out (.int .i64 y)) WN.out (.int .i64 z))⟩, (blk_set (blk_set (blk_set X1.out 0 (.int .i64 x)) 1 (.int .i64 y)) 2 (.int .i64 z)), Nat.le_refl _, (((QW.out.setCell (p := ⟨wr.heap.size, 0, none⟩) HVL.out (.int .i64 x)).setCell (p := ⟨wr.heap.size, 1, none⟩) HVL.out (.int .i64 y)).setCell (p := ⟨wr.heap.size, 2, none⟩) HVL.out (.int .i64 z))⟩
            case rest =>
              obtain ⟨gt, rfl, rfl, ⟨kS, kW⟩, kNew, gle, hq⟩ := hcut
              clear S_0 SY W_0 WY XY cjD cjY qD qY q_0
              have q_0 := hq
              have Sz_0 := blk_lt kS
              have Sne : gt ≠ V1.heap.size := by have := SN.out; have := Sz_0; omega
              have Sne2 := Sne.symm
              have Wz_0 := blk_lt kW
              have Wne : gt ≠ V3.heap.size := by have := WN.out; have := Wz_0; omega
              have Wne2 := Wne.symm
              have gz := blk_lt kNew
              have S_0 := Lib.hid (kS)
              have Sc0_0 := blk_cell S_0.out 0
              have Sc1_0 := blk_cell S_0.out 1
              have Sc2_0 := blk_cell S_0.out 2
              have W_0 := Lib.hid (kW)
              have Wc0_0 := blk_cell W_0.out 0
              have Wc1_0 := blk_cell W_0.out 1
              have Wc2_0 := blk_cell W_0.out 2
              clear kS kW hq
              clear x0w x1w x0wH x1wH
              have T_0 := Lib.hid kNew
              clear kNew
              have x0v := (q_0.cell (p := ⟨bl, off + k * 2, none⟩) hbl).trans x0
              have x1v := (q_0.cell (p := ⟨bl, off + k * 2 + 1, none⟩) hbl).trans x1
              have Tz_0 := gz
              have Tc0_0 := blk_cell T_0.out 0
              have Tc1_0 := blk_cell T_0.out 1
              have Tc2_0 := blk_cell T_0.out 2
              have uS : wc.heap.size ≠ V1.heap.size := Nat.ne_of_gt Sz_0
              have uW : wc.heap.size ≠ V3.heap.size := Nat.ne_of_gt Wz_0
              have uT : wc.heap.size ≠ gt := Nat.ne_of_gt Tz_0
              have uB : bl < wc.heap.size := Nat.lt_of_lt_of_le hbl q_0.size
              have HUL : Hid (w.heap.size ≤ wc.heap.size) := Lib.hid q_0.size
              go_wp2_with fail
              have b : Below wc.heap.size wc (wc.alloc (.cells #[.int .i64 c, .int .i64 t, .int .i64 a] 23)) := ((Below.refl _ wc).alloc (Nat.le_refl _) (.cells #[.int .i64 c, .int .i64 t, .int .i64 a] 23))
              have nb0 := blk_new wc (.cells #[.int .i64 c, .int .i64 t, .int .i64 a] 23)
              have nz0 : wc.heap.size < (wc.alloc (.cells #[.int .i64 c, .int .i64 t, .int .i64 a] 23)).heap.size := by simp only [World.size_alloc]; omega
              have S_1 := Lib.hid ((b.block _ Sz_0).trans S_0.out)
              have Sz_1 := Nat.lt_of_lt_of_le Sz_0 b.size
              have Sc0_1 := blk_cell S_1.out 0
              have Sc1_1 := blk_cell S_1.out 1
              have Sc2_1 := blk_cell S_1.out 2
              have W_1 := Lib.hid ((b.block _ Wz_0).trans W_0.out)
              have Wz_1 := Nat.lt_of_lt_of_le Wz_0 b.size
              have Wc0_1 := blk_cell W_1.out 0
              have Wc1_1 := blk_cell W_1.out 1
              have Wc2_1 := blk_cell W_1.out 2
              have T_1 := Lib.hid ((b.block _ Tz_0).trans T_0.out)
              have Tz_1 := Nat.lt_of_lt_of_le Tz_0 b.size
              have Tc0_1 := blk_cell T_1.out 0
              have Tc1_1 := blk_cell T_1.out 1
              have Tc2_1 := blk_cell T_1.out 2
              have q_1 := q_0.trans (b.mono q_0.size)
              clear S_0 Sz_0 Sc0_0 Sc1_0 Sc2_0 W_0 Wz_0 Wc0_0 Wc1_0 Wc2_0 T_0 Tz_0 Tc0_0 Tc1_0 Tc2_0 q_0
              clear b
              have U_1 := Lib.hid nb0
              have Uz_1 := nz0
              clear nb0 nz0
              have Uc0_1 := blk_cell U_1.out 0
              have Uc1_1 := blk_cell U_1.out 1
              have Uc2_1 := blk_cell U_1.out 2
              generalize (wc.alloc (.cells #[.int .i64 c, .int .i64 t, .int .i64 a] 23)) = V41 at q_1 S_1 Sz_1 Sc0_1 Sc1_1 Sc2_1 W_1 Wz_1 Wc0_1 Wc1_1 Wc2_1 T_1 Tz_1 Tc0_1 Tc1_1 Tc2_1 U_1 Uz_1 Uc0_1 Uc1_1 Uc2_1 ⊢
              have x1u := (q_1.cell (p := ⟨bl, off + k * 2 + 1, none⟩) hbl).trans x1
              clear x0v x1v
              have SD : Hid (V41.drew.cell? ⟨V3.heap.size, 0, none⟩ = some (.int .i64 c) ∧ V41.drew.cell? ⟨V3.heap.size, 1, none⟩ = some (.int .i64 t) ∧ V41.drew.cell? ⟨V3.heap.size, 2, none⟩ = some (.int .i64 a) ∧ V41.drew.cell? ⟨bl, off + k * 2 + 1, none⟩ = some (.int .i64 n)) := Lib.hid ⟨blk_cell W_1.out 0, blk_cell W_1.out 1, blk_cell W_1.out 2, x1u⟩
              have x1H := Lib.hid x1u
              clear Sc0_1 Sc1_1 Sc2_1
              clear Wc0_1 Wc1_1 Wc2_1
              clear Tc0_1 Tc1_1 Tc2_1
              clear Uc0_1 Uc1_1 Uc2_1
              have S_2 := Lib.hid ((((Below.refl V41.heap.size V41).drew).block _ Sz_1).trans S_1.out)
              have Sz_2 := Nat.lt_of_lt_of_le Sz_1 ((Below.refl V41.heap.size V41).drew).size
              have W_2 := Lib.hid ((((Below.refl V41.heap.size V41).drew).block _ Wz_1).trans W_1.out)
              have Wz_2 := Nat.lt_of_lt_of_le Wz_1 ((Below.refl V41.heap.size V41).drew).size
              have T_2 := Lib.hid ((((Below.refl V41.heap.size V41).drew).block _ Tz_1).trans T_1.out)
              have Tz_2 := Nat.lt_of_lt_of_le Tz_1 ((Below.refl V41.heap.size V41).drew).size
              have U_2 := Lib.hid ((((Below.refl V41.heap.size V41).drew).block _ Uz_1).trans U_1.out)
              have Uz_2 := Nat.lt_of_lt_of_le Uz_1 ((Below.refl V41.heap.size V41).drew).size
              have q_2 := q_1.trans (((Below.refl V41.heap.size V41).drew).mono q_1.size)
              clear S_1 Sz_1 W_1 Wz_1 T_1 Tz_1 U_1 Uz_1 q_1
              have uBn : wc.heap.size ≠ bl := Nat.ne_of_gt uB
              have uTn := uT.symm
              go_region_held3 (fun W' => W'.cell? ⟨V3.heap.size, 0, none⟩ = some (.int .i64 c) ∧ W'.cell? ⟨V3.heap.size, 1, none⟩ = some (.int .i64 t) ∧ W'.cell? ⟨V3.heap.size, 2, none⟩ = some (.int .i64 a) ∧ W'.cell? ⟨bl, off + k * 2 + 1, none⟩ = some (.int .i64 n)) (first | (with_reducible exact SD.out) | (with_reducible exact SW.out) | (with_reducible exact SXh.out) | go_keep) (first
                | (go_at_call 8; (with_reducible refine (rack_l c t a m n E x y z HE.out Hx.out Hy.out Hz.out (V41.drew)).mono ?_); rintro e V42 ⟨rfl, b⟩; have S_3 := Lib.hid ((b.block _ Sz_2).trans S_2.out); have Sz_3 := Nat.lt_of_lt_of_le Sz_2 b.size; have W_3 := Lib.hid ((b.block _ Wz_2).trans W_2.out); have Wz_3 := Nat.lt_of_lt_of_le Wz_2 b.size; have T_3 := Lib.hid ((b.block _ Tz_2).trans T_2.out); have Tz_3 := Nat.lt_of_lt_of_le Tz_2 b.size; have U_3 := Lib.hid ((b.block _ Uz_2).trans U_2.out); have Uz_3 := Nat.lt_of_lt_of_le Uz_2 b.size; have q_3 := q_2.trans (b.mono q_2.size); clear S_2 Sz_2 W_2 Wz_2 T_2 Tz_2 U_2 Uz_2 q_2; clear b; have SW : Hid (V42.cell? ⟨V3.heap.size, 0, none⟩ = some (.int .i64 c) ∧ V42.cell? ⟨V3.heap.size, 1, none⟩ = some (.int .i64 t) ∧ V42.cell? ⟨V3.heap.size, 2, none⟩ = some (.int .i64 a) ∧ V42.cell? ⟨bl, off + k * 2 + 1, none⟩ = some (.int .i64 n)) := Lib.hid ⟨blk_cell W_3.out 0, blk_cell W_3.out 1, blk_cell W_3.out 2, (q_3.cell (p := ⟨bl, off + k * 2 + 1, none⟩) hbl).trans x1⟩; have Uc0 := blk_cell U_3.out 0; have Uf0 := blk_free U_3.out 0; have Tc0 := blk_cell T_3.out 0; have Uc1 := blk_cell U_3.out 1; have Uf1 := blk_free U_3.out 1; have Tc1 := blk_cell T_3.out 1; have Uc2 := blk_cell U_3.out 2; have Uf2 := blk_free U_3.out 2; have Tc2 := blk_cell T_3.out 2; have SXh : Hid ((((V42.setCell ⟨wc.heap.size, 0, none⟩ (.int .i64 x)).setCell ⟨wc.heap.size, 1, none⟩ (.int .i64 y)).setCell ⟨wc.heap.size, 2, none⟩ (.int .i64 z)).cell? ⟨V3.heap.size, 0, none⟩ = some (.int .i64 c) ∧ (((V42.setCell ⟨wc.heap.size, 0, none⟩ (.int .i64 x)).setCell ⟨wc.heap.size, 1, none⟩ (.int .i64 y)).setCell ⟨wc.heap.size, 2, none⟩ (.int .i64 z)).cell? ⟨V3.heap.size, 1, none⟩ = some (.int .i64 t) ∧ (((V42.setCell ⟨wc.heap.size, 0, none⟩ (.int .i64 x)).setCell ⟨wc.heap.size, 1, none⟩ (.int .i64 y)).setCell ⟨wc.heap.size, 2, none⟩ (.int .i64 z)).cell? ⟨V3.heap.size, 2, none⟩ = some (.int .i64 a) ∧ (((V42.setCell ⟨wc.heap.size, 0, none⟩ (.int .i64 x)).setCell ⟨wc.heap.size, 1, none⟩ (.int .i64 y)).setCell ⟨wc.heap.size, 2, none⟩ (.int .i64 z)).cell? ⟨bl, off + k * 2 + 1, none⟩ = some (.int .i64 n)) := Lib.hid ⟨blk_cell (blk_other (i := 2) (blk_other (i := 1) (blk_other (i := 0) W_3.out uW (.int .i64 x)) uW (.int .i64 y)) uW (.int .i64 z)) 0, blk_cell (blk_other (i := 2) (blk_other (i := 1) (blk_other (i := 0) W_3.out uW (.int .i64 x)) uW (.int .i64 y)) uW (.int .i64 z)) 1, blk_cell (blk_other (i := 2) (blk_other (i := 1) (blk_other (i := 0) W_3.out uW (.int .i64 x)) uW (.int .i64 y)) uW (.int .i64 z)) 2, (by rw [World.cell?_setCell_far _ _ _ _ uBn, World.cell?_setCell_far _ _ _ _ uBn, World.cell?_setCell_far _ _ _ _ uBn]; exact SW.out.2.2.2)⟩))
              go_wp2_with fail
              have QN := Lib.hid q_3
              have ZS : Hid (((((V42.setCell ⟨wc.heap.size, 0, none⟩ (.int .i64 x)).setCell ⟨wc.heap.size, 1, none⟩ (.int .i64 y)).setCell ⟨wc.heap.size, 2, none⟩ (.int .i64 z))).heap[V1.heap.size]? = some (.cells #[.int .i64 c, .int .i64 t, .int .i64 a] 24 (0, 0))) := Lib.hid (blk_other (i := 2) (blk_other (i := 1) (blk_other (i := 0) S_3.out uS (.int .i64 x)) uS (.int .i64 y)) uS (.int .i64 z))
              have ZW : Hid (((((V42.setCell ⟨wc.heap.size, 0, none⟩ (.int .i64 x)).setCell ⟨wc.heap.size, 1, none⟩ (.int .i64 y)).setCell ⟨wc.heap.size, 2, none⟩ (.int .i64 z))).heap[V3.heap.size]? = some (.cells #[.int .i64 c, .int .i64 t, .int .i64 a] 23 (0, 0))) := Lib.hid (blk_other (i := 2) (blk_other (i := 1) (blk_other (i := 0) W_3.out uW (.int .i64 x)) uW (.int .i64 y)) uW (.int .i64 z))
              have ZT : Hid (((((V42.setCell ⟨wc.heap.size, 0, none⟩ (.int .i64 x)).setCell ⟨wc.heap.size, 1, none⟩ (.int .i64 y)).setCell ⟨wc.heap.size, 2, none⟩ (.int .i64 z))).heap[gt]? = some (.cells #[.int .i64 x, .int .i64 y, .int .i64 z] 24 (0, 0))) := Lib.hid (blk_other (i := 2) (blk_other (i := 1) (blk_other (i := 0) T_3.out uT (.int .i64 x)) uT (.int .i64 y)) uT (.int .i64 z))
              have ZU : Hid (((((V42.setCell ⟨wc.heap.size, 0, none⟩ (.int .i64 x)).setCell ⟨wc.heap.size, 1, none⟩ (.int .i64 y)).setCell ⟨wc.heap.size, 2, none⟩ (.int .i64 z))).heap[wc.heap.size]? = some (.cells #[.int .i64 x, .int .i64 y, .int .i64 z] 23 (0, 0))) := Lib.hid (blk_set (blk_set (blk_set U_3.out 0 (.int .i64 x)) 1 (.int .i64 y)) 2 (.int .i64 z))
              have ZQ : Below w.heap.size w (((V42.setCell ⟨wc.heap.size, 0, none⟩ (.int .i64 x)).setCell ⟨wc.heap.size, 1, none⟩ (.int .i64 y)).setCell ⟨wc.heap.size, 2, none⟩ (.int .i64 z)) := (((QN.out.setCell (p := ⟨wc.heap.size, 0, none⟩) HUL.out (.int .i64 x)).setCell (p := ⟨wc.heap.size, 1, none⟩) HUL.out (.int .i64 y)).setCell (p := ⟨wc.heap.size, 2, none⟩) HUL.out (.int .i64 z))
              clear SW SD SXh QN q_3 Uc0 Uf0 Tc0 Uc1 Uf1 Tc1 Uc2 Uf2 Tc2 S_3 W_3 T_3 U_3
              generalize (((V42.setCell ⟨wc.heap.size, 0, none⟩ (.int .i64 x)).setCell ⟨wc.heap.size, 1, none⟩ (.int .i64 y)).setCell ⟨wc.heap.size, 2, none⟩ (.int .i64 z)) = Z at ZS ZW ZT ZU ZQ ⊢
              refine (num_any _ _).mono ?_
              rintro e w' ⟨rfl, rfl⟩
              have ZSc0 := blk_cell ZS.out 0
              have ZSf0 := blk_free ZS.out 0
              have ZSc1 := blk_cell ZS.out 1
              have ZSf1 := blk_free ZS.out 1
              have ZSc2 := blk_cell ZS.out 2
              have ZSf2 := blk_free ZS.out 2
              have ZWc0 := blk_cell ZW.out 0
              have ZWf0 := blk_free ZW.out 0
              have ZWc1 := blk_cell ZW.out 1
              have ZWf1 := blk_free ZW.out 1
              have ZWc2 := blk_cell ZW.out 2
              have ZWf2 := blk_free ZW.out 2
              have ZTc0 := blk_cell ZT.out 0
              have ZTf0 := blk_free ZT.out 0
              have ZTc1 := blk_cell ZT.out 1
              have ZTf1 := blk_free ZT.out 1
              have ZTc2 := blk_cell ZT.out 2
              have ZTf2 := blk_free ZT.out 2
              have ZUc0 := blk_cell ZU.out 0
              have ZUf0 := blk_free ZU.out 0
              have ZUc1 := blk_cell ZU.out 1
              have ZUf1 := blk_free ZU.out 1
              have ZUc2 := blk_cell ZU.out 2
              have ZUf2 := blk_free ZU.out 2
              have nsw := NSW.out
              have nws := nsw.symm
              have uSn := uS.symm
              have uWn := uW.symm
              go_wp2_with fail
              go_roundw
              case rel => exact ⟨k + 1, c, t, a, by omega, by go_num, HS, ZS.out, ZW.out, ZQ⟩
              case measure => simp [intOf]; omega

set_option maxHeartbeats 2000000 in
theorem walk_no (m : Int) (pa : Option Addr) (rs : List Step20) (cap : Nat) (w : World) (hM : ¬ MV m) :
    Calls Try.prog 4 #[.int .i64 m, .slice pa rs.length cap] w fun e w' => e = .returned (.bool true) ∧ Below w.heap.size w w' := by
  have q_0 := Below.refl w.heap.size w
  go_enter Try.func4, Try.ntmps4
  go_wp2_with fail
  refine (new_m m _ hM).mono ?_
  rintro e V1 ⟨rfl, b⟩
  have q_1 := q_0.trans (b.mono q_0.size)
  clear q_0
  clear b
  go_wp2_with fail
  have b : Below V1.heap.size V1 (V1.alloc (.cells #[.int .i64 0, .int .i64 0, .int .i64 0] 24)) := ((Below.refl _ V1).alloc (Nat.le_refl _) (.cells #[.int .i64 0, .int .i64 0, .int .i64 0] 24))
  have nb0 := blk_new V1 (.cells #[.int .i64 0, .int .i64 0, .int .i64 0] 24)
  have nz0 : V1.heap.size < (V1.alloc (.cells #[.int .i64 0, .int .i64 0, .int .i64 0] 24)).heap.size := by simp only [World.size_alloc]; omega
  have q_2 := q_1.trans (b.mono q_1.size)
  clear q_1
  clear b
  have S_2 := Lib.hid nb0
  have Sz_2 := nz0
  clear nb0 nz0
  generalize (V1.alloc (.cells #[.int .i64 0, .int .i64 0, .int .i64 0] 24)) = V2 at q_2 S_2 Sz_2 ⊢
  refine (rnew_m m _ hM).mono ?_
  rintro e V3 ⟨rfl, b⟩
  have S_3 := Lib.hid ((b.block _ Sz_2).trans S_2.out)
  have Sz_3 := Nat.lt_of_lt_of_le Sz_2 b.size
  have q_3 := q_2.trans (b.mono q_2.size)
  clear S_2 Sz_2 q_2
  clear b
  go_wp2_with fail
  have b : Below V3.heap.size V3 (V3.alloc (.cells #[.int .i64 0, .int .i64 0, .int .i64 0] 23)) := ((Below.refl _ V3).alloc (Nat.le_refl _) (.cells #[.int .i64 0, .int .i64 0, .int .i64 0] 23))
  have nb0 := blk_new V3 (.cells #[.int .i64 0, .int .i64 0, .int .i64 0] 23)
  have nz0 : V3.heap.size < (V3.alloc (.cells #[.int .i64 0, .int .i64 0, .int .i64 0] 23)).heap.size := by simp only [World.size_alloc]; omega
  have S_4 := Lib.hid ((b.block _ Sz_3).trans S_3.out)
  have Sz_4 := Nat.lt_of_lt_of_le Sz_3 b.size
  have q_4 := q_3.trans (b.mono q_3.size)
  clear S_3 Sz_3 q_3
  clear b
  have W_4 := Lib.hid nb0
  have Wz_4 := nz0
  clear nb0 nz0
  generalize (V3.alloc (.cells #[.int .i64 0, .int .i64 0, .int .i64 0] 23)) = V4 at q_4 S_4 Sz_4 W_4 Wz_4 ⊢
  refine (num_any _ _).mono ?_
  rintro e w' ⟨rfl, rfl⟩
  go_wp2_with fail
  go_loopw [9] (fun ii wr => ii = .int .i64 0 ∧ Below w.heap.size w wr) (fun _ _ => 0)
  case atStart => exact ⟨rfl, q_4⟩
  case round =>
    obtain ⟨rfl, hq⟩ := hrel
    go_wp2_with fail
    refine (alive_any _).mono ?_
    rintro e w9 ⟨rfl, b9⟩
    go_wp2
    go_ret
    exact ⟨rfl, hq.trans (b9.mono hq.size)⟩

theorem walk (m : Int) (pa : Option Addr) (rs : List Step20) (cap : Nat) (w : World) (_m0 : -9223372036854775808 ≤ m) (_m1 : m ≤ 9223372036854775807) (hx : Sts 2 Step20.cells Step20.ok w pa rs) (hre : rs.length ≤ 8796093021952) :
    Calls Try.prog 4 #[.int .i64 m, .slice pa rs.length cap] w fun e w' => e = .returned (.bool true) ∧ Below w.heap.size w w' := by
  by_cases hM : MV m
  · exact walk_ok m pa rs cap w hM hx hre
  · exact walk_no m pa rs cap w hM

theorem own : ownKnob Try.prog.godebug = none := by kernel_rfl
theorem laidOut : laidOutB Try.prog = true := by kernel_rfl

set_option maxRecDepth 100000 in
set_option maxHeartbeats 2000000 in
theorem lifted (os : Os) (started : os.Started) (H : Type) (enc : TypeId × Value → H) :
    ReturnsInHanded {} Try.checked os 4 .any (Rows.renoPlaysSpec.pre6 enc Try.prog Try.f4 Rows.renoPlaysRow.domain false) (Rows.renoPlaysSpec.post enc Try.prog Try.f4 false true false false) := by
  refine returnsInHanded_of_change_sized (C := Try.checked) own started (by kernel_rfl) Try.func4
    (ChangeSpec.witness6 (enc := enc) (C := Try.checked) false ⟨#[], #[.int .i64 0, .slice none 0 0], []⟩ 8 (by kernel_rfl) (by kernel_rfl) (by kernel_rfl) (by kernel_rfl)) ?_
  intro W base args ds gs before hval0 hW hcnd hsz0 _
  have hval : ∀ (j : Nat) t v, Try.f4.params[j]? = some t → args[j]? = some v → Value.okWide Try.prog W .any base t v := hval0
  have hsz : (DataW.weightsEach Try.prog (Try.f4.params.toList ++ Rows.renoPlaysSpec.plain.varTypes Try.prog) (ds ++ gs)).all (· ≤ reachBytes) = true := hsz0
  have hW' := hW
  obtain ⟨p, q, hA0, hV, rfl, hfz, hnd⟩ := hW
  have hA : DataW.TrodAll enc Try.prog W 0 (fun _ => true) true Try.f4.params.toList args.toList ds p := hA0
  rw [Try.params4] at hA hval hsz
  obtain ⟨v0, vs0, d0, ds0, p0, q0, hargs, rfl, rfl, h0, r0⟩ := trodAll_cons hA
  obtain ⟨v1, vs1, d1, ds1, p1, q1, rfl, rfl, rfl, h1, r1⟩ := trodAll_cons r0
  obtain ⟨rfl, rfl, rfl⟩ := trodAll_nil r1
  obtain rfl : args = #[v0, v1] := by cases args; simp_all
  obtain ⟨rfl, rfl⟩ := trodVars_none hV
  obtain ⟨a0, rfl, rfl, rfl, w0⟩ := open_int Try.underlying3 (hval 0 3 v0 rfl rfl) h0
  obtain ⟨a1, len1, cap1, rfl⟩ := okWide_slice Try.underlying37 (hval 1 37 v1 rfl rfl)
  have k1 := h1
  have lt1 : ∀ x ∈ p1, x.block < W.heap.size := by obtain ⟨m, hm⟩ := k1; exact DataW.trod_lt m _ _ _ hm
  obtain ⟨xs1, hxl1, hbt1, hre1⟩ : ∃ xs : List Step20, xs.length = len1 ∧ Sts 2 Step20.cells Step20.ok W a1 xs ∧ xs.length ≤ 8796093021952 := by
    obtain ⟨fuel, hf⟩ := h1
    obtain ⟨x, rs, c, hv, hs, _, _, hq⟩ := open_Step20s (c := .slice a1 len1 cap1) hf
    simp only [Value.slice.injEq] at hv
    obtain ⟨rfl, rfl, rfl⟩ := hv
    have hw := sts_reach Try.underlying37 hq (fun n hn => by simpa using List.all_eq_true.1 hsz _ (DataW.weights_mem_each (j := 1) (t := 37) rfl rfl n hn))
    rw [show Try.prog.bytesOf 40 = 16 from by kernel_rfl] at hw
    simp only [reachBytes] at hw
    exact ⟨rs, rfl, hs, by omega⟩
  clear hA0 hval0 hsz hsz0
  obtain ⟨lo0, hi0⟩ := bounds_i64 w0
  subst hxl1
  refine (walk a0 a1 xs1 cap1 W lo0 hi0 hbt1 hre1).mono fun e W' ⟨he, bel⟩ => ?_
  subst he
  exact ⟨_, rfl, _, _, _, [], _, [], hW', trodAll_mk1 (shut_bool Try.underlying4 _), (trodAll_cons_mk (shut_int Try.underlying3 w0) (trodAll_cons_mk (Below.trod laidOut (by kernel_rfl) (of_decide_eq_true (by kernel_rfl)) k1 bel lt1) trodAll_mk0)), rfl, bel.frame _, fun h => by cases h⟩

theorem over : Rows.renoPlaysRow.holds Try.pinned (OpenSpec.ofChange Rows.renoPlaysSpec) :=
  OpenClaim.holds_of_wide 4 Try.f4 rfl rfl rfl rfl rfl rfl rfl ⟨rfl, rfl, rfl, rfl, rfl⟩ rfl rfl rfl rfl rfl (by kernel_rfl) Try.func4 (by kernel_rfl)
    (of_decide_eq_true (by kernel_rfl)) (by unfold Func.isWrapper; first | (rw [if_pos (by decide +kernel)]; kernel_rfl) | (rw [if_neg (by decide +kernel)]; exact ⟨rfl, rfl⟩))
    (fun os started H enc _ => lifted os started H enc)

end Go.Proofs.Ytmjcckpppflpjaa.renoPlays
namespace Go.Proofs.Ytmjcckpppflpjaa
/-- The statement. -/
theorem renoPlays_holds : Rows.RenoPlaysSaid := renoPlays.over
#print axioms renoPlays_holds
end Go.Proofs.Ytmjcckpppflpjaa
