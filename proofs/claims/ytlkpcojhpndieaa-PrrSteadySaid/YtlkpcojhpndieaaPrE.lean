/- Prr: the document's Send and Deliver. -/
import Derived.Test.YtlkpcojhpndieaaPrEa
import Derived.Test.YtlkpcojhpndieaaGStore
import Derived.RegionTactic
import Derived.Deep.RegionHeld3
import Derived.Deep.DeepCutAuto
namespace Go.Proofs.Ytlkpcojhpndieaa
open Go.RowKit Go.Proofs.Ytlkpcojhpndieaa.Pr

set_option maxHeartbeats 2000000 in
theorem rsend_s (d a i r k v : Int) (b : Bool) (w : World) (hS : ¬ RV d a i r k) :
    Calls Try.prog 16 #[.agg #[.int .i64 d, .int .i64 a, .int .i64 i, .int .i64 r, .int .i64 k], .int .i64 v, .bool b] w fun e w' => e = .returned (.tuple #[.agg #[.int .i64 0, .int .i64 0, .int .i64 0, .int .i64 0, .int .i64 0], .agg #[.int .i64 0, .int .i64 0, .int .i64 0, .int .i64 0], .int .i64 171]) ∧ Below w.heap.size w w' := by
  have q_0 := Below.refl w.heap.size w
  go_enter Try.func16, Try.ntmps16
  go_wp2_with fail
  have b : Below w.heap.size w (((w.alloc (.cells #[.int .i64 d, .int .i64 a, .int .i64 i, .int .i64 r, .int .i64 k] 40)).alloc (.cells #[.int .i64 0, .int .i64 0, .int .i64 0, .int .i64 0, .int .i64 0] 40)).alloc (.cells #[.int .i64 0, .int .i64 0, .int .i64 0, .int .i64 0] 42)) := ((((Below.refl _ w).alloc (Nat.le_refl _) (.cells #[.int .i64 d, .int .i64 a, .int .i64 i, .int .i64 r, .int .i64 k] 40)).alloc (by simp only [World.size_alloc]; omega) (.cells #[.int .i64 0, .int .i64 0, .int .i64 0, .int .i64 0, .int .i64 0] 40)).alloc (by simp only [World.size_alloc]; omega) (.cells #[.int .i64 0, .int .i64 0, .int .i64 0, .int .i64 0] 42))
  have nb0 := blk_new w (.cells #[.int .i64 d, .int .i64 a, .int .i64 i, .int .i64 r, .int .i64 k] 40)
  have nb0 := (Below.heap_alloc (w.alloc (.cells #[.int .i64 d, .int .i64 a, .int .i64 i, .int .i64 r, .int .i64 k] 40)) (.cells #[.int .i64 0, .int .i64 0, .int .i64 0, .int .i64 0, .int .i64 0] 40) (w.heap.size) (by simp only [World.size_alloc]; omega)).trans nb0
  have nb0 := (Below.heap_alloc ((w.alloc (.cells #[.int .i64 d, .int .i64 a, .int .i64 i, .int .i64 r, .int .i64 k] 40)).alloc (.cells #[.int .i64 0, .int .i64 0, .int .i64 0, .int .i64 0, .int .i64 0] 40)) (.cells #[.int .i64 0, .int .i64 0, .int .i64 0, .int .i64 0] 42) (w.heap.size) (by simp only [World.size_alloc]; omega)).trans nb0
  have nz0 : w.heap.size < (((w.alloc (.cells #[.int .i64 d, .int .i64 a, .int .i64 i, .int .i64 r, .int .i64 k] 40)).alloc (.cells #[.int .i64 0, .int .i64 0, .int .i64 0, .int .i64 0, .int .i64 0] 40)).alloc (.cells #[.int .i64 0, .int .i64 0, .int .i64 0, .int .i64 0] 42)).heap.size := by simp only [World.size_alloc]; omega
  have nb1 := blk_new (w.alloc (.cells #[.int .i64 d, .int .i64 a, .int .i64 i, .int .i64 r, .int .i64 k] 40)) (.cells #[.int .i64 0, .int .i64 0, .int .i64 0, .int .i64 0, .int .i64 0] 40)
  simp only [World.size_alloc] at nb1
  have nb1 := (Below.heap_alloc ((w.alloc (.cells #[.int .i64 d, .int .i64 a, .int .i64 i, .int .i64 r, .int .i64 k] 40)).alloc (.cells #[.int .i64 0, .int .i64 0, .int .i64 0, .int .i64 0, .int .i64 0] 40)) (.cells #[.int .i64 0, .int .i64 0, .int .i64 0, .int .i64 0] 42) (w.heap.size + 1) (by simp only [World.size_alloc]; omega)).trans nb1
  have nz1 : w.heap.size + 1 < (((w.alloc (.cells #[.int .i64 d, .int .i64 a, .int .i64 i, .int .i64 r, .int .i64 k] 40)).alloc (.cells #[.int .i64 0, .int .i64 0, .int .i64 0, .int .i64 0, .int .i64 0] 40)).alloc (.cells #[.int .i64 0, .int .i64 0, .int .i64 0, .int .i64 0] 42)).heap.size := by simp only [World.size_alloc]; omega
  have nb2 := blk_new ((w.alloc (.cells #[.int .i64 d, .int .i64 a, .int .i64 i, .int .i64 r, .int .i64 k] 40)).alloc (.cells #[.int .i64 0, .int .i64 0, .int .i64 0, .int .i64 0, .int .i64 0] 40)) (.cells #[.int .i64 0, .int .i64 0, .int .i64 0, .int .i64 0] 42)
  simp only [World.size_alloc] at nb2
  have nz2 : w.heap.size + 2 < (((w.alloc (.cells #[.int .i64 d, .int .i64 a, .int .i64 i, .int .i64 r, .int .i64 k] 40)).alloc (.cells #[.int .i64 0, .int .i64 0, .int .i64 0, .int .i64 0, .int .i64 0] 40)).alloc (.cells #[.int .i64 0, .int .i64 0, .int .i64 0, .int .i64 0] 42)).heap.size := by simp only [World.size_alloc]; omega
  have q_1 := q_0.trans (b.mono q_0.size)
  clear q_0
  clear b
  have S_1 := Lib.hid nb0
  have Sz_1 := nz0
  clear nb0 nz0
  have Sc0_1 := blk_cell S_1.out 0
  have Sc1_1 := blk_cell S_1.out 1
  have Sc2_1 := blk_cell S_1.out 2
  have Sc3_1 := blk_cell S_1.out 3
  have Sc4_1 := blk_cell S_1.out 4
  have R_1 := Lib.hid nb1
  have Rz_1 := nz1
  clear nb1 nz1
  have Rc0_1 := blk_cell R_1.out 0
  have Rc1_1 := blk_cell R_1.out 1
  have Rc2_1 := blk_cell R_1.out 2
  have Rc3_1 := blk_cell R_1.out 3
  have Rc4_1 := blk_cell R_1.out 4
  have P_1 := Lib.hid nb2
  have Pz_1 := nz2
  clear nb2 nz2
  have Pc0_1 := blk_cell P_1.out 0
  have Pc1_1 := blk_cell P_1.out 1
  have Pc2_1 := blk_cell P_1.out 2
  have Pc3_1 := blk_cell P_1.out 3
  generalize (((w.alloc (.cells #[.int .i64 d, .int .i64 a, .int .i64 i, .int .i64 r, .int .i64 k] 40)).alloc (.cells #[.int .i64 0, .int .i64 0, .int .i64 0, .int .i64 0, .int .i64 0] 40)).alloc (.cells #[.int .i64 0, .int .i64 0, .int .i64 0, .int .i64 0] 42)) = V1 at q_1 S_1 Sz_1 Sc0_1 Sc1_1 Sc2_1 Sc3_1 Sc4_1 R_1 Rz_1 Rc0_1 Rc1_1 Rc2_1 Rc3_1 Rc4_1 P_1 Pz_1 Pc0_1 Pc1_1 Pc2_1 Pc3_1 ⊢
  have nsx : w.heap.size ≠ w.heap.size + 1 := by omega
  have nsr : w.heap.size ≠ w.heap.size + 1 + 1 := by omega
  have nxr : w.heap.size + 1 ≠ w.heap.size + 1 + 1 := by omega
  refine (rrmay_no d a i r k _ hS).mono ?_
  rintro e V2 ⟨rfl, b⟩
  have S_2 := Lib.hid ((b.block _ Sz_1).trans S_1.out)
  have Sz_2 := Nat.lt_of_lt_of_le Sz_1 b.size
  have Sc0_2 := blk_cell S_2.out 0
  have Sc1_2 := blk_cell S_2.out 1
  have Sc2_2 := blk_cell S_2.out 2
  have Sc3_2 := blk_cell S_2.out 3
  have Sc4_2 := blk_cell S_2.out 4
  have R_2 := Lib.hid ((b.block _ Rz_1).trans R_1.out)
  have Rz_2 := Nat.lt_of_lt_of_le Rz_1 b.size
  have Rc0_2 := blk_cell R_2.out 0
  have Rc1_2 := blk_cell R_2.out 1
  have Rc2_2 := blk_cell R_2.out 2
  have Rc3_2 := blk_cell R_2.out 3
  have Rc4_2 := blk_cell R_2.out 4
  have P_2 := Lib.hid ((b.block _ Pz_1).trans P_1.out)
  have Pz_2 := Nat.lt_of_lt_of_le Pz_1 b.size
  have Pc0_2 := blk_cell P_2.out 0
  have Pc1_2 := blk_cell P_2.out 1
  have Pc2_2 := blk_cell P_2.out 2
  have Pc3_2 := blk_cell P_2.out 3
  have q_2 := q_1.trans (b.mono q_1.size)
  clear S_1 Sz_1 Sc0_1 Sc1_1 Sc2_1 Sc3_1 Sc4_1 R_1 Rz_1 Rc0_1 Rc1_1 Rc2_1 Rc3_1 Rc4_1 P_1 Pz_1 Pc0_1 Pc1_1 Pc2_1 Pc3_1 q_1
  clear b
  have fS0 := blk_free S_2.out 0
  have fS1 := blk_free S_2.out 1
  have fS2 := blk_free S_2.out 2
  have fS3 := blk_free S_2.out 3
  have fS4 := blk_free S_2.out 4
  have fR0 := blk_free R_2.out 0
  have fR1 := blk_free R_2.out 1
  have fR2 := blk_free R_2.out 2
  have fR3 := blk_free R_2.out 3
  have fR4 := blk_free R_2.out 4
  have fP0 := blk_free P_2.out 0
  have fP1 := blk_free P_2.out 1
  have fP2 := blk_free P_2.out 2
  have fP3 := blk_free P_2.out 3
  have QY := Lib.hid q_2
  clear S_2 R_2 P_2

  go_wp2
  refine bodyPost_ret (v := .tuple #[.agg #[.int .i64 0, .int .i64 0, .int .i64 0, .int .i64 0, .int .i64 0], .agg #[.int .i64 0, .int .i64 0, .int .i64 0, .int .i64 0], .int .i64 171]) (by simp [results, Try.results16, go_sem, *]) rfl ⟨rfl, ?_⟩
  (repeat' (first | (with_reducible exact QY.out) | (with_reducible exact Below.refl _ _) | (with_reducible refine Below.alloc ?_ ?_ _) | (with_reducible refine Below.setCell ?_ ?_ _) | (with_reducible refine Below.drew ?_) | (with_reducible refine below_drewN ?_ _) | omega | (dsimp only; omega) | (simp; done) | (simp; omega)))

set_option maxHeartbeats 2000000 in
theorem rsend_v (d a i r k v : Int) (b : Bool) (w : World) (hS : RV d a i r k) (hV : ¬ TV v) :
    Calls Try.prog 16 #[.agg #[.int .i64 d, .int .i64 a, .int .i64 i, .int .i64 r, .int .i64 k], .int .i64 v, .bool b] w fun e w' => e = .returned (.tuple #[.agg #[.int .i64 0, .int .i64 0, .int .i64 0, .int .i64 0, .int .i64 0], .agg #[.int .i64 0, .int .i64 0, .int .i64 0, .int .i64 0], .int .i64 4]) ∧ Below w.heap.size w w' := by
  have h1 : inb v 0 1099511627776 = false := inb_not.2 hV
  have q_0 := Below.refl w.heap.size w
  go_enter Try.func16, Try.ntmps16
  go_wp2_with fail
  have b : Below w.heap.size w (((w.alloc (.cells #[.int .i64 d, .int .i64 a, .int .i64 i, .int .i64 r, .int .i64 k] 40)).alloc (.cells #[.int .i64 0, .int .i64 0, .int .i64 0, .int .i64 0, .int .i64 0] 40)).alloc (.cells #[.int .i64 0, .int .i64 0, .int .i64 0, .int .i64 0] 42)) := ((((Below.refl _ w).alloc (Nat.le_refl _) (.cells #[.int .i64 d, .int .i64 a, .int .i64 i, .int .i64 r, .int .i64 k] 40)).alloc (by simp only [World.size_alloc]; omega) (.cells #[.int .i64 0, .int .i64 0, .int .i64 0, .int .i64 0, .int .i64 0] 40)).alloc (by simp only [World.size_alloc]; omega) (.cells #[.int .i64 0, .int .i64 0, .int .i64 0, .int .i64 0] 42))
  have nb0 := blk_new w (.cells #[.int .i64 d, .int .i64 a, .int .i64 i, .int .i64 r, .int .i64 k] 40)
  have nb0 := (Below.heap_alloc (w.alloc (.cells #[.int .i64 d, .int .i64 a, .int .i64 i, .int .i64 r, .int .i64 k] 40)) (.cells #[.int .i64 0, .int .i64 0, .int .i64 0, .int .i64 0, .int .i64 0] 40) (w.heap.size) (by simp only [World.size_alloc]; omega)).trans nb0
  have nb0 := (Below.heap_alloc ((w.alloc (.cells #[.int .i64 d, .int .i64 a, .int .i64 i, .int .i64 r, .int .i64 k] 40)).alloc (.cells #[.int .i64 0, .int .i64 0, .int .i64 0, .int .i64 0, .int .i64 0] 40)) (.cells #[.int .i64 0, .int .i64 0, .int .i64 0, .int .i64 0] 42) (w.heap.size) (by simp only [World.size_alloc]; omega)).trans nb0
  have nz0 : w.heap.size < (((w.alloc (.cells #[.int .i64 d, .int .i64 a, .int .i64 i, .int .i64 r, .int .i64 k] 40)).alloc (.cells #[.int .i64 0, .int .i64 0, .int .i64 0, .int .i64 0, .int .i64 0] 40)).alloc (.cells #[.int .i64 0, .int .i64 0, .int .i64 0, .int .i64 0] 42)).heap.size := by simp only [World.size_alloc]; omega
  have nb1 := blk_new (w.alloc (.cells #[.int .i64 d, .int .i64 a, .int .i64 i, .int .i64 r, .int .i64 k] 40)) (.cells #[.int .i64 0, .int .i64 0, .int .i64 0, .int .i64 0, .int .i64 0] 40)
  simp only [World.size_alloc] at nb1
  have nb1 := (Below.heap_alloc ((w.alloc (.cells #[.int .i64 d, .int .i64 a, .int .i64 i, .int .i64 r, .int .i64 k] 40)).alloc (.cells #[.int .i64 0, .int .i64 0, .int .i64 0, .int .i64 0, .int .i64 0] 40)) (.cells #[.int .i64 0, .int .i64 0, .int .i64 0, .int .i64 0] 42) (w.heap.size + 1) (by simp only [World.size_alloc]; omega)).trans nb1
  have nz1 : w.heap.size + 1 < (((w.alloc (.cells #[.int .i64 d, .int .i64 a, .int .i64 i, .int .i64 r, .int .i64 k] 40)).alloc (.cells #[.int .i64 0, .int .i64 0, .int .i64 0, .int .i64 0, .int .i64 0] 40)).alloc (.cells #[.int .i64 0, .int .i64 0, .int .i64 0, .int .i64 0] 42)).heap.size := by simp only [World.size_alloc]; omega
  have nb2 := blk_new ((w.alloc (.cells #[.int .i64 d, .int .i64 a, .int .i64 i, .int .i64 r, .int .i64 k] 40)).alloc (.cells #[.int .i64 0, .int .i64 0, .int .i64 0, .int .i64 0, .int .i64 0] 40)) (.cells #[.int .i64 0, .int .i64 0, .int .i64 0, .int .i64 0] 42)
  simp only [World.size_alloc] at nb2
  have nz2 : w.heap.size + 2 < (((w.alloc (.cells #[.int .i64 d, .int .i64 a, .int .i64 i, .int .i64 r, .int .i64 k] 40)).alloc (.cells #[.int .i64 0, .int .i64 0, .int .i64 0, .int .i64 0, .int .i64 0] 40)).alloc (.cells #[.int .i64 0, .int .i64 0, .int .i64 0, .int .i64 0] 42)).heap.size := by simp only [World.size_alloc]; omega
  have q_1 := q_0.trans (b.mono q_0.size)
  clear q_0
  clear b
  have S_1 := Lib.hid nb0
  have Sz_1 := nz0
  clear nb0 nz0
  have Sc0_1 := blk_cell S_1.out 0
  have Sc1_1 := blk_cell S_1.out 1
  have Sc2_1 := blk_cell S_1.out 2
  have Sc3_1 := blk_cell S_1.out 3
  have Sc4_1 := blk_cell S_1.out 4
  have R_1 := Lib.hid nb1
  have Rz_1 := nz1
  clear nb1 nz1
  have Rc0_1 := blk_cell R_1.out 0
  have Rc1_1 := blk_cell R_1.out 1
  have Rc2_1 := blk_cell R_1.out 2
  have Rc3_1 := blk_cell R_1.out 3
  have Rc4_1 := blk_cell R_1.out 4
  have P_1 := Lib.hid nb2
  have Pz_1 := nz2
  clear nb2 nz2
  have Pc0_1 := blk_cell P_1.out 0
  have Pc1_1 := blk_cell P_1.out 1
  have Pc2_1 := blk_cell P_1.out 2
  have Pc3_1 := blk_cell P_1.out 3
  generalize (((w.alloc (.cells #[.int .i64 d, .int .i64 a, .int .i64 i, .int .i64 r, .int .i64 k] 40)).alloc (.cells #[.int .i64 0, .int .i64 0, .int .i64 0, .int .i64 0, .int .i64 0] 40)).alloc (.cells #[.int .i64 0, .int .i64 0, .int .i64 0, .int .i64 0] 42)) = V1 at q_1 S_1 Sz_1 Sc0_1 Sc1_1 Sc2_1 Sc3_1 Sc4_1 R_1 Rz_1 Rc0_1 Rc1_1 Rc2_1 Rc3_1 Rc4_1 P_1 Pz_1 Pc0_1 Pc1_1 Pc2_1 Pc3_1 ⊢
  have nsx : w.heap.size ≠ w.heap.size + 1 := by omega
  have nsr : w.heap.size ≠ w.heap.size + 1 + 1 := by omega
  have nxr : w.heap.size + 1 ≠ w.heap.size + 1 + 1 := by omega
  refine (rrmay_yes d a i r k _ hS).mono ?_
  rintro e V2 ⟨rfl, b⟩
  have S_2 := Lib.hid ((b.block _ Sz_1).trans S_1.out)
  have Sz_2 := Nat.lt_of_lt_of_le Sz_1 b.size
  have Sc0_2 := blk_cell S_2.out 0
  have Sc1_2 := blk_cell S_2.out 1
  have Sc2_2 := blk_cell S_2.out 2
  have Sc3_2 := blk_cell S_2.out 3
  have Sc4_2 := blk_cell S_2.out 4
  have R_2 := Lib.hid ((b.block _ Rz_1).trans R_1.out)
  have Rz_2 := Nat.lt_of_lt_of_le Rz_1 b.size
  have Rc0_2 := blk_cell R_2.out 0
  have Rc1_2 := blk_cell R_2.out 1
  have Rc2_2 := blk_cell R_2.out 2
  have Rc3_2 := blk_cell R_2.out 3
  have Rc4_2 := blk_cell R_2.out 4
  have P_2 := Lib.hid ((b.block _ Pz_1).trans P_1.out)
  have Pz_2 := Nat.lt_of_lt_of_le Pz_1 b.size
  have Pc0_2 := blk_cell P_2.out 0
  have Pc1_2 := blk_cell P_2.out 1
  have Pc2_2 := blk_cell P_2.out 2
  have Pc3_2 := blk_cell P_2.out 3
  have q_2 := q_1.trans (b.mono q_1.size)
  clear S_1 Sz_1 Sc0_1 Sc1_1 Sc2_1 Sc3_1 Sc4_1 R_1 Rz_1 Rc0_1 Rc1_1 Rc2_1 Rc3_1 Rc4_1 P_1 Pz_1 Pc0_1 Pc1_1 Pc2_1 Pc3_1 q_1
  clear b
  go_wp2_with fail
  refine (tick_any v _).mono ?_
  rintro e w' ⟨rfl, rfl⟩
  have fS0 := blk_free S_2.out 0
  have fS1 := blk_free S_2.out 1
  have fS2 := blk_free S_2.out 2
  have fS3 := blk_free S_2.out 3
  have fS4 := blk_free S_2.out 4
  have fR0 := blk_free R_2.out 0
  have fR1 := blk_free R_2.out 1
  have fR2 := blk_free R_2.out 2
  have fR3 := blk_free R_2.out 3
  have fR4 := blk_free R_2.out 4
  have fP0 := blk_free P_2.out 0
  have fP1 := blk_free P_2.out 1
  have fP2 := blk_free P_2.out 2
  have fP3 := blk_free P_2.out 3
  have QY := Lib.hid q_2
  clear S_2 R_2 P_2

  go_wp2
  refine bodyPost_ret (v := .tuple #[.agg #[.int .i64 0, .int .i64 0, .int .i64 0, .int .i64 0, .int .i64 0], .agg #[.int .i64 0, .int .i64 0, .int .i64 0, .int .i64 0], .int .i64 4]) (by simp [results, Try.results16, go_sem, *]) rfl ⟨rfl, ?_⟩
  (repeat' (first | (with_reducible exact QY.out) | (with_reducible exact Below.refl _ _) | (with_reducible refine Below.alloc ?_ ?_ _) | (with_reducible refine Below.setCell ?_ ?_ _) | (with_reducible refine Below.drew ?_) | (with_reducible refine below_drewN ?_ _) | omega | (dsimp only; omega) | (simp; done) | (simp; omega)))

set_option maxHeartbeats 2000000 in
theorem rsend_f (d a i r k v : Int) (w : World) (hS : RV d a i r k) (hV : TV v) :
    Calls Try.prog 16 #[.agg #[.int .i64 d, .int .i64 a, .int .i64 i, .int .i64 r, .int .i64 k], .int .i64 v, .bool false] w fun e w' => e = .returned (.tuple #[.agg #[.int .i64 d, .int .i64 a, .int .i64 i, .int .i64 r, .int .i64 k], .agg #[.int .i64 d, .int .i64 a, .int .i64 i, .int .i64 v], .int .i64 0]) ∧ Below w.heap.size w w' := by
  have h1 : inb v 0 1099511627776 = true := inb_true hV.1 hV.2
  have q_0 := Below.refl w.heap.size w
  go_enter Try.func16, Try.ntmps16
  go_wp2_with fail
  have b : Below w.heap.size w (((w.alloc (.cells #[.int .i64 d, .int .i64 a, .int .i64 i, .int .i64 r, .int .i64 k] 40)).alloc (.cells #[.int .i64 0, .int .i64 0, .int .i64 0, .int .i64 0, .int .i64 0] 40)).alloc (.cells #[.int .i64 0, .int .i64 0, .int .i64 0, .int .i64 0] 42)) := ((((Below.refl _ w).alloc (Nat.le_refl _) (.cells #[.int .i64 d, .int .i64 a, .int .i64 i, .int .i64 r, .int .i64 k] 40)).alloc (by simp only [World.size_alloc]; omega) (.cells #[.int .i64 0, .int .i64 0, .int .i64 0, .int .i64 0, .int .i64 0] 40)).alloc (by simp only [World.size_alloc]; omega) (.cells #[.int .i64 0, .int .i64 0, .int .i64 0, .int .i64 0] 42))
  have nb0 := blk_new w (.cells #[.int .i64 d, .int .i64 a, .int .i64 i, .int .i64 r, .int .i64 k] 40)
  have nb0 := (Below.heap_alloc (w.alloc (.cells #[.int .i64 d, .int .i64 a, .int .i64 i, .int .i64 r, .int .i64 k] 40)) (.cells #[.int .i64 0, .int .i64 0, .int .i64 0, .int .i64 0, .int .i64 0] 40) (w.heap.size) (by simp only [World.size_alloc]; omega)).trans nb0
  have nb0 := (Below.heap_alloc ((w.alloc (.cells #[.int .i64 d, .int .i64 a, .int .i64 i, .int .i64 r, .int .i64 k] 40)).alloc (.cells #[.int .i64 0, .int .i64 0, .int .i64 0, .int .i64 0, .int .i64 0] 40)) (.cells #[.int .i64 0, .int .i64 0, .int .i64 0, .int .i64 0] 42) (w.heap.size) (by simp only [World.size_alloc]; omega)).trans nb0
  have nz0 : w.heap.size < (((w.alloc (.cells #[.int .i64 d, .int .i64 a, .int .i64 i, .int .i64 r, .int .i64 k] 40)).alloc (.cells #[.int .i64 0, .int .i64 0, .int .i64 0, .int .i64 0, .int .i64 0] 40)).alloc (.cells #[.int .i64 0, .int .i64 0, .int .i64 0, .int .i64 0] 42)).heap.size := by simp only [World.size_alloc]; omega
  have nb1 := blk_new (w.alloc (.cells #[.int .i64 d, .int .i64 a, .int .i64 i, .int .i64 r, .int .i64 k] 40)) (.cells #[.int .i64 0, .int .i64 0, .int .i64 0, .int .i64 0, .int .i64 0] 40)
  simp only [World.size_alloc] at nb1
  have nb1 := (Below.heap_alloc ((w.alloc (.cells #[.int .i64 d, .int .i64 a, .int .i64 i, .int .i64 r, .int .i64 k] 40)).alloc (.cells #[.int .i64 0, .int .i64 0, .int .i64 0, .int .i64 0, .int .i64 0] 40)) (.cells #[.int .i64 0, .int .i64 0, .int .i64 0, .int .i64 0] 42) (w.heap.size + 1) (by simp only [World.size_alloc]; omega)).trans nb1
  have nz1 : w.heap.size + 1 < (((w.alloc (.cells #[.int .i64 d, .int .i64 a, .int .i64 i, .int .i64 r, .int .i64 k] 40)).alloc (.cells #[.int .i64 0, .int .i64 0, .int .i64 0, .int .i64 0, .int .i64 0] 40)).alloc (.cells #[.int .i64 0, .int .i64 0, .int .i64 0, .int .i64 0] 42)).heap.size := by simp only [World.size_alloc]; omega
  have nb2 := blk_new ((w.alloc (.cells #[.int .i64 d, .int .i64 a, .int .i64 i, .int .i64 r, .int .i64 k] 40)).alloc (.cells #[.int .i64 0, .int .i64 0, .int .i64 0, .int .i64 0, .int .i64 0] 40)) (.cells #[.int .i64 0, .int .i64 0, .int .i64 0, .int .i64 0] 42)
  simp only [World.size_alloc] at nb2
  have nz2 : w.heap.size + 2 < (((w.alloc (.cells #[.int .i64 d, .int .i64 a, .int .i64 i, .int .i64 r, .int .i64 k] 40)).alloc (.cells #[.int .i64 0, .int .i64 0, .int .i64 0, .int .i64 0, .int .i64 0] 40)).alloc (.cells #[.int .i64 0, .int .i64 0, .int .i64 0, .int .i64 0] 42)).heap.size := by simp only [World.size_alloc]; omega
  have q_1 := q_0.trans (b.mono q_0.size)
  clear q_0
  clear b
  have S_1 := Lib.hid nb0
  have Sz_1 := nz0
  clear nb0 nz0
  have Sc0_1 := blk_cell S_1.out 0
  have Sc1_1 := blk_cell S_1.out 1
  have Sc2_1 := blk_cell S_1.out 2
  have Sc3_1 := blk_cell S_1.out 3
  have Sc4_1 := blk_cell S_1.out 4
  have R_1 := Lib.hid nb1
  have Rz_1 := nz1
  clear nb1 nz1
  have Rc0_1 := blk_cell R_1.out 0
  have Rc1_1 := blk_cell R_1.out 1
  have Rc2_1 := blk_cell R_1.out 2
  have Rc3_1 := blk_cell R_1.out 3
  have Rc4_1 := blk_cell R_1.out 4
  have P_1 := Lib.hid nb2
  have Pz_1 := nz2
  clear nb2 nz2
  have Pc0_1 := blk_cell P_1.out 0
  have Pc1_1 := blk_cell P_1.out 1
  have Pc2_1 := blk_cell P_1.out 2
  have Pc3_1 := blk_cell P_1.out 3
  generalize (((w.alloc (.cells #[.int .i64 d, .int .i64 a, .int .i64 i, .int .i64 r, .int .i64 k] 40)).alloc (.cells #[.int .i64 0, .int .i64 0, .int .i64 0, .int .i64 0, .int .i64 0] 40)).alloc (.cells #[.int .i64 0, .int .i64 0, .int .i64 0, .int .i64 0] 42)) = V1 at q_1 S_1 Sz_1 Sc0_1 Sc1_1 Sc2_1 Sc3_1 Sc4_1 R_1 Rz_1 Rc0_1 Rc1_1 Rc2_1 Rc3_1 Rc4_1 P_1 Pz_1 Pc0_1 Pc1_1 Pc2_1 Pc3_1 ⊢
  have nsx : w.heap.size ≠ w.heap.size + 1 := by omega
  have nsr : w.heap.size ≠ w.heap.size + 1 + 1 := by omega
  have nxr : w.heap.size + 1 ≠ w.heap.size + 1 + 1 := by omega
  refine (rrmay_yes d a i r k _ hS).mono ?_
  rintro e V2 ⟨rfl, b⟩
  have S_2 := Lib.hid ((b.block _ Sz_1).trans S_1.out)
  have Sz_2 := Nat.lt_of_lt_of_le Sz_1 b.size
  have Sc0_2 := blk_cell S_2.out 0
  have Sc1_2 := blk_cell S_2.out 1
  have Sc2_2 := blk_cell S_2.out 2
  have Sc3_2 := blk_cell S_2.out 3
  have Sc4_2 := blk_cell S_2.out 4
  have R_2 := Lib.hid ((b.block _ Rz_1).trans R_1.out)
  have Rz_2 := Nat.lt_of_lt_of_le Rz_1 b.size
  have Rc0_2 := blk_cell R_2.out 0
  have Rc1_2 := blk_cell R_2.out 1
  have Rc2_2 := blk_cell R_2.out 2
  have Rc3_2 := blk_cell R_2.out 3
  have Rc4_2 := blk_cell R_2.out 4
  have P_2 := Lib.hid ((b.block _ Pz_1).trans P_1.out)
  have Pz_2 := Nat.lt_of_lt_of_le Pz_1 b.size
  have Pc0_2 := blk_cell P_2.out 0
  have Pc1_2 := blk_cell P_2.out 1
  have Pc2_2 := blk_cell P_2.out 2
  have Pc3_2 := blk_cell P_2.out 3
  have q_2 := q_1.trans (b.mono q_1.size)
  clear S_1 Sz_1 Sc0_1 Sc1_1 Sc2_1 Sc3_1 Sc4_1 R_1 Rz_1 Rc0_1 Rc1_1 Rc2_1 Rc3_1 Rc4_1 P_1 Pz_1 Pc0_1 Pc1_1 Pc2_1 Pc3_1 q_1
  clear b
  go_wp2_with fail
  refine (tick_any v _).mono ?_
  rintro e w' ⟨rfl, rfl⟩
  have fS0 := blk_free S_2.out 0
  have fS1 := blk_free S_2.out 1
  have fS2 := blk_free S_2.out 2
  have fS3 := blk_free S_2.out 3
  have fS4 := blk_free S_2.out 4
  have fR0 := blk_free R_2.out 0
  have fR1 := blk_free R_2.out 1
  have fR2 := blk_free R_2.out 2
  have fR3 := blk_free R_2.out 3
  have fR4 := blk_free R_2.out 4
  have fP0 := blk_free P_2.out 0
  have fP1 := blk_free P_2.out 1
  have fP2 := blk_free P_2.out 2
  have fP3 := blk_free P_2.out 3
  go_wp2_with fail
  have QY := Lib.hid q_2
  have na : w.heap.size + 1 ≠ w.heap.size := by omega
  have nb : w.heap.size + 1 + 1 ≠ w.heap.size := by omega
  have SE0 : Hid (V2.drew.cell? ⟨w.heap.size, 0, none⟩ = some (.int .i64 d) ∧ V2.drew.cell? ⟨w.heap.size, 1, none⟩ = some (.int .i64 a) ∧ V2.drew.cell? ⟨w.heap.size, 2, none⟩ = some (.int .i64 i) ∧ V2.drew.cell? ⟨w.heap.size, 3, none⟩ = some (.int .i64 r) ∧ V2.drew.cell? ⟨w.heap.size, 4, none⟩ = some (.int .i64 k)) := Lib.hid ⟨blk_cell (blk_drew S_2.out) 0, blk_cell (blk_drew S_2.out) 1, blk_cell (blk_drew S_2.out) 2, blk_cell (blk_drew S_2.out) 3, blk_cell (blk_drew S_2.out) 4⟩
  have SE1 : Hid ((((((V2.setCell ⟨w.heap.size + 1, 0, none⟩ (.int .i64 d)).setCell ⟨w.heap.size + 1, 1, none⟩ (.int .i64 a)).setCell ⟨w.heap.size + 1, 2, none⟩ (.int .i64 i)).setCell ⟨w.heap.size + 1, 3, none⟩ (.int .i64 r)).setCell ⟨w.heap.size + 1, 4, none⟩ (.int .i64 k)).drew.cell? ⟨w.heap.size, 0, none⟩ = some (.int .i64 d) ∧ (((((V2.setCell ⟨w.heap.size + 1, 0, none⟩ (.int .i64 d)).setCell ⟨w.heap.size + 1, 1, none⟩ (.int .i64 a)).setCell ⟨w.heap.size + 1, 2, none⟩ (.int .i64 i)).setCell ⟨w.heap.size + 1, 3, none⟩ (.int .i64 r)).setCell ⟨w.heap.size + 1, 4, none⟩ (.int .i64 k)).drew.cell? ⟨w.heap.size, 1, none⟩ = some (.int .i64 a) ∧ (((((V2.setCell ⟨w.heap.size + 1, 0, none⟩ (.int .i64 d)).setCell ⟨w.heap.size + 1, 1, none⟩ (.int .i64 a)).setCell ⟨w.heap.size + 1, 2, none⟩ (.int .i64 i)).setCell ⟨w.heap.size + 1, 3, none⟩ (.int .i64 r)).setCell ⟨w.heap.size + 1, 4, none⟩ (.int .i64 k)).drew.cell? ⟨w.heap.size, 2, none⟩ = some (.int .i64 i) ∧ (((((V2.setCell ⟨w.heap.size + 1, 0, none⟩ (.int .i64 d)).setCell ⟨w.heap.size + 1, 1, none⟩ (.int .i64 a)).setCell ⟨w.heap.size + 1, 2, none⟩ (.int .i64 i)).setCell ⟨w.heap.size + 1, 3, none⟩ (.int .i64 r)).setCell ⟨w.heap.size + 1, 4, none⟩ (.int .i64 k)).drew.cell? ⟨w.heap.size, 3, none⟩ = some (.int .i64 r) ∧ (((((V2.setCell ⟨w.heap.size + 1, 0, none⟩ (.int .i64 d)).setCell ⟨w.heap.size + 1, 1, none⟩ (.int .i64 a)).setCell ⟨w.heap.size + 1, 2, none⟩ (.int .i64 i)).setCell ⟨w.heap.size + 1, 3, none⟩ (.int .i64 r)).setCell ⟨w.heap.size + 1, 4, none⟩ (.int .i64 k)).drew.cell? ⟨w.heap.size, 4, none⟩ = some (.int .i64 k)) := Lib.hid ⟨blk_cell (blk_drew (blk_other (i := 4) (blk_other (i := 3) (blk_other (i := 2) (blk_other (i := 1) (blk_other (i := 0) S_2.out na (.int .i64 d)) na (.int .i64 a)) na (.int .i64 i)) na (.int .i64 r)) na (.int .i64 k))) 0, blk_cell (blk_drew (blk_other (i := 4) (blk_other (i := 3) (blk_other (i := 2) (blk_other (i := 1) (blk_other (i := 0) S_2.out na (.int .i64 d)) na (.int .i64 a)) na (.int .i64 i)) na (.int .i64 r)) na (.int .i64 k))) 1, blk_cell (blk_drew (blk_other (i := 4) (blk_other (i := 3) (blk_other (i := 2) (blk_other (i := 1) (blk_other (i := 0) S_2.out na (.int .i64 d)) na (.int .i64 a)) na (.int .i64 i)) na (.int .i64 r)) na (.int .i64 k))) 2, blk_cell (blk_drew (blk_other (i := 4) (blk_other (i := 3) (blk_other (i := 2) (blk_other (i := 1) (blk_other (i := 0) S_2.out na (.int .i64 d)) na (.int .i64 a)) na (.int .i64 i)) na (.int .i64 r)) na (.int .i64 k))) 3, blk_cell (blk_drew (blk_other (i := 4) (blk_other (i := 3) (blk_other (i := 2) (blk_other (i := 1) (blk_other (i := 0) S_2.out na (.int .i64 d)) na (.int .i64 a)) na (.int .i64 i)) na (.int .i64 r)) na (.int .i64 k))) 4⟩
  have SE2 : Hid ((((((((((V2.setCell ⟨w.heap.size + 1, 0, none⟩ (.int .i64 d)).setCell ⟨w.heap.size + 1, 1, none⟩ (.int .i64 a)).setCell ⟨w.heap.size + 1, 2, none⟩ (.int .i64 i)).setCell ⟨w.heap.size + 1, 3, none⟩ (.int .i64 r)).setCell ⟨w.heap.size + 1, 4, none⟩ (.int .i64 k)).setCell ⟨w.heap.size + 1 + 1, 0, none⟩ (.int .i64 d)).setCell ⟨w.heap.size + 1 + 1, 1, none⟩ (.int .i64 a)).setCell ⟨w.heap.size + 1 + 1, 2, none⟩ (.int .i64 i)).setCell ⟨w.heap.size + 1 + 1, 3, none⟩ (.int .i64 v)).drew.cell? ⟨w.heap.size, 0, none⟩ = some (.int .i64 d) ∧ (((((((((V2.setCell ⟨w.heap.size + 1, 0, none⟩ (.int .i64 d)).setCell ⟨w.heap.size + 1, 1, none⟩ (.int .i64 a)).setCell ⟨w.heap.size + 1, 2, none⟩ (.int .i64 i)).setCell ⟨w.heap.size + 1, 3, none⟩ (.int .i64 r)).setCell ⟨w.heap.size + 1, 4, none⟩ (.int .i64 k)).setCell ⟨w.heap.size + 1 + 1, 0, none⟩ (.int .i64 d)).setCell ⟨w.heap.size + 1 + 1, 1, none⟩ (.int .i64 a)).setCell ⟨w.heap.size + 1 + 1, 2, none⟩ (.int .i64 i)).setCell ⟨w.heap.size + 1 + 1, 3, none⟩ (.int .i64 v)).drew.cell? ⟨w.heap.size, 1, none⟩ = some (.int .i64 a) ∧ (((((((((V2.setCell ⟨w.heap.size + 1, 0, none⟩ (.int .i64 d)).setCell ⟨w.heap.size + 1, 1, none⟩ (.int .i64 a)).setCell ⟨w.heap.size + 1, 2, none⟩ (.int .i64 i)).setCell ⟨w.heap.size + 1, 3, none⟩ (.int .i64 r)).setCell ⟨w.heap.size + 1, 4, none⟩ (.int .i64 k)).setCell ⟨w.heap.size + 1 + 1, 0, none⟩ (.int .i64 d)).setCell ⟨w.heap.size + 1 + 1, 1, none⟩ (.int .i64 a)).setCell ⟨w.heap.size + 1 + 1, 2, none⟩ (.int .i64 i)).setCell ⟨w.heap.size + 1 + 1, 3, none⟩ (.int .i64 v)).drew.cell? ⟨w.heap.size, 2, none⟩ = some (.int .i64 i) ∧ (((((((((V2.setCell ⟨w.heap.size + 1, 0, none⟩ (.int .i64 d)).setCell ⟨w.heap.size + 1, 1, none⟩ (.int .i64 a)).setCell ⟨w.heap.size + 1, 2, none⟩ (.int .i64 i)).setCell ⟨w.heap.size + 1, 3, none⟩ (.int .i64 r)).setCell ⟨w.heap.size + 1, 4, none⟩ (.int .i64 k)).setCell ⟨w.heap.size + 1 + 1, 0, none⟩ (.int .i64 d)).setCell ⟨w.heap.size + 1 + 1, 1, none⟩ (.int .i64 a)).setCell ⟨w.heap.size + 1 + 1, 2, none⟩ (.int .i64 i)).setCell ⟨w.heap.size + 1 + 1, 3, none⟩ (.int .i64 v)).drew.cell? ⟨w.heap.size, 3, none⟩ = some (.int .i64 r) ∧ (((((((((V2.setCell ⟨w.heap.size + 1, 0, none⟩ (.int .i64 d)).setCell ⟨w.heap.size + 1, 1, none⟩ (.int .i64 a)).setCell ⟨w.heap.size + 1, 2, none⟩ (.int .i64 i)).setCell ⟨w.heap.size + 1, 3, none⟩ (.int .i64 r)).setCell ⟨w.heap.size + 1, 4, none⟩ (.int .i64 k)).setCell ⟨w.heap.size + 1 + 1, 0, none⟩ (.int .i64 d)).setCell ⟨w.heap.size + 1 + 1, 1, none⟩ (.int .i64 a)).setCell ⟨w.heap.size + 1 + 1, 2, none⟩ (.int .i64 i)).setCell ⟨w.heap.size + 1 + 1, 3, none⟩ (.int .i64 v)).drew.cell? ⟨w.heap.size, 4, none⟩ = some (.int .i64 k)) := Lib.hid ⟨blk_cell (blk_drew (blk_other (i := 3) (blk_other (i := 2) (blk_other (i := 1) (blk_other (i := 0) (blk_other (i := 4) (blk_other (i := 3) (blk_other (i := 2) (blk_other (i := 1) (blk_other (i := 0) S_2.out na (.int .i64 d)) na (.int .i64 a)) na (.int .i64 i)) na (.int .i64 r)) na (.int .i64 k)) nb (.int .i64 d)) nb (.int .i64 a)) nb (.int .i64 i)) nb (.int .i64 v))) 0, blk_cell (blk_drew (blk_other (i := 3) (blk_other (i := 2) (blk_other (i := 1) (blk_other (i := 0) (blk_other (i := 4) (blk_other (i := 3) (blk_other (i := 2) (blk_other (i := 1) (blk_other (i := 0) S_2.out na (.int .i64 d)) na (.int .i64 a)) na (.int .i64 i)) na (.int .i64 r)) na (.int .i64 k)) nb (.int .i64 d)) nb (.int .i64 a)) nb (.int .i64 i)) nb (.int .i64 v))) 1, blk_cell (blk_drew (blk_other (i := 3) (blk_other (i := 2) (blk_other (i := 1) (blk_other (i := 0) (blk_other (i := 4) (blk_other (i := 3) (blk_other (i := 2) (blk_other (i := 1) (blk_other (i := 0) S_2.out na (.int .i64 d)) na (.int .i64 a)) na (.int .i64 i)) na (.int .i64 r)) na (.int .i64 k)) nb (.int .i64 d)) nb (.int .i64 a)) nb (.int .i64 i)) nb (.int .i64 v))) 2, blk_cell (blk_drew (blk_other (i := 3) (blk_other (i := 2) (blk_other (i := 1) (blk_other (i := 0) (blk_other (i := 4) (blk_other (i := 3) (blk_other (i := 2) (blk_other (i := 1) (blk_other (i := 0) S_2.out na (.int .i64 d)) na (.int .i64 a)) na (.int .i64 i)) na (.int .i64 r)) na (.int .i64 k)) nb (.int .i64 d)) nb (.int .i64 a)) nb (.int .i64 i)) nb (.int .i64 v))) 3, blk_cell (blk_drew (blk_other (i := 3) (blk_other (i := 2) (blk_other (i := 1) (blk_other (i := 0) (blk_other (i := 4) (blk_other (i := 3) (blk_other (i := 2) (blk_other (i := 1) (blk_other (i := 0) S_2.out na (.int .i64 d)) na (.int .i64 a)) na (.int .i64 i)) na (.int .i64 r)) na (.int .i64 k)) nb (.int .i64 d)) nb (.int .i64 a)) nb (.int .i64 i)) nb (.int .i64 v))) 4⟩
  go_region_held3 (fun W' => W'.cell? ⟨w.heap.size, 0, none⟩ = some (.int .i64 d) ∧ W'.cell? ⟨w.heap.size, 1, none⟩ = some (.int .i64 a) ∧ W'.cell? ⟨w.heap.size, 2, none⟩ = some (.int .i64 i) ∧ W'.cell? ⟨w.heap.size, 3, none⟩ = some (.int .i64 r) ∧ W'.cell? ⟨w.heap.size, 4, none⟩ = some (.int .i64 k)) (first | (with_reducible exact SE0.out) | (with_reducible exact SE1.out) | (with_reducible exact SE2.out)) (first
    | fail)
  all_goals
    clear S_2 R_2 P_2 q_2
    go_wp2
    refine bodyPost_ret (v := .tuple #[.agg #[.int .i64 d, .int .i64 a, .int .i64 i, .int .i64 r, .int .i64 k], .agg #[.int .i64 d, .int .i64 a, .int .i64 i, .int .i64 v], .int .i64 0]) (by simp [results, Try.results16, go_sem, *]) rfl ⟨rfl, ?_⟩
    (repeat' (first | (with_reducible exact QY.out) | (with_reducible exact Below.refl _ _) | (with_reducible refine Below.alloc ?_ ?_ _) | (with_reducible refine Below.setCell ?_ ?_ _) | (with_reducible refine Below.drew ?_) | (with_reducible refine below_drewN ?_ _) | omega | (dsimp only; omega) | (simp; done) | (simp; omega)))

set_option maxHeartbeats 2000000 in
theorem rsend_t (d a i r k v : Int) (w : World) (hS : RV d a i r k) (hV : TV v) :
    Calls Try.prog 16 #[.agg #[.int .i64 d, .int .i64 a, .int .i64 i, .int .i64 r, .int .i64 k], .int .i64 v, .bool true] w fun e w' => e = .returned (.tuple #[.agg #[.int .i64 d, .int .i64 v, .int .i64 v, .int .i64 r, .int .i64 k], .agg #[.int .i64 d, .int .i64 v, .int .i64 v, .int .i64 v], .int .i64 0]) ∧ Below w.heap.size w w' := by
  have h1 : inb v 0 1099511627776 = true := inb_true hV.1 hV.2
  have q_0 := Below.refl w.heap.size w
  go_enter Try.func16, Try.ntmps16
  go_wp2_with fail
  have b : Below w.heap.size w (((w.alloc (.cells #[.int .i64 d, .int .i64 a, .int .i64 i, .int .i64 r, .int .i64 k] 40)).alloc (.cells #[.int .i64 0, .int .i64 0, .int .i64 0, .int .i64 0, .int .i64 0] 40)).alloc (.cells #[.int .i64 0, .int .i64 0, .int .i64 0, .int .i64 0] 42)) := ((((Below.refl _ w).alloc (Nat.le_refl _) (.cells #[.int .i64 d, .int .i64 a, .int .i64 i, .int .i64 r, .int .i64 k] 40)).alloc (by simp only [World.size_alloc]; omega) (.cells #[.int .i64 0, .int .i64 0, .int .i64 0, .int .i64 0, .int .i64 0] 40)).alloc (by simp only [World.size_alloc]; omega) (.cells #[.int .i64 0, .int .i64 0, .int .i64 0, .int .i64 0] 42))
  have nb0 := blk_new w (.cells #[.int .i64 d, .int .i64 a, .int .i64 i, .int .i64 r, .int .i64 k] 40)
  have nb0 := (Below.heap_alloc (w.alloc (.cells #[.int .i64 d, .int .i64 a, .int .i64 i, .int .i64 r, .int .i64 k] 40)) (.cells #[.int .i64 0, .int .i64 0, .int .i64 0, .int .i64 0, .int .i64 0] 40) (w.heap.size) (by simp only [World.size_alloc]; omega)).trans nb0
  have nb0 := (Below.heap_alloc ((w.alloc (.cells #[.int .i64 d, .int .i64 a, .int .i64 i, .int .i64 r, .int .i64 k] 40)).alloc (.cells #[.int .i64 0, .int .i64 0, .int .i64 0, .int .i64 0, .int .i64 0] 40)) (.cells #[.int .i64 0, .int .i64 0, .int .i64 0, .int .i64 0] 42) (w.heap.size) (by simp only [World.size_alloc]; omega)).trans nb0
  have nz0 : w.heap.size < (((w.alloc (.cells #[.int .i64 d, .int .i64 a, .int .i64 i, .int .i64 r, .int .i64 k] 40)).alloc (.cells #[.int .i64 0, .int .i64 0, .int .i64 0, .int .i64 0, .int .i64 0] 40)).alloc (.cells #[.int .i64 0, .int .i64 0, .int .i64 0, .int .i64 0] 42)).heap.size := by simp only [World.size_alloc]; omega
  have nb1 := blk_new (w.alloc (.cells #[.int .i64 d, .int .i64 a, .int .i64 i, .int .i64 r, .int .i64 k] 40)) (.cells #[.int .i64 0, .int .i64 0, .int .i64 0, .int .i64 0, .int .i64 0] 40)
  simp only [World.size_alloc] at nb1
  have nb1 := (Below.heap_alloc ((w.alloc (.cells #[.int .i64 d, .int .i64 a, .int .i64 i, .int .i64 r, .int .i64 k] 40)).alloc (.cells #[.int .i64 0, .int .i64 0, .int .i64 0, .int .i64 0, .int .i64 0] 40)) (.cells #[.int .i64 0, .int .i64 0, .int .i64 0, .int .i64 0] 42) (w.heap.size + 1) (by simp only [World.size_alloc]; omega)).trans nb1
  have nz1 : w.heap.size + 1 < (((w.alloc (.cells #[.int .i64 d, .int .i64 a, .int .i64 i, .int .i64 r, .int .i64 k] 40)).alloc (.cells #[.int .i64 0, .int .i64 0, .int .i64 0, .int .i64 0, .int .i64 0] 40)).alloc (.cells #[.int .i64 0, .int .i64 0, .int .i64 0, .int .i64 0] 42)).heap.size := by simp only [World.size_alloc]; omega
  have nb2 := blk_new ((w.alloc (.cells #[.int .i64 d, .int .i64 a, .int .i64 i, .int .i64 r, .int .i64 k] 40)).alloc (.cells #[.int .i64 0, .int .i64 0, .int .i64 0, .int .i64 0, .int .i64 0] 40)) (.cells #[.int .i64 0, .int .i64 0, .int .i64 0, .int .i64 0] 42)
  simp only [World.size_alloc] at nb2
  have nz2 : w.heap.size + 2 < (((w.alloc (.cells #[.int .i64 d, .int .i64 a, .int .i64 i, .int .i64 r, .int .i64 k] 40)).alloc (.cells #[.int .i64 0, .int .i64 0, .int .i64 0, .int .i64 0, .int .i64 0] 40)).alloc (.cells #[.int .i64 0, .int .i64 0, .int .i64 0, .int .i64 0] 42)).heap.size := by simp only [World.size_alloc]; omega
  have q_1 := q_0.trans (b.mono q_0.size)
  clear q_0
  clear b
  have S_1 := Lib.hid nb0
  have Sz_1 := nz0
  clear nb0 nz0
  have Sc0_1 := blk_cell S_1.out 0
  have Sc1_1 := blk_cell S_1.out 1
  have Sc2_1 := blk_cell S_1.out 2
  have Sc3_1 := blk_cell S_1.out 3
  have Sc4_1 := blk_cell S_1.out 4
  have R_1 := Lib.hid nb1
  have Rz_1 := nz1
  clear nb1 nz1
  have Rc0_1 := blk_cell R_1.out 0
  have Rc1_1 := blk_cell R_1.out 1
  have Rc2_1 := blk_cell R_1.out 2
  have Rc3_1 := blk_cell R_1.out 3
  have Rc4_1 := blk_cell R_1.out 4
  have P_1 := Lib.hid nb2
  have Pz_1 := nz2
  clear nb2 nz2
  have Pc0_1 := blk_cell P_1.out 0
  have Pc1_1 := blk_cell P_1.out 1
  have Pc2_1 := blk_cell P_1.out 2
  have Pc3_1 := blk_cell P_1.out 3
  generalize (((w.alloc (.cells #[.int .i64 d, .int .i64 a, .int .i64 i, .int .i64 r, .int .i64 k] 40)).alloc (.cells #[.int .i64 0, .int .i64 0, .int .i64 0, .int .i64 0, .int .i64 0] 40)).alloc (.cells #[.int .i64 0, .int .i64 0, .int .i64 0, .int .i64 0] 42)) = V1 at q_1 S_1 Sz_1 Sc0_1 Sc1_1 Sc2_1 Sc3_1 Sc4_1 R_1 Rz_1 Rc0_1 Rc1_1 Rc2_1 Rc3_1 Rc4_1 P_1 Pz_1 Pc0_1 Pc1_1 Pc2_1 Pc3_1 ⊢
  have nsx : w.heap.size ≠ w.heap.size + 1 := by omega
  have nsr : w.heap.size ≠ w.heap.size + 1 + 1 := by omega
  have nxr : w.heap.size + 1 ≠ w.heap.size + 1 + 1 := by omega
  refine (rrmay_yes d a i r k _ hS).mono ?_
  rintro e V2 ⟨rfl, b⟩
  have S_2 := Lib.hid ((b.block _ Sz_1).trans S_1.out)
  have Sz_2 := Nat.lt_of_lt_of_le Sz_1 b.size
  have Sc0_2 := blk_cell S_2.out 0
  have Sc1_2 := blk_cell S_2.out 1
  have Sc2_2 := blk_cell S_2.out 2
  have Sc3_2 := blk_cell S_2.out 3
  have Sc4_2 := blk_cell S_2.out 4
  have R_2 := Lib.hid ((b.block _ Rz_1).trans R_1.out)
  have Rz_2 := Nat.lt_of_lt_of_le Rz_1 b.size
  have Rc0_2 := blk_cell R_2.out 0
  have Rc1_2 := blk_cell R_2.out 1
  have Rc2_2 := blk_cell R_2.out 2
  have Rc3_2 := blk_cell R_2.out 3
  have Rc4_2 := blk_cell R_2.out 4
  have P_2 := Lib.hid ((b.block _ Pz_1).trans P_1.out)
  have Pz_2 := Nat.lt_of_lt_of_le Pz_1 b.size
  have Pc0_2 := blk_cell P_2.out 0
  have Pc1_2 := blk_cell P_2.out 1
  have Pc2_2 := blk_cell P_2.out 2
  have Pc3_2 := blk_cell P_2.out 3
  have q_2 := q_1.trans (b.mono q_1.size)
  clear S_1 Sz_1 Sc0_1 Sc1_1 Sc2_1 Sc3_1 Sc4_1 R_1 Rz_1 Rc0_1 Rc1_1 Rc2_1 Rc3_1 Rc4_1 P_1 Pz_1 Pc0_1 Pc1_1 Pc2_1 Pc3_1 q_1
  clear b
  go_wp2_with fail
  refine (tick_any v _).mono ?_
  rintro e w' ⟨rfl, rfl⟩
  have fS0 := blk_free S_2.out 0
  have fS1 := blk_free S_2.out 1
  have fS2 := blk_free S_2.out 2
  have fS3 := blk_free S_2.out 3
  have fS4 := blk_free S_2.out 4
  have fR0 := blk_free R_2.out 0
  have fR1 := blk_free R_2.out 1
  have fR2 := blk_free R_2.out 2
  have fR3 := blk_free R_2.out 3
  have fR4 := blk_free R_2.out 4
  have fP0 := blk_free P_2.out 0
  have fP1 := blk_free P_2.out 1
  have fP2 := blk_free P_2.out 2
  have fP3 := blk_free P_2.out 3
  go_wp2_with fail
  clear fS0 fS1 fS2 fS3 fS4 fR0 fR1 fR2 fR3 fR4 fP0 fP1 fP2 fP3
  clear Sc0_2 Sc1_2 Sc2_2 Sc3_2 Sc4_2 Rc0_2 Rc1_2 Rc2_2 Rc3_2 Rc4_2 Pc0_2 Pc1_2 Pc2_2 Pc3_2
  have st0 : Hid ((V2.setCell ⟨w.heap.size, 1, none⟩ (.int .i64 v)).heap[w.heap.size]? = some (.cells #[.int .i64 d, .int .i64 v, .int .i64 i, .int .i64 r, .int .i64 k] 40 (0, 0))) := Lib.hid (blk_set S_2.out 1 (.int .i64 v))
  have st1 : Hid (((V2.setCell ⟨w.heap.size, 1, none⟩ (.int .i64 v)).setCell ⟨w.heap.size, 2, none⟩ (.int .i64 v)).heap[w.heap.size]? = some (.cells #[.int .i64 d, .int .i64 v, .int .i64 v, .int .i64 r, .int .i64 k] 40 (0, 0))) := Lib.hid (blk_set st0.out 2 (.int .i64 v))
  have S_3 : Hid (((V2.setCell ⟨w.heap.size, 1, none⟩ (.int .i64 v)).setCell ⟨w.heap.size, 2, none⟩ (.int .i64 v)).heap[w.heap.size]? = some (.cells #[.int .i64 d, .int .i64 v, .int .i64 v, .int .i64 r, .int .i64 k] 40 (0, 0))) := Lib.hid (st1.out)
  have R_3 : Hid (((V2.setCell ⟨w.heap.size, 1, none⟩ (.int .i64 v)).setCell ⟨w.heap.size, 2, none⟩ (.int .i64 v)).heap[w.heap.size + 1]? = some (.cells #[.int .i64 0, .int .i64 0, .int .i64 0, .int .i64 0, .int .i64 0] 40 (0, 0))) := Lib.hid ((blk_other (i := 2) (blk_other (i := 1) R_2.out (by first | assumption | omega) (.int .i64 v)) (by first | assumption | omega) (.int .i64 v)))
  have P_3 : Hid (((V2.setCell ⟨w.heap.size, 1, none⟩ (.int .i64 v)).setCell ⟨w.heap.size, 2, none⟩ (.int .i64 v)).heap[w.heap.size + 1 + 1]? = some (.cells #[.int .i64 0, .int .i64 0, .int .i64 0, .int .i64 0] 42 (0, 0))) := Lib.hid ((blk_other (i := 2) (blk_other (i := 1) P_2.out (by first | assumption | omega) (.int .i64 v)) (by first | assumption | omega) (.int .i64 v)))
  have q_3 : Below w.heap.size w ((V2.setCell ⟨w.heap.size, 1, none⟩ (.int .i64 v)).setCell ⟨w.heap.size, 2, none⟩ (.int .i64 v)) := ((q_2.setCell (p := ⟨w.heap.size, 1, none⟩) (by first | exact Nat.le_refl _ | omega) (.int .i64 v)).setCell (p := ⟨w.heap.size, 2, none⟩) (by first | exact Nat.le_refl _ | omega) (.int .i64 v))
  clear q_2 S_2 Sz_2 R_2 Rz_2 P_2 Pz_2 st0 st1
  generalize ((V2.setCell ⟨w.heap.size, 1, none⟩ (.int .i64 v)).setCell ⟨w.heap.size, 2, none⟩ (.int .i64 v)) = Y1 at q_3 S_3 R_3 P_3 ⊢
  have Sz_3 := blk_lt S_3.out
  have Sc0_3 := blk_cell S_3.out 0
  have Sc1_3 := blk_cell S_3.out 1
  have Sc2_3 := blk_cell S_3.out 2
  have Sc3_3 := blk_cell S_3.out 3
  have Sc4_3 := blk_cell S_3.out 4
  have Rz_3 := blk_lt R_3.out
  have Rc0_3 := blk_cell R_3.out 0
  have Rc1_3 := blk_cell R_3.out 1
  have Rc2_3 := blk_cell R_3.out 2
  have Rc3_3 := blk_cell R_3.out 3
  have Rc4_3 := blk_cell R_3.out 4
  have Pz_3 := blk_lt P_3.out
  have Pc0_3 := blk_cell P_3.out 0
  have Pc1_3 := blk_cell P_3.out 1
  have Pc2_3 := blk_cell P_3.out 2
  have Pc3_3 := blk_cell P_3.out 3
  have fS0 := blk_free S_3.out 0
  have fS1 := blk_free S_3.out 1
  have fS2 := blk_free S_3.out 2
  have fS3 := blk_free S_3.out 3
  have fS4 := blk_free S_3.out 4
  have fR0 := blk_free R_3.out 0
  have fR1 := blk_free R_3.out 1
  have fR2 := blk_free R_3.out 2
  have fR3 := blk_free R_3.out 3
  have fR4 := blk_free R_3.out 4
  have fP0 := blk_free P_3.out 0
  have fP1 := blk_free P_3.out 1
  have fP2 := blk_free P_3.out 2
  have fP3 := blk_free P_3.out 3
  have QY := Lib.hid q_3
  have na : w.heap.size + 1 ≠ w.heap.size := by omega
  have nb : w.heap.size + 1 + 1 ≠ w.heap.size := by omega
  have SE0 : Hid (Y1.drew.cell? ⟨w.heap.size, 0, none⟩ = some (.int .i64 d) ∧ Y1.drew.cell? ⟨w.heap.size, 1, none⟩ = some (.int .i64 v) ∧ Y1.drew.cell? ⟨w.heap.size, 2, none⟩ = some (.int .i64 v) ∧ Y1.drew.cell? ⟨w.heap.size, 3, none⟩ = some (.int .i64 r) ∧ Y1.drew.cell? ⟨w.heap.size, 4, none⟩ = some (.int .i64 k)) := Lib.hid ⟨blk_cell (blk_drew S_3.out) 0, blk_cell (blk_drew S_3.out) 1, blk_cell (blk_drew S_3.out) 2, blk_cell (blk_drew S_3.out) 3, blk_cell (blk_drew S_3.out) 4⟩
  have SE1 : Hid ((((((Y1.setCell ⟨w.heap.size + 1, 0, none⟩ (.int .i64 d)).setCell ⟨w.heap.size + 1, 1, none⟩ (.int .i64 v)).setCell ⟨w.heap.size + 1, 2, none⟩ (.int .i64 v)).setCell ⟨w.heap.size + 1, 3, none⟩ (.int .i64 r)).setCell ⟨w.heap.size + 1, 4, none⟩ (.int .i64 k)).drew.cell? ⟨w.heap.size, 0, none⟩ = some (.int .i64 d) ∧ (((((Y1.setCell ⟨w.heap.size + 1, 0, none⟩ (.int .i64 d)).setCell ⟨w.heap.size + 1, 1, none⟩ (.int .i64 v)).setCell ⟨w.heap.size + 1, 2, none⟩ (.int .i64 v)).setCell ⟨w.heap.size + 1, 3, none⟩ (.int .i64 r)).setCell ⟨w.heap.size + 1, 4, none⟩ (.int .i64 k)).drew.cell? ⟨w.heap.size, 1, none⟩ = some (.int .i64 v) ∧ (((((Y1.setCell ⟨w.heap.size + 1, 0, none⟩ (.int .i64 d)).setCell ⟨w.heap.size + 1, 1, none⟩ (.int .i64 v)).setCell ⟨w.heap.size + 1, 2, none⟩ (.int .i64 v)).setCell ⟨w.heap.size + 1, 3, none⟩ (.int .i64 r)).setCell ⟨w.heap.size + 1, 4, none⟩ (.int .i64 k)).drew.cell? ⟨w.heap.size, 2, none⟩ = some (.int .i64 v) ∧ (((((Y1.setCell ⟨w.heap.size + 1, 0, none⟩ (.int .i64 d)).setCell ⟨w.heap.size + 1, 1, none⟩ (.int .i64 v)).setCell ⟨w.heap.size + 1, 2, none⟩ (.int .i64 v)).setCell ⟨w.heap.size + 1, 3, none⟩ (.int .i64 r)).setCell ⟨w.heap.size + 1, 4, none⟩ (.int .i64 k)).drew.cell? ⟨w.heap.size, 3, none⟩ = some (.int .i64 r) ∧ (((((Y1.setCell ⟨w.heap.size + 1, 0, none⟩ (.int .i64 d)).setCell ⟨w.heap.size + 1, 1, none⟩ (.int .i64 v)).setCell ⟨w.heap.size + 1, 2, none⟩ (.int .i64 v)).setCell ⟨w.heap.size + 1, 3, none⟩ (.int .i64 r)).setCell ⟨w.heap.size + 1, 4, none⟩ (.int .i64 k)).drew.cell? ⟨w.heap.size, 4, none⟩ = some (.int .i64 k)) := Lib.hid ⟨blk_cell (blk_drew (blk_other (i := 4) (blk_other (i := 3) (blk_other (i := 2) (blk_other (i := 1) (blk_other (i := 0) S_3.out na (.int .i64 d)) na (.int .i64 v)) na (.int .i64 v)) na (.int .i64 r)) na (.int .i64 k))) 0, blk_cell (blk_drew (blk_other (i := 4) (blk_other (i := 3) (blk_other (i := 2) (blk_other (i := 1) (blk_other (i := 0) S_3.out na (.int .i64 d)) na (.int .i64 v)) na (.int .i64 v)) na (.int .i64 r)) na (.int .i64 k))) 1, blk_cell (blk_drew (blk_other (i := 4) (blk_other (i := 3) (blk_other (i := 2) (blk_other (i := 1) (blk_other (i := 0) S_3.out na (.int .i64 d)) na (.int .i64 v)) na (.int .i64 v)) na (.int .i64 r)) na (.int .i64 k))) 2, blk_cell (blk_drew (blk_other (i := 4) (blk_other (i := 3) (blk_other (i := 2) (blk_other (i := 1) (blk_other (i := 0) S_3.out na (.int .i64 d)) na (.int .i64 v)) na (.int .i64 v)) na (.int .i64 r)) na (.int .i64 k))) 3, blk_cell (blk_drew (blk_other (i := 4) (blk_other (i := 3) (blk_other (i := 2) (blk_other (i := 1) (blk_other (i := 0) S_3.out na (.int .i64 d)) na (.int .i64 v)) na (.int .i64 v)) na (.int .i64 r)) na (.int .i64 k))) 4⟩
  have SE2 : Hid ((((((((((Y1.setCell ⟨w.heap.size + 1, 0, none⟩ (.int .i64 d)).setCell ⟨w.heap.size + 1, 1, none⟩ (.int .i64 v)).setCell ⟨w.heap.size + 1, 2, none⟩ (.int .i64 v)).setCell ⟨w.heap.size + 1, 3, none⟩ (.int .i64 r)).setCell ⟨w.heap.size + 1, 4, none⟩ (.int .i64 k)).setCell ⟨w.heap.size + 1 + 1, 0, none⟩ (.int .i64 d)).setCell ⟨w.heap.size + 1 + 1, 1, none⟩ (.int .i64 v)).setCell ⟨w.heap.size + 1 + 1, 2, none⟩ (.int .i64 v)).setCell ⟨w.heap.size + 1 + 1, 3, none⟩ (.int .i64 v)).drew.cell? ⟨w.heap.size, 0, none⟩ = some (.int .i64 d) ∧ (((((((((Y1.setCell ⟨w.heap.size + 1, 0, none⟩ (.int .i64 d)).setCell ⟨w.heap.size + 1, 1, none⟩ (.int .i64 v)).setCell ⟨w.heap.size + 1, 2, none⟩ (.int .i64 v)).setCell ⟨w.heap.size + 1, 3, none⟩ (.int .i64 r)).setCell ⟨w.heap.size + 1, 4, none⟩ (.int .i64 k)).setCell ⟨w.heap.size + 1 + 1, 0, none⟩ (.int .i64 d)).setCell ⟨w.heap.size + 1 + 1, 1, none⟩ (.int .i64 v)).setCell ⟨w.heap.size + 1 + 1, 2, none⟩ (.int .i64 v)).setCell ⟨w.heap.size + 1 + 1, 3, none⟩ (.int .i64 v)).drew.cell? ⟨w.heap.size, 1, none⟩ = some (.int .i64 v) ∧ (((((((((Y1.setCell ⟨w.heap.size + 1, 0, none⟩ (.int .i64 d)).setCell ⟨w.heap.size + 1, 1, none⟩ (.int .i64 v)).setCell ⟨w.heap.size + 1, 2, none⟩ (.int .i64 v)).setCell ⟨w.heap.size + 1, 3, none⟩ (.int .i64 r)).setCell ⟨w.heap.size + 1, 4, none⟩ (.int .i64 k)).setCell ⟨w.heap.size + 1 + 1, 0, none⟩ (.int .i64 d)).setCell ⟨w.heap.size + 1 + 1, 1, none⟩ (.int .i64 v)).setCell ⟨w.heap.size + 1 + 1, 2, none⟩ (.int .i64 v)).setCell ⟨w.heap.size + 1 + 1, 3, none⟩ (.int .i64 v)).drew.cell? ⟨w.heap.size, 2, none⟩ = some (.int .i64 v) ∧ (((((((((Y1.setCell ⟨w.heap.size + 1, 0, none⟩ (.int .i64 d)).setCell ⟨w.heap.size + 1, 1, none⟩ (.int .i64 v)).setCell ⟨w.heap.size + 1, 2, none⟩ (.int .i64 v)).setCell ⟨w.heap.size + 1, 3, none⟩ (.int .i64 r)).setCell ⟨w.heap.size + 1, 4, none⟩ (.int .i64 k)).setCell ⟨w.heap.size + 1 + 1, 0, none⟩ (.int .i64 d)).setCell ⟨w.heap.size + 1 + 1, 1, none⟩ (.int .i64 v)).setCell ⟨w.heap.size + 1 + 1, 2, none⟩ (.int .i64 v)).setCell ⟨w.heap.size + 1 + 1, 3, none⟩ (.int .i64 v)).drew.cell? ⟨w.heap.size, 3, none⟩ = some (.int .i64 r) ∧ (((((((((Y1.setCell ⟨w.heap.size + 1, 0, none⟩ (.int .i64 d)).setCell ⟨w.heap.size + 1, 1, none⟩ (.int .i64 v)).setCell ⟨w.heap.size + 1, 2, none⟩ (.int .i64 v)).setCell ⟨w.heap.size + 1, 3, none⟩ (.int .i64 r)).setCell ⟨w.heap.size + 1, 4, none⟩ (.int .i64 k)).setCell ⟨w.heap.size + 1 + 1, 0, none⟩ (.int .i64 d)).setCell ⟨w.heap.size + 1 + 1, 1, none⟩ (.int .i64 v)).setCell ⟨w.heap.size + 1 + 1, 2, none⟩ (.int .i64 v)).setCell ⟨w.heap.size + 1 + 1, 3, none⟩ (.int .i64 v)).drew.cell? ⟨w.heap.size, 4, none⟩ = some (.int .i64 k)) := Lib.hid ⟨blk_cell (blk_drew (blk_other (i := 3) (blk_other (i := 2) (blk_other (i := 1) (blk_other (i := 0) (blk_other (i := 4) (blk_other (i := 3) (blk_other (i := 2) (blk_other (i := 1) (blk_other (i := 0) S_3.out na (.int .i64 d)) na (.int .i64 v)) na (.int .i64 v)) na (.int .i64 r)) na (.int .i64 k)) nb (.int .i64 d)) nb (.int .i64 v)) nb (.int .i64 v)) nb (.int .i64 v))) 0, blk_cell (blk_drew (blk_other (i := 3) (blk_other (i := 2) (blk_other (i := 1) (blk_other (i := 0) (blk_other (i := 4) (blk_other (i := 3) (blk_other (i := 2) (blk_other (i := 1) (blk_other (i := 0) S_3.out na (.int .i64 d)) na (.int .i64 v)) na (.int .i64 v)) na (.int .i64 r)) na (.int .i64 k)) nb (.int .i64 d)) nb (.int .i64 v)) nb (.int .i64 v)) nb (.int .i64 v))) 1, blk_cell (blk_drew (blk_other (i := 3) (blk_other (i := 2) (blk_other (i := 1) (blk_other (i := 0) (blk_other (i := 4) (blk_other (i := 3) (blk_other (i := 2) (blk_other (i := 1) (blk_other (i := 0) S_3.out na (.int .i64 d)) na (.int .i64 v)) na (.int .i64 v)) na (.int .i64 r)) na (.int .i64 k)) nb (.int .i64 d)) nb (.int .i64 v)) nb (.int .i64 v)) nb (.int .i64 v))) 2, blk_cell (blk_drew (blk_other (i := 3) (blk_other (i := 2) (blk_other (i := 1) (blk_other (i := 0) (blk_other (i := 4) (blk_other (i := 3) (blk_other (i := 2) (blk_other (i := 1) (blk_other (i := 0) S_3.out na (.int .i64 d)) na (.int .i64 v)) na (.int .i64 v)) na (.int .i64 r)) na (.int .i64 k)) nb (.int .i64 d)) nb (.int .i64 v)) nb (.int .i64 v)) nb (.int .i64 v))) 3, blk_cell (blk_drew (blk_other (i := 3) (blk_other (i := 2) (blk_other (i := 1) (blk_other (i := 0) (blk_other (i := 4) (blk_other (i := 3) (blk_other (i := 2) (blk_other (i := 1) (blk_other (i := 0) S_3.out na (.int .i64 d)) na (.int .i64 v)) na (.int .i64 v)) na (.int .i64 r)) na (.int .i64 k)) nb (.int .i64 d)) nb (.int .i64 v)) nb (.int .i64 v)) nb (.int .i64 v))) 4⟩
  go_region_held3 (fun W' => W'.cell? ⟨w.heap.size, 0, none⟩ = some (.int .i64 d) ∧ W'.cell? ⟨w.heap.size, 1, none⟩ = some (.int .i64 v) ∧ W'.cell? ⟨w.heap.size, 2, none⟩ = some (.int .i64 v) ∧ W'.cell? ⟨w.heap.size, 3, none⟩ = some (.int .i64 r) ∧ W'.cell? ⟨w.heap.size, 4, none⟩ = some (.int .i64 k)) (first | (with_reducible exact SE0.out) | (with_reducible exact SE1.out) | (with_reducible exact SE2.out)) (first
    | fail)
  all_goals
    clear S_3 R_3 P_3 q_3
    go_wp2
    refine bodyPost_ret (v := .tuple #[.agg #[.int .i64 d, .int .i64 v, .int .i64 v, .int .i64 r, .int .i64 k], .agg #[.int .i64 d, .int .i64 v, .int .i64 v, .int .i64 v], .int .i64 0]) (by simp [results, Try.results16, go_sem, *]) rfl ⟨rfl, ?_⟩
    (repeat' (first | (with_reducible exact QY.out) | (with_reducible exact Below.refl _ _) | (with_reducible refine Below.alloc ?_ ?_ _) | (with_reducible refine Below.setCell ?_ ?_ _) | (with_reducible refine Below.drew ?_) | (with_reducible refine below_drewN ?_ _) | omega | (dsimp only; omega) | (simp; done) | (simp; omega)))

set_option maxHeartbeats 2000000 in
theorem rdeliver_s (d a i r k pd pa pi pl n v : Int) (w : World) (hS : ¬ RV d a i r k) :
    Calls Try.prog 18 #[.agg #[.int .i64 d, .int .i64 a, .int .i64 i, .int .i64 r, .int .i64 k], .agg #[.int .i64 pd, .int .i64 pa, .int .i64 pi, .int .i64 pl], .int .i64 n, .int .i64 v] w fun e w' => e = .returned (.tuple #[.agg #[.int .i64 0, .int .i64 0, .int .i64 0, .int .i64 0, .int .i64 0], .int .i64 0, .bool false, .int .i64 171]) ∧ Below w.heap.size w w' := by
  have q_0 := Below.refl w.heap.size w
  go_enter Try.func18, Try.ntmps18
  go_wp2_with fail
  have b : Below w.heap.size w (((w.alloc (.cells #[.int .i64 d, .int .i64 a, .int .i64 i, .int .i64 r, .int .i64 k] 40)).alloc (.cells #[.int .i64 pd, .int .i64 pa, .int .i64 pi, .int .i64 pl] 42)).alloc (.cells #[.int .i64 0, .int .i64 0, .int .i64 0, .int .i64 0, .int .i64 0] 40)) := ((((Below.refl _ w).alloc (Nat.le_refl _) (.cells #[.int .i64 d, .int .i64 a, .int .i64 i, .int .i64 r, .int .i64 k] 40)).alloc (by simp only [World.size_alloc]; omega) (.cells #[.int .i64 pd, .int .i64 pa, .int .i64 pi, .int .i64 pl] 42)).alloc (by simp only [World.size_alloc]; omega) (.cells #[.int .i64 0, .int .i64 0, .int .i64 0, .int .i64 0, .int .i64 0] 40))
  have nb0 := blk_new w (.cells #[.int .i64 d, .int .i64 a, .int .i64 i, .int .i64 r, .int .i64 k] 40)
  have nb0 := (Below.heap_alloc (w.alloc (.cells #[.int .i64 d, .int .i64 a, .int .i64 i, .int .i64 r, .int .i64 k] 40)) (.cells #[.int .i64 pd, .int .i64 pa, .int .i64 pi, .int .i64 pl] 42) (w.heap.size) (by simp only [World.size_alloc]; omega)).trans nb0
  have nb0 := (Below.heap_alloc ((w.alloc (.cells #[.int .i64 d, .int .i64 a, .int .i64 i, .int .i64 r, .int .i64 k] 40)).alloc (.cells #[.int .i64 pd, .int .i64 pa, .int .i64 pi, .int .i64 pl] 42)) (.cells #[.int .i64 0, .int .i64 0, .int .i64 0, .int .i64 0, .int .i64 0] 40) (w.heap.size) (by simp only [World.size_alloc]; omega)).trans nb0
  have nz0 : w.heap.size < (((w.alloc (.cells #[.int .i64 d, .int .i64 a, .int .i64 i, .int .i64 r, .int .i64 k] 40)).alloc (.cells #[.int .i64 pd, .int .i64 pa, .int .i64 pi, .int .i64 pl] 42)).alloc (.cells #[.int .i64 0, .int .i64 0, .int .i64 0, .int .i64 0, .int .i64 0] 40)).heap.size := by simp only [World.size_alloc]; omega
  have nb1 := blk_new (w.alloc (.cells #[.int .i64 d, .int .i64 a, .int .i64 i, .int .i64 r, .int .i64 k] 40)) (.cells #[.int .i64 pd, .int .i64 pa, .int .i64 pi, .int .i64 pl] 42)
  simp only [World.size_alloc] at nb1
  have nb1 := (Below.heap_alloc ((w.alloc (.cells #[.int .i64 d, .int .i64 a, .int .i64 i, .int .i64 r, .int .i64 k] 40)).alloc (.cells #[.int .i64 pd, .int .i64 pa, .int .i64 pi, .int .i64 pl] 42)) (.cells #[.int .i64 0, .int .i64 0, .int .i64 0, .int .i64 0, .int .i64 0] 40) (w.heap.size + 1) (by simp only [World.size_alloc]; omega)).trans nb1
  have nz1 : w.heap.size + 1 < (((w.alloc (.cells #[.int .i64 d, .int .i64 a, .int .i64 i, .int .i64 r, .int .i64 k] 40)).alloc (.cells #[.int .i64 pd, .int .i64 pa, .int .i64 pi, .int .i64 pl] 42)).alloc (.cells #[.int .i64 0, .int .i64 0, .int .i64 0, .int .i64 0, .int .i64 0] 40)).heap.size := by simp only [World.size_alloc]; omega
  have nb2 := blk_new ((w.alloc (.cells #[.int .i64 d, .int .i64 a, .int .i64 i, .int .i64 r, .int .i64 k] 40)).alloc (.cells #[.int .i64 pd, .int .i64 pa, .int .i64 pi, .int .i64 pl] 42)) (.cells #[.int .i64 0, .int .i64 0, .int .i64 0, .int .i64 0, .int .i64 0] 40)
  simp only [World.size_alloc] at nb2
  have nz2 : w.heap.size + 2 < (((w.alloc (.cells #[.int .i64 d, .int .i64 a, .int .i64 i, .int .i64 r, .int .i64 k] 40)).alloc (.cells #[.int .i64 pd, .int .i64 pa, .int .i64 pi, .int .i64 pl] 42)).alloc (.cells #[.int .i64 0, .int .i64 0, .int .i64 0, .int .i64 0, .int .i64 0] 40)).heap.size := by simp only [World.size_alloc]; omega
  have q_1 := q_0.trans (b.mono q_0.size)
  clear q_0
  clear b
  have S_1 := Lib.hid nb0
  have Sz_1 := nz0
  clear nb0 nz0
  have Sc0_1 := blk_cell S_1.out 0
  have Sc1_1 := blk_cell S_1.out 1
  have Sc2_1 := blk_cell S_1.out 2
  have Sc3_1 := blk_cell S_1.out 3
  have Sc4_1 := blk_cell S_1.out 4
  have X_1 := Lib.hid nb1
  have Xz_1 := nz1
  clear nb1 nz1
  have Xc0_1 := blk_cell X_1.out 0
  have Xc1_1 := blk_cell X_1.out 1
  have Xc2_1 := blk_cell X_1.out 2
  have Xc3_1 := blk_cell X_1.out 3
  have R_1 := Lib.hid nb2
  have Rz_1 := nz2
  clear nb2 nz2
  have Rc0_1 := blk_cell R_1.out 0
  have Rc1_1 := blk_cell R_1.out 1
  have Rc2_1 := blk_cell R_1.out 2
  have Rc3_1 := blk_cell R_1.out 3
  have Rc4_1 := blk_cell R_1.out 4
  generalize (((w.alloc (.cells #[.int .i64 d, .int .i64 a, .int .i64 i, .int .i64 r, .int .i64 k] 40)).alloc (.cells #[.int .i64 pd, .int .i64 pa, .int .i64 pi, .int .i64 pl] 42)).alloc (.cells #[.int .i64 0, .int .i64 0, .int .i64 0, .int .i64 0, .int .i64 0] 40)) = V1 at q_1 S_1 Sz_1 Sc0_1 Sc1_1 Sc2_1 Sc3_1 Sc4_1 X_1 Xz_1 Xc0_1 Xc1_1 Xc2_1 Xc3_1 R_1 Rz_1 Rc0_1 Rc1_1 Rc2_1 Rc3_1 Rc4_1 ⊢
  have nsx : w.heap.size ≠ w.heap.size + 1 := by omega
  have nsr : w.heap.size ≠ w.heap.size + 1 + 1 := by omega
  have nxr : w.heap.size + 1 ≠ w.heap.size + 1 + 1 := by omega
  have nxs := nsx.symm
  have nrs := nsr.symm
  have nrx := nxr.symm
  refine (rrmay_no d a i r k _ hS).mono ?_
  rintro e V2 ⟨rfl, b⟩
  have S_2 := Lib.hid ((b.block _ Sz_1).trans S_1.out)
  have Sz_2 := Nat.lt_of_lt_of_le Sz_1 b.size
  have Sc0_2 := blk_cell S_2.out 0
  have Sc1_2 := blk_cell S_2.out 1
  have Sc2_2 := blk_cell S_2.out 2
  have Sc3_2 := blk_cell S_2.out 3
  have Sc4_2 := blk_cell S_2.out 4
  have X_2 := Lib.hid ((b.block _ Xz_1).trans X_1.out)
  have Xz_2 := Nat.lt_of_lt_of_le Xz_1 b.size
  have Xc0_2 := blk_cell X_2.out 0
  have Xc1_2 := blk_cell X_2.out 1
  have Xc2_2 := blk_cell X_2.out 2
  have Xc3_2 := blk_cell X_2.out 3
  have R_2 := Lib.hid ((b.block _ Rz_1).trans R_1.out)
  have Rz_2 := Nat.lt_of_lt_of_le Rz_1 b.size
  have Rc0_2 := blk_cell R_2.out 0
  have Rc1_2 := blk_cell R_2.out 1
  have Rc2_2 := blk_cell R_2.out 2
  have Rc3_2 := blk_cell R_2.out 3
  have Rc4_2 := blk_cell R_2.out 4
  have q_2 := q_1.trans (b.mono q_1.size)
  clear S_1 Sz_1 Sc0_1 Sc1_1 Sc2_1 Sc3_1 Sc4_1 X_1 Xz_1 Xc0_1 Xc1_1 Xc2_1 Xc3_1 R_1 Rz_1 Rc0_1 Rc1_1 Rc2_1 Rc3_1 Rc4_1 q_1
  clear b
  have fR0 := blk_free R_2.out 0
  have fR1 := blk_free R_2.out 1
  have fR2 := blk_free R_2.out 2
  have fR3 := blk_free R_2.out 3
  have fR4 := blk_free R_2.out 4
  have QY := Lib.hid q_2
  clear S_2 X_2 R_2
  go_wp2
  refine bodyPost_ret (v := .tuple #[.agg #[.int .i64 0, .int .i64 0, .int .i64 0, .int .i64 0, .int .i64 0], .int .i64 0, .bool false, .int .i64 171]) (by simp [results, Try.results18, go_sem, *]) rfl ⟨rfl, ?_⟩
  (repeat' (first | (with_reducible exact QY.out) | (with_reducible exact Below.refl _ _) | (with_reducible refine Below.alloc ?_ ?_ _) | (with_reducible refine Below.setCell ?_ ?_ _) | (with_reducible refine Below.drew ?_) | (with_reducible refine below_drewN ?_ _) | omega | (dsimp only; omega) | (simp; done) | (simp; omega)))

set_option maxHeartbeats 2000000 in
theorem rdeliver_d (d a i r k pd pa pi pl n v : Int) (w : World) (hS : RV d a i r k) (hD : ¬ DV n v pd pa pi pl) :
    Calls Try.prog 18 #[.agg #[.int .i64 d, .int .i64 a, .int .i64 i, .int .i64 r, .int .i64 k], .agg #[.int .i64 pd, .int .i64 pa, .int .i64 pi, .int .i64 pl], .int .i64 n, .int .i64 v] w fun e w' => e = .returned (.tuple #[.agg #[.int .i64 0, .int .i64 0, .int .i64 0, .int .i64 0, .int .i64 0], .int .i64 0, .bool false, .int .i64 4]) ∧ Below w.heap.size w w' := by
  have hb : ¬ (inb n 1 1073741824 = true ∧ inb v 0 1099511627776 = true ∧ inb pd 0 1099511627776 = true ∧ inb pa 0 1099511627776 = true ∧ inb pi 0 1099511627776 = true ∧ inb pl 0 1099511627776 = true) := by
    simp only [inb_iff]; intro hb; exact hD hb
  have HB := Lib.hid hb
  clear hb hD
  have q_0 := Below.refl w.heap.size w
  go_enter Try.func18, Try.ntmps18
  go_wp2_with fail
  have b : Below w.heap.size w (((w.alloc (.cells #[.int .i64 d, .int .i64 a, .int .i64 i, .int .i64 r, .int .i64 k] 40)).alloc (.cells #[.int .i64 pd, .int .i64 pa, .int .i64 pi, .int .i64 pl] 42)).alloc (.cells #[.int .i64 0, .int .i64 0, .int .i64 0, .int .i64 0, .int .i64 0] 40)) := ((((Below.refl _ w).alloc (Nat.le_refl _) (.cells #[.int .i64 d, .int .i64 a, .int .i64 i, .int .i64 r, .int .i64 k] 40)).alloc (by simp only [World.size_alloc]; omega) (.cells #[.int .i64 pd, .int .i64 pa, .int .i64 pi, .int .i64 pl] 42)).alloc (by simp only [World.size_alloc]; omega) (.cells #[.int .i64 0, .int .i64 0, .int .i64 0, .int .i64 0, .int .i64 0] 40))
  have nb0 := blk_new w (.cells #[.int .i64 d, .int .i64 a, .int .i64 i, .int .i64 r, .int .i64 k] 40)
  have nb0 := (Below.heap_alloc (w.alloc (.cells #[.int .i64 d, .int .i64 a, .int .i64 i, .int .i64 r, .int .i64 k] 40)) (.cells #[.int .i64 pd, .int .i64 pa, .int .i64 pi, .int .i64 pl] 42) (w.heap.size) (by simp only [World.size_alloc]; omega)).trans nb0
  have nb0 := (Below.heap_alloc ((w.alloc (.cells #[.int .i64 d, .int .i64 a, .int .i64 i, .int .i64 r, .int .i64 k] 40)).alloc (.cells #[.int .i64 pd, .int .i64 pa, .int .i64 pi, .int .i64 pl] 42)) (.cells #[.int .i64 0, .int .i64 0, .int .i64 0, .int .i64 0, .int .i64 0] 40) (w.heap.size) (by simp only [World.size_alloc]; omega)).trans nb0
  have nz0 : w.heap.size < (((w.alloc (.cells #[.int .i64 d, .int .i64 a, .int .i64 i, .int .i64 r, .int .i64 k] 40)).alloc (.cells #[.int .i64 pd, .int .i64 pa, .int .i64 pi, .int .i64 pl] 42)).alloc (.cells #[.int .i64 0, .int .i64 0, .int .i64 0, .int .i64 0, .int .i64 0] 40)).heap.size := by simp only [World.size_alloc]; omega
  have nb1 := blk_new (w.alloc (.cells #[.int .i64 d, .int .i64 a, .int .i64 i, .int .i64 r, .int .i64 k] 40)) (.cells #[.int .i64 pd, .int .i64 pa, .int .i64 pi, .int .i64 pl] 42)
  simp only [World.size_alloc] at nb1
  have nb1 := (Below.heap_alloc ((w.alloc (.cells #[.int .i64 d, .int .i64 a, .int .i64 i, .int .i64 r, .int .i64 k] 40)).alloc (.cells #[.int .i64 pd, .int .i64 pa, .int .i64 pi, .int .i64 pl] 42)) (.cells #[.int .i64 0, .int .i64 0, .int .i64 0, .int .i64 0, .int .i64 0] 40) (w.heap.size + 1) (by simp only [World.size_alloc]; omega)).trans nb1
  have nz1 : w.heap.size + 1 < (((w.alloc (.cells #[.int .i64 d, .int .i64 a, .int .i64 i, .int .i64 r, .int .i64 k] 40)).alloc (.cells #[.int .i64 pd, .int .i64 pa, .int .i64 pi, .int .i64 pl] 42)).alloc (.cells #[.int .i64 0, .int .i64 0, .int .i64 0, .int .i64 0, .int .i64 0] 40)).heap.size := by simp only [World.size_alloc]; omega
  have nb2 := blk_new ((w.alloc (.cells #[.int .i64 d, .int .i64 a, .int .i64 i, .int .i64 r, .int .i64 k] 40)).alloc (.cells #[.int .i64 pd, .int .i64 pa, .int .i64 pi, .int .i64 pl] 42)) (.cells #[.int .i64 0, .int .i64 0, .int .i64 0, .int .i64 0, .int .i64 0] 40)
  simp only [World.size_alloc] at nb2
  have nz2 : w.heap.size + 2 < (((w.alloc (.cells #[.int .i64 d, .int .i64 a, .int .i64 i, .int .i64 r, .int .i64 k] 40)).alloc (.cells #[.int .i64 pd, .int .i64 pa, .int .i64 pi, .int .i64 pl] 42)).alloc (.cells #[.int .i64 0, .int .i64 0, .int .i64 0, .int .i64 0, .int .i64 0] 40)).heap.size := by simp only [World.size_alloc]; omega
  have q_1 := q_0.trans (b.mono q_0.size)
  clear q_0
  clear b
  have S_1 := Lib.hid nb0
  have Sz_1 := nz0
  clear nb0 nz0
  have Sc0_1 := blk_cell S_1.out 0
  have Sc1_1 := blk_cell S_1.out 1
  have Sc2_1 := blk_cell S_1.out 2
  have Sc3_1 := blk_cell S_1.out 3
  have Sc4_1 := blk_cell S_1.out 4
  have X_1 := Lib.hid nb1
  have Xz_1 := nz1
  clear nb1 nz1
  have Xc0_1 := blk_cell X_1.out 0
  have Xc1_1 := blk_cell X_1.out 1
  have Xc2_1 := blk_cell X_1.out 2
  have Xc3_1 := blk_cell X_1.out 3
  have R_1 := Lib.hid nb2
  have Rz_1 := nz2
  clear nb2 nz2
  have Rc0_1 := blk_cell R_1.out 0
  have Rc1_1 := blk_cell R_1.out 1
  have Rc2_1 := blk_cell R_1.out 2
  have Rc3_1 := blk_cell R_1.out 3
  have Rc4_1 := blk_cell R_1.out 4
  generalize (((w.alloc (.cells #[.int .i64 d, .int .i64 a, .int .i64 i, .int .i64 r, .int .i64 k] 40)).alloc (.cells #[.int .i64 pd, .int .i64 pa, .int .i64 pi, .int .i64 pl] 42)).alloc (.cells #[.int .i64 0, .int .i64 0, .int .i64 0, .int .i64 0, .int .i64 0] 40)) = V1 at q_1 S_1 Sz_1 Sc0_1 Sc1_1 Sc2_1 Sc3_1 Sc4_1 X_1 Xz_1 Xc0_1 Xc1_1 Xc2_1 Xc3_1 R_1 Rz_1 Rc0_1 Rc1_1 Rc2_1 Rc3_1 Rc4_1 ⊢
  have nsx : w.heap.size ≠ w.heap.size + 1 := by omega
  have nsr : w.heap.size ≠ w.heap.size + 1 + 1 := by omega
  have nxr : w.heap.size + 1 ≠ w.heap.size + 1 + 1 := by omega
  have nxs := nsx.symm
  have nrs := nsr.symm
  have nrx := nxr.symm
  refine (rrmay_yes d a i r k _ hS).mono ?_
  rintro e V2 ⟨rfl, b⟩
  have S_2 := Lib.hid ((b.block _ Sz_1).trans S_1.out)
  have Sz_2 := Nat.lt_of_lt_of_le Sz_1 b.size
  have Sc0_2 := blk_cell S_2.out 0
  have Sc1_2 := blk_cell S_2.out 1
  have Sc2_2 := blk_cell S_2.out 2
  have Sc3_2 := blk_cell S_2.out 3
  have Sc4_2 := blk_cell S_2.out 4
  have X_2 := Lib.hid ((b.block _ Xz_1).trans X_1.out)
  have Xz_2 := Nat.lt_of_lt_of_le Xz_1 b.size
  have Xc0_2 := blk_cell X_2.out 0
  have Xc1_2 := blk_cell X_2.out 1
  have Xc2_2 := blk_cell X_2.out 2
  have Xc3_2 := blk_cell X_2.out 3
  have R_2 := Lib.hid ((b.block _ Rz_1).trans R_1.out)
  have Rz_2 := Nat.lt_of_lt_of_le Rz_1 b.size
  have Rc0_2 := blk_cell R_2.out 0
  have Rc1_2 := blk_cell R_2.out 1
  have Rc2_2 := blk_cell R_2.out 2
  have Rc3_2 := blk_cell R_2.out 3
  have Rc4_2 := blk_cell R_2.out 4
  have q_2 := q_1.trans (b.mono q_1.size)
  clear S_1 Sz_1 Sc0_1 Sc1_1 Sc2_1 Sc3_1 Sc4_1 X_1 Xz_1 Xc0_1 Xc1_1 Xc2_1 Xc3_1 R_1 Rz_1 Rc0_1 Rc1_1 Rc2_1 Rc3_1 Rc4_1 q_1
  clear b
  have fR0 := blk_free R_2.out 0
  have fR1 := blk_free R_2.out 1
  have fR2 := blk_free R_2.out 2
  have fR3 := blk_free R_2.out 3
  have fR4 := blk_free R_2.out 4
  have QY := Lib.hid q_2
  clear S_2 X_2 R_2
  go_wp2_with (first | (go_at_call 23; refine (rin_any _ _ _ _).mono ?_; rintro e w' ⟨rfl, rfl⟩) | (go_at_call 26; refine (tick_any _ _).mono ?_; rintro e w' ⟨rfl, rfl⟩))
  all_goals
    first
    | (exfalso; have h2 := HB.out; simp_all; done)
    | (refine bodyPost_ret (v := .tuple #[.agg #[.int .i64 0, .int .i64 0, .int .i64 0, .int .i64 0, .int .i64 0], .int .i64 0, .bool false, .int .i64 4]) (by simp [results, Try.results18, go_sem, *]) rfl ⟨rfl, ?_⟩
       (repeat' (first | (with_reducible exact QY.out) | (with_reducible exact Below.refl _ _) | (with_reducible refine Below.alloc ?_ ?_ _) | (with_reducible refine Below.setCell ?_ ?_ _) | (with_reducible refine Below.drew ?_) | (with_reducible refine below_drewN ?_ _) | omega | (dsimp only; omega) | (simp; done) | (simp; omega))))

set_option maxRecDepth 100000 in
set_option maxHeartbeats 2000000 in
theorem rdeliver_mo (d a i r k pd pa pi pl n v D N O T : Int) (w : World) (hS : RV d a i r k) (hD : DV n v pd pa pi pl) (hDD : min (d + n) 1099511627776 = D) (hRR : min (r + 1) 1099511627776 = N) (hO : D - pd = O) (hT : max (pl - pi) (v - pa) = T) (hk : k ≤ pd) (h0 : O ≤ 0) :
    Calls Try.prog 18 #[.agg #[.int .i64 d, .int .i64 a, .int .i64 i, .int .i64 r, .int .i64 k], .agg #[.int .i64 pd, .int .i64 pa, .int .i64 pi, .int .i64 pl], .int .i64 n, .int .i64 v] w fun e w' => e = .returned (.tuple #[.agg #[.int .i64 D, .int .i64 v, .int .i64 pl, .int .i64 N, .int .i64 D], .int .i64 0, .bool false, .int .i64 0]) ∧ Below w.heap.size w w' := by
  have HS := Lib.hid hS
  obtain ⟨⟨d0, d1⟩, ⟨a0, a1⟩, ⟨i0, i1⟩, ⟨r0, r1⟩, k0, k1⟩ := hS
  obtain ⟨⟨n0, n1⟩, ⟨v0, v1⟩, ⟨pd0, pd1⟩, ⟨pa0, pa1⟩, ⟨pi0, pi1⟩, pl0, pl1⟩ := hD
  have tn := inb_true n0 n1
  have tv := inb_true v0 v1
  have tpd := inb_true pd0 pd1
  have tpa := inb_true pa0 pa1
  have tpi := inb_true pi0 pi1
  have tpl := inb_true pl0 pl1
  have D0 : 0 ≤ D ∧ D ≤ 1099511627776 := by omega
  obtain ⟨D0, D1⟩ := D0
  have HO := Lib.hid hO
  have HT := Lib.hid hT
  have HDD := Lib.hid hDD
  have HRR := Lib.hid hRR
  clear hO hT hRR
  have q_0 := Below.refl w.heap.size w
  go_enter Try.func18, Try.ntmps18
  go_wp2_with fail
  have b : Below w.heap.size w (((w.alloc (.cells #[.int .i64 d, .int .i64 a, .int .i64 i, .int .i64 r, .int .i64 k] 40)).alloc (.cells #[.int .i64 pd, .int .i64 pa, .int .i64 pi, .int .i64 pl] 42)).alloc (.cells #[.int .i64 0, .int .i64 0, .int .i64 0, .int .i64 0, .int .i64 0] 40)) := ((((Below.refl _ w).alloc (Nat.le_refl _) (.cells #[.int .i64 d, .int .i64 a, .int .i64 i, .int .i64 r, .int .i64 k] 40)).alloc (by simp only [World.size_alloc]; omega) (.cells #[.int .i64 pd, .int .i64 pa, .int .i64 pi, .int .i64 pl] 42)).alloc (by simp only [World.size_alloc]; omega) (.cells #[.int .i64 0, .int .i64 0, .int .i64 0, .int .i64 0, .int .i64 0] 40))
  have nb0 := blk_new w (.cells #[.int .i64 d, .int .i64 a, .int .i64 i, .int .i64 r, .int .i64 k] 40)
  have nb0 := (Below.heap_alloc (w.alloc (.cells #[.int .i64 d, .int .i64 a, .int .i64 i, .int .i64 r, .int .i64 k] 40)) (.cells #[.int .i64 pd, .int .i64 pa, .int .i64 pi, .int .i64 pl] 42) (w.heap.size) (by simp only [World.size_alloc]; omega)).trans nb0
  have nb0 := (Below.heap_alloc ((w.alloc (.cells #[.int .i64 d, .int .i64 a, .int .i64 i, .int .i64 r, .int .i64 k] 40)).alloc (.cells #[.int .i64 pd, .int .i64 pa, .int .i64 pi, .int .i64 pl] 42)) (.cells #[.int .i64 0, .int .i64 0, .int .i64 0, .int .i64 0, .int .i64 0] 40) (w.heap.size) (by simp only [World.size_alloc]; omega)).trans nb0
  have nz0 : w.heap.size < (((w.alloc (.cells #[.int .i64 d, .int .i64 a, .int .i64 i, .int .i64 r, .int .i64 k] 40)).alloc (.cells #[.int .i64 pd, .int .i64 pa, .int .i64 pi, .int .i64 pl] 42)).alloc (.cells #[.int .i64 0, .int .i64 0, .int .i64 0, .int .i64 0, .int .i64 0] 40)).heap.size := by simp only [World.size_alloc]; omega
  have nb1 := blk_new (w.alloc (.cells #[.int .i64 d, .int .i64 a, .int .i64 i, .int .i64 r, .int .i64 k] 40)) (.cells #[.int .i64 pd, .int .i64 pa, .int .i64 pi, .int .i64 pl] 42)
  simp only [World.size_alloc] at nb1
  have nb1 := (Below.heap_alloc ((w.alloc (.cells #[.int .i64 d, .int .i64 a, .int .i64 i, .int .i64 r, .int .i64 k] 40)).alloc (.cells #[.int .i64 pd, .int .i64 pa, .int .i64 pi, .int .i64 pl] 42)) (.cells #[.int .i64 0, .int .i64 0, .int .i64 0, .int .i64 0, .int .i64 0] 40) (w.heap.size + 1) (by simp only [World.size_alloc]; omega)).trans nb1
  have nz1 : w.heap.size + 1 < (((w.alloc (.cells #[.int .i64 d, .int .i64 a, .int .i64 i, .int .i64 r, .int .i64 k] 40)).alloc (.cells #[.int .i64 pd, .int .i64 pa, .int .i64 pi, .int .i64 pl] 42)).alloc (.cells #[.int .i64 0, .int .i64 0, .int .i64 0, .int .i64 0, .int .i64 0] 40)).heap.size := by simp only [World.size_alloc]; omega
  have nb2 := blk_new ((w.alloc (.cells #[.int .i64 d, .int .i64 a, .int .i64 i, .int .i64 r, .int .i64 k] 40)).alloc (.cells #[.int .i64 pd, .int .i64 pa, .int .i64 pi, .int .i64 pl] 42)) (.cells #[.int .i64 0, .int .i64 0, .int .i64 0, .int .i64 0, .int .i64 0] 40)
  simp only [World.size_alloc] at nb2
  have nz2 : w.heap.size + 2 < (((w.alloc (.cells #[.int .i64 d, .int .i64 a, .int .i64 i, .int .i64 r, .int .i64 k] 40)).alloc (.cells #[.int .i64 pd, .int .i64 pa, .int .i64 pi, .int .i64 pl] 42)).alloc (.cells #[.int .i64 0, .int .i64 0, .int .i64 0, .int .i64 0, .int .i64 0] 40)).heap.size := by simp only [World.size_alloc]; omega
  have q_1 := q_0.trans (b.mono q_0.size)
  clear q_0
  clear b
  have S_1 := Lib.hid nb0
  have Sz_1 := nz0
  clear nb0 nz0
  have Sc0_1 := blk_cell S_1.out 0
  have Sc1_1 := blk_cell S_1.out 1
  have Sc2_1 := blk_cell S_1.out 2
  have Sc3_1 := blk_cell S_1.out 3
  have Sc4_1 := blk_cell S_1.out 4
  have X_1 := Lib.hid nb1
  have Xz_1 := nz1
  clear nb1 nz1
  have Xc0_1 := blk_cell X_1.out 0
  have Xc1_1 := blk_cell X_1.out 1
  have Xc2_1 := blk_cell X_1.out 2
  have Xc3_1 := blk_cell X_1.out 3
  have R_1 := Lib.hid nb2
  have Rz_1 := nz2
  clear nb2 nz2
  have Rc0_1 := blk_cell R_1.out 0
  have Rc1_1 := blk_cell R_1.out 1
  have Rc2_1 := blk_cell R_1.out 2
  have Rc3_1 := blk_cell R_1.out 3
  have Rc4_1 := blk_cell R_1.out 4
  generalize (((w.alloc (.cells #[.int .i64 d, .int .i64 a, .int .i64 i, .int .i64 r, .int .i64 k] 40)).alloc (.cells #[.int .i64 pd, .int .i64 pa, .int .i64 pi, .int .i64 pl] 42)).alloc (.cells #[.int .i64 0, .int .i64 0, .int .i64 0, .int .i64 0, .int .i64 0] 40)) = V1 at q_1 S_1 Sz_1 Sc0_1 Sc1_1 Sc2_1 Sc3_1 Sc4_1 X_1 Xz_1 Xc0_1 Xc1_1 Xc2_1 Xc3_1 R_1 Rz_1 Rc0_1 Rc1_1 Rc2_1 Rc3_1 Rc4_1 ⊢
  have nsx : w.heap.size ≠ w.heap.size + 1 := by omega
  have nsr : w.heap.size ≠ w.heap.size + 1 + 1 := by omega
  have nxr : w.heap.size + 1 ≠ w.heap.size + 1 + 1 := by omega
  have nxs := nsx.symm
  have nrs := nsr.symm
  have nrx := nxr.symm
  refine (rrmay_yes d a i r k _ HS.out).mono ?_
  rintro e V2 ⟨rfl, b⟩
  have S_2 := Lib.hid ((b.block _ Sz_1).trans S_1.out)
  have Sz_2 := Nat.lt_of_lt_of_le Sz_1 b.size
  have Sc0_2 := blk_cell S_2.out 0
  have Sc1_2 := blk_cell S_2.out 1
  have Sc2_2 := blk_cell S_2.out 2
  have Sc3_2 := blk_cell S_2.out 3
  have Sc4_2 := blk_cell S_2.out 4
  have X_2 := Lib.hid ((b.block _ Xz_1).trans X_1.out)
  have Xz_2 := Nat.lt_of_lt_of_le Xz_1 b.size
  have Xc0_2 := blk_cell X_2.out 0
  have Xc1_2 := blk_cell X_2.out 1
  have Xc2_2 := blk_cell X_2.out 2
  have Xc3_2 := blk_cell X_2.out 3
  have R_2 := Lib.hid ((b.block _ Rz_1).trans R_1.out)
  have Rz_2 := Nat.lt_of_lt_of_le Rz_1 b.size
  have Rc0_2 := blk_cell R_2.out 0
  have Rc1_2 := blk_cell R_2.out 1
  have Rc2_2 := blk_cell R_2.out 2
  have Rc3_2 := blk_cell R_2.out 3
  have Rc4_2 := blk_cell R_2.out 4
  have q_2 := q_1.trans (b.mono q_1.size)
  clear S_1 Sz_1 Sc0_1 Sc1_1 Sc2_1 Sc3_1 Sc4_1 X_1 Xz_1 Xc0_1 Xc1_1 Xc2_1 Xc3_1 R_1 Rz_1 Rc0_1 Rc1_1 Rc2_1 Rc3_1 Rc4_1 q_1
  clear b
  have fS0 := blk_free S_2.out 0
  have fS1 := blk_free S_2.out 1
  have fS2 := blk_free S_2.out 2
  have fS3 := blk_free S_2.out 3
  have fS4 := blk_free S_2.out 4
  have fR0 := blk_free R_2.out 0
  have fR1 := blk_free R_2.out 1
  have fR2 := blk_free R_2.out 2
  have fR3 := blk_free R_2.out 3
  have fR4 := blk_free R_2.out 4
  have hRR := HRR.out
  go_wp2_with (first | (go_at_call 23; refine (rin_any _ _ _ _).mono ?_; rintro e w' ⟨rfl, rfl⟩) | (go_at_call 26; refine (tick_any _ _).mono ?_; rintro e w' ⟨rfl, rfl⟩))
  clear fS0 fS1 fS2 fS3 fS4 fR0 fR1 fR2 fR3 fR4
  clear Sc0_2 Sc1_2 Sc2_2 Sc3_2 Sc4_2 Xc0_2 Xc1_2 Xc2_2 Xc3_2 Rc0_2 Rc1_2 Rc2_2 Rc3_2 Rc4_2
  have st0 : Hid ((V2.setCell ⟨w.heap.size, 0, none⟩ (.int .i64 D)).heap[w.heap.size]? = some (.cells #[.int .i64 D, .int .i64 a, .int .i64 i, .int .i64 r, .int .i64 k] 40 (0, 0))) := Lib.hid (blk_set S_2.out 0 (.int .i64 D))
  have S_3 : Hid ((V2.setCell ⟨w.heap.size, 0, none⟩ (.int .i64 D)).heap[w.heap.size]? = some (.cells #[.int .i64 D, .int .i64 a, .int .i64 i, .int .i64 r, .int .i64 k] 40 (0, 0))) := Lib.hid (st0.out)
  have X_3 : Hid ((V2.setCell ⟨w.heap.size, 0, none⟩ (.int .i64 D)).heap[w.heap.size + 1]? = some (.cells #[.int .i64 pd, .int .i64 pa, .int .i64 pi, .int .i64 pl] 42 (0, 0))) := Lib.hid ((blk_other (i := 0) X_2.out (by first | assumption | omega) (.int .i64 D)))
  have R_3 : Hid ((V2.setCell ⟨w.heap.size, 0, none⟩ (.int .i64 D)).heap[w.heap.size + 1 + 1]? = some (.cells #[.int .i64 0, .int .i64 0, .int .i64 0, .int .i64 0, .int .i64 0] 40 (0, 0))) := Lib.hid ((blk_other (i := 0) R_2.out (by first | assumption | omega) (.int .i64 D)))
  have q_3 : Below w.heap.size w (V2.setCell ⟨w.heap.size, 0, none⟩ (.int .i64 D)) := (q_2.setCell (p := ⟨w.heap.size, 0, none⟩) (by first | exact Nat.le_refl _ | omega) (.int .i64 D))
  clear q_2 S_2 Sz_2 X_2 Xz_2 R_2 Rz_2 st0
  generalize (V2.setCell ⟨w.heap.size, 0, none⟩ (.int .i64 D)) = Y0 at q_3 S_3 X_3 R_3 ⊢
  have Sz_3 := blk_lt S_3.out
  have Sc0_3 := blk_cell S_3.out 0
  have Sc1_3 := blk_cell S_3.out 1
  have Sc2_3 := blk_cell S_3.out 2
  have Sc3_3 := blk_cell S_3.out 3
  have Sc4_3 := blk_cell S_3.out 4
  have Xz_3 := blk_lt X_3.out
  have Xc0_3 := blk_cell X_3.out 0
  have Xc1_3 := blk_cell X_3.out 1
  have Xc2_3 := blk_cell X_3.out 2
  have Xc3_3 := blk_cell X_3.out 3
  have Rz_3 := blk_lt R_3.out
  have Rc0_3 := blk_cell R_3.out 0
  have Rc1_3 := blk_cell R_3.out 1
  have Rc2_3 := blk_cell R_3.out 2
  have Rc3_3 := blk_cell R_3.out 3
  have Rc4_3 := blk_cell R_3.out 4
  have fS0 := blk_free S_3.out 0
  have fS1 := blk_free S_3.out 1
  have fS2 := blk_free S_3.out 2
  have fS3 := blk_free S_3.out 3
  have fS4 := blk_free S_3.out 4
  go_cut [] (fun (wx : World) => wx.heap[w.heap.size]? = some (.cells #[.int .i64 D, .int .i64 v, .int .i64 pl, .int .i64 r, .int .i64 k] 40 (0, 0)) ∧ wx.heap[w.heap.size + 1]? = some (.cells #[.int .i64 pd, .int .i64 pa, .int .i64 pi, .int .i64 pl] 42 (0, 0)) ∧ wx.heap[w.heap.size + 1 + 1]? = some (.cells #[.int .i64 0, .int .i64 0, .int .i64 0, .int .i64 0, .int .i64 0] 40 (0, 0)) ∧ Below w.heap.size w wx)
  case first =>
    go_region
    all_goals
      go_wp2_with fail
      go_meet
      exact ⟨blk_drew (blk_set (blk_set S_3.out 1 (.int .i64 v)) 2 (.int .i64 pl)), blk_drew (blk_other (i := 2) (blk_other (i := 1) X_3.out nsx (.int .i64 v)) nsx (.int .i64 pl)), blk_drew (blk_other (i := 2) (blk_other (i := 1) R_3.out nsr (.int .i64 v)) nsr (.int .i64 pl)), ((q_3.setCell (p := ⟨w.heap.size, 1, none⟩) (Nat.le_refl _) (.int .i64 v)).setCell (p := ⟨w.heap.size, 2, none⟩) (Nat.le_refl _) (.int .i64 pl)).drew⟩
  case rest =>
    obtain ⟨kS, kX, kR, kq⟩ := hcut
    clear S_3 X_3 R_3 q_3 Sc0_3 Sc1_3 Sc2_3 Sc3_3 Sc4_3 Xc0_3 Xc1_3 Xc2_3 Xc3_3 Rc0_3 Rc1_3 Rc2_3 Rc3_3 Rc4_3
    clear fS0 fS1 fS2 fS3 fS4
    have q_0 := kq
    have Sz_0 := blk_lt kS
    have Xz_0 := blk_lt kX
    have Rz_0 := blk_lt kR
    have S_0 := Lib.hid (kS)
    have Sc0_0 := blk_cell S_0.out 0
    have Sc1_0 := blk_cell S_0.out 1
    have Sc2_0 := blk_cell S_0.out 2
    have Sc3_0 := blk_cell S_0.out 3
    have Sc4_0 := blk_cell S_0.out 4
    have X_0 := Lib.hid (kX)
    have Xc0_0 := blk_cell X_0.out 0
    have Xc1_0 := blk_cell X_0.out 1
    have Xc2_0 := blk_cell X_0.out 2
    have Xc3_0 := blk_cell X_0.out 3
    have R_0 := Lib.hid (kR)
    have Rc0_0 := blk_cell R_0.out 0
    have Rc1_0 := blk_cell R_0.out 1
    have Rc2_0 := blk_cell R_0.out 2
    have Rc3_0 := blk_cell R_0.out 3
    have Rc4_0 := blk_cell R_0.out 4
    clear kS kX kR kq
    have fS0 := blk_free S_0.out 0
    have fS1 := blk_free S_0.out 1
    have fS2 := blk_free S_0.out 2
    have fS3 := blk_free S_0.out 3
    have fS4 := blk_free S_0.out 4
    go_wp2_with fail
    clear fS0 fS1 fS2 fS3 fS4
    clear Sc0_0 Sc1_0 Sc2_0 Sc3_0 Sc4_0 Xc0_0 Xc1_0 Xc2_0 Xc3_0 Rc0_0 Rc1_0 Rc2_0 Rc3_0 Rc4_0
    have st0 : Hid ((wc.setCell ⟨w.heap.size, 3, none⟩ (.int .i64 N)).heap[w.heap.size]? = some (.cells #[.int .i64 D, .int .i64 v, .int .i64 pl, .int .i64 N, .int .i64 k] 40 (0, 0))) := Lib.hid (blk_set S_0.out 3 (.int .i64 N))
    have st1 : Hid (((wc.setCell ⟨w.heap.size, 3, none⟩ (.int .i64 N)).setCell ⟨w.heap.size, 4, none⟩ (.int .i64 D)).heap[w.heap.size]? = some (.cells #[.int .i64 D, .int .i64 v, .int .i64 pl, .int .i64 N, .int .i64 D] 40 (0, 0))) := Lib.hid (blk_set st0.out 4 (.int .i64 D))
    have S_1 : Hid (((wc.setCell ⟨w.heap.size, 3, none⟩ (.int .i64 N)).setCell ⟨w.heap.size, 4, none⟩ (.int .i64 D)).heap[w.heap.size]? = some (.cells #[.int .i64 D, .int .i64 v, .int .i64 pl, .int .i64 N, .int .i64 D] 40 (0, 0))) := Lib.hid (st1.out)
    have X_1 : Hid (((wc.setCell ⟨w.heap.size, 3, none⟩ (.int .i64 N)).setCell ⟨w.heap.size, 4, none⟩ (.int .i64 D)).heap[w.heap.size + 1]? = some (.cells #[.int .i64 pd, .int .i64 pa, .int .i64 pi, .int .i64 pl] 42 (0, 0))) := Lib.hid ((blk_other (i := 4) (blk_other (i := 3) X_0.out (by first | assumption | omega) (.int .i64 N)) (by first | assumption | omega) (.int .i64 D)))
    have R_1 : Hid (((wc.setCell ⟨w.heap.size, 3, none⟩ (.int .i64 N)).setCell ⟨w.heap.size, 4, none⟩ (.int .i64 D)).heap[w.heap.size + 1 + 1]? = some (.cells #[.int .i64 0, .int .i64 0, .int .i64 0, .int .i64 0, .int .i64 0] 40 (0, 0))) := Lib.hid ((blk_other (i := 4) (blk_other (i := 3) R_0.out (by first | assumption | omega) (.int .i64 N)) (by first | assumption | omega) (.int .i64 D)))
    have q_1 : Below w.heap.size w ((wc.setCell ⟨w.heap.size, 3, none⟩ (.int .i64 N)).setCell ⟨w.heap.size, 4, none⟩ (.int .i64 D)) := ((q_0.setCell (p := ⟨w.heap.size, 3, none⟩) (by first | exact Nat.le_refl _ | omega) (.int .i64 N)).setCell (p := ⟨w.heap.size, 4, none⟩) (by first | exact Nat.le_refl _ | omega) (.int .i64 D))
    clear q_0 S_0 Sz_0 X_0 Xz_0 R_0 Rz_0 st0 st1
    generalize ((wc.setCell ⟨w.heap.size, 3, none⟩ (.int .i64 N)).setCell ⟨w.heap.size, 4, none⟩ (.int .i64 D)) = Y1 at q_1 S_1 X_1 R_1 ⊢
    have Sz_1 := blk_lt S_1.out
    have Sc0_1 := blk_cell S_1.out 0
    have Sc1_1 := blk_cell S_1.out 1
    have Sc2_1 := blk_cell S_1.out 2
    have Sc3_1 := blk_cell S_1.out 3
    have Sc4_1 := blk_cell S_1.out 4
    have Xz_1 := blk_lt X_1.out
    have Xc0_1 := blk_cell X_1.out 0
    have Xc1_1 := blk_cell X_1.out 1
    have Xc2_1 := blk_cell X_1.out 2
    have Xc3_1 := blk_cell X_1.out 3
    have Rz_1 := blk_lt R_1.out
    have Rc0_1 := blk_cell R_1.out 0
    have Rc1_1 := blk_cell R_1.out 1
    have Rc2_1 := blk_cell R_1.out 2
    have Rc3_1 := blk_cell R_1.out 3
    have Rc4_1 := blk_cell R_1.out 4
    have hO := HO.out
    have hT := HT.out
    go_quiet (fail)
    clear Sc0_1 Sc1_1 Sc2_1 Sc3_1 Sc4_1 Xc0_1 Xc1_1 Xc2_1 Xc3_1 Rc0_1 Rc1_1 Rc2_1 Rc3_1 Rc4_1
    have S_2 : Hid ((Y1.drewN nq).heap[w.heap.size]? = some (.cells #[.int .i64 D, .int .i64 v, .int .i64 pl, .int .i64 N, .int .i64 D] 40 (0, 0))) := Lib.hid (blk_drewN S_1.out nq)
    have X_2 : Hid ((Y1.drewN nq).heap[w.heap.size + 1]? = some (.cells #[.int .i64 pd, .int .i64 pa, .int .i64 pi, .int .i64 pl] 42 (0, 0))) := Lib.hid (blk_drewN X_1.out nq)
    have R_2 : Hid ((Y1.drewN nq).heap[w.heap.size + 1 + 1]? = some (.cells #[.int .i64 0, .int .i64 0, .int .i64 0, .int .i64 0, .int .i64 0] 40 (0, 0))) := Lib.hid (blk_drewN R_1.out nq)
    have q_2 := below_drewN q_1 nq
    clear q_1 S_1 Sz_1 X_1 Xz_1 R_1 Rz_1
    generalize Y1.drewN nq = Y2 at q_2 S_2 X_2 R_2 ⊢
    have Sz_2 := blk_lt S_2.out
    have Sc0_2 := blk_cell S_2.out 0
    have Sc1_2 := blk_cell S_2.out 1
    have Sc2_2 := blk_cell S_2.out 2
    have Sc3_2 := blk_cell S_2.out 3
    have Sc4_2 := blk_cell S_2.out 4
    have Xz_2 := blk_lt X_2.out
    have Xc0_2 := blk_cell X_2.out 0
    have Xc1_2 := blk_cell X_2.out 1
    have Xc2_2 := blk_cell X_2.out 2
    have Xc3_2 := blk_cell X_2.out 3
    have Rz_2 := blk_lt R_2.out
    have Rc0_2 := blk_cell R_2.out 0
    have Rc1_2 := blk_cell R_2.out 1
    have Rc2_2 := blk_cell R_2.out 2
    have Rc3_2 := blk_cell R_2.out 3
    have Rc4_2 := blk_cell R_2.out 4
    clear hO hT HO HT
    have fS0 := blk_free S_2.out 0
    have fS1 := blk_free S_2.out 1
    have fS2 := blk_free S_2.out 2
    have fS3 := blk_free S_2.out 3
    have fS4 := blk_free S_2.out 4
    have fR0 := blk_free R_2.out 0
    have fR1 := blk_free R_2.out 1
    have fR2 := blk_free R_2.out 2
    have fR3 := blk_free R_2.out 3
    have fR4 := blk_free R_2.out 4
    have QY := Lib.hid q_2
    clear S_2 X_2 R_2
    go_wp2
    refine bodyPost_ret (v := .tuple #[.agg #[.int .i64 D, .int .i64 v, .int .i64 pl, .int .i64 N, .int .i64 D], .int .i64 0, .bool false, .int .i64 0]) (by simp [results, Try.results18, go_sem, *]) rfl ⟨rfl, ?_⟩
    (repeat' (first | (with_reducible exact QY.out) | (with_reducible exact Below.refl _ _) | (with_reducible refine Below.alloc ?_ ?_ _) | (with_reducible refine Below.setCell ?_ ?_ _) | (with_reducible refine Below.drew ?_) | (with_reducible refine below_drewN ?_ _) | omega | (dsimp only; omega) | (simp; done) | (simp; omega)))

set_option maxRecDepth 100000 in
set_option maxHeartbeats 2000000 in
theorem rdeliver_mt (d a i r k pd pa pi pl n v D N O T : Int) (w : World) (hS : RV d a i r k) (hD : DV n v pd pa pi pl) (hDD : min (d + n) 1099511627776 = D) (hRR : min (r + 1) 1099511627776 = N) (hO : D - pd = O) (hT : max (pl - pi) (v - pa) = T) (hk : k ≤ pd) (h0 : 0 < O) (h1 : T ≤ 0) :
    Calls Try.prog 18 #[.agg #[.int .i64 d, .int .i64 a, .int .i64 i, .int .i64 r, .int .i64 k], .agg #[.int .i64 pd, .int .i64 pa, .int .i64 pi, .int .i64 pl], .int .i64 n, .int .i64 v] w fun e w' => e = .returned (.tuple #[.agg #[.int .i64 D, .int .i64 v, .int .i64 pl, .int .i64 N, .int .i64 D], .int .i64 0, .bool false, .int .i64 0]) ∧ Below w.heap.size w w' := by
  have HS := Lib.hid hS
  obtain ⟨⟨d0, d1⟩, ⟨a0, a1⟩, ⟨i0, i1⟩, ⟨r0, r1⟩, k0, k1⟩ := hS
  obtain ⟨⟨n0, n1⟩, ⟨v0, v1⟩, ⟨pd0, pd1⟩, ⟨pa0, pa1⟩, ⟨pi0, pi1⟩, pl0, pl1⟩ := hD
  have tn := inb_true n0 n1
  have tv := inb_true v0 v1
  have tpd := inb_true pd0 pd1
  have tpa := inb_true pa0 pa1
  have tpi := inb_true pi0 pi1
  have tpl := inb_true pl0 pl1
  have D0 : 0 ≤ D ∧ D ≤ 1099511627776 := by omega
  obtain ⟨D0, D1⟩ := D0
  have HO := Lib.hid hO
  have HT := Lib.hid hT
  have HDD := Lib.hid hDD
  have HRR := Lib.hid hRR
  clear hO hT hRR
  have q_0 := Below.refl w.heap.size w
  go_enter Try.func18, Try.ntmps18
  go_wp2_with fail
  have b : Below w.heap.size w (((w.alloc (.cells #[.int .i64 d, .int .i64 a, .int .i64 i, .int .i64 r, .int .i64 k] 40)).alloc (.cells #[.int .i64 pd, .int .i64 pa, .int .i64 pi, .int .i64 pl] 42)).alloc (.cells #[.int .i64 0, .int .i64 0, .int .i64 0, .int .i64 0, .int .i64 0] 40)) := ((((Below.refl _ w).alloc (Nat.le_refl _) (.cells #[.int .i64 d, .int .i64 a, .int .i64 i, .int .i64 r, .int .i64 k] 40)).alloc (by simp only [World.size_alloc]; omega) (.cells #[.int .i64 pd, .int .i64 pa, .int .i64 pi, .int .i64 pl] 42)).alloc (by simp only [World.size_alloc]; omega) (.cells #[.int .i64 0, .int .i64 0, .int .i64 0, .int .i64 0, .int .i64 0] 40))
  have nb0 := blk_new w (.cells #[.int .i64 d, .int .i64 a, .int .i64 i, .int .i64 r, .int .i64 k] 40)
  have nb0 := (Below.heap_alloc (w.alloc (.cells #[.int .i64 d, .int .i64 a, .int .i64 i, .int .i64 r, .int .i64 k] 40)) (.cells #[.int .i64 pd, .int .i64 pa, .int .i64 pi, .int .i64 pl] 42) (w.heap.size) (by simp only [World.size_alloc]; omega)).trans nb0
  have nb0 := (Below.heap_alloc ((w.alloc (.cells #[.int .i64 d, .int .i64 a, .int .i64 i, .int .i64 r, .int .i64 k] 40)).alloc (.cells #[.int .i64 pd, .int .i64 pa, .int .i64 pi, .int .i64 pl] 42)) (.cells #[.int .i64 0, .int .i64 0, .int .i64 0, .int .i64 0, .int .i64 0] 40) (w.heap.size) (by simp only [World.size_alloc]; omega)).trans nb0
  have nz0 : w.heap.size < (((w.alloc (.cells #[.int .i64 d, .int .i64 a, .int .i64 i, .int .i64 r, .int .i64 k] 40)).alloc (.cells #[.int .i64 pd, .int .i64 pa, .int .i64 pi, .int .i64 pl] 42)).alloc (.cells #[.int .i64 0, .int .i64 0, .int .i64 0, .int .i64 0, .int .i64 0] 40)).heap.size := by simp only [World.size_alloc]; omega
  have nb1 := blk_new (w.alloc (.cells #[.int .i64 d, .int .i64 a, .int .i64 i, .int .i64 r, .int .i64 k] 40)) (.cells #[.int .i64 pd, .int .i64 pa, .int .i64 pi, .int .i64 pl] 42)
  simp only [World.size_alloc] at nb1
  have nb1 := (Below.heap_alloc ((w.alloc (.cells #[.int .i64 d, .int .i64 a, .int .i64 i, .int .i64 r, .int .i64 k] 40)).alloc (.cells #[.int .i64 pd, .int .i64 pa, .int .i64 pi, .int .i64 pl] 42)) (.cells #[.int .i64 0, .int .i64 0, .int .i64 0, .int .i64 0, .int .i64 0] 40) (w.heap.size + 1) (by simp only [World.size_alloc]; omega)).trans nb1
  have nz1 : w.heap.size + 1 < (((w.alloc (.cells #[.int .i64 d, .int .i64 a, .int .i64 i, .int .i64 r, .int .i64 k] 40)).alloc (.cells #[.int .i64 pd, .int .i64 pa, .int .i64 pi, .int .i64 pl] 42)).alloc (.cells #[.int .i64 0, .int .i64 0, .int .i64 0, .int .i64 0, .int .i64 0] 40)).heap.size := by simp only [World.size_alloc]; omega
  have nb2 := blk_new ((w.alloc (.cells #[.int .i64 d, .int .i64 a, .int .i64 i, .int .i64 r, .int .i64 k] 40)).alloc (.cells #[.int .i64 pd, .int .i64 pa, .int .i64 pi, .int .i64 pl] 42)) (.cells #[.int .i64 0, .int .i64 0, .int .i64 0, .int .i64 0, .int .i64 0] 40)
  simp only [World.size_alloc] at nb2
  have nz2 : w.heap.size + 2 < (((w.alloc (.cells #[.int .i64 d, .int .i64 a, .int .i64 i, .int .i64 r, .int .i64 k] 40)).alloc (.cells #[.int .i64 pd, .int .i64 pa, .int .i64 pi, .int .i64 pl] 42)).alloc (.cells #[.int .i64 0, .int .i64 0, .int .i64 0, .int .i64 0, .int .i64 0] 40)).heap.size := by simp only [World.size_alloc]; omega
  have q_1 := q_0.trans (b.mono q_0.size)
  clear q_0
  clear b
  have S_1 := Lib.hid nb0
  have Sz_1 := nz0
  clear nb0 nz0
  have Sc0_1 := blk_cell S_1.out 0
  have Sc1_1 := blk_cell S_1.out 1
  have Sc2_1 := blk_cell S_1.out 2
  have Sc3_1 := blk_cell S_1.out 3
  have Sc4_1 := blk_cell S_1.out 4
  have X_1 := Lib.hid nb1
  have Xz_1 := nz1
  clear nb1 nz1
  have Xc0_1 := blk_cell X_1.out 0
  have Xc1_1 := blk_cell X_1.out 1
  have Xc2_1 := blk_cell X_1.out 2
  have Xc3_1 := blk_cell X_1.out 3
  have R_1 := Lib.hid nb2
  have Rz_1 := nz2
  clear nb2 nz2
  have Rc0_1 := blk_cell R_1.out 0
  have Rc1_1 := blk_cell R_1.out 1
  have Rc2_1 := blk_cell R_1.out 2
  have Rc3_1 := blk_cell R_1.out 3
  have Rc4_1 := blk_cell R_1.out 4
  generalize (((w.alloc (.cells #[.int .i64 d, .int .i64 a, .int .i64 i, .int .i64 r, .int .i64 k] 40)).alloc (.cells #[.int .i64 pd, .int .i64 pa, .int .i64 pi, .int .i64 pl] 42)).alloc (.cells #[.int .i64 0, .int .i64 0, .int .i64 0, .int .i64 0, .int .i64 0] 40)) = V1 at q_1 S_1 Sz_1 Sc0_1 Sc1_1 Sc2_1 Sc3_1 Sc4_1 X_1 Xz_1 Xc0_1 Xc1_1 Xc2_1 Xc3_1 R_1 Rz_1 Rc0_1 Rc1_1 Rc2_1 Rc3_1 Rc4_1 ⊢
  have nsx : w.heap.size ≠ w.heap.size + 1 := by omega
  have nsr : w.heap.size ≠ w.heap.size + 1 + 1 := by omega
  have nxr : w.heap.size + 1 ≠ w.heap.size + 1 + 1 := by omega
  have nxs := nsx.symm
  have nrs := nsr.symm
  have nrx := nxr.symm
  refine (rrmay_yes d a i r k _ HS.out).mono ?_
  rintro e V2 ⟨rfl, b⟩
  have S_2 := Lib.hid ((b.block _ Sz_1).trans S_1.out)
  have Sz_2 := Nat.lt_of_lt_of_le Sz_1 b.size
  have Sc0_2 := blk_cell S_2.out 0
  have Sc1_2 := blk_cell S_2.out 1
  have Sc2_2 := blk_cell S_2.out 2
  have Sc3_2 := blk_cell S_2.out 3
  have Sc4_2 := blk_cell S_2.out 4
  have X_2 := Lib.hid ((b.block _ Xz_1).trans X_1.out)
  have Xz_2 := Nat.lt_of_lt_of_le Xz_1 b.size
  have Xc0_2 := blk_cell X_2.out 0
  have Xc1_2 := blk_cell X_2.out 1
  have Xc2_2 := blk_cell X_2.out 2
  have Xc3_2 := blk_cell X_2.out 3
  have R_2 := Lib.hid ((b.block _ Rz_1).trans R_1.out)
  have Rz_2 := Nat.lt_of_lt_of_le Rz_1 b.size
  have Rc0_2 := blk_cell R_2.out 0
  have Rc1_2 := blk_cell R_2.out 1
  have Rc2_2 := blk_cell R_2.out 2
  have Rc3_2 := blk_cell R_2.out 3
  have Rc4_2 := blk_cell R_2.out 4
  have q_2 := q_1.trans (b.mono q_1.size)
  clear S_1 Sz_1 Sc0_1 Sc1_1 Sc2_1 Sc3_1 Sc4_1 X_1 Xz_1 Xc0_1 Xc1_1 Xc2_1 Xc3_1 R_1 Rz_1 Rc0_1 Rc1_1 Rc2_1 Rc3_1 Rc4_1 q_1
  clear b
  have fS0 := blk_free S_2.out 0
  have fS1 := blk_free S_2.out 1
  have fS2 := blk_free S_2.out 2
  have fS3 := blk_free S_2.out 3
  have fS4 := blk_free S_2.out 4
  have fR0 := blk_free R_2.out 0
  have fR1 := blk_free R_2.out 1
  have fR2 := blk_free R_2.out 2
  have fR3 := blk_free R_2.out 3
  have fR4 := blk_free R_2.out 4
  have hRR := HRR.out
  go_wp2_with (first | (go_at_call 23; refine (rin_any _ _ _ _).mono ?_; rintro e w' ⟨rfl, rfl⟩) | (go_at_call 26; refine (tick_any _ _).mono ?_; rintro e w' ⟨rfl, rfl⟩))
  clear fS0 fS1 fS2 fS3 fS4 fR0 fR1 fR2 fR3 fR4
  clear Sc0_2 Sc1_2 Sc2_2 Sc3_2 Sc4_2 Xc0_2 Xc1_2 Xc2_2 Xc3_2 Rc0_2 Rc1_2 Rc2_2 Rc3_2 Rc4_2
  have st0 : Hid ((V2.setCell ⟨w.heap.size, 0, none⟩ (.int .i64 D)).heap[w.heap.size]? = some (.cells #[.int .i64 D, .int .i64 a, .int .i64 i, .int .i64 r, .int .i64 k] 40 (0, 0))) := Lib.hid (blk_set S_2.out 0 (.int .i64 D))
  have S_3 : Hid ((V2.setCell ⟨w.heap.size, 0, none⟩ (.int .i64 D)).heap[w.heap.size]? = some (.cells #[.int .i64 D, .int .i64 a, .int .i64 i, .int .i64 r, .int .i64 k] 40 (0, 0))) := Lib.hid (st0.out)
  have X_3 : Hid ((V2.setCell ⟨w.heap.size, 0, none⟩ (.int .i64 D)).heap[w.heap.size + 1]? = some (.cells #[.int .i64 pd, .int .i64 pa, .int .i64 pi, .int .i64 pl] 42 (0, 0))) := Lib.hid ((blk_other (i := 0) X_2.out (by first | assumption | omega) (.int .i64 D)))
  have R_3 : Hid ((V2.setCell ⟨w.heap.size, 0, none⟩ (.int .i64 D)).heap[w.heap.size + 1 + 1]? = some (.cells #[.int .i64 0, .int .i64 0, .int .i64 0, .int .i64 0, .int .i64 0] 40 (0, 0))) := Lib.hid ((blk_other (i := 0) R_2.out (by first | assumption | omega) (.int .i64 D)))
  have q_3 : Below w.heap.size w (V2.setCell ⟨w.heap.size, 0, none⟩ (.int .i64 D)) := (q_2.setCell (p := ⟨w.heap.size, 0, none⟩) (by first | exact Nat.le_refl _ | omega) (.int .i64 D))
  clear q_2 S_2 Sz_2 X_2 Xz_2 R_2 Rz_2 st0
  generalize (V2.setCell ⟨w.heap.size, 0, none⟩ (.int .i64 D)) = Y0 at q_3 S_3 X_3 R_3 ⊢
  have Sz_3 := blk_lt S_3.out
  have Sc0_3 := blk_cell S_3.out 0
  have Sc1_3 := blk_cell S_3.out 1
  have Sc2_3 := blk_cell S_3.out 2
  have Sc3_3 := blk_cell S_3.out 3
  have Sc4_3 := blk_cell S_3.out 4
  have Xz_3 := blk_lt X_3.out
  have Xc0_3 := blk_cell X_3.out 0
  have Xc1_3 := blk_cell X_3.out 1
  have Xc2_3 := blk_cell X_3.out 2
  have Xc3_3 := blk_cell X_3.out 3
  have Rz_3 := blk_lt R_3.out
  have Rc0_3 := blk_cell R_3.out 0
  have Rc1_3 := blk_cell R_3.out 1
  have Rc2_3 := blk_cell R_3.out 2
  have Rc3_3 := blk_cell R_3.out 3
  have Rc4_3 := blk_cell R_3.out 4
  have fS0 := blk_free S_3.out 0
  have fS1 := blk_free S_3.out 1
  have fS2 := blk_free S_3.out 2
  have fS3 := blk_free S_3.out 3
  have fS4 := blk_free S_3.out 4
  go_cut [] (fun (wx : World) => wx.heap[w.heap.size]? = some (.cells #[.int .i64 D, .int .i64 v, .int .i64 pl, .int .i64 r, .int .i64 k] 40 (0, 0)) ∧ wx.heap[w.heap.size + 1]? = some (.cells #[.int .i64 pd, .int .i64 pa, .int .i64 pi, .int .i64 pl] 42 (0, 0)) ∧ wx.heap[w.heap.size + 1 + 1]? = some (.cells #[.int .i64 0, .int .i64 0, .int .i64 0, .int .i64 0, .int .i64 0] 40 (0, 0)) ∧ Below w.heap.size w wx)
  case first =>
    go_region
    all_goals
      go_wp2_with fail
      go_meet
      exact ⟨blk_drew (blk_set (blk_set S_3.out 1 (.int .i64 v)) 2 (.int .i64 pl)), blk_drew (blk_other (i := 2) (blk_other (i := 1) X_3.out nsx (.int .i64 v)) nsx (.int .i64 pl)), blk_drew (blk_other (i := 2) (blk_other (i := 1) R_3.out nsr (.int .i64 v)) nsr (.int .i64 pl)), ((q_3.setCell (p := ⟨w.heap.size, 1, none⟩) (Nat.le_refl _) (.int .i64 v)).setCell (p := ⟨w.heap.size, 2, none⟩) (Nat.le_refl _) (.int .i64 pl)).drew⟩
  case rest =>
    obtain ⟨kS, kX, kR, kq⟩ := hcut
    clear S_3 X_3 R_3 q_3 Sc0_3 Sc1_3 Sc2_3 Sc3_3 Sc4_3 Xc0_3 Xc1_3 Xc2_3 Xc3_3 Rc0_3 Rc1_3 Rc2_3 Rc3_3 Rc4_3
    clear fS0 fS1 fS2 fS3 fS4
    have q_0 := kq
    have Sz_0 := blk_lt kS
    have Xz_0 := blk_lt kX
    have Rz_0 := blk_lt kR
    have S_0 := Lib.hid (kS)
    have Sc0_0 := blk_cell S_0.out 0
    have Sc1_0 := blk_cell S_0.out 1
    have Sc2_0 := blk_cell S_0.out 2
    have Sc3_0 := blk_cell S_0.out 3
    have Sc4_0 := blk_cell S_0.out 4
    have X_0 := Lib.hid (kX)
    have Xc0_0 := blk_cell X_0.out 0
    have Xc1_0 := blk_cell X_0.out 1
    have Xc2_0 := blk_cell X_0.out 2
    have Xc3_0 := blk_cell X_0.out 3
    have R_0 := Lib.hid (kR)
    have Rc0_0 := blk_cell R_0.out 0
    have Rc1_0 := blk_cell R_0.out 1
    have Rc2_0 := blk_cell R_0.out 2
    have Rc3_0 := blk_cell R_0.out 3
    have Rc4_0 := blk_cell R_0.out 4
    clear kS kX kR kq
    have fS0 := blk_free S_0.out 0
    have fS1 := blk_free S_0.out 1
    have fS2 := blk_free S_0.out 2
    have fS3 := blk_free S_0.out 3
    have fS4 := blk_free S_0.out 4
    go_wp2_with fail
    clear fS0 fS1 fS2 fS3 fS4
    clear Sc0_0 Sc1_0 Sc2_0 Sc3_0 Sc4_0 Xc0_0 Xc1_0 Xc2_0 Xc3_0 Rc0_0 Rc1_0 Rc2_0 Rc3_0 Rc4_0
    have st0 : Hid ((wc.setCell ⟨w.heap.size, 3, none⟩ (.int .i64 N)).heap[w.heap.size]? = some (.cells #[.int .i64 D, .int .i64 v, .int .i64 pl, .int .i64 N, .int .i64 k] 40 (0, 0))) := Lib.hid (blk_set S_0.out 3 (.int .i64 N))
    have st1 : Hid (((wc.setCell ⟨w.heap.size, 3, none⟩ (.int .i64 N)).setCell ⟨w.heap.size, 4, none⟩ (.int .i64 D)).heap[w.heap.size]? = some (.cells #[.int .i64 D, .int .i64 v, .int .i64 pl, .int .i64 N, .int .i64 D] 40 (0, 0))) := Lib.hid (blk_set st0.out 4 (.int .i64 D))
    have S_1 : Hid (((wc.setCell ⟨w.heap.size, 3, none⟩ (.int .i64 N)).setCell ⟨w.heap.size, 4, none⟩ (.int .i64 D)).heap[w.heap.size]? = some (.cells #[.int .i64 D, .int .i64 v, .int .i64 pl, .int .i64 N, .int .i64 D] 40 (0, 0))) := Lib.hid (st1.out)
    have X_1 : Hid (((wc.setCell ⟨w.heap.size, 3, none⟩ (.int .i64 N)).setCell ⟨w.heap.size, 4, none⟩ (.int .i64 D)).heap[w.heap.size + 1]? = some (.cells #[.int .i64 pd, .int .i64 pa, .int .i64 pi, .int .i64 pl] 42 (0, 0))) := Lib.hid ((blk_other (i := 4) (blk_other (i := 3) X_0.out (by first | assumption | omega) (.int .i64 N)) (by first | assumption | omega) (.int .i64 D)))
    have R_1 : Hid (((wc.setCell ⟨w.heap.size, 3, none⟩ (.int .i64 N)).setCell ⟨w.heap.size, 4, none⟩ (.int .i64 D)).heap[w.heap.size + 1 + 1]? = some (.cells #[.int .i64 0, .int .i64 0, .int .i64 0, .int .i64 0, .int .i64 0] 40 (0, 0))) := Lib.hid ((blk_other (i := 4) (blk_other (i := 3) R_0.out (by first | assumption | omega) (.int .i64 N)) (by first | assumption | omega) (.int .i64 D)))
    have q_1 : Below w.heap.size w ((wc.setCell ⟨w.heap.size, 3, none⟩ (.int .i64 N)).setCell ⟨w.heap.size, 4, none⟩ (.int .i64 D)) := ((q_0.setCell (p := ⟨w.heap.size, 3, none⟩) (by first | exact Nat.le_refl _ | omega) (.int .i64 N)).setCell (p := ⟨w.heap.size, 4, none⟩) (by first | exact Nat.le_refl _ | omega) (.int .i64 D))
    clear q_0 S_0 Sz_0 X_0 Xz_0 R_0 Rz_0 st0 st1
    generalize ((wc.setCell ⟨w.heap.size, 3, none⟩ (.int .i64 N)).setCell ⟨w.heap.size, 4, none⟩ (.int .i64 D)) = Y1 at q_1 S_1 X_1 R_1 ⊢
    have Sz_1 := blk_lt S_1.out
    have Sc0_1 := blk_cell S_1.out 0
    have Sc1_1 := blk_cell S_1.out 1
    have Sc2_1 := blk_cell S_1.out 2
    have Sc3_1 := blk_cell S_1.out 3
    have Sc4_1 := blk_cell S_1.out 4
    have Xz_1 := blk_lt X_1.out
    have Xc0_1 := blk_cell X_1.out 0
    have Xc1_1 := blk_cell X_1.out 1
    have Xc2_1 := blk_cell X_1.out 2
    have Xc3_1 := blk_cell X_1.out 3
    have Rz_1 := blk_lt R_1.out
    have Rc0_1 := blk_cell R_1.out 0
    have Rc1_1 := blk_cell R_1.out 1
    have Rc2_1 := blk_cell R_1.out 2
    have Rc3_1 := blk_cell R_1.out 3
    have Rc4_1 := blk_cell R_1.out 4
    have hO := HO.out
    have hT := HT.out
    go_quiet (fail)
    clear Sc0_1 Sc1_1 Sc2_1 Sc3_1 Sc4_1 Xc0_1 Xc1_1 Xc2_1 Xc3_1 Rc0_1 Rc1_1 Rc2_1 Rc3_1 Rc4_1
    have S_2 : Hid ((Y1.drewN nq).heap[w.heap.size]? = some (.cells #[.int .i64 D, .int .i64 v, .int .i64 pl, .int .i64 N, .int .i64 D] 40 (0, 0))) := Lib.hid (blk_drewN S_1.out nq)
    have X_2 : Hid ((Y1.drewN nq).heap[w.heap.size + 1]? = some (.cells #[.int .i64 pd, .int .i64 pa, .int .i64 pi, .int .i64 pl] 42 (0, 0))) := Lib.hid (blk_drewN X_1.out nq)
    have R_2 : Hid ((Y1.drewN nq).heap[w.heap.size + 1 + 1]? = some (.cells #[.int .i64 0, .int .i64 0, .int .i64 0, .int .i64 0, .int .i64 0] 40 (0, 0))) := Lib.hid (blk_drewN R_1.out nq)
    have q_2 := below_drewN q_1 nq
    clear q_1 S_1 Sz_1 X_1 Xz_1 R_1 Rz_1
    generalize Y1.drewN nq = Y2 at q_2 S_2 X_2 R_2 ⊢
    have Sz_2 := blk_lt S_2.out
    have Sc0_2 := blk_cell S_2.out 0
    have Sc1_2 := blk_cell S_2.out 1
    have Sc2_2 := blk_cell S_2.out 2
    have Sc3_2 := blk_cell S_2.out 3
    have Sc4_2 := blk_cell S_2.out 4
    have Xz_2 := blk_lt X_2.out
    have Xc0_2 := blk_cell X_2.out 0
    have Xc1_2 := blk_cell X_2.out 1
    have Xc2_2 := blk_cell X_2.out 2
    have Xc3_2 := blk_cell X_2.out 3
    have Rz_2 := blk_lt R_2.out
    have Rc0_2 := blk_cell R_2.out 0
    have Rc1_2 := blk_cell R_2.out 1
    have Rc2_2 := blk_cell R_2.out 2
    have Rc3_2 := blk_cell R_2.out 3
    have Rc4_2 := blk_cell R_2.out 4
    clear hO hT HO HT
    have fS0 := blk_free S_2.out 0
    have fS1 := blk_free S_2.out 1
    have fS2 := blk_free S_2.out 2
    have fS3 := blk_free S_2.out 3
    have fS4 := blk_free S_2.out 4
    have fR0 := blk_free R_2.out 0
    have fR1 := blk_free R_2.out 1
    have fR2 := blk_free R_2.out 2
    have fR3 := blk_free R_2.out 3
    have fR4 := blk_free R_2.out 4
    have QY := Lib.hid q_2
    clear S_2 X_2 R_2
    go_wp2
    refine bodyPost_ret (v := .tuple #[.agg #[.int .i64 D, .int .i64 v, .int .i64 pl, .int .i64 N, .int .i64 D], .int .i64 0, .bool false, .int .i64 0]) (by simp [results, Try.results18, go_sem, *]) rfl ⟨rfl, ?_⟩
    (repeat' (first | (with_reducible exact QY.out) | (with_reducible exact Below.refl _ _) | (with_reducible refine Below.alloc ?_ ?_ _) | (with_reducible refine Below.setCell ?_ ?_ _) | (with_reducible refine Below.drew ?_) | (with_reducible refine below_drewN ?_ _) | omega | (dsimp only; omega) | (simp; done) | (simp; omega)))

set_option maxRecDepth 100000 in
set_option maxHeartbeats 2000000 in
theorem rdeliver_mr (d a i r k pd pa pi pl n v D N O T Q : Int) (w : World) (hS : RV d a i r k) (hD : DV n v pd pa pi pl) (hDD : min (d + n) 1099511627776 = D) (hRR : min (r + 1) 1099511627776 = N) (hO : D - pd = O) (hT : max (pl - pi) (v - pa) = T) (hk : k ≤ pd) (h0 : 0 < O) (h1 : 0 < T) (hQ : min (O * 1024 / T) 1073741824 = Q) :
    Calls Try.prog 18 #[.agg #[.int .i64 d, .int .i64 a, .int .i64 i, .int .i64 r, .int .i64 k], .agg #[.int .i64 pd, .int .i64 pa, .int .i64 pi, .int .i64 pl], .int .i64 n, .int .i64 v] w fun e w' => e = .returned (.tuple #[.agg #[.int .i64 D, .int .i64 v, .int .i64 pl, .int .i64 N, .int .i64 D], .int .i64 Q, .bool true, .int .i64 0]) ∧ Below w.heap.size w w' := by
  have HS := Lib.hid hS
  obtain ⟨⟨d0, d1⟩, ⟨a0, a1⟩, ⟨i0, i1⟩, ⟨r0, r1⟩, k0, k1⟩ := hS
  obtain ⟨⟨n0, n1⟩, ⟨v0, v1⟩, ⟨pd0, pd1⟩, ⟨pa0, pa1⟩, ⟨pi0, pi1⟩, pl0, pl1⟩ := hD
  have tn := inb_true n0 n1
  have tv := inb_true v0 v1
  have tpd := inb_true pd0 pd1
  have tpa := inb_true pa0 pa1
  have tpi := inb_true pi0 pi1
  have tpl := inb_true pl0 pl1
  have D0 : 0 ≤ D ∧ D ≤ 1099511627776 := by omega
  obtain ⟨D0, D1⟩ := D0
  have HO := Lib.hid hO
  have HT := Lib.hid hT
  have HDD := Lib.hid hDD
  have HRR := Lib.hid hRR
  clear hO hT hRR
  have q_0 := Below.refl w.heap.size w
  go_enter Try.func18, Try.ntmps18
  go_wp2_with fail
  have b : Below w.heap.size w (((w.alloc (.cells #[.int .i64 d, .int .i64 a, .int .i64 i, .int .i64 r, .int .i64 k] 40)).alloc (.cells #[.int .i64 pd, .int .i64 pa, .int .i64 pi, .int .i64 pl] 42)).alloc (.cells #[.int .i64 0, .int .i64 0, .int .i64 0, .int .i64 0, .int .i64 0] 40)) := ((((Below.refl _ w).alloc (Nat.le_refl _) (.cells #[.int .i64 d, .int .i64 a, .int .i64 i, .int .i64 r, .int .i64 k] 40)).alloc (by simp only [World.size_alloc]; omega) (.cells #[.int .i64 pd, .int .i64 pa, .int .i64 pi, .int .i64 pl] 42)).alloc (by simp only [World.size_alloc]; omega) (.cells #[.int .i64 0, .int .i64 0, .int .i64 0, .int .i64 0, .int .i64 0] 40))
  have nb0 := blk_new w (.cells #[.int .i64 d, .int .i64 a, .int .i64 i, .int .i64 r, .int .i64 k] 40)
  have nb0 := (Below.heap_alloc (w.alloc (.cells #[.int .i64 d, .int .i64 a, .int .i64 i, .int .i64 r, .int .i64 k] 40)) (.cells #[.int .i64 pd, .int .i64 pa, .int .i64 pi, .int .i64 pl] 42) (w.heap.size) (by simp only [World.size_alloc]; omega)).trans nb0
  have nb0 := (Below.heap_alloc ((w.alloc (.cells #[.int .i64 d, .int .i64 a, .int .i64 i, .int .i64 r, .int .i64 k] 40)).alloc (.cells #[.int .i64 pd, .int .i64 pa, .int .i64 pi, .int .i64 pl] 42)) (.cells #[.int .i64 0, .int .i64 0, .int .i64 0, .int .i64 0, .int .i64 0] 40) (w.heap.size) (by simp only [World.size_alloc]; omega)).trans nb0
  have nz0 : w.heap.size < (((w.alloc (.cells #[.int .i64 d, .int .i64 a, .int .i64 i, .int .i64 r, .int .i64 k] 40)).alloc (.cells #[.int .i64 pd, .int .i64 pa, .int .i64 pi, .int .i64 pl] 42)).alloc (.cells #[.int .i64 0, .int .i64 0, .int .i64 0, .int .i64 0, .int .i64 0] 40)).heap.size := by simp only [World.size_alloc]; omega
  have nb1 := blk_new (w.alloc (.cells #[.int .i64 d, .int .i64 a, .int .i64 i, .int .i64 r, .int .i64 k] 40)) (.cells #[.int .i64 pd, .int .i64 pa, .int .i64 pi, .int .i64 pl] 42)
  simp only [World.size_alloc] at nb1
  have nb1 := (Below.heap_alloc ((w.alloc (.cells #[.int .i64 d, .int .i64 a, .int .i64 i, .int .i64 r, .int .i64 k] 40)).alloc (.cells #[.int .i64 pd, .int .i64 pa, .int .i64 pi, .int .i64 pl] 42)) (.cells #[.int .i64 0, .int .i64 0, .int .i64 0, .int .i64 0, .int .i64 0] 40) (w.heap.size + 1) (by simp only [World.size_alloc]; omega)).trans nb1
  have nz1 : w.heap.size + 1 < (((w.alloc (.cells #[.int .i64 d, .int .i64 a, .int .i64 i, .int .i64 r, .int .i64 k] 40)).alloc (.cells #[.int .i64 pd, .int .i64 pa, .int .i64 pi, .int .i64 pl] 42)).alloc (.cells #[.int .i64 0, .int .i64 0, .int .i64 0, .int .i64 0, .int .i64 0] 40)).heap.size := by simp only [World.size_alloc]; omega
  have nb2 := blk_new ((w.alloc (.cells #[.int .i64 d, .int .i64 a, .int .i64 i, .int .i64 r, .int .i64 k] 40)).alloc (.cells #[.int .i64 pd, .int .i64 pa, .int .i64 pi, .int .i64 pl] 42)) (.cells #[.int .i64 0, .int .i64 0, .int .i64 0, .int .i64 0, .int .i64 0] 40)
  simp only [World.size_alloc] at nb2
  have nz2 : w.heap.size + 2 < (((w.alloc (.cells #[.int .i64 d, .int .i64 a, .int .i64 i, .int .i64 r, .int .i64 k] 40)).alloc (.cells #[.int .i64 pd, .int .i64 pa, .int .i64 pi, .int .i64 pl] 42)).alloc (.cells #[.int .i64 0, .int .i64 0, .int .i64 0, .int .i64 0, .int .i64 0] 40)).heap.size := by simp only [World.size_alloc]; omega
  have q_1 := q_0.trans (b.mono q_0.size)
  clear q_0
  clear b
  have S_1 := Lib.hid nb0
  have Sz_1 := nz0
  clear nb0 nz0
  have Sc0_1 := blk_cell S_1.out 0
  have Sc1_1 := blk_cell S_1.out 1
  have Sc2_1 := blk_cell S_1.out 2
  have Sc3_1 := blk_cell S_1.out 3
  have Sc4_1 := blk_cell S_1.out 4
  have X_1 := Lib.hid nb1
  have Xz_1 := nz1
  clear nb1 nz1
  have Xc0_1 := blk_cell X_1.out 0
  have Xc1_1 := blk_cell X_1.out 1
  have Xc2_1 := blk_cell X_1.out 2
  have Xc3_1 := blk_cell X_1.out 3
  have R_1 := Lib.hid nb2
  have Rz_1 := nz2
  clear nb2 nz2
  have Rc0_1 := blk_cell R_1.out 0
  have Rc1_1 := blk_cell R_1.out 1
  have Rc2_1 := blk_cell R_1.out 2
  have Rc3_1 := blk_cell R_1.out 3
  have Rc4_1 := blk_cell R_1.out 4
  generalize (((w.alloc (.cells #[.int .i64 d, .int .i64 a, .int .i64 i, .int .i64 r, .int .i64 k] 40)).alloc (.cells #[.int .i64 pd, .int .i64 pa, .int .i64 pi, .int .i64 pl] 42)).alloc (.cells #[.int .i64 0, .int .i64 0, .int .i64 0, .int .i64 0, .int .i64 0] 40)) = V1 at q_1 S_1 Sz_1 Sc0_1 Sc1_1 Sc2_1 Sc3_1 Sc4_1 X_1 Xz_1 Xc0_1 Xc1_1 Xc2_1 Xc3_1 R_1 Rz_1 Rc0_1 Rc1_1 Rc2_1 Rc3_1 Rc4_1 ⊢
  have nsx : w.heap.size ≠ w.heap.size + 1 := by omega
  have nsr : w.heap.size ≠ w.heap.size + 1 + 1 := by omega
  have nxr : w.heap.size + 1 ≠ w.heap.size + 1 + 1 := by omega
  have nxs := nsx.symm
  have nrs := nsr.symm
  have nrx := nxr.symm
  refine (rrmay_yes d a i r k _ HS.out).mono ?_
  rintro e V2 ⟨rfl, b⟩
  have S_2 := Lib.hid ((b.block _ Sz_1).trans S_1.out)
  have Sz_2 := Nat.lt_of_lt_of_le Sz_1 b.size
  have Sc0_2 := blk_cell S_2.out 0
  have Sc1_2 := blk_cell S_2.out 1
  have Sc2_2 := blk_cell S_2.out 2
  have Sc3_2 := blk_cell S_2.out 3
  have Sc4_2 := blk_cell S_2.out 4
  have X_2 := Lib.hid ((b.block _ Xz_1).trans X_1.out)
  have Xz_2 := Nat.lt_of_lt_of_le Xz_1 b.size
  have Xc0_2 := blk_cell X_2.out 0
  have Xc1_2 := blk_cell X_2.out 1
  have Xc2_2 := blk_cell X_2.out 2
  have Xc3_2 := blk_cell X_2.out 3
  have R_2 := Lib.hid ((b.block _ Rz_1).trans R_1.out)
  have Rz_2 := Nat.lt_of_lt_of_le Rz_1 b.size
  have Rc0_2 := blk_cell R_2.out 0
  have Rc1_2 := blk_cell R_2.out 1
  have Rc2_2 := blk_cell R_2.out 2
  have Rc3_2 := blk_cell R_2.out 3
  have Rc4_2 := blk_cell R_2.out 4
  have q_2 := q_1.trans (b.mono q_1.size)
  clear S_1 Sz_1 Sc0_1 Sc1_1 Sc2_1 Sc3_1 Sc4_1 X_1 Xz_1 Xc0_1 Xc1_1 Xc2_1 Xc3_1 R_1 Rz_1 Rc0_1 Rc1_1 Rc2_1 Rc3_1 Rc4_1 q_1
  clear b
  have fS0 := blk_free S_2.out 0
  have fS1 := blk_free S_2.out 1
  have fS2 := blk_free S_2.out 2
  have fS3 := blk_free S_2.out 3
  have fS4 := blk_free S_2.out 4
  have fR0 := blk_free R_2.out 0
  have fR1 := blk_free R_2.out 1
  have fR2 := blk_free R_2.out 2
  have fR3 := blk_free R_2.out 3
  have fR4 := blk_free R_2.out 4
  have hRR := HRR.out
  go_wp2_with (first | (go_at_call 23; refine (rin_any _ _ _ _).mono ?_; rintro e w' ⟨rfl, rfl⟩) | (go_at_call 26; refine (tick_any _ _).mono ?_; rintro e w' ⟨rfl, rfl⟩))
  clear fS0 fS1 fS2 fS3 fS4 fR0 fR1 fR2 fR3 fR4
  clear Sc0_2 Sc1_2 Sc2_2 Sc3_2 Sc4_2 Xc0_2 Xc1_2 Xc2_2 Xc3_2 Rc0_2 Rc1_2 Rc2_2 Rc3_2 Rc4_2
  have st0 : Hid ((V2.setCell ⟨w.heap.size, 0, none⟩ (.int .i64 D)).heap[w.heap.size]? = some (.cells #[.int .i64 D, .int .i64 a, .int .i64 i, .int .i64 r, .int .i64 k] 40 (0, 0))) := Lib.hid (blk_set S_2.out 0 (.int .i64 D))
  have S_3 : Hid ((V2.setCell ⟨w.heap.size, 0, none⟩ (.int .i64 D)).heap[w.heap.size]? = some (.cells #[.int .i64 D, .int .i64 a, .int .i64 i, .int .i64 r, .int .i64 k] 40 (0, 0))) := Lib.hid (st0.out)
  have X_3 : Hid ((V2.setCell ⟨w.heap.size, 0, none⟩ (.int .i64 D)).heap[w.heap.size + 1]? = some (.cells #[.int .i64 pd, .int .i64 pa, .int .i64 pi, .int .i64 pl] 42 (0, 0))) := Lib.hid ((blk_other (i := 0) X_2.out (by first | assumption | omega) (.int .i64 D)))
  have R_3 : Hid ((V2.setCell ⟨w.heap.size, 0, none⟩ (.int .i64 D)).heap[w.heap.size + 1 + 1]? = some (.cells #[.int .i64 0, .int .i64 0, .int .i64 0, .int .i64 0, .int .i64 0] 40 (0, 0))) := Lib.hid ((blk_other (i := 0) R_2.out (by first | assumption | omega) (.int .i64 D)))
  have q_3 : Below w.heap.size w (V2.setCell ⟨w.heap.size, 0, none⟩ (.int .i64 D)) := (q_2.setCell (p := ⟨w.heap.size, 0, none⟩) (by first | exact Nat.le_refl _ | omega) (.int .i64 D))
  clear q_2 S_2 Sz_2 X_2 Xz_2 R_2 Rz_2 st0
  generalize (V2.setCell ⟨w.heap.size, 0, none⟩ (.int .i64 D)) = Y0 at q_3 S_3 X_3 R_3 ⊢
  have Sz_3 := blk_lt S_3.out
  have Sc0_3 := blk_cell S_3.out 0
  have Sc1_3 := blk_cell S_3.out 1
  have Sc2_3 := blk_cell S_3.out 2
  have Sc3_3 := blk_cell S_3.out 3
  have Sc4_3 := blk_cell S_3.out 4
  have Xz_3 := blk_lt X_3.out
  have Xc0_3 := blk_cell X_3.out 0
  have Xc1_3 := blk_cell X_3.out 1
  have Xc2_3 := blk_cell X_3.out 2
  have Xc3_3 := blk_cell X_3.out 3
  have Rz_3 := blk_lt R_3.out
  have Rc0_3 := blk_cell R_3.out 0
  have Rc1_3 := blk_cell R_3.out 1
  have Rc2_3 := blk_cell R_3.out 2
  have Rc3_3 := blk_cell R_3.out 3
  have Rc4_3 := blk_cell R_3.out 4
  have fS0 := blk_free S_3.out 0
  have fS1 := blk_free S_3.out 1
  have fS2 := blk_free S_3.out 2
  have fS3 := blk_free S_3.out 3
  have fS4 := blk_free S_3.out 4
  go_cut [] (fun (wx : World) => wx.heap[w.heap.size]? = some (.cells #[.int .i64 D, .int .i64 v, .int .i64 pl, .int .i64 r, .int .i64 k] 40 (0, 0)) ∧ wx.heap[w.heap.size + 1]? = some (.cells #[.int .i64 pd, .int .i64 pa, .int .i64 pi, .int .i64 pl] 42 (0, 0)) ∧ wx.heap[w.heap.size + 1 + 1]? = some (.cells #[.int .i64 0, .int .i64 0, .int .i64 0, .int .i64 0, .int .i64 0] 40 (0, 0)) ∧ Below w.heap.size w wx)
  case first =>
    go_region
    all_goals
      go_wp2_with fail
      go_meet
      exact ⟨blk_drew (blk_set (blk_set S_3.out 1 (.int .i64 v)) 2 (.int .i64 pl)), blk_drew (blk_other (i := 2) (blk_other (i := 1) X_3.out nsx (.int .i64 v)) nsx (.int .i64 pl)), blk_drew (blk_other (i := 2) (blk_other (i := 1) R_3.out nsr (.int .i64 v)) nsr (.int .i64 pl)), ((q_3.setCell (p := ⟨w.heap.size, 1, none⟩) (Nat.le_refl _) (.int .i64 v)).setCell (p := ⟨w.heap.size, 2, none⟩) (Nat.le_refl _) (.int .i64 pl)).drew⟩
  case rest =>
    obtain ⟨kS, kX, kR, kq⟩ := hcut
    clear S_3 X_3 R_3 q_3 Sc0_3 Sc1_3 Sc2_3 Sc3_3 Sc4_3 Xc0_3 Xc1_3 Xc2_3 Xc3_3 Rc0_3 Rc1_3 Rc2_3 Rc3_3 Rc4_3
    clear fS0 fS1 fS2 fS3 fS4
    have q_0 := kq
    have Sz_0 := blk_lt kS
    have Xz_0 := blk_lt kX
    have Rz_0 := blk_lt kR
    have S_0 := Lib.hid (kS)
    have Sc0_0 := blk_cell S_0.out 0
    have Sc1_0 := blk_cell S_0.out 1
    have Sc2_0 := blk_cell S_0.out 2
    have Sc3_0 := blk_cell S_0.out 3
    have Sc4_0 := blk_cell S_0.out 4
    have X_0 := Lib.hid (kX)
    have Xc0_0 := blk_cell X_0.out 0
    have Xc1_0 := blk_cell X_0.out 1
    have Xc2_0 := blk_cell X_0.out 2
    have Xc3_0 := blk_cell X_0.out 3
    have R_0 := Lib.hid (kR)
    have Rc0_0 := blk_cell R_0.out 0
    have Rc1_0 := blk_cell R_0.out 1
    have Rc2_0 := blk_cell R_0.out 2
    have Rc3_0 := blk_cell R_0.out 3
    have Rc4_0 := blk_cell R_0.out 4
    clear kS kX kR kq
    have fS0 := blk_free S_0.out 0
    have fS1 := blk_free S_0.out 1
    have fS2 := blk_free S_0.out 2
    have fS3 := blk_free S_0.out 3
    have fS4 := blk_free S_0.out 4
    go_wp2_with fail
    clear fS0 fS1 fS2 fS3 fS4
    clear Sc0_0 Sc1_0 Sc2_0 Sc3_0 Sc4_0 Xc0_0 Xc1_0 Xc2_0 Xc3_0 Rc0_0 Rc1_0 Rc2_0 Rc3_0 Rc4_0
    have st0 : Hid ((wc.setCell ⟨w.heap.size, 3, none⟩ (.int .i64 N)).heap[w.heap.size]? = some (.cells #[.int .i64 D, .int .i64 v, .int .i64 pl, .int .i64 N, .int .i64 k] 40 (0, 0))) := Lib.hid (blk_set S_0.out 3 (.int .i64 N))
    have st1 : Hid (((wc.setCell ⟨w.heap.size, 3, none⟩ (.int .i64 N)).setCell ⟨w.heap.size, 4, none⟩ (.int .i64 D)).heap[w.heap.size]? = some (.cells #[.int .i64 D, .int .i64 v, .int .i64 pl, .int .i64 N, .int .i64 D] 40 (0, 0))) := Lib.hid (blk_set st0.out 4 (.int .i64 D))
    have S_1 : Hid (((wc.setCell ⟨w.heap.size, 3, none⟩ (.int .i64 N)).setCell ⟨w.heap.size, 4, none⟩ (.int .i64 D)).heap[w.heap.size]? = some (.cells #[.int .i64 D, .int .i64 v, .int .i64 pl, .int .i64 N, .int .i64 D] 40 (0, 0))) := Lib.hid (st1.out)
    have X_1 : Hid (((wc.setCell ⟨w.heap.size, 3, none⟩ (.int .i64 N)).setCell ⟨w.heap.size, 4, none⟩ (.int .i64 D)).heap[w.heap.size + 1]? = some (.cells #[.int .i64 pd, .int .i64 pa, .int .i64 pi, .int .i64 pl] 42 (0, 0))) := Lib.hid ((blk_other (i := 4) (blk_other (i := 3) X_0.out (by first | assumption | omega) (.int .i64 N)) (by first | assumption | omega) (.int .i64 D)))
    have R_1 : Hid (((wc.setCell ⟨w.heap.size, 3, none⟩ (.int .i64 N)).setCell ⟨w.heap.size, 4, none⟩ (.int .i64 D)).heap[w.heap.size + 1 + 1]? = some (.cells #[.int .i64 0, .int .i64 0, .int .i64 0, .int .i64 0, .int .i64 0] 40 (0, 0))) := Lib.hid ((blk_other (i := 4) (blk_other (i := 3) R_0.out (by first | assumption | omega) (.int .i64 N)) (by first | assumption | omega) (.int .i64 D)))
    have q_1 : Below w.heap.size w ((wc.setCell ⟨w.heap.size, 3, none⟩ (.int .i64 N)).setCell ⟨w.heap.size, 4, none⟩ (.int .i64 D)) := ((q_0.setCell (p := ⟨w.heap.size, 3, none⟩) (by first | exact Nat.le_refl _ | omega) (.int .i64 N)).setCell (p := ⟨w.heap.size, 4, none⟩) (by first | exact Nat.le_refl _ | omega) (.int .i64 D))
    clear q_0 S_0 Sz_0 X_0 Xz_0 R_0 Rz_0 st0 st1
    generalize ((wc.setCell ⟨w.heap.size, 3, none⟩ (.int .i64 N)).setCell ⟨w.heap.size, 4, none⟩ (.int .i64 D)) = Y1 at q_1 S_1 X_1 R_1 ⊢
    have Sz_1 := blk_lt S_1.out
    have Sc0_1 := blk_cell S_1.out 0
    have Sc1_1 := blk_cell S_1.out 1
    have Sc2_1 := blk_cell S_1.out 2
    have Sc3_1 := blk_cell S_1.out 3
    have Sc4_1 := blk_cell S_1.out 4
    have Xz_1 := blk_lt X_1.out
    have Xc0_1 := blk_cell X_1.out 0
    have Xc1_1 := blk_cell X_1.out 1
    have Xc2_1 := blk_cell X_1.out 2
    have Xc3_1 := blk_cell X_1.out 3
    have Rz_1 := blk_lt R_1.out
    have Rc0_1 := blk_cell R_1.out 0
    have Rc1_1 := blk_cell R_1.out 1
    have Rc2_1 := blk_cell R_1.out 2
    have Rc3_1 := blk_cell R_1.out 3
    have Rc4_1 := blk_cell R_1.out 4
    have hO := HO.out
    have hT := HT.out
    have tz : (T == 0) = false := by rw [beq_eq_false_iff_ne]; omega
    have O1 : O ≤ 1099511627776 := by omega
    obtain ⟨c0, c1⟩ := quot_bd (x := O * 1024) (f := T) (by omega) (by omega)
    go_quiet (fail)
    clear Sc0_1 Sc1_1 Sc2_1 Sc3_1 Sc4_1 Xc0_1 Xc1_1 Xc2_1 Xc3_1 Rc0_1 Rc1_1 Rc2_1 Rc3_1 Rc4_1
    have S_2 : Hid ((Y1.drewN nq).heap[w.heap.size]? = some (.cells #[.int .i64 D, .int .i64 v, .int .i64 pl, .int .i64 N, .int .i64 D] 40 (0, 0))) := Lib.hid (blk_drewN S_1.out nq)
    have X_2 : Hid ((Y1.drewN nq).heap[w.heap.size + 1]? = some (.cells #[.int .i64 pd, .int .i64 pa, .int .i64 pi, .int .i64 pl] 42 (0, 0))) := Lib.hid (blk_drewN X_1.out nq)
    have R_2 : Hid ((Y1.drewN nq).heap[w.heap.size + 1 + 1]? = some (.cells #[.int .i64 0, .int .i64 0, .int .i64 0, .int .i64 0, .int .i64 0] 40 (0, 0))) := Lib.hid (blk_drewN R_1.out nq)
    have q_2 := below_drewN q_1 nq
    clear q_1 S_1 Sz_1 X_1 Xz_1 R_1 Rz_1
    generalize Y1.drewN nq = Y2 at q_2 S_2 X_2 R_2 ⊢
    have Sz_2 := blk_lt S_2.out
    have Sc0_2 := blk_cell S_2.out 0
    have Sc1_2 := blk_cell S_2.out 1
    have Sc2_2 := blk_cell S_2.out 2
    have Sc3_2 := blk_cell S_2.out 3
    have Sc4_2 := blk_cell S_2.out 4
    have Xz_2 := blk_lt X_2.out
    have Xc0_2 := blk_cell X_2.out 0
    have Xc1_2 := blk_cell X_2.out 1
    have Xc2_2 := blk_cell X_2.out 2
    have Xc3_2 := blk_cell X_2.out 3
    have Rz_2 := blk_lt R_2.out
    have Rc0_2 := blk_cell R_2.out 0
    have Rc1_2 := blk_cell R_2.out 1
    have Rc2_2 := blk_cell R_2.out 2
    have Rc3_2 := blk_cell R_2.out 3
    have Rc4_2 := blk_cell R_2.out 4
    clear hO hT HO HT
    have fS0 := blk_free S_2.out 0
    have fS1 := blk_free S_2.out 1
    have fS2 := blk_free S_2.out 2
    have fS3 := blk_free S_2.out 3
    have fS4 := blk_free S_2.out 4
    have fR0 := blk_free R_2.out 0
    have fR1 := blk_free R_2.out 1
    have fR2 := blk_free R_2.out 2
    have fR3 := blk_free R_2.out 3
    have fR4 := blk_free R_2.out 4
    have QY := Lib.hid q_2
    clear S_2 X_2 R_2
    have tn0 : ¬ T = 0 := by omega
    have e1 : IntKind.i64.wrap (O * 1024) = O * 1024 := by rw [IntKind.wrap_i64]; omega
    have e2 : (O * 1024).tdiv T = O * 1024 / T := Int.tdiv_eq_ediv_of_nonneg (by omega)
    have e3 : IntKind.i64.wrap (O * 1024 / T) = O * 1024 / T := by rw [IntKind.wrap_i64]; omega
    clear tz
    go_wp2_with fail
    go_region
    all_goals
    go_wp2
    refine bodyPost_ret (v := .tuple #[.agg #[.int .i64 D, .int .i64 v, .int .i64 pl, .int .i64 N, .int .i64 D], .int .i64 Q, .bool true, .int .i64 0]) (by simp [results, Try.results18, go_sem, *]) rfl ⟨rfl, ?_⟩
    (repeat' (first | (with_reducible exact QY.out) | (with_reducible exact Below.refl _ _) | (with_reducible refine Below.alloc ?_ ?_ _) | (with_reducible refine Below.setCell ?_ ?_ _) | (with_reducible refine Below.drew ?_) | (with_reducible refine below_drewN ?_ _) | omega | (dsimp only; omega) | (simp; done) | (simp; omega)))

set_option maxRecDepth 100000 in
set_option maxHeartbeats 2000000 in
theorem rdeliver_no (d a i r k pd pa pi pl n v D N O T : Int) (w : World) (hS : RV d a i r k) (hD : DV n v pd pa pi pl) (hDD : min (d + n) 1099511627776 = D) (hRR : min (r + 1) 1099511627776 = N) (hO : D - pd = O) (hT : max (pl - pi) (v - pa) = T) (hk : pd < k) (h0 : O ≤ 0) :
    Calls Try.prog 18 #[.agg #[.int .i64 d, .int .i64 a, .int .i64 i, .int .i64 r, .int .i64 k], .agg #[.int .i64 pd, .int .i64 pa, .int .i64 pi, .int .i64 pl], .int .i64 n, .int .i64 v] w fun e w' => e = .returned (.tuple #[.agg #[.int .i64 D, .int .i64 v, .int .i64 pl, .int .i64 r, .int .i64 k], .int .i64 0, .bool false, .int .i64 0]) ∧ Below w.heap.size w w' := by
  have HS := Lib.hid hS
  obtain ⟨⟨d0, d1⟩, ⟨a0, a1⟩, ⟨i0, i1⟩, ⟨r0, r1⟩, k0, k1⟩ := hS
  obtain ⟨⟨n0, n1⟩, ⟨v0, v1⟩, ⟨pd0, pd1⟩, ⟨pa0, pa1⟩, ⟨pi0, pi1⟩, pl0, pl1⟩ := hD
  have tn := inb_true n0 n1
  have tv := inb_true v0 v1
  have tpd := inb_true pd0 pd1
  have tpa := inb_true pa0 pa1
  have tpi := inb_true pi0 pi1
  have tpl := inb_true pl0 pl1
  have D0 : 0 ≤ D ∧ D ≤ 1099511627776 := by omega
  obtain ⟨D0, D1⟩ := D0
  have HO := Lib.hid hO
  have HT := Lib.hid hT
  have HDD := Lib.hid hDD
  have HRR := Lib.hid hRR
  clear hO hT hRR
  have q_0 := Below.refl w.heap.size w
  go_enter Try.func18, Try.ntmps18
  go_wp2_with fail
  have b : Below w.heap.size w (((w.alloc (.cells #[.int .i64 d, .int .i64 a, .int .i64 i, .int .i64 r, .int .i64 k] 40)).alloc (.cells #[.int .i64 pd, .int .i64 pa, .int .i64 pi, .int .i64 pl] 42)).alloc (.cells #[.int .i64 0, .int .i64 0, .int .i64 0, .int .i64 0, .int .i64 0] 40)) := ((((Below.refl _ w).alloc (Nat.le_refl _) (.cells #[.int .i64 d, .int .i64 a, .int .i64 i, .int .i64 r, .int .i64 k] 40)).alloc (by simp only [World.size_alloc]; omega) (.cells #[.int .i64 pd, .int .i64 pa, .int .i64 pi, .int .i64 pl] 42)).alloc (by simp only [World.size_alloc]; omega) (.cells #[.int .i64 0, .int .i64 0, .int .i64 0, .int .i64 0, .int .i64 0] 40))
  have nb0 := blk_new w (.cells #[.int .i64 d, .int .i64 a, .int .i64 i, .int .i64 r, .int .i64 k] 40)
  have nb0 := (Below.heap_alloc (w.alloc (.cells #[.int .i64 d, .int .i64 a, .int .i64 i, .int .i64 r, .int .i64 k] 40)) (.cells #[.int .i64 pd, .int .i64 pa, .int .i64 pi, .int .i64 pl] 42) (w.heap.size) (by simp only [World.size_alloc]; omega)).trans nb0
  have nb0 := (Below.heap_alloc ((w.alloc (.cells #[.int .i64 d, .int .i64 a, .int .i64 i, .int .i64 r, .int .i64 k] 40)).alloc (.cells #[.int .i64 pd, .int .i64 pa, .int .i64 pi, .int .i64 pl] 42)) (.cells #[.int .i64 0, .int .i64 0, .int .i64 0, .int .i64 0, .int .i64 0] 40) (w.heap.size) (by simp only [World.size_alloc]; omega)).trans nb0
  have nz0 : w.heap.size < (((w.alloc (.cells #[.int .i64 d, .int .i64 a, .int .i64 i, .int .i64 r, .int .i64 k] 40)).alloc (.cells #[.int .i64 pd, .int .i64 pa, .int .i64 pi, .int .i64 pl] 42)).alloc (.cells #[.int .i64 0, .int .i64 0, .int .i64 0, .int .i64 0, .int .i64 0] 40)).heap.size := by simp only [World.size_alloc]; omega
  have nb1 := blk_new (w.alloc (.cells #[.int .i64 d, .int .i64 a, .int .i64 i, .int .i64 r, .int .i64 k] 40)) (.cells #[.int .i64 pd, .int .i64 pa, .int .i64 pi, .int .i64 pl] 42)
  simp only [World.size_alloc] at nb1
  have nb1 := (Below.heap_alloc ((w.alloc (.cells #[.int .i64 d, .int .i64 a, .int .i64 i, .int .i64 r, .int .i64 k] 40)).alloc (.cells #[.int .i64 pd, .int .i64 pa, .int .i64 pi, .int .i64 pl] 42)) (.cells #[.int .i64 0, .int .i64 0, .int .i64 0, .int .i64 0, .int .i64 0] 40) (w.heap.size + 1) (by simp only [World.size_alloc]; omega)).trans nb1
  have nz1 : w.heap.size + 1 < (((w.alloc (.cells #[.int .i64 d, .int .i64 a, .int .i64 i, .int .i64 r, .int .i64 k] 40)).alloc (.cells #[.int .i64 pd, .int .i64 pa, .int .i64 pi, .int .i64 pl] 42)).alloc (.cells #[.int .i64 0, .int .i64 0, .int .i64 0, .int .i64 0, .int .i64 0] 40)).heap.size := by simp only [World.size_alloc]; omega
  have nb2 := blk_new ((w.alloc (.cells #[.int .i64 d, .int .i64 a, .int .i64 i, .int .i64 r, .int .i64 k] 40)).alloc (.cells #[.int .i64 pd, .int .i64 pa, .int .i64 pi, .int .i64 pl] 42)) (.cells #[.int .i64 0, .int .i64 0, .int .i64 0, .int .i64 0, .int .i64 0] 40)
  simp only [World.size_alloc] at nb2
  have nz2 : w.heap.size + 2 < (((w.alloc (.cells #[.int .i64 d, .int .i64 a, .int .i64 i, .int .i64 r, .int .i64 k] 40)).alloc (.cells #[.int .i64 pd, .int .i64 pa, .int .i64 pi, .int .i64 pl] 42)).alloc (.cells #[.int .i64 0, .int .i64 0, .int .i64 0, .int .i64 0, .int .i64 0] 40)).heap.size := by simp only [World.size_alloc]; omega
  have q_1 := q_0.trans (b.mono q_0.size)
  clear q_0
  clear b
  have S_1 := Lib.hid nb0
  have Sz_1 := nz0
  clear nb0 nz0
  have Sc0_1 := blk_cell S_1.out 0
  have Sc1_1 := blk_cell S_1.out 1
  have Sc2_1 := blk_cell S_1.out 2
  have Sc3_1 := blk_cell S_1.out 3
  have Sc4_1 := blk_cell S_1.out 4
  have X_1 := Lib.hid nb1
  have Xz_1 := nz1
  clear nb1 nz1
  have Xc0_1 := blk_cell X_1.out 0
  have Xc1_1 := blk_cell X_1.out 1
  have Xc2_1 := blk_cell X_1.out 2
  have Xc3_1 := blk_cell X_1.out 3
  have R_1 := Lib.hid nb2
  have Rz_1 := nz2
  clear nb2 nz2
  have Rc0_1 := blk_cell R_1.out 0
  have Rc1_1 := blk_cell R_1.out 1
  have Rc2_1 := blk_cell R_1.out 2
  have Rc3_1 := blk_cell R_1.out 3
  have Rc4_1 := blk_cell R_1.out 4
  generalize (((w.alloc (.cells #[.int .i64 d, .int .i64 a, .int .i64 i, .int .i64 r, .int .i64 k] 40)).alloc (.cells #[.int .i64 pd, .int .i64 pa, .int .i64 pi, .int .i64 pl] 42)).alloc (.cells #[.int .i64 0, .int .i64 0, .int .i64 0, .int .i64 0, .int .i64 0] 40)) = V1 at q_1 S_1 Sz_1 Sc0_1 Sc1_1 Sc2_1 Sc3_1 Sc4_1 X_1 Xz_1 Xc0_1 Xc1_1 Xc2_1 Xc3_1 R_1 Rz_1 Rc0_1 Rc1_1 Rc2_1 Rc3_1 Rc4_1 ⊢
  have nsx : w.heap.size ≠ w.heap.size + 1 := by omega
  have nsr : w.heap.size ≠ w.heap.size + 1 + 1 := by omega
  have nxr : w.heap.size + 1 ≠ w.heap.size + 1 + 1 := by omega
  have nxs := nsx.symm
  have nrs := nsr.symm
  have nrx := nxr.symm
  refine (rrmay_yes d a i r k _ HS.out).mono ?_
  rintro e V2 ⟨rfl, b⟩
  have S_2 := Lib.hid ((b.block _ Sz_1).trans S_1.out)
  have Sz_2 := Nat.lt_of_lt_of_le Sz_1 b.size
  have Sc0_2 := blk_cell S_2.out 0
  have Sc1_2 := blk_cell S_2.out 1
  have Sc2_2 := blk_cell S_2.out 2
  have Sc3_2 := blk_cell S_2.out 3
  have Sc4_2 := blk_cell S_2.out 4
  have X_2 := Lib.hid ((b.block _ Xz_1).trans X_1.out)
  have Xz_2 := Nat.lt_of_lt_of_le Xz_1 b.size
  have Xc0_2 := blk_cell X_2.out 0
  have Xc1_2 := blk_cell X_2.out 1
  have Xc2_2 := blk_cell X_2.out 2
  have Xc3_2 := blk_cell X_2.out 3
  have R_2 := Lib.hid ((b.block _ Rz_1).trans R_1.out)
  have Rz_2 := Nat.lt_of_lt_of_le Rz_1 b.size
  have Rc0_2 := blk_cell R_2.out 0
  have Rc1_2 := blk_cell R_2.out 1
  have Rc2_2 := blk_cell R_2.out 2
  have Rc3_2 := blk_cell R_2.out 3
  have Rc4_2 := blk_cell R_2.out 4
  have q_2 := q_1.trans (b.mono q_1.size)
  clear S_1 Sz_1 Sc0_1 Sc1_1 Sc2_1 Sc3_1 Sc4_1 X_1 Xz_1 Xc0_1 Xc1_1 Xc2_1 Xc3_1 R_1 Rz_1 Rc0_1 Rc1_1 Rc2_1 Rc3_1 Rc4_1 q_1
  clear b
  have fS0 := blk_free S_2.out 0
  have fS1 := blk_free S_2.out 1
  have fS2 := blk_free S_2.out 2
  have fS3 := blk_free S_2.out 3
  have fS4 := blk_free S_2.out 4
  have fR0 := blk_free R_2.out 0
  have fR1 := blk_free R_2.out 1
  have fR2 := blk_free R_2.out 2
  have fR3 := blk_free R_2.out 3
  have fR4 := blk_free R_2.out 4
  have hRR := HRR.out
  go_wp2_with (first | (go_at_call 23; refine (rin_any _ _ _ _).mono ?_; rintro e w' ⟨rfl, rfl⟩) | (go_at_call 26; refine (tick_any _ _).mono ?_; rintro e w' ⟨rfl, rfl⟩))
  clear fS0 fS1 fS2 fS3 fS4 fR0 fR1 fR2 fR3 fR4
  have Nz : Hid (min (r + 1) 1099511627776 = N) := HRR
  clear Nz
  clear Sc0_2 Sc1_2 Sc2_2 Sc3_2 Sc4_2 Xc0_2 Xc1_2 Xc2_2 Xc3_2 Rc0_2 Rc1_2 Rc2_2 Rc3_2 Rc4_2
  have st0 : Hid ((V2.setCell ⟨w.heap.size, 0, none⟩ (.int .i64 D)).heap[w.heap.size]? = some (.cells #[.int .i64 D, .int .i64 a, .int .i64 i, .int .i64 r, .int .i64 k] 40 (0, 0))) := Lib.hid (blk_set S_2.out 0 (.int .i64 D))
  have S_3 : Hid ((V2.setCell ⟨w.heap.size, 0, none⟩ (.int .i64 D)).heap[w.heap.size]? = some (.cells #[.int .i64 D, .int .i64 a, .int .i64 i, .int .i64 r, .int .i64 k] 40 (0, 0))) := Lib.hid (st0.out)
  have X_3 : Hid ((V2.setCell ⟨w.heap.size, 0, none⟩ (.int .i64 D)).heap[w.heap.size + 1]? = some (.cells #[.int .i64 pd, .int .i64 pa, .int .i64 pi, .int .i64 pl] 42 (0, 0))) := Lib.hid ((blk_other (i := 0) X_2.out (by first | assumption | omega) (.int .i64 D)))
  have R_3 : Hid ((V2.setCell ⟨w.heap.size, 0, none⟩ (.int .i64 D)).heap[w.heap.size + 1 + 1]? = some (.cells #[.int .i64 0, .int .i64 0, .int .i64 0, .int .i64 0, .int .i64 0] 40 (0, 0))) := Lib.hid ((blk_other (i := 0) R_2.out (by first | assumption | omega) (.int .i64 D)))
  have q_3 : Below w.heap.size w (V2.setCell ⟨w.heap.size, 0, none⟩ (.int .i64 D)) := (q_2.setCell (p := ⟨w.heap.size, 0, none⟩) (by first | exact Nat.le_refl _ | omega) (.int .i64 D))
  clear q_2 S_2 Sz_2 X_2 Xz_2 R_2 Rz_2 st0
  generalize (V2.setCell ⟨w.heap.size, 0, none⟩ (.int .i64 D)) = Y0 at q_3 S_3 X_3 R_3 ⊢
  have Sz_3 := blk_lt S_3.out
  have Sc0_3 := blk_cell S_3.out 0
  have Sc1_3 := blk_cell S_3.out 1
  have Sc2_3 := blk_cell S_3.out 2
  have Sc3_3 := blk_cell S_3.out 3
  have Sc4_3 := blk_cell S_3.out 4
  have Xz_3 := blk_lt X_3.out
  have Xc0_3 := blk_cell X_3.out 0
  have Xc1_3 := blk_cell X_3.out 1
  have Xc2_3 := blk_cell X_3.out 2
  have Xc3_3 := blk_cell X_3.out 3
  have Rz_3 := blk_lt R_3.out
  have Rc0_3 := blk_cell R_3.out 0
  have Rc1_3 := blk_cell R_3.out 1
  have Rc2_3 := blk_cell R_3.out 2
  have Rc3_3 := blk_cell R_3.out 3
  have Rc4_3 := blk_cell R_3.out 4
  have fS0 := blk_free S_3.out 0
  have fS1 := blk_free S_3.out 1
  have fS2 := blk_free S_3.out 2
  have fS3 := blk_free S_3.out 3
  have fS4 := blk_free S_3.out 4
  go_cut [] (fun (wx : World) => wx.heap[w.heap.size]? = some (.cells #[.int .i64 D, .int .i64 v, .int .i64 pl, .int .i64 r, .int .i64 k] 40 (0, 0)) ∧ wx.heap[w.heap.size + 1]? = some (.cells #[.int .i64 pd, .int .i64 pa, .int .i64 pi, .int .i64 pl] 42 (0, 0)) ∧ wx.heap[w.heap.size + 1 + 1]? = some (.cells #[.int .i64 0, .int .i64 0, .int .i64 0, .int .i64 0, .int .i64 0] 40 (0, 0)) ∧ Below w.heap.size w wx)
  case first =>
    go_region
    all_goals
      go_wp2_with fail
      go_meet
      exact ⟨blk_drew (blk_set (blk_set S_3.out 1 (.int .i64 v)) 2 (.int .i64 pl)), blk_drew (blk_other (i := 2) (blk_other (i := 1) X_3.out nsx (.int .i64 v)) nsx (.int .i64 pl)), blk_drew (blk_other (i := 2) (blk_other (i := 1) R_3.out nsr (.int .i64 v)) nsr (.int .i64 pl)), ((q_3.setCell (p := ⟨w.heap.size, 1, none⟩) (Nat.le_refl _) (.int .i64 v)).setCell (p := ⟨w.heap.size, 2, none⟩) (Nat.le_refl _) (.int .i64 pl)).drew⟩
  case rest =>
    obtain ⟨kS, kX, kR, kq⟩ := hcut
    clear S_3 X_3 R_3 q_3 Sc0_3 Sc1_3 Sc2_3 Sc3_3 Sc4_3 Xc0_3 Xc1_3 Xc2_3 Xc3_3 Rc0_3 Rc1_3 Rc2_3 Rc3_3 Rc4_3
    clear fS0 fS1 fS2 fS3 fS4
    have q_0 := kq
    have Sz_0 := blk_lt kS
    have Xz_0 := blk_lt kX
    have Rz_0 := blk_lt kR
    have S_0 := Lib.hid (kS)
    have Sc0_0 := blk_cell S_0.out 0
    have Sc1_0 := blk_cell S_0.out 1
    have Sc2_0 := blk_cell S_0.out 2
    have Sc3_0 := blk_cell S_0.out 3
    have Sc4_0 := blk_cell S_0.out 4
    have X_0 := Lib.hid (kX)
    have Xc0_0 := blk_cell X_0.out 0
    have Xc1_0 := blk_cell X_0.out 1
    have Xc2_0 := blk_cell X_0.out 2
    have Xc3_0 := blk_cell X_0.out 3
    have R_0 := Lib.hid (kR)
    have Rc0_0 := blk_cell R_0.out 0
    have Rc1_0 := blk_cell R_0.out 1
    have Rc2_0 := blk_cell R_0.out 2
    have Rc3_0 := blk_cell R_0.out 3
    have Rc4_0 := blk_cell R_0.out 4
    clear kS kX kR kq
    have fS0 := blk_free S_0.out 0
    have fS1 := blk_free S_0.out 1
    have fS2 := blk_free S_0.out 2
    have fS3 := blk_free S_0.out 3
    have fS4 := blk_free S_0.out 4
    go_wp2_with fail
    clear fS0 fS1 fS2 fS3 fS4
    have hO := HO.out
    have hT := HT.out
    go_quiet (fail)
    clear Sc0_0 Sc1_0 Sc2_0 Sc3_0 Sc4_0 Xc0_0 Xc1_0 Xc2_0 Xc3_0 Rc0_0 Rc1_0 Rc2_0 Rc3_0 Rc4_0
    have S_1 : Hid ((wc.drewN nq).heap[w.heap.size]? = some (.cells #[.int .i64 D, .int .i64 v, .int .i64 pl, .int .i64 r, .int .i64 k] 40 (0, 0))) := Lib.hid (blk_drewN S_0.out nq)
    have X_1 : Hid ((wc.drewN nq).heap[w.heap.size + 1]? = some (.cells #[.int .i64 pd, .int .i64 pa, .int .i64 pi, .int .i64 pl] 42 (0, 0))) := Lib.hid (blk_drewN X_0.out nq)
    have R_1 : Hid ((wc.drewN nq).heap[w.heap.size + 1 + 1]? = some (.cells #[.int .i64 0, .int .i64 0, .int .i64 0, .int .i64 0, .int .i64 0] 40 (0, 0))) := Lib.hid (blk_drewN R_0.out nq)
    have q_1 := below_drewN q_0 nq
    clear q_0 S_0 Sz_0 X_0 Xz_0 R_0 Rz_0
    generalize wc.drewN nq = Y2 at q_1 S_1 X_1 R_1 ⊢
    have Sz_1 := blk_lt S_1.out
    have Sc0_1 := blk_cell S_1.out 0
    have Sc1_1 := blk_cell S_1.out 1
    have Sc2_1 := blk_cell S_1.out 2
    have Sc3_1 := blk_cell S_1.out 3
    have Sc4_1 := blk_cell S_1.out 4
    have Xz_1 := blk_lt X_1.out
    have Xc0_1 := blk_cell X_1.out 0
    have Xc1_1 := blk_cell X_1.out 1
    have Xc2_1 := blk_cell X_1.out 2
    have Xc3_1 := blk_cell X_1.out 3
    have Rz_1 := blk_lt R_1.out
    have Rc0_1 := blk_cell R_1.out 0
    have Rc1_1 := blk_cell R_1.out 1
    have Rc2_1 := blk_cell R_1.out 2
    have Rc3_1 := blk_cell R_1.out 3
    have Rc4_1 := blk_cell R_1.out 4
    clear hO hT HO HT
    have fS0 := blk_free S_1.out 0
    have fS1 := blk_free S_1.out 1
    have fS2 := blk_free S_1.out 2
    have fS3 := blk_free S_1.out 3
    have fS4 := blk_free S_1.out 4
    have fR0 := blk_free R_1.out 0
    have fR1 := blk_free R_1.out 1
    have fR2 := blk_free R_1.out 2
    have fR3 := blk_free R_1.out 3
    have fR4 := blk_free R_1.out 4
    have QY := Lib.hid q_1
    clear S_1 X_1 R_1
    go_wp2
    refine bodyPost_ret (v := .tuple #[.agg #[.int .i64 D, .int .i64 v, .int .i64 pl, .int .i64 r, .int .i64 k], .int .i64 0, .bool false, .int .i64 0]) (by simp [results, Try.results18, go_sem, *]) rfl ⟨rfl, ?_⟩
    (repeat' (first | (with_reducible exact QY.out) | (with_reducible exact Below.refl _ _) | (with_reducible refine Below.alloc ?_ ?_ _) | (with_reducible refine Below.setCell ?_ ?_ _) | (with_reducible refine Below.drew ?_) | (with_reducible refine below_drewN ?_ _) | omega | (dsimp only; omega) | (simp; done) | (simp; omega)))

set_option maxRecDepth 100000 in
set_option maxHeartbeats 2000000 in
theorem rdeliver_nt (d a i r k pd pa pi pl n v D N O T : Int) (w : World) (hS : RV d a i r k) (hD : DV n v pd pa pi pl) (hDD : min (d + n) 1099511627776 = D) (hRR : min (r + 1) 1099511627776 = N) (hO : D - pd = O) (hT : max (pl - pi) (v - pa) = T) (hk : pd < k) (h0 : 0 < O) (h1 : T ≤ 0) :
    Calls Try.prog 18 #[.agg #[.int .i64 d, .int .i64 a, .int .i64 i, .int .i64 r, .int .i64 k], .agg #[.int .i64 pd, .int .i64 pa, .int .i64 pi, .int .i64 pl], .int .i64 n, .int .i64 v] w fun e w' => e = .returned (.tuple #[.agg #[.int .i64 D, .int .i64 v, .int .i64 pl, .int .i64 r, .int .i64 k], .int .i64 0, .bool false, .int .i64 0]) ∧ Below w.heap.size w w' := by
  have HS := Lib.hid hS
  obtain ⟨⟨d0, d1⟩, ⟨a0, a1⟩, ⟨i0, i1⟩, ⟨r0, r1⟩, k0, k1⟩ := hS
  obtain ⟨⟨n0, n1⟩, ⟨v0, v1⟩, ⟨pd0, pd1⟩, ⟨pa0, pa1⟩, ⟨pi0, pi1⟩, pl0, pl1⟩ := hD
  have tn := inb_true n0 n1
  have tv := inb_true v0 v1
  have tpd := inb_true pd0 pd1
  have tpa := inb_true pa0 pa1
  have tpi := inb_true pi0 pi1
  have tpl := inb_true pl0 pl1
  have D0 : 0 ≤ D ∧ D ≤ 1099511627776 := by omega
  obtain ⟨D0, D1⟩ := D0
  have HO := Lib.hid hO
  have HT := Lib.hid hT
  have HDD := Lib.hid hDD
  have HRR := Lib.hid hRR
  clear hO hT hRR
  have q_0 := Below.refl w.heap.size w
  go_enter Try.func18, Try.ntmps18
  go_wp2_with fail
  have b : Below w.heap.size w (((w.alloc (.cells #[.int .i64 d, .int .i64 a, .int .i64 i, .int .i64 r, .int .i64 k] 40)).alloc (.cells #[.int .i64 pd, .int .i64 pa, .int .i64 pi, .int .i64 pl] 42)).alloc (.cells #[.int .i64 0, .int .i64 0, .int .i64 0, .int .i64 0, .int .i64 0] 40)) := ((((Below.refl _ w).alloc (Nat.le_refl _) (.cells #[.int .i64 d, .int .i64 a, .int .i64 i, .int .i64 r, .int .i64 k] 40)).alloc (by simp only [World.size_alloc]; omega) (.cells #[.int .i64 pd, .int .i64 pa, .int .i64 pi, .int .i64 pl] 42)).alloc (by simp only [World.size_alloc]; omega) (.cells #[.int .i64 0, .int .i64 0, .int .i64 0, .int .i64 0, .int .i64 0] 40))
  have nb0 := blk_new w (.cells #[.int .i64 d, .int .i64 a, .int .i64 i, .int .i64 r, .int .i64 k] 40)
  have nb0 := (Below.heap_alloc (w.alloc (.cells #[.int .i64 d, .int .i64 a, .int .i64 i, .int .i64 r, .int .i64 k] 40)) (.cells #[.int .i64 pd, .int .i64 pa, .int .i64 pi, .int .i64 pl] 42) (w.heap.size) (by simp only [World.size_alloc]; omega)).trans nb0
  have nb0 := (Below.heap_alloc ((w.alloc (.cells #[.int .i64 d, .int .i64 a, .int .i64 i, .int .i64 r, .int .i64 k] 40)).alloc (.cells #[.int .i64 pd, .int .i64 pa, .int .i64 pi, .int .i64 pl] 42)) (.cells #[.int .i64 0, .int .i64 0, .int .i64 0, .int .i64 0, .int .i64 0] 40) (w.heap.size) (by simp only [World.size_alloc]; omega)).trans nb0
  have nz0 : w.heap.size < (((w.alloc (.cells #[.int .i64 d, .int .i64 a, .int .i64 i, .int .i64 r, .int .i64 k] 40)).alloc (.cells #[.int .i64 pd, .int .i64 pa, .int .i64 pi, .int .i64 pl] 42)).alloc (.cells #[.int .i64 0, .int .i64 0, .int .i64 0, .int .i64 0, .int .i64 0] 40)).heap.size := by simp only [World.size_alloc]; omega
  have nb1 := blk_new (w.alloc (.cells #[.int .i64 d, .int .i64 a, .int .i64 i, .int .i64 r, .int .i64 k] 40)) (.cells #[.int .i64 pd, .int .i64 pa, .int .i64 pi, .int .i64 pl] 42)
  simp only [World.size_alloc] at nb1
  have nb1 := (Below.heap_alloc ((w.alloc (.cells #[.int .i64 d, .int .i64 a, .int .i64 i, .int .i64 r, .int .i64 k] 40)).alloc (.cells #[.int .i64 pd, .int .i64 pa, .int .i64 pi, .int .i64 pl] 42)) (.cells #[.int .i64 0, .int .i64 0, .int .i64 0, .int .i64 0, .int .i64 0] 40) (w.heap.size + 1) (by simp only [World.size_alloc]; omega)).trans nb1
  have nz1 : w.heap.size + 1 < (((w.alloc (.cells #[.int .i64 d, .int .i64 a, .int .i64 i, .int .i64 r, .int .i64 k] 40)).alloc (.cells #[.int .i64 pd, .int .i64 pa, .int .i64 pi, .int .i64 pl] 42)).alloc (.cells #[.int .i64 0, .int .i64 0, .int .i64 0, .int .i64 0, .int .i64 0] 40)).heap.size := by simp only [World.size_alloc]; omega
  have nb2 := blk_new ((w.alloc (.cells #[.int .i64 d, .int .i64 a, .int .i64 i, .int .i64 r, .int .i64 k] 40)).alloc (.cells #[.int .i64 pd, .int .i64 pa, .int .i64 pi, .int .i64 pl] 42)) (.cells #[.int .i64 0, .int .i64 0, .int .i64 0, .int .i64 0, .int .i64 0] 40)
  simp only [World.size_alloc] at nb2
  have nz2 : w.heap.size + 2 < (((w.alloc (.cells #[.int .i64 d, .int .i64 a, .int .i64 i, .int .i64 r, .int .i64 k] 40)).alloc (.cells #[.int .i64 pd, .int .i64 pa, .int .i64 pi, .int .i64 pl] 42)).alloc (.cells #[.int .i64 0, .int .i64 0, .int .i64 0, .int .i64 0, .int .i64 0] 40)).heap.size := by simp only [World.size_alloc]; omega
  have q_1 := q_0.trans (b.mono q_0.size)
  clear q_0
  clear b
  have S_1 := Lib.hid nb0
  have Sz_1 := nz0
  clear nb0 nz0
  have Sc0_1 := blk_cell S_1.out 0
  have Sc1_1 := blk_cell S_1.out 1
  have Sc2_1 := blk_cell S_1.out 2
  have Sc3_1 := blk_cell S_1.out 3
  have Sc4_1 := blk_cell S_1.out 4
  have X_1 := Lib.hid nb1
  have Xz_1 := nz1
  clear nb1 nz1
  have Xc0_1 := blk_cell X_1.out 0
  have Xc1_1 := blk_cell X_1.out 1
  have Xc2_1 := blk_cell X_1.out 2
  have Xc3_1 := blk_cell X_1.out 3
  have R_1 := Lib.hid nb2
  have Rz_1 := nz2
  clear nb2 nz2
  have Rc0_1 := blk_cell R_1.out 0
  have Rc1_1 := blk_cell R_1.out 1
  have Rc2_1 := blk_cell R_1.out 2
  have Rc3_1 := blk_cell R_1.out 3
  have Rc4_1 := blk_cell R_1.out 4
  generalize (((w.alloc (.cells #[.int .i64 d, .int .i64 a, .int .i64 i, .int .i64 r, .int .i64 k] 40)).alloc (.cells #[.int .i64 pd, .int .i64 pa, .int .i64 pi, .int .i64 pl] 42)).alloc (.cells #[.int .i64 0, .int .i64 0, .int .i64 0, .int .i64 0, .int .i64 0] 40)) = V1 at q_1 S_1 Sz_1 Sc0_1 Sc1_1 Sc2_1 Sc3_1 Sc4_1 X_1 Xz_1 Xc0_1 Xc1_1 Xc2_1 Xc3_1 R_1 Rz_1 Rc0_1 Rc1_1 Rc2_1 Rc3_1 Rc4_1 ⊢
  have nsx : w.heap.size ≠ w.heap.size + 1 := by omega
  have nsr : w.heap.size ≠ w.heap.size + 1 + 1 := by omega
  have nxr : w.heap.size + 1 ≠ w.heap.size + 1 + 1 := by omega
  have nxs := nsx.symm
  have nrs := nsr.symm
  have nrx := nxr.symm
  refine (rrmay_yes d a i r k _ HS.out).mono ?_
  rintro e V2 ⟨rfl, b⟩
  have S_2 := Lib.hid ((b.block _ Sz_1).trans S_1.out)
  have Sz_2 := Nat.lt_of_lt_of_le Sz_1 b.size
  have Sc0_2 := blk_cell S_2.out 0
  have Sc1_2 := blk_cell S_2.out 1
  have Sc2_2 := blk_cell S_2.out 2
  have Sc3_2 := blk_cell S_2.out 3
  have Sc4_2 := blk_cell S_2.out 4
  have X_2 := Lib.hid ((b.block _ Xz_1).trans X_1.out)
  have Xz_2 := Nat.lt_of_lt_of_le Xz_1 b.size
  have Xc0_2 := blk_cell X_2.out 0
  have Xc1_2 := blk_cell X_2.out 1
  have Xc2_2 := blk_cell X_2.out 2
  have Xc3_2 := blk_cell X_2.out 3
  have R_2 := Lib.hid ((b.block _ Rz_1).trans R_1.out)
  have Rz_2 := Nat.lt_of_lt_of_le Rz_1 b.size
  have Rc0_2 := blk_cell R_2.out 0
  have Rc1_2 := blk_cell R_2.out 1
  have Rc2_2 := blk_cell R_2.out 2
  have Rc3_2 := blk_cell R_2.out 3
  have Rc4_2 := blk_cell R_2.out 4
  have q_2 := q_1.trans (b.mono q_1.size)
  clear S_1 Sz_1 Sc0_1 Sc1_1 Sc2_1 Sc3_1 Sc4_1 X_1 Xz_1 Xc0_1 Xc1_1 Xc2_1 Xc3_1 R_1 Rz_1 Rc0_1 Rc1_1 Rc2_1 Rc3_1 Rc4_1 q_1
  clear b
  have fS0 := blk_free S_2.out 0
  have fS1 := blk_free S_2.out 1
  have fS2 := blk_free S_2.out 2
  have fS3 := blk_free S_2.out 3
  have fS4 := blk_free S_2.out 4
  have fR0 := blk_free R_2.out 0
  have fR1 := blk_free R_2.out 1
  have fR2 := blk_free R_2.out 2
  have fR3 := blk_free R_2.out 3
  have fR4 := blk_free R_2.out 4
  have hRR := HRR.out
  go_wp2_with (first | (go_at_call 23; refine (rin_any _ _ _ _).mono ?_; rintro e w' ⟨rfl, rfl⟩) | (go_at_call 26; refine (tick_any _ _).mono ?_; rintro e w' ⟨rfl, rfl⟩))
  clear fS0 fS1 fS2 fS3 fS4 fR0 fR1 fR2 fR3 fR4
  have Nz : Hid (min (r + 1) 1099511627776 = N) := HRR
  clear Nz
  clear Sc0_2 Sc1_2 Sc2_2 Sc3_2 Sc4_2 Xc0_2 Xc1_2 Xc2_2 Xc3_2 Rc0_2 Rc1_2 Rc2_2 Rc3_2 Rc4_2
  have st0 : Hid ((V2.setCell ⟨w.heap.size, 0, none⟩ (.int .i64 D)).heap[w.heap.size]? = some (.cells #[.int .i64 D, .int .i64 a, .int .i64 i, .int .i64 r, .int .i64 k] 40 (0, 0))) := Lib.hid (blk_set S_2.out 0 (.int .i64 D))
  have S_3 : Hid ((V2.setCell ⟨w.heap.size, 0, none⟩ (.int .i64 D)).heap[w.heap.size]? = some (.cells #[.int .i64 D, .int .i64 a, .int .i64 i, .int .i64 r, .int .i64 k] 40 (0, 0))) := Lib.hid (st0.out)
  have X_3 : Hid ((V2.setCell ⟨w.heap.size, 0, none⟩ (.int .i64 D)).heap[w.heap.size + 1]? = some (.cells #[.int .i64 pd, .int .i64 pa, .int .i64 pi, .int .i64 pl] 42 (0, 0))) := Lib.hid ((blk_other (i := 0) X_2.out (by first | assumption | omega) (.int .i64 D)))
  have R_3 : Hid ((V2.setCell ⟨w.heap.size, 0, none⟩ (.int .i64 D)).heap[w.heap.size + 1 + 1]? = some (.cells #[.int .i64 0, .int .i64 0, .int .i64 0, .int .i64 0, .int .i64 0] 40 (0, 0))) := Lib.hid ((blk_other (i := 0) R_2.out (by first | assumption | omega) (.int .i64 D)))
  have q_3 : Below w.heap.size w (V2.setCell ⟨w.heap.size, 0, none⟩ (.int .i64 D)) := (q_2.setCell (p := ⟨w.heap.size, 0, none⟩) (by first | exact Nat.le_refl _ | omega) (.int .i64 D))
  clear q_2 S_2 Sz_2 X_2 Xz_2 R_2 Rz_2 st0
  generalize (V2.setCell ⟨w.heap.size, 0, none⟩ (.int .i64 D)) = Y0 at q_3 S_3 X_3 R_3 ⊢
  have Sz_3 := blk_lt S_3.out
  have Sc0_3 := blk_cell S_3.out 0
  have Sc1_3 := blk_cell S_3.out 1
  have Sc2_3 := blk_cell S_3.out 2
  have Sc3_3 := blk_cell S_3.out 3
  have Sc4_3 := blk_cell S_3.out 4
  have Xz_3 := blk_lt X_3.out
  have Xc0_3 := blk_cell X_3.out 0
  have Xc1_3 := blk_cell X_3.out 1
  have Xc2_3 := blk_cell X_3.out 2
  have Xc3_3 := blk_cell X_3.out 3
  have Rz_3 := blk_lt R_3.out
  have Rc0_3 := blk_cell R_3.out 0
  have Rc1_3 := blk_cell R_3.out 1
  have Rc2_3 := blk_cell R_3.out 2
  have Rc3_3 := blk_cell R_3.out 3
  have Rc4_3 := blk_cell R_3.out 4
  have fS0 := blk_free S_3.out 0
  have fS1 := blk_free S_3.out 1
  have fS2 := blk_free S_3.out 2
  have fS3 := blk_free S_3.out 3
  have fS4 := blk_free S_3.out 4
  go_cut [] (fun (wx : World) => wx.heap[w.heap.size]? = some (.cells #[.int .i64 D, .int .i64 v, .int .i64 pl, .int .i64 r, .int .i64 k] 40 (0, 0)) ∧ wx.heap[w.heap.size + 1]? = some (.cells #[.int .i64 pd, .int .i64 pa, .int .i64 pi, .int .i64 pl] 42 (0, 0)) ∧ wx.heap[w.heap.size + 1 + 1]? = some (.cells #[.int .i64 0, .int .i64 0, .int .i64 0, .int .i64 0, .int .i64 0] 40 (0, 0)) ∧ Below w.heap.size w wx)
  case first =>
    go_region
    all_goals
      go_wp2_with fail
      go_meet
      exact ⟨blk_drew (blk_set (blk_set S_3.out 1 (.int .i64 v)) 2 (.int .i64 pl)), blk_drew (blk_other (i := 2) (blk_other (i := 1) X_3.out nsx (.int .i64 v)) nsx (.int .i64 pl)), blk_drew (blk_other (i := 2) (blk_other (i := 1) R_3.out nsr (.int .i64 v)) nsr (.int .i64 pl)), ((q_3.setCell (p := ⟨w.heap.size, 1, none⟩) (Nat.le_refl _) (.int .i64 v)).setCell (p := ⟨w.heap.size, 2, none⟩) (Nat.le_refl _) (.int .i64 pl)).drew⟩
  case rest =>
    obtain ⟨kS, kX, kR, kq⟩ := hcut
    clear S_3 X_3 R_3 q_3 Sc0_3 Sc1_3 Sc2_3 Sc3_3 Sc4_3 Xc0_3 Xc1_3 Xc2_3 Xc3_3 Rc0_3 Rc1_3 Rc2_3 Rc3_3 Rc4_3
    clear fS0 fS1 fS2 fS3 fS4
    have q_0 := kq
    have Sz_0 := blk_lt kS
    have Xz_0 := blk_lt kX
    have Rz_0 := blk_lt kR
    have S_0 := Lib.hid (kS)
    have Sc0_0 := blk_cell S_0.out 0
    have Sc1_0 := blk_cell S_0.out 1
    have Sc2_0 := blk_cell S_0.out 2
    have Sc3_0 := blk_cell S_0.out 3
    have Sc4_0 := blk_cell S_0.out 4
    have X_0 := Lib.hid (kX)
    have Xc0_0 := blk_cell X_0.out 0
    have Xc1_0 := blk_cell X_0.out 1
    have Xc2_0 := blk_cell X_0.out 2
    have Xc3_0 := blk_cell X_0.out 3
    have R_0 := Lib.hid (kR)
    have Rc0_0 := blk_cell R_0.out 0
    have Rc1_0 := blk_cell R_0.out 1
    have Rc2_0 := blk_cell R_0.out 2
    have Rc3_0 := blk_cell R_0.out 3
    have Rc4_0 := blk_cell R_0.out 4
    clear kS kX kR kq
    have fS0 := blk_free S_0.out 0
    have fS1 := blk_free S_0.out 1
    have fS2 := blk_free S_0.out 2
    have fS3 := blk_free S_0.out 3
    have fS4 := blk_free S_0.out 4
    go_wp2_with fail
    clear fS0 fS1 fS2 fS3 fS4
    have hO := HO.out
    have hT := HT.out
    go_quiet (fail)
    clear Sc0_0 Sc1_0 Sc2_0 Sc3_0 Sc4_0 Xc0_0 Xc1_0 Xc2_0 Xc3_0 Rc0_0 Rc1_0 Rc2_0 Rc3_0 Rc4_0
    have S_1 : Hid ((wc.drewN nq).heap[w.heap.size]? = some (.cells #[.int .i64 D, .int .i64 v, .int .i64 pl, .int .i64 r, .int .i64 k] 40 (0, 0))) := Lib.hid (blk_drewN S_0.out nq)
    have X_1 : Hid ((wc.drewN nq).heap[w.heap.size + 1]? = some (.cells #[.int .i64 pd, .int .i64 pa, .int .i64 pi, .int .i64 pl] 42 (0, 0))) := Lib.hid (blk_drewN X_0.out nq)
    have R_1 : Hid ((wc.drewN nq).heap[w.heap.size + 1 + 1]? = some (.cells #[.int .i64 0, .int .i64 0, .int .i64 0, .int .i64 0, .int .i64 0] 40 (0, 0))) := Lib.hid (blk_drewN R_0.out nq)
    have q_1 := below_drewN q_0 nq
    clear q_0 S_0 Sz_0 X_0 Xz_0 R_0 Rz_0
    generalize wc.drewN nq = Y2 at q_1 S_1 X_1 R_1 ⊢
    have Sz_1 := blk_lt S_1.out
    have Sc0_1 := blk_cell S_1.out 0
    have Sc1_1 := blk_cell S_1.out 1
    have Sc2_1 := blk_cell S_1.out 2
    have Sc3_1 := blk_cell S_1.out 3
    have Sc4_1 := blk_cell S_1.out 4
    have Xz_1 := blk_lt X_1.out
    have Xc0_1 := blk_cell X_1.out 0
    have Xc1_1 := blk_cell X_1.out 1
    have Xc2_1 := blk_cell X_1.out 2
    have Xc3_1 := blk_cell X_1.out 3
    have Rz_1 := blk_lt R_1.out
    have Rc0_1 := blk_cell R_1.out 0
    have Rc1_1 := blk_cell R_1.out 1
    have Rc2_1 := blk_cell R_1.out 2
    have Rc3_1 := blk_cell R_1.out 3
    have Rc4_1 := blk_cell R_1.out 4
    clear hO hT HO HT
    have fS0 := blk_free S_1.out 0
    have fS1 := blk_free S_1.out 1
    have fS2 := blk_free S_1.out 2
    have fS3 := blk_free S_1.out 3
    have fS4 := blk_free S_1.out 4
    have fR0 := blk_free R_1.out 0
    have fR1 := blk_free R_1.out 1
    have fR2 := blk_free R_1.out 2
    have fR3 := blk_free R_1.out 3
    have fR4 := blk_free R_1.out 4
    have QY := Lib.hid q_1
    clear S_1 X_1 R_1
    go_wp2
    refine bodyPost_ret (v := .tuple #[.agg #[.int .i64 D, .int .i64 v, .int .i64 pl, .int .i64 r, .int .i64 k], .int .i64 0, .bool false, .int .i64 0]) (by simp [results, Try.results18, go_sem, *]) rfl ⟨rfl, ?_⟩
    (repeat' (first | (with_reducible exact QY.out) | (with_reducible exact Below.refl _ _) | (with_reducible refine Below.alloc ?_ ?_ _) | (with_reducible refine Below.setCell ?_ ?_ _) | (with_reducible refine Below.drew ?_) | (with_reducible refine below_drewN ?_ _) | omega | (dsimp only; omega) | (simp; done) | (simp; omega)))

set_option maxRecDepth 100000 in
set_option maxHeartbeats 2000000 in
theorem rdeliver_nr (d a i r k pd pa pi pl n v D N O T Q : Int) (w : World) (hS : RV d a i r k) (hD : DV n v pd pa pi pl) (hDD : min (d + n) 1099511627776 = D) (hRR : min (r + 1) 1099511627776 = N) (hO : D - pd = O) (hT : max (pl - pi) (v - pa) = T) (hk : pd < k) (h0 : 0 < O) (h1 : 0 < T) (hQ : min (O * 1024 / T) 1073741824 = Q) :
    Calls Try.prog 18 #[.agg #[.int .i64 d, .int .i64 a, .int .i64 i, .int .i64 r, .int .i64 k], .agg #[.int .i64 pd, .int .i64 pa, .int .i64 pi, .int .i64 pl], .int .i64 n, .int .i64 v] w fun e w' => e = .returned (.tuple #[.agg #[.int .i64 D, .int .i64 v, .int .i64 pl, .int .i64 r, .int .i64 k], .int .i64 Q, .bool true, .int .i64 0]) ∧ Below w.heap.size w w' := by
  have HS := Lib.hid hS
  obtain ⟨⟨d0, d1⟩, ⟨a0, a1⟩, ⟨i0, i1⟩, ⟨r0, r1⟩, k0, k1⟩ := hS
  obtain ⟨⟨n0, n1⟩, ⟨v0, v1⟩, ⟨pd0, pd1⟩, ⟨pa0, pa1⟩, ⟨pi0, pi1⟩, pl0, pl1⟩ := hD
  have tn := inb_true n0 n1
  have tv := inb_true v0 v1
  have tpd := inb_true pd0 pd1
  have tpa := inb_true pa0 pa1
  have tpi := inb_true pi0 pi1
  have tpl := inb_true pl0 pl1
  have D0 : 0 ≤ D ∧ D ≤ 1099511627776 := by omega
  obtain ⟨D0, D1⟩ := D0
  have HO := Lib.hid hO
  have HT := Lib.hid hT
  have HDD := Lib.hid hDD
  have HRR := Lib.hid hRR
  clear hO hT hRR
  have q_0 := Below.refl w.heap.size w
  go_enter Try.func18, Try.ntmps18
  go_wp2_with fail
  have b : Below w.heap.size w (((w.alloc (.cells #[.int .i64 d, .int .i64 a, .int .i64 i, .int .i64 r, .int .i64 k] 40)).alloc (.cells #[.int .i64 pd, .int .i64 pa, .int .i64 pi, .int .i64 pl] 42)).alloc (.cells #[.int .i64 0, .int .i64 0, .int .i64 0, .int .i64 0, .int .i64 0] 40)) := ((((Below.refl _ w).alloc (Nat.le_refl _) (.cells #[.int .i64 d, .int .i64 a, .int .i64 i, .int .i64 r, .int .i64 k] 40)).alloc (by simp only [World.size_alloc]; omega) (.cells #[.int .i64 pd, .int .i64 pa, .int .i64 pi, .int .i64 pl] 42)).alloc (by simp only [World.size_alloc]; omega) (.cells #[.int .i64 0, .int .i64 0, .int .i64 0, .int .i64 0, .int .i64 0] 40))
  have nb0 := blk_new w (.cells #[.int .i64 d, .int .i64 a, .int .i64 i, .int .i64 r, .int .i64 k] 40)
  have nb0 := (Below.heap_alloc (w.alloc (.cells #[.int .i64 d, .int .i64 a, .int .i64 i, .int .i64 r, .int .i64 k] 40)) (.cells #[.int .i64 pd, .int .i64 pa, .int .i64 pi, .int .i64 pl] 42) (w.heap.size) (by simp only [World.size_alloc]; omega)).trans nb0
  have nb0 := (Below.heap_alloc ((w.alloc (.cells #[.int .i64 d, .int .i64 a, .int .i64 i, .int .i64 r, .int .i64 k] 40)).alloc (.cells #[.int .i64 pd, .int .i64 pa, .int .i64 pi, .int .i64 pl] 42)) (.cells #[.int .i64 0, .int .i64 0, .int .i64 0, .int .i64 0, .int .i64 0] 40) (w.heap.size) (by simp only [World.size_alloc]; omega)).trans nb0
  have nz0 : w.heap.size < (((w.alloc (.cells #[.int .i64 d, .int .i64 a, .int .i64 i, .int .i64 r, .int .i64 k] 40)).alloc (.cells #[.int .i64 pd, .int .i64 pa, .int .i64 pi, .int .i64 pl] 42)).alloc (.cells #[.int .i64 0, .int .i64 0, .int .i64 0, .int .i64 0, .int .i64 0] 40)).heap.size := by simp only [World.size_alloc]; omega
  have nb1 := blk_new (w.alloc (.cells #[.int .i64 d, .int .i64 a, .int .i64 i, .int .i64 r, .int .i64 k] 40)) (.cells #[.int .i64 pd, .int .i64 pa, .int .i64 pi, .int .i64 pl] 42)
  simp only [World.size_alloc] at nb1
  have nb1 := (Below.heap_alloc ((w.alloc (.cells #[.int .i64 d, .int .i64 a, .int .i64 i, .int .i64 r, .int .i64 k] 40)).alloc (.cells #[.int .i64 pd, .int .i64 pa, .int .i64 pi, .int .i64 pl] 42)) (.cells #[.int .i64 0, .int .i64 0, .int .i64 0, .int .i64 0, .int .i64 0] 40) (w.heap.size + 1) (by simp only [World.size_alloc]; omega)).trans nb1
  have nz1 : w.heap.size + 1 < (((w.alloc (.cells #[.int .i64 d, .int .i64 a, .int .i64 i, .int .i64 r, .int .i64 k] 40)).alloc (.cells #[.int .i64 pd, .int .i64 pa, .int .i64 pi, .int .i64 pl] 42)).alloc (.cells #[.int .i64 0, .int .i64 0, .int .i64 0, .int .i64 0, .int .i64 0] 40)).heap.size := by simp only [World.size_alloc]; omega
  have nb2 := blk_new ((w.alloc (.cells #[.int .i64 d, .int .i64 a, .int .i64 i, .int .i64 r, .int .i64 k] 40)).alloc (.cells #[.int .i64 pd, .int .i64 pa, .int .i64 pi, .int .i64 pl] 42)) (.cells #[.int .i64 0, .int .i64 0, .int .i64 0, .int .i64 0, .int .i64 0] 40)
  simp only [World.size_alloc] at nb2
  have nz2 : w.heap.size + 2 < (((w.alloc (.cells #[.int .i64 d, .int .i64 a, .int .i64 i, .int .i64 r, .int .i64 k] 40)).alloc (.cells #[.int .i64 pd, .int .i64 pa, .int .i64 pi, .int .i64 pl] 42)).alloc (.cells #[.int .i64 0, .int .i64 0, .int .i64 0, .int .i64 0, .int .i64 0] 40)).heap.size := by simp only [World.size_alloc]; omega
  have q_1 := q_0.trans (b.mono q_0.size)
  clear q_0
  clear b
  have S_1 := Lib.hid nb0
  have Sz_1 := nz0
  clear nb0 nz0
  have Sc0_1 := blk_cell S_1.out 0
  have Sc1_1 := blk_cell S_1.out 1
  have Sc2_1 := blk_cell S_1.out 2
  have Sc3_1 := blk_cell S_1.out 3
  have Sc4_1 := blk_cell S_1.out 4
  have X_1 := Lib.hid nb1
  have Xz_1 := nz1
  clear nb1 nz1
  have Xc0_1 := blk_cell X_1.out 0
  have Xc1_1 := blk_cell X_1.out 1
  have Xc2_1 := blk_cell X_1.out 2
  have Xc3_1 := blk_cell X_1.out 3
  have R_1 := Lib.hid nb2
  have Rz_1 := nz2
  clear nb2 nz2
  have Rc0_1 := blk_cell R_1.out 0
  have Rc1_1 := blk_cell R_1.out 1
  have Rc2_1 := blk_cell R_1.out 2
  have Rc3_1 := blk_cell R_1.out 3
  have Rc4_1 := blk_cell R_1.out 4
  generalize (((w.alloc (.cells #[.int .i64 d, .int .i64 a, .int .i64 i, .int .i64 r, .int .i64 k] 40)).alloc (.cells #[.int .i64 pd, .int .i64 pa, .int .i64 pi, .int .i64 pl] 42)).alloc (.cells #[.int .i64 0, .int .i64 0, .int .i64 0, .int .i64 0, .int .i64 0] 40)) = V1 at q_1 S_1 Sz_1 Sc0_1 Sc1_1 Sc2_1 Sc3_1 Sc4_1 X_1 Xz_1 Xc0_1 Xc1_1 Xc2_1 Xc3_1 R_1 Rz_1 Rc0_1 Rc1_1 Rc2_1 Rc3_1 Rc4_1 ⊢
  have nsx : w.heap.size ≠ w.heap.size + 1 := by omega
  have nsr : w.heap.size ≠ w.heap.size + 1 + 1 := by omega
  have nxr : w.heap.size + 1 ≠ w.heap.size + 1 + 1 := by omega
  have nxs := nsx.symm
  have nrs := nsr.symm
  have nrx := nxr.symm
  refine (rrmay_yes d a i r k _ HS.out).mono ?_
  rintro e V2 ⟨rfl, b⟩
  have S_2 := Lib.hid ((b.block _ Sz_1).trans S_1.out)
  have Sz_2 := Nat.lt_of_lt_of_le Sz_1 b.size
  have Sc0_2 := blk_cell S_2.out 0
  have Sc1_2 := blk_cell S_2.out 1
  have Sc2_2 := blk_cell S_2.out 2
  have Sc3_2 := blk_cell S_2.out 3
  have Sc4_2 := blk_cell S_2.out 4
  have X_2 := Lib.hid ((b.block _ Xz_1).trans X_1.out)
  have Xz_2 := Nat.lt_of_lt_of_le Xz_1 b.size
  have Xc0_2 := blk_cell X_2.out 0
  have Xc1_2 := blk_cell X_2.out 1
  have Xc2_2 := blk_cell X_2.out 2
  have Xc3_2 := blk_cell X_2.out 3
  have R_2 := Lib.hid ((b.block _ Rz_1).trans R_1.out)
  have Rz_2 := Nat.lt_of_lt_of_le Rz_1 b.size
  have Rc0_2 := blk_cell R_2.out 0
  have Rc1_2 := blk_cell R_2.out 1
  have Rc2_2 := blk_cell R_2.out 2
  have Rc3_2 := blk_cell R_2.out 3
  have Rc4_2 := blk_cell R_2.out 4
  have q_2 := q_1.trans (b.mono q_1.size)
  clear S_1 Sz_1 Sc0_1 Sc1_1 Sc2_1 Sc3_1 Sc4_1 X_1 Xz_1 Xc0_1 Xc1_1 Xc2_1 Xc3_1 R_1 Rz_1 Rc0_1 Rc1_1 Rc2_1 Rc3_1 Rc4_1 q_1
  clear b
  have fS0 := blk_free S_2.out 0
  have fS1 := blk_free S_2.out 1
  have fS2 := blk_free S_2.out 2
  have fS3 := blk_free S_2.out 3
  have fS4 := blk_free S_2.out 4
  have fR0 := blk_free R_2.out 0
  have fR1 := blk_free R_2.out 1
  have fR2 := blk_free R_2.out 2
  have fR3 := blk_free R_2.out 3
  have fR4 := blk_free R_2.out 4
  have hRR := HRR.out
  go_wp2_with (first | (go_at_call 23; refine (rin_any _ _ _ _).mono ?_; rintro e w' ⟨rfl, rfl⟩) | (go_at_call 26; refine (tick_any _ _).mono ?_; rintro e w' ⟨rfl, rfl⟩))
  clear fS0 fS1 fS2 fS3 fS4 fR0 fR1 fR2 fR3 fR4
  have Nz : Hid (min (r + 1) 1099511627776 = N) := HRR
  clear Nz
  clear Sc0_2 Sc1_2 Sc2_2 Sc3_2 Sc4_2 Xc0_2 Xc1_2 Xc2_2 Xc3_2 Rc0_2 Rc1_2 Rc2_2 Rc3_2 Rc4_2
  have st0 : Hid ((V2.setCell ⟨w.heap.size, 0, none⟩ (.int .i64 D)).heap[w.heap.size]? = some (.cells #[.int .i64 D, .int .i64 a, .int .i64 i, .int .i64 r, .int .i64 k] 40 (0, 0))) := Lib.hid (blk_set S_2.out 0 (.int .i64 D))
  have S_3 : Hid ((V2.setCell ⟨w.heap.size, 0, none⟩ (.int .i64 D)).heap[w.heap.size]? = some (.cells #[.int .i64 D, .int .i64 a, .int .i64 i, .int .i64 r, .int .i64 k] 40 (0, 0))) := Lib.hid (st0.out)
  have X_3 : Hid ((V2.setCell ⟨w.heap.size, 0, none⟩ (.int .i64 D)).heap[w.heap.size + 1]? = some (.cells #[.int .i64 pd, .int .i64 pa, .int .i64 pi, .int .i64 pl] 42 (0, 0))) := Lib.hid ((blk_other (i := 0) X_2.out (by first | assumption | omega) (.int .i64 D)))
  have R_3 : Hid ((V2.setCell ⟨w.heap.size, 0, none⟩ (.int .i64 D)).heap[w.heap.size + 1 + 1]? = some (.cells #[.int .i64 0, .int .i64 0, .int .i64 0, .int .i64 0, .int .i64 0] 40 (0, 0))) := Lib.hid ((blk_other (i := 0) R_2.out (by first | assumption | omega) (.int .i64 D)))
  have q_3 : Below w.heap.size w (V2.setCell ⟨w.heap.size, 0, none⟩ (.int .i64 D)) := (q_2.setCell (p := ⟨w.heap.size, 0, none⟩) (by first | exact Nat.le_refl _ | omega) (.int .i64 D))
  clear q_2 S_2 Sz_2 X_2 Xz_2 R_2 Rz_2 st0
  generalize (V2.setCell ⟨w.heap.size, 0, none⟩ (.int .i64 D)) = Y0 at q_3 S_3 X_3 R_3 ⊢
  have Sz_3 := blk_lt S_3.out
  have Sc0_3 := blk_cell S_3.out 0
  have Sc1_3 := blk_cell S_3.out 1
  have Sc2_3 := blk_cell S_3.out 2
  have Sc3_3 := blk_cell S_3.out 3
  have Sc4_3 := blk_cell S_3.out 4
  have Xz_3 := blk_lt X_3.out
  have Xc0_3 := blk_cell X_3.out 0
  have Xc1_3 := blk_cell X_3.out 1
  have Xc2_3 := blk_cell X_3.out 2
  have Xc3_3 := blk_cell X_3.out 3
  have Rz_3 := blk_lt R_3.out
  have Rc0_3 := blk_cell R_3.out 0
  have Rc1_3 := blk_cell R_3.out 1
  have Rc2_3 := blk_cell R_3.out 2
  have Rc3_3 := blk_cell R_3.out 3
  have Rc4_3 := blk_cell R_3.out 4
  have fS0 := blk_free S_3.out 0
  have fS1 := blk_free S_3.out 1
  have fS2 := blk_free S_3.out 2
  have fS3 := blk_free S_3.out 3
  have fS4 := blk_free S_3.out 4
  go_cut [] (fun (wx : World) => wx.heap[w.heap.size]? = some (.cells #[.int .i64 D, .int .i64 v, .int .i64 pl, .int .i64 r, .int .i64 k] 40 (0, 0)) ∧ wx.heap[w.heap.size + 1]? = some (.cells #[.int .i64 pd, .int .i64 pa, .int .i64 pi, .int .i64 pl] 42 (0, 0)) ∧ wx.heap[w.heap.size + 1 + 1]? = some (.cells #[.int .i64 0, .int .i64 0, .int .i64 0, .int .i64 0, .int .i64 0] 40 (0, 0)) ∧ Below w.heap.size w wx)
  case first =>
    go_region
    all_goals
      go_wp2_with fail
      go_meet
      exact ⟨blk_drew (blk_set (blk_set S_3.out 1 (.int .i64 v)) 2 (.int .i64 pl)), blk_drew (blk_other (i := 2) (blk_other (i := 1) X_3.out nsx (.int .i64 v)) nsx (.int .i64 pl)), blk_drew (blk_other (i := 2) (blk_other (i := 1) R_3.out nsr (.int .i64 v)) nsr (.int .i64 pl)), ((q_3.setCell (p := ⟨w.heap.size, 1, none⟩) (Nat.le_refl _) (.int .i64 v)).setCell (p := ⟨w.heap.size, 2, none⟩) (Nat.le_refl _) (.int .i64 pl)).drew⟩
  case rest =>
    obtain ⟨kS, kX, kR, kq⟩ := hcut
    clear S_3 X_3 R_3 q_3 Sc0_3 Sc1_3 Sc2_3 Sc3_3 Sc4_3 Xc0_3 Xc1_3 Xc2_3 Xc3_3 Rc0_3 Rc1_3 Rc2_3 Rc3_3 Rc4_3
    clear fS0 fS1 fS2 fS3 fS4
    have q_0 := kq
    have Sz_0 := blk_lt kS
    have Xz_0 := blk_lt kX
    have Rz_0 := blk_lt kR
    have S_0 := Lib.hid (kS)
    have Sc0_0 := blk_cell S_0.out 0
    have Sc1_0 := blk_cell S_0.out 1
    have Sc2_0 := blk_cell S_0.out 2
    have Sc3_0 := blk_cell S_0.out 3
    have Sc4_0 := blk_cell S_0.out 4
    have X_0 := Lib.hid (kX)
    have Xc0_0 := blk_cell X_0.out 0
    have Xc1_0 := blk_cell X_0.out 1
    have Xc2_0 := blk_cell X_0.out 2
    have Xc3_0 := blk_cell X_0.out 3
    have R_0 := Lib.hid (kR)
    have Rc0_0 := blk_cell R_0.out 0
    have Rc1_0 := blk_cell R_0.out 1
    have Rc2_0 := blk_cell R_0.out 2
    have Rc3_0 := blk_cell R_0.out 3
    have Rc4_0 := blk_cell R_0.out 4
    clear kS kX kR kq
    have fS0 := blk_free S_0.out 0
    have fS1 := blk_free S_0.out 1
    have fS2 := blk_free S_0.out 2
    have fS3 := blk_free S_0.out 3
    have fS4 := blk_free S_0.out 4
    go_wp2_with fail
    clear fS0 fS1 fS2 fS3 fS4
    have hO := HO.out
    have hT := HT.out
    have tz : (T == 0) = false := by rw [beq_eq_false_iff_ne]; omega
    have O1 : O ≤ 1099511627776 := by omega
    obtain ⟨c0, c1⟩ := quot_bd (x := O * 1024) (f := T) (by omega) (by omega)
    go_quiet (fail)
    clear Sc0_0 Sc1_0 Sc2_0 Sc3_0 Sc4_0 Xc0_0 Xc1_0 Xc2_0 Xc3_0 Rc0_0 Rc1_0 Rc2_0 Rc3_0 Rc4_0
    have S_1 : Hid ((wc.drewN nq).heap[w.heap.size]? = some (.cells #[.int .i64 D, .int .i64 v, .int .i64 pl, .int .i64 r, .int .i64 k] 40 (0, 0))) := Lib.hid (blk_drewN S_0.out nq)
    have X_1 : Hid ((wc.drewN nq).heap[w.heap.size + 1]? = some (.cells #[.int .i64 pd, .int .i64 pa, .int .i64 pi, .int .i64 pl] 42 (0, 0))) := Lib.hid (blk_drewN X_0.out nq)
    have R_1 : Hid ((wc.drewN nq).heap[w.heap.size + 1 + 1]? = some (.cells #[.int .i64 0, .int .i64 0, .int .i64 0, .int .i64 0, .int .i64 0] 40 (0, 0))) := Lib.hid (blk_drewN R_0.out nq)
    have q_1 := below_drewN q_0 nq
    clear q_0 S_0 Sz_0 X_0 Xz_0 R_0 Rz_0
    generalize wc.drewN nq = Y2 at q_1 S_1 X_1 R_1 ⊢
    have Sz_1 := blk_lt S_1.out
    have Sc0_1 := blk_cell S_1.out 0
    have Sc1_1 := blk_cell S_1.out 1
    have Sc2_1 := blk_cell S_1.out 2
    have Sc3_1 := blk_cell S_1.out 3
    have Sc4_1 := blk_cell S_1.out 4
    have Xz_1 := blk_lt X_1.out
    have Xc0_1 := blk_cell X_1.out 0
    have Xc1_1 := blk_cell X_1.out 1
    have Xc2_1 := blk_cell X_1.out 2
    have Xc3_1 := blk_cell X_1.out 3
    have Rz_1 := blk_lt R_1.out
    have Rc0_1 := blk_cell R_1.out 0
    have Rc1_1 := blk_cell R_1.out 1
    have Rc2_1 := blk_cell R_1.out 2
    have Rc3_1 := blk_cell R_1.out 3
    have Rc4_1 := blk_cell R_1.out 4
    clear hO hT HO HT
    have fS0 := blk_free S_1.out 0
    have fS1 := blk_free S_1.out 1
    have fS2 := blk_free S_1.out 2
    have fS3 := blk_free S_1.out 3
    have fS4 := blk_free S_1.out 4
    have fR0 := blk_free R_1.out 0
    have fR1 := blk_free R_1.out 1
    have fR2 := blk_free R_1.out 2
    have fR3 := blk_free R_1.out 3
    have fR4 := blk_free R_1.out 4
    have QY := Lib.hid q_1
    clear S_1 X_1 R_1
    have tn0 : ¬ T = 0 := by omega
    have e1 : IntKind.i64.wrap (O * 1024) = O * 1024 := by rw [IntKind.wrap_i64]; omega
    have e2 : (O * 1024).tdiv T = O * 1024 / T := Int.tdiv_eq_ediv_of_nonneg (by omega)
    have e3 : IntKind.i64.wrap (O * 1024 / T) = O * 1024 / T := by rw [IntKind.wrap_i64]; omega
    clear tz
    go_wp2_with fail
    go_region
    all_goals
    go_wp2
    refine bodyPost_ret (v := .tuple #[.agg #[.int .i64 D, .int .i64 v, .int .i64 pl, .int .i64 r, .int .i64 k], .int .i64 Q, .bool true, .int .i64 0]) (by simp [results, Try.results18, go_sem, *]) rfl ⟨rfl, ?_⟩
    (repeat' (first | (with_reducible exact QY.out) | (with_reducible exact Below.refl _ _) | (with_reducible refine Below.alloc ?_ ?_ _) | (with_reducible refine Below.setCell ?_ ?_ _) | (with_reducible refine Below.drew ?_) | (with_reducible refine below_drewN ?_ _) | omega | (dsimp only; omega) | (simp; done) | (simp; omega)))

end Go.Proofs.Ytlkpcojhpndieaa
