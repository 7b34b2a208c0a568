/- Cubic: what goes by a pointer. -/
import Derived.Test.YthkmphngfndebaaCuK
import Derived.StillTailTactics
import Derived.RegionTactic
import Derived.Deep.RegionWith
import Derived.Deep.DeepCutAuto
namespace Go.Proofs.Ythkmphngfndebaa
open Go.RowKit Go.Proofs.Ythkmphngfndebaa.Cu

set_option maxRecDepth 100000 in
set_option maxHeartbeats 2000000 in
theorem lose_lt (x : CS) (m : Int) (g : Nat) (w : World) (hM : MV m) (hV : CV x m) (h : x.c < x.m) (hS : w.heap[g]? = some (.cells #[.int .i64 x.c, .int .i64 x.t, .int .i64 x.m, .int .i64 x.u, .int .i64 x.e, .int .i64 x.s, .bool x.h] 34 (0, 0))) :
    Calls Try.prog 33 #[.pointer (some ⟨g, 0, none⟩), .int .i64 m] w fun e w' => e = .returned (.tuple #[]) ∧ w'.heap[g]? = some (.cells #[.int .i64 (max (x.c * 7 / 10) (2 * m)), .int .i64 (max (x.c * 7 / 10) (2 * m)), .int .i64 (x.c * 17 / 20), .int .i64 (x.u), .int .i64 (x.e), .int .i64 (x.s), .bool false] 34 (0, 0)) ∧ w.grownBy w' (some g) := by
  obtain ⟨⟨c0, c1⟩, ⟨t0, t1⟩, ⟨⟨p0, p1⟩, s0, s1⟩, ⟨u0, u1⟩, e0, e1⟩ := hV
  obtain ⟨m0, m1⟩ := hM
  go_enter Try.func33, Try.ntmps33
  have S_0 := Lib.hid hS
  clear hS
  have G_0 := Lib.hid (World.grownBy.refl w (some g))
  have Sc0 := blk_cell S_0.out 0
  have Sf0 := blk_free S_0.out 0
  have Sc1 := blk_cell S_0.out 1
  have Sf1 := blk_free S_0.out 1
  have Sc2 := blk_cell S_0.out 2
  have Sf2 := blk_free S_0.out 2
  have Sc3 := blk_cell S_0.out 3
  have Sf3 := blk_free S_0.out 3
  have Sc4 := blk_cell S_0.out 4
  have Sf4 := blk_free S_0.out 4
  have Sc5 := blk_cell S_0.out 5
  have Sf5 := blk_free S_0.out 5
  have Sc6 := blk_cell S_0.out 6
  have Sf6 := blk_free S_0.out 6
  go_wp2_with fail
  go_quiet (fail)
  clear Sc0 Sf0 Sc1 Sf1 Sc2 Sf2 Sc3 Sf3 Sc4 Sf4 Sc5 Sf5 Sc6 Sf6
  have S_1 : Hid ((w.drewN nq).heap[g]? = some (.cells #[.int .i64 x.c, .int .i64 x.t, .int .i64 x.m, .int .i64 x.u, .int .i64 x.e, .int .i64 x.s, .bool x.h] 34 (0, 0))) := Lib.hid (blk_drewN S_0.out nq)
  clear S_0
  have G_1 := Lib.hid (gr_trans G_0.out (gr_drewN w nq _))
  clear G_0
  generalize w.drewN nq = X1 at S_1 G_1 ⊢
  have Sc0 := blk_cell S_1.out 0
  have Sf0 := blk_free S_1.out 0
  have Sc1 := blk_cell S_1.out 1
  have Sf1 := blk_free S_1.out 1
  have Sc2 := blk_cell S_1.out 2
  have Sf2 := blk_free S_1.out 2
  have Sc3 := blk_cell S_1.out 3
  have Sf3 := blk_free S_1.out 3
  have Sc4 := blk_cell S_1.out 4
  have Sf4 := blk_free S_1.out 4
  have Sc5 := blk_cell S_1.out 5
  have Sf5 := blk_free S_1.out 5
  have Sc6 := blk_cell S_1.out 6
  have Sf6 := blk_free S_1.out 6
  go_wp2_with fail
  clear Sc0 Sf0 Sc1 Sf1 Sc2 Sf2 Sc3 Sf3 Sc4 Sf4 Sc5 Sf5 Sc6 Sf6
  have S_2 : Hid ((X1.setCell ⟨g, 2, none⟩ (.int .i64 (x.c * 17 / 20))).heap[g]? = some (.cells #[.int .i64 x.c, .int .i64 x.t, .int .i64 (x.c * 17 / 20), .int .i64 x.u, .int .i64 x.e, .int .i64 x.s, .bool x.h] 34 (0, 0))) := Lib.hid (blk_set S_1.out 2 (.int .i64 (x.c * 17 / 20)))
  clear S_1
  have G_2 := Lib.hid (gr_trans G_1.out (gr_set X1 g 2 (.int .i64 (x.c * 17 / 20))))
  clear G_1
  generalize X1.setCell ⟨g, 2, none⟩ (.int .i64 (x.c * 17 / 20)) = X2 at S_2 G_2 ⊢
  have Sc0 := blk_cell S_2.out 0
  have Sf0 := blk_free S_2.out 0
  have Sc1 := blk_cell S_2.out 1
  have Sf1 := blk_free S_2.out 1
  have Sc2 := blk_cell S_2.out 2
  have Sf2 := blk_free S_2.out 2
  have Sc3 := blk_cell S_2.out 3
  have Sf3 := blk_free S_2.out 3
  have Sc4 := blk_cell S_2.out 4
  have Sf4 := blk_free S_2.out 4
  have Sc5 := blk_cell S_2.out 5
  have Sf5 := blk_free S_2.out 5
  have Sc6 := blk_cell S_2.out 6
  have Sf6 := blk_free S_2.out 6
  clear Sc0 Sf0 Sc1 Sf1 Sc2 Sf2 Sc3 Sf3 Sc4 Sf4 Sc5 Sf5 Sc6 Sf6
  have S_3 : Hid ((X2.setCell ⟨g, 0, none⟩ (.int .i64 (max (x.c * 7 / 10) (2 * m)))).heap[g]? = some (.cells #[.int .i64 (max (x.c * 7 / 10) (2 * m)), .int .i64 x.t, .int .i64 (x.c * 17 / 20), .int .i64 x.u, .int .i64 x.e, .int .i64 x.s, .bool x.h] 34 (0, 0))) := Lib.hid (blk_set S_2.out 0 (.int .i64 (max (x.c * 7 / 10) (2 * m))))
  clear S_2
  have G_3 := Lib.hid (gr_trans G_2.out (gr_set X2 g 0 (.int .i64 (max (x.c * 7 / 10) (2 * m)))))
  clear G_2
  generalize X2.setCell ⟨g, 0, none⟩ (.int .i64 (max (x.c * 7 / 10) (2 * m))) = X3 at S_3 G_3 ⊢
  have Sc0 := blk_cell S_3.out 0
  have Sf0 := blk_free S_3.out 0
  have Sc1 := blk_cell S_3.out 1
  have Sf1 := blk_free S_3.out 1
  have Sc2 := blk_cell S_3.out 2
  have Sf2 := blk_free S_3.out 2
  have Sc3 := blk_cell S_3.out 3
  have Sf3 := blk_free S_3.out 3
  have Sc4 := blk_cell S_3.out 4
  have Sf4 := blk_free S_3.out 4
  have Sc5 := blk_cell S_3.out 5
  have Sf5 := blk_free S_3.out 5
  have Sc6 := blk_cell S_3.out 6
  have Sf6 := blk_free S_3.out 6
  clear Sc0 Sf0 Sc1 Sf1 Sc2 Sf2 Sc3 Sf3 Sc4 Sf4 Sc5 Sf5 Sc6 Sf6
  have S_4 : Hid ((X3.setCell ⟨g, 1, none⟩ (.int .i64 (max (x.c * 7 / 10) (2 * m)))).heap[g]? = some (.cells #[.int .i64 (max (x.c * 7 / 10) (2 * m)), .int .i64 (max (x.c * 7 / 10) (2 * m)), .int .i64 (x.c * 17 / 20), .int .i64 x.u, .int .i64 x.e, .int .i64 x.s, .bool x.h] 34 (0, 0))) := Lib.hid (blk_set S_3.out 1 (.int .i64 (max (x.c * 7 / 10) (2 * m))))
  clear S_3
  have G_4 := Lib.hid (gr_trans G_3.out (gr_set X3 g 1 (.int .i64 (max (x.c * 7 / 10) (2 * m)))))
  clear G_3
  generalize X3.setCell ⟨g, 1, none⟩ (.int .i64 (max (x.c * 7 / 10) (2 * m))) = X4 at S_4 G_4 ⊢
  have Sc0 := blk_cell S_4.out 0
  have Sf0 := blk_free S_4.out 0
  have Sc1 := blk_cell S_4.out 1
  have Sf1 := blk_free S_4.out 1
  have Sc2 := blk_cell S_4.out 2
  have Sf2 := blk_free S_4.out 2
  have Sc3 := blk_cell S_4.out 3
  have Sf3 := blk_free S_4.out 3
  have Sc4 := blk_cell S_4.out 4
  have Sf4 := blk_free S_4.out 4
  have Sc5 := blk_cell S_4.out 5
  have Sf5 := blk_free S_4.out 5
  have Sc6 := blk_cell S_4.out 6
  have Sf6 := blk_free S_4.out 6
  clear Sc0 Sf0 Sc1 Sf1 Sc2 Sf2 Sc3 Sf3 Sc4 Sf4 Sc5 Sf5 Sc6 Sf6
  have S_5 : Hid ((X4.setCell ⟨g, 6, none⟩ (.bool false)).heap[g]? = some (.cells #[.int .i64 (max (x.c * 7 / 10) (2 * m)), .int .i64 (max (x.c * 7 / 10) (2 * m)), .int .i64 (x.c * 17 / 20), .int .i64 x.u, .int .i64 x.e, .int .i64 x.s, .bool false] 34 (0, 0))) := Lib.hid (blk_set S_4.out 6 (.bool false))
  clear S_4
  have G_5 := Lib.hid (gr_trans G_4.out (gr_set X4 g 6 (.bool false)))
  clear G_4
  generalize X4.setCell ⟨g, 6, none⟩ (.bool false) = X5 at S_5 G_5 ⊢
  have Sc0 := blk_cell S_5.out 0
  have Sf0 := blk_free S_5.out 0
  have Sc1 := blk_cell S_5.out 1
  have Sf1 := blk_free S_5.out 1
  have Sc2 := blk_cell S_5.out 2
  have Sf2 := blk_free S_5.out 2
  have Sc3 := blk_cell S_5.out 3
  have Sf3 := blk_free S_5.out 3
  have Sc4 := blk_cell S_5.out 4
  have Sf4 := blk_free S_5.out 4
  have Sc5 := blk_cell S_5.out 5
  have Sf5 := blk_free S_5.out 5
  have Sc6 := blk_cell S_5.out 6
  have Sf6 := blk_free S_5.out 6
  go_wp2_with fail
  go_end0
  exact ⟨rfl, S_5.out, G_5.out⟩

set_option maxRecDepth 100000 in
set_option maxHeartbeats 2000000 in
theorem lose_ge (x : CS) (m : Int) (g : Nat) (w : World) (hM : MV m) (hV : CV x m) (h : x.m ≤ x.c) (hS : w.heap[g]? = some (.cells #[.int .i64 x.c, .int .i64 x.t, .int .i64 x.m, .int .i64 x.u, .int .i64 x.e, .int .i64 x.s, .bool x.h] 34 (0, 0))) :
    Calls Try.prog 33 #[.pointer (some ⟨g, 0, none⟩), .int .i64 m] w fun e w' => e = .returned (.tuple #[]) ∧ w'.heap[g]? = some (.cells #[.int .i64 (max (x.c * 7 / 10) (2 * m)), .int .i64 (max (x.c * 7 / 10) (2 * m)), .int .i64 (x.c), .int .i64 (x.u), .int .i64 (x.e), .int .i64 (x.s), .bool false] 34 (0, 0)) ∧ w.grownBy w' (some g) := by
  obtain ⟨⟨c0, c1⟩, ⟨t0, t1⟩, ⟨⟨p0, p1⟩, s0, s1⟩, ⟨u0, u1⟩, e0, e1⟩ := hV
  obtain ⟨m0, m1⟩ := hM
  go_enter Try.func33, Try.ntmps33
  have S_0 := Lib.hid hS
  clear hS
  have G_0 := Lib.hid (World.grownBy.refl w (some g))
  have Sc0 := blk_cell S_0.out 0
  have Sf0 := blk_free S_0.out 0
  have Sc1 := blk_cell S_0.out 1
  have Sf1 := blk_free S_0.out 1
  have Sc2 := blk_cell S_0.out 2
  have Sf2 := blk_free S_0.out 2
  have Sc3 := blk_cell S_0.out 3
  have Sf3 := blk_free S_0.out 3
  have Sc4 := blk_cell S_0.out 4
  have Sf4 := blk_free S_0.out 4
  have Sc5 := blk_cell S_0.out 5
  have Sf5 := blk_free S_0.out 5
  have Sc6 := blk_cell S_0.out 6
  have Sf6 := blk_free S_0.out 6
  go_wp2_with fail
  go_quiet (fail)
  clear Sc0 Sf0 Sc1 Sf1 Sc2 Sf2 Sc3 Sf3 Sc4 Sf4 Sc5 Sf5 Sc6 Sf6
  have S_1 : Hid ((w.drewN nq).heap[g]? = some (.cells #[.int .i64 x.c, .int .i64 x.t, .int .i64 x.m, .int .i64 x.u, .int .i64 x.e, .int .i64 x.s, .bool x.h] 34 (0, 0))) := Lib.hid (blk_drewN S_0.out nq)
  clear S_0
  have G_1 := Lib.hid (gr_trans G_0.out (gr_drewN w nq _))
  clear G_0
  generalize w.drewN nq = X1 at S_1 G_1 ⊢
  have Sc0 := blk_cell S_1.out 0
  have Sf0 := blk_free S_1.out 0
  have Sc1 := blk_cell S_1.out 1
  have Sf1 := blk_free S_1.out 1
  have Sc2 := blk_cell S_1.out 2
  have Sf2 := blk_free S_1.out 2
  have Sc3 := blk_cell S_1.out 3
  have Sf3 := blk_free S_1.out 3
  have Sc4 := blk_cell S_1.out 4
  have Sf4 := blk_free S_1.out 4
  have Sc5 := blk_cell S_1.out 5
  have Sf5 := blk_free S_1.out 5
  have Sc6 := blk_cell S_1.out 6
  have Sf6 := blk_free S_1.out 6
  go_wp2_with fail
  clear Sc0 Sf0 Sc1 Sf1 Sc2 Sf2 Sc3 Sf3 Sc4 Sf4 Sc5 Sf5 Sc6 Sf6
  have S_2 : Hid ((X1.setCell ⟨g, 2, none⟩ (.int .i64 (x.c))).heap[g]? = some (.cells #[.int .i64 x.c, .int .i64 x.t, .int .i64 (x.c), .int .i64 x.u, .int .i64 x.e, .int .i64 x.s, .bool x.h] 34 (0, 0))) := Lib.hid (blk_set S_1.out 2 (.int .i64 (x.c)))
  clear S_1
  have G_2 := Lib.hid (gr_trans G_1.out (gr_set X1 g 2 (.int .i64 (x.c))))
  clear G_1
  generalize X1.setCell ⟨g, 2, none⟩ (.int .i64 (x.c)) = X2 at S_2 G_2 ⊢
  have Sc0 := blk_cell S_2.out 0
  have Sf0 := blk_free S_2.out 0
  have Sc1 := blk_cell S_2.out 1
  have Sf1 := blk_free S_2.out 1
  have Sc2 := blk_cell S_2.out 2
  have Sf2 := blk_free S_2.out 2
  have Sc3 := blk_cell S_2.out 3
  have Sf3 := blk_free S_2.out 3
  have Sc4 := blk_cell S_2.out 4
  have Sf4 := blk_free S_2.out 4
  have Sc5 := blk_cell S_2.out 5
  have Sf5 := blk_free S_2.out 5
  have Sc6 := blk_cell S_2.out 6
  have Sf6 := blk_free S_2.out 6
  clear Sc0 Sf0 Sc1 Sf1 Sc2 Sf2 Sc3 Sf3 Sc4 Sf4 Sc5 Sf5 Sc6 Sf6
  have S_3 : Hid ((X2.setCell ⟨g, 0, none⟩ (.int .i64 (max (x.c * 7 / 10) (2 * m)))).heap[g]? = some (.cells #[.int .i64 (max (x.c * 7 / 10) (2 * m)), .int .i64 x.t, .int .i64 (x.c), .int .i64 x.u, .int .i64 x.e, .int .i64 x.s, .bool x.h] 34 (0, 0))) := Lib.hid (blk_set S_2.out 0 (.int .i64 (max (x.c * 7 / 10) (2 * m))))
  clear S_2
  have G_3 := Lib.hid (gr_trans G_2.out (gr_set X2 g 0 (.int .i64 (max (x.c * 7 / 10) (2 * m)))))
  clear G_2
  generalize X2.setCell ⟨g, 0, none⟩ (.int .i64 (max (x.c * 7 / 10) (2 * m))) = X3 at S_3 G_3 ⊢
  have Sc0 := blk_cell S_3.out 0
  have Sf0 := blk_free S_3.out 0
  have Sc1 := blk_cell S_3.out 1
  have Sf1 := blk_free S_3.out 1
  have Sc2 := blk_cell S_3.out 2
  have Sf2 := blk_free S_3.out 2
  have Sc3 := blk_cell S_3.out 3
  have Sf3 := blk_free S_3.out 3
  have Sc4 := blk_cell S_3.out 4
  have Sf4 := blk_free S_3.out 4
  have Sc5 := blk_cell S_3.out 5
  have Sf5 := blk_free S_3.out 5
  have Sc6 := blk_cell S_3.out 6
  have Sf6 := blk_free S_3.out 6
  clear Sc0 Sf0 Sc1 Sf1 Sc2 Sf2 Sc3 Sf3 Sc4 Sf4 Sc5 Sf5 Sc6 Sf6
  have S_4 : Hid ((X3.setCell ⟨g, 1, none⟩ (.int .i64 (max (x.c * 7 / 10) (2 * m)))).heap[g]? = some (.cells #[.int .i64 (max (x.c * 7 / 10) (2 * m)), .int .i64 (max (x.c * 7 / 10) (2 * m)), .int .i64 (x.c), .int .i64 x.u, .int .i64 x.e, .int .i64 x.s, .bool x.h] 34 (0, 0))) := Lib.hid (blk_set S_3.out 1 (.int .i64 (max (x.c * 7 / 10) (2 * m))))
  clear S_3
  have G_4 := Lib.hid (gr_trans G_3.out (gr_set X3 g 1 (.int .i64 (max (x.c * 7 / 10) (2 * m)))))
  clear G_3
  generalize X3.setCell ⟨g, 1, none⟩ (.int .i64 (max (x.c * 7 / 10) (2 * m))) = X4 at S_4 G_4 ⊢
  have Sc0 := blk_cell S_4.out 0
  have Sf0 := blk_free S_4.out 0
  have Sc1 := blk_cell S_4.out 1
  have Sf1 := blk_free S_4.out 1
  have Sc2 := blk_cell S_4.out 2
  have Sf2 := blk_free S_4.out 2
  have Sc3 := blk_cell S_4.out 3
  have Sf3 := blk_free S_4.out 3
  have Sc4 := blk_cell S_4.out 4
  have Sf4 := blk_free S_4.out 4
  have Sc5 := blk_cell S_4.out 5
  have Sf5 := blk_free S_4.out 5
  have Sc6 := blk_cell S_4.out 6
  have Sf6 := blk_free S_4.out 6
  clear Sc0 Sf0 Sc1 Sf1 Sc2 Sf2 Sc3 Sf3 Sc4 Sf4 Sc5 Sf5 Sc6 Sf6
  have S_5 : Hid ((X4.setCell ⟨g, 6, none⟩ (.bool false)).heap[g]? = some (.cells #[.int .i64 (max (x.c * 7 / 10) (2 * m)), .int .i64 (max (x.c * 7 / 10) (2 * m)), .int .i64 (x.c), .int .i64 x.u, .int .i64 x.e, .int .i64 x.s, .bool false] 34 (0, 0))) := Lib.hid (blk_set S_4.out 6 (.bool false))
  clear S_4
  have G_5 := Lib.hid (gr_trans G_4.out (gr_set X4 g 6 (.bool false)))
  clear G_4
  generalize X4.setCell ⟨g, 6, none⟩ (.bool false) = X5 at S_5 G_5 ⊢
  have Sc0 := blk_cell S_5.out 0
  have Sf0 := blk_free S_5.out 0
  have Sc1 := blk_cell S_5.out 1
  have Sf1 := blk_free S_5.out 1
  have Sc2 := blk_cell S_5.out 2
  have Sf2 := blk_free S_5.out 2
  have Sc3 := blk_cell S_5.out 3
  have Sf3 := blk_free S_5.out 3
  have Sc4 := blk_cell S_5.out 4
  have Sf4 := blk_free S_5.out 4
  have Sc5 := blk_cell S_5.out 5
  have Sf5 := blk_free S_5.out 5
  have Sc6 := blk_cell S_5.out 6
  have Sf6 := blk_free S_5.out 6
  go_wp2_with fail
  go_end0
  exact ⟨rfl, S_5.out, G_5.out⟩

set_option maxRecDepth 100000 in
set_option maxHeartbeats 2000000 in
theorem begin_ok (x : CS) (m v : Int) (g : Nat) (w : World) (hM : MV m) (hV : CV x m) (hS : w.heap[g]? = some (.cells #[.int .i64 x.c, .int .i64 x.t, .int .i64 x.m, .int .i64 x.u, .int .i64 x.e, .int .i64 x.s, .bool x.h] 34 (0, 0))) :
    Calls Try.prog 31 #[.pointer (some ⟨g, 0, none⟩), .int .i64 m, .int .i64 v] w fun e w' => e = .returned (.tuple #[]) ∧ w'.heap[g]? = some (.cells #[.int .i64 (x.c), .int .i64 (x.t), .int .i64 (max x.m x.c), .int .i64 (trn x.m x.c m), .int .i64 (v), .int .i64 (x.c), .bool true] 34 (0, 0)) ∧ w.grownBy w' (some g) := by
  have HO : Hid (WV x.m ∧ WV x.c) := Lib.hid ⟨hV.2.2.1.1, by have := hV.1; have := hM.1; exact ⟨by omega, by omega⟩⟩
  have HM := Lib.hid hM
  obtain ⟨⟨c0, c1⟩, ⟨t0, t1⟩, ⟨⟨p0, p1⟩, s0, s1⟩, ⟨u0, u1⟩, e0, e1⟩ := hV
  go_enter Try.func31, Try.ntmps31
  have S_0 := Lib.hid hS
  clear hS
  have G_0 := Lib.hid (World.grownBy.refl w (some g))
  have Sc0 := blk_cell S_0.out 0
  have Sf0 := blk_free S_0.out 0
  have Sc1 := blk_cell S_0.out 1
  have Sf1 := blk_free S_0.out 1
  have Sc2 := blk_cell S_0.out 2
  have Sf2 := blk_free S_0.out 2
  have Sc3 := blk_cell S_0.out 3
  have Sf3 := blk_free S_0.out 3
  have Sc4 := blk_cell S_0.out 4
  have Sf4 := blk_free S_0.out 4
  have Sc5 := blk_cell S_0.out 5
  have Sf5 := blk_free S_0.out 5
  have Sc6 := blk_cell S_0.out 6
  have Sf6 := blk_free S_0.out 6
  go_wp2_with fail
  clear Sc0 Sf0 Sc1 Sf1 Sc2 Sf2 Sc3 Sf3 Sc4 Sf4 Sc5 Sf5 Sc6 Sf6
  have S_1 : Hid ((w.setCell ⟨g, 6, none⟩ (.bool true)).heap[g]? = some (.cells #[.int .i64 x.c, .int .i64 x.t, .int .i64 x.m, .int .i64 x.u, .int .i64 x.e, .int .i64 x.s, .bool true] 34 (0, 0))) := Lib.hid (blk_set S_0.out 6 (.bool true))
  clear S_0
  have G_1 := Lib.hid (gr_trans G_0.out (gr_set w g 6 (.bool true)))
  clear G_0
  generalize w.setCell ⟨g, 6, none⟩ (.bool true) = X1 at S_1 G_1 ⊢
  have Sc0 := blk_cell S_1.out 0
  have Sf0 := blk_free S_1.out 0
  have Sc1 := blk_cell S_1.out 1
  have Sf1 := blk_free S_1.out 1
  have Sc2 := blk_cell S_1.out 2
  have Sf2 := blk_free S_1.out 2
  have Sc3 := blk_cell S_1.out 3
  have Sf3 := blk_free S_1.out 3
  have Sc4 := blk_cell S_1.out 4
  have Sf4 := blk_free S_1.out 4
  have Sc5 := blk_cell S_1.out 5
  have Sf5 := blk_free S_1.out 5
  have Sc6 := blk_cell S_1.out 6
  have Sf6 := blk_free S_1.out 6
  clear Sc0 Sf0 Sc1 Sf1 Sc2 Sf2 Sc3 Sf3 Sc4 Sf4 Sc5 Sf5 Sc6 Sf6
  have S_2 : Hid ((X1.setCell ⟨g, 4, none⟩ (.int .i64 v)).heap[g]? = some (.cells #[.int .i64 x.c, .int .i64 x.t, .int .i64 x.m, .int .i64 x.u, .int .i64 v, .int .i64 x.s, .bool true] 34 (0, 0))) := Lib.hid (blk_set S_1.out 4 (.int .i64 v))
  clear S_1
  have G_2 := Lib.hid (gr_trans G_1.out (gr_set X1 g 4 (.int .i64 v)))
  clear G_1
  generalize X1.setCell ⟨g, 4, none⟩ (.int .i64 v) = X2 at S_2 G_2 ⊢
  have Sc0 := blk_cell S_2.out 0
  have Sf0 := blk_free S_2.out 0
  have Sc1 := blk_cell S_2.out 1
  have Sf1 := blk_free S_2.out 1
  have Sc2 := blk_cell S_2.out 2
  have Sf2 := blk_free S_2.out 2
  have Sc3 := blk_cell S_2.out 3
  have Sf3 := blk_free S_2.out 3
  have Sc4 := blk_cell S_2.out 4
  have Sf4 := blk_free S_2.out 4
  have Sc5 := blk_cell S_2.out 5
  have Sf5 := blk_free S_2.out 5
  have Sc6 := blk_cell S_2.out 6
  have Sf6 := blk_free S_2.out 6
  clear Sc0 Sf0 Sc1 Sf1 Sc2 Sf2 Sc3 Sf3 Sc4 Sf4 Sc5 Sf5 Sc6 Sf6
  have S_3 : Hid ((X2.setCell ⟨g, 5, none⟩ (.int .i64 x.c)).heap[g]? = some (.cells #[.int .i64 x.c, .int .i64 x.t, .int .i64 x.m, .int .i64 x.u, .int .i64 v, .int .i64 x.c, .bool true] 34 (0, 0))) := Lib.hid (blk_set S_2.out 5 (.int .i64 x.c))
  clear S_2
  have G_3 := Lib.hid (gr_trans G_2.out (gr_set X2 g 5 (.int .i64 x.c)))
  clear G_2
  generalize X2.setCell ⟨g, 5, none⟩ (.int .i64 x.c) = X3 at S_3 G_3 ⊢
  have Sc0 := blk_cell S_3.out 0
  have Sf0 := blk_free S_3.out 0
  have Sc1 := blk_cell S_3.out 1
  have Sf1 := blk_free S_3.out 1
  have Sc2 := blk_cell S_3.out 2
  have Sf2 := blk_free S_3.out 2
  have Sc3 := blk_cell S_3.out 3
  have Sf3 := blk_free S_3.out 3
  have Sc4 := blk_cell S_3.out 4
  have Sf4 := blk_free S_3.out 4
  have Sc5 := blk_cell S_3.out 5
  have Sf5 := blk_free S_3.out 5
  have Sc6 := blk_cell S_3.out 6
  have Sf6 := blk_free S_3.out 6
  go_wp2_with fail
  clear Sc0 Sf0 Sc1 Sf1 Sc2 Sf2 Sc3 Sf3 Sc4 Sf4 Sc5 Sf5 Sc6 Sf6
  have S_D : Hid (X3.drew.heap[g]? = some (.cells #[.int .i64 x.c, .int .i64 x.t, .int .i64 x.m, .int .i64 x.u, .int .i64 v, .int .i64 x.c, .bool true] 34 (0, 0))) := Lib.hid (blk_drew S_3.out)
  have G_D := Lib.hid (gr_trans G_3.out (gr_drew X3 _))
  have Sc0 := blk_cell S_D.out 0
  have Sf0 := blk_free S_D.out 0
  have Sc1 := blk_cell S_D.out 1
  have Sf1 := blk_free S_D.out 1
  have Sc2 := blk_cell S_D.out 2
  have Sf2 := blk_free S_D.out 2
  have Sc3 := blk_cell S_D.out 3
  have Sf3 := blk_free S_D.out 3
  have Sc4 := blk_cell S_D.out 4
  have Sf4 := blk_free S_D.out 4
  have Sc5 := blk_cell S_D.out 5
  have Sf5 := blk_free S_D.out 5
  have Sc6 := blk_cell S_D.out 6
  have Sf6 := blk_free S_D.out 6
  go_region_with (first
    | (go_at_call 11; (with_reducible refine (turn_ok x.m x.c m _ HO.out HM.out).mono ?_); rintro e Y4 ⟨rfl, b⟩; have S_4 := Lib.hid ((b.block _ (blk_lt S_D.out)).trans S_D.out); have G_4 := Lib.hid (gr_trans G_D.out (gr_below b (some g))); have Sd0 := blk_cell S_4.out 0; have Se0 := blk_free S_4.out 0; have Sd1 := blk_cell S_4.out 1; have Se1 := blk_free S_4.out 1; have Sd2 := blk_cell S_4.out 2; have Se2 := blk_free S_4.out 2; have Sd3 := blk_cell S_4.out 3; have Se3 := blk_free S_4.out 3; have Sd4 := blk_cell S_4.out 4; have Se4 := blk_free S_4.out 4; have Sd5 := blk_cell S_4.out 5; have Se5 := blk_free S_4.out 5; have Sd6 := blk_cell S_4.out 6; have Se6 := blk_free S_4.out 6; clear b))
  all_goals
    clear S_D G_D S_3 G_3 Sc0 Sf0 Sc1 Sf1 Sc2 Sf2 Sc3 Sf3 Sc4 Sf4 Sc5 Sf5 Sc6 Sf6
    have Sc0 := Sd0
    have Sf0 := Se0
    clear Sd0 Se0
    have Sc1 := Sd1
    have Sf1 := Se1
    clear Sd1 Se1
    have Sc2 := Sd2
    have Sf2 := Se2
    clear Sd2 Se2
    have Sc3 := Sd3
    have Sf3 := Se3
    clear Sd3 Se3
    have Sc4 := Sd4
    have Sf4 := Se4
    clear Sd4 Se4
    have Sc5 := Sd5
    have Sf5 := Se5
    clear Sd5 Se5
    have Sc6 := Sd6
    have Sf6 := Se6
    clear Sd6 Se6
    go_wp2_with fail
    clear Sc0 Sf0 Sc1 Sf1 Sc2 Sf2 Sc3 Sf3 Sc4 Sf4 Sc5 Sf5 Sc6 Sf6
    have S_5 : Hid ((Y4.setCell ⟨g, 3, none⟩ (.int .i64 (trn x.m x.c m))).heap[g]? = some (.cells #[.int .i64 x.c, .int .i64 x.t, .int .i64 x.m, .int .i64 (trn x.m x.c m), .int .i64 v, .int .i64 x.c, .bool true] 34 (0, 0))) := Lib.hid (blk_set S_4.out 3 (.int .i64 (trn x.m x.c m)))
    clear S_4
    have G_5 := Lib.hid (gr_trans G_4.out (gr_set Y4 g 3 (.int .i64 (trn x.m x.c m))))
    clear G_4
    generalize Y4.setCell ⟨g, 3, none⟩ (.int .i64 (trn x.m x.c m)) = X5 at S_5 G_5 ⊢
    have Sc0 := blk_cell S_5.out 0
    have Sf0 := blk_free S_5.out 0
    have Sc1 := blk_cell S_5.out 1
    have Sf1 := blk_free S_5.out 1
    have Sc2 := blk_cell S_5.out 2
    have Sf2 := blk_free S_5.out 2
    have Sc3 := blk_cell S_5.out 3
    have Sf3 := blk_free S_5.out 3
    have Sc4 := blk_cell S_5.out 4
    have Sf4 := blk_free S_5.out 4
    have Sc5 := blk_cell S_5.out 5
    have Sf5 := blk_free S_5.out 5
    have Sc6 := blk_cell S_5.out 6
    have Sf6 := blk_free S_5.out 6
    go_wp2_with fail
    refine wp_region_still_tail 12 (by kernel_rfl) (by kernel_rfl) ?_
    simp only [List.take_succ_cons, List.take_zero, List.drop_succ_cons, List.drop_zero]
    repeat (first | still_step)
    refine wpStill_nil ?_
    change wpList _ _ _ _ _ X5.drew
    clear Sc0 Sf0 Sc1 Sf1 Sc2 Sf2 Sc3 Sf3 Sc4 Sf4 Sc5 Sf5 Sc6 Sf6
    have S_6 : Hid ((X5.drew).heap[g]? = some (.cells #[.int .i64 x.c, .int .i64 x.t, .int .i64 x.m, .int .i64 (trn x.m x.c m), .int .i64 v, .int .i64 x.c, .bool true] 34 (0, 0))) := Lib.hid (blk_drew S_5.out)
    clear S_5
    have G_6 := Lib.hid (gr_trans G_5.out (gr_drew X5 _))
    clear G_5
    generalize X5.drew = X6 at S_6 G_6 ⊢
    have Sc0 := blk_cell S_6.out 0
    have Sf0 := blk_free S_6.out 0
    have Sc1 := blk_cell S_6.out 1
    have Sf1 := blk_free S_6.out 1
    have Sc2 := blk_cell S_6.out 2
    have Sf2 := blk_free S_6.out 2
    have Sc3 := blk_cell S_6.out 3
    have Sf3 := blk_free S_6.out 3
    have Sc4 := blk_cell S_6.out 4
    have Sf4 := blk_free S_6.out 4
    have Sc5 := blk_cell S_6.out 5
    have Sf5 := blk_free S_6.out 5
    have Sc6 := blk_cell S_6.out 6
    have Sf6 := blk_free S_6.out 6
    go_wp2_with fail
    clear Sc0 Sf0 Sc1 Sf1 Sc2 Sf2 Sc3 Sf3 Sc4 Sf4 Sc5 Sf5 Sc6 Sf6
    have S_7 : Hid ((X6.setCell ⟨g, 2, none⟩ (.int .i64 (max x.m x.c))).heap[g]? = some (.cells #[.int .i64 x.c, .int .i64 x.t, .int .i64 (max x.m x.c), .int .i64 (trn x.m x.c m), .int .i64 v, .int .i64 x.c, .bool true] 34 (0, 0))) := Lib.hid (blk_set S_6.out 2 (.int .i64 (max x.m x.c)))
    clear S_6
    have G_7 := Lib.hid (gr_trans G_6.out (gr_set X6 g 2 (.int .i64 (max x.m x.c))))
    clear G_6
    generalize X6.setCell ⟨g, 2, none⟩ (.int .i64 (max x.m x.c)) = X7 at S_7 G_7 ⊢
    have Sc0 := blk_cell S_7.out 0
    have Sf0 := blk_free S_7.out 0
    have Sc1 := blk_cell S_7.out 1
    have Sf1 := blk_free S_7.out 1
    have Sc2 := blk_cell S_7.out 2
    have Sf2 := blk_free S_7.out 2
    have Sc3 := blk_cell S_7.out 3
    have Sf3 := blk_free S_7.out 3
    have Sc4 := blk_cell S_7.out 4
    have Sf4 := blk_free S_7.out 4
    have Sc5 := blk_cell S_7.out 5
    have Sf5 := blk_free S_7.out 5
    have Sc6 := blk_cell S_7.out 6
    have Sf6 := blk_free S_7.out 6
    go_wp2_with fail
    go_end0
    exact ⟨rfl, S_7.out, G_7.out⟩

end Go.Proofs.Ythkmphngfndebaa
