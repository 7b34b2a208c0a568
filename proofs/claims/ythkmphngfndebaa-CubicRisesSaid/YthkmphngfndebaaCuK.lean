/- Cubic: Check, on both sides. -/
import Derived.Test.YthkmphngfndebaaCuT
namespace Go.Proofs.Ythkmphngfndebaa
open Go.RowKit Go.Proofs.Ythkmphngfndebaa.Cu

set_option maxHeartbeats 2000000 in
theorem check_yes (x : CS) (m : Int) (w : World) (hM : MV m) (hV : CV x m) :
    Calls Try.prog 23 #[.agg #[.int .i64 x.c, .int .i64 x.t, .int .i64 x.m, .int .i64 x.u, .int .i64 x.e, .int .i64 x.s, .bool x.h], .int .i64 m] w fun e w' => e = .returned (.int .i64 0) ∧ Below w.heap.size w w' := by
  have HM := Lib.hid hM
  have H0 : Hid (InR m 1073741824 [x.c]) := Lib.hid (inR1.2 hV.1)
  have H1 : Hid (InR 1 1073741824 [x.t]) := Lib.hid (inR1.2 hV.2.1)
  have H2 : Hid (InR 0 1073741824 [x.m, x.s]) := Lib.hid (inR2.2 hV.2.2.1)
  have H3 : Hid (InR 0 4194304 [x.u]) := Lib.hid (inR1.2 hV.2.2.2.1)
  have H4 : Hid (InR 0 1099511627776 [x.e]) := Lib.hid (inR1.2 hV.2.2.2.2)
  clear hM hV
  have q_0 := Below.refl w.heap.size w
  go_enter Try.func23, Try.ntmps23
  go_wp2_with fail
  have b : Below w.heap.size w (w.alloc (.cells #[.int .i64 x.c, .int .i64 x.t, .int .i64 x.m, .int .i64 x.u, .int .i64 x.e, .int .i64 x.s, .bool x.h] 34)) := ((Below.refl _ w).alloc (Nat.le_refl _) (.cells #[.int .i64 x.c, .int .i64 x.t, .int .i64 x.m, .int .i64 x.u, .int .i64 x.e, .int .i64 x.s, .bool x.h] 34))
  have nb0 := blk_new w (.cells #[.int .i64 x.c, .int .i64 x.t, .int .i64 x.m, .int .i64 x.u, .int .i64 x.e, .int .i64 x.s, .bool x.h] 34)
  have nz0 : w.heap.size < (w.alloc (.cells #[.int .i64 x.c, .int .i64 x.t, .int .i64 x.m, .int .i64 x.u, .int .i64 x.e, .int .i64 x.s, .bool x.h] 34)).heap.size := by simp only [World.size_alloc]; omega
  have q_1 := q_0.trans (b.mono q_0.size)
  clear q_0
  clear b
  have S_1 := Lib.hid nb0
  have Sz_1 := nz0
  clear nb0 nz0
  have Sc0_1 := blk_cell S_1.out 0
  have Sc1_1 := blk_cell S_1.out 1
  have Sc2_1 := blk_cell S_1.out 2
  have Sc3_1 := blk_cell S_1.out 3
  have Sc4_1 := blk_cell S_1.out 4
  have Sc5_1 := blk_cell S_1.out 5
  have Sc6_1 := blk_cell S_1.out 6
  generalize (w.alloc (.cells #[.int .i64 x.c, .int .i64 x.t, .int .i64 x.m, .int .i64 x.u, .int .i64 x.e, .int .i64 x.s, .bool x.h] 34)) = V1 at q_1 S_1 Sz_1 Sc0_1 Sc1_1 Sc2_1 Sc3_1 Sc4_1 Sc5_1 Sc6_1 ⊢
  refine (mss_yes m _ HM.out).mono ?_
  rintro e V2 ⟨rfl, b⟩
  have S_2 := Lib.hid ((b.block _ Sz_1).trans S_1.out)
  have Sz_2 := Nat.lt_of_lt_of_le Sz_1 b.size
  have Sc0_2 := blk_cell S_2.out 0
  have Sc1_2 := blk_cell S_2.out 1
  have Sc2_2 := blk_cell S_2.out 2
  have Sc3_2 := blk_cell S_2.out 3
  have Sc4_2 := blk_cell S_2.out 4
  have Sc5_2 := blk_cell S_2.out 5
  have Sc6_2 := blk_cell S_2.out 6
  have q_2 := q_1.trans (b.mono q_1.size)
  clear S_1 Sz_1 Sc0_1 Sc1_1 Sc2_1 Sc3_1 Sc4_1 Sc5_1 Sc6_1 q_1
  clear b
  go_wp2_with fail
  refine (wn_yes m 1073741824 [x.c] _ _ _ _ _ _ rfl rfl (by first | simp | rfl) (by simp) H0.out).mono ?_
  rintro e w' ⟨rfl, rfl⟩
  go_wp2_with fail
  refine (wn_yes 1 1073741824 [x.t] _ _ _ _ _ _ rfl rfl (by first | simp | rfl) (by simp) H1.out).mono ?_
  rintro e w' ⟨rfl, rfl⟩
  go_wp2_with fail
  refine (wn_yes 0 1073741824 [x.m, x.s] _ _ _ _ _ _ rfl rfl (by first | simp | rfl) (by simp) H2.out).mono ?_
  rintro e w' ⟨rfl, rfl⟩
  simp only [List.map_cons, List.map_nil]
  have ys : V2.heap.size = V2.heap.size := by simp
  have yb : Below V2.heap.size V2 (((V2.alloc (.cells #[.int .i64 x.c] 3)).alloc (.cells #[.int .i64 x.t] 3)).alloc (.cells #[.int .i64 x.m, .int .i64 x.s] 3)) := ((((Below.refl V2.heap.size V2).alloc (by first | exact Nat.le_refl _ | (simp only [World.size_alloc]; omega)) (.cells #[.int .i64 x.c] 3)).alloc (by first | exact Nat.le_refl _ | (simp only [World.size_alloc]; omega)) (.cells #[.int .i64 x.t] 3)).alloc (by first | exact Nat.le_refl _ | (simp only [World.size_alloc]; omega)) (.cells #[.int .i64 x.m, .int .i64 x.s] 3))
  clear Sc0_2 Sc1_2 Sc2_2 Sc3_2 Sc4_2 Sc5_2 Sc6_2
  have S_3 : Hid ((((V2.alloc (.cells #[.int .i64 x.c] 3)).alloc (.cells #[.int .i64 x.t] 3)).alloc (.cells #[.int .i64 x.m, .int .i64 x.s] 3)).heap[w.heap.size]? = some (.cells #[.int .i64 x.c, .int .i64 x.t, .int .i64 x.m, .int .i64 x.u, .int .i64 x.e, .int .i64 x.s, .bool x.h] 34 (0, 0))) := Lib.hid ((yb.block _ (by rw [ys]; exact Sz_2)).trans S_2.out)
  have q_3 : Below w.heap.size w (((V2.alloc (.cells #[.int .i64 x.c] 3)).alloc (.cells #[.int .i64 x.t] 3)).alloc (.cells #[.int .i64 x.m, .int .i64 x.s] 3)) := below_after q_2 yb
  clear yb ys q_2 S_2 Sz_2
  generalize (((V2.alloc (.cells #[.int .i64 x.c] 3)).alloc (.cells #[.int .i64 x.t] 3)).alloc (.cells #[.int .i64 x.m, .int .i64 x.s] 3)) = V9 at q_3 S_3 ⊢
  have Sz_3 := blk_lt S_3.out
  have Sc0_3 := blk_cell S_3.out 0
  have Sc1_3 := blk_cell S_3.out 1
  have Sc2_3 := blk_cell S_3.out 2
  have Sc3_3 := blk_cell S_3.out 3
  have Sc4_3 := blk_cell S_3.out 4
  have Sc5_3 := blk_cell S_3.out 5
  have Sc6_3 := blk_cell S_3.out 6
  have fS0 := blk_free S_3.out 0
  have fS1 := blk_free S_3.out 1
  have fS2 := blk_free S_3.out 2
  have fS3 := blk_free S_3.out 3
  have fS4 := blk_free S_3.out 4
  have fS5 := blk_free S_3.out 5
  have fS6 := blk_free S_3.out 6
  go_wp2_with fail
  refine (wn_yes 0 4194304 [x.u] _ _ _ _ _ _ rfl rfl (by first | simp | rfl) (by simp) H3.out).mono ?_
  rintro e w' ⟨rfl, rfl⟩
  go_wp2_with fail
  refine (wn_yes 0 1099511627776 [x.e] _ _ _ _ _ _ rfl rfl (by first | simp | rfl) (by simp) H4.out).mono ?_
  rintro e w' ⟨rfl, rfl⟩
  go_wp2
  go_ret
  refine ⟨rfl, ?_⟩
  have Q1 := Lib.hid q_3
  have qs := q_3.size
  (repeat' (first | (with_reducible exact Q1.out) | (with_reducible exact Below.refl _ _) | (with_reducible refine Below.alloc ?_ ?_ _) | (with_reducible refine Below.setCell ?_ ?_ _) | (with_reducible refine Below.drew ?_) | (with_reducible refine below_drewN ?_ _) | omega | (dsimp only; omega) | (simp; done) | (simp; omega)))

set_option maxHeartbeats 2000000 in
theorem check_m (x : CS) (m : Int) (w : World) (hM : ¬ MV m) :
    Calls Try.prog 23 #[.agg #[.int .i64 x.c, .int .i64 x.t, .int .i64 x.m, .int .i64 x.u, .int .i64 x.e, .int .i64 x.s, .bool x.h], .int .i64 m] w fun e w' => e = .returned (.int .i64 4) ∧ Below w.heap.size w w' := by
  have q_0 := Below.refl w.heap.size w
  go_enter Try.func23, Try.ntmps23
  go_wp2_with fail
  have b : Below w.heap.size w (w.alloc (.cells #[.int .i64 x.c, .int .i64 x.t, .int .i64 x.m, .int .i64 x.u, .int .i64 x.e, .int .i64 x.s, .bool x.h] 34)) := ((Below.refl _ w).alloc (Nat.le_refl _) (.cells #[.int .i64 x.c, .int .i64 x.t, .int .i64 x.m, .int .i64 x.u, .int .i64 x.e, .int .i64 x.s, .bool x.h] 34))
  have nb0 := blk_new w (.cells #[.int .i64 x.c, .int .i64 x.t, .int .i64 x.m, .int .i64 x.u, .int .i64 x.e, .int .i64 x.s, .bool x.h] 34)
  have nz0 : w.heap.size < (w.alloc (.cells #[.int .i64 x.c, .int .i64 x.t, .int .i64 x.m, .int .i64 x.u, .int .i64 x.e, .int .i64 x.s, .bool x.h] 34)).heap.size := by simp only [World.size_alloc]; omega
  have q_1 := q_0.trans (b.mono q_0.size)
  clear q_0
  clear b
  have S_1 := Lib.hid nb0
  have Sz_1 := nz0
  clear nb0 nz0
  have Sc0_1 := blk_cell S_1.out 0
  have Sc1_1 := blk_cell S_1.out 1
  have Sc2_1 := blk_cell S_1.out 2
  have Sc3_1 := blk_cell S_1.out 3
  have Sc4_1 := blk_cell S_1.out 4
  have Sc5_1 := blk_cell S_1.out 5
  have Sc6_1 := blk_cell S_1.out 6
  generalize (w.alloc (.cells #[.int .i64 x.c, .int .i64 x.t, .int .i64 x.m, .int .i64 x.u, .int .i64 x.e, .int .i64 x.s, .bool x.h] 34)) = V1 at q_1 S_1 Sz_1 Sc0_1 Sc1_1 Sc2_1 Sc3_1 Sc4_1 Sc5_1 Sc6_1 ⊢
  refine (mss_no m _ hM).mono ?_
  rintro e V2 ⟨rfl, b⟩
  have S_2 := Lib.hid ((b.block _ Sz_1).trans S_1.out)
  have Sz_2 := Nat.lt_of_lt_of_le Sz_1 b.size
  have Sc0_2 := blk_cell S_2.out 0
  have Sc1_2 := blk_cell S_2.out 1
  have Sc2_2 := blk_cell S_2.out 2
  have Sc3_2 := blk_cell S_2.out 3
  have Sc4_2 := blk_cell S_2.out 4
  have Sc5_2 := blk_cell S_2.out 5
  have Sc6_2 := blk_cell S_2.out 6
  have q_2 := q_1.trans (b.mono q_1.size)
  clear S_1 Sz_1 Sc0_1 Sc1_1 Sc2_1 Sc3_1 Sc4_1 Sc5_1 Sc6_1 q_1
  clear b
  go_wp2
  go_ret
  refine ⟨rfl, ?_⟩
  have Q1 := Lib.hid q_2
  have qs := q_2.size
  (repeat' (first | (with_reducible exact Q1.out) | (with_reducible exact Below.refl _ _) | (with_reducible refine Below.alloc ?_ ?_ _) | (with_reducible refine Below.setCell ?_ ?_ _) | (with_reducible refine Below.drew ?_) | (with_reducible refine below_drewN ?_ _) | omega | (dsimp only; omega) | (simp; done) | (simp; omega)))

set_option maxHeartbeats 2000000 in
theorem check_s (x : CS) (m : Int) (w : World) (hM : MV m) (hV : ¬ CV x m) :
    Calls Try.prog 23 #[.agg #[.int .i64 x.c, .int .i64 x.t, .int .i64 x.m, .int .i64 x.u, .int .i64 x.e, .int .i64 x.s, .bool x.h], .int .i64 m] w fun e w' => e = .returned (.int .i64 171) ∧ Below w.heap.size w w' := by
  have HM := Lib.hid hM
  have HV := Lib.hid hV
  clear hM hV
  by_cases h0 : InR m 1073741824 [x.c]
  case neg =>
    have H0 := Lib.hid h0
    clear h0 HV
    have q_0 := Below.refl w.heap.size w
    go_enter Try.func23, Try.ntmps23
    go_wp2_with fail
    have b : Below w.heap.size w (w.alloc (.cells #[.int .i64 x.c, .int .i64 x.t, .int .i64 x.m, .int .i64 x.u, .int .i64 x.e, .int .i64 x.s, .bool x.h] 34)) := ((Below.refl _ w).alloc (Nat.le_refl _) (.cells #[.int .i64 x.c, .int .i64 x.t, .int .i64 x.m, .int .i64 x.u, .int .i64 x.e, .int .i64 x.s, .bool x.h] 34))
    have nb0 := blk_new w (.cells #[.int .i64 x.c, .int .i64 x.t, .int .i64 x.m, .int .i64 x.u, .int .i64 x.e, .int .i64 x.s, .bool x.h] 34)
    have nz0 : w.heap.size < (w.alloc (.cells #[.int .i64 x.c, .int .i64 x.t, .int .i64 x.m, .int .i64 x.u, .int .i64 x.e, .int .i64 x.s, .bool x.h] 34)).heap.size := by simp only [World.size_alloc]; omega
    have q_1 := q_0.trans (b.mono q_0.size)
    clear q_0
    clear b
    have S_1 := Lib.hid nb0
    have Sz_1 := nz0
    clear nb0 nz0
    have Sc0_1 := blk_cell S_1.out 0
    have Sc1_1 := blk_cell S_1.out 1
    have Sc2_1 := blk_cell S_1.out 2
    have Sc3_1 := blk_cell S_1.out 3
    have Sc4_1 := blk_cell S_1.out 4
    have Sc5_1 := blk_cell S_1.out 5
    have Sc6_1 := blk_cell S_1.out 6
    generalize (w.alloc (.cells #[.int .i64 x.c, .int .i64 x.t, .int .i64 x.m, .int .i64 x.u, .int .i64 x.e, .int .i64 x.s, .bool x.h] 34)) = V1 at q_1 S_1 Sz_1 Sc0_1 Sc1_1 Sc2_1 Sc3_1 Sc4_1 Sc5_1 Sc6_1 ⊢
    refine (mss_yes m _ HM.out).mono ?_
    rintro e V2 ⟨rfl, b⟩
    have S_2 := Lib.hid ((b.block _ Sz_1).trans S_1.out)
    have Sz_2 := Nat.lt_of_lt_of_le Sz_1 b.size
    have Sc0_2 := blk_cell S_2.out 0
    have Sc1_2 := blk_cell S_2.out 1
    have Sc2_2 := blk_cell S_2.out 2
    have Sc3_2 := blk_cell S_2.out 3
    have Sc4_2 := blk_cell S_2.out 4
    have Sc5_2 := blk_cell S_2.out 5
    have Sc6_2 := blk_cell S_2.out 6
    have q_2 := q_1.trans (b.mono q_1.size)
    clear S_1 Sz_1 Sc0_1 Sc1_1 Sc2_1 Sc3_1 Sc4_1 Sc5_1 Sc6_1 q_1
    clear b
    go_wp2_with fail
    refine (wn_no m 1073741824 [x.c] _ _ _ _ _ _ rfl rfl (by first | simp | rfl) (by simp) H0.out).mono ?_
    rintro e w' ⟨rfl, rfl⟩
    go_wp2
    go_ret
    refine ⟨rfl, ?_⟩
    have Q1 := Lib.hid q_2
    have qs := q_2.size
    (repeat' (first | (with_reducible exact Q1.out) | (with_reducible exact Below.refl _ _) | (with_reducible refine Below.alloc ?_ ?_ _) | (with_reducible refine Below.setCell ?_ ?_ _) | (with_reducible refine Below.drew ?_) | (with_reducible refine below_drewN ?_ _) | omega | (dsimp only; omega) | (simp; done) | (simp; omega)))
  have H0 := Lib.hid h0
  clear h0
  by_cases h1 : InR 1 1073741824 [x.t]
  case neg =>
    have H1 := Lib.hid h1
    clear h1 HV
    have q_0 := Below.refl w.heap.size w
    go_enter Try.func23, Try.ntmps23
    go_wp2_with fail
    have b : Below w.heap.size w (w.alloc (.cells #[.int .i64 x.c, .int .i64 x.t, .int .i64 x.m, .int .i64 x.u, .int .i64 x.e, .int .i64 x.s, .bool x.h] 34)) := ((Below.refl _ w).alloc (Nat.le_refl _) (.cells #[.int .i64 x.c, .int .i64 x.t, .int .i64 x.m, .int .i64 x.u, .int .i64 x.e, .int .i64 x.s, .bool x.h] 34))
    have nb0 := blk_new w (.cells #[.int .i64 x.c, .int .i64 x.t, .int .i64 x.m, .int .i64 x.u, .int .i64 x.e, .int .i64 x.s, .bool x.h] 34)
    have nz0 : w.heap.size < (w.alloc (.cells #[.int .i64 x.c, .int .i64 x.t, .int .i64 x.m, .int .i64 x.u, .int .i64 x.e, .int .i64 x.s, .bool x.h] 34)).heap.size := by simp only [World.size_alloc]; omega
    have q_1 := q_0.trans (b.mono q_0.size)
    clear q_0
    clear b
    have S_1 := Lib.hid nb0
    have Sz_1 := nz0
    clear nb0 nz0
    have Sc0_1 := blk_cell S_1.out 0
    have Sc1_1 := blk_cell S_1.out 1
    have Sc2_1 := blk_cell S_1.out 2
    have Sc3_1 := blk_cell S_1.out 3
    have Sc4_1 := blk_cell S_1.out 4
    have Sc5_1 := blk_cell S_1.out 5
    have Sc6_1 := blk_cell S_1.out 6
    generalize (w.alloc (.cells #[.int .i64 x.c, .int .i64 x.t, .int .i64 x.m, .int .i64 x.u, .int .i64 x.e, .int .i64 x.s, .bool x.h] 34)) = V1 at q_1 S_1 Sz_1 Sc0_1 Sc1_1 Sc2_1 Sc3_1 Sc4_1 Sc5_1 Sc6_1 ⊢
    refine (mss_yes m _ HM.out).mono ?_
    rintro e V2 ⟨rfl, b⟩
    have S_2 := Lib.hid ((b.block _ Sz_1).trans S_1.out)
    have Sz_2 := Nat.lt_of_lt_of_le Sz_1 b.size
    have Sc0_2 := blk_cell S_2.out 0
    have Sc1_2 := blk_cell S_2.out 1
    have Sc2_2 := blk_cell S_2.out 2
    have Sc3_2 := blk_cell S_2.out 3
    have Sc4_2 := blk_cell S_2.out 4
    have Sc5_2 := blk_cell S_2.out 5
    have Sc6_2 := blk_cell S_2.out 6
    have q_2 := q_1.trans (b.mono q_1.size)
    clear S_1 Sz_1 Sc0_1 Sc1_1 Sc2_1 Sc3_1 Sc4_1 Sc5_1 Sc6_1 q_1
    clear b
    go_wp2_with fail
    refine (wn_yes m 1073741824 [x.c] _ _ _ _ _ _ rfl rfl (by first | simp | rfl) (by simp) H0.out).mono ?_
    rintro e w' ⟨rfl, rfl⟩
    go_wp2_with fail
    refine (wn_no 1 1073741824 [x.t] _ _ _ _ _ _ rfl rfl (by first | simp | rfl) (by simp) H1.out).mono ?_
    rintro e w' ⟨rfl, rfl⟩
    go_wp2
    go_ret
    refine ⟨rfl, ?_⟩
    have Q1 := Lib.hid q_2
    have qs := q_2.size
    (repeat' (first | (with_reducible exact Q1.out) | (with_reducible exact Below.refl _ _) | (with_reducible refine Below.alloc ?_ ?_ _) | (with_reducible refine Below.setCell ?_ ?_ _) | (with_reducible refine Below.drew ?_) | (with_reducible refine below_drewN ?_ _) | omega | (dsimp only; omega) | (simp; done) | (simp; omega)))
  have H1 := Lib.hid h1
  clear h1
  by_cases h2 : InR 0 1073741824 [x.m, x.s]
  case neg =>
    have H2 := Lib.hid h2
    clear h2 HV
    have q_0 := Below.refl w.heap.size w
    go_enter Try.func23, Try.ntmps23
    go_wp2_with fail
    have b : Below w.heap.size w (w.alloc (.cells #[.int .i64 x.c, .int .i64 x.t, .int .i64 x.m, .int .i64 x.u, .int .i64 x.e, .int .i64 x.s, .bool x.h] 34)) := ((Below.refl _ w).alloc (Nat.le_refl _) (.cells #[.int .i64 x.c, .int .i64 x.t, .int .i64 x.m, .int .i64 x.u, .int .i64 x.e, .int .i64 x.s, .bool x.h] 34))
    have nb0 := blk_new w (.cells #[.int .i64 x.c, .int .i64 x.t, .int .i64 x.m, .int .i64 x.u, .int .i64 x.e, .int .i64 x.s, .bool x.h] 34)
    have nz0 : w.heap.size < (w.alloc (.cells #[.int .i64 x.c, .int .i64 x.t, .int .i64 x.m, .int .i64 x.u, .int .i64 x.e, .int .i64 x.s, .bool x.h] 34)).heap.size := by simp only [World.size_alloc]; omega
    have q_1 := q_0.trans (b.mono q_0.size)
    clear q_0
    clear b
    have S_1 := Lib.hid nb0
    have Sz_1 := nz0
    clear nb0 nz0
    have Sc0_1 := blk_cell S_1.out 0
    have Sc1_1 := blk_cell S_1.out 1
    have Sc2_1 := blk_cell S_1.out 2
    have Sc3_1 := blk_cell S_1.out 3
    have Sc4_1 := blk_cell S_1.out 4
    have Sc5_1 := blk_cell S_1.out 5
    have Sc6_1 := blk_cell S_1.out 6
    generalize (w.alloc (.cells #[.int .i64 x.c, .int .i64 x.t, .int .i64 x.m, .int .i64 x.u, .int .i64 x.e, .int .i64 x.s, .bool x.h] 34)) = V1 at q_1 S_1 Sz_1 Sc0_1 Sc1_1 Sc2_1 Sc3_1 Sc4_1 Sc5_1 Sc6_1 ⊢
    refine (mss_yes m _ HM.out).mono ?_
    rintro e V2 ⟨rfl, b⟩
    have S_2 := Lib.hid ((b.block _ Sz_1).trans S_1.out)
    have Sz_2 := Nat.lt_of_lt_of_le Sz_1 b.size
    have Sc0_2 := blk_cell S_2.out 0
    have Sc1_2 := blk_cell S_2.out 1
    have Sc2_2 := blk_cell S_2.out 2
    have Sc3_2 := blk_cell S_2.out 3
    have Sc4_2 := blk_cell S_2.out 4
    have Sc5_2 := blk_cell S_2.out 5
    have Sc6_2 := blk_cell S_2.out 6
    have q_2 := q_1.trans (b.mono q_1.size)
    clear S_1 Sz_1 Sc0_1 Sc1_1 Sc2_1 Sc3_1 Sc4_1 Sc5_1 Sc6_1 q_1
    clear b
    go_wp2_with fail
    refine (wn_yes m 1073741824 [x.c] _ _ _ _ _ _ rfl rfl (by first | simp | rfl) (by simp) H0.out).mono ?_
    rintro e w' ⟨rfl, rfl⟩
    go_wp2_with fail
    refine (wn_yes 1 1073741824 [x.t] _ _ _ _ _ _ rfl rfl (by first | simp | rfl) (by simp) H1.out).mono ?_
    rintro e w' ⟨rfl, rfl⟩
    go_wp2_with fail
    refine (wn_no 0 1073741824 [x.m, x.s] _ _ _ _ _ _ rfl rfl (by first | simp | rfl) (by simp) H2.out).mono ?_
    rintro e w' ⟨rfl, rfl⟩
    go_wp2
    go_ret
    refine ⟨rfl, ?_⟩
    have Q1 := Lib.hid q_2
    have qs := q_2.size
    (repeat' (first | (with_reducible exact Q1.out) | (with_reducible exact Below.refl _ _) | (with_reducible refine Below.alloc ?_ ?_ _) | (with_reducible refine Below.setCell ?_ ?_ _) | (with_reducible refine Below.drew ?_) | (with_reducible refine below_drewN ?_ _) | omega | (dsimp only; omega) | (simp; done) | (simp; omega)))
  have H2 := Lib.hid h2
  clear h2
  by_cases h3 : InR 0 4194304 [x.u]
  case neg =>
    have H3 := Lib.hid h3
    clear h3 HV
    have q_0 := Below.refl w.heap.size w
    go_enter Try.func23, Try.ntmps23
    go_wp2_with fail
    have b : Below w.heap.size w (w.alloc (.cells #[.int .i64 x.c, .int .i64 x.t, .int .i64 x.m, .int .i64 x.u, .int .i64 x.e, .int .i64 x.s, .bool x.h] 34)) := ((Below.refl _ w).alloc (Nat.le_refl _) (.cells #[.int .i64 x.c, .int .i64 x.t, .int .i64 x.m, .int .i64 x.u, .int .i64 x.e, .int .i64 x.s, .bool x.h] 34))
    have nb0 := blk_new w (.cells #[.int .i64 x.c, .int .i64 x.t, .int .i64 x.m, .int .i64 x.u, .int .i64 x.e, .int .i64 x.s, .bool x.h] 34)
    have nz0 : w.heap.size < (w.alloc (.cells #[.int .i64 x.c, .int .i64 x.t, .int .i64 x.m, .int .i64 x.u, .int .i64 x.e, .int .i64 x.s, .bool x.h] 34)).heap.size := by simp only [World.size_alloc]; omega
    have q_1 := q_0.trans (b.mono q_0.size)
    clear q_0
    clear b
    have S_1 := Lib.hid nb0
    have Sz_1 := nz0
    clear nb0 nz0
    have Sc0_1 := blk_cell S_1.out 0
    have Sc1_1 := blk_cell S_1.out 1
    have Sc2_1 := blk_cell S_1.out 2
    have Sc3_1 := blk_cell S_1.out 3
    have Sc4_1 := blk_cell S_1.out 4
    have Sc5_1 := blk_cell S_1.out 5
    have Sc6_1 := blk_cell S_1.out 6
    generalize (w.alloc (.cells #[.int .i64 x.c, .int .i64 x.t, .int .i64 x.m, .int .i64 x.u, .int .i64 x.e, .int .i64 x.s, .bool x.h] 34)) = V1 at q_1 S_1 Sz_1 Sc0_1 Sc1_1 Sc2_1 Sc3_1 Sc4_1 Sc5_1 Sc6_1 ⊢
    refine (mss_yes m _ HM.out).mono ?_
    rintro e V2 ⟨rfl, b⟩
    have S_2 := Lib.hid ((b.block _ Sz_1).trans S_1.out)
    have Sz_2 := Nat.lt_of_lt_of_le Sz_1 b.size
    have Sc0_2 := blk_cell S_2.out 0
    have Sc1_2 := blk_cell S_2.out 1
    have Sc2_2 := blk_cell S_2.out 2
    have Sc3_2 := blk_cell S_2.out 3
    have Sc4_2 := blk_cell S_2.out 4
    have Sc5_2 := blk_cell S_2.out 5
    have Sc6_2 := blk_cell S_2.out 6
    have q_2 := q_1.trans (b.mono q_1.size)
    clear S_1 Sz_1 Sc0_1 Sc1_1 Sc2_1 Sc3_1 Sc4_1 Sc5_1 Sc6_1 q_1
    clear b
    go_wp2_with fail
    refine (wn_yes m 1073741824 [x.c] _ _ _ _ _ _ rfl rfl (by first | simp | rfl) (by simp) H0.out).mono ?_
    rintro e w' ⟨rfl, rfl⟩
    go_wp2_with fail
    refine (wn_yes 1 1073741824 [x.t] _ _ _ _ _ _ rfl rfl (by first | simp | rfl) (by simp) H1.out).mono ?_
    rintro e w' ⟨rfl, rfl⟩
    go_wp2_with fail
    refine (wn_yes 0 1073741824 [x.m, x.s] _ _ _ _ _ _ rfl rfl (by first | simp | rfl) (by simp) H2.out).mono ?_
    rintro e w' ⟨rfl, rfl⟩
    simp only [List.map_cons, List.map_nil]
    have ys : V2.heap.size = V2.heap.size := by simp
    have yb : Below V2.heap.size V2 (((V2.alloc (.cells #[.int .i64 x.c] 3)).alloc (.cells #[.int .i64 x.t] 3)).alloc (.cells #[.int .i64 x.m, .int .i64 x.s] 3)) := ((((Below.refl V2.heap.size V2).alloc (by first | exact Nat.le_refl _ | (simp only [World.size_alloc]; omega)) (.cells #[.int .i64 x.c] 3)).alloc (by first | exact Nat.le_refl _ | (simp only [World.size_alloc]; omega)) (.cells #[.int .i64 x.t] 3)).alloc (by first | exact Nat.le_refl _ | (simp only [World.size_alloc]; omega)) (.cells #[.int .i64 x.m, .int .i64 x.s] 3))
    clear Sc0_2 Sc1_2 Sc2_2 Sc3_2 Sc4_2 Sc5_2 Sc6_2
    have S_3 : Hid ((((V2.alloc (.cells #[.int .i64 x.c] 3)).alloc (.cells #[.int .i64 x.t] 3)).alloc (.cells #[.int .i64 x.m, .int .i64 x.s] 3)).heap[w.heap.size]? = some (.cells #[.int .i64 x.c, .int .i64 x.t, .int .i64 x.m, .int .i64 x.u, .int .i64 x.e, .int .i64 x.s, .bool x.h] 34 (0, 0))) := Lib.hid ((yb.block _ (by rw [ys]; exact Sz_2)).trans S_2.out)
    have q_3 : Below w.heap.size w (((V2.alloc (.cells #[.int .i64 x.c] 3)).alloc (.cells #[.int .i64 x.t] 3)).alloc (.cells #[.int .i64 x.m, .int .i64 x.s] 3)) := below_after q_2 yb
    clear yb ys q_2 S_2 Sz_2
    generalize (((V2.alloc (.cells #[.int .i64 x.c] 3)).alloc (.cells #[.int .i64 x.t] 3)).alloc (.cells #[.int .i64 x.m, .int .i64 x.s] 3)) = V9 at q_3 S_3 ⊢
    have Sz_3 := blk_lt S_3.out
    have Sc0_3 := blk_cell S_3.out 0
    have Sc1_3 := blk_cell S_3.out 1
    have Sc2_3 := blk_cell S_3.out 2
    have Sc3_3 := blk_cell S_3.out 3
    have Sc4_3 := blk_cell S_3.out 4
    have Sc5_3 := blk_cell S_3.out 5
    have Sc6_3 := blk_cell S_3.out 6
    have fS0 := blk_free S_3.out 0
    have fS1 := blk_free S_3.out 1
    have fS2 := blk_free S_3.out 2
    have fS3 := blk_free S_3.out 3
    have fS4 := blk_free S_3.out 4
    have fS5 := blk_free S_3.out 5
    have fS6 := blk_free S_3.out 6
    go_wp2_with fail
    refine (wn_no 0 4194304 [x.u] _ _ _ _ _ _ rfl rfl (by first | simp | rfl) (by simp) H3.out).mono ?_
    rintro e w' ⟨rfl, rfl⟩
    go_wp2
    go_ret
    refine ⟨rfl, ?_⟩
    have Q1 := Lib.hid q_3
    have qs := q_3.size
    (repeat' (first | (with_reducible exact Q1.out) | (with_reducible exact Below.refl _ _) | (with_reducible refine Below.alloc ?_ ?_ _) | (with_reducible refine Below.setCell ?_ ?_ _) | (with_reducible refine Below.drew ?_) | (with_reducible refine below_drewN ?_ _) | omega | (dsimp only; omega) | (simp; done) | (simp; omega)))
  have H3 := Lib.hid h3
  clear h3
  by_cases h4 : InR 0 1099511627776 [x.e]
  case neg =>
    have H4 := Lib.hid h4
    clear h4 HV
    have q_0 := Below.refl w.heap.size w
    go_enter Try.func23, Try.ntmps23
    go_wp2_with fail
    have b : Below w.heap.size w (w.alloc (.cells #[.int .i64 x.c, .int .i64 x.t, .int .i64 x.m, .int .i64 x.u, .int .i64 x.e, .int .i64 x.s, .bool x.h] 34)) := ((Below.refl _ w).alloc (Nat.le_refl _) (.cells #[.int .i64 x.c, .int .i64 x.t, .int .i64 x.m, .int .i64 x.u, .int .i64 x.e, .int .i64 x.s, .bool x.h] 34))
    have nb0 := blk_new w (.cells #[.int .i64 x.c, .int .i64 x.t, .int .i64 x.m, .int .i64 x.u, .int .i64 x.e, .int .i64 x.s, .bool x.h] 34)
    have nz0 : w.heap.size < (w.alloc (.cells #[.int .i64 x.c, .int .i64 x.t, .int .i64 x.m, .int .i64 x.u, .int .i64 x.e, .int .i64 x.s, .bool x.h] 34)).heap.size := by simp only [World.size_alloc]; omega
    have q_1 := q_0.trans (b.mono q_0.size)
    clear q_0
    clear b
    have S_1 := Lib.hid nb0
    have Sz_1 := nz0
    clear nb0 nz0
    have Sc0_1 := blk_cell S_1.out 0
    have Sc1_1 := blk_cell S_1.out 1
    have Sc2_1 := blk_cell S_1.out 2
    have Sc3_1 := blk_cell S_1.out 3
    have Sc4_1 := blk_cell S_1.out 4
    have Sc5_1 := blk_cell S_1.out 5
    have Sc6_1 := blk_cell S_1.out 6
    generalize (w.alloc (.cells #[.int .i64 x.c, .int .i64 x.t, .int .i64 x.m, .int .i64 x.u, .int .i64 x.e, .int .i64 x.s, .bool x.h] 34)) = V1 at q_1 S_1 Sz_1 Sc0_1 Sc1_1 Sc2_1 Sc3_1 Sc4_1 Sc5_1 Sc6_1 ⊢
    refine (mss_yes m _ HM.out).mono ?_
    rintro e V2 ⟨rfl, b⟩
    have S_2 := Lib.hid ((b.block _ Sz_1).trans S_1.out)
    have Sz_2 := Nat.lt_of_lt_of_le Sz_1 b.size
    have Sc0_2 := blk_cell S_2.out 0
    have Sc1_2 := blk_cell S_2.out 1
    have Sc2_2 := blk_cell S_2.out 2
    have Sc3_2 := blk_cell S_2.out 3
    have Sc4_2 := blk_cell S_2.out 4
    have Sc5_2 := blk_cell S_2.out 5
    have Sc6_2 := blk_cell S_2.out 6
    have q_2 := q_1.trans (b.mono q_1.size)
    clear S_1 Sz_1 Sc0_1 Sc1_1 Sc2_1 Sc3_1 Sc4_1 Sc5_1 Sc6_1 q_1
    clear b
    go_wp2_with fail
    refine (wn_yes m 1073741824 [x.c] _ _ _ _ _ _ rfl rfl (by first | simp | rfl) (by simp) H0.out).mono ?_
    rintro e w' ⟨rfl, rfl⟩
    go_wp2_with fail
    refine (wn_yes 1 1073741824 [x.t] _ _ _ _ _ _ rfl rfl (by first | simp | rfl) (by simp) H1.out).mono ?_
    rintro e w' ⟨rfl, rfl⟩
    go_wp2_with fail
    refine (wn_yes 0 1073741824 [x.m, x.s] _ _ _ _ _ _ rfl rfl (by first | simp | rfl) (by simp) H2.out).mono ?_
    rintro e w' ⟨rfl, rfl⟩
    simp only [List.map_cons, List.map_nil]
    have ys : V2.heap.size = V2.heap.size := by simp
    have yb : Below V2.heap.size V2 (((V2.alloc (.cells #[.int .i64 x.c] 3)).alloc (.cells #[.int .i64 x.t] 3)).alloc (.cells #[.int .i64 x.m, .int .i64 x.s] 3)) := ((((Below.refl V2.heap.size V2).alloc (by first | exact Nat.le_refl _ | (simp only [World.size_alloc]; omega)) (.cells #[.int .i64 x.c] 3)).alloc (by first | exact Nat.le_refl _ | (simp only [World.size_alloc]; omega)) (.cells #[.int .i64 x.t] 3)).alloc (by first | exact Nat.le_refl _ | (simp only [World.size_alloc]; omega)) (.cells #[.int .i64 x.m, .int .i64 x.s] 3))
    clear Sc0_2 Sc1_2 Sc2_2 Sc3_2 Sc4_2 Sc5_2 Sc6_2
    have S_3 : Hid ((((V2.alloc (.cells #[.int .i64 x.c] 3)).alloc (.cells #[.int .i64 x.t] 3)).alloc (.cells #[.int .i64 x.m, .int .i64 x.s] 3)).heap[w.heap.size]? = some (.cells #[.int .i64 x.c, .int .i64 x.t, .int .i64 x.m, .int .i64 x.u, .int .i64 x.e, .int .i64 x.s, .bool x.h] 34 (0, 0))) := Lib.hid ((yb.block _ (by rw [ys]; exact Sz_2)).trans S_2.out)
    have q_3 : Below w.heap.size w (((V2.alloc (.cells #[.int .i64 x.c] 3)).alloc (.cells #[.int .i64 x.t] 3)).alloc (.cells #[.int .i64 x.m, .int .i64 x.s] 3)) := below_after q_2 yb
    clear yb ys q_2 S_2 Sz_2
    generalize (((V2.alloc (.cells #[.int .i64 x.c] 3)).alloc (.cells #[.int .i64 x.t] 3)).alloc (.cells #[.int .i64 x.m, .int .i64 x.s] 3)) = V9 at q_3 S_3 ⊢
    have Sz_3 := blk_lt S_3.out
    have Sc0_3 := blk_cell S_3.out 0
    have Sc1_3 := blk_cell S_3.out 1
    have Sc2_3 := blk_cell S_3.out 2
    have Sc3_3 := blk_cell S_3.out 3
    have Sc4_3 := blk_cell S_3.out 4
    have Sc5_3 := blk_cell S_3.out 5
    have Sc6_3 := blk_cell S_3.out 6
    have fS0 := blk_free S_3.out 0
    have fS1 := blk_free S_3.out 1
    have fS2 := blk_free S_3.out 2
    have fS3 := blk_free S_3.out 3
    have fS4 := blk_free S_3.out 4
    have fS5 := blk_free S_3.out 5
    have fS6 := blk_free S_3.out 6
    go_wp2_with fail
    refine (wn_yes 0 4194304 [x.u] _ _ _ _ _ _ rfl rfl (by first | simp | rfl) (by simp) H3.out).mono ?_
    rintro e w' ⟨rfl, rfl⟩
    go_wp2_with fail
    refine (wn_no 0 1099511627776 [x.e] _ _ _ _ _ _ rfl rfl (by first | simp | rfl) (by simp) H4.out).mono ?_
    rintro e w' ⟨rfl, rfl⟩
    go_wp2
    go_ret
    refine ⟨rfl, ?_⟩
    have Q1 := Lib.hid q_3
    have qs := q_3.size
    (repeat' (first | (with_reducible exact Q1.out) | (with_reducible exact Below.refl _ _) | (with_reducible refine Below.alloc ?_ ?_ _) | (with_reducible refine Below.setCell ?_ ?_ _) | (with_reducible refine Below.drew ?_) | (with_reducible refine below_drewN ?_ _) | omega | (dsimp only; omega) | (simp; done) | (simp; omega)))
  have H4 := Lib.hid h4
  clear h4
  exact absurd (show CV x m from ⟨inR1.1 H0.out, inR1.1 H1.out, inR2.1 H2.out, inR1.1 H3.out, inR1.1 H4.out⟩) HV.out

set_option maxHeartbeats 2000000 in
theorem rcheck_yes (x : CS) (m : Int) (w : World) (hM : MV m) (hV : CV x m) :
    Calls Try.prog 24 #[.agg #[.int .i64 x.c, .int .i64 x.t, .int .i64 x.m, .int .i64 x.u, .int .i64 x.e, .int .i64 x.s, .bool x.h], .int .i64 m] w fun e w' => e = .returned (.int .i64 0) ∧ Below w.heap.size w w' := by
  have HM := Lib.hid hM
  have H0 := Lib.hid hV.1
  have H1 := Lib.hid hV.2.1
  have H2 := Lib.hid hV.2.2.1.1
  have H3 := Lib.hid hV.2.2.1.2
  have H4 := Lib.hid hV.2.2.2.1
  have H5 := Lib.hid hV.2.2.2.2
  clear hM hV
  go_enter Try.func24, Try.ntmps24
  go_wp2_with fail
  refine (rwi_yes m 1 65535 _ HM.out).mono ?_
  rintro e w' ⟨rfl, rfl⟩
  go_wp2_with fail
  refine (rwi_yes x.c m 1073741824 _ H0.out).mono ?_
  rintro e w' ⟨rfl, rfl⟩
  go_wp2_with fail
  refine (rwi_yes x.t 1 1073741824 _ H1.out).mono ?_
  rintro e w' ⟨rfl, rfl⟩
  go_wp2_with fail
  refine (rwi_yes x.m 0 1073741824 _ H2.out).mono ?_
  rintro e w' ⟨rfl, rfl⟩
  go_wp2_with fail
  refine (rwi_yes x.s 0 1073741824 _ H3.out).mono ?_
  rintro e w' ⟨rfl, rfl⟩
  go_wp2_with fail
  refine (rwi_yes x.u 0 4194304 _ H4.out).mono ?_
  rintro e w' ⟨rfl, rfl⟩
  go_wp2_with fail
  refine (rwi_yes x.e 0 1099511627776 _ H5.out).mono ?_
  rintro e w' ⟨rfl, rfl⟩
  go_wp2
  go_ret
  refine ⟨rfl, ?_⟩
  (repeat' (first | (with_reducible exact Below.refl _ _) | (with_reducible refine Below.alloc ?_ ?_ _) | (with_reducible refine Below.setCell ?_ ?_ _) | (with_reducible refine Below.drew ?_) | (with_reducible refine below_drewN ?_ _) | omega | (dsimp only; omega) | (simp; done) | (simp; omega)))

set_option maxHeartbeats 2000000 in
theorem rcheck_m (x : CS) (m : Int) (w : World) (hM : ¬ MV m) :
    Calls Try.prog 24 #[.agg #[.int .i64 x.c, .int .i64 x.t, .int .i64 x.m, .int .i64 x.u, .int .i64 x.e, .int .i64 x.s, .bool x.h], .int .i64 m] w fun e w' => e = .returned (.int .i64 4) ∧ Below w.heap.size w w' := by
  have HM := Lib.hid hM
  clear hM
  go_enter Try.func24, Try.ntmps24
  go_wp2_with fail
  refine (rwi_no m 1 65535 _ HM.out).mono ?_
  rintro e w' ⟨rfl, rfl⟩
  go_wp2
  go_ret
  refine ⟨rfl, ?_⟩
  (repeat' (first | (with_reducible exact Below.refl _ _) | (with_reducible refine Below.alloc ?_ ?_ _) | (with_reducible refine Below.setCell ?_ ?_ _) | (with_reducible refine Below.drew ?_) | (with_reducible refine below_drewN ?_ _) | omega | (dsimp only; omega) | (simp; done) | (simp; omega)))

set_option maxHeartbeats 2000000 in
theorem rcheck_s (x : CS) (m : Int) (w : World) (hM : MV m) (hV : ¬ CV x m) :
    Calls Try.prog 24 #[.agg #[.int .i64 x.c, .int .i64 x.t, .int .i64 x.m, .int .i64 x.u, .int .i64 x.e, .int .i64 x.s, .bool x.h], .int .i64 m] w fun e w' => e = .returned (.int .i64 171) ∧ Below w.heap.size w w' := by
  have HM := Lib.hid hM
  have HV := Lib.hid hV
  clear hM hV
  by_cases h0 : m ≤ x.c ∧ x.c ≤ 1073741824
  case neg =>
    have H0 := Lib.hid h0
    clear h0 HV
    go_enter Try.func24, Try.ntmps24
    go_wp2_with fail
    refine (rwi_yes m 1 65535 _ HM.out).mono ?_
    rintro e w' ⟨rfl, rfl⟩
    go_wp2_with fail
    refine (rwi_no x.c m 1073741824 _ H0.out).mono ?_
    rintro e w' ⟨rfl, rfl⟩
    go_wp2
    go_ret
    refine ⟨rfl, ?_⟩
    (repeat' (first | (with_reducible exact Below.refl _ _) | (with_reducible refine Below.alloc ?_ ?_ _) | (with_reducible refine Below.setCell ?_ ?_ _) | (with_reducible refine Below.drew ?_) | (with_reducible refine below_drewN ?_ _) | omega | (dsimp only; omega) | (simp; done) | (simp; omega)))
  have H0 := Lib.hid h0
  clear h0
  by_cases h1 : 1 ≤ x.t ∧ x.t ≤ 1073741824
  case neg =>
    have H1 := Lib.hid h1
    clear h1 HV
    go_enter Try.func24, Try.ntmps24
    go_wp2_with fail
    refine (rwi_yes m 1 65535 _ HM.out).mono ?_
    rintro e w' ⟨rfl, rfl⟩
    go_wp2_with fail
    refine (rwi_yes x.c m 1073741824 _ H0.out).mono ?_
    rintro e w' ⟨rfl, rfl⟩
    go_wp2_with fail
    refine (rwi_no x.t 1 1073741824 _ H1.out).mono ?_
    rintro e w' ⟨rfl, rfl⟩
    go_wp2
    go_ret
    refine ⟨rfl, ?_⟩
    (repeat' (first | (with_reducible exact Below.refl _ _) | (with_reducible refine Below.alloc ?_ ?_ _) | (with_reducible refine Below.setCell ?_ ?_ _) | (with_reducible refine Below.drew ?_) | (with_reducible refine below_drewN ?_ _) | omega | (dsimp only; omega) | (simp; done) | (simp; omega)))
  have H1 := Lib.hid h1
  clear h1
  by_cases h2 : 0 ≤ x.m ∧ x.m ≤ 1073741824
  case neg =>
    have H2 := Lib.hid h2
    clear h2 HV
    go_enter Try.func24, Try.ntmps24
    go_wp2_with fail
    refine (rwi_yes m 1 65535 _ HM.out).mono ?_
    rintro e w' ⟨rfl, rfl⟩
    go_wp2_with fail
    refine (rwi_yes x.c m 1073741824 _ H0.out).mono ?_
    rintro e w' ⟨rfl, rfl⟩
    go_wp2_with fail
    refine (rwi_yes x.t 1 1073741824 _ H1.out).mono ?_
    rintro e w' ⟨rfl, rfl⟩
    go_wp2_with fail
    refine (rwi_no x.m 0 1073741824 _ H2.out).mono ?_
    rintro e w' ⟨rfl, rfl⟩
    go_wp2
    go_ret
    refine ⟨rfl, ?_⟩
    (repeat' (first | (with_reducible exact Below.refl _ _) | (with_reducible refine Below.alloc ?_ ?_ _) | (with_reducible refine Below.setCell ?_ ?_ _) | (with_reducible refine Below.drew ?_) | (with_reducible refine below_drewN ?_ _) | omega | (dsimp only; omega) | (simp; done) | (simp; omega)))
  have H2 := Lib.hid h2
  clear h2
  by_cases h3 : 0 ≤ x.s ∧ x.s ≤ 1073741824
  case neg =>
    have H3 := Lib.hid h3
    clear h3 HV
    go_enter Try.func24, Try.ntmps24
    go_wp2_with fail
    refine (rwi_yes m 1 65535 _ HM.out).mono ?_
    rintro e w' ⟨rfl, rfl⟩
    go_wp2_with fail
    refine (rwi_yes x.c m 1073741824 _ H0.out).mono ?_
    rintro e w' ⟨rfl, rfl⟩
    go_wp2_with fail
    refine (rwi_yes x.t 1 1073741824 _ H1.out).mono ?_
    rintro e w' ⟨rfl, rfl⟩
    go_wp2_with fail
    refine (rwi_yes x.m 0 1073741824 _ H2.out).mono ?_
    rintro e w' ⟨rfl, rfl⟩
    go_wp2_with fail
    refine (rwi_no x.s 0 1073741824 _ H3.out).mono ?_
    rintro e w' ⟨rfl, rfl⟩
    go_wp2
    go_ret
    refine ⟨rfl, ?_⟩
    (repeat' (first | (with_reducible exact Below.refl _ _) | (with_reducible refine Below.alloc ?_ ?_ _) | (with_reducible refine Below.setCell ?_ ?_ _) | (with_reducible refine Below.drew ?_) | (with_reducible refine below_drewN ?_ _) | omega | (dsimp only; omega) | (simp; done) | (simp; omega)))
  have H3 := Lib.hid h3
  clear h3
  by_cases h4 : 0 ≤ x.u ∧ x.u ≤ 4194304
  case neg =>
    have H4 := Lib.hid h4
    clear h4 HV
    go_enter Try.func24, Try.ntmps24
    go_wp2_with fail
    refine (rwi_yes m 1 65535 _ HM.out).mono ?_
    rintro e w' ⟨rfl, rfl⟩
    go_wp2_with fail
    refine (rwi_yes x.c m 1073741824 _ H0.out).mono ?_
    rintro e w' ⟨rfl, rfl⟩
    go_wp2_with fail
    refine (rwi_yes x.t 1 1073741824 _ H1.out).mono ?_
    rintro e w' ⟨rfl, rfl⟩
    go_wp2_with fail
    refine (rwi_yes x.m 0 1073741824 _ H2.out).mono ?_
    rintro e w' ⟨rfl, rfl⟩
    go_wp2_with fail
    refine (rwi_yes x.s 0 1073741824 _ H3.out).mono ?_
    rintro e w' ⟨rfl, rfl⟩
    go_wp2_with fail
    refine (rwi_no x.u 0 4194304 _ H4.out).mono ?_
    rintro e w' ⟨rfl, rfl⟩
    go_wp2
    go_ret
    refine ⟨rfl, ?_⟩
    (repeat' (first | (with_reducible exact Below.refl _ _) | (with_reducible refine Below.alloc ?_ ?_ _) | (with_reducible refine Below.setCell ?_ ?_ _) | (with_reducible refine Below.drew ?_) | (with_reducible refine below_drewN ?_ _) | omega | (dsimp only; omega) | (simp; done) | (simp; omega)))
  have H4 := Lib.hid h4
  clear h4
  by_cases h5 : 0 ≤ x.e ∧ x.e ≤ 1099511627776
  case neg =>
    have H5 := Lib.hid h5
    clear h5 HV
    go_enter Try.func24, Try.ntmps24
    go_wp2_with fail
    refine (rwi_yes m 1 65535 _ HM.out).mono ?_
    rintro e w' ⟨rfl, rfl⟩
    go_wp2_with fail
    refine (rwi_yes x.c m 1073741824 _ H0.out).mono ?_
    rintro e w' ⟨rfl, rfl⟩
    go_wp2_with fail
    refine (rwi_yes x.t 1 1073741824 _ H1.out).mono ?_
    rintro e w' ⟨rfl, rfl⟩
    go_wp2_with fail
    refine (rwi_yes x.m 0 1073741824 _ H2.out).mono ?_
    rintro e w' ⟨rfl, rfl⟩
    go_wp2_with fail
    refine (rwi_yes x.s 0 1073741824 _ H3.out).mono ?_
    rintro e w' ⟨rfl, rfl⟩
    go_wp2_with fail
    refine (rwi_yes x.u 0 4194304 _ H4.out).mono ?_
    rintro e w' ⟨rfl, rfl⟩
    go_wp2_with fail
    refine (rwi_no x.e 0 1099511627776 _ H5.out).mono ?_
    rintro e w' ⟨rfl, rfl⟩
    go_wp2
    go_ret
    refine ⟨rfl, ?_⟩
    (repeat' (first | (with_reducible exact Below.refl _ _) | (with_reducible refine Below.alloc ?_ ?_ _) | (with_reducible refine Below.setCell ?_ ?_ _) | (with_reducible refine Below.drew ?_) | (with_reducible refine below_drewN ?_ _) | omega | (dsimp only; omega) | (simp; done) | (simp; omega)))
  have H5 := Lib.hid h5
  clear h5
  exact absurd (show CV x m from ⟨H0.out, H1.out, ⟨H2.out, H3.out⟩, H4.out, H5.out⟩) HV.out

end Go.Proofs.Ythkmphngfndebaa
