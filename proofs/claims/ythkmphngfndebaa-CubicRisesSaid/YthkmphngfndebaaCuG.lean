/- Cubic: what goes by a pointer. -/
import Derived.Test.YthkmphngfndebaaCuP
import Derived.StillTailTactics
import Derived.RegionTactic
import Derived.Deep.RegionWith
import Derived.Deep.DeepCutAuto
namespace Go.Proofs.Ythkmphngfndebaa
open Go.RowKit Go.Proofs.Ythkmphngfndebaa.Cu

theorem held_s (n : Int) (w : World) : Calls Try.prog 30 #[.int .i64 n] w fun e w' => e = .returned (.int .i64 (min n 1073741824)) ∧ w' = w :=
  (held_any n w).mono fun _ _ h => ⟨h.1, h.2.symm⟩
set_option maxRecDepth 100000 in
set_option maxHeartbeats 2000000 in
theorem goon_lt (x : CS) (m n t : Int) (g : Nat) (w : World) (hM : MV m) (hV : CV x m) (hN : WV n) (g0 : 0 ≤ t) (g1 : t ≤ 4398046511104) (hlt : crv x.m m (t - x.u) < es x m n) (hS : w.heap[g]? = some (.cells #[.int .i64 x.c, .int .i64 x.t, .int .i64 x.m, .int .i64 x.u, .int .i64 x.e, .int .i64 x.s, .bool x.h] 34 (0, 0))) :
    Calls Try.prog 32 #[.pointer (some ⟨g, 0, none⟩), .int .i64 m, .int .i64 n, .int .i64 t] w fun e w' => e = .returned (.tuple #[]) ∧ w'.heap[g]? = some (.cells #[.int .i64 (max x.c (es x m n)), .int .i64 (x.t), .int .i64 (x.m), .int .i64 (x.u), .int .i64 (x.e), .int .i64 (es x m n), .bool x.h] 34 (0, 0)) ∧ w.grownBy w' (some g) := by
  have hcu := crv_bd x.m m (t - x.u)
  have hes := es_bd hM hV hN
  have ham := aim_bd (cu := crv x.m m (t - x.u)) hM hV hN
  have HO : Hid (WV x.m) := Lib.hid hV.2.2.1.1
  have HM := Lib.hid hM
  obtain ⟨cu, hcu2⟩ : ∃ z, crv x.m m (t - x.u) = z := ⟨_, rfl⟩
  rw [hcu2] at hcu ham hlt
  try rw [hcu2]
  have HC : Hid (crv x.m m (t - x.u) = cu) := Lib.hid hcu2
  clear hcu2
  obtain ⟨cu0, cu1⟩ := hcu
  obtain ⟨⟨a0, a1⟩, ⟨b0, b1⟩, d0, d1⟩ := hes
  obtain ⟨E, hE⟩ : ∃ z, es x m n = z := ⟨_, rfl⟩
  rw [hE] at d0 d1 hlt
  rw [hE]
  unfold es at hE
  obtain ⟨P, hP⟩ : ∃ z, 9 * m * n = z := ⟨_, rfl⟩
  rw [hP] at hE a0 a1 b0 b1
  obtain ⟨R, hR⟩ : ∃ z, P / (17 * x.c) = z := ⟨_, rfl⟩
  rw [hR] at hE b0 b1
  obtain ⟨n0, n1⟩ := hN
  obtain ⟨m0, m1⟩ := hM
  have hc17 : 17 ≤ 17 * x.c ∧ 17 * x.c ≤ 18253611008 := by have := hV.1; omega
  have hsS := hV.2.2.1.2
  have W1 : IntKind.i64.wrap (9 * m) = 9 * m := IntWalk.i64_in _ ⟨by omega, by omega⟩
  have W2 : IntKind.i64.wrap (9 * m * n) = P := by rw [hP]; exact IntWalk.i64_in _ ⟨by omega, by omega⟩
  have W3 : IntKind.i64.wrap (17 * x.c) = 17 * x.c := IntWalk.i64_in _ ⟨by omega, by omega⟩
  have W4 : IntKind.i64.wrap (P.tdiv (17 * x.c)) = R := by rw [← hR]; exact IntWalk.i64_quo _ _ ⟨by omega, by omega, by omega⟩
  have W5 : IntKind.i64.wrap (x.s + R) = x.s + R := IntWalk.i64_in _ ⟨by have := hsS.1; omega, by have := hsS.2; omega⟩
  have fzb : (17 * x.c == 0) = false := by rw [beq_eq_false_iff_ne]; omega
  clear hc17 hsS
  clear ham
  obtain ⟨⟨c0, c1⟩, ⟨t0, t1⟩, ⟨⟨p0, p1⟩, s0, s1⟩, ⟨u0, u1⟩, e0, e1⟩ := hV
  have HTU : Hid (IntKind.i64.wrap (t - x.u) = t - x.u) := Lib.hid (IntWalk.i64_in _ ⟨by omega, by omega⟩)
  have fz : ¬ 17 * x.c = 0 := by omega
  have fz2 : ¬ x.c = 0 := by omega
  go_enter Try.func32, Try.ntmps32
  have S_0 := Lib.hid hS
  clear hS
  have G_0 := Lib.hid (World.grownBy.refl w (some g))
  have Sc0 := blk_cell S_0.out 0
  have Sf0 := blk_free S_0.out 0
  have Sc1 := blk_cell S_0.out 1
  have Sf1 := blk_free S_0.out 1
  have Sc2 := blk_cell S_0.out 2
  have Sf2 := blk_free S_0.out 2
  have Sc3 := blk_cell S_0.out 3
  have Sf3 := blk_free S_0.out 3
  have Sc4 := blk_cell S_0.out 4
  have Sf4 := blk_free S_0.out 4
  have Sc5 := blk_cell S_0.out 5
  have Sf5 := blk_free S_0.out 5
  have Sc6 := blk_cell S_0.out 6
  have Sf6 := blk_free S_0.out 6
  go_wp2_with fail
  clear Sc0 Sf0 Sc1 Sf1 Sc2 Sf2 Sc3 Sf3 Sc4 Sf4 Sc5 Sf5 Sc6 Sf6
  have S_D : Hid (w.drew.heap[g]? = some (.cells #[.int .i64 x.c, .int .i64 x.t, .int .i64 x.m, .int .i64 x.u, .int .i64 x.e, .int .i64 x.s, .bool x.h] 34 (0, 0))) := Lib.hid (blk_drew S_0.out)
  have G_D := Lib.hid (gr_trans G_0.out (gr_drew w _))
  have Sc0 := blk_cell S_D.out 0
  have Sf0 := blk_free S_D.out 0
  have Sc1 := blk_cell S_D.out 1
  have Sf1 := blk_free S_D.out 1
  have Sc2 := blk_cell S_D.out 2
  have Sf2 := blk_free S_D.out 2
  have Sc3 := blk_cell S_D.out 3
  have Sf3 := blk_free S_D.out 3
  have Sc4 := blk_cell S_D.out 4
  have Sf4 := blk_free S_D.out 4
  have Sc5 := blk_cell S_D.out 5
  have Sf5 := blk_free S_D.out 5
  have Sc6 := blk_cell S_D.out 6
  have Sf6 := blk_free S_D.out 6
  go_region_with (first
    | (go_at_call 9; (with_reducible refine ((show ∀ W : World, Calls Try.prog 9 #[.int .i64 x.m, .int .i64 m, .int .i64 (IntKind.i64.wrap (t - x.u))] W fun e w' => e = .returned (.tuple #[.int .i64 cu, .int .i64 0]) ∧ Below W.heap.size W w' from (fun W => by have h := curve_ok x.m m (t - x.u) W HO.out HM.out; rw [HC.out] at h; rw [HTU.out]; exact h)) _).mono ?_); rintro e Y1 ⟨rfl, b⟩; have S_1 := Lib.hid ((b.block _ (blk_lt S_D.out)).trans S_D.out); have G_1 := Lib.hid (gr_trans G_D.out (gr_below b (some g))); have Sd0 := blk_cell S_1.out 0; have Se0 := blk_free S_1.out 0; have Sd1 := blk_cell S_1.out 1; have Se1 := blk_free S_1.out 1; have Sd2 := blk_cell S_1.out 2; have Se2 := blk_free S_1.out 2; have Sd3 := blk_cell S_1.out 3; have Se3 := blk_free S_1.out 3; have Sd4 := blk_cell S_1.out 4; have Se4 := blk_free S_1.out 4; have Sd5 := blk_cell S_1.out 5; have Se5 := blk_free S_1.out 5; have Sd6 := blk_cell S_1.out 6; have Se6 := blk_free S_1.out 6; clear b))
  all_goals
    clear S_D G_D S_0 G_0 Sc0 Sf0 Sc1 Sf1 Sc2 Sf2 Sc3 Sf3 Sc4 Sf4 Sc5 Sf5 Sc6 Sf6
    have Sc0 := Sd0
    have Sf0 := Se0
    clear Sd0 Se0
    have Sc1 := Sd1
    have Sf1 := Se1
    clear Sd1 Se1
    have Sc2 := Sd2
    have Sf2 := Se2
    clear Sd2 Se2
    have Sc3 := Sd3
    have Sf3 := Se3
    clear Sd3 Se3
    have Sc4 := Sd4
    have Sf4 := Se4
    clear Sd4 Se4
    have Sc5 := Sd5
    have Sf5 := Se5
    clear Sd5 Se5
    have Sc6 := Sd6
    have Sf6 := Se6
    clear Sd6 Se6
    go_wp2_with fail
    refine wp_region_still_tail 19 (by kernel_rfl) (by kernel_rfl) ?_
    simp only [List.take_succ_cons, List.take_zero, List.drop_succ_cons, List.drop_zero]
    repeat (first | still_call (held_s _ _) | still_step)
    refine wpStill_nil ?_
    change wpList _ _ _ _ _ Y1.drew
    clear Sc0 Sf0 Sc1 Sf1 Sc2 Sf2 Sc3 Sf3 Sc4 Sf4 Sc5 Sf5 Sc6 Sf6
    have S_2 : Hid ((Y1.drew).heap[g]? = some (.cells #[.int .i64 x.c, .int .i64 x.t, .int .i64 x.m, .int .i64 x.u, .int .i64 x.e, .int .i64 x.s, .bool x.h] 34 (0, 0))) := Lib.hid (blk_drew S_1.out)
    clear S_1
    have G_2 := Lib.hid (gr_trans G_1.out (gr_drew Y1 _))
    clear G_1
    generalize Y1.drew = X2 at S_2 G_2 ⊢
    have Sc0 := blk_cell S_2.out 0
    have Sf0 := blk_free S_2.out 0
    have Sc1 := blk_cell S_2.out 1
    have Sf1 := blk_free S_2.out 1
    have Sc2 := blk_cell S_2.out 2
    have Sf2 := blk_free S_2.out 2
    have Sc3 := blk_cell S_2.out 3
    have Sf3 := blk_free S_2.out 3
    have Sc4 := blk_cell S_2.out 4
    have Sf4 := blk_free S_2.out 4
    have Sc5 := blk_cell S_2.out 5
    have Sf5 := blk_free S_2.out 5
    have Sc6 := blk_cell S_2.out 6
    have Sf6 := blk_free S_2.out 6
    go_wp2_with fail
    clear Sc0 Sf0 Sc1 Sf1 Sc2 Sf2 Sc3 Sf3 Sc4 Sf4 Sc5 Sf5 Sc6 Sf6
    have S_3 : Hid ((X2.setCell ⟨g, 5, none⟩ (.int .i64 E)).heap[g]? = some (.cells #[.int .i64 x.c, .int .i64 x.t, .int .i64 x.m, .int .i64 x.u, .int .i64 x.e, .int .i64 E, .bool x.h] 34 (0, 0))) := Lib.hid (blk_set S_2.out 5 (.int .i64 E))
    clear S_2
    have G_3 := Lib.hid (gr_trans G_2.out (gr_set X2 g 5 (.int .i64 E)))
    clear G_2
    generalize X2.setCell ⟨g, 5, none⟩ (.int .i64 E) = X3 at S_3 G_3 ⊢
    have Sc0 := blk_cell S_3.out 0
    have Sf0 := blk_free S_3.out 0
    have Sc1 := blk_cell S_3.out 1
    have Sf1 := blk_free S_3.out 1
    have Sc2 := blk_cell S_3.out 2
    have Sf2 := blk_free S_3.out 2
    have Sc3 := blk_cell S_3.out 3
    have Sf3 := blk_free S_3.out 3
    have Sc4 := blk_cell S_3.out 4
    have Sf4 := blk_free S_3.out 4
    have Sc5 := blk_cell S_3.out 5
    have Sf5 := blk_free S_3.out 5
    have Sc6 := blk_cell S_3.out 6
    have Sf6 := blk_free S_3.out 6
    go_wp2_with fail
    go_wp2_with fail
    refine wp_region_still_tail 12 (by kernel_rfl) (by kernel_rfl) ?_
    simp only [List.take_succ_cons, List.take_zero, List.drop_succ_cons, List.drop_zero]
    repeat (first | still_step)
    refine wpStill_nil ?_
    change wpList _ _ _ _ _ X3.drew
    clear Sc0 Sf0 Sc1 Sf1 Sc2 Sf2 Sc3 Sf3 Sc4 Sf4 Sc5 Sf5 Sc6 Sf6
    have S_4 : Hid ((X3.drew).heap[g]? = some (.cells #[.int .i64 x.c, .int .i64 x.t, .int .i64 x.m, .int .i64 x.u, .int .i64 x.e, .int .i64 E, .bool x.h] 34 (0, 0))) := Lib.hid (blk_drew S_3.out)
    clear S_3
    have G_4 := Lib.hid (gr_trans G_3.out (gr_drew X3 _))
    clear G_3
    generalize X3.drew = X4 at S_4 G_4 ⊢
    have Sc0 := blk_cell S_4.out 0
    have Sf0 := blk_free S_4.out 0
    have Sc1 := blk_cell S_4.out 1
    have Sf1 := blk_free S_4.out 1
    have Sc2 := blk_cell S_4.out 2
    have Sf2 := blk_free S_4.out 2
    have Sc3 := blk_cell S_4.out 3
    have Sf3 := blk_free S_4.out 3
    have Sc4 := blk_cell S_4.out 4
    have Sf4 := blk_free S_4.out 4
    have Sc5 := blk_cell S_4.out 5
    have Sf5 := blk_free S_4.out 5
    have Sc6 := blk_cell S_4.out 6
    have Sf6 := blk_free S_4.out 6
    go_wp2_with fail
    clear Sc0 Sf0 Sc1 Sf1 Sc2 Sf2 Sc3 Sf3 Sc4 Sf4 Sc5 Sf5 Sc6 Sf6
    have S_5 : Hid ((X4.setCell ⟨g, 0, none⟩ (.int .i64 (max x.c E))).heap[g]? = some (.cells #[.int .i64 (max x.c E), .int .i64 x.t, .int .i64 x.m, .int .i64 x.u, .int .i64 x.e, .int .i64 E, .bool x.h] 34 (0, 0))) := Lib.hid (blk_set S_4.out 0 (.int .i64 (max x.c E)))
    clear S_4
    have G_5 := Lib.hid (gr_trans G_4.out (gr_set X4 g 0 (.int .i64 (max x.c E))))
    clear G_4
    generalize X4.setCell ⟨g, 0, none⟩ (.int .i64 (max x.c E)) = X5 at S_5 G_5 ⊢
    have Sc0 := blk_cell S_5.out 0
    have Sf0 := blk_free S_5.out 0
    have Sc1 := blk_cell S_5.out 1
    have Sf1 := blk_free S_5.out 1
    have Sc2 := blk_cell S_5.out 2
    have Sf2 := blk_free S_5.out 2
    have Sc3 := blk_cell S_5.out 3
    have Sf3 := blk_free S_5.out 3
    have Sc4 := blk_cell S_5.out 4
    have Sf4 := blk_free S_5.out 4
    have Sc5 := blk_cell S_5.out 5
    have Sf5 := blk_free S_5.out 5
    have Sc6 := blk_cell S_5.out 6
    have Sf6 := blk_free S_5.out 6
    go_wp2_with fail
    refine bodyPost_ret (v := .tuple #[]) (by simp [results, Try.results32, go_sem]) rfl ⟨rfl, S_5.out, G_5.out⟩

set_option maxRecDepth 100000 in
set_option maxHeartbeats 2000000 in
theorem goon_ge (x : CS) (m n t : Int) (g : Nat) (w : World) (hM : MV m) (hV : CV x m) (hN : WV n) (g0 : 0 ≤ t) (g1 : t ≤ 4398046511104) (hlt : ¬ crv x.m m (t - x.u) < es x m n) (hS : w.heap[g]? = some (.cells #[.int .i64 x.c, .int .i64 x.t, .int .i64 x.m, .int .i64 x.u, .int .i64 x.e, .int .i64 x.s, .bool x.h] 34 (0, 0))) :
    Calls Try.prog 32 #[.pointer (some ⟨g, 0, none⟩), .int .i64 m, .int .i64 n, .int .i64 t] w fun e w' => e = .returned (.tuple #[]) ∧ w'.heap[g]? = some (.cells #[.int .i64 (min (x.c + (aim x (crv x.m m (t - x.u)) - x.c) * n / x.c) 1073741824), .int .i64 (x.t), .int .i64 (x.m), .int .i64 (x.u), .int .i64 (x.e), .int .i64 (es x m n), .bool x.h] 34 (0, 0)) ∧ w.grownBy w' (some g) := by
  have hcu := crv_bd x.m m (t - x.u)
  have hes := es_bd hM hV hN
  have ham := aim_bd (cu := crv x.m m (t - x.u)) hM hV hN
  have HO : Hid (WV x.m) := Lib.hid hV.2.2.1.1
  have HM := Lib.hid hM
  obtain ⟨cu, hcu2⟩ : ∃ z, crv x.m m (t - x.u) = z := ⟨_, rfl⟩
  rw [hcu2] at hcu ham hlt
  try rw [hcu2]
  have HC : Hid (crv x.m m (t - x.u) = cu) := Lib.hid hcu2
  clear hcu2
  obtain ⟨cu0, cu1⟩ := hcu
  obtain ⟨⟨a0, a1⟩, ⟨b0, b1⟩, d0, d1⟩ := hes
  obtain ⟨E, hE⟩ : ∃ z, es x m n = z := ⟨_, rfl⟩
  rw [hE] at d0 d1 hlt
  rw [hE]
  unfold es at hE
  obtain ⟨P, hP⟩ : ∃ z, 9 * m * n = z := ⟨_, rfl⟩
  rw [hP] at hE a0 a1 b0 b1
  obtain ⟨R, hR⟩ : ∃ z, P / (17 * x.c) = z := ⟨_, rfl⟩
  rw [hR] at hE b0 b1
  obtain ⟨n0, n1⟩ := hN
  obtain ⟨m0, m1⟩ := hM
  have hc17 : 17 ≤ 17 * x.c ∧ 17 * x.c ≤ 18253611008 := by have := hV.1; omega
  have hsS := hV.2.2.1.2
  have W1 : IntKind.i64.wrap (9 * m) = 9 * m := IntWalk.i64_in _ ⟨by omega, by omega⟩
  have W2 : IntKind.i64.wrap (9 * m * n) = P := by rw [hP]; exact IntWalk.i64_in _ ⟨by omega, by omega⟩
  have W3 : IntKind.i64.wrap (17 * x.c) = 17 * x.c := IntWalk.i64_in _ ⟨by omega, by omega⟩
  have W4 : IntKind.i64.wrap (P.tdiv (17 * x.c)) = R := by rw [← hR]; exact IntWalk.i64_quo _ _ ⟨by omega, by omega, by omega⟩
  have W5 : IntKind.i64.wrap (x.s + R) = x.s + R := IntWalk.i64_in _ ⟨by have := hsS.1; omega, by have := hsS.2; omega⟩
  have fzb : (17 * x.c == 0) = false := by rw [beq_eq_false_iff_ne]; omega
  clear hc17 hsS
  obtain ⟨⟨f0, f1⟩, ⟨k0, k1⟩, l0, l1⟩ := ham
  obtain ⟨A, hA⟩ : ∃ z, aim x cu = z := ⟨_, rfl⟩
  rw [hA] at f0 f1 k0 k1 l0 l1
  rw [hA]
  obtain ⟨B, hB⟩ : ∃ z, (A - x.c) * n = z := ⟨_, rfl⟩
  rw [hB] at k0 k1 l0 l1
  rw [hB]
  have hA2 : min (max cu x.c) (x.c * 3 / 2) = A := hA
  have hc1 := hV.1
  have W6 : IntKind.i64.wrap (x.c * 3) = x.c * 3 := IntWalk.i64_in _ ⟨by omega, by omega⟩
  have W7 : IntKind.i64.wrap ((x.c * 3).tdiv 2) = x.c * 3 / 2 := IntWalk.i64_quo _ _ ⟨by omega, by omega, by omega⟩
  have W8 : IntKind.i64.wrap (A - x.c) = A - x.c := IntWalk.i64_in _ ⟨by omega, by omega⟩
  have W9 : IntKind.i64.wrap ((A - x.c) * n) = B := by rw [hB]; exact IntWalk.i64_in _ ⟨by omega, by omega⟩
  have W10 : IntKind.i64.wrap (B.tdiv x.c) = B / x.c := IntWalk.i64_quo _ _ ⟨by omega, by omega, by omega⟩
  have W11 : IntKind.i64.wrap (x.c + B / x.c) = x.c + B / x.c := IntWalk.i64_in _ ⟨by omega, by omega⟩
  have fzc : (x.c == 0) = false := by rw [beq_eq_false_iff_ne]; omega
  clear hA hc1
  obtain ⟨⟨c0, c1⟩, ⟨t0, t1⟩, ⟨⟨p0, p1⟩, s0, s1⟩, ⟨u0, u1⟩, e0, e1⟩ := hV
  have HTU : Hid (IntKind.i64.wrap (t - x.u) = t - x.u) := Lib.hid (IntWalk.i64_in _ ⟨by omega, by omega⟩)
  have fz : ¬ 17 * x.c = 0 := by omega
  have fz2 : ¬ x.c = 0 := by omega
  go_enter Try.func32, Try.ntmps32
  have S_0 := Lib.hid hS
  clear hS
  have G_0 := Lib.hid (World.grownBy.refl w (some g))
  have Sc0 := blk_cell S_0.out 0
  have Sf0 := blk_free S_0.out 0
  have Sc1 := blk_cell S_0.out 1
  have Sf1 := blk_free S_0.out 1
  have Sc2 := blk_cell S_0.out 2
  have Sf2 := blk_free S_0.out 2
  have Sc3 := blk_cell S_0.out 3
  have Sf3 := blk_free S_0.out 3
  have Sc4 := blk_cell S_0.out 4
  have Sf4 := blk_free S_0.out 4
  have Sc5 := blk_cell S_0.out 5
  have Sf5 := blk_free S_0.out 5
  have Sc6 := blk_cell S_0.out 6
  have Sf6 := blk_free S_0.out 6
  go_wp2_with fail
  clear Sc0 Sf0 Sc1 Sf1 Sc2 Sf2 Sc3 Sf3 Sc4 Sf4 Sc5 Sf5 Sc6 Sf6
  have S_D : Hid (w.drew.heap[g]? = some (.cells #[.int .i64 x.c, .int .i64 x.t, .int .i64 x.m, .int .i64 x.u, .int .i64 x.e, .int .i64 x.s, .bool x.h] 34 (0, 0))) := Lib.hid (blk_drew S_0.out)
  have G_D := Lib.hid (gr_trans G_0.out (gr_drew w _))
  have Sc0 := blk_cell S_D.out 0
  have Sf0 := blk_free S_D.out 0
  have Sc1 := blk_cell S_D.out 1
  have Sf1 := blk_free S_D.out 1
  have Sc2 := blk_cell S_D.out 2
  have Sf2 := blk_free S_D.out 2
  have Sc3 := blk_cell S_D.out 3
  have Sf3 := blk_free S_D.out 3
  have Sc4 := blk_cell S_D.out 4
  have Sf4 := blk_free S_D.out 4
  have Sc5 := blk_cell S_D.out 5
  have Sf5 := blk_free S_D.out 5
  have Sc6 := blk_cell S_D.out 6
  have Sf6 := blk_free S_D.out 6
  go_region_with (first
    | (go_at_call 9; (with_reducible refine ((show ∀ W : World, Calls Try.prog 9 #[.int .i64 x.m, .int .i64 m, .int .i64 (IntKind.i64.wrap (t - x.u))] W fun e w' => e = .returned (.tuple #[.int .i64 cu, .int .i64 0]) ∧ Below W.heap.size W w' from (fun W => by have h := curve_ok x.m m (t - x.u) W HO.out HM.out; rw [HC.out] at h; rw [HTU.out]; exact h)) _).mono ?_); rintro e Y1 ⟨rfl, b⟩; have S_1 := Lib.hid ((b.block _ (blk_lt S_D.out)).trans S_D.out); have G_1 := Lib.hid (gr_trans G_D.out (gr_below b (some g))); have Sd0 := blk_cell S_1.out 0; have Se0 := blk_free S_1.out 0; have Sd1 := blk_cell S_1.out 1; have Se1 := blk_free S_1.out 1; have Sd2 := blk_cell S_1.out 2; have Se2 := blk_free S_1.out 2; have Sd3 := blk_cell S_1.out 3; have Se3 := blk_free S_1.out 3; have Sd4 := blk_cell S_1.out 4; have Se4 := blk_free S_1.out 4; have Sd5 := blk_cell S_1.out 5; have Se5 := blk_free S_1.out 5; have Sd6 := blk_cell S_1.out 6; have Se6 := blk_free S_1.out 6; clear b))
  all_goals
    clear S_D G_D S_0 G_0 Sc0 Sf0 Sc1 Sf1 Sc2 Sf2 Sc3 Sf3 Sc4 Sf4 Sc5 Sf5 Sc6 Sf6
    have Sc0 := Sd0
    have Sf0 := Se0
    clear Sd0 Se0
    have Sc1 := Sd1
    have Sf1 := Se1
    clear Sd1 Se1
    have Sc2 := Sd2
    have Sf2 := Se2
    clear Sd2 Se2
    have Sc3 := Sd3
    have Sf3 := Se3
    clear Sd3 Se3
    have Sc4 := Sd4
    have Sf4 := Se4
    clear Sd4 Se4
    have Sc5 := Sd5
    have Sf5 := Se5
    clear Sd5 Se5
    have Sc6 := Sd6
    have Sf6 := Se6
    clear Sd6 Se6
    go_wp2_with fail
    refine wp_region_still_tail 19 (by kernel_rfl) (by kernel_rfl) ?_
    simp only [List.take_succ_cons, List.take_zero, List.drop_succ_cons, List.drop_zero]
    repeat (first | still_call (held_s _ _) | still_step)
    refine wpStill_nil ?_
    change wpList _ _ _ _ _ Y1.drew
    clear Sc0 Sf0 Sc1 Sf1 Sc2 Sf2 Sc3 Sf3 Sc4 Sf4 Sc5 Sf5 Sc6 Sf6
    have S_2 : Hid ((Y1.drew).heap[g]? = some (.cells #[.int .i64 x.c, .int .i64 x.t, .int .i64 x.m, .int .i64 x.u, .int .i64 x.e, .int .i64 x.s, .bool x.h] 34 (0, 0))) := Lib.hid (blk_drew S_1.out)
    clear S_1
    have G_2 := Lib.hid (gr_trans G_1.out (gr_drew Y1 _))
    clear G_1
    generalize Y1.drew = X2 at S_2 G_2 ⊢
    have Sc0 := blk_cell S_2.out 0
    have Sf0 := blk_free S_2.out 0
    have Sc1 := blk_cell S_2.out 1
    have Sf1 := blk_free S_2.out 1
    have Sc2 := blk_cell S_2.out 2
    have Sf2 := blk_free S_2.out 2
    have Sc3 := blk_cell S_2.out 3
    have Sf3 := blk_free S_2.out 3
    have Sc4 := blk_cell S_2.out 4
    have Sf4 := blk_free S_2.out 4
    have Sc5 := blk_cell S_2.out 5
    have Sf5 := blk_free S_2.out 5
    have Sc6 := blk_cell S_2.out 6
    have Sf6 := blk_free S_2.out 6
    go_wp2_with fail
    clear Sc0 Sf0 Sc1 Sf1 Sc2 Sf2 Sc3 Sf3 Sc4 Sf4 Sc5 Sf5 Sc6 Sf6
    have S_3 : Hid ((X2.setCell ⟨g, 5, none⟩ (.int .i64 E)).heap[g]? = some (.cells #[.int .i64 x.c, .int .i64 x.t, .int .i64 x.m, .int .i64 x.u, .int .i64 x.e, .int .i64 E, .bool x.h] 34 (0, 0))) := Lib.hid (blk_set S_2.out 5 (.int .i64 E))
    clear S_2
    have G_3 := Lib.hid (gr_trans G_2.out (gr_set X2 g 5 (.int .i64 E)))
    clear G_2
    generalize X2.setCell ⟨g, 5, none⟩ (.int .i64 E) = X3 at S_3 G_3 ⊢
    have Sc0 := blk_cell S_3.out 0
    have Sf0 := blk_free S_3.out 0
    have Sc1 := blk_cell S_3.out 1
    have Sf1 := blk_free S_3.out 1
    have Sc2 := blk_cell S_3.out 2
    have Sf2 := blk_free S_3.out 2
    have Sc3 := blk_cell S_3.out 3
    have Sf3 := blk_free S_3.out 3
    have Sc4 := blk_cell S_3.out 4
    have Sf4 := blk_free S_3.out 4
    have Sc5 := blk_cell S_3.out 5
    have Sf5 := blk_free S_3.out 5
    have Sc6 := blk_cell S_3.out 6
    have Sf6 := blk_free S_3.out 6
    go_wp2_with fail
    go_wp2_with fail
    go_quiet (fail)
    clear Sc0 Sf0 Sc1 Sf1 Sc2 Sf2 Sc3 Sf3 Sc4 Sf4 Sc5 Sf5 Sc6 Sf6
    have S_4 : Hid ((X3.drewN nq).heap[g]? = some (.cells #[.int .i64 x.c, .int .i64 x.t, .int .i64 x.m, .int .i64 x.u, .int .i64 x.e, .int .i64 E, .bool x.h] 34 (0, 0))) := Lib.hid (blk_drewN S_3.out nq)
    clear S_3
    have G_4 := Lib.hid (gr_trans G_3.out (gr_drewN X3 nq _))
    clear G_3
    generalize X3.drewN nq = X4 at S_4 G_4 ⊢
    have Sc0 := blk_cell S_4.out 0
    have Sf0 := blk_free S_4.out 0
    have Sc1 := blk_cell S_4.out 1
    have Sf1 := blk_free S_4.out 1
    have Sc2 := blk_cell S_4.out 2
    have Sf2 := blk_free S_4.out 2
    have Sc3 := blk_cell S_4.out 3
    have Sf3 := blk_free S_4.out 3
    have Sc4 := blk_cell S_4.out 4
    have Sf4 := blk_free S_4.out 4
    have Sc5 := blk_cell S_4.out 5
    have Sf5 := blk_free S_4.out 5
    have Sc6 := blk_cell S_4.out 6
    have Sf6 := blk_free S_4.out 6
    go_wp2_with fail
    refine wp_region_still_tail 22 (by kernel_rfl) (by kernel_rfl) ?_
    simp only [List.take_succ_cons, List.take_zero, List.drop_succ_cons, List.drop_zero]
    repeat (first | still_call (held_s _ _) | still_step)
    refine wpStill_nil ?_
    change wpList _ _ _ _ _ X4.drew
    clear Sc0 Sf0 Sc1 Sf1 Sc2 Sf2 Sc3 Sf3 Sc4 Sf4 Sc5 Sf5 Sc6 Sf6
    have S_5 : Hid ((X4.drew).heap[g]? = some (.cells #[.int .i64 x.c, .int .i64 x.t, .int .i64 x.m, .int .i64 x.u, .int .i64 x.e, .int .i64 E, .bool x.h] 34 (0, 0))) := Lib.hid (blk_drew S_4.out)
    clear S_4
    have G_5 := Lib.hid (gr_trans G_4.out (gr_drew X4 _))
    clear G_4
    generalize X4.drew = X5 at S_5 G_5 ⊢
    have Sc0 := blk_cell S_5.out 0
    have Sf0 := blk_free S_5.out 0
    have Sc1 := blk_cell S_5.out 1
    have Sf1 := blk_free S_5.out 1
    have Sc2 := blk_cell S_5.out 2
    have Sf2 := blk_free S_5.out 2
    have Sc3 := blk_cell S_5.out 3
    have Sf3 := blk_free S_5.out 3
    have Sc4 := blk_cell S_5.out 4
    have Sf4 := blk_free S_5.out 4
    have Sc5 := blk_cell S_5.out 5
    have Sf5 := blk_free S_5.out 5
    have Sc6 := blk_cell S_5.out 6
    have Sf6 := blk_free S_5.out 6
    go_wp2_with fail
    clear Sc0 Sf0 Sc1 Sf1 Sc2 Sf2 Sc3 Sf3 Sc4 Sf4 Sc5 Sf5 Sc6 Sf6
    have S_6 : Hid ((X5.setCell ⟨g, 0, none⟩ (.int .i64 (min (x.c + B / x.c) 1073741824))).heap[g]? = some (.cells #[.int .i64 (min (x.c + B / x.c) 1073741824), .int .i64 x.t, .int .i64 x.m, .int .i64 x.u, .int .i64 x.e, .int .i64 E, .bool x.h] 34 (0, 0))) := Lib.hid (blk_set S_5.out 0 (.int .i64 (min (x.c + B / x.c) 1073741824)))
    clear S_5
    have G_6 := Lib.hid (gr_trans G_5.out (gr_set X5 g 0 (.int .i64 (min (x.c + B / x.c) 1073741824))))
    clear G_5
    generalize X5.setCell ⟨g, 0, none⟩ (.int .i64 (min (x.c + B / x.c) 1073741824)) = X6 at S_6 G_6 ⊢
    have Sc0 := blk_cell S_6.out 0
    have Sf0 := blk_free S_6.out 0
    have Sc1 := blk_cell S_6.out 1
    have Sf1 := blk_free S_6.out 1
    have Sc2 := blk_cell S_6.out 2
    have Sf2 := blk_free S_6.out 2
    have Sc3 := blk_cell S_6.out 3
    have Sf3 := blk_free S_6.out 3
    have Sc4 := blk_cell S_6.out 4
    have Sf4 := blk_free S_6.out 4
    have Sc5 := blk_cell S_6.out 5
    have Sf5 := blk_free S_6.out 5
    have Sc6 := blk_cell S_6.out 6
    have Sf6 := blk_free S_6.out 6
    go_wp2_with fail
    go_end0
    exact ⟨rfl, S_6.out, G_6.out⟩

end Go.Proofs.Ythkmphngfndebaa
