/- Reno: the closures behind an event. -/
import Derived.Test.YtmjcckpppflpjaaGBase
import Derived.Test.YtmjcckpppflpjaaRnM
import Derived.Lib.MinMax
import Derived.StillTailTactics
namespace Go.Proofs.Ytmjcckpppflpjaa
open Go.RowKit Go.Proofs.Ytmjcckpppflpjaa.Rn

set_option maxHeartbeats 400000 in
theorem held_any (n : Int) (w : World) : Calls Try.prog 22 #[.int .i64 n] w fun e w' => e = .returned (.int .i64 (min n 1073741824)) ∧ w' = w := by
  go_enter Try.func22, Try.ntmps22
  go_wp2
  go_ret
  exact ⟨rfl, rfl⟩

set_option maxHeartbeats 1000000 in
theorem ack1_slow (c t a m n : Int) (g gm gn : Nat) (w : World) (hS : w.heap[g]? = some (.cells #[.int .i64 c, .int .i64 t, .int .i64 a] 24 (0, 0))) (hM : w.heap[gm]? = some (.cells #[.int .i64 m] 3 (0, 0))) (hN : w.heap[gn]? = some (.cells #[.int .i64 n] 3 (0, 0))) (hneSM : g ≠ gm) (hneSN : g ≠ gn) (_hct : c < t) (_c0 : 1 ≤ c) (_c1 : c ≤ 1073741824) (_a0 : 0 ≤ a) (_a1 : a ≤ 1073741824) (_n0 : 0 ≤ n) (_n1 : n ≤ 1073741824) (_m0 : 1 ≤ m) (_m1 : m ≤ 65535) :
    Calls Try.prog 21 #[.pointer (some ⟨g, 0, none⟩), .pointer (some ⟨gn, 0, none⟩), .pointer (some ⟨gm, 0, none⟩)] w fun e w' => e = .returned (.tuple #[]) ∧ w'.heap[g]? = some (.cells #[.int .i64 (min (c + min n m) 1073741824), .int .i64 (t), .int .i64 (a)] 24 (0, 0)) ∧ w.grownBy w' (some g) := by
  go_enter Try.func21, Try.ntmps21
  have S_0 := Lib.hid hS
  clear hS
  have M_0 := Lib.hid hM
  clear hM
  have N_0 := Lib.hid hN
  clear hN
  have G_0 := Lib.hid (World.grownBy.refl w (some g))
  have Sc0 := blk_cell S_0.out 0
  have Sf0 := blk_free S_0.out 0
  have Sc1 := blk_cell S_0.out 1
  have Sf1 := blk_free S_0.out 1
  have Sc2 := blk_cell S_0.out 2
  have Sf2 := blk_free S_0.out 2
  have Mc0 := blk_cell M_0.out 0
  have Mf0 := blk_free M_0.out 0
  have Nc0 := blk_cell N_0.out 0
  have Nf0 := blk_free N_0.out 0
  go_wp2_with fail
  go_quiet (fail)
  clear Sc0 Sf0 Sc1 Sf1 Sc2 Sf2 Mc0 Mf0 Nc0 Nf0
  have S_1 : Hid ((w.drewN nq).heap[g]? = some (.cells #[.int .i64 c, .int .i64 t, .int .i64 a] 24 (0, 0))) := Lib.hid (blk_drewN S_0.out nq)
  clear S_0
  have M_1 : Hid ((w.drewN nq).heap[gm]? = some (.cells #[.int .i64 m] 3 (0, 0))) := Lib.hid (blk_drewN M_0.out nq)
  clear M_0
  have N_1 : Hid ((w.drewN nq).heap[gn]? = some (.cells #[.int .i64 n] 3 (0, 0))) := Lib.hid (blk_drewN N_0.out nq)
  clear N_0
  have G_1 := Lib.hid (gr_trans G_0.out (gr_drewN w nq _))
  clear G_0
  generalize w.drewN nq = X1 at S_1 M_1 N_1 G_1 ⊢
  have Sc0 := blk_cell S_1.out 0
  have Sf0 := blk_free S_1.out 0
  have Sc1 := blk_cell S_1.out 1
  have Sf1 := blk_free S_1.out 1
  have Sc2 := blk_cell S_1.out 2
  have Sf2 := blk_free S_1.out 2
  have Mc0 := blk_cell M_1.out 0
  have Mf0 := blk_free M_1.out 0
  have Nc0 := blk_cell N_1.out 0
  have Nf0 := blk_free N_1.out 0
  go_wp2_with fail
  refine wp_region_still_tail 12 (by kernel_rfl) (by kernel_rfl) ?_
  simp only [List.take_succ_cons, List.take_zero, List.drop_succ_cons, List.drop_zero]
  repeat (first | still_call (held_any _ _) | still_step)
  refine wpStill_nil ?_
  change wpList _ _ _ _ _ X1.drew
  clear Sc0 Sf0 Sc1 Sf1 Sc2 Sf2 Mc0 Mf0 Nc0 Nf0
  have S_2 : Hid ((X1.drew).heap[g]? = some (.cells #[.int .i64 c, .int .i64 t, .int .i64 a] 24 (0, 0))) := Lib.hid (blk_drew S_1.out)
  clear S_1
  have M_2 : Hid ((X1.drew).heap[gm]? = some (.cells #[.int .i64 m] 3 (0, 0))) := Lib.hid (blk_drew M_1.out)
  clear M_1
  have N_2 : Hid ((X1.drew).heap[gn]? = some (.cells #[.int .i64 n] 3 (0, 0))) := Lib.hid (blk_drew N_1.out)
  clear N_1
  have G_2 := Lib.hid (gr_trans G_1.out (gr_drew X1 _))
  clear G_1
  generalize X1.drew = X2 at S_2 M_2 N_2 G_2 ⊢
  have Sc0 := blk_cell S_2.out 0
  have Sf0 := blk_free S_2.out 0
  have Sc1 := blk_cell S_2.out 1
  have Sf1 := blk_free S_2.out 1
  have Sc2 := blk_cell S_2.out 2
  have Sf2 := blk_free S_2.out 2
  have Mc0 := blk_cell M_2.out 0
  have Mf0 := blk_free M_2.out 0
  have Nc0 := blk_cell N_2.out 0
  have Nf0 := blk_free N_2.out 0
  go_wp2_with fail
  clear Sc0 Sf0 Sc1 Sf1 Sc2 Sf2 Mc0 Mf0 Nc0 Nf0
  have S_3 : Hid ((X2.setCell ⟨g, 0, none⟩ (.int .i64 (min (c + min n m) 1073741824))).heap[g]? = some (.cells #[.int .i64 (min (c + min n m) 1073741824), .int .i64 t, .int .i64 a] 24 (0, 0))) := Lib.hid (blk_set S_2.out 0 (.int .i64 (min (c + min n m) 1073741824)))
  clear S_2
  have M_3 : Hid ((X2.setCell ⟨g, 0, none⟩ (.int .i64 (min (c + min n m) 1073741824))).heap[gm]? = some (.cells #[.int .i64 m] 3 (0, 0))) := Lib.hid (blk_other (i := 0) M_2.out hneSM (.int .i64 (min (c + min n m) 1073741824)))
  clear M_2
  have N_3 : Hid ((X2.setCell ⟨g, 0, none⟩ (.int .i64 (min (c + min n m) 1073741824))).heap[gn]? = some (.cells #[.int .i64 n] 3 (0, 0))) := Lib.hid (blk_other (i := 0) N_2.out hneSN (.int .i64 (min (c + min n m) 1073741824)))
  clear N_2
  have G_3 := Lib.hid (gr_trans G_2.out (gr_set X2 g 0 (.int .i64 (min (c + min n m) 1073741824))))
  clear G_2
  generalize X2.setCell ⟨g, 0, none⟩ (.int .i64 (min (c + min n m) 1073741824)) = X3 at S_3 M_3 N_3 G_3 ⊢
  have Sc0 := blk_cell S_3.out 0
  have Sf0 := blk_free S_3.out 0
  have Sc1 := blk_cell S_3.out 1
  have Sf1 := blk_free S_3.out 1
  have Sc2 := blk_cell S_3.out 2
  have Sf2 := blk_free S_3.out 2
  have Mc0 := blk_cell M_3.out 0
  have Mf0 := blk_free M_3.out 0
  have Nc0 := blk_cell N_3.out 0
  have Nf0 := blk_free N_3.out 0
  go_wp2_with fail
  refine bodyPost_ret (v := .tuple #[]) (by simp [results, Try.results21, go_sem]) rfl ⟨rfl, S_3.out, G_3.out⟩

set_option maxHeartbeats 1000000 in
theorem ack1_up (c t a m n : Int) (g gm gn : Nat) (w : World) (hS : w.heap[g]? = some (.cells #[.int .i64 c, .int .i64 t, .int .i64 a] 24 (0, 0))) (hM : w.heap[gm]? = some (.cells #[.int .i64 m] 3 (0, 0))) (hN : w.heap[gn]? = some (.cells #[.int .i64 n] 3 (0, 0))) (hneSM : g ≠ gm) (hneSN : g ≠ gn) (_hct : t ≤ c) (_hup : c ≤ min (a + n) 1073741824) (_c0 : 1 ≤ c) (_c1 : c ≤ 1073741824) (_a0 : 0 ≤ a) (_a1 : a ≤ 1073741824) (_n0 : 0 ≤ n) (_n1 : n ≤ 1073741824) (_m0 : 1 ≤ m) (_m1 : m ≤ 65535) :
    Calls Try.prog 21 #[.pointer (some ⟨g, 0, none⟩), .pointer (some ⟨gn, 0, none⟩), .pointer (some ⟨gm, 0, none⟩)] w fun e w' => e = .returned (.tuple #[]) ∧ w'.heap[g]? = some (.cells #[.int .i64 (min (c + m) 1073741824), .int .i64 (t), .int .i64 (min (a + n) 1073741824 - c)] 24 (0, 0)) ∧ w.grownBy w' (some g) := by
  go_enter Try.func21, Try.ntmps21
  have S_0 := Lib.hid hS
  clear hS
  have M_0 := Lib.hid hM
  clear hM
  have N_0 := Lib.hid hN
  clear hN
  have G_0 := Lib.hid (World.grownBy.refl w (some g))
  have Sc0 := blk_cell S_0.out 0
  have Sf0 := blk_free S_0.out 0
  have Sc1 := blk_cell S_0.out 1
  have Sf1 := blk_free S_0.out 1
  have Sc2 := blk_cell S_0.out 2
  have Sf2 := blk_free S_0.out 2
  have Mc0 := blk_cell M_0.out 0
  have Mf0 := blk_free M_0.out 0
  have Nc0 := blk_cell N_0.out 0
  have Nf0 := blk_free N_0.out 0
  go_wp2_with fail
  go_quiet (fail)
  clear Sc0 Sf0 Sc1 Sf1 Sc2 Sf2 Mc0 Mf0 Nc0 Nf0
  have S_1 : Hid ((w.drewN nq).heap[g]? = some (.cells #[.int .i64 c, .int .i64 t, .int .i64 a] 24 (0, 0))) := Lib.hid (blk_drewN S_0.out nq)
  clear S_0
  have M_1 : Hid ((w.drewN nq).heap[gm]? = some (.cells #[.int .i64 m] 3 (0, 0))) := Lib.hid (blk_drewN M_0.out nq)
  clear M_0
  have N_1 : Hid ((w.drewN nq).heap[gn]? = some (.cells #[.int .i64 n] 3 (0, 0))) := Lib.hid (blk_drewN N_0.out nq)
  clear N_0
  have G_1 := Lib.hid (gr_trans G_0.out (gr_drewN w nq _))
  clear G_0
  generalize w.drewN nq = X1 at S_1 M_1 N_1 G_1 ⊢
  have Sc0 := blk_cell S_1.out 0
  have Sf0 := blk_free S_1.out 0
  have Sc1 := blk_cell S_1.out 1
  have Sf1 := blk_free S_1.out 1
  have Sc2 := blk_cell S_1.out 2
  have Sf2 := blk_free S_1.out 2
  have Mc0 := blk_cell M_1.out 0
  have Mf0 := blk_free M_1.out 0
  have Nc0 := blk_cell N_1.out 0
  have Nf0 := blk_free N_1.out 0
  go_wp2_with fail
  refine wp_region_still_tail 10 (by kernel_rfl) (by kernel_rfl) ?_
  simp only [List.take_succ_cons, List.take_zero, List.drop_succ_cons, List.drop_zero]
  repeat (first | still_call (held_any _ _) | still_step)
  refine wpStill_nil ?_
  change wpList _ _ _ _ _ X1.drew
  clear Sc0 Sf0 Sc1 Sf1 Sc2 Sf2 Mc0 Mf0 Nc0 Nf0
  have S_2 : Hid ((X1.drew).heap[g]? = some (.cells #[.int .i64 c, .int .i64 t, .int .i64 a] 24 (0, 0))) := Lib.hid (blk_drew S_1.out)
  clear S_1
  have M_2 : Hid ((X1.drew).heap[gm]? = some (.cells #[.int .i64 m] 3 (0, 0))) := Lib.hid (blk_drew M_1.out)
  clear M_1
  have N_2 : Hid ((X1.drew).heap[gn]? = some (.cells #[.int .i64 n] 3 (0, 0))) := Lib.hid (blk_drew N_1.out)
  clear N_1
  have G_2 := Lib.hid (gr_trans G_1.out (gr_drew X1 _))
  clear G_1
  generalize X1.drew = X2 at S_2 M_2 N_2 G_2 ⊢
  have Sc0 := blk_cell S_2.out 0
  have Sf0 := blk_free S_2.out 0
  have Sc1 := blk_cell S_2.out 1
  have Sf1 := blk_free S_2.out 1
  have Sc2 := blk_cell S_2.out 2
  have Sf2 := blk_free S_2.out 2
  have Mc0 := blk_cell M_2.out 0
  have Mf0 := blk_free M_2.out 0
  have Nc0 := blk_cell N_2.out 0
  have Nf0 := blk_free N_2.out 0
  go_wp2_with fail
  clear Sc0 Sf0 Sc1 Sf1 Sc2 Sf2 Mc0 Mf0 Nc0 Nf0
  have S_3 : Hid ((X2.setCell ⟨g, 2, none⟩ (.int .i64 (min (a + n) 1073741824))).heap[g]? = some (.cells #[.int .i64 c, .int .i64 t, .int .i64 (min (a + n) 1073741824)] 24 (0, 0))) := Lib.hid (blk_set S_2.out 2 (.int .i64 (min (a + n) 1073741824)))
  clear S_2
  have M_3 : Hid ((X2.setCell ⟨g, 2, none⟩ (.int .i64 (min (a + n) 1073741824))).heap[gm]? = some (.cells #[.int .i64 m] 3 (0, 0))) := Lib.hid (blk_other (i := 2) M_2.out hneSM (.int .i64 (min (a + n) 1073741824)))
  clear M_2
  have N_3 : Hid ((X2.setCell ⟨g, 2, none⟩ (.int .i64 (min (a + n) 1073741824))).heap[gn]? = some (.cells #[.int .i64 n] 3 (0, 0))) := Lib.hid (blk_other (i := 2) N_2.out hneSN (.int .i64 (min (a + n) 1073741824)))
  clear N_2
  have G_3 := Lib.hid (gr_trans G_2.out (gr_set X2 g 2 (.int .i64 (min (a + n) 1073741824))))
  clear G_2
  generalize X2.setCell ⟨g, 2, none⟩ (.int .i64 (min (a + n) 1073741824)) = X3 at S_3 M_3 N_3 G_3 ⊢
  have Sc0 := blk_cell S_3.out 0
  have Sf0 := blk_free S_3.out 0
  have Sc1 := blk_cell S_3.out 1
  have Sf1 := blk_free S_3.out 1
  have Sc2 := blk_cell S_3.out 2
  have Sf2 := blk_free S_3.out 2
  have Mc0 := blk_cell M_3.out 0
  have Mf0 := blk_free M_3.out 0
  have Nc0 := blk_cell N_3.out 0
  have Nf0 := blk_free N_3.out 0
  go_wp2_with fail
  go_quiet (fail)
  clear Sc0 Sf0 Sc1 Sf1 Sc2 Sf2 Mc0 Mf0 Nc0 Nf0
  have S_4 : Hid ((X3.drewN nq).heap[g]? = some (.cells #[.int .i64 c, .int .i64 t, .int .i64 (min (a + n) 1073741824)] 24 (0, 0))) := Lib.hid (blk_drewN S_3.out nq)
  clear S_3
  have M_4 : Hid ((X3.drewN nq).heap[gm]? = some (.cells #[.int .i64 m] 3 (0, 0))) := Lib.hid (blk_drewN M_3.out nq)
  clear M_3
  have N_4 : Hid ((X3.drewN nq).heap[gn]? = some (.cells #[.int .i64 n] 3 (0, 0))) := Lib.hid (blk_drewN N_3.out nq)
  clear N_3
  have G_4 := Lib.hid (gr_trans G_3.out (gr_drewN X3 nq _))
  clear G_3
  generalize X3.drewN nq = X4 at S_4 M_4 N_4 G_4 ⊢
  have Sc0 := blk_cell S_4.out 0
  have Sf0 := blk_free S_4.out 0
  have Sc1 := blk_cell S_4.out 1
  have Sf1 := blk_free S_4.out 1
  have Sc2 := blk_cell S_4.out 2
  have Sf2 := blk_free S_4.out 2
  have Mc0 := blk_cell M_4.out 0
  have Mf0 := blk_free M_4.out 0
  have Nc0 := blk_cell N_4.out 0
  have Nf0 := blk_free N_4.out 0
  go_wp2_with fail
  refine wp_region_still_tail 11 (by kernel_rfl) (by kernel_rfl) ?_
  simp only [List.take_succ_cons, List.take_zero, List.drop_succ_cons, List.drop_zero]
  repeat (first | still_step)
  refine wpStill_nil ?_
  change wpList _ _ _ _ _ X4.drew
  clear Sc0 Sf0 Sc1 Sf1 Sc2 Sf2 Mc0 Mf0 Nc0 Nf0
  have S_5 : Hid ((X4.drew).heap[g]? = some (.cells #[.int .i64 c, .int .i64 t, .int .i64 (min (a + n) 1073741824)] 24 (0, 0))) := Lib.hid (blk_drew S_4.out)
  clear S_4
  have M_5 : Hid ((X4.drew).heap[gm]? = some (.cells #[.int .i64 m] 3 (0, 0))) := Lib.hid (blk_drew M_4.out)
  clear M_4
  have N_5 : Hid ((X4.drew).heap[gn]? = some (.cells #[.int .i64 n] 3 (0, 0))) := Lib.hid (blk_drew N_4.out)
  clear N_4
  have G_5 := Lib.hid (gr_trans G_4.out (gr_drew X4 _))
  clear G_4
  generalize X4.drew = X5 at S_5 M_5 N_5 G_5 ⊢
  have Sc0 := blk_cell S_5.out 0
  have Sf0 := blk_free S_5.out 0
  have Sc1 := blk_cell S_5.out 1
  have Sf1 := blk_free S_5.out 1
  have Sc2 := blk_cell S_5.out 2
  have Sf2 := blk_free S_5.out 2
  have Mc0 := blk_cell M_5.out 0
  have Mf0 := blk_free M_5.out 0
  have Nc0 := blk_cell N_5.out 0
  have Nf0 := blk_free N_5.out 0
  go_wp2_with fail
  clear Sc0 Sf0 Sc1 Sf1 Sc2 Sf2 Mc0 Mf0 Nc0 Nf0
  have S_6 : Hid ((X5.setCell ⟨g, 2, none⟩ (.int .i64 (min (a + n) 1073741824 - c))).heap[g]? = some (.cells #[.int .i64 c, .int .i64 t, .int .i64 (min (a + n) 1073741824 - c)] 24 (0, 0))) := Lib.hid (blk_set S_5.out 2 (.int .i64 (min (a + n) 1073741824 - c)))
  clear S_5
  have M_6 : Hid ((X5.setCell ⟨g, 2, none⟩ (.int .i64 (min (a + n) 1073741824 - c))).heap[gm]? = some (.cells #[.int .i64 m] 3 (0, 0))) := Lib.hid (blk_other (i := 2) M_5.out hneSM (.int .i64 (min (a + n) 1073741824 - c)))
  clear M_5
  have N_6 : Hid ((X5.setCell ⟨g, 2, none⟩ (.int .i64 (min (a + n) 1073741824 - c))).heap[gn]? = some (.cells #[.int .i64 n] 3 (0, 0))) := Lib.hid (blk_other (i := 2) N_5.out hneSN (.int .i64 (min (a + n) 1073741824 - c)))
  clear N_5
  have G_6 := Lib.hid (gr_trans G_5.out (gr_set X5 g 2 (.int .i64 (min (a + n) 1073741824 - c))))
  clear G_5
  generalize X5.setCell ⟨g, 2, none⟩ (.int .i64 (min (a + n) 1073741824 - c)) = X6 at S_6 M_6 N_6 G_6 ⊢
  have Sc0 := blk_cell S_6.out 0
  have Sf0 := blk_free S_6.out 0
  have Sc1 := blk_cell S_6.out 1
  have Sf1 := blk_free S_6.out 1
  have Sc2 := blk_cell S_6.out 2
  have Sf2 := blk_free S_6.out 2
  have Mc0 := blk_cell M_6.out 0
  have Mf0 := blk_free M_6.out 0
  have Nc0 := blk_cell N_6.out 0
  have Nf0 := blk_free N_6.out 0
  go_wp2_with fail
  refine wp_region_still_tail 10 (by kernel_rfl) (by kernel_rfl) ?_
  simp only [List.take_succ_cons, List.take_zero, List.drop_succ_cons, List.drop_zero]
  repeat (first | still_call (held_any _ _) | still_step)
  refine wpStill_nil ?_
  change wpList _ _ _ _ _ X6.drew
  clear Sc0 Sf0 Sc1 Sf1 Sc2 Sf2 Mc0 Mf0 Nc0 Nf0
  have S_7 : Hid ((X6.drew).heap[g]? = some (.cells #[.int .i64 c, .int .i64 t, .int .i64 (min (a + n) 1073741824 - c)] 24 (0, 0))) := Lib.hid (blk_drew S_6.out)
  clear S_6
  have M_7 : Hid ((X6.drew).heap[gm]? = some (.cells #[.int .i64 m] 3 (0, 0))) := Lib.hid (blk_drew M_6.out)
  clear M_6
  have N_7 : Hid ((X6.drew).heap[gn]? = some (.cells #[.int .i64 n] 3 (0, 0))) := Lib.hid (blk_drew N_6.out)
  clear N_6
  have G_7 := Lib.hid (gr_trans G_6.out (gr_drew X6 _))
  clear G_6
  generalize X6.drew = X7 at S_7 M_7 N_7 G_7 ⊢
  have Sc0 := blk_cell S_7.out 0
  have Sf0 := blk_free S_7.out 0
  have Sc1 := blk_cell S_7.out 1
  have Sf1 := blk_free S_7.out 1
  have Sc2 := blk_cell S_7.out 2
  have Sf2 := blk_free S_7.out 2
  have Mc0 := blk_cell M_7.out 0
  have Mf0 := blk_free M_7.out 0
  have Nc0 := blk_cell N_7.out 0
  have Nf0 := blk_free N_7.out 0
  go_wp2_with fail
  clear Sc0 Sf0 Sc1 Sf1 Sc2 Sf2 Mc0 Mf0 Nc0 Nf0
  have S_8 : Hid ((X7.setCell ⟨g, 0, none⟩ (.int .i64 (min (c + m) 1073741824))).heap[g]? = some (.cells #[.int .i64 (min (c + m) 1073741824), .int .i64 t, .int .i64 (min (a + n) 1073741824 - c)] 24 (0, 0))) := Lib.hid (blk_set S_7.out 0 (.int .i64 (min (c + m) 1073741824)))
  clear S_7
  have M_8 : Hid ((X7.setCell ⟨g, 0, none⟩ (.int .i64 (min (c + m) 1073741824))).heap[gm]? = some (.cells #[.int .i64 m] 3 (0, 0))) := Lib.hid (blk_other (i := 0) M_7.out hneSM (.int .i64 (min (c + m) 1073741824)))
  clear M_7
  have N_8 : Hid ((X7.setCell ⟨g, 0, none⟩ (.int .i64 (min (c + m) 1073741824))).heap[gn]? = some (.cells #[.int .i64 n] 3 (0, 0))) := Lib.hid (blk_other (i := 0) N_7.out hneSN (.int .i64 (min (c + m) 1073741824)))
  clear N_7
  have G_8 := Lib.hid (gr_trans G_7.out (gr_set X7 g 0 (.int .i64 (min (c + m) 1073741824))))
  clear G_7
  generalize X7.setCell ⟨g, 0, none⟩ (.int .i64 (min (c + m) 1073741824)) = X8 at S_8 M_8 N_8 G_8 ⊢
  have Sc0 := blk_cell S_8.out 0
  have Sf0 := blk_free S_8.out 0
  have Sc1 := blk_cell S_8.out 1
  have Sf1 := blk_free S_8.out 1
  have Sc2 := blk_cell S_8.out 2
  have Sf2 := blk_free S_8.out 2
  have Mc0 := blk_cell M_8.out 0
  have Mf0 := blk_free M_8.out 0
  have Nc0 := blk_cell N_8.out 0
  have Nf0 := blk_free N_8.out 0
  go_wp2_with fail
  go_end0
  exact ⟨rfl, S_8.out, G_8.out⟩

set_option maxHeartbeats 1000000 in
theorem ack1_on (c t a m n : Int) (g gm gn : Nat) (w : World) (hS : w.heap[g]? = some (.cells #[.int .i64 c, .int .i64 t, .int .i64 a] 24 (0, 0))) (hM : w.heap[gm]? = some (.cells #[.int .i64 m] 3 (0, 0))) (hN : w.heap[gn]? = some (.cells #[.int .i64 n] 3 (0, 0))) (hneSM : g ≠ gm) (hneSN : g ≠ gn) (_hct : t ≤ c) (_hup : min (a + n) 1073741824 < c) (_c0 : 1 ≤ c) (_c1 : c ≤ 1073741824) (_a0 : 0 ≤ a) (_a1 : a ≤ 1073741824) (_n0 : 0 ≤ n) (_n1 : n ≤ 1073741824) (_m0 : 1 ≤ m) (_m1 : m ≤ 65535) :
    Calls Try.prog 21 #[.pointer (some ⟨g, 0, none⟩), .pointer (some ⟨gn, 0, none⟩), .pointer (some ⟨gm, 0, none⟩)] w fun e w' => e = .returned (.tuple #[]) ∧ w'.heap[g]? = some (.cells #[.int .i64 (c), .int .i64 (t), .int .i64 (min (a + n) 1073741824)] 24 (0, 0)) ∧ w.grownBy w' (some g) := by
  go_enter Try.func21, Try.ntmps21
  have S_0 := Lib.hid hS
  clear hS
  have M_0 := Lib.hid hM
  clear hM
  have N_0 := Lib.hid hN
  clear hN
  have G_0 := Lib.hid (World.grownBy.refl w (some g))
  have Sc0 := blk_cell S_0.out 0
  have Sf0 := blk_free S_0.out 0
  have Sc1 := blk_cell S_0.out 1
  have Sf1 := blk_free S_0.out 1
  have Sc2 := blk_cell S_0.out 2
  have Sf2 := blk_free S_0.out 2
  have Mc0 := blk_cell M_0.out 0
  have Mf0 := blk_free M_0.out 0
  have Nc0 := blk_cell N_0.out 0
  have Nf0 := blk_free N_0.out 0
  go_wp2_with fail
  go_quiet (fail)
  clear Sc0 Sf0 Sc1 Sf1 Sc2 Sf2 Mc0 Mf0 Nc0 Nf0
  have S_1 : Hid ((w.drewN nq).heap[g]? = some (.cells #[.int .i64 c, .int .i64 t, .int .i64 a] 24 (0, 0))) := Lib.hid (blk_drewN S_0.out nq)
  clear S_0
  have M_1 : Hid ((w.drewN nq).heap[gm]? = some (.cells #[.int .i64 m] 3 (0, 0))) := Lib.hid (blk_drewN M_0.out nq)
  clear M_0
  have N_1 : Hid ((w.drewN nq).heap[gn]? = some (.cells #[.int .i64 n] 3 (0, 0))) := Lib.hid (blk_drewN N_0.out nq)
  clear N_0
  have G_1 := Lib.hid (gr_trans G_0.out (gr_drewN w nq _))
  clear G_0
  generalize w.drewN nq = X1 at S_1 M_1 N_1 G_1 ⊢
  have Sc0 := blk_cell S_1.out 0
  have Sf0 := blk_free S_1.out 0
  have Sc1 := blk_cell S_1.out 1
  have Sf1 := blk_free S_1.out 1
  have Sc2 := blk_cell S_1.out 2
  have Sf2 := blk_free S_1.out 2
  have Mc0 := blk_cell M_1.out 0
  have Mf0 := blk_free M_1.out 0
  have Nc0 := blk_cell N_1.out 0
  have Nf0 := blk_free N_1.out 0
  go_wp2_with fail
  refine wp_region_still_tail 10 (by kernel_rfl) (by kernel_rfl) ?_
  simp only [List.take_succ_cons, List.take_zero, List.drop_succ_cons, List.drop_zero]
  repeat (first | still_call (held_any _ _) | still_step)
  refine wpStill_nil ?_
  change wpList _ _ _ _ _ X1.drew
  clear Sc0 Sf0 Sc1 Sf1 Sc2 Sf2 Mc0 Mf0 Nc0 Nf0
  have S_2 : Hid ((X1.drew).heap[g]? = some (.cells #[.int .i64 c, .int .i64 t, .int .i64 a] 24 (0, 0))) := Lib.hid (blk_drew S_1.out)
  clear S_1
  have M_2 : Hid ((X1.drew).heap[gm]? = some (.cells #[.int .i64 m] 3 (0, 0))) := Lib.hid (blk_drew M_1.out)
  clear M_1
  have N_2 : Hid ((X1.drew).heap[gn]? = some (.cells #[.int .i64 n] 3 (0, 0))) := Lib.hid (blk_drew N_1.out)
  clear N_1
  have G_2 := Lib.hid (gr_trans G_1.out (gr_drew X1 _))
  clear G_1
  generalize X1.drew = X2 at S_2 M_2 N_2 G_2 ⊢
  have Sc0 := blk_cell S_2.out 0
  have Sf0 := blk_free S_2.out 0
  have Sc1 := blk_cell S_2.out 1
  have Sf1 := blk_free S_2.out 1
  have Sc2 := blk_cell S_2.out 2
  have Sf2 := blk_free S_2.out 2
  have Mc0 := blk_cell M_2.out 0
  have Mf0 := blk_free M_2.out 0
  have Nc0 := blk_cell N_2.out 0
  have Nf0 := blk_free N_2.out 0
  go_wp2_with fail
  clear Sc0 Sf0 Sc1 Sf1 Sc2 Sf2 Mc0 Mf0 Nc0 Nf0
  have S_3 : Hid ((X2.setCell ⟨g, 2, none⟩ (.int .i64 (min (a + n) 1073741824))).heap[g]? = some (.cells #[.int .i64 c, .int .i64 t, .int .i64 (min (a + n) 1073741824)] 24 (0, 0))) := Lib.hid (blk_set S_2.out 2 (.int .i64 (min (a + n) 1073741824)))
  clear S_2
  have M_3 : Hid ((X2.setCell ⟨g, 2, none⟩ (.int .i64 (min (a + n) 1073741824))).heap[gm]? = some (.cells #[.int .i64 m] 3 (0, 0))) := Lib.hid (blk_other (i := 2) M_2.out hneSM (.int .i64 (min (a + n) 1073741824)))
  clear M_2
  have N_3 : Hid ((X2.setCell ⟨g, 2, none⟩ (.int .i64 (min (a + n) 1073741824))).heap[gn]? = some (.cells #[.int .i64 n] 3 (0, 0))) := Lib.hid (blk_other (i := 2) N_2.out hneSN (.int .i64 (min (a + n) 1073741824)))
  clear N_2
  have G_3 := Lib.hid (gr_trans G_2.out (gr_set X2 g 2 (.int .i64 (min (a + n) 1073741824))))
  clear G_2
  generalize X2.setCell ⟨g, 2, none⟩ (.int .i64 (min (a + n) 1073741824)) = X3 at S_3 M_3 N_3 G_3 ⊢
  have Sc0 := blk_cell S_3.out 0
  have Sf0 := blk_free S_3.out 0
  have Sc1 := blk_cell S_3.out 1
  have Sf1 := blk_free S_3.out 1
  have Sc2 := blk_cell S_3.out 2
  have Sf2 := blk_free S_3.out 2
  have Mc0 := blk_cell M_3.out 0
  have Mf0 := blk_free M_3.out 0
  have Nc0 := blk_cell N_3.out 0
  have Nf0 := blk_free N_3.out 0
  go_wp2_with fail
  go_quiet (fail)
  clear Sc0 Sf0 Sc1 Sf1 Sc2 Sf2 Mc0 Mf0 Nc0 Nf0
  have S_4 : Hid ((X3.drewN nq).heap[g]? = some (.cells #[.int .i64 c, .int .i64 t, .int .i64 (min (a + n) 1073741824)] 24 (0, 0))) := Lib.hid (blk_drewN S_3.out nq)
  clear S_3
  have M_4 : Hid ((X3.drewN nq).heap[gm]? = some (.cells #[.int .i64 m] 3 (0, 0))) := Lib.hid (blk_drewN M_3.out nq)
  clear M_3
  have N_4 : Hid ((X3.drewN nq).heap[gn]? = some (.cells #[.int .i64 n] 3 (0, 0))) := Lib.hid (blk_drewN N_3.out nq)
  clear N_3
  have G_4 := Lib.hid (gr_trans G_3.out (gr_drewN X3 nq _))
  clear G_3
  generalize X3.drewN nq = X4 at S_4 M_4 N_4 G_4 ⊢
  have Sc0 := blk_cell S_4.out 0
  have Sf0 := blk_free S_4.out 0
  have Sc1 := blk_cell S_4.out 1
  have Sf1 := blk_free S_4.out 1
  have Sc2 := blk_cell S_4.out 2
  have Sf2 := blk_free S_4.out 2
  have Mc0 := blk_cell M_4.out 0
  have Mf0 := blk_free M_4.out 0
  have Nc0 := blk_cell N_4.out 0
  have Nf0 := blk_free N_4.out 0
  go_wp2_with fail
  go_end0
  exact ⟨rfl, S_4.out, G_4.out⟩

set_option maxHeartbeats 1000000 in
theorem loss1 (c t a m n : Int) (g gm gn : Nat) (w : World) (hS : w.heap[g]? = some (.cells #[.int .i64 c, .int .i64 t, .int .i64 a] 24 (0, 0))) (hM : w.heap[gm]? = some (.cells #[.int .i64 m] 3 (0, 0))) (hN : w.heap[gn]? = some (.cells #[.int .i64 n] 3 (0, 0))) (hneSM : g ≠ gm) (hneSN : g ≠ gn) (_c0 : 1 ≤ c) (_n0 : 0 ≤ n) (_n1 : n ≤ 1073741824) (_m0 : 1 ≤ m) (_m1 : m ≤ 65535) :
    Calls Try.prog 24 #[.pointer (some ⟨g, 0, none⟩), .pointer (some ⟨gn, 0, none⟩), .pointer (some ⟨gm, 0, none⟩)] w fun e w' => e = .returned (.tuple #[]) ∧ w'.heap[g]? = some (.cells #[.int .i64 (max (n / 2) (2 * m)), .int .i64 (max (n / 2) (2 * m)), .int .i64 (0)] 24 (0, 0)) ∧ w.grownBy w' (some g) := by
  go_enter Try.func24, Try.ntmps24
  have S_0 := Lib.hid hS
  clear hS
  have M_0 := Lib.hid hM
  clear hM
  have N_0 := Lib.hid hN
  clear hN
  have G_0 := Lib.hid (World.grownBy.refl w (some g))
  have Sc0 := blk_cell S_0.out 0
  have Sf0 := blk_free S_0.out 0
  have Sc1 := blk_cell S_0.out 1
  have Sf1 := blk_free S_0.out 1
  have Sc2 := blk_cell S_0.out 2
  have Sf2 := blk_free S_0.out 2
  have Mc0 := blk_cell M_0.out 0
  have Mf0 := blk_free M_0.out 0
  have Nc0 := blk_cell N_0.out 0
  have Nf0 := blk_free N_0.out 0
  go_wp2_with fail
  clear Sc0 Sf0 Sc1 Sf1 Sc2 Sf2 Mc0 Mf0 Nc0 Nf0
  have S_1 : Hid ((w.setCell ⟨g, 1, none⟩ (.int .i64 (max (n / 2) (2 * m)))).heap[g]? = some (.cells #[.int .i64 c, .int .i64 (max (n / 2) (2 * m)), .int .i64 a] 24 (0, 0))) := Lib.hid (blk_set S_0.out 1 (.int .i64 (max (n / 2) (2 * m))))
  clear S_0
  have M_1 : Hid ((w.setCell ⟨g, 1, none⟩ (.int .i64 (max (n / 2) (2 * m)))).heap[gm]? = some (.cells #[.int .i64 m] 3 (0, 0))) := Lib.hid (blk_other (i := 1) M_0.out hneSM (.int .i64 (max (n / 2) (2 * m))))
  clear M_0
  have N_1 : Hid ((w.setCell ⟨g, 1, none⟩ (.int .i64 (max (n / 2) (2 * m)))).heap[gn]? = some (.cells #[.int .i64 n] 3 (0, 0))) := Lib.hid (blk_other (i := 1) N_0.out hneSN (.int .i64 (max (n / 2) (2 * m))))
  clear N_0
  have G_1 := Lib.hid (gr_trans G_0.out (gr_set w g 1 (.int .i64 (max (n / 2) (2 * m)))))
  clear G_0
  generalize w.setCell ⟨g, 1, none⟩ (.int .i64 (max (n / 2) (2 * m))) = X1 at S_1 M_1 N_1 G_1 ⊢
  have Sc0 := blk_cell S_1.out 0
  have Sf0 := blk_free S_1.out 0
  have Sc1 := blk_cell S_1.out 1
  have Sf1 := blk_free S_1.out 1
  have Sc2 := blk_cell S_1.out 2
  have Sf2 := blk_free S_1.out 2
  have Mc0 := blk_cell M_1.out 0
  have Mf0 := blk_free M_1.out 0
  have Nc0 := blk_cell N_1.out 0
  have Nf0 := blk_free N_1.out 0
  clear Sc0 Sf0 Sc1 Sf1 Sc2 Sf2 Mc0 Mf0 Nc0 Nf0
  have S_2 : Hid ((X1.setCell ⟨g, 0, none⟩ (.int .i64 (max (n / 2) (2 * m)))).heap[g]? = some (.cells #[.int .i64 (max (n / 2) (2 * m)), .int .i64 (max (n / 2) (2 * m)), .int .i64 a] 24 (0, 0))) := Lib.hid (blk_set S_1.out 0 (.int .i64 (max (n / 2) (2 * m))))
  clear S_1
  have M_2 : Hid ((X1.setCell ⟨g, 0, none⟩ (.int .i64 (max (n / 2) (2 * m)))).heap[gm]? = some (.cells #[.int .i64 m] 3 (0, 0))) := Lib.hid (blk_other (i := 0) M_1.out hneSM (.int .i64 (max (n / 2) (2 * m))))
  clear M_1
  have N_2 : Hid ((X1.setCell ⟨g, 0, none⟩ (.int .i64 (max (n / 2) (2 * m)))).heap[gn]? = some (.cells #[.int .i64 n] 3 (0, 0))) := Lib.hid (blk_other (i := 0) N_1.out hneSN (.int .i64 (max (n / 2) (2 * m))))
  clear N_1
  have G_2 := Lib.hid (gr_trans G_1.out (gr_set X1 g 0 (.int .i64 (max (n / 2) (2 * m)))))
  clear G_1
  generalize X1.setCell ⟨g, 0, none⟩ (.int .i64 (max (n / 2) (2 * m))) = X2 at S_2 M_2 N_2 G_2 ⊢
  have Sc0 := blk_cell S_2.out 0
  have Sf0 := blk_free S_2.out 0
  have Sc1 := blk_cell S_2.out 1
  have Sf1 := blk_free S_2.out 1
  have Sc2 := blk_cell S_2.out 2
  have Sf2 := blk_free S_2.out 2
  have Mc0 := blk_cell M_2.out 0
  have Mf0 := blk_free M_2.out 0
  have Nc0 := blk_cell N_2.out 0
  have Nf0 := blk_free N_2.out 0
  clear Sc0 Sf0 Sc1 Sf1 Sc2 Sf2 Mc0 Mf0 Nc0 Nf0
  have S_3 : Hid ((X2.setCell ⟨g, 2, none⟩ (.int .i64 0)).heap[g]? = some (.cells #[.int .i64 (max (n / 2) (2 * m)), .int .i64 (max (n / 2) (2 * m)), .int .i64 0] 24 (0, 0))) := Lib.hid (blk_set S_2.out 2 (.int .i64 0))
  clear S_2
  have M_3 : Hid ((X2.setCell ⟨g, 2, none⟩ (.int .i64 0)).heap[gm]? = some (.cells #[.int .i64 m] 3 (0, 0))) := Lib.hid (blk_other (i := 2) M_2.out hneSM (.int .i64 0))
  clear M_2
  have N_3 : Hid ((X2.setCell ⟨g, 2, none⟩ (.int .i64 0)).heap[gn]? = some (.cells #[.int .i64 n] 3 (0, 0))) := Lib.hid (blk_other (i := 2) N_2.out hneSN (.int .i64 0))
  clear N_2
  have G_3 := Lib.hid (gr_trans G_2.out (gr_set X2 g 2 (.int .i64 0)))
  clear G_2
  generalize X2.setCell ⟨g, 2, none⟩ (.int .i64 0) = X3 at S_3 M_3 N_3 G_3 ⊢
  have Sc0 := blk_cell S_3.out 0
  have Sf0 := blk_free S_3.out 0
  have Sc1 := blk_cell S_3.out 1
  have Sf1 := blk_free S_3.out 1
  have Sc2 := blk_cell S_3.out 2
  have Sf2 := blk_free S_3.out 2
  have Mc0 := blk_cell M_3.out 0
  have Mf0 := blk_free M_3.out 0
  have Nc0 := blk_cell N_3.out 0
  have Nf0 := blk_free N_3.out 0
  go_wp2_with fail
  go_end0
  exact ⟨rfl, S_3.out, G_3.out⟩

set_option maxHeartbeats 1000000 in
theorem time1 (c t a m n : Int) (g gm gn : Nat) (w : World) (hS : w.heap[g]? = some (.cells #[.int .i64 c, .int .i64 t, .int .i64 a] 24 (0, 0))) (hM : w.heap[gm]? = some (.cells #[.int .i64 m] 3 (0, 0))) (hN : w.heap[gn]? = some (.cells #[.int .i64 n] 3 (0, 0))) (hneSM : g ≠ gm) (hneSN : g ≠ gn) (_c0 : 1 ≤ c) (_n0 : 0 ≤ n) (_n1 : n ≤ 1073741824) (_m0 : 1 ≤ m) (_m1 : m ≤ 65535) :
    Calls Try.prog 25 #[.pointer (some ⟨g, 0, none⟩), .pointer (some ⟨gn, 0, none⟩), .pointer (some ⟨gm, 0, none⟩)] w fun e w' => e = .returned (.tuple #[]) ∧ w'.heap[g]? = some (.cells #[.int .i64 (m), .int .i64 (max (n / 2) (2 * m)), .int .i64 (0)] 24 (0, 0)) ∧ w.grownBy w' (some g) := by
  go_enter Try.func25, Try.ntmps25
  have S_0 := Lib.hid hS
  clear hS
  have M_0 := Lib.hid hM
  clear hM
  have N_0 := Lib.hid hN
  clear hN
  have G_0 := Lib.hid (World.grownBy.refl w (some g))
  have Sc0 := blk_cell S_0.out 0
  have Sf0 := blk_free S_0.out 0
  have Sc1 := blk_cell S_0.out 1
  have Sf1 := blk_free S_0.out 1
  have Sc2 := blk_cell S_0.out 2
  have Sf2 := blk_free S_0.out 2
  have Mc0 := blk_cell M_0.out 0
  have Mf0 := blk_free M_0.out 0
  have Nc0 := blk_cell N_0.out 0
  have Nf0 := blk_free N_0.out 0
  go_wp2_with fail
  clear Sc0 Sf0 Sc1 Sf1 Sc2 Sf2 Mc0 Mf0 Nc0 Nf0
  have S_1 : Hid ((w.setCell ⟨g, 1, none⟩ (.int .i64 (max (n / 2) (2 * m)))).heap[g]? = some (.cells #[.int .i64 c, .int .i64 (max (n / 2) (2 * m)), .int .i64 a] 24 (0, 0))) := Lib.hid (blk_set S_0.out 1 (.int .i64 (max (n / 2) (2 * m))))
  clear S_0
  have M_1 : Hid ((w.setCell ⟨g, 1, none⟩ (.int .i64 (max (n / 2) (2 * m)))).heap[gm]? = some (.cells #[.int .i64 m] 3 (0, 0))) := Lib.hid (blk_other (i := 1) M_0.out hneSM (.int .i64 (max (n / 2) (2 * m))))
  clear M_0
  have N_1 : Hid ((w.setCell ⟨g, 1, none⟩ (.int .i64 (max (n / 2) (2 * m)))).heap[gn]? = some (.cells #[.int .i64 n] 3 (0, 0))) := Lib.hid (blk_other (i := 1) N_0.out hneSN (.int .i64 (max (n / 2) (2 * m))))
  clear N_0
  have G_1 := Lib.hid (gr_trans G_0.out (gr_set w g 1 (.int .i64 (max (n / 2) (2 * m)))))
  clear G_0
  generalize w.setCell ⟨g, 1, none⟩ (.int .i64 (max (n / 2) (2 * m))) = X1 at S_1 M_1 N_1 G_1 ⊢
  have Sc0 := blk_cell S_1.out 0
  have Sf0 := blk_free S_1.out 0
  have Sc1 := blk_cell S_1.out 1
  have Sf1 := blk_free S_1.out 1
  have Sc2 := blk_cell S_1.out 2
  have Sf2 := blk_free S_1.out 2
  have Mc0 := blk_cell M_1.out 0
  have Mf0 := blk_free M_1.out 0
  have Nc0 := blk_cell N_1.out 0
  have Nf0 := blk_free N_1.out 0
  clear Sc0 Sf0 Sc1 Sf1 Sc2 Sf2 Mc0 Mf0 Nc0 Nf0
  have S_2 : Hid ((X1.setCell ⟨g, 0, none⟩ (.int .i64 (m))).heap[g]? = some (.cells #[.int .i64 (m), .int .i64 (max (n / 2) (2 * m)), .int .i64 a] 24 (0, 0))) := Lib.hid (blk_set S_1.out 0 (.int .i64 (m)))
  clear S_1
  have M_2 : Hid ((X1.setCell ⟨g, 0, none⟩ (.int .i64 (m))).heap[gm]? = some (.cells #[.int .i64 m] 3 (0, 0))) := Lib.hid (blk_other (i := 0) M_1.out hneSM (.int .i64 (m)))
  clear M_1
  have N_2 : Hid ((X1.setCell ⟨g, 0, none⟩ (.int .i64 (m))).heap[gn]? = some (.cells #[.int .i64 n] 3 (0, 0))) := Lib.hid (blk_other (i := 0) N_1.out hneSN (.int .i64 (m)))
  clear N_1
  have G_2 := Lib.hid (gr_trans G_1.out (gr_set X1 g 0 (.int .i64 (m))))
  clear G_1
  generalize X1.setCell ⟨g, 0, none⟩ (.int .i64 (m)) = X2 at S_2 M_2 N_2 G_2 ⊢
  have Sc0 := blk_cell S_2.out 0
  have Sf0 := blk_free S_2.out 0
  have Sc1 := blk_cell S_2.out 1
  have Sf1 := blk_free S_2.out 1
  have Sc2 := blk_cell S_2.out 2
  have Sf2 := blk_free S_2.out 2
  have Mc0 := blk_cell M_2.out 0
  have Mf0 := blk_free M_2.out 0
  have Nc0 := blk_cell N_2.out 0
  have Nf0 := blk_free N_2.out 0
  clear Sc0 Sf0 Sc1 Sf1 Sc2 Sf2 Mc0 Mf0 Nc0 Nf0
  have S_3 : Hid ((X2.setCell ⟨g, 2, none⟩ (.int .i64 0)).heap[g]? = some (.cells #[.int .i64 (m), .int .i64 (max (n / 2) (2 * m)), .int .i64 0] 24 (0, 0))) := Lib.hid (blk_set S_2.out 2 (.int .i64 0))
  clear S_2
  have M_3 : Hid ((X2.setCell ⟨g, 2, none⟩ (.int .i64 0)).heap[gm]? = some (.cells #[.int .i64 m] 3 (0, 0))) := Lib.hid (blk_other (i := 2) M_2.out hneSM (.int .i64 0))
  clear M_2
  have N_3 : Hid ((X2.setCell ⟨g, 2, none⟩ (.int .i64 0)).heap[gn]? = some (.cells #[.int .i64 n] 3 (0, 0))) := Lib.hid (blk_other (i := 2) N_2.out hneSN (.int .i64 0))
  clear N_2
  have G_3 := Lib.hid (gr_trans G_2.out (gr_set X2 g 2 (.int .i64 0)))
  clear G_2
  generalize X2.setCell ⟨g, 2, none⟩ (.int .i64 0) = X3 at S_3 M_3 N_3 G_3 ⊢
  have Sc0 := blk_cell S_3.out 0
  have Sf0 := blk_free S_3.out 0
  have Sc1 := blk_cell S_3.out 1
  have Sf1 := blk_free S_3.out 1
  have Sc2 := blk_cell S_3.out 2
  have Sf2 := blk_free S_3.out 2
  have Mc0 := blk_cell M_3.out 0
  have Mf0 := blk_free M_3.out 0
  have Nc0 := blk_cell N_3.out 0
  have Nf0 := blk_free N_3.out 0
  go_wp2_with fail
  go_end0
  exact ⟨rfl, S_3.out, G_3.out⟩

end Go.Proofs.Ytmjcckpppflpjaa
