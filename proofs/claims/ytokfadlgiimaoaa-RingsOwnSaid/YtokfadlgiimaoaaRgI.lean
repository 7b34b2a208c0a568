/- The statements' settings: copies of them. -/
import Derived.Test.YtokfadlgiimaoaaRgE
import Derived.Deep.MidRow
namespace Go.Proofs.Ytokfadlgiimaoaa
open Go.RowKit Go.Sort

set_option maxRecDepth 100000 in
set_option maxHeartbeats 1000000 in
theorem copyI_own (a : Option Addr) (ts : List Int) (cap : Nat) (w : World) (h : Its w a ts) (hn : a = none → cap = 0) (hl : ts.length ≤ 17592186043904) :
    Calls Try.prog 25 #[.slice a ts.length cap] w fun e w' => (∃ a' c', e = .returned (.slice a' ts.length c') ∧ OwnR 3 1 IC w.heap.size a' ts c' w') ∧ Below w.heap.size w w' := by
  have HL := Lib.hid h.sts
  have HN := Lib.hid hn
  clear h hn
  go_enter Try.func25, Try.ntmps25
  go_wp2_with (first
    | (refine wpList_append_r (t := 23) (e := 3) (z := .int .i64 0) (m := 1) (bz := 8) (cells := IC) (xs := ([] : List Int)) (ys := ts) (cap := 0) (a := none) (b := a) (dap := cap) (n := ts.length) rfl elemI encI (.tmp 4) (.tmp 5) rfl w.heap.size rfl ?_ ?_ ?_ ?_ ?_ ?_ ?_ ?_ ?_; exact ownR_nil _ _ _ _ _; exact HL.out; exact HN.out; rfl; rfl; (simp only [List.length_nil]; omega); (unfold maxLen; simp only [List.length_nil]; omega); exact Nat.le_refl _; intro a2 c2 W1 O1 b1 g1; have O2 := Lib.hid O1; have Q2 := Lib.hid b1; clear O1 b1 g1)
    | fail)
  go_ret
  exact ⟨⟨a2, c2, rfl, O2.out⟩, Q2.out⟩

theorem cfg_size : (Try.prog.info? 29).map (·.size) = some 4 := by kernel_rfl
theorem cfg_range {W : World} {g : Nat} {cs : Array Value} {t : TypeId} (h : W.heap[g]? = some (.cells cs t (0, 0))) : W.rangeAt g 0 cs.toList := fun j v hj => by
  rw [Nat.zero_add, blk_cell h j]; simpa using hj
theorem results_cfg {fn : Func} {i : Nat} (hr : fn.results = #[.cell i 29]) (tmps : Array Value) (w : World) (g : Nat) (cs : Array Value) (h6 : tmps.getD i undef = .pointer (some ⟨g, 0, none⟩)) (hb : w.heap[g]? = some (.cells cs 29 (0, 0))) (hs : cs.size = 4) :
    (results fn tmps).run Try.prog w = .ok (.agg cs) w := by
  have hl := run_loadVar_mid (P := Try.prog) w g 0 29 cs.toList _ (cfg_range hb) Try.underlying29 rfl (by rw [cfg_size]; simp [hs])
  rw [Array.getD_eq_getD_getElem?] at h6
  rw [Array.toArray_toList] at hl
  simp [results, hr, h6, asAddr, hl]

set_option maxRecDepth 100000 in
set_option maxHeartbeats 2000000 in
theorem of_any (ka : Option Addr) (ks : List Nat) (kc : Nat) (ta : Option Addr) (ts : List Int) (tc : Nat) (sz ev : Int) (w : World) (hk : Bts w ka ks) (hkn : ka = none → kc = 0) (hkl : ks.length ≤ 140737488351232) (ht : Its w ta ts) (htn : ta = none → tc = 0) (htl : ts.length ≤ 17592186043904) :
    Calls Try.prog 8 #[.agg #[.slice ka ks.length kc, .slice ta ts.length tc, .int .i64 sz, .int .i64 ev]] w fun e w' => (∃ ka' kc' ta' tc', e = .returned (.agg #[.slice ka' ks.length kc', .slice ta' ts.length tc', .int .i64 sz, .int .i64 ev]) ∧ OwnSl w.heap.size ka' ks kc' w' ∧ OwnR 3 1 IC w.heap.size ta' ts tc' w') ∧ Below w.heap.size w w' := by
  have HK := Lib.hid hk
  have HT := Lib.hid ht
  have HKN := Lib.hid hkn
  have HTN := Lib.hid htn
  have HKL := Lib.hid hkl
  have HTL := Lib.hid htl
  clear hk hkn ht htn hkl htl
  go_enter Try.func8, Try.ntmps8
  go_upto_region 1 with fail
  have b1 := (Below.refl w.heap.size w).alloc (Nat.le_refl _) (.cells #[.slice ka ks.length kc, .slice ta ts.length tc, .int .i64 sz, .int .i64 ev] 25)
  have b2 := b1.alloc b1.size (.cells #[.slice none 0 0, .slice none 0 0, .int .i64 0, .int .i64 0] 29)
  have hz : ((w.alloc (.cells #[.slice ka ks.length kc, .slice ta ts.length tc, .int .i64 sz, .int .i64 ev] 25)).alloc (.cells #[.slice none 0 0, .slice none 0 0, .int .i64 0, .int .i64 0] 29)).heap.size = w.heap.size + 2 := by simp [World.size_alloc]
  have k1 := ((Below.refl _ (w.alloc (.cells #[.slice ka ks.length kc, .slice ta ts.length tc, .int .i64 sz, .int .i64 ev] 25))).alloc (Nat.le_refl _) (.cells #[.slice none 0 0, .slice none 0 0, .int .i64 0, .int .i64 0] 29)).block w.heap.size (by rw [World.size_alloc]; omega)
  have K1 := Lib.hid (k1.trans (blk_new w (.cells #[.slice ka ks.length kc, .slice ta ts.length tc, .int .i64 sz, .int .i64 ev] 25)))
  have r1 := blk_new (w.alloc (.cells #[.slice ka ks.length kc, .slice ta ts.length tc, .int .i64 sz, .int .i64 ev] 25)) (.cells #[.slice none 0 0, .slice none 0 0, .int .i64 0, .int .i64 0] 29)
  rw [World.size_alloc] at r1
  have R1 := Lib.hid r1
  have Q1 := Lib.hid b2
  have HZ := Lib.hid hz
  clear b1 b2 hz k1 r1
  generalize (w.alloc (.cells #[.slice ka ks.length kc, .slice ta ts.length tc, .int .i64 sz, .int .i64 ev] 25)).alloc (.cells #[.slice none 0 0, .slice none 0 0, .int .i64 0, .int .i64 0] 29) = V1 at K1 R1 Q1 HZ ⊢
  have D := Lib.hid (Below.refl V1.heap.size V1).drew
  refine wp_region_held_drew (S := fun W => W.heap[w.heap.size]? = some (.cells #[.slice ka ks.length kc, .slice ta ts.length tc, .int .i64 sz, .int .i64 ev] 25 (0, 0))) (by kernel_rfl) (show V1.drew.heap[w.heap.size]? = _ from K1.out) (fun hHeld => ?_)
  refine wpAnyH_take (i := 0) (oi := _) (v := ?_) rfl (by kernel_rfl) (by kernel_rfl) (by kernel_rfl) (fun _ _ _ h => h) (Or.inl ⟨by rfl, ?_⟩) (by assumption) ?_
  rotate_left
  · intro w5 hSw
    clear hSw
    go_simp
    all_goals with_reducible rfl
  (try simp only [List.getElem_toArray]); (try simp only [List.getElem_cons_succ]); (try simp only [List.getElem_cons_zero]); try simp only [Act.put, List.setIfInBounds_toArray, List.set_cons_zero, List.set_cons_succ]
  refine wpAnyH_take (i := 1) (oi := _) (v := ?_) rfl (by kernel_rfl) (by kernel_rfl) (by kernel_rfl) (fun _ _ _ h => h) (Or.inl ⟨by rfl, ?_⟩) (by assumption) ?_
  rotate_left
  · intro w5 hSw
    have c5 := blk_cell (show w5.heap[w.heap.size]? = _ from hSw) 0
    clear hSw
    go_simp
    all_goals with_reducible rfl
  (try simp only [List.getElem_toArray]); (try simp only [List.getElem_cons_succ]); (try simp only [List.getElem_cons_zero]); try simp only [Act.put, List.setIfInBounds_toArray, List.set_cons_zero, List.set_cons_succ]
  refine wpAnyH_take (i := 3) (oi := _) (v := ?_) rfl (by kernel_rfl) (by kernel_rfl) (by kernel_rfl) (fun _ _ _ h => h) (Or.inl ⟨by rfl, ?_⟩) (by assumption) ?_
  rotate_left
  · intro w5 hSw
    clear hSw
    go_simp
    all_goals with_reducible rfl
  (try simp only [List.getElem_toArray]); (try simp only [List.getElem_cons_succ]); (try simp only [List.getElem_cons_zero]); try simp only [Act.put, List.setIfInBounds_toArray, List.set_cons_zero, List.set_cons_succ]
  refine wpAnyH_take (i := 4) (oi := _) (v := ?_) rfl (by kernel_rfl) (by kernel_rfl) (by kernel_rfl) (fun _ _ _ h => h) (Or.inl ⟨by rfl, ?_⟩) (by assumption) ?_
  rotate_left
  · intro w5 hSw
    have c5 := blk_cell (show w5.heap[w.heap.size]? = _ from hSw) 1
    clear hSw
    go_simp
    all_goals with_reducible rfl
  (try simp only [List.getElem_toArray]); (try simp only [List.getElem_cons_succ]); (try simp only [List.getElem_cons_zero]); try simp only [Act.put, List.setIfInBounds_toArray, List.set_cons_zero, List.set_cons_succ]
  refine wpAnyH_take (i := 6) (oi := _) (v := ?_) rfl (by kernel_rfl) (by kernel_rfl) (by kernel_rfl) (fun _ _ _ h => h) (Or.inl ⟨by rfl, ?_⟩) (by assumption) ?_
  rotate_left
  · intro w5 hSw
    clear hSw
    go_simp
    all_goals with_reducible rfl
  (try simp only [List.getElem_toArray]); (try simp only [List.getElem_cons_succ]); (try simp only [List.getElem_cons_zero]); try simp only [Act.put, List.setIfInBounds_toArray, List.set_cons_zero, List.set_cons_succ]
  refine wpAnyH_take (i := 7) (oi := _) (v := ?_) rfl (by kernel_rfl) (by kernel_rfl) (by kernel_rfl) (fun _ _ _ h => h) (Or.inl ⟨by rfl, ?_⟩) (by assumption) ?_
  rotate_left
  · intro w5 hSw
    have c5 := blk_cell (show w5.heap[w.heap.size]? = _ from hSw) 2
    clear hSw
    go_simp
    all_goals with_reducible rfl
  (try simp only [List.getElem_toArray]); (try simp only [List.getElem_cons_succ]); (try simp only [List.getElem_cons_zero]); try simp only [Act.put, List.setIfInBounds_toArray, List.set_cons_zero, List.set_cons_succ]
  refine wpAnyH_take (i := 8) (oi := _) (v := ?_) rfl (by kernel_rfl) (by kernel_rfl) (by kernel_rfl) (fun _ _ _ h => h) (Or.inl ⟨by rfl, ?_⟩) (by assumption) ?_
  rotate_left
  · intro w5 hSw
    clear hSw
    go_simp
    all_goals with_reducible rfl
  (try simp only [List.getElem_toArray]); (try simp only [List.getElem_cons_succ]); (try simp only [List.getElem_cons_zero]); try simp only [Act.put, List.setIfInBounds_toArray, List.set_cons_zero, List.set_cons_succ]
  refine wpAnyH_take (i := 9) (oi := _) (v := ?_) rfl (by kernel_rfl) (by kernel_rfl) (by kernel_rfl) (fun _ _ _ h => h) (Or.inl ⟨by rfl, ?_⟩) (by assumption) ?_
  rotate_left
  · intro w5 hSw
    have c5 := blk_cell (show w5.heap[w.heap.size]? = _ from hSw) 3
    clear hSw
    go_simp
    all_goals with_reducible rfl
  (try simp only [List.getElem_toArray]); (try simp only [List.getElem_cons_succ]); (try simp only [List.getElem_cons_zero]); try simp only [Act.put, List.setIfInBounds_toArray, List.set_cons_zero, List.set_cons_succ]
  refine wpAnyH_ready (rs := [2]) (by kernel_rfl) (by simp) ?_
  refine (AllReadyH.cons (o := _) rfl (fun K hK => ?_) AllReadyH.nil)
  · (try simp only [List.getElem_toArray]); (try simp only [List.getElem_cons_succ]); (try simp only [List.getElem_cons_zero])
    go_simp
    go_at_call 22
    refine (copy_one ka ks kc _ (HK.out.below (Q1.out.trans (D.out.mono Q1.out.size))) (by have := HKL.out; omega) HKN.out).mono ?_
    rintro e V2 ⟨a1, c1, rfl, O, b⟩
    try dsimp only
    have O2 := Lib.hid O
    have E2 := Lib.hid (D.out.trans b)
    clear O b
    refine hK.out _ _ ?_ (fun hHeld => ?_)
    · exact (E2.out.block _ (blk_lt K1.out)).trans K1.out
    clear hK K
    (try simp only [List.getElem_toArray]); (try simp only [List.getElem_cons_succ]); (try simp only [List.getElem_cons_zero]); try simp only [Act.put, List.setIfInBounds_toArray, List.set_cons_zero, List.set_cons_succ]
    refine wpAnyH_ready (rs := [5]) (by kernel_rfl) (by simp) ?_
    refine (AllReadyH.cons (o := _) rfl (fun K hK => ?_) AllReadyH.nil)
    · (try simp only [List.getElem_toArray]); (try simp only [List.getElem_cons_succ]); (try simp only [List.getElem_cons_zero])
      go_simp
      go_at_call 25
      refine (copyI_own ta ts tc _ (HT.out.below (Q1.out.trans (E2.out.mono Q1.out.size))) HTN.out HTL.out).mono ?_
      rintro e V3 ⟨⟨a2, c2, rfl, O⟩, b⟩
      try dsimp only
      have P3 := Lib.hid O
      have O3 := Lib.hid (O2.out.below b)
      have E3 := Lib.hid (E2.out.trans (b.mono E2.out.size))
      have R3 := Lib.hid ((E3.out.block _ (blk_lt R1.out)).trans R1.out)
      clear O b
      refine hK.out _ _ ?_ (fun hHeld => ?_)
      · exact (E3.out.block _ (blk_lt K1.out)).trans K1.out
      clear hK K
      (try simp only [List.getElem_toArray]); (try simp only [List.getElem_cons_succ]); (try simp only [List.getElem_cons_zero]); try simp only [Act.put, List.setIfInBounds_toArray, List.set_cons_zero, List.set_cons_succ]
      refine wpAnyH_take (i := 10) (oi := _) (v := ?_) rfl (by kernel_rfl) (by kernel_rfl) (by kernel_rfl) (fun _ _ _ h => h) (Or.inl ⟨by rfl, ?_⟩) (by assumption) ?_
      rotate_left
      · intro w5 hSw
        clear hSw
        go_simp
        all_goals with_reducible rfl
      (try simp only [List.getElem_toArray]); (try simp only [List.getElem_cons_succ]); (try simp only [List.getElem_cons_zero]); try simp only [Act.put, List.setIfInBounds_toArray, List.set_cons_zero, List.set_cons_succ]
      refine wpAnyH_ready (rs := [11]) (by kernel_rfl) (by simp) ?_
      refine (AllReadyH.cons (o := _) rfl (fun K hK => ?_) AllReadyH.nil)
      · (try simp only [List.getElem_toArray]); (try simp only [List.getElem_cons_succ]); (try simp only [List.getElem_cons_zero])
        have g0 := blk_cell R3.out 0
        have f0 := blk_free R3.out 0
        have g1 := blk_cell R3.out 1
        have f1 := blk_free R3.out 1
        have g2 := blk_cell R3.out 2
        have f2 := blk_free R3.out 2
        have g3 := blk_cell R3.out 3
        have f3 := blk_free R3.out 3
        go_simp
        clear g0 f0 g1 f1 g2 f2 g3 f3
        have G4 := Lib.hid (gtrans (gtrans (gtrans (gset V3 (w.heap.size + 1) 0 (.slice a1 ks.length c1)) (gset _ (w.heap.size + 1) 1 (.slice a2 ts.length c2))) (gset _ (w.heap.size + 1) 2 (.int .i64 sz))) (gset _ (w.heap.size + 1) 3 (.int .i64 ev)))
        have R4 : Hid (((((V3.setCell ⟨w.heap.size + 1, 0, none⟩ (.slice a1 ks.length c1)).setCell ⟨w.heap.size + 1, 1, none⟩ (.slice a2 ts.length c2)).setCell ⟨w.heap.size + 1, 2, none⟩ (.int .i64 sz)).setCell ⟨w.heap.size + 1, 3, none⟩ (.int .i64 ev)).heap[w.heap.size + 1]? = some (.cells #[.slice a1 ks.length c1, .slice a2 ts.length c2, .int .i64 sz, .int .i64 ev] 29 (0, 0))) := Lib.hid (blk_set (blk_set (blk_set (blk_set R3.out 0 _) 1 _) 2 _) 3 _)
        generalize (((V3.setCell ⟨w.heap.size + 1, 0, none⟩ (.slice a1 ks.length c1)).setCell ⟨w.heap.size + 1, 1, none⟩ (.slice a2 ts.length c2)).setCell ⟨w.heap.size + 1, 2, none⟩ (.int .i64 sz)).setCell ⟨w.heap.size + 1, 3, none⟩ (.int .i64 ev) = V4 at G4 R4 ⊢
        have K4 := Lib.hid ((G4.out.block w.heap.size (Nat.lt_of_lt_of_le (blk_lt K1.out) E3.out.size) (fun e => by have := Option.some.inj e; omega)).trans ((E3.out.block _ (blk_lt K1.out)).trans K1.out))
        have hz1 : w.heap.size + 1 < V1.heap.size := by rw [HZ.out]; omega
        have O4 := Lib.hid (O3.out.kept G4.out hz1)
        have P4 := Lib.hid (P3.out.grown G4.out (fun g e e2 => by have h1 := (P3.out.ownB g (by rw [e]; rfl)).1; have h2 := Option.some.inj e2; have h3 := E2.out.size; omega))
        have E4 := Lib.hid ((Q1.out.trans (E3.out.mono Q1.out.size)).grown G4.out (Nat.le_trans Q1.out.size E3.out.size) (fun k e => by cases e; omega))
        have HQS := Lib.hid (Nat.le_trans Q1.out.size E2.out.size)
        refine hK.out _ _ ?_ (fun hHeld => ?_)
        · exact K4.out
        clear hK K
        (try simp only [List.getElem_toArray]); (try simp only [List.getElem_cons_succ]); (try simp only [List.getElem_cons_zero]); try simp only [Act.put, List.setIfInBounds_toArray, List.set_cons_zero, List.set_cons_succ]
        refine wpAnyH_done (by kernel_rfl) ?_ _
        have g0 := blk_cell R4.out 0
        have g1 := blk_cell R4.out 1
        have g2 := blk_cell R4.out 2
        have g3 := blk_cell R4.out 3
        go_wp2
        refine bodyPost_ret (results_cfg rfl _ _ (w.heap.size + 1) _ rfl R4.out rfl) rfl ?_
        exact ⟨⟨a1, c1, a2, c2, rfl, O4.out.mono Q1.out.size, P4.out.mono HQS.out⟩, E4.out⟩
end Go.Proofs.Ytokfadlgiimaoaa
