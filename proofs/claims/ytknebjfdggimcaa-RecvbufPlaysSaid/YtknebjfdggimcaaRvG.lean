/- Recvbuf: join. -/
import Derived.Test.YtknebjfdggimcaaRvF
import Derived.Test.YtknebjfdggimcaaGUntil
namespace Go.Proofs.Ytknebjfdggimcaa
open Go.RowKit Go.Proofs.Ytknebjfdggimcaa.Rv

theorem pM_head {ps : List Pt} {l r : Nat} (h : pM ps l r ≠ []) : ∃ x, ps[(pA ps l).length]? = some x ∧ lo ps l r = min l x.1 := by
  cases hM : pM ps l r with
  | nil => exact absurd hM h
  | cons x t =>
    refine ⟨x, ?_, by unfold lo; rw [hM]⟩
    have h2 : (pR ps l)[0]? = some x := by
      have e : pR ps l = pM ps l r ++ pC ps l r := by unfold pM pC; rw [List.takeWhile_append_dropWhile]
      rw [e, hM]; rfl
    rw [pR_drop, List.getElem?_drop, Nat.add_zero] at h2
    exact h2
theorem pM_last {ps : List Pt} {l r : Nat} (h : pM ps l r ≠ []) : ∃ y, ps[(pA ps l).length + (pM ps l r).length - 1]? = some y ∧ hi ps l r = max r y.2.1 := by
  obtain ⟨y, hy⟩ : ∃ y, (pM ps l r).getLast? = some y := ⟨_, List.getLast?_eq_some_getLast h⟩
  refine ⟨y, ?_, by unfold hi; rw [hy]⟩
  have hl : 0 < (pM ps l r).length := List.length_pos_iff.2 h
  have e : pR ps l = pM ps l r ++ pC ps l r := by unfold pM pC; rw [List.takeWhile_append_dropWhile]
  rw [List.getLast?_eq_getElem?] at hy
  have h2 : (pR ps l)[(pM ps l r).length - 1]? = some y := by rw [e, List.getElem?_append_left (by omega)]; exact hy
  rw [pR_drop, List.getElem?_drop] at h2
  rw [show (pA ps l).length + (pM ps l r).length - 1 = (pA ps l).length + ((pM ps l r).length - 1) by omega]
  exact h2
theorem take_pA (ps : List Pt) (l : Nat) : ps.take (pA ps l).length = pA ps l := by
  have h : ps = pA ps l ++ pR ps l := by unfold pA pR; rw [List.takeWhile_append_dropWhile]
  have h2 : ps.take (pA ps l).length = (pA ps l ++ pR ps l).take (pA ps l).length := by rw [← h]
  rw [h2, List.take_left]
theorem drop_pC (ps : List Pt) (l r : Nat) : ps.drop ((pA ps l).length + (pM ps l r).length) = pC ps l r := by
  have h : ps.drop ((pA ps l).length + (pM ps l r).length) = (pA ps l ++ (pM ps l r ++ pC ps l r)).drop ((pA ps l).length + (pM ps l r).length) := by rw [← p_eq]
  rw [h, List.drop_append, List.drop_eq_nil_of_le (by omega), List.nil_append, Nat.add_sub_cancel_left, List.drop_left]
theorem flat_set (xs : List Pt) (i k : Nat) (x x' : Pt) (v : Value) (hx : xs[i]? = some x) (hk : k < 3) (hv : PC x' = (PC x).set k v) : (xs.flatMap PC).set (i * 3 + k) v = (xs.set i x').flatMap PC := by
  induction xs generalizing i with
  | nil => cases hx
  | cons y ys ih =>
    cases i with
    | zero =>
      cases hx
      rw [List.set_cons_zero, List.flatMap_cons, List.flatMap_cons, hv, Nat.zero_mul, Nat.zero_add, List.set_append_left _ _ (by rw [encP.len]; exact hk)]
    | succ i =>
      rw [List.set_cons_succ, List.flatMap_cons, List.flatMap_cons, ← ih i hx, List.set_append_right _ _ (by rw [encP.len]; omega), encP.len]
      congr 2; omega
theorem OwnR.frozenP {e : TypeId} {m : Nat} {cells : Pt → List Value} {B g cap : Nat} {xs : List Pt} {w : World} (O : OwnR e m cells B (some ⟨g, 0, none⟩) xs cap w) (j : Nat) : w.frozen? ⟨g, j, none⟩ = false := by
  obtain ⟨L, R, _⟩ := O.rw; exact R.free j
/-- A cell of a part is written. -/
theorem OwnR.setP {B g cap : Nat} {xs : List Pt} {w : World} (O : OwnR 87 3 PC B (some ⟨g, 0, none⟩) xs cap w) (i k : Nat) (x x' : Pt) (v : Value) (hx : xs[i]? = some x) (hk : k < 3) (hv : PC x' = (PC x).set k v) :
    OwnR 87 3 PC B (some ⟨g, 0, none⟩) (xs.set i x') cap (w.setCell ⟨g, i * 3 + k, none⟩ v) ∧ w.grownBy (w.setCell ⟨g, i * 3 + k, none⟩ v) (some g) := by
  obtain ⟨L, R, hL, hT, hBg, hc, hm⟩ := O.rw
  have R2 := blk_set R (i * 3 + k) v
  have R3 : Rw g 87 (L.set (i * 3 + k) v) (w.setCell ⟨g, i * 3 + k, none⟩ v) := by
    unfold Rw; rw [R2]; simp
  refine ⟨OwnR.of_rw encP R3 (by rw [List.length_set]; exact hL) ?_ hBg (by rw [List.length_set]; exact hc) hm, gr_set _ _ _ _⟩
  have hlt : i < xs.length := (List.getElem?_eq_some_iff.1 hx).1
  rw [List.length_set, ← flat_set xs i k x x' v hx hk hv, ← hT, List.take_set]
theorem map_step {α : Type} (f : α → α) (qs : List α) (i : Nat) (x : α) (hx : qs[i]? = some x) : ((qs.take i).map f ++ qs.drop i).set i (f x) = (qs.take (i + 1)).map f ++ qs.drop (i + 1) := by
  have hlt : i < qs.length := (List.getElem?_eq_some_iff.1 hx).1
  have hg : qs[i] = x := (List.getElem?_eq_some_iff.1 hx).2
  have hl : ((qs.take i).map f).length = i := by rw [List.length_map, List.length_take]; omega
  rw [List.set_append_right _ _ (by omega), hl, Nat.sub_self, List.drop_eq_getElem_cons hlt, List.set_cons_zero, List.take_add_one, hx, List.map_append, List.append_assoc]
  rfl
theorem map_at {α : Type} (f : α → α) (qs : List α) (i : Nat) (x : α) (hx : qs[i]? = some x) : ((qs.take i).map f ++ qs.drop i)[i]? = some x := by
  have hlt : i < qs.length := (List.getElem?_eq_some_iff.1 hx).1
  have hl : ((qs.take i).map f).length = i := by rw [List.length_map, List.length_take]; omega
  rw [List.getElem?_append_right (by omega), hl, Nat.sub_self, List.getElem?_drop, Nat.add_zero]; exact hx

/-- What a join turns. -/
def JS (g : Nat) (pa : Option Addr) (k : Nat) : Prop := k = g ∨ pa = some ⟨k, 0, none⟩
set_option maxRecDepth 100000 in
set_option maxHeartbeats 2000000 in
theorem join_np (B g G n st rd nx ct pc : Nat) (pa : Option Addr) (ps : List Pt) (l r : Nat) (w : World) (hB : w.heap[g]? = some (.cells #[.slice (some ⟨G, 0, none⟩) n n, .int .i64 (st : Nat), .int .i64 (rd : Nat), .int .u32 (nx : Nat), .slice pa ps.length pc, .int .i64 (ct : Nat)] 70 (0, 0))) (O : OwnR 87 3 PC B pa ps pc w) (hpg : pa ≠ some ⟨g, 0, none⟩) (hBw : B ≤ w.heap.size) (hn : n ≤ 1048576) (hrd : rd ≤ n) (hr : r ≤ 1048576) (hlr : l ≤ r) (hps : ∀ p ∈ ps, p.2.1 ≤ 1048576) (hpl : ps.length ≤ 2000) (hct : ct ≤ 4611686018427387904) (hM : pM ps l r = []) (hL : 0 < lo ps l r) :
    Calls Try.prog 33 #[.pointer (some ⟨g, 0, none⟩), .agg #[.int .i64 (l : Nat), .int .i64 (r : Nat)], .int .i64 ((pA ps l).length : Nat), .int .i64 (((pA ps l).length + (pM ps l r).length : Nat) : Int)] w fun e w' => e = .returned (.int .i64 (0 : Nat)) ∧ ∃ pa' pc', w'.heap[g]? = some (.cells #[.slice (some ⟨G, 0, none⟩) n n, .int .i64 (st : Nat), .int .i64 (rd : Nat), .int .u32 (nx : Nat), .slice pa' (pA ps l ++ (lo ps l r, hi ps l r, ct + 1) :: pC ps l r).length pc', .int .i64 ((ct + 1 : Nat) : Int)] 70 (0, 0)) ∧ OwnR 87 3 PC B pa' (pA ps l ++ (lo ps l r, hi ps l r, ct + 1) :: pC ps l r) pc' w' ∧ Turns (JS g pa) w w' ∧ (∀ k, pa' = some ⟨k, 0, none⟩ → pa = some ⟨k, 0, none⟩ ∨ w.heap.size ≤ k) := by
  have hu := And.intro hn (And.intro hrd (And.intro hlr (And.intro hps (And.intro hBw hct))))
  clear hu
  have hlo : lo ps l r = l := by unfold lo; rw [hM]
  have hhiE : hi ps l r = r := by unfold hi; rw [hM]; rfl
  have hM0 : (pM ps l r).length = 0 := by rw [hM]; rfl
  have hEl := pM_len ps l r
  have hTA := take_pA ps l
  have hDC := drop_pC ps l r
  generalize hLe : lo ps l r = L at hL hlo ⊢
  generalize hHe : hi ps l r = H at hhiE ⊢
  obtain ⟨FF, hFF⟩ : ∃ z, (pA ps l).length = z := ⟨_, rfl⟩
  obtain ⟨E, hE⟩ : ∃ z, FF + (pM ps l r).length = z := ⟨_, rfl⟩
  rw [hFF] at hEl hTA hDC ⊢
  rw [hE] at hEl hDC ⊢
  generalize hPA : pA ps l = PA at hTA ⊢
  generalize hPC : pC ps l r = PCC at hDC ⊢
  obtain rfl : FF = E := by omega
  subst hlo
  subst hhiE
  have hHb : H ≤ 1048576 := hr
  clear hM0 hM
  have HB := Lib.hid hB
  have HO := Lib.hid O
  have HTA := Lib.hid hTA
  have HDC := Lib.hid hDC
  have gz := blk_lt hB
  clear hB O hTA hDC hLe hHe hFF hE hPA hPC
  obtain ⟨ct1, hct1⟩ : ∃ z, ct + 1 = z := ⟨_, rfl⟩
  rw [hct1]
  generalize hQS : PA ++ (L, H, ct1) :: PCC = QS
  go_enter Try.func33, Try.ntmps33
  go_upto_region 1 with fail
  have S0 := Lib.hid (blk_new w (.cells #[.int .i64 (L : Nat), .int .i64 (H : Nat)] 75))
  have q0 := (Below.refl w.heap.size w).alloc (Nat.le_refl _) (.cells #[.int .i64 (L : Nat), .int .i64 (H : Nat)] 75)
  have Q0 := Lib.hid q0
  have B0 := Lib.hid ((q0.block _ gz).trans HB.out)
  have O0 := Lib.hid (HO.out.below q0)
  clear q0
  generalize w.alloc (.cells #[.int .i64 (L : Nat), .int .i64 (H : Nat)] 75) = V0 at S0 Q0 B0 O0 ⊢
  have d1 : ¬ ((FF : Int) < (FF : Int)) := by omega
  go_upto_region 4 with fail
  have S4 := S0
  have B4 := B0
  have O4 := O0
  have Q4 := Q0
  clear S0 B0 O0 Q0
  obtain ⟨V4, hV4⟩ : ∃ V, V0 = V := ⟨_, rfl⟩
  subst hV4
  have x0 := blk_cell S4.out 0
  have d2 : (0 : Int) < (L : Int) := by omega
  have c5 := blk_cell B4.out 5
  have f5 := blk_free B4.out 5
  have Wc : IntKind.i64.wrap ((ct : Int) + 1) = ((ct + 1 : Nat) : Int) := by rw [IntWalk.i64_in _ ⟨by omega, by omega⟩]; omega
  rw [hct1] at Wc
  go_upto_region 6 with fail
  have s5 := blk_set B4.out 5 (.int .i64 (ct1 : Nat))
  simp only [List.setIfInBounds_toArray, List.set_cons_zero, List.set_cons_succ] at s5
  have B5 := Lib.hid s5
  have g5 := gr_set V0 g 5 (.int .i64 (ct1 : Nat))
  have S5 := Lib.hid ((g5.block _ (blk_lt S4.out) (fun e => by have := Option.some.inj e; omega)).trans S4.out)
  have O5 := Lib.hid (O4.out.grown g5 (fun g' e e2 => by have e3 := Option.some.inj e2; subst e3; exact hpg e))
  have T5 := Lib.hid ((Turns.of_below (JS g pa) Q4.out).grown (.inl rfl) g5)
  have hs5 := T5.out.size
  clear s5 g5 x0 c5 f5 B4 S4 O4 Q4
  generalize V0.setCell ⟨g, 5, none⟩ (.int .i64 (ct1 : Nat)) = V5 at B5 S5 O5 T5 hs5 ⊢
  refine wp_region_until (S := fun W => (W.heap[g]? = some (.cells #[.slice (some ⟨G, 0, none⟩) n n, .int .i64 (st : Nat), .int .i64 (rd : Nat), .int .u32 (nx : Nat), .slice pa ps.length pc, .int .i64 (ct1 : Nat)] 70 (0, 0)) ∧ W.heap[w.heap.size]? = some (.cells #[.int .i64 (L : Nat), .int .i64 (H : Nat)] 75 (0, 0)))) 17 (by kernel_rfl) ⟨blk_drew B5.out, blk_drew S5.out⟩ (fun hHeld => ?_)
  refine wpAnyU_take (i := 0) (oi := _) (v := ?_) rfl (by kernel_rfl) (by kernel_rfl) (by kernel_rfl) (by kernel_rfl) (fun _ _ _ h => h) (Or.inl ⟨by rfl, ?_⟩) (by assumption) ?_
  rotate_left
  · intro w5 hSw
    clear hSw
    go_simp
    all_goals with_reducible rfl
  (try simp only [List.getElem_toArray]); (try simp only [List.getElem_cons_succ]); (try simp only [List.getElem_cons_zero]); try simp only [Act.put, List.setIfInBounds_toArray, List.set_cons_zero, List.set_cons_succ]
  refine wpAnyU_take (i := 1) (oi := _) (v := ?_) rfl (by kernel_rfl) (by kernel_rfl) (by kernel_rfl) (by kernel_rfl) (fun _ _ _ h => h) (Or.inl ⟨by rfl, ?_⟩) (by assumption) ?_
  rotate_left
  · intro w5 hSw
    clear hSw
    go_simp
    all_goals with_reducible rfl
  (try simp only [List.getElem_toArray]); (try simp only [List.getElem_cons_succ]); (try simp only [List.getElem_cons_zero]); try simp only [Act.put, List.setIfInBounds_toArray, List.set_cons_zero, List.set_cons_succ]
  refine wpAnyU_take (i := 2) (oi := _) (v := ?_) rfl (by kernel_rfl) (by kernel_rfl) (by kernel_rfl) (by kernel_rfl) (fun _ _ _ h => h) (Or.inl ⟨by rfl, ?_⟩) (by assumption) ?_
  rotate_left
  · intro w5 hSw
    clear hSw
    go_simp
    all_goals with_reducible rfl
  (try simp only [List.getElem_toArray]); (try simp only [List.getElem_cons_succ]); (try simp only [List.getElem_cons_zero]); try simp only [Act.put, List.setIfInBounds_toArray, List.set_cons_zero, List.set_cons_succ]
  refine wpAnyU_take (i := 3) (oi := _) (v := ?_) rfl (by kernel_rfl) (by kernel_rfl) (by kernel_rfl) (by kernel_rfl) (fun _ _ _ h => h) (Or.inl ⟨by rfl, ?_⟩) (by assumption) ?_
  rotate_left
  · intro w5 hSw
    clear hSw
    go_simp
    all_goals with_reducible rfl
  (try simp only [List.getElem_toArray]); (try simp only [List.getElem_cons_succ]); (try simp only [List.getElem_cons_zero]); try simp only [Act.put, List.setIfInBounds_toArray, List.set_cons_zero, List.set_cons_succ]
  refine wpAnyU_take (i := 4) (oi := _) (v := ?_) rfl (by kernel_rfl) (by kernel_rfl) (by kernel_rfl) (by kernel_rfl) (fun _ _ _ h => h) (Or.inl ⟨by rfl, ?_⟩) (by assumption) ?_
  rotate_left
  · intro w5 hSw
    have c4 := blk_cell hSw.1 4
    clear hSw
    go_simp
    all_goals with_reducible rfl
  (try simp only [List.getElem_toArray]); (try simp only [List.getElem_cons_succ]); (try simp only [List.getElem_cons_zero]); try simp only [Act.put, List.setIfInBounds_toArray, List.set_cons_zero, List.set_cons_succ]
  refine wpAnyU_take (i := 5) (oi := _) (v := ?_) rfl (by kernel_rfl) (by kernel_rfl) (by kernel_rfl) (by kernel_rfl) (fun _ _ _ h => h) (Or.inl ⟨by rfl, ?_⟩) (by assumption) ?_
  rotate_left
  · intro w5 hSw
    clear hSw
    go_simp
    all_goals with_reducible rfl
  (try simp only [List.getElem_toArray]); (try simp only [List.getElem_cons_succ]); (try simp only [List.getElem_cons_zero]); try simp only [Act.put, List.setIfInBounds_toArray, List.set_cons_zero, List.set_cons_succ]
  refine wpAnyU_take (i := 6) (oi := _) (v := ?_) rfl (by kernel_rfl) (by kernel_rfl) (by kernel_rfl) (by kernel_rfl) (fun _ _ _ h => h) (Or.inl ⟨by rfl, ?_⟩) (by assumption) ?_
  rotate_left
  · intro w5 hSw
    clear hSw
    go_simp
    all_goals with_reducible rfl
  (try simp only [List.getElem_toArray]); (try simp only [List.getElem_cons_succ]); (try simp only [List.getElem_cons_zero]); try simp only [Act.put, List.setIfInBounds_toArray, List.set_cons_zero, List.set_cons_succ]
  refine wpAnyU_take (i := 7) (oi := _) (v := ?_) rfl (by kernel_rfl) (by kernel_rfl) (by kernel_rfl) (by kernel_rfl) (fun _ _ _ h => h) (Or.inl ⟨by rfl, ?_⟩) (by assumption) ?_
  rotate_left
  · intro w5 hSw
    have c0 := blk_cell hSw.2 0
    have c1 := blk_cell hSw.2 1
    clear hSw
    go_simp
    all_goals with_reducible rfl
  (try simp only [List.getElem_toArray]); (try simp only [List.getElem_cons_succ]); (try simp only [List.getElem_cons_zero]); try simp only [Act.put, List.setIfInBounds_toArray, List.set_cons_zero, List.set_cons_succ]
  refine wpAnyU_take (i := 8) (oi := _) (v := ?_) rfl (by kernel_rfl) (by kernel_rfl) (by kernel_rfl) (by kernel_rfl) (fun _ _ _ h => h) (Or.inl ⟨by rfl, ?_⟩) (by assumption) ?_
  rotate_left
  · intro w5 hSw
    clear hSw
    go_simp
    all_goals with_reducible rfl
  (try simp only [List.getElem_toArray]); (try simp only [List.getElem_cons_succ]); (try simp only [List.getElem_cons_zero]); try simp only [Act.put, List.setIfInBounds_toArray, List.set_cons_zero, List.set_cons_succ]
  refine wpAnyU_take (i := 9) (oi := _) (v := ?_) rfl (by kernel_rfl) (by kernel_rfl) (by kernel_rfl) (by kernel_rfl) (fun _ _ _ h => h) (Or.inl ⟨by rfl, ?_⟩) (by assumption) ?_
  rotate_left
  · intro w5 hSw
    clear hSw
    go_simp
    all_goals with_reducible rfl
  (try simp only [List.getElem_toArray]); (try simp only [List.getElem_cons_succ]); (try simp only [List.getElem_cons_zero]); try simp only [Act.put, List.setIfInBounds_toArray, List.set_cons_zero, List.set_cons_succ]
  refine wpAnyU_take (i := 10) (oi := _) (v := ?_) rfl (by kernel_rfl) (by kernel_rfl) (by kernel_rfl) (by kernel_rfl) (fun _ _ _ h => h) (Or.inl ⟨by rfl, ?_⟩) (by assumption) ?_
  rotate_left
  · intro w5 hSw
    clear hSw
    go_simp
    all_goals with_reducible rfl
  (try simp only [List.getElem_toArray]); (try simp only [List.getElem_cons_succ]); (try simp only [List.getElem_cons_zero]); try simp only [Act.put, List.setIfInBounds_toArray, List.set_cons_zero, List.set_cons_succ]
  refine wpAnyU_take (i := 11) (oi := _) (v := ?_) rfl (by kernel_rfl) (by kernel_rfl) (by kernel_rfl) (by kernel_rfl) (fun _ _ _ h => h) (Or.inl ⟨by rfl, ?_⟩) (by assumption) ?_
  rotate_left
  · intro w5 hSw
    have c5 := blk_cell hSw.1 5
    clear hSw
    go_simp
    all_goals with_reducible rfl
  (try simp only [List.getElem_toArray]); (try simp only [List.getElem_cons_succ]); (try simp only [List.getElem_cons_zero]); try simp only [Act.put, List.setIfInBounds_toArray, List.set_cons_zero, List.set_cons_succ]
  refine wpAnyU_take (i := 12) (oi := _) (v := ?_) rfl (by kernel_rfl) (by kernel_rfl) (by kernel_rfl) (by kernel_rfl) (fun _ _ _ h => h) (Or.inl ⟨by rfl, ?_⟩) (by assumption) ?_
  rotate_left
  · intro w5 hSw
    clear hSw
    go_simp
    all_goals with_reducible rfl
  (try simp only [List.getElem_toArray]); (try simp only [List.getElem_cons_succ]); (try simp only [List.getElem_cons_zero]); try simp only [Act.put, List.setIfInBounds_toArray, List.set_cons_zero, List.set_cons_succ]
  obtain ⟨V6, hV6⟩ : ∃ V, V5.drew = V := ⟨_, rfl⟩
  have bD := (Below.refl V5.heap.size V5).drew
  rw [hV6] at hHeld bD ⊢
  clear hV6
  have O6 := Lib.hid (O5.out.below bD)
  have T6 := Lib.hid (T5.out.andBelow bD)
  have hs6 := bD.size
  have BAL := Lib.hid ((Below.refl V6.heap.size V6).alloc (Nat.le_refl _) (.cells #[.int .i64 (L : Nat), .int .i64 (H : Nat), .int .i64 (ct1 : Nat)] 87))
  have NB := Lib.hid (blk_new V6 (.cells #[.int .i64 (L : Nat), .int .i64 (H : Nat), .int .i64 (ct1 : Nat)] 87))
  clear bD
  refine wpAnyU_one (i := 13) (by kernel_rfl) rfl (fun K hK => ?_)
  (try simp only [List.getElem_toArray]); (try simp only [List.getElem_cons_succ]); (try simp only [List.getElem_cons_zero])
  go_simp
  refine hK.out _ _ ⟨(BAL.out.block _ (blk_lt hHeld.1)).trans hHeld.1, (BAL.out.block _ (blk_lt hHeld.2)).trans hHeld.2⟩ (fun hHeld => ?_)
  clear hK K
  try simp only [Act.put, List.setIfInBounds_toArray, List.set_cons_zero, List.set_cons_succ]
  have O7 := Lib.hid (O6.out.below BAL.out)
  have T7 := Lib.hid (T6.out.andBelow BAL.out)
  have hs7 := BAL.out.size
  have hv6 : V6.heap.size < (V6.alloc (.cells #[.int .i64 (L : Nat), .int .i64 (H : Nat), .int .i64 (ct1 : Nat)] 87)).heap.size := blk_lt NB.out
  obtain ⟨vb, hvb⟩ : ∃ z, V6.heap.size = z := ⟨_, rfl⟩
  obtain ⟨V7, hV7⟩ : ∃ V, V6.alloc (.cells #[.int .i64 (L : Nat), .int .i64 (H : Nat), .int .i64 (ct1 : Nat)] 87) = V := ⟨_, rfl⟩
  rw [hV7] at hHeld NB O7 T7 hs7 hv6 ⊢
  rw [hvb] at NB hv6 hs7 ⊢
  clear BAL hV7
  have hne : pa ≠ some ⟨vb, 0, none⟩ := fun e => by have := O6.out.ltB vb e; omega
  have HRP := Lib.hid (replace_pt B vb 1 pa ps (L, H, ct1) pc FF FF V7 O7.out NB.out hne (by omega) (by omega) (by omega) (by have := T7.out.size; omega))
  have hrp2 := HRP.out
  rw [HTA.out, HDC.out] at hrp2
  have HRQ := Lib.hid hrp2
  clear hrp2 HRP hne
  rw [hQS] at HRQ
  refine wpAnyU_one (i := 14) (by kernel_rfl) rfl (fun K hK => ?_)
  (try simp only [List.getElem_toArray]); (try simp only [List.getElem_cons_succ]); (try simp only [List.getElem_cons_zero])
  go_simp
  go_at_call 39
  refine HRQ.out.mono ?_
  rintro e8 V8 ⟨a8, c8, rfl, o8, g8, d8⟩
  have O8 := Lib.hid o8
  have G8 := Lib.hid g8
  have D8 := Lib.hid d8
  clear o8 g8 d8
  dsimp only
  refine hK.out _ _ ⟨(G8.out.block _ (blk_lt hHeld.1) (fun e => hpg (O7.out.ownEq g e.symm))).trans hHeld.1, (G8.out.block _ (blk_lt hHeld.2) (fun e => by have := O6.out.ltB _ (O7.out.ownEq _ e.symm); have h9 := HO.out.ltB _ (O7.out.ownEq _ e.symm); omega)).trans hHeld.2⟩ (fun hHeld => ?_)
  clear hK K
  try simp only [Act.put, List.setIfInBounds_toArray, List.set_cons_zero, List.set_cons_succ]
  refine wpAnyU_one (i := 15) (by kernel_rfl) rfl (fun K hK => ?_)
  (try simp only [List.getElem_toArray]); (try simp only [List.getElem_cons_succ]); (try simp only [List.getElem_cons_zero])
  go_simp
  refine hK.out _ _ hHeld (fun hHeld => ?_)
  clear hK K
  try simp only [Act.put, List.setIfInBounds_toArray, List.set_cons_zero, List.set_cons_succ]
  refine wpAnyU_take (i := 16) (oi := _) (v := ?_) rfl (by kernel_rfl) (by kernel_rfl) (by kernel_rfl) (by kernel_rfl) (fun _ _ _ h => h) (Or.inl ⟨by rfl, ?_⟩) (by assumption) ?_
  rotate_left
  · intro w5 hSw
    clear hSw
    go_simp
    all_goals with_reducible rfl
  (try simp only [List.getElem_toArray]); (try simp only [List.getElem_cons_succ]); (try simp only [List.getElem_cons_zero]); try simp only [Act.put, List.setIfInBounds_toArray, List.set_cons_zero, List.set_cons_succ]
  have t4 := blk_cell hHeld.1 4
  have f4 := blk_free hHeld.1 4
  have SF := blk_set hHeld.1 4 (.slice a8 QS.length c8)
  simp only [List.setIfInBounds_toArray, List.set_cons_zero, List.set_cons_succ] at SF
  have GF := gr_set V8 g 4 (.slice a8 QS.length c8)
  refine wpAnyU_last (by kernel_rfl) rfl (fun K hK => ?_)
  (try simp only [List.getElem_toArray]); (try simp only [List.getElem_cons_succ]); (try simp only [List.getElem_cons_zero])
  go_simp
  refine hK.out _ _ ?_
  clear hK K
  (try simp only [List.getElem_toArray]); (try simp only [List.getElem_cons_succ]); (try simp only [List.getElem_cons_zero]); try simp only [Act.put, List.setIfInBounds_toArray, List.set_cons_zero, List.set_cons_succ]
  refine wpAnyU_done (by kernel_rfl) ?_ _
  have SF2 := Lib.hid SF
  have GF2 := Lib.hid GF
  clear SF GF t4 f4
  go_wp2
  go_ret
  refine ⟨rfl, a8, c8, SF2.out, O8.out.grown GF2.out (fun g' e e2 => ?_), (T7.out.trans (.of_grown (fun k e => .inr (O7.out.ownEq k e)) G8.out)).grown (.inl rfl) GF2.out, fun k e => (D8.out k e).imp id (fun h => by have := T7.out.size; omega)⟩
  obtain rfl := Option.some.inj e2
  rcases D8.out _ e with h1 | h1
  · exact hpg h1
  · have := T7.out.size; omega
set_option maxRecDepth 100000 in
set_option maxHeartbeats 2000000 in
theorem join_mp (B g G n st rd nx ct pc : Nat) (pa : Option Addr) (ps : List Pt) (l r : Nat) (w : World) (hB : w.heap[g]? = some (.cells #[.slice (some ⟨G, 0, none⟩) n n, .int .i64 (st : Nat), .int .i64 (rd : Nat), .int .u32 (nx : Nat), .slice pa ps.length pc, .int .i64 (ct : Nat)] 70 (0, 0))) (O : OwnR 87 3 PC B pa ps pc w) (hpg : pa ≠ some ⟨g, 0, none⟩) (hBw : B ≤ w.heap.size) (hn : n ≤ 1048576) (hrd : rd ≤ n) (hr : r ≤ 1048576) (hlr : l ≤ r) (hps : ∀ p ∈ ps, p.2.1 ≤ 1048576) (hpl : ps.length ≤ 2000) (hct : ct ≤ 4611686018427387904) (hM : pM ps l r ≠ []) (hL : 0 < lo ps l r) :
    Calls Try.prog 33 #[.pointer (some ⟨g, 0, none⟩), .agg #[.int .i64 (l : Nat), .int .i64 (r : Nat)], .int .i64 ((pA ps l).length : Nat), .int .i64 (((pA ps l).length + (pM ps l r).length : Nat) : Int)] w fun e w' => e = .returned (.int .i64 (0 : Nat)) ∧ ∃ pa' pc', w'.heap[g]? = some (.cells #[.slice (some ⟨G, 0, none⟩) n n, .int .i64 (st : Nat), .int .i64 (rd : Nat), .int .u32 (nx : Nat), .slice pa' (pA ps l ++ (lo ps l r, hi ps l r, ct + 1) :: pC ps l r).length pc', .int .i64 ((ct + 1 : Nat) : Int)] 70 (0, 0)) ∧ OwnR 87 3 PC B pa' (pA ps l ++ (lo ps l r, hi ps l r, ct + 1) :: pC ps l r) pc' w' ∧ Turns (JS g pa) w w' ∧ (∀ k, pa' = some ⟨k, 0, none⟩ → pa = some ⟨k, 0, none⟩ ∨ w.heap.size ≤ k) := by
  have hu := And.intro hn (And.intro hrd (And.intro hlr (And.intro hps (And.intro hBw hct))))
  clear hu
  obtain ⟨x, hx, hlo⟩ := pM_head hM
  obtain ⟨y, hy, hhiE⟩ := pM_last hM
  have hMl : 0 < (pM ps l r).length := List.length_pos_iff.2 hM
  have hEl := pM_len ps l r
  have hTA := take_pA ps l
  have hDC := drop_pC ps l r
  generalize hLe : lo ps l r = L at hL hlo ⊢
  generalize hHe : hi ps l r = H at hhiE ⊢
  obtain ⟨FF, hFF⟩ : ∃ z, (pA ps l).length = z := ⟨_, rfl⟩
  obtain ⟨E, hE⟩ : ∃ z, FF + (pM ps l r).length = z := ⟨_, rfl⟩
  rw [hFF] at hEl hTA hDC hx hy ⊢
  rw [hE] at hEl hDC hy ⊢
  generalize hPA : pA ps l = PA at hTA ⊢
  generalize hPC : pC ps l r = PCC at hDC ⊢
  have hx2 := hps x (List.mem_of_getElem? hx)
  have hy2 := hps y (List.mem_of_getElem? hy)
  have hFE : FF < E := by omega
  have HX := Lib.hid hx
  have HY := Lib.hid hy
  have hmin : min (l : Int) (x.1 : Int) = (L : Int) := by omega
  have hmax : max (r : Int) (y.2.1 : Int) = (H : Int) := by omega
  have HMIN := Lib.hid hmin
  have HMAX := Lib.hid hmax
  have hHb : H ≤ 1048576 := by omega
  clear hx hy hlo hhiE hMl hM hmin hmax
  have HB := Lib.hid hB
  have HO := Lib.hid O
  have HTA := Lib.hid hTA
  have HDC := Lib.hid hDC
  have gz := blk_lt hB
  clear hB O hTA hDC hLe hHe hFF hE hPA hPC
  obtain ⟨ct1, hct1⟩ : ∃ z, ct + 1 = z := ⟨_, rfl⟩
  rw [hct1]
  generalize hQS : PA ++ (L, H, ct1) :: PCC = QS
  go_enter Try.func33, Try.ntmps33
  go_upto_region 1 with fail
  have S0 := Lib.hid (blk_new w (.cells #[.int .i64 (l : Nat), .int .i64 (r : Nat)] 75))
  have q0 := (Below.refl w.heap.size w).alloc (Nat.le_refl _) (.cells #[.int .i64 (l : Nat), .int .i64 (r : Nat)] 75)
  have Q0 := Lib.hid q0
  have B0 := Lib.hid ((q0.block _ gz).trans HB.out)
  have O0 := Lib.hid (HO.out.below q0)
  clear q0
  generalize w.alloc (.cells #[.int .i64 (l : Nat), .int .i64 (r : Nat)] 75) = V0 at S0 Q0 B0 O0 ⊢
  have d1 : (FF : Int) < (E : Int) := by omega
  have i0 : (FF : Int) < (ps.length : Int) := by omega
  obtain ⟨gp, hpa, _, _⟩ := O0.out.isSome (by omega)
  subst hpa
  obtain ⟨_, m0, m1, m2⟩ := pt_at (O0.out.sts encP) HX.out
  simp only [Nat.zero_add] at m0 m1 m2
  have hmin : min (l : Int) (x.1 : Int) = (L : Int) := HMIN.out
  have c4 := blk_cell B0.out 4
  have x0 := blk_cell S0.out 0
  go_upto_region 2 with fail
  go_still_tail 13, (by kernel_rfl)
  change wpList _ _ _ _ _ V0.drew
  have S1 := Lib.hid (blk_drew S0.out)
  have B1 := Lib.hid (blk_drew B0.out)
  have O1 := Lib.hid (O0.out.below (Below.refl _ _).drew)
  have Q1 := Lib.hid Q0.out.drew
  clear m0 m1 m2 c4 x0 S0 B0 O0 Q0 hmin
  generalize V0.drew = V1 at S1 B1 O1 Q1 ⊢
  have f0 := blk_free S1.out 0
  have x0 := blk_cell S1.out 0
  have s2 := blk_set S1.out 0 (.int .i64 (L : Nat))
  simp only [List.setIfInBounds_toArray, List.set_cons_zero] at s2
  have S2 := Lib.hid s2
  have g2 := gr_set V1 w.heap.size 0 (.int .i64 (L : Nat))
  have G2 := Lib.hid g2
  clear s2 g2 S1
  go_upto_region 3 with fail
  have B2 := Lib.hid ((G2.out.block _ (blk_lt B1.out) (fun e => by have := Option.some.inj e; omega)).trans B1.out)
  have hgpw : gp < w.heap.size := (HO.out.ltB gp rfl)
  have O2 := Lib.hid (O1.out.grown G2.out (fun g' e e2 => by have e3 := Option.some.inj e2; cases e; omega))
  have Q2 := Lib.hid (Q1.out.grown G2.out Q1.out.size (fun k e => by cases e; exact Nat.le_refl _))
  clear f0 x0 B1 O1 Q1
  generalize V1.setCell ⟨w.heap.size, 0, none⟩ (.int .i64 (L : Nat)) = V2 at S2 G2 B2 O2 Q2 ⊢
  clear G2
  obtain ⟨_, m0, m1, m2⟩ := pt_at (O2.out.sts encP) HY.out
  simp only [Nat.zero_add] at m0 m1 m2
  have hmax : max (r : Int) (y.2.1 : Int) = (H : Int) := HMAX.out
  have c4 := blk_cell B2.out 4
  have x1 := blk_cell S2.out 1
  have W0 : IntKind.i64.wrap ((E : Int) - 1) = ((E - 1 : Nat) : Int) := by rw [IntWalk.i64_in _ ⟨by omega, by omega⟩]; omega
  obtain ⟨E1, hE1⟩ : ∃ z, E - 1 = z := ⟨_, rfl⟩
  rw [hE1] at W0 m0 m1 m2
  have i1 : (E1 : Int) < (ps.length : Int) := by omega
  go_still_tail 14, (by kernel_rfl)
  change wpList _ _ _ _ _ V2.drew
  have S3 := Lib.hid (blk_drew S2.out)
  have B3 := Lib.hid (blk_drew B2.out)
  have O3 := Lib.hid (O2.out.below (Below.refl _ _).drew)
  have Q3 := Lib.hid Q2.out.drew
  clear m0 m1 m2 c4 x1 S2 B2 O2 Q2 hmax
  generalize V2.drew = V3 at S3 B3 O3 Q3 ⊢
  have f1 := blk_free S3.out 1
  have x1 := blk_cell S3.out 1
  have s4 := blk_set S3.out 1 (.int .i64 (H : Nat))
  simp only [List.setIfInBounds_toArray, List.set_cons_zero, List.set_cons_succ] at s4
  have S4 := Lib.hid s4
  have g4 := gr_set V3 w.heap.size 1 (.int .i64 (H : Nat))
  have G4 := Lib.hid g4
  clear s4 g4 S3
  go_upto_region 4 with fail
  have B4 := Lib.hid ((G4.out.block _ (blk_lt B3.out) (fun e => by have := Option.some.inj e; omega)).trans B3.out)
  have O4 := Lib.hid (O3.out.grown G4.out (fun g' e e2 => by have e3 := Option.some.inj e2; cases e; omega))
  have Q4 := Lib.hid (Q3.out.grown G4.out Q3.out.size (fun k e => by cases e; exact Nat.le_refl _))
  clear f1 x1 B3 O3 Q3
  generalize V3.setCell ⟨w.heap.size, 1, none⟩ (.int .i64 (H : Nat)) = V4 at S4 G4 B4 O4 Q4 ⊢
  clear G4
  have x0 := blk_cell S4.out 0
  have d2 : (0 : Int) < (L : Int) := by omega
  have c5 := blk_cell B4.out 5
  have f5 := blk_free B4.out 5
  have Wc : IntKind.i64.wrap ((ct : Int) + 1) = ((ct + 1 : Nat) : Int) := by rw [IntWalk.i64_in _ ⟨by omega, by omega⟩]; omega
  rw [hct1] at Wc
  go_upto_region 6 with fail
  have s5 := blk_set B4.out 5 (.int .i64 (ct1 : Nat))
  simp only [List.setIfInBounds_toArray, List.set_cons_zero, List.set_cons_succ] at s5
  have B5 := Lib.hid s5
  have g5 := gr_set V4 g 5 (.int .i64 (ct1 : Nat))
  have S5 := Lib.hid ((g5.block _ (blk_lt S4.out) (fun e => by have := Option.some.inj e; omega)).trans S4.out)
  have O5 := Lib.hid (O4.out.grown g5 (fun g' e e2 => by have e3 := Option.some.inj e2; subst e3; exact hpg e))
  have T5 := Lib.hid ((Turns.of_below (JS g (some ⟨gp, 0, none⟩)) Q4.out).grown (.inl rfl) g5)
  have hs5 := T5.out.size
  clear s5 g5 x0 c5 f5 B4 S4 O4 Q4
  generalize V4.setCell ⟨g, 5, none⟩ (.int .i64 (ct1 : Nat)) = V5 at B5 S5 O5 T5 hs5 ⊢
  refine wp_region_until (S := fun W => (W.heap[g]? = some (.cells #[.slice (some ⟨G, 0, none⟩) n n, .int .i64 (st : Nat), .int .i64 (rd : Nat), .int .u32 (nx : Nat), .slice (some ⟨gp, 0, none⟩) ps.length pc, .int .i64 (ct1 : Nat)] 70 (0, 0)) ∧ W.heap[w.heap.size]? = some (.cells #[.int .i64 (L : Nat), .int .i64 (H : Nat)] 75 (0, 0)))) 17 (by kernel_rfl) ⟨blk_drew B5.out, blk_drew S5.out⟩ (fun hHeld => ?_)
  refine wpAnyU_take (i := 0) (oi := _) (v := ?_) rfl (by kernel_rfl) (by kernel_rfl) (by kernel_rfl) (by kernel_rfl) (fun _ _ _ h => h) (Or.inl ⟨by rfl, ?_⟩) (by assumption) ?_
  rotate_left
  · intro w5 hSw
    clear hSw
    go_simp
    all_goals with_reducible rfl
  (try simp only [List.getElem_toArray]); (try simp only [List.getElem_cons_succ]); (try simp only [List.getElem_cons_zero]); try simp only [Act.put, List.setIfInBounds_toArray, List.set_cons_zero, List.set_cons_succ]
  refine wpAnyU_take (i := 1) (oi := _) (v := ?_) rfl (by kernel_rfl) (by kernel_rfl) (by kernel_rfl) (by kernel_rfl) (fun _ _ _ h => h) (Or.inl ⟨by rfl, ?_⟩) (by assumption) ?_
  rotate_left
  · intro w5 hSw
    clear hSw
    go_simp
    all_goals with_reducible rfl
  (try simp only [List.getElem_toArray]); (try simp only [List.getElem_cons_succ]); (try simp only [List.getElem_cons_zero]); try simp only [Act.put, List.setIfInBounds_toArray, List.set_cons_zero, List.set_cons_succ]
  refine wpAnyU_take (i := 2) (oi := _) (v := ?_) rfl (by kernel_rfl) (by kernel_rfl) (by kernel_rfl) (by kernel_rfl) (fun _ _ _ h => h) (Or.inl ⟨by rfl, ?_⟩) (by assumption) ?_
  rotate_left
  · intro w5 hSw
    clear hSw
    go_simp
    all_goals with_reducible rfl
  (try simp only [List.getElem_toArray]); (try simp only [List.getElem_cons_succ]); (try simp only [List.getElem_cons_zero]); try simp only [Act.put, List.setIfInBounds_toArray, List.set_cons_zero, List.set_cons_succ]
  refine wpAnyU_take (i := 3) (oi := _) (v := ?_) rfl (by kernel_rfl) (by kernel_rfl) (by kernel_rfl) (by kernel_rfl) (fun _ _ _ h => h) (Or.inl ⟨by rfl, ?_⟩) (by assumption) ?_
  rotate_left
  · intro w5 hSw
    clear hSw
    go_simp
    all_goals with_reducible rfl
  (try simp only [List.getElem_toArray]); (try simp only [List.getElem_cons_succ]); (try simp only [List.getElem_cons_zero]); try simp only [Act.put, List.setIfInBounds_toArray, List.set_cons_zero, List.set_cons_succ]
  refine wpAnyU_take (i := 4) (oi := _) (v := ?_) rfl (by kernel_rfl) (by kernel_rfl) (by kernel_rfl) (by kernel_rfl) (fun _ _ _ h => h) (Or.inl ⟨by rfl, ?_⟩) (by assumption) ?_
  rotate_left
  · intro w5 hSw
    have c4 := blk_cell hSw.1 4
    clear hSw
    go_simp
    all_goals with_reducible rfl
  (try simp only [List.getElem_toArray]); (try simp only [List.getElem_cons_succ]); (try simp only [List.getElem_cons_zero]); try simp only [Act.put, List.setIfInBounds_toArray, List.set_cons_zero, List.set_cons_succ]
  refine wpAnyU_take (i := 5) (oi := _) (v := ?_) rfl (by kernel_rfl) (by kernel_rfl) (by kernel_rfl) (by kernel_rfl) (fun _ _ _ h => h) (Or.inl ⟨by rfl, ?_⟩) (by assumption) ?_
  rotate_left
  · intro w5 hSw
    clear hSw
    go_simp
    all_goals with_reducible rfl
  (try simp only [List.getElem_toArray]); (try simp only [List.getElem_cons_succ]); (try simp only [List.getElem_cons_zero]); try simp only [Act.put, List.setIfInBounds_toArray, List.set_cons_zero, List.set_cons_succ]
  refine wpAnyU_take (i := 6) (oi := _) (v := ?_) rfl (by kernel_rfl) (by kernel_rfl) (by kernel_rfl) (by kernel_rfl) (fun _ _ _ h => h) (Or.inl ⟨by rfl, ?_⟩) (by assumption) ?_
  rotate_left
  · intro w5 hSw
    clear hSw
    go_simp
    all_goals with_reducible rfl
  (try simp only [List.getElem_toArray]); (try simp only [List.getElem_cons_succ]); (try simp only [List.getElem_cons_zero]); try simp only [Act.put, List.setIfInBounds_toArray, List.set_cons_zero, List.set_cons_succ]
  refine wpAnyU_take (i := 7) (oi := _) (v := ?_) rfl (by kernel_rfl) (by kernel_rfl) (by kernel_rfl) (by kernel_rfl) (fun _ _ _ h => h) (Or.inl ⟨by rfl, ?_⟩) (by assumption) ?_
  rotate_left
  · intro w5 hSw
    have c0 := blk_cell hSw.2 0
    have c1 := blk_cell hSw.2 1
    clear hSw
    go_simp
    all_goals with_reducible rfl
  (try simp only [List.getElem_toArray]); (try simp only [List.getElem_cons_succ]); (try simp only [List.getElem_cons_zero]); try simp only [Act.put, List.setIfInBounds_toArray, List.set_cons_zero, List.set_cons_succ]
  refine wpAnyU_take (i := 8) (oi := _) (v := ?_) rfl (by kernel_rfl) (by kernel_rfl) (by kernel_rfl) (by kernel_rfl) (fun _ _ _ h => h) (Or.inl ⟨by rfl, ?_⟩) (by assumption) ?_
  rotate_left
  · intro w5 hSw
    clear hSw
    go_simp
    all_goals with_reducible rfl
  (try simp only [List.getElem_toArray]); (try simp only [List.getElem_cons_succ]); (try simp only [List.getElem_cons_zero]); try simp only [Act.put, List.setIfInBounds_toArray, List.set_cons_zero, List.set_cons_succ]
  refine wpAnyU_take (i := 9) (oi := _) (v := ?_) rfl (by kernel_rfl) (by kernel_rfl) (by kernel_rfl) (by kernel_rfl) (fun _ _ _ h => h) (Or.inl ⟨by rfl, ?_⟩) (by assumption) ?_
  rotate_left
  · intro w5 hSw
    clear hSw
    go_simp
    all_goals with_reducible rfl
  (try simp only [List.getElem_toArray]); (try simp only [List.getElem_cons_succ]); (try simp only [List.getElem_cons_zero]); try simp only [Act.put, List.setIfInBounds_toArray, List.set_cons_zero, List.set_cons_succ]
  refine wpAnyU_take (i := 10) (oi := _) (v := ?_) rfl (by kernel_rfl) (by kernel_rfl) (by kernel_rfl) (by kernel_rfl) (fun _ _ _ h => h) (Or.inl ⟨by rfl, ?_⟩) (by assumption) ?_
  rotate_left
  · intro w5 hSw
    clear hSw
    go_simp
    all_goals with_reducible rfl
  (try simp only [List.getElem_toArray]); (try simp only [List.getElem_cons_succ]); (try simp only [List.getElem_cons_zero]); try simp only [Act.put, List.setIfInBounds_toArray, List.set_cons_zero, List.set_cons_succ]
  refine wpAnyU_take (i := 11) (oi := _) (v := ?_) rfl (by kernel_rfl) (by kernel_rfl) (by kernel_rfl) (by kernel_rfl) (fun _ _ _ h => h) (Or.inl ⟨by rfl, ?_⟩) (by assumption) ?_
  rotate_left
  · intro w5 hSw
    have c5 := blk_cell hSw.1 5
    clear hSw
    go_simp
    all_goals with_reducible rfl
  (try simp only [List.getElem_toArray]); (try simp only [List.getElem_cons_succ]); (try simp only [List.getElem_cons_zero]); try simp only [Act.put, List.setIfInBounds_toArray, List.set_cons_zero, List.set_cons_succ]
  refine wpAnyU_take (i := 12) (oi := _) (v := ?_) rfl (by kernel_rfl) (by kernel_rfl) (by kernel_rfl) (by kernel_rfl) (fun _ _ _ h => h) (Or.inl ⟨by rfl, ?_⟩) (by assumption) ?_
  rotate_left
  · intro w5 hSw
    clear hSw
    go_simp
    all_goals with_reducible rfl
  (try simp only [List.getElem_toArray]); (try simp only [List.getElem_cons_succ]); (try simp only [List.getElem_cons_zero]); try simp only [Act.put, List.setIfInBounds_toArray, List.set_cons_zero, List.set_cons_succ]
  obtain ⟨V6, hV6⟩ : ∃ V, V5.drew = V := ⟨_, rfl⟩
  have bD := (Below.refl V5.heap.size V5).drew
  rw [hV6] at hHeld bD ⊢
  clear hV6
  have O6 := Lib.hid (O5.out.below bD)
  have T6 := Lib.hid (T5.out.andBelow bD)
  have hs6 := bD.size
  have BAL := Lib.hid ((Below.refl V6.heap.size V6).alloc (Nat.le_refl _) (.cells #[.int .i64 (L : Nat), .int .i64 (H : Nat), .int .i64 (ct1 : Nat)] 87))
  have NB := Lib.hid (blk_new V6 (.cells #[.int .i64 (L : Nat), .int .i64 (H : Nat), .int .i64 (ct1 : Nat)] 87))
  clear bD
  refine wpAnyU_one (i := 13) (by kernel_rfl) rfl (fun K hK => ?_)
  (try simp only [List.getElem_toArray]); (try simp only [List.getElem_cons_succ]); (try simp only [List.getElem_cons_zero])
  go_simp
  refine hK.out _ _ ⟨(BAL.out.block _ (blk_lt hHeld.1)).trans hHeld.1, (BAL.out.block _ (blk_lt hHeld.2)).trans hHeld.2⟩ (fun hHeld => ?_)
  clear hK K
  try simp only [Act.put, List.setIfInBounds_toArray, List.set_cons_zero, List.set_cons_succ]
  have O7 := Lib.hid (O6.out.below BAL.out)
  have T7 := Lib.hid (T6.out.andBelow BAL.out)
  have hs7 := BAL.out.size
  have hv6 : V6.heap.size < (V6.alloc (.cells #[.int .i64 (L : Nat), .int .i64 (H : Nat), .int .i64 (ct1 : Nat)] 87)).heap.size := blk_lt NB.out
  obtain ⟨vb, hvb⟩ : ∃ z, V6.heap.size = z := ⟨_, rfl⟩
  obtain ⟨V7, hV7⟩ : ∃ V, V6.alloc (.cells #[.int .i64 (L : Nat), .int .i64 (H : Nat), .int .i64 (ct1 : Nat)] 87) = V := ⟨_, rfl⟩
  rw [hV7] at hHeld NB O7 T7 hs7 hv6 ⊢
  rw [hvb] at NB hv6 hs7 ⊢
  clear BAL hV7
  have hne : (some ⟨gp, 0, none⟩ : Option Addr) ≠ some ⟨vb, 0, none⟩ := fun e => by have := O6.out.ltB vb e; omega
  have HRP := Lib.hid (replace_pt B vb 1 (some ⟨gp, 0, none⟩) ps (L, H, ct1) pc FF E V7 O7.out NB.out hne (by omega) (by omega) (by omega) (by have := T7.out.size; omega))
  have hrp2 := HRP.out
  rw [HTA.out, HDC.out] at hrp2
  have HRQ := Lib.hid hrp2
  clear hrp2 HRP hne
  rw [hQS] at HRQ
  refine wpAnyU_one (i := 14) (by kernel_rfl) rfl (fun K hK => ?_)
  (try simp only [List.getElem_toArray]); (try simp only [List.getElem_cons_succ]); (try simp only [List.getElem_cons_zero])
  go_simp
  go_at_call 39
  refine HRQ.out.mono ?_
  rintro e8 V8 ⟨a8, c8, rfl, o8, g8, d8⟩
  have O8 := Lib.hid o8
  have G8 := Lib.hid g8
  have D8 := Lib.hid d8
  clear o8 g8 d8
  dsimp only
  refine hK.out _ _ ⟨(G8.out.block _ (blk_lt hHeld.1) (fun e => hpg (O7.out.ownEq g e.symm))).trans hHeld.1, (G8.out.block _ (blk_lt hHeld.2) (fun e => by have := O6.out.ltB _ (O7.out.ownEq _ e.symm); have h9 := HO.out.ltB _ (O7.out.ownEq _ e.symm); omega)).trans hHeld.2⟩ (fun hHeld => ?_)
  clear hK K
  try simp only [Act.put, List.setIfInBounds_toArray, List.set_cons_zero, List.set_cons_succ]
  refine wpAnyU_one (i := 15) (by kernel_rfl) rfl (fun K hK => ?_)
  (try simp only [List.getElem_toArray]); (try simp only [List.getElem_cons_succ]); (try simp only [List.getElem_cons_zero])
  go_simp
  refine hK.out _ _ hHeld (fun hHeld => ?_)
  clear hK K
  try simp only [Act.put, List.setIfInBounds_toArray, List.set_cons_zero, List.set_cons_succ]
  refine wpAnyU_take (i := 16) (oi := _) (v := ?_) rfl (by kernel_rfl) (by kernel_rfl) (by kernel_rfl) (by kernel_rfl) (fun _ _ _ h => h) (Or.inl ⟨by rfl, ?_⟩) (by assumption) ?_
  rotate_left
  · intro w5 hSw
    clear hSw
    go_simp
    all_goals with_reducible rfl
  (try simp only [List.getElem_toArray]); (try simp only [List.getElem_cons_succ]); (try simp only [List.getElem_cons_zero]); try simp only [Act.put, List.setIfInBounds_toArray, List.set_cons_zero, List.set_cons_succ]
  have t4 := blk_cell hHeld.1 4
  have f4 := blk_free hHeld.1 4
  have SF := blk_set hHeld.1 4 (.slice a8 QS.length c8)
  simp only [List.setIfInBounds_toArray, List.set_cons_zero, List.set_cons_succ] at SF
  have GF := gr_set V8 g 4 (.slice a8 QS.length c8)
  refine wpAnyU_last (by kernel_rfl) rfl (fun K hK => ?_)
  (try simp only [List.getElem_toArray]); (try simp only [List.getElem_cons_succ]); (try simp only [List.getElem_cons_zero])
  go_simp
  refine hK.out _ _ ?_
  clear hK K
  (try simp only [List.getElem_toArray]); (try simp only [List.getElem_cons_succ]); (try simp only [List.getElem_cons_zero]); try simp only [Act.put, List.setIfInBounds_toArray, List.set_cons_zero, List.set_cons_succ]
  refine wpAnyU_done (by kernel_rfl) ?_ _
  have SF2 := Lib.hid SF
  have GF2 := Lib.hid GF
  clear SF GF t4 f4
  go_wp2
  go_ret
  refine ⟨rfl, a8, c8, SF2.out, O8.out.grown GF2.out (fun g' e e2 => ?_), (T7.out.trans (.of_grown (fun k e => .inr (O7.out.ownEq k e)) G8.out)).grown (.inl rfl) GF2.out, fun k e => (D8.out k e).imp id (fun h => by have := T7.out.size; omega)⟩
  obtain rfl := Option.some.inj e2
  rcases D8.out _ e with h1 | h1
  · exact hpg h1
  · have := T7.out.size; omega
end Go.Proofs.Ytknebjfdggimcaa
