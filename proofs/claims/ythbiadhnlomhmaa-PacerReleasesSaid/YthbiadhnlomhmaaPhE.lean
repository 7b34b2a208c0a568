/- Packets that wait: one pushed, the last one taken; heap.Push of the greatest. -/
import Derived.Test.YthbiadhnlomhmaaPhD
import Derived.Test.YthbiadhnlomhmaaGUntil
namespace Go.Proofs.Ythbiadhnlomhmaa
open Go.RowKit Go.Proofs.Ythbiadhnlomhmaa.Ph

section
variable {α : Type} {m : Nat} {cells : α → List Value} {w : World}
theorem step_append_rA {ops : Array Oper} {o : Oper} {act : Act} {K : Act → World → Prop} {Q : Exit → Act → World → Prop} {E0 : Prop} {t e : TypeId} {z : Value} {bz : Nat} (hgd : o.guard = none) (L : Elem t e z m bz) (E : Enc m cells) (s x : Operand)
    (ho : o.op = .call { callee := .builtin .append, args := #[s, x], argTypes := #[t, t] }) (B : Nat) {a : Option Addr} {ad : Addr} {xs ys : List α} {cap dap n : Nat} (hn : n = ys.length)
    (O : OwnR e m cells B a xs cap w) (Y : Sts m cells Tr w (some ad) ys) (hs : act.eval s = .slice a xs.length cap) (hx : act.eval x = .slice (some ad) n dap)
    (hlen : (xs.length + ys.length) * bz ≤ 140737488355328) (hml : xs.length + ys.length ≤ maxLen) (hB : B ≤ w.heap.size)
    (h : ∀ a' cap' w', OwnR e m cells B a' (xs ++ ys) cap' w' → Below B w w' → w.grownBy w' (Value.slice a xs.length cap).ownBlock → (∀ g, a' = some ⟨g, 0, none⟩ → a = some ⟨g, 0, none⟩ ∨ g = w.heap.size) → K (act.put o.dst (.slice a' (xs ++ ys).length cap')) w') : if Region.wanted o (yielded ops act.tmps) = true then Oper.wp Try.prog o act w K Q else E0 := by
  have hw : Region.wanted o (yielded ops act.tmps) = true := by simp [Region.wanted, hgd]
  rw [if_pos hw]
  subst hn
  obtain ⟨i0, hi, hz0, hz1, hz2⟩ := info_parts L.inf
  obtain ⟨v', w', hr, hown, hgrow, _, hat⟩ := run_append_own_at (P := Try.prog) w B t o.type e i0 z m bz L.und hi hz0 hz1 hz2 L.zs L.pos _ _ _ O.rowAny ad ys.length dap (ys.flatMap cells) (flat_len E ys) (Y.srcF E) (flat_one E ys) hml hlen hB
  unfold Oper.wp execOp
  simp only [ho, resolve, invoke, builtin, Sem.run_bind, Sem.run_pure, Result.andThen_ok, List.map_toArray, List.map_cons, List.map_nil, hs, hx, hr]
  rw [← List.flatMap_append, ← List.length_append] at hown
  obtain ⟨a', cap', rfl, O'⟩ := OwnR.of_row hown
  refine h a' cap' w' O' ((Below.refl _ _).grown hgrow hB (fun k e => (O.ownB k e).1)) hgrow ?_
  intro g hg
  subst hg
  rcases hat with h1 | h1
  · left
    rcases O with ⟨rfl, _, _⟩ | ⟨g2, rfl, _, _⟩
    · cases h1
    · have e : some g = some g2 := h1
      rw [Option.some.inj e]
  · right
    have e : some g = some w.heap.size := h1
    exact Option.some.inj e
end

theorem ownR_take {α : Type} {e : TypeId} {m : Nat} {cells : α → List Value} {B g cap : Nat} {xs : List α} {w : World} (E : Enc m cells) (h : OwnR e m cells B (some ⟨g, 0, none⟩) xs cap w) (n : Nat) (hn : n ≤ xs.length) : OwnR e m cells B (some ⟨g, 0, none⟩) (xs.take n) cap w := by
  rcases h with ⟨h, _⟩ | ⟨g', h, hB, hl, ⟨h0, _⟩ | ⟨g2, cap', cur, h', hB', hb, hc, hm, hs, ht⟩⟩
  · cases h
  · cases h0
  · cases h
    cases h'
    have hlt : (xs.take n).length = n := by rw [List.length_take]; omega
    refine .inr ⟨g, rfl, hB, flat_len E _, .inr ⟨g, cap, cur, rfl, hB, hb, by omega, hm, hs, ?_⟩⟩
    rw [hlt]
    have e1 : (xs.take n).flatMap cells = (xs.flatMap cells).take (n * m) := by
      have e2 : xs.flatMap cells = (xs.take n).flatMap cells ++ (xs.drop n).flatMap cells := by rw [← List.flatMap_append, List.take_append_drop]
      refine Eq.trans ?_ (congrArg (List.take (n * m)) e2.symm)
      rw [List.take_append_of_le_length (by rw [flat_len E, hlt]; exact Nat.le_refl _)]
      exact (List.take_of_length_le (by rw [flat_len E, hlt]; exact Nat.le_refl _)).symm
    rw [e1, ← ht, List.take_take, Nat.min_eq_left (Nat.mul_le_mul_right _ hn)]

set_option maxRecDepth 100000 in
set_option maxHeartbeats 1000000 in
theorem wpush_ok (D : Nat → Int) (B p o : Nat) (cs : Array Value) (t : TypeId) (a : Option Addr) (xs : List Nat) (cap : Nat) (w : World) (hb : w.heap[p]? = some (.cells cs t (0, 0))) (hcs : cs[o]? = some (.slice a xs.length cap)) (hp : p < B) (hB : B ≤ w.heap.size) (h : OwnR 51 3 (PKC D) B a xs cap w) (v : Nat) (hl : xs.length ≤ 4096) :
    Calls Try.prog 36 #[.pointer (some ⟨p, o, none⟩), .iface 51 (.agg #[.int .i64 (v : Nat), .int .i64 (D v), .int .i64 (v : Nat)])] w fun e w' => e = .returned (.tuple #[]) ∧ ∃ a' cap', w'.heap[p]? = some (.cells (cs.setIfInBounds o (.slice a' (xs ++ [v]).length cap')) t (0, 0)) ∧ OwnR 51 3 (PKC D) B a' (xs ++ [v]) cap' w' ∧ (∀ k, a' = some ⟨k, 0, none⟩ → a = some ⟨k, 0, none⟩ ∨ w.heap.size ≤ k) ∧ Turns (fun b => b = p ∨ a = some ⟨b, 0, none⟩) w w' := by
  have ta : ∀ w1 : World, (Instr.typeAssert (.iface 51 (.agg #[.int .i64 (v : Nat), .int .i64 (D v), .int .i64 (v : Nat)])) 20 51 false).run Try.prog w1 = .ok (.agg #[.int .i64 (v : Nat), .int .i64 (D v), .int .i64 (v : Nat)]) w1 := fun w1 => by kernel_rfl
  go_enter Try.func36, Try.ntmps36
  refine wp_region_until (S := fun W' => (W'.heap[p]? = some (.cells cs t (0, 0)))) 9 (by kernel_rfl) (blk_drew hb) (fun hHeld => ?_)
  refine wpAnyU_take (i := 0) (oi := _) (v := ?_) rfl (by kernel_rfl) (by kernel_rfl) (by kernel_rfl) (by kernel_rfl) (fun _ _ _ h => h) (Or.inl ⟨by rfl, ?_⟩) (by assumption) ?_
  rotate_left
  · intro w5 hSw
    clear hSw
    go_simp
    all_goals with_reducible rfl
  (try simp only [List.getElem_toArray]); (try simp only [List.getElem_cons_succ]); (try simp only [List.getElem_cons_zero]); try simp only [Act.put, List.setIfInBounds_toArray, List.set_cons_zero, List.set_cons_succ]
  refine wpAnyU_take (i := 1) (oi := _) (v := ?_) rfl (by kernel_rfl) (by kernel_rfl) (by kernel_rfl) (by kernel_rfl) (fun _ _ _ h => h) (Or.inl ⟨by rfl, ?_⟩) (by assumption) ?_
  rotate_left
  · intro w5 hSw
    clear hSw
    go_simp
    all_goals with_reducible rfl
  (try simp only [List.getElem_toArray]); (try simp only [List.getElem_cons_succ]); (try simp only [List.getElem_cons_zero]); try simp only [Act.put, List.setIfInBounds_toArray, List.set_cons_zero, List.set_cons_succ]
  refine wpAnyU_take (i := 2) (oi := _) (v := ?_) rfl (by kernel_rfl) (by kernel_rfl) (by kernel_rfl) (by kernel_rfl) (fun _ _ _ h => h) (Or.inl ⟨by rfl, ?_⟩) (by assumption) ?_
  rotate_left
  · intro w5 hSw
    clear hSw
    go_simp
    all_goals with_reducible rfl
  (try simp only [List.getElem_toArray]); (try simp only [List.getElem_cons_succ]); (try simp only [List.getElem_cons_zero]); try simp only [Act.put, List.setIfInBounds_toArray, List.set_cons_zero, List.set_cons_succ]
  refine wpAnyU_take (i := 3) (oi := _) (v := ?_) rfl (by kernel_rfl) (by kernel_rfl) (by kernel_rfl) (by kernel_rfl) (fun _ _ _ h => h) (Or.inl ⟨by rfl, ?_⟩) (by assumption) ?_
  rotate_left
  · intro w5 hSw
    have t0 := (blk_cell hSw o).trans hcs
    clear hSw
    go_simp
    all_goals with_reducible rfl
  (try simp only [List.getElem_toArray]); (try simp only [List.getElem_cons_succ]); (try simp only [List.getElem_cons_zero]); try simp only [Act.put, List.setIfInBounds_toArray, List.set_cons_zero, List.set_cons_succ]
  refine wpAnyU_take (i := 4) (oi := _) (v := ?_) rfl (by kernel_rfl) (by kernel_rfl) (by kernel_rfl) (by kernel_rfl) (fun _ _ _ h => h) (Or.inl ⟨by rfl, ?_⟩) (by assumption) ?_
  rotate_left
  · intro w5 hSw
    clear hSw
    go_simp
    all_goals with_reducible rfl
  (try simp only [List.getElem_toArray]); (try simp only [List.getElem_cons_succ]); (try simp only [List.getElem_cons_zero]); try simp only [Act.put, List.setIfInBounds_toArray, List.set_cons_zero, List.set_cons_succ]
  refine wpAnyU_take (i := 5) (oi := _) (v := ?_) rfl (by kernel_rfl) (by kernel_rfl) (by kernel_rfl) (by kernel_rfl) (fun _ _ _ h => h) (Or.inl ⟨by rfl, ?_⟩) (by assumption) ?_
  rotate_left
  · intro w5 hSw
    clear hSw
    go_simp
    all_goals with_reducible rfl
  (try simp only [List.getElem_toArray]); (try simp only [List.getElem_cons_succ]); (try simp only [List.getElem_cons_zero]); try simp only [Act.put, List.setIfInBounds_toArray, List.set_cons_zero, List.set_cons_succ]
  have BD := Lib.hid ((Below.refl w.heap.size w).drew)
  have OD := Lib.hid (h.below BD.out)
  have BA := Lib.hid ((Below.refl w.drew.heap.size w.drew).alloc (Nat.le_refl _) (.cells #[.int .i64 (v : Nat), .int .i64 (D v), .int .i64 (v : Nat)] 51))
  have hs5 : w.heap.size ≤ w.drew.heap.size := Nat.le_refl _
  have hs6 := BA.out.size
  refine wpAnyU_one (i := 6) (by kernel_rfl) rfl (fun K hK => ?_)
  (try simp only [List.getElem_toArray]); (try simp only [List.getElem_cons_succ]); (try simp only [List.getElem_cons_zero])
  go_simp
  refine hK.out _ _ ((BA.out.block p (blk_lt hHeld)).trans hHeld) (fun hHeld => ?_)
  clear hK K
  try simp only [Act.put, List.setIfInBounds_toArray, List.set_cons_zero, List.set_cons_succ]
  refine wpAnyU_one (i := 7) (by kernel_rfl) rfl (fun K hK => ?_)
  (try simp only [List.getElem_toArray]); (try simp only [List.getElem_cons_succ]); (try simp only [List.getElem_cons_zero])
  refine step_append_rA (act := ⟨_, _⟩) (w := w.drew.alloc (.cells #[.int .i64 (v : Nat), .int .i64 (D v), .int .i64 (v : Nat)] 51)) (t := 45) (e := 51) (z := .agg #[.int .i64 0, .int .i64 0, .int .i64 0]) (m := 3) (bz := 24) (cells := PKC D) (xs := xs) (ys := [v]) (cap := cap) (dap := 1) (n := 1) (a := a) (ad := ⟨w.drew.heap.size, 0, none⟩) ?_ elemP (encP D) (.tmp 7) (.tmp 10) ?_ B ?_ (OD.out.below BA.out) (sts_new (encP D) w.drew [v] 51 (0, 0)) ?_ ?_ (by simp only [List.length_cons, List.length_nil]; omega) (by unfold maxLen; simp only [List.length_cons, List.length_nil]; omega) (by omega) ?_
  · rfl
  · rfl
  · rfl
  · rfl
  · rfl
  intro a5 c5 V5 O5 b5 g5 at5
  have O5h := Lib.hid O5
  have G5h := Lib.hid g5
  have A5h := Lib.hid at5
  have hs7 := b5.size
  clear O5 b5 g5 at5
  refine hK.out _ _ ((G5h.out.block p (blk_lt hHeld) (fun e => by have h1 := (OD.out.ownB p e.symm).1; omega)).trans hHeld) (fun hHeld => ?_)
  clear hK K
  try simp only [Act.put, List.setIfInBounds_toArray, List.set_cons_zero, List.set_cons_succ]
  generalize hL2 : xs ++ [v] = L2 at O5h ⊢
  have HL2 := Lib.hid hL2
  clear hL2
  refine wpAnyU_take (i := 8) (oi := _) (v := ?_) rfl (by kernel_rfl) (by kernel_rfl) (by kernel_rfl) (by kernel_rfl) (fun _ _ _ h => h) (Or.inl ⟨by rfl, ?_⟩) (by assumption) ?_
  rotate_left
  · intro w5 hSw
    clear hSw
    go_simp
    all_goals with_reducible rfl
  (try simp only [List.getElem_toArray]); (try simp only [List.getElem_cons_succ]); (try simp only [List.getElem_cons_zero]); try simp only [Act.put, List.setIfInBounds_toArray, List.set_cons_zero, List.set_cons_succ]
  have t0 := (blk_cell hHeld o).trans hcs
  have f0 := blk_free hHeld o
  have SF := Lib.hid (blk_set hHeld o (.slice a5 L2.length c5))
  have GF := Lib.hid (gr_set V5 p o (.slice a5 L2.length c5))
  refine wpAnyU_last (by kernel_rfl) rfl (fun K hK => ?_)
  (try simp only [List.getElem_toArray]); (try simp only [List.getElem_cons_succ]); (try simp only [List.getElem_cons_zero])
  go_simp
  refine hK.out _ _ ?_
  clear hK K
  (try simp only [List.getElem_toArray]); (try simp only [List.getElem_cons_succ]); (try simp only [List.getElem_cons_zero]); try simp only [Act.put, List.setIfInBounds_toArray, List.set_cons_zero, List.set_cons_succ]
  refine wpAnyU_done (by kernel_rfl) ?_ _
  clear t0 f0
  go_wp2
  refine bodyPost_end (results_none rfl _ _ _) rfl ?_
  have TT : Turns (fun b => b = p ∨ a = some ⟨b, 0, none⟩) w (V5.setCell ⟨p, o, none⟩ (.slice a5 L2.length c5)) := ((((Turns.of_below _ BD.out).andBelow BA.out).trans (.of_grown (fun k e => .inr (h.ownEq k e)) G5h.out)).grown (.inl rfl) GF.out)
  obtain rfl := HL2.out
  refine ⟨rfl, a5, c5, SF.out, ?_, fun k e => (A5h.out k e).imp id (fun h => by omega), TT⟩
  have O6 := O5h.out.grown GF.out (fun k e e2 => by have h1 := (O5h.out.ownB k (by rw [e]; rfl)).1; have := Option.some.inj e2; omega)
  exact O6

set_option maxRecDepth 100000 in
set_option maxHeartbeats 1000000 in
theorem wpop_ok (D : Nat → Int) (B p o g : Nat) (cs : Array Value) (t : TypeId) (xs : List Nat) (cap n : Nat) (w : World) (hb : w.heap[p]? = some (.cells cs t (0, 0))) (hcs : cs[o]? = some (.slice (some ⟨g, 0, none⟩) xs.length cap)) (hp : p < B) (h : OwnR 51 3 (PKC D) B (some ⟨g, 0, none⟩) xs cap w) (hn : xs.length = n + 1) (hl : xs.length ≤ 4096) :
    Calls Try.prog 35 #[.pointer (some ⟨p, o, none⟩)] w fun e w' => e = .returned (.iface 51 (.agg #[.int .i64 (at0 xs n : Nat), .int .i64 (D (at0 xs n)), .int .i64 (at0 xs n : Nat)])) ∧ w'.heap[p]? = some (.cells (cs.setIfInBounds o (.slice (some ⟨g, 0, none⟩) n cap)) t (0, 0)) ∧ OwnR 51 3 (PKC D) B (some ⟨g, 0, none⟩) (xs.take n) cap w' ∧ Turns (fun b => b = p) w w' := by
  obtain ⟨b5, o5, e5, _, t0, t1, t2⟩ := pkt_at (h.sts (encP D)) (show n < xs.length by omega)
  cases e5
  rw [Nat.zero_add] at t0 t1 t2
  have c0 := (blk_cell hb o).trans hcs
  have hcl := h.capLe
  have W1 : IntKind.i64.wrap ((xs.length : Int) - 1) = (n : Int) := by rw [IntWalk.i64_in _ ⟨by omega, by omega⟩]; omega
  have i1 : (n : Int) < (xs.length : Int) := by omega
  have i2 : ¬ (n : Int) < 0 := by omega
  have i3 : (n : Int) ≤ (cap : Int) := by omega
  have HO := Lib.hid h
  have HH := Lib.hid hb
  generalize hx : at0 xs n = x at t0 t1 t2 ⊢
  generalize D x = dx at t1 ⊢
  clear hx
  go_enter Try.func35, Try.ntmps35
  go_upto_region 3 with fail
  have BA := Lib.hid ((Below.refl w.heap.size w).alloc (Nat.le_refl _) (.cells #[.int .i64 (x : Nat), .int .i64 dx, .int .i64 (x : Nat)] 51))
  have KX := Lib.hid (blk_new w (.cells #[.int .i64 (x : Nat), .int .i64 dx, .int .i64 (x : Nat)] 51))
  have HX := Lib.hid ((BA.out.block p (blk_lt hb)).trans hb)
  have OX := Lib.hid (HO.out.below BA.out)
  have hpw : p ≠ w.heap.size := by have := blk_lt hb; omega
  clear t0 t1 t2 c0
  generalize w.alloc (.cells #[.int .i64 (x : Nat), .int .i64 dx, .int .i64 (x : Nat)] 51) = V1 at BA KX HX OX ⊢
  have c0 := (blk_cell HX.out o).trans hcs
  have f0 := blk_free HX.out o
  have SF := Lib.hid (blk_set HX.out o (.slice (some ⟨g, 0, none⟩) n cap))
  have GF := Lib.hid (gr_set V1 p o (.slice (some ⟨g, 0, none⟩) n cap))
  go_upto_region 4 with fail
  have KY := (GF.out.block w.heap.size (blk_lt KX.out) (fun e => hpw (Option.some.inj e).symm)).trans KX.out
  have y0 := blk_cell KY 0
  have y1 := blk_cell KY 1
  have y2 := blk_cell KY 2
  clear c0 f0
  go_wp2
  go_ret
  refine ⟨rfl, SF.out, ?_, (Turns.of_below _ BA.out).grown rfl GF.out⟩
  have O6 := OX.out.grown GF.out (fun k e e2 => by have h1 := (OX.out.ownB k (by rw [e]; rfl)).1; have := Option.some.inj e2; omega)
  exact ownR_take (encP D) O6 n (by omega)
end Go.Proofs.Ythbiadhnlomhmaa
