/- Structs in blocks of their own, read, written and answered whole. -/
import Derived.Test.YthbiadhnlomhmaaGBase
import Derived.Deep.MidRow
namespace Go.Proofs.Ythbiadhnlomhmaa
open Go.RowKit

theorem setCells_b {g : Nat} {t : TypeId} : ∀ (vs : List Value) (o : Nat) (w : World) (cs : Array Value), w.heap[g]? = some (.cells cs t (0, 0)) →
    ∃ cs', (w.setCells g o vs).heap[g]? = some (.cells cs' t (0, 0)) ∧ cs'.size = cs.size ∧ (∀ i, i < cs.size → cs'[i]? = if o ≤ i ∧ i < o + vs.length then vs[i - o]? else cs[i]?) ∧ w.grownBy (w.setCells g o vs) (some g)
  | [], o, w, cs, h => ⟨cs, h, rfl, fun i _ => by rw [if_neg (by simp)], World.grownBy.refl w _⟩
  | v :: vs, o, w, cs, h => by
    obtain ⟨cs', h1, h2, h3, h4⟩ := setCells_b vs (o + 1) (w.setCell ⟨g, o, none⟩ v) _ (blk_set h o v)
    refine ⟨cs', h1, by rw [h2]; simp, fun i hi => ?_, gr_trans (gr_set w g o v) h4⟩
    rw [h3 i (by simpa using hi)]
    by_cases ho : i = o
    · subst ho
      rw [if_neg (by omega), if_pos (by simp), Array.getElem?_setIfInBounds_self_of_lt hi]
      simp
    · by_cases hl : o + 1 ≤ i ∧ i < o + 1 + vs.length
      · rw [if_pos hl, if_pos (by simp; omega)]
        obtain ⟨j, rfl⟩ : ∃ j, i = o + 1 + j := ⟨i - (o + 1), by omega⟩
        rw [show o + 1 + j - (o + 1) = j by omega, show o + 1 + j - o = j + 1 by omega]
        rfl
      · rw [if_neg hl, if_neg (by simp; omega), Array.getElem?_setIfInBounds_ne (fun e => ho e.symm)]

theorem blk_range {W : World} {g : Nat} {cs : Array Value} {t : TypeId} (h : W.heap[g]? = some (.cells cs t (0, 0))) : W.rangeAt g 0 cs.toList := fun j v hj => by
  rw [Nat.zero_add, blk_cell h j]; simpa using hj
/-- A part of a block. -/
theorem blk_part {W : World} {g : Nat} {cs : Array Value} {t : TypeId} (h : W.heap[g]? = some (.cells cs t (0, 0))) (o : Nat) (vs : List Value) (hv : ∀ j v, vs[j]? = some v → cs[o + j]? = some v) : W.rangeAt g o vs := fun j v hj => by
  rw [blk_cell h (o + j)]; exact hv j v hj

/-- A struct type of n cells. -/
structure Row (ty : TypeId) (n : Nat) : Prop where
  und : ∃ d, Try.prog.underlying ty = some d ∧ d.isRow = true
  size : (Try.prog.info? ty).map (·.size) = some n

variable {ty t : TypeId} {n : Nat}
theorem wpList_load_blk (R : Row ty n) {ops : Array Oper} {rest : List Oper} {op : Oper} {a : Act} {w : World} {Q : Exit → Act → World → Prop} (hgd : op.guard = none) (x : Operand) (ho : op.op = .load ty x)
    (g : Nat) (hx : a.eval x = .pointer (some ⟨g, 0, none⟩)) (cs : Array Value) (hb : w.heap[g]? = some (.cells cs t (0, 0))) (hs : cs.size = n)
    (h : wpList Try.prog ops Q rest (a.put op.dst (.agg cs)) w) : wpList Try.prog ops Q (op :: rest) a w := by
  obtain ⟨d, hu, hd⟩ := R.und
  exact wpList_load_mid hgd ty x ho g 0 hx cs.toList d (blk_range hb) hu hd (by rw [R.size]; simp [hs]) (by simpa using h)

theorem blk_stored {g : Nat} {w : World} {cs vs : Array Value} (hb : w.heap[g]? = some (.cells cs t (0, 0))) (hs : cs.size = n) (hv : vs.size = n) : (w.setCells g 0 vs.toList).heap[g]? = some (.cells vs t (0, 0)) ∧ w.grownBy (w.setCells g 0 vs.toList) (some g) := by
  obtain ⟨cs', e1, e2, e3, e4⟩ := setCells_b vs.toList 0 w cs hb
  have e : cs' = vs := by
    apply Array.ext_getElem?
    intro i
    by_cases hi : i < cs.size
    · rw [e3 i hi, if_pos (by simp; omega)]
      simp
    · rw [Array.getElem?_eq_none (by omega), Array.getElem?_eq_none (by omega)]
  subst e
  exact ⟨e1, e4⟩
theorem wpList_store_blk (R : Row ty n) {ops : Array Oper} {rest : List Oper} {op : Oper} {a : Act} {w : World} {Q : Exit → Act → World → Prop} (hgd : op.guard = none) (x y : Operand) (ho : op.op = .store ty x y)
    (g : Nat) (cs vs : Array Value) (hx : a.eval x = .pointer (some ⟨g, 0, none⟩)) (hy : a.eval y = .agg vs) (hb : w.heap[g]? = some (.cells cs t (0, 0))) (hs : cs.size = n) (hv : vs.size = n) (h1 : vs.all (·.oneCell') = true)
    (h : ∀ w', w'.heap[g]? = some (.cells vs t (0, 0)) → w.grownBy w' (some g) → wpList Try.prog ops Q rest (a.put op.dst undef) w') : wpList Try.prog ops Q (op :: rest) a w := by
  refine wpList_store_mid hgd ty x y ho g 0 vs hx hy (fun j hj => ?_) (by rw [R.size, hv]) h1 ?_
  · rw [Nat.zero_add]
    exact ⟨by rw [blk_cell hb j]; simp [hs]; omega, blk_free hb j⟩
  · obtain ⟨e1, e2⟩ := blk_stored hb hs hv
    exact h _ e1 e2
theorem step_store_blk (R : Row ty n) {ops : Array Oper} {op : Oper} {a : Act} {w : World} {K : Act → World → Prop} {Q : Exit → Act → World → Prop} {E : Prop} (hgd : op.guard = none) (x y : Operand) (ho : op.op = .store ty x y)
    (g : Nat) (cs vs : Array Value) (hx : a.eval x = .pointer (some ⟨g, 0, none⟩)) (hy : a.eval y = .agg vs) (hb : w.heap[g]? = some (.cells cs t (0, 0))) (hs : cs.size = n) (hv : vs.size = n) (h1 : vs.all (·.oneCell') = true)
    (h : ∀ w', w'.heap[g]? = some (.cells vs t (0, 0)) → w.grownBy w' (some g) → K (a.put op.dst undef) w') : if Region.wanted op (yielded ops a.tmps) = true then Oper.wp Try.prog op a w K Q else E := by
  rw [if_pos (by simp [Region.wanted, hgd])]
  refine wp_store_mid ty x y ho g 0 vs hx hy (fun j hj => ?_) (by rw [R.size, hv]) h1 ?_
  · rw [Nat.zero_add]
    exact ⟨by rw [blk_cell hb j]; simp [hs]; omega, blk_free hb j⟩
  · obtain ⟨e1, e2⟩ := blk_stored hb hs hv
    exact h _ e1 e2

theorem run_blk (R : Row ty n) {w : World} {g : Nat} {cs : Array Value} (hb : w.heap[g]? = some (.cells cs t (0, 0))) (hs : cs.size = n) : (loadVar ty ⟨g, 0, none⟩).run Try.prog w = .ok (.agg cs) w := by
  obtain ⟨d, hu, hd⟩ := R.und
  have hl := run_loadVar_mid (P := Try.prog) w g 0 ty cs.toList d (blk_range hb) hu hd (by rw [R.size]; simp [hs])
  rwa [Array.toArray_toList] at hl

/-- Results: two structs in boxes, and a number. -/
theorem results_cct {fn : Func} {i j k : Nat} {T U t u : TypeId} {n m : Nat} (R : Row T n) (S : Row U m) (hr : fn.results = #[.cell i T, .cell j U, .tmp k]) (tmps : Array Value) (w : World) (g h : Nat) (cs ds : Array Value) (v : Value) (hi : tmps.getD i undef = .pointer (some ⟨g, 0, none⟩)) (hj : tmps.getD j undef = .pointer (some ⟨h, 0, none⟩)) (hk : tmps.getD k undef = v) (hb : w.heap[g]? = some (.cells cs t (0, 0))) (hs : cs.size = n) (hc : w.heap[h]? = some (.cells ds u (0, 0))) (hd : ds.size = m) :
    (results fn tmps).run Try.prog w = .ok (.tuple #[.agg cs, .agg ds, v]) w := by
  have h1 := run_blk R hb hs
  have h2 := run_blk S hc hd
  rw [Array.getD_eq_getD_getElem?] at hi hj hk
  simp [results, hr, hi, hj, hk, asAddr, h1, h2]
/-- Results: a struct in a box, and a number. -/
theorem results_ct {fn : Func} {i k : Nat} {T t : TypeId} {n : Nat} (R : Row T n) (hr : fn.results = #[.cell i T, .tmp k]) (tmps : Array Value) (w : World) (g : Nat) (cs : Array Value) (v : Value) (hi : tmps.getD i undef = .pointer (some ⟨g, 0, none⟩)) (hk : tmps.getD k undef = v) (hb : w.heap[g]? = some (.cells cs t (0, 0))) (hs : cs.size = n) :
    (results fn tmps).run Try.prog w = .ok (.tuple #[.agg cs, v]) w := by
  have h1 := run_blk R hb hs
  rw [Array.getD_eq_getD_getElem?] at hi hk
  simp [results, hr, hi, hk, asAddr, h1]
/-- Results: a struct in a box. -/
theorem results_c {fn : Func} {i : Nat} {T t : TypeId} {n : Nat} (R : Row T n) (hr : fn.results = #[.cell i T]) (tmps : Array Value) (w : World) (g : Nat) (cs : Array Value) (hi : tmps.getD i undef = .pointer (some ⟨g, 0, none⟩)) (hb : w.heap[g]? = some (.cells cs t (0, 0))) (hs : cs.size = n) :
    (results fn tmps).run Try.prog w = .ok (.agg cs) w := by
  have h1 := run_blk R hb hs
  rw [Array.getD_eq_getD_getElem?] at hi
  simp [results, hr, hi, asAddr, h1]
end Go.Proofs.Ythbiadhnlomhmaa
