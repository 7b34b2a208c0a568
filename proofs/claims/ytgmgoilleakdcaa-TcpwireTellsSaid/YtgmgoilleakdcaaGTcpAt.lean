/- A segment in a block of its own: read and written whole. -/
import Derived.Test.YtgmgoilleakdcaaTcpSt
import Derived.Deep.MidRow
namespace Go.Proofs.Ytgmgoilleakdcaa
open Go.RowKit

theorem setCells_blk {g : Nat} {t : TypeId} : ∀ (vs : List Value) (o : Nat) (w : World) (cs : Array Value), w.heap[g]? = some (.cells cs t (0, 0)) →
    ∃ cs', (w.setCells g o vs).heap[g]? = some (.cells cs' t (0, 0)) ∧ cs'.size = cs.size ∧ (∀ i, i < cs.size → cs'[i]? = if o ≤ i ∧ i < o + vs.length then vs[i - o]? else cs[i]?) ∧ w.grownBy (w.setCells g o vs) (some g)
  | [], o, w, cs, h => ⟨cs, h, rfl, fun i _ => by rw [if_neg (by simp)], World.grownBy.refl w _⟩
  | v :: vs, o, w, cs, h => by
    obtain ⟨cs', h1, h2, h3, h4⟩ := setCells_blk vs (o + 1) (w.setCell ⟨g, o, none⟩ v) _ (blk_set h o v)
    refine ⟨cs', h1, by rw [h2]; simp, fun i hi => ?_, (grown_set w g o v).trans h4⟩
    rw [h3 i (by simpa using hi)]
    by_cases ho : i = o
    · subst ho
      rw [if_neg (by omega), if_pos (by simp), Array.getElem?_setIfInBounds_self_of_lt hi]
      simp
    · by_cases hl : o + 1 ≤ i ∧ i < o + 1 + vs.length
      · rw [if_pos hl, if_pos (by simp; omega)]
        obtain ⟨j, rfl⟩ : ∃ j, i = o + 1 + j := ⟨i - (o + 1), by omega⟩
        rw [show o + 1 + j - (o + 1) = j by omega, show o + 1 + j - o = j + 1 by omega]
        rfl
      · rw [if_neg hl, if_neg (by simp; omega), Array.getElem?_setIfInBounds_ne (fun e => ho e.symm)]

theorem tcp_size : (Try.prog.info? 27).map (·.size) = some 16 := by kernel_rfl

theorem TcpAt.range {W : World} {g : Nat} {cs : Array Value} (h : TcpAt W g cs) : W.rangeAt g 0 cs.toList := fun j v hj => by
  rw [Nat.zero_add, blk_cell h j]; simpa using hj

theorem wpList_load_tcp {ops : Array Oper} {rest : List Oper} {op : Oper} {a : Act} {w : World} {Q : Exit → Act → World → Prop} (hgd : op.guard = none) (x : Operand) (ho : op.op = .load 27 x)
    (g : Nat) (hx : a.eval x = .pointer (some ⟨g, 0, none⟩)) (cs : Array Value) (hb : TcpAt w g cs) (hs : cs.size = 16)
    (h : wpList Try.prog ops Q rest (a.put op.dst (.agg cs)) w) : wpList Try.prog ops Q (op :: rest) a w :=
  wpList_load_mid hgd 27 x ho g 0 hx cs.toList _ hb.range Try.underlying27 rfl (by rw [tcp_size]; simp [hs]) (by simpa using h)

theorem wpList_store_tcp {ops : Array Oper} {rest : List Oper} {op : Oper} {a : Act} {w : World} {Q : Exit → Act → World → Prop} (hgd : op.guard = none) (x y : Operand) (ho : op.op = .store 27 x y)
    (g : Nat) (cs vs : Array Value) (hx : a.eval x = .pointer (some ⟨g, 0, none⟩)) (hy : a.eval y = .agg vs) (hb : TcpAt w g cs) (hs : cs.size = 16) (hv : vs.size = 16) (h1 : vs.all (·.oneCell') = true)
    (h : ∀ w', TcpAt w' g vs → w.grownBy w' (some g) → wpList Try.prog ops Q rest (a.put op.dst undef) w') : wpList Try.prog ops Q (op :: rest) a w := by
  refine wpList_store_mid hgd 27 x y ho g 0 vs hx hy (fun j hj => ?_) (by rw [tcp_size, hv]) h1 ?_
  · rw [Nat.zero_add]
    exact ⟨by rw [blk_cell hb j]; simp [hs]; omega, blk_free hb j⟩
  · obtain ⟨cs', e1, e2, e3, e4⟩ := setCells_blk vs.toList 0 w cs hb
    have e : cs' = vs := by
      apply Array.ext_getElem?
      intro i
      by_cases hi : i < cs.size
      · rw [e3 i hi, if_pos (by simp; omega)]
        simp
      · rw [Array.getElem?_eq_none (by omega), Array.getElem?_eq_none (by omega)]
    subst e
    exact h _ e1 e4

theorem step_store_tcp {ops : Array Oper} {op : Oper} {a : Act} {w : World} {K : Act → World → Prop} {Q : Exit → Act → World → Prop} {E : Prop} (hgd : op.guard = none) (x y : Operand) (ho : op.op = .store 27 x y)
    (g : Nat) (cs vs : Array Value) (hx : a.eval x = .pointer (some ⟨g, 0, none⟩)) (hy : a.eval y = .agg vs) (hb : TcpAt w g cs) (hs : cs.size = 16) (hv : vs.size = 16) (h1 : vs.all (·.oneCell') = true)
    (h : ∀ w', TcpAt w' g vs → w.grownBy w' (some g) → K (a.put op.dst undef) w') : if Region.wanted op (yielded ops a.tmps) = true then Oper.wp Try.prog op a w K Q else E := by
  rw [if_pos (by simp [Region.wanted, hgd])]
  refine wp_store_mid 27 x y ho g 0 vs hx hy (fun j hj => ?_) (by rw [tcp_size, hv]) h1 ?_
  · rw [Nat.zero_add]
    exact ⟨by rw [blk_cell hb j]; simp [hs]; omega, blk_free hb j⟩
  · obtain ⟨cs', e1, e2, e3, e4⟩ := setCells_blk vs.toList 0 w cs hb
    have e : cs' = vs := by
      apply Array.ext_getElem?
      intro i
      by_cases hi : i < cs.size
      · rw [e3 i hi, if_pos (by simp; omega)]
        simp
      · rw [Array.getElem?_eq_none (by omega), Array.getElem?_eq_none (by omega)]
    subst e
    exact h _ e1 e4

/-- Results of which the first lies in a box: a segment, and a number. -/
theorem results_tcp {fn : Func} (hr : fn.results = #[.cell 6 27, .tmp 7]) (tmps : Array Value) (w : World) (g : Nat) (cs : Array Value) (v : Value) (h6 : tmps.getD 6 undef = .pointer (some ⟨g, 0, none⟩)) (h7 : tmps.getD 7 undef = v) (hb : TcpAt w g cs) (hs : cs.size = 16) :
    (results fn tmps).run Try.prog w = .ok (.tuple #[.agg cs, v]) w := by
  have hl := run_loadVar_mid (P := Try.prog) w g 0 27 cs.toList _ hb.range Try.underlying27 rfl (by rw [tcp_size]; simp [hs])
  rw [Array.getD_eq_getD_getElem?] at h6 h7
  rw [Array.toArray_toList] at hl
  simp [results, hr, h6, h7, asAddr, hl]
end Go.Proofs.Ytgmgoilleakdcaa
