/- A thing of m cells stored into a row of one's own. -/
import Derived.Test.YthbiadhnlomhmaaGOwn
import Derived.Test.YthbiadhnlomhmaaGMid
namespace Go.Proofs.Ythbiadhnlomhmaa
open Go.RowKit
section
variable {α : Type} {m : Nat} {cells : α → List Value} {e : TypeId} {B g cap : Nat} {xs : List α} {w : World}
theorem flat_set (E : Enc m cells) (x : α) : ∀ (xs : List α) (i : Nat), i < xs.length → ∀ k, ((xs.set i x).flatMap cells)[k]? = if i * m ≤ k ∧ k < i * m + m then (cells x)[k - i * m]? else (xs.flatMap cells)[k]?
  | [], i, hi, k => by simp at hi
  | y :: r, 0, _, k => by
    rw [List.set_cons_zero, List.flatMap_cons, List.flatMap_cons, Nat.zero_mul, Nat.zero_add]
    by_cases hk : k < m
    · rw [if_pos ⟨by omega, hk⟩, List.getElem?_append_left (by rw [E.len]; exact hk)]; rfl
    · rw [if_neg (by omega), List.getElem?_append_right (by rw [E.len]; omega), List.getElem?_append_right (by rw [E.len]; omega), E.len, E.len]
  | y :: r, i + 1, hi, k => by
    rw [List.set_cons_succ, List.flatMap_cons, List.flatMap_cons, Nat.succ_mul]
    by_cases hk : k < m
    · rw [if_neg (by omega), List.getElem?_append_left (by rw [E.len]; exact hk), List.getElem?_append_left (by rw [E.len]; exact hk)]
    · rw [List.getElem?_append_right (by rw [E.len]; omega), List.getElem?_append_right (by rw [E.len]; omega), E.len, flat_set E x r i (by simpa using hi) (k - m)]
      by_cases h2 : i * m ≤ k - m ∧ k - m < i * m + m
      · rw [if_pos h2, if_pos (by omega)]; congr 1; omega
      · rw [if_neg h2, if_neg (by omega)]
theorem OwnR.setAt (E : Enc m cells) (O : OwnR e m cells B (some ⟨g, 0, none⟩) xs cap w) {i : Nat} (hi : i < xs.length) (x : α) : OwnR e m cells B (some ⟨g, 0, none⟩) (xs.set i x) cap (w.setCells g (i * m) (cells x)) ∧ w.grownBy (w.setCells g (i * m) (cells x)) (some g) := by
  rcases O with ⟨h, _⟩ | ⟨g', h, hB, hl, ⟨h0, _⟩ | ⟨g2, cap', cur, h', hB', hb, hc, hm, hs, ht⟩⟩
  · cases h
  · cases h0
  · cases h
    cases h'
    obtain ⟨cs', h1, h2, h3, h4⟩ := setCells_b (cells x) (i * m) w cur hb
    have hbd : i * m + m ≤ xs.length * m := by rw [← Nat.succ_mul]; exact Nat.mul_le_mul_right _ hi
    have hbc : xs.length * m ≤ cap * m := Nat.mul_le_mul_right _ hc
    refine ⟨.inr ⟨g, rfl, hB, by rw [flat_len E, List.length_set], .inr ⟨g, cap, cs', by rw [List.length_set], hB, h1, by rw [List.length_set]; exact hc, hm, by rw [h2]; exact hs, ?_⟩⟩, h4⟩
    apply List.ext_getElem?
    intro k
    rw [flat_set E x xs i hi k, List.length_set]
    by_cases hk : k < xs.length * m
    · rw [List.getElem?_take_of_lt hk, Array.getElem?_toList, h3 k (by omega), E.len]
      by_cases h5 : i * m ≤ k ∧ k < i * m + m
      · rw [if_pos h5, if_pos h5]
      · rw [if_neg h5, if_neg h5, ← ht, List.getElem?_take_of_lt hk, Array.getElem?_toList]
    · rw [if_neg (by omega), List.getElem?_eq_none (by rw [List.length_take]; omega), List.getElem?_eq_none (by rw [flat_len E]; omega)]
/-- Where one of them lies. -/
theorem OwnR.there (O : OwnR e m cells B (some ⟨g, 0, none⟩) xs cap w) {i : Nat} (hi : i < xs.length) : w.there g (i * m) m := by
  rcases O with ⟨h, _⟩ | ⟨g', h, hB, hl, ⟨h0, _⟩ | ⟨g2, cap', cur, h', hB', hb, hc, hm, hs, ht⟩⟩
  · cases h
  · cases h0
  · cases h
    cases h'
    have hbd : i * m + m ≤ xs.length * m := by rw [← Nat.succ_mul]; exact Nat.mul_le_mul_right _ hi
    have hbc : xs.length * m ≤ cap * m := Nat.mul_le_mul_right _ hc
    intro j hj
    exact ⟨by rw [blk_cell hb]; simp; omega, blk_free hb _⟩
theorem step_store_at (E : Enc m cells) (R : Row e m) {ops : Array Oper} {op : Oper} {a : Act} {K : Act → World → Prop} {Q : Exit → Act → World → Prop} {E0 : Prop} (hgd : op.guard = none) (x y : Operand) (ho : op.op = .store e x y)
    (i : Nat) (v : α) (O : OwnR e m cells B (some ⟨g, 0, none⟩) xs cap w) (hi : i < xs.length) (hx : a.eval x = .pointer (some ⟨g, i * m, none⟩)) (hy : a.eval y = .agg (cells v).toArray)
    (h : ∀ w', OwnR e m cells B (some ⟨g, 0, none⟩) (xs.set i v) cap w' → w.grownBy w' (some g) → K (a.put op.dst undef) w') : if Region.wanted op (yielded ops a.tmps) = true then Oper.wp Try.prog op a w K Q else E0 := by
  rw [if_pos (by simp [Region.wanted, hgd])]
  have hone : (cells v).toArray.all (·.oneCell') = true := by
    rw [List.all_toArray, List.all_eq_true]
    exact fun u hu => E.one v u hu
  refine wp_store_mid e x y ho g (i * m) (cells v).toArray hx hy (by have := O.there hi; simpa [E.len] using this) (by rw [R.size]; simp [E.len]) hone ?_
  obtain ⟨h1, h2⟩ := O.setAt E hi v
  exact h _ (by simpa using h1) (by simpa using h2)
theorem wpList_store_at (E : Enc m cells) (R : Row e m) {ops : Array Oper} {rest : List Oper} {op : Oper} {a : Act} {Q : Exit → Act → World → Prop} (hgd : op.guard = none) (x y : Operand) (ho : op.op = .store e x y)
    (i : Nat) (v : α) (O : OwnR e m cells B (some ⟨g, 0, none⟩) xs cap w) (hi : i < xs.length) (hx : a.eval x = .pointer (some ⟨g, i * m, none⟩)) (hy : a.eval y = .agg (cells v).toArray)
    (h : ∀ w', OwnR e m cells B (some ⟨g, 0, none⟩) (xs.set i v) cap w' → w.grownBy w' (some g) → wpList Try.prog ops Q rest (a.put op.dst undef) w') : wpList Try.prog ops Q (op :: rest) a w := by
  have hone : (cells v).toArray.all (·.oneCell') = true := by
    rw [List.all_toArray, List.all_eq_true]
    exact fun u hu => E.one v u hu
  refine wpList_store_mid hgd e x y ho g (i * m) (cells v).toArray hx hy (by have := O.there hi; simpa [E.len] using this) (by rw [R.size]; simp [E.len]) hone ?_
  obtain ⟨h1, h2⟩ := O.setAt E hi v
  exact h _ (by simpa using h1) (by simpa using h2)
end
end Go.Proofs.Ythbiadhnlomhmaa
