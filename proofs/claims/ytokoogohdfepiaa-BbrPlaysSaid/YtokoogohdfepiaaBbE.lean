/- Bbr: slices.IndexFunc and DeleteFunc over the closure. -/
import Derived.Test.YtokoogohdfepiaaBbD
namespace Go.Proofs.Ytokoogohdfepiaa
open Go.RowKit

theorem flat_set (xs : List Pair23) (i : Nat) (p : Pair23) (hi : i < xs.length) : ((xs.flatMap PC).set (i * 2) (.int .i64 p.round)).set (i * 2 + 1) (.int .i64 p.rate) = (xs.set i p).flatMap PC := by
  induction xs generalizing i with
  | nil => simp at hi
  | cons y ys ih =>
    cases i with
    | zero => simp [List.flatMap_cons, Pair23.cells]
    | succ i =>
      have h := ih i (by simpa using hi)
      have e1 : (i + 1) * 2 = i * 2 + 1 + 1 := by omega
      have e2 : i * 2 + 1 + 1 + 1 = i * 2 + 1 + 1 + 1 := rfl
      rw [List.set_cons_succ, List.flatMap_cons, List.flatMap_cons, ← h, e1]
      simp [Pair23.cells]
theorem flat_take (xs : List Pair23) (k : Nat) : (xs.take k).flatMap PC = (xs.flatMap PC).take (k * 2) := by
  induction xs generalizing k with
  | nil => simp
  | cons y ys ih =>
    cases k with
    | zero => simp
    | succ k =>
      rw [List.take_succ_cons, List.flatMap_cons, List.flatMap_cons, ih k, show (k + 1) * 2 = k * 2 + 1 + 1 by omega]
      simp [Pair23.cells]
theorem OwnR.setP {e : TypeId} {B g cap : Nat} {xs : List Pair23} {w : World} (h : OwnR e 2 PC B (some ⟨g, 0, none⟩) xs cap w) (i : Nat) (p : Pair23) (hi : i < xs.length) :
    OwnR e 2 PC B (some ⟨g, 0, none⟩) (xs.set i p) cap ((w.setCell ⟨g, i * 2, none⟩ (.int .i64 p.round)).setCell ⟨g, i * 2 + 1, none⟩ (.int .i64 p.rate)) ∧ w.grownBy ((w.setCell ⟨g, i * 2, none⟩ (.int .i64 p.round)).setCell ⟨g, i * 2 + 1, none⟩ (.int .i64 p.rate)) (some g) := by
  rcases h with ⟨h, _⟩ | ⟨g', e', hB, hr⟩
  · cases h
  · cases e'
    have h1 := hr.stored (i * 2) (.int .i64 p.round)
    have h2 := h1.1.stored (i * 2 + 1) (.int .i64 p.rate)
    rw [flat_set xs i p hi] at h2
    refine ⟨.inr ⟨g, rfl, hB, ?_⟩, gr_trans h1.2 h2.2⟩
    rw [List.length_set]; exact h2.1
theorem OwnR.frozenP {e : TypeId} {B g cap : Nat} {xs : List Pair23} {w : World} (h : OwnR e 2 PC B (some ⟨g, 0, none⟩) xs cap w) (i : Nat) : w.frozen? ⟨g, i, none⟩ = false := by
  rcases h with ⟨h, _⟩ | ⟨g', e', hB, hr⟩
  · cases h
  · cases e'; exact hr.frozenAt i
theorem zero_pair : (zeroValue 36).run Try.prog = fun w => .ok (.agg #[.int .i64 0, .int .i64 0]) w := by
  obtain ⟨i0, hi, hz0, hz1, hz2⟩ := info_parts elemB.inf
  funext w
  simp [zeroValue, typeInfo, hi, hz0]
theorem OwnR.cleared {B g cap n i : Nat} {xs : List Pair23} {w : World} (h : OwnR 36 2 PC B (some ⟨g, 0, none⟩) xs cap w) (hn : n = xs.length) (hi : i < n) :
    ∃ w', (∀ ty c, (Builtin.clear_ #[23] ty #[.slice (some ⟨g, i * 2, none⟩) (n - i) c]).run Try.prog w = .ok (.tuple #[]) w') ∧ OwnR 36 2 PC B (some ⟨g, 0, none⟩) (xs.take i) cap w' ∧ w.grownBy w' (some g) := by
  subst hn
  rcases h with ⟨h, _⟩ | ⟨g', e', hB, hr⟩
  · cases h
  · cases e'
    rcases hr.2 with ⟨h0, _⟩ | ⟨g', cap', cur, e, h1, hg, h3, h4, h5, h6⟩
    · cases h0
    · have e2 := e
      simp only [Value.slice.injEq, Option.some.injEq, Addr.mk.injEq] at e2
      obtain ⟨⟨rfl, _, _⟩, _, rfl⟩ := e2
      have hzc : (Builtin.zeroCells (Value.agg #[.int .i64 0, .int .i64 0]).cells (xs.length - i)).toList = List.replicate ((xs.length - i) * 2) (.int .i64 0) := by
        apply List.ext_getElem
        · simp [Builtin.zeroCells, Value.cells]
        · intro k hk1 hk2
          simp [Builtin.zeroCells, Value.cells]
          have : k % 2 = 0 ∨ k % 2 = 1 := by omega
          rcases this with h | h <;> simp [h]
      have hst := run_storeCells_at Try.prog g (i * 2) 36 (List.replicate ((xs.length - i) * 2) (.int .i64 0)) 0 cur w hg (by rw [List.length_replicate, h5]; omega) (by intro v hv; rw [List.eq_of_mem_replicate hv]; rfl)
      simp only [Nat.add_zero] at hst
      obtain ⟨m, hm⟩ : ∃ m, xs.length - i = m + 1 := ⟨xs.length - i - 1, by omega⟩
      refine ⟨w.setRow g (cur.toList.take (i * 2) ++ List.replicate ((xs.length - i) * 2) (Value.int .i64 0) ++ cur.toList.drop (i * 2 + (List.replicate ((xs.length - i) * 2) (Value.int .i64 0)).length)).toArray, fun ty c => ?_, .inr ⟨g, rfl, hB, ?_, .inr ⟨g, cap, _, rfl, h1, setRow_heap w g cur _ _ _ hg, by rw [List.length_take]; omega, h4, ?_, ?_⟩⟩, ⟨rfl, rfl, rfl, by simp [World.setRow], fun k _ hk => setRow_other w g k _ (fun e => hk (by rw [e]))⟩⟩
      · have hzv : ∀ w, (zeroValue 36).run Try.prog w = .ok (.agg #[.int .i64 0, .int .i64 0]) w := fun w => congrFun zero_pair w
        rw [hm] at hzc hst ⊢
        simp [Builtin.clear_, run_underlying Try.underlying23, hzv, hzc, hst]
      · exact flat_len encP _
      · simp only [List.size_toArray, List.length_append, List.length_take, List.length_drop, List.length_replicate, Array.length_toList]; omega
      · show List.take _ (_ ++ _ ++ _) = _
        rw [flat_take, List.length_take, Nat.min_eq_left (by omega), List.append_assoc, List.take_append_of_le_length (by rw [List.length_take, Array.length_toList]; omega), List.take_take, Nat.min_self, ← h6, List.take_take, Nat.min_eq_left (by omega)]
end Go.Proofs.Ytokoogohdfepiaa
