/- Bbr: the document's filter is the program's. -/
import Derived.Test.YtokoogohdfepiaaBbJ
namespace Go.Proofs.Ytokoogohdfepiaa
open Go.RowKit

/-- What the document keeps of a list. -/
def rk (R r : Int) (x : Pair23) : Bool := decide (r < x.rate) && decide (R - x.round < 10) && decide (x.round ≠ R)
def rkf (R r : Int) (k : Int) (x : Pair23) : Int := if x.round = R ∧ r < x.rate then x.rate else k
def rkept (R r : Int) (l : List Pair23) : Int := l.foldl (rkf R r) r
def rfilt (R r : Int) (l : List Pair23) : List Pair23 := l.filter (rk R r) ++ [⟨R, rkept R r l⟩]
theorem rkept_none {R r : Int} {l : List Pair23} (h : ∀ x ∈ l, x.round ≠ R) (k : Int) : l.foldl (rkf R r) k = k := by
  induction l generalizing k with
  | nil => rfl
  | cons x l ih =>
    rw [List.foldl_cons, ih (fun y hy => h y (List.mem_cons_of_mem _ hy))]
    unfold rkf
    rw [if_neg (fun e => h x List.mem_cons_self e.1)]
theorem rk_eq {R r : Int} {x : Pair23} (h : x.round ≠ R) : rk R r x = !dl R r x := by
  have e : rk R r x = true ↔ (!dl R r x) = true := by simp only [rk, dl, Bool.and_eq_true, decide_eq_true_eq, Bool.not_eq_true', Bool.or_eq_false_iff, decide_eq_false_iff_not]; omega
  cases h1 : rk R r x <;> cases h2 : (!dl R r x) <;> simp_all
theorem rk_left {R r : Int} {l : List Pair23} (h : ∀ x ∈ l, x.round ≠ R) : l.filter (rk R r) = left R r l := by
  unfold left
  exact List.filter_congr fun x hx => rk_eq (h x hx)
theorem lastR_mem {l : List Pair23} (h : l ≠ []) : ∃ x ∈ l, lastR l = x.round := by
  unfold lastR
  cases hx : l.getLast? with
  | none => exact absurd (List.getLast?_eq_none_iff.1 hx) h
  | some p => exact ⟨p, List.mem_of_getLast? hx, rfl⟩
theorem filt_far {R r : Int} {l : List Pair23} (h : ∀ x ∈ left R r l, x.round ≠ R) : filt R r l = left R r l ++ [⟨R, r⟩] := by
  unfold filt
  rw [if_neg]
  rintro ⟨h1, h2⟩
  obtain ⟨x, hx, e⟩ := lastR_mem h1
  exact h x hx (by rw [← e, h2])
theorem left_mem {R r : Int} {l : List Pair23} {x : Pair23} (h : x ∈ left R r l) : x ∈ l := (List.mem_filter.1 h).1
/-- The rounds of a filter rise. -/
theorem FV.rise {l : List Pair23} (h : FV l) : ∀ (j i : Nat) (p q : Pair23), i < j → l[i]? = some p → l[j]? = some q → p.round < q.round := by
  intro j
  induction j with
  | zero => intro i p q hi; omega
  | succ j ih =>
    intro i p q hi hp hq
    have hjl : j + 1 < l.length := (List.getElem?_eq_some_iff.1 hq).1
    obtain ⟨s, hs⟩ : ∃ s, l[j]? = some s := ⟨_, List.getElem?_eq_getElem (by omega)⟩
    have h1 := ((h.2 (j + 1) hjl q hq).2 s (by omega) (by rw [Nat.add_sub_cancel]; exact hs)).1
    by_cases hij : i = j
    · subst hij; rw [hs] at hp; cases hp; exact h1
    · have := ih i p s (by omega) hp hs; omega
theorem rfilt_eq {R r : Int} {l : List Pair23} (h : FV l) (hR : lastR l ≤ R) : rfilt R r l = filt R r l := by
  rcases List.eq_nil_or_concat l with rfl | ⟨init, x, rfl⟩
  · rfl
  · have hx : (init.concat x)[init.length]? = some x := by simp
    have hlast : lastR (init.concat x) = x.round := lastR_at (by simp) hx
    rw [hlast] at hR
    have hinit : ∀ y ∈ init, y.round ≠ R := by
      intro y hy
      obtain ⟨i, hi⟩ := List.getElem?_of_mem hy
      have hil := (List.getElem?_eq_some_iff.1 hi).1
      have := h.rise init.length i y x hil (by simp [List.getElem?_append_left hil, hi]) hx
      omega
    rw [List.concat_eq_append]
    have eL : left R r (init ++ [x]) = left R r init ++ (if dl R r x then [] else [x]) := by
      unfold left; rw [List.filter_append]; cases hd : dl R r x <;> simp [hd]
    have eK : rkept R r (init ++ [x]) = rkf R r r x := by unfold rkept; rw [List.foldl_append, rkept_none hinit]; rfl
    have eF : (init ++ [x]).filter (rk R r) = left R r init ++ (if rk R r x then [x] else []) := by
      rw [List.filter_append, rk_left hinit]; cases hd : rk R r x <;> simp [hd]
    have hli : ∀ y ∈ left R r init, y.round ≠ R := fun y hy => hinit y (left_mem hy)
    by_cases hxR : x.round = R
    · have hrk : rk R r x = false := by simp [rk, hxR]
      unfold rfilt
      rw [eF, eK, hrk]
      by_cases hr : r < x.rate
      · have hd : dl R r x = false := by simp only [dl, Bool.or_eq_false_iff, decide_eq_false_iff_not]; omega
        have e3 : rkf R r r x = x.rate := if_pos ⟨hxR, hr⟩
        have e4 : left R r (init ++ [x]) = left R r init ++ [x] := by rw [eL, hd]; rfl
        have e5 : lastR (left R r init ++ [x]) = R := by rw [lastR_at (k := (left R r init).length) (p := x) (by simp) (by simp), hxR]
        have e6 : filt R r (init ++ [x]) = left R r init ++ [x] := by
          unfold filt
          rw [e4, if_pos ⟨by simp, e5⟩]
        rw [e6, e3]
        simp only [Bool.false_eq_true, if_false, List.append_nil]
        rw [← hxR]
      · have hd : dl R r x = true := by simp only [dl, Bool.or_eq_true, decide_eq_true_eq]; omega
        have e3 : rkf R r r x = r := if_neg (fun e => hr e.2)
        have e4 : left R r (init ++ [x]) = left R r init := by rw [eL, hd]; simp
        rw [filt_far (by rw [e4]; exact hli), e4, e3]
        simp
    · have hrk := rk_eq (r := r) hxR
      have e3 : rkf R r r x = r := if_neg (fun e => hxR e.1)
      unfold rfilt
      rw [filt_far (fun y hy => by
        rw [eL] at hy
        rcases List.mem_append.1 hy with h1 | h1
        · exact hli y h1
        · cases hd : dl R r x <;> simp [hd] at h1
          rw [h1]; exact hxR), eF, eK, eL, e3, hrk]
      cases hd : dl R r x <;> simp
end Go.Proofs.Ytokoogohdfepiaa
