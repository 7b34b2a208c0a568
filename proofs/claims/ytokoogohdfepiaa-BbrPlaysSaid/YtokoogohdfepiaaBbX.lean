/- Bbr: what a filter holds of all that was told: the greatest of the last ten rounds leads it. -/
import Derived.Test.YtokoogohdfepiaaBbK
import Derived.Test.YtokoogohdfepiaaBbL
namespace Go.Proofs.Ytokoogohdfepiaa
open Go.RowKit

def Bef (q p : Pair23) : Prop := q.round < p.round ∧ p.rate < q.rate
theorem FV.pw {l : List Pair23} (h : FV l) : l.Pairwise Bef := by
  rw [List.pairwise_iff_getElem]
  intro i j
  induction j with
  | zero => intro _ _ hij; omega
  | succ j ih =>
    intro hi hj hij
    have h1 := (h.2 (j + 1) hj l[j + 1] (List.getElem?_eq_getElem hj)).2 l[j] (by omega) (by rw [Nat.add_sub_cancel]; exact List.getElem?_eq_getElem (by omega))
    by_cases e : i = j
    · subst e; exact h1
    · have h2 := ih hi (by omega) (by omega)
      exact ⟨by have := h2.1; omega, by have := h2.2; omega⟩
theorem FV.okm {l : List Pair23} (h : FV l) {p : Pair23} (hp : p ∈ l) : okP p := by
  obtain ⟨i, hi⟩ := List.getElem?_of_mem hp
  exact (h.2 i (List.getElem?_eq_some_iff.1 hi).1 p hi).1
theorem FV.of_pw {l : List Pair23} (h : l.length ≤ 10) (ho : ∀ p ∈ l, okP p) (hp : l.Pairwise Bef) : FV l := by
  refine ⟨h, fun i hi p hp' => ⟨ho p (List.mem_of_getElem? hp'), fun q h0 hq => ?_⟩⟩
  obtain ⟨h1, e1⟩ := List.getElem?_eq_some_iff.1 hp'
  obtain ⟨h2, e2⟩ := List.getElem?_eq_some_iff.1 hq
  have := (List.pairwise_iff_getElem.1 hp) (i - 1) i h2 h1 (by omega)
  rw [e1, e2] at this
  exact this
theorem len_le {hi : Int} {l : List Pair23} (hp : l.Pairwise Bef) : ∀ {lo : Int}, lo ≤ hi → (∀ p ∈ l, lo < p.round ∧ p.round ≤ hi) → (l.length : Int) ≤ hi - lo := by
  induction l with
  | nil => intro lo h _; simp; omega
  | cons p l ih =>
    intro lo h hm
    rw [List.pairwise_cons] at hp
    have h1 := hm p List.mem_cons_self
    have := ih hp.2 (lo := p.round) h1.2 (fun q hq => ⟨(hp.1 q hq).1, (hm q (List.mem_cons_of_mem _ hq)).2⟩)
    rw [List.length_cons]
    omega
theorem pw_last {l : List Pair23} (hp : l.Pairwise Bef) : ∀ x ∈ l, x.round ≤ lastR l := by
  intro x hx
  obtain ⟨i, hi⟩ := List.getElem?_of_mem hx
  obtain ⟨h1, e1⟩ := List.getElem?_eq_some_iff.1 hi
  obtain ⟨k, hk⟩ : ∃ k, l.length = k + 1 := ⟨l.length - 1, by omega⟩
  rw [lastR_at hk (List.getElem?_eq_getElem (by omega : k < l.length))]
  by_cases e : i = k
  · subst e; rw [e1]; exact Int.le_refl _
  · have := (List.pairwise_iff_getElem.1 hp i k h1 (by omega) (by omega)).1
    rw [e1] at this; omega
theorem left_is {R r : Int} {l : List Pair23} {x : Pair23} : x ∈ left R r l ↔ x ∈ l ∧ r < x.rate ∧ R - 10 < x.round := by
  unfold left
  rw [List.mem_filter]
  simp only [dl, Bool.not_eq_true', Bool.or_eq_false_iff, decide_eq_false_iff_not]
  constructor
  · rintro ⟨h1, h2, h3⟩; exact ⟨h1, by omega, by omega⟩
  · rintro ⟨h1, h2, h3⟩; exact ⟨h1, by omega, by omega⟩
/-- The list behind a pair is a filter, its rounds of the last ten. -/
theorem filt_is {R r : Int} {l : List Pair23} (h : FV l) (ho : FOk l R r) : FV (filt R r l) ∧ (∀ x ∈ filt R r l, R - 10 < x.round ∧ x.round ≤ R) ∧ (∃ x ∈ filt R r l, x.round = R ∧ r ≤ x.rate) := by
  have hl0 := h.last0
  obtain ⟨⟨o1, o2⟩, o3⟩ := ho
  have hpw : (left R r l).Pairwise Bef := h.pw.filter _
  have hR : ∀ x ∈ left R r l, R - 10 < x.round ∧ x.round ≤ R := fun x hx => by
    have h1 := left_is.1 hx
    have := pw_last h.pw x h1.1
    exact ⟨h1.2.2, by omega⟩
  by_cases hc : left R r l ≠ [] ∧ lastR (left R r l) = R
  · have e : filt R r l = left R r l := if_pos hc
    rw [e]
    have h10 := len_le hpw (lo := R - 10) (hi := R) (by omega) hR
    obtain ⟨x, hx, hxe⟩ := lastR_mem hc.1
    exact ⟨FV.of_pw (by omega) (fun p hp => h.okm (left_mem hp)) hpw, hR, x, hx, by omega, by have := (left_is.1 hx).2.1; omega⟩
  · have e : filt R r l = left R r l ++ [⟨R, r⟩] := if_neg hc
    have hlt : ∀ x ∈ left R r l, x.round < R := fun x hx => by
      have h1 := pw_last hpw x hx
      have hne : left R r l ≠ [] := List.ne_nil_of_mem hx
      obtain ⟨y, hy, hye⟩ := lastR_mem hne
      have h2 := (hR y hy).2
      have h3 : lastR (left R r l) ≠ R := fun e => hc ⟨hne, e⟩
      omega
    rw [e]
    have h10 := len_le hpw (lo := R - 10) (hi := R - 1) (by omega) (fun x hx => ⟨(hR x hx).1, by have := hlt x hx; omega⟩)
    refine ⟨FV.of_pw ?_ ?_ ?_, ?_, ⟨R, r⟩, ?_, rfl, Int.le_refl _⟩
    · rw [List.length_append, List.length_singleton]; omega
    · intro p hp
      rcases List.mem_append.1 hp with h1 | h1
      · exact h.okm (left_mem h1)
      · rw [List.mem_singleton.1 h1]; exact ⟨⟨by show 0 ≤ R; omega, o2⟩, o3⟩
    · rw [List.pairwise_append]
      refine ⟨hpw, List.pairwise_singleton _ _, fun a ha b hb => ?_⟩
      rw [List.mem_singleton.1 hb]
      exact ⟨hlt a ha, (left_is.1 ha).2.1⟩
    · intro x hx
      rcases List.mem_append.1 hx with h1 | h1
      · exact hR x h1
      · rw [List.mem_singleton.1 h1]; exact ⟨by show R - 10 < R; omega, Int.le_refl _⟩
    · exact List.mem_append.2 (Or.inr (List.mem_singleton.2 rfl))
/-- What a filter holds of all that was told. -/
structure Told (obs l : List Pair23) (now : Int) : Prop where
  fv : FV l
  last : lastR l ≤ now
  from_ : ∀ q ∈ l, q ∈ obs
  dom : ∀ p ∈ obs, (∃ q ∈ l, p.round ≤ q.round ∧ p.rate ≤ q.rate) ∨ p.round ≤ now - 10
theorem told_nil : Told [] [] 0 := ⟨⟨by simp, fun i hi => by simp at hi⟩, by decide, fun q h => (by cases h), fun p h => (by cases h)⟩
theorem Told.next {obs l : List Pair23} {now R r : Int} (h : Told obs l now) (hR : now ≤ R) (hR1 : R ≤ 1099511627776) (hr : 0 ≤ r ∧ r ≤ 1073741824) : FOk l R r ∧ Told (obs ++ [⟨R, r⟩]) (filt R r l) R := by
  have hok : FOk l R r := ⟨⟨by have := h.last; omega, hR1⟩, hr⟩
  obtain ⟨f1, f2, x, f3, f4, f5⟩ := filt_is h.fv hok
  refine ⟨hok, f1, ?_, ?_, ?_⟩
  · obtain ⟨y, hy, hye⟩ := lastR_mem (List.ne_nil_of_mem f3)
    have := (f2 y hy).2
    omega
  · intro q hq
    unfold filt at hq
    split at hq
    · exact List.mem_append.2 (Or.inl (h.from_ q (left_mem hq)))
    · rcases List.mem_append.1 hq with h1 | h1
      · exact List.mem_append.2 (Or.inl (h.from_ q (left_mem h1)))
      · exact List.mem_append.2 (Or.inr h1)
  · intro p hp
    rcases List.mem_append.1 hp with h1 | h1
    · rcases h.dom p h1 with ⟨q, hq, h2, h3⟩ | h2
      · by_cases hd : r < q.rate ∧ R - 10 < q.round
        · have hm := left_is.2 ⟨hq, hd⟩
          left
          refine ⟨q, ?_, h2, h3⟩
          unfold filt
          split
          · exact hm
          · exact List.mem_append.2 (Or.inl hm)
        · by_cases hw : q.round ≤ R - 10
          · right; omega
          · left
            have := pw_last h.fv.pw q hq
            have := h.last
            exact ⟨x, f3, by omega, by omega⟩
      · right; omega
    · left
      rw [List.mem_singleton.1 h1]
      exact ⟨x, f3, by show R ≤ x.round; omega, f5⟩
/-- The first of the filter is the greatest of the last ten rounds. -/
theorem Told.head {obs l : List Pair23} {R : Int} {p : Pair23} (h : Told obs l R) (h10 : ∀ x ∈ l, R - 10 < x.round ∧ x.round ≤ R) (hp : l[0]? = some p) {b : Int}
    (hb : ∀ x ∈ obs, R - x.round < 10 → x.rate ≤ b) (hb2 : b = 0 ∨ ∃ x ∈ obs, R - x.round < 10 ∧ x.rate = b) : p.rate = b := by
  have hm := List.mem_of_getElem? hp
  have h1 := hb p (h.from_ p hm) (by have := (h10 p hm).1; omega)
  have h0 := (h.fv.okm hm).2.1
  have hle : ∀ q ∈ l, q.rate ≤ p.rate := by
    intro q hq
    obtain ⟨i, hi⟩ := List.getElem?_of_mem hq
    obtain ⟨g1, e1⟩ := List.getElem?_eq_some_iff.1 hi
    obtain ⟨g2, e2⟩ := List.getElem?_eq_some_iff.1 hp
    by_cases e : i = 0
    · subst e; rw [← e1, ← e2]; exact Int.le_refl _
    · have := (List.pairwise_iff_getElem.1 h.fv.pw 0 i g2 g1 (by omega)).2
      rw [e1, e2] at this; omega
  rcases hb2 with h2 | ⟨x, hx, h2, h3⟩
  · omega
  · rcases h.dom x hx with ⟨q, hq, _, h5⟩ | h4
    · have := hle q hq; omega
    · omega
end Go.Proofs.Ytokoogohdfepiaa
