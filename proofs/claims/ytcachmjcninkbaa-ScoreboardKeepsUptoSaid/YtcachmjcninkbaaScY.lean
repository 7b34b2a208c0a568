/- Scoreboard: the mathematics of the document's own way: who has an octet, what lies behind it. -/
import Derived.Test.YtcachmjcninkbaaScL
import Derived.Test.YtcachmjcninkbaaScX
namespace Go.Proofs.Ytcachmjcninkbaa

theorem has_pl {u a b y : Nat} (ha : a < 4294967296) (h1 : pl u a < pl u b) : (pl a y < pl a b) ↔ (pl u a ≤ pl u y ∧ pl u y < pl u b) := by
  unfold pl at *; omega
theorem pl_sub {u a b : Nat} (ha : a < 4294967296) (h1 : pl u a < pl u b) : pl a b = pl u b - pl u a := by
  unfold pl at *; omega
theorem okL_mem {st : Nat} : ∀ (l : List (Nat × Nat)) (e : Nat), okL st e l = true → ∀ x ∈ l, e < x.1 ∧ x.1 < x.2 ∧ x.2 ≤ st
  | [], _, _, x, h => by cases h
  | y :: l, e, h, x, hx => by
    obtain ⟨h1, h2, h3, h4⟩ := okL_cons.1 h
    rcases List.mem_cons.1 hx with rfl | hx
    · exact ⟨h1, h2, h3⟩
    · have := okL_mem l y.2 h4 x hx
      exact ⟨by omega, this.2⟩
/-- Does a span have the octet? -/
def hasB (p : Nat) (l : List (Nat × Nat)) : Bool := l.any fun x => decide (x.1 ≤ p) && decide (p < x.2)
theorem hasB_snoc (p : Nat) (l : List (Nat × Nat)) (x : Nat × Nat) : hasB p (l ++ [x]) = (hasB p l || (decide (x.1 ≤ p) && decide (p < x.2))) := by
  unfold hasB; rw [List.any_append]; simp
/-- How many begin behind the octet, and what they have. -/
def aftN (p : Nat) : List (Nat × Nat) → Nat
  | [] => 0
  | x :: l => (if p < x.1 then 1 else 0) + aftN p l
def aftO (p : Nat) : List (Nat × Nat) → Nat
  | [] => 0
  | x :: l => (if p < x.1 then x.2 - x.1 else 0) + aftO p l
theorem aftN_snoc (p : Nat) (l : List (Nat × Nat)) (x : Nat × Nat) : aftN p (l ++ [x]) = aftN p l + (if p < x.1 then 1 else 0) := by
  induction l with
  | nil => simp [aftN]
  | cons y l ih => simp only [List.cons_append, aftN, ih]; omega
theorem aftO_snoc (p : Nat) (l : List (Nat × Nat)) (x : Nat × Nat) : aftO p (l ++ [x]) = aftO p l + (if p < x.1 then x.2 - x.1 else 0) := by
  induction l with
  | nil => simp [aftO]
  | cons y l ih => simp only [List.cons_append, aftO, ih]; omega
def lostP (mss : Int) (p : Nat) (l : List (Nat × Nat)) : Bool := decide (3 ≤ aftN p l) || decide (2 * mss < (aftO p l : Int))
theorem aft_all {st : Nat} : ∀ (l : List (Nat × Nat)) (e p : Nat), okL st e l = true → p ≤ e → aftN p l = l.length ∧ (aftO p l : Int) = oct l ∧ hasB p l = false
  | [], _, _, _, _ => ⟨rfl, rfl, rfl⟩
  | x :: l, e, p, h, hp => by
    obtain ⟨h1, h2, h3, h4⟩ := okL_cons.1 h
    obtain ⟨a1, a2, a3⟩ := aft_all l x.2 p h4 (by omega)
    have hpx : p < x.1 := by omega
    refine ⟨?_, ?_, ?_⟩
    · simp only [aftN, if_pos hpx, a1, List.length_cons]; omega
    · simp only [aftO, if_pos hpx, oct]; omega
    · unfold hasB at a3 ⊢
      rw [List.any_cons, a3, decide_eq_false (show ¬ x.1 ≤ p by omega)]; rfl
theorem hol_lo {st : Nat} : ∀ (l : List (Nat × Nat)) (e : Nat), okL st e l = true → ∀ h ∈ hol st e l, e ≤ h.l
  | [], e, _, h, hh => by
    simp only [hol, List.mem_singleton] at hh
    subst hh
    exact Nat.le_refl _
  | x :: l, e, hk, h, hh => by
    obtain ⟨k1, k2, k3, k4⟩ := okL_cons.1 hk
    simp only [hol, List.mem_cons] at hh
    rcases hh with rfl | hh
    · exact Nat.le_refl _
    · have := hol_lo l x.2 k4 h hh
      omega
/-- Of each hole: what begins behind an octet of it is what the hole tells. -/
theorem hol_aft {st : Nat} : ∀ (l : List (Nat × Nat)) (e p : Nat), okL st e l = true → e ≤ p → p < st → ∀ h ∈ hol st e l, h.l ≤ p → (p < h.r ∨ h.b = 0) → (aftN p l = h.b ∧ (aftO p l : Int) = h.o ∧ hasB p l = false)
  | [], _, _, _, _, _, h, hh, _, _ => by
    simp only [hol, List.mem_singleton] at hh
    subst hh
    exact ⟨rfl, rfl, rfl⟩
  | x :: l, e, p, hk, he, hp, h, hh, h1, h2 => by
    obtain ⟨k1, k2, k3, k4⟩ := okL_cons.1 hk
    simp only [hol, List.mem_cons] at hh
    rcases hh with rfl | hh
    · have hpx : p < x.1 := by rcases h2 with h2 | h2; exact h2; exact absurd h2 (Nat.succ_ne_zero _)
      obtain ⟨a1, a2, a3⟩ := aft_all l x.2 p k4 (by omega)
      refine ⟨?_, ?_, ?_⟩
      · simp only [aftN, if_pos hpx, a1]; omega
      · simp only [aftO, if_pos hpx, oct]; omega
      · unfold hasB at a3 ⊢
        rw [List.any_cons, a3, decide_eq_false (show ¬ x.1 ≤ p by omega)]; rfl
    · have hl : x.2 ≤ h.l := (hol_lo l x.2 k4 h hh)
      obtain ⟨a1, a2, a3⟩ := hol_aft l x.2 p k4 (by omega) hp h hh h1 h2
      have hpx : ¬ p < x.1 := by omega
      refine ⟨?_, ?_, ?_⟩
      · simp only [aftN, if_neg hpx, a1]; omega
      · simp only [aftO, if_neg hpx]; omega
      · unfold hasB at a3 ⊢
        rw [List.any_cons, a3, decide_eq_false (show ¬ p < x.2 by omega)]; simp
theorem lostP_hol {st : Nat} {l : List (Nat × Nat)} {e p : Nat} (mss : Int) (hk : okL st e l = true) (he : e ≤ p) (hp : p < st) {h : Hole} (hh : h ∈ hol st e l) (h1 : h.l ≤ p) (h2 : p < h.r ∨ h.b = 0) : lostP mss p l = lostB mss h := by
  obtain ⟨a1, a2, _⟩ := hol_aft l e p hk he hp h hh h1 h2
  unfold lostP lostB
  rw [a1, a2]
  congr 1
  rw [decide_eq_decide]; omega
/-- No hole has an octet that lies ahead. -/
theorem find_ahead {st : Nat} {l : List (Nat × Nat)} {e p : Nat} (hk : okL st e l = true) (hp : p < e) : (hol st e l).find? (lostF p) = none := by
  rw [List.find?_eq_none]
  intro h hh
  have := hol_lo l e hk h hh
  unfold lostF
  rw [decide_eq_false (show ¬ h.l ≤ p by omega)]; simp
/-- An octet is in a block, or in a hole. -/
theorem find_or {st : Nat} : ∀ (l : List (Nat × Nat)) (e p : Nat), okL st e l = true → e ≤ p → p < st → (hasB p l = true ∧ (hol st e l).find? (lostF p) = none) ∨ ∃ h, (hol st e l).find? (lostF p) = some h
  | [], e, p, _, he, hp => by
    right
    refine ⟨⟨e, st, 0, 0⟩, ?_⟩
    simp only [hol, List.find?_cons, lostF, decide_eq_true he, decide_eq_true hp, Bool.and_self]
  | x :: l, e, p, hk, he, hp => by
    obtain ⟨k1, k2, k3, k4⟩ := okL_cons.1 hk
    by_cases c1 : p < x.1
    · right
      refine ⟨⟨e, x.1, l.length + 1, oct (x :: l)⟩, ?_⟩
      simp only [hol, List.find?_cons, lostF, decide_eq_true he, decide_eq_true c1, Bool.and_self]
    · have hf : lostF p ⟨e, x.1, l.length + 1, oct (x :: l)⟩ = false := by unfold lostF; rw [decide_eq_false c1]; simp
      by_cases c2 : p < x.2
      · left
        constructor
        · unfold hasB; rw [List.any_cons, decide_eq_true (show x.1 ≤ p by omega), decide_eq_true c2]; rfl
        · simp only [hol, List.find?_cons, hf]
          exact find_ahead k4 c2
      · rcases find_or l x.2 p k4 (by omega) hp with ⟨a1, a2⟩ | ⟨h, hh⟩
        · left
          constructor
          · unfold hasB at a1 ⊢; rw [List.any_cons, a1]; simp
          · simp only [hol, List.find?_cons, hf]; exact a2
        · right
          refine ⟨h, ?_⟩
          simp only [hol, List.find?_cons, hf]; exact hh
/-- Lost, on either side. -/
theorem lost_is {st : Nat} {l : List (Nat × Nat)} {p : Nat} (mss : Int) (hk : okL st 0 l = true) (hp : p < st) : lsB mss p (hol st 0 l) = (!hasB p l && lostP mss p l) := by
  unfold lsB
  rcases find_or l 0 p hk (Nat.zero_le _) hp with ⟨a1, a2⟩ | ⟨h, hh⟩
  · rw [a1, a2]; rfl
  · have hm := List.mem_of_find?_eq_some hh
    have hs := List.find?_some hh
    unfold lostF at hs
    rw [Bool.and_eq_true, decide_eq_true_eq, decide_eq_true_eq] at hs
    have hb := (hol_aft l 0 p hk (Nat.zero_le _) hp h hm hs.1 (.inl hs.2)).2.2
    have hl := lostP_hol mss hk (Nat.zero_le _) hp hm hs.1 (.inl hs.2)
    rw [hh, hb, hl]; rfl
end Go.Proofs.Ytcachmjcninkbaa
