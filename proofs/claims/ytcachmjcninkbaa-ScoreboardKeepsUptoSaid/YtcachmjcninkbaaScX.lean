/- Scoreboard: the first octet to be sent again is what Next tells: the mathematics. -/
import Derived.Test.YtcachmjcninkbaaScL
namespace Go.Proofs.Ytcachmjcninkbaa

/-- Where the last span begins. -/
def lastL : List (Nat × Nat) → Nat
  | [] => 0
  | [x] => x.1
  | _ :: y :: l => lastL (y :: l)
theorem lastL_cons {x : Nat × Nat} {l : List (Nat × Nat)} (h : l ≠ []) : lastL (x :: l) = lastL l := by
  cases l with
  | nil => exact absurd rfl h
  | cons y l => rfl
theorem lastL_get : ∀ (l : List (Nat × Nat)) (x : Nat × Nat), l[l.length - 1]? = some x → lastL l = x.1
  | [], _, h => by simp at h
  | [y], x, h => by simp at h; rw [← h]; rfl
  | y :: z :: l, x, h => by
    have h2 : (z :: l)[(z :: l).length - 1]? = some x := by simpa using h
    exact lastL_get (z :: l) x h2
theorem first_le {st e : Nat} : ∀ (l : List (Nat × Nat)) (x : Nat × Nat), okL st e (x :: l) = true → x.1 ≤ lastL (x :: l) ∧ lastL (x :: l) ≤ st
  | [], x, h => by
    obtain ⟨h1, h2, h3, _⟩ := okL_cons.1 h
    exact ⟨Nat.le_refl _, by show x.1 ≤ st; omega⟩
  | y :: l, x, h => by
    obtain ⟨h1, h2, h3, h4⟩ := okL_cons.1 h
    obtain ⟨k1, _, _, _⟩ := okL_cons.1 h4
    have := first_le l y h4
    rw [lastL_cons (by simp)]
    exact ⟨by omega, this.2⟩
theorem lastL_le {st e : Nat} {l : List (Nat × Nat)} (h : okL st e l = true) : lastL l ≤ st := by
  cases l with
  | nil => exact Nat.zero_le _
  | cons x l => exact (first_le l x h).2
/-- Nothing of a rising list is met ahead of its first. -/
theorem ins_low {st : Nat} : ∀ (l : List (Nat × Nat)) (e p q : Nat), okL st e l = true → (∀ x, l.head? = some x → q ≤ x.1) → insB l p q = false
  | [], _, _, _, _, _ => rfl
  | x :: l, e, p, q, h, hq => by
    obtain ⟨h1, h2, h3, h4⟩ := okL_cons.1 h
    have hx := hq x rfl
    have ih := ins_low l x.2 p q h4 (fun y hy => by
      cases l with
      | nil => cases hy
      | cons z l => cases hy; have := (okL_cons.1 h4).1; omega)
    unfold insB at ih ⊢
    rw [List.any_cons, ih, decide_eq_false (show ¬ x.1 < q by omega)]
    simp
theorem ins_cons (x : Nat × Nat) (l : List (Nat × Nat)) (p q : Nat) : insB (x :: l) p q = ((decide (p < x.2) && decide (x.1 < q)) || insB l p q) := by unfold insB; rw [List.any_cons]
/-- Is an octet passed over? -/
def passed (mss : Int) (rs : Bool) (l : List (Nat × Nat)) (hs : List Hole) (i : Nat) : Prop := insB l i (i + 1) = true ∨ (rs = false ∧ lsB mss i hs = false)
structure NextIs (mss : Int) (hi : Nat) (rs : Bool) (e : Nat) (l : List (Nat × Nat)) (hs : List Hole) (h : Hole) : Prop where
  lo : e ≤ h.l
  room : max h.l hi < h.r
  free : insB l (max h.l hi) (max h.l hi + 1) = false
  is : hs.find? (lostF (max h.l hi)) = some h
  may : rs = true ∨ lostB mss h = true
  last : max h.l hi < lastL l
  past : ∀ i, e ≤ i → hi ≤ i → i < max h.l hi → passed mss rs l hs i
  alone : ∀ r, r ≤ h.r → insB l (max h.l hi) r = false
  next : insB l h.r (h.r + 1) = true
theorem next_is (mss : Int) (hi : Nat) (rs : Bool) {st : Nat} : ∀ (l : List (Nat × Nat)) (e : Nat), okL st e l = true →
    ((hol st e l).find? (nextF mss hi rs) = none → ∀ i, e ≤ i → hi ≤ i → i < lastL l → passed mss rs l (hol st e l) i) ∧
    (∀ h, (hol st e l).find? (nextF mss hi rs) = some h → NextIs mss hi rs e l (hol st e l) h)
  | [], e, _ => by
    have h0 : nextF mss hi rs ⟨e, st, 0, 0⟩ = false := by unfold nextF; simp
    constructor
    · intro _ i _ _ hl; exact absurd hl (Nat.not_lt_zero i)
    · intro h hh
      simp only [hol, List.find?, h0] at hh
      cases hh
  | x :: l, e, hk => by
    obtain ⟨h1, h2, h3, h4⟩ := okL_cons.1 hk
    obtain ⟨ihA, ihB⟩ := next_is mss hi rs l x.2 h4
    have hfl := first_le l x hk
    obtain ⟨h0, hh0⟩ : ∃ h0 : Hole, (⟨e, x.1, l.length + 1, oct (x :: l)⟩ : Hole) = h0 := ⟨_, rfl⟩
    have hl0 : h0.l = e := by rw [← hh0]
    have hr0 : h0.r = x.1 := by rw [← hh0]
    have hb0 : 0 < h0.b := by rw [← hh0]; exact Nat.succ_pos _
    have hH : hol st e (x :: l) = h0 :: hol st x.2 l := by rw [← hh0]; rfl
    rw [hH]
    have low : ∀ p q, q ≤ x.1 → insB (x :: l) p q = false := fun p q hq => ins_low (x :: l) e p q hk (fun y hy => by cases hy; exact hq)
    have inF : ∀ i, e ≤ i → i < x.1 → (h0 :: hol st x.2 l).find? (lostF i) = some h0 := fun i he hi2 => by
      rw [List.find?_cons_of_pos]
      unfold lostF
      rw [hl0, hr0, decide_eq_true he, decide_eq_true hi2]; rfl
    have outF : ∀ i, x.1 ≤ i → (h0 :: hol st x.2 l).find? (lostF i) = (hol st x.2 l).find? (lostF i) := fun i hi2 => by
      rw [List.find?_cons_of_neg]
      unfold lostF
      rw [hr0, decide_eq_false (show ¬ i < x.1 by omega)]; simp
    have outI : ∀ i q, x.2 ≤ i → insB (x :: l) i q = insB l i q := fun i q hi2 => by
      rw [ins_cons, decide_eq_false (show ¬ i < x.2 by omega)]; rfl
    have outL : ∀ i, x.2 ≤ i → lsB mss i (h0 :: hol st x.2 l) = lsB mss i (hol st x.2 l) := fun i hi2 => by unfold lsB; rw [outF i (by omega)]
    have hlast : ∀ i, x.2 ≤ i → i < lastL (x :: l) → i < lastL l := fun i hi2 hl => by
      cases l with
      | nil => have : lastL [x] = x.1 := rfl; omega
      | cons y l => exact hl
    by_cases hn : nextF mss hi rs h0 = true
    · have hn2 := hn
      unfold nextF at hn2
      rw [hr0] at hn2
      simp only [Bool.and_eq_true, decide_eq_true_eq, Bool.or_eq_true] at hn2
      obtain ⟨n1, _, n3⟩ := hn2
      constructor
      · intro hnone
        rw [List.find?_cons_of_pos hn] at hnone
        cases hnone
      · intro h hh
        rw [List.find?_cons_of_pos hn] at hh
        obtain rfl := Option.some.inj hh
        refine ⟨by omega, by omega, low _ _ (by omega), inF _ (by omega) (by omega), n3, by omega, fun i i1 i2 i3 => by omega, fun r hr => low _ _ (by omega), ?_⟩
        rw [hr0, ins_cons, decide_eq_true h2, decide_eq_true (Nat.lt_succ_self _)]; rfl
    · have hnf : nextF mss hi rs h0 = false := by simpa using hn
      have hdead : hi < x.1 → rs = false ∧ lostB mss h0 = false := by
        intro hlt
        unfold nextF at hnf
        rw [hr0, decide_eq_true hlt, decide_eq_true hb0] at hnf
        simpa using hnf
      have pass : ∀ i, e ≤ i → hi ≤ i → i < x.2 → passed mss rs (x :: l) (h0 :: hol st x.2 l) i := by
        intro i i1 i2 i3
        by_cases hix : i < x.1
        · obtain ⟨d1, d2⟩ := hdead (by omega)
          right
          refine ⟨d1, ?_⟩
          unfold lsB
          rw [inF i i1 hix]
          exact d2
        · left
          rw [ins_cons, decide_eq_true i3, decide_eq_true (show x.1 < i + 1 by omega)]; rfl
      have passR : ∀ i, x.2 ≤ i → passed mss rs l (hol st x.2 l) i → passed mss rs (x :: l) (h0 :: hol st x.2 l) i := by
        intro i i1 hp
        unfold passed at hp ⊢
        rw [outI i _ i1, outL i i1]; exact hp
      constructor
      · intro hnone i i1 i2 i3
        rw [List.find?_cons_of_neg (by rw [hnf]; decide)] at hnone
        by_cases hix : i < x.2
        · exact pass i i1 i2 hix
        · exact passR i (by omega) (ihA hnone i (by omega) i2 (hlast i (by omega) i3))
      · intro h hh
        rw [List.find?_cons_of_neg (by rw [hnf]; decide)] at hh
        have N := ihB h hh
        have hlo := N.lo
        refine ⟨by omega, N.room, by rw [outI _ _ (by omega)]; exact N.free, by rw [outF _ (by omega)]; exact N.is, N.may, ?_, fun i i1 i2 i3 => ?_, fun r hr => by rw [outI _ _ (by omega)]; exact N.alone r hr, ?_⟩
        · cases l with
          | nil => have := N.last; exact absurd this (Nat.not_lt_zero _)
          | cons y l => exact N.last
        · by_cases hix : i < x.2
          · exact pass i i1 i2 hix
          · exact passR i (by omega) (N.past i (by omega) i2 i3)
        · have := N.next
          rw [ins_cons, this]; simp
end Go.Proofs.Ytcachmjcninkbaa
