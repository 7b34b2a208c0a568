/- Scoreboard: what together makes of a rising list: the mathematics. -/
import Derived.Test.YtcachmjcninkbaaScAk
namespace Go.Proofs.Ytcachmjcninkbaa

/-- Apart from each other, each not ending ahead of its beginning. -/
def apt (l : List (Nat × Nat)) : Prop := l.Pairwise (fun x y => x.2 < y.1) ∧ ∀ x ∈ l, x.1 ≤ x.2
theorem last_split {out : List (Nat × Nat)} {y : Nat × Nat} (h : out[out.length - 1]? = some y) : ∃ ini, out = ini ++ [y] ∧ out.length - 1 = ini.length := by
  have hne : out ≠ [] := by intro e; subst e; simp at h
  refine ⟨out.dropLast, ?_, by simp⟩
  have h2 : out.getLast hne = y := by
    rw [List.getLast_eq_getElem]
    exact (List.getElem?_eq_some_iff.1 h).2
  rw [← h2]; exact (List.dropLast_concat_getLast hne).symm
theorem set_last (ini : List (Nat × Nat)) (y z : Nat × Nat) : (ini ++ [y]).set ini.length z = ini ++ [z] := by
  induction ini with
  | nil => rfl
  | cons a l ih => simp [ih]
theorem mrg_cases (out : List (Nat × Nat)) (x : Nat × Nat) : (out = [] ∧ mrg out x = [x]) ∨ ∃ ini y, out = ini ++ [y] ∧ ((x.1 ≤ y.2 ∧ mrg out x = ini ++ [(y.1, max y.2 x.2)]) ∨ (y.2 < x.1 ∧ mrg out x = ini ++ [y] ++ [x])) := by
  unfold mrg
  cases h : out[out.length - 1]? with
  | none =>
    left
    have : out = [] := by
      rcases List.eq_nil_or_concat out with h0 | ⟨l, a, rfl⟩
      · exact h0
      · simp at h
    subst this
    exact ⟨rfl, rfl⟩
  | some y =>
    right
    obtain ⟨ini, rfl, hl⟩ := last_split h
    refine ⟨ini, y, rfl, ?_⟩
    by_cases hx : x.1 ≤ y.2
    · left
      refine ⟨hx, ?_⟩
      show (if x.1 ≤ y.2 then _ else _) = _
      rw [if_pos hx, hl, set_last]
    · right
      refine ⟨by omega, ?_⟩
      show (if x.1 ≤ y.2 then _ else _) = _
      rw [if_neg hx]
theorem apt_snoc {ini : List (Nat × Nat)} {y : Nat × Nat} : apt (ini ++ [y]) ↔ apt ini ∧ (∀ a ∈ ini, a.2 < y.1) ∧ y.1 ≤ y.2 := by
  unfold apt
  rw [List.pairwise_append]
  constructor
  · rintro ⟨⟨h1, _, h2⟩, h3⟩
    exact ⟨⟨h1, fun x hx => h3 x (by simp [hx])⟩, fun a ha => h2 a ha y (by simp), h3 y (by simp)⟩
  · rintro ⟨⟨h1, h3⟩, h2, h4⟩
    refine ⟨⟨h1, List.pairwise_singleton _ _, fun a ha b hb => by simp at hb; subst hb; exact h2 a ha⟩, fun x hx => ?_⟩
    rcases List.mem_append.1 hx with hx | hx
    · exact h3 x hx
    · simp at hx; subst hx; exact h4
def cov (l : List (Nat × Nat)) (p : Nat) : Bool := l.any fun x => decide (x.1 ≤ p) && decide (p < x.2)
theorem cov_app (l m : List (Nat × Nat)) (p : Nat) : cov (l ++ m) p = (cov l p || cov m p) := by simp [cov, List.any_append]
theorem cov_one (x : Nat × Nat) (p : Nat) : cov [x] p = (decide (x.1 ≤ p) && decide (p < x.2)) := by simp [cov]
/-- What holds all along. -/
structure MI (l out : List (Nat × Nat)) : Prop where
  apt : apt out
  cov : ∀ p, cov out p = cov l p
  low : ∀ y ∈ out, ∃ x ∈ l, y.1 = x.1
  high : ∀ y ∈ out, ∃ x ∈ l, y.2 = x.2
theorem mi_nil : MI [] [] := ⟨⟨List.Pairwise.nil, fun _ h => by cases h⟩, fun _ => rfl, (fun _ h => by cases h), (fun _ h => by cases h)⟩
theorem mi_step {l out : List (Nat × Nat)} {x : Nat × Nat} (h : MI l out) (hr : ∀ y ∈ l, y.1 ≤ x.1) (hx : x.1 ≤ x.2) : MI (l ++ [x]) (mrg out x) := by
  rcases mrg_cases out x with ⟨rfl, e⟩ | ⟨ini, y, rfl, ⟨h1, e⟩ | ⟨h1, e⟩⟩
  · rw [e]
    refine ⟨⟨List.pairwise_singleton _ _, fun z hz => by simp at hz; subst hz; exact hx⟩, fun p => ?_, fun z hz => ?_, fun z hz => ?_⟩
    · rw [cov_app, ← h.cov]; rfl
    · simp at hz; subst hz; exact ⟨z, by simp, rfl⟩
    · simp at hz; subst hz; exact ⟨z, by simp, rfl⟩
  · rw [e]
    obtain ⟨a1, a2, a3⟩ := apt_snoc.1 h.apt
    have hy : y.1 ≤ x.1 := by obtain ⟨z, hz, e⟩ := h.low y (by simp); rw [e]; exact hr z hz
    refine ⟨apt_snoc.2 ⟨a1, a2, by show y.1 ≤ max y.2 x.2; omega⟩, fun p => ?_, fun z hz => ?_, fun z hz => ?_⟩
    · rw [cov_app, cov_app, ← h.cov, cov_app, cov_one, cov_one, cov_one, Bool.or_assoc]
      congr 1
      rw [Bool.eq_iff_iff]
      simp only [Bool.and_eq_true, Bool.or_eq_true, decide_eq_true_eq]
      omega
    · rcases List.mem_append.1 hz with hz | hz
      · obtain ⟨q, hq, e⟩ := h.low z (by simp [hz]); exact ⟨q, by simp [hq], e⟩
      · simp at hz; subst hz
        obtain ⟨q, hq, e⟩ := h.low y (by simp); exact ⟨q, by simp [hq], e⟩
    · rcases List.mem_append.1 hz with hz | hz
      · obtain ⟨q, hq, e⟩ := h.high z (by simp [hz]); exact ⟨q, by simp [hq], e⟩
      · simp at hz; subst hz
        by_cases hm : y.2 ≤ x.2
        · exact ⟨x, by simp, by show max y.2 x.2 = x.2; omega⟩
        · obtain ⟨q, hq, e⟩ := h.high y (by simp); exact ⟨q, by simp [hq], by show max y.2 x.2 = q.2; omega⟩
  · rw [e]
    obtain ⟨a1, a2, a3⟩ := apt_snoc.1 h.apt
    refine ⟨apt_snoc.2 ⟨h.apt, fun z hz => ?_, hx⟩, fun p => ?_, fun z hz => ?_, fun z hz => ?_⟩
    · rcases List.mem_append.1 hz with hz | hz
      · have := a2 z hz; omega
      · simp at hz; subst hz; exact h1
    · rw [cov_app, cov_app _ [x], h.cov]
    · rcases List.mem_append.1 hz with hz | hz
      · obtain ⟨q, hq, e⟩ := h.low z hz; exact ⟨q, by simp [hq], e⟩
      · simp at hz; subst hz; exact ⟨z, by simp, rfl⟩
    · rcases List.mem_append.1 hz with hz | hz
      · obtain ⟨q, hq, e⟩ := h.high z hz; exact ⟨q, by simp [hq], e⟩
      · simp at hz; subst hz; exact ⟨z, by simp, rfl⟩
theorem mi_tog {l : List (Nat × Nat)} (hr : rising l) (hx : ∀ x ∈ l, x.1 ≤ x.2) : MI l (tog l) := by
  have key : ∀ k, k ≤ l.length → MI (l.take k) (tog (l.take k)) := by
    intro k
    induction k with
    | zero => intro _; rw [List.take_zero]; exact mi_nil
    | succ k ih =>
      intro hk
      have hx0 : l[k]? = some l[k] := List.getElem?_eq_getElem hk
      rw [List.take_add_one, hx0]
      show MI (l.take k ++ [l[k]]) (tog (l.take k ++ [l[k]]))
      rw [tog_snoc]
      refine mi_step (ih (by omega)) (fun y hy => ?_) (hx _ (List.getElem_mem _))
      obtain ⟨i, hi, rfl⟩ := List.getElem_of_mem hy
      have hi2 : i < k := by rw [List.length_take] at hi; omega
      rw [List.getElem_take]
      exact (List.pairwise_iff_getElem.1 hr) i k (by omega) (by omega) hi2
  have := key l.length (Nat.le_refl _)
  rwa [List.take_length] at this
/-- Nothing in it is empty where nothing was. -/
theorem tog_ne {l : List (Nat × Nat)} (h : ∀ x ∈ l, x.1 < x.2) : ∀ y ∈ tog l, y.1 < y.2 := by
  have key : ∀ (m out : List (Nat × Nat)), (∀ y ∈ out, y.1 < y.2) → (∀ x ∈ m, x.1 < x.2) → ∀ y ∈ m.foldl mrg out, y.1 < y.2 := by
    intro m
    induction m with
    | nil => intro out h _ ; exact h
    | cons x m ih =>
      intro out ho hm
      refine ih _ ?_ (fun z hz => hm z (List.mem_cons_of_mem _ hz))
      have hx := hm x (by simp)
      rcases mrg_cases out x with ⟨rfl, e⟩ | ⟨ini, y, rfl, ⟨h1, e⟩ | ⟨h1, e⟩⟩
      · rw [e]; intro z hz; simp at hz; subst hz; exact hx
      · rw [e]
        intro z hz
        rcases List.mem_append.1 hz with hz | hz
        · exact ho z (by simp [hz])
        · simp at hz; subst hz
          have := ho y (by simp)
          show y.1 < max y.2 x.2; omega
      · rw [e]
        intro z hz
        rcases List.mem_append.1 hz with hz | hz
        · exact ho z hz
        · simp at hz; subst hz; exact hx
  exact key l [] (fun _ h => by cases h) h
/-- How many octets. -/
def cnt (n : Nat) (f : Nat → Bool) : Nat := (List.range n).countP f
theorem cnt_succ (n : Nat) (f : Nat → Bool) : cnt (n + 1) f = cnt n f + (if f n = true then 1 else 0) := by
  unfold cnt; rw [List.range_succ, List.countP_append]; simp [List.countP_cons]
theorem cnt_or (n : Nat) (f g : Nat → Bool) (h : ∀ p, p < n → ¬ (f p = true ∧ g p = true)) : cnt n (fun p => f p || g p) = cnt n f + cnt n g := by
  induction n with
  | zero => rfl
  | succ n ih =>
    have h1 := ih (fun p hp => h p (by omega))
    have h2 := h n (by omega)
    rw [cnt_succ, cnt_succ, cnt_succ, h1]
    cases hf : f n <;> cases hg : g n <;> simp [hf, hg] at h2 ⊢ <;> omega
theorem cnt_in (a b : Nat) : ∀ n, cnt n (fun p => decide (a ≤ p) && decide (p < b)) = min n b - a
  | 0 => by simp [cnt]
  | n + 1 => by
    rw [cnt_succ, cnt_in a b n]
    by_cases h : a ≤ n ∧ n < b
    · rw [if_pos (by simp [h])]; omega
    · rw [if_neg (by simpa using h)]; omega
theorem cnt_congr (n : Nat) {f g : Nat → Bool} (h : ∀ p, p < n → f p = g p) : cnt n f = cnt n g := by
  induction n with
  | zero => rfl
  | succ n ih => rw [cnt_succ, cnt_succ, ih (fun p hp => h p (by omega)), h n (by omega)]
theorem cnt_mono (n : Nat) {f g : Nat → Bool} (h : ∀ p, p < n → f p = true → g p = true) : cnt n f ≤ cnt n g := by
  induction n with
  | zero => exact Nat.le_refl _
  | succ n ih =>
    have := ih (fun p hp => h p (by omega))
    have h2 := h n (by omega)
    rw [cnt_succ, cnt_succ]
    by_cases hf : f n = true
    · rw [if_pos hf, if_pos (h2 hf)]; omega
    · rw [if_neg hf]; split <;> omega
theorem cnt_le (n : Nat) (f : Nat → Bool) : cnt n f ≤ n := by
  induction n with
  | zero => exact Nat.le_refl _
  | succ n ih => rw [cnt_succ]; split <;> omega
/-- The octets of spans that are apart are those that they cover. -/
theorem oct_cnt {n : Nat} : ∀ {l : List (Nat × Nat)}, apt l → (∀ x ∈ l, x.2 ≤ n) → oct l = (cnt n (cov l) : Int)
  | [], _, _ => by
    have : cnt n (cov []) = 0 := by
      have : ∀ m, cnt m (cov []) = 0 := fun m => by
        induction m with
        | zero => rfl
        | succ m ih => rw [cnt_succ, ih]; simp [cov]
      exact this n
    rw [this]; rfl
  | x :: l, h, hn => by
    obtain ⟨h1, h2⟩ := h
    obtain ⟨h3, h4⟩ := List.pairwise_cons.1 h1
    have ih := oct_cnt (n := n) (l := l) ⟨h4, fun y hy => h2 y (List.mem_cons_of_mem _ hy)⟩ (fun y hy => hn y (List.mem_cons_of_mem _ hy))
    have hx := h2 x (by simp)
    have hxn := hn x (by simp)
    have e : cnt n (cov (x :: l)) = cnt n (fun p => (decide (x.1 ≤ p) && decide (p < x.2)) || cov l p) := cnt_congr n (fun p _ => by simp [cov])
    rw [e, cnt_or, cnt_in, oct, ih]
    · omega
    · intro p _ ⟨hp, hc⟩
      simp only [Bool.and_eq_true, decide_eq_true_eq] at hp
      unfold cov at hc
      obtain ⟨y, hy, hyp⟩ := List.any_eq_true.1 hc
      simp only [Bool.and_eq_true, decide_eq_true_eq] at hyp
      have := h3 y hy
      omega
/-- Rising within bounds: what may be. -/
theorem okL_apt {sent : Nat} : ∀ (l : List (Nat × Nat)) (e : Nat), okL sent e l = true ↔ (apt l ∧ (∀ x ∈ l, x.1 < x.2 ∧ x.2 ≤ sent ∧ e < x.1))
  | [], e => by simp [okL, apt]
  | x :: l, e => by
    rw [okL_cons, okL_apt l x.2]
    unfold apt
    rw [List.pairwise_cons]
    constructor
    · rintro ⟨h1, h2, h3, ⟨⟨h4, h5⟩, h6⟩⟩
      refine ⟨⟨⟨fun y hy => (h6 y hy).2.2, h4⟩, fun y hy => ?_⟩, fun y hy => ?_⟩
      · rcases List.mem_cons.1 hy with rfl | hy
        · omega
        · exact h5 y hy
      · rcases List.mem_cons.1 hy with rfl | hy
        · exact ⟨h2, h3, h1⟩
        · have := h6 y hy; exact ⟨this.1, this.2.1, by omega⟩
    · rintro ⟨⟨⟨h1, h2⟩, h3⟩, h4⟩
      have hx := h4 x (by simp)
      exact ⟨hx.2.2, hx.1, hx.2.1, ⟨⟨h2, fun y hy => h3 y (List.mem_cons_of_mem _ hy)⟩, fun y hy => ⟨(h4 y (List.mem_cons_of_mem _ hy)).1, (h4 y (List.mem_cons_of_mem _ hy)).2.1, h1 y hy⟩⟩⟩
end Go.Proofs.Ytcachmjcninkbaa
