/- Scoreboard: the document's parts are the program's holes. -/
import Derived.Test.YtcachmjcninkbaaScH
namespace Go.Proofs.Ytcachmjcninkbaa

def gapS (st : Nat) : Nat → List (Nat × Nat) → List (Nat × Nat)
  | e, [] => if e = st then [] else [(e, st)]
  | e, x :: l => (e, x.1) :: gapS st x.2 l
theorem pl_inv {u x : Nat} (hu : u < 4294967296) (hx : x < 4294967296) : (u + pl u x) % 4294967296 = x := by unfold pl; omega
theorem pl_inj {u x y : Nat} (hu : u < 4294967296) (hx : x < 4294967296) (hy : y < 4294967296) (h : pl u x = pl u y) : x = y := by
  rw [← pl_inv hu hx, ← pl_inv hu hy, h]
theorem gapsB_cons (nxt f : Nat) (b : Nat × Nat) (l : List (Nat × Nat)) : gapsB nxt f (b :: l) = (f, b.1) :: gapsB nxt b.2 l := rfl
theorem sps_gaps {una nxt : Nat} (hu : una < 4294967296) (hx : nxt < 4294967296) : ∀ (l : List (Nat × Nat)) (f : Nat), f < 4294967296 → small2 l → sps una (gapsB nxt f l) = gapS (pl una nxt) (pl una f) (sps una l)
  | [], f, hf, _ => by
    by_cases h : f = nxt
    · have e : gapsB nxt f [] = [] := by show ([] : List (Nat × Nat)) ++ (if f = nxt then [] else [(f, nxt)]) = []; rw [if_pos h]; rfl
      rw [e, h]; simp only [sps, List.map_nil, gapS, if_pos]
    · have e : gapsB nxt f [] = [(f, nxt)] := by show ([] : List (Nat × Nat)) ++ (if f = nxt then [] else [(f, nxt)]) = [(f, nxt)]; rw [if_neg h]; rfl
      have h2 : ¬ pl una f = pl una nxt := fun h3 => h (pl_inj hu hf hx h3)
      rw [e]; simp only [sps, List.map_cons, List.map_nil, gapS, if_neg h2]
  | b :: l, f, hf, hv => by
    have ih := sps_gaps hu hx l b.2 (hv b List.mem_cons_self).2 (fun y hy => hv y (List.mem_cons_of_mem _ hy))
    rw [gapsB_cons]
    show (pl una f, pl una b.1) :: sps una (gapsB nxt b.2 l) = _
    rw [ih]; rfl
theorem gaps_len (nxt f : Nat) (l : List (Nat × Nat)) : (gapsB nxt f l).length ≤ l.length + 1 ∧ l.length ≤ (gapsB nxt f l).length := by
  unfold gapsB
  rw [List.length_append, preB_len]
  split <;> simp
theorem gaps_small {nxt : Nat} (hx : nxt < 4294967296) : ∀ (l : List (Nat × Nat)) (f : Nat), f < 4294967296 → small2 l → small2 (gapsB nxt f l)
  | [], f, hf, _ => by
    intro x hxx
    have hxx2 : x ∈ ([] : List (Nat × Nat)) ++ (if f = nxt then [] else [(f, nxt)]) := hxx
    rw [List.nil_append] at hxx2
    by_cases h : f = nxt
    · rw [if_pos h] at hxx2; cases hxx2
    · rw [if_neg h, List.mem_singleton] at hxx2; subst hxx2; exact ⟨hf, hx⟩
  | b :: l, f, hf, hv => by
    intro x hxx
    rw [gapsB_cons] at hxx
    rcases List.mem_cons.1 hxx with rfl | hxx
    · exact ⟨hf, (hv b List.mem_cons_self).1⟩
    · exact gaps_small hx l b.2 (hv b List.mem_cons_self).2 (fun y hy => hv y (List.mem_cons_of_mem _ hy)) x hxx
/-- Each part is not empty, and ends at most at st. -/
theorem gapS_lt {st : Nat} : ∀ (l : List (Nat × Nat)) (e : Nat), okL st e l = true → e ≤ st → ∀ x ∈ gapS st e l, x.1 < x.2 ∧ x.2 ≤ st
  | [], e, _, he, x, hx => by
    unfold gapS at hx
    split at hx
    · cases hx
    · rw [List.mem_singleton] at hx; subst hx; exact ⟨by show e < st; omega, Nat.le_refl _⟩
  | y :: l, e, h, he, x, hx => by
    obtain ⟨h1, h2, h3, h4⟩ := okL_cons.1 h
    rcases List.mem_cons.1 (show x ∈ (e, y.1) :: gapS st y.2 l from hx) with rfl | hx
    · exact ⟨h1, by show y.1 ≤ st; omega⟩
    · exact gapS_lt l y.2 h4 h3 x hx
/-- A part's value. -/
def gV (mss : Int) (hi : Nat) (sp : List (Nat × Nat)) (x : Nat × Nat) : Int := (if lostP mss x.1 sp = true then 0 else (x.2 : Int) - (x.1 : Int)) + max 0 (min ((x.2 : Int) - (x.1 : Int)) ((hi : Int) - (x.1 : Int)))
def pipeG (mss : Int) (hi : Nat) (sp : List (Nat × Nat)) : List (Nat × Nat) → Int
  | [] => 0
  | x :: l => gV mss hi sp x + pipeG mss hi sp l
theorem pipeG_snoc (mss : Int) (hi : Nat) (sp l : List (Nat × Nat)) (x : Nat × Nat) : pipeG mss hi sp (l ++ [x]) = pipeG mss hi sp l + gV mss hi sp x := by
  induction l with
  | nil => simp [pipeG]
  | cons y l ih => simp only [List.cons_append, pipeG, ih]; omega
theorem gV_hole (mss : Int) (hi : Nat) (sp : List (Nat × Nat)) (h : Hole) (hl : lostP mss h.l sp = lostB mss h) : gV mss hi sp (h.l, h.r) = holeV mss hi h := by
  unfold gV holeV
  rw [hl]
  split <;> omega
theorem pipe_gaps {st : Nat} (mss : Int) (hi : Nat) (sp : List (Nat × Nat)) : ∀ (l : List (Nat × Nat)) (e : Nat), (∀ h ∈ hol st e l, h.l < st → lostP mss h.l sp = lostB mss h) → okL st e l = true → e ≤ st → pipeG mss hi sp (gapS st e l) = pipeS mss hi (hol st e l)
  | [], e, hh, _, he => by
    unfold gapS
    by_cases h : e = st
    · rw [if_pos h]
      simp only [pipeG, hol, pipeS, holeV]
      subst h
      split <;> omega
    · rw [if_neg h]
      have h2 := hh ⟨e, st, 0, 0⟩ (by simp [hol]) (by show e < st; omega)
      simp only [pipeG, hol, pipeS]
      rw [← gV_hole mss hi sp ⟨e, st, 0, 0⟩ h2]
  | x :: l, e, hh, hk, he => by
    obtain ⟨k1, k2, k3, k4⟩ := okL_cons.1 hk
    have h2 := hh ⟨e, x.1, l.length + 1, oct (x :: l)⟩ (by simp [hol]) (by show e < st; omega)
    have ih := pipe_gaps mss hi sp l x.2 (fun h hm => hh h (by simp only [hol]; exact List.mem_cons_of_mem _ hm)) k4 k3
    simp only [gapS, pipeG, hol, pipeS]
    rw [ih, ← gV_hole mss hi sp ⟨e, x.1, l.length + 1, oct (x :: l)⟩ h2]
theorem hol_lt {st : Nat} : ∀ (l : List (Nat × Nat)) (e : Nat), okL st e l = true → ∀ h ∈ hol st e l, h.l < h.r ∨ h.b = 0
  | [], e, _, h, hh => by
    simp only [hol, List.mem_singleton] at hh
    subst hh; exact .inr rfl
  | x :: l, e, hk, h, hh => by
    obtain ⟨k1, k2, k3, k4⟩ := okL_cons.1 hk
    simp only [hol, List.mem_cons] at hh
    rcases hh with rfl | hh
    · exact .inl k1
    · exact hol_lt l x.2 k4 h hh
theorem pipe_both {una nxt : Nat} {bs : List (Nat × Nat)} (mss : Int) (hi : Nat) (hu : una < 4294967296) (hx : nxt < 4294967296) (hv : small2 bs) (hk : okL (pl una nxt) 0 (sps una bs) = true) :
    pipeG mss hi (sps una bs) (sps una (gapsB nxt una bs)) = pipeS mss hi (hol (pl una nxt) 0 (sps una bs)) := by
  rw [sps_gaps hu hx bs una hu hv, pl_self hu]
  exact pipe_gaps mss hi _ _ 0 (fun h hm hlt => lostP_hol mss hk (Nat.zero_le _) hlt hm (Nat.le_refl _) (hol_lt _ 0 hk h hm)) hk (Nat.zero_le _)
/-- The hole ahead of a block, and the document's part. -/
theorem hol_get {st : Nat} : ∀ (l : List (Nat × Nat)) (e i : Nat), okL st e l = true → i < l.length → ∃ h, (hol st e l)[i]? = some h ∧ 0 < h.b ∧ (gapS st e l)[i]? = some (h.l, h.r) ∧ h.l < h.r ∧ h.r ≤ st
  | [], _, _, _, hi => by cases hi
  | x :: l, e, 0, hk, _ => by
    obtain ⟨k1, k2, k3, k4⟩ := okL_cons.1 hk
    exact ⟨⟨e, x.1, l.length + 1, oct (x :: l)⟩, rfl, Nat.succ_pos _, rfl, k1, by show x.1 ≤ st; omega⟩
  | x :: l, e, i + 1, hk, hi => by
    obtain ⟨k1, k2, k3, k4⟩ := okL_cons.1 hk
    obtain ⟨h, h1, h2, h3, h4⟩ := hol_get l x.2 i k4 (by simpa using hi)
    exact ⟨h, by simpa [hol] using h1, h2, by simpa [gapS] using h3, h4⟩
theorem hol_last {st : Nat} : ∀ (l : List (Nat × Nat)) (e : Nat), ∃ z, (hol st e l).drop l.length = [⟨z, st, 0, 0⟩]
  | [], e => ⟨e, rfl⟩
  | x :: l, e => by
    obtain ⟨z, hz⟩ := hol_last (st := st) l x.2
    exact ⟨z, by simpa [hol] using hz⟩
theorem next_last {st : Nat} (mss : Int) (hi : Nat) (rs : Bool) (l : List (Nat × Nat)) (e : Nat) : ((hol st e l).drop l.length).find? (nextF mss hi rs) = none := by
  obtain ⟨z, hz⟩ := hol_last (st := st) l e
  rw [hz]
  have h0 : nextF mss hi rs ⟨z, st, 0, 0⟩ = false := by unfold nextF; simp
  simp only [List.find?_cons, h0, List.find?_nil]
theorem find_drop {p : Hole → Bool} {l : List Hole} {i : Nat} {h : Hole} (hi : l[i]? = some h) : (l.drop i).find? p = if p h = true then some h else (l.drop (i + 1)).find? p := by
  have e : l.drop i = h :: l.drop (i + 1) := by
    have h1 := (List.getElem?_eq_some_iff.1 hi).1
    rw [List.drop_eq_getElem_cons h1, (List.getElem?_eq_some_iff.1 hi).2]
  rw [e, List.find?_cons]
  cases p h <;> rfl
end Go.Proofs.Ytcachmjcninkbaa
