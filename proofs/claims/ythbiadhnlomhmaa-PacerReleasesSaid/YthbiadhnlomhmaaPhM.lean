/- A heap of numbers: what its loops keep. -/
import Derived.Test.YthbiadhnlomhmaaGBase
namespace Go.Proofs.Ythbiadhnlomhmaa.Ph
def at0 (xs : List Nat) (k : Nat) : Nat := xs.getD k 0
theorem at0_set (xs : List Nat) (i k v : Nat) (h : i < xs.length) : at0 (xs.set i v) k = if k = i then v else at0 xs k := by
  unfold at0
  simp only [List.getD_eq_getElem?_getD]
  by_cases e : k = i
  · subst e; rw [if_pos rfl, List.getElem?_set_self h]; rfl
  · rw [if_neg e, List.getElem?_set_ne (fun e2 => e e2.symm)]
theorem at0_mem {xs : List Nat} {k : Nat} (h : k < xs.length) : at0 xs k ∈ xs := by
  unfold at0
  rw [List.getD_eq_getElem?_getD, List.getElem?_eq_getElem h]
  exact List.getElem_mem h
theorem at0_of_mem {xs : List Nat} {v : Nat} (h : v ∈ xs) : ∃ k, k < xs.length ∧ at0 xs k = v := by
  obtain ⟨k, hk⟩ := List.getElem?_of_mem h
  exact ⟨k, (List.getElem?_eq_some_iff.1 hk).1, by unfold at0; rw [List.getD_eq_getElem?_getD, hk]; rfl⟩
/-- Two change places. -/
def sw (xs : List Nat) (i j : Nat) : List Nat := (xs.set i (at0 xs j)).set j (at0 xs i)
theorem sw_len (xs : List Nat) (i j : Nat) : (sw xs i j).length = xs.length := by simp [sw]
theorem sw_at {xs : List Nat} {i j : Nat} (hi : i < xs.length) (hj : j < xs.length) (k : Nat) : at0 (sw xs i j) k = if k = j then at0 xs i else if k = i then at0 xs j else at0 xs k := by
  unfold sw
  rw [at0_set _ _ _ _ (by rw [List.length_set]; exact hj), at0_set _ _ _ _ hi]
theorem sw_perm {xs : List Nat} {i j : Nat} (hi : i < xs.length) (hj : j < xs.length) : (sw xs i j).Perm xs := by
  have h := Array.swap_perm (xs := xs.toArray) (i := i) (j := j) (by simpa using hi) (by simpa using hj)
  have e : (xs.toArray.swap i j (by simpa using hi) (by simpa using hj)).toList = sw xs i j := by
    unfold sw at0
    simp [Array.swap, List.getD_eq_getElem?_getD, List.getElem?_eq_getElem hi, List.getElem?_eq_getElem hj]
  have h2 := Array.Perm.toList h
  rw [e] at h2
  simpa using h2

/-- The first n are a heap. -/
def Heap (n : Nat) (xs : List Nat) : Prop := ∀ k, 0 < k → k < n → at0 xs ((k - 1) / 2) ≤ at0 xs k
/-- .. but for what lies below i. -/
def HeapX (n i : Nat) (xs : List Nat) : Prop := (∀ k, 0 < k → k < n → (k - 1) / 2 ≠ i → at0 xs ((k - 1) / 2) ≤ at0 xs k) ∧ ∀ k, 0 < k → k < n → (k - 1) / 2 = i → 0 < i → at0 xs ((i - 1) / 2) ≤ at0 xs k
theorem Heap.root {n : Nat} {xs : List Nat} (h : Heap n xs) : ∀ k, k < n → at0 xs 0 ≤ at0 xs k := by
  intro k
  induction k using Nat.strongRecOn with
  | _ k ih =>
    intro hk
    by_cases h0 : k = 0
    · rw [h0]; exact Nat.le_refl _
    · exact Nat.le_trans (ih ((k - 1) / 2) (by omega) (by omega)) (h k (by omega) hk)
/-- The first is replaced by whatever it is. -/
theorem Heap.top {n : Nat} {xs ys : List Nat} (h : Heap n xs) {m : Nat} (hm : m ≤ n) (he : ∀ k, 0 < k → k < m → at0 ys k = at0 xs k) : HeapX m 0 ys :=
  ⟨fun k h0 hk hp => by rw [he k h0 hk, he _ (by omega) (by omega)]; exact h k h0 (by omega), fun _ _ _ _ h0 => absurd h0 (Nat.lt_irrefl 0)⟩
theorem HeapX.stop {n i : Nat} {xs : List Nat} (h : HeapX n i xs) (hc : ∀ k, 0 < k → k < n → (k - 1) / 2 = i → at0 xs i ≤ at0 xs k) : Heap n xs := fun k h0 hk => by
  by_cases e : (k - 1) / 2 = i
  · rw [e]; exact hc k h0 hk e
  · exact h.1 k h0 hk e
theorem HeapX.step {n i j : Nat} {xs : List Nat} (h : HeapX n i xs) (hn : n ≤ xs.length) (hj : 0 < j ∧ j < n ∧ (j - 1) / 2 = i) (hm : ∀ k, 0 < k → k < n → (k - 1) / 2 = i → at0 xs j ≤ at0 xs k) (hlt : at0 xs j < at0 xs i) : HeapX n j (sw xs i j) := by
  have hi : i < xs.length := by omega
  have hjl : j < xs.length := by omega
  have hij : i ≠ j := by omega
  refine ⟨fun k h0 hk hp => ?_, fun k h0 hk hp hj0 => ?_⟩
  · rw [sw_at hi hjl, sw_at hi hjl, if_neg hp]
    by_cases k1 : k = j
    · rw [if_pos k1, if_pos (by rw [k1]; exact hj.2.2)]
      exact Nat.le_of_lt hlt
    · rw [if_neg k1]
      by_cases k2 : k = i
      · rw [if_pos k2]
        subst k2
        rw [if_neg (by omega)]
        exact h.2 j hj.1 hj.2.1 hj.2.2 h0
      · rw [if_neg k2]
        by_cases k3 : (k - 1) / 2 = i
        · rw [if_pos k3]; exact hm k h0 hk k3
        · rw [if_neg k3]; exact h.1 k h0 hk k3
  · have k1 : k ≠ j := by omega
    have k2 : k ≠ i := by omega
    rw [sw_at hi hjl, sw_at hi hjl, if_neg k1, if_neg k2, hj.2.2, if_neg hij, if_pos rfl]
    have := h.1 k h0 hk (by omega)
    rw [hp] at this
    exact this
theorem Heap.push {n : Nat} {xs : List Nat} {v : Nat} (h : Heap n xs) (hl : xs.length = n) (hv : ∀ x ∈ xs, x ≤ v) : Heap (n + 1) (xs ++ [v]) := fun k h0 hk => by
  have e : ∀ k, k < n → at0 (xs ++ [v]) k = at0 xs k := fun k hk => by unfold at0; simp only [List.getD_eq_getElem?_getD]; rw [List.getElem?_append_left (by omega)]
  by_cases hk2 : k = n
  · have e2 : at0 (xs ++ [v]) k = v := by unfold at0; rw [List.getD_eq_getElem?_getD, List.getElem?_append_right (by omega), hk2, hl, Nat.sub_self]; rfl
    rw [e2, e _ (by omega)]
    exact hv _ (at0_mem (by omega))
  · rw [e k (by omega), e _ (by omega)]
    exact h k h0 (by omega)
/-- The least of what lies there is the first. -/
theorem root_is {n t : Nat} {xs : List Nat} (h : Heap xs.length xs) (hp : xs.Perm (List.range' t (n + 1))) : at0 xs 0 = t := by
  have hl : xs.length = n + 1 := by rw [hp.length_eq, List.length_range']
  have h1 : at0 xs 0 ∈ List.range' t (n + 1) := hp.subset (at0_mem (by omega))
  have h2 : t ∈ xs := hp.symm.subset (by rw [List.range'_succ]; exact List.mem_cons_self)
  obtain ⟨k, hk, e⟩ := at0_of_mem h2
  have h3 := h.root k hk
  rw [List.mem_range'_1] at h1
  omega
theorem pop_perm {n t : Nat} {xs ys : List Nat} (hp : xs.Perm (List.range' t (n + 1))) (h : ys.Perm xs) (hl : at0 ys n = t) : (ys.take n).Perm (List.range' (t + 1) n) ∧ ys = ys.take n ++ [t] := by
  have hlen : ys.length = n + 1 := by rw [h.length_eq, hp.length_eq, List.length_range']
  have e : ys = ys.take n ++ [t] := by
    have h1 : ys.drop n = [t] := by
      rw [List.drop_eq_getElem_cons (by omega)]
      have : ys[n] = t := by unfold at0 at hl; rw [List.getD_eq_getElem?_getD, List.getElem?_eq_getElem (by omega)] at hl; exact hl
      rw [this, List.drop_eq_nil_of_le (by omega)]
    rw [← h1, List.take_append_drop]
  refine ⟨?_, e⟩
  have h2 := h.trans hp
  rw [e, List.range'_succ] at h2
  exact ((List.perm_append_singleton t (ys.take n)).symm.trans h2).cons_inv
end Go.Proofs.Ythbiadhnlomhmaa.Ph
