/- Recvbuf: what blocks tell: the mathematics. -/
import Derived.Test.YtknebjfdggimcaaRvY
namespace Go.Proofs.Ytknebjfdggimcaa
open Go.RowKit Go.Proofs.Ytknebjfdggimcaa.Rv

theorem cmF_app {cm ff : List Bool} {x n : Nat} (h : x + n ≤ cm.length) : cmF (cm ++ ff) x n = cmF cm x n ++ ff := by
  unfold cmF
  rw [List.take_append_of_le_length (by omega), List.drop_append_of_le_length (by omega), List.append_assoc, List.append_assoc]
theorem getD_ff (cm : List Bool) (k : Nat) : (cm ++ [false, false]).getD k false = cm.getD k false := by
  simp only [List.getD_eq_getElem?_getD]
  by_cases h : k < cm.length
  · rw [List.getElem?_append_left h]
  · rw [List.getElem?_append_right (by omega), List.getElem?_eq_none (show cm.length ≤ k by omega)]
    match hk : k - cm.length with
    | 0 => rfl
    | 1 => rfl
    | k + 2 => rfl
/-- Two parts do not touch. -/
theorem pw_alone : ∀ {ps : List Pt}, ps.Pairwise (fun p q => p.2.1 < q.1) → ∀ {p q : Pt}, p ∈ ps → q ∈ ps → p = q ∨ p.2.1 < q.1 ∨ q.2.1 < p.1
  | [], _, _, _, hp, _ => by simp at hp
  | x :: t, h, p, q, hp, hq => by
    obtain ⟨h2, h3⟩ := List.pairwise_cons.1 h
    rcases List.mem_cons.1 hp with e1 | hp2
    · rcases List.mem_cons.1 hq with e2 | hq2
      · exact .inl (e1.trans e2.symm)
      · exact .inr (.inl (by rw [e1]; exact h2 q hq2))
    · rcases List.mem_cons.1 hq with e2 | hq2
      · exact .inr (.inr (by rw [e2]; exact h2 p hp2))
      · exact pw_alone h3 hp2 hq2
theorem wf_alone {b : Nat} {ps : List Pt} (h : Wf b ps) {p q : Pt} (hp : p ∈ ps) (hq : q ∈ ps) : p = q ∨ p.2.1 < q.1 ∨ q.2.1 < p.1 := pw_alone h.1 hp hq
/-- What a part tells: there is what it has, not what lies beside it. -/
theorem ord_part {fi : Nat} {T : List Nat} {cm : List Bool} {i : Nat} {s : St} (H : Ord fi T cm 0 i s) {p : Pt} (hp : p ∈ s.parts) :
    ∃ x y : Nat, 1 ≤ x ∧ x < y ∧ y ≤ T.length ∧ cm.getD (x - 1) false = false ∧ cm.getD y false = false ∧ (∀ k, x ≤ k → k < y → cm.getD k false = true) ∧ (bk s.next p).1 = (fi + x) % 4294967296 ∧ (bk s.next p).2 = (fi + y) % 4294967296 := by
  have hw := H.ok.wf.2 p hp
  have hnx := H.nx
  have hK := H.hK
  rw [Nat.zero_add] at hnx hK
  have hcl := H.cl
  have hy : s.ready + p.2.1 ≤ T.length := by
    have := H.bd (p.2.1 - 1) ⟨p, hp, by omega, by omega⟩
    omega
  have hcov := H.cov
  simp only [Nat.zero_add] at hcov
  have out : ∀ k, s.ready ≤ k → k < T.length → ¬ Cov s.parts (k - s.ready) → cm.getD k false = false := by
    intro k h1 h2 h3
    rw [← Bool.not_eq_true, hcov k h2]
    rintro (h | ⟨_, h⟩)
    · omega
    · exact h3 h
  refine ⟨s.ready + p.1, s.ready + p.2.1, by omega, by omega, hy, ?_, ?_, ?_, ?_, ?_⟩
  · by_cases h0 : p.1 = 0
    · omega
    · refine out _ (by omega) (by omega) ?_
      rintro ⟨q, hq, h1, h2⟩
      have hq2 := H.ok.wf.2 q hq
      rcases wf_alone H.ok.wf hp hq with rfl | h | h <;> omega
  · by_cases hyl : s.ready + p.2.1 < T.length
    · refine out _ (by omega) hyl ?_
      rintro ⟨q, hq, h1, h2⟩
      have hq2 := H.ok.wf.2 q hq
      rcases wf_alone H.ok.wf hp hq with rfl | h | h <;> omega
    · rw [List.getD_eq_getElem?_getD, List.getElem?_eq_none (by omega)]; rfl
  · intro k h1 h2
    exact (hcov k (by omega)).2 (.inr ⟨by omega, p, hp, by omega, by omega⟩)
  · unfold bk; rw [hnx]; omega
  · unfold bk; rw [hnx]; omega
theorem rep_two (n : Nat) : List.replicate (n + 2) false = List.replicate n false ++ [false, false] := by
  rw [show [false, false] = List.replicate 2 false from rfl, List.replicate_append_replicate]
/-- A block's cells. -/
theorem blk_at2 {w : World} {b off i : Nat} {l : List (Nat × Nat)} {p : Nat × Nat} (h : Sts 2 BC Tr w (some ⟨b, off, none⟩) l) (hi : l[i]? = some p) : b < w.heap.size ∧ w.cell? ⟨b, off + i * 2, none⟩ = some (.int .u32 (p.1 : Nat)) ∧ w.cell? ⟨b, off + i * 2 + 1, none⟩ = some (.int .u32 (p.2 : Nat)) := by
  obtain ⟨b', o', e, hb, hc⟩ := h.isSomeT (by have := (List.getElem?_eq_some_iff.1 hi).1; omega)
  cases e
  exact ⟨hb, by have := hc i p hi 0 _ rfl; simpa using this, hc i p hi 1 _ rfl⟩
/-- What the blocks of a buffer tell. -/
theorem ord_bks {fi : Nat} {T : List Nat} {cm : List Bool} {i : Nat} {s : St} (H : Ord fi T cm 0 i s) {sl : List Pt} (hp : sl.Perm s.parts) : (bks s sl).length ≤ 4 ∧ ∀ (j : Nat) (b : Nat × Nat), (bks s sl)[j]? = some b →
    ∃ x y : Nat, 1 ≤ x ∧ x < y ∧ y ≤ T.length ∧ cm.getD (x - 1) false = false ∧ cm.getD y false = false ∧ (∀ k, x ≤ k → k < y → cm.getD k false = true) ∧ b.1 = (fi + x) % 4294967296 ∧ b.2 = (fi + y) % 4294967296 := by
  refine ⟨by unfold bks; rw [List.length_map, List.length_take]; omega, fun j b hb => ?_⟩
  obtain ⟨p, hps, rfl⟩ := List.mem_map.1 (List.mem_of_getElem? hb)
  exact ord_part H (hp.mem_iff.1 (List.mem_of_mem_take hps))
end Go.Proofs.Ytknebjfdggimcaa
