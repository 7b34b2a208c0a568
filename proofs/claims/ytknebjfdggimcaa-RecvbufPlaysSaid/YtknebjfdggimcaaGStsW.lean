/- A list of structs in an argument, where what the structs hold is bounded too. -/
import Derived.Test.YtknebjfdggimcaaGSts
import Derived.SizedLaws
namespace Go.Proofs.Ytknebjfdggimcaa
open Go.ChangeShapes Go.WideShapes Go.ChangeAt Go.RowKit Go.Deep
theorem weights_all {H : Type} {P : Program} {e : TypeId} {ds : List (DataW H)} {d : DataW H} (hd : d ∈ ds) : ∀ k ∈ d.weights P e, k ∈ DataW.weightsAll P e ds := by
  induction ds with
  | nil => cases hd
  | cons d0 ds ih =>
    intro k hk
    simp only [DataW.weightsAll, List.mem_append]
    rcases List.mem_cons.1 hd with rfl | h
    · exact .inl hk
    · exact .inr (ih h k hk)
theorem open_stsW {H : Type} {enc : TypeId × Value → H} {P : Program} {W : World} {base fuel : Nat} {held : Bool} {t e : TypeId} {m : Nat} {α : Type} {cells : α → List Value} {ok : World → α → Prop} (hty : P.underlying t = some (.slice e)) (hC : P.cellsOf e = m)
    (hm0 : 0 < m) (each : ∀ (n : Nat) (cs : List Value) (x : DataW H × List MemPlace), DataW.trod enc P W base (fun _ => true) held n e cs = some x → cs.length = m → (∀ k ∈ x.1.weights P e, k ≤ reachBytes) → ∃ r : α, ok W r ∧ cs = cells r)
    {c : Value} {y : DataW H × List MemPlace} (h : DataW.trod enc P W base (fun _ => true) held fuel t [c] = some y) (hw : ∀ k ∈ y.1.weights P t, k ≤ reachBytes) :
    ∃ (a : Option Addr) (rs : List α) (cap : Nat), c = .slice a rs.length cap ∧ Sts m cells ok W a rs ∧ (a = none → cap = 0) ∧ (rs.length ≤ cap ∧ cap ≤ maxLen) ∧
      ((y.1 = .nil ∧ rs = []) ∨ ∃ es ws : List (DataW H), y.1 = .slice es ws ∧ rs.length = es.length) := by
  rcases DataW.trod_slice hty h with ⟨hcs, hy⟩ | ⟨x, len, cap, elems, rest, n, _, hcs, hd, hb, hl, hm, hlen, hel, _, _⟩
  · simp only [List.cons.injEq, and_true] at hcs
    subst hcs
    exact ⟨none, [], 0, rfl, Sts.nil _ _, fun _ => rfl, ⟨Nat.le_refl _, Nat.zero_le _⟩, .inl ⟨by rw [hy], rfl⟩⟩
  · simp only [List.cons.injEq, and_true] at hcs
    subst hcs
    have one : ∀ i, i < len → ∃ r : α, ok W r ∧ (cells r).length = m ∧ ∀ j, j < m → W.cell? (x.add (i * m + j)) = (cells r)[j]? := by
      intro i hi
      have h1 := hel i hi
      rw [List.getElem?_eq_getElem (by omega), hC, Option.bind_eq_some_iff] at h1
      obtain ⟨cs, hcs, ht⟩ := h1
      obtain ⟨_, hcl, hcell⟩ := World.cells?_some hcs
      obtain ⟨r, hr, rfl⟩ := each _ _ _ ht hcl (fun k hk => hw k (by rw [hd]; simp only [DataW.weights, hty]; exact List.mem_cons_of_mem _ (List.mem_append_left _ (weights_all (List.mem_map.2 ⟨_, List.getElem_mem (by omega), rfl⟩) k hk))))
      refine ⟨r, hr, hcl, fun j hj => ?_⟩
      have := hcell j hj
      rwa [Addr.add_add] at this
    have el : (List.ofFn fun i : Fin len => Classical.choose (one i.1 i.2)).length = len := by simp
    have eg : ∀ i r, (List.ofFn fun i : Fin len => Classical.choose (one i.1 i.2))[i]? = some r → i < len ∧ ok W r ∧ (cells r).length = m ∧ ∀ j, j < m → W.cell? (x.add (i * m + j)) = (cells r)[j]? := by
      intro i r hr
      rw [List.getElem?_ofFn] at hr
      split at hr
      · rename_i hi
        obtain rfl := Option.some.inj hr
        exact ⟨hi, Classical.choose_spec (one i hi)⟩
      · cases hr
    generalize (List.ofFn fun i : Fin len => Classical.choose (one i.1 i.2)) = rs at el eg
    subst el
    refine ⟨some x, rs, cap, rfl, ⟨fun r hr => ?_, ?_⟩, (fun h => by cases h), ⟨hl, hm⟩, .inr ⟨elems.map (·.1), rest.map (·.1), by rw [hd], by rw [List.length_map, hlen]⟩⟩
    · obtain ⟨i, hi⟩ := List.getElem?_of_mem hr
      exact (eg i r hi).2.1
    · by_cases h0 : rs = []
      · exact .inl h0
      · right
        have hp : 0 < rs.length := List.length_pos_iff.2 h0
        obtain ⟨_, _, hrl, h2⟩ := eg 0 _ (List.getElem?_eq_getElem hp)
        have h3 := h2 0 hm0
        rw [List.getElem?_eq_getElem (by omega)] at h3
        obtain ⟨b, off, spot⟩ := x
        have hspot : spot = none := by simpa [Addr.add] using World.cell?_spot h3
        subst hspot
        rw [Go.WideShapes.add_plain] at h3
        refine ⟨b, off, rfl, World.block_lt_of_cell? _ _ h3, fun i r hr j v hv => ?_⟩
        obtain ⟨_, _, hrl, h4⟩ := eg i r hr
        have hj : j < m := by have := (List.getElem?_eq_some_iff.1 hv).1; omega
        have h5 := h4 j hj
        rw [Go.WideShapes.add_plain, ← Nat.add_assoc, hv] at h5
        exact h5

end Go.Proofs.Ytknebjfdggimcaa
