/- A slice that reads as a list of structs: m cells each. -/
import Derived.Test.YthbiadhnlomhmaaGAgg
import Derived.Deep.Slices
namespace Go.Proofs.Ythbiadhnlomhmaa
open Go.ChangeShapes Go.WideShapes Go.ChangeAt Go.RowKit Go.Deep

/-- A slice that reads as these things, of m cells each. -/
def Sts {α : Type} (m : Nat) (cells : α → List Value) (ok : World → α → Prop) (w : World) (a : Option Addr) (rs : List α) : Prop :=
  (∀ r ∈ rs, ok w r) ∧ (rs = [] ∨ ∃ b off, a = some ⟨b, off, none⟩ ∧ b < w.heap.size ∧ ∀ (i : Nat) (r : α), rs[i]? = some r → ∀ (j : Nat) (v : Value), (cells r)[j]? = some v → w.cell? ⟨b, off + i * m + j, none⟩ = some v)

theorem Sts.below {α : Type} {m : Nat} {cells : α → List Value} {ok : World → α → Prop} {w w' : World} {a : Option Addr} {rs : List α} (hok : ∀ r, ok w r → ok w' r) (h : Sts m cells ok w a rs) (hb : Below w.heap.size w w') : Sts m cells ok w' a rs := by
  obtain ⟨h1, h2 | ⟨b, off, rfl, hlt, hc⟩⟩ := h
  · exact ⟨fun r hr => hok r (h1 r hr), .inl h2⟩
  · exact ⟨fun r hr => hok r (h1 r hr), .inr ⟨b, off, rfl, Nat.lt_of_lt_of_le hlt hb.size, fun i r hr j v hv => (hb.cell (p := ⟨b, off + i * m + j, none⟩) hlt).trans (hc i r hr j v hv)⟩⟩

/-- .. at a place. -/
theorem Sts.at {α : Type} {m : Nat} {cells : α → List Value} {ok : World → α → Prop} {w : World} {a : Option Addr} {rs : List α} (h : Sts m cells ok w a rs) {i : Nat} {r : α} (hi : rs[i]? = some r) :
    ok w r ∧ ∃ b off, a = some ⟨b, off, none⟩ ∧ b < w.heap.size ∧ ∀ (j : Nat) (v : Value), (cells r)[j]? = some v → w.cell? ⟨b, off + i * m + j, none⟩ = some v := by
  refine ⟨h.1 r (List.mem_of_getElem? hi), ?_⟩
  rcases h.2 with rfl | ⟨b, off, rfl, hb, hc⟩
  · simp at hi
  · exact ⟨b, off, rfl, hb, fun j v hv => hc i r hi j v hv⟩

theorem Sts.nil {α : Type} {m : Nat} {cells : α → List Value} {ok : World → α → Prop} (w : World) (a : Option Addr) : Sts m cells ok w a [] := ⟨(fun _ h => by cases h), .inl rfl⟩

theorem open_sts {H : Type} {enc : TypeId × Value → H} {P : Program} {W : World} {base fuel : Nat} {held : Bool} {t e : TypeId} {m : Nat} {α : Type} {cells : α → List Value} {ok : World → α → Prop} (ht : P.underlying t = some (.slice e)) (hC : P.cellsOf e = m)
    (hm0 : 0 < m) (each : ∀ (n : Nat) (cs : List Value) (x : DataW H × List MemPlace), DataW.trod enc P W base (fun _ => true) held n e cs = some x → cs.length = m → ∃ r : α, ok W r ∧ cs = cells r)
    {c : Value} {y : DataW H × List MemPlace} (h : DataW.trod enc P W base (fun _ => true) held fuel t [c] = some y) :
    ∃ (a : Option Addr) (rs : List α) (cap : Nat), c = .slice a rs.length cap ∧ Sts m cells ok W a rs ∧ (a = none → cap = 0) ∧ (rs.length ≤ cap ∧ cap ≤ maxLen) ∧
      ((y.1 = .nil ∧ rs = []) ∨ ∃ es ws : List (DataW H), y.1 = .slice es ws ∧ rs.length = es.length) := by
  rcases DataW.trod_slice ht h with ⟨hcs, hy⟩ | ⟨x, len, cap, elems, rest, n, _, hcs, hd, hb, hl, hm, hlen, hel, _, _⟩
  · simp only [List.cons.injEq, and_true] at hcs
    subst hcs
    exact ⟨none, [], 0, rfl, Sts.nil _ _, fun _ => rfl, ⟨Nat.le_refl _, Nat.zero_le _⟩, .inl ⟨by rw [hy], rfl⟩⟩
  · simp only [List.cons.injEq, and_true] at hcs
    subst hcs
    have one : ∀ i, i < len → ∃ r : α, ok W r ∧ (cells r).length = m ∧ ∀ j, j < m → W.cell? (x.add (i * m + j)) = (cells r)[j]? := by
      intro i hi
      have h1 := hel i hi
      rw [List.getElem?_eq_getElem (by omega), hC, Option.bind_eq_some_iff] at h1
      obtain ⟨cs, hcs, ht⟩ := h1
      obtain ⟨_, hcl, hcell⟩ := World.cells?_some hcs
      obtain ⟨r, hr, rfl⟩ := each _ _ _ ht hcl
      refine ⟨r, hr, hcl, fun j hj => ?_⟩
      have := hcell j hj
      rwa [Addr.add_add] at this
    have el : (List.ofFn fun i : Fin len => Classical.choose (one i.1 i.2)).length = len := by simp
    have eg : ∀ i r, (List.ofFn fun i : Fin len => Classical.choose (one i.1 i.2))[i]? = some r → i < len ∧ ok W r ∧ (cells r).length = m ∧ ∀ j, j < m → W.cell? (x.add (i * m + j)) = (cells r)[j]? := by
      intro i r hr
      rw [List.getElem?_ofFn] at hr
      split at hr
      · rename_i hi
        obtain rfl := Option.some.inj hr
        exact ⟨hi, Classical.choose_spec (one i hi)⟩
      · cases hr
    generalize (List.ofFn fun i : Fin len => Classical.choose (one i.1 i.2)) = rs at el eg
    subst el
    refine ⟨some x, rs, cap, rfl, ⟨fun r hr => ?_, ?_⟩, (fun h => by cases h), ⟨hl, hm⟩, .inr ⟨elems.map (·.1), rest.map (·.1), by rw [hd], by rw [List.length_map, hlen]⟩⟩
    · obtain ⟨i, hi⟩ := List.getElem?_of_mem hr
      exact (eg i r hi).2.1
    · by_cases h0 : rs = []
      · exact .inl h0
      · right
        have hp : 0 < rs.length := List.length_pos_iff.2 h0
        obtain ⟨_, _, hrl, h2⟩ := eg 0 _ (List.getElem?_eq_getElem hp)
        have h3 := h2 0 hm0
        rw [List.getElem?_eq_getElem (by omega)] at h3
        obtain ⟨b, off, spot⟩ := x
        have hspot : spot = none := by simpa [Addr.add] using World.cell?_spot h3
        subst hspot
        rw [Go.WideShapes.add_plain] at h3
        refine ⟨b, off, rfl, World.block_lt_of_cell? _ _ h3, fun i r hr j v hv => ?_⟩
        obtain ⟨_, _, hrl, h4⟩ := eg i r hr
        have hj : j < m := by have := (List.getElem?_eq_some_iff.1 hv).1; omega
        have h5 := h4 j hj
        rw [Go.WideShapes.add_plain, ← Nat.add_assoc, hv] at h5
        exact h5

/-- How many there can be. -/
theorem sts_reach {H : Type} {P : Program} {t e : TypeId} {α : Type} {d : DataW H} {rs : List α} (ht : P.underlying t = some (.slice e)) (h : (d = .nil ∧ rs = []) ∨ ∃ es ws : List (DataW H), d = .slice es ws ∧ rs.length = es.length)
    (hw : ∀ n ∈ d.weights P t, n ≤ reachBytes) : rs.length * P.bytesOf e ≤ reachBytes := by
  rcases h with ⟨_, rfl⟩ | ⟨es, ws, rfl, hl⟩
  · simp
  · have := hw ((es.length + ws.length) * P.bytesOf e) (by simp [DataW.weights, ht])
    rw [Nat.add_mul] at this
    rw [hl]; omega

theorem of_l1 {α : Type} (l : List α) (h : l.length = 1) : ∃ x0, l = [x0] := by
  match l, h with
  | [x0], _ => exact ⟨x0, rfl⟩
theorem of_l2 {α : Type} (l : List α) (h : l.length = 2) : ∃ x0 x1, l = [x0, x1] := by
  match l, h with
  | [x0, x1], _ => exact ⟨x0, x1, rfl⟩
theorem of_l3 {α : Type} (l : List α) (h : l.length = 3) : ∃ x0 x1 x2, l = [x0, x1, x2] := by
  match l, h with
  | [x0, x1, x2], _ => exact ⟨x0, x1, x2, rfl⟩
theorem of_l4 {α : Type} (l : List α) (h : l.length = 4) : ∃ x0 x1 x2 x3, l = [x0, x1, x2, x3] := by
  match l, h with
  | [x0, x1, x2, x3], _ => exact ⟨x0, x1, x2, x3, rfl⟩
theorem of_l5 {α : Type} (l : List α) (h : l.length = 5) : ∃ x0 x1 x2 x3 x4, l = [x0, x1, x2, x3, x4] := by
  match l, h with
  | [x0, x1, x2, x3, x4], _ => exact ⟨x0, x1, x2, x3, x4, rfl⟩
theorem of_l6 {α : Type} (l : List α) (h : l.length = 6) : ∃ x0 x1 x2 x3 x4 x5, l = [x0, x1, x2, x3, x4, x5] := by
  match l, h with
  | [x0, x1, x2, x3, x4, x5], _ => exact ⟨x0, x1, x2, x3, x4, x5, rfl⟩
theorem of_l7 {α : Type} (l : List α) (h : l.length = 7) : ∃ x0 x1 x2 x3 x4 x5 x6, l = [x0, x1, x2, x3, x4, x5, x6] := by
  match l, h with
  | [x0, x1, x2, x3, x4, x5, x6], _ => exact ⟨x0, x1, x2, x3, x4, x5, x6, rfl⟩
theorem of_l8 {α : Type} (l : List α) (h : l.length = 8) : ∃ x0 x1 x2 x3 x4 x5 x6 x7, l = [x0, x1, x2, x3, x4, x5, x6, x7] := by
  match l, h with
  | [x0, x1, x2, x3, x4, x5, x6, x7], _ => exact ⟨x0, x1, x2, x3, x4, x5, x6, x7, rfl⟩
theorem of_l9 {α : Type} (l : List α) (h : l.length = 9) : ∃ x0 x1 x2 x3 x4 x5 x6 x7 x8, l = [x0, x1, x2, x3, x4, x5, x6, x7, x8] := by
  match l, h with
  | [x0, x1, x2, x3, x4, x5, x6, x7, x8], _ => exact ⟨x0, x1, x2, x3, x4, x5, x6, x7, x8, rfl⟩
theorem of_l10 {α : Type} (l : List α) (h : l.length = 10) : ∃ x0 x1 x2 x3 x4 x5 x6 x7 x8 x9, l = [x0, x1, x2, x3, x4, x5, x6, x7, x8, x9] := by
  match l, h with
  | [x0, x1, x2, x3, x4, x5, x6, x7, x8, x9], _ => exact ⟨x0, x1, x2, x3, x4, x5, x6, x7, x8, x9, rfl⟩
theorem of_l11 {α : Type} (l : List α) (h : l.length = 11) : ∃ x0 x1 x2 x3 x4 x5 x6 x7 x8 x9 x10, l = [x0, x1, x2, x3, x4, x5, x6, x7, x8, x9, x10] := by
  match l, h with
  | [x0, x1, x2, x3, x4, x5, x6, x7, x8, x9, x10], _ => exact ⟨x0, x1, x2, x3, x4, x5, x6, x7, x8, x9, x10, rfl⟩
theorem of_l12 {α : Type} (l : List α) (h : l.length = 12) : ∃ x0 x1 x2 x3 x4 x5 x6 x7 x8 x9 x10 x11, l = [x0, x1, x2, x3, x4, x5, x6, x7, x8, x9, x10, x11] := by
  match l, h with
  | [x0, x1, x2, x3, x4, x5, x6, x7, x8, x9, x10, x11], _ => exact ⟨x0, x1, x2, x3, x4, x5, x6, x7, x8, x9, x10, x11, rfl⟩
theorem of_l13 {α : Type} (l : List α) (h : l.length = 13) : ∃ x0 x1 x2 x3 x4 x5 x6 x7 x8 x9 x10 x11 x12, l = [x0, x1, x2, x3, x4, x5, x6, x7, x8, x9, x10, x11, x12] := by
  match l, h with
  | [x0, x1, x2, x3, x4, x5, x6, x7, x8, x9, x10, x11, x12], _ => exact ⟨x0, x1, x2, x3, x4, x5, x6, x7, x8, x9, x10, x11, x12, rfl⟩
theorem of_l14 {α : Type} (l : List α) (h : l.length = 14) : ∃ x0 x1 x2 x3 x4 x5 x6 x7 x8 x9 x10 x11 x12 x13, l = [x0, x1, x2, x3, x4, x5, x6, x7, x8, x9, x10, x11, x12, x13] := by
  match l, h with
  | [x0, x1, x2, x3, x4, x5, x6, x7, x8, x9, x10, x11, x12, x13], _ => exact ⟨x0, x1, x2, x3, x4, x5, x6, x7, x8, x9, x10, x11, x12, x13, rfl⟩
theorem of_l15 {α : Type} (l : List α) (h : l.length = 15) : ∃ x0 x1 x2 x3 x4 x5 x6 x7 x8 x9 x10 x11 x12 x13 x14, l = [x0, x1, x2, x3, x4, x5, x6, x7, x8, x9, x10, x11, x12, x13, x14] := by
  match l, h with
  | [x0, x1, x2, x3, x4, x5, x6, x7, x8, x9, x10, x11, x12, x13, x14], _ => exact ⟨x0, x1, x2, x3, x4, x5, x6, x7, x8, x9, x10, x11, x12, x13, x14, rfl⟩
theorem of_l16 {α : Type} (l : List α) (h : l.length = 16) : ∃ x0 x1 x2 x3 x4 x5 x6 x7 x8 x9 x10 x11 x12 x13 x14 x15, l = [x0, x1, x2, x3, x4, x5, x6, x7, x8, x9, x10, x11, x12, x13, x14, x15] := by
  match l, h with
  | [x0, x1, x2, x3, x4, x5, x6, x7, x8, x9, x10, x11, x12, x13, x14, x15], _ => exact ⟨x0, x1, x2, x3, x4, x5, x6, x7, x8, x9, x10, x11, x12, x13, x14, x15, rfl⟩
theorem of_l17 {α : Type} (l : List α) (h : l.length = 17) : ∃ x0 x1 x2 x3 x4 x5 x6 x7 x8 x9 x10 x11 x12 x13 x14 x15 x16, l = [x0, x1, x2, x3, x4, x5, x6, x7, x8, x9, x10, x11, x12, x13, x14, x15, x16] := by
  match l, h with
  | [x0, x1, x2, x3, x4, x5, x6, x7, x8, x9, x10, x11, x12, x13, x14, x15, x16], _ => exact ⟨x0, x1, x2, x3, x4, x5, x6, x7, x8, x9, x10, x11, x12, x13, x14, x15, x16, rfl⟩
theorem of_l18 {α : Type} (l : List α) (h : l.length = 18) : ∃ x0 x1 x2 x3 x4 x5 x6 x7 x8 x9 x10 x11 x12 x13 x14 x15 x16 x17, l = [x0, x1, x2, x3, x4, x5, x6, x7, x8, x9, x10, x11, x12, x13, x14, x15, x16, x17] := by
  match l, h with
  | [x0, x1, x2, x3, x4, x5, x6, x7, x8, x9, x10, x11, x12, x13, x14, x15, x16, x17], _ => exact ⟨x0, x1, x2, x3, x4, x5, x6, x7, x8, x9, x10, x11, x12, x13, x14, x15, x16, x17, rfl⟩
theorem of_l19 {α : Type} (l : List α) (h : l.length = 19) : ∃ x0 x1 x2 x3 x4 x5 x6 x7 x8 x9 x10 x11 x12 x13 x14 x15 x16 x17 x18, l = [x0, x1, x2, x3, x4, x5, x6, x7, x8, x9, x10, x11, x12, x13, x14, x15, x16, x17, x18] := by
  match l, h with
  | [x0, x1, x2, x3, x4, x5, x6, x7, x8, x9, x10, x11, x12, x13, x14, x15, x16, x17, x18], _ => exact ⟨x0, x1, x2, x3, x4, x5, x6, x7, x8, x9, x10, x11, x12, x13, x14, x15, x16, x17, x18, rfl⟩
theorem of_l20 {α : Type} (l : List α) (h : l.length = 20) : ∃ x0 x1 x2 x3 x4 x5 x6 x7 x8 x9 x10 x11 x12 x13 x14 x15 x16 x17 x18 x19, l = [x0, x1, x2, x3, x4, x5, x6, x7, x8, x9, x10, x11, x12, x13, x14, x15, x16, x17, x18, x19] := by
  match l, h with
  | [x0, x1, x2, x3, x4, x5, x6, x7, x8, x9, x10, x11, x12, x13, x14, x15, x16, x17, x18, x19], _ => exact ⟨x0, x1, x2, x3, x4, x5, x6, x7, x8, x9, x10, x11, x12, x13, x14, x15, x16, x17, x18, x19, rfl⟩

end Go.Proofs.Ythbiadhnlomhmaa
