/- A slice that reads as a list of structs: m cells each. -/
import Derived.Test.YtgmgoilleakdcaaGAgg
import Derived.Deep.Slices
import Derived.Test.YtgmgoilleakdcaaGTailQ
import Derived.Laws.AppendOwnNone
import Derived.Deep.RegionHeld3
import Derived.Deep.AppendLies
import Derived.Deep.RegionHeld
import Derived.Test.YtgmgoilleakdcaaTcpRb
namespace Go.Proofs.Ytgmgoilleakdcaa
open Go.ChangeShapes Go.WideShapes Go.ChangeAt Go.RowKit Go.Deep

/-- A slice that reads as these things, of m cells each. -/
def Sts {α : Type} (m : Nat) (cells : α → List Value) (ok : World → α → Prop) (w : World) (a : Option Addr) (rs : List α) : Prop :=
  (∀ r ∈ rs, ok w r) ∧ (rs = [] ∨ ∃ b off, a = some ⟨b, off, none⟩ ∧ b < w.heap.size ∧ ∀ (i : Nat) (r : α), rs[i]? = some r → ∀ (j : Nat) (v : Value), (cells r)[j]? = some v → w.cell? ⟨b, off + i * m + j, none⟩ = some v)

theorem Sts.below {α : Type} {m : Nat} {cells : α → List Value} {ok : World → α → Prop} {w w' : World} {a : Option Addr} {rs : List α} (hok : ∀ r, ok w r → ok w' r) (h : Sts m cells ok w a rs) (hb : Below w.heap.size w w') : Sts m cells ok w' a rs := by
  obtain ⟨h1, h2 | ⟨b, off, rfl, hlt, hc⟩⟩ := h
  · exact ⟨fun r hr => hok r (h1 r hr), .inl h2⟩
  · exact ⟨fun r hr => hok r (h1 r hr), .inr ⟨b, off, rfl, Nat.lt_of_lt_of_le hlt hb.size, fun i r hr j v hv => (hb.cell (p := ⟨b, off + i * m + j, none⟩) hlt).trans (hc i r hr j v hv)⟩⟩

/-- .. at a place. -/
theorem Sts.at {α : Type} {m : Nat} {cells : α → List Value} {ok : World → α → Prop} {w : World} {a : Option Addr} {rs : List α} (h : Sts m cells ok w a rs) {i : Nat} {r : α} (hi : rs[i]? = some r) :
    ok w r ∧ ∃ b off, a = some ⟨b, off, none⟩ ∧ b < w.heap.size ∧ ∀ (j : Nat) (v : Value), (cells r)[j]? = some v → w.cell? ⟨b, off + i * m + j, none⟩ = some v := by
  refine ⟨h.1 r (List.mem_of_getElem? hi), ?_⟩
  rcases h.2 with rfl | ⟨b, off, rfl, hb, hc⟩
  · simp at hi
  · exact ⟨b, off, rfl, hb, fun j v hv => hc i r hi j v hv⟩

theorem Sts.nil {α : Type} {m : Nat} {cells : α → List Value} {ok : World → α → Prop} (w : World) (a : Option Addr) : Sts m cells ok w a [] := ⟨(fun _ h => by cases h), .inl rfl⟩

theorem open_sts {H : Type} {enc : TypeId × Value → H} {P : Program} {W : World} {base fuel : Nat} {held : Bool} {t e : TypeId} {m : Nat} {α : Type} {cells : α → List Value} {ok : World → α → Prop} (ht : P.underlying t = some (.slice e)) (hC : P.cellsOf e = m)
    (hm0 : 0 < m) (each : ∀ (n : Nat) (cs : List Value) (x : DataW H × List MemPlace), DataW.trod enc P W base (fun _ => true) held n e cs = some x → cs.length = m → ∃ r : α, ok W r ∧ cs = cells r)
    {c : Value} {y : DataW H × List MemPlace} (h : DataW.trod enc P W base (fun _ => true) held fuel t [c] = some y) :
    ∃ (a : Option Addr) (rs : List α) (cap : Nat), c = .slice a rs.length cap ∧ Sts m cells ok W a rs ∧ (a = none → cap = 0) ∧ (rs.length ≤ cap ∧ cap ≤ maxLen) ∧
      ((y.1 = .nil ∧ rs = []) ∨ ∃ es ws : List (DataW H), y.1 = .slice es ws ∧ rs.length = es.length) := by
  rcases DataW.trod_slice ht h with ⟨hcs, hy⟩ | ⟨x, len, cap, elems, rest, n, _, hcs, hd, hb, hl, hm, hlen, hel, _, _⟩
  · simp only [List.cons.injEq, and_true] at hcs
    subst hcs
    exact ⟨none, [], 0, rfl, Sts.nil _ _, fun _ => rfl, ⟨Nat.le_refl _, Nat.zero_le _⟩, .inl ⟨by rw [hy], rfl⟩⟩
  · simp only [List.cons.injEq, and_true] at hcs
    subst hcs
    have one : ∀ i, i < len → ∃ r : α, ok W r ∧ (cells r).length = m ∧ ∀ j, j < m → W.cell? (x.add (i * m + j)) = (cells r)[j]? := by
      intro i hi
      have h1 := hel i hi
      rw [List.getElem?_eq_getElem (by omega), hC, Option.bind_eq_some_iff] at h1
      obtain ⟨cs, hcs, ht⟩ := h1
      obtain ⟨_, hcl, hcell⟩ := World.cells?_some hcs
      obtain ⟨r, hr, rfl⟩ := each _ _ _ ht hcl
      refine ⟨r, hr, hcl, fun j hj => ?_⟩
      have := hcell j hj
      rwa [Addr.add_add] at this
    have el : (List.ofFn fun i : Fin len => Classical.choose (one i.1 i.2)).length = len := by simp
    have eg : ∀ i r, (List.ofFn fun i : Fin len => Classical.choose (one i.1 i.2))[i]? = some r → i < len ∧ ok W r ∧ (cells r).length = m ∧ ∀ j, j < m → W.cell? (x.add (i * m + j)) = (cells r)[j]? := by
      intro i r hr
      rw [List.getElem?_ofFn] at hr
      split at hr
      · rename_i hi
        obtain rfl := Option.some.inj hr
        exact ⟨hi, Classical.choose_spec (one i hi)⟩
      · cases hr
    generalize (List.ofFn fun i : Fin len => Classical.choose (one i.1 i.2)) = rs at el eg
    subst el
    refine ⟨some x, rs, cap, rfl, ⟨fun r hr => ?_, ?_⟩, (fun h => by cases h), ⟨hl, hm⟩, .inr ⟨elems.map (·.1), rest.map (·.1), by rw [hd], by rw [List.length_map, hlen]⟩⟩
    · obtain ⟨i, hi⟩ := List.getElem?_of_mem hr
      exact (eg i r hi).2.1
    · by_cases h0 : rs = []
      · exact .inl h0
      · right
        have hp : 0 < rs.length := List.length_pos_iff.2 h0
        obtain ⟨_, _, hrl, h2⟩ := eg 0 _ (List.getElem?_eq_getElem hp)
        have h3 := h2 0 hm0
        rw [List.getElem?_eq_getElem (by omega)] at h3
        obtain ⟨b, off, spot⟩ := x
        have hspot : spot = none := by simpa [Addr.add] using World.cell?_spot h3
        subst hspot
        rw [Go.WideShapes.add_plain] at h3
        refine ⟨b, off, rfl, World.block_lt_of_cell? _ _ h3, fun i r hr j v hv => ?_⟩
        obtain ⟨_, _, hrl, h4⟩ := eg i r hr
        have hj : j < m := by have := (List.getElem?_eq_some_iff.1 hv).1; omega
        have h5 := h4 j hj
        rw [Go.WideShapes.add_plain, ← Nat.add_assoc, hv] at h5
        exact h5

/-- How many there can be. -/
theorem sts_reach {H : Type} {P : Program} {t e : TypeId} {α : Type} {d : DataW H} {rs : List α} (ht : P.underlying t = some (.slice e)) (h : (d = .nil ∧ rs = []) ∨ ∃ es ws : List (DataW H), d = .slice es ws ∧ rs.length = es.length)
    (hw : ∀ n ∈ d.weights P t, n ≤ reachBytes) : rs.length * P.bytesOf e ≤ reachBytes := by
  rcases h with ⟨_, rfl⟩ | ⟨es, ws, rfl, hl⟩
  · simp
  · have := hw ((es.length + ws.length) * P.bytesOf e) (by simp [DataW.weights, ht])
    rw [Nat.add_mul] at this
    rw [hl]; omega

theorem of_l1 {α : Type} (l : List α) (h : l.length = 1) : ∃ x0, l = [x0] := by
  match l, h with
  | [x0], _ => exact ⟨x0, rfl⟩
theorem of_l2 {α : Type} (l : List α) (h : l.length = 2) : ∃ x0 x1, l = [x0, x1] := by
  match l, h with
  | [x0, x1], _ => exact ⟨x0, x1, rfl⟩
theorem of_l3 {α : Type} (l : List α) (h : l.length = 3) : ∃ x0 x1 x2, l = [x0, x1, x2] := by
  match l, h with
  | [x0, x1, x2], _ => exact ⟨x0, x1, x2, rfl⟩
theorem of_l4 {α : Type} (l : List α) (h : l.length = 4) : ∃ x0 x1 x2 x3, l = [x0, x1, x2, x3] := by
  match l, h with
  | [x0, x1, x2, x3], _ => exact ⟨x0, x1, x2, x3, rfl⟩
theorem of_l5 {α : Type} (l : List α) (h : l.length = 5) : ∃ x0 x1 x2 x3 x4, l = [x0, x1, x2, x3, x4] := by
  match l, h with
  | [x0, x1, x2, x3, x4], _ => exact ⟨x0, x1, x2, x3, x4, rfl⟩
theorem of_l6 {α : Type} (l : List α) (h : l.length = 6) : ∃ x0 x1 x2 x3 x4 x5, l = [x0, x1, x2, x3, x4, x5] := by
  match l, h with
  | [x0, x1, x2, x3, x4, x5], _ => exact ⟨x0, x1, x2, x3, x4, x5, rfl⟩
theorem of_l7 {α : Type} (l : List α) (h : l.length = 7) : ∃ x0 x1 x2 x3 x4 x5 x6, l = [x0, x1, x2, x3, x4, x5, x6] := by
  match l, h with
  | [x0, x1, x2, x3, x4, x5, x6], _ => exact ⟨x0, x1, x2, x3, x4, x5, x6, rfl⟩
theorem of_l8 {α : Type} (l : List α) (h : l.length = 8) : ∃ x0 x1 x2 x3 x4 x5 x6 x7, l = [x0, x1, x2, x3, x4, x5, x6, x7] := by
  match l, h with
  | [x0, x1, x2, x3, x4, x5, x6, x7], _ => exact ⟨x0, x1, x2, x3, x4, x5, x6, x7, rfl⟩
theorem of_l9 {α : Type} (l : List α) (h : l.length = 9) : ∃ x0 x1 x2 x3 x4 x5 x6 x7 x8, l = [x0, x1, x2, x3, x4, x5, x6, x7, x8] := by
  match l, h with
  | [x0, x1, x2, x3, x4, x5, x6, x7, x8], _ => exact ⟨x0, x1, x2, x3, x4, x5, x6, x7, x8, rfl⟩
theorem of_l10 {α : Type} (l : List α) (h : l.length = 10) : ∃ x0 x1 x2 x3 x4 x5 x6 x7 x8 x9, l = [x0, x1, x2, x3, x4, x5, x6, x7, x8, x9] := by
  match l, h with
  | [x0, x1, x2, x3, x4, x5, x6, x7, x8, x9], _ => exact ⟨x0, x1, x2, x3, x4, x5, x6, x7, x8, x9, rfl⟩
theorem of_l11 {α : Type} (l : List α) (h : l.length = 11) : ∃ x0 x1 x2 x3 x4 x5 x6 x7 x8 x9 x10, l = [x0, x1, x2, x3, x4, x5, x6, x7, x8, x9, x10] := by
  match l, h with
  | [x0, x1, x2, x3, x4, x5, x6, x7, x8, x9, x10], _ => exact ⟨x0, x1, x2, x3, x4, x5, x6, x7, x8, x9, x10, rfl⟩
theorem of_l12 {α : Type} (l : List α) (h : l.length = 12) : ∃ x0 x1 x2 x3 x4 x5 x6 x7 x8 x9 x10 x11, l = [x0, x1, x2, x3, x4, x5, x6, x7, x8, x9, x10, x11] := by
  match l, h with
  | [x0, x1, x2, x3, x4, x5, x6, x7, x8, x9, x10, x11], _ => exact ⟨x0, x1, x2, x3, x4, x5, x6, x7, x8, x9, x10, x11, rfl⟩
theorem of_l13 {α : Type} (l : List α) (h : l.length = 13) : ∃ x0 x1 x2 x3 x4 x5 x6 x7 x8 x9 x10 x11 x12, l = [x0, x1, x2, x3, x4, x5, x6, x7, x8, x9, x10, x11, x12] := by
  match l, h with
  | [x0, x1, x2, x3, x4, x5, x6, x7, x8, x9, x10, x11, x12], _ => exact ⟨x0, x1, x2, x3, x4, x5, x6, x7, x8, x9, x10, x11, x12, rfl⟩
theorem of_l14 {α : Type} (l : List α) (h : l.length = 14) : ∃ x0 x1 x2 x3 x4 x5 x6 x7 x8 x9 x10 x11 x12 x13, l = [x0, x1, x2, x3, x4, x5, x6, x7, x8, x9, x10, x11, x12, x13] := by
  match l, h with
  | [x0, x1, x2, x3, x4, x5, x6, x7, x8, x9, x10, x11, x12, x13], _ => exact ⟨x0, x1, x2, x3, x4, x5, x6, x7, x8, x9, x10, x11, x12, x13, rfl⟩
theorem of_l15 {α : Type} (l : List α) (h : l.length = 15) : ∃ x0 x1 x2 x3 x4 x5 x6 x7 x8 x9 x10 x11 x12 x13 x14, l = [x0, x1, x2, x3, x4, x5, x6, x7, x8, x9, x10, x11, x12, x13, x14] := by
  match l, h with
  | [x0, x1, x2, x3, x4, x5, x6, x7, x8, x9, x10, x11, x12, x13, x14], _ => exact ⟨x0, x1, x2, x3, x4, x5, x6, x7, x8, x9, x10, x11, x12, x13, x14, rfl⟩
theorem of_l16 {α : Type} (l : List α) (h : l.length = 16) : ∃ x0 x1 x2 x3 x4 x5 x6 x7 x8 x9 x10 x11 x12 x13 x14 x15, l = [x0, x1, x2, x3, x4, x5, x6, x7, x8, x9, x10, x11, x12, x13, x14, x15] := by
  match l, h with
  | [x0, x1, x2, x3, x4, x5, x6, x7, x8, x9, x10, x11, x12, x13, x14, x15], _ => exact ⟨x0, x1, x2, x3, x4, x5, x6, x7, x8, x9, x10, x11, x12, x13, x14, x15, rfl⟩
theorem of_l17 {α : Type} (l : List α) (h : l.length = 17) : ∃ x0 x1 x2 x3 x4 x5 x6 x7 x8 x9 x10 x11 x12 x13 x14 x15 x16, l = [x0, x1, x2, x3, x4, x5, x6, x7, x8, x9, x10, x11, x12, x13, x14, x15, x16] := by
  match l, h with
  | [x0, x1, x2, x3, x4, x5, x6, x7, x8, x9, x10, x11, x12, x13, x14, x15, x16], _ => exact ⟨x0, x1, x2, x3, x4, x5, x6, x7, x8, x9, x10, x11, x12, x13, x14, x15, x16, rfl⟩
theorem of_l18 {α : Type} (l : List α) (h : l.length = 18) : ∃ x0 x1 x2 x3 x4 x5 x6 x7 x8 x9 x10 x11 x12 x13 x14 x15 x16 x17, l = [x0, x1, x2, x3, x4, x5, x6, x7, x8, x9, x10, x11, x12, x13, x14, x15, x16, x17] := by
  match l, h with
  | [x0, x1, x2, x3, x4, x5, x6, x7, x8, x9, x10, x11, x12, x13, x14, x15, x16, x17], _ => exact ⟨x0, x1, x2, x3, x4, x5, x6, x7, x8, x9, x10, x11, x12, x13, x14, x15, x16, x17, rfl⟩
theorem of_l19 {α : Type} (l : List α) (h : l.length = 19) : ∃ x0 x1 x2 x3 x4 x5 x6 x7 x8 x9 x10 x11 x12 x13 x14 x15 x16 x17 x18, l = [x0, x1, x2, x3, x4, x5, x6, x7, x8, x9, x10, x11, x12, x13, x14, x15, x16, x17, x18] := by
  match l, h with
  | [x0, x1, x2, x3, x4, x5, x6, x7, x8, x9, x10, x11, x12, x13, x14, x15, x16, x17, x18], _ => exact ⟨x0, x1, x2, x3, x4, x5, x6, x7, x8, x9, x10, x11, x12, x13, x14, x15, x16, x17, x18, rfl⟩
theorem of_l20 {α : Type} (l : List α) (h : l.length = 20) : ∃ x0 x1 x2 x3 x4 x5 x6 x7 x8 x9 x10 x11 x12 x13 x14 x15 x16 x17 x18 x19, l = [x0, x1, x2, x3, x4, x5, x6, x7, x8, x9, x10, x11, x12, x13, x14, x15, x16, x17, x18, x19] := by
  match l, h with
  | [x0, x1, x2, x3, x4, x5, x6, x7, x8, x9, x10, x11, x12, x13, x14, x15, x16, x17, x18, x19], _ => exact ⟨x0, x1, x2, x3, x4, x5, x6, x7, x8, x9, x10, x11, x12, x13, x14, x15, x16, x17, x18, x19, rfl⟩

end Go.Proofs.Ytgmgoilleakdcaa

namespace Go.Proofs.Ytgmgoilleakdcaa
open Go.RowKit

/-- A slice type, its elements' type, their zero value, cells and bytes. -/
structure Elem (t e : TypeId) (z : Value) (m bz : Nat) : Prop where
  und : Try.prog.underlying t = some (.slice e)
  inf : (Try.prog.info? e).map (fun i => (i.zero, i.size, i.bytes)) = some (some z, m, bz)
  zs : z.cells.size = m
  pos : 0 < m

/-- How a thing lies in m cells. -/
structure Enc {α : Type} (m : Nat) (cells : α → List Value) : Prop where
  len : ∀ x, (cells x).length = m
  one : ∀ x, ∀ u ∈ cells x, u.oneCell' = true
  pos : 0 < m

section
variable {α : Type} {m : Nat} {cells : α → List Value}

theorem flat_len (E : Enc m cells) (xs : List α) : (xs.flatMap cells).length = xs.length * m := by
  induction xs with
  | nil => simp
  | cons x xs ih => rw [List.flatMap_cons, List.length_append, E.len, ih, List.length_cons, Nat.succ_mul, Nat.add_comm]

theorem flat_one (E : Enc m cells) (xs : List α) : ∀ u ∈ xs.flatMap cells, u.oneCell' = true := by
  intro u hu
  obtain ⟨x, _, h⟩ := List.mem_flatMap.1 hu
  exact E.one x u h

theorem flat_get (E : Enc m cells) {xs : List α} {i j : Nat} {x : α} {v : Value} (hi : xs[i]? = some x) (hj : (cells x)[j]? = some v) : (xs.flatMap cells)[i * m + j]? = some v := by
  induction xs generalizing i with
  | nil => simp at hi
  | cons y xs ih =>
    have hjl : j < m := by rw [← E.len x]; exact (List.getElem?_eq_some_iff.1 hj).1
    rw [List.flatMap_cons]
    cases i with
    | zero =>
      simp only [List.getElem?_cons_zero, Option.some.injEq] at hi
      subst hi
      rw [Nat.zero_mul, Nat.zero_add, List.getElem?_append_left (by rw [E.len]; exact hjl), hj]
    | succ i =>
      rw [List.getElem?_cons_succ] at hi
      have e : (i + 1) * m + j = (cells y).length + (i * m + j) := by rw [E.len, Nat.succ_mul]; omega
      rw [e, List.getElem?_append_right (by omega), Nat.add_sub_cancel_left]
      exact ih hi

theorem flat_of (E : Enc m cells) {xs : List α} {k : Nat} {v : Value} (h : (xs.flatMap cells)[k]? = some v) : ∃ i j x, k = i * m + j ∧ xs[i]? = some x ∧ (cells x)[j]? = some v := by
  induction xs generalizing k with
  | nil => simp at h
  | cons y xs ih =>
    rw [List.flatMap_cons] at h
    by_cases hk : k < m
    · rw [List.getElem?_append_left (by rw [E.len]; exact hk)] at h
      exact ⟨0, k, y, by omega, rfl, h⟩
    · rw [List.getElem?_append_right (by rw [E.len]; omega), E.len] at h
      obtain ⟨i, j, x, e, h1, h2⟩ := ih h
      exact ⟨i + 1, j, x, by rw [Nat.succ_mul]; omega, by rw [List.getElem?_cons_succ]; exact h1, h2⟩

/-- A list that reads so, as the source of an append. -/
theorem Sts.srcF (E : Enc m cells) {ok : World → α → Prop} {w : World} {ad : Addr} {xs : List α} (h : Sts m cells ok w (some ad) xs) : ∀ j u, (xs.flatMap cells)[j]? = some u → w.cell? (ad.add j) = some u := by
  intro k u hk
  obtain ⟨i, j, x, rfl, h1, h2⟩ := flat_of E hk
  rcases h.2 with rfl | ⟨b, off, e, hb, hc⟩
  · simp at h1
  · cases e
    have e : (⟨b, off, none⟩ : Addr).add (i * m + j) = ⟨b, off + i * m + j, none⟩ := by unfold Addr.add; split <;> simp_all [Nat.add_assoc]
    rw [e]; exact hc i x h1 j u h2

/-- Any. -/
def Tr (_w : World) (_x : α) : Prop := True
theorem Sts.weak {ok : World → α → Prop} {w : World} {a : Option Addr} {xs : List α} (h : Sts m cells ok w a xs) : Sts m cells Tr w a xs := ⟨fun _ _ => trivial, h.2⟩
theorem Sts.belowT {w w' : World} {a : Option Addr} {xs : List α} (h : Sts m cells Tr w a xs) (hb : Below w.heap.size w w') : Sts m cells Tr w' a xs := Sts.below (w := w) (fun _ _ => trivial) h hb
theorem Sts.isSomeT {w : World} {a : Option Addr} {xs : List α} (h : Sts m cells Tr w a xs) (hx : 0 < xs.length) : ∃ b off, a = some ⟨b, off, none⟩ ∧ b < w.heap.size ∧ ∀ (i : Nat) (r : α), xs[i]? = some r → ∀ (j : Nat) (v : Value), (cells r)[j]? = some v → w.cell? ⟨b, off + i * m + j, none⟩ = some v := by
  rcases h.2 with rfl | h
  · simp at hx
  · exact h
/-- What is built on the spot. -/
theorem sts_new (E : Enc m cells) (w : World) (xs : List α) (t : TypeId) (fr : Nat × Nat) : Sts m cells Tr (w.alloc (.cells (xs.flatMap cells).toArray t fr)) (some ⟨w.heap.size, 0, none⟩) xs := by
  refine ⟨fun _ _ => trivial, .inr ⟨w.heap.size, 0, rfl, by simp, fun i r hr j v hv => ?_⟩⟩
  have := flat_get E hr hv
  rw [Nat.zero_add]
  simp only [World.cell?, heap_alloc_new]
  simpa using this

/-- A slice, nil or in a row of its own from block B on, of these things. -/
def OwnR (e : TypeId) (m : Nat) (cells : α → List Value) (B : Nat) (a : Option Addr) (xs : List α) (cap : Nat) (w : World) : Prop :=
  (a = none ∧ xs = [] ∧ cap = 0) ∨ ∃ g, a = some ⟨g, 0, none⟩ ∧ B ≤ g ∧ w.ownsRow B e m (.slice (some ⟨g, 0, none⟩) xs.length cap) xs.length (xs.flatMap cells)

variable {e : TypeId} {B : Nat} {a : Option Addr} {xs : List α} {cap : Nat} {w w' : World}
theorem ownR_nil (e : TypeId) (m : Nat) (cells : α → List Value) (B : Nat) (w : World) : OwnR e m cells B none [] 0 w := .inl ⟨rfl, rfl, rfl⟩
theorem OwnR.keepRow (h : OwnR e m cells B a xs cap w) (hk : ∀ g o, a = some ⟨g, 0, none⟩ → w.heap[g]? = some o → w'.heap[g]? = some o) : OwnR e m cells B a xs cap w' := by
  rcases h with h | ⟨g, rfl, hB, hr⟩
  · exact .inl h
  · refine .inr ⟨g, rfl, hB, hr.1, ?_⟩
    rcases hr.2 with h0 | ⟨g', cap', cur, e', h1, h2, h3⟩
    · exact .inl h0
    · have e2 := e'
      simp only [Value.slice.injEq, Option.some.injEq, Addr.mk.injEq] at e2
      obtain ⟨⟨rfl, _, _⟩, _, _⟩ := e2
      exact .inr ⟨g, cap', cur, e', h1, hk g _ rfl h2, h3⟩
theorem OwnR.below (h : OwnR e m cells B a xs cap w) (hb : Below w.heap.size w w') : OwnR e m cells B a xs cap w' :=
  h.keepRow fun g _ _ ho => (hb.block g (blk_lt ho)).trans ho
theorem OwnR.mono {B' : Nat} (h : OwnR e m cells B a xs cap w) (hb : B' ≤ B) : OwnR e m cells B' a xs cap w := by
  rcases h with h | ⟨g, rfl, hB, hr⟩
  · exact .inl h
  · refine .inr ⟨g, rfl, by omega, hr.1, ?_⟩
    rcases hr.2 with h0 | ⟨g', cap', cur, e', h1, h2⟩
    · exact .inl h0
    · exact .inr ⟨g', cap', cur, e', by omega, h2⟩
theorem OwnR.nilcap (h : OwnR e m cells B a xs cap w) : a = none → cap = 0 := by
  rcases h with ⟨_, _, h⟩ | ⟨g, ha, _⟩
  · exact fun _ => h
  · intro h; rw [ha] at h; cases h
theorem OwnR.rowAny (h : OwnR e m cells B a xs cap w) : w.ownsRow B e m (.slice a xs.length cap) xs.length (xs.flatMap cells) := by
  rcases h with ⟨rfl, rfl, rfl⟩ | ⟨g, rfl, _, hr⟩
  · exact World.ownsRow_nil _ _ _ _
  · exact hr
theorem OwnR.of_row {v : Value} (h : w.ownsRow B e m v xs.length (xs.flatMap cells)) : ∃ a cap, v = .slice a xs.length cap ∧ OwnR e m cells B a xs cap w := by
  rcases h.2 with ⟨rfl, h0⟩ | ⟨g, cap', cur, rfl, hB, h2⟩
  · obtain rfl : xs = [] := List.eq_nil_of_length_eq_zero h0
    exact ⟨none, 0, rfl, .inl ⟨rfl, rfl, rfl⟩⟩
  · exact ⟨some ⟨g, 0, none⟩, cap', rfl, .inr ⟨g, rfl, hB, h⟩⟩
theorem OwnR.ownB (h : OwnR e m cells B a xs cap w) : ∀ k, (Value.slice a xs.length cap).ownBlock = some k → B ≤ k ∧ k < w.heap.size := by
  rcases h with ⟨rfl, rfl, rfl⟩ | ⟨g, rfl, hB, hr⟩
  · intro k e; cases e
  · intro k e; cases e; exact ⟨hB, (hr.lt g rfl).2⟩
/-- .. lies on where another block is turned. -/
theorem OwnR.grown {r : Option Nat} (h : OwnR e m cells B a xs cap w) (hg : w.grownBy w' r) (hne : ∀ g, a = some ⟨g, 0, none⟩ → some g ≠ r) : OwnR e m cells B a xs cap w' :=
  h.keepRow fun g _ ha ho => (hg.block g (blk_lt ho) (hne g ha)).trans ho
theorem OwnR.sts (E : Enc m cells) (h : OwnR e m cells B a xs cap w) : Sts m cells Tr w a xs := by
  rcases h with ⟨_, rfl, _⟩ | ⟨g, rfl, _, hr⟩
  · exact Sts.nil _ _
  · refine ⟨fun _ _ => trivial, .inr ⟨g, 0, rfl, (hr.lt g rfl).2, fun i r hi j v hj => ?_⟩⟩
    have := hr.cells (g := g) rfl _ _ (flat_get E hi hj)
    rw [Nat.zero_add]
    have e : (⟨g, 0, none⟩ : Addr).add (i * m + j) = ⟨g, i * m + j, none⟩ := by unfold Addr.add; split <;> simp_all
    rwa [e] at this
theorem OwnR.capLe (h : OwnR e m cells B a xs cap w) : xs.length ≤ cap ∧ cap ≤ maxLen := by
  rcases h with ⟨_, rfl, rfl⟩ | ⟨g, rfl, _, hr⟩
  · exact ⟨Nat.le_refl _, Nat.zero_le _⟩
  · rcases hr.2 with ⟨h, _⟩ | ⟨g', cap', cur, e, _, _, h1, h2, _⟩
    · cases h
    · cases e; exact ⟨h1, h2⟩
theorem OwnR.isSome (h : OwnR e m cells B a xs cap w) (hx : 0 < xs.length) : ∃ g, a = some ⟨g, 0, none⟩ ∧ B ≤ g ∧ g < w.heap.size := by
  rcases h with ⟨_, rfl, _⟩ | ⟨g, rfl, hB, hr⟩
  · simp at hx
  · exact ⟨g, rfl, hB, (hr.lt g rfl).2⟩
/-- A literal list is one's own. -/
theorem ownR_new (E : Enc m cells) (e : TypeId) (w : World) (xs : List α) (hl : xs.length ≤ maxLen) : OwnR e m cells w.heap.size (some ⟨w.heap.size, 0, none⟩) xs xs.length (w.alloc (.cells (xs.flatMap cells).toArray e)) := by
  refine .inr ⟨w.heap.size, rfl, Nat.le_refl _, flat_len E xs, .inr ⟨w.heap.size, xs.length, (xs.flatMap cells).toArray, rfl, Nat.le_refl _, heap_alloc_new w _, Nat.le_refl _, hl, by simp [flat_len E], ?_⟩⟩
  exact List.take_of_length_le (by simp [flat_len E])

/-- An append. -/
theorem wp_append_r {o : Oper} {act : Act} {K : Act → World → Prop} {Q : Exit → Act → World → Prop} {t : TypeId} {z : Value} {bz : Nat} (L : Elem t e z m bz) (E : Enc m cells) (s x : Operand)
    (ho : o.op = .call { callee := .builtin .append, args := #[s, x], argTypes := #[t, t] }) (B : Nat) {a b : Option Addr} {xs ys : List α} {cap dap n : Nat} (hn : n = ys.length)
    (O : OwnR e m cells B a xs cap w) (Y : Sts m cells Tr w b ys) (hd : b = none → dap = 0) (hs : act.eval s = .slice a xs.length cap) (hx : act.eval x = .slice b n dap)
    (hlen : (xs.length + ys.length) * bz ≤ 140737488355328) (hml : xs.length + ys.length ≤ maxLen) (hB : B ≤ w.heap.size)
    (h : ∀ a' cap' w', OwnR e m cells B a' (xs ++ ys) cap' w' → Below B w w' → w.grownBy w' (Value.slice a xs.length cap).ownBlock → K (act.put o.dst (.slice a' (xs ++ ys).length cap')) w') : Oper.wp Try.prog o act w K Q := by
  subst hn
  obtain ⟨i0, hi, hz0, hz1, hz2⟩ := info_parts L.inf
  cases b with
  | none =>
    obtain rfl := hd rfl
    have hys : ys = [] := by
      rcases Y.2 with h | ⟨_, _, h, _⟩
      · exact h
      · cases h
    subst hys
    have hrun := run_append_owned_none (P := Try.prog) (w := w) B t o.type e i0 m L.und hi _ _ _ O.rowAny
    have h2 := h a cap w
    rw [List.append_nil] at h2
    unfold Oper.wp
    simp [execOp, ho, resolve, invoke, builtin, hs, hx, hrun, Result.andThen]
    exact h2 O (Below.refl _ _) ⟨rfl, rfl, rfl, Nat.le_refl _, fun _ _ _ => rfl⟩
  | some ad =>
    refine wp_append_own w s x t ho B e i0 z m bz L.und hi hz0 hz1 hz2 L.zs L.pos _ _ _ hs O.rowAny ad ys.length dap (ys.flatMap cells) hx (flat_len E ys) (Y.srcF E) (flat_one E ys) hml hlen hB ?_
    intro v' w' hown hgrow _
    rw [← List.flatMap_append, ← List.length_append] at hown
    obtain ⟨a', cap', rfl, O'⟩ := OwnR.of_row hown
    exact h a' cap' w' O' ((Below.refl _ _).grown hgrow hB (fun k e => (O.ownB k e).1)) hgrow

theorem wpList_append_r {ops : Array Oper} {rest : List Oper} {o : Oper} {act : Act} {Q : Exit → Act → World → Prop} {t : TypeId} {z : Value} {bz : Nat} (hgd : o.guard = none) (L : Elem t e z m bz) (E : Enc m cells) (s x : Operand)
    (ho : o.op = .call { callee := .builtin .append, args := #[s, x], argTypes := #[t, t] }) (B : Nat) {a b : Option Addr} {xs ys : List α} {cap dap n : Nat} (hn : n = ys.length)
    (O : OwnR e m cells B a xs cap w) (Y : Sts m cells Tr w b ys) (hd : b = none → dap = 0) (hs : act.eval s = .slice a xs.length cap) (hx : act.eval x = .slice b n dap)
    (hlen : (xs.length + ys.length) * bz ≤ 140737488355328) (hml : xs.length + ys.length ≤ maxLen) (hB : B ≤ w.heap.size)
    (h : ∀ a' cap' w', OwnR e m cells B a' (xs ++ ys) cap' w' → Below B w w' → w.grownBy w' (Value.slice a xs.length cap).ownBlock → wpList Try.prog ops Q rest (act.put o.dst (.slice a' (xs ++ ys).length cap')) w') : wpList Try.prog ops Q (o :: rest) act w :=
  wpList_plain hgd fun _ hK => wp_append_r L E s x ho B hn O Y hd hs hx hlen hml hB fun a' cap' w' h1 h2 h3 => hK _ _ (h a' cap' w' h1 h2 h3)

/-- At a step of a region that draws its order. -/
theorem step_append_r {ops : Array Oper} {o : Oper} {act : Act} {K : Act → World → Prop} {Q : Exit → Act → World → Prop} {E0 : Prop} {t : TypeId} {z : Value} {bz : Nat} (hgd : o.guard = none) (L : Elem t e z m bz) (E : Enc m cells) (s x : Operand)
    (ho : o.op = .call { callee := .builtin .append, args := #[s, x], argTypes := #[t, t] }) (B : Nat) {a b : Option Addr} {xs ys : List α} {cap dap n : Nat} (hn : n = ys.length)
    (O : OwnR e m cells B a xs cap w) (Y : Sts m cells Tr w b ys) (hd : b = none → dap = 0) (hs : act.eval s = .slice a xs.length cap) (hx : act.eval x = .slice b n dap)
    (hlen : (xs.length + ys.length) * bz ≤ 140737488355328) (hml : xs.length + ys.length ≤ maxLen) (hB : B ≤ w.heap.size)
    (h : ∀ a' cap' w', OwnR e m cells B a' (xs ++ ys) cap' w' → Below B w w' → w.grownBy w' (Value.slice a xs.length cap).ownBlock → K (act.put o.dst (.slice a' (xs ++ ys).length cap')) w') : if Region.wanted o (yielded ops act.tmps) = true then Oper.wp Try.prog o act w K Q else E0 := by
  have hw : Region.wanted o (yielded ops act.tmps) = true := by simp [Region.wanted, hgd]
  rw [if_pos hw]
  exact wp_append_r L E s x ho B hn O Y hd hs hx hlen hml hB h
end

/-- Ints. -/
def IC (x : Int) : List Value := [.int .i64 x]
theorem encI : Enc 1 IC := ⟨fun _ => rfl, fun x u hu => by simp only [IC, List.mem_singleton] at hu; subst hu; rfl, by decide⟩
theorem sts_int {w : World} {b off : Nat} {xs : List Int} (h : Sts 1 IC Tr w (some ⟨b, off, none⟩) xs) (i : Nat) (hi : i < xs.length) : w.cell? ⟨b, off + i, none⟩ = some (.int .i64 (xs.getD i 0)) := by
  obtain ⟨b', off', e, _, h2⟩ := h.isSomeT (by omega)
  cases e
  have := h2 i xs[i] (List.getElem?_eq_getElem hi) 0 (.int .i64 xs[i]) rfl
  rw [Nat.mul_one, Nat.add_zero] at this
  rw [this]
  simp [List.getD_eq_getElem?_getD, List.getElem?_eq_getElem hi]
end Go.Proofs.Ytgmgoilleakdcaa

namespace Go.Proofs.Ytgmgoilleakdcaa
open Go.RowKit
section
variable {P : Program} {ops : Array Oper} {Q : Exit → Act → World → Prop} {md : Region.Mode} {S : World → Prop} {k : Nat}

/-- Whatever order is picked from here on; S holds behind every operation but k. -/
def wpAnyU (P : Program) (md : Region.Mode) (ops : Array Oper) (Q : Exit → Act → World → Prop) (S : World → Prop) (k : Nat) : Nat → Array Bool → Act → World → Prop
  | 0, listed, a, w => Region.ready md ops listed = [] ∧ Q .normal a w
  | f + 1, listed, a, w => (Region.ready md ops listed = [] → Q .normal a w) ∧ ∀ i ∈ Region.ready md ops listed, wpOp P ops Q i (fun a' w' => (i ≠ k → S w') ∧ wpAnyU P md ops Q S k f (listed.setIfInBounds i true) a' w') a w

theorem wpAny_of_until : ∀ (f : Nat) (listed : Array Bool) (a : Act) (w : World), wpAnyU P md ops Q S k f listed a w → wpAny P md ops Q f listed a w
  | 0, _, _, _, h => h
  | f + 1, _, _, _, h => ⟨h.1, fun i hi => wpOp_mono (fun a' w' h' => wpAny_of_until f _ a' w' h'.2) (h.2 i hi)⟩

theorem ready_waits {i j : Nat} {listed : Array Bool} (hj : j ∈ Region.ready md ops listed) (hw : ((ops[j]?).map (·.after.any fun e => Region.binds md e && e.on == i)).getD false = true) : listed.getD i false = true := by
  obtain ⟨_, oj, hoj, hall⟩ := mem_ready.1 hj
  rw [hoj] at hw
  simp only [Option.map_some, Option.getD_some] at hw
  obtain ⟨e, he, hb⟩ := Array.any_eq_true'.1 hw
  simp only [Bool.and_eq_true, beq_iff_eq] at hb
  have := hall e he hb.1
  rwa [hb.2] at this
theorem unlisted_both {listed : Array Bool} {i : Nat} (h : listed.getD i true = false) : listed.getD i false = false := by
  rcases Nat.lt_or_ge i listed.size with h' | h'
  · simp [h'] at h ⊢; exact h
  · simp [Array.getElem?_eq_none h'] at h

theorem wpAnyU_first {i : Nat} {oi : Oper} {v : Value} (hi : ops[i]? = some oi) (hsel : ∀ (j : Nat) (o : Oper) cs b, ops[j]? = some o → o.op ≠ .select cs b)
    (hQ : ∀ c a w, Q (.panic c) (a.put oi.dst v) w → Q (.panic c) a w) (hwk : ((ops[k]?).map (·.after.any fun e => Region.binds md e && e.on == i)).getD false = true) :
    ∀ (f : Nat) (listed : Array Bool) (a : Act) (w : World),
      (∀ j oj, ops[j]? = some oj → j ≠ i → listed.getD j true = false → (∀ e ∈ oj.after, Region.binds md e = true → e.on ≠ i) → oi.apart ops oj = true) →
      i ∈ Region.ready md ops listed → YieldsIf P ops S oi v a → S w →
      wpAnyU P md ops Q S k f (listed.setIfInBounds i true) (a.put oi.dst v) w → wpAnyU P md ops Q S k (f + 1) listed a w := by
  intro f
  induction f with
  | zero =>
    intro listed a w _ hr hy hS H
    refine ⟨fun h => (by rw [h] at hr; cases hr), fun j hj => ?_⟩
    by_cases hji : j = i
    · subst hji; exact hy.wpOp hi hS ⟨fun _ => hS, H⟩
    · have := ready_mono hj hji
      rw [H.1] at this
      cases this
  | succ f ih =>
    intro listed a w hfree hr hy hS H
    have hun := unlisted_both (mem_ready.1 hr).1
    refine ⟨fun h => (by rw [h] at hr; cases hr), fun j hj => ?_⟩
    by_cases hji : j = i
    · subst hji; exact hy.wpOp hi hS ⟨fun _ => hS, H⟩
    · have hjk : j ≠ k := fun e => by
        subst e
        rw [ready_waits hj hwk] at hun
        cases hun
      have h1 := H.2 j (ready_mono hj hji)
      obtain ⟨hjun, oj, hoj, hall⟩ := mem_ready.1 hj
      have hnot : ∀ e ∈ oj.after, Region.binds md e = true → e.on ≠ i := fun e he hb heq => by
        have h1 := hall e he hb
        rw [heq, hun] at h1
        cases h1
      have h2 := wpOp_putIf hoj (hfree j oj hoj hji hjun hnot) (fun cs b => hsel i oi cs b hi) (fun cs b => hsel j oj cs b hoj) hQ hy h1
      have hfree' : ∀ m om, ops[m]? = some om → m ≠ i → (listed.setIfInBounds j true).getD m true = false →
          (∀ e ∈ om.after, Region.binds md e = true → e.on ≠ i) → oi.apart ops om = true := fun m om hm hmi hmun hno => by
        refine hfree m om hm hmi ?_ hno
        by_cases hjm : j = m
        · subst hjm; exact hjun
        · rw [getD_set_ne true hjm] at hmun; exact hmun
      refine wpOp_mono (fun a' w' h3 => ⟨h3.2.1, ih (listed.setIfInBounds j true) a' w' hfree' (ready_mono hr (Ne.symm hji)) h3.1 (h3.2.1 hjk) ?_⟩) h2
      rw [Array.setIfInBounds_comm _ _ hji]
      exact h3.2.2

theorem wpAnyU_take {i : Nat} {oi : Oper} {v : Value} {f : Nat} {listed : Array Bool} {a : Act} {w : World} (hi : ops[i]? = some oi)
    (hs : Region.noSelect ops = true) (hf : Region.free md ops listed i = true) (hr : (Region.ready md ops listed).contains i = true) (hwk : ((ops[k]?).map (·.after.any fun e => Region.binds md e && e.on == i)).getD false = true)
    (hQ : ∀ c a w, Q (.panic c) (a.put oi.dst v) w → Q (.panic c) a w) (hy : YieldsIf P ops S oi v a) (hS : S w)
    (h : wpAnyU P md ops Q S k f (listed.setIfInBounds i true) (a.put oi.dst v) w) : wpAnyU P md ops Q S k (f + 1) listed a w :=
  wpAnyU_first hi (Region.noSelect_spec hs) hQ hwk f listed a w (Region.free_spec hi hf) (by simpa using hr) hy hS h

/-- One alone may come up, and it is not k. -/
theorem wpAnyU_one {i : Nat} {o : Oper} {f : Nat} {listed : Array Bool} {a : Act} {w : World} (hr : Region.ready md ops listed = [i]) (ho : ops[i]? = some o)
    (h : ∀ K' : Act → World → Prop, Shut (∀ a w, S w → (S w → wpAnyU P md ops Q S k f (listed.setIfInBounds i true) a w) → K' a w) → if Region.wanted o (yielded ops a.tmps) = true then Oper.wp P o a w K' Q else K' (a.put o.dst undef) w) :
    wpAnyU P md ops Q S k (f + 1) listed a w := by
  refine ⟨fun h0 => (by rw [hr] at h0; cases h0), fun j hj => ?_⟩
  rw [hr] at hj
  obtain rfl : j = i := by simpa using hj
  exact wpOp_step ho (fun K' hK => h K' (fun a w hS hW => hK a w ⟨fun _ => hS, hW hS⟩))
/-- k itself. -/
theorem wpAnyU_last {o : Oper} {f : Nat} {listed : Array Bool} {a : Act} {w : World} (hr : Region.ready md ops listed = [k]) (ho : ops[k]? = some o)
    (h : ∀ K' : Act → World → Prop, Shut (∀ a w, wpAnyU P md ops Q S k f (listed.setIfInBounds k true) a w → K' a w) → if Region.wanted o (yielded ops a.tmps) = true then Oper.wp P o a w K' Q else K' (a.put o.dst undef) w) :
    wpAnyU P md ops Q S k (f + 1) listed a w := by
  refine ⟨fun h0 => (by rw [hr] at h0; cases h0), fun j hj => ?_⟩
  rw [hr] at hj
  obtain rfl : j = k := by simpa using hj
  exact wpOp_step ho (fun K' hK => h K' (fun a w hW => hK a w ⟨fun e => absurd rfl e, hW⟩))
theorem wpAnyU_done {listed : Array Bool} {a : Act} {w : World} (hr : Region.ready md ops listed = []) (h : Q .normal a w) : ∀ f, wpAnyU P md ops Q S k f listed a w
  | 0 => ⟨hr, h⟩
  | _ + 1 => ⟨fun _ => h, by rw [hr]; simp⟩
theorem wp_region_until {id : Nat} {a : Act} {w : World} (S : World → Prop) (k : Nat) (hm : P.follows .mixedOrders = true) (hS : S w.drew)
    (h : S w.drew → wpAnyU P .any ops Q S k ops.size (Array.replicate ops.size false) a w.drew) : (Code.region id ops true).wp P Q a w :=
  wp_region_any hm (wpAny_of_until _ _ _ _ (h hS))
end
end Go.Proofs.Ytgmgoilleakdcaa

namespace Go.Proofs.Ytgmgoilleakdcaa
open Go.RowKit

def BC5 (x : Nat × Nat) : List Value := [.int .u32 (x.1 : Nat), .int .u32 (x.2 : Nat)]
theorem encB5 : Enc 2 BC5 := ⟨fun _ => rfl, fun x u hu => by
  simp only [BC5, List.mem_cons, List.not_mem_nil, or_false] at hu
  rcases hu with rfl | rfl <;> rfl, by decide⟩
theorem elemB5 : Elem 24 68 (.agg #[.int .u32 0, .int .u32 0]) 2 8 := ⟨Try.underlying24, by kernel_rfl, rfl, by decide⟩
def bLs (ys : List Nat) (i : Nat) : List (Nat × Nat) := (tbL ys i).map (·.1)
theorem bLs_len (ys : List Nat) (i : Nat) : (bLs ys i).length = i := by unfold bLs; rw [List.length_map, tbL_length]
theorem bLs_step (ys : List Nat) (i : Nat) : bLs ys (i + 1) = bLs ys i ++ [(tbO ys i).1] := by
  unfold bLs tbL; rw [List.range_succ, List.map_append, List.map_append]; rfl

set_option maxRecDepth 100000 in
set_option maxHeartbeats 2000000 in
theorem rone_sacks (sp dp sq ak fl wn ur mss : Nat) (hs : Bool) (sc : Nat) (sk : Bool) (ht : Bool) (tv te : Nat) (da : Option Addr) (dn dc : Nat) (a : Option Addr) (ys : List Nat) (c : Nat) (w : World) (hx : Bts w a ys) (n : Nat) (hl : ys.length = 8 * n) (hn : n ≤ 4) (hc : ys.length ≤ c) :
    Calls Try.prog 47 #[.agg #[.int .u16 (sp : Nat), .int .u16 (dp : Nat), .int .u32 (sq : Nat), .int .u32 (ak : Nat), .int .u8 (fl : Nat), .int .u16 (wn : Nat), .int .u16 (ur : Nat), .int .i64 (mss : Nat), .bool hs, .int .i64 (sc : Nat), .bool sk, .slice none 0 0, .bool ht, .int .u32 (tv : Nat), .int .u32 (te : Nat), .slice da dn dc], .int .u8 5, .slice a ys.length c] w fun e w' => ∃ oa oc, e = .returned (.agg #[.int .u16 (sp : Nat), .int .u16 (dp : Nat), .int .u32 (sq : Nat), .int .u32 (ak : Nat), .int .u8 (fl : Nat), .int .u16 (wn : Nat), .int .u16 (ur : Nat), .int .i64 (mss : Nat), .bool hs, .int .i64 (sc : Nat), .bool sk, .slice oa n oc, .bool ht, .int .u32 (tv : Nat), .int .u32 (te : Nat), .slice da dn dc]) ∧ OwnR 68 2 BC5 w.heap.size oa (bLs ys n) oc w' ∧ Below w.heap.size w w' := by
  obtain ⟨gs, hgs⟩ : ∃ z, w.heap.size = z := ⟨_, rfl⟩
  have hs1 : (w.alloc (.cells #[.int .u16 (sp : Nat), .int .u16 (dp : Nat), .int .u32 (sq : Nat), .int .u32 (ak : Nat), .int .u8 (fl : Nat), .int .u16 (wn : Nat), .int .u16 (ur : Nat), .int .i64 (mss : Nat), .bool hs, .int .i64 (sc : Nat), .bool sk, .slice none 0 0, .bool ht, .int .u32 (tv : Nat), .int .u32 (te : Nat), .slice da dn dc] 27)).heap.size = gs + 1 := by simp [hgs]
  have b1 := (Below.refl w.heap.size w).alloc (Nat.le_refl _) (.cells #[.int .u16 (sp : Nat), .int .u16 (dp : Nat), .int .u32 (sq : Nat), .int .u32 (ak : Nat), .int .u8 (fl : Nat), .int .u16 (wn : Nat), .int .u16 (ur : Nat), .int .i64 (mss : Nat), .bool hs, .int .i64 (sc : Nat), .bool sk, .slice none 0 0, .bool ht, .int .u32 (tv : Nat), .int .u32 (te : Nat), .slice da dn dc] 27)
  have k1 := blk_new w (.cells #[.int .u16 (sp : Nat), .int .u16 (dp : Nat), .int .u32 (sq : Nat), .int .u32 (ak : Nat), .int .u8 (fl : Nat), .int .u16 (wn : Nat), .int .u16 (ur : Nat), .int .i64 (mss : Nat), .bool hs, .int .i64 (sc : Nat), .bool sk, .slice none 0 0, .bool ht, .int .u32 (tv : Nat), .int .u32 (te : Nat), .slice da dn dc] 27)
  have b2 := (Below.refl (w.alloc (.cells #[.int .u16 (sp : Nat), .int .u16 (dp : Nat), .int .u32 (sq : Nat), .int .u32 (ak : Nat), .int .u8 (fl : Nat), .int .u16 (wn : Nat), .int .u16 (ur : Nat), .int .i64 (mss : Nat), .bool hs, .int .i64 (sc : Nat), .bool sk, .slice none 0 0, .bool ht, .int .u32 (tv : Nat), .int .u32 (te : Nat), .slice da dn dc] 27)).heap.size (w.alloc (.cells #[.int .u16 (sp : Nat), .int .u16 (dp : Nat), .int .u32 (sq : Nat), .int .u32 (ak : Nat), .int .u8 (fl : Nat), .int .u16 (wn : Nat), .int .u16 (ur : Nat), .int .i64 (mss : Nat), .bool hs, .int .i64 (sc : Nat), .bool sk, .slice none 0 0, .bool ht, .int .u32 (tv : Nat), .int .u32 (te : Nat), .slice da dn dc] 27))).alloc (Nat.le_refl _) (.cells #[.int .u16 0, .int .u16 0, .int .u32 0, .int .u32 0, .int .u8 0, .int .u16 0, .int .u16 0, .int .i64 0, .bool false, .int .i64 0, .bool false, .slice none 0 0, .bool false, .int .u32 0, .int .u32 0, .slice none 0 0] 27)
  have k2 := blk_new (w.alloc (.cells #[.int .u16 (sp : Nat), .int .u16 (dp : Nat), .int .u32 (sq : Nat), .int .u32 (ak : Nat), .int .u8 (fl : Nat), .int .u16 (wn : Nat), .int .u16 (ur : Nat), .int .i64 (mss : Nat), .bool hs, .int .i64 (sc : Nat), .bool sk, .slice none 0 0, .bool ht, .int .u32 (tv : Nat), .int .u32 (te : Nat), .slice da dn dc] 27)) (.cells #[.int .u16 0, .int .u16 0, .int .u32 0, .int .u32 0, .int .u8 0, .int .u16 0, .int .u16 0, .int .i64 0, .bool false, .int .i64 0, .bool false, .slice none 0 0, .bool false, .int .u32 0, .int .u32 0, .slice none 0 0] 27)
  have k1' := (b2.block _ (Array.getElem?_eq_some_iff.1 k1).1).trans k1
  rw [hs1] at k2
  rw [hgs] at k1'
  have Q0 := Lib.hid (b1.trans (b2.mono b1.size))
  have K1 := Lib.hid k1'
  have K2 := Lib.hid k2
  have X0 := Lib.hid (hx.below Q0.out)
  have hx0 := Lib.hid hx
  clear hx b1 b2 k1 k1' k2
  go_enter Try.func47, Try.ntmps47
  go_upto_region 1 with fail
  generalize (w.alloc (.cells #[.int .u16 (sp : Nat), .int .u16 (dp : Nat), .int .u32 (sq : Nat), .int .u32 (ak : Nat), .int .u8 (fl : Nat), .int .u16 (wn : Nat), .int .u16 (ur : Nat), .int .i64 (mss : Nat), .bool hs, .int .i64 (sc : Nat), .bool sk, .slice none 0 0, .bool ht, .int .u32 (tv : Nat), .int .u32 (te : Nat), .slice da dn dc] 27)).alloc (.cells #[.int .u16 0, .int .u16 0, .int .u32 0, .int .u32 0, .int .u8 0, .int .u16 0, .int .u16 0, .int .i64 0, .bool false, .int .i64 0, .bool false, .slice none 0 0, .bool false, .int .u32 0, .int .u32 0, .slice none 0 0] 27) = V0 at K1 K2 Q0 X0 ⊢
  have ht1 : Hid (TcpAt V0 gs #[.int .u16 (sp : Nat), .int .u16 (dp : Nat), .int .u32 (sq : Nat), .int .u32 (ak : Nat), .int .u8 (fl : Nat), .int .u16 (wn : Nat), .int .u16 (ur : Nat), .int .i64 (mss : Nat), .bool hs, .int .i64 (sc : Nat), .bool sk, .slice none 0 0, .bool ht, .int .u32 (tv : Nat), .int .u32 (te : Nat), .slice da dn dc]) := Lib.hid K1.out
  have ht2 : Hid (TcpAt V0 (gs + 1) #[.int .u16 0, .int .u16 0, .int .u32 0, .int .u32 0, .int .u8 0, .int .u16 0, .int .u16 0, .int .i64 0, .bool false, .int .i64 0, .bool false, .slice none 0 0, .bool false, .int .u32 0, .int .u32 0, .slice none 0 0]) := Lib.hid K2.out
  have HGS := Lib.hid hgs
  clear K1 K2 hs1 hgs
  have hne0 := hx0
  obtain ⟨B0, hB0⟩ : ∃ z, V0.heap.size = z := ⟨_, rfl⟩
  have hgB : gs + 1 < B0 := by rw [← hB0]; exact (Array.getElem?_eq_some_iff.1 ht2.out).1
  have HB0 := Lib.hid hB0
  have HL8 := Lib.hid hl
  clear hB0 hl
  go_upto_region 11 with fail
  go_wp2_with fail
  go_loopw [7] (fun v wr => ∃ (i i8 : Nat) (oa : Option Addr) (oc : Nat), i8 = 8 * i ∧ i ≤ n ∧ v = .int .i64 (i8 : Nat) ∧ TcpAt wr gs #[.int .u16 (sp : Nat), .int .u16 (dp : Nat), .int .u32 (sq : Nat), .int .u32 (ak : Nat), .int .u8 (fl : Nat), .int .u16 (wn : Nat), .int .u16 (ur : Nat), .int .i64 (mss : Nat), .bool hs, .int .i64 (sc : Nat), .bool sk, .slice oa i oc, .bool ht, .int .u32 (tv : Nat), .int .u32 (te : Nat), .slice da dn dc] ∧ TcpAt wr (gs + 1) #[.int .u16 0, .int .u16 0, .int .u32 0, .int .u32 0, .int .u8 0, .int .u16 0, .int .u16 0, .int .i64 0, .bool false, .int .i64 0, .bool false, .slice none 0 0, .bool false, .int .u32 0, .int .u32 0, .slice none 0 0] ∧ OwnR 68 2 BC5 B0 oa (bLs ys i) oc wr ∧ Below w.heap.size w wr ∧ B0 ≤ wr.heap.size) (fun v _ => ys.length - (intOf v).toNat)
  case atStart => exact ⟨0, 0, none, 0, rfl, by omega, rfl, ht1.out, ht2.out, ownR_nil _ _ _ _ _, Q0.out, by rw [HB0.out]; exact Nat.le_refl _⟩
  case round =>
    obtain ⟨i, i8, oa, oc, hi8, hi, rfl, hT1, hT2, hO, hQ, hBw⟩ := hrel
    have T1 := Lib.hid hT1
    have T2 := Lib.hid hT2
    have OR := Lib.hid hO
    have QR := Lib.hid hQ
    have HI8 := Lib.hid hi8
    have hln := bLs_len ys i
    have hstp := bLs_step ys i
    obtain ⟨bl, hbl⟩ : ∃ z, bLs ys i = z := ⟨_, rfl⟩
    rw [hbl] at OR hln hstp
    have HLN := Lib.hid hln
    clear hT1 hT2 hO hQ
    by_cases hlt : i < n
    case neg =>
      obtain rfl : i = n := by omega
      have k1 : decide ((i8 : Int) < (ys.length : Int)) = false := decide_eq_false (by have := HL8.out; omega)
      have k2 : ¬ ((i8 : Int) < (ys.length : Int)) := by have := HL8.out; omega
      have HBL := Lib.hid hbl
      clear hi8 hln hstp hbl
      go_wp2_with (first
        | ((with_reducible show wpList _ _ _ _ _ _); refine wpList_load_tcp rfl (.tmp 3) rfl gs rfl _ T1.out rfl ?_)
        | ((with_reducible show wpList _ _ _ _ _ _); refine wpList_store_tcp rfl (.tmp 6) (.tmp 64) rfl (gs + 1) _ #[.int .u16 (sp : Nat), .int .u16 (dp : Nat), .int .u32 (sq : Nat), .int .u32 (ak : Nat), .int .u8 (fl : Nat), .int .u16 (wn : Nat), .int .u16 (ur : Nat), .int .i64 (mss : Nat), .bool hs, .int .i64 (sc : Nat), .bool sk, .slice oa i oc, .bool ht, .int .u32 (tv : Nat), .int .u32 (te : Nat), .slice da dn dc] rfl rfl T2.out rfl rfl (by simp [Value.oneCell']) ?_; intro VE hs2 hg2; have K2 := Lib.hid hs2; have G2 := Lib.hid hg2; clear hs2 hg2)
        | fail)
      refine bodyPost_ret (results_tcp1 rfl _ _ (gs + 1) _ rfl K2.out rfl) rfl ⟨oa, oc, rfl, ?_, QR.out.grown G2.out QR.out.size (fun j e => by cases e; have := HGS.out; omega)⟩
      rw [HBL.out]
      exact (OR.out.grown G2.out (fun g' e1 e2 => by have h6 := Option.some.inj e2; have := (OR.out.ownB g' (by rw [e1]; rfl)).1; omega)).mono (by have := HGS.out; omega)
    case pos =>
      obtain ⟨bb, bo, rfl, hbl2, _⟩ := hx0.out.isSome (by have := HL8.out; omega)
      obtain ⟨i4, hi4⟩ : ∃ z, i8 + 4 = z := ⟨_, rfl⟩
      obtain ⟨ie, hie⟩ : ∃ z, i8 + 8 = z := ⟨_, rfl⟩
      have hl8 := HL8.out
      have k1 : (i8 : Int) < (ys.length : Int) := by omega
      have k1d : decide ((i8 : Int) < (ys.length : Int)) = true := decide_eq_true k1
      have W4 : IntKind.i64.wrap ((i8 : Int) + 4) = (i4 : Int) := by rw [IntWalk.i64_in _ ⟨by omega, by omega⟩]; omega
      have W8 : IntKind.i64.wrap ((i8 : Int) + 8) = (ie : Int) := by rw [IntWalk.i64_in _ ⟨by omega, by omega⟩]; omega
      have e1 : (i8 : Int) ≤ (i4 : Int) := by omega
      have e2 : (i4 : Int) ≤ (c : Int) := by omega
      have e3 : (i4 : Int) ≤ (ie : Int) := by omega
      have e4 : (ie : Int) ≤ (c : Int) := by omega
      have e5 : ¬ (c = i8) := by omega
      have e6 : ¬ (c = i4) := by omega
      have e7 : i4 - i8 = 4 := by omega
      have e8 : ie - i4 = 4 := by omega
      have s1 := hx0.out.segOf i8 4 (by omega)
      have s2 := hx0.out.segOf i4 4 (by omega)
      have l1 : (seg ys i8 4).length = 4 := seg_length ys i8 4 (by omega)
      have l2 : (seg ys i4 4).length = 4 := seg_length ys i4 4 (by omega)
      obtain ⟨v1, hv1⟩ : ∃ z, Mt.numOf (seg ys i8 4) = z := ⟨_, rfl⟩
      obtain ⟨v2, hv2⟩ : ∃ z, Mt.numOf (seg ys i4 4) = z := ⟨_, rfl⟩
      have b1 : v1 < 4294967296 := by
        have h := Mt.numOf_lt (seg ys i8 4) (seg_lt hx0.out.1 i8 4)
        rw [l1, hv1] at h; omega
      have b2 : v2 < 4294967296 := by
        have h := Mt.numOf_lt (seg ys i4 4) (seg_lt hx0.out.1 i4 4)
        rw [l2, hv2] at h; omega
      have htb : (tbO ys i).1 = (v1, v2) := by
        show (Mt.numOf (seg ys (8 * i) 4) % 4294967296, Mt.numOf (seg ys (8 * i + 4) 4) % 4294967296) = _
        rw [← hi8, hi4, hv1, hv2, Nat.mod_eq_of_lt b1, Nat.mod_eq_of_lt b2]
      rw [htb] at hstp
      have hnl := bLs_len ys (i + 1)
      obtain ⟨nb, hnb⟩ : ∃ z, bLs ys (i + 1) = z := ⟨_, rfl⟩
      rw [hnb] at hstp hnl
      have HNB := Lib.hid hnb
      have HNL := Lib.hid hnl
      clear hnb hnl
      have HSTP := Lib.hid hstp
      have n1 : Hid (∀ W, Below w.heap.size w W → Calls Try.prog 34 #[.slice (some ⟨bb, bo + i8, none⟩) 4 (c - i8)] W fun e w' => e = .returned (.int .u32 (v1 : Nat)) ∧ W = w') := Lib.hid (fun W hb => (by
        have h := rword_any (some ⟨bb, bo + i8, none⟩) (seg ys i8 4) (c - i8) W (s1.below hb) (by omega)
        rw [l1, hv1] at h; exact h))
      have n2 : Hid (∀ W, Below w.heap.size w W → Calls Try.prog 34 #[.slice (some ⟨bb, bo + i4, none⟩) 4 (c - i4)] W fun e w' => e = .returned (.int .u32 (v2 : Nat)) ∧ W = w') := Lib.hid (fun W hb => (by
        have h := rword_any (some ⟨bb, bo + i4, none⟩) (seg ys i4 4) (c - i4) W (s2.below hb) (by omega)
        rw [l2, hv2] at h; exact h))
      have HIE := Lib.hid hie
      clear s1 s2 l1 l2 htb hstp hi8 hi4 hie hl8 hv1 hv2 hln hbl
      go_upto_region 14 with fail
      refine wp_region_until (S := fun W => TcpAt W gs (#[.int .u16 (sp : Nat), .int .u16 (dp : Nat), .int .u32 (sq : Nat), .int .u32 (ak : Nat), .int .u8 (fl : Nat), .int .u16 (wn : Nat), .int .u16 (ur : Nat), .int .i64 (mss : Nat), .bool hs, .int .i64 (sc : Nat), .bool sk, .slice oa i oc, .bool ht, .int .u32 (tv : Nat), .int .u32 (te : Nat), .slice da dn dc])) 19 (by kernel_rfl) (show TcpAt wr.drew gs _ from T1.out) (fun hHeld => ?_)
      refine wpAnyU_take (i := 0) (oi := _) (v := ?_) rfl (by kernel_rfl) (by kernel_rfl) (by kernel_rfl) (by kernel_rfl) (fun _ _ _ h => h) (Or.inl ⟨by rfl, ?_⟩) (by assumption) ?_
      rotate_left
      · intro w5 hSw
        clear hSw
        go_simp
        all_goals with_reducible rfl
      (try simp only [List.getElem_toArray]); (try simp only [List.getElem_cons_succ]); (try simp only [List.getElem_cons_zero]); try simp only [Act.put, List.setIfInBounds_toArray, List.set_cons_zero, List.set_cons_succ]
      refine wpAnyU_take (i := 1) (oi := _) (v := ?_) rfl (by kernel_rfl) (by kernel_rfl) (by kernel_rfl) (by kernel_rfl) (fun _ _ _ h => h) (Or.inl ⟨by rfl, ?_⟩) (by assumption) ?_
      rotate_left
      · intro w5 hSw
        have c11 := blk_cell hSw 11
        clear hSw
        go_simp
        all_goals with_reducible rfl
      (try simp only [List.getElem_toArray]); (try simp only [List.getElem_cons_succ]); (try simp only [List.getElem_cons_zero]); try simp only [Act.put, List.setIfInBounds_toArray, List.set_cons_zero, List.set_cons_succ]
      refine wpAnyU_take (i := 2) (oi := _) (v := ?_) rfl (by kernel_rfl) (by kernel_rfl) (by kernel_rfl) (by kernel_rfl) (fun _ _ _ h => h) (Or.inl ⟨by rfl, ?_⟩) (by assumption) ?_
      rotate_left
      · intro w5 hSw
        clear hSw
        go_simp
        all_goals with_reducible rfl
      (try simp only [List.getElem_toArray]); (try simp only [List.getElem_cons_succ]); (try simp only [List.getElem_cons_zero]); try simp only [Act.put, List.setIfInBounds_toArray, List.set_cons_zero, List.set_cons_succ]
      refine wpAnyU_take (i := 3) (oi := _) (v := ?_) rfl (by kernel_rfl) (by kernel_rfl) (by kernel_rfl) (by kernel_rfl) (fun _ _ _ h => h) (Or.inl ⟨by rfl, ?_⟩) (by assumption) ?_
      rotate_left
      · intro w5 hSw
        clear hSw
        go_simp
        all_goals with_reducible rfl
      (try simp only [List.getElem_toArray]); (try simp only [List.getElem_cons_succ]); (try simp only [List.getElem_cons_zero]); try simp only [Act.put, List.setIfInBounds_toArray, List.set_cons_zero, List.set_cons_succ]
      refine wpAnyU_take (i := 4) (oi := _) (v := ?_) rfl (by kernel_rfl) (by kernel_rfl) (by kernel_rfl) (by kernel_rfl) (fun _ _ _ h => h) (Or.inl ⟨by rfl, ?_⟩) (by assumption) ?_
      rotate_left
      · intro w5 hSw
        clear hSw
        go_simp
        all_goals with_reducible rfl
      (try simp only [List.getElem_toArray]); (try simp only [List.getElem_cons_succ]); (try simp only [List.getElem_cons_zero]); try simp only [Act.put, List.setIfInBounds_toArray, List.set_cons_zero, List.set_cons_succ]
      refine wpAnyU_take (i := 5) (oi := _) (v := ?_) rfl (by kernel_rfl) (by kernel_rfl) (by kernel_rfl) (by kernel_rfl) (fun _ _ _ h => h) (Or.inl ⟨by rfl, ?_⟩) (by assumption) ?_
      rotate_left
      · intro w5 hSw
        clear hSw
        go_simp
        all_goals with_reducible rfl
      (try simp only [List.getElem_toArray]); (try simp only [List.getElem_cons_succ]); (try simp only [List.getElem_cons_zero]); try simp only [Act.put, List.setIfInBounds_toArray, List.set_cons_zero, List.set_cons_succ]
      refine wpAnyU_take (i := 6) (oi := _) (v := ?_) rfl (by kernel_rfl) (by kernel_rfl) (by kernel_rfl) (by kernel_rfl) (fun _ _ _ h => h) (Or.inl ⟨by rfl, ?_⟩) (by assumption) ?_
      rotate_left
      · intro w5 hSw
        clear hSw
        go_simp
        all_goals with_reducible rfl
      (try simp only [List.getElem_toArray]); (try simp only [List.getElem_cons_succ]); (try simp only [List.getElem_cons_zero]); try simp only [Act.put, List.setIfInBounds_toArray, List.set_cons_zero, List.set_cons_succ]
      refine wpAnyU_take (i := 8) (oi := _) (v := ?_) rfl (by kernel_rfl) (by kernel_rfl) (by kernel_rfl) (by kernel_rfl) (fun _ _ _ h => h) (Or.inl ⟨by rfl, ?_⟩) (by assumption) ?_
      rotate_left
      · intro w5 hSw
        clear hSw
        go_simp
        all_goals with_reducible rfl
      (try simp only [List.getElem_toArray]); (try simp only [List.getElem_cons_succ]); (try simp only [List.getElem_cons_zero]); try simp only [Act.put, List.setIfInBounds_toArray, List.set_cons_zero, List.set_cons_succ]
      refine wpAnyU_take (i := 9) (oi := _) (v := ?_) rfl (by kernel_rfl) (by kernel_rfl) (by kernel_rfl) (by kernel_rfl) (fun _ _ _ h => h) (Or.inl ⟨by rfl, ?_⟩) (by assumption) ?_
      rotate_left
      · intro w5 hSw
        clear hSw
        go_simp
        all_goals with_reducible rfl
      (try simp only [List.getElem_toArray]); (try simp only [List.getElem_cons_succ]); (try simp only [List.getElem_cons_zero]); try simp only [Act.put, List.setIfInBounds_toArray, List.set_cons_zero, List.set_cons_succ]
      refine wpAnyU_take (i := 10) (oi := _) (v := ?_) rfl (by kernel_rfl) (by kernel_rfl) (by kernel_rfl) (by kernel_rfl) (fun _ _ _ h => h) (Or.inl ⟨by rfl, ?_⟩) (by assumption) ?_
      rotate_left
      · intro w5 hSw
        clear hSw
        go_simp
        all_goals with_reducible rfl
      (try simp only [List.getElem_toArray]); (try simp only [List.getElem_cons_succ]); (try simp only [List.getElem_cons_zero]); try simp only [Act.put, List.setIfInBounds_toArray, List.set_cons_zero, List.set_cons_succ]
      refine wpAnyU_take (i := 11) (oi := _) (v := ?_) rfl (by kernel_rfl) (by kernel_rfl) (by kernel_rfl) (by kernel_rfl) (fun _ _ _ h => h) (Or.inl ⟨by rfl, ?_⟩) (by assumption) ?_
      rotate_left
      · intro w5 hSw
        clear hSw
        go_simp
        all_goals with_reducible rfl
      (try simp only [List.getElem_toArray]); (try simp only [List.getElem_cons_succ]); (try simp only [List.getElem_cons_zero]); try simp only [Act.put, List.setIfInBounds_toArray, List.set_cons_zero, List.set_cons_succ]
      refine wpAnyU_take (i := 12) (oi := _) (v := ?_) rfl (by kernel_rfl) (by kernel_rfl) (by kernel_rfl) (by kernel_rfl) (fun _ _ _ h => h) (Or.inl ⟨by rfl, ?_⟩) (by assumption) ?_
      rotate_left
      · intro w5 hSw
        clear hSw
        go_simp
        all_goals with_reducible rfl
      (try simp only [List.getElem_toArray]); (try simp only [List.getElem_cons_succ]); (try simp only [List.getElem_cons_zero]); try simp only [Act.put, List.setIfInBounds_toArray, List.set_cons_zero, List.set_cons_succ]
      refine wpAnyU_take (i := 13) (oi := _) (v := ?_) rfl (by kernel_rfl) (by kernel_rfl) (by kernel_rfl) (by kernel_rfl) (fun _ _ _ h => h) (Or.inl ⟨by rfl, ?_⟩) (by assumption) ?_
      rotate_left
      · intro w5 hSw
        clear hSw
        go_simp
        all_goals with_reducible rfl
      (try simp only [List.getElem_toArray]); (try simp only [List.getElem_cons_succ]); (try simp only [List.getElem_cons_zero]); try simp only [Act.put, List.setIfInBounds_toArray, List.set_cons_zero, List.set_cons_succ]
      obtain ⟨V3, hV3⟩ : ∃ V, wr.drew = V := ⟨_, rfl⟩
      have O3 : Hid (OwnR 68 2 BC5 B0 oa bl oc V3) := Lib.hid (hV3 ▸ OR.out.below (Below.refl wr.heap.size wr).drew)
      have Q3 : Hid (Below w.heap.size w V3) := Lib.hid (hV3 ▸ QR.out.drew)
      have hB3 : B0 ≤ V3.heap.size := hV3 ▸ hBw
      have T3 : Hid (TcpAt V3 (gs + 1) #[.int .u16 0, .int .u16 0, .int .u32 0, .int .u32 0, .int .u8 0, .int .u16 0, .int .u16 0, .int .i64 0, .bool false, .int .i64 0, .bool false, .slice none 0 0, .bool false, .int .u32 0, .int .u32 0, .slice none 0 0]) := Lib.hid (hV3 ▸ (show TcpAt wr.drew (gs + 1) _ from T2.out))
      rw [hV3] at hHeld ⊢
      clear hV3
      have BAL := Lib.hid ((Below.refl V3.heap.size V3).alloc (Nat.le_refl _) (.cells #[.int .u32 (v1 : Nat), .int .u32 (v2 : Nat)] 68))
      refine wpAnyU_one (i := 7) (by kernel_rfl) rfl (fun K hK => ?_)
      (try simp only [List.getElem_toArray]); (try simp only [List.getElem_cons_succ]); (try simp only [List.getElem_cons_zero])
      go_simp
      go_at_call 34
      refine (n1.out _ Q3.out).mono ?_
      rintro e5 w5 ⟨rfl, rfl⟩
      dsimp only
      refine hK.out _ _ hHeld (fun hHeld => ?_)
      clear hK K
      (try simp only [List.getElem_toArray]); (try simp only [List.getElem_cons_succ]); (try simp only [List.getElem_cons_zero]); try simp only [Act.put, List.setIfInBounds_toArray, List.set_cons_zero, List.set_cons_succ]
      refine wpAnyU_one (i := 14) (by kernel_rfl) rfl (fun K hK => ?_)
      (try simp only [List.getElem_toArray]); (try simp only [List.getElem_cons_succ]); (try simp only [List.getElem_cons_zero])
      go_simp
      go_at_call 34
      refine (n2.out _ Q3.out).mono ?_
      rintro e5 w5 ⟨rfl, rfl⟩
      dsimp only
      refine hK.out _ _ hHeld (fun hHeld => ?_)
      clear hK K
      (try simp only [List.getElem_toArray]); (try simp only [List.getElem_cons_succ]); (try simp only [List.getElem_cons_zero]); try simp only [Act.put, List.setIfInBounds_toArray, List.set_cons_zero, List.set_cons_succ]
      refine wpAnyU_take (i := 15) (oi := _) (v := ?_) rfl (by kernel_rfl) (by kernel_rfl) (by kernel_rfl) (by kernel_rfl) (fun _ _ _ h => h) (Or.inl ⟨by rfl, ?_⟩) (by assumption) ?_
      rotate_left
      · intro w5 hSw
        clear hSw
        go_simp
        all_goals with_reducible rfl
      (try simp only [List.getElem_toArray]); (try simp only [List.getElem_cons_succ]); (try simp only [List.getElem_cons_zero]); try simp only [Act.put, List.setIfInBounds_toArray, List.set_cons_zero, List.set_cons_succ]
      refine wpAnyU_one (i := 16) (by kernel_rfl) rfl (fun K hK => ?_)
      (try simp only [List.getElem_toArray]); (try simp only [List.getElem_cons_succ]); (try simp only [List.getElem_cons_zero])
      go_simp
      refine hK.out _ _ ((BAL.out.block gs (Array.getElem?_eq_some_iff.1 hHeld).1).trans hHeld) (fun hHeld => ?_)
      clear hK K
      (try simp only [List.getElem_toArray]); (try simp only [List.getElem_cons_succ]); (try simp only [List.getElem_cons_zero]); try simp only [Act.put, List.setIfInBounds_toArray, List.set_cons_zero, List.set_cons_succ]
      have hb3 := BAL.out.size
      refine wpAnyU_one (i := 17) (by kernel_rfl) rfl (fun K hK => ?_)
      (try simp only [List.getElem_toArray]); (try simp only [List.getElem_cons_succ]); (try simp only [List.getElem_cons_zero])
      refine step_append_r (act := ⟨_, _⟩) (w := V3.alloc (.cells #[.int .u32 (v1 : Nat), .int .u32 (v2 : Nat)] 68)) (t := 24) (e := 68) (z := .agg #[.int .u32 0, .int .u32 0]) (m := 2) (bz := 8) (cells := BC5) (xs := bl) (ys := [(v1, v2)]) (cap := oc) (dap := 1) (n := 1) (a := oa) (b := some ⟨V3.heap.size, 0, none⟩) ?_ elemB5 encB5 (.tmp 46) (.tmp 61) ?_ B0 ?_ (O3.out.below BAL.out) (sts_new encB5 V3 [(v1, v2)] 68 (0, 0)) (fun e => by cases e) ?_ ?_ (by rw [List.length_singleton, HLN.out]; omega) (by unfold maxLen; rw [List.length_singleton, HLN.out]; omega) (by omega) ?_
      · rfl
      · rfl
      · rfl
      · (rw [HLN.out]; rfl)
      · rfl
      intro a5 c5 V5 O5 b5 g5
      rw [← HSTP.out] at O5 ⊢
      have O5h := Lib.hid O5
      have B5h := Lib.hid b5
      have G5h := Lib.hid g5
      clear O5 b5 g5
      refine hK.out _ _ ((G5h.out.block gs (Array.getElem?_eq_some_iff.1 hHeld).1 (fun e => by have h1 := (O3.out.ownB gs e.symm).1; omega)).trans hHeld) (fun hHeld => ?_)
      clear hK K
      try simp only [Act.put, List.setIfInBounds_toArray, List.set_cons_zero, List.set_cons_succ]
      refine wpAnyU_take (i := 18) (oi := _) (v := ?_) rfl (by kernel_rfl) (by kernel_rfl) (by kernel_rfl) (by kernel_rfl) (fun _ _ _ h => h) (Or.inl ⟨by rfl, ?_⟩) (by assumption) ?_
      rotate_left
      · intro w5 hSw
        clear hSw
        go_simp
        all_goals with_reducible rfl
      (try simp only [List.getElem_toArray]); (try simp only [List.getElem_cons_succ]); (try simp only [List.getElem_cons_zero]); try simp only [Act.put, List.setIfInBounds_toArray, List.set_cons_zero, List.set_cons_succ]
      have c11 := blk_cell hHeld 11
      have f11 := blk_free hHeld 11
      have SF := blk_set hHeld 11 (.slice a5 nb.length c5)
      have GF := grown_set V5 gs 11 (.slice a5 nb.length c5)
      refine wpAnyU_last (by kernel_rfl) rfl (fun K hK => ?_)
      (try simp only [List.getElem_toArray]); (try simp only [List.getElem_cons_succ]); (try simp only [List.getElem_cons_zero])
      go_simp
      refine hK.out _ _ ?_
      clear hK K
      (try simp only [List.getElem_toArray]); (try simp only [List.getElem_cons_succ]); (try simp only [List.getElem_cons_zero]); try simp only [Act.put, List.setIfInBounds_toArray, List.set_cons_zero, List.set_cons_succ]
      refine wpAnyU_done (by kernel_rfl) ?_ _
      have T2v : Hid (TcpAt (V5.setCell ⟨gs, 11, none⟩ (.slice a5 nb.length c5)) (gs + 1) #[.int .u16 0, .int .u16 0, .int .u32 0, .int .u32 0, .int .u8 0, .int .u16 0, .int .u16 0, .int .i64 0, .bool false, .int .i64 0, .bool false, .slice none 0 0, .bool false, .int .u32 0, .int .u32 0, .slice none 0 0]) := Lib.hid (by
        have h1 := (Q3.out.size)
        have h2 := ((BAL.out.block (gs + 1) (by omega)).trans (show V3.heap[gs + 1]? = _ from T3.out))
        have h3 := (G5h.out.block (gs + 1) (Array.getElem?_eq_some_iff.1 h2).1 (fun e => by have h1 := (O3.out.ownB (gs + 1) e.symm).1; omega)).trans h2
        exact (GF.block (gs + 1) (Array.getElem?_eq_some_iff.1 h3).1 (fun e => by have := Option.some.inj e; omega)).trans h3)
      have SFv : Hid (TcpAt (V5.setCell ⟨gs, 11, none⟩ (.slice a5 nb.length c5)) gs #[.int .u16 (sp : Nat), .int .u16 (dp : Nat), .int .u32 (sq : Nat), .int .u32 (ak : Nat), .int .u8 (fl : Nat), .int .u16 (wn : Nat), .int .u16 (ur : Nat), .int .i64 (mss : Nat), .bool hs, .int .i64 (sc : Nat), .bool sk, .slice a5 nb.length c5, .bool ht, .int .u32 (tv : Nat), .int .u32 (te : Nat), .slice da dn dc]) := Lib.hid SF
      have OV := Lib.hid (O5h.out.grown GF (fun g' e1 e2 => by have h6 := Option.some.inj e2; have := (O5h.out.ownB g' (by rw [e1]; rfl)).1; omega))
      have QV := Lib.hid (((Q3.out.trans (BAL.out.mono Q3.out.size)).trans (B5h.out.mono (by have := HB0.out; have := Q0.out.size; omega))).grown GF (Nat.le_trans Q3.out.size (Nat.le_trans BAL.out.size B5h.out.size)) (fun k e => by cases e; have := HGS.out; omega))
      have BV : Hid (B0 ≤ (V5.setCell ⟨gs, 11, none⟩ (.slice a5 nb.length c5)).heap.size) := Lib.hid (Nat.le_trans hB3 (Nat.le_trans BAL.out.size (Nat.le_trans B5h.out.size GF.size)))
      clear SF GF c11 f11
      generalize V5.setCell ⟨gs, 11, none⟩ (.slice a5 nb.length c5) = VF at T2v SFv OV QV BV ⊢
      go_wp2_with fail
      go_roundw
      case rel =>
        refine ⟨i + 1, ie, a5, c5, by have := HIE.out; have := HI8.out; omega, by omega, by have := HIE.out; go_num, ?_, T2v.out, ?_, QV.out, BV.out⟩
        · rw [← HNL.out]; exact SFv.out
        · rw [HNB.out]; exact OV.out
      case measure => have := HIE.out; simp [intOf]; omega
end Go.Proofs.Ytgmgoilleakdcaa

namespace Go.Proofs.Ytgmgoilleakdcaa
open Go.RowKit

theorem blkOf_bLs (ys : List Nat) (n : Nat) (h : ys.length = 8 * n) : blkOf ys = bLs ys n := by
  unfold blkOf bLs; rw [h, Nat.mul_div_cancel_left _ (by decide)]
theorem rone_any (sp dp sq ak fl wn ur : Nat) (da : Option Addr) (dn dc : Nat) (s : TOpt) (va : Option Addr) (vc B k : Nat) (a : Option Addr) (ys : List Nat) (c : Nat) (w : World) (hx : Bts w a ys) (hf : tcpFits k (ys.length + 2) = true) (h5 : k = 5 → s.bs = [] ∧ va = none ∧ vc = 0) (hO : OwnR 68 2 BC5 B va s.bs vc w) (hB : B ≤ w.heap.size) (hc : ys.length ≤ c) :
    Calls Try.prog 47 #[.agg (pC sp dp sq ak fl wn ur (.slice da dn dc) (.slice va s.bs.length vc) s), .int .u8 (k : Nat), .slice a ys.length c] w fun e w' => ∃ va' vc', e = .returned (.agg (pC sp dp sq ak fl wn ur (.slice da dn dc) (.slice va' (setO s k ys).bs.length vc') (setO s k ys))) ∧ OwnR 68 2 BC5 B va' (setO s k ys).bs vc' w' ∧ Below w.heap.size w w' ∧ (k ≠ 5 → va' = va ∧ vc' = vc ∧ (setO s k ys).bs = s.bs) := by
  obtain ⟨mss, hs, sc, sk, bs, ht, tv, te⟩ := s
  by_cases k2 : k = 2
  · subst k2
    have hl : ys.length = 2 := by simp [tcpFits] at hf; exact hf
    refine (rone_mss sp dp sq ak fl wn ur mss hs sc sk va bs.length vc ht tv te da dn dc a ys c w hx hl).mono ?_
    rintro e w' ⟨rfl, b⟩
    exact ⟨va, vc, rfl, hO.below b, b, fun _ => ⟨rfl, rfl, rfl⟩⟩
  · by_cases k3 : k = 3
    · subst k3
      have hl : ys.length = 1 := by simp [tcpFits] at hf; exact hf
      refine (rone_scale sp dp sq ak fl wn ur mss hs sc sk va bs.length vc ht tv te da dn dc a ys c w hx hl).mono ?_
      rintro e w' ⟨rfl, b⟩
      exact ⟨va, vc, rfl, hO.below b, b, fun _ => ⟨rfl, rfl, rfl⟩⟩
    · by_cases k4 : k = 4
      · subst k4
        refine (rone_sackok sp dp sq ak fl wn ur mss hs sc sk va bs.length vc ht tv te da dn dc a ys c w hx).mono ?_
        rintro e w' ⟨rfl, b⟩
        exact ⟨va, vc, rfl, hO.below b, b, fun _ => ⟨rfl, rfl, rfl⟩⟩
      · by_cases k8 : k = 8
        · subst k8
          have hl : ys.length = 8 := by simp [tcpFits] at hf; exact hf
          refine (rone_ts sp dp sq ak fl wn ur mss hs sc sk va bs.length vc ht tv te da dn dc a ys c w hx hl hc).mono ?_
          rintro e w' ⟨rfl, b⟩
          exact ⟨va, vc, rfl, hO.below b, b, fun _ => ⟨rfl, rfl, rfl⟩⟩
        · by_cases k5 : k = 5
          · subst k5
            obtain ⟨hb, rfl, rfl⟩ := h5 rfl
            have hb2 : bs = [] := hb
            subst hb2
            have hn : ∃ n, ys.length = 8 * n ∧ n ≤ 4 := by
              simp [tcpFits] at hf
              rcases hf with ((h | h) | h) | h
              · exact ⟨1, by omega, by omega⟩
              · exact ⟨2, by omega, by omega⟩
              · exact ⟨3, by omega, by omega⟩
              · exact ⟨4, by omega, by omega⟩
            obtain ⟨n, hl, hn4⟩ := hn
            refine (rone_sacks sp dp sq ak fl wn ur mss hs sc sk ht tv te da dn dc a ys c w hx n hl hn4 hc).mono ?_
            rintro e w' ⟨oa, oc, rfl, hO2, b⟩
            have e1 : (setO ⟨mss, hs, sc, sk, [], ht, tv, te⟩ 5 ys).bs = bLs ys n := by
              show [] ++ blkOf ys = _
              rw [List.nil_append, blkOf_bLs ys n hl]
            refine ⟨oa, oc, ?_, ?_, b, fun h => absurd rfl h⟩
            · rw [e1, bLs_len]; rfl
            · rw [e1]; exact hO2.mono hB
          · have e1 : setO ⟨mss, hs, sc, sk, bs, ht, tv, te⟩ k ys = ⟨mss, hs, sc, sk, bs, ht, tv, te⟩ := by
              unfold setO
              rw [if_neg k2, if_neg k3, if_neg k4, if_neg k8, if_neg k5]
            rw [e1]
            refine (rone_other sp dp sq ak fl wn ur mss hs sc sk va bs.length vc ht tv te da dn dc a ys c w hx k ⟨k2, k3, k4, k8, k5⟩).mono ?_
            rintro e w' ⟨rfl, b⟩
            exact ⟨va, vc, rfl, hO.below b, b, fun _ => ⟨rfl, rfl, rfl⟩⟩
end Go.Proofs.Ytgmgoilleakdcaa

namespace Go.Proofs.Ytgmgoilleakdcaa
open Go.RowKit Go.Sort Go.BigFrame

theorem drop_getD (xs : List Nat) (i j : Nat) : (xs.drop i).getD j 0 = xs.getD (i + j) 0 := by
  simp [List.getD_eq_getElem?_getD, List.getElem?_drop]
theorem tO_step (xs : List Nat) (i f : Nat) (ks : List Nat) (s : TOpt) : tOpts (f + 1) (xs.drop i) ks s =
    if xs.length ≤ i then some s else if xs.getD i 0 = 0 then some s else if xs.getD i 0 = 1 then tOpts f (xs.drop (i + 1)) ks s else if xs.length ≤ i + 1 then none
    else if xs.getD (i + 1) 0 < 2 ∨ xs.length - i < xs.getD (i + 1) 0 ∨ tcpFits (xs.getD i 0) (xs.getD (i + 1) 0) = false then none
    else tOpts f (xs.drop (i + xs.getD (i + 1) 0)) (ks ++ [xs.getD i 0]) (if xs.getD i 0 ∈ ks then s else setO s (xs.getD i 0) (seg xs (i + 2) (xs.getD (i + 1) 0 - 2))) := by
  rw [tOpts_succ, drop_getD, drop_getD, Nat.add_zero, List.drop_drop, List.drop_drop, List.length_drop]
  have e : seg (xs.drop i) 2 (xs.getD (i + 1) 0 - 2) = seg xs (i + 2) (xs.getD (i + 1) 0 - 2) := by unfold seg; rw [List.drop_drop]
  rw [e]
  by_cases h1 : xs.length ≤ i
  · rw [if_pos (by omega), if_pos h1]
  · rw [if_neg (by omega), if_neg h1]
    by_cases h2 : xs.getD i 0 = 0
    · rw [if_pos h2, if_pos h2]
    · rw [if_neg h2, if_neg h2]
      by_cases h3 : xs.getD i 0 = 1
      · rw [if_pos h3, if_pos h3]
      · rw [if_neg h3, if_neg h3]
        by_cases h4 : xs.length ≤ i + 1
        · rw [if_pos (by omega), if_pos h4]
        · rw [if_neg (by omega), if_neg h4]
theorem bts_at {w : World} {b off : Nat} {xs : List Nat} {i : Nat} (h : Bts w (some ⟨b, off, none⟩) xs) (hi : i < xs.length) : w.cell? ⟨b, off + i, none⟩ = some (.int .u8 (xs.getD i 0 : Nat)) := by
  obtain ⟨b2, o2, e, _, hc⟩ := h.isSome (by omega)
  cases e
  exact hc i hi
def All1 (ag : Array Value) : Prop := ag.size = 16 ∧ ag.all (·.oneCell') = true
theorem pC_one (sp dp sq ak fl wn ur : Nat) (da : Option Addr) (dn dc : Nat) (va : Option Addr) (vn vc : Nat) (s : TOpt) : All1 (pC sp dp sq ak fl wn ur (.slice da dn dc) (.slice va vn vc) s) := ⟨rfl, by simp [pC, Value.oneCell']⟩
theorem zero76 (W : World) : (zeroValue 76).run Try.prog W = .ok (.agg (Array.replicate 256 (.bool false))) W := by
  have h : (Try.prog.info? 76).map (·.zero) = some (some (.agg (Array.replicate 256 (.bool false)))) := by kernel_rfl
  cases hi : Try.prog.info? 76 with
  | none => rw [hi] at h; cases h
  | some i =>
    rw [hi] at h
    have h2 : i.zero = some (.agg (Array.replicate 256 (.bool false))) := Option.some.inj h
    simp [zeroValue, typeInfo, hi, h2]
/-- The kinds that were. -/
def Seen (W : World) (g : Nat) (ks : List Nat) : Prop := ∃ cs, W.heap[g]? = some (.cells cs 76 (0, 0)) ∧ cs.size = 256 ∧ ∀ k, k < 256 → cs[k]? = some (.bool (decide (k ∈ ks)))
theorem seen_set {W : World} {g k : Nat} {ks : List Nat} {cs : Array Value} (h : W.heap[g]? = some (.cells cs 76 (0, 0))) (hz : cs.size = 256) (hc : ∀ j, j < 256 → cs[j]? = some (.bool (decide (j ∈ ks)))) (hk : k < 256) : Seen (W.setCell ⟨g, k, none⟩ (.bool true)) g (ks ++ [k]) := by
  refine ⟨_, blk_set h k (.bool true), by simp [hz], fun j hj => ?_⟩
  by_cases e : j = k
  · subst e
    rw [Array.getElem?_setIfInBounds_self_of_lt (by omega)]
    simp
  · rw [Array.getElem?_setIfInBounds_ne (fun e2 => e e2.symm), hc j hj]
    have : (j ∈ ks ++ [k]) ↔ j ∈ ks := by simp [e]
    simp [this]

set_option maxRecDepth 100000 in
set_option maxHeartbeats 4000000 in
theorem rread_any (sp dp sq ak fl wn ur : Nat) (da : Option Addr) (dn dc : Nat) (a : Option Addr) (xs : List Nat) (c : Nat) (w : World) (hx : Bts w a xs) (hl : xs.length ≤ 65535) (hc : xs.length ≤ c) :
    Calls Try.prog 36 #[.agg #[.int .u16 (sp : Nat), .int .u16 (dp : Nat), .int .u32 (sq : Nat), .int .u32 (ak : Nat), .int .u8 (fl : Nat), .int .u16 (wn : Nat), .int .u16 (ur : Nat), .int .i64 0, .bool false, .int .i64 0, .bool false, .slice none 0 0, .bool false, .int .u32 0, .int .u32 0, .slice da dn dc], .slice a xs.length c] w fun e w' => Below w.heap.size w w' ∧ ((tOpts (xs.length + 1) xs [] tOpt0 = none ∧ ∃ ag, e = .returned (.tuple #[.agg ag, .int .i64 51]) ∧ All1 ag) ∨ ∃ s va vc, tOpts (xs.length + 1) xs [] tOpt0 = some s ∧ e = .returned (.tuple #[.agg (pC sp dp sq ak fl wn ur (.slice da dn dc) (.slice va s.bs.length vc) s), .int .i64 0]) ∧ OwnR 68 2 BC5 w.heap.size va s.bs vc w') := by
  obtain ⟨R, hR⟩ : ∃ R, tOpts (xs.length + 1) xs [] tOpt0 = R := ⟨_, rfl⟩
  rw [hR]
  have HR := Lib.hid hR
  have z76 := zero76
  obtain ⟨gs, hgs⟩ : ∃ z, w.heap.size = z := ⟨_, rfl⟩
  have hs1 : (w.alloc (.cells #[.int .u16 (sp : Nat), .int .u16 (dp : Nat), .int .u32 (sq : Nat), .int .u32 (ak : Nat), .int .u8 (fl : Nat), .int .u16 (wn : Nat), .int .u16 (ur : Nat), .int .i64 0, .bool false, .int .i64 0, .bool false, .slice none 0 0, .bool false, .int .u32 0, .int .u32 0, .slice da dn dc] 27)).heap.size = gs + 1 := by simp [hgs]
  have hs2 : ((w.alloc (.cells #[.int .u16 (sp : Nat), .int .u16 (dp : Nat), .int .u32 (sq : Nat), .int .u32 (ak : Nat), .int .u8 (fl : Nat), .int .u16 (wn : Nat), .int .u16 (ur : Nat), .int .i64 0, .bool false, .int .i64 0, .bool false, .slice none 0 0, .bool false, .int .u32 0, .int .u32 0, .slice da dn dc] 27)).alloc (.cells #[.int .u16 0, .int .u16 0, .int .u32 0, .int .u32 0, .int .u8 0, .int .u16 0, .int .u16 0, .int .i64 0, .bool false, .int .i64 0, .bool false, .slice none 0 0, .bool false, .int .u32 0, .int .u32 0, .slice none 0 0] 27)).heap.size = gs + 1 + 1 := by simp [hgs]
  have b1 := (Below.refl w.heap.size w).alloc (Nat.le_refl _) (.cells #[.int .u16 (sp : Nat), .int .u16 (dp : Nat), .int .u32 (sq : Nat), .int .u32 (ak : Nat), .int .u8 (fl : Nat), .int .u16 (wn : Nat), .int .u16 (ur : Nat), .int .i64 0, .bool false, .int .i64 0, .bool false, .slice none 0 0, .bool false, .int .u32 0, .int .u32 0, .slice da dn dc] 27)
  have k1 := blk_new w (.cells #[.int .u16 (sp : Nat), .int .u16 (dp : Nat), .int .u32 (sq : Nat), .int .u32 (ak : Nat), .int .u8 (fl : Nat), .int .u16 (wn : Nat), .int .u16 (ur : Nat), .int .i64 0, .bool false, .int .i64 0, .bool false, .slice none 0 0, .bool false, .int .u32 0, .int .u32 0, .slice da dn dc] 27)
  have b2 := (Below.refl (w.alloc (.cells #[.int .u16 (sp : Nat), .int .u16 (dp : Nat), .int .u32 (sq : Nat), .int .u32 (ak : Nat), .int .u8 (fl : Nat), .int .u16 (wn : Nat), .int .u16 (ur : Nat), .int .i64 0, .bool false, .int .i64 0, .bool false, .slice none 0 0, .bool false, .int .u32 0, .int .u32 0, .slice da dn dc] 27)).heap.size (w.alloc (.cells #[.int .u16 (sp : Nat), .int .u16 (dp : Nat), .int .u32 (sq : Nat), .int .u32 (ak : Nat), .int .u8 (fl : Nat), .int .u16 (wn : Nat), .int .u16 (ur : Nat), .int .i64 0, .bool false, .int .i64 0, .bool false, .slice none 0 0, .bool false, .int .u32 0, .int .u32 0, .slice da dn dc] 27))).alloc (Nat.le_refl _) (.cells #[.int .u16 0, .int .u16 0, .int .u32 0, .int .u32 0, .int .u8 0, .int .u16 0, .int .u16 0, .int .i64 0, .bool false, .int .i64 0, .bool false, .slice none 0 0, .bool false, .int .u32 0, .int .u32 0, .slice none 0 0] 27)
  have k2 := blk_new (w.alloc (.cells #[.int .u16 (sp : Nat), .int .u16 (dp : Nat), .int .u32 (sq : Nat), .int .u32 (ak : Nat), .int .u8 (fl : Nat), .int .u16 (wn : Nat), .int .u16 (ur : Nat), .int .i64 0, .bool false, .int .i64 0, .bool false, .slice none 0 0, .bool false, .int .u32 0, .int .u32 0, .slice da dn dc] 27)) (.cells #[.int .u16 0, .int .u16 0, .int .u32 0, .int .u32 0, .int .u8 0, .int .u16 0, .int .u16 0, .int .i64 0, .bool false, .int .i64 0, .bool false, .slice none 0 0, .bool false, .int .u32 0, .int .u32 0, .slice none 0 0] 27)
  have b3 := (Below.refl ((w.alloc (.cells #[.int .u16 (sp : Nat), .int .u16 (dp : Nat), .int .u32 (sq : Nat), .int .u32 (ak : Nat), .int .u8 (fl : Nat), .int .u16 (wn : Nat), .int .u16 (ur : Nat), .int .i64 0, .bool false, .int .i64 0, .bool false, .slice none 0 0, .bool false, .int .u32 0, .int .u32 0, .slice da dn dc] 27)).alloc (.cells #[.int .u16 0, .int .u16 0, .int .u32 0, .int .u32 0, .int .u8 0, .int .u16 0, .int .u16 0, .int .i64 0, .bool false, .int .i64 0, .bool false, .slice none 0 0, .bool false, .int .u32 0, .int .u32 0, .slice none 0 0] 27)).heap.size ((w.alloc (.cells #[.int .u16 (sp : Nat), .int .u16 (dp : Nat), .int .u32 (sq : Nat), .int .u32 (ak : Nat), .int .u8 (fl : Nat), .int .u16 (wn : Nat), .int .u16 (ur : Nat), .int .i64 0, .bool false, .int .i64 0, .bool false, .slice none 0 0, .bool false, .int .u32 0, .int .u32 0, .slice da dn dc] 27)).alloc (.cells #[.int .u16 0, .int .u16 0, .int .u32 0, .int .u32 0, .int .u8 0, .int .u16 0, .int .u16 0, .int .i64 0, .bool false, .int .i64 0, .bool false, .slice none 0 0, .bool false, .int .u32 0, .int .u32 0, .slice none 0 0] 27))).alloc (Nat.le_refl _) (.cells (Array.replicate 256 (.bool false)) 76)
  have k3 := blk_new ((w.alloc (.cells #[.int .u16 (sp : Nat), .int .u16 (dp : Nat), .int .u32 (sq : Nat), .int .u32 (ak : Nat), .int .u8 (fl : Nat), .int .u16 (wn : Nat), .int .u16 (ur : Nat), .int .i64 0, .bool false, .int .i64 0, .bool false, .slice none 0 0, .bool false, .int .u32 0, .int .u32 0, .slice da dn dc] 27)).alloc (.cells #[.int .u16 0, .int .u16 0, .int .u32 0, .int .u32 0, .int .u8 0, .int .u16 0, .int .u16 0, .int .i64 0, .bool false, .int .i64 0, .bool false, .slice none 0 0, .bool false, .int .u32 0, .int .u32 0, .slice none 0 0] 27)) (.cells (Array.replicate 256 (.bool false)) 76)
  have k1' := (b2.block _ (blk_lt k1)).trans k1
  have k1'' := (b3.block _ (blk_lt k1')).trans k1'
  have k2' := (b3.block _ (blk_lt k2)).trans k2
  rw [hs1] at k2'
  rw [hs2] at k3
  rw [hgs] at k1''
  have Q0 := Lib.hid ((b1.trans (b2.mono b1.size)).trans (b3.mono (Nat.le_trans b1.size b2.size)))
  have K1 := Lib.hid k1''
  have K2 := Lib.hid k2'
  have K3 := Lib.hid k3
  have HX := Lib.hid hx
  have HR := Lib.hid hR
  clear hx b1 b2 b3 k1 k1' k1'' k2 k2' k3 hR
  go_enter Try.func36, Try.ntmps36
  go_upto_region 2 with fail
  generalize ((w.alloc (.cells #[.int .u16 (sp : Nat), .int .u16 (dp : Nat), .int .u32 (sq : Nat), .int .u32 (ak : Nat), .int .u8 (fl : Nat), .int .u16 (wn : Nat), .int .u16 (ur : Nat), .int .i64 0, .bool false, .int .i64 0, .bool false, .slice none 0 0, .bool false, .int .u32 0, .int .u32 0, .slice da dn dc] 27)).alloc (.cells #[.int .u16 0, .int .u16 0, .int .u32 0, .int .u32 0, .int .u8 0, .int .u16 0, .int .u16 0, .int .i64 0, .bool false, .int .i64 0, .bool false, .slice none 0 0, .bool false, .int .u32 0, .int .u32 0, .slice none 0 0] 27)).alloc (.cells (Array.replicate 256 (.bool false)) 76) = V0 at K1 K2 K3 Q0 ⊢
  clear z76 hs1 hs2
  have HGS := Lib.hid hgs
  have I3 : Hid (Seen V0 (gs + 1 + 1) []) := Lib.hid ⟨_, K3.out, by simp, fun k hk => by simp [hk]⟩
  have T1 : Hid (TcpAt V0 gs (pC sp dp sq ak fl wn ur (.slice da dn dc) (.slice none tOpt0.bs.length 0) tOpt0)) := Lib.hid K1.out
  have T2 : Hid (TcpAt V0 (gs + 1) #[.int .u16 0, .int .u16 0, .int .u32 0, .int .u32 0, .int .u8 0, .int .u16 0, .int .u16 0, .int .i64 0, .bool false, .int .i64 0, .bool false, .slice none 0 0, .bool false, .int .u32 0, .int .u32 0, .slice none 0 0]) := Lib.hid K2.out
  have hB0 : gs + 3 ≤ V0.heap.size := blk_lt K3.out
  have X0 := Lib.hid (HX.out.below Q0.out)
  clear K1 K2 K3 hgs
  go_wp2_with fail
  go_loopw [7] (fun v wr => ∃ (i : Nat) (ks : List Nat) (s : TOpt) (va : Option Addr) (vc f : Nat), i ≤ xs.length ∧ v = .int .i64 i ∧ tOpts (f + 1) (xs.drop i) ks s = R ∧ xs.length - i ≤ f ∧ TcpAt wr gs (pC sp dp sq ak fl wn ur (.slice da dn dc) (.slice va s.bs.length vc) s) ∧ TcpAt wr (gs + 1) #[.int .u16 0, .int .u16 0, .int .u32 0, .int .u32 0, .int .u8 0, .int .u16 0, .int .u16 0, .int .i64 0, .bool false, .int .i64 0, .bool false, .slice none 0 0, .bool false, .int .u32 0, .int .u32 0, .slice none 0 0] ∧ Seen wr (gs + 1 + 1) ks ∧ OwnR 68 2 BC5 (gs + 3) va s.bs vc wr ∧ (5 ∉ ks → s.bs = [] ∧ va = none ∧ vc = 0) ∧ Below w.heap.size w wr ∧ gs + 3 ≤ wr.heap.size) (fun v _ => xs.length - (intOf v).toNat)
  case atStart => exact ⟨0, [], tOpt0, none, 0, xs.length, by omega, rfl, by rw [List.drop_zero]; exact HR.out, by omega, T1.out, T2.out, I3.out, ownR_nil _ _ _ _ _, fun _ => ⟨rfl, rfl, rfl⟩, Q0.out, hB0⟩
  case round =>
    obtain ⟨i, ks, s, va, vc, f, hi, rfl, ht, hf, hT1, hT2, hS, hO, h5, hQ, hB⟩ := hrel
    have hts := tO_step xs i f ks s
    rw [ht] at hts
    have T1 := Lib.hid hT1
    have T2 := Lib.hid hT2
    have SR := Lib.hid hS
    have OR := Lib.hid hO
    have QR := Lib.hid hQ
    have H5 := Lib.hid h5
    have XR := Lib.hid (HX.out.below hQ)
    clear hT1 hT2 hS hO h5 hQ ht
    by_cases h0 : xs.length ≤ i
    case pos =>
      rw [if_pos h0] at hts
      have HRS := Lib.hid hts
      have e0 : ¬ ((i : Int) < (xs.length : Int)) := by omega
      clear hts h0
      go_wp2_with (first
        | ((with_reducible show wpList _ _ _ _ _ _); refine wpList_load_tcp rfl (.tmp 2) rfl gs rfl _ T1.out rfl ?_)
        | ((with_reducible show wpList _ _ _ _ _ _); refine wpList_store_tcp rfl (.tmp 4) (.tmp 87) rfl (gs + 1) _ (pC sp dp sq ak fl wn ur (.slice da dn dc) (.slice va s.bs.length vc) s) rfl rfl T2.out rfl rfl (by simp [pC, Value.oneCell']) ?_; intro VE hs2 hg2; have K2 := Lib.hid hs2; have G2 := Lib.hid hg2; clear hs2 hg2)
        | fail)
      refine bodyPost_ret (results_tcp2 rfl _ _ (gs + 1) _ _ rfl rfl K2.out rfl) rfl ⟨QR.out.grown G2.out QR.out.size (fun j e => by cases e; have := HGS.out; omega), .inr ?_⟩
      have hOE := (OR.out.grown G2.out (fun g' e1 e2 => by have h6 := Option.some.inj e2; have := (OR.out.ownB g' (by rw [e1]; rfl)).1; omega)).mono (show w.heap.size ≤ gs + 3 by have := HGS.out; omega)
      first | exact ⟨s, va, vc, HRS.out, rfl, hOE⟩ | exact ⟨s, HRS.out, va, vc, rfl, hOE⟩
    case neg =>
    rw [if_neg h0] at hts
    obtain ⟨bb, bo, rfl, hbl, hbc⟩ := XR.out.isSome (by omega)
    obtain ⟨k, hk⟩ : ∃ z, xs.getD i 0 = z := ⟨_, rfl⟩
    have m0 := hbc i (by omega)
    rw [hk] at m0 hts
    have hk8 : k < 256 := by rw [← hk]; exact Mt.getD_lt xs XR.out.1 i
    have e0 : (i : Int) < (xs.length : Int) := by omega
    have e0d : decide (i < xs.length) = true := decide_eq_true (by omega)
    have HK := Lib.hid hk
    clear hk
    by_cases h1 : k = 0
    case pos =>
      rw [if_pos h1] at hts
      have HRS := Lib.hid hts
      subst h1
      clear hts h0
      go_wp2_with (first
        | ((with_reducible show wpList _ _ _ _ _ _); refine wpList_load_tcp rfl (.tmp 2) rfl gs rfl _ T1.out rfl ?_)
        | ((with_reducible show wpList _ _ _ _ _ _); refine wpList_store_tcp rfl (.tmp 4) (.tmp 87) rfl (gs + 1) _ (pC sp dp sq ak fl wn ur (.slice da dn dc) (.slice va s.bs.length vc) s) rfl rfl T2.out rfl rfl (by simp [pC, Value.oneCell']) ?_; intro VE hs2 hg2; have K2 := Lib.hid hs2; have G2 := Lib.hid hg2; clear hs2 hg2)
        | fail)
      refine bodyPost_ret (results_tcp2 rfl _ _ (gs + 1) _ _ rfl rfl K2.out rfl) rfl ⟨QR.out.grown G2.out QR.out.size (fun j e => by cases e; have := HGS.out; omega), .inr ?_⟩
      have hOE := (OR.out.grown G2.out (fun g' e1 e2 => by have h6 := Option.some.inj e2; have := (OR.out.ownB g' (by rw [e1]; rfl)).1; omega)).mono (show w.heap.size ≤ gs + 3 by have := HGS.out; omega)
      first | exact ⟨s, va, vc, HRS.out, rfl, hOE⟩ | exact ⟨s, HRS.out, va, vc, rfl, hOE⟩
    case neg =>
    rw [if_neg h1] at hts
    have e1 : ((k : Int) != 0) = true := by simp; omega
    have e1' : ((k : Int) == 0) = false := by rw [beq_eq_false_iff_ne]; omega
    have W1 : IntKind.i64.wrap ((i : Int) + 1) = ((i + 1 : Nat) : Int) := by rw [IntWalk.i64_in _ ⟨by omega, by omega⟩]; omega
    obtain ⟨i1, hi1⟩ : ∃ z, i + 1 = z := ⟨_, rfl⟩
    rw [hi1] at W1 hts
    obtain ⟨f', rfl⟩ : ∃ z, f = z + 1 := ⟨f - 1, by omega⟩
    by_cases h2 : k = 1
    case pos =>
      rw [if_pos h2] at hts
      have HTS := Lib.hid hts
      have HI1 := Lib.hid hi1
      have HF := Lib.hid hf
      subst h2
      clear hts h1 e1 e1' hi1 hf
      go_wp2_with fail
      go_roundw
      case rel => exact ⟨i1, ks, s, va, vc, f', by have := HI1.out; omega, rfl, HTS.out.symm, by have := HI1.out; have := HF.out; omega, T1.out, T2.out, SR.out, OR.out, H5.out, QR.out, hB⟩
      case measure => have := HI1.out; simp [intOf]; omega
    case neg =>
    rw [if_neg h2] at hts
    have e2 : ((k : Int) == 1) = false := by rw [beq_eq_false_iff_ne]; omega
    by_cases h3 : xs.length ≤ i1
    case pos =>
      rw [if_pos h3] at hts
      have HRS := Lib.hid hts
      have e3 : (xs.length : Int) ≤ (i1 : Int) := by omega
      clear hts h0 h1 h2 hi1
      go_wp2_with (first
        | ((with_reducible show wpList _ _ _ _ _ _); refine wpList_load_tcp rfl (.tmp 2) rfl gs rfl _ T1.out rfl ?_)
        | ((with_reducible show wpList _ _ _ _ _ _); refine wpList_store_tcp rfl (.tmp 4) (.tmp 32) rfl (gs + 1) _ (pC sp dp sq ak fl wn ur (.slice da dn dc) (.slice va s.bs.length vc) s) rfl rfl T2.out rfl rfl (by simp [pC, Value.oneCell']) ?_; intro VE hs2 hg2; have K2 := Lib.hid hs2; have G2 := Lib.hid hg2; clear hs2 hg2)
        | fail)
      exact bodyPost_ret (results_tcp2 rfl _ _ (gs + 1) _ _ rfl rfl K2.out rfl) rfl ⟨QR.out.grown G2.out QR.out.size (fun j e => by cases e; have := HGS.out; omega), .inl ⟨HRS.out, _, rfl, pC_one sp dp sq ak fl wn ur da dn dc va s.bs.length vc s⟩⟩
    case neg =>
    rw [if_neg h3] at hts
    have e3 : ¬ ((xs.length : Int) ≤ (i1 : Int)) := by omega
    have e3' : (i1 : Int) < (xs.length : Int) := by omega
    obtain ⟨n, hn⟩ : ∃ z, xs.getD i1 0 = z := ⟨_, rfl⟩
    have m1 := hbc i1 (by omega)
    rw [hn] at m1 hts
    have hn8 : n < 256 := by rw [← hn]; exact Mt.getD_lt xs XR.out.1 i1
    have WN : IntKind.i64.wrap (n : Int) = (n : Int) := IntWalk.i64_in _ ⟨by omega, by omega⟩
    obtain ⟨lr, hlr⟩ : ∃ z, xs.length - i = z := ⟨_, rfl⟩
    have WL : IntKind.i64.wrap ((xs.length : Int) - (i : Int)) = (lr : Int) := by rw [IntWalk.i64_in _ ⟨by omega, by omega⟩]; omega
    rw [hlr] at hts
    have FT := Lib.hid (fun W => rfits_any k n W)
    have HI1 := Lib.hid hi1
    have HLR := Lib.hid hlr
    have HF := Lib.hid hf
    clear hbc hn hi1 hlr hf h0 h1 h2 h3
    by_cases h4 : n < 2
    case pos =>
      rw [if_pos (.inl h4)] at hts
      have HRS := Lib.hid hts
      have e4 : (n : Int) < 2 := by omega
      clear hts h4
      go_wp2_with (first
        | ((with_reducible show wpList _ _ _ _ _ _); refine wpList_load_tcp rfl (.tmp 2) rfl gs rfl _ T1.out rfl ?_)
        | ((with_reducible show wpList _ _ _ _ _ _); refine wpList_store_tcp rfl (.tmp 4) (.tmp 58) rfl (gs + 1) _ (pC sp dp sq ak fl wn ur (.slice da dn dc) (.slice va s.bs.length vc) s) rfl rfl T2.out rfl rfl (by simp [pC, Value.oneCell']) ?_; intro VE hs2 hg2; have K2 := Lib.hid hs2; have G2 := Lib.hid hg2; clear hs2 hg2)
        | fail)
      exact bodyPost_ret (results_tcp2 rfl _ _ (gs + 1) _ _ rfl rfl K2.out rfl) rfl ⟨QR.out.grown G2.out QR.out.size (fun j e => by cases e; have := HGS.out; omega), .inl ⟨HRS.out, _, rfl, pC_one sp dp sq ak fl wn ur da dn dc va s.bs.length vc s⟩⟩
    case neg =>
    have e4 : ¬ ((n : Int) < 2) := by omega
    by_cases h5 : lr < n
    case pos =>
      rw [if_pos (.inr (.inl h5))] at hts
      have HRS := Lib.hid hts
      have e5 : (lr : Int) < (n : Int) := by omega
      clear hts h4 h5
      go_wp2_with (first
        | ((with_reducible show wpList _ _ _ _ _ _); refine wpList_load_tcp rfl (.tmp 2) rfl gs rfl _ T1.out rfl ?_)
        | ((with_reducible show wpList _ _ _ _ _ _); refine wpList_store_tcp rfl (.tmp 4) (.tmp 58) rfl (gs + 1) _ (pC sp dp sq ak fl wn ur (.slice da dn dc) (.slice va s.bs.length vc) s) rfl rfl T2.out rfl rfl (by simp [pC, Value.oneCell']) ?_; intro VE hs2 hg2; have K2 := Lib.hid hs2; have G2 := Lib.hid hg2; clear hs2 hg2)
        | fail)
      exact bodyPost_ret (results_tcp2 rfl _ _ (gs + 1) _ _ rfl rfl K2.out rfl) rfl ⟨QR.out.grown G2.out QR.out.size (fun j e => by cases e; have := HGS.out; omega), .inl ⟨HRS.out, _, rfl, pC_one sp dp sq ak fl wn ur da dn dc va s.bs.length vc s⟩⟩
    case neg =>
    have e5 : ¬ ((lr : Int) < (n : Int)) := by omega
    cases h6 : tcpFits k n
    case false =>
      rw [if_pos (.inr (.inr h6))] at hts
      have HRS := Lib.hid hts
      rw [h6] at FT
      clear hts h4 h5 h6
      go_wp2_with (first
        | ((with_reducible show wpList _ _ _ _ _ _); refine wpList_load_tcp rfl (.tmp 2) rfl gs rfl _ T1.out rfl ?_)
        | ((with_reducible show wpList _ _ _ _ _ _); refine wpList_store_tcp rfl (.tmp 4) (.tmp 58) rfl (gs + 1) _ (pC sp dp sq ak fl wn ur (.slice da dn dc) (.slice va s.bs.length vc) s) rfl rfl T2.out rfl rfl (by simp [pC, Value.oneCell']) ?_; intro VE hs2 hg2; have K2 := Lib.hid hs2; have G2 := Lib.hid hg2; clear hs2 hg2)
        | (go_at_call 46; with_reducible refine (FT.out _).mono ?_; rintro e w' ⟨rfl, rfl⟩)
        | fail)
      exact bodyPost_ret (results_tcp2 rfl _ _ (gs + 1) _ _ rfl rfl K2.out rfl) rfl ⟨QR.out.grown G2.out QR.out.size (fun j e => by cases e; have := HGS.out; omega), .inl ⟨HRS.out, _, rfl, pC_one sp dp sq ak fl wn ur da dn dc va s.bs.length vc s⟩⟩
    case true =>
    rw [if_neg (by rintro (h | h | h); exact h4 h; exact h5 h; rw [h6] at h; cases h)] at hts
    have H6 := Lib.hid h6
    rw [h6] at FT
    clear h6
    obtain ⟨cs, hcs, hcz, hck⟩ := SR.out
    have q0 := (blk_cell hcs k).trans (hck k hk8)
    obtain ⟨ie, hie⟩ : ∃ z, i + n = z := ⟨_, rfl⟩
    have WE : IntKind.i64.wrap ((i : Int) + (n : Int)) = (ie : Int) := by rw [IntWalk.i64_in _ ⟨by omega, by omega⟩]; omega
    rw [hie] at hts
    have k256 : (k : Int) < 256 := by omega
    have HE := Lib.hid hie
    have HCK := Lib.hid (And.intro hcz hck)
    by_cases h7 : k ∈ ks
    case pos =>
      rw [if_pos h7] at hts
      have HTS := Lib.hid hts
      have q1 : wr.cell? ⟨gs + 1 + 1, k, none⟩ = some (.bool true) := by rw [q0]; simp [h7]
      have qf := blk_free hcs k
      have HCS := Lib.hid hcs
      have H7 := Lib.hid h7
      clear q0 hts hcs hcz hck h4 h5 hie h7
      go_upto_region 14 with (first
        | (go_at_call 46; with_reducible refine (FT.out _).mono ?_; rintro e w' ⟨rfl, rfl⟩)
        | fail)
      have gA := grown_set wr (gs + 1 + 1) k (.bool true)
      have S9 := Lib.hid (seen_set HCS.out HCK.out.1 HCK.out.2 hk8)
      have T1v := Lib.hid ((gA.block gs (blk_lt T1.out) (fun e => by have := Option.some.inj e; omega)).trans T1.out)
      have T2v := Lib.hid ((gA.block (gs + 1) (blk_lt T2.out) (fun e => by have := Option.some.inj e; omega)).trans T2.out)
      have OV := Lib.hid (OR.out.grown gA (fun g' e1 e2 => by have h6 := Option.some.inj e2; have := (OR.out.ownB g' (by rw [e1]; rfl)).1; omega))
      have QV := Lib.hid (QR.out.grown gA QR.out.size (fun j e => by cases e; have := HGS.out; omega))
      have BV := Lib.hid (Nat.le_trans hB gA.size)
      clear q1 qf gA
      generalize wr.setCell ⟨gs + 1 + 1, k, none⟩ (.bool true) = VF at S9 T1v T2v OV QV BV ⊢
      go_wp2_with fail
      go_roundw
      case rel => exact ⟨ie, ks ++ [k], s, va, vc, f', by have := HE.out; have := HLR.out; omega, rfl, HTS.out.symm, by have := HE.out; have := HLR.out; have := HF.out; omega, T1v.out, T2v.out, S9.out, OV.out, fun h => H5.out (fun h2 => h (List.mem_append_left _ h2)), QV.out, BV.out⟩
      case measure => have := HE.out; have := HLR.out; simp [intOf]; omega
    case neg =>
    rw [if_neg h7] at hts
    have HTS := Lib.hid hts
    have q1 : wr.cell? ⟨gs + 1 + 1, k, none⟩ = some (.bool false) := by rw [q0]; simp [h7]
    have HCS := Lib.hid hcs
    have H7 := Lib.hid h7
    obtain ⟨i2, hi2⟩ : ∃ z, i + 2 = z := ⟨_, rfl⟩
    have W2 : IntKind.i64.wrap ((i : Int) + 2) = (i2 : Int) := by rw [IntWalk.i64_in _ ⟨by omega, by omega⟩]; omega
    have hlr2 := HLR.out
    have g1 : (i2 : Int) ≤ (ie : Int) := by omega
    have g2 : (ie : Int) ≤ (c : Int) := by omega
    obtain ⟨yl, hyl⟩ : ∃ z, ie - i2 = z := ⟨_, rfl⟩
    obtain ⟨ys, hys⟩ : ∃ z, seg xs i2 (n - 2) = z := ⟨_, rfl⟩
    have hysl : ys.length = yl := by rw [← hys, seg_length xs i2 (n - 2) (by omega)]; omega
    have hyn : ys.length + 2 = n := by rw [hysl]; omega
    rw [hi2, hys] at HTS
    obtain ⟨TA, hTA⟩ : ∃ z : Option Addr, (if c = i2 then some ⟨bb, bo, none⟩ else some ⟨bb, bo + i2, none⟩) = z := ⟨_, rfl⟩
    have YB : Hid (Bts wr TA ys) := Lib.hid (by
      rw [← hTA]
      by_cases hcc : c = i2
      · rw [if_pos hcc]
        have : ys = [] := List.eq_nil_of_length_eq_zero (by omega)
        rw [this]; exact Bts.nil _ _
      · rw [if_neg hcc, ← hys]; exact XR.out.segOf i2 (n - 2) (by omega))
    have HYL := Lib.hid hysl
    have HYN := Lib.hid hyn
    have HYC := Lib.hid (show ys.length ≤ c - i2 by omega)
    clear q0 hts hcs hcz hck h4 h5 hie h7 hi2 hlr2 hys hysl hyn
    go_upto_region 12 with (first
      | (go_at_call 46; with_reducible refine (FT.out _).mono ?_; rintro e w' ⟨rfl, rfl⟩)
      | fail)
    refine wp_region_quiet_tail [0, 1, 2, 3, 4, 5, 6, 7, 8, 9, 10, 11] 12 [13] [_, _, _, _, _, _, _, _, _, _, _, _] [_, _] (by kernel_rfl) rfl rfl rfl (by kernel_rfl) ?_
    (try simp only [List.getElem_toArray]); (try simp only [List.getElem_cons_succ]); (try simp only [List.getElem_cons_zero])
    have qc0 := cell_regrown (show wr.cell? ⟨gs, 0, none⟩ = some (.int .u16 (sp : Nat)) from blk_cell T1.out 0)
    have qc1 := cell_regrown (show wr.cell? ⟨gs, 1, none⟩ = some (.int .u16 (dp : Nat)) from blk_cell T1.out 1)
    have qc2 := cell_regrown (show wr.cell? ⟨gs, 2, none⟩ = some (.int .u32 (sq : Nat)) from blk_cell T1.out 2)
    have qc3 := cell_regrown (show wr.cell? ⟨gs, 3, none⟩ = some (.int .u32 (ak : Nat)) from blk_cell T1.out 3)
    have qc4 := cell_regrown (show wr.cell? ⟨gs, 4, none⟩ = some (.int .u8 (fl : Nat)) from blk_cell T1.out 4)
    have qc5 := cell_regrown (show wr.cell? ⟨gs, 5, none⟩ = some (.int .u16 (wn : Nat)) from blk_cell T1.out 5)
    have qc6 := cell_regrown (show wr.cell? ⟨gs, 6, none⟩ = some (.int .u16 (ur : Nat)) from blk_cell T1.out 6)
    have qc7 := cell_regrown (show wr.cell? ⟨gs, 7, none⟩ = some (.int .i64 (s.mss : Nat)) from blk_cell T1.out 7)
    have qc8 := cell_regrown (show wr.cell? ⟨gs, 8, none⟩ = some (.bool s.hs) from blk_cell T1.out 8)
    have qc9 := cell_regrown (show wr.cell? ⟨gs, 9, none⟩ = some (.int .i64 (s.sc : Nat)) from blk_cell T1.out 9)
    have qc10 := cell_regrown (show wr.cell? ⟨gs, 10, none⟩ = some (.bool s.sk) from blk_cell T1.out 10)
    have qc11 := cell_regrown (show wr.cell? ⟨gs, 11, none⟩ = some (.slice va s.bs.length vc) from blk_cell T1.out 11)
    have qc12 := cell_regrown (show wr.cell? ⟨gs, 12, none⟩ = some (.bool s.ht) from blk_cell T1.out 12)
    have qc13 := cell_regrown (show wr.cell? ⟨gs, 13, none⟩ = some (.int .u32 (s.tv : Nat)) from blk_cell T1.out 13)
    have qc14 := cell_regrown (show wr.cell? ⟨gs, 14, none⟩ = some (.int .u32 (s.te : Nat)) from blk_cell T1.out 14)
    have qc15 := cell_regrown (show wr.cell? ⟨gs, 15, none⟩ = some (.slice da dn dc) from blk_cell T1.out 15)
    have qm := cell_regrown (show wr.cell? ⟨bb, bo + i, none⟩ = some (.int .u8 (k : Nat)) from m0)
    repeat (go_big_quiet_step (first | fail))
    refine wpQuiet_nil ?_
    intro _ hw'
    obtain ⟨⟨dq, osq⟩, hw''⟩ := hw'
    subst hw''
    have hBQ := below_regrown wr dq osq
    clear qc0 qc1 qc2 qc3 qc4 qc5 qc6 qc7 qc8 qc9 qc10 qc11 qc12 qc13 qc14 qc15 qm
    dsimp only
    have T1q := Lib.hid ((hBQ.block gs (blk_lt T1.out)).trans T1.out)
    have T2q := Lib.hid ((hBQ.block (gs + 1) (blk_lt T2.out)).trans T2.out)
    have HCSq := Lib.hid ((hBQ.block (gs + 1 + 1) (blk_lt HCS.out)).trans HCS.out)
    have OQ := Lib.hid (OR.out.below hBQ)
    have QQ := Lib.hid (QR.out.trans (hBQ.mono QR.out.size))
    have YQ := Lib.hid (YB.out.below hBQ)
    have hBq := Nat.le_trans hB hBQ.size
    generalize grow (redrawn wr dq) osq = VQ at T1q T2q HCSq OQ QQ YQ hBq ⊢
    have ro := rone_any sp dp sq ak fl wn ur da dn dc s va vc (gs + 3) k TA ys (c - i2) VQ YQ.out (by rw [HYN.out]; exact H6.out) (fun e => H5.out (by rw [← e]; exact H7.out)) OQ.out hBq HYC.out
    rw [HYL.out] at ro
    have RO := Lib.hid ro
    have HTA := Lib.hid hTA
    clear ro q1
    go_upto_region 13 with (first
      | (go_at_call 47; refine RO.out.mono ?_; rintro e V6 ⟨va', vc', rfl, o6, b6, hno⟩; have HNO := Lib.hid hno; have O6 := Lib.hid o6; have T1w := Lib.hid ((b6.block gs (blk_lt T1q.out)).trans T1q.out); have T2w := Lib.hid ((b6.block (gs + 1) (blk_lt T2q.out)).trans T2q.out); have HCSw := Lib.hid ((b6.block (gs + 1 + 1) (blk_lt HCSq.out)).trans HCSq.out); have Q6 := Lib.hid (QQ.out.trans (b6.mono QQ.out.size)); have hB6 := Nat.le_trans hBq b6.size; clear o6 b6 hno)
      | ((with_reducible show wpList _ _ _ _ _ _); refine wpList_store_tcp rfl (.tmp 2) (.tmp 78) rfl gs _ (pC sp dp sq ak fl wn ur (.slice da dn dc) (.slice va' (setO s k ys).bs.length vc') (setO s k ys)) rfl rfl T1w.out rfl rfl (by simp [pC, Value.oneCell']) ?_; intro V7 hs2 hg2; have T1x := Lib.hid hs2; have G2 := Lib.hid hg2; clear hs2 hg2)
      | fail)
    have T2x := Lib.hid ((G2.out.block (gs + 1) (blk_lt T2w.out) (fun e => by have := Option.some.inj e; omega)).trans T2w.out)
    have hcs7 := (G2.out.block (gs + 1 + 1) (blk_lt HCSw.out) (fun e => by have := Option.some.inj e; omega)).trans HCSw.out
    have HC7 := Lib.hid hcs7
    have O7 := Lib.hid (O6.out.grown G2.out (fun g' e1 e2 => by have h6 := Option.some.inj e2; have := (O6.out.ownB g' (by rw [e1]; rfl)).1; omega))
    have Q7 := Lib.hid (Q6.out.grown G2.out Q6.out.size (fun j e => by cases e; have := HGS.out; omega))
    have hB7 := Nat.le_trans hB6 G2.out.size
    have m0' := bts_at (i := i) (HX.out.below Q7.out) (by omega)
    rw [HK.out] at m0'
    have q1 := (blk_cell hcs7 k).trans (HCK.out.2 k hk8)
    have qf := blk_free hcs7 k
    clear hcs7 G2 T1w T2w HCSw O6 Q6 hB6
    go_upto_region 14 with fail
    have gA := grown_set V7 (gs + 1 + 1) k (.bool true)
    have S9 := Lib.hid (seen_set HC7.out HCK.out.1 HCK.out.2 hk8)
    have T1v := Lib.hid ((gA.block gs (blk_lt T1x.out) (fun e => by have := Option.some.inj e; omega)).trans T1x.out)
    have T2v := Lib.hid ((gA.block (gs + 1) (blk_lt T2x.out) (fun e => by have := Option.some.inj e; omega)).trans T2x.out)
    have OV := Lib.hid (O7.out.grown gA (fun g' e1 e2 => by have h6 := Option.some.inj e2; have := (O7.out.ownB g' (by rw [e1]; rfl)).1; omega))
    have QV := Lib.hid (Q7.out.grown gA Q7.out.size (fun j e => by cases e; have := HGS.out; omega))
    have BV := Lib.hid (Nat.le_trans hB7 gA.size)
    clear q1 qf gA m0'
    generalize V7.setCell ⟨gs + 1 + 1, k, none⟩ (.bool true) = VF at S9 T1v T2v OV QV BV ⊢
    go_wp2_with fail
    go_roundw
    case rel => exact ⟨ie, ks ++ [k], setO s k ys, va', vc', f', by have := HE.out; have := HLR.out; omega, rfl, HTS.out.symm, by have := HE.out; have := HLR.out; have := HF.out; omega, T1v.out, T2v.out, S9.out, OV.out, fun h => (by
      have hk5 : k ≠ 5 := fun e => h (by rw [e]; simp)
      have h5k : 5 ∉ ks := fun h2 => h (List.mem_append_left _ h2)
      obtain ⟨r1, r2, r3⟩ := H5.out h5k
      obtain ⟨e1, e2, e3⟩ := HNO.out hk5
      exact ⟨by rw [e3]; exact r1, by rw [e1]; exact r2, by rw [e2]; exact r3⟩), QV.out, BV.out⟩
    case measure => have := HE.out; have := HLR.out; simp [intOf]; omega
end Go.Proofs.Ytgmgoilleakdcaa
