/- A slice that reads as octets, a row of one's own, and what keeps them. -/
import Derived.Test.YtokfadlgiimaoaaProg
import Derived.Test.YtokfadlgiimaoaaMath
import Derived.WalkKit
import Derived.Lib.Hide
import Derived.OwnWalk
import Derived.Below
import Derived.Laws.AppendOwn
import Derived.Laws.NewBlocks
import Derived.Deep.QuietTactic
import Derived.BigQuiet
import Derived.Laws.BitsAllLaws
import Derived.OneCell
namespace Go.Proofs.Ytokfadlgiimaoaa
open Go.RowKit

/-- A slice that reads as these octets. -/
def Bts (w : World) (a : Option Addr) (xs : List Nat) : Prop :=
  (∀ x ∈ xs, x < 256) ∧ (xs = [] ∨ ∃ b off, a = some ⟨b, off, none⟩ ∧ b < w.heap.size ∧ ∀ i, i < xs.length → w.cell? ⟨b, off + i, none⟩ = some (.int .u8 (xs.getD i 0 : Nat)))

theorem Bts.below {w w' : World} {a : Option Addr} {xs : List Nat} (h : Bts w a xs) (hb : Below w.heap.size w w') : Bts w' a xs := by
  obtain ⟨h1, h2 | ⟨b, off, rfl, hlt, hc⟩⟩ := h
  · exact ⟨h1, .inl h2⟩
  · exact ⟨h1, .inr ⟨b, off, rfl, Nat.lt_of_lt_of_le hlt hb.size, fun i hi => (hb.cell (p := ⟨b, off + i, none⟩) hlt).trans (hc i hi)⟩⟩

theorem made_list (v : Value) (h : v.cells = #[v]) (k : Nat) : (madeCells v.cells k).toList = List.replicate k v := by
  rw [h]
  apply List.ext_getElem
  · simp [madeCells]
  · intro i h1 h2
    simp [madeCells]
    rw [Nat.mod_one]; rfl

theorem info5 : (Try.prog.info? 5).map (fun i => (i.zero, i.size, i.bytes)) = some (some (.int .u8 0), 1, 1) := by kernel_rfl

theorem octs_lt (n k : Nat) : ∀ x ∈ Mt.octs n k, x < 256 := by
  intro x hx
  unfold Mt.octs at hx
  obtain ⟨i, _, rfl⟩ := List.mem_map.1 hx
  exact Nat.mod_lt _ (by omega)

/-- A row of one's own reads as its octets. -/
theorem row_bts {w : World} {B g cap : Nat} {xs : List Nat} (h : w.ownsRow B 5 1 (.slice (some ⟨g, 0, none⟩) xs.length cap) xs.length (xs.map fun x => Value.int .u8 (x : Nat))) (hx : ∀ x ∈ xs, x < 256) : Bts w (some ⟨g, 0, none⟩) xs := by
  refine ⟨hx, .inr ⟨g, 0, rfl, (h.lt g rfl).2, fun i hi => ?_⟩⟩
  rw [Nat.zero_add, h.cellAt i (by omega), List.getElem?_map, List.getD_eq_getElem?_getD, List.getElem?_eq_getElem hi]
  rfl

/-- A slice, nil or in a row of its own from block B on, that reads as these octets. -/
def OwnSl (B : Nat) (a : Option Addr) (xs : List Nat) (cap : Nat) (w : World) : Prop :=
  (∀ x ∈ xs, x < 256) ∧ ((a = none ∧ xs = [] ∧ cap = 0) ∨ (∃ g, a = some ⟨g, 0, none⟩ ∧ B ≤ g ∧ w.ownsRow B 5 1 (.slice (some ⟨g, 0, none⟩) xs.length cap) xs.length (xs.map fun x => Value.int .u8 (x : Nat))))

theorem OwnSl.bts {B : Nat} {a : Option Addr} {xs : List Nat} {cap : Nat} {w : World} (h : OwnSl B a xs cap w) : Bts w a xs := by
  obtain ⟨hx, ⟨_, rfl, _⟩ | ⟨g, rfl, _, hr⟩⟩ := h
  · exact ⟨hx, .inl rfl⟩
  · exact row_bts hr hx

theorem OwnSl.below {B : Nat} {a : Option Addr} {xs : List Nat} {cap : Nat} {w w' : World} (h : OwnSl B a xs cap w) (hb : Below w.heap.size w w') : OwnSl B a xs cap w' := by
  obtain ⟨hx, ⟨ha, he, hc⟩ | ⟨g, ha, hB, hr⟩⟩ := h
  · exact ⟨hx, .inl ⟨ha, he, hc⟩⟩
  · refine ⟨hx, .inr ⟨g, ha, hB, hr.1, ?_⟩⟩
    rcases hr.2 with h0 | ⟨g', cap', cur, e, h1, h2, h3⟩
    · exact .inl h0
    · have hlt : g' < w.heap.size := (Array.getElem?_eq_some_iff.1 h2).1
      exact .inr ⟨g', cap', cur, e, h1, (hb.block g' hlt).trans h2, h3⟩

theorem OwnSl.mono {B B' : Nat} {a : Option Addr} {xs : List Nat} {cap : Nat} {w : World} (h : OwnSl B a xs cap w) (hb : B' ≤ B) : OwnSl B' a xs cap w := by
  obtain ⟨hx, h0 | ⟨g, ha, hB, hr⟩⟩ := h
  · exact ⟨hx, .inl h0⟩
  · refine ⟨hx, .inr ⟨g, ha, by omega, hr.1, ?_⟩⟩
    rcases hr.2 with h0 | ⟨g', cap', cur, e, h1, h2⟩
    · exact .inl h0
    · exact .inr ⟨g', cap', cur, e, by omega, h2⟩

theorem OwnSl.nilcap {B : Nat} {a : Option Addr} {xs : List Nat} {cap : Nat} {w : World} (h : OwnSl B a xs cap w) : a = none → cap = 0 := by
  obtain ⟨_, ⟨_, _, h⟩ | ⟨g, ha, _⟩⟩ := h
  · exact fun _ => h
  · intro h; rw [ha] at h; cases h

/-- A row that lies from a later block on lies on where an elder block is turned. -/
theorem OwnSl.kept {B g : Nat} {a : Option Addr} {xs : List Nat} {cap : Nat} {w w' : World} (h : OwnSl B a xs cap w) (hg : w.grownBy w' (some g)) (hlt : g < B) : OwnSl B a xs cap w' := by
  obtain ⟨hx, h0 | ⟨b, rfl, hB, hr⟩⟩ := h
  · exact ⟨hx, .inl h0⟩
  · exact ⟨hx, .inr ⟨b, rfl, hB, hr.kept hg (.inr (by simp [Value.ownBlock]; omega))⟩⟩


/-- A list of octets that was built on the spot. -/
theorem bts_new (w : World) (xs : List Nat) (t : TypeId) (h : ∀ x ∈ xs, x < 256) : Bts (w.alloc (.cells (xs.map (fun x => Value.int .u8 (x : Nat))).toArray t)) (some ⟨w.heap.size, 0, none⟩) xs := by
  refine ⟨h, .inr ⟨w.heap.size, 0, rfl, by simp, fun i hi => ?_⟩⟩
  rw [Nat.zero_add, World.cell?_alloc_new]
  simp [List.getD_eq_getElem?_getD, List.getElem?_eq_getElem hi]

/-- A list that reads as octets, as the source of an append. -/
theorem Bts.src {w : World} {ad : Addr} {xs : List Nat} (h : Bts w (some ad) xs) : ∀ j u, (xs.map fun x => Value.int .u8 ((x : Nat) : Int))[j]? = some u → w.cell? (ad.add j) = some u := by
  intro j u hj
  rcases h.2 with h | ⟨b, off, h, hb, hc⟩
  · subst h; simp at hj
  · cases h
    have hjl : j < xs.length := by simpa using (List.getElem?_eq_some_iff.1 hj).1
    have e : (⟨b, off, none⟩ : Addr).add j = ⟨b, off + j, none⟩ := by unfold Addr.add; split <;> simp_all
    rw [e, hc j hjl, ← hj]
    simp [List.getD_eq_getElem?_getD, List.getElem?_eq_getElem hjl]

theorem OwnSl.row {B g cap : Nat} {xs : List Nat} {w : World} (h : OwnSl B (some ⟨g, 0, none⟩) xs cap w) : B ≤ g ∧ w.ownsRow B 5 1 (.slice (some ⟨g, 0, none⟩) xs.length cap) xs.length (xs.map fun x => Value.int .u8 (x : Nat)) := by
  obtain ⟨_, ⟨h, _⟩ | ⟨g', h, hB, hr⟩⟩ := h
  · cases h
  · cases h; exact ⟨hB, hr⟩

/-- A row of one's own lies on where only later blocks are made or turned. -/
theorem row_below {w w' : World} {B : Nat} {t : TypeId} {v : Value} {n : Nat} {cs : List Value} (h : w.ownsRow B t 1 v n cs) (hb : Below w.heap.size w w') : w'.ownsRow B t 1 v n cs := by
  refine ⟨h.1, ?_⟩
  rcases h.2 with h0 | ⟨g', cap', cur, e, h1, h2, h3⟩
  · exact .inl h0
  · have hlt : g' < w.heap.size := (Array.getElem?_eq_some_iff.1 h2).1
    exact .inr ⟨g', cap', cur, e, h1, (hb.block g' hlt).trans h2, h3⟩

/-- A row of one's own is a slice, nil or not. -/
theorem OwnSl.of_row {B : Nat} {v : Value} {xs : List Nat} {w : World} (hx : ∀ x ∈ xs, x < 256) (h : w.ownsRow B 5 1 v xs.length (xs.map fun x => Value.int .u8 (x : Nat))) : ∃ a cap, v = .slice a xs.length cap ∧ OwnSl B a xs cap w := by
  rcases h.2 with ⟨rfl, h0⟩ | ⟨g, cap', cur, rfl, hB, h2⟩
  · obtain rfl : xs = [] := List.eq_nil_of_length_eq_zero h0
    exact ⟨none, 0, rfl, ⟨hx, .inl ⟨rfl, rfl, rfl⟩⟩⟩
  · exact ⟨some ⟨g, 0, none⟩, cap', rfl, ⟨hx, .inr ⟨g, rfl, hB, h⟩⟩⟩

/-- .. and back. -/
theorem OwnSl.rowAny {B cap : Nat} {a : Option Addr} {xs : List Nat} {w : World} (h : OwnSl B a xs cap w) : w.ownsRow B 5 1 (.slice a xs.length cap) xs.length (xs.map fun x => Value.int .u8 (x : Nat)) := by
  obtain ⟨_, ⟨rfl, rfl, rfl⟩ | ⟨g, rfl, _, hr⟩⟩ := h
  · exact World.ownsRow_nil _ _ _ _
  · exact hr

/-- What is appended to it turns no block below B. -/
theorem OwnSl.ownB {B cap : Nat} {a : Option Addr} {xs : List Nat} {w : World} (h : OwnSl B a xs cap w) : ∀ k, (Value.slice a xs.length cap).ownBlock = some k → B ≤ k := by
  obtain ⟨_, ⟨rfl, rfl, rfl⟩ | ⟨g, rfl, hB, _⟩⟩ := h
  · intro k e; cases e
  · intro k e; cases e; exact hB

/-- Two lists, one behind the other. -/
theorem OwnSl.of_two {B : Nat} {v : Value} {xs ys : List Nat} {n : Nat} {w : World} (hx : ∀ x ∈ xs, x < 256) (hy : ∀ x ∈ ys, x < 256) (hn : n = (xs ++ ys).length) (h : w.ownsRow B 5 1 v n ((xs.map fun x => Value.int .u8 (x : Nat)) ++ (ys.map fun x => Value.int .u8 (x : Nat)))) : ∃ a cap, v = .slice a (xs ++ ys).length cap ∧ OwnSl B a (xs ++ ys) cap w := by
  subst hn
  exact OwnSl.of_row (fun x h => (List.mem_append.1 h).elim (hx x) (hy x)) (by rw [List.map_append]; exact h)

theorem OwnSl.isSome {B cap : Nat} {a : Option Addr} {xs : List Nat} {w : World} (h : OwnSl B a xs cap w) (hx : 0 < xs.length) : ∃ g, a = some ⟨g, 0, none⟩ ∧ B ≤ g ∧ g < w.heap.size := by
  obtain ⟨_, ⟨_, rfl, _⟩ | ⟨g, rfl, hB, hr⟩⟩ := h
  · simp at hx
  · exact ⟨g, rfl, hB, (hr.lt g rfl).2⟩

theorem OwnSl.cellAt {B g cap : Nat} {xs : List Nat} {w : World} (h : OwnSl B (some ⟨g, 0, none⟩) xs cap w) (i : Nat) (hi : i < xs.length) : w.cell? ⟨g, i, none⟩ = some (.int .u8 (xs.getD i 0 : Nat)) := by
  rw [h.row.2.cellAt i (by omega), List.getElem?_map, List.getD_eq_getElem?_getD, List.getElem?_eq_getElem hi]
  rfl

theorem OwnSl.frozenAt {B g cap : Nat} {xs : List Nat} {w : World} (h : OwnSl B (some ⟨g, 0, none⟩) xs cap w) (i : Nat) : w.frozen? ⟨g, i, none⟩ = false := h.row.2.frozenAt i

/-- One octet of a list of one's own is turned. -/
theorem OwnSl.store {B g cap : Nat} {xs : List Nat} {w : World} (h : OwnSl B (some ⟨g, 0, none⟩) xs cap w) (i v : Nat) (hv : v < 256) : OwnSl B (some ⟨g, 0, none⟩) (xs.set i v) cap (w.setCell ⟨g, i, none⟩ (.int .u8 (v : Nat))) := by
  have hst := h.row.2.stored i (.int .u8 ((v : Nat) : Int))
  rw [Mt.map_set (fun x : Nat => Value.int .u8 (x : Int)) xs i v] at hst
  refine ⟨fun x hx => ?_, .inr ⟨g, rfl, h.row.1, ?_⟩⟩
  · rcases List.mem_or_eq_of_mem_set hx with hx | hx
    · exact h.1 x hx
    · omega
  · rw [List.length_set]; exact hst.1

/-- A list that was built on the spot is one's own. -/
theorem own_new (w : World) (xs : List Nat) (h : ∀ x ∈ xs, x < 256) (hl : xs.length ≤ maxLen) : OwnSl w.heap.size (some ⟨w.heap.size, 0, none⟩) xs xs.length (w.alloc (.cells (xs.map (fun x => Value.int .u8 (x : Nat))).toArray 5)) := by
  refine ⟨h, .inr ⟨w.heap.size, rfl, Nat.le_refl _, by simp, .inr ⟨w.heap.size, xs.length, (xs.map (fun x => Value.int .u8 (x : Nat))).toArray, rfl, Nat.le_refl _, (show (w.heap.push _)[w.heap.size]? = _ by simp), Nat.le_refl _, hl, by simp, ?_⟩⟩⟩
  rw [Nat.mul_one]
  exact List.take_of_length_le (by simp)

theorem OwnSl.alloc {B : Nat} {a : Option Addr} {xs : List Nat} {cap : Nat} {w : World} (h : OwnSl B a xs cap w) (o : Obj) : OwnSl B a xs cap (w.alloc o) := h.below ((Below.refl _ _).alloc (Nat.le_refl _) o)

/-- A part of a list. -/
def seg (xs : List Nat) (i n : Nat) : List Nat := (xs.drop i).take n

theorem seg_length (xs : List Nat) (i n : Nat) (h : i + n ≤ xs.length) : (seg xs i n).length = n := by
  unfold seg; rw [List.length_take, List.length_drop]; omega

theorem seg_getD (xs : List Nat) (i n j : Nat) (hj : j < n) : (seg xs i n).getD j 0 = xs.getD (i + j) 0 := by
  unfold seg
  rw [List.getD_eq_getElem?_getD, List.getElem?_take_of_lt hj, List.getElem?_drop, List.getD_eq_getElem?_getD]

theorem seg_lt {xs : List Nat} (h : ∀ x ∈ xs, x < 256) (i n : Nat) : ∀ x ∈ seg xs i n, x < 256 := fun x hx => h x (List.mem_of_mem_drop (List.mem_of_mem_take hx))

theorem Bts.segOf {w : World} {b off : Nat} {xs : List Nat} (h : Bts w (some ⟨b, off, none⟩) xs) (i n : Nat) (hi : i + n ≤ xs.length) : Bts w (some ⟨b, off + i, none⟩) (seg xs i n) := by
  refine ⟨seg_lt h.1 i n, ?_⟩
  rcases h.2 with h0 | ⟨b', off', e, hb, hc⟩
  · left; rw [h0]; simp [Go.Proofs.Ytokfadlgiimaoaa.seg]
  · cases e
    right
    refine ⟨b, off + i, rfl, hb, fun j hj => ?_⟩
    have hl := seg_length xs i n hi
    rw [seg_getD xs i n j (by omega), ← hc (i + j) (by omega)]
    congr 2
    omega

theorem OwnSl.capLe {B : Nat} {a : Option Addr} {xs : List Nat} {cap : Nat} {w : World} (h : OwnSl B a xs cap w) : xs.length ≤ cap ∧ cap ≤ maxLen := by
  obtain ⟨_, ⟨_, rfl, rfl⟩ | ⟨g, rfl, _, hr⟩⟩ := h
  · exact ⟨Nat.le_refl _, Nat.zero_le _⟩
  · rcases hr.2 with ⟨h, _⟩ | ⟨g', cap', cur, e, _, _, h1, h2, _⟩
    · cases h
    · cases e; exact ⟨h1, h2⟩

/-- What stands behind a place. -/
theorem Bts.rest {w : World} {b off : Nat} {xs : List Nat} (h : Bts w (some ⟨b, off, none⟩) xs) (i : Nat) (hi : i ≤ xs.length) : Bts w (some ⟨b, off + i, none⟩) (xs.drop i) := by
  have h2 := h.segOf i (xs.length - i) (by omega)
  have e : seg xs i (xs.length - i) = xs.drop i := by unfold Go.Proofs.Ytokfadlgiimaoaa.seg; exact List.take_of_length_le (by rw [List.length_drop]; exact Nat.le_refl _)
  rwa [e] at h2

theorem Bts.nil (w : World) (a : Option Addr) : Bts w a [] := ⟨(fun x h => by cases h), .inl rfl⟩

theorem Bts.isSome {w : World} {a : Option Addr} {xs : List Nat} (h : Bts w a xs) (hx : 0 < xs.length) : ∃ b off, a = some ⟨b, off, none⟩ ∧ b < w.heap.size ∧ ∀ i, i < xs.length → w.cell? ⟨b, off + i, none⟩ = some (.int .u8 (xs.getD i 0 : Nat)) := by
  rcases h.2 with rfl | h
  · simp at hx
  · exact h

/-- A block known whole: its cells, that none is frozen, that it lies there. -/
theorem blk_cell {W : World} {g : Nat} {cs : Array Value} {t : TypeId} (h : W.heap[g]? = some (.cells cs t (0, 0))) (i : Nat) : W.cell? ⟨g, i, none⟩ = cs[i]? := by simp [World.cell?, h]
theorem blk_free {W : World} {g : Nat} {cs : Array Value} {t : TypeId} (h : W.heap[g]? = some (.cells cs t (0, 0))) (i : Nat) : W.frozen? ⟨g, i, none⟩ = false := by simp [World.frozen?, h]
theorem blk_new (W : World) (o : Obj) : (W.alloc o).heap[W.heap.size]? = some o := by
  show (W.heap.push _)[W.heap.size]? = _
  simp

theorem blk_set {W : World} {g : Nat} {cs : Array Value} {t : TypeId} (h : W.heap[g]? = some (.cells cs t (0, 0))) (i : Nat) (v : Value) : (W.setCell ⟨g, i, none⟩ v).heap[g]? = some (.cells (cs.setIfInBounds i v) t (0, 0)) := by
  have hlt : g < W.heap.size := (Array.getElem?_eq_some_iff.1 h).1
  have h' : W.heap[g] = .cells cs t (0, 0) := by simpa [Array.getElem?_eq_getElem hlt] using h
  show (W.heap.modify g _)[g]? = _
  rw [Array.getElem?_eq_getElem (by simpa using hlt), Array.getElem_modify_self, h']
  rfl

/-- A list of one's own lies on where a cell of an elder block is turned. -/
theorem OwnSl.setOther {B g i : Nat} {a : Option Addr} {xs : List Nat} {cap : Nat} {w : World} {v : Value} (h : OwnSl B a xs cap w) (hlt : g < B) : OwnSl B a xs cap (w.setCell ⟨g, i, none⟩ v) := by
  obtain ⟨hx, h0 | ⟨b, rfl, hB, hr⟩⟩ := h
  · exact ⟨hx, .inl h0⟩
  · exact ⟨hx, .inr ⟨b, rfl, hB, ownsRow_setCell_other hr (by simp [Value.ownBlock]; omega) v⟩⟩

theorem blk_other {W : World} {g : Nat} {o : Obj} (h : W.heap[g]? = some o) {g' i : Nat} (hne : g' ≠ g) (v : Value) : (W.setCell ⟨g', i, none⟩ v).heap[g]? = some o := by
  rw [Below.heap_setCell _ _ _ _ (fun e => hne e.symm)]; exact h

end Go.Proofs.Ytokfadlgiimaoaa
