/- What all walks lean on where no list of octets is in sight: blocks known whole. -/
import Derived.Test.YthbiadhnlomhmaaProg
import Derived.WalkKit
import Derived.Lib.Hide
import Derived.OwnWalk
import Derived.Below
import Derived.Laws.AppendOwn
import Derived.Laws.NewBlocks
import Derived.Deep.QuietTactic
import Derived.BigQuiet
import Derived.OneCell
import Derived.WalkSpells
import Derived.WalkLawsBesides
import Derived.PlainAid
import Derived.WalkSmall
import Derived.ProofKit
namespace Go.Proofs.Ythbiadhnlomhmaa
open Go.RowKit

/-- A block known whole: its cells, that none is frozen, that it lies there. -/
theorem blk_cell {W : World} {g : Nat} {cs : Array Value} {t : TypeId} (h : W.heap[g]? = some (.cells cs t (0, 0))) (i : Nat) : W.cell? ⟨g, i, none⟩ = cs[i]? := by simp [World.cell?, h]
theorem blk_free {W : World} {g : Nat} {cs : Array Value} {t : TypeId} (h : W.heap[g]? = some (.cells cs t (0, 0))) (i : Nat) : W.frozen? ⟨g, i, none⟩ = false := by simp [World.frozen?, h]
theorem blk_new (W : World) (o : Obj) : (W.alloc o).heap[W.heap.size]? = some o := by
  show (W.heap.push _)[W.heap.size]? = _
  simp

theorem blk_set {W : World} {g : Nat} {cs : Array Value} {t : TypeId} (h : W.heap[g]? = some (.cells cs t (0, 0))) (i : Nat) (v : Value) : (W.setCell ⟨g, i, none⟩ v).heap[g]? = some (.cells (cs.setIfInBounds i v) t (0, 0)) := by
  have hlt : g < W.heap.size := (Array.getElem?_eq_some_iff.1 h).1
  have h' : W.heap[g] = .cells cs t (0, 0) := by simpa [Array.getElem?_eq_getElem hlt] using h
  show (W.heap.modify g _)[g]? = _
  rw [Array.getElem?_eq_getElem (by simpa using hlt), Array.getElem_modify_self, h']
  rfl

theorem blk_other {W : World} {g : Nat} {o : Obj} (h : W.heap[g]? = some o) {g' i : Nat} (hne : g' ≠ g) (v : Value) : (W.setCell ⟨g', i, none⟩ v).heap[g]? = some o := by
  rw [Below.heap_setCell _ _ _ _ (fun e => hne e.symm)]; exact h

/-- What a call that only makes memory leaves. -/
theorem bcell {W w1 : World} (hb : Below W.heap.size W w1) : (∀ b o, b < W.heap.size → w1.cell? ⟨b, o, none⟩ = W.cell? ⟨b, o, none⟩) ∧ (∀ b o, b < W.heap.size → w1.frozen? ⟨b, o, none⟩ = W.frozen? ⟨b, o, none⟩) :=
  ⟨fun b o h => hb.cell (p := ⟨b, o, none⟩) h, fun b o h => hb.frozen (p := ⟨b, o, none⟩) h⟩

theorem below_after {w X w1 : World} (h : Below w.heap.size w X) (b : Below X.heap.size X w1) : Below w.heap.size w w1 := h.trans (b.mono h.size)

/-- Is a number within bounds? -/
def inb (n lo hi : Int) : Bool := decide (lo ≤ n) && decide (n ≤ hi)
theorem inb_true {n lo hi : Int} (h1 : lo ≤ n) (h2 : n ≤ hi) : inb n lo hi = true := by simp [inb, h1, h2]
theorem inb_iff {n lo hi : Int} : inb n lo hi = true ↔ (lo ≤ n ∧ n ≤ hi) := by simp [inb]
theorem inb_not {n lo hi : Int} : inb n lo hi = false ↔ ¬ (lo ≤ n ∧ n ≤ hi) := by rw [← inb_iff, Bool.not_eq_true]

theorem pow16 (b : Int) (h0 : 0 ≤ b) (h : b ≤ 16) : 1 ≤ (2 : Int) ^ b.toNat ∧ (2 : Int) ^ b.toNat ≤ 65536 := by
  obtain ⟨k, rfl⟩ : ∃ k : Nat, b = k := ⟨b.toNat, by omega⟩
  have hk : k < 17 := by omega
  have := (show ∀ k, k < 17 → 1 ≤ (2 : Int) ^ k ∧ (2 : Int) ^ k ≤ 65536 from by decide +kernel) k hk
  simpa using this

/-- A shift that does not wrap. -/
theorem shl_in (u b : Int) (h0 : 0 ≤ u) (h : u ≤ 68719476736) (b0 : 0 ≤ b) (b1 : b ≤ 16) : wrap64 (u * 2 ^ b.toNat) = u * 2 ^ b.toNat := by
  obtain ⟨p1, p2⟩ := pow16 b b0 b1
  generalize (2 : Int) ^ b.toNat = p at p1 p2 ⊢
  have h1 : u * p ≤ 68719476736 * 65536 := Int.mul_le_mul h p2 (by omega) (by omega)
  have h2 : 0 ≤ u * p := Int.mul_nonneg h0 (by omega)
  exact IntWalk.wrap64_in _ ⟨by omega, by omega⟩

theorem dbl_bound (U : Int) (k : Nat) (h0 : 0 ≤ U) (h : U ≤ 68719476736) (hk : k ≤ 16) : 0 ≤ U * 2 ^ k ∧ U * 2 ^ k ≤ 4503599627370496 := by
  obtain ⟨p1, p2⟩ := pow16 (k : Int) (by omega) (by omega)
  rw [Int.toNat_natCast] at p1 p2
  generalize (2 : Int) ^ k = p at p1 p2 ⊢
  have h1 : U * p ≤ 68719476736 * 65536 := Int.mul_le_mul h p2 (by omega) (by omega)
  exact ⟨Int.mul_nonneg h0 (by omega), by omega⟩

/-- A number brought within 0 to M - 1, as the statements do. -/
theorem norm_mod (a M : Int) (h0 : 0 < M) (h1 : M ≤ 1099511627776) : ∃ z : Int, (wrap64 (a.tmod M + M)).tmod M = z ∧ 0 ≤ z ∧ z < M := by
  have a1 : a.tmod M < M := Int.tmod_lt_of_pos a h0
  have a2 : -M < a.tmod M := by
    by_cases ha : 0 ≤ a
    · have := Int.tmod_nonneg M ha
      omega
    · have e : a.tmod M = -((-a).tmod M) := by rw [Int.neg_tmod, Int.neg_neg]
      have := Int.tmod_lt_of_pos (-a) h0
      omega
  rw [IntWalk.wrap64_in _ ⟨by omega, by omega⟩]
  exact ⟨_, rfl, Int.tmod_nonneg M (by omega), Int.tmod_lt_of_pos _ h0⟩

theorem blk_lt {W : World} {g : Nat} {o : Obj} (h : W.heap[g]? = some o) : g < W.heap.size := (Array.getElem?_eq_some_iff.1 h).1

/-- Four blocks, one behind the other, and a draw. -/
theorem allocs4 (w : World) (a b c d : Obj) {W : World} (h : W = ((((w.alloc a).alloc b).alloc c).alloc d).drew) :
    W.heap[w.heap.size]? = some a ∧ W.heap[w.heap.size + 1]? = some b ∧ W.heap[w.heap.size + 1 + 1]? = some c ∧ W.heap[w.heap.size + 1 + 1 + 1]? = some d ∧ W.heap.size = w.heap.size + 1 + 1 + 1 + 1 ∧ Below w.heap.size w W := by
  subst h
  have b1 := (Below.refl w.heap.size w).alloc (Nat.le_refl _) a
  have b2 := b1.alloc b1.size b
  have b3 := b2.alloc b2.size c
  have b4 := b3.alloc b3.size d
  refine ⟨?_, ?_, ?_, ?_, ?_, b4.drew⟩
  · show ((((w.heap.push a).push b).push c).push d)[w.heap.size]? = some a
    (repeat rw [Array.getElem?_push]); simp only [Array.size_push]; (repeat (first | rw [if_pos (by omega)] | rw [if_neg (by omega)] | rw [if_pos trivial]))
  · show ((((w.heap.push a).push b).push c).push d)[w.heap.size + 1]? = some b
    (repeat rw [Array.getElem?_push]); simp only [Array.size_push]; (repeat (first | rw [if_pos (by omega)] | rw [if_neg (by omega)] | rw [if_pos trivial]))
  · show ((((w.heap.push a).push b).push c).push d)[w.heap.size + 1 + 1]? = some c
    (repeat rw [Array.getElem?_push]); simp only [Array.size_push]; (repeat (first | rw [if_pos (by omega)] | rw [if_neg (by omega)] | rw [if_pos trivial]))
  · show ((((w.heap.push a).push b).push c).push d)[w.heap.size + 1 + 1 + 1]? = some d
    (repeat rw [Array.getElem?_push]); simp only [Array.size_push]; (repeat (first | rw [if_pos (by omega)] | rw [if_neg (by omega)] | rw [if_pos trivial]))
  · show ((((w.heap.push a).push b).push c).push d).size = _
    simp

theorem gr_below {w w' : World} (h : Below w.heap.size w w') (row : Option Nat) : w.grownBy w' row := ⟨h.os, h.tape, h.output, h.size, fun k hk _ => h.block k hk⟩
theorem gr_trans {w w' w'' : World} {row : Option Nat} (h : w.grownBy w' row) (h' : w'.grownBy w'' row) : w.grownBy w'' row :=
  ⟨h'.os.trans h.os, h'.tape.trans h.tape, h'.output.trans h.output, Nat.le_trans h.size h'.size, fun k hk hne => (h'.block k (Nat.lt_of_lt_of_le hk h.size) hne).trans (h.block k hk hne)⟩
theorem gr_set (W : World) (g i : Nat) (v : Value) : W.grownBy (W.setCell ⟨g, i, none⟩ v) (some g) :=
  ⟨rfl, rfl, rfl, by show _ ≤ (W.heap.modify g _).size; simp, fun k _ hne => Below.heap_setCell _ _ _ _ (fun e => hne (by rw [e]))⟩
theorem gr_drewN (W : World) (n : Nat) (r : Option Nat) : W.grownBy (W.drewN n) r := gr_below (below_drewN (Below.refl W.heap.size W) n) r
theorem gr_drew (W : World) (r : Option Nat) : W.grownBy W.drew r := gr_below (Below.refl W.heap.size W).drew r
theorem blk_drewN {W : World} {g : Nat} {o : Obj} (h : W.heap[g]? = some o) (n : Nat) : (W.drewN n).heap[g]? = some o := h
theorem blk_drew {W : World} {g : Nat} {o : Obj} (h : W.heap[g]? = some o) : W.drew.heap[g]? = some o := h

/-- What a region leaves that calls, and lays the struct that is answered into a new box. -/
def BoxCut (V : World) (facts : World → Prop) (new : Array Value) (t : TypeId) (E : Value) (w : World) (p q : Value) (wx : World) : Prop :=
  ∃ gt, p = .pointer (some ⟨gt, 0, none⟩) ∧ q = E ∧ facts wx ∧ wx.heap[gt]? = some (.cells new t (0, 0)) ∧ V.heap.size ≤ gt ∧ Below w.heap.size w wx

theorem ret_int {k : IntKind} {a b : Int} (h : a = b) : Ending.returned (.int k a) = .returned (.int k b) := by rw [h]

end Go.Proofs.Ythbiadhnlomhmaa
