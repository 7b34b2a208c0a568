/- What a call turns of the blocks that were there: those between two. -/
import Derived.Test.YtgmgoilleakdcaaGBts
namespace Go.Proofs.Ytgmgoilleakdcaa
open Go.RowKit

/-- Only blocks from B on and below C are turned, of those that were there. -/
structure Btw (B C : Nat) (w w' : World) : Prop where
  os : w'.os = w.os
  tape : w'.tape = w.tape
  output : w'.output = w.output
  size : w.heap.size ≤ w'.heap.size
  block : ∀ k, k < w.heap.size → (k < B ∨ C ≤ k) → w'.heap[k]? = w.heap[k]?

theorem Btw.below {B C : Nat} {w w' : World} (h : Btw B C w w') (hB : B ≤ w.heap.size) : Below B w w' :=
  ⟨h.os, h.tape, h.output, h.size, fun k hk => h.block k (by omega) (.inl hk)⟩

theorem OwnSl.btw {B C D : Nat} {a : Option Addr} {xs : List Nat} {cap : Nat} {w w' : World} (O : OwnSl D a xs cap w) (hC : C ≤ D) (h : Btw B C w w') : OwnSl D a xs cap w' := by
  obtain ⟨hx, h0 | ⟨g, rfl, hD, hr⟩⟩ := O
  · exact ⟨hx, .inl h0⟩
  · refine ⟨hx, .inr ⟨g, rfl, hD, hr.1, ?_⟩⟩
    rcases hr.2 with h0 | ⟨g', cap', cur, e, h1, h2, h3⟩
    · exact .inl h0
    · have hlt : g' < w.heap.size := (Array.getElem?_eq_some_iff.1 h2).1
      exact .inr ⟨g', cap', cur, e, h1, (h.block g' hlt (.inr (by omega))).trans h2, h3⟩

theorem OwnSl.blkLt {B : Nat} {a : Option Addr} {xs : List Nat} {cap : Nat} {w : World} (h : OwnSl B a xs cap w) : ∀ g, a = some ⟨g, 0, none⟩ → g < w.heap.size := by
  intro g e
  subst e
  exact (h.row.2.lt g rfl).2

/-- A list below what is turned lies on. -/
theorem OwnSl.under {B C D : Nat} {a : Option Addr} {xs : List Nat} {cap : Nat} {w w' : World} (O : OwnSl D a xs cap w) (hB : ∀ g, a = some ⟨g, 0, none⟩ → g < B) (h : Btw B C w w') : OwnSl D a xs cap w' := by
  obtain ⟨hx, h0 | ⟨g, rfl, hD, hr⟩⟩ := O
  · exact ⟨hx, .inl h0⟩
  · refine ⟨hx, .inr ⟨g, rfl, hD, hr.1, ?_⟩⟩
    rcases hr.2 with h0 | ⟨g', cap', cur, e, h1, h2, h3⟩
    · exact .inl h0
    · have hlt : g' < w.heap.size := (Array.getElem?_eq_some_iff.1 h2).1
      have hg : g' < B := by
        have e1 : g = g' := by injection e with e1; injection e1 with e1; injection e1
        exact e1 ▸ hB g rfl
      exact .inr ⟨g', cap', cur, e, h1, (h.block g' hlt (.inl hg)).trans h2, h3⟩
end Go.Proofs.Ytgmgoilleakdcaa
