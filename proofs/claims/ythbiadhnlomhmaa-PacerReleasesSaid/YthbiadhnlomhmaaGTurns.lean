/- What a call turns of the blocks that were there: those of a set alone. -/
import Derived.Test.YthbiadhnlomhmaaGOwn
namespace Go.Proofs.Ythbiadhnlomhmaa
open Go.RowKit

/-- Of the blocks that were there only those of S are turned. -/
structure Turns (S : Nat → Prop) (w w' : World) : Prop where
  os : w'.os = w.os
  tape : w'.tape = w.tape
  output : w'.output = w.output
  size : w.heap.size ≤ w'.heap.size
  block : ∀ k, k < w.heap.size → ¬ S k → w'.heap[k]? = w.heap[k]?

section
variable {S : Nat → Prop} {w w' w'' : World}
theorem Turns.refl (S : Nat → Prop) (w : World) : Turns S w w := ⟨rfl, rfl, rfl, Nat.le_refl _, fun _ _ _ => rfl⟩
theorem Turns.trans (h : Turns S w w') (h' : Turns S w' w'') : Turns S w w'' :=
  ⟨h'.os.trans h.os, h'.tape.trans h.tape, h'.output.trans h.output, Nat.le_trans h.size h'.size, fun k hk hs => (h'.block k (Nat.lt_of_lt_of_le hk h.size) hs).trans (h.block k hk hs)⟩
theorem Turns.of_below (S : Nat → Prop) (h : Below w.heap.size w w') : Turns S w w' := ⟨h.os, h.tape, h.output, h.size, fun k hk _ => h.block k hk⟩
theorem Turns.of_grown {r : Option Nat} (hr : ∀ k, r = some k → S k) (h : w.grownBy w' r) : Turns S w w' :=
  ⟨h.os, h.tape, h.output, h.size, fun k hk hs => h.block k hk (fun e => hs (hr k e.symm))⟩
theorem Turns.grown {g : Nat} (h : Turns S w w') (hS : S g) (h' : w'.grownBy w'' (some g)) : Turns S w w'' := h.trans (.of_grown (fun k e => by cases e; exact hS) h')
theorem Turns.andBelow (h : Turns S w w') (h' : Below w'.heap.size w' w'') : Turns S w w'' := h.trans (.of_below S h')
theorem Turns.drew (h : Turns S w w') : Turns S w w'.drew := h.andBelow (Below.refl _ _).drew
theorem Turns.set {g : Nat} (h : Turns S w w') (hS : S g) (i : Nat) (v : Value) : Turns S w (w'.setCell ⟨g, i, none⟩ v) := h.grown hS (gr_set w' g i v)
theorem Turns.mono {S' : Nat → Prop} (h : Turns S w w') (hS : ∀ k, S k → S' k) : Turns S' w w' := ⟨h.os, h.tape, h.output, h.size, fun k hk hs => h.block k hk (fun e => hs (hS k e))⟩
theorem Turns.below {B : Nat} (h : Turns S w w') (hB : B ≤ w.heap.size) (hS : ∀ k, S k → B ≤ k) : Below B w w' :=
  ⟨h.os, h.tape, h.output, h.size, fun k hk => h.block k (Nat.lt_of_lt_of_le hk hB) (fun e => absurd (hS k e) (Nat.not_le.2 hk))⟩
theorem Turns.blk {g : Nat} {o : Obj} (h : Turns S w w') (hg : w.heap[g]? = some o) (hS : ¬ S g) : w'.heap[g]? = some o := (h.block g (blk_lt hg) hS).trans hg
theorem OwnR.turned {α : Type} {e : TypeId} {m : Nat} {cells : α → List Value} {B : Nat} {a : Option Addr} {xs : List α} {cap : Nat} (O : OwnR e m cells B a xs cap w) (h : Turns S w w') (hS : ∀ g, a = some ⟨g, 0, none⟩ → ¬ S g) : OwnR e m cells B a xs cap w' :=
  O.keepRow fun g _ ha ho => h.blk ho (hS g ha)
theorem Sts.turned {α : Type} {m : Nat} {cells : α → List Value} {a : Option Addr} {xs : List α} (Y : Sts m cells Tr w a xs) (h : Turns S w w') (hS : ∀ b o, a = some ⟨b, o, none⟩ → ¬ S b) : Sts m cells Tr w' a xs := by
  refine ⟨fun _ _ => trivial, ?_⟩
  rcases Y.2 with h0 | ⟨b, off, e, hb, hc⟩
  · exact .inl h0
  · refine .inr ⟨b, off, e, Nat.lt_of_lt_of_le hb h.size, fun i r hr j v hv => ?_⟩
    have hbl := h.block b hb (hS b off e)
    rw [← hc i r hr j v hv]
    simp only [World.cell?, hbl]
end
end Go.Proofs.Ythbiadhnlomhmaa
