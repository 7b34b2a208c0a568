/- .. and where a list lies behind an append: in its old row, or in the block just made. -/
import Derived.Test.YthbiadhnlomhmaaGTurns
import Derived.Maps.AppendAt
namespace Go.Proofs.Ythbiadhnlomhmaa
open Go.RowKit
section
variable {α : Type} {m : Nat} {cells : α → List Value} {w : World}
theorem wpList_append_rA {ops : Array Oper} {rest : List Oper} {o : Oper} {act : Act} {Q : Exit → Act → World → Prop} {t e : TypeId} {z : Value} {bz : Nat} (hgd : o.guard = none) (L : Elem t e z m bz) (E : Enc m cells) (s x : Operand)
    (ho : o.op = .call { callee := .builtin .append, args := #[s, x], argTypes := #[t, t] }) (B : Nat) {a : Option Addr} {ad : Addr} {xs ys : List α} {cap dap n : Nat} (hn : n = ys.length)
    (O : OwnR e m cells B a xs cap w) (Y : Sts m cells Tr w (some ad) ys) (hs : act.eval s = .slice a xs.length cap) (hx : act.eval x = .slice (some ad) n dap)
    (hlen : (xs.length + ys.length) * bz ≤ 140737488355328) (hml : xs.length + ys.length ≤ maxLen) (hB : B ≤ w.heap.size)
    (h : ∀ a' cap' w', OwnR e m cells B a' (xs ++ ys) cap' w' → Below B w w' → w.grownBy w' (Value.slice a xs.length cap).ownBlock → (∀ g, a' = some ⟨g, 0, none⟩ → a = some ⟨g, 0, none⟩ ∨ g = w.heap.size) → wpList Try.prog ops Q rest (act.put o.dst (.slice a' (xs ++ ys).length cap')) w') : wpList Try.prog ops Q (o :: rest) act w := by
  subst hn
  obtain ⟨i0, hi, hz0, hz1, hz2⟩ := info_parts L.inf
  refine wpList_append_own_at w hgd s x t ho B e i0 z m bz L.und hi hz0 hz1 hz2 L.zs L.pos _ _ _ hs O.rowAny ad ys.length dap (ys.flatMap cells) hx (flat_len E ys) (Y.srcF E) (flat_one E ys) hml hlen hB ?_
  intro v' w' hown hgrow _ hat
  rw [← List.flatMap_append, ← List.length_append] at hown
  obtain ⟨a', cap', rfl, O'⟩ := OwnR.of_row hown
  refine h a' cap' w' O' ((Below.refl _ _).grown hgrow hB (fun k e => (O.ownB k e).1)) hgrow ?_
  intro g hg
  subst hg
  rcases hat with h1 | h1
  · left
    rcases O with ⟨rfl, _, _⟩ | ⟨g2, rfl, _, _⟩
    · cases h1
    · have e : some g = some g2 := h1
      rw [Option.some.inj e]
  · right
    have e : some g = some w.heap.size := h1
    exact Option.some.inj e
/-- Two lists of one's own lie apart. -/
def Disj (a b : Option Addr) : Prop := ∀ g, a = some ⟨g, 0, none⟩ → b ≠ some ⟨g, 0, none⟩
theorem Disj.symm {a b : Option Addr} (h : Disj a b) : Disj b a := fun g e1 e2 => h g e2 e1
theorem Disj.nil (b : Option Addr) : Disj none b := fun g e => by cases e
end
theorem elemI : Elem 22 3 (.int .i64 0) 1 8 := ⟨Try.underlying22, by kernel_rfl, rfl, by decide⟩
/-- An int of a list of one's own. -/
theorem OwnR.cellI {e : TypeId} {B g cap : Nat} {xs : List Int} {w : World} (h : OwnR e 1 IC B (some ⟨g, 0, none⟩) xs cap w) (i : Nat) (hi : i < xs.length) : w.cell? ⟨g, i, none⟩ = some (.int .i64 (xs.getD i 0)) := by
  have := sts_int (h.sts encI) i hi
  rwa [Nat.zero_add] at this
/-- .. behind an append to another one. -/
theorem OwnR.apart {α β : Type} {e : TypeId} {m : Nat} {cells : α → List Value} {B : Nat} {a b : Option Addr} {xs : List α} {ys : List β} {cap dap : Nat} {w w' : World} (h : OwnR e m cells B a xs cap w) (hd : Disj a b) (hb : ∀ k, (Value.slice b ys.length dap).ownBlock = some k → b = some ⟨k, 0, none⟩) (hg : w.grownBy w' (Value.slice b ys.length dap).ownBlock) : OwnR e m cells B a xs cap w' :=
  h.grown hg (fun g e1 e2 => hd g e1 (hb g e2.symm))
theorem OwnR.ownEq {α : Type} {e : TypeId} {m : Nat} {cells : α → List Value} {B : Nat} {a : Option Addr} {xs : List α} {cap : Nat} {w : World} (h : OwnR e m cells B a xs cap w) : ∀ k, (Value.slice a xs.length cap).ownBlock = some k → a = some ⟨k, 0, none⟩ := by
  rcases h with ⟨rfl, rfl, rfl⟩ | ⟨g, rfl, _, _⟩
  · intro k e; cases e
  · intro k e; cases e; rfl
/-- What is appended lies apart from what lies apart. -/
theorem disj_app {w : World} {a a' b : Option Addr} (h : Disj a b) (ha : ∀ g, a' = some ⟨g, 0, none⟩ → a = some ⟨g, 0, none⟩ ∨ g = w.heap.size) (hb : ∀ g, b = some ⟨g, 0, none⟩ → g < w.heap.size) : Disj a' b := by
  intro g e1 e2
  rcases ha g e1 with h1 | h1
  · exact h g h1 e2
  · have := hb g e2; omega
theorem OwnR.ltB {α : Type} {e : TypeId} {m : Nat} {cells : α → List Value} {B : Nat} {a : Option Addr} {xs : List α} {cap : Nat} {w : World} (h : OwnR e m cells B a xs cap w) : ∀ g, a = some ⟨g, 0, none⟩ → g < w.heap.size := by
  rcases h with ⟨rfl, _, _⟩ | ⟨g2, rfl, _, hr⟩
  · intro g e; cases e
  · intro g e; cases e; exact (hr.lt _ rfl).2
end Go.Proofs.Ythbiadhnlomhmaa
