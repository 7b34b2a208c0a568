/- A list of octets appended to a list of one's own: what lies elsewhere lies on, new blocks too. -/
import Derived.Test.YtgmgoilleakdcaaGAppend
namespace Go.Proofs.Ytgmgoilleakdcaa
open Go.RowKit

theorem OwnSl.ltB {B cap : Nat} {a : Option Addr} {xs : List Nat} {w : World} (h : OwnSl B a xs cap w) : ∀ k, (Value.slice a xs.length cap).ownBlock = some k → k < w.heap.size := by
  obtain ⟨_, ⟨rfl, rfl, rfl⟩ | ⟨g, rfl, hB, hr⟩⟩ := h
  · intro k e; cases e
  · intro k e; cases e
    rcases hr.2 with ⟨e2, _⟩ | ⟨g1, cap1, cur, e2, _, ho, _⟩
    · cases e2
    · cases e2
      exact (Array.getElem?_eq_some_iff.1 ho).1

theorem wp_append_beside {w : World} {o : Oper} {act : Act} {K : Act → World → Prop} {Q : Exit → Act → World → Prop} (s x : Operand)
    (ho : o.op = .call { callee := .builtin .append, args := #[s, x], argTypes := #[25, 25] }) (B : Nat) {a b : Option Addr} {xs ys : List Nat} {cap dap : Nat}
    (O : OwnSl B a xs cap w) (Y : Bts w b ys) (hd : b = none → dap = 0) (hs : act.eval s = .slice a xs.length cap) (hx : act.eval x = .slice b ys.length dap)
    (hlen : xs.length + ys.length ≤ 140737488355328) (hB : B ≤ w.heap.size)
    (h : ∀ a' cap' w', OwnSl B a' (xs ++ ys) cap' w' → Below B w w' → w.grownBy w' (Value.slice a xs.length cap).ownBlock → K (act.put o.dst (.slice a' (xs ++ ys).length cap')) w') : Oper.wp Try.prog o act w K Q := by
  obtain ⟨i0, hi, hz0, hz1, hz2⟩ := info_parts info5
  cases b with
  | none =>
    obtain rfl := hd rfl
    have hys : ys = [] := by
      rcases Y.2 with h | ⟨_, _, h, _⟩
      · exact h
      · cases h
    subst hys
    have hrun := run_append_owned_none (P := Try.prog) (w := w) B 25 o.type 5 i0 1 Try.underlying25 hi _ _ _ O.rowAny
    have h2 := h a cap w
    rw [List.append_nil] at h2
    unfold Oper.wp
    simp [execOp, ho, resolve, invoke, builtin, hs, hx, hrun, Result.andThen]
    exact h2 O (Below.refl _ _) ⟨rfl, rfl, rfl, Nat.le_refl _, fun _ _ _ => rfl⟩
  | some ad =>
    refine wp_append_own w s x 25 ho B 5 i0 (.int .u8 0) 1 1 Try.underlying25 hi hz0 hz1 hz2 rfl (by decide) _ _ _ hs O.rowAny ad ys.length dap (ys.map fun x => Value.int .u8 (x : Nat)) hx (by simp) Y.src (by simp [Value.oneCell']) (by unfold maxLen; omega) (by omega) hB ?_
    intro v' w' hown hgrow _
    obtain ⟨a', cap', rfl, O'⟩ := OwnSl.of_two O.1 Y.1 (by simp) hown
    exact h a' cap' w' O' ((Below.refl _ _).grown hgrow hB (fun k e => O.ownB k e)) hgrow

theorem wpList_append_beside {w : World} {ops : Array Oper} {rest : List Oper} {o : Oper} {act : Act} {Q : Exit → Act → World → Prop} (hgd : o.guard = none) (s x : Operand)
    (ho : o.op = .call { callee := .builtin .append, args := #[s, x], argTypes := #[25, 25] }) (B : Nat) {a b : Option Addr} {xs ys : List Nat} {cap dap : Nat}
    (O : OwnSl B a xs cap w) (Y : Bts w b ys) (hd : b = none → dap = 0) (hs : act.eval s = .slice a xs.length cap) (hx : act.eval x = .slice b ys.length dap)
    (hlen : xs.length + ys.length ≤ 140737488355328) (hB : B ≤ w.heap.size)
    (h : ∀ a' cap' w', OwnSl B a' (xs ++ ys) cap' w' → Below B w w' → w.grownBy w' (Value.slice a xs.length cap).ownBlock → wpList Try.prog ops Q rest (act.put o.dst (.slice a' (xs ++ ys).length cap')) w') : wpList Try.prog ops Q (o :: rest) act w :=
  wpList_plain hgd fun _ hK => wp_append_beside s x ho B O Y hd hs hx hlen hB fun a' cap' w' h1 h2 h3 => hK _ _ (h a' cap' w' h1 h2 h3)

theorem grownAny_of_below {w w' w2 : World} {o : Option Nat} (h : Below w.heap.size w w') (h2 : w'.grownBy w2 o) : w.grownBy w2 o :=
  ⟨h2.os.trans h.os, h2.tape.trans h.tape, h2.output.trans h.output, Nat.le_trans h.size h2.size, fun k hk hne => (h2.block k (Nat.lt_of_lt_of_le hk h.size) hne).trans (h.block k hk)⟩
end Go.Proofs.Ytgmgoilleakdcaa
