/- A list of octets appended to a list of one's own, up to growslice's own bound. -/
import Derived.Test.YtdiomelldhkibaaGAppend
import Derived.Deep.DeepAppendWide
namespace Go.Proofs.Ytdiomelldhkibaa
open Go.RowKit

theorem wp_append_wide {w : World} {o : Oper} {act : Act} {K : Act → World → Prop} {Q : Exit → Act → World → Prop} (s x : Operand)
    (ho : o.op = .call { callee := .builtin .append, args := #[s, x], argTypes := #[23, 23] }) (B : Nat) {a b : Option Addr} {xs ys : List Nat} {cap dap : Nat}
    (O : OwnSl B a xs cap w) (Y : Bts w b ys) (hd : b = none → dap = 0) (hs : act.eval s = .slice a xs.length cap) (hx : act.eval x = .slice b ys.length dap)
    (hlen : xs.length + ys.length ≤ 200000000000000) (hB : B ≤ w.heap.size)
    (h : ∀ a' cap' w', OwnSl B a' (xs ++ ys) cap' w' → Below B w w' → K (act.put o.dst (.slice a' (xs ++ ys).length cap')) w') : Oper.wp Try.prog o act w K Q := by
  obtain ⟨i0, hi, hz0, hz1, hz2⟩ := info_parts info5
  cases b with
  | none =>
    obtain rfl := hd rfl
    have hys : ys = [] := by
      rcases Y.2 with h | ⟨_, _, h, _⟩
      · exact h
      · cases h
    subst hys
    have hrun := run_append_owned_none (P := Try.prog) (w := w) B 23 o.type 5 i0 1 Try.underlying23 hi _ _ _ O.rowAny
    have h2 := h a cap w
    rw [List.append_nil] at h2
    unfold Oper.wp
    simp [execOp, ho, resolve, invoke, builtin, hs, hx, hrun, Result.andThen]
    exact h2 O (Below.refl _ _)
  | some ad =>
    refine wp_append_own_wide w s x 23 ho B 5 i0 (.int .u8 0) 1 1 Try.underlying23 hi hz0 hz1 hz2 rfl (by decide) _ _ _ hs O.rowAny ad ys.length dap (ys.map fun x => Value.int .u8 (x : Nat)) hx (by simp) Y.src (by simp [Value.oneCell']) (by unfold maxLen; omega) (by omega) hB ?_
    intro v' w' hown hgrow _
    obtain ⟨a', cap', rfl, O'⟩ := OwnSl.of_two O.1 Y.1 (by simp) hown
    exact h a' cap' w' O' ((Below.refl _ _).grown hgrow hB (fun k e => O.ownB k e))

theorem wpList_append_wide {w : World} {ops : Array Oper} {rest : List Oper} {o : Oper} {act : Act} {Q : Exit → Act → World → Prop} (hgd : o.guard = none) (s x : Operand)
    (ho : o.op = .call { callee := .builtin .append, args := #[s, x], argTypes := #[23, 23] }) (B : Nat) {a b : Option Addr} {xs ys : List Nat} {cap dap : Nat}
    (O : OwnSl B a xs cap w) (Y : Bts w b ys) (hd : b = none → dap = 0) (hs : act.eval s = .slice a xs.length cap) (hx : act.eval x = .slice b ys.length dap)
    (hlen : xs.length + ys.length ≤ 200000000000000) (hB : B ≤ w.heap.size)
    (h : ∀ a' cap' w', OwnSl B a' (xs ++ ys) cap' w' → Below B w w' → wpList Try.prog ops Q rest (act.put o.dst (.slice a' (xs ++ ys).length cap')) w') : wpList Try.prog ops Q (o :: rest) act w :=
  wpList_plain hgd fun _ hK => wp_append_wide s x ho B O Y hd hs hx hlen hB fun a' cap' w' h1 h2 => hK _ _ (h a' cap' w' h1 h2)
end Go.Proofs.Ytdiomelldhkibaa
