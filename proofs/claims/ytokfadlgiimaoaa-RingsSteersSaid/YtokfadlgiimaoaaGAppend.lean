/- A list of octets appended to a list of one's own, whether either is nil or not: as one of several operations, and inside a region that draws its order. -/
import Derived.Test.YtokfadlgiimaoaaGBts
import Derived.Laws.AppendOwnNone
import Derived.Deep.RegionHeld3
import Derived.Deep.AppendLies
namespace Go.Proofs.Ytokfadlgiimaoaa
open Go.RowKit

theorem wp_append_bts {w : World} {o : Oper} {act : Act} {K : Act → World → Prop} {Q : Exit → Act → World → Prop} (s x : Operand)
    (ho : o.op = .call { callee := .builtin .append, args := #[s, x], argTypes := #[22, 22] }) (B : Nat) {a b : Option Addr} {xs ys : List Nat} {cap dap : Nat}
    (O : OwnSl B a xs cap w) (Y : Bts w b ys) (hd : b = none → dap = 0) (hs : act.eval s = .slice a xs.length cap) (hx : act.eval x = .slice b ys.length dap)
    (hlen : xs.length + ys.length ≤ 140737488355328) (hB : B ≤ w.heap.size)
    (h : ∀ a' cap' w', OwnSl B a' (xs ++ ys) cap' w' → Below B w w' → K (act.put o.dst (.slice a' (xs ++ ys).length cap')) w') : Oper.wp Try.prog o act w K Q := by
  obtain ⟨i0, hi, hz0, hz1, hz2⟩ := info_parts info5
  cases b with
  | none =>
    obtain rfl := hd rfl
    have hys : ys = [] := by
      rcases Y.2 with h | ⟨_, _, h, _⟩
      · exact h
      · cases h
    subst hys
    have hrun := run_append_owned_none (P := Try.prog) (w := w) B 22 o.type 5 i0 1 Try.underlying22 hi _ _ _ O.rowAny
    have h2 := h a cap w
    rw [List.append_nil] at h2
    unfold Oper.wp
    simp [execOp, ho, resolve, invoke, builtin, hs, hx, hrun, Result.andThen]
    exact h2 O (Below.refl _ _)
  | some ad =>
    refine wp_append_own w s x 22 ho B 5 i0 (.int .u8 0) 1 1 Try.underlying22 hi hz0 hz1 hz2 rfl (by decide) _ _ _ hs O.rowAny ad ys.length dap (ys.map fun x => Value.int .u8 (x : Nat)) hx (by simp) Y.src (by simp [Value.oneCell']) (by unfold maxLen; omega) (by omega) hB ?_
    intro v' w' hown hgrow _
    obtain ⟨a', cap', rfl, O'⟩ := OwnSl.of_two O.1 Y.1 (by simp) hown
    exact h a' cap' w' O' ((Below.refl _ _).grown hgrow hB (fun k e => O.ownB k e))

theorem wpList_append_bts {w : World} {ops : Array Oper} {rest : List Oper} {o : Oper} {act : Act} {Q : Exit → Act → World → Prop} (hgd : o.guard = none) (s x : Operand)
    (ho : o.op = .call { callee := .builtin .append, args := #[s, x], argTypes := #[22, 22] }) (B : Nat) {a b : Option Addr} {xs ys : List Nat} {cap dap : Nat}
    (O : OwnSl B a xs cap w) (Y : Bts w b ys) (hd : b = none → dap = 0) (hs : act.eval s = .slice a xs.length cap) (hx : act.eval x = .slice b ys.length dap)
    (hlen : xs.length + ys.length ≤ 140737488355328) (hB : B ≤ w.heap.size)
    (h : ∀ a' cap' w', OwnSl B a' (xs ++ ys) cap' w' → Below B w w' → wpList Try.prog ops Q rest (act.put o.dst (.slice a' (xs ++ ys).length cap')) w') : wpList Try.prog ops Q (o :: rest) act w :=
  wpList_plain hgd fun _ hK => wp_append_bts s x ho B O Y hd hs hx hlen hB fun a' cap' w' h1 h2 => hK _ _ (h a' cap' w' h1 h2)

/-- At a step of a region that draws its order. -/
theorem step_append_bts {w : World} {ops : Array Oper} {o : Oper} {act : Act} {K : Act → World → Prop} {Q : Exit → Act → World → Prop} {E : Prop} (hgd : o.guard = none) (s x : Operand)
    (ho : o.op = .call { callee := .builtin .append, args := #[s, x], argTypes := #[22, 22] }) (B : Nat) {a b : Option Addr} {xs ys : List Nat} {cap dap : Nat}
    (O : OwnSl B a xs cap w) (Y : Bts w b ys) (hd : b = none → dap = 0) (hs : act.eval s = .slice a xs.length cap) (hx : act.eval x = .slice b ys.length dap)
    (hlen : xs.length + ys.length ≤ 140737488355328) (hB : B ≤ w.heap.size)
    (h : ∀ a' cap' w', OwnSl B a' (xs ++ ys) cap' w' → Below B w w' → K (act.put o.dst (.slice a' (xs ++ ys).length cap')) w') : if Region.wanted o (yielded ops act.tmps) = true then Oper.wp Try.prog o act w K Q else E := by
  have hw : Region.wanted o (yielded ops act.tmps) = true := by simp [Region.wanted, hgd]
  rw [if_pos hw]
  exact wp_append_bts s x ho B O Y hd hs hx hlen hB h

theorem own_nil (B : Nat) (w : World) : OwnSl B none [] 0 w := ⟨(fun x h => by cases h), .inl ⟨rfl, rfl, rfl⟩⟩

/-- A copy: a list of octets appended to none. -/
theorem step_append_new {w : World} {ops : Array Oper} {o : Oper} {act : Act} {K : Act → World → Prop} {Q : Exit → Act → World → Prop} {E : Prop} (hgd : o.guard = none) (s x : Operand)
    (ho : o.op = .call { callee := .builtin .append, args := #[s, x], argTypes := #[22, 22] }) (B : Nat) {b : Option Addr} {ys : List Nat} {dap m : Nat} (hm : m = ys.length)
    (Y : Bts w b ys) (hd : b = none → dap = 0) (hs : act.eval s = .slice none 0 0) (hx : act.eval x = .slice b m dap)
    (hlen : ys.length ≤ 140737488355328) (hB : B ≤ w.heap.size)
    (h : ∀ a' cap' w', OwnSl B a' ys cap' w' → Below B w w' → K (act.put o.dst (.slice a' ys.length cap')) w') : if Region.wanted o (yielded ops act.tmps) = true then Oper.wp Try.prog o act w K Q else E := by
  subst hm
  exact step_append_bts hgd s x ho B (own_nil B w) Y hd hs hx (by simpa using hlen) hB (fun a' cap' w' h1 h2 => by simpa using h a' cap' w' (by simpa using h1) h2)
theorem wpList_append_new {w : World} {ops : Array Oper} {rest : List Oper} {o : Oper} {act : Act} {Q : Exit → Act → World → Prop} (hgd : o.guard = none) (s x : Operand)
    (ho : o.op = .call { callee := .builtin .append, args := #[s, x], argTypes := #[22, 22] }) (B : Nat) {b : Option Addr} {ys : List Nat} {dap m : Nat} (hm : m = ys.length)
    (Y : Bts w b ys) (hd : b = none → dap = 0) (hs : act.eval s = .slice none 0 0) (hx : act.eval x = .slice b m dap)
    (hlen : ys.length ≤ 140737488355328) (hB : B ≤ w.heap.size)
    (h : ∀ a' cap' w', OwnSl B a' ys cap' w' → Below B w w' → wpList Try.prog ops Q rest (act.put o.dst (.slice a' ys.length cap')) w') : wpList Try.prog ops Q (o :: rest) act w := by
  subst hm
  exact wpList_append_bts hgd s x ho B (own_nil B w) Y hd hs hx (by simpa using hlen) hB (fun a' cap' w' h1 h2 => by simpa using h a' cap' w' (by simpa using h1) h2)
end Go.Proofs.Ytokfadlgiimaoaa
