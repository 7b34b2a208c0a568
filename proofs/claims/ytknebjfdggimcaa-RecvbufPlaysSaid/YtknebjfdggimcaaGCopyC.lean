/- 'copy' of as much of the source as there is room for: into a list of one's own, from any place of it on. -/
import Derived.Test.YtknebjfdggimcaaGCopyB
namespace Go.Proofs.Ytknebjfdggimcaa
open Go.RowKit

theorem Bts.take {w : World} {a : Option Addr} {xs : List Nat} (h : Bts w a xs) (k : Nat) : Bts w a (xs.take k) := by
  refine ⟨fun x hx => h.1 x (List.mem_of_mem_take hx), ?_⟩
  rcases h.2 with h0 | ⟨b, off, e, hb, hc⟩
  · left; rw [h0]; exact List.take_nil
  · refine .inr ⟨b, off, e, hb, fun i hi => ?_⟩
    rw [List.length_take] at hi
    rw [hc i (by omega)]
    congr 3
    simp [List.getD_eq_getElem?_getD, show i < k by omega]

theorem wp_copy_cut {w : World} {o : Oper} {act : Act} {K : Act → World → Prop} {Q : Exit → Act → World → Prop} (d s : Operand)
    (ho : o.op = .call { callee := .builtin .copy, args := #[d, s], argTypes := #[32, 32] }) (B g off dLen dCap cap : Nat) {b : Option Addr} {dp : Option Addr} {xs zs ys : List Nat} {sLen sCap : Nat}
    (hd : act.eval d = .slice dp dLen dCap) (hs : act.eval s = .slice b sLen sCap) (hsl : sLen = zs.length) (hys : zs.take dLen = ys) (O : OwnSl B (some ⟨g, 0, none⟩) xs cap w) (Y : Bts w b zs) (hdp : 0 < ys.length → dp = some ⟨g, off, none⟩) (hfit : off + ys.length ≤ xs.length)
    (h : ∀ w', OwnSl B (some ⟨g, 0, none⟩) (splice xs off ys) cap w' → w.grownBy w' (some g) → K (act.put o.dst (goInt ys.length)) w') : Oper.wp Try.prog o act w K Q := by
  subst hsl
  have Y2 : Bts w b ys := by rw [← hys]; exact Y.take dLen
  have hl : ys.length = Nat.min zs.length dLen := by rw [← hys, List.length_take]; exact Nat.min_comm _ _
  obtain ⟨cur, hg, hcl, hct⟩ := O.blk
  by_cases h0 : ys.length = 0
  · obtain rfl : ys = [] := List.eq_nil_of_length_eq_zero h0
    have hrun := run_copy_none (P := Try.prog) w 32 32 o.type 5 dp b dLen dCap zs.length sCap Try.underlying32 size5 hl.symm
    unfold Oper.wp
    simp [execOp, ho, resolve, invoke, builtin, hd, hs, hrun, Result.andThen]
    exact h w (by simpa [splice] using O) ⟨rfl, rfl, rfl, Nat.le_refl _, fun _ _ _ => rfl⟩
  · obtain ⟨b', off', e, _, _⟩ := Y2.isSome (by omega)
    subst e
    obtain rfl := hdp (by omega)
    have hc := O.copied Y2.1 hg hcl hct hfit
    have hrun := run_copy_row (P := Try.prog) w 32 32 o.type 5 g off dLen dCap _ zs.length sCap cur.toArray 5 (ys.map fun y => Value.int .u8 (y : Nat)) Try.underlying32 size5 hg (by rw [List.length_map]; exact hl) Y2.src (by rw [List.length_map, List.size_toArray]; have := O.capLe; omega) (by simp [Value.oneCell'])
    have h2 := h _ hc.1 hc.2
    unfold Oper.wp
    simp only [execOp, ho, resolve, invoke, builtin] at hrun ⊢
    simp [hd, hs, hrun, Result.andThen] at h2 ⊢
    exact h2

theorem wpList_copy_cut {w : World} {ops : Array Oper} {rest : List Oper} {o : Oper} {act : Act} {Q : Exit → Act → World → Prop} (hgd : o.guard = none) (d s : Operand)
    (ho : o.op = .call { callee := .builtin .copy, args := #[d, s], argTypes := #[32, 32] }) (B g off dLen dCap cap : Nat) {b : Option Addr} {dp : Option Addr} {xs zs ys : List Nat} {sLen sCap : Nat}
    (hd : act.eval d = .slice dp dLen dCap) (hs : act.eval s = .slice b sLen sCap) (hsl : sLen = zs.length) (hys : zs.take dLen = ys) (O : OwnSl B (some ⟨g, 0, none⟩) xs cap w) (Y : Bts w b zs) (hdp : 0 < ys.length → dp = some ⟨g, off, none⟩) (hfit : off + ys.length ≤ xs.length)
    (h : ∀ w', OwnSl B (some ⟨g, 0, none⟩) (splice xs off ys) cap w' → w.grownBy w' (some g) → wpList Try.prog ops Q rest (act.put o.dst (goInt ys.length)) w') : wpList Try.prog ops Q (o :: rest) act w :=
  wpList_plain hgd fun _ hK => wp_copy_cut d s ho B g off dLen dCap cap hd hs hsl hys O Y hdp hfit fun w' h1 h2 => hK _ _ (h w' h1 h2)

theorem step_copy_cut {w : World} {ops : Array Oper} {o : Oper} {act : Act} {K : Act → World → Prop} {Q : Exit → Act → World → Prop} {E : Prop} (hgd : o.guard = none) (d s : Operand)
    (ho : o.op = .call { callee := .builtin .copy, args := #[d, s], argTypes := #[32, 32] }) (B g off dLen dCap cap : Nat) {b : Option Addr} {dp : Option Addr} {xs zs ys : List Nat} {sLen sCap : Nat}
    (hd : act.eval d = .slice dp dLen dCap) (hs : act.eval s = .slice b sLen sCap) (hsl : sLen = zs.length) (hys : zs.take dLen = ys) (O : OwnSl B (some ⟨g, 0, none⟩) xs cap w) (Y : Bts w b zs) (hdp : 0 < ys.length → dp = some ⟨g, off, none⟩) (hfit : off + ys.length ≤ xs.length)
    (h : ∀ w', OwnSl B (some ⟨g, 0, none⟩) (splice xs off ys) cap w' → w.grownBy w' (some g) → K (act.put o.dst (goInt ys.length)) w') : if Region.wanted o (yielded ops act.tmps) = true then Oper.wp Try.prog o act w K Q else E := by
  have hw : Region.wanted o (yielded ops act.tmps) = true := by simp [Region.wanted, hgd]
  rw [if_pos hw]
  exact wp_copy_cut d s ho B g off dLen dCap cap hd hs hsl hys O Y hdp hfit h

end Go.Proofs.Ytknebjfdggimcaa
