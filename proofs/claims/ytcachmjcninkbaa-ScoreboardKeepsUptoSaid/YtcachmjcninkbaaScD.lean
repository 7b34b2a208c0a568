/- Scoreboard: slices.IndexFunc and DeleteFunc over the closure. -/
import Derived.Test.YtcachmjcninkbaaScN
import Derived.Lib.SliceRun
namespace Go.Proofs.Ytcachmjcninkbaa
open Go.RowKit

theorem flat_set (xs : List (Nat × Nat)) (i : Nat) (p : Nat × Nat) (hi : i < xs.length) : ((xs.flatMap SC).set (i * 2) (.int .i64 (p.1 : Nat))).set (i * 2 + 1) (.int .i64 (p.2 : Nat)) = (xs.set i p).flatMap SC := by
  induction xs generalizing i with
  | nil => simp at hi
  | cons y ys ih =>
    cases i with
    | zero => simp [List.flatMap_cons, SC]
    | succ i =>
      have h := ih i (by simpa using hi)
      have e1 : (i + 1) * 2 = i * 2 + 1 + 1 := by omega
      have e2 : i * 2 + 1 + 1 + 1 = i * 2 + 1 + 1 + 1 := rfl
      rw [List.set_cons_succ, List.flatMap_cons, List.flatMap_cons, ← h, e1]
      simp [SC]
theorem flat_take (xs : List (Nat × Nat)) (k : Nat) : (xs.take k).flatMap SC = (xs.flatMap SC).take (k * 2) := by
  induction xs generalizing k with
  | nil => simp
  | cons y ys ih =>
    cases k with
    | zero => simp
    | succ k =>
      rw [List.take_succ_cons, List.flatMap_cons, List.flatMap_cons, ih k, show (k + 1) * 2 = k * 2 + 1 + 1 by omega]
      simp [SC]
theorem OwnR.setP {e : TypeId} {B g cap : Nat} {xs : List (Nat × Nat)} {w : World} (h : OwnR e 2 SC B (some ⟨g, 0, none⟩) xs cap w) (i : Nat) (p : Nat × Nat) (hi : i < xs.length) :
    OwnR e 2 SC B (some ⟨g, 0, none⟩) (xs.set i p) cap ((w.setCell ⟨g, i * 2, none⟩ (.int .i64 (p.1 : Nat))).setCell ⟨g, i * 2 + 1, none⟩ (.int .i64 (p.2 : Nat))) ∧ w.grownBy ((w.setCell ⟨g, i * 2, none⟩ (.int .i64 (p.1 : Nat))).setCell ⟨g, i * 2 + 1, none⟩ (.int .i64 (p.2 : Nat))) (some g) := by
  rcases h with ⟨h, _⟩ | ⟨g', e', hB, hr⟩
  · cases h
  · cases e'
    have h1 := hr.stored (i * 2) (.int .i64 (p.1 : Nat))
    have h2 := h1.1.stored (i * 2 + 1) (.int .i64 (p.2 : Nat))
    rw [flat_set xs i p hi] at h2
    refine ⟨.inr ⟨g, rfl, hB, ?_⟩, gr_trans h1.2 h2.2⟩
    rw [List.length_set]; exact h2.1
theorem OwnR.frozenP {e : TypeId} {B g cap : Nat} {xs : List (Nat × Nat)} {w : World} (h : OwnR e 2 SC B (some ⟨g, 0, none⟩) xs cap w) (i : Nat) : w.frozen? ⟨g, i, none⟩ = false := by
  rcases h with ⟨h, _⟩ | ⟨g', e', hB, hr⟩
  · cases h
  · cases e'; exact hr.frozenAt i
theorem zero_pair : (zeroValue 76).run Try.prog = fun w => .ok (.agg #[.int .i64 0, .int .i64 0]) w := by
  obtain ⟨i0, hi, hz0, hz1, hz2⟩ := info_parts elemS.inf
  funext w
  simp [zeroValue, typeInfo, hi, hz0]
theorem OwnR.cleared {B g cap n i : Nat} {xs : List (Nat × Nat)} {w : World} (h : OwnR 76 2 SC B (some ⟨g, 0, none⟩) xs cap w) (hn : n = xs.length) (hi : i < n) :
    ∃ w', (∀ ty c, (Builtin.clear_ #[90] ty #[.slice (some ⟨g, i * 2, none⟩) (n - i) c]).run Try.prog w = .ok (.tuple #[]) w') ∧ OwnR 76 2 SC B (some ⟨g, 0, none⟩) (xs.take i) cap w' ∧ w.grownBy w' (some g) := by
  subst hn
  rcases h with ⟨h, _⟩ | ⟨g', e', hB, hr⟩
  · cases h
  · cases e'
    rcases hr.2 with ⟨h0, _⟩ | ⟨g', cap', cur, e, h1, hg, h3, h4, h5, h6⟩
    · cases h0
    · have e2 := e
      simp only [Value.slice.injEq, Option.some.injEq, Addr.mk.injEq] at e2
      obtain ⟨⟨rfl, _, _⟩, _, rfl⟩ := e2
      have hzc : (Builtin.zeroCells (Value.agg #[.int .i64 0, .int .i64 0]).cells (xs.length - i)).toList = List.replicate ((xs.length - i) * 2) (.int .i64 0) := by
        apply List.ext_getElem
        · simp [Builtin.zeroCells, Value.cells]
        · intro k hk1 hk2
          simp [Builtin.zeroCells, Value.cells]
          have : k % 2 = 0 ∨ k % 2 = 1 := by omega
          rcases this with h | h <;> simp [h]
      have hst := run_storeCells_at Try.prog g (i * 2) 76 (List.replicate ((xs.length - i) * 2) (.int .i64 0)) 0 cur w hg (by rw [List.length_replicate, h5]; omega) (by intro v hv; rw [List.eq_of_mem_replicate hv]; rfl)
      simp only [Nat.add_zero] at hst
      obtain ⟨m, hm⟩ : ∃ m, xs.length - i = m + 1 := ⟨xs.length - i - 1, by omega⟩
      refine ⟨w.setRow g (cur.toList.take (i * 2) ++ List.replicate ((xs.length - i) * 2) (Value.int .i64 0) ++ cur.toList.drop (i * 2 + (List.replicate ((xs.length - i) * 2) (Value.int .i64 0)).length)).toArray, fun ty c => ?_, .inr ⟨g, rfl, hB, ?_, .inr ⟨g, cap, _, rfl, h1, setRow_heap w g cur _ _ _ hg, by rw [List.length_take]; omega, h4, ?_, ?_⟩⟩, ⟨rfl, rfl, rfl, by simp [World.setRow], fun k _ hk => setRow_other w g k _ (fun e => hk (by rw [e]))⟩⟩
      · have hzv : ∀ w, (zeroValue 76).run Try.prog w = .ok (.agg #[.int .i64 0, .int .i64 0]) w := fun w => congrFun zero_pair w
        rw [hm] at hzc hst ⊢
        simp [Builtin.clear_, run_underlying Try.underlying90, hzv, hzc, hst]
      · exact flat_len encS _
      · simp only [List.size_toArray, List.length_append, List.length_take, List.length_drop, List.length_replicate, Array.length_toList]; omega
      · show List.take _ (_ ++ _ ++ _) = _
        rw [flat_take, List.length_take, Nat.min_eq_left (by omega), List.append_assoc, List.take_append_of_le_length (by rw [List.length_take, Array.length_toList]; omega), List.take_take, Nat.min_self, ← h6, List.take_take, Nat.min_eq_left (by omega)]
set_option maxRecDepth 100000 in
set_option maxHeartbeats 1000000 in
theorem clone_sp (a : Option Addr) (l : List (Nat × Nat)) (cap : Nat) (w : World) (h : Sts 2 SC Tr w a l) (hn : a = none → cap = 0) (hl : l.length ≤ 1000000) :
    Calls Try.prog 50 #[.slice a l.length cap] w fun e w' => (∃ a' c', e = .returned (.slice a' l.length c') ∧ OwnR 76 2 SC w.heap.size a' l c' w') ∧ Below w.heap.size w w' := by
  cases a with
  | none =>
    obtain rfl : l = [] := by rcases h.2 with h | ⟨_, _, h, _⟩
                              · exact h
                              · cases h
    obtain rfl := hn rfl
    clear h hn hl
    have hEq : ∀ W, (binOp .eql 90 (.slice none 0 0) (.slice none 0 0)).run Try.prog W = .ok (.bool true) W := fun W => Lib.run_eql_slice_nil W _ _ none 0 0 0 0 elemS.und
    go_enter Try.func50, Try.ntmps50
    go_wp2
    go_ret
    exact ⟨⟨none, 0, rfl, ownR_nil _ _ _ _ _⟩, Below.refl _ _⟩
  | some ad =>
    have bal : ∀ (W : World) (o : Obj), Below W.heap.size W (W.alloc o) := fun W o => (Below.refl W.heap.size W).alloc (Nat.le_refl _) o
    have HL := Lib.hid h
    clear h hn
    have hEq : ∀ W, (binOp .eql 90 (.slice (some ad) l.length cap) (.slice none 0 0)).run Try.prog W = .ok (.bool false) W := fun W => Lib.run_eql_slice_nil W _ _ (some ad) l.length cap 0 0 elemS.und
    go_enter Try.func50, Try.ntmps50
    go_wp2_with (first
      | (refine wpList_append_r (t := 90) (e := 76) (z := .agg #[.int .i64 0, .int .i64 0]) (m := 2) (bz := 16) (cells := SC) (xs := ([] : List (Nat × Nat))) (ys := l) (cap := 0) (a := some ⟨w.heap.size, 0, none⟩) (b := some ad) (dap := cap) (n := l.length) rfl elemS encS (.tmp 5) (.tmp 6) rfl w.heap.size rfl ?_ ?_ ?_ ?_ ?_ ?_ ?_ ?_ ?_; exact ownR_new encS 76 w [] (by simp); exact HL.out.belowT (bal w _); (intro e; cases e); rfl; rfl; (simp only [List.length_nil]; omega); (unfold maxLen; simp only [List.length_nil]; omega); exact (bal w (.cells #[] 76)).size; intro a2 c2 W1 O1 b1 g1; have O2 := Lib.hid O1; have Q2 := Lib.hid ((bal w (.cells #[] 76)).trans b1); clear O1 b1 g1)
      | fail)
    go_ret
    exact ⟨⟨a2, c2, rfl, O2.out⟩, Q2.out⟩

/-- Does it begin at una, or ahead of it? -/
def dl (ua : Nat) (p : Nat × Nat) : Bool := decide (p.1 ≤ ua)
set_option maxRecDepth 100000 in
set_option maxHeartbeats 1000000 in
theorem cl_any (ua : Nat) (p : Nat × Nat) (gp : Nat) (w : World) (hB : w.heap[gp]? = some (.cells #[.int .i64 (ua : Nat)] 3 (0, 0))) :
    Calls Try.prog 51 #[.agg #[.int .i64 (p.1 : Nat), .int .i64 (p.2 : Nat)], .pointer (some ⟨gp, 0, none⟩)] w fun e w' => e = .returned (.bool (dl ua p)) ∧ Below w.heap.size w w' := by
  obtain ⟨pl0, pr0⟩ := p
  dsimp only
  have hb1 := (Below.refl w.heap.size w).alloc (Nat.le_refl _) (.cells #[.int .i64 (pl0 : Nat), .int .i64 (pr0 : Nat)] 76)
  have S0 := Lib.hid (blk_new w (.cells #[.int .i64 (pl0 : Nat), .int .i64 (pr0 : Nat)] 76))
  have Q0 := Lib.hid hb1
  have A0 := Lib.hid ((hb1.block _ (blk_lt hB)).trans hB)
  clear hb1 hB
  go_enter Try.func51, Try.ntmps51
  go_upto_region 1 with fail
  generalize w.alloc (.cells #[.int .i64 (pl0 : Nat), .int .i64 (pr0 : Nat)] 76) = V0 at S0 Q0 A0 ⊢
  have c0 := blk_cell S0.out 0
  have c1 := blk_cell S0.out 1
  have a0 := blk_cell A0.out 0
  by_cases k1 : pl0 ≤ ua
  case neg =>
    have HE : Hid (dl ua (pl0, pr0) = false) := Lib.hid (by unfold dl; exact decide_eq_false k1)
    have d1 : ¬ ((pl0 : Int) ≤ (ua : Int)) := by omega
    clear k1
    go_wp2
    go_ret
    exact ⟨by rw [HE.out]; rfl, Q0.out⟩
  case pos =>
    have HE : Hid (dl ua (pl0, pr0) = true) := Lib.hid (by unfold dl; exact decide_eq_true k1)
    have d1 : (pl0 : Int) ≤ (ua : Int) := by omega
    clear k1
    go_wp2
    go_ret
    exact ⟨by rw [HE.out]; rfl, Q0.out⟩
end Go.Proofs.Ytcachmjcninkbaa
