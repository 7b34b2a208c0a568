/- Bbr: what a new pair takes away: the closure, slices.Clone, IndexFunc, DeleteFunc. -/
import Derived.Test.YtokoogohdfepiaaBbA
import Derived.Lib.SliceRun
namespace Go.Proofs.Ytokoogohdfepiaa
open Go.RowKit

/-- Does a new pair of round R and rate r take p away? -/
def dl (R r : Int) (p : Pair23) : Bool := decide (p.rate ≤ r) || decide (p.round ≤ R - 10)
set_option maxRecDepth 100000 in
set_option maxHeartbeats 1000000 in
theorem cl_any (R r : Int) (p : Pair23) (gp : Nat) (w : World) (hB : w.heap[gp]? = some (.cells #[.int .i64 R, .int .i64 r] 36 (0, 0))) (hR0 : 0 ≤ R) (hR1 : R ≤ 1099511627776) :
    Calls Try.prog 40 #[.agg #[.int .i64 p.round, .int .i64 p.rate], .pointer (some ⟨gp, 0, none⟩)] w fun e w' => e = .returned (.bool (dl R r p)) ∧ Below w.heap.size w w' := by
  have c0 := blk_cell hB 0
  have c1 := blk_cell hB 1
  have hlt := blk_lt hB
  clear hB
  obtain ⟨x, y⟩ := p
  by_cases h1 : y ≤ r
  · have e : dl R r ⟨x, y⟩ = true := by simp [dl, h1]
    rw [e]
    go_enter Try.func40, Try.ntmps40
    go_wp2
    go_ret
    exact ⟨rfl, (Below.refl _ _).alloc (Nat.le_refl _) _⟩
  · by_cases h2 : x ≤ R - 10
    · have e : dl R r ⟨x, y⟩ = true := by simp [dl, h2]
      rw [e]
      go_enter Try.func40, Try.ntmps40
      go_wp2
      go_ret
      exact ⟨rfl, (Below.refl _ _).alloc (Nat.le_refl _) _⟩
    · have e : dl R r ⟨x, y⟩ = false := by simp [dl, h1, h2]
      rw [e]
      go_enter Try.func40, Try.ntmps40
      go_wp2
      go_ret
      exact ⟨rfl, (Below.refl _ _).alloc (Nat.le_refl _) _⟩

set_option maxRecDepth 100000 in
set_option maxHeartbeats 1000000 in
theorem clone_any (a : Option Addr) (l : List Pair23) (cap : Nat) (w : World) (h : Sts 2 PC Tr w a l) (hn : a = none → cap = 0) (hl : l.length ≤ 1000000) :
    Calls Try.prog 39 #[.slice a l.length cap] w fun e w' => (∃ a' c', e = .returned (.slice a' l.length c') ∧ OwnR 36 2 PC w.heap.size a' l c' w') ∧ Below w.heap.size w w' := by
  cases a with
  | none =>
    obtain rfl : l = [] := by rcases h.2 with h | ⟨_, _, h, _⟩
                              · exact h
                              · cases h
    obtain rfl := hn rfl
    clear h hn hl
    have hEq : ∀ W, (binOp .eql 23 (.slice none 0 0) (.slice none 0 0)).run Try.prog W = .ok (.bool true) W := fun W => Lib.run_eql_slice_nil W _ _ none 0 0 0 0 elemB.und
    go_enter Try.func39, Try.ntmps39
    go_wp2
    go_ret
    exact ⟨⟨none, 0, rfl, ownR_nil _ _ _ _ _⟩, Below.refl _ _⟩
  | some ad =>
    have bal : ∀ (W : World) (o : Obj), Below W.heap.size W (W.alloc o) := fun W o => (Below.refl W.heap.size W).alloc (Nat.le_refl _) o
    have HL := Lib.hid h
    clear h hn
    have hEq : ∀ W, (binOp .eql 23 (.slice (some ad) l.length cap) (.slice none 0 0)).run Try.prog W = .ok (.bool false) W := fun W => Lib.run_eql_slice_nil W _ _ (some ad) l.length cap 0 0 elemB.und
    go_enter Try.func39, Try.ntmps39
    go_wp2_with (first
      | (refine wpList_append_rA (t := 23) (e := 36) (z := .agg #[.int .i64 0, .int .i64 0]) (m := 2) (bz := 16) (cells := PC) (xs := ([] : List Pair23)) (ys := l) (cap := 0) (a := some ⟨w.heap.size, 0, none⟩) (ad := ad) (dap := cap) (n := l.length) rfl elemB encP (.tmp 5) (.tmp 6) rfl w.heap.size rfl ?_ ?_ ?_ ?_ ?_ ?_ ?_ ?_; exact ownR_new encP 36 w [] (by simp); exact HL.out.belowT (bal w _); rfl; rfl; (simp only [List.length_nil]; omega); (unfold maxLen; simp only [List.length_nil]; omega); exact (bal w (.cells #[] 36)).size; intro a2 c2 W1 O1 b1 g1 at1; have O2 := Lib.hid O1; have Q2 := Lib.hid ((bal w (.cells #[] 36)).trans b1); clear O1 b1 g1 at1)
      | fail)
    go_ret
    exact ⟨⟨a2, c2, rfl, O2.out⟩, Q2.out⟩
end Go.Proofs.Ytokoogohdfepiaa
