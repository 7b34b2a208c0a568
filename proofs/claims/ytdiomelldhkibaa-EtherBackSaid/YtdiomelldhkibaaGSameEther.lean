/- Two values that are one are told to be one. -/
import Derived.Test.YtdiomelldhkibaaGPlain
namespace Go.Proofs.Ytdiomelldhkibaa
open Go.RowKit

set_option maxRecDepth 100000 in
set_option maxHeartbeats 2000000 in
theorem sameEther_one (v0 : Nat) (v1 : Nat) (v2 : Int) (a3 c3 : Option Addr) (xs3 : List Nat) (cap3 dap3 : Nat) (w : World) (hx3 : Bts w a3 xs3) (hy3 : Bts w c3 xs3) (hl3 : xs3.length ≤ 140737488355328) :
    Calls Try.prog 27 #[.agg #[.int .u64 v0, .int .u64 v1, .int .i64 v2, .slice a3 xs3.length cap3], .agg #[.int .u64 v0, .int .u64 v1, .int .i64 v2, .slice c3 xs3.length dap3]] w fun e w' => e = .returned (.bool true) ∧ Below w.heap.size w w' := by
  have e0 : ((v0 : Int) == (v0 : Int)) = true := by simp
  have f0 : ((v0 : Int) != (v0 : Int)) = false := by simp
  have e1 : ((v1 : Int) == (v1 : Int)) = true := by simp
  have f1 : ((v1 : Int) != (v1 : Int)) = false := by simp
  have e2 : (v2 == v2) = true := by simp
  have f2 : (v2 != v2) = false := by simp
  have q0 := ((Below.refl _ w).alloc (Nat.le_refl _) (.cells #[.int .u64 v0, .int .u64 v1, .int .i64 v2, .slice a3 xs3.length cap3] 25)).alloc (by simp) (.cells #[.int .u64 v0, .int .u64 v1, .int .i64 v2, .slice c3 xs3.length dap3] 25)
  have X3_0 := Lib.hid (hx3.below q0)
  have Y3_0 := Lib.hid (hy3.below q0)
  clear hx3 hy3
  go_enter Try.func27, Try.ntmps27
  go_wp2_with fail
  refine (same_one a3 c3 xs3 xs3 cap3 dap3 _ X3_0.out Y3_0.out hl3 hl3 rfl).mono ?_
  rintro e w1 ⟨rfl, b1⟩
  have q1 := q0.trans (b1.mono q0.size)
  clear X3_0 Y3_0 b1 q0  
  go_wp2
  go_ret
  exact ⟨rfl, q1⟩
end Go.Proofs.Ytdiomelldhkibaa
