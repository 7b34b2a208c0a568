/- Two values that are one are told to be one. -/
import Derived.Test.YtdiomelldhkibaaGPlain
namespace Go.Proofs.Ytdiomelldhkibaa
open Go.RowKit

set_option maxRecDepth 100000 in
set_option maxHeartbeats 2000000 in
theorem sameIP_one (v0 : Nat) (v1 : Nat) (v2 : Bool) (v3 : Bool) (v4 : Int) (v5 : Nat) (v6 : Nat) (v7 : Nat) (v8 : Nat) (a9 c9 : Option Addr) (xs9 : List Nat) (cap9 dap9 : Nat) (a10 c10 : Option Addr) (xs10 : List Nat) (cap10 dap10 : Nat) (w : World) (hx9 : Bts w a9 xs9) (hy9 : Bts w c9 xs9) (hl9 : xs9.length ≤ 140737488355328) (hx10 : Bts w a10 xs10) (hy10 : Bts w c10 xs10) (hl10 : xs10.length ≤ 140737488355328) :
    Calls Try.prog 34 #[.agg #[.int .u8 v0, .int .u16 v1, .bool v2, .bool v3, .int .i64 v4, .int .u8 v5, .int .u8 v6, .int .u32 v7, .int .u32 v8, .slice a9 xs9.length cap9, .slice a10 xs10.length cap10], .agg #[.int .u8 v0, .int .u16 v1, .bool v2, .bool v3, .int .i64 v4, .int .u8 v5, .int .u8 v6, .int .u32 v7, .int .u32 v8, .slice c9 xs9.length dap9, .slice c10 xs10.length dap10]] w fun e w' => e = .returned (.bool true) ∧ Below w.heap.size w w' := by
  have e0 : ((v0 : Int) == (v0 : Int)) = true := by simp
  have f0 : ((v0 : Int) != (v0 : Int)) = false := by simp
  have e1 : ((v1 : Int) == (v1 : Int)) = true := by simp
  have f1 : ((v1 : Int) != (v1 : Int)) = false := by simp
  have e2 : (v2 == v2) = true := by simp
  have e3 : (v3 == v3) = true := by simp
  have e4 : (v4 == v4) = true := by simp
  have f4 : (v4 != v4) = false := by simp
  have e5 : ((v5 : Int) == (v5 : Int)) = true := by simp
  have f5 : ((v5 : Int) != (v5 : Int)) = false := by simp
  have e6 : ((v6 : Int) == (v6 : Int)) = true := by simp
  have f6 : ((v6 : Int) != (v6 : Int)) = false := by simp
  have e7 : ((v7 : Int) == (v7 : Int)) = true := by simp
  have f7 : ((v7 : Int) != (v7 : Int)) = false := by simp
  have e8 : ((v8 : Int) == (v8 : Int)) = true := by simp
  have f8 : ((v8 : Int) != (v8 : Int)) = false := by simp
  have q0 := ((Below.refl _ w).alloc (Nat.le_refl _) (.cells #[.int .u8 v0, .int .u16 v1, .bool v2, .bool v3, .int .i64 v4, .int .u8 v5, .int .u8 v6, .int .u32 v7, .int .u32 v8, .slice a9 xs9.length cap9, .slice a10 xs10.length cap10] 54)).alloc (by simp) (.cells #[.int .u8 v0, .int .u16 v1, .bool v2, .bool v3, .int .i64 v4, .int .u8 v5, .int .u8 v6, .int .u32 v7, .int .u32 v8, .slice c9 xs9.length dap9, .slice c10 xs10.length dap10] 54)
  have X9_0 := Lib.hid (hx9.below q0)
  have Y9_0 := Lib.hid (hy9.below q0)
  clear hx9 hy9
  have X10_0 := Lib.hid (hx10.below q0)
  have Y10_0 := Lib.hid (hy10.below q0)
  clear hx10 hy10
  go_enter Try.func34, Try.ntmps34
  go_wp2_with fail
  refine (same_one a9 c9 xs9 xs9 cap9 dap9 _ X9_0.out Y9_0.out hl9 hl9 rfl).mono ?_
  rintro e w1 ⟨rfl, b1⟩
  have g1_10_a : w1.cell? ⟨w.heap.size, 10, none⟩ = some (.slice a10 xs10.length cap10) := (b1.cell (p := ⟨w.heap.size, 10, none⟩) (by show _ < _; simp only [World.size_alloc]; omega)).trans (by rw [World.cell?_alloc_past _ _ _ (by simp), World.cell?_alloc_new]; rfl)
  have g1_10_b : w1.cell? ⟨w.heap.size + 1, 10, none⟩ = some (.slice c10 xs10.length dap10) := (b1.cell (p := ⟨w.heap.size + 1, 10, none⟩) (by show _ < _; simp only [World.size_alloc]; omega)).trans (by rw [World.cell?_alloc_at _ _ _ _ (by simp)]; rfl)
  have z1 : w.heap.size + 1 < w1.heap.size := by have := b1.size; simp at this; omega
  have q1 := q0.trans (b1.mono q0.size)
  have X10_1 := Lib.hid (X10_0.out.below b1)
  have Y10_1 := Lib.hid (Y10_0.out.below b1)
  clear X9_0 Y9_0 X10_0 Y10_0 b1 q0  
  go_wp2_with fail
  refine (same_one a10 c10 xs10 xs10 cap10 dap10 _ X10_1.out Y10_1.out hl10 hl10 rfl).mono ?_
  rintro e w2 ⟨rfl, b2⟩
  have q2 := q1.trans (b2.mono q1.size)
  clear X10_1 Y10_1 b2 q1 g1_10_a g1_10_b z1
  go_wp2
  go_ret
  exact ⟨rfl, q2⟩
end Go.Proofs.Ytdiomelldhkibaa
