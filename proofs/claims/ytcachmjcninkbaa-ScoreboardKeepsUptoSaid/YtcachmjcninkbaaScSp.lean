/- Scoreboard: together's closure; its order. -/
import Derived.Test.YtcachmjcninkbaaScSo
namespace Go.Proofs.Ytcachmjcninkbaa
open Go.Shelf Go.RowKit Go.Lib Go.Sort

set_option maxHeartbeats 1000000 in
theorem cmp_cl (x y : Nat × Nat) (W : World) : Calls Try.prog 58 #[.agg #[.int .i64 (x.1 : Nat), .int .i64 (x.2 : Nat)], .agg #[.int .i64 (y.1 : Nat), .int .i64 (y.2 : Nat)]] W fun e w' => e = .returned (.int .i64 (Lib.compareInt (x.1 : Int) (y.1 : Int))) ∧ ∃ q os', w' = grow (W.drewN q) os' := by
  have hcon := fun W' => AnyG.cmp_Compare_int cmpSp (x.1 : Int) (y.1 : Int) W'
  change ∀ W', Calls Try.prog 59 _ _ _ at hcon
  generalize Lib.compareInt (x.1 : Int) (y.1 : Int) = r at hcon ⊢
  go_enter Try.func58, Try.ntmps58
  go_wp2_with (go_at_call 59; refine (hcon _).mono ?_; rintro e w' ⟨rfl, rfl⟩)
  go_ret
  exact ⟨rfl, 0, _, by rw [alloc_eq_grow, alloc_eq_grow, grow_grow]; rfl⟩
theorem cmp_lays (blk off size : Nat) (w : World) : CmpLays Try.prog 58 #[] SC 2 (fun x y : Nat × Nat => Lib.compareInt (x.1 : Int) (y.1 : Int)) blk off size w :=
  fun _ _ _ _ x y => cmp_cl x y _
theorem ltLo (x y : Nat × Nat) : ltOf (fun x y : Nat × Nat => Lib.compareInt (x.1 : Int) (y.1 : Int)) x y = decide (x.1 < y.1) := by
  unfold ltOf Lib.compareInt
  by_cases h1 : x.1 < y.1
  · simp [h1]
  · by_cases h2 : y.1 < x.1 <;> simp [h1, h2]
theorem swoLo : SWO (ltOf fun x y : Nat × Nat => Lib.compareInt (x.1 : Int) (y.1 : Int)) where
  irrefl x := by rw [ltLo]; simp
  trans x y z h1 h2 := by rw [ltLo] at *; simp at *; omega
  ntrans x y z h1 h2 := by rw [ltLo] at *; simp at *; omega
end Go.Proofs.Ytcachmjcninkbaa
