/- Recvbuf: Blocks' closure; its order. -/
import Derived.Test.YtknebjfdggimcaaRvSo
namespace Go.Proofs.Ytknebjfdggimcaa
open Go.Shelf Go.RowKit Go.Lib Go.Sort Go.Proofs.Ytknebjfdggimcaa.Rv

set_option maxHeartbeats 1000000 in
theorem cmp_cl (x y : Pt) (W : World) : Calls Try.prog 37 #[.agg #[.int .i64 (x.1 : Nat), .int .i64 (x.2.1 : Nat), .int .i64 (x.2.2 : Nat)], .agg #[.int .i64 (y.1 : Nat), .int .i64 (y.2.1 : Nat), .int .i64 (y.2.2 : Nat)]] W fun e w' => e = .returned (.int .i64 (Lib.compareInt (y.2.2 : Int) (x.2.2 : Int))) ∧ ∃ q os', w' = grow (W.drewN q) os' := by
  have hcon := fun W' => AnyG.cmp_Compare_int cmpSp (y.2.2 : Int) (x.2.2 : Int) W'
  change ∀ W', Calls Try.prog 38 _ _ _ at hcon
  generalize Lib.compareInt (y.2.2 : Int) (x.2.2 : Int) = r at hcon ⊢
  go_enter Try.func37, Try.ntmps37
  go_wp2_with (go_at_call 38; refine (hcon _).mono ?_; rintro e w' ⟨rfl, rfl⟩)
  go_ret
  exact ⟨rfl, 0, _, by rw [alloc_eq_grow, alloc_eq_grow, grow_grow]; rfl⟩
theorem cmp_lays (blk off size : Nat) (w : World) : CmpLays Try.prog 37 #[] PC 3 (fun x y : Pt => Lib.compareInt (y.2.2 : Int) (x.2.2 : Int)) blk off size w :=
  fun _ _ _ _ x y => cmp_cl x y _
theorem ltLo (x y : Pt) : ltOf (fun x y : Pt => Lib.compareInt (y.2.2 : Int) (x.2.2 : Int)) x y = decide (y.2.2 < x.2.2) := by
  unfold ltOf Lib.compareInt
  by_cases h1 : y.2.2 < x.2.2
  · simp [h1]
  · by_cases h2 : x.2.2 < y.2.2 <;> simp [h1, h2]
theorem swoLo : SWO (ltOf fun x y : Pt => Lib.compareInt (y.2.2 : Int) (x.2.2 : Int)) where
  irrefl x := by rw [ltLo]; simp
  trans x y z h1 h2 := by rw [ltLo] at *; simp at *; omega
  ntrans x y z h1 h2 := by rw [ltLo] at *; simp at *; omega
end Go.Proofs.Ytknebjfdggimcaa
