/- A copy, by the document's own answer. -/
import Derived.Test.YtokfadlgiimaoaaGBts
import Derived.WalkSpells
import Derived.WalkLawsBesides
import Derived.PlainAid
import Derived.WalkSmall
import Derived.Deep.AppendSrc
import Derived.LoopN
namespace Go.Proofs.Ytokfadlgiimaoaa
open Go.RowKit

set_option maxHeartbeats 400000 in
theorem copied_one (a : Option Addr) (xs : List Nat) (cap : Nat) (w : World) (hx : Bts w a xs) (hxl : xs.length ≤ 140737488355328) (hn : a = none → cap = 0) :
    Calls Try.prog 47 #[.slice a xs.length cap] w fun e w' => ∃ a' cap', e = .returned (.slice a' xs.length cap') ∧ OwnSl w.heap.size a' xs cap' w' ∧ Below w.heap.size w w' := by
  obtain ⟨i0, hi, hz0, hz1, hz2⟩ := info_parts info5
  go_enter Try.func47, Try.ntmps47
  cases a with
  | none =>
    obtain rfl : xs = [] := by
      rcases hx.2 with h | ⟨b, off, h, _⟩
      · exact h
      · cases h
    obtain rfl := hn rfl
    go_wp2
    go_ret
    exact ⟨none, 0, rfl, ⟨hx.1, .inl ⟨rfl, rfl, rfl⟩⟩, Below.refl _ _⟩
  | some ad =>
    have Hc := Lib.hid hx.src
    have Hx := Lib.hid hx.1
    clear hx
    go_wp2_with (at_builtin; refine wpList_append_own _ rfl _ _ 22 rfl w.heap.size 5 i0 (.int .u8 0) 1 1 Try.underlying22 hi hz0 hz1 hz2 rfl (by decide) _ _ _ rfl (World.ownsRow_nil _ _ _ _) ad xs.length cap (xs.map fun x => Value.int .u8 ((x : Nat) : Int)) rfl (by simp) Hc.out (by simp [Value.oneCell']) (by unfold maxLen; omega) (by omega) (Nat.le_refl _) ?_; intro v' w1 hown hgrow _)
    go_ret
    obtain ⟨a', cap', rfl, O⟩ := OwnSl.of_row (xs := xs) Hx.out (by simpa using hown)
    exact ⟨a', cap', rfl, O, (Below.refl _ _).grown hgrow (Nat.le_refl _) (fun k e => by cases e)⟩

end Go.Proofs.Ytokfadlgiimaoaa
