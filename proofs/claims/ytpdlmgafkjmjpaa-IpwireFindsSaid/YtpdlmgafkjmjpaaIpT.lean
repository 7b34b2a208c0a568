/- Where a bit is turned: plain facts. -/
import Derived.Test.YtpdlmgafkjmjpaaIpFl
import Derived.IntWalk
namespace Go.Proofs.Ytpdlmgafkjmjpaa
open Go.RowKit

theorem turn_place (j : Nat) (h : 4 ≤ j) (h2 : j < 160) : ∃ i s : Nat, s < 8 ∧ (j : Int) / 8 = (i : Int) ∧ (j : Int) % 8 = (s : Int) ∧ (j : Int).tdiv 8 = (i : Int) ∧ (j : Int).tmod 8 = (s : Int) ∧ (i = 0 → 4 ≤ s) ∧ i < 20 ∧ wrap64 (i : Int) = (i : Int) ∧ IntKind.i64.wrap (i : Int) = (i : Int) ∧ (0 : Int) ≤ (i : Int) :=
  ⟨j / 8, j % 8, by omega, rfl, rfl, rfl, rfl, by omega, by omega, IntWalk.wrap64_in _ (by omega), IntWalk.i64_in _ (by omega), by omega⟩

theorem turn_pow (s : Nat) (h : s < 8) : ∃ pw : Nat, 2 ^ s = pw ∧ pw < 256 ∧ ((2 : Int) ^ s) % 256 = (pw : Int) ∧ ((2 : Int) ^ min (s : Int).toNat 8) % 256 = (pw : Int) := by
  obtain rfl | rfl | rfl | rfl | rfl | rfl | rfl | rfl : s = 0 ∨ s = 1 ∨ s = 2 ∨ s = 3 ∨ s = 4 ∨ s = 5 ∨ s = 6 ∨ s = 7 := by omega
  all_goals exact ⟨_, rfl, by omega, by simp, by simp⟩

theorem turn_list (R : List Nat) (hx : ∀ x ∈ R, x < 256) (hf : (∀ x ∈ R, x < 256) → ∀ j v, j < 20 → v < 256 → v ≠ R.getD j 0 → (j = 0 → v % 16 = R.getD 0 0 % 16) → ¬ IpPok (R.set j v) ∧ Mt.sumO ((R.set j v).take 20) ≠ 65535) (i s pw : Nat) (hi : i < 20) (_ : s < 8) (hp : 2 ^ s = pw) (hp8 : pw < 256) (h0 : i = 0 → 4 ≤ s) :
    bits .xor .u8 ((R.getD i 0 : Nat) : Int) (pw : Int) = ((R.getD i 0 ^^^ pw : Nat) : Int) ∧ R.getD i 0 ^^^ pw < 256 ∧ (R.set i (R.getD i 0 ^^^ pw)).length = R.length ∧ (¬ IpPok (R.set i (R.getD i 0 ^^^ pw)) ∧ Mt.sumO ((R.set i (R.getD i 0 ^^^ pw)).take 20) ≠ 65535) := by
  have hx1 := Mt.getD_lt R hx i
  have hv : R.getD i 0 ^^^ pw < 256 := Nat.xor_lt_two_pow (n := 8) hx1 hp8
  refine ⟨u8_xor_nat _ _ hx1 hp8, hv, List.length_set .., hf hx i _ hi hv ?_ ?_⟩
  · rw [← hp]; exact xor_bit_ne _ _
  · intro h; subst h; rw [← hp]; exact xor_high_low _ _ (h0 rfl)

theorem turn_w (a : Int) (h1 : a.tmod 160 < 160) (h2 : -160 < a.tmod 160) : wrap64 (a.tmod 160 + 160) = a.tmod 160 + 160 := by
  generalize a.tmod 160 = t at h1 h2
  exact IntWalk.wrap64_in _ (by omega)

end Go.Proofs.Ytpdlmgafkjmjpaa
