/- Parts of lists of octets, written out; a word in the midst of a sum. -/
import Derived.Test.YtgmgoilleakdcaaGBts
import Derived.Test.YtgmgoilleakdcaaSumMath
namespace Go.Proofs.Ytgmgoilleakdcaa
open Go.RowKit

theorem seg2 (xs : List Nat) (i : Nat) (hi : i + 2 ≤ xs.length) : seg xs i 2 = [xs.getD i 0, xs.getD (i + 1) 0] := by
  unfold seg
  apply List.ext_getElem
  · simp; omega
  · intro j h1 h2
    simp at h2
    obtain rfl | rfl : j = 0 ∨ j = 1 := by omega
    all_goals simp [List.getD_eq_getElem?_getD, List.getElem?_eq_getElem (show i < xs.length by omega), List.getElem?_eq_getElem (show i + 1 < xs.length by omega)]

theorem seg4' (xs : List Nat) (i : Nat) (hi : i + 4 ≤ xs.length) : seg xs i 4 = [xs.getD i 0, xs.getD (i + 1) 0, xs.getD (i + 2) 0, xs.getD (i + 3) 0] := by
  unfold seg
  apply List.ext_getElem
  · simp; omega
  · intro j h1 h2
    simp at h2
    obtain rfl | rfl | rfl | rfl : j = 0 ∨ j = 1 ∨ j = 2 ∨ j = 3 := by omega
    all_goals simp [List.getD_eq_getElem?_getD, List.getElem?_eq_getElem (show i < xs.length by omega), List.getElem?_eq_getElem (show i + 1 < xs.length by omega), List.getElem?_eq_getElem (show i + 2 < xs.length by omega), List.getElem?_eq_getElem (show i + 3 < xs.length by omega)]

theorem octs2 (n : Nat) (h : n < 65536) : Mt.octs n 2 = [n / 256, n % 256] := by
  have h1 : n / 256 % 256 = n / 256 := by omega
  simp [Mt.octs, List.range_succ, h1]

theorem octs4 (n : Nat) (h : n < 4294967296) : Mt.octs n 4 = [n / 16777216, n / 65536 % 256, n / 256 % 256, n % 256] := by
  have h1 : n / 16777216 % 256 = n / 16777216 := by omega
  simp [Mt.octs, List.range_succ, h1]

theorem wt_mid2 (P R : List Nat) (x y : Nat) (he : P.length % 2 = 0) : Mt.wt true (P ++ [x, y] ++ R) = Mt.wt true P + (x * 256 + y + Mt.wt true R) := by
  rw [List.append_assoc, Mt.wt_append_even _ _ _ he]
  show _ + Mt.wt true (x :: y :: R) = _
  rw [Mt.wt_two]

end Go.Proofs.Ytgmgoilleakdcaa
