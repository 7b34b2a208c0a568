/- Numbers and lists of octets: plain facts, for every layer. -/
import Derived.Test.YtokfadlgiimaoaaGBts
namespace Go.Proofs.Ytokfadlgiimaoaa
open Go.RowKit

theorem snoc_ind {P : List Nat → Prop} (h0 : P []) (h1 : ∀ xs x, P xs → P (xs ++ [x])) (xs : List Nat) : P xs := by
  have key : ∀ ys : List Nat, P ys.reverse := by
    intro ys
    induction ys with
    | nil => exact h0
    | cons y ys ih => rw [List.reverse_cons]; exact h1 _ _ ih
  have h := key xs.reverse
  rwa [List.reverse_reverse] at h

theorem numOf_append (xs ys : List Nat) : Mt.numOf (xs ++ ys) = Mt.numOf xs * 256 ^ ys.length + Mt.numOf ys := by
  induction ys using snoc_ind with
  | h0 => simp [Mt.numOf]
  | h1 ys y ih =>
    rw [← List.append_assoc, Mt.numOf_snoc, ih, Mt.numOf_snoc, List.length_append, List.length_singleton, Nat.pow_succ, Nat.add_mul, Nat.mul_assoc]
    omega

theorem octs_succ (n k : Nat) : Mt.octs n (k + 1) = Mt.octs (n / 256) k ++ [n % 256] := by
  unfold Mt.octs
  rw [List.range_succ, List.map_append]
  congr 1
  · apply List.map_congr_left
    intro i hi
    have hi := List.mem_range.1 hi
    rw [show k + 1 - 1 - i = (k - 1 - i) + 1 by omega, Nat.pow_succ, Nat.mul_comm, ← Nat.div_div_eq_div_mul]
  · simp

theorem numOf_octs (k : Nat) : ∀ n, n < 256 ^ k → Mt.numOf (Mt.octs n k) = n := by
  induction k with
  | zero => intro n h; simp at h; subst h; rfl
  | succ k ih =>
    intro n h
    rw [octs_succ, Mt.numOf_snoc, ih (n / 256) (by rw [Nat.pow_succ] at h; omega)]
    omega

theorem octs_numOf (xs : List Nat) (h : ∀ x ∈ xs, x < 256) : Mt.octs (Mt.numOf xs) xs.length = xs := by
  induction xs using snoc_ind with
  | h0 => rfl
  | h1 xs x ih =>
    have hx := h x (by simp)
    rw [List.length_append, List.length_singleton, octs_succ, Mt.numOf_snoc, show (Mt.numOf xs * 256 + x) / 256 = Mt.numOf xs by omega, show (Mt.numOf xs * 256 + x) % 256 = x by omega, ih (fun y hy => h y (by simp [hy]))]

theorem seg_app (P Q R : List Nat) (i n : Nat) (hP : P.length = i) (hQ : Q.length = n) : seg (P ++ Q ++ R) i n = Q := by
  subst hP; subst hQ
  unfold seg
  rw [List.append_assoc, List.drop_left, List.take_left]

theorem seg_num (P R : List Nat) (v i n : Nat) (hP : P.length = i) (hv : v < 256 ^ n) : Mt.numOf (seg (P ++ Mt.octs v n ++ R) i n) = v := by
  rw [seg_app P _ R i n hP (Mt.octs_length v n), numOf_octs n v hv]

/-- A list in parts. -/
theorem seg_split (xs : List Nat) (i n : Nat) (_ : i + n ≤ xs.length) : xs.drop i = seg xs i n ++ xs.drop (i + n) := by
  unfold seg
  rw [← List.drop_drop, List.take_append_drop]

theorem octs_seg (xs : List Nat) (h : ∀ x ∈ xs, x < 256) (i n : Nat) (hl : i + n ≤ xs.length) : Mt.octs (Mt.numOf (seg xs i n)) n = seg xs i n := by
  have h2 := octs_numOf (seg xs i n) (seg_lt h i n)
  rwa [seg_length xs i n hl] at h2

end Go.Proofs.Ytokfadlgiimaoaa
