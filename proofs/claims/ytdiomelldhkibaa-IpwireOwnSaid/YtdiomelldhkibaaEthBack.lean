/- Frames and ARPs are read back from their octets, and built again of what was read: plain facts. -/
import Derived.Test.YtdiomelldhkibaaEthAll
namespace Go.Proofs.Ytdiomelldhkibaa
open Go.RowKit

theorem snoc_ind {P : List Nat → Prop} (h0 : P []) (h1 : ∀ xs x, P xs → P (xs ++ [x])) (xs : List Nat) : P xs := by
  have key : ∀ ys : List Nat, P ys.reverse := by
    intro ys
    induction ys with
    | nil => exact h0
    | cons y ys ih => rw [List.reverse_cons]; exact h1 _ _ ih
  have h := key xs.reverse
  rwa [List.reverse_reverse] at h

theorem numOf_append (xs ys : List Nat) : Mt.numOf (xs ++ ys) = Mt.numOf xs * 256 ^ ys.length + Mt.numOf ys := by
  induction ys using snoc_ind with
  | h0 => simp [Mt.numOf]
  | h1 ys y ih =>
    rw [← List.append_assoc, Mt.numOf_snoc, ih, Mt.numOf_snoc, List.length_append, List.length_singleton, Nat.pow_succ, Nat.add_mul, Nat.mul_assoc]
    omega

theorem octs_succ (n k : Nat) : Mt.octs n (k + 1) = Mt.octs (n / 256) k ++ [n % 256] := by
  unfold Mt.octs
  rw [List.range_succ, List.map_append]
  congr 1
  · apply List.map_congr_left
    intro i hi
    have hi := List.mem_range.1 hi
    rw [show k + 1 - 1 - i = (k - 1 - i) + 1 by omega, Nat.pow_succ, Nat.mul_comm, ← Nat.div_div_eq_div_mul]
  · simp

theorem numOf_octs (k : Nat) : ∀ n, n < 256 ^ k → Mt.numOf (Mt.octs n k) = n := by
  induction k with
  | zero => intro n h; simp at h; subst h; rfl
  | succ k ih =>
    intro n h
    rw [octs_succ, Mt.numOf_snoc, ih (n / 256) (by rw [Nat.pow_succ] at h; omega)]
    omega

theorem octs_numOf (xs : List Nat) (h : ∀ x ∈ xs, x < 256) : Mt.octs (Mt.numOf xs) xs.length = xs := by
  induction xs using snoc_ind with
  | h0 => rfl
  | h1 xs x ih =>
    have hx := h x (by simp)
    rw [List.length_append, List.length_singleton, octs_succ, Mt.numOf_snoc, show (Mt.numOf xs * 256 + x) / 256 = Mt.numOf xs by omega, show (Mt.numOf xs * 256 + x) % 256 = x by omega, ih (fun y hy => h y (by simp [hy]))]

theorem seg_app (P Q R : List Nat) (i n : Nat) (hP : P.length = i) (hQ : Q.length = n) : seg (P ++ Q ++ R) i n = Q := by
  subst hP; subst hQ
  unfold seg
  rw [List.append_assoc, List.drop_left, List.take_left]

theorem seg_num (P R : List Nat) (v i n : Nat) (hP : P.length = i) (hv : v < 256 ^ n) : Mt.numOf (seg (P ++ Mt.octs v n ++ R) i n) = v := by
  rw [seg_app P _ R i n hP (Mt.octs_length v n), numOf_octs n v hv]

theorem ethD_of (d s t : Nat) (xs : List Nat) (hd : d ≤ 281474976710655) : ethD (ethO d s t xs) = d := by
  have h := seg_num [] (Mt.octs s 6 ++ Mt.octs t 2 ++ xs) d 0 6 rfl (Nat.lt_of_le_of_lt hd (by decide))
  simpa [ethO, List.append_assoc] using h
theorem ethS_of (d s t : Nat) (xs : List Nat) (hs : s ≤ 281474976710655) : ethS (ethO d s t xs) = s := by
  have h := seg_num (Mt.octs d 6) (Mt.octs t 2 ++ xs) s 6 6 (Mt.octs_length d 6) (Nat.lt_of_le_of_lt hs (by decide))
  simpa [ethO, List.append_assoc] using h
theorem ethT_of (d s t : Nat) (xs : List Nat) (ht : t ≤ 65535) : ethT (ethO d s t xs) = t := by
  have h := seg_num (Mt.octs d 6 ++ Mt.octs s 6) xs t 12 2 (by simp [Mt.octs_length]) (Nat.lt_of_le_of_lt ht (by decide))
  simpa [ethO, List.append_assoc] using h
theorem ethds_of (d s t : Nat) (xs : List Nat) : (ethO d s t xs).drop 14 = xs := by
  unfold ethO
  rw [List.drop_left' (by simp [Mt.octs_length])]

/-- A list in parts. -/
theorem seg_split (xs : List Nat) (i n : Nat) (_ : i + n ≤ xs.length) : xs.drop i = seg xs i n ++ xs.drop (i + n) := by
  unfold seg
  rw [← List.drop_drop, List.take_append_drop]

theorem octs_seg (xs : List Nat) (h : ∀ x ∈ xs, x < 256) (i n : Nat) (hl : i + n ≤ xs.length) : Mt.octs (Mt.numOf (seg xs i n)) n = seg xs i n := by
  have h2 := octs_numOf (seg xs i n) (seg_lt h i n)
  rwa [seg_length xs i n hl] at h2

theorem eth_again (xs : List Nat) (h : ∀ x ∈ xs, x < 256) (hl : 14 ≤ xs.length) : ethO (ethD xs) (ethS xs) (ethT xs) (xs.drop 14) = xs := by
  unfold ethO ethD ethS ethT
  rw [octs_seg xs h 0 6 (by omega), octs_seg xs h 6 6 (by omega), octs_seg xs h 12 2 (by omega), List.append_assoc, List.append_assoc, ← seg_split xs 12 2 (by omega), ← seg_split xs 6 6 (by omega), ← seg_split xs 0 6 (by omega)]
  rfl

theorem arp8_again (xs : List Nat) (hl : 28 ≤ xs.length) (hb : arpBegins xs) : arpHead ++ [xs.getD 7 0] = seg xs 0 8 := by
  apply List.ext_getElem
  · rw [seg_length xs 0 8 (by omega)]; rfl
  · intro i h1 h2
    rw [seg_length xs 0 8 (by omega)] at h2
    have e : (seg xs 0 8)[i] = xs.getD i 0 := by
      have := seg_getD xs 0 8 i h2
      rw [List.getD_eq_getElem?_getD, List.getElem?_eq_getElem (by rw [seg_length xs 0 8 (by omega)]; exact h2)] at this
      simpa using this
    rw [e]
    by_cases h7 : i < 7
    · rw [hb i h7, List.getElem_append_left h7, List.getD_eq_getElem?_getD, List.getElem?_eq_getElem h7]; rfl
    · obtain rfl : i = 7 := by omega
      rfl

theorem arp_again (xs : List Nat) (h : ∀ x ∈ xs, x < 256) (hl : 28 ≤ xs.length) (hb : arpBegins xs) : arpO (xs.getD 7 0) (arpM1 xs) (arpI1 xs) (arpM2 xs) (arpI2 xs) = xs.take 28 := by
  unfold arpO arpM1 arpI1 arpM2 arpI2
  rw [octs_seg xs h 8 6 (by omega), octs_seg xs h 14 4 (by omega), octs_seg xs h 18 6 (by omega), octs_seg xs h 24 4 (by omega), arp8_again xs hl hb]
  have e : xs = seg xs 0 8 ++ seg xs 8 6 ++ seg xs 14 4 ++ seg xs 18 6 ++ seg xs 24 4 ++ xs.drop 28 := by
    simp only [List.append_assoc]
    rw [← seg_split xs 24 4 (by omega), ← seg_split xs 18 6 (by omega), ← seg_split xs 14 4 (by omega), ← seg_split xs 8 6 (by omega), ← seg_split xs 0 8 (by omega)]
    rfl
  conv => rhs; rw [e]
  rw [List.take_left' (by simp [seg_length, hl, show 0 + 8 ≤ xs.length by omega, show 8 + 6 ≤ xs.length by omega, show 14 + 4 ≤ xs.length by omega, show 18 + 6 ≤ xs.length by omega])]

theorem arpM1_of (op m1 i1 m2 i2 : Nat) (h : m1 ≤ 281474976710655) : arpM1 (arpO op m1 i1 m2 i2) = m1 := by
  have h := seg_num (arpHead ++ [op]) (Mt.octs i1 4 ++ Mt.octs m2 6 ++ Mt.octs i2 4) m1 8 6 rfl (Nat.lt_of_le_of_lt h (by decide))
  simpa [arpO, List.append_assoc] using h
theorem arpI1_of (op m1 i1 m2 i2 : Nat) (h : i1 < 4294967296) : arpI1 (arpO op m1 i1 m2 i2) = i1 := by
  have h := seg_num (arpHead ++ [op] ++ Mt.octs m1 6) (Mt.octs m2 6 ++ Mt.octs i2 4) i1 14 4 (by simp [arpHead, Mt.octs_length]) (Nat.lt_of_lt_of_le h (by decide))
  simpa [arpO, List.append_assoc] using h
theorem arpM2_of (op m1 i1 m2 i2 : Nat) (h : m2 ≤ 281474976710655) : arpM2 (arpO op m1 i1 m2 i2) = m2 := by
  have h := seg_num (arpHead ++ [op] ++ Mt.octs m1 6 ++ Mt.octs i1 4) (Mt.octs i2 4) m2 18 6 (by simp [arpHead, Mt.octs_length]) (Nat.lt_of_le_of_lt h (by decide))
  simpa [arpO, List.append_assoc] using h
theorem arpI2_of (op m1 i1 m2 i2 : Nat) (h : i2 < 4294967296) : arpI2 (arpO op m1 i1 m2 i2) = i2 := by
  have h := seg_num (arpHead ++ [op] ++ Mt.octs m1 6 ++ Mt.octs i1 4 ++ Mt.octs m2 6) [] i2 24 4 (by simp [arpHead, Mt.octs_length]) (Nat.lt_of_lt_of_le h (by decide))
  simpa [arpO, List.append_assoc] using h
theorem arp_begin_of (op m1 i1 m2 i2 : Nat) : arpBegins (arpO op m1 i1 m2 i2) := by
  intro j hj
  unfold arpO
  simp only [List.append_assoc]
  rw [List.getD_eq_getElem?_getD, List.getD_eq_getElem?_getD, List.getElem?_append_left (show j < arpHead.length from hj)]
theorem arp_op_of (op m1 i1 m2 i2 : Nat) : (arpO op m1 i1 m2 i2).getD 7 0 = op := by
  unfold arpO
  simp [arpHead]
theorem arp_len (op m1 i1 m2 i2 : Nat) : (arpO op m1 i1 m2 i2).length = 28 := by
  unfold arpO; simp [arpHead, Mt.octs_length]
end Go.Proofs.Ytdiomelldhkibaa
