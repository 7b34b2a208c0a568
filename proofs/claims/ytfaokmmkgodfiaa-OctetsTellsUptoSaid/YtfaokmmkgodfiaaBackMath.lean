/- What was written is read back: numbers from their decimal figures, octets from their hexadecimal ones, numbers from their octets. -/
import Derived.Test.YtfaokmmkgodfiaaHex
import Derived.Lib.Strings
namespace Go.Proofs.Ytfaokmmkgodfiaa
open Go.RowKit

theorem strO_data (l : List Mt.Oct) : (strO l).data.toList = l.map fun x => UInt8.ofNat x.1 := by
  unfold strO
  rw [strOfNums_data, List.map_map]
  rfl

theorem strO_size (l : List Mt.Oct) : (strO l).size = l.length := by
  unfold strO
  rw [strOfNums_size, List.length_map]

theorem oct_byte (x : Mt.Oct) : (UInt8.ofNat x.1).toNat = x.1 := by
  rw [UInt8.toNat_ofNat']
  exact Nat.mod_eq_of_lt x.2

theorem figO_val (d : Nat) (h : d < 10) : (Mt.figO d).1 = 48 + d := by
  unfold Mt.figO Mt.fig
  simp only
  rw [Nat.mod_eq_of_lt (by omega), if_pos h]

/-- The figures' number. -/
theorem fold_digs (n : Nat) : ∀ (c : Nat) (acc : Int), ((Mt.digs 10 n c).map fun x => UInt8.ofNat x.1).foldl (fun n b => 10 * n + (b.toNat : Int) - 48) acc = acc * ((10 ^ c : Nat) : Int) + ((n % 10 ^ c : Nat) : Int) := by
  intro c
  induction c with
  | zero => intro acc; simp [Mt.digs, Nat.mod_one]
  | succ c ih =>
    intro acc
    rw [Mt.digs, List.map_cons, List.foldl_cons, ih, oct_byte, figO_val _ (Nat.mod_lt _ (by omega))]
    have h := Nat.mod_mul (x := n) (a := 10 ^ c) (b := 10)
    rw [Nat.pow_succ, h]
    generalize n / 10 ^ c % 10 = q
    generalize n % 10 ^ c = r
    generalize 10 ^ c = p
    have e : (10 * acc + ((48 + q : Nat) : Int) - 48) = 10 * acc + q := by omega
    rw [e, Int.natCast_add, Int.natCast_mul, Int.natCast_mul, Int.add_mul]
    have e2 : acc * ((p : Int) * ((10 : Nat) : Int)) = 10 * acc * p := by
      rw [Int.mul_comm (p : Int), ← Int.mul_assoc, Int.mul_comm acc]; rfl
    rw [e2, Int.mul_comm (p : Int) (q : Int)]
    omega

theorem figs_decN (n : Nat) (h : n < 100000000000000000000) : figsI ((Mt.decN n).map fun x => UInt8.ofNat x.1) = n := by
  have hw := Mt.dwidF_is 19 n h
  unfold Mt.decN figsI
  rw [fold_digs, Nat.mod_eq_of_lt hw.2.1]
  simp

theorem hasMinus_data (s : ByteArray) : hasMinus s = (s.data.toList.take 1 == [45]) := by
  unfold hasMinus
  rw [ByteArray.toList_eq, Lib.extract_data]
  rfl

theorem rest_minus (s : ByteArray) (h : hasMinus s = true) : (restOf s).data.toList = s.data.toList.drop 1 := by
  unfold restOf
  rw [if_pos h, Lib.extract_data]
  apply List.take_of_length_le
  simp
theorem rest_plain (s : ByteArray) (h : ¬ hasMinus s = true) : restOf s = s := by unfold restOf; rw [if_neg h]

theorem decN_cons (n : Nat) : ∃ d l, d < 10 ∧ Mt.decN n = Mt.figO d :: l := by
  unfold Mt.decN
  have h : 1 ≤ Mt.dwidF 19 n := by
    unfold Mt.dwidF
    split <;> omega
  obtain ⟨k, hk⟩ : ∃ k, Mt.dwidF 19 n = k + 1 := ⟨Mt.dwidF 19 n - 1, by omega⟩
  rw [hk]
  exact ⟨_, _, Nat.mod_lt _ (by omega), rfl⟩

/-- ParseInt of Decimal. -/
theorem parsed_dec (m : Int) (h1 : -9223372036854775808 ≤ m) (h2 : m ≤ 9223372036854775807) : parsed (strO (Mt.dec m)) = m := by
  unfold parsed
  by_cases hn : m < 0
  · have hd : Mt.dec m = Mt.minus :: Mt.decN m.natAbs := by unfold Mt.dec Mt.sgn; rw [if_pos hn]; rfl
    have hm : hasMinus (strO (Mt.dec m)) = true := by
      rw [hasMinus_data, strO_data, hd]; rfl
    rw [if_pos hm, rest_minus _ hm, strO_data, hd, List.map_cons, List.drop_one, List.tail_cons, figs_decN _ (by omega)]
    unfold wrap64
    omega
  · have hd : Mt.dec m = Mt.decN m.natAbs := by unfold Mt.dec Mt.sgn; rw [if_neg hn]; rfl
    have hm : ¬ hasMinus (strO (Mt.dec m)) = true := by
      rw [hasMinus_data, strO_data, hd]
      obtain ⟨d, l, h10, hl⟩ := decN_cons m.natAbs
      rw [hl, List.map_cons]
      simp only [List.take_succ_cons, List.take_zero, beq_iff_eq, List.cons.injEq, and_true]
      intro h
      have := congrArg UInt8.toNat h
      rw [oct_byte, figO_val d h10] at this
      simp at this
      omega
    rw [if_neg hm, rest_plain _ hm, strO_data, hd, figs_decN _ (by omega)]
    unfold wrap64
    omega

theorem nib_fig : ∀ d : Fin 16, nib (Mt.figO d.1).1 = some d.1 := by decide +kernel

theorem byteAt_strO (l : List Mt.Oct) (k : Nat) (h : k < l.length) : byteAt (strO l) k = (l[k]).1 := by
  unfold byteAt
  rw [strO_data, List.getD_eq_getElem?_getD, List.getElem?_map, List.getElem?_eq_getElem h]
  exact oct_byte _

theorem hexO_get (xs : List Nat) : ∀ (i : Nat) (h : i < xs.length), (hexO xs)[2 * i]? = some (Mt.figO (xs[i] / 16 % 16)) ∧ (hexO xs)[2 * i + 1]? = some (Mt.figO (xs[i] % 16)) := by
  induction xs with
  | nil => intro i h; simp at h
  | cons x xs ih =>
    intro i h
    have hc : hexO (x :: xs) = Mt.figO (x / 16 % 16) :: Mt.figO (x % 16) :: hexO xs := by simp [hexO, Mt.digs]
    rw [hc]
    cases i with
    | zero => exact ⟨rfl, rfl⟩
    | succ i =>
      have h2 := ih i (by simpa using h)
      rw [show 2 * (i + 1) = 2 * i + 1 + 1 by omega]
      simp only [List.getElem?_cons_succ, List.getElem_cons_succ]
      exact h2

theorem hex_bytes (xs : List Nat) (i : Nat) (h : i < xs.length) : nib (byteAt (strO (hexO xs)) (2 * i)) = some (xs[i] / 16 % 16) ∧ nib (byteAt (strO (hexO xs)) (2 * i + 1)) = some (xs[i] % 16) := by
  obtain ⟨h1, h2⟩ := hexO_get xs i h
  have hl := hexO_length xs
  have a1 : 2 * i < (hexO xs).length := by omega
  have a2 : 2 * i + 1 < (hexO xs).length := by omega
  rw [byteAt_strO _ _ a1, byteAt_strO _ _ a2]
  rw [List.getElem?_eq_getElem a1, Option.some.injEq] at h1
  rw [List.getElem?_eq_getElem a2, Option.some.injEq] at h2
  rw [h1, h2]
  exact ⟨nib_fig ⟨xs[i] / 16 % 16, Nat.mod_lt _ (by omega)⟩, nib_fig ⟨xs[i] % 16, Nat.mod_lt _ (by omega)⟩⟩

theorem hex_all (xs : List Nat) : allHex (strO (hexO xs)) := by
  intro j hj
  rw [strO_size, hexO_length] at hj
  rcases Nat.mod_two_eq_zero_or_one j with h | h
  · have := (hex_bytes xs (j / 2) (by omega)).1
    rw [show 2 * (j / 2) = j by omega] at this
    rw [this]; rfl
  · have := (hex_bytes xs (j / 2) (by omega)).2
    rw [show 2 * (j / 2) + 1 = j by omega] at this
    rw [this]; rfl

/-- Unhex of Hex. -/
theorem unhex_hex (xs : List Nat) (hx : ∀ x ∈ xs, x < 256) : unhexL (strO (hexO xs)) = xs ∧ unhexE (strO (hexO xs)) = 0 := by
  have hs : (strO (hexO xs)).size = 2 * xs.length := by rw [strO_size, hexO_length]
  have hev : (strO (hexO xs)).size % 2 = 0 := by omega
  constructor
  · unfold unhexL
    rw [if_pos ⟨hex_all xs, hev⟩]
    unfold unhexed
    apply List.ext_getElem
    · simp; omega
    · intro i h1 h2
      obtain ⟨b1, b2⟩ := hex_bytes xs i h2
      have hlt := hx _ (List.getElem_mem h2)
      simp only [List.getElem_map, List.getElem_range, b1, b2, Option.getD_some]
      omega
  · unfold unhexE
    rw [if_pos (hex_all xs), if_pos hev]

theorem octs_succ (n k : Nat) : Mt.octs n (k + 1) = Mt.octs (n / 256) k ++ [n % 256] := by
  unfold Mt.octs
  rw [List.range_succ, List.map_append]
  congr 1
  · apply List.map_congr_left
    intro i hi
    have hik := List.mem_range.1 hi
    rw [Nat.div_div_eq_div_mul, ← Nat.pow_succ', show (k - 1 - i).succ = k + 1 - 1 - i by omega]
  · simp

/-- Get of Put. -/
theorem num_octs : ∀ (k n : Nat), n < 256 ^ k → Mt.numOf (Mt.octs n k) = n := by
  intro k
  induction k with
  | zero => intro n h; have : n = 0 := by simpa using h
            subst this; rfl
  | succ k ih =>
    intro n h
    rw [octs_succ, Mt.numOf_snoc, ih (n / 256) (by rw [Nat.pow_succ] at h; omega)]
    omega
end Go.Proofs.Ytfaokmmkgodfiaa
