/- Toeplitz's hash over plain lists: bits, words, and exclusive or. -/
import Derived.Test.YtokfadlgiimaoaaMath
namespace Go.Proofs.Ytokfadlgiimaoaa

/-- Bit p of octets, counted from the highest of the first. -/
def tbit (xs : List Nat) (p : Nat) : Nat := xs.getD (p / 8) 0 / 2 ^ (7 - p % 8) % 2

/-- The n bits from p on, as a number. -/
def tw (ks : List Nat) (p : Nat) : Nat → Nat
  | 0 => 0
  | n + 1 => tw ks p n * 2 + tbit ks (p + n)

/-- The hash of the first n bits. -/
def th (ks xs : List Nat) : Nat → Nat
  | 0 => 0
  | n + 1 => if tbit xs n = 1 then th ks xs n ^^^ tw ks n 32 else th ks xs n

theorem tbit_lt (xs : List Nat) (p : Nat) : tbit xs p < 2 := Nat.mod_lt _ (by omega)

theorem tw_lt (ks : List Nat) (p n : Nat) : tw ks p n < 2 ^ n := by
  induction n with
  | zero => simp [tw]
  | succ n ih => have := tbit_lt ks (p + n); rw [tw, Nat.pow_succ]; omega

theorem tw_add (ks : List Nat) (p a b : Nat) : tw ks p (a + b) = tw ks p a * 2 ^ b + tw ks (p + a) b := by
  induction b with
  | zero => simp [tw]
  | succ b ih => rw [← Nat.add_assoc, tw, ih, tw, Nat.pow_succ, Nat.add_assoc p a b, Nat.add_mul, Nat.mul_assoc, Nat.add_assoc]

theorem th_lt (ks xs : List Nat) (n : Nat) : th ks xs n < 4294967296 := by
  induction n with
  | zero => simp [th]
  | succ n ih =>
    rw [th]
    split
    · exact Nat.xor_lt_two_pow (n := 32) ih (tw_lt ks n 32)
    · exact ih

theorem tbit_at (xs : List Nat) (i b : Nat) (hb : b < 8) : tbit xs (8 * i + b) = xs.getD i 0 / 2 ^ (7 - b) % 2 := by
  unfold tbit
  rw [show (8 * i + b) / 8 = i by omega, show (8 * i + b) % 8 = b by omega]

theorem bits8 (x : Nat) (hx : x < 256) : ((((((((0 * 2 + x / 128 % 2) * 2 + x / 64 % 2) * 2 + x / 32 % 2) * 2 + x / 16 % 2) * 2 + x / 8 % 2) * 2 + x / 4 % 2) * 2 + x / 2 % 2) * 2 + x / 1 % 2) = x := by omega

theorem tw_octet (ks : List Nat) (hk : ∀ x ∈ ks, x < 256) (i : Nat) (hi : i < ks.length) : tw ks (8 * i) 8 = ks.getD i 0 := by
  simp only [tw]
  rw [tbit_at ks i 0 (by omega), tbit_at ks i 1 (by omega), tbit_at ks i 2 (by omega), tbit_at ks i 3 (by omega), tbit_at ks i 4 (by omega), tbit_at ks i 5 (by omega), tbit_at ks i 6 (by omega), tbit_at ks i 7 (by omega)]
  exact bits8 _ (hk _ (Mt.getD_mem ks i hi))

theorem tw_word (ks : List Nat) (hk : ∀ x ∈ ks, x < 256) (i : Nat) (hi : 4 * i + 4 ≤ ks.length) : Mt.numOf [ks.getD (4 * i) 0, ks.getD (4 * i + 1) 0, ks.getD (4 * i + 2) 0, ks.getD (4 * i + 3) 0] = tw ks (32 * i) 32 := by
  rw [show (32 : Nat) = 24 + 8 from rfl, tw_add ks (32 * i) 24 8, show (24 : Nat) = 16 + 8 from rfl, tw_add ks _ 16 8, show (16 : Nat) = 8 + 8 from rfl, tw_add ks _ 8 8]
  have e0 := tw_octet ks hk (4 * i) (by omega)
  have e1 := tw_octet ks hk (4 * i + 1) (by omega)
  have e2 := tw_octet ks hk (4 * i + 2) (by omega)
  have e3 := tw_octet ks hk (4 * i + 3) (by omega)
  rw [show (8 + 8 + 8 + 8) * i = 8 * (4 * i) by omega, show 8 * (4 * i) + 8 = 8 * (4 * i + 1) by omega, show 8 * (4 * i) + (8 + 8) = 8 * (4 * i + 2) by omega, show 8 * (4 * i) + (8 + 8 + 8) = 8 * (4 * i + 3) by omega, e0, e1, e2, e3]
  simp [Mt.numOf]

theorem seg4 (ks : List Nat) (i : Nat) (hi : i + 4 ≤ ks.length) : (ks.drop i).take 4 = [ks.getD i 0, ks.getD (i + 1) 0, ks.getD (i + 2) 0, ks.getD (i + 3) 0] := by
  apply List.ext_getElem
  · simp; omega
  · intro j h1 h2
    simp at h2
    obtain rfl | rfl | rfl | rfl : j = 0 ∨ j = 1 ∨ j = 2 ∨ j = 3 := by omega
    all_goals simp [List.getD_eq_getElem?_getD, List.getElem?_eq_getElem (show i < ks.length by omega), List.getElem?_eq_getElem (show i + 1 < ks.length by omega), List.getElem?_eq_getElem (show i + 2 < ks.length by omega), List.getElem?_eq_getElem (show i + 3 < ks.length by omega)]

theorem or_add (a b s : Nat) (hb : b < 2 ^ s) : a * 2 ^ s ||| b = a * 2 ^ s + b := by
  have := Nat.two_pow_add_eq_or_of_lt hb a
  rw [Nat.mul_comm a]
  exact this.symm

/-- The 32 bits from any place on, out of two words. -/
theorem tw_two (ks : List Nat) (i s : Nat) (hs : s < 32) : (tw ks (32 * i) 32 * 2 ^ s % 2 ^ 32) ||| (tw ks (32 * (i + 1)) 32 / 2 ^ (32 - s)) = tw ks (32 * i + s) 32 := by
  have h1 : tw ks (32 * i) 32 = tw ks (32 * i) s * 2 ^ (32 - s) + tw ks (32 * i + s) (32 - s) := by
    have := tw_add ks (32 * i) s (32 - s)
    rwa [show s + (32 - s) = 32 by omega] at this
  have h2 : tw ks (32 * (i + 1)) 32 = tw ks (32 * (i + 1)) s * 2 ^ (32 - s) + tw ks (32 * (i + 1) + s) (32 - s) := by
    have := tw_add ks (32 * (i + 1)) s (32 - s)
    rwa [show s + (32 - s) = 32 by omega] at this
  have h3 : tw ks (32 * i + s) 32 = tw ks (32 * i + s) (32 - s) * 2 ^ s + tw ks (32 * (i + 1)) s := by
    have := tw_add ks (32 * i + s) (32 - s) s
    rwa [show (32 - s) + s = 32 by omega, show 32 * i + s + (32 - s) = 32 * (i + 1) by omega] at this
  have p1 : (2 : Nat) ^ (32 - s) * 2 ^ s = 2 ^ 32 := by rw [← Nat.pow_add]; congr 1; omega
  have l1 := tw_lt ks (32 * i + s) (32 - s)
  have l2 := tw_lt ks (32 * (i + 1) + s) (32 - s)
  have l3 := tw_lt ks (32 * (i + 1)) s
  have q1 : tw ks (32 * i) 32 * 2 ^ s % 2 ^ 32 = tw ks (32 * i + s) (32 - s) * 2 ^ s := by
    rw [h1, Nat.add_mul, Nat.mul_assoc, p1, Nat.mul_add_mod_self_right, Nat.mod_eq_of_lt]
    rw [← p1]
    exact Nat.mul_lt_mul_of_pos_right l1 (Nat.two_pow_pos s)
  have q2 : tw ks (32 * (i + 1)) 32 / 2 ^ (32 - s) = tw ks (32 * (i + 1)) s := by
    rw [h2, Nat.mul_comm, Nat.mul_add_div (Nat.two_pow_pos _), Nat.div_eq_of_lt l2, Nat.add_zero]
  rw [q1, q2, h3, or_add _ _ _ l3]

/-- The program's test of a bit. -/
theorem bit_test (x b : Nat) (hx : x < 256) (hb : b < 8) : x * 2 ^ b % 256 / 128 = x / 2 ^ (7 - b) % 2 := by
  obtain rfl | rfl | rfl | rfl | rfl | rfl | rfl | rfl : b = 0 ∨ b = 1 ∨ b = 2 ∨ b = 3 ∨ b = 4 ∨ b = 5 ∨ b = 6 ∨ b = 7 := by omega
  all_goals simp; omega

theorem tbit_xor (x y b : Nat) : (x ^^^ y) / 2 ^ b % 2 = (x / 2 ^ b % 2) ^^^ (y / 2 ^ b % 2) := by
  rw [← Nat.shiftRight_eq_div_pow, ← Nat.shiftRight_eq_div_pow, ← Nat.shiftRight_eq_div_pow, Nat.shiftRight_xor_distrib]
  generalize x >>> b = u
  generalize y >>> b = v
  apply Nat.eq_of_testBit_eq
  intro i
  rw [show (2 : Nat) = 2 ^ 1 from rfl, Nat.testBit_xor, Nat.testBit_mod_two_pow, Nat.testBit_mod_two_pow, Nat.testBit_mod_two_pow, Nat.testBit_xor]
  cases decide (i < 1) <;> simp

theorem xor_swap (a b c : Nat) : (a ^^^ b) ^^^ c = (a ^^^ c) ^^^ b := by rw [Nat.xor_assoc, Nat.xor_comm b, ← Nat.xor_assoc]
theorem xor_both (a b c : Nat) : (a ^^^ c) ^^^ (b ^^^ c) = a ^^^ b := by rw [Nat.xor_comm b c, Nat.xor_assoc, ← Nat.xor_assoc c c b, Nat.xor_self, Nat.zero_xor]

/-- The hash is linear. -/
theorem th_xor (ks xs ys zs : List Nat) (m : Nat) (hz : ∀ i, i < m → zs.getD i 0 = xs.getD i 0 ^^^ ys.getD i 0) (n : Nat) (hn : n ≤ 8 * m) : th ks zs n = th ks xs n ^^^ th ks ys n := by
  induction n with
  | zero => simp [th]
  | succ n ih =>
    have ih := ih (by omega)
    have e : tbit zs n = tbit xs n ^^^ tbit ys n := by
      unfold tbit
      rw [hz (n / 8) (by omega), tbit_xor]
    have a := tbit_lt xs n
    have b := tbit_lt ys n
    obtain ha | ha : tbit xs n = 0 ∨ tbit xs n = 1 := by omega
    · obtain hb | hb : tbit ys n = 0 ∨ tbit ys n = 1 := by omega
      · rw [th, th, th, e, ha, hb, ih]; simp
      · rw [th, th, th, e, ha, hb, ih]; simp [Nat.xor_assoc]
    · obtain hb | hb : tbit ys n = 0 ∨ tbit ys n = 1 := by omega
      · rw [th, th, th, e, ha, hb, ih]; simp [xor_swap]
      · rw [th, th, th, e, ha, hb, ih]; simp [xor_both]

/-- The first place below n where P holds. -/
def firstAt (P : Nat → Bool) : Nat → Option Nat
  | 0 => none
  | n + 1 => match firstAt P n with
    | some i => some i
    | none => if P n then some n else none

theorem firstAt_none (P : Nat → Bool) (n : Nat) (h : ∀ j, j < n → P j = false) : firstAt P n = none := by
  induction n with
  | zero => rfl
  | succ n ih => rw [firstAt, ih (fun j hj => h j (by omega)), h n (by omega)]; rfl

theorem firstAt_some (P : Nat → Bool) (n i : Nat) (h : ∀ j, j < i → P j = false) (hi : P i = true) (hn : i < n) : firstAt P n = some i := by
  induction n with
  | zero => omega
  | succ n ih =>
    rw [firstAt]
    by_cases e : i = n
    · subst e; rw [firstAt_none P i h, hi]; rfl
    · rw [ih (by omega)]

theorem firstAt_spec (P : Nat → Bool) (n i : Nat) (h : firstAt P n = some i) : i < n ∧ P i = true := by
  induction n with
  | zero => cases h
  | succ n ih =>
    rw [firstAt] at h
    cases hf : firstAt P n with
    | some k => rw [hf] at h; cases h; have := ih hf; exact ⟨by omega, this.2⟩
    | none =>
      rw [hf] at h
      by_cases hp : P n = true
      · simp [hp] at h; subst h; exact ⟨by omega, hp⟩
      · simp [hp] at h

/-- Addresses and ports as the hash takes them. -/
def tup (src dst sp dp : Nat) : List Nat := Mt.octs src 4 ++ Mt.octs dst 4 ++ Mt.octs sp 2 ++ Mt.octs dp 2

theorem tup_len (src dst sp dp : Nat) : (tup src dst sp dp).length = 12 := by simp [tup, Mt.octs_length]

/-- Port number i from 'frm' on and round. -/
def tport (frm i : Nat) : Nat := 32768 + (frm - 32768 + i) % 32768

/-- Do the answers at port number i come to that shard? -/
def thits (ks : List Nat) (ts : List Int) (loc rem rp : Nat) (shard : Int) (frm i : Nat) : Bool := ts.getD (th ks (tup rem loc rp (tport frm i)) 96 % 128) 0 == shard

end Go.Proofs.Ytokfadlgiimaoaa
