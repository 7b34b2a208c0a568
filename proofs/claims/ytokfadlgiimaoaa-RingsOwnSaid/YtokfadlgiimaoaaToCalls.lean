/- Toeplitz's hash over plain lists: bits, words, and exclusive or. -/
import Derived.Test.YtokfadlgiimaoaaMath
import Derived.Test.YtokfadlgiimaoaaGPut
import Derived.WalkSpells
import Derived.WalkLawsBesides
import Derived.PlainAid
import Derived.WalkSmall
import Derived.LoopN
import Derived.Test.YtokfadlgiimaoaaGInts
namespace Go.Proofs.Ytokfadlgiimaoaa

/-- Bit p of octets, counted from the highest of the first. -/
def tbit (xs : List Nat) (p : Nat) : Nat := xs.getD (p / 8) 0 / 2 ^ (7 - p % 8) % 2

/-- The n bits from p on, as a number. -/
def tw (ks : List Nat) (p : Nat) : Nat → Nat
  | 0 => 0
  | n + 1 => tw ks p n * 2 + tbit ks (p + n)

/-- The hash of the first n bits. -/
def th (ks xs : List Nat) : Nat → Nat
  | 0 => 0
  | n + 1 => if tbit xs n = 1 then th ks xs n ^^^ tw ks n 32 else th ks xs n

theorem tbit_lt (xs : List Nat) (p : Nat) : tbit xs p < 2 := Nat.mod_lt _ (by omega)

theorem tw_lt (ks : List Nat) (p n : Nat) : tw ks p n < 2 ^ n := by
  induction n with
  | zero => simp [tw]
  | succ n ih => have := tbit_lt ks (p + n); rw [tw, Nat.pow_succ]; omega

theorem tw_add (ks : List Nat) (p a b : Nat) : tw ks p (a + b) = tw ks p a * 2 ^ b + tw ks (p + a) b := by
  induction b with
  | zero => simp [tw]
  | succ b ih => rw [← Nat.add_assoc, tw, ih, tw, Nat.pow_succ, Nat.add_assoc p a b, Nat.add_mul, Nat.mul_assoc, Nat.add_assoc]

theorem th_lt (ks xs : List Nat) (n : Nat) : th ks xs n < 4294967296 := by
  induction n with
  | zero => simp [th]
  | succ n ih =>
    rw [th]
    split
    · exact Nat.xor_lt_two_pow (n := 32) ih (tw_lt ks n 32)
    · exact ih

theorem tbit_at (xs : List Nat) (i b : Nat) (hb : b < 8) : tbit xs (8 * i + b) = xs.getD i 0 / 2 ^ (7 - b) % 2 := by
  unfold tbit
  rw [show (8 * i + b) / 8 = i by omega, show (8 * i + b) % 8 = b by omega]

theorem bits8 (x : Nat) (hx : x < 256) : ((((((((0 * 2 + x / 128 % 2) * 2 + x / 64 % 2) * 2 + x / 32 % 2) * 2 + x / 16 % 2) * 2 + x / 8 % 2) * 2 + x / 4 % 2) * 2 + x / 2 % 2) * 2 + x / 1 % 2) = x := by omega

theorem tw_octet (ks : List Nat) (hk : ∀ x ∈ ks, x < 256) (i : Nat) (hi : i < ks.length) : tw ks (8 * i) 8 = ks.getD i 0 := by
  simp only [tw]
  rw [tbit_at ks i 0 (by omega), tbit_at ks i 1 (by omega), tbit_at ks i 2 (by omega), tbit_at ks i 3 (by omega), tbit_at ks i 4 (by omega), tbit_at ks i 5 (by omega), tbit_at ks i 6 (by omega), tbit_at ks i 7 (by omega)]
  exact bits8 _ (hk _ (Mt.getD_mem ks i hi))

theorem tw_word (ks : List Nat) (hk : ∀ x ∈ ks, x < 256) (i : Nat) (hi : 4 * i + 4 ≤ ks.length) : Mt.numOf [ks.getD (4 * i) 0, ks.getD (4 * i + 1) 0, ks.getD (4 * i + 2) 0, ks.getD (4 * i + 3) 0] = tw ks (32 * i) 32 := by
  rw [show (32 : Nat) = 24 + 8 from rfl, tw_add ks (32 * i) 24 8, show (24 : Nat) = 16 + 8 from rfl, tw_add ks _ 16 8, show (16 : Nat) = 8 + 8 from rfl, tw_add ks _ 8 8]
  have e0 := tw_octet ks hk (4 * i) (by omega)
  have e1 := tw_octet ks hk (4 * i + 1) (by omega)
  have e2 := tw_octet ks hk (4 * i + 2) (by omega)
  have e3 := tw_octet ks hk (4 * i + 3) (by omega)
  rw [show (8 + 8 + 8 + 8) * i = 8 * (4 * i) by omega, show 8 * (4 * i) + 8 = 8 * (4 * i + 1) by omega, show 8 * (4 * i) + (8 + 8) = 8 * (4 * i + 2) by omega, show 8 * (4 * i) + (8 + 8 + 8) = 8 * (4 * i + 3) by omega, e0, e1, e2, e3]
  simp [Mt.numOf]

theorem seg4 (ks : List Nat) (i : Nat) (hi : i + 4 ≤ ks.length) : (ks.drop i).take 4 = [ks.getD i 0, ks.getD (i + 1) 0, ks.getD (i + 2) 0, ks.getD (i + 3) 0] := by
  apply List.ext_getElem
  · simp; omega
  · intro j h1 h2
    simp at h2
    obtain rfl | rfl | rfl | rfl : j = 0 ∨ j = 1 ∨ j = 2 ∨ j = 3 := by omega
    all_goals simp [List.getD_eq_getElem?_getD, List.getElem?_eq_getElem (show i < ks.length by omega), List.getElem?_eq_getElem (show i + 1 < ks.length by omega), List.getElem?_eq_getElem (show i + 2 < ks.length by omega), List.getElem?_eq_getElem (show i + 3 < ks.length by omega)]

theorem or_add (a b s : Nat) (hb : b < 2 ^ s) : a * 2 ^ s ||| b = a * 2 ^ s + b := by
  have := Nat.two_pow_add_eq_or_of_lt hb a
  rw [Nat.mul_comm a]
  exact this.symm

/-- The 32 bits from any place on, out of two words. -/
theorem tw_two (ks : List Nat) (i s : Nat) (hs : s < 32) : (tw ks (32 * i) 32 * 2 ^ s % 2 ^ 32) ||| (tw ks (32 * (i + 1)) 32 / 2 ^ (32 - s)) = tw ks (32 * i + s) 32 := by
  have h1 : tw ks (32 * i) 32 = tw ks (32 * i) s * 2 ^ (32 - s) + tw ks (32 * i + s) (32 - s) := by
    have := tw_add ks (32 * i) s (32 - s)
    rwa [show s + (32 - s) = 32 by omega] at this
  have h2 : tw ks (32 * (i + 1)) 32 = tw ks (32 * (i + 1)) s * 2 ^ (32 - s) + tw ks (32 * (i + 1) + s) (32 - s) := by
    have := tw_add ks (32 * (i + 1)) s (32 - s)
    rwa [show s + (32 - s) = 32 by omega] at this
  have h3 : tw ks (32 * i + s) 32 = tw ks (32 * i + s) (32 - s) * 2 ^ s + tw ks (32 * (i + 1)) s := by
    have := tw_add ks (32 * i + s) (32 - s) s
    rwa [show (32 - s) + s = 32 by omega, show 32 * i + s + (32 - s) = 32 * (i + 1) by omega] at this
  have p1 : (2 : Nat) ^ (32 - s) * 2 ^ s = 2 ^ 32 := by rw [← Nat.pow_add]; congr 1; omega
  have l1 := tw_lt ks (32 * i + s) (32 - s)
  have l2 := tw_lt ks (32 * (i + 1) + s) (32 - s)
  have l3 := tw_lt ks (32 * (i + 1)) s
  have q1 : tw ks (32 * i) 32 * 2 ^ s % 2 ^ 32 = tw ks (32 * i + s) (32 - s) * 2 ^ s := by
    rw [h1, Nat.add_mul, Nat.mul_assoc, p1, Nat.mul_add_mod_self_right, Nat.mod_eq_of_lt]
    rw [← p1]
    exact Nat.mul_lt_mul_of_pos_right l1 (Nat.two_pow_pos s)
  have q2 : tw ks (32 * (i + 1)) 32 / 2 ^ (32 - s) = tw ks (32 * (i + 1)) s := by
    rw [h2, Nat.mul_comm, Nat.mul_add_div (Nat.two_pow_pos _), Nat.div_eq_of_lt l2, Nat.add_zero]
  rw [q1, q2, h3, or_add _ _ _ l3]

/-- The program's test of a bit. -/
theorem bit_test (x b : Nat) (hx : x < 256) (hb : b < 8) : x * 2 ^ b % 256 / 128 = x / 2 ^ (7 - b) % 2 := by
  obtain rfl | rfl | rfl | rfl | rfl | rfl | rfl | rfl : b = 0 ∨ b = 1 ∨ b = 2 ∨ b = 3 ∨ b = 4 ∨ b = 5 ∨ b = 6 ∨ b = 7 := by omega
  all_goals simp; omega

theorem tbit_xor (x y b : Nat) : (x ^^^ y) / 2 ^ b % 2 = (x / 2 ^ b % 2) ^^^ (y / 2 ^ b % 2) := by
  rw [← Nat.shiftRight_eq_div_pow, ← Nat.shiftRight_eq_div_pow, ← Nat.shiftRight_eq_div_pow, Nat.shiftRight_xor_distrib]
  generalize x >>> b = u
  generalize y >>> b = v
  apply Nat.eq_of_testBit_eq
  intro i
  rw [show (2 : Nat) = 2 ^ 1 from rfl, Nat.testBit_xor, Nat.testBit_mod_two_pow, Nat.testBit_mod_two_pow, Nat.testBit_mod_two_pow, Nat.testBit_xor]
  cases decide (i < 1) <;> simp

theorem xor_swap (a b c : Nat) : (a ^^^ b) ^^^ c = (a ^^^ c) ^^^ b := by rw [Nat.xor_assoc, Nat.xor_comm b, ← Nat.xor_assoc]
theorem xor_both (a b c : Nat) : (a ^^^ c) ^^^ (b ^^^ c) = a ^^^ b := by rw [Nat.xor_comm b c, Nat.xor_assoc, ← Nat.xor_assoc c c b, Nat.xor_self, Nat.zero_xor]

/-- The hash is linear. -/
theorem th_xor (ks xs ys zs : List Nat) (m : Nat) (hz : ∀ i, i < m → zs.getD i 0 = xs.getD i 0 ^^^ ys.getD i 0) (n : Nat) (hn : n ≤ 8 * m) : th ks zs n = th ks xs n ^^^ th ks ys n := by
  induction n with
  | zero => simp [th]
  | succ n ih =>
    have ih := ih (by omega)
    have e : tbit zs n = tbit xs n ^^^ tbit ys n := by
      unfold tbit
      rw [hz (n / 8) (by omega), tbit_xor]
    have a := tbit_lt xs n
    have b := tbit_lt ys n
    obtain ha | ha : tbit xs n = 0 ∨ tbit xs n = 1 := by omega
    · obtain hb | hb : tbit ys n = 0 ∨ tbit ys n = 1 := by omega
      · rw [th, th, th, e, ha, hb, ih]; simp
      · rw [th, th, th, e, ha, hb, ih]; simp [Nat.xor_assoc]
    · obtain hb | hb : tbit ys n = 0 ∨ tbit ys n = 1 := by omega
      · rw [th, th, th, e, ha, hb, ih]; simp [xor_swap]
      · rw [th, th, th, e, ha, hb, ih]; simp [xor_both]

/-- The first place below n where P holds. -/
def firstAt (P : Nat → Bool) : Nat → Option Nat
  | 0 => none
  | n + 1 => match firstAt P n with
    | some i => some i
    | none => if P n then some n else none

theorem firstAt_none (P : Nat → Bool) (n : Nat) (h : ∀ j, j < n → P j = false) : firstAt P n = none := by
  induction n with
  | zero => rfl
  | succ n ih => rw [firstAt, ih (fun j hj => h j (by omega)), h n (by omega)]; rfl

theorem firstAt_some (P : Nat → Bool) (n i : Nat) (h : ∀ j, j < i → P j = false) (hi : P i = true) (hn : i < n) : firstAt P n = some i := by
  induction n with
  | zero => omega
  | succ n ih =>
    rw [firstAt]
    by_cases e : i = n
    · subst e; rw [firstAt_none P i h, hi]; rfl
    · rw [ih (by omega)]

theorem firstAt_spec (P : Nat → Bool) (n i : Nat) (h : firstAt P n = some i) : i < n ∧ P i = true := by
  induction n with
  | zero => cases h
  | succ n ih =>
    rw [firstAt] at h
    cases hf : firstAt P n with
    | some k => rw [hf] at h; cases h; have := ih hf; exact ⟨by omega, this.2⟩
    | none =>
      rw [hf] at h
      by_cases hp : P n = true
      · simp [hp] at h; subst h; exact ⟨by omega, hp⟩
      · simp [hp] at h

/-- Addresses and ports as the hash takes them. -/
def tup (src dst sp dp : Nat) : List Nat := Mt.octs src 4 ++ Mt.octs dst 4 ++ Mt.octs sp 2 ++ Mt.octs dp 2

theorem tup_len (src dst sp dp : Nat) : (tup src dst sp dp).length = 12 := by simp [tup, Mt.octs_length]

/-- Port number i from 'frm' on and round. -/
def tport (frm i : Nat) : Nat := 32768 + (frm - 32768 + i) % 32768

/-- Do the answers at port number i come to that shard? -/
def thits (ks : List Nat) (ts : List Int) (loc rem rp : Nat) (shard : Int) (frm i : Nat) : Bool := ts.getD (th ks (tup rem loc rp (tport frm i)) 96 % 128) 0 == shard

end Go.Proofs.Ytokfadlgiimaoaa

namespace Go.Proofs.Ytokfadlgiimaoaa
open Go.RowKit

/-- A key's words. -/
def toW (ks : List Nat) : Array Value := #[.int .u32 (tw ks 0 32 : Nat), .int .u32 (tw ks 32 32 : Nat), .int .u32 (tw ks 64 32 : Nat), .int .u32 (tw ks 96 32 : Nat), .int .u32 (tw ks 128 32 : Nat), .int .u32 (tw ks 160 32 : Nat), .int .u32 (tw ks 192 32 : Nat), .int .u32 (tw ks 224 32 : Nat), .int .u32 (tw ks 256 32 : Nat), .int .u32 (tw ks 288 32 : Nat)]

theorem toW_get (ks : List Nat) (i : Nat) (hi : i < 10) : (toW ks)[i]? = some (.int .u32 (tw ks (32 * i) 32 : Nat)) := by
  obtain rfl | rfl | rfl | rfl | rfl | rfl | rfl | rfl | rfl | rfl : i = 0 ∨ i = 1 ∨ i = 2 ∨ i = 3 ∨ i = 4 ∨ i = 5 ∨ i = 6 ∨ i = 7 ∨ i = 8 ∨ i = 9 := by omega
  all_goals rfl

theorem u32_or (x y : Nat) (hx : x < 4294967296) (hy : y < 4294967296) : bits .or .u32 (x : Int) (y : Int) = ((x ||| y : Nat) : Int) := u32_or_nat x y hx hy

set_option maxRecDepth 100000 in
set_option maxHeartbeats 1000000 in
theorem from_any (ks : List Nat) (p : Nat) (hp : p < 288) (w : World) :
    Calls Try.prog 63 #[.agg (toW ks), .int .i64 p] w fun e w' => e = .returned (.int .u32 (tw ks p 32 : Nat)) ∧ Below w.heap.size w w' := by
  obtain ⟨i, hi⟩ : ∃ i, p / 32 = i := ⟨_, rfl⟩
  obtain ⟨s, hs⟩ : ∃ s, p % 32 = s := ⟨_, rfl⟩
  have hi9 : i < 9 := by omega
  have hs32 : s < 32 := by omega
  have hd : (p : Int) / 32 = (i : Int) := by omega
  have hm : (p : Int) % 32 = (s : Int) := by omega
  have c1 : (w.alloc (.cells (toW ks) 100)).cell? ⟨w.heap.size, i, none⟩ = some (.int .u32 (tw ks (32 * i) 32 : Nat)) := by rw [World.cell?_alloc_new]; exact toW_get ks i (by omega)
  have c2 : (w.alloc (.cells (toW ks) 100)).cell? ⟨w.heap.size, i + 1, none⟩ = some (.int .u32 (tw ks (32 * (i + 1)) 32 : Nat)) := by rw [World.cell?_alloc_new]; exact toW_get ks (i + 1) (by omega)
  have b := (Below.refl w.heap.size w).alloc (Nat.le_refl _) (.cells (toW ks) 100)
  have key := tw_two ks i s hs32
  rw [show 32 * i + s = p by omega] at key
  have lA := tw_lt ks (32 * i) 32
  have lB := tw_lt ks (32 * (i + 1)) 32
  go_enter Try.func63, Try.ntmps63
  go_wp2_with fail
  generalize w.alloc (.cells (toW ks) 100) = W at c1 c2 b ⊢
  generalize tw ks (32 * i) 32 = A at c1 key lA
  generalize tw ks (32 * (i + 1)) 32 = B at c2 key lB
  have e1 : (A : Int) * 2 ^ s % 4294967296 = ((A * 2 ^ s % 2 ^ 32 : Nat) : Int) := by simp
  have e2 : (B : Int) / 2 ^ (32 - s) = ((B / 2 ^ (32 - s) : Nat) : Int) := by simp
  have lC : A * 2 ^ s % 2 ^ 32 < 4294967296 := Nat.mod_lt _ (by decide)
  have lD : B / 2 ^ (32 - s) < 4294967296 := Nat.lt_of_le_of_lt (Nat.div_le_self _ _) lB
  have e3 := u32_or _ _ lC lD
  rw [key] at e3
  generalize A * 2 ^ s % 2 ^ 32 = C at e1 e3
  generalize B / 2 ^ (32 - s) = D at e2 e3
  clear key lA lB lC lD hi hs hp
  have n1 : ¬ ((s : Int) < 0) := by omega
  have n2 : ¬ (32 - (s : Int) < 0) := by omega
  simp only [hm]
  go_quiet (fail)
  go_wp2
  go_ret
  exact ⟨rfl, below_drewN b _⟩

/-- The words of the first k places, zeros behind. -/
def toWk (ks : List Nat) (k : Nat) : List Value := (List.range 10).map fun j => .int .u32 ((if j < k then tw ks (32 * j) 32 else 0 : Nat) : Int)

theorem toWk_set (ks : List Nat) (k : Nat) (hk : k < 10) : (toWk ks k).set k (.int .u32 (tw ks (32 * k) 32 : Nat)) = toWk ks (k + 1) := by
  apply List.ext_getElem
  · simp [toWk]
  · intro i h1 h2
    rw [List.getElem_set]
    simp only [toWk, List.getElem_map, List.getElem_range]
    split
    · subst k; rw [if_pos (by omega)]
    · by_cases h : i < k
      · rw [if_pos h, if_pos (by omega)]
      · rw [if_neg h, if_neg (by omega)]

theorem blk_word {W : World} {g : Nat} {ks : List Nat} {t : TypeId} (k : Nat) (h : W.heap[g]? = some (.cells (toWk ks k).toArray t (0, 0))) (hk : k < 10) :
    (W.setCell ⟨g, k, none⟩ (.int .u32 (tw ks (32 * k) 32 : Nat))).heap[g]? = some (.cells (toWk ks (k + 1)).toArray t (0, 0)) := by
  rw [blk_set h k]
  rw [← toWk_set ks k hk]
  simp

theorem toWk_all (ks : List Nat) : (toWk ks 10).toArray = toW ks := rfl

set_option maxRecDepth 100000 in
set_option maxHeartbeats 1000000 in
theorem wordsOf_any (b off cap : Nat) (ks : List Nat) (w : World) (hx : Bts w (some ⟨b, off, none⟩) ks) (hl : ks.length = 40) (hc : 40 ≤ cap) (hm : cap ≤ 9223372036854775807) :
    Calls Try.prog 56 #[.slice (some ⟨b, off, none⟩) 40 cap] w fun e w' => e = .returned (.agg (toW ks)) ∧ Below w.heap.size w w' := by
  have g : ∀ k c W, k < 10 → Below w.heap.size w W → Calls Try.prog 41 #[.slice (some ⟨b, off + k * 4, none⟩) 4 c] W fun e w' => e = .returned (.tuple #[.int .u64 (tw ks (32 * k) 32 : Nat), .int .i64 0]) ∧ W = w' := fun k c W hk hb => by
    have hs : seg ks (k * 4) 4 = [ks.getD (4 * k) 0, ks.getD (4 * k + 1) 0, ks.getD (4 * k + 2) 0, ks.getD (4 * k + 3) 0] := by
      rw [Nat.mul_comm k 4]; exact seg4 ks (4 * k) (by omega)
    have h1 := get_ok (some ⟨b, off + k * 4, none⟩) (seg ks (k * 4) 4) c W ((hx.below hb).segOf (k * 4) 4 (by omega)) (by rw [hs]; simp) (by rw [hs]; simp)
    rw [seg_length _ _ _ (by omega), hs, tw_word ks hx.1 k (by omega)] at h1
    exact h1
  have G := Lib.hid g
  clear hx g
  have b1 := ((Below.refl w.heap.size w).alloc (Nat.le_refl _) (.cells (toWk ks 0).toArray 100)).alloc (by simp) (.cells (toWk ks 0).toArray 100)
  have k0 := blk_new (w.alloc (.cells (toWk ks 0).toArray 100)) (.cells (toWk ks 0).toArray 100)
  have s0 : w.heap.size + 1 < ((w.alloc (.cells (toWk ks 0).toArray 100)).alloc (.cells (toWk ks 0).toArray 100)).heap.size := by simp
  have k1 := (Below.heap_alloc (w.alloc (.cells (toWk ks 0).toArray 100)) (.cells (toWk ks 0).toArray 100) w.heap.size (by simp)).trans (blk_new w (.cells (toWk ks 0).toArray 100))
  rw [World.size_alloc] at k0
  go_enter Try.func56, Try.ntmps56
  go_wp2_with fail
  have hz : (#[Value.int IntKind.u32 0, Value.int IntKind.u32 0, Value.int IntKind.u32 0, Value.int IntKind.u32 0, Value.int IntKind.u32 0, Value.int IntKind.u32 0, Value.int IntKind.u32 0, Value.int IntKind.u32 0, Value.int IntKind.u32 0, Value.int IntKind.u32 0] : Array Value) = (toWk ks 0).toArray := rfl
  rw [hz]
  generalize (w.alloc (.cells (toWk ks 0).toArray 100)).alloc (.cells (toWk ks 0).toArray 100) = W0 at b1 k0 k1 s0 ⊢
  go_loopw [7, 4, 5, 6] (fun c _ _ _ wr => ∃ k : Nat, k ≤ 10 ∧ c = .int .i64 k ∧ wr.heap[w.heap.size + 1]? = some (.cells (toWk ks k).toArray 100 (0, 0)) ∧ wr.heap[w.heap.size]? = some (.cells (toWk ks 0).toArray 100 (0, 0)) ∧ w.heap.size + 1 < wr.heap.size ∧ Below w.heap.size w wr) (fun c _ _ _ _ => 10 - (intOf c).toNat)
  case atStart => exact ⟨0, by omega, rfl, k0, k1, s0, b1⟩
  case round =>
    obtain ⟨k, hk, rfl, kB, kA, hs, hb⟩ := hrel
    have KB := Lib.hid kB
    have KA := Lib.hid kA
    clear kA kB k0 k1 s0 b1
    by_cases hlt : k < 10
    · have hG := fun c => G.out k c wr hlt hb
      have hcB : wr.cell? ⟨w.heap.size + 1, k, none⟩ = some (.int .u32 0) := by
        rw [blk_cell KB.out k]
        simp [toWk, hlt]
      have hfB := blk_free KB.out k
      have hset := blk_set KB.out k (.int .u32 (tw ks (32 * k) 32 : Nat))
      have hoth := blk_other KA.out (g' := w.heap.size + 1) (i := k) (by omega) (.int .u32 (tw ks (32 * k) 32 : Nat))
      have hbs := hb.setCell (p := ⟨w.heap.size + 1, k, none⟩) (Nat.le_succ _) (.int .u32 (tw ks (32 * k) 32 : Nat))
      have hsz : (wr.setCell ⟨w.heap.size + 1, k, none⟩ (.int .u32 (tw ks (32 * k) 32 : Nat))).heap.size = wr.heap.size := by simp
      have e : ((toWk ks k).toArray.setIfInBounds k (.int .u32 (tw ks (32 * k) 32 : Nat))) = (toWk ks (k + 1)).toArray := by
        rw [← toWk_set ks k hlt]; simp
      rw [e] at hset
      have hwr : IntKind.u32.wrap ((tw ks (32 * k) 32 : Nat) : Int) = ((tw ks (32 * k) 32 : Nat) : Int) := by
        rw [IntKind.wrap_u32]; have := tw_lt ks (32 * k) 32; omega
      have HG := Lib.hid hG
      have HS := Lib.hid hset
      have HT := Lib.hid hoth
      clear hG hset hoth e G KA KB
      generalize tw ks (32 * k) 32 = v at hwr HG HS HT hbs hsz
      have e4 : (k + 1) * 4 - k * 4 = 4 := by omega
      go_wp2_with fail
      rw [e4]
      refine (HG.out _).mono ?_
      rintro e w' ⟨rfl, rfl⟩
      go_wp2
      go_roundw
      case rel => exact ⟨k + 1, by omega, by go_num, HS.out, HT.out, by rw [hsz]; exact hs, hbs⟩
      case measure => simp [intOf]; omega
    · obtain rfl : k = 10 := by omega
      have hA := KA.out
      have hB := KB.out
      rw [toWk_all] at hB
      have cB0 : wr.cell? ⟨w.heap.size + 1, 0, none⟩ = some (.int .u32 (tw ks 0 32 : Nat)) := by rw [blk_cell hB 0]; rfl
      have cA0 : wr.cell? ⟨w.heap.size, 0, none⟩ = some (.int .u32 0) := by rw [blk_cell hA 0]; rfl
      have fA0 := blk_free hA 0
      have cB1 : wr.cell? ⟨w.heap.size + 1, 1, none⟩ = some (.int .u32 (tw ks 32 32 : Nat)) := by rw [blk_cell hB 1]; rfl
      have cA1 : wr.cell? ⟨w.heap.size, 1, none⟩ = some (.int .u32 0) := by rw [blk_cell hA 1]; rfl
      have fA1 := blk_free hA 1
      have cB2 : wr.cell? ⟨w.heap.size + 1, 2, none⟩ = some (.int .u32 (tw ks 64 32 : Nat)) := by rw [blk_cell hB 2]; rfl
      have cA2 : wr.cell? ⟨w.heap.size, 2, none⟩ = some (.int .u32 0) := by rw [blk_cell hA 2]; rfl
      have fA2 := blk_free hA 2
      have cB3 : wr.cell? ⟨w.heap.size + 1, 3, none⟩ = some (.int .u32 (tw ks 96 32 : Nat)) := by rw [blk_cell hB 3]; rfl
      have cA3 : wr.cell? ⟨w.heap.size, 3, none⟩ = some (.int .u32 0) := by rw [blk_cell hA 3]; rfl
      have fA3 := blk_free hA 3
      have cB4 : wr.cell? ⟨w.heap.size + 1, 4, none⟩ = some (.int .u32 (tw ks 128 32 : Nat)) := by rw [blk_cell hB 4]; rfl
      have cA4 : wr.cell? ⟨w.heap.size, 4, none⟩ = some (.int .u32 0) := by rw [blk_cell hA 4]; rfl
      have fA4 := blk_free hA 4
      have cB5 : wr.cell? ⟨w.heap.size + 1, 5, none⟩ = some (.int .u32 (tw ks 160 32 : Nat)) := by rw [blk_cell hB 5]; rfl
      have cA5 : wr.cell? ⟨w.heap.size, 5, none⟩ = some (.int .u32 0) := by rw [blk_cell hA 5]; rfl
      have fA5 := blk_free hA 5
      have cB6 : wr.cell? ⟨w.heap.size + 1, 6, none⟩ = some (.int .u32 (tw ks 192 32 : Nat)) := by rw [blk_cell hB 6]; rfl
      have cA6 : wr.cell? ⟨w.heap.size, 6, none⟩ = some (.int .u32 0) := by rw [blk_cell hA 6]; rfl
      have fA6 := blk_free hA 6
      have cB7 : wr.cell? ⟨w.heap.size + 1, 7, none⟩ = some (.int .u32 (tw ks 224 32 : Nat)) := by rw [blk_cell hB 7]; rfl
      have cA7 : wr.cell? ⟨w.heap.size, 7, none⟩ = some (.int .u32 0) := by rw [blk_cell hA 7]; rfl
      have fA7 := blk_free hA 7
      have cB8 : wr.cell? ⟨w.heap.size + 1, 8, none⟩ = some (.int .u32 (tw ks 256 32 : Nat)) := by rw [blk_cell hB 8]; rfl
      have cA8 : wr.cell? ⟨w.heap.size, 8, none⟩ = some (.int .u32 0) := by rw [blk_cell hA 8]; rfl
      have fA8 := blk_free hA 8
      have cB9 : wr.cell? ⟨w.heap.size + 1, 9, none⟩ = some (.int .u32 (tw ks 288 32 : Nat)) := by rw [blk_cell hB 9]; rfl
      have cA9 : wr.cell? ⟨w.heap.size, 9, none⟩ = some (.int .u32 0) := by rw [blk_cell hA 9]; rfl
      have fA9 := blk_free hA 9
      have hb9 := Lib.hid (((((((((((hb).setCell (p := ⟨w.heap.size, 0, none⟩) (Nat.le_refl _) (.int .u32 (tw ks 0 32 : Nat))).setCell (p := ⟨w.heap.size, 1, none⟩) (Nat.le_refl _) (.int .u32 (tw ks 32 32 : Nat))).setCell (p := ⟨w.heap.size, 2, none⟩) (Nat.le_refl _) (.int .u32 (tw ks 64 32 : Nat))).setCell (p := ⟨w.heap.size, 3, none⟩) (Nat.le_refl _) (.int .u32 (tw ks 96 32 : Nat))).setCell (p := ⟨w.heap.size, 4, none⟩) (Nat.le_refl _) (.int .u32 (tw ks 128 32 : Nat))).setCell (p := ⟨w.heap.size, 5, none⟩) (Nat.le_refl _) (.int .u32 (tw ks 160 32 : Nat))).setCell (p := ⟨w.heap.size, 6, none⟩) (Nat.le_refl _) (.int .u32 (tw ks 192 32 : Nat))).setCell (p := ⟨w.heap.size, 7, none⟩) (Nat.le_refl _) (.int .u32 (tw ks 224 32 : Nat))).setCell (p := ⟨w.heap.size, 8, none⟩) (Nat.le_refl _) (.int .u32 (tw ks 256 32 : Nat))).setCell (p := ⟨w.heap.size, 9, none⟩) (Nat.le_refl _) (.int .u32 (tw ks 288 32 : Nat)))
      have s1 := blk_word 0 hA (by omega)
      have s2 := blk_word 1 s1 (by omega)
      have s3 := blk_word 2 s2 (by omega)
      have s4 := blk_word 3 s3 (by omega)
      have s5 := blk_word 4 s4 (by omega)
      have s6 := blk_word 5 s5 (by omega)
      have s7 := blk_word 6 s6 (by omega)
      have s8 := blk_word 7 s7 (by omega)
      have s9 := blk_word 8 s8 (by omega)
      have s10 := blk_word 9 s9 (by omega)
      simp only [Nat.reduceMul, Nat.reduceAdd] at s10
      rw [toWk_all] at s10
      have hA9 := Lib.hid s10
      clear s1 s2 s3 s4 s5 s6 s7 s8 s9 s10
      clear hA hB KA KB hb G hz
      go_wp2_with fail
      generalize ((((((((((wr.setCell ⟨w.heap.size, 0, none⟩ (.int .u32 (tw ks 0 32 : Nat))).setCell ⟨w.heap.size, 1, none⟩ (.int .u32 (tw ks 32 32 : Nat))).setCell ⟨w.heap.size, 2, none⟩ (.int .u32 (tw ks 64 32 : Nat))).setCell ⟨w.heap.size, 3, none⟩ (.int .u32 (tw ks 96 32 : Nat))).setCell ⟨w.heap.size, 4, none⟩ (.int .u32 (tw ks 128 32 : Nat))).setCell ⟨w.heap.size, 5, none⟩ (.int .u32 (tw ks 160 32 : Nat))).setCell ⟨w.heap.size, 6, none⟩ (.int .u32 (tw ks 192 32 : Nat))).setCell ⟨w.heap.size, 7, none⟩ (.int .u32 (tw ks 224 32 : Nat))).setCell ⟨w.heap.size, 8, none⟩ (.int .u32 (tw ks 256 32 : Nat))).setCell ⟨w.heap.size, 9, none⟩ (.int .u32 (tw ks 288 32 : Nat))) = W9 at hb9 hA9 ⊢
      have r := hA9.out
      have r0 : W9.cell? ⟨w.heap.size, 0, none⟩ = some (.int .u32 (tw ks 0 32 : Nat)) := by rw [blk_cell r 0]; rfl
      have r1 : W9.cell? ⟨w.heap.size, 1, none⟩ = some (.int .u32 (tw ks 32 32 : Nat)) := by rw [blk_cell r 1]; rfl
      have r2 : W9.cell? ⟨w.heap.size, 2, none⟩ = some (.int .u32 (tw ks 64 32 : Nat)) := by rw [blk_cell r 2]; rfl
      have r3 : W9.cell? ⟨w.heap.size, 3, none⟩ = some (.int .u32 (tw ks 96 32 : Nat)) := by rw [blk_cell r 3]; rfl
      have r4 : W9.cell? ⟨w.heap.size, 4, none⟩ = some (.int .u32 (tw ks 128 32 : Nat)) := by rw [blk_cell r 4]; rfl
      have r5 : W9.cell? ⟨w.heap.size, 5, none⟩ = some (.int .u32 (tw ks 160 32 : Nat)) := by rw [blk_cell r 5]; rfl
      have r6 : W9.cell? ⟨w.heap.size, 6, none⟩ = some (.int .u32 (tw ks 192 32 : Nat)) := by rw [blk_cell r 6]; rfl
      have r7 : W9.cell? ⟨w.heap.size, 7, none⟩ = some (.int .u32 (tw ks 224 32 : Nat)) := by rw [blk_cell r 7]; rfl
      have r8 : W9.cell? ⟨w.heap.size, 8, none⟩ = some (.int .u32 (tw ks 256 32 : Nat)) := by rw [blk_cell r 8]; rfl
      have r9 : W9.cell? ⟨w.heap.size, 9, none⟩ = some (.int .u32 (tw ks 288 32 : Nat)) := by rw [blk_cell r 9]; rfl
      clear r
      clear hA9
      refine bodyPost_ret_by (v := .agg (toW ks)) ?_ rfl ⟨rfl, hb9.out⟩
      unfold toW
      simp only [results, Try.f56]
      go_simp

set_option maxRecDepth 100000 in
set_option maxHeartbeats 1000000 in
theorem hash_any (a : Option Addr) (xs : List Nat) (cap : Nat) (ks : List Nat) (w : World) (hx : Bts w a xs) (hl : xs.length ≤ 36) :
    Calls Try.prog 57 #[.agg (toW ks), .slice a xs.length cap] w fun e w' => e = .returned (.int .u32 (th ks xs (8 * xs.length) : Nat)) ∧ Below w.heap.size w w' := by
  have k0 := blk_new w (.cells (toW ks) 100)
  have b0 := (Below.refl w.heap.size w).alloc (Nat.le_refl _) (.cells (toW ks) 100)
  have sz : w.heap.size < (w.alloc (.cells (toW ks) 100)).heap.size := by simp
  have X0 := Lib.hid (hx.below b0)
  clear hx
  go_enter Try.func57, Try.ntmps57
  go_wp2_with fail
  generalize w.alloc (.cells (toW ks) 100) = W0 at k0 b0 sz X0 ⊢
  have K0 := Lib.hid k0
  clear k0
  go_loopw [5, 11, 6, 7, 8] (fun s i _ _ _ wr => ∃ k : Nat, k ≤ xs.length ∧ i = .int .i64 k ∧ s = .int .u32 (th ks xs (8 * k) : Nat) ∧ Below W0.heap.size W0 wr) (fun _ i _ _ _ _ => xs.length - (intOf i).toNat)
  case atStart => exact ⟨0, by omega, rfl, rfl, Below.refl _ _⟩
  case round =>
    obtain ⟨k, hk, rfl, rfl, hb⟩ := hrel
    by_cases hlt : k < xs.length
    · obtain ⟨b, off, rfl, hbl, hcell⟩ := (X0.out.below hb).isSome (by omega)
      have hc := hcell k hlt
      have hx1 := X0.out.1 _ (Mt.getD_mem xs k hlt)
      have tb := fun j hj => tbit_at xs k j hj
      generalize xs.getD k 0 = x at hc hx1 tb
      have TB := Lib.hid tb
      clear hcell tb
      go_wp2_with fail
      go_loopw [5, 16, 8] (fun s i _ w2 => ∃ j : Nat, j ≤ 8 ∧ i = .int .i64 j ∧ s = .int .u32 (th ks xs (8 * k + j) : Nat) ∧ Below W0.heap.size W0 w2) (fun _ i _ _ => 8 - (intOf i).toNat)
      case atStart => exact ⟨0, by omega, rfl, rfl, hb⟩
      case round =>
        obtain ⟨j, hj, rfl, rfl, hb2⟩ := hrel
        by_cases hj8 : j < 8
        · have E0 := TB.out j hj8
          have E1 := bit_test x j hx1 hj8
          rw [← E0] at E1
          have E2 : (x : Int) * 2 ^ j % 256 / 128 = ((tbit xs (8 * k + j) : Nat) : Int) := by rw [← E1]; simp
          have nj : ¬ ((j : Int) < 0) := by omega
          have hth : th ks xs (8 * k + (j + 1)) = if tbit xs (8 * k + j) = 1 then th ks xs (8 * k + j) ^^^ tw ks (8 * k + j) 32 else th ks xs (8 * k + j) := rfl
          have l1 := th_lt ks xs (8 * k + j)
          have l2 := tw_lt ks (8 * k + j) 32
          have htl := tbit_lt xs (8 * k + j)
          have F : ∀ W, Calls Try.prog 63 #[.agg (toW ks), .int .i64 ((k : Int) * 8 + (j : Int))] W fun e w' => e = .returned (.int .u32 (tw ks (8 * k + j) 32 : Nat)) ∧ Below W.heap.size W w' := fun W => by
            have h := from_any ks (8 * k + j) (by omega) W
            rwa [show ((8 * k + j : Nat) : Int) = (k : Int) * 8 + (j : Int) by omega] at h
          have HF := Lib.hid F
          have HT := Lib.hid hth
          have k2 := (hb2.block _ sz).trans K0.out
          have r0 : wr.cell? ⟨w.heap.size, 0, none⟩ = some (.int .u32 (tw ks 0 32 : Nat)) := by rw [blk_cell k2 0]; rfl
          have r1 : wr.cell? ⟨w.heap.size, 1, none⟩ = some (.int .u32 (tw ks 32 32 : Nat)) := by rw [blk_cell k2 1]; rfl
          have r2 : wr.cell? ⟨w.heap.size, 2, none⟩ = some (.int .u32 (tw ks 64 32 : Nat)) := by rw [blk_cell k2 2]; rfl
          have r3 : wr.cell? ⟨w.heap.size, 3, none⟩ = some (.int .u32 (tw ks 96 32 : Nat)) := by rw [blk_cell k2 3]; rfl
          have r4 : wr.cell? ⟨w.heap.size, 4, none⟩ = some (.int .u32 (tw ks 128 32 : Nat)) := by rw [blk_cell k2 4]; rfl
          have r5 : wr.cell? ⟨w.heap.size, 5, none⟩ = some (.int .u32 (tw ks 160 32 : Nat)) := by rw [blk_cell k2 5]; rfl
          have r6 : wr.cell? ⟨w.heap.size, 6, none⟩ = some (.int .u32 (tw ks 192 32 : Nat)) := by rw [blk_cell k2 6]; rfl
          have r7 : wr.cell? ⟨w.heap.size, 7, none⟩ = some (.int .u32 (tw ks 224 32 : Nat)) := by rw [blk_cell k2 7]; rfl
          have r8 : wr.cell? ⟨w.heap.size, 8, none⟩ = some (.int .u32 (tw ks 256 32 : Nat)) := by rw [blk_cell k2 8]; rfl
          have r9 : wr.cell? ⟨w.heap.size, 9, none⟩ = some (.int .u32 (tw ks 288 32 : Nat)) := by rw [blk_cell k2 9]; rfl
          clear F hth k2 E0 E1
          generalize tbit xs (8 * k + j) = t at E2 htl HT
          obtain ⟨s0, hs0⟩ : ∃ s0, th ks xs (8 * k + j) = s0 := ⟨_, rfl⟩
          rw [hs0] at HT l1 ⊢
          generalize tw ks (8 * k + j) 32 = t0 at HF HT l2
          obtain rfl | rfl : t = 0 ∨ t = 1 := by omega
          · have ht : th ks xs (8 * k + (j + 1)) = s0 := HT.out
            have Ht := Lib.hid ht
            clear ht HT HF hs0 r0 r1 r2 r3 r4 r5 r6 r7 r8 r9
            go_wp2
            go_roundw
            case rel => exact ⟨j + 1, by omega, by go_num, by rw [Ht.out], hb2⟩
            case measure => simp [intOf]; omega
          · have ht : th ks xs (8 * k + (j + 1)) = s0 ^^^ t0 := HT.out
            have Ht := Lib.hid ht
            have hxr := u32_xor_nat s0 t0 l1 l2
            clear ht HT hs0
            go_wp2_with fail
            refine (HF.out _).mono ?_
            rintro e w3 ⟨rfl, b3⟩
            have hb3 := hb2.trans (b3.mono hb2.size)
            clear r0 r1 r2 r3 r4 r5 r6 r7 r8 r9 HF
            go_wp2
            go_roundw
            case rel => exact ⟨j + 1, by omega, by go_num, by rw [Ht.out], hb3⟩
            case measure => simp [intOf]; omega
        · obtain rfl : j = 8 := by omega
          go_wp2
          go_roundw
          case rel => exact ⟨k + 1, by omega, by go_num, rfl, hb2⟩
          case measure => simp [intOf]; omega
    · obtain rfl : k = xs.length := by omega
      go_wp2
      go_ret
      exact ⟨rfl, b0.trans (hb.mono b0.size)⟩
end Go.Proofs.Ytokfadlgiimaoaa

namespace Go.Proofs.Ytokfadlgiimaoaa
open Go.RowKit

/-- The error of Hash, and its answer. -/
def thE (ks xs : List Nat) : Int := if ks.length = 40 ∧ xs.length ≤ 36 then 0 else 3
def thV (ks xs : List Nat) : Nat := if ks.length = 40 ∧ xs.length ≤ 36 then th ks xs (8 * xs.length) else 0

theorem thE_ok {ks xs : List Nat} (h : ks.length = 40) (h2 : xs.length ≤ 36) : thE ks xs = 0 := if_pos ⟨h, h2⟩
theorem thV_ok {ks xs : List Nat} (h : ks.length = 40) (h2 : xs.length ≤ 36) : thV ks xs = th ks xs (8 * xs.length) := if_pos ⟨h, h2⟩
theorem thE_no {ks xs : List Nat} (h : ¬ (ks.length = 40 ∧ xs.length ≤ 36)) : thE ks xs = 3 := if_neg h
theorem thV_no {ks xs : List Nat} (h : ¬ (ks.length = 40 ∧ xs.length ≤ 36)) : thV ks xs = 0 := if_neg h
theorem thV_lt (ks xs : List Nat) : thV ks xs < 4294967296 := by unfold thV; split; exact th_lt _ _ _; omega

/-- May all numbers of a table be? -/
def tsIn (ts : List Int) : Bool := (List.range 128).all fun i => decide (0 ≤ ts.getD i 0 ∧ ts.getD i 0 < 16)
/-- A table's error. -/
def ctE (ts : List Int) : Int := if ts.length = 128 then (if tsIn ts = true then 0 else 4) else 3

theorem tsIn_iff (ts : List Int) : tsIn ts = true ↔ ∀ i, i < 128 → 0 ≤ ts.getD i 0 ∧ ts.getD i 0 < 16 := by
  unfold tsIn
  simp only [List.all_eq_true, List.mem_range, decide_eq_true_eq]
theorem ctE_len {ts : List Int} (h : ts.length ≠ 128) : ctE ts = 3 := if_neg h
theorem ctE_bad {ts : List Int} (h : ts.length = 128) (k : Nat) (hk : k < 128) (hb : ¬ (0 ≤ ts.getD k 0 ∧ ts.getD k 0 < 16)) : ctE ts = 4 := by
  unfold ctE
  rw [if_pos h, if_neg (fun hh => hb ((tsIn_iff ts).1 hh k hk))]
theorem ctE_ok {ts : List Int} (h : ts.length = 128) (hb : ∀ i, i < 128 → 0 ≤ ts.getD i 0 ∧ ts.getD i 0 < 16) : ctE ts = 0 := by
  unfold ctE
  rw [if_pos h, if_pos ((tsIn_iff ts).2 hb)]
theorem ctE_zero {ts : List Int} (h : ctE ts = 0) : ts.length = 128 ∧ ∀ i, i < 128 → 0 ≤ ts.getD i 0 ∧ ts.getD i 0 < 16 := by
  unfold ctE at h
  split at h
  · next hl =>
    split at h
    · next hi => exact ⟨hl, (tsIn_iff ts).1 hi⟩
    · cases h
  · cases h

/-- The error of Check. -/
def ckE (ks : List Nat) (ts : List Int) : Int := if ks.length = 40 then ctE ts else 3
/-- The answer of Shard. -/
def shV (ts : List Int) (h : Nat) : Int := if ctE ts = 0 then ts.getD (h % 128) 0 else 0

theorem Its.isSome {w : World} {a : Option Addr} {ts : List Int} (h : Its w a ts) (hx : 0 < ts.length) : ∃ b off, a = some ⟨b, off, none⟩ ∧ b < w.heap.size ∧ ∀ i, i < ts.length → w.cell? ⟨b, off + i, none⟩ = some (.int .i64 (ts.getD i 0)) := by
  rcases h.2 with rfl | h
  · simp at hx
  · exact h

set_option maxRecDepth 100000 in
set_option maxHeartbeats 1000000 in
theorem hash_all (ka : Option Addr) (ks : List Nat) (kc : Nat) (a : Option Addr) (xs : List Nat) (cap : Nat) (w : World) (hk : Bts w ka ks) (hx : Bts w a xs) (hkc : ks.length ≤ kc) (hkm : kc ≤ 9223372036854775807) (hxm : xs.length ≤ 9223372036854775807) :
    Calls Try.prog 42 #[.slice ka ks.length kc, .slice a xs.length cap] w fun e w' => e = .returned (.tuple #[.int .u32 (thV ks xs : Nat), .int .i64 (thE ks xs)]) ∧ Below w.heap.size w w' := by
  by_cases h40 : ks.length = 40
  · by_cases h36 : xs.length ≤ 36
    · rw [thE_ok h40 h36, thV_ok h40 h36]
      obtain ⟨b, off, rfl, _, _⟩ := hk.isSome (by omega)
      have hw := wordsOf_any b off kc ks w hk h40 (by omega) hkm
      have hh := fun W hb => hash_any a xs cap ks W (hx.below (w' := W) hb) h36
      have HW := Lib.hid hw
      have HH := Lib.hid hh
      rw [h40]
      clear hw hh hk hx h40
      have hl : (xs.length : Int) ≤ 36 := by omega
      go_enter Try.func42, Try.ntmps42
      go_wp2_with fail
      refine HW.out.mono ?_
      rintro e w1 ⟨rfl, b1⟩
      go_wp2_with fail
      refine (HH.out _ b1).mono ?_
      rintro e w2 ⟨rfl, b2⟩
      have q := b1.trans (b2.mono b1.size)
      go_wp2
      go_ret2
      exact ⟨rfl, q⟩
    · rw [thE_no (by omega), thV_no (by omega)]
      rw [h40]
      have hl : ¬ (xs.length : Int) ≤ 36 := by omega
      clear hk hx h40
      go_enter Try.func42, Try.ntmps42
      go_wp2
      go_ret2
      exact ⟨rfl, Below.refl _ _⟩
  · rw [thE_no (by omega), thV_no (by omega)]
    have hl : ((ks.length : Int) == 40) = false := by rw [beq_eq_false_iff_ne]; omega
    have hl2 : ((ks.length : Int) != 40) = true := by rw [bne_iff_ne]; omega
    clear hk hx
    go_enter Try.func42, Try.ntmps42
    go_wp2
    go_ret2
    exact ⟨rfl, Below.refl _ _⟩

set_option maxHeartbeats 400000 in
theorem isShard_any (n : Int) (w : World) : Calls Try.prog 61 #[.int .i64 n] w fun e w' => e = .returned (.bool (decide (0 ≤ n ∧ n < 16))) ∧ w = w' := by
  by_cases h1 : 0 ≤ n <;> by_cases h2 : n < 16
  all_goals
    go_enter Try.func61, Try.ntmps61
    go_wp2
    go_ret
    exact ⟨by simp [h1, h2], rfl⟩

set_option maxRecDepth 100000 in
set_option maxHeartbeats 1000000 in
theorem checkTable_any (a : Option Addr) (ts : List Int) (cap : Nat) (w : World) (hx : Its w a ts) (_ : ts.length ≤ 9223372036854775807) :
    Calls Try.prog 51 #[.slice a ts.length cap] w fun e w' => e = .returned (.int .i64 (ctE ts)) ∧ w = w' := by
  by_cases h : ts.length = 128
  · have bad := fun k hk => ctE_bad (ts := ts) h k hk
    have ok := ctE_ok (ts := ts) h
    obtain ⟨b, off, rfl, hb, hc⟩ := hx.isSome (by omega)
    have HB := Lib.hid bad
    have HO := Lib.hid ok
    have HC := Lib.hid hc
    obtain ⟨e, he⟩ : ∃ e, ctE ts = e := ⟨_, rfl⟩
    rw [h] at HC ⊢
    rw [he] at HB HO ⊢
    clear hx bad ok hc h he
    go_enter Try.func51, Try.ntmps51
    go_wp2
    go_loop [10, 4] (fun i _ => ∃ k : Nat, k ≤ 128 ∧ i = .int .i64 k ∧ ∀ j, j < k → 0 ≤ ts.getD j 0 ∧ ts.getD j 0 < 16) (fun i _ => 128 - (intOf i).toNat)
    case atStart => exact ⟨0, by omega, rfl, fun j hj => by omega⟩
    case round =>
      obtain ⟨k, hk, rfl, hall⟩ := hrel
      have HA := Lib.hid hall
      clear hall
      by_cases hlt : k < 128
      · have hc := HC.out k hlt
        have bad := HB.out k hlt
        have more : (0 ≤ ts.getD k 0 ∧ ts.getD k 0 < 16) → ∀ j, j < k + 1 → 0 ≤ ts.getD j 0 ∧ ts.getD j 0 < 16 := fun h j hj => by
          by_cases e : j = k
          · subst e; exact h
          · exact HA.out j (by omega)
        have HM := Lib.hid more
        have HBd := Lib.hid bad
        clear more bad
        obtain ⟨t, ht⟩ : ∃ t, ts.getD k 0 = t := ⟨_, rfl⟩
        rw [ht] at hc HM HBd
        clear ht
        have S := isShard_any t w
        by_cases hin : 0 ≤ t ∧ t < 16
        · rw [decide_eq_true hin] at S
          have HS := Lib.hid S
          have HI := Lib.hid hin
          clear S hin
          go_wp2_with fail
          refine HS.out.mono ?_
          rintro e w' ⟨rfl, rfl⟩
          go_wp2
          go_round
          case rel => exact ⟨k + 1, by omega, by go_num, HM.out HI.out⟩
          case measure => simp [intOf]; omega
        · rw [decide_eq_false hin] at S
          have HS := Lib.hid S
          have he := HBd.out hin
          have HE := Lib.hid he
          clear S hin HBd he
          go_wp2_with fail
          refine HS.out.mono ?_
          rintro e w' ⟨rfl, rfl⟩
          go_wp2
          go_ret
          exact ⟨by rw [HE.out]; rfl, rfl⟩
      · obtain rfl : k = 128 := by omega
        have he := HO.out HA.out
        have HE := Lib.hid he
        clear he HO HB HC HA
        go_wp2
        go_ret
        exact ⟨by rw [HE.out]; rfl, rfl⟩
  · rw [ctE_len h]
    have hl2 : ((ts.length : Int) != 128) = true := by rw [bne_iff_ne]; omega
    have hl3 : ((ts.length : Int) == 128) = false := by rw [beq_eq_false_iff_ne]; omega
    clear hx
    go_enter Try.func51, Try.ntmps51
    go_wp2
    go_ret
    exact ⟨rfl, rfl⟩

set_option maxRecDepth 100000 in
set_option maxHeartbeats 1000000 in
theorem checkT_any (ka : Option Addr) (ks : List Nat) (kc : Nat) (a : Option Addr) (ts : List Int) (cap : Nat) (w : World) (hx : Its w a ts) (hl : ts.length ≤ 9223372036854775807) :
    Calls Try.prog 37 #[.slice ka ks.length kc, .slice a ts.length cap] w fun e w' => e = .returned (.int .i64 (ckE ks ts)) ∧ w = w' := by
  have hc := checkTable_any a ts cap w hx hl
  have HC := Lib.hid hc
  by_cases h : ks.length = 40
  · have he : ckE ks ts = ctE ts := if_pos h
    rw [he, h]
    clear hc hx he h hl
    go_enter Try.func37, Try.ntmps37
    go_wp2_with fail
    refine HC.out.mono ?_
    rintro e w' ⟨rfl, rfl⟩
    go_wp2
    go_ret
    exact ⟨rfl, rfl⟩
  · have he : ckE ks ts = 3 := if_neg h
    rw [he]
    have hl2 : ((ks.length : Int) != 40) = true := by rw [bne_iff_ne]; omega
    have hl3 : ((ks.length : Int) == 40) = false := by rw [beq_eq_false_iff_ne]; omega
    clear hc hx he h hl HC
    go_enter Try.func37, Try.ntmps37
    go_wp2
    go_ret
    exact ⟨rfl, rfl⟩

set_option maxRecDepth 100000 in
set_option maxHeartbeats 1000000 in
theorem shard_any (a : Option Addr) (ts : List Int) (cap h : Nat) (w : World) (hx : Its w a ts) (hl : ts.length ≤ 9223372036854775807) (hh : h < 4294967296) :
    Calls Try.prog 44 #[.slice a ts.length cap, .int .u32 h] w fun e w' => e = .returned (.tuple #[.int .i64 (shV ts h), .int .i64 (ctE ts)]) ∧ w = w' := by
  have hc := checkTable_any a ts cap w hx hl
  by_cases h0 : ctE ts = 0
  · have he : shV ts h = ts.getD (h % 128) 0 := if_pos h0
    have h128 := (ctE_zero h0).1
    obtain ⟨b, off, rfl, _, hcell⟩ := hx.isSome (by omega)
    have hc1 := hcell (h % 128) (by omega)
    rw [he]
    rw [h0] at hc ⊢
    rw [h128] at hc ⊢
    have HC := Lib.hid hc
    obtain ⟨m, hm⟩ : ∃ m, h % 128 = m := ⟨_, rfl⟩
    have hm1 : (h : Int) % 128 = (m : Int) := by omega
    have hm2 : m < 128 := by omega
    rw [hm] at hc1 ⊢
    generalize ts.getD m 0 = t at hc1 ⊢
    clear hc hx he h0 h128 hl hcell hm
    go_enter Try.func44, Try.ntmps44
    go_wp2_with fail
    refine HC.out.mono ?_
    rintro e w' ⟨rfl, rfl⟩
    go_wp2
    go_ret2
    exact ⟨rfl, rfl⟩
  · have he : shV ts h = 0 := if_neg h0
    rw [he]
    have HC := Lib.hid hc
    generalize ctE ts = er at h0 HC ⊢
    have n1 : (er != 0) = true := by rw [bne_iff_ne]; exact h0
    have n2 : (er == 0) = false := by rw [beq_eq_false_iff_ne]; exact h0
    clear hc hx he hl
    go_enter Try.func44, Try.ntmps44
    go_wp2_with fail
    refine HC.out.mono ?_
    rintro e w' ⟨rfl, rfl⟩
    go_wp2
    go_ret2
    exact ⟨rfl, rfl⟩
end Go.Proofs.Ytokfadlgiimaoaa
