/- Plain facts on digits and octets, with no program in sight: the walks lean on them. -/
namespace Go.Proofs.Ytokfadlgiimaoaa.Mt

/-- One figure of the sixteen. -/
def fig (d : Nat) : Nat := if d < 10 then 48 + d else 87 + d

theorem fig_lt (d : Nat) (h : d < 16) : fig d < 256 := by unfold fig; split <;> omega

/-- An octet. -/
abbrev Oct := { x : Nat // x < 256 }

/-- One figure of the sixteen, as an octet. -/
def figO (d : Nat) : Oct := ⟨fig (d % 16), fig_lt _ (by omega)⟩

/-- The lowest c figures of n in base b, the highest first. -/
def digs (b n : Nat) : Nat → List Oct
  | 0 => []
  | c + 1 => figO (n / b ^ c % b) :: digs b n c

theorem digs_length (b n c : Nat) : (digs b n c).length = c := by
  induction c with
  | zero => rfl
  | succ c ih => simp [digs, ih]

theorem digs_drop (b n c r : Nat) (h : r ≤ c) : (digs b n c).drop (c - r) = digs b n r := by
  induction c with
  | zero => obtain rfl : r = 0 := by omega
            rfl
  | succ c ih =>
    by_cases e : r = c + 1
    · subst e; simp
    · rw [show c + 1 - r = (c - r) + 1 by omega, digs, List.drop_succ_cons]
      exact ih (by omega)

theorem digs_take_succ (b n c r : Nat) (h : r + 1 ≤ c) : (digs b n c).take (c - r) = (digs b n c).take (c - (r + 1)) ++ [figO (n / b ^ r % b)] := by
  have hd := digs_drop b n c (r + 1) h
  have h2 : c - r = (c - (r + 1)) + 1 := by omega
  rw [h2, List.take_add, hd, digs]
  rfl

/-- k is the count of figures of n in base b. -/
def IsWid (b n k : Nat) : Prop := 1 ≤ k ∧ n < b ^ k ∧ (k = 1 ∨ b ^ (k - 1) ≤ n)

theorem wid_start (b n : Nat) : n / b ^ 0 = n := by simp

theorem wid_end {b n k : Nat} (hk : 1 ≤ k) (hb : 1 ≤ b) (h : n / b ^ (k - 1) < b) (h2 : k = 1 ∨ b ^ (k - 1) ≤ n) : IsWid b n k := by
  refine ⟨hk, ?_, h2⟩
  have hp : 0 < b ^ (k - 1) := Nat.pow_pos hb
  have := (Nat.div_lt_iff_lt_mul hp).1 h
  have e : b ^ k = b * b ^ (k - 1) := by
    obtain ⟨j, rfl⟩ : ∃ j, k = j + 1 := ⟨k - 1, by omega⟩
    simp [Nat.pow_succ, Nat.mul_comm]
  omega

theorem wid_step {b n k : Nat} (hk : 1 ≤ k) (hb : 1 ≤ b) (h : b ≤ n / b ^ (k - 1)) : b ^ k ≤ n ∧ n / b ^ (k - 1) / b = n / b ^ k := by
  have hp : 0 < b ^ (k - 1) := Nat.pow_pos hb
  have e : b ^ k = b ^ (k - 1) * b := by
    obtain ⟨j, rfl⟩ : ∃ j, k = j + 1 := ⟨k - 1, by omega⟩
    simp [Nat.pow_succ]
  refine ⟨?_, ?_⟩
  · have := (Nat.le_div_iff_mul_le hp).1 h
    rw [e, Nat.mul_comm]; exact this
  · rw [e, Nat.div_div_eq_div_mul]

/-- A width is at most 64 where the base is 2 at least and the number a u64. -/
theorem wid_le {b n k : Nat} (hb : 2 ≤ b) (hn : n < 2 ^ 64) (h2 : k = 1 ∨ b ^ (k - 1) ≤ n) : k ≤ 64 := by
  rcases h2 with h | h
  · omega
  · have h3 : 2 ^ (k - 1) < 2 ^ 64 := Nat.lt_of_le_of_lt (Nat.le_trans (Nat.pow_le_pow_left hb _) h) hn
    have := (Nat.pow_lt_pow_iff_right (by omega : 1 < 2)).1 h3
    omega

/-- The number whose octets these are, the highest first. -/
def numOf (xs : List Nat) : Nat := xs.foldl (fun n x => n * 256 + x) 0

theorem numOf_snoc (xs : List Nat) (x : Nat) : numOf (xs ++ [x]) = numOf xs * 256 + x := by simp [numOf]

theorem fold_lt (xs : List Nat) : ∀ a, (∀ x ∈ xs, x < 256) → xs.foldl (fun n x => n * 256 + x) a < (a + 1) * 256 ^ xs.length := by
  induction xs with
  | nil => intro a _; simp
  | cons x xs ih =>
    intro a h
    have h2 := h x (by simp)
    have h1 := ih (a * 256 + x) (fun y hy => h y (by simp [hy]))
    rw [List.foldl_cons, List.length_cons, Nat.pow_succ, Nat.mul_comm (256 ^ xs.length), ← Nat.mul_assoc]
    exact Nat.lt_of_lt_of_le h1 (Nat.mul_le_mul_right _ (by omega))

theorem numOf_lt (xs : List Nat) (h : ∀ x ∈ xs, x < 256) : numOf xs < 256 ^ xs.length := by
  have := fold_lt xs 0 h
  simpa [numOf] using this

theorem take_snoc (xs : List Nat) (k : Nat) (h : k < xs.length) : xs.take (k + 1) = xs.take k ++ [xs.getD k 0] := by
  rw [List.take_succ_eq_append_getElem h, List.getD_eq_getElem?_getD, List.getElem?_eq_getElem h]; rfl

theorem getD_mem (xs : List Nat) (k : Nat) (h : k < xs.length) : xs.getD k 0 ∈ xs := by
  rw [List.getD_eq_getElem?_getD, List.getElem?_eq_getElem h]; exact List.getElem_mem h

/-- A number in so many octets, the highest first. -/
def octs (n k : Nat) : List Nat := (List.range k).map fun i => n / 256 ^ (k - 1 - i) % 256

theorem octs_length (n k : Nat) : (octs n k).length = k := by simp [octs]

/-- Put's octets when j rounds are over. -/
def part (n k j : Nat) : List Nat := (List.range k).map fun i => if k ≤ i + j then n / 256 ^ (k - 1 - i) % 256 else 0

theorem part_length (n k j : Nat) : (part n k j).length = k := by simp [part]

theorem part_zero (n k : Nat) : part n k 0 = List.replicate k 0 := by
  unfold part
  apply List.ext_getElem (by simp)
  intro i h1 h2
  simp at h1
  simp
  omega

theorem part_all (n k : Nat) : part n k k = octs n k := by
  unfold part octs
  apply List.map_congr_left
  intro i _
  rw [if_pos (by omega)]

theorem part_set (n k j : Nat) (h : j < k) : (part n k j).set (k - 1 - j) (n / 256 ^ j % 256) = part n k (j + 1) := by
  apply List.ext_getElem (by simp [part])
  intro i h1 h2
  have hi : i < k := by simpa [part] using h2
  rw [List.getElem_set]
  by_cases e : k - 1 - j = i
  · subst e
    simp only [part, List.getElem_map, List.getElem_range, if_true]
    rw [if_pos (by omega), show k - 1 - (k - 1 - j) = j by omega]
  · rw [if_neg e]
    simp only [part, List.getElem_map, List.getElem_range]
    by_cases c : k ≤ i + j
    · rw [if_pos c, if_pos (by omega)]
    · rw [if_neg c, if_neg (by omega)]

theorem not_wid {b n c k : Nat} (hc : IsWid b n c) (hk : k < c) : ¬ (n < b ^ k ∧ 1 ≤ k ∧ 1 ≤ b) := by
  rintro ⟨h, h1, h2⟩
  obtain ⟨_, _, h3 | h3⟩ := hc
  · omega
  · have := Nat.pow_le_pow_right h2 (show k ≤ c - 1 by omega)
    omega

theorem wid_fits {b n c k : Nat} (hc : IsWid b n c) (hk : c ≤ k) (hb : 1 ≤ b) : n < b ^ k :=
  Nat.lt_of_lt_of_le hc.2.1 (Nat.pow_le_pow_right hb hk)

theorem shr_byte (n j : Nat) : (n : Int) / 2 ^ (8 * j) % 256 = ((n / 256 ^ j % 256 : Nat) : Int) := by
  have e : (2 : Int) ^ (8 * j) = ((256 ^ j : Nat) : Int) := by rw [Int.natCast_pow, Int.pow_mul]; rfl
  rw [e]; rfl

theorem map_set {α β : Type} (f : α → β) (l : List α) (i : Nat) (x : α) : (l.map f).set i (f x) = (l.set i x).map f := by rw [List.map_set]

theorem wid_unique {b n j k : Nat} (hb : 1 ≤ b) (h : IsWid b n j) (h' : IsWid b n k) : j = k := by
  rcases Nat.lt_trichotomy j k with hl | hl | hl
  · exact absurd ⟨h.2.1, h.1, hb⟩ (not_wid h' hl)
  · exact hl
  · exact absurd ⟨h'.2.1, h'.1, hb⟩ (not_wid h hl)

/-- How many decimal figures a number has. -/
def dwidF : Nat → Nat → Nat
  | 0, _ => 1
  | f + 1, m => if m < 10 then 1 else dwidF f (m / 10) + 1

theorem dwidF_is : ∀ f m, m < 10 ^ (f + 1) → IsWid 10 m (dwidF f m) := by
  intro f
  induction f with
  | zero => intro m h; exact ⟨Nat.le_refl _, by simpa [dwidF] using h, .inl rfl⟩
  | succ f ih =>
    intro m h
    unfold dwidF
    by_cases c : m < 10
    · rw [if_pos c]; exact ⟨Nat.le_refl _, by simpa using c, .inl rfl⟩
    · rw [if_neg c]
      have h10 : m / 10 < 10 ^ (f + 1) := by rw [Nat.pow_succ] at h; omega
      obtain ⟨a1, a2, a3⟩ := ih (m / 10) h10
      refine ⟨by omega, ?_, .inr ?_⟩
      · rw [Nat.pow_succ]; omega
      · rw [Nat.add_sub_cancel]
        rcases a3 with a3 | a3
        · rw [a3]; omega
        · obtain ⟨j, hj⟩ : ∃ j, dwidF f (m / 10) = j + 1 := ⟨dwidF f (m / 10) - 1, by omega⟩
          rw [hj] at a3 ⊢
          rw [Nat.add_sub_cancel] at a3
          rw [Nat.pow_succ]; omega

/-- The decimal figures of a number below 10^20. -/
def decN (m : Nat) : List Oct := digs 10 m (dwidF 19 m)

/-- The sign of a number below 0. -/
def minus : Oct := ⟨45, by omega⟩

/-- The sign that stands ahead. -/
def sgn (n : Int) : List Oct := if n < 0 then [minus] else []

/-- What Decimal writes. -/
def dec (n : Int) : List Oct := sgn n ++ decN n.natAbs

theorem dec_of_wid {n : Int} {k : Nat} (h1 : -9223372036854775808 ≤ n) (h2 : n ≤ 9223372036854775807) (h : IsWid 10 n.natAbs k) : digs 10 n.natAbs k = decN n.natAbs := by
  unfold decN
  rw [wid_unique (by omega) h (dwidF_is 19 n.natAbs (by omega))]

/-- A list of h numbers of which the first j are filled in. -/
def fill (f : Nat → Nat) (h j : Nat) : List Nat := (List.range h).map fun i => if i < j then f i else 0

theorem fill_length (f : Nat → Nat) (h j : Nat) : (fill f h j).length = h := by simp [fill]

theorem fill_zero (f : Nat → Nat) (h : Nat) : fill f h 0 = List.replicate h 0 := by
  apply List.ext_getElem (by simp [fill])
  intro i h1 h2
  simp [fill]

theorem fill_all (f : Nat → Nat) (h : Nat) : fill f h h = (List.range h).map f := by
  unfold fill
  apply List.map_congr_left
  intro i hi
  rw [if_pos (List.mem_range.1 hi)]

theorem fill_set (f : Nat → Nat) (h j : Nat) : (fill f h j).set j (f j) = fill f h (j + 1) := by
  apply List.ext_getElem (by simp [fill])
  intro i h1 h2
  have hi : i < h := by simpa [fill] using h2
  rw [List.getElem_set]
  by_cases e : j = i
  · subst e
    simp only [fill, List.getElem_map, List.getElem_range, if_true]
    rw [if_pos (by omega)]
  · rw [if_neg e]
    simp only [fill, List.getElem_map, List.getElem_range]
    by_cases c : i < j
    · rw [if_pos c, if_pos (by omega)]
    · rw [if_neg c, if_neg (by omega)]

end Go.Proofs.Ytokfadlgiimaoaa.Mt
