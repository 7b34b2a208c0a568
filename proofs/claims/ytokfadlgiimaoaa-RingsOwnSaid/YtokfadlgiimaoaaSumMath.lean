/- Plain facts on the Internet's checksum: words added with their carry; what a sum of words is modulo 65535. -/
import Derived.Test.YtokfadlgiimaoaaMath
namespace Go.Proofs.Ytokfadlgiimaoaa.Mt

/-- Two words added, less 65535 where the sum is above it. -/
def addw (a b : Nat) : Nat := if 65535 < a + b then a + b - 65535 else a + b

/-- Words added from the left. -/
def tot (xs : List Nat) : Nat := xs.foldl addw 0

/-- What a sum comes to: 0 of 0 alone, else from 1 to 65535. -/
def norm (n : Nat) : Nat := if n = 0 then 0 else (n - 1) % 65535 + 1

theorem norm_le (n : Nat) : norm n ≤ 65535 := by unfold norm; split <;> omega
theorem norm_small (n : Nat) (h : n ≤ 65535) : norm n = n := by unfold norm; split <;> omega
theorem norm_zero (n : Nat) : norm n = 0 ↔ n = 0 := by unfold norm; split <;> omega
theorem norm_mod (n : Nat) : norm n % 65535 = n % 65535 := by unfold norm; split <;> omega
theorem norm_eq {a b : Nat} (h : a % 65535 = b % 65535) (hz : a = 0 ↔ b = 0) : norm a = norm b := by unfold norm; split <;> split <;> omega
theorem norm_full (n : Nat) : norm n = 65535 ↔ 0 < n ∧ n % 65535 = 0 := by unfold norm; split <;> omega
theorem addw_norm (a b : Nat) (ha : a ≤ 65535) (hb : b ≤ 65535) : addw a b = norm (a + b) := by unfold addw norm; split <;> split <;> omega
theorem addw_le (a b : Nat) (ha : a ≤ 65535) (hb : b ≤ 65535) : addw a b ≤ 65535 := by unfold addw; split <;> omega
theorem addw_comm (a b : Nat) : addw a b = addw b a := by unfold addw; rw [Nat.add_comm]
theorem norm_add_left (a b : Nat) : norm (norm a + b) = norm (a + b) := norm_eq (by have := norm_mod a; omega) (by have := norm_zero a; omega)
theorem norm_add_right (a b : Nat) : norm (a + norm b) = norm (a + b) := norm_eq (by have := norm_mod b; omega) (by have := norm_zero b; omega)
theorem addw_assoc (a b c : Nat) (ha : a ≤ 65535) (hb : b ≤ 65535) (hc : c ≤ 65535) : addw (addw a b) c = addw a (addw b c) := by
  rw [addw_norm _ c (addw_le a b ha hb) hc, addw_norm a b ha hb, addw_norm b c hb hc, addw_norm a _ ha (norm_le _), norm_add_left, norm_add_right, Nat.add_assoc]
theorem addw_zero (a : Nat) (ha : a ≤ 65535) : addw a 0 = a := by unfold addw; split <;> omega
theorem addw_full (a : Nat) (h : 0 < a) : addw a 65535 = a := by unfold addw; split <;> omega

theorem foldl_norm (xs : List Nat) (h : ∀ x ∈ xs, x ≤ 65535) : ∀ a, xs.foldl addw (norm a) = norm (a + xs.sum) := by
  induction xs with
  | nil => intro a; simp
  | cons x xs ih =>
    intro a
    rw [List.foldl_cons, addw_norm _ _ (norm_le _) (h x (by simp)), norm_add_left, ih (fun y hy => h y (by simp [hy])), List.sum_cons, Nat.add_assoc]

theorem tot_norm (xs : List Nat) (h : ∀ x ∈ xs, x ≤ 65535) : tot xs = norm xs.sum := by
  have := foldl_norm xs h 0
  rw [Nat.zero_add] at this
  exact this

theorem tot_le (xs : List Nat) (h : ∀ x ∈ xs, x ≤ 65535) : tot xs ≤ 65535 := by rw [tot_norm xs h]; exact norm_le _
theorem tot_snoc (xs : List Nat) (x : Nat) : tot (xs ++ [x]) = addw (tot xs) x := by simp [tot]
theorem tot_two (a b : Nat) (ha : a ≤ 65535) : tot [a, b] = addw a b := by
  show addw (addw 0 a) b = addw a b
  congr 1
  rw [addw_comm, addw_zero a ha]
theorem tot_three (a b c : Nat) (ha : a ≤ 65535) : tot [a, b, c] = addw (addw a b) c := by
  show addw (addw (addw 0 a) b) c = _
  rw [addw_comm 0 a, addw_zero a ha]

/-- The word at place j: two octets, the higher first; an odd last one has a 0 behind it. -/
def wd (xs : List Nat) (j : Nat) : Nat := xs.getD (2 * j) 0 * 256 + xs.getD (2 * j + 1) 0

theorem getD_lt (xs : List Nat) (h : ∀ x ∈ xs, x < 256) (i : Nat) : xs.getD i 0 < 256 := by
  rcases Nat.lt_or_ge i xs.length with hl | hl
  · exact h _ (getD_mem xs i hl)
  · rw [List.getD_eq_getElem?_getD, List.getElem?_eq_none hl]; simp

theorem wd_lt (xs : List Nat) (h : ∀ x ∈ xs, x < 256) (j : Nat) : wd xs j < 65536 := by
  have h1 := getD_lt xs h (2 * j)
  have h2 := getD_lt xs h (2 * j + 1)
  unfold wd; omega

/-- How many words. -/
abbrev nw (xs : List Nat) : Nat := (xs.length + 1) / 2

/-- The words. -/
def wl (xs : List Nat) : List Nat := (List.range (nw xs)).map (wd xs)

theorem wl_length (xs : List Nat) : (wl xs).length = nw xs := by simp [wl]
theorem wl_le (xs : List Nat) (h : ∀ x ∈ xs, x < 256) : ∀ x ∈ wl xs, x ≤ 65535 := by
  intro x hx
  obtain ⟨j, _, rfl⟩ := List.mem_map.1 hx
  have := wd_lt xs h j
  omega
theorem wl_take (xs : List Nat) (j : Nat) (h : j < nw xs) : (wl xs).take (j + 1) = (wl xs).take j ++ [wd xs j] := by
  rw [take_snoc _ _ (by rw [wl_length]; exact h)]
  congr 2
  unfold wl
  rw [List.getD_eq_getElem?_getD, List.getElem?_map, List.getElem?_range h]
  rfl

/-- The Sum. -/
def sumO (xs : List Nat) : Nat := tot (wl xs)

theorem sumO_le (xs : List Nat) (h : ∀ x ∈ xs, x < 256) : sumO xs ≤ 65535 := tot_le _ (wl_le xs h)

/-- What octets weigh: 256 at an even place (hi), 1 at an odd one. -/
def wt : Bool → List Nat → Nat
  | _, [] => 0
  | true, x :: xs => x * 256 + wt false xs
  | false, x :: xs => x + wt true xs

theorem wl_two (x y : Nat) (r : List Nat) : wl (x :: y :: r) = (x * 256 + y) :: wl r := by
  unfold wl nw
  rw [show ((x :: y :: r).length + 1) / 2 = (r.length + 1) / 2 + 1 by simp; omega, List.range_succ_eq_map]
  simp only [List.map_cons, List.map_map]
  congr 1

theorem wl_sum : ∀ xs : List Nat, (wl xs).sum = wt true xs
  | [] => rfl
  | [x] => by
    have e : List.range 1 = [0] := rfl
    simp [wl, nw, wd, wt, e]
  | x :: y :: r => by
    rw [wl_two, List.sum_cons, wl_sum r]
    show _ = x * 256 + (y + wt true r)
    omega

theorem sumO_norm (xs : List Nat) (h : ∀ x ∈ xs, x < 256) : sumO xs = norm (wt true xs) := by
  unfold sumO
  rw [tot_norm _ (wl_le xs h), wl_sum]

theorem wt_append_even : ∀ (xs ys : List Nat) (hi : Bool), xs.length % 2 = 0 → wt hi (xs ++ ys) = wt hi xs + wt hi ys
  | [], ys, hi, _ => by cases hi <;> simp [wt]
  | [x], ys, hi, h => by simp at h
  | x :: y :: r, ys, hi, h => by
    have ih := wt_append_even r ys hi (by simp at h; omega)
    cases hi <;> simp only [wt, List.cons_append] <;> omega

/-- Sum of two texts, the first of an even length. -/
theorem sumO_append (xs ys : List Nat) (hx : ∀ x ∈ xs, x < 256) (hy : ∀ x ∈ ys, x < 256) (he : xs.length % 2 = 0) : sumO (xs ++ ys) = addw (sumO xs) (sumO ys) := by
  rw [sumO_norm _ (fun x h => (List.mem_append.1 h).elim (hx x) (hy x)), addw_norm _ _ (sumO_le xs hx) (sumO_le ys hy), sumO_norm xs hx, sumO_norm ys hy, norm_add_left, norm_add_right, wt_append_even _ _ _ he]

/-- What one place weighs. -/
def wat : Bool → Nat → Nat
  | true, 0 => 256
  | false, 0 => 1
  | true, i + 1 => wat false i
  | false, i + 1 => wat true i

theorem wt_set : ∀ (xs : List Nat) (i v : Nat) (hi : Bool), i < xs.length → wt hi (xs.set i v) + wat hi i * xs.getD i 0 = wt hi xs + wat hi i * v
  | [], _, _, _, h => by simp at h
  | x :: xs, 0, v, hi, _ => by
    cases hi <;> simp only [wt, wat, List.set_cons_zero, List.getD_cons_zero] <;> omega
  | x :: xs, i + 1, v, hi, h => by
    have h' : i < xs.length := by simpa using h
    cases hi
    · have ih := wt_set xs i v true h'
      simp only [wt, wat, List.set_cons_succ, List.getD_cons_succ]
      omega
    · have ih := wt_set xs i v false h'
      simp only [wt, wat, List.set_cons_succ, List.getD_cons_succ]
      omega

theorem wat_is : ∀ (i : Nat) (hi : Bool), wat hi i = 256 ∨ wat hi i = 1
  | 0, true => .inl rfl
  | 0, false => .inr rfl
  | i + 1, true => wat_is i false
  | i + 1, false => wat_is i true

theorem wat_even : ∀ (k : Nat) (hi : Bool), wat hi (2 * k) = wat hi 0
  | 0, _ => rfl
  | k + 1, true => by rw [show 2 * (k + 1) = 2 * k + 1 + 1 by omega]; exact wat_even k true
  | k + 1, false => by rw [show 2 * (k + 1) = 2 * k + 1 + 1 by omega]; exact wat_even k false

theorem wat_odd (k : Nat) (hi : Bool) : wat hi (2 * k + 1) = wat (!hi) 0 := by
  cases hi
  · exact wat_even k true
  · exact wat_even k false

theorem wt_two (x y : Nat) (xs : List Nat) : wt true (x :: y :: xs) = x * 256 + y + wt true xs := by
  show x * 256 + (y + wt true xs) = _
  omega

/-- Octets with their checksum in them are right. -/
theorem sum_right (xs : List Nat) (hx : ∀ x ∈ xs, x < 256) (K : Nat) (hK : K = 65535 - sumO (0 :: 0 :: xs)) : sumO (K / 256 :: K % 256 :: xs) = 65535 := by
  have h0 : ∀ x ∈ 0 :: 0 :: xs, x < 256 := by
    intro x h
    simp only [List.mem_cons] at h
    rcases h with h | h | h
    · omega
    · omega
    · exact hx x h
  have h1 : ∀ x ∈ K / 256 :: K % 256 :: xs, x < 256 := by
    intro x h
    simp only [List.mem_cons] at h
    rcases h with h | h | h
    · omega
    · omega
    · exact hx x h
  rw [sumO_norm _ h0, wt_two] at hK
  rw [sumO_norm _ h1, wt_two, norm_full]
  have := norm_le (0 * 256 + 0 + wt true xs)
  have := norm_mod (0 * 256 + 0 + wt true xs)
  have := norm_zero (0 * 256 + 0 + wt true xs)
  omega

/-- One octet turned into another one is told. -/
theorem sum_told (xs : List Nat) (hx : ∀ x ∈ xs, x < 256) (h : sumO xs = 65535) (i v : Nat) (hi : i < xs.length) (hv : v < 256) (hne : v ≠ xs.getD i 0) : sumO (xs.set i v) ≠ 65535 := by
  have h1 : ∀ x ∈ xs.set i v, x < 256 := by
    intro x hx2
    rcases List.mem_or_eq_of_mem_set hx2 with h | h
    · exact hx x h
    · omega
  have ho := hx _ (getD_mem xs i hi)
  rw [sumO_norm _ hx, norm_full] at h
  intro h2
  rw [sumO_norm _ h1, norm_full] at h2
  have hs := wt_set xs i v true hi
  generalize xs.getD i 0 = o at hs ho hne
  rcases wat_is i true with hw | hw
  · rw [hw] at hs; omega
  · rw [hw] at hs; omega

theorem wt_zero : ∀ (xs : List Nat) (hi : Bool), wt hi xs = 0 → ∀ i, xs.getD i 0 = 0
  | [], _, _, i => by simp
  | x :: xs, true, h, 0 => by simp only [wt] at h; simp; omega
  | x :: xs, false, h, 0 => by simp only [wt] at h; simp; omega
  | x :: xs, true, h, i + 1 => by
    have := wt_zero xs false (by simp only [wt] at h; omega) i
    simpa using this
  | x :: xs, false, h, i + 1 => by
    have := wt_zero xs true (by simp only [wt] at h; omega) i
    simpa using this

theorem wt_cons0 (xs : List Nat) (x y : Nat) : wt true ((((0 :: 0 :: xs).set 0 x).set 1 y)) = x * 256 + y + wt true (0 :: 0 :: xs) := by
  show wt true (x :: y :: xs) = _
  rw [wt_two, wt_two]; omega

/-- The word at an even place turned: what it does to the weight. -/
theorem wt_word (xs : List Nat) (k x y : Nat) (h : 2 * k + 1 < xs.length) : wt true ((xs.set (2 * k) x).set (2 * k + 1) y) + wd xs k = wt true xs + (x * 256 + y) := by
  have h1 := wt_set xs (2 * k) x true (by omega)
  have h2 := wt_set (xs.set (2 * k) x) (2 * k + 1) y true (by rw [List.length_set]; exact h)
  have e1 : wat true (2 * k) = 256 := wat_even k true
  have e2 : wat true (2 * k + 1) = 1 := wat_odd k true
  have e3 : (xs.set (2 * k) x).getD (2 * k + 1) 0 = xs.getD (2 * k + 1) 0 := by
    rw [List.getD_eq_getElem?_getD, List.getElem?_set_ne (by omega), List.getD_eq_getElem?_getD]
  rw [e1] at h1
  rw [e2, e3] at h2
  unfold wd
  omega

theorem set_lt (xs : List Nat) (hx : ∀ x ∈ xs, x < 256) (i v : Nat) (hv : v < 256) : ∀ x ∈ xs.set i v, x < 256 := by
  intro x h
  rcases List.mem_or_eq_of_mem_set h with h | h
  · exact hx x h
  · omega

/-- Where a word changes, the checksum brought up to date is right, or all is 0. -/
theorem sum_update (xs : List Nat) (hx : ∀ x ∈ xs, x < 256) (k f K N : Nat) (hk : 2 * k + 1 < xs.length) (hf : f < 65536) (hK : K = 65535 - sumO (0 :: 0 :: xs)) (hN : N = 65535 - addw (addw (65535 - K) (65535 - wd xs k)) f) (ys : List Nat)
    (hy : ys = (xs.set (2 * k) (f / 256)).set (2 * k + 1) (f % 256)) : sumO (N / 256 :: N % 256 :: ys) = 65535 ∨ ∀ i, ys.getD i 0 = 0 := by
  have h0 : ∀ x ∈ 0 :: 0 :: xs, x < 256 := by
    intro x h
    simp only [List.mem_cons] at h
    rcases h with h | h | h
    · omega
    · omega
    · exact hx x h
  have hyl : ∀ x ∈ ys, x < 256 := by rw [hy]; exact set_lt _ (set_lt _ hx _ _ (by omega)) _ _ (by omega)
  have h1 : ∀ x ∈ N / 256 :: N % 256 :: ys, x < 256 := by
    intro x h
    simp only [List.mem_cons] at h
    rcases h with h | h | h
    · omega
    · omega
    · exact hyl x h
  have hw := wt_word xs k (f / 256) (f % 256) hk
  rw [← hy] at hw
  have hwl := wd_lt xs hx k
  rw [sumO_norm _ h0, wt_two] at hK
  have hS := norm_le (0 * 256 + 0 + wt true xs)
  have e : 65535 - K = norm (0 * 256 + 0 + wt true xs) := by omega
  rw [e, addw_norm _ _ hS (by omega), addw_norm _ _ (norm_le _) (by omega), norm_add_left, Nat.add_assoc, norm_add_left] at hN
  generalize wd xs k = o at hw hwl hN
  rcases Nat.eq_zero_or_pos (wt true ys) with hz | hz
  · exact .inr (wt_zero ys true hz)
  · left
    rw [sumO_norm _ h1, wt_two, norm_full]
    have n1 := norm_le (0 * 256 + 0 + wt true xs + (65535 - o + f))
    have n2 := norm_mod (0 * 256 + 0 + wt true xs + (65535 - o + f))
    omega

end Go.Proofs.Ytokfadlgiimaoaa.Mt
