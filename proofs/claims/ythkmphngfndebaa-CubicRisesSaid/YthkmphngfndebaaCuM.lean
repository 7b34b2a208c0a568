/- Cubic: numbers: third roots bit by bit, the curve, the states that may be. -/
import Derived.Test.YthkmphngfndebaaGBase
namespace Go.Proofs.Ythkmphngfndebaa.Cu

structure CS where
  c : Int
  t : Int
  m : Int
  u : Int
  e : Int
  s : Int
  h : Bool
def Z : CS := ⟨0, 0, 0, 0, 0, 0, false⟩
def MV (m : Int) : Prop := 1 ≤ m ∧ m ≤ 65535
def WV (n : Int) : Prop := 0 ≤ n ∧ n ≤ 1073741824
def TV (n : Int) : Prop := 0 ≤ n ∧ n ≤ 1099511627776
def CV (x : CS) (m : Int) : Prop := (m ≤ x.c ∧ x.c ≤ 1073741824) ∧ (1 ≤ x.t ∧ x.t ≤ 1073741824) ∧ (WV x.m ∧ WV x.s) ∧ (0 ≤ x.u ∧ x.u ≤ 4194304) ∧ TV x.e
instance (m : Int) : Decidable (MV m) := by unfold MV; infer_instance
instance (m : Int) : Decidable (WV m) := by unfold WV; infer_instance
instance (m : Int) : Decidable (TV m) := by unfold TV; infer_instance
instance (x : CS) (m : Int) : Decidable (CV x m) := by unfold CV; infer_instance
def cE (x : CS) (m : Int) : Int := if MV m then (if CV x m then 0 else 171) else 4

def rstp (n b r : Nat) : Nat := if r + b ≤ 2642245 ∧ (r + b) * (r + b) * (r + b) ≤ n then r + b else r
def rrun (n : Nat) : Nat → Nat → Nat
  | 0, r => r
  | j + 1, r => rrun n j (rstp n (2 ^ j) r)
def cbrt (n : Nat) : Nat := rrun n 22 0
structure IsC (n R : Nat) : Prop where
  eq : cbrt n = R
theorem run_ok (n : Nat) : ∀ j r, r ≤ 2642245 → r * r * r ≤ n → (2642245 < r + 2 ^ j ∨ n < (r + 2 ^ j) * (r + 2 ^ j) * (r + 2 ^ j)) →
    rrun n j r ≤ 2642245 ∧ rrun n j r * rrun n j r * rrun n j r ≤ n ∧ (2642245 < rrun n j r + 1 ∨ n < (rrun n j r + 1) * (rrun n j r + 1) * (rrun n j r + 1))
  | 0, r, h0, h1, h2 => ⟨h0, h1, h2⟩
  | j + 1, r, h0, h1, h2 => by
    rw [Nat.pow_succ] at h2
    unfold rrun
    by_cases h : r + 2 ^ j ≤ 2642245 ∧ (r + 2 ^ j) * (r + 2 ^ j) * (r + 2 ^ j) ≤ n
    · rw [rstp, if_pos h]
      refine run_ok n j _ h.1 h.2 ?_
      rw [show r + 2 ^ j + 2 ^ j = r + 2 ^ j * 2 by omega]
      exact h2
    · rw [rstp, if_neg h]
      refine run_ok n j _ h0 h1 ?_
      by_cases h3 : r + 2 ^ j ≤ 2642245
      · exact .inr (Nat.lt_of_not_le (fun h4 => h ⟨h3, h4⟩))
      · exact .inl (by omega)
theorem cbrt_ok (n : Nat) : cbrt n ≤ 2642245 ∧ cbrt n * cbrt n * cbrt n ≤ n ∧ (2642245 < cbrt n + 1 ∨ n < (cbrt n + 1) * (cbrt n + 1) * (cbrt n + 1)) :=
  run_ok n 22 0 (by omega) (by omega) (.inl (by decide))
theorem step_mod (n j r : Nat) (h : r % 2 ^ (j + 1) = 0) : rstp n (2 ^ j) r % 2 ^ j = 0 := by
  have h1 : r % 2 ^ j = 0 := by
    have := Nat.mod_mod_of_dvd r (Nat.pow_dvd_pow 2 (Nat.le_succ j))
    rw [h, Nat.zero_mod] at this
    exact this.symm
  unfold rstp
  split
  · rw [Nat.add_mod, h1, Nat.mod_self, Nat.zero_add, Nat.zero_mod]
  · exact h1
theorem step_le (n b r : Nat) (h : r ≤ 2642245) : rstp n b r ≤ 2642245 := by
  unfold rstp
  split
  · rename_i h1; exact h1.1
  · exact h
theorem or_step (r j : Nat) (h : r % 2 ^ (j + 1) = 0) : r ||| 2 ^ j = r + 2 ^ j := by
  obtain ⟨k, rfl⟩ : ∃ k, r = 2 ^ (j + 1) * k := ⟨r / 2 ^ (j + 1), by have := Nat.div_add_mod r (2 ^ (j + 1)); omega⟩
  rw [Nat.two_pow_add_eq_or_of_lt (Nat.pow_lt_pow_right (by decide) (Nat.lt_succ_self j))]
theorem pow22 (j : Nat) (h : j < 22) : 2 ^ j ≤ 2097152 := by
  have : j ≤ 21 := by omega
  exact Nat.pow_le_pow_right (by decide) this
theorem cube_bd {x : Nat} (h : x ≤ 2642245) : x * x ≤ 6981458640025 ∧ x * x * x ≤ 18446724184312856125 := by
  have h1 := Nat.mul_le_mul h h
  exact ⟨h1, Nat.mul_le_mul h1 h⟩

/-- A quotient rounded down, out of Go's own quotient and remainder. -/
theorem floor_neg {X U q r : Int} (hU : 0 < U) (hq : X.tdiv U = q) (hr : X.tmod U = r) (h : r < 0) : X / U = q - 1 := by
  subst hq hr
  by_cases h0 : 0 ≤ X
  · have := Int.tmod_nonneg U h0
    omega
  · obtain ⟨Y, rfl⟩ : ∃ Y, X = -Y := ⟨-X, by omega⟩
    rw [Int.neg_tmod] at h
    rw [Int.neg_tdiv]
    have hY : 0 ≤ Y := by omega
    rw [Int.tmod_eq_emod_of_nonneg hY] at h
    rw [Int.tdiv_eq_ediv_of_nonneg hY]
    have e := Int.mul_ediv_add_emod Y U
    have l := Int.emod_lt_of_pos Y hU
    generalize Y / U = a at *
    generalize Y % U = b at *
    have : -Y = (U - b) + U * (-a - 1) := by rw [← e, Int.mul_sub, Int.mul_neg]; omega
    rw [this, Int.add_mul_ediv_left _ _ (by omega), Int.ediv_eq_zero_of_lt (by omega) (by omega)]
    omega
theorem floor_pos {X U q r : Int} (hU : 0 < U) (hq : X.tdiv U = q) (hr : X.tmod U = r) (h : 0 ≤ r) : X / U = q := by
  subst hq hr
  have hd := Int.mul_tdiv_add_tmod X U
  have hl : X.tmod U < U := Int.tmod_lt_of_pos X hU
  generalize X.tdiv U = a at *
  generalize X.tmod U = b at *
  rw [← hd, Int.add_comm, Int.add_mul_ediv_left _ _ (by omega), Int.ediv_eq_zero_of_lt h hl]
  omega
def cD (d : Int) : Int := max (min d 30000) (-30000)
theorem cD_bd (d : Int) : -30000 ≤ cD d ∧ cD d ≤ 30000 := by unfold cD; omega
def up (m D : Int) : Int := 4 * m * D * D * D
theorem mul_bd {a b A B : Int} (a0 : -A ≤ a) (a1 : a ≤ A) (b0 : -B ≤ b) (b1 : b ≤ B) : -(A * B) ≤ a * b ∧ a * b ≤ A * B := by
  have hA : 0 ≤ A := by omega
  have hB : 0 ≤ B := by omega
  have h1 : a.natAbs * b.natAbs ≤ A.natAbs * B.natAbs := Nat.mul_le_mul (by omega) (by omega)
  rw [← Int.natAbs_mul, ← Int.natAbs_mul] at h1
  have h2 : 0 ≤ A * B := Int.mul_nonneg hA hB
  omega
/-- What the walk of a curve wants: no product leaves 64 bits. -/
theorem up_bd {m D : Int} (m0 : 1 ≤ m) (m1 : m ≤ 65535) (d0 : -30000 ≤ D) (d1 : D ≤ 30000) :
    (-7864200000 ≤ 4 * m * D ∧ 4 * m * D ≤ 7864200000) ∧ (-235926000000000 ≤ 4 * m * D * D ∧ 4 * m * D * D ≤ 235926000000000) ∧ (-7077780000000000000 ≤ up m D ∧ up m D ≤ 7077780000000000000)
    ∧ (-900000000 ≤ D * D ∧ D * D ≤ 900000000) ∧ (-27000000000000 ≤ D * D * D ∧ D * D * D ≤ 27000000000000) ∧ 4 * m * (D * D * D) = up m D := by
  have h1 := mul_bd (a := 4 * m) (b := D) (A := 262140) (B := 30000) (by omega) (by omega) (by omega) (by omega)
  have h2 := mul_bd (a := 4 * m * D) (b := D) (A := 7864200000) (B := 30000) (by omega) (by omega) (by omega) (by omega)
  have h3 := mul_bd (a := 4 * m * D * D) (b := D) (A := 235926000000000) (B := 30000) (by omega) (by omega) (by omega) (by omega)
  have h4 := mul_bd (a := D) (b := D) (A := 30000) (B := 30000) (by omega) (by omega) (by omega) (by omega)
  have h5 := mul_bd (a := D * D) (b := D) (A := 900000000) (B := 30000) (by omega) (by omega) (by omega) (by omega)
  refine ⟨h1, h2, h3, h4, h5, ?_⟩
  unfold up
  rw [Int.mul_assoc (4 * m) D D, Int.mul_assoc (4 * m) (D * D) D]
def crv (o m d : Int) : Int := max (min (o + up m (cD d) / 10737418240) 1073741824) 0
theorem crv_bd (o m d : Int) : 0 ≤ crv o m d ∧ crv o m d ≤ 1073741824 := by unfold crv; omega
def tn (o c m : Int) : Nat := (max (o - c) 0 * 10737418240 / (4 * m)).toNat
def trn (o c m : Int) : Int := (cbrt (tn o c m) : Int)
theorem tn_eq {o c m : Int} (m0 : 1 ≤ m) : max (o - c) 0 * 10737418240 / (4 * m) = (tn o c m : Int) := by
  have : 0 ≤ max (o - c) 0 * 10737418240 / (4 * m) := Int.ediv_nonneg (by omega) (by omega)
  unfold tn
  omega
theorem tn_zero {o c m : Int} (h : o ≤ c) : tn o c m = 0 := by
  unfold tn
  rw [show max (o - c) 0 = 0 by omega, Int.zero_mul, Int.zero_ediv]
  rfl
theorem tn_bd {o c m : Int} (h0 : WV o) (h1 : WV c) : tn o c m < 18446744073709551616 := by
  have h2 : max (o - c) 0 * 10737418240 / (4 * m) ≤ max (o - c) 0 * 10737418240 := Int.ediv_le_self _ (by omega)
  obtain ⟨o0, o1⟩ := h0
  obtain ⟨c0, c1⟩ := h1
  unfold tn
  omega
theorem trn_bd (o c m : Int) : 0 ≤ trn o c m ∧ trn o c m ≤ 2642245 := by
  have := (cbrt_ok (tn o c m)).1
  unfold trn
  omega
theorem trn_zero {o c m : Int} (h : o ≤ c) : trn o c m = 0 := by
  unfold trn
  rw [tn_zero h]
  have h1 := cbrt_ok 0
  generalize cbrt 0 = r at h1
  have : r = 0 := by
    cases r with
    | zero => rfl
    | succ r =>
      have h3 : 1 * 1 * 1 ≤ (r + 1) * (r + 1) * (r + 1) := Nat.mul_le_mul (Nat.mul_le_mul (by omega) (by omega)) (by omega)
      have h2 := h1.2.1
      omega
  omega
def crE (o m : Int) : Int := if WV o ∧ MV m then 0 else 4
def trE (o c m : Int) : Int := if (WV o ∧ WV c) ∧ MV m then 0 else 4

def bg (x : CS) (m v : Int) : CS := ⟨x.c, x.t, max x.m x.c, trn x.m x.c m, v, x.c, true⟩
def bgo (x : CS) (m v : Int) : CS := if x.h = true then x else bg x m v
def es (x : CS) (m n : Int) : Int := min (x.s + 9 * m * n / (17 * x.c)) 1073741824
def aim (x : CS) (cu : Int) : Int := min (max cu x.c) (x.c * 3 / 2)
def go1 (x : CS) (m n t : Int) : CS :=
  if crv x.m m (t - x.u) < es x m n then { x with s := es x m n, c := max x.c (es x m n) }
  else { x with s := es x m n, c := min (x.c + (aim x (crv x.m m (t - x.u)) - x.c) * n / x.c) 1073741824 }
def ls (x : CS) (m : Int) : CS := ⟨max (x.c * 7 / 10) (2 * m), max (x.c * 7 / 10) (2 * m), if x.c < x.m then x.c * 17 / 20 else x.c, x.u, x.e, x.s, false⟩
def AV (n v r : Int) : Prop := WV n ∧ TV v ∧ WV r
instance (n v r : Int) : Decidable (AV n v r) := by unfold AV; infer_instance
def tt (x : CS) (v r : Int) : Int := max (v - x.e) 0 + r
def ak (x : CS) (m n v r : Int) : CS :=
  if x.c < x.t then { x with c := min (x.c + min n m) 1073741824 } else go1 (bgo x m v) m n (tt (bgo x m v) v r)
def akE (x : CS) (m n v r : Int) : Int := if MV m then (if CV x m then (if AV n v r then 0 else 4) else 171) else 4
theorem bg_cv {x : CS} {m v : Int} (hM : MV m) (h : CV x m) (hv : TV v) : CV (bg x m v) m := by
  obtain ⟨h1, h2, ⟨⟨h3, h4⟩, h5⟩, _, _⟩ := h
  have := trn_bd x.m x.c m
  obtain ⟨m0, m1⟩ := hM
  exact ⟨h1, h2, ⟨⟨by dsimp only [bg]; omega, by dsimp only [bg]; omega⟩, ⟨by dsimp only [bg]; omega, h1.2⟩⟩, ⟨this.1, by dsimp only [bg]; omega⟩, hv⟩
theorem bgo_cv {x : CS} {m v : Int} (hM : MV m) (h : CV x m) (hv : TV v) : CV (bgo x m v) m := by
  unfold bgo
  split
  · exact h
  · exact bg_cv hM h hv
theorem es_bd {x : CS} {m n : Int} (hM : MV m) (h : CV x m) (hn : WV n) : (0 ≤ 9 * m * n ∧ 9 * m * n ≤ 633309033922560) ∧ (0 ≤ 9 * m * n / (17 * x.c) ∧ 9 * m * n / (17 * x.c) ≤ 633309033922560) ∧ (0 ≤ es x m n ∧ es x m n ≤ 1073741824) := by
  obtain ⟨m0, m1⟩ := hM
  obtain ⟨n0, n1⟩ := hn
  obtain ⟨h1, _, ⟨_, h5⟩, _, _⟩ := h
  have h6 := h5.1
  have a0 : 0 ≤ 9 * m * n := Int.mul_nonneg (by omega) n0
  have a1 : 9 * m * n ≤ 9 * 65535 * 1073741824 := Int.mul_le_mul (by omega) n1 n0 (by omega)
  have a2 : 0 ≤ 9 * m * n / (17 * x.c) := Int.ediv_nonneg a0 (by omega)
  have a3 : 9 * m * n / (17 * x.c) ≤ 9 * m * n := Int.ediv_le_self _ a0
  refine ⟨⟨a0, by omega⟩, ⟨a2, by omega⟩, ?_⟩
  unfold es
  omega
theorem aim_bd {x : CS} {m n cu : Int} (hM : MV m) (h : CV x m) (hn : WV n) : (0 ≤ aim x cu - x.c ∧ aim x cu - x.c ≤ 536870912) ∧ (0 ≤ (aim x cu - x.c) * n ∧ (aim x cu - x.c) * n ≤ 576460752303423488) ∧ (0 ≤ (aim x cu - x.c) * n / x.c ∧ (aim x cu - x.c) * n / x.c ≤ 576460752303423488) := by
  obtain ⟨m0, m1⟩ := hM
  obtain ⟨n0, n1⟩ := hn
  obtain ⟨h1, _⟩ := h
  have a0 : 0 ≤ aim x cu - x.c ∧ aim x cu - x.c ≤ 536870912 := by unfold aim; omega
  have b0 : 0 ≤ (aim x cu - x.c) * n := Int.mul_nonneg a0.1 n0
  have b1 : (aim x cu - x.c) * n ≤ 536870912 * 1073741824 := Int.mul_le_mul a0.2 n1 n0 (by omega)
  have a2 : 0 ≤ (aim x cu - x.c) * n / x.c := Int.ediv_nonneg b0 (by omega)
  have a3 : (aim x cu - x.c) * n / x.c ≤ (aim x cu - x.c) * n := Int.ediv_le_self _ b0
  exact ⟨a0, ⟨b0, by omega⟩, ⟨a2, by omega⟩⟩
theorem go1_cv {x : CS} {m n t : Int} (hM : MV m) (h : CV x m) (hn : WV n) : CV (go1 x m n t) m ∧ x.c ≤ (go1 x m n t).c := by
  have h1 := (es_bd hM h hn).2.2
  have h2 := (aim_bd (cu := crv x.m m (t - x.u)) hM h hn).2.2
  obtain ⟨a1, a2, ⟨a3, _⟩, a4, a5⟩ := h
  unfold go1
  split
  · exact ⟨⟨⟨by dsimp only; omega, by dsimp only; omega⟩, a2, ⟨a3, h1⟩, a4, a5⟩, by dsimp only; omega⟩
  · exact ⟨⟨⟨by dsimp only; omega, by dsimp only; omega⟩, a2, ⟨a3, h1⟩, a4, a5⟩, by dsimp only; omega⟩
theorem ls_cv {x : CS} {m : Int} (hM : MV m) (h : CV x m) : CV (ls x m) m := by
  obtain ⟨a1, a2, ⟨a3, a6⟩, a4, a5⟩ := h
  obtain ⟨m0, m1⟩ := hM
  unfold ls
  refine ⟨⟨by dsimp only; omega, by dsimp only; omega⟩, ⟨by dsimp only; omega, by dsimp only; omega⟩, ⟨?_, a6⟩, a4, a5⟩
  dsimp only
  split
  · exact ⟨by omega, by omega⟩
  · exact ⟨by omega, by omega⟩

end Go.Proofs.Ythkmphngfndebaa.Cu
