/- Codel: square roots bit by bit, the times of drops. -/
import Derived.Test.YteflbfmkbkhimaaGBase
namespace Go.Proofs.Yteflbfmkbkhimaa.Cd

structure Sm {α : Type} (a b : α) : Prop where
  eq : a = b
def OV (n : Int) : Prop := 1 ≤ n ∧ n ≤ 1073741824
def TV (n : Int) : Prop := 0 ≤ n ∧ n ≤ 1099511627776
def PV (t i m : Int) : Prop := OV t ∧ OV i ∧ OV m
instance (n : Int) : Decidable (OV n) := by unfold OV; infer_instance
instance (n : Int) : Decidable (TV n) := by unfold TV; infer_instance
instance (t i m : Int) : Decidable (PV t i m) := by unfold PV; infer_instance
def sstp (n b r : Nat) : Nat := if (r + b) * (r + b) ≤ n then r + b else r
def srun (n : Nat) : Nat → Nat → Nat
  | 0, r => r
  | j + 1, r => srun n j (sstp n (2 ^ j) r)
def sqrt2 (n : Nat) : Nat := srun n 32 0
structure IsS (n R : Nat) : Prop where
  eq : sqrt2 n = R
theorem srun_ok (n : Nat) : ∀ j r, r + 2 ^ j ≤ 4294967296 → r * r ≤ n → n < (r + 2 ^ j) * (r + 2 ^ j) →
    srun n j r + 1 ≤ 4294967296 ∧ srun n j r * srun n j r ≤ n ∧ n < (srun n j r + 1) * (srun n j r + 1)
  | 0, r, h0, h1, h2 => ⟨h0, h1, h2⟩
  | j + 1, r, h0, h1, h2 => by
    rw [Nat.pow_succ] at h0 h2
    unfold srun
    by_cases h : (r + 2 ^ j) * (r + 2 ^ j) ≤ n
    · rw [sstp, if_pos h]
      refine srun_ok n j _ (by omega) h ?_
      rw [show r + 2 ^ j + 2 ^ j = r + 2 ^ j * 2 by omega]
      exact h2
    · rw [sstp, if_neg h]
      exact srun_ok n j _ (by omega) h1 (by omega)
theorem sqrt2_ok {n : Nat} (hn : n < 18446744073709551616) : sqrt2 n ≤ 4294967295 ∧ sqrt2 n * sqrt2 n ≤ n ∧ n < (sqrt2 n + 1) * (sqrt2 n + 1) := by
  have h := srun_ok n 32 0 (by decide) (by omega) (by rw [show (0 + 2 ^ 32) * (0 + 2 ^ 32) = 18446744073709551616 by decide]; exact hn)
  exact ⟨Nat.le_of_succ_le_succ h.1, h.2⟩
theorem sstp_mod (n j r : Nat) (h : r % 2 ^ (j + 1) = 0) : sstp n (2 ^ j) r % 2 ^ j = 0 := by
  have h1 : r % 2 ^ j = 0 := by
    have := Nat.mod_mod_of_dvd r (Nat.pow_dvd_pow 2 (Nat.le_succ j))
    rw [h, Nat.zero_mod] at this
    exact this.symm
  unfold sstp
  split
  · rw [Nat.add_mod, h1, Nat.mod_self, Nat.zero_add, Nat.zero_mod]
  · exact h1
theorem sstp_le (n j r : Nat) (h : r + 2 ^ (j + 1) ≤ 4294967296) : sstp n (2 ^ j) r + 2 ^ j ≤ 4294967296 := by
  rw [Nat.pow_succ] at h
  unfold sstp
  split
  · omega
  · omega
theorem or_step (r j : Nat) (h : r % 2 ^ (j + 1) = 0) : r ||| 2 ^ j = r + 2 ^ j := by
  obtain ⟨k, rfl⟩ : ∃ k, r = 2 ^ (j + 1) * k := ⟨r / 2 ^ (j + 1), by have := Nat.div_add_mod r (2 ^ (j + 1)); omega⟩
  rw [Nat.two_pow_add_eq_or_of_lt (Nat.pow_lt_pow_right (by decide) (Nat.lt_succ_self j))]
theorem pow32 (j : Nat) (h : j < 32) : 2 ^ j ≤ 2147483648 := by
  have : j ≤ 31 := by omega
  exact Nat.pow_le_pow_right (by decide) this
theorem sq_bd {x : Nat} (h : x ≤ 4294967295) : x * x ≤ 18446744065119617025 := Nat.mul_le_mul h h
def ln (c : Int) : Nat := (c * 4294967296).toNat
def lw (a i c : Int) : Int := a + i * 65536 / (sqrt2 (ln c) : Int)
theorem ln_eq {c : Int} (h : OV c) : c * 4294967296 = (ln c : Int) := by
  have := h.1
  unfold ln
  omega
theorem ln_lt {c : Int} (h : OV c) : ln c < 18446744073709551616 ∧ 4294967296 ≤ ln c := by
  have h1 := ln_eq h
  obtain ⟨c0, c1⟩ := h
  omega
theorem ln_rt {c : Int} (h : OV c) : 65536 ≤ sqrt2 (ln c) ∧ sqrt2 (ln c) ≤ 4294967295 := by
  obtain ⟨h1, h2⟩ := ln_lt h
  obtain ⟨h3, h4, h5⟩ := sqrt2_ok h1
  refine ⟨?_, h3⟩
  generalize sqrt2 (ln c) = R at *
  by_cases hR : 65536 ≤ R
  · exact hR
  · have := Nat.mul_le_mul (show R + 1 ≤ 65536 by omega) (show R + 1 ≤ 65536 by omega)
    omega
def lE (a i c : Int) : Int := if TV a ∧ OV i ∧ OV c then 0 else 4
def lO (a i c : Int) : Int := if TV a ∧ OV i ∧ OV c then lw a i c else 0
def pE (t i m : Int) : Int := if PV t i m then 0 else 121

end Go.Proofs.Yteflbfmkbkhimaa.Cd
