/- One octet of a header turned (but for the low figure of the first): no packet. -/
import Derived.Test.YtpdlmgafkjmjpaaIpBack
namespace Go.Proofs.Ytpdlmgafkjmjpaa
open Go.RowKit

theorem take_set_20 (xs : List Nat) (j v : Nat) : (xs.set j v).take 20 = (xs.take 20).set j v := List.take_set ..

theorem ip_flip (xs : List Nat) (hx : ∀ x ∈ xs, x < 256) (h : IpPok xs) (h20 : ipHead xs = 20) (j v : Nat) (hj : j < 20) (hv : v < 256) (hne : v ≠ xs.getD j 0) (h0 : j = 0 → v % 16 = xs.getD 0 0 % 16) :
    ¬ IpPok (xs.set j v) ∧ Mt.sumO ((xs.set j v).take 20) ≠ 65535 := by
  obtain ⟨hl, hver, _, hs⟩ := h
  rw [h20] at hs
  have ht : ∀ x ∈ xs.take 20, x < 256 := fun x hm => hx x (List.mem_of_mem_take hm)
  have hg : (xs.take 20).getD j 0 = xs.getD j 0 := by
    rw [List.getD_eq_getElem?_getD, List.getD_eq_getElem?_getD, List.getElem?_take_of_lt hj]
  have hsum : Mt.sumO ((xs.set j v).take 20) ≠ 65535 := by
    rw [take_set_20]
    exact Mt.sum_told _ ht hs j v (by rw [List.length_take]; omega) hv (by rw [hg]; exact hne)
  refine ⟨fun ⟨_, hver2, _, hs2⟩ => ?_, hsum⟩
  by_cases hj0 : j = 0
  · subst hj0
    have e : (xs.set 0 v).getD 0 0 = v := by
      rw [List.getD_eq_getElem?_getD, List.getElem?_set_self (by omega)]; rfl
    rw [e] at hver2
    have := h0 rfl
    omega
  · have e : (xs.set j v).getD 0 0 = xs.getD 0 0 := by
      rw [List.getD_eq_getElem?_getD, List.getD_eq_getElem?_getD, List.getElem?_set_ne hj0]
    have e2 : ipHead (xs.set j v) = 20 := by
      unfold ipHead at h20 ⊢
      rw [e]; exact h20
    rw [e2] at hs2
    exact hsum hs2

theorem xor_bit_ne (x k : Nat) : x ^^^ 2 ^ k ≠ x := by
  intro h
  have h2 : x ^^^ (x ^^^ 2 ^ k) = x ^^^ x := by rw [h]
  rw [← Nat.xor_assoc, Nat.xor_self, Nat.zero_xor] at h2
  have := Nat.two_pow_pos k
  omega

theorem xor_high_low (x k : Nat) (hk : 4 ≤ k) : (x ^^^ 2 ^ k) % 16 = x % 16 := by
  have : (16 : Nat) = 2 ^ 4 := by decide
  rw [this]
  apply Nat.eq_of_testBit_eq
  intro i
  rw [Nat.testBit_mod_two_pow, Nat.testBit_mod_two_pow, Nat.testBit_xor, Nat.testBit_two_pow]
  by_cases h : i < 4
  · have : ¬ k = i := by omega
    simp [this]
  · simp [h]
end Go.Proofs.Ytpdlmgafkjmjpaa
