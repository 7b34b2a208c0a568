/- Cubic: third roots, bit by bit. -/
import Derived.Test.YthkmphngfndebaaGBase
import Derived.Test.YthkmphngfndebaaCuM
import Derived.Laws.BitsAllLaws
import Derived.LoopTactic
namespace Go.Proofs.Ythkmphngfndebaa
open Go.RowKit Go.Proofs.Ythkmphngfndebaa.Cu

theorem shr_one (b : Nat) : ((b : Int) / 2) = ((b / 2 : Nat) : Int) := by omega
theorem or64 (r j : Nat) (h : r % 2 ^ (j + 1) = 0) (hr : r ≤ 2642245) (hj : j < 22) : bits .or .u64 (r : Int) ((2 ^ j : Nat) : Int) = ((r + 2 ^ j : Nat) : Int) := by
  have hp := pow22 j hj
  have h2 := u64_or_nat r (2 ^ j) (by omega) (by omega)
  rw [or_step r j h] at h2
  exact h2
set_option maxHeartbeats 1000000 in
theorem root_l (n R : Nat) (hR : IsC n R) (w : World) :
    Calls Try.prog 8 #[.int .u64 n] w fun e w' => e = .returned (.int .u64 R) ∧ w = w' := by
  have HR : Hid (rrun n 22 0 = R) := Lib.hid hR.eq
  clear hR
  go_enter Try.func8, Try.ntmps8
  go_wp2
  go_loop [3, 4] (fun ro bi => ∃ j r b : Nat, j ≤ 22 ∧ ro = .int .u64 r ∧ bi = .int .u64 b ∧ Hid (b = 2 ^ j / 2) ∧ Hid (rrun n j r = R) ∧ Hid (r % 2 ^ j = 0) ∧ r ≤ 2642245) (fun _ bi => (intOf bi).toNat)
  case atStart => exact ⟨22, 0, 2097152, by omega, rfl, rfl, Lib.hid (by decide), HR, Lib.hid (by decide), by omega⟩
  case round =>
    obtain ⟨j, r, b, hj, rfl, rfl, hb, hR, hm, hr⟩ := hrel
    cases j with
    | zero =>
      obtain rfl : b = 0 := hb.out
      have e : r = R := hR.out
      subst e
      go_wp2
      go_ret
      exact ⟨rfl, rfl⟩
    | succ j =>
      have hb2 : b = 2 ^ j := by rw [hb.out, Nat.pow_succ]; omega
      have hj2 : j < 22 := by omega
      have hb0 : 0 < b := by rw [hb2]; exact Nat.two_pow_pos j
      have hb1 : b ≤ 2097152 := by rw [hb2]; exact pow22 j hj2
      have hor : bits .or .u64 (r : Int) (b : Int) = ((r + b : Nat) : Int) := by rw [hb2]; exact or64 r j hm.out hr hj2
      have hS : Hid (rrun n j (rstp n b r) = R) := Lib.hid (by rw [hb2]; exact hR.out)
      have hM : Hid (rstp n b r % 2 ^ j = 0) := Lib.hid (by rw [hb2]; exact step_mod n j r hm.out)
      have hL := step_le n b r hr
      have hB2 : Hid (b / 2 = 2 ^ j / 2) := Lib.hid (by rw [hb2])
      clear hb hR hm hb2
      obtain ⟨x, hx⟩ : ∃ x, r + b = x := ⟨_, rfl⟩
      rw [hx] at hor
      have had : IntKind.u64.wrap ((r : Int) + b) = (x : Int) := by rw [IntWalk.u64_in _ (by omega)]; omega
      have hb3 : (0 : Int) < (b : Int) := by omega
      by_cases h1 : x ≤ 2642245
      · obtain ⟨c1, c2⟩ := cube_bd h1
        obtain ⟨q, hq⟩ : ∃ q, x * x = q := ⟨_, rfl⟩
        rw [hq] at c1 c2
        obtain ⟨p, hp⟩ : ∃ p, q * x = p := ⟨_, rfl⟩
        rw [hp] at c2
        have w1 : IntKind.u64.wrap ((x : Int) * x) = (q : Int) := by rw [← Int.natCast_mul, hq]; exact IntWalk.u64_in _ (by omega)
        have w2 : IntKind.u64.wrap ((q : Int) * x) = (p : Int) := by rw [← Int.natCast_mul, hp]; exact IntWalk.u64_in _ (by omega)
        have i1 : (x : Int) ≤ 2642245 := by omega
        by_cases h2 : p ≤ n
        · have hs : rstp n b r = x := by rw [rstp, if_pos ⟨by omega, by rw [hx, hq, hp]; exact h2⟩, hx]
          rw [hs] at hS hM hL
          have i2 : (p : Int) ≤ (n : Int) := by omega
          clear hq hp hs h1 h2
          go_wp2
          go_round
          case rel => exact ⟨j, x, b / 2, by omega, by go_num, by go_num, hB2, hS, hM, hL⟩
          case measure => simp [intOf]; omega
        · have hs : rstp n b r = r := by rw [rstp, if_neg (fun h => h2 (by have := h.2; rw [hx, hq, hp] at this; exact this))]
          rw [hs] at hS hM hL
          have i2 : ¬ ((p : Int) ≤ (n : Int)) := by omega
          clear hq hp hs h1 h2
          go_wp2
          go_round
          case rel => exact ⟨j, r, b / 2, by omega, by go_num, by go_num, hB2, hS, hM, hL⟩
          case measure => simp [intOf]; omega
      · have hs : rstp n b r = r := by rw [rstp, if_neg (fun h => h1 (by omega))]
        rw [hs] at hS hM hL
        have i1 : ¬ ((x : Int) ≤ 2642245) := by omega
        clear hs h1
        go_wp2
        go_round
        case rel => exact ⟨j, r, b / 2, by omega, by go_num, by go_num, hB2, hS, hM, hL⟩
        case measure => simp [intOf]; omega

set_option maxHeartbeats 1000000 in
theorem rroot_l (n R : Nat) (hR : IsC n R) (w : World) :
    Calls Try.prog 29 #[.int .u64 n] w fun e w' => e = .returned (.int .u64 R) ∧ w = w' := by
  have HR : Hid (rrun n 22 0 = R) := Lib.hid hR.eq
  clear hR
  go_enter Try.func29, Try.ntmps29
  go_wp2
  go_loop [3, 4] (fun ro bi => ∃ j r b : Nat, j ≤ 22 ∧ ro = .int .u64 r ∧ bi = .int .u64 b ∧ Hid (b = 2 ^ j / 2) ∧ Hid (rrun n j r = R) ∧ Hid (r % 2 ^ j = 0) ∧ r ≤ 2642245) (fun _ bi => (intOf bi).toNat)
  case atStart => exact ⟨22, 0, 2097152, by omega, rfl, rfl, Lib.hid (by decide), HR, Lib.hid (by decide), by omega⟩
  case round =>
    obtain ⟨j, r, b, hj, rfl, rfl, hb, hR, hm, hr⟩ := hrel
    cases j with
    | zero =>
      obtain rfl : b = 0 := hb.out
      have e : r = R := hR.out
      subst e
      go_wp2
      go_ret
      exact ⟨rfl, rfl⟩
    | succ j =>
      have hb2 : b = 2 ^ j := by rw [hb.out, Nat.pow_succ]; omega
      have hj2 : j < 22 := by omega
      have hb0 : 0 < b := by rw [hb2]; exact Nat.two_pow_pos j
      have hb1 : b ≤ 2097152 := by rw [hb2]; exact pow22 j hj2
      have hor : bits .or .u64 (r : Int) (b : Int) = ((r + b : Nat) : Int) := by rw [hb2]; exact or64 r j hm.out hr hj2
      have hS : Hid (rrun n j (rstp n b r) = R) := Lib.hid (by rw [hb2]; exact hR.out)
      have hM : Hid (rstp n b r % 2 ^ j = 0) := Lib.hid (by rw [hb2]; exact step_mod n j r hm.out)
      have hL := step_le n b r hr
      have hB2 : Hid (b / 2 = 2 ^ j / 2) := Lib.hid (by rw [hb2])
      clear hb hR hm hb2
      obtain ⟨x, hx⟩ : ∃ x, r + b = x := ⟨_, rfl⟩
      rw [hx] at hor
      have had : IntKind.u64.wrap ((r : Int) + b) = (x : Int) := by rw [IntWalk.u64_in _ (by omega)]; omega
      have hb3 : (0 : Int) < (b : Int) := by omega
      by_cases h1 : x ≤ 2642245
      · obtain ⟨c1, c2⟩ := cube_bd h1
        obtain ⟨q, hq⟩ : ∃ q, x * x = q := ⟨_, rfl⟩
        rw [hq] at c1 c2
        obtain ⟨p, hp⟩ : ∃ p, q * x = p := ⟨_, rfl⟩
        rw [hp] at c2
        have w1 : IntKind.u64.wrap ((x : Int) * x) = (q : Int) := by rw [← Int.natCast_mul, hq]; exact IntWalk.u64_in _ (by omega)
        have w2 : IntKind.u64.wrap ((q : Int) * x) = (p : Int) := by rw [← Int.natCast_mul, hp]; exact IntWalk.u64_in _ (by omega)
        have i1 : (x : Int) ≤ 2642245 := by omega
        by_cases h2 : p ≤ n
        · have hs : rstp n b r = x := by rw [rstp, if_pos ⟨by omega, by rw [hx, hq, hp]; exact h2⟩, hx]
          rw [hs] at hS hM hL
          have i2 : (p : Int) ≤ (n : Int) := by omega
          clear hq hp hs h1 h2
          go_wp2
          go_round
          case rel => exact ⟨j, x, b / 2, by omega, by go_num, by go_num, hB2, hS, hM, hL⟩
          case measure => simp [intOf]; omega
        · have hs : rstp n b r = r := by rw [rstp, if_neg (fun h => h2 (by have := h.2; rw [hx, hq, hp] at this; exact this))]
          rw [hs] at hS hM hL
          have i2 : ¬ ((p : Int) ≤ (n : Int)) := by omega
          clear hq hp hs h1 h2
          go_wp2
          go_round
          case rel => exact ⟨j, r, b / 2, by omega, by go_num, by go_num, hB2, hS, hM, hL⟩
          case measure => simp [intOf]; omega
      · have hs : rstp n b r = r := by rw [rstp, if_neg (fun h => h1 (by omega))]
        rw [hs] at hS hM hL
        have i1 : ¬ ((x : Int) ≤ 2642245) := by omega
        clear hs h1
        go_wp2
        go_round
        case rel => exact ⟨j, r, b / 2, by omega, by go_num, by go_num, hB2, hS, hM, hL⟩
        case measure => simp [intOf]; omega

end Go.Proofs.Ythkmphngfndebaa
