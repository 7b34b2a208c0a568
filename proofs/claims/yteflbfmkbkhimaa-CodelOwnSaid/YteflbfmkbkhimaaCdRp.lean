/- Codel: square roots, bit by bit. -/
import Derived.Test.YteflbfmkbkhimaaGBase
import Derived.Test.YteflbfmkbkhimaaCdM
import Derived.Laws.BitsAllLaws
import Derived.LoopTactic
namespace Go.Proofs.Yteflbfmkbkhimaa
open Go.RowKit Go.Proofs.Yteflbfmkbkhimaa.Cd

theorem or64 (r j : Nat) (h : r % 2 ^ (j + 1) = 0) (hr : r + 2 ^ (j + 1) ≤ 4294967296) (hj : j < 32) : bits .or .u64 (r : Int) ((2 ^ j : Nat) : Int) = ((r + 2 ^ j : Nat) : Int) := by
  have hp := pow32 j hj
  have h2 := u64_or_nat r (2 ^ j) (by omega) (by omega)
  rw [or_step r j h] at h2
  exact h2
set_option maxHeartbeats 1000000 in
theorem root_l (n R : Nat) (hR : IsS n R) (w : World) :
    Calls Try.prog 12 #[.int .u64 n] w fun e w' => e = .returned (.int .u64 R) ∧ w = w' := by
  have HR : Hid (srun n 32 0 = R) := Lib.hid hR.eq
  clear hR
  go_enter Try.func12, Try.ntmps12
  go_wp2
  go_loop [3, 4] (fun ro bi => ∃ j r b : Nat, j ≤ 32 ∧ ro = .int .u64 r ∧ bi = .int .u64 b ∧ Hid (b = 2 ^ j / 2) ∧ Hid (Sm (srun n j r) R) ∧ Hid (r % 2 ^ j = 0) ∧ Hid (r + 2 ^ j ≤ 4294967296)) (fun _ bi => (intOf bi).toNat)
  case atStart => exact ⟨32, 0, 2147483648, by omega, rfl, rfl, Lib.hid (by decide), Lib.hid ⟨HR.out⟩, Lib.hid (by decide), Lib.hid (by decide)⟩
  case round =>
    obtain ⟨j, r, b, hj, rfl, rfl, hb, hR, hm, hr⟩ := hrel
    cases j with
    | zero =>
      obtain rfl : b = 0 := hb.out
      have e : r = R := hR.out.eq
      subst e
      go_wp2
      go_ret
      exact ⟨rfl, rfl⟩
    | succ j =>
      have hb2 : b = 2 ^ j := by rw [hb.out, Nat.pow_succ]; omega
      have hj2 : j < 32 := by omega
      have hb0 : 0 < b := by rw [hb2]; exact Nat.two_pow_pos j
      have hor : bits .or .u64 (r : Int) (b : Int) = ((r + b : Nat) : Int) := by rw [hb2]; exact or64 r j hm.out hr.out hj2
      have hS : Hid (Sm (srun n j (sstp n b r)) R) := Lib.hid ⟨by rw [hb2]; exact hR.out.eq⟩
      have hM : Hid (sstp n b r % 2 ^ j = 0) := Lib.hid (by rw [hb2]; exact sstp_mod n j r hm.out)
      have hL : Hid (sstp n b r + 2 ^ j ≤ 4294967296) := Lib.hid (by rw [hb2]; exact sstp_le n j r hr.out)
      have hB2 : Hid (b / 2 = 2 ^ j / 2) := Lib.hid (by rw [hb2])
      have hx0 : r + b ≤ 4294967295 := by have := hr.out; rw [Nat.pow_succ] at this; omega
      clear hb hR hm hb2 hr
      obtain ⟨x, hx⟩ : ∃ x, r + b = x := ⟨_, rfl⟩
      rw [hx] at hor hx0
      have had : IntKind.u64.wrap ((r : Int) + b) = (x : Int) := by rw [IntWalk.u64_in _ (by omega)]; omega
      have hb3 : (0 : Int) < (b : Int) := by omega
      have c1 := sq_bd hx0
      obtain ⟨q, hq⟩ : ∃ q, x * x = q := ⟨_, rfl⟩
      rw [hq] at c1
      have w1 : IntKind.u64.wrap ((x : Int) * x) = (q : Int) := by rw [← Int.natCast_mul, hq]; exact IntWalk.u64_in _ (by omega)
      by_cases h2 : q ≤ n
      · have hs : sstp n b r = x := by rw [sstp, if_pos (by rw [hx, hq]; exact h2), hx]
        rw [hs] at hS hM hL
        have i2 : (q : Int) ≤ (n : Int) := by omega
        clear hq hs h2 hx0 c1
        go_wp2
        go_round
        case rel => exact ⟨j, x, b / 2, by omega, by go_num, by go_num, hB2, hS, hM, hL⟩
        case measure => simp [intOf]; omega
      · have hs : sstp n b r = r := by rw [sstp, if_neg (fun h => h2 (by rw [hx, hq] at h; exact h))]
        rw [hs] at hS hM hL
        have i2 : ¬ ((q : Int) ≤ (n : Int)) := by omega
        clear hq hs h2 hx0 c1
        go_wp2
        go_round
        case rel => exact ⟨j, r, b / 2, by omega, by go_num, by go_num, hB2, hS, hM, hL⟩
        case measure => simp [intOf]; omega

end Go.Proofs.Yteflbfmkbkhimaa
