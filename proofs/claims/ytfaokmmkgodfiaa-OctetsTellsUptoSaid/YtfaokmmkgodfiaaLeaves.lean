/- What the small functions of octets answer: the width of a number, what a hexadecimal digit stands for. -/
import Derived.Test.YtfaokmmkgodfiaaProg
import Derived.Test.YtfaokmmkgodfiaaMath
import Derived.WalkKit
import Derived.Lib.Hide
import Derived.OwnWalk
namespace Go.Proofs.Ytfaokmmkgodfiaa
open Go.RowKit

/-- A number that a u64 holds is not turned by its wrap. -/
theorem u64_id (x : Nat) (h : x < 18446744073709551616) : IntKind.u64.wrap (x : Int) = x := IntWalk.u64_in _ (by omega)
theorem u64_div (m b : Nat) (h : m < 18446744073709551616) : IntKind.u64.wrap ((m : Int) / (b : Int)) = ((m / b : Nat) : Int) := by
  rw [show (m : Int) / (b : Int) = ((m / b : Nat) : Int) from rfl]
  exact u64_id _ (Nat.lt_of_le_of_lt (Nat.div_le_self _ _) h)

/-- 'width' answers a count of figures. -/
def WidAns (b n : Nat) (w : World) (e : Ending) (w' : World) : Prop := ∃ k : Nat, Mt.IsWid b n k ∧ k ≤ 64 ∧ e = .returned (.int .i64 k) ∧ w = w'

set_option maxHeartbeats 400000 in
theorem width_any (n b : Nat) (hb : 2 ≤ b) (hb' : b ≤ 256) (hn : n < 18446744073709551616) (w : World) :
    Calls Try.prog 23 #[.int .u64 n, .int .u64 b] w (WidAns b n w) := by
  go_enter Try.func23, Try.ntmps23
  go_wp2
  go_loop [0, 5] (fun x k => ∃ c : Nat, 1 ≤ c ∧ c ≤ 64 ∧ (c = 1 ∨ b ^ (c - 1) ≤ n) ∧ x = .int .u64 ((n / b ^ (c - 1) : Nat)) ∧ k = .int .i64 c) (fun x _ => (intOf x).toNat)
  case atStart => exact ⟨1, by omega, by omega, .inl rfl, by simp, rfl⟩
  case round =>
    obtain ⟨c, hc, hc', h2, rfl, rfl⟩ := hrel
    have hle : n / b ^ (c - 1) ≤ n := Nat.div_le_self _ _
    obtain ⟨m, hm⟩ : ∃ m, n / b ^ (c - 1) = m := ⟨_, rfl⟩
    rw [hm] at hle ⊢
    have hq := u64_div m b (by omega)
    have Hq := Lib.hid hq; clear hq
    have Hm := Lib.hid hm; clear hm
    have H2 := Lib.hid h2; clear h2
    by_cases hge : b ≤ m
    · have hst := Mt.wid_step (b := b) (n := n) hc (by omega) (by rw [Hm.out]; exact hge)
      have Hst := Lib.hid hst; clear hst
      go_wp2
      go_round
      case rel =>
        refine ⟨c + 1, by omega, Mt.wid_le hb hn (.inr ?_), .inr ?_, ?_, by go_num⟩
        · exact Hst.out.1
        · exact Hst.out.1
        · rw [Hq.out, ← Hm.out, Nat.add_sub_cancel]; rw [Hst.out.2]
      case measure =>
        rw [Hq.out]
        simp [intOf]
        exact Nat.div_lt_self (by omega) (by omega)
    · go_wp2
      go_ret
      exact ⟨c, Mt.wid_end hc (by omega) (by rw [Hm.out]; omega) H2.out, hc', rfl, rfl⟩

/-- What a hexadecimal digit stands for; none: no digit. -/
def nib (c : Nat) : Option Nat := if 48 ≤ c ∧ c ≤ 57 then some (c - 48) else if 97 ≤ c ∧ c ≤ 102 then some (c - 87) else if 65 ≤ c ∧ c ≤ 70 then some (c - 55) else none

set_option maxHeartbeats 400000 in
theorem nibble_any (c : Nat) (hc : c < 256) (w : World) :
    Calls Try.prog 27 #[.int .u8 c] w fun e w' => e = .returned (.tuple #[.int .u8 ((nib c).getD 0 : Nat), .bool (nib c).isSome]) ∧ w = w' := by
  by_cases h1 : 48 ≤ c <;> by_cases h2 : c ≤ 57 <;> by_cases h3 : 97 ≤ c <;> by_cases h4 : c ≤ 102 <;> by_cases h5 : 65 ≤ c <;> by_cases h6 : c ≤ 70
  all_goals first
    | (exfalso; omega)
    | (go_enter Try.func27, Try.ntmps27
       go_wp2
       go_ret2
       refine ⟨?_, rfl⟩
       simp [nib, h1, h2, h3, h4, h5, h6]
       try omega)

theorem num_any (e : Int) (w : World) : Calls Try.prog 16 #[.int .i64 e] w fun r w' => r = .returned (.int .i64 e) ∧ w = w' := by
  go_enter Try.func16, Try.ntmps16
  go_wp2
  go_ret
  exact ⟨rfl, rfl⟩
end Go.Proofs.Ytfaokmmkgodfiaa
