/- A bit of a segment turned: plain facts. -/
import Derived.Test.YtiamigajnnbdgaaTcpBack
import Derived.Test.YtiamigajnnbdgaaTcpM
import Derived.IntWalk
namespace Go.Proofs.Ytiamigajnnbdgaa
open Go.RowKit

theorem tturn_place (L j : Nat) (hL : L ≤ 70000) (h2 : j < 8 * L) : ∃ i s : Nat, s < 8 ∧ (j : Int) / 8 = (i : Int) ∧ (j : Int) % 8 = (s : Int) ∧ (j : Int).tdiv 8 = (i : Int) ∧ (j : Int).tmod 8 = (s : Int) ∧ i < L ∧ wrap64 (i : Int) = (i : Int) ∧ IntKind.i64.wrap (i : Int) = (i : Int) ∧ (0 : Int) ≤ (i : Int) :=
  ⟨j / 8, j % 8, by omega, rfl, rfl, rfl, rfl, by omega, IntWalk.wrap64_in _ (by omega), IntWalk.i64_in _ (by omega), by omega⟩

theorem tturn_pow (s : Nat) (h : s < 8) : ∃ pw : Nat, 2 ^ s = pw ∧ pw < 256 ∧ ((2 : Int) ^ s) % 256 = (pw : Int) ∧ ((2 : Int) ^ min (s : Int).toNat 8) % 256 = (pw : Int) := by
  obtain rfl | rfl | rfl | rfl | rfl | rfl | rfl | rfl : s = 0 ∨ s = 1 ∨ s = 2 ∨ s = 3 ∨ s = 4 ∨ s = 5 ∨ s = 6 ∨ s = 7 := by omega
  all_goals exact ⟨_, rfl, by omega, by simp, by simp⟩

theorem txor_bit_ne (x k : Nat) : x ^^^ 2 ^ k ≠ x := by
  intro h
  have h2 : x ^^^ (x ^^^ 2 ^ k) = x ^^^ x := by rw [h]
  rw [← Nat.xor_assoc, Nat.xor_self, Nat.zero_xor] at h2
  have := Nat.two_pow_pos k
  omega

theorem tturn_list (R : List Nat) (hx : ∀ x ∈ R, x < 256) (src dst : Nat) (hs : src < 4294967296) (hd : dst < 4294967296) (h : tcpSum R src dst = 65535) (i s pw : Nat) (hi : i < R.length) (_ : s < 8) (hp : 2 ^ s = pw) (hp8 : pw < 256) :
    bits .xor .u8 ((R.getD i 0 : Nat) : Int) (pw : Int) = ((R.getD i 0 ^^^ pw : Nat) : Int) ∧ R.getD i 0 ^^^ pw < 256 ∧ (R.set i (R.getD i 0 ^^^ pw)).length = R.length ∧ ¬ TcpOk (R.set i (R.getD i 0 ^^^ pw)) src dst := by
  have hx1 := Mt.getD_lt R hx i
  have hv : R.getD i 0 ^^^ pw < 256 := Nat.xor_lt_two_pow (n := 8) hx1 hp8
  refine ⟨u8_xor_nat _ _ hx1 hp8, hv, List.length_set .., fun hok => ?_⟩
  refine tcp_told R hx src dst hs hd h i _ hi hv ?_ hok.2.2.2.2
  rw [← hp]; exact txor_bit_ne _ _

theorem tturn_w (n : Nat) (hn : 0 < n) (hn2 : n ≤ 560000) (a : Int) : wrap64 (a.tmod n + n) = a.tmod n + n ∧ 0 ≤ a.tmod n + n ∧ ∃ j : Nat, (a.tmod n + n).tmod n = (j : Int) ∧ j < n := by
  have t1 := Int.tmod_lt_of_pos a (show (0 : Int) < n by omega)
  have t2 := Int.lt_tmod_of_pos a (show (0 : Int) < n by omega)
  generalize a.tmod n = t at t1 t2
  refine ⟨IntWalk.wrap64_in _ (by omega), by omega, ((t + n) % n).toNat, ?_, ?_⟩
  · rw [Int.tmod_eq_emod_of_nonneg (by omega), Int.toNat_of_nonneg (Int.emod_nonneg _ (by omega))]
  · have h1 := Int.emod_nonneg (t + n) (show (n : Int) ≠ 0 by omega)
    have h2 := Int.emod_lt_of_pos (t + n) (show (0 : Int) < n by omega)
    omega

theorem psum_pos (s d : Nat) (n : Int) (hs : s < 4294967296) (hd : d < 4294967296) : 0 < Mt.tot (psW s d 6 n) ∧ Mt.tot (psW s d 6 n) ≤ 65535 := by
  have h := psW_le s d 6 n hs hd (by omega)
  refine ⟨?_, Mt.tot_le _ h⟩
  rw [Mt.tot_norm _ h]
  refine Nat.pos_of_ne_zero fun e => ?_
  rw [Mt.norm_zero] at e
  simp [psW] at e

/-- From another address, just those of the same sum are taken. -/
theorem tcp_other (R : List Nat) (hx : ∀ x ∈ R, x < 256) (src dst other : Nat) (hs : src < 4294967296) (hd : dst < 4294967296) (ho : other < 4294967296) (h : tcpSum R src dst = 65535) : tcpSum R other dst = 65535 ↔ Mt.tot (psW src dst 6 (R.length : Nat)) = Mt.tot (psW other dst 6 (R.length : Nat)) := by
  have p1 := psum_pos src dst (R.length : Nat) hs hd
  have p2 := psum_pos other dst (R.length : Nat) ho hd
  rw [tcpSum_norm _ hx src dst hs hd, Mt.norm_full] at h
  rw [tcpSum_norm _ hx other dst ho hd, Mt.norm_full]
  omega
end Go.Proofs.Ytiamigajnnbdgaa
