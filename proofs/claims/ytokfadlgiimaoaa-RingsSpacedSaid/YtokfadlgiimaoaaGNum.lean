/- A number out of octets, by the document's own answer; a part of a list. -/
import Derived.Test.YtokfadlgiimaoaaGBts
namespace Go.Proofs.Ytokfadlgiimaoaa
open Go.RowKit

theorem or_low64 (m x : Nat) (hm : m < 72057594037927936) (hx : x < 256) : bits .or .u64 ((m : Int) * 256) (x : Int) = ((m * 256 + x : Nat) : Int) := by
  rw [show (m : Int) * 256 = ((m * 256 : Nat) : Int) by omega, u64_or_nat _ _ (by omega) (by omega)]
  have h := Nat.shiftLeft_add_eq_or_of_lt (i := 8) (b := x) (by omega) m
  rw [Nat.shiftLeft_eq] at h
  rw [← h]

set_option maxHeartbeats 400000 in
theorem number_any (a : Option Addr) (xs : List Nat) (cap : Nat) (w : World) (h : Bts w a xs) (hhi : xs.length ≤ 8) :
    Calls Try.prog 46 #[.slice a xs.length cap] w fun e w' => e = .returned (.int .u64 (Mt.numOf xs : Nat)) ∧ w = w' := by
  obtain ⟨h1, h2⟩ := h
  have H2 := Lib.hid h2; clear h2
  have H1 := Lib.hid h1; clear h1
  go_enter Try.func46, Try.ntmps46
  go_wp2
  go_loop [3, 4] (fun n i => ∃ k : Nat, k ≤ xs.length ∧ i = .int .i64 k ∧ n = .int .u64 (Mt.numOf (xs.take k) : Nat)) (fun _ i => xs.length - (intOf i).toNat)
  case atStart => exact ⟨0, by omega, rfl, rfl⟩
  case round =>
    obtain ⟨k, hk, rfl, rfl⟩ := hrel
    obtain ⟨m, hm⟩ : ∃ m, Mt.numOf (xs.take k) = m := ⟨_, rfl⟩
    rw [hm]
    by_cases hkl : k < xs.length
    · obtain ⟨b, off, rfl, hlt, hc⟩ : ∃ b off, a = some ⟨b, off, none⟩ ∧ b < w.heap.size ∧ ∀ i, i < xs.length → w.cell? ⟨b, off + i, none⟩ = some (.int .u8 (xs.getD i 0 : Nat)) := by
        rcases H2.out with h | h
        · subst h; simp at hkl
        · exact h
      have hml : m < 256 ^ k := by
        have := Mt.numOf_lt (xs.take k) (fun y hy => H1.out y (List.mem_of_mem_take hy))
        rwa [List.length_take, Nat.min_eq_left hk, hm] at this
      have hm7 : m < 72057594037927936 := Nat.lt_of_lt_of_le hml (Nat.le_trans (Nat.pow_le_pow_right (by omega) (by omega : k ≤ 7)) (by decide))
      have hx := H1.out _ (Mt.getD_mem xs k hkl)
      have hsn := Mt.numOf_snoc (xs.take k) (xs.getD k 0)
      rw [← Mt.take_snoc xs k hkl, hm] at hsn
      have hor := or_low64 m (xs.getD k 0) hm7 hx
      have hcell := hc k hkl
      rw [← hsn] at hor
      generalize xs.getD k 0 = x at hcell hx hor hsn
      have Hor := Lib.hid hor; clear hor hsn hml hm hc
      go_wp2
      go_round
      case rel => exact ⟨k + 1, by omega, by go_num, by rw [Hor.out]⟩
      case measure => simp [intOf]; omega
    · obtain rfl : k = xs.length := by omega
      rw [List.take_length] at hm
      have Hm := Lib.hid hm; clear hm
      go_wp2
      go_ret
      exact ⟨by rw [Hm.out]; rfl, rfl⟩

end Go.Proofs.Ytokfadlgiimaoaa
