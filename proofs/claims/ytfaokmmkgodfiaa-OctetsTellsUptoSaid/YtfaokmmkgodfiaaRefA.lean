/- What the document's own answers give: the value of a digit, numbers as octets and back. -/
import Derived.Test.YtfaokmmkgodfiaaSlices
namespace Go.Proofs.Ytfaokmmkgodfiaa
open Go.RowKit

/-- What 'value' answers: the digit's number, or -1. -/
def valI (c : Nat) : Int := match nib c with | some v => (v : Int) | none => -1

set_option maxHeartbeats 400000 in
theorem value_any (c : Nat) (hc : c < 256) (w : World) :
    Calls Try.prog 28 #[.int .u8 c] w fun e w' => e = .returned (.int .i64 (valI c)) ∧ w = w' := by
  by_cases h1 : 48 ≤ c <;> by_cases h2 : c ≤ 57 <;> by_cases h3 : 97 ≤ c <;> by_cases h4 : c ≤ 102 <;> by_cases h5 : 65 ≤ c <;> by_cases h6 : c ≤ 70
  all_goals first
    | (exfalso; omega)
    | (go_enter Try.func28, Try.ntmps28
       go_wp2
       go_ret
       refine ⟨?_, rfl⟩
       simp [valI, nib, h1, h2, h3, h4, h5, h6]
       try omega)

set_option maxHeartbeats 400000 in
theorem number_any (a : Option Addr) (xs : List Nat) (cap : Nat) (w : World) (h : Bts w a xs) (hhi : xs.length ≤ 8) :
    Calls Try.prog 25 #[.slice a xs.length cap] w fun e w' => e = .returned (.int .u64 (Mt.numOf xs : Nat)) ∧ w = w' := by
  obtain ⟨h1, h2⟩ := h
  have H2 := Lib.hid h2; clear h2
  have H1 := Lib.hid h1; clear h1
  go_enter Try.func25, Try.ntmps25
  go_wp2
  go_loop [3, 4] (fun n i => ∃ k : Nat, k ≤ xs.length ∧ i = .int .i64 k ∧ n = .int .u64 (Mt.numOf (xs.take k) : Nat)) (fun _ i => xs.length - (intOf i).toNat)
  case atStart => exact ⟨0, by omega, rfl, rfl⟩
  case round =>
    obtain ⟨k, hk, rfl, rfl⟩ := hrel
    obtain ⟨m, hm⟩ : ∃ m, Mt.numOf (xs.take k) = m := ⟨_, rfl⟩
    rw [hm]
    by_cases hkl : k < xs.length
    · obtain ⟨b, off, rfl, hlt, hc⟩ : ∃ b off, a = some ⟨b, off, none⟩ ∧ b < w.heap.size ∧ ∀ i, i < xs.length → w.cell? ⟨b, off + i, none⟩ = some (.int .u8 (xs.getD i 0 : Nat)) := by
        rcases H2.out with h | h
        · subst h; simp at hkl
        · exact h
      have hml : m < 256 ^ k := by
        have := Mt.numOf_lt (xs.take k) (fun y hy => H1.out y (List.mem_of_mem_take hy))
        rwa [List.length_take, Nat.min_eq_left hk, hm] at this
      have hm7 : m < 72057594037927936 := Nat.lt_of_lt_of_le hml (Nat.le_trans (Nat.pow_le_pow_right (by omega) (by omega : k ≤ 7)) (by decide))
      have hx := H1.out _ (Mt.getD_mem xs k hkl)
      have hsn := Mt.numOf_snoc (xs.take k) (xs.getD k 0)
      rw [← Mt.take_snoc xs k hkl, hm] at hsn
      have hor := or_low64 m (xs.getD k 0) hm7 hx
      have hcell := hc k hkl
      rw [← hsn] at hor
      generalize xs.getD k 0 = x at hcell hx hor hsn
      have Hor := Lib.hid hor; clear hor hsn hml hm hc
      go_wp2
      go_round
      case rel => exact ⟨k + 1, by omega, by go_num, by rw [Hor.out]⟩
      case measure => simp [intOf]; omega
    · obtain rfl : k = xs.length := by omega
      rw [List.take_length] at hm
      have Hm := Lib.hid hm; clear hm
      go_wp2
      go_ret
      exact ⟨by rw [Hm.out]; rfl, rfl⟩

set_option maxHeartbeats 400000 in
theorem refget_any (a : Option Addr) (xs : List Nat) (cap : Nat) (w : World) (h : Bts w a xs) (hlen : xs.length ≤ 9223372036854775807) :
    Calls Try.prog 10 #[.slice a xs.length cap] w (GetAns xs w) := by
  by_cases hlo : 1 ≤ xs.length
  · by_cases hhi : xs.length ≤ 8
    · have hn := Lib.hid (number_any a xs cap w h hhi)
      clear h
      go_enter Try.func10, Try.ntmps10
      go_wp2_with (go_at_call 25; refine hn.out.mono ?_; rintro e w' ⟨rfl, rfl⟩)
      go_ret2
      exact ⟨by rw [if_pos ⟨hlo, hhi⟩]; rfl, rfl⟩
    · clear h
      go_enter Try.func10, Try.ntmps10
      go_wp2
      go_ret2
      exact ⟨by rw [if_neg (by omega)]; rfl, rfl⟩
  · clear h
    go_enter Try.func10, Try.ntmps10
    go_wp2
    go_ret2
    exact ⟨by rw [if_neg (by omega)]; rfl, rfl⟩

set_option maxHeartbeats 400000 in
theorem octets_any (n k : Nat) (hk : k ≤ 8) (w : World) :
    Calls Try.prog 24 #[.int .u64 n, .int .i64 k] w fun e w' => e = .returned (.slice (some ⟨w.heap.size, 0, none⟩) k k) ∧ w'.ownsRow w.heap.size 5 1 (.slice (some ⟨w.heap.size, 0, none⟩) k k) k ((Mt.octs n k).map fun x => Value.int .u8 (x : Nat)) ∧ Below w.heap.size w w' := by
  obtain ⟨i0, hi, hz0, hz1, hz2⟩ := info_parts info5
  have Hz := Lib.hid hz2
  go_enter Try.func24, Try.ntmps24
  go_wp2_with (at_make; refine wpList_make_full _ rfl _ _ 23 rfl w.heap.size 5 i0 (.int .u8 0) 1 Try.underlying23 hi hz0 hz1 .i64 .i64 _ _ k rfl rfl rfl rfl (by rw [Hz.out]; omega) (by unfold maxLen; omega) (Nat.le_refl _) ?_; intro w1 hown hgrow)
  go_loopw [0, 6] (fun m i wr => ∃ j : Nat, j ≤ k ∧ i = .int .i64 ((k : Int) - 1 - j) ∧ m = .int .u64 ((n / 256 ^ j : Nat)) ∧ wr.ownsRow w.heap.size 5 1 (.slice (some ⟨w.heap.size, 0, none⟩) k k) k ((Mt.part n k j).map (fun x => Value.int .u8 (x : Nat))) ∧ Below w.heap.size w wr) (fun _ i _ => (intOf i + 1).toNat)
  case atStart =>
    refine ⟨0, by omega, by simp, by simp, ?_, (Below.refl _ _).grown hgrow (Nat.le_refl _) (fun k e => by cases e)⟩
    rw [Mt.part_zero, List.map_replicate]
    rw [made_list _ rfl, Nat.mul_one] at hown
    exact hown
  case round =>
    obtain ⟨j, hj, rfl, rfl, hro, hbe⟩ := hrel
    clear hown hgrow
    have hle : n / 256 ^ j ≤ n := Nat.div_le_self _ _
    by_cases hlt : j < k
    · have hfz := hro.frozenAt (k - 1 - j)
      have hca : wr.cell? ⟨w.heap.size, k - 1 - j, none⟩ = some (.int .u8 ((Mt.part n k j).getD (k - 1 - j) 0 : Nat)) := by
        rw [hro.cellAt (k - 1 - j) (by omega)]
        have hl : k - 1 - j < (Mt.part n k j).length := by rw [Mt.part_length]; omega
        rw [List.getElem?_map, List.getD_eq_getElem?_getD, List.getElem?_eq_getElem hl]
        rfl
      generalize (Mt.part n k j).getD (k - 1 - j) 0 = old at hca
      have hst := hro.stored (k - 1 - j) (.int .u8 ((n / 256 ^ j % 256 : Nat) : Int))
      rw [Mt.map_set, Mt.part_set n k j hlt] at hst
      have Hst := Lib.hid hst; clear hst hro
      have hdd : n / 256 ^ (j + 1) = n / 256 ^ j / 256 := by rw [Nat.pow_succ, Nat.div_div_eq_div_mul]
      obtain ⟨m, hm⟩ : ∃ m, n / 256 ^ j = m := ⟨_, rfl⟩
      rw [hm] at hle hdd Hst ⊢
      have Hdd := Lib.hid hdd; clear hdd hm
      obtain ⟨i, hi2⟩ : ∃ i : Nat, (k : Int) - 1 - j = i := ⟨k - 1 - j, by omega⟩
      have hi3 : k - 1 - j = i := by omega
      rw [hi2]
      rw [hi3] at hca hfz Hst
      have Hi2 := Lib.hid hi2; clear hi2 hi3
      have hik : i < k := by have := Hi2.out; omega
      go_wp2
      go_roundw
      case rel => exact ⟨j + 1, by omega, congrArg (Value.int .i64) (by have := Hi2.out; omega), by rw [Hdd.out]; rfl, Hst.out.1, hbe.setCell (p := ⟨w.heap.size, i, none⟩) (Nat.le_refl _) _⟩
      case measure => simp [intOf]
    · obtain rfl : j = k := by omega
      rw [Mt.part_all] at hro
      have Hr2 := Lib.hid hro; clear hro
      obtain ⟨m, hm⟩ : ∃ m, n / 256 ^ j = m := ⟨_, rfl⟩
      rw [hm] at hle ⊢
      clear hm
      have e : (j : Int) - 1 - j = -1 := by omega
      rw [e]
      go_wp2
      go_ret
      exact ⟨rfl, Hr2.out, hbe⟩

theorem refput_no (n : Nat) (size : Int) (hn : n < 18446744073709551616) (hs0 : -9223372036854775808 ≤ size) (hs1 : size ≤ 9223372036854775807) (hf : ¬ fits n size) (w : World) :
    Calls Try.prog 8 #[.int .u64 n, .int .i64 size] w fun e w' => e = .returned (.tuple #[.slice none 0 0, .int .i64 4]) ∧ w = w' := by
  by_cases hlo : 1 ≤ size
  · by_cases hhi : size ≤ 8
    · obtain ⟨k, rfl⟩ := Int.eq_ofNat_of_zero_le (show 0 ≤ size by omega)
      have hbig : 256 ^ k ≤ n := by
        rcases Nat.lt_or_ge n (256 ^ k) with h | h
        · exact absurd ⟨k, rfl, by omega, by omega, h⟩ hf
        · exact h
      have hk8 : k < 8 := by
        rcases Nat.lt_or_ge k 8 with h | h
        · exact h
        · obtain rfl : k = 8 := by omega
          omega
      have hdiv : 1 ≤ n / 256 ^ k := (Nat.le_div_iff_mul_le (Nat.pow_pos (by omega))).2 (by omega)
      have e : (n : Int) / 2 ^ (8 * k) = ((n / 256 ^ k : Nat) : Int) := by
        have e : (2 : Int) ^ (8 * k) = ((256 ^ k : Nat) : Int) := by rw [Int.natCast_pow, Int.pow_mul]; rfl
        rw [e]; rfl
      clear hf hbig
      generalize n / 256 ^ k = d at hdiv e
      go_enter Try.func8, Try.ntmps8
      go_wp2
      go_ret2
      exact ⟨rfl, rfl⟩
    · clear hf
      go_enter Try.func8, Try.ntmps8
      go_wp2
      go_ret2
      exact ⟨rfl, rfl⟩
  · clear hf
    go_enter Try.func8, Try.ntmps8
    go_wp2
    go_ret2
    exact ⟨rfl, rfl⟩

theorem refput_yes (n k : Nat) (k1 : 1 ≤ k) (k2 : k ≤ 8) (hf : n < 256 ^ k) (w : World) :
    Calls Try.prog 8 #[.int .u64 n, .int .i64 k] w fun e w' => e = .returned (.tuple #[.slice (some ⟨w.heap.size, 0, none⟩) k k, .int .i64 0]) ∧ w'.ownsRow w.heap.size 5 1 (.slice (some ⟨w.heap.size, 0, none⟩) k k) k ((Mt.octs n k).map fun x => Value.int .u8 (x : Nat)) ∧ Below w.heap.size w w' := by
  have hdiv : n / 256 ^ k = 0 := Nat.div_eq_of_lt hf
  have e : (n : Int) / 2 ^ (8 * k) = 0 := by
    have e : (2 : Int) ^ (8 * k) = ((256 ^ k : Nat) : Int) := by rw [Int.natCast_pow, Int.pow_mul]; rfl
    rw [e]
    have : ((n / 256 ^ k : Nat) : Int) = 0 := by rw [hdiv]; rfl
    exact this
  have ho := Lib.hid (octets_any n k k2 w)
  clear hdiv hf
  by_cases hk8 : k < 8
  · go_enter Try.func8, Try.ntmps8
    go_wp2_with (go_at_call 24; refine ho.out.mono ?_; rintro e w' ⟨rfl, hr, hb⟩)
    go_ret2
    exact ⟨rfl, hr, hb⟩
  · clear e
    go_enter Try.func8, Try.ntmps8
    go_wp2_with (go_at_call 24; refine ho.out.mono ?_; rintro e w' ⟨rfl, hr, hb⟩)
    go_ret2
    exact ⟨rfl, hr, hb⟩
end Go.Proofs.Ytfaokmmkgodfiaa
