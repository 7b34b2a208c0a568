/- A number out of octets, by the document's own answer; a part of a list. -/
import Derived.Test.YtokfadlgiimaoaaGBts
namespace Go.Proofs.Ytokfadlgiimaoaa
open Go.RowKit

theorem or_low64 (m x : Nat) (hm : m < 72057594037927936) (hx : x < 256) : bits .or .u64 ((m : Int) * 256) (x : Int) = ((m * 256 + x : Nat) : Int) := by
  rw [show (m : Int) * 256 = ((m * 256 : Nat) : Int) by omega, u64_or_nat _ _ (by omega) (by omega)]
  have h := Nat.shiftLeft_add_eq_or_of_lt (i := 8) (b := x) (by omega) m
  rw [Nat.shiftLeft_eq] at h
  rw [← h]

set_option maxHeartbeats 400000 in
theorem number_any (a : Option Addr) (xs : List Nat) (cap : Nat) (w : World) (h : Bts w a xs) (hhi : xs.length ≤ 8) :
    Calls Try.prog 46 #[.slice a xs.length cap] w fun e w' => e = .returned (.int .u64 (Mt.numOf xs : Nat)) ∧ w = w' := by
  obtain ⟨h1, h2⟩ := h
  have H2 := Lib.hid h2; clear h2
  have H1 := Lib.hid h1; clear h1
  go_enter Try.func46, Try.ntmps46
  go_wp2
  go_loop [3, 4] (fun n i => ∃ k : Nat, k ≤ xs.length ∧ i = .int .i64 k ∧ n = .int .u64 (Mt.numOf (xs.take k) : Nat)) (fun _ i => xs.length - (intOf i).toNat)
  case atStart => exact ⟨0, by omega, rfl, rfl⟩
  case round =>
    obtain ⟨k, hk, rfl, rfl⟩ := hrel
    obtain ⟨m, hm⟩ : ∃ m, Mt.numOf (xs.take k) = m := ⟨_, rfl⟩
    rw [hm]
    by_cases hkl : k < xs.length
    · obtain ⟨b, off, rfl, hlt, hc⟩ : ∃ b off, a = some ⟨b, off, none⟩ ∧ b < w.heap.size ∧ ∀ i, i < xs.length → w.cell? ⟨b, off + i, none⟩ = some (.int .u8 (xs.getD i 0 : Nat)) := by
        rcases H2.out with h | h
        · subst h; simp at hkl
        · exact h
      have hml : m < 256 ^ k := by
        have := Mt.numOf_lt (xs.take k) (fun y hy => H1.out y (List.mem_of_mem_take hy))
        rwa [List.length_take, Nat.min_eq_left hk, hm] at this
      have hm7 : m < 72057594037927936 := Nat.lt_of_lt_of_le hml (Nat.le_trans (Nat.pow_le_pow_right (by omega) (by omega : k ≤ 7)) (by decide))
      have hx := H1.out _ (Mt.getD_mem xs k hkl)
      have hsn := Mt.numOf_snoc (xs.take k) (xs.getD k 0)
      rw [← Mt.take_snoc xs k hkl, hm] at hsn
      have hor := or_low64 m (xs.getD k 0) hm7 hx
      have hcell := hc k hkl
      rw [← hsn] at hor
      generalize xs.getD k 0 = x at hcell hx hor hsn
      have Hor := Lib.hid hor; clear hor hsn hml hm hc
      go_wp2
      go_round
      case rel => exact ⟨k + 1, by omega, by go_num, by rw [Hor.out]⟩
      case measure => simp [intOf]; omega
    · obtain rfl : k = xs.length := by omega
      rw [List.take_length] at hm
      have Hm := Lib.hid hm; clear hm
      go_wp2
      go_ret
      exact ⟨by rw [Hm.out]; rfl, rfl⟩

end Go.Proofs.Ytokfadlgiimaoaa

namespace Go.Proofs.Ytokfadlgiimaoaa
open Go.RowKit

theorem u64_id (x : Nat) (h : x < 18446744073709551616) : IntKind.u64.wrap (x : Int) = x := IntWalk.u64_in _ (by omega)
theorem u64_div (m b : Nat) (h : m < 18446744073709551616) : IntKind.u64.wrap ((m : Int) / (b : Int)) = ((m / b : Nat) : Int) := by
  rw [show (m : Int) / (b : Int) = ((m / b : Nat) : Int) from rfl]
  exact u64_id _ (Nat.lt_of_le_of_lt (Nat.div_le_self _ _) h)

/-- 'width' answers a count of figures. -/
def WidAns (b n : Nat) (w : World) (e : Ending) (w' : World) : Prop := ∃ k : Nat, Mt.IsWid b n k ∧ k ≤ 64 ∧ e = .returned (.int .i64 k) ∧ w = w'

set_option maxRecDepth 100000 in
set_option maxHeartbeats 400000 in
theorem width_any (n b : Nat) (hb : 2 ≤ b) (hb' : b ≤ 256) (hn : n < 18446744073709551616) (w : World) :
    Calls Try.prog 68 #[.int .u64 n, .int .u64 b] w (WidAns b n w) := by
  go_enter Try.func68, Try.ntmps68
  go_wp2
  go_loop [0, 5] (fun x k => ∃ c : Nat, 1 ≤ c ∧ c ≤ 64 ∧ (c = 1 ∨ b ^ (c - 1) ≤ n) ∧ x = .int .u64 ((n / b ^ (c - 1) : Nat)) ∧ k = .int .i64 c) (fun x _ => (intOf x).toNat)
  case atStart => exact ⟨1, by omega, by omega, .inl rfl, by simp, rfl⟩
  case round =>
    obtain ⟨c, hc, hc', h2, rfl, rfl⟩ := hrel
    have hle : n / b ^ (c - 1) ≤ n := Nat.div_le_self _ _
    obtain ⟨m, hm⟩ : ∃ m, n / b ^ (c - 1) = m := ⟨_, rfl⟩
    rw [hm] at hle ⊢
    have hq := u64_div m b (by omega)
    have Hq := Lib.hid hq; clear hq
    have Hm := Lib.hid hm; clear hm
    have H2 := Lib.hid h2; clear h2
    by_cases hge : b ≤ m
    · have hst := Mt.wid_step (b := b) (n := n) hc (by omega) (by rw [Hm.out]; exact hge)
      have Hst := Lib.hid hst; clear hst
      go_wp2
      go_round
      case rel =>
        refine ⟨c + 1, by omega, Mt.wid_le hb hn (.inr ?_), .inr ?_, ?_, by go_num⟩
        · exact Hst.out.1
        · exact Hst.out.1
        · rw [Hq.out, ← Hm.out, Nat.add_sub_cancel]; rw [Hst.out.2]
      case measure =>
        rw [Hq.out]
        simp [intOf]
        exact Nat.div_lt_self (by omega) (by omega)
    · go_wp2
      go_ret
      exact ⟨c, Mt.wid_end hc (by omega) (by rw [Hm.out]; omega) H2.out, hc', rfl, rfl⟩

set_option maxRecDepth 100000 in
set_option maxHeartbeats 400000 in
/-- 'Get' of one octet to eight. -/
theorem get_ok (a : Option Addr) (xs : List Nat) (cap : Nat) (w : World) (h : Bts w a xs) (hlo : 1 ≤ xs.length) (hhi : xs.length ≤ 8) :
    Calls Try.prog 41 #[.slice a xs.length cap] w fun e w' => e = .returned (.tuple #[.int .u64 (Mt.numOf xs : Nat), .int .i64 0]) ∧ w = w' := by
  obtain ⟨h1, h2⟩ := h
  obtain ⟨b, off, rfl, hlt, hc⟩ : ∃ b off, a = some ⟨b, off, none⟩ ∧ b < w.heap.size ∧ ∀ i, i < xs.length → w.cell? ⟨b, off + i, none⟩ = some (.int .u8 (xs.getD i 0 : Nat)) := by
    rcases h2 with rfl | h2
    · simp at hlo
    · exact h2
  have Hc := Lib.hid hc; clear hc h2
  have H1 := Lib.hid h1; clear h1
  go_enter Try.func41, Try.ntmps41
  go_wp2
  go_loop [4, 16, 5] (fun n i _ => ∃ k : Nat, k ≤ xs.length ∧ i = .int .i64 k ∧ n = .int .u64 (Mt.numOf (xs.take k) : Nat)) (fun _ i _ => xs.length - (intOf i).toNat)
  case atStart => exact ⟨0, by omega, rfl, rfl⟩
  case round =>
    obtain ⟨k, hk, rfl, rfl⟩ := hrel
    obtain ⟨m, hm⟩ : ∃ m, Mt.numOf (xs.take k) = m := ⟨_, rfl⟩
    rw [hm]
    by_cases hkl : k < xs.length
    · have hml : m < 256 ^ k := by
        have := Mt.numOf_lt (xs.take k) (fun y hy => H1.out y (List.mem_of_mem_take hy))
        rwa [List.length_take, Nat.min_eq_left hk, hm] at this
      have hm7 : m < 72057594037927936 := Nat.lt_of_lt_of_le hml (Nat.le_trans (Nat.pow_le_pow_right (by omega) (by omega : k ≤ 7)) (by decide))
      have hx := H1.out _ (Mt.getD_mem xs k hkl)
      have hsn := Mt.numOf_snoc (xs.take k) (xs.getD k 0)
      rw [← Mt.take_snoc xs k hkl, hm] at hsn
      have hor := or_low64 m (xs.getD k 0) hm7 hx
      have hcell := Hc.out k hkl
      rw [← hsn] at hor
      generalize xs.getD k 0 = x at hcell hx hor hsn
      have Hor := Lib.hid hor; clear hor hsn hml hm
      go_wp2
      go_round
      case rel => exact ⟨k + 1, by omega, by go_num, by rw [Hor.out]⟩
      case measure => simp [intOf]; omega
    · obtain rfl : k = xs.length := by omega
      rw [List.take_length] at hm
      have Hm := Lib.hid hm; clear hm
      go_wp2
      go_ret2
      exact ⟨by rw [Hm.out]; rfl, rfl⟩

/-- 'Put' answers octets of its own making, or none. -/
def PutAns (n : Nat) (size : Int) (w : World) (e : Ending) (w' : World) : Prop :=
  (∃ k : Nat, size = k ∧ 1 ≤ k ∧ k ≤ 8 ∧ n < 256 ^ k ∧ e = .returned (.tuple #[.slice (some ⟨w.heap.size, 0, none⟩) k k, .int .i64 0]) ∧ w'.ownsRow w.heap.size 5 1 (.slice (some ⟨w.heap.size, 0, none⟩) k k) k ((Mt.octs n k).map (fun x => Value.int .u8 (x : Nat))) ∧ Below w.heap.size w w') ∨
  ((¬ ∃ k : Nat, size = k ∧ 1 ≤ k ∧ k ≤ 8 ∧ n < 256 ^ k) ∧ e = .returned (.tuple #[.slice none 0 0, .int .i64 4]) ∧ w = w')

set_option maxRecDepth 100000 in
set_option maxHeartbeats 400000 in
theorem put_any (n : Nat) (size : Int) (hn : n < 18446744073709551616) (hs0 : -9223372036854775808 ≤ size) (hs1 : size ≤ 9223372036854775807) (w : World) :
    Calls Try.prog 64 #[.int .u64 n, .int .i64 size] w (PutAns n size w) := by
  by_cases hlo : 1 ≤ size
  · by_cases hhi : size ≤ 8
    · obtain ⟨k, rfl⟩ := Int.eq_ofNat_of_zero_le (show 0 ≤ size by omega)
      go_enter Try.func64, Try.ntmps64
      obtain ⟨i0, hi, hz0, hz1, hz2⟩ := info_parts info5
      have Hz := Lib.hid hz2
      go_wp2_with (first | (go_at_call 68; refine (width_any _ 256 (by omega) (by omega) hn _).mono ?_; rintro e w' ⟨c, hc, hc', rfl, rfl⟩) | (at_make; refine wpList_make_full _ rfl _ _ 22 rfl w.heap.size 5 i0 (.int .u8 0) 1 Try.underlying22 hi hz0 hz1 .i64 .i64 _ _ k rfl rfl rfl rfl (by rw [Hz.out]; omega) (by unfold maxLen; omega) (Nat.le_refl _) ?_; intro w1 hown hgrow))
      · have hck : (↑k < (1 : Int) ∨ (8 : Int) < ↑k) ∨ k < c := by assumption
        have hck2 : k < c := by omega
        go_ret2
        refine .inr ⟨?_, rfl, rfl⟩
        rintro ⟨k', h1, h2, h3, h4⟩
        obtain rfl : k = k' := by omega
        exact Mt.not_wid hc hck2 ⟨h4, h2, by omega⟩
      · have hck0 : (1 ≤ (k : Int) ∧ (k : Int) ≤ 8) ∧ ¬ k < c := by assumption
        have hck := hck0.2
        have hnk : n < 256 ^ k := Mt.wid_fits hc (by omega) (by omega)
        have Hnk := Lib.hid hnk; clear hnk
        go_loopw [23, 7] (fun i _ wr => ∃ j : Nat, j ≤ k ∧ i = .int .i64 j ∧ wr.ownsRow w.heap.size 5 1 (.slice (some ⟨w.heap.size, 0, none⟩) k k) k ((Mt.part n k j).map (fun x => Value.int .u8 (x : Nat))) ∧ Below w.heap.size w wr) (fun i _ _ => k - (intOf i).toNat)
        case atStart =>
          refine ⟨0, by omega, rfl, ?_, (Below.refl _ _).grown hgrow (Nat.le_refl _) (fun k e => by cases e)⟩
          rw [Mt.part_zero, List.map_replicate]
          rw [made_list _ rfl, Nat.mul_one] at hown
          exact hown
        case round =>
          obtain ⟨j, hj, rfl, hro, hbe⟩ := hrel
          have Hro := Lib.hid hro; clear hro
          by_cases hlt : j < k
          · have hfz := Hro.out.frozenAt (k - 1 - j)
            have hca : wr.cell? ⟨w.heap.size, k - 1 - j, none⟩ = some (.int .u8 ((Mt.part n k j).getD (k - 1 - j) 0 : Nat)) := by
              rw [Hro.out.cellAt (k - 1 - j) (by omega)]
              have hl : k - 1 - j < (Mt.part n k j).length := by rw [Mt.part_length]; omega
              rw [List.getElem?_map, List.getD_eq_getElem?_getD, List.getElem?_eq_getElem hl]
              rfl
            generalize (Mt.part n k j).getD (k - 1 - j) 0 = old at hca
            have hst := Hro.out.stored (k - 1 - j) (.int .u8 ((n / 256 ^ j % 256 : Nat) : Int))
            rw [Mt.map_set, Mt.part_set n k j hlt] at hst
            have Hst := Lib.hid hst; clear hst
            go_wp2
            go_roundw
            case rel =>
              rw [Mt.shr_byte]
              exact ⟨j + 1, by omega, by go_num, Hst.out.1, hbe.setCell (p := ⟨w.heap.size, k - 1 - j, none⟩) (Nat.le_refl _) _⟩
            case measure => simp [intOf]; omega
          · obtain rfl : j = k := by omega
            have hro := Hro.out
            rw [Mt.part_all] at hro
            have Hr2 := Lib.hid hro; clear hro
            go_wp2
            go_ret2
            exact .inl ⟨j, rfl, by omega, by omega, Hnk.out, rfl, Hr2.out, hbe⟩
    · go_enter Try.func64, Try.ntmps64
      go_wp2
      go_ret2
      exact .inr ⟨by rintro ⟨k, h⟩; omega, rfl, rfl⟩
  · go_enter Try.func64, Try.ntmps64
    go_wp2
    go_ret2
    exact .inr ⟨by rintro ⟨k, h⟩; omega, rfl, rfl⟩

/-- 'Put' of a number that fits. -/
theorem put_ok (n k : Nat) (hlo : 1 ≤ k) (hhi : k ≤ 8) (hn : n < 18446744073709551616) (hnk : n < 256 ^ k) (w : World) :
    Calls Try.prog 64 #[.int .u64 n, .int .i64 k] w fun e w' => e = .returned (.tuple #[.slice (some ⟨w.heap.size, 0, none⟩) k k, .int .i64 0]) ∧ OwnSl w.heap.size (some ⟨w.heap.size, 0, none⟩) (Mt.octs n k) k w' ∧ Below w.heap.size w w' := by
  refine (put_any n k hn (by omega) (by omega) w).mono ?_
  rintro e w' (⟨k', h1, _, _, _, rfl, hr, hb⟩ | ⟨h, _, _⟩)
  · obtain rfl : k = k' := by omega
    refine ⟨rfl, ⟨octs_lt n k, .inr ⟨_, rfl, Nat.le_refl _, ?_⟩⟩, hb⟩
    rw [Mt.octs_length]; exact hr
  · exact absurd ⟨k, rfl, hlo, hhi, hnk⟩ h
end Go.Proofs.Ytokfadlgiimaoaa
