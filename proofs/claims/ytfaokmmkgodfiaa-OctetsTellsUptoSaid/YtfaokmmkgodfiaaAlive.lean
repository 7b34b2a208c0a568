/- The page's examples hold: Put of 258 in two octets, of 256 in one, Unhex of a text with a wrong digit, ParseInt of the least int. -/
import Derived.Test.YtfaokmmkgodfiaaParse
import Derived.Test.YtfaokmmkgodfiaaUnhex
namespace Go.Proofs.Ytfaokmmkgodfiaa
open Go.RowKit

theorem octs_lt (n k : Nat) : ∀ x ∈ Mt.octs n k, x < 256 := by
  intro x hx
  unfold Mt.octs at hx
  obtain ⟨i, _, rfl⟩ := List.mem_map.1 hx
  exact Nat.mod_lt _ (by omega)

/-- A row of one's own reads as its octets. -/
theorem row_bts {w : World} {B g cap : Nat} {xs : List Nat} (h : w.ownsRow B 5 1 (.slice (some ⟨g, 0, none⟩) xs.length cap) xs.length (xs.map fun x => Value.int .u8 (x : Nat))) (hx : ∀ x ∈ xs, x < 256) : Bts w (some ⟨g, 0, none⟩) xs := by
  refine ⟨hx, .inr ⟨g, 0, rfl, (h.lt g rfl).2, fun i hi => ?_⟩⟩
  rw [Nat.zero_add, h.cellAt i (by omega), List.getElem?_map, List.getD_eq_getElem?_getD, List.getElem?_eq_getElem hi]
  rfl

theorem unhex_0g (w : World) : Calls Try.prog 13 #[.string { data := #[48, 103] }] w fun e w' => e = .returned (.tuple #[.slice none 0 0, .int .i64 11, .int .i64 1]) ∧ w = w' := by
  refine (unhex_any { data := #[48, 103] } w (by decide)).mono ?_
  have h0 : nib (byteAt { data := #[48, 103] } 0) = some 0 := by decide +kernel
  have h1 : nib (byteAt { data := #[48, 103] } 1) = none := by decide +kernel
  rintro e w' (⟨k, hk, hall, hn, rfl, rfl⟩ | ⟨hall, _⟩)
  · have hk2 : k < 2 := hk
    rcases (by omega : k = 0 ∨ k = 1) with rfl | rfl
    · rw [h0] at hn; cases hn
    · exact ⟨rfl, rfl⟩
  · have := hall 1 (by decide)
    rw [h1] at this; cases this

theorem parse_least (w : World) : Calls Try.prog 11 #[.string { data := #[45, 57, 50, 50, 51, 51, 55, 50, 48, 51, 54, 56, 53, 52, 55, 55, 53, 56, 48, 56] }] w fun e w' => e = .returned (.tuple #[.int .i64 (-9223372036854775808), .int .i64 0]) ∧ Below w.heap.size w w' := by
  refine (parse_any _ w (by decide)).mono ?_
  have h0 : parsed { data := #[45, 57, 50, 50, 51, 51, 55, 50, 48, 51, 54, 56, 53, 52, 55, 55, 53, 56, 48, 56] } = -9223372036854775808 := by decide +kernel
  have h1 : strO (Mt.dec (-9223372036854775808)) = { data := #[45, 57, 50, 50, 51, 51, 55, 50, 48, 51, 54, 56, 53, 52, 55, 55, 53, 56, 48, 56] } := by decide +kernel
  rintro e w' ⟨he, hb⟩
  rw [h0, if_pos h1] at he
  exact ⟨he, hb⟩

theorem put_258 (w : World) : Calls Try.prog 7 #[.int .u64 258, .int .i64 2] w fun e w' => ∃ g cap, e = .returned (.tuple #[.slice (some ⟨g, 0, none⟩) 2 cap, .int .i64 0]) ∧ Bts w' (some ⟨g, 0, none⟩) [1, 2] ∧ Below w.heap.size w w' := by
  refine (put_any 258 2 (by omega) (by omega) (by omega) w).mono ?_
  rintro e w' (⟨k, hk, _, _, _, g, cap, _, rfl, hrow, hb⟩ | ⟨hno, _⟩)
  · obtain rfl : k = 2 := by omega
    exact ⟨g, cap, rfl, row_bts (xs := [1, 2]) (B := w.heap.size) (cap := cap) hrow (by decide), hb⟩
  · exact absurd ⟨2, rfl, by omega, by omega, by decide⟩ hno

theorem put_256 (w : World) : Calls Try.prog 7 #[.int .u64 256, .int .i64 1] w fun e w' => e = .returned (.tuple #[.slice none 0 0, .int .i64 4]) ∧ w = w' := by
  refine (put_any 256 1 (by omega) (by omega) (by omega) w).mono ?_
  rintro e w' (⟨k, hk, _, _, h, _⟩ | ⟨_, rfl, rfl⟩)
  · obtain rfl : k = 1 := by omega
    simp at h
  · exact ⟨rfl, rfl⟩

set_option maxHeartbeats 1000000 in
theorem alive_any (w : World) : Calls Try.prog 21 #[] w fun e w' => e = .returned (.bool true) ∧ Below w.heap.size w w' := by
  go_enter Try.func21, Try.ntmps21
  go_wp2_with fail
  refine (put_258 _).mono ?_
  rintro e w1 ⟨g, cap, rfl, hb1, hw1⟩
  have Hb1 := Lib.hid hb1; clear hb1
  go_wp2_with fail
  refine (put_256 _).mono ?_
  rintro e w' ⟨rfl, rfl⟩
  go_wp2_with fail
  refine (unhex_0g _).mono ?_
  rintro e w' ⟨rfl, rfl⟩
  go_wp2_with fail
  refine (parse_least _).mono ?_
  rintro e w2 ⟨rfl, hw2⟩
  have Hb2 := Lib.hid (Hb1.out.below hw2); clear Hb1
  have hw := hw1.trans (hw2.mono hw1.size)
  clear hw1 hw2
  go_wp2_with (go_at_call 16; refine (num_any _ _).mono ?_; rintro e w' ⟨rfl, rfl⟩)
  have h12 : Bts (w2.alloc (.cells #[.int .u8 1, .int .u8 2] 5)) (some ⟨w2.heap.size, 0, none⟩) [1, 2] := by
    refine ⟨by decide, .inr ⟨w2.heap.size, 0, rfl, by simp, fun i hi => ?_⟩⟩
    rcases (show i = 0 ∨ i = 1 by simp at hi; omega) with rfl | rfl <;> simp
  have hb3 := Hb2.out.below ((Below.refl _ w2).alloc (Nat.le_refl _) (.cells #[.int .u8 1, .int .u8 2] 5))
  have hsame := same_any (some ⟨g, 0, none⟩) (some ⟨w2.heap.size, 0, none⟩) [1, 2] [1, 2] cap 2 _ hb3 h12 (by decide) (by decide)
  have Hs := Lib.hid hsame; clear hsame hb3 h12 Hb2
  refine Hs.out.mono ?_
  rintro e w3 ⟨rfl, hw3⟩
  have hwf : Below w.heap.size w w3 := (hw.alloc hw.size _).trans (hw3.mono (by have := hw.size; simp; omega))
  clear hw hw3 Hs
  go_wp2_with (go_at_call 16; refine (num_any _ _).mono ?_; rintro e w' ⟨rfl, rfl⟩)
  go_ret
  exact ⟨rfl, hwf⟩
end Go.Proofs.Ytfaokmmkgodfiaa
