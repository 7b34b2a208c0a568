/- A number in so many octets, by the document's own answer. -/
import Derived.Test.YtokfadlgiimaoaaGBts
import Derived.WalkSpells
import Derived.WalkLawsBesides
import Derived.PlainAid
import Derived.WalkSmall
import Derived.LoopN
namespace Go.Proofs.Ytokfadlgiimaoaa
open Go.RowKit

set_option maxHeartbeats 400000 in
theorem octets_any (n k : Nat) (hk : k ≤ 8) (w : World) :
    Calls Try.prog 50 #[.int .u64 n, .int .i64 k] w fun e w' => e = .returned (.slice (some ⟨w.heap.size, 0, none⟩) k k) ∧ w'.ownsRow w.heap.size 5 1 (.slice (some ⟨w.heap.size, 0, none⟩) k k) k ((Mt.octs n k).map fun x => Value.int .u8 (x : Nat)) ∧ Below w.heap.size w w' := by
  obtain ⟨i0, hi, hz0, hz1, hz2⟩ := info_parts info5
  have Hz := Lib.hid hz2
  go_enter Try.func50, Try.ntmps50
  go_wp2_with (at_make; refine wpList_make_full _ rfl _ _ 22 rfl w.heap.size 5 i0 (.int .u8 0) 1 Try.underlying22 hi hz0 hz1 .i64 .i64 _ _ k rfl rfl rfl rfl (by rw [Hz.out]; omega) (by unfold maxLen; omega) (Nat.le_refl _) ?_; intro w1 hown hgrow)
  go_loopw [0, 6] (fun m i wr => ∃ j : Nat, j ≤ k ∧ i = .int .i64 ((k : Int) - 1 - j) ∧ m = .int .u64 ((n / 256 ^ j : Nat)) ∧ wr.ownsRow w.heap.size 5 1 (.slice (some ⟨w.heap.size, 0, none⟩) k k) k ((Mt.part n k j).map (fun x => Value.int .u8 (x : Nat))) ∧ Below w.heap.size w wr) (fun _ i _ => (intOf i + 1).toNat)
  case atStart =>
    refine ⟨0, by omega, by simp, by simp, ?_, (Below.refl _ _).grown hgrow (Nat.le_refl _) (fun k e => by cases e)⟩
    rw [Mt.part_zero, List.map_replicate]
    rw [made_list _ rfl, Nat.mul_one] at hown
    exact hown
  case round =>
    obtain ⟨j, hj, rfl, rfl, hro, hbe⟩ := hrel
    clear hown hgrow
    have hle : n / 256 ^ j ≤ n := Nat.div_le_self _ _
    by_cases hlt : j < k
    · have hfz := hro.frozenAt (k - 1 - j)
      have hca : wr.cell? ⟨w.heap.size, k - 1 - j, none⟩ = some (.int .u8 ((Mt.part n k j).getD (k - 1 - j) 0 : Nat)) := by
        rw [hro.cellAt (k - 1 - j) (by omega)]
        have hl : k - 1 - j < (Mt.part n k j).length := by rw [Mt.part_length]; omega
        rw [List.getElem?_map, List.getD_eq_getElem?_getD, List.getElem?_eq_getElem hl]
        rfl
      generalize (Mt.part n k j).getD (k - 1 - j) 0 = old at hca
      have hst := hro.stored (k - 1 - j) (.int .u8 ((n / 256 ^ j % 256 : Nat) : Int))
      rw [Mt.map_set, Mt.part_set n k j hlt] at hst
      have Hst := Lib.hid hst; clear hst hro
      have hdd : n / 256 ^ (j + 1) = n / 256 ^ j / 256 := by rw [Nat.pow_succ, Nat.div_div_eq_div_mul]
      obtain ⟨m, hm⟩ : ∃ m, n / 256 ^ j = m := ⟨_, rfl⟩
      rw [hm] at hle hdd Hst ⊢
      have Hdd := Lib.hid hdd; clear hdd hm
      obtain ⟨i, hi2⟩ : ∃ i : Nat, (k : Int) - 1 - j = i := ⟨k - 1 - j, by omega⟩
      have hi3 : k - 1 - j = i := by omega
      rw [hi2]
      rw [hi3] at hca hfz Hst
      have Hi2 := Lib.hid hi2; clear hi2 hi3
      have hik : i < k := by have := Hi2.out; omega
      go_wp2
      go_roundw
      case rel => exact ⟨j + 1, by omega, congrArg (Value.int .i64) (by have := Hi2.out; omega), by rw [Hdd.out]; rfl, Hst.out.1, hbe.setCell (p := ⟨w.heap.size, i, none⟩) (Nat.le_refl _) _⟩
      case measure => simp [intOf]
    · obtain rfl : j = k := by omega
      rw [Mt.part_all] at hro
      have Hr2 := Lib.hid hro; clear hro
      obtain ⟨m, hm⟩ : ∃ m, n / 256 ^ j = m := ⟨_, rfl⟩
      rw [hm] at hle ⊢
      clear hm
      have e : (j : Int) - 1 - j = -1 := by omega
      rw [e]
      go_wp2
      go_ret
      exact ⟨rfl, Hr2.out, hbe⟩


theorem oct_sl (n k : Nat) (hk : k ≤ 8) (w : World) : Calls Try.prog 50 #[.int .u64 n, .int .i64 k] w fun e w' => e = .returned (.slice (some ⟨w.heap.size, 0, none⟩) k k) ∧ OwnSl w.heap.size (some ⟨w.heap.size, 0, none⟩) (Mt.octs n k) k w' ∧ Below w.heap.size w w' := by
  refine (octets_any n k hk w).mono ?_
  rintro e w' ⟨rfl, hr, hb⟩
  refine ⟨rfl, ⟨octs_lt n k, .inr ⟨_, rfl, Nat.le_refl _, ?_⟩⟩, hb⟩
  rw [Mt.octs_length]; exact hr
theorem oct2_sl (n : Nat) (w : World) : Calls Try.prog 50 #[.int .u64 n, .int .i64 2] w fun e w' => e = .returned (.slice (some ⟨w.heap.size, 0, none⟩) 2 2) ∧ OwnSl w.heap.size (some ⟨w.heap.size, 0, none⟩) (Mt.octs n 2) 2 w' ∧ Below w.heap.size w w' := oct_sl n 2 (by omega) w

theorem oct4_sl (n : Nat) (w : World) : Calls Try.prog 50 #[.int .u64 n, .int .i64 4] w fun e w' => e = .returned (.slice (some ⟨w.heap.size, 0, none⟩) 4 4) ∧ OwnSl w.heap.size (some ⟨w.heap.size, 0, none⟩) (Mt.octs n 4) 4 w' ∧ Below w.heap.size w w' := oct_sl n 4 (by omega) w

theorem oct6_sl (n : Nat) (w : World) : Calls Try.prog 50 #[.int .u64 n, .int .i64 6] w fun e w' => e = .returned (.slice (some ⟨w.heap.size, 0, none⟩) 6 6) ∧ OwnSl w.heap.size (some ⟨w.heap.size, 0, none⟩) (Mt.octs n 6) 6 w' ∧ Below w.heap.size w w' := oct_sl n 6 (by omega) w
end Go.Proofs.Ytokfadlgiimaoaa
