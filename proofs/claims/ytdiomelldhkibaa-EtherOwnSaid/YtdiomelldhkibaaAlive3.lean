/- The page's example of ether holds. -/
import Derived.Test.YtdiomelldhkibaaEthAll
import Derived.Test.YtdiomelldhkibaaGPlain
namespace Go.Proofs.Ytdiomelldhkibaa.law3
open Go.RowKit

theorem num_any (e : Int) (w : World) : Calls Try.prog 26 #[.int .i64 e] w fun r w' => r = .returned (.int .i64 e) ∧ w = w' := by
  go_enter Try.func26, Try.ntmps26
  go_wp2
  go_ret
  exact ⟨rfl, rfl⟩

set_option maxRecDepth 100000 in
set_option maxHeartbeats 1000000 in
theorem alive_any (w : World) : Calls Try.prog 28 #[] w fun e w' => e = .returned (.bool true) ∧ Below w.heap.size w w' := by
  have q_0 := Below.refl w.heap.size w
  have c1 : ∀ W : World, Calls Try.prog 17 #[.agg #[.int .u64 1, .int .u64 2, .int .i64 2048, .slice none 0 0]] W fun e w' => ∃ a' cap', e = .returned (.tuple #[.slice a' 14 cap', .int .i64 0]) ∧ OwnSl W.heap.size a' [0, 0, 0, 0, 0, 1, 0, 0, 0, 0, 0, 2, 8, 0] cap' w' ∧ Below W.heap.size W w' := fun W => ethB_ok 1 2 2048 none [] 0 W (by decide) (by decide) (by decide) (Bts.nil _ _) (by decide)
  have c2 : ∀ W : World, Calls Try.prog 19 #[.agg #[.int .i64 1, .int .u64 3, .int .u32 4, .int .u64 0, .int .u32 5]] W fun e w' => ∃ a' cap', e = .returned (.tuple #[.slice a' 28 cap', .int .i64 0]) ∧ OwnSl W.heap.size a' (arpO 1 3 4 0 5) cap' w' ∧ Below W.heap.size W w' := fun W => arpB_ok 1 3 4 0 5 W (by decide) (by decide) (by decide) (by decide) (by decide)
  have C1 := Lib.hid c1
  have C2 := Lib.hid c2
  clear c1 c2
  go_enter Try.func28, Try.ntmps28
  go_wp2_with fail
  refine (C1.out _).mono ?_
  rintro e V1 ⟨a1, k1, rfl, O, b⟩
  have q_1 := q_0.trans (b.mono q_0.size)
  clear q_0
  have P_1 := Lib.hid (O)
  clear b
  clear O C1
  go_wp2_with fail
  refine (C2.out _).mono ?_
  rintro e V2 ⟨a2, k2, rfl, O, b⟩
  have P_2 := Lib.hid (P_1.out.below b)
  have q_2 := q_1.trans (b.mono q_1.size)
  clear P_1 q_1
  have R_2 := Lib.hid (O)
  clear b
  clear O C2
  obtain ⟨g2, rfl, _, _⟩ := R_2.out.isSome (by decide)
  go_wp2_with fail
  refine (num_any _ _).mono ?_
  rintro e w' ⟨rfl, rfl⟩
  go_wp2_with fail
  refine (num_any _ _).mono ?_
  rintro e w' ⟨rfl, rfl⟩
  go_wp2_with fail
  have Y := Lib.hid (bts_new V2 [0, 0, 0, 0, 0, 1, 0, 0, 0, 0, 0, 2, 8, 0] 5 (by decide))
  have b : Below V2.heap.size V2 (V2.alloc (.cells #[.int .u8 0, .int .u8 0, .int .u8 0, .int .u8 0, .int .u8 0, .int .u8 1, .int .u8 0, .int .u8 0, .int .u8 0, .int .u8 0, .int .u8 0, .int .u8 2, .int .u8 8, .int .u8 0] 5)) := ((Below.refl _ V2).alloc (Nat.le_refl _) (.cells #[.int .u8 0, .int .u8 0, .int .u8 0, .int .u8 0, .int .u8 0, .int .u8 1, .int .u8 0, .int .u8 0, .int .u8 0, .int .u8 0, .int .u8 0, .int .u8 2, .int .u8 8, .int .u8 0] 5))
  have P_3 := Lib.hid (P_2.out.below b)
  have R_3 := Lib.hid (R_2.out.below b)
  have q_3 := q_2.trans (b.mono q_2.size)
  clear P_2 R_2 q_2
  clear b
  refine (same_one a1 (some ⟨V2.heap.size, 0, none⟩) [0, 0, 0, 0, 0, 1, 0, 0, 0, 0, 0, 2, 8, 0] [0, 0, 0, 0, 0, 1, 0, 0, 0, 0, 0, 2, 8, 0] k1 14 _ P_3.out.bts Y.out (by decide) (by decide) rfl).mono ?_
  rintro e V3 ⟨rfl, b⟩
  have P_4 := Lib.hid (P_3.out.below b)
  have R_4 := Lib.hid (R_3.out.below b)
  have q_4 := q_3.trans (b.mono q_3.size)
  clear P_3 R_3 q_3
  clear b
  have d7 : V3.cell? ⟨g2, 7, none⟩ = some (.int .u8 1) := R_4.out.cellAt 7 (by decide)
  have d27 : V3.cell? ⟨g2, 27, none⟩ = some (.int .u8 5) := R_4.out.cellAt 27 (by decide)
  go_wp2
  go_ret
  exact ⟨rfl, q_4⟩
end Go.Proofs.Ytdiomelldhkibaa.law3
