/- The page's example of checksum holds. -/
import Derived.Test.YteoejlclddkcfaaSum
namespace Go.Proofs.Yteoejlclddkcfaa
open Go.RowKit

set_option maxHeartbeats 1000000 in
theorem alive_any (w : World) : Calls Try.prog 22 #[] w fun e w' => e = .returned (.bool true) ∧ Below w.heap.size w w' := by
  have b1 := bts_new w [0, 1, 242, 3, 244, 245, 246, 247] 5 (by decide)
  have s1 : ∀ W, Bts W (some ⟨w.heap.size, 0, none⟩) [0, 1, 242, 3, 244, 245, 246, 247] → Calls Try.prog 9 #[.slice (some ⟨w.heap.size, 0, none⟩) 8 8] W fun e W' => e = .returned (.int .u16 56818) ∧ Below W.heap.size W W' := fun W h => sum_any _ [0, 1, 242, 3, 244, 245, 246, 247] 8 W h (by decide)
  have s2 : ∀ W, Bts W (some ⟨w.heap.size, 0, none⟩) [0, 1, 242, 3, 244, 245, 246, 247] → Calls Try.prog 11 #[.slice (some ⟨w.heap.size, 0, none⟩) 8 8] W fun e W' => e = .returned (.int .u16 8717) ∧ Below W.heap.size W W' := fun W h => check_any _ [0, 1, 242, 3, 244, 245, 246, 247] 8 W h (by decide)
  have s3 : ∀ W : World, Calls Try.prog 9 #[.slice (some ⟨W.heap.size, 0, none⟩) 1 1] (W.alloc (.cells #[.int .u8 255] 5)) fun e W' => e = .returned (.int .u16 65280) ∧ Below (W.heap.size + 1) (W.alloc (.cells #[.int .u8 255] 5)) W' := fun W => by
    have h := sum_any _ [255] 1 _ (bts_new W [255] 5 (by decide)) (by decide)
    rw [World.size_alloc] at h
    exact h
  have bw : Below w.heap.size w (w.alloc (.cells #[.int .u8 0, .int .u8 1, .int .u8 242, .int .u8 3, .int .u8 244, .int .u8 245, .int .u8 246, .int .u8 247] 5)) := (Below.refl _ _).alloc (Nat.le_refl _) _
  have S1 := Lib.hid s1
  have S2 := Lib.hid s2
  have S3 := Lib.hid s3
  have B1 := Lib.hid b1
  clear s1 s2 s3 b1
  go_enter Try.func22, Try.ntmps22
  go_wp2_with fail
  refine (S1.out _ B1.out).mono ?_
  rintro e w1 ⟨rfl, h1⟩
  have q1 := bw.trans (h1.mono bw.size)
  have B2 := Lib.hid (Bts.below B1.out h1)
  clear S1 B1 h1 bw
  go_wp2_with fail
  refine (S2.out _ B2.out).mono ?_
  rintro e w2 ⟨rfl, h2⟩
  have q2 := q1.trans (h2.mono q1.size)
  clear S2 B2 h2 q1
  go_wp2_with fail
  refine (S3.out _).mono ?_
  rintro e w3 ⟨rfl, h3⟩
  have q3 := (q2.alloc q2.size (.cells #[.int .u8 255] 5)).trans (h3.mono (by have := q2.size; omega))
  clear S3 h3 q2
  go_wp2
  go_ret
  exact ⟨rfl, q3⟩
end Go.Proofs.Yteoejlclddkcfaa
