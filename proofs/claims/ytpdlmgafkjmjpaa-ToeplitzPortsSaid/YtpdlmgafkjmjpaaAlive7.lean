/- The page's example of toeplitz. -/
import Derived.Test.YtpdlmgafkjmjpaaToCalls
import Derived.Test.YtpdlmgafkjmjpaaToPut
import Derived.Test.YtpdlmgafkjmjpaaGUnhex
namespace Go.Proofs.Ytpdlmgafkjmjpaa.law7
open Go.RowKit

set_option maxHeartbeats 400000 in
theorem num_any (e : Int) (w : World) : Calls Try.prog 44 #[.int .i64 e] w fun r w' => r = .returned (.int .i64 e) ∧ w = w' := by
  go_enter Try.func44, Try.ntmps44
  go_wp2
  go_ret
  exact ⟨rfl, rfl⟩

theorem ex_hash : thV exKey (tup 1107924411 2710463568 2794 1766) = 1372373368 := by decide +kernel
theorem ex_e : thE exKey (tup 1107924411 2710463568 2794 1766) = 0 := by decide +kernel
theorem ex_len : exKey.length = 40 := rfl

set_option maxRecDepth 100000 in
set_option maxHeartbeats 1000000 in
theorem alive_any (w : World) : Calls Try.prog 50 #[] w fun e w' => e = .returned (.bool true) ∧ Below w.heap.size w w' := by
  have U := fun W => unhex_ex W
  have T := fun W => tuple_any 1107924411 2710463568 2794 1766 (by omega) (by omega) (by omega) (by omega) W
  have H := fun g c W (h : Bts W (some ⟨w.heap.size, 0, none⟩) exKey) (h2 : Bts W (some ⟨g, 0, none⟩) (tup 1107924411 2710463568 2794 1766)) => hash_all (some ⟨w.heap.size, 0, none⟩) exKey 40 (some ⟨g, 0, none⟩) (tup 1107924411 2710463568 2794 1766) c W h h2 (by rw [ex_len]; omega) (by omega) (by rw [tup_len]; omega)
  have lt := tup_len 1107924411 2710463568 2794 1766
  rw [ex_hash, ex_e, ex_len, lt] at H
  have HU := Lib.hid U
  have HT := Lib.hid T
  have HH := Lib.hid H
  clear U T H lt
  go_enter Try.func50, Try.ntmps50
  go_wp2_with fail
  refine (HU.out _).mono ?_
  rintro e w1 ⟨rfl, O, b1⟩
  have O1 := Lib.hid O
  clear O
  go_wp2_with fail
  refine (HT.out _).mono ?_
  rintro e w2 ⟨g, c, rfl, O, b2⟩
  have O2 := Lib.hid O.bts
  have P1 := Lib.hid (O1.out.below b2).bts
  have q2 := b1.trans (b2.mono b1.size)
  clear O O1
  go_wp2_with fail
  refine (HH.out g c _ P1.out O2.out).mono ?_
  rintro e w3 ⟨rfl, b3⟩
  have q3 := q2.trans (b3.mono q2.size)
  clear P1 O2
  go_wp2_with fail
  refine (num_any _ _).mono ?_
  rintro e w4 ⟨rfl, rfl⟩
  go_wp2
  go_ret
  exact ⟨rfl, q3⟩
end Go.Proofs.Ytpdlmgafkjmjpaa.law7
