/- What the small functions of ipwire on numbers in octets answer. -/
import Derived.Test.YtokfadlgiimaoaaGPut
import Derived.Test.YtokfadlgiimaoaaGCopied
import Derived.Test.YtokfadlgiimaoaaGAppend
namespace Go.Proofs.Ytokfadlgiimaoaa
open Go.RowKit

set_option maxRecDepth 100000 in
set_option maxHeartbeats 400000 in
/-- 'number': of one octet to eight. -/
theorem pnum_ipwire (a : Option Addr) (xs : List Nat) (cap : Nat) (w : World) (h : Bts w a xs) (hlo : 1 ≤ xs.length) (hhi : xs.length ≤ 8) :
    Calls Try.prog 53 #[.slice a xs.length cap] w fun e w' => e = .returned (.int .u64 (Mt.numOf xs : Nat)) ∧ w = w' := by
  have Hg := Lib.hid (get_ok a xs cap w h hlo hhi)
  clear h hlo hhi
  go_enter Try.func53, Try.ntmps53
  go_wp2_with fail
  refine Hg.out.mono ?_
  rintro e w' ⟨rfl, rfl⟩
  go_wp2
  go_ret
  exact ⟨rfl, rfl⟩

end Go.Proofs.Ytokfadlgiimaoaa
