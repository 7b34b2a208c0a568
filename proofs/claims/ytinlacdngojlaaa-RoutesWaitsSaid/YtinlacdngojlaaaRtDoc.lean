/- Routes: the document's lead; the program's Len, Drop. -/
import Derived.Test.YtinlacdngojlaaaAlive10
import Derived.Test.YtinlacdngojlaaaGOwnA
import Derived.Test.YtinlacdngojlaaaGMid
import Derived.Test.YtinlacdngojlaaaGUntil
import Derived.Maps.OwnOps
import Derived.BigQuiet
import Derived.Lib.QuietBelow
namespace Go.Proofs.Ytinlacdngojlaaa
open Go.RowKit Go.Maps Go.Proofs.Ytinlacdngojlaaa.Rt

set_option maxRecDepth 100000 in
set_option maxHeartbeats 400000 in
theorem lead_any (ip b : Nat) (w : World) (hip : ip < 4294967296) (hb : b ≤ 32) :
    Calls Try.prog 23 #[.int .u32 (ip : Nat), .int .i64 (b : Nat)] w fun e w' => e = .returned (.int .u32 (pre ip b : Nat)) ∧ w = w' := by
  have hle := pre_le ip b
  by_cases h0 : b = 0
  · subst h0
    have e : pre ip 0 = 0 := by unfold pre; omega
    have HE := Lib.hid e
    clear e hle
    go_enter Try.func23, Try.ntmps23
    go_wp2
    go_ret
    exact ⟨by rw [HE.out]; rfl, rfl⟩
  · have k0 : ¬ ((b : Int) = 0) := by omega
    have k1 : ((b : Int) == 0) = false := by rw [beq_eq_false_iff_ne]; omega
    obtain ⟨k, hk⟩ : ∃ k, 32 - b = k := ⟨_, rfl⟩
    have e1 : (32 : Int) - (b : Int) = (k : Int) := by omega
    have hk2 : k ≤ 32 := by omega
    obtain ⟨q, hq⟩ : ∃ q, ip / 2 ^ k = q := ⟨_, rfl⟩
    have e2 : (ip : Int) / 2 ^ k = (q : Int) := by rw [← hq]; simp
    have e3 : (q : Int) * 2 ^ k = ((pre ip b : Nat) : Int) := by rw [← hq]; unfold pre; rw [hk]; simp
    have e4 : IntKind.u32.wrap ((q : Int) * 2 ^ k) = ((pre ip b : Nat) : Int) := by rw [e3, IntKind.wrap_u32]; omega
    obtain ⟨p, hp⟩ : ∃ p, pre ip b = p := ⟨_, rfl⟩
    rw [hp] at e3 e4 hle ⊢
    clear hk hq hp
    go_enter Try.func23, Try.ntmps23
    go_wp2
    go_ret
    exact ⟨rfl, rfl⟩
end Go.Proofs.Ytinlacdngojlaaa
