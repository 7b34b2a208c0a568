/- Rtt: Check and check. -/
import Derived.Test.YtmpgpmdocofmgaaRttW
import Derived.Test.YtmpgpmdocofmgaaRttM
import Derived.Lib.MinMax
namespace Go.Proofs.Ytmpgpmdocofmgaa
open Go.RowKit Go.Proofs.Ytmpgpmdocofmgaa.Rt8

set_option maxHeartbeats 400000 in
theorem check_yes (i m x g : Int) (w : World) (h : PV i m x g) :
    Calls Try.prog 14 #[.agg #[.int .i64 i, .int .i64 m, .int .i64 x, .int .i64 g]] w fun e w' => e = .returned (.int .i64 0) ∧ Below w.heap.size w w' := by
  obtain ⟨hi, hm, hx, hg, hmx⟩ := h
  have HR : Hid (InR 1 1073741824 [i, m, x, g]) := Lib.hid (inR4.2 ⟨hi, hm, hx, hg⟩)
  clear hi hm hx hg
  go_enter Try.func14, Try.ntmps14
  go_wp2_with fail
  refine (wn_yes 1 1073741824 [i, m, x, g] _ _ _ _ _ _ rfl rfl (by simp) (by simp) HR.out).mono ?_
  rintro e w' ⟨rfl, rfl⟩
  go_wp2
  go_ret
  exact ⟨rfl, ((Below.refl _ _).alloc (Nat.le_refl _) _).alloc (by simp) _⟩

set_option maxHeartbeats 400000 in
theorem check_no (i m x g : Int) (w : World) (h : ¬ PV i m x g) :
    Calls Try.prog 14 #[.agg #[.int .i64 i, .int .i64 m, .int .i64 x, .int .i64 g]] w fun e w' => e = .returned (.int .i64 121) ∧ Below w.heap.size w w' := by
  by_cases hr : InR 1 1073741824 [i, m, x, g]
  · have hmx : x < m := by
      have := inR4.1 hr
      unfold PV at h
      omega
    have HR := Lib.hid hr
    clear hr h
    go_enter Try.func14, Try.ntmps14
    go_wp2_with fail
    refine (wn_yes 1 1073741824 [i, m, x, g] _ _ _ _ _ _ rfl rfl (by simp) (by simp) HR.out).mono ?_
    rintro e w' ⟨rfl, rfl⟩
    go_wp2
    go_ret
    exact ⟨rfl, ((Below.refl _ _).alloc (Nat.le_refl _) _).alloc (by simp) _⟩
  · have HR := Lib.hid hr
    clear hr h
    go_enter Try.func14, Try.ntmps14
    go_wp2_with fail
    refine (wn_no 1 1073741824 [i, m, x, g] _ _ _ _ _ _ rfl rfl (by simp) (by simp) HR.out).mono ?_
    rintro e w' ⟨rfl, rfl⟩
    go_wp2
    go_ret
    exact ⟨rfl, ((Below.refl _ _).alloc (Nat.le_refl _) _).alloc (by simp) _⟩
end Go.Proofs.Ytmpgpmdocofmgaa
