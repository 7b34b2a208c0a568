/- For every number of octets and every segment: slow start grows by what is acknowledged, eight segments at most; the careful one by a fourth of that; none behind its end. No condition. -/
import Derived.Test.YtfmjlcnpabpheaaRows
import Derived.Test.YtfmjlcnpabpheaaHyAl
import Derived.Test.YtfmjlcnpabpheaaHyG
import Derived.Test.YtfmjlcnpabpheaaGAgg
import Derived.Deep.DeepCutAuto
import Derived.RegionTactic
import Derived.Deep.RegionHeld3
import Derived.ProofKit
import Derived.OpenShut
import Derived.ChangeOld
import Derived.SizedLaws
namespace Go.Proofs.Ytfmjlcnpabpheaa.hystartGrows
open Go.ChangeShapes Go.WideShapes Go.ChangeAt Go.RowKit Go.Deep Go.Proofs.Ytfmjlcnpabpheaa.Hy

set_option maxRecDepth 100000 in
set_option maxHeartbeats 2000000 in
theorem walk (a b : Int) (w : World) (_a_l : -9223372036854775808 ≤ a) (_a_h : a ≤ 9223372036854775807) (_b_l : -9223372036854775808 ≤ b) (_b_h : b ≤ 9223372036854775807) :
    Calls Try.prog 6 #[.int .i64 a, .int .i64 b] w fun e w' => e = .returned (.bool true) ∧ Below w.heap.size w w' := by
  obtain ⟨n, hn, n0, n1⟩ := norm_mod a 100000 (by omega) (by omega)
  obtain ⟨m', hm', hm0, hm1⟩ := norm_mod b 1500 (by omega) (by omega)
  obtain ⟨m, hm⟩ : ∃ m, 1 + m' = m := ⟨_, rfl⟩
  have hmw : wrap64 (1 + m') = m := by rw [hm]; exact IntWalk.wrap64_in _ ⟨by omega, by omega⟩
  have M0 : 1 ≤ m := by omega
  have M1 : m ≤ 1500 := by omega
  have q_0 := Below.refl w.heap.size w
  go_enter Try.func6, Try.ntmps6
  go_wp2_with fail
  refine (alive_any _).mono ?_
  rintro e V1 ⟨rfl, b⟩
  have q_1 := q_0.trans (b.mono q_0.size)
  clear q_0
  clear b
  have HN : Hid (NV n) := Lib.hid ⟨n0, by omega⟩
  obtain ⟨A, hA⟩ : ∃ A, min n (8 * m) = A := ⟨_, rfl⟩
  have a0 : 0 ≤ A ∧ A ≤ n ∧ A ≤ 8 * m := by omega
  obtain ⟨a0, a1, a2⟩ := a0
  have a3 : A = n ∨ A = 8 * m := by omega
  have HA := Lib.hid hA
  clear hA
  go_wp2_with fail
  refine (growth_0 n m _ HN.out (by omega) (by omega)).mono ?_
  rintro e V2 ⟨rfl, b⟩
  have q_2 := q_1.trans (b.mono q_1.size)
  clear q_1
  clear b
  rw [HA.out]
  go_wp2_with fail
  refine (growth_1 n m _ HN.out (by omega) (by omega)).mono ?_
  rintro e V3 ⟨rfl, b⟩
  have q_3 := q_2.trans (b.mono q_2.size)
  clear q_2
  clear b
  rw [HA.out]
  go_wp2_with fail
  refine (growth_2 n m _ HN.out (by omega) (by omega)).mono ?_
  rintro e V4 ⟨rfl, b⟩
  have q_4 := q_3.trans (b.mono q_3.size)
  clear q_3
  clear b
  go_wp2_with fail
  refine (num_any _ _).mono ?_
  rintro e w' ⟨rfl, rfl⟩
  go_wp2_with fail
  refine (num_any _ _).mono ?_
  rintro e w' ⟨rfl, rfl⟩
  go_wp2_with fail
  refine (num_any _ _).mono ?_
  rintro e w' ⟨rfl, rfl⟩
  rcases a3 with rfl | a3
  ·
    go_wp2
    all_goals
      go_ret
      refine ⟨by first | rfl | (simp [*]; done), ?_⟩
      exact q_4
  ·
    have e1 : (A == 8 * m) = true := by rw [beq_iff_eq]; exact a3
    go_wp2
    all_goals
      go_ret
      refine ⟨by first | rfl | (simp [*]; done), ?_⟩
      exact q_4

theorem own : ownKnob Try.prog.godebug = none := by kernel_rfl

set_option maxRecDepth 100000 in
set_option maxHeartbeats 2000000 in
theorem lifted (os : Os) (started : os.Started) (H : Type) (enc : TypeId × Value → H) :
    ReturnsInHanded {} Try.checked os 6 .any (Rows.hystartGrowsSpec.pre6 enc Try.prog Try.f6 Rows.hystartGrowsRow.domain false) (Rows.hystartGrowsSpec.post enc Try.prog Try.f6 false true false false) := by
  refine returnsInHanded_of_change_sized (C := Try.checked) own started (by kernel_rfl) Try.func6
    (ChangeSpec.witness6 (enc := enc) (C := Try.checked) false ⟨#[], #[.int .i64 0, .int .i64 0], []⟩ 8 (by kernel_rfl) (by kernel_rfl) (by kernel_rfl) (by kernel_rfl)) ?_
  intro W base args ds gs before hval0 hW hcnd hsz0 _
  have hval : ∀ (j : Nat) t v, Try.f6.params[j]? = some t → args[j]? = some v → Value.okWide Try.prog W .any base t v := hval0
  have hW' := hW
  obtain ⟨p, q, hA0, hV, rfl, hfz, hnd⟩ := hW
  have hA : DataW.TrodAll enc Try.prog W 0 (fun _ => true) true Try.f6.params.toList args.toList ds p := hA0
  rw [Try.params6] at hA hval
  obtain ⟨v0, vs0, d0, ds0, p0, q0, hargs, rfl, rfl, h0, r0⟩ := trodAll_cons hA
  obtain ⟨v1, vs1, d1, ds1, p1, q1, rfl, rfl, rfl, h1, r1⟩ := trodAll_cons r0
  obtain ⟨rfl, rfl, rfl⟩ := trodAll_nil r1
  obtain rfl : args = #[v0, v1] := by cases args; simp_all
  obtain ⟨rfl, rfl⟩ := trodVars_none hV
  obtain ⟨a0, rfl, rfl, rfl, w0⟩ := open_int Try.underlying3 (hval 0 3 v0 rfl rfl) h0
  obtain ⟨a1, rfl, rfl, rfl, w1⟩ := open_int Try.underlying3 (hval 1 3 v1 rfl rfl) h1
  clear hA0
  obtain ⟨lo0, hi0⟩ := bounds_i64 w0
  obtain ⟨lo1, hi1⟩ := bounds_i64 w1
  refine (walk a0 a1 W lo0 hi0 lo1 hi1).mono fun e W' ⟨he, bel⟩ => ?_
  subst he
  exact ⟨_, rfl, _, _, _, [], _, [], hW', trodAll_mk1 (shut_bool Try.underlying4 _), (trodAll_cons_mk (shut_int Try.underlying3 w0) (trodAll_cons_mk (shut_int Try.underlying3 w1) trodAll_mk0)), rfl, bel.frame _, fun h => by cases h⟩

theorem over : Rows.hystartGrowsRow.holds Try.pinned (OpenSpec.ofChange Rows.hystartGrowsSpec) :=
  OpenClaim.holds_of_wide 6 Try.f6 rfl rfl rfl rfl rfl rfl rfl ⟨rfl, rfl, rfl, rfl, rfl⟩ rfl rfl rfl rfl rfl (by kernel_rfl) Try.func6 (by kernel_rfl)
    (of_decide_eq_true (by kernel_rfl)) (by unfold Func.isWrapper; first | (rw [if_pos (by decide +kernel)]; kernel_rfl) | (rw [if_neg (by decide +kernel)]; exact ⟨rfl, rfl⟩))
    (fun os started H enc _ => lifted os started H enc)

end Go.Proofs.Ytfmjlcnpabpheaa.hystartGrows
namespace Go.Proofs.Ytfmjlcnpabpheaa
/-- The statement. -/
theorem hystartGrows_holds : Rows.HystartGrowsSaid := hystartGrows.over
#print axioms hystartGrows_holds
end Go.Proofs.Ytfmjlcnpabpheaa
