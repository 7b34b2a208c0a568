/- For every numbers: the curve lies within one octet of the rational one, where it is not held within its bounds. No condition. -/
import Derived.Test.YthkmphngfndebaaRows
import Derived.Test.YthkmphngfndebaaCuX
import Derived.Test.YthkmphngfndebaaGAgg
import Derived.Deep.DeepCutAuto
import Derived.RegionTactic
import Derived.Deep.RegionHeld3
import Derived.ProofKit
import Derived.OpenShut
import Derived.ChangeOld
import Derived.SizedLaws
namespace Go.Proofs.Ythkmphngfndebaa.cubicCurve
open Go.ChangeShapes Go.WideShapes Go.ChangeAt Go.RowKit Go.Deep Go.Proofs.Ythkmphngfndebaa.Cu

set_option maxRecDepth 100000 in
set_option maxHeartbeats 800000 in
theorem walk (o s d : Int) (w : World) (_o_l : -9223372036854775808 ≤ o) (_o_h : o ≤ 9223372036854775807) (_s_l : -9223372036854775808 ≤ s) (_s_h : s ≤ 9223372036854775807) (_d_l : -9223372036854775808 ≤ d) (_d_h : d ≤ 9223372036854775807) :
    Calls Try.prog 5 #[.int .i64 o, .int .i64 s, .int .i64 d] w fun e w' => e = .returned (.bool true) ∧ Below w.heap.size w w' := by
  obtain ⟨m', hm, hm0, hm1⟩ := norm_mod s 60000 (by omega) (by omega)
  obtain ⟨m, hm'⟩ : ∃ z, 1 + m' = z := ⟨_, rfl⟩
  have hmw : wrap64 (1 + m') = m := by rw [hm']; exact IntWalk.wrap64_in _ ⟨by omega, by omega⟩
  have m0 : 1 ≤ m := by omega
  have m1 : m ≤ 65535 := by omega
  obtain ⟨D, hD⟩ : ∃ z, d.tmod 30000 = z := ⟨_, rfl⟩
  have hD0 : -30000 < D ∧ D < 30000 := by
    rw [← hD]
    have h1 := Int.tmod_lt_of_pos d (show (0 : Int) < 30000 by decide)
    have h2 : (d.tmod 30000).natAbs < 30000 := by rw [Int.natAbs_tmod]; exact Nat.mod_lt _ (by decide)
    omega
  obtain ⟨D0, D1⟩ := hD0
  have hM : MV m := ⟨m0, m1⟩
  by_cases hO : WV o
  case neg =>
    have HE : Hid (Sm (crE o m) 4) := Lib.hid ⟨if_neg (fun h => hO h.1)⟩
    have HA : Hid (Sm (crO o m D) 0) := Lib.hid ⟨if_neg (fun h => hO h.1)⟩
    obtain ⟨A, hA⟩ : ∃ z : Int, z = 0 := ⟨_, rfl⟩
    rw [← hA] at HA
    clear hO hM
    subst hA
    have q_0 := Below.refl w.heap.size w
    go_enter Try.func5, Try.ntmps5
    go_wp2_with fail
    refine (alive_any _).mono ?_
    rintro e V1 ⟨rfl, b⟩
    have q_1 := q_0.trans (b.mono q_0.size)
    clear q_0
    clear b
    go_wp2_with fail
    refine (pcurve o m D 0 4 HE.out.eq HA.out.eq _).mono ?_
    rintro e V2 ⟨rfl, b⟩
    have q_2 := q_1.trans (b.mono q_1.size)
    clear q_1
    clear b
    go_wp2_with fail
    refine (num_any _ _).mono ?_
    rintro e w' ⟨rfl, rfl⟩
    go_wp2
    go_ret
    exact ⟨rfl, q_2⟩
  case pos =>
    obtain ⟨⟨a0, a1⟩, ⟨b0, b1⟩, ⟨x0, x1⟩, _, _, _⟩ := up_bd m0 m1 (show -30000 ≤ D by omega) (show D ≤ 30000 by omega)
    obtain ⟨X, hX⟩ : ∃ X, up m D = X := ⟨_, rfl⟩
    have hc : crv o m D = max (min (o + X / 10737418240) 1073741824) 0 := by unfold crv; rw [show cD D = D by unfold cD; omega, hX]
    rw [hX] at x0 x1
    unfold up at hX
    obtain ⟨A, hA⟩ : ∃ z, crv o m D = z := ⟨_, rfl⟩
    rw [hA] at hc
    have HE : Hid (Sm (crE o m) 0) := Lib.hid ⟨if_pos ⟨hO, hM⟩⟩
    have HA : Hid (Sm (crO o m D) A) := Lib.hid ⟨by rw [crO, if_pos ⟨hO, hM⟩, hA]⟩
    obtain ⟨o0, o1⟩ := hO
    clear hM hA
    by_cases h1 : A = 0
    case pos =>
      clear hc
      have e1 : (A == 0) = true := by rw [beq_iff_eq]; exact h1
      clear h1
      have q_0 := Below.refl w.heap.size w
      go_enter Try.func5, Try.ntmps5
      go_wp2_with fail
      refine (alive_any _).mono ?_
      rintro e V1 ⟨rfl, b⟩
      have q_1 := q_0.trans (b.mono q_0.size)
      clear q_0
      clear b
      go_wp2_with fail
      refine (pcurve o m D A 0 HE.out.eq HA.out.eq _).mono ?_
      rintro e V2 ⟨rfl, b⟩
      have q_2 := q_1.trans (b.mono q_1.size)
      clear q_1
      clear b
      go_wp2_with fail
      refine (num_any _ _).mono ?_
      rintro e w' ⟨rfl, rfl⟩
      go_wp2
      go_ret
      exact ⟨rfl, q_2⟩
    by_cases h2 : A = 1073741824
    case pos =>
      clear hc
      have e1 : (A == 0) = false := by rw [beq_eq_false_iff_ne]; exact h1
      have e2 : (A == 1073741824) = true := by rw [beq_iff_eq]; exact h2
      clear h1 h2
      have q_0 := Below.refl w.heap.size w
      go_enter Try.func5, Try.ntmps5
      go_wp2_with fail
      refine (alive_any _).mono ?_
      rintro e V1 ⟨rfl, b⟩
      have q_1 := q_0.trans (b.mono q_0.size)
      clear q_0
      clear b
      go_wp2_with fail
      refine (pcurve o m D A 0 HE.out.eq HA.out.eq _).mono ?_
      rintro e V2 ⟨rfl, b⟩
      have q_2 := q_1.trans (b.mono q_1.size)
      clear q_1
      clear b
      go_wp2_with fail
      refine (num_any _ _).mono ?_
      rintro e w' ⟨rfl, rfl⟩
      go_wp2
      go_ret
      exact ⟨rfl, q_2⟩
    case neg =>
      have hA2 : A = o + X / 10737418240 := by omega
      have e1 : (A == 0) = false := by rw [beq_eq_false_iff_ne]; exact h1
      have e2 : (A == 1073741824) = false := by rw [beq_eq_false_iff_ne]; exact h2
      obtain ⟨g, hg⟩ : ∃ z, A - o = z := ⟨_, rfl⟩
      have g0 : -700000000 ≤ g ∧ g ≤ 700000000 := by omega
      obtain ⟨g0, g1⟩ := g0
      have g2 : 0 ≤ X - g * 10737418240 := by omega
      have g3 : X - g * 10737418240 < 10737418240 := by omega
      clear hc hA2 h1 h2
      have q_0 := Below.refl w.heap.size w
      go_enter Try.func5, Try.ntmps5
      go_wp2_with fail
      refine (alive_any _).mono ?_
      rintro e V1 ⟨rfl, b⟩
      have q_1 := q_0.trans (b.mono q_0.size)
      clear q_0
      clear b
      go_wp2_with fail
      refine (pcurve o m D A 0 HE.out.eq HA.out.eq _).mono ?_
      rintro e V2 ⟨rfl, b⟩
      have q_2 := q_1.trans (b.mono q_1.size)
      clear q_1
      clear b
      go_wp2_with fail
      refine (num_any _ _).mono ?_
      rintro e w' ⟨rfl, rfl⟩
      go_wp2
      go_ret
      exact ⟨rfl, q_2⟩

theorem own : ownKnob Try.prog.godebug = none := by kernel_rfl

set_option maxRecDepth 100000 in
set_option maxHeartbeats 2000000 in
theorem lifted (os : Os) (started : os.Started) (H : Type) (enc : TypeId × Value → H) :
    ReturnsInHanded {} Try.checked os 5 .any (Rows.cubicCurveSpec.pre6 enc Try.prog Try.f5 Rows.cubicCurveRow.domain false) (Rows.cubicCurveSpec.post enc Try.prog Try.f5 false true false false) := by
  refine returnsInHanded_of_change_sized (C := Try.checked) own started (by kernel_rfl) Try.func5
    (ChangeSpec.witness6 (enc := enc) (C := Try.checked) false ⟨#[], #[.int .i64 0, .int .i64 0, .int .i64 0], []⟩ 8 (by kernel_rfl) (by kernel_rfl) (by kernel_rfl) (by kernel_rfl)) ?_
  intro W base args ds gs before hval0 hW hcnd hsz0 _
  have hval : ∀ (j : Nat) t v, Try.f5.params[j]? = some t → args[j]? = some v → Value.okWide Try.prog W .any base t v := hval0
  have hW' := hW
  obtain ⟨p, q, hA0, hV, rfl, hfz, hnd⟩ := hW
  have hA : DataW.TrodAll enc Try.prog W 0 (fun _ => true) true Try.f5.params.toList args.toList ds p := hA0
  rw [Try.params5] at hA hval
  obtain ⟨v0, vs0, d0, ds0, p0, q0, hargs, rfl, rfl, h0, r0⟩ := trodAll_cons hA
  obtain ⟨v1, vs1, d1, ds1, p1, q1, rfl, rfl, rfl, h1, r1⟩ := trodAll_cons r0
  obtain ⟨v2, vs2, d2, ds2, p2, q2, rfl, rfl, rfl, h2, r2⟩ := trodAll_cons r1
  obtain ⟨rfl, rfl, rfl⟩ := trodAll_nil r2
  obtain rfl : args = #[v0, v1, v2] := by cases args; simp_all
  obtain ⟨rfl, rfl⟩ := trodVars_none hV
  obtain ⟨a0, rfl, rfl, rfl, w0⟩ := open_int Try.underlying3 (hval 0 3 v0 rfl rfl) h0
  obtain ⟨a1, rfl, rfl, rfl, w1⟩ := open_int Try.underlying3 (hval 1 3 v1 rfl rfl) h1
  obtain ⟨a2, rfl, rfl, rfl, w2⟩ := open_int Try.underlying3 (hval 2 3 v2 rfl rfl) h2
  clear hA0
  obtain ⟨lo0, hi0⟩ := bounds_i64 w0
  obtain ⟨lo1, hi1⟩ := bounds_i64 w1
  obtain ⟨lo2, hi2⟩ := bounds_i64 w2
  refine (walk a0 a1 a2 W lo0 hi0 lo1 hi1 lo2 hi2).mono fun e W' ⟨he, bel⟩ => ?_
  subst he
  exact ⟨_, rfl, _, _, _, [], _, [], hW', trodAll_mk1 (shut_bool Try.underlying4 _), (trodAll_cons_mk (shut_int Try.underlying3 w0) (trodAll_cons_mk (shut_int Try.underlying3 w1) (trodAll_cons_mk (shut_int Try.underlying3 w2) trodAll_mk0))), rfl, bel.frame _, fun h => by cases h⟩

theorem over : Rows.cubicCurveRow.holds Try.pinned (OpenSpec.ofChange Rows.cubicCurveSpec) :=
  OpenClaim.holds_of_wide 5 Try.f5 rfl rfl rfl rfl rfl rfl rfl ⟨rfl, rfl, rfl, rfl, rfl⟩ rfl rfl rfl rfl rfl (by kernel_rfl) Try.func5 (by kernel_rfl)
    (of_decide_eq_true (by kernel_rfl)) (by unfold Func.isWrapper; first | (rw [if_pos (by decide +kernel)]; kernel_rfl) | (rw [if_neg (by decide +kernel)]; exact ⟨rfl, rfl⟩))
    (fun os started H enc _ => lifted os started H enc)

end Go.Proofs.Ythkmphngfndebaa.cubicCurve
namespace Go.Proofs.Ythkmphngfndebaa
/-- The statement. -/
theorem cubicCurve_holds : Rows.CubicCurveSaid := cubicCurve.over
#print axioms cubicCurve_holds
end Go.Proofs.Ythkmphngfndebaa
