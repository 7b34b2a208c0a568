/- For every numbers: the curve never goes down as time goes on; at its turn it is the window that was lost at; there it comes from about the window behind the loss. No condition. -/
import Derived.Test.YthkmphngfndebaaRows
import Derived.Test.YthkmphngfndebaaCuX
import Derived.Test.YthkmphngfndebaaGAgg
import Derived.Deep.DeepCutAuto
import Derived.RegionTactic
import Derived.Deep.RegionHeld3
import Derived.ProofKit
import Derived.OpenShut
import Derived.ChangeOld
import Derived.SizedLaws
namespace Go.Proofs.Ythkmphngfndebaa.cubicRises
open Go.ChangeShapes Go.WideShapes Go.ChangeAt Go.RowKit Go.Deep Go.Proofs.Ythkmphngfndebaa.Cu

set_option maxRecDepth 100000 in
set_option maxHeartbeats 800000 in
theorem walk (o c m d : Int) (w : World) (_o_l : -9223372036854775808 ≤ o) (_o_h : o ≤ 9223372036854775807) (_c_l : -9223372036854775808 ≤ c) (_c_h : c ≤ 9223372036854775807) (_m_l : -9223372036854775808 ≤ m) (_m_h : m ≤ 9223372036854775807) (_d_l : -9223372036854775808 ≤ d) (_d_h : d ≤ 9223372036854775807) :
    Calls Try.prog 6 #[.int .i64 o, .int .i64 c, .int .i64 m, .int .i64 d] w fun e w' => e = .returned (.bool true) ∧ Below w.heap.size w w' := by
  obtain ⟨D, hD⟩ : ∃ z, d.tmod 40000 = z := ⟨_, rfl⟩
  have hD0 : -40000 < D ∧ D < 40000 := by
    rw [← hD]
    have h2 : (d.tmod 40000).natAbs < 40000 := by rw [Int.natAbs_tmod]; exact Nat.mod_lt _ (by decide)
    omega
  obtain ⟨D0, D0'⟩ := hD0
  obtain ⟨D1, hD1⟩ : ∃ z, D + 1 = z := ⟨_, rfl⟩
  obtain ⟨K, hK⟩ : ∃ z, trO o c m = z := ⟨_, rfl⟩
  have HK : Hid (Sm (trO o c m) K) := Lib.hid ⟨hK⟩
  have hK0 : 0 ≤ K ∧ K ≤ 2642245 := by
    rw [← hK]; unfold trO
    split
    · exact trn_bd o c m
    · omega
  obtain ⟨K0, K1⟩ := hK0
  by_cases h : WV o ∧ MV m
  case neg =>
    have HE : Hid (Sm (crE o m) 4) := Lib.hid ⟨if_neg h⟩
    have HA : Hid (Sm (crO o m D) 0) := Lib.hid ⟨if_neg h⟩
    have HB : Hid (Sm (crO o m D1) 0) := Lib.hid ⟨if_neg h⟩
    have HC : Hid (Sm (crO o m 0) 0) := Lib.hid ⟨if_neg h⟩
    obtain ⟨F, hF⟩ : ∃ z, trE o c m = z := ⟨_, rfl⟩
    have HF : Hid (Sm (trE o c m) F) := Lib.hid ⟨hF⟩
    clear hF hK h
    have q_0 := Below.refl w.heap.size w
    go_enter Try.func6, Try.ntmps6
    go_wp2_with fail
    refine (alive_any _).mono ?_
    rintro e V1 ⟨rfl, b⟩
    have q_1 := q_0.trans (b.mono q_0.size)
    clear q_0
    clear b
    go_wp2_with fail
    refine (pcurve o m D 0 4 HE.out.eq HA.out.eq _).mono ?_
    rintro e V2 ⟨rfl, b⟩
    have q_2 := q_1.trans (b.mono q_1.size)
    clear q_1
    clear b
    go_wp2_with fail
    refine (pcurve o m D1 0 4 HE.out.eq HB.out.eq _).mono ?_
    rintro e V3 ⟨rfl, b⟩
    have q_3 := q_2.trans (b.mono q_2.size)
    clear q_2
    clear b
    go_wp2_with fail
    refine (pcurve o m 0 0 4 HE.out.eq HC.out.eq _).mono ?_
    rintro e V4 ⟨rfl, b⟩
    have q_4 := q_3.trans (b.mono q_3.size)
    clear q_3
    clear b
    go_wp2_with fail
    refine (pturn o c m K F HF.out.eq HK.out.eq _).mono ?_
    rintro e V5 ⟨rfl, b⟩
    have q_5 := q_4.trans (b.mono q_4.size)
    clear q_4
    clear b
    go_wp2_with fail
    refine (num_any _ _).mono ?_
    rintro e w' ⟨rfl, rfl⟩
    go_wp2
    go_ret
    exact ⟨rfl, q_5⟩
  case pos =>
    obtain ⟨hO, hM⟩ := h
    have HE : Hid (Sm (crE o m) 0) := Lib.hid ⟨if_pos ⟨hO, hM⟩⟩
    have hab := crv_mono (o := o) (m := m) hM.1 (show D ≤ D1 by omega)
    have hc0 := crv_zero (m := m) hO
    obtain ⟨A, hA⟩ : ∃ z, crv o m D = z := ⟨_, rfl⟩
    obtain ⟨B, hB⟩ : ∃ z, crv o m D1 = z := ⟨_, rfl⟩
    obtain ⟨C, hC⟩ : ∃ z, crv o m 0 = z := ⟨_, rfl⟩
    rw [hA, hB] at hab
    rw [hC] at hc0
    have HA : Hid (Sm (crO o m D) A) := Lib.hid ⟨by rw [crO, if_pos ⟨hO, hM⟩, hA]⟩
    have HB : Hid (Sm (crO o m D1) B) := Lib.hid ⟨by rw [crO, if_pos ⟨hO, hM⟩, hB]⟩
    have HC : Hid (Sm (crO o m 0) C) := Lib.hid ⟨by rw [crO, if_pos ⟨hO, hM⟩, hC]⟩
    have e0 : ¬ B < A := by omega
    have e1 : (C != o) = false := by rw [hc0]; simp
    clear hA hB hC hab hc0
    by_cases hW : WV c
    case neg =>
      have HF : Hid (Sm (trE o c m) 4) := Lib.hid ⟨if_neg (fun h => hW h.1.2)⟩
      clear hW hK hO hM
      have q_0 := Below.refl w.heap.size w
      go_enter Try.func6, Try.ntmps6
      go_wp2_with fail
      refine (alive_any _).mono ?_
      rintro e V1 ⟨rfl, b⟩
      have q_1 := q_0.trans (b.mono q_0.size)
      clear q_0
      clear b
      go_wp2_with fail
      refine (pcurve o m D A 0 HE.out.eq HA.out.eq _).mono ?_
      rintro e V2 ⟨rfl, b⟩
      have q_2 := q_1.trans (b.mono q_1.size)
      clear q_1
      clear b
      go_wp2_with fail
      refine (pcurve o m D1 B 0 HE.out.eq HB.out.eq _).mono ?_
      rintro e V3 ⟨rfl, b⟩
      have q_3 := q_2.trans (b.mono q_2.size)
      clear q_2
      clear b
      go_wp2_with fail
      refine (pcurve o m 0 C 0 HE.out.eq HC.out.eq _).mono ?_
      rintro e V4 ⟨rfl, b⟩
      have q_4 := q_3.trans (b.mono q_3.size)
      clear q_3
      clear b
      go_wp2_with fail
      refine (pturn o c m K 4 HF.out.eq HK.out.eq _).mono ?_
      rintro e V5 ⟨rfl, b⟩
      have q_5 := q_4.trans (b.mono q_4.size)
      clear q_4
      clear b
      go_wp2_with fail
      refine (num_any _ _).mono ?_
      rintro e w' ⟨rfl, rfl⟩
      go_wp2_with fail
      refine (num_any _ _).mono ?_
      rintro e w' ⟨rfl, rfl⟩
      go_wp2_with fail
      refine (num_any _ _).mono ?_
      rintro e w' ⟨rfl, rfl⟩
      go_wp2_with fail
      refine (num_any _ _).mono ?_
      rintro e w' ⟨rfl, rfl⟩
      go_wp2_with (go_at_call 13; refine (num_any _ _).mono ?_; rintro e w' ⟨rfl, rfl⟩)
      all_goals
        go_ret
        exact ⟨rfl, q_5⟩
    have HF : Hid (Sm (trE o c m) 0) := Lib.hid ⟨if_pos ⟨⟨hO, hW⟩, hM⟩⟩
    by_cases hco : o < c
    case pos =>
      clear hW hK hO hM
      have q_0 := Below.refl w.heap.size w
      go_enter Try.func6, Try.ntmps6
      go_wp2_with fail
      refine (alive_any _).mono ?_
      rintro e V1 ⟨rfl, b⟩
      have q_1 := q_0.trans (b.mono q_0.size)
      clear q_0
      clear b
      go_wp2_with fail
      refine (pcurve o m D A 0 HE.out.eq HA.out.eq _).mono ?_
      rintro e V2 ⟨rfl, b⟩
      have q_2 := q_1.trans (b.mono q_1.size)
      clear q_1
      clear b
      go_wp2_with fail
      refine (pcurve o m D1 B 0 HE.out.eq HB.out.eq _).mono ?_
      rintro e V3 ⟨rfl, b⟩
      have q_3 := q_2.trans (b.mono q_2.size)
      clear q_2
      clear b
      go_wp2_with fail
      refine (pcurve o m 0 C 0 HE.out.eq HC.out.eq _).mono ?_
      rintro e V4 ⟨rfl, b⟩
      have q_4 := q_3.trans (b.mono q_3.size)
      clear q_3
      clear b
      go_wp2_with fail
      refine (pturn o c m K 0 HF.out.eq HK.out.eq _).mono ?_
      rintro e V5 ⟨rfl, b⟩
      have q_5 := q_4.trans (b.mono q_4.size)
      clear q_4
      clear b
      go_wp2_with fail
      refine (num_any _ _).mono ?_
      rintro e w' ⟨rfl, rfl⟩
      go_wp2_with fail
      refine (num_any _ _).mono ?_
      rintro e w' ⟨rfl, rfl⟩
      go_wp2_with fail
      refine (num_any _ _).mono ?_
      rintro e w' ⟨rfl, rfl⟩
      go_wp2_with fail
      refine (num_any _ _).mono ?_
      rintro e w' ⟨rfl, rfl⟩
      go_wp2_with (go_at_call 13; refine (num_any _ _).mono ?_; rintro e w' ⟨rfl, rfl⟩)
      all_goals
        go_ret
        exact ⟨rfl, q_5⟩
    have hco' : ¬ o < c := hco
    by_cases hk : 29999 < K
    case pos =>
      clear hW hK hO hM hco
      have q_0 := Below.refl w.heap.size w
      go_enter Try.func6, Try.ntmps6
      go_wp2_with fail
      refine (alive_any _).mono ?_
      rintro e V1 ⟨rfl, b⟩
      have q_1 := q_0.trans (b.mono q_0.size)
      clear q_0
      clear b
      go_wp2_with fail
      refine (pcurve o m D A 0 HE.out.eq HA.out.eq _).mono ?_
      rintro e V2 ⟨rfl, b⟩
      have q_2 := q_1.trans (b.mono q_1.size)
      clear q_1
      clear b
      go_wp2_with fail
      refine (pcurve o m D1 B 0 HE.out.eq HB.out.eq _).mono ?_
      rintro e V3 ⟨rfl, b⟩
      have q_3 := q_2.trans (b.mono q_2.size)
      clear q_2
      clear b
      go_wp2_with fail
      refine (pcurve o m 0 C 0 HE.out.eq HC.out.eq _).mono ?_
      rintro e V4 ⟨rfl, b⟩
      have q_4 := q_3.trans (b.mono q_3.size)
      clear q_3
      clear b
      go_wp2_with fail
      refine (pturn o c m K 0 HF.out.eq HK.out.eq _).mono ?_
      rintro e V5 ⟨rfl, b⟩
      have q_5 := q_4.trans (b.mono q_4.size)
      clear q_4
      clear b
      go_wp2_with fail
      refine (num_any _ _).mono ?_
      rintro e w' ⟨rfl, rfl⟩
      go_wp2_with fail
      refine (num_any _ _).mono ?_
      rintro e w' ⟨rfl, rfl⟩
      go_wp2_with fail
      refine (num_any _ _).mono ?_
      rintro e w' ⟨rfl, rfl⟩
      go_wp2_with fail
      refine (num_any _ _).mono ?_
      rintro e w' ⟨rfl, rfl⟩
      go_wp2_with (go_at_call 13; refine (num_any _ _).mono ?_; rintro e w' ⟨rfl, rfl⟩)
      all_goals
        go_ret
        exact ⟨rfl, q_5⟩
    have hkt : K = trn o c m := by rw [← hK, trO, if_pos ⟨⟨hO, hW⟩, hM⟩]
    have hl := turn_low hO hW hM (by omega) (by omega)
    rw [← hkt] at hl
    obtain ⟨l1, l2⟩ := hl
    obtain ⟨N1, hN1⟩ : ∃ z, -K = z := ⟨_, rfl⟩
    obtain ⟨N2, hN2⟩ : ∃ z, N1 - 1 = z := ⟨_, rfl⟩
    rw [hN1, hN2] at l2
    rw [hN1] at l1
    obtain ⟨X, hX⟩ : ∃ z, crv o m N1 = z := ⟨_, rfl⟩
    obtain ⟨Y, hY⟩ : ∃ z, crv o m N2 = z := ⟨_, rfl⟩
    rw [hX] at l1
    rw [hY] at l2
    have HX : Hid (Sm (crO o m N1) X) := Lib.hid ⟨by rw [crO, if_pos ⟨hO, hM⟩, hX]⟩
    have HY : Hid (Sm (crO o m N2) Y) := Lib.hid ⟨by rw [crO, if_pos ⟨hO, hM⟩, hY]⟩
    obtain ⟨c0, c1⟩ := hW
    have l3 : c - 1 ≤ X := by omega
    clear hX hY hK hkt hO hM hco l1
    have q_0 := Below.refl w.heap.size w
    go_enter Try.func6, Try.ntmps6
    go_wp2_with fail
    refine (alive_any _).mono ?_
    rintro e V1 ⟨rfl, b⟩
    have q_1 := q_0.trans (b.mono q_0.size)
    clear q_0
    clear b
    go_wp2_with fail
    refine (pcurve o m D A 0 HE.out.eq HA.out.eq _).mono ?_
    rintro e V2 ⟨rfl, b⟩
    have q_2 := q_1.trans (b.mono q_1.size)
    clear q_1
    clear b
    go_wp2_with fail
    refine (pcurve o m D1 B 0 HE.out.eq HB.out.eq _).mono ?_
    rintro e V3 ⟨rfl, b⟩
    have q_3 := q_2.trans (b.mono q_2.size)
    clear q_2
    clear b
    go_wp2_with fail
    refine (pcurve o m 0 C 0 HE.out.eq HC.out.eq _).mono ?_
    rintro e V4 ⟨rfl, b⟩
    have q_4 := q_3.trans (b.mono q_3.size)
    clear q_3
    clear b
    go_wp2_with fail
    refine (pturn o c m K 0 HF.out.eq HK.out.eq _).mono ?_
    rintro e V5 ⟨rfl, b⟩
    have q_5 := q_4.trans (b.mono q_4.size)
    clear q_4
    clear b
    go_wp2_with fail
    refine (num_any _ _).mono ?_
    rintro e w' ⟨rfl, rfl⟩
    go_wp2_with fail
    refine (num_any _ _).mono ?_
    rintro e w' ⟨rfl, rfl⟩
    go_wp2_with fail
    refine (num_any _ _).mono ?_
    rintro e w' ⟨rfl, rfl⟩
    go_wp2_with fail
    refine (num_any _ _).mono ?_
    rintro e w' ⟨rfl, rfl⟩
    go_wp2_with fail
    refine (pcurve o m N1 X 0 HE.out.eq HX.out.eq _).mono ?_
    rintro e V6 ⟨rfl, b⟩
    have q_6 := q_5.trans (b.mono q_5.size)
    clear q_5
    clear b
    go_wp2_with fail
    refine (pcurve o m N2 Y 0 HE.out.eq HY.out.eq _).mono ?_
    rintro e V7 ⟨rfl, b⟩
    have q_7 := q_6.trans (b.mono q_6.size)
    clear q_6
    clear b
    go_wp2
    go_ret
    exact ⟨rfl, q_7⟩

theorem own : ownKnob Try.prog.godebug = none := by kernel_rfl

set_option maxRecDepth 100000 in
set_option maxHeartbeats 2000000 in
theorem lifted (os : Os) (started : os.Started) (H : Type) (enc : TypeId × Value → H) :
    ReturnsInHanded {} Try.checked os 6 .any (Rows.cubicRisesSpec.pre6 enc Try.prog Try.f6 Rows.cubicRisesRow.domain false) (Rows.cubicRisesSpec.post enc Try.prog Try.f6 false true false false) := by
  refine returnsInHanded_of_change_sized (C := Try.checked) own started (by kernel_rfl) Try.func6
    (ChangeSpec.witness6 (enc := enc) (C := Try.checked) false ⟨#[], #[.int .i64 0, .int .i64 0, .int .i64 0, .int .i64 0], []⟩ 8 (by kernel_rfl) (by kernel_rfl) (by kernel_rfl) (by kernel_rfl)) ?_
  intro W base args ds gs before hval0 hW hcnd hsz0 _
  have hval : ∀ (j : Nat) t v, Try.f6.params[j]? = some t → args[j]? = some v → Value.okWide Try.prog W .any base t v := hval0
  have hW' := hW
  obtain ⟨p, q, hA0, hV, rfl, hfz, hnd⟩ := hW
  have hA : DataW.TrodAll enc Try.prog W 0 (fun _ => true) true Try.f6.params.toList args.toList ds p := hA0
  rw [Try.params6] at hA hval
  obtain ⟨v0, vs0, d0, ds0, p0, q0, hargs, rfl, rfl, h0, r0⟩ := trodAll_cons hA
  obtain ⟨v1, vs1, d1, ds1, p1, q1, rfl, rfl, rfl, h1, r1⟩ := trodAll_cons r0
  obtain ⟨v2, vs2, d2, ds2, p2, q2, rfl, rfl, rfl, h2, r2⟩ := trodAll_cons r1
  obtain ⟨v3, vs3, d3, ds3, p3, q3, rfl, rfl, rfl, h3, r3⟩ := trodAll_cons r2
  obtain ⟨rfl, rfl, rfl⟩ := trodAll_nil r3
  obtain rfl : args = #[v0, v1, v2, v3] := by cases args; simp_all
  obtain ⟨rfl, rfl⟩ := trodVars_none hV
  obtain ⟨a0, rfl, rfl, rfl, w0⟩ := open_int Try.underlying3 (hval 0 3 v0 rfl rfl) h0
  obtain ⟨a1, rfl, rfl, rfl, w1⟩ := open_int Try.underlying3 (hval 1 3 v1 rfl rfl) h1
  obtain ⟨a2, rfl, rfl, rfl, w2⟩ := open_int Try.underlying3 (hval 2 3 v2 rfl rfl) h2
  obtain ⟨a3, rfl, rfl, rfl, w3⟩ := open_int Try.underlying3 (hval 3 3 v3 rfl rfl) h3
  clear hA0
  obtain ⟨lo0, hi0⟩ := bounds_i64 w0
  obtain ⟨lo1, hi1⟩ := bounds_i64 w1
  obtain ⟨lo2, hi2⟩ := bounds_i64 w2
  obtain ⟨lo3, hi3⟩ := bounds_i64 w3
  refine (walk a0 a1 a2 a3 W lo0 hi0 lo1 hi1 lo2 hi2 lo3 hi3).mono fun e W' ⟨he, bel⟩ => ?_
  subst he
  exact ⟨_, rfl, _, _, _, [], _, [], hW', trodAll_mk1 (shut_bool Try.underlying4 _), (trodAll_cons_mk (shut_int Try.underlying3 w0) (trodAll_cons_mk (shut_int Try.underlying3 w1) (trodAll_cons_mk (shut_int Try.underlying3 w2) (trodAll_cons_mk (shut_int Try.underlying3 w3) trodAll_mk0)))), rfl, bel.frame _, fun h => by cases h⟩

theorem over : Rows.cubicRisesRow.holds Try.pinned (OpenSpec.ofChange Rows.cubicRisesSpec) :=
  OpenClaim.holds_of_wide 6 Try.f6 rfl rfl rfl rfl rfl rfl rfl ⟨rfl, rfl, rfl, rfl, rfl⟩ rfl rfl rfl rfl rfl (by kernel_rfl) Try.func6 (by kernel_rfl)
    (of_decide_eq_true (by kernel_rfl)) (by unfold Func.isWrapper; first | (rw [if_pos (by decide +kernel)]; kernel_rfl) | (rw [if_neg (by decide +kernel)]; exact ⟨rfl, rfl⟩))
    (fun os started H enc _ => lifted os started H enc)

end Go.Proofs.Ythkmphngfndebaa.cubicRises
namespace Go.Proofs.Ythkmphngfndebaa
/-- The statement. -/
theorem cubicRises_holds : Rows.CubicRisesSaid := cubicRises.over
#print axioms cubicRises_holds
end Go.Proofs.Ythkmphngfndebaa
