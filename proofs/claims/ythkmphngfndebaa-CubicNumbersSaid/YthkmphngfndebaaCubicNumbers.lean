/- For every numbers: cube roots, the curve and its turn are the page's; a root's third power is at most the number, the next one's above it. No condition. -/
import Derived.Test.YthkmphngfndebaaRows
import Derived.Test.YthkmphngfndebaaCuZ
import Derived.Test.YthkmphngfndebaaGAgg
import Derived.Deep.DeepCutAuto
import Derived.RegionTactic
import Derived.Deep.RegionHeld3
import Derived.ProofKit
import Derived.OpenShut
import Derived.ChangeOld
import Derived.SizedLaws
namespace Go.Proofs.Ythkmphngfndebaa.cubicNumbers
open Go.ChangeShapes Go.WideShapes Go.ChangeAt Go.RowKit Go.Deep Go.Proofs.Ythkmphngfndebaa.Cu

theorem nat_of_u64 {a : Int} (h : (Lit.int .u64 a).wf = true) : ∃ n : Nat, a = n ∧ n < 18446744073709551616 := by
  have hb := bounds_u64 h
  exact ⟨a.toNat, by omega, by omega⟩
theorem root_facts {n R : Nat} (h : cbrt n = R) : R ≤ 2642245 ∧ R * R * R ≤ n ∧ (R < 2642245 → n < (R + 1) * (R + 1) * (R + 1)) := by
  subst h
  obtain ⟨h1, h2, h3⟩ := cbrt_ok n
  exact ⟨h1, h2, fun h => h3.elim (fun hh => absurd hh (by omega)) id⟩
set_option maxRecDepth 100000 in
set_option maxHeartbeats 8000000 in
theorem walk (n : Nat) (o c m d : Int) (w : World) (_hn : n < 18446744073709551616) (_o_l : -9223372036854775808 ≤ o) (_o_h : o ≤ 9223372036854775807) (_c_l : -9223372036854775808 ≤ c) (_c_h : c ≤ 9223372036854775807) (_m_l : -9223372036854775808 ≤ m) (_m_h : m ≤ 9223372036854775807) (_d_l : -9223372036854775808 ≤ d) (_d_h : d ≤ 9223372036854775807) :
    Calls Try.prog 3 #[.int .u64 n, .int .i64 o, .int .i64 c, .int .i64 m, .int .i64 d] w fun e w' => e = .returned (.bool true) ∧ Below w.heap.size w w' := by
  obtain ⟨R, hR⟩ : ∃ R, cbrt n = R := ⟨_, rfl⟩
  obtain ⟨h1, h2, h3⟩ := root_facts hR
  have HR : Hid (IsC n R) := Lib.hid ⟨hR⟩
  clear hR
  obtain ⟨c1, c2⟩ := cube_bd h1
  obtain ⟨ri, hri⟩ : ∃ z : Int, (R : Int) = z := ⟨_, rfl⟩
  obtain ⟨ni, hni⟩ : ∃ z : Int, (n : Int) = z := ⟨_, rfl⟩
  obtain ⟨q, hq⟩ : ∃ z : Int, ri * ri = z := ⟨_, rfl⟩
  obtain ⟨p, hp⟩ : ∃ z : Int, q * ri = z := ⟨_, rfl⟩
  have eq : ((R * R : Nat) : Int) = q := by rw [← hq, ← hri, Int.natCast_mul]
  have ep : ((R * R * R : Nat) : Int) = p := by rw [← hp, ← eq, ← hri, Int.natCast_mul]
  have w1 : IntKind.u64.wrap (ri * ri) = q := by rw [hq]; exact IntWalk.u64_in _ (by omega)
  have w2 : IntKind.u64.wrap (q * ri) = p := by rw [hp]; exact IntWalk.u64_in _ (by omega)
  have i1 : ¬ (2642245 : Int) < ri := by omega
  have i2 : ¬ (ni < p) := by omega
  have hrt : ∀ w, Calls Try.prog 8 #[.int .u64 ni] w fun e w' => e = .returned (.int .u64 ri) ∧ w = w' := by
    rw [← hni, ← hri]; exact fun w => root_l n R HR.out w
  have HRT := Lib.hid hrt
  rw [hni]
  by_cases hlt : R < 2642245
  case pos =>
    have h4 := h3 hlt
    have i3 : ri < 2642245 := by omega
    obtain ⟨s, hs⟩ : ∃ z : Int, ri + 1 = z := ⟨_, rfl⟩
    obtain ⟨c3, c4⟩ := cube_bd (show R + 1 ≤ 2642245 by omega)
    obtain ⟨q2, hq2⟩ : ∃ z : Int, s * s = z := ⟨_, rfl⟩
    obtain ⟨p2, hp2⟩ : ∃ z : Int, q2 * s = z := ⟨_, rfl⟩
    have es : ((R + 1 : Nat) : Int) = s := by omega
    have eq2 : (((R + 1) * (R + 1) : Nat) : Int) = q2 := by rw [← hq2, ← es, Int.natCast_mul]
    have ep2 : (((R + 1) * (R + 1) * (R + 1) : Nat) : Int) = p2 := by rw [← hp2, ← eq2, ← es, Int.natCast_mul]
    have w0 : IntKind.u64.wrap (ri + 1) = s := by rw [hs]; exact IntWalk.u64_in _ (by omega)
    have w3 : IntKind.u64.wrap (s * s) = q2 := by rw [hq2]; exact IntWalk.u64_in _ (by omega)
    have w4 : IntKind.u64.wrap (q2 * s) = p2 := by rw [hp2]; exact IntWalk.u64_in _ (by omega)
    have i4 : ¬ (p2 ≤ ni) := by omega
    clear h1 h2 h3 h4 hlt c1 c2 c3 c4 hq hp hq2 hp2 hs es eq2 ep2 eq ep hri hni hrt HR
    have q_0 := Below.refl w.heap.size w
    obtain ⟨E, hE⟩ : ∃ z, crE o m = z := ⟨_, rfl⟩
    have HE : Hid (Sm (crE o m) E) := Lib.hid ⟨hE⟩
    clear hE
    obtain ⟨A, hA⟩ : ∃ z, crO o m d = z := ⟨_, rfl⟩
    have HA : Hid (Sm (crO o m d) A) := Lib.hid ⟨hA⟩
    clear hA
    obtain ⟨F, hF⟩ : ∃ z, trE o c m = z := ⟨_, rfl⟩
    have HF : Hid (Sm (trE o c m) F) := Lib.hid ⟨hF⟩
    clear hF
    obtain ⟨U, hU⟩ : ∃ z, trO o c m = z := ⟨_, rfl⟩
    have HU : Hid (Sm (trO o c m) U) := Lib.hid ⟨hU⟩
    clear hU
    go_enter Try.func3, Try.ntmps3
    go_wp2_with fail
    refine (HRT.out _).mono ?_
    rintro e w' ⟨rfl, rfl⟩
    go_wp2_with fail
    refine (pcurve o m d A E HE.out.eq HA.out.eq _).mono ?_
    rintro e V1 ⟨rfl, b⟩
    have q_1 := q_0.trans (b.mono q_0.size)
    clear q_0
    clear b
    go_wp2_with fail
    refine (dcurve o m d A E HE.out.eq HA.out.eq _).mono ?_
    rintro e V2 ⟨rfl, b⟩
    have q_2 := q_1.trans (b.mono q_1.size)
    clear q_1
    clear b
    go_wp2_with fail
    refine (pturn o c m U F HF.out.eq HU.out.eq _).mono ?_
    rintro e V3 ⟨rfl, b⟩
    have q_3 := q_2.trans (b.mono q_2.size)
    clear q_2
    clear b
    go_wp2_with fail
    refine (dturn o c m U F HF.out.eq HU.out.eq _).mono ?_
    rintro e V4 ⟨rfl, b⟩
    have q_4 := q_3.trans (b.mono q_3.size)
    clear q_3
    clear b
    go_wp2_with fail
    refine (num_any _ _).mono ?_
    rintro e w' ⟨rfl, rfl⟩
    go_wp2_with fail
    refine (num_any _ _).mono ?_
    rintro e w' ⟨rfl, rfl⟩
    go_wp2_with fail
    refine (alive_any _).mono ?_
    rintro e V5 ⟨rfl, b⟩
    have q_5 := q_4.trans (b.mono q_4.size)
    clear q_4
    clear b
    go_wp2
    go_ret
    exact ⟨rfl, q_5⟩
  case neg =>
    have i3 : ¬ ri < 2642245 := by omega
    clear h1 h2 h3 hlt c1 c2 hq hp eq ep hri hni hrt HR
    have q_0 := Below.refl w.heap.size w
    obtain ⟨E, hE⟩ : ∃ z, crE o m = z := ⟨_, rfl⟩
    have HE : Hid (Sm (crE o m) E) := Lib.hid ⟨hE⟩
    clear hE
    obtain ⟨A, hA⟩ : ∃ z, crO o m d = z := ⟨_, rfl⟩
    have HA : Hid (Sm (crO o m d) A) := Lib.hid ⟨hA⟩
    clear hA
    obtain ⟨F, hF⟩ : ∃ z, trE o c m = z := ⟨_, rfl⟩
    have HF : Hid (Sm (trE o c m) F) := Lib.hid ⟨hF⟩
    clear hF
    obtain ⟨U, hU⟩ : ∃ z, trO o c m = z := ⟨_, rfl⟩
    have HU : Hid (Sm (trO o c m) U) := Lib.hid ⟨hU⟩
    clear hU
    go_enter Try.func3, Try.ntmps3
    go_wp2_with fail
    refine (HRT.out _).mono ?_
    rintro e w' ⟨rfl, rfl⟩
    go_wp2_with fail
    refine (pcurve o m d A E HE.out.eq HA.out.eq _).mono ?_
    rintro e V1 ⟨rfl, b⟩
    have q_1 := q_0.trans (b.mono q_0.size)
    clear q_0
    clear b
    go_wp2_with fail
    refine (dcurve o m d A E HE.out.eq HA.out.eq _).mono ?_
    rintro e V2 ⟨rfl, b⟩
    have q_2 := q_1.trans (b.mono q_1.size)
    clear q_1
    clear b
    go_wp2_with fail
    refine (pturn o c m U F HF.out.eq HU.out.eq _).mono ?_
    rintro e V3 ⟨rfl, b⟩
    have q_3 := q_2.trans (b.mono q_2.size)
    clear q_2
    clear b
    go_wp2_with fail
    refine (dturn o c m U F HF.out.eq HU.out.eq _).mono ?_
    rintro e V4 ⟨rfl, b⟩
    have q_4 := q_3.trans (b.mono q_3.size)
    clear q_3
    clear b
    go_wp2_with fail
    refine (num_any _ _).mono ?_
    rintro e w' ⟨rfl, rfl⟩
    go_wp2_with fail
    refine (num_any _ _).mono ?_
    rintro e w' ⟨rfl, rfl⟩
    go_wp2_with fail
    refine (alive_any _).mono ?_
    rintro e V5 ⟨rfl, b⟩
    have q_5 := q_4.trans (b.mono q_4.size)
    clear q_4
    clear b
    go_wp2
    go_ret
    exact ⟨rfl, q_5⟩

theorem own : ownKnob Try.prog.godebug = none := by kernel_rfl

set_option maxRecDepth 100000 in
set_option maxHeartbeats 2000000 in
theorem lifted (os : Os) (started : os.Started) (H : Type) (enc : TypeId × Value → H) :
    ReturnsInHanded {} Try.checked os 3 .any (Rows.cubicNumbersSpec.pre6 enc Try.prog Try.f3 Rows.cubicNumbersRow.domain false) (Rows.cubicNumbersSpec.post enc Try.prog Try.f3 false true false false) := by
  refine returnsInHanded_of_change_sized (C := Try.checked) own started (by kernel_rfl) Try.func3
    (ChangeSpec.witness6 (enc := enc) (C := Try.checked) false ⟨#[], #[.int .u64 0, .int .i64 0, .int .i64 0, .int .i64 0, .int .i64 0], []⟩ 8 (by kernel_rfl) (by kernel_rfl) (by kernel_rfl) (by kernel_rfl)) ?_
  intro W base args ds gs before hval0 hW hcnd hsz0 _
  have hval : ∀ (j : Nat) t v, Try.f3.params[j]? = some t → args[j]? = some v → Value.okWide Try.prog W .any base t v := hval0
  have hW' := hW
  obtain ⟨p, q, hA0, hV, rfl, hfz, hnd⟩ := hW
  have hA : DataW.TrodAll enc Try.prog W 0 (fun _ => true) true Try.f3.params.toList args.toList ds p := hA0
  rw [Try.params3] at hA hval
  obtain ⟨v0, vs0, d0, ds0, p0, q0, hargs, rfl, rfl, h0, r0⟩ := trodAll_cons hA
  obtain ⟨v1, vs1, d1, ds1, p1, q1, rfl, rfl, rfl, h1, r1⟩ := trodAll_cons r0
  obtain ⟨v2, vs2, d2, ds2, p2, q2, rfl, rfl, rfl, h2, r2⟩ := trodAll_cons r1
  obtain ⟨v3, vs3, d3, ds3, p3, q3, rfl, rfl, rfl, h3, r3⟩ := trodAll_cons r2
  obtain ⟨v4, vs4, d4, ds4, p4, q4, rfl, rfl, rfl, h4, r4⟩ := trodAll_cons r3
  obtain ⟨rfl, rfl, rfl⟩ := trodAll_nil r4
  obtain rfl : args = #[v0, v1, v2, v3, v4] := by cases args; simp_all
  obtain ⟨rfl, rfl⟩ := trodVars_none hV
  obtain ⟨a0, rfl, rfl, rfl, w0⟩ := open_int Try.underlying22 (hval 0 22 v0 rfl rfl) h0
  obtain ⟨a1, rfl, rfl, rfl, w1⟩ := open_int Try.underlying3 (hval 1 3 v1 rfl rfl) h1
  obtain ⟨a2, rfl, rfl, rfl, w2⟩ := open_int Try.underlying3 (hval 2 3 v2 rfl rfl) h2
  obtain ⟨a3, rfl, rfl, rfl, w3⟩ := open_int Try.underlying3 (hval 3 3 v3 rfl rfl) h3
  obtain ⟨a4, rfl, rfl, rfl, w4⟩ := open_int Try.underlying3 (hval 4 3 v4 rfl rfl) h4
  clear hA0
  obtain ⟨n0, rfl, hn0⟩ := nat_of_u64 w0
  obtain ⟨lo1, hi1⟩ := bounds_i64 w1
  obtain ⟨lo2, hi2⟩ := bounds_i64 w2
  obtain ⟨lo3, hi3⟩ := bounds_i64 w3
  obtain ⟨lo4, hi4⟩ := bounds_i64 w4
  refine (walk n0 a1 a2 a3 a4 W hn0 lo1 hi1 lo2 hi2 lo3 hi3 lo4 hi4).mono fun e W' ⟨he, bel⟩ => ?_
  subst he
  exact ⟨_, rfl, _, _, _, [], _, [], hW', trodAll_mk1 (shut_bool Try.underlying4 _), (trodAll_cons_mk (shut_int Try.underlying22 w0) (trodAll_cons_mk (shut_int Try.underlying3 w1) (trodAll_cons_mk (shut_int Try.underlying3 w2) (trodAll_cons_mk (shut_int Try.underlying3 w3) (trodAll_cons_mk (shut_int Try.underlying3 w4) trodAll_mk0))))), rfl, bel.frame _, fun h => by cases h⟩

theorem over : Rows.cubicNumbersRow.holds Try.pinned (OpenSpec.ofChange Rows.cubicNumbersSpec) :=
  OpenClaim.holds_of_wide 3 Try.f3 rfl rfl rfl rfl rfl rfl rfl ⟨rfl, rfl, rfl, rfl, rfl⟩ rfl rfl rfl rfl rfl (by kernel_rfl) Try.func3 (by kernel_rfl)
    (of_decide_eq_true (by kernel_rfl)) (by unfold Func.isWrapper; first | (rw [if_pos (by decide +kernel)]; kernel_rfl) | (rw [if_neg (by decide +kernel)]; exact ⟨rfl, rfl⟩))
    (fun os started H enc _ => lifted os started H enc)

end Go.Proofs.Ythkmphngfndebaa.cubicNumbers
namespace Go.Proofs.Ythkmphngfndebaa
/-- The statement. -/
theorem cubicNumbers_holds : Rows.CubicNumbersSaid := cubicNumbers.over
#print axioms cubicNumbers_holds
end Go.Proofs.Ythkmphngfndebaa
