/- For every three numbers: the order of numbers modulo 2^32 is as the page says; it is the order of their distance. No condition. -/
import Derived.Test.YtlfpfpgggchjmaaRows
import Derived.Test.YtlfpfpgggchjmaaSbA
import Derived.Test.YtlfpfpgggchjmaaGFrame
import Derived.Test.YtlfpfpgggchjmaaGAgg
import Derived.Deep.DeepCutAuto
import Derived.RegionTactic
import Derived.Deep.RegionHeld3
import Derived.ProofKit
import Derived.OpenShut
import Derived.ChangeOld
import Derived.SizedLaws
namespace Go.Proofs.Ytlfpfpgggchjmaa.sendbufNumbers
open Go.ChangeShapes Go.WideShapes Go.ChangeAt Go.RowKit Go.Deep Go.Proofs.Ytlfpfpgggchjmaa.Sb

set_option maxRecDepth 100000 in
set_option maxHeartbeats 2000000 in
theorem walk0 (a b c : Int) (w : World) :
    Calls Try.prog 3 #[.int .u32 a, .int .u32 b, .int .u32 c] w fun e w' => e = .returned (.bool true) ∧ Below w.heap.size w w' := by
  have H3 : Hid (df a a = 0) := Lib.hid (df_same a)
  obtain ⟨a1, h1⟩ : ∃ z, (a + 1) % 4294967296 = z := ⟨_, rfl⟩
  obtain ⟨ac, h2⟩ : ∃ z, (a + c) % 4294967296 = z := ⟨_, rfl⟩
  obtain ⟨bc, h3⟩ : ∃ z, (b + c) % 4294967296 = z := ⟨_, rfl⟩
  have H4 : Hid (df a a1 = 4294967295) := Lib.hid (by rw [← h1]; have h := df_next a; rw [IntKind.wrap_u32] at h; exact h)
  have h5 : df ac bc = df a b := by rw [← h2, ← h3]; have h := df_shift (a := a) (b := b) (c := c); rw [IntKind.wrap_u32, IntKind.wrap_u32] at h; exact h
  obtain ⟨d, hd⟩ : ∃ z, df a b = z := ⟨_, rfl⟩
  obtain ⟨y, hy⟩ : ∃ z, df c b = z := ⟨_, rfl⟩
  rw [hd] at h5
  have H1 := Lib.hid hd
  have H2 := Lib.hid hy
  have H5 := Lib.hid h5
  have W1 : IntKind.u32.wrap (a + 1) = a1 := by rw [IntKind.wrap_u32]; exact h1
  have W2 : IntKind.u32.wrap (a + c) = ac := by rw [IntKind.wrap_u32]; exact h2
  have W3 : IntKind.u32.wrap (b + c) = bc := by rw [IntKind.wrap_u32]; exact h3
  clear hd hy h5
  by_cases hD : 2147483648 ≤ d
  case pos =>
    have HD := Lib.hid hD
    clear hD
    have q_0 := Below.refl w.heap.size w
    go_enter Try.func3, Try.ntmps3
    go_wp2_with fail
    refine (less_ok a b d _ H1.out).mono ?_
    rintro e w' ⟨rfl, rfl⟩
    go_wp2_with fail
    refine (rless_ok a b d _ H1.out).mono ?_
    rintro e w' ⟨rfl, rfl⟩
    go_wp2_with fail
    refine (within_ok a b c d y _ H1.out H2.out).mono ?_
    rintro e w' ⟨rfl, rfl⟩
    go_wp2_with fail
    refine (rwithin_ok a b c d y _ H1.out H2.out).mono ?_
    rintro e w' ⟨rfl, rfl⟩
    go_wp2_with fail
    refine (max_lt a b d _ H1.out (by have := HD.out; omega)).mono ?_
    rintro e w' ⟨rfl, rfl⟩
    go_wp2_with fail
    refine (rmax_lt a b d _ H1.out (by have := HD.out; omega)).mono ?_
    rintro e w' ⟨rfl, rfl⟩
    go_wp2_with fail
    refine (less_ok a a 0 _ H3.out).mono ?_
    rintro e w' ⟨rfl, rfl⟩
    go_wp2_with fail
    refine (less_ok a a1 4294967295 _ H4.out).mono ?_
    rintro e w' ⟨rfl, rfl⟩
    go_wp2_with fail
    refine (less_ok ac bc d _ H5.out).mono ?_
    rintro e w' ⟨rfl, rfl⟩
    go_wp2_with fail
    refine (less_ok a b d _ H1.out).mono ?_
    rintro e w' ⟨rfl, rfl⟩
    go_wp2_with fail
    refine (alive_any _).mono ?_
    rintro e V1 ⟨rfl, b⟩
    have q_1 := q_0.trans (b.mono q_0.size)
    clear q_0
    clear b
    go_wp2
    go_ret
    exact ⟨rfl, q_1⟩
  case neg =>
    have HD := Lib.hid hD
    clear hD
    have q_0 := Below.refl w.heap.size w
    go_enter Try.func3, Try.ntmps3
    go_wp2_with fail
    refine (less_ok a b d _ H1.out).mono ?_
    rintro e w' ⟨rfl, rfl⟩
    go_wp2_with fail
    refine (rless_ok a b d _ H1.out).mono ?_
    rintro e w' ⟨rfl, rfl⟩
    go_wp2_with fail
    refine (within_ok a b c d y _ H1.out H2.out).mono ?_
    rintro e w' ⟨rfl, rfl⟩
    go_wp2_with fail
    refine (rwithin_ok a b c d y _ H1.out H2.out).mono ?_
    rintro e w' ⟨rfl, rfl⟩
    go_wp2_with fail
    refine (max_ge a b d _ H1.out (by have := HD.out; omega)).mono ?_
    rintro e w' ⟨rfl, rfl⟩
    go_wp2_with fail
    refine (rmax_ge a b d _ H1.out (by have := HD.out; omega)).mono ?_
    rintro e w' ⟨rfl, rfl⟩
    go_wp2_with fail
    refine (less_ok a a 0 _ H3.out).mono ?_
    rintro e w' ⟨rfl, rfl⟩
    go_wp2_with fail
    refine (less_ok a a1 4294967295 _ H4.out).mono ?_
    rintro e w' ⟨rfl, rfl⟩
    go_wp2_with fail
    refine (less_ok ac bc d _ H5.out).mono ?_
    rintro e w' ⟨rfl, rfl⟩
    go_wp2_with fail
    refine (less_ok a b d _ H1.out).mono ?_
    rintro e w' ⟨rfl, rfl⟩
    go_wp2_with fail
    refine (alive_any _).mono ?_
    rintro e V1 ⟨rfl, b⟩
    have q_1 := q_0.trans (b.mono q_0.size)
    clear q_0
    clear b
    go_wp2
    go_ret
    exact ⟨rfl, q_1⟩

theorem walk (a b c : Nat) (w : World) (_ : a < 4294967296) (_ : b < 4294967296) (_ : c < 4294967296) :
    Calls Try.prog 3 #[.int .u32 a, .int .u32 b, .int .u32 c] w fun e w' => e = .returned (.bool true) ∧ Below w.heap.size w w' :=
  walk0 a b c w

theorem own : ownKnob Try.prog.godebug = none := by kernel_rfl

set_option maxRecDepth 100000 in
set_option maxHeartbeats 2000000 in
theorem lifted (os : Os) (started : os.Started) (H : Type) (enc : TypeId × Value → H) :
    ReturnsInHanded {} Try.checked os 3 .any (Rows.sendbufNumbersSpec.pre6 enc Try.prog Try.f3 Rows.sendbufNumbersRow.domain false) (Rows.sendbufNumbersSpec.post enc Try.prog Try.f3 false true false false) := by
  refine returnsInHanded_of_change_sized (C := Try.checked) own started (by kernel_rfl) Try.func3
    (ChangeSpec.witness6 (enc := enc) (C := Try.checked) false ⟨#[], #[.int .u32 0, .int .u32 0, .int .u32 0], []⟩ 8 (by kernel_rfl) (by kernel_rfl) (by kernel_rfl) (by kernel_rfl)) ?_
  intro W base args ds gs before hval0 hW hcnd hsz0 _
  have hval : ∀ (j : Nat) t v, Try.f3.params[j]? = some t → args[j]? = some v → Value.okWide Try.prog W .any base t v := hval0
  have hW' := hW
  obtain ⟨p, q, hA0, hV, rfl, hfz, hnd⟩ := hW
  have hA : DataW.TrodAll enc Try.prog W 0 (fun _ => true) true Try.f3.params.toList args.toList ds p := hA0
  rw [Try.params3] at hA hval
  obtain ⟨v0, vs0, d0, ds0, p0, q0, hargs, rfl, rfl, h0, r0⟩ := trodAll_cons hA
  obtain ⟨v1, vs1, d1, ds1, p1, q1, rfl, rfl, rfl, h1, r1⟩ := trodAll_cons r0
  obtain ⟨v2, vs2, d2, ds2, p2, q2, rfl, rfl, rfl, h2, r2⟩ := trodAll_cons r1
  obtain ⟨rfl, rfl, rfl⟩ := trodAll_nil r2
  obtain rfl : args = #[v0, v1, v2] := by cases args; simp_all
  obtain ⟨rfl, rfl⟩ := trodVars_none hV
  obtain ⟨a0, rfl, rfl, rfl, w0⟩ := open_int Try.underlying22 (hval 0 22 v0 rfl rfl) h0
  obtain ⟨a1, rfl, rfl, rfl, w1⟩ := open_int Try.underlying22 (hval 1 22 v1 rfl rfl) h1
  obtain ⟨a2, rfl, rfl, rfl, w2⟩ := open_int Try.underlying22 (hval 2 22 v2 rfl rfl) h2
  clear hA0
  obtain ⟨n0, rfl, hn0⟩ := nat_of_u32 w0
  obtain ⟨n1, rfl, hn1⟩ := nat_of_u32 w1
  obtain ⟨n2, rfl, hn2⟩ := nat_of_u32 w2
  refine (walk n0 n1 n2 W hn0 hn1 hn2).mono fun e W' ⟨he, bel⟩ => ?_
  subst he
  exact ⟨_, rfl, _, _, _, [], _, [], hW', trodAll_mk1 (shut_bool Try.underlying4 _), (trodAll_cons_mk (shut_int Try.underlying22 w0) (trodAll_cons_mk (shut_int Try.underlying22 w1) (trodAll_cons_mk (shut_int Try.underlying22 w2) trodAll_mk0))), rfl, bel.frame _, fun h => by cases h⟩

theorem over : Rows.sendbufNumbersRow.holds Try.pinned (OpenSpec.ofChange Rows.sendbufNumbersSpec) :=
  OpenClaim.holds_of_wide 3 Try.f3 rfl rfl rfl rfl rfl rfl rfl ⟨rfl, rfl, rfl, rfl, rfl⟩ rfl rfl rfl rfl rfl (by kernel_rfl) Try.func3 (by kernel_rfl)
    (of_decide_eq_true (by kernel_rfl)) (by unfold Func.isWrapper; first | (rw [if_pos (by decide +kernel)]; kernel_rfl) | (rw [if_neg (by decide +kernel)]; exact ⟨rfl, rfl⟩))
    (fun os started H enc _ => lifted os started H enc)

end Go.Proofs.Ytlfpfpgggchjmaa.sendbufNumbers
namespace Go.Proofs.Ytlfpfpgggchjmaa
/-- The statement. -/
theorem sendbufNumbers_holds : Rows.SendbufNumbersSaid := sendbufNumbers.over
#print axioms sendbufNumbers_holds
end Go.Proofs.Ytlfpfpgggchjmaa
