/- For every three words, adding them hangs on no order, and 0 and 65535 are its only silent ones. No condition. -/
import Derived.Test.YteoejlclddkcfaaRows
import Derived.Test.YteoejlclddkcfaaSumAlive
import Derived.Test.YteoejlclddkcfaaGFrame
import Derived.ProofKit
import Derived.OpenShut
import Derived.ShutString
import Derived.ChangeOld
import Derived.SizedLaws
namespace Go.Proofs.Yteoejlclddkcfaa.checksumAdds
open Go.ChangeShapes Go.WideShapes Go.ChangeAt Go.RowKit
open Go.ChangeMaps (open_string shut_string)

set_option maxHeartbeats 1000000 in
theorem walk (a b c : Nat) (w : World) (ha : a < 65536) (hb : b < 65536) (hc : c < 65536) :
    Calls Try.prog 7 #[.int .u16 a, .int .u16 b, .int .u16 c] w fun e w' => e = .returned (.bool true) ∧ Below w.heap.size w w' := by
  go_enter Try.func7, Try.ntmps7
  go_wp2_with fail
  refine (alive_any _).mono ?_
  rintro e w1 ⟨rfl, b1⟩
  go_wp2_with fail
  refine (add_any a b (by omega) (by omega) _).mono ?_
  rintro e w2 ⟨rfl, b2⟩
  have q2 := b1.trans (b2.mono b1.size)
  clear b1 b2
  go_wp2_with fail
  refine (add_any b a (by omega) (by omega) _).mono ?_
  rintro e w3 ⟨rfl, b3⟩
  have q3 := q2.trans (b3.mono q2.size)
  clear b3 q2
  rw [Mt.addw_comm b a]
  have l1 := Mt.addw_le a b (by omega) (by omega)
  obtain ⟨s, hs⟩ : ∃ s, Mt.addw a b = s := ⟨_, rfl⟩
  rw [hs] at l1 ⊢
  have Hs := Lib.hid hs; clear hs
  have e1 : ((s : Int) != (s : Int)) = false := by simp
  go_wp2_with fail
  refine (add_any a b (by omega) (by omega) _).mono ?_
  rintro e w4 ⟨rfl, b4⟩
  have q4 := q3.trans (b4.mono q3.size)
  clear b4 q3
  rw [Hs.out]
  go_wp2_with fail
  refine (add_any s c (by omega) (by omega) _).mono ?_
  rintro e w5 ⟨rfl, b5⟩
  have q5 := q4.trans (b5.mono q4.size)
  clear b5 q4
  go_wp2_with fail
  refine (add_any b c (by omega) (by omega) _).mono ?_
  rintro e w6 ⟨rfl, b6⟩
  have q6 := q5.trans (b6.mono q5.size)
  clear b6 q5
  have l2 := Mt.addw_le b c (by omega) (by omega)
  have ha2 := Mt.addw_assoc a b c (by omega) (by omega) (by omega)
  rw [Hs.out] at ha2
  obtain ⟨t, ht⟩ : ∃ t, Mt.addw b c = t := ⟨_, rfl⟩
  rw [ht] at l2 ha2 ⊢
  clear ht
  have Ha2 := Lib.hid ha2; clear ha2
  go_wp2_with fail
  refine (add_any a t (by omega) (by omega) _).mono ?_
  rintro e w7 ⟨rfl, b7⟩
  have q7 := q6.trans (b7.mono q6.size)
  clear b7 q6
  rw [Ha2.out]
  obtain ⟨r, hr⟩ : ∃ r, Mt.addw a t = r := ⟨_, rfl⟩
  rw [hr]
  clear hr Ha2 Hs
  have e2 : ((r : Int) != (r : Int)) = false := by simp
  go_wp2_with fail
  refine (add_any a 0 (by omega) (by omega) _).mono ?_
  rintro e w8 ⟨rfl, b8⟩
  have q8 := q7.trans (b8.mono q7.size)
  clear b8 q7
  rw [Mt.addw_zero a (by omega)]
  by_cases h0 : a = 0
  · subst h0
    go_wp2_with fail
    go_ret
    exact ⟨rfl, q8⟩
  · have e3 : ((a : Int) == 0) = false := by rw [beq_eq_false_iff_ne]; omega
    go_wp2_with fail
    refine (add_any a 65535 (by omega) (by omega) _).mono ?_
    rintro e w9 ⟨rfl, b9⟩
    have q9 := q8.trans (b9.mono q8.size)
    rw [Mt.addw_full a (by omega)]
    clear b9 q8
    go_wp2
    go_ret
    exact ⟨rfl, q9⟩

theorem own : ownKnob Try.prog.godebug = none := by kernel_rfl

set_option maxRecDepth 100000 in
theorem lifted (os : Os) (started : os.Started) (H : Type) (enc : TypeId × Value → H) :
    ReturnsInHanded {} Try.checked os 7 .any (Rows.checksumAddsSpec.pre6 enc Try.prog Try.f7 Rows.checksumAddsRow.domain false) (Rows.checksumAddsSpec.post enc Try.prog Try.f7 false true false false) := by
  refine returnsInHanded_of_change_sized (C := Try.checked) own started (by kernel_rfl) Try.func7
    (ChangeSpec.witness6 (enc := enc) (C := Try.checked) false ⟨#[], #[.int .u16 0, .int .u16 0, .int .u16 0], []⟩ 8 (by kernel_rfl) (by kernel_rfl) (by kernel_rfl) (by kernel_rfl)) ?_
  intro W base args ds gs before hval0 hW hcnd hsz0 _
  have hval : ∀ (j : Nat) t v, Try.f7.params[j]? = some t → args[j]? = some v → Value.okWide Try.prog W .any base t v := hval0
  have hW' := hW
  obtain ⟨p, q, hA0, hV, rfl, hfz, hnd⟩ := hW
  have hA : DataW.TrodAll enc Try.prog W 0 (fun _ => true) true Try.f7.params.toList args.toList ds p := hA0
  rw [Try.params7] at hA hval
  obtain ⟨v0, vs0, d0, ds0, p0, q0, hargs, rfl, rfl, h0, r0⟩ := trodAll_cons hA
  obtain ⟨v1, vs1, d1, ds1, p1, q1, rfl, rfl, rfl, h1, r1⟩ := trodAll_cons r0
  obtain ⟨v2, vs2, d2, ds2, p2, q2, rfl, rfl, rfl, h2, r2⟩ := trodAll_cons r1
  obtain ⟨rfl, rfl, rfl⟩ := trodAll_nil r2
  obtain rfl : args = #[v0, v1, v2] := by cases args; simp_all
  obtain ⟨rfl, rfl⟩ := trodVars_none hV
  obtain ⟨a0, rfl, rfl, rfl, w0⟩ := open_int Try.underlying23 (hval 0 23 v0 rfl rfl) h0
  obtain ⟨a1, rfl, rfl, rfl, w1⟩ := open_int Try.underlying23 (hval 1 23 v1 rfl rfl) h1
  obtain ⟨a2, rfl, rfl, rfl, w2⟩ := open_int Try.underlying23 (hval 2 23 v2 rfl rfl) h2
  clear hA0
  obtain ⟨n0, rfl, hn0⟩ := nat_of_u16 w0
  obtain ⟨n1, rfl, hn1⟩ := nat_of_u16 w1
  obtain ⟨n2, rfl, hn2⟩ := nat_of_u16 w2
  refine (walk n0 n1 n2 W hn0 hn1 hn2).mono fun e W' ⟨he, bel⟩ => ?_
  subst he
  exact ⟨_, rfl, _, _, _, [], _, [], hW', trodAll_mk1 (shut_bool Try.underlying4 _), (trodAll_cons_mk (shut_int Try.underlying23 w0) (trodAll_cons_mk (shut_int Try.underlying23 w1) (trodAll_cons_mk (shut_int Try.underlying23 w2) trodAll_mk0))), rfl, bel.frame _, fun h => by cases h⟩

theorem over : Rows.checksumAddsRow.holds Try.pinned (OpenSpec.ofChange Rows.checksumAddsSpec) :=
  OpenClaim.holds_of_wide 7 Try.f7 rfl rfl rfl rfl rfl rfl rfl ⟨rfl, rfl, rfl, rfl, rfl⟩ rfl rfl rfl rfl rfl (by kernel_rfl) Try.func7 (by kernel_rfl)
    (of_decide_eq_true (by kernel_rfl)) (by unfold Func.isWrapper; first | (rw [if_pos (by decide +kernel)]; kernel_rfl) | (rw [if_neg (by decide +kernel)]; exact ⟨rfl, rfl⟩))
    (fun os started H enc _ => lifted os started H enc)

end Go.Proofs.Yteoejlclddkcfaa.checksumAdds
namespace Go.Proofs.Yteoejlclddkcfaa
/-- The statement. -/
theorem checksumAdds_holds : Rows.ChecksumAddsSaid := checksumAdds.over
#print axioms checksumAdds_holds
end Go.Proofs.Yteoejlclddkcfaa
