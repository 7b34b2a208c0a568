/- For every two addresses: a tuple is its holder's: to spoil one leaves another one as it was. No condition. -/
import Derived.Test.YtpdlmgafkjmjpaaRows
import Derived.Test.YtpdlmgafkjmjpaaAlive7
import Derived.Test.YtpdlmgafkjmjpaaToPut
import Derived.Test.YtpdlmgafkjmjpaaGPlain
import Derived.Test.YtpdlmgafkjmjpaaGSpoil
import Derived.Test.YtpdlmgafkjmjpaaGFrame
import Derived.ProofKit
import Derived.OpenShut
import Derived.ShutString
import Derived.ChangeOld
import Derived.SizedLaws
namespace Go.Proofs.Ytpdlmgafkjmjpaa.toeplitzOwn
open Go.ChangeShapes Go.WideShapes Go.ChangeAt Go.RowKit Go.Proofs.Ytpdlmgafkjmjpaa.law7
open Go.ChangeMaps (open_string shut_string)

set_option maxRecDepth 100000 in
set_option maxHeartbeats 4000000 in
theorem walk (src dst : Nat) (w : World) (hsrc : src < 4294967296) (hdst : dst < 4294967296) :
    Calls Try.prog 15 #[.int .u32 src, .int .u32 dst] w fun e w' => e = .returned (.bool true) ∧ Below w.heap.size w w' := by
  have q_0 := Below.refl w.heap.size w
  go_enter Try.func15, Try.ntmps15
  go_wp2_with fail
  refine (alive_any _).mono ?_
  rintro e V1 ⟨rfl, b⟩
  have q_1 := q_0.trans (b.mono q_0.size)
  clear q_0
  clear b
  go_wp2_with fail
  refine (tuple_any src dst 1 2 hsrc hdst (by omega) (by omega) _).mono ?_
  rintro e V2 ⟨g1, c1, rfl, G, b⟩
  have q_2 := q_1.trans (b.mono q_1.size)
  clear q_1
  have G_2 := Lib.hid (G)
  clear b
  clear G
  have lt := tup_len src dst 1 2
  have cp := copy_one (some ⟨g1, 0, none⟩) (tup src dst 1 2) c1 _ G_2.out.bts (by rw [lt]; omega) (fun h => by cases h)
  rw [lt] at cp
  have CP := Lib.hid cp
  clear cp
  go_wp2_with fail
  refine (CP.out).mono ?_
  rintro e V3 ⟨oa, oc, rfl, O, b⟩
  have G_3 := Lib.hid (G_2.out.below b)
  have q_3 := q_2.trans (b.mono q_2.size)
  clear G_2 q_2
  have O_3 := Lib.hid (O)
  clear b
  clear O CP
  have qb := q_3.size
  have g1l : ∀ g, (some (⟨g1, 0, none⟩ : Addr)) = some ⟨g, 0, none⟩ → g < V3.heap.size := G_3.out.blkLt
  have o1l := O_3.out.blkLt
  go_wp2_with fail
  refine (tuple_any src dst 1 2 hsrc hdst (by omega) (by omega) _).mono ?_
  rintro e V4 ⟨g2, c2, rfl, F, b⟩
  have G_4 := Lib.hid (G_3.out.below b)
  have O_4 := Lib.hid (O_3.out.below b)
  have q_4 := q_3.trans (b.mono q_3.size)
  have sz_4 := b.size
  clear G_3 O_3 q_3
  have F_4 := Lib.hid (F)
  clear b
  clear F
  have sp := spoil_own V3.heap.size V4.heap.size c2 (some ⟨g2, 0, none⟩) (tup src dst 1 2) (by rw [lt]; omega) _ F_4.out F_4.out.blkLt
  rw [lt] at sp
  have SP := Lib.hid sp
  clear sp
  go_wp2_with fail
  refine SP.out.mono ?_
  rintro e V5 ⟨⟨sv, rfl⟩, bt⟩
  have b := bt.below sz_4
  have G_5 := Lib.hid (G_4.out.under g1l bt)
  have O_5 := Lib.hid (O_4.out.under o1l bt)
  have q_5 := q_4.trans (b.mono qb)
  have st := same_one (some ⟨g1, 0, none⟩) oa (tup src dst 1 2) (tup src dst 1 2) c1 oc _ G_5.out.bts O_5.out.bts (by rw [lt]; omega) (by rw [lt]; omega) rfl
  rw [lt] at st
  have ST := Lib.hid st
  clear st SP G_4 O_4 F_4
  go_wp2_with fail
  refine ST.out.mono ?_
  rintro e V6 ⟨rfl, b6⟩
  have q_6 := q_5.trans (b6.mono q_5.size)
  go_wp2
  go_ret
  exact ⟨rfl, q_6⟩

theorem own : ownKnob Try.prog.godebug = none := by kernel_rfl

set_option maxRecDepth 100000 in
set_option maxHeartbeats 2000000 in
theorem lifted (os : Os) (started : os.Started) (H : Type) (enc : TypeId × Value → H) :
    ReturnsInHanded {} Try.checked os 15 .any (Rows.toeplitzOwnSpec.pre6 enc Try.prog Try.f15 Rows.toeplitzOwnRow.domain false) (Rows.toeplitzOwnSpec.post enc Try.prog Try.f15 false true false false) := by
  refine returnsInHanded_of_change_sized (C := Try.checked) own started (by kernel_rfl) Try.func15
    (ChangeSpec.witness6 (enc := enc) (C := Try.checked) false ⟨#[], #[.int .u32 0, .int .u32 0], []⟩ 8 (by kernel_rfl) (by kernel_rfl) (by kernel_rfl) (by kernel_rfl)) ?_
  intro W base args ds gs before hval0 hW hcnd hsz0 _
  have hval : ∀ (j : Nat) t v, Try.f15.params[j]? = some t → args[j]? = some v → Value.okWide Try.prog W .any base t v := hval0
  have hW' := hW
  obtain ⟨p, q, hA0, hV, rfl, hfz, hnd⟩ := hW
  have hA : DataW.TrodAll enc Try.prog W 0 (fun _ => true) true Try.f15.params.toList args.toList ds p := hA0
  rw [Try.params15] at hA hval
  obtain ⟨v0, vs0, d0, ds0, p0, q0, hargs, rfl, rfl, h0, r0⟩ := trodAll_cons hA
  obtain ⟨v1, vs1, d1, ds1, p1, q1, rfl, rfl, rfl, h1, r1⟩ := trodAll_cons r0
  obtain ⟨rfl, rfl, rfl⟩ := trodAll_nil r1
  obtain rfl : args = #[v0, v1] := by cases args; simp_all
  obtain ⟨rfl, rfl⟩ := trodVars_none hV
  obtain ⟨a0, rfl, rfl, rfl, w0⟩ := open_int Try.underlying25 (hval 0 25 v0 rfl rfl) h0
  obtain ⟨a1, rfl, rfl, rfl, w1⟩ := open_int Try.underlying25 (hval 1 25 v1 rfl rfl) h1
  clear hA0
  obtain ⟨n0, rfl, hn0⟩ := nat_of_u32 w0
  obtain ⟨n1, rfl, hn1⟩ := nat_of_u32 w1
  refine (walk n0 n1 W hn0 hn1).mono fun e W' ⟨he, bel⟩ => ?_
  subst he
  exact ⟨_, rfl, _, _, _, [], _, [], hW', trodAll_mk1 (shut_bool Try.underlying4 _), (trodAll_cons_mk (shut_int Try.underlying25 w0) (trodAll_cons_mk (shut_int Try.underlying25 w1) trodAll_mk0)), rfl, bel.frame _, fun h => by cases h⟩

theorem over : Rows.toeplitzOwnRow.holds Try.pinned (OpenSpec.ofChange Rows.toeplitzOwnSpec) :=
  OpenClaim.holds_of_wide 15 Try.f15 rfl rfl rfl rfl rfl rfl rfl ⟨rfl, rfl, rfl, rfl, rfl⟩ rfl rfl rfl rfl rfl (by kernel_rfl) Try.func15 (by kernel_rfl)
    (of_decide_eq_true (by kernel_rfl)) (by unfold Func.isWrapper; first | (rw [if_pos (by decide +kernel)]; kernel_rfl) | (rw [if_neg (by decide +kernel)]; exact ⟨rfl, rfl⟩))
    (fun os started H enc _ => lifted os started H enc)

end Go.Proofs.Ytpdlmgafkjmjpaa.toeplitzOwn
namespace Go.Proofs.Ytpdlmgafkjmjpaa
/-- The statement. -/
theorem toeplitzOwn_holds : Rows.ToeplitzOwnSaid := toeplitzOwn.over
#print axioms toeplitzOwn_holds
end Go.Proofs.Ytpdlmgafkjmjpaa
