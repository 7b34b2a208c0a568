/- For every state, packet, rate, quantum and tick: a packet's departure, and the state that follows, are the page's. No condition. -/
import Derived.Test.YtlomglcohbphlaaRows
import Derived.Test.YtlomglcohbphlaaPcD
import Derived.Test.YtlomglcohbphlaaGAgg
import Derived.Deep.DeepCutAuto
import Derived.RegionTactic
import Derived.Deep.RegionHeld3
import Derived.ProofKit
import Derived.OpenShut
import Derived.ChangeOld
import Derived.SizedLaws
namespace Go.Proofs.Ytlomglcohbphlaa.pacerTells
open Go.ChangeShapes Go.WideShapes Go.ChangeAt Go.RowKit Go.Deep Go.Proofs.Ytlomglcohbphlaa.Pc

set_option maxRecDepth 100000 in
set_option maxHeartbeats 1000000 in
theorem walk (x z r q v : Int) (w : World) (_x_l : -9223372036854775808 ≤ x) (_x_h : x ≤ 9223372036854775807) (_z_l : -9223372036854775808 ≤ z) (_z_h : z ≤ 9223372036854775807) (_r_l : -9223372036854775808 ≤ r) (_r_h : r ≤ 9223372036854775807) (_q_l : -9223372036854775808 ≤ q) (_q_h : q ≤ 9223372036854775807) (_v_l : -9223372036854775808 ≤ v) (_v_h : v ≤ 9223372036854775807) :
    Calls Try.prog 4 #[.int .i64 x, .int .i64 z, .int .i64 r, .int .i64 q, .int .i64 v] w fun e w' => e = .returned (.bool true) ∧ Below w.heap.size w w' := by
  have q_0 := Below.refl w.heap.size w
  obtain ⟨E, hE⟩ : ∃ z', dE x z r q v = z' := ⟨_, rfl⟩
  have HE : Hid (Sm (dE x z r q v) E) := Lib.hid ⟨hE⟩
  clear hE
  obtain ⟨N, hN⟩ : ∃ z', dN x z r q v = z' := ⟨_, rfl⟩
  have HN : Hid (Sm (dN x z r q v) N) := Lib.hid ⟨hN⟩
  clear hN
  obtain ⟨T, hT⟩ : ∃ z', dT x z r q v = z' := ⟨_, rfl⟩
  have HT : Hid (Sm (dT x z r q v) T) := Lib.hid ⟨hT⟩
  clear hT
  go_enter Try.func4, Try.ntmps4
  go_wp2_with fail
  refine (pdepart x z r q v N T E HE.out.eq HN.out.eq HT.out.eq _).mono ?_
  rintro e V1 ⟨rfl, b⟩
  have q_1 := q_0.trans (b.mono q_0.size)
  clear q_0
  clear b
  go_wp2_with fail
  have b : Below V1.heap.size V1 (V1.alloc (.cells #[.int .i64 N] 38)) := ((Below.refl _ V1).alloc (Nat.le_refl _) (.cells #[.int .i64 N] 38))
  have nb0 := blk_new V1 (.cells #[.int .i64 N] 38)
  have nz0 : V1.heap.size < (V1.alloc (.cells #[.int .i64 N] 38)).heap.size := by simp only [World.size_alloc]; omega
  have q_2 := q_1.trans (b.mono q_1.size)
  clear q_1
  clear b
  have A_2 := Lib.hid nb0
  have Az_2 := nz0
  clear nb0 nz0
  have Ac0_2 := blk_cell A_2.out 0
  generalize (V1.alloc (.cells #[.int .i64 N] 38)) = V2 at q_2 A_2 Az_2 Ac0_2 ⊢
  refine (ddepart x z r q v N T E HE.out.eq HN.out.eq HT.out.eq _).mono ?_
  rintro e w' ⟨rfl, rfl⟩
  go_wp2_with fail
  refine (num_any _ _).mono ?_
  rintro e w' ⟨rfl, rfl⟩
  go_wp2_with fail
  refine (alive_any _).mono ?_
  rintro e V3 ⟨rfl, b⟩
  have A_3 := Lib.hid ((b.block _ Az_2).trans A_2.out)
  have Az_3 := Nat.lt_of_lt_of_le Az_2 b.size
  have Ac0_3 := blk_cell A_3.out 0
  have q_3 := q_2.trans (b.mono q_2.size)
  clear A_2 Az_2 Ac0_2 q_2
  clear b
  go_wp2
  go_ret
  exact ⟨rfl, q_3⟩

theorem own : ownKnob Try.prog.godebug = none := by kernel_rfl

set_option maxRecDepth 100000 in
set_option maxHeartbeats 2000000 in
theorem lifted (os : Os) (started : os.Started) (H : Type) (enc : TypeId × Value → H) :
    ReturnsInHanded {} Try.checked os 4 .any (Rows.pacerTellsSpec.pre6 enc Try.prog Try.f4 Rows.pacerTellsRow.domain false) (Rows.pacerTellsSpec.post enc Try.prog Try.f4 false true false false) := by
  refine returnsInHanded_of_change_sized (C := Try.checked) own started (by kernel_rfl) Try.func4
    (ChangeSpec.witness6 (enc := enc) (C := Try.checked) false ⟨#[], #[.int .i64 0, .int .i64 0, .int .i64 0, .int .i64 0, .int .i64 0], []⟩ 8 (by kernel_rfl) (by kernel_rfl) (by kernel_rfl) (by kernel_rfl)) ?_
  intro W base args ds gs before hval0 hW hcnd hsz0 _
  have hval : ∀ (j : Nat) t v, Try.f4.params[j]? = some t → args[j]? = some v → Value.okWide Try.prog W .any base t v := hval0
  have hW' := hW
  obtain ⟨p, q, hA0, hV, rfl, hfz, hnd⟩ := hW
  have hA : DataW.TrodAll enc Try.prog W 0 (fun _ => true) true Try.f4.params.toList args.toList ds p := hA0
  rw [Try.params4] at hA hval
  obtain ⟨v0, vs0, d0, ds0, p0, q0, hargs, rfl, rfl, h0, r0⟩ := trodAll_cons hA
  obtain ⟨v1, vs1, d1, ds1, p1, q1, rfl, rfl, rfl, h1, r1⟩ := trodAll_cons r0
  obtain ⟨v2, vs2, d2, ds2, p2, q2, rfl, rfl, rfl, h2, r2⟩ := trodAll_cons r1
  obtain ⟨v3, vs3, d3, ds3, p3, q3, rfl, rfl, rfl, h3, r3⟩ := trodAll_cons r2
  obtain ⟨v4, vs4, d4, ds4, p4, q4, rfl, rfl, rfl, h4, r4⟩ := trodAll_cons r3
  obtain ⟨rfl, rfl, rfl⟩ := trodAll_nil r4
  obtain rfl : args = #[v0, v1, v2, v3, v4] := by cases args; simp_all
  obtain ⟨rfl, rfl⟩ := trodVars_none hV
  obtain ⟨a0, rfl, rfl, rfl, w0⟩ := open_int Try.underlying3 (hval 0 3 v0 rfl rfl) h0
  obtain ⟨a1, rfl, rfl, rfl, w1⟩ := open_int Try.underlying3 (hval 1 3 v1 rfl rfl) h1
  obtain ⟨a2, rfl, rfl, rfl, w2⟩ := open_int Try.underlying3 (hval 2 3 v2 rfl rfl) h2
  obtain ⟨a3, rfl, rfl, rfl, w3⟩ := open_int Try.underlying3 (hval 3 3 v3 rfl rfl) h3
  obtain ⟨a4, rfl, rfl, rfl, w4⟩ := open_int Try.underlying3 (hval 4 3 v4 rfl rfl) h4
  clear hA0
  obtain ⟨lo0, hi0⟩ := bounds_i64 w0
  obtain ⟨lo1, hi1⟩ := bounds_i64 w1
  obtain ⟨lo2, hi2⟩ := bounds_i64 w2
  obtain ⟨lo3, hi3⟩ := bounds_i64 w3
  obtain ⟨lo4, hi4⟩ := bounds_i64 w4
  refine (walk a0 a1 a2 a3 a4 W lo0 hi0 lo1 hi1 lo2 hi2 lo3 hi3 lo4 hi4).mono fun e W' ⟨he, bel⟩ => ?_
  subst he
  exact ⟨_, rfl, _, _, _, [], _, [], hW', trodAll_mk1 (shut_bool Try.underlying4 _), (trodAll_cons_mk (shut_int Try.underlying3 w0) (trodAll_cons_mk (shut_int Try.underlying3 w1) (trodAll_cons_mk (shut_int Try.underlying3 w2) (trodAll_cons_mk (shut_int Try.underlying3 w3) (trodAll_cons_mk (shut_int Try.underlying3 w4) trodAll_mk0))))), rfl, bel.frame _, fun h => by cases h⟩

theorem over : Rows.pacerTellsRow.holds Try.pinned (OpenSpec.ofChange Rows.pacerTellsSpec) :=
  OpenClaim.holds_of_wide 4 Try.f4 rfl rfl rfl rfl rfl rfl rfl ⟨rfl, rfl, rfl, rfl, rfl⟩ rfl rfl rfl rfl rfl (by kernel_rfl) Try.func4 (by kernel_rfl)
    (of_decide_eq_true (by kernel_rfl)) (by unfold Func.isWrapper; first | (rw [if_pos (by decide +kernel)]; kernel_rfl) | (rw [if_neg (by decide +kernel)]; exact ⟨rfl, rfl⟩))
    (fun os started H enc _ => lifted os started H enc)

end Go.Proofs.Ytlomglcohbphlaa.pacerTells
namespace Go.Proofs.Ytlomglcohbphlaa
/-- The statement. -/
theorem pacerTells_holds : Rows.PacerTellsSaid := pacerTells.over
#print axioms pacerTells_holds
end Go.Proofs.Ytlomglcohbphlaa
