/- For every pair of numbers: slow start is left just when the least answer of a round, of eight at least, is longer than the last round's by an eighth, by 4 at least, by 16 at most. No condition. -/
import Derived.Test.YtfmjlcnpabpheaaRows
import Derived.Test.YtfmjlcnpabpheaaHyAl
import Derived.Test.YtfmjlcnpabpheaaGAgg
import Derived.Deep.DeepCutAuto
import Derived.RegionTactic
import Derived.Deep.RegionHeld3
import Derived.ProofKit
import Derived.OpenShut
import Derived.ChangeOld
import Derived.SizedLaws
namespace Go.Proofs.Ytfmjlcnpabpheaa.hystartLeaves
open Go.ChangeShapes Go.WideShapes Go.ChangeAt Go.RowKit Go.Deep Go.Proofs.Ytfmjlcnpabpheaa.Hy

theorem rounds_two (a b : Int) (t : HS) (_ht : rs [a, b] = t) (ha : -9223372036854775808 ≤ a ∧ a ≤ 9223372036854775807) (hb : -9223372036854775808 ≤ b ∧ b ≤ 9223372036854775807) (w : World) : Calls Try.prog 15 #[.slice (some ⟨w.heap.size, 0, none⟩) 2 2] (w.alloc (.cells #[.int .i64 a, .int .i64 b] 3)) fun e w' => e = .returned (.agg #[.int .i64 t.p, .bool t.hl, .bool t.hn, .int .i64 t.la, .int .i64 t.no, .int .i64 t.sa, .int .i64 t.ba, .int .i64 t.ro]) ∧ Below w.heap.size w w' := by
  subst _ht
  have b0 := (Below.refl w.heap.size w).alloc (Nat.le_refl _) (.cells #[.int .i64 a, .int .i64 b] 3)
  refine (rounds_any _ [a, b] 2 (w.alloc (.cells #[.int .i64 a, .int .i64 b] 3)) (its_new w [a, b] 3 (by intro x hx; simp at hx; rcases hx with rfl | rfl; exact ha; exact hb)) (by simp)).mono ?_
  rintro e w' ⟨rfl, b⟩
  exact ⟨rfl, below_after b0 b⟩

set_option maxRecDepth 100000 in
set_option maxHeartbeats 2000000 in
theorem walk (a0 b0 : Int) (w : World) (_a0_l : -9223372036854775808 ≤ a0) (_a0_h : a0 ≤ 9223372036854775807) (_b0_l : -9223372036854775808 ≤ b0) (_b0_h : b0 ≤ 9223372036854775807) :
    Calls Try.prog 5 #[.int .i64 a0, .int .i64 b0] w fun e w' => e = .returned (.bool true) ∧ Below w.heap.size w w' := by
  obtain ⟨a, ha, ha0, ha1⟩ := norm_mod a0 1000 (by omega) (by omega)
  obtain ⟨b, hb, hb0, hb1⟩ := norm_mod b0 1200 (by omega) (by omega)
  have q_0 := Below.refl w.heap.size w
  go_enter Try.func5, Try.ntmps5
  go_wp2_with fail
  refine (alive_any _).mono ?_
  rintro e V1 ⟨rfl, b⟩
  have q_1 := q_0.trans (b.mono q_0.size)
  clear q_0
  clear b
  rcases (show a / 8 < 4 ∨ (4 ≤ a / 8 ∧ a / 8 ≤ 16) ∨ 16 < a / 8 by omega) with k | k | k
  ·
    have hp := rs_two (a := a) (b := b) ⟨by omega, by omega⟩ ⟨by omega, by omega⟩
    rw [show bound a = 4 by unfold bound; omega] at hp
    obtain ⟨t, ht⟩ : ∃ t, rs [a, b] = t := ⟨_, rfl⟩
    rw [ht] at hp
    have HT := Lib.hid ht
    clear ht
    by_cases hq : a + 4 ≤ b
    case pos =>
      rw [if_pos hq] at hp
      have F := fld t
      simp only [hp] at F
      go_wp2_with fail
      refine (rounds_two a b t HT.out ⟨by omega, by omega⟩ ⟨by omega, by omega⟩ V1).mono ?_
      rintro e V2 ⟨rfl, b⟩
      have q_2 := q_1.trans (b.mono q_1.size)
      clear q_1
      clear b
      go_wp2
      go_ret
      refine ⟨by first | rfl | (simp [hq]; done), ?_⟩
      have Q1 := Lib.hid q_2
      have qs := q_2.size
      (repeat' (first | (with_reducible exact Q1.out) | (with_reducible exact Below.refl _ _) | (with_reducible refine Below.alloc ?_ ?_ _) | (with_reducible refine Below.setCell ?_ ?_ _) | (with_reducible refine Below.drew ?_) | (with_reducible refine below_drewN ?_ _) | omega | (dsimp only; omega) | (simp; done) | (simp; omega)))
    case neg =>
      rw [if_neg hq] at hp
      have F := fld t
      simp only [hp] at F
      go_wp2_with fail
      refine (rounds_two a b t HT.out ⟨by omega, by omega⟩ ⟨by omega, by omega⟩ V1).mono ?_
      rintro e V2 ⟨rfl, b⟩
      have q_2 := q_1.trans (b.mono q_1.size)
      clear q_1
      clear b
      go_wp2
      go_ret
      refine ⟨by first | rfl | (simp [hq]; done), ?_⟩
      have Q1 := Lib.hid q_2
      have qs := q_2.size
      (repeat' (first | (with_reducible exact Q1.out) | (with_reducible exact Below.refl _ _) | (with_reducible refine Below.alloc ?_ ?_ _) | (with_reducible refine Below.setCell ?_ ?_ _) | (with_reducible refine Below.drew ?_) | (with_reducible refine below_drewN ?_ _) | omega | (dsimp only; omega) | (simp; done) | (simp; omega)))
  ·
    have hp := rs_two (a := a) (b := b) ⟨by omega, by omega⟩ ⟨by omega, by omega⟩
    rw [show bound a = a / 8 by unfold bound; omega] at hp
    obtain ⟨t, ht⟩ : ∃ t, rs [a, b] = t := ⟨_, rfl⟩
    rw [ht] at hp
    have HT := Lib.hid ht
    clear ht
    by_cases hq : a + a / 8 ≤ b
    case pos =>
      rw [if_pos hq] at hp
      obtain ⟨k1, k2⟩ := k
      have F := fld t
      simp only [hp] at F
      go_wp2_with fail
      refine (rounds_two a b t HT.out ⟨by omega, by omega⟩ ⟨by omega, by omega⟩ V1).mono ?_
      rintro e V2 ⟨rfl, b⟩
      have q_2 := q_1.trans (b.mono q_1.size)
      clear q_1
      clear b
      go_wp2
      go_ret
      refine ⟨by first | rfl | (simp [hq]; done), ?_⟩
      have Q1 := Lib.hid q_2
      have qs := q_2.size
      (repeat' (first | (with_reducible exact Q1.out) | (with_reducible exact Below.refl _ _) | (with_reducible refine Below.alloc ?_ ?_ _) | (with_reducible refine Below.setCell ?_ ?_ _) | (with_reducible refine Below.drew ?_) | (with_reducible refine below_drewN ?_ _) | omega | (dsimp only; omega) | (simp; done) | (simp; omega)))
    case neg =>
      rw [if_neg hq] at hp
      obtain ⟨k1, k2⟩ := k
      have F := fld t
      simp only [hp] at F
      go_wp2_with fail
      refine (rounds_two a b t HT.out ⟨by omega, by omega⟩ ⟨by omega, by omega⟩ V1).mono ?_
      rintro e V2 ⟨rfl, b⟩
      have q_2 := q_1.trans (b.mono q_1.size)
      clear q_1
      clear b
      go_wp2
      go_ret
      refine ⟨by first | rfl | (simp [hq]; done), ?_⟩
      have Q1 := Lib.hid q_2
      have qs := q_2.size
      (repeat' (first | (with_reducible exact Q1.out) | (with_reducible exact Below.refl _ _) | (with_reducible refine Below.alloc ?_ ?_ _) | (with_reducible refine Below.setCell ?_ ?_ _) | (with_reducible refine Below.drew ?_) | (with_reducible refine below_drewN ?_ _) | omega | (dsimp only; omega) | (simp; done) | (simp; omega)))
  ·
    have hp := rs_two (a := a) (b := b) ⟨by omega, by omega⟩ ⟨by omega, by omega⟩
    rw [show bound a = 16 by unfold bound; omega] at hp
    obtain ⟨t, ht⟩ : ∃ t, rs [a, b] = t := ⟨_, rfl⟩
    rw [ht] at hp
    have HT := Lib.hid ht
    clear ht
    by_cases hq : a + 16 ≤ b
    case pos =>
      rw [if_pos hq] at hp
      have F := fld t
      simp only [hp] at F
      go_wp2_with fail
      refine (rounds_two a b t HT.out ⟨by omega, by omega⟩ ⟨by omega, by omega⟩ V1).mono ?_
      rintro e V2 ⟨rfl, b⟩
      have q_2 := q_1.trans (b.mono q_1.size)
      clear q_1
      clear b
      go_wp2
      go_ret
      refine ⟨by first | rfl | (simp [hq]; done), ?_⟩
      have Q1 := Lib.hid q_2
      have qs := q_2.size
      (repeat' (first | (with_reducible exact Q1.out) | (with_reducible exact Below.refl _ _) | (with_reducible refine Below.alloc ?_ ?_ _) | (with_reducible refine Below.setCell ?_ ?_ _) | (with_reducible refine Below.drew ?_) | (with_reducible refine below_drewN ?_ _) | omega | (dsimp only; omega) | (simp; done) | (simp; omega)))
    case neg =>
      rw [if_neg hq] at hp
      have F := fld t
      simp only [hp] at F
      go_wp2_with fail
      refine (rounds_two a b t HT.out ⟨by omega, by omega⟩ ⟨by omega, by omega⟩ V1).mono ?_
      rintro e V2 ⟨rfl, b⟩
      have q_2 := q_1.trans (b.mono q_1.size)
      clear q_1
      clear b
      go_wp2
      go_ret
      refine ⟨by first | rfl | (simp [hq]; done), ?_⟩
      have Q1 := Lib.hid q_2
      have qs := q_2.size
      (repeat' (first | (with_reducible exact Q1.out) | (with_reducible exact Below.refl _ _) | (with_reducible refine Below.alloc ?_ ?_ _) | (with_reducible refine Below.setCell ?_ ?_ _) | (with_reducible refine Below.drew ?_) | (with_reducible refine below_drewN ?_ _) | omega | (dsimp only; omega) | (simp; done) | (simp; omega)))

theorem own : ownKnob Try.prog.godebug = none := by kernel_rfl

set_option maxRecDepth 100000 in
set_option maxHeartbeats 2000000 in
theorem lifted (os : Os) (started : os.Started) (H : Type) (enc : TypeId × Value → H) :
    ReturnsInHanded {} Try.checked os 5 .any (Rows.hystartLeavesSpec.pre6 enc Try.prog Try.f5 Rows.hystartLeavesRow.domain false) (Rows.hystartLeavesSpec.post enc Try.prog Try.f5 false true false false) := by
  refine returnsInHanded_of_change_sized (C := Try.checked) own started (by kernel_rfl) Try.func5
    (ChangeSpec.witness6 (enc := enc) (C := Try.checked) false ⟨#[], #[.int .i64 0, .int .i64 0], []⟩ 8 (by kernel_rfl) (by kernel_rfl) (by kernel_rfl) (by kernel_rfl)) ?_
  intro W base args ds gs before hval0 hW hcnd hsz0 _
  have hval : ∀ (j : Nat) t v, Try.f5.params[j]? = some t → args[j]? = some v → Value.okWide Try.prog W .any base t v := hval0
  have hW' := hW
  obtain ⟨p, q, hA0, hV, rfl, hfz, hnd⟩ := hW
  have hA : DataW.TrodAll enc Try.prog W 0 (fun _ => true) true Try.f5.params.toList args.toList ds p := hA0
  rw [Try.params5] at hA hval
  obtain ⟨v0, vs0, d0, ds0, p0, q0, hargs, rfl, rfl, h0, r0⟩ := trodAll_cons hA
  obtain ⟨v1, vs1, d1, ds1, p1, q1, rfl, rfl, rfl, h1, r1⟩ := trodAll_cons r0
  obtain ⟨rfl, rfl, rfl⟩ := trodAll_nil r1
  obtain rfl : args = #[v0, v1] := by cases args; simp_all
  obtain ⟨rfl, rfl⟩ := trodVars_none hV
  obtain ⟨a0, rfl, rfl, rfl, w0⟩ := open_int Try.underlying3 (hval 0 3 v0 rfl rfl) h0
  obtain ⟨a1, rfl, rfl, rfl, w1⟩ := open_int Try.underlying3 (hval 1 3 v1 rfl rfl) h1
  clear hA0
  obtain ⟨lo0, hi0⟩ := bounds_i64 w0
  obtain ⟨lo1, hi1⟩ := bounds_i64 w1
  refine (walk a0 a1 W lo0 hi0 lo1 hi1).mono fun e W' ⟨he, bel⟩ => ?_
  subst he
  exact ⟨_, rfl, _, _, _, [], _, [], hW', trodAll_mk1 (shut_bool Try.underlying4 _), (trodAll_cons_mk (shut_int Try.underlying3 w0) (trodAll_cons_mk (shut_int Try.underlying3 w1) trodAll_mk0)), rfl, bel.frame _, fun h => by cases h⟩

theorem over : Rows.hystartLeavesRow.holds Try.pinned (OpenSpec.ofChange Rows.hystartLeavesSpec) :=
  OpenClaim.holds_of_wide 5 Try.f5 rfl rfl rfl rfl rfl rfl rfl ⟨rfl, rfl, rfl, rfl, rfl⟩ rfl rfl rfl rfl rfl (by kernel_rfl) Try.func5 (by kernel_rfl)
    (of_decide_eq_true (by kernel_rfl)) (by unfold Func.isWrapper; first | (rw [if_pos (by decide +kernel)]; kernel_rfl) | (rw [if_neg (by decide +kernel)]; exact ⟨rfl, rfl⟩))
    (fun os started H enc _ => lifted os started H enc)

end Go.Proofs.Ytfmjlcnpabpheaa.hystartLeaves
namespace Go.Proofs.Ytfmjlcnpabpheaa
/-- The statement. -/
theorem hystartLeaves_holds : Rows.HystartLeavesSaid := hystartLeaves.over
#print axioms hystartLeaves_holds
end Go.Proofs.Ytfmjlcnpabpheaa
