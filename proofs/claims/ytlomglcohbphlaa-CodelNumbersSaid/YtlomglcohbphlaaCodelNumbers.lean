/- For every numbers: roots and the times of drops are as the page says; a root's square is at most the number, the next one's above it. No condition. -/
import Derived.Test.YtlomglcohbphlaaRows
import Derived.Test.YtlomglcohbphlaaCdC
import Derived.Test.YtlomglcohbphlaaGAgg
import Derived.Deep.DeepCutAuto
import Derived.RegionTactic
import Derived.Deep.RegionHeld3
import Derived.ProofKit
import Derived.OpenShut
import Derived.ChangeOld
import Derived.SizedLaws
namespace Go.Proofs.Ytlomglcohbphlaa.codelNumbers
open Go.ChangeShapes Go.WideShapes Go.ChangeAt Go.RowKit Go.Deep Go.Proofs.Ytlomglcohbphlaa.Cd

theorem nat_of_u64 {a : Int} (h : (Lit.int .u64 a).wf = true) : ∃ n : Nat, a = n ∧ n < 18446744073709551616 := by
  have hb := bounds_u64 h
  exact ⟨a.toNat, by omega, by omega⟩
set_option maxRecDepth 100000 in
set_option maxHeartbeats 4000000 in
theorem walk (t i m : Int) (n : Nat) (at' iv ct : Int) (w : World) (_t_l : -9223372036854775808 ≤ t) (_t_h : t ≤ 9223372036854775807) (_i_l : -9223372036854775808 ≤ i) (_i_h : i ≤ 9223372036854775807) (_m_l : -9223372036854775808 ≤ m) (_m_h : m ≤ 9223372036854775807) (hn : n < 18446744073709551616) (_at_l : -9223372036854775808 ≤ at') (_at_h : at' ≤ 9223372036854775807) (_iv_l : -9223372036854775808 ≤ iv) (_iv_h : iv ≤ 9223372036854775807) (_ct_l : -9223372036854775808 ≤ ct) (_ct_h : ct ≤ 9223372036854775807) :
    Calls Try.prog 3 #[.agg #[.int .i64 t, .int .i64 i, .int .i64 m], .int .u64 n, .int .i64 at', .int .i64 iv, .int .i64 ct] w fun e w' => e = .returned (.bool true) ∧ Below w.heap.size w w' := by
  obtain ⟨h1, h2, h3⟩ := sqrt2_ok hn
  obtain ⟨R, hR⟩ : ∃ R, sqrt2 n = R := ⟨_, rfl⟩
  rw [hR] at h1 h2 h3
  have c1 := sq_bd h1
  obtain ⟨ri, hri⟩ : ∃ z : Int, (R : Int) = z := ⟨_, rfl⟩
  obtain ⟨ni, hni⟩ : ∃ z : Int, (n : Int) = z := ⟨_, rfl⟩
  obtain ⟨q, hq⟩ : ∃ z : Int, ri * ri = z := ⟨_, rfl⟩
  have eq : ((R * R : Nat) : Int) = q := by rw [← hq, ← hri, Int.natCast_mul]
  have w1 : IntKind.u64.wrap (ri * ri) = q := by rw [hq]; exact IntWalk.u64_in _ (by omega)
  have i2 : ¬ (ni < q) := by omega
  have HRT : Hid (∀ w, Calls Try.prog 7 #[.int .u64 ni] w fun e w' => e = .returned (.int .u64 ri) ∧ w = w') := Lib.hid (by rw [← hni, ← hri]; exact fun w => root_l n R ⟨hR⟩ w)
  rw [hni]
  by_cases hlt : R < 4294967295
  case pos =>
    have i3 : ri < 4294967295 := by omega
    obtain ⟨s, hs⟩ : ∃ z : Int, ri + 1 = z := ⟨_, rfl⟩
    have c3 := sq_bd (show R + 1 ≤ 4294967295 by omega)
    obtain ⟨q2, hq2⟩ : ∃ z : Int, s * s = z := ⟨_, rfl⟩
    have es : ((R + 1 : Nat) : Int) = s := by omega
    have eq2 : (((R + 1) * (R + 1) : Nat) : Int) = q2 := by rw [← hq2, ← es, Int.natCast_mul]
    have w0 : IntKind.u64.wrap (ri + 1) = s := by rw [hs]; exact IntWalk.u64_in _ (by omega)
    have w3 : IntKind.u64.wrap (s * s) = q2 := by rw [hq2]; exact IntWalk.u64_in _ (by omega)
    have i4 : ¬ (q2 ≤ ni) := by omega
    clear h1 h2 h3 hlt c1 c3 hq hq2 hs es eq2 eq hri hni hR hn
    have q_0 := Below.refl w.heap.size w
    obtain ⟨E, hE⟩ : ∃ z, lE at' iv ct = z := ⟨_, rfl⟩
    have HE : Hid (Sm (lE at' iv ct) E) := Lib.hid ⟨hE⟩
    clear hE
    obtain ⟨A, hA⟩ : ∃ z, lO at' iv ct = z := ⟨_, rfl⟩
    have HA : Hid (Sm (lO at' iv ct) A) := Lib.hid ⟨hA⟩
    clear hA
    obtain ⟨G, hG⟩ : ∃ z, pE t i m = z := ⟨_, rfl⟩
    have HG : Hid (Sm (pE t i m) G) := Lib.hid ⟨hG⟩
    clear hG
    go_enter Try.func3, Try.ntmps3
    go_wp2_with fail
    have b : Below w.heap.size w (w.alloc (.cells #[.int .i64 t, .int .i64 i, .int .i64 m] 23)) := ((Below.refl _ w).alloc (Nat.le_refl _) (.cells #[.int .i64 t, .int .i64 i, .int .i64 m] 23))
    have nb0 := blk_new w (.cells #[.int .i64 t, .int .i64 i, .int .i64 m] 23)
    have nz0 : w.heap.size < (w.alloc (.cells #[.int .i64 t, .int .i64 i, .int .i64 m] 23)).heap.size := by simp only [World.size_alloc]; omega
    have q_1 := q_0.trans (b.mono q_0.size)
    clear q_0
    clear b
    have P_1 := Lib.hid nb0
    have Pz_1 := nz0
    clear nb0 nz0
    have Pc0_1 := blk_cell P_1.out 0
    have Pc1_1 := blk_cell P_1.out 1
    have Pc2_1 := blk_cell P_1.out 2
    generalize (w.alloc (.cells #[.int .i64 t, .int .i64 i, .int .i64 m] 23)) = V1 at q_1 P_1 Pz_1 Pc0_1 Pc1_1 Pc2_1 ⊢
    refine (plaw at' iv ct A E HE.out.eq HA.out.eq _).mono ?_
    rintro e V2 ⟨rfl, b⟩
    have P_2 := Lib.hid ((b.block _ Pz_1).trans P_1.out)
    have Pz_2 := Nat.lt_of_lt_of_le Pz_1 b.size
    have Pc0_2 := blk_cell P_2.out 0
    have Pc1_2 := blk_cell P_2.out 1
    have Pc2_2 := blk_cell P_2.out 2
    have q_2 := q_1.trans (b.mono q_1.size)
    clear P_1 Pz_1 Pc0_1 Pc1_1 Pc2_1 q_1
    clear b
    go_wp2_with fail
    refine (dlaw at' iv ct A E HE.out.eq HA.out.eq _).mono ?_
    rintro e V3 ⟨rfl, b⟩
    have P_3 := Lib.hid ((b.block _ Pz_2).trans P_2.out)
    have Pz_3 := Nat.lt_of_lt_of_le Pz_2 b.size
    have Pc0_3 := blk_cell P_3.out 0
    have Pc1_3 := blk_cell P_3.out 1
    have Pc2_3 := blk_cell P_3.out 2
    have q_3 := q_2.trans (b.mono q_2.size)
    clear P_2 Pz_2 Pc0_2 Pc1_2 Pc2_2 q_2
    clear b
    go_wp2_with fail
    refine (HRT.out _).mono ?_
    rintro e w' ⟨rfl, rfl⟩
    go_wp2_with fail
    clear Pc0_3 Pc1_3 Pc2_3
    have P_4 := Lib.hid ((((Below.refl V3.heap.size V3).drew).block _ Pz_3).trans P_3.out)
    have Pz_4 := Nat.lt_of_lt_of_le Pz_3 ((Below.refl V3.heap.size V3).drew).size
    have q_4 := q_3.trans (((Below.refl V3.heap.size V3).drew).mono q_3.size)
    clear P_3 Pz_3 q_3
    have SS_4 : Hid (V3.drew.cell? ⟨w.heap.size, 0, none⟩ = some (.int .i64 t) ∧ V3.drew.cell? ⟨w.heap.size, 1, none⟩ = some (.int .i64 i) ∧ V3.drew.cell? ⟨w.heap.size, 2, none⟩ = some (.int .i64 m)) := Lib.hid ⟨blk_cell P_4.out 0, blk_cell P_4.out 1, blk_cell P_4.out 2⟩
    go_region_held3 (fun W' => W'.cell? ⟨w.heap.size, 0, none⟩ = some (.int .i64 t) ∧ W'.cell? ⟨w.heap.size, 1, none⟩ = some (.int .i64 i) ∧ W'.cell? ⟨w.heap.size, 2, none⟩ = some (.int .i64 m)) (first | (with_reducible exact SS_7.out) | (with_reducible exact SS_6.out) | (with_reducible exact SS_5.out) | (with_reducible exact SS_4.out) | go_keep) (first
      | (go_at_call 8; refine (num_any _ _).mono ?_; rintro e w' ⟨rfl, rfl⟩)
      | (go_at_call 9; (with_reducible refine (pcheck t i m G HG.out.eq _).mono ?_); rintro e V4 ⟨rfl, b⟩; have P_5 := Lib.hid ((b.block _ Pz_4).trans P_4.out); have Pz_5 := Nat.lt_of_lt_of_le Pz_4 b.size; have q_5 := q_4.trans (b.mono q_4.size); clear P_4 Pz_4 q_4; clear b; have SS_5 : Hid (V4.cell? ⟨w.heap.size, 0, none⟩ = some (.int .i64 t) ∧ V4.cell? ⟨w.heap.size, 1, none⟩ = some (.int .i64 i) ∧ V4.cell? ⟨w.heap.size, 2, none⟩ = some (.int .i64 m)) := Lib.hid ⟨blk_cell P_5.out 0, blk_cell P_5.out 1, blk_cell P_5.out 2⟩)
      | (go_at_call 10; (with_reducible refine (dcheck t i m G HG.out.eq _).mono ?_); rintro e V5 ⟨rfl, b⟩; have P_6 := Lib.hid ((b.block _ Pz_5).trans P_5.out); have Pz_6 := Nat.lt_of_lt_of_le Pz_5 b.size; have q_6 := q_5.trans (b.mono q_5.size); clear P_5 Pz_5 q_5; clear b; have SS_6 : Hid (V5.cell? ⟨w.heap.size, 0, none⟩ = some (.int .i64 t) ∧ V5.cell? ⟨w.heap.size, 1, none⟩ = some (.int .i64 i) ∧ V5.cell? ⟨w.heap.size, 2, none⟩ = some (.int .i64 m)) := Lib.hid ⟨blk_cell P_6.out 0, blk_cell P_6.out 1, blk_cell P_6.out 2⟩)
      | (go_at_call 11; (with_reducible refine (alive_any _).mono ?_); rintro e V6 ⟨rfl, b⟩; have P_7 := Lib.hid ((b.block _ Pz_6).trans P_6.out); have Pz_7 := Nat.lt_of_lt_of_le Pz_6 b.size; have q_7 := q_6.trans (b.mono q_6.size); clear P_6 Pz_6 q_6; clear b; have SS_7 : Hid (V6.cell? ⟨w.heap.size, 0, none⟩ = some (.int .i64 t) ∧ V6.cell? ⟨w.heap.size, 1, none⟩ = some (.int .i64 i) ∧ V6.cell? ⟨w.heap.size, 2, none⟩ = some (.int .i64 m)) := Lib.hid ⟨blk_cell P_7.out 0, blk_cell P_7.out 1, blk_cell P_7.out 2⟩))
    all_goals
      clear SS_4 SS_5 SS_6 SS_7
      go_wp2
      go_ret
      exact ⟨rfl, q_7⟩
  case neg =>
    have i3 : ¬ ri < 4294967295 := by omega
    clear h1 h2 h3 hlt c1 hq eq hri hni hR hn
    have q_0 := Below.refl w.heap.size w
    obtain ⟨E, hE⟩ : ∃ z, lE at' iv ct = z := ⟨_, rfl⟩
    have HE : Hid (Sm (lE at' iv ct) E) := Lib.hid ⟨hE⟩
    clear hE
    obtain ⟨A, hA⟩ : ∃ z, lO at' iv ct = z := ⟨_, rfl⟩
    have HA : Hid (Sm (lO at' iv ct) A) := Lib.hid ⟨hA⟩
    clear hA
    obtain ⟨G, hG⟩ : ∃ z, pE t i m = z := ⟨_, rfl⟩
    have HG : Hid (Sm (pE t i m) G) := Lib.hid ⟨hG⟩
    clear hG
    go_enter Try.func3, Try.ntmps3
    go_wp2_with fail
    have b : Below w.heap.size w (w.alloc (.cells #[.int .i64 t, .int .i64 i, .int .i64 m] 23)) := ((Below.refl _ w).alloc (Nat.le_refl _) (.cells #[.int .i64 t, .int .i64 i, .int .i64 m] 23))
    have nb0 := blk_new w (.cells #[.int .i64 t, .int .i64 i, .int .i64 m] 23)
    have nz0 : w.heap.size < (w.alloc (.cells #[.int .i64 t, .int .i64 i, .int .i64 m] 23)).heap.size := by simp only [World.size_alloc]; omega
    have q_1 := q_0.trans (b.mono q_0.size)
    clear q_0
    clear b
    have P_1 := Lib.hid nb0
    have Pz_1 := nz0
    clear nb0 nz0
    have Pc0_1 := blk_cell P_1.out 0
    have Pc1_1 := blk_cell P_1.out 1
    have Pc2_1 := blk_cell P_1.out 2
    generalize (w.alloc (.cells #[.int .i64 t, .int .i64 i, .int .i64 m] 23)) = V1 at q_1 P_1 Pz_1 Pc0_1 Pc1_1 Pc2_1 ⊢
    refine (plaw at' iv ct A E HE.out.eq HA.out.eq _).mono ?_
    rintro e V2 ⟨rfl, b⟩
    have P_2 := Lib.hid ((b.block _ Pz_1).trans P_1.out)
    have Pz_2 := Nat.lt_of_lt_of_le Pz_1 b.size
    have Pc0_2 := blk_cell P_2.out 0
    have Pc1_2 := blk_cell P_2.out 1
    have Pc2_2 := blk_cell P_2.out 2
    have q_2 := q_1.trans (b.mono q_1.size)
    clear P_1 Pz_1 Pc0_1 Pc1_1 Pc2_1 q_1
    clear b
    go_wp2_with fail
    refine (dlaw at' iv ct A E HE.out.eq HA.out.eq _).mono ?_
    rintro e V3 ⟨rfl, b⟩
    have P_3 := Lib.hid ((b.block _ Pz_2).trans P_2.out)
    have Pz_3 := Nat.lt_of_lt_of_le Pz_2 b.size
    have Pc0_3 := blk_cell P_3.out 0
    have Pc1_3 := blk_cell P_3.out 1
    have Pc2_3 := blk_cell P_3.out 2
    have q_3 := q_2.trans (b.mono q_2.size)
    clear P_2 Pz_2 Pc0_2 Pc1_2 Pc2_2 q_2
    clear b
    go_wp2_with fail
    refine (HRT.out _).mono ?_
    rintro e w' ⟨rfl, rfl⟩
    go_wp2_with fail
    clear Pc0_3 Pc1_3 Pc2_3
    have P_4 := Lib.hid ((((Below.refl V3.heap.size V3).drew).block _ Pz_3).trans P_3.out)
    have Pz_4 := Nat.lt_of_lt_of_le Pz_3 ((Below.refl V3.heap.size V3).drew).size
    have q_4 := q_3.trans (((Below.refl V3.heap.size V3).drew).mono q_3.size)
    clear P_3 Pz_3 q_3
    have SS_4 : Hid (V3.drew.cell? ⟨w.heap.size, 0, none⟩ = some (.int .i64 t) ∧ V3.drew.cell? ⟨w.heap.size, 1, none⟩ = some (.int .i64 i) ∧ V3.drew.cell? ⟨w.heap.size, 2, none⟩ = some (.int .i64 m)) := Lib.hid ⟨blk_cell P_4.out 0, blk_cell P_4.out 1, blk_cell P_4.out 2⟩
    go_region_held3 (fun W' => W'.cell? ⟨w.heap.size, 0, none⟩ = some (.int .i64 t) ∧ W'.cell? ⟨w.heap.size, 1, none⟩ = some (.int .i64 i) ∧ W'.cell? ⟨w.heap.size, 2, none⟩ = some (.int .i64 m)) (first | (with_reducible exact SS_7.out) | (with_reducible exact SS_6.out) | (with_reducible exact SS_5.out) | (with_reducible exact SS_4.out) | go_keep) (first
      | (go_at_call 8; refine (num_any _ _).mono ?_; rintro e w' ⟨rfl, rfl⟩)
      | (go_at_call 9; (with_reducible refine (pcheck t i m G HG.out.eq _).mono ?_); rintro e V4 ⟨rfl, b⟩; have P_5 := Lib.hid ((b.block _ Pz_4).trans P_4.out); have Pz_5 := Nat.lt_of_lt_of_le Pz_4 b.size; have q_5 := q_4.trans (b.mono q_4.size); clear P_4 Pz_4 q_4; clear b; have SS_5 : Hid (V4.cell? ⟨w.heap.size, 0, none⟩ = some (.int .i64 t) ∧ V4.cell? ⟨w.heap.size, 1, none⟩ = some (.int .i64 i) ∧ V4.cell? ⟨w.heap.size, 2, none⟩ = some (.int .i64 m)) := Lib.hid ⟨blk_cell P_5.out 0, blk_cell P_5.out 1, blk_cell P_5.out 2⟩)
      | (go_at_call 10; (with_reducible refine (dcheck t i m G HG.out.eq _).mono ?_); rintro e V5 ⟨rfl, b⟩; have P_6 := Lib.hid ((b.block _ Pz_5).trans P_5.out); have Pz_6 := Nat.lt_of_lt_of_le Pz_5 b.size; have q_6 := q_5.trans (b.mono q_5.size); clear P_5 Pz_5 q_5; clear b; have SS_6 : Hid (V5.cell? ⟨w.heap.size, 0, none⟩ = some (.int .i64 t) ∧ V5.cell? ⟨w.heap.size, 1, none⟩ = some (.int .i64 i) ∧ V5.cell? ⟨w.heap.size, 2, none⟩ = some (.int .i64 m)) := Lib.hid ⟨blk_cell P_6.out 0, blk_cell P_6.out 1, blk_cell P_6.out 2⟩)
      | (go_at_call 11; (with_reducible refine (alive_any _).mono ?_); rintro e V6 ⟨rfl, b⟩; have P_7 := Lib.hid ((b.block _ Pz_6).trans P_6.out); have Pz_7 := Nat.lt_of_lt_of_le Pz_6 b.size; have q_7 := q_6.trans (b.mono q_6.size); clear P_6 Pz_6 q_6; clear b; have SS_7 : Hid (V6.cell? ⟨w.heap.size, 0, none⟩ = some (.int .i64 t) ∧ V6.cell? ⟨w.heap.size, 1, none⟩ = some (.int .i64 i) ∧ V6.cell? ⟨w.heap.size, 2, none⟩ = some (.int .i64 m)) := Lib.hid ⟨blk_cell P_7.out 0, blk_cell P_7.out 1, blk_cell P_7.out 2⟩))
    all_goals
      clear SS_4 SS_5 SS_6 SS_7
      go_wp2
      go_ret
      exact ⟨rfl, q_7⟩

theorem of_len3 {α : Type} (l : List α) (h : l.length = 3) : ∃ x0 x1 x2, l = [x0, x1, x2] := by
  match l, h with
  | [x0, x1, x2], _ => exact ⟨x0, x1, x2, rfl⟩
theorem own : ownKnob Try.prog.godebug = none := by kernel_rfl
theorem laidOut : laidOutB Try.prog = true := by kernel_rfl

set_option maxRecDepth 100000 in
set_option maxHeartbeats 2000000 in
theorem lifted (os : Os) (started : os.Started) (H : Type) (enc : TypeId × Value → H) :
    ReturnsInHanded {} Try.checked os 3 .any (Rows.codelNumbersSpec.pre6 enc Try.prog Try.f3 Rows.codelNumbersRow.domain false) (Rows.codelNumbersSpec.post enc Try.prog Try.f3 false true false false) := by
  refine returnsInHanded_of_change_sized (C := Try.checked) own started (by kernel_rfl) Try.func3
    (ChangeSpec.witness6 (enc := enc) (C := Try.checked) false ⟨#[], #[.agg #[.int .i64 0, .int .i64 0, .int .i64 0], .int .u64 0, .int .i64 0, .int .i64 0, .int .i64 0], []⟩ 8 (by kernel_rfl) (by kernel_rfl) (by kernel_rfl) (by kernel_rfl)) ?_
  intro W base args ds gs before hval0 hW hcnd hsz0 _
  have hval : ∀ (j : Nat) t v, Try.f3.params[j]? = some t → args[j]? = some v → Value.okWide Try.prog W .any base t v := hval0
  have hW' := hW
  obtain ⟨p, q, hA0, hV, rfl, hfz, hnd⟩ := hW
  have hA : DataW.TrodAll enc Try.prog W 0 (fun _ => true) true Try.f3.params.toList args.toList ds p := hA0
  rw [Try.params3] at hA hval
  obtain ⟨v0, vs0, d0, ds0, p0, q0, hargs, rfl, rfl, h0, r0⟩ := trodAll_cons hA
  obtain ⟨v1, vs1, d1, ds1, p1, q1, rfl, rfl, rfl, h1, r1⟩ := trodAll_cons r0
  obtain ⟨v2, vs2, d2, ds2, p2, q2, rfl, rfl, rfl, h2, r2⟩ := trodAll_cons r1
  obtain ⟨v3, vs3, d3, ds3, p3, q3, rfl, rfl, rfl, h3, r3⟩ := trodAll_cons r2
  obtain ⟨v4, vs4, d4, ds4, p4, q4, rfl, rfl, rfl, h4, r4⟩ := trodAll_cons r3
  obtain ⟨rfl, rfl, rfl⟩ := trodAll_nil r4
  obtain rfl : args = #[v0, v1, v2, v3, v4] := by cases args; simp_all
  obtain ⟨rfl, rfl⟩ := trodVars_none hV
  have k0 := h0
  have lt0 : ∀ x ∈ p0, x.block < W.heap.size := by obtain ⟨m, hm⟩ := k0; exact DataW.trod_lt m _ _ _ hm
  obtain ⟨vs0', ys0', m0, rfl, lv0, ly0, hd0, F0⟩ := open_agg Try.underlying23 (by kernel_rfl) (by kernel_rfl) (hval 0 23 v0 rfl rfl) h0
  obtain ⟨c0_0, c0_1, c0_2, rfl⟩ := of_len3 _ lv0
  obtain ⟨y0_0, y0_1, y0_2, rfl⟩ := of_len3 _ ly0
  simp only [List.map_cons, List.map_nil] at hd0
  obtain ⟨_, _, e, g, t0_0⟩ := F0 0 _ rfl
  obtain rfl := Option.some.inj e; obtain rfl := Option.some.inj g; clear e g
  obtain ⟨z0_0, e, _, w0_0⟩ := DataW.trod_int Try.underlying3 t0_0
  obtain rfl := (List.cons.inj e).1; clear e
  obtain ⟨lo0_0, hi0_0⟩ := bounds_i64 w0_0
  obtain ⟨_, _, e, g, t0_1⟩ := F0 1 _ rfl
  obtain rfl := Option.some.inj e; obtain rfl := Option.some.inj g; clear e g
  obtain ⟨z0_1, e, _, w0_1⟩ := DataW.trod_int Try.underlying3 t0_1
  obtain rfl := (List.cons.inj e).1; clear e
  obtain ⟨lo0_1, hi0_1⟩ := bounds_i64 w0_1
  obtain ⟨_, _, e, g, t0_2⟩ := F0 2 _ rfl
  obtain rfl := Option.some.inj e; obtain rfl := Option.some.inj g; clear e g
  obtain ⟨z0_2, e, _, w0_2⟩ := DataW.trod_int Try.underlying3 t0_2
  obtain rfl := (List.cons.inj e).1; clear e
  obtain ⟨lo0_2, hi0_2⟩ := bounds_i64 w0_2
  obtain ⟨a1, rfl, rfl, rfl, w1⟩ := open_int Try.underlying24 (hval 1 24 v1 rfl rfl) h1
  obtain ⟨a2, rfl, rfl, rfl, w2⟩ := open_int Try.underlying3 (hval 2 3 v2 rfl rfl) h2
  obtain ⟨a3, rfl, rfl, rfl, w3⟩ := open_int Try.underlying3 (hval 3 3 v3 rfl rfl) h3
  obtain ⟨a4, rfl, rfl, rfl, w4⟩ := open_int Try.underlying3 (hval 4 3 v4 rfl rfl) h4
  clear hA0
  obtain ⟨n1, rfl, hn1⟩ := nat_of_u64 w1
  obtain ⟨lo2, hi2⟩ := bounds_i64 w2
  obtain ⟨lo3, hi3⟩ := bounds_i64 w3
  obtain ⟨lo4, hi4⟩ := bounds_i64 w4
  refine (walk z0_0 z0_1 z0_2 n1 a2 a3 a4 W lo0_0 hi0_0 lo0_1 hi0_1 lo0_2 hi0_2 hn1 lo2 hi2 lo3 hi3 lo4 hi4).mono fun e W' ⟨he, bel⟩ => ?_
  subst he
  exact ⟨_, rfl, _, _, _, [], _, [], hW', trodAll_mk1 (shut_bool Try.underlying4 _), (trodAll_cons_mk (Below.trod laidOut (by kernel_rfl) (of_decide_eq_true (by kernel_rfl)) k0 bel lt0) (trodAll_cons_mk (shut_int Try.underlying24 w1) (trodAll_cons_mk (shut_int Try.underlying3 w2) (trodAll_cons_mk (shut_int Try.underlying3 w3) (trodAll_cons_mk (shut_int Try.underlying3 w4) trodAll_mk0))))), rfl, bel.frame _, fun h => by cases h⟩

theorem over : Rows.codelNumbersRow.holds Try.pinned (OpenSpec.ofChange Rows.codelNumbersSpec) :=
  OpenClaim.holds_of_wide 3 Try.f3 rfl rfl rfl rfl rfl rfl rfl ⟨rfl, rfl, rfl, rfl, rfl⟩ rfl rfl rfl rfl rfl (by kernel_rfl) Try.func3 (by kernel_rfl)
    (of_decide_eq_true (by kernel_rfl)) (by unfold Func.isWrapper; first | (rw [if_pos (by decide +kernel)]; kernel_rfl) | (rw [if_neg (by decide +kernel)]; exact ⟨rfl, rfl⟩))
    (fun os started H enc _ => lifted os started H enc)

end Go.Proofs.Ytlomglcohbphlaa.codelNumbers
namespace Go.Proofs.Ytlomglcohbphlaa
/-- The statement. -/
theorem codelNumbers_holds : Rows.CodelNumbersSaid := codelNumbers.over
#print axioms codelNumbers_holds
end Go.Proofs.Ytlomglcohbphlaa
