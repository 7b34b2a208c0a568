/- For every state, segment and number of octets on their way: a loss halves what is on its way, but not below two segments; a time that runs out leaves one segment, and the threshold. No condition. -/
import Derived.Test.YtmjcckpppflpjaaRows
import Derived.Test.YtmjcckpppflpjaaRnA
import Derived.Test.YtmjcckpppflpjaaGAgg
import Derived.Deep.DeepCutAuto
import Derived.RegionTactic
import Derived.Deep.RegionHeld3
import Derived.ProofKit
import Derived.OpenShut
import Derived.ChangeOld
import Derived.SizedLaws
namespace Go.Proofs.Ytmjcckpppflpjaa.renoHalves
open Go.ChangeShapes Go.WideShapes Go.ChangeAt Go.RowKit Go.Deep Go.Proofs.Ytmjcckpppflpjaa.Rn

theorem aE_zero {c t a m n : Int} (h : aE c t a m n = 0) : MV m ∧ SV c t a m ∧ NV n := by
  unfold aE at h
  split at h
  · split at h
    · split at h
      · exact ⟨by assumption, by assumption, by assumption⟩
      · omega
    · omega
  · omega

set_option maxRecDepth 100000 in
set_option maxHeartbeats 2000000 in
theorem walk (c t a m n : Int) (w : World) (_c_l : -9223372036854775808 ≤ c) (_c_h : c ≤ 9223372036854775807) (_t_l : -9223372036854775808 ≤ t) (_t_h : t ≤ 9223372036854775807) (_a_l : -9223372036854775808 ≤ a) (_a_h : a ≤ 9223372036854775807) (_m_l : -9223372036854775808 ≤ m) (_m_h : m ≤ 9223372036854775807) (_n_l : -9223372036854775808 ≤ n) (_n_h : n ≤ 9223372036854775807) :
    Calls Try.prog 6 #[.agg #[.int .i64 c, .int .i64 t, .int .i64 a], .int .i64 m, .int .i64 n] w fun e w' => e = .returned (.bool true) ∧ Below w.heap.size w w' := by
  have q_0 := Below.refl w.heap.size w
  go_enter Try.func6, Try.ntmps6
  go_wp2_with fail
  have b : Below w.heap.size w (w.alloc (.cells #[.int .i64 c, .int .i64 t, .int .i64 a] 23)) := ((Below.refl _ w).alloc (Nat.le_refl _) (.cells #[.int .i64 c, .int .i64 t, .int .i64 a] 23))
  have nb0 := blk_new w (.cells #[.int .i64 c, .int .i64 t, .int .i64 a] 23)
  have nz0 : w.heap.size < (w.alloc (.cells #[.int .i64 c, .int .i64 t, .int .i64 a] 23)).heap.size := by simp only [World.size_alloc]; omega
  have q_1 := q_0.trans (b.mono q_0.size)
  clear q_0
  clear b
  have P_1 := Lib.hid nb0
  have Pz_1 := nz0
  clear nb0 nz0
  have Pc0_1 := blk_cell P_1.out 0
  have Pc1_1 := blk_cell P_1.out 1
  have Pc2_1 := blk_cell P_1.out 2
  generalize (w.alloc (.cells #[.int .i64 c, .int .i64 t, .int .i64 a] 23)) = V1 at q_1 P_1 Pz_1 Pc0_1 Pc1_1 Pc2_1 ⊢
  refine (alive_any _).mono ?_
  rintro e V2 ⟨rfl, b⟩
  have P_2 := Lib.hid ((b.block _ Pz_1).trans P_1.out)
  have Pz_2 := Nat.lt_of_lt_of_le Pz_1 b.size
  have Pc0_2 := blk_cell P_2.out 0
  have Pc1_2 := blk_cell P_2.out 1
  have Pc2_2 := blk_cell P_2.out 2
  have q_2 := q_1.trans (b.mono q_1.size)
  clear P_1 Pz_1 Pc0_1 Pc1_1 Pc2_1 q_1
  clear b
  by_cases hE : aE c t a m n = 0
  case pos =>
    obtain ⟨hM, hS, hN⟩ := aE_zero hE
    have HM := Lib.hid hM
    have HS := Lib.hid hS
    have HN := Lib.hid hN
    obtain ⟨m0, m1⟩ := hM
    obtain ⟨n0, n1⟩ := hN
    clear hS hE
    obtain ⟨H, hH⟩ : ∃ H, max (n / 2) (2 * m) = H := ⟨_, rfl⟩
    have H0 : 0 ≤ H := by omega
    have H1 : H ≤ 1073741824 := by omega
    go_wp2_with fail
    refine (loss_ok c t a m n _ HM.out HS.out HN.out).mono ?_
    rintro e V3 ⟨rfl, b⟩
    have P_3 := Lib.hid ((b.block _ Pz_2).trans P_2.out)
    have Pz_3 := Nat.lt_of_lt_of_le Pz_2 b.size
    have Pc0_3 := blk_cell P_3.out 0
    have Pc1_3 := blk_cell P_3.out 1
    have Pc2_3 := blk_cell P_3.out 2
    have q_3 := q_2.trans (b.mono q_2.size)
    clear P_2 Pz_2 Pc0_2 Pc1_2 Pc2_2 q_2
    clear b
    rw [hH]
    go_wp2_with fail
    have b : Below V3.heap.size V3 (V3.alloc (.cells #[.int .i64 H, .int .i64 H, .int .i64 0] 24)) := ((Below.refl _ V3).alloc (Nat.le_refl _) (.cells #[.int .i64 H, .int .i64 H, .int .i64 0] 24))
    have nb0 := blk_new V3 (.cells #[.int .i64 H, .int .i64 H, .int .i64 0] 24)
    have nz0 : V3.heap.size < (V3.alloc (.cells #[.int .i64 H, .int .i64 H, .int .i64 0] 24)).heap.size := by simp only [World.size_alloc]; omega
    have P_4 := Lib.hid ((b.block _ Pz_3).trans P_3.out)
    have Pz_4 := Nat.lt_of_lt_of_le Pz_3 b.size
    have Pc0_4 := blk_cell P_4.out 0
    have Pc1_4 := blk_cell P_4.out 1
    have Pc2_4 := blk_cell P_4.out 2
    have q_4 := q_3.trans (b.mono q_3.size)
    clear P_3 Pz_3 Pc0_3 Pc1_3 Pc2_3 q_3
    clear b
    have L_4 := Lib.hid nb0
    have Lz_4 := nz0
    clear nb0 nz0
    have Lc0_4 := blk_cell L_4.out 0
    have Lc1_4 := blk_cell L_4.out 1
    have Lc2_4 := blk_cell L_4.out 2
    generalize (V3.alloc (.cells #[.int .i64 H, .int .i64 H, .int .i64 0] 24)) = V4 at q_4 P_4 Pz_4 Pc0_4 Pc1_4 Pc2_4 L_4 Lz_4 Lc0_4 Lc1_4 Lc2_4 ⊢
    refine (timeout_ok c t a m n _ HM.out HS.out HN.out).mono ?_
    rintro e V5 ⟨rfl, b⟩
    have P_5 := Lib.hid ((b.block _ Pz_4).trans P_4.out)
    have Pz_5 := Nat.lt_of_lt_of_le Pz_4 b.size
    have Pc0_5 := blk_cell P_5.out 0
    have Pc1_5 := blk_cell P_5.out 1
    have Pc2_5 := blk_cell P_5.out 2
    have L_5 := Lib.hid ((b.block _ Lz_4).trans L_4.out)
    have Lz_5 := Nat.lt_of_lt_of_le Lz_4 b.size
    have Lc0_5 := blk_cell L_5.out 0
    have Lc1_5 := blk_cell L_5.out 1
    have Lc2_5 := blk_cell L_5.out 2
    have q_5 := q_4.trans (b.mono q_4.size)
    clear P_4 Pz_4 Pc0_4 Pc1_4 Pc2_4 L_4 Lz_4 Lc0_4 Lc1_4 Lc2_4 q_4
    clear b
    rw [hH]
    go_wp2_with fail
    have b : Below V5.heap.size V5 (V5.alloc (.cells #[.int .i64 m, .int .i64 H, .int .i64 0] 24)) := ((Below.refl _ V5).alloc (Nat.le_refl _) (.cells #[.int .i64 m, .int .i64 H, .int .i64 0] 24))
    have nb0 := blk_new V5 (.cells #[.int .i64 m, .int .i64 H, .int .i64 0] 24)
    have nz0 : V5.heap.size < (V5.alloc (.cells #[.int .i64 m, .int .i64 H, .int .i64 0] 24)).heap.size := by simp only [World.size_alloc]; omega
    have P_6 := Lib.hid ((b.block _ Pz_5).trans P_5.out)
    have Pz_6 := Nat.lt_of_lt_of_le Pz_5 b.size
    have Pc0_6 := blk_cell P_6.out 0
    have Pc1_6 := blk_cell P_6.out 1
    have Pc2_6 := blk_cell P_6.out 2
    have L_6 := Lib.hid ((b.block _ Lz_5).trans L_5.out)
    have Lz_6 := Nat.lt_of_lt_of_le Lz_5 b.size
    have Lc0_6 := blk_cell L_6.out 0
    have Lc1_6 := blk_cell L_6.out 1
    have Lc2_6 := blk_cell L_6.out 2
    have q_6 := q_5.trans (b.mono q_5.size)
    clear P_5 Pz_5 Pc0_5 Pc1_5 Pc2_5 L_5 Lz_5 Lc0_5 Lc1_5 Lc2_5 q_5
    clear b
    have T_6 := Lib.hid nb0
    have Tz_6 := nz0
    clear nb0 nz0
    have Tc0_6 := blk_cell T_6.out 0
    have Tc1_6 := blk_cell T_6.out 1
    have Tc2_6 := blk_cell T_6.out 2
    generalize (V5.alloc (.cells #[.int .i64 m, .int .i64 H, .int .i64 0] 24)) = V6 at q_6 P_6 Pz_6 Pc0_6 Pc1_6 Pc2_6 L_6 Lz_6 Lc0_6 Lc1_6 Lc2_6 T_6 Tz_6 Tc0_6 Tc1_6 Tc2_6 ⊢
    refine (num_any _ _).mono ?_
    rintro e w' ⟨rfl, rfl⟩
    go_wp2
    go_ret
    exact ⟨rfl, q_6⟩
  case neg =>
    obtain ⟨E, hEE⟩ : ∃ E, aE c t a m n = E := ⟨_, rfl⟩
    rw [hEE] at hE
    have HE := Lib.hid hEE
    clear hEE
    have l0 : Hid (lH E m n = 0) := Lib.hid (by rw [lH, if_neg hE])
    have t0 : Hid (tC E m = 0) := Lib.hid (by rw [tC, if_neg hE])
    have e1 : (E != 0) = true := by rw [bne_iff_ne]; exact hE
    have e2 : (E == 0) = false := by rw [beq_eq_false_iff_ne]; exact hE
    clear hE
    go_wp2_with fail
    refine (loss_l c t a m n E 0 HE.out l0.out _).mono ?_
    rintro e V3 ⟨rfl, b⟩
    have P_3 := Lib.hid ((b.block _ Pz_2).trans P_2.out)
    have Pz_3 := Nat.lt_of_lt_of_le Pz_2 b.size
    have Pc0_3 := blk_cell P_3.out 0
    have Pc1_3 := blk_cell P_3.out 1
    have Pc2_3 := blk_cell P_3.out 2
    have q_3 := q_2.trans (b.mono q_2.size)
    clear P_2 Pz_2 Pc0_2 Pc1_2 Pc2_2 q_2
    clear b
    go_wp2_with fail
    have b : Below V3.heap.size V3 (V3.alloc (.cells #[.int .i64 0, .int .i64 0, .int .i64 0] 24)) := ((Below.refl _ V3).alloc (Nat.le_refl _) (.cells #[.int .i64 0, .int .i64 0, .int .i64 0] 24))
    have nb0 := blk_new V3 (.cells #[.int .i64 0, .int .i64 0, .int .i64 0] 24)
    have nz0 : V3.heap.size < (V3.alloc (.cells #[.int .i64 0, .int .i64 0, .int .i64 0] 24)).heap.size := by simp only [World.size_alloc]; omega
    have P_4 := Lib.hid ((b.block _ Pz_3).trans P_3.out)
    have Pz_4 := Nat.lt_of_lt_of_le Pz_3 b.size
    have Pc0_4 := blk_cell P_4.out 0
    have Pc1_4 := blk_cell P_4.out 1
    have Pc2_4 := blk_cell P_4.out 2
    have q_4 := q_3.trans (b.mono q_3.size)
    clear P_3 Pz_3 Pc0_3 Pc1_3 Pc2_3 q_3
    clear b
    have L_4 := Lib.hid nb0
    have Lz_4 := nz0
    clear nb0 nz0
    have Lc0_4 := blk_cell L_4.out 0
    have Lc1_4 := blk_cell L_4.out 1
    have Lc2_4 := blk_cell L_4.out 2
    generalize (V3.alloc (.cells #[.int .i64 0, .int .i64 0, .int .i64 0] 24)) = V4 at q_4 P_4 Pz_4 Pc0_4 Pc1_4 Pc2_4 L_4 Lz_4 Lc0_4 Lc1_4 Lc2_4 ⊢
    refine (timeout_l c t a m n E 0 0 HE.out t0.out l0.out _).mono ?_
    rintro e V5 ⟨rfl, b⟩
    have P_5 := Lib.hid ((b.block _ Pz_4).trans P_4.out)
    have Pz_5 := Nat.lt_of_lt_of_le Pz_4 b.size
    have Pc0_5 := blk_cell P_5.out 0
    have Pc1_5 := blk_cell P_5.out 1
    have Pc2_5 := blk_cell P_5.out 2
    have L_5 := Lib.hid ((b.block _ Lz_4).trans L_4.out)
    have Lz_5 := Nat.lt_of_lt_of_le Lz_4 b.size
    have Lc0_5 := blk_cell L_5.out 0
    have Lc1_5 := blk_cell L_5.out 1
    have Lc2_5 := blk_cell L_5.out 2
    have q_5 := q_4.trans (b.mono q_4.size)
    clear P_4 Pz_4 Pc0_4 Pc1_4 Pc2_4 L_4 Lz_4 Lc0_4 Lc1_4 Lc2_4 q_4
    clear b
    go_wp2_with fail
    have b : Below V5.heap.size V5 (V5.alloc (.cells #[.int .i64 0, .int .i64 0, .int .i64 0] 24)) := ((Below.refl _ V5).alloc (Nat.le_refl _) (.cells #[.int .i64 0, .int .i64 0, .int .i64 0] 24))
    have nb0 := blk_new V5 (.cells #[.int .i64 0, .int .i64 0, .int .i64 0] 24)
    have nz0 : V5.heap.size < (V5.alloc (.cells #[.int .i64 0, .int .i64 0, .int .i64 0] 24)).heap.size := by simp only [World.size_alloc]; omega
    have P_6 := Lib.hid ((b.block _ Pz_5).trans P_5.out)
    have Pz_6 := Nat.lt_of_lt_of_le Pz_5 b.size
    have Pc0_6 := blk_cell P_6.out 0
    have Pc1_6 := blk_cell P_6.out 1
    have Pc2_6 := blk_cell P_6.out 2
    have L_6 := Lib.hid ((b.block _ Lz_5).trans L_5.out)
    have Lz_6 := Nat.lt_of_lt_of_le Lz_5 b.size
    have Lc0_6 := blk_cell L_6.out 0
    have Lc1_6 := blk_cell L_6.out 1
    have Lc2_6 := blk_cell L_6.out 2
    have q_6 := q_5.trans (b.mono q_5.size)
    clear P_5 Pz_5 Pc0_5 Pc1_5 Pc2_5 L_5 Lz_5 Lc0_5 Lc1_5 Lc2_5 q_5
    clear b
    have T_6 := Lib.hid nb0
    have Tz_6 := nz0
    clear nb0 nz0
    have Tc0_6 := blk_cell T_6.out 0
    have Tc1_6 := blk_cell T_6.out 1
    have Tc2_6 := blk_cell T_6.out 2
    generalize (V5.alloc (.cells #[.int .i64 0, .int .i64 0, .int .i64 0] 24)) = V6 at q_6 P_6 Pz_6 Pc0_6 Pc1_6 Pc2_6 L_6 Lz_6 Lc0_6 Lc1_6 Lc2_6 T_6 Tz_6 Tc0_6 Tc1_6 Tc2_6 ⊢
    refine (num_any _ _).mono ?_
    rintro e w' ⟨rfl, rfl⟩
    go_wp2
    go_ret
    exact ⟨rfl, q_6⟩

theorem of_len3 {α : Type} (l : List α) (h : l.length = 3) : ∃ x0 x1 x2, l = [x0, x1, x2] := by
  match l, h with
  | [x0, x1, x2], _ => exact ⟨x0, x1, x2, rfl⟩
theorem own : ownKnob Try.prog.godebug = none := by kernel_rfl
theorem laidOut : laidOutB Try.prog = true := by kernel_rfl

set_option maxRecDepth 100000 in
set_option maxHeartbeats 2000000 in
theorem lifted (os : Os) (started : os.Started) (H : Type) (enc : TypeId × Value → H) :
    ReturnsInHanded {} Try.checked os 6 .any (Rows.renoHalvesSpec.pre6 enc Try.prog Try.f6 Rows.renoHalvesRow.domain false) (Rows.renoHalvesSpec.post enc Try.prog Try.f6 false true false false) := by
  refine returnsInHanded_of_change_sized (C := Try.checked) own started (by kernel_rfl) Try.func6
    (ChangeSpec.witness6 (enc := enc) (C := Try.checked) false ⟨#[], #[.agg #[.int .i64 0, .int .i64 0, .int .i64 0], .int .i64 0, .int .i64 0], []⟩ 8 (by kernel_rfl) (by kernel_rfl) (by kernel_rfl) (by kernel_rfl)) ?_
  intro W base args ds gs before hval0 hW hcnd hsz0 _
  have hval : ∀ (j : Nat) t v, Try.f6.params[j]? = some t → args[j]? = some v → Value.okWide Try.prog W .any base t v := hval0
  have hW' := hW
  obtain ⟨p, q, hA0, hV, rfl, hfz, hnd⟩ := hW
  have hA : DataW.TrodAll enc Try.prog W 0 (fun _ => true) true Try.f6.params.toList args.toList ds p := hA0
  rw [Try.params6] at hA hval
  obtain ⟨v0, vs0, d0, ds0, p0, q0, hargs, rfl, rfl, h0, r0⟩ := trodAll_cons hA
  obtain ⟨v1, vs1, d1, ds1, p1, q1, rfl, rfl, rfl, h1, r1⟩ := trodAll_cons r0
  obtain ⟨v2, vs2, d2, ds2, p2, q2, rfl, rfl, rfl, h2, r2⟩ := trodAll_cons r1
  obtain ⟨rfl, rfl, rfl⟩ := trodAll_nil r2
  obtain rfl : args = #[v0, v1, v2] := by cases args; simp_all
  obtain ⟨rfl, rfl⟩ := trodVars_none hV
  have k0 := h0
  have lt0 : ∀ x ∈ p0, x.block < W.heap.size := by obtain ⟨m, hm⟩ := k0; exact DataW.trod_lt m _ _ _ hm
  obtain ⟨vs0', ys0', m0, rfl, lv0, ly0, hd0, F0⟩ := open_agg Try.underlying23 (by kernel_rfl) (by kernel_rfl) (hval 0 23 v0 rfl rfl) h0
  obtain ⟨c0_0, c0_1, c0_2, rfl⟩ := of_len3 _ lv0
  obtain ⟨y0_0, y0_1, y0_2, rfl⟩ := of_len3 _ ly0
  simp only [List.map_cons, List.map_nil] at hd0
  obtain ⟨_, _, e, g, t0_0⟩ := F0 0 _ rfl
  obtain rfl := Option.some.inj e; obtain rfl := Option.some.inj g; clear e g
  obtain ⟨z0_0, e, _, w0_0⟩ := DataW.trod_int Try.underlying3 t0_0
  obtain rfl := (List.cons.inj e).1; clear e
  obtain ⟨lo0_0, hi0_0⟩ := bounds_i64 w0_0
  obtain ⟨_, _, e, g, t0_1⟩ := F0 1 _ rfl
  obtain rfl := Option.some.inj e; obtain rfl := Option.some.inj g; clear e g
  obtain ⟨z0_1, e, _, w0_1⟩ := DataW.trod_int Try.underlying3 t0_1
  obtain rfl := (List.cons.inj e).1; clear e
  obtain ⟨lo0_1, hi0_1⟩ := bounds_i64 w0_1
  obtain ⟨_, _, e, g, t0_2⟩ := F0 2 _ rfl
  obtain rfl := Option.some.inj e; obtain rfl := Option.some.inj g; clear e g
  obtain ⟨z0_2, e, _, w0_2⟩ := DataW.trod_int Try.underlying3 t0_2
  obtain rfl := (List.cons.inj e).1; clear e
  obtain ⟨lo0_2, hi0_2⟩ := bounds_i64 w0_2
  obtain ⟨a1, rfl, rfl, rfl, w1⟩ := open_int Try.underlying3 (hval 1 3 v1 rfl rfl) h1
  obtain ⟨a2, rfl, rfl, rfl, w2⟩ := open_int Try.underlying3 (hval 2 3 v2 rfl rfl) h2
  clear hA0
  obtain ⟨lo1, hi1⟩ := bounds_i64 w1
  obtain ⟨lo2, hi2⟩ := bounds_i64 w2
  refine (walk z0_0 z0_1 z0_2 a1 a2 W lo0_0 hi0_0 lo0_1 hi0_1 lo0_2 hi0_2 lo1 hi1 lo2 hi2).mono fun e W' ⟨he, bel⟩ => ?_
  subst he
  exact ⟨_, rfl, _, _, _, [], _, [], hW', trodAll_mk1 (shut_bool Try.underlying4 _), (trodAll_cons_mk (Below.trod laidOut (by kernel_rfl) (of_decide_eq_true (by kernel_rfl)) k0 bel lt0) (trodAll_cons_mk (shut_int Try.underlying3 w1) (trodAll_cons_mk (shut_int Try.underlying3 w2) trodAll_mk0))), rfl, bel.frame _, fun h => by cases h⟩

theorem over : Rows.renoHalvesRow.holds Try.pinned (OpenSpec.ofChange Rows.renoHalvesSpec) :=
  OpenClaim.holds_of_wide 6 Try.f6 rfl rfl rfl rfl rfl rfl rfl ⟨rfl, rfl, rfl, rfl, rfl⟩ rfl rfl rfl rfl rfl (by kernel_rfl) Try.func6 (by kernel_rfl)
    (of_decide_eq_true (by kernel_rfl)) (by unfold Func.isWrapper; first | (rw [if_pos (by decide +kernel)]; kernel_rfl) | (rw [if_neg (by decide +kernel)]; exact ⟨rfl, rfl⟩))
    (fun os started H enc _ => lifted os started H enc)

end Go.Proofs.Ytmjcckpppflpjaa.renoHalves
namespace Go.Proofs.Ytmjcckpppflpjaa
/-- The statement. -/
theorem renoHalves_holds : Rows.RenoHalvesSaid := renoHalves.over
#print axioms renoHalves_holds
end Go.Proofs.Ytmjcckpppflpjaa
