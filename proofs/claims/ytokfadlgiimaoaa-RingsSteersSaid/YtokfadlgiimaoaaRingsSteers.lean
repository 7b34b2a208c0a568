/- For any settings of a card and any octets of a frame: which ring the frame goes to, or the settings' error, is the document's. No condition. -/
import Derived.Test.YtokfadlgiimaoaaRows
import Derived.Test.YtokfadlgiimaoaaRgH
import Derived.Test.YtokfadlgiimaoaaRgI
import Derived.Test.YtokfadlgiimaoaaRgS
import Derived.Test.YtokfadlgiimaoaaRgX
import Derived.Test.YtokfadlgiimaoaaGStructI
import Derived.Test.YtokfadlgiimaoaaGAgg
import Derived.Deep.DeepCutAuto
import Derived.RegionTactic
import Derived.Deep.RegionHeld3
import Derived.Lib.MinMax
import Derived.ProofKit
import Derived.OpenShut
import Derived.ChangeOld
import Derived.SizedLaws
namespace Go.Proofs.Ytokfadlgiimaoaa.ringsSteers
open Go.ChangeShapes Go.WideShapes Go.ChangeAt Go.RowKit Go.Deep

theorem chk_zero {ks : List Nat} {ts : List Int} {sz ev : Int} (h : chkE ks ts sz ev = 0) : ckE ks ts = 0 ∧ 1 ≤ sz ∧ sz ≤ 4096 ∧ 1 ≤ ev ∧ ev ≤ 1048576 := by
  unfold chkE at h
  by_cases h1 : ckE ks ts = 0
  · rw [if_pos h1] at h
    by_cases h2 : sz < 1 ∨ 4096 < sz ∨ ev < 1 ∨ 1048576 < ev
    · rw [if_pos h2] at h; cases h
    · exact ⟨h1, by omega, by omega, by omega, by omega⟩
  · rw [if_neg h1] at h; exact absurd h h1
theorem ck_lens {ks : List Nat} {ts : List Int} (h : ckE ks ts = 0) : ks.length = 40 ∧ ts.length = 128 := by
  unfold ckE at h
  by_cases h1 : ks.length = 40
  · rw [if_pos h1] at h; exact ⟨h1, (ctE_zero h).1⟩
  · rw [if_neg h1] at h; cases h

theorem ct_of_ck {ks : List Nat} {ts : List Int} (h : ckE ks ts = 0) : ctE ts = 0 := by
  unfold ckE at h
  by_cases h1 : ks.length = 40
  · rw [if_pos h1] at h; exact h
  · rw [if_neg h1] at h; cases h

set_option linter.unusedSimpArgs false in
set_option maxRecDepth 100000 in
set_option maxHeartbeats 1000000 in
theorem walk (ka : Option Addr) (ks : List Nat) (kc : Nat) (ta : Option Addr) (ts : List Int) (tc : Nat) (sz ev : Int) (a : Option Addr) (ys : List Nat) (cap : Nat) (w : World)
    (hk : Bts w ka ks) (hkn : ka = none → kc = 0) (_ : ks.length ≤ kc ∧ kc ≤ maxLen) (hkl : ks.length ≤ 140737488351232) (ht : Its w ta ts) (htn : ta = none → tc = 0) (_ : ts.length ≤ tc ∧ tc ≤ maxLen) (htl : ts.length ≤ 17592186043904) (_ : -9223372036854775808 ≤ sz) (_ : sz ≤ 9223372036854775807) (_ : -9223372036854775808 ≤ ev) (_ : ev ≤ 9223372036854775807) (hy : Bts w a ys) (_ : a = none → cap = 0) (hyc : ys.length ≤ cap ∧ cap ≤ maxLen) (hyl : ys.length ≤ 140737488351232) :
    Calls Try.prog 3 #[.agg #[.slice ka ks.length kc, .slice ta ts.length tc, .int .i64 sz, .int .i64 ev], .slice a ys.length cap] w fun e w' => e = .returned (.bool true) ∧ Below w.heap.size w w' := by
  have bw := (Below.refl w.heap.size w).alloc (Nat.le_refl _) (.cells #[.slice ka ks.length kc, .slice ta ts.length tc, .int .i64 sz, .int .i64 ev] 25)
  have K0 := Lib.hid (blk_new w (.cells #[.slice ka ks.length kc, .slice ta ts.length tc, .int .i64 sz, .int .i64 ev] 25))
  have Q0 := Lib.hid bw
  have hz0 : Hid (w.heap.size < (w.alloc (.cells #[.slice ka ks.length kc, .slice ta ts.length tc, .int .i64 sz, .int .i64 ev] 25)).heap.size) := Lib.hid (by rw [World.size_alloc]; exact Nat.lt_succ_self _)
  have HOF := Lib.hid (of_any ka ks kc ta ts tc sz ev _ (hk.below bw) hkn hkl (ht.below bw) htn htl)
  have HK := Lib.hid hk
  have HT := Lib.hid ht
  have HTL := Lib.hid htl
  have HY := Lib.hid hy
  have HYC := Lib.hid hyc
  have HYL := Lib.hid hyl
  clear hk ht hkn htn hkl htl hy hyc hyl bw
  by_cases hchk : chkE ks ts sz ev = 0
  case neg =>
    have HCK := Lib.hid hchk
    have e1 : (chkE ks ts sz ev == chkE ks ts sz ev) = true := beq_self_eq_true _
    clear hchk
    go_enter Try.func3, Try.ntmps3
    go_wp2_with (first
      | (go_at_call 8; refine HOF.out.mono ?_; rintro e V2 ⟨⟨ka', kc', ta', tc', rfl, O, P⟩, b⟩; have Q2 := Lib.hid (Q0.out.trans (b.mono Q0.out.size)); have K2 := Lib.hid ((b.block _ hz0.out).trans K0.out); have hz2 := Lib.hid (Nat.lt_of_lt_of_le hz0.out b.size); have HN := Lib.hid (steer_bad ka' ks kc' ta' ts tc' sz ev (.slice a ys.length cap) V2 (P.its HT.out.1) (by have := HTL.out; omega) HCK.out); clear O P b)
      | (go_at_call 7; refine HN.out.mono ?_; rintro e V3 ⟨rfl, b⟩; have Q3 := Lib.hid (Q2.out.trans (b.mono Q2.out.size)); have K3 := Lib.hid ((b.block _ hz2.out).trans K2.out); clear b; have c0 := blk_cell K3.out 0; have c1 := blk_cell K3.out 1; have c2 := blk_cell K3.out 2; have c3 := blk_cell K3.out 3; have HRS := Lib.hid (rst_conf ka ks kc ta ts tc sz ev a ys cap V3 (HT.out.below Q3.out) (by have := HTL.out; omega) HCK.out))
      | (go_at_call 9; refine HRS.out.mono ?_; rintro e V4 ⟨rfl, b⟩; have Q4 := Lib.hid (Q3.out.trans (b.mono Q3.out.size)); clear b)
      | (go_at_call 10; refine (num_any _ _).mono ?_; rintro e w' ⟨rfl, rfl⟩)
      | (go_at_call 11; refine (alive_any _).mono ?_; rintro e V5 ⟨rfl, b⟩; have Q5 := Lib.hid (Q4.out.trans (b.mono Q4.out.size)); clear b)
      | fail)
    go_ret
    exact ⟨rfl, Q5.out⟩
  case pos =>
    have HC0 := Lib.hid hchk
    obtain ⟨q, hq, hQ, hR⟩ := both_any ks ts ys (ct_of_ck (chk_zero hchk).1) HYL.out HY.out.1
    have HQ := Lib.hid hQ
    have HR := Lib.hid hR
    have e1 : ((q : Int) == (q : Int)) = true := beq_self_eq_true _
    clear hchk hQ hR hq
    go_enter Try.func3, Try.ntmps3
    go_wp2_with (first
      | (go_at_call 8; refine HOF.out.mono ?_; rintro e V2 ⟨⟨ka', kc', ta', tc', rfl, O, P⟩, b⟩; have Q2 := Lib.hid (Q0.out.trans (b.mono Q0.out.size)); have K2 := Lib.hid ((b.block _ hz0.out).trans K0.out); have hz2 := Lib.hid (Nat.lt_of_lt_of_le hz0.out b.size); have HN := Lib.hid (steer_ok ka' ks kc' ta' ts tc' sz ev a ys cap q V2 O.bts O.capLe.1 (by have := O.capLe.2; unfold maxLen at this; omega) (P.its HT.out.1) (by have := HTL.out; omega) HC0.out (HY.out.below Q2.out) HYC.out.1 HYC.out.2 HQ.out); clear O P b)
      | (go_at_call 7; refine HN.out.mono ?_; rintro e V3 ⟨rfl, b⟩; have Q3 := Lib.hid (Q2.out.trans (b.mono Q2.out.size)); have K3 := Lib.hid ((b.block _ hz2.out).trans K2.out); clear b; have c0 := blk_cell K3.out 0; have c1 := blk_cell K3.out 1; have c2 := blk_cell K3.out 2; have c3 := blk_cell K3.out 3; have HRS := Lib.hid (HR.out ka kc ta tc sz ev a cap V3 (HK.out.below Q3.out) (HT.out.below Q3.out) HC0.out (HY.out.below Q3.out) HYC.out.1 HYC.out.2))
      | (go_at_call 9; refine HRS.out.mono ?_; rintro e V4 ⟨rfl, b⟩; have Q4 := Lib.hid (Q3.out.trans (b.mono Q3.out.size)); clear b)
      | (go_at_call 10; refine (num_any _ _).mono ?_; rintro e w' ⟨rfl, rfl⟩)
      | (go_at_call 11; refine (alive_any _).mono ?_; rintro e V5 ⟨rfl, b⟩; have Q5 := Lib.hid (Q4.out.trans (b.mono Q4.out.size)); clear b)
      | fail)
    go_ret
    exact ⟨rfl, Q5.out⟩

theorem of_len4 {α : Type} (l : List α) (h : l.length = 4) : ∃ x0 x1 x2 x3, l = [x0, x1, x2, x3] := by
  match l, h with
  | [x0, x1, x2, x3], _ => exact ⟨x0, x1, x2, x3, rfl⟩
theorem own : ownKnob Try.prog.godebug = none := by kernel_rfl
theorem laidOut : laidOutB Try.prog = true := by kernel_rfl

set_option maxRecDepth 100000 in
set_option maxHeartbeats 2000000 in
theorem lifted (os : Os) (started : os.Started) (H : Type) (enc : TypeId × Value → H) :
    ReturnsInHanded {} Try.checked os 3 .any (Rows.ringsSteersSpec.pre6 enc Try.prog Try.f3 Rows.ringsSteersRow.domain false) (Rows.ringsSteersSpec.post enc Try.prog Try.f3 false true false false) := by
  refine returnsInHanded_of_change_sized (C := Try.checked) own started (by kernel_rfl) Try.func3
    (ChangeSpec.witness6 (enc := enc) (C := Try.checked) false ⟨#[], #[.agg #[.slice none 0 0, .slice none 0 0, .int .i64 0, .int .i64 0], .slice none 0 0], []⟩ 8 (by kernel_rfl) (by kernel_rfl) (by kernel_rfl) (by kernel_rfl)) ?_
  intro W base args ds gs before hval0 hW hcnd hsz0 _
  have hval : ∀ (j : Nat) t v, Try.f3.params[j]? = some t → args[j]? = some v → Value.okWide Try.prog W .any base t v := hval0
  have hsz : (DataW.weightsEach Try.prog (Try.f3.params.toList ++ Rows.ringsSteersSpec.plain.varTypes Try.prog) (ds ++ gs)).all (· ≤ reachBytes) = true := hsz0
  have hW' := hW
  obtain ⟨p, q, hA0, hV, rfl, hfz, hnd⟩ := hW
  have hA : DataW.TrodAll enc Try.prog W 0 (fun _ => true) true Try.f3.params.toList args.toList ds p := hA0
  rw [Try.params3] at hA hval hsz
  obtain ⟨v0, vs0, d0, ds0, p0, q0, hargs, rfl, rfl, h0, r0⟩ := trodAll_cons hA
  obtain ⟨v1, vs1, d1, ds1, p1, q1, rfl, rfl, rfl, h1, r1⟩ := trodAll_cons r0
  obtain ⟨rfl, rfl, rfl⟩ := trodAll_nil r1
  obtain rfl : args = #[v0, v1] := by cases args; simp_all
  obtain ⟨rfl, rfl⟩ := trodVars_none hV
  have k0 := h0
  have lt0 : ∀ x ∈ p0, x.block < W.heap.size := by obtain ⟨m, hm⟩ := k0; exact DataW.trod_lt m _ _ _ hm
  obtain ⟨vs0', ys0', m0, rfl, lv0, ly0, hd0, F0⟩ := open_agg Try.underlying25 (by kernel_rfl) (by kernel_rfl) (hval 0 25 v0 rfl rfl) h0
  obtain ⟨c0_0, c0_1, c0_2, c0_3, rfl⟩ := of_len4 _ lv0
  obtain ⟨y0_0, y0_1, y0_2, y0_3, rfl⟩ := of_len4 _ ly0
  simp only [List.map_cons, List.map_nil] at hd0
  obtain ⟨_, _, e, g, t0_0⟩ := F0 0 _ rfl
  obtain rfl := Option.some.inj e; obtain rfl := Option.some.inj g; clear e g
  obtain ⟨a0_0, xs0_0, cap0_0, rfl, hbt0_0, hcap0_0, hlc0_0, hq0_0⟩ := open_bytes t0_0
  obtain ⟨_, _, e, g, t0_1⟩ := F0 1 _ rfl
  obtain rfl := Option.some.inj e; obtain rfl := Option.some.inj g; clear e g
  obtain ⟨a0_1, xs0_1, cap0_1, rfl, hbt0_1, hcap0_1, hlc0_1, hq0_1⟩ := open_intsF t0_1
  obtain ⟨_, _, e, g, t0_2⟩ := F0 2 _ rfl
  obtain rfl := Option.some.inj e; obtain rfl := Option.some.inj g; clear e g
  obtain ⟨z0_2, e, _, w0_2⟩ := DataW.trod_int Try.underlying3 t0_2
  obtain rfl := (List.cons.inj e).1; clear e
  obtain ⟨lo0_2, hi0_2⟩ := bounds_i64 w0_2
  obtain ⟨_, _, e, g, t0_3⟩ := F0 3 _ rfl
  obtain rfl := Option.some.inj e; obtain rfl := Option.some.inj g; clear e g
  obtain ⟨z0_3, e, _, w0_3⟩ := DataW.trod_int Try.underlying3 t0_3
  obtain rfl := (List.cons.inj e).1; clear e
  obtain ⟨lo0_3, hi0_3⟩ := bounds_i64 w0_3
  obtain ⟨a1, len1, cap1, rfl⟩ := okWide_slice Try.underlying22 (hval 1 22 v1 rfl rfl)
  have k1 := h1
  have lt1 : ∀ x ∈ p1, x.block < W.heap.size := by obtain ⟨m, hm⟩ := k1; exact DataW.trod_lt m _ _ _ hm
  have hre0_0 : xs0_0.length ≤ 140737488351232 := bytes_reach hq0_0 (sized_field hsz (j := 0) (i := 0) (t := 25) rfl (by rw [hd0]; rfl) Try.underlying25 rfl rfl)
  have hre0_1 : xs0_1.length ≤ 17592186043904 := ints_reach hq0_1 (sized_field hsz (j := 0) (i := 1) (t := 25) rfl (by rw [hd0]; rfl) Try.underlying25 rfl rfl)
  obtain ⟨xs1, hxl1, hbt1, hcap1, hlc1, hre1⟩ : ∃ xs : List Nat, xs.length = len1 ∧ Bts W a1 xs ∧ (a1 = none → cap1 = 0) ∧ (xs.length ≤ cap1 ∧ cap1 ≤ maxLen) ∧ xs.length ≤ 140737488351232 := by
    obtain ⟨fuel, hf⟩ := h1
    rcases open_ints Try.underlying22 Try.underlying5 (by kernel_rfl) hf with ⟨hcs, _⟩ | ⟨x, l, c, zs, hcs, _, hl, hm, hz, hd, hcell, hwz⟩
    · simp [Value.cells] at hcs
      obtain ⟨rfl, rfl, rfl⟩ := hcs
      exact ⟨[], rfl, ⟨(fun x h => by cases h), .inl rfl⟩, fun _ => rfl, ⟨Nat.le_refl _, Nat.zero_le _⟩, by simp⟩
    · simp [Value.cells] at hcs
      obtain ⟨rfl, rfl, rfl⟩ := hcs
      have hz' : zs.length = cap1 := by simpa using hz
      obtain ⟨xs, h1, h2⟩ := bts_of_ints hl hz' hcell hwz
      have hd' := (Prod.mk.inj hd).1
      have hw := sized_slice hsz (j := 1) (t := 22) (e := 5) rfl (by rw [hd']; rfl) Try.underlying22
      rw [bytes5] at hw
      simp only [lits, List.length_map, List.length_take, List.length_drop, reachBytes] at hw
      exact ⟨xs, h1, h2, (fun h => by cases h), ⟨by omega, hm⟩, by omega⟩
  clear hA0 hval0 hsz hsz0
  subst hxl1
  refine (walk a0_0 xs0_0 cap0_0 a0_1 xs0_1 cap0_1 z0_2 z0_3 a1 xs1 cap1 W hbt0_0 hcap0_0 hlc0_0 hre0_0 hbt0_1 hcap0_1 hlc0_1 hre0_1 lo0_2 hi0_2 lo0_3 hi0_3 hbt1 hcap1 hlc1 hre1).mono fun e W' ⟨he, bel⟩ => ?_
  subst he
  exact ⟨_, rfl, _, _, _, [], _, [], hW', trodAll_mk1 (shut_bool Try.underlying4 _), (trodAll_cons_mk (Below.trod laidOut (by kernel_rfl) (of_decide_eq_true (by kernel_rfl)) k0 bel lt0) (trodAll_cons_mk (Below.trod laidOut (by kernel_rfl) (of_decide_eq_true (by kernel_rfl)) k1 bel lt1) trodAll_mk0)), rfl, bel.frame _, fun h => by cases h⟩

theorem over : Rows.ringsSteersRow.holds Try.pinned (OpenSpec.ofChange Rows.ringsSteersSpec) :=
  OpenClaim.holds_of_wide 3 Try.f3 rfl rfl rfl rfl rfl rfl rfl ⟨rfl, rfl, rfl, rfl, rfl⟩ rfl rfl rfl rfl rfl (by kernel_rfl) Try.func3 (by kernel_rfl)
    (of_decide_eq_true (by kernel_rfl)) (by unfold Func.isWrapper; first | (rw [if_pos (by decide +kernel)]; kernel_rfl) | (rw [if_neg (by decide +kernel)]; exact ⟨rfl, rfl⟩))
    (fun os started H enc _ => lifted os started H enc)

end Go.Proofs.Ytokfadlgiimaoaa.ringsSteers
namespace Go.Proofs.Ytokfadlgiimaoaa
/-- The statement. -/
theorem ringsSteers_holds : Rows.RingsSteersSaid := ringsSteers.over
#print axioms ringsSteers_holds
end Go.Proofs.Ytokfadlgiimaoaa
