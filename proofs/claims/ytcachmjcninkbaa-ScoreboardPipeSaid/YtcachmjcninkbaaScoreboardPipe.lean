/- For every state and segment's size: the pipe is at most twice what is on its way; where nothing is in blocks or sent again, it is just that. No condition. -/
import Derived.Test.YtcachmjcninkbaaRows
import Derived.Test.YtcachmjcninkbaaScA
import Derived.Test.YtcachmjcninkbaaGAgg
import Derived.Deep.DeepCutAuto
import Derived.RegionTactic
import Derived.Deep.RegionHeld3
import Derived.ProofKit
import Derived.OpenShut
import Derived.ChangeOld
import Derived.SizedLaws
namespace Go.Proofs.Ytcachmjcninkbaa.scoreboardPipe
open Go.ChangeShapes Go.WideShapes Go.ChangeAt Go.RowKit Go.Deep Go.Proofs.Ytcachmjcninkbaa

set_option maxRecDepth 100000 in
set_option maxHeartbeats 2000000 in
theorem walk (una nxt high : Nat) (a : Option Addr) (bs : List (Nat × Nat)) (c : Nat) (mss : Int) (w : World) (hu : una < 4294967296) (_hx : nxt < 4294967296) (_hh : high < 4294967296) (hbk : Blk w a bs) (hn : a = none → c = 0) (_hlc : bs.length ≤ c ∧ c ≤ maxLen) (hl : bs.length ≤ 17592186043904) (_mss_l : -9223372036854775808 ≤ mss) (_mss_h : mss ≤ 9223372036854775807) :
    Calls Try.prog 5 #[.agg #[.int .u32 (una : Nat), .int .u32 (nxt : Nat), .int .u32 (high : Nat), .slice a bs.length c], .int .i64 mss] w fun e w' => e = .returned (.bool true) ∧ Below w.heap.size w w' := by
  have HL := Lib.hid (blk_sts hbk)
  have HN := Lib.hid hn
  have hun := pl_wrap (x := nxt) hu
  have hpl := pl_lt una nxt
  obtain ⟨st, hst⟩ : ∃ z, pl una nxt = z := ⟨_, rfl⟩
  have HST := Lib.hid hst
  rw [hst] at hun hpl
  have hun2 := u32_i64 hpl
  obtain ⟨E, hE⟩ : ∃ E, ckE una nxt high bs mss = E := ⟨_, rfl⟩
  obtain ⟨p, hp⟩ : ∃ p, ppO una nxt high bs mss = p := ⟨_, rfl⟩
  have HE := Lib.hid hE
  have HPP := Lib.hid hp
  have HPI := Lib.hid (fun a' c' V (h : Sts 2 BC Tr V a' bs) => pipe_any una nxt high a' bs c' mss V hu h (by omega))
  rw [hE, hp] at HPI
  clear hbk hn hst hE hp
  go_enter Try.func5, Try.ntmps5
  go_upto_region 1 with fail
  have S0 := Lib.hid (blk_new w (.cells #[.int .u32 (una : Nat), .int .u32 (nxt : Nat), .int .u32 (high : Nat), .slice a bs.length c] 25))
  have Q0 := Lib.hid ((Below.refl w.heap.size w).alloc (Nat.le_refl _) (.cells #[.int .u32 (una : Nat), .int .u32 (nxt : Nat), .int .u32 (high : Nat), .slice a bs.length c] 25))
  generalize w.alloc (.cells #[.int .u32 (una : Nat), .int .u32 (nxt : Nat), .int .u32 (high : Nat), .slice a bs.length c] 25) = V0 at S0 Q0 ⊢
  go_wp2_with fail
  refine (alive_any V0).mono ?_
  rintro e V1 ⟨rfl, hB⟩
  have S1 := Lib.hid ((hB.block _ (blk_lt S0.out)).trans S0.out)
  have Q1 := Lib.hid (Q0.out.trans (hB.mono Q0.out.size))
  clear hB
  have c0 := blk_cell S1.out 0
  have c1 := blk_cell S1.out 1
  have c2 := blk_cell S1.out 2
  have c3 := blk_cell S1.out 3
  go_wp2_with fail
  refine (given_any una nxt high a bs c V1 (Sts.belowT HL.out Q1.out) HN.out hl).mono ?_
  rintro e V2 ⟨⟨a', c', rfl, hO⟩, hB⟩
  have S2 := Lib.hid ((hB.block _ (blk_lt S1.out)).trans S1.out)
  have L2 := Lib.hid (hO.sts encB)
  have Q2 := Lib.hid (Q1.out.trans (hB.mono Q1.out.size))
  clear hB hO c0 c1 c2 c3
  go_wp2_with fail
  refine (HPI.out a' c' V2 L2.out).mono ?_
  rintro e V3 ⟨rfl, hB⟩
  have S3 := Lib.hid ((hB.block _ (blk_lt S2.out)).trans S2.out)
  have Q3 := Lib.hid (Q2.out.trans (hB.mono Q2.out.size))
  clear hB
  go_wp2_with fail
  refine (num_any _ _).mono ?_
  rintro e w' ⟨rfl, rfl⟩
  by_cases h0 : E = 0
  case neg =>
    have hp0 : p = 0 := by rw [← HPP.out]; unfold ppO; rw [HE.out, if_neg h0]
    subst hp0
    go_wp2
    go_ret
    exact ⟨rfl, Q3.out⟩
  case pos =>
  subst h0
  obtain ⟨hok, hm1, _⟩ := ck_ok HE.out
  obtain ⟨k1, k2, k3, k4⟩ := okS_iff.1 hok
  have hpv : p = pipeS mss (pl una high) (hol st 0 (sps una bs)) := by rw [← HPP.out, ← HST.out]; unfold ppO; rw [HE.out, if_pos rfl]
  rw [HST.out] at k1 k2 k4
  have hbd := pipe_bd mss (pl una high) (sps una bs) 0 k4 (Nat.zero_le _)
  rw [← hpv] at hbd
  have p0 : 0 ≤ p := hbd.1
  have p1 : p ≤ 2 * (st : Int) := by have := hbd.2; omega
  have HLAST : Hid (bs.length = 0 → high = una → p = (st : Int)) := Lib.hid (fun h1 h2 => by
    have hb : bs = [] := List.eq_nil_of_length_eq_zero h1
    have h3 := pipe_none mss st (pl una high) hm1 k2
    rw [hpv, hb]
    show pipeS mss (pl una high) (hol st 0 []) = _
    rw [h3, h2, pl_self hu]; omega)
  clear hok k2 k3 k4 hpv hbd HPP
  have c0 := blk_cell S3.out 0
  have c1 := blk_cell S3.out 1
  have c2 := blk_cell S3.out 2
  have c3 := blk_cell S3.out 3
  by_cases hb0 : 0 < bs.length
  case pos =>
    have d1 : (0 : Int) < (bs.length : Int) := by omega
    go_wp2
    go_ret
    exact ⟨rfl, Q3.out⟩
  case neg =>
    have hb1 : bs.length = 0 := by omega
    have d1 : ¬ ((0 : Int) < (bs.length : Int)) := by omega
    by_cases hhu : high = una
    case neg =>
      have d2 : ¬ ((high : Int) = (una : Int)) := by omega
      have d3 : ((high : Int) == (una : Int)) = false := by rw [beq_eq_false_iff_ne]; exact d2
      clear hb1 HLAST
      go_wp2
      go_ret
      exact ⟨rfl, Q3.out⟩
    case pos =>
      have hps := HLAST.out hb1 hhu
      subst hps
      subst hhu
      clear hb1 HLAST
      go_wp2
      go_ret
      exact ⟨rfl, Q3.out⟩

theorem of_len4 {α : Type} (l : List α) (h : l.length = 4) : ∃ x0 x1 x2 x3, l = [x0, x1, x2, x3] := by
  match l, h with
  | [x0, x1, x2, x3], _ => exact ⟨x0, x1, x2, x3, rfl⟩
theorem own : ownKnob Try.prog.godebug = none := by kernel_rfl
theorem laidOut : laidOutB Try.prog = true := by kernel_rfl

set_option maxRecDepth 100000 in
set_option maxHeartbeats 2000000 in
theorem lifted (os : Os) (started : os.Started) (H : Type) (enc : TypeId × Value → H) :
    ReturnsInHanded {} Try.checked os 5 .any (Rows.scoreboardPipeSpec.pre6 enc Try.prog Try.f5 Rows.scoreboardPipeRow.domain false) (Rows.scoreboardPipeSpec.post enc Try.prog Try.f5 false true false false) := by
  refine returnsInHanded_of_change_sized (C := Try.checked) own started (by kernel_rfl) Try.func5
    (ChangeSpec.witness6 (enc := enc) (C := Try.checked) false ⟨#[], #[.agg #[.int .u32 0, .int .u32 0, .int .u32 0, .slice none 0 0], .int .i64 0], []⟩ 8 (by kernel_rfl) (by kernel_rfl) (by kernel_rfl) (by kernel_rfl)) ?_
  intro W base args ds gs before hval0 hW hcnd hsz0 _
  have hval : ∀ (j : Nat) t v, Try.f5.params[j]? = some t → args[j]? = some v → Value.okWide Try.prog W .any base t v := hval0
  have hsz : (DataW.weightsEach Try.prog (Try.f5.params.toList ++ Rows.scoreboardPipeSpec.plain.varTypes Try.prog) (ds ++ gs)).all (· ≤ reachBytes) = true := hsz0
  have hW' := hW
  obtain ⟨p, q, hA0, hV, rfl, hfz, hnd⟩ := hW
  have hA : DataW.TrodAll enc Try.prog W 0 (fun _ => true) true Try.f5.params.toList args.toList ds p := hA0
  rw [Try.params5] at hA hval hsz
  obtain ⟨v0, vs0, d0, ds0, p0, q0, hargs, rfl, rfl, h0, r0⟩ := trodAll_cons hA
  obtain ⟨v1, vs1, d1, ds1, p1, q1, rfl, rfl, rfl, h1, r1⟩ := trodAll_cons r0
  obtain ⟨rfl, rfl, rfl⟩ := trodAll_nil r1
  obtain rfl : args = #[v0, v1] := by cases args; simp_all
  obtain ⟨rfl, rfl⟩ := trodVars_none hV
  have k0 := h0
  have lt0 : ∀ x ∈ p0, x.block < W.heap.size := by obtain ⟨m, hm⟩ := k0; exact DataW.trod_lt m _ _ _ hm
  obtain ⟨vs0', ys0', m0, rfl, lv0, ly0, hd0, F0⟩ := open_agg Try.underlying25 (by kernel_rfl) (by kernel_rfl) (hval 0 25 v0 rfl rfl) h0
  obtain ⟨c0_0, c0_1, c0_2, c0_3, rfl⟩ := of_len4 _ lv0
  obtain ⟨y0_0, y0_1, y0_2, y0_3, rfl⟩ := of_len4 _ ly0
  simp only [List.map_cons, List.map_nil] at hd0
  obtain ⟨_, _, e, g, t0_0⟩ := F0 0 _ rfl
  obtain rfl := Option.some.inj e; obtain rfl := Option.some.inj g; clear e g
  obtain ⟨z0_0, e, _, w0_0⟩ := DataW.trod_int Try.underlying22 t0_0
  obtain rfl := (List.cons.inj e).1; clear e
  obtain ⟨n0_0, rfl, hn0_0⟩ := nat_of_u32 w0_0
  obtain ⟨_, _, e, g, t0_1⟩ := F0 1 _ rfl
  obtain rfl := Option.some.inj e; obtain rfl := Option.some.inj g; clear e g
  obtain ⟨z0_1, e, _, w0_1⟩ := DataW.trod_int Try.underlying22 t0_1
  obtain rfl := (List.cons.inj e).1; clear e
  obtain ⟨n0_1, rfl, hn0_1⟩ := nat_of_u32 w0_1
  obtain ⟨_, _, e, g, t0_2⟩ := F0 2 _ rfl
  obtain rfl := Option.some.inj e; obtain rfl := Option.some.inj g; clear e g
  obtain ⟨z0_2, e, _, w0_2⟩ := DataW.trod_int Try.underlying22 t0_2
  obtain rfl := (List.cons.inj e).1; clear e
  obtain ⟨n0_2, rfl, hn0_2⟩ := nat_of_u32 w0_2
  obtain ⟨_, _, e, g, t0_3⟩ := F0 3 _ rfl
  obtain rfl := Option.some.inj e; obtain rfl := Option.some.inj g; clear e g
  obtain ⟨a0_3, bs0_3, cap0_3, rfl, hbk0_3, hcap0_3, hlc0_3, hq0_3⟩ := open_blocks t0_3
  obtain ⟨a1, rfl, rfl, rfl, w1⟩ := open_int Try.underlying3 (hval 1 3 v1 rfl rfl) h1
  have hre0_3 : bs0_3.length ≤ 17592186043904 := blocks_reach hq0_3 (sized_field hsz (j := 0) (i := 3) (t := 25) rfl (by rw [hd0]; rfl) Try.underlying25 rfl rfl)
  clear hA0 hval0 hsz hsz0
  obtain ⟨lo1, hi1⟩ := bounds_i64 w1
  refine (walk n0_0 n0_1 n0_2 a0_3 bs0_3 cap0_3 a1 W hn0_0 hn0_1 hn0_2 hbk0_3 hcap0_3 hlc0_3 hre0_3 lo1 hi1).mono fun e W' ⟨he, bel⟩ => ?_
  subst he
  exact ⟨_, rfl, _, _, _, [], _, [], hW', trodAll_mk1 (shut_bool Try.underlying4 _), (trodAll_cons_mk (Below.trod laidOut (by kernel_rfl) (of_decide_eq_true (by kernel_rfl)) k0 bel lt0) (trodAll_cons_mk (shut_int Try.underlying3 w1) trodAll_mk0)), rfl, bel.frame _, fun h => by cases h⟩

theorem over : Rows.scoreboardPipeRow.holds Try.pinned (OpenSpec.ofChange Rows.scoreboardPipeSpec) :=
  OpenClaim.holds_of_wide 5 Try.f5 rfl rfl rfl rfl rfl rfl rfl ⟨rfl, rfl, rfl, rfl, rfl⟩ rfl rfl rfl rfl rfl (by kernel_rfl) Try.func5 (by kernel_rfl)
    (of_decide_eq_true (by kernel_rfl)) (by unfold Func.isWrapper; first | (rw [if_pos (by decide +kernel)]; kernel_rfl) | (rw [if_neg (by decide +kernel)]; exact ⟨rfl, rfl⟩))
    (fun os started H enc _ => lifted os started H enc)

end Go.Proofs.Ytcachmjcninkbaa.scoreboardPipe
namespace Go.Proofs.Ytcachmjcninkbaa
/-- The statement. -/
theorem scoreboardPipe_holds : Rows.ScoreboardPipeSaid := scoreboardPipe.over
#print axioms scoreboardPipe_holds
end Go.Proofs.Ytcachmjcninkbaa
