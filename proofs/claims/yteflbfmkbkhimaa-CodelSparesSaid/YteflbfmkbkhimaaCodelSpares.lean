/- For every settings, state, queue and tick: no packet is dropped or marked that came just now, or behind which almost nothing waits; one that may be marked is never dropped. No condition. -/
import Derived.Test.YteflbfmkbkhimaaRows
import Derived.Test.YteflbfmkbkhimaaCkE
import Derived.Test.YteflbfmkbkhimaaGAgg
import Derived.Deep.DeepCutAuto
import Derived.RegionTactic
import Derived.Deep.RegionHeld3
import Derived.BigQuiet
import Derived.ProofKit
import Derived.OpenShut
import Derived.ChangeOld
import Derived.SizedLaws
namespace Go.Proofs.Yteflbfmkbkhimaa.codelSpares
open Go.ChangeShapes Go.WideShapes Go.ChangeAt Go.RowKit Go.Deep Go.Proofs.Yteflbfmkbkhimaa Go.Proofs.Yteflbfmkbkhimaa.Cd

set_option maxRecDepth 100000 in
set_option maxHeartbeats 4000000 in
theorem walk (tg iv mtu : Int) (sa : Bool) (sb : Int) (sd : Bool) (sn sc sl : Int) (a : Option Addr) (l : List Pkt) (cap : Nat) (now : Int) (w : World) (_tg_l : -9223372036854775808 ≤ tg) (_tg_h : tg ≤ 9223372036854775807) (_iv_l : -9223372036854775808 ≤ iv) (_iv_h : iv ≤ 9223372036854775807) (_mtu_l : -9223372036854775808 ≤ mtu) (_mtu_h : mtu ≤ 9223372036854775807) (_sb_l : -9223372036854775808 ≤ sb) (_sb_h : sb ≤ 9223372036854775807) (_sn_l : -9223372036854775808 ≤ sn) (_sn_h : sn ≤ 9223372036854775807) (_sc_l : -9223372036854775808 ≤ sc) (_sc_h : sc ≤ 9223372036854775807) (_sl_l : -9223372036854775808 ≤ sl) (_sl_h : sl ≤ 9223372036854775807) (hx : Sts 4 Pkt.cells Pkt.ok w a l) (hnc : a = none → cap = 0) (hcap : l.length ≤ cap ∧ cap ≤ maxLen) (hl : l.length ≤ 4398046510976) (_now_l : -9223372036854775808 ≤ now) (_now_h : now ≤ 9223372036854775807) :
    Calls Try.prog 4 #[.agg #[.int .i64 tg, .int .i64 iv, .int .i64 mtu], .agg #[.bool sa, .int .i64 sb, .bool sd, .int .i64 sn, .int .i64 sc, .int .i64 sl], .slice a l.length cap, .int .i64 now] w fun e w' => e = .returned (.bool true) ∧ Below w.heap.size w w' := by
  have HL := Lib.hid (Sts.weak hx)
  have HN := Lib.hid hnc
  have HCP := Lib.hid hcap
  clear hx hnc hcap _tg_l _tg_h _iv_l _iv_h _mtu_l _mtu_h _sb_l _sb_h _sn_l _sn_h _sc_l _sc_h _sl_l _sl_h _now_l _now_h
  go_enter Try.func4, Try.ntmps4
  go_upto_region 1 with fail
  obtain ⟨x1, x2, x3, x4⟩ := two w (.cells #[.int .i64 tg, .int .i64 iv, .int .i64 mtu] 23) (.cells #[.bool sa, .int .i64 sb, .bool sd, .int .i64 sn, .int .i64 sc, .int .i64 sl] 25)
  have P0 := Lib.hid x1
  have S0 := Lib.hid x2
  have N0 := Lib.hid x3
  have Q0 := Lib.hid x4
  clear x1 x2 x3 x4
  generalize (w.alloc (.cells #[.int .i64 tg, .int .i64 iv, .int .i64 mtu] 23)).alloc (.cells #[.bool sa, .int .i64 sb, .bool sd, .int .i64 sn, .int .i64 sc, .int .i64 sl] 25) = V0 at P0 S0 N0 Q0 ⊢
  go_wp2_with fail
  refine (alive_any _).mono ?_
  rintro e V1 ⟨rfl, hB1⟩
  have X1 := Lib.hid hB1
  clear hB1
  have PB := Lib.hid ((X1.out.block w.heap.size (by have := N0.out; omega)).trans P0.out)
  have SB := (X1.out.block (w.heap.size + 1) (by have := N0.out; omega)).trans S0.out
  have p0 := blk_cell PB.out 0
  have p1 := blk_cell PB.out 1
  have p2 := blk_cell PB.out 2
  have s0 := blk_cell SB 0
  have s1 := blk_cell SB 1
  have s2 := blk_cell SB 2
  have s3 := blk_cell SB 3
  have s4 := blk_cell SB 4
  have s5 := blk_cell SB 5
  have L1 := Lib.hid (Sts.belowT HL.out (Q0.out.trans (X1.out.mono Q0.out.size)))
  clear SB
  go_wp2_with fail
  refine (dequeue_any tg iv mtu sa sb sd sn sc sl a l cap now V1 L1.out HCP.out (by omega)).mono ?_
  rintro e V2 ⟨hD, hB2⟩
  have X2 := Lib.hid (X1.out.trans (hB2.mono X1.out.size))
  clear p0 p1 p2 s0 s1 s2 s3 s4 s5 PB
  have L2 := Lib.hid (Sts.belowT L1.out hB2)
  rcases hD with ⟨E, hne, rfl⟩ | ⟨t, hK, ⟨hV, hw0, hw1⟩, ⟨et, em, en⟩, hO, rfl⟩
  case inl =>
    have QQ := Lib.hid (Q0.out.trans (X2.out.mono Q0.out.size))
    go_wp2_with fail
    refine (num_any _ _).mono ?_
    rintro e w' ⟨rfl, rfl⟩
    go_wp2
    go_ret
    exact ⟨rfl, by (repeat' (first | (with_reducible exact QQ.out) | (with_reducible refine Below.alloc ?_ ?_ _) | (with_reducible refine Below.setCell ?_ ?_ _) | (with_reducible refine Below.drew ?_) | (with_reducible refine below_drewN ?_ _) | (have h9 := QQ.out.size; omega) | (have h9 := QQ.out.size; simp; omega)))⟩
  case inr =>
  have HK := Lib.hid hK
  have HIT := Lib.hid (fun (i : Nat) (x : Pkt) (h : (hitL t)[i]? = some x) => hK.hits hV h)
  rw [et, em, en] at HIT
  have HV := Lib.hid hV
  have hdl := hK.len
  have hhl := hit_len hK
  clear hK hV et em en
  go_upto_region 4 with fail
  obtain ⟨x1, x2, x3, x4⟩ := two V2 (.cells #[.bool t.above, .int .i64 t.aboveAt, .bool t.dropping, .int .i64 t.nx, .int .i64 t.cn, .int .i64 t.la] 28) (.cells #[.bool t.has, .int .i64 t.out.tick, .int .i64 t.out.sz, .bool t.out.ect, .int .i64 t.out.id, .bool t.marked, .slice t.da t.dl.length t.dc, .int .i64 t.ql.length] 32)
  have R3 := Lib.hid x2
  have b3 := x4
  have O3 := Lib.hid (hO.below b3)
  have X3 := Lib.hid (X2.out.trans (b3.mono X2.out.size))
  have L3 := Lib.hid (Sts.belowT L2.out b3)
  have hz3 := x3
  clear x1 x2 x3 x4 b3 hO L2 L1 X1
  generalize (V2.alloc (.cells #[.bool t.above, .int .i64 t.aboveAt, .bool t.dropping, .int .i64 t.nx, .int .i64 t.cn, .int .i64 t.la] 28)).alloc (.cells #[.bool t.has, .int .i64 t.out.tick, .int .i64 t.out.sz, .bool t.out.ect, .int .i64 t.out.id, .bool t.marked, .slice t.da t.dl.length t.dc, .int .i64 t.ql.length] 32) = V3 at R3 O3 X3 L3 hz3 ⊢
  go_wp2_with fail
  refine (num_any _ _).mono ?_
  rintro e w' ⟨rfl, rfl⟩
  have c6 := blk_cell R3.out 6
  go_wp2_with fail
  refine (copyPk_any t.da t.dl t.dc V3 (O3.out.sts encK) O3.out.nilcap (by omega)).mono ?_
  rintro e V4 ⟨⟨a4, c4, rfl, hO4⟩, hB4⟩
  have O4 := Lib.hid hO4
  have B4 := Lib.hid hB4
  have R4 := Lib.hid ((hB4.block _ (blk_lt R3.out)).trans R3.out)
  clear c6 hO4 hB4
  have hz4 : V3.heap.size ≤ V4.heap.size := B4.out.size
  obtain ⟨mb, hmb⟩ : ∃ b, t.marked = b := ⟨_, rfl⟩
  obtain ⟨hs, hhs⟩ : ∃ hs, hitL t = hs := ⟨_, rfl⟩
  rw [hhs] at HIT hhl
  have c5 : V4.cell? ⟨V2.heap.size + 1, 5, none⟩ = some (.bool mb) := (blk_cell R4.out 5).trans (congrArg (fun z => some (Value.bool z)) hmb)
  have c1 := blk_cell R4.out 1
  have c2 := blk_cell R4.out 2
  have c3 := blk_cell R4.out 3
  have c4' := blk_cell R4.out 4
  have HMB : Hid (hs = t.dl ++ (if mb = true then [t.out] else [])) := Lib.hid (by rw [← hhs, ← hmb]; rfl)
  clear hmb hhs
  go_upto_if 34 with fail
  go_cut [12] (fun (hv : Value) (wx : World) => ∃ a5 c5, hv = .slice a5 hs.length c5 ∧ OwnR 30 4 KC V3.heap.size a5 hs c5 wx ∧ Below V3.heap.size V3 wx)
  case first =>
    have bal : Below V4.heap.size V4 (V4.alloc (.cells #[.int .i64 t.out.tick, .int .i64 t.out.sz, .bool t.out.ect, .int .i64 t.out.id] 30)) := (Below.refl V4.heap.size V4).alloc (Nat.le_refl _) _
    have BAL := Lib.hid bal
    clear bal
    cases mb
    case false =>
      have e : hs = t.dl := by rw [HMB.out]; simp
      subst e
      go_wp2_with fail
      go_meet
      exact ⟨a4, c4, rfl, O4.out, B4.out⟩
    case true =>
      have e : hs = t.dl ++ [t.out] := by rw [HMB.out]; simp
      subst e
      have hll : t.dl.length + 1 ≤ l.length := by simpa using hhl
      go_wp2_with (first
        | ((with_reducible show wpList _ _ _ _ _ _); refine wpList_append_r (w := V4.alloc (.cells #[.int .i64 t.out.tick, .int .i64 t.out.sz, .bool t.out.ect, .int .i64 t.out.id] 30)) (t := 26) (e := 30) (z := .agg #[.int .i64 0, .int .i64 0, .bool false, .int .i64 0]) (m := 4) (bz := 32) (cells := KC) (xs := t.dl) (ys := [t.out]) (cap := c4) (dap := 1) (n := 1) (a := a4) (b := some ⟨V4.heap.size, 0, none⟩) rfl elemK encK (.tmp 35) (.tmp 38) rfl V3.heap.size rfl ?_ ?_ ?_ ?_ ?_ ?_ ?_ ?_ ?_; exact O4.out.below BAL.out; exact sts_new encK V4 [t.out] 30 (0, 0); (intro e; cases e); rfl; rfl; (simp only [List.length_cons, List.length_nil]; omega); (unfold maxLen; simp only [List.length_cons, List.length_nil]; omega); (have := BAL.out.size; omega); intro a5 c5 V5 O5 b5 g5; have O5h := Lib.hid O5; have B5h := Lib.hid ((B4.out.trans (BAL.out.mono hz4)).trans b5); clear O5 b5 g5)
        | fail)
      go_meet
      exact ⟨a5, c5, by first | rfl | simp, O5h.out, B5h.out⟩
  case rest =>
  obtain ⟨a5, c5', rfl, hO5, hB5⟩ := hcut
  obtain ⟨V5, hVV⟩ : ∃ V, V = wc := ⟨_, rfl⟩
  subst hVV
  have O5 := Lib.hid hO5
  have L5 := Lib.hid (Sts.belowT L3.out hB5)
  have R5 := Lib.hid ((hB5.block _ (blk_lt R3.out)).trans R3.out)
  have X5 := Lib.hid (X3.out.trans (hB5.mono X3.out.size))
  have P5 := Lib.hid ((X5.out.block w.heap.size (by have := N0.out; omega)).trans P0.out)
  have Q5 := Lib.hid (Q0.out.trans (X5.out.mono Q0.out.size))
  clear hO5 hB5 O4 B4 R4 L3 R3 O3 c5 c1 c2 c3 c4' HMB X2 X3 S0
  go_wp2_with fail
  go_loopw [13] (fun iv wr => ∃ i : Nat, i ≤ hs.length ∧ iv = .int .i64 i ∧ Below V5.heap.size V5 wr) (fun iv _ => hs.length - (intOf iv).toNat)
  case atStart => exact ⟨0, by omega, rfl, Below.refl _ _⟩
  case round =>
    obtain ⟨i, hi, rfl, hq⟩ := hrel
    have BR := Lib.hid hq
    clear hq
    by_cases hlt : i < hs.length
    case neg =>
      have h2 : ¬ ((i : Int) < (hs.length : Int)) := by omega
      go_wp2
      go_ret
      exact ⟨rfl, Q5.out.trans (BR.out.mono Q5.out.size)⟩
    case pos =>
      have i1 : (i : Int) < (hs.length : Int) := by omega
      obtain ⟨x, hx⟩ : ∃ x, hs[i]? = some x := ⟨_, List.getElem?_eq_getElem hlt⟩
      have ho := HIT.out i x hx
      obtain ⟨hg5, rfl, _, hgl⟩ := O5.out.isSome (by omega)
      obtain ⟨hh, q0, q1, q2, q3⟩ := pk_at (O5.out.sts encK) hx
      simp only [Nat.zero_add] at q0 q2
      have m0 := (BR.out.cell (p := ⟨hg5, i * 4, none⟩) hgl).trans q0
      have HM2 := Lib.hid ((BR.out.cell (p := ⟨hg5, i * 4 + 2, none⟩) hgl).trans q2)
      have PR := (BR.out.block _ (blk_lt P5.out)).trans P5.out
      have p0 := blk_cell PR 0
      have p2 := blk_cell PR 2
      have RR := (BR.out.block _ (blk_lt R5.out)).trans R5.out
      have r6 := blk_cell RR 6
      have LR := Lib.hid (Sts.belowT L5.out BR.out)
      obtain ⟨z, hz⟩ : ∃ z, now - x.tick = z := ⟨_, rfl⟩
      have ht := ho.tick
      have e1 : IntKind.i64.wrap (now - x.tick) = z := by rw [hz]; exact IntWalk.i64_in _ ⟨by omega, by omega⟩
      have d1 : decide (z < tg) = false := decide_eq_false (by have := ho.tg; omega)
      have hrm := ho.room
      have HO := Lib.hid ho
      have HX := Lib.hid hx
      clear q0 q1 q2 q3 PR RR ho hx ht hz
      go_wp2_with fail
      go_loop [14, 15] (fun rv kv => ∃ k : Nat, i + 1 ≤ k ∧ k ≤ l.length ∧ kv = .int .i64 k ∧ Hid (rv = .int .i64 (sumS (l.take k) - sumS (l.take (i + 1))))) (fun _ kv => l.length - (intOf kv).toNat)
      case atStart => exact ⟨i + 1, by omega, by omega, by go_num, Lib.hid (by rw [Int.sub_self])⟩
      case round =>
        obtain ⟨k, hk1, hk2, rfl, hrv⟩ := hrel
        by_cases hkl : k < l.length
        case pos =>
          have i2 : (k : Int) < (l.length : Int) := by omega
          obtain ⟨p, hp⟩ : ∃ p, l[k]? = some p := ⟨_, List.getElem?_eq_getElem hkl⟩
          obtain ⟨g, o, rfl, _, _⟩ := LR.out.isSomeT (by omega)
          obtain ⟨_, y0, y1, y2, y3⟩ := pk_at LR.out hp
          have hb := sumS_bd (pkv_take HV.out k)
          have hb2 := sumS_bd (pkv_take HV.out (i + 1))
          have hsz := (HV.out p (List.mem_of_getElem? hp)).2
          have hn := sumS_take hp
          have hlen : ((l.take k).length : Int) ≤ 4398046510976 := by rw [List.length_take]; omega
          have hlen2 : ((l.take (i + 1)).length : Int) ≤ 4398046510976 := by rw [List.length_take]; omega
          obtain ⟨S, hS⟩ : ∃ S, sumS (l.take k) - sumS (l.take (i + 1)) = S := ⟨_, rfl⟩
          have h1 := hrv.out
          rw [hS] at h1
          have HN2 : Hid (sumS (l.take (k + 1)) - sumS (l.take (i + 1)) = S + p.sz) := Lib.hid (by omega)
          have hb3 : -288230376151711744 ≤ S ∧ S ≤ 288230376151711744 := by omega
          obtain ⟨b3, b4⟩ := hb3
          obtain ⟨z1, z2⟩ := hsz
          subst h1
          clear hS hn hb hb2 hrv hlen hlen2 hp y0 y2 y3
          go_wp2
          go_round
          case rel => exact ⟨k + 1, by omega, by omega, by go_num, Lib.hid (by rw [HN2.out])⟩
          case measure => simp [intOf]; omega
        case neg =>
          obtain rfl : k = l.length := by omega
          have i2 : ¬ ((l.length : Int) < (l.length : Int)) := by omega
          have h1 := hrv.out
          rw [List.take_length, sumS_drop] at h1
          obtain ⟨R, hR⟩ : ∃ R, sumS (l.drop (i + 1)) = R := ⟨_, rfl⟩
          have hmt := HO.out.mtu
          rw [hR] at h1 hmt
          subst h1
          have d2 : decide (R ≤ mtu) = false := decide_eq_false (by omega)
          clear hrv hR
          obtain ⟨eb, heb⟩ : ∃ b, x.ect = b := ⟨_, rfl⟩
          have m2 : wr.cell? ⟨hg5, i * 4 + 2, none⟩ = some (.bool eb) := HM2.out.trans (congrArg (fun z => some (Value.bool z)) heb)
          have hdp := HO.out.drop
          have hmk := HO.out.mark
          rw [heb] at hdp hmk
          clear heb
          cases eb
          case' false =>
            have h5 := hmk rfl
            have d3 : decide ((i : Int) = (t.dl.length : Int)) = false := decide_eq_false (by omega)
            have d4 : ((i : Int) == (t.dl.length : Int)) = false := by rw [beq_eq_false_iff_ne]; omega
          case' true =>
            have h5 := hdp rfl
            have d3 : decide ((i : Int) < (t.dl.length : Int)) = false := decide_eq_false (by omega)
          all_goals
            clear hdp hmk
            go_upto_region 17 with fail
            go_quiet (fail)
            have B6 := Lib.hid (below_drewN BR.out nq)
            go_wp2_with fail
            go_roundw
            case rel => exact ⟨i + 1, by omega, by go_num, B6.out⟩
            case measure => simp [intOf]; omega

theorem of_len3 {α : Type} (l : List α) (h : l.length = 3) : ∃ x0 x1 x2, l = [x0, x1, x2] := by
  match l, h with
  | [x0, x1, x2], _ => exact ⟨x0, x1, x2, rfl⟩
theorem of_len6 {α : Type} (l : List α) (h : l.length = 6) : ∃ x0 x1 x2 x3 x4 x5, l = [x0, x1, x2, x3, x4, x5] := by
  match l, h with
  | [x0, x1, x2, x3, x4, x5], _ => exact ⟨x0, x1, x2, x3, x4, x5, rfl⟩
theorem own : ownKnob Try.prog.godebug = none := by kernel_rfl
theorem laidOut : laidOutB Try.prog = true := by kernel_rfl

set_option maxRecDepth 100000 in
set_option maxHeartbeats 2000000 in
theorem lifted (os : Os) (started : os.Started) (H : Type) (enc : TypeId × Value → H) :
    ReturnsInHanded {} Try.checked os 4 .any (Rows.codelSparesSpec.pre6 enc Try.prog Try.f4 Rows.codelSparesRow.domain false) (Rows.codelSparesSpec.post enc Try.prog Try.f4 false true false false) := by
  refine returnsInHanded_of_change_sized (C := Try.checked) own started (by kernel_rfl) Try.func4
    (ChangeSpec.witness6 (enc := enc) (C := Try.checked) false ⟨#[], #[.agg #[.int .i64 0, .int .i64 0, .int .i64 0], .agg #[.bool false, .int .i64 0, .bool false, .int .i64 0, .int .i64 0, .int .i64 0], .slice none 0 0, .int .i64 0], []⟩ 8 (by kernel_rfl) (by kernel_rfl) (by kernel_rfl) (by kernel_rfl)) ?_
  intro W base args ds gs before hval0 hW hcnd hsz0 _
  have hval : ∀ (j : Nat) t v, Try.f4.params[j]? = some t → args[j]? = some v → Value.okWide Try.prog W .any base t v := hval0
  have hsz : (DataW.weightsEach Try.prog (Try.f4.params.toList ++ Rows.codelSparesSpec.plain.varTypes Try.prog) (ds ++ gs)).all (· ≤ reachBytes) = true := hsz0
  have hW' := hW
  obtain ⟨p, q, hA0, hV, rfl, hfz, hnd⟩ := hW
  have hA : DataW.TrodAll enc Try.prog W 0 (fun _ => true) true Try.f4.params.toList args.toList ds p := hA0
  rw [Try.params4] at hA hval hsz
  obtain ⟨v0, vs0, d0, ds0, p0, q0, hargs, rfl, rfl, h0, r0⟩ := trodAll_cons hA
  obtain ⟨v1, vs1, d1, ds1, p1, q1, rfl, rfl, rfl, h1, r1⟩ := trodAll_cons r0
  obtain ⟨v2, vs2, d2, ds2, p2, q2, rfl, rfl, rfl, h2, r2⟩ := trodAll_cons r1
  obtain ⟨v3, vs3, d3, ds3, p3, q3, rfl, rfl, rfl, h3, r3⟩ := trodAll_cons r2
  obtain ⟨rfl, rfl, rfl⟩ := trodAll_nil r3
  obtain rfl : args = #[v0, v1, v2, v3] := by cases args; simp_all
  obtain ⟨rfl, rfl⟩ := trodVars_none hV
  have k0 := h0
  have lt0 : ∀ x ∈ p0, x.block < W.heap.size := by obtain ⟨m, hm⟩ := k0; exact DataW.trod_lt m _ _ _ hm
  obtain ⟨vs0', ys0', m0, rfl, lv0, ly0, hd0, F0⟩ := open_agg Try.underlying23 (by kernel_rfl) (by kernel_rfl) (hval 0 23 v0 rfl rfl) h0
  obtain ⟨c0_0, c0_1, c0_2, rfl⟩ := of_len3 _ lv0
  obtain ⟨y0_0, y0_1, y0_2, rfl⟩ := of_len3 _ ly0
  simp only [List.map_cons, List.map_nil] at hd0
  obtain ⟨_, _, e, g, t0_0⟩ := F0 0 _ rfl
  obtain rfl := Option.some.inj e; obtain rfl := Option.some.inj g; clear e g
  obtain ⟨z0_0, e, _, w0_0⟩ := DataW.trod_int Try.underlying3 t0_0
  obtain rfl := (List.cons.inj e).1; clear e
  obtain ⟨lo0_0, hi0_0⟩ := bounds_i64 w0_0
  obtain ⟨_, _, e, g, t0_1⟩ := F0 1 _ rfl
  obtain rfl := Option.some.inj e; obtain rfl := Option.some.inj g; clear e g
  obtain ⟨z0_1, e, _, w0_1⟩ := DataW.trod_int Try.underlying3 t0_1
  obtain rfl := (List.cons.inj e).1; clear e
  obtain ⟨lo0_1, hi0_1⟩ := bounds_i64 w0_1
  obtain ⟨_, _, e, g, t0_2⟩ := F0 2 _ rfl
  obtain rfl := Option.some.inj e; obtain rfl := Option.some.inj g; clear e g
  obtain ⟨z0_2, e, _, w0_2⟩ := DataW.trod_int Try.underlying3 t0_2
  obtain rfl := (List.cons.inj e).1; clear e
  obtain ⟨lo0_2, hi0_2⟩ := bounds_i64 w0_2
  have k1 := h1
  have lt1 : ∀ x ∈ p1, x.block < W.heap.size := by obtain ⟨m, hm⟩ := k1; exact DataW.trod_lt m _ _ _ hm
  obtain ⟨vs1', ys1', m1, rfl, lv1, ly1, hd1, F1⟩ := open_agg Try.underlying25 (by kernel_rfl) (by kernel_rfl) (hval 1 25 v1 rfl rfl) h1
  obtain ⟨c1_0, c1_1, c1_2, c1_3, c1_4, c1_5, rfl⟩ := of_len6 _ lv1
  obtain ⟨y1_0, y1_1, y1_2, y1_3, y1_4, y1_5, rfl⟩ := of_len6 _ ly1
  simp only [List.map_cons, List.map_nil] at hd1
  obtain ⟨_, _, e, g, t1_0⟩ := F1 0 _ rfl
  obtain rfl := Option.some.inj e; obtain rfl := Option.some.inj g; clear e g
  obtain ⟨b1_0, e, _⟩ := DataW.trod_bool Try.underlying4 t1_0
  obtain rfl := (List.cons.inj e).1; clear e
  obtain ⟨_, _, e, g, t1_1⟩ := F1 1 _ rfl
  obtain rfl := Option.some.inj e; obtain rfl := Option.some.inj g; clear e g
  obtain ⟨z1_1, e, _, w1_1⟩ := DataW.trod_int Try.underlying3 t1_1
  obtain rfl := (List.cons.inj e).1; clear e
  obtain ⟨lo1_1, hi1_1⟩ := bounds_i64 w1_1
  obtain ⟨_, _, e, g, t1_2⟩ := F1 2 _ rfl
  obtain rfl := Option.some.inj e; obtain rfl := Option.some.inj g; clear e g
  obtain ⟨b1_2, e, _⟩ := DataW.trod_bool Try.underlying4 t1_2
  obtain rfl := (List.cons.inj e).1; clear e
  obtain ⟨_, _, e, g, t1_3⟩ := F1 3 _ rfl
  obtain rfl := Option.some.inj e; obtain rfl := Option.some.inj g; clear e g
  obtain ⟨z1_3, e, _, w1_3⟩ := DataW.trod_int Try.underlying3 t1_3
  obtain rfl := (List.cons.inj e).1; clear e
  obtain ⟨lo1_3, hi1_3⟩ := bounds_i64 w1_3
  obtain ⟨_, _, e, g, t1_4⟩ := F1 4 _ rfl
  obtain rfl := Option.some.inj e; obtain rfl := Option.some.inj g; clear e g
  obtain ⟨z1_4, e, _, w1_4⟩ := DataW.trod_int Try.underlying3 t1_4
  obtain rfl := (List.cons.inj e).1; clear e
  obtain ⟨lo1_4, hi1_4⟩ := bounds_i64 w1_4
  obtain ⟨_, _, e, g, t1_5⟩ := F1 5 _ rfl
  obtain rfl := Option.some.inj e; obtain rfl := Option.some.inj g; clear e g
  obtain ⟨z1_5, e, _, w1_5⟩ := DataW.trod_int Try.underlying3 t1_5
  obtain rfl := (List.cons.inj e).1; clear e
  obtain ⟨lo1_5, hi1_5⟩ := bounds_i64 w1_5
  obtain ⟨a2, len2, cap2, rfl⟩ := okWide_slice Try.underlying26 (hval 2 26 v2 rfl rfl)
  have k2 := h2
  have lt2 : ∀ x ∈ p2, x.block < W.heap.size := by obtain ⟨m, hm⟩ := k2; exact DataW.trod_lt m _ _ _ hm
  obtain ⟨a3, rfl, rfl, rfl, w3⟩ := open_int Try.underlying3 (hval 3 3 v3 rfl rfl) h3
  obtain ⟨xs2, hxl2, hbt2, hcap2, hlc2, hre2⟩ : ∃ xs : List Pkt, xs.length = len2 ∧ Sts 4 Pkt.cells Pkt.ok W a2 xs ∧ (a2 = none → cap2 = 0) ∧ (xs.length ≤ cap2 ∧ cap2 ≤ maxLen) ∧ xs.length ≤ 4398046510976 := by
    obtain ⟨fuel, hf⟩ := h2
    obtain ⟨x, rs, c, hv, hs, hnc, hlc, hq⟩ := open_Pkts (c := .slice a2 len2 cap2) hf
    simp only [Value.slice.injEq] at hv
    obtain ⟨rfl, rfl, rfl⟩ := hv
    have hw := sts_reach Try.underlying26 hq (fun n hn => by simpa using List.all_eq_true.1 hsz _ (DataW.weights_mem_each (j := 2) (t := 26) rfl rfl n hn))
    rw [show Try.prog.bytesOf 30 = 32 from by kernel_rfl] at hw
    simp only [reachBytes] at hw
    exact ⟨rs, rfl, hs, hnc, hlc, by omega⟩
  clear hA0 hval0 hsz hsz0
  subst hxl2
  obtain ⟨lo3, hi3⟩ := bounds_i64 w3
  refine (walk z0_0 z0_1 z0_2 b1_0 z1_1 b1_2 z1_3 z1_4 z1_5 a2 xs2 cap2 a3 W lo0_0 hi0_0 lo0_1 hi0_1 lo0_2 hi0_2 lo1_1 hi1_1 lo1_3 hi1_3 lo1_4 hi1_4 lo1_5 hi1_5 hbt2 hcap2 hlc2 hre2 lo3 hi3).mono fun e W' ⟨he, bel⟩ => ?_
  subst he
  exact ⟨_, rfl, _, _, _, [], _, [], hW', trodAll_mk1 (shut_bool Try.underlying4 _), (trodAll_cons_mk (Below.trod laidOut (by kernel_rfl) (of_decide_eq_true (by kernel_rfl)) k0 bel lt0) (trodAll_cons_mk (Below.trod laidOut (by kernel_rfl) (of_decide_eq_true (by kernel_rfl)) k1 bel lt1) (trodAll_cons_mk (Below.trod laidOut (by kernel_rfl) (of_decide_eq_true (by kernel_rfl)) k2 bel lt2) (trodAll_cons_mk (shut_int Try.underlying3 w3) trodAll_mk0)))), rfl, bel.frame _, fun h => by cases h⟩

theorem over : Rows.codelSparesRow.holds Try.pinned (OpenSpec.ofChange Rows.codelSparesSpec) :=
  OpenClaim.holds_of_wide 4 Try.f4 rfl rfl rfl rfl rfl rfl rfl ⟨rfl, rfl, rfl, rfl, rfl⟩ rfl rfl rfl rfl rfl (by kernel_rfl) Try.func4 (by kernel_rfl)
    (of_decide_eq_true (by kernel_rfl)) (by unfold Func.isWrapper; first | (rw [if_pos (by decide +kernel)]; kernel_rfl) | (rw [if_neg (by decide +kernel)]; exact ⟨rfl, rfl⟩))
    (fun os started H enc _ => lifted os started H enc)

end Go.Proofs.Yteflbfmkbkhimaa.codelSpares
namespace Go.Proofs.Yteflbfmkbkhimaa
/-- The statement. -/
theorem codelSpares_holds : Rows.CodelSparesSaid := codelSpares.over
#print axioms codelSpares_holds
end Go.Proofs.Yteflbfmkbkhimaa
