/- For every settings, state, queue and tick: what is answered does not change where the queue that was handed in is written over. No condition. -/
import Derived.Test.YteflbfmkbkhimaaRows
import Derived.Test.YteflbfmkbkhimaaCkE
import Derived.Test.YteflbfmkbkhimaaGAgg
import Derived.Deep.DeepCutAuto
import Derived.RegionTactic
import Derived.Deep.RegionHeld3
import Derived.BigQuiet
import Derived.ProofKit
import Derived.OpenShut
import Derived.ChangeOld
import Derived.SizedLaws
namespace Go.Proofs.Yteflbfmkbkhimaa.codelOwn
open Go.ChangeShapes Go.WideShapes Go.ChangeAt Go.RowKit Go.Deep Go.Proofs.Yteflbfmkbkhimaa Go.Proofs.Yteflbfmkbkhimaa.Cd

theorem rowK : Row 30 4 := ⟨⟨_, Try.underlying30, rfl⟩, by kernel_rfl⟩
set_option maxRecDepth 100000 in
set_option maxHeartbeats 2000000 in
theorem walk (tg iv mtu : Int) (sa : Bool) (sb : Int) (sd : Bool) (sn sc sl : Int) (a : Option Addr) (l : List Pkt) (cap : Nat) (now : Int) (w : World) (_tg_l : -9223372036854775808 ≤ tg) (_tg_h : tg ≤ 9223372036854775807) (_iv_l : -9223372036854775808 ≤ iv) (_iv_h : iv ≤ 9223372036854775807) (_mtu_l : -9223372036854775808 ≤ mtu) (_mtu_h : mtu ≤ 9223372036854775807) (_sb_l : -9223372036854775808 ≤ sb) (_sb_h : sb ≤ 9223372036854775807) (_sn_l : -9223372036854775808 ≤ sn) (_sn_h : sn ≤ 9223372036854775807) (_sc_l : -9223372036854775808 ≤ sc) (_sc_h : sc ≤ 9223372036854775807) (_sl_l : -9223372036854775808 ≤ sl) (_sl_h : sl ≤ 9223372036854775807) (hx : Sts 4 Pkt.cells Pkt.ok w a l) (hnc : a = none → cap = 0) (hcap : l.length ≤ cap ∧ cap ≤ maxLen) (hl : l.length ≤ 4398046510976) (_now_l : -9223372036854775808 ≤ now) (_now_h : now ≤ 9223372036854775807) :
    Calls Try.prog 5 #[.agg #[.int .i64 tg, .int .i64 iv, .int .i64 mtu], .agg #[.bool sa, .int .i64 sb, .bool sd, .int .i64 sn, .int .i64 sc, .int .i64 sl], .slice a l.length cap, .int .i64 now] w fun e w' => e = .returned (.bool true) ∧ Below w.heap.size w w' := by
  have HL := Lib.hid (Sts.weak hx)
  have HN := Lib.hid hnc
  have HCP := Lib.hid hcap
  clear hx hnc hcap _tg_l _tg_h _iv_l _iv_h _mtu_l _mtu_h _sb_l _sb_h _sn_l _sn_h _sc_l _sc_h _sl_l _sl_h _now_l _now_h
  go_enter Try.func5, Try.ntmps5
  go_upto_region 1 with fail
  obtain ⟨x1, x2, x3, x4⟩ := two w (.cells #[.int .i64 tg, .int .i64 iv, .int .i64 mtu] 23) (.cells #[.bool sa, .int .i64 sb, .bool sd, .int .i64 sn, .int .i64 sc, .int .i64 sl] 25)
  have P0 := Lib.hid x1
  have S0 := Lib.hid x2
  have N0 := Lib.hid x3
  have Q0 := Lib.hid x4
  clear x1 x2 x3 x4
  generalize (w.alloc (.cells #[.int .i64 tg, .int .i64 iv, .int .i64 mtu] 23)).alloc (.cells #[.bool sa, .int .i64 sb, .bool sd, .int .i64 sn, .int .i64 sc, .int .i64 sl] 25) = V0 at P0 S0 N0 Q0 ⊢
  go_wp2_with fail
  refine (alive_any _).mono ?_
  rintro e V1 ⟨rfl, hB1⟩
  have X1 := Lib.hid hB1
  clear hB1
  have HL1 := Lib.hid (Sts.belowT HL.out (Q0.out.trans (X1.out.mono Q0.out.size)))
  go_wp2_with fail
  refine (copyPk_any a l cap V1 HL1.out HN.out (by omega)).mono ?_
  rintro e V2 ⟨⟨ao, co, rfl, hOw⟩, hB2⟩
  have W2 := Lib.hid hOw
  have X2 := Lib.hid (X1.out.trans (hB2.mono X1.out.size))
  have hz2 : w.heap.size + 1 + 1 ≤ V1.heap.size := by have := X1.out.size; have := N0.out; omega
  have hz3 := hB2.size
  have L2 := Lib.hid (hOw.sts encK)
  have C2 := Lib.hid hOw.capLe
  have LTB := Lib.hid hOw.ltB
  have PB := Lib.hid ((X2.out.block w.heap.size (by have := N0.out; omega)).trans P0.out)
  have SB := (X2.out.block (w.heap.size + 1) (by have := N0.out; omega)).trans S0.out
  clear hOw hB2 HL1 X1
  have p0 := blk_cell PB.out 0
  have p1 := blk_cell PB.out 1
  have p2 := blk_cell PB.out 2
  have s0 := blk_cell SB 0
  have s1 := blk_cell SB 1
  have s2 := blk_cell SB 2
  have s3 := blk_cell SB 3
  have s4 := blk_cell SB 4
  have s5 := blk_cell SB 5
  clear SB
  go_upto_region 4 with fail
  go_cut [11] (fun (rv : Value) (wx : World) => ∃ (g : Nat) (hb : Bool) (o1 o2 : Int) (o3 : Bool) (o4 : Int) (mb : Bool) (da : Option Addr) (dl : List Pkt) (dc : Nat) (lf : Int), rv = .pointer (some ⟨g, 0, none⟩) ∧ wx.heap[g]? = some (.cells #[.bool hb, .int .i64 o1, .int .i64 o2, .bool o3, .int .i64 o4, .bool mb, .slice da dl.length dc, .int .i64 lf] 32 (0, 0)) ∧ V2.heap.size ≤ g ∧ OwnR 30 4 KC V2.heap.size da dl dc wx ∧ dl.length ≤ l.length ∧ Below V2.heap.size V2 wx)
  case first =>
    go_wp2_with fail
    refine (dequeue_any tg iv mtu sa sb sd sn sc sl ao l co now V2 L2.out C2.out (by omega)).mono ?_
    rintro e V3 ⟨hD, hB3⟩
    have B3 := Lib.hid hB3
    rcases hD with ⟨E, hne, rfl⟩ | ⟨t, hK, _, _, hO, rfl⟩
    case inl =>
      obtain ⟨x1, x2, x3, x4⟩ := two V3 (.cells #[.bool false, .int .i64 0, .bool false, .int .i64 0, .int .i64 0, .int .i64 0] 28) (.cells #[.bool false, .int .i64 0, .int .i64 0, .bool false, .int .i64 0, .bool false, .slice none 0 0, .int .i64 0] 32)
      have R3 := Lib.hid x2
      have B4 := Lib.hid (B3.out.trans (x4.mono B3.out.size))
      clear x1 x2 x3 x4 hB3
      go_wp2_with fail
      go_meet
      exact ⟨_, false, 0, 0, false, 0, false, none, [], 0, 0, rfl, R3.out, by have := B3.out.size; omega, ownR_nil _ _ _ _ _, by simp, B4.out⟩
    case inr =>
      obtain ⟨x1, x2, x3, x4⟩ := two V3 (.cells #[.bool t.above, .int .i64 t.aboveAt, .bool t.dropping, .int .i64 t.nx, .int .i64 t.cn, .int .i64 t.la] 28) (.cells #[.bool t.has, .int .i64 t.out.tick, .int .i64 t.out.sz, .bool t.out.ect, .int .i64 t.out.id, .bool t.marked, .slice t.da t.dl.length t.dc, .int .i64 t.ql.length] 32)
      have R3 := Lib.hid x2
      have O4 := Lib.hid (hO.below x4)
      have B4 := Lib.hid (B3.out.trans (x4.mono B3.out.size))
      have hdl := hK.len
      clear x1 x2 x3 x4 hB3 hO hK
      go_wp2_with fail
      go_meet
      exact ⟨_, t.has, t.out.tick, t.out.sz, t.out.ect, t.out.id, t.marked, t.da, t.dl, t.dc, t.ql.length, rfl, R3.out, by have := B3.out.size; omega, O4.out, by omega, B4.out⟩
  case rest =>
  obtain ⟨g, hb, o1, o2, o3, o4, mb, da, dl, dc, lf, rfl, hR, hg, hO, hdl, hB⟩ := hcut
  obtain ⟨V3, hVV⟩ : ∃ V, V = wc := ⟨_, rfl⟩
  subst hVV
  have R3 := Lib.hid hR
  have O3 := Lib.hid hO
  have W3 := Lib.hid (W2.out.below hB)
  have X3 := Lib.hid (X2.out.trans (hB.mono X2.out.size))
  have hz4 := hB.size
  have hg3 := blk_lt hR
  clear hR hO hB p0 p1 p2 s0 s1 s2 s3 s4 s5 W2 X2 L2
  have c6 := blk_cell R3.out 6
  go_wp2_with fail
  refine (copyPk_any da dl dc V3 (O3.out.sts encK) O3.out.nilcap (by omega)).mono ?_
  rintro e V4 ⟨⟨a4, c4, rfl, hO4⟩, hB4⟩
  have O4 := Lib.hid hO4
  have R4 := Lib.hid ((hB4.block _ (blk_lt R3.out)).trans R3.out)
  have D4 := Lib.hid (O3.out.below hB4)
  have W4 := Lib.hid (W3.out.below hB4)
  have X4 := Lib.hid (X3.out.trans (hB4.mono X3.out.size))
  have hz5 := hB4.size
  clear c6 hO4 hB4 R3 O3 W3 X3
  have HW : Hid (ao = none ∧ l = [] ∨ ∃ (ob : Nat) (cur : Array Value), ao = some ⟨ob, 0, none⟩ ∧ V1.heap.size ≤ ob ∧ ob < V2.heap.size ∧ V4.heap[ob]? = some (.cells cur 30 (0, 0)) ∧ l.length * 4 ≤ cur.size) := Lib.hid (by
    rcases W4.out with ⟨h1, h2, _⟩ | ⟨ob, h1, h2, h3⟩
    · exact .inl ⟨h1, h2⟩
    · rcases h3.2 with ⟨h0, _⟩ | ⟨g', cap', cur, e', h4, h5, h6, h7, h8, h9⟩
      · cases h0
      · cases e'
        refine .inr ⟨ob, cur, h1, h2, ?_, h5, ?_⟩
        · have := LTB.out ob h1; exact this
        · have := Nat.mul_le_mul_right 4 h6; omega)
  go_wp2_with fail
  go_loopw [14] (fun iv wr => ∃ i : Nat, i ≤ l.length ∧ iv = .int .i64 i ∧ OwnR 30 4 KC V2.heap.size da dl dc wr ∧ OwnR 30 4 KC V3.heap.size a4 dl c4 wr ∧ wr.heap[g]? = some (.cells #[.bool hb, .int .i64 o1, .int .i64 o2, .bool o3, .int .i64 o4, .bool mb, .slice da dl.length dc, .int .i64 lf] 32 (0, 0)) ∧ (l = [] ∨ ∃ (ob : Nat) (cur : Array Value), ao = some ⟨ob, 0, none⟩ ∧ V1.heap.size ≤ ob ∧ ob < V2.heap.size ∧ wr.heap[ob]? = some (.cells cur 30 (0, 0)) ∧ l.length * 4 ≤ cur.size) ∧ Below w.heap.size w wr) (fun iv _ => l.length - (intOf iv).toNat)
  case atStart => exact ⟨0, by omega, rfl, D4.out, O4.out, R4.out, by rcases HW.out with ⟨_, h⟩ | h; exact .inl h; exact .inr h, Q0.out.trans (X4.out.mono Q0.out.size)⟩
  case round =>
    obtain ⟨i, hi, rfl, hD, hO, hR, hW, hq⟩ := hrel
    have DR := Lib.hid hD
    have OR := Lib.hid hO
    have RR := Lib.hid hR
    have WR := Lib.hid hW
    have QR := Lib.hid hq
    have hgr := blk_lt hR
    clear hD hO hR hW hq D4 O4 R4 W4 X4 HW
    by_cases hlt : i < l.length
    case neg =>
      have h2 : ¬ ((i : Int) < (l.length : Int)) := by omega
      have c6 := blk_cell RR.out 6
      go_wp2_with fail
      refine (samePk_one da a4 dl dc c4 wr (DR.out.sts encK) (OR.out.sts encK) (by omega)).mono ?_
      rintro e V7 ⟨rfl, hB7⟩
      have Q7 := Lib.hid (QR.out.trans (hB7.mono QR.out.size))
      clear hB7 c6
      go_wp2
      go_ret
      exact ⟨rfl, Q7.out⟩
    case pos =>
      have i1 : (i : Int) < (l.length : Int) := by omega
      obtain ⟨ob, cur, rfl, ho1, ho2, hcur, hcs⟩ : ∃ (ob : Nat) (cur : Array Value), ao = some ⟨ob, 0, none⟩ ∧ V1.heap.size ≤ ob ∧ ob < V2.heap.size ∧ wr.heap[ob]? = some (.cells cur 30 (0, 0)) ∧ l.length * 4 ≤ cur.size := by
        rcases WR.out with h | h
        · subst h; simp at hlt
        · exact h
      have CU := Lib.hid hcur
      have hi4 : i * 4 + 4 ≤ cur.size := by omega
      clear hcur
      obtain ⟨y0, hy0⟩ : ∃ v, cur[i * 4]? = some v := ⟨_, Array.getElem?_eq_getElem (show i * 4 < cur.size by omega)⟩
      obtain ⟨y1, hy1⟩ : ∃ v, cur[i * 4 + 1]? = some v := ⟨_, Array.getElem?_eq_getElem (show i * 4 + 1 < cur.size by omega)⟩
      obtain ⟨y2, hy2⟩ : ∃ v, cur[i * 4 + 2]? = some v := ⟨_, Array.getElem?_eq_getElem (show i * 4 + 2 < cur.size by omega)⟩
      obtain ⟨y3, hy3⟩ : ∃ v, cur[i * 4 + 3]? = some v := ⟨_, Array.getElem?_eq_getElem (show i * 4 + 3 < cur.size by omega)⟩
      have k0 := (blk_cell CU.out (i * 4)).trans hy0
      have k1 := (blk_cell CU.out (i * 4 + 1)).trans hy1
      have k2 := (blk_cell CU.out (i * 4 + 2)).trans hy2
      have k3 := (blk_cell CU.out (i * 4 + 3)).trans hy3
      have f0 := blk_free CU.out (i * 4)
      have f1 := blk_free CU.out (i * 4 + 1)
      have f2 := blk_free CU.out (i * 4 + 2)
      have f3 := blk_free CU.out (i * 4 + 3)
      have CU2 := Lib.hid (blk_set (blk_set (blk_set (blk_set CU.out (i * 4) (.int .i64 0)) (i * 4 + 1) (.int .i64 0)) (i * 4 + 2) (.bool false)) (i * 4 + 3) (.int .i64 (-1)))
      have HG2 := Lib.hid (gr_trans (gr_trans (gr_trans (gr_set wr ob (i * 4) (.int .i64 0)) (gr_set _ ob (i * 4 + 1) (.int .i64 0))) (gr_set _ ob (i * 4 + 2) (.bool false))) (gr_set _ ob (i * 4 + 3) (.int .i64 (-1))))
      clear hy0 hy1 hy2 hy3
      go_wp2_with fail
      go_roundw
      case rel =>
        have hne : ∀ k, V2.heap.size ≤ k → some k ≠ some ob := fun k hk e => by have := Option.some.inj e; omega
        exact ⟨i + 1, by omega, by go_num, DR.out.grown HG2.out (fun k e => hne k ((DR.out.ownB k (by rw [e]; rfl)).1)), OR.out.grown HG2.out (fun k e => hne k (Nat.le_trans hz4 ((OR.out.ownB k (by rw [e]; rfl)).1))), (HG2.out.block g hgr (hne g hg)).trans RR.out, .inr ⟨ob, _, rfl, ho1, ho2, CU2.out, by simp; exact hcs⟩, QR.out.grown HG2.out (by have := QR.out.size; omega) (fun k e => by have := Option.some.inj e; have := N0.out; omega)⟩
      case measure => simp [intOf]; omega

theorem of_len3 {α : Type} (l : List α) (h : l.length = 3) : ∃ x0 x1 x2, l = [x0, x1, x2] := by
  match l, h with
  | [x0, x1, x2], _ => exact ⟨x0, x1, x2, rfl⟩
theorem of_len6 {α : Type} (l : List α) (h : l.length = 6) : ∃ x0 x1 x2 x3 x4 x5, l = [x0, x1, x2, x3, x4, x5] := by
  match l, h with
  | [x0, x1, x2, x3, x4, x5], _ => exact ⟨x0, x1, x2, x3, x4, x5, rfl⟩
theorem own : ownKnob Try.prog.godebug = none := by kernel_rfl
theorem laidOut : laidOutB Try.prog = true := by kernel_rfl

set_option maxRecDepth 100000 in
set_option maxHeartbeats 2000000 in
theorem lifted (os : Os) (started : os.Started) (H : Type) (enc : TypeId × Value → H) :
    ReturnsInHanded {} Try.checked os 5 .any (Rows.codelOwnSpec.pre6 enc Try.prog Try.f5 Rows.codelOwnRow.domain false) (Rows.codelOwnSpec.post enc Try.prog Try.f5 false true false false) := by
  refine returnsInHanded_of_change_sized (C := Try.checked) own started (by kernel_rfl) Try.func5
    (ChangeSpec.witness6 (enc := enc) (C := Try.checked) false ⟨#[], #[.agg #[.int .i64 0, .int .i64 0, .int .i64 0], .agg #[.bool false, .int .i64 0, .bool false, .int .i64 0, .int .i64 0, .int .i64 0], .slice none 0 0, .int .i64 0], []⟩ 8 (by kernel_rfl) (by kernel_rfl) (by kernel_rfl) (by kernel_rfl)) ?_
  intro W base args ds gs before hval0 hW hcnd hsz0 _
  have hval : ∀ (j : Nat) t v, Try.f5.params[j]? = some t → args[j]? = some v → Value.okWide Try.prog W .any base t v := hval0
  have hsz : (DataW.weightsEach Try.prog (Try.f5.params.toList ++ Rows.codelOwnSpec.plain.varTypes Try.prog) (ds ++ gs)).all (· ≤ reachBytes) = true := hsz0
  have hW' := hW
  obtain ⟨p, q, hA0, hV, rfl, hfz, hnd⟩ := hW
  have hA : DataW.TrodAll enc Try.prog W 0 (fun _ => true) true Try.f5.params.toList args.toList ds p := hA0
  rw [Try.params5] at hA hval hsz
  obtain ⟨v0, vs0, d0, ds0, p0, q0, hargs, rfl, rfl, h0, r0⟩ := trodAll_cons hA
  obtain ⟨v1, vs1, d1, ds1, p1, q1, rfl, rfl, rfl, h1, r1⟩ := trodAll_cons r0
  obtain ⟨v2, vs2, d2, ds2, p2, q2, rfl, rfl, rfl, h2, r2⟩ := trodAll_cons r1
  obtain ⟨v3, vs3, d3, ds3, p3, q3, rfl, rfl, rfl, h3, r3⟩ := trodAll_cons r2
  obtain ⟨rfl, rfl, rfl⟩ := trodAll_nil r3
  obtain rfl : args = #[v0, v1, v2, v3] := by cases args; simp_all
  obtain ⟨rfl, rfl⟩ := trodVars_none hV
  have k0 := h0
  have lt0 : ∀ x ∈ p0, x.block < W.heap.size := by obtain ⟨m, hm⟩ := k0; exact DataW.trod_lt m _ _ _ hm
  obtain ⟨vs0', ys0', m0, rfl, lv0, ly0, hd0, F0⟩ := open_agg Try.underlying23 (by kernel_rfl) (by kernel_rfl) (hval 0 23 v0 rfl rfl) h0
  obtain ⟨c0_0, c0_1, c0_2, rfl⟩ := of_len3 _ lv0
  obtain ⟨y0_0, y0_1, y0_2, rfl⟩ := of_len3 _ ly0
  simp only [List.map_cons, List.map_nil] at hd0
  obtain ⟨_, _, e, g, t0_0⟩ := F0 0 _ rfl
  obtain rfl := Option.some.inj e; obtain rfl := Option.some.inj g; clear e g
  obtain ⟨z0_0, e, _, w0_0⟩ := DataW.trod_int Try.underlying3 t0_0
  obtain rfl := (List.cons.inj e).1; clear e
  obtain ⟨lo0_0, hi0_0⟩ := bounds_i64 w0_0
  obtain ⟨_, _, e, g, t0_1⟩ := F0 1 _ rfl
  obtain rfl := Option.some.inj e; obtain rfl := Option.some.inj g; clear e g
  obtain ⟨z0_1, e, _, w0_1⟩ := DataW.trod_int Try.underlying3 t0_1
  obtain rfl := (List.cons.inj e).1; clear e
  obtain ⟨lo0_1, hi0_1⟩ := bounds_i64 w0_1
  obtain ⟨_, _, e, g, t0_2⟩ := F0 2 _ rfl
  obtain rfl := Option.some.inj e; obtain rfl := Option.some.inj g; clear e g
  obtain ⟨z0_2, e, _, w0_2⟩ := DataW.trod_int Try.underlying3 t0_2
  obtain rfl := (List.cons.inj e).1; clear e
  obtain ⟨lo0_2, hi0_2⟩ := bounds_i64 w0_2
  have k1 := h1
  have lt1 : ∀ x ∈ p1, x.block < W.heap.size := by obtain ⟨m, hm⟩ := k1; exact DataW.trod_lt m _ _ _ hm
  obtain ⟨vs1', ys1', m1, rfl, lv1, ly1, hd1, F1⟩ := open_agg Try.underlying25 (by kernel_rfl) (by kernel_rfl) (hval 1 25 v1 rfl rfl) h1
  obtain ⟨c1_0, c1_1, c1_2, c1_3, c1_4, c1_5, rfl⟩ := of_len6 _ lv1
  obtain ⟨y1_0, y1_1, y1_2, y1_3, y1_4, y1_5, rfl⟩ := of_len6 _ ly1
  simp only [List.map_cons, List.map_nil] at hd1
  obtain ⟨_, _, e, g, t1_0⟩ := F1 0 _ rfl
  obtain rfl := Option.some.inj e; obtain rfl := Option.some.inj g; clear e g
  obtain ⟨b1_0, e, _⟩ := DataW.trod_bool Try.underlying4 t1_0
  obtain rfl := (List.cons.inj e).1; clear e
  obtain ⟨_, _, e, g, t1_1⟩ := F1 1 _ rfl
  obtain rfl := Option.some.inj e; obtain rfl := Option.some.inj g; clear e g
  obtain ⟨z1_1, e, _, w1_1⟩ := DataW.trod_int Try.underlying3 t1_1
  obtain rfl := (List.cons.inj e).1; clear e
  obtain ⟨lo1_1, hi1_1⟩ := bounds_i64 w1_1
  obtain ⟨_, _, e, g, t1_2⟩ := F1 2 _ rfl
  obtain rfl := Option.some.inj e; obtain rfl := Option.some.inj g; clear e g
  obtain ⟨b1_2, e, _⟩ := DataW.trod_bool Try.underlying4 t1_2
  obtain rfl := (List.cons.inj e).1; clear e
  obtain ⟨_, _, e, g, t1_3⟩ := F1 3 _ rfl
  obtain rfl := Option.some.inj e; obtain rfl := Option.some.inj g; clear e g
  obtain ⟨z1_3, e, _, w1_3⟩ := DataW.trod_int Try.underlying3 t1_3
  obtain rfl := (List.cons.inj e).1; clear e
  obtain ⟨lo1_3, hi1_3⟩ := bounds_i64 w1_3
  obtain ⟨_, _, e, g, t1_4⟩ := F1 4 _ rfl
  obtain rfl := Option.some.inj e; obtain rfl := Option.some.inj g; clear e g
  obtain ⟨z1_4, e, _, w1_4⟩ := DataW.trod_int Try.underlying3 t1_4
  obtain rfl := (List.cons.inj e).1; clear e
  obtain ⟨lo1_4, hi1_4⟩ := bounds_i64 w1_4
  obtain ⟨_, _, e, g, t1_5⟩ := F1 5 _ rfl
  obtain rfl := Option.some.inj e; obtain rfl := Option.some.inj g; clear e g
  obtain ⟨z1_5, e, _, w1_5⟩ := DataW.trod_int Try.underlying3 t1_5
  obtain rfl := (List.cons.inj e).1; clear e
  obtain ⟨lo1_5, hi1_5⟩ := bounds_i64 w1_5
  obtain ⟨a2, len2, cap2, rfl⟩ := okWide_slice Try.underlying26 (hval 2 26 v2 rfl rfl)
  have k2 := h2
  have lt2 : ∀ x ∈ p2, x.block < W.heap.size := by obtain ⟨m, hm⟩ := k2; exact DataW.trod_lt m _ _ _ hm
  obtain ⟨a3, rfl, rfl, rfl, w3⟩ := open_int Try.underlying3 (hval 3 3 v3 rfl rfl) h3
  obtain ⟨xs2, hxl2, hbt2, hcap2, hlc2, hre2⟩ : ∃ xs : List Pkt, xs.length = len2 ∧ Sts 4 Pkt.cells Pkt.ok W a2 xs ∧ (a2 = none → cap2 = 0) ∧ (xs.length ≤ cap2 ∧ cap2 ≤ maxLen) ∧ xs.length ≤ 4398046510976 := by
    obtain ⟨fuel, hf⟩ := h2
    obtain ⟨x, rs, c, hv, hs, hnc, hlc, hq⟩ := open_Pkts (c := .slice a2 len2 cap2) hf
    simp only [Value.slice.injEq] at hv
    obtain ⟨rfl, rfl, rfl⟩ := hv
    have hw := sts_reach Try.underlying26 hq (fun n hn => by simpa using List.all_eq_true.1 hsz _ (DataW.weights_mem_each (j := 2) (t := 26) rfl rfl n hn))
    rw [show Try.prog.bytesOf 30 = 32 from by kernel_rfl] at hw
    simp only [reachBytes] at hw
    exact ⟨rs, rfl, hs, hnc, hlc, by omega⟩
  clear hA0 hval0 hsz hsz0
  subst hxl2
  obtain ⟨lo3, hi3⟩ := bounds_i64 w3
  refine (walk z0_0 z0_1 z0_2 b1_0 z1_1 b1_2 z1_3 z1_4 z1_5 a2 xs2 cap2 a3 W lo0_0 hi0_0 lo0_1 hi0_1 lo0_2 hi0_2 lo1_1 hi1_1 lo1_3 hi1_3 lo1_4 hi1_4 lo1_5 hi1_5 hbt2 hcap2 hlc2 hre2 lo3 hi3).mono fun e W' ⟨he, bel⟩ => ?_
  subst he
  exact ⟨_, rfl, _, _, _, [], _, [], hW', trodAll_mk1 (shut_bool Try.underlying4 _), (trodAll_cons_mk (Below.trod laidOut (by kernel_rfl) (of_decide_eq_true (by kernel_rfl)) k0 bel lt0) (trodAll_cons_mk (Below.trod laidOut (by kernel_rfl) (of_decide_eq_true (by kernel_rfl)) k1 bel lt1) (trodAll_cons_mk (Below.trod laidOut (by kernel_rfl) (of_decide_eq_true (by kernel_rfl)) k2 bel lt2) (trodAll_cons_mk (shut_int Try.underlying3 w3) trodAll_mk0)))), rfl, bel.frame _, fun h => by cases h⟩

theorem over : Rows.codelOwnRow.holds Try.pinned (OpenSpec.ofChange Rows.codelOwnSpec) :=
  OpenClaim.holds_of_wide 5 Try.f5 rfl rfl rfl rfl rfl rfl rfl ⟨rfl, rfl, rfl, rfl, rfl⟩ rfl rfl rfl rfl rfl (by kernel_rfl) Try.func5 (by kernel_rfl)
    (of_decide_eq_true (by kernel_rfl)) (by unfold Func.isWrapper; first | (rw [if_pos (by decide +kernel)]; kernel_rfl) | (rw [if_neg (by decide +kernel)]; exact ⟨rfl, rfl⟩))
    (fun os started H enc _ => lifted os started H enc)

end Go.Proofs.Yteflbfmkbkhimaa.codelOwn
namespace Go.Proofs.Yteflbfmkbkhimaa
/-- The statement. -/
theorem codelOwn_holds : Rows.CodelOwnSaid := codelOwn.over
#print axioms codelOwn_holds
end Go.Proofs.Yteflbfmkbkhimaa
