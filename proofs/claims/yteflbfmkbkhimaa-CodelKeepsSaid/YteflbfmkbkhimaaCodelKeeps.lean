/- For every settings, state, queue and tick: the packets come in order: first those that are dropped, then the one that goes out, then what is left; none is lost otherwise, none made. No condition. -/
import Derived.Test.YteflbfmkbkhimaaRows
import Derived.Test.YteflbfmkbkhimaaCkE
import Derived.Test.YteflbfmkbkhimaaGAgg
import Derived.Deep.DeepCutAuto
import Derived.RegionTactic
import Derived.Deep.RegionHeld3
import Derived.BigQuiet
import Derived.ProofKit
import Derived.OpenShut
import Derived.ChangeOld
import Derived.SizedLaws
namespace Go.Proofs.Yteflbfmkbkhimaa.codelKeeps
open Go.ChangeShapes Go.WideShapes Go.ChangeAt Go.RowKit Go.Deep Go.Proofs.Yteflbfmkbkhimaa Go.Proofs.Yteflbfmkbkhimaa.Cd

set_option maxRecDepth 100000 in
set_option maxHeartbeats 2000000 in
theorem walk (tg iv mtu : Int) (sa : Bool) (sb : Int) (sd : Bool) (sn sc sl : Int) (a : Option Addr) (l : List Pkt) (cap : Nat) (now : Int) (w : World) (_tg_l : -9223372036854775808 ≤ tg) (_tg_h : tg ≤ 9223372036854775807) (_iv_l : -9223372036854775808 ≤ iv) (_iv_h : iv ≤ 9223372036854775807) (_mtu_l : -9223372036854775808 ≤ mtu) (_mtu_h : mtu ≤ 9223372036854775807) (_sb_l : -9223372036854775808 ≤ sb) (_sb_h : sb ≤ 9223372036854775807) (_sn_l : -9223372036854775808 ≤ sn) (_sn_h : sn ≤ 9223372036854775807) (_sc_l : -9223372036854775808 ≤ sc) (_sc_h : sc ≤ 9223372036854775807) (_sl_l : -9223372036854775808 ≤ sl) (_sl_h : sl ≤ 9223372036854775807) (hx : Sts 4 Pkt.cells Pkt.ok w a l) (hnc : a = none → cap = 0) (hcap : l.length ≤ cap ∧ cap ≤ maxLen) (hl : l.length ≤ 4398046510976) (_now_l : -9223372036854775808 ≤ now) (_now_h : now ≤ 9223372036854775807) :
    Calls Try.prog 3 #[.agg #[.int .i64 tg, .int .i64 iv, .int .i64 mtu], .agg #[.bool sa, .int .i64 sb, .bool sd, .int .i64 sn, .int .i64 sc, .int .i64 sl], .slice a l.length cap, .int .i64 now] w fun e w' => e = .returned (.bool true) ∧ Below w.heap.size w w' := by
  have HL := Lib.hid (Sts.weak hx)
  have HN := Lib.hid hnc
  have HCP := Lib.hid hcap
  clear hx hnc hcap _tg_l _tg_h _iv_l _iv_h _mtu_l _mtu_h _sb_l _sb_h _sn_l _sn_h _sc_l _sc_h _sl_l _sl_h _now_l _now_h
  go_enter Try.func3, Try.ntmps3
  go_upto_region 1 with fail
  obtain ⟨x1, x2, x3, x4⟩ := two w (.cells #[.int .i64 tg, .int .i64 iv, .int .i64 mtu] 23) (.cells #[.bool sa, .int .i64 sb, .bool sd, .int .i64 sn, .int .i64 sc, .int .i64 sl] 25)
  have P0 := Lib.hid x1
  have S0 := Lib.hid x2
  have N0 := Lib.hid x3
  have Q0 := Lib.hid x4
  clear x1 x2 x3 x4
  generalize (w.alloc (.cells #[.int .i64 tg, .int .i64 iv, .int .i64 mtu] 23)).alloc (.cells #[.bool sa, .int .i64 sb, .bool sd, .int .i64 sn, .int .i64 sc, .int .i64 sl] 25) = V0 at P0 S0 N0 Q0 ⊢
  go_wp2_with fail
  refine (alive_any _).mono ?_
  rintro e V1 ⟨rfl, hB1⟩
  have X1 := Lib.hid hB1
  clear hB1
  have PB := Lib.hid ((X1.out.block w.heap.size (by have := N0.out; omega)).trans P0.out)
  have SB := (X1.out.block (w.heap.size + 1) (by have := N0.out; omega)).trans S0.out
  have p0 := blk_cell PB.out 0
  have p1 := blk_cell PB.out 1
  have p2 := blk_cell PB.out 2
  have s0 := blk_cell SB 0
  have s1 := blk_cell SB 1
  have s2 := blk_cell SB 2
  have s3 := blk_cell SB 3
  have s4 := blk_cell SB 4
  have s5 := blk_cell SB 5
  have L1 := Lib.hid (Sts.belowT HL.out (Q0.out.trans (X1.out.mono Q0.out.size)))
  clear SB
  go_wp2_with fail
  refine (dequeue_any tg iv mtu sa sb sd sn sc sl a l cap now V1 L1.out HCP.out (by omega)).mono ?_
  rintro e V2 ⟨hD, hB2⟩
  have X2 := Lib.hid (X1.out.trans (hB2.mono X1.out.size))
  clear p0 p1 p2 s0 s1 s2 s3 s4 s5 PB
  have L2 := Lib.hid (Sts.belowT L1.out hB2)
  rcases hD with ⟨E, hne, rfl⟩ | ⟨t, hK, _, _, hO, rfl⟩
  case inl =>
    have QQ := Lib.hid (Q0.out.trans (X2.out.mono Q0.out.size))
    go_wp2_with fail
    refine (num_any _ _).mono ?_
    rintro e w' ⟨rfl, rfl⟩
    go_wp2
    go_ret
    exact ⟨rfl, by (repeat' (first | (with_reducible exact QQ.out) | (with_reducible refine Below.alloc ?_ ?_ _) | (with_reducible refine Below.setCell ?_ ?_ _) | (with_reducible refine Below.drew ?_) | (with_reducible refine below_drewN ?_ _) | (have h9 := QQ.out.size; omega) | (have h9 := QQ.out.size; simp; omega)))⟩
  case inr =>
  have hdl := hK.len
  have hal := hK.all
  have hno := hK.none
  clear hK
  go_upto_region 4 with fail
  obtain ⟨x1, x2, x3, x4⟩ := two V2 (.cells #[.bool t.above, .int .i64 t.aboveAt, .bool t.dropping, .int .i64 t.nx, .int .i64 t.cn, .int .i64 t.la] 28) (.cells #[.bool t.has, .int .i64 t.out.tick, .int .i64 t.out.sz, .bool t.out.ect, .int .i64 t.out.id, .bool t.marked, .slice t.da t.dl.length t.dc, .int .i64 t.ql.length] 32)
  have R3 := Lib.hid x2
  have b3 := x4
  have O3 := Lib.hid (hO.below b3)
  have X3 := Lib.hid (X2.out.trans (b3.mono X2.out.size))
  have L3 := Lib.hid (Sts.belowT L2.out b3)
  have hz3 := x3
  clear x1 x2 x3 x4 b3 hO L2 L1 X1
  generalize (V2.alloc (.cells #[.bool t.above, .int .i64 t.aboveAt, .bool t.dropping, .int .i64 t.nx, .int .i64 t.cn, .int .i64 t.la] 28)).alloc (.cells #[.bool t.has, .int .i64 t.out.tick, .int .i64 t.out.sz, .bool t.out.ect, .int .i64 t.out.id, .bool t.marked, .slice t.da t.dl.length t.dc, .int .i64 t.ql.length] 32) = V3 at R3 O3 X3 L3 hz3 ⊢
  go_wp2_with fail
  refine (num_any _ _).mono ?_
  rintro e w' ⟨rfl, rfl⟩
  have c7 := blk_cell R3.out 7
  have c6 := blk_cell R3.out 6
  have HAL := Lib.hid hal
  have HNO := Lib.hid hno
  clear hal hno
  have k1 : ¬ ((t.ql.length : Int) < 0) := by omega
  have k2 : ¬ ((l.length : Int) < (t.ql.length : Int)) := by omega
  go_wp2_with fail
  refine (copyPk_any t.da t.dl t.dc V3 (O3.out.sts encK) O3.out.nilcap (by omega)).mono ?_
  rintro e V4 ⟨⟨a4, c4, rfl, hO4⟩, hB4⟩
  have O4 := Lib.hid hO4
  have B4 := Lib.hid hB4
  have R4 := Lib.hid ((hB4.block _ (blk_lt R3.out)).trans R3.out)
  clear c6 c7 hO4 hB4 k1 k2
  have hz4 : V3.heap.size ≤ V4.heap.size := B4.out.size
  obtain ⟨mb, hmb⟩ : ∃ b, t.has = b := ⟨_, rfl⟩
  have HAB := HAL.out
  rw [hmb] at HAB
  obtain ⟨hs, hhs⟩ : ∃ hs, t.dl ++ (if mb = true then [t.out] else []) = hs := ⟨_, rfl⟩
  have hle : hs ++ t.ql = l := by rw [← hhs, List.append_assoc]; exact HAB
  have HLE := Lib.hid hle
  have hll2 : hs.length + t.ql.length = l.length := by rw [← hle, List.length_append]
  have c0 : V4.cell? ⟨V2.heap.size + 1, 0, none⟩ = some (.bool mb) := (blk_cell R4.out 0).trans (congrArg (fun z => some (Value.bool z)) hmb)
  have c1 := blk_cell R4.out 1
  have c2 := blk_cell R4.out 2
  have c3 := blk_cell R4.out 3
  have c4' := blk_cell R4.out 4
  have HMB : Hid (hs = t.dl ++ (if mb = true then [t.out] else [])) := Lib.hid hhs.symm
  have HN2 : Hid (mb = false → t.ql = []) := Lib.hid (fun e => HNO.out (hmb.trans e))
  have HHB := Lib.hid hmb
  clear hmb hhs HAB hle
  go_upto_if 53 with fail
  go_cut [12] (fun (hv : Value) (wx : World) => ∃ a5 c5, hv = .slice a5 hs.length c5 ∧ OwnR 30 4 KC V3.heap.size a5 hs c5 wx ∧ Below V3.heap.size V3 wx)
  case first =>
    have bal : Below V4.heap.size V4 (V4.alloc (.cells #[.int .i64 t.out.tick, .int .i64 t.out.sz, .bool t.out.ect, .int .i64 t.out.id] 30)) := (Below.refl V4.heap.size V4).alloc (Nat.le_refl _) _
    have BAL := Lib.hid bal
    clear bal
    cases mb
    case false =>
      have e : hs = t.dl := by rw [HMB.out]; simp
      subst e
      go_wp2_with fail
      go_meet
      exact ⟨a4, c4, rfl, O4.out, B4.out⟩
    case true =>
      have e : hs = t.dl ++ [t.out] := by rw [HMB.out]; simp
      subst e
      have hll : t.dl.length + 1 ≤ l.length := by simp only [List.length_append, List.length_cons, List.length_nil] at hll2; omega
      clear hll2
      go_wp2_with (first
        | ((with_reducible show wpList _ _ _ _ _ _); refine wpList_append_r (w := V4.alloc (.cells #[.int .i64 t.out.tick, .int .i64 t.out.sz, .bool t.out.ect, .int .i64 t.out.id] 30)) (t := 26) (e := 30) (z := .agg #[.int .i64 0, .int .i64 0, .bool false, .int .i64 0]) (m := 4) (bz := 32) (cells := KC) (xs := t.dl) (ys := [t.out]) (cap := c4) (dap := 1) (n := 1) (a := a4) (b := some ⟨V4.heap.size, 0, none⟩) rfl elemK encK (.tmp 54) (.tmp 57) rfl V3.heap.size rfl ?_ ?_ ?_ ?_ ?_ ?_ ?_ ?_ ?_; exact O4.out.below BAL.out; exact sts_new encK V4 [t.out] 30 (0, 0); (intro e; cases e); rfl; rfl; (simp only [List.length_cons, List.length_nil]; omega); (unfold maxLen; simp only [List.length_cons, List.length_nil]; omega); (have := BAL.out.size; omega); intro a5 c5 V5 O5 b5 g5; have O5h := Lib.hid O5; have B5h := Lib.hid ((B4.out.trans (BAL.out.mono hz4)).trans b5); clear O5 b5 g5)
        | fail)
      go_meet
      exact ⟨a5, c5, by first | rfl | simp, O5h.out, B5h.out⟩
  case rest =>
  obtain ⟨a5, c5', rfl, hO5, hB5⟩ := hcut
  obtain ⟨V5, hVV⟩ : ∃ V, V = wc := ⟨_, rfl⟩
  subst hVV
  have O5 := Lib.hid hO5
  have L5 := Lib.hid (Sts.belowT L3.out hB5)
  have R5 := Lib.hid ((hB5.block _ (blk_lt R3.out)).trans R3.out)
  have X5 := Lib.hid (X3.out.trans (hB5.mono X3.out.size))
  have Q5 := Lib.hid (Q0.out.trans (X5.out.mono Q0.out.size))
  have hz5 := hB5.size
  have hq3 : w.heap.size ≤ V3.heap.size := by have := Q0.out.size; have := X3.out.size; omega
  have hr3 := blk_lt R3.out
  have HQB : Hid (∀ b o, a = some ⟨b, o, none⟩ → l ≠ [] → b < V3.heap.size) := Lib.hid (fun b o e el => by
    obtain ⟨b', o', e', hb', _⟩ := L3.out.isSomeT (List.length_pos_iff.2 el)
    rw [e'] at e
    have e3 := congrArg (fun x => x.block) (Option.some.inj e)
    dsimp only at e3
    omega)
  clear hO5 hB5 O4 B4 R4 L3 R3 O3 c0 c1 c2 c3 c4' HMB X2 X3 S0
  have r7 := blk_cell R5.out 7
  have r0 : V5.cell? ⟨V2.heap.size + 1, 0, none⟩ = some (.bool mb) := (blk_cell R5.out 0).trans (congrArg (fun z => some (Value.bool z)) HHB.out)
  obtain ⟨n, hn⟩ : ∃ n : Nat, hs.length = n := ⟨_, rfl⟩
  have e1 : IntKind.i64.wrap ((l.length : Int) - (t.ql.length : Int)) = (n : Int) := by rw [IntWalk.i64_in _ ⟨by omega, by omega⟩]; omega
  have HNN := Lib.hid hn
  have hnl : n + t.ql.length = l.length := by omega
  have hnc : (n : Int) ≤ (cap : Int) := by have := HCP.out.1; omega
  have hnc2 : (n : Int) ≤ (l.length : Int) := by omega
  have DR : Hid (l.drop n = t.ql) := Lib.hid (by rw [← HLE.out, ← hn, List.drop_left])
  clear hll2 hn
  rcases a with _ | ad
  case none =>
    have hc0 := HN.out rfl
    have hl0 : l = [] := by
      rcases L5.out.2 with h | ⟨b, o, e, _⟩
      · exact h
      · cases e
    have hl00 : l.length = 0 := by rw [hl0]; rfl
    have hq0 : t.ql = [] := List.eq_nil_of_length_eq_zero (by omega)
    have hn0 : n = 0 := by omega
    subst hc0
    subst hn0
    have HQ0 := Lib.hid hq0
    have i1 : (0 : Int) ≤ (l.length : Int) := by omega
    clear hq0 hl0 hl00
    go_wp2_with (first
      | ((with_reducible show wpList _ _ _ _ _ _); refine wpList_append_r (w := V5) (t := 26) (e := 30) (z := .agg #[.int .i64 0, .int .i64 0, .bool false, .int .i64 0]) (m := 4) (bz := 32) (cells := KC) (xs := hs) (ys := t.ql) (cap := c5') (dap := 0) (n := l.length) (a := a5) (b := none) rfl elemK encK (.tmp 59) (.tmp 66) rfl V3.heap.size (by omega) ?_ ?_ ?_ ?_ ?_ ?_ ?_ ?_ ?_; exact O5.out; exact (by rw [HQ0.out]; exact Sts.nil _ _); (intro _; rfl); rfl; rfl; (have := HNN.out; omega); (have := HNN.out; unfold maxLen; omega); exact hz5; intro a6 c6 V6 O6 b6 g6; rw [HLE.out] at O6; have O6h := Lib.hid O6; have L6 := Lib.hid (sts_below L5.out (show Below V3.heap.size V5 V6 from b6) HQB.out); have B6h := Lib.hid b6; have R6 := Lib.hid ((b6.block _ hr3).trans R5.out); clear O6 b6 g6)
      | fail)
    rw [show hs.length + t.ql.length = l.length by have := HNN.out; omega]
    refine (samePk_one a6 none l c6 0 V6 (O6h.out.sts encK) L6.out (by omega)).mono ?_
    rintro e V7 ⟨rfl, hB7⟩
    have R7 := Lib.hid ((hB7.block _ (blk_lt R6.out)).trans R6.out)
    have r0 : V7.cell? ⟨V2.heap.size + 1, 0, none⟩ = some (.bool mb) := (blk_cell R7.out 0).trans (congrArg (fun z => some (Value.bool z)) HHB.out)
    have Q7 := Lib.hid ((Q5.out.trans (B6h.out.mono hq3)).trans (hB7.mono (Nat.le_trans (Nat.le_trans hq3 hz5) B6h.out.size)))
    clear hB7
    cases mb
    case false =>
      have e0 := HN2.out rfl
      have r7 : V7.cell? ⟨V2.heap.size + 1, 7, none⟩ = some (.int .i64 0) := by rw [blk_cell R7.out 7]; simp [e0]
      go_wp2
      go_ret
      exact ⟨rfl, Q7.out⟩
    case true =>
      go_wp2
      go_ret
      exact ⟨rfl, Q7.out⟩
  case some =>
    by_cases hl0 : l = []
    case pos =>
      have hl00 : l.length = 0 := by rw [hl0]; rfl
      have hq0 : t.ql = [] := List.eq_nil_of_length_eq_zero (by omega)
      have hn0 : n = 0 := by omega
      subst hn0
      have HQ0 := Lib.hid hq0
      have i1 : (0 : Int) ≤ (l.length : Int) := by omega
      clear hq0 hl0 hl00
      clear hnc hnc2
      have hnc : (0 : Int) ≤ (cap : Int) := by omega
      by_cases hz : cap = 0
      case pos =>
        subst hz
        go_wp2_with (first
          | ((with_reducible show wpList _ _ _ _ _ _); refine wpList_append_r (w := V5) (t := 26) (e := 30) (z := .agg #[.int .i64 0, .int .i64 0, .bool false, .int .i64 0]) (m := 4) (bz := 32) (cells := KC) (xs := hs) (ys := t.ql) (cap := c5') (dap := 0) (n := l.length) (a := a5) (b := some ad) rfl elemK encK (.tmp 59) (.tmp 66) rfl V3.heap.size (by omega) ?_ ?_ ?_ ?_ ?_ ?_ ?_ ?_ ?_; exact O5.out; exact (by rw [HQ0.out]; exact Sts.nil _ _); (intro e; cases e); rfl; rfl; (have := HNN.out; omega); (have := HNN.out; unfold maxLen; omega); exact hz5; intro a6 c6 V6 O6 b6 g6; rw [HLE.out] at O6; have O6h := Lib.hid O6; have L6 := Lib.hid (sts_below L5.out (show Below V3.heap.size V5 V6 from b6) HQB.out); have B6h := Lib.hid b6; have R6 := Lib.hid ((b6.block _ hr3).trans R5.out); clear O6 b6 g6)
          | fail)
        rw [show hs.length + t.ql.length = l.length by have := HNN.out; omega]
        refine (samePk_one a6 (some ad) l c6 0 V6 (O6h.out.sts encK) L6.out (by omega)).mono ?_
        rintro e V7 ⟨rfl, hB7⟩
        have R7 := Lib.hid ((hB7.block _ (blk_lt R6.out)).trans R6.out)
        have r0 : V7.cell? ⟨V2.heap.size + 1, 0, none⟩ = some (.bool mb) := (blk_cell R7.out 0).trans (congrArg (fun z => some (Value.bool z)) HHB.out)
        have Q7 := Lib.hid ((Q5.out.trans (B6h.out.mono hq3)).trans (hB7.mono (Nat.le_trans (Nat.le_trans hq3 hz5) B6h.out.size)))
        clear hB7
        cases mb
        case false =>
          have e0 := HN2.out rfl
          have r7 : V7.cell? ⟨V2.heap.size + 1, 7, none⟩ = some (.int .i64 0) := by rw [blk_cell R7.out 7]; simp [e0]
          go_wp2
          go_ret
          exact ⟨rfl, Q7.out⟩
        case true =>
          go_wp2
          go_ret
          exact ⟨rfl, Q7.out⟩
      case neg =>
        go_wp2_with (first
          | ((with_reducible show wpList _ _ _ _ _ _); refine wpList_append_r (w := V5) (t := 26) (e := 30) (z := .agg #[.int .i64 0, .int .i64 0, .bool false, .int .i64 0]) (m := 4) (bz := 32) (cells := KC) (xs := hs) (ys := t.ql) (cap := c5') (dap := cap) (n := l.length) (a := a5) (b := some ad) rfl elemK encK (.tmp 59) (.tmp 66) rfl V3.heap.size (by omega) ?_ ?_ ?_ ?_ ?_ ?_ ?_ ?_ ?_; exact O5.out; exact (by rw [HQ0.out]; exact Sts.nil _ _); (intro e; cases e); rfl; rfl; (have := HNN.out; omega); (have := HNN.out; unfold maxLen; omega); exact hz5; intro a6 c6 V6 O6 b6 g6; rw [HLE.out] at O6; have O6h := Lib.hid O6; have L6 := Lib.hid (sts_below L5.out (show Below V3.heap.size V5 V6 from b6) HQB.out); have B6h := Lib.hid b6; have R6 := Lib.hid ((b6.block _ hr3).trans R5.out); clear O6 b6 g6)
          | fail)
        rw [show hs.length + t.ql.length = l.length by have := HNN.out; omega]
        refine (samePk_one a6 (some ad) l c6 cap V6 (O6h.out.sts encK) L6.out (by omega)).mono ?_
        rintro e V7 ⟨rfl, hB7⟩
        have R7 := Lib.hid ((hB7.block _ (blk_lt R6.out)).trans R6.out)
        have r0 : V7.cell? ⟨V2.heap.size + 1, 0, none⟩ = some (.bool mb) := (blk_cell R7.out 0).trans (congrArg (fun z => some (Value.bool z)) HHB.out)
        have Q7 := Lib.hid ((Q5.out.trans (B6h.out.mono hq3)).trans (hB7.mono (Nat.le_trans (Nat.le_trans hq3 hz5) B6h.out.size)))
        clear hB7
        cases mb
        case false =>
          have e0 := HN2.out rfl
          have r7 : V7.cell? ⟨V2.heap.size + 1, 7, none⟩ = some (.int .i64 0) := by rw [blk_cell R7.out 7]; simp [e0]
          go_wp2
          go_ret
          exact ⟨rfl, Q7.out⟩
        case true =>
          go_wp2
          go_ret
          exact ⟨rfl, Q7.out⟩
    case neg =>
      obtain ⟨b, o, e, hb, hcx⟩ := L5.out.isSomeT (List.length_pos_iff.2 hl0)
      obtain rfl := Option.some.inj e
      have LD := Lib.hid (sts_drop L5.out n)
      rw [DR.out] at LD
      clear e hcx
      by_cases hz : cap - n = 0
      case pos =>
        have HQ0 : Hid (t.ql = []) := Lib.hid (List.eq_nil_of_length_eq_zero (by have := HCP.out.1; omega))
        go_wp2_with (first
          | ((with_reducible show wpList _ _ _ _ _ _); refine wpList_append_r (w := V5) (t := 26) (e := 30) (z := .agg #[.int .i64 0, .int .i64 0, .bool false, .int .i64 0]) (m := 4) (bz := 32) (cells := KC) (xs := hs) (ys := t.ql) (cap := c5') (dap := 0) (n := l.length - n) (a := a5) (b := some ⟨b, o, none⟩) rfl elemK encK (.tmp 59) (.tmp 66) rfl V3.heap.size (by omega) ?_ ?_ ?_ ?_ ?_ ?_ ?_ ?_ ?_; exact O5.out; exact (by rw [HQ0.out]; exact Sts.nil _ _); (intro e; cases e); rfl; rfl; (have := HNN.out; omega); (have := HNN.out; unfold maxLen; omega); exact hz5; intro a6 c6 V6 O6 b6 g6; rw [HLE.out] at O6; have O6h := Lib.hid O6; have L6 := Lib.hid (sts_below L5.out (show Below V3.heap.size V5 V6 from b6) HQB.out); have B6h := Lib.hid b6; have R6 := Lib.hid ((b6.block _ hr3).trans R5.out); clear O6 b6 g6)
          | fail)
        rw [show hs.length + t.ql.length = l.length by have := HNN.out; omega]
        refine (samePk_one a6 (some ⟨b, o, none⟩) l c6 cap V6 (O6h.out.sts encK) L6.out (by omega)).mono ?_
        rintro e V7 ⟨rfl, hB7⟩
        have R7 := Lib.hid ((hB7.block _ (blk_lt R6.out)).trans R6.out)
        have r0 : V7.cell? ⟨V2.heap.size + 1, 0, none⟩ = some (.bool mb) := (blk_cell R7.out 0).trans (congrArg (fun z => some (Value.bool z)) HHB.out)
        have Q7 := Lib.hid ((Q5.out.trans (B6h.out.mono hq3)).trans (hB7.mono (Nat.le_trans (Nat.le_trans hq3 hz5) B6h.out.size)))
        clear hB7
        cases mb
        case false =>
          have e0 := HN2.out rfl
          have r7 : V7.cell? ⟨V2.heap.size + 1, 7, none⟩ = some (.int .i64 0) := by rw [blk_cell R7.out 7]; simp [e0]
          go_wp2
          go_ret
          exact ⟨rfl, Q7.out⟩
        case true =>
          go_wp2
          go_ret
          exact ⟨rfl, Q7.out⟩
      case neg =>
        go_wp2_with (first
          | ((with_reducible show wpList _ _ _ _ _ _); refine wpList_append_r (w := V5) (t := 26) (e := 30) (z := .agg #[.int .i64 0, .int .i64 0, .bool false, .int .i64 0]) (m := 4) (bz := 32) (cells := KC) (xs := hs) (ys := t.ql) (cap := c5') (dap := cap - n) (n := l.length - n) (a := a5) (b := some ⟨b, o + n * 4, none⟩) rfl elemK encK (.tmp 59) (.tmp 66) rfl V3.heap.size (by omega) ?_ ?_ ?_ ?_ ?_ ?_ ?_ ?_ ?_; exact O5.out; exact LD.out; (intro e; cases e); rfl; rfl; (have := HNN.out; omega); (have := HNN.out; unfold maxLen; omega); exact hz5; intro a6 c6 V6 O6 b6 g6; rw [HLE.out] at O6; have O6h := Lib.hid O6; have L6 := Lib.hid (sts_below L5.out (show Below V3.heap.size V5 V6 from b6) HQB.out); have B6h := Lib.hid b6; have R6 := Lib.hid ((b6.block _ hr3).trans R5.out); clear O6 b6 g6)
          | fail)
        rw [show hs.length + t.ql.length = l.length by have := HNN.out; omega]
        refine (samePk_one a6 (some ⟨b, o, none⟩) l c6 cap V6 (O6h.out.sts encK) L6.out (by omega)).mono ?_
        rintro e V7 ⟨rfl, hB7⟩
        have R7 := Lib.hid ((hB7.block _ (blk_lt R6.out)).trans R6.out)
        have r0 : V7.cell? ⟨V2.heap.size + 1, 0, none⟩ = some (.bool mb) := (blk_cell R7.out 0).trans (congrArg (fun z => some (Value.bool z)) HHB.out)
        have Q7 := Lib.hid ((Q5.out.trans (B6h.out.mono hq3)).trans (hB7.mono (Nat.le_trans (Nat.le_trans hq3 hz5) B6h.out.size)))
        clear hB7
        cases mb
        case false =>
          have e0 := HN2.out rfl
          have r7 : V7.cell? ⟨V2.heap.size + 1, 7, none⟩ = some (.int .i64 0) := by rw [blk_cell R7.out 7]; simp [e0]
          go_wp2
          go_ret
          exact ⟨rfl, Q7.out⟩
        case true =>
          go_wp2
          go_ret
          exact ⟨rfl, Q7.out⟩

theorem of_len3 {α : Type} (l : List α) (h : l.length = 3) : ∃ x0 x1 x2, l = [x0, x1, x2] := by
  match l, h with
  | [x0, x1, x2], _ => exact ⟨x0, x1, x2, rfl⟩
theorem of_len6 {α : Type} (l : List α) (h : l.length = 6) : ∃ x0 x1 x2 x3 x4 x5, l = [x0, x1, x2, x3, x4, x5] := by
  match l, h with
  | [x0, x1, x2, x3, x4, x5], _ => exact ⟨x0, x1, x2, x3, x4, x5, rfl⟩
theorem own : ownKnob Try.prog.godebug = none := by kernel_rfl
theorem laidOut : laidOutB Try.prog = true := by kernel_rfl

set_option maxRecDepth 100000 in
set_option maxHeartbeats 2000000 in
theorem lifted (os : Os) (started : os.Started) (H : Type) (enc : TypeId × Value → H) :
    ReturnsInHanded {} Try.checked os 3 .any (Rows.codelKeepsSpec.pre6 enc Try.prog Try.f3 Rows.codelKeepsRow.domain false) (Rows.codelKeepsSpec.post enc Try.prog Try.f3 false true false false) := by
  refine returnsInHanded_of_change_sized (C := Try.checked) own started (by kernel_rfl) Try.func3
    (ChangeSpec.witness6 (enc := enc) (C := Try.checked) false ⟨#[], #[.agg #[.int .i64 0, .int .i64 0, .int .i64 0], .agg #[.bool false, .int .i64 0, .bool false, .int .i64 0, .int .i64 0, .int .i64 0], .slice none 0 0, .int .i64 0], []⟩ 8 (by kernel_rfl) (by kernel_rfl) (by kernel_rfl) (by kernel_rfl)) ?_
  intro W base args ds gs before hval0 hW hcnd hsz0 _
  have hval : ∀ (j : Nat) t v, Try.f3.params[j]? = some t → args[j]? = some v → Value.okWide Try.prog W .any base t v := hval0
  have hsz : (DataW.weightsEach Try.prog (Try.f3.params.toList ++ Rows.codelKeepsSpec.plain.varTypes Try.prog) (ds ++ gs)).all (· ≤ reachBytes) = true := hsz0
  have hW' := hW
  obtain ⟨p, q, hA0, hV, rfl, hfz, hnd⟩ := hW
  have hA : DataW.TrodAll enc Try.prog W 0 (fun _ => true) true Try.f3.params.toList args.toList ds p := hA0
  rw [Try.params3] at hA hval hsz
  obtain ⟨v0, vs0, d0, ds0, p0, q0, hargs, rfl, rfl, h0, r0⟩ := trodAll_cons hA
  obtain ⟨v1, vs1, d1, ds1, p1, q1, rfl, rfl, rfl, h1, r1⟩ := trodAll_cons r0
  obtain ⟨v2, vs2, d2, ds2, p2, q2, rfl, rfl, rfl, h2, r2⟩ := trodAll_cons r1
  obtain ⟨v3, vs3, d3, ds3, p3, q3, rfl, rfl, rfl, h3, r3⟩ := trodAll_cons r2
  obtain ⟨rfl, rfl, rfl⟩ := trodAll_nil r3
  obtain rfl : args = #[v0, v1, v2, v3] := by cases args; simp_all
  obtain ⟨rfl, rfl⟩ := trodVars_none hV
  have k0 := h0
  have lt0 : ∀ x ∈ p0, x.block < W.heap.size := by obtain ⟨m, hm⟩ := k0; exact DataW.trod_lt m _ _ _ hm
  obtain ⟨vs0', ys0', m0, rfl, lv0, ly0, hd0, F0⟩ := open_agg Try.underlying23 (by kernel_rfl) (by kernel_rfl) (hval 0 23 v0 rfl rfl) h0
  obtain ⟨c0_0, c0_1, c0_2, rfl⟩ := of_len3 _ lv0
  obtain ⟨y0_0, y0_1, y0_2, rfl⟩ := of_len3 _ ly0
  simp only [List.map_cons, List.map_nil] at hd0
  obtain ⟨_, _, e, g, t0_0⟩ := F0 0 _ rfl
  obtain rfl := Option.some.inj e; obtain rfl := Option.some.inj g; clear e g
  obtain ⟨z0_0, e, _, w0_0⟩ := DataW.trod_int Try.underlying3 t0_0
  obtain rfl := (List.cons.inj e).1; clear e
  obtain ⟨lo0_0, hi0_0⟩ := bounds_i64 w0_0
  obtain ⟨_, _, e, g, t0_1⟩ := F0 1 _ rfl
  obtain rfl := Option.some.inj e; obtain rfl := Option.some.inj g; clear e g
  obtain ⟨z0_1, e, _, w0_1⟩ := DataW.trod_int Try.underlying3 t0_1
  obtain rfl := (List.cons.inj e).1; clear e
  obtain ⟨lo0_1, hi0_1⟩ := bounds_i64 w0_1
  obtain ⟨_, _, e, g, t0_2⟩ := F0 2 _ rfl
  obtain rfl := Option.some.inj e; obtain rfl := Option.some.inj g; clear e g
  obtain ⟨z0_2, e, _, w0_2⟩ := DataW.trod_int Try.underlying3 t0_2
  obtain rfl := (List.cons.inj e).1; clear e
  obtain ⟨lo0_2, hi0_2⟩ := bounds_i64 w0_2
  have k1 := h1
  have lt1 : ∀ x ∈ p1, x.block < W.heap.size := by obtain ⟨m, hm⟩ := k1; exact DataW.trod_lt m _ _ _ hm
  obtain ⟨vs1', ys1', m1, rfl, lv1, ly1, hd1, F1⟩ := open_agg Try.underlying25 (by kernel_rfl) (by kernel_rfl) (hval 1 25 v1 rfl rfl) h1
  obtain ⟨c1_0, c1_1, c1_2, c1_3, c1_4, c1_5, rfl⟩ := of_len6 _ lv1
  obtain ⟨y1_0, y1_1, y1_2, y1_3, y1_4, y1_5, rfl⟩ := of_len6 _ ly1
  simp only [List.map_cons, List.map_nil] at hd1
  obtain ⟨_, _, e, g, t1_0⟩ := F1 0 _ rfl
  obtain rfl := Option.some.inj e; obtain rfl := Option.some.inj g; clear e g
  obtain ⟨b1_0, e, _⟩ := DataW.trod_bool Try.underlying4 t1_0
  obtain rfl := (List.cons.inj e).1; clear e
  obtain ⟨_, _, e, g, t1_1⟩ := F1 1 _ rfl
  obtain rfl := Option.some.inj e; obtain rfl := Option.some.inj g; clear e g
  obtain ⟨z1_1, e, _, w1_1⟩ := DataW.trod_int Try.underlying3 t1_1
  obtain rfl := (List.cons.inj e).1; clear e
  obtain ⟨lo1_1, hi1_1⟩ := bounds_i64 w1_1
  obtain ⟨_, _, e, g, t1_2⟩ := F1 2 _ rfl
  obtain rfl := Option.some.inj e; obtain rfl := Option.some.inj g; clear e g
  obtain ⟨b1_2, e, _⟩ := DataW.trod_bool Try.underlying4 t1_2
  obtain rfl := (List.cons.inj e).1; clear e
  obtain ⟨_, _, e, g, t1_3⟩ := F1 3 _ rfl
  obtain rfl := Option.some.inj e; obtain rfl := Option.some.inj g; clear e g
  obtain ⟨z1_3, e, _, w1_3⟩ := DataW.trod_int Try.underlying3 t1_3
  obtain rfl := (List.cons.inj e).1; clear e
  obtain ⟨lo1_3, hi1_3⟩ := bounds_i64 w1_3
  obtain ⟨_, _, e, g, t1_4⟩ := F1 4 _ rfl
  obtain rfl := Option.some.inj e; obtain rfl := Option.some.inj g; clear e g
  obtain ⟨z1_4, e, _, w1_4⟩ := DataW.trod_int Try.underlying3 t1_4
  obtain rfl := (List.cons.inj e).1; clear e
  obtain ⟨lo1_4, hi1_4⟩ := bounds_i64 w1_4
  obtain ⟨_, _, e, g, t1_5⟩ := F1 5 _ rfl
  obtain rfl := Option.some.inj e; obtain rfl := Option.some.inj g; clear e g
  obtain ⟨z1_5, e, _, w1_5⟩ := DataW.trod_int Try.underlying3 t1_5
  obtain rfl := (List.cons.inj e).1; clear e
  obtain ⟨lo1_5, hi1_5⟩ := bounds_i64 w1_5
  obtain ⟨a2, len2, cap2, rfl⟩ := okWide_slice Try.underlying26 (hval 2 26 v2 rfl rfl)
  have k2 := h2
  have lt2 : ∀ x ∈ p2, x.block < W.heap.size := by obtain ⟨m, hm⟩ := k2; exact DataW.trod_lt m _ _ _ hm
  obtain ⟨a3, rfl, rfl, rfl, w3⟩ := open_int Try.underlying3 (hval 3 3 v3 rfl rfl) h3
  obtain ⟨xs2, hxl2, hbt2, hcap2, hlc2, hre2⟩ : ∃ xs : List Pkt, xs.length = len2 ∧ Sts 4 Pkt.cells Pkt.ok W a2 xs ∧ (a2 = none → cap2 = 0) ∧ (xs.length ≤ cap2 ∧ cap2 ≤ maxLen) ∧ xs.length ≤ 4398046510976 := by
    obtain ⟨fuel, hf⟩ := h2
    obtain ⟨x, rs, c, hv, hs, hnc, hlc, hq⟩ := open_Pkts (c := .slice a2 len2 cap2) hf
    simp only [Value.slice.injEq] at hv
    obtain ⟨rfl, rfl, rfl⟩ := hv
    have hw := sts_reach Try.underlying26 hq (fun n hn => by simpa using List.all_eq_true.1 hsz _ (DataW.weights_mem_each (j := 2) (t := 26) rfl rfl n hn))
    rw [show Try.prog.bytesOf 30 = 32 from by kernel_rfl] at hw
    simp only [reachBytes] at hw
    exact ⟨rs, rfl, hs, hnc, hlc, by omega⟩
  clear hA0 hval0 hsz hsz0
  subst hxl2
  obtain ⟨lo3, hi3⟩ := bounds_i64 w3
  refine (walk z0_0 z0_1 z0_2 b1_0 z1_1 b1_2 z1_3 z1_4 z1_5 a2 xs2 cap2 a3 W lo0_0 hi0_0 lo0_1 hi0_1 lo0_2 hi0_2 lo1_1 hi1_1 lo1_3 hi1_3 lo1_4 hi1_4 lo1_5 hi1_5 hbt2 hcap2 hlc2 hre2 lo3 hi3).mono fun e W' ⟨he, bel⟩ => ?_
  subst he
  exact ⟨_, rfl, _, _, _, [], _, [], hW', trodAll_mk1 (shut_bool Try.underlying4 _), (trodAll_cons_mk (Below.trod laidOut (by kernel_rfl) (of_decide_eq_true (by kernel_rfl)) k0 bel lt0) (trodAll_cons_mk (Below.trod laidOut (by kernel_rfl) (of_decide_eq_true (by kernel_rfl)) k1 bel lt1) (trodAll_cons_mk (Below.trod laidOut (by kernel_rfl) (of_decide_eq_true (by kernel_rfl)) k2 bel lt2) (trodAll_cons_mk (shut_int Try.underlying3 w3) trodAll_mk0)))), rfl, bel.frame _, fun h => by cases h⟩

theorem over : Rows.codelKeepsRow.holds Try.pinned (OpenSpec.ofChange Rows.codelKeepsSpec) :=
  OpenClaim.holds_of_wide 3 Try.f3 rfl rfl rfl rfl rfl rfl rfl ⟨rfl, rfl, rfl, rfl, rfl⟩ rfl rfl rfl rfl rfl (by kernel_rfl) Try.func3 (by kernel_rfl)
    (of_decide_eq_true (by kernel_rfl)) (by unfold Func.isWrapper; first | (rw [if_pos (by decide +kernel)]; kernel_rfl) | (rw [if_neg (by decide +kernel)]; exact ⟨rfl, rfl⟩))
    (fun os started H enc _ => lifted os started H enc)

end Go.Proofs.Yteflbfmkbkhimaa.codelKeeps
namespace Go.Proofs.Yteflbfmkbkhimaa
/-- The statement. -/
theorem codelKeeps_holds : Rows.CodelKeepsSaid := codelKeeps.over
#print axioms codelKeeps_holds
end Go.Proofs.Yteflbfmkbkhimaa
