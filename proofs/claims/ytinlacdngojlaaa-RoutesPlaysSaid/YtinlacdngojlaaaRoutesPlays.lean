/- For every list of calls: a table of routes answers any calls as the page's does. No condition. -/
import Derived.Test.YtinlacdngojlaaaRows
import Derived.Test.YtinlacdngojlaaaRtN
import Derived.Deep.DeepCutAuto
import Derived.RegionTactic
import Derived.Deep.RegionHeld3
import Derived.ProofKit
import Derived.OpenShut
import Derived.ChangeOld
import Derived.SizedLaws
namespace Go.Proofs.Ytinlacdngojlaaa.routesPlays
open Go.ChangeShapes Go.WideShapes Go.ChangeAt Go.RowKit Go.Deep Go.Maps Go.Proofs.Ytinlacdngojlaaa.law10 Go.Proofs.Ytinlacdngojlaaa.Rt Go.Sort Go.BigFrame

theorem tab_turned {W W' : World} {g gm : Nat} {L : List Route10} {S : Nat → Prop} (h : TabAt W g gm L) (ht : Turns S W W') (h1 : ¬ S g) (h2 : ¬ S gm) : TabAt W' g gm L := by
  obtain ⟨e1, hG, D, ⟨es, cl, e2, hr⟩, hT⟩ := h
  exact ⟨(ht.block g (Array.getElem?_eq_some_iff.1 e1).1 h1).trans e1, hG, D, ⟨es, cl, (ht.block gm (Array.getElem?_eq_some_iff.1 e2).1 h2).trans e2, hr⟩, hT⟩
theorem tab_lt {W : World} {g gm : Nat} {L : List Route10} (h : TabAt W g gm L) : g < W.heap.size ∧ gm < W.heap.size := by
  obtain ⟨e1, hG, D, ⟨es, cl, e2, hr⟩, hT⟩ := h
  exact ⟨(Array.getElem?_eq_some_iff.1 e1).1, (Array.getElem?_eq_some_iff.1 e2).1⟩
theorem rt_turned {C gt : Nat} {p : Option Addr} {L : List Route10} {k : Nat} {W W' : World} {S : Nat → Prop} (h : RTab C gt p L k W) (ht : Turns S W W') (h1 : ¬ S gt) (h2 : ∀ q, C ≤ q → ¬ S q) : RTab C gt p L k W' :=
  ⟨ht.blk h.blk h1, h.own.turned ht (fun q e => h2 q (h.own.ownB q (by rw [e]; rfl)).1), h.lt⟩
theorem row_low {C gt : Nat} {p : Option Addr} {L : List Route10} {k : Nat} {W : World} (h : RTab C gt p L k W) {q : Nat} (hq : q < gt) : ¬ rowS gt p L.length k q := by
  rintro (rfl | e)
  · omega
  · have h1 := (h.own.ownB q e).1
    have h2 := h.lt
    omega
theorem row_new {C gt : Nat} {p : Option Addr} {L : List Route10} {k : Nat} {W : World} (h : RTab C gt p L k W) {q : Nat} (hq : W.heap.size ≤ q) : ¬ rowS gt p L.length k q := by
  rintro (rfl | e)
  · have := blk_lt h.blk; omega
  · have h1 := (h.own.ownB q e).2
    omega
theorem row_from {C gt B : Nat} {p : Option Addr} {L : List Route10} {k : Nat} {W : World} (h : RTab C gt p L k W) (hB : B ≤ gt) {q : Nat} (hq : rowS gt p L.length k q) : B ≤ q := by
  rcases hq with rfl | e
  · exact hB
  · have h1 := (h.own.ownB q e).1
    have h2 := h.lt
    omega
theorem addL_le {L : List Route10} {r : Route10} (h : L.length ≤ 256) : (addL L r).length ≤ 256 := by
  unfold addL
  split
  · rename_i he
    have h1 := (addE_zero.1 he).2.2.2
    simp only [List.length_append, List.length_cons, List.length_nil]
    omega
  · exact h
theorem dropL_le {L : List Route10} {n : Nat} {b : Int} (h : L.length ≤ 256) : (dropL L n b).length ≤ 256 := by
  unfold dropL
  exact Nat.le_trans (List.length_eraseP_le ..) h

set_option maxRecDepth 100000 in
set_option maxHeartbeats 8000000 in
theorem walk (la : Option Addr) (l : List Step10) (lc : Nat) (w : World) (ht : Sts 4 Step10.cells Step10.ok w la l) (_hnc : la = none → lc = 0) (_hll : l.length ≤ 4398046510976) :
    Calls Try.prog 3 #[.slice la l.length lc] w fun e w' => e = .returned (.bool true) ∧ Below w.heap.size w w' := by
  have HT := Lib.hid ht
  clear ht
  go_enter Try.func3, Try.ntmps3
  go_wp2_with fail
  refine (newTable_any _).mono ?_
  rintro e V1 ⟨g, gm, rfl, hg, hgm, T, b⟩
  obtain ⟨hl1, hl2⟩ := tab_lt T
  have T1 := Lib.hid T
  have B1 := Lib.hid b
  clear T b
  go_upto_region 2 with fail
  have ba := (Below.refl V1.heap.size V1).alloc (Nat.le_refl _) (.cells #[.slice none 0 0] 28)
  have XT := blk_new V1 (.cells #[.slice none 0 0] 28)
  have T2 := Lib.hid (T1.out.below ba)
  have Q2 := Lib.hid (B1.out.trans (ba.mono B1.out.size))
  have R2 : Hid (RTab (V1.heap.size + 1) V1.heap.size none [] 0 (V1.alloc (.cells #[.slice none 0 0] 28))) := Lib.hid ⟨XT, ownR_nil _ _ _ _ _, Nat.lt_succ_self _⟩
  have hs1 := B1.out.size
  clear ba XT T1 B1
  generalize V1.alloc (.cells #[.slice none 0 0] 28) = V2 at T2 Q2 R2 ⊢
  obtain ⟨gt, hgt⟩ : ∃ z, V1.heap.size = z := ⟨_, rfl⟩
  obtain ⟨C, hC⟩ : ∃ z, V1.heap.size + 1 = z := ⟨_, rfl⟩
  rw [hC, hgt] at R2
  rw [hgt] at hl1 hl2 hs1 ⊢
  have hlt1 : g < gt := hl1
  have hlt2 : gm < gt := hl2
  have hCg : gt < C := by omega
  have hw0 : w.heap.size ≤ gt := hs1
  have hCe : C = gt + 1 := by omega
  clear hgt hC hl1 hl2 hs1
  go_wp2_with fail
  go_loopw [5] (fun vi wr => ∃ (i : Nat) (L : List Route10) (p : Option Addr) (k : Nat), i ≤ l.length ∧ vi = .int .i64 i ∧ TabAt wr g gm L ∧ RTab C gt p L k wr ∧ UK L ∧ L.length ≤ 256 ∧ Below w.heap.size w wr) (fun vi _ => l.length - (intOf vi).toNat)
  case atStart => exact ⟨0, [], none, 0, by omega, rfl, T2.out, R2.out, List.Pairwise.nil, by simp, Q2.out⟩
  case round =>
    obtain ⟨i, L, p, k, hi, rfl, hT, hR, hU, hL, hq⟩ := hrel
    have TR' := Lib.hid hT
    have RR := Lib.hid hR
    have HU := Lib.hid hU
    have HL := Lib.hid hL
    have QR := Lib.hid hq
    clear hT hR hU hL hq T2 R2 Q2
    by_cases hlt : i < l.length
    case neg =>
      obtain rfl : i = l.length := by omega
      go_wp2_with fail
      refine (alive_any _).mono ?_
      rintro e w' ⟨rfl, b⟩
      have QF := QR.out.trans (b.mono QR.out.size)
      go_wp2
      go_ret
      exact ⟨rfl, QF⟩
    case pos =>
      have i1 : (i : Int) < (l.length : Int) := by omega
      obtain ⟨r, hr⟩ : ∃ r, l[i]? = some r := ⟨_, List.getElem?_eq_getElem hlt⟩
      obtain ⟨hrok, lb, lo, rfl, hlb, hlc⟩ := HT.out.at hr
      obtain ⟨wh, net, bits, gw⟩ := r
      have l0 : w.cell? ⟨lb, lo + i * 4, none⟩ = some (.int .i64 wh) := hlc 0 _ rfl
      have l1 : w.cell? ⟨lb, lo + i * 4 + 1, none⟩ = some (.int .u32 (net : Nat)) := hlc 1 _ rfl
      have l2 : w.cell? ⟨lb, lo + i * 4 + 2, none⟩ = some (.int .i64 bits) := hlc 2 _ rfl
      have l3 : w.cell? ⟨lb, lo + i * 4 + 3, none⟩ = some (.int .u32 (gw : Nat)) := hlc 3 _ rfl
      have m0 := (QR.out.cell (p := ⟨lb, lo + i * 4, none⟩) hlb).trans l0
      have m1 := (QR.out.cell (p := ⟨lb, lo + i * 4 + 1, none⟩) hlb).trans l1
      have m2 := (QR.out.cell (p := ⟨lb, lo + i * 4 + 2, none⟩) hlb).trans l2
      have m3 := (QR.out.cell (p := ⟨lb, lo + i * 4 + 3, none⟩) hlb).trans l3
      obtain ⟨hwh, hn, ⟨hb1, hb2⟩, hgw⟩ : (-9223372036854775808 ≤ wh ∧ wh ≤ 9223372036854775807) ∧ net < 4294967296 ∧ (-9223372036854775808 ≤ bits ∧ bits ≤ 9223372036854775807) ∧ gw < 4294967296 := hrok
      clear hlc l0 l1 l2 l3 hr
      go_upto_region 8 with fail
      have hsw := QR.out.size
      have hgr := blk_lt RR.out.blk
      have ba := (Below.refl wr.heap.size wr).alloc (Nat.le_refl _) (.cells #[.int .u32 (net : Nat), .int .i64 bits, .int .u32 (gw : Nat)] 31)
      have X3 := Lib.hid (blk_new wr (.cells #[.int .u32 (net : Nat), .int .i64 bits, .int .u32 (gw : Nat)] 31))
      have T3 := Lib.hid (TR'.out.below ba)
      have R3 := Lib.hid (RR.out.below ba)
      have Q3 := Lib.hid (QR.out.trans (ba.mono QR.out.size))
      have n0 := (Q3.out.cell (p := ⟨lb, lo + i * 4, none⟩) hlb).trans ((QR.out.cell (p := ⟨lb, lo + i * 4, none⟩) hlb).symm.trans m0)
      have hs3 : wr.heap.size < (wr.alloc (.cells #[.int .u32 (net : Nat), .int .i64 bits, .int .u32 (gw : Nat)] 31)).heap.size := by simp
      have hROW := Lib.hid (fun q (hq : wr.heap.size ≤ q) => row_new RR.out hq)
      clear ba TR' RR QR m0 m1 m2 m3
      obtain ⟨gx, hgx⟩ : ∃ z, wr.heap.size = z := ⟨_, rfl⟩
      generalize wr.alloc (.cells #[.int .u32 (net : Nat), .int .i64 bits, .int .u32 (gw : Nat)] 31) = V3 at X3 T3 R3 Q3 hs3 n0 ⊢
      rw [hgx] at X3 hs3 hgr hROW ⊢
      rw [hgx] at hsw
      clear hgx
      have x0 := blk_cell X3.out 0
      have x1 := blk_cell X3.out 1
      have x2 := blk_cell X3.out 2
      by_cases hw0 : wh = 0
      case pos =>
        subst hw0
        have TD := Lib.hid (T3.out.below (Below.refl V3.heap.size V3).drew)
        have RD := Lib.hid (R3.out.below (Below.refl V3.heap.size V3).drew)
        have bD := Lib.hid ((Below.refl V3.heap.size V3).drew)
        have XD : Hid (V3.drew.heap[gx]? = some (.cells #[.int .u32 (net : Nat), .int .i64 bits, .int .u32 (gw : Nat)] 31 (0, 0))) := Lib.hid (blk_drew X3.out)
        have SS0 : Hid (V3.drew.cell? ⟨gx, 0, none⟩ = some (.int .u32 (net : Nat)) ∧ V3.drew.cell? ⟨gx, 1, none⟩ = some (.int .i64 bits) ∧ V3.drew.cell? ⟨gx, 2, none⟩ = some (.int .u32 (gw : Nat))) := Lib.hid ⟨blk_cell XD.out 0, blk_cell XD.out 1, blk_cell XD.out 2⟩
        go_upto_region 10 with fail
        go_region_held3 (fun W => W.cell? ⟨gx, 0, none⟩ = some (.int .u32 (net : Nat)) ∧ W.cell? ⟨gx, 1, none⟩ = some (.int .i64 bits) ∧ W.cell? ⟨gx, 2, none⟩ = some (.int .u32 (gw : Nat))) (first | (with_reducible exact SS2.out) | (with_reducible exact SS1.out) | (with_reducible exact SS0.out) | go_keep) (first
          | (go_at_call 8; (with_reducible refine (add_any _ g gm L ⟨net, bits, gw⟩ TD.out hn hgw).mono ?_); rintro e V4 ⟨rfl, T, G⟩; have T4 := Lib.hid T; have t4 : Hid (Turns (fun q => q = gm) V3.drew V4) := Lib.hid (.of_grown (fun q e => (Option.some.inj e).symm) G); have R4 := Lib.hid (rt_turned RD.out t4.out (fun e => by have e2 : gt = gm := e; omega) (fun q hq e => by have e2 : q = gm := e; omega)); have hs4 := Nat.le_trans bD.out.size G.size; have X4 := Lib.hid (t4.out.blk XD.out (fun e => by have e2 : gx = gm := e; omega)); have SS1 : Hid (V4.cell? ⟨gx, 0, none⟩ = some (.int .u32 (net : Nat)) ∧ V4.cell? ⟨gx, 1, none⟩ = some (.int .i64 bits) ∧ V4.cell? ⟨gx, 2, none⟩ = some (.int .u32 (gw : Nat))) := Lib.hid ⟨blk_cell X4.out 0, blk_cell X4.out 1, blk_cell X4.out 2⟩; clear T G)
          | (go_at_call 7; (with_reducible refine (num_any _ _).mono ?_); rintro e w' ⟨rfl, rfl⟩)
          | (go_at_call 9; (with_reducible refine (radd_any C gt p L k net bits gw _ R4.out (by omega) hn HL.out).mono ?_); rintro e V5 ⟨rfl, ⟨p2, k2, R⟩, t5⟩; have R5 := Lib.hid R; have h5 := Lib.hid t5; have X5 := Lib.hid (t5.blk X4.out (hROW.out gx (Nat.le_refl _))); have SS2 : Hid (V5.cell? ⟨gx, 0, none⟩ = some (.int .u32 (net : Nat)) ∧ V5.cell? ⟨gx, 1, none⟩ = some (.int .i64 bits) ∧ V5.cell? ⟨gx, 2, none⟩ = some (.int .u32 (gw : Nat))) := Lib.hid ⟨blk_cell X5.out 0, blk_cell X5.out 1, blk_cell X5.out 2⟩; clear R t5))
        have T5 := Lib.hid (tab_turned T4.out h5.out (row_low R4.out hlt1) (row_low R4.out hlt2))
        have hs5 := bD.out.size
        have Q4 := (Q3.out.trans (bD.out.mono Q3.out.size)).trans (t4.out.below (B := w.heap.size) (by omega) (fun q e => by have e2 : q = gm := e; omega))
        have Q5 := Lib.hid (Q4.trans (h5.out.below (B := w.heap.size) (by omega) (fun q e => row_from R4.out (by omega) e)))
        clear Q4 h5 t4 T4 R4 X4 TD RD XD SS0 SS1 SS2 bD T3 R3 X3 Q3
        obtain ⟨L2, hL2⟩ : ∃ z, addL L ⟨net, bits, gw⟩ = z := ⟨_, rfl⟩
        rw [hL2] at T5 R5
        have HU2 : Hid (UK L2) := Lib.hid (hL2 ▸ uk_add HU.out _)
        have HL2 : Hid (L2.length ≤ 256) := Lib.hid (hL2 ▸ addL_le HL.out)
        clear hL2
        have x0 := blk_cell X5.out 0
        go_wp2_with fail
        refine (next_any _ g gm L2 net T5.out hn).mono ?_
        rintro e V6 ⟨rfl, b⟩
        obtain ⟨wa, hwa⟩ : ∃ z, wayOf net (nextAt L2 net 33) = z := ⟨_, rfl⟩
        obtain ⟨er, her⟩ : ∃ z, errOf (nextAt L2 net 33) = z := ⟨_, rfl⟩
        have HWA := Lib.hid hwa
        have HER := Lib.hid her
        clear hwa her
        rw [HWA.out, HER.out]
        have T6 := Lib.hid (T5.out.below b)
        have R6 := Lib.hid (R5.out.below b)
        have X6 := Lib.hid ((b.block _ (blk_lt X5.out)).trans X5.out)
        have Q6 := Lib.hid (Q5.out.trans (b.mono Q5.out.size))
        clear b T5 R5 X5 Q5
        have x0 := blk_cell X6.out 0
        go_wp2_with fail
        refine (rnext_any C gt p2 L2 k2 net _ R6.out T6.out.2.1 hn HL2.out).mono ?_
        rintro e V7 ⟨rfl, b⟩
        rw [HWA.out, HER.out]
        have T7 := Lib.hid (T6.out.below b)
        have R7 := Lib.hid (R6.out.below b)
        have Q7 := Lib.hid (Q6.out.trans (b.mono Q6.out.size))
        clear b T6 R6 X6 Q6 x0 HWA HER
        have t0 := blk_cell R7.out.blk 0
        have v1 : ((wa : Int) != (wa : Int)) = false := by simp
        have v2 : ((er : Int) != (er : Int)) = false := by simp
        have v3 : ((L2.length : Int) != (L2.length : Int)) = false := by simp
        go_upto_region 17 with fail
        have qt0 := cell_regrown (show V7.cell? ⟨gt, 0, none⟩ = some (.slice p2 L2.length k2) from t0)
        have cN : ∀ d os, Calls Try.prog 7 #[.int .i64 (er : Nat)] (grow (redrawn V7 d) os) fun e w'' => e = .returned (.int .i64 (er : Nat)) ∧ ∃ p : Regrown, w'' = grow (redrawn V7 p.d) p.os := fun d os => Calls.regrown_of ((num_any _ _).mono fun _ _ h => ⟨h.1, h.2 ▸ Below.refl _ _⟩)
        have cL : ∀ d os, Calls Try.prog 14 #[.pointer (some ⟨g, 0, none⟩)] (grow (redrawn V7 d) os) fun e w'' => e = .returned (.int .i64 (L2.length : Nat)) ∧ ∃ p : Regrown, w'' = grow (redrawn V7 p.d) p.os := fun d os => Calls.regrown_of ((len_any _ g gm L2 (T7.out.below (below_regrown V7 d os))).mono fun _ _ h => ⟨h.1, h.2 ▸ Below.refl _ _⟩)
        refine wp_region_quiet_below (by kernel_rfl) (by kernel_rfl) ?_
        repeat (go_big_quiet_step (first | (go_at_call 7; exact cN _ _) | (go_at_call 14; exact cL _ _)))
        refine wpQuiet_nil ?_
        intro _ hw'
        obtain ⟨⟨dq, osq⟩, hw''⟩ := hw'
        subst hw''
        have hB := below_regrown V7 dq osq
        clear qt0 cN cL
        dsimp only
        generalize grow (redrawn V7 dq) osq = V8 at hB ⊢
        have T8 := Lib.hid (T7.out.below hB)
        have R8 := Lib.hid (R7.out.below hB)
        have Q8 := Lib.hid (Q7.out.trans (hB.mono Q7.out.size))
        clear hB T7 R7 Q7 t0
        go_wp2_with fail
        go_roundw
        case rel => exact ⟨i + 1, L2, p2, k2, by omega, by go_num, T8.out, R8.out, HU2.out, HL2.out, Q8.out⟩
        case measure => simp [intOf]; omega
      case neg =>
      by_cases hw1 : wh = 1
      case pos =>
        subst hw1
        have TD := Lib.hid (T3.out.below (Below.refl V3.heap.size V3).drew)
        have RD := Lib.hid (R3.out.below (Below.refl V3.heap.size V3).drew)
        have bD := Lib.hid ((Below.refl V3.heap.size V3).drew)
        have XD : Hid (V3.drew.heap[gx]? = some (.cells #[.int .u32 (net : Nat), .int .i64 bits, .int .u32 (gw : Nat)] 31 (0, 0))) := Lib.hid (blk_drew X3.out)
        have SS0 : Hid (V3.drew.cell? ⟨gx, 0, none⟩ = some (.int .u32 (net : Nat)) ∧ V3.drew.cell? ⟨gx, 1, none⟩ = some (.int .i64 bits) ∧ V3.drew.cell? ⟨gx, 2, none⟩ = some (.int .u32 (gw : Nat))) := Lib.hid ⟨blk_cell XD.out 0, blk_cell XD.out 1, blk_cell XD.out 2⟩
        go_upto_region 13 with fail
        go_region_held3 (fun W => W.cell? ⟨gx, 0, none⟩ = some (.int .u32 (net : Nat)) ∧ W.cell? ⟨gx, 1, none⟩ = some (.int .i64 bits) ∧ W.cell? ⟨gx, 2, none⟩ = some (.int .u32 (gw : Nat))) (first | (with_reducible exact SS2.out) | (with_reducible exact SS1.out) | (with_reducible exact SS0.out) | go_keep) (first
          | (go_at_call 10; (with_reducible refine (drop_any _ g gm L net bits TD.out HU.out hn hb1 hb2).mono ?_); rintro e V4 ⟨rfl, T, G⟩; have T4 := Lib.hid T; have t4 : Hid (Turns (fun q => q = gm) V3.drew V4) := Lib.hid (.of_grown (fun q e => (Option.some.inj e).symm) G); have R4 := Lib.hid (rt_turned RD.out t4.out (fun e => by have e2 : gt = gm := e; omega) (fun q hq e => by have e2 : q = gm := e; omega)); have hs4 := Nat.le_trans bD.out.size G.size; have X4 := Lib.hid (t4.out.blk XD.out (fun e => by have e2 : gx = gm := e; omega)); have SS1 : Hid (V4.cell? ⟨gx, 0, none⟩ = some (.int .u32 (net : Nat)) ∧ V4.cell? ⟨gx, 1, none⟩ = some (.int .i64 bits) ∧ V4.cell? ⟨gx, 2, none⟩ = some (.int .u32 (gw : Nat))) := Lib.hid ⟨blk_cell X4.out 0, blk_cell X4.out 1, blk_cell X4.out 2⟩; clear T G)
          | (go_at_call 7; (with_reducible refine (num_any _ _).mono ?_); rintro e w' ⟨rfl, rfl⟩)
          | (go_at_call 11; (with_reducible refine (rdrop_any C gt p L k net bits _ R4.out (by omega) HL.out).mono ?_); rintro e V5 ⟨rfl, ⟨p2, k2, R⟩, t5⟩; have R5 := Lib.hid R; have h5 := Lib.hid t5; have X5 := Lib.hid (t5.blk X4.out (hROW.out gx (Nat.le_refl _))); have SS2 : Hid (V5.cell? ⟨gx, 0, none⟩ = some (.int .u32 (net : Nat)) ∧ V5.cell? ⟨gx, 1, none⟩ = some (.int .i64 bits) ∧ V5.cell? ⟨gx, 2, none⟩ = some (.int .u32 (gw : Nat))) := Lib.hid ⟨blk_cell X5.out 0, blk_cell X5.out 1, blk_cell X5.out 2⟩; clear R t5))
        have T5 := Lib.hid (tab_turned T4.out h5.out (row_low R4.out hlt1) (row_low R4.out hlt2))
        have hs5 := bD.out.size
        have Q4 := (Q3.out.trans (bD.out.mono Q3.out.size)).trans (t4.out.below (B := w.heap.size) (by omega) (fun q e => by have e2 : q = gm := e; omega))
        have Q5 := Lib.hid (Q4.trans (h5.out.below (B := w.heap.size) (by omega) (fun q e => row_from R4.out (by omega) e)))
        clear Q4 h5 t4 T4 R4 X4 TD RD XD SS0 SS1 SS2 bD T3 R3 X3 Q3
        obtain ⟨L2, hL2⟩ : ∃ z, dropL L net bits = z := ⟨_, rfl⟩
        rw [hL2] at T5 R5
        have HU2 : Hid (UK L2) := Lib.hid (hL2 ▸ uk_dropL HU.out net bits)
        have HL2 : Hid (L2.length ≤ 256) := Lib.hid (hL2 ▸ dropL_le HL.out)
        clear hL2
        have x0 := blk_cell X5.out 0
        go_wp2_with fail
        refine (next_any _ g gm L2 net T5.out hn).mono ?_
        rintro e V6 ⟨rfl, b⟩
        obtain ⟨wa, hwa⟩ : ∃ z, wayOf net (nextAt L2 net 33) = z := ⟨_, rfl⟩
        obtain ⟨er, her⟩ : ∃ z, errOf (nextAt L2 net 33) = z := ⟨_, rfl⟩
        have HWA := Lib.hid hwa
        have HER := Lib.hid her
        clear hwa her
        rw [HWA.out, HER.out]
        have T6 := Lib.hid (T5.out.below b)
        have R6 := Lib.hid (R5.out.below b)
        have X6 := Lib.hid ((b.block _ (blk_lt X5.out)).trans X5.out)
        have Q6 := Lib.hid (Q5.out.trans (b.mono Q5.out.size))
        clear b T5 R5 X5 Q5
        have x0 := blk_cell X6.out 0
        go_wp2_with fail
        refine (rnext_any C gt p2 L2 k2 net _ R6.out T6.out.2.1 hn HL2.out).mono ?_
        rintro e V7 ⟨rfl, b⟩
        rw [HWA.out, HER.out]
        have T7 := Lib.hid (T6.out.below b)
        have R7 := Lib.hid (R6.out.below b)
        have Q7 := Lib.hid (Q6.out.trans (b.mono Q6.out.size))
        clear b T6 R6 X6 Q6 x0 HWA HER
        have t0 := blk_cell R7.out.blk 0
        have v1 : ((wa : Int) != (wa : Int)) = false := by simp
        have v2 : ((er : Int) != (er : Int)) = false := by simp
        have v3 : ((L2.length : Int) != (L2.length : Int)) = false := by simp
        go_upto_region 17 with fail
        have qt0 := cell_regrown (show V7.cell? ⟨gt, 0, none⟩ = some (.slice p2 L2.length k2) from t0)
        have cN : ∀ d os, Calls Try.prog 7 #[.int .i64 (er : Nat)] (grow (redrawn V7 d) os) fun e w'' => e = .returned (.int .i64 (er : Nat)) ∧ ∃ p : Regrown, w'' = grow (redrawn V7 p.d) p.os := fun d os => Calls.regrown_of ((num_any _ _).mono fun _ _ h => ⟨h.1, h.2 ▸ Below.refl _ _⟩)
        have cL : ∀ d os, Calls Try.prog 14 #[.pointer (some ⟨g, 0, none⟩)] (grow (redrawn V7 d) os) fun e w'' => e = .returned (.int .i64 (L2.length : Nat)) ∧ ∃ p : Regrown, w'' = grow (redrawn V7 p.d) p.os := fun d os => Calls.regrown_of ((len_any _ g gm L2 (T7.out.below (below_regrown V7 d os))).mono fun _ _ h => ⟨h.1, h.2 ▸ Below.refl _ _⟩)
        refine wp_region_quiet_below (by kernel_rfl) (by kernel_rfl) ?_
        repeat (go_big_quiet_step (first | (go_at_call 7; exact cN _ _) | (go_at_call 14; exact cL _ _)))
        refine wpQuiet_nil ?_
        intro _ hw'
        obtain ⟨⟨dq, osq⟩, hw''⟩ := hw'
        subst hw''
        have hB := below_regrown V7 dq osq
        clear qt0 cN cL
        dsimp only
        generalize grow (redrawn V7 dq) osq = V8 at hB ⊢
        have T8 := Lib.hid (T7.out.below hB)
        have R8 := Lib.hid (R7.out.below hB)
        have Q8 := Lib.hid (Q7.out.trans (hB.mono Q7.out.size))
        clear hB T7 R7 Q7 t0
        go_wp2_with fail
        go_roundw
        case rel => exact ⟨i + 1, L2, p2, k2, by omega, by go_num, T8.out, R8.out, HU2.out, HL2.out, Q8.out⟩
        case measure => simp [intOf]; omega
      case neg =>
        have j0 : (wh == 0) = false := by rw [beq_eq_false_iff_ne]; exact hw0
        have j1 : (wh == 1) = false := by rw [beq_eq_false_iff_ne]; exact hw1
        have T5 := T3
        have R5 := R3
        have X5 := X3
        have Q5 := Q3
        clear T3 R3 X3 Q3 x1 x2
        go_wp2_with fail
        refine (next_any _ g gm L net T5.out hn).mono ?_
        rintro e V6 ⟨rfl, b⟩
        obtain ⟨wa, hwa⟩ : ∃ z, wayOf net (nextAt L net 33) = z := ⟨_, rfl⟩
        obtain ⟨er, her⟩ : ∃ z, errOf (nextAt L net 33) = z := ⟨_, rfl⟩
        have HWA := Lib.hid hwa
        have HER := Lib.hid her
        clear hwa her
        rw [HWA.out, HER.out]
        have T6 := Lib.hid (T5.out.below b)
        have R6 := Lib.hid (R5.out.below b)
        have X6 := Lib.hid ((b.block _ (blk_lt X5.out)).trans X5.out)
        have Q6 := Lib.hid (Q5.out.trans (b.mono Q5.out.size))
        clear b T5 R5 X5 Q5
        have x0 := blk_cell X6.out 0
        go_wp2_with fail
        refine (rnext_any C gt p L k net _ R6.out T6.out.2.1 hn HL.out).mono ?_
        rintro e V7 ⟨rfl, b⟩
        rw [HWA.out, HER.out]
        have T7 := Lib.hid (T6.out.below b)
        have R7 := Lib.hid (R6.out.below b)
        have Q7 := Lib.hid (Q6.out.trans (b.mono Q6.out.size))
        clear b T6 R6 X6 Q6 x0 HWA HER
        have t0 := blk_cell R7.out.blk 0
        have v1 : ((wa : Int) != (wa : Int)) = false := by simp
        have v2 : ((er : Int) != (er : Int)) = false := by simp
        have v3 : ((L.length : Int) != (L.length : Int)) = false := by simp
        go_upto_region 17 with fail
        have qt0 := cell_regrown (show V7.cell? ⟨gt, 0, none⟩ = some (.slice p L.length k) from t0)
        have cN : ∀ d os, Calls Try.prog 7 #[.int .i64 (er : Nat)] (grow (redrawn V7 d) os) fun e w'' => e = .returned (.int .i64 (er : Nat)) ∧ ∃ p : Regrown, w'' = grow (redrawn V7 p.d) p.os := fun d os => Calls.regrown_of ((num_any _ _).mono fun _ _ h => ⟨h.1, h.2 ▸ Below.refl _ _⟩)
        have cL : ∀ d os, Calls Try.prog 14 #[.pointer (some ⟨g, 0, none⟩)] (grow (redrawn V7 d) os) fun e w'' => e = .returned (.int .i64 (L.length : Nat)) ∧ ∃ p : Regrown, w'' = grow (redrawn V7 p.d) p.os := fun d os => Calls.regrown_of ((len_any _ g gm L (T7.out.below (below_regrown V7 d os))).mono fun _ _ h => ⟨h.1, h.2 ▸ Below.refl _ _⟩)
        refine wp_region_quiet_below (by kernel_rfl) (by kernel_rfl) ?_
        repeat (go_big_quiet_step (first | (go_at_call 7; exact cN _ _) | (go_at_call 14; exact cL _ _)))
        refine wpQuiet_nil ?_
        intro _ hw'
        obtain ⟨⟨dq, osq⟩, hw''⟩ := hw'
        subst hw''
        have hB := below_regrown V7 dq osq
        clear qt0 cN cL
        dsimp only
        generalize grow (redrawn V7 dq) osq = V8 at hB ⊢
        have T8 := Lib.hid (T7.out.below hB)
        have R8 := Lib.hid (R7.out.below hB)
        have Q8 := Lib.hid (Q7.out.trans (hB.mono Q7.out.size))
        clear hB T7 R7 Q7 t0
        go_wp2_with fail
        go_roundw
        case rel => exact ⟨i + 1, L, p, k, by omega, by go_num, T8.out, R8.out, HU.out, HL.out, Q8.out⟩
        case measure => simp [intOf]; omega

theorem own : ownKnob Try.prog.godebug = none := by kernel_rfl
theorem laidOut : laidOutB Try.prog = true := by kernel_rfl

set_option maxRecDepth 100000 in
set_option maxHeartbeats 2000000 in
theorem lifted (os : Os) (started : os.Started) (H : Type) (enc : TypeId × Value → H) :
    ReturnsInHanded {} Try.checked os 3 .any (Rows.routesPlaysSpec.pre6 enc Try.prog Try.f3 Rows.routesPlaysRow.domain false) (Rows.routesPlaysSpec.post enc Try.prog Try.f3 false true false false) := by
  refine returnsInHanded_of_change_sized (C := Try.checked) own started (by kernel_rfl) Try.func3
    (ChangeSpec.witness6 (enc := enc) (C := Try.checked) false ⟨#[], #[.slice none 0 0], []⟩ 8 (by kernel_rfl) (by kernel_rfl) (by kernel_rfl) (by kernel_rfl)) ?_
  intro W base args ds gs before hval0 hW hcnd hsz0 _
  have hval : ∀ (j : Nat) t v, Try.f3.params[j]? = some t → args[j]? = some v → Value.okWide Try.prog W .any base t v := hval0
  have hsz : (DataW.weightsEach Try.prog (Try.f3.params.toList ++ Rows.routesPlaysSpec.plain.varTypes Try.prog) (ds ++ gs)).all (· ≤ reachBytes) = true := hsz0
  have hW' := hW
  obtain ⟨p, q, hA0, hV, rfl, hfz, hnd⟩ := hW
  have hA : DataW.TrodAll enc Try.prog W 0 (fun _ => true) true Try.f3.params.toList args.toList ds p := hA0
  rw [Try.params3] at hA hval hsz
  obtain ⟨v0, vs0, d0, ds0, p0, q0, hargs, rfl, rfl, h0, r0⟩ := trodAll_cons hA
  obtain ⟨rfl, rfl, rfl⟩ := trodAll_nil r0
  obtain rfl : args = #[v0] := by cases args; simp_all
  obtain ⟨rfl, rfl⟩ := trodVars_none hV
  obtain ⟨a0, len0, cap0, rfl⟩ := okWide_slice Try.underlying22 (hval 0 22 v0 rfl rfl)
  have k0 := h0
  have lt0 : ∀ x ∈ p0, x.block < W.heap.size := by obtain ⟨m, hm⟩ := k0; exact DataW.trod_lt m _ _ _ hm
  obtain ⟨xs0, hxl0, hbt0, hcap0, hre0⟩ : ∃ xs : List Step10, xs.length = len0 ∧ Sts 4 Step10.cells Step10.ok W a0 xs ∧ (a0 = none → cap0 = 0) ∧ xs.length ≤ 4398046510976 := by
    obtain ⟨fuel, hf⟩ := h0
    obtain ⟨x, rs, c, hv, hs, hnc, hlc, hq⟩ := open_Step10s (c := .slice a0 len0 cap0) hf
    simp only [Value.slice.injEq] at hv
    obtain ⟨rfl, rfl, rfl⟩ := hv
    have hw := sts_reach Try.underlying22 hq (fun n hn => by simpa using List.all_eq_true.1 hsz _ (DataW.weights_mem_each (j := 0) (t := 22) rfl rfl n hn))
    rw [show Try.prog.bytesOf 33 = 32 from by kernel_rfl] at hw
    simp only [reachBytes] at hw
    exact ⟨rs, rfl, hs, hnc, by omega⟩
  clear hA0 hval0 hsz hsz0
  subst hxl0
  refine (walk a0 xs0 cap0 W hbt0 hcap0 hre0).mono fun e W' ⟨he, bel⟩ => ?_
  subst he
  exact ⟨_, rfl, _, _, _, [], _, [], hW', trodAll_mk1 (shut_bool Try.underlying4 _), (trodAll_cons_mk (Below.trod laidOut (by kernel_rfl) (of_decide_eq_true (by kernel_rfl)) k0 bel lt0) trodAll_mk0), rfl, bel.frame _, fun h => by cases h⟩

theorem over : Rows.routesPlaysRow.holds Try.pinned (OpenSpec.ofChange Rows.routesPlaysSpec) :=
  OpenClaim.holds_of_wide 3 Try.f3 rfl rfl rfl rfl rfl rfl rfl ⟨rfl, rfl, rfl, rfl, rfl⟩ rfl rfl rfl rfl rfl (by kernel_rfl) Try.func3 (by kernel_rfl)
    (of_decide_eq_true (by kernel_rfl)) (by unfold Func.isWrapper; first | (rw [if_pos (by decide +kernel)]; kernel_rfl) | (rw [if_neg (by decide +kernel)]; exact ⟨rfl, rfl⟩))
    (fun os started H enc _ => lifted os started H enc)

end Go.Proofs.Ytinlacdngojlaaa.routesPlays
namespace Go.Proofs.Ytinlacdngojlaaa
/-- The statement. -/
theorem routesPlays_holds : Rows.RoutesPlaysSaid := routesPlays.over
#print axioms routesPlays_holds
end Go.Proofs.Ytinlacdngojlaaa
