/- For every size, first number and list of calls: a buffer answers any calls as the page's does. No condition. -/
import Derived.Test.YtfdaenogefodhaaRows
import Derived.Test.YtfdaenogefodhaaSbQ
import Derived.Test.YtfdaenogefodhaaGStep15
import Derived.Test.YtfdaenogefodhaaGFrame
import Derived.Test.YtfdaenogefodhaaGPlain
import Derived.Test.YtfdaenogefodhaaGSpoil
import Derived.Test.YtfdaenogefodhaaGAgg
import Derived.Deep.DeepCutAuto
import Derived.RegionTactic
import Derived.Deep.RegionHeld3
import Derived.ProofKit
import Derived.OpenShut
import Derived.ChangeOld
import Derived.SizedLaws
namespace Go.Proofs.Ytfdaenogefodhaa.sendbufPlays
open Go.ChangeShapes Go.WideShapes Go.ChangeAt Go.RowKit Go.Deep Go.Proofs.Ytfdaenogefodhaa.Sb

set_option maxHeartbeats 400000 in
theorem new_no (sz : Int) (un : Int) (w : World) (h : ¬ (1 ≤ sz ∧ sz ≤ 1048576)) :
    Calls Try.prog 14 #[.int .i64 sz, .int .u32 un] w fun e w' => e = .returned (.tuple #[.pointer none, .int .i64 4]) ∧ w = w' := by
  by_cases h1 : sz < 1
  case pos =>
    clear h
    go_enter Try.func14, Try.ntmps14
    go_wp2
    go_ret2
    exact ⟨rfl, rfl⟩
  case neg =>
    have h2 : 1048576 < sz := by omega
    clear h
    go_enter Try.func14, Try.ntmps14
    go_wp2
    go_ret2
    exact ⟨rfl, rfl⟩
theorem BufAt.turned' {B g G n : Nat} {un : Int} {xs : List Nat} {w w' : World} {S : Nat → Prop} (h : BufAt B g G n un xs w) (ht : Turns S w w') (hg : ¬ S g) (hG : ¬ S G) : BufAt B g G n un xs w' := by
  obtain ⟨st, rs, hB, hO, hH⟩ := h
  exact ⟨st, rs, ht.blk hB hg, hO.turned ht (fun k e => by cases e; exact hG), hH⟩
theorem bts_turnedN {S : Nat → Prop} {w w' : World} {a : Option Addr} {xs : List Nat} (Y : Bts w a xs) (h : Turns S w w') (hS : ∀ b o, a = some ⟨b, o, none⟩ → 0 < xs.length → ¬ S b) : Bts w' a xs := by
  by_cases h0 : 0 < xs.length
  · exact Y.turned h (fun b o e => hS b o e h0)
  · obtain rfl : xs = [] := List.eq_nil_of_length_eq_zero (by omega)
    exact Bts.nil _ _
theorem Btw.turns {B C : Nat} {w w' : World} (h : Btw B C w w') : Turns (fun k => B ≤ k ∧ k < C) w w' := ⟨h.os, h.tape, h.output, h.size, fun k hk hs => h.block k hk (by
  by_cases h1 : k < B
  · exact .inl h1
  · exact .inr (by by_cases h2 : k < C
                   · exact absurd ⟨Nat.le_of_not_lt h1, h2⟩ hs
                   · omega))⟩
set_option maxRecDepth 100000 in
set_option maxHeartbeats 8000000 in
theorem walk (sz : Int) (first : Nat) (la : Option Addr) (l : List Step15) (lc : Nat) (w : World) (_sl : -9223372036854775808 ≤ sz) (_sh : sz ≤ 9223372036854775807) (hf : first < 4294967296) (ht : Sts 4 Step15.cells Step15.ok w la l) (_hlc : la = none → lc = 0) (_hll : l.length ≤ 2932031007317) :
    Calls Try.prog 4 #[.int .i64 sz, .int .u32 first, .slice la l.length lc] w fun e w' => e = .returned (.bool true) ∧ Below w.heap.size w w' := by
  obtain ⟨fi, hfi⟩ : ∃ z : Int, (first : Int) = z := ⟨_, rfl⟩
  have f0 : 0 ≤ fi := by omega
  have f1 : fi < 4294967296 := by omega
  rw [hfi]
  clear hfi hf
  have HT := Lib.hid ht
  go_enter Try.func4, Try.ntmps4
  go_wp2_with fail
  by_cases hsz : 1 ≤ sz ∧ sz ≤ 1048576
  case neg =>
    refine (new_no sz fi _ hsz).mono ?_
    rintro e w' ⟨rfl, rfl⟩
    go_wp2_with fail
    refine (rnew_no sz fi _ hsz).mono ?_
    rintro e w' ⟨rfl, rfl⟩
    go_wp2_with fail
    refine (num_any _ _).mono ?_
    rintro e w' ⟨rfl, rfl⟩
    go_wp2_with fail
    go_loopw [11] (fun vi wr => vi = .int .i64 0 ∧ w = wr) (fun _ _ => 0)
    case atStart => exact ⟨rfl, rfl⟩
    case round =>
      obtain ⟨rfl, rfl⟩ := hrel
      go_wp2_with fail
      refine (alive_any _).mono ?_
      rintro e w' ⟨rfl, b⟩
      go_wp2
      go_ret
      exact ⟨rfl, b⟩
  case pos =>
    obtain ⟨n, rfl⟩ : ∃ n : Nat, sz = n := ⟨sz.toNat, by omega⟩
    have n0 : 1 ≤ n := by omega
    have n1 : n ≤ 1048576 := by omega
    refine (new_ok n fi _ n0 n1).mono ?_
    rintro e V1 ⟨⟨g, rfl, hg, hB, hO⟩, b⟩
    have hok : BufOk w.heap.size g w.heap.size n := ⟨by omega, by omega, n0, n1⟩
    have B1 : Hid (BufAt w.heap.size g w.heap.size n fi [] V1) := Lib.hid ⟨0, List.replicate n 0, hB, hO, Holds.nil (by simp) (by omega)⟩
    have hgC : g < V1.heap.size := blk_lt hB
    have hGC : w.heap.size < V1.heap.size := by omega
    have Q1 := Lib.hid b
    clear hB hO b
    go_wp2_with fail
    refine (rnew_ok n fi _ n0 n1).mono ?_
    rintro e V2 ⟨rfl, hV2⟩
    have ba : Below V1.heap.size V1 V2 := by rw [hV2]; exact (Below.refl _ _).alloc (Nat.le_refl _) _
    have R2 : Hid (RbAt (V1.heap.size + 1) (fun k => V1.heap.size + 1 ≤ k ∧ k < V2.heap.size) V1.heap.size n fi [] V2) := Lib.hid ⟨none, 0, by rw [hV2]; exact blk_new V1 _, ownT_nil _ _, fun k o e => by cases e⟩
    have B2 := Lib.hid (B1.out.below ba)
    have Q2 := Lib.hid (Q1.out.trans (ba.mono Q1.out.size))
    have hC2 : V1.heap.size + 1 ≤ V2.heap.size := by rw [hV2]; simp
    clear hV2 ba B1 Q1
    obtain ⟨C, hC⟩ : ∃ C, V1.heap.size + 1 = C := ⟨_, rfl⟩
    rw [hC] at R2 hC2
    have hC' := hC
    have hVC : V1.heap.size < C := by omega
    clear hC
    go_wp2_with fail
    refine (num_any _ _).mono ?_
    rintro e w' ⟨rfl, rfl⟩
    go_wp2_with fail
    go_loopw [11] (fun vi wr => ∃ (i : Nat) (un : Int) (xs : List Nat), i ≤ l.length ∧ vi = .int .i64 i ∧ (0 ≤ un ∧ un < 4294967296) ∧ BufAt w.heap.size g w.heap.size n un xs wr ∧ RbAt C (fun k => C ≤ k ∧ k < wr.heap.size) V1.heap.size n un xs wr ∧ C ≤ wr.heap.size ∧ Below w.heap.size w wr) (fun vi _ => l.length - (intOf vi).toNat)
    case atStart => exact ⟨0, fi, [], by omega, rfl, ⟨f0, f1⟩, B2.out, R2.out, hC2, Q2.out⟩
    case round =>
      obtain ⟨i, un, xs, hi, rfl, hu, hB, hR, hCr, hq⟩ := hrel
      have BR := Lib.hid hB
      have RR0 := Lib.hid hR
      have QR := Lib.hid hq
      clear hB hR hq B2 R2 Q2 hC2
      by_cases hlt : i < l.length
      case neg =>
        obtain rfl : i = l.length := by omega
        go_wp2_with fail
        refine (alive_any _).mono ?_
        rintro e w' ⟨rfl, b⟩
        have QF := QR.out.trans (b.mono QR.out.size)
        go_wp2
        go_ret
        exact ⟨rfl, QF⟩
      case pos =>
        have i1 : (i : Int) < (l.length : Int) := by omega
        obtain ⟨r, hr⟩ : ∃ r, l[i]? = some r := ⟨_, List.getElem?_eq_getElem hlt⟩
        obtain ⟨hrok, lb, lo, rfl, hlb, hlc⟩ := HT.out.at hr
        obtain ⟨wh, sq, nn, da, ds, dc⟩ := r
        have l0 : w.cell? ⟨lb, lo + i * 4, none⟩ = some (.int .i64 wh) := hlc 0 _ rfl
        have l1 : w.cell? ⟨lb, lo + i * 4 + 1, none⟩ = some (.int .u32 (sq : Nat)) := hlc 1 _ rfl
        have l2 : w.cell? ⟨lb, lo + i * 4 + 2, none⟩ = some (.int .i64 nn) := hlc 2 _ rfl
        have l3 : w.cell? ⟨lb, lo + i * 4 + 3, none⟩ = some (.slice da ds.length dc) := hlc 3 _ rfl
        have m0 := (QR.out.cell (p := ⟨lb, lo + i * 4, none⟩) hlb).trans l0
        have m1 := (QR.out.cell (p := ⟨lb, lo + i * 4 + 1, none⟩) hlb).trans l1
        have m2 := (QR.out.cell (p := ⟨lb, lo + i * 4 + 2, none⟩) hlb).trans l2
        have m3 := (QR.out.cell (p := ⟨lb, lo + i * 4 + 3, none⟩) hlb).trans l3
        have HOK := Lib.hid hrok
        clear hrok hlc l0 l1 l2 l3 hr
        go_upto_region 9 with fail
        have hsw := QR.out.size
        have ba := (Below.refl wr.heap.size wr).alloc (Nat.le_refl _) (.cells #[.int .i64 wh, .int .u32 (sq : Nat), .int .i64 nn, .slice da ds.length dc] 38)
        have XB0 := blk_new wr (.cells #[.int .i64 wh, .int .u32 (sq : Nat), .int .i64 nn, .slice da ds.length dc] 38)
        have B3 := Lib.hid (BR.out.below ba)
        have R3 := Lib.hid (RR0.out.below ba)
        have Q3 := Lib.hid (QR.out.trans (ba.mono QR.out.size))
        have hsz3 : wr.heap.size < (wr.alloc (.cells #[.int .i64 wh, .int .u32 (sq : Nat), .int .i64 nn, .slice da ds.length dc] 38)).heap.size := by simp
        have D3 := Lib.hid (HOK.out.2.2.2.1.below (QR.out.trans (ba.mono QR.out.size)))
        have hfit := BR.out.fit
        clear BR RR0 QR m0 m1 m2 m3 ba
        generalize wr.alloc (.cells #[.int .i64 wh, .int .u32 (sq : Nat), .int .i64 nn, .slice da ds.length dc] 38) = V3 at XB0 B3 R3 Q3 hsz3 D3 ⊢
        have XB := Lib.hid XB0
        have x0 := blk_cell XB0 0
        have x1 := blk_cell XB0 1
        have x2 := blk_cell XB0 2
        have x3 := blk_cell XB0 3
        clear XB0
        obtain ⟨qq, hqq⟩ : ∃ z : Int, (sq : Int) = z := ⟨_, rfl⟩
        have hq01 : 0 ≤ qq ∧ qq < 4294967296 := by have h : sq < 4294967296 := HOK.out.2.1; omega
        rw [hqq] at x1 XB
        clear hqq
        by_cases hw0 : wh = 0
        case pos =>
          subst hw0
          go_wp2_with fail
          refine (copy_one da ds dc _ D3.out (by have h : ds.length ≤ 140737488351232 := HOK.out.2.2.2.2.2.2.2; omega) HOK.out.2.2.2.2.1).mono ?_
          rintro e V4 ⟨oa, oc, rfl, O, b⟩
          have hszb := b.size
          have X4 := Lib.hid ((b.block _ hsz3).trans XB.out)
          have B4 := Lib.hid (B3.out.below b)
          have R4 := Lib.hid (R3.out.below b)
          have Q4 := Lib.hid (Q3.out.trans (b.mono Q3.out.size))
          have D4 := Lib.hid (D3.out.below b)
          have OW4 := Lib.hid O
          have hOB : Hid (∀ k, oa = some ⟨k, 0, none⟩ → V3.heap.size ≤ k) := Lib.hid (fun k e => by
            rcases O.2 with ⟨e2, _⟩ | ⟨k2, e2, hk2, _⟩
            · rw [e] at e2; cases e2
            · rw [e] at e2; injection e2 with e2; injection e2 with e2; omega)
          clear O b B3 R3 Q3 D3 XB x0 x1 x2 x3
          obtain ⟨N, hN⟩ : ∃ N, min ds.length (n - xs.length) = N := ⟨_, rfl⟩
          obtain ⟨E, hE⟩ : ∃ E, (if ds.length = 0 then 0 else if N = 0 then 251 else 0) = E := ⟨_, rfl⟩
          have HN := Lib.hid hN
          have HE := Lib.hid hE
          have hNn : xs.length + N ≤ n := by omega
          clear hN hE
          go_wp2_with fail
          refine (write_at _ hok B4.out OW4.out.bts (fun k o e hl => by
            obtain ⟨k2, e2, _, _⟩ := OW4.out.isSome hl
            rw [e] at e2; injection e2 with e2; injection e2 with e2 e3; subst e2 e3
            have := hOB.out k e; omega) (by have h : ds.length ≤ 140737488351232 := HOK.out.2.2.2.2.2.2.2; omega) OW4.out.capLe.1 HN.out HE.out).mono ?_
          rintro e V5 ⟨rfl, hB5, t5⟩
          have hszb5 := t5.size
          have B5 := Lib.hid hB5
          have R5 := Lib.hid (R4.out.turned t5 (by omega) (fun k hk => by omega))
          have OW5 := Lib.hid (OW4.out.turned t5 (fun k e => by have := hOB.out k e; omega))
          have X5 := Lib.hid (t5.blk X4.out (by omega))
          have D5 := Lib.hid (bts_turnedN D4.out t5 (fun k o e hl h => by
            obtain ⟨k2, o2, e2, hk2, _⟩ := HOK.out.2.2.2.1.isSome hl
            have e3 : some (⟨k, o, none⟩ : Addr) = some ⟨k2, o2, none⟩ := e.symm.trans e2
            injection e3 with e3; injection e3 with e3 e4; omega))
          have Q5 := Lib.hid (Q4.out.trans (t5.below Q4.out.size (fun k hk => by omega)))
          clear hB5 t5 B4 R4 OW4 X4 D4 Q4
          have x3 := blk_cell X5.out 3
          go_wp2_with fail
          refine (rwrite_at _ R5.out hVC (by omega) n1 (by omega) D5.out HOK.out.2.2.2.2.1 HOK.out.2.2.2.2.2.1 HOK.out.2.2.2.2.2.2.1 HN.out HE.out).mono ?_
          rintro e V6 ⟨rfl, hR6, t6⟩
          have hszb6 := t6.size
          have R6 := Lib.hid hR6
          have B6 := Lib.hid (BufAt.turned' B5.out t6 (by omega) (by omega))
          have OW6 := Lib.hid (OW5.out.turned t6 (fun k e => by have := hOB.out k e; omega))
          have Q6 := Lib.hid (Q5.out.trans (t6.below Q5.out.size (fun k hk => by omega)))
          have hOC : Hid (∀ k, oa = some ⟨k, 0, none⟩ → k < V5.heap.size) := Lib.hid OW5.out.blkLt
          clear hR6 t6 B5 R5 OW5 X5 D5 Q5 x3
          go_wp2_with fail
          refine (spoil_own V3.heap.size V5.heap.size oc oa ds (by have h : ds.length ≤ 140737488351232 := HOK.out.2.2.2.2.2.2.2; omega) _ OW6.out hOC.out).mono ?_
          rintro e V7 ⟨⟨sv, rfl⟩, bt⟩
          have t7 := Btw.turns bt
          have hszb7 := t7.size
          have B7 := Lib.hid (BufAt.turned' B6.out t7 (by omega) (by omega))
          have R7 := Lib.hid (R6.out.turned t7 (by omega) (fun k hk => by omega))
          have Q7 := Lib.hid (Q6.out.trans (t7.below Q6.out.size (fun k hk => by omega)))
          clear bt t7 B6 R6 OW6 Q6
          have hC7 : C ≤ V7.heap.size := by omega
          obtain ⟨xs2, hxs2⟩ : ∃ z, xs ++ ds.take N = z := ⟨_, rfl⟩
          rw [hxs2] at B7 R7
          clear hxs2
          go_wp2_with fail
          refine (num_any _ _).mono ?_
          rintro e w' ⟨rfl, rfl⟩
          obtain ⟨st2, rs2, hb1, hb2, hb3⟩ := B7.out
          obtain ⟨ra, rc, hr1, hr2, hr3⟩ := R7.out
          have hfit2 := hb3.fit
          have hwr : IntKind.i64.wrap ((n : Int) - (xs2.length : Int)) = (n : Int) - (xs2.length : Int) := IntWalk.i64_in _ ⟨by omega, by omega⟩
          obtain ⟨ye, hye⟩ : ∃ z, (un + (xs2.length : Int) % 4294967296) % 4294967296 = z := ⟨_, rfl⟩
          have HYE := Lib.hid hye
          have HB1 := Lib.hid hb1
          have HR1 := Lib.hid hr1
          have cR : ∀ W, Below V7.heap.size V7 W → W.cell? ⟨V1.heap.size, 0, none⟩ = some (.int .i64 n) ∧ W.cell? ⟨V1.heap.size, 1, none⟩ = some (.int .u32 un) ∧ W.cell? ⟨V1.heap.size, 2, none⟩ = some (.slice ra xs2.length rc) := fun W hb => by
            have h := (hb.block _ (blk_lt HR1.out)).trans HR1.out
            exact ⟨blk_cell h 0, blk_cell h 1, blk_cell h 2⟩
          have HCR := Lib.hid cR
          have BD := Lib.hid (B7.out.below (Below.refl V7.heap.size V7).drew)
          have RD := Lib.hid (R7.out.below (Below.refl V7.heap.size V7).drew)
          have bD := Lib.hid ((Below.refl V7.heap.size V7).drew)
          have SS0 := Lib.hid (HCR.out _ bD.out)
          clear cR hb1 hb2 hb3 hr1 hr2 hr3 hye
          go_wp2_with fail
          go_region_held3 (fun W => W.cell? ⟨V1.heap.size, 0, none⟩ = some (.int .i64 n) ∧ W.cell? ⟨V1.heap.size, 1, none⟩ = some (.int .u32 un) ∧ W.cell? ⟨V1.heap.size, 2, none⟩ = some (.slice ra xs2.length rc)) (first | (with_reducible exact SS3.out) | (with_reducible exact SS2.out) | (with_reducible exact SS1.out) | (with_reducible exact SS0.out) | go_keep) (first
            | (go_at_call 26; (with_reducible refine (una_at _ BD.out).mono ?_); rintro e w' ⟨rfl, rfl⟩)
            | (go_at_call 27; (with_reducible refine (end_at _ BD.out HYE.out).mono ?_); rintro e E1 ⟨rfl, b⟩; have b1 := Lib.hid (bD.out.trans (b.mono bD.out.size)); have BD1 := Lib.hid (BD.out.below b); have RD1 := Lib.hid (RD.out.below b); have SS1 := Lib.hid (HCR.out _ b1.out); clear b)
            | (go_at_call 28; (with_reducible refine (rend_at _ RD1.out HYE.out).mono ?_); rintro e E2 ⟨rfl, b⟩; have b2 := Lib.hid (b1.out.trans (b.mono b1.out.size)); have BD2 := Lib.hid (BD1.out.below b); have SS2 := Lib.hid (HCR.out _ b2.out); clear b)
            | (go_at_call 29; (with_reducible refine (room_at _ hok BD2.out).mono ?_); rintro e E3 ⟨rfl, b⟩; have b3 := Lib.hid (b2.out.trans (b.mono b2.out.size)); have SS3 := Lib.hid (HCR.out _ b3.out); clear b))
          all_goals
            have BF := B7.out.below b3.out
            have RF := (R7.out.below b3.out).here
            have QF := Q7.out.trans (b3.out.mono Q7.out.size)
            have hCF := Nat.le_trans hC7 b3.out.size
            clear BD RD BD1 RD1 BD2 SS0 SS1 SS2 SS3 HCR HR1 HB1 B7 R7 Q7
            go_wp2
            go_roundw
            case rel => exact ⟨i + 1, un, xs2, by omega, by go_num, hu, BF, RF, hCF, QF⟩
            case measure => simp [intOf]; omega
        case neg =>
          by_cases hw1 : wh = 1
          case pos =>
            subst hw1
            obtain ⟨ys, E, hyl, hS, hR⟩ := slice_both hok un qq nn xs hfit
            have HS := Lib.hid hS
            have HR := Lib.hid hR
            clear hS hR
            go_wp2_with fail
            refine (HS.out _ B3.out).mono ?_
            rintro e V4 ⟨⟨pa, pc, rfl, O⟩, b⟩
            have hszb := b.size
            have X4 := Lib.hid ((b.block _ hsz3).trans XB.out)
            have B4 := Lib.hid (B3.out.below b)
            have R4 := Lib.hid (R3.out.below b)
            have Q4 := Lib.hid (Q3.out.trans (b.mono Q3.out.size))
            have O4 := Lib.hid O
            clear O b B3 R3 Q3 D3 XB x0 x1 x2 x3
            have x1 := blk_cell X4.out 1
            have x2 := blk_cell X4.out 2
            go_wp2_with fail
            refine (HR.out C V1.heap.size _ _ R4.out).mono ?_
            rintro e V5 ⟨⟨qa, qc, rfl, Y⟩, b⟩
            have hszb5 := b.size
            have B5 := Lib.hid (B4.out.below b)
            have R5 := Lib.hid (R4.out.below b)
            have Q5 := Lib.hid (Q4.out.trans (b.mono Q4.out.size))
            have O5 := Lib.hid (O4.out.below b)
            have Y5 := Lib.hid Y
            clear Y b B4 R4 Q4 O4 X4 x1 x2
            go_wp2_with fail
            refine (same_one pa qa ys ys pc qc _ O5.out.bts Y5.out (by omega) (by omega) rfl).mono ?_
            rintro e V6 ⟨rfl, b⟩
            have hszb6 := b.size
            have B6 := Lib.hid (B5.out.below b)
            have R6 := Lib.hid (R5.out.below b)
            have Q6 := Lib.hid (Q5.out.trans (b.mono Q5.out.size))
            have O6 := Lib.hid (O5.out.below b)
            clear b B5 R5 Q5 O5 Y5
            go_wp2_with fail
            refine (num_any _ _).mono ?_
            rintro e w' ⟨rfl, rfl⟩
            go_wp2_with fail
            refine (spoil_own V3.heap.size V6.heap.size pc pa ys (by omega) _ O6.out O6.out.blkLt).mono ?_
            rintro e V7 ⟨⟨sv, rfl⟩, bt⟩
            have t7 := Btw.turns bt
            have hszb7 := t7.size
            have B7 := Lib.hid (BufAt.turned' B6.out t7 (by omega) (by omega))
            have R7 := Lib.hid (R6.out.turned t7 (by omega) (fun k hk => by omega))
            have Q7 := Lib.hid (Q6.out.trans (t7.below Q6.out.size (fun k hk => by omega)))
            clear bt t7 B6 R6 O6 Q6
            have hC7 : C ≤ V7.heap.size := by omega
            obtain ⟨st2, rs2, hb1, hb2, hb3⟩ := B7.out
            obtain ⟨ra, rc, hr1, hr2, hr3⟩ := R7.out
            have hfit2 := hb3.fit
            have hwr : IntKind.i64.wrap ((n : Int) - (xs.length : Int)) = (n : Int) - (xs.length : Int) := IntWalk.i64_in _ ⟨by omega, by omega⟩
            obtain ⟨ye, hye⟩ : ∃ z, (un + (xs.length : Int) % 4294967296) % 4294967296 = z := ⟨_, rfl⟩
            have HYE := Lib.hid hye
            have HB1 := Lib.hid hb1
            have HR1 := Lib.hid hr1
            have cR : ∀ W, Below V7.heap.size V7 W → W.cell? ⟨V1.heap.size, 0, none⟩ = some (.int .i64 n) ∧ W.cell? ⟨V1.heap.size, 1, none⟩ = some (.int .u32 un) ∧ W.cell? ⟨V1.heap.size, 2, none⟩ = some (.slice ra xs.length rc) := fun W hb => by
              have h := (hb.block _ (blk_lt HR1.out)).trans HR1.out
              exact ⟨blk_cell h 0, blk_cell h 1, blk_cell h 2⟩
            have HCR := Lib.hid cR
            have BD := Lib.hid (B7.out.below (Below.refl V7.heap.size V7).drew)
            have RD := Lib.hid (R7.out.below (Below.refl V7.heap.size V7).drew)
            have bD := Lib.hid ((Below.refl V7.heap.size V7).drew)
            have SS0 := Lib.hid (HCR.out _ bD.out)
            clear cR hb1 hb2 hb3 hr1 hr2 hr3 hye
            go_wp2_with fail
            go_region_held3 (fun W => W.cell? ⟨V1.heap.size, 0, none⟩ = some (.int .i64 n) ∧ W.cell? ⟨V1.heap.size, 1, none⟩ = some (.int .u32 un) ∧ W.cell? ⟨V1.heap.size, 2, none⟩ = some (.slice ra xs.length rc)) (first | (with_reducible exact SS3.out) | (with_reducible exact SS2.out) | (with_reducible exact SS1.out) | (with_reducible exact SS0.out) | go_keep) (first
              | (go_at_call 26; (with_reducible refine (una_at _ BD.out).mono ?_); rintro e w' ⟨rfl, rfl⟩)
              | (go_at_call 27; (with_reducible refine (end_at _ BD.out HYE.out).mono ?_); rintro e E1 ⟨rfl, b⟩; have b1 := Lib.hid (bD.out.trans (b.mono bD.out.size)); have BD1 := Lib.hid (BD.out.below b); have RD1 := Lib.hid (RD.out.below b); have SS1 := Lib.hid (HCR.out _ b1.out); clear b)
              | (go_at_call 28; (with_reducible refine (rend_at _ RD1.out HYE.out).mono ?_); rintro e E2 ⟨rfl, b⟩; have b2 := Lib.hid (b1.out.trans (b.mono b1.out.size)); have BD2 := Lib.hid (BD1.out.below b); have SS2 := Lib.hid (HCR.out _ b2.out); clear b)
              | (go_at_call 29; (with_reducible refine (room_at _ hok BD2.out).mono ?_); rintro e E3 ⟨rfl, b⟩; have b3 := Lib.hid (b2.out.trans (b.mono b2.out.size)); have SS3 := Lib.hid (HCR.out _ b3.out); clear b))
            all_goals
              have BF := B7.out.below b3.out
              have RF := (R7.out.below b3.out).here
              have QF := Q7.out.trans (b3.out.mono Q7.out.size)
              have hCF := Nat.le_trans hC7 b3.out.size
              clear BD RD BD1 RD1 BD2 SS0 SS1 SS2 SS3 HCR HR1 HB1 B7 R7 Q7
              go_wp2
              go_roundw
              case rel => exact ⟨i + 1, un, xs, by omega, by go_num, hu, BF, RF, hCF, QF⟩
              case measure => simp [intOf]; omega
          case neg =>
            by_cases hw2 : wh = 2
            case pos =>
              subst hw2
              obtain ⟨d, E, un2, xs2, hx2, hu2, hS, hR⟩ := ack_both hok un qq xs hfit hu hq01
              have HS := Lib.hid hS
              have HR := Lib.hid hR
              clear hS hR
              go_wp2_with fail
              refine (HS.out _ B3.out).mono ?_
              rintro e V4 ⟨rfl, hB4, t4⟩
              have hszb := t4.size
              have X4 := Lib.hid (t4.blk XB.out (by omega))
              have B4 := Lib.hid hB4
              have R4 := Lib.hid (R3.out.turned t4 (by omega) (fun k hk => by omega))
              have Q4 := Lib.hid (Q3.out.trans (t4.below Q3.out.size (fun k hk => by omega)))
              clear hB4 t4 B3 R3 Q3 D3 XB x0 x1 x2 x3
              have x1 := blk_cell X4.out 1
              go_wp2_with fail
              refine (HR.out C V1.heap.size _ _ hVC R4.out).mono ?_
              rintro e V7 ⟨rfl, hR5, t5⟩
              have hszb5 := t5.size
              have R7 := Lib.hid hR5
              have B7 := Lib.hid (BufAt.turned' B4.out t5 (by omega) (by omega))
              have Q7 := Lib.hid (Q4.out.trans (t5.below Q4.out.size (fun k hk => by omega)))
              clear hR5 t5 B4 R4 Q4 X4 x1
              have hC7 : C ≤ V7.heap.size := by omega
              go_wp2_with fail
              refine (num_any _ _).mono ?_
              rintro e w' ⟨rfl, rfl⟩
              obtain ⟨st2, rs2, hb1, hb2, hb3⟩ := B7.out
              obtain ⟨ra, rc, hr1, hr2, hr3⟩ := R7.out
              have hfit2 := hb3.fit
              have hwr : IntKind.i64.wrap ((n : Int) - (xs2.length : Int)) = (n : Int) - (xs2.length : Int) := IntWalk.i64_in _ ⟨by omega, by omega⟩
              obtain ⟨ye, hye⟩ : ∃ z, (un2 + (xs2.length : Int) % 4294967296) % 4294967296 = z := ⟨_, rfl⟩
              have HYE := Lib.hid hye
              have HB1 := Lib.hid hb1
              have HR1 := Lib.hid hr1
              have cR : ∀ W, Below V7.heap.size V7 W → W.cell? ⟨V1.heap.size, 0, none⟩ = some (.int .i64 n) ∧ W.cell? ⟨V1.heap.size, 1, none⟩ = some (.int .u32 un2) ∧ W.cell? ⟨V1.heap.size, 2, none⟩ = some (.slice ra xs2.length rc) := fun W hb => by
                have h := (hb.block _ (blk_lt HR1.out)).trans HR1.out
                exact ⟨blk_cell h 0, blk_cell h 1, blk_cell h 2⟩
              have HCR := Lib.hid cR
              have BD := Lib.hid (B7.out.below (Below.refl V7.heap.size V7).drew)
              have RD := Lib.hid (R7.out.below (Below.refl V7.heap.size V7).drew)
              have bD := Lib.hid ((Below.refl V7.heap.size V7).drew)
              have SS0 := Lib.hid (HCR.out _ bD.out)
              clear cR hb1 hb2 hb3 hr1 hr2 hr3 hye
              go_wp2_with fail
              go_region_held3 (fun W => W.cell? ⟨V1.heap.size, 0, none⟩ = some (.int .i64 n) ∧ W.cell? ⟨V1.heap.size, 1, none⟩ = some (.int .u32 un2) ∧ W.cell? ⟨V1.heap.size, 2, none⟩ = some (.slice ra xs2.length rc)) (first | (with_reducible exact SS3.out) | (with_reducible exact SS2.out) | (with_reducible exact SS1.out) | (with_reducible exact SS0.out) | go_keep) (first
                | (go_at_call 26; (with_reducible refine (una_at _ BD.out).mono ?_); rintro e w' ⟨rfl, rfl⟩)
                | (go_at_call 27; (with_reducible refine (end_at _ BD.out HYE.out).mono ?_); rintro e E1 ⟨rfl, b⟩; have b1 := Lib.hid (bD.out.trans (b.mono bD.out.size)); have BD1 := Lib.hid (BD.out.below b); have RD1 := Lib.hid (RD.out.below b); have SS1 := Lib.hid (HCR.out _ b1.out); clear b)
                | (go_at_call 28; (with_reducible refine (rend_at _ RD1.out HYE.out).mono ?_); rintro e E2 ⟨rfl, b⟩; have b2 := Lib.hid (b1.out.trans (b.mono b1.out.size)); have BD2 := Lib.hid (BD1.out.below b); have SS2 := Lib.hid (HCR.out _ b2.out); clear b)
                | (go_at_call 29; (with_reducible refine (room_at _ hok BD2.out).mono ?_); rintro e E3 ⟨rfl, b⟩; have b3 := Lib.hid (b2.out.trans (b.mono b2.out.size)); have SS3 := Lib.hid (HCR.out _ b3.out); clear b))
              all_goals
                have BF := B7.out.below b3.out
                have RF := (R7.out.below b3.out).here
                have QF := Q7.out.trans (b3.out.mono Q7.out.size)
                have hCF := Nat.le_trans hC7 b3.out.size
                clear BD RD BD1 RD1 BD2 SS0 SS1 SS2 SS3 HCR HR1 HB1 B7 R7 Q7
                go_wp2
                go_roundw
                case rel => exact ⟨i + 1, un2, xs2, by omega, by go_num, hu2, BF, RF, hCF, QF⟩
                case measure => simp [intOf]; omega
            case neg =>
              have hb0 : (wh == 0) = false := by rw [beq_eq_false_iff_ne]; exact hw0
              have hb1 : (wh == 1) = false := by rw [beq_eq_false_iff_ne]; exact hw1
              have hb2 : (wh == 2) = false := by rw [beq_eq_false_iff_ne]; exact hw2
              have hC3 : C ≤ V3.heap.size := by omega
              clear D3 XB x1 x2 x3
              obtain ⟨st2, rs2, hb1, hb2, hb3⟩ := B3.out
              obtain ⟨ra, rc, hr1, hr2, hr3⟩ := R3.out
              have hfit2 := hb3.fit
              have hwr : IntKind.i64.wrap ((n : Int) - (xs.length : Int)) = (n : Int) - (xs.length : Int) := IntWalk.i64_in _ ⟨by omega, by omega⟩
              obtain ⟨ye, hye⟩ : ∃ z, (un + (xs.length : Int) % 4294967296) % 4294967296 = z := ⟨_, rfl⟩
              have HYE := Lib.hid hye
              have HB1 := Lib.hid hb1
              have HR1 := Lib.hid hr1
              have cR : ∀ W, Below V3.heap.size V3 W → W.cell? ⟨V1.heap.size, 0, none⟩ = some (.int .i64 n) ∧ W.cell? ⟨V1.heap.size, 1, none⟩ = some (.int .u32 un) ∧ W.cell? ⟨V1.heap.size, 2, none⟩ = some (.slice ra xs.length rc) := fun W hb => by
                have h := (hb.block _ (blk_lt HR1.out)).trans HR1.out
                exact ⟨blk_cell h 0, blk_cell h 1, blk_cell h 2⟩
              have HCR := Lib.hid cR
              have BD := Lib.hid (B3.out.below (Below.refl V3.heap.size V3).drew)
              have RD := Lib.hid (R3.out.below (Below.refl V3.heap.size V3).drew)
              have bD := Lib.hid ((Below.refl V3.heap.size V3).drew)
              have SS0 := Lib.hid (HCR.out _ bD.out)
              clear cR hb1 hb2 hb3 hr1 hr2 hr3 hye
              go_wp2_with fail
              go_region_held3 (fun W => W.cell? ⟨V1.heap.size, 0, none⟩ = some (.int .i64 n) ∧ W.cell? ⟨V1.heap.size, 1, none⟩ = some (.int .u32 un) ∧ W.cell? ⟨V1.heap.size, 2, none⟩ = some (.slice ra xs.length rc)) (first | (with_reducible exact SS3.out) | (with_reducible exact SS2.out) | (with_reducible exact SS1.out) | (with_reducible exact SS0.out) | go_keep) (first
                | (go_at_call 26; (with_reducible refine (una_at _ BD.out).mono ?_); rintro e w' ⟨rfl, rfl⟩)
                | (go_at_call 27; (with_reducible refine (end_at _ BD.out HYE.out).mono ?_); rintro e E1 ⟨rfl, b⟩; have b1 := Lib.hid (bD.out.trans (b.mono bD.out.size)); have BD1 := Lib.hid (BD.out.below b); have RD1 := Lib.hid (RD.out.below b); have SS1 := Lib.hid (HCR.out _ b1.out); clear b)
                | (go_at_call 28; (with_reducible refine (rend_at _ RD1.out HYE.out).mono ?_); rintro e E2 ⟨rfl, b⟩; have b2 := Lib.hid (b1.out.trans (b.mono b1.out.size)); have BD2 := Lib.hid (BD1.out.below b); have SS2 := Lib.hid (HCR.out _ b2.out); clear b)
                | (go_at_call 29; (with_reducible refine (room_at _ hok BD2.out).mono ?_); rintro e E3 ⟨rfl, b⟩; have b3 := Lib.hid (b2.out.trans (b.mono b2.out.size)); have SS3 := Lib.hid (HCR.out _ b3.out); clear b))
              all_goals
                have BF := B3.out.below b3.out
                have RF := (R3.out.below b3.out).here
                have QF := Q3.out.trans (b3.out.mono Q3.out.size)
                have hCF := Nat.le_trans hC3 b3.out.size
                clear BD RD BD1 RD1 BD2 SS0 SS1 SS2 SS3 HCR HR1 HB1 B3 R3 Q3
                go_wp2
                go_roundw
                case rel => exact ⟨i + 1, un, xs, by omega, by go_num, hu, BF, RF, hCF, QF⟩
                case measure => simp [intOf]; omega

theorem own : ownKnob Try.prog.godebug = none := by kernel_rfl
theorem laidOut : laidOutB Try.prog = true := by kernel_rfl

set_option maxRecDepth 100000 in
set_option maxHeartbeats 2000000 in
theorem lifted (os : Os) (started : os.Started) (H : Type) (enc : TypeId × Value → H) :
    ReturnsInHanded {} Try.checked os 4 .any (Rows.sendbufPlaysSpec.pre6 enc Try.prog Try.f4 Rows.sendbufPlaysRow.domain false) (Rows.sendbufPlaysSpec.post enc Try.prog Try.f4 false true false false) := by
  refine returnsInHanded_of_change_sized (C := Try.checked) own started (by kernel_rfl) Try.func4
    (ChangeSpec.witness6 (enc := enc) (C := Try.checked) false ⟨#[], #[.int .i64 0, .int .u32 0, .slice none 0 0], []⟩ 8 (by kernel_rfl) (by kernel_rfl) (by kernel_rfl) (by kernel_rfl)) ?_
  intro W base args ds gs before hval0 hW hcnd hsz0 _
  have hval : ∀ (j : Nat) t v, Try.f4.params[j]? = some t → args[j]? = some v → Value.okWide Try.prog W .any base t v := hval0
  have hsz : (DataW.weightsEach Try.prog (Try.f4.params.toList ++ Rows.sendbufPlaysSpec.plain.varTypes Try.prog) (ds ++ gs)).all (· ≤ reachBytes) = true := hsz0
  have hW' := hW
  obtain ⟨p, q, hA0, hV, rfl, hfz, hnd⟩ := hW
  have hA : DataW.TrodAll enc Try.prog W 0 (fun _ => true) true Try.f4.params.toList args.toList ds p := hA0
  rw [Try.params4] at hA hval hsz
  obtain ⟨v0, vs0, d0, ds0, p0, q0, hargs, rfl, rfl, h0, r0⟩ := trodAll_cons hA
  obtain ⟨v1, vs1, d1, ds1, p1, q1, rfl, rfl, rfl, h1, r1⟩ := trodAll_cons r0
  obtain ⟨v2, vs2, d2, ds2, p2, q2, rfl, rfl, rfl, h2, r2⟩ := trodAll_cons r1
  obtain ⟨rfl, rfl, rfl⟩ := trodAll_nil r2
  obtain rfl : args = #[v0, v1, v2] := by cases args; simp_all
  obtain ⟨rfl, rfl⟩ := trodVars_none hV
  obtain ⟨a0, rfl, rfl, rfl, w0⟩ := open_int Try.underlying3 (hval 0 3 v0 rfl rfl) h0
  obtain ⟨a1, rfl, rfl, rfl, w1⟩ := open_int Try.underlying22 (hval 1 22 v1 rfl rfl) h1
  obtain ⟨a2, len2, cap2, rfl⟩ := okWide_slice Try.underlying27 (hval 2 27 v2 rfl rfl)
  have k2 := h2
  have lt2 : ∀ x ∈ p2, x.block < W.heap.size := by obtain ⟨m, hm⟩ := k2; exact DataW.trod_lt m _ _ _ hm
  obtain ⟨xs2, hxl2, hbt2, hcap2, hre2⟩ : ∃ xs : List Step15, xs.length = len2 ∧ Sts 4 Step15.cells Step15.ok W a2 xs ∧ (a2 = none → cap2 = 0) ∧ xs.length ≤ 2932031007317 := by
    obtain ⟨fuel, hf⟩ := h2
    have hwt : ∀ n ∈ d2.weights Try.prog 27, n ≤ reachBytes := fun n hn => by simpa using List.all_eq_true.1 hsz _ (DataW.weights_mem_each (j := 2) (t := 27) rfl rfl n hn)
    obtain ⟨x, rs, c, hv, hs, hnc, _, hq⟩ := open_Step15s (c := .slice a2 len2 cap2) hf hwt
    simp only [Value.slice.injEq] at hv
    obtain ⟨rfl, rfl, rfl⟩ := hv
    have hw := sts_reach Try.underlying27 hq (fun n hn => by simpa using List.all_eq_true.1 hsz _ (DataW.weights_mem_each (j := 2) (t := 27) rfl rfl n hn))
    rw [show Try.prog.bytesOf 38 = 48 from by kernel_rfl] at hw
    simp only [reachBytes] at hw
    exact ⟨rs, rfl, hs, hnc, by omega⟩
  clear hA0 hval0 hsz hsz0
  obtain ⟨lo0, hi0⟩ := bounds_i64 w0
  obtain ⟨n1, rfl, hn1⟩ := nat_of_u32 w1
  subst hxl2
  refine (walk a0 n1 a2 xs2 cap2 W lo0 hi0 hn1 hbt2 hcap2 hre2).mono fun e W' ⟨he, bel⟩ => ?_
  subst he
  exact ⟨_, rfl, _, _, _, [], _, [], hW', trodAll_mk1 (shut_bool Try.underlying4 _), (trodAll_cons_mk (shut_int Try.underlying3 w0) (trodAll_cons_mk (shut_int Try.underlying22 w1) (trodAll_cons_mk (Below.trod laidOut (by kernel_rfl) (of_decide_eq_true (by kernel_rfl)) k2 bel lt2) trodAll_mk0))), rfl, bel.frame _, fun h => by cases h⟩

theorem over : Rows.sendbufPlaysRow.holds Try.pinned (OpenSpec.ofChange Rows.sendbufPlaysSpec) :=
  OpenClaim.holds_of_wide 4 Try.f4 rfl rfl rfl rfl rfl rfl rfl ⟨rfl, rfl, rfl, rfl, rfl⟩ rfl rfl rfl rfl rfl (by kernel_rfl) Try.func4 (by kernel_rfl)
    (of_decide_eq_true (by kernel_rfl)) (by unfold Func.isWrapper; first | (rw [if_pos (by decide +kernel)]; kernel_rfl) | (rw [if_neg (by decide +kernel)]; exact ⟨rfl, rfl⟩))
    (fun os started H enc _ => lifted os started H enc)

end Go.Proofs.Ytfdaenogefodhaa.sendbufPlays
namespace Go.Proofs.Ytfdaenogefodhaa
/-- The statement. -/
theorem sendbufPlays_holds : Rows.SendbufPlaysSaid := sendbufPlays.over
#print axioms sendbufPlays_holds
end Go.Proofs.Ytfdaenogefodhaa
