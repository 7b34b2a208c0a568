/- For every size, first number and list of calls: a buffer answers any calls as the page's does: what is ready, the window, the blocks. No condition. -/
import Derived.Test.YtknebjfdggimcaaRows
import Derived.Test.YtknebjfdggimcaaRvWo
import Derived.Test.YtknebjfdggimcaaGStep16
import Derived.Test.YtknebjfdggimcaaGFrame
import Derived.Test.YtknebjfdggimcaaGPlain
import Derived.Test.YtknebjfdggimcaaGSpoil
import Derived.Test.YtknebjfdggimcaaGAgg
import Derived.Deep.DeepCutAuto
import Derived.RegionTactic
import Derived.Deep.RegionHeld3
import Derived.ProofKit
import Derived.OpenShut
import Derived.ChangeOld
import Derived.SizedLaws
namespace Go.Proofs.Ytknebjfdggimcaa.recvbufPlays
open Go.ChangeShapes Go.WideShapes Go.ChangeAt Go.RowKit Go.Deep Go.Proofs.Ytknebjfdggimcaa.Rv

set_option maxRecDepth 100000 in
set_option maxHeartbeats 8000000 in
theorem walk (sz : Int) (first : Nat) (la : Option Addr) (l : List Step16) (lc : Nat) (w : World) (_sl : -9223372036854775808 ≤ sz) (_sh : sz ≤ 9223372036854775807) (hf : first < 4294967296) (ht : Sts 4 Step16.cells Step16.ok w la l) (_hlc : la = none → lc = 0) (_hll : l.length ≤ 2932031007317) :
    Calls Try.prog 3 #[.int .i64 sz, .int .u32 (first : Nat), .slice la l.length lc] w fun e w' => e = .returned (.bool true) ∧ Below w.heap.size w w' := by
  have HT := Lib.hid ht
  go_enter Try.func3, Try.ntmps3
  go_wp2_with fail
  by_cases hsz : 1 ≤ sz ∧ sz ≤ 1048576
  case neg =>
    refine (new_no sz first _ hsz).mono ?_
    rintro e w' ⟨rfl, rfl⟩
    go_wp2_with fail
    refine (rnew_no sz first _ hsz).mono ?_
    rintro e w' ⟨rfl, rfl⟩
    go_wp2_with fail
    refine (num_any _ _).mono ?_
    rintro e w' ⟨rfl, rfl⟩
    go_wp2_with fail
    go_loopw [11] (fun vi wr => vi = .int .i64 0 ∧ w = wr) (fun _ _ => 0)
    case atStart => exact ⟨rfl, rfl⟩
    case round =>
      obtain ⟨rfl, rfl⟩ := hrel
      go_wp2_with fail
      refine (alive_any _).mono ?_
      rintro e w' ⟨rfl, b⟩
      go_wp2
      go_ret
      exact ⟨rfl, b⟩
  case pos =>
    obtain ⟨n, rfl⟩ : ∃ n : Nat, sz = n := ⟨sz.toNat, by omega⟩
    have n0 : 1 ≤ n := by omega
    have n1 : n ≤ 1048576 := by omega
    refine (new_ok n first _ n0 n1).mono ?_
    rintro e V1 ⟨g, rfl, hg0, hg1, hR, b⟩
    have HR1 := Lib.hid hR
    have Q1 := Lib.hid b
    have hsV := b.size
    clear hR b
    go_wp2_with fail
    refine (rnew_ok n first _ n0 n1).mono ?_
    rintro e V2 ⟨rfl, hV2⟩
    have ba : Below V1.heap.size V1 V2 := by rw [hV2]; exact (Below.refl _ _).alloc (Nat.le_refl _) _
    have hDA : DA w.heap.size (fun k => k = V1.heap.size) V1.heap.size none 0 none 0 [] ⟨n, first, [], [], 0⟩ V2 := by rw [hV2]; exact da_new _ _ _ _
    have hs2 : V2.heap.size = V1.heap.size + 1 := by rw [hV2]; simp
    obtain ⟨gb, hgb⟩ : ∃ z, V1.heap.size = z := ⟨_, rfl⟩
    rw [hgb] at hg1 hDA hs2 hsV
    have hJ0 : J w.heap.size g gb 0 ⟨w.heap.size, none, 0, newF n first, none, 0, none, 0, [], ⟨n, first, [], [], 0⟩, fun k => k = gb, []⟩ V2 :=
      ⟨new_okF n0 n1 hf, rel_new n first, Nat.zero_le _, Nat.zero_le _, rv_turned HR1.out (Turns.of_below (fun _ => False) ba) (fun _ _ h => h), hDA, fun k hk => (by
        have hk2 : k = gb := hk
        subst hk2
        refine ⟨by omega, by omega, ?_⟩
        rintro (h | h | h)
        · omega
        · have h2 : k = w.heap.size := h
          omega
        · cases h), by show w.heap.size < _; omega, Nat.le_refl _⟩
    have J2 := Lib.hid hJ0
    have Q2 := Lib.hid (Q1.out.trans (ba.mono Q1.out.size))
    rw [hgb]
    clear hV2 ba hDA hs2 hgb hJ0 HR1 Q1
    go_wp2_with fail
    refine (num_any _ _).mono ?_
    rintro e w' ⟨rfl, rfl⟩
    go_wp2_with fail
    go_loopw [11] (fun vi wr => ∃ (i : Nat) (d : JD), i ≤ l.length ∧ vi = .int .i64 i ∧ J w.heap.size g gb i d wr ∧ Below w.heap.size w wr) (fun vi _ => l.length - (intOf vi).toNat)
    case atStart => exact ⟨0, _, by omega, rfl, J2.out, Q2.out⟩
    case round =>
      obtain ⟨i, d, hi, rfl, hJ, hq⟩ := hrel
      have JR := Lib.hid hJ
      have QR := Lib.hid hq
      clear hJ hq J2 Q2
      by_cases hlt : i < l.length
      case neg =>
        obtain rfl : i = l.length := by omega
        go_wp2_with fail
        refine (alive_any _).mono ?_
        rintro e w' ⟨rfl, b⟩
        have QF := QR.out.trans (b.mono QR.out.size)
        go_wp2
        go_ret
        exact ⟨rfl, QF⟩
      case pos =>
        have i1 : (i : Int) < (l.length : Int) := by omega
        have hi9 : i + 1 ≤ 4611686018427387904 := by omega
        obtain ⟨r, hr⟩ : ∃ r, l[i]? = some r := ⟨_, List.getElem?_eq_getElem hlt⟩
        obtain ⟨hrok, lb, lo, rfl, hlb, hlc⟩ := HT.out.at hr
        obtain ⟨wh, sq, nn, da, ds, dc⟩ := r
        have l0 : w.cell? ⟨lb, lo + i * 4, none⟩ = some (.int .i64 wh) := hlc 0 _ rfl
        have l1 : w.cell? ⟨lb, lo + i * 4 + 1, none⟩ = some (.int .u32 (sq : Nat)) := hlc 1 _ rfl
        have l2 : w.cell? ⟨lb, lo + i * 4 + 2, none⟩ = some (.int .i64 nn) := hlc 2 _ rfl
        have l3 : w.cell? ⟨lb, lo + i * 4 + 3, none⟩ = some (.slice da ds.length dc) := hlc 3 _ rfl
        have m0 := (QR.out.cell (p := ⟨lb, lo + i * 4, none⟩) hlb).trans l0
        have m1 := (QR.out.cell (p := ⟨lb, lo + i * 4 + 1, none⟩) hlb).trans l1
        have m2 := (QR.out.cell (p := ⟨lb, lo + i * 4 + 2, none⟩) hlb).trans l2
        have m3 := (QR.out.cell (p := ⟨lb, lo + i * 4 + 3, none⟩) hlb).trans l3
        have HOK := Lib.hid hrok
        clear hrok hlc l0 l1 l2 l3 hr
        go_upto_region 9 with fail
        have hsw := QR.out.size
        have ba := (Below.refl wr.heap.size wr).alloc (Nat.le_refl _) (.cells #[.int .i64 wh, .int .u32 (sq : Nat), .int .i64 nn, .slice da ds.length dc] 34)
        have XB0 := blk_new wr (.cells #[.int .i64 wh, .int .u32 (sq : Nat), .int .i64 nn, .slice da ds.length dc] 34)
        have J3 := Lib.hid (JR.out.below ba)
        have Q3 := Lib.hid (QR.out.trans (ba.mono QR.out.size))
        have hsz3 : wr.heap.size < (wr.alloc (.cells #[.int .i64 wh, .int .u32 (sq : Nat), .int .i64 nn, .slice da ds.length dc] 34)).heap.size := by simp
        have HM := Lib.hid JR.out.mine
        obtain ⟨xb, hxb⟩ : ∃ z, wr.heap.size = z := ⟨_, rfl⟩
        rw [hxb] at XB0 HM hsz3
        rw [hxb]
        clear JR QR m0 m1 m2 m3 ba hsw
        generalize wr.alloc (.cells #[.int .i64 wh, .int .u32 (sq : Nat), .int .i64 nn, .slice da ds.length dc] 34) = V3 at XB0 J3 Q3 hsz3 ⊢
        have XB := Lib.hid XB0
        clear XB0 hxb
        go_cut [60] (fun (v : Value) (wx : World) => v = .int .i64 wh ∧ V3 = wx)
        case first =>
          have x0 := blk_cell XB.out 0
          go_wp2_with fail
          go_meet
          exact ⟨rfl, rfl⟩
        case rest =>
        obtain ⟨rfl, rfl⟩ := hcut
        rename_i hsw
        refine hsw _ _ ?_
        go_cut [] (fun wx => ∃ d', J w.heap.size g gb (i + 1) d' wx ∧ Below w.heap.size w wx)
        case first =>
          have x1 := blk_cell XB.out 1
          have x2 := blk_cell XB.out 2
          have x3 := blk_cell XB.out 3
          by_cases hw0 : wh = 0
          case pos =>
            subst hw0
            have D3 := Lib.hid (HOK.out.2.2.2.1.below Q3.out)
            go_wp2_with fail
            refine (copy_one da ds dc _ D3.out (by have h : ds.length ≤ 140737488351232 := HOK.out.2.2.2.2.2.2.2; omega) HOK.out.2.2.2.2.1).mono ?_
            rintro e V4 ⟨oa, oc, rfl, O, b⟩
            have hs4 := b.size
            have X4 := Lib.hid ((b.block _ hsz3).trans XB.out)
            have J4 := Lib.hid (J3.out.below b)
            have Q4 := Lib.hid (Q3.out.trans (b.mono Q3.out.size))
            have O4 := Lib.hid O
            have hoB : Hid (∀ k, oa = some ⟨k, 0, none⟩ → V3.heap.size ≤ k ∧ k < V4.heap.size) := Lib.hid (fun k e => ⟨O.ownB k (by rw [e]; rfl), O.blkLt k e⟩)
            obtain ⟨kk, er, hc⟩ := j_ins J4.out hi9 sq HOK.out.2.1 oa oc da dc ds O.bts O.capLe.1 O.nilcap (fun b2 o e hne h2 => (by
              obtain ⟨k2, e2, _, _⟩ := O.isSome (List.length_pos_iff.2 hne)
              rw [e] at e2; injection e2 with e2; injection e2 with e2 e3; subst e2 e3
              have h3 := hoB.out b2 e
              have h4 := (HM.out b2 (.inl h2)).1
              omega)) HOK.out.2.2.2.2.2.1 (D3.out.below b) (fun b2 o e hl => (by
              obtain ⟨k2, o2, e2, hk2, _⟩ := HOK.out.2.2.2.1.isSome hl
              have e3 : some (⟨b2, o, none⟩ : Addr) = some ⟨k2, o2, none⟩ := e.symm.trans e2
              injection e3 with e3; injection e3 with e3 e4; omega))
            have HC := Lib.hid hc
            clear hc O b D3 J3 Q3 XB x1 x2 x3
            have x1 := blk_cell X4.out 1
            go_wp2_with fail
            refine HC.out.mono ?_
            rintro e V5 ⟨rfl, t5, hc2⟩
            have HC2 := Lib.hid hc2
            have X5 := Lib.hid (t5.blk X4.out (fun h => by have := (HM.out _ (.inl h)).1; omega))
            clear hc2 t5 x1
            have x1 := blk_cell X5.out 1
            have x3 := blk_cell X5.out 3
            go_wp2_with fail
            refine HC2.out.mono ?_
            rintro e V6 ⟨rfl, d', hJ6, t6, hm6⟩
            have J6 := Lib.hid hJ6
            have T6 := Lib.hid t6
            have M6 := Lib.hid hm6
            have O6 := Lib.hid (O4.out.turned t6 (fun k e h => by have := hoB.out k e; have := (HM.out k h).1; omega))
            clear hJ6 t6 hm6 x1 x3
            go_wp2_with fail
            refine (spoil_own V3.heap.size V4.heap.size oc oa ds (by have h : ds.length ≤ 140737488351232 := HOK.out.2.2.2.2.2.2.2; omega) _ O6.out (fun k e => (hoB.out k e).2)).mono ?_
            rintro e V7 ⟨⟨sv, rfl⟩, bt⟩
            have J7 := Lib.hid (J6.out.turned bt.turns (fun k hk h => by
              rcases M6.out k hk with h1 | h1
              · have := (HM.out k h1).1; omega
              · omega))
            have Q7 : Hid (Below w.heap.size w V7) := Lib.hid ((Q4.out.trans (T6.out.below Q4.out.size (fun k h => (HM.out k h).2))).trans (bt.turns.below (Nat.le_trans Q4.out.size T6.out.size) (fun k h => by have := Q4.out.size; have := (HM.out _ (.inl (.inl rfl))); omega)))
            clear bt
            go_wp2_with fail
            refine (num_any _ _).mono ?_
            rintro e w' ⟨rfl, rfl⟩
            go_wp2_with fail
            go_meet
            exact ⟨d', J7.out, Q7.out⟩
          case neg =>
          by_cases hw1 : wh = 1
          case pos =>
            subst hw1
            obtain ⟨ys, er, hyl, hc⟩ := j_read J3.out hi9 nn
            have HC := Lib.hid hc
            clear hc x1 x3
            go_wp2_with fail
            refine HC.out.mono ?_
            rintro e V5 ⟨pa, pc, rfl, t5, O, hc2⟩
            have HC2 := Lib.hid hc2
            have X5 := Lib.hid (t5.blk XB.out (fun h => by have := (HM.out _ (.inl h)).1; omega))
            have O5 := Lib.hid O
            have hoB : Hid (∀ k, pa = some ⟨k, 0, none⟩ → V3.heap.size ≤ k ∧ k < V5.heap.size) := Lib.hid (fun k e => ⟨O.ownB k (by rw [e]; rfl), O.blkLt k e⟩)
            have hs5 := t5.size
            clear hc2 t5 O x2
            have x2 := blk_cell X5.out 2
            go_wp2_with fail
            refine HC2.out.mono ?_
            rintro e V6 ⟨qa, qc, rfl, O, Y, hs6, d', hJ6, t6, hm6⟩
            have J6 := Lib.hid hJ6
            have T6 := Lib.hid t6
            have M6 := Lib.hid hm6
            have O6 := Lib.hid O
            have Y6 := Lib.hid Y
            clear hJ6 t6 hm6 O Y x2
            go_wp2_with fail
            refine (same_one pa qa ys ys pc qc _ O6.out.bts Y6.out (by omega) (by omega) rfl).mono ?_
            rintro e V7 ⟨rfl, b⟩
            have J7 := Lib.hid (J6.out.below b)
            have O7 := Lib.hid (O6.out.below b)
            have Q7 : Hid (Below w.heap.size w V7) := Lib.hid ((Q3.out.trans (T6.out.below Q3.out.size (fun k h => (HM.out k h).2))).trans (b.mono (Nat.le_trans Q3.out.size T6.out.size)))
            have hs7 := b.size
            clear b J6 O6 Y6
            go_wp2_with fail
            refine (num_any _ _).mono ?_
            rintro e w' ⟨rfl, rfl⟩
            go_wp2_with fail
            refine (spoil_own V3.heap.size V5.heap.size pc pa ys (by omega) _ O7.out (fun k e => (hoB.out k e).2)).mono ?_
            rintro e V8 ⟨⟨sv, rfl⟩, bt⟩
            have J8 := Lib.hid (J7.out.turned bt.turns (fun k hk h => (by
              rcases M6.out k hk with h1 | h1
              · have := (HM.out k h1).1; omega
              · omega)))
            have Q8 : Hid (Below w.heap.size w V8) := Lib.hid (Q7.out.trans (bt.turns.below Q7.out.size (fun k h => by have := Q3.out.size; omega)))
            clear bt
            go_wp2_with fail
            go_meet
            exact ⟨d', J8.out, Q8.out⟩
          case neg =>
          by_cases hw2 : wh = 2
          case pos =>
            subst hw2
            have XD := Lib.hid (blk_drew XB.out)
            obtain ⟨er, hc⟩ := j_grow (J3.out.below (Below.refl V3.heap.size V3).drew) hi9 nn
            have HC := Lib.hid hc
            have QD := Lib.hid Q3.out.drew
            clear hc x1 x3
            go_wp2_with fail
            clear x2
            have SS0 := Lib.hid (show V3.drew.cell? ⟨xb, 2, none⟩ = some (.int .i64 nn) from blk_cell XD.out 2)
            go_region_held3 (fun W => W.cell? ⟨xb, 2, none⟩ = some (.int .i64 nn)) (first | (with_reducible exact SS2.out) | (with_reducible exact SS1.out) | (with_reducible exact SS0.out) | go_keep) (first
              | (go_at_call 17; (with_reducible refine HC.out.mono ?_); rintro e V5 ⟨rfl, t5, hc2⟩; have HC2 := Lib.hid hc2; have X5 := Lib.hid (t5.blk XD.out (fun h => by have := (HM.out _ (.inl h)).1; omega)); have SS1 := Lib.hid (show V5.cell? ⟨xb, 2, none⟩ = some (.int .i64 nn) from blk_cell X5.out 2); clear hc2 t5)
              | (go_at_call 9; (with_reducible refine (num_any _ _).mono ?_); rintro e w' ⟨rfl, rfl⟩)
              | (go_at_call 18; (with_reducible refine HC2.out.mono ?_); rintro e V6 ⟨rfl, d', hJ6, t6, hm6⟩; have J6 := Lib.hid hJ6; have T6 := Lib.hid t6; have SS2 := Lib.hid (show V6.cell? ⟨xb, 2, none⟩ = some (.int .i64 nn) from blk_cell (t6.blk XD.out (fun h => by have := (HM.out _ h).1; omega)) 2); clear hJ6 t6 hm6))
            all_goals
              go_wp2_with fail
              go_meet
              exact ⟨d', J6.out, QD.out.trans (T6.out.below QD.out.size (fun k h => (HM.out k h).2))⟩
          case neg =>
            have hb0 : (wh == 0) = false := by rw [beq_eq_false_iff_ne]; exact hw0
            have hb1 : (wh == 1) = false := by rw [beq_eq_false_iff_ne]; exact hw1
            have hb2 : (wh == 2) = false := by rw [beq_eq_false_iff_ne]; exact hw2
            clear x1 x2 x3
            go_wp2_with fail
            go_meet
            exact ⟨d, J3.out.next, Q3.out⟩
        case rest =>
          obtain ⟨d2, hJ2, hQ2⟩ := hcut
          have JW := Lib.hid (hJ2.below (Below.refl wc.heap.size wc).drew)
          have HQ2 := Lib.hid hQ2
          have hda := hJ2.da.blk
          obtain ⟨nx, hnx⟩ : ∃ z, d2.s.next = z := ⟨_, rfl⟩
          obtain ⟨rl, hrl⟩ : ∃ z, d2.s.ready.length = z := ⟨_, rfl⟩
          obtain ⟨wn, hwn⟩ : ∃ z, d2.s.sz - d2.s.ready.length = z := ⟨_, rfl⟩
          obtain ⟨bl, hbl⟩ : ∃ z, bksD d2.s = z := ⟨_, rfl⟩
          have hbl4 : bl.length ≤ 4 := by rw [← hbl]; exact bksD_len _
          rw [hnx, hrl] at hda
          have HNX := Lib.hid hnx
          have HRL := Lib.hid hrl
          have HWN := Lib.hid hwn
          have HBL := Lib.hid hbl
          have HDA := Lib.hid hda
          have HF : Hid (∀ W, Below wc.heap.size wc W → W.cell? ⟨gb, 1, none⟩ = some (.int .u32 (nx : Nat)) ∧ W.cell? ⟨gb, 2, none⟩ = some (.slice d2.ra rl d2.rc)) := Lib.hid (fun W hb => (by
            have h := (hb.block _ (blk_lt HDA.out)).trans HDA.out
            exact ⟨blk_cell h 1, blk_cell h 2⟩))
          have SS0 := Lib.hid (HF.out _ (Below.refl wc.heap.size wc).drew)
          have B0 := Lib.hid ((Below.refl wc.heap.size wc).drew)
          have C1 : Hid (∀ W, J w.heap.size g gb (i + 1) d2 W → Calls Try.prog 19 #[.pointer (some ⟨g, 0, none⟩)] W fun e w' => e = .returned (.int .u32 (nx : Nat)) ∧ W = w') := Lib.hid (fun W h => (by rw [← HNX.out]; exact j_next h))
          have C2 : Hid (∀ W, J w.heap.size g gb (i + 1) d2 W → Calls Try.prog 20 #[.pointer (some ⟨g, 0, none⟩)] W fun e w' => e = .returned (.int .i64 (rl : Nat)) ∧ W = w') := Lib.hid (fun W h => (by rw [← HRL.out]; exact j_ready h))
          have C3 : Hid (∀ W, J w.heap.size g gb (i + 1) d2 W → Calls Try.prog 21 #[.pointer (some ⟨g, 0, none⟩)] W fun e w' => e = .returned (.int .i64 (wn : Nat)) ∧ Below W.heap.size W w') := Lib.hid (fun W h => (by rw [← HWN.out]; exact j_window h))
          have C4 : Hid (∀ W, J w.heap.size g gb (i + 1) d2 W → Calls Try.prog 22 #[.pointer (some ⟨gb, 0, none⟩)] W fun e w' => e = .returned (.int .i64 (wn : Nat)) ∧ Below W.heap.size W w') := Lib.hid (fun W h => (by rw [← HWN.out]; exact j_window2 h))
          have C5 : Hid (∀ W, J w.heap.size g gb (i + 1) d2 W → Calls Try.prog 24 #[.pointer (some ⟨g, 0, none⟩)] W fun e w' => ∃ a c, e = .returned (.slice a bl.length c) ∧ Blk w' a bl ∧ Below W.heap.size W w') := Lib.hid (fun W h => (by rw [← HBL.out]; exact j_blocks h))
          have C6 : Hid (∀ W, J w.heap.size g gb (i + 1) d2 W → Calls Try.prog 25 #[.pointer (some ⟨gb, 0, none⟩)] W fun e w' => ∃ a c, e = .returned (.slice a bl.length c) ∧ Blk w' a bl ∧ Below W.heap.size W w') := Lib.hid (fun W h => (by rw [← HBL.out]; exact j_blocks2 h (by omega)))
          clear hJ2 hQ2 hda hnx hrl hwn hbl
          go_wp2_with fail
          go_region_held3 (fun W => W.cell? ⟨gb, 1, none⟩ = some (.int .u32 (nx : Nat)) ∧ W.cell? ⟨gb, 2, none⟩ = some (.slice d2.ra rl d2.rc)) (first | (with_reducible exact SS5.out) | (with_reducible exact SS4.out) | (with_reducible exact SS3.out) | (with_reducible exact SS2.out) | (with_reducible exact SS1.out) | (with_reducible exact SS0.out) | go_keep) (first
            | (go_at_call 19; (with_reducible refine (C1.out _ JW.out).mono ?_); rintro e w' ⟨rfl, rfl⟩)
            | (go_at_call 20; (with_reducible refine (C2.out _ JW.out).mono ?_); rintro e w' ⟨rfl, rfl⟩)
            | (go_at_call 21; (with_reducible refine (C3.out _ JW.out).mono ?_); rintro e E1 ⟨rfl, b⟩; have b1 := Lib.hid (B0.out.trans (b.mono B0.out.size)); have J1 := Lib.hid (JW.out.below b); have SS1 := Lib.hid (HF.out _ b1.out); clear b)
            | (go_at_call 22; (with_reducible refine (C4.out _ J1.out).mono ?_); rintro e E2 ⟨rfl, b⟩; have b2 := Lib.hid (b1.out.trans (b.mono b1.out.size)); have J2 := Lib.hid (J1.out.below b); have SS2 := Lib.hid (HF.out _ b2.out); clear b)
            | (go_at_call 24; (with_reducible refine (C5.out _ J2.out).mono ?_); rintro e E3 ⟨a3, c3, rfl, k3, b⟩; have b3 := Lib.hid (b2.out.trans (b.mono b2.out.size)); have J3 := Lib.hid (J2.out.below b); have SS3 := Lib.hid (HF.out _ b3.out); have K3 := Lib.hid k3; clear b k3)
            | (go_at_call 25; (with_reducible refine (C6.out _ J3.out).mono ?_); rintro e E4 ⟨a4, c4, rfl, k4, b⟩; have b4 := Lib.hid (b3.out.trans (b.mono b3.out.size)); have J4 := Lib.hid (J3.out.below b); have SS4 := Lib.hid (HF.out _ b4.out); have K4 := Lib.hid k4; have K3' := Lib.hid (K3.out.below b); clear b k4)
            | (go_at_call 23; (with_reducible refine (sameBlocks_one a3 a4 bl bl c3 c4 _ K3'.out K4.out (by omega) (by omega) rfl).mono ?_); rintro e E5 ⟨rfl, b⟩; have b5 := Lib.hid (b4.out.trans (b.mono b4.out.size)); have J5 := Lib.hid (J4.out.below b); have SS5 := Lib.hid (HF.out _ b5.out); clear b))
          all_goals
            have QF := HQ2.out.trans (b5.out.mono HQ2.out.size)
            clear JW J1 J2 J3 J4 SS0 SS1 SS2 SS3 SS4 SS5 K3 K3' K4 C1 C2 C3 C4 C5 C6
            go_wp2
            go_roundw
            case rel => exact ⟨i + 1, d2, by omega, by go_num, J5.out, QF⟩
            case measure => simp [intOf]; omega

theorem own : ownKnob Try.prog.godebug = none := by kernel_rfl
theorem laidOut : laidOutB Try.prog = true := by kernel_rfl

set_option maxRecDepth 100000 in
set_option maxHeartbeats 2000000 in
theorem lifted (os : Os) (started : os.Started) (H : Type) (enc : TypeId × Value → H) :
    ReturnsInHanded {} Try.checked os 3 .any (Rows.recvbufPlaysSpec.pre6 enc Try.prog Try.f3 Rows.recvbufPlaysRow.domain false) (Rows.recvbufPlaysSpec.post enc Try.prog Try.f3 false true false false) := by
  refine returnsInHanded_of_change_sized (C := Try.checked) own started (by kernel_rfl) Try.func3
    (ChangeSpec.witness6 (enc := enc) (C := Try.checked) false ⟨#[], #[.int .i64 0, .int .u32 0, .slice none 0 0], []⟩ 8 (by kernel_rfl) (by kernel_rfl) (by kernel_rfl) (by kernel_rfl)) ?_
  intro W base args ds gs before hval0 hW hcnd hsz0 _
  have hval : ∀ (j : Nat) t v, Try.f3.params[j]? = some t → args[j]? = some v → Value.okWide Try.prog W .any base t v := hval0
  have hsz : (DataW.weightsEach Try.prog (Try.f3.params.toList ++ Rows.recvbufPlaysSpec.plain.varTypes Try.prog) (ds ++ gs)).all (· ≤ reachBytes) = true := hsz0
  have hW' := hW
  obtain ⟨p, q, hA0, hV, rfl, hfz, hnd⟩ := hW
  have hA : DataW.TrodAll enc Try.prog W 0 (fun _ => true) true Try.f3.params.toList args.toList ds p := hA0
  rw [Try.params3] at hA hval hsz
  obtain ⟨v0, vs0, d0, ds0, p0, q0, hargs, rfl, rfl, h0, r0⟩ := trodAll_cons hA
  obtain ⟨v1, vs1, d1, ds1, p1, q1, rfl, rfl, rfl, h1, r1⟩ := trodAll_cons r0
  obtain ⟨v2, vs2, d2, ds2, p2, q2, rfl, rfl, rfl, h2, r2⟩ := trodAll_cons r1
  obtain ⟨rfl, rfl, rfl⟩ := trodAll_nil r2
  obtain rfl : args = #[v0, v1, v2] := by cases args; simp_all
  obtain ⟨rfl, rfl⟩ := trodVars_none hV
  obtain ⟨a0, rfl, rfl, rfl, w0⟩ := open_int Try.underlying3 (hval 0 3 v0 rfl rfl) h0
  obtain ⟨a1, rfl, rfl, rfl, w1⟩ := open_int Try.underlying22 (hval 1 22 v1 rfl rfl) h1
  obtain ⟨a2, len2, cap2, rfl⟩ := okWide_slice Try.underlying23 (hval 2 23 v2 rfl rfl)
  have k2 := h2
  have lt2 : ∀ x ∈ p2, x.block < W.heap.size := by obtain ⟨m, hm⟩ := k2; exact DataW.trod_lt m _ _ _ hm
  obtain ⟨xs2, hxl2, hbt2, hcap2, hre2⟩ : ∃ xs : List Step16, xs.length = len2 ∧ Sts 4 Step16.cells Step16.ok W a2 xs ∧ (a2 = none → cap2 = 0) ∧ xs.length ≤ 2932031007317 := by
    obtain ⟨fuel, hf⟩ := h2
    have hwt : ∀ n ∈ d2.weights Try.prog 23, n ≤ reachBytes := fun n hn => by simpa using List.all_eq_true.1 hsz _ (DataW.weights_mem_each (j := 2) (t := 23) rfl rfl n hn)
    obtain ⟨x, rs, c, hv, hs, hnc, hlc, hq⟩ := open_Step16s (c := .slice a2 len2 cap2) hf hwt
    simp only [Value.slice.injEq] at hv
    obtain ⟨rfl, rfl, rfl⟩ := hv
    have hw := sts_reach Try.underlying23 hq (fun n hn => by simpa using List.all_eq_true.1 hsz _ (DataW.weights_mem_each (j := 2) (t := 23) rfl rfl n hn))
    rw [show Try.prog.bytesOf 34 = 48 from by kernel_rfl] at hw
    simp only [reachBytes] at hw
    exact ⟨rs, rfl, hs, hnc, by omega⟩
  clear hA0 hval0 hsz hsz0
  obtain ⟨lo0, hi0⟩ := bounds_i64 w0
  obtain ⟨n1, rfl, hn1⟩ := nat_of_u32 w1
  subst hxl2
  refine (walk a0 n1 a2 xs2 cap2 W lo0 hi0 hn1 hbt2 hcap2 hre2).mono fun e W' ⟨he, bel⟩ => ?_
  subst he
  exact ⟨_, rfl, _, _, _, [], _, [], hW', trodAll_mk1 (shut_bool Try.underlying4 _), (trodAll_cons_mk (shut_int Try.underlying3 w0) (trodAll_cons_mk (shut_int Try.underlying22 w1) (trodAll_cons_mk (Below.trod laidOut (by kernel_rfl) (of_decide_eq_true (by kernel_rfl)) k2 bel lt2) trodAll_mk0))), rfl, bel.frame _, fun h => by cases h⟩

theorem over : Rows.recvbufPlaysRow.holds Try.pinned (OpenSpec.ofChange Rows.recvbufPlaysSpec) :=
  OpenClaim.holds_of_wide 3 Try.f3 rfl rfl rfl rfl rfl rfl rfl ⟨rfl, rfl, rfl, rfl, rfl⟩ rfl rfl rfl rfl rfl (by kernel_rfl) Try.func3 (by kernel_rfl)
    (of_decide_eq_true (by kernel_rfl)) (by unfold Func.isWrapper; first | (rw [if_pos (by decide +kernel)]; kernel_rfl) | (rw [if_neg (by decide +kernel)]; exact ⟨rfl, rfl⟩))
    (fun os started H enc _ => lifted os started H enc)

end Go.Proofs.Ytknebjfdggimcaa.recvbufPlays
namespace Go.Proofs.Ytknebjfdggimcaa
/-- The statement. -/
theorem recvbufPlays_holds : Rows.RecvbufPlaysSaid := recvbufPlays.over
#print axioms recvbufPlays_holds
end Go.Proofs.Ytknebjfdggimcaa
