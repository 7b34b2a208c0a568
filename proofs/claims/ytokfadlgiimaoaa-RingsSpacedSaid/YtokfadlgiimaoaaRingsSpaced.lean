/- For any settings of a card, any number of frames and any ticks: between two frames that leave there are at least as many ticks as there should, and they leave in order. No condition. -/
import Derived.Test.YtokfadlgiimaoaaRows
import Derived.Test.YtokfadlgiimaoaaRgH
import Derived.Test.YtokfadlgiimaoaaRgI
import Derived.Test.YtokfadlgiimaoaaGFrame
import Derived.Test.YtokfadlgiimaoaaGStructI
import Derived.Test.YtokfadlgiimaoaaGStruct
import Derived.Test.YtokfadlgiimaoaaGAgg
import Derived.Deep.DeepCutAuto
import Derived.RegionTactic
import Derived.Deep.RegionHeld3
import Derived.Lib.MinMax
import Derived.ProofKit
import Derived.OpenShut
import Derived.ChangeOld
import Derived.SizedLaws
namespace Go.Proofs.Ytokfadlgiimaoaa.ringsSpaced
open Go.ChangeShapes Go.WideShapes Go.ChangeAt Go.RowKit Go.Deep

theorem chk_zero {ks : List Nat} {ts : List Int} {sz ev : Int} (h : chkE ks ts sz ev = 0) : ckE ks ts = 0 ∧ 1 ≤ sz ∧ sz ≤ 4096 ∧ 1 ≤ ev ∧ ev ≤ 1048576 := by
  unfold chkE at h
  by_cases h1 : ckE ks ts = 0
  · rw [if_pos h1] at h
    by_cases h2 : sz < 1 ∨ 4096 < sz ∨ ev < 1 ∨ 1048576 < ev
    · rw [if_pos h2] at h; cases h
    · exact ⟨h1, by omega, by omega, by omega, by omega⟩
  · rw [if_neg h1] at h; exact absurd h h1
theorem ck_lens {ks : List Nat} {ts : List Int} (h : ckE ks ts = 0) : ks.length = 40 ∧ ts.length = 128 := by
  unfold ckE at h
  by_cases h1 : ks.length = 40
  · rw [if_pos h1] at h; exact ⟨h1, (ctE_zero h).1⟩
  · rw [if_neg h1] at h; cases h

set_option linter.unusedSimpArgs false in
set_option maxRecDepth 100000 in
set_option maxHeartbeats 1000000 in
theorem walk (ka : Option Addr) (ks : List Nat) (kc : Nat) (ta : Option Addr) (ts : List Int) (tc : Nat) (sz ev : Int) (n0 : Int) (la : Option Addr) (ls : List Int) (lc : Nat) (w : World)
    (hk : Bts w ka ks) (hkn : ka = none → kc = 0) (_ : ks.length ≤ kc ∧ kc ≤ maxLen) (hkl : ks.length ≤ 140737488351232) (ht : Its w ta ts) (htn : ta = none → tc = 0) (_ : ts.length ≤ tc ∧ tc ≤ maxLen) (htl : ts.length ≤ 17592186043904) (_ : -9223372036854775808 ≤ sz) (_ : sz ≤ 9223372036854775807) (_ : -9223372036854775808 ≤ ev) (_ : ev ≤ 9223372036854775807) (_ : -9223372036854775808 ≤ n0) (_ : n0 ≤ 9223372036854775807) (hl : Its w la ls) (hln : la = none → lc = 0) (hll : ls.length ≤ 17592186043904) :
    Calls Try.prog 5 #[.agg #[.slice ka ks.length kc, .slice ta ts.length tc, .int .i64 sz, .int .i64 ev], .int .i64 n0, .slice la ls.length lc] w fun e w' => e = .returned (.bool true) ∧ Below w.heap.size w w' := by
  have bw := (Below.refl w.heap.size w).alloc (Nat.le_refl _) (.cells #[.slice ka ks.length kc, .slice ta ts.length tc, .int .i64 sz, .int .i64 ev] 25)
  have K0 := Lib.hid (blk_new w (.cells #[.slice ka ks.length kc, .slice ta ts.length tc, .int .i64 sz, .int .i64 ev] 25))
  have Q0 := Lib.hid bw
  have hz0 : Hid (w.heap.size < (w.alloc (.cells #[.slice ka ks.length kc, .slice ta ts.length tc, .int .i64 sz, .int .i64 ev] 25)).heap.size) := Lib.hid (by rw [World.size_alloc]; exact Nat.lt_succ_self _)
  have HK := Lib.hid hk
  have HT := Lib.hid ht
  have HKN := Lib.hid hkn
  have HTN := Lib.hid htn
  have HKL := Lib.hid hkl
  have HTL := Lib.hid htl
  have HLL := Lib.hid hll
  have HL := Lib.hid hl
  have HLN := Lib.hid hln
  clear hk ht hkn htn hkl htl hll hl hln bw
  go_enter Try.func5, Try.ntmps5
  go_upto_region 3 with (first
    | (go_at_call 11; refine (alive_any _).mono ?_; rintro e V1 ⟨rfl, b⟩; have Q1 := Lib.hid (Q0.out.trans (b.mono Q0.out.size)); have K1 := Lib.hid ((b.block _ hz0.out).trans K0.out); clear b)
    | fail)
  have c0 := blk_cell K1.out 0
  have c1 := blk_cell K1.out 1
  have c2 := blk_cell K1.out 2
  have c3 := blk_cell K1.out 3
  have HOF := Lib.hid (of_any ka ks kc ta ts tc sz ev V1 (HK.out.below Q1.out) HKN.out HKL.out (HT.out.below Q1.out) HTN.out HTL.out)
  by_cases hchk : chkE ks ts sz ev = 0
  case neg =>
    have e1 : (chkE ks ts sz ev != 0) = true := by rw [bne_iff_ne]; exact hchk
    go_wp2_with (first
      | (go_at_call 8; refine HOF.out.mono ?_; rintro e V2 ⟨⟨ka', kc', ta', tc', rfl, O, P⟩, b⟩; have HN := Lib.hid (new_bad ka' ks kc' ta' ts tc' sz ev V2 (P.its HT.out.1) (by have := HTL.out; omega) hchk); have Q2 := Lib.hid (Q1.out.trans (b.mono Q1.out.size)); clear O P b)
      | (go_at_call 12; refine HN.out.mono ?_; rintro e V3 ⟨rfl, b⟩; have Q3 := Lib.hid (Q2.out.trans (b.mono Q2.out.size)); clear b)
      | (go_at_call 10; refine (num_any _ _).mono ?_; rintro e w' ⟨rfl, rfl⟩)
      | fail)
    all_goals
      go_ret
      exact ⟨rfl, Q3.out⟩
  case pos =>
    obtain ⟨hck, hs1, hs2, hv1, hv2⟩ := chk_zero hchk
    obtain ⟨hk40, ht128⟩ := ck_lens hck
    obtain ⟨z, rfl⟩ : ∃ z : Nat, sz = z := ⟨sz.toNat, by omega⟩
    have HC0 := Lib.hid hchk
    have HK40 := Lib.hid hk40
    have HT128 := Lib.hid ht128
    clear hk40 ht128
    have HZZ := Lib.hid (show 1 ≤ z ∧ z ≤ 4096 by omega)
    clear hchk hck
    go_upto_region 6 with (first
      | (go_at_call 8; refine HOF.out.mono ?_; rintro e V2 ⟨⟨ka', kc', ta', tc', rfl, O, P⟩, b⟩; have HN := Lib.hid (new_ok ka' ks kc' ta' ts tc' z ev V2 O.bts O.nilcap (P.its HT.out.1) P.nilcap HK40.out HT128.out HZZ.out HC0.out); have Q2 := Lib.hid (Q1.out.trans (b.mono Q1.out.size)); have K2 := Lib.hid ((b.block _ (blk_lt K1.out)).trans K1.out); have hz2 := Lib.hid (Nat.lt_of_lt_of_le (blk_lt K1.out) b.size); clear O P b)
      | (go_at_call 12; refine HN.out.mono ?_; rintro e V3 ⟨⟨g, KY, own, rfl, hC, hO, _, _, _, _⟩, b⟩; have Q3 := Lib.hid (Q2.out.trans (b.mono Q2.out.size)); have K3 := Lib.hid ((b.block _ hz2.out).trans K2.out); have C3 := Lib.hid hC; have HO3 := Lib.hid hO; have hB3 := Lib.hid b.size; clear hC hO b)
      | (go_at_call 10; refine (num_any _ _).mono ?_; rintro e w' ⟨rfl, rfl⟩)
      | fail)
    clear c0 c1 c2 c3 HOF HN K1 Q1 K2
    have HQ2 := Lib.hid Q2.out.size
    generalize V2.heap.size = B at C3 HO3 hB3 HQ2 hz2
    have c2 := blk_cell K3.out 2
    have r1 := Int.tmod_lt_of_pos n0 (show (0 : Int) < 20 by omega)
    have r2 : -20 < n0.tmod 20 := by have := Int.lt_tmod_of_pos n0 (show (0 : Int) < 20 by omega); omega
    obtain ⟨r, hr⟩ : ∃ r, n0.tmod 20 = r := ⟨_, rfl⟩
    rw [hr] at r1 r2
    have t0 : (r + 20).tmod 20 = (r + 20) % 20 := Int.tmod_eq_emod_of_nonneg (by omega)
    obtain ⟨t, ht⟩ : ∃ t : Nat, (r + 20) % 20 = (t : Int) := ⟨((r + 20) % 20).toNat, by omega⟩
    have ht20 : t < 20 := by omega
    obtain ⟨m, hm⟩ : ∃ m, min t z = m := ⟨_, rfl⟩
    have hmz : m ≤ z ∧ m < 20 := by omega
    have hmin : min (t : Int) (z : Int) = (m : Int) := by omega
    have W1 : IntKind.i64.wrap (n0.tmod 20) = r := by rw [hr]; exact IntWalk.i64_in _ ⟨by omega, by omega⟩
    have W2 : IntKind.i64.wrap (r + 20) = r + 20 := IntWalk.i64_in _ ⟨by omega, by omega⟩
    have W3 : IntKind.i64.wrap ((r + 20).tmod 20) = (t : Int) := by rw [t0, ht]; exact IntWalk.i64_in _ ⟨by omega, by omega⟩
    clear hm r1 r2
    go_upto_region 7 with fail
    clear W1 W2 W3 hmin t0 hr ht ht20 c2
    obtain ⟨hmz1, hmz2⟩ := hmz
    have HV1 := Lib.hid hv1
    have HV2 := Lib.hid hv2
    clear hs1 hs2 hv1 hv2
    go_wp2
    go_loopw [9] (fun iv wr => ∃ k : Nat, k ≤ m ∧ iv = .int .i64 k ∧ ∃ (fs : Nat → List Fr) (own : Nat → Prop), CardS wr g B z ev 0 0 KY fs own ∧ (fs 16).map Prod.snd = (List.range k).map (fun i => [i]) ∧ (∀ b, own b → B ≤ b) ∧ B ≤ wr.heap.size ∧ Below B V3 wr) (fun iv _ => m - (intOf iv).toNat)
    case atStart => exact ⟨0, by omega, rfl, fun _ => [], own, C3.out, rfl, HO3.out, hB3.out, Below.refl _ _⟩
    case round =>
      obtain ⟨k, hk, rfl, fs, own1, h1, h2, h3, h4, h5⟩ := hrel
      have C4 := Lib.hid h1
      have F4 := Lib.hid h2
      have O4 := Lib.hid h3
      have B4 := Lib.hid h4
      have Q4 := Lib.hid h5
      clear h1 h2 h3 h4 h5 C3 HO3
      by_cases hlt : k < m
      · have i1 : (k : Int) < (m : Int) := by omega
        have W1 : IntKind.u8.wrap (k : Int) = (k : Int) := IntWalk.u8_in _ (by omega)
        have W2 : IntKind.i64.wrap ((k : Int) + 1) = (k : Int) + 1 := IntWalk.i64_in _ ⟨by omega, by omega⟩
        have b5 := (Below.refl wr.heap.size wr).alloc (Nat.le_refl _) (.cells #[.int .u8 (k : Nat)] 5)
        have X5 := Lib.hid (show Bts (wr.alloc (.cells #[.int .u8 (k : Nat)] 5)) (some ⟨wr.heap.size, 0, none⟩) [k] from bts_new wr [k] 5 (by intro x hx; simp at hx; omega))
        have C5 := Lib.hid (C4.out.below b5)
        have B5 := Lib.hid (Nat.le_trans B4.out b5.size)
        have Q5 := Lib.hid (Q4.out.trans (b5.mono B4.out))
        have hlen : (fs 16).length = k := by have := congrArg List.length F4.out; simpa using this
        have HLEN := Lib.hid hlen
        clear b5 hlen C4 B4 Q4
        go_wp2_with (first
          | (go_at_call 17; refine (send_ok g B z ev 0 0 KY fs own1 (some ⟨wr.heap.size, 0, none⟩) [k] _ _ C5.out B5.out X5.out (fun e => by cases e) (by simp) (by rw [HLEN.out]; omega)).mono ?_; rintro e V6 ⟨rfl, ⟨x6, own6, hx, hC, hO⟩, hS, hW⟩; have C6 := Lib.hid hC; have Q6 := Lib.hid (Q5.out.trans hW); have B6 := Lib.hid (Nat.le_trans B5.out hS.1); have HX6 := Lib.hid hx; have O6 := Lib.hid (show ∀ b, own6 b → B ≤ b from fun b hb => (hO b hb).elim (O4.out b) (fun h => Nat.le_trans B5.out h)); clear hC hO hS hW hx)
          | (go_at_call 10; refine (num_any _ _).mono ?_; rintro e w' ⟨rfl, rfl⟩)
          | fail)
        go_roundw
        case rel => exact ⟨k + 1, by omega, by go_num, _, own6, C6.out, by rw [upd_at, List.map_append, F4.out, List.range_succ, List.map_append]; simp [HX6.out], O6.out, B6.out, Q6.out⟩
        case measure => simp [intOf]; omega
      · obtain rfl : m = k := by omega
        have hlr : ∀ t ∈ ls, -9223372036854775808 ≤ t ∧ t ≤ 9223372036854775807 := HL.out.1
        have HLR := Lib.hid hlr
        have HF0 : Hid ((fs 16).map Prod.snd = (List.range' 0 (m - 0)).map (fun i => [i])) := Lib.hid (by rw [F4.out, List.range_eq_range', Nat.sub_zero])
        clear hlr F4
        go_wp2
        go_loopw [10, 11, 12] (fun ov lv iv wx => ∃ (k o : Nat) (now free lst : Int) (fs : Nat → List Fr) (own : Nat → Prop), k ≤ ls.length ∧ iv = .int .i64 k ∧ o ≤ m ∧ ov = .int .i64 o ∧ lv = .int .i64 lst ∧ CardS wx g B z ev now free KY fs own ∧ (fs 16).map Prod.snd = (List.range' o (m - o)).map (fun i => [i]) ∧ (∀ b, own b → B ≤ b) ∧ B ≤ wx.heap.size ∧ Below B V3 wx ∧ 0 ≤ now ∧ (o = 0 → free = 0) ∧ (0 < o → free = lst + ev) ∧ 0 ≤ lst ∧ lst ≤ 1099511627776) (fun _ _ iv _ => ls.length - (intOf iv).toNat)
        case atStart => exact ⟨0, 0, 0, 0, 0, fs, own1, by omega, rfl, by omega, rfl, rfl, C4.out, HF0.out, O4.out, B4.out, Q4.out, by omega, fun _ => rfl, fun h => by omega, by omega, by omega⟩
        case round =>
          clear C4 HF0 O4 B4 Q4 fs own1
          obtain ⟨k, o, now, free, lst, fs, own1, hkl, rfl, hom, rfl, rfl, h1, h2, h3, h4, h5, h6, h7, h8, h9, h10⟩ := hrel
          have C4 := Lib.hid h1
          have F4 := Lib.hid h2
          have O4 := Lib.hid h3
          have B4 := Lib.hid h4
          have Q4 := Lib.hid h5
          have HFR := Lib.hid (And.intro h7 h8)
          have HBd := Lib.hid (And.intro HV1.out HV2.out)
          clear h1 h2 h3 h4 h5 h7 h8
          have QW := Lib.hid (Q3.out.trans (Q4.out.mono (show w.heap.size ≤ B from HQ2.out)))
          by_cases hlt : k < ls.length
          · have i1 : (k : Int) < (ls.length : Int) := by omega
            obtain ⟨lb, lo, rfl, hlb, hlcell⟩ := HL.out.isSome (by omega)
            obtain ⟨tk, htk⟩ : ∃ x, ls.getD k 0 = x := ⟨_, rfl⟩
            have htb : -9223372036854775808 ≤ tk ∧ tk ≤ 9223372036854775807 := by
              rw [← htk, List.getD_eq_getElem?_getD, List.getElem?_eq_getElem hlt]
              exact HLR.out _ (List.getElem_mem _)
            have hcl := hlcell k hlt
            rw [htk] at hcl
            have HCL := Lib.hid hcl
            have cl := (QW.out.cell (p := ⟨lb, lo + k, none⟩) hlb).trans hcl
            have W1 : IntKind.i64.wrap ((k : Int) + 1) = (k : Int) + 1 := IntWalk.i64_in _ ⟨by omega, by have := HLL.out; omega⟩
            have HLB := Lib.hid hlb
            clear hlcell hcl htk hlb
            by_cases hA : tk < now ∨ 1099511627776 < tk
            · have HE := Lib.hid (emit_no g B z ev now free tk KY fs own1 wr C4.out hA)
              clear hA
              go_wp2_with (first
                | (go_at_call 18; refine HE.out.mono ?_; rintro e w' ⟨rfl, rfl⟩)
                | fail)
              go_roundw
              case rel => exact ⟨k + 1, o, now, free, lst, fs, own1, by omega, by go_num, hom, rfl, rfl, C4.out, F4.out, O4.out, B4.out, Q4.out, h6, HFR.out.1, HFR.out.2, h9, h10⟩
              case measure => simp [intOf]; omega
            · by_cases hB : tk < free ∨ fs 16 = []
              · have HE := Lib.hid (emit_wait g B z ev now free tk KY fs own1 wr C4.out ⟨by omega, by omega⟩ hB B4.out)
                have HN0 : Hid (0 ≤ tk) := Lib.hid (by omega)
                clear hA hB
                go_wp2_with (first
                  | (go_at_call 18; refine HE.out.mono ?_; rintro e V6 ⟨rfl, hC, hS, hW⟩; have C6 := Lib.hid hC; have B6 := Lib.hid (Nat.le_trans B4.out hS.1); have Q6 := Lib.hid (Q4.out.trans hW); clear hC hS hW cl)
                  | fail)
                go_roundw
                case rel => exact ⟨k + 1, o, tk, free, lst, fs, own1, by omega, by go_num, hom, rfl, rfl, C6.out, F4.out, O4.out, B6.out, Q6.out, HN0.out, HFR.out.1, HFR.out.2, h9, h10⟩
                case measure => simp [intOf]; omega
              · obtain ⟨x, l, hxl⟩ : ∃ x l, fs 16 = x :: l := by
                  cases h : fs 16 with
                  | nil => exact absurd (.inr h) hB
                  | cons x l => exact ⟨x, l, rfl⟩
                have hf2 := F4.out
                rw [hxl] at hf2
                obtain ⟨d, hd⟩ : ∃ d, m - o = d + 1 := by
                  cases hd : m - o with
                  | zero => rw [hd] at hf2; simp at hf2
                  | succ d => exact ⟨d, rfl⟩
                rw [hd, List.range'_succ, List.map_cons, List.map_cons] at hf2
                have hx2 : x.2 = [o] := (List.cons.inj hf2).1
                have hl2 : l.map Prod.snd = (List.range' (o + 1) (m - (o + 1))).map (fun i => [i]) := by rw [(List.cons.inj hf2).2]; congr 2; omega
                have HE := Lib.hid (emit_out g B z ev now free tk KY fs own1 x l wr C4.out ⟨by omega, by omega⟩ h6 ⟨by have := HBd.out.1; omega, HBd.out.2⟩ (by omega) hxl B4.out)
                have HX2 := Lib.hid hx2
                have HL2 := Lib.hid hl2
                have ho1 : o + 1 ≤ m ∧ o < 20 := by omega
                have htk0 : 0 ≤ tk ∧ tk ≤ 1099511627776 ∧ ¬ tk < free := by omega
                obtain ⟨ho1, ho20⟩ := ho1
                obtain ⟨ht1, ht2, ht3⟩ := htk0
                clear hA hB hxl hf2 hd hx2 hl2 F4
                obtain ⟨⟨xa, xn, xc⟩, xl⟩ := x
                go_upto_if 69 with (first
                  | (go_at_call 18; refine HE.out.mono ?_; rintro e V6 ⟨rfl, ⟨own6, hC, hO⟩, ⟨hb, hn, hp⟩, hS, hW⟩; have C6 := Lib.hid hC; have B6 := Lib.hid (Nat.le_trans B4.out hS.1); have Q6 := Lib.hid (Q4.out.trans hW); have O6 := Lib.hid (show ∀ b, own6 b → B ≤ b from fun b hb => (hO b hb).elim (O4.out b) (fun h => Nat.le_trans B4.out h)); have X6 := Lib.hid hb; have N6 := Lib.hid hn; clear hC hO hb hn hp hS hW cl; unfold sv; dsimp only)
                  | fail)
                have X7 : Hid (Bts V6 xa [o]) := Lib.hid (by have h := X6.out; rw [HX2.out] at h; exact h)
                have e7 : xn = 1 := by have h := N6.out; rw [HX2.out] at h; exact h
                subst e7
                obtain ⟨xb, xo, rfl, _, hxc⟩ := X7.out.isSome (by simp)
                have cx : V6.cell? ⟨xb, xo, none⟩ = some (.int .u8 (o : Nat)) := hxc 0 (by simp)
                have QW6 := Lib.hid (Q3.out.trans (Q6.out.mono (show w.heap.size ≤ B from HQ2.out)))
                have cl := (QW6.out.cell (p := ⟨lb, lo + k, none⟩) HLB.out).trans HCL.out
                have kb := Lib.hid ((Q6.out.block w.heap.size hz2.out).trans K3.out)
                have c3 := blk_cell kb.out 3
                clear hxc X6 X7 N6
                have W3 : IntKind.u8.wrap (o : Int) = (o : Int) := IntWalk.u8_in _ (by omega)
                have W4 : IntKind.i64.wrap (tk - lst) = tk - lst := IntWalk.i64_in _ ⟨by omega, by omega⟩
                have W5 : IntKind.i64.wrap ((o : Int) + 1) = (o : Int) + 1 := IntWalk.i64_in _ ⟨by omega, by omega⟩
                have e9 : ((o : Int) != (o : Int)) = false := by simp
                go_upto_region 18 with fail
                by_cases ho : o = 0
                case' pos => have i5 : ¬ (0 : Int) < (o : Int) := by omega
                case' neg =>
                  have i5 : (0 : Int) < (o : Int) := by omega
                  have i5n : 0 < o := by omega
                  have i5d : decide (0 < o) = true := decide_eq_true i5n
                  have i6 : ¬ tk - lst < ev := by have := HFR.out.2 (by omega); omega
                all_goals
                  go_quiet (first | (go_at_call 10; exact Calls.quiet_of_same ((num_any _ _).mono fun _ _ h => ⟨h.1, h.2.symm⟩)))
                  have D := below_drewN (Below.refl V6.heap.size V6) nq
                  have C7 := Lib.hid (C6.out.below D)
                  have B7 := Lib.hid (Nat.le_trans B6.out D.size)
                  have Q7 := Lib.hid (Q6.out.trans (D.mono B6.out))
                  have cl7 := (D.cell (p := ⟨lb, lo + k, none⟩) (Nat.lt_of_lt_of_le HLB.out QW6.out.size)).trans cl
                  clear D c3 cx cl
                  generalize V6.drewN nq = V7 at C7 B7 Q7 cl7 ⊢
                  go_upto_region 20 with fail
                  go_quiet (fail)
                  have D := below_drewN (Below.refl V7.heap.size V7) nq
                  have C8 := Lib.hid (C7.out.below D)
                  have B8 := Lib.hid (Nat.le_trans B7.out D.size)
                  have Q8 := Lib.hid (Q7.out.trans (D.mono B7.out))
                  clear D cl7
                  generalize V7.drewN nq = V8 at C8 B8 Q8 ⊢
                  go_wp2
                  go_roundw
                  case rel => exact ⟨k + 1, o + 1, tk, tk + ev, tk, _, own6, by omega, by go_num, ho1, by go_num, rfl, C8.out, by rw [upd_at]; exact HL2.out, O6.out, B8.out, Q8.out, ht1, (fun h => by omega), (fun _ => rfl), ht1, ht2⟩
                  case measure => simp [intOf]; omega
          · obtain rfl : ls.length = k := by omega
            have hlen : (fs 16).length = m - o := by have := congrArg List.length F4.out; simpa using this
            have HWT := Lib.hid (waiting_ok g B z ev now free KY fs own1 wr C4.out)
            rw [hlen] at HWT
            have i4 : (o : Int) ≤ (m : Int) := by omega
            have i5 : ((m - o : Nat) : Int) = (m : Int) - (o : Int) := by omega
            rw [i5] at HWT
            have W3 : IntKind.i64.wrap ((m : Int) - (o : Int)) = (m : Int) - (o : Int) := IntWalk.i64_in _ ⟨by omega, by omega⟩
            have e9 : ((m : Int) - (o : Int) == (m : Int) - (o : Int)) = true := beq_self_eq_true _
            clear hlen i5
            go_wp2_with (first
              | (go_at_call 19; refine HWT.out.mono ?_; rintro e w' ⟨rfl, rfl⟩)
              | fail)
            go_ret
            exact ⟨rfl, QW.out⟩

theorem of_len4 {α : Type} (l : List α) (h : l.length = 4) : ∃ x0 x1 x2 x3, l = [x0, x1, x2, x3] := by
  match l, h with
  | [x0, x1, x2, x3], _ => exact ⟨x0, x1, x2, x3, rfl⟩
theorem own : ownKnob Try.prog.godebug = none := by kernel_rfl
theorem laidOut : laidOutB Try.prog = true := by kernel_rfl

set_option maxRecDepth 100000 in
set_option maxHeartbeats 2000000 in
theorem lifted (os : Os) (started : os.Started) (H : Type) (enc : TypeId × Value → H) :
    ReturnsInHanded {} Try.checked os 5 .any (Rows.ringsSpacedSpec.pre6 enc Try.prog Try.f5 Rows.ringsSpacedRow.domain false) (Rows.ringsSpacedSpec.post enc Try.prog Try.f5 false true false false) := by
  refine returnsInHanded_of_change_sized (C := Try.checked) own started (by kernel_rfl) Try.func5
    (ChangeSpec.witness6 (enc := enc) (C := Try.checked) false ⟨#[], #[.agg #[.slice none 0 0, .slice none 0 0, .int .i64 0, .int .i64 0], .int .i64 0, .slice none 0 0], []⟩ 8 (by kernel_rfl) (by kernel_rfl) (by kernel_rfl) (by kernel_rfl)) ?_
  intro W base args ds gs before hval0 hW hcnd hsz0 _
  have hval : ∀ (j : Nat) t v, Try.f5.params[j]? = some t → args[j]? = some v → Value.okWide Try.prog W .any base t v := hval0
  have hsz : (DataW.weightsEach Try.prog (Try.f5.params.toList ++ Rows.ringsSpacedSpec.plain.varTypes Try.prog) (ds ++ gs)).all (· ≤ reachBytes) = true := hsz0
  have hW' := hW
  obtain ⟨p, q, hA0, hV, rfl, hfz, hnd⟩ := hW
  have hA : DataW.TrodAll enc Try.prog W 0 (fun _ => true) true Try.f5.params.toList args.toList ds p := hA0
  rw [Try.params5] at hA hval hsz
  obtain ⟨v0, vs0, d0, ds0, p0, q0, hargs, rfl, rfl, h0, r0⟩ := trodAll_cons hA
  obtain ⟨v1, vs1, d1, ds1, p1, q1, rfl, rfl, rfl, h1, r1⟩ := trodAll_cons r0
  obtain ⟨v2, vs2, d2, ds2, p2, q2, rfl, rfl, rfl, h2, r2⟩ := trodAll_cons r1
  obtain ⟨rfl, rfl, rfl⟩ := trodAll_nil r2
  obtain rfl : args = #[v0, v1, v2] := by cases args; simp_all
  obtain ⟨rfl, rfl⟩ := trodVars_none hV
  have k0 := h0
  have lt0 : ∀ x ∈ p0, x.block < W.heap.size := by obtain ⟨m, hm⟩ := k0; exact DataW.trod_lt m _ _ _ hm
  obtain ⟨vs0', ys0', m0, rfl, lv0, ly0, hd0, F0⟩ := open_agg Try.underlying25 (by kernel_rfl) (by kernel_rfl) (hval 0 25 v0 rfl rfl) h0
  obtain ⟨c0_0, c0_1, c0_2, c0_3, rfl⟩ := of_len4 _ lv0
  obtain ⟨y0_0, y0_1, y0_2, y0_3, rfl⟩ := of_len4 _ ly0
  simp only [List.map_cons, List.map_nil] at hd0
  obtain ⟨_, _, e, g, t0_0⟩ := F0 0 _ rfl
  obtain rfl := Option.some.inj e; obtain rfl := Option.some.inj g; clear e g
  obtain ⟨a0_0, xs0_0, cap0_0, rfl, hbt0_0, hcap0_0, hlc0_0, hq0_0⟩ := open_bytes t0_0
  obtain ⟨_, _, e, g, t0_1⟩ := F0 1 _ rfl
  obtain rfl := Option.some.inj e; obtain rfl := Option.some.inj g; clear e g
  obtain ⟨a0_1, xs0_1, cap0_1, rfl, hbt0_1, hcap0_1, hlc0_1, hq0_1⟩ := open_intsF t0_1
  obtain ⟨_, _, e, g, t0_2⟩ := F0 2 _ rfl
  obtain rfl := Option.some.inj e; obtain rfl := Option.some.inj g; clear e g
  obtain ⟨z0_2, e, _, w0_2⟩ := DataW.trod_int Try.underlying3 t0_2
  obtain rfl := (List.cons.inj e).1; clear e
  obtain ⟨lo0_2, hi0_2⟩ := bounds_i64 w0_2
  obtain ⟨_, _, e, g, t0_3⟩ := F0 3 _ rfl
  obtain rfl := Option.some.inj e; obtain rfl := Option.some.inj g; clear e g
  obtain ⟨z0_3, e, _, w0_3⟩ := DataW.trod_int Try.underlying3 t0_3
  obtain rfl := (List.cons.inj e).1; clear e
  obtain ⟨lo0_3, hi0_3⟩ := bounds_i64 w0_3
  obtain ⟨a1, rfl, rfl, rfl, w1⟩ := open_int Try.underlying3 (hval 1 3 v1 rfl rfl) h1
  obtain ⟨a2, len2, cap2, rfl⟩ := okWide_slice Try.underlying23 (hval 2 23 v2 rfl rfl)
  have k2 := h2
  have lt2 : ∀ x ∈ p2, x.block < W.heap.size := by obtain ⟨m, hm⟩ := k2; exact DataW.trod_lt m _ _ _ hm
  have hre0_0 : xs0_0.length ≤ 140737488351232 := bytes_reach hq0_0 (sized_field hsz (j := 0) (i := 0) (t := 25) rfl (by rw [hd0]; rfl) Try.underlying25 rfl rfl)
  have hre0_1 : xs0_1.length ≤ 17592186043904 := ints_reach hq0_1 (sized_field hsz (j := 0) (i := 1) (t := 25) rfl (by rw [hd0]; rfl) Try.underlying25 rfl rfl)
  obtain ⟨xs2, hxl2, hbt2, hcap2, hre2⟩ : ∃ xs : List Int, xs.length = len2 ∧ Its W a2 xs ∧ (a2 = none → cap2 = 0) ∧ xs.length ≤ 17592186043904 := by
    obtain ⟨fuel, hf⟩ := h2
    rcases open_ints Try.underlying23 Try.underlying3 (by kernel_rfl) hf with ⟨hcs, _⟩ | ⟨x, l, c, zs, hcs, _, hl, hm, hz, hd, hcell, hwz⟩
    · simp [Value.cells] at hcs
      obtain ⟨rfl, rfl, rfl⟩ := hcs
      exact ⟨[], rfl, ⟨(fun x h => by cases h), .inl rfl⟩, fun _ => rfl, by simp⟩
    · simp [Value.cells] at hcs
      obtain ⟨rfl, rfl, rfl⟩ := hcs
      have hz' : zs.length = cap2 := by simpa using hz
      obtain ⟨xs, h1, h2⟩ := its_of_ints hl hz' hcell hwz
      have hd' := (Prod.mk.inj hd).1
      have hw := sized_slice hsz (j := 2) (t := 23) (e := 3) rfl (by rw [hd']; rfl) Try.underlying23
      rw [bytes8] at hw
      simp only [lits, List.length_map, List.length_take, List.length_drop, reachBytes] at hw
      exact ⟨xs, h1, h2, (fun h => by cases h), by omega⟩
  clear hA0 hval0 hsz hsz0
  obtain ⟨lo1, hi1⟩ := bounds_i64 w1
  subst hxl2
  refine (walk a0_0 xs0_0 cap0_0 a0_1 xs0_1 cap0_1 z0_2 z0_3 a1 a2 xs2 cap2 W hbt0_0 hcap0_0 hlc0_0 hre0_0 hbt0_1 hcap0_1 hlc0_1 hre0_1 lo0_2 hi0_2 lo0_3 hi0_3 lo1 hi1 hbt2 hcap2 hre2).mono fun e W' ⟨he, bel⟩ => ?_
  subst he
  exact ⟨_, rfl, _, _, _, [], _, [], hW', trodAll_mk1 (shut_bool Try.underlying4 _), (trodAll_cons_mk (Below.trod laidOut (by kernel_rfl) (of_decide_eq_true (by kernel_rfl)) k0 bel lt0) (trodAll_cons_mk (shut_int Try.underlying3 w1) (trodAll_cons_mk (Below.trod laidOut (by kernel_rfl) (of_decide_eq_true (by kernel_rfl)) k2 bel lt2) trodAll_mk0))), rfl, bel.frame _, fun h => by cases h⟩

theorem over : Rows.ringsSpacedRow.holds Try.pinned (OpenSpec.ofChange Rows.ringsSpacedSpec) :=
  OpenClaim.holds_of_wide 5 Try.f5 rfl rfl rfl rfl rfl rfl rfl ⟨rfl, rfl, rfl, rfl, rfl⟩ rfl rfl rfl rfl rfl (by kernel_rfl) Try.func5 (by kernel_rfl)
    (of_decide_eq_true (by kernel_rfl)) (by unfold Func.isWrapper; first | (rw [if_pos (by decide +kernel)]; kernel_rfl) | (rw [if_neg (by decide +kernel)]; exact ⟨rfl, rfl⟩))
    (fun os started H enc _ => lifted os started H enc)

end Go.Proofs.Ytokfadlgiimaoaa.ringsSpaced
namespace Go.Proofs.Ytokfadlgiimaoaa
/-- The statement. -/
theorem ringsSpaced_holds : Rows.RingsSpacedSaid := ringsSpaced.over
#print axioms ringsSpaced_holds
end Go.Proofs.Ytokfadlgiimaoaa
