/- For any settings of a card and any frame: what was handed in is not kept, what is answered is its holder's; cards that no call made answer so. No condition. -/
import Derived.Test.YtokfadlgiimaoaaRows
import Derived.Test.YtokfadlgiimaoaaRgH
import Derived.Test.YtokfadlgiimaoaaRgI
import Derived.Test.YtokfadlgiimaoaaRgY
import Derived.Test.YtokfadlgiimaoaaRgS
import Derived.Test.YtokfadlgiimaoaaGStructI
import Derived.Test.YtokfadlgiimaoaaGAgg
import Derived.Deep.DeepCutAuto
import Derived.RegionTactic
import Derived.Deep.RegionHeld3
import Derived.Lib.MinMax
import Derived.ProofKit
import Derived.OpenShut
import Derived.ChangeOld
import Derived.SizedLaws
namespace Go.Proofs.Ytokfadlgiimaoaa.ringsOwn
open Go.ChangeShapes Go.WideShapes Go.ChangeAt Go.RowKit Go.Deep

theorem chk_zero {ks : List Nat} {ts : List Int} {sz ev : Int} (h : chkE ks ts sz ev = 0) : ckE ks ts = 0 ∧ 1 ≤ sz ∧ sz ≤ 4096 ∧ 1 ≤ ev ∧ ev ≤ 1048576 := by
  unfold chkE at h
  by_cases h1 : ckE ks ts = 0
  · rw [if_pos h1] at h
    by_cases h2 : sz < 1 ∨ 4096 < sz ∨ ev < 1 ∨ 1048576 < ev
    · rw [if_pos h2] at h; cases h
    · exact ⟨h1, by omega, by omega, by omega, by omega⟩
  · rw [if_neg h1] at h; exact absurd h h1
theorem ck_lens {ks : List Nat} {ts : List Int} (h : ckE ks ts = 0) : ks.length = 40 ∧ ts.length = 128 := by
  unfold ckE at h
  by_cases h1 : ks.length = 40
  · rw [if_pos h1] at h; exact ⟨h1, (ctE_zero h).1⟩
  · rw [if_neg h1] at h; cases h

theorem ct_of_ck {ks : List Nat} {ts : List Int} (h : ckE ks ts = 0) : ctE ts = 0 := by
  unfold ckE at h
  by_cases h1 : ks.length = 40
  · rw [if_pos h1] at h; exact h
  · rw [if_neg h1] at h; cases h

set_option linter.unusedSimpArgs false in
set_option maxRecDepth 100000 in
set_option maxHeartbeats 1000000 in
theorem walk (ka : Option Addr) (ks : List Nat) (kc : Nat) (ta : Option Addr) (ts : List Int) (tc : Nat) (sz ev : Int) (a : Option Addr) (ys : List Nat) (cap : Nat) (w : World)
    (hk : Bts w ka ks) (hkn : ka = none → kc = 0) (_ : ks.length ≤ kc ∧ kc ≤ maxLen) (hkl : ks.length ≤ 140737488351232) (ht : Its w ta ts) (htn : ta = none → tc = 0) (_ : ts.length ≤ tc ∧ tc ≤ maxLen) (htl : ts.length ≤ 17592186043904) (_ : -9223372036854775808 ≤ sz) (_ : sz ≤ 9223372036854775807) (_ : -9223372036854775808 ≤ ev) (_ : ev ≤ 9223372036854775807) (hy : Bts w a ys) (hyn : a = none → cap = 0) (hyc : ys.length ≤ cap ∧ cap ≤ maxLen) (hyl : ys.length ≤ 140737488351232) :
    Calls Try.prog 6 #[.agg #[.slice ka ks.length kc, .slice ta ts.length tc, .int .i64 sz, .int .i64 ev], .slice a ys.length cap] w fun e w' => e = .returned (.bool true) ∧ Below w.heap.size w w' := by
  have bw := (Below.refl w.heap.size w).alloc (Nat.le_refl _) (.cells #[.slice ka ks.length kc, .slice ta ts.length tc, .int .i64 sz, .int .i64 ev] 25)
  have K0 := Lib.hid (blk_new w (.cells #[.slice ka ks.length kc, .slice ta ts.length tc, .int .i64 sz, .int .i64 ev] 25))
  have Q0 := Lib.hid bw
  have hz0 : Hid (w.heap.size < (w.alloc (.cells #[.slice ka ks.length kc, .slice ta ts.length tc, .int .i64 sz, .int .i64 ev] 25)).heap.size) := Lib.hid (by rw [World.size_alloc]; exact Nat.lt_succ_self _)
  have HK := Lib.hid hk
  have HT := Lib.hid ht
  have HKN := Lib.hid hkn
  have HTN := Lib.hid htn
  have HKL := Lib.hid hkl
  have HTL := Lib.hid htl
  have HY := Lib.hid hy
  have HYN := Lib.hid hyn
  have HYC := Lib.hid hyc
  have HYL := Lib.hid hyl
  clear hk ht hkn htn hkl htl hy hyn hyc hyl bw
  go_enter Try.func6, Try.ntmps6
  go_upto_region 4 with (first
    | (go_at_call 11; refine (alive_any _).mono ?_; rintro e V1 ⟨rfl, b⟩; have Q1 := Lib.hid (Q0.out.trans (b.mono Q0.out.size)); have K1 := Lib.hid ((b.block _ hz0.out).trans K0.out); have hz1 := Lib.hid (Nat.lt_of_lt_of_le hz0.out b.size); clear b)
    | fail)
  clear K0 Q0 hz0
  go_upto_region 6 with (first
    | (go_at_call 20; (first | (with_reducible refine (nothing_any _ _ (no_nil _)).mono ?_) | (refine (nothing_any _ _ (no_zero _ _ _ _ (blk_new _ _) (by rfl))).mono ?_)); rintro e w' ⟨rfl, rfl⟩)
    | fail)
  have bz := (Below.refl V1.heap.size V1).alloc (Nat.le_refl _) (.cells Try.zeroCells57 57)
  have Q2 := Lib.hid (Q1.out.trans (bz.mono Q1.out.size))
  have K2 := Lib.hid ((bz.block _ hz1.out).trans K1.out)
  have hz2 := Lib.hid (Nat.lt_of_lt_of_le hz1.out bz.size)
  clear bz K1 Q1 hz1
  generalize V1.alloc (.cells Try.zeroCells57 57) = V2 at Q2 K2 hz2 ⊢
  have c0 := blk_cell K2.out 0
  have c1 := blk_cell K2.out 1
  have c2 := blk_cell K2.out 2
  have c3 := blk_cell K2.out 3
  have HOF := Lib.hid (of_any ka ks kc ta ts tc sz ev V2 (HK.out.below Q2.out) HKN.out HKL.out (HT.out.below Q2.out) HTN.out HTL.out)
  go_upto_region 7 with (first
    | (go_at_call 8; refine HOF.out.mono ?_; rintro e V3 ⟨⟨ka', kc', ta', tc', rfl, O, P⟩, b⟩; have O3 := Lib.hid O; have P3 := Lib.hid P; have Q3 := Lib.hid (Q2.out.trans (b.mono Q2.out.size)); have K3 := Lib.hid ((b.block _ hz2.out).trans K2.out); have hz3 := Lib.hid (Nat.lt_of_lt_of_le hz2.out b.size); clear O P b)
    | fail)
  clear c0 c1 c2 c3 HOF
  have bz := (Below.refl V3.heap.size V3).alloc (Nat.le_refl _) (.cells #[.slice ka' ks.length kc', .slice ta' ts.length tc', .int .i64 sz, .int .i64 ev] 29)
  have G4 := Lib.hid (blk_new V3 (.cells #[.slice ka' ks.length kc', .slice ta' ts.length tc', .int .i64 sz, .int .i64 ev] 29))
  have Q4 := Lib.hid (Q3.out.trans (bz.mono Q3.out.size))
  have K4 := Lib.hid ((bz.block _ hz3.out).trans K3.out)
  have hz4 := Lib.hid (Nat.lt_of_lt_of_le hz3.out bz.size)
  have O4 := Lib.hid (O3.out.below bz)
  have P4 := Lib.hid (P3.out.below bz)
  have lG : Hid (∀ g, ka' = some ⟨g, 0, none⟩ → g < V3.heap.size) := Lib.hid O3.out.blkLt
  have lT : Hid (∀ g, ta' = some ⟨g, 0, none⟩ → g < V3.heap.size) := Lib.hid P3.out.ltB
  have lap := Lib.hid (its_apart O3.out P3.out)
  have hV2 : Hid (w.heap.size < V2.heap.size) := Lib.hid hz2.out
  clear bz K3 Q3 hz3 O3 P3 Q2 K2 hz2
  generalize V3.alloc (.cells #[.slice ka' ks.length kc', .slice ta' ts.length tc', .int .i64 sz, .int .i64 ev] 29) = V4 at G4 Q4 K4 hz4 O4 P4 ⊢
  generalize V2.heap.size = B0 at O4 P4 hV2
  have lg4 := Lib.hid (blk_lt G4.out)
  generalize V3.heap.size = gv at G4 lG lT lg4 ⊢
  have d0 := blk_cell G4.out 0
  have d1 := blk_cell G4.out 1
  have d2 := blk_cell G4.out 2
  have d3 := blk_cell G4.out 3
  by_cases hchk : chkE ks ts sz ev = 0
  case neg =>
    have e1 : (chkE ks ts sz ev != 0) = true := by rw [bne_iff_ne]; exact hchk
    have HN := Lib.hid (new_bad ka' ks kc' ta' ts tc' sz ev V4 (P4.out.its HT.out.1) (by have := HTL.out; omega) hchk)
    go_wp2_with (first
      | (go_at_call 12; refine HN.out.mono ?_; rintro e V5 ⟨rfl, b⟩; have Q5 := Lib.hid (Q4.out.trans (b.mono Q4.out.size)); clear b)
      | (go_at_call 10; refine (num_any _ _).mono ?_; rintro e w' ⟨rfl, rfl⟩)
      | fail)
    all_goals
      go_ret
      exact ⟨rfl, Q5.out⟩
  case pos =>
    obtain ⟨hck, hs1, hs2, hv1, hv2⟩ := chk_zero hchk
    obtain ⟨hk40, ht128⟩ := ck_lens hck
    obtain ⟨z, rfl⟩ : ∃ z : Nat, sz = z := ⟨sz.toNat, by omega⟩
    obtain ⟨q, hq, hQ, hR⟩ := both_any ks ts ys (ct_of_ck hck) HYL.out HY.out.1
    have HQ := Lib.hid hQ
    have HR := Lib.hid hR
    have HQ16 := Lib.hid hq
    have HC0 := Lib.hid hchk
    have H128 := Lib.hid ht128
    have HZZ := Lib.hid (show 1 ≤ z ∧ z ≤ 4096 by omega)
    have HN := Lib.hid (new_okF ka' ks kc' ta' ts tc' z ev V4 O4.out.bts O4.out.nilcap (P4.out.its HT.out.1) P4.out.nilcap hk40 ht128 HZZ.out hchk)
    have hB4 := Lib.hid (show w.heap.size ≤ V4.heap.size from Q4.out.size)
    clear hck hs1 hs2 hv1 hv2 hk40 ht128 hQ hR hq hchk
    go_upto_region 10 with (first
      | (go_at_call 12; refine HN.out.mono ?_; rintro e V5 ⟨⟨g, KY, own, rfl, hC, hO, hK1, hK2, hK3, hK4, hK5, hK6⟩, b⟩; have C5 := Lib.hid hC; have HO5 := Lib.hid hO; have KS := Lib.hid (And.intro hK1 (And.intro hK2 (And.intro hK3 hK4))); have KF := Lib.hid (And.intro hK5 hK6); have Q5 := Lib.hid (Q4.out.trans (b.mono Q4.out.size)); have K5 := Lib.hid ((b.block _ hz4.out).trans K4.out); have G5 := Lib.hid ((b.block _ lg4.out).trans G4.out); have O5 := Lib.hid (O4.out.below b); have P5 := Lib.hid (P4.out.below b); have hs5 := Lib.hid b.size; clear hC hO hK1 hK2 hK3 hK4 hK5 hK6 b)
      | (go_at_call 10; refine (num_any _ _).mono ?_; rintro e w' ⟨rfl, rfl⟩)
      | fail)
    clear d0 d1 d2 d3 K4 G4 O4 P4 Q4 HN hz4
    generalize V4.heap.size = B at C5 HO5 KF hs5 lg4 hB4
    have c0 := blk_cell K5.out 0
    have c1 := blk_cell K5.out 1
    have c2 := blk_cell K5.out 2
    have c3 := blk_cell K5.out 3
    have HRW := Lib.hid (HR.out ka kc ta tc (z : Nat) ev a cap V5 (HK.out.below Q5.out) (HT.out.below Q5.out) HC0.out (HY.out.below Q5.out) HYC.out.1 HYC.out.2)
    go_upto_region 11 with (first
      | (go_at_call 9; refine HRW.out.mono ?_; rintro e V6 ⟨rfl, b⟩; have C6 := Lib.hid (C5.out.below b); have G6 := Lib.hid ((b.block _ (blk_lt G5.out)).trans G5.out); have O6 := Lib.hid (O5.out.below b); have P6 := Lib.hid (P5.out.below b); have Q6 := Lib.hid (Q5.out.trans (b.mono Q5.out.size)); have hs6 := Lib.hid (Nat.le_trans hs5.out b.size); clear b)
      | fail)
    clear c0 c1 c2 c3 K5 HRW C5 G5 O5 P5 Q5 hs5 HR
    obtain ⟨tg, htg⟩ : ∃ tg, ta' = some ⟨tg, 0, none⟩ := by
      obtain ⟨tg, h, _⟩ := P6.out.isSome (by rw [H128.out]; omega)
      exact ⟨tg, h⟩
    subst htg
    have hrow := row_blk P6.out.rowAny (by decide)
    have HROW := Lib.hid hrow
    have ltg := Lib.hid (lT.out tg rfl)
    have nkg := Lib.hid (fun g (e : ka' = some ⟨g, 0, none⟩) => fun e2 : g = tg => lap.out g e (by rw [e2]))
    have tB0 : Hid (B0 ≤ tg) := Lib.hid ((P6.out.ownB tg rfl).1)
    clear hrow P6 lap lT
    go_wp2
    go_loopw [11] (fun iv wr => ∃ k : Nat, k ≤ ts.length ∧ iv = .int .i64 k ∧ (∃ cur : Array Value, wr.heap[tg]? = some (.cells cur 3 (0, 0)) ∧ ts.length ≤ cur.size) ∧ V6.grownBy wr (some tg)) (fun iv _ => ts.length - (intOf iv).toNat)
    case atStart => exact ⟨0, by omega, rfl, HROW.out, World.grownBy.refl V6 _⟩
    case round =>
      obtain ⟨k, hk, rfl, hcur, hgr⟩ := hrel
      have GR := Lib.hid hgr
      have G7 := Lib.hid ((hgr.block gv (blk_lt G6.out) (fun e => by have := Option.some.inj e; have := ltg.out; omega)).trans G6.out)
      have d1 := blk_cell G7.out 1
      clear hgr
      by_cases hlt : k < ts.length
      · have i1 : (k : Int) < (ts.length : Int) := by omega
        have W1 : IntKind.i64.wrap ((k : Int) + 1) = (k : Int) + 1 := IntWalk.i64_in _ ⟨by omega, by have := H128.out; omega⟩
        obtain ⟨cur, hb, hcs⟩ := hcur
        have t0 : wr.cell? ⟨tg, k, none⟩ = some (cur.getD k undef) := (blk_cell hb k).trans (by rw [Array.getD_eq_getD_getElem?, Array.getElem?_eq_getElem (by omega)]; rfl)
        have f0 := blk_free hb k
        have SB := Lib.hid (blk_set hb k (.int .i64 15))
        have GS := Lib.hid (gtrans GR.out (gr_set wr tg k (.int .i64 15)))
        have HCS := Lib.hid hcs
        clear hb hcs
        go_wp2
        go_roundw
        case rel => exact ⟨k + 1, by omega, by go_num, ⟨_, SB.out, by rw [Array.size_setIfInBounds]; exact HCS.out⟩, GS.out⟩
        case measure => simp [intOf]; omega
      · obtain rfl : ts.length = k := by omega
        clear hcur
        have O7 : Hid (OwnSl B0 ka' ks kc' wr) := Lib.hid (O6.out.turned (Turns.of_grown (S := fun b => b = tg) (fun k2 e => (Option.some.inj e).symm) GR.out) (fun g e h => nkg.out g e h))
        have C7 : Hid (CardS wr g B z ev 0 0 KY (fun _ => []) own) := Lib.hid (C6.out.turned (Turns.of_grown (S := fun b => b < B) (fun k2 e => by have := Option.some.inj e; have := ltg.out; have := lg4.out; omega) GR.out) (fun b hb => by have := HO5.out b hb; omega) (fun b off e => by have := KF.out.1 b off e; omega) (fun b off e => by have := KF.out.2 b off e; omega) (fun j _ x hx => by cases hx))
        have Q7 : Hid (Below w.heap.size w wr) := Lib.hid (Q6.out.grown GR.out Q6.out.size (fun k2 e => by have := Option.some.inj e; have := tB0.out; have := hV2.out; omega))
        have hs7 : Hid (B ≤ wr.heap.size) := Lib.hid (Nat.le_trans hs6.out GR.out.size)
        have d0 := blk_cell G7.out 0
        clear C6 O6 Q6 GR G6 hs6 nkg
        obtain ⟨kg, hkg⟩ : ∃ kg, ka' = some ⟨kg, 0, none⟩ := by
          have h40 := (ck_lens (chk_zero HC0.out).1).1
          obtain ⟨b, o, e, _⟩ := O7.out.bts.isSome (by omega)
          obtain ⟨_, ⟨e2, _⟩ | ⟨g2, e2, _⟩⟩ := O7.out
          · rw [e] at e2; cases e2
          · exact ⟨g2, e2⟩
        subst hkg
        have HSP := Lib.hid (spoil_row B0 kg kc' ks O7.out.1 (by have := HKL.out; omega) wr O7.out.row.1 O7.out.row.2)
        have lkg := Lib.hid (lG.out kg rfl)
        have kB0 := Lib.hid O7.out.row.1
        go_upto_region 16 with (first
          | (go_at_call 21; refine HSP.out.mono ?_; rintro e V8 ⟨⟨v, rfl⟩, b, hg⟩; have C8 : Hid (CardS V8 g B z ev 0 0 KY (fun _ => []) own) := Lib.hid (C7.out.turned (Turns.of_grown (S := fun b => b < B) (fun k2 e => by have := Option.some.inj e; have := lkg.out; have := lg4.out; omega) hg) (fun b hb => by have := HO5.out b hb; omega) (fun b off e => by have := KF.out.1 b off e; omega) (fun b off e => by have := KF.out.2 b off e; omega) (fun j _ x hx => by cases hx)); have Q8 : Hid (Below w.heap.size w V8) := Lib.hid (Q7.out.grown hg Q7.out.size (fun k2 e => by have := Option.some.inj e; have := kB0.out; have := hV2.out; omega)); have hs8 : Hid (B ≤ V8.heap.size) := Lib.hid (Nat.le_trans hs7.out hg.size); clear b hg)
          | fail)
        clear d0 d1 G7 C7 Q7 hs7 O7 HSP
        have HCP := Lib.hid (copy_one a ys cap V8 (HY.out.below Q8.out) (by have := HYL.out; omega) HYN.out)
        go_upto_region 17 with (first
          | (go_at_call 22; refine HCP.out.mono ?_; rintro e V9 ⟨oa, oc, rfl, O, b⟩; have O9 := Lib.hid O; have C9 := Lib.hid (C8.out.below b); have Q9 := Lib.hid (Q8.out.trans (b.mono Q8.out.size)); have hs9 : Hid (B ≤ V9.heap.size) := Lib.hid (Nat.le_trans hs8.out b.size); have h89 : Hid (V8.heap.size ≤ V9.heap.size) := Lib.hid b.size; clear O b)
          | fail)
        have lw8 : Hid (w.heap.size ≤ V8.heap.size) := Lib.hid Q8.out.size
        have hB8 : Hid (∀ g, oa = some ⟨g, 0, none⟩ → V8.heap.size ≤ g ∧ g < V9.heap.size) := Lib.hid (fun g e => ⟨ownSl_at O9.out g 0 e, O9.out.blkLt g e⟩)
        have HNO : Hid (∀ b, own b → b < V8.heap.size) := Lib.hid (fun b h => (C8.out.ownLt h).1)
        have HKA := Lib.hid C8.out.keyLt
        clear C8 Q8 HCP
        by_cases hlong : 65535 < ys.length
        · have HRV := Lib.hid (recv_long g B z ev 0 0 KY (fun _ => []) own oa ys.length oc V9 C9.out hlong)
          have HS := Lib.hid (spoil_own V8.heap.size V9.heap.size oc oa ys (by have := HYL.out; omega) V9 O9.out (fun g e => (hB8.out g e).2))
          have i9 : (65535 : Int) < (ys.length : Int) := by omega
          have i9d : decide ((65535 : Int) < (ys.length : Int)) = true := decide_eq_true i9
          have i9e : decide (65535 < ys.length) = true := decide_eq_true hlong
          clear hlong
          go_wp2_with (first
            | (go_at_call 13; refine HRV.out.mono ?_; rintro e w' ⟨rfl, rfl⟩)
            | (go_at_call 21; refine HS.out.mono ?_; rintro e V10 ⟨⟨v, rfl⟩, bt⟩; have Q10 : Hid (Below w.heap.size w V10) := Lib.hid (Q9.out.trans ((bt.below h89.out).mono lw8.out)); clear bt)
            | (go_at_call 10; refine (num_any _ _).mono ?_; rintro e w' ⟨rfl, rfl⟩)
            | fail)
          go_ret
          exact ⟨by simp [i9d, i9e], Q10.out⟩
        · have HQ' : ∀ W, Bts W oa ys → KeysOk W own KY → Calls Try.prog 24 #[.agg #[.slice KY.ka KY.ks.length KY.kc, .slice KY.ta KY.ts.length KY.tc, .int .i64 (z : Nat), .int .i64 ev], .slice oa ys.length oc] W fun e w' => e = .returned (.int .i64 (q : Nat)) ∧ Below W.heap.size W w' := fun W hy hk => by
            obtain ⟨k1, k2, k3, k4⟩ := KS.out
            have h := HQ.out KY.ka KY.kc KY.ta KY.tc (z : Nat) ev oa oc W (by rw [← k1]; exact hk.1) k3 k4 (by rw [← k2]; exact hk.2.1) hy O9.out.capLe.1 O9.out.capLe.2
            rw [k1, k2]; exact h
          have HRV := Lib.hid (recv_okF g B z ev 0 0 KY (fun _ => []) own oa ys oc q V9 C9.out hs9.out O9.out.bts O9.out.nilcap (by omega) HQ16.out (by show 0 < z; have := HZZ.out; omega) HQ')
          have HLG := Lib.hid (show ys.length ≤ 65535 by omega)
          clear HQ' hlong
          go_upto_region 18 with (first
            | (go_at_call 13; refine HRV.out.mono ?_; rintro e V10 ⟨rfl, ⟨x, own2, hx, hfr, hC, hO⟩, hS, hW⟩; have C10 := Lib.hid hC; have X10 := Lib.hid hx; have F10 := Lib.hid hfr; have OW := Lib.hid hO; have O10 : Hid (OwnSl V8.heap.size oa ys oc V10) := Lib.hid (O9.out.stay hS (fun g e h => by have h1 := HNO.out g h; have h2 := (hB8.out g e).1; omega)); have Q10 := Lib.hid (Q9.out.trans (hW.mono (Nat.le_trans hB4.out (Nat.le_refl B)))); have hs10 : Hid (V9.heap.size ≤ V10.heap.size) := Lib.hid hS.1; clear hx hfr hC hO hS hW)
            | fail)
          have HS := Lib.hid (spoil_own V8.heap.size V9.heap.size oc oa ys (by have := HLG.out; omega) V10 O10.out (fun g e => (hB8.out g e).2))
          clear HRV C9 Q9
          go_upto_region 19 with (first
            | (go_at_call 21; refine HS.out.mono ?_; rintro e V11 ⟨⟨v, rfl⟩, bt⟩; have Q11 : Hid (Below w.heap.size w V11) := Lib.hid (Q10.out.trans ((bt.below (Nat.le_trans h89.out hs10.out)).mono lw8.out)); have C11 : Hid (CardS V11 g B z ev 0 0 KY (upd (fun _ => []) q ([] ++ [x])) own2) := Lib.hid (C10.out.turned bt.turns (fun b hb hs => by rcases OW.out b hb with h | h; have := HNO.out b h; omega; omega) (fun b off e hs => by have := HKA.out.1 b off e; omega) (fun b off e hs => by have := HKA.out.2 b off e; omega) (fun j _ y hy b off e hs => by rcases mem_put hy with h | h; cases h; rw [h] at e; have := F10.out b off e; omega)); have hs11 : Hid (V10.heap.size ≤ V11.heap.size) := Lib.hid bt.size; clear bt)
            | fail)
          clear C10 Q10 HS O10 F10
          have HTK := Lib.hid (take_ok g B z ev 0 0 KY _ own2 q x [] V11 C11.out HQ16.out (upd_at _ _ _) (by have := hs9.out; have := hs10.out; have := hs11.out; omega))
          have X11 := X10.out
          clear X10
          obtain ⟨⟨xa, xn, xc⟩, xl⟩ := x
          go_upto_region 22 with (first
            | (go_at_call 10; refine (num_any _ _).mono ?_; rintro e w' ⟨rfl, rfl⟩)
            | (go_at_call 15; refine HTK.out.mono ?_; rintro e V12 ⟨rfl, _, ⟨hb, hn, _⟩, _, hW⟩; have Q12 := Lib.hid (Q11.out.trans (hW.mono hB4.out)); have X12 := Lib.hid hb; have N12 := Lib.hid hn; clear hb hn hW; unfold sv; dsimp only)
            | fail)
          have e7 : xn = xl.length := N12.out
          subst e7
          have e8 : xl = ys := X11
          subst e8
          have HSM := Lib.hid (same_one xa a xl xl xc cap V12 X12.out (HY.out.below Q12.out) (by have := HYL.out; omega) (by have := HYL.out; omega) rfl)
          have e1 : ((q : Int) == (q : Int)) = true := beq_self_eq_true _
          clear X12 N12 X11
          go_wp2_with (first
            | (go_at_call 16; refine HSM.out.mono ?_; rintro e V13 ⟨rfl, b⟩; have Q13 := Lib.hid (Q12.out.trans (b.mono Q12.out.size)); clear b)
            | fail)
          go_ret
          exact ⟨rfl, Q13.out⟩

theorem of_len4 {α : Type} (l : List α) (h : l.length = 4) : ∃ x0 x1 x2 x3, l = [x0, x1, x2, x3] := by
  match l, h with
  | [x0, x1, x2, x3], _ => exact ⟨x0, x1, x2, x3, rfl⟩
theorem own : ownKnob Try.prog.godebug = none := by kernel_rfl
theorem laidOut : laidOutB Try.prog = true := by kernel_rfl

set_option maxRecDepth 100000 in
set_option maxHeartbeats 2000000 in
theorem lifted (os : Os) (started : os.Started) (H : Type) (enc : TypeId × Value → H) :
    ReturnsInHanded {} Try.checked os 6 .any (Rows.ringsOwnSpec.pre6 enc Try.prog Try.f6 Rows.ringsOwnRow.domain false) (Rows.ringsOwnSpec.post enc Try.prog Try.f6 false true false false) := by
  refine returnsInHanded_of_change_sized (C := Try.checked) own started (by kernel_rfl) Try.func6
    (ChangeSpec.witness6 (enc := enc) (C := Try.checked) false ⟨#[], #[.agg #[.slice none 0 0, .slice none 0 0, .int .i64 0, .int .i64 0], .slice none 0 0], []⟩ 8 (by kernel_rfl) (by kernel_rfl) (by kernel_rfl) (by kernel_rfl)) ?_
  intro W base args ds gs before hval0 hW hcnd hsz0 _
  have hval : ∀ (j : Nat) t v, Try.f6.params[j]? = some t → args[j]? = some v → Value.okWide Try.prog W .any base t v := hval0
  have hsz : (DataW.weightsEach Try.prog (Try.f6.params.toList ++ Rows.ringsOwnSpec.plain.varTypes Try.prog) (ds ++ gs)).all (· ≤ reachBytes) = true := hsz0
  have hW' := hW
  obtain ⟨p, q, hA0, hV, rfl, hfz, hnd⟩ := hW
  have hA : DataW.TrodAll enc Try.prog W 0 (fun _ => true) true Try.f6.params.toList args.toList ds p := hA0
  rw [Try.params6] at hA hval hsz
  obtain ⟨v0, vs0, d0, ds0, p0, q0, hargs, rfl, rfl, h0, r0⟩ := trodAll_cons hA
  obtain ⟨v1, vs1, d1, ds1, p1, q1, rfl, rfl, rfl, h1, r1⟩ := trodAll_cons r0
  obtain ⟨rfl, rfl, rfl⟩ := trodAll_nil r1
  obtain rfl : args = #[v0, v1] := by cases args; simp_all
  obtain ⟨rfl, rfl⟩ := trodVars_none hV
  have k0 := h0
  have lt0 : ∀ x ∈ p0, x.block < W.heap.size := by obtain ⟨m, hm⟩ := k0; exact DataW.trod_lt m _ _ _ hm
  obtain ⟨vs0', ys0', m0, rfl, lv0, ly0, hd0, F0⟩ := open_agg Try.underlying25 (by kernel_rfl) (by kernel_rfl) (hval 0 25 v0 rfl rfl) h0
  obtain ⟨c0_0, c0_1, c0_2, c0_3, rfl⟩ := of_len4 _ lv0
  obtain ⟨y0_0, y0_1, y0_2, y0_3, rfl⟩ := of_len4 _ ly0
  simp only [List.map_cons, List.map_nil] at hd0
  obtain ⟨_, _, e, g, t0_0⟩ := F0 0 _ rfl
  obtain rfl := Option.some.inj e; obtain rfl := Option.some.inj g; clear e g
  obtain ⟨a0_0, xs0_0, cap0_0, rfl, hbt0_0, hcap0_0, hlc0_0, hq0_0⟩ := open_bytes t0_0
  obtain ⟨_, _, e, g, t0_1⟩ := F0 1 _ rfl
  obtain rfl := Option.some.inj e; obtain rfl := Option.some.inj g; clear e g
  obtain ⟨a0_1, xs0_1, cap0_1, rfl, hbt0_1, hcap0_1, hlc0_1, hq0_1⟩ := open_intsF t0_1
  obtain ⟨_, _, e, g, t0_2⟩ := F0 2 _ rfl
  obtain rfl := Option.some.inj e; obtain rfl := Option.some.inj g; clear e g
  obtain ⟨z0_2, e, _, w0_2⟩ := DataW.trod_int Try.underlying3 t0_2
  obtain rfl := (List.cons.inj e).1; clear e
  obtain ⟨lo0_2, hi0_2⟩ := bounds_i64 w0_2
  obtain ⟨_, _, e, g, t0_3⟩ := F0 3 _ rfl
  obtain rfl := Option.some.inj e; obtain rfl := Option.some.inj g; clear e g
  obtain ⟨z0_3, e, _, w0_3⟩ := DataW.trod_int Try.underlying3 t0_3
  obtain rfl := (List.cons.inj e).1; clear e
  obtain ⟨lo0_3, hi0_3⟩ := bounds_i64 w0_3
  obtain ⟨a1, len1, cap1, rfl⟩ := okWide_slice Try.underlying22 (hval 1 22 v1 rfl rfl)
  have k1 := h1
  have lt1 : ∀ x ∈ p1, x.block < W.heap.size := by obtain ⟨m, hm⟩ := k1; exact DataW.trod_lt m _ _ _ hm
  have hre0_0 : xs0_0.length ≤ 140737488351232 := bytes_reach hq0_0 (sized_field hsz (j := 0) (i := 0) (t := 25) rfl (by rw [hd0]; rfl) Try.underlying25 rfl rfl)
  have hre0_1 : xs0_1.length ≤ 17592186043904 := ints_reach hq0_1 (sized_field hsz (j := 0) (i := 1) (t := 25) rfl (by rw [hd0]; rfl) Try.underlying25 rfl rfl)
  obtain ⟨xs1, hxl1, hbt1, hcap1, hlc1, hre1⟩ : ∃ xs : List Nat, xs.length = len1 ∧ Bts W a1 xs ∧ (a1 = none → cap1 = 0) ∧ (xs.length ≤ cap1 ∧ cap1 ≤ maxLen) ∧ xs.length ≤ 140737488351232 := by
    obtain ⟨fuel, hf⟩ := h1
    rcases open_ints Try.underlying22 Try.underlying5 (by kernel_rfl) hf with ⟨hcs, _⟩ | ⟨x, l, c, zs, hcs, _, hl, hm, hz, hd, hcell, hwz⟩
    · simp [Value.cells] at hcs
      obtain ⟨rfl, rfl, rfl⟩ := hcs
      exact ⟨[], rfl, ⟨(fun x h => by cases h), .inl rfl⟩, fun _ => rfl, ⟨Nat.le_refl _, Nat.zero_le _⟩, by simp⟩
    · simp [Value.cells] at hcs
      obtain ⟨rfl, rfl, rfl⟩ := hcs
      have hz' : zs.length = cap1 := by simpa using hz
      obtain ⟨xs, h1, h2⟩ := bts_of_ints hl hz' hcell hwz
      have hd' := (Prod.mk.inj hd).1
      have hw := sized_slice hsz (j := 1) (t := 22) (e := 5) rfl (by rw [hd']; rfl) Try.underlying22
      rw [bytes5] at hw
      simp only [lits, List.length_map, List.length_take, List.length_drop, reachBytes] at hw
      exact ⟨xs, h1, h2, (fun h => by cases h), ⟨by omega, hm⟩, by omega⟩
  clear hA0 hval0 hsz hsz0
  subst hxl1
  refine (walk a0_0 xs0_0 cap0_0 a0_1 xs0_1 cap0_1 z0_2 z0_3 a1 xs1 cap1 W hbt0_0 hcap0_0 hlc0_0 hre0_0 hbt0_1 hcap0_1 hlc0_1 hre0_1 lo0_2 hi0_2 lo0_3 hi0_3 hbt1 hcap1 hlc1 hre1).mono fun e W' ⟨he, bel⟩ => ?_
  subst he
  exact ⟨_, rfl, _, _, _, [], _, [], hW', trodAll_mk1 (shut_bool Try.underlying4 _), (trodAll_cons_mk (Below.trod laidOut (by kernel_rfl) (of_decide_eq_true (by kernel_rfl)) k0 bel lt0) (trodAll_cons_mk (Below.trod laidOut (by kernel_rfl) (of_decide_eq_true (by kernel_rfl)) k1 bel lt1) trodAll_mk0)), rfl, bel.frame _, fun h => by cases h⟩

theorem over : Rows.ringsOwnRow.holds Try.pinned (OpenSpec.ofChange Rows.ringsOwnSpec) :=
  OpenClaim.holds_of_wide 6 Try.f6 rfl rfl rfl rfl rfl rfl rfl ⟨rfl, rfl, rfl, rfl, rfl⟩ rfl rfl rfl rfl rfl (by kernel_rfl) Try.func6 (by kernel_rfl)
    (of_decide_eq_true (by kernel_rfl)) (by unfold Func.isWrapper; first | (rw [if_pos (by decide +kernel)]; kernel_rfl) | (rw [if_neg (by decide +kernel)]; exact ⟨rfl, rfl⟩))
    (fun os started H enc _ => lifted os started H enc)

end Go.Proofs.Ytokfadlgiimaoaa.ringsOwn
namespace Go.Proofs.Ytokfadlgiimaoaa
/-- The statement. -/
theorem ringsOwn_holds : Rows.RingsOwnSaid := ringsOwn.over
#print axioms ringsOwn_holds
end Go.Proofs.Ytokfadlgiimaoaa
