/- For any settings of a card and any frames: what is received comes out of its ring in order, each frame once, as the same octets. No condition. -/
import Derived.Test.YtokfadlgiimaoaaRows
import Derived.Test.YtokfadlgiimaoaaRgH
import Derived.Test.YtokfadlgiimaoaaRgI
import Derived.Test.YtokfadlgiimaoaaRgS
import Derived.Test.YtokfadlgiimaoaaGStructI
import Derived.Test.YtokfadlgiimaoaaGUntil
import Derived.Test.YtokfadlgiimaoaaGAgg
import Derived.Deep.DeepCutAuto
import Derived.RegionTactic
import Derived.Deep.RegionHeld3
import Derived.Lib.MinMax
import Derived.ProofKit
import Derived.OpenShut
import Derived.ChangeOld
import Derived.SizedLaws
namespace Go.Proofs.Ytokfadlgiimaoaa.ringsOrder
open Go.ChangeShapes Go.WideShapes Go.ChangeAt Go.RowKit Go.Deep

theorem chk_zero {ks : List Nat} {ts : List Int} {sz ev : Int} (h : chkE ks ts sz ev = 0) : ckE ks ts = 0 ∧ 1 ≤ sz ∧ sz ≤ 4096 ∧ 1 ≤ ev ∧ ev ≤ 1048576 := by
  unfold chkE at h
  by_cases h1 : ckE ks ts = 0
  · rw [if_pos h1] at h
    by_cases h2 : sz < 1 ∨ 4096 < sz ∨ ev < 1 ∨ 1048576 < ev
    · rw [if_pos h2] at h; cases h
    · exact ⟨h1, by omega, by omega, by omega, by omega⟩
  · rw [if_neg h1] at h; exact absurd h h1
theorem ck_lens {ks : List Nat} {ts : List Int} (h : ckE ks ts = 0) : ks.length = 40 ∧ ts.length = 128 := by
  unfold ckE at h
  by_cases h1 : ks.length = 40
  · rw [if_pos h1] at h; exact ⟨h1, (ctE_zero h).1⟩
  · rw [if_neg h1] at h; cases h

theorem ct_of_ck {ks : List Nat} {ts : List Int} (h : ckE ks ts = 0) : ctE ts = 0 := by
  unfold ckE at h
  by_cases h1 : ks.length = 40
  · rw [if_pos h1] at h; exact h
  · rw [if_neg h1] at h; cases h
theorem ro_start {W : World} {g B sz : Nat} {ev : Int} {K : Keys} {own : Nat → Prop} {frs : List Txt} (h : CardS W g B sz ev 0 0 K (fun _ => []) own) (hB : B ≤ W.heap.size) (o : Obj) (cs : Array Value) (ho : o = .cells cs 40 (0, 0)) (hs : cs.size = 16) (hc : ∀ q, q < 16 → cs[q]? = some (.slice none 0 0)) :
    RO (W.alloc o) g B sz ev K (fun _ => []) own W.heap.size W.heap.size (fun _ => ⟨none, [], 0⟩) frs := by
  subst ho
  exact ⟨h.below ((Below.refl W.heap.size W).alloc (Nat.le_refl _) _), ⟨cs, blk_new W _, hs, hc⟩, fun q _ => ownR_nil _ _ _ _ _, (fun q _ k e => by cases e), fun h1 => by have := (h.ownLt h1).1; omega, Nat.le_refl _, hB, h.keyLt, (fun j _ x hx => by cases hx), (fun q _ r hr => by cases hr)⟩

set_option linter.unusedSimpArgs false in
set_option maxRecDepth 100000 in
set_option maxHeartbeats 1000000 in
theorem walk (ka : Option Addr) (ks : List Nat) (kc : Nat) (ta : Option Addr) (ts : List Int) (tc : Nat) (sz ev : Int) (fa : Option Addr) (frs : List Txt) (fc : Nat) (w : World)
    (hk : Bts w ka ks) (hkn : ka = none → kc = 0) (_ : ks.length ≤ kc ∧ kc ≤ maxLen) (hkl : ks.length ≤ 140737488351232) (ht : Its w ta ts) (htn : ta = none → tc = 0) (_ : ts.length ≤ tc ∧ tc ≤ maxLen) (htl : ts.length ≤ 17592186043904) (_ : -9223372036854775808 ≤ sz) (_ : sz ≤ 9223372036854775807) (_ : -9223372036854775808 ≤ ev) (_ : ev ≤ 9223372036854775807) (hf : Sts 1 Txt.cells Txt.ok w fa frs) (_ : fa = none → fc = 0) (hfl : frs.length ≤ 5864062014634) :
    Calls Try.prog 4 #[.agg #[.slice ka ks.length kc, .slice ta ts.length tc, .int .i64 sz, .int .i64 ev], .slice fa frs.length fc] w fun e w' => e = .returned (.bool true) ∧ Below w.heap.size w w' := by
  have bw := (Below.refl w.heap.size w).alloc (Nat.le_refl _) (.cells #[.slice ka ks.length kc, .slice ta ts.length tc, .int .i64 sz, .int .i64 ev] 25)
  have K0 := Lib.hid (blk_new w (.cells #[.slice ka ks.length kc, .slice ta ts.length tc, .int .i64 sz, .int .i64 ev] 25))
  have Q0 := Lib.hid bw
  have hz0 : Hid (w.heap.size < (w.alloc (.cells #[.slice ka ks.length kc, .slice ta ts.length tc, .int .i64 sz, .int .i64 ev] 25)).heap.size) := Lib.hid (by rw [World.size_alloc]; exact Nat.lt_succ_self _)
  have HK := Lib.hid hk
  have HT := Lib.hid ht
  have HKN := Lib.hid hkn
  have HTN := Lib.hid htn
  have HKL := Lib.hid hkl
  have HTL := Lib.hid htl
  have HFL := Lib.hid hfl
  have HF := Lib.hid hf
  clear hk ht hkn htn hkl htl hf hfl bw
  go_enter Try.func4, Try.ntmps4
  go_upto_region 3 with (first
    | (go_at_call 11; refine (alive_any _).mono ?_; rintro e V1 ⟨rfl, b⟩; have Q1 := Lib.hid (Q0.out.trans (b.mono Q0.out.size)); have K1 := Lib.hid ((b.block _ hz0.out).trans K0.out); clear b)
    | fail)
  have c0 := blk_cell K1.out 0
  have c1 := blk_cell K1.out 1
  have c2 := blk_cell K1.out 2
  have c3 := blk_cell K1.out 3
  have HOF := Lib.hid (of_any ka ks kc ta ts tc sz ev V1 (HK.out.below Q1.out) HKN.out HKL.out (HT.out.below Q1.out) HTN.out HTL.out)
  by_cases hchk : chkE ks ts sz ev = 0
  case neg =>
    have e1 : (chkE ks ts sz ev != 0) = true := by rw [bne_iff_ne]; exact hchk
    go_wp2_with (first
      | (go_at_call 8; refine HOF.out.mono ?_; rintro e V2 ⟨⟨ka', kc', ta', tc', rfl, O, P⟩, b⟩; have HN := Lib.hid (new_bad ka' ks kc' ta' ts tc' sz ev V2 (P.its HT.out.1) (by have := HTL.out; omega) hchk); have Q2 := Lib.hid (Q1.out.trans (b.mono Q1.out.size)); clear O P b)
      | (go_at_call 12; refine HN.out.mono ?_; rintro e V3 ⟨rfl, b⟩; have Q3 := Lib.hid (Q2.out.trans (b.mono Q2.out.size)); clear b)
      | (go_at_call 10; refine (num_any _ _).mono ?_; rintro e w' ⟨rfl, rfl⟩)
      | fail)
    all_goals
      go_ret
      exact ⟨rfl, Q3.out⟩
  case pos =>
    obtain ⟨hck, hs1, hs2, hv1, hv2⟩ := chk_zero hchk
    obtain ⟨hk40, ht128⟩ := ck_lens hck
    obtain ⟨z, rfl⟩ : ∃ z : Nat, sz = z := ⟨sz.toNat, by omega⟩
    have HC0 := Lib.hid hchk
    have HK40 := Lib.hid hk40
    have HT128 := Lib.hid ht128
    clear hk40 ht128
    have HZZ := Lib.hid (show 1 ≤ z ∧ z ≤ 4096 by omega)
    clear hchk hck
    go_upto_region 6 with (first
      | (go_at_call 8; refine HOF.out.mono ?_; rintro e V2 ⟨⟨ka', kc', ta', tc', rfl, O, P⟩, b⟩; have HN := Lib.hid (new_ok ka' ks kc' ta' ts tc' z ev V2 O.bts O.nilcap (P.its HT.out.1) P.nilcap HK40.out HT128.out HZZ.out HC0.out); have Q2 := Lib.hid (Q1.out.trans (b.mono Q1.out.size)); have K2 := Lib.hid ((b.block _ (blk_lt K1.out)).trans K1.out); have hz2 := Lib.hid (Nat.lt_of_lt_of_le (blk_lt K1.out) b.size); clear O P b)
      | (go_at_call 12; refine HN.out.mono ?_; rintro e V3 ⟨⟨g, KY, own, rfl, hC, hO, hK1, hK2, hK3, hK4⟩, b⟩; have Q3 := Lib.hid (Q2.out.trans (b.mono Q2.out.size)); have K3 := Lib.hid ((b.block _ hz2.out).trans K2.out); have C3 := Lib.hid hC; have HO3 := Lib.hid hO; have KS := Lib.hid (And.intro hK1 (And.intro hK2 (And.intro hK3 hK4))); have hB3 := Lib.hid b.size; clear hC hO hK1 hK2 hK3 hK4 b)
      | (go_at_call 10; refine (num_any _ _).mono ?_; rintro e w' ⟨rfl, rfl⟩)
      | fail)
    obtain ⟨hK1, hK2, hK3, hK4⟩ := KS.out
    have HCT := Lib.hid (show ctE KY.ts = 0 by rw [hK2]; exact ct_of_ck (chk_zero HC0.out).1)
    have HKL := Lib.hid (show KY.ks.length ≤ KY.kc ∧ KY.kc ≤ 9223372036854775807 by rw [hK1]; exact ⟨hK3, hK4⟩)
    clear hK1 hK2 hK3 hK4 KS
    clear c0 c1 c2 c3 HOF HN K1 Q1 K2
    have HQ2 := Lib.hid Q2.out.size
    generalize V2.heap.size = B at C3 HO3 hB3 HQ2 hz2
    go_upto_region 7 with fail
    have b4 := (Below.refl V3.heap.size V3).alloc (Nat.le_refl _) (.cells #[.slice none 0 0, .slice none 0 0, .slice none 0 0, .slice none 0 0, .slice none 0 0, .slice none 0 0, .slice none 0 0, .slice none 0 0, .slice none 0 0, .slice none 0 0, .slice none 0 0, .slice none 0 0, .slice none 0 0, .slice none 0 0, .slice none 0 0, .slice none 0 0] 40)
    have RO4 : Hid (RO (V3.alloc (.cells #[.slice none 0 0, .slice none 0 0, .slice none 0 0, .slice none 0 0, .slice none 0 0, .slice none 0 0, .slice none 0 0, .slice none 0 0, .slice none 0 0, .slice none 0 0, .slice none 0 0, .slice none 0 0, .slice none 0 0, .slice none 0 0, .slice none 0 0, .slice none 0 0] 40)) g B z ev KY (fun _ => []) own V3.heap.size V3.heap.size (fun _ => ⟨none, [], 0⟩) frs) := Lib.hid (ro_start (C3.out) hB3.out (.cells #[.slice none 0 0, .slice none 0 0, .slice none 0 0, .slice none 0 0, .slice none 0 0, .slice none 0 0, .slice none 0 0, .slice none 0 0, .slice none 0 0, .slice none 0 0, .slice none 0 0, .slice none 0 0, .slice none 0 0, .slice none 0 0, .slice none 0 0, .slice none 0 0] 40) #[.slice none 0 0, .slice none 0 0, .slice none 0 0, .slice none 0 0, .slice none 0 0, .slice none 0 0, .slice none 0 0, .slice none 0 0, .slice none 0 0, .slice none 0 0, .slice none 0 0, .slice none 0 0, .slice none 0 0, .slice none 0 0, .slice none 0 0, .slice none 0 0] rfl (by rfl) (fun q hq => by match q, hq with | 0, _ => rfl | 1, _ => rfl | 2, _ => rfl | 3, _ => rfl | 4, _ => rfl | 5, _ => rfl | 6, _ => rfl | 7, _ => rfl | 8, _ => rfl | 9, _ => rfl | 10, _ => rfl | 11, _ => rfl | 12, _ => rfl | 13, _ => rfl | 14, _ => rfl | 15, _ => rfl | n + 16, h => omega))
    have Q4 := Lib.hid (b4.mono hB3.out)
    clear C3 b4
    generalize V3.alloc (.cells #[.slice none 0 0, .slice none 0 0, .slice none 0 0, .slice none 0 0, .slice none 0 0, .slice none 0 0, .slice none 0 0, .slice none 0 0, .slice none 0 0, .slice none 0 0, .slice none 0 0, .slice none 0 0, .slice none 0 0, .slice none 0 0, .slice none 0 0, .slice none 0 0] 40) = V4 at RO4 Q4 ⊢
    generalize V3.heap.size = d at RO4 hB3 ⊢
    clear HO3 hs1 hs2 hv1 hv2
    go_wp2
    go_loopw [8] (fun iv wr => ∃ k : Nat, k ≤ frs.length ∧ iv = .int .i64 k ∧ ∃ (fs : Nat → List Fr) (own : Nat → Prop) (L : Nat → Ls), RO wr g B z ev KY fs own d d L frs ∧ Eq8 fs L ∧ Below B V3 wr) (fun iv _ => frs.length - (intOf iv).toNat)
    case atStart => exact ⟨0, by omega, rfl, fun _ => [], own, fun _ => ⟨none, [], 0⟩, RO4.out, fun _ _ => rfl, Q4.out⟩
    case round =>
      obtain ⟨k, hk, rfl, fs, own1, L, h1, h2, h3⟩ := hrel
      have R5 := Lib.hid h1
      have X5 := Lib.hid h2
      have Q5 := Lib.hid h3
      clear h1 h2 h3 RO4 Q4 own
      have QW := Lib.hid (Q3.out.trans (Q5.out.mono (show w.heap.size ≤ B from HQ2.out)))
      by_cases hlt : k < frs.length
      · have i1 : (k : Int) < (frs.length : Int) := by omega
        have W9 : IntKind.i64.wrap ((k : Int) + 1) = (k : Int) + 1 := IntWalk.i64_in _ ⟨by omega, by have := HFL.out; omega⟩
        obtain ⟨t, ht⟩ : ∃ t, frs[k]? = some t := ⟨_, List.getElem?_eq_getElem hlt⟩
        obtain ⟨hok, fb, fo, rfl, hfb, hfc⟩ := HF.out.at ht
        have hcl := hfc 0 _ rfl
        rw [Nat.mul_one, Nat.add_zero] at hcl
        have HOK := Lib.hid (Txt.okBelow hok QW.out)
        have HTM := Lib.hid (List.mem_of_getElem? ht)
        have cl := (QW.out.cell (p := ⟨fb, fo + k, none⟩) hfb).trans hcl
        have HCL := Lib.hid hcl
        have HFB := Lib.hid hfb
        clear hok hfc hcl ht hfb
        by_cases hlong : 65535 < t.xs.length
        · have HR := Lib.hid (recv_long g B z ev 0 0 KY fs own1 t.a t.xs.length t.c wr R5.out.card hlong)
          clear hlong
          go_wp2_with (first
            | (go_at_call 13; refine HR.out.mono ?_; rintro e w' ⟨rfl, rfl⟩)
            | (go_at_call 10; refine (num_any _ _).mono ?_; rintro e w' ⟨rfl, rfl⟩)
            | fail)
          go_roundw
          case rel => exact ⟨k + 1, by omega, by go_num, fs, own1, L, R5.out, X5.out, Q5.out⟩
          case measure => simp [intOf]; omega
        · obtain ⟨q, hq, hQ⟩ := qof_any KY.ks KY.ts t.xs HCT.out (by omega) HOK.out.1.1
          have hQ' : ∀ W, Bts W t.a t.xs → KeysOk W own1 KY → Calls Try.prog 24 #[.agg #[.slice KY.ka KY.ks.length KY.kc, .slice KY.ta KY.ts.length KY.tc, .int .i64 (z : Nat), .int .i64 ev], .slice t.a t.xs.length t.c] W fun e w' => e = .returned (.int .i64 (q : Nat)) ∧ Below W.heap.size W w' :=
            fun W hy hk => hQ KY.ka KY.kc KY.ta KY.tc _ _ t.a t.c W hk.1 HKL.out.1 HKL.out.2 hk.2.1 hy HOK.out.2.2.1 HOK.out.2.2.2
          have hB5 : B ≤ wr.heap.size := Nat.le_trans R5.out.BC (Nat.le_of_lt (Nat.lt_of_le_of_lt R5.out.Cd R5.out.lt))
          by_cases hfull : (fs q).length < z
          · have HR := Lib.hid (recv_okF g B z ev 0 0 KY fs own1 t.a t.xs t.c q wr R5.out.card hB5 HOK.out.1 HOK.out.2.1 (by omega) hq hfull hQ')
            have HLQ := Lib.hid (show (L q).xs.length < 4096 by have h0 := congrArg List.length (X5.out q hq); rw [List.length_map, List.length_map] at h0; have := HZZ.out; omega)
            clear hfull hQ hQ' hB5 hlong
            go_upto_region 11 with (first
              | (go_at_call 13; refine HR.out.mono ?_; rintro e V6 ⟨rfl, ⟨x6, own6, hx, hfr, hC, hO⟩, hS, hW⟩; have R6 := Lib.hid (R5.out.recv hfr hC hS hO); have HX6 := Lib.hid hx; have Q6 := Lib.hid (Q5.out.trans hW); clear hx hfr hC hS hO hW cl HR)
              | fail)
            have i2 : (0 : Int) ≤ (q : Int) := by omega
            have i2n : ¬ (q : Int) < 0 := by omega
            have i3 : (q : Int) < 16 := by omega
            have i3n : decide (q < 16) = true := decide_eq_true hq
            go_upto_region 12 with (first
              | (go_at_call 10; refine (num_any _ _).mono ?_; rintro e w' ⟨rfl, rfl⟩)
              | fail)
            have cl6 := ((Q3.out.trans (Q6.out.mono (show w.heap.size ≤ B from HQ2.out))).cell (p := ⟨fb, fo + k, none⟩) HFB.out).trans HCL.out
            have X6 := Lib.hid (fun a' c' => X5.out.put (q := q) (a' := a') (c' := c') HX6.out)
            have HRE := R6.out.blk
            have HQ := Lib.hid hq
            refine wp_region_until (S := fun W' => ((∃ cs, W'.heap[d]? = some (.cells cs 40 (0, 0)) ∧ cs.size = 16 ∧ ∀ p, p < 16 → cs[p]? = some (.slice (L p).a (L p).xs.length (L p).c)) ∧ W'.cell? ⟨fb, fo + k, none⟩ = some (.slice t.a t.xs.length t.c))) 11 (by kernel_rfl) (show _ from ⟨(let ⟨cs, h1, h2⟩ := HRE; ⟨cs, blk_drew h1, h2⟩), (Below.refl V6.heap.size V6).drew.cell (p := ⟨fb, fo + k, none⟩) (Nat.lt_of_lt_of_le HFB.out (Nat.le_trans HQ2.out (Nat.le_trans hB3.out (Nat.le_of_lt R6.out.lt)))) |>.trans cl6⟩) (fun hHeld => ?_)
            refine wpAnyU_take (i := 0) (oi := _) (v := ?_) rfl (by kernel_rfl) (by kernel_rfl) (by kernel_rfl) (by kernel_rfl) (fun _ _ _ h => h) (Or.inl ⟨by rfl, ?_⟩) (by assumption) ?_
            rotate_left
            · intro w5 hSw
              clear hSw
              go_simp
              all_goals with_reducible rfl
            (try simp only [List.getElem_toArray]); (try simp only [List.getElem_cons_succ]); (try simp only [List.getElem_cons_zero]); try simp only [Act.put, List.setIfInBounds_toArray, List.set_cons_zero, List.set_cons_succ]
            refine wpAnyU_take (i := 1) (oi := _) (v := ?_) rfl (by kernel_rfl) (by kernel_rfl) (by kernel_rfl) (by kernel_rfl) (fun _ _ _ h => h) (Or.inl ⟨by rfl, ?_⟩) (by assumption) ?_
            rotate_left
            · intro w5 hSw
              clear hSw
              go_simp
              all_goals with_reducible rfl
            (try simp only [List.getElem_toArray]); (try simp only [List.getElem_cons_succ]); (try simp only [List.getElem_cons_zero]); try simp only [Act.put, List.setIfInBounds_toArray, List.set_cons_zero, List.set_cons_succ]
            refine wpAnyU_take (i := 2) (oi := _) (v := ?_) rfl (by kernel_rfl) (by kernel_rfl) (by kernel_rfl) (by kernel_rfl) (fun _ _ _ h => h) (Or.inl ⟨by rfl, ?_⟩) (by assumption) ?_
            rotate_left
            · intro w5 hSw
              clear hSw
              go_simp
              all_goals with_reducible rfl
            (try simp only [List.getElem_toArray]); (try simp only [List.getElem_cons_succ]); (try simp only [List.getElem_cons_zero]); try simp only [Act.put, List.setIfInBounds_toArray, List.set_cons_zero, List.set_cons_succ]
            refine wpAnyU_take (i := 3) (oi := _) (v := ?_) rfl (by kernel_rfl) (by kernel_rfl) (by kernel_rfl) (by kernel_rfl) (fun _ _ _ h => h) (Or.inl ⟨by rfl, ?_⟩) (by assumption) ?_
            rotate_left
            · intro w5 hSw
              obtain ⟨⟨cs, hS1, hS2, hS3⟩, hS4⟩ := hSw
              have t0 := (blk_cell hS1 q).trans (hS3 q hq)
              clear hS1 hS2 hS3 hS4
              go_simp
              all_goals with_reducible rfl
            (try simp only [List.getElem_toArray]); (try simp only [List.getElem_cons_succ]); (try simp only [List.getElem_cons_zero]); try simp only [Act.put, List.setIfInBounds_toArray, List.set_cons_zero, List.set_cons_succ]
            refine wpAnyU_take (i := 4) (oi := _) (v := ?_) rfl (by kernel_rfl) (by kernel_rfl) (by kernel_rfl) (by kernel_rfl) (fun _ _ _ h => h) (Or.inl ⟨by rfl, ?_⟩) (by assumption) ?_
            rotate_left
            · intro w5 hSw
              clear hSw
              go_simp
              all_goals with_reducible rfl
            (try simp only [List.getElem_toArray]); (try simp only [List.getElem_cons_succ]); (try simp only [List.getElem_cons_zero]); try simp only [Act.put, List.setIfInBounds_toArray, List.set_cons_zero, List.set_cons_succ]
            refine wpAnyU_take (i := 5) (oi := _) (v := ?_) rfl (by kernel_rfl) (by kernel_rfl) (by kernel_rfl) (by kernel_rfl) (fun _ _ _ h => h) (Or.inl ⟨by rfl, ?_⟩) (by assumption) ?_
            rotate_left
            · intro w5 hSw
              clear hSw
              go_simp
              all_goals with_reducible rfl
            (try simp only [List.getElem_toArray]); (try simp only [List.getElem_cons_succ]); (try simp only [List.getElem_cons_zero]); try simp only [Act.put, List.setIfInBounds_toArray, List.set_cons_zero, List.set_cons_succ]
            refine wpAnyU_take (i := 6) (oi := _) (v := ?_) rfl (by kernel_rfl) (by kernel_rfl) (by kernel_rfl) (by kernel_rfl) (fun _ _ _ h => h) (Or.inl ⟨by rfl, ?_⟩) (by assumption) ?_
            rotate_left
            · intro w5 hSw
              clear hSw
              go_simp
              all_goals with_reducible rfl
            (try simp only [List.getElem_toArray]); (try simp only [List.getElem_cons_succ]); (try simp only [List.getElem_cons_zero]); try simp only [Act.put, List.setIfInBounds_toArray, List.set_cons_zero, List.set_cons_succ]
            refine wpAnyU_take (i := 7) (oi := _) (v := ?_) rfl (by kernel_rfl) (by kernel_rfl) (by kernel_rfl) (by kernel_rfl) (fun _ _ _ h => h) (Or.inl ⟨by rfl, ?_⟩) (by assumption) ?_
            rotate_left
            · intro w5 hSw
              have t0 := hSw.2
              clear hSw
              go_simp
              all_goals with_reducible rfl
            (try simp only [List.getElem_toArray]); (try simp only [List.getElem_cons_succ]); (try simp only [List.getElem_cons_zero]); try simp only [Act.put, List.setIfInBounds_toArray, List.set_cons_zero, List.set_cons_succ]
            obtain ⟨V7, hV7⟩ : ∃ V, V6.drew = V := ⟨_, rfl⟩
            have bD := (Below.refl V6.heap.size V6).drew
            rw [hV7] at hHeld bD ⊢
            clear hV7 cl6
            have R7 := Lib.hid (R6.out.below bD)
            have QD : Hid (Below B V6 V7) := Lib.hid (bD.mono (Nat.le_trans R6.out.BC (Nat.le_of_lt (Nat.lt_of_le_of_lt R6.out.Cd R6.out.lt))))
            clear bD
            have BA := Lib.hid ((Below.refl V7.heap.size V7).alloc (Nat.le_refl _) (.cells #[.slice t.a t.xs.length t.c] 22))
            have hs5 := BA.out.size
            have hfb7 : fb < V7.heap.size := World.block_lt_of_cell? _ _ hHeld.2
            refine wpAnyU_one (i := 8) (by kernel_rfl) rfl (fun K hK => ?_)
            (try simp only [List.getElem_toArray]); (try simp only [List.getElem_cons_succ]); (try simp only [List.getElem_cons_zero])
            go_simp
            refine hK.out _ _ ⟨(let ⟨cs, h1, h2⟩ := hHeld.1; ⟨cs, (BA.out.block d (blk_lt h1)).trans h1, h2⟩), (BA.out.cell (p := ⟨fb, fo + k, none⟩) hfb7).trans hHeld.2⟩ (fun hHeld => ?_)
            clear hK K
            try simp only [Act.put, List.setIfInBounds_toArray, List.set_cons_zero, List.set_cons_succ]
            have hB7 : d ≤ V7.heap.size := Nat.le_of_lt R7.out.lt
            refine wpAnyU_one (i := 9) (by kernel_rfl) rfl (fun K hK => ?_)
            (try simp only [List.getElem_toArray]); (try simp only [List.getElem_cons_succ]); (try simp only [List.getElem_cons_zero])
            refine step_append_rA (act := ⟨_, _⟩) (w := V7.alloc (.cells #[.slice t.a t.xs.length t.c] 22)) (t := 36) (e := 22) (z := .slice none 0 0) (m := 1) (bz := 24) (cells := Txt.cells) (xs := (L q).xs) (ys := [t]) (cap := (L q).c) (dap := 1) (n := 1) (a := (L q).a) (ad := ⟨V7.heap.size, 0, none⟩) ?_ elemT encT (.tmp 63) (.tmp 68) ?_ d ?_ ((R7.out.row q HQ.out).below BA.out) (sts_new encT V7 [t] 22 (0, 0)) ?_ ?_ (by have := HLQ.out; simp only [List.length_cons, List.length_nil]; omega) (by have := HLQ.out; unfold maxLen; simp only [List.length_cons, List.length_nil]; omega) (by omega) ?_
            · rfl
            · rfl
            · rfl
            · rfl
            · rfl
            intro a5 c5 V8 O5 b5 g5 at5
            have O5h := Lib.hid O5
            have B5h := Lib.hid b5
            have G5h := Lib.hid g5
            have A5h := Lib.hid at5
            clear O5 b5 g5 at5
            refine hK.out _ _ ⟨(let ⟨cs, h1, h2⟩ := hHeld.1; ⟨cs, (G5h.out.block d (blk_lt h1) (fun e => (R7.out.dis q HQ.out d ((R7.out.row q HQ.out).ownEq d e.symm)).1 rfl)).trans h1, h2⟩), (B5h.out.cell (p := ⟨fb, fo + k, none⟩) (Nat.lt_of_lt_of_le HFB.out (Nat.le_trans HQ2.out hB3.out))).trans hHeld.2⟩ (fun hHeld => ?_)
            clear hK K
            try simp only [Act.put, List.setIfInBounds_toArray, List.set_cons_zero, List.set_cons_succ]
            generalize hL2 : (L q).xs ++ [t] = L2 at O5h ⊢
            have HL2 := Lib.hid hL2
            clear hL2
            refine wpAnyU_one (i := 10) (by kernel_rfl) rfl (fun K hK => ?_)
            (try simp only [List.getElem_toArray]); (try simp only [List.getElem_cons_succ]); (try simp only [List.getElem_cons_zero])
            go_simp
            refine hK.out _ _ hHeld (fun hHeld => ?_)
            clear hK K
            try simp only [Act.put, List.setIfInBounds_toArray, List.set_cons_zero, List.set_cons_succ]
            have RA : Hid (RO (V8.setCell ⟨d, q, none⟩ (.slice a5 L2.length c5)) g B z ev KY (upd fs q (fs q ++ [x6])) own6 d d (upd L q ⟨a5, (L q).xs ++ [t], c5⟩) frs ∧ Below d V7 (V8.setCell ⟨d, q, none⟩ (.slice a5 L2.length c5))) := Lib.hid (by
              refine R7.out.app HQ.out t HTM.out ((Turns.of_below _ BA.out).trans (.of_grown (fun k2 e => (R7.out.row q HQ.out).ownEq k2 e) G5h.out)) ?_ (fun k2 e => (A5h.out k2 e).imp id (fun h => by omega)) (by rw [HL2.out])
              rw [HL2.out]; exact O5h.out)
            obtain ⟨⟨cs8, hS1, hS2, hS3⟩, _⟩ := hHeld
            have t0 := (blk_cell hS1 q).trans (hS3 q HQ.out)
            have f0 := blk_free hS1 q
            clear hS1 hS2 hS3
            refine wpAnyU_last (by kernel_rfl) rfl (fun K hK => ?_)
            (try simp only [List.getElem_toArray]); (try simp only [List.getElem_cons_succ]); (try simp only [List.getElem_cons_zero])
            go_simp
            refine hK.out _ _ ?_
            clear hK K
            (try simp only [List.getElem_toArray]); (try simp only [List.getElem_cons_succ]); (try simp only [List.getElem_cons_zero]); try simp only [Act.put, List.setIfInBounds_toArray, List.set_cons_zero, List.set_cons_succ]
            refine wpAnyU_done (by kernel_rfl) ?_ _
            clear t0 f0
            go_wp2
            go_roundw
            case rel => exact ⟨k + 1, by omega, by go_num, _, own6, _, RA.out.1, X6.out _ _, (Q6.out.trans QD.out).trans (RA.out.2.mono R6.out.BC)⟩
            case measure => simp [intOf]; omega
          · have hfl : (fs q).length = z := by have := (R5.out.card.lenLe (q := q) (by omega)).1; omega
            have HR := Lib.hid (recv_full g B z ev 0 0 KY fs own1 t.a t.xs t.c q wr R5.out.card hB5 HOK.out.1 HOK.out.2.1 (by omega) hq hfl hQ')
            clear hfull hQ hQ' hB5 hlong hfl
            go_wp2_with (first
              | (go_at_call 13; refine HR.out.mono ?_; rintro e V6 ⟨rfl, hC, hS, hW⟩; have R6 := Lib.hid (R5.out.step hC hS (fun _ h => .inl h) (fun _ _ _ h => .inl h)); have Q6 := Lib.hid (Q5.out.trans hW); clear hC hS hW cl HR)
              | (go_at_call 10; refine (num_any _ _).mono ?_; rintro e w' ⟨rfl, rfl⟩)
              | fail)
            go_roundw
            case rel => exact ⟨k + 1, by omega, by go_num, fs, own1, L, R6.out, X5.out, Q6.out⟩
            case measure => simp [intOf]; omega
      · obtain rfl : frs.length = k := by omega
        go_wp2
        go_loopw [11] (fun qv wx => ∃ q : Nat, q ≤ 16 ∧ qv = .int .i64 q ∧ ∃ (fs : Nat → List Fr) (own : Nat → Prop), RO wx g B z ev KY fs own d d L frs ∧ (∀ p, q ≤ p → p < 16 → (fs p).map Prod.snd = (L p).xs.map Txt.xs) ∧ Below B V3 wx) (fun qv _ => 16 - (intOf qv).toNat)
        case atStart => exact ⟨0, by omega, rfl, fs, own1, R5.out, fun p _ hp => X5.out p hp, Q5.out⟩
        case round =>
          clear R5 X5 Q5 QW fs own1
          obtain ⟨q, hq, rfl, fs, own1, h1, h2, h3⟩ := hrel
          have R5 := Lib.hid h1
          have X5 := Lib.hid h2
          have Q5 := Lib.hid h3
          clear h1 h2 h3
          by_cases hlt : q < 16
          · have i1 : (q : Int) < 16 := by omega
            have i1n : decide (q < 16) = true := decide_eq_true hlt
            have i0 : ¬ (q : Int) < 0 := by omega
            have W9 : IntKind.i64.wrap ((q : Int) + 1) = (q : Int) + 1 := IntWalk.i64_in _ ⟨by omega, by omega⟩
            have hlen : (fs q).length = (L q).xs.length := by have h0 := congrArg List.length (X5.out q (Nat.le_refl _) hlt); rwa [List.length_map, List.length_map] at h0
            have hle := (R5.out.card.lenLe (q := q) (by omega)).1
            have HLEN := Lib.hid (fun n => len_ok g B z ev 0 0 KY fs own1 q (wr.drewN n) (R5.out.card.below (below_drewN (Below.refl _ _) n)) hlt)
            rw [hlen] at HLEN hle
            have HHL := Lib.hid hlt
            have HL4 : Hid ((L q).xs.length ≤ 4096) := Lib.hid (by have := HZZ.out; omega)
            have cq := R5.out.cell hlt
            have K5 := Lib.hid ((Q5.out.block w.heap.size hz2.out).trans K3.out)
            have c2 := blk_cell K5.out 2
            have e1 : (((L q).xs.length : Int) != ((L q).xs.length : Int)) = false := by simp
            have i4 : ¬ (z : Int) < ((L q).xs.length : Int) := by omega
            have i4n : decide (z < (L q).xs.length) = false := decide_eq_false (by omega)
            clear hlen hle hlt
            go_upto_region 16 with fail
            go_quiet (first | (go_at_call 14; exact Calls.quiet_of_same ((HLEN.out _).mono fun _ _ h => ⟨h.1, h.2.symm⟩)))
            have D := below_drewN (Below.refl wr.heap.size wr) nq
            have R6 := Lib.hid (R5.out.below D)
            have Q6 := Lib.hid (Q5.out.trans (D.mono (Nat.le_trans R5.out.BC (Nat.le_of_lt (Nat.lt_of_le_of_lt R5.out.Cd R5.out.lt)))))
            clear D c2 cq K5 HLEN R5 Q5 e1 i4 i4n
            generalize wr.drewN nq = V6 at R6 Q6 ⊢
            go_wp2
            go_loopw [12] (fun iv wr => ∃ i : Nat, i ≤ (L q).xs.length ∧ iv = .int .i64 i ∧ ∃ (fs : Nat → List Fr) (own : Nat → Prop), RO wr g B z ev KY fs own d d L frs ∧ (fs q).map Prod.snd = ((L q).xs.drop i).map Txt.xs ∧ (∀ p, q < p → p < 16 → (fs p).map Prod.snd = (L p).xs.map Txt.xs) ∧ Below B V3 wr) (fun iv _ => (L q).xs.length - (intOf iv).toNat)
            case atStart => exact ⟨0, by omega, rfl, fs, own1, R6.out, X5.out q (Nat.le_refl _) HHL.out, fun p h1 h2 => X5.out p (Nat.le_of_lt h1) h2, Q6.out⟩
            case round =>
              clear R6 X5 Q6 fs own1
              obtain ⟨i, hi, rfl, fs, own1, h1, h2, h4, h3⟩ := hrel
              have R6 := Lib.hid h1
              have Y6 := Lib.hid h2
              have X6 := Lib.hid h4
              have Q6 := Lib.hid h3
              clear h1 h2 h3 h4
              have QW := Lib.hid (Q3.out.trans (Q6.out.mono (show w.heap.size ≤ B from HQ2.out)))
              have cq := R6.out.cell HHL.out
              have hB6 : B ≤ wr.heap.size := Nat.le_trans R6.out.BC (Nat.le_of_lt (Nat.lt_of_le_of_lt R6.out.Cd R6.out.lt))
              by_cases hlt : i < (L q).xs.length
              · have i5 : (i : Int) < ((L q).xs.length : Int) := by omega
                have W8 : IntKind.i64.wrap ((i : Int) + 1) = (i : Int) + 1 := IntWalk.i64_in _ ⟨by omega, by have := HL4.out; omega⟩
                obtain ⟨t, ht⟩ : ∃ t, (L q).xs[i]? = some t := ⟨_, List.getElem?_eq_getElem hlt⟩
                obtain ⟨x, l, hxl, hx2, hl2⟩ : ∃ x l, fs q = x :: l ∧ x.2 = t.xs ∧ l.map Prod.snd = ((L q).xs.drop (i + 1)).map Txt.xs := by
                  have h0 := Y6.out
                  rw [List.drop_eq_getElem_cons hlt, List.map_cons] at h0
                  have ht2 : (L q).xs[i] = t := by have := List.getElem?_eq_getElem hlt; rw [ht] at this; exact (Option.some.inj this).symm
                  rw [ht2] at h0
                  cases hfs : fs q with
                  | nil => rw [hfs] at h0; cases h0
                  | cons x l => rw [hfs, List.map_cons] at h0; exact ⟨x, l, rfl, (List.cons.inj h0).1, (List.cons.inj h0).2⟩
                have HR := Lib.hid (take_ok g B z ev 0 0 KY fs own1 q x l wr R6.out.card HHL.out hxl hB6)
                have HT := Lib.hid ht
                have HXL := Lib.hid hxl
                have HX2 := Lib.hid hx2
                have HL2 := Lib.hid hl2
                have HTM : Hid (t ∈ frs) := Lib.hid (R6.out.mem q HHL.out t (List.mem_of_getElem? ht))
                clear ht hxl hx2 hl2 hB6
                obtain ⟨⟨xa, xn, xc⟩, xl⟩ := x
                go_upto_region 22 with (first
                  | (go_at_call 15; refine HR.out.mono ?_; rintro e V7 ⟨rfl, ⟨own7, hC, hO⟩, ⟨hb, hn, _⟩, hS, hW⟩; have R7 := Lib.hid (R6.out.taken HXL.out hC hS hO); have Q7 := Lib.hid (Q6.out.trans hW); have X7 := Lib.hid hb; have N7 := Lib.hid hn; clear hC hO hb hn hS hW cq HR; unfold sv; dsimp only)
                  | fail)
                have e7 : xn = xl.length := N7.out
                subst e7
                have hx2 : xl = t.xs := HX2.out
                have X8 : Hid (Bts V7 xa xl) := Lib.hid X7.out
                have HOK := Lib.hid (Txt.okBelow (HF.out.1 t HTM.out) (Q3.out.trans (Q7.out.mono (show w.heap.size ≤ B from HQ2.out))))
                have HSM := Lib.hid ((same_any xa t.a xl t.xs xc t.c V7 X8.out HOK.out.1 (by have := HOK.out.2.2; rw [hx2]; unfold maxLen at this; omega) (by have := HOK.out.2.2; unfold maxLen at this; omega)).mono (fun e w' h => show e = .returned (.bool true) ∧ Below V7.heap.size V7 w' from ⟨h.1.trans (by rw [decide_eq_true hx2]), h.2⟩))
                have cq := R7.out.cell HHL.out
                obtain ⟨lk, hlk, hlk2, clk⟩ := R7.out.frame HHL.out HT.out
                rw [hlk] at cq
                have HHB : Hid (B ≤ V7.heap.size) := Lib.hid (Nat.le_trans R7.out.BC (Nat.le_of_lt (Nat.lt_of_le_of_lt R7.out.Cd R7.out.lt)))
                clear X7 N7 hx2 hlk hlk2
                go_wp2_with (first
                  | (go_at_call 16; refine HSM.out.mono ?_; rintro e V8 ⟨rfl, b⟩; have R8 := Lib.hid (R7.out.below b); have Q8 := Lib.hid (Q7.out.trans (b.mono HHB.out)); clear b)
                  | fail)
                go_roundw
                case rel => exact ⟨i + 1, by omega, by go_num, _, own7, R8.out, by rw [upd_at]; exact HL2.out, fun p h1 h2 => by rw [upd_ne _ _ (by omega)]; exact X6.out p h1 h2, Q8.out⟩
                case measure => simp [intOf]; omega
              · obtain rfl : (L q).xs.length = i := by omega
                have hemp : fs q = [] := by
                  have h0 := Y6.out
                  rw [List.drop_length, List.map_nil] at h0
                  exact List.map_eq_nil_iff.1 h0
                have HR := Lib.hid (take_no g B z ev 0 0 KY fs own1 q wr R6.out.card HHL.out hemp)
                have HHB : Hid (B ≤ wr.heap.size) := Lib.hid hB6
                clear hemp hB6
                go_wp2_with (first
                  | (go_at_call 15; refine HR.out.mono ?_; rintro e V8 ⟨rfl, b⟩; have R8 := Lib.hid (R6.out.below b); have Q8 := Lib.hid (Q6.out.trans (b.mono HHB.out)); clear b)
                  | fail)
                go_roundw
                case rel => exact ⟨q + 1, by have := HHL.out; omega, by go_num, fs, own1, R8.out, fun p h1 h2 => X6.out p (by omega) h2, Q8.out⟩
                case measure => have := HHL.out; simp [intOf]; omega
          · go_wp2
            go_ret
            exact ⟨rfl, Q3.out.trans (Q5.out.mono (show w.heap.size ≤ B from HQ2.out))⟩

theorem of_len4 {α : Type} (l : List α) (h : l.length = 4) : ∃ x0 x1 x2 x3, l = [x0, x1, x2, x3] := by
  match l, h with
  | [x0, x1, x2, x3], _ => exact ⟨x0, x1, x2, x3, rfl⟩
theorem own : ownKnob Try.prog.godebug = none := by kernel_rfl
theorem laidOut : laidOutB Try.prog = true := by kernel_rfl

set_option maxRecDepth 100000 in
set_option maxHeartbeats 2000000 in
theorem lifted (os : Os) (started : os.Started) (H : Type) (enc : TypeId × Value → H) :
    ReturnsInHanded {} Try.checked os 4 .any (Rows.ringsOrderSpec.pre6 enc Try.prog Try.f4 Rows.ringsOrderRow.domain false) (Rows.ringsOrderSpec.post enc Try.prog Try.f4 false true false false) := by
  refine returnsInHanded_of_change_sized (C := Try.checked) own started (by kernel_rfl) Try.func4
    (ChangeSpec.witness6 (enc := enc) (C := Try.checked) false ⟨#[], #[.agg #[.slice none 0 0, .slice none 0 0, .int .i64 0, .int .i64 0], .slice none 0 0], []⟩ 8 (by kernel_rfl) (by kernel_rfl) (by kernel_rfl) (by kernel_rfl)) ?_
  intro W base args ds gs before hval0 hW hcnd hsz0 _
  have hval : ∀ (j : Nat) t v, Try.f4.params[j]? = some t → args[j]? = some v → Value.okWide Try.prog W .any base t v := hval0
  have hsz : (DataW.weightsEach Try.prog (Try.f4.params.toList ++ Rows.ringsOrderSpec.plain.varTypes Try.prog) (ds ++ gs)).all (· ≤ reachBytes) = true := hsz0
  have hW' := hW
  obtain ⟨p, q, hA0, hV, rfl, hfz, hnd⟩ := hW
  have hA : DataW.TrodAll enc Try.prog W 0 (fun _ => true) true Try.f4.params.toList args.toList ds p := hA0
  rw [Try.params4] at hA hval hsz
  obtain ⟨v0, vs0, d0, ds0, p0, q0, hargs, rfl, rfl, h0, r0⟩ := trodAll_cons hA
  obtain ⟨v1, vs1, d1, ds1, p1, q1, rfl, rfl, rfl, h1, r1⟩ := trodAll_cons r0
  obtain ⟨rfl, rfl, rfl⟩ := trodAll_nil r1
  obtain rfl : args = #[v0, v1] := by cases args; simp_all
  obtain ⟨rfl, rfl⟩ := trodVars_none hV
  have k0 := h0
  have lt0 : ∀ x ∈ p0, x.block < W.heap.size := by obtain ⟨m, hm⟩ := k0; exact DataW.trod_lt m _ _ _ hm
  obtain ⟨vs0', ys0', m0, rfl, lv0, ly0, hd0, F0⟩ := open_agg Try.underlying25 (by kernel_rfl) (by kernel_rfl) (hval 0 25 v0 rfl rfl) h0
  obtain ⟨c0_0, c0_1, c0_2, c0_3, rfl⟩ := of_len4 _ lv0
  obtain ⟨y0_0, y0_1, y0_2, y0_3, rfl⟩ := of_len4 _ ly0
  simp only [List.map_cons, List.map_nil] at hd0
  obtain ⟨_, _, e, g, t0_0⟩ := F0 0 _ rfl
  obtain rfl := Option.some.inj e; obtain rfl := Option.some.inj g; clear e g
  obtain ⟨a0_0, xs0_0, cap0_0, rfl, hbt0_0, hcap0_0, hlc0_0, hq0_0⟩ := open_bytes t0_0
  obtain ⟨_, _, e, g, t0_1⟩ := F0 1 _ rfl
  obtain rfl := Option.some.inj e; obtain rfl := Option.some.inj g; clear e g
  obtain ⟨a0_1, xs0_1, cap0_1, rfl, hbt0_1, hcap0_1, hlc0_1, hq0_1⟩ := open_intsF t0_1
  obtain ⟨_, _, e, g, t0_2⟩ := F0 2 _ rfl
  obtain rfl := Option.some.inj e; obtain rfl := Option.some.inj g; clear e g
  obtain ⟨z0_2, e, _, w0_2⟩ := DataW.trod_int Try.underlying3 t0_2
  obtain rfl := (List.cons.inj e).1; clear e
  obtain ⟨lo0_2, hi0_2⟩ := bounds_i64 w0_2
  obtain ⟨_, _, e, g, t0_3⟩ := F0 3 _ rfl
  obtain rfl := Option.some.inj e; obtain rfl := Option.some.inj g; clear e g
  obtain ⟨z0_3, e, _, w0_3⟩ := DataW.trod_int Try.underlying3 t0_3
  obtain rfl := (List.cons.inj e).1; clear e
  obtain ⟨lo0_3, hi0_3⟩ := bounds_i64 w0_3
  obtain ⟨a1, len1, cap1, rfl⟩ := okWide_slice Try.underlying36 (hval 1 36 v1 rfl rfl)
  have k1 := h1
  have lt1 : ∀ x ∈ p1, x.block < W.heap.size := by obtain ⟨m, hm⟩ := k1; exact DataW.trod_lt m _ _ _ hm
  have hre0_0 : xs0_0.length ≤ 140737488351232 := bytes_reach hq0_0 (sized_field hsz (j := 0) (i := 0) (t := 25) rfl (by rw [hd0]; rfl) Try.underlying25 rfl rfl)
  have hre0_1 : xs0_1.length ≤ 17592186043904 := ints_reach hq0_1 (sized_field hsz (j := 0) (i := 1) (t := 25) rfl (by rw [hd0]; rfl) Try.underlying25 rfl rfl)
  obtain ⟨xs1, hxl1, hbt1, hcap1, hre1⟩ : ∃ xs : List Txt, xs.length = len1 ∧ Sts 1 Txt.cells Txt.ok W a1 xs ∧ (a1 = none → cap1 = 0) ∧ xs.length ≤ 5864062014634 := by
    obtain ⟨fuel, hf⟩ := h1
    obtain ⟨x, rs, c, hv, hs, hnc, hlc, hq⟩ := open_Txts (c := .slice a1 len1 cap1) hf
    simp only [Value.slice.injEq] at hv
    obtain ⟨rfl, rfl, rfl⟩ := hv
    have hw := sts_reach Try.underlying36 hq (fun n hn => by simpa using List.all_eq_true.1 hsz _ (DataW.weights_mem_each (j := 1) (t := 36) rfl rfl n hn))
    rw [show Try.prog.bytesOf 22 = 24 from by kernel_rfl] at hw
    simp only [reachBytes] at hw
    exact ⟨rs, rfl, hs, hnc, by omega⟩
  clear hA0 hval0 hsz hsz0
  subst hxl1
  refine (walk a0_0 xs0_0 cap0_0 a0_1 xs0_1 cap0_1 z0_2 z0_3 a1 xs1 cap1 W hbt0_0 hcap0_0 hlc0_0 hre0_0 hbt0_1 hcap0_1 hlc0_1 hre0_1 lo0_2 hi0_2 lo0_3 hi0_3 hbt1 hcap1 hre1).mono fun e W' ⟨he, bel⟩ => ?_
  subst he
  exact ⟨_, rfl, _, _, _, [], _, [], hW', trodAll_mk1 (shut_bool Try.underlying4 _), (trodAll_cons_mk (Below.trod laidOut (by kernel_rfl) (of_decide_eq_true (by kernel_rfl)) k0 bel lt0) (trodAll_cons_mk (Below.trod laidOut (by kernel_rfl) (of_decide_eq_true (by kernel_rfl)) k1 bel lt1) trodAll_mk0)), rfl, bel.frame _, fun h => by cases h⟩

theorem over : Rows.ringsOrderRow.holds Try.pinned (OpenSpec.ofChange Rows.ringsOrderSpec) :=
  OpenClaim.holds_of_wide 4 Try.f4 rfl rfl rfl rfl rfl rfl rfl ⟨rfl, rfl, rfl, rfl, rfl⟩ rfl rfl rfl rfl rfl (by kernel_rfl) Try.func4 (by kernel_rfl)
    (of_decide_eq_true (by kernel_rfl)) (by unfold Func.isWrapper; first | (rw [if_pos (by decide +kernel)]; kernel_rfl) | (rw [if_neg (by decide +kernel)]; exact ⟨rfl, rfl⟩))
    (fun os started H enc _ => lifted os started H enc)

end Go.Proofs.Ytokfadlgiimaoaa.ringsOrder
namespace Go.Proofs.Ytokfadlgiimaoaa
/-- The statement. -/
theorem ringsOrder_holds : Rows.RingsOrderSaid := ringsOrder.over
#print axioms ringsOrder_holds
end Go.Proofs.Ytokfadlgiimaoaa
