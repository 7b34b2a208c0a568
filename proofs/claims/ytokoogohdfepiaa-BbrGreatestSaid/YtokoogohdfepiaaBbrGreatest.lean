/- For every list of rounds and rates: the first of the filter is the greatest rate of the last ten rounds. No condition. -/
import Derived.Test.YtokoogohdfepiaaRows
import Derived.Test.YtokoogohdfepiaaBbQ
import Derived.Test.YtokoogohdfepiaaBbX
import Derived.Test.YtokoogohdfepiaaQInts
import Derived.Test.YtokoogohdfepiaaGAgg
import Derived.Deep.DeepCutAuto
import Derived.RegionTactic
import Derived.Deep.RegionHeld3
import Derived.ProofKit
import Derived.OpenShut
import Derived.ChangeOld
import Derived.SizedLaws
namespace Go.Proofs.Ytokoogohdfepiaa.bbrGreatest
open Go.ChangeShapes Go.WideShapes Go.ChangeAt Go.RowKit Go.Deep Go.Proofs.Ytokoogohdfepiaa

theorem getD_snoc (xs : List Int) (a : Int) (k : Nat) : (xs ++ [a]).getD k 0 = if k < xs.length then xs.getD k 0 else if k = xs.length then a else 0 := by
  simp only [List.getD_eq_getElem?_getD]
  split
  · rw [List.getElem?_append_left (by assumption)]
  · rw [List.getElem?_append_right (by omega)]
    split
    · rename_i h; subst h; simp
    · rw [List.getElem?_eq_none (by simp; omega)]; rfl
def Obs (ats rts : List Int) : List Pair23 := List.zipWith Pair23.mk ats rts
theorem obs_at {ats rts : List Int} {k : Nat} (h1 : k < ats.length) (h2 : k < rts.length) : (Obs ats rts)[k]? = some ⟨ats.getD k 0, rts.getD k 0⟩ := by
  unfold Obs
  rw [List.getElem?_zipWith, List.getElem?_eq_getElem h1, List.getElem?_eq_getElem h2]
  simp [List.getD_eq_getElem?_getD, List.getElem?_eq_getElem h1, List.getElem?_eq_getElem h2]
theorem obs_snoc {ats rts : List Int} (h : ats.length = rts.length) (d r : Int) : Obs (ats ++ [d]) (rts ++ [r]) = Obs ats rts ++ [⟨d, r⟩] := by
  unfold Obs
  rw [List.zipWith_append h]; rfl
/-- The greatest of the first places. -/
structure BM (obs : List Pair23) (R : Int) (j : Nat) (b : Int) : Prop where
  ub : ∀ (k : Nat) (x : Pair23), k < j → obs[k]? = some x → R - x.round < 10 → x.rate ≤ b
  at_ : b = 0 ∨ ∃ x ∈ obs, R - x.round < 10 ∧ x.rate = b
theorem bm_nil (obs : List Pair23) (R : Int) : BM obs R 0 0 := ⟨fun k x h => by omega, .inl rfl⟩
theorem BM.yes {obs : List Pair23} {R b : Int} {j : Nat} {x : Pair23} (h : BM obs R j b) (hx : obs[j]? = some x) (hw : R - x.round < 10) : BM obs R (j + 1) (max b x.rate) := by
  refine ⟨fun k y hk hy hyw => ?_, ?_⟩
  · by_cases e : k = j
    · subst e; rw [hx] at hy; cases hy; omega
    · have := h.ub k y (by omega) hy hyw; omega
  · by_cases e : b ≤ x.rate
    · right; exact ⟨x, List.mem_of_getElem? hx, hw, by omega⟩
    · have e2 : max b x.rate = b := by omega
      rw [e2]; exact h.at_
theorem BM.no {obs : List Pair23} {R b : Int} {j : Nat} {x : Pair23} (h : BM obs R j b) (hx : obs[j]? = some x) (hw : ¬ R - x.round < 10) : BM obs R (j + 1) b := by
  refine ⟨fun k y hk hy hyw => ?_, h.at_⟩
  by_cases e : k = j
  · subst e; rw [hx] at hy; cases hy; exact absurd hyw hw
  · exact h.ub k y (by omega) hy hyw
theorem BM.all {obs : List Pair23} {R b : Int} {j : Nat} (h : BM obs R j b) (hj : obs.length ≤ j) : ∀ x ∈ obs, R - x.round < 10 → x.rate ≤ b := by
  intro x hx hw
  obtain ⟨i, hi⟩ := List.getElem?_of_mem hx
  exact h.ub i x (by have := (List.getElem?_eq_some_iff.1 hi).1; omega) hi hw

set_option maxRecDepth 100000 in
set_option maxHeartbeats 1500000 in
theorem walk (a : Option Addr) (xs : List Int) (c1 : Nat) (a2 : Option Addr) (ys : List Int) (c2 : Nat) (w : World) (hx : Its w a xs) (_hn1 : a = none → c1 = 0) (_hl1 : xs.length ≤ 17592186043904) (hy : Its w a2 ys) (_hn2 : a2 = none → c2 = 0) (_hl2 : ys.length ≤ 17592186043904) :
    Calls Try.prog 4 #[.slice a xs.length c1, .slice a2 ys.length c2] w fun e w' => e = .returned (.bool true) ∧ Below w.heap.size w w' := by
  have HX := Lib.hid hx
  have HY := Lib.hid hy
  clear hx hy
  go_enter Try.func4, Try.ntmps4
  go_wp2_with fail
  refine (alive_any _).mono ?_
  rintro e V1 ⟨rfl, b⟩
  have Q1 := Lib.hid b
  clear b
  go_wp2_with fail
  go_loopw [5, 6, 7, 8, 9] (fun vl va vb vn vi wr => ∃ (i : Nat) (nw : Int) (l : List Pair23) (ats rts : List Int) (pl : Option Addr) (cl : Nat) (p : Option Addr) (c : Nat) (p2 : Option Addr) (c2 : Nat), i ≤ xs.length ∧ i ≤ ys.length ∧ i ≤ 200 ∧ Hid (ats.length = i ∧ rts.length = i ∧ l.length ≤ 10) ∧ vi = .int .i64 i ∧ vn = .int .i64 nw ∧ vl = .slice pl l.length cl ∧ va = .slice p ats.length c ∧ vb = .slice p2 rts.length c2 ∧ 0 ≤ nw ∧ nw ≤ i * 4 ∧ Hid (Told (Obs ats rts) l nw) ∧ Hid (∀ k, k < ats.length → 0 ≤ ats.getD k 0 ∧ ats.getD k 0 ≤ nw) ∧ Hid (∀ k, k < rts.length → 0 ≤ rts.getD k 0 ∧ rts.getD k 0 < 1000) ∧ Sts 2 PC Tr wr pl l ∧ Hid (pl = none → cl = 0) ∧ OwnR 3 1 IC w.heap.size p ats c wr ∧ OwnR 3 1 IC w.heap.size p2 rts c2 wr ∧ Disj p p2 ∧ Below w.heap.size w wr) (fun _ _ _ _ vi _ => xs.length - (intOf vi).toNat)
  case atStart => exact ⟨0, 0, [], [], [], none, 0, none, 0, none, 0, by omega, by omega, by omega, Lib.hid ⟨rfl, rfl, by decide⟩, rfl, rfl, rfl, rfl, rfl, by omega, by omega, Lib.hid told_nil, Lib.hid (fun k h => by simp at h), Lib.hid (fun k h => by simp at h), Sts.nil _ none, Lib.hid (fun _ => rfl), ownR_nil _ _ _ _ _, ownR_nil _ _ _ _ _, Disj.nil _, Q1.out⟩
  case round =>
    obtain ⟨i, nw, l, ats, rts, pl, cl, p, c, p2, c2, hi, hi2, hi6, HL, rfl, rfl, rfl, rfl, rfl, hn0, hn1, HT, HA0, HR0, hs, HN, hA, hB, hdj, hq⟩ := hrel
    have SR := Lib.hid hs
    have AR := Lib.hid hA
    have BR := Lib.hid hB
    have DJ := Lib.hid hdj
    have QR := Lib.hid hq
    clear hs hA hB hdj hq Q1
    by_cases hlt : i < xs.length ∧ i < ys.length ∧ i < 200
    case neg =>
      have h2 : ¬ ((i : Int) < (xs.length : Int)) ∨ ((i : Int) < (xs.length : Int) ∧ ¬ ((i : Int) < (ys.length : Int))) ∨ ((i : Int) < (xs.length : Int) ∧ ((i : Int) < (ys.length : Int)) ∧ ¬ ((i : Int) < 200)) := by omega
      rcases h2 with h2 | ⟨h2, h3⟩ | ⟨h2, h3, h4⟩
      all_goals
        go_wp2
        go_ret
        exact ⟨rfl, QR.out⟩
    case pos =>
      obtain ⟨hlt1, hlt2, hlt3⟩ := hlt
      have i1 : (i : Int) < (xs.length : Int) := by omega
      have i2 : (i : Int) < (ys.length : Int) := by omega
      have i3 : (i : Int) < 200 := by omega
      obtain ⟨xb, xo, rfl, hxb, hxc⟩ : ∃ b off, a = some ⟨b, off, none⟩ ∧ b < w.heap.size ∧ ∀ i, i < xs.length → w.cell? ⟨b, off + i, none⟩ = some (.int .i64 (xs.getD i 0)) := by
        rcases HX.out.2 with h | h
        · rw [h] at hlt1; simp at hlt1
        · exact h
      obtain ⟨yb, yo, rfl, hyb, hyc⟩ : ∃ b off, a2 = some ⟨b, off, none⟩ ∧ b < w.heap.size ∧ ∀ i, i < ys.length → w.cell? ⟨b, off + i, none⟩ = some (.int .i64 (ys.getD i 0)) := by
        rcases HY.out.2 with h | h
        · rw [h] at hlt2; simp at hlt2
        · exact h
      obtain ⟨x, hxe⟩ : ∃ z, xs.getD i 0 = z := ⟨_, rfl⟩
      obtain ⟨y, hye⟩ : ∃ z, ys.getD i 0 = z := ⟨_, rfl⟩
      have cx : wr.cell? ⟨xb, xo + i, none⟩ = some (.int .i64 x) := by rw [← hxe]; exact (QR.out.cell (p := ⟨xb, xo + i, none⟩) hxb).trans (hxc i hlt1)
      have cy : wr.cell? ⟨yb, yo + i, none⟩ = some (.int .i64 y) := by rw [← hye]; exact (QR.out.cell (p := ⟨yb, yo + i, none⟩) hyb).trans (hyc i hlt2)
      obtain ⟨dn, hdn, hd0, hd1⟩ := norm_mod x 4 (by omega) (by omega)
      obtain ⟨r, hr, hr0, hr1⟩ := norm_mod y 1000 (by omega) (by omega)
      clear hxc hxe hyc hye
      obtain ⟨v, hv⟩ : ∃ z, nw + dn = z := ⟨_, rfl⟩
      have hvw : wrap64 (nw + dn) = v := by rw [hv]; exact IntWalk.wrap64_in _ ⟨by omega, by omega⟩
      have hv0 : 0 ≤ v := by omega
      have hvn : nw ≤ v := by omega
      have hv1 : v ≤ (i : Int) * 4 + 4 := by omega
      have hnx := HT.out.next (R := v) (r := r) hvn (by omega) ⟨hr0, by omega⟩
      obtain ⟨m, hm⟩ : ∃ m, filt v r l = m := ⟨_, rfl⟩
      have hfi := (filt_is HT.out.fv hnx.1).2
      rw [hm] at hnx hfi
      obtain ⟨f2, f3⟩ := hfi
      have HNX := Lib.hid hnx.2
      have HFW := Lib.hid f2
      have hm0 : 0 < m.length := by
        obtain ⟨q, hq, _⟩ := f3
        exact List.length_pos_of_mem hq
      have hm1 := hnx.2.fv.1
      have HPF := Lib.hid (fun (W : World) (hW : Sts 2 PC Tr W pl l) => pf_known pl cl W hW HN.out (by have := HL.out.2.2; omega) HT.out.fv hnx.1 hm)
      obtain ⟨hp0, hpe⟩ : ∃ q, m[0]? = some q := ⟨_, List.getElem?_eq_getElem hm0⟩
      have HPE := Lib.hid hpe
      have k1 : ¬ ((m.length : Int) = 0) := by omega
      have k1b : ((m.length : Int) == 0) = false := by rw [beq_eq_false_iff_ne]; exact k1
      have k2 : ¬ ((10 : Int) < (m.length : Int)) := by omega
      clear hnx hm f2 f3 hpe
      go_upto_region 11 with fail
      clear hv hdn hr
      go_wp2_with fail
      refine (HPF.out _ SR.out).mono ?_
      rintro e V2 ⟨⟨pm, cm, rfl, O⟩, b⟩
      have b0 := b.mono QR.out.size
      have M2 := Lib.hid O
      have A2 := Lib.hid (AR.out.below b)
      have B2 := Lib.hid (BR.out.below b)
      have Q2 := Lib.hid (QR.out.trans b0)
      have DA2 := Lib.hid (show Disj p pm from fun g e1 e2 => by have h1 := AR.out.ltB g e1; rw [e2] at O; have h2 := O.ownB g rfl; omega)
      have DB2 := Lib.hid (show Disj p2 pm from fun g e1 e2 => by have h1 := BR.out.ltB g e1; rw [e2] at O; have h2 := O.ownB g rfl; omega)
      have hVs := Lib.hid QR.out.size
      clear b b0 O HPF SR AR BR QR cx cy
      go_wp2_with fail
      refine (num_any _ _).mono ?_
      rintro e w' ⟨rfl, rfl⟩
      go_upto_region 15 with fail
      have bal : ∀ (W : World) (o : Obj), Below W.heap.size W (W.alloc o) := fun W o => (Below.refl W.heap.size W).alloc (Nat.le_refl _) o
      have HLE : Hid (ats.length + 1 ≤ 201 ∧ rts.length + 1 ≤ 201) := Lib.hid (by have := HL.out; omega)
      have M3 := Lib.hid (M2.out.mono hVs.out)
      clear M2
      go_wp2_with (first
        | (refine wpList_append_rA (t := 34) (e := 3) (z := .int .i64 0) (m := 1) (bz := 8) (cells := IC) (xs := ats) (ys := [v]) (cap := c) (a := p) (ad := ⟨V2.heap.size, 0, none⟩) (dap := 1) (n := 1) rfl elemI encI (.tmp 70) (.tmp 72) rfl w.heap.size rfl ?_ ?_ ?_ ?_ ?_ ?_ ?_ ?_; exact A2.out.below (bal V2 (.cells #[.int .i64 v] 3)); exact sts_new encI V2 [v] 3 (0, 0); rfl; rfl; (have := HLE.out; simp only [List.length_singleton]; omega); (have := HLE.out; unfold maxLen; simp only [List.length_singleton]; omega); exact Nat.le_trans Q2.out.size (bal V2 (.cells #[.int .i64 v] 3)).size; intro p' c' W1 O1 b1 g1 at1; have ba1 := bal V2 (.cells #[.int .i64 v] 3); have A7 := Lib.hid O1; have B7 := Lib.hid ((B2.out.below ba1).apart DJ.out.symm (A2.out.below ba1).ownEq g1); have M7 := Lib.hid ((M3.out.below ba1).apart DA2.out.symm (A2.out.below ba1).ownEq g1); have D7 := Lib.hid (disj_app DJ.out at1 (B2.out.below ba1).ltB); have DB7 := DB2; have Q7 := Lib.hid ((Q2.out.trans (ba1.mono Q2.out.size)).trans b1); clear O1 b1 g1 at1 ba1 A2 B2 M3 Q2)
        | (refine wpList_append_rA (t := 34) (e := 3) (z := .int .i64 0) (m := 1) (bz := 8) (cells := IC) (xs := rts) (ys := [r]) (cap := c2) (a := p2) (ad := ⟨W1.heap.size, 0, none⟩) (dap := 1) (n := 1) rfl elemI encI (.tmp 74) (.tmp 76) rfl w.heap.size rfl ?_ ?_ ?_ ?_ ?_ ?_ ?_ ?_; exact B7.out.below (bal W1 (.cells #[.int .i64 r] 3)); exact sts_new encI W1 [r] 3 (0, 0); rfl; rfl; (have := HLE.out; simp only [List.length_singleton]; omega); (have := HLE.out; unfold maxLen; simp only [List.length_singleton]; omega); exact Nat.le_trans Q7.out.size (bal W1 (.cells #[.int .i64 r] 3)).size; intro p2' c2' W2 O2 b2 g2 at2; have ba2 := bal W1 (.cells #[.int .i64 r] 3); have B8 := Lib.hid O2; have A8 := Lib.hid ((A7.out.below ba2).apart D7.out (B7.out.below ba2).ownEq g2); have M8 := Lib.hid ((M7.out.below ba2).apart DB7.out.symm (B7.out.below ba2).ownEq g2); have D8 := Lib.hid (disj_app D7.out.symm at2 (A7.out.below ba2).ltB).symm; have Q8 := Lib.hid ((Q7.out.trans (ba2.mono Q7.out.size)).trans b2); clear O2 b2 g2 at2 ba2 A7 B7 M7 Q7 D7)
        | fail)
      obtain ⟨pg, rfl, _, _⟩ := A8.out.isSome (by simp)
      obtain ⟨pg2, rfl, _, _⟩ := B8.out.isSome (by simp)
      have M9 := Lib.hid (M8.out.sts encP)
      have N9 := Lib.hid M8.out.nilcap
      obtain ⟨mg, mo, rfl, _, _⟩ := M9.out.isSomeT hm0
      obtain ⟨_, z0, z1⟩ := pair_at M9.out HPE.out
      simp only [Nat.zero_mul, Nat.add_zero] at z0 z1
      have HA1 : Hid (∀ k, k < (ats ++ [v]).length → 0 ≤ (ats ++ [v]).getD k 0 ∧ (ats ++ [v]).getD k 0 ≤ v) := Lib.hid (fun k hk => by
        rw [List.length_append, List.length_singleton] at hk
        rw [getD_snoc]
        by_cases h : k < ats.length
        · rw [if_pos h]; have := HA0.out k h; omega
        · rw [if_neg h, if_pos (by omega)]; omega)
      have HR1 : Hid (∀ k, k < (rts ++ [r]).length → 0 ≤ (rts ++ [r]).getD k 0 ∧ (rts ++ [r]).getD k 0 < 1000) := Lib.hid (fun k hk => by
        rw [List.length_append, List.length_singleton] at hk
        rw [getD_snoc]
        by_cases h : k < rts.length
        · rw [if_pos h]; exact HR0.out k h
        · rw [if_neg h, if_pos (by omega)]; omega)
      have HT1 : Hid (Told (Obs (ats ++ [v]) (rts ++ [r])) m v) := Lib.hid (by rw [obs_snoc (by have := HL.out; omega)]; exact HNX.out)
      have HL1 : Hid ((ats ++ [v]).length = i + 1 ∧ (rts ++ [r]).length = i + 1 ∧ m.length ≤ 10) := Lib.hid (by simp only [List.length_append, List.length_singleton]; have := HL.out; omega)
      clear M8 HA0 HR0 HT HNX HL hvw
      go_loop [13, 14] (fun ov kv => ∃ (j : Nat) (ob : Int), j ≤ i + 1 ∧ kv = .int .i64 j ∧ ov = .int .i64 ob ∧ 0 ≤ ob ∧ ob ≤ 1000 ∧ Hid (BM (Obs (ats ++ [v]) (rts ++ [r])) v j ob)) (fun _ kv => i + 1 - (intOf kv).toNat)
      case atStart => exact ⟨0, 0, by omega, rfl, rfl, by omega, by omega, Lib.hid (bm_nil _ _)⟩
      case round =>
        obtain ⟨j, ob, hj, rfl, rfl, hb0, hb1, HB⟩ := hrel
        by_cases hjl : j < i + 1
        case neg =>
          obtain rfl : j = i + 1 := by omega
          have hob : (Obs (ats ++ [v]) (rts ++ [r])).length ≤ i + 1 := by unfold Obs; rw [List.length_zipWith]; have := HL1.out; omega
          have hhd := HT1.out.head HFW.out HPE.out (HB.out.all hob) HB.out.at_
          rw [hhd] at z1
          have kj : ¬ ((i : Int) + 1 < (ats.length : Int) + 1) := by have := HL1.out.1; simp only [List.length_append, List.length_singleton] at this; omega
          clear hhd hob
          go_wp2
          go_roundw
          case rel => exact ⟨i + 1, v, m, ats ++ [v], rts ++ [r], _, _, _, _, _, _, by omega, by omega, by omega, HL1, by go_num, rfl, rfl, by first | rfl | simp, by first | rfl | simp, by omega, by omega, HT1, HA1, HR1, M9.out, N9, A8.out, B8.out, D8.out, Q8.out⟩
          case measure => simp [intOf]; omega
        case pos =>
          have l1 : j < (ats ++ [v]).length := by have := HL1.out; omega
          have l2 : j < (rts ++ [r]).length := by have := HL1.out; omega
          obtain ⟨av, hav⟩ : ∃ z, (ats ++ [v]).getD j 0 = z := ⟨_, rfl⟩
          obtain ⟨rv, hrv⟩ : ∃ z, (rts ++ [r]).getD j 0 = z := ⟨_, rfl⟩
          have ca : W2.cell? ⟨pg, j, none⟩ = some (.int .i64 av) := by rw [← hav]; exact A8.out.cellI j l1
          have cb : W2.cell? ⟨pg2, j, none⟩ = some (.int .i64 rv) := by rw [← hrv]; exact B8.out.cellI j l2
          have ba := HA1.out j l1
          have bb := HR1.out j l2
          have hoj := obs_at l1 l2
          rw [hav] at ba hoj
          rw [hrv] at bb hoj
          obtain ⟨ba0, ba1⟩ := ba
          obtain ⟨bb0, bb1⟩ := bb
          have kj : (j : Int) < (ats.length : Int) + 1 := by simp only [List.length_append, List.length_singleton] at l1; omega
          have kj2 : (j : Int) < (rts.length : Int) + 1 := by simp only [List.length_append, List.length_singleton] at l2; omega
          by_cases hw : v - av < 10
          case pos =>
            have HB2 := Lib.hid (HB.out.yes hoj hw)
            have hmx0 : 0 ≤ max ob rv := by omega
            have hmx1 : max ob rv ≤ 1000 := by omega
            clear hoj hav hrv l1 l2 HB
            go_wp2
            go_round
            case rel => exact ⟨j + 1, _, by omega, by go_num, rfl, hmx0, hmx1, HB2⟩
            case measure => simp [intOf]; omega
          case neg =>
            have HB2 := Lib.hid (HB.out.no hoj hw)
            clear hoj hav hrv l1 l2 HB
            go_wp2
            go_round
            case rel => exact ⟨j + 1, ob, by omega, by go_num, rfl, hb0, hb1, HB2⟩
            case measure => simp [intOf]; omega

theorem own : ownKnob Try.prog.godebug = none := by kernel_rfl
theorem laidOut : laidOutB Try.prog = true := by kernel_rfl

set_option maxRecDepth 100000 in
set_option maxHeartbeats 2000000 in
theorem lifted (os : Os) (started : os.Started) (H : Type) (enc : TypeId × Value → H) :
    ReturnsInHanded {} Try.checked os 4 .any (Rows.bbrGreatestSpec.pre6 enc Try.prog Try.f4 Rows.bbrGreatestRow.domain false) (Rows.bbrGreatestSpec.post enc Try.prog Try.f4 false true false false) := by
  refine returnsInHanded_of_change_sized (C := Try.checked) own started (by kernel_rfl) Try.func4
    (ChangeSpec.witness6 (enc := enc) (C := Try.checked) false ⟨#[], #[.slice none 0 0, .slice none 0 0], []⟩ 8 (by kernel_rfl) (by kernel_rfl) (by kernel_rfl) (by kernel_rfl)) ?_
  intro W base args ds gs before hval0 hW hcnd hsz0 _
  have hval : ∀ (j : Nat) t v, Try.f4.params[j]? = some t → args[j]? = some v → Value.okWide Try.prog W .any base t v := hval0
  have hsz : (DataW.weightsEach Try.prog (Try.f4.params.toList ++ Rows.bbrGreatestSpec.plain.varTypes Try.prog) (ds ++ gs)).all (· ≤ reachBytes) = true := hsz0
  have hW' := hW
  obtain ⟨p, q, hA0, hV, rfl, hfz, hnd⟩ := hW
  have hA : DataW.TrodAll enc Try.prog W 0 (fun _ => true) true Try.f4.params.toList args.toList ds p := hA0
  rw [Try.params4] at hA hval hsz
  obtain ⟨v0, vs0, d0, ds0, p0, q0, hargs, rfl, rfl, h0, r0⟩ := trodAll_cons hA
  obtain ⟨v1, vs1, d1, ds1, p1, q1, rfl, rfl, rfl, h1, r1⟩ := trodAll_cons r0
  obtain ⟨rfl, rfl, rfl⟩ := trodAll_nil r1
  obtain rfl : args = #[v0, v1] := by cases args; simp_all
  obtain ⟨rfl, rfl⟩ := trodVars_none hV
  obtain ⟨a0, len0, cap0, rfl⟩ := okWide_slice Try.underlying34 (hval 0 34 v0 rfl rfl)
  have k0 := h0
  have lt0 : ∀ x ∈ p0, x.block < W.heap.size := by obtain ⟨m, hm⟩ := k0; exact DataW.trod_lt m _ _ _ hm
  obtain ⟨a1, len1, cap1, rfl⟩ := okWide_slice Try.underlying34 (hval 1 34 v1 rfl rfl)
  have k1 := h1
  have lt1 : ∀ x ∈ p1, x.block < W.heap.size := by obtain ⟨m, hm⟩ := k1; exact DataW.trod_lt m _ _ _ hm
  obtain ⟨xs0, hxl0, hbt0, hcap0, hre0⟩ : ∃ xs : List Int, xs.length = len0 ∧ Its W a0 xs ∧ (a0 = none → cap0 = 0) ∧ xs.length ≤ 17592186043904 := by
    obtain ⟨fuel, hf⟩ := h0
    rcases open_ints Try.underlying34 Try.underlying3 (by kernel_rfl) hf with ⟨hcs, _⟩ | ⟨x, l, c, zs, hcs, _, hl, hm, hz, hd, hcell, hwz⟩
    · simp [Value.cells] at hcs
      obtain ⟨rfl, rfl, rfl⟩ := hcs
      exact ⟨[], rfl, ⟨(fun x h => by cases h), .inl rfl⟩, fun _ => rfl, by simp⟩
    · simp [Value.cells] at hcs
      obtain ⟨rfl, rfl, rfl⟩ := hcs
      have hz' : zs.length = cap0 := by simpa using hz
      obtain ⟨xs, h1, h2⟩ := its_of_ints hl hz' hcell hwz
      have hd' := (Prod.mk.inj hd).1
      have hw := sized_slice hsz (j := 0) (t := 34) (e := 3) rfl (by rw [hd']; rfl) Try.underlying34
      rw [bytes8] at hw
      simp only [lits, List.length_map, List.length_take, List.length_drop, reachBytes] at hw
      exact ⟨xs, h1, h2, (fun h => by cases h), by omega⟩
  obtain ⟨xs1, hxl1, hbt1, hcap1, hre1⟩ : ∃ xs : List Int, xs.length = len1 ∧ Its W a1 xs ∧ (a1 = none → cap1 = 0) ∧ xs.length ≤ 17592186043904 := by
    obtain ⟨fuel, hf⟩ := h1
    rcases open_ints Try.underlying34 Try.underlying3 (by kernel_rfl) hf with ⟨hcs, _⟩ | ⟨x, l, c, zs, hcs, _, hl, hm, hz, hd, hcell, hwz⟩
    · simp [Value.cells] at hcs
      obtain ⟨rfl, rfl, rfl⟩ := hcs
      exact ⟨[], rfl, ⟨(fun x h => by cases h), .inl rfl⟩, fun _ => rfl, by simp⟩
    · simp [Value.cells] at hcs
      obtain ⟨rfl, rfl, rfl⟩ := hcs
      have hz' : zs.length = cap1 := by simpa using hz
      obtain ⟨xs, h1, h2⟩ := its_of_ints hl hz' hcell hwz
      have hd' := (Prod.mk.inj hd).1
      have hw := sized_slice hsz (j := 1) (t := 34) (e := 3) rfl (by rw [hd']; rfl) Try.underlying34
      rw [bytes8] at hw
      simp only [lits, List.length_map, List.length_take, List.length_drop, reachBytes] at hw
      exact ⟨xs, h1, h2, (fun h => by cases h), by omega⟩
  clear hA0 hval0 hsz hsz0
  subst hxl0
  subst hxl1
  refine (walk a0 xs0 cap0 a1 xs1 cap1 W hbt0 hcap0 hre0 hbt1 hcap1 hre1).mono fun e W' ⟨he, bel⟩ => ?_
  subst he
  exact ⟨_, rfl, _, _, _, [], _, [], hW', trodAll_mk1 (shut_bool Try.underlying4 _), (trodAll_cons_mk (Below.trod laidOut (by kernel_rfl) (of_decide_eq_true (by kernel_rfl)) k0 bel lt0) (trodAll_cons_mk (Below.trod laidOut (by kernel_rfl) (of_decide_eq_true (by kernel_rfl)) k1 bel lt1) trodAll_mk0)), rfl, bel.frame _, fun h => by cases h⟩

theorem over : Rows.bbrGreatestRow.holds Try.pinned (OpenSpec.ofChange Rows.bbrGreatestSpec) :=
  OpenClaim.holds_of_wide 4 Try.f4 rfl rfl rfl rfl rfl rfl rfl ⟨rfl, rfl, rfl, rfl, rfl⟩ rfl rfl rfl rfl rfl (by kernel_rfl) Try.func4 (by kernel_rfl)
    (of_decide_eq_true (by kernel_rfl)) (by unfold Func.isWrapper; first | (rw [if_pos (by decide +kernel)]; kernel_rfl) | (rw [if_neg (by decide +kernel)]; exact ⟨rfl, rfl⟩))
    (fun os started H enc _ => lifted os started H enc)

end Go.Proofs.Ytokoogohdfepiaa.bbrGreatest
namespace Go.Proofs.Ytokoogohdfepiaa
/-- The statement. -/
theorem bbrGreatest_holds : Rows.BbrGreatestSaid := bbrGreatest.over
#print axioms bbrGreatest_holds
end Go.Proofs.Ytokoogohdfepiaa
