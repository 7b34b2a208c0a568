/- Scoreboard: the holes, one by one, to whatever loop ranges over them. -/
import Derived.Test.YtcachmjcninkbaaScK
import Derived.Test.YtcachmjcninkbaaGRange
namespace Go.Proofs.Ytcachmjcninkbaa
open Go.RowKit Go.Shelf

attribute [local go_sem] Oper.semAt_some
def encH (h : Hole) : Value := .agg #[.int .i64 (h.l : Nat), .int .i64 (h.r : Nat), .int .i64 (h.b : Nat), .int .i64 h.o]
theorem OwnR.stays {α : Type} {e : TypeId} {m : Nat} {cells : α → List Value} {B B' : Nat} {a : Option Addr} {xs : List α} {cap : Nat} {w w' : World} (h : OwnR e m cells B a xs cap w) (hs : Stays B' w w') (hb : B' ≤ B) : OwnR e m cells B a xs cap w' :=
  h.keepRow fun g o e1 ho => (hs.2 g (by have := (h.ownB g (by rw [e1]; rfl)).1; omega) (blk_lt ho)).trans ho

set_option maxRecDepth 100000 in
set_option maxHeartbeats 2000000 in
theorem holes_gives (una nxt high : Nat) (a : Option Addr) (bs : List (Nat × Nat)) (c : Nat) (hu : una < 4294967296) (hok : okS una nxt high bs = true) :
    Gives Fence.wide 4 Try.prog 42 #[.agg #[.int .u32 (una : Nat), .int .u32 (nxt : Nat), .int .u32 (high : Nat), .slice a bs.length c]] encH (hol (pl una nxt) 0 (sps una bs)) (fun W => Sts 2 BC Tr W a bs) := by
  intro l J Jx W hJ hJx hY hP h0
  obtain ⟨hs1, _, hs3, hs4⟩ := okS_iff.1 hok
  obtain ⟨st, hst⟩ : ∃ z, pl una nxt = z := ⟨_, rfl⟩
  rw [hst] at hY hs1 hs4 ⊢
  obtain ⟨sp, hsp⟩ : ∃ z, sps una bs = z := ⟨_, rfl⟩
  have hsl : sp.length = bs.length := by rw [← hsp, sps_len]
  have hsm : small sp := by rw [← hsp]; exact sps_small _ _
  have HSA := Lib.hid (fun V hP => spans_any una nxt high a bs c V hu hP hs3)
  rw [hsp] at hY hs4 HSA ⊢
  have HOA := Lib.hid (fun a' c' V (h : Sts 2 SC Tr V a' sp) => octetsOf_any a' sp c' V h hsm (by omega))
  have HPL := Lib.hid (fun V => place_any una nxt high a bs.length c nxt V hu)
  rw [hst] at HPL
  rw [hsl] at HOA
  have hoc := oct_ok sp 0 hs4 (Nat.zero_le _)
  obtain ⟨oc, hoc2⟩ : ∃ z, oct sp = z := ⟨_, rfl⟩
  rw [hoc2] at hoc HOA
  have HOC := Lib.hid hoc2
  have HP := Lib.hid hP
  have H0 := Lib.hid h0
  have HJ := Lib.hid hJ
  have HJX := Lib.hid hJx
  have HY := Lib.hid hY
  have HS4 := Lib.hid hs4
  have HSL := Lib.hid hsl
  have hlen := hol_len st sp 0
  have HLEN := Lib.hid hlen
  clear hP h0 hJ hJx hY hs4 hok hst hsp hsm hoc2 hsl hlen
  show CallsIn Fence.wide 4 Try.prog 42 #[.agg #[.int .u32 (una : Nat), .int .u32 (nxt : Nat), .int .u32 (high : Nat), .slice a bs.length c], .func (.yield l) #[] #[]] W _
  refine callsIn_of_wp Try.func42 rfl trivial ?_ rfl
  simp only [Try.ntmps42, List.size_toArray, List.length_cons, List.length_nil, Nat.reduceAdd, Nat.reduceSub, Array.replicate_succ, Array.replicate_zero, List.push_toArray, List.append_toArray, List.nil_append, List.cons_append]
  have S0 := Lib.hid (blk_new W (.cells #[.int .u32 (una : Nat), .int .u32 (nxt : Nat), .int .u32 (high : Nat), .slice a bs.length c] 26))
  have Q0 := Lib.hid ((Below.refl W.heap.size W).alloc (Nat.le_refl _) (.cells #[.int .u32 (una : Nat), .int .u32 (nxt : Nat), .int .u32 (high : Nat), .slice a bs.length c] 26))
  have P0 := Lib.hid (Sts.belowT HP.out Q0.out)
  have hz0 : W.heap.size < (W.alloc (.cells #[.int .u32 (una : Nat), .int .u32 (nxt : Nat), .int .u32 (high : Nat), .slice a bs.length c] 26)).heap.size := by simp
  gi_wp2_with (fail)
  generalize W.alloc (.cells #[.int .u32 (una : Nat), .int .u32 (nxt : Nat), .int .u32 (high : Nat), .slice a bs.length c] 26) = V0 at S0 Q0 P0 hz0 ⊢
  refine ⟨trivial, ?_⟩
  refine (callsIn_wide.2 (HSA.out V0 P0.out)).mono ?_
  rintro e V1 ⟨⟨a', c', rfl, hO⟩, hB⟩
  have O1 := Lib.hid (hO.mono (show W.heap.size + 1 ≤ _ by omega))
  have S1 := Lib.hid ((hB.block _ hz0).trans S0.out)
  have Q1 := Lib.hid (Q0.out.trans (hB.mono Q0.out.size))
  clear hO hB S0 Q0 P0 hz0
  gi_wp2_with (fail)
  refine ⟨trivial, ?_⟩
  refine (callsIn_wide.2 (HOA.out a' c' V1 (O1.out.sts encS))).mono ?_
  rintro e V2 ⟨rfl, hB⟩
  have O2 := Lib.hid (O1.out.below hB)
  have S2 := Lib.hid ((hB.block _ (blk_lt S1.out)).trans S1.out)
  have Q2 := Lib.hid (Q1.out.trans (hB.mono Q1.out.size))
  clear hB O1 S1 Q1
  have hb3 := (Below.refl V2.heap.size V2).alloc (Nat.le_refl _) (.cells #[.int .i64 0, .int .i64 0, .int .i64 bs.length, .int .i64 oc] 78)
  have O3 := Lib.hid (O2.out.below hb3)
  have S3 := Lib.hid ((hb3.block _ (blk_lt S2.out)).trans S2.out)
  have B3 := Lib.hid (blk_new V2 (.cells #[.int .i64 0, .int .i64 0, .int .i64 bs.length, .int .i64 oc] 78))
  have Q3 := Lib.hid (Q2.out.trans (hb3.mono Q2.out.size))
  have hgb : W.heap.size + 1 ≤ V2.heap.size := blk_lt S2.out
  have HAG : Hid (∀ q, a' = some ⟨q, 0, none⟩ → q < V2.heap.size) := Lib.hid (fun q e => (O2.out.ownB q (by rw [e]; rfl)).2)
  clear hb3 O2 S2 Q2
  gi_wp2_with (fail)
  obtain ⟨g, hg⟩ : ∃ g, V2.heap.size = g := ⟨_, rfl⟩
  generalize V2.alloc (.cells #[.int .i64 0, .int .i64 0, .int .i64 bs.length, .int .i64 oc] 78) = V3 at O3 S3 B3 Q3 ⊢
  rw [hg] at B3 hgb HAG ⊢
  clear hg
  gi_loopw [17] (fun iv wr => ∃ (k : Nat) (e : Nat) (rest : List (Nat × Nat)) (r0 : Nat) (bb oo : Int), k ≤ bs.length ∧ iv = .int .i64 k ∧ e ≤ 1073741824 ∧ e ≤ st ∧ Hid (bb = (rest.length : Int)) ∧ Hid (oo = oct rest) ∧ Hid (sp.drop k = rest) ∧ Hid ((hol st 0 sp).drop k = hol st e rest) ∧ Hid (okL st e rest = true) ∧ wr.heap[g]? = some (.cells #[.int .i64 (e : Nat), .int .i64 (r0 : Nat), .int .i64 bb, .int .i64 oo] 78 (0, 0)) ∧ wr.heap[W.heap.size]? = some (.cells #[.int .u32 (una : Nat), .int .u32 (nxt : Nat), .int .u32 (high : Nat), .slice a bs.length c] 26 (0, 0)) ∧ OwnR 76 2 SC (W.heap.size + 1) a' sp c' wr ∧ W.heap.size ≤ wr.heap.size ∧ J k wr) (fun iv _ => bs.length - (intOf iv).toNat)
  case atStart => exact ⟨0, 0, sp, 0, _, _, by omega, rfl, by omega, Nat.zero_le _, Lib.hid (by rw [HSL.out]), Lib.hid HOC.out.symm, Lib.hid rfl, Lib.hid rfl, HS4, B3.out, S3.out, O3.out, Q3.out.size, HJ.out 0 W V3 H0.out Q3.out⟩
  case round =>
    obtain ⟨k, e, rest, r0, bb, oo, hk, rfl, he1, he2, HBB, HOO, HDR, HHD, HOK, hB, hS, hO, hWs, hJk⟩ := hrel
    have BR := Lib.hid hB
    have SR := Lib.hid hS
    have OR := Lib.hid hO
    have JR := Lib.hid hJk
    have hgl := blk_lt hB
    clear hB hS hO hJk O3 S3 B3 Q3 H0
    by_cases hlt : k < bs.length
    case pos =>
      have i1 : (k : Int) < (bs.length : Int) := by omega
      obtain ⟨x, rest', hr⟩ : ∃ x rest', rest = x :: rest' := by
        cases rest with
        | nil =>
          have := congrArg List.length HDR.out
          rw [List.length_drop, HSL.out] at this
          simp at this; omega
        | cons x rest' => exact ⟨x, rest', rfl⟩
      obtain ⟨xl, xr⟩ := x
      have hbb : bb = ((rest'.length : Nat) : Int) + 1 := by rw [HBB.out, hr]; simp
      have hoo : oo = ((xr : Int) - (xl : Int)) + oct rest' := by rw [HOO.out, hr]; rfl
      have hok2 := HOK.out
      have hd2 := HDR.out
      have hh2 := HHD.out
      rw [hr] at hok2 hd2 hh2
      have hoR := oct_ok _ _ hok2 he2
      obtain ⟨o1, o2, o3, o4⟩ := okL_cons.1 hok2
      have hoT := oct_ok _ _ o4 o3
      obtain ⟨d1, d2⟩ := drop_get hd2
      obtain ⟨e1, e2⟩ := drop_get (show (hol st 0 sp).drop k = ⟨e, xl, rest'.length + 1, oct ((xl, xr) :: rest')⟩ :: hol st xr rest' from hh2)
      obtain ⟨O', hO'⟩ : ∃ z, oct rest' = z := ⟨_, rfl⟩
      rw [hO'] at hoo hoT
      have hoR2 : 0 ≤ oo := by rw [hoo, ← hO']; exact hoR.1
      have hlr : rest'.length ≤ 1024 := by have := congrArg List.length d2; rw [List.length_drop, HSL.out] at this; omega
      have O1' : 0 ≤ O' ∧ O' ≤ 1073741824 := by omega
      obtain ⟨t1, t2⟩ := O1'
      have o1' : xl < xr := o2
      have o2' : xr ≤ 1073741824 := by have : xr ≤ st := o3; omega
      obtain ⟨g2, oo2, rfl, _, _⟩ := (OR.out.sts encS).isSomeT (by rw [HSL.out]; omega)
      obtain ⟨hgg, p0, p1⟩ := s_at (OR.out.sts encS) d1
      have he0 : oo2 = 0 := by
        rcases OR.out with ⟨h, _, _⟩ | ⟨_, h, _⟩
        · cases h
        · cases h; rfl
      subst he0
      simp only [Nat.zero_add] at p0 p1
      -- the world ahead of yield
      have b0 := blk_cell BR.out 0
      have b1 := blk_cell BR.out 1
      have b2 := blk_cell BR.out 2
      have b3 := blk_cell BR.out 3
      have f1 := blk_free BR.out 1
      have X1 : Hid (Below W.heap.size wr ((wr.setCell ⟨g, 1, none⟩ (.int .i64 (xl : Nat))).alloc (.cells #[.int .i64 (xl : Nat), .int .i64 (xr : Nat)] 76))) := Lib.hid (((Below.refl W.heap.size wr).setCell (p := ⟨g, 1, none⟩) (by show W.heap.size ≤ g; omega) _).alloc (by simp; omega) _)
      have Y1 := Lib.hid ((Below.heap_alloc (wr.setCell ⟨g, 1, none⟩ (.int .i64 (xl : Nat))) (.cells #[.int .i64 (xl : Nat), .int .i64 (xr : Nat)] 76) g (by simp; exact hgl)).trans (blk_set BR.out 1 (.int .i64 (xl : Nat))))
      have Z1 : Hid (((wr.setCell ⟨g, 1, none⟩ (.int .i64 (xl : Nat))).alloc (.cells #[.int .i64 (xl : Nat), .int .i64 (xr : Nat)] 76)).heap[wr.heap.size]? = some (.cells #[.int .i64 (xl : Nat), .int .i64 (xr : Nat)] 76 (0, 0))) := Lib.hid (by have h := blk_new (wr.setCell ⟨g, 1, none⟩ (.int .i64 (xl : Nat))) (.cells #[.int .i64 (xl : Nat), .int .i64 (xr : Nat)] 76); simpa using h)
      have T1 : Hid (((wr.setCell ⟨g, 1, none⟩ (.int .i64 (xl : Nat))).alloc (.cells #[.int .i64 (xl : Nat), .int .i64 (xr : Nat)] 76)).heap[W.heap.size]? = some (.cells #[.int .u32 (una : Nat), .int .u32 (nxt : Nat), .int .u32 (high : Nat), .slice a bs.length c] 26 (0, 0))) := Lib.hid ((Below.heap_alloc (wr.setCell ⟨g, 1, none⟩ (.int .i64 (xl : Nat))) _ W.heap.size (by simp; omega)).trans (((gr_set wr g 1 (.int .i64 (xl : Nat))).block _ (blk_lt SR.out) (fun e => by have := Option.some.inj e; omega)).trans SR.out))
      have OX : Hid (OwnR 76 2 SC (W.heap.size + 1) (some ⟨g2, 0, none⟩) sp c' ((wr.setCell ⟨g, 1, none⟩ (.int .i64 (xl : Nat))).alloc (.cells #[.int .i64 (xl : Nat), .int .i64 (xr : Nat)] 76))) := Lib.hid ((OR.out.grown (gr_set wr g 1 (.int .i64 (xl : Nat))) (fun q h => by have h2 := HAG.out q h; intro h3; have := Option.some.inj h3; omega)).below ((Below.refl _ _).alloc (Nat.le_refl _) _))
      have JY := Lib.hid (HJ.out k wr _ JR.out X1.out)
      obtain ⟨fn, tmps, assign, body, hy, hR⟩ := HY.out k _ _ e1 JY.out (by have := X1.out.size; omega)
      rw [show oct ((xl, xr) :: rest') = oo by rw [hoo, ← hO']; rfl] at hy
      unfold encH at hy
      dsimp only at hy
      rw [show ((rest'.length + 1 : Nat) : Int) = bb by rw [hbb]; omega] at hy
      have HR := Lib.hid hR
      have hyg : W.heap.size < ((wr.setCell ⟨g, 1, none⟩ (.int .i64 (xl : Nat))).alloc (.cells #[.int .i64 (xl : Nat), .int .i64 (xr : Nat)] 76)).heap.size := by have := X1.out.size; simp; omega
      have hxg : wr.heap.size < ((wr.setCell ⟨g, 1, none⟩ (.int .i64 (xl : Nat))).alloc (.cells #[.int .i64 (xl : Nat), .int .i64 (xr : Nat)] 76)).heap.size := by simp
      have HBB2 := Lib.hid hbb
      have HOO2 := Lib.hid hoo
      have hbb0 : 1 ≤ bb ∧ bb ≤ 1025 := by omega
      obtain ⟨bb0, bb1⟩ := hbb0
      have hoo1 : oo ≤ 1073741824 := by omega
      have HNXT := Lib.hid (And.intro d2 (And.intro e2 (And.intro o4 hO')))
      have ho3 := o3
      clear hR hr hbb hoo hok2 hd2 hh2 hoR o1 o2 o3 o4 hoT d1 d2 e1 e2 hO' hlr SR OR JR JY HBB HOO HDR HHD HOK
      gi_wp2_with (fail)
      clear b0 b1 b2 b3 f1 p0 p1
      refine HR.out.mono ?_
      rintro e5 W3 (⟨rfl, hJ3, hk3⟩ | ⟨rfl, hJx3⟩)
      · have Y3 := Lib.hid ((hk3.2 g (by omega) (blk_lt Y1.out)).trans Y1.out)
        have Z3 := Lib.hid ((hk3.2 wr.heap.size hWs hxg).trans Z1.out)
        have T3 := Lib.hid ((hk3.2 W.heap.size (Nat.le_refl _) hyg).trans T1.out)
        have OX3 := Lib.hid (OX.out.stays hk3 (by omega))
        have J3 := Lib.hid hJ3
        have hW3 : W.heap.size ≤ W3.heap.size := by have := hk3.1; omega
        clear hJ3 hk3 Y1 Z1 T1 OX X1 HR
        have SY := Y3.out
        simp only [List.setIfInBounds_toArray, List.set_cons_zero, List.set_cons_succ] at SY
        have Y4 := Lib.hid SY
        clear SY Y3
        have y0 := blk_cell Y4.out 0
        have y2 := blk_cell Y4.out 2
        have y3 := blk_cell Y4.out 3
        have f0 := blk_free Y4.out 0
        have f2 := blk_free Y4.out 2
        have f3 := blk_free Y4.out 3
        have z0 := blk_cell Z3.out 0
        have z1 := blk_cell Z3.out 1
        have hc0 := blk_set Y4.out 0 (.int .i64 (xr : Nat))
        simp only [List.setIfInBounds_toArray, List.set_cons_zero] at hc0
        have hc1 := blk_set hc0 2 (.int .i64 (bb - 1))
        simp only [List.setIfInBounds_toArray, List.set_cons_zero, List.set_cons_succ] at hc1
        have SF := blk_set hc1 3 (.int .i64 (oo - ((xr : Int) - (xl : Int))))
        simp only [List.setIfInBounds_toArray, List.set_cons_zero, List.set_cons_succ] at SF
        have SFG : (W3).grownBy ((((W3).setCell ⟨g, 0, none⟩ (.int .i64 (xr : Nat))).setCell ⟨g, 2, none⟩ (.int .i64 (bb - 1))).setCell ⟨g, 3, none⟩ (.int .i64 (oo - ((xr : Int) - (xl : Int))))) (some g) := gr_trans (gr_trans (gr_set _ g 0 _) (gr_set _ g 2 _)) (gr_set _ g 3 _)
        have SF1 := Lib.hid SF
        have GF1 := Lib.hid SFG
        clear SF SFG hc0 hc1
        gi_wp2_with (fail)
        go_roundw
        case rel =>
          obtain ⟨n1, n2, n3, n4⟩ := HNXT.out
          have hgr1 := GF1.out
          have hbl : Below W.heap.size W3 ((((W3).setCell ⟨g, 0, none⟩ (.int .i64 (xr : Nat))).setCell ⟨g, 2, none⟩ (.int .i64 (bb - 1))).setCell ⟨g, 3, none⟩ (.int .i64 (oo - ((xr : Int) - (xl : Int))))) := (Below.refl W.heap.size W3).grown hgr1 hW3 (fun q h => by have := Option.some.inj h; omega)
          exact ⟨k + 1, xr, rest', xl, bb - 1, oo - ((xr : Int) - (xl : Int)), by omega, by go_num, o2', ho3, Lib.hid (by rw [HBB2.out]; omega), Lib.hid (by rw [HOO2.out, n4]; omega), Lib.hid n1, Lib.hid n2, Lib.hid n3, SF1.out, (hgr1.block _ (blk_lt T3.out) (fun h => by have := Option.some.inj h; omega)).trans T3.out, OX3.out.grown hgr1 (fun q h => by have h2 := HAG.out q h; intro h3; have := Option.some.inj h3; omega), by have := hbl.size; omega, HJ.out (k + 1) W3 _ J3.out hbl⟩
        case measure => simp [intOf]; omega
      · have HJ3 := Lib.hid hJx3
        clear hJx3
        gi_wp2
        refine bodyPost_ret (results_none rfl _ _ _) rfl ?_
        exact ⟨⟨_, rfl⟩, .inr HJ3.out⟩
    case neg =>
      obtain rfl : k = bs.length := by omega
      have hr : rest = [] := by
        rw [← HDR.out]
        exact List.drop_of_length_le (by rw [HSL.out]; omega)
      have hh2 := HHD.out
      rw [hr] at hh2
      obtain ⟨e1, e2⟩ := drop_get (show (hol st 0 sp).drop bs.length = ⟨e, st, 0, 0⟩ :: [] from hh2)
      have hbb : bb = 0 := by rw [HBB.out, hr]; rfl
      have hoo : oo = 0 := by rw [HOO.out, hr]; rfl
      subst hbb
      subst hoo
      have E1 := Lib.hid e1
      clear e1 e2 hh2 hr HBB HOO HDR HHD HOK
      have b0 := blk_cell SR.out 0
      have b1 := blk_cell SR.out 1
      have b2 := blk_cell SR.out 2
      have b3 := blk_cell SR.out 3
      gi_wp2_with (fail)
      refine ⟨trivial, ?_⟩
      refine (callsIn_wide.2 (HPL.out wr)).mono ?_
      rintro e5 V5 ⟨rfl, hB5⟩
      have BR5 := Lib.hid ((hB5.block _ hgl).trans BR.out)
      have hbl5 := Lib.hid (hB5.mono hWs)
      have J5 := Lib.hid (HJ.out bs.length wr V5 JR.out hbl5.out)
      clear hB5 b0 b1 b2 b3 BR SR JR
      have y0 := blk_cell BR5.out 0
      have y1 := blk_cell BR5.out 1
      have y2 := blk_cell BR5.out 2
      have y3 := blk_cell BR5.out 3
      have f1 := blk_free BR5.out 1
      have hbl6 : Below W.heap.size V5 (V5.setCell ⟨g, 1, none⟩ (.int .i64 (st : Nat))) := (Below.refl W.heap.size V5).setCell (p := ⟨g, 1, none⟩) (by show W.heap.size ≤ g; omega) _
      have JY := HJ.out bs.length V5 _ J5.out hbl6
      obtain ⟨fn, tmps, assign, body, hy, hR⟩ := HY.out bs.length _ _ E1.out JY (by have := hbl6.size; have := hbl5.out.size; omega)
      unfold encH at hy
      dsimp only at hy
      rw [show ((0 : Nat) : Int) = 0 from rfl] at hy
      have HR := Lib.hid hR
      clear hR JY hbl6
      gi_wp2_with (fail)
      refine HR.out.mono ?_
      rintro e5 W3 (⟨rfl, hJ3, _⟩ | ⟨rfl, hJx3⟩)
      · have HJ3 := Lib.hid hJ3
        clear hJ3
        gi_wp2
        go_end0
        exact ⟨⟨_, rfl⟩, .inl (by rw [HLEN.out, HSL.out]; exact HJ3.out)⟩
      · have HJ3 := Lib.hid hJx3
        clear hJx3
        gi_wp2
        go_end0
        exact ⟨⟨_, rfl⟩, .inr HJ3.out⟩
end Go.Proofs.Ytcachmjcninkbaa
