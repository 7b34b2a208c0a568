/- For every first number, segment's size and list of steps, of at most 1048576 letters and values together: the state may be, and what was acknowledged or is in a block is neither lost nor told to be sent again. On the condition of the upto form. -/
import Derived.Test.YtcachmjcninkbaaRows
import Derived.Test.YtcachmjcninkbaaScKm
import Derived.Test.YtcachmjcninkbaaGStep17
import Derived.Test.YtcachmjcninkbaaGAgg
import Derived.Deep.DeepCutAuto
import Derived.RegionTactic
import Derived.Deep.RegionHeld3
import Derived.BigQuiet
import Derived.Lib.QuietBelow
import Derived.Deep.CutBlock
import Derived.ProofKit
import Derived.OpenShut
import Derived.ChangeOld
import Derived.SizedLaws
namespace Go.Proofs.Ytcachmjcninkbaa.scoreboardKeeps
open Go.ChangeShapes Go.WideShapes Go.ChangeAt Go.RowKit Go.Deep Go.Proofs.Ytcachmjcninkbaa Go.Sort Go.BigFrame

theorem bk_sts {w : World} {a : Option Addr} {xs : List Bk} (h : Sts 2 Bk.cells Bk.ok w a xs) : Sts 2 BC Tr w a (xs.map fun r => (r.left, r.right)) ∧ small2 (xs.map fun r => (r.left, r.right)) := by
  refine ⟨⟨fun _ _ => trivial, ?_⟩, ?_⟩
  · rcases h.2 with h0 | ⟨b, off, e, hb, hc⟩
    · left; rw [h0]; rfl
    · right
      refine ⟨b, off, e, hb, fun i r hr j v hv => ?_⟩
      rw [List.getElem?_map, Option.map_eq_some_iff] at hr
      obtain ⟨q, hq, rfl⟩ := hr
      exact hc i q hq j v hv
  · intro x hx
    obtain ⟨r, hr, rfl⟩ := List.mem_map.1 hx
    exact h.1 r hr
set_option maxHeartbeats 400000 in
theorem new_any (x : Nat) (w : World) : Calls Try.prog 27 #[.int .u32 (x : Nat)] w fun e w' => e = .returned (.agg #[.int .u32 (x : Nat), .int .u32 (x : Nat), .int .u32 (x : Nat), .slice none 0 0]) ∧ Below w.heap.size w w' := by
  have Q0 := Lib.hid ((Below.refl w.heap.size w).alloc (Nat.le_refl _) (.cells #[.int .u32 0, .int .u32 0, .int .u32 0, .slice none 0 0] 26))
  have Z0 := Lib.hid (blk_new w (.cells #[.int .u32 0, .int .u32 0, .int .u32 0, .slice none 0 0] 26))
  go_enter Try.func27, Try.ntmps27
  go_upto_region 1 with fail
  generalize w.alloc (.cells #[.int .u32 0, .int .u32 0, .int .u32 0, .slice none 0 0] 26) = V0 at Q0 Z0 ⊢
  go_wp2_with (first
    | ((with_reducible show wpList _ _ _ _ _ _); refine wpList_store_blk rowPS (t := 26) (w := V0) rfl (.tmp 2) (.tmp 6) rfl w.heap.size #[.int .u32 0, .int .u32 0, .int .u32 0, .slice none 0 0] #[.int .u32 (x : Nat), .int .u32 (x : Nat), .int .u32 (x : Nat), .slice none 0 0] rfl rfl Z0.out rfl rfl (by simp [Value.oneCell']) ?_; intro V7 hb7 hg7; have ZB7 := Lib.hid hb7; have Q7 := Lib.hid (Q0.out.grown hg7 Q0.out.size (fun k e => by have := Option.some.inj e; omega)); clear hb7 hg7)
    | fail)
  refine bodyPost_ret (results_c rowPS rfl _ _ w.heap.size _ rfl ZB7.out rfl) rfl ⟨rfl, Q7.out⟩
theorem oU_lt {E : Int} {u : Nat} (h : u < 4294967296) : oU E u < 4294967296 := by unfold oU; split <;> omega
theorem oL_sm {E : Int} {l : List (Nat × Nat)} (h : small2 l) : small2 (oL E l) := by
  unfold oL; split
  · exact h
  · intro _ h; cases h
def addB (u : Nat) (x : Nat × Nat) : Nat × Nat := ((u + x.1) % 4294967296, (u + x.2) % 4294967296)
theorem addB_small (u : Nat) (l : List (Nat × Nat)) : small2 (l.map (addB u)) := by
  intro y hy
  obtain ⟨x, _, rfl⟩ := List.mem_map.1 hy
  exact ⟨Nat.mod_lt _ (by decide), Nat.mod_lt _ (by decide)⟩
theorem new_ok (x : Nat) (hx : x < 4294967296) : okS x x x [] = true := okS_iff.2 ⟨by rw [pl_self hx]; omega, Nat.le_refl _, by simp, rfl⟩
theorem ack_inv {una nxt high : Nat} {bs : List (Nat × Nat)} {ack : Nat} {fs : List (Nat × Nat)} {E : Int} {u x hh : Nat} {l : List (Nat × Nat)} {n : Int} (hu : una < 4294967296) (hx : nxt < 4294967296) (ha : ack < 4294967296) (hf : small2 fs) (h : AckIs una nxt high bs ack fs E u x hh l n) :
    u < 4294967296 ∧ x < 4294967296 ∧ hh < 4294967296 ∧ (E = 0 → okS u x hh l = true) := by
  have h0 := h
  rcases h with ⟨_, _, h1, h2, h3, _⟩ | ⟨_, _, _, h1, h2, h3, _⟩ | ⟨_, _, _, h1, h2, h3, _⟩
  · exact ⟨by omega, by omega, by omega, fun e => by subst e; exact ack_next hu hx ha hf h0⟩
  · exact ⟨by omega, by omega, by omega, fun e => by subst e; exact ack_next hu hx ha hf h0⟩
  · exact ⟨by omega, by omega, by rw [h3]; exact Nat.mod_lt _ (by decide), fun e => by subst e; exact ack_next hu hx ha hf h0⟩
set_option maxRecDepth 100000 in
set_option maxHeartbeats 4000000 in
theorem walk (first : Nat) (ms0 : Int) (a : Option Addr) (rs : List Step17) (cap : Nat) (w : World) (hfi : first < 4294967296) (_ms_l : -9223372036854775808 ≤ ms0) (_ms_h : ms0 ≤ 9223372036854775807) (hx : Sts 4 Step17.cells Step17.ok w a rs) (_hn : a = none → cap = 0) (hre : rs.length ≤ 1048576) :
    Calls Try.prog 4 #[.int .u32 (first : Nat), .int .i64 ms0, .slice a rs.length cap] w fun e w' => e = .returned (.bool true) ∧ Below w.heap.size w w' := by
  have HX := Lib.hid hx
  have t1 := Int.tmod_lt_of_pos ms0 (show (0 : Int) < 1500 by decide)
  have t2 := Int.lt_tmod_of_pos ms0 (show (0 : Int) < 1500 by decide)
  obtain ⟨r, hr⟩ : ∃ r : Nat, (ms0.tmod 1500 + 1500) % 1500 = (r : Int) := ⟨((ms0.tmod 1500 + 1500) % 1500).toNat, by omega⟩
  have hrt : (ms0.tmod 1500 + 1500).tmod 1500 = (r : Int) := by rw [Int.tmod_eq_emod_of_nonneg (by omega)]; exact hr
  have hr3 : r < 1500 := by omega
  obtain ⟨M, hM⟩ : ∃ m : Int, 1 + (r : Int) = m := ⟨_, rfl⟩
  have hM1 : 1 ≤ M := by omega
  have hM2 : M ≤ 1500 := by omega
  have HM := Lib.hid (show 1 ≤ M ∧ M ≤ 65535 from ⟨hM1, by omega⟩)
  clear hx
  go_enter Try.func4, Try.ntmps4
  go_wp2_with fail
  refine (alive_any w).mono ?_
  rintro e V1 ⟨rfl, hB⟩
  have Q1 := Lib.hid hB
  clear hB
  go_wp2_with fail
  refine (new_any first V1).mono ?_
  rintro e V2 ⟨rfl, hB⟩
  have Q2 := Lib.hid (Q1.out.trans (hB.mono Q1.out.size))
  clear hB Q1 t1 t2 hr hrt hM
  go_upto_region 5 with fail
  have hb1 := (Below.refl V2.heap.size V2).alloc (Nat.le_refl _) (.cells #[.int .u32 (first : Nat), .int .u32 (first : Nat), .int .u32 (first : Nat), .slice none 0 0] 26)
  have S3 := Lib.hid (blk_new V2 (.cells #[.int .u32 (first : Nat), .int .u32 (first : Nat), .int .u32 (first : Nat), .slice none 0 0] 26))
  have hgw := Q2.out.size
  have Q3 := Lib.hid (Q2.out.trans (hb1.mono Q2.out.size))
  clear hb1 Q2
  obtain ⟨gs, hgs⟩ : ∃ q, V2.heap.size = q := ⟨_, rfl⟩
  generalize V2.alloc (.cells #[.int .u32 (first : Nat), .int .u32 (first : Nat), .int .u32 (first : Nat), .slice none 0 0] 26) = V3 at S3 Q3 ⊢
  rw [hgs] at S3 hgw ⊢
  clear hgs
  go_wp2_with fail
  go_loopw [8] (fun iv wr => ∃ (i U X hh : Nat) (l : List (Nat × Nat)) (p : Option Addr) (k : Nat), i ≤ rs.length ∧ iv = .int .i64 i ∧ U < 4294967296 ∧ X < 4294967296 ∧ hh < 4294967296 ∧ Hid (okS U X hh l = true) ∧ Hid (small2 l) ∧ wr.heap[gs]? = some (.cells #[.int .u32 (U : Nat), .int .u32 (X : Nat), .int .u32 (hh : Nat), .slice p l.length k] 26 (0, 0)) ∧ OwnR 38 2 BC 0 p l k wr ∧ Hid (∀ q, (Value.slice p l.length k).ownBlock = some q → q ≠ gs) ∧ Below w.heap.size w wr) (fun iv _ => rs.length - (intOf iv).toNat)
  case atStart => exact ⟨0, first, first, first, [], none, 0, by omega, rfl, hfi, hfi, hfi, Lib.hid (new_ok first hfi), Lib.hid (fun _ h => by cases h), S3.out, ownR_nil _ _ _ _ _, Lib.hid (fun q e => by cases e), Q3.out⟩
  case round =>
    obtain ⟨i, U, X, hh, l, p, k, hi9, rfl, hUb, hXb, hhb, HOK, HSL, hS, hO, HPG, hq⟩ := hrel
    have SR := Lib.hid hS
    have OR := Lib.hid hO
    have QR := Lib.hid hq
    have hgr := blk_lt hS
    clear hS hO hq S3 Q3
    by_cases hlt : i < rs.length
    case neg =>
      have i1 : ¬ ((i : Int) < (rs.length : Int)) := by omega
      go_wp2
      go_ret
      exact ⟨rfl, QR.out⟩
    case pos =>
    have i1 : (i : Int) < (rs.length : Int) := by omega
    obtain ⟨xb, xo, rfl, hxb, hxc⟩ : ∃ b off, a = some ⟨b, off, none⟩ ∧ b < w.heap.size ∧ ∀ (i : Nat) (r : Step17), rs[i]? = some r → ∀ (j : Nat) (v : Value), (Step17.cells r)[j]? = some v → w.cell? ⟨b, off + i * 4 + j, none⟩ = some v := by
      rcases HX.out.2 with h | h
      · rw [h] at hlt; simp at hlt
      · exact h
    obtain ⟨st, hst⟩ : ∃ r, rs[i]? = some r := ⟨_, List.getElem?_eq_getElem hlt⟩
    obtain ⟨⟨w0, w1⟩, ⟨n0, n1⟩, hackb, hbl, hbn, _, _, hbl2⟩ := HX.out.1 st (List.mem_of_getElem? hst)
    have k0 := (QR.out.cell (p := ⟨xb, xo + i * 4, none⟩) hxb).trans (hxc i st hst 0 _ rfl)
    have k1 := (QR.out.cell (p := ⟨xb, xo + i * 4 + 1, none⟩) hxb).trans (hxc i st hst 1 _ rfl)
    have k2 := (QR.out.cell (p := ⟨xb, xo + i * 4 + 2, none⟩) hxb).trans (hxc i st hst 2 _ rfl)
    have k3 := (QR.out.cell (p := ⟨xb, xo + i * 4 + 3, none⟩) hxb).trans (hxc i st hst 3 _ rfl)
    obtain ⟨hf, hfs⟩ := bk_sts hbl
    obtain ⟨fs, hfq⟩ : ∃ z, st.bl.map (fun r => (r.left, r.right)) = z := ⟨_, rfl⟩
    have hfl : st.bl.length = fs.length := by rw [← hfq, List.length_map]
    rw [hfq] at hf hfs
    rw [hfl] at hbl2 k3
    obtain ⟨wh, hwh⟩ : ∃ z, st.what = z := ⟨_, rfl⟩
    obtain ⟨sn, hsn⟩ : ∃ z, st.n = z := ⟨_, rfl⟩
    obtain ⟨sa, hsa⟩ : ∃ z, st.ack = z := ⟨_, rfl⟩
    obtain ⟨ba, hba⟩ : ∃ z, st.bl_a = z := ⟨_, rfl⟩
    obtain ⟨bc, hbc⟩ : ∃ z, st.bl_c = z := ⟨_, rfl⟩
    rw [hwh] at k0 w0 w1
    rw [hsn] at k1 n0 n1
    rw [hsa] at k2 hackb
    rw [hba, hbc] at k3 hbn
    rw [hba] at hf
    have HF := Lib.hid (Sts.belowT hf QR.out)
    have HFS := Lib.hid hfs
    have HBN := Lib.hid hbn
    clear hxc hst hbl hf hfs hfq hfl hwh hsn hsa hba hbc hbn
    go_upto_region 9 with fail
    have hb1 := (Below.refl wr.heap.size wr).alloc (Nat.le_refl _) (.cells #[.int .i64 wh, .int .i64 sn, .int .u32 (sa : Nat), .slice ba fs.length bc] 60)
    have X2 := Lib.hid (blk_new wr (.cells #[.int .i64 wh, .int .i64 sn, .int .u32 (sa : Nat), .slice ba fs.length bc] 60))
    have S2 := Lib.hid ((hb1.block _ hgr).trans SR.out)
    have O2 := Lib.hid (OR.out.below hb1)
    have F2 := Lib.hid (Sts.belowT HF.out hb1)
    have Q2 := Lib.hid (QR.out.trans (hb1.mono QR.out.size))
    clear hb1 k0 k1 k2 k3 SR OR QR HF
    obtain ⟨gx, hgx⟩ : ∃ q, wr.heap.size = q := ⟨_, rfl⟩
    generalize wr.alloc (.cells #[.int .i64 wh, .int .i64 sn, .int .u32 (sa : Nat), .slice ba fs.length bc] 60) = V2 at X2 S2 O2 F2 Q2 ⊢
    rw [hgx] at X2 hgr ⊢
    clear hgx
    have s0 := blk_cell S2.out 0
    have s1 := blk_cell S2.out 1
    have s2 := blk_cell S2.out 2
    have s3 := blk_cell S2.out 3
    go_upto_region 10 with fail
    have hb1 := (Below.refl V2.heap.size V2).alloc (Nat.le_refl _) (.cells #[.int .u32 (U : Nat), .int .u32 (X : Nat), .int .u32 (hh : Nat), .slice p l.length k] 26)
    have T3 := Lib.hid (blk_new V2 (.cells #[.int .u32 (U : Nat), .int .u32 (X : Nat), .int .u32 (hh : Nat), .slice p l.length k] 26))
    have X3 := Lib.hid ((hb1.block _ (blk_lt X2.out)).trans X2.out)
    have S3 := Lib.hid ((hb1.block _ (blk_lt S2.out)).trans S2.out)
    have O3 := Lib.hid (O2.out.below hb1)
    have F3 := Lib.hid (Sts.belowT F2.out hb1)
    have HPT := Lib.hid (fun q (e : (Value.slice p l.length k).ownBlock = some q) => (O2.out.ownB q e).2)
    have hgxt := blk_lt X2.out
    have hgw2 := Q2.out.size
    have Q3 := Lib.hid (Q2.out.trans (hb1.mono Q2.out.size))
    clear hb1 s0 s1 s2 s3 X2 S2 O2 F2 Q2
    obtain ⟨gt, hgt⟩ : ∃ q, V2.heap.size = q := ⟨_, rfl⟩
    generalize V2.alloc (.cells #[.int .u32 (U : Nat), .int .u32 (X : Nat), .int .u32 (hh : Nat), .slice p l.length k] 26) = V3 at T3 X3 S3 O3 F3 Q3 ⊢
    rw [hgt] at T3 HPT hgxt hgw2 ⊢
    clear hgt
    have x0 := blk_cell X3.out 0
    have hgt3 := blk_lt T3.out
    have hgsx : gs ≠ gt := by omega
    go_upto_block 2 with fail
    clear x0
    go_cut [11] (fun (ev : Value) (wx : World) => ∃ (E : Int) (tu tx th : Nat) (tl : List (Nat × Nat)) (tp : Option Addr) (tk : Nat), ev = .int .i64 E ∧ tu < 4294967296 ∧ tx < 4294967296 ∧ th < 4294967296 ∧ Hid (E = 0 → okS tu tx th tl = true) ∧ Hid (small2 tl) ∧ wx.heap[gt]? = some (.cells #[.int .u32 (tu : Nat), .int .u32 (tx : Nat), .int .u32 (th : Nat), .slice tp tl.length tk] 26 (0, 0)) ∧ wx.heap[gs]? = some (.cells #[.int .u32 (U : Nat), .int .u32 (X : Nat), .int .u32 (hh : Nat), .slice p l.length k] 26 (0, 0)) ∧ OwnR 38 2 BC 0 tp tl tk wx ∧ Hid (∀ q, (Value.slice tp tl.length tk).ownBlock = some q → q ≠ gs) ∧ OwnR 38 2 BC 0 p l k wx ∧ Below w.heap.size w wx)
    case first =>
      by_cases q0 : wh = 0
      case pos =>
        subst q0
        have x0 := blk_cell X3.out 0
        have x1 := blk_cell X3.out 1
        have x2 := blk_cell X3.out 2
        have x3 := blk_cell X3.out 3
        have s0 := blk_cell S3.out 0
        have s1 := blk_cell S3.out 1
        have s2 := blk_cell S3.out 2
        have s3 := blk_cell S3.out 3
        obtain ⟨E, hE⟩ : ∃ z, snE U X hh l sn = z := ⟨_, rfl⟩
        have PS := psent_own U X hh p l k sn V3 hUb (O3.out.sts encB) O3.out.nilcap (by have := (okS_iff.1 HOK.out).2.2.1; omega)
        unfold FOwn at PS
        rw [hE] at PS
        have hok : E = 0 → okS (oU E U) (oU E ((X + sn.toNat) % 4294967296)) (oU E hh) (oL E l) = true := fun h => by
          rw [oU0 h, oU0 h, oU0 h, oL0 h]; exact sent_next (by rw [hE]; exact h)
        have hb1 := oU_lt (E := E) hUb
        have hb2 := oU_lt (E := E) (Nat.mod_lt (X + sn.toNat) (show 0 < 4294967296 by decide))
        have hb3 := oU_lt (E := E) hhb
        have HSO := Lib.hid (oL_sm (E := E) HSL.out)
        obtain ⟨tu, htu⟩ : ∃ z, oU E U = z := ⟨_, rfl⟩
        obtain ⟨tx, htx⟩ : ∃ z, oU E ((X + sn.toNat) % 4294967296) = z := ⟨_, rfl⟩
        obtain ⟨th, hth⟩ : ∃ z, oU E hh = z := ⟨_, rfl⟩
        obtain ⟨tl, htl⟩ : ∃ z, oL E l = z := ⟨_, rfl⟩
        rw [htu] at hok hb1 PS
        rw [htx] at hok hb2 PS
        rw [hth] at hok hb3 PS
        rw [htl] at hok HSO PS
        have HK := Lib.hid hok
        have HPS := Lib.hid PS
        clear hE hok PS htu htx hth htl
        go_wp2_with fail
        refine HPS.out.mono ?_
        rintro e V4 ⟨⟨a4, c4, rfl, hO⟩, hB⟩
        have N4 := Lib.hid hO
        have SS := Lib.hid ((hB.block _ (blk_lt S3.out)).trans S3.out)
        have TT := Lib.hid ((hB.block _ (blk_lt T3.out)).trans T3.out)
        have OO := Lib.hid (O3.out.below hB)
        have QQ := Lib.hid (Q3.out.trans (hB.mono Q3.out.size))
        clear hO hB x0 x1 x2 x3 s0 s1 s2 s3
        go_wp2_with (first
          | ((with_reducible show wpList _ _ _ _ _ _); refine wpList_store_blk rowPS (t := 26) (w := V4) rfl (.tmp 10) (.tmp 49) rfl gt #[.int .u32 (U : Nat), .int .u32 (X : Nat), .int .u32 (hh : Nat), .slice p l.length k] #[.int .u32 (tu : Nat), .int .u32 (tx : Nat), .int .u32 (th : Nat), .slice a4 tl.length c4] rfl rfl TT.out rfl rfl (by simp [Value.oneCell']) ?_; intro V9 hb9 hg9; have TB9 := Lib.hid hb9; have G9 := Lib.hid hg9; clear hb9 hg9)
          | fail)
        go_meet
        exact ⟨E, tu, tx, th, tl, a4, c4, rfl, hb1, hb2, hb3, Lib.hid (HK.out), Lib.hid (HSO.out), TB9.out, (G9.out.block gs (blk_lt SS.out) (fun e => by have := Option.some.inj e; omega)).trans SS.out, (N4.out.grown G9.out (fun q e e2 => by have h1 := (N4.out.ownB q (by rw [e]; rfl)).1; have := Option.some.inj e2; omega)).mono (Nat.zero_le _), Lib.hid (fun q e => by have h1 := (N4.out.ownB q e).1; have := blk_lt S3.out; omega), OO.out.grown G9.out (fun q e e2 => by have h1 := HPT.out q (by rw [e]; rfl); have := Option.some.inj e2; omega), QQ.out.grown G9.out QQ.out.size (fun q e => by have := Option.some.inj e; omega)⟩
      case neg =>
      have q0' : (wh == 0) = false := by simpa using q0
      by_cases q1 : wh = 1
      case pos =>
        subst q1
        go_upto_region 16 with fail
        have hgx3 := blk_lt X3.out
        have hgs3 := blk_lt S3.out
        go_wp2_with fail
        go_loopw [13, 12] (fun jv bv wq => ∃ (j : Nat) (out : List (Nat × Nat)) (bp : Option Addr) (bk : Nat), j ≤ fs.length ∧ jv = .int .i64 j ∧ bv = .slice bp out.length bk ∧ Hid ((fs.take j).map (addB U) = out) ∧ OwnR 38 2 BC V3.heap.size bp out bk wq ∧ Below V3.heap.size V3 wq) (fun jv _ _ => fs.length - (intOf jv).toNat)
        case atStart => exact ⟨0, [], none, 0, by omega, rfl, rfl, Lib.hid rfl, ownR_nil _ _ _ _ _, Below.refl _ _⟩
        case round =>
          obtain ⟨j, out, bp, bk, hj, rfl, rfl, HOUT, hO, hB⟩ := hrel
          obtain ⟨V6, hVV⟩ : ∃ V, V = wr := ⟨_, rfl⟩
          subst hVV
          have O6 := Lib.hid hO
          have B6 := Lib.hid hB
          have X6 := Lib.hid ((hB.block _ hgx3).trans X3.out)
          have S6 := Lib.hid ((hB.block _ hgs3).trans S3.out)
          clear hO hB
          have hol : out.length ≤ 1048576 := by rw [← HOUT.out, List.length_map, List.length_take]; omega
          by_cases hlj : j < fs.length
          case pos =>
            have j1 : (j : Int) < (fs.length : Int) := by omega
            obtain ⟨x, hx⟩ : ∃ x, fs[j]? = some x := ⟨_, List.getElem?_eq_getElem hlj⟩
            obtain ⟨g7, o7, rfl, _, _⟩ := F3.out.isSomeT (by omega)
            obtain ⟨hg73, p0, p1⟩ := b_at F3.out hx
            have m0 := (B6.out.cell (p := ⟨g7, o7 + j * 2, none⟩) hg73).trans p0
            have m1 := (B6.out.cell (p := ⟨g7, o7 + j * 2 + 1, none⟩) hg73).trans p1
            have HNX : Hid ((fs.take (j + 1)).map (addB U) = out ++ [addB U x]) := Lib.hid (by rw [List.take_add_one, hx]; show ((fs.take j ++ [x]).map (addB U)) = _; rw [List.map_append, HOUT.out]; rfl)
            obtain ⟨xl, hxl⟩ : ∃ z, x.1 = z := ⟨_, rfl⟩
            obtain ⟨xr, hxr⟩ : ∃ z, x.2 = z := ⟨_, rfl⟩
            have hbx : addB U x = ((U + xl) % 4294967296, (U + xr) % 4294967296) := by unfold addB; rw [hxl, hxr]
            rw [hxl] at m0
            rw [hxr] at m1
            rw [hbx] at HNX
            obtain ⟨yl, hyl⟩ : ∃ z, (U + xl) % 4294967296 = z := ⟨_, rfl⟩
            obtain ⟨yr, hyr⟩ : ∃ z, (U + xr) % 4294967296 = z := ⟨_, rfl⟩
            rw [hyl, hyr] at HNX
            have e1 : IntKind.u32.wrap ((U : Int) + (xl : Int)) = (yl : Int) := by rw [IntKind.wrap_u32]; omega
            have e2 : IntKind.u32.wrap ((U : Int) + (xr : Int)) = (yr : Int) := by rw [IntKind.wrap_u32]; omega
            have e3 : ((U : Int) + (xl : Int)) % 4294967296 = (yl : Int) := by omega
            have e4 : ((U : Int) + (xr : Int)) % 4294967296 = (yr : Int) := by omega
            have x3 := blk_cell X6.out 3
            clear hxl hxr hbx hx p0 p1 HOUT hyl hyr
            go_upto_region 18 with fail
            clear x3
            refine wp_region_until (S := fun W => (W.heap[gx]? = some (.cells #[.int .i64 1, .int .i64 sn, .int .u32 (sa : Nat), .slice (some ⟨g7, o7, none⟩) fs.length bc] 60 (0, 0)) ∧ W.heap[gs]? = some (.cells #[.int .u32 (U : Nat), .int .u32 (X : Nat), .int .u32 (hh : Nat), .slice p l.length k] 26 (0, 0)) ∧ W.cell? ⟨g7, o7 + j * 2, none⟩ = some (.int .u32 (xl : Nat)) ∧ W.cell? ⟨g7, o7 + j * 2 + 1, none⟩ = some (.int .u32 (xr : Nat)))) 22 (by kernel_rfl) ⟨blk_drew X6.out, blk_drew S6.out, m0, m1⟩ (fun hHeld => ?_)
            clear m0 m1
            refine wpAnyU_take (i := 0) (oi := _) (v := ?_) rfl (by kernel_rfl) (by kernel_rfl) (by kernel_rfl) (by kernel_rfl) (fun _ _ _ h => h) (Or.inl ⟨by rfl, ?_⟩) (by assumption) ?_
            rotate_left
            · intro w5 hSw
              clear hSw
              go_simp
              all_goals with_reducible rfl
            (try simp only [List.getElem_toArray]); (try simp only [List.getElem_cons_succ]); (try simp only [List.getElem_cons_zero]); try simp only [Act.put, List.setIfInBounds_toArray, List.set_cons_zero, List.set_cons_succ]
            refine wpAnyU_take (i := 1) (oi := _) (v := ?_) rfl (by kernel_rfl) (by kernel_rfl) (by kernel_rfl) (by kernel_rfl) (fun _ _ _ h => h) (Or.inl ⟨by rfl, ?_⟩) (by assumption) ?_
            rotate_left
            · intro w5 hSw
              clear hSw
              go_simp
              all_goals with_reducible rfl
            (try simp only [List.getElem_toArray]); (try simp only [List.getElem_cons_succ]); (try simp only [List.getElem_cons_zero]); try simp only [Act.put, List.setIfInBounds_toArray, List.set_cons_zero, List.set_cons_succ]
            refine wpAnyU_take (i := 2) (oi := _) (v := ?_) rfl (by kernel_rfl) (by kernel_rfl) (by kernel_rfl) (by kernel_rfl) (fun _ _ _ h => h) (Or.inl ⟨by rfl, ?_⟩) (by assumption) ?_
            rotate_left
            · intro w5 hSw
              have s0 := blk_cell hSw.2.1 0
              clear hSw
              go_simp
              all_goals with_reducible rfl
            (try simp only [List.getElem_toArray]); (try simp only [List.getElem_cons_succ]); (try simp only [List.getElem_cons_zero]); try simp only [Act.put, List.setIfInBounds_toArray, List.set_cons_zero, List.set_cons_succ]
            refine wpAnyU_take (i := 3) (oi := _) (v := ?_) rfl (by kernel_rfl) (by kernel_rfl) (by kernel_rfl) (by kernel_rfl) (fun _ _ _ h => h) (Or.inl ⟨by rfl, ?_⟩) (by assumption) ?_
            rotate_left
            · intro w5 hSw
              clear hSw
              go_simp
              all_goals with_reducible rfl
            (try simp only [List.getElem_toArray]); (try simp only [List.getElem_cons_succ]); (try simp only [List.getElem_cons_zero]); try simp only [Act.put, List.setIfInBounds_toArray, List.set_cons_zero, List.set_cons_succ]
            refine wpAnyU_take (i := 4) (oi := _) (v := ?_) rfl (by kernel_rfl) (by kernel_rfl) (by kernel_rfl) (by kernel_rfl) (fun _ _ _ h => h) (Or.inl ⟨by rfl, ?_⟩) (by assumption) ?_
            rotate_left
            · intro w5 hSw
              have x3 := blk_cell hSw.1 3
              clear hSw
              go_simp
              all_goals with_reducible rfl
            (try simp only [List.getElem_toArray]); (try simp only [List.getElem_cons_succ]); (try simp only [List.getElem_cons_zero]); try simp only [Act.put, List.setIfInBounds_toArray, List.set_cons_zero, List.set_cons_succ]
            refine wpAnyU_take (i := 5) (oi := _) (v := ?_) rfl (by kernel_rfl) (by kernel_rfl) (by kernel_rfl) (by kernel_rfl) (fun _ _ _ h => h) (Or.inl ⟨by rfl, ?_⟩) (by assumption) ?_
            rotate_left
            · intro w5 hSw
              clear hSw
              go_simp
              all_goals with_reducible rfl
            (try simp only [List.getElem_toArray]); (try simp only [List.getElem_cons_succ]); (try simp only [List.getElem_cons_zero]); try simp only [Act.put, List.setIfInBounds_toArray, List.set_cons_zero, List.set_cons_succ]
            refine wpAnyU_take (i := 6) (oi := _) (v := ?_) rfl (by kernel_rfl) (by kernel_rfl) (by kernel_rfl) (by kernel_rfl) (fun _ _ _ h => h) (Or.inl ⟨by rfl, ?_⟩) (by assumption) ?_
            rotate_left
            · intro w5 hSw
              clear hSw
              go_simp
              all_goals with_reducible rfl
            (try simp only [List.getElem_toArray]); (try simp only [List.getElem_cons_succ]); (try simp only [List.getElem_cons_zero]); try simp only [Act.put, List.setIfInBounds_toArray, List.set_cons_zero, List.set_cons_succ]
            refine wpAnyU_take (i := 7) (oi := _) (v := ?_) rfl (by kernel_rfl) (by kernel_rfl) (by kernel_rfl) (by kernel_rfl) (fun _ _ _ h => h) (Or.inl ⟨by rfl, ?_⟩) (by assumption) ?_
            rotate_left
            · intro w5 hSw
              clear hSw
              go_simp
              all_goals with_reducible rfl
            (try simp only [List.getElem_toArray]); (try simp only [List.getElem_cons_succ]); (try simp only [List.getElem_cons_zero]); try simp only [Act.put, List.setIfInBounds_toArray, List.set_cons_zero, List.set_cons_succ]
            refine wpAnyU_take (i := 8) (oi := _) (v := ?_) rfl (by kernel_rfl) (by kernel_rfl) (by kernel_rfl) (by kernel_rfl) (fun _ _ _ h => h) (Or.inl ⟨by rfl, ?_⟩) (by assumption) ?_
            rotate_left
            · intro w5 hSw
              have y0 := hSw.2.2.1
              clear hSw
              go_simp
              all_goals with_reducible rfl
            (try simp only [List.getElem_toArray]); (try simp only [List.getElem_cons_succ]); (try simp only [List.getElem_cons_zero]); try simp only [Act.put, List.setIfInBounds_toArray, List.set_cons_zero, List.set_cons_succ]
            refine wpAnyU_take (i := 9) (oi := _) (v := ?_) rfl (by kernel_rfl) (by kernel_rfl) (by kernel_rfl) (by kernel_rfl) (fun _ _ _ h => h) (Or.inl ⟨by rfl, ?_⟩) (by assumption) ?_
            rotate_left
            · intro w5 hSw
              clear hSw
              go_simp
              all_goals with_reducible rfl
            (try simp only [List.getElem_toArray]); (try simp only [List.getElem_cons_succ]); (try simp only [List.getElem_cons_zero]); try simp only [Act.put, List.setIfInBounds_toArray, List.set_cons_zero, List.set_cons_succ]
            refine wpAnyU_take (i := 10) (oi := _) (v := ?_) rfl (by kernel_rfl) (by kernel_rfl) (by kernel_rfl) (by kernel_rfl) (fun _ _ _ h => h) (Or.inl ⟨by rfl, ?_⟩) (by assumption) ?_
            rotate_left
            · intro w5 hSw
              clear hSw
              go_simp
              all_goals with_reducible rfl
            (try simp only [List.getElem_toArray]); (try simp only [List.getElem_cons_succ]); (try simp only [List.getElem_cons_zero]); try simp only [Act.put, List.setIfInBounds_toArray, List.set_cons_zero, List.set_cons_succ]
            refine wpAnyU_take (i := 11) (oi := _) (v := ?_) rfl (by kernel_rfl) (by kernel_rfl) (by kernel_rfl) (by kernel_rfl) (fun _ _ _ h => h) (Or.inl ⟨by rfl, ?_⟩) (by assumption) ?_
            rotate_left
            · intro w5 hSw
              have s0 := blk_cell hSw.2.1 0
              clear hSw
              go_simp
              all_goals with_reducible rfl
            (try simp only [List.getElem_toArray]); (try simp only [List.getElem_cons_succ]); (try simp only [List.getElem_cons_zero]); try simp only [Act.put, List.setIfInBounds_toArray, List.set_cons_zero, List.set_cons_succ]
            refine wpAnyU_take (i := 12) (oi := _) (v := ?_) rfl (by kernel_rfl) (by kernel_rfl) (by kernel_rfl) (by kernel_rfl) (fun _ _ _ h => h) (Or.inl ⟨by rfl, ?_⟩) (by assumption) ?_
            rotate_left
            · intro w5 hSw
              clear hSw
              go_simp
              all_goals with_reducible rfl
            (try simp only [List.getElem_toArray]); (try simp only [List.getElem_cons_succ]); (try simp only [List.getElem_cons_zero]); try simp only [Act.put, List.setIfInBounds_toArray, List.set_cons_zero, List.set_cons_succ]
            refine wpAnyU_take (i := 13) (oi := _) (v := ?_) rfl (by kernel_rfl) (by kernel_rfl) (by kernel_rfl) (by kernel_rfl) (fun _ _ _ h => h) (Or.inl ⟨by rfl, ?_⟩) (by assumption) ?_
            rotate_left
            · intro w5 hSw
              have x3 := blk_cell hSw.1 3
              clear hSw
              go_simp
              all_goals with_reducible rfl
            (try simp only [List.getElem_toArray]); (try simp only [List.getElem_cons_succ]); (try simp only [List.getElem_cons_zero]); try simp only [Act.put, List.setIfInBounds_toArray, List.set_cons_zero, List.set_cons_succ]
            refine wpAnyU_take (i := 14) (oi := _) (v := ?_) rfl (by kernel_rfl) (by kernel_rfl) (by kernel_rfl) (by kernel_rfl) (fun _ _ _ h => h) (Or.inl ⟨by rfl, ?_⟩) (by assumption) ?_
            rotate_left
            · intro w5 hSw
              clear hSw
              go_simp
              all_goals with_reducible rfl
            (try simp only [List.getElem_toArray]); (try simp only [List.getElem_cons_succ]); (try simp only [List.getElem_cons_zero]); try simp only [Act.put, List.setIfInBounds_toArray, List.set_cons_zero, List.set_cons_succ]
            refine wpAnyU_take (i := 15) (oi := _) (v := ?_) rfl (by kernel_rfl) (by kernel_rfl) (by kernel_rfl) (by kernel_rfl) (fun _ _ _ h => h) (Or.inl ⟨by rfl, ?_⟩) (by assumption) ?_
            rotate_left
            · intro w5 hSw
              clear hSw
              go_simp
              all_goals with_reducible rfl
            (try simp only [List.getElem_toArray]); (try simp only [List.getElem_cons_succ]); (try simp only [List.getElem_cons_zero]); try simp only [Act.put, List.setIfInBounds_toArray, List.set_cons_zero, List.set_cons_succ]
            refine wpAnyU_take (i := 16) (oi := _) (v := ?_) rfl (by kernel_rfl) (by kernel_rfl) (by kernel_rfl) (by kernel_rfl) (fun _ _ _ h => h) (Or.inl ⟨by rfl, ?_⟩) (by assumption) ?_
            rotate_left
            · intro w5 hSw
              clear hSw
              go_simp
              all_goals with_reducible rfl
            (try simp only [List.getElem_toArray]); (try simp only [List.getElem_cons_succ]); (try simp only [List.getElem_cons_zero]); try simp only [Act.put, List.setIfInBounds_toArray, List.set_cons_zero, List.set_cons_succ]
            refine wpAnyU_take (i := 17) (oi := _) (v := ?_) rfl (by kernel_rfl) (by kernel_rfl) (by kernel_rfl) (by kernel_rfl) (fun _ _ _ h => h) (Or.inl ⟨by rfl, ?_⟩) (by assumption) ?_
            rotate_left
            · intro w5 hSw
              have y1 := hSw.2.2.2
              clear hSw
              go_simp
              all_goals with_reducible rfl
            (try simp only [List.getElem_toArray]); (try simp only [List.getElem_cons_succ]); (try simp only [List.getElem_cons_zero]); try simp only [Act.put, List.setIfInBounds_toArray, List.set_cons_zero, List.set_cons_succ]
            refine wpAnyU_take (i := 18) (oi := _) (v := ?_) rfl (by kernel_rfl) (by kernel_rfl) (by kernel_rfl) (by kernel_rfl) (fun _ _ _ h => h) (Or.inl ⟨by rfl, ?_⟩) (by assumption) ?_
            rotate_left
            · intro w5 hSw
              clear hSw
              go_simp
              all_goals with_reducible rfl
            (try simp only [List.getElem_toArray]); (try simp only [List.getElem_cons_succ]); (try simp only [List.getElem_cons_zero]); try simp only [Act.put, List.setIfInBounds_toArray, List.set_cons_zero, List.set_cons_succ]
            refine wpAnyU_take (i := 19) (oi := _) (v := ?_) rfl (by kernel_rfl) (by kernel_rfl) (by kernel_rfl) (by kernel_rfl) (fun _ _ _ h => h) (Or.inl ⟨by rfl, ?_⟩) (by assumption) ?_
            rotate_left
            · intro w5 hSw
              clear hSw
              go_simp
              all_goals with_reducible rfl
            (try simp only [List.getElem_toArray]); (try simp only [List.getElem_cons_succ]); (try simp only [List.getElem_cons_zero]); try simp only [Act.put, List.setIfInBounds_toArray, List.set_cons_zero, List.set_cons_succ]
            have OD := Lib.hid (O6.out.below (Below.refl V6.heap.size V6).drew)
            have BD := Lib.hid (B6.out.drew)
            have BAL := Lib.hid ((Below.refl V6.drew.heap.size V6.drew).alloc (Nat.le_refl _) (.cells #[.int .u32 (yl : Nat), .int .u32 (yr : Nat)] 38))
            have hg7 : g7 < V6.drew.heap.size := World.block_lt_of_cell? _ _ hHeld.2.2.1
            refine wpAnyU_one (i := 20) (by kernel_rfl) rfl (fun K hK => ?_)
            (try simp only [List.getElem_toArray]); (try simp only [List.getElem_cons_succ]); (try simp only [List.getElem_cons_zero])
            go_simp
            refine hK.out _ _ ⟨(BAL.out.block _ (blk_lt hHeld.1)).trans hHeld.1, (BAL.out.block _ (blk_lt hHeld.2.1)).trans hHeld.2.1, (BAL.out.cell (p := ⟨g7, o7 + j * 2, none⟩) hg7).trans hHeld.2.2.1, (BAL.out.cell (p := ⟨g7, o7 + j * 2 + 1, none⟩) hg7).trans hHeld.2.2.2⟩ (fun hHeld => ?_)
            clear hK K
            (try simp only [List.getElem_toArray]); (try simp only [List.getElem_cons_succ]); (try simp only [List.getElem_cons_zero]); try simp only [Act.put, List.setIfInBounds_toArray, List.set_cons_zero, List.set_cons_succ]
            have hB7 := BAL.out.size
            refine wpAnyU_one (i := 21) (by kernel_rfl) rfl (fun K hK => ?_)
            (try simp only [List.getElem_toArray]); (try simp only [List.getElem_cons_succ]); (try simp only [List.getElem_cons_zero])
            refine step_append_r (act := ⟨_, _⟩) (w := V6.drew.alloc (.cells #[.int .u32 (yl : Nat), .int .u32 (yr : Nat)] 38)) (t := 23) (e := 38) (z := .agg #[.int .u32 0, .int .u32 0]) (m := 2) (bz := 8) (cells := BC) (xs := out) (ys := [(yl, yr)]) (cap := bk) (dap := 1) (n := 1) (a := bp) (b := some ⟨V6.drew.heap.size, 0, none⟩) ?_ elemBk encB (.tmp 60) (.tmp 80) ?_ V3.heap.size ?_ (OD.out.below BAL.out) (sts_new encB V6.drew [(yl, yr)] 38 (0, 0)) (fun e => by cases e) ?_ ?_ (by simp only [List.length_cons, List.length_nil]; omega) (by unfold maxLen; simp only [List.length_cons, List.length_nil]; omega) (by have := BD.out.size; omega) ?_
            · rfl
            · rfl
            · rfl
            · rfl
            · rfl
            intro a5 c5 V5 O5 b5 g5
            have O5h := Lib.hid O5
            have B5h := Lib.hid b5
            clear O5 b5 g5
            refine hK.out _ _ ⟨(B5h.out.block _ hgx3).trans hHeld.1, (B5h.out.block _ hgs3).trans hHeld.2.1, (B5h.out.cell (p := ⟨g7, o7 + j * 2, none⟩) hg73).trans hHeld.2.2.1, (B5h.out.cell (p := ⟨g7, o7 + j * 2 + 1, none⟩) hg73).trans hHeld.2.2.2⟩ (fun hHeld => ?_)
            clear hK K
            try simp only [Act.put, List.setIfInBounds_toArray, List.set_cons_zero, List.set_cons_succ]
            generalize out ++ [(yl, yr)] = out2 at O5h HNX ⊢
            refine wpAnyU_last (by kernel_rfl) rfl (fun K hK => ?_)
            (try simp only [List.getElem_toArray]); (try simp only [List.getElem_cons_succ]); (try simp only [List.getElem_cons_zero])
            go_simp
            refine hK.out _ _ ?_
            clear hK K
            (try simp only [List.getElem_toArray]); (try simp only [List.getElem_cons_succ]); (try simp only [List.getElem_cons_zero]); try simp only [Act.put, List.setIfInBounds_toArray, List.set_cons_zero, List.set_cons_succ]
            refine wpAnyU_done (by kernel_rfl) ?_ _
            have B9 := Lib.hid ((BD.out.trans (BAL.out.mono BD.out.size)).trans B5h.out)
            go_wp2_with fail
            go_roundw
            case rel => exact ⟨j + 1, out2, a5, c5, by omega, by go_num, rfl, HNX, O5h.out, B9.out⟩
            case measure => simp [intOf]; omega
          case neg =>
            obtain rfl : j = fs.length := by omega
            have j1 : ¬ ((fs.length : Int) < (fs.length : Int)) := by omega
            have HO2 := HOUT.out
            rw [List.take_length] at HO2
            have HSM := Lib.hid (addB_small U fs)
            rw [HO2] at HSM
            clear HOUT HO2
            have x0 := blk_cell X6.out 0
            have x1 := blk_cell X6.out 1
            have x2 := blk_cell X6.out 2
            have x3 := blk_cell X6.out 3
            have s0 := blk_cell S6.out 0
            have s1 := blk_cell S6.out 1
            have s2 := blk_cell S6.out 2
            have s3 := blk_cell S6.out 3
            obtain ⟨ack, hack⟩ : ∃ z, (U + sa) % 4294967296 = z := ⟨_, rfl⟩
            have e1 : IntKind.u32.wrap ((U : Int) + (sa : Int)) = (ack : Int) := by rw [IntKind.wrap_u32]; omega
            have e2 : ((U : Int) + (sa : Int)) % 4294967296 = (ack : Int) := by omega
            have hab : ack < 4294967296 := by omega
            have hB := B6.out
            have SS := Lib.hid ((hB.block _ (blk_lt S3.out)).trans S3.out)
            have TT := Lib.hid ((hB.block _ (blk_lt T3.out)).trans T3.out)
            have OO := Lib.hid (O3.out.below hB)
            have QQ := Lib.hid (Q3.out.trans (hB.mono Q3.out.size))
            have PA := Lib.hid (ack_any U X hh p l k ack bp out bk V6 hUb hXb (OO.out.sts encB) (by have := (okS_iff.1 HOK.out).2.2.1; omega) (O6.out.sts encB) HSM.out (by omega))
            have hlen6 := B6.out.size
            clear hack hB
            go_wp2_with fail
            refine PA.out.mono ?_
            rintro e V7 ⟨⟨E, tu, tx, th, tl, n8, a4, c4, rfl, hAI, hO⟩, hB⟩
            obtain ⟨hb1, hb2, hb3, hok⟩ := ack_inv hUb hXb hab HSM.out hAI
            have HK := Lib.hid hok
            have HSO := Lib.hid (ack_small hAI)
            have N4 := Lib.hid (hO.mono hlen6)
            have SS := Lib.hid ((hB.block _ (blk_lt SS.out)).trans SS.out)
            have TT := Lib.hid ((hB.block _ (blk_lt TT.out)).trans TT.out)
            have OO := Lib.hid (OO.out.below hB)
            have QQ := Lib.hid (QQ.out.trans (hB.mono QQ.out.size))
            clear hO hB hAI hok x0 x1 x2 x3 s0 s1 s2 s3 e1 e2 PA
            go_wp2_with (first
              | ((with_reducible show wpList _ _ _ _ _ _); refine wpList_store_blk rowPS (t := 26) (w := V7) rfl (.tmp 10) (.tmp 91) rfl gt #[.int .u32 (U : Nat), .int .u32 (X : Nat), .int .u32 (hh : Nat), .slice p l.length k] #[.int .u32 (tu : Nat), .int .u32 (tx : Nat), .int .u32 (th : Nat), .slice a4 tl.length c4] rfl rfl TT.out rfl rfl (by simp [Value.oneCell']) ?_; intro V9 hb9 hg9; have TB9 := Lib.hid hb9; have G9 := Lib.hid hg9; clear hb9 hg9)
              | fail)
            go_meet
            exact ⟨E, tu, tx, th, tl, a4, c4, rfl, hb1, hb2, hb3, Lib.hid (HK.out), Lib.hid (HSO.out), TB9.out, (G9.out.block gs (blk_lt SS.out) (fun e => by have := Option.some.inj e; omega)).trans SS.out, (N4.out.grown G9.out (fun q e e2 => by have h1 := (N4.out.ownB q (by rw [e]; rfl)).1; have := Option.some.inj e2; omega)).mono (Nat.zero_le _), Lib.hid (fun q e => by have h1 := (N4.out.ownB q e).1; have := blk_lt S3.out; omega), OO.out.grown G9.out (fun q e e2 => by have h1 := HPT.out q (by rw [e]; rfl); have := Option.some.inj e2; omega), QQ.out.grown G9.out QQ.out.size (fun q e => by have := Option.some.inj e; omega)⟩
      case neg =>
      have q1' : (wh == 1) = false := by simpa using q1
      by_cases q2 : wh = 2
      case pos =>
        subst q2
        have hll : l.length ≤ 1024 := (okS_iff.1 HOK.out).2.2.1
        obtain ⟨rb, hrb⟩ : ∃ b, (sn.tmod 2 == 0) = b := ⟨_, rfl⟩
        have hrb2 : decide (sn.tmod 2 = 0) = rb := by rw [← hrb]; rfl
        have PN := next_any U X hh p l k M rb V3 hUb (O3.out.sts encB) (by omega)
        have hck : nxE U X hh l M = 0 := ck_zero HOK.out HM.out
        rw [hck] at PN
        clear hck
        have x0 := blk_cell X3.out 0
        have x1 := blk_cell X3.out 1
        have x2 := blk_cell X3.out 2
        have x3 := blk_cell X3.out 3
        have s0 := blk_cell S3.out 0
        have s1 := blk_cell S3.out 1
        have s2 := blk_cell S3.out 2
        have s3 := blk_cell S3.out 3
        cases hz : nxO U X hh l M rb with
        | none =>
          rw [hz] at PN
          have en : nxB U none = #[.int .u32 0, .int .u32 0] := rfl
          have es : (none : Option (Nat × Nat)).isSome = false := rfl
          rw [en, es] at PN
          have HPN := Lib.hid PN
          clear PN hz en es
          go_wp2_with fail
          refine HPN.out.mono ?_
          rintro e V4 ⟨rfl, hB⟩
          have hb9 := (Below.refl V4.heap.size V4).alloc (Nat.le_refl _) (.cells #[.int .u32 0, .int .u32 0] 38)
          have hB := hB.trans (hb9.mono hB.size)
          have SS := Lib.hid ((hB.block _ (blk_lt S3.out)).trans S3.out)
          have TT := Lib.hid ((hB.block _ (blk_lt T3.out)).trans T3.out)
          have OO := Lib.hid (O3.out.below hB)
          have QQ := Lib.hid (Q3.out.trans (hB.mono Q3.out.size))
          clear hB hb9 x0 x1 x2 x3 s0 s1 s2 s3 hrb hrb2
          go_upto_region 22 with fail
          change Code.wp _ _ _ _ (V4.alloc (.cells #[.int .u32 0, .int .u32 0] 38))
          generalize V4.alloc (.cells #[.int .u32 0, .int .u32 0] 38) = V5 at SS TT OO QQ ⊢
          go_wp2_with (go_at_call 16; refine (num_any _ _).mono ?_; rintro e w' ⟨rfl, rfl⟩)
          go_meet
          exact ⟨0, U, X, hh, l, p, k, (by first | rfl | trivial), hUb, hXb, hhb, Lib.hid (fun _ => HOK.out), HSL, TT.out, SS.out, OO.out, HPG, OO.out, QQ.out⟩
        | some z =>
          obtain ⟨z1, z2, z3, z4⟩ := next_told HOK.out HM.out hz
          rw [hz] at PN
          have hst2 : pl U X ≤ 1073741824 := (okS_iff.1 HOK.out).1
          obtain ⟨b0, hb0⟩ : ∃ q, (U + z.1) % 4294967296 = q := ⟨_, rfl⟩
          obtain ⟨b1, hb1⟩ : ∃ q, (U + z.2) % 4294967296 = q := ⟨_, rfl⟩
          have hp0 : pl U b0 = z.1 := by rw [← hb0]; exact pl_back hUb (by omega)
          have hp1 : pl U b1 = z.2 := by rw [← hb1]; exact pl_back hUb (by omega)
          have hnx : nxB U (some z) = #[.int .u32 (b0 : Nat), .int .u32 (b1 : Nat)] := by show #[Value.int .u32 (((U + z.1) % 4294967296 : Nat) : Int), Value.int .u32 (((U + z.2) % 4294967296 : Nat) : Int)] = _; rw [hb0, hb1]
          have es : (some z).isSome = true := rfl
          rw [hnx, es] at PN
          clear es
          have HPN := Lib.hid PN
          have hb1b : b1 < 4294967296 := by rw [← hb1]; exact Nat.mod_lt _ (by decide)
          have hne : b0 ≠ b1 := fun h => by rw [h, hp1] at hp0; omega
          have PIN := fun V (h : Sts 2 BC Tr V p l) => inside_any U X hh p l k b0 b1 V hUb h hll
          rw [hp0, hp1, z4] at PIN
          have HPI := Lib.hid PIN
          have hre : reE U X hh l b1 = 0 := by unfold reE; rw [if_pos HOK.out, hp1, if_pos ⟨by omega, z3⟩]
          have HRN := Lib.hid (resent_next hre)
          have PRE := fun V (h : Sts 2 BC Tr V p l) => present_own U X hh p l k b1 V hUb h O3.out.nilcap (by omega)
          unfold FOwn at PRE
          rw [hre] at PRE
          simp only [oU0 rfl, oL0 rfl] at PRE
          have HPR := Lib.hid PRE
          have w1 : IntKind.u32.wrap ((b0 : Int) - (U : Int)) = (z.1 : Int) := by rw [pl_wrap hUb, hp0]
          have w2 : IntKind.u32.wrap ((X : Int) - (U : Int)) = (pl U X : Int) := pl_wrap hUb
          have w3 : ((b0 : Int) - (U : Int)) % 4294967296 = (z.1 : Int) := by rw [← IntKind.wrap_u32]; exact w1
          have w4 : ((X : Int) - (U : Int)) % 4294967296 = (pl U X : Int) := by rw [← IntKind.wrap_u32]; exact w2
          obtain ⟨zl, hzl⟩ : ∃ q, z.1 = q := ⟨_, rfl⟩
          obtain ⟨sd, hsd⟩ : ∃ q, pl U X = q := ⟨_, rfl⟩
          rw [hzl] at w1 w3
          rw [hsd] at w2 w4
          have hlt2 : zl < sd := by omega
          have v1 : ((b0 : Int) == (b1 : Int)) = false := by simp; omega
          have v2 : ¬ ((b0 : Int) = (b1 : Int)) := by omega
          have v3 : ¬ ((sd : Int) ≤ (zl : Int)) := by omega
          clear PN PIN PRE hz z1 z2 z3 z4 hst2 hb0 hb1 hp0 hp1 hnx hre hzl hsd
          go_wp2_with fail
          refine HPN.out.mono ?_
          rintro e V4 ⟨rfl, hB⟩
          have hb9 := (Below.refl V4.heap.size V4).alloc (Nat.le_refl _) (.cells #[.int .u32 (b0 : Nat), .int .u32 (b1 : Nat)] 38)
          have hB := hB.trans (hb9.mono hB.size)
          have SS := Lib.hid ((hB.block _ (blk_lt S3.out)).trans S3.out)
          have TT := Lib.hid ((hB.block _ (blk_lt T3.out)).trans T3.out)
          have OO := Lib.hid (O3.out.below hB)
          have QQ := Lib.hid (Q3.out.trans (hB.mono Q3.out.size))
          have BX := Lib.hid (blk_new V4 (.cells #[.int .u32 (b0 : Nat), .int .u32 (b1 : Nat)] 38))
          have hsz5 := Lib.hid hB.size
          clear hB hb9 x0 x1 x2 x3 s0 s1 s2 s3 hrb hrb2
          go_upto_region 22 with fail
          change Code.wp _ _ _ _ (V4.alloc (.cells #[.int .u32 (b0 : Nat), .int .u32 (b1 : Nat)] 38))
          obtain ⟨gb, hgb⟩ : ∃ q, V4.heap.size = q := ⟨_, rfl⟩
          generalize V4.alloc (.cells #[.int .u32 (b0 : Nat), .int .u32 (b1 : Nat)] 38) = V5 at SS TT OO QQ BX hsz5 ⊢
          rw [hgb] at BX ⊢
          clear hgb
          go_wp2_with fail
          refine (num_any _ _).mono ?_
          rintro e w' ⟨rfl, rfl⟩
          have s0 := blk_cell SS.out 0
          have s1 := blk_cell SS.out 1
          have s2 := blk_cell SS.out 2
          have s3 := blk_cell SS.out 3
          have y0 := blk_cell BX.out 0
          have y1 := blk_cell BX.out 1
          go_wp2_with fail
          refine (HPI.out _ (OO.out.sts encB)).mono ?_
          rintro e V6 ⟨rfl, hB⟩
          have BX := Lib.hid ((hB.block _ (blk_lt BX.out)).trans BX.out)
          have hsz6 := Lib.hid (Nat.le_trans hsz5.out hB.size)
          have SS := Lib.hid ((hB.block _ (blk_lt SS.out)).trans SS.out)
          have TT := Lib.hid ((hB.block _ (blk_lt TT.out)).trans TT.out)
          have OO := Lib.hid (OO.out.below hB)
          have QQ := Lib.hid (QQ.out.trans (hB.mono QQ.out.size))
          clear hB s0 s1 s2 s3 y0 y1 w1 w2 w3 w4 v1 v2 v3
          have s0 := blk_cell SS.out 0
          have s1 := blk_cell SS.out 1
          have s2 := blk_cell SS.out 2
          have s3 := blk_cell SS.out 3
          have y0 := blk_cell BX.out 0
          have y1 := blk_cell BX.out 1
          go_wp2_with fail
          refine (HPR.out _ (OO.out.sts encB)).mono ?_
          rintro e V7 ⟨⟨a4, c4, rfl, hO⟩, hB⟩
          have N4 := Lib.hid (hO.mono hsz6.out)
          have SS := Lib.hid ((hB.block _ (blk_lt SS.out)).trans SS.out)
          have TT := Lib.hid ((hB.block _ (blk_lt TT.out)).trans TT.out)
          have OO := Lib.hid (OO.out.below hB)
          have QQ := Lib.hid (QQ.out.trans (hB.mono QQ.out.size))
          clear hO hB s0 s1 s2 s3 y0 y1
          go_wp2_with (first
            | ((with_reducible show wpList _ _ _ _ _ _); refine wpList_store_blk rowPS (t := 26) (w := V7) rfl (.tmp 10) (.tmp 139) rfl gt #[.int .u32 (U : Nat), .int .u32 (X : Nat), .int .u32 (hh : Nat), .slice p l.length k] #[.int .u32 (U : Nat), .int .u32 (X : Nat), .int .u32 (b1 : Nat), .slice a4 l.length c4] rfl rfl TT.out rfl rfl (by simp [Value.oneCell']) ?_; intro V9 hb9 hg9; have TB9 := Lib.hid hb9; have G9 := Lib.hid hg9; clear hb9 hg9)
            | (go_at_call 16; refine (num_any _ _).mono ?_; rintro e w' ⟨rfl, rfl⟩))
          go_meet
          exact ⟨0, U, X, b1, l, a4, c4, rfl, hUb, hXb, hb1b, Lib.hid (fun _ => HRN.out), Lib.hid (HSL.out), TB9.out, (G9.out.block gs (blk_lt SS.out) (fun e => by have := Option.some.inj e; omega)).trans SS.out, (N4.out.grown G9.out (fun q e e2 => by have h1 := (N4.out.ownB q (by rw [e]; rfl)).1; have := Option.some.inj e2; omega)).mono (Nat.zero_le _), Lib.hid (fun q e => by have h1 := (N4.out.ownB q e).1; have := blk_lt S3.out; omega), OO.out.grown G9.out (fun q e e2 => by have h1 := HPT.out q (by rw [e]; rfl); have := Option.some.inj e2; omega), QQ.out.grown G9.out QQ.out.size (fun q e => by have := Option.some.inj e; omega)⟩
      case neg =>
      have q2' : (wh == 2) = false := by simpa using q2
      by_cases q3 : wh = 3
      case pos =>
        subst q3
        have hll : l.length ≤ 1024 := (okS_iff.1 HOK.out).2.2.1
        have s0 := blk_cell S3.out 0
        have s1 := blk_cell S3.out 1
        have s2 := blk_cell S3.out 2
        have s3 := blk_cell S3.out 3
        have PT := ptimeout_own U X hh p l k V3 hUb (O3.out.sts encB) (by omega)
        have hc : chkE U X hh l = 0 := by unfold chkE; rw [if_pos HOK.out]
        unfold FOwn at PT
        rw [hc] at PT
        simp only [oU0 rfl, oL0 rfl] at PT
        have HPTT := Lib.hid PT
        have HTN := Lib.hid (timeout_next hUb HOK.out)
        clear PT hc
        go_wp2_with fail
        refine HPTT.out.mono ?_
        rintro e V4 ⟨⟨a4, c4, rfl, hO⟩, hB⟩
        have N4 := Lib.hid hO
        have SS := Lib.hid ((hB.block _ (blk_lt S3.out)).trans S3.out)
        have TT := Lib.hid ((hB.block _ (blk_lt T3.out)).trans T3.out)
        have OO := Lib.hid (O3.out.below hB)
        have QQ := Lib.hid (Q3.out.trans (hB.mono Q3.out.size))
        clear hO hB s0 s1 s2 s3
        go_wp2_with (first
          | ((with_reducible show wpList _ _ _ _ _ _); refine wpList_store_blk rowPS (t := 26) (w := V4) rfl (.tmp 10) (.tmp 149) rfl gt #[.int .u32 (U : Nat), .int .u32 (X : Nat), .int .u32 (hh : Nat), .slice p l.length k] #[.int .u32 (U : Nat), .int .u32 (X : Nat), .int .u32 (U : Nat), .slice a4 ([] : List (Nat × Nat)).length c4] rfl rfl TT.out rfl rfl (by simp [Value.oneCell']) ?_; intro V9 hb9 hg9; have TB9 := Lib.hid hb9; have G9 := Lib.hid hg9; clear hb9 hg9)
          | fail)
        go_meet
        exact ⟨0, U, X, U, [], a4, c4, rfl, hUb, hXb, hUb, Lib.hid (fun _ => HTN.out), Lib.hid (fun _ h => by cases h), TB9.out, (G9.out.block gs (blk_lt SS.out) (fun e => by have := Option.some.inj e; omega)).trans SS.out, (N4.out.grown G9.out (fun q e e2 => by have h1 := (N4.out.ownB q (by rw [e]; rfl)).1; have := Option.some.inj e2; omega)).mono (Nat.zero_le _), Lib.hid (fun q e => by have h1 := (N4.out.ownB q e).1; have := blk_lt S3.out; omega), OO.out.grown G9.out (fun q e e2 => by have h1 := HPT.out q (by rw [e]; rfl); have := Option.some.inj e2; omega), QQ.out.grown G9.out QQ.out.size (fun q e => by have := Option.some.inj e; omega)⟩
      case neg =>
      have q3' : (wh == 3) = false := by simpa using q3
      have SS := S3
      have TT := T3
      have OO := O3
      have QQ := Q3
      go_wp2_with fail
      go_meet
      exact ⟨0, U, X, hh, l, p, k, (by first | rfl | trivial), hUb, hXb, hhb, Lib.hid (fun _ => HOK.out), HSL, TT.out, SS.out, OO.out, HPG, OO.out, QQ.out⟩
    case rest =>
    obtain ⟨E, tu, tx, th, tl, tp, tk, rfl, hb1, hb2, hb3, HK, HTL, hT, hS, hO, HTG, hP, hq⟩ := hcut
    obtain ⟨V4, hVV⟩ : ∃ V, V = wc := ⟨_, rfl⟩
    subst hVV
    have T4 := Lib.hid hT
    have S4 := Lib.hid hS
    have O4 := Lib.hid hO
    have P4 := Lib.hid hP
    have Q4 := Lib.hid hq
    clear hT hS hO hP hq T3 X3 S3 O3 F3 Q3
    go_upto_if 153 with (go_at_call 16; refine (num_any _ _).mono ?_; rintro e w' ⟨rfl, rfl⟩)
    go_cut [] (fun (wx : World) => ∃ (u x h : Nat) (l2 : List (Nat × Nat)) (p2 : Option Addr) (k2 : Nat), u < 4294967296 ∧ x < 4294967296 ∧ h < 4294967296 ∧ Hid (okS u x h l2 = true) ∧ Hid (small2 l2) ∧ wx.heap[gs]? = some (.cells #[.int .u32 (u : Nat), .int .u32 (x : Nat), .int .u32 (h : Nat), .slice p2 l2.length k2] 26 (0, 0)) ∧ OwnR 38 2 BC 0 p2 l2 k2 wx ∧ Hid (∀ q, (Value.slice p2 l2.length k2).ownBlock = some q → q ≠ gs) ∧ Below w.heap.size w wx)
    case first =>
      by_cases hE : E = 0
      case pos =>
        subst hE
        have t0 := blk_cell T4.out 0
        have t1 := blk_cell T4.out 1
        have t2 := blk_cell T4.out 2
        have t3 := blk_cell T4.out 3
        go_wp2_with (first
          | ((with_reducible show wpList _ _ _ _ _ _); refine wpList_store_blk rowPS (t := 26) (w := V4) rfl (.tmp 7) (.tmp 154) rfl gs #[.int .u32 (U : Nat), .int .u32 (X : Nat), .int .u32 (hh : Nat), .slice p l.length k] #[.int .u32 (tu : Nat), .int .u32 (tx : Nat), .int .u32 (th : Nat), .slice tp tl.length tk] rfl rfl S4.out rfl rfl (by simp [Value.oneCell']) ?_; intro V9 hb9 hg9; have SB9 := Lib.hid hb9; have O9 := Lib.hid (O4.out.grown hg9 (fun q e e2 => HTG.out q (by rw [e]; rfl) (Option.some.inj e2))); have Q9 := Lib.hid (Q4.out.grown hg9 Q4.out.size (fun q e => by have := Option.some.inj e; omega)); clear hb9 hg9)
          | fail)
        go_meet
        exact ⟨tu, tx, th, tl, tp, tk, hb1, hb2, hb3, Lib.hid (HK.out (by first | rfl | trivial)), HTL, SB9.out, O9.out, HTG, Q9.out⟩
      case neg =>
        have e1 : (E == 0) = false := by simpa using hE
        go_wp2_with fail
        go_meet
        exact ⟨U, X, hh, l, p, k, hUb, hXb, hhb, HOK, HSL, S4.out, P4.out, HPG, Q4.out⟩
    case rest =>
    obtain ⟨u, x, h, l2, p2, k2, hub, hxb2, hhb2, HOK2, HSL2, hS, hO, HPG2, hq⟩ := hcut
    obtain ⟨V5, hVV⟩ : ∃ V, V = wc := ⟨_, rfl⟩
    subst hVV
    have S5 := Lib.hid hS
    have O5 := Lib.hid hO
    have Q5 := Lib.hid hq
    have hll : l2.length ≤ 1024 := (okS_iff.1 HOK2.out).2.2.1
    have PC := check_all u x h p2 l2 k2 V5 hub (O5.out.sts encB) (by omega)
    have hc : chkE u x h l2 = 0 := by unfold chkE; rw [if_pos HOK2.out]
    rw [hc] at PC
    have HPC := Lib.hid PC
    clear hS hO hq T4 S4 O4 P4 Q4 HK HTL HTG HOK HSL HPG PC hc
    have s0 := blk_cell S5.out 0
    have s1 := blk_cell S5.out 1
    have s2 := blk_cell S5.out 2
    have s3 := blk_cell S5.out 3
    go_wp2_with fail
    refine HPC.out.mono ?_
    rintro e V6 ⟨rfl, hB⟩
    have S6 := Lib.hid ((hB.block _ (blk_lt S5.out)).trans S5.out)
    have O6 := Lib.hid (O5.out.below hB)
    have Q6 := Lib.hid (Q5.out.trans (hB.mono Q5.out.size))
    have hgs6 := blk_lt S6.out
    clear hB s0 s1 s2 s3 S5 O5 Q5
    go_wp2_with fail
    refine (num_any _ _).mono ?_
    rintro e w' ⟨rfl, rfl⟩
    go_wp2_with fail
    go_loopw [17] (fun jv wq => ∃ j : Nat, j ≤ l2.length ∧ jv = .int .i64 j ∧ Below V6.heap.size V6 wq) (fun jv _ => l2.length - (intOf jv).toNat)
    case atStart => exact ⟨0, by omega, rfl, Below.refl _ _⟩
    case round =>
      obtain ⟨j, hj, rfl, hB⟩ := hrel
      obtain ⟨V7, hVV⟩ : ∃ V, V = wr := ⟨_, rfl⟩
      subst hVV
      have B7 := Lib.hid hB
      have S7 := Lib.hid ((hB.block _ hgs6).trans S6.out)
      have O7 := Lib.hid (O6.out.below hB)
      have Q7 := Lib.hid (Q6.out.trans (hB.mono Q6.out.size))
      clear hB
      have s0 := blk_cell S7.out 0
      have s1 := blk_cell S7.out 1
      have s2 := blk_cell S7.out 2
      have s3 := blk_cell S7.out 3
      by_cases hlj : j < l2.length
      case neg =>
        obtain rfl : j = l2.length := by omega
        have j1 : ¬ ((l2.length : Int) < (l2.length : Int)) := by omega
        go_wp2_with fail
        go_roundw
        case rel => exact ⟨i + 1, u, x, h, l2, p2, k2, by omega, by go_num, hub, hxb2, hhb2, HOK2, HSL2, S7.out, O7.out, HPG2, Q7.out⟩
        case measure => simp [intOf]; omega
      case pos =>
        have j1 : (j : Int) < (l2.length : Int) := by omega
        obtain ⟨xx, hxx⟩ : ∃ q, l2[j]? = some q := ⟨_, List.getElem?_eq_getElem hlj⟩
        obtain ⟨g7, o7, rfl, _, _⟩ := (O7.out.sts encB).isSomeT (by omega)
        obtain ⟨hg, m0, m1⟩ := b_at (O7.out.sts encB) hxx
        obtain ⟨bk1, bk2⟩ := block_kept (mss := M) HOK2.out HM.out (List.mem_of_getElem? hxx)
        have PL := fun V (hs : Sts 2 BC Tr V (some ⟨g7, o7, none⟩) l2) => plost_any u x h (some ⟨g7, o7, none⟩) l2 k2 M xx.1 V hub hs (by omega)
        rw [bk1, bk2] at PL
        obtain ⟨xl, hxl⟩ : ∃ z, xx.1 = z := ⟨_, rfl⟩
        rw [hxl] at PL m0
        have HPL := Lib.hid PL
        clear PL hxx bk1 bk2 hxl m1
        go_upto_region 39 with fail
        have qs0 := cell_regrown (show V7.cell? ⟨gs, 0, none⟩ = some (.int .u32 (u : Nat)) from s0)
        have qs1 := cell_regrown (show V7.cell? ⟨gs, 1, none⟩ = some (.int .u32 (x : Nat)) from s1)
        have qs2 := cell_regrown (show V7.cell? ⟨gs, 2, none⟩ = some (.int .u32 (h : Nat)) from s2)
        have qs3 := cell_regrown (show V7.cell? ⟨gs, 3, none⟩ = some (.slice (some ⟨g7, o7, none⟩) l2.length k2) from s3)
        have qm0 := cell_regrown (show V7.cell? ⟨g7, o7 + j * 2, none⟩ = some (.int .u32 (xl : Nat)) from m0)
        have cL : ∀ d os, Calls Try.prog 10 #[.agg #[.int .u32 (u : Nat), .int .u32 (x : Nat), .int .u32 (h : Nat), .slice (some ⟨g7, o7, none⟩) l2.length k2], .int .i64 M, .int .u32 (xl : Nat)] (grow (redrawn V7 d) os) fun e w'' => e = .returned (.tuple #[.bool false, .int .i64 0]) ∧ ∃ p : Regrown, w'' = grow (redrawn V7 p.d) p.os := fun d os => Calls.regrown_of (HPL.out _ (Sts.belowT (O7.out.sts encB) (below_regrown V7 d os)))
        refine wp_region_quiet_below (by kernel_rfl) (by kernel_rfl) ?_
        repeat (go_big_quiet_step (first | (go_at_call 10; exact cL _ _)))
        refine wpQuiet_nil ?_
        intro _ hw'
        obtain ⟨⟨dq, osq⟩, hw''⟩ := hw'
        subst hw''
        have hB := below_regrown V7 dq osq
        clear qs0 qs1 qs2 qs3 qm0 cL
        dsimp only
        generalize grow (redrawn V7 dq) osq = V8 at hB ⊢
        have B8 := Lib.hid (B7.out.trans (hB.mono B7.out.size))
        clear hB s0 s1 s2 s3 m0 S7 O7 Q7 B7
        go_wp2_with (go_at_call 16; refine (num_any _ _).mono ?_; rintro e w' ⟨rfl, rfl⟩)
        go_roundw
        case rel => exact ⟨j + 1, by omega, by go_num, B8.out⟩
        case measure => simp [intOf]; omega

theorem bulk_lenA {H : Type} (es : List (DataW H)) : es.length ≤ Rows.uptoBulkAll es := by
  induction es with
  | nil => simp [Rows.uptoBulkAll]
  | cons d es ih =>
    have h1 : 1 ≤ Rows.uptoBulk d := by cases d <;> first | (simp [Rows.uptoBulk]; done) | (rename_i l; cases l <;> simp [Rows.uptoBulk])
    simp only [Rows.uptoBulkAll, List.length_cons]
    omega

theorem own : ownKnob Try.prog.godebug = none := by kernel_rfl
theorem laidOut : laidOutB Try.prog = true := by kernel_rfl

set_option maxRecDepth 100000 in
set_option maxHeartbeats 2000000 in
theorem contract (H : Type) (enc : TypeId × Value → H) (W : World) (base : Nat) (args : Array Value) (ds gs : List (DataW H)) (before : List MemPlace)
    (hval0 : ∀ (j : Nat) t v, Try.f4.params[j]? = some t → args[j]? = some v → Value.okWide Try.prog W .any base t v)
    (hW : DataW.Whole enc Try.prog Try.f4.params.toList Rows.scoreboardKeepsSpec.vars false W args.toList ds gs before) (hk : Rows.uptoSmall H (ds ++ gs) = true) :
    Calls Try.prog 4 args W fun e W' => ∃ v, e = .returned v ∧ Rows.scoreboardKeepsSpec.post enc Try.prog Try.f4 false true false false W args v W' := by
  have hval : ∀ (j : Nat) t v, Try.f4.params[j]? = some t → args[j]? = some v → Value.okWide Try.prog W .any base t v := hval0
  have hW' := hW
  obtain ⟨p, q, hA0, hV, rfl, hfz, hnd⟩ := hW
  have hA : DataW.TrodAll enc Try.prog W 0 (fun _ => true) true Try.f4.params.toList args.toList ds p := hA0
  rw [Try.params4] at hA hval
  obtain ⟨v0, vs0, d0, ds0, p0, q0, hargs, rfl, rfl, h0, r0⟩ := trodAll_cons hA
  obtain ⟨v1, vs1, d1, ds1, p1, q1, rfl, rfl, rfl, h1, r1⟩ := trodAll_cons r0
  obtain ⟨v2, vs2, d2, ds2, p2, q2, rfl, rfl, rfl, h2, r2⟩ := trodAll_cons r1
  obtain ⟨rfl, rfl, rfl⟩ := trodAll_nil r2
  obtain rfl : args = #[v0, v1, v2] := by cases args; simp_all
  obtain ⟨rfl, rfl⟩ := trodVars_none hV
  obtain ⟨a0, rfl, rfl, rfl, w0⟩ := open_int Try.underlying22 (hval 0 22 v0 rfl rfl) h0
  obtain ⟨a1, rfl, rfl, rfl, w1⟩ := open_int Try.underlying3 (hval 1 3 v1 rfl rfl) h1
  obtain ⟨a2, len2, cap2, rfl⟩ := okWide_slice Try.underlying57 (hval 2 57 v2 rfl rfl)
  have k2 := h2
  have lt2 : ∀ x ∈ p2, x.block < W.heap.size := by obtain ⟨m, hm⟩ := k2; exact DataW.trod_lt m _ _ _ hm
  have hbulk := of_decide_eq_true hk
  simp only [List.append_nil, Rows.uptoBulkAll, Rows.uptoBulk] at hbulk
  obtain ⟨xs2, hxl2, hbt2, hcap2, hre2⟩ : ∃ xs : List Step17, xs.length = len2 ∧ Sts 4 Step17.cells Step17.ok W a2 xs ∧ (a2 = none → cap2 = 0) ∧ xs.length ≤ 1048576 := by
    obtain ⟨fuel, hf⟩ := h2
    have hwt : Rows.uptoBulk d2 ≤ 1048576 := by omega
    obtain ⟨x, rs, c, hv, hs, hnc, hlc, hq⟩ := open_Step17s (c := .slice a2 len2 cap2) hf hwt
    simp only [Value.slice.injEq] at hv
    obtain ⟨rfl, rfl, rfl⟩ := hv
    refine ⟨rs, rfl, hs, hnc, ?_⟩
    rcases hq with ⟨_, rfl⟩ | ⟨es, ws, e, hl⟩
    · simp
    · rw [show d2 = DataW.slice es ws from e] at hbulk
      simp only [Rows.uptoBulk] at hbulk
      have := bulk_lenA es
      omega
  clear hA0
  obtain ⟨n0, rfl, hn0⟩ := nat_of_u32 w0
  obtain ⟨lo1, hi1⟩ := bounds_i64 w1
  subst hxl2
  refine (walk n0 a1 a2 xs2 cap2 W hn0 lo1 hi1 hbt2 hcap2 hre2).mono fun e W' ⟨he, bel⟩ => ?_
  subst he
  exact ⟨_, rfl, _, _, _, [], _, [], hW', trodAll_mk1 (shut_bool Try.underlying4 _), (trodAll_cons_mk (shut_int Try.underlying22 w0) (trodAll_cons_mk (shut_int Try.underlying3 w1) (trodAll_cons_mk (Below.trod laidOut (by kernel_rfl) (of_decide_eq_true (by kernel_rfl)) k2 bel lt2) trodAll_mk0))), rfl, bel.frame _, fun h => by cases h⟩

set_option maxRecDepth 100000 in
theorem lifted (os : Os) (started : os.Started) (H : Type) (enc : TypeId × Value → H) (F : Stop.Interp) :
    ReturnsInHanded {} Try.checked os 4 .any ((Rows.OpenSpec.upto Rows.scoreboardKeepsSpec).pre6 enc Try.prog Try.f4 Rows.scoreboardKeepsUptoRow.domain false) (((Rows.OpenSpec.upto Rows.scoreboardKeepsSpec).at F).post enc Try.prog Try.f4 false true false false) := by
  refine returnsInHanded_of_cond (C := Try.checked) (s := Rows.OpenSpec.upto Rows.scoreboardKeepsSpec) (k := Rows.uptoSmall) rfl own started (by kernel_rfl) Try.func4
    (OpenSpec.witness (enc := enc) (C := Try.checked) (s := Rows.OpenSpec.upto Rows.scoreboardKeepsSpec) (k := Rows.uptoSmall) rfl false ⟨#[], #[.int .u32 0, .int .i64 0, .slice none 0 0], []⟩ 8 (by kernel_rfl) (by kernel_rfl) (by kernel_rfl)
      (x := ([.lit (.int .u32 0), .lit (.int .i64 0), .nil], [], [])) (by kernel_rfl) rfl (by kernel_rfl)) ?_
  intro W base args ds gs before hval hW _ hk _
  exact contract H enc W base args ds gs before hval hW hk

theorem over : Rows.scoreboardKeepsUptoRow.holds Try.pinned (Rows.OpenSpec.upto Rows.scoreboardKeepsSpec) :=
  OpenClaim.holds_of_cond 4 Try.f4 rfl rfl rfl rfl rfl rfl rfl ⟨rfl, rfl, rfl, rfl, rfl⟩ rfl rfl rfl rfl rfl (by kernel_rfl) Try.func4 (by kernel_rfl)
    (of_decide_eq_true (by kernel_rfl)) (by unfold Func.isWrapper; first | (rw [if_pos (by decide +kernel)]; kernel_rfl) | (rw [if_neg (by decide +kernel)]; exact ⟨rfl, rfl⟩))
    (fun os started H enc _ F => lifted os started H enc F)

end Go.Proofs.Ytcachmjcninkbaa.scoreboardKeeps
namespace Go.Proofs.Ytcachmjcninkbaa
/-- The statement. -/
theorem scoreboardKeeps_holds : Rows.ScoreboardKeepsUptoSaid := scoreboardKeeps.over
#print axioms scoreboardKeeps_holds
end Go.Proofs.Ytcachmjcninkbaa
