/- For every state, number and list of blocks, of at most 1048576 letters and values together: what follows shares nothing with what was handed in. On the condition of the upto form. -/
import Derived.Test.YtcachmjcninkbaaRows
import Derived.Test.YtcachmjcninkbaaScOw
import Derived.Test.YtcachmjcninkbaaGBk
import Derived.Test.YtcachmjcninkbaaGAgg
import Derived.Deep.DeepCutAuto
import Derived.RegionTactic
import Derived.Deep.RegionHeld3
import Derived.BigQuiet
import Derived.Lib.QuietBelow
import Derived.ProofKit
import Derived.OpenShut
import Derived.ChangeOld
import Derived.SizedLaws
namespace Go.Proofs.Ytcachmjcninkbaa.scoreboardOwn
open Go.ChangeShapes Go.WideShapes Go.ChangeAt Go.RowKit Go.Deep Go.Proofs.Ytcachmjcninkbaa Go.Sort Go.BigFrame

theorem bk_sts {w : World} {a : Option Addr} {xs : List Bk} (h : Sts 2 Bk.cells Bk.ok w a xs) : Sts 2 BC Tr w a (xs.map fun r => (r.left, r.right)) ∧ small2 (xs.map fun r => (r.left, r.right)) := by
  refine ⟨⟨fun _ _ => trivial, ?_⟩, ?_⟩
  · rcases h.2 with h0 | ⟨b, off, e, hb, hc⟩
    · left; rw [h0]; rfl
    · right
      refine ⟨b, off, e, hb, fun i r hr j v hv => ?_⟩
      rw [List.getElem?_map, Option.map_eq_some_iff] at hr
      obtain ⟨q, hq, rfl⟩ := hr
      exact hc i q hq j v hv
  · intro x hx
    obtain ⟨r, hr, rfl⟩ := List.mem_map.1 hx
    exact h.1 r hr
set_option maxRecDepth 100000 in
set_option maxHeartbeats 4000000 in
theorem walk (una nxt high : Nat) (a : Option Addr) (bs : List (Nat × Nat)) (c : Nat) (n : Int) (a2 : Option Addr) (xs : List Bk) (d : Nat) (w : World) (hu : una < 4294967296) (hx : nxt < 4294967296) (_hh : high < 4294967296) (hbk : Blk w a bs) (hn : a = none → c = 0) (_hlc : bs.length ≤ c ∧ c ≤ maxLen) (hl : bs.length ≤ 1048576) (_n_l : -9223372036854775808 ≤ n) (_n_h : n ≤ 9223372036854775807) (hxs : Sts 2 Bk.cells Bk.ok w a2 xs) (hn2 : a2 = none → d = 0) (hl2 : xs.length ≤ 1048576) :
    Calls Try.prog 7 #[.agg #[.int .u32 (una : Nat), .int .u32 (nxt : Nat), .int .u32 (high : Nat), .slice a bs.length c], .int .i64 n, .slice a2 xs.length d] w fun e w' => e = .returned (.bool true) ∧ Below w.heap.size w w' := by
  obtain ⟨hf, hfs⟩ := bk_sts hxs
  obtain ⟨fs, hfq⟩ : ∃ z, xs.map (fun r => (r.left, r.right)) = z := ⟨_, rfl⟩
  have hfl : xs.length = fs.length := by rw [← hfq, List.length_map]
  rw [hfq] at hf hfs
  rw [hfl] at hl2 ⊢
  have HL := Lib.hid (blk_sts hbk)
  have HV := Lib.hid (show small2 bs from hbk.1)
  have HF := Lib.hid hf
  have HFS := Lib.hid hfs
  have HN := Lib.hid hn
  have HN2 := Lib.hid hn2
  have PSent := fun a' c' V (h : Sts 2 BC Tr V a' bs) hn => psent_own una nxt high a' bs c' n V hu h hn (by omega)
  unfold FOwn at PSent
  obtain ⟨Es, hEs⟩ : ∃ z, snE una nxt high bs n = z := ⟨_, rfl⟩
  have hls : small2 (oL Es bs) := by
    unfold oL; split
    · exact HV.out
    · intro _ h; cases h
  have hlm : (oL Es bs).length ≤ bs.length := by unfold oL; split <;> simp
  obtain ⟨su, hsu⟩ : ∃ z, oU Es una = z := ⟨_, rfl⟩
  obtain ⟨sx, hsx⟩ : ∃ z, oU Es ((nxt + n.toNat) % 4294967296) = z := ⟨_, rfl⟩
  obtain ⟨sh, hsh⟩ : ∃ z, oU Es high = z := ⟨_, rfl⟩
  obtain ⟨sl, hsl⟩ : ∃ z, oL Es bs = z := ⟨_, rfl⟩
  rw [hEs, hsu, hsx, hsh, hsl] at PSent
  rw [hsl] at hls hlm
  have HPSent := Lib.hid PSent
  have HSL := Lib.hid hls
  clear hbk hn hxs hfq hf hfs hfl hn2 hEs hsu hsx hsh hsl hls PSent
  go_enter Try.func7, Try.ntmps7
  go_upto_region 1 with fail
  have S0 := Lib.hid (blk_new w (.cells #[.int .u32 (una : Nat), .int .u32 (nxt : Nat), .int .u32 (high : Nat), .slice a bs.length c] 25))
  have Q0 := Lib.hid ((Below.refl w.heap.size w).alloc (Nat.le_refl _) (.cells #[.int .u32 (una : Nat), .int .u32 (nxt : Nat), .int .u32 (high : Nat), .slice a bs.length c] 25))
  generalize w.alloc (.cells #[.int .u32 (una : Nat), .int .u32 (nxt : Nat), .int .u32 (high : Nat), .slice a bs.length c] 25) = V0 at S0 Q0 ⊢
  have L0 := Lib.hid (Sts.belowT HL.out Q0.out)
  have F0 := Lib.hid (Sts.belowT HF.out Q0.out)
  go_wp2_with fail
  have hX := alive_any V0
  refine hX.mono ?_
  clear hX
  rintro e V1 ⟨rfl, hB⟩
  have S1 := Lib.hid ((hB.block _ (blk_lt S0.out)).trans S0.out)
  have L1 := Lib.hid (Sts.belowT L0.out hB)
  have F1 := Lib.hid (Sts.belowT F0.out hB)
  have Q1 := Lib.hid (Q0.out.trans (hB.mono Q0.out.size))
  clear hB S0 L0 F0 Q0
  have c0 := blk_cell S1.out 0
  have c1 := blk_cell S1.out 1
  have c2 := blk_cell S1.out 2
  have c3 := blk_cell S1.out 3
  go_wp2_with fail
  have hX := given_any una nxt high a bs c V1 L1.out HN.out (by omega)
  refine hX.mono ?_
  clear hX
  rintro e V2 ⟨⟨a', c', rfl, hO⟩, hB⟩
  have S2 := Lib.hid ((hB.block _ (blk_lt S1.out)).trans S1.out)
  have L2 := Lib.hid (Sts.belowT L1.out hB)
  have F2 := Lib.hid (Sts.belowT F1.out hB)
  have Q2 := Lib.hid (Q1.out.trans (hB.mono Q1.out.size))
  have X2 := Lib.hid (hO)
  have HNX := Lib.hid hO.nilcap
  have hrow := Lib.hid (fun q (e : (Value.slice a' bs.length c').ownBlock = some q) => (hO.ownB q e).2)
  have hrowL := Lib.hid (fun q (e : (Value.slice a' bs.length c').ownBlock = some q) => Nat.le_trans Q1.out.size (hO.ownB q e).1)
  clear hO
  clear hB S1 L1 F1 Q1 c0 c1 c2 c3
  go_wp2_with fail
  have hX := copy_bl a2 fs d V2 F2.out (by omega) HN2.out
  refine hX.mono ?_
  clear hX
  rintro e V3 ⟨⟨a3, c3, rfl, hO⟩, hB⟩
  have X3 := Lib.hid (X2.out.below hB)
  have S3 := Lib.hid ((hB.block _ (blk_lt S2.out)).trans S2.out)
  have L3 := Lib.hid (Sts.belowT L2.out hB)
  have F3 := Lib.hid (Sts.belowT F2.out hB)
  have Q3 := Lib.hid (Q2.out.trans (hB.mono Q2.out.size))
  have Y3 := Lib.hid (hO)
  have HNY := Lib.hid hO.nilcap
  have hrow2 := Lib.hid (fun q (e : (Value.slice a3 fs.length c3).ownBlock = some q) => (hO.ownB q e).2)
  have hrowL2 := Lib.hid (fun q (e : (Value.slice a3 fs.length c3).ownBlock = some q) => Nat.le_trans Q2.out.size (hO.ownB q e).1)
  have hsNX := hB.size
  clear hO
  clear hB S2 L2 F2 Q2
  clear X2
  have hs3 := Nat.le_refl V3.heap.size
  have hb9 := (Below.refl V3.heap.size V3).alloc (Nat.le_refl _) (.cells #[.int .u32 (una : Nat), .int .u32 (nxt : Nat), .int .u32 (high : Nat), .slice a' bs.length c'] 26)
  have B4 := Lib.hid (blk_new V3 (.cells #[.int .u32 (una : Nat), .int .u32 (nxt : Nat), .int .u32 (high : Nat), .slice a' bs.length c'] 26))
  have hs4 := Nat.le_trans hs3 hb9.size
  have X4 := Lib.hid (X3.out.below hb9)
  have Y4 := Lib.hid (Y3.out.below hb9)
  have S4 := Lib.hid ((hb9.block _ (blk_lt S3.out)).trans S3.out)
  have L4 := Lib.hid (Sts.belowT L3.out hb9)
  have F4 := Lib.hid (Sts.belowT F3.out hb9)
  have Q4 := Lib.hid (Q3.out.trans (hb9.mono Q3.out.size))
  clear hb9 S3 L3 F3 Q3
  clear X3 Y3
  go_upto_region 4 with fail
  obtain ⟨gx, hgx⟩ : ∃ q, V3.heap.size = q := ⟨_, rfl⟩
  have hgx_ := hgx
  generalize V3.alloc (.cells #[.int .u32 (una : Nat), .int .u32 (nxt : Nat), .int .u32 (high : Nat), .slice a' bs.length c'] 26) = V4 at S4 L4 F4 X4 Y4 B4 Q4 hs4 ⊢
  rw [hgx] at B4  ⊢
  clear hgx
  have hb_gx : V3.heap.size ≤ gx := by rw [← hgx_]; exact hs3
  have x0 := blk_cell B4.out 0
  have x1 := blk_cell B4.out 1
  have x2 := blk_cell B4.out 2
  have x3 := blk_cell B4.out 3
  go_wp2_with fail
  have hX := HPSent.out a' c' V4 (X4.out.sts encB) HNX.out
  refine hX.mono ?_
  clear hX
  rintro e V5 ⟨⟨a1, c1, rfl, hO⟩, hB⟩
  have hs5 := Nat.le_trans hs4 hB.size
  have X5 := Lib.hid (X4.out.below hB)
  have Y5 := Lib.hid (Y4.out.below hB)
  have S5 := Lib.hid ((hB.block _ (blk_lt S4.out)).trans S4.out)
  have B5 := Lib.hid ((hB.block _ (blk_lt B4.out)).trans B4.out)
  have L5 := Lib.hid (Sts.belowT L4.out hB)
  have F5 := Lib.hid (Sts.belowT F4.out hB)
  have Q5 := Lib.hid (Q4.out.trans (hB.mono Q4.out.size))
  have M5 := Lib.hid (hO.mono hs4)
  clear hO
  clear hB S4 B4 L4 F4 Q4 x0 x1 x2 x3
  clear X4 Y4
  have hb9 := (Below.refl V5.heap.size V5).alloc (Nat.le_refl _) (.cells #[.int .u32 (su : Nat), .int .u32 (sx : Nat), .int .u32 (sh : Nat), .slice a1 sl.length c1] 26)
  have D6 := Lib.hid (blk_new V5 (.cells #[.int .u32 (su : Nat), .int .u32 (sx : Nat), .int .u32 (sh : Nat), .slice a1 sl.length c1] 26))
  have hs6 := Nat.le_trans hs5 hb9.size
  have X6 := Lib.hid (X5.out.below hb9)
  have Y6 := Lib.hid (Y5.out.below hb9)
  have M6 := Lib.hid (M5.out.below hb9)
  have S6 := Lib.hid ((hb9.block _ (blk_lt S5.out)).trans S5.out)
  have B6 := Lib.hid ((hb9.block _ (blk_lt B5.out)).trans B5.out)
  have L6 := Lib.hid (Sts.belowT L5.out hb9)
  have F6 := Lib.hid (Sts.belowT F5.out hb9)
  have Q6 := Lib.hid (Q5.out.trans (hb9.mono Q5.out.size))
  clear hb9 S5 B5 L5 F5 Q5
  clear X5 Y5 M5
  go_upto_region 5 with fail
  obtain ⟨g1, hg1⟩ : ∃ q, V5.heap.size = q := ⟨_, rfl⟩
  have hg1_ := hg1
  generalize V5.alloc (.cells #[.int .u32 (su : Nat), .int .u32 (sx : Nat), .int .u32 (sh : Nat), .slice a1 sl.length c1] 26) = V6 at S6 B6 L6 F6 X6 Y6 M6 D6 Q6 hs6 ⊢
  rw [hg1] at D6  ⊢
  clear hg1
  have hb_g1 : V3.heap.size ≤ g1 := by rw [← hg1_]; exact hs5
  have x0 := blk_cell B6.out 0
  have x1 := blk_cell B6.out 1
  have x2 := blk_cell B6.out 2
  have x3 := blk_cell B6.out 3
  go_wp2_with fail
  have hX := ack_any una nxt high a' bs c' una a3 fs c3 V6 hu hx (X6.out.sts encB) (by omega) (Y6.out.sts encB) HFS.out (by omega)
  refine hX.mono ?_
  clear hX
  rintro e V7 ⟨⟨E2, bu, bx, bh, bl, k2, a4, c4, rfl, hAI, hO⟩, hB⟩
  have HBL := Lib.hid (ack_small hAI)
  have hbl := ack_len hAI
  clear hAI
  have hs7 := Nat.le_trans hs6 hB.size
  have X7 := Lib.hid (X6.out.below hB)
  have Y7 := Lib.hid (Y6.out.below hB)
  have M7 := Lib.hid (M6.out.below hB)
  have S7 := Lib.hid ((hB.block _ (blk_lt S6.out)).trans S6.out)
  have B7 := Lib.hid ((hB.block _ (blk_lt B6.out)).trans B6.out)
  have D7 := Lib.hid ((hB.block _ (blk_lt D6.out)).trans D6.out)
  have L7 := Lib.hid (Sts.belowT L6.out hB)
  have F7 := Lib.hid (Sts.belowT F6.out hB)
  have Q7 := Lib.hid (Q6.out.trans (hB.mono Q6.out.size))
  have R7 := Lib.hid (hO.mono hs6)
  clear hO
  clear hB S6 B6 D6 L6 F6 Q6 x0 x1 x2 x3
  clear X6 Y6 M6
  have hb9 := (Below.refl V7.heap.size V7).alloc (Nat.le_refl _) (.cells #[.int .u32 (bu : Nat), .int .u32 (bx : Nat), .int .u32 (bh : Nat), .slice a4 bl.length c4] 26)
  have E8 := Lib.hid (blk_new V7 (.cells #[.int .u32 (bu : Nat), .int .u32 (bx : Nat), .int .u32 (bh : Nat), .slice a4 bl.length c4] 26))
  have hs8 := Nat.le_trans hs7 hb9.size
  have X8 := Lib.hid (X7.out.below hb9)
  have Y8 := Lib.hid (Y7.out.below hb9)
  have M8 := Lib.hid (M7.out.below hb9)
  have R8 := Lib.hid (R7.out.below hb9)
  have S8 := Lib.hid ((hb9.block _ (blk_lt S7.out)).trans S7.out)
  have B8 := Lib.hid ((hb9.block _ (blk_lt B7.out)).trans B7.out)
  have D8 := Lib.hid ((hb9.block _ (blk_lt D7.out)).trans D7.out)
  have L8 := Lib.hid (Sts.belowT L7.out hb9)
  have F8 := Lib.hid (Sts.belowT F7.out hb9)
  have Q8 := Lib.hid (Q7.out.trans (hb9.mono Q7.out.size))
  clear hb9 S7 B7 D7 L7 F7 Q7
  clear X7 Y7 M7 R7
  go_upto_region 6 with fail
  obtain ⟨g2, hg2⟩ : ∃ q, V7.heap.size = q := ⟨_, rfl⟩
  have hg2_ := hg2
  generalize V7.alloc (.cells #[.int .u32 (bu : Nat), .int .u32 (bx : Nat), .int .u32 (bh : Nat), .slice a4 bl.length c4] 26) = V8 at S8 B8 D8 L8 F8 X8 Y8 M8 R8 E8 Q8 hs8 ⊢
  rw [hg2] at E8  ⊢
  clear hg2
  have hb_g2 : V3.heap.size ≤ g2 := by rw [← hg2_]; exact hs7
  have HNM := Lib.hid M8.out.nilcap
  have HNR := Lib.hid R8.out.nilcap
  refine wp_region_held_drew (S := fun W => Below V8.heap.size V8 W) (by kernel_rfl) (Below.refl _ _).drew (fun hHeld => ?_)
  refine wpAnyH_take (i := 0) (oi := _) (v := ?_) rfl (by kernel_rfl) (by kernel_rfl) (by kernel_rfl) (fun _ _ _ h => h) (Or.inl ⟨by rfl, ?_⟩) (by assumption) ?_
  rotate_left
  · intro w5 hSw
    clear hSw
    go_simp
    all_goals with_reducible rfl
  (try simp only [List.getElem_toArray]); (try simp only [List.getElem_cons_succ]); (try simp only [List.getElem_cons_zero]); try simp only [Act.put, List.setIfInBounds_toArray, List.set_cons_zero, List.set_cons_succ]
  refine wpAnyH_take (i := 1) (oi := _) (v := ?_) rfl (by kernel_rfl) (by kernel_rfl) (by kernel_rfl) (fun _ _ _ h => h) (Or.inl ⟨by rfl, ?_⟩) (by assumption) ?_
  rotate_left
  · intro w5 hSw
    have d3 := blk_cell ((hSw.block _ (blk_lt D8.out)).trans D8.out) 3
    clear hSw
    go_simp
    all_goals with_reducible rfl
  (try simp only [List.getElem_toArray]); (try simp only [List.getElem_cons_succ]); (try simp only [List.getElem_cons_zero]); try simp only [Act.put, List.setIfInBounds_toArray, List.set_cons_zero, List.set_cons_succ]
  refine wpAnyH_take (i := 3) (oi := _) (v := ?_) rfl (by kernel_rfl) (by kernel_rfl) (by kernel_rfl) (fun _ _ _ h => h) (Or.inl ⟨by rfl, ?_⟩) (by assumption) ?_
  rotate_left
  · intro w5 hSw
    clear hSw
    go_simp
    all_goals with_reducible rfl
  (try simp only [List.getElem_toArray]); (try simp only [List.getElem_cons_succ]); (try simp only [List.getElem_cons_zero]); try simp only [Act.put, List.setIfInBounds_toArray, List.set_cons_zero, List.set_cons_succ]
  refine wpAnyH_take (i := 4) (oi := _) (v := ?_) rfl (by kernel_rfl) (by kernel_rfl) (by kernel_rfl) (fun _ _ _ h => h) (Or.inl ⟨by rfl, ?_⟩) (by assumption) ?_
  rotate_left
  · intro w5 hSw
    have e3 := blk_cell ((hSw.block _ (blk_lt E8.out)).trans E8.out) 3
    clear hSw
    go_simp
    all_goals with_reducible rfl
  (try simp only [List.getElem_toArray]); (try simp only [List.getElem_cons_succ]); (try simp only [List.getElem_cons_zero]); try simp only [Act.put, List.setIfInBounds_toArray, List.set_cons_zero, List.set_cons_succ]
  refine wpAnyH_ready (rs := [2]) (by kernel_rfl) (by simp) ?_
  refine (AllReadyH.cons (o := _) rfl (fun K hK => ?_) AllReadyH.nil)
  · (try simp only [List.getElem_toArray]); (try simp only [List.getElem_cons_succ]); (try simp only [List.getElem_cons_zero])
    go_simp
    go_at_call 30
    refine (copy_bl a1 sl c1 _ (Sts.belowT (M8.out.sts encB) hHeld) (by omega) HNM.out).mono ?_
    rintro e5 W3 ⟨⟨aP, cP, rfl, hO⟩, hb⟩
    have OC1 := Lib.hid (hO.mono hHeld.size)
    have BC1 := Lib.hid (hHeld.trans (hb.mono hHeld.size))
    clear hO hb
    refine hK.out _ _ ?_ (fun hHeld => ?_)
    · exact BC1.out
    clear hK K
    (try simp only [List.getElem_toArray]); (try simp only [List.getElem_cons_succ]); (try simp only [List.getElem_cons_zero]); try simp only [Act.put, List.setIfInBounds_toArray, List.set_cons_zero, List.set_cons_succ]
    refine wpAnyH_ready (rs := [5]) (by kernel_rfl) (by simp) ?_
    refine (AllReadyH.cons (o := _) rfl (fun K hK => ?_) AllReadyH.nil)
    · (try simp only [List.getElem_toArray]); (try simp only [List.getElem_cons_succ]); (try simp only [List.getElem_cons_zero])
      go_simp
      go_at_call 30
      refine (copy_bl a4 bl c4 _ (Sts.belowT (R8.out.sts encB) hHeld) (by omega) HNR.out).mono ?_
      rintro e6 W4 ⟨⟨aQ, cQ, rfl, hO⟩, hb⟩
      have OC2 := Lib.hid (hO.mono hHeld.size)
      have BC2 := Lib.hid (hHeld.trans (hb.mono hHeld.size))
      have OC3 := Lib.hid (OC1.out.below hb)
      clear hO hb
      refine hK.out _ _ ?_ (fun hHeld => ?_)
      · exact BC2.out
      clear hK K
      (try simp only [List.getElem_toArray]); (try simp only [List.getElem_cons_succ]); (try simp only [List.getElem_cons_zero]); try simp only [Act.put, List.setIfInBounds_toArray, List.set_cons_zero, List.set_cons_succ]
      refine wpAnyH_ready (rs := [6]) (by kernel_rfl) (by simp) ?_
      refine (AllReadyH.cons (o := _) rfl (fun K hK => ?_) AllReadyH.nil)
      · (try simp only [List.getElem_toArray]); (try simp only [List.getElem_cons_succ]); (try simp only [List.getElem_cons_zero])
        go_simp
        refine hK.out _ _ ?_ (fun hHeld => ?_)
        · exact hHeld
        clear hK K
        (try simp only [List.getElem_toArray]); (try simp only [List.getElem_cons_succ]); (try simp only [List.getElem_cons_zero]); try simp only [Act.put, List.setIfInBounds_toArray, List.set_cons_zero, List.set_cons_succ]
        refine wpAnyH_ready (rs := [7]) (by kernel_rfl) (by simp) ?_
        refine (AllReadyH.cons (o := _) rfl (fun K hK => ?_) AllReadyH.nil)
        · (try simp only [List.getElem_toArray]); (try simp only [List.getElem_cons_succ]); (try simp only [List.getElem_cons_zero])
          go_simp
          refine hK.out _ _ ?_ (fun hHeld => ?_)
          · exact hHeld
          clear hK K
          (try simp only [List.getElem_toArray]); (try simp only [List.getElem_cons_succ]); (try simp only [List.getElem_cons_zero]); try simp only [Act.put, List.setIfInBounds_toArray, List.set_cons_zero, List.set_cons_succ]
          refine wpAnyH_done (by kernel_rfl) ?_ _
          obtain ⟨V9, hVV⟩ : ∃ V, V = W4 := ⟨_, rfl⟩
          subst hVV
          have hB := BC2.out
          have hs9 := Nat.le_trans hs8 hB.size
          have X9 := Lib.hid (X8.out.below hB)
          have Y9 := Lib.hid (Y8.out.below hB)
          have M9 := Lib.hid (M8.out.below hB)
          have R9 := Lib.hid (R8.out.below hB)
          have S9 := Lib.hid ((hB.block _ (blk_lt S8.out)).trans S8.out)
          have B9 := Lib.hid ((hB.block _ (blk_lt B8.out)).trans B8.out)
          have D9 := Lib.hid ((hB.block _ (blk_lt D8.out)).trans D8.out)
          have E9 := Lib.hid ((hB.block _ (blk_lt E8.out)).trans E8.out)
          have L9 := Lib.hid (Sts.belowT L8.out hB)
          have F9 := Lib.hid (Sts.belowT F8.out hB)
          have Q9 := Lib.hid (Q8.out.trans (hB.mono Q8.out.size))
          have P9 := Lib.hid (OC3.out.mono hs8)
          have K9 := Lib.hid (OC2.out.mono hs8)
          clear OC1 OC2 OC3 BC1 BC2 hHeld
          clear hB S8 B8 D8 E8 L8 F8 Q8
          clear X8 Y8 M8 R8
          go_wp2_with fail
          go_loopw [16] (fun iv wr => ∃ (i : Nat) (xs : List (Nat × Nat)), i ≤ bs.length ∧ iv = .int .i64 i ∧ Hid (xs.length = bs.length) ∧ OwnR 38 2 BC 0 a' xs c' wr ∧ V9.grownBy wr (Value.slice a' bs.length c').ownBlock) (fun iv _ => bs.length - (intOf iv).toNat)
          case atStart => exact ⟨0, bs, by omega, rfl, Lib.hid rfl, X9.out.mono (Nat.zero_le _), World.grownBy.refl _ _⟩
          case round =>
            obtain ⟨i, xs, hi9, rfl, HXL, hO, hG⟩ := hrel
            have OR := Lib.hid hO
            have GR := Lib.hid hG
            clear hO hG
            have hne10 : ∀ q, V3.heap.size ≤ q → some q ≠ (Value.slice a' bs.length c').ownBlock := fun q hq e => by have := hrow.out q e.symm; have := hsNX; omega
            have B10 := Lib.hid ((GR.out.block _ (blk_lt B9.out) (hne10 _ hb_gx)).trans B9.out)
            have x3 := blk_cell B10.out 3
            by_cases hlt : i < bs.length
            case neg =>
              obtain rfl : i = bs.length := by omega
              go_wp2_with fail
              have GF := Lib.hid GR.out
              have hne11 : ∀ q, V3.heap.size ≤ q → some q ≠ (Value.slice a' bs.length c').ownBlock := fun q hq e => by have := hrow.out q e.symm; have := hsNX; omega
              have D11 := Lib.hid ((GF.out.block _ (blk_lt D9.out) (hne11 _ hb_g1)).trans D9.out)
              have E11 := Lib.hid ((GF.out.block _ (blk_lt E9.out) (hne11 _ hb_g2)).trans E9.out)
              have M11 := Lib.hid (M9.out.grown GF.out (fun q e => hne11 q (M9.out.ownB q (by rw [e]; rfl)).1))
              have R11 := Lib.hid (R9.out.grown GF.out (fun q e => hne11 q (R9.out.ownB q (by rw [e]; rfl)).1))
              have P11 := Lib.hid (P9.out.grown GF.out (fun q e => hne11 q (P9.out.ownB q (by rw [e]; rfl)).1))
              have K11 := Lib.hid (K9.out.grown GF.out (fun q e => hne11 q (K9.out.ownB q (by rw [e]; rfl)).1))
              have Y11 : Hid (OwnR 38 2 BC 0 a3 fs c3 wr) := Lib.hid ((Y9.out.mono (Nat.zero_le _)).grown GF.out (fun q e e2 => by have h1 := (Y9.out.ownB q (by rw [e]; rfl)).1; have h2 := hrow.out q e2.symm; omega))
              obtain ⟨V11, hVV⟩ : ∃ V, V = wr := ⟨_, rfl⟩
              subst hVV
              have Q11 := Lib.hid (Q9.out.grown GF.out Q9.out.size (fun k e => hrowL.out k e))
              clear x3 OR GR GF B10 hne10
              go_loopw [17] (fun iv wr => ∃ (i : Nat) (xs : List (Nat × Nat)), i ≤ fs.length ∧ iv = .int .i64 i ∧ Hid (xs.length = fs.length) ∧ OwnR 38 2 BC 0 a3 xs c3 wr ∧ V11.grownBy wr (Value.slice a3 fs.length c3).ownBlock) (fun iv _ => fs.length - (intOf iv).toNat)
              case atStart => exact ⟨0, fs, by omega, rfl, Lib.hid rfl, Y11.out, World.grownBy.refl _ _⟩
              case round =>
                obtain ⟨i, xs, hi9, rfl, HXL, hO, hG⟩ := hrel
                have OR := Lib.hid hO
                have GR := Lib.hid hG
                clear hO hG
                by_cases hlt : i < fs.length
                case neg =>
                  obtain rfl : i = fs.length := by omega
                  have GF := Lib.hid GR.out
                  have hne13 : ∀ q, V3.heap.size ≤ q → some q ≠ (Value.slice a3 fs.length c3).ownBlock := fun q hq e => by have := hrow2.out q e.symm; have := hsNX; omega
                  have D13 := Lib.hid ((GF.out.block _ (blk_lt D11.out) (hne13 _ hb_g1)).trans D11.out)
                  have E13 := Lib.hid ((GF.out.block _ (blk_lt E11.out) (hne13 _ hb_g2)).trans E11.out)
                  have M13 := Lib.hid (M11.out.grown GF.out (fun q e => hne13 q (M11.out.ownB q (by rw [e]; rfl)).1))
                  have R13 := Lib.hid (R11.out.grown GF.out (fun q e => hne13 q (R11.out.ownB q (by rw [e]; rfl)).1))
                  have P13 := Lib.hid (P11.out.grown GF.out (fun q e => hne13 q (P11.out.ownB q (by rw [e]; rfl)).1))
                  have K13 := Lib.hid (K11.out.grown GF.out (fun q e => hne13 q (K11.out.ownB q (by rw [e]; rfl)).1))
                  obtain ⟨V13, hVV⟩ : ∃ V, V = wr := ⟨_, rfl⟩
                  subst hVV
                  have Q13 := Lib.hid (Q11.out.grown GF.out Q11.out.size (fun k e => hrowL2.out k e))
                  clear OR GR GF
                  have d3 := blk_cell D13.out 3
                  go_wp2_with fail
                  have hX := sameBlocks_one a1 aP sl sl c1 cP V13 (sts_blk (M13.out.sts encB) HSL.out) (sts_blk (P13.out.sts encB) HSL.out) (by omega) (by omega) rfl
                  refine hX.mono ?_
                  clear hX
                  rintro e V14 ⟨rfl, hB⟩
                  have E14 := Lib.hid ((hB.block _ (blk_lt E13.out)).trans E13.out)
                  have R14 := Lib.hid (R13.out.below hB)
                  have K14 := Lib.hid (K13.out.below hB)
                  have Q14 := Lib.hid (Q13.out.trans (hB.mono Q13.out.size))
                  clear hB d3
                  have e3 := blk_cell E14.out 3
                  go_wp2_with fail
                  have hX := sameBlocks_one a4 aQ bl bl c4 cQ V14 (sts_blk (R14.out.sts encB) HBL.out) (sts_blk (K14.out.sts encB) HBL.out) (by omega) (by omega) rfl
                  refine hX.mono ?_
                  clear hX
                  rintro e V15 ⟨rfl, hB⟩
                  go_wp2
                  go_ret
                  exact ⟨rfl, Q14.out.trans (hB.mono Q14.out.size)⟩
                case pos =>
                  have i1 : (i : Int) < (fs.length : Int) := by omega
                  have hil : i < xs.length := by rw [HXL.out]; exact hlt
                  obtain ⟨x, hx7⟩ : ∃ x, xs[i]? = some x := ⟨_, List.getElem?_eq_getElem hil⟩
                  obtain ⟨g7, rfl, _, hg7⟩ := OR.out.isSome (by omega)
                  obtain ⟨_, y0, y1⟩ := b_at (OR.out.sts encB) hx7
                  rw [Nat.zero_add] at y0 y1
                  have f0 := OR.out.frozenB (i * 2)
                  have f1 := OR.out.frozenB (i * 2 + 1)
                  have SB := OR.out.setB i (0, 0) hil
                  have O7 : Hid (OwnR 38 2 BC 0 (some ⟨g7, 0, none⟩) (xs.set i (0, 0)) c3 ((wr.setCell ⟨g7, i * 2, none⟩ (.int .u32 0)).setCell ⟨g7, i * 2 + 1, none⟩ (.int .u32 0))) := Lib.hid SB.1
                  have G7 : Hid (V11.grownBy ((wr.setCell ⟨g7, i * 2, none⟩ (.int .u32 0)).setCell ⟨g7, i * 2 + 1, none⟩ (.int .u32 0)) (some g7)) := Lib.hid (gr_trans GR.out SB.2)
                  clear SB hx7
                  go_wp2_with fail
                  go_roundw
                  case rel => exact ⟨i + 1, _, by omega, by go_num, Lib.hid (by rw [List.length_set, HXL.out]), O7.out, G7.out⟩
                  case measure => simp [intOf]; omega
            case pos =>
              have i1 : (i : Int) < (bs.length : Int) := by omega
              have hil : i < xs.length := by rw [HXL.out]; exact hlt
              obtain ⟨x, hx7⟩ : ∃ x, xs[i]? = some x := ⟨_, List.getElem?_eq_getElem hil⟩
              obtain ⟨g7, rfl, _, hg7⟩ := OR.out.isSome (by omega)
              obtain ⟨_, y0, y1⟩ := b_at (OR.out.sts encB) hx7
              rw [Nat.zero_add] at y0 y1
              have f0 := OR.out.frozenB (i * 2)
              have f1 := OR.out.frozenB (i * 2 + 1)
              have SB := OR.out.setB i (0, 0) hil
              have O7 : Hid (OwnR 38 2 BC 0 (some ⟨g7, 0, none⟩) (xs.set i (0, 0)) c' ((wr.setCell ⟨g7, i * 2, none⟩ (.int .u32 0)).setCell ⟨g7, i * 2 + 1, none⟩ (.int .u32 0))) := Lib.hid SB.1
              have G7 : Hid (V9.grownBy ((wr.setCell ⟨g7, i * 2, none⟩ (.int .u32 0)).setCell ⟨g7, i * 2 + 1, none⟩ (.int .u32 0)) (some g7)) := Lib.hid (gr_trans GR.out SB.2)
              clear SB hx7
              go_wp2_with fail
              go_roundw
              case rel => exact ⟨i + 1, _, by omega, by go_num, Lib.hid (by rw [List.length_set, HXL.out]), O7.out, G7.out⟩
              case measure => simp [intOf]; omega

theorem bulk_lenA {H : Type} (es : List (DataW H)) : es.length ≤ Rows.uptoBulkAll es := by
  induction es with
  | nil => simp [Rows.uptoBulkAll]
  | cons d es ih =>
    have h1 : 1 ≤ Rows.uptoBulk d := by cases d <;> first | (simp [Rows.uptoBulk]; done) | (rename_i l; cases l <;> simp [Rows.uptoBulk])
    simp only [Rows.uptoBulkAll, List.length_cons]
    omega

theorem bulk_len {H : Type} (es : List (DataW H)) : es.length ≤ Rows.uptoBulkAll es := by
  induction es with
  | nil => simp [Rows.uptoBulkAll]
  | cons d es ih =>
    have h1 : 1 ≤ Rows.uptoBulk d := by cases d <;> first | (simp [Rows.uptoBulk]; done) | (rename_i l; cases l <;> simp [Rows.uptoBulk])
    simp only [Rows.uptoBulkAll, List.length_cons]
    omega
theorem bulk_blocks {H : Type} {d : DataW H} {bs : List (Nat × Nat)} (h : (d = .nil ∧ bs = []) ∨ ∃ es ws : List (DataW H), d = .slice es ws ∧ bs.length = es.length) : bs.length ≤ Rows.uptoBulk d := by
  rcases h with ⟨_, rfl⟩ | ⟨es, ws, rfl, hl⟩
  · simp
  · have := bulk_len es
    simp only [Rows.uptoBulk]; omega

theorem of_len4 {α : Type} (l : List α) (h : l.length = 4) : ∃ x0 x1 x2 x3, l = [x0, x1, x2, x3] := by
  match l, h with
  | [x0, x1, x2, x3], _ => exact ⟨x0, x1, x2, x3, rfl⟩
theorem own : ownKnob Try.prog.godebug = none := by kernel_rfl
theorem laidOut : laidOutB Try.prog = true := by kernel_rfl

set_option maxRecDepth 100000 in
set_option maxHeartbeats 2000000 in
theorem contract (H : Type) (enc : TypeId × Value → H) (W : World) (base : Nat) (args : Array Value) (ds gs : List (DataW H)) (before : List MemPlace)
    (hval0 : ∀ (j : Nat) t v, Try.f7.params[j]? = some t → args[j]? = some v → Value.okWide Try.prog W .any base t v)
    (hW : DataW.Whole enc Try.prog Try.f7.params.toList Rows.scoreboardOwnSpec.vars false W args.toList ds gs before) (hk : Rows.uptoSmall H (ds ++ gs) = true) :
    Calls Try.prog 7 args W fun e W' => ∃ v, e = .returned v ∧ Rows.scoreboardOwnSpec.post enc Try.prog Try.f7 false true false false W args v W' := by
  have hval : ∀ (j : Nat) t v, Try.f7.params[j]? = some t → args[j]? = some v → Value.okWide Try.prog W .any base t v := hval0
  have hW' := hW
  obtain ⟨p, q, hA0, hV, rfl, hfz, hnd⟩ := hW
  have hA : DataW.TrodAll enc Try.prog W 0 (fun _ => true) true Try.f7.params.toList args.toList ds p := hA0
  rw [Try.params7] at hA hval
  obtain ⟨v0, vs0, d0, ds0, p0, q0, hargs, rfl, rfl, h0, r0⟩ := trodAll_cons hA
  obtain ⟨v1, vs1, d1, ds1, p1, q1, rfl, rfl, rfl, h1, r1⟩ := trodAll_cons r0
  obtain ⟨v2, vs2, d2, ds2, p2, q2, rfl, rfl, rfl, h2, r2⟩ := trodAll_cons r1
  obtain ⟨rfl, rfl, rfl⟩ := trodAll_nil r2
  obtain rfl : args = #[v0, v1, v2] := by cases args; simp_all
  obtain ⟨rfl, rfl⟩ := trodVars_none hV
  have k0 := h0
  have lt0 : ∀ x ∈ p0, x.block < W.heap.size := by obtain ⟨m, hm⟩ := k0; exact DataW.trod_lt m _ _ _ hm
  obtain ⟨vs0', ys0', m0, rfl, lv0, ly0, hd0, F0⟩ := open_agg Try.underlying25 (by kernel_rfl) (by kernel_rfl) (hval 0 25 v0 rfl rfl) h0
  obtain ⟨c0_0, c0_1, c0_2, c0_3, rfl⟩ := of_len4 _ lv0
  obtain ⟨y0_0, y0_1, y0_2, y0_3, rfl⟩ := of_len4 _ ly0
  simp only [List.map_cons, List.map_nil] at hd0
  obtain ⟨_, _, e, g, t0_0⟩ := F0 0 _ rfl
  obtain rfl := Option.some.inj e; obtain rfl := Option.some.inj g; clear e g
  obtain ⟨z0_0, e, _, w0_0⟩ := DataW.trod_int Try.underlying22 t0_0
  obtain rfl := (List.cons.inj e).1; clear e
  obtain ⟨n0_0, rfl, hn0_0⟩ := nat_of_u32 w0_0
  obtain ⟨_, _, e, g, t0_1⟩ := F0 1 _ rfl
  obtain rfl := Option.some.inj e; obtain rfl := Option.some.inj g; clear e g
  obtain ⟨z0_1, e, _, w0_1⟩ := DataW.trod_int Try.underlying22 t0_1
  obtain rfl := (List.cons.inj e).1; clear e
  obtain ⟨n0_1, rfl, hn0_1⟩ := nat_of_u32 w0_1
  obtain ⟨_, _, e, g, t0_2⟩ := F0 2 _ rfl
  obtain rfl := Option.some.inj e; obtain rfl := Option.some.inj g; clear e g
  obtain ⟨z0_2, e, _, w0_2⟩ := DataW.trod_int Try.underlying22 t0_2
  obtain rfl := (List.cons.inj e).1; clear e
  obtain ⟨n0_2, rfl, hn0_2⟩ := nat_of_u32 w0_2
  obtain ⟨_, _, e, g, t0_3⟩ := F0 3 _ rfl
  obtain rfl := Option.some.inj e; obtain rfl := Option.some.inj g; clear e g
  obtain ⟨a0_3, bs0_3, cap0_3, rfl, hbk0_3, hcap0_3, hlc0_3, hq0_3⟩ := open_blocks t0_3
  obtain ⟨a1, rfl, rfl, rfl, w1⟩ := open_int Try.underlying3 (hval 1 3 v1 rfl rfl) h1
  obtain ⟨a2, len2, cap2, rfl⟩ := okWide_slice Try.underlying23 (hval 2 23 v2 rfl rfl)
  have k2 := h2
  have lt2 : ∀ x ∈ p2, x.block < W.heap.size := by obtain ⟨m, hm⟩ := k2; exact DataW.trod_lt m _ _ _ hm
  have hbulk := of_decide_eq_true hk
  rw [hd0] at hbulk
  simp only [List.append_nil, Rows.uptoBulkAll, Rows.uptoBulk] at hbulk
  have hre0_3 : bs0_3.length ≤ 1048576 := by have := bulk_blocks hq0_3; omega
  obtain ⟨xs2, hxl2, hbt2, hcap2, hre2⟩ : ∃ xs : List Bk, xs.length = len2 ∧ Sts 2 Bk.cells Bk.ok W a2 xs ∧ (a2 = none → cap2 = 0) ∧ xs.length ≤ 1048576 := by
    obtain ⟨fuel, hf⟩ := h2
    obtain ⟨x, rs, c, hv, hs, hnc, hlc, hq⟩ := open_Bks (c := .slice a2 len2 cap2) hf
    simp only [Value.slice.injEq] at hv
    obtain ⟨rfl, rfl, rfl⟩ := hv
    refine ⟨rs, rfl, hs, hnc, ?_⟩
    rcases hq with ⟨_, rfl⟩ | ⟨es, ws, e, hl⟩
    · simp
    · rw [show d2 = DataW.slice es ws from e] at hbulk
      simp only [Rows.uptoBulk] at hbulk
      have := bulk_lenA es
      omega
  clear hA0
  obtain ⟨lo1, hi1⟩ := bounds_i64 w1
  subst hxl2
  refine (walk n0_0 n0_1 n0_2 a0_3 bs0_3 cap0_3 a1 a2 xs2 cap2 W hn0_0 hn0_1 hn0_2 hbk0_3 hcap0_3 hlc0_3 hre0_3 lo1 hi1 hbt2 hcap2 hre2).mono fun e W' ⟨he, bel⟩ => ?_
  subst he
  exact ⟨_, rfl, _, _, _, [], _, [], hW', trodAll_mk1 (shut_bool Try.underlying4 _), (trodAll_cons_mk (Below.trod laidOut (by kernel_rfl) (of_decide_eq_true (by kernel_rfl)) k0 bel lt0) (trodAll_cons_mk (shut_int Try.underlying3 w1) (trodAll_cons_mk (Below.trod laidOut (by kernel_rfl) (of_decide_eq_true (by kernel_rfl)) k2 bel lt2) trodAll_mk0))), rfl, bel.frame _, fun h => by cases h⟩

set_option maxRecDepth 100000 in
theorem lifted (os : Os) (started : os.Started) (H : Type) (enc : TypeId × Value → H) (F : Stop.Interp) :
    ReturnsInHanded {} Try.checked os 7 .any ((Rows.OpenSpec.upto Rows.scoreboardOwnSpec).pre6 enc Try.prog Try.f7 Rows.scoreboardOwnUptoRow.domain false) (((Rows.OpenSpec.upto Rows.scoreboardOwnSpec).at F).post enc Try.prog Try.f7 false true false false) := by
  refine returnsInHanded_of_cond (C := Try.checked) (s := Rows.OpenSpec.upto Rows.scoreboardOwnSpec) (k := Rows.uptoSmall) rfl own started (by kernel_rfl) Try.func7
    (OpenSpec.witness (enc := enc) (C := Try.checked) (s := Rows.OpenSpec.upto Rows.scoreboardOwnSpec) (k := Rows.uptoSmall) rfl false ⟨#[], #[.agg #[.int .u32 0, .int .u32 0, .int .u32 0, .slice none 0 0], .int .i64 0, .slice none 0 0], []⟩ 8 (by kernel_rfl) (by kernel_rfl) (by kernel_rfl)
      (x := ([.agg [.lit (.int .u32 0), .lit (.int .u32 0), .lit (.int .u32 0), .nil], .lit (.int .i64 0), .nil], [], [])) (by kernel_rfl) rfl (by kernel_rfl)) ?_
  intro W base args ds gs before hval hW _ hk _
  exact contract H enc W base args ds gs before hval hW hk

theorem over : Rows.scoreboardOwnUptoRow.holds Try.pinned (Rows.OpenSpec.upto Rows.scoreboardOwnSpec) :=
  OpenClaim.holds_of_cond 7 Try.f7 rfl rfl rfl rfl rfl rfl rfl ⟨rfl, rfl, rfl, rfl, rfl⟩ rfl rfl rfl rfl rfl (by kernel_rfl) Try.func7 (by kernel_rfl)
    (of_decide_eq_true (by kernel_rfl)) (by unfold Func.isWrapper; first | (rw [if_pos (by decide +kernel)]; kernel_rfl) | (rw [if_neg (by decide +kernel)]; exact ⟨rfl, rfl⟩))
    (fun os started H enc _ F => lifted os started H enc F)

end Go.Proofs.Ytcachmjcninkbaa.scoreboardOwn
namespace Go.Proofs.Ytcachmjcninkbaa
/-- The statement. -/
theorem scoreboardOwn_holds : Rows.ScoreboardOwnUptoSaid := scoreboardOwn.over
#print axioms scoreboardOwn_holds
end Go.Proofs.Ytcachmjcninkbaa
