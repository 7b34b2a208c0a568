/- Codel: 'strike': the packet that was taken is marked, or dropped. -/
import Derived.Test.YteflbfmkbkhimaaCkN
import Derived.BigQuiet
import Derived.BigRegion
import Derived.Deep.DeepCutAuto
import Derived.Deep.RegionLaw
import Derived.StillTailTactics
namespace Go.Proofs.Yteflbfmkbkhimaa
open Go.RowKit

set_option maxRecDepth 100000 in
set_option maxHeartbeats 1000000 in
theorem strike_ect (t : Tn) (g : Nat) (w : World) (hS : w.heap[g]? = some (.cells #[.int .i64 t.tg, .int .i64 t.iv, .int .i64 t.mtu, .bool t.above, .int .i64 t.aboveAt, .bool t.dropping, .int .i64 t.nx, .int .i64 t.cn, .int .i64 t.la, .bool t.has, .int .i64 t.out.tick, .int .i64 t.out.sz, .bool t.out.ect, .int .i64 t.out.id, .bool t.marked, .slice t.da t.dl.length t.dc, .int .i64 t.left, .slice t.qa t.ql.length t.qc, .int .i64 t.oc, .int .i64 t.now, .bool t.ripe] 50 (0, 0))) (he : t.out.ect = true) :
    Calls Try.prog 21 #[.pointer (some ⟨g, 0, none⟩)] w fun z w' => z = .returned (.tuple #[]) ∧ w'.heap[g]? = some (.cells #[.int .i64 t.tg, .int .i64 t.iv, .int .i64 t.mtu, .bool t.above, .int .i64 t.aboveAt, .bool t.dropping, .int .i64 t.nx, .int .i64 t.cn, .int .i64 t.la, .bool t.has, .int .i64 t.out.tick, .int .i64 t.out.sz, .bool t.out.ect, .int .i64 t.out.id, .bool true, .slice t.da t.dl.length t.dc, .int .i64 t.left, .slice t.qa t.ql.length t.qc, .int .i64 t.oc, .int .i64 t.now, .bool t.ripe] 50 (0, 0)) ∧ w.grownBy w' (some g) := by
  have S1 := Lib.hid hS
  have c12 : w.cell? ⟨g, 12, none⟩ = some (.bool true) := by rw [blk_cell hS 12]; exact congrArg (fun z => some (Value.bool z)) he
  have c14 := blk_cell hS 14
  have f14 := blk_free hS 14
  clear hS he
  have SF := blk_set S1.out 14 (.bool true)
  simp only [List.setIfInBounds_toArray, List.set_cons_zero, List.set_cons_succ] at SF
  have SFG : (w).grownBy ((w).setCell ⟨g, 14, none⟩ (.bool true)) (some g) := gr_set _ g 14 _
  have SF1 := Lib.hid SF
  have SG1 := Lib.hid SFG
  clear SF SFG
  go_enter Try.func21, Try.ntmps21
  go_wp2
  (try simp only [Exit.inBlock, Exit.then])
  refine bodyPost_ret (results_none rfl _ _ _) rfl ?_
  exact ⟨rfl, SF1.out, SG1.out⟩

set_option maxRecDepth 100000 in
set_option maxHeartbeats 1000000 in
theorem strike_drop (t : Tn) (g : Nat) (w : World) (hS : w.heap[g]? = some (.cells #[.int .i64 t.tg, .int .i64 t.iv, .int .i64 t.mtu, .bool t.above, .int .i64 t.aboveAt, .bool t.dropping, .int .i64 t.nx, .int .i64 t.cn, .int .i64 t.la, .bool t.has, .int .i64 t.out.tick, .int .i64 t.out.sz, .bool t.out.ect, .int .i64 t.out.id, .bool t.marked, .slice t.da t.dl.length t.dc, .int .i64 t.left, .slice t.qa t.ql.length t.qc, .int .i64 t.oc, .int .i64 t.now, .bool t.ripe] 50 (0, 0))) (he : t.out.ect = false) (h : TG g w t) (hl : t.dl.length + 1 + t.ql.length ≤ 4398046510976) :
    Calls Try.prog 21 #[.pointer (some ⟨g, 0, none⟩)] w fun z w' => z = .returned (.tuple #[]) ∧ ∃ a c, w'.heap[g]? = some (.cells #[.int .i64 (takeF { t with dl := t.dl ++ [t.out], da := a, dc := c }).tg, .int .i64 (takeF { t with dl := t.dl ++ [t.out], da := a, dc := c }).iv, .int .i64 (takeF { t with dl := t.dl ++ [t.out], da := a, dc := c }).mtu, .bool (takeF { t with dl := t.dl ++ [t.out], da := a, dc := c }).above, .int .i64 (takeF { t with dl := t.dl ++ [t.out], da := a, dc := c }).aboveAt, .bool (takeF { t with dl := t.dl ++ [t.out], da := a, dc := c }).dropping, .int .i64 (takeF { t with dl := t.dl ++ [t.out], da := a, dc := c }).nx, .int .i64 (takeF { t with dl := t.dl ++ [t.out], da := a, dc := c }).cn, .int .i64 (takeF { t with dl := t.dl ++ [t.out], da := a, dc := c }).la, .bool (takeF { t with dl := t.dl ++ [t.out], da := a, dc := c }).has, .int .i64 (takeF { t with dl := t.dl ++ [t.out], da := a, dc := c }).out.tick, .int .i64 (takeF { t with dl := t.dl ++ [t.out], da := a, dc := c }).out.sz, .bool (takeF { t with dl := t.dl ++ [t.out], da := a, dc := c }).out.ect, .int .i64 (takeF { t with dl := t.dl ++ [t.out], da := a, dc := c }).out.id, .bool (takeF { t with dl := t.dl ++ [t.out], da := a, dc := c }).marked, .slice (takeF { t with dl := t.dl ++ [t.out], da := a, dc := c }).da (takeF { t with dl := t.dl ++ [t.out], da := a, dc := c }).dl.length (takeF { t with dl := t.dl ++ [t.out], da := a, dc := c }).dc, .int .i64 (takeF { t with dl := t.dl ++ [t.out], da := a, dc := c }).left, .slice (takeF { t with dl := t.dl ++ [t.out], da := a, dc := c }).qa (takeF { t with dl := t.dl ++ [t.out], da := a, dc := c }).ql.length (takeF { t with dl := t.dl ++ [t.out], da := a, dc := c }).qc, .int .i64 (takeF { t with dl := t.dl ++ [t.out], da := a, dc := c }).oc, .int .i64 (takeF { t with dl := t.dl ++ [t.out], da := a, dc := c }).now, .bool (takeF { t with dl := t.dl ++ [t.out], da := a, dc := c }).ripe] 50 (0, 0)) ∧ TG g w' (takeF { t with dl := t.dl ++ [t.out], da := a, dc := c }) ∧ Below g w w' := by
  have S1 := Lib.hid hS
  have H := Lib.hid h
  have hgs := blk_lt hS
  have c12 : w.cell? ⟨g, 12, none⟩ = some (.bool false) := by rw [blk_cell hS 12]; exact congrArg (fun z => some (Value.bool z)) he
  clear hS h
  go_enter Try.func21, Try.ntmps21
  go_upto_region 2 with fail
  clear c12
  go_cut [] (fun (wx : World) => ∃ a c, wx.heap[g]? = some (.cells #[.int .i64 t.tg, .int .i64 t.iv, .int .i64 t.mtu, .bool t.above, .int .i64 t.aboveAt, .bool t.dropping, .int .i64 t.nx, .int .i64 t.cn, .int .i64 t.la, .bool t.has, .int .i64 t.out.tick, .int .i64 t.out.sz, .bool t.out.ect, .int .i64 t.out.id, .bool t.marked, .slice a (t.dl ++ [t.out]).length c, .int .i64 t.left, .slice t.qa t.ql.length t.qc, .int .i64 t.oc, .int .i64 t.now, .bool t.ripe] 50 (0, 0)) ∧ TG g wx { t with dl := t.dl ++ [t.out], da := a, dc := c } ∧ Below g w wx)
  case first =>
    have c10 := blk_cell S1.out 10
    have c11 := blk_cell S1.out 11
    have c12 := blk_cell S1.out 12
    have c13 := blk_cell S1.out 13
    have c15 := blk_cell S1.out 15
    have HO := Lib.hid H.out.O
    clear he
    obtain ⟨W1, hW1⟩ : ∃ W, (w.alloc (.cells #[.int .i64 t.out.tick, .int .i64 t.out.sz, .bool t.out.ect, .int .i64 t.out.id] 30)).drew = W := ⟨_, rfl⟩
    have hbW : Below w.heap.size w W1 := by rw [← hW1]; exact ((Below.refl w.heap.size w).alloc (Nat.le_refl _) _).drew
    have O1 := Lib.hid (HO.out.below hbW)
    have Y1 : Hid (Sts 4 KC Tr W1 (some ⟨w.heap.size, 0, none⟩) [t.out]) := Lib.hid (by rw [← hW1]; exact (sts_new encK w [t.out] 30 (0, 0)))
    have SW := Lib.hid ((hbW.block _ hgs).trans S1.out)
    have hlen : (t.dl.length + [t.out].length) * 32 ≤ 140737488355328 := by simp only [List.length_cons, List.length_nil]; omega
    have hml : t.dl.length + [t.out].length ≤ maxLen := by unfold maxLen; simp only [List.length_cons, List.length_nil]; omega
    have hB1 : g + 1 ≤ W1.heap.size := by have := hbW.size; omega
    have BW := Lib.hid hbW
    clear hbW
    have x15 := blk_cell SW.out 15
    have HGG : Hid (∀ V3, W1.grownBy V3 (Value.slice t.da t.dl.length t.dc).ownBlock → V3.heap[g]? = some (.cells #[.int .i64 t.tg, .int .i64 t.iv, .int .i64 t.mtu, .bool t.above, .int .i64 t.aboveAt, .bool t.dropping, .int .i64 t.nx, .int .i64 t.cn, .int .i64 t.la, .bool t.has, .int .i64 t.out.tick, .int .i64 t.out.sz, .bool t.out.ect, .int .i64 t.out.id, .bool t.marked, .slice t.da t.dl.length t.dc, .int .i64 t.left, .slice t.qa t.ql.length t.qc, .int .i64 t.oc, .int .i64 t.now, .bool t.ripe] 50 (0, 0)) ∧ Below g w V3) := Lib.hid (fun V3 hg3 => ⟨(hg3.block g (by omega) (fun e => by have := (O1.out.ownB g e.symm).1; omega)).trans SW.out, (BW.out.mono (Nat.le_of_lt hgs)).grown hg3 (by omega) (fun k e => by have := (O1.out.ownB k e).1; omega)⟩)
    go_region_law (refine step_append_r (w := W1) (t := 26) (e := 30) (z := .agg #[.int .i64 0, .int .i64 0, .bool false, .int .i64 0]) (m := 4) (bz := 32) (cells := KC) (xs := t.dl) (ys := [t.out]) (cap := t.dc) (dap := 1) (n := 1) (a := t.da) rfl elemK encK (.tmp 17) (.tmp 23) rfl (g + 1) rfl O1.out Y1.out (by intro e; cases e) (by simp [Act.eval]) (by simp [Act.eval]) hlen hml hB1 ?_; intro a3 c3 V3 O3 b3 g3; have O3h := Lib.hid O3; have G3h := Lib.hid (HGG.out V3 g3); have u15 := blk_cell G3h.out.1 15; have v15 := blk_free G3h.out.1 15; clear O3 b3 g3)
    all_goals
      go_wp2_with fail
      go_meet
      obtain ⟨S3, B3⟩ := G3h.out
      have S4 := blk_set S3 15 (.slice a3 (t.dl ++ [t.out]).length c3)
      simp only [List.setIfInBounds_toArray, List.set_cons_zero, List.set_cons_succ] at S4
      have hg4 := gr_set V3 g 15 (.slice a3 (t.dl ++ [t.out]).length c3)
      have hsz := blk_lt S3
      have B4 := B3.trans (gr_low hg4 (by omega))
      rw [show (t.dl.length + 1) = (t.dl ++ [t.out]).length by simp]
      refine ⟨a3, c3, S4, ⟨sts_below H.out.L B4 H.out.bg, H.out.bg, H.out.cap, H.out.v, ?_, H.out.now, H.out.iv, H.out.oc⟩, B4⟩
      exact O3h.out.grown hg4 (fun k e => by have := (O3h.out.ownB k (by rw [e]; rfl)).1; intro e2; have := Option.some.inj e2; omega)
  case rest =>
    obtain ⟨a, c, hS, hT, hB⟩ := hcut
    obtain ⟨V2, hVV⟩ : ∃ V, V = wc := ⟨_, rfl⟩
    subst hVV
    have S2 := Lib.hid hS
    have T2 := Lib.hid hT
    have B2 := Lib.hid hB
    have hg2 := blk_lt hS
    clear hS hT hB S1 H
    go_wp2_with fail
    refine (take_tg { t with dl := t.dl ++ [t.out], da := a, dc := c } g V2 S2.out T2.out (by dsimp only; omega)).mono ?_
    rintro e V3 ⟨rfl, h1, h2, h3⟩
    have S3 := Lib.hid h1
    have T3 := Lib.hid h2
    have B3 := Lib.hid (B2.out.trans (gr_low h3 (by omega)))
    clear h1 h2 h3
    go_wp2
    go_end0
    exact ⟨rfl, a, c, S3.out, T3.out, B3.out⟩
end Go.Proofs.Yteflbfmkbkhimaa
