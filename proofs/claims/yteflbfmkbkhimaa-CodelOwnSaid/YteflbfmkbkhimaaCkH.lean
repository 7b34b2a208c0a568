/- Codel: 'goOn': drops as long as the next one's tick has come. -/
import Derived.Test.YteflbfmkbkhimaaCkG
namespace Go.Proofs.Yteflbfmkbkhimaa
open Go.RowKit Go.Proofs.Yteflbfmkbkhimaa.Cd

def ms (t : Tn) : Nat := 2 * t.ql.length + (if t.dropping = true ∧ t.marked = false then 1 else 0)
theorem ms_go {t : Tn} (h1 : t.dropping = true) (h2 : t.marked = false) : ms t = 2 * t.ql.length + 1 := by unfold ms; rw [if_pos ⟨h1, h2⟩]
theorem ms_le (t : Tn) : ms t ≤ 2 * t.ql.length + 1 := by unfold ms; split <;> omega
theorem ms_off {t : Tn} (h : t.dropping = false ∨ t.marked = true) : ms t = 2 * t.ql.length := by
  have hn : ¬ (t.dropping = true ∧ t.marked = false) := by
    rintro ⟨h1, h2⟩
    rcases h with h | h
    · rw [h] at h1; cases h1
    · rw [h] at h2; cases h2
  unfold ms
  rw [if_neg hn]; rfl
set_option maxRecDepth 100000 in
set_option maxHeartbeats 2000000 in
theorem goOn_any (q : List Pkt) (t : Tn) (g : Nat) (w : World) (hS : w.heap[g]? = some (.cells #[.int .i64 t.tg, .int .i64 t.iv, .int .i64 t.mtu, .bool t.above, .int .i64 t.aboveAt, .bool t.dropping, .int .i64 t.nx, .int .i64 t.cn, .int .i64 t.la, .bool t.has, .int .i64 t.out.tick, .int .i64 t.out.sz, .bool t.out.ect, .int .i64 t.out.id, .bool t.marked, .slice t.da t.dl.length t.dc, .int .i64 t.left, .slice t.qa t.ql.length t.qc, .int .i64 t.oc, .int .i64 t.now, .bool t.ripe] 50 (0, 0))) (hT : TG g w t) (hK : TK q t) (hN : NB t) (hq : q.length ≤ 4398046510976) :
    Calls Try.prog 17 #[.pointer (some ⟨g, 0, none⟩)] w fun z w' => z = .returned (.tuple #[]) ∧ ∃ u : Tn, w'.heap[g]? = some (.cells #[.int .i64 u.tg, .int .i64 u.iv, .int .i64 u.mtu, .bool u.above, .int .i64 u.aboveAt, .bool u.dropping, .int .i64 u.nx, .int .i64 u.cn, .int .i64 u.la, .bool u.has, .int .i64 u.out.tick, .int .i64 u.out.sz, .bool u.out.ect, .int .i64 u.out.id, .bool u.marked, .slice u.da u.dl.length u.dc, .int .i64 u.left, .slice u.qa u.ql.length u.qc, .int .i64 u.oc, .int .i64 u.now, .bool u.ripe] 50 (0, 0)) ∧ TG g w' u ∧ TK q u ∧ (u.tg = t.tg ∧ u.mtu = t.mtu ∧ u.now = t.now) ∧ Below g w w' := by
  have S0 := Lib.hid hS
  have T0 := Lib.hid hT
  have K0 := Lib.hid hK
  have N0 := Lib.hid hN
  have hgs := blk_lt hS
  clear hS hT hK hN
  have c5 := blk_cell S0.out 5
  have c20 := blk_cell S0.out 20
  have f5 := blk_free S0.out 5
  have SF := blk_set S0.out 5 (.bool t.ripe)
  simp only [List.setIfInBounds_toArray, List.set_cons_zero, List.set_cons_succ] at SF
  have SFG : (w).grownBy ((w).setCell ⟨g, 5, none⟩ (.bool t.ripe)) (some g) := gr_set _ g 5 _
  have S1 : Hid ((w.setCell ⟨g, 5, none⟩ (.bool t.ripe)).heap[g]? = some (.cells #[.int .i64 t.tg, .int .i64 t.iv, .int .i64 t.mtu, .bool t.above, .int .i64 t.aboveAt, .bool t.ripe, .int .i64 t.nx, .int .i64 t.cn, .int .i64 t.la, .bool t.has, .int .i64 t.out.tick, .int .i64 t.out.sz, .bool t.out.ect, .int .i64 t.out.id, .bool t.marked, .slice t.da t.dl.length t.dc, .int .i64 t.left, .slice t.qa t.ql.length t.qc, .int .i64 t.oc, .int .i64 t.now, .bool t.ripe] 50 (0, 0))) := Lib.hid SF
  have T1 : Hid (TG g (w.setCell ⟨g, 5, none⟩ (.bool t.ripe)) { t with dropping := t.ripe }) := Lib.hid ((T0.out.grown SFG).congr rfl rfl rfl rfl rfl rfl rfl rfl rfl)
  have B1 : Hid (Below g w (w.setCell ⟨g, 5, none⟩ (.bool t.ripe))) := Lib.hid (gr_low SFG (by omega))
  clear SF SFG
  go_enter Try.func17, Try.ntmps17
  go_wp2_with fail
  clear c5 c20 f5 S0 T0
  generalize w.setCell ⟨g, 5, none⟩ (.bool t.ripe) = V1 at S1 T1 B1 ⊢
  go_loopg [] (2 * t.ql.length + 1) (fun (k : Nat) (wr : World) => ∃ u : Tn, wr.heap[g]? = some (.cells #[.int .i64 u.tg, .int .i64 u.iv, .int .i64 u.mtu, .bool u.above, .int .i64 u.aboveAt, .bool u.dropping, .int .i64 u.nx, .int .i64 u.cn, .int .i64 u.la, .bool u.has, .int .i64 u.out.tick, .int .i64 u.out.sz, .bool u.out.ect, .int .i64 u.out.id, .bool u.marked, .slice u.da u.dl.length u.dc, .int .i64 u.left, .slice u.qa u.ql.length u.qc, .int .i64 u.oc, .int .i64 u.now, .bool u.ripe] 50 (0, 0)) ∧ TG g wr u ∧ Hid (TK q u) ∧ Hid (NB u) ∧ Hid (u.dropping = true → u.ripe = true) ∧ Hid (u.tg = t.tg ∧ u.mtu = t.mtu ∧ u.now = t.now) ∧ Hid (ms u ≤ k) ∧ Below g w wr)
  case atStart => exact ⟨{ t with dropping := t.ripe }, S1.out, T1.out, Lib.hid (K0.out.re rfl rfl rfl rfl rfl rfl rfl rfl rfl rfl), Lib.hid (N0.out.re rfl rfl rfl), Lib.hid id, Lib.hid ⟨rfl, rfl, rfl⟩, Lib.hid (ms_le _), B1.out⟩
  case round =>
    obtain ⟨u, hS, hT, KR, NR, DR, ER, MR, hB⟩ := hrel
    have SR := Lib.hid hS
    have TR := Lib.hid hT
    have BR := Lib.hid hB
    have hgr := blk_lt hS
    clear hS hT hB S1 T1 B1 K0 N0
    by_cases hd : u.dropping = true
    case neg =>
      have hd2 : u.dropping = false := by simpa using hd
      have c5 : wr.cell? ⟨g, 5, none⟩ = some (.bool false) := (blk_cell SR.out 5).trans (congrArg (fun z => some (Value.bool z)) hd2)
      clear hd hd2
      go_wp2_with fail
      go_quiet (fail)
      have S2 := Lib.hid (blk_drewN SR.out nq)
      have T2 := Lib.hid (TR.out.grown (gr_drewN wr nq (some g)))
      have B2 := Lib.hid (below_drewN BR.out nq)
      go_wp2
      go_end0
      exact ⟨rfl, u, S2.out, T2.out, KR.out, ER.out, B2.out⟩
    case pos =>
    have c5 : wr.cell? ⟨g, 5, none⟩ = some (.bool true) := (blk_cell SR.out 5).trans (congrArg (fun z => some (Value.bool z)) hd)
    have HD := Lib.hid hd
    clear hd
    by_cases hm : u.marked = true
    case pos =>
      have c14 : wr.cell? ⟨g, 14, none⟩ = some (.bool true) := (blk_cell SR.out 14).trans (congrArg (fun z => some (Value.bool z)) hm)
      clear hm
      go_wp2_with fail
      go_quiet (fail)
      have S2 := Lib.hid (blk_drewN SR.out nq)
      have T2 := Lib.hid (TR.out.grown (gr_drewN wr nq (some g)))
      have B2 := Lib.hid (below_drewN BR.out nq)
      go_wp2
      go_end0
      exact ⟨rfl, u, S2.out, T2.out, KR.out, ER.out, B2.out⟩
    case neg =>
    have hm2 : u.marked = false := by simpa using hm
    have c14 : wr.cell? ⟨g, 14, none⟩ = some (.bool false) := (blk_cell SR.out 14).trans (congrArg (fun z => some (Value.bool z)) hm2)
    have HM := Lib.hid hm2
    clear hm hm2
    have c19 := blk_cell SR.out 19
    have c6 := blk_cell SR.out 6
    by_cases hn : u.nx ≤ u.now
    case neg =>
      have d1 : decide (u.nx ≤ u.now) = false := decide_eq_false hn
      go_wp2_with fail
      go_quiet (fail)
      have S2 := Lib.hid (blk_drewN SR.out nq)
      have T2 := Lib.hid (TR.out.grown (gr_drewN wr nq (some g)))
      have B2 := Lib.hid (below_drewN BR.out nq)
      go_wp2
      go_end0
      exact ⟨rfl, u, S2.out, T2.out, KR.out, ER.out, B2.out⟩
    case pos =>
    have d1 : decide (u.nx ≤ u.now) = true := decide_eq_true hn
    go_wp2_with fail
    go_quiet (fail)
    have S2 := Lib.hid (blk_drewN SR.out nq)
    have T2 := Lib.hid (TR.out.grown (gr_drewN wr nq (some g)))
    have B2 := Lib.hid (below_drewN BR.out nq)
    have hg2 : g < (wr.drewN nq).heap.size := hgr
    clear c5 c14 c19 c6 SR TR BR
    generalize wr.drewN nq = V2 at S2 T2 B2 hg2 ⊢
    obtain ⟨m0, m1⟩ := NR.out.cn
    obtain ⟨n0, n1⟩ := NR.out.nx
    obtain ⟨i0, i1⟩ := T2.out.iv
    have hw1 := T2.out.now.2
    obtain ⟨c, hc⟩ : ∃ z, min (u.cn + 1) 1073741824 = z := ⟨_, rfl⟩
    have hc1 : 1 ≤ c ∧ c ≤ 1073741824 := by omega
    have c7 := blk_cell S2.out 7
    have f7 := blk_free S2.out 7
    have SF := blk_set S2.out 7 (.int .i64 c)
    simp only [List.setIfInBounds_toArray, List.set_cons_zero, List.set_cons_succ] at SF
    have SFG : (V2).grownBy ((V2).setCell ⟨g, 7, none⟩ (.int .i64 c)) (some g) := gr_set _ g 7 _
    have S3 := Lib.hid SF
    have T3 : Hid (TG g ((V2).setCell ⟨g, 7, none⟩ (.int .i64 c)) { u with cn := c }) := Lib.hid ((T2.out.grown SFG).congr rfl rfl rfl rfl rfl rfl rfl rfl rfl)
    have B3 := Lib.hid (B2.out.trans (gr_low SFG (by omega)))
    clear SF SFG
    go_upto_region 3 with fail
    clear c7 f7 S2 T2 B2 hc
    generalize (V2).setCell ⟨g, 7, none⟩ (.int .i64 c) = V3 at S3 T3 B3 ⊢
    have hg3 : g < V3.heap.size := blk_lt S3.out
    have K3 : Hid (TK q { u with cn := c }) := Lib.hid (KR.out.re rfl rfl rfl rfl rfl rfl rfl rfl rfl rfl)
    have N3 : Hid (NB { u with cn := c }) := Lib.hid ⟨NR.out.nx, ⟨by show 0 ≤ c; omega, hc1.2⟩, NR.out.la⟩
    go_wp2_with fail
    refine (strike_any q { u with cn := c } g V3 S3.out T3.out K3.out N3.out (DR.out HD.out) HM.out hq).mono ?_
    rintro e V4 ⟨rfl, v, h1, h2, h3, h4⟩
    have S4 := Lib.hid h1
    have T4 := Lib.hid h2
    have K4 := Lib.hid h3
    have B4 := Lib.hid (B3.out.trans h4)
    have hg4 := blk_lt h1
    have hvc : v.cn = c := h3.cn
    have E4 : Hid (v.tg = t.tg ∧ v.mtu = t.mtu ∧ v.now = t.now) := Lib.hid ⟨h3.tg.trans ER.out.1, h3.mtu.trans ER.out.2.1, h3.now.trans ER.out.2.2⟩
    have hp : (v.marked = true ∧ v.ql.length = u.ql.length) ∨ v.ql.length + 1 ≤ u.ql.length ∨ (v.ql.length = u.ql.length ∧ v.ripe = false) := h3.prog
    have HP := Lib.hid hp
    have HVC := Lib.hid hvc
    have hgk : 2 * u.ql.length + 1 ≤ gk := by have := MR.out; rwa [ms_go HD.out HM.out] at this
    have HGK := Lib.hid hgk
    obtain ⟨j0, j1⟩ := h2.iv
    obtain ⟨k0, k1⟩ := h3.N.nx
    clear h1 h2 h3 h4 S3 T3 B3 K3 N3 hvc hp hgk
    have c5 := blk_cell S4.out 5
    have c20 := blk_cell S4.out 20
    have f5 := blk_free S4.out 5
    have SF := blk_set S4.out 5 (.bool v.ripe)
    simp only [List.setIfInBounds_toArray, List.set_cons_zero, List.set_cons_succ] at SF
    have SFG : (V4).grownBy ((V4).setCell ⟨g, 5, none⟩ (.bool v.ripe)) (some g) := gr_set _ g 5 _
    have S5 := Lib.hid SF
    have T5 : Hid (TG g ((V4).setCell ⟨g, 5, none⟩ (.bool v.ripe)) { v with dropping := v.ripe }) := Lib.hid ((T4.out.grown SFG).congr rfl rfl rfl rfl rfl rfl rfl rfl rfl)
    have B5 := Lib.hid (B4.out.trans (gr_low SFG (by omega)))
    clear SF SFG
    go_upto_region 5 with fail
    clear c5 c20 f5 S4 T4 B4
    generalize (V4).setCell ⟨g, 5, none⟩ (.bool v.ripe) = V5 at S5 T5 B5 ⊢
    have hg5 : g < V5.heap.size := blk_lt S5.out
    by_cases hr : v.ripe = true
    case neg =>
      have hr2 : v.ripe = false := by simpa using hr
      have c5 : V5.cell? ⟨g, 5, none⟩ = some (.bool false) := (blk_cell S5.out 5).trans (congrArg (fun z => some (Value.bool z)) hr2)
      have HR := Lib.hid hr2
      clear hr hr2
      go_wp2
      go_roundg (ms { v with dropping := v.ripe })
      case measure =>
        rw [ms_off (t := { v with dropping := v.ripe }) (.inl HR.out)]
        show 2 * v.ql.length < gk
        have h1 := HGK.out
        rcases HP.out with ⟨_, h⟩ | h | ⟨h, _⟩ <;> omega
      case rel => exact ⟨{ v with dropping := v.ripe }, S5.out, T5.out, Lib.hid (K4.out.K.re rfl rfl rfl rfl rfl rfl rfl rfl rfl rfl), Lib.hid (K4.out.N.re rfl rfl rfl), Lib.hid id, E4, Lib.hid (Nat.le_refl _), B5.out⟩
    case pos =>
      have c5 : V5.cell? ⟨g, 5, none⟩ = some (.bool true) := (blk_cell S5.out 5).trans (congrArg (fun z => some (Value.bool z)) hr)
      have HR := Lib.hid hr
      clear hr
      have hI : OV v.iv := ⟨j0, j1⟩
      have hC : OV v.cn := by rw [HVC.out]; exact hc1
      have hk1 : v.nx ≤ 2199023255552 := by
        have h5 : v.nx = u.nx := K4.out.nx
        omega
      obtain ⟨z, hz⟩ : ∃ z, lw v.nx v.iv v.cn = z := ⟨_, rfl⟩
      have hzb := lw_bd k0 hI hC
      rw [hz] at hzb
      have HNX := Lib.hid (fun W => next_q v.nx v.iv v.cn W ⟨k0, by omega⟩ hI hC)
      rw [hz] at HNX
      have HZB := Lib.hid hzb
      clear hI hC hz hzb
      go_upto_region 6 with fail
      clear c5
      have c6 := blk_cell S5.out 6
      have c1 := blk_cell S5.out 1
      have c7 := blk_cell S5.out 7
      refine wp_region_still_tail 20 (by kernel_rfl) (by kernel_rfl) ?_
      simp only [List.take_succ_cons, List.take_zero, List.drop_succ_cons, List.drop_zero]
      repeat (first | still_call (HNX.out _) | still_step)
      refine wpStill_nil ?_
      change wpList _ _ _ _ _ V5.drew
      clear c6 c1 c7
      have S6 := Lib.hid (blk_drew S5.out)
      have T6 := Lib.hid (T5.out.grown (gr_drew V5 (some g)))
      have B6 := Lib.hid (B5.out.trans (gr_low (gr_drew V5 (some g)) (by omega)))
      clear S5 T5 B5
      generalize V5.drew = V6 at S6 T6 B6 ⊢
      have hg6 : g < V6.heap.size := blk_lt S6.out
      have c6 := blk_cell S6.out 6
      have f6 := blk_free S6.out 6
      have SF := blk_set S6.out 6 (.int .i64 z)
      simp only [List.setIfInBounds_toArray, List.set_cons_zero, List.set_cons_succ] at SF
      have SFG : (V6).grownBy ((V6).setCell ⟨g, 6, none⟩ (.int .i64 z)) (some g) := gr_set _ g 6 _
      have S7 := Lib.hid SF
      have T7 : Hid (TG g ((V6).setCell ⟨g, 6, none⟩ (.int .i64 z)) { v with dropping := v.ripe, nx := z }) := Lib.hid ((T6.out.grown SFG).congr rfl rfl rfl rfl rfl rfl rfl rfl rfl)
      have B7 := Lib.hid (B6.out.trans (gr_low SFG (by omega)))
      clear SF SFG
      go_wp2
      go_roundg (ms { v with dropping := v.ripe, nx := z })
      case measure =>
        have h1 := HGK.out
        have h2 : ms { v with dropping := v.ripe, nx := z } ≤ 2 * v.ql.length + 1 := ms_le _
        rcases HP.out with ⟨h3, h⟩ | h | ⟨h, h3⟩
        · rw [ms_off (t := { v with dropping := v.ripe, nx := z }) (.inr h3)]
          show 2 * v.ql.length < gk
          omega
        · omega
        · rw [HR.out] at h3; cases h3
      case rel => exact ⟨{ v with dropping := v.ripe, nx := z }, S7.out, T7.out, Lib.hid (K4.out.K.re rfl rfl rfl rfl rfl rfl rfl rfl rfl rfl), Lib.hid ⟨⟨HZB.out.1, by show z ≤ _; have := HZB.out.2; omega⟩, K4.out.N.cn, K4.out.N.la⟩, Lib.hid id, E4, Lib.hid (Nat.le_refl _), B7.out⟩
end Go.Proofs.Yteflbfmkbkhimaa
