/- Codel: 'strike' by one word; 'begin' and 'goOn' over a turn. -/
import Derived.Test.YteflbfmkbkhimaaCkS
import Derived.Test.YteflbfmkbkhimaaCdP
import Derived.Deep.LoopGhost
namespace Go.Proofs.Yteflbfmkbkhimaa
open Go.RowKit Go.Proofs.Yteflbfmkbkhimaa.Cd

theorem next_q (a i c : Int) (w : World) (hA : 0 ≤ a ∧ a ≤ 4611686018427387904) (hI : OV i) (hC : OV c) :
    Calls Try.prog 20 #[.int .i64 a, .int .i64 i, .int .i64 c] w fun e w' => e = .returned (.int .i64 (lw a i c)) ∧ w' = w :=
  (next_ok a i c w hA hI hC).mono (fun _ _ ⟨h1, h2⟩ => ⟨h1, h2.symm⟩)
theorem lw_bd {a i c : Int} (ha : 0 ≤ a) (hI : OV i) (hC : OV c) : 0 ≤ lw a i c ∧ lw a i c ≤ a + 1073741824 := by
  obtain ⟨h1, h2⟩ := ln_rt hC
  obtain ⟨i0, i1⟩ := hI
  unfold lw
  generalize sqrt2 (ln c) = R at h1 h2 ⊢
  have hr : (65536 : Int) ≤ (R : Int) := by omega
  have h3 : 0 ≤ i * 65536 / (R : Int) := Int.ediv_nonneg (by omega) (by omega)
  have h4 : i * 65536 / (R : Int) ≤ i := by
    have h5 : i * 65536 / (R : Int) ≤ i * (R : Int) / (R : Int) := Int.ediv_le_ediv (by omega) (Int.mul_le_mul_of_nonneg_left hr (by omega))
    rwa [Int.mul_ediv_cancel _ (by omega)] at h5
  omega
theorem TK.re {q : List Pkt} {t u : Tn} (h : TK q t) (h1 : u.tg = t.tg) (h2 : u.mtu = t.mtu) (h3 : u.now = t.now) (h4 : u.has = t.has) (h5 : u.out = t.out) (h6 : u.marked = t.marked) (h7 : u.dl = t.dl) (h8 : u.ql = t.ql) (h9 : u.oc = t.oc) (h10 : u.ripe = t.ripe) : TK q u :=
  ⟨by rw [h7, h4, h5, h8]; exact h.all, by rw [h4, h8]; exact h.none, by rw [h9, h8]; exact h.oc, by rw [h10, h4, h1, h3, h5, h2, h9]; exact h.ripe, by rw [h7, h1, h3, h2]; exact h.drop, by rw [h6, h4, h5, h1, h3, h2, h9]; exact h.mark⟩
/-- The numbers of a turn. -/
structure NB (t : Tn) : Prop where
  nx : 0 ≤ t.nx ∧ t.nx ≤ 4398046511104
  cn : 0 ≤ t.cn ∧ t.cn ≤ 1073741824
  la : 0 ≤ t.la ∧ t.la ≤ 1073741824
theorem NB.re {t u : Tn} (h : NB t) (h1 : u.nx = t.nx) (h2 : u.cn = t.cn) (h3 : u.la = t.la) : NB u := ⟨by rw [h1]; exact h.nx, by rw [h2]; exact h.cn, by rw [h3]; exact h.la⟩
/-- What 'strike' makes of a turn. -/
structure SK (q : List Pkt) (t u : Tn) : Prop where
  K : TK q u
  N : NB u
  cn : u.cn = t.cn
  nx : u.nx = t.nx
  tg : u.tg = t.tg
  mtu : u.mtu = t.mtu
  now : u.now = t.now
  prog : (u.marked = true ∧ u.ql.length = t.ql.length) ∨ u.ql.length + 1 ≤ t.ql.length ∨ (u.ql.length = t.ql.length ∧ u.ripe = false)
theorem takeF_prog (t : Tn) : (takeF t).ql.length + 1 ≤ t.ql.length ∨ ((takeF t).ql.length = t.ql.length ∧ (takeF t).ripe = false) := by
  cases hq : t.ql with
  | nil => right; rw [takeF_nil hq]; exact ⟨by show t.ql.length = _; rw [hq], rfl⟩
  | cons x r =>
    left
    rw [takeF_cons hq]
    unfold takeN
    split
    · exact Nat.le_refl _
    · split
      · exact Nat.le_refl _
      · exact Nat.le_refl _
theorem strikeF_sk {q : List Pkt} {t : Tn} (h : TK q t) (hN : NB t) (hr : t.ripe = true) (hm : t.marked = false) (a : Option Addr) (c : Nat) : SK q t (strikeF t a c) := by
  have h1 := strikeF_tk h hr hm a c
  refine ⟨h1, ?_, ?_, ?_, ?_, ?_, ?_, ?_⟩
  all_goals
    unfold strikeF
    split
  · exact hN.re rfl rfl rfl
  · obtain ⟨_, _, _, _, e1, e2, e3, _⟩ := takeF_keep { t with dl := t.dl ++ [t.out], da := a, dc := c }
    exact hN.re e1 e2 e3
  · rfl
  · exact (takeF_keep { t with dl := t.dl ++ [t.out], da := a, dc := c }).2.2.2.2.2.1
  · rfl
  · exact (takeF_keep { t with dl := t.dl ++ [t.out], da := a, dc := c }).2.2.2.2.1
  · rfl
  · exact (takeF_keep { t with dl := t.dl ++ [t.out], da := a, dc := c }).1
  · rfl
  · exact (takeF_keep { t with dl := t.dl ++ [t.out], da := a, dc := c }).2.2.1
  · rfl
  · exact (takeF_keep { t with dl := t.dl ++ [t.out], da := a, dc := c }).2.2.2.2.2.2.2.2.2.2.2.2
  · exact .inl ⟨rfl, rfl⟩
  · exact .inr (takeF_prog { t with dl := t.dl ++ [t.out], da := a, dc := c })
theorem TK.room {q : List Pkt} {t : Tn} (h : TK q t) (hr : t.ripe = true) : t.dl.length + 1 + t.ql.length = q.length := by
  have h1 := h.all
  rw [if_pos (h.ripe hr).1] at h1
  rw [← h1]
  simp only [List.length_append, List.length_cons, List.length_nil]
  omega
set_option maxRecDepth 100000 in
theorem strike_any (q : List Pkt) (t : Tn) (g : Nat) (w : World) (hS : w.heap[g]? = some (.cells #[.int .i64 t.tg, .int .i64 t.iv, .int .i64 t.mtu, .bool t.above, .int .i64 t.aboveAt, .bool t.dropping, .int .i64 t.nx, .int .i64 t.cn, .int .i64 t.la, .bool t.has, .int .i64 t.out.tick, .int .i64 t.out.sz, .bool t.out.ect, .int .i64 t.out.id, .bool t.marked, .slice t.da t.dl.length t.dc, .int .i64 t.left, .slice t.qa t.ql.length t.qc, .int .i64 t.oc, .int .i64 t.now, .bool t.ripe] 50 (0, 0))) (hT : TG g w t) (hK : TK q t) (hN : NB t) (hr : t.ripe = true) (hm : t.marked = false) (hq : q.length ≤ 4398046510976) :
    Calls Try.prog 21 #[.pointer (some ⟨g, 0, none⟩)] w fun z w' => z = .returned (.tuple #[]) ∧ ∃ u : Tn, w'.heap[g]? = some (.cells #[.int .i64 u.tg, .int .i64 u.iv, .int .i64 u.mtu, .bool u.above, .int .i64 u.aboveAt, .bool u.dropping, .int .i64 u.nx, .int .i64 u.cn, .int .i64 u.la, .bool u.has, .int .i64 u.out.tick, .int .i64 u.out.sz, .bool u.out.ect, .int .i64 u.out.id, .bool u.marked, .slice u.da u.dl.length u.dc, .int .i64 u.left, .slice u.qa u.ql.length u.qc, .int .i64 u.oc, .int .i64 u.now, .bool u.ripe] 50 (0, 0)) ∧ TG g w' u ∧ SK q t u ∧ Below g w w' := by
  have hgs := blk_lt hS
  have hroom := hK.room hr
  rcases (Bool.eq_false_or_eq_true t.out.ect).symm with he | he
  · refine (strike_drop t g w hS he hT (by omega)).mono ?_
    rintro z w' ⟨h1, a, c, h2, h3, h4⟩
    have h5 := strikeF_sk hK hN hr hm a c
    unfold strikeF at h5
    rw [if_neg (by rw [he]; decide)] at h5
    exact ⟨h1, _, h2, h3, h5, h4⟩
  · refine (strike_ect t g w hS he).mono ?_
    rintro z w' ⟨h1, h2, h3⟩
    have h5 := strikeF_sk hK hN hr hm none 0
    unfold strikeF at h5
    rw [if_pos he] at h5
    exact ⟨h1, { t with marked := true }, h2, (hT.grown h3).congr rfl rfl rfl rfl rfl rfl rfl rfl rfl, h5, gr_low h3 (Nat.le_of_lt hgs)⟩
set_option maxRecDepth 100000 in
set_option maxHeartbeats 1000000 in
theorem begin_any (q : List Pkt) (t : Tn) (g : Nat) (w : World) (hS : w.heap[g]? = some (.cells #[.int .i64 t.tg, .int .i64 t.iv, .int .i64 t.mtu, .bool t.above, .int .i64 t.aboveAt, .bool t.dropping, .int .i64 t.nx, .int .i64 t.cn, .int .i64 t.la, .bool t.has, .int .i64 t.out.tick, .int .i64 t.out.sz, .bool t.out.ect, .int .i64 t.out.id, .bool t.marked, .slice t.da t.dl.length t.dc, .int .i64 t.left, .slice t.qa t.ql.length t.qc, .int .i64 t.oc, .int .i64 t.now, .bool t.ripe] 50 (0, 0))) (hT : TG g w t) (hK : TK q t) (hN : NB t) (hr : t.ripe = true) (hm : t.marked = false) (hq : q.length ≤ 4398046510976) :
    Calls Try.prog 18 #[.pointer (some ⟨g, 0, none⟩)] w fun z w' => z = .returned (.tuple #[]) ∧ ∃ u : Tn, w'.heap[g]? = some (.cells #[.int .i64 u.tg, .int .i64 u.iv, .int .i64 u.mtu, .bool u.above, .int .i64 u.aboveAt, .bool u.dropping, .int .i64 u.nx, .int .i64 u.cn, .int .i64 u.la, .bool u.has, .int .i64 u.out.tick, .int .i64 u.out.sz, .bool u.out.ect, .int .i64 u.out.id, .bool u.marked, .slice u.da u.dl.length u.dc, .int .i64 u.left, .slice u.qa u.ql.length u.qc, .int .i64 u.oc, .int .i64 u.now, .bool u.ripe] 50 (0, 0)) ∧ TG g w' u ∧ TK q u ∧ (u.tg = t.tg ∧ u.mtu = t.mtu ∧ u.now = t.now) ∧ Below g w w' := by
  have S0 := Lib.hid hS
  have T0 := Lib.hid hT
  have K0 := Lib.hid hK
  have N0 := Lib.hid hN
  have R0 := Lib.hid hr
  have M0 := Lib.hid hm
  have hgs := blk_lt hS
  clear hS hT hK hN hr hm
  go_enter Try.func18, Try.ntmps18
  go_wp2_with fail
  refine (strike_any q t g w S0.out T0.out K0.out N0.out R0.out M0.out hq).mono ?_
  rintro e V1 ⟨rfl, u, h1, h2, h3, h4⟩
  have S1 := Lib.hid h1
  have T1 := Lib.hid h2
  have K1 := Lib.hid h3
  have B1 := Lib.hid h4
  obtain ⟨n0, n1⟩ := h3.N.nx
  obtain ⟨m0, m1⟩ := h3.N.cn
  obtain ⟨l0, l1⟩ := h3.N.la
  obtain ⟨w0, w1⟩ := h2.now
  obtain ⟨i0, i1⟩ := h2.iv
  have hg1 := blk_lt h1
  have hB1 := h4.size
  clear h1 h2 h3 h4 S0 T0
  obtain ⟨d, hd⟩ : ∃ z, u.cn - u.la = z := ⟨_, rfl⟩
  have e1 : IntKind.i64.wrap (u.cn - u.la) = d := by rw [hd]; exact IntWalk.i64_in _ ⟨by omega, by omega⟩
  have c7 := blk_cell S1.out 7
  have c8 := blk_cell S1.out 8
  go_upto_region 1 with fail
  go_quiet (fail)
  have S2 := Lib.hid (blk_drewN S1.out nq)
  have T2 := Lib.hid (T1.out.grown (gr_drewN V1 nq (some g)))
  have B2 := Lib.hid (below_drewN B1.out nq)
  clear c7 c8 S1 T1 B1 e1
  have hg2 : g < (V1.drewN nq).heap.size := hg1
  generalize V1.drewN nq = V2 at S2 T2 B2 hg2 ⊢
  obtain ⟨x, hx⟩ : ∃ z, u.now - u.nx = z := ⟨_, rfl⟩
  have e2 : IntKind.i64.wrap (u.now - u.nx) = x := by rw [hx]; exact IntWalk.i64_in _ ⟨by omega, by omega⟩
  obtain ⟨y, hy⟩ : ∃ z, 16 * u.iv = z := ⟨_, rfl⟩
  have e3 : IntKind.i64.wrap (16 * u.iv) = y := by rw [hy]; exact IntWalk.i64_in _ ⟨by omega, by omega⟩
  have c19 := blk_cell S2.out 19
  have c6 := blk_cell S2.out 6
  have c1 := blk_cell S2.out 1
  go_upto_region 2 with fail
  go_cut [36] (fun (bv : Value) (wx : World) => ∃ (b : Bool) (n : Nat), bv = .bool b ∧ (b = false → 2 ≤ d) ∧ wx = V2.drewN n)
  case first =>
    by_cases h1 : d ≤ 1
    · have d1 : decide (d ≤ 1) = true := decide_eq_true h1
      go_quiet (fail)
      go_wp2_with fail
      go_meet
      exact ⟨true, _, rfl, (fun e => absurd e (by decide)), rfl⟩
    · have d1 : decide (d ≤ 1) = false := decide_eq_false h1
      go_quiet (fail)
      go_wp2_with fail
      go_meet
      exact ⟨_, _, rfl, (fun e => by omega), rfl⟩
  case rest =>
    obtain ⟨b, n, rfl, hb, hV⟩ := hcut
    have S3 : Hid (wc.heap[g]? = some (.cells #[.int .i64 u.tg, .int .i64 u.iv, .int .i64 u.mtu, .bool u.above, .int .i64 u.aboveAt, .bool u.dropping, .int .i64 u.nx, .int .i64 u.cn, .int .i64 u.la, .bool u.has, .int .i64 u.out.tick, .int .i64 u.out.sz, .bool u.out.ect, .int .i64 u.out.id, .bool u.marked, .slice u.da u.dl.length u.dc, .int .i64 u.left, .slice u.qa u.ql.length u.qc, .int .i64 u.oc, .int .i64 u.now, .bool u.ripe] 50 (0, 0))) := Lib.hid (by rw [hV]; exact blk_drewN S2.out n)
    have T3 : Hid (TG g wc u) := Lib.hid (by rw [hV]; exact T2.out.grown (gr_drewN V2 n (some g)))
    have B3 : Hid (Below g w wc) := Lib.hid (by rw [hV]; exact below_drewN B2.out n)
    obtain ⟨V3, hVV⟩ : ∃ V, V = wc := ⟨_, rfl⟩
    have HBD := Lib.hid hb
    subst hVV
    clear hV hb S2 T2 B2 c19 c6 c1 e2 e3
    go_upto_if 36 with fail
    go_cut [2] (fun (cv : Value) (wx : World) => ∃ c : Int, cv = .int .i64 c ∧ 1 ≤ c ∧ c ≤ 1073741824 ∧ V3 = wx)
    case first =>
      cases b
      · have hdd := HBD.out rfl
        go_wp2_with fail
        go_meet
        exact ⟨d, rfl, by omega, by omega, rfl⟩
      · go_wp2_with fail
        go_meet
        exact ⟨1, rfl, by omega, by omega, rfl⟩
    case rest =>
      obtain ⟨c, rfl, hc1', hc2, hVe⟩ := hcut
      subst hVe
      clear HBD
      have hg3 : g < V3.heap.size := blk_lt S3.out
      have c5 := blk_cell S3.out 5
      have c7 := blk_cell S3.out 7
      have c8 := blk_cell S3.out 8
      have f5 := blk_free S3.out 5
      have f7 := blk_free S3.out 7
      have f8 := blk_free S3.out 8
      have hc0 := blk_set S3.out 5 (.bool true)
      simp only [List.setIfInBounds_toArray, List.set_cons_zero, List.set_cons_succ] at hc0
      have hc1 := blk_set hc0 7 (.int .i64 c)
      simp only [List.setIfInBounds_toArray, List.set_cons_zero, List.set_cons_succ] at hc1
      have SF := blk_set hc1 8 (.int .i64 c)
      simp only [List.setIfInBounds_toArray, List.set_cons_zero, List.set_cons_succ] at SF
      have SFG : (V3).grownBy ((((V3).setCell ⟨g, 5, none⟩ (.bool true)).setCell ⟨g, 7, none⟩ (.int .i64 c)).setCell ⟨g, 8, none⟩ (.int .i64 c)) (some g) := gr_trans (gr_trans (gr_set _ g 5 _) (gr_set _ g 7 _)) (gr_set _ g 8 _)
      have S4 : Hid (((((V3).setCell ⟨g, 5, none⟩ (.bool true)).setCell ⟨g, 7, none⟩ (.int .i64 c)).setCell ⟨g, 8, none⟩ (.int .i64 c)).heap[g]? = some (.cells #[.int .i64 u.tg, .int .i64 u.iv, .int .i64 u.mtu, .bool u.above, .int .i64 u.aboveAt, .bool true, .int .i64 u.nx, .int .i64 c, .int .i64 c, .bool u.has, .int .i64 u.out.tick, .int .i64 u.out.sz, .bool u.out.ect, .int .i64 u.out.id, .bool u.marked, .slice u.da u.dl.length u.dc, .int .i64 u.left, .slice u.qa u.ql.length u.qc, .int .i64 u.oc, .int .i64 u.now, .bool u.ripe] 50 (0, 0))) := Lib.hid SF
      have T4 : Hid (TG g ((((V3).setCell ⟨g, 5, none⟩ (.bool true)).setCell ⟨g, 7, none⟩ (.int .i64 c)).setCell ⟨g, 8, none⟩ (.int .i64 c)) { u with dropping := true, cn := c, la := c }) := Lib.hid ((T3.out.grown SFG).congr rfl rfl rfl rfl rfl rfl rfl rfl rfl)
      have B4 := Lib.hid (B3.out.trans (gr_low SFG (by omega)))
      clear SF SFG hc0 hc1
      go_upto_region 5 with fail
      clear c5 f5 c7 f7 c8 f8 S3 T3 B3
      generalize (((V3).setCell ⟨g, 5, none⟩ (.bool true)).setCell ⟨g, 7, none⟩ (.int .i64 c)).setCell ⟨g, 8, none⟩ (.int .i64 c) = V4 at S4 T4 B4 ⊢
      have hg4 : g < V4.heap.size := blk_lt S4.out
      have hI : OV u.iv := ⟨i0, i1⟩
      have hC : OV c := ⟨hc1', hc2⟩
      obtain ⟨z, hz⟩ : ∃ z, lw u.now u.iv c = z := ⟨_, rfl⟩
      have HNX := Lib.hid (fun W => next_q u.now u.iv c W ⟨w0, by omega⟩ hI hC)
      rw [hz] at HNX
      clear hI hC hz
      have c19 := blk_cell S4.out 19
      have c1 := blk_cell S4.out 1
      refine wp_region_still_tail 15 (by kernel_rfl) (by kernel_rfl) ?_
      simp only [List.take_succ_cons, List.take_zero, List.drop_succ_cons, List.drop_zero]
      repeat (first | still_call (HNX.out _) | still_step)
      refine wpStill_nil ?_
      change wpList _ _ _ _ _ V4.drew
      clear c19 c1
      have S5 := Lib.hid (blk_drew S4.out)
      have T5 := Lib.hid (T4.out.grown (gr_drew V4 (some g)))
      have B5 := Lib.hid (B4.out.trans (gr_low (gr_drew V4 (some g)) (by omega)))
      clear S4 T4 B4
      generalize V4.drew = V5 at S5 T5 B5 ⊢
      have hg5 : g < V5.heap.size := blk_lt S5.out
      have c6 := blk_cell S5.out 6
      have f6 := blk_free S5.out 6
      have SF := blk_set S5.out 6 (.int .i64 z)
      simp only [List.setIfInBounds_toArray, List.set_cons_zero, List.set_cons_succ] at SF
      have SFG : (V5).grownBy ((V5).setCell ⟨g, 6, none⟩ (.int .i64 z)) (some g) := gr_set _ g 6 _
      have S6 := Lib.hid SF
      have T6 : Hid (TG g ((V5).setCell ⟨g, 6, none⟩ (.int .i64 z)) { u with dropping := true, cn := c, la := c, nx := z }) := Lib.hid ((T5.out.grown SFG).congr rfl rfl rfl rfl rfl rfl rfl rfl rfl)
      have B6 := Lib.hid (B5.out.trans (gr_low SFG (by omega)))
      clear SF SFG
      go_wp2
      go_end0
      exact ⟨rfl, _, S6.out, T6.out, K1.out.K.re rfl rfl rfl rfl rfl rfl rfl rfl rfl rfl, ⟨K1.out.tg, K1.out.mtu, K1.out.now⟩, B6.out⟩
end Go.Proofs.Yteflbfmkbkhimaa
