/- Codel: 'take': the first packet of the queue, and whether it is ripe. -/
import Derived.Test.YteflbfmkbkhimaaCkM
import Derived.Test.YteflbfmkbkhimaaGBase
import Derived.BigQuiet
import Derived.BigRegion
import Derived.Deep.DeepCutAuto
import Derived.StillTailTactics
namespace Go.Proofs.Yteflbfmkbkhimaa
open Go.RowKit

set_option maxRecDepth 100000 in
set_option maxHeartbeats 1000000 in
theorem tk_new (t : Tn) (g : Nat) (w : World) (hS : w.heap[g]? = some (.cells #[.int .i64 t.tg, .int .i64 t.iv, .int .i64 t.mtu, .bool t.above, .int .i64 t.aboveAt, .bool t.dropping, .int .i64 t.nx, .int .i64 t.cn, .int .i64 t.la, .bool t.has, .int .i64 t.out.tick, .int .i64 t.out.sz, .bool t.out.ect, .int .i64 t.out.id, .bool t.marked, .slice t.da t.dl.length t.dc, .int .i64 t.left, .slice t.qa t.ql.length t.qc, .int .i64 t.oc, .int .i64 t.now, .bool t.ripe] 50 (0, 0))) (x : Pkt) (r : List Pkt) (hq : t.ql = x :: r) (b o : Nat) (hqa : t.qa = some ⟨b, o, none⟩) (hL : Sts 4 KC Tr w t.qa t.ql) (hcap : t.ql.length ≤ t.qc ∧ t.qc ≤ maxLen) (hbg : b ≠ g) (hx : (0 ≤ x.tick ∧ x.tick ≤ 2199023255552) ∧ (1 ≤ x.sz ∧ x.sz ≤ 65535)) (hn : 0 ≤ t.now ∧ t.now ≤ 2199023255552) (ho : x.sz ≤ t.oc ∧ t.oc ≤ 1152921504606846976) (hiv : 0 ≤ t.iv ∧ t.iv ≤ 1073741824) (hc1 : t.tg ≤ t.now - x.tick) (hc2 : t.mtu < t.oc - x.sz) (ha : t.above = false) :
    Calls Try.prog 16 #[.pointer (some ⟨g, 0, none⟩)] w fun z w' => z = .returned (.tuple #[]) ∧ w'.heap[g]? = some (.cells #[.int .i64 (takeF t).tg, .int .i64 (takeF t).iv, .int .i64 (takeF t).mtu, .bool (takeF t).above, .int .i64 (takeF t).aboveAt, .bool (takeF t).dropping, .int .i64 (takeF t).nx, .int .i64 (takeF t).cn, .int .i64 (takeF t).la, .bool (takeF t).has, .int .i64 (takeF t).out.tick, .int .i64 (takeF t).out.sz, .bool (takeF t).out.ect, .int .i64 (takeF t).out.id, .bool (takeF t).marked, .slice (takeF t).da (takeF t).dl.length (takeF t).dc, .int .i64 (takeF t).left, .slice (takeF t).qa (takeF t).ql.length (takeF t).qc, .int .i64 (takeF t).oc, .int .i64 (takeF t).now, .bool (takeF t).ripe] 50 (0, 0)) ∧ w.grownBy w' (some g) := by
  obtain ⟨⟨x0, x1⟩, x2, x3⟩ := hx
  obtain ⟨n0, n1⟩ := hn
  obtain ⟨o0, o1⟩ := ho
  obtain ⟨v0, v1⟩ := hiv
  have hlen : t.ql.length = r.length + 1 := by rw [hq]; rfl
  have hc1' : r.length + 1 ≤ t.qc := by omega
  have hc2' := hcap.2
  have w1 : IntKind.i64.wrap (t.now - x.tick) = t.now - x.tick := IntWalk.i64_in _ ⟨by omega, by omega⟩
  have w2 : IntKind.i64.wrap (t.oc - x.sz) = t.oc - x.sz := IntWalk.i64_in _ ⟨by omega, by omega⟩
  have w3 : IntKind.i64.wrap (t.now + t.iv) = t.now + t.iv := IntWalk.i64_in _ ⟨by omega, by omega⟩
  rw [hqa, hq] at hL
  obtain ⟨hb, p0, p1, p2, p3⟩ := pk_at hL (i := 0) (p := x) rfl
  simp only [Nat.zero_mul, Nat.add_zero] at p0 p1 p2 p3
  rw [hqa, hlen] at hS
  have S0 := Lib.hid hS
  have HQ := Lib.hid hq
  have HQA := Lib.hid hqa
  clear hS hL hcap hlen hq hqa
  have c9 := blk_cell S0.out 9
  have f9 := blk_free S0.out 9
  have c10 := blk_cell S0.out 10
  have f10 := blk_free S0.out 10
  have c11 := blk_cell S0.out 11
  have f11 := blk_free S0.out 11
  have c12 := blk_cell S0.out 12
  have f12 := blk_free S0.out 12
  have c13 := blk_cell S0.out 13
  have f13 := blk_free S0.out 13
  have c20 := blk_cell S0.out 20
  have f20 := blk_free S0.out 20
  have c17 := blk_cell S0.out 17
  have f17 := blk_free S0.out 17
  have hc0 := blk_set S0.out 9 (.bool false)
  simp only [List.setIfInBounds_toArray, List.set_cons_zero, List.set_cons_succ] at hc0
  have hc1 := blk_set hc0 10 (.int .i64 0)
  simp only [List.setIfInBounds_toArray, List.set_cons_zero, List.set_cons_succ] at hc1
  have hc2 := blk_set hc1 11 (.int .i64 0)
  simp only [List.setIfInBounds_toArray, List.set_cons_zero, List.set_cons_succ] at hc2
  have hc3 := blk_set hc2 12 (.bool false)
  simp only [List.setIfInBounds_toArray, List.set_cons_zero, List.set_cons_succ] at hc3
  have hc4 := blk_set hc3 13 (.int .i64 0)
  simp only [List.setIfInBounds_toArray, List.set_cons_zero, List.set_cons_succ] at hc4
  have SF := blk_set hc4 20 (.bool false)
  simp only [List.setIfInBounds_toArray, List.set_cons_zero, List.set_cons_succ] at SF
  have SFG : (w).grownBy (((((((w).setCell ⟨g, 9, none⟩ (.bool false)).setCell ⟨g, 10, none⟩ (.int .i64 0)).setCell ⟨g, 11, none⟩ (.int .i64 0)).setCell ⟨g, 12, none⟩ (.bool false)).setCell ⟨g, 13, none⟩ (.int .i64 0)).setCell ⟨g, 20, none⟩ (.bool false)) (some g) := gr_trans (gr_trans (gr_trans (gr_trans (gr_trans (gr_set _ g 9 _) (gr_set _ g 10 _)) (gr_set _ g 11 _)) (gr_set _ g 12 _)) (gr_set _ g 13 _)) (gr_set _ g 20 _)
  have S1 := Lib.hid SF
  have G1 := Lib.hid SFG
  have HP := Lib.hid (And.intro p0 (And.intro p1 (And.intro p2 p3)))
  have k0 : ¬ ((r.length : Int) + 1 = 0) := by omega
  have k0b : ((r.length : Int) + 1 == 0) = false := by rw [beq_eq_false_iff_ne]; exact k0
  have W123 := Lib.hid (And.intro w1 (And.intro w2 w3))
  have HC := Lib.hid hc2
  clear w1 w2 w3
  clear SF SFG hc0 hc1 hc2 hc3 hc4 p0 p1 p2 p3
  go_enter Try.func16, Try.ntmps16
  go_upto_region 3 with fail
  clear c9 f9 c10 f10 c11 f11 c12 f12 c13 f13 c20 f20 c17 f17
  generalize ((((((w).setCell ⟨g, 9, none⟩ (.bool false)).setCell ⟨g, 10, none⟩ (.int .i64 0)).setCell ⟨g, 11, none⟩ (.int .i64 0)).setCell ⟨g, 12, none⟩ (.bool false)).setCell ⟨g, 13, none⟩ (.int .i64 0)).setCell ⟨g, 20, none⟩ (.bool false) = V1 at S1 G1 ⊢
  have c9 := blk_cell S1.out 9
  have f9 := blk_free S1.out 9
  have c10 := blk_cell S1.out 10
  have f10 := blk_free S1.out 10
  have c11 := blk_cell S1.out 11
  have f11 := blk_free S1.out 11
  have c12 := blk_cell S1.out 12
  have f12 := blk_free S1.out 12
  have c13 := blk_cell S1.out 13
  have f13 := blk_free S1.out 13
  have c17 := blk_cell S1.out 17
  have f17 := blk_free S1.out 17
  obtain ⟨p0, p1, p2, p3⟩ := HP.out
  have q0 : V1.cell? ⟨b, o, none⟩ = some (.int .i64 x.tick) := by simp only [World.cell?, G1.out.block b hb (fun e => hbg (Option.some.inj e))]; exact p0
  have q1 : V1.cell? ⟨b, o + 1, none⟩ = some (.int .i64 x.sz) := by simp only [World.cell?, G1.out.block b hb (fun e => hbg (Option.some.inj e))]; exact p1
  have q2 : V1.cell? ⟨b, o + 2, none⟩ = some (.bool x.ect) := by simp only [World.cell?, G1.out.block b hb (fun e => hbg (Option.some.inj e))]; exact p2
  have q3 : V1.cell? ⟨b, o + 3, none⟩ = some (.int .i64 x.id) := by simp only [World.cell?, G1.out.block b hb (fun e => hbg (Option.some.inj e))]; exact p3
  clear p0 p1 p2 p3
  obtain ⟨na, hna⟩ : ∃ na, nextA (some ⟨b, o, none⟩) t.qc = na := ⟨_, rfl⟩
  have HNA := Lib.hid hna
  clear hna
  go_cut [] (fun (wx : World) => wx.heap[g]? = some (.cells #[.int .i64 t.tg, .int .i64 t.iv, .int .i64 t.mtu, .bool t.above, .int .i64 t.aboveAt, .bool t.dropping, .int .i64 t.nx, .int .i64 t.cn, .int .i64 t.la, .bool true, .int .i64 x.tick, .int .i64 x.sz, .bool x.ect, .int .i64 x.id, .bool t.marked, .slice t.da t.dl.length t.dc, .int .i64 t.left, .slice na r.length (t.qc - 1), .int .i64 t.oc, .int .i64 t.now, .bool false] 50 (0, 0)) ∧ w.grownBy wx (some g))
  case first =>
    by_cases hz : t.qc - 1 = 0
    case pos =>
      have HNA2 : Hid (some (⟨b, o, none⟩ : Addr) = na) := Lib.hid (by rw [← HNA.out]; unfold nextA; rw [if_pos (by omega)])
      have hc0 := blk_set S1.out 9 (.bool true)
      simp only [List.setIfInBounds_toArray, List.set_cons_zero, List.set_cons_succ] at hc0
      have hc1 := blk_set hc0 10 (.int .i64 x.tick)
      simp only [List.setIfInBounds_toArray, List.set_cons_zero, List.set_cons_succ] at hc1
      have hc2 := blk_set hc1 11 (.int .i64 x.sz)
      simp only [List.setIfInBounds_toArray, List.set_cons_zero, List.set_cons_succ] at hc2
      have hc3 := blk_set hc2 12 (.bool x.ect)
      simp only [List.setIfInBounds_toArray, List.set_cons_zero, List.set_cons_succ] at hc3
      have hc4 := blk_set hc3 13 (.int .i64 x.id)
      simp only [List.setIfInBounds_toArray, List.set_cons_zero, List.set_cons_succ] at hc4
      have SX := blk_set hc4 17 (.slice (some ⟨b, o, none⟩) r.length (0))
      simp only [List.setIfInBounds_toArray, List.set_cons_zero, List.set_cons_succ] at SX
      have SXG : (V1).grownBy (((((((V1).setCell ⟨g, 9, none⟩ (.bool true)).setCell ⟨g, 10, none⟩ (.int .i64 x.tick)).setCell ⟨g, 11, none⟩ (.int .i64 x.sz)).setCell ⟨g, 12, none⟩ (.bool x.ect)).setCell ⟨g, 13, none⟩ (.int .i64 x.id)).setCell ⟨g, 17, none⟩ (.slice (some ⟨b, o, none⟩) r.length (0))) (some g) := gr_trans (gr_trans (gr_trans (gr_trans (gr_trans (gr_set _ g 9 _) (gr_set _ g 10 _)) (gr_set _ g 11 _)) (gr_set _ g 12 _)) (gr_set _ g 13 _)) (gr_set _ g 17 _)
      have SX1 := Lib.hid SX
      have GX1 := Lib.hid SXG
      clear SX SXG hc0 hc1 hc2 hc3 hc4
      go_region
      all_goals
        go_wp2_with fail
        go_meet
        exact ⟨by rw [← HNA2.out, hz]; exact blk_drew SX1.out, gr_trans G1.out (gr_trans GX1.out (gr_drew _ _))⟩
    case neg =>
      have HNA2 : Hid (some (⟨b, o + 4, none⟩ : Addr) = na) := Lib.hid (by rw [← HNA.out]; unfold nextA; rw [if_neg (by omega)])
      have hc0 := blk_set S1.out 9 (.bool true)
      simp only [List.setIfInBounds_toArray, List.set_cons_zero, List.set_cons_succ] at hc0
      have hc1 := blk_set hc0 10 (.int .i64 x.tick)
      simp only [List.setIfInBounds_toArray, List.set_cons_zero, List.set_cons_succ] at hc1
      have hc2 := blk_set hc1 11 (.int .i64 x.sz)
      simp only [List.setIfInBounds_toArray, List.set_cons_zero, List.set_cons_succ] at hc2
      have hc3 := blk_set hc2 12 (.bool x.ect)
      simp only [List.setIfInBounds_toArray, List.set_cons_zero, List.set_cons_succ] at hc3
      have hc4 := blk_set hc3 13 (.int .i64 x.id)
      simp only [List.setIfInBounds_toArray, List.set_cons_zero, List.set_cons_succ] at hc4
      have SX := blk_set hc4 17 (.slice (some ⟨b, o + 4, none⟩) r.length (t.qc - 1))
      simp only [List.setIfInBounds_toArray, List.set_cons_zero, List.set_cons_succ] at SX
      have SXG : (V1).grownBy (((((((V1).setCell ⟨g, 9, none⟩ (.bool true)).setCell ⟨g, 10, none⟩ (.int .i64 x.tick)).setCell ⟨g, 11, none⟩ (.int .i64 x.sz)).setCell ⟨g, 12, none⟩ (.bool x.ect)).setCell ⟨g, 13, none⟩ (.int .i64 x.id)).setCell ⟨g, 17, none⟩ (.slice (some ⟨b, o + 4, none⟩) r.length (t.qc - 1))) (some g) := gr_trans (gr_trans (gr_trans (gr_trans (gr_trans (gr_set _ g 9 _) (gr_set _ g 10 _)) (gr_set _ g 11 _)) (gr_set _ g 12 _)) (gr_set _ g 13 _)) (gr_set _ g 17 _)
      have SX1 := Lib.hid SX
      have GX1 := Lib.hid SXG
      clear SX SXG hc0 hc1 hc2 hc3 hc4
      go_region
      all_goals
        go_wp2_with fail
        go_meet
        exact ⟨by rw [← HNA2.out]; exact blk_drew SX1.out, gr_trans G1.out (gr_trans GX1.out (gr_drew _ _))⟩
  case rest =>
  obtain ⟨hS, hG⟩ := hcut
  obtain ⟨V2, hVV⟩ : ∃ V, V = wc := ⟨_, rfl⟩
  subst hVV
  have S2 := Lib.hid hS
  have G2 := Lib.hid hG
  clear hS hG S1 G1
  obtain ⟨w1, w2, w3⟩ := W123.out
  clear q0 q1 q2 q3 hb hbg
  have c11 := blk_cell S2.out 11
  have f11 := blk_free S2.out 11
  have c18 := blk_cell S2.out 18
  have f18 := blk_free S2.out 18
  go_upto_region 4 with fail
  go_cut [] (fun (wx : World) => wx.heap[g]? = some (.cells #[.int .i64 t.tg, .int .i64 t.iv, .int .i64 t.mtu, .bool t.above, .int .i64 t.aboveAt, .bool t.dropping, .int .i64 t.nx, .int .i64 t.cn, .int .i64 t.la, .bool true, .int .i64 x.tick, .int .i64 x.sz, .bool x.ect, .int .i64 x.id, .bool t.marked, .slice t.da t.dl.length t.dc, .int .i64 t.left, .slice na r.length (t.qc - 1), .int .i64 (t.oc - x.sz), .int .i64 t.now, .bool false] 50 (0, 0)) ∧ w.grownBy wx (some g))
  case first =>
    have SX := blk_set S2.out 18 (.int .i64 (t.oc - x.sz))
    simp only [List.setIfInBounds_toArray, List.set_cons_zero, List.set_cons_succ] at SX
    have SXG : (V2).grownBy ((V2).setCell ⟨g, 18, none⟩ (.int .i64 (t.oc - x.sz))) (some g) := gr_set _ g 18 _
    have SX1 := Lib.hid SX
    have GX1 := Lib.hid SXG
    clear SX SXG
    go_region
    all_goals
      go_wp2_with fail
      go_meet
      exact ⟨blk_drew SX1.out, gr_trans G2.out (gr_trans GX1.out (gr_drew _ _))⟩
  case rest =>
  obtain ⟨hS, hG⟩ := hcut
  obtain ⟨V3, hVV⟩ : ∃ V, V = wc := ⟨_, rfl⟩
  subst hVV
  have S3 := Lib.hid hS
  have G3 := Lib.hid hG
  clear hS hG S2 G2
  clear c11 f11 c18 f18
  have c0 := blk_cell S3.out 0
  have c1 := blk_cell S3.out 1
  have c2 := blk_cell S3.out 2
  have c3 := blk_cell S3.out 3
  have c4 := blk_cell S3.out 4
  have c5 := blk_cell S3.out 5
  have c10 := blk_cell S3.out 10
  have c18 := blk_cell S3.out 18
  have c19 := blk_cell S3.out 19
  have f3 := blk_free S3.out 3
  have f4 := blk_free S3.out 4
  have f20 := blk_free S3.out 20
  have c20 := blk_cell S3.out 20
  have d1 : decide (t.now - x.tick < t.tg) = false := decide_eq_false (by omega)
  have d2 : decide (t.oc - x.sz ≤ t.mtu) = false := decide_eq_false (by have := HC.out; omega)
  have HA := Lib.hid ha
  rw [HA.out] at c3
  clear ha
  go_upto_region 6 with fail
  go_quiet (fail)
  have S4 := Lib.hid (blk_drewN S3.out nq)
  have G4 := Lib.hid (gr_trans G3.out (gr_drewN V3 nq (some g)))
  have hc0 := blk_set S4.out 3 (.bool true)
  simp only [List.setIfInBounds_toArray, List.set_cons_zero, List.set_cons_succ] at hc0
  have SF := blk_set hc0 4 (.int .i64 (t.now + t.iv))
  simp only [List.setIfInBounds_toArray, List.set_cons_zero, List.set_cons_succ] at SF
  have SFG : ((V3.drewN nq)).grownBy ((((V3.drewN nq)).setCell ⟨g, 3, none⟩ (.bool true)).setCell ⟨g, 4, none⟩ (.int .i64 (t.now + t.iv))) (some g) := gr_trans (gr_set _ g 3 _) (gr_set _ g 4 _)
  have SF1 := Lib.hid SF
  have GF1 := Lib.hid SFG
  clear SF SFG
  go_wp2_with fail
  go_region
  all_goals
    go_wp2
    go_end0
    have he : takeF t = { takeU t x r with above := true, aboveAt := t.now + t.iv } := (takeF_cons HQ.out).trans ((if_neg (by have := HC.out; omega)).trans (if_pos HA.out))
    rw [he]
    refine ⟨rfl, ?_, gr_trans G4.out (gr_trans GF1.out (gr_drew _ _))⟩
    have hq2 : nextA t.qa t.qc = na := by rw [HQA.out]; exact HNA.out
    show _ = some (Obj.cells #[.int .i64 t.tg, .int .i64 t.iv, .int .i64 t.mtu, .bool true, .int .i64 (t.now + t.iv), .bool t.dropping, .int .i64 t.nx, .int .i64 t.cn, .int .i64 t.la, .bool true, .int .i64 x.tick, .int .i64 x.sz, .bool x.ect, .int .i64 x.id, .bool t.marked, .slice t.da t.dl.length t.dc, .int .i64 t.left, .slice (nextA t.qa t.qc) r.length (t.qc - 1), .int .i64 (t.oc - x.sz), .int .i64 t.now, .bool false] 50 (0, 0))
    rw [hq2]
    exact blk_drew SF1.out
set_option maxRecDepth 100000 in
set_option maxHeartbeats 1000000 in
theorem tk_old (t : Tn) (g : Nat) (w : World) (hS : w.heap[g]? = some (.cells #[.int .i64 t.tg, .int .i64 t.iv, .int .i64 t.mtu, .bool t.above, .int .i64 t.aboveAt, .bool t.dropping, .int .i64 t.nx, .int .i64 t.cn, .int .i64 t.la, .bool t.has, .int .i64 t.out.tick, .int .i64 t.out.sz, .bool t.out.ect, .int .i64 t.out.id, .bool t.marked, .slice t.da t.dl.length t.dc, .int .i64 t.left, .slice t.qa t.ql.length t.qc, .int .i64 t.oc, .int .i64 t.now, .bool t.ripe] 50 (0, 0))) (x : Pkt) (r : List Pkt) (hq : t.ql = x :: r) (b o : Nat) (hqa : t.qa = some ⟨b, o, none⟩) (hL : Sts 4 KC Tr w t.qa t.ql) (hcap : t.ql.length ≤ t.qc ∧ t.qc ≤ maxLen) (hbg : b ≠ g) (hx : (0 ≤ x.tick ∧ x.tick ≤ 2199023255552) ∧ (1 ≤ x.sz ∧ x.sz ≤ 65535)) (hn : 0 ≤ t.now ∧ t.now ≤ 2199023255552) (ho : x.sz ≤ t.oc ∧ t.oc ≤ 1152921504606846976) (hiv : 0 ≤ t.iv ∧ t.iv ≤ 1073741824) (hc1 : t.tg ≤ t.now - x.tick) (hc2 : t.mtu < t.oc - x.sz) (ha : t.above = true) :
    Calls Try.prog 16 #[.pointer (some ⟨g, 0, none⟩)] w fun z w' => z = .returned (.tuple #[]) ∧ w'.heap[g]? = some (.cells #[.int .i64 (takeF t).tg, .int .i64 (takeF t).iv, .int .i64 (takeF t).mtu, .bool (takeF t).above, .int .i64 (takeF t).aboveAt, .bool (takeF t).dropping, .int .i64 (takeF t).nx, .int .i64 (takeF t).cn, .int .i64 (takeF t).la, .bool (takeF t).has, .int .i64 (takeF t).out.tick, .int .i64 (takeF t).out.sz, .bool (takeF t).out.ect, .int .i64 (takeF t).out.id, .bool (takeF t).marked, .slice (takeF t).da (takeF t).dl.length (takeF t).dc, .int .i64 (takeF t).left, .slice (takeF t).qa (takeF t).ql.length (takeF t).qc, .int .i64 (takeF t).oc, .int .i64 (takeF t).now, .bool (takeF t).ripe] 50 (0, 0)) ∧ w.grownBy w' (some g) := by
  obtain ⟨⟨x0, x1⟩, x2, x3⟩ := hx
  obtain ⟨n0, n1⟩ := hn
  obtain ⟨o0, o1⟩ := ho
  obtain ⟨v0, v1⟩ := hiv
  have hlen : t.ql.length = r.length + 1 := by rw [hq]; rfl
  have hc1' : r.length + 1 ≤ t.qc := by omega
  have hc2' := hcap.2
  have w1 : IntKind.i64.wrap (t.now - x.tick) = t.now - x.tick := IntWalk.i64_in _ ⟨by omega, by omega⟩
  have w2 : IntKind.i64.wrap (t.oc - x.sz) = t.oc - x.sz := IntWalk.i64_in _ ⟨by omega, by omega⟩
  have w3 : IntKind.i64.wrap (t.now + t.iv) = t.now + t.iv := IntWalk.i64_in _ ⟨by omega, by omega⟩
  rw [hqa, hq] at hL
  obtain ⟨hb, p0, p1, p2, p3⟩ := pk_at hL (i := 0) (p := x) rfl
  simp only [Nat.zero_mul, Nat.add_zero] at p0 p1 p2 p3
  rw [hqa, hlen] at hS
  have S0 := Lib.hid hS
  have HQ := Lib.hid hq
  have HQA := Lib.hid hqa
  clear hS hL hcap hlen hq hqa
  have c9 := blk_cell S0.out 9
  have f9 := blk_free S0.out 9
  have c10 := blk_cell S0.out 10
  have f10 := blk_free S0.out 10
  have c11 := blk_cell S0.out 11
  have f11 := blk_free S0.out 11
  have c12 := blk_cell S0.out 12
  have f12 := blk_free S0.out 12
  have c13 := blk_cell S0.out 13
  have f13 := blk_free S0.out 13
  have c20 := blk_cell S0.out 20
  have f20 := blk_free S0.out 20
  have c17 := blk_cell S0.out 17
  have f17 := blk_free S0.out 17
  have hc0 := blk_set S0.out 9 (.bool false)
  simp only [List.setIfInBounds_toArray, List.set_cons_zero, List.set_cons_succ] at hc0
  have hc1 := blk_set hc0 10 (.int .i64 0)
  simp only [List.setIfInBounds_toArray, List.set_cons_zero, List.set_cons_succ] at hc1
  have hc2 := blk_set hc1 11 (.int .i64 0)
  simp only [List.setIfInBounds_toArray, List.set_cons_zero, List.set_cons_succ] at hc2
  have hc3 := blk_set hc2 12 (.bool false)
  simp only [List.setIfInBounds_toArray, List.set_cons_zero, List.set_cons_succ] at hc3
  have hc4 := blk_set hc3 13 (.int .i64 0)
  simp only [List.setIfInBounds_toArray, List.set_cons_zero, List.set_cons_succ] at hc4
  have SF := blk_set hc4 20 (.bool false)
  simp only [List.setIfInBounds_toArray, List.set_cons_zero, List.set_cons_succ] at SF
  have SFG : (w).grownBy (((((((w).setCell ⟨g, 9, none⟩ (.bool false)).setCell ⟨g, 10, none⟩ (.int .i64 0)).setCell ⟨g, 11, none⟩ (.int .i64 0)).setCell ⟨g, 12, none⟩ (.bool false)).setCell ⟨g, 13, none⟩ (.int .i64 0)).setCell ⟨g, 20, none⟩ (.bool false)) (some g) := gr_trans (gr_trans (gr_trans (gr_trans (gr_trans (gr_set _ g 9 _) (gr_set _ g 10 _)) (gr_set _ g 11 _)) (gr_set _ g 12 _)) (gr_set _ g 13 _)) (gr_set _ g 20 _)
  have S1 := Lib.hid SF
  have G1 := Lib.hid SFG
  have HP := Lib.hid (And.intro p0 (And.intro p1 (And.intro p2 p3)))
  have k0 : ¬ ((r.length : Int) + 1 = 0) := by omega
  have k0b : ((r.length : Int) + 1 == 0) = false := by rw [beq_eq_false_iff_ne]; exact k0
  have W123 := Lib.hid (And.intro w1 (And.intro w2 w3))
  have HC := Lib.hid hc2
  clear w1 w2 w3
  clear SF SFG hc0 hc1 hc2 hc3 hc4 p0 p1 p2 p3
  go_enter Try.func16, Try.ntmps16
  go_upto_region 3 with fail
  clear c9 f9 c10 f10 c11 f11 c12 f12 c13 f13 c20 f20 c17 f17
  generalize ((((((w).setCell ⟨g, 9, none⟩ (.bool false)).setCell ⟨g, 10, none⟩ (.int .i64 0)).setCell ⟨g, 11, none⟩ (.int .i64 0)).setCell ⟨g, 12, none⟩ (.bool false)).setCell ⟨g, 13, none⟩ (.int .i64 0)).setCell ⟨g, 20, none⟩ (.bool false) = V1 at S1 G1 ⊢
  have c9 := blk_cell S1.out 9
  have f9 := blk_free S1.out 9
  have c10 := blk_cell S1.out 10
  have f10 := blk_free S1.out 10
  have c11 := blk_cell S1.out 11
  have f11 := blk_free S1.out 11
  have c12 := blk_cell S1.out 12
  have f12 := blk_free S1.out 12
  have c13 := blk_cell S1.out 13
  have f13 := blk_free S1.out 13
  have c17 := blk_cell S1.out 17
  have f17 := blk_free S1.out 17
  obtain ⟨p0, p1, p2, p3⟩ := HP.out
  have q0 : V1.cell? ⟨b, o, none⟩ = some (.int .i64 x.tick) := by simp only [World.cell?, G1.out.block b hb (fun e => hbg (Option.some.inj e))]; exact p0
  have q1 : V1.cell? ⟨b, o + 1, none⟩ = some (.int .i64 x.sz) := by simp only [World.cell?, G1.out.block b hb (fun e => hbg (Option.some.inj e))]; exact p1
  have q2 : V1.cell? ⟨b, o + 2, none⟩ = some (.bool x.ect) := by simp only [World.cell?, G1.out.block b hb (fun e => hbg (Option.some.inj e))]; exact p2
  have q3 : V1.cell? ⟨b, o + 3, none⟩ = some (.int .i64 x.id) := by simp only [World.cell?, G1.out.block b hb (fun e => hbg (Option.some.inj e))]; exact p3
  clear p0 p1 p2 p3
  obtain ⟨na, hna⟩ : ∃ na, nextA (some ⟨b, o, none⟩) t.qc = na := ⟨_, rfl⟩
  have HNA := Lib.hid hna
  clear hna
  go_cut [] (fun (wx : World) => wx.heap[g]? = some (.cells #[.int .i64 t.tg, .int .i64 t.iv, .int .i64 t.mtu, .bool t.above, .int .i64 t.aboveAt, .bool t.dropping, .int .i64 t.nx, .int .i64 t.cn, .int .i64 t.la, .bool true, .int .i64 x.tick, .int .i64 x.sz, .bool x.ect, .int .i64 x.id, .bool t.marked, .slice t.da t.dl.length t.dc, .int .i64 t.left, .slice na r.length (t.qc - 1), .int .i64 t.oc, .int .i64 t.now, .bool false] 50 (0, 0)) ∧ w.grownBy wx (some g))
  case first =>
    by_cases hz : t.qc - 1 = 0
    case pos =>
      have HNA2 : Hid (some (⟨b, o, none⟩ : Addr) = na) := Lib.hid (by rw [← HNA.out]; unfold nextA; rw [if_pos (by omega)])
      have hc0 := blk_set S1.out 9 (.bool true)
      simp only [List.setIfInBounds_toArray, List.set_cons_zero, List.set_cons_succ] at hc0
      have hc1 := blk_set hc0 10 (.int .i64 x.tick)
      simp only [List.setIfInBounds_toArray, List.set_cons_zero, List.set_cons_succ] at hc1
      have hc2 := blk_set hc1 11 (.int .i64 x.sz)
      simp only [List.setIfInBounds_toArray, List.set_cons_zero, List.set_cons_succ] at hc2
      have hc3 := blk_set hc2 12 (.bool x.ect)
      simp only [List.setIfInBounds_toArray, List.set_cons_zero, List.set_cons_succ] at hc3
      have hc4 := blk_set hc3 13 (.int .i64 x.id)
      simp only [List.setIfInBounds_toArray, List.set_cons_zero, List.set_cons_succ] at hc4
      have SX := blk_set hc4 17 (.slice (some ⟨b, o, none⟩) r.length (0))
      simp only [List.setIfInBounds_toArray, List.set_cons_zero, List.set_cons_succ] at SX
      have SXG : (V1).grownBy (((((((V1).setCell ⟨g, 9, none⟩ (.bool true)).setCell ⟨g, 10, none⟩ (.int .i64 x.tick)).setCell ⟨g, 11, none⟩ (.int .i64 x.sz)).setCell ⟨g, 12, none⟩ (.bool x.ect)).setCell ⟨g, 13, none⟩ (.int .i64 x.id)).setCell ⟨g, 17, none⟩ (.slice (some ⟨b, o, none⟩) r.length (0))) (some g) := gr_trans (gr_trans (gr_trans (gr_trans (gr_trans (gr_set _ g 9 _) (gr_set _ g 10 _)) (gr_set _ g 11 _)) (gr_set _ g 12 _)) (gr_set _ g 13 _)) (gr_set _ g 17 _)
      have SX1 := Lib.hid SX
      have GX1 := Lib.hid SXG
      clear SX SXG hc0 hc1 hc2 hc3 hc4
      go_region
      all_goals
        go_wp2_with fail
        go_meet
        exact ⟨by rw [← HNA2.out, hz]; exact blk_drew SX1.out, gr_trans G1.out (gr_trans GX1.out (gr_drew _ _))⟩
    case neg =>
      have HNA2 : Hid (some (⟨b, o + 4, none⟩ : Addr) = na) := Lib.hid (by rw [← HNA.out]; unfold nextA; rw [if_neg (by omega)])
      have hc0 := blk_set S1.out 9 (.bool true)
      simp only [List.setIfInBounds_toArray, List.set_cons_zero, List.set_cons_succ] at hc0
      have hc1 := blk_set hc0 10 (.int .i64 x.tick)
      simp only [List.setIfInBounds_toArray, List.set_cons_zero, List.set_cons_succ] at hc1
      have hc2 := blk_set hc1 11 (.int .i64 x.sz)
      simp only [List.setIfInBounds_toArray, List.set_cons_zero, List.set_cons_succ] at hc2
      have hc3 := blk_set hc2 12 (.bool x.ect)
      simp only [List.setIfInBounds_toArray, List.set_cons_zero, List.set_cons_succ] at hc3
      have hc4 := blk_set hc3 13 (.int .i64 x.id)
      simp only [List.setIfInBounds_toArray, List.set_cons_zero, List.set_cons_succ] at hc4
      have SX := blk_set hc4 17 (.slice (some ⟨b, o + 4, none⟩) r.length (t.qc - 1))
      simp only [List.setIfInBounds_toArray, List.set_cons_zero, List.set_cons_succ] at SX
      have SXG : (V1).grownBy (((((((V1).setCell ⟨g, 9, none⟩ (.bool true)).setCell ⟨g, 10, none⟩ (.int .i64 x.tick)).setCell ⟨g, 11, none⟩ (.int .i64 x.sz)).setCell ⟨g, 12, none⟩ (.bool x.ect)).setCell ⟨g, 13, none⟩ (.int .i64 x.id)).setCell ⟨g, 17, none⟩ (.slice (some ⟨b, o + 4, none⟩) r.length (t.qc - 1))) (some g) := gr_trans (gr_trans (gr_trans (gr_trans (gr_trans (gr_set _ g 9 _) (gr_set _ g 10 _)) (gr_set _ g 11 _)) (gr_set _ g 12 _)) (gr_set _ g 13 _)) (gr_set _ g 17 _)
      have SX1 := Lib.hid SX
      have GX1 := Lib.hid SXG
      clear SX SXG hc0 hc1 hc2 hc3 hc4
      go_region
      all_goals
        go_wp2_with fail
        go_meet
        exact ⟨by rw [← HNA2.out]; exact blk_drew SX1.out, gr_trans G1.out (gr_trans GX1.out (gr_drew _ _))⟩
  case rest =>
  obtain ⟨hS, hG⟩ := hcut
  obtain ⟨V2, hVV⟩ : ∃ V, V = wc := ⟨_, rfl⟩
  subst hVV
  have S2 := Lib.hid hS
  have G2 := Lib.hid hG
  clear hS hG S1 G1
  obtain ⟨w1, w2, w3⟩ := W123.out
  clear q0 q1 q2 q3 hb hbg
  have c11 := blk_cell S2.out 11
  have f11 := blk_free S2.out 11
  have c18 := blk_cell S2.out 18
  have f18 := blk_free S2.out 18
  go_upto_region 4 with fail
  go_cut [] (fun (wx : World) => wx.heap[g]? = some (.cells #[.int .i64 t.tg, .int .i64 t.iv, .int .i64 t.mtu, .bool t.above, .int .i64 t.aboveAt, .bool t.dropping, .int .i64 t.nx, .int .i64 t.cn, .int .i64 t.la, .bool true, .int .i64 x.tick, .int .i64 x.sz, .bool x.ect, .int .i64 x.id, .bool t.marked, .slice t.da t.dl.length t.dc, .int .i64 t.left, .slice na r.length (t.qc - 1), .int .i64 (t.oc - x.sz), .int .i64 t.now, .bool false] 50 (0, 0)) ∧ w.grownBy wx (some g))
  case first =>
    have SX := blk_set S2.out 18 (.int .i64 (t.oc - x.sz))
    simp only [List.setIfInBounds_toArray, List.set_cons_zero, List.set_cons_succ] at SX
    have SXG : (V2).grownBy ((V2).setCell ⟨g, 18, none⟩ (.int .i64 (t.oc - x.sz))) (some g) := gr_set _ g 18 _
    have SX1 := Lib.hid SX
    have GX1 := Lib.hid SXG
    clear SX SXG
    go_region
    all_goals
      go_wp2_with fail
      go_meet
      exact ⟨blk_drew SX1.out, gr_trans G2.out (gr_trans GX1.out (gr_drew _ _))⟩
  case rest =>
  obtain ⟨hS, hG⟩ := hcut
  obtain ⟨V3, hVV⟩ : ∃ V, V = wc := ⟨_, rfl⟩
  subst hVV
  have S3 := Lib.hid hS
  have G3 := Lib.hid hG
  clear hS hG S2 G2
  clear c11 f11 c18 f18
  have c0 := blk_cell S3.out 0
  have c1 := blk_cell S3.out 1
  have c2 := blk_cell S3.out 2
  have c3 := blk_cell S3.out 3
  have c4 := blk_cell S3.out 4
  have c5 := blk_cell S3.out 5
  have c10 := blk_cell S3.out 10
  have c18 := blk_cell S3.out 18
  have c19 := blk_cell S3.out 19
  have f3 := blk_free S3.out 3
  have f4 := blk_free S3.out 4
  have f20 := blk_free S3.out 20
  have c20 := blk_cell S3.out 20
  have d1 : decide (t.now - x.tick < t.tg) = false := decide_eq_false (by omega)
  have d2 : decide (t.oc - x.sz ≤ t.mtu) = false := decide_eq_false (by have := HC.out; omega)
  have HA := Lib.hid ha
  rw [HA.out] at c3
  clear ha
  go_upto_region 6 with fail
  go_quiet (fail)
  have S4 := Lib.hid (blk_drewN S3.out nq)
  have G4 := Lib.hid (gr_trans G3.out (gr_drewN V3 nq (some g)))
  have SF := blk_set S4.out 20 (.bool (decide (t.aboveAt ≤ t.now)))
  simp only [List.setIfInBounds_toArray, List.set_cons_zero, List.set_cons_succ] at SF
  have SFG : ((V3.drewN nq)).grownBy (((V3.drewN nq)).setCell ⟨g, 20, none⟩ (.bool (decide (t.aboveAt ≤ t.now)))) (some g) := gr_set _ g 20 _
  have SF1 := Lib.hid SF
  have GF1 := Lib.hid SFG
  clear SF SFG
  go_wp2_with fail
  go_region
  all_goals
    go_wp2
    go_end0
    have he : takeF t = { takeU t x r with ripe := decide (t.aboveAt ≤ t.now) } := (takeF_cons HQ.out).trans ((if_neg (by have := HC.out; omega)).trans (if_neg (by rw [HA.out]; decide)))
    rw [he]
    refine ⟨rfl, ?_, gr_trans G4.out (gr_trans GF1.out (gr_drew _ _))⟩
    have hq2 : nextA t.qa t.qc = na := by rw [HQA.out]; exact HNA.out
    show _ = some (Obj.cells #[.int .i64 t.tg, .int .i64 t.iv, .int .i64 t.mtu, .bool t.above, .int .i64 t.aboveAt, .bool t.dropping, .int .i64 t.nx, .int .i64 t.cn, .int .i64 t.la, .bool true, .int .i64 x.tick, .int .i64 x.sz, .bool x.ect, .int .i64 x.id, .bool t.marked, .slice t.da t.dl.length t.dc, .int .i64 t.left, .slice (nextA t.qa t.qc) r.length (t.qc - 1), .int .i64 (t.oc - x.sz), .int .i64 t.now, .bool (decide (t.aboveAt ≤ t.now))] 50 (0, 0))
    rw [hq2]
    exact blk_drew SF1.out
end Go.Proofs.Yteflbfmkbkhimaa
