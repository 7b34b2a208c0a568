/- Bbr: the document's Ack of a state that may be and an event that may follow. -/
import Derived.Test.YtokoogohdfepiaaBbU1
import Derived.Test.YtokoogohdfepiaaBbO
import Derived.Test.YtokoogohdfepiaaBbL
import Derived.BigRegion
import Derived.Deep.CutBlock
namespace Go.Proofs.Ytokoogohdfepiaa
open Go.RowKit

set_option maxRecDepth 100000 in
set_option maxHeartbeats 6000000 in
theorem rack_tailF (s : Bs) (e : Be) (x : Bs) (stb : Bool) (w V16 : World) (v0 v1 v2 v4 v7 v8 v9 v11 v12 v13 v14 v15 v16 v17 v18 v19 v20 v21 v22 v23 v24 v25 v26 v27 v28 v29 v30 v31 v32 v33 v34 v35 v36 v37 v38 v39 v40 v41 v42 v43 v44 v45 v46 v47 v48 v49 v50 v51 v52 v53 v54 v55 v56 v57 v58 v59 v60 v61 v62 v63 v64 v65 v66 v67 v68 v69 v70 v71 v72 v73 v74 v75 v76 v77 v78 v79 v80 v81 v82 v83 v84 v85 v86 v87 v88 v89 v90 v91 v92 v93 v94 v95 v96 v97 v98 v99 v100 v101 v102 v103 v104 v105 v106 v107 v108 v109 v110 v111 v112 v113 v114 v115 v116 v117 v118 v119 v120 v121 v122 v123 v124 v125 v126 v127 v128 v129 v130 v131 v132 v133 v134 v135 v136 v137 v138 v139 v140 v141 v142 v143 v144 v145 v146 v147 v148 v149 v150 v151 v152 v153 v154 v155 v156 v157 v158 v159 v160 v161 v162 v163 v164 v165 v166 v167 v168 v169 v170 v171 v172 v173 v174 v175 v176 v177 v178 v179 v180 v181 v182 : Value) (hY : SV x) (hnw : 0 ≤ e.now ∧ e.now ≤ 1099511627776) (hfin : ∃ a' c', probeF x e stb = ackF s e a' c') (hS : V16.heap[w.heap.size]? = some (.cells #[.int .i64 x.phase, .slice x.ra x.rl.length x.rc, .bool x.hasRtt, .int .i64 x.rtt, .int .i64 x.rttAt, .bool x.full, .int .i64 x.fullRate, .int .i64 x.fullRounds, .int .i64 x.cycle, .int .i64 x.cycleAt, .int .i64 x.til, .int .i64 x.round] 42 (0, 0))) (hE : V16.heap[w.heap.size + 1]? = some (.cells #[.int .i64 e.now, .int .i64 e.round, .int .i64 e.rate, .int .i64 e.rtt, .int .i64 e.flight, .bool e.hasRate, .bool e.hasRtt] 47 (0, 0))) (hR : V16.heap[w.heap.size + 1 + 1]? = some (.cells #[.int .i64 0, .slice none 0 0, .bool false, .int .i64 0, .int .i64 0, .bool false, .int .i64 0, .int .i64 0, .int .i64 0, .int .i64 0, .int .i64 0, .int .i64 0] 42 (0, 0))) (hO : OwnR 58 2 PC (w.heap.size + 3) x.ra x.rl x.rc V16) (hG : w.grownBy V16 (some w.heap.size)) :
    Code.wp Try.prog (tailN 12 ((Try.f16).body.getD .skip)) (bodyPost Try.prog Try.f16 (fun z w' => (∃ t : Bs, (∃ a' c', t = ackF s e a' c') ∧ z = .returned (.tuple #[.agg #[.int .i64 t.phase, .slice t.ra t.rl.length t.rc, .bool t.hasRtt, .int .i64 t.rtt, .int .i64 t.rttAt, .bool t.full, .int .i64 t.fullRate, .int .i64 t.fullRounds, .int .i64 t.cycle, .int .i64 t.cycleAt, .int .i64 t.til, .int .i64 t.round], .int .i64 0]) ∧ OwnR 58 2 PC w.heap.size t.ra t.rl t.rc w') ∧ Below w.heap.size w w')) { tmps := #[v0, v1, v2, .pointer (some ⟨w.heap.size, 0, none⟩), v4, .pointer (some ⟨w.heap.size + 1, 0, none⟩), .pointer (some ⟨w.heap.size + 1 + 1, 0, none⟩), v7, v8, v9, .bool stb, v11, v12, v13, v14, v15, v16, v17, v18, v19, v20, v21, v22, v23, v24, v25, v26, v27, v28, v29, v30, v31, v32, v33, v34, v35, v36, v37, v38, v39, v40, v41, v42, v43, v44, v45, v46, v47, v48, v49, v50, v51, v52, v53, v54, v55, v56, v57, v58, v59, v60, v61, v62, v63, v64, v65, v66, v67, v68, v69, v70, v71, v72, v73, v74, v75, v76, v77, v78, v79, v80, v81, v82, v83, v84, v85, v86, v87, v88, v89, v90, v91, v92, v93, v94, v95, v96, v97, v98, v99, v100, v101, v102, v103, v104, v105, v106, v107, v108, v109, v110, v111, v112, v113, v114, v115, v116, v117, v118, v119, v120, v121, v122, v123, v124, v125, v126, v127, v128, v129, v130, v131, v132, v133, v134, v135, v136, v137, v138, v139, v140, v141, v142, v143, v144, v145, v146, v147, v148, v149, v150, v151, v152, v153, v154, v155, v156, v157, v158, v159, v160, v161, v162, v163, v164, v165, v166, v167, v168, v169, v170, v171, v172, v173, v174, v175, v176, v177, v178, v179, v180, v181, v182], defers := [] } V16 := by
  have XV := Lib.hid hY
  have HNW := Lib.hid hnw
  have HFIN := Lib.hid hfin
  have S16 := Lib.hid hS
  have E16 := Lib.hid hE
  have R16 := Lib.hid hR
  have O16 := Lib.hid hO
  have G16 := Lib.hid hG
  clear hY hnw hfin hS hE hR hO hG
  dsimp only
  have hc : tailN 12 ((Try.f16).body.getD .skip) = tailN 12 ((Try.f16).body.getD .skip) := rfl
  conv at hc => rhs; simp only [Try.f16, Option.getD_some, tailN]
  rw [hc]
  clear hc
  go_upto_block 2 with fail
  go_cut [132, 145, 167] (fun (_ _ _ : Value) (wx : World) => ∃ k : Bs, k = probeF x e stb ∧ wx.heap[w.heap.size]? = some (.cells #[.int .i64 k.phase, .slice k.ra k.rl.length k.rc, .bool k.hasRtt, .int .i64 k.rtt, .int .i64 k.rttAt, .bool k.full, .int .i64 k.fullRate, .int .i64 k.fullRounds, .int .i64 k.cycle, .int .i64 k.cycleAt, .int .i64 k.til, .int .i64 k.round] 42 (0, 0)) ∧ wx.heap[w.heap.size + 1]? = some (.cells #[.int .i64 e.now, .int .i64 e.round, .int .i64 e.rate, .int .i64 e.rtt, .int .i64 e.flight, .bool e.hasRate, .bool e.hasRtt] 47 (0, 0)) ∧ wx.heap[w.heap.size + 1 + 1]? = some (.cells #[.int .i64 0, .slice none 0 0, .bool false, .int .i64 0, .int .i64 0, .bool false, .int .i64 0, .int .i64 0, .int .i64 0, .int .i64 0, .int .i64 0, .int .i64 0] 42 (0, 0)) ∧ OwnR 58 2 PC (w.heap.size + 3) k.ra k.rl k.rc wx ∧ w.grownBy wx (some w.heap.size))
  case first =>
    have c0 := blk_cell S16.out 0
    have f0 := blk_free S16.out 0
    have c1 := blk_cell S16.out 1
    have f1 := blk_free S16.out 1
    have c2 := blk_cell S16.out 2
    have f2 := blk_free S16.out 2
    have c3 := blk_cell S16.out 3
    have f3 := blk_free S16.out 3
    have c4 := blk_cell S16.out 4
    have f4 := blk_free S16.out 4
    have c5 := blk_cell S16.out 5
    have f5 := blk_free S16.out 5
    have c6 := blk_cell S16.out 6
    have f6 := blk_free S16.out 6
    have c7 := blk_cell S16.out 7
    have f7 := blk_free S16.out 7
    have c8 := blk_cell S16.out 8
    have f8 := blk_free S16.out 8
    have c9 := blk_cell S16.out 9
    have f9 := blk_free S16.out 9
    have c10 := blk_cell S16.out 10
    have f10 := blk_free S16.out 10
    have c11 := blk_cell S16.out 11
    have f11 := blk_free S16.out 11
    have e0 := blk_cell E16.out 0
    obtain ⟨n0, n1⟩ := HNW.out
    have w1 : IntKind.i64.wrap (e.now + 200) = e.now + 200 := IntWalk.i64_in _ ⟨by omega, by omega⟩
    have HPF : Hid (probeF x e stb = if stb = true ∧ ¬ x.phase = 3 then { x with phase := 3, til := min (e.now + 200) 1099511627776 } else if x.phase = 3 ∧ x.til ≤ e.now then (if x.full = true then cruiseF { x with rttAt := e.now, phase := 0 } e.now else { x with rttAt := e.now, phase := 0 }) else x) := Lib.hid rfl
    cases stb with
    | false =>
      by_cases h : x.phase = 3
      case pos =>
        have H := Lib.hid h
        rw [H.out] at c0
        clear h
        by_cases h3 : x.til ≤ e.now
        case pos =>
          have H3 := Lib.hid h3
          have d1 : decide (x.til ≤ e.now) = true := decide_eq_true h3
          clear h3
          rcases (Bool.eq_false_or_eq_true x.full).symm with h5 | h5
          · have H5 := Lib.hid h5
            rw [H5.out] at c5
            clear h5
            go_wp2_with fail
            go_region
            all_goals
              go_wp2_with fail
              go_meet
              exact ⟨{ x with rttAt := e.now, phase := 0 }, (HPF.out.trans ((if_neg (fun h => h.2 H.out)).trans ((if_pos ⟨H.out, H3.out⟩).trans (if_neg (by rw [H5.out]; decide))))).symm, (blk_set (blk_set (blk_drewN S16.out _) 0 (.int .i64 0)) 4 (.int .i64 e.now)), stay E16.out R16.out O16.out G16.out (gr_trans (gr_drewN V16 _ _) (gr_trans (gr_set _ w.heap.size 0 _) (gr_set _ w.heap.size 4 _)))⟩
          · have H5 := Lib.hid h5
            rw [H5.out] at c5
            clear h5
            go_wp2_with fail
            have HPX := Lib.hid (rprobes_any x e.now V16)
            rw [H.out, H5.out] at HPX
            refine HPX.out.mono ?_
            rintro r V17 ⟨rfl, b⟩
            have S17 := Lib.hid ((b.block _ (blk_lt S16.out)).trans S16.out)
            have E17 := Lib.hid ((b.block _ (blk_lt E16.out)).trans E16.out)
            have R17 := Lib.hid ((b.block _ (blk_lt R16.out)).trans R16.out)
            have O17 := Lib.hid (O16.out.below b)
            have G17 := Lib.hid (gr_trans G16.out (gr_below b (some w.heap.size)))
            clear b e0 c0 f0 c1 f1 c2 f2 c3 f3 c4 f4 c5 f5 c6 f6 c7 f7 c8 f8 c9 f9 c10 f10 c11 f11 S16 E16 R16 O16 G16
            have c0 := blk_cell S17.out 0; have f0 := blk_free S17.out 0; have c1 := blk_cell S17.out 1; have f1 := blk_free S17.out 1; have c2 := blk_cell S17.out 2; have f2 := blk_free S17.out 2; have c3 := blk_cell S17.out 3; have f3 := blk_free S17.out 3; have c4 := blk_cell S17.out 4; have f4 := blk_free S17.out 4; have c5 := blk_cell S17.out 5; have f5 := blk_free S17.out 5; have c6 := blk_cell S17.out 6; have f6 := blk_free S17.out 6; have c7 := blk_cell S17.out 7; have f7 := blk_free S17.out 7; have c8 := blk_cell S17.out 8; have f8 := blk_free S17.out 8; have c9 := blk_cell S17.out 9; have f9 := blk_free S17.out 9; have c10 := blk_cell S17.out 10; have f10 := blk_free S17.out 10; have c11 := blk_cell S17.out 11; have f11 := blk_free S17.out 11
            go_upto_region 28 with fail
            obtain ⟨RW, GW⟩ := set12 V17 w.heap.size _ _ _ _ _ _ _ _ _ _ _ _ _ (.int .i64 2) (.slice x.ra x.rl.length x.rc) (.bool x.hasRtt) (.int .i64 x.rtt) (.int .i64 x.rttAt) (.bool true) (.int .i64 x.fullRate) (.int .i64 x.fullRounds) (.int .i64 0) (.int .i64 e.now) (.int .i64 x.til) (.int .i64 x.round) S17.out
            have S18 := Lib.hid RW
            have E18 := Lib.hid (gr_blk E17.out GW (by omega))
            have R18 := Lib.hid (gr_blk R17.out GW (by omega))
            have O18 := Lib.hid (O17.out.grownN GW (by omega))
            have G18 := Lib.hid (gr_trans G17.out GW)
            clear RW GW S17 E17 R17 O17 G17 c0 f0 c1 f1 c2 f2 c3 f3 c4 f4 c5 f5 c6 f6 c7 f7 c8 f8 c9 f9 c10 f10 c11 f11
            generalize ((((((((((((V17).setCell ⟨w.heap.size, 0, none⟩ (.int .i64 2)).setCell ⟨w.heap.size, 1, none⟩ (.slice x.ra x.rl.length x.rc)).setCell ⟨w.heap.size, 2, none⟩ (.bool x.hasRtt)).setCell ⟨w.heap.size, 3, none⟩ (.int .i64 x.rtt)).setCell ⟨w.heap.size, 4, none⟩ (.int .i64 x.rttAt)).setCell ⟨w.heap.size, 5, none⟩ (.bool true)).setCell ⟨w.heap.size, 6, none⟩ (.int .i64 x.fullRate)).setCell ⟨w.heap.size, 7, none⟩ (.int .i64 x.fullRounds)).setCell ⟨w.heap.size, 8, none⟩ (.int .i64 0)).setCell ⟨w.heap.size, 9, none⟩ (.int .i64 e.now)).setCell ⟨w.heap.size, 10, none⟩ (.int .i64 x.til)).setCell ⟨w.heap.size, 11, none⟩ (.int .i64 x.round) = V18 at S18 E18 R18 O18 G18 ⊢
            have e0 := blk_cell E18.out 0
            have c4 := blk_cell S18.out 4
            have f4 := blk_free S18.out 4
            go_wp2_with fail
            go_meet
            exact ⟨cruiseF { x with rttAt := e.now, phase := 0 } e.now, (HPF.out.trans ((if_neg (fun h => h.2 H.out)).trans ((if_pos ⟨H.out, H3.out⟩).trans (if_pos H5.out)))).symm, (by have := blk_set S18.out 4 (.int .i64 e.now); show _ = some (Obj.cells #[.int .i64 2, .slice x.ra x.rl.length x.rc, .bool x.hasRtt, .int .i64 x.rtt, .int .i64 e.now, .bool x.full, .int .i64 x.fullRate, .int .i64 x.fullRounds, .int .i64 0, .int .i64 e.now, .int .i64 x.til, .int .i64 x.round] 42 (0, 0)); rw [show x.full = true from H5.out]; exact this), stay E18.out R18.out O18.out G18.out (gr_set _ w.heap.size 4 _)⟩
        case neg =>
          have H3 := Lib.hid h3
          have d1 : decide (x.til ≤ e.now) = false := decide_eq_false h3
          clear h3
          go_wp2_with fail
          go_meet
          exact ⟨x, (HPF.out.trans ((if_neg (fun h => h.2 H.out)).trans (if_neg (fun e => by have := H3.out; have := e.2; omega)))).symm, S16.out, E16.out, R16.out, O16.out, G16.out⟩
      case neg =>
        have hb : (x.phase == 3) = false := by rw [beq_eq_false_iff_ne]; exact h
        go_wp2_with fail
        go_meet
        exact ⟨x, (HPF.out.trans ((if_neg (fun h => absurd h.1 (by decide))).trans (if_neg (fun e => h e.1)))).symm, S16.out, E16.out, R16.out, O16.out, G16.out⟩
    | true =>
      by_cases h : x.phase = 3
      case pos =>
        have H := Lib.hid h
        rw [H.out] at c0
        clear h
        by_cases h3 : x.til ≤ e.now
        case pos =>
          have H3 := Lib.hid h3
          have d1 : decide (x.til ≤ e.now) = true := decide_eq_true h3
          clear h3
          rcases (Bool.eq_false_or_eq_true x.full).symm with h5 | h5
          · have H5 := Lib.hid h5
            rw [H5.out] at c5
            clear h5
            go_wp2_with fail
            go_region
            all_goals
              go_wp2_with fail
              go_meet
              exact ⟨{ x with rttAt := e.now, phase := 0 }, (HPF.out.trans ((if_neg (fun h => h.2 H.out)).trans ((if_pos ⟨H.out, H3.out⟩).trans (if_neg (by rw [H5.out]; decide))))).symm, (blk_set (blk_set (blk_drewN S16.out _) 0 (.int .i64 0)) 4 (.int .i64 e.now)), stay E16.out R16.out O16.out G16.out (gr_trans (gr_drewN V16 _ _) (gr_trans (gr_set _ w.heap.size 0 _) (gr_set _ w.heap.size 4 _)))⟩
          · have H5 := Lib.hid h5
            rw [H5.out] at c5
            clear h5
            go_wp2_with fail
            have HPX := Lib.hid (rprobes_any x e.now V16)
            rw [H.out, H5.out] at HPX
            refine HPX.out.mono ?_
            rintro r V17 ⟨rfl, b⟩
            have S17 := Lib.hid ((b.block _ (blk_lt S16.out)).trans S16.out)
            have E17 := Lib.hid ((b.block _ (blk_lt E16.out)).trans E16.out)
            have R17 := Lib.hid ((b.block _ (blk_lt R16.out)).trans R16.out)
            have O17 := Lib.hid (O16.out.below b)
            have G17 := Lib.hid (gr_trans G16.out (gr_below b (some w.heap.size)))
            clear b e0 c0 f0 c1 f1 c2 f2 c3 f3 c4 f4 c5 f5 c6 f6 c7 f7 c8 f8 c9 f9 c10 f10 c11 f11 S16 E16 R16 O16 G16
            have c0 := blk_cell S17.out 0; have f0 := blk_free S17.out 0; have c1 := blk_cell S17.out 1; have f1 := blk_free S17.out 1; have c2 := blk_cell S17.out 2; have f2 := blk_free S17.out 2; have c3 := blk_cell S17.out 3; have f3 := blk_free S17.out 3; have c4 := blk_cell S17.out 4; have f4 := blk_free S17.out 4; have c5 := blk_cell S17.out 5; have f5 := blk_free S17.out 5; have c6 := blk_cell S17.out 6; have f6 := blk_free S17.out 6; have c7 := blk_cell S17.out 7; have f7 := blk_free S17.out 7; have c8 := blk_cell S17.out 8; have f8 := blk_free S17.out 8; have c9 := blk_cell S17.out 9; have f9 := blk_free S17.out 9; have c10 := blk_cell S17.out 10; have f10 := blk_free S17.out 10; have c11 := blk_cell S17.out 11; have f11 := blk_free S17.out 11
            go_upto_region 28 with fail
            obtain ⟨RW, GW⟩ := set12 V17 w.heap.size _ _ _ _ _ _ _ _ _ _ _ _ _ (.int .i64 2) (.slice x.ra x.rl.length x.rc) (.bool x.hasRtt) (.int .i64 x.rtt) (.int .i64 x.rttAt) (.bool true) (.int .i64 x.fullRate) (.int .i64 x.fullRounds) (.int .i64 0) (.int .i64 e.now) (.int .i64 x.til) (.int .i64 x.round) S17.out
            have S18 := Lib.hid RW
            have E18 := Lib.hid (gr_blk E17.out GW (by omega))
            have R18 := Lib.hid (gr_blk R17.out GW (by omega))
            have O18 := Lib.hid (O17.out.grownN GW (by omega))
            have G18 := Lib.hid (gr_trans G17.out GW)
            clear RW GW S17 E17 R17 O17 G17 c0 f0 c1 f1 c2 f2 c3 f3 c4 f4 c5 f5 c6 f6 c7 f7 c8 f8 c9 f9 c10 f10 c11 f11
            generalize ((((((((((((V17).setCell ⟨w.heap.size, 0, none⟩ (.int .i64 2)).setCell ⟨w.heap.size, 1, none⟩ (.slice x.ra x.rl.length x.rc)).setCell ⟨w.heap.size, 2, none⟩ (.bool x.hasRtt)).setCell ⟨w.heap.size, 3, none⟩ (.int .i64 x.rtt)).setCell ⟨w.heap.size, 4, none⟩ (.int .i64 x.rttAt)).setCell ⟨w.heap.size, 5, none⟩ (.bool true)).setCell ⟨w.heap.size, 6, none⟩ (.int .i64 x.fullRate)).setCell ⟨w.heap.size, 7, none⟩ (.int .i64 x.fullRounds)).setCell ⟨w.heap.size, 8, none⟩ (.int .i64 0)).setCell ⟨w.heap.size, 9, none⟩ (.int .i64 e.now)).setCell ⟨w.heap.size, 10, none⟩ (.int .i64 x.til)).setCell ⟨w.heap.size, 11, none⟩ (.int .i64 x.round) = V18 at S18 E18 R18 O18 G18 ⊢
            have e0 := blk_cell E18.out 0
            have c4 := blk_cell S18.out 4
            have f4 := blk_free S18.out 4
            go_wp2_with fail
            go_meet
            exact ⟨cruiseF { x with rttAt := e.now, phase := 0 } e.now, (HPF.out.trans ((if_neg (fun h => h.2 H.out)).trans ((if_pos ⟨H.out, H3.out⟩).trans (if_pos H5.out)))).symm, (by have := blk_set S18.out 4 (.int .i64 e.now); show _ = some (Obj.cells #[.int .i64 2, .slice x.ra x.rl.length x.rc, .bool x.hasRtt, .int .i64 x.rtt, .int .i64 e.now, .bool x.full, .int .i64 x.fullRate, .int .i64 x.fullRounds, .int .i64 0, .int .i64 e.now, .int .i64 x.til, .int .i64 x.round] 42 (0, 0)); rw [show x.full = true from H5.out]; exact this), stay E18.out R18.out O18.out G18.out (gr_set _ w.heap.size 4 _)⟩
        case neg =>
          have H3 := Lib.hid h3
          have d1 : decide (x.til ≤ e.now) = false := decide_eq_false h3
          clear h3
          go_wp2_with fail
          go_meet
          exact ⟨x, (HPF.out.trans ((if_neg (fun h => h.2 H.out)).trans (if_neg (fun e => by have := H3.out; have := e.2; omega)))).symm, S16.out, E16.out, R16.out, O16.out, G16.out⟩
      case neg =>
        have hb : (x.phase == 3) = false := by rw [beq_eq_false_iff_ne]; exact h
        go_wp2_with fail
        go_region
        all_goals
          go_wp2_with fail
          go_meet
          exact ⟨{ x with phase := 3, til := min (e.now + 200) 1099511627776 }, (HPF.out.trans (if_pos ⟨by first | rfl | trivial, h⟩)).symm, (blk_set (blk_set (blk_drewN S16.out _) 0 (.int .i64 3)) 10 (.int .i64 (min (e.now + 200) 1099511627776))), stay E16.out R16.out O16.out G16.out (gr_trans (gr_drewN V16 _ _) (gr_trans (gr_set _ w.heap.size 0 _) (gr_set _ w.heap.size 10 _)))⟩
  case rest =>
  obtain ⟨k, hk, hS, hE, hR, hO, hG⟩ := hcut
  have hkH := Lib.hid hk
  have S19 := Lib.hid hS
  have E19 := Lib.hid hE
  have R19 := Lib.hid hR
  have O19 := Lib.hid hO
  have G19 := Lib.hid hG
  clear hk hS hE hR hO hG S16 E16 R16 O16 G16
  obtain ⟨V19, hVV⟩ : ∃ V, V = wc := ⟨_, rfl⟩
  subst hVV
  have KV : Hid (SV k) := Lib.hid (by rw [hkH.out]; exact probeF_sv _ XV.out HNW.out)
  refine ‹∀ (a : Act) (w : World), Code.wp _ _ _ a w → _› _ _ ?_
  exact rack_tailG s e k stb w V19 _ _ _ _ _ _ _ _ _ _ _ _ _ _ _ _ _ _ _ _ _ _ _ _ _ _ _ _ _ _ _ _ _ _ _ _ _ _ _ _ _ _ _ _ _ _ _ _ _ _ _ _ _ _ _ _ _ _ _ _ _ _ _ _ _ _ _ _ _ _ _ _ _ _ _ _ _ _ _ _ _ _ _ _ _ _ _ _ _ _ _ _ _ _ _ _ _ _ _ _ _ _ _ _ _ _ _ _ _ _ _ _ _ _ _ _ _ _ _ _ _ _ _ _ _ _ _ _ _ _ _ _ _ _ _ _ _ _ _ _ _ _ _ _ _ _ _ _ _ _ _ _ _ _ _ _ _ _ _ _ _ _ _ _ _ _ _ _ _ _ _ _ _ _ _ _ _ _ _ KV.out HNW.out (by rw [hkH.out]; exact HFIN.out) S19.out E19.out R19.out O19.out G19.out

end Go.Proofs.Ytokoogohdfepiaa
