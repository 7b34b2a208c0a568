/- Bbr: the document's Ack of a state that may be and an event that may follow. -/
import Derived.Test.YtokoogohdfepiaaBbU3
import Derived.Test.YtokoogohdfepiaaBbO
import Derived.Test.YtokoogohdfepiaaBbL
import Derived.BigRegion
import Derived.Deep.CutBlock
namespace Go.Proofs.Ytokoogohdfepiaa
open Go.RowKit

set_option maxRecDepth 100000 in
set_option maxHeartbeats 6000000 in
theorem rack_tail (s : Bs) (e : Be) (y : Bs) (stb : Bool) (w V11 : World) (v0 v1 v2 v4 v7 v8 v9 v11 v12 v13 v14 v15 v16 v17 v18 v19 v20 v21 v22 v23 v24 v25 v26 v27 v28 v29 v30 v31 v32 v33 v34 v35 v36 v37 v38 v39 v40 v41 v42 v43 v44 v45 v46 v47 v48 v49 v50 v51 v52 v53 v54 v55 v56 v57 v58 v59 v60 v61 v62 v63 v64 v65 v66 v67 v68 v69 v70 v71 v72 v73 v74 v75 v76 v77 v78 v79 v80 v81 v82 v83 v84 v85 v86 v87 v88 v89 v90 v91 v92 v93 v94 v95 v96 v97 v98 v99 v100 v101 v102 v103 v104 v105 v106 v107 v108 v109 v110 v111 v112 v113 v114 v115 v116 v117 v118 v119 v120 v121 v122 v123 v124 v125 v126 v127 v128 v129 v130 v131 v132 v133 v134 v135 v136 v137 v138 v139 v140 v141 v142 v143 v144 v145 v146 v147 v148 v149 v150 v151 v152 v153 v154 v155 v156 v157 v158 v159 v160 v161 v162 v163 v164 v165 v166 v167 v168 v169 v170 v171 v172 v173 v174 v175 v176 v177 v178 v179 v180 v181 v182 : Value) (hY : SV y) (hnw : 0 ≤ e.now ∧ e.now ≤ 1099511627776) (hfin : ∃ a' c', probeF (stepF y e) e stb = ackF s e a' c') (hS : V11.heap[w.heap.size]? = some (.cells #[.int .i64 y.phase, .slice y.ra y.rl.length y.rc, .bool y.hasRtt, .int .i64 y.rtt, .int .i64 y.rttAt, .bool y.full, .int .i64 y.fullRate, .int .i64 y.fullRounds, .int .i64 y.cycle, .int .i64 y.cycleAt, .int .i64 y.til, .int .i64 y.round] 42 (0, 0))) (hE : V11.heap[w.heap.size + 1]? = some (.cells #[.int .i64 e.now, .int .i64 e.round, .int .i64 e.rate, .int .i64 e.rtt, .int .i64 e.flight, .bool e.hasRate, .bool e.hasRtt] 47 (0, 0))) (hR : V11.heap[w.heap.size + 1 + 1]? = some (.cells #[.int .i64 0, .slice none 0 0, .bool false, .int .i64 0, .int .i64 0, .bool false, .int .i64 0, .int .i64 0, .int .i64 0, .int .i64 0, .int .i64 0, .int .i64 0] 42 (0, 0))) (hO : OwnR 58 2 PC (w.heap.size + 3) y.ra y.rl y.rc V11) (hG : w.grownBy V11 (some w.heap.size)) :
    Code.wp Try.prog (tailN 10 ((Try.f16).body.getD .skip)) (bodyPost Try.prog Try.f16 (fun z w' => (∃ t : Bs, (∃ a' c', t = ackF s e a' c') ∧ z = .returned (.tuple #[.agg #[.int .i64 t.phase, .slice t.ra t.rl.length t.rc, .bool t.hasRtt, .int .i64 t.rtt, .int .i64 t.rttAt, .bool t.full, .int .i64 t.fullRate, .int .i64 t.fullRounds, .int .i64 t.cycle, .int .i64 t.cycleAt, .int .i64 t.til, .int .i64 t.round], .int .i64 0]) ∧ OwnR 58 2 PC w.heap.size t.ra t.rl t.rc w') ∧ Below w.heap.size w w')) { tmps := #[v0, v1, v2, .pointer (some ⟨w.heap.size, 0, none⟩), v4, .pointer (some ⟨w.heap.size + 1, 0, none⟩), .pointer (some ⟨w.heap.size + 1 + 1, 0, none⟩), v7, v8, v9, .bool stb, v11, v12, v13, v14, v15, v16, v17, v18, v19, v20, v21, v22, v23, v24, v25, v26, v27, v28, v29, v30, v31, v32, v33, v34, v35, v36, v37, v38, v39, v40, v41, v42, v43, v44, v45, v46, v47, v48, v49, v50, v51, v52, v53, v54, v55, v56, v57, v58, v59, v60, v61, v62, v63, v64, v65, v66, v67, v68, v69, v70, v71, v72, v73, v74, v75, v76, v77, v78, v79, v80, v81, v82, v83, v84, v85, v86, v87, v88, v89, v90, v91, v92, v93, v94, v95, v96, v97, v98, v99, v100, v101, v102, v103, v104, v105, v106, v107, v108, v109, v110, v111, v112, v113, v114, v115, v116, v117, v118, v119, v120, v121, v122, v123, v124, v125, v126, v127, v128, v129, v130, v131, v132, v133, v134, v135, v136, v137, v138, v139, v140, v141, v142, v143, v144, v145, v146, v147, v148, v149, v150, v151, v152, v153, v154, v155, v156, v157, v158, v159, v160, v161, v162, v163, v164, v165, v166, v167, v168, v169, v170, v171, v172, v173, v174, v175, v176, v177, v178, v179, v180, v181, v182], defers := [] } V11 := by
  have YV := Lib.hid hY
  have HNW := Lib.hid hnw
  have HFIN := Lib.hid hfin
  have S11 := Lib.hid hS
  have E11 := Lib.hid hE
  have R11 := Lib.hid hR
  have O11 := Lib.hid hO
  have G11 := Lib.hid hG
  clear hY hnw hfin hS hE hR hO hG
  dsimp only
  have hc : tailN 10 ((Try.f16).body.getD .skip) = tailN 10 ((Try.f16).body.getD .skip) := rfl
  conv at hc => rhs; simp only [Try.f16, Option.getD_some, tailN]
  rw [hc]
  clear hc
  go_upto_block 1 with fail
  go_cut [86, 95] (fun (_ _ : Value) (wx : World) => ∃ z : Bs, z = phaseF y e ∧ wx.heap[w.heap.size]? = some (.cells #[.int .i64 z.phase, .slice z.ra z.rl.length z.rc, .bool z.hasRtt, .int .i64 z.rtt, .int .i64 z.rttAt, .bool z.full, .int .i64 z.fullRate, .int .i64 z.fullRounds, .int .i64 z.cycle, .int .i64 z.cycleAt, .int .i64 z.til, .int .i64 z.round] 42 (0, 0)) ∧ wx.heap[w.heap.size + 1]? = some (.cells #[.int .i64 e.now, .int .i64 e.round, .int .i64 e.rate, .int .i64 e.rtt, .int .i64 e.flight, .bool e.hasRate, .bool e.hasRtt] 47 (0, 0)) ∧ wx.heap[w.heap.size + 1 + 1]? = some (.cells #[.int .i64 0, .slice none 0 0, .bool false, .int .i64 0, .int .i64 0, .bool false, .int .i64 0, .int .i64 0, .int .i64 0, .int .i64 0, .int .i64 0, .int .i64 0] 42 (0, 0)) ∧ OwnR 58 2 PC (w.heap.size + 3) z.ra z.rl z.rc wx ∧ w.grownBy wx (some w.heap.size))
  case first =>
    have c0 := blk_cell S11.out 0
    have f0 := blk_free S11.out 0
    have c3 := blk_cell S11.out 3
    have f3 := blk_free S11.out 3
    have c5 := blk_cell S11.out 5
    have f5 := blk_free S11.out 5
    have c8 := blk_cell S11.out 8
    have f8 := blk_free S11.out 8
    have c9 := blk_cell S11.out 9
    have f9 := blk_free S11.out 9
    have e0 := blk_cell E11.out 0
    have hr := YV.out.rtt
    have hca := YV.out.cycleAt
    obtain ⟨mx, hmx⟩ : ∃ z, max y.rtt 1 = z := ⟨_, rfl⟩
    have HPH : Hid (phaseF y e = if y.phase = 0 ∧ y.full = true then { y with phase := 1 } else if y.phase = 2 ∧ y.cycleAt + mx ≤ e.now then { y with cycle := (y.cycle + 1) % 8, cycleAt := e.now } else y) := Lib.hid (by unfold phaseF; rw [hmx])
    have hmx0 : 1 ≤ mx := by omega
    have hmx1 : mx ≤ 1073741824 := by omega
    have wa : IntKind.i64.wrap (y.cycleAt + mx) = y.cycleAt + mx := IntWalk.i64_in _ ⟨by omega, by omega⟩
    clear hr hca
    by_cases h : y.phase = 0
    case pos =>
      have H := Lib.hid h
      rw [H.out] at c0
      clear h
      rcases (Bool.eq_false_or_eq_true y.full).symm with h5 | h5
      · have H5 := Lib.hid h5
        rw [H5.out] at c5
        clear h5
        go_wp2_with fail
        go_meet
        exact ⟨y, (HPH.out.trans ((if_neg (fun e => by have := e.2; rw [H5.out] at this; exact absurd this (by decide))).trans (if_neg (fun e => by have := e.1; have := H.out; omega)))).symm, S11.out, E11.out, R11.out, O11.out, G11.out⟩
      · have H5 := Lib.hid h5
        rw [H5.out] at c5
        clear h5
        go_wp2_with fail
        go_meet
        exact ⟨{ y with phase := 1 }, (HPH.out.trans (if_pos ⟨H.out, H5.out⟩)).symm, (by have := blk_set S11.out 0 (.int .i64 1); exact this), stay E11.out R11.out O11.out G11.out (gr_set _ w.heap.size 0 _)⟩
    case neg =>
      have HPH2 : Hid (phaseF y e = if y.phase = 2 ∧ y.cycleAt + mx ≤ e.now then { y with cycle := (y.cycle + 1) % 8, cycleAt := e.now } else y) := Lib.hid (HPH.out.trans (if_neg (fun e => h e.1)))
      have hb0 : (y.phase == 0) = false := by rw [beq_eq_false_iff_ne]; exact h
      by_cases h2 : y.phase = 2
      · have H2 := Lib.hid h2
        rw [H2.out] at c0
        clear h2 hb0 h
        by_cases h3 : y.cycleAt + mx ≤ e.now
        · have H3 := Lib.hid h3
          have d1 : decide (y.cycleAt + mx ≤ e.now) = true := decide_eq_true h3
          have hcy := YV.out.cycle
          have hm : (y.cycle + 1).tmod 8 = (y.cycle + 1) % 8 := Int.tmod_eq_emod_of_nonneg (by omega)
          have hcy3 : 0 ≤ (y.cycle + 1) % 8 ∧ (y.cycle + 1) % 8 < 8 := by omega
          clear h3
          go_wp2_with fail
          go_region
          all_goals
            go_wp2_with fail
            go_meet
            exact ⟨{ y with cycle := (y.cycle + 1) % 8, cycleAt := e.now }, ((HPH2.out).trans (if_pos ⟨H2.out, H3.out⟩)).symm, (blk_set (blk_set (blk_drewN S11.out _) 8 (.int .i64 ((y.cycle + 1) % 8))) 9 (.int .i64 e.now)), stay E11.out R11.out O11.out G11.out (gr_trans (gr_drewN V11 _ _) (gr_trans (gr_set _ w.heap.size 8 _) (gr_set _ w.heap.size 9 _)))⟩
        · have H3 := Lib.hid h3
          have d1 : decide (y.cycleAt + mx ≤ e.now) = false := decide_eq_false h3
          clear h3
          go_wp2_with fail
          go_meet
          exact ⟨y, ((HPH2.out).trans (if_neg (fun e => by have := H3.out; have := e.2; omega))).symm, S11.out, E11.out, R11.out, O11.out, G11.out⟩
      · have hb : (y.phase == 2) = false := by rw [beq_eq_false_iff_ne]; exact h2
        go_wp2_with fail
        go_meet
        exact ⟨y, ((HPH2.out).trans (if_neg (fun e => h2 e.1))).symm, S11.out, E11.out, R11.out, O11.out, G11.out⟩
  case rest =>
  obtain ⟨z, hz, hS, hE, hR, hO, hG⟩ := hcut
  have hzH := Lib.hid hz
  have S12 := Lib.hid hS
  have E12 := Lib.hid hE
  have R12 := Lib.hid hR
  have O12 := Lib.hid hO
  have G12 := Lib.hid hG
  clear hz hS hE hR hO hG S11 E11 R11 O11 G11
  obtain ⟨V12, hVV⟩ : ∃ V, V = wc := ⟨_, rfl⟩
  subst hVV
  have ZV : Hid (SV z) := Lib.hid (by rw [hzH.out]; exact phaseF_sv YV.out HNW.out)
  refine ‹∀ (a : Act) (w : World), Code.wp _ _ _ a w → _› _ _ ?_
  exact rack_tailE s e z stb w V12 _ _ _ _ _ _ _ _ _ _ _ _ _ _ _ _ _ _ _ _ _ _ _ _ _ _ _ _ _ _ _ _ _ _ _ _ _ _ _ _ _ _ _ _ _ _ _ _ _ _ _ _ _ _ _ _ _ _ _ _ _ _ _ _ _ _ _ _ _ _ _ _ _ _ _ _ _ _ _ _ _ _ _ _ _ _ _ _ _ _ _ _ _ _ _ _ _ _ _ _ _ _ _ _ _ _ _ _ _ _ _ _ _ _ _ _ _ _ _ _ _ _ _ _ _ _ _ _ _ _ _ _ _ _ _ _ _ _ _ _ _ _ _ _ _ _ _ _ _ _ _ _ _ _ _ _ _ _ _ _ _ _ _ _ _ _ _ _ _ _ _ _ _ _ _ _ _ _ _ ZV.out HNW.out (by rw [hzH.out]; exact HFIN.out) S12.out E12.out R12.out O12.out G12.out

end Go.Proofs.Ytokoogohdfepiaa
