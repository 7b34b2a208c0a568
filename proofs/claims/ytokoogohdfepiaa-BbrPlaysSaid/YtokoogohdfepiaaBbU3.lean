/- Bbr: the document's Ack of a state that may be and an event that may follow. -/
import Derived.Test.YtokoogohdfepiaaBbU2
import Derived.Test.YtokoogohdfepiaaBbO
import Derived.Test.YtokoogohdfepiaaBbL
import Derived.BigRegion
import Derived.Deep.CutBlock
namespace Go.Proofs.Ytokoogohdfepiaa
open Go.RowKit

set_option maxRecDepth 100000 in
set_option maxHeartbeats 6000000 in
theorem rack_tailE (s : Bs) (e : Be) (z : Bs) (stb : Bool) (w V12 : World) (v0 v1 v2 v4 v7 v8 v9 v11 v12 v13 v14 v15 v16 v17 v18 v19 v20 v21 v22 v23 v24 v25 v26 v27 v28 v29 v30 v31 v32 v33 v34 v35 v36 v37 v38 v39 v40 v41 v42 v43 v44 v45 v46 v47 v48 v49 v50 v51 v52 v53 v54 v55 v56 v57 v58 v59 v60 v61 v62 v63 v64 v65 v66 v67 v68 v69 v70 v71 v72 v73 v74 v75 v76 v77 v78 v79 v80 v81 v82 v83 v84 v85 v86 v87 v88 v89 v90 v91 v92 v93 v94 v95 v96 v97 v98 v99 v100 v101 v102 v103 v104 v105 v106 v107 v108 v109 v110 v111 v112 v113 v114 v115 v116 v117 v118 v119 v120 v121 v122 v123 v124 v125 v126 v127 v128 v129 v130 v131 v132 v133 v134 v135 v136 v137 v138 v139 v140 v141 v142 v143 v144 v145 v146 v147 v148 v149 v150 v151 v152 v153 v154 v155 v156 v157 v158 v159 v160 v161 v162 v163 v164 v165 v166 v167 v168 v169 v170 v171 v172 v173 v174 v175 v176 v177 v178 v179 v180 v181 v182 : Value) (hY : SV z) (hnw : 0 ≤ e.now ∧ e.now ≤ 1099511627776) (hfin : ∃ a' c', probeF (flowF z e) e stb = ackF s e a' c') (hS : V12.heap[w.heap.size]? = some (.cells #[.int .i64 z.phase, .slice z.ra z.rl.length z.rc, .bool z.hasRtt, .int .i64 z.rtt, .int .i64 z.rttAt, .bool z.full, .int .i64 z.fullRate, .int .i64 z.fullRounds, .int .i64 z.cycle, .int .i64 z.cycleAt, .int .i64 z.til, .int .i64 z.round] 42 (0, 0))) (hE : V12.heap[w.heap.size + 1]? = some (.cells #[.int .i64 e.now, .int .i64 e.round, .int .i64 e.rate, .int .i64 e.rtt, .int .i64 e.flight, .bool e.hasRate, .bool e.hasRtt] 47 (0, 0))) (hR : V12.heap[w.heap.size + 1 + 1]? = some (.cells #[.int .i64 0, .slice none 0 0, .bool false, .int .i64 0, .int .i64 0, .bool false, .int .i64 0, .int .i64 0, .int .i64 0, .int .i64 0, .int .i64 0, .int .i64 0] 42 (0, 0))) (hO : OwnR 58 2 PC (w.heap.size + 3) z.ra z.rl z.rc V12) (hG : w.grownBy V12 (some w.heap.size)) :
    Code.wp Try.prog (tailN 11 ((Try.f16).body.getD .skip)) (bodyPost Try.prog Try.f16 (fun z w' => (∃ t : Bs, (∃ a' c', t = ackF s e a' c') ∧ z = .returned (.tuple #[.agg #[.int .i64 t.phase, .slice t.ra t.rl.length t.rc, .bool t.hasRtt, .int .i64 t.rtt, .int .i64 t.rttAt, .bool t.full, .int .i64 t.fullRate, .int .i64 t.fullRounds, .int .i64 t.cycle, .int .i64 t.cycleAt, .int .i64 t.til, .int .i64 t.round], .int .i64 0]) ∧ OwnR 58 2 PC w.heap.size t.ra t.rl t.rc w') ∧ Below w.heap.size w w')) { tmps := #[v0, v1, v2, .pointer (some ⟨w.heap.size, 0, none⟩), v4, .pointer (some ⟨w.heap.size + 1, 0, none⟩), .pointer (some ⟨w.heap.size + 1 + 1, 0, none⟩), v7, v8, v9, .bool stb, v11, v12, v13, v14, v15, v16, v17, v18, v19, v20, v21, v22, v23, v24, v25, v26, v27, v28, v29, v30, v31, v32, v33, v34, v35, v36, v37, v38, v39, v40, v41, v42, v43, v44, v45, v46, v47, v48, v49, v50, v51, v52, v53, v54, v55, v56, v57, v58, v59, v60, v61, v62, v63, v64, v65, v66, v67, v68, v69, v70, v71, v72, v73, v74, v75, v76, v77, v78, v79, v80, v81, v82, v83, v84, v85, v86, v87, v88, v89, v90, v91, v92, v93, v94, v95, v96, v97, v98, v99, v100, v101, v102, v103, v104, v105, v106, v107, v108, v109, v110, v111, v112, v113, v114, v115, v116, v117, v118, v119, v120, v121, v122, v123, v124, v125, v126, v127, v128, v129, v130, v131, v132, v133, v134, v135, v136, v137, v138, v139, v140, v141, v142, v143, v144, v145, v146, v147, v148, v149, v150, v151, v152, v153, v154, v155, v156, v157, v158, v159, v160, v161, v162, v163, v164, v165, v166, v167, v168, v169, v170, v171, v172, v173, v174, v175, v176, v177, v178, v179, v180, v181, v182], defers := [] } V12 := by
  have ZV := Lib.hid hY
  have HNW := Lib.hid hnw
  have HFIN := Lib.hid hfin
  have S12 := Lib.hid hS
  have E12 := Lib.hid hE
  have R12 := Lib.hid hR
  have O12 := Lib.hid hO
  have G12 := Lib.hid hG
  clear hY hnw hfin hS hE hR hO hG
  dsimp only
  have hc : tailN 11 ((Try.f16).body.getD .skip) = tailN 11 ((Try.f16).body.getD .skip) := rfl
  conv at hc => rhs; simp only [Try.f16, Option.getD_some, tailN]
  rw [hc]
  clear hc
  obtain ⟨wb, hwb⟩ : ∃ wb : Bool, (decide (z.phase = 1) && decide (e.flight ≤ gE z.rl * z.rtt / 1024)) = wb := ⟨_, rfl⟩
  have HWB := Lib.hid hwb
  clear hwb
  go_upto_region 22 with fail
  go_cut [127] (fun (cv : Value) (wx : World) => cv = .bool wb ∧ Below V12.heap.size V12 wx)
  case first =>
    have c0 := blk_cell (blk_drew S12.out) 0
    have c1 := blk_cell (blk_drew S12.out) 1
    have c2 := blk_cell (blk_drew S12.out) 2
    have c3 := blk_cell (blk_drew S12.out) 3
    have c4 := blk_cell (blk_drew S12.out) 4
    have c5 := blk_cell (blk_drew S12.out) 5
    have c6 := blk_cell (blk_drew S12.out) 6
    have c7 := blk_cell (blk_drew S12.out) 7
    have c8 := blk_cell (blk_drew S12.out) 8
    have c9 := blk_cell (blk_drew S12.out) 9
    have c10 := blk_cell (blk_drew S12.out) 10
    have c11 := blk_cell (blk_drew S12.out) 11
    have e4 := blk_cell (blk_drew E12.out) 4
    by_cases h : z.phase = 1
    · have H := Lib.hid h
      obtain ⟨q, hq⟩ : ∃ q, gE z.rl * z.rtt / 1024 = q := ⟨_, rfl⟩
      have HW := Lib.hid (fun (W : World) (hW : Sts 2 PC Tr W z.ra z.rl) => rway_any z W ZV.out hW)
      have HB2 : Hid (decide (e.flight ≤ q) = wb) := Lib.hid (by have := HWB.out; rwa [decide_eq_true H.out, Bool.true_and, hq] at this)
      rw [hq, H.out] at HW
      rw [H.out] at c0
      clear h hq
      have LD := Lib.hid (show Sts 2 PC Tr V12.drew z.ra z.rl from O12.out.sts encP)
      have SS0 := Lib.hid (And.intro c0 (And.intro c1 (And.intro c2 (And.intro c3 (And.intro c4 (And.intro c5 (And.intro c6 (And.intro c7 (And.intro c8 (And.intro c9 (And.intro c10 (And.intro c11 e4))))))))))))
      go_region_held3 (fun W => (W).cell? ⟨w.heap.size, 0, none⟩ = some (.int .i64 1) ∧ (W).cell? ⟨w.heap.size, 1, none⟩ = some (.slice z.ra z.rl.length z.rc) ∧ (W).cell? ⟨w.heap.size, 2, none⟩ = some (.bool z.hasRtt) ∧ (W).cell? ⟨w.heap.size, 3, none⟩ = some (.int .i64 z.rtt) ∧ (W).cell? ⟨w.heap.size, 4, none⟩ = some (.int .i64 z.rttAt) ∧ (W).cell? ⟨w.heap.size, 5, none⟩ = some (.bool z.full) ∧ (W).cell? ⟨w.heap.size, 6, none⟩ = some (.int .i64 z.fullRate) ∧ (W).cell? ⟨w.heap.size, 7, none⟩ = some (.int .i64 z.fullRounds) ∧ (W).cell? ⟨w.heap.size, 8, none⟩ = some (.int .i64 z.cycle) ∧ (W).cell? ⟨w.heap.size, 9, none⟩ = some (.int .i64 z.cycleAt) ∧ (W).cell? ⟨w.heap.size, 10, none⟩ = some (.int .i64 z.til) ∧ (W).cell? ⟨w.heap.size, 11, none⟩ = some (.int .i64 z.round) ∧ (W).cell? ⟨w.heap.size + 1, 4, none⟩ = some (.int .i64 e.flight)) (first | (with_reducible exact SS0.out) | (with_reducible exact SS1.out) | go_keep) (first
        | (go_at_call 35; (with_reducible refine (HW.out _ LD.out).mono ?_); rintro r V13 ⟨rfl, b⟩; have S13 := Lib.hid ((b.block _ (blk_lt (blk_drew S12.out))).trans (blk_drew S12.out)); have E13 := Lib.hid ((b.block _ (blk_lt (blk_drew E12.out))).trans (blk_drew E12.out)); have QB := Lib.hid ((Below.refl V12.heap.size V12).drew.trans b); have d0 := blk_cell S13.out 0; have d1 := blk_cell S13.out 1; have d2 := blk_cell S13.out 2; have d3 := blk_cell S13.out 3; have d4 := blk_cell S13.out 4; have d5 := blk_cell S13.out 5; have d6 := blk_cell S13.out 6; have d7 := blk_cell S13.out 7; have d8 := blk_cell S13.out 8; have d9 := blk_cell S13.out 9; have d10 := blk_cell S13.out 10; have d11 := blk_cell S13.out 11; have n4 := blk_cell E13.out 4; rw [H.out] at d0; have SS1 := Lib.hid (And.intro d0 (And.intro d1 (And.intro d2 (And.intro d3 (And.intro d4 (And.intro d5 (And.intro d6 (And.intro d7 (And.intro d8 (And.intro d9 (And.intro d10 (And.intro d11 n4)))))))))))); clear b))
      all_goals
        go_wp2_with fail
        go_meet
        exact ⟨congrArg Value.bool HB2.out, QB.out⟩
    · have hb : (z.phase == 1) = false := by rw [beq_eq_false_iff_ne]; exact h
      clear c0 c1 c2 c3 c4 c5 c6 c7 c8 c9 c10 c11 e4
      have c0 := blk_cell S12.out 0
      go_quiet (fail)
      go_wp2_with fail
      go_meet
      exact ⟨congrArg Value.bool (show false = wb by have := HWB.out; rwa [decide_eq_false h, Bool.false_and] at this), below_drewN (Below.refl _ _) _⟩
  case rest =>
  obtain ⟨rfl, b⟩ := hcut
  obtain ⟨V14, hVV⟩ : ∃ V, V = wc := ⟨_, rfl⟩
  subst hVV
  have S14 := Lib.hid ((b.block _ (blk_lt S12.out)).trans S12.out)
  have E14 := Lib.hid ((b.block _ (blk_lt E12.out)).trans E12.out)
  have R14 := Lib.hid ((b.block _ (blk_lt R12.out)).trans R12.out)
  have O14 := Lib.hid (O12.out.below b)
  have G14 := Lib.hid (gr_trans G12.out (gr_below b (some w.heap.size)))
  clear b S12 E12 R12 O12 G12
  go_upto_if 127 with fail
  go_cut [] (fun (wx : World) => ∃ x : Bs, x = flowF z e ∧ wx.heap[w.heap.size]? = some (.cells #[.int .i64 x.phase, .slice x.ra x.rl.length x.rc, .bool x.hasRtt, .int .i64 x.rtt, .int .i64 x.rttAt, .bool x.full, .int .i64 x.fullRate, .int .i64 x.fullRounds, .int .i64 x.cycle, .int .i64 x.cycleAt, .int .i64 x.til, .int .i64 x.round] 42 (0, 0)) ∧ wx.heap[w.heap.size + 1]? = some (.cells #[.int .i64 e.now, .int .i64 e.round, .int .i64 e.rate, .int .i64 e.rtt, .int .i64 e.flight, .bool e.hasRate, .bool e.hasRtt] 47 (0, 0)) ∧ wx.heap[w.heap.size + 1 + 1]? = some (.cells #[.int .i64 0, .slice none 0 0, .bool false, .int .i64 0, .int .i64 0, .bool false, .int .i64 0, .int .i64 0, .int .i64 0, .int .i64 0, .int .i64 0, .int .i64 0] 42 (0, 0)) ∧ OwnR 58 2 PC (w.heap.size + 3) x.ra x.rl x.rc wx ∧ w.grownBy wx (some w.heap.size))
  case first =>
    cases wb with
    | false =>
      go_wp2_with fail
      go_meet
      exact ⟨z, (if_neg (fun h => by have := HWB.out; rw [decide_eq_true h.1, decide_eq_true h.2] at this; exact absurd this (by decide))).symm, S14.out, E14.out, R14.out, O14.out, G14.out⟩
    | true =>
      have HFL : Hid (cruiseF z e.now = flowF z e) := Lib.hid (if_pos (by have := HWB.out; rwa [Bool.and_eq_true, decide_eq_true_eq, decide_eq_true_eq] at this)).symm
      have c0 := blk_cell S14.out 0
      have c1 := blk_cell S14.out 1
      have c2 := blk_cell S14.out 2
      have c3 := blk_cell S14.out 3
      have c4 := blk_cell S14.out 4
      have c5 := blk_cell S14.out 5
      have c6 := blk_cell S14.out 6
      have c7 := blk_cell S14.out 7
      have c8 := blk_cell S14.out 8
      have c9 := blk_cell S14.out 9
      have c10 := blk_cell S14.out 10
      have c11 := blk_cell S14.out 11
      have e0 := blk_cell E14.out 0
      go_wp2_with fail
      refine (rprobes_any z e.now _).mono ?_
      rintro r V15 ⟨rfl, b⟩
      have S15 := Lib.hid ((b.block _ (blk_lt S14.out)).trans S14.out)
      have E15 := Lib.hid ((b.block _ (blk_lt E14.out)).trans E14.out)
      have R15 := Lib.hid ((b.block _ (blk_lt R14.out)).trans R14.out)
      have O15 := Lib.hid (O14.out.below b)
      have G15 := Lib.hid (gr_trans G14.out (gr_below b (some w.heap.size)))
      clear b S14 E14 R14 O14 G14 e0 c0 c1 c2 c3 c4 c5 c6 c7 c8 c9 c10 c11
      have c0 := blk_cell S15.out 0
      have f0 := blk_free S15.out 0
      have c1 := blk_cell S15.out 1
      have f1 := blk_free S15.out 1
      have c2 := blk_cell S15.out 2
      have f2 := blk_free S15.out 2
      have c3 := blk_cell S15.out 3
      have f3 := blk_free S15.out 3
      have c4 := blk_cell S15.out 4
      have f4 := blk_free S15.out 4
      have c5 := blk_cell S15.out 5
      have f5 := blk_free S15.out 5
      have c6 := blk_cell S15.out 6
      have f6 := blk_free S15.out 6
      have c7 := blk_cell S15.out 7
      have f7 := blk_free S15.out 7
      have c8 := blk_cell S15.out 8
      have f8 := blk_free S15.out 8
      have c9 := blk_cell S15.out 9
      have f9 := blk_free S15.out 9
      have c10 := blk_cell S15.out 10
      have f10 := blk_free S15.out 10
      have c11 := blk_cell S15.out 11
      have f11 := blk_free S15.out 11
      go_wp2_with fail
      go_meet
      obtain ⟨RW, GW⟩ := set12 V15 w.heap.size _ _ _ _ _ _ _ _ _ _ _ _ _ (.int .i64 2) (.slice z.ra z.rl.length z.rc) (.bool z.hasRtt) (.int .i64 z.rtt) (.int .i64 z.rttAt) (.bool z.full) (.int .i64 z.fullRate) (.int .i64 z.fullRounds) (.int .i64 0) (.int .i64 e.now) (.int .i64 z.til) (.int .i64 z.round) S15.out
      exact ⟨cruiseF z e.now, HFL.out, RW, stay E15.out R15.out O15.out G15.out GW⟩
  case rest =>
  obtain ⟨x, hx, hS, hE, hR, hO, hG⟩ := hcut
  have hxH := Lib.hid hx
  have S16 := Lib.hid hS
  have E16 := Lib.hid hE
  have R16 := Lib.hid hR
  have O16 := Lib.hid hO
  have G16 := Lib.hid hG
  clear hx hS hE hR hO hG S14 E14 R14 O14 G14 HWB
  obtain ⟨V16, hVV⟩ : ∃ V, V = wc := ⟨_, rfl⟩
  subst hVV
  have XV : Hid (SV x) := Lib.hid (by rw [hxH.out]; unfold flowF; split; exact cruiseF_sv ZV.out HNW.out; exact ZV.out)
  refine ‹∀ (a : Act) (w : World), Code.wp _ _ _ a w → _› _ _ ?_
  exact rack_tailF s e x stb w V16 _ _ _ _ _ _ _ _ _ _ _ _ _ _ _ _ _ _ _ _ _ _ _ _ _ _ _ _ _ _ _ _ _ _ _ _ _ _ _ _ _ _ _ _ _ _ _ _ _ _ _ _ _ _ _ _ _ _ _ _ _ _ _ _ _ _ _ _ _ _ _ _ _ _ _ _ _ _ _ _ _ _ _ _ _ _ _ _ _ _ _ _ _ _ _ _ _ _ _ _ _ _ _ _ _ _ _ _ _ _ _ _ _ _ _ _ _ _ _ _ _ _ _ _ _ _ _ _ _ _ _ _ _ _ _ _ _ _ _ _ _ _ _ _ _ _ _ _ _ _ _ _ _ _ _ _ _ _ _ _ _ _ _ _ _ _ _ _ _ _ _ _ _ _ _ _ _ _ _ XV.out HNW.out (by rw [hxH.out]; exact HFIN.out) S16.out E16.out R16.out O16.out G16.out

end Go.Proofs.Ytokoogohdfepiaa
