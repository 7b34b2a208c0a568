/- Bbr: the document's Ack of a state that may be and an event that may follow. -/
import Derived.Test.YtokoogohdfepiaaBbW2
import Derived.Test.YtokoogohdfepiaaBbO
import Derived.Test.YtokoogohdfepiaaBbL
import Derived.BigRegion
import Derived.Deep.CutBlock
namespace Go.Proofs.Ytokoogohdfepiaa
open Go.RowKit

theorem rmay_b (b : Bool) (s : Bs) (m : Int) (e : Be) (w : World) (hv : SV s) (h : Sts 2 PC Tr w s.ra s.rl) (hb : b = true ↔ ((1 ≤ m ∧ m ≤ 65535) ∧ EvV s e)) :
    Calls Try.prog 33 #[.agg #[.int .i64 s.phase, .slice s.ra s.rl.length s.rc, .bool s.hasRtt, .int .i64 s.rtt, .int .i64 s.rttAt, .bool s.full, .int .i64 s.fullRate, .int .i64 s.fullRounds, .int .i64 s.cycle, .int .i64 s.cycleAt, .int .i64 s.til, .int .i64 s.round], .int .i64 m, .agg #[.int .i64 e.now, .int .i64 e.round, .int .i64 e.rate, .int .i64 e.rtt, .int .i64 e.flight, .bool e.hasRate, .bool e.hasRtt]] w fun e1 w' => e1 = .returned (.bool b) ∧ Below w.heap.size w w' := by
  have hl := hv.rates.1
  have no : ∀ P : Prop, ¬ P → (b = true → P) → b = false := fun P h1 h2 => by cases b; rfl; exact absurd (h2 rfl) h1
  by_cases m1 : 1 ≤ m
  case neg => rw [no _ m1 (fun e => (hb.1 e).1.1)]; exact rmay_lo s m e w h m1
  by_cases m2 : m ≤ 65535
  case neg => rw [no _ m2 (fun e => (hb.1 e).1.2)]; exact rmay_hi s m e w h m1 m2
  by_cases h0 : 0 ≤ e.now ∧ e.now ≤ 1099511627776
  case neg => rw [no _ h0 (fun e => (hb.1 e).2.now)]; exact rmay_now s m e w h m1 m2 (wB_no h0)
  by_cases h1 : 0 ≤ e.round ∧ e.round ≤ 1099511627776
  case neg => rw [no _ h1 (fun e => (hb.1 e).2.round)]; exact rmay_round s m e w h m1 m2 (wB_yes h0) (wB_no h1)
  by_cases h2 : 0 ≤ e.rate ∧ e.rate ≤ 1073741824
  case neg => rw [no _ h2 (fun e => (hb.1 e).2.rate)]; exact rmay_rate s m e w h m1 m2 (wB_yes h0) (wB_yes h1) (wB_no h2)
  by_cases h3 : 0 ≤ e.rtt ∧ e.rtt ≤ 1073741824
  case neg => rw [no _ h3 (fun e => (hb.1 e).2.rtt)]; exact rmay_rtt s m e w h m1 m2 (wB_yes h0) (wB_yes h1) (wB_yes h2) (wB_no h3)
  by_cases h4 : 0 ≤ e.flight ∧ e.flight ≤ 1073741824
  case neg => rw [no _ h4 (fun e => (hb.1 e).2.flight)]; exact rmay_flight s m e w h m1 m2 (wB_yes h0) (wB_yes h1) (wB_yes h2) (wB_yes h3) (wB_no h4)
  by_cases h5 : s.round ≤ e.round
  case neg => rw [no _ h5 (fun e => (hb.1 e).2.up)]; exact rmay_up s m e w h m1 m2 (wB_yes h0) (wB_yes h1) (wB_yes h2) (wB_yes h3) (wB_yes h4) h5
  by_cases h6 : s.rl.length = 0
  case pos =>
    have hlast : lastR s.rl ≤ e.round := by rw [List.eq_nil_of_length_eq_zero h6]; exact h1.1
    rw [hb.2 ⟨⟨m1, m2⟩, h0, h1, h2, h3, h4, h5, hlast⟩]
    exact rmay_nil s m e w h m1 m2 (wB_yes h0) (wB_yes h1) (wB_yes h2) (wB_yes h3) (wB_yes h4) h5 h6
  obtain ⟨k, hk⟩ : ∃ k, s.rl.length = k + 1 := ⟨s.rl.length - 1, by omega⟩
  obtain ⟨p, hp⟩ : ∃ p, s.rl[k]? = some p := ⟨_, List.getElem?_eq_getElem (by omega)⟩
  by_cases h7 : p.round ≤ e.round
  case pos =>
    rw [hb.2 ⟨⟨m1, m2⟩, h0, h1, h2, h3, h4, h5, by rw [lastR_at hk hp]; exact h7⟩]
    exact rmay_last s m e w hl h m1 m2 (wB_yes h0) (wB_yes h1) (wB_yes h2) (wB_yes h3) (wB_yes h4) h5 k p hk hp h7
  case neg =>
    rw [no _ h7 (fun e => by have := (hb.1 e).2.last; rwa [lastR_at hk hp] at this)]
    exact rmay_low s m e w hl h m1 m2 (wB_yes h0) (wB_yes h1) (wB_yes h2) (wB_yes h3) (wB_yes h4) h5 k p hk hp h7
theorem stay {w V X : World} {oe orr : Obj} {ty : TypeId} {a : Option Addr} {l : List Pair23} {c : Nat} (E : V.heap[w.heap.size + 1]? = some oe) (R : V.heap[w.heap.size + 1 + 1]? = some orr) (O : OwnR ty 2 PC (w.heap.size + 3) a l c V) (G : w.grownBy V (some w.heap.size)) (h : V.grownBy X (some w.heap.size)) :
    X.heap[w.heap.size + 1]? = some oe ∧ X.heap[w.heap.size + 1 + 1]? = some orr ∧ OwnR ty 2 PC (w.heap.size + 3) a l c X ∧ w.grownBy X (some w.heap.size) :=
  ⟨gr_blk E h (by omega), gr_blk R h (by omega), O.grownN h (by omega), gr_trans G h⟩
def tailN : Nat → Code → Code
  | 0, c => c
  | n + 1, .seq _ b => tailN n b
  | _ + 1, c => c

set_option maxRecDepth 100000 in
set_option maxHeartbeats 6000000 in
theorem rack_tailG (s : Bs) (e : Be) (k : Bs) (stb : Bool) (w V19 : World) (v0 v1 v2 v4 v7 v8 v9 v11 v12 v13 v14 v15 v16 v17 v18 v19 v20 v21 v22 v23 v24 v25 v26 v27 v28 v29 v30 v31 v32 v33 v34 v35 v36 v37 v38 v39 v40 v41 v42 v43 v44 v45 v46 v47 v48 v49 v50 v51 v52 v53 v54 v55 v56 v57 v58 v59 v60 v61 v62 v63 v64 v65 v66 v67 v68 v69 v70 v71 v72 v73 v74 v75 v76 v77 v78 v79 v80 v81 v82 v83 v84 v85 v86 v87 v88 v89 v90 v91 v92 v93 v94 v95 v96 v97 v98 v99 v100 v101 v102 v103 v104 v105 v106 v107 v108 v109 v110 v111 v112 v113 v114 v115 v116 v117 v118 v119 v120 v121 v122 v123 v124 v125 v126 v127 v128 v129 v130 v131 v132 v133 v134 v135 v136 v137 v138 v139 v140 v141 v142 v143 v144 v145 v146 v147 v148 v149 v150 v151 v152 v153 v154 v155 v156 v157 v158 v159 v160 v161 v162 v163 v164 v165 v166 v167 v168 v169 v170 v171 v172 v173 v174 v175 v176 v177 v178 v179 v180 v181 v182 : Value) (hY : SV k) (hnw : 0 ≤ e.now ∧ e.now ≤ 1099511627776) (hfin : ∃ a' c', k = ackF s e a' c') (hS : V19.heap[w.heap.size]? = some (.cells #[.int .i64 k.phase, .slice k.ra k.rl.length k.rc, .bool k.hasRtt, .int .i64 k.rtt, .int .i64 k.rttAt, .bool k.full, .int .i64 k.fullRate, .int .i64 k.fullRounds, .int .i64 k.cycle, .int .i64 k.cycleAt, .int .i64 k.til, .int .i64 k.round] 42 (0, 0))) (hE : V19.heap[w.heap.size + 1]? = some (.cells #[.int .i64 e.now, .int .i64 e.round, .int .i64 e.rate, .int .i64 e.rtt, .int .i64 e.flight, .bool e.hasRate, .bool e.hasRtt] 47 (0, 0))) (hR : V19.heap[w.heap.size + 1 + 1]? = some (.cells #[.int .i64 0, .slice none 0 0, .bool false, .int .i64 0, .int .i64 0, .bool false, .int .i64 0, .int .i64 0, .int .i64 0, .int .i64 0, .int .i64 0, .int .i64 0] 42 (0, 0))) (hO : OwnR 58 2 PC (w.heap.size + 3) k.ra k.rl k.rc V19) (hG : w.grownBy V19 (some w.heap.size)) :
    Code.wp Try.prog (tailN 13 ((Try.f16).body.getD .skip)) (bodyPost Try.prog Try.f16 (fun z w' => (∃ t : Bs, (∃ a' c', t = ackF s e a' c') ∧ z = .returned (.tuple #[.agg #[.int .i64 t.phase, .slice t.ra t.rl.length t.rc, .bool t.hasRtt, .int .i64 t.rtt, .int .i64 t.rttAt, .bool t.full, .int .i64 t.fullRate, .int .i64 t.fullRounds, .int .i64 t.cycle, .int .i64 t.cycleAt, .int .i64 t.til, .int .i64 t.round], .int .i64 0]) ∧ OwnR 58 2 PC w.heap.size t.ra t.rl t.rc w') ∧ Below w.heap.size w w')) { tmps := #[v0, v1, v2, .pointer (some ⟨w.heap.size, 0, none⟩), v4, .pointer (some ⟨w.heap.size + 1, 0, none⟩), .pointer (some ⟨w.heap.size + 1 + 1, 0, none⟩), v7, v8, v9, .bool stb, v11, v12, v13, v14, v15, v16, v17, v18, v19, v20, v21, v22, v23, v24, v25, v26, v27, v28, v29, v30, v31, v32, v33, v34, v35, v36, v37, v38, v39, v40, v41, v42, v43, v44, v45, v46, v47, v48, v49, v50, v51, v52, v53, v54, v55, v56, v57, v58, v59, v60, v61, v62, v63, v64, v65, v66, v67, v68, v69, v70, v71, v72, v73, v74, v75, v76, v77, v78, v79, v80, v81, v82, v83, v84, v85, v86, v87, v88, v89, v90, v91, v92, v93, v94, v95, v96, v97, v98, v99, v100, v101, v102, v103, v104, v105, v106, v107, v108, v109, v110, v111, v112, v113, v114, v115, v116, v117, v118, v119, v120, v121, v122, v123, v124, v125, v126, v127, v128, v129, v130, v131, v132, v133, v134, v135, v136, v137, v138, v139, v140, v141, v142, v143, v144, v145, v146, v147, v148, v149, v150, v151, v152, v153, v154, v155, v156, v157, v158, v159, v160, v161, v162, v163, v164, v165, v166, v167, v168, v169, v170, v171, v172, v173, v174, v175, v176, v177, v178, v179, v180, v181, v182], defers := [] } V19 := by
  have KV := Lib.hid hY
  have HNW := Lib.hid hnw
  have HFIN := Lib.hid hfin
  have S19 := Lib.hid hS
  have E19 := Lib.hid hE
  have R19 := Lib.hid hR
  have O19 := Lib.hid hO
  have G19 := Lib.hid hG
  clear hY hnw hfin hS hE hR hO hG
  dsimp only
  have hc : tailN 13 ((Try.f16).body.getD .skip) = tailN 13 ((Try.f16).body.getD .skip) := rfl
  conv at hc => rhs; simp only [Try.f16, Option.getD_some, tailN]
  rw [hc]
  clear hc
  clear HNW KV
  have c0 := blk_cell S19.out 0
  have c1 := blk_cell S19.out 1
  have c2 := blk_cell S19.out 2
  have c3 := blk_cell S19.out 3
  have c4 := blk_cell S19.out 4
  have c5 := blk_cell S19.out 5
  have c6 := blk_cell S19.out 6
  have c7 := blk_cell S19.out 7
  have c8 := blk_cell S19.out 8
  have c9 := blk_cell S19.out 9
  have c10 := blk_cell S19.out 10
  have c11 := blk_cell S19.out 11
  have r0 := blk_cell R19.out 0
  have q0 := blk_free R19.out 0
  have r1 := blk_cell R19.out 1
  have q1 := blk_free R19.out 1
  have r2 := blk_cell R19.out 2
  have q2 := blk_free R19.out 2
  have r3 := blk_cell R19.out 3
  have q3 := blk_free R19.out 3
  have r4 := blk_cell R19.out 4
  have q4 := blk_free R19.out 4
  have r5 := blk_cell R19.out 5
  have q5 := blk_free R19.out 5
  have r6 := blk_cell R19.out 6
  have q6 := blk_free R19.out 6
  have r7 := blk_cell R19.out 7
  have q7 := blk_free R19.out 7
  have r8 := blk_cell R19.out 8
  have q8 := blk_free R19.out 8
  have r9 := blk_cell R19.out 9
  have q9 := blk_free R19.out 9
  have r10 := blk_cell R19.out 10
  have q10 := blk_free R19.out 10
  have r11 := blk_cell R19.out 11
  have q11 := blk_free R19.out 11
  go_wp2
  obtain ⟨RW, GW⟩ := set12 V19 (w.heap.size + 1 + 1) _ _ _ _ _ _ _ _ _ _ _ _ _ (.int .i64 k.phase) (.slice k.ra k.rl.length k.rc) (.bool k.hasRtt) (.int .i64 k.rtt) (.int .i64 k.rttAt) (.bool k.full) (.int .i64 k.fullRate) (.int .i64 k.fullRounds) (.int .i64 k.cycle) (.int .i64 k.cycleAt) (.int .i64 k.til) (.int .i64 k.round) R19.out
  clear r0 q0 r1 q1 r2 q2 r3 q3 r4 q4 r5 q5 r6 q6 r7 q7 r8 q8 r9 q9 r10 q10 r11 q11
  generalize ((((((((((((V19).setCell ⟨w.heap.size + 1 + 1, 0, none⟩ (.int .i64 k.phase)).setCell ⟨w.heap.size + 1 + 1, 1, none⟩ (.slice k.ra k.rl.length k.rc)).setCell ⟨w.heap.size + 1 + 1, 2, none⟩ (.bool k.hasRtt)).setCell ⟨w.heap.size + 1 + 1, 3, none⟩ (.int .i64 k.rtt)).setCell ⟨w.heap.size + 1 + 1, 4, none⟩ (.int .i64 k.rttAt)).setCell ⟨w.heap.size + 1 + 1, 5, none⟩ (.bool k.full)).setCell ⟨w.heap.size + 1 + 1, 6, none⟩ (.int .i64 k.fullRate)).setCell ⟨w.heap.size + 1 + 1, 7, none⟩ (.int .i64 k.fullRounds)).setCell ⟨w.heap.size + 1 + 1, 8, none⟩ (.int .i64 k.cycle)).setCell ⟨w.heap.size + 1 + 1, 9, none⟩ (.int .i64 k.cycleAt)).setCell ⟨w.heap.size + 1 + 1, 10, none⟩ (.int .i64 k.til)).setCell ⟨w.heap.size + 1 + 1, 11, none⟩ (.int .i64 k.round) = W at RW GW ⊢
  have r0 := blk_cell RW 0
  have r1 := blk_cell RW 1
  have r2 := blk_cell RW 2
  have r3 := blk_cell RW 3
  have r4 := blk_cell RW 4
  have r5 := blk_cell RW 5
  have r6 := blk_cell RW 6
  have r7 := blk_cell RW 7
  have r8 := blk_cell RW 8
  have r9 := blk_cell RW 9
  have r10 := blk_cell RW 10
  have r11 := blk_cell RW 11
  refine bodyPost_ret (v := .tuple #[.agg #[.int .i64 k.phase, .slice k.ra k.rl.length k.rc, .bool k.hasRtt, .int .i64 k.rtt, .int .i64 k.rttAt, .bool k.full, .int .i64 k.fullRate, .int .i64 k.fullRounds, .int .i64 k.cycle, .int .i64 k.cycleAt, .int .i64 k.til, .int .i64 k.round], .int .i64 0]) (by simp [results, Try.results16, go_sem, *]) rfl ?_
  exact ⟨⟨k, HFIN.out, rfl, (O19.out.grown GW (fun g' e1 e2 => by have h2 := (O19.out.atB g' 0 e1).1; have h3 := Option.some.inj e2; omega)).mono (by omega)⟩, below_gr3 (below_of_gr G19.out) (by omega) GW⟩

end Go.Proofs.Ytokoogohdfepiaa
