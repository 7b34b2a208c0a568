/- Bbr: the document's small functions of a state: greatest, way, probes, full, Check, may. -/
import Derived.Test.YtokoogohdfepiaaBbZj
import Derived.Test.YtokoogohdfepiaaBbN
namespace Go.Proofs.Ytokoogohdfepiaa
open Go.RowKit

def fullF (s : Bs) : Bs := if 5 * s.fullRate ≤ 4 * gE s.rl then { s with fullRate := gE s.rl, fullRounds := 0 } else { s with fullRounds := min (s.fullRounds + 1) 1099511627776, full := decide (3 ≤ min (s.fullRounds + 1) 1099511627776) }
set_option maxRecDepth 100000 in
set_option maxHeartbeats 800000 in
theorem rgreatest_any (s : Bs)  (w : World) (hl : s.rl.length ≤ 10) (h : Sts 2 PC Tr w s.ra s.rl) :
    Calls Try.prog 43 #[.agg #[.int .i64 s.phase, .slice s.ra s.rl.length s.rc, .bool s.hasRtt, .int .i64 s.rtt, .int .i64 s.rttAt, .bool s.full, .int .i64 s.fullRate, .int .i64 s.fullRounds, .int .i64 s.cycle, .int .i64 s.cycleAt, .int .i64 s.til, .int .i64 s.round]] w fun e1 w' => e1 = .returned (.int .i64 (gE s.rl)) ∧ Below w.heap.size w w' := by
  have ba := (Below.refl w.heap.size w).alloc (Nat.le_refl _) (.cells #[.int .i64 s.phase, .slice s.ra s.rl.length s.rc, .bool s.hasRtt, .int .i64 s.rtt, .int .i64 s.rttAt, .bool s.full, .int .i64 s.fullRate, .int .i64 s.fullRounds, .int .i64 s.cycle, .int .i64 s.cycleAt, .int .i64 s.til, .int .i64 s.round] 42)
  have S1 := Lib.hid (blk_new w (.cells #[.int .i64 s.phase, .slice s.ra s.rl.length s.rc, .bool s.hasRtt, .int .i64 s.rtt, .int .i64 s.rttAt, .bool s.full, .int .i64 s.fullRate, .int .i64 s.fullRounds, .int .i64 s.cycle, .int .i64 s.cycleAt, .int .i64 s.til, .int .i64 s.round] 42))
  have L1 := Lib.hid (h.belowT ba)
  have Q1 := Lib.hid ba
  clear h ba
  rcases Nat.eq_zero_or_pos s.rl.length with h0 | h0
  · have hn : gE s.rl = 0 := by rw [List.eq_nil_of_length_eq_zero h0]; rfl
    have k0 : (s.rl.length : Int) = 0 := by omega
    have k0b : ((s.rl.length : Int) == 0) = true := by rw [beq_iff_eq]; exact k0
    rw [hn]
    clear hn h0
    go_enter Try.func43, Try.ntmps43
    go_upto_region 1 with fail
    generalize w.alloc (.cells #[.int .i64 s.phase, .slice s.ra s.rl.length s.rc, .bool s.hasRtt, .int .i64 s.rtt, .int .i64 s.rttAt, .bool s.full, .int .i64 s.fullRate, .int .i64 s.fullRounds, .int .i64 s.cycle, .int .i64 s.cycleAt, .int .i64 s.til, .int .i64 s.round] 42) = V1 at S1 L1 Q1 ⊢
    have c1 := blk_cell S1.out 1
    go_wp2
    go_ret
    exact ⟨rfl, Q1.out⟩
  · obtain ⟨p, hp⟩ : ∃ p, s.rl[0]? = some p := ⟨_, List.getElem?_eq_getElem h0⟩
    have hg := Lib.hid (gE_at hp)
    have HP := Lib.hid hp
    have k0 : ¬ ((s.rl.length : Int) = 0) := by omega
    have k0b : ((s.rl.length : Int) == 0) = false := by rw [beq_eq_false_iff_ne]; exact k0
    have k1 : (0 : Int) < (s.rl.length : Int) := by omega
    rw [hg.out]
    clear hp
    go_enter Try.func43, Try.ntmps43
    go_upto_region 1 with fail
    generalize w.alloc (.cells #[.int .i64 s.phase, .slice s.ra s.rl.length s.rc, .bool s.hasRtt, .int .i64 s.rtt, .int .i64 s.rttAt, .bool s.full, .int .i64 s.fullRate, .int .i64 s.fullRounds, .int .i64 s.cycle, .int .i64 s.cycleAt, .int .i64 s.til, .int .i64 s.round] 42) = V1 at S1 L1 Q1 ⊢
    have c1 := blk_cell S1.out 1
    obtain ⟨b, o, hra, _, _⟩ := L1.out.isSomeT h0
    have L2 := L1.out
    rw [hra] at L2 c1
    obtain ⟨_, z0, z1⟩ := pair_at L2 HP.out
    simp only [Nat.zero_mul, Nat.add_zero] at z0 z1
    clear L2 hra
    go_wp2
    go_ret
    exact ⟨rfl, Q1.out⟩

set_option maxRecDepth 100000 in
set_option maxHeartbeats 800000 in
theorem rway_any (s : Bs)  (w : World) (hv : SV s) (h : Sts 2 PC Tr w s.ra s.rl) :
    Calls Try.prog 35 #[.agg #[.int .i64 s.phase, .slice s.ra s.rl.length s.rc, .bool s.hasRtt, .int .i64 s.rtt, .int .i64 s.rttAt, .bool s.full, .int .i64 s.fullRate, .int .i64 s.fullRounds, .int .i64 s.cycle, .int .i64 s.cycleAt, .int .i64 s.til, .int .i64 s.round]] w fun e1 w' => e1 = .returned (.int .i64 (gE s.rl * s.rtt / 1024)) ∧ Below w.heap.size w w' := by
  obtain ⟨r0, r1⟩ := hv.rtt
  obtain ⟨g0, g1⟩ := hv.rates.gE
  have hl := hv.rates.1
  have ba := (Below.refl w.heap.size w).alloc (Nat.le_refl _) (.cells #[.int .i64 s.phase, .slice s.ra s.rl.length s.rc, .bool s.hasRtt, .int .i64 s.rtt, .int .i64 s.rttAt, .bool s.full, .int .i64 s.fullRate, .int .i64 s.fullRounds, .int .i64 s.cycle, .int .i64 s.cycleAt, .int .i64 s.til, .int .i64 s.round] 42)
  have S1 := Lib.hid (blk_new w (.cells #[.int .i64 s.phase, .slice s.ra s.rl.length s.rc, .bool s.hasRtt, .int .i64 s.rtt, .int .i64 s.rttAt, .bool s.full, .int .i64 s.fullRate, .int .i64 s.fullRounds, .int .i64 s.cycle, .int .i64 s.cycleAt, .int .i64 s.til, .int .i64 s.round] 42))
  have L1 := Lib.hid (h.belowT ba)
  have Q1 := Lib.hid ba
  clear h ba
  have HG := Lib.hid (fun (W : World) (h : Sts 2 PC Tr W s.ra s.rl) => rgreatest_any s W hl h)
  obtain ⟨q, hq⟩ : ∃ q, gE s.rl = q := ⟨_, rfl⟩
  rw [hq] at g0 g1 HG ⊢
  have hm0 : 0 ≤ q * s.rtt := Int.mul_nonneg g0 r0
  have hm1 : q * s.rtt ≤ 1073741824 * 1073741824 := Int.mul_le_mul g1 r1 r0 (by decide)
  have w1 : IntKind.i64.wrap (q * s.rtt) = q * s.rtt := IntWalk.i64_in _ ⟨by omega, by omega⟩
  have w2 : (q * s.rtt).tdiv 1024 = q * s.rtt / 1024 := Int.tdiv_eq_ediv_of_nonneg hm0
  have w3 : IntKind.i64.wrap (q * s.rtt / 1024) = q * s.rtt / 1024 := IntWalk.i64_in _ ⟨by omega, by omega⟩
  clear hv hq
  go_enter Try.func35, Try.ntmps35
  go_upto_region 1 with fail
  generalize w.alloc (.cells #[.int .i64 s.phase, .slice s.ra s.rl.length s.rc, .bool s.hasRtt, .int .i64 s.rtt, .int .i64 s.rttAt, .bool s.full, .int .i64 s.fullRate, .int .i64 s.fullRounds, .int .i64 s.cycle, .int .i64 s.cycleAt, .int .i64 s.til, .int .i64 s.round] 42) = V1 at S1 L1 Q1 ⊢
  have c0 := blk_cell (blk_drew S1.out) 0
  have c1 := blk_cell (blk_drew S1.out) 1
  have c2 := blk_cell (blk_drew S1.out) 2
  have c3 := blk_cell (blk_drew S1.out) 3
  have c4 := blk_cell (blk_drew S1.out) 4
  have c5 := blk_cell (blk_drew S1.out) 5
  have c6 := blk_cell (blk_drew S1.out) 6
  have c7 := blk_cell (blk_drew S1.out) 7
  have c8 := blk_cell (blk_drew S1.out) 8
  have c9 := blk_cell (blk_drew S1.out) 9
  have c10 := blk_cell (blk_drew S1.out) 10
  have c11 := blk_cell (blk_drew S1.out) 11
  have LD := Lib.hid (show Sts 2 PC Tr V1.drew s.ra s.rl from L1.out)
  have SS0 := Lib.hid (And.intro c0 (And.intro c1 (And.intro c2 (And.intro c3 (And.intro c4 (And.intro c5 (And.intro c6 (And.intro c7 (And.intro c8 (And.intro c9 (And.intro c10 c11)))))))))))
  go_region_held3 (fun W => W.cell? ⟨w.heap.size, 0, none⟩ = some (.int .i64 s.phase) ∧ W.cell? ⟨w.heap.size, 1, none⟩ = some (.slice s.ra s.rl.length s.rc) ∧ W.cell? ⟨w.heap.size, 2, none⟩ = some (.bool s.hasRtt) ∧ W.cell? ⟨w.heap.size, 3, none⟩ = some (.int .i64 s.rtt) ∧ W.cell? ⟨w.heap.size, 4, none⟩ = some (.int .i64 s.rttAt) ∧ W.cell? ⟨w.heap.size, 5, none⟩ = some (.bool s.full) ∧ W.cell? ⟨w.heap.size, 6, none⟩ = some (.int .i64 s.fullRate) ∧ W.cell? ⟨w.heap.size, 7, none⟩ = some (.int .i64 s.fullRounds) ∧ W.cell? ⟨w.heap.size, 8, none⟩ = some (.int .i64 s.cycle) ∧ W.cell? ⟨w.heap.size, 9, none⟩ = some (.int .i64 s.cycleAt) ∧ W.cell? ⟨w.heap.size, 10, none⟩ = some (.int .i64 s.til) ∧ W.cell? ⟨w.heap.size, 11, none⟩ = some (.int .i64 s.round)) (first | (with_reducible exact SS0.out) | (with_reducible exact SS1.out) | go_keep) (first
    | (go_at_call 43; (with_reducible refine (HG.out _ LD.out).mono ?_); rintro z V2 ⟨rfl, b⟩; have S2 := Lib.hid ((b.block _ (blk_lt (blk_drew S1.out))).trans (blk_drew S1.out)); have Q2 := Lib.hid (Q1.out.drew.trans (b.mono Q1.out.drew.size)); clear b; have d0 := blk_cell S2.out 0; have d1 := blk_cell S2.out 1; have d2 := blk_cell S2.out 2; have d3 := blk_cell S2.out 3; have d4 := blk_cell S2.out 4; have d5 := blk_cell S2.out 5; have d6 := blk_cell S2.out 6; have d7 := blk_cell S2.out 7; have d8 := blk_cell S2.out 8; have d9 := blk_cell S2.out 9; have d10 := blk_cell S2.out 10; have d11 := blk_cell S2.out 11; have SS1 := Lib.hid (And.intro d0 (And.intro d1 (And.intro d2 (And.intro d3 (And.intro d4 (And.intro d5 (And.intro d6 (And.intro d7 (And.intro d8 (And.intro d9 (And.intro d10 d11)))))))))))))
  all_goals
    go_wp2
    go_ret
    exact ⟨rfl, Q2.out⟩

set_option maxRecDepth 100000 in
set_option maxHeartbeats 800000 in
theorem rprobes_any (s : Bs) (n : Int) (w : World)  :
    Calls Try.prog 36 #[.agg #[.int .i64 s.phase, .slice s.ra s.rl.length s.rc, .bool s.hasRtt, .int .i64 s.rtt, .int .i64 s.rttAt, .bool s.full, .int .i64 s.fullRate, .int .i64 s.fullRounds, .int .i64 s.cycle, .int .i64 s.cycleAt, .int .i64 s.til, .int .i64 s.round], .int .i64 n] w fun e1 w' => e1 = .returned (.agg #[.int .i64 2, .slice s.ra s.rl.length s.rc, .bool s.hasRtt, .int .i64 s.rtt, .int .i64 s.rttAt, .bool s.full, .int .i64 s.fullRate, .int .i64 s.fullRounds, .int .i64 0, .int .i64 n, .int .i64 s.til, .int .i64 s.round]) ∧ Below w.heap.size w w' := by
  go_enter Try.func36, Try.ntmps36
  go_wp2
  refine bodyPost_ret (v := .agg #[.int .i64 2, .slice s.ra s.rl.length s.rc, .bool s.hasRtt, .int .i64 s.rtt, .int .i64 s.rttAt, .bool s.full, .int .i64 s.fullRate, .int .i64 s.fullRounds, .int .i64 0, .int .i64 n, .int .i64 s.til, .int .i64 s.round]) (by simp [results, Try.results36, go_sem, *]) rfl ⟨rfl, ?_⟩
  exact ((Below.refl w.heap.size w).alloc (Nat.le_refl _) _).alloc ((Below.refl w.heap.size w).alloc (Nat.le_refl _) _).size _

set_option maxRecDepth 100000 in
set_option maxHeartbeats 800000 in
theorem rfull_any (s : Bs)  (w : World) (hv : SV s) (h : Sts 2 PC Tr w s.ra s.rl) :
    Calls Try.prog 34 #[.agg #[.int .i64 s.phase, .slice s.ra s.rl.length s.rc, .bool s.hasRtt, .int .i64 s.rtt, .int .i64 s.rttAt, .bool s.full, .int .i64 s.fullRate, .int .i64 s.fullRounds, .int .i64 s.cycle, .int .i64 s.cycleAt, .int .i64 s.til, .int .i64 s.round]] w fun e1 w' => (∃ t : Bs, t = fullF s ∧ e1 = .returned (.agg #[.int .i64 t.phase, .slice t.ra t.rl.length t.rc, .bool t.hasRtt, .int .i64 t.rtt, .int .i64 t.rttAt, .bool t.full, .int .i64 t.fullRate, .int .i64 t.fullRounds, .int .i64 t.cycle, .int .i64 t.cycleAt, .int .i64 t.til, .int .i64 t.round])) ∧ Below w.heap.size w w' := by
  obtain ⟨g0, g1⟩ := hv.rates.gE
  have hl := hv.rates.1
  obtain ⟨r0, r1⟩ := hv.fullRate
  obtain ⟨n0, n1⟩ := hv.fullRounds
  have HL := Lib.hid h
  have ba := (Below.refl w.heap.size w).alloc (Nat.le_refl _) (.cells #[.int .i64 s.phase, .slice s.ra s.rl.length s.rc, .bool s.hasRtt, .int .i64 s.rtt, .int .i64 s.rttAt, .bool s.full, .int .i64 s.fullRate, .int .i64 s.fullRounds, .int .i64 s.cycle, .int .i64 s.cycleAt, .int .i64 s.til, .int .i64 s.round] 42)
  have S1 := Lib.hid (blk_new w (.cells #[.int .i64 s.phase, .slice s.ra s.rl.length s.rc, .bool s.hasRtt, .int .i64 s.rtt, .int .i64 s.rttAt, .bool s.full, .int .i64 s.fullRate, .int .i64 s.fullRounds, .int .i64 s.cycle, .int .i64 s.cycleAt, .int .i64 s.til, .int .i64 s.round] 42))
  have L1 := Lib.hid (h.belowT ba)
  have Q1 := Lib.hid ba
  clear h ba
  obtain ⟨q, hq⟩ : ∃ q, gE s.rl = q := ⟨_, rfl⟩
  have HG := Lib.hid (fun (W : World) (h : Sts 2 PC Tr W s.ra s.rl) => rgreatest_any s W hl h)
  have HF : Hid (fullF s = if 5 * s.fullRate ≤ 4 * q then { s with fullRate := q, fullRounds := 0 } else { s with fullRounds := min (s.fullRounds + 1) 1099511627776, full := decide (3 ≤ min (s.fullRounds + 1) 1099511627776) }) := Lib.hid (by unfold fullF; rw [hq])
  rw [hq] at g0 g1 HG
  have w1 : wrap64 (4 * q) = 4 * q := IntWalk.wrap64_in _ ⟨by omega, by omega⟩
  have w2 : wrap64 (5 * s.fullRate) = 5 * s.fullRate := IntWalk.wrap64_in _ ⟨by omega, by omega⟩
  have w3 : wrap64 (s.fullRounds + 1) = s.fullRounds + 1 := IntWalk.wrap64_in _ ⟨by omega, by omega⟩
  clear hv hq
  go_enter Try.func34, Try.ntmps34
  go_upto_region 1 with fail
  have bz := (Below.refl w.heap.size w).alloc (Nat.le_refl _) (.cells #[.int .i64 s.phase, .slice s.ra s.rl.length s.rc, .bool s.hasRtt, .int .i64 s.rtt, .int .i64 s.rttAt, .bool s.full, .int .i64 s.fullRate, .int .i64 s.fullRounds, .int .i64 s.cycle, .int .i64 s.cycleAt, .int .i64 s.til, .int .i64 s.round] 42)
  clear S1 L1 Q1
  have b2 := bz.alloc bz.size (.cells #[.int .i64 0, .slice none 0 0, .bool false, .int .i64 0, .int .i64 0, .bool false, .int .i64 0, .int .i64 0, .int .i64 0, .int .i64 0, .int .i64 0, .int .i64 0] 42)
  have Q1 := Lib.hid b2
  have S1 := Lib.hid ((((Below.refl _ _).alloc (Nat.le_refl _) (.cells #[.int .i64 0, .slice none 0 0, .bool false, .int .i64 0, .int .i64 0, .bool false, .int .i64 0, .int .i64 0, .int .i64 0, .int .i64 0, .int .i64 0, .int .i64 0] 42)).block w.heap.size (by simp)).trans (blk_new w (.cells #[.int .i64 s.phase, .slice s.ra s.rl.length s.rc, .bool s.hasRtt, .int .i64 s.rtt, .int .i64 s.rttAt, .bool s.full, .int .i64 s.fullRate, .int .i64 s.fullRounds, .int .i64 s.cycle, .int .i64 s.cycleAt, .int .i64 s.til, .int .i64 s.round] 42)))
  have R1 := Lib.hid (show ((w.alloc (.cells #[.int .i64 s.phase, .slice s.ra s.rl.length s.rc, .bool s.hasRtt, .int .i64 s.rtt, .int .i64 s.rttAt, .bool s.full, .int .i64 s.fullRate, .int .i64 s.fullRounds, .int .i64 s.cycle, .int .i64 s.cycleAt, .int .i64 s.til, .int .i64 s.round] 42)).alloc (.cells #[.int .i64 0, .slice none 0 0, .bool false, .int .i64 0, .int .i64 0, .bool false, .int .i64 0, .int .i64 0, .int .i64 0, .int .i64 0, .int .i64 0, .int .i64 0] 42)).heap[w.heap.size + 1]? = some (.cells #[.int .i64 0, .slice none 0 0, .bool false, .int .i64 0, .int .i64 0, .bool false, .int .i64 0, .int .i64 0, .int .i64 0, .int .i64 0, .int .i64 0, .int .i64 0] 42 (0, 0)) by have := blk_new (w.alloc (.cells #[.int .i64 s.phase, .slice s.ra s.rl.length s.rc, .bool s.hasRtt, .int .i64 s.rtt, .int .i64 s.rttAt, .bool s.full, .int .i64 s.fullRate, .int .i64 s.fullRounds, .int .i64 s.cycle, .int .i64 s.cycleAt, .int .i64 s.til, .int .i64 s.round] 42)) (.cells #[.int .i64 0, .slice none 0 0, .bool false, .int .i64 0, .int .i64 0, .bool false, .int .i64 0, .int .i64 0, .int .i64 0, .int .i64 0, .int .i64 0, .int .i64 0] 42); rwa [show (w.alloc (.cells #[.int .i64 s.phase, .slice s.ra s.rl.length s.rc, .bool s.hasRtt, .int .i64 s.rtt, .int .i64 s.rttAt, .bool s.full, .int .i64 s.fullRate, .int .i64 s.fullRounds, .int .i64 s.cycle, .int .i64 s.cycleAt, .int .i64 s.til, .int .i64 s.round] 42)).heap.size = w.heap.size + 1 by simp] at this)
  have L1 := Lib.hid (HL.out.belowT b2)
  clear bz b2
  generalize (w.alloc (.cells #[.int .i64 s.phase, .slice s.ra s.rl.length s.rc, .bool s.hasRtt, .int .i64 s.rtt, .int .i64 s.rttAt, .bool s.full, .int .i64 s.fullRate, .int .i64 s.fullRounds, .int .i64 s.cycle, .int .i64 s.cycleAt, .int .i64 s.til, .int .i64 s.round] 42)).alloc (.cells #[.int .i64 0, .slice none 0 0, .bool false, .int .i64 0, .int .i64 0, .bool false, .int .i64 0, .int .i64 0, .int .i64 0, .int .i64 0, .int .i64 0, .int .i64 0] 42) = V1 at S1 R1 L1 Q1 ⊢
  have c0 := blk_cell S1.out 0
  have c1 := blk_cell S1.out 1
  have c2 := blk_cell S1.out 2
  have c3 := blk_cell S1.out 3
  have c4 := blk_cell S1.out 4
  have c5 := blk_cell S1.out 5
  have c6 := blk_cell S1.out 6
  have c7 := blk_cell S1.out 7
  have c8 := blk_cell S1.out 8
  have c9 := blk_cell S1.out 9
  have c10 := blk_cell S1.out 10
  have c11 := blk_cell S1.out 11
  go_wp2_with fail
  refine (HG.out _ L1.out).mono ?_
  rintro z V2 ⟨rfl, b⟩
  have S2 := Lib.hid ((b.block _ (blk_lt S1.out)).trans S1.out)
  have R2 := Lib.hid ((b.block _ (blk_lt R1.out)).trans R1.out)
  have Q2 := Lib.hid (Q1.out.trans (b.mono Q1.out.size))
  clear b S1 R1 L1 Q1 c0 c1 c2 c3 c4 c5 c6 c7 c8 c9 c10 c11
  have c0 := blk_cell S2.out 0
  have f0 := blk_free S2.out 0
  have r0 := blk_cell R2.out 0
  have q0 := blk_free R2.out 0
  have c1 := blk_cell S2.out 1
  have f1 := blk_free S2.out 1
  have r1 := blk_cell R2.out 1
  have q1 := blk_free R2.out 1
  have c2 := blk_cell S2.out 2
  have f2 := blk_free S2.out 2
  have r2 := blk_cell R2.out 2
  have q2 := blk_free R2.out 2
  have c3 := blk_cell S2.out 3
  have f3 := blk_free S2.out 3
  have r3 := blk_cell R2.out 3
  have q3 := blk_free R2.out 3
  have c4 := blk_cell S2.out 4
  have f4 := blk_free S2.out 4
  have r4 := blk_cell R2.out 4
  have q4 := blk_free R2.out 4
  have c5 := blk_cell S2.out 5
  have f5 := blk_free S2.out 5
  have r5 := blk_cell R2.out 5
  have q5 := blk_free R2.out 5
  have c6 := blk_cell S2.out 6
  have f6 := blk_free S2.out 6
  have r6 := blk_cell R2.out 6
  have q6 := blk_free R2.out 6
  have c7 := blk_cell S2.out 7
  have f7 := blk_free S2.out 7
  have r7 := blk_cell R2.out 7
  have q7 := blk_free R2.out 7
  have c8 := blk_cell S2.out 8
  have f8 := blk_free S2.out 8
  have r8 := blk_cell R2.out 8
  have q8 := blk_free R2.out 8
  have c9 := blk_cell S2.out 9
  have f9 := blk_free S2.out 9
  have r9 := blk_cell R2.out 9
  have q9 := blk_free R2.out 9
  have c10 := blk_cell S2.out 10
  have f10 := blk_free S2.out 10
  have r10 := blk_cell R2.out 10
  have q10 := blk_free R2.out 10
  have c11 := blk_cell S2.out 11
  have f11 := blk_free S2.out 11
  have r11 := blk_cell R2.out 11
  have q11 := blk_free R2.out 11
  by_cases hm : 5 * s.fullRate ≤ 4 * q
  case pos =>
    go_wp2
    have hgg : V2.grownBy (((V2).setCell ⟨w.heap.size, 6, none⟩ (.int .i64 q)).setCell ⟨w.heap.size, 7, none⟩ (.int .i64 0)) (some w.heap.size) := gr_trans (gr_set _ w.heap.size 6 _) (gr_set _ w.heap.size 7 _)
    obtain ⟨RW, GW⟩ := set12 (((V2).setCell ⟨w.heap.size, 6, none⟩ (.int .i64 q)).setCell ⟨w.heap.size, 7, none⟩ (.int .i64 0)) (w.heap.size + 1) _ _ _ _ _ _ _ _ _ _ _ _ _ (.int .i64 s.phase) (.slice s.ra s.rl.length s.rc) (.bool s.hasRtt) (.int .i64 s.rtt) (.int .i64 s.rttAt) (.bool s.full) (.int .i64 q) (.int .i64 0) (.int .i64 s.cycle) (.int .i64 s.cycleAt) (.int .i64 s.til) (.int .i64 s.round) ((hgg.block _ (blk_lt R2.out) (fun e => by have := Option.some.inj e; omega)).trans R2.out)
    have QW := below_gr3 (below_gr3 Q2.out (Nat.le_refl _) hgg) (by omega) GW
    clear hgg GW c0 f0 r0 q0 c1 f1 r1 q1 c2 f2 r2 q2 c3 f3 r3 q3 c4 f4 r4 q4 c5 f5 r5 q5 c6 f6 r6 q6 c7 f7 r7 q7 c8 f8 r8 q8 c9 f9 r9 q9 c10 f10 r10 q10 c11 f11 r11 q11
    generalize ((((((((((((((V2).setCell ⟨w.heap.size, 6, none⟩ (.int .i64 q)).setCell ⟨w.heap.size, 7, none⟩ (.int .i64 0)).setCell ⟨w.heap.size + 1, 0, none⟩ (.int .i64 s.phase)).setCell ⟨w.heap.size + 1, 1, none⟩ (.slice s.ra s.rl.length s.rc)).setCell ⟨w.heap.size + 1, 2, none⟩ (.bool s.hasRtt)).setCell ⟨w.heap.size + 1, 3, none⟩ (.int .i64 s.rtt)).setCell ⟨w.heap.size + 1, 4, none⟩ (.int .i64 s.rttAt)).setCell ⟨w.heap.size + 1, 5, none⟩ (.bool s.full)).setCell ⟨w.heap.size + 1, 6, none⟩ (.int .i64 q)).setCell ⟨w.heap.size + 1, 7, none⟩ (.int .i64 0)).setCell ⟨w.heap.size + 1, 8, none⟩ (.int .i64 s.cycle)).setCell ⟨w.heap.size + 1, 9, none⟩ (.int .i64 s.cycleAt)).setCell ⟨w.heap.size + 1, 10, none⟩ (.int .i64 s.til)).setCell ⟨w.heap.size + 1, 11, none⟩ (.int .i64 s.round) = W at RW QW ⊢
    have r0 := blk_cell RW 0
    have r1 := blk_cell RW 1
    have r2 := blk_cell RW 2
    have r3 := blk_cell RW 3
    have r4 := blk_cell RW 4
    have r5 := blk_cell RW 5
    have r6 := blk_cell RW 6
    have r7 := blk_cell RW 7
    have r8 := blk_cell RW 8
    have r9 := blk_cell RW 9
    have r10 := blk_cell RW 10
    have r11 := blk_cell RW 11
    refine bodyPost_ret (v := .agg #[.int .i64 s.phase, .slice s.ra s.rl.length s.rc, .bool s.hasRtt, .int .i64 s.rtt, .int .i64 s.rttAt, .bool s.full, .int .i64 q, .int .i64 0, .int .i64 s.cycle, .int .i64 s.cycleAt, .int .i64 s.til, .int .i64 s.round]) (by simp [results, Try.results34, go_sem, *]) rfl ⟨⟨_, HF.out.symm, ?_⟩, QW⟩
    rw [if_pos hm]
  case neg =>
    go_wp2
    have hgg : V2.grownBy (((V2).setCell ⟨w.heap.size, 7, none⟩ (.int .i64 (min (s.fullRounds + 1) 1099511627776))).setCell ⟨w.heap.size, 5, none⟩ (.bool (decide (3 ≤ min (s.fullRounds + 1) 1099511627776)))) (some w.heap.size) := gr_trans (gr_set _ w.heap.size 7 _) (gr_set _ w.heap.size 5 _)
    obtain ⟨RW, GW⟩ := set12 (((V2).setCell ⟨w.heap.size, 7, none⟩ (.int .i64 (min (s.fullRounds + 1) 1099511627776))).setCell ⟨w.heap.size, 5, none⟩ (.bool (decide (3 ≤ min (s.fullRounds + 1) 1099511627776)))) (w.heap.size + 1) _ _ _ _ _ _ _ _ _ _ _ _ _ (.int .i64 s.phase) (.slice s.ra s.rl.length s.rc) (.bool s.hasRtt) (.int .i64 s.rtt) (.int .i64 s.rttAt) (.bool (decide (3 ≤ min (s.fullRounds + 1) 1099511627776))) (.int .i64 s.fullRate) (.int .i64 (min (s.fullRounds + 1) 1099511627776)) (.int .i64 s.cycle) (.int .i64 s.cycleAt) (.int .i64 s.til) (.int .i64 s.round) ((hgg.block _ (blk_lt R2.out) (fun e => by have := Option.some.inj e; omega)).trans R2.out)
    have QW := below_gr3 (below_gr3 Q2.out (Nat.le_refl _) hgg) (by omega) GW
    clear hgg GW c0 f0 r0 q0 c1 f1 r1 q1 c2 f2 r2 q2 c3 f3 r3 q3 c4 f4 r4 q4 c5 f5 r5 q5 c6 f6 r6 q6 c7 f7 r7 q7 c8 f8 r8 q8 c9 f9 r9 q9 c10 f10 r10 q10 c11 f11 r11 q11
    generalize ((((((((((((((V2).setCell ⟨w.heap.size, 7, none⟩ (.int .i64 (min (s.fullRounds + 1) 1099511627776))).setCell ⟨w.heap.size, 5, none⟩ (.bool (decide (3 ≤ min (s.fullRounds + 1) 1099511627776)))).setCell ⟨w.heap.size + 1, 0, none⟩ (.int .i64 s.phase)).setCell ⟨w.heap.size + 1, 1, none⟩ (.slice s.ra s.rl.length s.rc)).setCell ⟨w.heap.size + 1, 2, none⟩ (.bool s.hasRtt)).setCell ⟨w.heap.size + 1, 3, none⟩ (.int .i64 s.rtt)).setCell ⟨w.heap.size + 1, 4, none⟩ (.int .i64 s.rttAt)).setCell ⟨w.heap.size + 1, 5, none⟩ (.bool (decide (3 ≤ min (s.fullRounds + 1) 1099511627776)))).setCell ⟨w.heap.size + 1, 6, none⟩ (.int .i64 s.fullRate)).setCell ⟨w.heap.size + 1, 7, none⟩ (.int .i64 (min (s.fullRounds + 1) 1099511627776))).setCell ⟨w.heap.size + 1, 8, none⟩ (.int .i64 s.cycle)).setCell ⟨w.heap.size + 1, 9, none⟩ (.int .i64 s.cycleAt)).setCell ⟨w.heap.size + 1, 10, none⟩ (.int .i64 s.til)).setCell ⟨w.heap.size + 1, 11, none⟩ (.int .i64 s.round) = W at RW QW ⊢
    have r0 := blk_cell RW 0
    have r1 := blk_cell RW 1
    have r2 := blk_cell RW 2
    have r3 := blk_cell RW 3
    have r4 := blk_cell RW 4
    have r5 := blk_cell RW 5
    have r6 := blk_cell RW 6
    have r7 := blk_cell RW 7
    have r8 := blk_cell RW 8
    have r9 := blk_cell RW 9
    have r10 := blk_cell RW 10
    have r11 := blk_cell RW 11
    refine bodyPost_ret (v := .agg #[.int .i64 s.phase, .slice s.ra s.rl.length s.rc, .bool s.hasRtt, .int .i64 s.rtt, .int .i64 s.rttAt, .bool (decide (3 ≤ min (s.fullRounds + 1) 1099511627776)), .int .i64 s.fullRate, .int .i64 (min (s.fullRounds + 1) 1099511627776), .int .i64 s.cycle, .int .i64 s.cycleAt, .int .i64 s.til, .int .i64 s.round]) (by simp [results, Try.results34, go_sem, *]) rfl ⟨⟨_, HF.out.symm, ?_⟩, QW⟩
    rw [if_neg (by omega)]

end Go.Proofs.Ytokoogohdfepiaa
