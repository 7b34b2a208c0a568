/- Bbr: Rate of a state that probes the rate. -/
import Derived.Test.YtokoogohdfepiaaBbZj
namespace Go.Proofs.Ytokoogohdfepiaa
open Go.RowKit

set_option maxRecDepth 100000 in
set_option maxHeartbeats 1000000 in
theorem rate_0 (s : Bs) (w : World) (hv : SV s) (hp : s.phase = 2) (hc : s.cycle = 0) (h0 : 0 < s.rl.length) (hL : Sts 2 PC Tr w s.ra s.rl) :
    Calls Try.prog 19 #[.agg #[.int .i64 s.phase, .slice s.ra s.rl.length s.rc, .bool s.hasRtt, .int .i64 s.rtt, .int .i64 s.rttAt, .bool s.full, .int .i64 s.fullRate, .int .i64 s.fullRounds, .int .i64 s.cycle, .int .i64 s.cycleAt, .int .i64 s.til, .int .i64 s.round]] w fun z w' => z = .returned (.tuple #[.int .i64 (min (max (gE s.rl * 320 / 256) 1) 1073741824), .int .i64 0]) ∧ Below w.heap.size w w' := by
  have HV := Lib.hid hv
  obtain ⟨g0, g1⟩ := hv.rates.gE
  have hl := hv.rates.1
  obtain ⟨q, hq⟩ : ∃ q, gE s.rl = q := ⟨_, rfl⟩
  have HQ := Lib.hid hq
  rw [hq] at g0 g1 ⊢
  rw [hp, hc]
  have k0 : ¬ ((s.rl.length : Int) = 0) := by omega
  have k0b : ((s.rl.length : Int) == 0) = false := by rw [beq_eq_false_iff_ne]; exact k0
  have w1 : IntKind.i64.wrap (q * 320) = q * 320 := IntWalk.i64_in _ ⟨by omega, by omega⟩
  have w2 : (q * 320).tdiv 256 = q * 320 / 256 := Int.tdiv_eq_ediv_of_nonneg (by omega)
  have w3 : IntKind.i64.wrap (q * 320 / 256) = q * 320 / 256 := IntWalk.i64_in _ ⟨by omega, by omega⟩
  have HP := Lib.hid hp
  have HC := Lib.hid hc
  have ba := (Below.refl w.heap.size w).alloc (Nat.le_refl _) (.cells #[.int .i64 2, .slice s.ra s.rl.length s.rc, .bool s.hasRtt, .int .i64 s.rtt, .int .i64 s.rttAt, .bool s.full, .int .i64 s.fullRate, .int .i64 s.fullRounds, .int .i64 0, .int .i64 s.cycleAt, .int .i64 s.til, .int .i64 s.round] 40)
  have S1 := Lib.hid (blk_new w (.cells #[.int .i64 2, .slice s.ra s.rl.length s.rc, .bool s.hasRtt, .int .i64 s.rtt, .int .i64 s.rttAt, .bool s.full, .int .i64 s.fullRate, .int .i64 s.fullRounds, .int .i64 0, .int .i64 s.cycleAt, .int .i64 s.til, .int .i64 s.round] 40))
  have L1 := Lib.hid (hL.belowT ba)
  have Q1 := Lib.hid ba
  have hsz : w.heap.size < (w.alloc (.cells #[.int .i64 2, .slice s.ra s.rl.length s.rc, .bool s.hasRtt, .int .i64 s.rtt, .int .i64 s.rttAt, .bool s.full, .int .i64 s.fullRate, .int .i64 s.fullRounds, .int .i64 0, .int .i64 s.cycleAt, .int .i64 s.til, .int .i64 s.round] 40)).heap.size := by simp
  clear hv hp hc hq ba hL h0
  go_enter Try.func19, Try.ntmps19
  go_upto_region 1 with fail
  generalize w.alloc (.cells #[.int .i64 2, .slice s.ra s.rl.length s.rc, .bool s.hasRtt, .int .i64 s.rtt, .int .i64 s.rttAt, .bool s.full, .int .i64 s.fullRate, .int .i64 s.fullRounds, .int .i64 0, .int .i64 s.cycleAt, .int .i64 s.til, .int .i64 s.round] 40) = V1 at S1 L1 Q1 hsz ⊢
  have c0 := blk_cell S1.out 0
  have c1 := blk_cell S1.out 1
  have c2 := blk_cell S1.out 2
  have c3 := blk_cell S1.out 3
  have c4 := blk_cell S1.out 4
  have c5 := blk_cell S1.out 5
  have c6 := blk_cell S1.out 6
  have c7 := blk_cell S1.out 7
  have c8 := blk_cell S1.out 8
  have c9 := blk_cell S1.out 9
  have c10 := blk_cell S1.out 10
  have c11 := blk_cell S1.out 11
  go_wp2_with fail
  have HK := Lib.hid (chk_ok s V1 HV.out L1.out)
  rw [HP.out, HC.out] at HK
  refine HK.out.mono ?_
  rintro z V2 ⟨rfl, b⟩
  have S2 := Lib.hid ((b.block _ (blk_lt S1.out)).trans S1.out)
  have L2 := Lib.hid (L1.out.belowT b)
  have Q2 := Lib.hid (Q1.out.trans (b.mono Q1.out.size))
  have hs2 := Nat.lt_of_lt_of_le hsz b.size
  clear HK b S1 L1 Q1 c0 c1 c2 c3 c4 c5 c6 c7 c8 c9 c10 c11
  have c1 := blk_cell S2.out 1
  go_upto_region 7 with fail
  have b3 := (Below.refl V2.heap.size V2).alloc (Nat.le_refl _) (.cells #[.int .i64 320, .int .i64 192, .int .i64 256, .int .i64 256, .int .i64 256, .int .i64 256, .int .i64 256, .int .i64 256] 73)
  have S3 := Lib.hid ((b3.block _ hs2).trans S2.out)
  have L3 := Lib.hid (L2.out.belowT b3)
  have Q3 := Lib.hid (Q2.out.trans (b3.mono Q2.out.size))
  have A3 := Lib.hid (blk_new V2 (.cells #[.int .i64 320, .int .i64 192, .int .i64 256, .int .i64 256, .int .i64 256, .int .i64 256, .int .i64 256, .int .i64 256] 73))
  have hs3 := Nat.lt_of_lt_of_le hs2 b3.size
  clear S2 L2 Q2 b3 c1
  generalize V2.alloc (.cells #[.int .i64 320, .int .i64 192, .int .i64 256, .int .i64 256, .int .i64 256, .int .i64 256, .int .i64 256, .int .i64 256] 73) = V3 at S3 L3 Q3 A3 hs3 ⊢
  have c8 := blk_cell S3.out 8
  have x0 := blk_cell A3.out 0
  go_upto_region 8 with fail
  have b4 := (Below.refl V3.heap.size V3).alloc (Nat.le_refl _) (.cells #[.int .i64 739, .int .i64 88, .int .i64 320, .int .i64 256] 74)
  have S4 := Lib.hid ((b4.block _ hs3).trans S3.out)
  have L4 := Lib.hid (L3.out.belowT b4)
  have Q4 := Lib.hid (Q3.out.trans (b4.mono Q3.out.size))
  have A4 := Lib.hid (blk_new V3 (.cells #[.int .i64 739, .int .i64 88, .int .i64 320, .int .i64 256] 74))
  clear S3 L3 Q3 A3 b4 c8 x0
  generalize V3.alloc (.cells #[.int .i64 739, .int .i64 88, .int .i64 320, .int .i64 256] 74) = V4 at S4 L4 Q4 A4 ⊢
  have c0 := blk_cell S4.out 0
  have y2 := blk_cell A4.out 2
  have HG := Lib.hid (fun (W : World) (hS : W.heap[w.heap.size]? = some (.cells #[.int .i64 s.phase, .slice s.ra s.rl.length s.rc, .bool s.hasRtt, .int .i64 s.rtt, .int .i64 s.rttAt, .bool s.full, .int .i64 s.fullRate, .int .i64 s.fullRounds, .int .i64 s.cycle, .int .i64 s.cycleAt, .int .i64 s.til, .int .i64 s.round] 40 (0, 0))) (h : Sts 2 PC Tr W s.ra s.rl) => (greatest_any s w.heap.size W hl hS h).mono (fun _ _ ⟨h1, h2⟩ => (⟨h1, h2.symm⟩ : _ ∧ _ = W)))
  rw [HQ.out, HP.out, HC.out] at HG
  go_wp2_with fail
  go_quiet (first | (go_at_call 37; exact Calls.quiet_of_same (HG.out _ S4.out L4.out)))
  go_wp2
  go_ret2
  exact ⟨rfl, below_drewN Q4.out nq⟩
set_option maxRecDepth 100000 in
set_option maxHeartbeats 1000000 in
theorem rate_1 (s : Bs) (w : World) (hv : SV s) (hp : s.phase = 2) (hc : s.cycle = 1) (h0 : 0 < s.rl.length) (hL : Sts 2 PC Tr w s.ra s.rl) :
    Calls Try.prog 19 #[.agg #[.int .i64 s.phase, .slice s.ra s.rl.length s.rc, .bool s.hasRtt, .int .i64 s.rtt, .int .i64 s.rttAt, .bool s.full, .int .i64 s.fullRate, .int .i64 s.fullRounds, .int .i64 s.cycle, .int .i64 s.cycleAt, .int .i64 s.til, .int .i64 s.round]] w fun z w' => z = .returned (.tuple #[.int .i64 (min (max (gE s.rl * 192 / 256) 1) 1073741824), .int .i64 0]) ∧ Below w.heap.size w w' := by
  have HV := Lib.hid hv
  obtain ⟨g0, g1⟩ := hv.rates.gE
  have hl := hv.rates.1
  obtain ⟨q, hq⟩ : ∃ q, gE s.rl = q := ⟨_, rfl⟩
  have HQ := Lib.hid hq
  rw [hq] at g0 g1 ⊢
  rw [hp, hc]
  have k0 : ¬ ((s.rl.length : Int) = 0) := by omega
  have k0b : ((s.rl.length : Int) == 0) = false := by rw [beq_eq_false_iff_ne]; exact k0
  have w1 : IntKind.i64.wrap (q * 192) = q * 192 := IntWalk.i64_in _ ⟨by omega, by omega⟩
  have w2 : (q * 192).tdiv 256 = q * 192 / 256 := Int.tdiv_eq_ediv_of_nonneg (by omega)
  have w3 : IntKind.i64.wrap (q * 192 / 256) = q * 192 / 256 := IntWalk.i64_in _ ⟨by omega, by omega⟩
  have HP := Lib.hid hp
  have HC := Lib.hid hc
  have ba := (Below.refl w.heap.size w).alloc (Nat.le_refl _) (.cells #[.int .i64 2, .slice s.ra s.rl.length s.rc, .bool s.hasRtt, .int .i64 s.rtt, .int .i64 s.rttAt, .bool s.full, .int .i64 s.fullRate, .int .i64 s.fullRounds, .int .i64 1, .int .i64 s.cycleAt, .int .i64 s.til, .int .i64 s.round] 40)
  have S1 := Lib.hid (blk_new w (.cells #[.int .i64 2, .slice s.ra s.rl.length s.rc, .bool s.hasRtt, .int .i64 s.rtt, .int .i64 s.rttAt, .bool s.full, .int .i64 s.fullRate, .int .i64 s.fullRounds, .int .i64 1, .int .i64 s.cycleAt, .int .i64 s.til, .int .i64 s.round] 40))
  have L1 := Lib.hid (hL.belowT ba)
  have Q1 := Lib.hid ba
  have hsz : w.heap.size < (w.alloc (.cells #[.int .i64 2, .slice s.ra s.rl.length s.rc, .bool s.hasRtt, .int .i64 s.rtt, .int .i64 s.rttAt, .bool s.full, .int .i64 s.fullRate, .int .i64 s.fullRounds, .int .i64 1, .int .i64 s.cycleAt, .int .i64 s.til, .int .i64 s.round] 40)).heap.size := by simp
  clear hv hp hc hq ba hL h0
  go_enter Try.func19, Try.ntmps19
  go_upto_region 1 with fail
  generalize w.alloc (.cells #[.int .i64 2, .slice s.ra s.rl.length s.rc, .bool s.hasRtt, .int .i64 s.rtt, .int .i64 s.rttAt, .bool s.full, .int .i64 s.fullRate, .int .i64 s.fullRounds, .int .i64 1, .int .i64 s.cycleAt, .int .i64 s.til, .int .i64 s.round] 40) = V1 at S1 L1 Q1 hsz ⊢
  have c0 := blk_cell S1.out 0
  have c1 := blk_cell S1.out 1
  have c2 := blk_cell S1.out 2
  have c3 := blk_cell S1.out 3
  have c4 := blk_cell S1.out 4
  have c5 := blk_cell S1.out 5
  have c6 := blk_cell S1.out 6
  have c7 := blk_cell S1.out 7
  have c8 := blk_cell S1.out 8
  have c9 := blk_cell S1.out 9
  have c10 := blk_cell S1.out 10
  have c11 := blk_cell S1.out 11
  go_wp2_with fail
  have HK := Lib.hid (chk_ok s V1 HV.out L1.out)
  rw [HP.out, HC.out] at HK
  refine HK.out.mono ?_
  rintro z V2 ⟨rfl, b⟩
  have S2 := Lib.hid ((b.block _ (blk_lt S1.out)).trans S1.out)
  have L2 := Lib.hid (L1.out.belowT b)
  have Q2 := Lib.hid (Q1.out.trans (b.mono Q1.out.size))
  have hs2 := Nat.lt_of_lt_of_le hsz b.size
  clear HK b S1 L1 Q1 c0 c1 c2 c3 c4 c5 c6 c7 c8 c9 c10 c11
  have c1 := blk_cell S2.out 1
  go_upto_region 7 with fail
  have b3 := (Below.refl V2.heap.size V2).alloc (Nat.le_refl _) (.cells #[.int .i64 320, .int .i64 192, .int .i64 256, .int .i64 256, .int .i64 256, .int .i64 256, .int .i64 256, .int .i64 256] 73)
  have S3 := Lib.hid ((b3.block _ hs2).trans S2.out)
  have L3 := Lib.hid (L2.out.belowT b3)
  have Q3 := Lib.hid (Q2.out.trans (b3.mono Q2.out.size))
  have A3 := Lib.hid (blk_new V2 (.cells #[.int .i64 320, .int .i64 192, .int .i64 256, .int .i64 256, .int .i64 256, .int .i64 256, .int .i64 256, .int .i64 256] 73))
  have hs3 := Nat.lt_of_lt_of_le hs2 b3.size
  clear S2 L2 Q2 b3 c1
  generalize V2.alloc (.cells #[.int .i64 320, .int .i64 192, .int .i64 256, .int .i64 256, .int .i64 256, .int .i64 256, .int .i64 256, .int .i64 256] 73) = V3 at S3 L3 Q3 A3 hs3 ⊢
  have c8 := blk_cell S3.out 8
  have x1 := blk_cell A3.out 1
  go_upto_region 8 with fail
  have b4 := (Below.refl V3.heap.size V3).alloc (Nat.le_refl _) (.cells #[.int .i64 739, .int .i64 88, .int .i64 192, .int .i64 256] 74)
  have S4 := Lib.hid ((b4.block _ hs3).trans S3.out)
  have L4 := Lib.hid (L3.out.belowT b4)
  have Q4 := Lib.hid (Q3.out.trans (b4.mono Q3.out.size))
  have A4 := Lib.hid (blk_new V3 (.cells #[.int .i64 739, .int .i64 88, .int .i64 192, .int .i64 256] 74))
  clear S3 L3 Q3 A3 b4 c8 x1
  generalize V3.alloc (.cells #[.int .i64 739, .int .i64 88, .int .i64 192, .int .i64 256] 74) = V4 at S4 L4 Q4 A4 ⊢
  have c0 := blk_cell S4.out 0
  have y2 := blk_cell A4.out 2
  have HG := Lib.hid (fun (W : World) (hS : W.heap[w.heap.size]? = some (.cells #[.int .i64 s.phase, .slice s.ra s.rl.length s.rc, .bool s.hasRtt, .int .i64 s.rtt, .int .i64 s.rttAt, .bool s.full, .int .i64 s.fullRate, .int .i64 s.fullRounds, .int .i64 s.cycle, .int .i64 s.cycleAt, .int .i64 s.til, .int .i64 s.round] 40 (0, 0))) (h : Sts 2 PC Tr W s.ra s.rl) => (greatest_any s w.heap.size W hl hS h).mono (fun _ _ ⟨h1, h2⟩ => (⟨h1, h2.symm⟩ : _ ∧ _ = W)))
  rw [HQ.out, HP.out, HC.out] at HG
  go_wp2_with fail
  go_quiet (first | (go_at_call 37; exact Calls.quiet_of_same (HG.out _ S4.out L4.out)))
  go_wp2
  go_ret2
  exact ⟨rfl, below_drewN Q4.out nq⟩
set_option maxRecDepth 100000 in
set_option maxHeartbeats 1000000 in
theorem rate_2 (s : Bs) (w : World) (hv : SV s) (hp : s.phase = 2) (hc : s.cycle = 2) (h0 : 0 < s.rl.length) (hL : Sts 2 PC Tr w s.ra s.rl) :
    Calls Try.prog 19 #[.agg #[.int .i64 s.phase, .slice s.ra s.rl.length s.rc, .bool s.hasRtt, .int .i64 s.rtt, .int .i64 s.rttAt, .bool s.full, .int .i64 s.fullRate, .int .i64 s.fullRounds, .int .i64 s.cycle, .int .i64 s.cycleAt, .int .i64 s.til, .int .i64 s.round]] w fun z w' => z = .returned (.tuple #[.int .i64 (min (max (gE s.rl * 256 / 256) 1) 1073741824), .int .i64 0]) ∧ Below w.heap.size w w' := by
  have HV := Lib.hid hv
  obtain ⟨g0, g1⟩ := hv.rates.gE
  have hl := hv.rates.1
  obtain ⟨q, hq⟩ : ∃ q, gE s.rl = q := ⟨_, rfl⟩
  have HQ := Lib.hid hq
  rw [hq] at g0 g1 ⊢
  rw [hp, hc]
  have k0 : ¬ ((s.rl.length : Int) = 0) := by omega
  have k0b : ((s.rl.length : Int) == 0) = false := by rw [beq_eq_false_iff_ne]; exact k0
  have w1 : IntKind.i64.wrap (q * 256) = q * 256 := IntWalk.i64_in _ ⟨by omega, by omega⟩
  have w2 : (q * 256).tdiv 256 = q := (Int.tdiv_eq_ediv_of_nonneg (by omega)).trans (by omega)
  have w3 : IntKind.i64.wrap q = q := IntWalk.i64_in _ ⟨by omega, by omega⟩
  rw [show q * 256 / 256 = q by omega]
  have HP := Lib.hid hp
  have HC := Lib.hid hc
  have ba := (Below.refl w.heap.size w).alloc (Nat.le_refl _) (.cells #[.int .i64 2, .slice s.ra s.rl.length s.rc, .bool s.hasRtt, .int .i64 s.rtt, .int .i64 s.rttAt, .bool s.full, .int .i64 s.fullRate, .int .i64 s.fullRounds, .int .i64 2, .int .i64 s.cycleAt, .int .i64 s.til, .int .i64 s.round] 40)
  have S1 := Lib.hid (blk_new w (.cells #[.int .i64 2, .slice s.ra s.rl.length s.rc, .bool s.hasRtt, .int .i64 s.rtt, .int .i64 s.rttAt, .bool s.full, .int .i64 s.fullRate, .int .i64 s.fullRounds, .int .i64 2, .int .i64 s.cycleAt, .int .i64 s.til, .int .i64 s.round] 40))
  have L1 := Lib.hid (hL.belowT ba)
  have Q1 := Lib.hid ba
  have hsz : w.heap.size < (w.alloc (.cells #[.int .i64 2, .slice s.ra s.rl.length s.rc, .bool s.hasRtt, .int .i64 s.rtt, .int .i64 s.rttAt, .bool s.full, .int .i64 s.fullRate, .int .i64 s.fullRounds, .int .i64 2, .int .i64 s.cycleAt, .int .i64 s.til, .int .i64 s.round] 40)).heap.size := by simp
  clear hv hp hc hq ba hL h0
  go_enter Try.func19, Try.ntmps19
  go_upto_region 1 with fail
  generalize w.alloc (.cells #[.int .i64 2, .slice s.ra s.rl.length s.rc, .bool s.hasRtt, .int .i64 s.rtt, .int .i64 s.rttAt, .bool s.full, .int .i64 s.fullRate, .int .i64 s.fullRounds, .int .i64 2, .int .i64 s.cycleAt, .int .i64 s.til, .int .i64 s.round] 40) = V1 at S1 L1 Q1 hsz ⊢
  have c0 := blk_cell S1.out 0
  have c1 := blk_cell S1.out 1
  have c2 := blk_cell S1.out 2
  have c3 := blk_cell S1.out 3
  have c4 := blk_cell S1.out 4
  have c5 := blk_cell S1.out 5
  have c6 := blk_cell S1.out 6
  have c7 := blk_cell S1.out 7
  have c8 := blk_cell S1.out 8
  have c9 := blk_cell S1.out 9
  have c10 := blk_cell S1.out 10
  have c11 := blk_cell S1.out 11
  go_wp2_with fail
  have HK := Lib.hid (chk_ok s V1 HV.out L1.out)
  rw [HP.out, HC.out] at HK
  refine HK.out.mono ?_
  rintro z V2 ⟨rfl, b⟩
  have S2 := Lib.hid ((b.block _ (blk_lt S1.out)).trans S1.out)
  have L2 := Lib.hid (L1.out.belowT b)
  have Q2 := Lib.hid (Q1.out.trans (b.mono Q1.out.size))
  have hs2 := Nat.lt_of_lt_of_le hsz b.size
  clear HK b S1 L1 Q1 c0 c1 c2 c3 c4 c5 c6 c7 c8 c9 c10 c11
  have c1 := blk_cell S2.out 1
  go_upto_region 7 with fail
  have b3 := (Below.refl V2.heap.size V2).alloc (Nat.le_refl _) (.cells #[.int .i64 320, .int .i64 192, .int .i64 256, .int .i64 256, .int .i64 256, .int .i64 256, .int .i64 256, .int .i64 256] 73)
  have S3 := Lib.hid ((b3.block _ hs2).trans S2.out)
  have L3 := Lib.hid (L2.out.belowT b3)
  have Q3 := Lib.hid (Q2.out.trans (b3.mono Q2.out.size))
  have A3 := Lib.hid (blk_new V2 (.cells #[.int .i64 320, .int .i64 192, .int .i64 256, .int .i64 256, .int .i64 256, .int .i64 256, .int .i64 256, .int .i64 256] 73))
  have hs3 := Nat.lt_of_lt_of_le hs2 b3.size
  clear S2 L2 Q2 b3 c1
  generalize V2.alloc (.cells #[.int .i64 320, .int .i64 192, .int .i64 256, .int .i64 256, .int .i64 256, .int .i64 256, .int .i64 256, .int .i64 256] 73) = V3 at S3 L3 Q3 A3 hs3 ⊢
  have c8 := blk_cell S3.out 8
  have x2 := blk_cell A3.out 2
  go_upto_region 8 with fail
  have b4 := (Below.refl V3.heap.size V3).alloc (Nat.le_refl _) (.cells #[.int .i64 739, .int .i64 88, .int .i64 256, .int .i64 256] 74)
  have S4 := Lib.hid ((b4.block _ hs3).trans S3.out)
  have L4 := Lib.hid (L3.out.belowT b4)
  have Q4 := Lib.hid (Q3.out.trans (b4.mono Q3.out.size))
  have A4 := Lib.hid (blk_new V3 (.cells #[.int .i64 739, .int .i64 88, .int .i64 256, .int .i64 256] 74))
  clear S3 L3 Q3 A3 b4 c8 x2
  generalize V3.alloc (.cells #[.int .i64 739, .int .i64 88, .int .i64 256, .int .i64 256] 74) = V4 at S4 L4 Q4 A4 ⊢
  have c0 := blk_cell S4.out 0
  have y2 := blk_cell A4.out 2
  have HG := Lib.hid (fun (W : World) (hS : W.heap[w.heap.size]? = some (.cells #[.int .i64 s.phase, .slice s.ra s.rl.length s.rc, .bool s.hasRtt, .int .i64 s.rtt, .int .i64 s.rttAt, .bool s.full, .int .i64 s.fullRate, .int .i64 s.fullRounds, .int .i64 s.cycle, .int .i64 s.cycleAt, .int .i64 s.til, .int .i64 s.round] 40 (0, 0))) (h : Sts 2 PC Tr W s.ra s.rl) => (greatest_any s w.heap.size W hl hS h).mono (fun _ _ ⟨h1, h2⟩ => (⟨h1, h2.symm⟩ : _ ∧ _ = W)))
  rw [HQ.out, HP.out, HC.out] at HG
  go_wp2_with fail
  go_quiet (first | (go_at_call 37; exact Calls.quiet_of_same (HG.out _ S4.out L4.out)))
  go_wp2
  go_ret2
  exact ⟨rfl, below_drewN Q4.out nq⟩
set_option maxRecDepth 100000 in
set_option maxHeartbeats 1000000 in
theorem rate_3 (s : Bs) (w : World) (hv : SV s) (hp : s.phase = 2) (hc : s.cycle = 3) (h0 : 0 < s.rl.length) (hL : Sts 2 PC Tr w s.ra s.rl) :
    Calls Try.prog 19 #[.agg #[.int .i64 s.phase, .slice s.ra s.rl.length s.rc, .bool s.hasRtt, .int .i64 s.rtt, .int .i64 s.rttAt, .bool s.full, .int .i64 s.fullRate, .int .i64 s.fullRounds, .int .i64 s.cycle, .int .i64 s.cycleAt, .int .i64 s.til, .int .i64 s.round]] w fun z w' => z = .returned (.tuple #[.int .i64 (min (max (gE s.rl * 256 / 256) 1) 1073741824), .int .i64 0]) ∧ Below w.heap.size w w' := by
  have HV := Lib.hid hv
  obtain ⟨g0, g1⟩ := hv.rates.gE
  have hl := hv.rates.1
  obtain ⟨q, hq⟩ : ∃ q, gE s.rl = q := ⟨_, rfl⟩
  have HQ := Lib.hid hq
  rw [hq] at g0 g1 ⊢
  rw [hp, hc]
  have k0 : ¬ ((s.rl.length : Int) = 0) := by omega
  have k0b : ((s.rl.length : Int) == 0) = false := by rw [beq_eq_false_iff_ne]; exact k0
  have w1 : IntKind.i64.wrap (q * 256) = q * 256 := IntWalk.i64_in _ ⟨by omega, by omega⟩
  have w2 : (q * 256).tdiv 256 = q := (Int.tdiv_eq_ediv_of_nonneg (by omega)).trans (by omega)
  have w3 : IntKind.i64.wrap q = q := IntWalk.i64_in _ ⟨by omega, by omega⟩
  rw [show q * 256 / 256 = q by omega]
  have HP := Lib.hid hp
  have HC := Lib.hid hc
  have ba := (Below.refl w.heap.size w).alloc (Nat.le_refl _) (.cells #[.int .i64 2, .slice s.ra s.rl.length s.rc, .bool s.hasRtt, .int .i64 s.rtt, .int .i64 s.rttAt, .bool s.full, .int .i64 s.fullRate, .int .i64 s.fullRounds, .int .i64 3, .int .i64 s.cycleAt, .int .i64 s.til, .int .i64 s.round] 40)
  have S1 := Lib.hid (blk_new w (.cells #[.int .i64 2, .slice s.ra s.rl.length s.rc, .bool s.hasRtt, .int .i64 s.rtt, .int .i64 s.rttAt, .bool s.full, .int .i64 s.fullRate, .int .i64 s.fullRounds, .int .i64 3, .int .i64 s.cycleAt, .int .i64 s.til, .int .i64 s.round] 40))
  have L1 := Lib.hid (hL.belowT ba)
  have Q1 := Lib.hid ba
  have hsz : w.heap.size < (w.alloc (.cells #[.int .i64 2, .slice s.ra s.rl.length s.rc, .bool s.hasRtt, .int .i64 s.rtt, .int .i64 s.rttAt, .bool s.full, .int .i64 s.fullRate, .int .i64 s.fullRounds, .int .i64 3, .int .i64 s.cycleAt, .int .i64 s.til, .int .i64 s.round] 40)).heap.size := by simp
  clear hv hp hc hq ba hL h0
  go_enter Try.func19, Try.ntmps19
  go_upto_region 1 with fail
  generalize w.alloc (.cells #[.int .i64 2, .slice s.ra s.rl.length s.rc, .bool s.hasRtt, .int .i64 s.rtt, .int .i64 s.rttAt, .bool s.full, .int .i64 s.fullRate, .int .i64 s.fullRounds, .int .i64 3, .int .i64 s.cycleAt, .int .i64 s.til, .int .i64 s.round] 40) = V1 at S1 L1 Q1 hsz ⊢
  have c0 := blk_cell S1.out 0
  have c1 := blk_cell S1.out 1
  have c2 := blk_cell S1.out 2
  have c3 := blk_cell S1.out 3
  have c4 := blk_cell S1.out 4
  have c5 := blk_cell S1.out 5
  have c6 := blk_cell S1.out 6
  have c7 := blk_cell S1.out 7
  have c8 := blk_cell S1.out 8
  have c9 := blk_cell S1.out 9
  have c10 := blk_cell S1.out 10
  have c11 := blk_cell S1.out 11
  go_wp2_with fail
  have HK := Lib.hid (chk_ok s V1 HV.out L1.out)
  rw [HP.out, HC.out] at HK
  refine HK.out.mono ?_
  rintro z V2 ⟨rfl, b⟩
  have S2 := Lib.hid ((b.block _ (blk_lt S1.out)).trans S1.out)
  have L2 := Lib.hid (L1.out.belowT b)
  have Q2 := Lib.hid (Q1.out.trans (b.mono Q1.out.size))
  have hs2 := Nat.lt_of_lt_of_le hsz b.size
  clear HK b S1 L1 Q1 c0 c1 c2 c3 c4 c5 c6 c7 c8 c9 c10 c11
  have c1 := blk_cell S2.out 1
  go_upto_region 7 with fail
  have b3 := (Below.refl V2.heap.size V2).alloc (Nat.le_refl _) (.cells #[.int .i64 320, .int .i64 192, .int .i64 256, .int .i64 256, .int .i64 256, .int .i64 256, .int .i64 256, .int .i64 256] 73)
  have S3 := Lib.hid ((b3.block _ hs2).trans S2.out)
  have L3 := Lib.hid (L2.out.belowT b3)
  have Q3 := Lib.hid (Q2.out.trans (b3.mono Q2.out.size))
  have A3 := Lib.hid (blk_new V2 (.cells #[.int .i64 320, .int .i64 192, .int .i64 256, .int .i64 256, .int .i64 256, .int .i64 256, .int .i64 256, .int .i64 256] 73))
  have hs3 := Nat.lt_of_lt_of_le hs2 b3.size
  clear S2 L2 Q2 b3 c1
  generalize V2.alloc (.cells #[.int .i64 320, .int .i64 192, .int .i64 256, .int .i64 256, .int .i64 256, .int .i64 256, .int .i64 256, .int .i64 256] 73) = V3 at S3 L3 Q3 A3 hs3 ⊢
  have c8 := blk_cell S3.out 8
  have x3 := blk_cell A3.out 3
  go_upto_region 8 with fail
  have b4 := (Below.refl V3.heap.size V3).alloc (Nat.le_refl _) (.cells #[.int .i64 739, .int .i64 88, .int .i64 256, .int .i64 256] 74)
  have S4 := Lib.hid ((b4.block _ hs3).trans S3.out)
  have L4 := Lib.hid (L3.out.belowT b4)
  have Q4 := Lib.hid (Q3.out.trans (b4.mono Q3.out.size))
  have A4 := Lib.hid (blk_new V3 (.cells #[.int .i64 739, .int .i64 88, .int .i64 256, .int .i64 256] 74))
  clear S3 L3 Q3 A3 b4 c8 x3
  generalize V3.alloc (.cells #[.int .i64 739, .int .i64 88, .int .i64 256, .int .i64 256] 74) = V4 at S4 L4 Q4 A4 ⊢
  have c0 := blk_cell S4.out 0
  have y2 := blk_cell A4.out 2
  have HG := Lib.hid (fun (W : World) (hS : W.heap[w.heap.size]? = some (.cells #[.int .i64 s.phase, .slice s.ra s.rl.length s.rc, .bool s.hasRtt, .int .i64 s.rtt, .int .i64 s.rttAt, .bool s.full, .int .i64 s.fullRate, .int .i64 s.fullRounds, .int .i64 s.cycle, .int .i64 s.cycleAt, .int .i64 s.til, .int .i64 s.round] 40 (0, 0))) (h : Sts 2 PC Tr W s.ra s.rl) => (greatest_any s w.heap.size W hl hS h).mono (fun _ _ ⟨h1, h2⟩ => (⟨h1, h2.symm⟩ : _ ∧ _ = W)))
  rw [HQ.out, HP.out, HC.out] at HG
  go_wp2_with fail
  go_quiet (first | (go_at_call 37; exact Calls.quiet_of_same (HG.out _ S4.out L4.out)))
  go_wp2
  go_ret2
  exact ⟨rfl, below_drewN Q4.out nq⟩
set_option maxRecDepth 100000 in
set_option maxHeartbeats 1000000 in
theorem rate_4 (s : Bs) (w : World) (hv : SV s) (hp : s.phase = 2) (hc : s.cycle = 4) (h0 : 0 < s.rl.length) (hL : Sts 2 PC Tr w s.ra s.rl) :
    Calls Try.prog 19 #[.agg #[.int .i64 s.phase, .slice s.ra s.rl.length s.rc, .bool s.hasRtt, .int .i64 s.rtt, .int .i64 s.rttAt, .bool s.full, .int .i64 s.fullRate, .int .i64 s.fullRounds, .int .i64 s.cycle, .int .i64 s.cycleAt, .int .i64 s.til, .int .i64 s.round]] w fun z w' => z = .returned (.tuple #[.int .i64 (min (max (gE s.rl * 256 / 256) 1) 1073741824), .int .i64 0]) ∧ Below w.heap.size w w' := by
  have HV := Lib.hid hv
  obtain ⟨g0, g1⟩ := hv.rates.gE
  have hl := hv.rates.1
  obtain ⟨q, hq⟩ : ∃ q, gE s.rl = q := ⟨_, rfl⟩
  have HQ := Lib.hid hq
  rw [hq] at g0 g1 ⊢
  rw [hp, hc]
  have k0 : ¬ ((s.rl.length : Int) = 0) := by omega
  have k0b : ((s.rl.length : Int) == 0) = false := by rw [beq_eq_false_iff_ne]; exact k0
  have w1 : IntKind.i64.wrap (q * 256) = q * 256 := IntWalk.i64_in _ ⟨by omega, by omega⟩
  have w2 : (q * 256).tdiv 256 = q := (Int.tdiv_eq_ediv_of_nonneg (by omega)).trans (by omega)
  have w3 : IntKind.i64.wrap q = q := IntWalk.i64_in _ ⟨by omega, by omega⟩
  rw [show q * 256 / 256 = q by omega]
  have HP := Lib.hid hp
  have HC := Lib.hid hc
  have ba := (Below.refl w.heap.size w).alloc (Nat.le_refl _) (.cells #[.int .i64 2, .slice s.ra s.rl.length s.rc, .bool s.hasRtt, .int .i64 s.rtt, .int .i64 s.rttAt, .bool s.full, .int .i64 s.fullRate, .int .i64 s.fullRounds, .int .i64 4, .int .i64 s.cycleAt, .int .i64 s.til, .int .i64 s.round] 40)
  have S1 := Lib.hid (blk_new w (.cells #[.int .i64 2, .slice s.ra s.rl.length s.rc, .bool s.hasRtt, .int .i64 s.rtt, .int .i64 s.rttAt, .bool s.full, .int .i64 s.fullRate, .int .i64 s.fullRounds, .int .i64 4, .int .i64 s.cycleAt, .int .i64 s.til, .int .i64 s.round] 40))
  have L1 := Lib.hid (hL.belowT ba)
  have Q1 := Lib.hid ba
  have hsz : w.heap.size < (w.alloc (.cells #[.int .i64 2, .slice s.ra s.rl.length s.rc, .bool s.hasRtt, .int .i64 s.rtt, .int .i64 s.rttAt, .bool s.full, .int .i64 s.fullRate, .int .i64 s.fullRounds, .int .i64 4, .int .i64 s.cycleAt, .int .i64 s.til, .int .i64 s.round] 40)).heap.size := by simp
  clear hv hp hc hq ba hL h0
  go_enter Try.func19, Try.ntmps19
  go_upto_region 1 with fail
  generalize w.alloc (.cells #[.int .i64 2, .slice s.ra s.rl.length s.rc, .bool s.hasRtt, .int .i64 s.rtt, .int .i64 s.rttAt, .bool s.full, .int .i64 s.fullRate, .int .i64 s.fullRounds, .int .i64 4, .int .i64 s.cycleAt, .int .i64 s.til, .int .i64 s.round] 40) = V1 at S1 L1 Q1 hsz ⊢
  have c0 := blk_cell S1.out 0
  have c1 := blk_cell S1.out 1
  have c2 := blk_cell S1.out 2
  have c3 := blk_cell S1.out 3
  have c4 := blk_cell S1.out 4
  have c5 := blk_cell S1.out 5
  have c6 := blk_cell S1.out 6
  have c7 := blk_cell S1.out 7
  have c8 := blk_cell S1.out 8
  have c9 := blk_cell S1.out 9
  have c10 := blk_cell S1.out 10
  have c11 := blk_cell S1.out 11
  go_wp2_with fail
  have HK := Lib.hid (chk_ok s V1 HV.out L1.out)
  rw [HP.out, HC.out] at HK
  refine HK.out.mono ?_
  rintro z V2 ⟨rfl, b⟩
  have S2 := Lib.hid ((b.block _ (blk_lt S1.out)).trans S1.out)
  have L2 := Lib.hid (L1.out.belowT b)
  have Q2 := Lib.hid (Q1.out.trans (b.mono Q1.out.size))
  have hs2 := Nat.lt_of_lt_of_le hsz b.size
  clear HK b S1 L1 Q1 c0 c1 c2 c3 c4 c5 c6 c7 c8 c9 c10 c11
  have c1 := blk_cell S2.out 1
  go_upto_region 7 with fail
  have b3 := (Below.refl V2.heap.size V2).alloc (Nat.le_refl _) (.cells #[.int .i64 320, .int .i64 192, .int .i64 256, .int .i64 256, .int .i64 256, .int .i64 256, .int .i64 256, .int .i64 256] 73)
  have S3 := Lib.hid ((b3.block _ hs2).trans S2.out)
  have L3 := Lib.hid (L2.out.belowT b3)
  have Q3 := Lib.hid (Q2.out.trans (b3.mono Q2.out.size))
  have A3 := Lib.hid (blk_new V2 (.cells #[.int .i64 320, .int .i64 192, .int .i64 256, .int .i64 256, .int .i64 256, .int .i64 256, .int .i64 256, .int .i64 256] 73))
  have hs3 := Nat.lt_of_lt_of_le hs2 b3.size
  clear S2 L2 Q2 b3 c1
  generalize V2.alloc (.cells #[.int .i64 320, .int .i64 192, .int .i64 256, .int .i64 256, .int .i64 256, .int .i64 256, .int .i64 256, .int .i64 256] 73) = V3 at S3 L3 Q3 A3 hs3 ⊢
  have c8 := blk_cell S3.out 8
  have x4 := blk_cell A3.out 4
  go_upto_region 8 with fail
  have b4 := (Below.refl V3.heap.size V3).alloc (Nat.le_refl _) (.cells #[.int .i64 739, .int .i64 88, .int .i64 256, .int .i64 256] 74)
  have S4 := Lib.hid ((b4.block _ hs3).trans S3.out)
  have L4 := Lib.hid (L3.out.belowT b4)
  have Q4 := Lib.hid (Q3.out.trans (b4.mono Q3.out.size))
  have A4 := Lib.hid (blk_new V3 (.cells #[.int .i64 739, .int .i64 88, .int .i64 256, .int .i64 256] 74))
  clear S3 L3 Q3 A3 b4 c8 x4
  generalize V3.alloc (.cells #[.int .i64 739, .int .i64 88, .int .i64 256, .int .i64 256] 74) = V4 at S4 L4 Q4 A4 ⊢
  have c0 := blk_cell S4.out 0
  have y2 := blk_cell A4.out 2
  have HG := Lib.hid (fun (W : World) (hS : W.heap[w.heap.size]? = some (.cells #[.int .i64 s.phase, .slice s.ra s.rl.length s.rc, .bool s.hasRtt, .int .i64 s.rtt, .int .i64 s.rttAt, .bool s.full, .int .i64 s.fullRate, .int .i64 s.fullRounds, .int .i64 s.cycle, .int .i64 s.cycleAt, .int .i64 s.til, .int .i64 s.round] 40 (0, 0))) (h : Sts 2 PC Tr W s.ra s.rl) => (greatest_any s w.heap.size W hl hS h).mono (fun _ _ ⟨h1, h2⟩ => (⟨h1, h2.symm⟩ : _ ∧ _ = W)))
  rw [HQ.out, HP.out, HC.out] at HG
  go_wp2_with fail
  go_quiet (first | (go_at_call 37; exact Calls.quiet_of_same (HG.out _ S4.out L4.out)))
  go_wp2
  go_ret2
  exact ⟨rfl, below_drewN Q4.out nq⟩
set_option maxRecDepth 100000 in
set_option maxHeartbeats 1000000 in
theorem rate_5 (s : Bs) (w : World) (hv : SV s) (hp : s.phase = 2) (hc : s.cycle = 5) (h0 : 0 < s.rl.length) (hL : Sts 2 PC Tr w s.ra s.rl) :
    Calls Try.prog 19 #[.agg #[.int .i64 s.phase, .slice s.ra s.rl.length s.rc, .bool s.hasRtt, .int .i64 s.rtt, .int .i64 s.rttAt, .bool s.full, .int .i64 s.fullRate, .int .i64 s.fullRounds, .int .i64 s.cycle, .int .i64 s.cycleAt, .int .i64 s.til, .int .i64 s.round]] w fun z w' => z = .returned (.tuple #[.int .i64 (min (max (gE s.rl * 256 / 256) 1) 1073741824), .int .i64 0]) ∧ Below w.heap.size w w' := by
  have HV := Lib.hid hv
  obtain ⟨g0, g1⟩ := hv.rates.gE
  have hl := hv.rates.1
  obtain ⟨q, hq⟩ : ∃ q, gE s.rl = q := ⟨_, rfl⟩
  have HQ := Lib.hid hq
  rw [hq] at g0 g1 ⊢
  rw [hp, hc]
  have k0 : ¬ ((s.rl.length : Int) = 0) := by omega
  have k0b : ((s.rl.length : Int) == 0) = false := by rw [beq_eq_false_iff_ne]; exact k0
  have w1 : IntKind.i64.wrap (q * 256) = q * 256 := IntWalk.i64_in _ ⟨by omega, by omega⟩
  have w2 : (q * 256).tdiv 256 = q := (Int.tdiv_eq_ediv_of_nonneg (by omega)).trans (by omega)
  have w3 : IntKind.i64.wrap q = q := IntWalk.i64_in _ ⟨by omega, by omega⟩
  rw [show q * 256 / 256 = q by omega]
  have HP := Lib.hid hp
  have HC := Lib.hid hc
  have ba := (Below.refl w.heap.size w).alloc (Nat.le_refl _) (.cells #[.int .i64 2, .slice s.ra s.rl.length s.rc, .bool s.hasRtt, .int .i64 s.rtt, .int .i64 s.rttAt, .bool s.full, .int .i64 s.fullRate, .int .i64 s.fullRounds, .int .i64 5, .int .i64 s.cycleAt, .int .i64 s.til, .int .i64 s.round] 40)
  have S1 := Lib.hid (blk_new w (.cells #[.int .i64 2, .slice s.ra s.rl.length s.rc, .bool s.hasRtt, .int .i64 s.rtt, .int .i64 s.rttAt, .bool s.full, .int .i64 s.fullRate, .int .i64 s.fullRounds, .int .i64 5, .int .i64 s.cycleAt, .int .i64 s.til, .int .i64 s.round] 40))
  have L1 := Lib.hid (hL.belowT ba)
  have Q1 := Lib.hid ba
  have hsz : w.heap.size < (w.alloc (.cells #[.int .i64 2, .slice s.ra s.rl.length s.rc, .bool s.hasRtt, .int .i64 s.rtt, .int .i64 s.rttAt, .bool s.full, .int .i64 s.fullRate, .int .i64 s.fullRounds, .int .i64 5, .int .i64 s.cycleAt, .int .i64 s.til, .int .i64 s.round] 40)).heap.size := by simp
  clear hv hp hc hq ba hL h0
  go_enter Try.func19, Try.ntmps19
  go_upto_region 1 with fail
  generalize w.alloc (.cells #[.int .i64 2, .slice s.ra s.rl.length s.rc, .bool s.hasRtt, .int .i64 s.rtt, .int .i64 s.rttAt, .bool s.full, .int .i64 s.fullRate, .int .i64 s.fullRounds, .int .i64 5, .int .i64 s.cycleAt, .int .i64 s.til, .int .i64 s.round] 40) = V1 at S1 L1 Q1 hsz ⊢
  have c0 := blk_cell S1.out 0
  have c1 := blk_cell S1.out 1
  have c2 := blk_cell S1.out 2
  have c3 := blk_cell S1.out 3
  have c4 := blk_cell S1.out 4
  have c5 := blk_cell S1.out 5
  have c6 := blk_cell S1.out 6
  have c7 := blk_cell S1.out 7
  have c8 := blk_cell S1.out 8
  have c9 := blk_cell S1.out 9
  have c10 := blk_cell S1.out 10
  have c11 := blk_cell S1.out 11
  go_wp2_with fail
  have HK := Lib.hid (chk_ok s V1 HV.out L1.out)
  rw [HP.out, HC.out] at HK
  refine HK.out.mono ?_
  rintro z V2 ⟨rfl, b⟩
  have S2 := Lib.hid ((b.block _ (blk_lt S1.out)).trans S1.out)
  have L2 := Lib.hid (L1.out.belowT b)
  have Q2 := Lib.hid (Q1.out.trans (b.mono Q1.out.size))
  have hs2 := Nat.lt_of_lt_of_le hsz b.size
  clear HK b S1 L1 Q1 c0 c1 c2 c3 c4 c5 c6 c7 c8 c9 c10 c11
  have c1 := blk_cell S2.out 1
  go_upto_region 7 with fail
  have b3 := (Below.refl V2.heap.size V2).alloc (Nat.le_refl _) (.cells #[.int .i64 320, .int .i64 192, .int .i64 256, .int .i64 256, .int .i64 256, .int .i64 256, .int .i64 256, .int .i64 256] 73)
  have S3 := Lib.hid ((b3.block _ hs2).trans S2.out)
  have L3 := Lib.hid (L2.out.belowT b3)
  have Q3 := Lib.hid (Q2.out.trans (b3.mono Q2.out.size))
  have A3 := Lib.hid (blk_new V2 (.cells #[.int .i64 320, .int .i64 192, .int .i64 256, .int .i64 256, .int .i64 256, .int .i64 256, .int .i64 256, .int .i64 256] 73))
  have hs3 := Nat.lt_of_lt_of_le hs2 b3.size
  clear S2 L2 Q2 b3 c1
  generalize V2.alloc (.cells #[.int .i64 320, .int .i64 192, .int .i64 256, .int .i64 256, .int .i64 256, .int .i64 256, .int .i64 256, .int .i64 256] 73) = V3 at S3 L3 Q3 A3 hs3 ⊢
  have c8 := blk_cell S3.out 8
  have x5 := blk_cell A3.out 5
  go_upto_region 8 with fail
  have b4 := (Below.refl V3.heap.size V3).alloc (Nat.le_refl _) (.cells #[.int .i64 739, .int .i64 88, .int .i64 256, .int .i64 256] 74)
  have S4 := Lib.hid ((b4.block _ hs3).trans S3.out)
  have L4 := Lib.hid (L3.out.belowT b4)
  have Q4 := Lib.hid (Q3.out.trans (b4.mono Q3.out.size))
  have A4 := Lib.hid (blk_new V3 (.cells #[.int .i64 739, .int .i64 88, .int .i64 256, .int .i64 256] 74))
  clear S3 L3 Q3 A3 b4 c8 x5
  generalize V3.alloc (.cells #[.int .i64 739, .int .i64 88, .int .i64 256, .int .i64 256] 74) = V4 at S4 L4 Q4 A4 ⊢
  have c0 := blk_cell S4.out 0
  have y2 := blk_cell A4.out 2
  have HG := Lib.hid (fun (W : World) (hS : W.heap[w.heap.size]? = some (.cells #[.int .i64 s.phase, .slice s.ra s.rl.length s.rc, .bool s.hasRtt, .int .i64 s.rtt, .int .i64 s.rttAt, .bool s.full, .int .i64 s.fullRate, .int .i64 s.fullRounds, .int .i64 s.cycle, .int .i64 s.cycleAt, .int .i64 s.til, .int .i64 s.round] 40 (0, 0))) (h : Sts 2 PC Tr W s.ra s.rl) => (greatest_any s w.heap.size W hl hS h).mono (fun _ _ ⟨h1, h2⟩ => (⟨h1, h2.symm⟩ : _ ∧ _ = W)))
  rw [HQ.out, HP.out, HC.out] at HG
  go_wp2_with fail
  go_quiet (first | (go_at_call 37; exact Calls.quiet_of_same (HG.out _ S4.out L4.out)))
  go_wp2
  go_ret2
  exact ⟨rfl, below_drewN Q4.out nq⟩
set_option maxRecDepth 100000 in
set_option maxHeartbeats 1000000 in
theorem rate_6 (s : Bs) (w : World) (hv : SV s) (hp : s.phase = 2) (hc : s.cycle = 6) (h0 : 0 < s.rl.length) (hL : Sts 2 PC Tr w s.ra s.rl) :
    Calls Try.prog 19 #[.agg #[.int .i64 s.phase, .slice s.ra s.rl.length s.rc, .bool s.hasRtt, .int .i64 s.rtt, .int .i64 s.rttAt, .bool s.full, .int .i64 s.fullRate, .int .i64 s.fullRounds, .int .i64 s.cycle, .int .i64 s.cycleAt, .int .i64 s.til, .int .i64 s.round]] w fun z w' => z = .returned (.tuple #[.int .i64 (min (max (gE s.rl * 256 / 256) 1) 1073741824), .int .i64 0]) ∧ Below w.heap.size w w' := by
  have HV := Lib.hid hv
  obtain ⟨g0, g1⟩ := hv.rates.gE
  have hl := hv.rates.1
  obtain ⟨q, hq⟩ : ∃ q, gE s.rl = q := ⟨_, rfl⟩
  have HQ := Lib.hid hq
  rw [hq] at g0 g1 ⊢
  rw [hp, hc]
  have k0 : ¬ ((s.rl.length : Int) = 0) := by omega
  have k0b : ((s.rl.length : Int) == 0) = false := by rw [beq_eq_false_iff_ne]; exact k0
  have w1 : IntKind.i64.wrap (q * 256) = q * 256 := IntWalk.i64_in _ ⟨by omega, by omega⟩
  have w2 : (q * 256).tdiv 256 = q := (Int.tdiv_eq_ediv_of_nonneg (by omega)).trans (by omega)
  have w3 : IntKind.i64.wrap q = q := IntWalk.i64_in _ ⟨by omega, by omega⟩
  rw [show q * 256 / 256 = q by omega]
  have HP := Lib.hid hp
  have HC := Lib.hid hc
  have ba := (Below.refl w.heap.size w).alloc (Nat.le_refl _) (.cells #[.int .i64 2, .slice s.ra s.rl.length s.rc, .bool s.hasRtt, .int .i64 s.rtt, .int .i64 s.rttAt, .bool s.full, .int .i64 s.fullRate, .int .i64 s.fullRounds, .int .i64 6, .int .i64 s.cycleAt, .int .i64 s.til, .int .i64 s.round] 40)
  have S1 := Lib.hid (blk_new w (.cells #[.int .i64 2, .slice s.ra s.rl.length s.rc, .bool s.hasRtt, .int .i64 s.rtt, .int .i64 s.rttAt, .bool s.full, .int .i64 s.fullRate, .int .i64 s.fullRounds, .int .i64 6, .int .i64 s.cycleAt, .int .i64 s.til, .int .i64 s.round] 40))
  have L1 := Lib.hid (hL.belowT ba)
  have Q1 := Lib.hid ba
  have hsz : w.heap.size < (w.alloc (.cells #[.int .i64 2, .slice s.ra s.rl.length s.rc, .bool s.hasRtt, .int .i64 s.rtt, .int .i64 s.rttAt, .bool s.full, .int .i64 s.fullRate, .int .i64 s.fullRounds, .int .i64 6, .int .i64 s.cycleAt, .int .i64 s.til, .int .i64 s.round] 40)).heap.size := by simp
  clear hv hp hc hq ba hL h0
  go_enter Try.func19, Try.ntmps19
  go_upto_region 1 with fail
  generalize w.alloc (.cells #[.int .i64 2, .slice s.ra s.rl.length s.rc, .bool s.hasRtt, .int .i64 s.rtt, .int .i64 s.rttAt, .bool s.full, .int .i64 s.fullRate, .int .i64 s.fullRounds, .int .i64 6, .int .i64 s.cycleAt, .int .i64 s.til, .int .i64 s.round] 40) = V1 at S1 L1 Q1 hsz ⊢
  have c0 := blk_cell S1.out 0
  have c1 := blk_cell S1.out 1
  have c2 := blk_cell S1.out 2
  have c3 := blk_cell S1.out 3
  have c4 := blk_cell S1.out 4
  have c5 := blk_cell S1.out 5
  have c6 := blk_cell S1.out 6
  have c7 := blk_cell S1.out 7
  have c8 := blk_cell S1.out 8
  have c9 := blk_cell S1.out 9
  have c10 := blk_cell S1.out 10
  have c11 := blk_cell S1.out 11
  go_wp2_with fail
  have HK := Lib.hid (chk_ok s V1 HV.out L1.out)
  rw [HP.out, HC.out] at HK
  refine HK.out.mono ?_
  rintro z V2 ⟨rfl, b⟩
  have S2 := Lib.hid ((b.block _ (blk_lt S1.out)).trans S1.out)
  have L2 := Lib.hid (L1.out.belowT b)
  have Q2 := Lib.hid (Q1.out.trans (b.mono Q1.out.size))
  have hs2 := Nat.lt_of_lt_of_le hsz b.size
  clear HK b S1 L1 Q1 c0 c1 c2 c3 c4 c5 c6 c7 c8 c9 c10 c11
  have c1 := blk_cell S2.out 1
  go_upto_region 7 with fail
  have b3 := (Below.refl V2.heap.size V2).alloc (Nat.le_refl _) (.cells #[.int .i64 320, .int .i64 192, .int .i64 256, .int .i64 256, .int .i64 256, .int .i64 256, .int .i64 256, .int .i64 256] 73)
  have S3 := Lib.hid ((b3.block _ hs2).trans S2.out)
  have L3 := Lib.hid (L2.out.belowT b3)
  have Q3 := Lib.hid (Q2.out.trans (b3.mono Q2.out.size))
  have A3 := Lib.hid (blk_new V2 (.cells #[.int .i64 320, .int .i64 192, .int .i64 256, .int .i64 256, .int .i64 256, .int .i64 256, .int .i64 256, .int .i64 256] 73))
  have hs3 := Nat.lt_of_lt_of_le hs2 b3.size
  clear S2 L2 Q2 b3 c1
  generalize V2.alloc (.cells #[.int .i64 320, .int .i64 192, .int .i64 256, .int .i64 256, .int .i64 256, .int .i64 256, .int .i64 256, .int .i64 256] 73) = V3 at S3 L3 Q3 A3 hs3 ⊢
  have c8 := blk_cell S3.out 8
  have x6 := blk_cell A3.out 6
  go_upto_region 8 with fail
  have b4 := (Below.refl V3.heap.size V3).alloc (Nat.le_refl _) (.cells #[.int .i64 739, .int .i64 88, .int .i64 256, .int .i64 256] 74)
  have S4 := Lib.hid ((b4.block _ hs3).trans S3.out)
  have L4 := Lib.hid (L3.out.belowT b4)
  have Q4 := Lib.hid (Q3.out.trans (b4.mono Q3.out.size))
  have A4 := Lib.hid (blk_new V3 (.cells #[.int .i64 739, .int .i64 88, .int .i64 256, .int .i64 256] 74))
  clear S3 L3 Q3 A3 b4 c8 x6
  generalize V3.alloc (.cells #[.int .i64 739, .int .i64 88, .int .i64 256, .int .i64 256] 74) = V4 at S4 L4 Q4 A4 ⊢
  have c0 := blk_cell S4.out 0
  have y2 := blk_cell A4.out 2
  have HG := Lib.hid (fun (W : World) (hS : W.heap[w.heap.size]? = some (.cells #[.int .i64 s.phase, .slice s.ra s.rl.length s.rc, .bool s.hasRtt, .int .i64 s.rtt, .int .i64 s.rttAt, .bool s.full, .int .i64 s.fullRate, .int .i64 s.fullRounds, .int .i64 s.cycle, .int .i64 s.cycleAt, .int .i64 s.til, .int .i64 s.round] 40 (0, 0))) (h : Sts 2 PC Tr W s.ra s.rl) => (greatest_any s w.heap.size W hl hS h).mono (fun _ _ ⟨h1, h2⟩ => (⟨h1, h2.symm⟩ : _ ∧ _ = W)))
  rw [HQ.out, HP.out, HC.out] at HG
  go_wp2_with fail
  go_quiet (first | (go_at_call 37; exact Calls.quiet_of_same (HG.out _ S4.out L4.out)))
  go_wp2
  go_ret2
  exact ⟨rfl, below_drewN Q4.out nq⟩
set_option maxRecDepth 100000 in
set_option maxHeartbeats 1000000 in
theorem rate_7 (s : Bs) (w : World) (hv : SV s) (hp : s.phase = 2) (hc : s.cycle = 7) (h0 : 0 < s.rl.length) (hL : Sts 2 PC Tr w s.ra s.rl) :
    Calls Try.prog 19 #[.agg #[.int .i64 s.phase, .slice s.ra s.rl.length s.rc, .bool s.hasRtt, .int .i64 s.rtt, .int .i64 s.rttAt, .bool s.full, .int .i64 s.fullRate, .int .i64 s.fullRounds, .int .i64 s.cycle, .int .i64 s.cycleAt, .int .i64 s.til, .int .i64 s.round]] w fun z w' => z = .returned (.tuple #[.int .i64 (min (max (gE s.rl * 256 / 256) 1) 1073741824), .int .i64 0]) ∧ Below w.heap.size w w' := by
  have HV := Lib.hid hv
  obtain ⟨g0, g1⟩ := hv.rates.gE
  have hl := hv.rates.1
  obtain ⟨q, hq⟩ : ∃ q, gE s.rl = q := ⟨_, rfl⟩
  have HQ := Lib.hid hq
  rw [hq] at g0 g1 ⊢
  rw [hp, hc]
  have k0 : ¬ ((s.rl.length : Int) = 0) := by omega
  have k0b : ((s.rl.length : Int) == 0) = false := by rw [beq_eq_false_iff_ne]; exact k0
  have w1 : IntKind.i64.wrap (q * 256) = q * 256 := IntWalk.i64_in _ ⟨by omega, by omega⟩
  have w2 : (q * 256).tdiv 256 = q := (Int.tdiv_eq_ediv_of_nonneg (by omega)).trans (by omega)
  have w3 : IntKind.i64.wrap q = q := IntWalk.i64_in _ ⟨by omega, by omega⟩
  rw [show q * 256 / 256 = q by omega]
  have HP := Lib.hid hp
  have HC := Lib.hid hc
  have ba := (Below.refl w.heap.size w).alloc (Nat.le_refl _) (.cells #[.int .i64 2, .slice s.ra s.rl.length s.rc, .bool s.hasRtt, .int .i64 s.rtt, .int .i64 s.rttAt, .bool s.full, .int .i64 s.fullRate, .int .i64 s.fullRounds, .int .i64 7, .int .i64 s.cycleAt, .int .i64 s.til, .int .i64 s.round] 40)
  have S1 := Lib.hid (blk_new w (.cells #[.int .i64 2, .slice s.ra s.rl.length s.rc, .bool s.hasRtt, .int .i64 s.rtt, .int .i64 s.rttAt, .bool s.full, .int .i64 s.fullRate, .int .i64 s.fullRounds, .int .i64 7, .int .i64 s.cycleAt, .int .i64 s.til, .int .i64 s.round] 40))
  have L1 := Lib.hid (hL.belowT ba)
  have Q1 := Lib.hid ba
  have hsz : w.heap.size < (w.alloc (.cells #[.int .i64 2, .slice s.ra s.rl.length s.rc, .bool s.hasRtt, .int .i64 s.rtt, .int .i64 s.rttAt, .bool s.full, .int .i64 s.fullRate, .int .i64 s.fullRounds, .int .i64 7, .int .i64 s.cycleAt, .int .i64 s.til, .int .i64 s.round] 40)).heap.size := by simp
  clear hv hp hc hq ba hL h0
  go_enter Try.func19, Try.ntmps19
  go_upto_region 1 with fail
  generalize w.alloc (.cells #[.int .i64 2, .slice s.ra s.rl.length s.rc, .bool s.hasRtt, .int .i64 s.rtt, .int .i64 s.rttAt, .bool s.full, .int .i64 s.fullRate, .int .i64 s.fullRounds, .int .i64 7, .int .i64 s.cycleAt, .int .i64 s.til, .int .i64 s.round] 40) = V1 at S1 L1 Q1 hsz ⊢
  have c0 := blk_cell S1.out 0
  have c1 := blk_cell S1.out 1
  have c2 := blk_cell S1.out 2
  have c3 := blk_cell S1.out 3
  have c4 := blk_cell S1.out 4
  have c5 := blk_cell S1.out 5
  have c6 := blk_cell S1.out 6
  have c7 := blk_cell S1.out 7
  have c8 := blk_cell S1.out 8
  have c9 := blk_cell S1.out 9
  have c10 := blk_cell S1.out 10
  have c11 := blk_cell S1.out 11
  go_wp2_with fail
  have HK := Lib.hid (chk_ok s V1 HV.out L1.out)
  rw [HP.out, HC.out] at HK
  refine HK.out.mono ?_
  rintro z V2 ⟨rfl, b⟩
  have S2 := Lib.hid ((b.block _ (blk_lt S1.out)).trans S1.out)
  have L2 := Lib.hid (L1.out.belowT b)
  have Q2 := Lib.hid (Q1.out.trans (b.mono Q1.out.size))
  have hs2 := Nat.lt_of_lt_of_le hsz b.size
  clear HK b S1 L1 Q1 c0 c1 c2 c3 c4 c5 c6 c7 c8 c9 c10 c11
  have c1 := blk_cell S2.out 1
  go_upto_region 7 with fail
  have b3 := (Below.refl V2.heap.size V2).alloc (Nat.le_refl _) (.cells #[.int .i64 320, .int .i64 192, .int .i64 256, .int .i64 256, .int .i64 256, .int .i64 256, .int .i64 256, .int .i64 256] 73)
  have S3 := Lib.hid ((b3.block _ hs2).trans S2.out)
  have L3 := Lib.hid (L2.out.belowT b3)
  have Q3 := Lib.hid (Q2.out.trans (b3.mono Q2.out.size))
  have A3 := Lib.hid (blk_new V2 (.cells #[.int .i64 320, .int .i64 192, .int .i64 256, .int .i64 256, .int .i64 256, .int .i64 256, .int .i64 256, .int .i64 256] 73))
  have hs3 := Nat.lt_of_lt_of_le hs2 b3.size
  clear S2 L2 Q2 b3 c1
  generalize V2.alloc (.cells #[.int .i64 320, .int .i64 192, .int .i64 256, .int .i64 256, .int .i64 256, .int .i64 256, .int .i64 256, .int .i64 256] 73) = V3 at S3 L3 Q3 A3 hs3 ⊢
  have c8 := blk_cell S3.out 8
  have x7 := blk_cell A3.out 7
  go_upto_region 8 with fail
  have b4 := (Below.refl V3.heap.size V3).alloc (Nat.le_refl _) (.cells #[.int .i64 739, .int .i64 88, .int .i64 256, .int .i64 256] 74)
  have S4 := Lib.hid ((b4.block _ hs3).trans S3.out)
  have L4 := Lib.hid (L3.out.belowT b4)
  have Q4 := Lib.hid (Q3.out.trans (b4.mono Q3.out.size))
  have A4 := Lib.hid (blk_new V3 (.cells #[.int .i64 739, .int .i64 88, .int .i64 256, .int .i64 256] 74))
  clear S3 L3 Q3 A3 b4 c8 x7
  generalize V3.alloc (.cells #[.int .i64 739, .int .i64 88, .int .i64 256, .int .i64 256] 74) = V4 at S4 L4 Q4 A4 ⊢
  have c0 := blk_cell S4.out 0
  have y2 := blk_cell A4.out 2
  have HG := Lib.hid (fun (W : World) (hS : W.heap[w.heap.size]? = some (.cells #[.int .i64 s.phase, .slice s.ra s.rl.length s.rc, .bool s.hasRtt, .int .i64 s.rtt, .int .i64 s.rttAt, .bool s.full, .int .i64 s.fullRate, .int .i64 s.fullRounds, .int .i64 s.cycle, .int .i64 s.cycleAt, .int .i64 s.til, .int .i64 s.round] 40 (0, 0))) (h : Sts 2 PC Tr W s.ra s.rl) => (greatest_any s w.heap.size W hl hS h).mono (fun _ _ ⟨h1, h2⟩ => (⟨h1, h2.symm⟩ : _ ∧ _ = W)))
  rw [HQ.out, HP.out, HC.out] at HG
  go_wp2_with fail
  go_quiet (first | (go_at_call 37; exact Calls.quiet_of_same (HG.out _ S4.out L4.out)))
  go_wp2
  go_ret2
  exact ⟨rfl, below_drewN Q4.out nq⟩
end Go.Proofs.Ytokoogohdfepiaa
