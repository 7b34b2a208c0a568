/- Bbr: step: the phases. -/
import Derived.Test.YtokoogohdfepiaaBbZb
import Derived.BigQuiet
import Derived.BigRegion
namespace Go.Proofs.Ytokoogohdfepiaa
open Go.RowKit

set_option maxRecDepth 100000 in
set_option maxHeartbeats 800000 in
theorem st_probe (s : Bs) (e : Be) (g : Nat) (w : World) (hv : SV s) (hL : Sts 2 PC Tr w s.ra s.rl) (hS : w.heap[g]? = some (.cells #[.int .i64 s.phase, .slice s.ra s.rl.length s.rc, .bool s.hasRtt, .int .i64 s.rtt, .int .i64 s.rttAt, .bool s.full, .int .i64 s.fullRate, .int .i64 s.fullRounds, .int .i64 s.cycle, .int .i64 s.cycleAt, .int .i64 s.til, .int .i64 s.round] 40 (0, 0))) (hp : s.phase = 2) (h : ¬ s.cycleAt + max s.rtt 1 ≤ e.now) :
    Calls Try.prog 30 #[.pointer (some ⟨g, 0, none⟩), .agg #[.int .i64 e.now, .int .i64 e.round, .int .i64 e.rate, .int .i64 e.rtt, .int .i64 e.flight, .bool e.hasRate, .bool e.hasRtt]] w fun z w' => z = .returned (.tuple #[]) ∧ w'.heap[g]? = some (.cells #[.int .i64 s.phase, .slice s.ra s.rl.length s.rc, .bool s.hasRtt, .int .i64 s.rtt, .int .i64 s.rttAt, .bool s.full, .int .i64 s.fullRate, .int .i64 s.fullRounds, .int .i64 s.cycle, .int .i64 s.cycleAt, .int .i64 s.til, .int .i64 s.round] 40 (0, 0)) ∧ w.grownBy w' (some g) := by
  have hg := blk_lt hS
  have ba := (Below.refl w.heap.size w).alloc (Nat.le_refl _) (.cells #[.int .i64 e.now, .int .i64 e.round, .int .i64 e.rate, .int .i64 e.rtt, .int .i64 e.flight, .bool e.hasRate, .bool e.hasRtt] 46)
  have S1 := Lib.hid ((ba.block _ hg).trans hS)
  have L1 := Lib.hid (hL.belowT ba)
  have E1 := Lib.hid (blk_new w (.cells #[.int .i64 e.now, .int .i64 e.round, .int .i64 e.rate, .int .i64 e.rtt, .int .i64 e.flight, .bool e.hasRate, .bool e.hasRtt] 46))
  have G1 := Lib.hid (gr_below ba (some g))
  have hne : g ≠ w.heap.size := by omega
  have HV := Lib.hid hv
  have HP := Lib.hid hp
  clear hS ba hv hL hp
  go_enter Try.func30, Try.ntmps30
  go_upto_region 1 with fail
  generalize w.alloc (.cells #[.int .i64 e.now, .int .i64 e.round, .int .i64 e.rate, .int .i64 e.rtt, .int .i64 e.flight, .bool e.hasRate, .bool e.hasRtt] 46) = V1 at S1 L1 E1 G1 ⊢
  have e0 := blk_cell E1.out 0
  have e4 := blk_cell E1.out 4
  have c0 := blk_cell S1.out 0
  have c3 := blk_cell S1.out 3
  have c5 := blk_cell S1.out 5
  have c8 := blk_cell S1.out 8
  have c9 := blk_cell S1.out 9
  rw [HP.out] at c0
  obtain ⟨mx, hmx⟩ : ∃ z, max s.rtt 1 = z := ⟨_, rfl⟩
  have hr := HV.out.rtt
  have hc := HV.out.cycleAt
  have hmx0 : 1 ≤ mx := by omega
  have hmx1 : mx ≤ 1073741824 := by omega
  have wa : IntKind.i64.wrap (s.cycleAt + mx) = s.cycleAt + mx := IntWalk.i64_in _ ⟨by omega, by omega⟩
  rw [hmx] at h
  have d1 : decide (s.cycleAt + mx ≤ e.now) = false := decide_eq_false h
  go_wp2_with fail
  go_region
  all_goals
    go_wp2_with fail
    go_quiet (fail)
    go_wp2
    go_end0
    exact ⟨rfl, S1.out, gr_trans (gr_trans G1.out (gr_drewN _ _ _)) (gr_drewN _ _ _)⟩
set_option maxRecDepth 100000 in
set_option maxHeartbeats 800000 in
theorem st_probe_go (s : Bs) (e : Be) (g : Nat) (w : World) (hv : SV s) (hL : Sts 2 PC Tr w s.ra s.rl) (hS : w.heap[g]? = some (.cells #[.int .i64 s.phase, .slice s.ra s.rl.length s.rc, .bool s.hasRtt, .int .i64 s.rtt, .int .i64 s.rttAt, .bool s.full, .int .i64 s.fullRate, .int .i64 s.fullRounds, .int .i64 s.cycle, .int .i64 s.cycleAt, .int .i64 s.til, .int .i64 s.round] 40 (0, 0))) (hp : s.phase = 2) (h : s.cycleAt + max s.rtt 1 ≤ e.now) :
    Calls Try.prog 30 #[.pointer (some ⟨g, 0, none⟩), .agg #[.int .i64 e.now, .int .i64 e.round, .int .i64 e.rate, .int .i64 e.rtt, .int .i64 e.flight, .bool e.hasRate, .bool e.hasRtt]] w fun z w' => z = .returned (.tuple #[]) ∧ w'.heap[g]? = some (.cells #[.int .i64 s.phase, .slice s.ra s.rl.length s.rc, .bool s.hasRtt, .int .i64 s.rtt, .int .i64 s.rttAt, .bool s.full, .int .i64 s.fullRate, .int .i64 s.fullRounds, .int .i64 ((s.cycle + 1) % 8), .int .i64 e.now, .int .i64 s.til, .int .i64 s.round] 40 (0, 0)) ∧ w.grownBy w' (some g) := by
  have hg := blk_lt hS
  have ba := (Below.refl w.heap.size w).alloc (Nat.le_refl _) (.cells #[.int .i64 e.now, .int .i64 e.round, .int .i64 e.rate, .int .i64 e.rtt, .int .i64 e.flight, .bool e.hasRate, .bool e.hasRtt] 46)
  have S1 := Lib.hid ((ba.block _ hg).trans hS)
  have L1 := Lib.hid (hL.belowT ba)
  have E1 := Lib.hid (blk_new w (.cells #[.int .i64 e.now, .int .i64 e.round, .int .i64 e.rate, .int .i64 e.rtt, .int .i64 e.flight, .bool e.hasRate, .bool e.hasRtt] 46))
  have G1 := Lib.hid (gr_below ba (some g))
  have hne : g ≠ w.heap.size := by omega
  have HV := Lib.hid hv
  have HP := Lib.hid hp
  clear hS ba hv hL hp
  go_enter Try.func30, Try.ntmps30
  go_upto_region 1 with fail
  generalize w.alloc (.cells #[.int .i64 e.now, .int .i64 e.round, .int .i64 e.rate, .int .i64 e.rtt, .int .i64 e.flight, .bool e.hasRate, .bool e.hasRtt] 46) = V1 at S1 L1 E1 G1 ⊢
  have e0 := blk_cell E1.out 0
  have e4 := blk_cell E1.out 4
  have c0 := blk_cell S1.out 0
  have c3 := blk_cell S1.out 3
  have c5 := blk_cell S1.out 5
  have c8 := blk_cell S1.out 8
  have c9 := blk_cell S1.out 9
  rw [HP.out] at c0
  obtain ⟨mx, hmx⟩ : ∃ z, max s.rtt 1 = z := ⟨_, rfl⟩
  have hr := HV.out.rtt
  have hc := HV.out.cycleAt
  have hmx0 : 1 ≤ mx := by omega
  have hmx1 : mx ≤ 1073741824 := by omega
  have wa : IntKind.i64.wrap (s.cycleAt + mx) = s.cycleAt + mx := IntWalk.i64_in _ ⟨by omega, by omega⟩
  rw [hmx] at h
  have d1 : decide (s.cycleAt + mx ≤ e.now) = true := decide_eq_true h
  have hcy := HV.out.cycle
  have hm : (s.cycle + 1).tmod 8 = (s.cycle + 1) % 8 := Int.tmod_eq_emod_of_nonneg (by omega)
  have hcy3 : 0 ≤ (s.cycle + 1) % 8 ∧ (s.cycle + 1) % 8 < 8 := by omega
  have f8 := blk_free S1.out 8
  have f9 := blk_free S1.out 9
  go_wp2_with fail
  go_region
  all_goals
    go_wp2_with fail
    go_quiet (fail)
    go_wp2
    go_end0
    exact ⟨rfl, blk_drewN (blk_set (blk_set (blk_drewN S1.out _) 8 (.int .i64 ((s.cycle + 1) % 8))) 9 (.int .i64 e.now)) _, gr_trans (gr_trans (gr_trans (gr_trans G1.out (gr_drewN V1 _ _)) (gr_set _ g 8 _)) (gr_set _ g 9 _)) (gr_drewN _ _ _)⟩
end Go.Proofs.Ytokoogohdfepiaa
