/- Bbr: probe: the search for the least time. -/
import Derived.Test.YtokoogohdfepiaaBbZc
import Derived.BigQuiet
import Derived.BigRegion
namespace Go.Proofs.Ytokoogohdfepiaa
open Go.RowKit

set_option maxRecDepth 100000 in
set_option maxHeartbeats 800000 in
theorem pr_none (s : Bs) (e : Be) (g : Nat) (w : World) (hv : SV s) (hL : Sts 2 PC Tr w s.ra s.rl) (hS : w.heap[g]? = some (.cells #[.int .i64 s.phase, .slice s.ra s.rl.length s.rc, .bool s.hasRtt, .int .i64 s.rtt, .int .i64 s.rttAt, .bool s.full, .int .i64 s.fullRate, .int .i64 s.fullRounds, .int .i64 s.cycle, .int .i64 s.cycleAt, .int .i64 s.til, .int .i64 s.round] 40 (0, 0))) (hp : ¬ s.phase = 3) :
    Calls Try.prog 31 #[.pointer (some ⟨g, 0, none⟩), .agg #[.int .i64 e.now, .int .i64 e.round, .int .i64 e.rate, .int .i64 e.rtt, .int .i64 e.flight, .bool e.hasRate, .bool e.hasRtt], .bool false] w fun z w' => z = .returned (.tuple #[]) ∧ w'.heap[g]? = some (.cells #[.int .i64 s.phase, .slice s.ra s.rl.length s.rc, .bool s.hasRtt, .int .i64 s.rtt, .int .i64 s.rttAt, .bool s.full, .int .i64 s.fullRate, .int .i64 s.fullRounds, .int .i64 s.cycle, .int .i64 s.cycleAt, .int .i64 s.til, .int .i64 s.round] 40 (0, 0)) ∧ w.grownBy w' (some g) := by
  have hg := blk_lt hS
  have ba := (Below.refl w.heap.size w).alloc (Nat.le_refl _) (.cells #[.int .i64 e.now, .int .i64 e.round, .int .i64 e.rate, .int .i64 e.rtt, .int .i64 e.flight, .bool e.hasRate, .bool e.hasRtt] 46)
  have S1 := Lib.hid ((ba.block _ hg).trans hS)
  have L1 := Lib.hid (hL.belowT ba)
  have E1 := Lib.hid (blk_new w (.cells #[.int .i64 e.now, .int .i64 e.round, .int .i64 e.rate, .int .i64 e.rtt, .int .i64 e.flight, .bool e.hasRate, .bool e.hasRtt] 46))
  have G1 := Lib.hid (gr_below ba (some g))
  have hne : g ≠ w.heap.size := by omega
  have HV := Lib.hid hv
  have HP := Lib.hid hp
  clear hS ba hv hL hp
  go_enter Try.func31, Try.ntmps31
  go_upto_region 1 with fail
  generalize w.alloc (.cells #[.int .i64 e.now, .int .i64 e.round, .int .i64 e.rate, .int .i64 e.rtt, .int .i64 e.flight, .bool e.hasRate, .bool e.hasRtt] 46) = V1 at S1 L1 E1 G1 ⊢
  have e0 := blk_cell E1.out 0
  have e4 := blk_cell E1.out 4
  have c0 := blk_cell S1.out 0
  have c3 := blk_cell S1.out 3
  have c5 := blk_cell S1.out 5
  have c8 := blk_cell S1.out 8
  have c9 := blk_cell S1.out 9
  have c10 := blk_cell S1.out 10
  have hnp := HP.out
  go_wp2_with fail
  go_quiet (fail)
  go_wp2
  go_end0
  exact ⟨rfl, S1.out, gr_trans G1.out (gr_drewN _ _ _)⟩
set_option maxRecDepth 100000 in
set_option maxHeartbeats 800000 in
theorem pr_wait (s : Bs) (e : Be) (g : Nat) (w : World) (hv : SV s) (hL : Sts 2 PC Tr w s.ra s.rl) (hS : w.heap[g]? = some (.cells #[.int .i64 s.phase, .slice s.ra s.rl.length s.rc, .bool s.hasRtt, .int .i64 s.rtt, .int .i64 s.rttAt, .bool s.full, .int .i64 s.fullRate, .int .i64 s.fullRounds, .int .i64 s.cycle, .int .i64 s.cycleAt, .int .i64 s.til, .int .i64 s.round] 40 (0, 0))) (b : Bool) (hp : s.phase = 3) (h : ¬ s.til ≤ e.now) :
    Calls Try.prog 31 #[.pointer (some ⟨g, 0, none⟩), .agg #[.int .i64 e.now, .int .i64 e.round, .int .i64 e.rate, .int .i64 e.rtt, .int .i64 e.flight, .bool e.hasRate, .bool e.hasRtt], .bool b] w fun z w' => z = .returned (.tuple #[]) ∧ w'.heap[g]? = some (.cells #[.int .i64 s.phase, .slice s.ra s.rl.length s.rc, .bool s.hasRtt, .int .i64 s.rtt, .int .i64 s.rttAt, .bool s.full, .int .i64 s.fullRate, .int .i64 s.fullRounds, .int .i64 s.cycle, .int .i64 s.cycleAt, .int .i64 s.til, .int .i64 s.round] 40 (0, 0)) ∧ w.grownBy w' (some g) := by
  have hg := blk_lt hS
  have ba := (Below.refl w.heap.size w).alloc (Nat.le_refl _) (.cells #[.int .i64 e.now, .int .i64 e.round, .int .i64 e.rate, .int .i64 e.rtt, .int .i64 e.flight, .bool e.hasRate, .bool e.hasRtt] 46)
  have S1 := Lib.hid ((ba.block _ hg).trans hS)
  have L1 := Lib.hid (hL.belowT ba)
  have E1 := Lib.hid (blk_new w (.cells #[.int .i64 e.now, .int .i64 e.round, .int .i64 e.rate, .int .i64 e.rtt, .int .i64 e.flight, .bool e.hasRate, .bool e.hasRtt] 46))
  have G1 := Lib.hid (gr_below ba (some g))
  have hne : g ≠ w.heap.size := by omega
  have HV := Lib.hid hv
  have HP := Lib.hid hp
  clear hS ba hv hL hp
  go_enter Try.func31, Try.ntmps31
  go_upto_region 1 with fail
  generalize w.alloc (.cells #[.int .i64 e.now, .int .i64 e.round, .int .i64 e.rate, .int .i64 e.rtt, .int .i64 e.flight, .bool e.hasRate, .bool e.hasRtt] 46) = V1 at S1 L1 E1 G1 ⊢
  have e0 := blk_cell E1.out 0
  have e4 := blk_cell E1.out 4
  have c0 := blk_cell S1.out 0
  have c3 := blk_cell S1.out 3
  have c5 := blk_cell S1.out 5
  have c8 := blk_cell S1.out 8
  have c9 := blk_cell S1.out 9
  have c10 := blk_cell S1.out 10
  rw [HP.out] at c0
  have d1 : decide (s.til ≤ e.now) = false := decide_eq_false h
  cases b
  all_goals
    go_wp2_with fail
    go_quiet (fail)
    go_wp2
    go_end0
    exact ⟨rfl, S1.out, gr_trans G1.out (gr_drewN _ _ _)⟩
set_option maxRecDepth 100000 in
set_option maxHeartbeats 800000 in
theorem pr_stale (s : Bs) (e : Be) (g : Nat) (w : World) (hv : SV s) (hL : Sts 2 PC Tr w s.ra s.rl) (hS : w.heap[g]? = some (.cells #[.int .i64 s.phase, .slice s.ra s.rl.length s.rc, .bool s.hasRtt, .int .i64 s.rtt, .int .i64 s.rttAt, .bool s.full, .int .i64 s.fullRate, .int .i64 s.fullRounds, .int .i64 s.cycle, .int .i64 s.cycleAt, .int .i64 s.til, .int .i64 s.round] 40 (0, 0))) (hn : 0 ≤ e.now ∧ e.now ≤ 1099511627776) (hp : ¬ s.phase = 3) :
    Calls Try.prog 31 #[.pointer (some ⟨g, 0, none⟩), .agg #[.int .i64 e.now, .int .i64 e.round, .int .i64 e.rate, .int .i64 e.rtt, .int .i64 e.flight, .bool e.hasRate, .bool e.hasRtt], .bool true] w fun z w' => z = .returned (.tuple #[]) ∧ w'.heap[g]? = some (.cells #[.int .i64 3, .slice s.ra s.rl.length s.rc, .bool s.hasRtt, .int .i64 s.rtt, .int .i64 s.rttAt, .bool s.full, .int .i64 s.fullRate, .int .i64 s.fullRounds, .int .i64 s.cycle, .int .i64 s.cycleAt, .int .i64 (min (e.now + 200) 1099511627776), .int .i64 s.round] 40 (0, 0)) ∧ w.grownBy w' (some g) := by
  have hg := blk_lt hS
  have ba := (Below.refl w.heap.size w).alloc (Nat.le_refl _) (.cells #[.int .i64 e.now, .int .i64 e.round, .int .i64 e.rate, .int .i64 e.rtt, .int .i64 e.flight, .bool e.hasRate, .bool e.hasRtt] 46)
  have S1 := Lib.hid ((ba.block _ hg).trans hS)
  have L1 := Lib.hid (hL.belowT ba)
  have E1 := Lib.hid (blk_new w (.cells #[.int .i64 e.now, .int .i64 e.round, .int .i64 e.rate, .int .i64 e.rtt, .int .i64 e.flight, .bool e.hasRate, .bool e.hasRtt] 46))
  have G1 := Lib.hid (gr_below ba (some g))
  have hne : g ≠ w.heap.size := by omega
  have HV := Lib.hid hv
  have HP := Lib.hid hp
  clear hS ba hv hL hp
  go_enter Try.func31, Try.ntmps31
  go_upto_region 1 with fail
  generalize w.alloc (.cells #[.int .i64 e.now, .int .i64 e.round, .int .i64 e.rate, .int .i64 e.rtt, .int .i64 e.flight, .bool e.hasRate, .bool e.hasRtt] 46) = V1 at S1 L1 E1 G1 ⊢
  have e0 := blk_cell E1.out 0
  have e4 := blk_cell E1.out 4
  have c0 := blk_cell S1.out 0
  have c3 := blk_cell S1.out 3
  have c5 := blk_cell S1.out 5
  have c8 := blk_cell S1.out 8
  have c9 := blk_cell S1.out 9
  have c10 := blk_cell S1.out 10
  have hnp := HP.out
  obtain ⟨n0, n1⟩ := hn
  have f0 := blk_free S1.out 0
  have f10 := blk_free S1.out 10
  go_wp2
  go_end0
  exact ⟨rfl, blk_set (blk_set S1.out 0 (.int .i64 3)) 10 (.int .i64 (min (e.now + 200) 1099511627776)), gr_trans (gr_trans G1.out (gr_set _ g 0 _)) (gr_set _ g 10 _)⟩
set_option maxRecDepth 100000 in
set_option maxHeartbeats 800000 in
theorem pr_end (s : Bs) (e : Be) (g : Nat) (w : World) (hv : SV s) (hL : Sts 2 PC Tr w s.ra s.rl) (hS : w.heap[g]? = some (.cells #[.int .i64 s.phase, .slice s.ra s.rl.length s.rc, .bool s.hasRtt, .int .i64 s.rtt, .int .i64 s.rttAt, .bool s.full, .int .i64 s.fullRate, .int .i64 s.fullRounds, .int .i64 s.cycle, .int .i64 s.cycleAt, .int .i64 s.til, .int .i64 s.round] 40 (0, 0))) (b : Bool) (hp : s.phase = 3) (h : s.til ≤ e.now) (hf : s.full = false) :
    Calls Try.prog 31 #[.pointer (some ⟨g, 0, none⟩), .agg #[.int .i64 e.now, .int .i64 e.round, .int .i64 e.rate, .int .i64 e.rtt, .int .i64 e.flight, .bool e.hasRate, .bool e.hasRtt], .bool b] w fun z w' => z = .returned (.tuple #[]) ∧ w'.heap[g]? = some (.cells #[.int .i64 0, .slice s.ra s.rl.length s.rc, .bool s.hasRtt, .int .i64 s.rtt, .int .i64 e.now, .bool s.full, .int .i64 s.fullRate, .int .i64 s.fullRounds, .int .i64 s.cycle, .int .i64 s.cycleAt, .int .i64 s.til, .int .i64 s.round] 40 (0, 0)) ∧ w.grownBy w' (some g) := by
  have HF := Lib.hid hf
  clear hf
  have hg := blk_lt hS
  have ba := (Below.refl w.heap.size w).alloc (Nat.le_refl _) (.cells #[.int .i64 e.now, .int .i64 e.round, .int .i64 e.rate, .int .i64 e.rtt, .int .i64 e.flight, .bool e.hasRate, .bool e.hasRtt] 46)
  have S1 := Lib.hid ((ba.block _ hg).trans hS)
  have L1 := Lib.hid (hL.belowT ba)
  have E1 := Lib.hid (blk_new w (.cells #[.int .i64 e.now, .int .i64 e.round, .int .i64 e.rate, .int .i64 e.rtt, .int .i64 e.flight, .bool e.hasRate, .bool e.hasRtt] 46))
  have G1 := Lib.hid (gr_below ba (some g))
  have hne : g ≠ w.heap.size := by omega
  have HV := Lib.hid hv
  have HP := Lib.hid hp
  clear hS ba hv hL hp
  go_enter Try.func31, Try.ntmps31
  go_upto_region 1 with fail
  generalize w.alloc (.cells #[.int .i64 e.now, .int .i64 e.round, .int .i64 e.rate, .int .i64 e.rtt, .int .i64 e.flight, .bool e.hasRate, .bool e.hasRtt] 46) = V1 at S1 L1 E1 G1 ⊢
  have e0 := blk_cell E1.out 0
  have e4 := blk_cell E1.out 4
  have c0 := blk_cell S1.out 0
  have c3 := blk_cell S1.out 3
  have c5 := blk_cell S1.out 5
  have c8 := blk_cell S1.out 8
  have c9 := blk_cell S1.out 9
  have c10 := blk_cell S1.out 10
  rw [HP.out] at c0
  rw [HF.out] at c5
  have d1 : decide (s.til ≤ e.now) = true := decide_eq_true h
  have c4 := blk_cell S1.out 4
  have f4 := blk_free S1.out 4
  have f0 := blk_free S1.out 0
  cases b
  all_goals
    go_wp2_with fail
    go_quiet (fail)
    go_wp2
    go_end0
    exact ⟨rfl, blk_set (blk_set (blk_drewN S1.out _) 4 (.int .i64 e.now)) 0 (.int .i64 0), gr_trans (gr_trans (gr_trans G1.out (gr_drewN _ _ _)) (gr_set _ g 4 _)) (gr_set _ g 0 _)⟩
set_option maxRecDepth 100000 in
set_option maxHeartbeats 800000 in
theorem pr_cruise (s : Bs) (e : Be) (g : Nat) (w : World) (hv : SV s) (hL : Sts 2 PC Tr w s.ra s.rl) (hS : w.heap[g]? = some (.cells #[.int .i64 s.phase, .slice s.ra s.rl.length s.rc, .bool s.hasRtt, .int .i64 s.rtt, .int .i64 s.rttAt, .bool s.full, .int .i64 s.fullRate, .int .i64 s.fullRounds, .int .i64 s.cycle, .int .i64 s.cycleAt, .int .i64 s.til, .int .i64 s.round] 40 (0, 0))) (b : Bool) (hp : s.phase = 3) (h : s.til ≤ e.now) (hf : s.full = true) :
    Calls Try.prog 31 #[.pointer (some ⟨g, 0, none⟩), .agg #[.int .i64 e.now, .int .i64 e.round, .int .i64 e.rate, .int .i64 e.rtt, .int .i64 e.flight, .bool e.hasRate, .bool e.hasRtt], .bool b] w fun z w' => z = .returned (.tuple #[]) ∧ w'.heap[g]? = some (.cells #[.int .i64 2, .slice s.ra s.rl.length s.rc, .bool s.hasRtt, .int .i64 s.rtt, .int .i64 e.now, .bool s.full, .int .i64 s.fullRate, .int .i64 s.fullRounds, .int .i64 0, .int .i64 e.now, .int .i64 s.til, .int .i64 s.round] 40 (0, 0)) ∧ w.grownBy w' (some g) := by
  have HF := Lib.hid hf
  clear hf
  have hg := blk_lt hS
  have ba := (Below.refl w.heap.size w).alloc (Nat.le_refl _) (.cells #[.int .i64 e.now, .int .i64 e.round, .int .i64 e.rate, .int .i64 e.rtt, .int .i64 e.flight, .bool e.hasRate, .bool e.hasRtt] 46)
  have S1 := Lib.hid ((ba.block _ hg).trans hS)
  have L1 := Lib.hid (hL.belowT ba)
  have E1 := Lib.hid (blk_new w (.cells #[.int .i64 e.now, .int .i64 e.round, .int .i64 e.rate, .int .i64 e.rtt, .int .i64 e.flight, .bool e.hasRate, .bool e.hasRtt] 46))
  have G1 := Lib.hid (gr_below ba (some g))
  have hne : g ≠ w.heap.size := by omega
  have HV := Lib.hid hv
  have HP := Lib.hid hp
  clear hS ba hv hL hp
  go_enter Try.func31, Try.ntmps31
  go_upto_region 1 with fail
  generalize w.alloc (.cells #[.int .i64 e.now, .int .i64 e.round, .int .i64 e.rate, .int .i64 e.rtt, .int .i64 e.flight, .bool e.hasRate, .bool e.hasRtt] 46) = V1 at S1 L1 E1 G1 ⊢
  have e0 := blk_cell E1.out 0
  have e4 := blk_cell E1.out 4
  have c0 := blk_cell S1.out 0
  have c3 := blk_cell S1.out 3
  have c5 := blk_cell S1.out 5
  have c8 := blk_cell S1.out 8
  have c9 := blk_cell S1.out 9
  have c10 := blk_cell S1.out 10
  rw [HP.out] at c0
  rw [HF.out] at c5
  have d1 : decide (s.til ≤ e.now) = true := decide_eq_true h
  have c4 := blk_cell S1.out 4
  have f4 := blk_free S1.out 4
  have f0 := blk_free S1.out 0
  cases b
  all_goals
    go_wp2_with fail
    go_quiet (fail)
    go_wp2_with fail
    refine (cruise_any { s with phase := 0, rttAt := e.now } e.now g _ (blk_set (blk_set (blk_drewN S1.out _) 4 (.int .i64 e.now)) 0 (.int .i64 0))).mono ?_
    rintro z W2 ⟨rfl, S3, G3⟩
    go_wp2
    go_end0
    exact ⟨rfl, S3, gr_trans (gr_trans (gr_trans (gr_trans G1.out (gr_drewN _ _ _)) (gr_set _ g 4 _)) (gr_set _ g 0 _)) G3⟩
end Go.Proofs.Ytokoogohdfepiaa
