/- Bbr: hearRtt: what a time does. -/
import Derived.Test.YtokoogohdfepiaaBbZ
import Derived.BigQuiet
namespace Go.Proofs.Ytokoogohdfepiaa
open Go.RowKit

structure Be where
  now : Int
  round : Int
  rate : Int
  rtt : Int
  flight : Int
  hasRate : Bool
  hasRtt : Bool
set_option maxRecDepth 100000 in
set_option maxHeartbeats 800000 in
theorem hr_no (s : Bs) (e : Be) (g : Nat) (w : World) (ha : 0 ≤ s.rttAt ∧ s.rttAt ≤ 1099511627776) (hS : w.heap[g]? = some (.cells #[.int .i64 s.phase, .slice s.ra s.rl.length s.rc, .bool s.hasRtt, .int .i64 s.rtt, .int .i64 s.rttAt, .bool s.full, .int .i64 s.fullRate, .int .i64 s.fullRounds, .int .i64 s.cycle, .int .i64 s.cycleAt, .int .i64 s.til, .int .i64 s.round] 40 (0, 0))) (h : e.hasRtt = false) :
    Calls Try.prog 29 #[.pointer (some ⟨g, 0, none⟩), .agg #[.int .i64 e.now, .int .i64 e.round, .int .i64 e.rate, .int .i64 e.rtt, .int .i64 e.flight, .bool e.hasRate, .bool e.hasRtt]] w fun z w' => z = .returned (.bool false) ∧ w'.heap[g]? = some (.cells #[.int .i64 s.phase, .slice s.ra s.rl.length s.rc, .bool s.hasRtt, .int .i64 s.rtt, .int .i64 s.rttAt, .bool s.full, .int .i64 s.fullRate, .int .i64 s.fullRounds, .int .i64 s.cycle, .int .i64 s.cycleAt, .int .i64 s.til, .int .i64 s.round] 40 (0, 0)) ∧ w.grownBy w' (some g) := by
  have hg := blk_lt hS
  have ba := (Below.refl w.heap.size w).alloc (Nat.le_refl _) (.cells #[.int .i64 e.now, .int .i64 e.round, .int .i64 e.rate, .int .i64 e.rtt, .int .i64 e.flight, .bool e.hasRate, .bool e.hasRtt] 46)
  have S1 := Lib.hid ((ba.block _ hg).trans hS)
  have E1 := Lib.hid (blk_new w (.cells #[.int .i64 e.now, .int .i64 e.round, .int .i64 e.rate, .int .i64 e.rtt, .int .i64 e.flight, .bool e.hasRate, .bool e.hasRtt] 46))
  have G1 := Lib.hid (gr_below ba (some g))
  have hne : g ≠ w.heap.size := by omega
  have wa : IntKind.i64.wrap (s.rttAt + 10240) = s.rttAt + 10240 := IntWalk.i64_in _ ⟨by omega, by omega⟩
  have HH := Lib.hid h
  clear hS ba h
  go_enter Try.func29, Try.ntmps29
  go_upto_region 1 with fail
  generalize w.alloc (.cells #[.int .i64 e.now, .int .i64 e.round, .int .i64 e.rate, .int .i64 e.rtt, .int .i64 e.flight, .bool e.hasRate, .bool e.hasRtt] 46) = V1 at S1 E1 G1 ⊢
  have e0 := blk_cell E1.out 0
  have e3 := blk_cell E1.out 3
  have e6 := blk_cell E1.out 6
  have c2 := blk_cell S1.out 2
  have c3 := blk_cell S1.out 3
  have c4 := blk_cell S1.out 4
  rw [HH.out] at e6
  go_wp2
  go_ret
  exact ⟨rfl, S1.out, G1.out⟩
set_option maxRecDepth 100000 in
set_option maxHeartbeats 800000 in
theorem hr_keep (s : Bs) (e : Be) (g : Nat) (w : World) (ha : 0 ≤ s.rttAt ∧ s.rttAt ≤ 1099511627776) (hS : w.heap[g]? = some (.cells #[.int .i64 s.phase, .slice s.ra s.rl.length s.rc, .bool s.hasRtt, .int .i64 s.rtt, .int .i64 s.rttAt, .bool s.full, .int .i64 s.fullRate, .int .i64 s.fullRounds, .int .i64 s.cycle, .int .i64 s.cycleAt, .int .i64 s.til, .int .i64 s.round] 40 (0, 0))) (h : e.hasRtt = true) (h1 : s.hasRtt = true) (h2 : ¬ s.rttAt + 10240 ≤ e.now) (h3 : ¬ e.rtt ≤ s.rtt) :
    Calls Try.prog 29 #[.pointer (some ⟨g, 0, none⟩), .agg #[.int .i64 e.now, .int .i64 e.round, .int .i64 e.rate, .int .i64 e.rtt, .int .i64 e.flight, .bool e.hasRate, .bool e.hasRtt]] w fun z w' => z = .returned (.bool false) ∧ w'.heap[g]? = some (.cells #[.int .i64 s.phase, .slice s.ra s.rl.length s.rc, .bool s.hasRtt, .int .i64 s.rtt, .int .i64 s.rttAt, .bool s.full, .int .i64 s.fullRate, .int .i64 s.fullRounds, .int .i64 s.cycle, .int .i64 s.cycleAt, .int .i64 s.til, .int .i64 s.round] 40 (0, 0)) ∧ w.grownBy w' (some g) := by
  have HH1 := Lib.hid h1
  clear h1
  have hg := blk_lt hS
  have ba := (Below.refl w.heap.size w).alloc (Nat.le_refl _) (.cells #[.int .i64 e.now, .int .i64 e.round, .int .i64 e.rate, .int .i64 e.rtt, .int .i64 e.flight, .bool e.hasRate, .bool e.hasRtt] 46)
  have S1 := Lib.hid ((ba.block _ hg).trans hS)
  have E1 := Lib.hid (blk_new w (.cells #[.int .i64 e.now, .int .i64 e.round, .int .i64 e.rate, .int .i64 e.rtt, .int .i64 e.flight, .bool e.hasRate, .bool e.hasRtt] 46))
  have G1 := Lib.hid (gr_below ba (some g))
  have hne : g ≠ w.heap.size := by omega
  have wa : IntKind.i64.wrap (s.rttAt + 10240) = s.rttAt + 10240 := IntWalk.i64_in _ ⟨by omega, by omega⟩
  have HH := Lib.hid h
  clear hS ba h
  go_enter Try.func29, Try.ntmps29
  go_upto_region 1 with fail
  generalize w.alloc (.cells #[.int .i64 e.now, .int .i64 e.round, .int .i64 e.rate, .int .i64 e.rtt, .int .i64 e.flight, .bool e.hasRate, .bool e.hasRtt] 46) = V1 at S1 E1 G1 ⊢
  have e0 := blk_cell E1.out 0
  have e3 := blk_cell E1.out 3
  have e6 := blk_cell E1.out 6
  have c2 := blk_cell S1.out 2
  have c3 := blk_cell S1.out 3
  have c4 := blk_cell S1.out 4
  rw [HH1.out] at c2
  have d1 : decide (s.rttAt + 10240 ≤ e.now) = false := decide_eq_false h2
  have d2 : decide (e.rtt ≤ s.rtt) = false := decide_eq_false h3
  rw [HH.out] at e6
  go_wp2_with fail
  go_quiet (fail)
  go_wp2_with fail
  go_quiet (fail)
  go_wp2
  go_ret
  exact ⟨rfl, S1.out, gr_trans (gr_trans G1.out (gr_drewN _ _ _)) (gr_drewN _ _ _)⟩
set_option maxRecDepth 100000 in
set_option maxHeartbeats 800000 in
theorem hr_first (s : Bs) (e : Be) (g : Nat) (w : World) (ha : 0 ≤ s.rttAt ∧ s.rttAt ≤ 1099511627776) (hS : w.heap[g]? = some (.cells #[.int .i64 s.phase, .slice s.ra s.rl.length s.rc, .bool s.hasRtt, .int .i64 s.rtt, .int .i64 s.rttAt, .bool s.full, .int .i64 s.fullRate, .int .i64 s.fullRounds, .int .i64 s.cycle, .int .i64 s.cycleAt, .int .i64 s.til, .int .i64 s.round] 40 (0, 0))) (h : e.hasRtt = true) (h1 : s.hasRtt = false) :
    Calls Try.prog 29 #[.pointer (some ⟨g, 0, none⟩), .agg #[.int .i64 e.now, .int .i64 e.round, .int .i64 e.rate, .int .i64 e.rtt, .int .i64 e.flight, .bool e.hasRate, .bool e.hasRtt]] w fun z w' => z = .returned (.bool false) ∧ w'.heap[g]? = some (.cells #[.int .i64 s.phase, .slice s.ra s.rl.length s.rc, .bool true, .int .i64 e.rtt, .int .i64 e.now, .bool s.full, .int .i64 s.fullRate, .int .i64 s.fullRounds, .int .i64 s.cycle, .int .i64 s.cycleAt, .int .i64 s.til, .int .i64 s.round] 40 (0, 0)) ∧ w.grownBy w' (some g) := by
  have HH1 := Lib.hid h1
  clear h1
  have hg := blk_lt hS
  have ba := (Below.refl w.heap.size w).alloc (Nat.le_refl _) (.cells #[.int .i64 e.now, .int .i64 e.round, .int .i64 e.rate, .int .i64 e.rtt, .int .i64 e.flight, .bool e.hasRate, .bool e.hasRtt] 46)
  have S1 := Lib.hid ((ba.block _ hg).trans hS)
  have E1 := Lib.hid (blk_new w (.cells #[.int .i64 e.now, .int .i64 e.round, .int .i64 e.rate, .int .i64 e.rtt, .int .i64 e.flight, .bool e.hasRate, .bool e.hasRtt] 46))
  have G1 := Lib.hid (gr_below ba (some g))
  have hne : g ≠ w.heap.size := by omega
  have wa : IntKind.i64.wrap (s.rttAt + 10240) = s.rttAt + 10240 := IntWalk.i64_in _ ⟨by omega, by omega⟩
  have HH := Lib.hid h
  clear hS ba h
  go_enter Try.func29, Try.ntmps29
  go_upto_region 1 with fail
  generalize w.alloc (.cells #[.int .i64 e.now, .int .i64 e.round, .int .i64 e.rate, .int .i64 e.rtt, .int .i64 e.flight, .bool e.hasRate, .bool e.hasRtt] 46) = V1 at S1 E1 G1 ⊢
  have e0 := blk_cell E1.out 0
  have e3 := blk_cell E1.out 3
  have e6 := blk_cell E1.out 6
  have c2 := blk_cell S1.out 2
  have c3 := blk_cell S1.out 3
  have c4 := blk_cell S1.out 4
  rw [HH1.out] at c2
  rw [HH.out] at e6
  go_wp2_with fail
  go_quiet (fail)
  go_wp2_with fail
  go_quiet (fail)
  have f2 := blk_free S1.out 2
  have f3 := blk_free S1.out 3
  have f4 := blk_free S1.out 4
  go_wp2_with fail
  go_region
  all_goals
    go_wp2
    go_ret
    exact ⟨rfl, blk_set (blk_set (blk_set (blk_drewN S1.out _) 2 (.bool true)) 3 (.int .i64 e.rtt)) 4 (.int .i64 e.now), gr_trans (gr_trans (gr_trans (gr_trans G1.out (gr_drewN V1 _ _)) (gr_set _ g 2 _)) (gr_set _ g 3 _)) (gr_set _ g 4 _)⟩
set_option maxRecDepth 100000 in
set_option maxHeartbeats 800000 in
theorem hr_less (s : Bs) (e : Be) (g : Nat) (w : World) (ha : 0 ≤ s.rttAt ∧ s.rttAt ≤ 1099511627776) (hS : w.heap[g]? = some (.cells #[.int .i64 s.phase, .slice s.ra s.rl.length s.rc, .bool s.hasRtt, .int .i64 s.rtt, .int .i64 s.rttAt, .bool s.full, .int .i64 s.fullRate, .int .i64 s.fullRounds, .int .i64 s.cycle, .int .i64 s.cycleAt, .int .i64 s.til, .int .i64 s.round] 40 (0, 0))) (h : e.hasRtt = true) (h1 : s.hasRtt = true) (h2 : ¬ s.rttAt + 10240 ≤ e.now) (h3 : e.rtt ≤ s.rtt) :
    Calls Try.prog 29 #[.pointer (some ⟨g, 0, none⟩), .agg #[.int .i64 e.now, .int .i64 e.round, .int .i64 e.rate, .int .i64 e.rtt, .int .i64 e.flight, .bool e.hasRate, .bool e.hasRtt]] w fun z w' => z = .returned (.bool false) ∧ w'.heap[g]? = some (.cells #[.int .i64 s.phase, .slice s.ra s.rl.length s.rc, .bool true, .int .i64 e.rtt, .int .i64 e.now, .bool s.full, .int .i64 s.fullRate, .int .i64 s.fullRounds, .int .i64 s.cycle, .int .i64 s.cycleAt, .int .i64 s.til, .int .i64 s.round] 40 (0, 0)) ∧ w.grownBy w' (some g) := by
  have HH1 := Lib.hid h1
  clear h1
  have hg := blk_lt hS
  have ba := (Below.refl w.heap.size w).alloc (Nat.le_refl _) (.cells #[.int .i64 e.now, .int .i64 e.round, .int .i64 e.rate, .int .i64 e.rtt, .int .i64 e.flight, .bool e.hasRate, .bool e.hasRtt] 46)
  have S1 := Lib.hid ((ba.block _ hg).trans hS)
  have E1 := Lib.hid (blk_new w (.cells #[.int .i64 e.now, .int .i64 e.round, .int .i64 e.rate, .int .i64 e.rtt, .int .i64 e.flight, .bool e.hasRate, .bool e.hasRtt] 46))
  have G1 := Lib.hid (gr_below ba (some g))
  have hne : g ≠ w.heap.size := by omega
  have wa : IntKind.i64.wrap (s.rttAt + 10240) = s.rttAt + 10240 := IntWalk.i64_in _ ⟨by omega, by omega⟩
  have HH := Lib.hid h
  clear hS ba h
  go_enter Try.func29, Try.ntmps29
  go_upto_region 1 with fail
  generalize w.alloc (.cells #[.int .i64 e.now, .int .i64 e.round, .int .i64 e.rate, .int .i64 e.rtt, .int .i64 e.flight, .bool e.hasRate, .bool e.hasRtt] 46) = V1 at S1 E1 G1 ⊢
  have e0 := blk_cell E1.out 0
  have e3 := blk_cell E1.out 3
  have e6 := blk_cell E1.out 6
  have c2 := blk_cell S1.out 2
  have c3 := blk_cell S1.out 3
  have c4 := blk_cell S1.out 4
  rw [HH1.out] at c2
  have d1 : decide (s.rttAt + 10240 ≤ e.now) = false := decide_eq_false h2
  have d2 : decide (e.rtt ≤ s.rtt) = true := decide_eq_true h3
  rw [HH.out] at e6
  go_wp2_with fail
  go_quiet (fail)
  go_wp2_with fail
  go_quiet (fail)
  have f2 := blk_free S1.out 2
  have f3 := blk_free S1.out 3
  have f4 := blk_free S1.out 4
  go_wp2_with fail
  go_region
  all_goals
    go_wp2
    go_ret
    exact ⟨rfl, blk_set (blk_set (blk_set (blk_drewN S1.out _) 2 (.bool true)) 3 (.int .i64 e.rtt)) 4 (.int .i64 e.now), gr_trans (gr_trans (gr_trans (gr_trans G1.out (gr_drewN V1 _ _)) (gr_set _ g 2 _)) (gr_set _ g 3 _)) (gr_set _ g 4 _)⟩
set_option maxRecDepth 100000 in
set_option maxHeartbeats 800000 in
theorem hr_stale1 (s : Bs) (e : Be) (g : Nat) (w : World) (ha : 0 ≤ s.rttAt ∧ s.rttAt ≤ 1099511627776) (hS : w.heap[g]? = some (.cells #[.int .i64 s.phase, .slice s.ra s.rl.length s.rc, .bool s.hasRtt, .int .i64 s.rtt, .int .i64 s.rttAt, .bool s.full, .int .i64 s.fullRate, .int .i64 s.fullRounds, .int .i64 s.cycle, .int .i64 s.cycleAt, .int .i64 s.til, .int .i64 s.round] 40 (0, 0))) (h : e.hasRtt = true) (h1 : s.hasRtt = true) (h2 : s.rttAt + 10240 ≤ e.now) (h3 : e.rtt ≤ s.rtt) :
    Calls Try.prog 29 #[.pointer (some ⟨g, 0, none⟩), .agg #[.int .i64 e.now, .int .i64 e.round, .int .i64 e.rate, .int .i64 e.rtt, .int .i64 e.flight, .bool e.hasRate, .bool e.hasRtt]] w fun z w' => z = .returned (.bool true) ∧ w'.heap[g]? = some (.cells #[.int .i64 s.phase, .slice s.ra s.rl.length s.rc, .bool true, .int .i64 e.rtt, .int .i64 e.now, .bool s.full, .int .i64 s.fullRate, .int .i64 s.fullRounds, .int .i64 s.cycle, .int .i64 s.cycleAt, .int .i64 s.til, .int .i64 s.round] 40 (0, 0)) ∧ w.grownBy w' (some g) := by
  have HH1 := Lib.hid h1
  clear h1
  have hg := blk_lt hS
  have ba := (Below.refl w.heap.size w).alloc (Nat.le_refl _) (.cells #[.int .i64 e.now, .int .i64 e.round, .int .i64 e.rate, .int .i64 e.rtt, .int .i64 e.flight, .bool e.hasRate, .bool e.hasRtt] 46)
  have S1 := Lib.hid ((ba.block _ hg).trans hS)
  have E1 := Lib.hid (blk_new w (.cells #[.int .i64 e.now, .int .i64 e.round, .int .i64 e.rate, .int .i64 e.rtt, .int .i64 e.flight, .bool e.hasRate, .bool e.hasRtt] 46))
  have G1 := Lib.hid (gr_below ba (some g))
  have hne : g ≠ w.heap.size := by omega
  have wa : IntKind.i64.wrap (s.rttAt + 10240) = s.rttAt + 10240 := IntWalk.i64_in _ ⟨by omega, by omega⟩
  have HH := Lib.hid h
  clear hS ba h
  go_enter Try.func29, Try.ntmps29
  go_upto_region 1 with fail
  generalize w.alloc (.cells #[.int .i64 e.now, .int .i64 e.round, .int .i64 e.rate, .int .i64 e.rtt, .int .i64 e.flight, .bool e.hasRate, .bool e.hasRtt] 46) = V1 at S1 E1 G1 ⊢
  have e0 := blk_cell E1.out 0
  have e3 := blk_cell E1.out 3
  have e6 := blk_cell E1.out 6
  have c2 := blk_cell S1.out 2
  have c3 := blk_cell S1.out 3
  have c4 := blk_cell S1.out 4
  rw [HH1.out] at c2
  have d1 : decide (s.rttAt + 10240 ≤ e.now) = true := decide_eq_true h2
  have d2 : decide (e.rtt ≤ s.rtt) = true := decide_eq_true h3
  rw [HH.out] at e6
  go_wp2_with fail
  go_quiet (fail)
  go_wp2_with fail
  go_quiet (fail)
  have f2 := blk_free S1.out 2
  have f3 := blk_free S1.out 3
  have f4 := blk_free S1.out 4
  go_wp2_with fail
  go_region
  all_goals
    go_wp2
    go_ret
    exact ⟨rfl, blk_set (blk_set (blk_set (blk_drewN S1.out _) 2 (.bool true)) 3 (.int .i64 e.rtt)) 4 (.int .i64 e.now), gr_trans (gr_trans (gr_trans (gr_trans G1.out (gr_drewN V1 _ _)) (gr_set _ g 2 _)) (gr_set _ g 3 _)) (gr_set _ g 4 _)⟩
set_option maxRecDepth 100000 in
set_option maxHeartbeats 800000 in
theorem hr_stale2 (s : Bs) (e : Be) (g : Nat) (w : World) (ha : 0 ≤ s.rttAt ∧ s.rttAt ≤ 1099511627776) (hS : w.heap[g]? = some (.cells #[.int .i64 s.phase, .slice s.ra s.rl.length s.rc, .bool s.hasRtt, .int .i64 s.rtt, .int .i64 s.rttAt, .bool s.full, .int .i64 s.fullRate, .int .i64 s.fullRounds, .int .i64 s.cycle, .int .i64 s.cycleAt, .int .i64 s.til, .int .i64 s.round] 40 (0, 0))) (h : e.hasRtt = true) (h1 : s.hasRtt = true) (h2 : s.rttAt + 10240 ≤ e.now) (h3 : ¬ e.rtt ≤ s.rtt) :
    Calls Try.prog 29 #[.pointer (some ⟨g, 0, none⟩), .agg #[.int .i64 e.now, .int .i64 e.round, .int .i64 e.rate, .int .i64 e.rtt, .int .i64 e.flight, .bool e.hasRate, .bool e.hasRtt]] w fun z w' => z = .returned (.bool true) ∧ w'.heap[g]? = some (.cells #[.int .i64 s.phase, .slice s.ra s.rl.length s.rc, .bool true, .int .i64 e.rtt, .int .i64 e.now, .bool s.full, .int .i64 s.fullRate, .int .i64 s.fullRounds, .int .i64 s.cycle, .int .i64 s.cycleAt, .int .i64 s.til, .int .i64 s.round] 40 (0, 0)) ∧ w.grownBy w' (some g) := by
  have HH1 := Lib.hid h1
  clear h1
  have hg := blk_lt hS
  have ba := (Below.refl w.heap.size w).alloc (Nat.le_refl _) (.cells #[.int .i64 e.now, .int .i64 e.round, .int .i64 e.rate, .int .i64 e.rtt, .int .i64 e.flight, .bool e.hasRate, .bool e.hasRtt] 46)
  have S1 := Lib.hid ((ba.block _ hg).trans hS)
  have E1 := Lib.hid (blk_new w (.cells #[.int .i64 e.now, .int .i64 e.round, .int .i64 e.rate, .int .i64 e.rtt, .int .i64 e.flight, .bool e.hasRate, .bool e.hasRtt] 46))
  have G1 := Lib.hid (gr_below ba (some g))
  have hne : g ≠ w.heap.size := by omega
  have wa : IntKind.i64.wrap (s.rttAt + 10240) = s.rttAt + 10240 := IntWalk.i64_in _ ⟨by omega, by omega⟩
  have HH := Lib.hid h
  clear hS ba h
  go_enter Try.func29, Try.ntmps29
  go_upto_region 1 with fail
  generalize w.alloc (.cells #[.int .i64 e.now, .int .i64 e.round, .int .i64 e.rate, .int .i64 e.rtt, .int .i64 e.flight, .bool e.hasRate, .bool e.hasRtt] 46) = V1 at S1 E1 G1 ⊢
  have e0 := blk_cell E1.out 0
  have e3 := blk_cell E1.out 3
  have e6 := blk_cell E1.out 6
  have c2 := blk_cell S1.out 2
  have c3 := blk_cell S1.out 3
  have c4 := blk_cell S1.out 4
  rw [HH1.out] at c2
  have d1 : decide (s.rttAt + 10240 ≤ e.now) = true := decide_eq_true h2
  have d2 : decide (e.rtt ≤ s.rtt) = false := decide_eq_false h3
  rw [HH.out] at e6
  go_wp2_with fail
  go_quiet (fail)
  go_wp2_with fail
  go_quiet (fail)
  have f2 := blk_free S1.out 2
  have f3 := blk_free S1.out 3
  have f4 := blk_free S1.out 4
  go_wp2_with fail
  go_region
  all_goals
    go_wp2
    go_ret
    exact ⟨rfl, blk_set (blk_set (blk_set (blk_drewN S1.out _) 2 (.bool true)) 3 (.int .i64 e.rtt)) 4 (.int .i64 e.now), gr_trans (gr_trans (gr_trans (gr_trans G1.out (gr_drewN V1 _ _)) (gr_set _ g 2 _)) (gr_set _ g 3 _)) (gr_set _ g 4 _)⟩
end Go.Proofs.Ytokoogohdfepiaa
