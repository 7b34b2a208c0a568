/- Bbr: check of a state that may be. -/
import Derived.Test.YtokoogohdfepiaaBbY
namespace Go.Proofs.Ytokoogohdfepiaa
open Go.RowKit

set_option maxRecDepth 100000 in
set_option maxHeartbeats 800000 in
theorem check_ok (s : Bs) (m : Int) (w : World) (hv : SV s) (h : Sts 2 PC Tr w s.ra s.rl) (hm : 1 ≤ m ∧ m ≤ 65535) :
    Calls Try.prog 27 #[.agg #[.int .i64 s.phase, .slice s.ra s.rl.length s.rc, .bool s.hasRtt, .int .i64 s.rtt, .int .i64 s.rttAt, .bool s.full, .int .i64 s.fullRate, .int .i64 s.fullRounds, .int .i64 s.cycle, .int .i64 s.cycleAt, .int .i64 s.til, .int .i64 s.round], .int .i64 m] w fun e w' => e = .returned (.int .i64 0) ∧ Below w.heap.size w w' := by
  have HV := Lib.hid hv
  have HM : Hid (InR 1 65535 [m]) := Lib.hid (by rw [inR1]; exact hm)
  have ba := (Below.refl w.heap.size w).alloc (Nat.le_refl _) (.cells #[.int .i64 s.phase, .slice s.ra s.rl.length s.rc, .bool s.hasRtt, .int .i64 s.rtt, .int .i64 s.rttAt, .bool s.full, .int .i64 s.fullRate, .int .i64 s.fullRounds, .int .i64 s.cycle, .int .i64 s.cycleAt, .int .i64 s.til, .int .i64 s.round] 40)
  have S1 := Lib.hid (blk_new w (.cells #[.int .i64 s.phase, .slice s.ra s.rl.length s.rc, .bool s.hasRtt, .int .i64 s.rtt, .int .i64 s.rttAt, .bool s.full, .int .i64 s.fullRate, .int .i64 s.fullRounds, .int .i64 s.cycle, .int .i64 s.cycleAt, .int .i64 s.til, .int .i64 s.round] 40))
  have L1 := Lib.hid (h.belowT ba)
  have Q1 := Lib.hid ba
  clear h ba hv hm
  go_enter Try.func27, Try.ntmps27
  go_upto_region 1 with fail
  generalize w.alloc (.cells #[.int .i64 s.phase, .slice s.ra s.rl.length s.rc, .bool s.hasRtt, .int .i64 s.rtt, .int .i64 s.rttAt, .bool s.full, .int .i64 s.fullRate, .int .i64 s.fullRounds, .int .i64 s.cycle, .int .i64 s.cycleAt, .int .i64 s.til, .int .i64 s.round] 40) = V1 at S1 L1 Q1 ⊢
  have c0 := blk_cell S1.out 0
  have c1 := blk_cell S1.out 1
  have c2 := blk_cell S1.out 2
  have c3 := blk_cell S1.out 3
  have c4 := blk_cell S1.out 4
  have c5 := blk_cell S1.out 5
  have c6 := blk_cell S1.out 6
  have c7 := blk_cell S1.out 7
  have c8 := blk_cell S1.out 8
  have c9 := blk_cell S1.out 9
  have c10 := blk_cell S1.out 10
  have c11 := blk_cell S1.out 11
  go_wp2_with fail
  refine (chk_ok s _ HV.out L1.out).mono ?_
  rintro e V2 ⟨rfl, b⟩
  have Q2 := Lib.hid (Q1.out.trans (b.mono Q1.out.size))
  clear b
  go_wp2_with fail
  refine (wn_yes 1 65535 [m] _ _ _ _ _ _ rfl rfl (by first | simp | rfl) (by simp) HM.out).mono ?_
  rintro e w' ⟨rfl, rfl⟩
  go_wp2
  go_ret
  exact ⟨rfl, Q2.out.alloc Q2.out.size _⟩
set_option maxRecDepth 100000 in
set_option maxHeartbeats 800000 in
theorem check_no (s : Bs) (m : Int) (w : World) (hv : SV s) (h : Sts 2 PC Tr w s.ra s.rl) (hm : ¬ (1 ≤ m ∧ m ≤ 65535)) :
    Calls Try.prog 27 #[.agg #[.int .i64 s.phase, .slice s.ra s.rl.length s.rc, .bool s.hasRtt, .int .i64 s.rtt, .int .i64 s.rttAt, .bool s.full, .int .i64 s.fullRate, .int .i64 s.fullRounds, .int .i64 s.cycle, .int .i64 s.cycleAt, .int .i64 s.til, .int .i64 s.round], .int .i64 m] w fun e w' => e = .returned (.int .i64 4) ∧ Below w.heap.size w w' := by
  have HV := Lib.hid hv
  have HM : Hid (¬ InR 1 65535 [m]) := Lib.hid (by rw [inR1]; exact hm)
  have ba := (Below.refl w.heap.size w).alloc (Nat.le_refl _) (.cells #[.int .i64 s.phase, .slice s.ra s.rl.length s.rc, .bool s.hasRtt, .int .i64 s.rtt, .int .i64 s.rttAt, .bool s.full, .int .i64 s.fullRate, .int .i64 s.fullRounds, .int .i64 s.cycle, .int .i64 s.cycleAt, .int .i64 s.til, .int .i64 s.round] 40)
  have S1 := Lib.hid (blk_new w (.cells #[.int .i64 s.phase, .slice s.ra s.rl.length s.rc, .bool s.hasRtt, .int .i64 s.rtt, .int .i64 s.rttAt, .bool s.full, .int .i64 s.fullRate, .int .i64 s.fullRounds, .int .i64 s.cycle, .int .i64 s.cycleAt, .int .i64 s.til, .int .i64 s.round] 40))
  have L1 := Lib.hid (h.belowT ba)
  have Q1 := Lib.hid ba
  clear h ba hv hm
  go_enter Try.func27, Try.ntmps27
  go_upto_region 1 with fail
  generalize w.alloc (.cells #[.int .i64 s.phase, .slice s.ra s.rl.length s.rc, .bool s.hasRtt, .int .i64 s.rtt, .int .i64 s.rttAt, .bool s.full, .int .i64 s.fullRate, .int .i64 s.fullRounds, .int .i64 s.cycle, .int .i64 s.cycleAt, .int .i64 s.til, .int .i64 s.round] 40) = V1 at S1 L1 Q1 ⊢
  have c0 := blk_cell S1.out 0
  have c1 := blk_cell S1.out 1
  have c2 := blk_cell S1.out 2
  have c3 := blk_cell S1.out 3
  have c4 := blk_cell S1.out 4
  have c5 := blk_cell S1.out 5
  have c6 := blk_cell S1.out 6
  have c7 := blk_cell S1.out 7
  have c8 := blk_cell S1.out 8
  have c9 := blk_cell S1.out 9
  have c10 := blk_cell S1.out 10
  have c11 := blk_cell S1.out 11
  go_wp2_with fail
  refine (chk_ok s _ HV.out L1.out).mono ?_
  rintro e V2 ⟨rfl, b⟩
  have Q2 := Lib.hid (Q1.out.trans (b.mono Q1.out.size))
  clear b
  go_wp2_with fail
  refine (wn_no 1 65535 [m] _ _ _ _ _ _ rfl rfl (by first | simp | rfl) (by simp) HM.out).mono ?_
  rintro e w' ⟨rfl, rfl⟩
  go_wp2
  go_ret
  exact ⟨rfl, Q2.out.alloc Q2.out.size _⟩
end Go.Proofs.Ytokoogohdfepiaa
