/- Bbr: hearRate of an event without a rate. -/
import Derived.Test.YtokoogohdfepiaaBbZd
namespace Go.Proofs.Ytokoogohdfepiaa
open Go.RowKit

set_option maxRecDepth 100000 in
set_option maxHeartbeats 800000 in
theorem hra_same (s : Bs) (e : Be) (g : Nat) (w : World) (hl : s.rl.length ≤ 10) (hL : Sts 2 PC Tr w s.ra s.rl) (hn : s.ra = none → s.rc = 0) (hS : w.heap[g]? = some (.cells #[.int .i64 s.phase, .slice s.ra s.rl.length s.rc, .bool s.hasRtt, .int .i64 s.rtt, .int .i64 s.rttAt, .bool s.full, .int .i64 s.fullRate, .int .i64 s.fullRounds, .int .i64 s.cycle, .int .i64 s.cycleAt, .int .i64 s.til, .int .i64 s.round] 40 (0, 0))) (h : e.hasRate = false) (hr : ¬ s.round < e.round) :
    Calls Try.prog 28 #[.pointer (some ⟨g, 0, none⟩), .agg #[.int .i64 e.now, .int .i64 e.round, .int .i64 e.rate, .int .i64 e.rtt, .int .i64 e.flight, .bool e.hasRate, .bool e.hasRtt]] w fun z w' => z = .returned (.tuple #[]) ∧ ∃ a' c', w'.heap[g]? = some (.cells #[.int .i64 s.phase, .slice a' s.rl.length c', .bool s.hasRtt, .int .i64 s.rtt, .int .i64 s.rttAt, .bool s.full, .int .i64 s.fullRate, .int .i64 s.fullRounds, .int .i64 s.cycle, .int .i64 s.cycleAt, .int .i64 s.til, .int .i64 e.round] 40 (0, 0)) ∧ OwnR 36 2 PC w.heap.size a' s.rl c' w' ∧ w.grownBy w' (some g) := by
  have hg := blk_lt hS
  have ba := (Below.refl w.heap.size w).alloc (Nat.le_refl _) (.cells #[.int .i64 e.now, .int .i64 e.round, .int .i64 e.rate, .int .i64 e.rtt, .int .i64 e.flight, .bool e.hasRate, .bool e.hasRtt] 46)
  have S1 := Lib.hid ((ba.block _ hg).trans hS)
  have L1 := Lib.hid (hL.belowT ba)
  have E1 := Lib.hid (blk_new w (.cells #[.int .i64 e.now, .int .i64 e.round, .int .i64 e.rate, .int .i64 e.rtt, .int .i64 e.flight, .bool e.hasRate, .bool e.hasRtt] 46))
  have Q1 := Lib.hid ba
  have hne : g ≠ w.heap.size := by omega
  have HN := Lib.hid hn
  have HH := Lib.hid h
  clear hS ba hL hn h
  go_enter Try.func28, Try.ntmps28
  go_upto_region 1 with fail
  generalize w.alloc (.cells #[.int .i64 e.now, .int .i64 e.round, .int .i64 e.rate, .int .i64 e.rtt, .int .i64 e.flight, .bool e.hasRate, .bool e.hasRtt] 46) = V1 at S1 L1 E1 Q1 ⊢
  have e5 := blk_cell E1.out 5
  have c1 := blk_cell S1.out 1
  rw [HH.out] at e5
  go_wp2_with fail
  refine (clone_any s.ra s.rl s.rc _ L1.out HN.out (by omega)).mono ?_
  rintro z V2 ⟨⟨a', c', rfl, O⟩, b⟩
  have hg1 := blk_lt S1.out
  have he1 := blk_lt E1.out
  have S2 := Lib.hid ((b.block _ hg1).trans S1.out)
  have E2 := Lib.hid ((b.block _ he1).trans E1.out)
  have Q2 := Lib.hid (Q1.out.trans (b.mono Q1.out.size))
  have O2 := Lib.hid (O.mono Q1.out.size)
  clear b O S1 E1 Q1 L1 c1 e5
  have f1 := blk_free S2.out 1
  have c1 := blk_cell S2.out 1
  go_wp2_with fail
  have S3 := Lib.hid (blk_set S2.out 1 (.slice a' s.rl.length c'))
  have G3 := Lib.hid (gr_trans (gr_below Q2.out (some g)) (gr_set V2 g 1 (.slice a' s.rl.length c')))
  have E3 := Lib.hid (((gr_set V2 g 1 (.slice a' s.rl.length c')).block _ (blk_lt E2.out) (fun e2 => hne (Option.some.inj e2).symm)).trans E2.out)
  have O3 := Lib.hid (O2.out.grown (gr_set V2 g 1 (.slice a' s.rl.length c')) (fun g' e1 e2 => by have h2 := O2.out.ownB g' (by rw [e1]; rfl); have e3 := Option.some.inj e2; omega))
  clear S2 E2 Q2 O2 f1 c1
  generalize V2.setCell ⟨g, 1, none⟩ (.slice a' s.rl.length c') = V3 at S3 E3 G3 O3 ⊢
  have e1 := blk_cell E3.out 1
  have c11 := blk_cell S3.out 11
  have f11 := blk_free S3.out 11
  go_wp2_with fail
  go_quiet (fail)
  have O4 := Lib.hid (O3.out.grown (gr_drewN V3 nq (some g)) (fun g' e1 e2 => by have h2 := O3.out.ownB g' (by rw [e1]; rfl); have e3 := Option.some.inj e2; omega))
  have O5 := Lib.hid (O4.out.grown (gr_set (V3.drewN nq) g 11 (.int .i64 e.round)) (fun g' e1 e2 => by have h2 := O4.out.ownB g' (by rw [e1]; rfl); have e3 := Option.some.inj e2; omega))
  go_wp2
  (try simp only [Exit.inBlock, Exit.then])
  refine bodyPost_ret (results_none rfl _ _ _) rfl ?_
  exact ⟨rfl, a', c', blk_set (blk_drewN S3.out _) 11 (.int .i64 e.round), O5.out, gr_trans (gr_trans G3.out (gr_drewN _ _ _)) (gr_set _ g 11 _)⟩

set_option maxRecDepth 100000 in
set_option maxHeartbeats 800000 in
theorem hra_full (s : Bs) (e : Be) (g : Nat) (w : World) (hl : s.rl.length ≤ 10) (hL : Sts 2 PC Tr w s.ra s.rl) (hn : s.ra = none → s.rc = 0) (hS : w.heap[g]? = some (.cells #[.int .i64 s.phase, .slice s.ra s.rl.length s.rc, .bool s.hasRtt, .int .i64 s.rtt, .int .i64 s.rttAt, .bool s.full, .int .i64 s.fullRate, .int .i64 s.fullRounds, .int .i64 s.cycle, .int .i64 s.cycleAt, .int .i64 s.til, .int .i64 s.round] 40 (0, 0))) (h : e.hasRate = false) (hr : s.round < e.round) (hf : s.full = true) :
    Calls Try.prog 28 #[.pointer (some ⟨g, 0, none⟩), .agg #[.int .i64 e.now, .int .i64 e.round, .int .i64 e.rate, .int .i64 e.rtt, .int .i64 e.flight, .bool e.hasRate, .bool e.hasRtt]] w fun z w' => z = .returned (.tuple #[]) ∧ ∃ a' c', w'.heap[g]? = some (.cells #[.int .i64 s.phase, .slice a' s.rl.length c', .bool s.hasRtt, .int .i64 s.rtt, .int .i64 s.rttAt, .bool s.full, .int .i64 s.fullRate, .int .i64 s.fullRounds, .int .i64 s.cycle, .int .i64 s.cycleAt, .int .i64 s.til, .int .i64 e.round] 40 (0, 0)) ∧ OwnR 36 2 PC w.heap.size a' s.rl c' w' ∧ w.grownBy w' (some g) := by
  have hg := blk_lt hS
  have ba := (Below.refl w.heap.size w).alloc (Nat.le_refl _) (.cells #[.int .i64 e.now, .int .i64 e.round, .int .i64 e.rate, .int .i64 e.rtt, .int .i64 e.flight, .bool e.hasRate, .bool e.hasRtt] 46)
  have S1 := Lib.hid ((ba.block _ hg).trans hS)
  have L1 := Lib.hid (hL.belowT ba)
  have E1 := Lib.hid (blk_new w (.cells #[.int .i64 e.now, .int .i64 e.round, .int .i64 e.rate, .int .i64 e.rtt, .int .i64 e.flight, .bool e.hasRate, .bool e.hasRtt] 46))
  have Q1 := Lib.hid ba
  have hne : g ≠ w.heap.size := by omega
  have HN := Lib.hid hn
  have HH := Lib.hid h
  have HF := Lib.hid hf
  clear hS ba hL hn h hf
  go_enter Try.func28, Try.ntmps28
  go_upto_region 1 with fail
  generalize w.alloc (.cells #[.int .i64 e.now, .int .i64 e.round, .int .i64 e.rate, .int .i64 e.rtt, .int .i64 e.flight, .bool e.hasRate, .bool e.hasRtt] 46) = V1 at S1 L1 E1 Q1 ⊢
  have e5 := blk_cell E1.out 5
  have c1 := blk_cell S1.out 1
  rw [HH.out] at e5
  go_wp2_with fail
  refine (clone_any s.ra s.rl s.rc _ L1.out HN.out (by omega)).mono ?_
  rintro z V2 ⟨⟨a', c', rfl, O⟩, b⟩
  have hg1 := blk_lt S1.out
  have he1 := blk_lt E1.out
  have S2 := Lib.hid ((b.block _ hg1).trans S1.out)
  have E2 := Lib.hid ((b.block _ he1).trans E1.out)
  have Q2 := Lib.hid (Q1.out.trans (b.mono Q1.out.size))
  have O2 := Lib.hid (O.mono Q1.out.size)
  clear b O S1 E1 Q1 L1 c1 e5
  have f1 := blk_free S2.out 1
  have c1 := blk_cell S2.out 1
  go_wp2_with fail
  have S3 := Lib.hid (blk_set S2.out 1 (.slice a' s.rl.length c'))
  have G3 := Lib.hid (gr_trans (gr_below Q2.out (some g)) (gr_set V2 g 1 (.slice a' s.rl.length c')))
  have E3 := Lib.hid (((gr_set V2 g 1 (.slice a' s.rl.length c')).block _ (blk_lt E2.out) (fun e2 => hne (Option.some.inj e2).symm)).trans E2.out)
  have O3 := Lib.hid (O2.out.grown (gr_set V2 g 1 (.slice a' s.rl.length c')) (fun g' e1 e2 => by have h2 := O2.out.ownB g' (by rw [e1]; rfl); have e3 := Option.some.inj e2; omega))
  clear S2 E2 Q2 O2 f1 c1
  generalize V2.setCell ⟨g, 1, none⟩ (.slice a' s.rl.length c') = V3 at S3 E3 G3 O3 ⊢
  have e1 := blk_cell E3.out 1
  have c11 := blk_cell S3.out 11
  have f11 := blk_free S3.out 11
  have c5 := blk_cell S3.out 5
  rw [HF.out] at c5
  go_wp2_with fail
  go_quiet (fail)
  have O4 := Lib.hid (O3.out.grown (gr_drewN V3 nq (some g)) (fun g' e1 e2 => by have h2 := O3.out.ownB g' (by rw [e1]; rfl); have e3 := Option.some.inj e2; omega))
  have O5 := Lib.hid (O4.out.grown (gr_set (V3.drewN nq) g 11 (.int .i64 e.round)) (fun g' e1 e2 => by have h2 := O4.out.ownB g' (by rw [e1]; rfl); have e3 := Option.some.inj e2; omega))
  go_wp2
  (try simp only [Exit.inBlock, Exit.then])
  refine bodyPost_ret (results_none rfl _ _ _) rfl ?_
  exact ⟨rfl, a', c', blk_set (blk_drewN S3.out _) 11 (.int .i64 e.round), O5.out, gr_trans (gr_trans G3.out (gr_drewN _ _ _)) (gr_set _ g 11 _)⟩
end Go.Proofs.Ytokoogohdfepiaa
