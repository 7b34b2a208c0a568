/- Bbr: step: the phases. -/
import Derived.Test.YtokoogohdfepiaaBbZa
import Derived.BigQuiet
import Derived.BigRegion
namespace Go.Proofs.Ytokoogohdfepiaa
open Go.RowKit

theorem sts_grown {w w' : World} {g : Nat} {a : Option Addr} {l : List Pair23} (h : Sts 2 PC Tr w a l) (hg : w.grownBy w' (some g)) (hd : ∀ b o, a = some ⟨b, o, none⟩ → b ≠ g) : Sts 2 PC Tr w' a l := by
  refine ⟨fun _ _ => trivial, ?_⟩
  rcases h.2 with h1 | ⟨b, off, e, hb, hc⟩
  · exact .inl h1
  · refine .inr ⟨b, off, e, Nat.lt_of_lt_of_le hb hg.size, fun i r hi j v hj => ?_⟩
    have := hc i r hi j v hj
    rw [← this]
    simp only [World.cell?, hg.block b hb (fun e2 => hd b off e (Option.some.inj e2))]
theorem SV.to {s : Bs} (h : SV s) {p : Int} (hp : 0 ≤ p ∧ p ≤ 3) : SV { s with phase := p } := ⟨hp, h.cycle, h.rates, h.rtt, h.rttAt, h.fullRate, h.fullRounds, h.cycleAt, h.til, h.round⟩

set_option maxRecDepth 100000 in
set_option maxHeartbeats 800000 in
theorem st_rest (s : Bs) (e : Be) (g : Nat) (w : World) (hv : SV s) (hL : Sts 2 PC Tr w s.ra s.rl) (hS : w.heap[g]? = some (.cells #[.int .i64 s.phase, .slice s.ra s.rl.length s.rc, .bool s.hasRtt, .int .i64 s.rtt, .int .i64 s.rttAt, .bool s.full, .int .i64 s.fullRate, .int .i64 s.fullRounds, .int .i64 s.cycle, .int .i64 s.cycleAt, .int .i64 s.til, .int .i64 s.round] 40 (0, 0))) (hp : s.phase = 3) :
    Calls Try.prog 30 #[.pointer (some ⟨g, 0, none⟩), .agg #[.int .i64 e.now, .int .i64 e.round, .int .i64 e.rate, .int .i64 e.rtt, .int .i64 e.flight, .bool e.hasRate, .bool e.hasRtt]] w fun z w' => z = .returned (.tuple #[]) ∧ w'.heap[g]? = some (.cells #[.int .i64 s.phase, .slice s.ra s.rl.length s.rc, .bool s.hasRtt, .int .i64 s.rtt, .int .i64 s.rttAt, .bool s.full, .int .i64 s.fullRate, .int .i64 s.fullRounds, .int .i64 s.cycle, .int .i64 s.cycleAt, .int .i64 s.til, .int .i64 s.round] 40 (0, 0)) ∧ w.grownBy w' (some g) := by
  have hg := blk_lt hS
  have ba := (Below.refl w.heap.size w).alloc (Nat.le_refl _) (.cells #[.int .i64 e.now, .int .i64 e.round, .int .i64 e.rate, .int .i64 e.rtt, .int .i64 e.flight, .bool e.hasRate, .bool e.hasRtt] 46)
  have S1 := Lib.hid ((ba.block _ hg).trans hS)
  have L1 := Lib.hid (hL.belowT ba)
  have E1 := Lib.hid (blk_new w (.cells #[.int .i64 e.now, .int .i64 e.round, .int .i64 e.rate, .int .i64 e.rtt, .int .i64 e.flight, .bool e.hasRate, .bool e.hasRtt] 46))
  have G1 := Lib.hid (gr_below ba (some g))
  have hne : g ≠ w.heap.size := by omega
  have HV := Lib.hid hv
  have HP := Lib.hid hp
  clear hS ba hv hL hp
  go_enter Try.func30, Try.ntmps30
  go_upto_region 1 with fail
  generalize w.alloc (.cells #[.int .i64 e.now, .int .i64 e.round, .int .i64 e.rate, .int .i64 e.rtt, .int .i64 e.flight, .bool e.hasRate, .bool e.hasRtt] 46) = V1 at S1 L1 E1 G1 ⊢
  have e0 := blk_cell E1.out 0
  have e4 := blk_cell E1.out 4
  have c0 := blk_cell S1.out 0
  have c3 := blk_cell S1.out 3
  have c5 := blk_cell S1.out 5
  have c8 := blk_cell S1.out 8
  have c9 := blk_cell S1.out 9
  rw [HP.out] at c0
  go_wp2_with fail
  go_quiet (fail)
  go_wp2_with fail
  go_quiet (fail)
  go_wp2
  go_end0
  exact ⟨rfl, S1.out, gr_trans (gr_trans G1.out (gr_drewN _ _ _)) (gr_drewN _ _ _)⟩
set_option maxRecDepth 100000 in
set_option maxHeartbeats 800000 in
theorem st_start (s : Bs) (e : Be) (g : Nat) (w : World) (hv : SV s) (hL : Sts 2 PC Tr w s.ra s.rl) (hS : w.heap[g]? = some (.cells #[.int .i64 s.phase, .slice s.ra s.rl.length s.rc, .bool s.hasRtt, .int .i64 s.rtt, .int .i64 s.rttAt, .bool s.full, .int .i64 s.fullRate, .int .i64 s.fullRounds, .int .i64 s.cycle, .int .i64 s.cycleAt, .int .i64 s.til, .int .i64 s.round] 40 (0, 0))) (hp : s.phase = 0) (hf : s.full = false) :
    Calls Try.prog 30 #[.pointer (some ⟨g, 0, none⟩), .agg #[.int .i64 e.now, .int .i64 e.round, .int .i64 e.rate, .int .i64 e.rtt, .int .i64 e.flight, .bool e.hasRate, .bool e.hasRtt]] w fun z w' => z = .returned (.tuple #[]) ∧ w'.heap[g]? = some (.cells #[.int .i64 s.phase, .slice s.ra s.rl.length s.rc, .bool s.hasRtt, .int .i64 s.rtt, .int .i64 s.rttAt, .bool s.full, .int .i64 s.fullRate, .int .i64 s.fullRounds, .int .i64 s.cycle, .int .i64 s.cycleAt, .int .i64 s.til, .int .i64 s.round] 40 (0, 0)) ∧ w.grownBy w' (some g) := by
  have HF := Lib.hid hf
  clear hf
  have hg := blk_lt hS
  have ba := (Below.refl w.heap.size w).alloc (Nat.le_refl _) (.cells #[.int .i64 e.now, .int .i64 e.round, .int .i64 e.rate, .int .i64 e.rtt, .int .i64 e.flight, .bool e.hasRate, .bool e.hasRtt] 46)
  have S1 := Lib.hid ((ba.block _ hg).trans hS)
  have L1 := Lib.hid (hL.belowT ba)
  have E1 := Lib.hid (blk_new w (.cells #[.int .i64 e.now, .int .i64 e.round, .int .i64 e.rate, .int .i64 e.rtt, .int .i64 e.flight, .bool e.hasRate, .bool e.hasRtt] 46))
  have G1 := Lib.hid (gr_below ba (some g))
  have hne : g ≠ w.heap.size := by omega
  have HV := Lib.hid hv
  have HP := Lib.hid hp
  clear hS ba hv hL hp
  go_enter Try.func30, Try.ntmps30
  go_upto_region 1 with fail
  generalize w.alloc (.cells #[.int .i64 e.now, .int .i64 e.round, .int .i64 e.rate, .int .i64 e.rtt, .int .i64 e.flight, .bool e.hasRate, .bool e.hasRtt] 46) = V1 at S1 L1 E1 G1 ⊢
  have e0 := blk_cell E1.out 0
  have e4 := blk_cell E1.out 4
  have c0 := blk_cell S1.out 0
  have c3 := blk_cell S1.out 3
  have c5 := blk_cell S1.out 5
  have c8 := blk_cell S1.out 8
  have c9 := blk_cell S1.out 9
  rw [HP.out] at c0
  rw [HF.out] at c5
  go_wp2_with fail
  go_quiet (fail)
  go_wp2_with fail
  go_quiet (fail)
  go_wp2
  go_end0
  exact ⟨rfl, S1.out, gr_trans (gr_trans G1.out (gr_drewN _ _ _)) (gr_drewN _ _ _)⟩
set_option maxRecDepth 100000 in
set_option maxHeartbeats 800000 in
theorem st_drain (s : Bs) (e : Be) (g : Nat) (w : World) (hv : SV s) (hL : Sts 2 PC Tr w s.ra s.rl) (hS : w.heap[g]? = some (.cells #[.int .i64 s.phase, .slice s.ra s.rl.length s.rc, .bool s.hasRtt, .int .i64 s.rtt, .int .i64 s.rttAt, .bool s.full, .int .i64 s.fullRate, .int .i64 s.fullRounds, .int .i64 s.cycle, .int .i64 s.cycleAt, .int .i64 s.til, .int .i64 s.round] 40 (0, 0))) (hp : s.phase = 1) (h : ¬ e.flight ≤ gE s.rl * s.rtt / 1024) :
    Calls Try.prog 30 #[.pointer (some ⟨g, 0, none⟩), .agg #[.int .i64 e.now, .int .i64 e.round, .int .i64 e.rate, .int .i64 e.rtt, .int .i64 e.flight, .bool e.hasRate, .bool e.hasRtt]] w fun z w' => z = .returned (.tuple #[]) ∧ w'.heap[g]? = some (.cells #[.int .i64 s.phase, .slice s.ra s.rl.length s.rc, .bool s.hasRtt, .int .i64 s.rtt, .int .i64 s.rttAt, .bool s.full, .int .i64 s.fullRate, .int .i64 s.fullRounds, .int .i64 s.cycle, .int .i64 s.cycleAt, .int .i64 s.til, .int .i64 s.round] 40 (0, 0)) ∧ w.grownBy w' (some g) := by
  have hg := blk_lt hS
  have ba := (Below.refl w.heap.size w).alloc (Nat.le_refl _) (.cells #[.int .i64 e.now, .int .i64 e.round, .int .i64 e.rate, .int .i64 e.rtt, .int .i64 e.flight, .bool e.hasRate, .bool e.hasRtt] 46)
  have S1 := Lib.hid ((ba.block _ hg).trans hS)
  have L1 := Lib.hid (hL.belowT ba)
  have E1 := Lib.hid (blk_new w (.cells #[.int .i64 e.now, .int .i64 e.round, .int .i64 e.rate, .int .i64 e.rtt, .int .i64 e.flight, .bool e.hasRate, .bool e.hasRtt] 46))
  have G1 := Lib.hid (gr_below ba (some g))
  have hne : g ≠ w.heap.size := by omega
  have HV := Lib.hid hv
  have HP := Lib.hid hp
  clear hS ba hv hL hp
  go_enter Try.func30, Try.ntmps30
  go_upto_region 1 with fail
  generalize w.alloc (.cells #[.int .i64 e.now, .int .i64 e.round, .int .i64 e.rate, .int .i64 e.rtt, .int .i64 e.flight, .bool e.hasRate, .bool e.hasRtt] 46) = V1 at S1 L1 E1 G1 ⊢
  have e0 := blk_cell E1.out 0
  have e4 := blk_cell E1.out 4
  have c0 := blk_cell S1.out 0
  have c3 := blk_cell S1.out 3
  have c5 := blk_cell S1.out 5
  have c8 := blk_cell S1.out 8
  have c9 := blk_cell S1.out 9
  rw [HP.out] at c0
  have d1 : decide (e.flight ≤ gE s.rl * s.rtt / 1024) = false := decide_eq_false h
  go_wp2_with fail
  go_quiet (fail)
  have G2 := Lib.hid (gr_trans G1.out (gr_drewN V1 nq (some g)))
  have S2 := Lib.hid (blk_drewN S1.out nq)
  have E2 := Lib.hid (blk_drewN E1.out nq)
  have L2 := Lib.hid (show Sts 2 PC Tr (V1.drewN nq) s.ra s.rl from L1.out)
  clear c0 c3 c5 c8 c9 e0 e4 S1 E1 L1 G1
  generalize V1.drewN nq = V2 at S2 E2 L2 G2 ⊢
  have c0 := blk_cell S2.out 0
  have e0 := blk_cell E2.out 0
  have e4 := blk_cell E2.out 4
  rw [HP.out] at c0
  go_wp2_with fail
  go_quiet (first | (go_at_call 41; exact Calls.quiet_of (onTheWay_any s g _ HV.out S2.out L2.out)))
  go_wp2
  go_end0
  exact ⟨rfl, S2.out, gr_trans G2.out (gr_drewN _ _ _)⟩
set_option maxRecDepth 100000 in
set_option maxHeartbeats 800000 in
theorem st_drain_go (s : Bs) (e : Be) (g : Nat) (w : World) (hv : SV s) (hL : Sts 2 PC Tr w s.ra s.rl) (hS : w.heap[g]? = some (.cells #[.int .i64 s.phase, .slice s.ra s.rl.length s.rc, .bool s.hasRtt, .int .i64 s.rtt, .int .i64 s.rttAt, .bool s.full, .int .i64 s.fullRate, .int .i64 s.fullRounds, .int .i64 s.cycle, .int .i64 s.cycleAt, .int .i64 s.til, .int .i64 s.round] 40 (0, 0))) (hp : s.phase = 1) (h : e.flight ≤ gE s.rl * s.rtt / 1024) :
    Calls Try.prog 30 #[.pointer (some ⟨g, 0, none⟩), .agg #[.int .i64 e.now, .int .i64 e.round, .int .i64 e.rate, .int .i64 e.rtt, .int .i64 e.flight, .bool e.hasRate, .bool e.hasRtt]] w fun z w' => z = .returned (.tuple #[]) ∧ w'.heap[g]? = some (.cells #[.int .i64 2, .slice s.ra s.rl.length s.rc, .bool s.hasRtt, .int .i64 s.rtt, .int .i64 s.rttAt, .bool s.full, .int .i64 s.fullRate, .int .i64 s.fullRounds, .int .i64 0, .int .i64 e.now, .int .i64 s.til, .int .i64 s.round] 40 (0, 0)) ∧ w.grownBy w' (some g) := by
  have hg := blk_lt hS
  have ba := (Below.refl w.heap.size w).alloc (Nat.le_refl _) (.cells #[.int .i64 e.now, .int .i64 e.round, .int .i64 e.rate, .int .i64 e.rtt, .int .i64 e.flight, .bool e.hasRate, .bool e.hasRtt] 46)
  have S1 := Lib.hid ((ba.block _ hg).trans hS)
  have L1 := Lib.hid (hL.belowT ba)
  have E1 := Lib.hid (blk_new w (.cells #[.int .i64 e.now, .int .i64 e.round, .int .i64 e.rate, .int .i64 e.rtt, .int .i64 e.flight, .bool e.hasRate, .bool e.hasRtt] 46))
  have G1 := Lib.hid (gr_below ba (some g))
  have hne : g ≠ w.heap.size := by omega
  have HV := Lib.hid hv
  have HP := Lib.hid hp
  clear hS ba hv hL hp
  go_enter Try.func30, Try.ntmps30
  go_upto_region 1 with fail
  generalize w.alloc (.cells #[.int .i64 e.now, .int .i64 e.round, .int .i64 e.rate, .int .i64 e.rtt, .int .i64 e.flight, .bool e.hasRate, .bool e.hasRtt] 46) = V1 at S1 L1 E1 G1 ⊢
  have e0 := blk_cell E1.out 0
  have e4 := blk_cell E1.out 4
  have c0 := blk_cell S1.out 0
  have c3 := blk_cell S1.out 3
  have c5 := blk_cell S1.out 5
  have c8 := blk_cell S1.out 8
  have c9 := blk_cell S1.out 9
  rw [HP.out] at c0
  have d1 : decide (e.flight ≤ gE s.rl * s.rtt / 1024) = true := decide_eq_true h
  go_wp2_with fail
  go_quiet (fail)
  have G2 := Lib.hid (gr_trans G1.out (gr_drewN V1 nq (some g)))
  have S2 := Lib.hid (blk_drewN S1.out nq)
  have E2 := Lib.hid (blk_drewN E1.out nq)
  have L2 := Lib.hid (show Sts 2 PC Tr (V1.drewN nq) s.ra s.rl from L1.out)
  clear c0 c3 c5 c8 c9 e0 e4 S1 E1 L1 G1
  generalize V1.drewN nq = V2 at S2 E2 L2 G2 ⊢
  have c0 := blk_cell S2.out 0
  have e0 := blk_cell E2.out 0
  have e4 := blk_cell E2.out 4
  rw [HP.out] at c0
  go_wp2_with fail
  go_quiet (first | (go_at_call 41; exact Calls.quiet_of (onTheWay_any s g _ HV.out S2.out L2.out)))
  go_wp2_with fail
  refine (cruise_any s e.now g _ (blk_drewN S2.out _)).mono ?_
  rintro z W2 ⟨rfl, S3, G3⟩
  go_wp2
  go_end0
  exact ⟨rfl, S3, gr_trans (gr_trans G2.out (gr_drewN _ _ _)) G3⟩
set_option maxRecDepth 100000 in
set_option maxHeartbeats 800000 in
theorem st_full (s : Bs) (e : Be) (g : Nat) (w : World) (hv : SV s) (hL : Sts 2 PC Tr w s.ra s.rl) (hS : w.heap[g]? = some (.cells #[.int .i64 s.phase, .slice s.ra s.rl.length s.rc, .bool s.hasRtt, .int .i64 s.rtt, .int .i64 s.rttAt, .bool s.full, .int .i64 s.fullRate, .int .i64 s.fullRounds, .int .i64 s.cycle, .int .i64 s.cycleAt, .int .i64 s.til, .int .i64 s.round] 40 (0, 0))) (hp : s.phase = 0) (hf : s.full = true) (hd : ∀ b o, s.ra = some ⟨b, o, none⟩ → b ≠ g) (h : ¬ e.flight ≤ gE s.rl * s.rtt / 1024) :
    Calls Try.prog 30 #[.pointer (some ⟨g, 0, none⟩), .agg #[.int .i64 e.now, .int .i64 e.round, .int .i64 e.rate, .int .i64 e.rtt, .int .i64 e.flight, .bool e.hasRate, .bool e.hasRtt]] w fun z w' => z = .returned (.tuple #[]) ∧ w'.heap[g]? = some (.cells #[.int .i64 1, .slice s.ra s.rl.length s.rc, .bool s.hasRtt, .int .i64 s.rtt, .int .i64 s.rttAt, .bool s.full, .int .i64 s.fullRate, .int .i64 s.fullRounds, .int .i64 s.cycle, .int .i64 s.cycleAt, .int .i64 s.til, .int .i64 s.round] 40 (0, 0)) ∧ w.grownBy w' (some g) := by
  have HF := Lib.hid hf
  have HD := Lib.hid hd
  clear hf hd
  have hg := blk_lt hS
  have ba := (Below.refl w.heap.size w).alloc (Nat.le_refl _) (.cells #[.int .i64 e.now, .int .i64 e.round, .int .i64 e.rate, .int .i64 e.rtt, .int .i64 e.flight, .bool e.hasRate, .bool e.hasRtt] 46)
  have S1 := Lib.hid ((ba.block _ hg).trans hS)
  have L1 := Lib.hid (hL.belowT ba)
  have E1 := Lib.hid (blk_new w (.cells #[.int .i64 e.now, .int .i64 e.round, .int .i64 e.rate, .int .i64 e.rtt, .int .i64 e.flight, .bool e.hasRate, .bool e.hasRtt] 46))
  have G1 := Lib.hid (gr_below ba (some g))
  have hne : g ≠ w.heap.size := by omega
  have HV := Lib.hid hv
  have HP := Lib.hid hp
  clear hS ba hv hL hp
  go_enter Try.func30, Try.ntmps30
  go_upto_region 1 with fail
  generalize w.alloc (.cells #[.int .i64 e.now, .int .i64 e.round, .int .i64 e.rate, .int .i64 e.rtt, .int .i64 e.flight, .bool e.hasRate, .bool e.hasRtt] 46) = V1 at S1 L1 E1 G1 ⊢
  have e0 := blk_cell E1.out 0
  have e4 := blk_cell E1.out 4
  have c0 := blk_cell S1.out 0
  have c3 := blk_cell S1.out 3
  have c5 := blk_cell S1.out 5
  have c8 := blk_cell S1.out 8
  have c9 := blk_cell S1.out 9
  rw [HP.out] at c0
  have d1 : decide (e.flight ≤ gE s.rl * s.rtt / 1024) = false := decide_eq_false h
  rw [HF.out] at c5
  have f0 := blk_free S1.out 0
  go_wp2_with fail
  have S2 := Lib.hid (blk_set S1.out 0 (.int .i64 1))
  have G2 := Lib.hid (gr_trans G1.out (gr_set V1 g 0 (.int .i64 1)))
  have E2 := Lib.hid (((gr_set V1 g 0 (.int .i64 1)).block _ (blk_lt E1.out) (fun e2 => hne (Option.some.inj e2).symm)).trans E1.out)
  have L2 := Lib.hid (sts_grown L1.out (gr_set V1 g 0 (.int .i64 1)) HD.out)
  clear c0 c3 c5 c8 c9 e0 e4 f0 S1 E1 L1 G1
  generalize V1.setCell ⟨g, 0, none⟩ (.int .i64 1) = V2 at S2 E2 L2 G2 ⊢
  simp only [List.setIfInBounds_toArray, List.set_cons_zero] at S2
  have c0 := blk_cell S2.out 0
  have e0 := blk_cell E2.out 0
  have e4 := blk_cell E2.out 4
  go_quiet (first | (go_at_call 41; exact Calls.quiet_of (onTheWay_any { s with phase := 1 } g _ (HV.out.to (by decide)) S2.out L2.out)))
  go_wp2
  go_end0
  exact ⟨rfl, S2.out, gr_trans G2.out (gr_drewN _ _ _)⟩
set_option maxRecDepth 100000 in
set_option maxHeartbeats 800000 in
theorem st_full_go (s : Bs) (e : Be) (g : Nat) (w : World) (hv : SV s) (hL : Sts 2 PC Tr w s.ra s.rl) (hS : w.heap[g]? = some (.cells #[.int .i64 s.phase, .slice s.ra s.rl.length s.rc, .bool s.hasRtt, .int .i64 s.rtt, .int .i64 s.rttAt, .bool s.full, .int .i64 s.fullRate, .int .i64 s.fullRounds, .int .i64 s.cycle, .int .i64 s.cycleAt, .int .i64 s.til, .int .i64 s.round] 40 (0, 0))) (hp : s.phase = 0) (hf : s.full = true) (hd : ∀ b o, s.ra = some ⟨b, o, none⟩ → b ≠ g) (h : e.flight ≤ gE s.rl * s.rtt / 1024) :
    Calls Try.prog 30 #[.pointer (some ⟨g, 0, none⟩), .agg #[.int .i64 e.now, .int .i64 e.round, .int .i64 e.rate, .int .i64 e.rtt, .int .i64 e.flight, .bool e.hasRate, .bool e.hasRtt]] w fun z w' => z = .returned (.tuple #[]) ∧ w'.heap[g]? = some (.cells #[.int .i64 2, .slice s.ra s.rl.length s.rc, .bool s.hasRtt, .int .i64 s.rtt, .int .i64 s.rttAt, .bool s.full, .int .i64 s.fullRate, .int .i64 s.fullRounds, .int .i64 0, .int .i64 e.now, .int .i64 s.til, .int .i64 s.round] 40 (0, 0)) ∧ w.grownBy w' (some g) := by
  have HF := Lib.hid hf
  have HD := Lib.hid hd
  clear hf hd
  have hg := blk_lt hS
  have ba := (Below.refl w.heap.size w).alloc (Nat.le_refl _) (.cells #[.int .i64 e.now, .int .i64 e.round, .int .i64 e.rate, .int .i64 e.rtt, .int .i64 e.flight, .bool e.hasRate, .bool e.hasRtt] 46)
  have S1 := Lib.hid ((ba.block _ hg).trans hS)
  have L1 := Lib.hid (hL.belowT ba)
  have E1 := Lib.hid (blk_new w (.cells #[.int .i64 e.now, .int .i64 e.round, .int .i64 e.rate, .int .i64 e.rtt, .int .i64 e.flight, .bool e.hasRate, .bool e.hasRtt] 46))
  have G1 := Lib.hid (gr_below ba (some g))
  have hne : g ≠ w.heap.size := by omega
  have HV := Lib.hid hv
  have HP := Lib.hid hp
  clear hS ba hv hL hp
  go_enter Try.func30, Try.ntmps30
  go_upto_region 1 with fail
  generalize w.alloc (.cells #[.int .i64 e.now, .int .i64 e.round, .int .i64 e.rate, .int .i64 e.rtt, .int .i64 e.flight, .bool e.hasRate, .bool e.hasRtt] 46) = V1 at S1 L1 E1 G1 ⊢
  have e0 := blk_cell E1.out 0
  have e4 := blk_cell E1.out 4
  have c0 := blk_cell S1.out 0
  have c3 := blk_cell S1.out 3
  have c5 := blk_cell S1.out 5
  have c8 := blk_cell S1.out 8
  have c9 := blk_cell S1.out 9
  rw [HP.out] at c0
  have d1 : decide (e.flight ≤ gE s.rl * s.rtt / 1024) = true := decide_eq_true h
  rw [HF.out] at c5
  have f0 := blk_free S1.out 0
  go_wp2_with fail
  have S2 := Lib.hid (blk_set S1.out 0 (.int .i64 1))
  have G2 := Lib.hid (gr_trans G1.out (gr_set V1 g 0 (.int .i64 1)))
  have E2 := Lib.hid (((gr_set V1 g 0 (.int .i64 1)).block _ (blk_lt E1.out) (fun e2 => hne (Option.some.inj e2).symm)).trans E1.out)
  have L2 := Lib.hid (sts_grown L1.out (gr_set V1 g 0 (.int .i64 1)) HD.out)
  clear c0 c3 c5 c8 c9 e0 e4 f0 S1 E1 L1 G1
  generalize V1.setCell ⟨g, 0, none⟩ (.int .i64 1) = V2 at S2 E2 L2 G2 ⊢
  simp only [List.setIfInBounds_toArray, List.set_cons_zero] at S2
  have c0 := blk_cell S2.out 0
  have e0 := blk_cell E2.out 0
  have e4 := blk_cell E2.out 4
  go_quiet (first | (go_at_call 41; exact Calls.quiet_of (onTheWay_any { s with phase := 1 } g _ (HV.out.to (by decide)) S2.out L2.out)))
  go_wp2_with fail
  refine (cruise_any { s with phase := 1 } e.now g _ (blk_drewN S2.out _)).mono ?_
  rintro z W2 ⟨rfl, S3, G3⟩
  go_wp2
  go_end0
  exact ⟨rfl, S3, gr_trans (gr_trans G2.out (gr_drewN _ _ _)) G3⟩
end Go.Proofs.Ytokoogohdfepiaa
