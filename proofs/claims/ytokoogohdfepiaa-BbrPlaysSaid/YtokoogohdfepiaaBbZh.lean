/- Bbr: hearRate, its other ways. -/
import Derived.Test.YtokoogohdfepiaaBbZe
import Derived.Deep.RegionWith
namespace Go.Proofs.Ytokoogohdfepiaa
open Go.RowKit

set_option maxRecDepth 100000 in
set_option maxHeartbeats 1000000 in
theorem hrr_less (s : Bs) (e : Be) (g : Nat) (w : World) (hl : s.rl.length ≤ 10) (hL : Sts 2 PC Tr w s.ra s.rl) (hn : s.ra = none → s.rc = 0) (hS : w.heap[g]? = some (.cells #[.int .i64 s.phase, .slice s.ra s.rl.length s.rc, .bool s.hasRtt, .int .i64 s.rtt, .int .i64 s.rttAt, .bool s.full, .int .i64 s.fullRate, .int .i64 s.fullRounds, .int .i64 s.cycle, .int .i64 s.cycleAt, .int .i64 s.til, .int .i64 s.round] 40 (0, 0))) (h : e.hasRate = true) (hR0 : 0 ≤ e.round) (hR1 : e.round ≤ 1099511627776)  (hl2 : (filt e.round e.rate s.rl).length ≤ 10) (hr : s.round < e.round) (hf : s.full = false) (hq0 : 0 ≤ gE (filt e.round e.rate s.rl) ∧ gE (filt e.round e.rate s.rl) ≤ 1073741824) (hfr : 0 ≤ s.fullRate ∧ s.fullRate ≤ 1099511627776) (hm : 4 * gE (filt e.round e.rate s.rl) < 5 * s.fullRate) (hfn : 0 ≤ s.fullRounds ∧ s.fullRounds ≤ 1099511627776) :
    Calls Try.prog 28 #[.pointer (some ⟨g, 0, none⟩), .agg #[.int .i64 e.now, .int .i64 e.round, .int .i64 e.rate, .int .i64 e.rtt, .int .i64 e.flight, .bool e.hasRate, .bool e.hasRtt]] w fun z w' => z = .returned (.tuple #[]) ∧ ∃ a' c', w'.heap[g]? = some (.cells #[.int .i64 s.phase, .slice a' (filt e.round e.rate s.rl).length c', .bool s.hasRtt, .int .i64 s.rtt, .int .i64 s.rttAt, .bool (decide (3 ≤ min (s.fullRounds + 1) 1099511627776)), .int .i64 s.fullRate, .int .i64 (min (s.fullRounds + 1) 1099511627776), .int .i64 s.cycle, .int .i64 s.cycleAt, .int .i64 s.til, .int .i64 e.round] 40 (0, 0)) ∧ OwnR 36 2 PC w.heap.size a' (filt e.round e.rate s.rl) c' w' ∧ w.grownBy w' (some g) := by
  obtain ⟨L, hLL⟩ : ∃ L, filt e.round e.rate s.rl = L := ⟨_, rfl⟩
  have HC := Lib.hid (fun (a : Option Addr) (cap : Nat) (W : World) (hA : Sts 2 PC Tr W a s.rl) (hB : a = none → cap = 0) => filtered_any e.round e.rate a s.rl cap W hA hB (by omega) hR0 hR1)
  simp only [hLL] at *
  clear hLL
  have hg := blk_lt hS
  have ba := (Below.refl w.heap.size w).alloc (Nat.le_refl _) (.cells #[.int .i64 e.now, .int .i64 e.round, .int .i64 e.rate, .int .i64 e.rtt, .int .i64 e.flight, .bool e.hasRate, .bool e.hasRtt] 46)
  have S1 := Lib.hid ((ba.block _ hg).trans hS)
  have L1 := Lib.hid (hL.belowT ba)
  have E1 := Lib.hid (blk_new w (.cells #[.int .i64 e.now, .int .i64 e.round, .int .i64 e.rate, .int .i64 e.rtt, .int .i64 e.flight, .bool e.hasRate, .bool e.hasRtt] 46))
  have Q1 := Lib.hid ba
  have hne : g ≠ w.heap.size := by omega
  have HN := Lib.hid hn
  have HH := Lib.hid h
  have HF := Lib.hid hf
  clear hf
  obtain ⟨q, hq⟩ : ∃ q, gE L = q := ⟨_, rfl⟩
  have HQ := Lib.hid hq
  (try rw [hq])
  rw [hq] at hq0 hm
  clear hq
  clear hS ba hL hn h
  go_enter Try.func28, Try.ntmps28
  go_upto_region 1 with fail
  generalize w.alloc (.cells #[.int .i64 e.now, .int .i64 e.round, .int .i64 e.rate, .int .i64 e.rtt, .int .i64 e.flight, .bool e.hasRate, .bool e.hasRtt] 46) = V1 at S1 L1 E1 Q1 ⊢
  have e5 := blk_cell E1.out 5
  have c1 := blk_cell S1.out 1
  rw [HH.out] at e5
  have e1 := blk_cell E1.out 1
  have e2 := blk_cell E1.out 2
  have L1D := Lib.hid (show Sts 2 PC Tr V1.drew s.ra s.rl from L1.out)
  have f1 := blk_free S1.out 1
  go_upto_region 2 with fail
  go_cut [] (fun (wx : World) => ∃ a' c', wx.heap[g]? = some (.cells #[.int .i64 s.phase, .slice a' L.length c', .bool s.hasRtt, .int .i64 s.rtt, .int .i64 s.rttAt, .bool s.full, .int .i64 s.fullRate, .int .i64 s.fullRounds, .int .i64 s.cycle, .int .i64 s.cycleAt, .int .i64 s.til, .int .i64 s.round] 40 (0, 0)) ∧ OwnR 36 2 PC w.heap.size a' L c' wx ∧ w.grownBy wx (some g) ∧ wx.heap[w.heap.size]? = some (.cells #[.int .i64 e.now, .int .i64 e.round, .int .i64 e.rate, .int .i64 e.rtt, .int .i64 e.flight, .bool e.hasRate, .bool e.hasRtt] 46 (0, 0)))
  case first =>
   go_region_with (first
    | (go_at_call 23; (with_reducible refine (HC.out _ _ _ L1D.out HN.out).mono ?_); rintro z V2 ⟨⟨a', c', rfl, O⟩, b⟩; have S2 := Lib.hid ((b.block _ (blk_lt (blk_drew S1.out))).trans (blk_drew S1.out)); have E2 := Lib.hid ((b.block _ (blk_lt (blk_drew E1.out))).trans (blk_drew E1.out)); have Q2 := Lib.hid (Q1.out.drew.trans (b.mono Q1.out.drew.size)); have O2 := Lib.hid (O.mono Q1.out.drew.size); clear b O; have g1 := blk_free S2.out 1; have d1 := blk_cell S2.out 1))
   all_goals
    have O3 := O2.out.grown (gr_set V2 g 1 (.slice a' L.length c')) (fun g' e1 e2 => by have h2 := O2.out.ownB g' (by rw [e1]; rfl); have e3 := Option.some.inj e2; omega)
    go_wp2_with fail
    go_meet
    exact ⟨a', c', blk_set S2.out 1 (.slice a' L.length c'), O3, gr_trans (gr_below Q2.out (some g)) (gr_set V2 g 1 (.slice a' L.length c')), ((gr_set V2 g 1 (.slice a' L.length c')).block _ (blk_lt E2.out) (fun e2 => hne (Option.some.inj e2).symm)).trans E2.out⟩
  case rest =>
   obtain ⟨a', c', S3, O3, G3, E3⟩ := hcut
   replace S3 := Lib.hid S3
   replace O3 := Lib.hid O3
   replace G3 := Lib.hid G3
   replace E3 := Lib.hid E3
   clear e1 e2 c1 f1 L1D S1 E1 Q1 L1 e5
   obtain ⟨V3, hV3⟩ : ∃ V3, V3 = wc := ⟨_, rfl⟩
   subst hV3
   have e1 := blk_cell E3.out 1
   have c11 := blk_cell S3.out 11
   have f11 := blk_free S3.out 11
   have c5 := blk_cell S3.out 5
   rw [HF.out] at c5
   go_wp2_with fail
   go_quiet (fail)
   have O4 := Lib.hid (O3.out.grown (gr_drewN V3 nq (some g)) (fun g' e1 e2 => by have h2 := O3.out.ownB g' (by rw [e1]; rfl); have e3 := Option.some.inj e2; omega))
   have O5 := Lib.hid (O4.out.grown (gr_set (V3.drewN nq) g 11 (.int .i64 e.round)) (fun g' e1 e2 => by have h2 := O4.out.ownB g' (by rw [e1]; rfl); have e3 := Option.some.inj e2; omega))
   go_upto_region 7 with fail
   have S5 := Lib.hid (blk_set (blk_drewN S3.out nq) 11 (.int .i64 e.round))
   have G5 := Lib.hid (gr_trans (gr_trans G3.out (gr_drewN V3 nq (some g))) (gr_set (V3.drewN nq) g 11 (.int .i64 e.round)))
   clear S3 G3 O3 O4 E3 c5 c11 f11 e1
   simp only [List.setIfInBounds_toArray, List.set_cons_zero, List.set_cons_succ] at S5
   generalize (V3.drewN nq).setCell ⟨g, 11, none⟩ (.int .i64 e.round) = V5 at S5 G5 O5 ⊢
   have L5 := Lib.hid (O5.out.sts encP)
   have HG : Hid (∀ W : World, W.heap[g]? = some (.cells #[.int .i64 s.phase, .slice a' L.length c', .bool s.hasRtt, .int .i64 s.rtt, .int .i64 s.rttAt, .bool s.full, .int .i64 s.fullRate, .int .i64 s.fullRounds, .int .i64 s.cycle, .int .i64 s.cycleAt, .int .i64 s.til, .int .i64 e.round] 40 (0, 0)) → Sts 2 PC Tr W a' L → Calls Try.prog 37 #[.pointer (some ⟨g, 0, none⟩)] W fun e w' => e = .returned (.int .i64 q) ∧ w' = W) := Lib.hid (fun W hS h => (greatest_any { s with ra := a', rl := L, rc := c', round := e.round } g W hl2 hS h).mono (fun _ _ ⟨h1, h2⟩ => (⟨h1.trans (by rw [show gE ({ s with ra := a', rl := L, rc := c', round := e.round } : Bs).rl = q from HQ.out]), h2.symm⟩ : _ ∧ _ = W)))
   have c6 := blk_cell S5.out 6
   have w1 : IntKind.i64.wrap (4 * q) = 4 * q := IntWalk.i64_in _ ⟨by omega, by omega⟩
   have w2 : IntKind.i64.wrap (5 * s.fullRate) = 5 * s.fullRate := IntWalk.i64_in _ ⟨by omega, by omega⟩
   have d1 : decide (5 * s.fullRate ≤ 4 * q) = false := decide_eq_false (by omega)
   clear hm
   go_wp2_with fail
   go_quiet (first | (go_at_call 37; exact Calls.quiet_of_same (HG.out _ S5.out L5.out)))
   have S6 := Lib.hid (blk_drewN S5.out nq)
   have G6 := Lib.hid (gr_trans G5.out (gr_drewN V5 nq (some g)))
   have O6 := Lib.hid (O5.out.grown (gr_drewN V5 nq (some g)) (fun g' e1 e2 => by have h2 := O5.out.ownB g' (by rw [e1]; rfl); have e3 := Option.some.inj e2; omega))
   have L6 := Lib.hid (O6.out.sts encP)
   clear S5 G5 O5 L5 c6 d1 w1 w2
   generalize V5.drewN nq = V6 at S6 G6 O6 L6 ⊢
   have c6 := blk_cell S6.out 6
   have c7 := blk_cell S6.out 7
   have f6 := blk_free S6.out 6
   have f7 := blk_free S6.out 7
   have f5 := blk_free S6.out 5
   have c5 := blk_cell S6.out 5
   have w3 : IntKind.i64.wrap (s.fullRounds + 1) = s.fullRounds + 1 := IntWalk.i64_in _ ⟨by omega, by omega⟩
   have O7 := Lib.hid (O6.out.grown (gr_set V6 g 7 (.int .i64 (min (s.fullRounds + 1) 1099511627776))) (fun g' e1 e2 => by have h2 := O6.out.ownB g' (by rw [e1]; rfl); have e3 := Option.some.inj e2; omega))
   have O8 := Lib.hid (O7.out.grown (gr_set (V6.setCell ⟨g, 7, none⟩ (.int .i64 (min (s.fullRounds + 1) 1099511627776))) g 5 (.bool (decide (3 ≤ min (s.fullRounds + 1) 1099511627776)))) (fun g' e1 e2 => by have h2 := O7.out.ownB g' (by rw [e1]; rfl); have e3 := Option.some.inj e2; omega))
   go_wp2
   go_end0
   exact ⟨rfl, a', c', blk_set (blk_set S6.out 7 (.int .i64 (min (s.fullRounds + 1) 1099511627776))) 5 (.bool (decide (3 ≤ min (s.fullRounds + 1) 1099511627776))), O8.out, gr_trans (gr_trans G6.out (gr_set V6 g 7 _)) (gr_set _ g 5 _)⟩

end Go.Proofs.Ytokoogohdfepiaa
