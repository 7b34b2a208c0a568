/- Bbr: Ack of a state that may be, refused. -/
import Derived.Test.YtokoogohdfepiaaBbZi
import Derived.Test.YtokoogohdfepiaaBbZj
import Derived.Deep.RegionHeld3
namespace Go.Proofs.Ytokoogohdfepiaa
open Go.RowKit

set_option maxRecDepth 100000 in
set_option maxHeartbeats 1000000 in
theorem ack_mss (s : Bs) (m : Int) (e : Be) (w : World) (hv : SV s) (hL : Sts 2 PC Tr w s.ra s.rl) (hm : ¬ (1 ≤ m ∧ m ≤ 65535)) :
    Calls Try.prog 15 #[.agg #[.int .i64 s.phase, .slice s.ra s.rl.length s.rc, .bool s.hasRtt, .int .i64 s.rtt, .int .i64 s.rttAt, .bool s.full, .int .i64 s.fullRate, .int .i64 s.fullRounds, .int .i64 s.cycle, .int .i64 s.cycleAt, .int .i64 s.til, .int .i64 s.round], .int .i64 m, .agg #[.int .i64 e.now, .int .i64 e.round, .int .i64 e.rate, .int .i64 e.rtt, .int .i64 e.flight, .bool e.hasRate, .bool e.hasRtt]] w fun z w' => z = .returned (.tuple #[.agg #[.int .i64 0, .slice none 0 0, .bool false, .int .i64 0, .int .i64 0, .bool false, .int .i64 0, .int .i64 0, .int .i64 0, .int .i64 0, .int .i64 0, .int .i64 0], .int .i64 4]) ∧ Below w.heap.size w w' := by
  have HV := Lib.hid hv
  have hl := hv.rates.1
  obtain ⟨lr, hlr⟩ : ∃ lr, lastR s.rl = lr := ⟨_, rfl⟩
  have HLR := Lib.hid hlr
  have hr0 := hv.round
  have hlr0 : 0 ≤ lr ∧ lr ≤ 1099511627776 := by rw [← hlr]; exact hv.rates.last0
  have HM := Lib.hid hm
  have b1 := (Below.refl w.heap.size w).alloc (Nat.le_refl _) (.cells #[.int .i64 s.phase, .slice s.ra s.rl.length s.rc, .bool s.hasRtt, .int .i64 s.rtt, .int .i64 s.rttAt, .bool s.full, .int .i64 s.fullRate, .int .i64 s.fullRounds, .int .i64 s.cycle, .int .i64 s.cycleAt, .int .i64 s.til, .int .i64 s.round] 40)
  have b2 := b1.alloc b1.size (.cells #[.int .i64 e.now, .int .i64 e.round, .int .i64 e.rate, .int .i64 e.rtt, .int .i64 e.flight, .bool e.hasRate, .bool e.hasRtt] 46)
  have b3 := b2.alloc b2.size (.cells #[.int .i64 0, .slice none 0 0, .bool false, .int .i64 0, .int .i64 0, .bool false, .int .i64 0, .int .i64 0, .int .i64 0, .int .i64 0, .int .i64 0, .int .i64 0] 40)
  have L1 := Lib.hid (hL.belowT b3)
  have Q1 := Lib.hid b3
  obtain ⟨x1, x2, x3, hsz⟩ := three w (.cells #[.int .i64 s.phase, .slice s.ra s.rl.length s.rc, .bool s.hasRtt, .int .i64 s.rtt, .int .i64 s.rttAt, .bool s.full, .int .i64 s.fullRate, .int .i64 s.fullRounds, .int .i64 s.cycle, .int .i64 s.cycleAt, .int .i64 s.til, .int .i64 s.round] 40) (.cells #[.int .i64 e.now, .int .i64 e.round, .int .i64 e.rate, .int .i64 e.rtt, .int .i64 e.flight, .bool e.hasRate, .bool e.hasRtt] 46) (.cells #[.int .i64 0, .slice none 0 0, .bool false, .int .i64 0, .int .i64 0, .bool false, .int .i64 0, .int .i64 0, .int .i64 0, .int .i64 0, .int .i64 0, .int .i64 0] 40)
  have S1 := Lib.hid x1
  have E1 := Lib.hid x2
  have R1 := Lib.hid x3
  clear b1 b2 b3 hv hm hL x1 x2 x3 hlr
  go_enter Try.func15, Try.ntmps15
  go_upto_region 1 with fail
  generalize ((w.alloc (.cells #[.int .i64 s.phase, .slice s.ra s.rl.length s.rc, .bool s.hasRtt, .int .i64 s.rtt, .int .i64 s.rttAt, .bool s.full, .int .i64 s.fullRate, .int .i64 s.fullRounds, .int .i64 s.cycle, .int .i64 s.cycleAt, .int .i64 s.til, .int .i64 s.round] 40)).alloc (.cells #[.int .i64 e.now, .int .i64 e.round, .int .i64 e.rate, .int .i64 e.rtt, .int .i64 e.flight, .bool e.hasRate, .bool e.hasRtt] 46)).alloc (.cells #[.int .i64 0, .slice none 0 0, .bool false, .int .i64 0, .int .i64 0, .bool false, .int .i64 0, .int .i64 0, .int .i64 0, .int .i64 0, .int .i64 0, .int .i64 0] 40) = V1 at S1 E1 R1 L1 Q1 hsz ⊢
  have c0 := blk_cell S1.out 0
  have c1 := blk_cell S1.out 1
  have c2 := blk_cell S1.out 2
  have c3 := blk_cell S1.out 3
  have c4 := blk_cell S1.out 4
  have c5 := blk_cell S1.out 5
  have c6 := blk_cell S1.out 6
  have c7 := blk_cell S1.out 7
  have c8 := blk_cell S1.out 8
  have c9 := blk_cell S1.out 9
  have c10 := blk_cell S1.out 10
  have c11 := blk_cell S1.out 11
  go_wp2_with fail
  refine (check_no s m _ HV.out L1.out HM.out).mono ?_
  rintro z V2 ⟨rfl, b⟩
  clear c0 c1 c2 c3 c4 c5 c6 c7 c8 c9 c10 c11
  have S2 := Lib.hid ((b.block _ (blk_lt S1.out)).trans S1.out)
  have E2 := Lib.hid ((b.block _ (blk_lt E1.out)).trans E1.out)
  have R2 := Lib.hid ((b.block _ (blk_lt R1.out)).trans R1.out)
  have L2 := Lib.hid (L1.out.belowT b)
  have Q2 := Lib.hid (Q1.out.trans (b.mono Q1.out.size))
  have hs2 : w.heap.size + 3 ≤ V2.heap.size := by have := b.size; omega
  clear b S1 E1 R1 L1 Q1
  have r0 := blk_cell R2.out 0
  have q0 := blk_free R2.out 0
  have r1 := blk_cell R2.out 1
  have q1 := blk_free R2.out 1
  have r2 := blk_cell R2.out 2
  have q2 := blk_free R2.out 2
  have r3 := blk_cell R2.out 3
  have q3 := blk_free R2.out 3
  have r4 := blk_cell R2.out 4
  have q4 := blk_free R2.out 4
  have r5 := blk_cell R2.out 5
  have q5 := blk_free R2.out 5
  have r6 := blk_cell R2.out 6
  have q6 := blk_free R2.out 6
  have r7 := blk_cell R2.out 7
  have q7 := blk_free R2.out 7
  have r8 := blk_cell R2.out 8
  have q8 := blk_free R2.out 8
  have r9 := blk_cell R2.out 9
  have q9 := blk_free R2.out 9
  have r10 := blk_cell R2.out 10
  have q10 := blk_free R2.out 10
  have r11 := blk_cell R2.out 11
  have q11 := blk_free R2.out 11
  go_wp2
  obtain ⟨RW, GW⟩ := set12 V2 (w.heap.size + 1 + 1) _ _ _ _ _ _ _ _ _ _ _ _ _ (.int .i64 0) (.slice none 0 0) (.bool false) (.int .i64 0) (.int .i64 0) (.bool false) (.int .i64 0) (.int .i64 0) (.int .i64 0) (.int .i64 0) (.int .i64 0) (.int .i64 0) R2.out
  clear r0 q0 r1 q1 r2 q2 r3 q3 r4 q4 r5 q5 r6 q6 r7 q7 r8 q8 r9 q9 r10 q10 r11 q11
  generalize ((((((((((((V2).setCell ⟨w.heap.size + 1 + 1, 0, none⟩ (.int .i64 0)).setCell ⟨w.heap.size + 1 + 1, 1, none⟩ (.slice none 0 0)).setCell ⟨w.heap.size + 1 + 1, 2, none⟩ (.bool false)).setCell ⟨w.heap.size + 1 + 1, 3, none⟩ (.int .i64 0)).setCell ⟨w.heap.size + 1 + 1, 4, none⟩ (.int .i64 0)).setCell ⟨w.heap.size + 1 + 1, 5, none⟩ (.bool false)).setCell ⟨w.heap.size + 1 + 1, 6, none⟩ (.int .i64 0)).setCell ⟨w.heap.size + 1 + 1, 7, none⟩ (.int .i64 0)).setCell ⟨w.heap.size + 1 + 1, 8, none⟩ (.int .i64 0)).setCell ⟨w.heap.size + 1 + 1, 9, none⟩ (.int .i64 0)).setCell ⟨w.heap.size + 1 + 1, 10, none⟩ (.int .i64 0)).setCell ⟨w.heap.size + 1 + 1, 11, none⟩ (.int .i64 0) = W at RW GW ⊢
  have r0 := blk_cell RW 0
  have r1 := blk_cell RW 1
  have r2 := blk_cell RW 2
  have r3 := blk_cell RW 3
  have r4 := blk_cell RW 4
  have r5 := blk_cell RW 5
  have r6 := blk_cell RW 6
  have r7 := blk_cell RW 7
  have r8 := blk_cell RW 8
  have r9 := blk_cell RW 9
  have r10 := blk_cell RW 10
  have r11 := blk_cell RW 11
  refine bodyPost_ret (v := .tuple #[.agg #[.int .i64 0, .slice none 0 0, .bool false, .int .i64 0, .int .i64 0, .bool false, .int .i64 0, .int .i64 0, .int .i64 0, .int .i64 0, .int .i64 0, .int .i64 0], .int .i64 4]) (by simp [results, Try.results15, go_sem, *]) rfl ?_
  exact ⟨rfl, below_gr3 Q2.out (by omega) GW⟩
set_option maxRecDepth 100000 in
set_option maxHeartbeats 1000000 in
theorem ack_now (s : Bs) (m : Int) (e : Be) (w : World) (hv : SV s) (hL : Sts 2 PC Tr w s.ra s.rl) (hm : 1 ≤ m ∧ m ≤ 65535) (he : max s.round (lastR s.rl) ≤ e.round ∧ e.round ≤ 1099511627776) (he2 : ¬ (0 ≤ e.now ∧ e.now ≤ 1099511627776)) :
    Calls Try.prog 15 #[.agg #[.int .i64 s.phase, .slice s.ra s.rl.length s.rc, .bool s.hasRtt, .int .i64 s.rtt, .int .i64 s.rttAt, .bool s.full, .int .i64 s.fullRate, .int .i64 s.fullRounds, .int .i64 s.cycle, .int .i64 s.cycleAt, .int .i64 s.til, .int .i64 s.round], .int .i64 m, .agg #[.int .i64 e.now, .int .i64 e.round, .int .i64 e.rate, .int .i64 e.rtt, .int .i64 e.flight, .bool e.hasRate, .bool e.hasRtt]] w fun z w' => z = .returned (.tuple #[.agg #[.int .i64 0, .slice none 0 0, .bool false, .int .i64 0, .int .i64 0, .bool false, .int .i64 0, .int .i64 0, .int .i64 0, .int .i64 0, .int .i64 0, .int .i64 0], .int .i64 4]) ∧ Below w.heap.size w w' := by
  have HV := Lib.hid hv
  have hl := hv.rates.1
  obtain ⟨lr, hlr⟩ : ∃ lr, lastR s.rl = lr := ⟨_, rfl⟩
  have HLR := Lib.hid hlr
  have hr0 := hv.round
  have hlr0 : 0 ≤ lr ∧ lr ≤ 1099511627776 := by rw [← hlr]; exact hv.rates.last0
  have H1 : Hid (InR (max s.round lr) 1099511627776 [e.round]) := Lib.hid (by rw [inR1, ← hlr]; exact he)
  have H2 : Hid (¬ InR 0 1099511627776 [e.now]) := Lib.hid (by rw [inR1]; exact he2)
  clear he he2
  have HM := Lib.hid hm
  have b1 := (Below.refl w.heap.size w).alloc (Nat.le_refl _) (.cells #[.int .i64 s.phase, .slice s.ra s.rl.length s.rc, .bool s.hasRtt, .int .i64 s.rtt, .int .i64 s.rttAt, .bool s.full, .int .i64 s.fullRate, .int .i64 s.fullRounds, .int .i64 s.cycle, .int .i64 s.cycleAt, .int .i64 s.til, .int .i64 s.round] 40)
  have b2 := b1.alloc b1.size (.cells #[.int .i64 e.now, .int .i64 e.round, .int .i64 e.rate, .int .i64 e.rtt, .int .i64 e.flight, .bool e.hasRate, .bool e.hasRtt] 46)
  have b3 := b2.alloc b2.size (.cells #[.int .i64 0, .slice none 0 0, .bool false, .int .i64 0, .int .i64 0, .bool false, .int .i64 0, .int .i64 0, .int .i64 0, .int .i64 0, .int .i64 0, .int .i64 0] 40)
  have L1 := Lib.hid (hL.belowT b3)
  have Q1 := Lib.hid b3
  obtain ⟨x1, x2, x3, hsz⟩ := three w (.cells #[.int .i64 s.phase, .slice s.ra s.rl.length s.rc, .bool s.hasRtt, .int .i64 s.rtt, .int .i64 s.rttAt, .bool s.full, .int .i64 s.fullRate, .int .i64 s.fullRounds, .int .i64 s.cycle, .int .i64 s.cycleAt, .int .i64 s.til, .int .i64 s.round] 40) (.cells #[.int .i64 e.now, .int .i64 e.round, .int .i64 e.rate, .int .i64 e.rtt, .int .i64 e.flight, .bool e.hasRate, .bool e.hasRtt] 46) (.cells #[.int .i64 0, .slice none 0 0, .bool false, .int .i64 0, .int .i64 0, .bool false, .int .i64 0, .int .i64 0, .int .i64 0, .int .i64 0, .int .i64 0, .int .i64 0] 40)
  have S1 := Lib.hid x1
  have E1 := Lib.hid x2
  have R1 := Lib.hid x3
  clear b1 b2 b3 hv hm hL x1 x2 x3 hlr
  go_enter Try.func15, Try.ntmps15
  go_upto_region 1 with fail
  generalize ((w.alloc (.cells #[.int .i64 s.phase, .slice s.ra s.rl.length s.rc, .bool s.hasRtt, .int .i64 s.rtt, .int .i64 s.rttAt, .bool s.full, .int .i64 s.fullRate, .int .i64 s.fullRounds, .int .i64 s.cycle, .int .i64 s.cycleAt, .int .i64 s.til, .int .i64 s.round] 40)).alloc (.cells #[.int .i64 e.now, .int .i64 e.round, .int .i64 e.rate, .int .i64 e.rtt, .int .i64 e.flight, .bool e.hasRate, .bool e.hasRtt] 46)).alloc (.cells #[.int .i64 0, .slice none 0 0, .bool false, .int .i64 0, .int .i64 0, .bool false, .int .i64 0, .int .i64 0, .int .i64 0, .int .i64 0, .int .i64 0, .int .i64 0] 40) = V1 at S1 E1 R1 L1 Q1 hsz ⊢
  have c0 := blk_cell S1.out 0
  have c1 := blk_cell S1.out 1
  have c2 := blk_cell S1.out 2
  have c3 := blk_cell S1.out 3
  have c4 := blk_cell S1.out 4
  have c5 := blk_cell S1.out 5
  have c6 := blk_cell S1.out 6
  have c7 := blk_cell S1.out 7
  have c8 := blk_cell S1.out 8
  have c9 := blk_cell S1.out 9
  have c10 := blk_cell S1.out 10
  have c11 := blk_cell S1.out 11
  go_wp2_with fail
  refine (check_ok s m _ HV.out L1.out HM.out).mono ?_
  rintro z V2 ⟨rfl, b⟩
  clear c0 c1 c2 c3 c4 c5 c6 c7 c8 c9 c10 c11
  have S2 := Lib.hid ((b.block _ (blk_lt S1.out)).trans S1.out)
  have E2 := Lib.hid ((b.block _ (blk_lt E1.out)).trans E1.out)
  have R2 := Lib.hid ((b.block _ (blk_lt R1.out)).trans R1.out)
  have L2 := Lib.hid (L1.out.belowT b)
  have Q2 := Lib.hid (Q1.out.trans (b.mono Q1.out.size))
  have hs2 : w.heap.size + 3 ≤ V2.heap.size := by have := b.size; omega
  clear b S1 E1 R1 L1 Q1
  go_upto_region 4 with fail
  have c1 := blk_cell S2.out 1
  have c11 := blk_cell S2.out 11
  have e0 := blk_cell E2.out 0
  have e1 := blk_cell E2.out 1
  have BA := (Below.refl V2.heap.size V2).alloc (Nat.le_refl _) (.cells #[.int .i64 e.round] 3)
  have SA := Lib.hid ((BA.block _ (blk_lt S2.out)).trans S2.out)
  have EA := Lib.hid ((BA.block _ (blk_lt E2.out)).trans E2.out)
  have LA := Lib.hid (L2.out.belowT BA)
  have ca1 := blk_cell SA.out 1
  have ca11 := blk_cell SA.out 11
  have ea0 := blk_cell EA.out 0
  have ea1 := blk_cell EA.out 1
  have BB := BA.alloc BA.size (.cells #[.int .i64 e.now] 3)
  have SB := Lib.hid ((BB.block _ (blk_lt S2.out)).trans S2.out)
  have EB := Lib.hid ((BB.block _ (blk_lt E2.out)).trans E2.out)
  have cb1 := blk_cell SB.out 1
  have cb11 := blk_cell SB.out 11
  have eb0 := blk_cell EB.out 0
  have eb1 := blk_cell EB.out 1
  have QA := Lib.hid BA
  have QB := Lib.hid BB
  clear BA BB
  have HQ : Hid (∀ W : World, Below V2.heap.size V2 W → Calls Try.prog 22 #[.slice s.ra s.rl.length s.rc] W fun z w' => z = .returned (.int .i64 lr) ∧ W = w') := Lib.hid (fun W b => lastRound_l s.ra s.rl s.rc W HLR.out (L2.out.belowT b) (by omega))
  have HW1 : Hid (Calls Try.prog 21 #[.int .i64 (max s.round lr), .int .i64 1099511627776, .slice (some ⟨V2.heap.size, 0, none⟩) 1 1] (V2.alloc (.cells #[.int .i64 e.round] 3)).drew fun z w' => z = .returned (.bool true) ∧ (V2.alloc (.cells #[.int .i64 e.round] 3)).drew = w') :=
    Lib.hid (within_yes (max s.round lr) 1099511627776 _ [e.round] 1 _ (show Itc (V2.alloc (.cells #[.int .i64 e.round] 3)).drew (some ⟨V2.heap.size, 0, none⟩) [e.round] from itc_new V2 [e.round] 3) (by simp) H1.out)
  have HW2 : Hid (Calls Try.prog 21 #[.int .i64 0, .int .i64 1099511627776, .slice (some ⟨(V2.heap.size + 1), 0, none⟩) 1 1] ((V2.alloc (.cells #[.int .i64 e.round] 3)).alloc (.cells #[.int .i64 e.now] 3)).drew fun z w' => z = .returned (.bool false) ∧ ((V2.alloc (.cells #[.int .i64 e.round] 3)).alloc (.cells #[.int .i64 e.now] 3)).drew = w') :=
    Lib.hid (within_no 0 1099511627776 _ [e.now] 1 _ (show Itc ((V2.alloc (.cells #[.int .i64 e.round] 3)).alloc (.cells #[.int .i64 e.now] 3)).drew (some ⟨(V2.heap.size + 1), 0, none⟩) [e.now] from by have := itc_new (V2.alloc (.cells #[.int .i64 e.round] 3)) [e.now] 3; rw [show (V2.alloc (.cells #[.int .i64 e.round] 3)).heap.size = V2.heap.size + 1 by simp] at this; exact this) (by simp) H2.out)
  have SS0 : Hid ((V2.drew).cell? ⟨w.heap.size, 11, none⟩ = some (.int .i64 s.round) ∧ (V2.drew).cell? ⟨w.heap.size, 1, none⟩ = some (.slice s.ra s.rl.length s.rc) ∧ (V2.drew).cell? ⟨w.heap.size + 1, 1, none⟩ = some (.int .i64 e.round) ∧ (V2.drew).cell? ⟨w.heap.size + 1, 0, none⟩ = some (.int .i64 e.now)) := Lib.hid ⟨c11, c1, e1, e0⟩
  have SS1 : Hid (((V2.alloc (.cells #[.int .i64 e.round] 3)).drew).cell? ⟨w.heap.size, 11, none⟩ = some (.int .i64 s.round) ∧ ((V2.alloc (.cells #[.int .i64 e.round] 3)).drew).cell? ⟨w.heap.size, 1, none⟩ = some (.slice s.ra s.rl.length s.rc) ∧ ((V2.alloc (.cells #[.int .i64 e.round] 3)).drew).cell? ⟨w.heap.size + 1, 1, none⟩ = some (.int .i64 e.round) ∧ ((V2.alloc (.cells #[.int .i64 e.round] 3)).drew).cell? ⟨w.heap.size + 1, 0, none⟩ = some (.int .i64 e.now)) := Lib.hid ⟨ca11, ca1, ea1, ea0⟩
  have SS2 : Hid ((((V2.alloc (.cells #[.int .i64 e.round] 3)).alloc (.cells #[.int .i64 e.now] 3)).drew).cell? ⟨w.heap.size, 11, none⟩ = some (.int .i64 s.round) ∧ (((V2.alloc (.cells #[.int .i64 e.round] 3)).alloc (.cells #[.int .i64 e.now] 3)).drew).cell? ⟨w.heap.size, 1, none⟩ = some (.slice s.ra s.rl.length s.rc) ∧ (((V2.alloc (.cells #[.int .i64 e.round] 3)).alloc (.cells #[.int .i64 e.now] 3)).drew).cell? ⟨w.heap.size + 1, 1, none⟩ = some (.int .i64 e.round) ∧ (((V2.alloc (.cells #[.int .i64 e.round] 3)).alloc (.cells #[.int .i64 e.now] 3)).drew).cell? ⟨w.heap.size + 1, 0, none⟩ = some (.int .i64 e.now)) := Lib.hid ⟨cb11, cb1, eb1, eb0⟩
  go_cut [34] (fun (cv : Value) (wx : World) => cv = .bool true ∧ Below V2.heap.size V2 wx)
  case first =>
    go_region_held3 (fun W => (W).cell? ⟨w.heap.size, 11, none⟩ = some (.int .i64 s.round) ∧ (W).cell? ⟨w.heap.size, 1, none⟩ = some (.slice s.ra s.rl.length s.rc) ∧ (W).cell? ⟨w.heap.size + 1, 1, none⟩ = some (.int .i64 e.round) ∧ (W).cell? ⟨w.heap.size + 1, 0, none⟩ = some (.int .i64 e.now)) (first | (with_reducible exact SS0.out) | (with_reducible exact SS1.out) | (with_reducible exact SS2.out) | go_keep) (first
      | (go_at_call 22; (with_reducible refine (HQ.out _ ?hb).mono ?_); (case hb => first | exact (Below.refl _ V2).drew | exact QA.out.drew | exact QA.out | exact Below.refl _ V2); rintro z w' ⟨rfl, rfl⟩)
      | (go_at_call 21; (with_reducible refine HW1.out.mono ?_); rintro z w' ⟨rfl, rfl⟩)
      | (go_at_call 21; (with_reducible refine HW2.out.mono ?_); rintro z w' ⟨rfl, rfl⟩))
    all_goals
      go_wp2_with fail
      go_meet
      refine ⟨rfl, ?_⟩
      first | exact QB.out.drew | exact QB.out | exact QA.out.drew | exact QA.out
  case rest =>
  obtain ⟨rfl, b⟩ := hcut
  clear c1 c11 e0 e1 ca1 ca11 ea0 ea1 cb1 cb11 eb0 eb1 SA EA SB EB LA QA QB HQ HW1 SS0 SS1 SS2
  obtain ⟨V3, hV3⟩ : ∃ V3, V3 = wc := ⟨_, rfl⟩
  subst hV3
  have S3 := Lib.hid ((b.block _ (blk_lt S2.out)).trans S2.out)
  have E3 := Lib.hid ((b.block _ (blk_lt E2.out)).trans E2.out)
  have R3 := Lib.hid ((b.block _ (blk_lt R2.out)).trans R2.out)
  have L3 := Lib.hid (L2.out.belowT b)
  have Q3 := Lib.hid (Q2.out.trans (b.mono Q2.out.size))
  have hs3 : w.heap.size + 3 ≤ V3.heap.size := by have := b.size; omega
  clear b S2 E2 R2 L2 Q2
  have r0 := blk_cell R3.out 0
  have q0 := blk_free R3.out 0
  have r1 := blk_cell R3.out 1
  have q1 := blk_free R3.out 1
  have r2 := blk_cell R3.out 2
  have q2 := blk_free R3.out 2
  have r3 := blk_cell R3.out 3
  have q3 := blk_free R3.out 3
  have r4 := blk_cell R3.out 4
  have q4 := blk_free R3.out 4
  have r5 := blk_cell R3.out 5
  have q5 := blk_free R3.out 5
  have r6 := blk_cell R3.out 6
  have q6 := blk_free R3.out 6
  have r7 := blk_cell R3.out 7
  have q7 := blk_free R3.out 7
  have r8 := blk_cell R3.out 8
  have q8 := blk_free R3.out 8
  have r9 := blk_cell R3.out 9
  have q9 := blk_free R3.out 9
  have r10 := blk_cell R3.out 10
  have q10 := blk_free R3.out 10
  have r11 := blk_cell R3.out 11
  have q11 := blk_free R3.out 11
  go_wp2
  obtain ⟨RW, GW⟩ := set12 V3 (w.heap.size + 1 + 1) _ _ _ _ _ _ _ _ _ _ _ _ _ (.int .i64 0) (.slice none 0 0) (.bool false) (.int .i64 0) (.int .i64 0) (.bool false) (.int .i64 0) (.int .i64 0) (.int .i64 0) (.int .i64 0) (.int .i64 0) (.int .i64 0) R3.out
  clear r0 q0 r1 q1 r2 q2 r3 q3 r4 q4 r5 q5 r6 q6 r7 q7 r8 q8 r9 q9 r10 q10 r11 q11
  generalize ((((((((((((V3).setCell ⟨w.heap.size + 1 + 1, 0, none⟩ (.int .i64 0)).setCell ⟨w.heap.size + 1 + 1, 1, none⟩ (.slice none 0 0)).setCell ⟨w.heap.size + 1 + 1, 2, none⟩ (.bool false)).setCell ⟨w.heap.size + 1 + 1, 3, none⟩ (.int .i64 0)).setCell ⟨w.heap.size + 1 + 1, 4, none⟩ (.int .i64 0)).setCell ⟨w.heap.size + 1 + 1, 5, none⟩ (.bool false)).setCell ⟨w.heap.size + 1 + 1, 6, none⟩ (.int .i64 0)).setCell ⟨w.heap.size + 1 + 1, 7, none⟩ (.int .i64 0)).setCell ⟨w.heap.size + 1 + 1, 8, none⟩ (.int .i64 0)).setCell ⟨w.heap.size + 1 + 1, 9, none⟩ (.int .i64 0)).setCell ⟨w.heap.size + 1 + 1, 10, none⟩ (.int .i64 0)).setCell ⟨w.heap.size + 1 + 1, 11, none⟩ (.int .i64 0) = W at RW GW ⊢
  have r0 := blk_cell RW 0
  have r1 := blk_cell RW 1
  have r2 := blk_cell RW 2
  have r3 := blk_cell RW 3
  have r4 := blk_cell RW 4
  have r5 := blk_cell RW 5
  have r6 := blk_cell RW 6
  have r7 := blk_cell RW 7
  have r8 := blk_cell RW 8
  have r9 := blk_cell RW 9
  have r10 := blk_cell RW 10
  have r11 := blk_cell RW 11
  refine bodyPost_ret (v := .tuple #[.agg #[.int .i64 0, .slice none 0 0, .bool false, .int .i64 0, .int .i64 0, .bool false, .int .i64 0, .int .i64 0, .int .i64 0, .int .i64 0, .int .i64 0, .int .i64 0], .int .i64 4]) (by simp [results, Try.results15, go_sem, *]) rfl ?_
  exact ⟨rfl, below_gr3 Q3.out (by omega) GW⟩
set_option maxRecDepth 100000 in
set_option maxHeartbeats 1000000 in
theorem ack_nums (s : Bs) (m : Int) (e : Be) (w : World) (hv : SV s) (hL : Sts 2 PC Tr w s.ra s.rl) (hm : 1 ≤ m ∧ m ≤ 65535) (he : max s.round (lastR s.rl) ≤ e.round ∧ e.round ≤ 1099511627776) (he2 : 0 ≤ e.now ∧ e.now ≤ 1099511627776) (he3 : ¬ InR 0 1073741824 [e.rate, e.rtt, e.flight]) :
    Calls Try.prog 15 #[.agg #[.int .i64 s.phase, .slice s.ra s.rl.length s.rc, .bool s.hasRtt, .int .i64 s.rtt, .int .i64 s.rttAt, .bool s.full, .int .i64 s.fullRate, .int .i64 s.fullRounds, .int .i64 s.cycle, .int .i64 s.cycleAt, .int .i64 s.til, .int .i64 s.round], .int .i64 m, .agg #[.int .i64 e.now, .int .i64 e.round, .int .i64 e.rate, .int .i64 e.rtt, .int .i64 e.flight, .bool e.hasRate, .bool e.hasRtt]] w fun z w' => z = .returned (.tuple #[.agg #[.int .i64 0, .slice none 0 0, .bool false, .int .i64 0, .int .i64 0, .bool false, .int .i64 0, .int .i64 0, .int .i64 0, .int .i64 0, .int .i64 0, .int .i64 0], .int .i64 4]) ∧ Below w.heap.size w w' := by
  have HV := Lib.hid hv
  have hl := hv.rates.1
  obtain ⟨lr, hlr⟩ : ∃ lr, lastR s.rl = lr := ⟨_, rfl⟩
  have HLR := Lib.hid hlr
  have hr0 := hv.round
  have hlr0 : 0 ≤ lr ∧ lr ≤ 1099511627776 := by rw [← hlr]; exact hv.rates.last0
  have H1 : Hid (InR (max s.round lr) 1099511627776 [e.round]) := Lib.hid (by rw [inR1, ← hlr]; exact he)
  have H2 : Hid (InR 0 1099511627776 [e.now]) := Lib.hid (by rw [inR1]; exact he2)
  clear he he2
  have H3 := Lib.hid he3
  clear he3
  have HM := Lib.hid hm
  have b1 := (Below.refl w.heap.size w).alloc (Nat.le_refl _) (.cells #[.int .i64 s.phase, .slice s.ra s.rl.length s.rc, .bool s.hasRtt, .int .i64 s.rtt, .int .i64 s.rttAt, .bool s.full, .int .i64 s.fullRate, .int .i64 s.fullRounds, .int .i64 s.cycle, .int .i64 s.cycleAt, .int .i64 s.til, .int .i64 s.round] 40)
  have b2 := b1.alloc b1.size (.cells #[.int .i64 e.now, .int .i64 e.round, .int .i64 e.rate, .int .i64 e.rtt, .int .i64 e.flight, .bool e.hasRate, .bool e.hasRtt] 46)
  have b3 := b2.alloc b2.size (.cells #[.int .i64 0, .slice none 0 0, .bool false, .int .i64 0, .int .i64 0, .bool false, .int .i64 0, .int .i64 0, .int .i64 0, .int .i64 0, .int .i64 0, .int .i64 0] 40)
  have L1 := Lib.hid (hL.belowT b3)
  have Q1 := Lib.hid b3
  obtain ⟨x1, x2, x3, hsz⟩ := three w (.cells #[.int .i64 s.phase, .slice s.ra s.rl.length s.rc, .bool s.hasRtt, .int .i64 s.rtt, .int .i64 s.rttAt, .bool s.full, .int .i64 s.fullRate, .int .i64 s.fullRounds, .int .i64 s.cycle, .int .i64 s.cycleAt, .int .i64 s.til, .int .i64 s.round] 40) (.cells #[.int .i64 e.now, .int .i64 e.round, .int .i64 e.rate, .int .i64 e.rtt, .int .i64 e.flight, .bool e.hasRate, .bool e.hasRtt] 46) (.cells #[.int .i64 0, .slice none 0 0, .bool false, .int .i64 0, .int .i64 0, .bool false, .int .i64 0, .int .i64 0, .int .i64 0, .int .i64 0, .int .i64 0, .int .i64 0] 40)
  have S1 := Lib.hid x1
  have E1 := Lib.hid x2
  have R1 := Lib.hid x3
  clear b1 b2 b3 hv hm hL x1 x2 x3 hlr
  go_enter Try.func15, Try.ntmps15
  go_upto_region 1 with fail
  generalize ((w.alloc (.cells #[.int .i64 s.phase, .slice s.ra s.rl.length s.rc, .bool s.hasRtt, .int .i64 s.rtt, .int .i64 s.rttAt, .bool s.full, .int .i64 s.fullRate, .int .i64 s.fullRounds, .int .i64 s.cycle, .int .i64 s.cycleAt, .int .i64 s.til, .int .i64 s.round] 40)).alloc (.cells #[.int .i64 e.now, .int .i64 e.round, .int .i64 e.rate, .int .i64 e.rtt, .int .i64 e.flight, .bool e.hasRate, .bool e.hasRtt] 46)).alloc (.cells #[.int .i64 0, .slice none 0 0, .bool false, .int .i64 0, .int .i64 0, .bool false, .int .i64 0, .int .i64 0, .int .i64 0, .int .i64 0, .int .i64 0, .int .i64 0] 40) = V1 at S1 E1 R1 L1 Q1 hsz ⊢
  have c0 := blk_cell S1.out 0
  have c1 := blk_cell S1.out 1
  have c2 := blk_cell S1.out 2
  have c3 := blk_cell S1.out 3
  have c4 := blk_cell S1.out 4
  have c5 := blk_cell S1.out 5
  have c6 := blk_cell S1.out 6
  have c7 := blk_cell S1.out 7
  have c8 := blk_cell S1.out 8
  have c9 := blk_cell S1.out 9
  have c10 := blk_cell S1.out 10
  have c11 := blk_cell S1.out 11
  go_wp2_with fail
  refine (check_ok s m _ HV.out L1.out HM.out).mono ?_
  rintro z V2 ⟨rfl, b⟩
  clear c0 c1 c2 c3 c4 c5 c6 c7 c8 c9 c10 c11
  have S2 := Lib.hid ((b.block _ (blk_lt S1.out)).trans S1.out)
  have E2 := Lib.hid ((b.block _ (blk_lt E1.out)).trans E1.out)
  have R2 := Lib.hid ((b.block _ (blk_lt R1.out)).trans R1.out)
  have L2 := Lib.hid (L1.out.belowT b)
  have Q2 := Lib.hid (Q1.out.trans (b.mono Q1.out.size))
  have hs2 : w.heap.size + 3 ≤ V2.heap.size := by have := b.size; omega
  clear b S1 E1 R1 L1 Q1
  go_upto_region 4 with fail
  have c1 := blk_cell S2.out 1
  have c11 := blk_cell S2.out 11
  have e0 := blk_cell E2.out 0
  have e1 := blk_cell E2.out 1
  have BA := (Below.refl V2.heap.size V2).alloc (Nat.le_refl _) (.cells #[.int .i64 e.round] 3)
  have SA := Lib.hid ((BA.block _ (blk_lt S2.out)).trans S2.out)
  have EA := Lib.hid ((BA.block _ (blk_lt E2.out)).trans E2.out)
  have LA := Lib.hid (L2.out.belowT BA)
  have ca1 := blk_cell SA.out 1
  have ca11 := blk_cell SA.out 11
  have ea0 := blk_cell EA.out 0
  have ea1 := blk_cell EA.out 1
  have BB := BA.alloc BA.size (.cells #[.int .i64 e.now] 3)
  have SB := Lib.hid ((BB.block _ (blk_lt S2.out)).trans S2.out)
  have EB := Lib.hid ((BB.block _ (blk_lt E2.out)).trans E2.out)
  have cb1 := blk_cell SB.out 1
  have cb11 := blk_cell SB.out 11
  have eb0 := blk_cell EB.out 0
  have eb1 := blk_cell EB.out 1
  have QA := Lib.hid BA
  have QB := Lib.hid BB
  clear BA BB
  have HQ : Hid (∀ W : World, Below V2.heap.size V2 W → Calls Try.prog 22 #[.slice s.ra s.rl.length s.rc] W fun z w' => z = .returned (.int .i64 lr) ∧ W = w') := Lib.hid (fun W b => lastRound_l s.ra s.rl s.rc W HLR.out (L2.out.belowT b) (by omega))
  have HW1 : Hid (Calls Try.prog 21 #[.int .i64 (max s.round lr), .int .i64 1099511627776, .slice (some ⟨V2.heap.size, 0, none⟩) 1 1] (V2.alloc (.cells #[.int .i64 e.round] 3)).drew fun z w' => z = .returned (.bool true) ∧ (V2.alloc (.cells #[.int .i64 e.round] 3)).drew = w') :=
    Lib.hid (within_yes (max s.round lr) 1099511627776 _ [e.round] 1 _ (show Itc (V2.alloc (.cells #[.int .i64 e.round] 3)).drew (some ⟨V2.heap.size, 0, none⟩) [e.round] from itc_new V2 [e.round] 3) (by simp) H1.out)
  have HW2 : Hid (Calls Try.prog 21 #[.int .i64 0, .int .i64 1099511627776, .slice (some ⟨(V2.heap.size + 1), 0, none⟩) 1 1] ((V2.alloc (.cells #[.int .i64 e.round] 3)).alloc (.cells #[.int .i64 e.now] 3)).drew fun z w' => z = .returned (.bool true) ∧ ((V2.alloc (.cells #[.int .i64 e.round] 3)).alloc (.cells #[.int .i64 e.now] 3)).drew = w') :=
    Lib.hid (within_yes 0 1099511627776 _ [e.now] 1 _ (show Itc ((V2.alloc (.cells #[.int .i64 e.round] 3)).alloc (.cells #[.int .i64 e.now] 3)).drew (some ⟨(V2.heap.size + 1), 0, none⟩) [e.now] from by have := itc_new (V2.alloc (.cells #[.int .i64 e.round] 3)) [e.now] 3; rw [show (V2.alloc (.cells #[.int .i64 e.round] 3)).heap.size = V2.heap.size + 1 by simp] at this; exact this) (by simp) H2.out)
  have SS0 : Hid ((V2.drew).cell? ⟨w.heap.size, 11, none⟩ = some (.int .i64 s.round) ∧ (V2.drew).cell? ⟨w.heap.size, 1, none⟩ = some (.slice s.ra s.rl.length s.rc) ∧ (V2.drew).cell? ⟨w.heap.size + 1, 1, none⟩ = some (.int .i64 e.round) ∧ (V2.drew).cell? ⟨w.heap.size + 1, 0, none⟩ = some (.int .i64 e.now)) := Lib.hid ⟨c11, c1, e1, e0⟩
  have SS1 : Hid (((V2.alloc (.cells #[.int .i64 e.round] 3)).drew).cell? ⟨w.heap.size, 11, none⟩ = some (.int .i64 s.round) ∧ ((V2.alloc (.cells #[.int .i64 e.round] 3)).drew).cell? ⟨w.heap.size, 1, none⟩ = some (.slice s.ra s.rl.length s.rc) ∧ ((V2.alloc (.cells #[.int .i64 e.round] 3)).drew).cell? ⟨w.heap.size + 1, 1, none⟩ = some (.int .i64 e.round) ∧ ((V2.alloc (.cells #[.int .i64 e.round] 3)).drew).cell? ⟨w.heap.size + 1, 0, none⟩ = some (.int .i64 e.now)) := Lib.hid ⟨ca11, ca1, ea1, ea0⟩
  have SS2 : Hid ((((V2.alloc (.cells #[.int .i64 e.round] 3)).alloc (.cells #[.int .i64 e.now] 3)).drew).cell? ⟨w.heap.size, 11, none⟩ = some (.int .i64 s.round) ∧ (((V2.alloc (.cells #[.int .i64 e.round] 3)).alloc (.cells #[.int .i64 e.now] 3)).drew).cell? ⟨w.heap.size, 1, none⟩ = some (.slice s.ra s.rl.length s.rc) ∧ (((V2.alloc (.cells #[.int .i64 e.round] 3)).alloc (.cells #[.int .i64 e.now] 3)).drew).cell? ⟨w.heap.size + 1, 1, none⟩ = some (.int .i64 e.round) ∧ (((V2.alloc (.cells #[.int .i64 e.round] 3)).alloc (.cells #[.int .i64 e.now] 3)).drew).cell? ⟨w.heap.size + 1, 0, none⟩ = some (.int .i64 e.now)) := Lib.hid ⟨cb11, cb1, eb1, eb0⟩
  go_cut [34] (fun (cv : Value) (wx : World) => cv = .bool false ∧ Below V2.heap.size V2 wx)
  case first =>
    go_region_held3 (fun W => (W).cell? ⟨w.heap.size, 11, none⟩ = some (.int .i64 s.round) ∧ (W).cell? ⟨w.heap.size, 1, none⟩ = some (.slice s.ra s.rl.length s.rc) ∧ (W).cell? ⟨w.heap.size + 1, 1, none⟩ = some (.int .i64 e.round) ∧ (W).cell? ⟨w.heap.size + 1, 0, none⟩ = some (.int .i64 e.now)) (first | (with_reducible exact SS0.out) | (with_reducible exact SS1.out) | (with_reducible exact SS2.out) | go_keep) (first
      | (go_at_call 22; (with_reducible refine (HQ.out _ ?hb).mono ?_); (case hb => first | exact (Below.refl _ V2).drew | exact QA.out.drew | exact QA.out | exact Below.refl _ V2); rintro z w' ⟨rfl, rfl⟩)
      | (go_at_call 21; (with_reducible refine HW1.out.mono ?_); rintro z w' ⟨rfl, rfl⟩)
      | (go_at_call 21; (with_reducible refine HW2.out.mono ?_); rintro z w' ⟨rfl, rfl⟩))
    all_goals
      go_wp2_with fail
      go_meet
      refine ⟨rfl, ?_⟩
      first | exact QB.out.drew | exact QB.out | exact QA.out.drew | exact QA.out
  case rest =>
  obtain ⟨rfl, b⟩ := hcut
  clear c1 c11 e0 e1 ca1 ca11 ea0 ea1 cb1 cb11 eb0 eb1 SA EA SB EB LA QA QB HQ HW1 SS0 SS1 SS2
  obtain ⟨V3, hV3⟩ : ∃ V3, V3 = wc := ⟨_, rfl⟩
  subst hV3
  have S3 := Lib.hid ((b.block _ (blk_lt S2.out)).trans S2.out)
  have E3 := Lib.hid ((b.block _ (blk_lt E2.out)).trans E2.out)
  have R3 := Lib.hid ((b.block _ (blk_lt R2.out)).trans R2.out)
  have L3 := Lib.hid (L2.out.belowT b)
  have Q3 := Lib.hid (Q2.out.trans (b.mono Q2.out.size))
  have hs3 : w.heap.size + 3 ≤ V3.heap.size := by have := b.size; omega
  clear b S2 E2 R2 L2 Q2
  have e2 := blk_cell E3.out 2
  have e3 := blk_cell E3.out 3
  have e4 := blk_cell E3.out 4
  go_wp2_with fail
  refine (wn_no 0 1073741824 [e.rate, e.rtt, e.flight] _ _ _ _ _ _ rfl rfl (by first | simp | rfl) (by simp) H3.out).mono ?_
  rintro z w' ⟨rfl, rfl⟩
  have b := (Below.refl V3.heap.size V3).alloc (Nat.le_refl _) (.cells (List.map (fun x => Value.int .i64 x) [e.rate, e.rtt, e.flight]).toArray 3)
  simp only [List.map_cons, List.map_nil] at b ⊢
  generalize V3.alloc (.cells [Value.int .i64 e.rate, Value.int .i64 e.rtt, Value.int .i64 e.flight].toArray 3) = V4 at b ⊢
  clear e2 e3 e4
  have S4 := Lib.hid ((b.block _ (blk_lt S3.out)).trans S3.out)
  have E4 := Lib.hid ((b.block _ (blk_lt E3.out)).trans E3.out)
  have R4 := Lib.hid ((b.block _ (blk_lt R3.out)).trans R3.out)
  have L4 := Lib.hid (L3.out.belowT b)
  have Q4 := Lib.hid (Q3.out.trans (b.mono Q3.out.size))
  have hs4 : w.heap.size + 3 ≤ V4.heap.size := by have := b.size; omega
  clear b S3 E3 R3 L3 Q3
  have r0 := blk_cell R4.out 0
  have q0 := blk_free R4.out 0
  have r1 := blk_cell R4.out 1
  have q1 := blk_free R4.out 1
  have r2 := blk_cell R4.out 2
  have q2 := blk_free R4.out 2
  have r3 := blk_cell R4.out 3
  have q3 := blk_free R4.out 3
  have r4 := blk_cell R4.out 4
  have q4 := blk_free R4.out 4
  have r5 := blk_cell R4.out 5
  have q5 := blk_free R4.out 5
  have r6 := blk_cell R4.out 6
  have q6 := blk_free R4.out 6
  have r7 := blk_cell R4.out 7
  have q7 := blk_free R4.out 7
  have r8 := blk_cell R4.out 8
  have q8 := blk_free R4.out 8
  have r9 := blk_cell R4.out 9
  have q9 := blk_free R4.out 9
  have r10 := blk_cell R4.out 10
  have q10 := blk_free R4.out 10
  have r11 := blk_cell R4.out 11
  have q11 := blk_free R4.out 11
  go_wp2
  obtain ⟨RW, GW⟩ := set12 V4 (w.heap.size + 1 + 1) _ _ _ _ _ _ _ _ _ _ _ _ _ (.int .i64 0) (.slice none 0 0) (.bool false) (.int .i64 0) (.int .i64 0) (.bool false) (.int .i64 0) (.int .i64 0) (.int .i64 0) (.int .i64 0) (.int .i64 0) (.int .i64 0) R4.out
  clear r0 q0 r1 q1 r2 q2 r3 q3 r4 q4 r5 q5 r6 q6 r7 q7 r8 q8 r9 q9 r10 q10 r11 q11
  generalize ((((((((((((V4).setCell ⟨w.heap.size + 1 + 1, 0, none⟩ (.int .i64 0)).setCell ⟨w.heap.size + 1 + 1, 1, none⟩ (.slice none 0 0)).setCell ⟨w.heap.size + 1 + 1, 2, none⟩ (.bool false)).setCell ⟨w.heap.size + 1 + 1, 3, none⟩ (.int .i64 0)).setCell ⟨w.heap.size + 1 + 1, 4, none⟩ (.int .i64 0)).setCell ⟨w.heap.size + 1 + 1, 5, none⟩ (.bool false)).setCell ⟨w.heap.size + 1 + 1, 6, none⟩ (.int .i64 0)).setCell ⟨w.heap.size + 1 + 1, 7, none⟩ (.int .i64 0)).setCell ⟨w.heap.size + 1 + 1, 8, none⟩ (.int .i64 0)).setCell ⟨w.heap.size + 1 + 1, 9, none⟩ (.int .i64 0)).setCell ⟨w.heap.size + 1 + 1, 10, none⟩ (.int .i64 0)).setCell ⟨w.heap.size + 1 + 1, 11, none⟩ (.int .i64 0) = W at RW GW ⊢
  have r0 := blk_cell RW 0
  have r1 := blk_cell RW 1
  have r2 := blk_cell RW 2
  have r3 := blk_cell RW 3
  have r4 := blk_cell RW 4
  have r5 := blk_cell RW 5
  have r6 := blk_cell RW 6
  have r7 := blk_cell RW 7
  have r8 := blk_cell RW 8
  have r9 := blk_cell RW 9
  have r10 := blk_cell RW 10
  have r11 := blk_cell RW 11
  refine bodyPost_ret (v := .tuple #[.agg #[.int .i64 0, .slice none 0 0, .bool false, .int .i64 0, .int .i64 0, .bool false, .int .i64 0, .int .i64 0, .int .i64 0, .int .i64 0, .int .i64 0, .int .i64 0], .int .i64 4]) (by simp [results, Try.results15, go_sem, *]) rfl ?_
  exact ⟨rfl, below_gr3 Q4.out (by omega) GW⟩
end Go.Proofs.Ytokoogohdfepiaa
