/- Bbr: the document's Ack of a state that may be and an event that may follow. -/
import Derived.Test.YtokoogohdfepiaaBbU4
import Derived.Test.YtokoogohdfepiaaBbO
import Derived.Test.YtokoogohdfepiaaBbL
import Derived.BigRegion
import Derived.Deep.CutBlock
namespace Go.Proofs.Ytokoogohdfepiaa
open Go.RowKit


set_option maxRecDepth 100000 in
set_option maxHeartbeats 12000000 in
theorem rack_no (s : Bs) (m : Int) (e : Be) (w : World) (hv : SV s) (hL : Sts 2 PC Tr w s.ra s.rl) (he : ¬ ((1 ≤ m ∧ m ≤ 65535) ∧ EvV s e)) :
    Calls Try.prog 16 #[.agg #[.int .i64 s.phase, .slice s.ra s.rl.length s.rc, .bool s.hasRtt, .int .i64 s.rtt, .int .i64 s.rttAt, .bool s.full, .int .i64 s.fullRate, .int .i64 s.fullRounds, .int .i64 s.cycle, .int .i64 s.cycleAt, .int .i64 s.til, .int .i64 s.round], .int .i64 m, .agg #[.int .i64 e.now, .int .i64 e.round, .int .i64 e.rate, .int .i64 e.rtt, .int .i64 e.flight, .bool e.hasRate, .bool e.hasRtt]] w fun z w' => z = .returned (.tuple #[.agg #[.int .i64 0, .slice none 0 0, .bool false, .int .i64 0, .int .i64 0, .bool false, .int .i64 0, .int .i64 0, .int .i64 0, .int .i64 0, .int .i64 0, .int .i64 0], .int .i64 4]) ∧ Below w.heap.size w w' := by
  have HV := Lib.hid hv
  have hl := hv.rates.1
  have HMY := Lib.hid (fun (W : World) (hW : Sts 2 PC Tr W s.ra s.rl) => rmay_b false s m e W hv hW ⟨fun h => absurd h (by decide), fun h => absurd h he⟩)
  have b1 := (Below.refl w.heap.size w).alloc (Nat.le_refl _) (.cells #[.int .i64 s.phase, .slice s.ra s.rl.length s.rc, .bool s.hasRtt, .int .i64 s.rtt, .int .i64 s.rttAt, .bool s.full, .int .i64 s.fullRate, .int .i64 s.fullRounds, .int .i64 s.cycle, .int .i64 s.cycleAt, .int .i64 s.til, .int .i64 s.round] 42)
  have b2 := b1.alloc b1.size (.cells #[.int .i64 e.now, .int .i64 e.round, .int .i64 e.rate, .int .i64 e.rtt, .int .i64 e.flight, .bool e.hasRate, .bool e.hasRtt] 47)
  have b3 := b2.alloc b2.size (.cells #[.int .i64 0, .slice none 0 0, .bool false, .int .i64 0, .int .i64 0, .bool false, .int .i64 0, .int .i64 0, .int .i64 0, .int .i64 0, .int .i64 0, .int .i64 0] 42)
  have L1 := Lib.hid (hL.belowT b3)
  have Q1 := Lib.hid b3
  obtain ⟨x1, x2, x3, hsz⟩ := three w (.cells #[.int .i64 s.phase, .slice s.ra s.rl.length s.rc, .bool s.hasRtt, .int .i64 s.rtt, .int .i64 s.rttAt, .bool s.full, .int .i64 s.fullRate, .int .i64 s.fullRounds, .int .i64 s.cycle, .int .i64 s.cycleAt, .int .i64 s.til, .int .i64 s.round] 42) (.cells #[.int .i64 e.now, .int .i64 e.round, .int .i64 e.rate, .int .i64 e.rtt, .int .i64 e.flight, .bool e.hasRate, .bool e.hasRtt] 47) (.cells #[.int .i64 0, .slice none 0 0, .bool false, .int .i64 0, .int .i64 0, .bool false, .int .i64 0, .int .i64 0, .int .i64 0, .int .i64 0, .int .i64 0, .int .i64 0] 42)
  have S1 := Lib.hid x1
  have E1 := Lib.hid x2
  have R1 := Lib.hid x3
  clear b1 b2 b3 hv he hL x1 x2 x3
  go_enter Try.func16, Try.ntmps16
  go_upto_region 1 with fail
  generalize ((w.alloc (.cells #[.int .i64 s.phase, .slice s.ra s.rl.length s.rc, .bool s.hasRtt, .int .i64 s.rtt, .int .i64 s.rttAt, .bool s.full, .int .i64 s.fullRate, .int .i64 s.fullRounds, .int .i64 s.cycle, .int .i64 s.cycleAt, .int .i64 s.til, .int .i64 s.round] 42)).alloc (.cells #[.int .i64 e.now, .int .i64 e.round, .int .i64 e.rate, .int .i64 e.rtt, .int .i64 e.flight, .bool e.hasRate, .bool e.hasRtt] 47)).alloc (.cells #[.int .i64 0, .slice none 0 0, .bool false, .int .i64 0, .int .i64 0, .bool false, .int .i64 0, .int .i64 0, .int .i64 0, .int .i64 0, .int .i64 0, .int .i64 0] 42) = V1 at S1 E1 R1 L1 Q1 hsz ⊢
  have c0 := blk_cell S1.out 0
  have c1 := blk_cell S1.out 1
  have c2 := blk_cell S1.out 2
  have c3 := blk_cell S1.out 3
  have c4 := blk_cell S1.out 4
  have c5 := blk_cell S1.out 5
  have c6 := blk_cell S1.out 6
  have c7 := blk_cell S1.out 7
  have c8 := blk_cell S1.out 8
  have c9 := blk_cell S1.out 9
  have c10 := blk_cell S1.out 10
  have c11 := blk_cell S1.out 11
  go_wp2_with fail
  refine (rcheck_ok s V1 HV.out L1.out).mono ?_
  rintro z V2 ⟨rfl, b⟩
  clear c0 c1 c2 c3 c4 c5 c6 c7 c8 c9 c10 c11
  have S2 := Lib.hid ((b.block _ (blk_lt S1.out)).trans S1.out)
  have E2 := Lib.hid ((b.block _ (blk_lt E1.out)).trans E1.out)
  have R2 := Lib.hid ((b.block _ (blk_lt R1.out)).trans R1.out)
  have L2 := Lib.hid (L1.out.belowT b)
  have Q2 := Lib.hid (Q1.out.trans (b.mono Q1.out.size))
  have hs2 : w.heap.size + 3 ≤ V2.heap.size := by have := b.size; omega
  clear b S1 E1 R1 L1 Q1
  go_upto_region 3 with fail
  have c0 := blk_cell S2.out 0
  have c1 := blk_cell S2.out 1
  have c2 := blk_cell S2.out 2
  have c3 := blk_cell S2.out 3
  have c4 := blk_cell S2.out 4
  have c5 := blk_cell S2.out 5
  have c6 := blk_cell S2.out 6
  have c7 := blk_cell S2.out 7
  have c8 := blk_cell S2.out 8
  have c9 := blk_cell S2.out 9
  have c10 := blk_cell S2.out 10
  have c11 := blk_cell S2.out 11
  have e0 := blk_cell E2.out 0
  have e1 := blk_cell E2.out 1
  have e2 := blk_cell E2.out 2
  have e3 := blk_cell E2.out 3
  have e4 := blk_cell E2.out 4
  have e5 := blk_cell E2.out 5
  have e6 := blk_cell E2.out 6
  go_wp2_with fail
  refine (HMY.out V2 L2.out).mono ?_
  rintro z V3 ⟨rfl, b⟩
  clear c0 c1 c2 c3 c4 c5 c6 c7 c8 c9 c10 c11 e0 e1 e2 e3 e4 e5 e6 HMY
  have S3 := Lib.hid ((b.block _ (blk_lt S2.out)).trans S2.out)
  have E3 := Lib.hid ((b.block _ (blk_lt E2.out)).trans E2.out)
  have R3 := Lib.hid ((b.block _ (blk_lt R2.out)).trans R2.out)
  have L3 := Lib.hid (L2.out.belowT b)
  have Q3 := Lib.hid (Q2.out.trans (b.mono Q2.out.size))
  have hs3 : w.heap.size + 3 ≤ V3.heap.size := by have := b.size; omega
  clear b S2 E2 R2 L2 Q2
  have r0 := blk_cell R3.out 0
  have q0 := blk_free R3.out 0
  have r1 := blk_cell R3.out 1
  have q1 := blk_free R3.out 1
  have r2 := blk_cell R3.out 2
  have q2 := blk_free R3.out 2
  have r3 := blk_cell R3.out 3
  have q3 := blk_free R3.out 3
  have r4 := blk_cell R3.out 4
  have q4 := blk_free R3.out 4
  have r5 := blk_cell R3.out 5
  have q5 := blk_free R3.out 5
  have r6 := blk_cell R3.out 6
  have q6 := blk_free R3.out 6
  have r7 := blk_cell R3.out 7
  have q7 := blk_free R3.out 7
  have r8 := blk_cell R3.out 8
  have q8 := blk_free R3.out 8
  have r9 := blk_cell R3.out 9
  have q9 := blk_free R3.out 9
  have r10 := blk_cell R3.out 10
  have q10 := blk_free R3.out 10
  have r11 := blk_cell R3.out 11
  have q11 := blk_free R3.out 11
  go_wp2
  obtain ⟨RW, GW⟩ := set12 V3 (w.heap.size + 1 + 1) _ _ _ _ _ _ _ _ _ _ _ _ _ (.int .i64 0) (.slice none 0 0) (.bool false) (.int .i64 0) (.int .i64 0) (.bool false) (.int .i64 0) (.int .i64 0) (.int .i64 0) (.int .i64 0) (.int .i64 0) (.int .i64 0) R3.out
  clear r0 q0 r1 q1 r2 q2 r3 q3 r4 q4 r5 q5 r6 q6 r7 q7 r8 q8 r9 q9 r10 q10 r11 q11
  generalize ((((((((((((V3).setCell ⟨w.heap.size + 1 + 1, 0, none⟩ (.int .i64 0)).setCell ⟨w.heap.size + 1 + 1, 1, none⟩ (.slice none 0 0)).setCell ⟨w.heap.size + 1 + 1, 2, none⟩ (.bool false)).setCell ⟨w.heap.size + 1 + 1, 3, none⟩ (.int .i64 0)).setCell ⟨w.heap.size + 1 + 1, 4, none⟩ (.int .i64 0)).setCell ⟨w.heap.size + 1 + 1, 5, none⟩ (.bool false)).setCell ⟨w.heap.size + 1 + 1, 6, none⟩ (.int .i64 0)).setCell ⟨w.heap.size + 1 + 1, 7, none⟩ (.int .i64 0)).setCell ⟨w.heap.size + 1 + 1, 8, none⟩ (.int .i64 0)).setCell ⟨w.heap.size + 1 + 1, 9, none⟩ (.int .i64 0)).setCell ⟨w.heap.size + 1 + 1, 10, none⟩ (.int .i64 0)).setCell ⟨w.heap.size + 1 + 1, 11, none⟩ (.int .i64 0) = W at RW GW ⊢
  have r0 := blk_cell RW 0
  have r1 := blk_cell RW 1
  have r2 := blk_cell RW 2
  have r3 := blk_cell RW 3
  have r4 := blk_cell RW 4
  have r5 := blk_cell RW 5
  have r6 := blk_cell RW 6
  have r7 := blk_cell RW 7
  have r8 := blk_cell RW 8
  have r9 := blk_cell RW 9
  have r10 := blk_cell RW 10
  have r11 := blk_cell RW 11
  refine bodyPost_ret (v := .tuple #[.agg #[.int .i64 0, .slice none 0 0, .bool false, .int .i64 0, .int .i64 0, .bool false, .int .i64 0, .int .i64 0, .int .i64 0, .int .i64 0, .int .i64 0, .int .i64 0], .int .i64 4]) (by simp [results, Try.results16, go_sem, *]) rfl ?_
  exact ⟨rfl, below_gr3 Q3.out (by omega) GW⟩

set_option maxRecDepth 100000 in
set_option maxHeartbeats 12000000 in
theorem rack_ok (s : Bs) (m : Int) (e : Be) (w : World) (hv : SV s) (hL : Sts 2 PC Tr w s.ra s.rl) (hn : s.ra = none → s.rc = 0) (hm : 1 ≤ m ∧ m ≤ 65535) (he : EvV s e) :
    Calls Try.prog 16 #[.agg #[.int .i64 s.phase, .slice s.ra s.rl.length s.rc, .bool s.hasRtt, .int .i64 s.rtt, .int .i64 s.rttAt, .bool s.full, .int .i64 s.fullRate, .int .i64 s.fullRounds, .int .i64 s.cycle, .int .i64 s.cycleAt, .int .i64 s.til, .int .i64 s.round], .int .i64 m, .agg #[.int .i64 e.now, .int .i64 e.round, .int .i64 e.rate, .int .i64 e.rtt, .int .i64 e.flight, .bool e.hasRate, .bool e.hasRtt]] w fun z w' => (∃ t : Bs, (∃ a' c', t = ackF s e a' c') ∧ z = .returned (.tuple #[.agg #[.int .i64 t.phase, .slice t.ra t.rl.length t.rc, .bool t.hasRtt, .int .i64 t.rtt, .int .i64 t.rttAt, .bool t.full, .int .i64 t.fullRate, .int .i64 t.fullRounds, .int .i64 t.cycle, .int .i64 t.cycleAt, .int .i64 t.til, .int .i64 t.round], .int .i64 0]) ∧ OwnR 58 2 PC w.heap.size t.ra t.rl t.rc w') ∧ Below w.heap.size w w' := by
  have HV := Lib.hid hv
  have hl := hv.rates.1
  have HE := Lib.hid he
  have HN := Lib.hid hn
  have HMY := Lib.hid (fun (W : World) (hW : Sts 2 PC Tr W s.ra s.rl) => rmay_b true s m e W hv hW ⟨fun _ => ⟨hm, he⟩, fun _ => rfl⟩)
  clear hn hm
  have b1 := (Below.refl w.heap.size w).alloc (Nat.le_refl _) (.cells #[.int .i64 s.phase, .slice s.ra s.rl.length s.rc, .bool s.hasRtt, .int .i64 s.rtt, .int .i64 s.rttAt, .bool s.full, .int .i64 s.fullRate, .int .i64 s.fullRounds, .int .i64 s.cycle, .int .i64 s.cycleAt, .int .i64 s.til, .int .i64 s.round] 42)
  have b2 := b1.alloc b1.size (.cells #[.int .i64 e.now, .int .i64 e.round, .int .i64 e.rate, .int .i64 e.rtt, .int .i64 e.flight, .bool e.hasRate, .bool e.hasRtt] 47)
  have b3 := b2.alloc b2.size (.cells #[.int .i64 0, .slice none 0 0, .bool false, .int .i64 0, .int .i64 0, .bool false, .int .i64 0, .int .i64 0, .int .i64 0, .int .i64 0, .int .i64 0, .int .i64 0] 42)
  have L1 := Lib.hid (hL.belowT b3)
  have Q1 := Lib.hid b3
  obtain ⟨x1, x2, x3, hsz⟩ := three w (.cells #[.int .i64 s.phase, .slice s.ra s.rl.length s.rc, .bool s.hasRtt, .int .i64 s.rtt, .int .i64 s.rttAt, .bool s.full, .int .i64 s.fullRate, .int .i64 s.fullRounds, .int .i64 s.cycle, .int .i64 s.cycleAt, .int .i64 s.til, .int .i64 s.round] 42) (.cells #[.int .i64 e.now, .int .i64 e.round, .int .i64 e.rate, .int .i64 e.rtt, .int .i64 e.flight, .bool e.hasRate, .bool e.hasRtt] 47) (.cells #[.int .i64 0, .slice none 0 0, .bool false, .int .i64 0, .int .i64 0, .bool false, .int .i64 0, .int .i64 0, .int .i64 0, .int .i64 0, .int .i64 0, .int .i64 0] 42)
  have S1 := Lib.hid x1
  have E1 := Lib.hid x2
  have R1 := Lib.hid x3
  clear b1 b2 b3 hv he hL x1 x2 x3
  go_enter Try.func16, Try.ntmps16
  go_upto_region 1 with fail
  generalize ((w.alloc (.cells #[.int .i64 s.phase, .slice s.ra s.rl.length s.rc, .bool s.hasRtt, .int .i64 s.rtt, .int .i64 s.rttAt, .bool s.full, .int .i64 s.fullRate, .int .i64 s.fullRounds, .int .i64 s.cycle, .int .i64 s.cycleAt, .int .i64 s.til, .int .i64 s.round] 42)).alloc (.cells #[.int .i64 e.now, .int .i64 e.round, .int .i64 e.rate, .int .i64 e.rtt, .int .i64 e.flight, .bool e.hasRate, .bool e.hasRtt] 47)).alloc (.cells #[.int .i64 0, .slice none 0 0, .bool false, .int .i64 0, .int .i64 0, .bool false, .int .i64 0, .int .i64 0, .int .i64 0, .int .i64 0, .int .i64 0, .int .i64 0] 42) = V1 at S1 E1 R1 L1 Q1 hsz ⊢
  have c0 := blk_cell S1.out 0
  have c1 := blk_cell S1.out 1
  have c2 := blk_cell S1.out 2
  have c3 := blk_cell S1.out 3
  have c4 := blk_cell S1.out 4
  have c5 := blk_cell S1.out 5
  have c6 := blk_cell S1.out 6
  have c7 := blk_cell S1.out 7
  have c8 := blk_cell S1.out 8
  have c9 := blk_cell S1.out 9
  have c10 := blk_cell S1.out 10
  have c11 := blk_cell S1.out 11
  go_wp2_with fail
  refine (rcheck_ok s V1 HV.out L1.out).mono ?_
  rintro z V2 ⟨rfl, b⟩
  clear c0 c1 c2 c3 c4 c5 c6 c7 c8 c9 c10 c11
  have S2 := Lib.hid ((b.block _ (blk_lt S1.out)).trans S1.out)
  have E2 := Lib.hid ((b.block _ (blk_lt E1.out)).trans E1.out)
  have R2 := Lib.hid ((b.block _ (blk_lt R1.out)).trans R1.out)
  have L2 := Lib.hid (L1.out.belowT b)
  have Q2 := Lib.hid (Q1.out.trans (b.mono Q1.out.size))
  have hs2 : w.heap.size + 3 ≤ V2.heap.size := by have := b.size; omega
  clear b S1 E1 R1 L1 Q1
  go_upto_region 3 with fail
  have c0 := blk_cell S2.out 0
  have c1 := blk_cell S2.out 1
  have c2 := blk_cell S2.out 2
  have c3 := blk_cell S2.out 3
  have c4 := blk_cell S2.out 4
  have c5 := blk_cell S2.out 5
  have c6 := blk_cell S2.out 6
  have c7 := blk_cell S2.out 7
  have c8 := blk_cell S2.out 8
  have c9 := blk_cell S2.out 9
  have c10 := blk_cell S2.out 10
  have c11 := blk_cell S2.out 11
  have e0 := blk_cell E2.out 0
  have e1 := blk_cell E2.out 1
  have e2 := blk_cell E2.out 2
  have e3 := blk_cell E2.out 3
  have e4 := blk_cell E2.out 4
  have e5 := blk_cell E2.out 5
  have e6 := blk_cell E2.out 6
  go_wp2_with fail
  refine (HMY.out V2 L2.out).mono ?_
  rintro z V3 ⟨rfl, b⟩
  clear c0 c1 c2 c3 c4 c5 c6 c7 c8 c9 c10 c11 e0 e1 e2 e3 e4 e5 e6 HMY
  have S3 := Lib.hid ((b.block _ (blk_lt S2.out)).trans S2.out)
  have E3 := Lib.hid ((b.block _ (blk_lt E2.out)).trans E2.out)
  have R3 := Lib.hid ((b.block _ (blk_lt R2.out)).trans R2.out)
  have L3 := Lib.hid (L2.out.belowT b)
  have Q3 := Lib.hid (Q2.out.trans (b.mono Q2.out.size))
  have hs3 : w.heap.size + 3 ≤ V3.heap.size := by have := b.size; omega
  clear b S2 E2 R2 L2 Q2
  obtain ⟨hb, hhb⟩ : ∃ hb, e.hasRate = hb := ⟨_, rfl⟩
  have HHB := Lib.hid hhb
  clear hhb
  have bal : ∀ (W : World) (o : Obj), Below W.heap.size W (W.alloc o) := fun W o => (Below.refl W.heap.size W).alloc (Nat.le_refl _) o
  go_upto_region 6 with fail
  have c1 := blk_cell S3.out 1
  have f1 := blk_free S3.out 1
  go_upto_if 29 with (first
    | (refine wpList_append_r (t := 22) (e := 58) (z := .agg #[.int .i64 0, .int .i64 0]) (m := 2) (bz := 16) (cells := PC) (xs := ([] : List Pair23)) (ys := s.rl) (cap := 0) (dap := s.rc) (n := s.rl.length) (a := none) (b := s.ra) rfl elemR encP (.tmp 23) (.tmp 25) rfl (w.heap.size + 3) rfl ?_ ?_ ?_ ?_ ?_ ?_ ?_ ?_ ?_; exact ownR_nil _ _ _ _ _; exact L3.out; exact HN.out; rfl; rfl; (simp only [List.length_nil]; omega); (unfold maxLen; simp only [List.length_nil]; omega); exact hs3; intro a5 c5 W5 O5 b5 g5; have S4 := Lib.hid ((b5.block _ (by omega)).trans S3.out); have E4 := Lib.hid ((b5.block _ (by omega)).trans E3.out); have R4 := Lib.hid ((b5.block _ (by omega)).trans R3.out); have Q4 := Lib.hid (Q3.out.trans (b5.mono (by omega))); have O4 := Lib.hid (show OwnR 58 2 PC (w.heap.size + 3) a5 s.rl c5 W5 from O5); have c1' := blk_cell S4.out 1; have f1' := blk_free S4.out 1; have e5' : W5.cell? ⟨w.heap.size + 1, 5, none⟩ = some (.bool hb) := (blk_cell E4.out 5).trans (congrArg (fun z => some (Value.bool z)) HHB.out); clear c1 f1 O5 b5 g5)
    | fail)
  have hgA : W5.grownBy (W5.setCell ⟨w.heap.size, 1, none⟩ (.slice a5 s.rl.length c5)) (some w.heap.size) := gr_set _ w.heap.size 1 _
  have S5 := Lib.hid (blk_set S4.out 1 (.slice a5 s.rl.length c5))
  have E5 := Lib.hid (gr_blk E4.out hgA (by omega))
  have R5 := Lib.hid (gr_blk R4.out hgA (by omega))
  have O5 := Lib.hid (O4.out.grownN hgA (by omega))
  have G5 := Lib.hid (gr_trans (gr_below (w := w) Q4.out (some w.heap.size)) hgA)
  clear S4 E4 R4 O4 Q4 S3 E3 R3 L3 Q3 c1' f1' e5' hgA bal
  simp only [List.setIfInBounds_toArray, List.set_cons_zero, List.set_cons_succ] at S5
  generalize W5.setCell ⟨w.heap.size, 1, none⟩ (.slice a5 s.rl.length c5) = V5 at S5 E5 R5 O5 G5 ⊢
  go_cut [] (fun (wx : World) => ∃ t : Bs, (∃ a' c', t = { s with ra := a', rl := lF s e, rc := c' }) ∧ wx.heap[w.heap.size]? = some (.cells #[.int .i64 t.phase, .slice t.ra t.rl.length t.rc, .bool t.hasRtt, .int .i64 t.rtt, .int .i64 t.rttAt, .bool t.full, .int .i64 t.fullRate, .int .i64 t.fullRounds, .int .i64 t.cycle, .int .i64 t.cycleAt, .int .i64 t.til, .int .i64 t.round] 42 (0, 0)) ∧ wx.heap[w.heap.size + 1]? = some (.cells #[.int .i64 e.now, .int .i64 e.round, .int .i64 e.rate, .int .i64 e.rtt, .int .i64 e.flight, .bool e.hasRate, .bool e.hasRtt] 47 (0, 0)) ∧ wx.heap[w.heap.size + 1 + 1]? = some (.cells #[.int .i64 0, .slice none 0 0, .bool false, .int .i64 0, .int .i64 0, .bool false, .int .i64 0, .int .i64 0, .int .i64 0, .int .i64 0, .int .i64 0, .int .i64 0] 42 (0, 0)) ∧ OwnR 58 2 PC (w.heap.size + 3) t.ra t.rl t.rc wx ∧ w.grownBy wx (some w.heap.size))
  case first =>
    cases hb with
    | false =>
      have HLF : Hid (lF s e = s.rl) := Lib.hid (if_neg (by rw [HHB.out]; decide))
      go_wp2_with fail
      go_meet
      exact ⟨{ s with ra := a5, rc := c5 }, ⟨a5, c5, by rw [HLF.out]⟩, S5.out, E5.out, R5.out, O5.out, G5.out⟩
    | true =>
      have HLF : Hid (lF s e = rfilt e.round e.rate s.rl) := Lib.hid ((if_pos HHB.out).trans (rfilt_eq HV.out.rates HE.out.last).symm)
      have c1 := blk_cell S5.out 1
      have e1 := blk_cell E5.out 1
      have e2 := blk_cell E5.out 2
      go_wp2_with fail
      refine (rfilter_any e.round e.rate a5 s.rl c5 _ (O5.out.sts encP) HV.out.rates HE.out.round.1 HE.out.round.2).mono ?_
      rintro z V6 ⟨⟨a', c', rfl, O⟩, b⟩
      have hg5 := blk_lt S5.out
      have he5 := blk_lt E5.out
      have hr5 := blk_lt R5.out
      have S6 := Lib.hid ((b.block _ hg5).trans S5.out)
      have E6 := Lib.hid ((b.block _ he5).trans E5.out)
      have R6 := Lib.hid ((b.block _ hr5).trans R5.out)
      have O6 := Lib.hid (O.mono (by omega : w.heap.size + 3 ≤ V5.heap.size))
      have G6 := Lib.hid (gr_trans G5.out (gr_below b (some w.heap.size)))
      clear b O S5 E5 R5 O5 G5 c1 e1 e2
      have c1 := blk_cell S6.out 1
      have f1 := blk_free S6.out 1
      go_wp2_with fail
      go_meet
      exact ⟨{ s with ra := a', rl := rfilt e.round e.rate s.rl, rc := c' }, ⟨a', c', by rw [HLF.out]⟩, blk_set S6.out 1 (.slice a' (rfilt e.round e.rate s.rl).length c'), stay E6.out R6.out O6.out G6.out (gr_set _ w.heap.size 1 _)⟩
  case rest =>
  obtain ⟨t, ht, hS, hE, hR, hO, hG⟩ := hcut
  have htH := Lib.hid ht
  have S7 := Lib.hid hS
  have E7 := Lib.hid hE
  have R7 := Lib.hid hR
  have O7 := Lib.hid hO
  have G7 := Lib.hid hG
  clear ht hS hE hR hO hG S5 E5 R5 O5 G5
  obtain ⟨V7, hVV⟩ : ∃ V, V = wc := ⟨_, rfl⟩
  subst hVV
  have htp : t.round = s.round ∧ t.full = s.full ∧ t.rl = lF s e ∧ t.fullRate = s.fullRate ∧ t.fullRounds = s.fullRounds := by obtain ⟨a', c', h⟩ := htH.out; rw [h]; exact ⟨rfl, rfl, rfl, rfl, rfl⟩
  have HTP := Lib.hid htp
  have TV : Hid (SV { t with round := e.round }) := Lib.hid (by obtain ⟨a', c', h⟩ := htH.out; rw [h]; have hv := HV.out; exact ⟨hv.phase, hv.cycle, lF_fv hv HE.out, hv.rtt, hv.rttAt, hv.fullRate, hv.fullRounds, hv.cycleAt, hv.til, HE.out.round⟩)
  clear htp
  obtain ⟨fb, hfb⟩ : ∃ fb : Bool, decide (t.round < e.round) = fb := ⟨_, rfl⟩
  have e1 := blk_cell E7.out 1
  have c11 := blk_cell S7.out 11
  have f11 := blk_free S7.out 11
  go_upto_region 11 with fail
  have HFB := Lib.hid hfb
  clear hfb
  have S8 := Lib.hid (blk_set S7.out 11 (.int .i64 e.round))
  simp only [List.setIfInBounds_toArray, List.set_cons_zero, List.set_cons_succ] at S8
  have hgB : V7.grownBy (V7.setCell ⟨w.heap.size, 11, none⟩ (.int .i64 e.round)) (some w.heap.size) := gr_set _ w.heap.size 11 _
  have E8 := Lib.hid (gr_blk E7.out hgB (by omega))
  have R8 := Lib.hid (gr_blk R7.out hgB (by omega))
  have O8 := Lib.hid (O7.out.grownN hgB (by omega))
  have G8 := Lib.hid (gr_trans G7.out hgB)
  clear S7 E7 R7 O7 G7 e1 c11 f11 hgB
  generalize V7.setCell ⟨w.heap.size, 11, none⟩ (.int .i64 e.round) = V8 at S8 E8 R8 O8 G8 ⊢
  obtain ⟨fr, hfr⟩ : ∃ fr : Bool, (fb && !t.full) = fr := ⟨_, rfl⟩
  have HFR := Lib.hid hfr
  go_cut [51] (fun (cv : Value) (wx : World) => cv = .bool fr ∧ V8 = wx)
  case first =>
    have c5 := blk_cell S8.out 5
    have HF2 := Lib.hid hfr
    clear hfr
    cases fb with
    | true =>
      go_wp2_with fail
      go_meet
      exact ⟨congrArg Value.bool HF2.out, rfl⟩
    | false =>
      go_wp2_with fail
      go_meet
      exact ⟨congrArg Value.bool HF2.out, rfl⟩
  case rest =>
  obtain ⟨rfl, rfl⟩ := hcut
  clear hfr
  go_upto_if 51 with fail
  go_cut [] (fun (wx : World) => ∃ u : Bs, (∃ a' c', u = rateF s e a' c') ∧ wx.heap[w.heap.size]? = some (.cells #[.int .i64 u.phase, .slice u.ra u.rl.length u.rc, .bool u.hasRtt, .int .i64 u.rtt, .int .i64 u.rttAt, .bool u.full, .int .i64 u.fullRate, .int .i64 u.fullRounds, .int .i64 u.cycle, .int .i64 u.cycleAt, .int .i64 u.til, .int .i64 u.round] 42 (0, 0)) ∧ wx.heap[w.heap.size + 1]? = some (.cells #[.int .i64 e.now, .int .i64 e.round, .int .i64 e.rate, .int .i64 e.rtt, .int .i64 e.flight, .bool e.hasRate, .bool e.hasRtt] 47 (0, 0)) ∧ wx.heap[w.heap.size + 1 + 1]? = some (.cells #[.int .i64 0, .slice none 0 0, .bool false, .int .i64 0, .int .i64 0, .bool false, .int .i64 0, .int .i64 0, .int .i64 0, .int .i64 0, .int .i64 0, .int .i64 0] 42 (0, 0)) ∧ OwnR 58 2 PC (w.heap.size + 3) u.ra u.rl u.rc wx ∧ w.grownBy wx (some w.heap.size))
  case first =>
    have hor : ∃ a' c', t = { s with ra := a', rl := lF s e, rc := c' } := htH.out
    cases fr with
    | false =>
      go_wp2_with fail
      go_meet
      refine ⟨{ t with round := e.round }, ?_, S8.out, E8.out, R8.out, O8.out, G8.out⟩
      obtain ⟨a', c', h⟩ := hor
      refine ⟨a', c', ?_⟩
      unfold rateF
      rw [if_neg (fun hh => by have h2 := HFR.out; have h3 := HTP.out; rw [← HFB.out, h3.1, h3.2.1, decide_eq_true hh.1, hh.2] at h2; exact absurd h2 (by decide)), h]
    | true =>
      have HPP : Hid (s.round < e.round ∧ s.full = false) := Lib.hid <| by
        have h2 := HFR.out
        rw [← HFB.out, HTP.out.1, HTP.out.2.1, Bool.and_eq_true, decide_eq_true_eq, Bool.not_eq_true'] at h2
        exact h2
      have c0 := blk_cell S8.out 0
      have c1 := blk_cell S8.out 1
      have c2 := blk_cell S8.out 2
      have c3 := blk_cell S8.out 3
      have c4 := blk_cell S8.out 4
      have c5 := blk_cell S8.out 5
      have c6 := blk_cell S8.out 6
      have c7 := blk_cell S8.out 7
      have c8 := blk_cell S8.out 8
      have c9 := blk_cell S8.out 9
      have c10 := blk_cell S8.out 10
      have c11 := blk_cell S8.out 11
      go_wp2_with fail
      refine (rfull_any { t with round := e.round } _ TV.out (O8.out.sts encP)).mono ?_
      rintro z V9 ⟨⟨u, hu, rfl⟩, b⟩
      have HU := Lib.hid hu
      clear hu
      have S9 := Lib.hid ((b.block _ (blk_lt S8.out)).trans S8.out)
      have E9 := Lib.hid ((b.block _ (blk_lt E8.out)).trans E8.out)
      have R9 := Lib.hid ((b.block _ (blk_lt R8.out)).trans R8.out)
      have O9 := Lib.hid (O8.out.below b)
      have G9 := Lib.hid (gr_trans G8.out (gr_below b (some w.heap.size)))
      clear b S8 E8 R8 O8 G8 c0 c1 c2 c3 c4 c5 c6 c7 c8 c9 c10 c11
      have c0 := blk_cell S9.out 0
      have f0 := blk_free S9.out 0
      have c1 := blk_cell S9.out 1
      have f1 := blk_free S9.out 1
      have c2 := blk_cell S9.out 2
      have f2 := blk_free S9.out 2
      have c3 := blk_cell S9.out 3
      have f3 := blk_free S9.out 3
      have c4 := blk_cell S9.out 4
      have f4 := blk_free S9.out 4
      have c5 := blk_cell S9.out 5
      have f5 := blk_free S9.out 5
      have c6 := blk_cell S9.out 6
      have f6 := blk_free S9.out 6
      have c7 := blk_cell S9.out 7
      have f7 := blk_free S9.out 7
      have c8 := blk_cell S9.out 8
      have f8 := blk_free S9.out 8
      have c9 := blk_cell S9.out 9
      have f9 := blk_free S9.out 9
      have c10 := blk_cell S9.out 10
      have f10 := blk_free S9.out 10
      have c11 := blk_cell S9.out 11
      have f11 := blk_free S9.out 11
      go_wp2_with fail
      go_meet
      obtain ⟨RW, GW⟩ := set12 V9 w.heap.size _ _ _ _ _ _ _ _ _ _ _ _ _ (.int .i64 u.phase) (.slice u.ra u.rl.length u.rc) (.bool u.hasRtt) (.int .i64 u.rtt) (.int .i64 u.rttAt) (.bool u.full) (.int .i64 u.fullRate) (.int .i64 u.fullRounds) (.int .i64 u.cycle) (.int .i64 u.cycleAt) (.int .i64 u.til) (.int .i64 u.round) S9.out
      have hlist : u.ra = t.ra ∧ u.rl = t.rl ∧ u.rc = t.rc := by rw [HU.out]; unfold fullF; split <;> exact ⟨rfl, rfl, rfl⟩
      refine ⟨u, ?_, RW, stay E9.out R9.out (show OwnR 58 2 PC (w.heap.size + 3) u.ra u.rl u.rc V9 by rw [hlist.1, hlist.2.1, hlist.2.2]; exact O9.out) G9.out GW⟩
      obtain ⟨a', c', h⟩ := hor
      refine ⟨a', c', ?_⟩
      rw [HU.out, h]
      unfold rateF fullF
      rw [if_pos HPP.out]
  case rest =>
  obtain ⟨u, hu, hS, hE, hR, hO, hG⟩ := hcut
  have huH := Lib.hid hu
  have S10 := Lib.hid hS
  have E10 := Lib.hid hE
  have R10 := Lib.hid hR
  have O10 := Lib.hid hO
  have G10 := Lib.hid hG
  clear hu hS hE hR hO hG S8 E8 R8 O8 G8 htH HTP HFR HFB TV
  obtain ⟨V10, hVV⟩ : ∃ V, V = wc := ⟨_, rfl⟩
  subst hVV
  have UV : Hid (SV u) := Lib.hid (by obtain ⟨a', c', h⟩ := huH.out; rw [h]; exact rateF_sv HV.out HE.out a' c')
  obtain ⟨tb, htb⟩ : ∃ tb, e.hasRtt = tb := ⟨_, rfl⟩
  have HTB := Lib.hid htb
  clear htb
  have e6 : V10.cell? ⟨w.heap.size + 1, 6, none⟩ = some (.bool tb) := (blk_cell E10.out 6).trans (congrArg (fun z => some (Value.bool z)) HTB.out)
  go_upto_if 55 with fail
  go_cut [10] (fun (sv : Value) (wx : World) => ∃ y : Bs, (sv = .bool (staleF u e) ∧ y = rttF u e) ∧ wx.heap[w.heap.size]? = some (.cells #[.int .i64 y.phase, .slice y.ra y.rl.length y.rc, .bool y.hasRtt, .int .i64 y.rtt, .int .i64 y.rttAt, .bool y.full, .int .i64 y.fullRate, .int .i64 y.fullRounds, .int .i64 y.cycle, .int .i64 y.cycleAt, .int .i64 y.til, .int .i64 y.round] 42 (0, 0)) ∧ wx.heap[w.heap.size + 1]? = some (.cells #[.int .i64 e.now, .int .i64 e.round, .int .i64 e.rate, .int .i64 e.rtt, .int .i64 e.flight, .bool e.hasRate, .bool e.hasRtt] 47 (0, 0)) ∧ wx.heap[w.heap.size + 1 + 1]? = some (.cells #[.int .i64 0, .slice none 0 0, .bool false, .int .i64 0, .int .i64 0, .bool false, .int .i64 0, .int .i64 0, .int .i64 0, .int .i64 0, .int .i64 0, .int .i64 0] 42 (0, 0)) ∧ OwnR 58 2 PC (w.heap.size + 3) y.ra y.rl y.rc wx ∧ w.grownBy wx (some w.heap.size))
  case first =>
    have c2 := blk_cell S10.out 2
    have f2 := blk_free S10.out 2
    have c3 := blk_cell S10.out 3
    have f3 := blk_free S10.out 3
    have c4 := blk_cell S10.out 4
    have f4 := blk_free S10.out 4
    have e0 := blk_cell E10.out 0
    have e3 := blk_cell E10.out 3
    have hat := UV.out.rttAt
    have wa : IntKind.i64.wrap (u.rttAt + 10240) = u.rttAt + 10240 := IntWalk.i64_in _ ⟨by omega, by omega⟩
    clear hat
    cases tb with
    | false =>
      go_wp2_with fail
      go_meet
      exact ⟨u, ⟨by rw [show staleF u e = false by unfold staleF; rw [HTB.out]; rfl], (if_neg (fun h2 => by rw [HTB.out] at h2; exact absurd h2.1 (by decide))).symm⟩, S10.out, E10.out, R10.out, O10.out, G10.out⟩
    | true =>
      rcases (Bool.eq_false_or_eq_true u.hasRtt).symm with h1 | h1
      · have H1 := Lib.hid h1
        rw [H1.out] at c2
        clear h1
        go_wp2_with fail
        go_region
        all_goals
          go_wp2_with fail
          go_meet
          exact ⟨{ u with hasRtt := true, rtt := e.rtt, rttAt := e.now }, ⟨congrArg Value.bool (show false = staleF u e by unfold staleF; rw [HTB.out, H1.out]; rfl), (if_pos ⟨HTB.out, .inl H1.out⟩).symm⟩, (blk_set (blk_set (blk_set (blk_drewN S10.out _) 3 (.int .i64 e.rtt)) 4 (.int .i64 e.now)) 2 (.bool true)), stay E10.out R10.out O10.out G10.out (gr_trans (gr_drewN V10 _ _) (gr_trans (gr_trans (gr_set _ w.heap.size 3 _) (gr_set _ w.heap.size 4 _)) (gr_set _ w.heap.size 2 _)))⟩
      · have H1 := Lib.hid h1
        rw [H1.out] at c2
        clear h1
        by_cases h2 : u.rttAt + 10240 ≤ e.now
        · have H2 := Lib.hid h2
          have d1 : decide (u.rttAt + 10240 ≤ e.now) = true := decide_eq_true h2
          clear h2
          by_cases h3 : e.rtt ≤ u.rtt
          · have H3 := Lib.hid h3
            have d2 : decide (e.rtt ≤ u.rtt) = true := decide_eq_true h3
            clear h3
            go_wp2_with fail
            go_region
            all_goals
              go_wp2_with fail
              go_meet
              exact ⟨{ u with hasRtt := true, rtt := e.rtt, rttAt := e.now }, ⟨congrArg Value.bool (show true = staleF u e by unfold staleF; rw [HTB.out, H1.out, decide_eq_true H2.out]; rfl), (if_pos ⟨HTB.out, .inr (.inr H2.out)⟩).symm⟩, (blk_set (blk_set (blk_set (blk_drewN S10.out _) 3 (.int .i64 e.rtt)) 4 (.int .i64 e.now)) 2 (.bool true)), stay E10.out R10.out O10.out G10.out (gr_trans (gr_drewN V10 _ _) (gr_trans (gr_trans (gr_set _ w.heap.size 3 _) (gr_set _ w.heap.size 4 _)) (gr_set _ w.heap.size 2 _)))⟩
          · have H3 := Lib.hid h3
            have d2 : decide (e.rtt ≤ u.rtt) = false := decide_eq_false h3
            clear h3
            go_wp2_with fail
            go_region
            all_goals
              go_wp2_with fail
              go_meet
              exact ⟨{ u with hasRtt := true, rtt := e.rtt, rttAt := e.now }, ⟨congrArg Value.bool (show true = staleF u e by unfold staleF; rw [HTB.out, H1.out, decide_eq_true H2.out]; rfl), (if_pos ⟨HTB.out, .inr (.inr H2.out)⟩).symm⟩, (blk_set (blk_set (blk_set (blk_drewN S10.out _) 3 (.int .i64 e.rtt)) 4 (.int .i64 e.now)) 2 (.bool true)), stay E10.out R10.out O10.out G10.out (gr_trans (gr_drewN V10 _ _) (gr_trans (gr_trans (gr_set _ w.heap.size 3 _) (gr_set _ w.heap.size 4 _)) (gr_set _ w.heap.size 2 _)))⟩
        · have H2 := Lib.hid h2
          have d1 : decide (u.rttAt + 10240 ≤ e.now) = false := decide_eq_false h2
          clear h2
          by_cases h3 : e.rtt ≤ u.rtt
          · have H3 := Lib.hid h3
            have d2 : decide (e.rtt ≤ u.rtt) = true := decide_eq_true h3
            clear h3
            go_wp2_with fail
            go_region
            all_goals
              go_wp2_with fail
              go_meet
              exact ⟨{ u with hasRtt := true, rtt := e.rtt, rttAt := e.now }, ⟨congrArg Value.bool (show false = staleF u e by unfold staleF; rw [HTB.out, H1.out, decide_eq_false (by have := H2.out; omega)]; rfl), (if_pos ⟨HTB.out, .inr (.inl H3.out)⟩).symm⟩, (blk_set (blk_set (blk_set (blk_drewN S10.out _) 3 (.int .i64 e.rtt)) 4 (.int .i64 e.now)) 2 (.bool true)), stay E10.out R10.out O10.out G10.out (gr_trans (gr_drewN V10 _ _) (gr_trans (gr_trans (gr_set _ w.heap.size 3 _) (gr_set _ w.heap.size 4 _)) (gr_set _ w.heap.size 2 _)))⟩
          · have H3 := Lib.hid h3
            have d2 : decide (e.rtt ≤ u.rtt) = false := decide_eq_false h3
            clear h3
            go_wp2_with fail
            go_meet
            exact ⟨u, ⟨congrArg Value.bool (show false = staleF u e by unfold staleF; rw [HTB.out, H1.out, decide_eq_false (by have := H2.out; omega)]; rfl), (if_neg (fun hh => by rcases hh.2 with a | a | a; (rw [H1.out] at a; exact absurd a (by decide)); (have := H3.out; omega); (have := H2.out; omega))).symm⟩, S10.out, E10.out, R10.out, O10.out, G10.out⟩
  case rest =>
  obtain ⟨y, hy, hS, hE, hR, hO, hG⟩ := hcut
  have hyH := Lib.hid hy
  have S11 := Lib.hid hS
  have E11 := Lib.hid hE
  have R11 := Lib.hid hR
  have O11 := Lib.hid hO
  have G11 := Lib.hid hG
  clear hy hS hE hR hO hG S10 E10 R10 O10 G10
  obtain ⟨V11, hVV⟩ : ∃ V, V = wc := ⟨_, rfl⟩
  subst hVV
  obtain ⟨rfl, hyr⟩ := hyH.out
  have HYR := Lib.hid hyr
  clear hyr hyH
  have YV : Hid (SV y) := Lib.hid (by rw [HYR.out]; exact rttF_sv UV.out HE.out.now HE.out.rtt)
  obtain ⟨stb, hstb⟩ : ∃ b, staleF u e = b := ⟨_, rfl⟩
  have HSTB := Lib.hid hstb
  rw [hstb]
  clear hstb
  refine ‹∀ (a : Act) (w : World), Code.wp _ _ _ a w → _› _ _ ?_
  exact rack_tail s e y stb w V11 _ _ _ _ _ _ _ _ _ _ _ _ _ _ _ _ _ _ _ _ _ _ _ _ _ _ _ _ _ _ _ _ _ _ _ _ _ _ _ _ _ _ _ _ _ _ _ _ _ _ _ _ _ _ _ _ _ _ _ _ _ _ _ _ _ _ _ _ _ _ _ _ _ _ _ _ _ _ _ _ _ _ _ _ _ _ _ _ _ _ _ _ _ _ _ _ _ _ _ _ _ _ _ _ _ _ _ _ _ _ _ _ _ _ _ _ _ _ _ _ _ _ _ _ _ _ _ _ _ _ _ _ _ _ _ _ _ _ _ _ _ _ _ _ _ _ _ _ _ _ _ _ _ _ _ _ _ _ _ _ _ _ _ _ _ _ _ _ _ _ _ _ _ _ _ _ _ _ _ YV.out HE.out.now (by obtain ⟨a', c', h⟩ := huH.out; exact ⟨a', c', by unfold ackF restF; rw [← h, ← HYR.out, HSTB.out]⟩) S11.out E11.out R11.out O11.out G11.out
end Go.Proofs.Ytokoogohdfepiaa
