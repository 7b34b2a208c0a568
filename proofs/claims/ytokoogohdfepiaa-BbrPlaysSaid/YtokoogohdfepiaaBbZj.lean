/- Bbr: Ack of a state that may be. -/
import Derived.Test.YtokoogohdfepiaaBbZi
import Derived.Test.YtokoogohdfepiaaBbYa
import Derived.Deep.RegionHeld3
namespace Go.Proofs.Ytokoogohdfepiaa
open Go.RowKit

theorem three (w : World) (a b c : Obj) : (((w.alloc a).alloc b).alloc c).heap[w.heap.size]? = some a ∧ (((w.alloc a).alloc b).alloc c).heap[w.heap.size + 1]? = some b ∧ (((w.alloc a).alloc b).alloc c).heap[w.heap.size + 1 + 1]? = some c ∧ (((w.alloc a).alloc b).alloc c).heap.size = w.heap.size + 1 + 1 + 1 := by
  refine ⟨?_, ?_, ?_, ?_⟩
  · show (((w.heap.push a).push b).push c)[w.heap.size]? = some a
    (repeat rw [Array.getElem?_push]); simp only [Array.size_push]; (repeat (first | rw [if_pos (by omega)] | rw [if_neg (by omega)] | rw [if_pos trivial]))
  · show (((w.heap.push a).push b).push c)[w.heap.size + 1]? = some b
    (repeat rw [Array.getElem?_push]); simp only [Array.size_push]; (repeat (first | rw [if_pos (by omega)] | rw [if_neg (by omega)] | rw [if_pos trivial]))
  · show (((w.heap.push a).push b).push c)[w.heap.size + 1 + 1]? = some c
    (repeat rw [Array.getElem?_push]); simp only [Array.size_push]; (repeat (first | rw [if_pos (by omega)] | rw [if_neg (by omega)] | rw [if_pos trivial]))
  · show (((w.heap.push a).push b).push c).size = _
    simp
theorem OwnR.atB {α : Type} {e : TypeId} {m : Nat} {cells : α → List Value} {B : Nat} {a : Option Addr} {xs : List α} {cap : Nat} {w : World} (h : OwnR e m cells B a xs cap w) : ∀ b o, a = some ⟨b, o, none⟩ → B ≤ b ∧ b < w.heap.size := by
  intro b o he
  rcases h with ⟨rfl, _, _⟩ | ⟨g, rfl, hB, hr⟩
  · cases he
  · cases he; exact ⟨hB, (hr.lt _ rfl).2⟩
theorem OwnR.grownN {α : Type} {e : TypeId} {m : Nat} {cells : α → List Value} {B g : Nat} {a : Option Addr} {xs : List α} {cap : Nat} {w w' : World} (h : OwnR e m cells B a xs cap w) (hg : w.grownBy w' (some g)) (hB : g < B) : OwnR e m cells B a xs cap w' :=
  h.grown hg (fun g' e1 e2 => by have h2 := (h.atB g' 0 e1).1; have e3 := Option.some.inj e2; omega)
theorem gr_blk {w w' : World} {g k : Nat} {o : Obj} (h : w.heap[k]? = some o) (hg : w.grownBy w' (some g)) (hne : k ≠ g) : w'.heap[k]? = some o := (hg.block k (blk_lt h) (fun e => hne (Option.some.inj e))).trans h

theorem set12 (V : World) (g : Nat) (t : TypeId) (u0 u1 u2 u3 u4 u5 u6 u7 u8 u9 u10 u11 v0 v1 v2 v3 v4 v5 v6 v7 v8 v9 v10 v11 : Value) (h : V.heap[g]? = some (.cells #[u0, u1, u2, u3, u4, u5, u6, u7, u8, u9, u10, u11] t (0, 0))) :
    (((((((((((((V).setCell ⟨g, 0, none⟩ v0).setCell ⟨g, 1, none⟩ v1).setCell ⟨g, 2, none⟩ v2).setCell ⟨g, 3, none⟩ v3).setCell ⟨g, 4, none⟩ v4).setCell ⟨g, 5, none⟩ v5).setCell ⟨g, 6, none⟩ v6).setCell ⟨g, 7, none⟩ v7).setCell ⟨g, 8, none⟩ v8).setCell ⟨g, 9, none⟩ v9).setCell ⟨g, 10, none⟩ v10).setCell ⟨g, 11, none⟩ v11).heap[g]? = some (.cells #[v0, v1, v2, v3, v4, v5, v6, v7, v8, v9, v10, v11] t (0, 0)) ∧ V.grownBy (((((((((((((V).setCell ⟨g, 0, none⟩ v0).setCell ⟨g, 1, none⟩ v1).setCell ⟨g, 2, none⟩ v2).setCell ⟨g, 3, none⟩ v3).setCell ⟨g, 4, none⟩ v4).setCell ⟨g, 5, none⟩ v5).setCell ⟨g, 6, none⟩ v6).setCell ⟨g, 7, none⟩ v7).setCell ⟨g, 8, none⟩ v8).setCell ⟨g, 9, none⟩ v9).setCell ⟨g, 10, none⟩ v10).setCell ⟨g, 11, none⟩ v11) (some g) := by
  have h0 := blk_set h 0 v0
  simp only [List.setIfInBounds_toArray, List.set_cons_zero] at h0
  have h1 := blk_set h0 1 v1
  simp only [List.setIfInBounds_toArray, List.set_cons_zero, List.set_cons_succ] at h1
  have h2 := blk_set h1 2 v2
  simp only [List.setIfInBounds_toArray, List.set_cons_zero, List.set_cons_succ] at h2
  have h3 := blk_set h2 3 v3
  simp only [List.setIfInBounds_toArray, List.set_cons_zero, List.set_cons_succ] at h3
  have h4 := blk_set h3 4 v4
  simp only [List.setIfInBounds_toArray, List.set_cons_zero, List.set_cons_succ] at h4
  have h5 := blk_set h4 5 v5
  simp only [List.setIfInBounds_toArray, List.set_cons_zero, List.set_cons_succ] at h5
  have h6 := blk_set h5 6 v6
  simp only [List.setIfInBounds_toArray, List.set_cons_zero, List.set_cons_succ] at h6
  have h7 := blk_set h6 7 v7
  simp only [List.setIfInBounds_toArray, List.set_cons_zero, List.set_cons_succ] at h7
  have h8 := blk_set h7 8 v8
  simp only [List.setIfInBounds_toArray, List.set_cons_zero, List.set_cons_succ] at h8
  have h9 := blk_set h8 9 v9
  simp only [List.setIfInBounds_toArray, List.set_cons_zero, List.set_cons_succ] at h9
  have h10 := blk_set h9 10 v10
  simp only [List.setIfInBounds_toArray, List.set_cons_zero, List.set_cons_succ] at h10
  have h11 := blk_set h10 11 v11
  simp only [List.setIfInBounds_toArray, List.set_cons_zero, List.set_cons_succ] at h11
  exact ⟨h11, gr_trans (gr_trans (gr_trans (gr_trans (gr_trans (gr_trans (gr_trans (gr_trans (gr_trans (gr_trans (gr_trans (gr_set _ g 0 _) (gr_set _ g 1 _)) (gr_set _ g 2 _)) (gr_set _ g 3 _)) (gr_set _ g 4 _)) (gr_set _ g 5 _)) (gr_set _ g 6 _)) (gr_set _ g 7 _)) (gr_set _ g 8 _)) (gr_set _ g 9 _)) (gr_set _ g 10 _)) (gr_set _ g 11 _)⟩
theorem below_of_gr {w w' : World} (h : w.grownBy w' (some w.heap.size)) : Below w.heap.size w w' := ⟨h.os, h.tape, h.output, h.size, fun k hk => h.block k hk (fun e => by have := Option.some.inj e; omega)⟩
theorem below_gr3 {w V V' : World} {g : Nat} (h : Below w.heap.size w V) (hg : w.heap.size ≤ g) (h2 : V.grownBy V' (some g)) : Below w.heap.size w V' := ⟨h2.os.trans h.os, h2.tape.trans h.tape, h2.output.trans h.output, Nat.le_trans h.size h2.size, fun k hk => (h2.block k (Nat.lt_of_lt_of_le hk h.size) (fun e => by have := Option.some.inj e; omega)).trans (h.block k hk)⟩

set_option maxRecDepth 100000 in
set_option maxHeartbeats 1000000 in
theorem ack_ok (s : Bs) (m : Int) (e : Be) (w : World) (hv : SV s) (hL : Sts 2 PC Tr w s.ra s.rl) (hn : s.ra = none → s.rc = 0) (hm : 1 ≤ m ∧ m ≤ 65535) (he : EvV s e) :
    Calls Try.prog 15 #[.agg #[.int .i64 s.phase, .slice s.ra s.rl.length s.rc, .bool s.hasRtt, .int .i64 s.rtt, .int .i64 s.rttAt, .bool s.full, .int .i64 s.fullRate, .int .i64 s.fullRounds, .int .i64 s.cycle, .int .i64 s.cycleAt, .int .i64 s.til, .int .i64 s.round], .int .i64 m, .agg #[.int .i64 e.now, .int .i64 e.round, .int .i64 e.rate, .int .i64 e.rtt, .int .i64 e.flight, .bool e.hasRate, .bool e.hasRtt]] w fun z w' => (∃ t : Bs, (∃ a' c', t = ackF s e a' c') ∧ z = .returned (.tuple #[.agg #[.int .i64 t.phase, .slice t.ra t.rl.length t.rc, .bool t.hasRtt, .int .i64 t.rtt, .int .i64 t.rttAt, .bool t.full, .int .i64 t.fullRate, .int .i64 t.fullRounds, .int .i64 t.cycle, .int .i64 t.cycleAt, .int .i64 t.til, .int .i64 t.round], .int .i64 0]) ∧ OwnR 36 2 PC w.heap.size t.ra t.rl t.rc w') ∧ Below w.heap.size w w' := by
  have HV := Lib.hid hv
  have hl := hv.rates.1
  obtain ⟨lr, hlr⟩ : ∃ lr, lastR s.rl = lr := ⟨_, rfl⟩
  have HLR := Lib.hid hlr
  have hr0 := hv.round
  have hlr0 : 0 ≤ lr ∧ lr ≤ 1099511627776 := by rw [← hlr]; exact hv.rates.last0
  have HE := Lib.hid he
  have HN := Lib.hid hn
  have H1 : Hid (InR (max s.round lr) 1099511627776 [e.round]) := Lib.hid (inR1.2 ⟨by have h1 := he.up; have h2 := he.last; rw [hlr] at h2; omega, he.round.2⟩)
  have H2 : Hid (InR 0 1099511627776 [e.now]) := Lib.hid (inR1.2 he.now)
  have H3 : Hid (InR 0 1073741824 [e.rate, e.rtt, e.flight]) := Lib.hid (inR3.2 ⟨he.rate, he.rtt, he.flight⟩)
  clear he hn
  have HM := Lib.hid hm
  have b1 := (Below.refl w.heap.size w).alloc (Nat.le_refl _) (.cells #[.int .i64 s.phase, .slice s.ra s.rl.length s.rc, .bool s.hasRtt, .int .i64 s.rtt, .int .i64 s.rttAt, .bool s.full, .int .i64 s.fullRate, .int .i64 s.fullRounds, .int .i64 s.cycle, .int .i64 s.cycleAt, .int .i64 s.til, .int .i64 s.round] 40)
  have b2 := b1.alloc b1.size (.cells #[.int .i64 e.now, .int .i64 e.round, .int .i64 e.rate, .int .i64 e.rtt, .int .i64 e.flight, .bool e.hasRate, .bool e.hasRtt] 46)
  have b3 := b2.alloc b2.size (.cells #[.int .i64 0, .slice none 0 0, .bool false, .int .i64 0, .int .i64 0, .bool false, .int .i64 0, .int .i64 0, .int .i64 0, .int .i64 0, .int .i64 0, .int .i64 0] 40)
  have L1 := Lib.hid (hL.belowT b3)
  have Q1 := Lib.hid b3
  obtain ⟨x1, x2, x3, hsz⟩ := three w (.cells #[.int .i64 s.phase, .slice s.ra s.rl.length s.rc, .bool s.hasRtt, .int .i64 s.rtt, .int .i64 s.rttAt, .bool s.full, .int .i64 s.fullRate, .int .i64 s.fullRounds, .int .i64 s.cycle, .int .i64 s.cycleAt, .int .i64 s.til, .int .i64 s.round] 40) (.cells #[.int .i64 e.now, .int .i64 e.round, .int .i64 e.rate, .int .i64 e.rtt, .int .i64 e.flight, .bool e.hasRate, .bool e.hasRtt] 46) (.cells #[.int .i64 0, .slice none 0 0, .bool false, .int .i64 0, .int .i64 0, .bool false, .int .i64 0, .int .i64 0, .int .i64 0, .int .i64 0, .int .i64 0, .int .i64 0] 40)
  have S1 := Lib.hid x1
  have E1 := Lib.hid x2
  have R1 := Lib.hid x3
  clear b1 b2 b3 hv hm hL x1 x2 x3 hlr
  go_enter Try.func15, Try.ntmps15
  go_upto_region 1 with fail
  generalize ((w.alloc (.cells #[.int .i64 s.phase, .slice s.ra s.rl.length s.rc, .bool s.hasRtt, .int .i64 s.rtt, .int .i64 s.rttAt, .bool s.full, .int .i64 s.fullRate, .int .i64 s.fullRounds, .int .i64 s.cycle, .int .i64 s.cycleAt, .int .i64 s.til, .int .i64 s.round] 40)).alloc (.cells #[.int .i64 e.now, .int .i64 e.round, .int .i64 e.rate, .int .i64 e.rtt, .int .i64 e.flight, .bool e.hasRate, .bool e.hasRtt] 46)).alloc (.cells #[.int .i64 0, .slice none 0 0, .bool false, .int .i64 0, .int .i64 0, .bool false, .int .i64 0, .int .i64 0, .int .i64 0, .int .i64 0, .int .i64 0, .int .i64 0] 40) = V1 at S1 E1 R1 L1 Q1 hsz ⊢
  have c0 := blk_cell S1.out 0
  have c1 := blk_cell S1.out 1
  have c2 := blk_cell S1.out 2
  have c3 := blk_cell S1.out 3
  have c4 := blk_cell S1.out 4
  have c5 := blk_cell S1.out 5
  have c6 := blk_cell S1.out 6
  have c7 := blk_cell S1.out 7
  have c8 := blk_cell S1.out 8
  have c9 := blk_cell S1.out 9
  have c10 := blk_cell S1.out 10
  have c11 := blk_cell S1.out 11
  go_wp2_with fail
  refine (check_ok s m _ HV.out L1.out HM.out).mono ?_
  rintro z V2 ⟨rfl, b⟩
  clear c0 c1 c2 c3 c4 c5 c6 c7 c8 c9 c10 c11
  have S2 := Lib.hid ((b.block _ (blk_lt S1.out)).trans S1.out)
  have E2 := Lib.hid ((b.block _ (blk_lt E1.out)).trans E1.out)
  have R2 := Lib.hid ((b.block _ (blk_lt R1.out)).trans R1.out)
  have L2 := Lib.hid (L1.out.belowT b)
  have Q2 := Lib.hid (Q1.out.trans (b.mono Q1.out.size))
  have hs2 : w.heap.size + 3 ≤ V2.heap.size := by have := b.size; omega
  clear b S1 E1 R1 L1 Q1
  go_upto_region 4 with fail
  have c1 := blk_cell S2.out 1
  have c11 := blk_cell S2.out 11
  have e0 := blk_cell E2.out 0
  have e1 := blk_cell E2.out 1
  have BA := (Below.refl V2.heap.size V2).alloc (Nat.le_refl _) (.cells #[.int .i64 e.round] 3)
  have SA := Lib.hid ((BA.block _ (blk_lt S2.out)).trans S2.out)
  have EA := Lib.hid ((BA.block _ (blk_lt E2.out)).trans E2.out)
  have LA := Lib.hid (L2.out.belowT BA)
  have ca1 := blk_cell SA.out 1
  have ca11 := blk_cell SA.out 11
  have ea0 := blk_cell EA.out 0
  have ea1 := blk_cell EA.out 1
  have BB := BA.alloc BA.size (.cells #[.int .i64 e.now] 3)
  have SB := Lib.hid ((BB.block _ (blk_lt S2.out)).trans S2.out)
  have EB := Lib.hid ((BB.block _ (blk_lt E2.out)).trans E2.out)
  have cb1 := blk_cell SB.out 1
  have cb11 := blk_cell SB.out 11
  have eb0 := blk_cell EB.out 0
  have eb1 := blk_cell EB.out 1
  have QA := Lib.hid BA
  have QB := Lib.hid BB
  clear BA BB
  have HQ : Hid (∀ W : World, Below V2.heap.size V2 W → Calls Try.prog 22 #[.slice s.ra s.rl.length s.rc] W fun z w' => z = .returned (.int .i64 lr) ∧ W = w') := Lib.hid (fun W b => lastRound_l s.ra s.rl s.rc W HLR.out (L2.out.belowT b) (by omega))
  have HW1 : Hid (Calls Try.prog 21 #[.int .i64 (max s.round lr), .int .i64 1099511627776, .slice (some ⟨V2.heap.size, 0, none⟩) 1 1] (V2.alloc (.cells #[.int .i64 e.round] 3)).drew fun z w' => z = .returned (.bool true) ∧ (V2.alloc (.cells #[.int .i64 e.round] 3)).drew = w') :=
    Lib.hid (within_yes (max s.round lr) 1099511627776 _ [e.round] 1 _ (show Itc (V2.alloc (.cells #[.int .i64 e.round] 3)).drew (some ⟨V2.heap.size, 0, none⟩) [e.round] from itc_new V2 [e.round] 3) (by simp) H1.out)
  have HW2 : Hid (Calls Try.prog 21 #[.int .i64 0, .int .i64 1099511627776, .slice (some ⟨(V2.heap.size + 1), 0, none⟩) 1 1] ((V2.alloc (.cells #[.int .i64 e.round] 3)).alloc (.cells #[.int .i64 e.now] 3)).drew fun z w' => z = .returned (.bool true) ∧ ((V2.alloc (.cells #[.int .i64 e.round] 3)).alloc (.cells #[.int .i64 e.now] 3)).drew = w') :=
    Lib.hid (within_yes 0 1099511627776 _ [e.now] 1 _ (show Itc ((V2.alloc (.cells #[.int .i64 e.round] 3)).alloc (.cells #[.int .i64 e.now] 3)).drew (some ⟨(V2.heap.size + 1), 0, none⟩) [e.now] from by have := itc_new (V2.alloc (.cells #[.int .i64 e.round] 3)) [e.now] 3; rw [show (V2.alloc (.cells #[.int .i64 e.round] 3)).heap.size = V2.heap.size + 1 by simp] at this; exact this) (by simp) H2.out)
  have SS0 : Hid ((V2.drew).cell? ⟨w.heap.size, 11, none⟩ = some (.int .i64 s.round) ∧ (V2.drew).cell? ⟨w.heap.size, 1, none⟩ = some (.slice s.ra s.rl.length s.rc) ∧ (V2.drew).cell? ⟨w.heap.size + 1, 1, none⟩ = some (.int .i64 e.round) ∧ (V2.drew).cell? ⟨w.heap.size + 1, 0, none⟩ = some (.int .i64 e.now)) := Lib.hid ⟨c11, c1, e1, e0⟩
  have SS1 : Hid (((V2.alloc (.cells #[.int .i64 e.round] 3)).drew).cell? ⟨w.heap.size, 11, none⟩ = some (.int .i64 s.round) ∧ ((V2.alloc (.cells #[.int .i64 e.round] 3)).drew).cell? ⟨w.heap.size, 1, none⟩ = some (.slice s.ra s.rl.length s.rc) ∧ ((V2.alloc (.cells #[.int .i64 e.round] 3)).drew).cell? ⟨w.heap.size + 1, 1, none⟩ = some (.int .i64 e.round) ∧ ((V2.alloc (.cells #[.int .i64 e.round] 3)).drew).cell? ⟨w.heap.size + 1, 0, none⟩ = some (.int .i64 e.now)) := Lib.hid ⟨ca11, ca1, ea1, ea0⟩
  have SS2 : Hid ((((V2.alloc (.cells #[.int .i64 e.round] 3)).alloc (.cells #[.int .i64 e.now] 3)).drew).cell? ⟨w.heap.size, 11, none⟩ = some (.int .i64 s.round) ∧ (((V2.alloc (.cells #[.int .i64 e.round] 3)).alloc (.cells #[.int .i64 e.now] 3)).drew).cell? ⟨w.heap.size, 1, none⟩ = some (.slice s.ra s.rl.length s.rc) ∧ (((V2.alloc (.cells #[.int .i64 e.round] 3)).alloc (.cells #[.int .i64 e.now] 3)).drew).cell? ⟨w.heap.size + 1, 1, none⟩ = some (.int .i64 e.round) ∧ (((V2.alloc (.cells #[.int .i64 e.round] 3)).alloc (.cells #[.int .i64 e.now] 3)).drew).cell? ⟨w.heap.size + 1, 0, none⟩ = some (.int .i64 e.now)) := Lib.hid ⟨cb11, cb1, eb1, eb0⟩
  go_cut [34] (fun (cv : Value) (wx : World) => cv = .bool false ∧ Below V2.heap.size V2 wx)
  case first =>
    go_region_held3 (fun W => (W).cell? ⟨w.heap.size, 11, none⟩ = some (.int .i64 s.round) ∧ (W).cell? ⟨w.heap.size, 1, none⟩ = some (.slice s.ra s.rl.length s.rc) ∧ (W).cell? ⟨w.heap.size + 1, 1, none⟩ = some (.int .i64 e.round) ∧ (W).cell? ⟨w.heap.size + 1, 0, none⟩ = some (.int .i64 e.now)) (first | (with_reducible exact SS0.out) | (with_reducible exact SS1.out) | (with_reducible exact SS2.out) | go_keep) (first
      | (go_at_call 22; (with_reducible refine (HQ.out _ ?hb).mono ?_); (case hb => first | exact (Below.refl _ V2).drew | exact QA.out.drew | exact QA.out | exact Below.refl _ V2); rintro z w' ⟨rfl, rfl⟩)
      | (go_at_call 21; (with_reducible refine HW1.out.mono ?_); rintro z w' ⟨rfl, rfl⟩)
      | (go_at_call 21; (with_reducible refine HW2.out.mono ?_); rintro z w' ⟨rfl, rfl⟩))
    all_goals
      go_wp2_with fail
      go_meet
      refine ⟨rfl, ?_⟩
      first | exact QB.out.drew | exact QB.out | exact QA.out.drew | exact QA.out
  case rest =>
  obtain ⟨rfl, b⟩ := hcut
  clear c1 c11 e0 e1 ca1 ca11 ea0 ea1 cb1 cb11 eb0 eb1 SA EA SB EB LA QA QB HQ HW1 SS0 SS1 SS2
  obtain ⟨V3, hV3⟩ : ∃ V3, V3 = wc := ⟨_, rfl⟩
  subst hV3
  have S3 := Lib.hid ((b.block _ (blk_lt S2.out)).trans S2.out)
  have E3 := Lib.hid ((b.block _ (blk_lt E2.out)).trans E2.out)
  have R3 := Lib.hid ((b.block _ (blk_lt R2.out)).trans R2.out)
  have L3 := Lib.hid (L2.out.belowT b)
  have Q3 := Lib.hid (Q2.out.trans (b.mono Q2.out.size))
  have hs3 : w.heap.size + 3 ≤ V3.heap.size := by have := b.size; omega
  clear b S2 E2 R2 L2 Q2
  have e2 := blk_cell E3.out 2
  have e3 := blk_cell E3.out 3
  have e4 := blk_cell E3.out 4
  go_wp2_with fail
  refine (wn_yes 0 1073741824 [e.rate, e.rtt, e.flight] _ _ _ _ _ _ rfl rfl (by first | simp | rfl) (by simp) H3.out).mono ?_
  rintro z w' ⟨rfl, rfl⟩
  have b := (Below.refl V3.heap.size V3).alloc (Nat.le_refl _) (.cells (List.map (fun x => Value.int .i64 x) [e.rate, e.rtt, e.flight]).toArray 3)
  simp only [List.map_cons, List.map_nil] at b ⊢
  generalize V3.alloc (.cells [Value.int .i64 e.rate, Value.int .i64 e.rtt, Value.int .i64 e.flight].toArray 3) = V4 at b ⊢
  clear e2 e3 e4
  have S4 := Lib.hid ((b.block _ (blk_lt S3.out)).trans S3.out)
  have E4 := Lib.hid ((b.block _ (blk_lt E3.out)).trans E3.out)
  have R4 := Lib.hid ((b.block _ (blk_lt R3.out)).trans R3.out)
  have L4 := Lib.hid (L3.out.belowT b)
  have Q4 := Lib.hid (Q3.out.trans (b.mono Q3.out.size))
  have hs4 : w.heap.size + 3 ≤ V4.heap.size := by have := b.size; omega
  clear b S3 E3 R3 L3 Q3
  have e0 := blk_cell E4.out 0
  have e1 := blk_cell E4.out 1
  have e2 := blk_cell E4.out 2
  have e3 := blk_cell E4.out 3
  have e4 := blk_cell E4.out 4
  have e5 := blk_cell E4.out 5
  have e6 := blk_cell E4.out 6
  go_wp2_with fail
  refine (hearRate_any s e w.heap.size _ HV.out HE.out L4.out HN.out S4.out).mono ?_
  rintro z V5 ⟨rfl, a', c', hS, hO, hG⟩
  obtain ⟨t, ht⟩ : ∃ t, rateF s e a' c' = t := ⟨_, rfl⟩
  have HT := Lib.hid ht.symm
  have tv : Hid (SV t) := Lib.hid (by rw [← ht]; exact rateF_sv HV.out HE.out a' c')
  obtain ⟨q1, q2, q3⟩ := rateF_rl s e a' c'
  rw [ht] at q1 q2 q3 hS
  rw [← q1, ← q2, ← q3] at hO
  have S5 := Lib.hid (show V5.heap[w.heap.size]? = some (.cells #[.int .i64 t.phase, .slice t.ra t.rl.length t.rc, .bool t.hasRtt, .int .i64 t.rtt, .int .i64 t.rttAt, .bool t.full, .int .i64 t.fullRate, .int .i64 t.fullRounds, .int .i64 t.cycle, .int .i64 t.cycleAt, .int .i64 t.til, .int .i64 t.round] 40 (0, 0)) from hS)
  have O5 := Lib.hid (hO.mono (by omega : w.heap.size + 3 ≤ V4.heap.size))
  have E5 := Lib.hid (gr_blk E4.out hG (by omega))
  have R5 := Lib.hid (gr_blk R4.out hG (by omega))
  have G5 := Lib.hid (gr_trans (gr_below (w := w) Q4.out (some w.heap.size)) hG)
  clear ht q1 q2 q3 hS hO hG S4 E4 R4 L4 Q4 e0 e1 e2 e3 e4 e5 e6
  have e0 := blk_cell E5.out 0
  have e1 := blk_cell E5.out 1
  have e2 := blk_cell E5.out 2
  have e3 := blk_cell E5.out 3
  have e4 := blk_cell E5.out 4
  have e5 := blk_cell E5.out 5
  have e6 := blk_cell E5.out 6
  go_wp2_with fail
  refine (hearRtt_any t e w.heap.size _ tv.out S5.out).mono ?_
  rintro z V6 ⟨rfl, hS, hG⟩
  obtain ⟨t1, hu⟩ : ∃ u, rttF t e = u := ⟨_, rfl⟩
  have HU6 := Lib.hid hu.symm
  have tv6 : Hid (SV t1) := Lib.hid (by rw [← hu]; exact rttF_sv tv.out HE.out.now HE.out.rtt)
  obtain ⟨q1, q2, q3⟩ := rttF_rl t e
  rw [hu] at q1 q2 q3 hS
  have S6 := Lib.hid (show V6.heap[w.heap.size]? = some (.cells #[.int .i64 t1.phase, .slice t1.ra t1.rl.length t1.rc, .bool t1.hasRtt, .int .i64 t1.rtt, .int .i64 t1.rttAt, .bool t1.full, .int .i64 t1.fullRate, .int .i64 t1.fullRounds, .int .i64 t1.cycle, .int .i64 t1.cycleAt, .int .i64 t1.til, .int .i64 t1.round] 40 (0, 0)) from hS)
  have O6 := Lib.hid (show OwnR 36 2 PC (w.heap.size + 3) t1.ra t1.rl t1.rc V6 from by rw [q1, q2, q3]; exact O5.out.grownN hG (by omega))
  have E6 := Lib.hid (gr_blk E5.out hG (by omega))
  have R6 := Lib.hid (gr_blk R5.out hG (by omega))
  have G6 := Lib.hid (gr_trans G5.out hG)
  clear hu q1 q2 q3 hS hG S5 E5 R5 O5 G5 e0 e1 e2 e3 e4 e5 e6
  have e0 := blk_cell E6.out 0
  have e1 := blk_cell E6.out 1
  have e2 := blk_cell E6.out 2
  have e3 := blk_cell E6.out 3
  have e4 := blk_cell E6.out 4
  have e5 := blk_cell E6.out 5
  have e6 := blk_cell E6.out 6
  go_wp2_with fail
  refine (step_any t1 e w.heap.size _ tv6.out (O6.out.sts encP) S6.out (fun b o hb => by have := (O6.out.atB b o hb).1; omega)).mono ?_
  rintro z V7 ⟨rfl, hS, hG⟩
  obtain ⟨t2, hu⟩ : ∃ u, stepF t1 e = u := ⟨_, rfl⟩
  have HU7 := Lib.hid hu.symm
  have tv7 : Hid (SV t2) := Lib.hid (by rw [← hu]; exact stepF_sv tv6.out HE.out.now)
  obtain ⟨q1, q2, q3⟩ := stepF_rl t1 e
  rw [hu] at q1 q2 q3 hS
  have S7 := Lib.hid (show V7.heap[w.heap.size]? = some (.cells #[.int .i64 t2.phase, .slice t2.ra t2.rl.length t2.rc, .bool t2.hasRtt, .int .i64 t2.rtt, .int .i64 t2.rttAt, .bool t2.full, .int .i64 t2.fullRate, .int .i64 t2.fullRounds, .int .i64 t2.cycle, .int .i64 t2.cycleAt, .int .i64 t2.til, .int .i64 t2.round] 40 (0, 0)) from hS)
  have O7 := Lib.hid (show OwnR 36 2 PC (w.heap.size + 3) t2.ra t2.rl t2.rc V7 from by rw [q1, q2, q3]; exact O6.out.grownN hG (by omega))
  have E7 := Lib.hid (gr_blk E6.out hG (by omega))
  have R7 := Lib.hid (gr_blk R6.out hG (by omega))
  have G7 := Lib.hid (gr_trans G6.out hG)
  clear hu q1 q2 q3 hS hG S6 E6 R6 O6 G6 e0 e1 e2 e3 e4 e5 e6
  have e0 := blk_cell E7.out 0
  have e1 := blk_cell E7.out 1
  have e2 := blk_cell E7.out 2
  have e3 := blk_cell E7.out 3
  have e4 := blk_cell E7.out 4
  have e5 := blk_cell E7.out 5
  have e6 := blk_cell E7.out 6
  go_wp2_with fail
  refine (probe_any t2 e (staleF t e) w.heap.size _ tv7.out HE.out.now (O7.out.sts encP) S7.out).mono ?_
  rintro z V8 ⟨rfl, hS, hG⟩
  obtain ⟨t3, hu⟩ : ∃ u, probeF t2 e (staleF t e) = u := ⟨_, rfl⟩
  have HU8 := Lib.hid hu.symm
  have tv8 : Hid (SV t3) := Lib.hid (by rw [← hu]; exact probeF_sv _ tv7.out HE.out.now)
  obtain ⟨q1, q2, q3⟩ := probeF_rl t2 e (staleF t e)
  rw [hu] at q1 q2 q3 hS
  have S8 := Lib.hid (show V8.heap[w.heap.size]? = some (.cells #[.int .i64 t3.phase, .slice t3.ra t3.rl.length t3.rc, .bool t3.hasRtt, .int .i64 t3.rtt, .int .i64 t3.rttAt, .bool t3.full, .int .i64 t3.fullRate, .int .i64 t3.fullRounds, .int .i64 t3.cycle, .int .i64 t3.cycleAt, .int .i64 t3.til, .int .i64 t3.round] 40 (0, 0)) from hS)
  have O8 := Lib.hid (show OwnR 36 2 PC (w.heap.size + 3) t3.ra t3.rl t3.rc V8 from by rw [q1, q2, q3]; exact O7.out.grownN hG (by omega))
  have E8 := Lib.hid (gr_blk E7.out hG (by omega))
  have R8 := Lib.hid (gr_blk R7.out hG (by omega))
  have G8 := Lib.hid (gr_trans G7.out hG)
  clear hu q1 q2 q3 hS hG S7 E7 R7 O7 G7 e0 e1 e2 e3 e4 e5 e6
  have c0 := blk_cell S8.out 0
  have c1 := blk_cell S8.out 1
  have c2 := blk_cell S8.out 2
  have c3 := blk_cell S8.out 3
  have c4 := blk_cell S8.out 4
  have c5 := blk_cell S8.out 5
  have c6 := blk_cell S8.out 6
  have c7 := blk_cell S8.out 7
  have c8 := blk_cell S8.out 8
  have c9 := blk_cell S8.out 9
  have c10 := blk_cell S8.out 10
  have c11 := blk_cell S8.out 11
  have r0 := blk_cell R8.out 0
  have q0 := blk_free R8.out 0
  have r1 := blk_cell R8.out 1
  have q1 := blk_free R8.out 1
  have r2 := blk_cell R8.out 2
  have q2 := blk_free R8.out 2
  have r3 := blk_cell R8.out 3
  have q3 := blk_free R8.out 3
  have r4 := blk_cell R8.out 4
  have q4 := blk_free R8.out 4
  have r5 := blk_cell R8.out 5
  have q5 := blk_free R8.out 5
  have r6 := blk_cell R8.out 6
  have q6 := blk_free R8.out 6
  have r7 := blk_cell R8.out 7
  have q7 := blk_free R8.out 7
  have r8 := blk_cell R8.out 8
  have q8 := blk_free R8.out 8
  have r9 := blk_cell R8.out 9
  have q9 := blk_free R8.out 9
  have r10 := blk_cell R8.out 10
  have q10 := blk_free R8.out 10
  have r11 := blk_cell R8.out 11
  have q11 := blk_free R8.out 11
  go_wp2
  obtain ⟨RW, GW⟩ := set12 V8 (w.heap.size + 1 + 1) _ _ _ _ _ _ _ _ _ _ _ _ _ (.int .i64 t3.phase) (.slice t3.ra t3.rl.length t3.rc) (.bool t3.hasRtt) (.int .i64 t3.rtt) (.int .i64 t3.rttAt) (.bool t3.full) (.int .i64 t3.fullRate) (.int .i64 t3.fullRounds) (.int .i64 t3.cycle) (.int .i64 t3.cycleAt) (.int .i64 t3.til) (.int .i64 t3.round) R8.out
  clear r0 q0 r1 q1 r2 q2 r3 q3 r4 q4 r5 q5 r6 q6 r7 q7 r8 q8 r9 q9 r10 q10 r11 q11
  generalize ((((((((((((V8).setCell ⟨w.heap.size + 1 + 1, 0, none⟩ (.int .i64 t3.phase)).setCell ⟨w.heap.size + 1 + 1, 1, none⟩ (.slice t3.ra t3.rl.length t3.rc)).setCell ⟨w.heap.size + 1 + 1, 2, none⟩ (.bool t3.hasRtt)).setCell ⟨w.heap.size + 1 + 1, 3, none⟩ (.int .i64 t3.rtt)).setCell ⟨w.heap.size + 1 + 1, 4, none⟩ (.int .i64 t3.rttAt)).setCell ⟨w.heap.size + 1 + 1, 5, none⟩ (.bool t3.full)).setCell ⟨w.heap.size + 1 + 1, 6, none⟩ (.int .i64 t3.fullRate)).setCell ⟨w.heap.size + 1 + 1, 7, none⟩ (.int .i64 t3.fullRounds)).setCell ⟨w.heap.size + 1 + 1, 8, none⟩ (.int .i64 t3.cycle)).setCell ⟨w.heap.size + 1 + 1, 9, none⟩ (.int .i64 t3.cycleAt)).setCell ⟨w.heap.size + 1 + 1, 10, none⟩ (.int .i64 t3.til)).setCell ⟨w.heap.size + 1 + 1, 11, none⟩ (.int .i64 t3.round) = W at RW GW ⊢
  have r0 := blk_cell RW 0
  have r1 := blk_cell RW 1
  have r2 := blk_cell RW 2
  have r3 := blk_cell RW 3
  have r4 := blk_cell RW 4
  have r5 := blk_cell RW 5
  have r6 := blk_cell RW 6
  have r7 := blk_cell RW 7
  have r8 := blk_cell RW 8
  have r9 := blk_cell RW 9
  have r10 := blk_cell RW 10
  have r11 := blk_cell RW 11
  refine bodyPost_ret (v := .tuple #[.agg #[.int .i64 t3.phase, .slice t3.ra t3.rl.length t3.rc, .bool t3.hasRtt, .int .i64 t3.rtt, .int .i64 t3.rttAt, .bool t3.full, .int .i64 t3.fullRate, .int .i64 t3.fullRounds, .int .i64 t3.cycle, .int .i64 t3.cycleAt, .int .i64 t3.til, .int .i64 t3.round], .int .i64 0]) (by simp [results, Try.results15, go_sem, *]) rfl ?_
  exact ⟨⟨t3, ⟨a', c', by rw [ackF, restF, ← HT.out, ← HU6.out, ← HU7.out]; exact HU8.out⟩, rfl, (O8.out.grown GW (fun g' e1 e2 => by have h2 := (O8.out.atB g' 0 e1).1; have h3 := Option.some.inj e2; omega)).mono (by omega)⟩, below_gr3 (below_of_gr G8.out) (by omega) GW⟩
end Go.Proofs.Ytokoogohdfepiaa
