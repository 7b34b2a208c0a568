/- Bbr: two equal states are told to be the same; Ack, and the document's Ack, each by one word. -/
import Derived.Test.YtokoogohdfepiaaBbU
import Derived.Test.YtokoogohdfepiaaBbZk
import Derived.Test.YtokoogohdfepiaaBbZr
namespace Go.Proofs.Ytokoogohdfepiaa
open Go.RowKit

set_option maxRecDepth 100000 in
set_option maxHeartbeats 2000000 in
theorem same_one (s : Bs) (a2 : Option Addr) (c2 : Nat) (w : World) (hl : s.rl.length ≤ 10) (ha : Sts 2 PC Tr w s.ra s.rl) (hb : Sts 2 PC Tr w a2 s.rl) :
    Calls Try.prog 17 #[.agg #[.int .i64 s.phase, .slice s.ra s.rl.length s.rc, .bool s.hasRtt, .int .i64 s.rtt, .int .i64 s.rttAt, .bool s.full, .int .i64 s.fullRate, .int .i64 s.fullRounds, .int .i64 s.cycle, .int .i64 s.cycleAt, .int .i64 s.til, .int .i64 s.round], .agg #[.int .i64 s.phase, .slice a2 s.rl.length c2, .bool s.hasRtt, .int .i64 s.rtt, .int .i64 s.rttAt, .bool s.full, .int .i64 s.fullRate, .int .i64 s.fullRounds, .int .i64 s.cycle, .int .i64 s.cycleAt, .int .i64 s.til, .int .i64 s.round]] w fun e w' => e = .returned (.bool true) ∧ Below w.heap.size w w' := by
  have b1 := (Below.refl w.heap.size w).alloc (Nat.le_refl _) (.cells #[.int .i64 s.phase, .slice s.ra s.rl.length s.rc, .bool s.hasRtt, .int .i64 s.rtt, .int .i64 s.rttAt, .bool s.full, .int .i64 s.fullRate, .int .i64 s.fullRounds, .int .i64 s.cycle, .int .i64 s.cycleAt, .int .i64 s.til, .int .i64 s.round] 40)
  have b2 := b1.alloc b1.size (.cells #[.int .i64 s.phase, .slice a2 s.rl.length c2, .bool s.hasRtt, .int .i64 s.rtt, .int .i64 s.rttAt, .bool s.full, .int .i64 s.fullRate, .int .i64 s.fullRounds, .int .i64 s.cycle, .int .i64 s.cycleAt, .int .i64 s.til, .int .i64 s.round] 42)
  have A1 := Lib.hid (ha.belowT b2)
  have B1 := Lib.hid (hb.belowT b2)
  have Q1 := Lib.hid b2
  have S1 := Lib.hid ((((Below.refl _ _).alloc (Nat.le_refl _) (.cells #[.int .i64 s.phase, .slice a2 s.rl.length c2, .bool s.hasRtt, .int .i64 s.rtt, .int .i64 s.rttAt, .bool s.full, .int .i64 s.fullRate, .int .i64 s.fullRounds, .int .i64 s.cycle, .int .i64 s.cycleAt, .int .i64 s.til, .int .i64 s.round] 42)).block w.heap.size (by simp)).trans (blk_new w (.cells #[.int .i64 s.phase, .slice s.ra s.rl.length s.rc, .bool s.hasRtt, .int .i64 s.rtt, .int .i64 s.rttAt, .bool s.full, .int .i64 s.fullRate, .int .i64 s.fullRounds, .int .i64 s.cycle, .int .i64 s.cycleAt, .int .i64 s.til, .int .i64 s.round] 40)))
  have T1 := Lib.hid (show ((w.alloc (.cells #[.int .i64 s.phase, .slice s.ra s.rl.length s.rc, .bool s.hasRtt, .int .i64 s.rtt, .int .i64 s.rttAt, .bool s.full, .int .i64 s.fullRate, .int .i64 s.fullRounds, .int .i64 s.cycle, .int .i64 s.cycleAt, .int .i64 s.til, .int .i64 s.round] 40)).alloc (.cells #[.int .i64 s.phase, .slice a2 s.rl.length c2, .bool s.hasRtt, .int .i64 s.rtt, .int .i64 s.rttAt, .bool s.full, .int .i64 s.fullRate, .int .i64 s.fullRounds, .int .i64 s.cycle, .int .i64 s.cycleAt, .int .i64 s.til, .int .i64 s.round] 42)).heap[w.heap.size + 1]? = some (.cells #[.int .i64 s.phase, .slice a2 s.rl.length c2, .bool s.hasRtt, .int .i64 s.rtt, .int .i64 s.rttAt, .bool s.full, .int .i64 s.fullRate, .int .i64 s.fullRounds, .int .i64 s.cycle, .int .i64 s.cycleAt, .int .i64 s.til, .int .i64 s.round] 42 (0, 0)) by have := blk_new (w.alloc (.cells #[.int .i64 s.phase, .slice s.ra s.rl.length s.rc, .bool s.hasRtt, .int .i64 s.rtt, .int .i64 s.rttAt, .bool s.full, .int .i64 s.fullRate, .int .i64 s.fullRounds, .int .i64 s.cycle, .int .i64 s.cycleAt, .int .i64 s.til, .int .i64 s.round] 40)) (.cells #[.int .i64 s.phase, .slice a2 s.rl.length c2, .bool s.hasRtt, .int .i64 s.rtt, .int .i64 s.rttAt, .bool s.full, .int .i64 s.fullRate, .int .i64 s.fullRounds, .int .i64 s.cycle, .int .i64 s.cycleAt, .int .i64 s.til, .int .i64 s.round] 42); rwa [show (w.alloc (.cells #[.int .i64 s.phase, .slice s.ra s.rl.length s.rc, .bool s.hasRtt, .int .i64 s.rtt, .int .i64 s.rttAt, .bool s.full, .int .i64 s.fullRate, .int .i64 s.fullRounds, .int .i64 s.cycle, .int .i64 s.cycleAt, .int .i64 s.til, .int .i64 s.round] 40)).heap.size = w.heap.size + 1 by simp] at this)
  clear ha hb b1 b2
  go_enter Try.func17, Try.ntmps17
  go_wp2_with fail
  generalize (w.alloc (.cells #[.int .i64 s.phase, .slice s.ra s.rl.length s.rc, .bool s.hasRtt, .int .i64 s.rtt, .int .i64 s.rttAt, .bool s.full, .int .i64 s.fullRate, .int .i64 s.fullRounds, .int .i64 s.cycle, .int .i64 s.cycleAt, .int .i64 s.til, .int .i64 s.round] 40)).alloc (.cells #[.int .i64 s.phase, .slice a2 s.rl.length c2, .bool s.hasRtt, .int .i64 s.rtt, .int .i64 s.rttAt, .bool s.full, .int .i64 s.fullRate, .int .i64 s.fullRounds, .int .i64 s.cycle, .int .i64 s.cycleAt, .int .i64 s.til, .int .i64 s.round] 42) = V1 at S1 T1 A1 B1 Q1 ⊢
  refine (samePairs_one s.ra a2 s.rl s.rc c2 V1 A1.out B1.out (by omega)).mono ?_
  rintro e V2 ⟨rfl, b⟩
  have S2 := Lib.hid ((b.block _ (blk_lt S1.out)).trans S1.out)
  have T2 := Lib.hid ((b.block _ (blk_lt T1.out)).trans T1.out)
  have Q2 := Lib.hid (Q1.out.trans (b.mono Q1.out.size))
  clear b S1 T1 A1 B1 Q1
  have c0 := blk_cell S2.out 0
  have d0 := blk_cell T2.out 0
  have c2 := blk_cell S2.out 2
  have d2 := blk_cell T2.out 2
  have c3 := blk_cell S2.out 3
  have d3 := blk_cell T2.out 3
  have c4 := blk_cell S2.out 4
  have d4 := blk_cell T2.out 4
  have c5 := blk_cell S2.out 5
  have d5 := blk_cell T2.out 5
  have c6 := blk_cell S2.out 6
  have d6 := blk_cell T2.out 6
  have c7 := blk_cell S2.out 7
  have d7 := blk_cell T2.out 7
  have c8 := blk_cell S2.out 8
  have d8 := blk_cell T2.out 8
  have c9 := blk_cell S2.out 9
  have d9 := blk_cell T2.out 9
  have c10 := blk_cell S2.out 10
  have d10 := blk_cell T2.out 10
  have c11 := blk_cell S2.out 11
  have d11 := blk_cell T2.out 11
  go_wp2
  go_ret
  exact ⟨rfl, Q2.out⟩

abbrev zS : Bs := ⟨0, none, [], 0, false, 0, 0, false, 0, 0, 0, 0, 0, 0⟩
/-- What follows of an event. -/
def Behind (b : Bool) (s : Bs) (e : Be) (t : Bs) : Prop := (b = true ∧ ∃ a c, t = ackF s e a c) ∨ (b = false ∧ t = zS)
def enF (b : Bool) : Int := if b = true then 0 else 4
def OkE (s : Bs) (m : Int) (e : Be) : Prop := (1 ≤ m ∧ m ≤ 65535) ∧ EvV s e
theorem ack_b (b : Bool) (s : Bs) (m : Int) (e : Be) (w : World) (hb : b = true ↔ OkE s m e) (hv : SV s) (hL : Sts 2 PC Tr w s.ra s.rl) (hn : s.ra = none → s.rc = 0) :
    Calls Try.prog 15 #[.agg #[.int .i64 s.phase, .slice s.ra s.rl.length s.rc, .bool s.hasRtt, .int .i64 s.rtt, .int .i64 s.rttAt, .bool s.full, .int .i64 s.fullRate, .int .i64 s.fullRounds, .int .i64 s.cycle, .int .i64 s.cycleAt, .int .i64 s.til, .int .i64 s.round], .int .i64 m, .agg #[.int .i64 e.now, .int .i64 e.round, .int .i64 e.rate, .int .i64 e.rtt, .int .i64 e.flight, .bool e.hasRate, .bool e.hasRtt]] w fun z w' => (∃ t : Bs, Behind b s e t ∧ z = .returned (.tuple #[.agg #[.int .i64 t.phase, .slice t.ra t.rl.length t.rc, .bool t.hasRtt, .int .i64 t.rtt, .int .i64 t.rttAt, .bool t.full, .int .i64 t.fullRate, .int .i64 t.fullRounds, .int .i64 t.cycle, .int .i64 t.cycleAt, .int .i64 t.til, .int .i64 t.round], .int .i64 (enF b)]) ∧ OwnR 36 2 PC w.heap.size t.ra t.rl t.rc w') ∧ Below w.heap.size w w' := by
  have nb : ¬ OkE s m e → b = false := fun h => by cases b; rfl; exact absurd (hb.1 rfl) h
  have fin : b = false → ∀ z w', (z = Ending.returned (.tuple #[.agg #[.int .i64 0, .slice none 0 0, .bool false, .int .i64 0, .int .i64 0, .bool false, .int .i64 0, .int .i64 0, .int .i64 0, .int .i64 0, .int .i64 0, .int .i64 0], .int .i64 4]) ∧ Below w.heap.size w w') → (∃ t : Bs, Behind b s e t ∧ z = .returned (.tuple #[.agg #[.int .i64 t.phase, .slice t.ra t.rl.length t.rc, .bool t.hasRtt, .int .i64 t.rtt, .int .i64 t.rttAt, .bool t.full, .int .i64 t.fullRate, .int .i64 t.fullRounds, .int .i64 t.cycle, .int .i64 t.cycleAt, .int .i64 t.til, .int .i64 t.round], .int .i64 (enF b)]) ∧ OwnR 36 2 PC w.heap.size t.ra t.rl t.rc w') ∧ Below w.heap.size w w' := by
    rintro hf z w' ⟨rfl, hbl⟩
    exact ⟨⟨zS, .inr ⟨hf, rfl⟩, by rw [hf]; rfl, ownR_nil _ _ _ _ _⟩, hbl⟩
  by_cases hm : 1 ≤ m ∧ m ≤ 65535
  case neg => exact (ack_mss s m e w hv hL hm).mono (fin (nb (fun h => hm h.1)))
  by_cases h1 : max s.round (lastR s.rl) ≤ e.round ∧ e.round ≤ 1099511627776
  case neg => exact (ack_round s m e w hv hL hm h1).mono (fin (nb (fun h => h1 ⟨by have := h.2.up; have := h.2.last; omega, h.2.round.2⟩)))
  by_cases h2 : 0 ≤ e.now ∧ e.now ≤ 1099511627776
  case neg => exact (ack_now s m e w hv hL hm h1 h2).mono (fin (nb (fun h => h2 h.2.now)))
  by_cases h3 : InR 0 1073741824 [e.rate, e.rtt, e.flight]
  case neg => exact (ack_nums s m e w hv hL hm h1 h2 h3).mono (fin (nb (fun h => h3 (inR3.2 ⟨h.2.rate, h.2.rtt, h.2.flight⟩))))
  obtain ⟨g1, g2, g3⟩ := inR3.1 h3
  have hr := hv.round
  have he : EvV s e := ⟨h2, ⟨by omega, h1.2⟩, g1, g2, g3, by omega, by omega⟩
  have hbt : b = true := hb.2 ⟨hm, he⟩
  refine (ack_ok s m e w hv hL hn hm he).mono ?_
  rintro z w' ⟨⟨t, hx, rfl, hO⟩, hbl⟩
  exact ⟨⟨t, .inl ⟨hbt, hx⟩, by rw [hbt]; rfl, hO⟩, hbl⟩
theorem rack_b (b : Bool) (s : Bs) (m : Int) (e : Be) (w : World) (hb : b = true ↔ OkE s m e) (hv : SV s) (hL : Sts 2 PC Tr w s.ra s.rl) (hn : s.ra = none → s.rc = 0) :
    Calls Try.prog 16 #[.agg #[.int .i64 s.phase, .slice s.ra s.rl.length s.rc, .bool s.hasRtt, .int .i64 s.rtt, .int .i64 s.rttAt, .bool s.full, .int .i64 s.fullRate, .int .i64 s.fullRounds, .int .i64 s.cycle, .int .i64 s.cycleAt, .int .i64 s.til, .int .i64 s.round], .int .i64 m, .agg #[.int .i64 e.now, .int .i64 e.round, .int .i64 e.rate, .int .i64 e.rtt, .int .i64 e.flight, .bool e.hasRate, .bool e.hasRtt]] w fun z w' => (∃ t : Bs, Behind b s e t ∧ z = .returned (.tuple #[.agg #[.int .i64 t.phase, .slice t.ra t.rl.length t.rc, .bool t.hasRtt, .int .i64 t.rtt, .int .i64 t.rttAt, .bool t.full, .int .i64 t.fullRate, .int .i64 t.fullRounds, .int .i64 t.cycle, .int .i64 t.cycleAt, .int .i64 t.til, .int .i64 t.round], .int .i64 (enF b)]) ∧ OwnR 58 2 PC w.heap.size t.ra t.rl t.rc w') ∧ Below w.heap.size w w' := by
  cases b with
  | false =>
    refine (rack_no s m e w hv hL (fun h => absurd (hb.2 h) (by decide))).mono ?_
    rintro z w' ⟨rfl, hbl⟩
    exact ⟨⟨zS, .inr ⟨rfl, rfl⟩, rfl, ownR_nil _ _ _ _ _⟩, hbl⟩
  | true =>
    have h := hb.1 rfl
    refine (rack_ok s m e w hv hL hn h.1 h.2).mono ?_
    rintro z w' ⟨⟨t, hx, rfl, hO⟩, hbl⟩
    exact ⟨⟨t, .inl ⟨rfl, hx⟩, rfl, hO⟩, hbl⟩

theorem restF_at (t : Bs) (e : Be) (a : Option Addr) (c : Nat) : restF { t with ra := a, rc := c } e = { restF t e with ra := a, rc := c } := by
  have h1 : ∀ x : Bs, rttF { x with ra := a, rc := c } e = { rttF x e with ra := a, rc := c } := fun x => by unfold rttF; split <;> rfl
  have h2 : ∀ x : Bs, staleF { x with ra := a, rc := c } e = staleF x e := fun x => rfl
  have h3 : ∀ x : Bs, phaseF { x with ra := a, rc := c } e = { phaseF x e with ra := a, rc := c } := fun x => by
    unfold phaseF; split
    · rfl
    · split <;> rfl
  have h4 : ∀ x : Bs, flowF { x with ra := a, rc := c } e = { flowF x e with ra := a, rc := c } := fun x => by unfold flowF; split <;> rfl
  have h5 : ∀ (x : Bs) (b : Bool), probeF { x with ra := a, rc := c } e b = { probeF x e b with ra := a, rc := c } := fun x b => by
    unfold probeF; split
    · rfl
    · split
      · split <;> rfl
      · rfl
  unfold restF stepF
  rw [h1, h2, h3, h4, h5]
theorem rateF_at (s : Bs) (e : Be) (a a2 : Option Addr) (c c2 : Nat) : rateF s e a2 c2 = { rateF s e a c with ra := a2, rc := c2 } := by
  unfold rateF; split
  · split <;> rfl
  · rfl
theorem ackF_at (s : Bs) (e : Be) (a a2 : Option Addr) (c c2 : Nat) : ackF s e a2 c2 = { ackF s e a c with ra := a2, rc := c2 } := by
  unfold ackF
  rw [rateF_at s e a a2 c c2, restF_at]
/-- Two states behind the same event are equal, but for where their lists lie. -/
theorem behind_two {b : Bool} {s t u : Bs} {e : Be} {a2 : Option Addr} {c2 : Nat} (h1 : Behind b s e t) (h2 : Behind b { s with ra := a2, rc := c2 } e u) : u = { t with ra := u.ra, rc := u.rc } := by
  rcases h1 with ⟨hb, a, c, rfl⟩ | ⟨hb, rfl⟩
  · rcases h2 with ⟨_, a', c', rfl⟩ | ⟨hb2, _⟩
    · rw [show ackF { s with ra := a2, rc := c2 } e a' c' = ackF s e a' c' from rfl]
      have h := ackF_rl s e a' c'
      rw [h.2.1, h.2.2]
      exact ackF_at s e a a' c c'
    · rw [hb] at hb2; exact absurd hb2 (by decide)
  · rcases h2 with ⟨hb2, _⟩ | ⟨_, rfl⟩
    · rw [hb] at hb2; exact absurd hb2 (by decide)
    · rfl
theorem Behind.sv {b : Bool} {s t : Bs} {m : Int} {e : Be} (h : Behind b s e t) (hv : SV s) (hb : b = true ↔ OkE s m e) (ht : b = true) : SV t := by
  rcases h with ⟨_, a, c, rfl⟩ | ⟨hf, _⟩
  · exact ackF_sv hv (hb.1 ht).2 a c
  · rw [ht] at hf; exact absurd hf (by decide)
end Go.Proofs.Ytokoogohdfepiaa
