/- Bbr: what an event makes of a state: hearRate, hearRtt, step, probe by one word each. -/
import Derived.Test.YtokoogohdfepiaaBbZf
import Derived.Test.YtokoogohdfepiaaBbZg
import Derived.Test.YtokoogohdfepiaaBbZh
namespace Go.Proofs.Ytokoogohdfepiaa
open Go.RowKit

def Bs.cs (s : Bs) : Array Value := #[.int .i64 s.phase, .slice s.ra s.rl.length s.rc, .bool s.hasRtt, .int .i64 s.rtt, .int .i64 s.rttAt, .bool s.full, .int .i64 s.fullRate, .int .i64 s.fullRounds, .int .i64 s.cycle, .int .i64 s.cycleAt, .int .i64 s.til, .int .i64 s.round]
def lF (s : Bs) (e : Be) : List Pair23 := if e.hasRate = true then filt e.round e.rate s.rl else s.rl
def rateF (s : Bs) (e : Be) (a : Option Addr) (c : Nat) : Bs :=
  if s.round < e.round ∧ s.full = false then
    (if 5 * s.fullRate ≤ 4 * gE (lF s e) then { s with ra := a, rl := lF s e, rc := c, round := e.round, fullRate := gE (lF s e), fullRounds := 0 }
     else { s with ra := a, rl := lF s e, rc := c, round := e.round, fullRounds := min (s.fullRounds + 1) 1099511627776, full := decide (3 ≤ min (s.fullRounds + 1) 1099511627776) })
  else { s with ra := a, rl := lF s e, rc := c, round := e.round }
def staleF (s : Bs) (e : Be) : Bool := e.hasRtt && (s.hasRtt && decide (s.rttAt + 10240 ≤ e.now))
def rttF (s : Bs) (e : Be) : Bs := if e.hasRtt = true ∧ (s.hasRtt = false ∨ e.rtt ≤ s.rtt ∨ s.rttAt + 10240 ≤ e.now) then { s with hasRtt := true, rtt := e.rtt, rttAt := e.now } else s
def cruiseF (s : Bs) (now : Int) : Bs := { s with phase := 2, cycle := 0, cycleAt := now }
def phaseF (s : Bs) (e : Be) : Bs :=
  if s.phase = 0 ∧ s.full = true then { s with phase := 1 } else if s.phase = 2 ∧ s.cycleAt + max s.rtt 1 ≤ e.now then { s with cycle := (s.cycle + 1) % 8, cycleAt := e.now } else s
def flowF (s : Bs) (e : Be) : Bs := if s.phase = 1 ∧ e.flight ≤ gE s.rl * s.rtt / 1024 then cruiseF s e.now else s
def stepF (s : Bs) (e : Be) : Bs := flowF (phaseF s e) e
def probeF (s : Bs) (e : Be) (stale : Bool) : Bs :=
  if stale = true ∧ ¬ s.phase = 3 then { s with phase := 3, til := min (e.now + 200) 1099511627776 }
  else if s.phase = 3 ∧ s.til ≤ e.now then (if s.full = true then cruiseF { s with rttAt := e.now, phase := 0 } e.now else { s with rttAt := e.now, phase := 0 })
  else s
/-- The state behind an event, its list at a. -/
def restF (t : Bs) (e : Be) : Bs := probeF (stepF (rttF t e) e) e (staleF t e)
def ackF (s : Bs) (e : Be) (a : Option Addr) (c : Nat) : Bs := restF (rateF s e a c) e
/-- An event that may follow. -/
structure EvV (s : Bs) (e : Be) : Prop where
  now : 0 ≤ e.now ∧ e.now ≤ 1099511627776
  round : 0 ≤ e.round ∧ e.round ≤ 1099511627776
  rate : 0 ≤ e.rate ∧ e.rate ≤ 1073741824
  rtt : 0 ≤ e.rtt ∧ e.rtt ≤ 1073741824
  flight : 0 ≤ e.flight ∧ e.flight ≤ 1073741824
  up : s.round ≤ e.round
  last : lastR s.rl ≤ e.round

theorem lF_fv {s : Bs} {e : Be} (hv : SV s) (he : EvV s e) : FV (lF s e) := by
  unfold lF; split
  · exact (filt_is hv.rates ⟨⟨he.last, he.round.2⟩, he.rate⟩).1
  · exact hv.rates
theorem rateF_sv {s : Bs} {e : Be} (hv : SV s) (he : EvV s e) (a : Option Addr) (c : Nat) : SV (rateF s e a c) := by
  have hl := lF_fv hv he
  have hg := hl.gE
  have h3 := hv.fullRounds
  unfold rateF; split
  · split
    · exact ⟨hv.phase, hv.cycle, hl, hv.rtt, hv.rttAt, ⟨hg.1, Int.le_trans hg.2 (by decide)⟩, ⟨Int.le_refl _, (by decide : (0 : Int) ≤ 1099511627776)⟩, hv.cycleAt, hv.til, he.round⟩
    · exact ⟨hv.phase, hv.cycle, hl, hv.rtt, hv.rttAt, hv.fullRate, ⟨by dsimp only; omega, Int.min_le_right _ _⟩, hv.cycleAt, hv.til, he.round⟩
  · exact ⟨hv.phase, hv.cycle, hl, hv.rtt, hv.rttAt, hv.fullRate, hv.fullRounds, hv.cycleAt, hv.til, he.round⟩
theorem rateF_rl (s : Bs) (e : Be) (a : Option Addr) (c : Nat) : (rateF s e a c).rl = lF s e ∧ (rateF s e a c).ra = a ∧ (rateF s e a c).rc = c := by
  unfold rateF; split
  · split <;> exact ⟨rfl, rfl, rfl⟩
  · exact ⟨rfl, rfl, rfl⟩
theorem rttF_sv {s : Bs} {e : Be} (hv : SV s) (hn : 0 ≤ e.now ∧ e.now ≤ 1099511627776) (hr : 0 ≤ e.rtt ∧ e.rtt ≤ 1073741824) : SV (rttF s e) := by
  unfold rttF; split
  · exact ⟨hv.phase, hv.cycle, hv.rates, hr, hn, hv.fullRate, hv.fullRounds, hv.cycleAt, hv.til, hv.round⟩
  · exact hv
theorem rttF_rl (s : Bs) (e : Be) : (rttF s e).rl = s.rl ∧ (rttF s e).ra = s.ra ∧ (rttF s e).rc = s.rc := by unfold rttF; split <;> exact ⟨rfl, rfl, rfl⟩
theorem cruiseF_sv {s : Bs} (hv : SV s) {n : Int} (hn : 0 ≤ n ∧ n ≤ 1099511627776) : SV (cruiseF s n) := ⟨⟨(by decide : (0 : Int) ≤ 2), (by decide : (2 : Int) ≤ 3)⟩, ⟨Int.le_refl _, (by decide : (0 : Int) ≤ 7)⟩, hv.rates, hv.rtt, hv.rttAt, hv.fullRate, hv.fullRounds, hn, hv.til, hv.round⟩
theorem phaseF_sv {s : Bs} {e : Be} (hv : SV s) (hn : 0 ≤ e.now ∧ e.now ≤ 1099511627776) : SV (phaseF s e) := by
  have hc := hv.cycle
  unfold phaseF; split
  · exact hv.to ⟨by decide, by decide⟩
  · split
    · exact ⟨hv.phase, ⟨by dsimp only; omega, by dsimp only; omega⟩, hv.rates, hv.rtt, hv.rttAt, hv.fullRate, hv.fullRounds, hn, hv.til, hv.round⟩
    · exact hv
theorem stepF_sv {s : Bs} {e : Be} (hv : SV s) (hn : 0 ≤ e.now ∧ e.now ≤ 1099511627776) : SV (stepF s e) := by
  unfold stepF flowF; split
  · exact cruiseF_sv (phaseF_sv hv hn) hn
  · exact phaseF_sv hv hn
theorem stepF_rl (s : Bs) (e : Be) : (stepF s e).rl = s.rl ∧ (stepF s e).ra = s.ra ∧ (stepF s e).rc = s.rc := by
  have h : ∀ t : Bs, (flowF t e).rl = t.rl ∧ (flowF t e).ra = t.ra ∧ (flowF t e).rc = t.rc := fun t => by unfold flowF cruiseF; split <;> exact ⟨rfl, rfl, rfl⟩
  unfold stepF
  rw [(h _).1, (h _).2.1, (h _).2.2]
  unfold phaseF; split
  · exact ⟨rfl, rfl, rfl⟩
  · split <;> exact ⟨rfl, rfl, rfl⟩
theorem probeF_sv {s : Bs} {e : Be} (b : Bool) (hv : SV s) (hn : 0 ≤ e.now ∧ e.now ≤ 1099511627776) : SV (probeF s e b) := by
  have h0 : SV { s with rttAt := e.now, phase := 0 } := ⟨⟨Int.le_refl _, (by decide : (0 : Int) ≤ 3)⟩, hv.cycle, hv.rates, hv.rtt, hn, hv.fullRate, hv.fullRounds, hv.cycleAt, hv.til, hv.round⟩
  unfold probeF; split
  · exact ⟨⟨(by decide : (0 : Int) ≤ 3), Int.le_refl _⟩, hv.cycle, hv.rates, hv.rtt, hv.rttAt, hv.fullRate, hv.fullRounds, hv.cycleAt, ⟨by dsimp only; omega, Int.min_le_right _ _⟩, hv.round⟩
  · split
    · split
      · exact cruiseF_sv h0 hn
      · exact h0
    · exact hv
theorem probeF_rl (s : Bs) (e : Be) (b : Bool) : (probeF s e b).rl = s.rl ∧ (probeF s e b).ra = s.ra ∧ (probeF s e b).rc = s.rc := by
  unfold probeF cruiseF; split
  · exact ⟨rfl, rfl, rfl⟩
  · split
    · split <;> exact ⟨rfl, rfl, rfl⟩
    · exact ⟨rfl, rfl, rfl⟩
theorem ackF_sv {s : Bs} {e : Be} (hv : SV s) (he : EvV s e) (a : Option Addr) (c : Nat) : SV (ackF s e a c) :=
  probeF_sv _ (stepF_sv (rttF_sv (rateF_sv hv he a c) he.now he.rtt) he.now) he.now
theorem restF_rl (t : Bs) (e : Be) : (restF t e).rl = t.rl ∧ (restF t e).ra = t.ra ∧ (restF t e).rc = t.rc := by
  unfold restF
  rw [(probeF_rl _ _ _).1, (probeF_rl _ _ _).2.1, (probeF_rl _ _ _).2.2, (stepF_rl _ _).1, (stepF_rl _ _).2.1, (stepF_rl _ _).2.2]
  exact rttF_rl t e
theorem ackF_rl (s : Bs) (e : Be) (a : Option Addr) (c : Nat) : (ackF s e a c).rl = lF s e ∧ (ackF s e a c).ra = a ∧ (ackF s e a c).rc = c := by
  unfold ackF
  rw [(restF_rl _ _).1, (restF_rl _ _).2.1, (restF_rl _ _).2.2]
  exact rateF_rl s e a c

set_option maxRecDepth 100000 in
set_option maxHeartbeats 400000 in
theorem hearRate_any (s : Bs) (e : Be) (g : Nat) (w : World) (hv : SV s) (he : EvV s e) (hL : Sts 2 PC Tr w s.ra s.rl) (hn : s.ra = none → s.rc = 0) (hS : w.heap[g]? = some (.cells #[.int .i64 s.phase, .slice s.ra s.rl.length s.rc, .bool s.hasRtt, .int .i64 s.rtt, .int .i64 s.rttAt, .bool s.full, .int .i64 s.fullRate, .int .i64 s.fullRounds, .int .i64 s.cycle, .int .i64 s.cycleAt, .int .i64 s.til, .int .i64 s.round] 40 (0, 0))) :
    Calls Try.prog 28 #[.pointer (some ⟨g, 0, none⟩), .agg #[.int .i64 e.now, .int .i64 e.round, .int .i64 e.rate, .int .i64 e.rtt, .int .i64 e.flight, .bool e.hasRate, .bool e.hasRtt]] w fun z w' => z = .returned (.tuple #[]) ∧ ∃ a' c', w'.heap[g]? = some (.cells (rateF s e a' c').cs 40 (0, 0)) ∧ OwnR 36 2 PC w.heap.size a' (lF s e) c' w' ∧ w.grownBy w' (some g) := by
  have hl := hv.rates.1
  have hl2 := (lF_fv hv he).1
  have hq := (lF_fv hv he).gE
  rcases Bool.eq_false_or_eq_true e.hasRate with hh | hh
  case inl =>
    have hlF : lF s e = (filt e.round e.rate s.rl) := if_pos hh
    rw [hlF] at hl2 hq
    by_cases hr : s.round < e.round
    · rcases (Bool.eq_false_or_eq_true s.full).symm with hf | hf
      · by_cases hm : 5 * s.fullRate ≤ 4 * gE (filt e.round e.rate s.rl)
        · have hR : ∀ a c, rateF s e a c = { s with ra := a, rl := (filt e.round e.rate s.rl), rc := c, round := e.round, fullRate := gE (filt e.round e.rate s.rl), fullRounds := 0 } := fun a c => by
            unfold rateF; rw [hlF, if_pos ⟨hr, hf⟩, if_pos hm]
          refine (hrr_more s e g w hl hL hn hS hh he.round.1 he.round.2 hl2 hr hf hq hv.fullRate hm).mono ?_
          rintro z w' ⟨rfl, a', c', h1, h2, h3⟩
          exact ⟨rfl, a', c', by rw [hR]; exact h1, by rw [hlF]; exact h2, h3⟩
        · have hR : ∀ a c, rateF s e a c = { s with ra := a, rl := (filt e.round e.rate s.rl), rc := c, round := e.round, fullRounds := min (s.fullRounds + 1) 1099511627776, full := decide (3 ≤ min (s.fullRounds + 1) 1099511627776) } := fun a c => by
            unfold rateF; rw [hlF, if_pos ⟨hr, hf⟩, if_neg hm]
          refine (hrr_less s e g w hl hL hn hS hh he.round.1 he.round.2 hl2 hr hf hq hv.fullRate (by omega) hv.fullRounds).mono ?_
          rintro z w' ⟨rfl, a', c', h1, h2, h3⟩
          exact ⟨rfl, a', c', by rw [hR]; exact h1, by rw [hlF]; exact h2, h3⟩
      · have hR : ∀ a c, rateF s e a c = { s with ra := a, rl := (filt e.round e.rate s.rl), rc := c, round := e.round } := fun a c => by
          unfold rateF; rw [hlF, if_neg (fun h => by rw [hf] at h; exact absurd h.2 (by decide))]
        refine (hrr_full s e g w hl hL hn hS hh he.round.1 he.round.2 hr hf).mono ?_
        rintro z w' ⟨rfl, a', c', h1, h2, h3⟩
        exact ⟨rfl, a', c', by rw [hR]; exact h1, by rw [hlF]; exact h2, h3⟩
    · have hR : ∀ a c, rateF s e a c = { s with ra := a, rl := (filt e.round e.rate s.rl), rc := c, round := e.round } := fun a c => by
        unfold rateF; rw [hlF, if_neg (fun h => hr h.1)]
      refine (hrr_same s e g w hl hL hn hS hh he.round.1 he.round.2 hr).mono ?_
      rintro z w' ⟨rfl, a', c', h1, h2, h3⟩
      exact ⟨rfl, a', c', by rw [hR]; exact h1, by rw [hlF]; exact h2, h3⟩
  case inr =>
    have hlF : lF s e = s.rl := if_neg (by rw [hh]; decide)
    rw [hlF] at hl2 hq
    by_cases hr : s.round < e.round
    · rcases (Bool.eq_false_or_eq_true s.full).symm with hf | hf
      · by_cases hm : 5 * s.fullRate ≤ 4 * gE s.rl
        · have hR : ∀ a c, rateF s e a c = { s with ra := a, rl := s.rl, rc := c, round := e.round, fullRate := gE s.rl, fullRounds := 0 } := fun a c => by
            unfold rateF; rw [hlF, if_pos ⟨hr, hf⟩, if_pos hm]
          refine (hra_more s e g w hl hL hn hS hh hr hf hq hv.fullRate hm).mono ?_
          rintro z w' ⟨rfl, a', c', h1, h2, h3⟩
          exact ⟨rfl, a', c', by rw [hR]; exact h1, by rw [hlF]; exact h2, h3⟩
        · have hR : ∀ a c, rateF s e a c = { s with ra := a, rl := s.rl, rc := c, round := e.round, fullRounds := min (s.fullRounds + 1) 1099511627776, full := decide (3 ≤ min (s.fullRounds + 1) 1099511627776) } := fun a c => by
            unfold rateF; rw [hlF, if_pos ⟨hr, hf⟩, if_neg hm]
          refine (hra_less s e g w hl hL hn hS hh hr hf hq hv.fullRate (by omega) hv.fullRounds).mono ?_
          rintro z w' ⟨rfl, a', c', h1, h2, h3⟩
          exact ⟨rfl, a', c', by rw [hR]; exact h1, by rw [hlF]; exact h2, h3⟩
      · have hR : ∀ a c, rateF s e a c = { s with ra := a, rl := s.rl, rc := c, round := e.round } := fun a c => by
          unfold rateF; rw [hlF, if_neg (fun h => by rw [hf] at h; exact absurd h.2 (by decide))]
        refine (hra_full s e g w hl hL hn hS hh hr hf).mono ?_
        rintro z w' ⟨rfl, a', c', h1, h2, h3⟩
        exact ⟨rfl, a', c', by rw [hR]; exact h1, by rw [hlF]; exact h2, h3⟩
    · have hR : ∀ a c, rateF s e a c = { s with ra := a, rl := s.rl, rc := c, round := e.round } := fun a c => by
        unfold rateF; rw [hlF, if_neg (fun h => hr h.1)]
      refine (hra_same s e g w hl hL hn hS hh hr).mono ?_
      rintro z w' ⟨rfl, a', c', h1, h2, h3⟩
      exact ⟨rfl, a', c', by rw [hR]; exact h1, by rw [hlF]; exact h2, h3⟩

set_option maxRecDepth 100000 in
set_option maxHeartbeats 400000 in
theorem hearRtt_any (s : Bs) (e : Be) (g : Nat) (w : World) (hv : SV s) (hS : w.heap[g]? = some (.cells #[.int .i64 s.phase, .slice s.ra s.rl.length s.rc, .bool s.hasRtt, .int .i64 s.rtt, .int .i64 s.rttAt, .bool s.full, .int .i64 s.fullRate, .int .i64 s.fullRounds, .int .i64 s.cycle, .int .i64 s.cycleAt, .int .i64 s.til, .int .i64 s.round] 40 (0, 0))) :
    Calls Try.prog 29 #[.pointer (some ⟨g, 0, none⟩), .agg #[.int .i64 e.now, .int .i64 e.round, .int .i64 e.rate, .int .i64 e.rtt, .int .i64 e.flight, .bool e.hasRate, .bool e.hasRtt]] w fun z w' => z = .returned (.bool (staleF s e)) ∧ w'.heap[g]? = some (.cells (rttF s e).cs 40 (0, 0)) ∧ w.grownBy w' (some g) := by
  rcases (Bool.eq_false_or_eq_true e.hasRtt).symm with h | h
  · rw [show rttF s e = s from if_neg (fun h2 => by rw [h] at h2; exact absurd h2.1 (by decide)), show staleF s e = false by unfold staleF; rw [h]; rfl]
    exact (hr_no s e g w hv.rttAt hS h).mono (fun _ _ ⟨q0, q1, q2⟩ => ⟨q0, q1, q2⟩)
  · rcases (Bool.eq_false_or_eq_true s.hasRtt).symm with h1 | h1
    · rw [show rttF s e = { s with hasRtt := true, rtt := e.rtt, rttAt := e.now } from if_pos ⟨h, .inl h1⟩, show staleF s e = false by unfold staleF; rw [h, h1]; rfl]
      exact (hr_first s e g w hv.rttAt hS h h1).mono (fun _ _ ⟨q0, q1, q2⟩ => ⟨q0, q1, q2⟩)
    · by_cases h2 : s.rttAt + 10240 ≤ e.now
      · rw [show rttF s e = { s with hasRtt := true, rtt := e.rtt, rttAt := e.now } from if_pos ⟨h, .inr (.inr h2)⟩, show staleF s e = true by unfold staleF; rw [h, h1, decide_eq_true h2]; rfl]
        by_cases h3 : e.rtt ≤ s.rtt
        · exact (hr_stale1 s e g w hv.rttAt hS h h1 h2 h3).mono (fun _ _ ⟨q0, q1, q2⟩ => ⟨q0, q1, q2⟩)
        · exact (hr_stale2 s e g w hv.rttAt hS h h1 h2 h3).mono (fun _ _ ⟨q0, q1, q2⟩ => ⟨q0, q1, q2⟩)
      · rw [show staleF s e = false by unfold staleF; rw [h, h1, decide_eq_false h2]; rfl]
        by_cases h3 : e.rtt ≤ s.rtt
        · rw [show rttF s e = { s with hasRtt := true, rtt := e.rtt, rttAt := e.now } from if_pos ⟨h, .inr (.inl h3)⟩]
          exact (hr_less s e g w hv.rttAt hS h h1 h2 h3).mono (fun _ _ ⟨q0, q1, q2⟩ => ⟨q0, q1, q2⟩)
        · rw [show rttF s e = s from if_neg (fun hh => by rcases hh.2 with a | a | a; (rw [h1] at a; exact absurd a (by decide)); exact h3 a; exact h2 a)]
          exact (hr_keep s e g w hv.rttAt hS h h1 h2 h3).mono (fun _ _ ⟨q0, q1, q2⟩ => ⟨q0, q1, q2⟩)

set_option maxRecDepth 100000 in
set_option maxHeartbeats 400000 in
theorem step_any (s : Bs) (e : Be) (g : Nat) (w : World) (hv : SV s) (hL : Sts 2 PC Tr w s.ra s.rl) (hS : w.heap[g]? = some (.cells #[.int .i64 s.phase, .slice s.ra s.rl.length s.rc, .bool s.hasRtt, .int .i64 s.rtt, .int .i64 s.rttAt, .bool s.full, .int .i64 s.fullRate, .int .i64 s.fullRounds, .int .i64 s.cycle, .int .i64 s.cycleAt, .int .i64 s.til, .int .i64 s.round] 40 (0, 0))) (hd : ∀ b o, s.ra = some ⟨b, o, none⟩ → b ≠ g) :
    Calls Try.prog 30 #[.pointer (some ⟨g, 0, none⟩), .agg #[.int .i64 e.now, .int .i64 e.round, .int .i64 e.rate, .int .i64 e.rtt, .int .i64 e.flight, .bool e.hasRate, .bool e.hasRtt]] w fun z w' => z = .returned (.tuple #[]) ∧ w'.heap[g]? = some (.cells (stepF s e).cs 40 (0, 0)) ∧ w.grownBy w' (some g) := by
  have hp := hv.phase
  rcases (by omega : s.phase = 0 ∨ s.phase = 1 ∨ s.phase = 2 ∨ s.phase = 3) with hp | hp | hp | hp
  · rcases (Bool.eq_false_or_eq_true s.full).symm with hf | hf
    · rw [show stepF s e = s by unfold stepF; rw [show phaseF s e = s by unfold phaseF; rw [if_neg (fun h => by rw [hf] at h; exact absurd h.2 (by decide)), if_neg (fun h => by omega)]]; unfold flowF; rw [if_neg (fun h => by omega)]]
      exact (st_start s e g w hv hL hS hp hf).mono (fun _ _ ⟨q0, q1, q2⟩ => ⟨q0, q1, q2⟩)
    · by_cases h : e.flight ≤ gE s.rl * s.rtt / 1024
      · rw [show stepF s e = cruiseF { s with phase := 1 } e.now by unfold stepF; rw [show phaseF s e = { s with phase := 1 } from if_pos ⟨hp, hf⟩]; unfold flowF; rw [if_pos ⟨rfl, h⟩]]
        exact (st_full_go s e g w hv hL hS hp hf hd h).mono (fun _ _ ⟨q0, q1, q2⟩ => ⟨q0, q1, q2⟩)
      · rw [show stepF s e = { s with phase := 1 } by unfold stepF; rw [show phaseF s e = { s with phase := 1 } from if_pos ⟨hp, hf⟩]; unfold flowF; rw [if_neg (fun hh => h hh.2)]]
        exact (st_full s e g w hv hL hS hp hf hd h).mono (fun _ _ ⟨q0, q1, q2⟩ => ⟨q0, q1, q2⟩)
  · have hP : phaseF s e = s := by unfold phaseF; rw [if_neg (fun h => by omega), if_neg (fun h => by omega)]
    by_cases h : e.flight ≤ gE s.rl * s.rtt / 1024
    · rw [show stepF s e = cruiseF s e.now by unfold stepF; rw [hP]; unfold flowF; rw [if_pos ⟨hp, h⟩]]
      exact (st_drain_go s e g w hv hL hS hp h).mono (fun _ _ ⟨q0, q1, q2⟩ => ⟨q0, q1, q2⟩)
    · rw [show stepF s e = s by unfold stepF; rw [hP]; unfold flowF; rw [if_neg (fun hh => h hh.2)]]
      exact (st_drain s e g w hv hL hS hp h).mono (fun _ _ ⟨q0, q1, q2⟩ => ⟨q0, q1, q2⟩)
  · by_cases h : s.cycleAt + max s.rtt 1 ≤ e.now
    · rw [show stepF s e = { s with cycle := (s.cycle + 1) % 8, cycleAt := e.now } by unfold stepF; rw [show phaseF s e = { s with cycle := (s.cycle + 1) % 8, cycleAt := e.now } by unfold phaseF; rw [if_neg (fun hh => by omega), if_pos ⟨hp, h⟩]]; unfold flowF; rw [if_neg (fun hh => by have := hh.1; dsimp only at this; omega)]]
      exact (st_probe_go s e g w hv hL hS hp h).mono (fun _ _ ⟨q0, q1, q2⟩ => ⟨q0, q1, q2⟩)
    · rw [show stepF s e = s by unfold stepF; rw [show phaseF s e = s by unfold phaseF; rw [if_neg (fun hh => by omega), if_neg (fun hh => h hh.2)]]; unfold flowF; rw [if_neg (fun hh => by omega)]]
      exact (st_probe s e g w hv hL hS hp h).mono (fun _ _ ⟨q0, q1, q2⟩ => ⟨q0, q1, q2⟩)
  · rw [show stepF s e = s by unfold stepF; rw [show phaseF s e = s by unfold phaseF; rw [if_neg (fun hh => by omega), if_neg (fun hh => by omega)]]; unfold flowF; rw [if_neg (fun hh => by omega)]]
    exact (st_rest s e g w hv hL hS hp).mono (fun _ _ ⟨q0, q1, q2⟩ => ⟨q0, q1, q2⟩)

set_option maxRecDepth 100000 in
set_option maxHeartbeats 400000 in
theorem probe_any (s : Bs) (e : Be) (b : Bool) (g : Nat) (w : World) (hv : SV s) (hn : 0 ≤ e.now ∧ e.now ≤ 1099511627776) (hL : Sts 2 PC Tr w s.ra s.rl) (hS : w.heap[g]? = some (.cells #[.int .i64 s.phase, .slice s.ra s.rl.length s.rc, .bool s.hasRtt, .int .i64 s.rtt, .int .i64 s.rttAt, .bool s.full, .int .i64 s.fullRate, .int .i64 s.fullRounds, .int .i64 s.cycle, .int .i64 s.cycleAt, .int .i64 s.til, .int .i64 s.round] 40 (0, 0))) :
    Calls Try.prog 31 #[.pointer (some ⟨g, 0, none⟩), .agg #[.int .i64 e.now, .int .i64 e.round, .int .i64 e.rate, .int .i64 e.rtt, .int .i64 e.flight, .bool e.hasRate, .bool e.hasRtt], .bool b] w fun z w' => z = .returned (.tuple #[]) ∧ w'.heap[g]? = some (.cells (probeF s e b).cs 40 (0, 0)) ∧ w.grownBy w' (some g) := by
  by_cases hp : s.phase = 3
  · by_cases h : s.til ≤ e.now
    · rcases (Bool.eq_false_or_eq_true s.full).symm with hf | hf
      · rw [show probeF s e b = { s with rttAt := e.now, phase := 0 } by unfold probeF; rw [if_neg (fun hh => hh.2 hp), if_pos ⟨hp, h⟩, if_neg (by rw [hf]; decide)]]
        exact (pr_end s e g w hv hL hS b hp h hf).mono (fun _ _ ⟨q0, q1, q2⟩ => ⟨q0, q1, q2⟩)
      · rw [show probeF s e b = cruiseF { s with rttAt := e.now, phase := 0 } e.now by unfold probeF; rw [if_neg (fun hh => hh.2 hp), if_pos ⟨hp, h⟩, if_pos hf]]
        exact (pr_cruise s e g w hv hL hS b hp h hf).mono (fun _ _ ⟨q0, q1, q2⟩ => ⟨q0, q1, q2⟩)
    · rw [show probeF s e b = s by unfold probeF; rw [if_neg (fun hh => hh.2 hp), if_neg (fun hh => h hh.2)]]
      exact (pr_wait s e g w hv hL hS b hp h).mono (fun _ _ ⟨q0, q1, q2⟩ => ⟨q0, q1, q2⟩)
  · cases b
    · rw [show probeF s e false = s by unfold probeF; rw [if_neg (fun hh => by exact absurd hh.1 (by decide)), if_neg (fun hh => hp hh.1)]]
      exact (pr_none s e g w hv hL hS hp).mono (fun _ _ ⟨q0, q1, q2⟩ => ⟨q0, q1, q2⟩)
    · rw [show probeF s e true = { s with phase := 3, til := min (e.now + 200) 1099511627776 } from if_pos ⟨rfl, hp⟩]
      exact (pr_stale s e g w hv hL hS hn hp).mono (fun _ _ ⟨q0, q1, q2⟩ => ⟨q0, q1, q2⟩)
end Go.Proofs.Ytokoogohdfepiaa
