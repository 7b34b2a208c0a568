/- Bbr: the methods on a state behind a pointer: greatest, onTheWay, cruise. -/
import Derived.Test.YtokoogohdfepiaaBbY
namespace Go.Proofs.Ytokoogohdfepiaa
open Go.RowKit

/-- The greatest rate of a filter. -/
def gE (l : List Pair23) : Int := match l with | [] => 0 | p :: _ => p.rate
theorem gE_at {l : List Pair23} {p : Pair23} (h : l[0]? = some p) : gE l = p.rate := by
  cases l with
  | nil => simp at h
  | cons q l => simp at h; subst h; rfl
theorem FV.gE {l : List Pair23} (h : FV l) : 0 ≤ gE l ∧ gE l ≤ 1073741824 := by
  cases l with
  | nil => exact ⟨by decide, by decide⟩
  | cons q l => exact (h.okm List.mem_cons_self).2

set_option maxRecDepth 100000 in
set_option maxHeartbeats 600000 in
theorem greatest_any (s : Bs) (g : Nat) (w : World) (hl : s.rl.length ≤ 10) (hS : w.heap[g]? = some (.cells #[.int .i64 s.phase, .slice s.ra s.rl.length s.rc, .bool s.hasRtt, .int .i64 s.rtt, .int .i64 s.rttAt, .bool s.full, .int .i64 s.fullRate, .int .i64 s.fullRounds, .int .i64 s.cycle, .int .i64 s.cycleAt, .int .i64 s.til, .int .i64 s.round] 40 (0, 0))) (h : Sts 2 PC Tr w s.ra s.rl) :
    Calls Try.prog 37 #[.pointer (some ⟨g, 0, none⟩)] w fun e w' => e = .returned (.int .i64 (gE s.rl)) ∧ w = w' := by
  have x1 := blk_cell hS 1
  clear hS
  rcases Nat.eq_zero_or_pos s.rl.length with h0 | h0
  · have hn : s.rl = [] := List.eq_nil_of_length_eq_zero h0
    rw [hn] at x1 ⊢
    clear h hn h0
    go_enter Try.func37, Try.ntmps37
    go_wp2
    go_ret
    exact ⟨rfl, rfl⟩
  · obtain ⟨p, hp⟩ : ∃ p, s.rl[0]? = some p := ⟨_, List.getElem?_eq_getElem h0⟩
    obtain ⟨b, o, hra, _, _⟩ := h.isSomeT h0
    rw [hra] at h x1
    obtain ⟨_, z0, z1⟩ := pair_at h hp
    simp only [Nat.zero_mul, Nat.add_zero] at z0 z1
    have hg := Lib.hid (gE_at hp)
    have k0 : ¬ ((s.rl.length : Int) = 0) := by omega
    have k1 : (0 : Int) < (s.rl.length : Int) := by omega
    clear h hp hra
    go_enter Try.func37, Try.ntmps37
    go_wp2
    go_ret
    rw [hg.out]
    exact ⟨rfl, rfl⟩

set_option maxRecDepth 100000 in
set_option maxHeartbeats 600000 in
theorem onTheWay_any (s : Bs) (g : Nat) (w : World) (hv : SV s) (hS : w.heap[g]? = some (.cells #[.int .i64 s.phase, .slice s.ra s.rl.length s.rc, .bool s.hasRtt, .int .i64 s.rtt, .int .i64 s.rttAt, .bool s.full, .int .i64 s.fullRate, .int .i64 s.fullRounds, .int .i64 s.cycle, .int .i64 s.cycleAt, .int .i64 s.til, .int .i64 s.round] 40 (0, 0))) (h : Sts 2 PC Tr w s.ra s.rl) :
    Calls Try.prog 41 #[.pointer (some ⟨g, 0, none⟩)] w fun e w' => e = .returned (.int .i64 (gE s.rl * s.rtt / 1024)) ∧ ∃ n, w' = w.drewN n := by
  obtain ⟨r0, r1⟩ := hv.rtt
  obtain ⟨g0, g1⟩ := hv.rates.gE
  have hl := hv.rates.1
  have x3 := blk_cell hS 3
  have HG := Lib.hid (fun (W : World) (hS : W.heap[g]? = some (.cells #[.int .i64 s.phase, .slice s.ra s.rl.length s.rc, .bool s.hasRtt, .int .i64 s.rtt, .int .i64 s.rttAt, .bool s.full, .int .i64 s.fullRate, .int .i64 s.fullRounds, .int .i64 s.cycle, .int .i64 s.cycleAt, .int .i64 s.til, .int .i64 s.round] 40 (0, 0))) (h : Sts 2 PC Tr W s.ra s.rl) => (greatest_any s g W hl hS h).mono (fun _ _ ⟨h1, h2⟩ => (⟨h1, h2.symm⟩ : _ ∧ _ = W)))
  have HS := Lib.hid hS
  have HL := Lib.hid h
  obtain ⟨q, hq⟩ : ∃ q, gE s.rl = q := ⟨_, rfl⟩
  rw [hq] at g0 g1 HG ⊢
  have hm0 : 0 ≤ q * s.rtt := Int.mul_nonneg g0 r0
  have hm1 : q * s.rtt ≤ 1073741824 * 1073741824 := Int.mul_le_mul g1 r1 r0 (by decide)
  have w1 : IntKind.i64.wrap (q * s.rtt) = q * s.rtt := IntWalk.i64_in _ ⟨by omega, by omega⟩
  have w2 : (q * s.rtt).tdiv 1024 = q * s.rtt / 1024 := Int.tdiv_eq_ediv_of_nonneg hm0
  have w3 : IntKind.i64.wrap (q * s.rtt / 1024) = q * s.rtt / 1024 := IntWalk.i64_in _ ⟨by omega, by omega⟩
  clear hv hS h hq
  go_enter Try.func41, Try.ntmps41
  go_wp2_with fail
  go_quiet (first | (go_at_call 37; exact Calls.quiet_of_same (HG.out _ HS.out HL.out)))
  go_wp2
  go_ret
  exact ⟨rfl, nq, rfl⟩

set_option maxRecDepth 100000 in
set_option maxHeartbeats 600000 in
theorem cruise_any (s : Bs) (v : Int) (g : Nat) (w : World) (hS : w.heap[g]? = some (.cells #[.int .i64 s.phase, .slice s.ra s.rl.length s.rc, .bool s.hasRtt, .int .i64 s.rtt, .int .i64 s.rttAt, .bool s.full, .int .i64 s.fullRate, .int .i64 s.fullRounds, .int .i64 s.cycle, .int .i64 s.cycleAt, .int .i64 s.til, .int .i64 s.round] 40 (0, 0))) :
    Calls Try.prog 42 #[.pointer (some ⟨g, 0, none⟩), .int .i64 v] w fun e w' => e = .returned (.tuple #[]) ∧ w'.heap[g]? = some (.cells #[.int .i64 2, .slice s.ra s.rl.length s.rc, .bool s.hasRtt, .int .i64 s.rtt, .int .i64 s.rttAt, .bool s.full, .int .i64 s.fullRate, .int .i64 s.fullRounds, .int .i64 0, .int .i64 v, .int .i64 s.til, .int .i64 s.round] 40 (0, 0)) ∧ w.grownBy w' (some g) := by
  have S0 := Lib.hid hS
  have f0 := blk_free hS 0
  have c0 := blk_cell hS 0
  have c8 := blk_cell hS 8
  have c9 := blk_cell hS 9
  have f8 := blk_free hS 8
  have f9 := blk_free hS 9
  clear hS
  go_enter Try.func42, Try.ntmps42
  go_wp2
  go_end0
  exact ⟨rfl, blk_set (blk_set (blk_set S0.out 0 (.int .i64 2)) 8 (.int .i64 0)) 9 (.int .i64 v), gr_trans (gr_trans (gr_set _ g 0 _) (gr_set _ g 8 _)) (gr_set _ g 9 _)⟩
end Go.Proofs.Ytokoogohdfepiaa
