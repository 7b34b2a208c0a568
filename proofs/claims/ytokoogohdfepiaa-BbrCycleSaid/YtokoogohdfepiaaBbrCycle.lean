/- For every rate and time: while it probes the rate, the gain goes round, each as long as the path's time. No condition. -/
import Derived.Test.YtokoogohdfepiaaRows
import Derived.Test.YtokoogohdfepiaaBbR
import Derived.RegionTactic
import Derived.ProofKit
import Derived.OpenShut
import Derived.ChangeOld
import Derived.SizedLaws
namespace Go.Proofs.Ytokoogohdfepiaa.bbrCycle
open Go.ChangeShapes Go.WideShapes Go.ChangeAt Go.RowKit Go.Deep Go.Proofs.Ytokoogohdfepiaa

def gv (k : Int) : Int := if k = 0 then 320 else if k = 1 then 192 else 256
theorem rate_any (s : Bs) (k v : Int) (w : World) (hv : SV s) (hp : s.phase = 2) (hc : s.cycle = k) (h0 : 0 < s.rl.length) (hL : Sts 2 PC Tr w s.ra s.rl) (he : min (max (gE s.rl * gv k / 256) 1) 1073741824 = v) :
    Calls Try.prog 19 #[.agg #[.int .i64 s.phase, .slice s.ra s.rl.length s.rc, .bool s.hasRtt, .int .i64 s.rtt, .int .i64 s.rttAt, .bool s.full, .int .i64 s.fullRate, .int .i64 s.fullRounds, .int .i64 s.cycle, .int .i64 s.cycleAt, .int .i64 s.til, .int .i64 s.round]] w fun z w' => z = .returned (.tuple #[.int .i64 v, .int .i64 0]) ∧ Below w.heap.size w w' := by
  subst hc
  have h8 := hv.cycle
  rcases (by omega : s.cycle = 0 ∨ s.cycle = 1 ∨ s.cycle = 2 ∨ s.cycle = 3 ∨ s.cycle = 4 ∨ s.cycle = 5 ∨ s.cycle = 6 ∨ s.cycle = 7) with h | h | h | h | h | h | h | h
  · rw [← he, show gv s.cycle = 320 by rw [h]; rfl]; exact rate_0 s w hv hp h h0 hL
  · rw [← he, show gv s.cycle = 192 by rw [h]; rfl]; exact rate_1 s w hv hp h h0 hL
  · rw [← he, show gv s.cycle = 256 by rw [h]; rfl]; exact rate_2 s w hv hp h h0 hL
  · rw [← he, show gv s.cycle = 256 by rw [h]; rfl]; exact rate_3 s w hv hp h h0 hL
  · rw [← he, show gv s.cycle = 256 by rw [h]; rfl]; exact rate_4 s w hv hp h h0 hL
  · rw [← he, show gv s.cycle = 256 by rw [h]; rfl]; exact rate_5 s w hv hp h h0 hL
  · rw [← he, show gv s.cycle = 256 by rw [h]; rfl]; exact rate_6 s w hv hp h h0 hL
  · rw [← he, show gv s.cycle = 256 by rw [h]; rfl]; exact rate_7 s w hv hp h h0 hL

/-- A state that probes the rate R, in the cycle k that began at n. -/
structure CInv (s : Bs) (R rt k n : Int) : Prop where
  sv : SV s
  phase : s.phase = 2
  rl : s.rl = [⟨1, R⟩]
  rtt : s.rtt = rt
  round : s.round = 1
  cycle : s.cycle = k
  at_ : s.cycleAt = n
theorem cinv0 {R rt : Int} (a : Option Addr) (c : Nat) (hR : 0 ≤ R ∧ R ≤ 1073741824) (hr : 0 ≤ rt ∧ rt ≤ 1073741824) : CInv ⟨2, a, [⟨1, R⟩], c, true, rt, 0, true, 0, 0, 0, 0, 0, 1⟩ R rt 0 0 := by
  refine ⟨⟨⟨(by decide : (0 : Int) ≤ 2), (by decide : (2 : Int) ≤ 3)⟩, ⟨(by decide : (0 : Int) ≤ 0), (by decide : (0 : Int) ≤ 7)⟩, ?_, hr, ⟨(by decide : (0 : Int) ≤ 0), (by decide : (0 : Int) ≤ 1099511627776)⟩, ⟨(by decide : (0 : Int) ≤ 0), (by decide : (0 : Int) ≤ 1099511627776)⟩, ⟨(by decide : (0 : Int) ≤ 0), (by decide : (0 : Int) ≤ 1099511627776)⟩, ⟨(by decide : (0 : Int) ≤ 0), (by decide : (0 : Int) ≤ 1099511627776)⟩, ⟨(by decide : (0 : Int) ≤ 0), (by decide : (0 : Int) ≤ 1099511627776)⟩, ⟨(by decide : (0 : Int) ≤ 1), (by decide : (1 : Int) ≤ 1099511627776)⟩⟩, rfl, rfl, rfl, rfl, rfl, rfl⟩
  apply fv_of
  simp [List.range, List.range.loop, hR.1, hR.2]
theorem cev {s : Bs} {R rt k n m : Int} (h : CInv s R rt k n) (hm : 0 ≤ m ∧ m ≤ 1099511627776) : EvV s ⟨m, 1, 0, 0, 0, false, false⟩ := by
  refine ⟨hm, ⟨(by decide : (0 : Int) ≤ 1), (by decide : (1 : Int) ≤ 1099511627776)⟩, ⟨(by decide : (0 : Int) ≤ 0), (by decide : (0 : Int) ≤ 1073741824)⟩, ⟨(by decide : (0 : Int) ≤ 0), (by decide : (0 : Int) ≤ 1073741824)⟩, ⟨(by decide : (0 : Int) ≤ 0), (by decide : (0 : Int) ≤ 1073741824)⟩, ?_, ?_⟩
  · rw [h.round]; exact Int.le_refl _
  · rw [h.rl]; exact Int.le_refl _
theorem stepF_of {s x : Bs} {e : Be} (h : phaseF s e = x) (h2 : ¬ x.phase = 1) : stepF s e = x := by
  unfold stepF; rw [h]; unfold flowF; rw [if_neg (fun e => h2 e.1)]
theorem CInv.ack {s : Bs} {R rt k n m : Int} (h : CInv s R rt k n) (a : Option Addr) (c : Nat) {t : Bs} (ht : t = ackF s ⟨m, 1, 0, 0, 0, false, false⟩ a c) :
    t = stepF { s with ra := a, rc := c, round := 1 } ⟨m, 1, 0, 0, 0, false, false⟩ := by
  have hr : rateF s ⟨m, 1, 0, 0, 0, false, false⟩ a c = { s with ra := a, rc := c, round := 1 } := by
    unfold rateF lF
    rw [if_neg (fun e => by have := e.1; rw [h.round] at this; exact absurd this (by dsimp only; omega)), if_neg (fun e : false = true => absurd e (by decide))]
  rw [ht]; unfold ackF restF
  rw [hr]
  have h2 : ∀ x : Bs, rttF x ⟨m, 1, 0, 0, 0, false, false⟩ = x := fun x => by unfold rttF; rw [if_neg (fun e => absurd e.1 (by simp))]
  have h3 : ∀ x : Bs, staleF x ⟨m, 1, 0, 0, 0, false, false⟩ = false := fun x => by unfold staleF; rfl
  rw [h2, h3]
  unfold probeF
  rw [if_neg (fun e => absurd e.1 (by decide)), if_neg]
  intro e
  have : (stepF { s with ra := a, rc := c, round := 1 } ⟨m, 1, 0, 0, 0, false, false⟩).phase = 2 := by
    by_cases hc : s.cycleAt + max s.rtt 1 ≤ m
    · rw [stepF_of (x := { s with ra := a, rc := c, round := 1, cycle := (s.cycle + 1) % 8, cycleAt := m }) (by unfold phaseF; rw [if_neg (fun e => by have := e.1; dsimp only at this; have := h.phase; omega), if_pos ⟨h.phase, hc⟩]) (by dsimp only; have := h.phase; omega)]
      exact h.phase
    · rw [stepF_of (x := { s with ra := a, rc := c, round := 1 }) (by unfold phaseF; rw [if_neg (fun e => by have := e.1; dsimp only at this; have := h.phase; omega), if_neg (fun e => hc e.2)]) (by dsimp only; have := h.phase; omega)]
      exact h.phase
  omega
theorem CInv.wait {s : Bs} {R rt k n m : Int} (h : CInv s R rt k n) (hm : 0 ≤ m ∧ m ≤ 1099511627776) (a : Option Addr) (c : Nat) {t : Bs} (ht : t = ackF s ⟨m, 1, 0, 0, 0, false, false⟩ a c) (hw : m < n + rt) : CInv t R rt k n := by
  have hsv : SV t := by rw [ht]; exact ackF_sv h.sv (cev h hm) a c
  have he := h.ack a c ht
  have h9 : stepF { s with ra := a, rc := c, round := 1 } ⟨m, 1, 0, 0, 0, false, false⟩ = { s with ra := a, rc := c, round := 1 } := by
    refine stepF_of ?_ (by dsimp only; have := h.phase; omega)
    unfold phaseF
    rw [if_neg (fun e => by have := e.1; dsimp only at this; have := h.phase; omega), if_neg (fun e => by have := e.2; dsimp only at this; have := h.at_; have := h.rtt; omega)]
  rw [h9] at he
  rw [he] at hsv ⊢
  exact ⟨hsv, h.phase, h.rl, h.rtt, rfl, h.cycle, h.at_⟩
theorem CInv.go {s : Bs} {R rt k n m : Int} (h : CInv s R rt k n) (hm : 0 ≤ m ∧ m ≤ 1099511627776) (a : Option Addr) (c : Nat) {t : Bs} (ht : t = ackF s ⟨m, 1, 0, 0, 0, false, false⟩ a c) (hr : 1 ≤ rt) (hw : m = n + rt) : CInv t R rt ((k + 1) % 8) m := by
  have hsv : SV t := by rw [ht]; exact ackF_sv h.sv (cev h hm) a c
  have he := h.ack a c ht
  have h9 : stepF { s with ra := a, rc := c, round := 1 } ⟨m, 1, 0, 0, 0, false, false⟩ = { s with ra := a, rc := c, round := 1, cycle := (s.cycle + 1) % 8, cycleAt := m } := by
    refine stepF_of ?_ (by dsimp only; have := h.phase; omega)
    unfold phaseF
    rw [if_neg (fun e => by have := e.1; dsimp only at this; have := h.phase; omega), if_pos ⟨h.phase, by dsimp only; have := h.at_; have := h.rtt; omega⟩]
  rw [h9] at he
  rw [he] at hsv ⊢
  exact ⟨hsv, h.phase, h.rl, h.rtt, rfl, by rw [← h.cycle], rfl⟩

set_option maxRecDepth 100000 in
set_option maxHeartbeats 3000000 in
theorem walk (rate rtt : Int) (w : World) (_h0 : -9223372036854775808 ≤ rate) (_h1 : rate ≤ 9223372036854775807) (_h2 : -9223372036854775808 ≤ rtt) (_h3 : rtt ≤ 9223372036854775807) :
    Calls Try.prog 8 #[.int .i64 rate, .int .i64 rtt] w fun e w' => e = .returned (.bool true) ∧ Below w.heap.size w w' := by
  obtain ⟨y, hy, hy0, hy1⟩ := norm_mod rate 1000 (by omega) (by omega)
  obtain ⟨z, hz, hz0, hz1⟩ := norm_mod rtt 100 (by omega) (by omega)
  obtain ⟨R, hR⟩ : ∃ R, 256 * (1 + y) = R := ⟨_, rfl⟩
  obtain ⟨rt, hrt⟩ : ∃ rt, 1 + z = rt := ⟨_, rfl⟩
  have hRb : 256 ≤ R ∧ R ≤ 256000 := by omega
  have HRY : Hid (R = 256 * (1 + y)) := Lib.hid hR.symm
  have hrb : 1 ≤ rt ∧ rt ≤ 100 := by omega
  have C0 := Lib.hid (fun a c => cinv0 (R := R) (rt := rt) a c ⟨by omega, by omega⟩ ⟨by omega, by omega⟩)
  obtain ⟨hR0, hR1⟩ := hRb
  obtain ⟨hr0, hr1⟩ := hrb
  clear _h0 _h1 _h2 _h3
  go_enter Try.func8, Try.ntmps8
  go_wp2_with fail
  refine (alive_any _).mono ?_
  rintro e V1 ⟨rfl, b⟩
  have Q1 := Lib.hid b
  have hV1 := b.size
  clear b
  go_upto_region 7 with fail
  clear hy hz hR hrt hy0 hy1 hz0 hz1
  have b1 := (Below.refl V1.heap.size V1).alloc (Nat.le_refl _) (.cells #[.int .i64 1, .int .i64 R] 36)
  have b2 := b1.alloc b1.size (.cells #[.int .i64 2, .slice (some ⟨V1.heap.size, 0, none⟩) 1 1, .bool true, .int .i64 rt, .int .i64 0, .bool true, .int .i64 0, .int .i64 0, .int .i64 0, .int .i64 0, .int .i64 0, .int .i64 1] 40)
  have hs1 : (V1.alloc (.cells #[.int .i64 1, .int .i64 R] 36)).heap.size = V1.heap.size + 1 := by simp
  have L2 := Lib.hid (show Sts 2 PC Tr ((V1.alloc (.cells #[.int .i64 1, .int .i64 R] 36)).alloc (.cells #[.int .i64 2, .slice (some ⟨V1.heap.size, 0, none⟩) 1 1, .bool true, .int .i64 rt, .int .i64 0, .bool true, .int .i64 0, .int .i64 0, .int .i64 0, .int .i64 0, .int .i64 0, .int .i64 1] 40)) (some ⟨V1.heap.size, 0, none⟩) [⟨1, R⟩] from (sts_new encP V1 [⟨1, R⟩] 36 (0, 0)).belowT ((Below.refl _ _).alloc (Nat.le_refl _) (.cells #[.int .i64 2, .slice (some ⟨V1.heap.size, 0, none⟩) 1 1, .bool true, .int .i64 rt, .int .i64 0, .bool true, .int .i64 0, .int .i64 0, .int .i64 0, .int .i64 0, .int .i64 0, .int .i64 1] 40)))
  have S2 := Lib.hid (blk_new (V1.alloc (.cells #[.int .i64 1, .int .i64 R] 36)) (.cells #[.int .i64 2, .slice (some ⟨V1.heap.size, 0, none⟩) 1 1, .bool true, .int .i64 rt, .int .i64 0, .bool true, .int .i64 0, .int .i64 0, .int .i64 0, .int .i64 0, .int .i64 0, .int .i64 1] 40))
  rw [hs1] at S2
  have Q2 := Lib.hid (Q1.out.trans (b2.mono hV1))
  clear b1 b2 hs1
  generalize (V1.alloc (.cells #[.int .i64 1, .int .i64 R] 36)).alloc (.cells #[.int .i64 2, .slice (some ⟨V1.heap.size, 0, none⟩) 1 1, .bool true, .int .i64 rt, .int .i64 0, .bool true, .int .i64 0, .int .i64 0, .int .i64 0, .int .i64 0, .int .i64 0, .int .i64 1] 40) = V2 at L2 S2 Q2 ⊢
  go_loopw [6, 7] (fun nv iv wr => ∃ (i : Nat) (n k : Int) (s : Bs), i ≤ 20 ∧ iv = .int .i64 i ∧ nv = .int .i64 n ∧ 0 ≤ n ∧ n ≤ 100 * (i : Int) ∧ Hid (k = (i : Int) % 8) ∧ Hid (CInv s R rt k n) ∧ Sts 2 PC Tr wr s.ra s.rl ∧ (s.ra = none → s.rc = 0) ∧ (∀ b o, s.ra = some ⟨b, o, none⟩ → b ≠ V1.heap.size + 1) ∧ wr.heap[V1.heap.size + 1]? = some (.cells #[.int .i64 s.phase, .slice s.ra s.rl.length s.rc, .bool s.hasRtt, .int .i64 s.rtt, .int .i64 s.rttAt, .bool s.full, .int .i64 s.fullRate, .int .i64 s.fullRounds, .int .i64 s.cycle, .int .i64 s.cycleAt, .int .i64 s.til, .int .i64 s.round] 40 (0, 0)) ∧ Below w.heap.size w wr) (fun _ iv _ => 20 - (intOf iv).toNat)
  case atStart => exact ⟨0, 0, 0, ⟨2, some ⟨V1.heap.size, 0, none⟩, [⟨1, R⟩], 1, true, rt, 0, true, 0, 0, 0, 0, 0, 1⟩, by omega, rfl, rfl, by omega, by omega, Lib.hid rfl, Lib.hid (C0.out _ _), L2.out, fun h => by simp at h, fun b o h => by injection h with h; injection h with h _ _; omega, S2.out, Q2.out⟩
  case round =>
    obtain ⟨i, n, k, s, hi, rfl, rfl, hn0, hn1, HK, HI, hL, hnil, hdj, hS, hq⟩ := hrel
    have LR := Lib.hid hL
    have NR := Lib.hid hnil
    have DR := Lib.hid hdj
    have SR := Lib.hid hS
    have QR := Lib.hid hq
    clear hL hnil hdj hS hq Q1 Q2 S2 L2 C0
    by_cases hlt : i < 20
    case neg =>
      have h2 : ¬ ((i : Int) < 20) := by omega
      go_wp2
      go_ret
      exact ⟨rfl, QR.out⟩
    case pos =>
      have i1 : (i : Int) < 20 := by omega
      have hk8 : (i : Int).tmod 8 = k := by rw [Int.tmod_eq_emod_of_nonneg (by omega)]; exact HK.out.symm
      have hk0 : 0 ≤ k ∧ k ≤ 7 := by have := HK.out; omega
      have HKN : Hid ((k + 1) % 8 = ((i + 1 : Nat) : Int) % 8) := Lib.hid (by have := HK.out; omega)
      have HE1 := Lib.hid (cev (m := n + rt - 1) HI.out ⟨by omega, by omega⟩)
      have HW1 := Lib.hid (fun (t : Bs) a' c' (ht : t = ackF s ⟨n + rt - 1, 1, 0, 0, 0, false, false⟩ a' c') => CInv.wait HI.out ⟨by omega, by omega⟩ a' c' ht (by omega))
      have HE2 := Lib.hid (fun (t : Bs) (h : CInv t R rt k n) => cev (m := n + rt) h ⟨by omega, by omega⟩)
      have HW2 := Lib.hid (fun (t u : Bs) (h : CInv t R rt k n) a' c' (ht : u = ackF t ⟨n + rt, 1, 0, 0, 0, false, false⟩ a' c') => CInv.go h ⟨by omega, by omega⟩ a' c' ht hr0 rfl)
      have v1 : wrap64 (n + rt) = n + rt := IntWalk.wrap64_in _ ⟨by omega, by omega⟩
      have v2 : wrap64 (n + rt - 1) = n + rt - 1 := IntWalk.wrap64_in _ ⟨by omega, by omega⟩
      have q1 : R.tdiv 4 = R / 4 := Int.tdiv_eq_ediv_of_nonneg (by omega)
      have q2 : wrap64 (R / 4) = R / 4 := IntWalk.wrap64_in _ ⟨by omega, by omega⟩
      have q3 : wrap64 (R / 4 * 5) = R / 4 * 5 := IntWalk.wrap64_in _ ⟨by omega, by omega⟩
      have q4 : wrap64 (R / 4 * 3) = R / 4 * 3 := IntWalk.wrap64_in _ ⟨by omega, by omega⟩
      have hg0 : w.heap.size ≤ wr.heap.size := QR.out.size
      have hgs : V1.heap.size + 1 < wr.heap.size := blk_lt SR.out
      have e8 : wr.cell? ⟨V1.heap.size + 1, 8, none⟩ = some (.int .i64 k) := by rw [blk_cell SR.out 8]; exact congrArg (fun z => some (Value.int .i64 z)) HI.out.cycle
      obtain ⟨v, way⟩ : ∃ v, (k = 0 ∧ v = R / 4 * 5) ∨ (k = 1 ∧ v = R / 4 * 3) ∨ ((¬ k = 0 ∧ ¬ k = 1) ∧ v = R) := by
        by_cases k0 : k = 0
        · exact ⟨_, .inl ⟨k0, rfl⟩⟩
        · by_cases k1 : k = 1
          · exact ⟨_, .inr (.inl ⟨k1, rfl⟩)⟩
          · exact ⟨_, .inr (.inr ⟨⟨k0, k1⟩, rfl⟩)⟩
      have HRT := Lib.hid (fun (W : World) (hW : Sts 2 PC Tr W s.ra s.rl) => rate_any s k v W HI.out.sv HI.out.phase HI.out.cycle (by rw [HI.out.rl]; exact Nat.zero_lt_one) hW (by
        rw [HI.out.rl]; show min (max (R * gv k / 256) 1) 1073741824 = v
        have hry := HRY.out
        rcases way with ⟨e1, e2⟩ | ⟨e1, e2⟩ | ⟨⟨e1, e3⟩, e2⟩
        · rw [e1, e2, show gv 0 = 320 from rfl]; omega
        · rw [e1, e2, show gv 1 = 192 from rfl]; omega
        · rw [e2, show gv k = 256 by unfold gv; rw [if_neg e1, if_neg e3]]; omega))
      rcases way with way | way | way
      · obtain ⟨rfl, rfl⟩ := way
        have c0 := blk_cell SR.out 0
        have c1 := blk_cell SR.out 1
        have c2 := blk_cell SR.out 2
        have c3 := blk_cell SR.out 3
        have c4 := blk_cell SR.out 4
        have c5 := blk_cell SR.out 5
        have c6 := blk_cell SR.out 6
        have c7 := blk_cell SR.out 7
        have c9 := blk_cell SR.out 9
        have c10 := blk_cell SR.out 10
        have c11 := blk_cell SR.out 11
        have c8 := blk_cell SR.out 8
        clear e8
        go_upto_region 15 with fail
        go_wp2_with fail
        refine (HRT.out _ LR.out).mono ?_
        rintro e V3 ⟨rfl, b⟩
        have S3 := Lib.hid ((b.block _ hgs).trans SR.out)
        have Q3 := Lib.hid (QR.out.trans (b.mono hg0))
        have L3 := Lib.hid (LR.out.belowT b)
        have hg3 := Nat.lt_of_lt_of_le hgs b.size
        clear b SR QR LR HRT c0 c1 c2 c3 c4 c5 c6 c7 c8 c9 c10 c11
        go_upto_region 16 with fail
        have e8 : V3.cell? ⟨V1.heap.size + 1, 8, none⟩ = some (.int .i64 0) := by rw [blk_cell S3.out 8]; exact congrArg (fun z => some (Value.int .i64 z)) HI.out.cycle
        go_wp2_with fail
        refine (num_any _ _).mono ?_
        rintro e w' ⟨rfl, rfl⟩
        go_upto_region 18 with fail
        clear e8 hk8
        have c0 := blk_cell S3.out 0
        have c1 := blk_cell S3.out 1
        have c2 := blk_cell S3.out 2
        have c3 := blk_cell S3.out 3
        have c4 := blk_cell S3.out 4
        have c5 := blk_cell S3.out 5
        have c6 := blk_cell S3.out 6
        have c7 := blk_cell S3.out 7
        have c8 := blk_cell S3.out 8
        have c9 := blk_cell S3.out 9
        have c10 := blk_cell S3.out 10
        have c11 := blk_cell S3.out 11
        go_wp2_with fail
        refine (ack_ok s 1000 ⟨n + rt - 1, 1, 0, 0, 0, false, false⟩ _ HI.out.sv L3.out NR.out (by decide) HE1.out).mono ?_
        rintro e V4 ⟨⟨t, ⟨a', c', ht⟩, rfl, O⟩, b⟩
        have TI := Lib.hid (HW1.out t a' c' ht)
        have S4 := Lib.hid ((b.block _ hg3).trans S3.out)
        have Q4 := Lib.hid (Q3.out.trans (b.mono Q3.out.size))
        have O4 := Lib.hid (O.mono (by omega : V1.heap.size + 2 ≤ V3.heap.size))
        clear O b ht S3 Q3 L3 HE1 HW1 NR DR c0 c1 c2 c3 c4 c5 c6 c7 c8 c9 c10 c11
        go_upto_region 19 with fail
        have b5 := (Below.refl V4.heap.size V4).alloc (Nat.le_refl _) (.cells #[.int .i64 t.phase, .slice t.ra t.rl.length t.rc, .bool t.hasRtt, .int .i64 t.rtt, .int .i64 t.rttAt, .bool t.full, .int .i64 t.fullRate, .int .i64 t.fullRounds, .int .i64 t.cycle, .int .i64 t.cycleAt, .int .i64 t.til, .int .i64 t.round] 40)
        have hg4 : V1.heap.size + 1 < V4.heap.size := blk_lt S4.out
        have S5 := Lib.hid ((b5.block _ hg4).trans S4.out)
        have T5 := Lib.hid (blk_new V4 (.cells #[.int .i64 t.phase, .slice t.ra t.rl.length t.rc, .bool t.hasRtt, .int .i64 t.rtt, .int .i64 t.rttAt, .bool t.full, .int .i64 t.fullRate, .int .i64 t.fullRounds, .int .i64 t.cycle, .int .i64 t.cycleAt, .int .i64 t.til, .int .i64 t.round] 40))
        have Q5 := Lib.hid (Q4.out.trans (b5.mono Q4.out.size))
        have O5 := Lib.hid (O4.out.below b5)
        have hne : V1.heap.size + 1 ≠ V4.heap.size := by omega
        obtain ⟨tb, htb⟩ : ∃ tb, V4.heap.size = tb := ⟨_, rfl⟩
        have hs5 : V4.heap.size < (V4.alloc (.cells #[.int .i64 t.phase, .slice t.ra t.rl.length t.rc, .bool t.hasRtt, .int .i64 t.rtt, .int .i64 t.rttAt, .bool t.full, .int .i64 t.fullRate, .int .i64 t.fullRounds, .int .i64 t.cycle, .int .i64 t.cycleAt, .int .i64 t.til, .int .i64 t.round] 40)).heap.size := by simp
        rw [htb] at T5 hne hs5 hg4
        clear b5 S4 Q4 O4
        generalize V4.alloc (.cells #[.int .i64 t.phase, .slice t.ra t.rl.length t.rc, .bool t.hasRtt, .int .i64 t.rtt, .int .i64 t.rttAt, .bool t.full, .int .i64 t.fullRate, .int .i64 t.fullRounds, .int .i64 t.cycle, .int .i64 t.cycleAt, .int .i64 t.til, .int .i64 t.round] 40) = V5 at S5 T5 Q5 O5 hs5 ⊢
        rw [htb]
        have d0 := blk_cell T5.out 0
        have d1 := blk_cell T5.out 1
        have d2 := blk_cell T5.out 2
        have d3 := blk_cell T5.out 3
        have d4 := blk_cell T5.out 4
        have d5 := blk_cell T5.out 5
        have d6 := blk_cell T5.out 6
        have d7 := blk_cell T5.out 7
        have d8 := blk_cell T5.out 8
        have d9 := blk_cell T5.out 9
        have d10 := blk_cell T5.out 10
        have d11 := blk_cell T5.out 11
        go_wp2_with fail
        refine (ack_ok t 1000 ⟨n + rt, 1, 0, 0, 0, false, false⟩ _ TI.out.sv (O5.out.sts encP) O5.out.nilcap (by decide) (HE2.out t TI.out)).mono ?_
        rintro e V6 ⟨⟨u, ⟨a'', c'', hu⟩, rfl, O⟩, b⟩
        have UI := Lib.hid (HW2.out t u TI.out a'' c'' hu)
        have S6 := Lib.hid ((b.block _ (blk_lt S5.out)).trans S5.out)
        have T6 := Lib.hid ((b.block _ hs5).trans T5.out)
        have Q6 := Lib.hid (Q5.out.trans (b.mono Q5.out.size))
        have O6 := Lib.hid (O.mono (by omega : V1.heap.size + 2 ≤ V5.heap.size))
        clear O b hu S5 T5 Q5 O5 HE2 HW2 d0 d1 d2 d3 d4 d5 d6 d7 d8 d9 d10 d11
        go_upto_region 20 with fail
        have b7 := (Below.refl V6.heap.size V6).alloc (Nat.le_refl _) (.cells #[.int .i64 u.phase, .slice u.ra u.rl.length u.rc, .bool u.hasRtt, .int .i64 u.rtt, .int .i64 u.rttAt, .bool u.full, .int .i64 u.fullRate, .int .i64 u.fullRounds, .int .i64 u.cycle, .int .i64 u.cycleAt, .int .i64 u.til, .int .i64 u.round] 40)
        have S7 := Lib.hid ((b7.block _ (blk_lt S6.out)).trans S6.out)
        have T7 := Lib.hid ((b7.block _ (blk_lt T6.out)).trans T6.out)
        have U7 := Lib.hid (blk_new V6 (.cells #[.int .i64 u.phase, .slice u.ra u.rl.length u.rc, .bool u.hasRtt, .int .i64 u.rtt, .int .i64 u.rttAt, .bool u.full, .int .i64 u.fullRate, .int .i64 u.fullRounds, .int .i64 u.cycle, .int .i64 u.cycleAt, .int .i64 u.til, .int .i64 u.round] 40))
        have Q7 := Lib.hid (Q6.out.trans (b7.mono Q6.out.size))
        have O7 := Lib.hid (O6.out.below b7)
        have hg6 := blk_lt S6.out
        have ht6 := blk_lt T6.out
        obtain ⟨ub, hub⟩ : ∃ ub, V6.heap.size = ub := ⟨_, rfl⟩
        rw [hub] at U7 hg6 ht6
        clear b7 S6 T6 Q6 O6
        generalize V6.alloc (.cells #[.int .i64 u.phase, .slice u.ra u.rl.length u.rc, .bool u.hasRtt, .int .i64 u.rtt, .int .i64 u.rttAt, .bool u.full, .int .i64 u.fullRate, .int .i64 u.fullRounds, .int .i64 u.cycle, .int .i64 u.cycleAt, .int .i64 u.til, .int .i64 u.round] 40) = V7 at S7 T7 U7 Q7 O7 ⊢
        rw [hub]
        have e8 : V7.cell? ⟨V1.heap.size + 1, 8, none⟩ = some (.int .i64 0) := by rw [blk_cell S7.out 8]; exact congrArg (fun z => some (Value.int .i64 z)) HI.out.cycle
        have f8 : V7.cell? ⟨tb, 8, none⟩ = some (.int .i64 0) := by rw [blk_cell T7.out 8]; exact congrArg (fun z => some (Value.int .i64 z)) TI.out.cycle
        clear htb hub
        by_cases hr2 : rt = 1
        case pos =>
          have hr3 : ¬ (1 < rt) := by omega
          have hr4 : (rt == 1) = true := by rw [beq_iff_eq]; exact hr2
          clear hr2
          go_upto_region 24 with (first | (go_at_call 13; refine (num_any _ _).mono ?_; rintro e w' ⟨rfl, rfl⟩))
          clear e8 f8
          have d0 := blk_cell U7.out 0
          have r0 := blk_cell S7.out 0
          have q0 := blk_free S7.out 0
          have d1 := blk_cell U7.out 1
          have r1 := blk_cell S7.out 1
          have q1 := blk_free S7.out 1
          have d2 := blk_cell U7.out 2
          have r2 := blk_cell S7.out 2
          have q2 := blk_free S7.out 2
          have d3 := blk_cell U7.out 3
          have r3 := blk_cell S7.out 3
          have q3 := blk_free S7.out 3
          have d4 := blk_cell U7.out 4
          have r4 := blk_cell S7.out 4
          have q4 := blk_free S7.out 4
          have d5 := blk_cell U7.out 5
          have r5 := blk_cell S7.out 5
          have q5 := blk_free S7.out 5
          have d6 := blk_cell U7.out 6
          have r6 := blk_cell S7.out 6
          have q6 := blk_free S7.out 6
          have d7 := blk_cell U7.out 7
          have r7 := blk_cell S7.out 7
          have q7 := blk_free S7.out 7
          have d8 := blk_cell U7.out 8
          have r8 := blk_cell S7.out 8
          have q8 := blk_free S7.out 8
          have d9 := blk_cell U7.out 9
          have r9 := blk_cell S7.out 9
          have q9 := blk_free S7.out 9
          have d10 := blk_cell U7.out 10
          have r10 := blk_cell S7.out 10
          have q10 := blk_free S7.out 10
          have d11 := blk_cell U7.out 11
          have r11 := blk_cell S7.out 11
          have q11 := blk_free S7.out 11
          go_wp2_with fail
          obtain ⟨RW, GW⟩ := set12 V7 (V1.heap.size + 1) _ _ _ _ _ _ _ _ _ _ _ _ _ (.int .i64 u.phase) (.slice u.ra u.rl.length u.rc) (.bool u.hasRtt) (.int .i64 u.rtt) (.int .i64 u.rttAt) (.bool u.full) (.int .i64 u.fullRate) (.int .i64 u.fullRounds) (.int .i64 u.cycle) (.int .i64 u.cycleAt) (.int .i64 u.til) (.int .i64 u.round) S7.out
          have OW := Lib.hid (O7.out.grownN GW (by omega))
          have QW := Lib.hid (below_gr3 Q7.out (by omega) GW)
          have SW := Lib.hid RW
          clear d0 r0 q0 d1 r1 q1 d2 r2 q2 d3 r3 q3 d4 r4 q4 d5 r5 q5 d6 r6 q6 d7 r7 q7 d8 r8 q8 d9 r9 q9 d10 r10 q10 d11 r11 q11 RW GW
          generalize ((((((((((((V7).setCell ⟨V1.heap.size + 1, 0, none⟩ (.int .i64 u.phase)).setCell ⟨V1.heap.size + 1, 1, none⟩ (.slice u.ra u.rl.length u.rc)).setCell ⟨V1.heap.size + 1, 2, none⟩ (.bool u.hasRtt)).setCell ⟨V1.heap.size + 1, 3, none⟩ (.int .i64 u.rtt)).setCell ⟨V1.heap.size + 1, 4, none⟩ (.int .i64 u.rttAt)).setCell ⟨V1.heap.size + 1, 5, none⟩ (.bool u.full)).setCell ⟨V1.heap.size + 1, 6, none⟩ (.int .i64 u.fullRate)).setCell ⟨V1.heap.size + 1, 7, none⟩ (.int .i64 u.fullRounds)).setCell ⟨V1.heap.size + 1, 8, none⟩ (.int .i64 u.cycle)).setCell ⟨V1.heap.size + 1, 9, none⟩ (.int .i64 u.cycleAt)).setCell ⟨V1.heap.size + 1, 10, none⟩ (.int .i64 u.til)).setCell ⟨V1.heap.size + 1, 11, none⟩ (.int .i64 u.round) = W at SW OW QW ⊢
          go_wp2
          go_roundw
          case rel => exact ⟨i + 1, n + rt, (0 + 1) % 8, u, by omega, by go_num, rfl, by omega, by omega, HKN, UI, OW.out.sts encP, OW.out.nilcap, fun b o h => by have := (OW.out.atB b o h).1; omega, SW.out, QW.out⟩
          case measure => simp [intOf]; omega
        case neg =>
          have hr3 : 1 < rt := by omega
          have hr4 : (rt == 1) = false := by rw [beq_eq_false_iff_ne]; exact hr2
          go_upto_region 24 with (first | (go_at_call 13; refine (num_any _ _).mono ?_; rintro e w' ⟨rfl, rfl⟩))
          clear e8 f8
          have d0 := blk_cell U7.out 0
          have r0 := blk_cell S7.out 0
          have q0 := blk_free S7.out 0
          have d1 := blk_cell U7.out 1
          have r1 := blk_cell S7.out 1
          have q1 := blk_free S7.out 1
          have d2 := blk_cell U7.out 2
          have r2 := blk_cell S7.out 2
          have q2 := blk_free S7.out 2
          have d3 := blk_cell U7.out 3
          have r3 := blk_cell S7.out 3
          have q3 := blk_free S7.out 3
          have d4 := blk_cell U7.out 4
          have r4 := blk_cell S7.out 4
          have q4 := blk_free S7.out 4
          have d5 := blk_cell U7.out 5
          have r5 := blk_cell S7.out 5
          have q5 := blk_free S7.out 5
          have d6 := blk_cell U7.out 6
          have r6 := blk_cell S7.out 6
          have q6 := blk_free S7.out 6
          have d7 := blk_cell U7.out 7
          have r7 := blk_cell S7.out 7
          have q7 := blk_free S7.out 7
          have d8 := blk_cell U7.out 8
          have r8 := blk_cell S7.out 8
          have q8 := blk_free S7.out 8
          have d9 := blk_cell U7.out 9
          have r9 := blk_cell S7.out 9
          have q9 := blk_free S7.out 9
          have d10 := blk_cell U7.out 10
          have r10 := blk_cell S7.out 10
          have q10 := blk_free S7.out 10
          have d11 := blk_cell U7.out 11
          have r11 := blk_cell S7.out 11
          have q11 := blk_free S7.out 11
          go_wp2_with fail
          obtain ⟨RW, GW⟩ := set12 V7 (V1.heap.size + 1) _ _ _ _ _ _ _ _ _ _ _ _ _ (.int .i64 u.phase) (.slice u.ra u.rl.length u.rc) (.bool u.hasRtt) (.int .i64 u.rtt) (.int .i64 u.rttAt) (.bool u.full) (.int .i64 u.fullRate) (.int .i64 u.fullRounds) (.int .i64 u.cycle) (.int .i64 u.cycleAt) (.int .i64 u.til) (.int .i64 u.round) S7.out
          have OW := Lib.hid (O7.out.grownN GW (by omega))
          have QW := Lib.hid (below_gr3 Q7.out (by omega) GW)
          have SW := Lib.hid RW
          clear d0 r0 q0 d1 r1 q1 d2 r2 q2 d3 r3 q3 d4 r4 q4 d5 r5 q5 d6 r6 q6 d7 r7 q7 d8 r8 q8 d9 r9 q9 d10 r10 q10 d11 r11 q11 RW GW
          generalize ((((((((((((V7).setCell ⟨V1.heap.size + 1, 0, none⟩ (.int .i64 u.phase)).setCell ⟨V1.heap.size + 1, 1, none⟩ (.slice u.ra u.rl.length u.rc)).setCell ⟨V1.heap.size + 1, 2, none⟩ (.bool u.hasRtt)).setCell ⟨V1.heap.size + 1, 3, none⟩ (.int .i64 u.rtt)).setCell ⟨V1.heap.size + 1, 4, none⟩ (.int .i64 u.rttAt)).setCell ⟨V1.heap.size + 1, 5, none⟩ (.bool u.full)).setCell ⟨V1.heap.size + 1, 6, none⟩ (.int .i64 u.fullRate)).setCell ⟨V1.heap.size + 1, 7, none⟩ (.int .i64 u.fullRounds)).setCell ⟨V1.heap.size + 1, 8, none⟩ (.int .i64 u.cycle)).setCell ⟨V1.heap.size + 1, 9, none⟩ (.int .i64 u.cycleAt)).setCell ⟨V1.heap.size + 1, 10, none⟩ (.int .i64 u.til)).setCell ⟨V1.heap.size + 1, 11, none⟩ (.int .i64 u.round) = W at SW OW QW ⊢
          go_wp2
          go_roundw
          case rel => exact ⟨i + 1, n + rt, (0 + 1) % 8, u, by omega, by go_num, rfl, by omega, by omega, HKN, UI, OW.out.sts encP, OW.out.nilcap, fun b o h => by have := (OW.out.atB b o h).1; omega, SW.out, QW.out⟩
          case measure => simp [intOf]; omega
      · obtain ⟨rfl, rfl⟩ := way
        have c0 := blk_cell SR.out 0
        have c1 := blk_cell SR.out 1
        have c2 := blk_cell SR.out 2
        have c3 := blk_cell SR.out 3
        have c4 := blk_cell SR.out 4
        have c5 := blk_cell SR.out 5
        have c6 := blk_cell SR.out 6
        have c7 := blk_cell SR.out 7
        have c9 := blk_cell SR.out 9
        have c10 := blk_cell SR.out 10
        have c11 := blk_cell SR.out 11
        have c8 := blk_cell SR.out 8
        clear e8
        go_upto_region 15 with fail
        go_wp2_with fail
        refine (HRT.out _ LR.out).mono ?_
        rintro e V3 ⟨rfl, b⟩
        have S3 := Lib.hid ((b.block _ hgs).trans SR.out)
        have Q3 := Lib.hid (QR.out.trans (b.mono hg0))
        have L3 := Lib.hid (LR.out.belowT b)
        have hg3 := Nat.lt_of_lt_of_le hgs b.size
        clear b SR QR LR HRT c0 c1 c2 c3 c4 c5 c6 c7 c8 c9 c10 c11
        go_upto_region 16 with fail
        have e8 : V3.cell? ⟨V1.heap.size + 1, 8, none⟩ = some (.int .i64 1) := by rw [blk_cell S3.out 8]; exact congrArg (fun z => some (Value.int .i64 z)) HI.out.cycle
        go_wp2_with fail
        refine (num_any _ _).mono ?_
        rintro e w' ⟨rfl, rfl⟩
        go_upto_region 18 with fail
        clear e8 hk8
        have c0 := blk_cell S3.out 0
        have c1 := blk_cell S3.out 1
        have c2 := blk_cell S3.out 2
        have c3 := blk_cell S3.out 3
        have c4 := blk_cell S3.out 4
        have c5 := blk_cell S3.out 5
        have c6 := blk_cell S3.out 6
        have c7 := blk_cell S3.out 7
        have c8 := blk_cell S3.out 8
        have c9 := blk_cell S3.out 9
        have c10 := blk_cell S3.out 10
        have c11 := blk_cell S3.out 11
        go_wp2_with fail
        refine (ack_ok s 1000 ⟨n + rt - 1, 1, 0, 0, 0, false, false⟩ _ HI.out.sv L3.out NR.out (by decide) HE1.out).mono ?_
        rintro e V4 ⟨⟨t, ⟨a', c', ht⟩, rfl, O⟩, b⟩
        have TI := Lib.hid (HW1.out t a' c' ht)
        have S4 := Lib.hid ((b.block _ hg3).trans S3.out)
        have Q4 := Lib.hid (Q3.out.trans (b.mono Q3.out.size))
        have O4 := Lib.hid (O.mono (by omega : V1.heap.size + 2 ≤ V3.heap.size))
        clear O b ht S3 Q3 L3 HE1 HW1 NR DR c0 c1 c2 c3 c4 c5 c6 c7 c8 c9 c10 c11
        go_upto_region 19 with fail
        have b5 := (Below.refl V4.heap.size V4).alloc (Nat.le_refl _) (.cells #[.int .i64 t.phase, .slice t.ra t.rl.length t.rc, .bool t.hasRtt, .int .i64 t.rtt, .int .i64 t.rttAt, .bool t.full, .int .i64 t.fullRate, .int .i64 t.fullRounds, .int .i64 t.cycle, .int .i64 t.cycleAt, .int .i64 t.til, .int .i64 t.round] 40)
        have hg4 : V1.heap.size + 1 < V4.heap.size := blk_lt S4.out
        have S5 := Lib.hid ((b5.block _ hg4).trans S4.out)
        have T5 := Lib.hid (blk_new V4 (.cells #[.int .i64 t.phase, .slice t.ra t.rl.length t.rc, .bool t.hasRtt, .int .i64 t.rtt, .int .i64 t.rttAt, .bool t.full, .int .i64 t.fullRate, .int .i64 t.fullRounds, .int .i64 t.cycle, .int .i64 t.cycleAt, .int .i64 t.til, .int .i64 t.round] 40))
        have Q5 := Lib.hid (Q4.out.trans (b5.mono Q4.out.size))
        have O5 := Lib.hid (O4.out.below b5)
        have hne : V1.heap.size + 1 ≠ V4.heap.size := by omega
        obtain ⟨tb, htb⟩ : ∃ tb, V4.heap.size = tb := ⟨_, rfl⟩
        have hs5 : V4.heap.size < (V4.alloc (.cells #[.int .i64 t.phase, .slice t.ra t.rl.length t.rc, .bool t.hasRtt, .int .i64 t.rtt, .int .i64 t.rttAt, .bool t.full, .int .i64 t.fullRate, .int .i64 t.fullRounds, .int .i64 t.cycle, .int .i64 t.cycleAt, .int .i64 t.til, .int .i64 t.round] 40)).heap.size := by simp
        rw [htb] at T5 hne hs5 hg4
        clear b5 S4 Q4 O4
        generalize V4.alloc (.cells #[.int .i64 t.phase, .slice t.ra t.rl.length t.rc, .bool t.hasRtt, .int .i64 t.rtt, .int .i64 t.rttAt, .bool t.full, .int .i64 t.fullRate, .int .i64 t.fullRounds, .int .i64 t.cycle, .int .i64 t.cycleAt, .int .i64 t.til, .int .i64 t.round] 40) = V5 at S5 T5 Q5 O5 hs5 ⊢
        rw [htb]
        have d0 := blk_cell T5.out 0
        have d1 := blk_cell T5.out 1
        have d2 := blk_cell T5.out 2
        have d3 := blk_cell T5.out 3
        have d4 := blk_cell T5.out 4
        have d5 := blk_cell T5.out 5
        have d6 := blk_cell T5.out 6
        have d7 := blk_cell T5.out 7
        have d8 := blk_cell T5.out 8
        have d9 := blk_cell T5.out 9
        have d10 := blk_cell T5.out 10
        have d11 := blk_cell T5.out 11
        go_wp2_with fail
        refine (ack_ok t 1000 ⟨n + rt, 1, 0, 0, 0, false, false⟩ _ TI.out.sv (O5.out.sts encP) O5.out.nilcap (by decide) (HE2.out t TI.out)).mono ?_
        rintro e V6 ⟨⟨u, ⟨a'', c'', hu⟩, rfl, O⟩, b⟩
        have UI := Lib.hid (HW2.out t u TI.out a'' c'' hu)
        have S6 := Lib.hid ((b.block _ (blk_lt S5.out)).trans S5.out)
        have T6 := Lib.hid ((b.block _ hs5).trans T5.out)
        have Q6 := Lib.hid (Q5.out.trans (b.mono Q5.out.size))
        have O6 := Lib.hid (O.mono (by omega : V1.heap.size + 2 ≤ V5.heap.size))
        clear O b hu S5 T5 Q5 O5 HE2 HW2 d0 d1 d2 d3 d4 d5 d6 d7 d8 d9 d10 d11
        go_upto_region 20 with fail
        have b7 := (Below.refl V6.heap.size V6).alloc (Nat.le_refl _) (.cells #[.int .i64 u.phase, .slice u.ra u.rl.length u.rc, .bool u.hasRtt, .int .i64 u.rtt, .int .i64 u.rttAt, .bool u.full, .int .i64 u.fullRate, .int .i64 u.fullRounds, .int .i64 u.cycle, .int .i64 u.cycleAt, .int .i64 u.til, .int .i64 u.round] 40)
        have S7 := Lib.hid ((b7.block _ (blk_lt S6.out)).trans S6.out)
        have T7 := Lib.hid ((b7.block _ (blk_lt T6.out)).trans T6.out)
        have U7 := Lib.hid (blk_new V6 (.cells #[.int .i64 u.phase, .slice u.ra u.rl.length u.rc, .bool u.hasRtt, .int .i64 u.rtt, .int .i64 u.rttAt, .bool u.full, .int .i64 u.fullRate, .int .i64 u.fullRounds, .int .i64 u.cycle, .int .i64 u.cycleAt, .int .i64 u.til, .int .i64 u.round] 40))
        have Q7 := Lib.hid (Q6.out.trans (b7.mono Q6.out.size))
        have O7 := Lib.hid (O6.out.below b7)
        have hg6 := blk_lt S6.out
        have ht6 := blk_lt T6.out
        obtain ⟨ub, hub⟩ : ∃ ub, V6.heap.size = ub := ⟨_, rfl⟩
        rw [hub] at U7 hg6 ht6
        clear b7 S6 T6 Q6 O6
        generalize V6.alloc (.cells #[.int .i64 u.phase, .slice u.ra u.rl.length u.rc, .bool u.hasRtt, .int .i64 u.rtt, .int .i64 u.rttAt, .bool u.full, .int .i64 u.fullRate, .int .i64 u.fullRounds, .int .i64 u.cycle, .int .i64 u.cycleAt, .int .i64 u.til, .int .i64 u.round] 40) = V7 at S7 T7 U7 Q7 O7 ⊢
        rw [hub]
        have e8 : V7.cell? ⟨V1.heap.size + 1, 8, none⟩ = some (.int .i64 1) := by rw [blk_cell S7.out 8]; exact congrArg (fun z => some (Value.int .i64 z)) HI.out.cycle
        have f8 : V7.cell? ⟨tb, 8, none⟩ = some (.int .i64 1) := by rw [blk_cell T7.out 8]; exact congrArg (fun z => some (Value.int .i64 z)) TI.out.cycle
        clear htb hub
        by_cases hr2 : rt = 1
        case pos =>
          have hr3 : ¬ (1 < rt) := by omega
          have hr4 : (rt == 1) = true := by rw [beq_iff_eq]; exact hr2
          clear hr2
          go_upto_region 24 with (first | (go_at_call 13; refine (num_any _ _).mono ?_; rintro e w' ⟨rfl, rfl⟩))
          clear e8 f8
          have d0 := blk_cell U7.out 0
          have r0 := blk_cell S7.out 0
          have q0 := blk_free S7.out 0
          have d1 := blk_cell U7.out 1
          have r1 := blk_cell S7.out 1
          have q1 := blk_free S7.out 1
          have d2 := blk_cell U7.out 2
          have r2 := blk_cell S7.out 2
          have q2 := blk_free S7.out 2
          have d3 := blk_cell U7.out 3
          have r3 := blk_cell S7.out 3
          have q3 := blk_free S7.out 3
          have d4 := blk_cell U7.out 4
          have r4 := blk_cell S7.out 4
          have q4 := blk_free S7.out 4
          have d5 := blk_cell U7.out 5
          have r5 := blk_cell S7.out 5
          have q5 := blk_free S7.out 5
          have d6 := blk_cell U7.out 6
          have r6 := blk_cell S7.out 6
          have q6 := blk_free S7.out 6
          have d7 := blk_cell U7.out 7
          have r7 := blk_cell S7.out 7
          have q7 := blk_free S7.out 7
          have d8 := blk_cell U7.out 8
          have r8 := blk_cell S7.out 8
          have q8 := blk_free S7.out 8
          have d9 := blk_cell U7.out 9
          have r9 := blk_cell S7.out 9
          have q9 := blk_free S7.out 9
          have d10 := blk_cell U7.out 10
          have r10 := blk_cell S7.out 10
          have q10 := blk_free S7.out 10
          have d11 := blk_cell U7.out 11
          have r11 := blk_cell S7.out 11
          have q11 := blk_free S7.out 11
          go_wp2_with fail
          obtain ⟨RW, GW⟩ := set12 V7 (V1.heap.size + 1) _ _ _ _ _ _ _ _ _ _ _ _ _ (.int .i64 u.phase) (.slice u.ra u.rl.length u.rc) (.bool u.hasRtt) (.int .i64 u.rtt) (.int .i64 u.rttAt) (.bool u.full) (.int .i64 u.fullRate) (.int .i64 u.fullRounds) (.int .i64 u.cycle) (.int .i64 u.cycleAt) (.int .i64 u.til) (.int .i64 u.round) S7.out
          have OW := Lib.hid (O7.out.grownN GW (by omega))
          have QW := Lib.hid (below_gr3 Q7.out (by omega) GW)
          have SW := Lib.hid RW
          clear d0 r0 q0 d1 r1 q1 d2 r2 q2 d3 r3 q3 d4 r4 q4 d5 r5 q5 d6 r6 q6 d7 r7 q7 d8 r8 q8 d9 r9 q9 d10 r10 q10 d11 r11 q11 RW GW
          generalize ((((((((((((V7).setCell ⟨V1.heap.size + 1, 0, none⟩ (.int .i64 u.phase)).setCell ⟨V1.heap.size + 1, 1, none⟩ (.slice u.ra u.rl.length u.rc)).setCell ⟨V1.heap.size + 1, 2, none⟩ (.bool u.hasRtt)).setCell ⟨V1.heap.size + 1, 3, none⟩ (.int .i64 u.rtt)).setCell ⟨V1.heap.size + 1, 4, none⟩ (.int .i64 u.rttAt)).setCell ⟨V1.heap.size + 1, 5, none⟩ (.bool u.full)).setCell ⟨V1.heap.size + 1, 6, none⟩ (.int .i64 u.fullRate)).setCell ⟨V1.heap.size + 1, 7, none⟩ (.int .i64 u.fullRounds)).setCell ⟨V1.heap.size + 1, 8, none⟩ (.int .i64 u.cycle)).setCell ⟨V1.heap.size + 1, 9, none⟩ (.int .i64 u.cycleAt)).setCell ⟨V1.heap.size + 1, 10, none⟩ (.int .i64 u.til)).setCell ⟨V1.heap.size + 1, 11, none⟩ (.int .i64 u.round) = W at SW OW QW ⊢
          go_wp2
          go_roundw
          case rel => exact ⟨i + 1, n + rt, (1 + 1) % 8, u, by omega, by go_num, rfl, by omega, by omega, HKN, UI, OW.out.sts encP, OW.out.nilcap, fun b o h => by have := (OW.out.atB b o h).1; omega, SW.out, QW.out⟩
          case measure => simp [intOf]; omega
        case neg =>
          have hr3 : 1 < rt := by omega
          have hr4 : (rt == 1) = false := by rw [beq_eq_false_iff_ne]; exact hr2
          go_upto_region 24 with (first | (go_at_call 13; refine (num_any _ _).mono ?_; rintro e w' ⟨rfl, rfl⟩))
          clear e8 f8
          have d0 := blk_cell U7.out 0
          have r0 := blk_cell S7.out 0
          have q0 := blk_free S7.out 0
          have d1 := blk_cell U7.out 1
          have r1 := blk_cell S7.out 1
          have q1 := blk_free S7.out 1
          have d2 := blk_cell U7.out 2
          have r2 := blk_cell S7.out 2
          have q2 := blk_free S7.out 2
          have d3 := blk_cell U7.out 3
          have r3 := blk_cell S7.out 3
          have q3 := blk_free S7.out 3
          have d4 := blk_cell U7.out 4
          have r4 := blk_cell S7.out 4
          have q4 := blk_free S7.out 4
          have d5 := blk_cell U7.out 5
          have r5 := blk_cell S7.out 5
          have q5 := blk_free S7.out 5
          have d6 := blk_cell U7.out 6
          have r6 := blk_cell S7.out 6
          have q6 := blk_free S7.out 6
          have d7 := blk_cell U7.out 7
          have r7 := blk_cell S7.out 7
          have q7 := blk_free S7.out 7
          have d8 := blk_cell U7.out 8
          have r8 := blk_cell S7.out 8
          have q8 := blk_free S7.out 8
          have d9 := blk_cell U7.out 9
          have r9 := blk_cell S7.out 9
          have q9 := blk_free S7.out 9
          have d10 := blk_cell U7.out 10
          have r10 := blk_cell S7.out 10
          have q10 := blk_free S7.out 10
          have d11 := blk_cell U7.out 11
          have r11 := blk_cell S7.out 11
          have q11 := blk_free S7.out 11
          go_wp2_with fail
          obtain ⟨RW, GW⟩ := set12 V7 (V1.heap.size + 1) _ _ _ _ _ _ _ _ _ _ _ _ _ (.int .i64 u.phase) (.slice u.ra u.rl.length u.rc) (.bool u.hasRtt) (.int .i64 u.rtt) (.int .i64 u.rttAt) (.bool u.full) (.int .i64 u.fullRate) (.int .i64 u.fullRounds) (.int .i64 u.cycle) (.int .i64 u.cycleAt) (.int .i64 u.til) (.int .i64 u.round) S7.out
          have OW := Lib.hid (O7.out.grownN GW (by omega))
          have QW := Lib.hid (below_gr3 Q7.out (by omega) GW)
          have SW := Lib.hid RW
          clear d0 r0 q0 d1 r1 q1 d2 r2 q2 d3 r3 q3 d4 r4 q4 d5 r5 q5 d6 r6 q6 d7 r7 q7 d8 r8 q8 d9 r9 q9 d10 r10 q10 d11 r11 q11 RW GW
          generalize ((((((((((((V7).setCell ⟨V1.heap.size + 1, 0, none⟩ (.int .i64 u.phase)).setCell ⟨V1.heap.size + 1, 1, none⟩ (.slice u.ra u.rl.length u.rc)).setCell ⟨V1.heap.size + 1, 2, none⟩ (.bool u.hasRtt)).setCell ⟨V1.heap.size + 1, 3, none⟩ (.int .i64 u.rtt)).setCell ⟨V1.heap.size + 1, 4, none⟩ (.int .i64 u.rttAt)).setCell ⟨V1.heap.size + 1, 5, none⟩ (.bool u.full)).setCell ⟨V1.heap.size + 1, 6, none⟩ (.int .i64 u.fullRate)).setCell ⟨V1.heap.size + 1, 7, none⟩ (.int .i64 u.fullRounds)).setCell ⟨V1.heap.size + 1, 8, none⟩ (.int .i64 u.cycle)).setCell ⟨V1.heap.size + 1, 9, none⟩ (.int .i64 u.cycleAt)).setCell ⟨V1.heap.size + 1, 10, none⟩ (.int .i64 u.til)).setCell ⟨V1.heap.size + 1, 11, none⟩ (.int .i64 u.round) = W at SW OW QW ⊢
          go_wp2
          go_roundw
          case rel => exact ⟨i + 1, n + rt, (1 + 1) % 8, u, by omega, by go_num, rfl, by omega, by omega, HKN, UI, OW.out.sts encP, OW.out.nilcap, fun b o h => by have := (OW.out.atB b o h).1; omega, SW.out, QW.out⟩
          case measure => simp [intOf]; omega
      · obtain ⟨⟨k0, k1⟩, rfl⟩ := way
        have k0b : (k == 0) = false := by rw [beq_eq_false_iff_ne]; exact k0
        have k1b : (k == 1) = false := by rw [beq_eq_false_iff_ne]; exact k1
        have c0 := blk_cell SR.out 0
        have c1 := blk_cell SR.out 1
        have c2 := blk_cell SR.out 2
        have c3 := blk_cell SR.out 3
        have c4 := blk_cell SR.out 4
        have c5 := blk_cell SR.out 5
        have c6 := blk_cell SR.out 6
        have c7 := blk_cell SR.out 7
        have c9 := blk_cell SR.out 9
        have c10 := blk_cell SR.out 10
        have c11 := blk_cell SR.out 11
        have c8 := blk_cell SR.out 8
        clear e8
        go_upto_region 15 with fail
        go_wp2_with fail
        refine (HRT.out _ LR.out).mono ?_
        rintro e V3 ⟨rfl, b⟩
        have S3 := Lib.hid ((b.block _ hgs).trans SR.out)
        have Q3 := Lib.hid (QR.out.trans (b.mono hg0))
        have L3 := Lib.hid (LR.out.belowT b)
        have hg3 := Nat.lt_of_lt_of_le hgs b.size
        clear b SR QR LR HRT c0 c1 c2 c3 c4 c5 c6 c7 c8 c9 c10 c11
        go_upto_region 16 with fail
        have e8 : V3.cell? ⟨V1.heap.size + 1, 8, none⟩ = some (.int .i64 k) := by rw [blk_cell S3.out 8]; exact congrArg (fun z => some (Value.int .i64 z)) HI.out.cycle
        go_wp2_with fail
        refine (num_any _ _).mono ?_
        rintro e w' ⟨rfl, rfl⟩
        go_upto_region 18 with fail
        clear e8 hk8
        have c0 := blk_cell S3.out 0
        have c1 := blk_cell S3.out 1
        have c2 := blk_cell S3.out 2
        have c3 := blk_cell S3.out 3
        have c4 := blk_cell S3.out 4
        have c5 := blk_cell S3.out 5
        have c6 := blk_cell S3.out 6
        have c7 := blk_cell S3.out 7
        have c8 := blk_cell S3.out 8
        have c9 := blk_cell S3.out 9
        have c10 := blk_cell S3.out 10
        have c11 := blk_cell S3.out 11
        go_wp2_with fail
        refine (ack_ok s 1000 ⟨n + rt - 1, 1, 0, 0, 0, false, false⟩ _ HI.out.sv L3.out NR.out (by decide) HE1.out).mono ?_
        rintro e V4 ⟨⟨t, ⟨a', c', ht⟩, rfl, O⟩, b⟩
        have TI := Lib.hid (HW1.out t a' c' ht)
        have S4 := Lib.hid ((b.block _ hg3).trans S3.out)
        have Q4 := Lib.hid (Q3.out.trans (b.mono Q3.out.size))
        have O4 := Lib.hid (O.mono (by omega : V1.heap.size + 2 ≤ V3.heap.size))
        clear O b ht S3 Q3 L3 HE1 HW1 NR DR c0 c1 c2 c3 c4 c5 c6 c7 c8 c9 c10 c11
        go_upto_region 19 with fail
        have b5 := (Below.refl V4.heap.size V4).alloc (Nat.le_refl _) (.cells #[.int .i64 t.phase, .slice t.ra t.rl.length t.rc, .bool t.hasRtt, .int .i64 t.rtt, .int .i64 t.rttAt, .bool t.full, .int .i64 t.fullRate, .int .i64 t.fullRounds, .int .i64 t.cycle, .int .i64 t.cycleAt, .int .i64 t.til, .int .i64 t.round] 40)
        have hg4 : V1.heap.size + 1 < V4.heap.size := blk_lt S4.out
        have S5 := Lib.hid ((b5.block _ hg4).trans S4.out)
        have T5 := Lib.hid (blk_new V4 (.cells #[.int .i64 t.phase, .slice t.ra t.rl.length t.rc, .bool t.hasRtt, .int .i64 t.rtt, .int .i64 t.rttAt, .bool t.full, .int .i64 t.fullRate, .int .i64 t.fullRounds, .int .i64 t.cycle, .int .i64 t.cycleAt, .int .i64 t.til, .int .i64 t.round] 40))
        have Q5 := Lib.hid (Q4.out.trans (b5.mono Q4.out.size))
        have O5 := Lib.hid (O4.out.below b5)
        have hne : V1.heap.size + 1 ≠ V4.heap.size := by omega
        obtain ⟨tb, htb⟩ : ∃ tb, V4.heap.size = tb := ⟨_, rfl⟩
        have hs5 : V4.heap.size < (V4.alloc (.cells #[.int .i64 t.phase, .slice t.ra t.rl.length t.rc, .bool t.hasRtt, .int .i64 t.rtt, .int .i64 t.rttAt, .bool t.full, .int .i64 t.fullRate, .int .i64 t.fullRounds, .int .i64 t.cycle, .int .i64 t.cycleAt, .int .i64 t.til, .int .i64 t.round] 40)).heap.size := by simp
        rw [htb] at T5 hne hs5 hg4
        clear b5 S4 Q4 O4
        generalize V4.alloc (.cells #[.int .i64 t.phase, .slice t.ra t.rl.length t.rc, .bool t.hasRtt, .int .i64 t.rtt, .int .i64 t.rttAt, .bool t.full, .int .i64 t.fullRate, .int .i64 t.fullRounds, .int .i64 t.cycle, .int .i64 t.cycleAt, .int .i64 t.til, .int .i64 t.round] 40) = V5 at S5 T5 Q5 O5 hs5 ⊢
        rw [htb]
        have d0 := blk_cell T5.out 0
        have d1 := blk_cell T5.out 1
        have d2 := blk_cell T5.out 2
        have d3 := blk_cell T5.out 3
        have d4 := blk_cell T5.out 4
        have d5 := blk_cell T5.out 5
        have d6 := blk_cell T5.out 6
        have d7 := blk_cell T5.out 7
        have d8 := blk_cell T5.out 8
        have d9 := blk_cell T5.out 9
        have d10 := blk_cell T5.out 10
        have d11 := blk_cell T5.out 11
        go_wp2_with fail
        refine (ack_ok t 1000 ⟨n + rt, 1, 0, 0, 0, false, false⟩ _ TI.out.sv (O5.out.sts encP) O5.out.nilcap (by decide) (HE2.out t TI.out)).mono ?_
        rintro e V6 ⟨⟨u, ⟨a'', c'', hu⟩, rfl, O⟩, b⟩
        have UI := Lib.hid (HW2.out t u TI.out a'' c'' hu)
        have S6 := Lib.hid ((b.block _ (blk_lt S5.out)).trans S5.out)
        have T6 := Lib.hid ((b.block _ hs5).trans T5.out)
        have Q6 := Lib.hid (Q5.out.trans (b.mono Q5.out.size))
        have O6 := Lib.hid (O.mono (by omega : V1.heap.size + 2 ≤ V5.heap.size))
        clear O b hu S5 T5 Q5 O5 HE2 HW2 d0 d1 d2 d3 d4 d5 d6 d7 d8 d9 d10 d11
        go_upto_region 20 with fail
        have b7 := (Below.refl V6.heap.size V6).alloc (Nat.le_refl _) (.cells #[.int .i64 u.phase, .slice u.ra u.rl.length u.rc, .bool u.hasRtt, .int .i64 u.rtt, .int .i64 u.rttAt, .bool u.full, .int .i64 u.fullRate, .int .i64 u.fullRounds, .int .i64 u.cycle, .int .i64 u.cycleAt, .int .i64 u.til, .int .i64 u.round] 40)
        have S7 := Lib.hid ((b7.block _ (blk_lt S6.out)).trans S6.out)
        have T7 := Lib.hid ((b7.block _ (blk_lt T6.out)).trans T6.out)
        have U7 := Lib.hid (blk_new V6 (.cells #[.int .i64 u.phase, .slice u.ra u.rl.length u.rc, .bool u.hasRtt, .int .i64 u.rtt, .int .i64 u.rttAt, .bool u.full, .int .i64 u.fullRate, .int .i64 u.fullRounds, .int .i64 u.cycle, .int .i64 u.cycleAt, .int .i64 u.til, .int .i64 u.round] 40))
        have Q7 := Lib.hid (Q6.out.trans (b7.mono Q6.out.size))
        have O7 := Lib.hid (O6.out.below b7)
        have hg6 := blk_lt S6.out
        have ht6 := blk_lt T6.out
        obtain ⟨ub, hub⟩ : ∃ ub, V6.heap.size = ub := ⟨_, rfl⟩
        rw [hub] at U7 hg6 ht6
        clear b7 S6 T6 Q6 O6
        generalize V6.alloc (.cells #[.int .i64 u.phase, .slice u.ra u.rl.length u.rc, .bool u.hasRtt, .int .i64 u.rtt, .int .i64 u.rttAt, .bool u.full, .int .i64 u.fullRate, .int .i64 u.fullRounds, .int .i64 u.cycle, .int .i64 u.cycleAt, .int .i64 u.til, .int .i64 u.round] 40) = V7 at S7 T7 U7 Q7 O7 ⊢
        rw [hub]
        have e8 : V7.cell? ⟨V1.heap.size + 1, 8, none⟩ = some (.int .i64 k) := by rw [blk_cell S7.out 8]; exact congrArg (fun z => some (Value.int .i64 z)) HI.out.cycle
        have f8 : V7.cell? ⟨tb, 8, none⟩ = some (.int .i64 k) := by rw [blk_cell T7.out 8]; exact congrArg (fun z => some (Value.int .i64 z)) TI.out.cycle
        clear htb hub
        by_cases hr2 : rt = 1
        case pos =>
          have hr3 : ¬ (1 < rt) := by omega
          have hr4 : (rt == 1) = true := by rw [beq_iff_eq]; exact hr2
          clear hr2
          go_upto_region 24 with (first | (go_at_call 13; refine (num_any _ _).mono ?_; rintro e w' ⟨rfl, rfl⟩))
          clear e8 f8
          have d0 := blk_cell U7.out 0
          have r0 := blk_cell S7.out 0
          have q0 := blk_free S7.out 0
          have d1 := blk_cell U7.out 1
          have r1 := blk_cell S7.out 1
          have q1 := blk_free S7.out 1
          have d2 := blk_cell U7.out 2
          have r2 := blk_cell S7.out 2
          have q2 := blk_free S7.out 2
          have d3 := blk_cell U7.out 3
          have r3 := blk_cell S7.out 3
          have q3 := blk_free S7.out 3
          have d4 := blk_cell U7.out 4
          have r4 := blk_cell S7.out 4
          have q4 := blk_free S7.out 4
          have d5 := blk_cell U7.out 5
          have r5 := blk_cell S7.out 5
          have q5 := blk_free S7.out 5
          have d6 := blk_cell U7.out 6
          have r6 := blk_cell S7.out 6
          have q6 := blk_free S7.out 6
          have d7 := blk_cell U7.out 7
          have r7 := blk_cell S7.out 7
          have q7 := blk_free S7.out 7
          have d8 := blk_cell U7.out 8
          have r8 := blk_cell S7.out 8
          have q8 := blk_free S7.out 8
          have d9 := blk_cell U7.out 9
          have r9 := blk_cell S7.out 9
          have q9 := blk_free S7.out 9
          have d10 := blk_cell U7.out 10
          have r10 := blk_cell S7.out 10
          have q10 := blk_free S7.out 10
          have d11 := blk_cell U7.out 11
          have r11 := blk_cell S7.out 11
          have q11 := blk_free S7.out 11
          go_wp2_with fail
          obtain ⟨RW, GW⟩ := set12 V7 (V1.heap.size + 1) _ _ _ _ _ _ _ _ _ _ _ _ _ (.int .i64 u.phase) (.slice u.ra u.rl.length u.rc) (.bool u.hasRtt) (.int .i64 u.rtt) (.int .i64 u.rttAt) (.bool u.full) (.int .i64 u.fullRate) (.int .i64 u.fullRounds) (.int .i64 u.cycle) (.int .i64 u.cycleAt) (.int .i64 u.til) (.int .i64 u.round) S7.out
          have OW := Lib.hid (O7.out.grownN GW (by omega))
          have QW := Lib.hid (below_gr3 Q7.out (by omega) GW)
          have SW := Lib.hid RW
          clear d0 r0 q0 d1 r1 q1 d2 r2 q2 d3 r3 q3 d4 r4 q4 d5 r5 q5 d6 r6 q6 d7 r7 q7 d8 r8 q8 d9 r9 q9 d10 r10 q10 d11 r11 q11 RW GW
          generalize ((((((((((((V7).setCell ⟨V1.heap.size + 1, 0, none⟩ (.int .i64 u.phase)).setCell ⟨V1.heap.size + 1, 1, none⟩ (.slice u.ra u.rl.length u.rc)).setCell ⟨V1.heap.size + 1, 2, none⟩ (.bool u.hasRtt)).setCell ⟨V1.heap.size + 1, 3, none⟩ (.int .i64 u.rtt)).setCell ⟨V1.heap.size + 1, 4, none⟩ (.int .i64 u.rttAt)).setCell ⟨V1.heap.size + 1, 5, none⟩ (.bool u.full)).setCell ⟨V1.heap.size + 1, 6, none⟩ (.int .i64 u.fullRate)).setCell ⟨V1.heap.size + 1, 7, none⟩ (.int .i64 u.fullRounds)).setCell ⟨V1.heap.size + 1, 8, none⟩ (.int .i64 u.cycle)).setCell ⟨V1.heap.size + 1, 9, none⟩ (.int .i64 u.cycleAt)).setCell ⟨V1.heap.size + 1, 10, none⟩ (.int .i64 u.til)).setCell ⟨V1.heap.size + 1, 11, none⟩ (.int .i64 u.round) = W at SW OW QW ⊢
          go_wp2
          go_roundw
          case rel => exact ⟨i + 1, n + rt, (k + 1) % 8, u, by omega, by go_num, rfl, by omega, by omega, HKN, UI, OW.out.sts encP, OW.out.nilcap, fun b o h => by have := (OW.out.atB b o h).1; omega, SW.out, QW.out⟩
          case measure => simp [intOf]; omega
        case neg =>
          have hr3 : 1 < rt := by omega
          have hr4 : (rt == 1) = false := by rw [beq_eq_false_iff_ne]; exact hr2
          go_upto_region 24 with (first | (go_at_call 13; refine (num_any _ _).mono ?_; rintro e w' ⟨rfl, rfl⟩))
          clear e8 f8
          have d0 := blk_cell U7.out 0
          have r0 := blk_cell S7.out 0
          have q0 := blk_free S7.out 0
          have d1 := blk_cell U7.out 1
          have r1 := blk_cell S7.out 1
          have q1 := blk_free S7.out 1
          have d2 := blk_cell U7.out 2
          have r2 := blk_cell S7.out 2
          have q2 := blk_free S7.out 2
          have d3 := blk_cell U7.out 3
          have r3 := blk_cell S7.out 3
          have q3 := blk_free S7.out 3
          have d4 := blk_cell U7.out 4
          have r4 := blk_cell S7.out 4
          have q4 := blk_free S7.out 4
          have d5 := blk_cell U7.out 5
          have r5 := blk_cell S7.out 5
          have q5 := blk_free S7.out 5
          have d6 := blk_cell U7.out 6
          have r6 := blk_cell S7.out 6
          have q6 := blk_free S7.out 6
          have d7 := blk_cell U7.out 7
          have r7 := blk_cell S7.out 7
          have q7 := blk_free S7.out 7
          have d8 := blk_cell U7.out 8
          have r8 := blk_cell S7.out 8
          have q8 := blk_free S7.out 8
          have d9 := blk_cell U7.out 9
          have r9 := blk_cell S7.out 9
          have q9 := blk_free S7.out 9
          have d10 := blk_cell U7.out 10
          have r10 := blk_cell S7.out 10
          have q10 := blk_free S7.out 10
          have d11 := blk_cell U7.out 11
          have r11 := blk_cell S7.out 11
          have q11 := blk_free S7.out 11
          go_wp2_with fail
          obtain ⟨RW, GW⟩ := set12 V7 (V1.heap.size + 1) _ _ _ _ _ _ _ _ _ _ _ _ _ (.int .i64 u.phase) (.slice u.ra u.rl.length u.rc) (.bool u.hasRtt) (.int .i64 u.rtt) (.int .i64 u.rttAt) (.bool u.full) (.int .i64 u.fullRate) (.int .i64 u.fullRounds) (.int .i64 u.cycle) (.int .i64 u.cycleAt) (.int .i64 u.til) (.int .i64 u.round) S7.out
          have OW := Lib.hid (O7.out.grownN GW (by omega))
          have QW := Lib.hid (below_gr3 Q7.out (by omega) GW)
          have SW := Lib.hid RW
          clear d0 r0 q0 d1 r1 q1 d2 r2 q2 d3 r3 q3 d4 r4 q4 d5 r5 q5 d6 r6 q6 d7 r7 q7 d8 r8 q8 d9 r9 q9 d10 r10 q10 d11 r11 q11 RW GW
          generalize ((((((((((((V7).setCell ⟨V1.heap.size + 1, 0, none⟩ (.int .i64 u.phase)).setCell ⟨V1.heap.size + 1, 1, none⟩ (.slice u.ra u.rl.length u.rc)).setCell ⟨V1.heap.size + 1, 2, none⟩ (.bool u.hasRtt)).setCell ⟨V1.heap.size + 1, 3, none⟩ (.int .i64 u.rtt)).setCell ⟨V1.heap.size + 1, 4, none⟩ (.int .i64 u.rttAt)).setCell ⟨V1.heap.size + 1, 5, none⟩ (.bool u.full)).setCell ⟨V1.heap.size + 1, 6, none⟩ (.int .i64 u.fullRate)).setCell ⟨V1.heap.size + 1, 7, none⟩ (.int .i64 u.fullRounds)).setCell ⟨V1.heap.size + 1, 8, none⟩ (.int .i64 u.cycle)).setCell ⟨V1.heap.size + 1, 9, none⟩ (.int .i64 u.cycleAt)).setCell ⟨V1.heap.size + 1, 10, none⟩ (.int .i64 u.til)).setCell ⟨V1.heap.size + 1, 11, none⟩ (.int .i64 u.round) = W at SW OW QW ⊢
          go_wp2
          go_roundw
          case rel => exact ⟨i + 1, n + rt, (k + 1) % 8, u, by omega, by go_num, rfl, by omega, by omega, HKN, UI, OW.out.sts encP, OW.out.nilcap, fun b o h => by have := (OW.out.atB b o h).1; omega, SW.out, QW.out⟩
          case measure => simp [intOf]; omega

theorem own : ownKnob Try.prog.godebug = none := by kernel_rfl

set_option maxRecDepth 100000 in
set_option maxHeartbeats 2000000 in
theorem lifted (os : Os) (started : os.Started) (H : Type) (enc : TypeId × Value → H) :
    ReturnsInHanded {} Try.checked os 8 .any (Rows.bbrCycleSpec.pre6 enc Try.prog Try.f8 Rows.bbrCycleRow.domain false) (Rows.bbrCycleSpec.post enc Try.prog Try.f8 false true false false) := by
  refine returnsInHanded_of_change_sized (C := Try.checked) own started (by kernel_rfl) Try.func8
    (ChangeSpec.witness6 (enc := enc) (C := Try.checked) false ⟨#[], #[.int .i64 0, .int .i64 0], []⟩ 8 (by kernel_rfl) (by kernel_rfl) (by kernel_rfl) (by kernel_rfl)) ?_
  intro W base args ds gs before hval0 hW hcnd hsz0 _
  have hval : ∀ (j : Nat) t v, Try.f8.params[j]? = some t → args[j]? = some v → Value.okWide Try.prog W .any base t v := hval0
  have hW' := hW
  obtain ⟨p, q, hA0, hV, rfl, hfz, hnd⟩ := hW
  have hA : DataW.TrodAll enc Try.prog W 0 (fun _ => true) true Try.f8.params.toList args.toList ds p := hA0
  rw [Try.params8] at hA hval
  obtain ⟨v0, vs0, d0, ds0, p0, q0, hargs, rfl, rfl, h0, r0⟩ := trodAll_cons hA
  obtain ⟨v1, vs1, d1, ds1, p1, q1, rfl, rfl, rfl, h1, r1⟩ := trodAll_cons r0
  obtain ⟨rfl, rfl, rfl⟩ := trodAll_nil r1
  obtain rfl : args = #[v0, v1] := by cases args; simp_all
  obtain ⟨rfl, rfl⟩ := trodVars_none hV
  obtain ⟨a0, rfl, rfl, rfl, w0⟩ := open_int Try.underlying3 (hval 0 3 v0 rfl rfl) h0
  obtain ⟨a1, rfl, rfl, rfl, w1⟩ := open_int Try.underlying3 (hval 1 3 v1 rfl rfl) h1
  clear hA0
  obtain ⟨lo0, hi0⟩ := bounds_i64 w0
  obtain ⟨lo1, hi1⟩ := bounds_i64 w1
  refine (walk a0 a1 W lo0 hi0 lo1 hi1).mono fun e W' ⟨he, bel⟩ => ?_
  subst he
  exact ⟨_, rfl, _, _, _, [], _, [], hW', trodAll_mk1 (shut_bool Try.underlying4 _), (trodAll_cons_mk (shut_int Try.underlying3 w0) (trodAll_cons_mk (shut_int Try.underlying3 w1) trodAll_mk0)), rfl, bel.frame _, fun h => by cases h⟩

theorem over : Rows.bbrCycleRow.holds Try.pinned (OpenSpec.ofChange Rows.bbrCycleSpec) :=
  OpenClaim.holds_of_wide 8 Try.f8 rfl rfl rfl rfl rfl rfl rfl ⟨rfl, rfl, rfl, rfl, rfl⟩ rfl rfl rfl rfl rfl (by kernel_rfl) Try.func8 (by kernel_rfl)
    (of_decide_eq_true (by kernel_rfl)) (by unfold Func.isWrapper; first | (rw [if_pos (by decide +kernel)]; kernel_rfl) | (rw [if_neg (by decide +kernel)]; exact ⟨rfl, rfl⟩))
    (fun os started H enc _ => lifted os started H enc)

end Go.Proofs.Ytokoogohdfepiaa.bbrCycle
namespace Go.Proofs.Ytokoogohdfepiaa
/-- The statement. -/
theorem bbrCycle_holds : Rows.BbrCycleSaid := bbrCycle.over
#print axioms bbrCycle_holds
end Go.Proofs.Ytokoogohdfepiaa
