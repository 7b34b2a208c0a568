/- For every list of times: the time of the path is the least that was told, as long as none is stale. No condition. -/
import Derived.Test.YtokoogohdfepiaaRows
import Derived.Test.YtokoogohdfepiaaBbZj
import Derived.Test.YtokoogohdfepiaaQInts
import Derived.Test.YtokoogohdfepiaaGAgg
import Derived.RegionTactic
import Derived.ProofKit
import Derived.OpenShut
import Derived.ChangeOld
import Derived.SizedLaws
namespace Go.Proofs.Ytokoogohdfepiaa.bbrLeast
open Go.ChangeShapes Go.WideShapes Go.ChangeAt Go.RowKit Go.Deep Go.Proofs.Ytokoogohdfepiaa

/-- A state behind i times, the least of which is m. -/
structure LInv (s : Bs) (i : Nat) (m : Int) : Prop where
  sv : SV s
  phase : s.phase = 0
  full : s.full = false
  rl : s.rl = []
  round : s.round ≤ 1
  fr : s.fullRate = 0
  m0 : 0 ≤ m ∧ m ≤ 1073741824
  first : i = 0 → s.hasRtt = false ∧ m = 1073741824
  next : 0 < i → s.hasRtt = true ∧ s.rtt = m ∧ s.rttAt ≤ 100 * (i : Int) ∧ s.round = 1
abbrev z0 : Bs := ⟨0, none, [], 0, false, 0, 0, false, 0, 0, 0, 0, 0, 0⟩
theorem sv0 : SV z0 := ⟨by decide, by decide, v0, by decide, by decide, by decide, by decide, by decide, by decide, by decide⟩
theorem linv0 : LInv z0 0 1073741824 := ⟨sv0, rfl, rfl, rfl, by decide, rfl, by decide, fun _ => ⟨rfl, rfl⟩, fun h => absurd h (by decide)⟩
theorem evv {s : Bs} {i : Nat} {m r : Int} (h : LInv s i m) (hi : i < 100) (hr : 0 ≤ r ∧ r < 100000) : EvV s ⟨100 * (i : Int), 1, 0, r, 0, false, true⟩ := by
  refine ⟨⟨by dsimp only; omega, by dsimp only; omega⟩, ⟨(by decide : (0 : Int) ≤ 1), (by decide : (1 : Int) ≤ 1099511627776)⟩, ⟨(by decide : (0 : Int) ≤ 0), (by decide : (0 : Int) ≤ 1073741824)⟩, ⟨hr.1, by dsimp only; omega⟩, ⟨(by decide : (0 : Int) ≤ 0), (by decide : (0 : Int) ≤ 1073741824)⟩, h.round, ?_⟩
  rw [h.rl]; exact (by decide : (lastR [] : Int) ≤ 1)
theorem LInv.step {s : Bs} {i : Nat} {m r : Int} (h : LInv s i m) (hi : i < 100) (hr : 0 ≤ r ∧ r < 100000) (a : Option Addr) (c : Nat) {t : Bs} (ht : t = ackF s ⟨100 * (i : Int), 1, 0, r, 0, false, true⟩ a c) : LInv t (i + 1) (min m r) := by
  have hE := evv h hi hr
  have hsv : SV t := by rw [ht]; exact ackF_sv h.sv hE a c
  have hm := h.m0
  have h1 := h.sv.rttAt
  obtain ⟨x, hx⟩ : ∃ x, rateF s ⟨100 * (i : Int), 1, 0, r, 0, false, true⟩ a c = x := ⟨_, rfl⟩
  have hxp : x.phase = 0 ∧ x.full = false ∧ x.rl = [] ∧ x.fullRate = 0 ∧ x.round = 1 ∧ x.hasRtt = s.hasRtt ∧ x.rtt = s.rtt ∧ x.rttAt = s.rttAt := by
    have hl : lF s ⟨100 * (i : Int), 1, 0, r, 0, false, true⟩ = [] := by unfold lF; rw [if_neg (fun e : false = true => absurd e (by decide)), h.rl]
    rw [← hx]; unfold rateF; rw [hl]
    have hk : (5 : Int) * s.fullRate ≤ 4 * gE [] := by rw [h.fr]; decide
    split
    · (try rw [if_pos hk]); exact ⟨h.phase, h.full, rfl, rfl, rfl, rfl, rfl, rfl⟩
    · exact ⟨h.phase, h.full, rfl, h.fr, rfl, rfl, rfl, rfl⟩
  obtain ⟨x0, x5, xl, x6, x11, x2, x3, x4⟩ := hxp
  have hst : staleF x ⟨100 * (i : Int), 1, 0, r, 0, false, true⟩ = false := by
    unfold staleF; rw [x2, x4]
    by_cases hi0 : i = 0
    · rw [(h.first hi0).1]; rfl
    · have := h.next (by omega)
      rw [decide_eq_false (by dsimp only; omega)]; cases s.hasRtt <;> rfl
  obtain ⟨y, hy⟩ : ∃ y, rttF x ⟨100 * (i : Int), 1, 0, r, 0, false, true⟩ = y := ⟨_, rfl⟩
  have hyp : y.phase = 0 ∧ y.full = false ∧ y.rl = [] ∧ y.fullRate = 0 ∧ y.round = 1 ∧ y.hasRtt = true ∧ y.rtt = min m r ∧ y.rttAt ≤ 100 * ((i : Int) + 1) := by
    rw [← hy]; unfold rttF
    by_cases hc : x.hasRtt = false ∨ r ≤ x.rtt ∨ x.rttAt + 10240 ≤ 100 * (i : Int)
    · rw [if_pos ⟨rfl, hc⟩]
      refine ⟨x0, x5, xl, x6, x11, rfl, ?_, by dsimp only; omega⟩
      show r = min m r
      by_cases hi0 : i = 0
      · have := (h.first hi0).2; omega
      · have h2 := h.next (by omega)
        rcases hc with hc | hc | hc
        · rw [x2, h2.1] at hc; exact absurd hc (by decide)
        · rw [x3, h2.2.1] at hc; omega
        · rw [x4] at hc; omega
    · rw [if_neg (fun h => hc h.2)]
      by_cases hi0 : i = 0
      · exact absurd (.inl (by rw [x2]; exact (h.first hi0).1)) hc
      · have h2 := h.next (by omega)
        refine ⟨x0, x5, xl, x6, x11, by rw [x2]; exact h2.1, ?_, by rw [x4]; omega⟩
        have h3 : ¬ r ≤ x.rtt := fun e => hc (.inr (.inl e))
        rw [x3, h2.2.1] at h3 ⊢; omega
  obtain ⟨y0, y5, yl, y6, y11, y2, y3, y4⟩ := hyp
  have hs : stepF y ⟨100 * (i : Int), 1, 0, r, 0, false, true⟩ = y := by
    unfold stepF
    rw [show phaseF y ⟨100 * (i : Int), 1, 0, r, 0, false, true⟩ = y by unfold phaseF; rw [if_neg (fun h => by rw [y5] at h; exact absurd h.2 (by decide)), if_neg (fun h => by omega)]]
    unfold flowF; rw [if_neg (fun h => by omega)]
  have hp : ∀ b, b = false → probeF y ⟨100 * (i : Int), 1, 0, r, 0, false, true⟩ b = y := fun b hb => by
    unfold probeF; rw [if_neg (fun h => by rw [hb] at h; exact absurd h.1 (by decide)), if_neg (fun h => by omega)]
  have hty : t = y := by rw [ht]; unfold ackF restF; rw [hx, hy, hs]; exact hp _ hst
  rw [hty] at hsv ⊢
  exact ⟨hsv, y0, y5, yl, by omega, y6, by omega, fun e => by omega, fun _ => ⟨y2, y3, by have := y4; rw [Int.natCast_add]; exact this, y11⟩⟩

set_option maxRecDepth 100000 in
set_option maxHeartbeats 1500000 in
theorem walk (a : Option Addr) (xs : List Int) (c1 : Nat) (w : World) (hx : Its w a xs) (_hn1 : a = none → c1 = 0) (_hl1 : xs.length ≤ 17592186043904) :
    Calls Try.prog 7 #[.slice a xs.length c1] w fun e w' => e = .returned (.bool true) ∧ Below w.heap.size w w' := by
  have HX := Lib.hid hx
  clear hx
  go_enter Try.func7, Try.ntmps7
  go_wp2_with fail
  refine (alive_any _).mono ?_
  rintro e V1 ⟨rfl, b⟩
  have Q1 := Lib.hid b
  have hV1 := b.size
  clear b
  go_upto_region 6 with fail
  have b2 := (Below.refl V1.heap.size V1).alloc (Nat.le_refl _) (.cells #[.int .i64 0, .slice none 0 0, .bool false, .int .i64 0, .int .i64 0, .bool false, .int .i64 0, .int .i64 0, .int .i64 0, .int .i64 0, .int .i64 0, .int .i64 0] 40)
  have Q2 := Lib.hid (Q1.out.trans (b2.mono hV1))
  have S2 := Lib.hid (blk_new V1 (.cells #[.int .i64 0, .slice none 0 0, .bool false, .int .i64 0, .int .i64 0, .bool false, .int .i64 0, .int .i64 0, .int .i64 0, .int .i64 0, .int .i64 0, .int .i64 0] 40))
  clear b2
  generalize V1.alloc (.cells #[.int .i64 0, .slice none 0 0, .bool false, .int .i64 0, .int .i64 0, .bool false, .int .i64 0, .int .i64 0, .int .i64 0, .int .i64 0, .int .i64 0, .int .i64 0] 40) = V2 at Q2 S2 ⊢
  go_loopw [4, 5] (fun mv iv wr => ∃ (i : Nat) (m : Int) (s : Bs), i ≤ xs.length ∧ i ≤ 100 ∧ iv = .int .i64 i ∧ mv = .int .i64 m ∧ 0 ≤ m ∧ Hid (LInv s i m) ∧ OwnR 36 2 PC (V1.heap.size + 1) s.ra s.rl s.rc wr ∧ wr.heap[V1.heap.size]? = some (.cells #[.int .i64 s.phase, .slice s.ra s.rl.length s.rc, .bool s.hasRtt, .int .i64 s.rtt, .int .i64 s.rttAt, .bool s.full, .int .i64 s.fullRate, .int .i64 s.fullRounds, .int .i64 s.cycle, .int .i64 s.cycleAt, .int .i64 s.til, .int .i64 s.round] 40 (0, 0)) ∧ Below w.heap.size w wr) (fun _ iv _ => xs.length - (intOf iv).toNat)
  case atStart => exact ⟨0, 1073741824, z0, by omega, by omega, rfl, rfl, by decide, Lib.hid linv0, ownR_nil _ _ _ _ _, S2.out, Q2.out⟩
  case round =>
    obtain ⟨i, m, s, hi, hi2, rfl, rfl, hm0, HI, hO, hS, hq⟩ := hrel
    have OR := Lib.hid hO
    have SR := Lib.hid hS
    have QR := Lib.hid hq
    clear hO hS hq Q1 Q2 S2
    by_cases hlt : i < xs.length ∧ i < 100
    case neg =>
      have h2 : ¬ ((i : Int) < (xs.length : Int)) ∨ ((i : Int) < (xs.length : Int) ∧ ¬ ((i : Int) < 100)) := by omega
      rcases h2 with h2 | ⟨h2, h3⟩
      all_goals
        go_wp2
        go_ret
        exact ⟨rfl, QR.out⟩
    case pos =>
      obtain ⟨hlt1, hlt2⟩ := hlt
      have i1 : (i : Int) < (xs.length : Int) := by omega
      have i3 : (i : Int) < 100 := by omega
      obtain ⟨xb, xo, rfl, hxb, hxc⟩ : ∃ b off, a = some ⟨b, off, none⟩ ∧ b < w.heap.size ∧ ∀ i, i < xs.length → w.cell? ⟨b, off + i, none⟩ = some (.int .i64 (xs.getD i 0)) := by
        rcases HX.out.2 with h | h
        · rw [h] at hlt1; simp at hlt1
        · exact h
      obtain ⟨x, hxe⟩ : ∃ z, xs.getD i 0 = z := ⟨_, rfl⟩
      have cx : wr.cell? ⟨xb, xo + i, none⟩ = some (.int .i64 x) := by rw [← hxe]; exact (QR.out.cell (p := ⟨xb, xo + i, none⟩) hxb).trans (hxc i hlt1)
      obtain ⟨r, hr, hr0, hr1⟩ := norm_mod x 100000 (by omega) (by omega)
      clear hxc hxe
      have hNX := Lib.hid (fun (t : Bs) a' c' (ht : t = ackF s ⟨100 * (i : Int), 1, 0, r, 0, false, true⟩ a' c') => HI.out.step hlt2 ⟨hr0, hr1⟩ a' c' ht)
      have HEV := Lib.hid (evv HI.out hlt2 ⟨hr0, hr1⟩)
      have hw100 : wrap64 (100 * (i : Int)) = 100 * (i : Int) := IntWalk.wrap64_in _ ⟨by omega, by omega⟩
      have hgo : w.heap.size ≤ wr.heap.size := QR.out.size
      have hgs : V1.heap.size < wr.heap.size := blk_lt SR.out
      have c0 := blk_cell SR.out 0
      have c1 := blk_cell SR.out 1
      have c2 := blk_cell SR.out 2
      have c3 := blk_cell SR.out 3
      have c4 := blk_cell SR.out 4
      have c5 := blk_cell SR.out 5
      have c6 := blk_cell SR.out 6
      have c7 := blk_cell SR.out 7
      have c8 := blk_cell SR.out 8
      have c9 := blk_cell SR.out 9
      have c10 := blk_cell SR.out 10
      have c11 := blk_cell SR.out 11
      go_upto_region 9 with fail
      clear hr
      go_wp2_with fail
      refine (ack_ok s 1000 ⟨100 * (i : Int), 1, 0, r, 0, false, true⟩ _ HI.out.sv (OR.out.sts encP) OR.out.nilcap (by decide) HEV.out).mono ?_
      rintro e V3 ⟨⟨t, ⟨a', c', ht⟩, rfl, O⟩, b⟩
      have LI := Lib.hid (hNX.out t a' c' ht)
      have S3 := Lib.hid ((b.block _ hgs).trans SR.out)
      have Q3 := Lib.hid (QR.out.trans (b.mono hgo))
      have O3 := Lib.hid (O.mono (by omega : V1.heap.size + 1 ≤ wr.heap.size))
      clear O b ht SR QR OR HEV hNX HI cx
      clear c0 c1 c2 c3 c4 c5 c6 c7 c8 c9 c10 c11
      go_upto_region 10 with fail
      have b4 := (Below.refl V3.heap.size V3).alloc (Nat.le_refl _) (.cells #[.int .i64 t.phase, .slice t.ra t.rl.length t.rc, .bool t.hasRtt, .int .i64 t.rtt, .int .i64 t.rttAt, .bool t.full, .int .i64 t.fullRate, .int .i64 t.fullRounds, .int .i64 t.cycle, .int .i64 t.cycleAt, .int .i64 t.til, .int .i64 t.round] 40)
      have hg3 : V1.heap.size < V3.heap.size := blk_lt S3.out
      have S4 := Lib.hid ((b4.block _ hg3).trans S3.out)
      have T4 := Lib.hid (blk_new V3 (.cells #[.int .i64 t.phase, .slice t.ra t.rl.length t.rc, .bool t.hasRtt, .int .i64 t.rtt, .int .i64 t.rttAt, .bool t.full, .int .i64 t.fullRate, .int .i64 t.fullRounds, .int .i64 t.cycle, .int .i64 t.cycleAt, .int .i64 t.til, .int .i64 t.round] 40))
      have Q4 := Lib.hid (Q3.out.trans (b4.mono Q3.out.size))
      have O4 := Lib.hid (O3.out.below b4)
      have hne : V1.heap.size ≠ V3.heap.size := by omega
      clear b4 S3 Q3 O3
      generalize V3.alloc (.cells #[.int .i64 t.phase, .slice t.ra t.rl.length t.rc, .bool t.hasRtt, .int .i64 t.rtt, .int .i64 t.rttAt, .bool t.full, .int .i64 t.fullRate, .int .i64 t.fullRounds, .int .i64 t.cycle, .int .i64 t.cycleAt, .int .i64 t.til, .int .i64 t.round] 40) = V4 at S4 T4 Q4 O4 ⊢
      go_wp2_with fail
      refine (num_any _ _).mono ?_
      rintro e w' ⟨rfl, rfl⟩
      obtain ⟨y2, y3⟩ := LI.out.next (by omega)
      have y0 := LI.out.phase
      have d0 := blk_cell T4.out 0
      have d2 := blk_cell T4.out 2
      have d3 := blk_cell T4.out 3
      have e2 : V4.cell? ⟨V3.heap.size, 2, none⟩ = some (.bool true) := by rw [d2]; exact congrArg (fun z => some (Value.bool z)) y2
      have e3 : V4.cell? ⟨V3.heap.size, 3, none⟩ = some (.int .i64 (min m r)) := by rw [d3]; exact congrArg (fun z => some (Value.int .i64 z)) y3.1
      have e0 : V4.cell? ⟨V3.heap.size, 0, none⟩ = some (.int .i64 0) := by rw [d0]; exact congrArg (fun z => some (Value.int .i64 z)) y0
      have ns : Hid ((V3.heap.size : Nat) = V3.heap.size) := Lib.hid rfl
      clear y2 y3 y0 d0 d2 d3
      go_upto_region 13 with fail
      clear e0 e2 e3
      have d0 := blk_cell T4.out 0
      have d1 := blk_cell T4.out 1
      have d2 := blk_cell T4.out 2
      have d3 := blk_cell T4.out 3
      have d4 := blk_cell T4.out 4
      have d5 := blk_cell T4.out 5
      have d6 := blk_cell T4.out 6
      have d7 := blk_cell T4.out 7
      have d8 := blk_cell T4.out 8
      have d9 := blk_cell T4.out 9
      have d10 := blk_cell T4.out 10
      have d11 := blk_cell T4.out 11
      have r0 := blk_cell S4.out 0
      have q0 := blk_free S4.out 0
      have r1 := blk_cell S4.out 1
      have q1 := blk_free S4.out 1
      have r2 := blk_cell S4.out 2
      have q2 := blk_free S4.out 2
      have r3 := blk_cell S4.out 3
      have q3 := blk_free S4.out 3
      have r4 := blk_cell S4.out 4
      have q4 := blk_free S4.out 4
      have r5 := blk_cell S4.out 5
      have q5 := blk_free S4.out 5
      have r6 := blk_cell S4.out 6
      have q6 := blk_free S4.out 6
      have r7 := blk_cell S4.out 7
      have q7 := blk_free S4.out 7
      have r8 := blk_cell S4.out 8
      have q8 := blk_free S4.out 8
      have r9 := blk_cell S4.out 9
      have q9 := blk_free S4.out 9
      have r10 := blk_cell S4.out 10
      have q10 := blk_free S4.out 10
      have r11 := blk_cell S4.out 11
      have q11 := blk_free S4.out 11
      go_wp2_with fail
      obtain ⟨RW, GW⟩ := set12 V4 V1.heap.size _ _ _ _ _ _ _ _ _ _ _ _ _ (.int .i64 t.phase) (.slice t.ra t.rl.length t.rc) (.bool t.hasRtt) (.int .i64 t.rtt) (.int .i64 t.rttAt) (.bool t.full) (.int .i64 t.fullRate) (.int .i64 t.fullRounds) (.int .i64 t.cycle) (.int .i64 t.cycleAt) (.int .i64 t.til) (.int .i64 t.round) S4.out
      have OW := Lib.hid (O4.out.grownN GW (by omega))
      have QW := Lib.hid (below_gr3 Q4.out hV1 GW)
      have SW := Lib.hid RW
      clear r0 q0 d0 r1 q1 d1 r2 q2 d2 r3 q3 d3 r4 q4 d4 r5 q5 d5 r6 q6 d6 r7 q7 d7 r8 q8 d8 r9 q9 d9 r10 q10 d10 r11 q11 d11 RW GW
      generalize ((((((((((((V4).setCell ⟨V1.heap.size, 0, none⟩ (.int .i64 t.phase)).setCell ⟨V1.heap.size, 1, none⟩ (.slice t.ra t.rl.length t.rc)).setCell ⟨V1.heap.size, 2, none⟩ (.bool t.hasRtt)).setCell ⟨V1.heap.size, 3, none⟩ (.int .i64 t.rtt)).setCell ⟨V1.heap.size, 4, none⟩ (.int .i64 t.rttAt)).setCell ⟨V1.heap.size, 5, none⟩ (.bool t.full)).setCell ⟨V1.heap.size, 6, none⟩ (.int .i64 t.fullRate)).setCell ⟨V1.heap.size, 7, none⟩ (.int .i64 t.fullRounds)).setCell ⟨V1.heap.size, 8, none⟩ (.int .i64 t.cycle)).setCell ⟨V1.heap.size, 9, none⟩ (.int .i64 t.cycleAt)).setCell ⟨V1.heap.size, 10, none⟩ (.int .i64 t.til)).setCell ⟨V1.heap.size, 11, none⟩ (.int .i64 t.round) = W at SW OW QW ⊢
      go_wp2
      go_roundw
      case rel => exact ⟨i + 1, min m r, t, by omega, by omega, by go_num, rfl, by omega, LI, OW.out, SW.out, QW.out⟩
      case measure => simp [intOf]; omega

theorem own : ownKnob Try.prog.godebug = none := by kernel_rfl
theorem laidOut : laidOutB Try.prog = true := by kernel_rfl

set_option maxRecDepth 100000 in
set_option maxHeartbeats 2000000 in
theorem lifted (os : Os) (started : os.Started) (H : Type) (enc : TypeId × Value → H) :
    ReturnsInHanded {} Try.checked os 7 .any (Rows.bbrLeastSpec.pre6 enc Try.prog Try.f7 Rows.bbrLeastRow.domain false) (Rows.bbrLeastSpec.post enc Try.prog Try.f7 false true false false) := by
  refine returnsInHanded_of_change_sized (C := Try.checked) own started (by kernel_rfl) Try.func7
    (ChangeSpec.witness6 (enc := enc) (C := Try.checked) false ⟨#[], #[.slice none 0 0], []⟩ 8 (by kernel_rfl) (by kernel_rfl) (by kernel_rfl) (by kernel_rfl)) ?_
  intro W base args ds gs before hval0 hW hcnd hsz0 _
  have hval : ∀ (j : Nat) t v, Try.f7.params[j]? = some t → args[j]? = some v → Value.okWide Try.prog W .any base t v := hval0
  have hsz : (DataW.weightsEach Try.prog (Try.f7.params.toList ++ Rows.bbrLeastSpec.plain.varTypes Try.prog) (ds ++ gs)).all (· ≤ reachBytes) = true := hsz0
  have hW' := hW
  obtain ⟨p, q, hA0, hV, rfl, hfz, hnd⟩ := hW
  have hA : DataW.TrodAll enc Try.prog W 0 (fun _ => true) true Try.f7.params.toList args.toList ds p := hA0
  rw [Try.params7] at hA hval hsz
  obtain ⟨v0, vs0, d0, ds0, p0, q0, hargs, rfl, rfl, h0, r0⟩ := trodAll_cons hA
  obtain ⟨rfl, rfl, rfl⟩ := trodAll_nil r0
  obtain rfl : args = #[v0] := by cases args; simp_all
  obtain ⟨rfl, rfl⟩ := trodVars_none hV
  obtain ⟨a0, len0, cap0, rfl⟩ := okWide_slice Try.underlying34 (hval 0 34 v0 rfl rfl)
  have k0 := h0
  have lt0 : ∀ x ∈ p0, x.block < W.heap.size := by obtain ⟨m, hm⟩ := k0; exact DataW.trod_lt m _ _ _ hm
  obtain ⟨xs0, hxl0, hbt0, hcap0, hre0⟩ : ∃ xs : List Int, xs.length = len0 ∧ Its W a0 xs ∧ (a0 = none → cap0 = 0) ∧ xs.length ≤ 17592186043904 := by
    obtain ⟨fuel, hf⟩ := h0
    rcases open_ints Try.underlying34 Try.underlying3 (by kernel_rfl) hf with ⟨hcs, _⟩ | ⟨x, l, c, zs, hcs, _, hl, hm, hz, hd, hcell, hwz⟩
    · simp [Value.cells] at hcs
      obtain ⟨rfl, rfl, rfl⟩ := hcs
      exact ⟨[], rfl, ⟨(fun x h => by cases h), .inl rfl⟩, fun _ => rfl, by simp⟩
    · simp [Value.cells] at hcs
      obtain ⟨rfl, rfl, rfl⟩ := hcs
      have hz' : zs.length = cap0 := by simpa using hz
      obtain ⟨xs, h1, h2⟩ := its_of_ints hl hz' hcell hwz
      have hd' := (Prod.mk.inj hd).1
      have hw := sized_slice hsz (j := 0) (t := 34) (e := 3) rfl (by rw [hd']; rfl) Try.underlying34
      rw [bytes8] at hw
      simp only [lits, List.length_map, List.length_take, List.length_drop, reachBytes] at hw
      exact ⟨xs, h1, h2, (fun h => by cases h), by omega⟩
  clear hA0 hval0 hsz hsz0
  subst hxl0
  refine (walk a0 xs0 cap0 W hbt0 hcap0 hre0).mono fun e W' ⟨he, bel⟩ => ?_
  subst he
  exact ⟨_, rfl, _, _, _, [], _, [], hW', trodAll_mk1 (shut_bool Try.underlying4 _), (trodAll_cons_mk (Below.trod laidOut (by kernel_rfl) (of_decide_eq_true (by kernel_rfl)) k0 bel lt0) trodAll_mk0), rfl, bel.frame _, fun h => by cases h⟩

theorem over : Rows.bbrLeastRow.holds Try.pinned (OpenSpec.ofChange Rows.bbrLeastSpec) :=
  OpenClaim.holds_of_wide 7 Try.f7 rfl rfl rfl rfl rfl rfl rfl ⟨rfl, rfl, rfl, rfl, rfl⟩ rfl rfl rfl rfl rfl (by kernel_rfl) Try.func7 (by kernel_rfl)
    (of_decide_eq_true (by kernel_rfl)) (by unfold Func.isWrapper; first | (rw [if_pos (by decide +kernel)]; kernel_rfl) | (rw [if_neg (by decide +kernel)]; exact ⟨rfl, rfl⟩))
    (fun os started H enc _ => lifted os started H enc)

end Go.Proofs.Ytokoogohdfepiaa.bbrLeast
namespace Go.Proofs.Ytokoogohdfepiaa
/-- The statement. -/
theorem bbrLeast_holds : Rows.BbrLeastSaid := bbrLeast.over
#print axioms bbrLeast_holds
end Go.Proofs.Ytokoogohdfepiaa
