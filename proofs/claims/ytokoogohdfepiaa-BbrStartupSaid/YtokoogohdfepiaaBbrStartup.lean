/- For every rate, list of risings and time: Startup goes on as long as each three rounds bring a fourth more; behind three that don't it ends. No condition. -/
import Derived.Test.YtokoogohdfepiaaRows
import Derived.Test.YtokoogohdfepiaaBbZj
import Derived.Test.YtokoogohdfepiaaQInts
import Derived.Test.YtokoogohdfepiaaGAgg
import Derived.RegionTactic
import Derived.ProofKit
import Derived.OpenShut
import Derived.ChangeOld
import Derived.SizedLaws
namespace Go.Proofs.Ytokoogohdfepiaa.bbrStartup
open Go.ChangeShapes Go.WideShapes Go.ChangeAt Go.RowKit Go.Deep Go.Proofs.Ytokoogohdfepiaa

theorem p2b : ∀ i : Nat, i < 9 → (2 : Int) ^ i ≤ 256 ∧ 1 ≤ (2 : Int) ^ i := by decide
/-- A state behind i rounds, the last of the rate r at most, the greatest b, f of them without a fourth more. -/
structure SInv (s : Bs) (i : Nat) (r b f rt : Int) : Prop where
  sv : SV s
  phase : s.phase = 0
  full : s.full = false
  round : s.round = i
  fr : s.fullRate = b
  fn : s.fullRounds = f
  rl : s.rl = [] ∨ ∃ q, s.rl = [⟨(i : Int), q⟩] ∧ q ≤ r
  rtt : s.hasRtt = false ∨ s.rtt = rt
abbrev z0 : Bs := ⟨0, none, [], 0, false, 0, 0, false, 0, 0, 0, 0, 0, 0⟩
theorem sv0 : SV z0 := ⟨by decide, by decide, v0, by decide, by decide, by decide, by decide, by decide, by decide, by decide⟩
theorem sinv0 (r rt : Int) : SInv z0 0 r 0 0 rt := ⟨sv0, rfl, rfl, rfl, rfl, rfl, .inl rfl, .inl rfl⟩
theorem sev {s : Bs} {i : Nat} {r b f rt v : Int} (h : SInv s i r b f rt) (hi : i < 8) (hv : 0 ≤ v ∧ v ≤ 1048576) (hr : 1 ≤ rt ∧ rt ≤ 100) : EvV s ⟨(i : Int), (i : Int) + 1, v, rt, 1073741824, true, true⟩ := by
  refine ⟨⟨by dsimp only; omega, by dsimp only; omega⟩, ⟨by dsimp only; omega, by dsimp only; omega⟩, ⟨hv.1, by dsimp only; omega⟩, ⟨by dsimp only; omega, by dsimp only; omega⟩, ⟨(by decide : (0 : Int) ≤ 1073741824), (by decide : (1073741824 : Int) ≤ 1073741824)⟩, by dsimp only; rw [h.round]; omega, ?_⟩
  dsimp only
  rcases h.rl with e | ⟨q, e, _⟩
  · rw [e, show lastR [] = 0 from rfl]; omega
  · rw [e, show lastR [⟨(i : Int), q⟩] = (i : Int) from rfl]; omega
theorem slf {s : Bs} {i : Nat} {r b f rt v : Int} (h : SInv s i r b f rt) (hrv : r ≤ v) : lF s ⟨(i : Int), (i : Int) + 1, v, rt, 1073741824, true, true⟩ = [⟨(i : Int) + 1, v⟩] := by
  unfold lF; rw [if_pos rfl]
  have hl : left ((i : Int) + 1) v s.rl = [] := by
    rcases h.rl with e | ⟨q, e, hq⟩
    · rw [e]; rfl
    · rw [e]
      unfold left
      rw [List.filter_eq_nil_iff]
      intro x hx
      rw [List.mem_singleton] at hx
      subst hx
      unfold dl; simp [Int.le_trans hq hrv]
  unfold filt; rw [hl, if_neg (fun e => e.1 rfl)]; rfl
theorem SInv.rest {s : Bs} {i : Nat} {r b f rt v : Int} (h : SInv s i r b f rt) (hi : i < 8) (hv : 0 ≤ v ∧ v ≤ 1048576) (hr : 1 ≤ rt ∧ rt ≤ 100) (a : Option Addr) (c : Nat) {t x : Bs} (ht : t = ackF s ⟨(i : Int), (i : Int) + 1, v, rt, 1073741824, true, true⟩ a c) (hx : rateF s ⟨(i : Int), (i : Int) + 1, v, rt, 1073741824, true, true⟩ a c = x) (x1 : x.phase = 0) (x2 : x.rl = [⟨(i : Int) + 1, v⟩]) (x3 : x.hasRtt = s.hasRtt ∧ x.rtt = s.rtt ∧ x.rttAt = s.rttAt) :
    t = { x with hasRtt := true, rtt := rt, rttAt := (i : Int), phase := if x.full = true then 1 else 0 } := by
  have h1 := h.sv.rttAt
  have hst : staleF x ⟨(i : Int), (i : Int) + 1, v, rt, 1073741824, true, true⟩ = false := by
    unfold staleF; dsimp only; rw [x3.2.2, decide_eq_false (by omega), Bool.and_false, Bool.and_false]
  have hy : rttF x ⟨(i : Int), (i : Int) + 1, v, rt, 1073741824, true, true⟩ = { x with hasRtt := true, rtt := rt, rttAt := (i : Int) } := by
    unfold rttF
    rw [if_pos]
    refine ⟨rfl, ?_⟩
    rw [x3.1, x3.2.1]
    rcases h.rtt with e | e
    · exact .inl e
    · exact .inr (.inl (by dsimp only; omega))
  have hw : ¬ (1073741824 : Int) ≤ v * rt / 1024 := by
    have : v * rt ≤ 1048576 * 100 := Int.mul_le_mul hv.2 hr.2 (by omega) (by decide)
    omega
  have hs : stepF { x with hasRtt := true, rtt := rt, rttAt := (i : Int) } ⟨(i : Int), (i : Int) + 1, v, rt, 1073741824, true, true⟩ = { x with hasRtt := true, rtt := rt, rttAt := (i : Int), phase := if x.full = true then 1 else 0 } := by
    unfold stepF
    by_cases hf : x.full = true
    · rw [show phaseF { x with hasRtt := true, rtt := rt, rttAt := (i : Int) } ⟨(i : Int), (i : Int) + 1, v, rt, 1073741824, true, true⟩ = { x with hasRtt := true, rtt := rt, rttAt := (i : Int), phase := 1 } from if_pos ⟨x1, hf⟩]
      unfold flowF
      rw [if_neg (fun e => hw (by have := e.2; dsimp only at this; rw [x2] at this; exact this)), if_pos hf]
    · rw [show phaseF { x with hasRtt := true, rtt := rt, rttAt := (i : Int) } ⟨(i : Int), (i : Int) + 1, v, rt, 1073741824, true, true⟩ = { x with hasRtt := true, rtt := rt, rttAt := (i : Int) } by unfold phaseF; rw [if_neg (fun e => hf e.2), if_neg (fun e => by have := e.1; dsimp only at this; omega)]]
      unfold flowF
      rw [if_neg (fun e => by have := e.1; dsimp only at this; omega), if_neg hf, ← x1]
  rw [ht]; unfold ackF restF
  rw [hx, hst, hy, hs]
  unfold probeF
  rw [if_neg (fun e => absurd e.1 (by decide)), if_neg]
  intro e
  have := e.1
  dsimp only at this
  split at this <;> omega
theorem SInv.more {s : Bs} {i : Nat} {r b f rt v : Int} (h : SInv s i r b f rt) (hi : i < 8) (hrv : r ≤ v) (hv : 0 ≤ v ∧ v ≤ 1048576) (hr : 1 ≤ rt ∧ rt ≤ 100) (a : Option Addr) (c : Nat) {t : Bs} (ht : t = ackF s ⟨(i : Int), (i : Int) + 1, v, rt, 1073741824, true, true⟩ a c) (hm : 5 * b ≤ 4 * v) : SInv t (i + 1) v v 0 rt := by
  have hsv : SV t := by rw [ht]; exact ackF_sv h.sv (sev h hi hv hr) a c
  have hx : rateF s ⟨(i : Int), (i : Int) + 1, v, rt, 1073741824, true, true⟩ a c = { s with ra := a, rl := [⟨(i : Int) + 1, v⟩], rc := c, round := (i : Int) + 1, fullRate := v, fullRounds := 0 } := by
    unfold rateF; rw [slf h hrv, if_pos ⟨by dsimp only; rw [h.round]; omega, h.full⟩, if_pos (by rw [h.fr]; exact hm)]; rfl
  have he := h.rest hi hv hr a c ht hx h.phase rfl ⟨rfl, rfl, rfl⟩
  dsimp only at he
  rw [h.full] at he
  rw [he] at hsv ⊢
  exact ⟨hsv, rfl, rfl, by dsimp only; omega, rfl, rfl, .inr ⟨v, by dsimp only; rw [Int.natCast_add]; rfl, Int.le_refl _⟩, .inr rfl⟩
theorem SInv.less {s : Bs} {i : Nat} {r b f rt v : Int} (h : SInv s i r b f rt) (hi : i < 8) (hrv : r ≤ v) (hv : 0 ≤ v ∧ v ≤ 1048576) (hr : 1 ≤ rt ∧ rt ≤ 100) (a : Option Addr) (c : Nat) {t : Bs} (ht : t = ackF s ⟨(i : Int), (i : Int) + 1, v, rt, 1073741824, true, true⟩ a c) (hm : ¬ 5 * b ≤ 4 * v) (hf : 0 ≤ f ∧ f ≤ 2) : SV t ∧ t.phase = (if f = 2 then 1 else 0) ∧ t.full = decide (f = 2) ∧ (¬ f = 2 → SInv t (i + 1) v b (f + 1) rt) := by
  have hsv : SV t := by rw [ht]; exact ackF_sv h.sv (sev h hi hv hr) a c
  have hmin : min (f + 1) 1099511627776 = f + 1 := by omega
  have hx : rateF s ⟨(i : Int), (i : Int) + 1, v, rt, 1073741824, true, true⟩ a c = { s with ra := a, rl := [⟨(i : Int) + 1, v⟩], rc := c, round := (i : Int) + 1, fullRounds := f + 1, full := decide (3 ≤ f + 1) } := by
    unfold rateF; rw [slf h hrv, if_pos ⟨by dsimp only; rw [h.round]; omega, h.full⟩, if_neg (by rw [h.fr]; exact hm), h.fn, hmin]
  have he := h.rest hi hv hr a c ht hx h.phase rfl ⟨rfl, rfl, rfl⟩
  dsimp only at he
  have hd : decide (3 ≤ f + 1) = decide (f = 2) := by congr 1; exact propext ⟨fun e => by omega, fun e => by omega⟩
  rw [hd] at he
  refine ⟨hsv, ?_, ?_, fun hn => ?_⟩
  · rw [he]; dsimp only
    by_cases e : f = 2
    · rw [decide_eq_true e, if_pos rfl, if_pos e]
    · rw [decide_eq_false e, if_neg (by decide), if_neg e]
  · rw [he]
  · rw [decide_eq_false hn] at he
    rw [he] at hsv ⊢
    exact ⟨hsv, rfl, rfl, by dsimp only; omega, h.fr, rfl, .inr ⟨v, by dsimp only; rw [Int.natCast_add]; rfl, Int.le_refl _⟩, .inr rfl⟩

set_option maxRecDepth 100000 in
set_option maxHeartbeats 3000000 in
theorem walk (rate : Int) (a : Option Addr) (xs : List Int) (c1 : Nat) (rtt : Int) (w : World) (_h0 : -9223372036854775808 ≤ rate) (_h1 : rate ≤ 9223372036854775807) (hx : Its w a xs) (_hn1 : a = none → c1 = 0) (_hl1 : xs.length ≤ 17592186043904) (_h2 : -9223372036854775808 ≤ rtt) (_h3 : rtt ≤ 9223372036854775807) :
    Calls Try.prog 6 #[.int .i64 rate, .slice a xs.length c1, .int .i64 rtt] w fun e w' => e = .returned (.bool true) ∧ Below w.heap.size w w' := by
  have HX := Lib.hid hx
  clear hx
  obtain ⟨y, hy, hy0, hy1⟩ := norm_mod rate 1000 (by omega) (by omega)
  obtain ⟨z, hz, hz0, hz1⟩ := norm_mod rtt 100 (by omega) (by omega)
  obtain ⟨r0, hr0⟩ : ∃ r0, 1000 + y = r0 := ⟨_, rfl⟩
  obtain ⟨rt, hrt⟩ : ∃ rt, 1 + z = rt := ⟨_, rfl⟩
  have HR0 : Hid (1000 ≤ r0 ∧ r0 ≤ 2000) := Lib.hid (by omega)
  have hrb : 1 ≤ rt ∧ rt ≤ 100 := by omega
  clear _h0 _h1 _h2 _h3
  go_enter Try.func6, Try.ntmps6
  go_wp2_with fail
  refine (alive_any _).mono ?_
  rintro e V1 ⟨rfl, b⟩
  have Q1 := Lib.hid b
  have hV1 := b.size
  clear b
  go_upto_region 7 with fail
  clear hy hz hr0 hrt hy0 hy1 hz0 hz1
  have b2 := (Below.refl V1.heap.size V1).alloc (Nat.le_refl _) (.cells #[.int .i64 0, .slice none 0 0, .bool false, .int .i64 0, .int .i64 0, .bool false, .int .i64 0, .int .i64 0, .int .i64 0, .int .i64 0, .int .i64 0, .int .i64 0] 40)
  have Q2 := Lib.hid (Q1.out.trans (b2.mono hV1))
  have S2 := Lib.hid (blk_new V1 (.cells #[.int .i64 0, .slice none 0 0, .bool false, .int .i64 0, .int .i64 0, .bool false, .int .i64 0, .int .i64 0, .int .i64 0, .int .i64 0, .int .i64 0, .int .i64 0] 40))
  clear b2
  generalize V1.alloc (.cells #[.int .i64 0, .slice none 0 0, .bool false, .int .i64 0, .int .i64 0, .bool false, .int .i64 0, .int .i64 0, .int .i64 0, .int .i64 0, .int .i64 0, .int .i64 0] 40) = V2 at Q2 S2 ⊢
  go_loopw [0, 8, 9, 10] (fun rv bv fv iv wr => ∃ (i : Nat) (r b f : Int) (s : Bs), i ≤ xs.length ∧ i ≤ 8 ∧ rv = .int .i64 r ∧ bv = .int .i64 b ∧ fv = .int .i64 f ∧ iv = .int .i64 i ∧ Hid (0 ≤ r ∧ r ≤ 2000 * (2 : Int) ^ i) ∧ (0 ≤ b ∧ b ≤ 1048576) ∧ (0 ≤ f ∧ f ≤ 2) ∧ Hid (SInv s i r b f rt) ∧ OwnR 36 2 PC (V1.heap.size + 1) s.ra s.rl s.rc wr ∧ wr.heap[V1.heap.size]? = some (.cells #[.int .i64 s.phase, .slice s.ra s.rl.length s.rc, .bool s.hasRtt, .int .i64 s.rtt, .int .i64 s.rttAt, .bool s.full, .int .i64 s.fullRate, .int .i64 s.fullRounds, .int .i64 s.cycle, .int .i64 s.cycleAt, .int .i64 s.til, .int .i64 s.round] 40 (0, 0)) ∧ Below w.heap.size w wr) (fun _ _ _ iv _ => xs.length - (intOf iv).toNat)
  case atStart => exact ⟨0, r0, 0, 0, z0, by omega, by omega, rfl, rfl, rfl, rfl, Lib.hid ⟨by have := HR0.out; omega, by have := HR0.out; simp; omega⟩, by decide, by decide, Lib.hid (sinv0 r0 rt), ownR_nil _ _ _ _ _, S2.out, Q2.out⟩
  case round =>
    obtain ⟨i, r, b, f, s, hi, hi2, rfl, rfl, rfl, rfl, HRB, hb, hf, HI, hO, hS, hq⟩ := hrel
    have OR := Lib.hid hO
    have SR := Lib.hid hS
    have QR := Lib.hid hq
    clear hO hS hq Q1 Q2 S2 HR0
    by_cases hlt : i < xs.length ∧ i < 8
    case neg =>
      have h2 : ¬ ((i : Int) < (xs.length : Int)) ∨ ((i : Int) < (xs.length : Int) ∧ ¬ ((i : Int) < 8)) := by omega
      rcases h2 with h2 | ⟨h2, h3⟩
      all_goals
        go_wp2
        go_ret
        exact ⟨rfl, QR.out⟩
    case pos =>
      obtain ⟨hlt1, hlt2⟩ := hlt
      have i1 : (i : Int) < (xs.length : Int) := by omega
      have i3 : (i : Int) < 8 := by omega
      obtain ⟨xb, xo, rfl, hxb, hxc⟩ : ∃ b off, a = some ⟨b, off, none⟩ ∧ b < w.heap.size ∧ ∀ i, i < xs.length → w.cell? ⟨b, off + i, none⟩ = some (.int .i64 (xs.getD i 0)) := by
        rcases HX.out.2 with h | h
        · rw [h] at hlt1; simp at hlt1
        · exact h
      obtain ⟨x, hxe⟩ : ∃ z, xs.getD i 0 = z := ⟨_, rfl⟩
      have cx : wr.cell? ⟨xb, xo + i, none⟩ = some (.int .i64 x) := by rw [← hxe]; exact (QR.out.cell (p := ⟨xb, xo + i, none⟩) hxb).trans (hxc i hlt1)
      obtain ⟨u, hu, hu0, hu1⟩ := norm_mod x 60 (by omega) (by omega)
      clear hxc hxe
      obtain ⟨p1, p2⟩ := p2b i (by omega)
      have hrr : 0 ≤ r ∧ r ≤ 512000 := by have := HRB.out; omega
      obtain ⟨hr0, hr1⟩ := hrr
      have m0 : 0 ≤ r * u := Int.mul_nonneg hr0 hu0
      have m1 : r * u ≤ r * 60 := Int.mul_le_mul_of_nonneg_left (by omega) hr0
      obtain ⟨v, hv⟩ : ∃ v, r + r * u / 100 = v := ⟨_, rfl⟩
      have w1 : wrap64 (r * u) = r * u := IntWalk.wrap64_in _ ⟨by omega, by omega⟩
      have w2 : (r * u).tdiv 100 = r * u / 100 := Int.tdiv_eq_ediv_of_nonneg m0
      have w3 : wrap64 (r * u / 100) = r * u / 100 := IntWalk.wrap64_in _ ⟨by omega, by omega⟩
      have w4 : wrap64 (r + r * u / 100) = v := by rw [hv]; exact IntWalk.wrap64_in _ ⟨by omega, by omega⟩
      have HRB2 : Hid (0 ≤ v ∧ v ≤ 2000 * (2 : Int) ^ (i + 1)) := Lib.hid (by rw [Int.pow_succ]; have := HRB.out; omega)
      have hrv : r ≤ v := by omega
      have hvv : 0 ≤ v ∧ v ≤ 1048576 := by omega
      have HEV := Lib.hid (sev HI.out hlt2 hvv hrb)
      have HMO := Lib.hid (fun (t : Bs) a' c' (ht : t = ackF s ⟨(i : Int), (i : Int) + 1, v, rt, 1073741824, true, true⟩ a' c') => SInv.more HI.out hlt2 hrv hvv hrb a' c' ht)
      have HLE := Lib.hid (fun (t : Bs) a' c' (ht : t = ackF s ⟨(i : Int), (i : Int) + 1, v, rt, 1073741824, true, true⟩ a' c') (hm : ¬ 5 * b ≤ 4 * v) => SInv.less HI.out hlt2 hrv hvv hrb a' c' ht hm hf)
      obtain ⟨hb0, hb1⟩ := hb
      obtain ⟨hf0, hf1⟩ := hf
      obtain ⟨hv0, hv1⟩ := hvv
      have hgo : w.heap.size ≤ wr.heap.size := QR.out.size
      have hgs : V1.heap.size < wr.heap.size := blk_lt SR.out
      clear p1 p2 hrv
      have c0 := blk_cell SR.out 0
      have c1 := blk_cell SR.out 1
      have c2 := blk_cell SR.out 2
      have c3 := blk_cell SR.out 3
      have c4 := blk_cell SR.out 4
      have c5 := blk_cell SR.out 5
      have c6 := blk_cell SR.out 6
      have c7 := blk_cell SR.out 7
      have c8 := blk_cell SR.out 8
      have c9 := blk_cell SR.out 9
      have c10 := blk_cell SR.out 10
      have c11 := blk_cell SR.out 11
      go_upto_region 10 with fail
      clear hu w1 w2 w3 w4 hv m0 m1 hr0 hr1 hu0 hu1
      go_wp2_with fail
      refine (ack_ok s 1000 ⟨(i : Int), (i : Int) + 1, v, rt, 1073741824, true, true⟩ _ HI.out.sv (OR.out.sts encP) OR.out.nilcap (by decide) HEV.out).mono ?_
      rintro e V3 ⟨⟨t, ⟨a', c', ht⟩, rfl, O⟩, bb⟩
      have LM := Lib.hid (HMO.out t a' c' ht)
      have LL := Lib.hid (HLE.out t a' c' ht)
      have S3 := Lib.hid ((bb.block _ hgs).trans SR.out)
      have Q3 := Lib.hid (QR.out.trans (bb.mono hgo))
      have O3 := Lib.hid (O.mono (by omega : V1.heap.size + 1 ≤ wr.heap.size))
      clear O bb ht SR QR OR HEV HMO HLE HI cx c0 c1 c2 c3 c4 c5 c6 c7 c8 c9 c10 c11
      go_upto_region 11 with fail
      have b4 := (Below.refl V3.heap.size V3).alloc (Nat.le_refl _) (.cells #[.int .i64 t.phase, .slice t.ra t.rl.length t.rc, .bool t.hasRtt, .int .i64 t.rtt, .int .i64 t.rttAt, .bool t.full, .int .i64 t.fullRate, .int .i64 t.fullRounds, .int .i64 t.cycle, .int .i64 t.cycleAt, .int .i64 t.til, .int .i64 t.round] 40)
      have hg3 : V1.heap.size < V3.heap.size := blk_lt S3.out
      have S4 := Lib.hid ((b4.block _ hg3).trans S3.out)
      have T4 := Lib.hid (blk_new V3 (.cells #[.int .i64 t.phase, .slice t.ra t.rl.length t.rc, .bool t.hasRtt, .int .i64 t.rtt, .int .i64 t.rttAt, .bool t.full, .int .i64 t.fullRate, .int .i64 t.fullRounds, .int .i64 t.cycle, .int .i64 t.cycleAt, .int .i64 t.til, .int .i64 t.round] 40))
      have Q4 := Lib.hid (Q3.out.trans (b4.mono Q3.out.size))
      have O4 := Lib.hid (O3.out.below b4)
      have hne : V1.heap.size ≠ V3.heap.size := by omega
      clear b4 S3 Q3 O3
      generalize V3.alloc (.cells #[.int .i64 t.phase, .slice t.ra t.rl.length t.rc, .bool t.hasRtt, .int .i64 t.rtt, .int .i64 t.rttAt, .bool t.full, .int .i64 t.fullRate, .int .i64 t.fullRounds, .int .i64 t.cycle, .int .i64 t.cycleAt, .int .i64 t.til, .int .i64 t.round] 40) = V4 at S4 T4 Q4 O4 ⊢
      go_wp2_with fail
      refine (num_any _ _).mono ?_
      rintro e w' ⟨rfl, rfl⟩
      go_upto_region 13 with fail
      have d0 := blk_cell T4.out 0
      have r0 := blk_cell S4.out 0
      have q0 := blk_free S4.out 0
      have d1 := blk_cell T4.out 1
      have r1 := blk_cell S4.out 1
      have q1 := blk_free S4.out 1
      have d2 := blk_cell T4.out 2
      have r2 := blk_cell S4.out 2
      have q2 := blk_free S4.out 2
      have d3 := blk_cell T4.out 3
      have r3 := blk_cell S4.out 3
      have q3 := blk_free S4.out 3
      have d4 := blk_cell T4.out 4
      have r4 := blk_cell S4.out 4
      have q4 := blk_free S4.out 4
      have d5 := blk_cell T4.out 5
      have r5 := blk_cell S4.out 5
      have q5 := blk_free S4.out 5
      have d6 := blk_cell T4.out 6
      have r6 := blk_cell S4.out 6
      have q6 := blk_free S4.out 6
      have d7 := blk_cell T4.out 7
      have r7 := blk_cell S4.out 7
      have q7 := blk_free S4.out 7
      have d8 := blk_cell T4.out 8
      have r8 := blk_cell S4.out 8
      have q8 := blk_free S4.out 8
      have d9 := blk_cell T4.out 9
      have r9 := blk_cell S4.out 9
      have q9 := blk_free S4.out 9
      have d10 := blk_cell T4.out 10
      have r10 := blk_cell S4.out 10
      have q10 := blk_free S4.out 10
      have d11 := blk_cell T4.out 11
      have r11 := blk_cell S4.out 11
      have q11 := blk_free S4.out 11
      go_upto_region 14 with fail
      obtain ⟨RW, GW⟩ := set12 V4 V1.heap.size _ _ _ _ _ _ _ _ _ _ _ _ _ (.int .i64 t.phase) (.slice t.ra t.rl.length t.rc) (.bool t.hasRtt) (.int .i64 t.rtt) (.int .i64 t.rttAt) (.bool t.full) (.int .i64 t.fullRate) (.int .i64 t.fullRounds) (.int .i64 t.cycle) (.int .i64 t.cycleAt) (.int .i64 t.til) (.int .i64 t.round) S4.out
      have OW := Lib.hid (O4.out.grownN GW (by omega))
      have QW := Lib.hid (below_gr3 Q4.out hV1 GW)
      have SW := Lib.hid RW
      clear r0 q0 d0 r1 q1 d1 r2 q2 d2 r3 q3 d3 r4 q4 d4 r5 q5 d5 r6 q6 d6 r7 q7 d7 r8 q8 d8 r9 q9 d9 r10 q10 d10 r11 q11 d11 RW GW S4 T4 Q4 O4
      generalize ((((((((((((V4).setCell ⟨V1.heap.size, 0, none⟩ (.int .i64 t.phase)).setCell ⟨V1.heap.size, 1, none⟩ (.slice t.ra t.rl.length t.rc)).setCell ⟨V1.heap.size, 2, none⟩ (.bool t.hasRtt)).setCell ⟨V1.heap.size, 3, none⟩ (.int .i64 t.rtt)).setCell ⟨V1.heap.size, 4, none⟩ (.int .i64 t.rttAt)).setCell ⟨V1.heap.size, 5, none⟩ (.bool t.full)).setCell ⟨V1.heap.size, 6, none⟩ (.int .i64 t.fullRate)).setCell ⟨V1.heap.size, 7, none⟩ (.int .i64 t.fullRounds)).setCell ⟨V1.heap.size, 8, none⟩ (.int .i64 t.cycle)).setCell ⟨V1.heap.size, 9, none⟩ (.int .i64 t.cycleAt)).setCell ⟨V1.heap.size, 10, none⟩ (.int .i64 t.til)).setCell ⟨V1.heap.size, 11, none⟩ (.int .i64 t.round) = W at SW OW QW ⊢
      have w5 : wrap64 (4 * v) = 4 * v := IntWalk.wrap64_in _ ⟨by omega, by omega⟩
      have w6 : wrap64 (5 * b) = 5 * b := IntWalk.wrap64_in _ ⟨by omega, by omega⟩
      by_cases hm : 5 * b ≤ 4 * v
      case pos =>
        have NX := Lib.hid (LM.out hm)
        have g0 : W.cell? ⟨V1.heap.size, 0, none⟩ = some (.int .i64 0) := by rw [blk_cell SW.out 0]; exact congrArg (fun z => some (Value.int .i64 z)) NX.out.phase
        go_wp2
        go_roundw
        case rel => exact ⟨i + 1, v, v, 0, t, by omega, by omega, rfl, rfl, rfl, by go_num, HRB2, ⟨hv0, hv1⟩, by decide, NX, OW.out, SW.out, QW.out⟩
        case measure => simp [intOf]; omega
      case neg =>
        obtain ⟨n1, n2, n3, n4⟩ := LL.out (by omega)
        by_cases hf2 : f = 2
        case pos =>
          have g0 : W.cell? ⟨V1.heap.size, 0, none⟩ = some (.int .i64 1) := by rw [blk_cell SW.out 0]; exact congrArg (fun z => some (Value.int .i64 z)) (n2.trans (if_pos hf2))
          have g5 : W.cell? ⟨V1.heap.size, 5, none⟩ = some (.bool true) := by rw [blk_cell SW.out 5]; exact congrArg (fun z => some (Value.bool z)) (n3.trans (decide_eq_true hf2))
          subst hf2
          clear n1 n2 n3 n4 hf0 hf1
          go_wp2
          go_ret
          exact ⟨rfl, QW.out⟩
        case neg =>
          have NX := Lib.hid (n4 hf2)
          have g0 : W.cell? ⟨V1.heap.size, 0, none⟩ = some (.int .i64 0) := by rw [blk_cell SW.out 0]; exact congrArg (fun z => some (Value.int .i64 z)) NX.out.phase
          have hf3 : f + 1 < 3 := by omega
          have hf4 : ¬ 3 ≤ f + 1 := by omega
          clear n1 n2 n3 n4
          go_wp2
          go_roundw
          case rel => exact ⟨i + 1, v, b, f + 1, t, by omega, by omega, rfl, rfl, by first | rfl | go_num, by go_num, HRB2, ⟨hb0, hb1⟩, by omega, NX, OW.out, SW.out, QW.out⟩
          case measure => simp [intOf]; omega

theorem own : ownKnob Try.prog.godebug = none := by kernel_rfl
theorem laidOut : laidOutB Try.prog = true := by kernel_rfl

set_option maxRecDepth 100000 in
set_option maxHeartbeats 2000000 in
theorem lifted (os : Os) (started : os.Started) (H : Type) (enc : TypeId × Value → H) :
    ReturnsInHanded {} Try.checked os 6 .any (Rows.bbrStartupSpec.pre6 enc Try.prog Try.f6 Rows.bbrStartupRow.domain false) (Rows.bbrStartupSpec.post enc Try.prog Try.f6 false true false false) := by
  refine returnsInHanded_of_change_sized (C := Try.checked) own started (by kernel_rfl) Try.func6
    (ChangeSpec.witness6 (enc := enc) (C := Try.checked) false ⟨#[], #[.int .i64 0, .slice none 0 0, .int .i64 0], []⟩ 8 (by kernel_rfl) (by kernel_rfl) (by kernel_rfl) (by kernel_rfl)) ?_
  intro W base args ds gs before hval0 hW hcnd hsz0 _
  have hval : ∀ (j : Nat) t v, Try.f6.params[j]? = some t → args[j]? = some v → Value.okWide Try.prog W .any base t v := hval0
  have hsz : (DataW.weightsEach Try.prog (Try.f6.params.toList ++ Rows.bbrStartupSpec.plain.varTypes Try.prog) (ds ++ gs)).all (· ≤ reachBytes) = true := hsz0
  have hW' := hW
  obtain ⟨p, q, hA0, hV, rfl, hfz, hnd⟩ := hW
  have hA : DataW.TrodAll enc Try.prog W 0 (fun _ => true) true Try.f6.params.toList args.toList ds p := hA0
  rw [Try.params6] at hA hval hsz
  obtain ⟨v0, vs0, d0, ds0, p0, q0, hargs, rfl, rfl, h0, r0⟩ := trodAll_cons hA
  obtain ⟨v1, vs1, d1, ds1, p1, q1, rfl, rfl, rfl, h1, r1⟩ := trodAll_cons r0
  obtain ⟨v2, vs2, d2, ds2, p2, q2, rfl, rfl, rfl, h2, r2⟩ := trodAll_cons r1
  obtain ⟨rfl, rfl, rfl⟩ := trodAll_nil r2
  obtain rfl : args = #[v0, v1, v2] := by cases args; simp_all
  obtain ⟨rfl, rfl⟩ := trodVars_none hV
  obtain ⟨a0, rfl, rfl, rfl, w0⟩ := open_int Try.underlying3 (hval 0 3 v0 rfl rfl) h0
  obtain ⟨a1, len1, cap1, rfl⟩ := okWide_slice Try.underlying34 (hval 1 34 v1 rfl rfl)
  have k1 := h1
  have lt1 : ∀ x ∈ p1, x.block < W.heap.size := by obtain ⟨m, hm⟩ := k1; exact DataW.trod_lt m _ _ _ hm
  obtain ⟨a2, rfl, rfl, rfl, w2⟩ := open_int Try.underlying3 (hval 2 3 v2 rfl rfl) h2
  obtain ⟨xs1, hxl1, hbt1, hcap1, hre1⟩ : ∃ xs : List Int, xs.length = len1 ∧ Its W a1 xs ∧ (a1 = none → cap1 = 0) ∧ xs.length ≤ 17592186043904 := by
    obtain ⟨fuel, hf⟩ := h1
    rcases open_ints Try.underlying34 Try.underlying3 (by kernel_rfl) hf with ⟨hcs, _⟩ | ⟨x, l, c, zs, hcs, _, hl, hm, hz, hd, hcell, hwz⟩
    · simp [Value.cells] at hcs
      obtain ⟨rfl, rfl, rfl⟩ := hcs
      exact ⟨[], rfl, ⟨(fun x h => by cases h), .inl rfl⟩, fun _ => rfl, by simp⟩
    · simp [Value.cells] at hcs
      obtain ⟨rfl, rfl, rfl⟩ := hcs
      have hz' : zs.length = cap1 := by simpa using hz
      obtain ⟨xs, h1, h2⟩ := its_of_ints hl hz' hcell hwz
      have hd' := (Prod.mk.inj hd).1
      have hw := sized_slice hsz (j := 1) (t := 34) (e := 3) rfl (by rw [hd']; rfl) Try.underlying34
      rw [bytes8] at hw
      simp only [lits, List.length_map, List.length_take, List.length_drop, reachBytes] at hw
      exact ⟨xs, h1, h2, (fun h => by cases h), by omega⟩
  clear hA0 hval0 hsz hsz0
  obtain ⟨lo0, hi0⟩ := bounds_i64 w0
  subst hxl1
  obtain ⟨lo2, hi2⟩ := bounds_i64 w2
  refine (walk a0 a1 xs1 cap1 a2 W lo0 hi0 hbt1 hcap1 hre1 lo2 hi2).mono fun e W' ⟨he, bel⟩ => ?_
  subst he
  exact ⟨_, rfl, _, _, _, [], _, [], hW', trodAll_mk1 (shut_bool Try.underlying4 _), (trodAll_cons_mk (shut_int Try.underlying3 w0) (trodAll_cons_mk (Below.trod laidOut (by kernel_rfl) (of_decide_eq_true (by kernel_rfl)) k1 bel lt1) (trodAll_cons_mk (shut_int Try.underlying3 w2) trodAll_mk0))), rfl, bel.frame _, fun h => by cases h⟩

theorem over : Rows.bbrStartupRow.holds Try.pinned (OpenSpec.ofChange Rows.bbrStartupSpec) :=
  OpenClaim.holds_of_wide 6 Try.f6 rfl rfl rfl rfl rfl rfl rfl ⟨rfl, rfl, rfl, rfl, rfl⟩ rfl rfl rfl rfl rfl (by kernel_rfl) Try.func6 (by kernel_rfl)
    (of_decide_eq_true (by kernel_rfl)) (by unfold Func.isWrapper; first | (rw [if_pos (by decide +kernel)]; kernel_rfl) | (rw [if_neg (by decide +kernel)]; exact ⟨rfl, rfl⟩))
    (fun os started H enc _ => lifted os started H enc)

end Go.Proofs.Ytokoogohdfepiaa.bbrStartup
namespace Go.Proofs.Ytokoogohdfepiaa
/-- The statement. -/
theorem bbrStartup_holds : Rows.BbrStartupSaid := bbrStartup.over
#print axioms bbrStartup_holds
end Go.Proofs.Ytokoogohdfepiaa
