/- Scoreboard: is an octet lost: the document's own way, and the program's, by one word. -/
import Derived.Test.YtcachmjcninkbaaScS
namespace Go.Proofs.Ytcachmjcninkbaa
open Go.RowKit Go.Sort Go.BigFrame

set_option maxRecDepth 100000 in
set_option maxHeartbeats 1000000 in
theorem rckm_any (una nxt high : Nat) (a : Option Addr) (bs : List (Nat × Nat)) (c : Nat) (mss : Int) (w : World) (hu : una < 4294967296) (h : Sts 2 BC Tr w a bs) (hlen : bs.length ≤ 35184372088832) :
    Calls Try.prog 38 #[.agg #[.int .u32 (una : Nat), .int .u32 (nxt : Nat), .int .u32 (high : Nat), .slice a bs.length c], .int .i64 mss] w fun e w' => e = .returned (.int .i64 (ckE una nxt high bs mss)) ∧ Below w.heap.size w w' := by
  have HL := Lib.hid h
  clear h
  go_enter Try.func38, Try.ntmps38
  go_upto_region 1 with fail
  have Q0 := Lib.hid ((Below.refl w.heap.size w).alloc (Nat.le_refl _) (.cells #[.int .u32 (una : Nat), .int .u32 (nxt : Nat), .int .u32 (high : Nat), .slice a bs.length c] 25))
  have S0 := Lib.hid (blk_new w (.cells #[.int .u32 (una : Nat), .int .u32 (nxt : Nat), .int .u32 (high : Nat), .slice a bs.length c] 25))
  generalize w.alloc (.cells #[.int .u32 (una : Nat), .int .u32 (nxt : Nat), .int .u32 (high : Nat), .slice a bs.length c] 25) = V0 at Q0 S0 ⊢
  have c0 := blk_cell S0.out 0
  have c1 := blk_cell S0.out 1
  have c2 := blk_cell S0.out 2
  have c3 := blk_cell S0.out 3
  obtain ⟨E, hE⟩ : ∃ E, chkE una nxt high bs = E := ⟨_, rfl⟩
  have HE := Lib.hid hE
  go_wp2_with fail
  refine (rcheck_any una nxt high a bs c V0 hu (Sts.belowT HL.out Q0.out) hlen).mono ?_
  rintro e V1 ⟨rfl, hB⟩
  rw [HE.out]
  have Q1 := Lib.hid (Q0.out.trans (hB.mono Q0.out.size))
  clear hB hE c0 c1 c2 c3
  by_cases hk : okS una nxt high bs = true
  case neg =>
    have h1 : E = 171 := by rw [← HE.out]; unfold chkE; rw [if_neg hk]
    have h2 : ckE una nxt high bs mss = 171 := by unfold ckE; rw [if_neg hk]
    subst h1
    have H2 := Lib.hid h2
    clear h2 hk
    go_wp2
    go_ret
    exact ⟨by rw [H2.out]; rfl, Q1.out⟩
  case pos =>
    have h1 : E = 0 := by rw [← HE.out]; unfold chkE; rw [if_pos hk]
    have h2 : ckE una nxt high bs mss = if 1 ≤ mss ∧ mss ≤ 65535 then 0 else 4 := by unfold ckE; rw [if_pos hk]
    subst h1
    have H2 := Lib.hid h2
    clear h2 hk
    by_cases m1 : 1 ≤ mss
    case neg =>
      have k1 : mss < 1 := by omega
      have H3 : Hid (ckE una nxt high bs mss = 4) := Lib.hid (by rw [H2.out, if_neg (fun h => m1 h.1)])
      clear m1
      go_wp2
      go_ret
      exact ⟨by rw [H3.out]; rfl, Q1.out⟩
    case pos =>
      have k1 : ¬ mss < 1 := by omega
      by_cases m2 : mss ≤ 65535
      case neg =>
        have k2 : 65535 < mss := by omega
        have H3 : Hid (ckE una nxt high bs mss = 4) := Lib.hid (by rw [H2.out, if_neg (fun h => m2 h.2)])
        clear m1 m2
        go_wp2
        go_ret
        exact ⟨by rw [H3.out]; rfl, Q1.out⟩
      case pos =>
        have k2 : ¬ 65535 < mss := by omega
        have H3 : Hid (ckE una nxt high bs mss = 0) := Lib.hid (by rw [H2.out, if_pos ⟨m1, m2⟩])
        clear m1 m2
        go_wp2
        go_ret
        exact ⟨by rw [H3.out]; rfl, Q1.out⟩

/-- What Lost answers. -/
def loB (una nxt high : Nat) (bs : List (Nat × Nat)) (mss : Int) (y : Nat) : Bool := if ckE una nxt high bs mss = 0 ∧ pl una y < pl una nxt then lsB mss (pl una y) (hol (pl una nxt) 0 (sps una bs)) else false
def loE (una nxt high : Nat) (bs : List (Nat × Nat)) (mss : Int) (y : Nat) : Int := if ckE una nxt high bs mss = 0 then (if pl una y < pl una nxt then 0 else 151) else ckE una nxt high bs mss
set_option maxRecDepth 100000 in
set_option maxHeartbeats 2000000 in
theorem rLost_any (una nxt high : Nat) (a : Option Addr) (bs : List (Nat × Nat)) (c : Nat) (mss : Int) (y : Nat) (w : World) (hu : una < 4294967296) (h : Sts 2 BC Tr w a bs) (hv : small2 bs) (hlen : bs.length ≤ 35184372088832) :
    Calls Try.prog 11 #[.agg #[.int .u32 (una : Nat), .int .u32 (nxt : Nat), .int .u32 (high : Nat), .slice a bs.length c], .int .i64 mss, .int .u32 (y : Nat)] w fun e w' => e = .returned (.tuple #[.bool (loB una nxt high bs mss y), .int .i64 (loE una nxt high bs mss y)]) ∧ Below w.heap.size w w' := by
  have HL := Lib.hid h
  have HV := Lib.hid hv
  have wy := pl_wrap (x := y) hu
  have wy2 := u32_i64 (pl_lt una y)
  have HSZ := Lib.hid (fun V => rsize_any una nxt high a bs.length c V hu)
  obtain ⟨E, hE⟩ : ∃ E, ckE una nxt high bs mss = E := ⟨_, rfl⟩
  obtain ⟨p, hp⟩ : ∃ z, pl una y = z := ⟨_, rfl⟩
  obtain ⟨st, hst⟩ : ∃ z, pl una nxt = z := ⟨_, rfl⟩
  have HE := Lib.hid hE
  have HP := Lib.hid hp
  have HST := Lib.hid hst
  rw [hp] at wy wy2
  rw [hst] at HSZ
  clear h hv hE hp hst
  go_enter Try.func11, Try.ntmps11
  go_upto_region 1 with fail
  have S0 := Lib.hid (blk_new w (.cells #[.int .u32 (una : Nat), .int .u32 (nxt : Nat), .int .u32 (high : Nat), .slice a bs.length c] 25))
  have Q0 := Lib.hid ((Below.refl w.heap.size w).alloc (Nat.le_refl _) (.cells #[.int .u32 (una : Nat), .int .u32 (nxt : Nat), .int .u32 (high : Nat), .slice a bs.length c] 25))
  generalize w.alloc (.cells #[.int .u32 (una : Nat), .int .u32 (nxt : Nat), .int .u32 (high : Nat), .slice a bs.length c] 25) = V0 at S0 Q0 ⊢
  have c0 := blk_cell S0.out 0
  have c1 := blk_cell S0.out 1
  have c2 := blk_cell S0.out 2
  have c3 := blk_cell S0.out 3
  go_wp2_with fail
  refine (rckm_any una nxt high a bs c mss V0 hu (Sts.belowT HL.out Q0.out) hlen).mono ?_
  rintro e V1 ⟨rfl, hB⟩
  rw [HE.out]
  have S1 := Lib.hid ((hB.block _ (blk_lt S0.out)).trans S0.out)
  have Q1 := Lib.hid (Q0.out.trans (hB.mono Q0.out.size))
  clear hB c0 c1 c2 c3 S0 Q0
  by_cases h0 : E = 0
  case neg =>
    have h1 : Hid (loB una nxt high bs mss y = false ∧ loE una nxt high bs mss y = E) := Lib.hid (by unfold loB loE; rw [HE.out, if_neg h0, if_neg (fun h => h0 h.1)]; exact ⟨rfl, rfl⟩)
    go_wp2
    go_ret2
    exact ⟨by rw [h1.out.1, h1.out.2]; rfl, Q1.out⟩
  case pos =>
  subst h0
  obtain ⟨hok, hm⟩ := ck_ok HE.out
  obtain ⟨k1, _, k3, k4⟩ := okS_iff.1 hok
  rw [HST.out] at k1 k4
  have HOK := Lib.hid k4
  clear hok k4
  have c0 := blk_cell S1.out 0
  have c1 := blk_cell S1.out 1
  have c2 := blk_cell S1.out 2
  have c3 := blk_cell S1.out 3
  by_cases h2 : p < st
  case neg =>
    have d1 : (st : Int) ≤ (p : Int) := by omega
    have d2 : decide ((st : Int) ≤ (p : Int)) = true := decide_eq_true d1
    have d3 : decide (st ≤ p) = true := decide_eq_true (by omega)
    have h1 : Hid (loB una nxt high bs mss y = false ∧ loE una nxt high bs mss y = 151) := Lib.hid (by unfold loB loE; rw [HE.out, HP.out, HST.out, if_pos rfl, if_neg h2, if_neg (fun h => h2 h.2)]; exact ⟨rfl, rfl⟩)
    clear h2
    go_upto_region 4 with fail
    have qc0 := cell_regrown (show V1.cell? ⟨w.heap.size, 0, none⟩ = some (.int .u32 (una : Nat)) from c0)
    have qc1 := cell_regrown (show V1.cell? ⟨w.heap.size, 1, none⟩ = some (.int .u32 (nxt : Nat)) from c1)
    have qc2 := cell_regrown (show V1.cell? ⟨w.heap.size, 2, none⟩ = some (.int .u32 (high : Nat)) from c2)
    have qc3 := cell_regrown (show V1.cell? ⟨w.heap.size, 3, none⟩ = some (.slice a bs.length c) from c3)
    have cS : ∀ d os, Calls Try.prog 39 #[.agg #[.int .u32 (una : Nat), .int .u32 (nxt : Nat), .int .u32 (high : Nat), .slice a bs.length c]] (grow (redrawn V1 d) os) fun e w'' => e = .returned (.int .i64 (st : Nat)) ∧ ∃ p : Regrown, w'' = grow (redrawn V1 p.d) p.os := fun d os => Calls.regrown_of (HSZ.out _)
    refine wp_region_quiet_below (by kernel_rfl) (by kernel_rfl) ?_
    repeat (go_big_quiet_step (first | (go_at_call 39; exact cS _ _)))
    refine wpQuiet_nil ?_
    intro _ hw'
    obtain ⟨⟨dq, osq⟩, hw''⟩ := hw'
    subst hw''
    have hB := below_regrown V1 dq osq
    clear qc0 qc1 qc2 qc3 cS
    dsimp only
    generalize grow (redrawn V1 dq) osq = V2 at hB ⊢
    go_wp2
    go_ret2
    exact ⟨by rw [h1.out.1, h1.out.2]; rfl, Q1.out.trans (hB.mono Q1.out.size)⟩
  case pos =>
    have d1 : ¬ ((st : Int) ≤ (p : Int)) := by omega
    have d2 : decide ((st : Int) ≤ (p : Int)) = false := decide_eq_false d1
    have d3 : decide (st ≤ p) = false := decide_eq_false (by omega)
    have h1 : Hid (loB una nxt high bs mss y = (!hasB p (sps una bs) && lostP mss p (sps una bs)) ∧ loE una nxt high bs mss y = 0) := Lib.hid (by unfold loB loE; rw [HE.out, HP.out, HST.out, if_pos rfl, if_pos h2, if_pos ⟨rfl, h2⟩, lost_is mss HOK.out h2]; exact ⟨rfl, rfl⟩)
    clear h2
    go_upto_region 4 with fail
    have qc0 := cell_regrown (show V1.cell? ⟨w.heap.size, 0, none⟩ = some (.int .u32 (una : Nat)) from c0)
    have qc1 := cell_regrown (show V1.cell? ⟨w.heap.size, 1, none⟩ = some (.int .u32 (nxt : Nat)) from c1)
    have qc2 := cell_regrown (show V1.cell? ⟨w.heap.size, 2, none⟩ = some (.int .u32 (high : Nat)) from c2)
    have qc3 := cell_regrown (show V1.cell? ⟨w.heap.size, 3, none⟩ = some (.slice a bs.length c) from c3)
    have cS : ∀ d os, Calls Try.prog 39 #[.agg #[.int .u32 (una : Nat), .int .u32 (nxt : Nat), .int .u32 (high : Nat), .slice a bs.length c]] (grow (redrawn V1 d) os) fun e w'' => e = .returned (.int .i64 (st : Nat)) ∧ ∃ p : Regrown, w'' = grow (redrawn V1 p.d) p.os := fun d os => Calls.regrown_of (HSZ.out _)
    refine wp_region_quiet_below (by kernel_rfl) (by kernel_rfl) ?_
    repeat (go_big_quiet_step (first | (go_at_call 39; exact cS _ _)))
    refine wpQuiet_nil ?_
    intro _ hw'
    obtain ⟨⟨dq, osq⟩, hw''⟩ := hw'
    subst hw''
    have hB := below_regrown V1 dq osq
    clear qc0 qc1 qc2 qc3 cS
    dsimp only
    generalize grow (redrawn V1 dq) osq = V2 at hB ⊢
    have S2 := Lib.hid ((hB.block _ (blk_lt S1.out)).trans S1.out)
    have Q2 := Lib.hid (Q1.out.trans (hB.mono Q1.out.size))
    clear hB c0 c1 c2 c3 S1 Q1
    have c0 := blk_cell S2.out 0
    have c1 := blk_cell S2.out 1
    have c2 := blk_cell S2.out 2
    have c3 := blk_cell S2.out 3
    go_wp2_with fail
    refine (rhas_any una nxt high a bs c y V2 (Sts.belowT HL.out Q2.out) HV.out k3 HOK.out).mono ?_
    rintro e V3 ⟨rfl, hB⟩
    rw [HP.out]
    have S3 := Lib.hid ((hB.block _ (blk_lt S2.out)).trans S2.out)
    have Q3 := Lib.hid (Q2.out.trans (hB.mono Q2.out.size))
    clear hB c0 c1 c2 c3 S2 Q2
    obtain ⟨hb, hhb⟩ : ∃ z, hasB p (sps una bs) = z := ⟨_, rfl⟩
    have h2 : Hid (loB una nxt high bs mss y = (!hb && lostP mss p (sps una bs))) := Lib.hid (by rw [h1.out.1, hhb])
    rw [hhb]
    clear hhb
    cases hb
    case true =>
      go_wp2
      go_ret2
      exact ⟨by rw [h2.out, h1.out.2]; rfl, Q3.out⟩
    case false =>
      have c0 := blk_cell S3.out 0
      have c1 := blk_cell S3.out 1
      have c2 := blk_cell S3.out 2
      have c3 := blk_cell S3.out 3
      go_wp2_with fail
      refine (rlost_any una nxt high a bs c y mss V3 hu (Sts.belowT HL.out Q3.out) HV.out k3 hm k1 HOK.out).mono ?_
      rintro e V4 ⟨rfl, hB⟩
      rw [HP.out]
      have Q4 := Lib.hid (Q3.out.trans (hB.mono Q3.out.size))
      clear hB
      go_wp2
      go_ret2
      exact ⟨by rw [h2.out, h1.out.2]; rfl, Q4.out⟩

set_option maxRecDepth 100000 in
set_option maxHeartbeats 2000000 in
theorem plost_any (una nxt high : Nat) (a : Option Addr) (bs : List (Nat × Nat)) (c : Nat) (mss : Int) (y : Nat) (w : World) (hu : una < 4294967296) (h : Sts 2 BC Tr w a bs) (hlen : bs.length ≤ 35184372088832) :
    Calls Try.prog 10 #[.agg #[.int .u32 (una : Nat), .int .u32 (nxt : Nat), .int .u32 (high : Nat), .slice a bs.length c], .int .i64 mss, .int .u32 (y : Nat)] w fun e w' => e = .returned (.tuple #[.bool (loB una nxt high bs mss y), .int .i64 (loE una nxt high bs mss y)]) ∧ Below w.heap.size w w' := by
  by_cases hg : ckE una nxt high bs mss = 0 ∧ pl una y < pl una nxt
  case pos =>
    have := lost_ok una nxt high a bs c mss y w hu h hlen hg.1 hg.2
    unfold loB loE
    rw [if_pos hg, if_pos hg.1, if_pos hg.2]
    exact this
  case neg =>
  have HB : Hid (loB una nxt high bs mss y = false) := Lib.hid (by unfold loB; rw [if_neg hg])
  have HL := Lib.hid h
  have HPX := Lib.hid (fun V => place_any una nxt high a bs.length c y V hu)
  have HPN := Lib.hid (fun V => place_any una nxt high a bs.length c nxt V hu)
  obtain ⟨E, hE⟩ : ∃ E, ckE una nxt high bs mss = E := ⟨_, rfl⟩
  obtain ⟨p, hp⟩ : ∃ z, pl una y = z := ⟨_, rfl⟩
  obtain ⟨st, hst⟩ : ∃ z, pl una nxt = z := ⟨_, rfl⟩
  have HE := Lib.hid hE
  have HEE : Hid (loE una nxt high bs mss y = if E = 0 then (if p < st then 0 else 151) else E) := Lib.hid (by unfold loE; rw [hE, hp, hst])
  rw [hE, hp, hst] at hg
  rw [hp] at HPX
  rw [hst] at HPN
  clear h hE hp hst
  go_enter Try.func10, Try.ntmps10
  go_upto_region 1 with fail
  have S0 := Lib.hid (blk_new w (.cells #[.int .u32 (una : Nat), .int .u32 (nxt : Nat), .int .u32 (high : Nat), .slice a bs.length c] 26))
  have Q0 := Lib.hid ((Below.refl w.heap.size w).alloc (Nat.le_refl _) (.cells #[.int .u32 (una : Nat), .int .u32 (nxt : Nat), .int .u32 (high : Nat), .slice a bs.length c] 26))
  generalize w.alloc (.cells #[.int .u32 (una : Nat), .int .u32 (nxt : Nat), .int .u32 (high : Nat), .slice a bs.length c] 26) = V0 at S0 Q0 ⊢
  have c0 := blk_cell S0.out 0
  have c1 := blk_cell S0.out 1
  have c2 := blk_cell S0.out 2
  have c3 := blk_cell S0.out 3
  go_wp2_with fail
  refine (check_mss una nxt high a bs c mss V0 hu (Sts.belowT HL.out Q0.out) hlen).mono ?_
  rintro e V1 ⟨rfl, hB⟩
  rw [HE.out]
  have S1 := Lib.hid ((hB.block _ (blk_lt S0.out)).trans S0.out)
  have Q1 := Lib.hid (Q0.out.trans (hB.mono Q0.out.size))
  clear hB c0 c1 c2 c3 S0 Q0
  by_cases h0 : E = 0
  case neg =>
    have HE2 : Hid (loE una nxt high bs mss y = E) := Lib.hid (by rw [HEE.out, if_neg h0])
    go_wp2
    go_ret2
    exact ⟨by rw [HB.out, HE2.out]; rfl, Q1.out⟩
  case pos =>
    have h2 : ¬ p < st := fun h => hg ⟨h0, h⟩
    have HE2 : Hid (loE una nxt high bs mss y = 151) := Lib.hid (by rw [HEE.out, if_pos h0, if_neg h2])
    have d1 : (st : Int) ≤ (p : Int) := by omega
    have d2 : decide ((st : Int) ≤ (p : Int)) = true := decide_eq_true d1
    have d3 : decide (st ≤ p) = true := decide_eq_true (by omega)
    subst h0
    clear hg h2 HEE
    have c0 := blk_cell S1.out 0
    have c1 := blk_cell S1.out 1
    have c2 := blk_cell S1.out 2
    have c3 := blk_cell S1.out 3
    go_wp2_with fail
    refine (HPX.out V1).mono ?_
    rintro e V2 ⟨rfl, hB⟩
    have hb3 := (Below.refl V2.heap.size V2).alloc (Nat.le_refl _) (.cells #[.int .i64 (p : Nat)] 3)
    have H3 := Lib.hid (blk_new V2 (.cells #[.int .i64 (p : Nat)] 3))
    have S3 := Lib.hid ((hb3.block _ (Nat.lt_of_lt_of_le (blk_lt S1.out) hB.size)).trans ((hB.block _ (blk_lt S1.out)).trans S1.out))
    have Q3 := Lib.hid ((Q1.out.trans (hB.mono Q1.out.size)).trans (hb3.mono (Nat.le_trans Q1.out.size hB.size)))
    clear hB hb3 c0 c1 c2 c3 S1 Q1
    go_upto_region 5 with fail
    obtain ⟨q, hq⟩ : ∃ q, V2.heap.size = q := ⟨_, rfl⟩
    generalize V2.alloc (.cells #[.int .i64 (p : Nat)] 3) = V3 at H3 S3 Q3 ⊢
    rw [hq] at H3 ⊢
    clear hq
    have c0 := blk_cell S3.out 0
    have c1 := blk_cell S3.out 1
    have c2 := blk_cell S3.out 2
    have c3 := blk_cell S3.out 3
    have z0 := blk_cell H3.out 0
    have qc0 := cell_regrown (show V3.cell? ⟨w.heap.size, 0, none⟩ = some (.int .u32 (una : Nat)) from c0)
    have qc1 := cell_regrown (show V3.cell? ⟨w.heap.size, 1, none⟩ = some (.int .u32 (nxt : Nat)) from c1)
    have qc2 := cell_regrown (show V3.cell? ⟨w.heap.size, 2, none⟩ = some (.int .u32 (high : Nat)) from c2)
    have qc3 := cell_regrown (show V3.cell? ⟨w.heap.size, 3, none⟩ = some (.slice a bs.length c) from c3)
    have qz0 := cell_regrown (show V3.cell? ⟨q, 0, none⟩ = some (.int .i64 (p : Nat)) from z0)
    have cS : ∀ d os, Calls Try.prog 34 #[.agg #[.int .u32 (una : Nat), .int .u32 (nxt : Nat), .int .u32 (high : Nat), .slice a bs.length c], .int .u32 (nxt : Nat)] (grow (redrawn V3 d) os) fun e w'' => e = .returned (.int .i64 (st : Nat)) ∧ ∃ p : Regrown, w'' = grow (redrawn V3 p.d) p.os := fun d os => Calls.regrown_of (HPN.out _)
    refine wp_region_quiet_below (by kernel_rfl) (by kernel_rfl) ?_
    repeat (go_big_quiet_step (first | (go_at_call 34; exact cS _ _)))
    refine wpQuiet_nil ?_
    intro _ hw'
    obtain ⟨⟨dq, osq⟩, hw''⟩ := hw'
    subst hw''
    have hB := below_regrown V3 dq osq
    clear qc0 qc1 qc2 qc3 qz0 cS
    dsimp only
    generalize grow (redrawn V3 dq) osq = V4 at hB ⊢
    go_wp2
    go_ret2
    exact ⟨by rw [HB.out, HE2.out]; rfl, Q3.out.trans (hB.mono Q3.out.size)⟩
end Go.Proofs.Ytcachmjcninkbaa
