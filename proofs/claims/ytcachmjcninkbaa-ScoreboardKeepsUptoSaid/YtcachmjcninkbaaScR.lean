/- The document's scoreboard: size, Check. -/
import Derived.Test.YtcachmjcninkbaaScA
import Derived.Lib.QuietBelow
import Derived.BigQuiet
namespace Go.Proofs.Ytcachmjcninkbaa
open Go.RowKit Go.Sort Go.BigFrame

set_option maxRecDepth 100000 in
set_option maxHeartbeats 400000 in
theorem rsize_any (una nxt high : Nat) (a : Option Addr) (n c : Nat) (w : World) (hu : una < 4294967296) :
    Calls Try.prog 39 #[.agg #[.int .u32 (una : Nat), .int .u32 (nxt : Nat), .int .u32 (high : Nat), .slice a n c]] w fun e w' => e = .returned (.int .i64 (pl una nxt : Nat)) ∧ Below w.heap.size w w' := by
  have w1 := pl_wrap (x := nxt) hu
  have w2 := u32_i64 (pl_lt una nxt)
  obtain ⟨p, hp⟩ : ∃ p, pl una nxt = p := ⟨_, rfl⟩
  rw [hp] at w1 w2 ⊢
  go_enter Try.func39, Try.ntmps39
  go_wp2
  go_ret
  exact ⟨rfl, (Below.refl _ _).alloc (Nat.le_refl _) _⟩

set_option maxRecDepth 100000 in
set_option maxHeartbeats 2000000 in
theorem rcheck_any (una nxt high : Nat) (a : Option Addr) (bs : List (Nat × Nat)) (c : Nat) (w : World) (hu : una < 4294967296) (h : Sts 2 BC Tr w a bs) (_hlen : bs.length ≤ 35184372088832) :
    Calls Try.prog 18 #[.agg #[.int .u32 (una : Nat), .int .u32 (nxt : Nat), .int .u32 (high : Nat), .slice a bs.length c]] w fun e w' => e = .returned (.int .i64 (chkE una nxt high bs)) ∧ Below w.heap.size w w' := by
  have HL := Lib.hid h
  clear h
  have HSZ := Lib.hid (fun V => rsize_any una nxt high a bs.length c V hu)
  have w3 := pl_wrap (x := high) hu
  have w4 := u32_i64 (pl_lt una high)
  obtain ⟨st, hst⟩ : ∃ z, pl una nxt = z := ⟨_, rfl⟩
  obtain ⟨hi, hhi⟩ : ∃ z, pl una high = z := ⟨_, rfl⟩
  have hlt1 : st < 4294967296 := by rw [← hst]; exact pl_lt _ _
  have hun : chkE una nxt high bs = if (decide (st ≤ 1073741824) && (decide (hi ≤ st) && (decide (bs.length ≤ 1024) && okL st 0 (sps una bs)))) = true then 0 else 171 := by unfold chkE okS; rw [hst, hhi]
  rw [hst] at HSZ
  rw [hhi] at w3 w4
  have HUN := Lib.hid hun
  clear hst hhi hun
  go_enter Try.func18, Try.ntmps18
  go_upto_region 1 with fail
  have Q0 := Lib.hid ((Below.refl w.heap.size w).alloc (Nat.le_refl _) (.cells #[.int .u32 (una : Nat), .int .u32 (nxt : Nat), .int .u32 (high : Nat), .slice a bs.length c] 25))
  have S0 := Lib.hid (blk_new w (.cells #[.int .u32 (una : Nat), .int .u32 (nxt : Nat), .int .u32 (high : Nat), .slice a bs.length c] 25))
  generalize w.alloc (.cells #[.int .u32 (una : Nat), .int .u32 (nxt : Nat), .int .u32 (high : Nat), .slice a bs.length c] 25) = V0 at Q0 S0 ⊢
  have c0 := blk_cell S0.out 0
  have c1 := blk_cell S0.out 1
  have c2 := blk_cell S0.out 2
  have c3 := blk_cell S0.out 3
  by_cases h1 : st ≤ 1073741824
  case neg =>
    have hE : chkE una nxt high bs = 171 := by rw [HUN.out, decide_eq_false h1]; rfl
    have k1 : (1073741824 : Int) < (st : Int) := by omega
    have HE := Lib.hid hE
    clear h1 hE
    have qc0 := cell_regrown (show V0.cell? ⟨w.heap.size, 0, none⟩ = some (.int .u32 (una : Nat)) from c0)
    have qc1 := cell_regrown (show V0.cell? ⟨w.heap.size, 1, none⟩ = some (.int .u32 (nxt : Nat)) from c1)
    have qc2 := cell_regrown (show V0.cell? ⟨w.heap.size, 2, none⟩ = some (.int .u32 (high : Nat)) from c2)
    have qc3 := cell_regrown (show V0.cell? ⟨w.heap.size, 3, none⟩ = some (.slice a bs.length c) from c3)
    have cS : ∀ d os, Calls Try.prog 39 #[.agg #[.int .u32 (una : Nat), .int .u32 (nxt : Nat), .int .u32 (high : Nat), .slice a bs.length c]] (grow (redrawn V0 d) os) fun e w'' => e = .returned (.int .i64 (st : Nat)) ∧ ∃ p : Regrown, w'' = grow (redrawn V0 p.d) p.os := fun d os => Calls.regrown_of (HSZ.out _)
    refine wp_region_quiet_below (by kernel_rfl) (by kernel_rfl) ?_
    repeat (go_big_quiet_step (first | (go_at_call 39; exact cS _ _)))
    refine wpQuiet_nil ?_
    intro _ hw'
    obtain ⟨⟨dq, osq⟩, hw''⟩ := hw'
    subst hw''
    have hB := below_regrown V0 dq osq
    clear qc0 qc1 qc2 qc3 cS
    dsimp only
    generalize grow (redrawn V0 dq) osq = V1 at hB ⊢
    go_wp2
    go_ret
    exact ⟨by rw [HE.out]; rfl, Q0.out.trans (hB.mono Q0.out.size)⟩
  case pos =>
  have k1 : decide ((1073741824 : Int) < (st : Int)) = false := decide_eq_false (by omega)
  by_cases h2 : hi ≤ st
  case neg =>
    have hE : chkE una nxt high bs = 171 := by rw [HUN.out, decide_eq_false h2]; simp
    have k2 : (st : Int) < (hi : Int) := by omega
    have HE := Lib.hid hE
    clear h2 hE
    have qc0 := cell_regrown (show V0.cell? ⟨w.heap.size, 0, none⟩ = some (.int .u32 (una : Nat)) from c0)
    have qc1 := cell_regrown (show V0.cell? ⟨w.heap.size, 1, none⟩ = some (.int .u32 (nxt : Nat)) from c1)
    have qc2 := cell_regrown (show V0.cell? ⟨w.heap.size, 2, none⟩ = some (.int .u32 (high : Nat)) from c2)
    have qc3 := cell_regrown (show V0.cell? ⟨w.heap.size, 3, none⟩ = some (.slice a bs.length c) from c3)
    have cS : ∀ d os, Calls Try.prog 39 #[.agg #[.int .u32 (una : Nat), .int .u32 (nxt : Nat), .int .u32 (high : Nat), .slice a bs.length c]] (grow (redrawn V0 d) os) fun e w'' => e = .returned (.int .i64 (st : Nat)) ∧ ∃ p : Regrown, w'' = grow (redrawn V0 p.d) p.os := fun d os => Calls.regrown_of (HSZ.out _)
    refine wp_region_quiet_below (by kernel_rfl) (by kernel_rfl) ?_
    repeat (go_big_quiet_step (first | (go_at_call 39; exact cS _ _)))
    refine wpQuiet_nil ?_
    intro _ hw'
    obtain ⟨⟨dq, osq⟩, hw''⟩ := hw'
    subst hw''
    have hB := below_regrown V0 dq osq
    clear qc0 qc1 qc2 qc3 cS
    dsimp only
    generalize grow (redrawn V0 dq) osq = V1 at hB ⊢
    go_wp2
    go_ret
    exact ⟨by rw [HE.out]; rfl, Q0.out.trans (hB.mono Q0.out.size)⟩
  case pos =>
  have k2 : decide ((st : Int) < (hi : Int)) = false := decide_eq_false (by omega)
  have k2' : decide (st < hi) = false := decide_eq_false (by omega)
  by_cases h3 : bs.length ≤ 1024
  case neg =>
    have hE : chkE una nxt high bs = 171 := by rw [HUN.out, decide_eq_false h3]; simp
    have k3 : (1024 : Int) < (bs.length : Int) := by omega
    have HE := Lib.hid hE
    clear h3 hE
    have qc0 := cell_regrown (show V0.cell? ⟨w.heap.size, 0, none⟩ = some (.int .u32 (una : Nat)) from c0)
    have qc1 := cell_regrown (show V0.cell? ⟨w.heap.size, 1, none⟩ = some (.int .u32 (nxt : Nat)) from c1)
    have qc2 := cell_regrown (show V0.cell? ⟨w.heap.size, 2, none⟩ = some (.int .u32 (high : Nat)) from c2)
    have qc3 := cell_regrown (show V0.cell? ⟨w.heap.size, 3, none⟩ = some (.slice a bs.length c) from c3)
    have cS : ∀ d os, Calls Try.prog 39 #[.agg #[.int .u32 (una : Nat), .int .u32 (nxt : Nat), .int .u32 (high : Nat), .slice a bs.length c]] (grow (redrawn V0 d) os) fun e w'' => e = .returned (.int .i64 (st : Nat)) ∧ ∃ p : Regrown, w'' = grow (redrawn V0 p.d) p.os := fun d os => Calls.regrown_of (HSZ.out _)
    refine wp_region_quiet_below (by kernel_rfl) (by kernel_rfl) ?_
    repeat (go_big_quiet_step (first | (go_at_call 39; exact cS _ _)))
    refine wpQuiet_nil ?_
    intro _ hw'
    obtain ⟨⟨dq, osq⟩, hw''⟩ := hw'
    subst hw''
    have hB := below_regrown V0 dq osq
    clear qc0 qc1 qc2 qc3 cS
    dsimp only
    generalize grow (redrawn V0 dq) osq = V1 at hB ⊢
    go_wp2
    go_ret
    exact ⟨by rw [HE.out]; rfl, Q0.out.trans (hB.mono Q0.out.size)⟩
  case pos =>
  have k3 : decide ((1024 : Int) < (bs.length : Int)) = false := decide_eq_false (by omega)
  have k3' : decide (1024 < bs.length) = false := decide_eq_false (by omega)
  have HE : Hid (chkE una nxt high bs = if okL st 0 (sps una bs) = true then 0 else 171) := Lib.hid (by rw [HUN.out, decide_eq_true h1, decide_eq_true h2, decide_eq_true h3]; simp)
  have qc0 := cell_regrown (show V0.cell? ⟨w.heap.size, 0, none⟩ = some (.int .u32 (una : Nat)) from c0)
  have qc1 := cell_regrown (show V0.cell? ⟨w.heap.size, 1, none⟩ = some (.int .u32 (nxt : Nat)) from c1)
  have qc2 := cell_regrown (show V0.cell? ⟨w.heap.size, 2, none⟩ = some (.int .u32 (high : Nat)) from c2)
  have qc3 := cell_regrown (show V0.cell? ⟨w.heap.size, 3, none⟩ = some (.slice a bs.length c) from c3)
  have cS : ∀ d os, Calls Try.prog 39 #[.agg #[.int .u32 (una : Nat), .int .u32 (nxt : Nat), .int .u32 (high : Nat), .slice a bs.length c]] (grow (redrawn V0 d) os) fun e w'' => e = .returned (.int .i64 (st : Nat)) ∧ ∃ p : Regrown, w'' = grow (redrawn V0 p.d) p.os := fun d os => Calls.regrown_of (HSZ.out _)
  refine wp_region_quiet_below (by kernel_rfl) (by kernel_rfl) ?_
  repeat (go_big_quiet_step (first | (go_at_call 39; exact cS _ _)))
  refine wpQuiet_nil ?_
  intro _ hw'
  obtain ⟨⟨dq, osq⟩, hw''⟩ := hw'
  subst hw''
  have hB := below_regrown V0 dq osq
  clear qc0 qc1 qc2 qc3 cS
  dsimp only
  generalize grow (redrawn V0 dq) osq = V1 at hB ⊢
  have Q2 := Lib.hid (Q0.out.trans (hB.mono Q0.out.size))
  have S2 := Lib.hid ((hB.block _ (blk_lt S0.out)).trans S0.out)
  clear hB c0 c1 c2 c3 Q0 S0 w3 w4
  go_wp2_with fail
  clear k1 k2 k3 k2' k3' h1 h2
  go_loopw [3, 4] (fun ev iv wr => ∃ (i e : Nat), i ≤ bs.length ∧ e < 4294967296 ∧ iv = .int .i64 i ∧ ev = .int .i64 e ∧ Hid (okL st 0 (sps una bs) = okL st e ((sps una bs).drop i)) ∧ wr.heap[w.heap.size]? = some (.cells #[.int .u32 (una : Nat), .int .u32 (nxt : Nat), .int .u32 (high : Nat), .slice a bs.length c] 25 (0, 0)) ∧ Below w.heap.size w wr) (fun _ iv _ => bs.length - (intOf iv).toNat)
  case atStart => exact ⟨0, 0, by omega, by omega, rfl, rfl, Lib.hid rfl, S2.out, Q2.out⟩
  case round =>
    obtain ⟨i, e, hi2, he, rfl, rfl, HK, hS, hq⟩ := hrel
    have SR := Lib.hid hS
    have QR := Lib.hid hq
    have hgr := blk_lt hS
    clear hS hq S2 Q2
    have c0 := blk_cell SR.out 0
    have c1 := blk_cell SR.out 1
    have c2 := blk_cell SR.out 2
    have c3 := blk_cell SR.out 3
    by_cases hlt : i < bs.length
    case neg =>
      obtain rfl : i = bs.length := by omega
      have hE : chkE una nxt high bs = 0 := by rw [HE.out, HK.out, List.drop_of_length_le (by rw [sps_len]; omega)]; rfl
      have HE2 := Lib.hid hE
      clear hE
      go_wp2
      go_ret
      exact ⟨by rw [HE2.out]; rfl, QR.out⟩
    case pos =>
      have i1 : (i : Int) < (bs.length : Int) := by omega
      obtain ⟨x, hx⟩ : ∃ x, bs[i]? = some x := ⟨_, List.getElem?_eq_getElem hlt⟩
      obtain ⟨g, o, rfl, _, _⟩ := HL.out.isSomeT (by omega)
      obtain ⟨hg, p0, p1⟩ := b_at HL.out hx
      have m0 := (QR.out.cell (p := ⟨g, o + i * 2, none⟩) hg).trans p0
      have m1 := (QR.out.cell (p := ⟨g, o + i * 2 + 1, none⟩) hg).trans p1
      have hdr : (sps una bs).drop i = (pl una x.1, pl una x.2) :: (sps una bs).drop (i + 1) := by
        rw [List.drop_eq_getElem_cons (by rw [sps_len]; exact hlt)]
        congr 1
        simp only [sps, List.getElem_map]
        rw [(List.getElem?_eq_some_iff.1 hx).2]
      have u1 := pl_wrap (x := x.1) hu
      have u2 := pl_wrap (x := x.2) hu
      obtain ⟨xl, hxl⟩ : ∃ z, pl una x.1 = z := ⟨_, rfl⟩
      obtain ⟨xr, hxr⟩ : ∃ z, pl una x.2 = z := ⟨_, rfl⟩
      have hl1 : xl < 4294967296 := by rw [← hxl]; exact pl_lt _ _
      have hr1 : xr < 4294967296 := by rw [← hxr]; exact pl_lt _ _
      rw [hxl, hxr] at hdr
      rw [hxl] at u1
      rw [hxr] at u2
      have u3 := u32_i64 hl1
      have u4 := u32_i64 hr1
      have HK2 : Hid (okL st 0 (sps una bs) = (decide (e < xl) && (decide (xl < xr) && (decide (xr ≤ st) && okL st xr ((sps una bs).drop (i + 1)))))) := Lib.hid (by rw [HK.out, hdr]; rfl)
      clear p0 p1 hx hdr hxl hxr
      go_wp2_with fail
      go_quiet (fail)
      have Q1 := Lib.hid (below_drewN QR.out nq)
      have S1 := Lib.hid (blk_drewN SR.out nq)
      clear c0 c1 c2 c3 m0 m1 SR QR hgr
      generalize wr.drewN nq = V3 at Q1 S1 ⊢
      have c0 := blk_cell S1.out 0
      have c1 := blk_cell S1.out 1
      have c2 := blk_cell S1.out 2
      have c3 := blk_cell S1.out 3
      by_cases g1 : e < xl
      case neg =>
        have hE : chkE una nxt high bs = 171 := by rw [HE.out, HK2.out, decide_eq_false g1]; rfl
        have d1 : (xl : Int) ≤ (e : Int) := by omega
        have HE2 := Lib.hid hE
        clear hE g1
        go_wp2
        go_ret
        exact ⟨by rw [HE2.out]; rfl, Q1.out⟩
      case pos =>
      have d1 : ¬ ((xl : Int) ≤ (e : Int)) := by omega
      by_cases g2 : xl < xr
      case neg =>
        have hE : chkE una nxt high bs = 171 := by rw [HE.out, HK2.out, decide_eq_false g2]; simp
        have d2 : (xr : Int) ≤ (xl : Int) := by omega
        have HE2 := Lib.hid hE
        clear hE g1 g2
        go_wp2
        go_ret
        exact ⟨by rw [HE2.out]; rfl, Q1.out⟩
      case pos =>
      have d2 : ¬ ((xr : Int) ≤ (xl : Int)) := by omega
      go_wp2_with fail
      refine (HSZ.out V3).mono ?_
      rintro e5 V4 ⟨rfl, hB4⟩
      have S4 := Lib.hid ((hB4.block _ (blk_lt S1.out)).trans S1.out)
      have Q4 := Lib.hid (Q1.out.trans (hB4.mono Q1.out.size))
      clear hB4 c0 c1 c2 c3 S1 Q1
      by_cases g3 : xr ≤ st
      case neg =>
        have hE : chkE una nxt high bs = 171 := by rw [HE.out, HK2.out, decide_eq_false g3]; simp
        have d3 : (st : Int) < (xr : Int) := by omega
        have HE2 := Lib.hid hE
        clear hE g1 g2 g3
        go_wp2
        go_ret
        exact ⟨by rw [HE2.out]; rfl, Q4.out⟩
      case pos =>
      have d3 : ¬ ((st : Int) < (xr : Int)) := by omega
      have HK3 : Hid (okL st 0 (sps una bs) = okL st xr ((sps una bs).drop (i + 1))) := Lib.hid (by rw [HK2.out, decide_eq_true g1, decide_eq_true g2, decide_eq_true g3]; rfl)
      clear g1 g2 g3 HK2
      go_wp2_with fail
      go_roundw
      case rel => exact ⟨i + 1, xr, by omega, hr1, by go_num, rfl, HK3, S4.out, Q4.out⟩
      case measure => simp [intOf]; omega
end Go.Proofs.Ytcachmjcninkbaa
