/- Hystart: what may be, on both sides. -/
import Derived.Test.YtfmjlcnpabpheaaGBase
import Derived.Test.YtfmjlcnpabpheaaHyM
import Derived.Lib.MinMax
import Derived.ProofKit
namespace Go.Proofs.Ytfmjlcnpabpheaa
open Go.RowKit Go.Proofs.Ytfmjlcnpabpheaa.Hy

set_option maxHeartbeats 400000 in
theorem isn_yes (n : Int) (w : World) (h : NV n) :
    Calls Try.prog 19 #[.int .i64 n] w fun e w' => e = .returned (.bool true) ∧ w = w' := by
  obtain ⟨h1, h2⟩ := h
  go_enter Try.func19, Try.ntmps19
  go_wp2
  go_ret
  exact ⟨rfl, rfl⟩

set_option maxHeartbeats 400000 in
theorem isn_no (n : Int) (w : World) (h : ¬ NV n) :
    Calls Try.prog 19 #[.int .i64 n] w fun e w' => e = .returned (.bool false) ∧ w = w' := by
  by_cases h1 : 0 ≤ n
  · have h2 : ¬ (n ≤ 1073741824) := by unfold NV at h; omega
    clear h
    go_enter Try.func19, Try.ntmps19
    go_wp2
    go_ret
    exact ⟨rfl, rfl⟩
  · clear h
    go_enter Try.func19, Try.ntmps19
    go_wp2
    go_ret
    exact ⟨rfl, rfl⟩

set_option maxHeartbeats 400000 in
theorem wit_yes (n : Int) (w : World) (h : NV n) :
    Calls Try.prog 21 #[.int .i64 n] w fun e w' => e = .returned (.bool true) ∧ w = w' := by
  obtain ⟨h1, h2⟩ := h
  go_enter Try.func21, Try.ntmps21
  go_wp2
  go_ret
  exact ⟨rfl, rfl⟩

set_option maxHeartbeats 400000 in
theorem wit_no (n : Int) (w : World) (h : ¬ NV n) :
    Calls Try.prog 21 #[.int .i64 n] w fun e w' => e = .returned (.bool false) ∧ w = w' := by
  by_cases h1 : 0 ≤ n
  · have h2 : ¬ (n ≤ 1073741824) := by unfold NV at h; omega
    clear h
    go_enter Try.func21, Try.ntmps21
    go_wp2
    go_ret
    exact ⟨rfl, rfl⟩
  · clear h
    go_enter Try.func21, Try.ntmps21
    go_wp2
    go_ret
    exact ⟨rfl, rfl⟩

set_option maxHeartbeats 2000000 in
theorem check_yes (s : HS) (w : World) (h : HV s) :
    Calls Try.prog 17 #[.agg #[.int .i64 s.p, .bool s.hl, .bool s.hn, .int .i64 s.la, .int .i64 s.no, .int .i64 s.sa, .int .i64 s.ba, .int .i64 s.ro]] w fun e w' => e = .returned (.int .i64 0) ∧ Below w.heap.size w w' := by
  obtain ⟨⟨p0, p1⟩, h1, h2, h3, h4, h5⟩ := h
  go_enter Try.func17, Try.ntmps17
  go_wp2_with fail
  have qa := (Below.refl w.heap.size w).alloc (Nat.le_refl _) (.cells #[.int .i64 s.p, .bool s.hl, .bool s.hn, .int .i64 s.la, .int .i64 s.no, .int .i64 s.sa, .int .i64 s.ba, .int .i64 s.ro] 24)
  generalize w.alloc (.cells #[.int .i64 s.p, .bool s.hl, .bool s.hn, .int .i64 s.la, .int .i64 s.no, .int .i64 s.sa, .int .i64 s.ba, .int .i64 s.ro] 24) = V at qa ⊢
  go_loop [24] (fun ii => ∃ k : Nat, k ≤ 5 ∧ ii = .int .i64 k) (fun ii => 5 - (intOf ii).toNat)
  case atStart => exact ⟨0, by omega, rfl⟩
  case round =>
    obtain ⟨k, hk, rfl⟩ := hrel
    obtain rfl | rfl | rfl | rfl | rfl | rfl : k = 0 ∨ k = 1 ∨ k = 2 ∨ k = 3 ∨ k = 4 ∨ k = 5 := by omega
    · have hx0 : ∀ W, (Instr.index 48 (.agg #[.int .i64 s.la, .int .i64 s.no, .int .i64 s.ba, .int .i64 s.sa, .int .i64 s.ro]) (.int .i64 0)).run Try.prog W = .ok (.int .i64 s.la) W := fun W => by simp [Instr.index, run_underlying Try.underlying48, asIntOf, go_sem]
      go_wp2_with fail
      refine (isn_yes s.la _ h1).mono ?_
      rintro e w' ⟨rfl, rfl⟩
      go_wp2_with fail
      go_round
      case rel => exact ⟨1, by omega, by go_num⟩
      case measure => simp [intOf]
    · have hx1 : ∀ W, (Instr.index 48 (.agg #[.int .i64 s.la, .int .i64 s.no, .int .i64 s.ba, .int .i64 s.sa, .int .i64 s.ro]) (.int .i64 1)).run Try.prog W = .ok (.int .i64 s.no) W := fun W => by simp [Instr.index, run_underlying Try.underlying48, asIntOf, go_sem]
      go_wp2_with fail
      refine (isn_yes s.no _ h2).mono ?_
      rintro e w' ⟨rfl, rfl⟩
      go_wp2_with fail
      go_round
      case rel => exact ⟨2, by omega, by go_num⟩
      case measure => simp [intOf]
    · have hx2 : ∀ W, (Instr.index 48 (.agg #[.int .i64 s.la, .int .i64 s.no, .int .i64 s.ba, .int .i64 s.sa, .int .i64 s.ro]) (.int .i64 2)).run Try.prog W = .ok (.int .i64 s.ba) W := fun W => by simp [Instr.index, run_underlying Try.underlying48, asIntOf, go_sem]
      go_wp2_with fail
      refine (isn_yes s.ba _ h3).mono ?_
      rintro e w' ⟨rfl, rfl⟩
      go_wp2_with fail
      go_round
      case rel => exact ⟨3, by omega, by go_num⟩
      case measure => simp [intOf]
    · have hx3 : ∀ W, (Instr.index 48 (.agg #[.int .i64 s.la, .int .i64 s.no, .int .i64 s.ba, .int .i64 s.sa, .int .i64 s.ro]) (.int .i64 3)).run Try.prog W = .ok (.int .i64 s.sa) W := fun W => by simp [Instr.index, run_underlying Try.underlying48, asIntOf, go_sem]
      go_wp2_with fail
      refine (isn_yes s.sa _ h4).mono ?_
      rintro e w' ⟨rfl, rfl⟩
      go_wp2_with fail
      go_round
      case rel => exact ⟨4, by omega, by go_num⟩
      case measure => simp [intOf]
    · have hx4 : ∀ W, (Instr.index 48 (.agg #[.int .i64 s.la, .int .i64 s.no, .int .i64 s.ba, .int .i64 s.sa, .int .i64 s.ro]) (.int .i64 4)).run Try.prog W = .ok (.int .i64 s.ro) W := fun W => by simp [Instr.index, run_underlying Try.underlying48, asIntOf, go_sem]
      go_wp2_with fail
      refine (isn_yes s.ro _ h5).mono ?_
      rintro e w' ⟨rfl, rfl⟩
      go_wp2_with fail
      go_round
      case rel => exact ⟨5, by omega, by go_num⟩
      case measure => simp [intOf]
    · go_wp2
      go_ret
      exact ⟨rfl, qa⟩

set_option maxHeartbeats 2000000 in
theorem check_no (s : HS) (w : World) (h : ¬ HV s) :
    Calls Try.prog 17 #[.agg #[.int .i64 s.p, .bool s.hl, .bool s.hn, .int .i64 s.la, .int .i64 s.no, .int .i64 s.sa, .int .i64 s.ba, .int .i64 s.ro]] w fun e w' => e = .returned (.int .i64 171) ∧ Below w.heap.size w w' := by
  by_cases p0 : s.p < 0
  · go_enter Try.func17, Try.ntmps17
    go_wp2
    go_ret
    refine ⟨rfl, ?_⟩
    (repeat' (first | (with_reducible exact Below.refl _ _) | (with_reducible refine Below.alloc ?_ ?_ _) | (with_reducible refine Below.setCell ?_ ?_ _) | (with_reducible refine Below.drew ?_) | (with_reducible refine below_drewN ?_ _) | omega | (dsimp only; omega) | (simp; done) | (simp; omega)))
  by_cases p1 : 3 ≤ s.p
  · go_enter Try.func17, Try.ntmps17
    go_wp2
    go_ret
    refine ⟨rfl, ?_⟩
    (repeat' (first | (with_reducible exact Below.refl _ _) | (with_reducible refine Below.alloc ?_ ?_ _) | (with_reducible refine Below.setCell ?_ ?_ _) | (with_reducible refine Below.drew ?_) | (with_reducible refine below_drewN ?_ _) | omega | (dsimp only; omega) | (simp; done) | (simp; omega)))
  have HB := Lib.hid h
  clear h
  go_enter Try.func17, Try.ntmps17
  go_wp2_with fail
  have qa := (Below.refl w.heap.size w).alloc (Nat.le_refl _) (.cells #[.int .i64 s.p, .bool s.hl, .bool s.hn, .int .i64 s.la, .int .i64 s.no, .int .i64 s.sa, .int .i64 s.ba, .int .i64 s.ro] 24)
  generalize w.alloc (.cells #[.int .i64 s.p, .bool s.hl, .bool s.hn, .int .i64 s.la, .int .i64 s.no, .int .i64 s.sa, .int .i64 s.ba, .int .i64 s.ro] 24) = V at qa ⊢
  go_loop [24] (fun ii => ∃ k : Nat, k ≤ 5 ∧ ii = .int .i64 k ∧ (0 < k → NV s.la) ∧ (1 < k → NV s.no) ∧ (2 < k → NV s.ba) ∧ (3 < k → NV s.sa) ∧ (4 < k → NV s.ro)) (fun ii => 5 - (intOf ii).toNat)
  case atStart => exact ⟨0, by omega, rfl, fun hc => absurd hc (by omega), fun hc => absurd hc (by omega), fun hc => absurd hc (by omega), fun hc => absurd hc (by omega), fun hc => absurd hc (by omega)⟩
  case round =>
    obtain ⟨k, hk, rfl, i0, i1, i2, i3, i4⟩ := hrel
    obtain rfl | rfl | rfl | rfl | rfl | rfl : k = 0 ∨ k = 1 ∨ k = 2 ∨ k = 3 ∨ k = 4 ∨ k = 5 := by omega
    · have hx0 : ∀ W, (Instr.index 48 (.agg #[.int .i64 s.la, .int .i64 s.no, .int .i64 s.ba, .int .i64 s.sa, .int .i64 s.ro]) (.int .i64 0)).run Try.prog W = .ok (.int .i64 s.la) W := fun W => by simp [Instr.index, run_underlying Try.underlying48, asIntOf, go_sem]
      by_cases hN : NV s.la
      · go_wp2_with fail
        refine (isn_yes s.la _ hN).mono ?_
        rintro e w' ⟨rfl, rfl⟩
        go_wp2_with fail
        go_round
        case rel => exact ⟨1, by omega, by go_num, fun _ => hN, fun hc => absurd hc (by omega), fun hc => absurd hc (by omega), fun hc => absurd hc (by omega), fun hc => absurd hc (by omega)⟩
        case measure => simp [intOf]
      · go_wp2_with fail
        refine (isn_no s.la _ hN).mono ?_
        rintro e w' ⟨rfl, rfl⟩
        go_wp2
        go_ret
        exact ⟨rfl, qa⟩
    · have hx1 : ∀ W, (Instr.index 48 (.agg #[.int .i64 s.la, .int .i64 s.no, .int .i64 s.ba, .int .i64 s.sa, .int .i64 s.ro]) (.int .i64 1)).run Try.prog W = .ok (.int .i64 s.no) W := fun W => by simp [Instr.index, run_underlying Try.underlying48, asIntOf, go_sem]
      by_cases hN : NV s.no
      · go_wp2_with fail
        refine (isn_yes s.no _ hN).mono ?_
        rintro e w' ⟨rfl, rfl⟩
        go_wp2_with fail
        go_round
        case rel => exact ⟨2, by omega, by go_num, fun _ => i0 (by omega), fun _ => hN, fun hc => absurd hc (by omega), fun hc => absurd hc (by omega), fun hc => absurd hc (by omega)⟩
        case measure => simp [intOf]
      · go_wp2_with fail
        refine (isn_no s.no _ hN).mono ?_
        rintro e w' ⟨rfl, rfl⟩
        go_wp2
        go_ret
        exact ⟨rfl, qa⟩
    · have hx2 : ∀ W, (Instr.index 48 (.agg #[.int .i64 s.la, .int .i64 s.no, .int .i64 s.ba, .int .i64 s.sa, .int .i64 s.ro]) (.int .i64 2)).run Try.prog W = .ok (.int .i64 s.ba) W := fun W => by simp [Instr.index, run_underlying Try.underlying48, asIntOf, go_sem]
      by_cases hN : NV s.ba
      · go_wp2_with fail
        refine (isn_yes s.ba _ hN).mono ?_
        rintro e w' ⟨rfl, rfl⟩
        go_wp2_with fail
        go_round
        case rel => exact ⟨3, by omega, by go_num, fun _ => i0 (by omega), fun _ => i1 (by omega), fun _ => hN, fun hc => absurd hc (by omega), fun hc => absurd hc (by omega)⟩
        case measure => simp [intOf]
      · go_wp2_with fail
        refine (isn_no s.ba _ hN).mono ?_
        rintro e w' ⟨rfl, rfl⟩
        go_wp2
        go_ret
        exact ⟨rfl, qa⟩
    · have hx3 : ∀ W, (Instr.index 48 (.agg #[.int .i64 s.la, .int .i64 s.no, .int .i64 s.ba, .int .i64 s.sa, .int .i64 s.ro]) (.int .i64 3)).run Try.prog W = .ok (.int .i64 s.sa) W := fun W => by simp [Instr.index, run_underlying Try.underlying48, asIntOf, go_sem]
      by_cases hN : NV s.sa
      · go_wp2_with fail
        refine (isn_yes s.sa _ hN).mono ?_
        rintro e w' ⟨rfl, rfl⟩
        go_wp2_with fail
        go_round
        case rel => exact ⟨4, by omega, by go_num, fun _ => i0 (by omega), fun _ => i1 (by omega), fun _ => i2 (by omega), fun _ => hN, fun hc => absurd hc (by omega)⟩
        case measure => simp [intOf]
      · go_wp2_with fail
        refine (isn_no s.sa _ hN).mono ?_
        rintro e w' ⟨rfl, rfl⟩
        go_wp2
        go_ret
        exact ⟨rfl, qa⟩
    · have hx4 : ∀ W, (Instr.index 48 (.agg #[.int .i64 s.la, .int .i64 s.no, .int .i64 s.ba, .int .i64 s.sa, .int .i64 s.ro]) (.int .i64 4)).run Try.prog W = .ok (.int .i64 s.ro) W := fun W => by simp [Instr.index, run_underlying Try.underlying48, asIntOf, go_sem]
      by_cases hN : NV s.ro
      · go_wp2_with fail
        refine (isn_yes s.ro _ hN).mono ?_
        rintro e w' ⟨rfl, rfl⟩
        go_wp2_with fail
        go_round
        case rel => exact ⟨5, by omega, by go_num, fun _ => i0 (by omega), fun _ => i1 (by omega), fun _ => i2 (by omega), fun _ => i3 (by omega), fun _ => hN⟩
        case measure => simp [intOf]
      · go_wp2_with fail
        refine (isn_no s.ro _ hN).mono ?_
        rintro e w' ⟨rfl, rfl⟩
        go_wp2
        go_ret
        exact ⟨rfl, qa⟩
    · exact absurd (show HV s from ⟨⟨by omega, by omega⟩, i0 (by omega), i1 (by omega), i2 (by omega), i3 (by omega), i4 (by omega)⟩) HB.out

set_option maxHeartbeats 2000000 in
theorem rcheck_yes (s : HS) (w : World) (h : HV s) :
    Calls Try.prog 18 #[.agg #[.int .i64 s.p, .bool s.hl, .bool s.hn, .int .i64 s.la, .int .i64 s.no, .int .i64 s.sa, .int .i64 s.ba, .int .i64 s.ro]] w fun e w' => e = .returned (.int .i64 0) ∧ Below w.heap.size w w' := by
  obtain ⟨⟨p0, p1⟩, h1, h2, h3, h4, h5⟩ := h
  go_enter Try.func18, Try.ntmps18
  go_wp2_with fail
  refine (wit_yes s.la _ h1).mono ?_
  rintro e w' ⟨rfl, rfl⟩
  go_wp2_with fail
  refine (wit_yes s.no _ h2).mono ?_
  rintro e w' ⟨rfl, rfl⟩
  go_wp2_with fail
  refine (wit_yes s.ba _ h3).mono ?_
  rintro e w' ⟨rfl, rfl⟩
  go_wp2_with fail
  refine (wit_yes s.sa _ h4).mono ?_
  rintro e w' ⟨rfl, rfl⟩
  go_wp2_with fail
  refine (wit_yes s.ro _ h5).mono ?_
  rintro e w' ⟨rfl, rfl⟩
  go_wp2
  go_ret
  refine ⟨rfl, ?_⟩
  (repeat' (first | (with_reducible exact Below.refl _ _) | (with_reducible refine Below.alloc ?_ ?_ _) | (with_reducible refine Below.setCell ?_ ?_ _) | (with_reducible refine Below.drew ?_) | (with_reducible refine below_drewN ?_ _) | omega | (dsimp only; omega) | (simp; done) | (simp; omega)))

set_option maxHeartbeats 2000000 in
theorem rcheck_no (s : HS) (w : World) (h : ¬ HV s) :
    Calls Try.prog 18 #[.agg #[.int .i64 s.p, .bool s.hl, .bool s.hn, .int .i64 s.la, .int .i64 s.no, .int .i64 s.sa, .int .i64 s.ba, .int .i64 s.ro]] w fun e w' => e = .returned (.int .i64 171) ∧ Below w.heap.size w w' := by
  have HB := Lib.hid h
  clear h
  by_cases p0 : s.p < 0
  · go_enter Try.func18, Try.ntmps18
    go_wp2
    go_ret
    refine ⟨rfl, ?_⟩
    (repeat' (first | (with_reducible exact Below.refl _ _) | (with_reducible refine Below.alloc ?_ ?_ _) | (with_reducible refine Below.setCell ?_ ?_ _) | (with_reducible refine Below.drew ?_) | (with_reducible refine below_drewN ?_ _) | omega | (dsimp only; omega) | (simp; done) | (simp; omega)))
  by_cases p1 : 2 < s.p
  · go_enter Try.func18, Try.ntmps18
    go_wp2
    go_ret
    refine ⟨rfl, ?_⟩
    (repeat' (first | (with_reducible exact Below.refl _ _) | (with_reducible refine Below.alloc ?_ ?_ _) | (with_reducible refine Below.setCell ?_ ?_ _) | (with_reducible refine Below.drew ?_) | (with_reducible refine below_drewN ?_ _) | omega | (dsimp only; omega) | (simp; done) | (simp; omega)))
  by_cases h1 : NV s.la
  case neg =>
    go_enter Try.func18, Try.ntmps18
    go_wp2_with fail
    refine (wit_no s.la _ h1).mono ?_
    rintro e w' ⟨rfl, rfl⟩
    go_wp2
    go_ret
    refine ⟨rfl, ?_⟩
    (repeat' (first | (with_reducible exact Below.refl _ _) | (with_reducible refine Below.alloc ?_ ?_ _) | (with_reducible refine Below.setCell ?_ ?_ _) | (with_reducible refine Below.drew ?_) | (with_reducible refine below_drewN ?_ _) | omega | (dsimp only; omega) | (simp; done) | (simp; omega)))
  by_cases h2 : NV s.no
  case neg =>
    go_enter Try.func18, Try.ntmps18
    go_wp2_with fail
    refine (wit_yes s.la _ h1).mono ?_
    rintro e w' ⟨rfl, rfl⟩
    go_wp2_with fail
    refine (wit_no s.no _ h2).mono ?_
    rintro e w' ⟨rfl, rfl⟩
    go_wp2
    go_ret
    refine ⟨rfl, ?_⟩
    (repeat' (first | (with_reducible exact Below.refl _ _) | (with_reducible refine Below.alloc ?_ ?_ _) | (with_reducible refine Below.setCell ?_ ?_ _) | (with_reducible refine Below.drew ?_) | (with_reducible refine below_drewN ?_ _) | omega | (dsimp only; omega) | (simp; done) | (simp; omega)))
  by_cases h3 : NV s.ba
  case neg =>
    go_enter Try.func18, Try.ntmps18
    go_wp2_with fail
    refine (wit_yes s.la _ h1).mono ?_
    rintro e w' ⟨rfl, rfl⟩
    go_wp2_with fail
    refine (wit_yes s.no _ h2).mono ?_
    rintro e w' ⟨rfl, rfl⟩
    go_wp2_with fail
    refine (wit_no s.ba _ h3).mono ?_
    rintro e w' ⟨rfl, rfl⟩
    go_wp2
    go_ret
    refine ⟨rfl, ?_⟩
    (repeat' (first | (with_reducible exact Below.refl _ _) | (with_reducible refine Below.alloc ?_ ?_ _) | (with_reducible refine Below.setCell ?_ ?_ _) | (with_reducible refine Below.drew ?_) | (with_reducible refine below_drewN ?_ _) | omega | (dsimp only; omega) | (simp; done) | (simp; omega)))
  by_cases h4 : NV s.sa
  case neg =>
    go_enter Try.func18, Try.ntmps18
    go_wp2_with fail
    refine (wit_yes s.la _ h1).mono ?_
    rintro e w' ⟨rfl, rfl⟩
    go_wp2_with fail
    refine (wit_yes s.no _ h2).mono ?_
    rintro e w' ⟨rfl, rfl⟩
    go_wp2_with fail
    refine (wit_yes s.ba _ h3).mono ?_
    rintro e w' ⟨rfl, rfl⟩
    go_wp2_with fail
    refine (wit_no s.sa _ h4).mono ?_
    rintro e w' ⟨rfl, rfl⟩
    go_wp2
    go_ret
    refine ⟨rfl, ?_⟩
    (repeat' (first | (with_reducible exact Below.refl _ _) | (with_reducible refine Below.alloc ?_ ?_ _) | (with_reducible refine Below.setCell ?_ ?_ _) | (with_reducible refine Below.drew ?_) | (with_reducible refine below_drewN ?_ _) | omega | (dsimp only; omega) | (simp; done) | (simp; omega)))
  by_cases h5 : NV s.ro
  case neg =>
    go_enter Try.func18, Try.ntmps18
    go_wp2_with fail
    refine (wit_yes s.la _ h1).mono ?_
    rintro e w' ⟨rfl, rfl⟩
    go_wp2_with fail
    refine (wit_yes s.no _ h2).mono ?_
    rintro e w' ⟨rfl, rfl⟩
    go_wp2_with fail
    refine (wit_yes s.ba _ h3).mono ?_
    rintro e w' ⟨rfl, rfl⟩
    go_wp2_with fail
    refine (wit_yes s.sa _ h4).mono ?_
    rintro e w' ⟨rfl, rfl⟩
    go_wp2_with fail
    refine (wit_no s.ro _ h5).mono ?_
    rintro e w' ⟨rfl, rfl⟩
    go_wp2
    go_ret
    refine ⟨rfl, ?_⟩
    (repeat' (first | (with_reducible exact Below.refl _ _) | (with_reducible refine Below.alloc ?_ ?_ _) | (with_reducible refine Below.setCell ?_ ?_ _) | (with_reducible refine Below.drew ?_) | (with_reducible refine below_drewN ?_ _) | omega | (dsimp only; omega) | (simp; done) | (simp; omega)))
  exact absurd (show HV s from ⟨⟨by omega, by omega⟩, h1, h2, h3, h4, h5⟩) HB.out

end Go.Proofs.Ytfmjlcnpabpheaa
