/- Cubic: the curve and its turn, on both sides. -/
import Derived.Test.YthkmphngfndebaaCuR
import Derived.Test.YthkmphngfndebaaCuW
import Derived.Lib.MinMax
import Derived.ProofKit
namespace Go.Proofs.Ythkmphngfndebaa
open Go.RowKit Go.Proofs.Ythkmphngfndebaa.Cu

set_option maxHeartbeats 2000000 in
theorem mss_yes (m : Int) (w : World) (h : MV m) :
    Calls Try.prog 26 #[.int .i64 m] w fun e w' => e = .returned (.bool true) ∧ Below w.heap.size w w' := by
  have HA : Hid (InR 1 65535 [m]) := Lib.hid (inR1.2 h)
  clear h
  go_enter Try.func26, Try.ntmps26
  go_wp2_with fail
  refine (wn_yes 1 65535 [m] _ _ _ _ _ _ rfl rfl (by simp) (by simp) HA.out).mono ?_
  rintro e w' ⟨rfl, rfl⟩
  go_wp2
  go_ret
  refine ⟨rfl, ?_⟩
  (repeat' (first | (with_reducible exact Below.refl _ _) | (with_reducible refine Below.alloc ?_ ?_ _) | (with_reducible refine Below.setCell ?_ ?_ _) | (with_reducible refine Below.drew ?_) | (with_reducible refine below_drewN ?_ _) | omega | (dsimp only; omega) | (simp; done) | (simp; omega)))

set_option maxHeartbeats 2000000 in
theorem mss_no (m : Int) (w : World) (h : ¬ MV m) :
    Calls Try.prog 26 #[.int .i64 m] w fun e w' => e = .returned (.bool false) ∧ Below w.heap.size w w' := by
  have HA : Hid (¬ InR 1 65535 [m]) := Lib.hid (fun hb => h (inR1.1 hb))
  clear h
  go_enter Try.func26, Try.ntmps26
  go_wp2_with fail
  refine (wn_no 1 65535 [m] _ _ _ _ _ _ rfl rfl (by simp) (by simp) HA.out).mono ?_
  rintro e w' ⟨rfl, rfl⟩
  go_wp2
  go_ret
  refine ⟨rfl, ?_⟩
  (repeat' (first | (with_reducible exact Below.refl _ _) | (with_reducible refine Below.alloc ?_ ?_ _) | (with_reducible refine Below.setCell ?_ ?_ _) | (with_reducible refine Below.drew ?_) | (with_reducible refine below_drewN ?_ _) | omega | (dsimp only; omega) | (simp; done) | (simp; omega)))

set_option maxHeartbeats 400000 in
theorem held_any (n : Int) (w : World)  :
    Calls Try.prog 30 #[.int .i64 n] w fun e w' => e = .returned (.int .i64 (min n 1073741824)) ∧ w = w' := by
  go_enter Try.func30, Try.ntmps30
  go_wp2
  go_ret
  exact ⟨rfl, rfl⟩

set_option maxHeartbeats 400000 in
theorem rwi_yes (n lo hi : Int) (w : World) (h : lo ≤ n ∧ n ≤ hi) :
    Calls Try.prog 27 #[.int .i64 n, .int .i64 lo, .int .i64 hi] w fun e w' => e = .returned (.bool true) ∧ w = w' := by
  obtain ⟨h1, h2⟩ := h
  go_enter Try.func27, Try.ntmps27
  go_wp2
  go_ret
  exact ⟨rfl, rfl⟩

set_option maxHeartbeats 400000 in
theorem rwi_no (n lo hi : Int) (w : World) (h : ¬ (lo ≤ n ∧ n ≤ hi)) :
    Calls Try.prog 27 #[.int .i64 n, .int .i64 lo, .int .i64 hi] w fun e w' => e = .returned (.bool false) ∧ w = w' := by
  by_cases h1 : lo ≤ n
  · have h2 : ¬ (n ≤ hi) := fun hh => h ⟨h1, hh⟩
    clear h
    go_enter Try.func27, Try.ntmps27
    go_wp2
    go_ret
    exact ⟨rfl, rfl⟩
  · clear h
    go_enter Try.func27, Try.ntmps27
    go_wp2
    go_ret
    exact ⟨rfl, rfl⟩

set_option maxHeartbeats 400000 in
theorem down_any (X : Int) (w : World) (h0 : -7077780000000000000 ≤ X) (h1 : X ≤ 7077780000000000000) :
    Calls Try.prog 28 #[.int .i64 X, .int .i64 10737418240] w fun e w' => e = .returned (.int .i64 (X / 10737418240)) ∧ w = w' := by
  obtain ⟨q, hq⟩ : ∃ q, X.tdiv 10737418240 = q := ⟨_, rfl⟩
  obtain ⟨r, hr⟩ : ∃ r, X.tmod 10737418240 = r := ⟨_, rfl⟩
  have hq2 : -900000000 ≤ q ∧ q ≤ 900000000 := by
    by_cases hn : r < 0
    · have := floor_neg (U := 10737418240) (by decide) hq hr hn; omega
    · have := floor_pos (U := 10737418240) (by decide) hq hr (by omega); omega
  obtain ⟨q0, q1⟩ := hq2
  by_cases hn : r < 0
  · rw [floor_neg (U := 10737418240) (by decide) hq hr hn]
    go_enter Try.func28, Try.ntmps28
    go_wp2
    go_ret
    exact ⟨rfl, rfl⟩
  · rw [floor_pos (U := 10737418240) (by decide) hq hr (by omega)]
    go_enter Try.func28, Try.ntmps28
    go_wp2
    go_ret
    exact ⟨rfl, rfl⟩

set_option maxRecDepth 100000 in
set_option maxHeartbeats 2000000 in
theorem curve_ok (o m d : Int) (w : World) (hO : WV o) (hM : MV m) :
    Calls Try.prog 9 #[.int .i64 o, .int .i64 m, .int .i64 d] w fun e w' => e = .returned (.tuple #[.int .i64 (crv o m d), .int .i64 0]) ∧ Below w.heap.size w w' := by
  obtain ⟨o0, o1⟩ := hO
  obtain ⟨m0, m1⟩ := hM
  have HO : Hid (InR 0 1073741824 [o]) := Lib.hid (inR1.2 ⟨o0, o1⟩)
  have HM : Hid (MV m) := Lib.hid ⟨m0, m1⟩
  obtain ⟨D, hD⟩ : ∃ D, cD d = D := ⟨_, rfl⟩
  have hd := cD_bd d
  rw [hD] at hd
  obtain ⟨d0, d1⟩ := hd
  obtain ⟨⟨a0, a1⟩, ⟨b0, b1⟩, ⟨c0, c1⟩, ⟨e0, e1⟩, ⟨f0, f1⟩, hassoc⟩ := up_bd m0 m1 d0 d1
  obtain ⟨X, hX⟩ : ∃ X, up m D = X := ⟨_, rfl⟩
  have hv : crv o m d = max (min (o + X / 10737418240) 1073741824) 0 := by unfold crv; rw [hD, hX]
  rw [hX] at c0 c1 hassoc
  rw [hv]
  unfold up at hX
  have hD1 : max (min d 30000) (-30000) = D := hD
  have hD2 : max (-30000) (min 30000 d) = D := by rw [← hD1]; omega
  clear hv hD
  clear hD2 hassoc
  have HD1 := Lib.hid hD1
  obtain ⟨q, hq⟩ : ∃ q, X.tdiv 10737418240 = q := ⟨_, rfl⟩
  obtain ⟨r, hr⟩ : ∃ r, X.tmod 10737418240 = r := ⟨_, rfl⟩
  have hq2 : -900000000 ≤ q ∧ q ≤ 900000000 := by
    by_cases hn : r < 0
    · have := floor_neg (U := 10737418240) (by decide) hq hr hn; omega
    · have := floor_pos (U := 10737418240) (by decide) hq hr (by omega); omega
  obtain ⟨q0, q1⟩ := hq2
  by_cases hn : r < 0
  · rw [floor_neg (U := 10737418240) (by decide) hq hr hn, ← Int.add_sub_assoc]
    go_enter Try.func9, Try.ntmps9
    go_wp2_with fail
    refine (wn_yes 0 1073741824 [o] _ _ _ _ _ _ rfl rfl (by simp) (by simp) HO.out).mono ?_
    rintro e w' ⟨rfl, rfl⟩
    go_wp2_with fail
    refine (mss_yes m _ HM.out).mono ?_
    rintro e w1 ⟨rfl, b1⟩
    have Q1 : Hid (Below w.heap.size w w1) := Lib.hid (below_after (by (repeat' (first | (with_reducible exact Below.refl _ _) | (with_reducible refine Below.alloc ?_ ?_ _) | (with_reducible refine Below.setCell ?_ ?_ _) | (with_reducible refine Below.drew ?_) | (with_reducible refine below_drewN ?_ _) | omega | (dsimp only; omega) | (simp; done) | (simp; omega)))) b1)
    clear b1
    go_wp2
    go_ret2
    refine ⟨rfl, ?_⟩
    (repeat' (first | (with_reducible exact Q1.out) | (with_reducible exact Below.refl _ _) | (with_reducible refine Below.alloc ?_ ?_ _) | (with_reducible refine Below.setCell ?_ ?_ _) | (with_reducible refine Below.drew ?_) | (with_reducible refine below_drewN ?_ _) | omega | (dsimp only; omega) | (simp; done) | (simp; omega)))
  · rw [floor_pos (U := 10737418240) (by decide) hq hr (by omega)]
    go_enter Try.func9, Try.ntmps9
    go_wp2_with fail
    refine (wn_yes 0 1073741824 [o] _ _ _ _ _ _ rfl rfl (by simp) (by simp) HO.out).mono ?_
    rintro e w' ⟨rfl, rfl⟩
    go_wp2_with fail
    refine (mss_yes m _ HM.out).mono ?_
    rintro e w1 ⟨rfl, b1⟩
    have Q1 : Hid (Below w.heap.size w w1) := Lib.hid (below_after (by (repeat' (first | (with_reducible exact Below.refl _ _) | (with_reducible refine Below.alloc ?_ ?_ _) | (with_reducible refine Below.setCell ?_ ?_ _) | (with_reducible refine Below.drew ?_) | (with_reducible refine below_drewN ?_ _) | omega | (dsimp only; omega) | (simp; done) | (simp; omega)))) b1)
    clear b1
    go_wp2
    go_ret2
    refine ⟨rfl, ?_⟩
    (repeat' (first | (with_reducible exact Q1.out) | (with_reducible exact Below.refl _ _) | (with_reducible refine Below.alloc ?_ ?_ _) | (with_reducible refine Below.setCell ?_ ?_ _) | (with_reducible refine Below.drew ?_) | (with_reducible refine below_drewN ?_ _) | omega | (dsimp only; omega) | (simp; done) | (simp; omega)))

set_option maxHeartbeats 2000000 in
theorem curve_o (o m d : Int) (w : World) (hO : ¬ WV o) :
    Calls Try.prog 9 #[.int .i64 o, .int .i64 m, .int .i64 d] w fun e w' => e = .returned (.tuple #[.int .i64 0, .int .i64 4]) ∧ Below w.heap.size w w' := by
  have HO : Hid (¬ InR 0 1073741824 [o]) := Lib.hid (fun hb => hO (inR1.1 hb))
  clear hO
  go_enter Try.func9, Try.ntmps9
  go_wp2_with fail
  refine (wn_no 0 1073741824 [o] _ _ _ _ _ _ rfl rfl (by simp) (by simp) HO.out).mono ?_
  rintro e w' ⟨rfl, rfl⟩
  go_wp2
  go_ret2
  refine ⟨rfl, ?_⟩
  (repeat' (first | (with_reducible exact Below.refl _ _) | (with_reducible refine Below.alloc ?_ ?_ _) | (with_reducible refine Below.setCell ?_ ?_ _) | (with_reducible refine Below.drew ?_) | (with_reducible refine below_drewN ?_ _) | omega | (dsimp only; omega) | (simp; done) | (simp; omega)))

set_option maxHeartbeats 2000000 in
theorem curve_m (o m d : Int) (w : World) (hO : WV o) (hM : ¬ MV m) :
    Calls Try.prog 9 #[.int .i64 o, .int .i64 m, .int .i64 d] w fun e w' => e = .returned (.tuple #[.int .i64 0, .int .i64 4]) ∧ Below w.heap.size w w' := by
  have HO : Hid (InR 0 1073741824 [o]) := Lib.hid (inR1.2 hO)
  have HM := Lib.hid hM
  clear hO hM
  go_enter Try.func9, Try.ntmps9
  go_wp2_with fail
  refine (wn_yes 0 1073741824 [o] _ _ _ _ _ _ rfl rfl (by simp) (by simp) HO.out).mono ?_
  rintro e w' ⟨rfl, rfl⟩
  go_wp2_with fail
  refine (mss_no m _ HM.out).mono ?_
  rintro e w1 ⟨rfl, b1⟩
  have Q1 : Hid (Below w.heap.size w w1) := Lib.hid (below_after (by (repeat' (first | (with_reducible exact Below.refl _ _) | (with_reducible refine Below.alloc ?_ ?_ _) | (with_reducible refine Below.setCell ?_ ?_ _) | (with_reducible refine Below.drew ?_) | (with_reducible refine below_drewN ?_ _) | omega | (dsimp only; omega) | (simp; done) | (simp; omega)))) b1)
  clear b1
  go_wp2
  go_ret2
  refine ⟨rfl, ?_⟩
  (repeat' (first | (with_reducible exact Q1.out) | (with_reducible exact Below.refl _ _) | (with_reducible refine Below.alloc ?_ ?_ _) | (with_reducible refine Below.setCell ?_ ?_ _) | (with_reducible refine Below.drew ?_) | (with_reducible refine below_drewN ?_ _) | omega | (dsimp only; omega) | (simp; done) | (simp; omega)))

set_option maxRecDepth 100000 in
set_option maxHeartbeats 2000000 in
theorem rcurve_ok (o m d : Int) (w : World) (hO : WV o) (hM : MV m) :
    Calls Try.prog 10 #[.int .i64 o, .int .i64 m, .int .i64 d] w fun e w' => e = .returned (.tuple #[.int .i64 (crv o m d), .int .i64 0]) ∧ w = w' := by
  obtain ⟨o0, o1⟩ := hO
  obtain ⟨m0, m1⟩ := hM
  obtain ⟨D, hD⟩ : ∃ D, cD d = D := ⟨_, rfl⟩
  have hd := cD_bd d
  rw [hD] at hd
  obtain ⟨d0, d1⟩ := hd
  obtain ⟨⟨a0, a1⟩, ⟨b0, b1⟩, ⟨c0, c1⟩, ⟨e0, e1⟩, ⟨f0, f1⟩, hassoc⟩ := up_bd m0 m1 d0 d1
  obtain ⟨X, hX⟩ : ∃ X, up m D = X := ⟨_, rfl⟩
  have hv : crv o m d = max (min (o + X / 10737418240) 1073741824) 0 := by unfold crv; rw [hD, hX]
  rw [hX] at c0 c1 hassoc
  rw [hv]
  unfold up at hX
  have hD1 : max (min d 30000) (-30000) = D := hD
  have hD2 : max (-30000) (min 30000 d) = D := by rw [← hD1]; omega
  clear hv hD
  clear hD1 hX a0 a1 b0 b1
  obtain ⟨M4, hM4⟩ : ∃ z, X / 10737418240 = z := ⟨_, rfl⟩
  have hM5 : -900000000 ≤ M4 ∧ M4 ≤ 900000000 := by omega
  obtain ⟨g0, g1⟩ := hM5
  have hdn := fun w => down_any X w c0 c1
  rw [hM4] at hdn ⊢
  clear hM4
  go_enter Try.func10, Try.ntmps10
  go_wp2_with fail
  refine (rwi_yes o 0 1073741824 _ ⟨o0, o1⟩).mono ?_
  rintro e w' ⟨rfl, rfl⟩
  go_wp2_with fail
  refine (rwi_yes m 1 65535 _ ⟨m0, m1⟩).mono ?_
  rintro e w' ⟨rfl, rfl⟩
  go_wp2_with fail
  refine (hdn _).mono ?_
  rintro e w' ⟨rfl, rfl⟩
  go_wp2
  go_ret2
  refine ⟨?_, rfl⟩
  first | (rw [show max 0 (min (o + M4) 1073741824) = max (min (o + M4) 1073741824) 0 by omega]; rfl) | (trace_state; sorry)

set_option maxHeartbeats 2000000 in
theorem rcurve_o (o m d : Int) (w : World) (hO : ¬ WV o) :
    Calls Try.prog 10 #[.int .i64 o, .int .i64 m, .int .i64 d] w fun e w' => e = .returned (.tuple #[.int .i64 0, .int .i64 4]) ∧ w = w' := by
  have HO := Lib.hid hO
  clear hO
  go_enter Try.func10, Try.ntmps10
  go_wp2_with fail
  refine (rwi_no o 0 1073741824 _ HO.out).mono ?_
  rintro e w' ⟨rfl, rfl⟩
  go_wp2
  go_ret2
  exact ⟨rfl, rfl⟩

set_option maxHeartbeats 2000000 in
theorem rcurve_m (o m d : Int) (w : World) (hO : WV o) (hM : ¬ MV m) :
    Calls Try.prog 10 #[.int .i64 o, .int .i64 m, .int .i64 d] w fun e w' => e = .returned (.tuple #[.int .i64 0, .int .i64 4]) ∧ w = w' := by
  have HO := Lib.hid hO
  have HM := Lib.hid hM
  clear hO hM
  go_enter Try.func10, Try.ntmps10
  go_wp2_with fail
  refine (rwi_yes o 0 1073741824 _ HO.out).mono ?_
  rintro e w' ⟨rfl, rfl⟩
  go_wp2_with fail
  refine (rwi_no m 1 65535 _ HM.out).mono ?_
  rintro e w' ⟨rfl, rfl⟩
  go_wp2
  go_ret2
  exact ⟨rfl, rfl⟩

set_option maxRecDepth 100000 in
set_option maxHeartbeats 2000000 in
theorem turn_ok (o c m : Int) (w : World) (hO : WV o ∧ WV c) (hM : MV m) :
    Calls Try.prog 11 #[.int .i64 o, .int .i64 c, .int .i64 m] w fun e w' => e = .returned (.tuple #[.int .i64 (trn o c m), .int .i64 0]) ∧ Below w.heap.size w w' := by
  have ht := tn_bd (m := m) hO.1 hO.2
  have he := tn_eq (o := o) (c := c) hM.1
  obtain ⟨R, hR⟩ : ∃ R, cbrt (tn o c m) = R := ⟨_, rfl⟩
  have hr : R ≤ 2642245 := by rw [← hR]; exact (cbrt_ok _).1
  have hv : trn o c m = (R : Int) := by unfold trn; rw [hR]
  rw [hv]
  obtain ⟨n, hn⟩ : ∃ n, tn o c m = n := ⟨_, rfl⟩
  rw [hn] at hR ht he
  have HO : Hid (InR 0 1073741824 [o, c]) := Lib.hid (inR2.2 hO)
  have HM := Lib.hid hM
  have HR : Hid (IsC n R) := Lib.hid ⟨hR⟩
  obtain ⟨⟨o0, o1⟩, c0, c1⟩ := hO
  obtain ⟨m0, m1⟩ := hM
  have fz : (4 * m == 0) = false := by rw [beq_eq_false_iff_ne]; omega
  obtain ⟨M, hMM⟩ : ∃ M, max (o - c) 0 = M := ⟨_, rfl⟩
  have hM0 : 0 ≤ M ∧ M ≤ 1073741824 := by omega
  obtain ⟨M0, M1⟩ := hM0
  rw [hMM] at he
  clear hv hn hR ht
  go_enter Try.func11, Try.ntmps11
  go_wp2_with fail
  refine (wn_yes 0 1073741824 [o, c] _ _ _ _ _ _ rfl rfl (by simp) (by simp) HO.out).mono ?_
  rintro e w' ⟨rfl, rfl⟩
  go_wp2_with fail
  refine (mss_yes m _ HM.out).mono ?_
  rintro e w1 ⟨rfl, b1⟩
  have Q1 : Hid (Below w.heap.size w w1) := Lib.hid (below_after (by (repeat' (first | (with_reducible exact Below.refl _ _) | (with_reducible refine Below.alloc ?_ ?_ _) | (with_reducible refine Below.setCell ?_ ?_ _) | (with_reducible refine Below.drew ?_) | (with_reducible refine below_drewN ?_ _) | omega | (dsimp only; omega) | (simp; done) | (simp; omega)))) b1)
  clear b1
  go_wp2_with fail
  refine (root_l n R HR.out _).mono ?_
  rintro e w' ⟨rfl, rfl⟩
  go_wp2
  go_ret2
  refine ⟨rfl, ?_⟩
  (repeat' (first | (with_reducible exact Q1.out) | (with_reducible exact Below.refl _ _) | (with_reducible refine Below.alloc ?_ ?_ _) | (with_reducible refine Below.setCell ?_ ?_ _) | (with_reducible refine Below.drew ?_) | (with_reducible refine below_drewN ?_ _) | omega | (dsimp only; omega) | (simp; done) | (simp; omega)))

set_option maxHeartbeats 2000000 in
theorem turn_o (o c m : Int) (w : World) (hO : ¬ (WV o ∧ WV c)) :
    Calls Try.prog 11 #[.int .i64 o, .int .i64 c, .int .i64 m] w fun e w' => e = .returned (.tuple #[.int .i64 0, .int .i64 4]) ∧ Below w.heap.size w w' := by
  have HO : Hid (¬ InR 0 1073741824 [o, c]) := Lib.hid (fun hb => hO (inR2.1 hb))
  clear hO
  go_enter Try.func11, Try.ntmps11
  go_wp2_with fail
  refine (wn_no 0 1073741824 [o, c] _ _ _ _ _ _ rfl rfl (by simp) (by simp) HO.out).mono ?_
  rintro e w' ⟨rfl, rfl⟩
  go_wp2
  go_ret2
  refine ⟨rfl, ?_⟩
  (repeat' (first | (with_reducible exact Below.refl _ _) | (with_reducible refine Below.alloc ?_ ?_ _) | (with_reducible refine Below.setCell ?_ ?_ _) | (with_reducible refine Below.drew ?_) | (with_reducible refine below_drewN ?_ _) | omega | (dsimp only; omega) | (simp; done) | (simp; omega)))

set_option maxHeartbeats 2000000 in
theorem turn_m (o c m : Int) (w : World) (hO : WV o ∧ WV c) (hM : ¬ MV m) :
    Calls Try.prog 11 #[.int .i64 o, .int .i64 c, .int .i64 m] w fun e w' => e = .returned (.tuple #[.int .i64 0, .int .i64 4]) ∧ Below w.heap.size w w' := by
  have HO : Hid (InR 0 1073741824 [o, c]) := Lib.hid (inR2.2 hO)
  have HM := Lib.hid hM
  clear hO hM
  go_enter Try.func11, Try.ntmps11
  go_wp2_with fail
  refine (wn_yes 0 1073741824 [o, c] _ _ _ _ _ _ rfl rfl (by simp) (by simp) HO.out).mono ?_
  rintro e w' ⟨rfl, rfl⟩
  go_wp2_with fail
  refine (mss_no m _ HM.out).mono ?_
  rintro e w1 ⟨rfl, b1⟩
  have Q1 : Hid (Below w.heap.size w w1) := Lib.hid (below_after (by (repeat' (first | (with_reducible exact Below.refl _ _) | (with_reducible refine Below.alloc ?_ ?_ _) | (with_reducible refine Below.setCell ?_ ?_ _) | (with_reducible refine Below.drew ?_) | (with_reducible refine below_drewN ?_ _) | omega | (dsimp only; omega) | (simp; done) | (simp; omega)))) b1)
  clear b1
  go_wp2
  go_ret2
  refine ⟨rfl, ?_⟩
  (repeat' (first | (with_reducible exact Q1.out) | (with_reducible exact Below.refl _ _) | (with_reducible refine Below.alloc ?_ ?_ _) | (with_reducible refine Below.setCell ?_ ?_ _) | (with_reducible refine Below.drew ?_) | (with_reducible refine below_drewN ?_ _) | omega | (dsimp only; omega) | (simp; done) | (simp; omega)))

set_option maxRecDepth 100000 in
set_option maxHeartbeats 2000000 in
theorem rturn_ge (o c m : Int) (w : World) (hO : WV o ∧ WV c) (hM : MV m) (hge : o ≤ c) :
    Calls Try.prog 12 #[.int .i64 o, .int .i64 c, .int .i64 m] w fun e w' => e = .returned (.tuple #[.int .i64 (trn o c m), .int .i64 0]) ∧ w = w' := by
  obtain ⟨⟨o0, o1⟩, c0, c1⟩ := hO
  obtain ⟨m0, m1⟩ := hM
  rw [trn_zero hge]
  go_enter Try.func12, Try.ntmps12
  go_wp2_with fail
  refine (rwi_yes o 0 1073741824 _ ⟨o0, o1⟩).mono ?_
  rintro e w' ⟨rfl, rfl⟩
  go_wp2_with fail
  refine (rwi_yes c 0 1073741824 _ ⟨c0, c1⟩).mono ?_
  rintro e w' ⟨rfl, rfl⟩
  go_wp2_with fail
  refine (rwi_yes m 1 65535 _ ⟨m0, m1⟩).mono ?_
  rintro e w' ⟨rfl, rfl⟩
  go_wp2
  go_ret2
  exact ⟨rfl, rfl⟩

set_option maxHeartbeats 2000000 in
theorem rturn_o (o c m : Int) (w : World) (hO : ¬ WV o) :
    Calls Try.prog 12 #[.int .i64 o, .int .i64 c, .int .i64 m] w fun e w' => e = .returned (.tuple #[.int .i64 0, .int .i64 4]) ∧ w = w' := by
  have HO := Lib.hid hO
  clear hO
  go_enter Try.func12, Try.ntmps12
  go_wp2_with fail
  refine (rwi_no o 0 1073741824 _ HO.out).mono ?_
  rintro e w' ⟨rfl, rfl⟩
  go_wp2
  go_ret2
  exact ⟨rfl, rfl⟩

set_option maxHeartbeats 2000000 in
theorem rturn_c (o c m : Int) (w : World) (hO : WV o) (hC : ¬ WV c) :
    Calls Try.prog 12 #[.int .i64 o, .int .i64 c, .int .i64 m] w fun e w' => e = .returned (.tuple #[.int .i64 0, .int .i64 4]) ∧ w = w' := by
  have HO := Lib.hid hO
  have HC := Lib.hid hC
  clear hO hC
  go_enter Try.func12, Try.ntmps12
  go_wp2_with fail
  refine (rwi_yes o 0 1073741824 _ HO.out).mono ?_
  rintro e w' ⟨rfl, rfl⟩
  go_wp2_with fail
  refine (rwi_no c 0 1073741824 _ HC.out).mono ?_
  rintro e w' ⟨rfl, rfl⟩
  go_wp2
  go_ret2
  exact ⟨rfl, rfl⟩

set_option maxHeartbeats 2000000 in
theorem rturn_m (o c m : Int) (w : World) (hO : WV o) (hC : WV c) (hM : ¬ MV m) :
    Calls Try.prog 12 #[.int .i64 o, .int .i64 c, .int .i64 m] w fun e w' => e = .returned (.tuple #[.int .i64 0, .int .i64 4]) ∧ w = w' := by
  have HO := Lib.hid hO
  have HC := Lib.hid hC
  have HM := Lib.hid hM
  clear hO hC hM
  go_enter Try.func12, Try.ntmps12
  go_wp2_with fail
  refine (rwi_yes o 0 1073741824 _ HO.out).mono ?_
  rintro e w' ⟨rfl, rfl⟩
  go_wp2_with fail
  refine (rwi_yes c 0 1073741824 _ HC.out).mono ?_
  rintro e w' ⟨rfl, rfl⟩
  go_wp2_with fail
  refine (rwi_no m 1 65535 _ HM.out).mono ?_
  rintro e w' ⟨rfl, rfl⟩
  go_wp2
  go_ret2
  exact ⟨rfl, rfl⟩

end Go.Proofs.Ythkmphngfndebaa
