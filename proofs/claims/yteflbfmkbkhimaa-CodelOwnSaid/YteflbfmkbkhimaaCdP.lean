/- Codel: the times of drops, what may be; the page's example (the program's calls alone). -/
import Derived.Test.YteflbfmkbkhimaaCdRp
import Derived.Test.YteflbfmkbkhimaaCdW
import Derived.Lib.MinMax
import Derived.ProofKit
namespace Go.Proofs.Yteflbfmkbkhimaa
open Go.RowKit Go.Proofs.Yteflbfmkbkhimaa.Cd

set_option maxHeartbeats 400000 in
set_option maxHeartbeats 400000 in
set_option maxRecDepth 100000 in
set_option maxHeartbeats 2000000 in
theorem next_ok (a i c : Int) (w : World) (hA : 0 ≤ a ∧ a ≤ 4611686018427387904) (hI : OV i) (hC : OV c) :
    Calls Try.prog 20 #[.int .i64 a, .int .i64 i, .int .i64 c] w fun e w' => e = .returned (.int .i64 (lw a i c)) ∧ w = w' := by
  obtain ⟨h1, h2⟩ := ln_rt hC
  have he := ln_eq hC
  obtain ⟨R, hR⟩ : ∃ R, sqrt2 (ln c) = R := ⟨_, rfl⟩
  have hv : lw a i c = a + i * 65536 / (R : Int) := by unfold lw; rw [hR]
  rw [hv]
  rw [hR] at h1 h2
  obtain ⟨n, hn⟩ : ∃ n, ln c = n := ⟨_, rfl⟩
  rw [hn] at hR he
  obtain ⟨r, hr⟩ : ∃ z : Int, (R : Int) = z := ⟨_, rfl⟩
  have r0 : 65536 ≤ r := by omega
  have r1 : r ≤ 4294967295 := by omega
  have hq0 : 0 ≤ i * 65536 / r := Int.ediv_nonneg (by have := hI.1; omega) (by omega)
  have hq1 : i * 65536 / r ≤ i * 65536 := Int.ediv_le_self _ (by have := hI.1; omega)
  have HRT : Hid (∀ w, Calls Try.prog 12 #[.int .u64 (c * 4294967296)] w fun e w' => e = .returned (.int .u64 r) ∧ w = w') := Lib.hid (by rw [he, ← hr]; exact fun w => root_l n R ⟨hR⟩ w)
  rw [hr]
  obtain ⟨a0, a1⟩ := hA
  obtain ⟨i0, i1⟩ := hI
  obtain ⟨c0, c1⟩ := hC
  have fz : ¬ r = 0 := by omega
  have fzb : (r == 0) = false := by rw [beq_eq_false_iff_ne]; omega
  clear h1 h2 hR hv hn hr he
  go_enter Try.func20, Try.ntmps20
  go_wp2_with fail
  first
  | (refine (HRT.out _).mono ?_)
  | (trace_state; sorry)
  rintro e w' ⟨rfl, rfl⟩
  go_wp2
  go_ret
  exact ⟨rfl, rfl⟩

set_option maxRecDepth 100000 in
set_option maxHeartbeats 2000000 in
set_option maxRecDepth 100000 in
set_option maxHeartbeats 2000000 in
theorem law_ok (a i c : Int) (w : World) (hA : TV a) (hI : OV i) (hC : OV c) :
    Calls Try.prog 11 #[.int .i64 a, .int .i64 i, .int .i64 c] w fun e w' => e = .returned (.tuple #[.int .i64 (lw a i c), .int .i64 0]) ∧ Below w.heap.size w w' := by
  have HA : Hid (InR 0 1099511627776 [a]) := Lib.hid (inR1.2 hA)
  have HI : Hid (InR 1 1073741824 [i, c]) := Lib.hid (inR2.2 ⟨hI, hC⟩)
  have HA2 := Lib.hid hA
  have HI2 := Lib.hid hI
  have HC2 := Lib.hid hC
  clear hA hI hC
  go_enter Try.func11, Try.ntmps11
  go_wp2_with fail
  refine (wn_yes 0 1099511627776 [a] _ _ _ _ _ _ rfl rfl (by first | simp | rfl) (by simp) HA.out).mono ?_
  rintro e w' ⟨rfl, rfl⟩
  go_wp2_with fail
  refine (wn_yes 1 1073741824 [i, c] _ _ _ _ _ _ rfl rfl (by first | simp | rfl) (by simp) HI.out).mono ?_
  rintro e w' ⟨rfl, rfl⟩
  go_wp2_with fail
  refine (next_ok a i c _ ⟨HA2.out.1, by have := HA2.out.2; omega⟩ HI2.out HC2.out).mono ?_
  rintro e w' ⟨rfl, rfl⟩
  go_wp2
  go_ret2
  refine ⟨rfl, ?_⟩
  (repeat' (first | (with_reducible exact Below.refl _ _) | (with_reducible refine Below.alloc ?_ ?_ _) | (with_reducible refine Below.setCell ?_ ?_ _) | (with_reducible refine Below.drew ?_) | (with_reducible refine below_drewN ?_ _) | omega | (dsimp only; omega) | (simp; done) | (simp; omega)))

set_option maxRecDepth 100000 in
set_option maxHeartbeats 2000000 in
theorem law_no (a i c : Int) (w : World) (h : ¬ (TV a ∧ OV i ∧ OV c)) :
    Calls Try.prog 11 #[.int .i64 a, .int .i64 i, .int .i64 c] w fun e w' => e = .returned (.tuple #[.int .i64 0, .int .i64 4]) ∧ Below w.heap.size w w' := by
  by_cases hA : InR 0 1099511627776 [a]
  · have HA := Lib.hid hA
    have HI : Hid (¬ InR 1 1073741824 [i, c]) := Lib.hid (fun hb => h ⟨inR1.1 hA, inR2.1 hb⟩)
    clear h hA
    go_enter Try.func11, Try.ntmps11
    go_wp2_with fail
    refine (wn_yes 0 1099511627776 [a] _ _ _ _ _ _ rfl rfl (by first | simp | rfl) (by simp) HA.out).mono ?_
    rintro e w' ⟨rfl, rfl⟩
    go_wp2_with fail
    refine (wn_no 1 1073741824 [i, c] _ _ _ _ _ _ rfl rfl (by first | simp | rfl) (by simp) HI.out).mono ?_
    rintro e w' ⟨rfl, rfl⟩
    go_wp2
    go_ret2
    refine ⟨rfl, ?_⟩
    (repeat' (first | (with_reducible exact Below.refl _ _) | (with_reducible refine Below.alloc ?_ ?_ _) | (with_reducible refine Below.setCell ?_ ?_ _) | (with_reducible refine Below.drew ?_) | (with_reducible refine below_drewN ?_ _) | omega | (dsimp only; omega) | (simp; done) | (simp; omega)))
  · have HA := Lib.hid hA
    clear h hA
    go_enter Try.func11, Try.ntmps11
    go_wp2_with fail
    refine (wn_no 0 1099511627776 [a] _ _ _ _ _ _ rfl rfl (by first | simp | rfl) (by simp) HA.out).mono ?_
    rintro e w' ⟨rfl, rfl⟩
    go_wp2
    go_ret2
    refine ⟨rfl, ?_⟩
    (repeat' (first | (with_reducible exact Below.refl _ _) | (with_reducible refine Below.alloc ?_ ?_ _) | (with_reducible refine Below.setCell ?_ ?_ _) | (with_reducible refine Below.drew ?_) | (with_reducible refine below_drewN ?_ _) | omega | (dsimp only; omega) | (simp; done) | (simp; omega)))

set_option maxRecDepth 100000 in
set_option maxHeartbeats 2000000 in
set_option maxRecDepth 100000 in
set_option maxHeartbeats 2000000 in
set_option maxRecDepth 100000 in
set_option maxHeartbeats 2000000 in
theorem check_yes (t i m : Int) (w : World) (h : PV t i m) :
    Calls Try.prog 13 #[.agg #[.int .i64 t, .int .i64 i, .int .i64 m]] w fun e w' => e = .returned (.int .i64 0) ∧ Below w.heap.size w w' := by
  have HA : Hid (InR 1 1073741824 [t, i, m]) := Lib.hid (inR3.2 h)
  clear h
  go_enter Try.func13, Try.ntmps13
  go_wp2_with fail
  refine (wn_yes 1 1073741824 [t, i, m] _ _ _ _ _ _ rfl rfl (by first | simp | rfl) (by simp) HA.out).mono ?_
  rintro e w' ⟨rfl, rfl⟩
  go_wp2
  go_ret
  refine ⟨rfl, ?_⟩
  (repeat' (first | (with_reducible exact Below.refl _ _) | (with_reducible refine Below.alloc ?_ ?_ _) | (with_reducible refine Below.setCell ?_ ?_ _) | (with_reducible refine Below.drew ?_) | (with_reducible refine below_drewN ?_ _) | omega | (dsimp only; omega) | (simp; done) | (simp; omega)))

set_option maxRecDepth 100000 in
set_option maxHeartbeats 2000000 in
theorem check_no (t i m : Int) (w : World) (h : ¬ PV t i m) :
    Calls Try.prog 13 #[.agg #[.int .i64 t, .int .i64 i, .int .i64 m]] w fun e w' => e = .returned (.int .i64 121) ∧ Below w.heap.size w w' := by
  have HA : Hid (¬ InR 1 1073741824 [t, i, m]) := Lib.hid (fun hb => h (inR3.1 hb))
  clear h
  go_enter Try.func13, Try.ntmps13
  go_wp2_with fail
  refine (wn_no 1 1073741824 [t, i, m] _ _ _ _ _ _ rfl rfl (by first | simp | rfl) (by simp) HA.out).mono ?_
  rintro e w' ⟨rfl, rfl⟩
  go_wp2
  go_ret
  refine ⟨rfl, ?_⟩
  (repeat' (first | (with_reducible exact Below.refl _ _) | (with_reducible refine Below.alloc ?_ ?_ _) | (with_reducible refine Below.setCell ?_ ?_ _) | (with_reducible refine Below.drew ?_) | (with_reducible refine below_drewN ?_ _) | omega | (dsimp only; omega) | (simp; done) | (simp; omega)))

set_option maxRecDepth 100000 in
set_option maxHeartbeats 2000000 in
set_option maxRecDepth 100000 in
set_option maxHeartbeats 2000000 in
theorem plaw (a i c v E : Int) (hE : lE a i c = E) (hv : lO a i c = v) (w : World) : Calls Try.prog 11 #[.int .i64 a, .int .i64 i, .int .i64 c] w fun e w' => e = .returned (.tuple #[.int .i64 v, .int .i64 E]) ∧ Below w.heap.size w w' := by
  subst hE hv
  by_cases h : TV a ∧ OV i ∧ OV c
  · rw [show lE a i c = 0 from if_pos h, show lO a i c = lw a i c from if_pos h]; exact law_ok a i c w h.1 h.2.1 h.2.2
  · rw [show lE a i c = 4 from if_neg h, show lO a i c = 0 from if_neg h]; exact law_no a i c w h
theorem pcheck (t i m E : Int) (hE : pE t i m = E) (w : World) : Calls Try.prog 13 #[.agg #[.int .i64 t, .int .i64 i, .int .i64 m]] w fun e w' => e = .returned (.int .i64 E) ∧ Below w.heap.size w w' := by
  subst hE
  by_cases h : PV t i m
  · rw [show pE t i m = 0 from if_pos h]; exact check_yes t i m w h
  · rw [show pE t i m = 121 from if_neg h]; exact check_no t i m w h
theorem num_any (n : Int) (w : World) : Calls Try.prog 8 #[.int .i64 n] w fun e w' => e = .returned (.int .i64 n) ∧ w = w' := by
  go_enter Try.func8, Try.ntmps8
  go_wp2
  go_ret
  exact ⟨rfl, rfl⟩
theorem ex_root : IsS 8 2 ∧ IsS 18446744073709551615 4294967295 := ⟨⟨by decide +kernel⟩, ⟨by decide +kernel⟩⟩
theorem ex_law : lE 100 100 1 = 0 ∧ lO 100 100 1 = 200 ∧ lE 100 100 4 = 0 ∧ lO 100 100 4 = 150 := by decide +kernel
set_option maxRecDepth 100000 in
set_option maxHeartbeats 2000000 in
theorem alive_any  (w : World)  :
    Calls Try.prog 6 #[] w fun e w' => e = .returned (.bool true) ∧ Below w.heap.size w w' := by
  have q_0 := Below.refl w.heap.size w
  go_enter Try.func6, Try.ntmps6
  go_wp2_with fail
  refine (plaw 100 100 1 200 0 ex_law.1 ex_law.2.1 _).mono ?_
  rintro e V1 ⟨rfl, b⟩
  have q_1 := q_0.trans (b.mono q_0.size)
  clear q_0
  clear b
  go_wp2_with fail
  refine (plaw 100 100 4 150 0 ex_law.2.2.1 ex_law.2.2.2 _).mono ?_
  rintro e V2 ⟨rfl, b⟩
  have q_2 := q_1.trans (b.mono q_1.size)
  clear q_1
  clear b
  go_wp2_with fail
  refine (num_any _ _).mono ?_
  rintro e w' ⟨rfl, rfl⟩
  go_wp2_with fail
  refine (num_any _ _).mono ?_
  rintro e w' ⟨rfl, rfl⟩
  go_wp2_with fail
  refine (root_l 8 2 ex_root.1 _).mono ?_
  rintro e w' ⟨rfl, rfl⟩
  go_wp2_with fail
  refine (root_l 18446744073709551615 4294967295 ex_root.2 _).mono ?_
  rintro e w' ⟨rfl, rfl⟩
  go_wp2
  go_ret
  exact ⟨rfl, q_2⟩

end Go.Proofs.Yteflbfmkbkhimaa
