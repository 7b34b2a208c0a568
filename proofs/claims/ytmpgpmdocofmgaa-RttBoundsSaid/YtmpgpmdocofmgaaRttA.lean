/- Rtt: each call by one word; the page's example. -/
import Derived.Test.YtmpgpmdocofmgaaRttS
import Derived.Test.YtmpgpmdocofmgaaRttB
import Derived.Test.YtmpgpmdocofmgaaRttR
namespace Go.Proofs.Ytmpgpmdocofmgaa
open Go.RowKit Go.Proofs.Ytmpgpmdocofmgaa.Rt8

theorem num_any (n : Int) (w : World) : Calls Try.prog 13 #[.int .i64 n] w fun e w' => e = .returned (.int .i64 n) ∧ w = w' := by
  go_enter Try.func13, Try.ntmps13
  go_wp2
  go_ret
  exact ⟨rfl, rfl⟩

theorem check_any (i m x g : Int) (w : World) : Calls Try.prog 14 #[.agg #[.int .i64 i, .int .i64 m, .int .i64 x, .int .i64 g]] w fun e w' => e = .returned (.int .i64 (cE i m x g)) ∧ Below w.heap.size w w' := by
  by_cases hP : PV i m x g
  · rw [cE_yes hP]; exact check_yes i m x g w hP
  · rw [cE_no hP]; exact check_no i m x g w hP

theorem sample_any (i m x g : Int) (h : Bool) (s v b : Int) (r : Int) (w : World) : Calls Try.prog 7 #[.agg #[.int .i64 i, .int .i64 m, .int .i64 x, .int .i64 g], .agg #[.bool h, .int .i64 s, .int .i64 v, .int .i64 b], .int .i64 r] w fun e w' => e = .returned (.tuple #[.agg #[.bool (sH (erR i m x g s v b r)), .int .i64 (sS (erR i m x g s v b r) h s r), .int .i64 (sV (erR i m x g s v b r) h s v r), .int .i64 0], .int .i64 (erR i m x g s v b r)]) ∧ Below w.heap.size w w' := by
  by_cases hP : PV i m x g
  · by_cases hS : SV s v b
    · by_cases hR : RV r
      · rw [erR_ok hP hS hR]; exact sample_ok i m x g h s v b r w hP hS hR
      · rw [erR_r hP hS hR]; exact sample_r i m x g h s v b r w hP hS hR
    · rw [erR_s hP hS]; exact sample_s i m x g h s v b r w hP hS
  · rw [erR_p hP]; exact sample_p i m x g h s v b r w hP

theorem back_any (i m x g : Int) (h : Bool) (s v b : Int) (w : World) : Calls Try.prog 9 #[.agg #[.int .i64 i, .int .i64 m, .int .i64 x, .int .i64 g], .agg #[.bool h, .int .i64 s, .int .i64 v, .int .i64 b]] w fun e w' => e = .returned (.tuple #[.agg #[.bool (bH (er i m x g s v b) h), .int .i64 (bN (er i m x g s v b) s), .int .i64 (bN (er i m x g s v b) v), .int .i64 (bB (er i m x g s v b) b)], .int .i64 (er i m x g s v b)]) ∧ Below w.heap.size w w' := by
  by_cases hP : PV i m x g
  · by_cases hS : SV s v b
    · rw [er_ok hP hS]; exact back_ok i m x g h s v b w hP hS
    · rw [er_s hP hS]; exact back_s i m x g h s v b w hP hS
  · rw [er_p hP]; exact back_p i m x g h s v b w hP

theorem rto_any (i m x g : Int) (h : Bool) (s v b : Int) (w : World) : Calls Try.prog 11 #[.agg #[.int .i64 i, .int .i64 m, .int .i64 x, .int .i64 g], .agg #[.bool h, .int .i64 s, .int .i64 v, .int .i64 b]] w fun e w' => e = .returned (.tuple #[.int .i64 (rto (er i m x g s v b) h i m x g s v b), .int .i64 (er i m x g s v b)]) ∧ Below w.heap.size w w' := by
  by_cases hP : PV i m x g
  · by_cases hS : SV s v b
    · rw [er_ok hP hS]; exact rto_ok i m x g h s v b w hP hS
    · rw [er_s hP hS]; exact rto_s i m x g h s v b w hP hS
  · rw [er_p hP]; exact rto_p i m x g h s v b w hP

theorem rsample_any (i m x g : Int) (h : Bool) (s v b : Int) (r : Int) (w : World) : Calls Try.prog 8 #[.agg #[.int .i64 i, .int .i64 m, .int .i64 x, .int .i64 g], .agg #[.bool h, .int .i64 s, .int .i64 v, .int .i64 b], .int .i64 r] w fun e w' => e = .returned (.tuple #[.agg #[.bool (sH (erR i m x g s v b r)), .int .i64 (sS (erR i m x g s v b r) h s r), .int .i64 (sV (erR i m x g s v b r) h s v r), .int .i64 0], .int .i64 (erR i m x g s v b r)]) ∧ Below w.heap.size w w' := by
  by_cases hP : PV i m x g
  · by_cases hS : SV s v b
    · by_cases hR : RV r
      · rw [erR_ok hP hS hR]; exact rsample_ok i m x g h s v b r w hP hS hR
      · rw [erR_r hP hS hR]; exact rsample_r i m x g h s v b r w hP hS hR
    · rw [erR_s hP hS]; exact rsample_s i m x g h s v b r w hP hS
  · rw [erR_p hP]; exact rsample_p i m x g h s v b r w hP

theorem rback_any (i m x g : Int) (h : Bool) (s v b : Int) (w : World) : Calls Try.prog 10 #[.agg #[.int .i64 i, .int .i64 m, .int .i64 x, .int .i64 g], .agg #[.bool h, .int .i64 s, .int .i64 v, .int .i64 b]] w fun e w' => e = .returned (.tuple #[.agg #[.bool (bH (er i m x g s v b) h), .int .i64 (bN (er i m x g s v b) s), .int .i64 (bN (er i m x g s v b) v), .int .i64 (bB (er i m x g s v b) b)], .int .i64 (er i m x g s v b)]) ∧ Below w.heap.size w w' := by
  by_cases hP : PV i m x g
  · by_cases hS : SV s v b
    · rw [er_ok hP hS]; exact rback_ok i m x g h s v b w hP hS
    · rw [er_s hP hS]; exact rback_s i m x g h s v b w hP hS
  · rw [er_p hP]; exact rback_p i m x g h s v b w hP

theorem rrto_any (i m x g : Int) (h : Bool) (s v b : Int) (w : World) : Calls Try.prog 12 #[.agg #[.int .i64 i, .int .i64 m, .int .i64 x, .int .i64 g], .agg #[.bool h, .int .i64 s, .int .i64 v, .int .i64 b]] w fun e w' => e = .returned (.tuple #[.int .i64 (rto (er i m x g s v b) h i m x g s v b), .int .i64 (er i m x g s v b)]) ∧ Below w.heap.size w w' := by
  by_cases hP : PV i m x g
  · by_cases hS : SV s v b
    · rw [er_ok hP hS]; exact rrto_ok i m x g h s v b w hP hS
    · rw [er_s hP hS]; exact rrto_s i m x g h s v b w hP hS
  · rw [er_p hP]; exact rrto_p i m x g h s v b w hP

theorem sample_l (i m x g : Int) (h : Bool) (s v b : Int) (r : Int) (E : Int) (a : Bool) (b' c' : Int) (hE : erR i m x g s v b r = E) (h1 : sH E = a) (h2 : sS E h s r = b') (h3 : sV E h s v r = c') (w : World) : Calls Try.prog 7 #[.agg #[.int .i64 i, .int .i64 m, .int .i64 x, .int .i64 g], .agg #[.bool h, .int .i64 s, .int .i64 v, .int .i64 b], .int .i64 r] w fun e w' => e = .returned (.tuple #[.agg #[.bool a, .int .i64 b', .int .i64 c', .int .i64 0], .int .i64 E]) ∧ Below w.heap.size w w' := by
  subst hE h1 h2 h3
  exact sample_any i m x g h s v b r w
theorem back_l (i m x g : Int) (h : Bool) (s v b : Int) (E : Int) (a : Bool) (b' c' d' : Int) (hE : er i m x g s v b = E) (h1 : bH E h = a) (h2 : bN E s = b') (h3 : bN E v = c') (h4 : bB E b = d') (w : World) : Calls Try.prog 9 #[.agg #[.int .i64 i, .int .i64 m, .int .i64 x, .int .i64 g], .agg #[.bool h, .int .i64 s, .int .i64 v, .int .i64 b]] w fun e w' => e = .returned (.tuple #[.agg #[.bool a, .int .i64 b', .int .i64 c', .int .i64 d'], .int .i64 E]) ∧ Below w.heap.size w w' := by
  subst hE h1 h2 h3 h4
  exact back_any i m x g h s v b w
theorem rto_l (i m x g : Int) (h : Bool) (s v b : Int) (E t : Int) (hE : er i m x g s v b = E) (h1 : rto E h i m x g s v b = t) (w : World) : Calls Try.prog 11 #[.agg #[.int .i64 i, .int .i64 m, .int .i64 x, .int .i64 g], .agg #[.bool h, .int .i64 s, .int .i64 v, .int .i64 b]] w fun e w' => e = .returned (.tuple #[.int .i64 t, .int .i64 E]) ∧ Below w.heap.size w w' := by
  subst hE h1
  exact rto_any i m x g h s v b w
theorem check_l (i m x g E : Int) (hE : cE i m x g = E) (w : World) : Calls Try.prog 14 #[.agg #[.int .i64 i, .int .i64 m, .int .i64 x, .int .i64 g]] w fun e w' => e = .returned (.int .i64 E) ∧ Below w.heap.size w w' := by
  subst hE
  exact check_any i m x g w

theorem rsample_l (i m x g : Int) (h : Bool) (s v b : Int) (r : Int) (E : Int) (a : Bool) (b' c' : Int) (hE : erR i m x g s v b r = E) (h1 : sH E = a) (h2 : sS E h s r = b') (h3 : sV E h s v r = c') (w : World) : Calls Try.prog 8 #[.agg #[.int .i64 i, .int .i64 m, .int .i64 x, .int .i64 g], .agg #[.bool h, .int .i64 s, .int .i64 v, .int .i64 b], .int .i64 r] w fun e w' => e = .returned (.tuple #[.agg #[.bool a, .int .i64 b', .int .i64 c', .int .i64 0], .int .i64 E]) ∧ Below w.heap.size w w' := by
  subst hE h1 h2 h3
  exact rsample_any i m x g h s v b r w
theorem rback_l (i m x g : Int) (h : Bool) (s v b : Int) (E : Int) (a : Bool) (b' c' d' : Int) (hE : er i m x g s v b = E) (h1 : bH E h = a) (h2 : bN E s = b') (h3 : bN E v = c') (h4 : bB E b = d') (w : World) : Calls Try.prog 10 #[.agg #[.int .i64 i, .int .i64 m, .int .i64 x, .int .i64 g], .agg #[.bool h, .int .i64 s, .int .i64 v, .int .i64 b]] w fun e w' => e = .returned (.tuple #[.agg #[.bool a, .int .i64 b', .int .i64 c', .int .i64 d'], .int .i64 E]) ∧ Below w.heap.size w w' := by
  subst hE h1 h2 h3 h4
  exact rback_any i m x g h s v b w
theorem rrto_l (i m x g : Int) (h : Bool) (s v b : Int) (E t : Int) (hE : er i m x g s v b = E) (h1 : rto E h i m x g s v b = t) (w : World) : Calls Try.prog 12 #[.agg #[.int .i64 i, .int .i64 m, .int .i64 x, .int .i64 g], .agg #[.bool h, .int .i64 s, .int .i64 v, .int .i64 b]] w fun e w' => e = .returned (.tuple #[.int .i64 t, .int .i64 E]) ∧ Below w.heap.size w w' := by
  subst hE h1
  exact rrto_any i m x g h s v b w
theorem rcheck_l (i m x g E : Int) (hE : cE i m x g = E) (w : World) : Calls Try.prog 15 #[.agg #[.int .i64 i, .int .i64 m, .int .i64 x, .int .i64 g]] w fun e w' => e = .returned (.int .i64 E) ∧ Below w.heap.size w w' := by
  subst hE
  exact rcheck_any i m x g w

namespace al
theorem hP : PV 1000 10 60000 1 := by decide
theorem s1 (w : World) : Calls Try.prog 7 #[.agg #[.int .i64 1000, .int .i64 10, .int .i64 60000, .int .i64 1], .agg #[.bool false, .int .i64 0, .int .i64 0, .int .i64 0], .int .i64 100] w fun e w' => e = .returned (.tuple #[.agg #[.bool true, .int .i64 800, .int .i64 200, .int .i64 0], .int .i64 0]) ∧ Below w.heap.size w w' := sample_ok 1000 10 60000 1 false 0 0 0 100 w hP (by decide) (by decide)
theorem r1 (w : World) : Calls Try.prog 11 #[.agg #[.int .i64 1000, .int .i64 10, .int .i64 60000, .int .i64 1], .agg #[.bool true, .int .i64 800, .int .i64 200, .int .i64 0]] w fun e w' => e = .returned (.tuple #[.int .i64 300, .int .i64 0]) ∧ Below w.heap.size w w' := rto_ok 1000 10 60000 1 true 800 200 0 w hP (by decide)
theorem s2 (w : World) : Calls Try.prog 7 #[.agg #[.int .i64 1000, .int .i64 10, .int .i64 60000, .int .i64 1], .agg #[.bool true, .int .i64 800, .int .i64 200, .int .i64 0], .int .i64 100] w fun e w' => e = .returned (.tuple #[.agg #[.bool true, .int .i64 800, .int .i64 150, .int .i64 0], .int .i64 0]) ∧ Below w.heap.size w w' := sample_ok 1000 10 60000 1 true 800 200 0 100 w hP (by decide) (by decide)
theorem r2 (w : World) : Calls Try.prog 11 #[.agg #[.int .i64 1000, .int .i64 10, .int .i64 60000, .int .i64 1], .agg #[.bool true, .int .i64 800, .int .i64 150, .int .i64 0]] w fun e w' => e = .returned (.tuple #[.int .i64 250, .int .i64 0]) ∧ Below w.heap.size w w' := rto_ok 1000 10 60000 1 true 800 150 0 w hP (by decide)
end al
set_option maxHeartbeats 2000000 in
theorem alive_any  (w : World)  :
    Calls Try.prog 16 #[] w fun e w' => e = .returned (.bool true) ∧ Below w.heap.size w w' := by
  go_enter Try.func16, Try.ntmps16
  go_wp2_with fail
  refine (al.s1 _).mono ?_
  rintro e w1 ⟨rfl, b1⟩
  obtain ⟨hc1, hf1⟩ := bcell b1
  have Q1 : Hid (Below w.heap.size w w1) := Lib.hid (below_after (by (repeat' (first | (with_reducible exact Below.refl _ _) | (with_reducible refine Below.alloc ?_ ?_ _) | (with_reducible refine Below.setCell ?_ ?_ _) | (with_reducible refine Below.drew ?_) | (with_reducible refine below_drewN ?_ _) | omega | (dsimp only; omega) | (simp; done) | (simp; omega)))) b1)
  have hz1 := b1.size
  try simp at hz1
  have hz1_0 : w.heap.size < w1.heap.size := by omega
  clear hz1 b1
  go_wp2_with fail
  refine (al.r1 _).mono ?_
  rintro e w2 ⟨rfl, b2⟩
  obtain ⟨hc2, hf2⟩ := bcell b2
  have Q2 : Hid (Below w.heap.size w w2) := Lib.hid (below_after (by (repeat' (first | (with_reducible exact Q1.out) | (with_reducible exact Below.refl _ _) | (with_reducible refine Below.alloc ?_ ?_ _) | (with_reducible refine Below.setCell ?_ ?_ _) | (with_reducible refine Below.drew ?_) | (with_reducible refine below_drewN ?_ _) | omega | (dsimp only; omega) | (simp; done) | (simp; omega)))) b2)
  have hz2 := b2.size
  try simp at hz2
  have hz2_0 : w.heap.size < w2.heap.size := by omega
  have hz2_1 : w1.heap.size < w2.heap.size := by omega
  clear hz2 b2
  go_wp2_with fail
  refine (al.s2 _).mono ?_
  rintro e w3 ⟨rfl, b3⟩
  obtain ⟨hc3, hf3⟩ := bcell b3
  have Q3 : Hid (Below w.heap.size w w3) := Lib.hid (below_after (by (repeat' (first | (with_reducible exact Q2.out) | (with_reducible exact Below.refl _ _) | (with_reducible refine Below.alloc ?_ ?_ _) | (with_reducible refine Below.setCell ?_ ?_ _) | (with_reducible refine Below.drew ?_) | (with_reducible refine below_drewN ?_ _) | omega | (dsimp only; omega) | (simp; done) | (simp; omega)))) b3)
  have hz3 := b3.size
  try simp at hz3
  have hz3_0 : w.heap.size < w3.heap.size := by omega
  have hz3_1 : w1.heap.size < w3.heap.size := by omega
  clear hz3 b3
  go_wp2_with fail
  refine (al.r2 _).mono ?_
  rintro e w4 ⟨rfl, b4⟩
  obtain ⟨hc4, hf4⟩ := bcell b4
  have Q4 : Hid (Below w.heap.size w w4) := Lib.hid (below_after (by (repeat' (first | (with_reducible exact Q3.out) | (with_reducible exact Below.refl _ _) | (with_reducible refine Below.alloc ?_ ?_ _) | (with_reducible refine Below.setCell ?_ ?_ _) | (with_reducible refine Below.drew ?_) | (with_reducible refine below_drewN ?_ _) | omega | (dsimp only; omega) | (simp; done) | (simp; omega)))) b4)
  have hz4 := b4.size
  try simp at hz4
  have hz4_0 : w.heap.size < w4.heap.size := by omega
  have hz4_1 : w1.heap.size < w4.heap.size := by omega
  clear hz4 b4
  go_wp2_with fail
  refine (num_any _ _).mono ?_
  rintro e w' ⟨rfl, rfl⟩
  go_wp2_with fail
  refine (num_any _ _).mono ?_
  rintro e w' ⟨rfl, rfl⟩
  go_wp2_with fail
  refine (num_any _ _).mono ?_
  rintro e w' ⟨rfl, rfl⟩
  go_wp2_with fail
  refine (num_any _ _).mono ?_
  rintro e w' ⟨rfl, rfl⟩
  go_wp2
  go_ret
  refine ⟨rfl, ?_⟩
  (repeat' (first | (with_reducible exact Q4.out) | (with_reducible exact Below.refl _ _) | (with_reducible refine Below.alloc ?_ ?_ _) | (with_reducible refine Below.setCell ?_ ?_ _) | (with_reducible refine Below.drew ?_) | (with_reducible refine below_drewN ?_ _) | omega | (dsimp only; omega) | (simp; done) | (simp; omega)))

end Go.Proofs.Ytmpgpmdocofmgaa
