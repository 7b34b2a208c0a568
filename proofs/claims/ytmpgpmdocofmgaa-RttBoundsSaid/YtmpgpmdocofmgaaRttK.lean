/- Rtt: check. -/
import Derived.Test.YtmpgpmdocofmgaaRttC
namespace Go.Proofs.Ytmpgpmdocofmgaa
open Go.RowKit Go.Proofs.Ytmpgpmdocofmgaa.Rt8

set_option maxHeartbeats 400000 in
theorem chk_ok (i m x g : Int) (h : Bool) (s v b : Int) (w : World) (hP : PV i m x g) (hS : SV s v b) :
    Calls Try.prog 17 #[.agg #[.int .i64 i, .int .i64 m, .int .i64 x, .int .i64 g], .agg #[.bool h, .int .i64 s, .int .i64 v, .int .i64 b]] w fun e w' => e = .returned (.int .i64 0) ∧ Below w.heap.size w w' := by
  obtain ⟨h1, h2, h3⟩ := hS
  have HP := Lib.hid hP
  have HA : Hid (InR 0 17179869184 [s, v]) := Lib.hid (inR2.2 ⟨h1, h2⟩)
  have HB : Hid (InR 0 16 [b]) := Lib.hid (inR1.2 h3)
  clear hP h1 h2 h3
  go_enter Try.func17, Try.ntmps17
  go_wp2_with fail
  refine (check_yes i m x g _ HP.out).mono ?_
  rintro e w1 ⟨rfl, b1⟩
  obtain ⟨hc, hf⟩ := bcell b1
  have hz := b1.size
  simp only [World.size_alloc] at hz
  have hz1 : w.heap.size + 1 < w1.heap.size := by omega
  have Q : Hid (Below w.heap.size w w1) := Lib.hid ((((Below.refl _ _).alloc (Nat.le_refl _) _).alloc (by simp) _).trans (b1.mono (by simp; omega)))
  clear hz b1
  go_wp2_with fail
  refine (wn_yes 0 17179869184 [s, v] _ _ _ _ _ _ rfl rfl (by simp) (by simp) HA.out).mono ?_
  rintro e w' ⟨rfl, rfl⟩
  go_wp2_with fail
  refine (wn_yes 0 16 [b] _ _ _ _ _ _ rfl rfl (by simp) (by simp) HB.out).mono ?_
  rintro e w' ⟨rfl, rfl⟩
  go_wp2
  go_ret
  refine ⟨rfl, ?_⟩
  (repeat' (first | exact Q.out | refine Below.alloc ?_ (by first | omega | (simp; omega)) _ | refine Below.setCell ?_ (by first | omega | (simp; omega)) _))

set_option maxHeartbeats 400000 in
theorem chk_p (i m x g : Int) (h : Bool) (s v b : Int) (w : World) (hP : ¬ PV i m x g) :
    Calls Try.prog 17 #[.agg #[.int .i64 i, .int .i64 m, .int .i64 x, .int .i64 g], .agg #[.bool h, .int .i64 s, .int .i64 v, .int .i64 b]] w fun e w' => e = .returned (.int .i64 121) ∧ Below w.heap.size w w' := by
  have HP := Lib.hid hP
  clear hP
  go_enter Try.func17, Try.ntmps17
  go_wp2_with fail
  refine (check_no i m x g _ HP.out).mono ?_
  rintro e w1 ⟨rfl, b1⟩
  obtain ⟨hc, hf⟩ := bcell b1
  have hz := b1.size
  simp only [World.size_alloc] at hz
  have hz1 : w.heap.size + 1 < w1.heap.size := by omega
  have Q : Hid (Below w.heap.size w w1) := Lib.hid ((((Below.refl _ _).alloc (Nat.le_refl _) _).alloc (by simp) _).trans (b1.mono (by simp; omega)))
  clear hz b1
  go_wp2
  go_ret
  refine ⟨rfl, ?_⟩
  (repeat' (first | exact Q.out | refine Below.alloc ?_ (by first | omega | (simp; omega)) _ | refine Below.setCell ?_ (by first | omega | (simp; omega)) _))

set_option maxHeartbeats 400000 in
theorem chk_s (i m x g : Int) (h : Bool) (s v b : Int) (w : World) (hP : PV i m x g) (hS : ¬ SV s v b) :
    Calls Try.prog 17 #[.agg #[.int .i64 i, .int .i64 m, .int .i64 x, .int .i64 g], .agg #[.bool h, .int .i64 s, .int .i64 v, .int .i64 b]] w fun e w' => e = .returned (.int .i64 171) ∧ Below w.heap.size w w' := by
  have HP := Lib.hid hP
  clear hP
  by_cases hA : InR 0 17179869184 [s, v]
  · have HB : Hid (¬ InR 0 16 [b]) := Lib.hid (fun hb => hS ⟨(inR2.1 hA).1, (inR2.1 hA).2, inR1.1 hb⟩)
    have HA := Lib.hid hA
    clear hA hS
    go_enter Try.func17, Try.ntmps17
    go_wp2_with fail
    refine (check_yes i m x g _ HP.out).mono ?_
    rintro e w1 ⟨rfl, b1⟩
    obtain ⟨hc, hf⟩ := bcell b1
    have hz := b1.size
    simp only [World.size_alloc] at hz
    have hz1 : w.heap.size + 1 < w1.heap.size := by omega
    have Q : Hid (Below w.heap.size w w1) := Lib.hid ((((Below.refl _ _).alloc (Nat.le_refl _) _).alloc (by simp) _).trans (b1.mono (by simp; omega)))
    clear hz b1
    go_wp2_with fail
    refine (wn_yes 0 17179869184 [s, v] _ _ _ _ _ _ rfl rfl (by simp) (by simp) HA.out).mono ?_
    rintro e w' ⟨rfl, rfl⟩
    go_wp2_with fail
    refine (wn_no 0 16 [b] _ _ _ _ _ _ rfl rfl (by simp) (by simp) HB.out).mono ?_
    rintro e w' ⟨rfl, rfl⟩
    go_wp2
    go_ret
    refine ⟨rfl, ?_⟩
    (repeat' (first | exact Q.out | refine Below.alloc ?_ (by first | omega | (simp; omega)) _ | refine Below.setCell ?_ (by first | omega | (simp; omega)) _))
  · have HA := Lib.hid hA
    clear hA hS
    go_enter Try.func17, Try.ntmps17
    go_wp2_with fail
    refine (check_yes i m x g _ HP.out).mono ?_
    rintro e w1 ⟨rfl, b1⟩
    obtain ⟨hc, hf⟩ := bcell b1
    have hz := b1.size
    simp only [World.size_alloc] at hz
    have hz1 : w.heap.size + 1 < w1.heap.size := by omega
    have Q : Hid (Below w.heap.size w w1) := Lib.hid ((((Below.refl _ _).alloc (Nat.le_refl _) _).alloc (by simp) _).trans (b1.mono (by simp; omega)))
    clear hz b1
    go_wp2_with fail
    refine (wn_no 0 17179869184 [s, v] _ _ _ _ _ _ rfl rfl (by simp) (by simp) HA.out).mono ?_
    rintro e w' ⟨rfl, rfl⟩
    go_wp2
    go_ret
    refine ⟨rfl, ?_⟩
    (repeat' (first | exact Q.out | refine Below.alloc ?_ (by first | omega | (simp; omega)) _ | refine Below.setCell ?_ (by first | omega | (simp; omega)) _))

end Go.Proofs.Ytmpgpmdocofmgaa
