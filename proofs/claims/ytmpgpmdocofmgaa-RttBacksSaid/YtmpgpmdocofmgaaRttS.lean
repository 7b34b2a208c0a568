/- Rtt: Sample. -/
import Derived.Test.YtmpgpmdocofmgaaRttK
namespace Go.Proofs.Ytmpgpmdocofmgaa
open Go.RowKit Go.Proofs.Ytmpgpmdocofmgaa.Rt8
set_option profiler true
set_option profiler.threshold 2000

set_option maxHeartbeats 4000000 in
theorem sample_ok (i m x g : Int) (h : Bool) (s v b r : Int) (w : World) (hP : PV i m x g) (hS : SV s v b) (hR : RV r) :
    Calls Try.prog 7 #[.agg #[.int .i64 i, .int .i64 m, .int .i64 x, .int .i64 g], .agg #[.bool h, .int .i64 s, .int .i64 v, .int .i64 b], .int .i64 r] w fun e w' => e = .returned (.tuple #[.agg #[.bool true, .int .i64 (sS 0 h s r), .int .i64 (sV 0 h s v r), .int .i64 0], .int .i64 0]) ∧ Below w.heap.size w w' := by
  have HP := Lib.hid hP
  have HS := Lib.hid hS
  obtain ⟨⟨s1, s2⟩, ⟨v1, v2⟩, _, _⟩ := hS
  obtain ⟨r1, r2⟩ := hR
  have HA : Hid (InR 0 1073741824 [r]) := Lib.hid (inR1.2 ⟨r1, r2⟩)
  clear hP
  cases h with
  | false =>
    have e1 : sS 0 false s r = 8 * r := by simp [sS]
    have e2 : sV 0 false s v r = 4 * r / 2 := by simp [sV]; try omega
    rw [e1, e2]
    clear e1 e2
    go_enter Try.func7, Try.ntmps7
    go_wp2_with fail
    refine (chk_ok i m x g _ s v b _ HP.out HS.out).mono ?_
    rintro e w1 ⟨rfl, b1⟩
    obtain ⟨hc1, hf1⟩ := bcell b1
    have Q1 : Hid (Below w.heap.size w w1) := Lib.hid (below_after (by (repeat' (first | (with_reducible exact Below.refl _ _) | (with_reducible refine Below.alloc ?_ ?_ _) | (with_reducible refine Below.setCell ?_ ?_ _) | (with_reducible refine Below.drew ?_) | omega | (dsimp only; omega) | (simp; done) | (simp; omega)))) b1)
    have hz1 := b1.size
    try simp at hz1
    have hz1_0 : w.heap.size < w1.heap.size := by omega
    have hz1_1 : w.heap.size + 1 < w1.heap.size := by omega
    have hz1_2 : w.heap.size + 1 + 1 < w1.heap.size := by omega
    clear hz1 b1
    go_wp2_with fail
    refine (wn_yes 0 1073741824 [r] _ _ _ _ _ _ rfl rfl (by simp) (by simp) HA.out).mono ?_
    rintro e w' ⟨rfl, rfl⟩
    go_wp2
    refine bodyPost_ret (v := .tuple #[.agg #[.bool true, .int .i64 (8 * r), .int .i64 (4 * r / 2), .int .i64 0], .int .i64 0]) (by simp [results, Try.results7, go_sem, *]) rfl ⟨rfl, ?_⟩
    (repeat' (first | (with_reducible exact Q1.out) | (with_reducible exact Below.refl _ _) | (with_reducible refine Below.alloc ?_ ?_ _) | (with_reducible refine Below.setCell ?_ ?_ _) | (with_reducible refine Below.drew ?_) | omega | (dsimp only; omega) | (simp; done) | (simp; omega)))
  | true =>
    have e1 : sS 0 true s r = s + (r - s / 8) := by simp [sS]
    have e2 : sV 0 true s v r = v + (max (r - s / 8) (-(r - s / 8)) - v / 4) := by simp [sV]; try omega
    rw [e1, e2]
    clear e1 e2
    go_enter Try.func7, Try.ntmps7
    go_wp2_with fail
    refine (chk_ok i m x g _ s v b _ HP.out HS.out).mono ?_
    rintro e w1 ⟨rfl, b1⟩
    obtain ⟨hc1, hf1⟩ := bcell b1
    have Q1 : Hid (Below w.heap.size w w1) := Lib.hid (below_after (by (repeat' (first | (with_reducible exact Below.refl _ _) | (with_reducible refine Below.alloc ?_ ?_ _) | (with_reducible refine Below.setCell ?_ ?_ _) | (with_reducible refine Below.drew ?_) | omega | (dsimp only; omega) | (simp; done) | (simp; omega)))) b1)
    have hz1 := b1.size
    try simp at hz1
    have hz1_0 : w.heap.size < w1.heap.size := by omega
    have hz1_1 : w.heap.size + 1 < w1.heap.size := by omega
    have hz1_2 : w.heap.size + 1 + 1 < w1.heap.size := by omega
    clear hz1 b1
    go_wp2_with fail
    refine (wn_yes 0 1073741824 [r] _ _ _ _ _ _ rfl rfl (by simp) (by simp) HA.out).mono ?_
    rintro e w' ⟨rfl, rfl⟩
    go_wp2
    refine bodyPost_ret (v := .tuple #[.agg #[.bool true, .int .i64 (s + (r - s / 8)), .int .i64 (v + (max (r - s / 8) (-(r - s / 8)) - v / 4)), .int .i64 0], .int .i64 0]) (by simp [results, Try.results7, go_sem, *]) rfl ⟨rfl, ?_⟩
    (repeat' (first | (with_reducible exact Q1.out) | (with_reducible exact Below.refl _ _) | (with_reducible refine Below.alloc ?_ ?_ _) | (with_reducible refine Below.setCell ?_ ?_ _) | (with_reducible refine Below.drew ?_) | omega | (dsimp only; omega) | (simp; done) | (simp; omega)))
set_option maxHeartbeats 4000000 in
theorem sample_p (i m x g : Int) (h : Bool) (s v b r : Int) (w : World) (hP : ¬ PV i m x g) :
    Calls Try.prog 7 #[.agg #[.int .i64 i, .int .i64 m, .int .i64 x, .int .i64 g], .agg #[.bool h, .int .i64 s, .int .i64 v, .int .i64 b], .int .i64 r] w fun e w' => e = .returned (.tuple #[.agg #[.bool false, .int .i64 0, .int .i64 0, .int .i64 0], .int .i64 121]) ∧ Below w.heap.size w w' := by
  have HP := Lib.hid hP
  clear hP
  go_enter Try.func7, Try.ntmps7
  go_wp2_with fail
  refine (chk_p i m x g _ s v b _ HP.out).mono ?_
  rintro e w1 ⟨rfl, b1⟩
  obtain ⟨hc1, hf1⟩ := bcell b1
  have Q1 : Hid (Below w.heap.size w w1) := Lib.hid (below_after (by (repeat' (first | (with_reducible exact Below.refl _ _) | (with_reducible refine Below.alloc ?_ ?_ _) | (with_reducible refine Below.setCell ?_ ?_ _) | (with_reducible refine Below.drew ?_) | omega | (dsimp only; omega) | (simp; done) | (simp; omega)))) b1)
  have hz1 := b1.size
  try simp at hz1
  have hz1_0 : w.heap.size < w1.heap.size := by omega
  have hz1_1 : w.heap.size + 1 < w1.heap.size := by omega
  have hz1_2 : w.heap.size + 1 + 1 < w1.heap.size := by omega
  clear hz1 b1
  go_wp2
  refine bodyPost_ret (v := .tuple #[.agg #[.bool false, .int .i64 0, .int .i64 0, .int .i64 0], .int .i64 121]) (by simp [results, Try.results7, go_sem, *]) rfl ⟨rfl, ?_⟩
  (repeat' (first | (with_reducible exact Q1.out) | (with_reducible exact Below.refl _ _) | (with_reducible refine Below.alloc ?_ ?_ _) | (with_reducible refine Below.setCell ?_ ?_ _) | (with_reducible refine Below.drew ?_) | omega | (dsimp only; omega) | (simp; done) | (simp; omega)))
set_option maxHeartbeats 4000000 in
theorem sample_s (i m x g : Int) (h : Bool) (s v b r : Int) (w : World) (hP : PV i m x g) (hS : ¬ SV s v b) :
    Calls Try.prog 7 #[.agg #[.int .i64 i, .int .i64 m, .int .i64 x, .int .i64 g], .agg #[.bool h, .int .i64 s, .int .i64 v, .int .i64 b], .int .i64 r] w fun e w' => e = .returned (.tuple #[.agg #[.bool false, .int .i64 0, .int .i64 0, .int .i64 0], .int .i64 171]) ∧ Below w.heap.size w w' := by
  have HP := Lib.hid hP
  have HS := Lib.hid hS
  clear hP hS
  go_enter Try.func7, Try.ntmps7
  go_wp2_with fail
  refine (chk_s i m x g _ s v b _ HP.out HS.out).mono ?_
  rintro e w1 ⟨rfl, b1⟩
  obtain ⟨hc1, hf1⟩ := bcell b1
  have Q1 : Hid (Below w.heap.size w w1) := Lib.hid (below_after (by (repeat' (first | (with_reducible exact Below.refl _ _) | (with_reducible refine Below.alloc ?_ ?_ _) | (with_reducible refine Below.setCell ?_ ?_ _) | (with_reducible refine Below.drew ?_) | omega | (dsimp only; omega) | (simp; done) | (simp; omega)))) b1)
  have hz1 := b1.size
  try simp at hz1
  have hz1_0 : w.heap.size < w1.heap.size := by omega
  have hz1_1 : w.heap.size + 1 < w1.heap.size := by omega
  have hz1_2 : w.heap.size + 1 + 1 < w1.heap.size := by omega
  clear hz1 b1
  go_wp2
  refine bodyPost_ret (v := .tuple #[.agg #[.bool false, .int .i64 0, .int .i64 0, .int .i64 0], .int .i64 171]) (by simp [results, Try.results7, go_sem, *]) rfl ⟨rfl, ?_⟩
  (repeat' (first | (with_reducible exact Q1.out) | (with_reducible exact Below.refl _ _) | (with_reducible refine Below.alloc ?_ ?_ _) | (with_reducible refine Below.setCell ?_ ?_ _) | (with_reducible refine Below.drew ?_) | omega | (dsimp only; omega) | (simp; done) | (simp; omega)))
set_option maxHeartbeats 4000000 in
theorem sample_r (i m x g : Int) (h : Bool) (s v b r : Int) (w : World) (hP : PV i m x g) (hS : SV s v b) (hR : ¬ RV r) :
    Calls Try.prog 7 #[.agg #[.int .i64 i, .int .i64 m, .int .i64 x, .int .i64 g], .agg #[.bool h, .int .i64 s, .int .i64 v, .int .i64 b], .int .i64 r] w fun e w' => e = .returned (.tuple #[.agg #[.bool false, .int .i64 0, .int .i64 0, .int .i64 0], .int .i64 4]) ∧ Below w.heap.size w w' := by
  have HP := Lib.hid hP
  have HS := Lib.hid hS
  have HA : Hid (¬ InR 0 1073741824 [r]) := Lib.hid (fun h => hR (inR1.1 h))
  clear hP hS hR
  go_enter Try.func7, Try.ntmps7
  go_wp2_with fail
  refine (chk_ok i m x g _ s v b _ HP.out HS.out).mono ?_
  rintro e w1 ⟨rfl, b1⟩
  obtain ⟨hc1, hf1⟩ := bcell b1
  have Q1 : Hid (Below w.heap.size w w1) := Lib.hid (below_after (by (repeat' (first | (with_reducible exact Below.refl _ _) | (with_reducible refine Below.alloc ?_ ?_ _) | (with_reducible refine Below.setCell ?_ ?_ _) | (with_reducible refine Below.drew ?_) | omega | (dsimp only; omega) | (simp; done) | (simp; omega)))) b1)
  have hz1 := b1.size
  try simp at hz1
  have hz1_0 : w.heap.size < w1.heap.size := by omega
  have hz1_1 : w.heap.size + 1 < w1.heap.size := by omega
  have hz1_2 : w.heap.size + 1 + 1 < w1.heap.size := by omega
  clear hz1 b1
  go_wp2_with fail
  refine (wn_no 0 1073741824 [r] _ _ _ _ _ _ rfl rfl (by simp) (by simp) HA.out).mono ?_
  rintro e w' ⟨rfl, rfl⟩
  go_wp2
  refine bodyPost_ret (v := .tuple #[.agg #[.bool false, .int .i64 0, .int .i64 0, .int .i64 0], .int .i64 4]) (by simp [results, Try.results7, go_sem, *]) rfl ⟨rfl, ?_⟩
  (repeat' (first | (with_reducible exact Q1.out) | (with_reducible exact Below.refl _ _) | (with_reducible refine Below.alloc ?_ ?_ _) | (with_reducible refine Below.setCell ?_ ?_ _) | (with_reducible refine Below.drew ?_) | omega | (dsimp only; omega) | (simp; done) | (simp; omega)))
end Go.Proofs.Ytmpgpmdocofmgaa
