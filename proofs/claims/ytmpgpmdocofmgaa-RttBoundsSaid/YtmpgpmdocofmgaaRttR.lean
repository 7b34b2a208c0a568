/- Rtt: the document's own answers. -/
import Derived.Test.YtmpgpmdocofmgaaGBase
import Derived.Test.YtmpgpmdocofmgaaRttM
import Derived.Laws.ShiftsVarLaws
import Derived.Lib.MinMax
import Derived.LoopTactic
namespace Go.Proofs.Ytmpgpmdocofmgaa
open Go.RowKit Go.Proofs.Ytmpgpmdocofmgaa.Rt8

theorem rin_any (n lo hi : Int) (w : World) : Calls Try.prog 20 #[.int .i64 n, .int .i64 lo, .int .i64 hi] w fun e w' => e = .returned (.bool (inb n lo hi)) ∧ w = w' := by
  by_cases h1 : lo ≤ n
  · by_cases h2 : n ≤ hi
    · rw [inb_true h1 h2]
      go_enter Try.func20, Try.ntmps20
      go_wp2
      go_ret
      exact ⟨rfl, rfl⟩
    · rw [inb_not.2 (fun h => h2 h.2)]
      go_enter Try.func20, Try.ntmps20
      go_wp2
      go_ret
      exact ⟨rfl, rfl⟩
  · rw [inb_not.2 (fun h => h1 h.1)]
    go_enter Try.func20, Try.ntmps20
    go_wp2
    go_ret
    exact ⟨rfl, rfl⟩

set_option maxHeartbeats 2000000 in
theorem rcheck_any (i m x g : Int) (w : World)  :
    Calls Try.prog 15 #[.agg #[.int .i64 i, .int .i64 m, .int .i64 x, .int .i64 g]] w fun e w' => e = .returned (.int .i64 (cE i m x g)) ∧ Below w.heap.size w w' := by
  have hb : PV i m x g ↔ (inb i 1 1073741824 = true ∧ inb m 1 1073741824 = true ∧ inb x 1 1073741824 = true ∧ inb g 1 1073741824 = true ∧ m ≤ x) := by
    simp only [inb_iff]; exact Iff.rfl
  have HB := Lib.hid hb
  clear hb
  go_enter Try.func15, Try.ntmps15
  go_wp2_with (go_at_call 20; refine (rin_any _ _ _ _).mono ?_; rintro e w' ⟨rfl, rfl⟩)
  all_goals
    go_ret
    refine ⟨?_, ?_⟩
    · first
      | (rw [cE_yes (HB.out.2 ⟨by assumption, by assumption, by assumption, by assumption, by omega⟩)]; rfl)
      | (rw [cE_no (fun h => by obtain ⟨h1, h2, h3, h4, h5⟩ := HB.out.1 h; omega)]; rfl)
      | (rw [cE_no (fun h => by obtain ⟨h1, h2, h3, h4, h5⟩ := HB.out.1 h; simp_all; done)]; rfl)
    · (repeat' (first | (with_reducible exact Below.refl _ _) | (with_reducible refine Below.alloc ?_ ?_ _) | (with_reducible refine Below.setCell ?_ ?_ _) | (with_reducible refine Below.drew ?_) | (with_reducible refine below_drewN ?_ _) | omega | (dsimp only; omega) | (simp; done) | (simp; omega)))

theorem rcheck_yes (i m x g : Int) (w : World) (h : PV i m x g) : Calls Try.prog 15 #[.agg #[.int .i64 i, .int .i64 m, .int .i64 x, .int .i64 g]] w fun e w' => e = .returned (.int .i64 0) ∧ Below w.heap.size w w' :=
  (rcheck_any i m x g w).mono fun e w' ⟨h1, h2⟩ => ⟨by rw [h1, cE_yes h], h2⟩

theorem rcheck_no (i m x g : Int) (w : World) (h : ¬ PV i m x g) : Calls Try.prog 15 #[.agg #[.int .i64 i, .int .i64 m, .int .i64 x, .int .i64 g]] w fun e w' => e = .returned (.int .i64 121) ∧ Below w.heap.size w w' :=
  (rcheck_any i m x g w).mono fun e w' ⟨h1, h2⟩ => ⟨by rw [h1, cE_no h], h2⟩

set_option maxHeartbeats 2000000 in
theorem beg_ok (i m x g : Int) (h : Bool) (s v b : Int) (w : World) (hP : PV i m x g) (hS : SV s v b) :
    Calls Try.prog 19 #[.agg #[.int .i64 i, .int .i64 m, .int .i64 x, .int .i64 g], .agg #[.bool h, .int .i64 s, .int .i64 v, .int .i64 b]] w fun e w' => e = .returned (.int .i64 0) ∧ Below w.heap.size w w' := by
  have HP := Lib.hid hP
  clear hP
  obtain ⟨⟨s1, s2⟩, ⟨v1, v2⟩, b1, b2⟩ := hS
  have h1 := inb_true s1 s2
  have h2 := inb_true v1 v2
  have h3 := inb_true b1 b2
  go_enter Try.func19, Try.ntmps19
  go_wp2_with fail
  refine (rcheck_yes i m x g _ HP.out).mono ?_
  rintro e w1 ⟨rfl, b1⟩
  obtain ⟨hc1, hf1⟩ := bcell b1
  have Q1 : Hid (Below w.heap.size w w1) := Lib.hid (below_after (by (repeat' (first | (with_reducible exact Below.refl _ _) | (with_reducible refine Below.alloc ?_ ?_ _) | (with_reducible refine Below.setCell ?_ ?_ _) | (with_reducible refine Below.drew ?_) | (with_reducible refine below_drewN ?_ _) | omega | (dsimp only; omega) | (simp; done) | (simp; omega)))) b1)
  have hz1 := b1.size
  try simp at hz1
  have hz1_0 : w.heap.size < w1.heap.size := by omega
  have hz1_1 : w.heap.size + 1 < w1.heap.size := by omega
  clear hz1 b1
  go_wp2_with (go_at_call 20; refine (rin_any _ _ _ _).mono ?_; rintro e w' ⟨rfl, rfl⟩)
  go_ret
  refine ⟨rfl, ?_⟩
  (repeat' (first | (with_reducible exact Q1.out) | (with_reducible exact Below.refl _ _) | (with_reducible refine Below.alloc ?_ ?_ _) | (with_reducible refine Below.setCell ?_ ?_ _) | (with_reducible refine Below.drew ?_) | (with_reducible refine below_drewN ?_ _) | omega | (dsimp only; omega) | (simp; done) | (simp; omega)))

set_option maxHeartbeats 2000000 in
theorem beg_p (i m x g : Int) (h : Bool) (s v b : Int) (w : World) (hP : ¬ PV i m x g) :
    Calls Try.prog 19 #[.agg #[.int .i64 i, .int .i64 m, .int .i64 x, .int .i64 g], .agg #[.bool h, .int .i64 s, .int .i64 v, .int .i64 b]] w fun e w' => e = .returned (.int .i64 121) ∧ Below w.heap.size w w' := by
  have HP := Lib.hid hP
  clear hP
  go_enter Try.func19, Try.ntmps19
  go_wp2_with fail
  refine (rcheck_no i m x g _ HP.out).mono ?_
  rintro e w1 ⟨rfl, b1⟩
  obtain ⟨hc1, hf1⟩ := bcell b1
  have Q1 : Hid (Below w.heap.size w w1) := Lib.hid (below_after (by (repeat' (first | (with_reducible exact Below.refl _ _) | (with_reducible refine Below.alloc ?_ ?_ _) | (with_reducible refine Below.setCell ?_ ?_ _) | (with_reducible refine Below.drew ?_) | (with_reducible refine below_drewN ?_ _) | omega | (dsimp only; omega) | (simp; done) | (simp; omega)))) b1)
  have hz1 := b1.size
  try simp at hz1
  have hz1_0 : w.heap.size < w1.heap.size := by omega
  have hz1_1 : w.heap.size + 1 < w1.heap.size := by omega
  clear hz1 b1
  go_wp2
  go_ret
  refine ⟨rfl, ?_⟩
  (repeat' (first | (with_reducible exact Q1.out) | (with_reducible exact Below.refl _ _) | (with_reducible refine Below.alloc ?_ ?_ _) | (with_reducible refine Below.setCell ?_ ?_ _) | (with_reducible refine Below.drew ?_) | (with_reducible refine below_drewN ?_ _) | omega | (dsimp only; omega) | (simp; done) | (simp; omega)))

set_option maxHeartbeats 2000000 in
theorem beg_s (i m x g : Int) (h : Bool) (s v b : Int) (w : World) (hP : PV i m x g) (hS : ¬ SV s v b) :
    Calls Try.prog 19 #[.agg #[.int .i64 i, .int .i64 m, .int .i64 x, .int .i64 g], .agg #[.bool h, .int .i64 s, .int .i64 v, .int .i64 b]] w fun e w' => e = .returned (.int .i64 171) ∧ Below w.heap.size w w' := by
  have HP := Lib.hid hP
  clear hP
  have hb : ¬ (inb s 0 17179869184 = true ∧ inb v 0 17179869184 = true ∧ inb b 0 16 = true) := by
    simp only [inb_iff]; exact hS
  have HB := Lib.hid hb
  clear hb hS
  go_enter Try.func19, Try.ntmps19
  go_wp2_with fail
  refine (rcheck_yes i m x g _ HP.out).mono ?_
  rintro e w1 ⟨rfl, b1⟩
  obtain ⟨hc1, hf1⟩ := bcell b1
  have Q1 : Hid (Below w.heap.size w w1) := Lib.hid (below_after (by (repeat' (first | (with_reducible exact Below.refl _ _) | (with_reducible refine Below.alloc ?_ ?_ _) | (with_reducible refine Below.setCell ?_ ?_ _) | (with_reducible refine Below.drew ?_) | (with_reducible refine below_drewN ?_ _) | omega | (dsimp only; omega) | (simp; done) | (simp; omega)))) b1)
  have hz1 := b1.size
  try simp at hz1
  have hz1_0 : w.heap.size < w1.heap.size := by omega
  have hz1_1 : w.heap.size + 1 < w1.heap.size := by omega
  clear hz1 b1
  go_wp2_with (go_at_call 20; refine (rin_any _ _ _ _).mono ?_; rintro e w' ⟨rfl, rfl⟩)
  all_goals
    first
    | (exfalso; have h2 := HB.out; simp_all; done)
    | (go_ret
       refine ⟨rfl, ?_⟩
       (repeat' (first | (with_reducible exact Q1.out) | (with_reducible exact Below.refl _ _) | (with_reducible refine Below.alloc ?_ ?_ _) | (with_reducible refine Below.setCell ?_ ?_ _) | (with_reducible refine Below.drew ?_) | (with_reducible refine below_drewN ?_ _) | omega | (dsimp only; omega) | (simp; done) | (simp; omega))))

set_option maxHeartbeats 4000000 in
theorem rsample_ok (i m x g : Int) (h : Bool) (s v b : Int) (r : Int) (w : World) (hP : PV i m x g) (hS : SV s v b) (hR : RV r) :
    Calls Try.prog 8 #[.agg #[.int .i64 i, .int .i64 m, .int .i64 x, .int .i64 g], .agg #[.bool h, .int .i64 s, .int .i64 v, .int .i64 b], .int .i64 r] w fun e w' => e = .returned (.tuple #[.agg #[.bool true, .int .i64 (sS 0 h s r), .int .i64 (sV 0 h s v r), .int .i64 0], .int .i64 0]) ∧ Below w.heap.size w w' := by
  have HP := Lib.hid hP
  have HS := Lib.hid hS
  obtain ⟨⟨s1, s2⟩, ⟨v1, v2⟩, _, _⟩ := hS
  obtain ⟨r1, r2⟩ := hR
  have h1 := inb_true r1 r2
  clear hP
  cases h with
  | false =>
    have e1 : sS 0 false s r = 8 * r := by simp [sS]
    have e2 : sV 0 false s v r = 2 * r := by simp [sV]
    rw [e1, e2]
    clear e1 e2
    go_enter Try.func8, Try.ntmps8
    go_wp2_with fail
    refine (beg_ok i m x g _ s v b _ HP.out HS.out).mono ?_
    rintro e w1 ⟨rfl, b1⟩
    obtain ⟨hc1, hf1⟩ := bcell b1
    have Q1 : Hid (Below w.heap.size w w1) := Lib.hid (below_after (by (repeat' (first | (with_reducible exact Below.refl _ _) | (with_reducible refine Below.alloc ?_ ?_ _) | (with_reducible refine Below.setCell ?_ ?_ _) | (with_reducible refine Below.drew ?_) | (with_reducible refine below_drewN ?_ _) | omega | (dsimp only; omega) | (simp; done) | (simp; omega)))) b1)
    have hz1 := b1.size
    try simp at hz1
    have hz1_0 : w.heap.size < w1.heap.size := by omega
    have hz1_1 : w.heap.size + 1 < w1.heap.size := by omega
    have hz1_2 : w.heap.size + 1 + 1 < w1.heap.size := by omega
    clear hz1 b1
    go_wp2_with (go_at_call 20; refine (rin_any _ _ _ _).mono ?_; rintro e w' ⟨rfl, rfl⟩)
    refine bodyPost_ret (v := .tuple #[.agg #[.bool true, .int .i64 (8 * r), .int .i64 (2 * r), .int .i64 0], .int .i64 0]) (by simp [results, Try.results8, go_sem, *]) rfl ⟨rfl, ?_⟩
    (repeat' (first | (with_reducible exact Q1.out) | (with_reducible exact Below.refl _ _) | (with_reducible refine Below.alloc ?_ ?_ _) | (with_reducible refine Below.setCell ?_ ?_ _) | (with_reducible refine Below.drew ?_) | (with_reducible refine below_drewN ?_ _) | omega | (dsimp only; omega) | (simp; done) | (simp; omega)))
  | true =>
    have e1 : sS 0 true s r = s + (r - s / 8) := by simp [sS]
    have e2 : sV 0 true s v r = v - v / 4 + max (r - s / 8) (-(r - s / 8)) := by simp [sV]
    rw [e1, e2]
    clear e1 e2
    go_enter Try.func8, Try.ntmps8
    go_wp2_with fail
    refine (beg_ok i m x g _ s v b _ HP.out HS.out).mono ?_
    rintro e w1 ⟨rfl, b1⟩
    obtain ⟨hc1, hf1⟩ := bcell b1
    have Q1 : Hid (Below w.heap.size w w1) := Lib.hid (below_after (by (repeat' (first | (with_reducible exact Below.refl _ _) | (with_reducible refine Below.alloc ?_ ?_ _) | (with_reducible refine Below.setCell ?_ ?_ _) | (with_reducible refine Below.drew ?_) | (with_reducible refine below_drewN ?_ _) | omega | (dsimp only; omega) | (simp; done) | (simp; omega)))) b1)
    have hz1 := b1.size
    try simp at hz1
    have hz1_0 : w.heap.size < w1.heap.size := by omega
    have hz1_1 : w.heap.size + 1 < w1.heap.size := by omega
    have hz1_2 : w.heap.size + 1 + 1 < w1.heap.size := by omega
    clear hz1 b1
    go_wp2_with (go_at_call 20; refine (rin_any _ _ _ _).mono ?_; rintro e w' ⟨rfl, rfl⟩)
    refine bodyPost_ret (v := .tuple #[.agg #[.bool true, .int .i64 (s + (r - s / 8)), .int .i64 (v - v / 4 + max (r - s / 8) (-(r - s / 8))), .int .i64 0], .int .i64 0]) (by simp [results, Try.results8, go_sem, *]) rfl ⟨rfl, ?_⟩
    (repeat' (first | (with_reducible exact Q1.out) | (with_reducible exact Below.refl _ _) | (with_reducible refine Below.alloc ?_ ?_ _) | (with_reducible refine Below.setCell ?_ ?_ _) | (with_reducible refine Below.drew ?_) | (with_reducible refine below_drewN ?_ _) | omega | (dsimp only; omega) | (simp; done) | (simp; omega)))

set_option maxHeartbeats 2000000 in
theorem rsample_p (i m x g : Int) (h : Bool) (s v b : Int) (r : Int) (w : World) (hP : ¬ PV i m x g) :
    Calls Try.prog 8 #[.agg #[.int .i64 i, .int .i64 m, .int .i64 x, .int .i64 g], .agg #[.bool h, .int .i64 s, .int .i64 v, .int .i64 b], .int .i64 r] w fun e w' => e = .returned (.tuple #[.agg #[.bool false, .int .i64 0, .int .i64 0, .int .i64 0], .int .i64 121]) ∧ Below w.heap.size w w' := by
  have HP := Lib.hid hP
  clear hP
  go_enter Try.func8, Try.ntmps8
  go_wp2_with fail
  refine (beg_p i m x g _ s v b _ HP.out).mono ?_
  rintro e w1 ⟨rfl, b1⟩
  obtain ⟨hc1, hf1⟩ := bcell b1
  have Q1 : Hid (Below w.heap.size w w1) := Lib.hid (below_after (by (repeat' (first | (with_reducible exact Below.refl _ _) | (with_reducible refine Below.alloc ?_ ?_ _) | (with_reducible refine Below.setCell ?_ ?_ _) | (with_reducible refine Below.drew ?_) | (with_reducible refine below_drewN ?_ _) | omega | (dsimp only; omega) | (simp; done) | (simp; omega)))) b1)
  have hz1 := b1.size
  try simp at hz1
  have hz1_0 : w.heap.size < w1.heap.size := by omega
  have hz1_1 : w.heap.size + 1 < w1.heap.size := by omega
  have hz1_2 : w.heap.size + 1 + 1 < w1.heap.size := by omega
  clear hz1 b1
  go_wp2
  refine bodyPost_ret (v := .tuple #[.agg #[.bool false, .int .i64 0, .int .i64 0, .int .i64 0], .int .i64 121]) (by simp [results, Try.results8, go_sem, *]) rfl ⟨rfl, ?_⟩
  (repeat' (first | (with_reducible exact Q1.out) | (with_reducible exact Below.refl _ _) | (with_reducible refine Below.alloc ?_ ?_ _) | (with_reducible refine Below.setCell ?_ ?_ _) | (with_reducible refine Below.drew ?_) | (with_reducible refine below_drewN ?_ _) | omega | (dsimp only; omega) | (simp; done) | (simp; omega)))

set_option maxHeartbeats 2000000 in
theorem rsample_s (i m x g : Int) (h : Bool) (s v b : Int) (r : Int) (w : World) (hP : PV i m x g) (hS : ¬ SV s v b) :
    Calls Try.prog 8 #[.agg #[.int .i64 i, .int .i64 m, .int .i64 x, .int .i64 g], .agg #[.bool h, .int .i64 s, .int .i64 v, .int .i64 b], .int .i64 r] w fun e w' => e = .returned (.tuple #[.agg #[.bool false, .int .i64 0, .int .i64 0, .int .i64 0], .int .i64 171]) ∧ Below w.heap.size w w' := by
  have HP := Lib.hid hP
  have HS := Lib.hid hS
  clear hP hS
  go_enter Try.func8, Try.ntmps8
  go_wp2_with fail
  refine (beg_s i m x g _ s v b _ HP.out HS.out).mono ?_
  rintro e w1 ⟨rfl, b1⟩
  obtain ⟨hc1, hf1⟩ := bcell b1
  have Q1 : Hid (Below w.heap.size w w1) := Lib.hid (below_after (by (repeat' (first | (with_reducible exact Below.refl _ _) | (with_reducible refine Below.alloc ?_ ?_ _) | (with_reducible refine Below.setCell ?_ ?_ _) | (with_reducible refine Below.drew ?_) | (with_reducible refine below_drewN ?_ _) | omega | (dsimp only; omega) | (simp; done) | (simp; omega)))) b1)
  have hz1 := b1.size
  try simp at hz1
  have hz1_0 : w.heap.size < w1.heap.size := by omega
  have hz1_1 : w.heap.size + 1 < w1.heap.size := by omega
  have hz1_2 : w.heap.size + 1 + 1 < w1.heap.size := by omega
  clear hz1 b1
  go_wp2
  refine bodyPost_ret (v := .tuple #[.agg #[.bool false, .int .i64 0, .int .i64 0, .int .i64 0], .int .i64 171]) (by simp [results, Try.results8, go_sem, *]) rfl ⟨rfl, ?_⟩
  (repeat' (first | (with_reducible exact Q1.out) | (with_reducible exact Below.refl _ _) | (with_reducible refine Below.alloc ?_ ?_ _) | (with_reducible refine Below.setCell ?_ ?_ _) | (with_reducible refine Below.drew ?_) | (with_reducible refine below_drewN ?_ _) | omega | (dsimp only; omega) | (simp; done) | (simp; omega)))

set_option maxHeartbeats 2000000 in
theorem rsample_r (i m x g : Int) (h : Bool) (s v b : Int) (r : Int) (w : World) (hP : PV i m x g) (hS : SV s v b) (hR : ¬ RV r) :
    Calls Try.prog 8 #[.agg #[.int .i64 i, .int .i64 m, .int .i64 x, .int .i64 g], .agg #[.bool h, .int .i64 s, .int .i64 v, .int .i64 b], .int .i64 r] w fun e w' => e = .returned (.tuple #[.agg #[.bool false, .int .i64 0, .int .i64 0, .int .i64 0], .int .i64 4]) ∧ Below w.heap.size w w' := by
  have h1 : inb r 0 1073741824 = false := inb_not.2 hR
  clear hR
  have HP := Lib.hid hP
  have HS := Lib.hid hS
  clear hP hS
  go_enter Try.func8, Try.ntmps8
  go_wp2_with fail
  refine (beg_ok i m x g _ s v b _ HP.out HS.out).mono ?_
  rintro e w1 ⟨rfl, b1⟩
  obtain ⟨hc1, hf1⟩ := bcell b1
  have Q1 : Hid (Below w.heap.size w w1) := Lib.hid (below_after (by (repeat' (first | (with_reducible exact Below.refl _ _) | (with_reducible refine Below.alloc ?_ ?_ _) | (with_reducible refine Below.setCell ?_ ?_ _) | (with_reducible refine Below.drew ?_) | (with_reducible refine below_drewN ?_ _) | omega | (dsimp only; omega) | (simp; done) | (simp; omega)))) b1)
  have hz1 := b1.size
  try simp at hz1
  have hz1_0 : w.heap.size < w1.heap.size := by omega
  have hz1_1 : w.heap.size + 1 < w1.heap.size := by omega
  have hz1_2 : w.heap.size + 1 + 1 < w1.heap.size := by omega
  clear hz1 b1
  go_wp2_with (go_at_call 20; refine (rin_any _ _ _ _).mono ?_; rintro e w' ⟨rfl, rfl⟩)
  refine bodyPost_ret (v := .tuple #[.agg #[.bool false, .int .i64 0, .int .i64 0, .int .i64 0], .int .i64 4]) (by simp [results, Try.results8, go_sem, *]) rfl ⟨rfl, ?_⟩
  (repeat' (first | (with_reducible exact Q1.out) | (with_reducible exact Below.refl _ _) | (with_reducible refine Below.alloc ?_ ?_ _) | (with_reducible refine Below.setCell ?_ ?_ _) | (with_reducible refine Below.drew ?_) | (with_reducible refine below_drewN ?_ _) | omega | (dsimp only; omega) | (simp; done) | (simp; omega)))

set_option maxHeartbeats 2000000 in
theorem rback_ok (i m x g : Int) (h : Bool) (s v b : Int) (w : World) (hP : PV i m x g) (hS : SV s v b) :
    Calls Try.prog 10 #[.agg #[.int .i64 i, .int .i64 m, .int .i64 x, .int .i64 g], .agg #[.bool h, .int .i64 s, .int .i64 v, .int .i64 b]] w fun e w' => e = .returned (.tuple #[.agg #[.bool h, .int .i64 s, .int .i64 v, .int .i64 (min (b + 1) 16)], .int .i64 0]) ∧ Below w.heap.size w w' := by
  have HP := Lib.hid hP
  have HS := Lib.hid hS
  obtain ⟨_, _, b1, b2⟩ := hS
  clear hP
  go_enter Try.func10, Try.ntmps10
  go_wp2_with fail
  refine (beg_ok i m x g _ s v b _ HP.out HS.out).mono ?_
  rintro e w1 ⟨rfl, b1⟩
  obtain ⟨hc1, hf1⟩ := bcell b1
  have Q1 : Hid (Below w.heap.size w w1) := Lib.hid (below_after (by (repeat' (first | (with_reducible exact Below.refl _ _) | (with_reducible refine Below.alloc ?_ ?_ _) | (with_reducible refine Below.setCell ?_ ?_ _) | (with_reducible refine Below.drew ?_) | (with_reducible refine below_drewN ?_ _) | omega | (dsimp only; omega) | (simp; done) | (simp; omega)))) b1)
  have hz1 := b1.size
  try simp at hz1
  have hz1_0 : w.heap.size < w1.heap.size := by omega
  have hz1_1 : w.heap.size + 1 < w1.heap.size := by omega
  have hz1_2 : w.heap.size + 1 + 1 < w1.heap.size := by omega
  clear hz1 b1
  go_wp2
  refine bodyPost_ret (v := .tuple #[.agg #[.bool h, .int .i64 s, .int .i64 v, .int .i64 (min (b + 1) 16)], .int .i64 0]) (by simp [results, Try.results10, go_sem, *]) rfl ⟨rfl, ?_⟩
  (repeat' (first | (with_reducible exact Q1.out) | (with_reducible exact Below.refl _ _) | (with_reducible refine Below.alloc ?_ ?_ _) | (with_reducible refine Below.setCell ?_ ?_ _) | (with_reducible refine Below.drew ?_) | (with_reducible refine below_drewN ?_ _) | omega | (dsimp only; omega) | (simp; done) | (simp; omega)))

set_option maxHeartbeats 2000000 in
theorem rback_p (i m x g : Int) (h : Bool) (s v b : Int) (w : World) (hP : ¬ PV i m x g) :
    Calls Try.prog 10 #[.agg #[.int .i64 i, .int .i64 m, .int .i64 x, .int .i64 g], .agg #[.bool h, .int .i64 s, .int .i64 v, .int .i64 b]] w fun e w' => e = .returned (.tuple #[.agg #[.bool false, .int .i64 0, .int .i64 0, .int .i64 0], .int .i64 121]) ∧ Below w.heap.size w w' := by
  have HP := Lib.hid hP
  clear hP
  go_enter Try.func10, Try.ntmps10
  go_wp2_with fail
  refine (beg_p i m x g _ s v b _ HP.out).mono ?_
  rintro e w1 ⟨rfl, b1⟩
  obtain ⟨hc1, hf1⟩ := bcell b1
  have Q1 : Hid (Below w.heap.size w w1) := Lib.hid (below_after (by (repeat' (first | (with_reducible exact Below.refl _ _) | (with_reducible refine Below.alloc ?_ ?_ _) | (with_reducible refine Below.setCell ?_ ?_ _) | (with_reducible refine Below.drew ?_) | (with_reducible refine below_drewN ?_ _) | omega | (dsimp only; omega) | (simp; done) | (simp; omega)))) b1)
  have hz1 := b1.size
  try simp at hz1
  have hz1_0 : w.heap.size < w1.heap.size := by omega
  have hz1_1 : w.heap.size + 1 < w1.heap.size := by omega
  have hz1_2 : w.heap.size + 1 + 1 < w1.heap.size := by omega
  clear hz1 b1
  go_wp2
  refine bodyPost_ret (v := .tuple #[.agg #[.bool false, .int .i64 0, .int .i64 0, .int .i64 0], .int .i64 121]) (by simp [results, Try.results10, go_sem, *]) rfl ⟨rfl, ?_⟩
  (repeat' (first | (with_reducible exact Q1.out) | (with_reducible exact Below.refl _ _) | (with_reducible refine Below.alloc ?_ ?_ _) | (with_reducible refine Below.setCell ?_ ?_ _) | (with_reducible refine Below.drew ?_) | (with_reducible refine below_drewN ?_ _) | omega | (dsimp only; omega) | (simp; done) | (simp; omega)))

set_option maxHeartbeats 2000000 in
theorem rback_s (i m x g : Int) (h : Bool) (s v b : Int) (w : World) (hP : PV i m x g) (hS : ¬ SV s v b) :
    Calls Try.prog 10 #[.agg #[.int .i64 i, .int .i64 m, .int .i64 x, .int .i64 g], .agg #[.bool h, .int .i64 s, .int .i64 v, .int .i64 b]] w fun e w' => e = .returned (.tuple #[.agg #[.bool false, .int .i64 0, .int .i64 0, .int .i64 0], .int .i64 171]) ∧ Below w.heap.size w w' := by
  have HP := Lib.hid hP
  have HS := Lib.hid hS
  clear hP hS
  go_enter Try.func10, Try.ntmps10
  go_wp2_with fail
  refine (beg_s i m x g _ s v b _ HP.out HS.out).mono ?_
  rintro e w1 ⟨rfl, b1⟩
  obtain ⟨hc1, hf1⟩ := bcell b1
  have Q1 : Hid (Below w.heap.size w w1) := Lib.hid (below_after (by (repeat' (first | (with_reducible exact Below.refl _ _) | (with_reducible refine Below.alloc ?_ ?_ _) | (with_reducible refine Below.setCell ?_ ?_ _) | (with_reducible refine Below.drew ?_) | (with_reducible refine below_drewN ?_ _) | omega | (dsimp only; omega) | (simp; done) | (simp; omega)))) b1)
  have hz1 := b1.size
  try simp at hz1
  have hz1_0 : w.heap.size < w1.heap.size := by omega
  have hz1_1 : w.heap.size + 1 < w1.heap.size := by omega
  have hz1_2 : w.heap.size + 1 + 1 < w1.heap.size := by omega
  clear hz1 b1
  go_wp2
  refine bodyPost_ret (v := .tuple #[.agg #[.bool false, .int .i64 0, .int .i64 0, .int .i64 0], .int .i64 171]) (by simp [results, Try.results10, go_sem, *]) rfl ⟨rfl, ?_⟩
  (repeat' (first | (with_reducible exact Q1.out) | (with_reducible exact Below.refl _ _) | (with_reducible refine Below.alloc ?_ ?_ _) | (with_reducible refine Below.setCell ?_ ?_ _) | (with_reducible refine Below.drew ?_) | (with_reducible refine below_drewN ?_ _) | omega | (dsimp only; omega) | (simp; done) | (simp; omega)))

set_option maxHeartbeats 2000000 in
theorem rrto_ok (i m x g : Int) (h : Bool) (s v b : Int) (w : World) (hP : PV i m x g) (hS : SV s v b) :
    Calls Try.prog 12 #[.agg #[.int .i64 i, .int .i64 m, .int .i64 x, .int .i64 g], .agg #[.bool h, .int .i64 s, .int .i64 v, .int .i64 b]] w fun e w' => e = .returned (.tuple #[.int .i64 (rto 0 h i m x g s v b), .int .i64 0]) ∧ Below w.heap.size w w' := by
  have HP := Lib.hid hP
  have HS := Lib.hid hS
  obtain ⟨⟨s1, s2⟩, ⟨v1, v2⟩, b1, b2⟩ := hS
  obtain ⟨i1, i2⟩ := hP.1
  obtain ⟨m1, m2⟩ := hP.2.1
  obtain ⟨g1, g2⟩ := hP.2.2.2.1
  clear hP
  obtain ⟨B, rfl⟩ : ∃ B : Nat, b = B := ⟨b.toNat, by omega⟩
  cases h with
  | false =>
    have hU : Hid (max i m = max (wt false i g s v) m) := Lib.hid rfl
    have u0 : 0 ≤ max i m := by omega
    have u1 : max i m ≤ 68719476736 := by omega
    go_enter Try.func12, Try.ntmps12
    go_wp2_with fail
    refine (beg_ok i m x g _ s v _ _ HP.out HS.out).mono ?_
    rintro e w1 ⟨rfl, b1⟩
    obtain ⟨hc1, hf1⟩ := bcell b1
    have Q1 : Hid (Below w.heap.size w w1) := Lib.hid (below_after (by (repeat' (first | (with_reducible exact Below.refl _ _) | (with_reducible refine Below.alloc ?_ ?_ _) | (with_reducible refine Below.setCell ?_ ?_ _) | (with_reducible refine Below.drew ?_) | (with_reducible refine below_drewN ?_ _) | omega | (dsimp only; omega) | (simp; done) | (simp; omega)))) b1)
    have hz1 := b1.size
    try simp at hz1
    have hz1_0 : w.heap.size < w1.heap.size := by omega
    have hz1_1 : w.heap.size + 1 < w1.heap.size := by omega
    clear hz1 b1
    go_wp2_with fail
    generalize max i m = U at u0 u1 hU |-
    go_loop [7, 8] (fun n i => ∃ k : Nat, k ≤ B ∧ i = .int .i64 k ∧ ∃ N : Int, n = .int .i64 N ∧ 0 ≤ N ∧ N ≤ 4503599627370496 ∧ Hid (N = U * 2 ^ k)) (fun _ i => B - (intOf i).toNat)
    case atStart => exact ⟨0, by omega, rfl, U, rfl, by omega, by omega, Lib.hid (by simp)⟩
    case round =>
      obtain ⟨k, hk, rfl, N, rfl, hN0, hN1, HN⟩ := hrel
      by_cases hlt : k < B
      · have hd := dbl_bound U (k + 1) u0 u1 (by omega)
        have HE : Hid (2 * N = U * 2 ^ (k + 1)) := Lib.hid (by rw [HN.out, Int.pow_succ]; rw [Int.mul_comm, Int.mul_assoc])
        have hb0 : 0 ≤ 2 * N := by rw [HE.out]; exact hd.1
        have hb1 : 2 * N ≤ 4503599627370496 := by rw [HE.out]; exact hd.2
        have i1 : (k : Int) < (B : Int) := by omega
        clear hd
        go_wp2
        go_round
        case rel => exact ⟨k + 1, by omega, by go_num, _, rfl, hb0, hb1, HE⟩
        case measure => simp [intOf]; omega
      · obtain rfl : k = B := by omega
        go_wp2
        go_ret2
        refine ⟨?_, ?_⟩
        · rw [HN.out, hU.out]; simp [rto]
        · (repeat' (first | (with_reducible exact Q1.out) | (with_reducible exact Below.refl _ _) | (with_reducible refine Below.alloc ?_ ?_ _) | (with_reducible refine Below.setCell ?_ ?_ _) | (with_reducible refine Below.drew ?_) | (with_reducible refine below_drewN ?_ _) | omega | (dsimp only; omega) | (simp; done) | (simp; omega)))
  | true =>
    have hU : Hid (max (s / 8 + max g v) m = max (wt true i g s v) m) := Lib.hid rfl
    have u0 : 0 ≤ max (s / 8 + max g v) m := by omega
    have u1 : max (s / 8 + max g v) m ≤ 68719476736 := by omega
    go_enter Try.func12, Try.ntmps12
    go_wp2_with fail
    refine (beg_ok i m x g _ s v _ _ HP.out HS.out).mono ?_
    rintro e w1 ⟨rfl, b1⟩
    obtain ⟨hc1, hf1⟩ := bcell b1
    have Q1 : Hid (Below w.heap.size w w1) := Lib.hid (below_after (by (repeat' (first | (with_reducible exact Below.refl _ _) | (with_reducible refine Below.alloc ?_ ?_ _) | (with_reducible refine Below.setCell ?_ ?_ _) | (with_reducible refine Below.drew ?_) | (with_reducible refine below_drewN ?_ _) | omega | (dsimp only; omega) | (simp; done) | (simp; omega)))) b1)
    have hz1 := b1.size
    try simp at hz1
    have hz1_0 : w.heap.size < w1.heap.size := by omega
    have hz1_1 : w.heap.size + 1 < w1.heap.size := by omega
    clear hz1 b1
    go_wp2_with fail
    generalize max (s / 8 + max g v) m = U at u0 u1 hU |-
    go_loop [7, 8] (fun n i => ∃ k : Nat, k ≤ B ∧ i = .int .i64 k ∧ ∃ N : Int, n = .int .i64 N ∧ 0 ≤ N ∧ N ≤ 4503599627370496 ∧ Hid (N = U * 2 ^ k)) (fun _ i => B - (intOf i).toNat)
    case atStart => exact ⟨0, by omega, rfl, U, rfl, by omega, by omega, Lib.hid (by simp)⟩
    case round =>
      obtain ⟨k, hk, rfl, N, rfl, hN0, hN1, HN⟩ := hrel
      by_cases hlt : k < B
      · have hd := dbl_bound U (k + 1) u0 u1 (by omega)
        have HE : Hid (2 * N = U * 2 ^ (k + 1)) := Lib.hid (by rw [HN.out, Int.pow_succ]; rw [Int.mul_comm, Int.mul_assoc])
        have hb0 : 0 ≤ 2 * N := by rw [HE.out]; exact hd.1
        have hb1 : 2 * N ≤ 4503599627370496 := by rw [HE.out]; exact hd.2
        have i1 : (k : Int) < (B : Int) := by omega
        clear hd
        go_wp2
        go_round
        case rel => exact ⟨k + 1, by omega, by go_num, _, rfl, hb0, hb1, HE⟩
        case measure => simp [intOf]; omega
      · obtain rfl : k = B := by omega
        go_wp2
        go_ret2
        refine ⟨?_, ?_⟩
        · rw [HN.out, hU.out]; simp [rto]
        · (repeat' (first | (with_reducible exact Q1.out) | (with_reducible exact Below.refl _ _) | (with_reducible refine Below.alloc ?_ ?_ _) | (with_reducible refine Below.setCell ?_ ?_ _) | (with_reducible refine Below.drew ?_) | (with_reducible refine below_drewN ?_ _) | omega | (dsimp only; omega) | (simp; done) | (simp; omega)))

set_option maxHeartbeats 2000000 in
theorem rrto_p (i m x g : Int) (h : Bool) (s v b : Int) (w : World) (hP : ¬ PV i m x g) :
    Calls Try.prog 12 #[.agg #[.int .i64 i, .int .i64 m, .int .i64 x, .int .i64 g], .agg #[.bool h, .int .i64 s, .int .i64 v, .int .i64 b]] w fun e w' => e = .returned (.tuple #[.int .i64 0, .int .i64 121]) ∧ Below w.heap.size w w' := by
  have HP := Lib.hid hP
  clear hP
  go_enter Try.func12, Try.ntmps12
  go_wp2_with fail
  refine (beg_p i m x g _ s v b _ HP.out).mono ?_
  rintro e w1 ⟨rfl, b1⟩
  obtain ⟨hc1, hf1⟩ := bcell b1
  have Q1 : Hid (Below w.heap.size w w1) := Lib.hid (below_after (by (repeat' (first | (with_reducible exact Below.refl _ _) | (with_reducible refine Below.alloc ?_ ?_ _) | (with_reducible refine Below.setCell ?_ ?_ _) | (with_reducible refine Below.drew ?_) | (with_reducible refine below_drewN ?_ _) | omega | (dsimp only; omega) | (simp; done) | (simp; omega)))) b1)
  have hz1 := b1.size
  try simp at hz1
  have hz1_0 : w.heap.size < w1.heap.size := by omega
  have hz1_1 : w.heap.size + 1 < w1.heap.size := by omega
  clear hz1 b1
  go_wp2
  go_ret2
  refine ⟨rfl, ?_⟩
  (repeat' (first | (with_reducible exact Q1.out) | (with_reducible exact Below.refl _ _) | (with_reducible refine Below.alloc ?_ ?_ _) | (with_reducible refine Below.setCell ?_ ?_ _) | (with_reducible refine Below.drew ?_) | (with_reducible refine below_drewN ?_ _) | omega | (dsimp only; omega) | (simp; done) | (simp; omega)))

set_option maxHeartbeats 2000000 in
theorem rrto_s (i m x g : Int) (h : Bool) (s v b : Int) (w : World) (hP : PV i m x g) (hS : ¬ SV s v b) :
    Calls Try.prog 12 #[.agg #[.int .i64 i, .int .i64 m, .int .i64 x, .int .i64 g], .agg #[.bool h, .int .i64 s, .int .i64 v, .int .i64 b]] w fun e w' => e = .returned (.tuple #[.int .i64 0, .int .i64 171]) ∧ Below w.heap.size w w' := by
  have HP := Lib.hid hP
  have HS := Lib.hid hS
  clear hP hS
  go_enter Try.func12, Try.ntmps12
  go_wp2_with fail
  refine (beg_s i m x g _ s v b _ HP.out HS.out).mono ?_
  rintro e w1 ⟨rfl, b1⟩
  obtain ⟨hc1, hf1⟩ := bcell b1
  have Q1 : Hid (Below w.heap.size w w1) := Lib.hid (below_after (by (repeat' (first | (with_reducible exact Below.refl _ _) | (with_reducible refine Below.alloc ?_ ?_ _) | (with_reducible refine Below.setCell ?_ ?_ _) | (with_reducible refine Below.drew ?_) | (with_reducible refine below_drewN ?_ _) | omega | (dsimp only; omega) | (simp; done) | (simp; omega)))) b1)
  have hz1 := b1.size
  try simp at hz1
  have hz1_0 : w.heap.size < w1.heap.size := by omega
  have hz1_1 : w.heap.size + 1 < w1.heap.size := by omega
  clear hz1 b1
  go_wp2
  go_ret2
  refine ⟨rfl, ?_⟩
  (repeat' (first | (with_reducible exact Q1.out) | (with_reducible exact Below.refl _ _) | (with_reducible refine Below.alloc ?_ ?_ _) | (with_reducible refine Below.setCell ?_ ?_ _) | (with_reducible refine Below.drew ?_) | (with_reducible refine below_drewN ?_ _) | omega | (dsimp only; omega) | (simp; done) | (simp; omega)))

end Go.Proofs.Ytmpgpmdocofmgaa
