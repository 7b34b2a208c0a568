/- Rtt: Back and RTO. -/
import Derived.Test.YtmpgpmdocofmgaaRttK
import Derived.Laws.ShiftsVarLaws
namespace Go.Proofs.Ytmpgpmdocofmgaa
open Go.RowKit Go.Proofs.Ytmpgpmdocofmgaa.Rt8

set_option maxHeartbeats 2000000 in
theorem back_ok (i m x g : Int) (h : Bool) (s v b : Int) (w : World) (hP : PV i m x g) (hS : SV s v b) :
    Calls Try.prog 9 #[.agg #[.int .i64 i, .int .i64 m, .int .i64 x, .int .i64 g], .agg #[.bool h, .int .i64 s, .int .i64 v, .int .i64 b]] w fun e w' => e = .returned (.tuple #[.agg #[.bool h, .int .i64 s, .int .i64 v, .int .i64 (min (b + 1) 16)], .int .i64 0]) ∧ Below w.heap.size w w' := by
  have HP := Lib.hid hP
  have HS := Lib.hid hS
  obtain ⟨_, _, b1, b2⟩ := hS
  clear hP
  go_enter Try.func9, Try.ntmps9
  go_wp2_with fail
  refine (chk_ok i m x g _ s v b _ HP.out HS.out).mono ?_
  rintro e w1 ⟨rfl, b1⟩
  obtain ⟨hc1, hf1⟩ := bcell b1
  have Q1 : Hid (Below w.heap.size w w1) := Lib.hid (below_after (by (repeat' (first | (with_reducible exact Below.refl _ _) | (with_reducible refine Below.alloc ?_ ?_ _) | (with_reducible refine Below.setCell ?_ ?_ _) | (with_reducible refine Below.drew ?_) | (with_reducible refine below_drewN ?_ _) | omega | (dsimp only; omega) | (simp; done) | (simp; omega)))) b1)
  have hz1 := b1.size
  try simp at hz1
  have hz1_0 : w.heap.size < w1.heap.size := by omega
  have hz1_1 : w.heap.size + 1 < w1.heap.size := by omega
  have hz1_2 : w.heap.size + 1 + 1 < w1.heap.size := by omega
  clear hz1 b1
  go_wp2
  refine bodyPost_ret (v := .tuple #[.agg #[.bool h, .int .i64 s, .int .i64 v, .int .i64 (min (b + 1) 16)], .int .i64 0]) (by simp [results, Try.results9, go_sem, *]) rfl ⟨rfl, ?_⟩
  (repeat' (first | (with_reducible exact Q1.out) | (with_reducible exact Below.refl _ _) | (with_reducible refine Below.alloc ?_ ?_ _) | (with_reducible refine Below.setCell ?_ ?_ _) | (with_reducible refine Below.drew ?_) | (with_reducible refine below_drewN ?_ _) | omega | (dsimp only; omega) | (simp; done) | (simp; omega)))

set_option maxHeartbeats 2000000 in
theorem back_p (i m x g : Int) (h : Bool) (s v b : Int) (w : World) (hP : ¬ PV i m x g) :
    Calls Try.prog 9 #[.agg #[.int .i64 i, .int .i64 m, .int .i64 x, .int .i64 g], .agg #[.bool h, .int .i64 s, .int .i64 v, .int .i64 b]] w fun e w' => e = .returned (.tuple #[.agg #[.bool false, .int .i64 0, .int .i64 0, .int .i64 0], .int .i64 121]) ∧ Below w.heap.size w w' := by
  have HP := Lib.hid hP
  clear hP
  go_enter Try.func9, Try.ntmps9
  go_wp2_with fail
  refine (chk_p i m x g _ s v b _ HP.out).mono ?_
  rintro e w1 ⟨rfl, b1⟩
  obtain ⟨hc1, hf1⟩ := bcell b1
  have Q1 : Hid (Below w.heap.size w w1) := Lib.hid (below_after (by (repeat' (first | (with_reducible exact Below.refl _ _) | (with_reducible refine Below.alloc ?_ ?_ _) | (with_reducible refine Below.setCell ?_ ?_ _) | (with_reducible refine Below.drew ?_) | (with_reducible refine below_drewN ?_ _) | omega | (dsimp only; omega) | (simp; done) | (simp; omega)))) b1)
  have hz1 := b1.size
  try simp at hz1
  have hz1_0 : w.heap.size < w1.heap.size := by omega
  have hz1_1 : w.heap.size + 1 < w1.heap.size := by omega
  have hz1_2 : w.heap.size + 1 + 1 < w1.heap.size := by omega
  clear hz1 b1
  go_wp2
  refine bodyPost_ret (v := .tuple #[.agg #[.bool false, .int .i64 0, .int .i64 0, .int .i64 0], .int .i64 121]) (by simp [results, Try.results9, go_sem, *]) rfl ⟨rfl, ?_⟩
  (repeat' (first | (with_reducible exact Q1.out) | (with_reducible exact Below.refl _ _) | (with_reducible refine Below.alloc ?_ ?_ _) | (with_reducible refine Below.setCell ?_ ?_ _) | (with_reducible refine Below.drew ?_) | (with_reducible refine below_drewN ?_ _) | omega | (dsimp only; omega) | (simp; done) | (simp; omega)))

set_option maxHeartbeats 2000000 in
theorem back_s (i m x g : Int) (h : Bool) (s v b : Int) (w : World) (hP : PV i m x g) (hS : ¬ SV s v b) :
    Calls Try.prog 9 #[.agg #[.int .i64 i, .int .i64 m, .int .i64 x, .int .i64 g], .agg #[.bool h, .int .i64 s, .int .i64 v, .int .i64 b]] w fun e w' => e = .returned (.tuple #[.agg #[.bool false, .int .i64 0, .int .i64 0, .int .i64 0], .int .i64 171]) ∧ Below w.heap.size w w' := by
  have HP := Lib.hid hP
  have HS := Lib.hid hS
  clear hP hS
  go_enter Try.func9, Try.ntmps9
  go_wp2_with fail
  refine (chk_s i m x g _ s v b _ HP.out HS.out).mono ?_
  rintro e w1 ⟨rfl, b1⟩
  obtain ⟨hc1, hf1⟩ := bcell b1
  have Q1 : Hid (Below w.heap.size w w1) := Lib.hid (below_after (by (repeat' (first | (with_reducible exact Below.refl _ _) | (with_reducible refine Below.alloc ?_ ?_ _) | (with_reducible refine Below.setCell ?_ ?_ _) | (with_reducible refine Below.drew ?_) | (with_reducible refine below_drewN ?_ _) | omega | (dsimp only; omega) | (simp; done) | (simp; omega)))) b1)
  have hz1 := b1.size
  try simp at hz1
  have hz1_0 : w.heap.size < w1.heap.size := by omega
  have hz1_1 : w.heap.size + 1 < w1.heap.size := by omega
  have hz1_2 : w.heap.size + 1 + 1 < w1.heap.size := by omega
  clear hz1 b1
  go_wp2
  refine bodyPost_ret (v := .tuple #[.agg #[.bool false, .int .i64 0, .int .i64 0, .int .i64 0], .int .i64 171]) (by simp [results, Try.results9, go_sem, *]) rfl ⟨rfl, ?_⟩
  (repeat' (first | (with_reducible exact Q1.out) | (with_reducible exact Below.refl _ _) | (with_reducible refine Below.alloc ?_ ?_ _) | (with_reducible refine Below.setCell ?_ ?_ _) | (with_reducible refine Below.drew ?_) | (with_reducible refine below_drewN ?_ _) | omega | (dsimp only; omega) | (simp; done) | (simp; omega)))

set_option maxHeartbeats 2000000 in
theorem rto_ok (i m x g : Int) (h : Bool) (s v b : Int) (w : World) (hP : PV i m x g) (hS : SV s v b) :
    Calls Try.prog 11 #[.agg #[.int .i64 i, .int .i64 m, .int .i64 x, .int .i64 g], .agg #[.bool h, .int .i64 s, .int .i64 v, .int .i64 b]] w fun e w' => e = .returned (.tuple #[.int .i64 (rto 0 h i m x g s v b), .int .i64 0]) ∧ Below w.heap.size w w' := by
  have HP := Lib.hid hP
  have HS := Lib.hid hS
  obtain ⟨⟨s1, s2⟩, ⟨v1, v2⟩, b1, b2⟩ := hS
  obtain ⟨i1, i2⟩ := hP.1
  obtain ⟨m1, m2⟩ := hP.2.1
  obtain ⟨g1, g2⟩ := hP.2.2.2.1
  clear hP
  cases h with
  | false =>
    have e1 : wrap64 ((max i m) * 2 ^ b.toNat) = (max i m) * 2 ^ b.toNat := shl_in _ b (by omega) (by omega) b1 b2
    have E1 := Lib.hid e1
    clear e1
    go_enter Try.func11, Try.ntmps11
    go_wp2_with fail
    refine (chk_ok i m x g _ s v b _ HP.out HS.out).mono ?_
    rintro e w1 ⟨rfl, b1⟩
    obtain ⟨hc1, hf1⟩ := bcell b1
    have Q1 : Hid (Below w.heap.size w w1) := Lib.hid (below_after (by (repeat' (first | (with_reducible exact Below.refl _ _) | (with_reducible refine Below.alloc ?_ ?_ _) | (with_reducible refine Below.setCell ?_ ?_ _) | (with_reducible refine Below.drew ?_) | (with_reducible refine below_drewN ?_ _) | omega | (dsimp only; omega) | (simp; done) | (simp; omega)))) b1)
    have hz1 := b1.size
    try simp at hz1
    have hz1_0 : w.heap.size < w1.heap.size := by omega
    have hz1_1 : w.heap.size + 1 < w1.heap.size := by omega
    clear hz1 b1
    go_wp2_with fail
    go_quiet (fail)
    go_wp2
    go_ret2
    refine ⟨?_, ?_⟩
    · rw [E1.out]; rfl
    · (repeat' (first | (with_reducible exact Q1.out) | (with_reducible exact Below.refl _ _) | (with_reducible refine Below.alloc ?_ ?_ _) | (with_reducible refine Below.setCell ?_ ?_ _) | (with_reducible refine Below.drew ?_) | (with_reducible refine below_drewN ?_ _) | omega | (dsimp only; omega) | (simp; done) | (simp; omega)))
  | true =>
    have e1 : wrap64 ((max (s / 8 + max g v) m) * 2 ^ b.toNat) = (max (s / 8 + max g v) m) * 2 ^ b.toNat := shl_in _ b (by omega) (by omega) b1 b2
    have E1 := Lib.hid e1
    clear e1
    go_enter Try.func11, Try.ntmps11
    go_wp2_with fail
    refine (chk_ok i m x g _ s v b _ HP.out HS.out).mono ?_
    rintro e w1 ⟨rfl, b1⟩
    obtain ⟨hc1, hf1⟩ := bcell b1
    have Q1 : Hid (Below w.heap.size w w1) := Lib.hid (below_after (by (repeat' (first | (with_reducible exact Below.refl _ _) | (with_reducible refine Below.alloc ?_ ?_ _) | (with_reducible refine Below.setCell ?_ ?_ _) | (with_reducible refine Below.drew ?_) | (with_reducible refine below_drewN ?_ _) | omega | (dsimp only; omega) | (simp; done) | (simp; omega)))) b1)
    have hz1 := b1.size
    try simp at hz1
    have hz1_0 : w.heap.size < w1.heap.size := by omega
    have hz1_1 : w.heap.size + 1 < w1.heap.size := by omega
    clear hz1 b1
    go_wp2_with fail
    go_quiet (fail)
    go_wp2
    go_ret2
    refine ⟨?_, ?_⟩
    · rw [E1.out]; rfl
    · (repeat' (first | (with_reducible exact Q1.out) | (with_reducible exact Below.refl _ _) | (with_reducible refine Below.alloc ?_ ?_ _) | (with_reducible refine Below.setCell ?_ ?_ _) | (with_reducible refine Below.drew ?_) | (with_reducible refine below_drewN ?_ _) | omega | (dsimp only; omega) | (simp; done) | (simp; omega)))

set_option maxHeartbeats 2000000 in
theorem rto_p (i m x g : Int) (h : Bool) (s v b : Int) (w : World) (hP : ¬ PV i m x g) :
    Calls Try.prog 11 #[.agg #[.int .i64 i, .int .i64 m, .int .i64 x, .int .i64 g], .agg #[.bool h, .int .i64 s, .int .i64 v, .int .i64 b]] w fun e w' => e = .returned (.tuple #[.int .i64 0, .int .i64 121]) ∧ Below w.heap.size w w' := by
  have HP := Lib.hid hP
  clear hP
  go_enter Try.func11, Try.ntmps11
  go_wp2_with fail
  refine (chk_p i m x g _ s v b _ HP.out).mono ?_
  rintro e w1 ⟨rfl, b1⟩
  obtain ⟨hc1, hf1⟩ := bcell b1
  have Q1 : Hid (Below w.heap.size w w1) := Lib.hid (below_after (by (repeat' (first | (with_reducible exact Below.refl _ _) | (with_reducible refine Below.alloc ?_ ?_ _) | (with_reducible refine Below.setCell ?_ ?_ _) | (with_reducible refine Below.drew ?_) | (with_reducible refine below_drewN ?_ _) | omega | (dsimp only; omega) | (simp; done) | (simp; omega)))) b1)
  have hz1 := b1.size
  try simp at hz1
  have hz1_0 : w.heap.size < w1.heap.size := by omega
  have hz1_1 : w.heap.size + 1 < w1.heap.size := by omega
  clear hz1 b1
  go_wp2
  go_ret2
  refine ⟨rfl, ?_⟩
  (repeat' (first | (with_reducible exact Q1.out) | (with_reducible exact Below.refl _ _) | (with_reducible refine Below.alloc ?_ ?_ _) | (with_reducible refine Below.setCell ?_ ?_ _) | (with_reducible refine Below.drew ?_) | (with_reducible refine below_drewN ?_ _) | omega | (dsimp only; omega) | (simp; done) | (simp; omega)))

set_option maxHeartbeats 2000000 in
theorem rto_s (i m x g : Int) (h : Bool) (s v b : Int) (w : World) (hP : PV i m x g) (hS : ¬ SV s v b) :
    Calls Try.prog 11 #[.agg #[.int .i64 i, .int .i64 m, .int .i64 x, .int .i64 g], .agg #[.bool h, .int .i64 s, .int .i64 v, .int .i64 b]] w fun e w' => e = .returned (.tuple #[.int .i64 0, .int .i64 171]) ∧ Below w.heap.size w w' := by
  have HP := Lib.hid hP
  have HS := Lib.hid hS
  clear hP hS
  go_enter Try.func11, Try.ntmps11
  go_wp2_with fail
  refine (chk_s i m x g _ s v b _ HP.out HS.out).mono ?_
  rintro e w1 ⟨rfl, b1⟩
  obtain ⟨hc1, hf1⟩ := bcell b1
  have Q1 : Hid (Below w.heap.size w w1) := Lib.hid (below_after (by (repeat' (first | (with_reducible exact Below.refl _ _) | (with_reducible refine Below.alloc ?_ ?_ _) | (with_reducible refine Below.setCell ?_ ?_ _) | (with_reducible refine Below.drew ?_) | (with_reducible refine below_drewN ?_ _) | omega | (dsimp only; omega) | (simp; done) | (simp; omega)))) b1)
  have hz1 := b1.size
  try simp at hz1
  have hz1_0 : w.heap.size < w1.heap.size := by omega
  have hz1_1 : w.heap.size + 1 < w1.heap.size := by omega
  clear hz1 b1
  go_wp2
  go_ret2
  refine ⟨rfl, ?_⟩
  (repeat' (first | (with_reducible exact Q1.out) | (with_reducible exact Below.refl _ _) | (with_reducible refine Below.alloc ?_ ?_ _) | (with_reducible refine Below.setCell ?_ ?_ _) | (with_reducible refine Below.drew ?_) | (with_reducible refine below_drewN ?_ _) | omega | (dsimp only; omega) | (simp; done) | (simp; omega)))

end Go.Proofs.Ytmpgpmdocofmgaa
