/- Reno: the document's own answers. -/
import Derived.Test.YtmjcckpppflpjaaRnM
import Derived.Test.YtmjcckpppflpjaaGBase
import Derived.Lib.MinMax
namespace Go.Proofs.Ytmjcckpppflpjaa
open Go.RowKit Go.Proofs.Ytmjcckpppflpjaa.Rn

set_option maxHeartbeats 2000000 in
theorem rcheck_yes (c t a m : Int) (w : World) (hM : MV m) (hS : SV c t a m) :
    Calls Try.prog 17 #[.agg #[.int .i64 c, .int .i64 t, .int .i64 a], .int .i64 m] w fun e w' => e = .returned (.int .i64 0) ∧ Below w.heap.size w w' := by
  obtain ⟨m0, m1⟩ := hM
  obtain ⟨⟨c0, c1⟩, ⟨t0, t1⟩, a0, a1⟩ := hS
  go_enter Try.func17, Try.ntmps17
  go_wp2
  go_ret
  refine ⟨rfl, ?_⟩
  (repeat' (first | (with_reducible exact Below.refl _ _) | (with_reducible refine Below.alloc ?_ ?_ _) | (with_reducible refine Below.setCell ?_ ?_ _) | (with_reducible refine Below.drew ?_) | (with_reducible refine below_drewN ?_ _) | omega | (dsimp only; omega) | (simp; done) | (simp; omega)))

set_option maxHeartbeats 2000000 in
theorem rcheck_m (c t a m : Int) (w : World) (hM : ¬ MV m) :
    Calls Try.prog 17 #[.agg #[.int .i64 c, .int .i64 t, .int .i64 a], .int .i64 m] w fun e w' => e = .returned (.int .i64 4) ∧ Below w.heap.size w w' := by
  have hM' : m < 1 ∨ 65535 < m := by unfold MV at hM; omega
  clear hM
  rcases hM' with h | h
  · go_enter Try.func17, Try.ntmps17
    go_wp2
    go_ret
    refine ⟨rfl, ?_⟩
    (repeat' (first | (with_reducible exact Below.refl _ _) | (with_reducible refine Below.alloc ?_ ?_ _) | (with_reducible refine Below.setCell ?_ ?_ _) | (with_reducible refine Below.drew ?_) | (with_reducible refine below_drewN ?_ _) | omega | (dsimp only; omega) | (simp; done) | (simp; omega)))
  · by_cases h1 : m < 1
    · omega
    go_enter Try.func17, Try.ntmps17
    go_wp2
    go_ret
    refine ⟨rfl, ?_⟩
    (repeat' (first | (with_reducible exact Below.refl _ _) | (with_reducible refine Below.alloc ?_ ?_ _) | (with_reducible refine Below.setCell ?_ ?_ _) | (with_reducible refine Below.drew ?_) | (with_reducible refine below_drewN ?_ _) | omega | (dsimp only; omega) | (simp; done) | (simp; omega)))

set_option maxHeartbeats 2000000 in
theorem rcheck_s (c t a m : Int) (w : World) (hM : MV m) (hS : ¬ SV c t a m) :
    Calls Try.prog 17 #[.agg #[.int .i64 c, .int .i64 t, .int .i64 a], .int .i64 m] w fun e w' => e = .returned (.int .i64 171) ∧ Below w.heap.size w w' := by
  obtain ⟨m0, m1⟩ := hM
  have HB := Lib.hid hS
  clear hS
  go_enter Try.func17, Try.ntmps17
  go_wp2
  all_goals
    first
    | (exfalso; have h2 := HB.out; unfold SV at h2; omega)
    | (go_ret
       refine ⟨rfl, ?_⟩
       (repeat' (first | (with_reducible exact Below.refl _ _) | (with_reducible refine Below.alloc ?_ ?_ _) | (with_reducible refine Below.setCell ?_ ?_ _) | (with_reducible refine Below.drew ?_) | (with_reducible refine below_drewN ?_ _) | omega | (dsimp only; omega) | (simp; done) | (simp; omega))))

set_option maxHeartbeats 2000000 in
theorem ask_ok (c t a m n : Int) (w : World) (hM : MV m) (hS : SV c t a m) (hN : NV n) :
    Calls Try.prog 23 #[.agg #[.int .i64 c, .int .i64 t, .int .i64 a], .int .i64 m, .int .i64 n] w fun e w' => e = .returned (.int .i64 0) ∧ Below w.heap.size w w' := by
  obtain ⟨n0, n1⟩ := hN
  go_enter Try.func23, Try.ntmps23
  go_wp2_with fail
  refine (rcheck_yes c t a m _ hM hS).mono ?_
  rintro e w1 ⟨rfl, b1⟩
  obtain ⟨hc1, hf1⟩ := bcell b1
  have Q1 : Hid (Below w.heap.size w w1) := Lib.hid (below_after (by (repeat' (first | (with_reducible exact Below.refl _ _) | (with_reducible refine Below.alloc ?_ ?_ _) | (with_reducible refine Below.setCell ?_ ?_ _) | (with_reducible refine Below.drew ?_) | (with_reducible refine below_drewN ?_ _) | omega | (dsimp only; omega) | (simp; done) | (simp; omega)))) b1)
  have hz1 := b1.size
  try simp at hz1
  have hz1_0 : w.heap.size < w1.heap.size := by omega
  clear hz1 b1
  go_wp2
  go_ret
  refine ⟨rfl, ?_⟩
  (repeat' (first | (with_reducible exact Q1.out) | (with_reducible exact Below.refl _ _) | (with_reducible refine Below.alloc ?_ ?_ _) | (with_reducible refine Below.setCell ?_ ?_ _) | (with_reducible refine Below.drew ?_) | (with_reducible refine below_drewN ?_ _) | omega | (dsimp only; omega) | (simp; done) | (simp; omega)))

set_option maxHeartbeats 2000000 in
theorem ask_m (c t a m n : Int) (w : World) (hM : ¬ MV m) :
    Calls Try.prog 23 #[.agg #[.int .i64 c, .int .i64 t, .int .i64 a], .int .i64 m, .int .i64 n] w fun e w' => e = .returned (.int .i64 4) ∧ Below w.heap.size w w' := by
  go_enter Try.func23, Try.ntmps23
  go_wp2_with fail
  refine (rcheck_m c t a m _ hM).mono ?_
  rintro e w1 ⟨rfl, b1⟩
  obtain ⟨hc1, hf1⟩ := bcell b1
  have Q1 : Hid (Below w.heap.size w w1) := Lib.hid (below_after (by (repeat' (first | (with_reducible exact Below.refl _ _) | (with_reducible refine Below.alloc ?_ ?_ _) | (with_reducible refine Below.setCell ?_ ?_ _) | (with_reducible refine Below.drew ?_) | (with_reducible refine below_drewN ?_ _) | omega | (dsimp only; omega) | (simp; done) | (simp; omega)))) b1)
  have hz1 := b1.size
  try simp at hz1
  have hz1_0 : w.heap.size < w1.heap.size := by omega
  clear hz1 b1
  go_wp2
  go_ret
  refine ⟨rfl, ?_⟩
  (repeat' (first | (with_reducible exact Q1.out) | (with_reducible exact Below.refl _ _) | (with_reducible refine Below.alloc ?_ ?_ _) | (with_reducible refine Below.setCell ?_ ?_ _) | (with_reducible refine Below.drew ?_) | (with_reducible refine below_drewN ?_ _) | omega | (dsimp only; omega) | (simp; done) | (simp; omega)))

set_option maxHeartbeats 2000000 in
theorem ask_s (c t a m n : Int) (w : World) (hM : MV m) (hS : ¬ SV c t a m) :
    Calls Try.prog 23 #[.agg #[.int .i64 c, .int .i64 t, .int .i64 a], .int .i64 m, .int .i64 n] w fun e w' => e = .returned (.int .i64 171) ∧ Below w.heap.size w w' := by
  go_enter Try.func23, Try.ntmps23
  go_wp2_with fail
  refine (rcheck_s c t a m _ hM hS).mono ?_
  rintro e w1 ⟨rfl, b1⟩
  obtain ⟨hc1, hf1⟩ := bcell b1
  have Q1 : Hid (Below w.heap.size w w1) := Lib.hid (below_after (by (repeat' (first | (with_reducible exact Below.refl _ _) | (with_reducible refine Below.alloc ?_ ?_ _) | (with_reducible refine Below.setCell ?_ ?_ _) | (with_reducible refine Below.drew ?_) | (with_reducible refine below_drewN ?_ _) | omega | (dsimp only; omega) | (simp; done) | (simp; omega)))) b1)
  have hz1 := b1.size
  try simp at hz1
  have hz1_0 : w.heap.size < w1.heap.size := by omega
  clear hz1 b1
  go_wp2
  go_ret
  refine ⟨rfl, ?_⟩
  (repeat' (first | (with_reducible exact Q1.out) | (with_reducible exact Below.refl _ _) | (with_reducible refine Below.alloc ?_ ?_ _) | (with_reducible refine Below.setCell ?_ ?_ _) | (with_reducible refine Below.drew ?_) | (with_reducible refine below_drewN ?_ _) | omega | (dsimp only; omega) | (simp; done) | (simp; omega)))

set_option maxHeartbeats 2000000 in
theorem ask_n (c t a m n : Int) (w : World) (hM : MV m) (hS : SV c t a m) (hN : ¬ NV n) :
    Calls Try.prog 23 #[.agg #[.int .i64 c, .int .i64 t, .int .i64 a], .int .i64 m, .int .i64 n] w fun e w' => e = .returned (.int .i64 4) ∧ Below w.heap.size w w' := by
  have hN' : n < 0 ∨ 1073741824 < n := by unfold NV at hN; omega
  clear hN
  rcases hN' with h | h
  · go_enter Try.func23, Try.ntmps23
    go_wp2_with fail
    refine (rcheck_yes c t a m _ hM hS).mono ?_
    rintro e w1 ⟨rfl, b1⟩
    obtain ⟨hc1, hf1⟩ := bcell b1
    have Q1 : Hid (Below w.heap.size w w1) := Lib.hid (below_after (by (repeat' (first | (with_reducible exact Below.refl _ _) | (with_reducible refine Below.alloc ?_ ?_ _) | (with_reducible refine Below.setCell ?_ ?_ _) | (with_reducible refine Below.drew ?_) | (with_reducible refine below_drewN ?_ _) | omega | (dsimp only; omega) | (simp; done) | (simp; omega)))) b1)
    have hz1 := b1.size
    try simp at hz1
    have hz1_0 : w.heap.size < w1.heap.size := by omega
    clear hz1 b1
    go_wp2
    go_ret
    refine ⟨rfl, ?_⟩
    (repeat' (first | (with_reducible exact Q1.out) | (with_reducible exact Below.refl _ _) | (with_reducible refine Below.alloc ?_ ?_ _) | (with_reducible refine Below.setCell ?_ ?_ _) | (with_reducible refine Below.drew ?_) | (with_reducible refine below_drewN ?_ _) | omega | (dsimp only; omega) | (simp; done) | (simp; omega)))
  · by_cases h1 : n < 0
    · omega
    go_enter Try.func23, Try.ntmps23
    go_wp2_with fail
    refine (rcheck_yes c t a m _ hM hS).mono ?_
    rintro e w1 ⟨rfl, b1⟩
    obtain ⟨hc1, hf1⟩ := bcell b1
    have Q1 : Hid (Below w.heap.size w w1) := Lib.hid (below_after (by (repeat' (first | (with_reducible exact Below.refl _ _) | (with_reducible refine Below.alloc ?_ ?_ _) | (with_reducible refine Below.setCell ?_ ?_ _) | (with_reducible refine Below.drew ?_) | (with_reducible refine below_drewN ?_ _) | omega | (dsimp only; omega) | (simp; done) | (simp; omega)))) b1)
    have hz1 := b1.size
    try simp at hz1
    have hz1_0 : w.heap.size < w1.heap.size := by omega
    clear hz1 b1
    go_wp2
    go_ret
    refine ⟨rfl, ?_⟩
    (repeat' (first | (with_reducible exact Q1.out) | (with_reducible exact Below.refl _ _) | (with_reducible refine Below.alloc ?_ ?_ _) | (with_reducible refine Below.setCell ?_ ?_ _) | (with_reducible refine Below.drew ?_) | (with_reducible refine below_drewN ?_ _) | omega | (dsimp only; omega) | (simp; done) | (simp; omega)))

set_option maxHeartbeats 2000000 in
theorem begin_ok (m : Int) (w : World) (hM : MV m) :
    Calls Try.prog 26 #[.int .i64 m] w fun e w' => e = .returned (.int .i64 (min (10 * m) (max (2 * m) 14600))) ∧ w = w' := by
  obtain ⟨m0, m1⟩ := hM
  go_enter Try.func26, Try.ntmps26
  go_wp2
  go_ret
  exact ⟨rfl, rfl⟩

set_option maxHeartbeats 2000000 in
theorem rnew_ok (m : Int) (w : World) (hM : MV m) :
    Calls Try.prog 14 #[.int .i64 m] w fun e w' => e = .returned (.tuple #[.agg #[.int .i64 (min (10 * m) (max (2 * m) 14600)), .int .i64 1073741824, .int .i64 0], .int .i64 0]) ∧ Below w.heap.size w w' := by
  have HM : Hid (MV m) := Lib.hid hM
  obtain ⟨m0, m1⟩ := hM
  go_enter Try.func14, Try.ntmps14
  go_wp2_with fail
  refine (begin_ok m _ HM.out).mono ?_
  rintro e w' ⟨rfl, rfl⟩
  go_wp2
  refine bodyPost_ret (v := .tuple #[.agg #[.int .i64 (min (10 * m) (max (2 * m) 14600)), .int .i64 1073741824, .int .i64 0], .int .i64 0]) (by simp [results, Try.results14, go_sem, *]) rfl ⟨rfl, ?_⟩
  (repeat' (first | (with_reducible exact Below.refl _ _) | (with_reducible refine Below.alloc ?_ ?_ _) | (with_reducible refine Below.setCell ?_ ?_ _) | (with_reducible refine Below.drew ?_) | (with_reducible refine below_drewN ?_ _) | omega | (dsimp only; omega) | (simp; done) | (simp; omega)))

set_option maxHeartbeats 2000000 in
theorem rnew_m (m : Int) (w : World) (hM : ¬ MV m) :
    Calls Try.prog 14 #[.int .i64 m] w fun e w' => e = .returned (.tuple #[.agg #[.int .i64 0, .int .i64 0, .int .i64 0], .int .i64 4]) ∧ Below w.heap.size w w' := by
  have hM' : m < 1 ∨ 65535 < m := by unfold MV at hM; omega
  clear hM
  rcases hM' with h | h
  · go_enter Try.func14, Try.ntmps14
    go_wp2
    refine bodyPost_ret (v := .tuple #[.agg #[.int .i64 0, .int .i64 0, .int .i64 0], .int .i64 4]) (by simp [results, Try.results14, go_sem, *]) rfl ⟨rfl, ?_⟩
    (repeat' (first | (with_reducible exact Below.refl _ _) | (with_reducible refine Below.alloc ?_ ?_ _) | (with_reducible refine Below.setCell ?_ ?_ _) | (with_reducible refine Below.drew ?_) | (with_reducible refine below_drewN ?_ _) | omega | (dsimp only; omega) | (simp; done) | (simp; omega)))
  · by_cases h1 : m < 1
    · omega
    go_enter Try.func14, Try.ntmps14
    go_wp2
    refine bodyPost_ret (v := .tuple #[.agg #[.int .i64 0, .int .i64 0, .int .i64 0], .int .i64 4]) (by simp [results, Try.results14, go_sem, *]) rfl ⟨rfl, ?_⟩
    (repeat' (first | (with_reducible exact Below.refl _ _) | (with_reducible refine Below.alloc ?_ ?_ _) | (with_reducible refine Below.setCell ?_ ?_ _) | (with_reducible refine Below.drew ?_) | (with_reducible refine below_drewN ?_ _) | omega | (dsimp only; omega) | (simp; done) | (simp; omega)))

set_option maxHeartbeats 2000000 in
theorem rack_slow (c t a m n : Int) (w : World) (hM : MV m) (hS : SV c t a m) (hN : NV n) (hct : c < t) :
    Calls Try.prog 8 #[.agg #[.int .i64 c, .int .i64 t, .int .i64 a], .int .i64 m, .int .i64 n] w fun e w' => e = .returned (.tuple #[.agg #[.int .i64 (min (c + min n m) 1073741824), .int .i64 (t), .int .i64 (a)], .int .i64 0]) ∧ Below w.heap.size w w' := by
  have HM := Lib.hid hM
  have HS := Lib.hid hS
  have HN := Lib.hid hN
  obtain ⟨m0, m1⟩ := hM
  obtain ⟨⟨c0, c1⟩, ⟨t0, t1⟩, a0, a1⟩ := hS
  obtain ⟨n0, n1⟩ := hN
  have q_0 := Below.refl w.heap.size w
  go_enter Try.func8, Try.ntmps8
  go_wp2_with fail
  have b : Below w.heap.size w ((w.alloc (.cells #[.int .i64 c, .int .i64 t, .int .i64 a] 23)).alloc (.cells #[.int .i64 0, .int .i64 0, .int .i64 0] 23)) := (((Below.refl _ w).alloc (Nat.le_refl _) (.cells #[.int .i64 c, .int .i64 t, .int .i64 a] 23)).alloc (by simp only [World.size_alloc]; omega) (.cells #[.int .i64 0, .int .i64 0, .int .i64 0] 23))
  have nb0 := blk_new w (.cells #[.int .i64 c, .int .i64 t, .int .i64 a] 23)
  have nb0 := (Below.heap_alloc (w.alloc (.cells #[.int .i64 c, .int .i64 t, .int .i64 a] 23)) (.cells #[.int .i64 0, .int .i64 0, .int .i64 0] 23) (w.heap.size) (by simp only [World.size_alloc]; omega)).trans nb0
  have nz0 : w.heap.size < ((w.alloc (.cells #[.int .i64 c, .int .i64 t, .int .i64 a] 23)).alloc (.cells #[.int .i64 0, .int .i64 0, .int .i64 0] 23)).heap.size := by simp only [World.size_alloc]; omega
  have nb1 := blk_new (w.alloc (.cells #[.int .i64 c, .int .i64 t, .int .i64 a] 23)) (.cells #[.int .i64 0, .int .i64 0, .int .i64 0] 23)
  simp only [World.size_alloc] at nb1
  have nz1 : w.heap.size + 1 < ((w.alloc (.cells #[.int .i64 c, .int .i64 t, .int .i64 a] 23)).alloc (.cells #[.int .i64 0, .int .i64 0, .int .i64 0] 23)).heap.size := by simp only [World.size_alloc]; omega
  have q_1 := q_0.trans (b.mono q_0.size)
  clear q_0
  clear b
  have S_1 := Lib.hid nb0
  have Sz_1 := nz0
  clear nb0 nz0
  have Sc0_1 := blk_cell S_1.out 0
  have Sc1_1 := blk_cell S_1.out 1
  have Sc2_1 := blk_cell S_1.out 2
  have R_1 := Lib.hid nb1
  have Rz_1 := nz1
  clear nb1 nz1
  have Rc0_1 := blk_cell R_1.out 0
  have Rc1_1 := blk_cell R_1.out 1
  have Rc2_1 := blk_cell R_1.out 2
  generalize ((w.alloc (.cells #[.int .i64 c, .int .i64 t, .int .i64 a] 23)).alloc (.cells #[.int .i64 0, .int .i64 0, .int .i64 0] 23)) = V1 at q_1 S_1 Sz_1 Sc0_1 Sc1_1 Sc2_1 R_1 Rz_1 Rc0_1 Rc1_1 Rc2_1 ⊢
  have NE : w.heap.size ≠ w.heap.size + 1 := Nat.ne_of_lt (Nat.lt_succ_self _)
  have NE2 := NE.symm
  refine (ask_ok c t a m n _ HM.out HS.out HN.out).mono ?_
  rintro e V2 ⟨rfl, b⟩
  have S_2 := Lib.hid ((b.block _ Sz_1).trans S_1.out)
  have Sz_2 := Nat.lt_of_lt_of_le Sz_1 b.size
  have Sc0_2 := blk_cell S_2.out 0
  have Sc1_2 := blk_cell S_2.out 1
  have Sc2_2 := blk_cell S_2.out 2
  have R_2 := Lib.hid ((b.block _ Rz_1).trans R_1.out)
  have Rz_2 := Nat.lt_of_lt_of_le Rz_1 b.size
  have Rc0_2 := blk_cell R_2.out 0
  have Rc1_2 := blk_cell R_2.out 1
  have Rc2_2 := blk_cell R_2.out 2
  have q_2 := q_1.trans (b.mono q_1.size)
  clear S_1 Sz_1 Sc0_1 Sc1_1 Sc2_1 R_1 Rz_1 Rc0_1 Rc1_1 Rc2_1 q_1
  clear b
  have rf0 := blk_free R_2.out 0
  have sf0 := blk_free S_2.out 0
  have rf1 := blk_free R_2.out 1
  have sf1 := blk_free S_2.out 1
  have rf2 := blk_free R_2.out 2
  have sf2 := blk_free S_2.out 2
  have QY := Lib.hid q_2
  clear R_2 S_2
  go_wp2
  refine bodyPost_ret (v := .tuple #[.agg #[.int .i64 (min (c + min n m) 1073741824), .int .i64 (t), .int .i64 (a)], .int .i64 0]) (by simp [results, Try.results8, go_sem, *]) rfl ⟨rfl, ?_⟩
  (repeat' (first | (with_reducible exact QY.out) | (with_reducible exact Below.refl _ _) | (with_reducible refine Below.alloc ?_ ?_ _) | (with_reducible refine Below.setCell ?_ ?_ _) | (with_reducible refine Below.drew ?_) | (with_reducible refine below_drewN ?_ _) | omega | (dsimp only; omega) | (simp; done) | (simp; omega)))

set_option maxHeartbeats 2000000 in
theorem rack_up (c t a m n : Int) (w : World) (hM : MV m) (hS : SV c t a m) (hN : NV n) (hct : t ≤ c) (hup : c ≤ min (a + n) 1073741824) :
    Calls Try.prog 8 #[.agg #[.int .i64 c, .int .i64 t, .int .i64 a], .int .i64 m, .int .i64 n] w fun e w' => e = .returned (.tuple #[.agg #[.int .i64 (min (c + m) 1073741824), .int .i64 (t), .int .i64 (min (a + n) 1073741824 - c)], .int .i64 0]) ∧ Below w.heap.size w w' := by
  have HM := Lib.hid hM
  have HS := Lib.hid hS
  have HN := Lib.hid hN
  obtain ⟨m0, m1⟩ := hM
  obtain ⟨⟨c0, c1⟩, ⟨t0, t1⟩, a0, a1⟩ := hS
  obtain ⟨n0, n1⟩ := hN
  have q_0 := Below.refl w.heap.size w
  go_enter Try.func8, Try.ntmps8
  go_wp2_with fail
  have b : Below w.heap.size w ((w.alloc (.cells #[.int .i64 c, .int .i64 t, .int .i64 a] 23)).alloc (.cells #[.int .i64 0, .int .i64 0, .int .i64 0] 23)) := (((Below.refl _ w).alloc (Nat.le_refl _) (.cells #[.int .i64 c, .int .i64 t, .int .i64 a] 23)).alloc (by simp only [World.size_alloc]; omega) (.cells #[.int .i64 0, .int .i64 0, .int .i64 0] 23))
  have nb0 := blk_new w (.cells #[.int .i64 c, .int .i64 t, .int .i64 a] 23)
  have nb0 := (Below.heap_alloc (w.alloc (.cells #[.int .i64 c, .int .i64 t, .int .i64 a] 23)) (.cells #[.int .i64 0, .int .i64 0, .int .i64 0] 23) (w.heap.size) (by simp only [World.size_alloc]; omega)).trans nb0
  have nz0 : w.heap.size < ((w.alloc (.cells #[.int .i64 c, .int .i64 t, .int .i64 a] 23)).alloc (.cells #[.int .i64 0, .int .i64 0, .int .i64 0] 23)).heap.size := by simp only [World.size_alloc]; omega
  have nb1 := blk_new (w.alloc (.cells #[.int .i64 c, .int .i64 t, .int .i64 a] 23)) (.cells #[.int .i64 0, .int .i64 0, .int .i64 0] 23)
  simp only [World.size_alloc] at nb1
  have nz1 : w.heap.size + 1 < ((w.alloc (.cells #[.int .i64 c, .int .i64 t, .int .i64 a] 23)).alloc (.cells #[.int .i64 0, .int .i64 0, .int .i64 0] 23)).heap.size := by simp only [World.size_alloc]; omega
  have q_1 := q_0.trans (b.mono q_0.size)
  clear q_0
  clear b
  have S_1 := Lib.hid nb0
  have Sz_1 := nz0
  clear nb0 nz0
  have Sc0_1 := blk_cell S_1.out 0
  have Sc1_1 := blk_cell S_1.out 1
  have Sc2_1 := blk_cell S_1.out 2
  have R_1 := Lib.hid nb1
  have Rz_1 := nz1
  clear nb1 nz1
  have Rc0_1 := blk_cell R_1.out 0
  have Rc1_1 := blk_cell R_1.out 1
  have Rc2_1 := blk_cell R_1.out 2
  generalize ((w.alloc (.cells #[.int .i64 c, .int .i64 t, .int .i64 a] 23)).alloc (.cells #[.int .i64 0, .int .i64 0, .int .i64 0] 23)) = V1 at q_1 S_1 Sz_1 Sc0_1 Sc1_1 Sc2_1 R_1 Rz_1 Rc0_1 Rc1_1 Rc2_1 ⊢
  have NE : w.heap.size ≠ w.heap.size + 1 := Nat.ne_of_lt (Nat.lt_succ_self _)
  have NE2 := NE.symm
  refine (ask_ok c t a m n _ HM.out HS.out HN.out).mono ?_
  rintro e V2 ⟨rfl, b⟩
  have S_2 := Lib.hid ((b.block _ Sz_1).trans S_1.out)
  have Sz_2 := Nat.lt_of_lt_of_le Sz_1 b.size
  have Sc0_2 := blk_cell S_2.out 0
  have Sc1_2 := blk_cell S_2.out 1
  have Sc2_2 := blk_cell S_2.out 2
  have R_2 := Lib.hid ((b.block _ Rz_1).trans R_1.out)
  have Rz_2 := Nat.lt_of_lt_of_le Rz_1 b.size
  have Rc0_2 := blk_cell R_2.out 0
  have Rc1_2 := blk_cell R_2.out 1
  have Rc2_2 := blk_cell R_2.out 2
  have q_2 := q_1.trans (b.mono q_1.size)
  clear S_1 Sz_1 Sc0_1 Sc1_1 Sc2_1 R_1 Rz_1 Rc0_1 Rc1_1 Rc2_1 q_1
  clear b
  have rf0 := blk_free R_2.out 0
  have sf0 := blk_free S_2.out 0
  have rf1 := blk_free R_2.out 1
  have sf1 := blk_free S_2.out 1
  have rf2 := blk_free R_2.out 2
  have sf2 := blk_free S_2.out 2
  have QY := Lib.hid q_2
  clear R_2 S_2
  go_wp2
  refine bodyPost_ret (v := .tuple #[.agg #[.int .i64 (min (c + m) 1073741824), .int .i64 (t), .int .i64 (min (a + n) 1073741824 - c)], .int .i64 0]) (by simp [results, Try.results8, go_sem, *]) rfl ⟨rfl, ?_⟩
  (repeat' (first | (with_reducible exact QY.out) | (with_reducible exact Below.refl _ _) | (with_reducible refine Below.alloc ?_ ?_ _) | (with_reducible refine Below.setCell ?_ ?_ _) | (with_reducible refine Below.drew ?_) | (with_reducible refine below_drewN ?_ _) | omega | (dsimp only; omega) | (simp; done) | (simp; omega)))

set_option maxHeartbeats 2000000 in
theorem rack_on (c t a m n : Int) (w : World) (hM : MV m) (hS : SV c t a m) (hN : NV n) (hct : t ≤ c) (hup : min (a + n) 1073741824 < c) :
    Calls Try.prog 8 #[.agg #[.int .i64 c, .int .i64 t, .int .i64 a], .int .i64 m, .int .i64 n] w fun e w' => e = .returned (.tuple #[.agg #[.int .i64 (c), .int .i64 (t), .int .i64 (min (a + n) 1073741824)], .int .i64 0]) ∧ Below w.heap.size w w' := by
  have HM := Lib.hid hM
  have HS := Lib.hid hS
  have HN := Lib.hid hN
  obtain ⟨m0, m1⟩ := hM
  obtain ⟨⟨c0, c1⟩, ⟨t0, t1⟩, a0, a1⟩ := hS
  obtain ⟨n0, n1⟩ := hN
  have q_0 := Below.refl w.heap.size w
  go_enter Try.func8, Try.ntmps8
  go_wp2_with fail
  have b : Below w.heap.size w ((w.alloc (.cells #[.int .i64 c, .int .i64 t, .int .i64 a] 23)).alloc (.cells #[.int .i64 0, .int .i64 0, .int .i64 0] 23)) := (((Below.refl _ w).alloc (Nat.le_refl _) (.cells #[.int .i64 c, .int .i64 t, .int .i64 a] 23)).alloc (by simp only [World.size_alloc]; omega) (.cells #[.int .i64 0, .int .i64 0, .int .i64 0] 23))
  have nb0 := blk_new w (.cells #[.int .i64 c, .int .i64 t, .int .i64 a] 23)
  have nb0 := (Below.heap_alloc (w.alloc (.cells #[.int .i64 c, .int .i64 t, .int .i64 a] 23)) (.cells #[.int .i64 0, .int .i64 0, .int .i64 0] 23) (w.heap.size) (by simp only [World.size_alloc]; omega)).trans nb0
  have nz0 : w.heap.size < ((w.alloc (.cells #[.int .i64 c, .int .i64 t, .int .i64 a] 23)).alloc (.cells #[.int .i64 0, .int .i64 0, .int .i64 0] 23)).heap.size := by simp only [World.size_alloc]; omega
  have nb1 := blk_new (w.alloc (.cells #[.int .i64 c, .int .i64 t, .int .i64 a] 23)) (.cells #[.int .i64 0, .int .i64 0, .int .i64 0] 23)
  simp only [World.size_alloc] at nb1
  have nz1 : w.heap.size + 1 < ((w.alloc (.cells #[.int .i64 c, .int .i64 t, .int .i64 a] 23)).alloc (.cells #[.int .i64 0, .int .i64 0, .int .i64 0] 23)).heap.size := by simp only [World.size_alloc]; omega
  have q_1 := q_0.trans (b.mono q_0.size)
  clear q_0
  clear b
  have S_1 := Lib.hid nb0
  have Sz_1 := nz0
  clear nb0 nz0
  have Sc0_1 := blk_cell S_1.out 0
  have Sc1_1 := blk_cell S_1.out 1
  have Sc2_1 := blk_cell S_1.out 2
  have R_1 := Lib.hid nb1
  have Rz_1 := nz1
  clear nb1 nz1
  have Rc0_1 := blk_cell R_1.out 0
  have Rc1_1 := blk_cell R_1.out 1
  have Rc2_1 := blk_cell R_1.out 2
  generalize ((w.alloc (.cells #[.int .i64 c, .int .i64 t, .int .i64 a] 23)).alloc (.cells #[.int .i64 0, .int .i64 0, .int .i64 0] 23)) = V1 at q_1 S_1 Sz_1 Sc0_1 Sc1_1 Sc2_1 R_1 Rz_1 Rc0_1 Rc1_1 Rc2_1 ⊢
  have NE : w.heap.size ≠ w.heap.size + 1 := Nat.ne_of_lt (Nat.lt_succ_self _)
  have NE2 := NE.symm
  refine (ask_ok c t a m n _ HM.out HS.out HN.out).mono ?_
  rintro e V2 ⟨rfl, b⟩
  have S_2 := Lib.hid ((b.block _ Sz_1).trans S_1.out)
  have Sz_2 := Nat.lt_of_lt_of_le Sz_1 b.size
  have Sc0_2 := blk_cell S_2.out 0
  have Sc1_2 := blk_cell S_2.out 1
  have Sc2_2 := blk_cell S_2.out 2
  have R_2 := Lib.hid ((b.block _ Rz_1).trans R_1.out)
  have Rz_2 := Nat.lt_of_lt_of_le Rz_1 b.size
  have Rc0_2 := blk_cell R_2.out 0
  have Rc1_2 := blk_cell R_2.out 1
  have Rc2_2 := blk_cell R_2.out 2
  have q_2 := q_1.trans (b.mono q_1.size)
  clear S_1 Sz_1 Sc0_1 Sc1_1 Sc2_1 R_1 Rz_1 Rc0_1 Rc1_1 Rc2_1 q_1
  clear b
  have rf0 := blk_free R_2.out 0
  have sf0 := blk_free S_2.out 0
  have rf1 := blk_free R_2.out 1
  have sf1 := blk_free S_2.out 1
  have rf2 := blk_free R_2.out 2
  have sf2 := blk_free S_2.out 2
  have QY := Lib.hid q_2
  clear R_2 S_2
  go_wp2
  refine bodyPost_ret (v := .tuple #[.agg #[.int .i64 (c), .int .i64 (t), .int .i64 (min (a + n) 1073741824)], .int .i64 0]) (by simp [results, Try.results8, go_sem, *]) rfl ⟨rfl, ?_⟩
  (repeat' (first | (with_reducible exact QY.out) | (with_reducible exact Below.refl _ _) | (with_reducible refine Below.alloc ?_ ?_ _) | (with_reducible refine Below.setCell ?_ ?_ _) | (with_reducible refine Below.drew ?_) | (with_reducible refine below_drewN ?_ _) | omega | (dsimp only; omega) | (simp; done) | (simp; omega)))

set_option maxHeartbeats 2000000 in
theorem rloss_ok (c t a m n : Int) (w : World) (hM : MV m) (hS : SV c t a m) (hN : NV n)  :
    Calls Try.prog 10 #[.agg #[.int .i64 c, .int .i64 t, .int .i64 a], .int .i64 m, .int .i64 n] w fun e w' => e = .returned (.tuple #[.agg #[.int .i64 (max (n / 2) (2 * m)), .int .i64 (max (n / 2) (2 * m)), .int .i64 (0)], .int .i64 0]) ∧ Below w.heap.size w w' := by
  have HM := Lib.hid hM
  have HS := Lib.hid hS
  have HN := Lib.hid hN
  obtain ⟨m0, m1⟩ := hM
  obtain ⟨⟨c0, c1⟩, ⟨t0, t1⟩, a0, a1⟩ := hS
  obtain ⟨n0, n1⟩ := hN
  go_enter Try.func10, Try.ntmps10
  go_wp2_with fail
  refine (ask_ok c t a m n _ HM.out HS.out HN.out).mono ?_
  rintro e w1 ⟨rfl, b1⟩
  obtain ⟨hc1, hf1⟩ := bcell b1
  have Q1 : Hid (Below w.heap.size w w1) := Lib.hid (below_after (by (repeat' (first | (with_reducible exact Below.refl _ _) | (with_reducible refine Below.alloc ?_ ?_ _) | (with_reducible refine Below.setCell ?_ ?_ _) | (with_reducible refine Below.drew ?_) | (with_reducible refine below_drewN ?_ _) | omega | (dsimp only; omega) | (simp; done) | (simp; omega)))) b1)
  have hz1 := b1.size
  try simp at hz1
  have hz1_0 : w.heap.size < w1.heap.size := by omega
  have hz1_1 : w.heap.size + 1 < w1.heap.size := by omega
  clear hz1 b1
  go_wp2
  refine bodyPost_ret (v := .tuple #[.agg #[.int .i64 (max (n / 2) (2 * m)), .int .i64 (max (n / 2) (2 * m)), .int .i64 (0)], .int .i64 0]) (by simp [results, Try.results10, go_sem, *]) rfl ⟨rfl, ?_⟩
  (repeat' (first | (with_reducible exact Q1.out) | (with_reducible exact Below.refl _ _) | (with_reducible refine Below.alloc ?_ ?_ _) | (with_reducible refine Below.setCell ?_ ?_ _) | (with_reducible refine Below.drew ?_) | (with_reducible refine below_drewN ?_ _) | omega | (dsimp only; omega) | (simp; done) | (simp; omega)))

set_option maxHeartbeats 2000000 in
theorem rack_m (c t a m n : Int) (w : World) (hM : ¬ MV m) :
    Calls Try.prog 8 #[.agg #[.int .i64 c, .int .i64 t, .int .i64 a], .int .i64 m, .int .i64 n] w fun e w' => e = .returned (.tuple #[.agg #[.int .i64 0, .int .i64 0, .int .i64 0], .int .i64 4]) ∧ Below w.heap.size w w' := by
  go_enter Try.func8, Try.ntmps8
  go_wp2_with fail
  refine (ask_m c t a m n _ hM).mono ?_
  rintro e w1 ⟨rfl, b1⟩
  obtain ⟨hc1, hf1⟩ := bcell b1
  have Q1 : Hid (Below w.heap.size w w1) := Lib.hid (below_after (by (repeat' (first | (with_reducible exact Below.refl _ _) | (with_reducible refine Below.alloc ?_ ?_ _) | (with_reducible refine Below.setCell ?_ ?_ _) | (with_reducible refine Below.drew ?_) | (with_reducible refine below_drewN ?_ _) | omega | (dsimp only; omega) | (simp; done) | (simp; omega)))) b1)
  have hz1 := b1.size
  try simp at hz1
  have hz1_0 : w.heap.size < w1.heap.size := by omega
  have hz1_1 : w.heap.size + 1 < w1.heap.size := by omega
  clear hz1 b1
  go_wp2
  refine bodyPost_ret (v := .tuple #[.agg #[.int .i64 0, .int .i64 0, .int .i64 0], .int .i64 4]) (by simp [results, Try.results8, go_sem, *]) rfl ⟨rfl, ?_⟩
  (repeat' (first | (with_reducible exact Q1.out) | (with_reducible exact Below.refl _ _) | (with_reducible refine Below.alloc ?_ ?_ _) | (with_reducible refine Below.setCell ?_ ?_ _) | (with_reducible refine Below.drew ?_) | (with_reducible refine below_drewN ?_ _) | omega | (dsimp only; omega) | (simp; done) | (simp; omega)))

set_option maxHeartbeats 2000000 in
theorem rack_s (c t a m n : Int) (w : World) (hM : MV m) (hS : ¬ SV c t a m) :
    Calls Try.prog 8 #[.agg #[.int .i64 c, .int .i64 t, .int .i64 a], .int .i64 m, .int .i64 n] w fun e w' => e = .returned (.tuple #[.agg #[.int .i64 0, .int .i64 0, .int .i64 0], .int .i64 171]) ∧ Below w.heap.size w w' := by
  go_enter Try.func8, Try.ntmps8
  go_wp2_with fail
  refine (ask_s c t a m n _ hM hS).mono ?_
  rintro e w1 ⟨rfl, b1⟩
  obtain ⟨hc1, hf1⟩ := bcell b1
  have Q1 : Hid (Below w.heap.size w w1) := Lib.hid (below_after (by (repeat' (first | (with_reducible exact Below.refl _ _) | (with_reducible refine Below.alloc ?_ ?_ _) | (with_reducible refine Below.setCell ?_ ?_ _) | (with_reducible refine Below.drew ?_) | (with_reducible refine below_drewN ?_ _) | omega | (dsimp only; omega) | (simp; done) | (simp; omega)))) b1)
  have hz1 := b1.size
  try simp at hz1
  have hz1_0 : w.heap.size < w1.heap.size := by omega
  have hz1_1 : w.heap.size + 1 < w1.heap.size := by omega
  clear hz1 b1
  go_wp2
  refine bodyPost_ret (v := .tuple #[.agg #[.int .i64 0, .int .i64 0, .int .i64 0], .int .i64 171]) (by simp [results, Try.results8, go_sem, *]) rfl ⟨rfl, ?_⟩
  (repeat' (first | (with_reducible exact Q1.out) | (with_reducible exact Below.refl _ _) | (with_reducible refine Below.alloc ?_ ?_ _) | (with_reducible refine Below.setCell ?_ ?_ _) | (with_reducible refine Below.drew ?_) | (with_reducible refine below_drewN ?_ _) | omega | (dsimp only; omega) | (simp; done) | (simp; omega)))

set_option maxHeartbeats 2000000 in
theorem rack_n (c t a m n : Int) (w : World) (hM : MV m) (hS : SV c t a m) (hN : ¬ NV n) :
    Calls Try.prog 8 #[.agg #[.int .i64 c, .int .i64 t, .int .i64 a], .int .i64 m, .int .i64 n] w fun e w' => e = .returned (.tuple #[.agg #[.int .i64 0, .int .i64 0, .int .i64 0], .int .i64 4]) ∧ Below w.heap.size w w' := by
  go_enter Try.func8, Try.ntmps8
  go_wp2_with fail
  refine (ask_n c t a m n _ hM hS hN).mono ?_
  rintro e w1 ⟨rfl, b1⟩
  obtain ⟨hc1, hf1⟩ := bcell b1
  have Q1 : Hid (Below w.heap.size w w1) := Lib.hid (below_after (by (repeat' (first | (with_reducible exact Below.refl _ _) | (with_reducible refine Below.alloc ?_ ?_ _) | (with_reducible refine Below.setCell ?_ ?_ _) | (with_reducible refine Below.drew ?_) | (with_reducible refine below_drewN ?_ _) | omega | (dsimp only; omega) | (simp; done) | (simp; omega)))) b1)
  have hz1 := b1.size
  try simp at hz1
  have hz1_0 : w.heap.size < w1.heap.size := by omega
  have hz1_1 : w.heap.size + 1 < w1.heap.size := by omega
  clear hz1 b1
  go_wp2
  refine bodyPost_ret (v := .tuple #[.agg #[.int .i64 0, .int .i64 0, .int .i64 0], .int .i64 4]) (by simp [results, Try.results8, go_sem, *]) rfl ⟨rfl, ?_⟩
  (repeat' (first | (with_reducible exact Q1.out) | (with_reducible exact Below.refl _ _) | (with_reducible refine Below.alloc ?_ ?_ _) | (with_reducible refine Below.setCell ?_ ?_ _) | (with_reducible refine Below.drew ?_) | (with_reducible refine below_drewN ?_ _) | omega | (dsimp only; omega) | (simp; done) | (simp; omega)))

set_option maxHeartbeats 2000000 in
theorem rloss_m (c t a m n : Int) (w : World) (hM : ¬ MV m) :
    Calls Try.prog 10 #[.agg #[.int .i64 c, .int .i64 t, .int .i64 a], .int .i64 m, .int .i64 n] w fun e w' => e = .returned (.tuple #[.agg #[.int .i64 0, .int .i64 0, .int .i64 0], .int .i64 4]) ∧ Below w.heap.size w w' := by
  go_enter Try.func10, Try.ntmps10
  go_wp2_with fail
  refine (ask_m c t a m n _ hM).mono ?_
  rintro e w1 ⟨rfl, b1⟩
  obtain ⟨hc1, hf1⟩ := bcell b1
  have Q1 : Hid (Below w.heap.size w w1) := Lib.hid (below_after (by (repeat' (first | (with_reducible exact Below.refl _ _) | (with_reducible refine Below.alloc ?_ ?_ _) | (with_reducible refine Below.setCell ?_ ?_ _) | (with_reducible refine Below.drew ?_) | (with_reducible refine below_drewN ?_ _) | omega | (dsimp only; omega) | (simp; done) | (simp; omega)))) b1)
  have hz1 := b1.size
  try simp at hz1
  have hz1_0 : w.heap.size < w1.heap.size := by omega
  have hz1_1 : w.heap.size + 1 < w1.heap.size := by omega
  clear hz1 b1
  go_wp2
  refine bodyPost_ret (v := .tuple #[.agg #[.int .i64 0, .int .i64 0, .int .i64 0], .int .i64 4]) (by simp [results, Try.results10, go_sem, *]) rfl ⟨rfl, ?_⟩
  (repeat' (first | (with_reducible exact Q1.out) | (with_reducible exact Below.refl _ _) | (with_reducible refine Below.alloc ?_ ?_ _) | (with_reducible refine Below.setCell ?_ ?_ _) | (with_reducible refine Below.drew ?_) | (with_reducible refine below_drewN ?_ _) | omega | (dsimp only; omega) | (simp; done) | (simp; omega)))

set_option maxHeartbeats 2000000 in
theorem rloss_s (c t a m n : Int) (w : World) (hM : MV m) (hS : ¬ SV c t a m) :
    Calls Try.prog 10 #[.agg #[.int .i64 c, .int .i64 t, .int .i64 a], .int .i64 m, .int .i64 n] w fun e w' => e = .returned (.tuple #[.agg #[.int .i64 0, .int .i64 0, .int .i64 0], .int .i64 171]) ∧ Below w.heap.size w w' := by
  go_enter Try.func10, Try.ntmps10
  go_wp2_with fail
  refine (ask_s c t a m n _ hM hS).mono ?_
  rintro e w1 ⟨rfl, b1⟩
  obtain ⟨hc1, hf1⟩ := bcell b1
  have Q1 : Hid (Below w.heap.size w w1) := Lib.hid (below_after (by (repeat' (first | (with_reducible exact Below.refl _ _) | (with_reducible refine Below.alloc ?_ ?_ _) | (with_reducible refine Below.setCell ?_ ?_ _) | (with_reducible refine Below.drew ?_) | (with_reducible refine below_drewN ?_ _) | omega | (dsimp only; omega) | (simp; done) | (simp; omega)))) b1)
  have hz1 := b1.size
  try simp at hz1
  have hz1_0 : w.heap.size < w1.heap.size := by omega
  have hz1_1 : w.heap.size + 1 < w1.heap.size := by omega
  clear hz1 b1
  go_wp2
  refine bodyPost_ret (v := .tuple #[.agg #[.int .i64 0, .int .i64 0, .int .i64 0], .int .i64 171]) (by simp [results, Try.results10, go_sem, *]) rfl ⟨rfl, ?_⟩
  (repeat' (first | (with_reducible exact Q1.out) | (with_reducible exact Below.refl _ _) | (with_reducible refine Below.alloc ?_ ?_ _) | (with_reducible refine Below.setCell ?_ ?_ _) | (with_reducible refine Below.drew ?_) | (with_reducible refine below_drewN ?_ _) | omega | (dsimp only; omega) | (simp; done) | (simp; omega)))

set_option maxHeartbeats 2000000 in
theorem rloss_n (c t a m n : Int) (w : World) (hM : MV m) (hS : SV c t a m) (hN : ¬ NV n) :
    Calls Try.prog 10 #[.agg #[.int .i64 c, .int .i64 t, .int .i64 a], .int .i64 m, .int .i64 n] w fun e w' => e = .returned (.tuple #[.agg #[.int .i64 0, .int .i64 0, .int .i64 0], .int .i64 4]) ∧ Below w.heap.size w w' := by
  go_enter Try.func10, Try.ntmps10
  go_wp2_with fail
  refine (ask_n c t a m n _ hM hS hN).mono ?_
  rintro e w1 ⟨rfl, b1⟩
  obtain ⟨hc1, hf1⟩ := bcell b1
  have Q1 : Hid (Below w.heap.size w w1) := Lib.hid (below_after (by (repeat' (first | (with_reducible exact Below.refl _ _) | (with_reducible refine Below.alloc ?_ ?_ _) | (with_reducible refine Below.setCell ?_ ?_ _) | (with_reducible refine Below.drew ?_) | (with_reducible refine below_drewN ?_ _) | omega | (dsimp only; omega) | (simp; done) | (simp; omega)))) b1)
  have hz1 := b1.size
  try simp at hz1
  have hz1_0 : w.heap.size < w1.heap.size := by omega
  have hz1_1 : w.heap.size + 1 < w1.heap.size := by omega
  clear hz1 b1
  go_wp2
  refine bodyPost_ret (v := .tuple #[.agg #[.int .i64 0, .int .i64 0, .int .i64 0], .int .i64 4]) (by simp [results, Try.results10, go_sem, *]) rfl ⟨rfl, ?_⟩
  (repeat' (first | (with_reducible exact Q1.out) | (with_reducible exact Below.refl _ _) | (with_reducible refine Below.alloc ?_ ?_ _) | (with_reducible refine Below.setCell ?_ ?_ _) | (with_reducible refine Below.drew ?_) | (with_reducible refine below_drewN ?_ _) | omega | (dsimp only; omega) | (simp; done) | (simp; omega)))

set_option maxHeartbeats 2000000 in
theorem rtimeout_ok (c t a m n : Int) (w : World) (hM : MV m) (hS : SV c t a m) (hN : NV n)  :
    Calls Try.prog 12 #[.agg #[.int .i64 c, .int .i64 t, .int .i64 a], .int .i64 m, .int .i64 n] w fun e w' => e = .returned (.tuple #[.agg #[.int .i64 (m), .int .i64 (max (n / 2) (2 * m)), .int .i64 (0)], .int .i64 0]) ∧ Below w.heap.size w w' := by
  have HM := Lib.hid hM
  have HS := Lib.hid hS
  have HN := Lib.hid hN
  obtain ⟨m0, m1⟩ := hM
  obtain ⟨⟨c0, c1⟩, ⟨t0, t1⟩, a0, a1⟩ := hS
  obtain ⟨n0, n1⟩ := hN
  go_enter Try.func12, Try.ntmps12
  go_wp2_with fail
  refine (rloss_ok c t a m n _ HM.out HS.out HN.out).mono ?_
  rintro e w1 ⟨rfl, b1⟩
  obtain ⟨hc1, hf1⟩ := bcell b1
  have Q1 : Hid (Below w.heap.size w w1) := Lib.hid (below_after (by (repeat' (first | (with_reducible exact Below.refl _ _) | (with_reducible refine Below.alloc ?_ ?_ _) | (with_reducible refine Below.setCell ?_ ?_ _) | (with_reducible refine Below.drew ?_) | (with_reducible refine below_drewN ?_ _) | omega | (dsimp only; omega) | (simp; done) | (simp; omega)))) b1)
  have hz1 := b1.size
  try simp at hz1
  have hz1_0 : w.heap.size < w1.heap.size := by omega
  have hz1_1 : w.heap.size + 1 < w1.heap.size := by omega
  clear hz1 b1
  go_wp2
  refine bodyPost_ret (v := .tuple #[.agg #[.int .i64 (m), .int .i64 (max (n / 2) (2 * m)), .int .i64 (0)], .int .i64 0]) (by simp [results, Try.results12, go_sem, *]) rfl ⟨rfl, ?_⟩
  (repeat' (first | (with_reducible exact Q1.out) | (with_reducible exact Below.refl _ _) | (with_reducible refine Below.alloc ?_ ?_ _) | (with_reducible refine Below.setCell ?_ ?_ _) | (with_reducible refine Below.drew ?_) | (with_reducible refine below_drewN ?_ _) | omega | (dsimp only; omega) | (simp; done) | (simp; omega)))

set_option maxHeartbeats 2000000 in
theorem rtimeout_m (c t a m n : Int) (w : World) (hM : ¬ MV m) :
    Calls Try.prog 12 #[.agg #[.int .i64 c, .int .i64 t, .int .i64 a], .int .i64 m, .int .i64 n] w fun e w' => e = .returned (.tuple #[.agg #[.int .i64 0, .int .i64 0, .int .i64 0], .int .i64 4]) ∧ Below w.heap.size w w' := by
  go_enter Try.func12, Try.ntmps12
  go_wp2_with fail
  refine (rloss_m c t a m n _ hM).mono ?_
  rintro e w1 ⟨rfl, b1⟩
  obtain ⟨hc1, hf1⟩ := bcell b1
  have Q1 : Hid (Below w.heap.size w w1) := Lib.hid (below_after (by (repeat' (first | (with_reducible exact Below.refl _ _) | (with_reducible refine Below.alloc ?_ ?_ _) | (with_reducible refine Below.setCell ?_ ?_ _) | (with_reducible refine Below.drew ?_) | (with_reducible refine below_drewN ?_ _) | omega | (dsimp only; omega) | (simp; done) | (simp; omega)))) b1)
  have hz1 := b1.size
  try simp at hz1
  have hz1_0 : w.heap.size < w1.heap.size := by omega
  have hz1_1 : w.heap.size + 1 < w1.heap.size := by omega
  clear hz1 b1
  go_wp2
  refine bodyPost_ret (v := .tuple #[.agg #[.int .i64 0, .int .i64 0, .int .i64 0], .int .i64 4]) (by simp [results, Try.results12, go_sem, *]) rfl ⟨rfl, ?_⟩
  (repeat' (first | (with_reducible exact Q1.out) | (with_reducible exact Below.refl _ _) | (with_reducible refine Below.alloc ?_ ?_ _) | (with_reducible refine Below.setCell ?_ ?_ _) | (with_reducible refine Below.drew ?_) | (with_reducible refine below_drewN ?_ _) | omega | (dsimp only; omega) | (simp; done) | (simp; omega)))

set_option maxHeartbeats 2000000 in
theorem rtimeout_s (c t a m n : Int) (w : World) (hM : MV m) (hS : ¬ SV c t a m) :
    Calls Try.prog 12 #[.agg #[.int .i64 c, .int .i64 t, .int .i64 a], .int .i64 m, .int .i64 n] w fun e w' => e = .returned (.tuple #[.agg #[.int .i64 0, .int .i64 0, .int .i64 0], .int .i64 171]) ∧ Below w.heap.size w w' := by
  go_enter Try.func12, Try.ntmps12
  go_wp2_with fail
  refine (rloss_s c t a m n _ hM hS).mono ?_
  rintro e w1 ⟨rfl, b1⟩
  obtain ⟨hc1, hf1⟩ := bcell b1
  have Q1 : Hid (Below w.heap.size w w1) := Lib.hid (below_after (by (repeat' (first | (with_reducible exact Below.refl _ _) | (with_reducible refine Below.alloc ?_ ?_ _) | (with_reducible refine Below.setCell ?_ ?_ _) | (with_reducible refine Below.drew ?_) | (with_reducible refine below_drewN ?_ _) | omega | (dsimp only; omega) | (simp; done) | (simp; omega)))) b1)
  have hz1 := b1.size
  try simp at hz1
  have hz1_0 : w.heap.size < w1.heap.size := by omega
  have hz1_1 : w.heap.size + 1 < w1.heap.size := by omega
  clear hz1 b1
  go_wp2
  refine bodyPost_ret (v := .tuple #[.agg #[.int .i64 0, .int .i64 0, .int .i64 0], .int .i64 171]) (by simp [results, Try.results12, go_sem, *]) rfl ⟨rfl, ?_⟩
  (repeat' (first | (with_reducible exact Q1.out) | (with_reducible exact Below.refl _ _) | (with_reducible refine Below.alloc ?_ ?_ _) | (with_reducible refine Below.setCell ?_ ?_ _) | (with_reducible refine Below.drew ?_) | (with_reducible refine below_drewN ?_ _) | omega | (dsimp only; omega) | (simp; done) | (simp; omega)))

set_option maxHeartbeats 2000000 in
theorem rtimeout_n (c t a m n : Int) (w : World) (hM : MV m) (hS : SV c t a m) (hN : ¬ NV n) :
    Calls Try.prog 12 #[.agg #[.int .i64 c, .int .i64 t, .int .i64 a], .int .i64 m, .int .i64 n] w fun e w' => e = .returned (.tuple #[.agg #[.int .i64 0, .int .i64 0, .int .i64 0], .int .i64 4]) ∧ Below w.heap.size w w' := by
  go_enter Try.func12, Try.ntmps12
  go_wp2_with fail
  refine (rloss_n c t a m n _ hM hS hN).mono ?_
  rintro e w1 ⟨rfl, b1⟩
  obtain ⟨hc1, hf1⟩ := bcell b1
  have Q1 : Hid (Below w.heap.size w w1) := Lib.hid (below_after (by (repeat' (first | (with_reducible exact Below.refl _ _) | (with_reducible refine Below.alloc ?_ ?_ _) | (with_reducible refine Below.setCell ?_ ?_ _) | (with_reducible refine Below.drew ?_) | (with_reducible refine below_drewN ?_ _) | omega | (dsimp only; omega) | (simp; done) | (simp; omega)))) b1)
  have hz1 := b1.size
  try simp at hz1
  have hz1_0 : w.heap.size < w1.heap.size := by omega
  have hz1_1 : w.heap.size + 1 < w1.heap.size := by omega
  clear hz1 b1
  go_wp2
  refine bodyPost_ret (v := .tuple #[.agg #[.int .i64 0, .int .i64 0, .int .i64 0], .int .i64 4]) (by simp [results, Try.results12, go_sem, *]) rfl ⟨rfl, ?_⟩
  (repeat' (first | (with_reducible exact Q1.out) | (with_reducible exact Below.refl _ _) | (with_reducible refine Below.alloc ?_ ?_ _) | (with_reducible refine Below.setCell ?_ ?_ _) | (with_reducible refine Below.drew ?_) | (with_reducible refine below_drewN ?_ _) | omega | (dsimp only; omega) | (simp; done) | (simp; omega)))

end Go.Proofs.Ytmjcckpppflpjaa
