/- Prr: the document's own answers. -/
import Derived.Test.YtlkpcojhpndieaaGBase
import Derived.Test.YtlkpcojhpndieaaPrM
import Derived.Lib.MinMax
import Derived.Deep.RegionHeld3
namespace Go.Proofs.Ytlkpcojhpndieaa
open Go.RowKit Go.Proofs.Ytlkpcojhpndieaa.Pr

theorem rin_any (n lo hi : Int) (w : World) : Calls Try.prog 23 #[.int .i64 n, .int .i64 lo, .int .i64 hi] w fun e w' => e = .returned (.bool (inb n lo hi)) ∧ w = w' := by
  by_cases h1 : lo ≤ n
  · by_cases h2 : n ≤ hi
    · rw [inb_true h1 h2]
      go_enter Try.func23, Try.ntmps23
      go_wp2
      go_ret
      exact ⟨rfl, rfl⟩
    · rw [inb_not.2 (fun h => h2 h.2)]
      go_enter Try.func23, Try.ntmps23
      go_wp2
      go_ret
      exact ⟨rfl, rfl⟩
  · rw [inb_not.2 (fun h => h1 h.1)]
    go_enter Try.func23, Try.ntmps23
    go_wp2
    go_ret
    exact ⟨rfl, rfl⟩

set_option maxHeartbeats 400000 in
theorem tick_any (n : Int) (w : World)  :
    Calls Try.prog 26 #[.int .i64 n] w fun e w' => e = .returned (.bool (inb n 0 1099511627776)) ∧ w = w' := by
  go_enter Try.func26, Try.ntmps26
  go_wp2_with (go_at_call 23; refine (rin_any _ _ _ _).mono ?_; rintro e w' ⟨rfl, rfl⟩)
  go_ret
  exact ⟨rfl, rfl⟩

set_option maxHeartbeats 2000000 in
theorem rstart_ok (f t : Int) (w : World) (h : OV f ∧ OV t) :
    Calls Try.prog 12 #[.int .i64 f, .int .i64 t] w fun e w' => e = .returned (.tuple #[.agg #[.int .i64 (t), .int .i64 (f), .int .i64 (0), .int .i64 (0)], .int .i64 0]) ∧ Below w.heap.size w w' := by
  have h1 := inb_true h.1.1 h.1.2
  have h2 := inb_true h.2.1 h.2.2
  clear h
  go_enter Try.func12, Try.ntmps12
  go_wp2_with (go_at_call 23; refine (rin_any _ _ _ _).mono ?_; rintro e w' ⟨rfl, rfl⟩)
  refine bodyPost_ret (v := .tuple #[.agg #[.int .i64 (t), .int .i64 (f), .int .i64 (0), .int .i64 (0)], .int .i64 0]) (by simp [results, Try.results12, go_sem, *]) rfl ⟨rfl, ?_⟩
  (repeat' (first | (with_reducible exact Below.refl _ _) | (with_reducible refine Below.alloc ?_ ?_ _) | (with_reducible refine Below.setCell ?_ ?_ _) | (with_reducible refine Below.drew ?_) | (with_reducible refine below_drewN ?_ _) | omega | (dsimp only; omega) | (simp; done) | (simp; omega)))

set_option maxHeartbeats 2000000 in
theorem rstart_no (f t : Int) (w : World) (h : ¬ (OV f ∧ OV t)) :
    Calls Try.prog 12 #[.int .i64 f, .int .i64 t] w fun e w' => e = .returned (.tuple #[.agg #[.int .i64 0, .int .i64 0, .int .i64 0, .int .i64 0], .int .i64 4]) ∧ Below w.heap.size w w' := by
  have hb : ¬ (inb f 1 1073741824 = true ∧ inb t 1 1073741824 = true) := by simp only [inb_iff]; exact h
  have HB := Lib.hid hb
  clear hb h
  go_enter Try.func12, Try.ntmps12
  go_wp2_with (go_at_call 23; refine (rin_any _ _ _ _).mono ?_; rintro e w' ⟨rfl, rfl⟩)
  all_goals
    first
    | (exfalso; have h2 := HB.out; simp_all; done)
    | (refine bodyPost_ret (v := .tuple #[.agg #[.int .i64 0, .int .i64 0, .int .i64 0, .int .i64 0], .int .i64 4]) (by simp [results, Try.results12, go_sem, *]) rfl ⟨rfl, ?_⟩
       (repeat' (first | (with_reducible exact Below.refl _ _) | (with_reducible refine Below.alloc ?_ ?_ _) | (with_reducible refine Below.setCell ?_ ?_ _) | (with_reducible refine Below.drew ?_) | (with_reducible refine below_drewN ?_ _) | omega | (dsimp only; omega) | (simp; done) | (simp; omega))))

set_option maxHeartbeats 2000000 in
theorem rsm_yes (t f d o : Int) (w : World) (h : SV t f d o) :
    Calls Try.prog 22 #[.agg #[.int .i64 t, .int .i64 f, .int .i64 d, .int .i64 o]] w fun e w' => e = .returned (.int .i64 0) ∧ Below w.heap.size w w' := by
  obtain ⟨⟨⟨t0, t1⟩, f0, f1⟩, ⟨d0, d1⟩, o0, o1⟩ := h
  have h1 := inb_true t0 t1
  have h2 := inb_true f0 f1
  have h3 := inb_true d0 d1
  have h4 := inb_true o0 o1
  go_enter Try.func22, Try.ntmps22
  go_wp2_with (go_at_call 23; refine (rin_any _ _ _ _).mono ?_; rintro e w' ⟨rfl, rfl⟩)
  go_ret
  refine ⟨rfl, ?_⟩
  (repeat' (first | (with_reducible exact Below.refl _ _) | (with_reducible refine Below.alloc ?_ ?_ _) | (with_reducible refine Below.setCell ?_ ?_ _) | (with_reducible refine Below.drew ?_) | (with_reducible refine below_drewN ?_ _) | omega | (dsimp only; omega) | (simp; done) | (simp; omega)))

set_option maxHeartbeats 2000000 in
theorem rsm_no (t f d o : Int) (w : World) (h : ¬ SV t f d o) :
    Calls Try.prog 22 #[.agg #[.int .i64 t, .int .i64 f, .int .i64 d, .int .i64 o]] w fun e w' => e = .returned (.int .i64 171) ∧ Below w.heap.size w w' := by
  have hb : ¬ (inb t 1 1073741824 = true ∧ inb f 1 1073741824 = true ∧ inb d 0 2147483648 = true ∧ inb o 0 2147483648 = true) := by
    simp only [inb_iff]; intro hb; exact h ⟨⟨hb.1, hb.2.1⟩, hb.2.2.1, hb.2.2.2⟩
  have HB := Lib.hid hb
  clear hb h
  go_enter Try.func22, Try.ntmps22
  go_wp2_with (go_at_call 23; refine (rin_any _ _ _ _).mono ?_; rintro e w' ⟨rfl, rfl⟩)
  all_goals
    first
    | (exfalso; have h2 := HB.out; simp_all; done)
    | (go_ret
       refine ⟨rfl, ?_⟩
       (repeat' (first | (with_reducible exact Below.refl _ _) | (with_reducible refine Below.alloc ?_ ?_ _) | (with_reducible refine Below.setCell ?_ ?_ _) | (with_reducible refine Below.drew ?_) | (with_reducible refine below_drewN ?_ _) | omega | (dsimp only; omega) | (simp; done) | (simp; omega))))

set_option maxHeartbeats 2000000 in
theorem rack_s (t f d o n p m : Int) (w : World) (hS : ¬ SV t f d o) :
    Calls Try.prog 8 #[.agg #[.int .i64 t, .int .i64 f, .int .i64 d, .int .i64 o], .int .i64 n, .int .i64 p, .int .i64 m] w fun e w' => e = .returned (.tuple #[.agg #[.int .i64 0, .int .i64 0, .int .i64 0, .int .i64 0], .int .i64 0, .int .i64 171]) ∧ Below w.heap.size w w' := by
  have q_0 := Below.refl w.heap.size w
  go_enter Try.func8, Try.ntmps8
  go_wp2_with fail
  have b : Below w.heap.size w ((w.alloc (.cells #[.int .i64 t, .int .i64 f, .int .i64 d, .int .i64 o] 23)).alloc (.cells #[.int .i64 0, .int .i64 0, .int .i64 0, .int .i64 0] 23)) := (((Below.refl _ w).alloc (Nat.le_refl _) (.cells #[.int .i64 t, .int .i64 f, .int .i64 d, .int .i64 o] 23)).alloc (by simp only [World.size_alloc]; omega) (.cells #[.int .i64 0, .int .i64 0, .int .i64 0, .int .i64 0] 23))
  have nb0 := blk_new w (.cells #[.int .i64 t, .int .i64 f, .int .i64 d, .int .i64 o] 23)
  have nb0 := (Below.heap_alloc (w.alloc (.cells #[.int .i64 t, .int .i64 f, .int .i64 d, .int .i64 o] 23)) (.cells #[.int .i64 0, .int .i64 0, .int .i64 0, .int .i64 0] 23) (w.heap.size) (by simp only [World.size_alloc]; omega)).trans nb0
  have nz0 : w.heap.size < ((w.alloc (.cells #[.int .i64 t, .int .i64 f, .int .i64 d, .int .i64 o] 23)).alloc (.cells #[.int .i64 0, .int .i64 0, .int .i64 0, .int .i64 0] 23)).heap.size := by simp only [World.size_alloc]; omega
  have nb1 := blk_new (w.alloc (.cells #[.int .i64 t, .int .i64 f, .int .i64 d, .int .i64 o] 23)) (.cells #[.int .i64 0, .int .i64 0, .int .i64 0, .int .i64 0] 23)
  simp only [World.size_alloc] at nb1
  have nz1 : w.heap.size + 1 < ((w.alloc (.cells #[.int .i64 t, .int .i64 f, .int .i64 d, .int .i64 o] 23)).alloc (.cells #[.int .i64 0, .int .i64 0, .int .i64 0, .int .i64 0] 23)).heap.size := by simp only [World.size_alloc]; omega
  have q_1 := q_0.trans (b.mono q_0.size)
  clear q_0
  clear b
  have S_1 := Lib.hid nb0
  have Sz_1 := nz0
  clear nb0 nz0
  have Sc0_1 := blk_cell S_1.out 0
  have Sc1_1 := blk_cell S_1.out 1
  have Sc2_1 := blk_cell S_1.out 2
  have Sc3_1 := blk_cell S_1.out 3
  have R_1 := Lib.hid nb1
  have Rz_1 := nz1
  clear nb1 nz1
  have Rc0_1 := blk_cell R_1.out 0
  have Rc1_1 := blk_cell R_1.out 1
  have Rc2_1 := blk_cell R_1.out 2
  have Rc3_1 := blk_cell R_1.out 3
  generalize ((w.alloc (.cells #[.int .i64 t, .int .i64 f, .int .i64 d, .int .i64 o] 23)).alloc (.cells #[.int .i64 0, .int .i64 0, .int .i64 0, .int .i64 0] 23)) = V1 at q_1 S_1 Sz_1 Sc0_1 Sc1_1 Sc2_1 Sc3_1 R_1 Rz_1 Rc0_1 Rc1_1 Rc2_1 Rc3_1 ⊢
  refine (rsm_no t f d o _ hS).mono ?_
  rintro e V2 ⟨rfl, b⟩
  have S_2 := Lib.hid ((b.block _ Sz_1).trans S_1.out)
  have Sz_2 := Nat.lt_of_lt_of_le Sz_1 b.size
  have Sc0_2 := blk_cell S_2.out 0
  have Sc1_2 := blk_cell S_2.out 1
  have Sc2_2 := blk_cell S_2.out 2
  have Sc3_2 := blk_cell S_2.out 3
  have R_2 := Lib.hid ((b.block _ Rz_1).trans R_1.out)
  have Rz_2 := Nat.lt_of_lt_of_le Rz_1 b.size
  have Rc0_2 := blk_cell R_2.out 0
  have Rc1_2 := blk_cell R_2.out 1
  have Rc2_2 := blk_cell R_2.out 2
  have Rc3_2 := blk_cell R_2.out 3
  have q_2 := q_1.trans (b.mono q_1.size)
  clear S_1 Sz_1 Sc0_1 Sc1_1 Sc2_1 Sc3_1 R_1 Rz_1 Rc0_1 Rc1_1 Rc2_1 Rc3_1 q_1
  clear b
  have fS0 := blk_free S_2.out 0
  have fS1 := blk_free S_2.out 1
  have fS2 := blk_free S_2.out 2
  have fS3 := blk_free S_2.out 3
  have fR0 := blk_free R_2.out 0
  have fR1 := blk_free R_2.out 1
  have fR2 := blk_free R_2.out 2
  have fR3 := blk_free R_2.out 3
  have QY := Lib.hid q_2
  clear S_2 R_2
  go_wp2
  refine bodyPost_ret (v := .tuple #[.agg #[.int .i64 0, .int .i64 0, .int .i64 0, .int .i64 0], .int .i64 0, .int .i64 171]) (by simp [results, Try.results8, go_sem, *]) rfl ⟨rfl, ?_⟩
  (repeat' (first | (with_reducible exact QY.out) | (with_reducible exact Below.refl _ _) | (with_reducible refine Below.alloc ?_ ?_ _) | (with_reducible refine Below.setCell ?_ ?_ _) | (with_reducible refine Below.drew ?_) | (with_reducible refine below_drewN ?_ _) | omega | (dsimp only; omega) | (simp; done) | (simp; omega)))

set_option maxHeartbeats 2000000 in
theorem rack_a (t f d o n p m : Int) (w : World) (hS : SV t f d o) (hA : ¬ AV n p m) :
    Calls Try.prog 8 #[.agg #[.int .i64 t, .int .i64 f, .int .i64 d, .int .i64 o], .int .i64 n, .int .i64 p, .int .i64 m] w fun e w' => e = .returned (.tuple #[.agg #[.int .i64 0, .int .i64 0, .int .i64 0, .int .i64 0], .int .i64 0, .int .i64 4]) ∧ Below w.heap.size w w' := by
  have hb : ¬ (inb n 0 1073741824 = true ∧ inb p 0 1073741824 = true ∧ inb m 1 65535 = true) := by
    simp only [inb_iff]; intro hb; exact hA ⟨⟨hb.1, hb.2.1⟩, hb.2.2⟩
  have HB := Lib.hid hb
  clear hb hA
  have q_0 := Below.refl w.heap.size w
  go_enter Try.func8, Try.ntmps8
  go_wp2_with fail
  have b : Below w.heap.size w ((w.alloc (.cells #[.int .i64 t, .int .i64 f, .int .i64 d, .int .i64 o] 23)).alloc (.cells #[.int .i64 0, .int .i64 0, .int .i64 0, .int .i64 0] 23)) := (((Below.refl _ w).alloc (Nat.le_refl _) (.cells #[.int .i64 t, .int .i64 f, .int .i64 d, .int .i64 o] 23)).alloc (by simp only [World.size_alloc]; omega) (.cells #[.int .i64 0, .int .i64 0, .int .i64 0, .int .i64 0] 23))
  have nb0 := blk_new w (.cells #[.int .i64 t, .int .i64 f, .int .i64 d, .int .i64 o] 23)
  have nb0 := (Below.heap_alloc (w.alloc (.cells #[.int .i64 t, .int .i64 f, .int .i64 d, .int .i64 o] 23)) (.cells #[.int .i64 0, .int .i64 0, .int .i64 0, .int .i64 0] 23) (w.heap.size) (by simp only [World.size_alloc]; omega)).trans nb0
  have nz0 : w.heap.size < ((w.alloc (.cells #[.int .i64 t, .int .i64 f, .int .i64 d, .int .i64 o] 23)).alloc (.cells #[.int .i64 0, .int .i64 0, .int .i64 0, .int .i64 0] 23)).heap.size := by simp only [World.size_alloc]; omega
  have nb1 := blk_new (w.alloc (.cells #[.int .i64 t, .int .i64 f, .int .i64 d, .int .i64 o] 23)) (.cells #[.int .i64 0, .int .i64 0, .int .i64 0, .int .i64 0] 23)
  simp only [World.size_alloc] at nb1
  have nz1 : w.heap.size + 1 < ((w.alloc (.cells #[.int .i64 t, .int .i64 f, .int .i64 d, .int .i64 o] 23)).alloc (.cells #[.int .i64 0, .int .i64 0, .int .i64 0, .int .i64 0] 23)).heap.size := by simp only [World.size_alloc]; omega
  have q_1 := q_0.trans (b.mono q_0.size)
  clear q_0
  clear b
  have S_1 := Lib.hid nb0
  have Sz_1 := nz0
  clear nb0 nz0
  have Sc0_1 := blk_cell S_1.out 0
  have Sc1_1 := blk_cell S_1.out 1
  have Sc2_1 := blk_cell S_1.out 2
  have Sc3_1 := blk_cell S_1.out 3
  have R_1 := Lib.hid nb1
  have Rz_1 := nz1
  clear nb1 nz1
  have Rc0_1 := blk_cell R_1.out 0
  have Rc1_1 := blk_cell R_1.out 1
  have Rc2_1 := blk_cell R_1.out 2
  have Rc3_1 := blk_cell R_1.out 3
  generalize ((w.alloc (.cells #[.int .i64 t, .int .i64 f, .int .i64 d, .int .i64 o] 23)).alloc (.cells #[.int .i64 0, .int .i64 0, .int .i64 0, .int .i64 0] 23)) = V1 at q_1 S_1 Sz_1 Sc0_1 Sc1_1 Sc2_1 Sc3_1 R_1 Rz_1 Rc0_1 Rc1_1 Rc2_1 Rc3_1 ⊢
  refine (rsm_yes t f d o _ hS).mono ?_
  rintro e V2 ⟨rfl, b⟩
  have S_2 := Lib.hid ((b.block _ Sz_1).trans S_1.out)
  have Sz_2 := Nat.lt_of_lt_of_le Sz_1 b.size
  have Sc0_2 := blk_cell S_2.out 0
  have Sc1_2 := blk_cell S_2.out 1
  have Sc2_2 := blk_cell S_2.out 2
  have Sc3_2 := blk_cell S_2.out 3
  have R_2 := Lib.hid ((b.block _ Rz_1).trans R_1.out)
  have Rz_2 := Nat.lt_of_lt_of_le Rz_1 b.size
  have Rc0_2 := blk_cell R_2.out 0
  have Rc1_2 := blk_cell R_2.out 1
  have Rc2_2 := blk_cell R_2.out 2
  have Rc3_2 := blk_cell R_2.out 3
  have q_2 := q_1.trans (b.mono q_1.size)
  clear S_1 Sz_1 Sc0_1 Sc1_1 Sc2_1 Sc3_1 R_1 Rz_1 Rc0_1 Rc1_1 Rc2_1 Rc3_1 q_1
  clear b
  have fS0 := blk_free S_2.out 0
  have fS1 := blk_free S_2.out 1
  have fS2 := blk_free S_2.out 2
  have fS3 := blk_free S_2.out 3
  have fR0 := blk_free R_2.out 0
  have fR1 := blk_free R_2.out 1
  have fR2 := blk_free R_2.out 2
  have fR3 := blk_free R_2.out 3
  have QY := Lib.hid q_2
  clear S_2 R_2
  go_wp2_with (go_at_call 23; refine (rin_any _ _ _ _).mono ?_; rintro e w' ⟨rfl, rfl⟩)
  all_goals
    first
    | (exfalso; have h2 := HB.out; simp_all; done)
    | (refine bodyPost_ret (v := .tuple #[.agg #[.int .i64 0, .int .i64 0, .int .i64 0, .int .i64 0], .int .i64 0, .int .i64 4]) (by simp [results, Try.results8, go_sem, *]) rfl ⟨rfl, ?_⟩
       (repeat' (first | (with_reducible exact QY.out) | (with_reducible exact Below.refl _ _) | (with_reducible refine Below.alloc ?_ ?_ _) | (with_reducible refine Below.setCell ?_ ?_ _) | (with_reducible refine Below.drew ?_) | (with_reducible refine below_drewN ?_ _) | omega | (dsimp only; omega) | (simp; done) | (simp; omega))))

set_option maxHeartbeats 2000000 in
theorem rack_ok (t f d o n p m : Int) (w : World) (hS : SV t f d o) (hA : AV n p m) :
    Calls Try.prog 8 #[.agg #[.int .i64 t, .int .i64 f, .int .i64 d, .int .i64 o], .int .i64 n, .int .i64 p, .int .i64 m] w fun e w' => e = .returned (.tuple #[.agg #[.int .i64 (t), .int .i64 (f), .int .i64 (min (d + n) 2147483648), .int .i64 (o)], .int .i64 (max (al t f (min (d + n) 2147483648) o n p m) 0), .int .i64 0]) ∧ Below w.heap.size w w' := by
  have HS := Lib.hid hS
  obtain ⟨⟨⟨t0, t1⟩, f0, f1⟩, ⟨d0, d1⟩, o0, o1⟩ := hS
  obtain ⟨⟨⟨n0, n1⟩, p0, p1⟩, m0, m1⟩ := hA
  have hn := inb_true n0 n1
  have hp' := inb_true p0 p1
  have hm := inb_true m0 m1
  obtain ⟨D, hD⟩ : ∃ D, min (d + n) 2147483648 = D := ⟨_, rfl⟩
  rw [hD]
  have D0 : 0 ≤ D := by omega
  have D1 : D ≤ 2147483648 := by omega
  by_cases hp : t < p
  · have e1 : al t f D o n p m = (D * t + f - 1) / f - o := if_pos hp
    rw [e1]
    clear e1
    obtain ⟨b0, b1⟩ := prod_bd D0 D1 t0 t1
    obtain ⟨c0, c1⟩ := quot_bd (x := D * t + f - 1) (f := f) (by omega) f0
    have fz : (f == 0) = false := by rw [beq_eq_false_iff_ne]; omega
    have q_0 := Below.refl w.heap.size w
    go_enter Try.func8, Try.ntmps8
    go_wp2_with fail
    have b : Below w.heap.size w ((w.alloc (.cells #[.int .i64 t, .int .i64 f, .int .i64 d, .int .i64 o] 23)).alloc (.cells #[.int .i64 0, .int .i64 0, .int .i64 0, .int .i64 0] 23)) := (((Below.refl _ w).alloc (Nat.le_refl _) (.cells #[.int .i64 t, .int .i64 f, .int .i64 d, .int .i64 o] 23)).alloc (by simp only [World.size_alloc]; omega) (.cells #[.int .i64 0, .int .i64 0, .int .i64 0, .int .i64 0] 23))
    have nb0 := blk_new w (.cells #[.int .i64 t, .int .i64 f, .int .i64 d, .int .i64 o] 23)
    have nb0 := (Below.heap_alloc (w.alloc (.cells #[.int .i64 t, .int .i64 f, .int .i64 d, .int .i64 o] 23)) (.cells #[.int .i64 0, .int .i64 0, .int .i64 0, .int .i64 0] 23) (w.heap.size) (by simp only [World.size_alloc]; omega)).trans nb0
    have nz0 : w.heap.size < ((w.alloc (.cells #[.int .i64 t, .int .i64 f, .int .i64 d, .int .i64 o] 23)).alloc (.cells #[.int .i64 0, .int .i64 0, .int .i64 0, .int .i64 0] 23)).heap.size := by simp only [World.size_alloc]; omega
    have nb1 := blk_new (w.alloc (.cells #[.int .i64 t, .int .i64 f, .int .i64 d, .int .i64 o] 23)) (.cells #[.int .i64 0, .int .i64 0, .int .i64 0, .int .i64 0] 23)
    simp only [World.size_alloc] at nb1
    have nz1 : w.heap.size + 1 < ((w.alloc (.cells #[.int .i64 t, .int .i64 f, .int .i64 d, .int .i64 o] 23)).alloc (.cells #[.int .i64 0, .int .i64 0, .int .i64 0, .int .i64 0] 23)).heap.size := by simp only [World.size_alloc]; omega
    have q_1 := q_0.trans (b.mono q_0.size)
    clear q_0
    clear b
    have S_1 := Lib.hid nb0
    have Sz_1 := nz0
    clear nb0 nz0
    have Sc0_1 := blk_cell S_1.out 0
    have Sc1_1 := blk_cell S_1.out 1
    have Sc2_1 := blk_cell S_1.out 2
    have Sc3_1 := blk_cell S_1.out 3
    have R_1 := Lib.hid nb1
    have Rz_1 := nz1
    clear nb1 nz1
    have Rc0_1 := blk_cell R_1.out 0
    have Rc1_1 := blk_cell R_1.out 1
    have Rc2_1 := blk_cell R_1.out 2
    have Rc3_1 := blk_cell R_1.out 3
    generalize ((w.alloc (.cells #[.int .i64 t, .int .i64 f, .int .i64 d, .int .i64 o] 23)).alloc (.cells #[.int .i64 0, .int .i64 0, .int .i64 0, .int .i64 0] 23)) = V1 at q_1 S_1 Sz_1 Sc0_1 Sc1_1 Sc2_1 Sc3_1 R_1 Rz_1 Rc0_1 Rc1_1 Rc2_1 Rc3_1 ⊢
    refine (rsm_yes t f d o _ HS.out).mono ?_
    rintro e V2 ⟨rfl, b⟩
    have S_2 := Lib.hid ((b.block _ Sz_1).trans S_1.out)
    have Sz_2 := Nat.lt_of_lt_of_le Sz_1 b.size
    have Sc0_2 := blk_cell S_2.out 0
    have Sc1_2 := blk_cell S_2.out 1
    have Sc2_2 := blk_cell S_2.out 2
    have Sc3_2 := blk_cell S_2.out 3
    have R_2 := Lib.hid ((b.block _ Rz_1).trans R_1.out)
    have Rz_2 := Nat.lt_of_lt_of_le Rz_1 b.size
    have Rc0_2 := blk_cell R_2.out 0
    have Rc1_2 := blk_cell R_2.out 1
    have Rc2_2 := blk_cell R_2.out 2
    have Rc3_2 := blk_cell R_2.out 3
    have q_2 := q_1.trans (b.mono q_1.size)
    clear S_1 Sz_1 Sc0_1 Sc1_1 Sc2_1 Sc3_1 R_1 Rz_1 Rc0_1 Rc1_1 Rc2_1 Rc3_1 q_1
    clear b
    have fS0 := blk_free S_2.out 0
    have fS1 := blk_free S_2.out 1
    have fS2 := blk_free S_2.out 2
    have fS3 := blk_free S_2.out 3
    have fR0 := blk_free R_2.out 0
    have fR1 := blk_free R_2.out 1
    have fR2 := blk_free R_2.out 2
    have fR3 := blk_free R_2.out 3
    go_wp2_with (go_at_call 23; refine (rin_any _ _ _ _).mono ?_; rintro e w' ⟨rfl, rfl⟩)
    go_wp2_with fail
    clear fS0 fS1 fS2 fS3 fR0 fR1 fR2 fR3
    have ys : (V2.setCell ⟨w.heap.size, 2, none⟩ (.int .i64 D)).heap.size = V2.heap.size := by simp
    have yb : Below (V2.setCell ⟨w.heap.size, 2, none⟩ (.int .i64 D)).heap.size (V2.setCell ⟨w.heap.size, 2, none⟩ (.int .i64 D)) (V2.setCell ⟨w.heap.size, 2, none⟩ (.int .i64 D)) := (Below.refl (V2.setCell ⟨w.heap.size, 2, none⟩ (.int .i64 D)).heap.size (V2.setCell ⟨w.heap.size, 2, none⟩ (.int .i64 D)))
    clear Sc0_2 Sc1_2 Sc2_2 Sc3_2 Rc0_2 Rc1_2 Rc2_2 Rc3_2
    have S_3 : Hid ((V2.setCell ⟨w.heap.size, 2, none⟩ (.int .i64 D)).heap[w.heap.size]? = some (.cells #[.int .i64 t, .int .i64 f, .int .i64 D, .int .i64 o] 23 (0, 0))) := Lib.hid ((yb.block _ (by rw [ys]; exact Sz_2)).trans (blk_set S_2.out 2 (.int .i64 D)))
    have R_3 : Hid ((V2.setCell ⟨w.heap.size, 2, none⟩ (.int .i64 D)).heap[w.heap.size + 1]? = some (.cells #[.int .i64 0, .int .i64 0, .int .i64 0, .int .i64 0] 23 (0, 0))) := Lib.hid ((yb.block _ (by rw [ys]; exact Rz_2)).trans (blk_other (i := 2) R_2.out (by first | assumption | omega) (.int .i64 D)))
    have q_3 : Below w.heap.size w (V2.setCell ⟨w.heap.size, 2, none⟩ (.int .i64 D)) := below_after (q_2.setCell (p := ⟨w.heap.size, 2, none⟩) (by first | assumption | (dsimp only; omega)) (.int .i64 D)) yb
    clear yb ys q_2 S_2 Sz_2 R_2 Rz_2
    generalize (V2.setCell ⟨w.heap.size, 2, none⟩ (.int .i64 D)) = Y1 at q_3 S_3 R_3 ⊢
    have Sz_3 := blk_lt S_3.out
    have Sc0_3 := blk_cell S_3.out 0
    have Sc1_3 := blk_cell S_3.out 1
    have Sc2_3 := blk_cell S_3.out 2
    have Sc3_3 := blk_cell S_3.out 3
    have fS0 := blk_free S_3.out 0
    have fS1 := blk_free S_3.out 1
    have fS2 := blk_free S_3.out 2
    have fS3 := blk_free S_3.out 3
    have Rz_3 := blk_lt R_3.out
    have Rc0_3 := blk_cell R_3.out 0
    have Rc1_3 := blk_cell R_3.out 1
    have Rc2_3 := blk_cell R_3.out 2
    have Rc3_3 := blk_cell R_3.out 3
    have fR0 := blk_free R_3.out 0
    have fR1 := blk_free R_3.out 1
    have fR2 := blk_free R_3.out 2
    have fR3 := blk_free R_3.out 3
    clear hD
    go_quiet (fail)
    have SK := blk_drewN S_3.out nq
    have RK := blk_drewN R_3.out nq
    have QK := below_drewN q_3 nq
    clear S_3 R_3 q_3 fS0 fR0 Sc0_3 Rc0_3 fS1 fR1 Sc1_3 Rc1_3 fS2 fR2 Sc2_3 Rc2_3 fS3 fR3 Sc3_3 Rc3_3
    generalize Y1.drewN nq = Y2 at SK RK QK ⊢
    have HQK := Lib.hid QK
    have zr := blk_lt RK
    have ks0 := blk_cell SK 0
    have kr0 := blk_cell RK 0
    have kf0 := blk_free RK 0
    have ks1 := blk_cell SK 1
    have kr1 := blk_cell RK 1
    have kf1 := blk_free RK 1
    have ks2 := blk_cell SK 2
    have kr2 := blk_cell RK 2
    have kf2 := blk_free RK 2
    have ks3 := blk_cell SK 3
    have kr3 := blk_cell RK 3
    have kf3 := blk_free RK 3
    clear SK RK QK
    go_wp2
    refine bodyPost_ret (v := .tuple #[.agg #[.int .i64 (t), .int .i64 (f), .int .i64 (D), .int .i64 (o)], .int .i64 (max ((D * t + f - 1) / f - o) 0), .int .i64 0]) (by simp [results, Try.results8, go_sem, *]) rfl ⟨rfl, ?_⟩
    (repeat' (first | (with_reducible exact HQK.out) | (with_reducible exact Below.refl _ _) | (with_reducible refine Below.alloc ?_ ?_ _) | (with_reducible refine Below.setCell ?_ ?_ _) | (with_reducible refine Below.drew ?_) | (with_reducible refine below_drewN ?_ _) | omega | (dsimp only; omega) | (simp; done) | (simp; omega)))
  · have e1 : al t f D o n p m = min (t - p) (max n (D - o) + m) := if_neg hp
    rw [e1]
    clear e1
    have q_0 := Below.refl w.heap.size w
    go_enter Try.func8, Try.ntmps8
    go_wp2_with fail
    have b : Below w.heap.size w ((w.alloc (.cells #[.int .i64 t, .int .i64 f, .int .i64 d, .int .i64 o] 23)).alloc (.cells #[.int .i64 0, .int .i64 0, .int .i64 0, .int .i64 0] 23)) := (((Below.refl _ w).alloc (Nat.le_refl _) (.cells #[.int .i64 t, .int .i64 f, .int .i64 d, .int .i64 o] 23)).alloc (by simp only [World.size_alloc]; omega) (.cells #[.int .i64 0, .int .i64 0, .int .i64 0, .int .i64 0] 23))
    have nb0 := blk_new w (.cells #[.int .i64 t, .int .i64 f, .int .i64 d, .int .i64 o] 23)
    have nb0 := (Below.heap_alloc (w.alloc (.cells #[.int .i64 t, .int .i64 f, .int .i64 d, .int .i64 o] 23)) (.cells #[.int .i64 0, .int .i64 0, .int .i64 0, .int .i64 0] 23) (w.heap.size) (by simp only [World.size_alloc]; omega)).trans nb0
    have nz0 : w.heap.size < ((w.alloc (.cells #[.int .i64 t, .int .i64 f, .int .i64 d, .int .i64 o] 23)).alloc (.cells #[.int .i64 0, .int .i64 0, .int .i64 0, .int .i64 0] 23)).heap.size := by simp only [World.size_alloc]; omega
    have nb1 := blk_new (w.alloc (.cells #[.int .i64 t, .int .i64 f, .int .i64 d, .int .i64 o] 23)) (.cells #[.int .i64 0, .int .i64 0, .int .i64 0, .int .i64 0] 23)
    simp only [World.size_alloc] at nb1
    have nz1 : w.heap.size + 1 < ((w.alloc (.cells #[.int .i64 t, .int .i64 f, .int .i64 d, .int .i64 o] 23)).alloc (.cells #[.int .i64 0, .int .i64 0, .int .i64 0, .int .i64 0] 23)).heap.size := by simp only [World.size_alloc]; omega
    have q_1 := q_0.trans (b.mono q_0.size)
    clear q_0
    clear b
    have S_1 := Lib.hid nb0
    have Sz_1 := nz0
    clear nb0 nz0
    have Sc0_1 := blk_cell S_1.out 0
    have Sc1_1 := blk_cell S_1.out 1
    have Sc2_1 := blk_cell S_1.out 2
    have Sc3_1 := blk_cell S_1.out 3
    have R_1 := Lib.hid nb1
    have Rz_1 := nz1
    clear nb1 nz1
    have Rc0_1 := blk_cell R_1.out 0
    have Rc1_1 := blk_cell R_1.out 1
    have Rc2_1 := blk_cell R_1.out 2
    have Rc3_1 := blk_cell R_1.out 3
    generalize ((w.alloc (.cells #[.int .i64 t, .int .i64 f, .int .i64 d, .int .i64 o] 23)).alloc (.cells #[.int .i64 0, .int .i64 0, .int .i64 0, .int .i64 0] 23)) = V1 at q_1 S_1 Sz_1 Sc0_1 Sc1_1 Sc2_1 Sc3_1 R_1 Rz_1 Rc0_1 Rc1_1 Rc2_1 Rc3_1 ⊢
    refine (rsm_yes t f d o _ HS.out).mono ?_
    rintro e V2 ⟨rfl, b⟩
    have S_2 := Lib.hid ((b.block _ Sz_1).trans S_1.out)
    have Sz_2 := Nat.lt_of_lt_of_le Sz_1 b.size
    have Sc0_2 := blk_cell S_2.out 0
    have Sc1_2 := blk_cell S_2.out 1
    have Sc2_2 := blk_cell S_2.out 2
    have Sc3_2 := blk_cell S_2.out 3
    have R_2 := Lib.hid ((b.block _ Rz_1).trans R_1.out)
    have Rz_2 := Nat.lt_of_lt_of_le Rz_1 b.size
    have Rc0_2 := blk_cell R_2.out 0
    have Rc1_2 := blk_cell R_2.out 1
    have Rc2_2 := blk_cell R_2.out 2
    have Rc3_2 := blk_cell R_2.out 3
    have q_2 := q_1.trans (b.mono q_1.size)
    clear S_1 Sz_1 Sc0_1 Sc1_1 Sc2_1 Sc3_1 R_1 Rz_1 Rc0_1 Rc1_1 Rc2_1 Rc3_1 q_1
    clear b
    have fS0 := blk_free S_2.out 0
    have fS1 := blk_free S_2.out 1
    have fS2 := blk_free S_2.out 2
    have fS3 := blk_free S_2.out 3
    have fR0 := blk_free R_2.out 0
    have fR1 := blk_free R_2.out 1
    have fR2 := blk_free R_2.out 2
    have fR3 := blk_free R_2.out 3
    have QY := Lib.hid q_2
    clear S_2 R_2
    go_wp2_with (go_at_call 23; refine (rin_any _ _ _ _).mono ?_; rintro e w' ⟨rfl, rfl⟩)
    refine bodyPost_ret (v := .tuple #[.agg #[.int .i64 (t), .int .i64 (f), .int .i64 (D), .int .i64 (o)], .int .i64 (max (min (t - p) (max n (D - o) + m)) 0), .int .i64 0]) (by simp [results, Try.results8, go_sem, *]) rfl ⟨rfl, ?_⟩
    (repeat' (first | (with_reducible exact QY.out) | (with_reducible exact Below.refl _ _) | (with_reducible refine Below.alloc ?_ ?_ _) | (with_reducible refine Below.setCell ?_ ?_ _) | (with_reducible refine Below.drew ?_) | (with_reducible refine below_drewN ?_ _) | omega | (dsimp only; omega) | (simp; done) | (simp; omega)))

set_option maxHeartbeats 2000000 in
theorem rspent_s (t f d o n : Int) (w : World) (hS : ¬ SV t f d o) :
    Calls Try.prog 10 #[.agg #[.int .i64 t, .int .i64 f, .int .i64 d, .int .i64 o], .int .i64 n] w fun e w' => e = .returned (.tuple #[.agg #[.int .i64 0, .int .i64 0, .int .i64 0, .int .i64 0], .int .i64 171]) ∧ Below w.heap.size w w' := by
  have q_0 := Below.refl w.heap.size w
  go_enter Try.func10, Try.ntmps10
  go_wp2_with fail
  have b : Below w.heap.size w ((w.alloc (.cells #[.int .i64 t, .int .i64 f, .int .i64 d, .int .i64 o] 23)).alloc (.cells #[.int .i64 0, .int .i64 0, .int .i64 0, .int .i64 0] 23)) := (((Below.refl _ w).alloc (Nat.le_refl _) (.cells #[.int .i64 t, .int .i64 f, .int .i64 d, .int .i64 o] 23)).alloc (by simp only [World.size_alloc]; omega) (.cells #[.int .i64 0, .int .i64 0, .int .i64 0, .int .i64 0] 23))
  have nb0 := blk_new w (.cells #[.int .i64 t, .int .i64 f, .int .i64 d, .int .i64 o] 23)
  have nb0 := (Below.heap_alloc (w.alloc (.cells #[.int .i64 t, .int .i64 f, .int .i64 d, .int .i64 o] 23)) (.cells #[.int .i64 0, .int .i64 0, .int .i64 0, .int .i64 0] 23) (w.heap.size) (by simp only [World.size_alloc]; omega)).trans nb0
  have nz0 : w.heap.size < ((w.alloc (.cells #[.int .i64 t, .int .i64 f, .int .i64 d, .int .i64 o] 23)).alloc (.cells #[.int .i64 0, .int .i64 0, .int .i64 0, .int .i64 0] 23)).heap.size := by simp only [World.size_alloc]; omega
  have nb1 := blk_new (w.alloc (.cells #[.int .i64 t, .int .i64 f, .int .i64 d, .int .i64 o] 23)) (.cells #[.int .i64 0, .int .i64 0, .int .i64 0, .int .i64 0] 23)
  simp only [World.size_alloc] at nb1
  have nz1 : w.heap.size + 1 < ((w.alloc (.cells #[.int .i64 t, .int .i64 f, .int .i64 d, .int .i64 o] 23)).alloc (.cells #[.int .i64 0, .int .i64 0, .int .i64 0, .int .i64 0] 23)).heap.size := by simp only [World.size_alloc]; omega
  have q_1 := q_0.trans (b.mono q_0.size)
  clear q_0
  clear b
  have S_1 := Lib.hid nb0
  have Sz_1 := nz0
  clear nb0 nz0
  have Sc0_1 := blk_cell S_1.out 0
  have Sc1_1 := blk_cell S_1.out 1
  have Sc2_1 := blk_cell S_1.out 2
  have Sc3_1 := blk_cell S_1.out 3
  have R_1 := Lib.hid nb1
  have Rz_1 := nz1
  clear nb1 nz1
  have Rc0_1 := blk_cell R_1.out 0
  have Rc1_1 := blk_cell R_1.out 1
  have Rc2_1 := blk_cell R_1.out 2
  have Rc3_1 := blk_cell R_1.out 3
  generalize ((w.alloc (.cells #[.int .i64 t, .int .i64 f, .int .i64 d, .int .i64 o] 23)).alloc (.cells #[.int .i64 0, .int .i64 0, .int .i64 0, .int .i64 0] 23)) = V1 at q_1 S_1 Sz_1 Sc0_1 Sc1_1 Sc2_1 Sc3_1 R_1 Rz_1 Rc0_1 Rc1_1 Rc2_1 Rc3_1 ⊢
  refine (rsm_no t f d o _ hS).mono ?_
  rintro e V2 ⟨rfl, b⟩
  have S_2 := Lib.hid ((b.block _ Sz_1).trans S_1.out)
  have Sz_2 := Nat.lt_of_lt_of_le Sz_1 b.size
  have Sc0_2 := blk_cell S_2.out 0
  have Sc1_2 := blk_cell S_2.out 1
  have Sc2_2 := blk_cell S_2.out 2
  have Sc3_2 := blk_cell S_2.out 3
  have R_2 := Lib.hid ((b.block _ Rz_1).trans R_1.out)
  have Rz_2 := Nat.lt_of_lt_of_le Rz_1 b.size
  have Rc0_2 := blk_cell R_2.out 0
  have Rc1_2 := blk_cell R_2.out 1
  have Rc2_2 := blk_cell R_2.out 2
  have Rc3_2 := blk_cell R_2.out 3
  have q_2 := q_1.trans (b.mono q_1.size)
  clear S_1 Sz_1 Sc0_1 Sc1_1 Sc2_1 Sc3_1 R_1 Rz_1 Rc0_1 Rc1_1 Rc2_1 Rc3_1 q_1
  clear b
  have fS0 := blk_free S_2.out 0
  have fS1 := blk_free S_2.out 1
  have fS2 := blk_free S_2.out 2
  have fS3 := blk_free S_2.out 3
  have fR0 := blk_free R_2.out 0
  have fR1 := blk_free R_2.out 1
  have fR2 := blk_free R_2.out 2
  have fR3 := blk_free R_2.out 3
  have QY := Lib.hid q_2
  clear S_2 R_2
  go_wp2
  refine bodyPost_ret (v := .tuple #[.agg #[.int .i64 0, .int .i64 0, .int .i64 0, .int .i64 0], .int .i64 171]) (by simp [results, Try.results10, go_sem, *]) rfl ⟨rfl, ?_⟩
  (repeat' (first | (with_reducible exact QY.out) | (with_reducible exact Below.refl _ _) | (with_reducible refine Below.alloc ?_ ?_ _) | (with_reducible refine Below.setCell ?_ ?_ _) | (with_reducible refine Below.drew ?_) | (with_reducible refine below_drewN ?_ _) | omega | (dsimp only; omega) | (simp; done) | (simp; omega)))

set_option maxHeartbeats 2000000 in
theorem rspent_n (t f d o n : Int) (w : World) (hS : SV t f d o) (hN : ¬ NV n) :
    Calls Try.prog 10 #[.agg #[.int .i64 t, .int .i64 f, .int .i64 d, .int .i64 o], .int .i64 n] w fun e w' => e = .returned (.tuple #[.agg #[.int .i64 0, .int .i64 0, .int .i64 0, .int .i64 0], .int .i64 4]) ∧ Below w.heap.size w w' := by
  have h1 : inb n 0 1073741824 = false := inb_not.2 hN
  clear hN
  have q_0 := Below.refl w.heap.size w
  go_enter Try.func10, Try.ntmps10
  go_wp2_with fail
  have b : Below w.heap.size w ((w.alloc (.cells #[.int .i64 t, .int .i64 f, .int .i64 d, .int .i64 o] 23)).alloc (.cells #[.int .i64 0, .int .i64 0, .int .i64 0, .int .i64 0] 23)) := (((Below.refl _ w).alloc (Nat.le_refl _) (.cells #[.int .i64 t, .int .i64 f, .int .i64 d, .int .i64 o] 23)).alloc (by simp only [World.size_alloc]; omega) (.cells #[.int .i64 0, .int .i64 0, .int .i64 0, .int .i64 0] 23))
  have nb0 := blk_new w (.cells #[.int .i64 t, .int .i64 f, .int .i64 d, .int .i64 o] 23)
  have nb0 := (Below.heap_alloc (w.alloc (.cells #[.int .i64 t, .int .i64 f, .int .i64 d, .int .i64 o] 23)) (.cells #[.int .i64 0, .int .i64 0, .int .i64 0, .int .i64 0] 23) (w.heap.size) (by simp only [World.size_alloc]; omega)).trans nb0
  have nz0 : w.heap.size < ((w.alloc (.cells #[.int .i64 t, .int .i64 f, .int .i64 d, .int .i64 o] 23)).alloc (.cells #[.int .i64 0, .int .i64 0, .int .i64 0, .int .i64 0] 23)).heap.size := by simp only [World.size_alloc]; omega
  have nb1 := blk_new (w.alloc (.cells #[.int .i64 t, .int .i64 f, .int .i64 d, .int .i64 o] 23)) (.cells #[.int .i64 0, .int .i64 0, .int .i64 0, .int .i64 0] 23)
  simp only [World.size_alloc] at nb1
  have nz1 : w.heap.size + 1 < ((w.alloc (.cells #[.int .i64 t, .int .i64 f, .int .i64 d, .int .i64 o] 23)).alloc (.cells #[.int .i64 0, .int .i64 0, .int .i64 0, .int .i64 0] 23)).heap.size := by simp only [World.size_alloc]; omega
  have q_1 := q_0.trans (b.mono q_0.size)
  clear q_0
  clear b
  have S_1 := Lib.hid nb0
  have Sz_1 := nz0
  clear nb0 nz0
  have Sc0_1 := blk_cell S_1.out 0
  have Sc1_1 := blk_cell S_1.out 1
  have Sc2_1 := blk_cell S_1.out 2
  have Sc3_1 := blk_cell S_1.out 3
  have R_1 := Lib.hid nb1
  have Rz_1 := nz1
  clear nb1 nz1
  have Rc0_1 := blk_cell R_1.out 0
  have Rc1_1 := blk_cell R_1.out 1
  have Rc2_1 := blk_cell R_1.out 2
  have Rc3_1 := blk_cell R_1.out 3
  generalize ((w.alloc (.cells #[.int .i64 t, .int .i64 f, .int .i64 d, .int .i64 o] 23)).alloc (.cells #[.int .i64 0, .int .i64 0, .int .i64 0, .int .i64 0] 23)) = V1 at q_1 S_1 Sz_1 Sc0_1 Sc1_1 Sc2_1 Sc3_1 R_1 Rz_1 Rc0_1 Rc1_1 Rc2_1 Rc3_1 ⊢
  refine (rsm_yes t f d o _ hS).mono ?_
  rintro e V2 ⟨rfl, b⟩
  have S_2 := Lib.hid ((b.block _ Sz_1).trans S_1.out)
  have Sz_2 := Nat.lt_of_lt_of_le Sz_1 b.size
  have Sc0_2 := blk_cell S_2.out 0
  have Sc1_2 := blk_cell S_2.out 1
  have Sc2_2 := blk_cell S_2.out 2
  have Sc3_2 := blk_cell S_2.out 3
  have R_2 := Lib.hid ((b.block _ Rz_1).trans R_1.out)
  have Rz_2 := Nat.lt_of_lt_of_le Rz_1 b.size
  have Rc0_2 := blk_cell R_2.out 0
  have Rc1_2 := blk_cell R_2.out 1
  have Rc2_2 := blk_cell R_2.out 2
  have Rc3_2 := blk_cell R_2.out 3
  have q_2 := q_1.trans (b.mono q_1.size)
  clear S_1 Sz_1 Sc0_1 Sc1_1 Sc2_1 Sc3_1 R_1 Rz_1 Rc0_1 Rc1_1 Rc2_1 Rc3_1 q_1
  clear b
  have fS0 := blk_free S_2.out 0
  have fS1 := blk_free S_2.out 1
  have fS2 := blk_free S_2.out 2
  have fS3 := blk_free S_2.out 3
  have fR0 := blk_free R_2.out 0
  have fR1 := blk_free R_2.out 1
  have fR2 := blk_free R_2.out 2
  have fR3 := blk_free R_2.out 3
  go_wp2_with fail
  refine (rin_any _ _ _ _).mono ?_
  rintro e w' ⟨rfl, rfl⟩
  have QY := Lib.hid q_2
  clear S_2 R_2
  go_wp2
  refine bodyPost_ret (v := .tuple #[.agg #[.int .i64 0, .int .i64 0, .int .i64 0, .int .i64 0], .int .i64 4]) (by simp [results, Try.results10, go_sem, *]) rfl ⟨rfl, ?_⟩
  (repeat' (first | (with_reducible exact QY.out) | (with_reducible exact Below.refl _ _) | (with_reducible refine Below.alloc ?_ ?_ _) | (with_reducible refine Below.setCell ?_ ?_ _) | (with_reducible refine Below.drew ?_) | (with_reducible refine below_drewN ?_ _) | omega | (dsimp only; omega) | (simp; done) | (simp; omega)))

set_option maxHeartbeats 2000000 in
theorem rspent_ok (t f d o n : Int) (w : World) (hS : SV t f d o) (hN : NV n) :
    Calls Try.prog 10 #[.agg #[.int .i64 t, .int .i64 f, .int .i64 d, .int .i64 o], .int .i64 n] w fun e w' => e = .returned (.tuple #[.agg #[.int .i64 (t), .int .i64 (f), .int .i64 (d), .int .i64 (min (o + n) 2147483648)], .int .i64 0]) ∧ Below w.heap.size w w' := by
  have HS := Lib.hid hS
  obtain ⟨⟨⟨t0, t1⟩, f0, f1⟩, ⟨d0, d1⟩, o0, o1⟩ := hS
  obtain ⟨n0, n1⟩ := hN
  have hn := inb_true n0 n1
  have q_0 := Below.refl w.heap.size w
  go_enter Try.func10, Try.ntmps10
  go_wp2_with fail
  have b : Below w.heap.size w ((w.alloc (.cells #[.int .i64 t, .int .i64 f, .int .i64 d, .int .i64 o] 23)).alloc (.cells #[.int .i64 0, .int .i64 0, .int .i64 0, .int .i64 0] 23)) := (((Below.refl _ w).alloc (Nat.le_refl _) (.cells #[.int .i64 t, .int .i64 f, .int .i64 d, .int .i64 o] 23)).alloc (by simp only [World.size_alloc]; omega) (.cells #[.int .i64 0, .int .i64 0, .int .i64 0, .int .i64 0] 23))
  have nb0 := blk_new w (.cells #[.int .i64 t, .int .i64 f, .int .i64 d, .int .i64 o] 23)
  have nb0 := (Below.heap_alloc (w.alloc (.cells #[.int .i64 t, .int .i64 f, .int .i64 d, .int .i64 o] 23)) (.cells #[.int .i64 0, .int .i64 0, .int .i64 0, .int .i64 0] 23) (w.heap.size) (by simp only [World.size_alloc]; omega)).trans nb0
  have nz0 : w.heap.size < ((w.alloc (.cells #[.int .i64 t, .int .i64 f, .int .i64 d, .int .i64 o] 23)).alloc (.cells #[.int .i64 0, .int .i64 0, .int .i64 0, .int .i64 0] 23)).heap.size := by simp only [World.size_alloc]; omega
  have nb1 := blk_new (w.alloc (.cells #[.int .i64 t, .int .i64 f, .int .i64 d, .int .i64 o] 23)) (.cells #[.int .i64 0, .int .i64 0, .int .i64 0, .int .i64 0] 23)
  simp only [World.size_alloc] at nb1
  have nz1 : w.heap.size + 1 < ((w.alloc (.cells #[.int .i64 t, .int .i64 f, .int .i64 d, .int .i64 o] 23)).alloc (.cells #[.int .i64 0, .int .i64 0, .int .i64 0, .int .i64 0] 23)).heap.size := by simp only [World.size_alloc]; omega
  have q_1 := q_0.trans (b.mono q_0.size)
  clear q_0
  clear b
  have S_1 := Lib.hid nb0
  have Sz_1 := nz0
  clear nb0 nz0
  have Sc0_1 := blk_cell S_1.out 0
  have Sc1_1 := blk_cell S_1.out 1
  have Sc2_1 := blk_cell S_1.out 2
  have Sc3_1 := blk_cell S_1.out 3
  have R_1 := Lib.hid nb1
  have Rz_1 := nz1
  clear nb1 nz1
  have Rc0_1 := blk_cell R_1.out 0
  have Rc1_1 := blk_cell R_1.out 1
  have Rc2_1 := blk_cell R_1.out 2
  have Rc3_1 := blk_cell R_1.out 3
  generalize ((w.alloc (.cells #[.int .i64 t, .int .i64 f, .int .i64 d, .int .i64 o] 23)).alloc (.cells #[.int .i64 0, .int .i64 0, .int .i64 0, .int .i64 0] 23)) = V1 at q_1 S_1 Sz_1 Sc0_1 Sc1_1 Sc2_1 Sc3_1 R_1 Rz_1 Rc0_1 Rc1_1 Rc2_1 Rc3_1 ⊢
  refine (rsm_yes t f d o _ HS.out).mono ?_
  rintro e V2 ⟨rfl, b⟩
  have S_2 := Lib.hid ((b.block _ Sz_1).trans S_1.out)
  have Sz_2 := Nat.lt_of_lt_of_le Sz_1 b.size
  have Sc0_2 := blk_cell S_2.out 0
  have Sc1_2 := blk_cell S_2.out 1
  have Sc2_2 := blk_cell S_2.out 2
  have Sc3_2 := blk_cell S_2.out 3
  have R_2 := Lib.hid ((b.block _ Rz_1).trans R_1.out)
  have Rz_2 := Nat.lt_of_lt_of_le Rz_1 b.size
  have Rc0_2 := blk_cell R_2.out 0
  have Rc1_2 := blk_cell R_2.out 1
  have Rc2_2 := blk_cell R_2.out 2
  have Rc3_2 := blk_cell R_2.out 3
  have q_2 := q_1.trans (b.mono q_1.size)
  clear S_1 Sz_1 Sc0_1 Sc1_1 Sc2_1 Sc3_1 R_1 Rz_1 Rc0_1 Rc1_1 Rc2_1 Rc3_1 q_1
  clear b
  have fS0 := blk_free S_2.out 0
  have fS1 := blk_free S_2.out 1
  have fS2 := blk_free S_2.out 2
  have fS3 := blk_free S_2.out 3
  have fR0 := blk_free R_2.out 0
  have fR1 := blk_free R_2.out 1
  have fR2 := blk_free R_2.out 2
  have fR3 := blk_free R_2.out 3
  go_wp2_with fail
  refine (rin_any _ _ _ _).mono ?_
  rintro e w' ⟨rfl, rfl⟩
  have QY := Lib.hid q_2
  clear S_2 R_2
  go_wp2
  refine bodyPost_ret (v := .tuple #[.agg #[.int .i64 (t), .int .i64 (f), .int .i64 (d), .int .i64 (min (o + n) 2147483648)], .int .i64 0]) (by simp [results, Try.results10, go_sem, *]) rfl ⟨rfl, ?_⟩
  (repeat' (first | (with_reducible exact QY.out) | (with_reducible exact Below.refl _ _) | (with_reducible refine Below.alloc ?_ ?_ _) | (with_reducible refine Below.setCell ?_ ?_ _) | (with_reducible refine Below.drew ?_) | (with_reducible refine below_drewN ?_ _) | omega | (dsimp only; omega) | (simp; done) | (simp; omega)))

end Go.Proofs.Ytlkpcojhpndieaa
