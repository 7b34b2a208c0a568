/- Prr: each call by one word; the page's example. -/
import Derived.Test.YtlkpcojhpndieaaPrP
import Derived.Test.YtlkpcojhpndieaaPrR
namespace Go.Proofs.Ytlkpcojhpndieaa
open Go.RowKit Go.Proofs.Ytlkpcojhpndieaa.Pr

theorem num_any (n : Int) (w : World) : Calls Try.prog 13 #[.int .i64 n] w fun e w' => e = .returned (.int .i64 n) ∧ w = w' := by
  go_enter Try.func13, Try.ntmps13
  go_wp2
  go_ret
  exact ⟨rfl, rfl⟩

theorem ack_any (t f d o n p m : Int) (w : World) : Calls Try.prog 7 #[.agg #[.int .i64 t, .int .i64 f, .int .i64 d, .int .i64 o], .int .i64 n, .int .i64 p, .int .i64 m] w fun e w' => e = .returned (.tuple #[.agg #[.int .i64 (zE (aE t f d o n p m) t), .int .i64 (zE (aE t f d o n p m) f), .int .i64 (zE (aE t f d o n p m) (min (d + n) 2147483648)), .int .i64 (zE (aE t f d o n p m) o)], .int .i64 (zE (aE t f d o n p m) (kK t f d o n p m)), .int .i64 (aE t f d o n p m)]) ∧ Below w.heap.size w w' := by
  by_cases hS : SV t f d o
  · by_cases hA : AV n p m
    · rw [show (aE t f d o n p m) = 0 by rw [aE, if_pos hS, if_pos hA]]; simp only [zE_0]; exact ack_ok t f d o n p m w hS hA
    · rw [show (aE t f d o n p m) = 4 by rw [aE, if_pos hS, if_neg hA]]; simp only [zE_n (show (4 : Int) ≠ 0 by decide)]; exact ack_a t f d o n p m w hS hA
  · rw [show (aE t f d o n p m) = 171 by rw [aE, if_neg hS]]; simp only [zE_n (show (171 : Int) ≠ 0 by decide)]; exact ack_s t f d o n p m w hS
theorem spent_any (t f d o n : Int) (w : World) : Calls Try.prog 9 #[.agg #[.int .i64 t, .int .i64 f, .int .i64 d, .int .i64 o], .int .i64 n] w fun e w' => e = .returned (.tuple #[.agg #[.int .i64 (zE (sE t f d o n) t), .int .i64 (zE (sE t f d o n) f), .int .i64 (zE (sE t f d o n) d), .int .i64 (zE (sE t f d o n) (min (o + n) 2147483648))], .int .i64 (sE t f d o n)]) ∧ Below w.heap.size w w' := by
  by_cases hS : SV t f d o
  · by_cases hA : NV n
    · rw [show (sE t f d o n) = 0 by rw [sE, if_pos hS, if_pos hA]]; simp only [zE_0]; exact spent_ok t f d o n w hS hA
    · rw [show (sE t f d o n) = 4 by rw [sE, if_pos hS, if_neg hA]]; simp only [zE_n (show (4 : Int) ≠ 0 by decide)]; exact spent_n t f d o n w hS hA
  · rw [show (sE t f d o n) = 171 by rw [sE, if_neg hS]]; simp only [zE_n (show (171 : Int) ≠ 0 by decide)]; exact spent_s t f d o n w hS
theorem start_any (f t : Int) (w : World) : Calls Try.prog 11 #[.int .i64 f, .int .i64 t] w fun e w' => e = .returned (.tuple #[.agg #[.int .i64 (zE (bE f t) t), .int .i64 (zE (bE f t) f), .int .i64 (0), .int .i64 (0)], .int .i64 (bE f t)]) ∧ Below w.heap.size w w' := by
  by_cases h : OV f ∧ OV t
  · rw [show (bE f t) = 0 by rw [bE, if_pos h]]; simp only [zE_0]; exact start_ok f t w h
  · rw [show (bE f t) = 4 by rw [bE, if_neg h]]; simp only [zE_n (show (4 : Int) ≠ 0 by decide)]; exact start_no f t w h
theorem ack_l (t f d o n p m E x1 x2 x3 x4 y : Int) (hE : aE t f d o n p m = E) (h1 : zE E t = x1) (h2 : zE E f = x2) (h3 : zE E (min (d + n) 2147483648) = x3) (h4 : zE E o = x4) (h5 : zE E (kK t f d o n p m) = y) (w : World) : Calls Try.prog 7 #[.agg #[.int .i64 t, .int .i64 f, .int .i64 d, .int .i64 o], .int .i64 n, .int .i64 p, .int .i64 m] w fun e w' => e = .returned (.tuple #[.agg #[.int .i64 x1, .int .i64 x2, .int .i64 x3, .int .i64 x4], .int .i64 y, .int .i64 E]) ∧ Below w.heap.size w w' := by
  subst hE h1 h2 h3 h4 h5
  exact ack_any t f d o n p m w
theorem spent_l (t f d o n E x1 x2 x3 x4 : Int) (hE : sE t f d o n = E) (h1 : zE E t = x1) (h2 : zE E f = x2) (h3 : zE E d = x3) (h4 : zE E (min (o + n) 2147483648) = x4) (w : World) : Calls Try.prog 9 #[.agg #[.int .i64 t, .int .i64 f, .int .i64 d, .int .i64 o], .int .i64 n] w fun e w' => e = .returned (.tuple #[.agg #[.int .i64 x1, .int .i64 x2, .int .i64 x3, .int .i64 x4], .int .i64 E]) ∧ Below w.heap.size w w' := by
  subst hE h1 h2 h3 h4
  exact spent_any t f d o n w
theorem start_l (f t E x1 x2 : Int) (hE : bE f t = E) (h1 : zE E t = x1) (h2 : zE E f = x2) (w : World) : Calls Try.prog 11 #[.int .i64 f, .int .i64 t] w fun e w' => e = .returned (.tuple #[.agg #[.int .i64 x1, .int .i64 x2, .int .i64 0, .int .i64 0], .int .i64 E]) ∧ Below w.heap.size w w' := by
  subst hE h1 h2
  exact start_any f t w
theorem rack_any (t f d o n p m : Int) (w : World) : Calls Try.prog 8 #[.agg #[.int .i64 t, .int .i64 f, .int .i64 d, .int .i64 o], .int .i64 n, .int .i64 p, .int .i64 m] w fun e w' => e = .returned (.tuple #[.agg #[.int .i64 (zE (aE t f d o n p m) t), .int .i64 (zE (aE t f d o n p m) f), .int .i64 (zE (aE t f d o n p m) (min (d + n) 2147483648)), .int .i64 (zE (aE t f d o n p m) o)], .int .i64 (zE (aE t f d o n p m) (kK t f d o n p m)), .int .i64 (aE t f d o n p m)]) ∧ Below w.heap.size w w' := by
  by_cases hS : SV t f d o
  · by_cases hA : AV n p m
    · rw [show (aE t f d o n p m) = 0 by rw [aE, if_pos hS, if_pos hA]]; simp only [zE_0]; exact rack_ok t f d o n p m w hS hA
    · rw [show (aE t f d o n p m) = 4 by rw [aE, if_pos hS, if_neg hA]]; simp only [zE_n (show (4 : Int) ≠ 0 by decide)]; exact rack_a t f d o n p m w hS hA
  · rw [show (aE t f d o n p m) = 171 by rw [aE, if_neg hS]]; simp only [zE_n (show (171 : Int) ≠ 0 by decide)]; exact rack_s t f d o n p m w hS
theorem rspent_any (t f d o n : Int) (w : World) : Calls Try.prog 10 #[.agg #[.int .i64 t, .int .i64 f, .int .i64 d, .int .i64 o], .int .i64 n] w fun e w' => e = .returned (.tuple #[.agg #[.int .i64 (zE (sE t f d o n) t), .int .i64 (zE (sE t f d o n) f), .int .i64 (zE (sE t f d o n) d), .int .i64 (zE (sE t f d o n) (min (o + n) 2147483648))], .int .i64 (sE t f d o n)]) ∧ Below w.heap.size w w' := by
  by_cases hS : SV t f d o
  · by_cases hA : NV n
    · rw [show (sE t f d o n) = 0 by rw [sE, if_pos hS, if_pos hA]]; simp only [zE_0]; exact rspent_ok t f d o n w hS hA
    · rw [show (sE t f d o n) = 4 by rw [sE, if_pos hS, if_neg hA]]; simp only [zE_n (show (4 : Int) ≠ 0 by decide)]; exact rspent_n t f d o n w hS hA
  · rw [show (sE t f d o n) = 171 by rw [sE, if_neg hS]]; simp only [zE_n (show (171 : Int) ≠ 0 by decide)]; exact rspent_s t f d o n w hS
theorem rstart_any (f t : Int) (w : World) : Calls Try.prog 12 #[.int .i64 f, .int .i64 t] w fun e w' => e = .returned (.tuple #[.agg #[.int .i64 (zE (bE f t) t), .int .i64 (zE (bE f t) f), .int .i64 (0), .int .i64 (0)], .int .i64 (bE f t)]) ∧ Below w.heap.size w w' := by
  by_cases h : OV f ∧ OV t
  · rw [show (bE f t) = 0 by rw [bE, if_pos h]]; simp only [zE_0]; exact rstart_ok f t w h
  · rw [show (bE f t) = 4 by rw [bE, if_neg h]]; simp only [zE_n (show (4 : Int) ≠ 0 by decide)]; exact rstart_no f t w h
theorem rack_l (t f d o n p m E x1 x2 x3 x4 y : Int) (hE : aE t f d o n p m = E) (h1 : zE E t = x1) (h2 : zE E f = x2) (h3 : zE E (min (d + n) 2147483648) = x3) (h4 : zE E o = x4) (h5 : zE E (kK t f d o n p m) = y) (w : World) : Calls Try.prog 8 #[.agg #[.int .i64 t, .int .i64 f, .int .i64 d, .int .i64 o], .int .i64 n, .int .i64 p, .int .i64 m] w fun e w' => e = .returned (.tuple #[.agg #[.int .i64 x1, .int .i64 x2, .int .i64 x3, .int .i64 x4], .int .i64 y, .int .i64 E]) ∧ Below w.heap.size w w' := by
  subst hE h1 h2 h3 h4 h5
  exact rack_any t f d o n p m w
theorem rspent_l (t f d o n E x1 x2 x3 x4 : Int) (hE : sE t f d o n = E) (h1 : zE E t = x1) (h2 : zE E f = x2) (h3 : zE E d = x3) (h4 : zE E (min (o + n) 2147483648) = x4) (w : World) : Calls Try.prog 10 #[.agg #[.int .i64 t, .int .i64 f, .int .i64 d, .int .i64 o], .int .i64 n] w fun e w' => e = .returned (.tuple #[.agg #[.int .i64 x1, .int .i64 x2, .int .i64 x3, .int .i64 x4], .int .i64 E]) ∧ Below w.heap.size w w' := by
  subst hE h1 h2 h3 h4
  exact rspent_any t f d o n w
theorem rstart_l (f t E x1 x2 : Int) (hE : bE f t = E) (h1 : zE E t = x1) (h2 : zE E f = x2) (w : World) : Calls Try.prog 12 #[.int .i64 f, .int .i64 t] w fun e w' => e = .returned (.tuple #[.agg #[.int .i64 x1, .int .i64 x2, .int .i64 0, .int .i64 0], .int .i64 E]) ∧ Below w.heap.size w w' := by
  subst hE h1 h2
  exact rstart_any f t w
namespace al
theorem s1 (w : World) : Calls Try.prog 11 #[.int .i64 10000, .int .i64 5000] w fun e w' => e = .returned (.tuple #[.agg #[.int .i64 5000, .int .i64 10000, .int .i64 0, .int .i64 0], .int .i64 0]) ∧ Below w.heap.size w w' := start_ok 10000 5000 w (by decide)
theorem k1 (w : World) : Calls Try.prog 7 #[.agg #[.int .i64 5000, .int .i64 10000, .int .i64 0, .int .i64 0], .int .i64 1000, .int .i64 9000, .int .i64 1000] w fun e w' => e = .returned (.tuple #[.agg #[.int .i64 5000, .int .i64 10000, .int .i64 1000, .int .i64 0], .int .i64 500, .int .i64 0]) ∧ Below w.heap.size w w' := ack_ok 5000 10000 0 0 1000 9000 1000 w (by decide) (by decide)
theorem p1 (w : World) : Calls Try.prog 9 #[.agg #[.int .i64 5000, .int .i64 10000, .int .i64 1000, .int .i64 0], .int .i64 500] w fun e w' => e = .returned (.tuple #[.agg #[.int .i64 5000, .int .i64 10000, .int .i64 1000, .int .i64 500], .int .i64 0]) ∧ Below w.heap.size w w' := spent_ok 5000 10000 1000 0 500 w (by decide) (by decide)
theorem k2 (w : World) : Calls Try.prog 7 #[.agg #[.int .i64 5000, .int .i64 10000, .int .i64 1000, .int .i64 500], .int .i64 1000, .int .i64 8000, .int .i64 1000] w fun e w' => e = .returned (.tuple #[.agg #[.int .i64 5000, .int .i64 10000, .int .i64 2000, .int .i64 500], .int .i64 500, .int .i64 0]) ∧ Below w.heap.size w w' := ack_ok 5000 10000 1000 500 1000 8000 1000 w (by decide) (by decide)
end al
set_option maxHeartbeats 2000000 in
theorem alive_any  (w : World)  :
    Calls Try.prog 14 #[] w fun e w' => e = .returned (.bool true) ∧ Below w.heap.size w w' := by
  have q_0 := Below.refl w.heap.size w
  go_enter Try.func14, Try.ntmps14
  go_wp2_with fail
  refine (al.s1 _).mono ?_
  rintro e V1 ⟨rfl, b⟩
  have q_1 := q_0.trans (b.mono q_0.size)
  clear q_0
  clear b
  have HL1 : Hid (w.heap.size ≤ V1.heap.size) := Lib.hid q_1.size
  go_wp2_with fail
  have b : Below V1.heap.size V1 (V1.alloc (.cells #[.int .i64 5000, .int .i64 10000, .int .i64 0, .int .i64 0] 24)) := ((Below.refl _ V1).alloc (Nat.le_refl _) (.cells #[.int .i64 5000, .int .i64 10000, .int .i64 0, .int .i64 0] 24))
  have nb0 := blk_new V1 (.cells #[.int .i64 5000, .int .i64 10000, .int .i64 0, .int .i64 0] 24)
  have nz0 : V1.heap.size < (V1.alloc (.cells #[.int .i64 5000, .int .i64 10000, .int .i64 0, .int .i64 0] 24)).heap.size := by simp only [World.size_alloc]; omega
  have q_2 := q_1.trans (b.mono q_1.size)
  clear q_1
  clear b
  have S_2 := Lib.hid nb0
  have Sz_2 := nz0
  clear nb0 nz0
  have Sc0_2 := blk_cell S_2.out 0
  have Sc1_2 := blk_cell S_2.out 1
  have Sc2_2 := blk_cell S_2.out 2
  have Sc3_2 := blk_cell S_2.out 3
  generalize (V1.alloc (.cells #[.int .i64 5000, .int .i64 10000, .int .i64 0, .int .i64 0] 24)) = V2 at q_2 S_2 Sz_2 Sc0_2 Sc1_2 Sc2_2 Sc3_2 ⊢
  refine (al.k1 _).mono ?_
  rintro e V3 ⟨rfl, b⟩
  have S_3 := Lib.hid ((b.block _ Sz_2).trans S_2.out)
  have Sz_3 := Nat.lt_of_lt_of_le Sz_2 b.size
  have Sc0_3 := blk_cell S_3.out 0
  have Sc1_3 := blk_cell S_3.out 1
  have Sc2_3 := blk_cell S_3.out 2
  have Sc3_3 := blk_cell S_3.out 3
  have q_3 := q_2.trans (b.mono q_2.size)
  clear S_2 Sz_2 Sc0_2 Sc1_2 Sc2_2 Sc3_2 q_2
  clear b
  have sf0 := blk_free S_3.out 0
  have sf1 := blk_free S_3.out 1
  have sf2 := blk_free S_3.out 2
  have sf3 := blk_free S_3.out 3
  have hle : w.heap.size ≤ V1.heap.size := HL1.out
  go_wp2_with fail
  clear sf0 sf1 sf2 sf3
  have ys : ((((V3.setCell ⟨V1.heap.size, 0, none⟩ (.int .i64 5000)).setCell ⟨V1.heap.size, 1, none⟩ (.int .i64 10000)).setCell ⟨V1.heap.size, 2, none⟩ (.int .i64 1000)).setCell ⟨V1.heap.size, 3, none⟩ (.int .i64 0)).heap.size = V3.heap.size := by simp
  have yb : Below ((((V3.setCell ⟨V1.heap.size, 0, none⟩ (.int .i64 5000)).setCell ⟨V1.heap.size, 1, none⟩ (.int .i64 10000)).setCell ⟨V1.heap.size, 2, none⟩ (.int .i64 1000)).setCell ⟨V1.heap.size, 3, none⟩ (.int .i64 0)).heap.size ((((V3.setCell ⟨V1.heap.size, 0, none⟩ (.int .i64 5000)).setCell ⟨V1.heap.size, 1, none⟩ (.int .i64 10000)).setCell ⟨V1.heap.size, 2, none⟩ (.int .i64 1000)).setCell ⟨V1.heap.size, 3, none⟩ (.int .i64 0)) ((((V3.setCell ⟨V1.heap.size, 0, none⟩ (.int .i64 5000)).setCell ⟨V1.heap.size, 1, none⟩ (.int .i64 10000)).setCell ⟨V1.heap.size, 2, none⟩ (.int .i64 1000)).setCell ⟨V1.heap.size, 3, none⟩ (.int .i64 0)) := (Below.refl ((((V3.setCell ⟨V1.heap.size, 0, none⟩ (.int .i64 5000)).setCell ⟨V1.heap.size, 1, none⟩ (.int .i64 10000)).setCell ⟨V1.heap.size, 2, none⟩ (.int .i64 1000)).setCell ⟨V1.heap.size, 3, none⟩ (.int .i64 0)).heap.size ((((V3.setCell ⟨V1.heap.size, 0, none⟩ (.int .i64 5000)).setCell ⟨V1.heap.size, 1, none⟩ (.int .i64 10000)).setCell ⟨V1.heap.size, 2, none⟩ (.int .i64 1000)).setCell ⟨V1.heap.size, 3, none⟩ (.int .i64 0)))
  clear Sc0_3 Sc1_3 Sc2_3 Sc3_3
  have S_4 : Hid (((((V3.setCell ⟨V1.heap.size, 0, none⟩ (.int .i64 5000)).setCell ⟨V1.heap.size, 1, none⟩ (.int .i64 10000)).setCell ⟨V1.heap.size, 2, none⟩ (.int .i64 1000)).setCell ⟨V1.heap.size, 3, none⟩ (.int .i64 0)).heap[V1.heap.size]? = some (.cells #[.int .i64 5000, .int .i64 10000, .int .i64 1000, .int .i64 0] 24 (0, 0))) := Lib.hid ((yb.block _ (by rw [ys]; exact Sz_3)).trans (blk_set (blk_set (blk_set (blk_set S_3.out 0 (.int .i64 5000)) 1 (.int .i64 10000)) 2 (.int .i64 1000)) 3 (.int .i64 0)))
  have q_4 : Below w.heap.size w ((((V3.setCell ⟨V1.heap.size, 0, none⟩ (.int .i64 5000)).setCell ⟨V1.heap.size, 1, none⟩ (.int .i64 10000)).setCell ⟨V1.heap.size, 2, none⟩ (.int .i64 1000)).setCell ⟨V1.heap.size, 3, none⟩ (.int .i64 0)) := below_after ((((q_3.setCell (p := ⟨V1.heap.size, 0, none⟩) (by first | assumption | (dsimp only; omega)) (.int .i64 5000)).setCell (p := ⟨V1.heap.size, 1, none⟩) (by first | assumption | (dsimp only; omega)) (.int .i64 10000)).setCell (p := ⟨V1.heap.size, 2, none⟩) (by first | assumption | (dsimp only; omega)) (.int .i64 1000)).setCell (p := ⟨V1.heap.size, 3, none⟩) (by first | assumption | (dsimp only; omega)) (.int .i64 0)) yb
  clear yb ys q_3 S_3 Sz_3
  generalize ((((V3.setCell ⟨V1.heap.size, 0, none⟩ (.int .i64 5000)).setCell ⟨V1.heap.size, 1, none⟩ (.int .i64 10000)).setCell ⟨V1.heap.size, 2, none⟩ (.int .i64 1000)).setCell ⟨V1.heap.size, 3, none⟩ (.int .i64 0)) = Y1 at q_4 S_4 ⊢
  have Sz_4 := blk_lt S_4.out
  have Sc0_4 := blk_cell S_4.out 0
  have Sc1_4 := blk_cell S_4.out 1
  have Sc2_4 := blk_cell S_4.out 2
  have Sc3_4 := blk_cell S_4.out 3
  have fS0 := blk_free S_4.out 0
  have fS1 := blk_free S_4.out 1
  have fS2 := blk_free S_4.out 2
  have fS3 := blk_free S_4.out 3
  refine (al.p1 _).mono ?_
  rintro e V4 ⟨rfl, b⟩
  have S_5 := Lib.hid ((b.block _ Sz_4).trans S_4.out)
  have Sz_5 := Nat.lt_of_lt_of_le Sz_4 b.size
  have Sc0_5 := blk_cell S_5.out 0
  have Sc1_5 := blk_cell S_5.out 1
  have Sc2_5 := blk_cell S_5.out 2
  have Sc3_5 := blk_cell S_5.out 3
  have q_5 := q_4.trans (b.mono q_4.size)
  clear S_4 Sz_4 Sc0_4 Sc1_4 Sc2_4 Sc3_4 q_4
  clear b
  clear fS0 fS1 fS2 fS3
  have sf0 := blk_free S_5.out 0
  have sf1 := blk_free S_5.out 1
  have sf2 := blk_free S_5.out 2
  have sf3 := blk_free S_5.out 3
  go_wp2_with fail
  clear sf0 sf1 sf2 sf3
  have ys : ((((V4.setCell ⟨V1.heap.size, 0, none⟩ (.int .i64 5000)).setCell ⟨V1.heap.size, 1, none⟩ (.int .i64 10000)).setCell ⟨V1.heap.size, 2, none⟩ (.int .i64 1000)).setCell ⟨V1.heap.size, 3, none⟩ (.int .i64 500)).heap.size = V4.heap.size := by simp
  have yb : Below ((((V4.setCell ⟨V1.heap.size, 0, none⟩ (.int .i64 5000)).setCell ⟨V1.heap.size, 1, none⟩ (.int .i64 10000)).setCell ⟨V1.heap.size, 2, none⟩ (.int .i64 1000)).setCell ⟨V1.heap.size, 3, none⟩ (.int .i64 500)).heap.size ((((V4.setCell ⟨V1.heap.size, 0, none⟩ (.int .i64 5000)).setCell ⟨V1.heap.size, 1, none⟩ (.int .i64 10000)).setCell ⟨V1.heap.size, 2, none⟩ (.int .i64 1000)).setCell ⟨V1.heap.size, 3, none⟩ (.int .i64 500)) ((((V4.setCell ⟨V1.heap.size, 0, none⟩ (.int .i64 5000)).setCell ⟨V1.heap.size, 1, none⟩ (.int .i64 10000)).setCell ⟨V1.heap.size, 2, none⟩ (.int .i64 1000)).setCell ⟨V1.heap.size, 3, none⟩ (.int .i64 500)) := (Below.refl ((((V4.setCell ⟨V1.heap.size, 0, none⟩ (.int .i64 5000)).setCell ⟨V1.heap.size, 1, none⟩ (.int .i64 10000)).setCell ⟨V1.heap.size, 2, none⟩ (.int .i64 1000)).setCell ⟨V1.heap.size, 3, none⟩ (.int .i64 500)).heap.size ((((V4.setCell ⟨V1.heap.size, 0, none⟩ (.int .i64 5000)).setCell ⟨V1.heap.size, 1, none⟩ (.int .i64 10000)).setCell ⟨V1.heap.size, 2, none⟩ (.int .i64 1000)).setCell ⟨V1.heap.size, 3, none⟩ (.int .i64 500)))
  clear Sc0_5 Sc1_5 Sc2_5 Sc3_5
  have S_6 : Hid (((((V4.setCell ⟨V1.heap.size, 0, none⟩ (.int .i64 5000)).setCell ⟨V1.heap.size, 1, none⟩ (.int .i64 10000)).setCell ⟨V1.heap.size, 2, none⟩ (.int .i64 1000)).setCell ⟨V1.heap.size, 3, none⟩ (.int .i64 500)).heap[V1.heap.size]? = some (.cells #[.int .i64 5000, .int .i64 10000, .int .i64 1000, .int .i64 500] 24 (0, 0))) := Lib.hid ((yb.block _ (by rw [ys]; exact Sz_5)).trans (blk_set (blk_set (blk_set (blk_set S_5.out 0 (.int .i64 5000)) 1 (.int .i64 10000)) 2 (.int .i64 1000)) 3 (.int .i64 500)))
  have q_6 : Below w.heap.size w ((((V4.setCell ⟨V1.heap.size, 0, none⟩ (.int .i64 5000)).setCell ⟨V1.heap.size, 1, none⟩ (.int .i64 10000)).setCell ⟨V1.heap.size, 2, none⟩ (.int .i64 1000)).setCell ⟨V1.heap.size, 3, none⟩ (.int .i64 500)) := below_after ((((q_5.setCell (p := ⟨V1.heap.size, 0, none⟩) (by first | assumption | (dsimp only; omega)) (.int .i64 5000)).setCell (p := ⟨V1.heap.size, 1, none⟩) (by first | assumption | (dsimp only; omega)) (.int .i64 10000)).setCell (p := ⟨V1.heap.size, 2, none⟩) (by first | assumption | (dsimp only; omega)) (.int .i64 1000)).setCell (p := ⟨V1.heap.size, 3, none⟩) (by first | assumption | (dsimp only; omega)) (.int .i64 500)) yb
  clear yb ys q_5 S_5 Sz_5
  generalize ((((V4.setCell ⟨V1.heap.size, 0, none⟩ (.int .i64 5000)).setCell ⟨V1.heap.size, 1, none⟩ (.int .i64 10000)).setCell ⟨V1.heap.size, 2, none⟩ (.int .i64 1000)).setCell ⟨V1.heap.size, 3, none⟩ (.int .i64 500)) = Y2 at q_6 S_6 ⊢
  have Sz_6 := blk_lt S_6.out
  have Sc0_6 := blk_cell S_6.out 0
  have Sc1_6 := blk_cell S_6.out 1
  have Sc2_6 := blk_cell S_6.out 2
  have Sc3_6 := blk_cell S_6.out 3
  have fS0 := blk_free S_6.out 0
  have fS1 := blk_free S_6.out 1
  have fS2 := blk_free S_6.out 2
  have fS3 := blk_free S_6.out 3
  refine (al.k2 _).mono ?_
  rintro e V5 ⟨rfl, b⟩
  have S_7 := Lib.hid ((b.block _ Sz_6).trans S_6.out)
  have Sz_7 := Nat.lt_of_lt_of_le Sz_6 b.size
  have Sc0_7 := blk_cell S_7.out 0
  have Sc1_7 := blk_cell S_7.out 1
  have Sc2_7 := blk_cell S_7.out 2
  have Sc3_7 := blk_cell S_7.out 3
  have q_7 := q_6.trans (b.mono q_6.size)
  clear S_6 Sz_6 Sc0_6 Sc1_6 Sc2_6 Sc3_6 q_6
  clear b
  go_wp2_with fail
  refine (num_any _ _).mono ?_
  rintro e w' ⟨rfl, rfl⟩
  go_wp2_with fail
  refine (num_any _ _).mono ?_
  rintro e w' ⟨rfl, rfl⟩
  go_wp2_with fail
  refine (num_any _ _).mono ?_
  rintro e w' ⟨rfl, rfl⟩
  go_wp2_with fail
  refine (num_any _ _).mono ?_
  rintro e w' ⟨rfl, rfl⟩
  have Q := Lib.hid q_7
  go_wp2
  go_ret
  refine ⟨rfl, ?_⟩
  (repeat' (first | (with_reducible exact Q.out) | (with_reducible exact Below.refl _ _) | (with_reducible refine Below.alloc ?_ ?_ _) | (with_reducible refine Below.setCell ?_ ?_ _) | (with_reducible refine Below.drew ?_) | (with_reducible refine below_drewN ?_ _) | omega | (dsimp only; omega) | (simp; done) | (simp; omega)))

end Go.Proofs.Ytlkpcojhpndieaa
