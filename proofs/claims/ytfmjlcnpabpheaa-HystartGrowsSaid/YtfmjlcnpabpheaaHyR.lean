/- Hystart: the calls of the document. -/
import Derived.Test.YtfmjlcnpabpheaaHyC
import Derived.Lib.MinMax
import Derived.StillTailTactics
namespace Go.Proofs.Ytfmjlcnpabpheaa
open Go.RowKit Go.Proofs.Ytfmjlcnpabpheaa.Hy

set_option maxHeartbeats 2000000 in
theorem rround_0 (s : HS) (w : World) (hV : HV s) (h0 : s.p ≠ 1) :
    Calls Try.prog 8 #[.agg #[.int .i64 s.p, .bool s.hl, .bool s.hn, .int .i64 s.la, .int .i64 s.no, .int .i64 s.sa, .int .i64 s.ba, .int .i64 s.ro]] w fun e w' => e = .returned (.tuple #[.agg #[.int .i64 s.p, .bool (s.hn), .bool (false), .int .i64 (s.no), .int .i64 (0), .int .i64 (0), .int .i64 s.ba, .int .i64 s.ro], .int .i64 0]) ∧ Below w.heap.size w w' := by
  have HV' := Lib.hid hV
  obtain ⟨⟨p0, p1⟩, ⟨a0, a1⟩, ⟨b0, b1⟩, ⟨c0, c1⟩, ⟨d0, d1⟩, e0, e1⟩ := hV
  have h0b : (s.p == 1) = false := by rw [beq_eq_false_iff_ne]; exact h0
  have q_0 := Below.refl w.heap.size w
  go_enter Try.func8, Try.ntmps8
  go_wp2_with fail
  have b : Below w.heap.size w ((w.alloc (.cells #[.int .i64 s.p, .bool s.hl, .bool s.hn, .int .i64 s.la, .int .i64 s.no, .int .i64 s.sa, .int .i64 s.ba, .int .i64 s.ro] 25)).alloc (.cells #[.int .i64 0, .bool false, .bool false, .int .i64 0, .int .i64 0, .int .i64 0, .int .i64 0, .int .i64 0] 25)) := (((Below.refl _ w).alloc (Nat.le_refl _) (.cells #[.int .i64 s.p, .bool s.hl, .bool s.hn, .int .i64 s.la, .int .i64 s.no, .int .i64 s.sa, .int .i64 s.ba, .int .i64 s.ro] 25)).alloc (by simp only [World.size_alloc]; omega) (.cells #[.int .i64 0, .bool false, .bool false, .int .i64 0, .int .i64 0, .int .i64 0, .int .i64 0, .int .i64 0] 25))
  have nb0 := blk_new w (.cells #[.int .i64 s.p, .bool s.hl, .bool s.hn, .int .i64 s.la, .int .i64 s.no, .int .i64 s.sa, .int .i64 s.ba, .int .i64 s.ro] 25)
  have nb0 := (Below.heap_alloc (w.alloc (.cells #[.int .i64 s.p, .bool s.hl, .bool s.hn, .int .i64 s.la, .int .i64 s.no, .int .i64 s.sa, .int .i64 s.ba, .int .i64 s.ro] 25)) (.cells #[.int .i64 0, .bool false, .bool false, .int .i64 0, .int .i64 0, .int .i64 0, .int .i64 0, .int .i64 0] 25) (w.heap.size) (by simp only [World.size_alloc]; omega)).trans nb0
  have nz0 : w.heap.size < ((w.alloc (.cells #[.int .i64 s.p, .bool s.hl, .bool s.hn, .int .i64 s.la, .int .i64 s.no, .int .i64 s.sa, .int .i64 s.ba, .int .i64 s.ro] 25)).alloc (.cells #[.int .i64 0, .bool false, .bool false, .int .i64 0, .int .i64 0, .int .i64 0, .int .i64 0, .int .i64 0] 25)).heap.size := by simp only [World.size_alloc]; omega
  have nb1 := blk_new (w.alloc (.cells #[.int .i64 s.p, .bool s.hl, .bool s.hn, .int .i64 s.la, .int .i64 s.no, .int .i64 s.sa, .int .i64 s.ba, .int .i64 s.ro] 25)) (.cells #[.int .i64 0, .bool false, .bool false, .int .i64 0, .int .i64 0, .int .i64 0, .int .i64 0, .int .i64 0] 25)
  simp only [World.size_alloc] at nb1
  have nz1 : w.heap.size + 1 < ((w.alloc (.cells #[.int .i64 s.p, .bool s.hl, .bool s.hn, .int .i64 s.la, .int .i64 s.no, .int .i64 s.sa, .int .i64 s.ba, .int .i64 s.ro] 25)).alloc (.cells #[.int .i64 0, .bool false, .bool false, .int .i64 0, .int .i64 0, .int .i64 0, .int .i64 0, .int .i64 0] 25)).heap.size := by simp only [World.size_alloc]; omega
  have q_1 := q_0.trans (b.mono q_0.size)
  clear q_0
  clear b
  have S_1 := Lib.hid nb0
  have Sz_1 := nz0
  clear nb0 nz0
  have Sc0_1 := blk_cell S_1.out 0
  have Sc1_1 := blk_cell S_1.out 1
  have Sc2_1 := blk_cell S_1.out 2
  have Sc3_1 := blk_cell S_1.out 3
  have Sc4_1 := blk_cell S_1.out 4
  have Sc5_1 := blk_cell S_1.out 5
  have Sc6_1 := blk_cell S_1.out 6
  have Sc7_1 := blk_cell S_1.out 7
  have R_1 := Lib.hid nb1
  have Rz_1 := nz1
  clear nb1 nz1
  have Rc0_1 := blk_cell R_1.out 0
  have Rc1_1 := blk_cell R_1.out 1
  have Rc2_1 := blk_cell R_1.out 2
  have Rc3_1 := blk_cell R_1.out 3
  have Rc4_1 := blk_cell R_1.out 4
  have Rc5_1 := blk_cell R_1.out 5
  have Rc6_1 := blk_cell R_1.out 6
  have Rc7_1 := blk_cell R_1.out 7
  generalize ((w.alloc (.cells #[.int .i64 s.p, .bool s.hl, .bool s.hn, .int .i64 s.la, .int .i64 s.no, .int .i64 s.sa, .int .i64 s.ba, .int .i64 s.ro] 25)).alloc (.cells #[.int .i64 0, .bool false, .bool false, .int .i64 0, .int .i64 0, .int .i64 0, .int .i64 0, .int .i64 0] 25)) = V1 at q_1 S_1 Sz_1 Sc0_1 Sc1_1 Sc2_1 Sc3_1 Sc4_1 Sc5_1 Sc6_1 Sc7_1 R_1 Rz_1 Rc0_1 Rc1_1 Rc2_1 Rc3_1 Rc4_1 Rc5_1 Rc6_1 Rc7_1 ⊢
  refine (rcheck_yes s _ HV'.out).mono ?_
  rintro e V2 ⟨rfl, b⟩
  have S_2 := Lib.hid ((b.block _ Sz_1).trans S_1.out)
  have Sz_2 := Nat.lt_of_lt_of_le Sz_1 b.size
  have Sc0_2 := blk_cell S_2.out 0
  have Sc1_2 := blk_cell S_2.out 1
  have Sc2_2 := blk_cell S_2.out 2
  have Sc3_2 := blk_cell S_2.out 3
  have Sc4_2 := blk_cell S_2.out 4
  have Sc5_2 := blk_cell S_2.out 5
  have Sc6_2 := blk_cell S_2.out 6
  have Sc7_2 := blk_cell S_2.out 7
  have R_2 := Lib.hid ((b.block _ Rz_1).trans R_1.out)
  have Rz_2 := Nat.lt_of_lt_of_le Rz_1 b.size
  have Rc0_2 := blk_cell R_2.out 0
  have Rc1_2 := blk_cell R_2.out 1
  have Rc2_2 := blk_cell R_2.out 2
  have Rc3_2 := blk_cell R_2.out 3
  have Rc4_2 := blk_cell R_2.out 4
  have Rc5_2 := blk_cell R_2.out 5
  have Rc6_2 := blk_cell R_2.out 6
  have Rc7_2 := blk_cell R_2.out 7
  have q_2 := q_1.trans (b.mono q_1.size)
  clear S_1 Sz_1 Sc0_1 Sc1_1 Sc2_1 Sc3_1 Sc4_1 Sc5_1 Sc6_1 Sc7_1 R_1 Rz_1 Rc0_1 Rc1_1 Rc2_1 Rc3_1 Rc4_1 Rc5_1 Rc6_1 Rc7_1 q_1
  clear b
  have rf0 := blk_free R_2.out 0
  have sf0 := blk_free S_2.out 0
  have rf1 := blk_free R_2.out 1
  have sf1 := blk_free S_2.out 1
  have rf2 := blk_free R_2.out 2
  have sf2 := blk_free S_2.out 2
  have rf3 := blk_free R_2.out 3
  have sf3 := blk_free S_2.out 3
  have rf4 := blk_free R_2.out 4
  have sf4 := blk_free S_2.out 4
  have rf5 := blk_free R_2.out 5
  have sf5 := blk_free S_2.out 5
  have rf6 := blk_free R_2.out 6
  have sf6 := blk_free S_2.out 6
  have rf7 := blk_free R_2.out 7
  have sf7 := blk_free S_2.out 7

  have QY := Lib.hid q_2
  clear R_2 S_2
  go_wp2
  refine bodyPost_ret (v := .tuple #[.agg #[.int .i64 s.p, .bool (s.hn), .bool (false), .int .i64 (s.no), .int .i64 (0), .int .i64 (0), .int .i64 s.ba, .int .i64 s.ro], .int .i64 0]) (by simp [results, Try.results8, go_sem, *]) rfl ⟨rfl, ?_⟩
  (repeat' (first | (with_reducible exact QY.out) | (with_reducible exact Below.refl _ _) | (with_reducible refine Below.alloc ?_ ?_ _) | (with_reducible refine Below.setCell ?_ ?_ _) | (with_reducible refine Below.drew ?_) | (with_reducible refine below_drewN ?_ _) | omega | (dsimp only; omega) | (simp; done) | (simp; omega)))

set_option maxHeartbeats 2000000 in
theorem rround_2 (s : HS) (N : Int) (w : World) (hV : HV s) (h0 : s.p = 1) (hN : min (s.ro + 1) 1073741824 = N) (h1 : 5 ≤ N) :
    Calls Try.prog 8 #[.agg #[.int .i64 s.p, .bool s.hl, .bool s.hn, .int .i64 s.la, .int .i64 s.no, .int .i64 s.sa, .int .i64 s.ba, .int .i64 s.ro]] w fun e w' => e = .returned (.tuple #[.agg #[.int .i64 (2), .bool (s.hn), .bool (false), .int .i64 (s.no), .int .i64 (0), .int .i64 (0), .int .i64 s.ba, .int .i64 (N)], .int .i64 0]) ∧ Below w.heap.size w w' := by
  have HV' := Lib.hid hV
  obtain ⟨⟨p0, p1⟩, ⟨a0, a1⟩, ⟨b0, b1⟩, ⟨c0, c1⟩, ⟨d0, d1⟩, e0, e1⟩ := hV
  have N0 : 0 ≤ N ∧ N ≤ 1073741824 := by omega
  have q_0 := Below.refl w.heap.size w
  have H_h0 := Lib.hid h0
  clear h0
  have H_hN := Lib.hid hN
  clear hN
  go_enter Try.func8, Try.ntmps8
  go_wp2_with fail
  have b : Below w.heap.size w ((w.alloc (.cells #[.int .i64 s.p, .bool s.hl, .bool s.hn, .int .i64 s.la, .int .i64 s.no, .int .i64 s.sa, .int .i64 s.ba, .int .i64 s.ro] 25)).alloc (.cells #[.int .i64 0, .bool false, .bool false, .int .i64 0, .int .i64 0, .int .i64 0, .int .i64 0, .int .i64 0] 25)) := (((Below.refl _ w).alloc (Nat.le_refl _) (.cells #[.int .i64 s.p, .bool s.hl, .bool s.hn, .int .i64 s.la, .int .i64 s.no, .int .i64 s.sa, .int .i64 s.ba, .int .i64 s.ro] 25)).alloc (by simp only [World.size_alloc]; omega) (.cells #[.int .i64 0, .bool false, .bool false, .int .i64 0, .int .i64 0, .int .i64 0, .int .i64 0, .int .i64 0] 25))
  have nb0 := blk_new w (.cells #[.int .i64 s.p, .bool s.hl, .bool s.hn, .int .i64 s.la, .int .i64 s.no, .int .i64 s.sa, .int .i64 s.ba, .int .i64 s.ro] 25)
  have nb0 := (Below.heap_alloc (w.alloc (.cells #[.int .i64 s.p, .bool s.hl, .bool s.hn, .int .i64 s.la, .int .i64 s.no, .int .i64 s.sa, .int .i64 s.ba, .int .i64 s.ro] 25)) (.cells #[.int .i64 0, .bool false, .bool false, .int .i64 0, .int .i64 0, .int .i64 0, .int .i64 0, .int .i64 0] 25) (w.heap.size) (by simp only [World.size_alloc]; omega)).trans nb0
  have nz0 : w.heap.size < ((w.alloc (.cells #[.int .i64 s.p, .bool s.hl, .bool s.hn, .int .i64 s.la, .int .i64 s.no, .int .i64 s.sa, .int .i64 s.ba, .int .i64 s.ro] 25)).alloc (.cells #[.int .i64 0, .bool false, .bool false, .int .i64 0, .int .i64 0, .int .i64 0, .int .i64 0, .int .i64 0] 25)).heap.size := by simp only [World.size_alloc]; omega
  have nb1 := blk_new (w.alloc (.cells #[.int .i64 s.p, .bool s.hl, .bool s.hn, .int .i64 s.la, .int .i64 s.no, .int .i64 s.sa, .int .i64 s.ba, .int .i64 s.ro] 25)) (.cells #[.int .i64 0, .bool false, .bool false, .int .i64 0, .int .i64 0, .int .i64 0, .int .i64 0, .int .i64 0] 25)
  simp only [World.size_alloc] at nb1
  have nz1 : w.heap.size + 1 < ((w.alloc (.cells #[.int .i64 s.p, .bool s.hl, .bool s.hn, .int .i64 s.la, .int .i64 s.no, .int .i64 s.sa, .int .i64 s.ba, .int .i64 s.ro] 25)).alloc (.cells #[.int .i64 0, .bool false, .bool false, .int .i64 0, .int .i64 0, .int .i64 0, .int .i64 0, .int .i64 0] 25)).heap.size := by simp only [World.size_alloc]; omega
  have q_1 := q_0.trans (b.mono q_0.size)
  clear q_0
  clear b
  have S_1 := Lib.hid nb0
  have Sz_1 := nz0
  clear nb0 nz0
  have Sc0_1 := blk_cell S_1.out 0
  have Sc1_1 := blk_cell S_1.out 1
  have Sc2_1 := blk_cell S_1.out 2
  have Sc3_1 := blk_cell S_1.out 3
  have Sc4_1 := blk_cell S_1.out 4
  have Sc5_1 := blk_cell S_1.out 5
  have Sc6_1 := blk_cell S_1.out 6
  have Sc7_1 := blk_cell S_1.out 7
  have R_1 := Lib.hid nb1
  have Rz_1 := nz1
  clear nb1 nz1
  have Rc0_1 := blk_cell R_1.out 0
  have Rc1_1 := blk_cell R_1.out 1
  have Rc2_1 := blk_cell R_1.out 2
  have Rc3_1 := blk_cell R_1.out 3
  have Rc4_1 := blk_cell R_1.out 4
  have Rc5_1 := blk_cell R_1.out 5
  have Rc6_1 := blk_cell R_1.out 6
  have Rc7_1 := blk_cell R_1.out 7
  generalize ((w.alloc (.cells #[.int .i64 s.p, .bool s.hl, .bool s.hn, .int .i64 s.la, .int .i64 s.no, .int .i64 s.sa, .int .i64 s.ba, .int .i64 s.ro] 25)).alloc (.cells #[.int .i64 0, .bool false, .bool false, .int .i64 0, .int .i64 0, .int .i64 0, .int .i64 0, .int .i64 0] 25)) = V1 at q_1 S_1 Sz_1 Sc0_1 Sc1_1 Sc2_1 Sc3_1 Sc4_1 Sc5_1 Sc6_1 Sc7_1 R_1 Rz_1 Rc0_1 Rc1_1 Rc2_1 Rc3_1 Rc4_1 Rc5_1 Rc6_1 Rc7_1 ⊢
  refine (rcheck_yes s _ HV'.out).mono ?_
  rintro e V2 ⟨rfl, b⟩
  have S_2 := Lib.hid ((b.block _ Sz_1).trans S_1.out)
  have Sz_2 := Nat.lt_of_lt_of_le Sz_1 b.size
  have Sc0_2 := blk_cell S_2.out 0
  have Sc1_2 := blk_cell S_2.out 1
  have Sc2_2 := blk_cell S_2.out 2
  have Sc3_2 := blk_cell S_2.out 3
  have Sc4_2 := blk_cell S_2.out 4
  have Sc5_2 := blk_cell S_2.out 5
  have Sc6_2 := blk_cell S_2.out 6
  have Sc7_2 := blk_cell S_2.out 7
  have R_2 := Lib.hid ((b.block _ Rz_1).trans R_1.out)
  have Rz_2 := Nat.lt_of_lt_of_le Rz_1 b.size
  have Rc0_2 := blk_cell R_2.out 0
  have Rc1_2 := blk_cell R_2.out 1
  have Rc2_2 := blk_cell R_2.out 2
  have Rc3_2 := blk_cell R_2.out 3
  have Rc4_2 := blk_cell R_2.out 4
  have Rc5_2 := blk_cell R_2.out 5
  have Rc6_2 := blk_cell R_2.out 6
  have Rc7_2 := blk_cell R_2.out 7
  have q_2 := q_1.trans (b.mono q_1.size)
  clear S_1 Sz_1 Sc0_1 Sc1_1 Sc2_1 Sc3_1 Sc4_1 Sc5_1 Sc6_1 Sc7_1 R_1 Rz_1 Rc0_1 Rc1_1 Rc2_1 Rc3_1 Rc4_1 Rc5_1 Rc6_1 Rc7_1 q_1
  clear b
  have h0 := H_h0.out
  have hN := H_hN.out
  have rf0 := blk_free R_2.out 0
  have sf0 := blk_free S_2.out 0
  have rf1 := blk_free R_2.out 1
  have sf1 := blk_free S_2.out 1
  have rf2 := blk_free R_2.out 2
  have sf2 := blk_free S_2.out 2
  have rf3 := blk_free R_2.out 3
  have sf3 := blk_free S_2.out 3
  have rf4 := blk_free R_2.out 4
  have sf4 := blk_free S_2.out 4
  have rf5 := blk_free R_2.out 5
  have sf5 := blk_free S_2.out 5
  have rf6 := blk_free R_2.out 6
  have sf6 := blk_free S_2.out 6
  have rf7 := blk_free R_2.out 7
  have sf7 := blk_free S_2.out 7

  have QY := Lib.hid q_2
  clear R_2 S_2
  go_wp2
  refine bodyPost_ret (v := .tuple #[.agg #[.int .i64 (2), .bool (s.hn), .bool (false), .int .i64 (s.no), .int .i64 (0), .int .i64 (0), .int .i64 s.ba, .int .i64 (N)], .int .i64 0]) (by simp [results, Try.results8, go_sem, *]) rfl ⟨rfl, ?_⟩
  (repeat' (first | (with_reducible exact QY.out) | (with_reducible exact Below.refl _ _) | (with_reducible refine Below.alloc ?_ ?_ _) | (with_reducible refine Below.setCell ?_ ?_ _) | (with_reducible refine Below.drew ?_) | (with_reducible refine below_drewN ?_ _) | omega | (dsimp only; omega) | (simp; done) | (simp; omega)))

set_option maxHeartbeats 2000000 in
theorem rround_1 (s : HS) (N : Int) (w : World) (hV : HV s) (h0 : s.p = 1) (hN : min (s.ro + 1) 1073741824 = N) (h1 : N < 5) :
    Calls Try.prog 8 #[.agg #[.int .i64 s.p, .bool s.hl, .bool s.hn, .int .i64 s.la, .int .i64 s.no, .int .i64 s.sa, .int .i64 s.ba, .int .i64 s.ro]] w fun e w' => e = .returned (.tuple #[.agg #[.int .i64 (s.p), .bool (s.hn), .bool (false), .int .i64 (s.no), .int .i64 (0), .int .i64 (0), .int .i64 s.ba, .int .i64 (N)], .int .i64 0]) ∧ Below w.heap.size w w' := by
  have HV' := Lib.hid hV
  obtain ⟨⟨p0, p1⟩, ⟨a0, a1⟩, ⟨b0, b1⟩, ⟨c0, c1⟩, ⟨d0, d1⟩, e0, e1⟩ := hV
  have N0 : 0 ≤ N ∧ N ≤ 1073741824 := by omega
  have q_0 := Below.refl w.heap.size w
  have H_h0 := Lib.hid h0
  clear h0
  have H_hN := Lib.hid hN
  clear hN
  go_enter Try.func8, Try.ntmps8
  go_wp2_with fail
  have b : Below w.heap.size w ((w.alloc (.cells #[.int .i64 s.p, .bool s.hl, .bool s.hn, .int .i64 s.la, .int .i64 s.no, .int .i64 s.sa, .int .i64 s.ba, .int .i64 s.ro] 25)).alloc (.cells #[.int .i64 0, .bool false, .bool false, .int .i64 0, .int .i64 0, .int .i64 0, .int .i64 0, .int .i64 0] 25)) := (((Below.refl _ w).alloc (Nat.le_refl _) (.cells #[.int .i64 s.p, .bool s.hl, .bool s.hn, .int .i64 s.la, .int .i64 s.no, .int .i64 s.sa, .int .i64 s.ba, .int .i64 s.ro] 25)).alloc (by simp only [World.size_alloc]; omega) (.cells #[.int .i64 0, .bool false, .bool false, .int .i64 0, .int .i64 0, .int .i64 0, .int .i64 0, .int .i64 0] 25))
  have nb0 := blk_new w (.cells #[.int .i64 s.p, .bool s.hl, .bool s.hn, .int .i64 s.la, .int .i64 s.no, .int .i64 s.sa, .int .i64 s.ba, .int .i64 s.ro] 25)
  have nb0 := (Below.heap_alloc (w.alloc (.cells #[.int .i64 s.p, .bool s.hl, .bool s.hn, .int .i64 s.la, .int .i64 s.no, .int .i64 s.sa, .int .i64 s.ba, .int .i64 s.ro] 25)) (.cells #[.int .i64 0, .bool false, .bool false, .int .i64 0, .int .i64 0, .int .i64 0, .int .i64 0, .int .i64 0] 25) (w.heap.size) (by simp only [World.size_alloc]; omega)).trans nb0
  have nz0 : w.heap.size < ((w.alloc (.cells #[.int .i64 s.p, .bool s.hl, .bool s.hn, .int .i64 s.la, .int .i64 s.no, .int .i64 s.sa, .int .i64 s.ba, .int .i64 s.ro] 25)).alloc (.cells #[.int .i64 0, .bool false, .bool false, .int .i64 0, .int .i64 0, .int .i64 0, .int .i64 0, .int .i64 0] 25)).heap.size := by simp only [World.size_alloc]; omega
  have nb1 := blk_new (w.alloc (.cells #[.int .i64 s.p, .bool s.hl, .bool s.hn, .int .i64 s.la, .int .i64 s.no, .int .i64 s.sa, .int .i64 s.ba, .int .i64 s.ro] 25)) (.cells #[.int .i64 0, .bool false, .bool false, .int .i64 0, .int .i64 0, .int .i64 0, .int .i64 0, .int .i64 0] 25)
  simp only [World.size_alloc] at nb1
  have nz1 : w.heap.size + 1 < ((w.alloc (.cells #[.int .i64 s.p, .bool s.hl, .bool s.hn, .int .i64 s.la, .int .i64 s.no, .int .i64 s.sa, .int .i64 s.ba, .int .i64 s.ro] 25)).alloc (.cells #[.int .i64 0, .bool false, .bool false, .int .i64 0, .int .i64 0, .int .i64 0, .int .i64 0, .int .i64 0] 25)).heap.size := by simp only [World.size_alloc]; omega
  have q_1 := q_0.trans (b.mono q_0.size)
  clear q_0
  clear b
  have S_1 := Lib.hid nb0
  have Sz_1 := nz0
  clear nb0 nz0
  have Sc0_1 := blk_cell S_1.out 0
  have Sc1_1 := blk_cell S_1.out 1
  have Sc2_1 := blk_cell S_1.out 2
  have Sc3_1 := blk_cell S_1.out 3
  have Sc4_1 := blk_cell S_1.out 4
  have Sc5_1 := blk_cell S_1.out 5
  have Sc6_1 := blk_cell S_1.out 6
  have Sc7_1 := blk_cell S_1.out 7
  have R_1 := Lib.hid nb1
  have Rz_1 := nz1
  clear nb1 nz1
  have Rc0_1 := blk_cell R_1.out 0
  have Rc1_1 := blk_cell R_1.out 1
  have Rc2_1 := blk_cell R_1.out 2
  have Rc3_1 := blk_cell R_1.out 3
  have Rc4_1 := blk_cell R_1.out 4
  have Rc5_1 := blk_cell R_1.out 5
  have Rc6_1 := blk_cell R_1.out 6
  have Rc7_1 := blk_cell R_1.out 7
  generalize ((w.alloc (.cells #[.int .i64 s.p, .bool s.hl, .bool s.hn, .int .i64 s.la, .int .i64 s.no, .int .i64 s.sa, .int .i64 s.ba, .int .i64 s.ro] 25)).alloc (.cells #[.int .i64 0, .bool false, .bool false, .int .i64 0, .int .i64 0, .int .i64 0, .int .i64 0, .int .i64 0] 25)) = V1 at q_1 S_1 Sz_1 Sc0_1 Sc1_1 Sc2_1 Sc3_1 Sc4_1 Sc5_1 Sc6_1 Sc7_1 R_1 Rz_1 Rc0_1 Rc1_1 Rc2_1 Rc3_1 Rc4_1 Rc5_1 Rc6_1 Rc7_1 ⊢
  refine (rcheck_yes s _ HV'.out).mono ?_
  rintro e V2 ⟨rfl, b⟩
  have S_2 := Lib.hid ((b.block _ Sz_1).trans S_1.out)
  have Sz_2 := Nat.lt_of_lt_of_le Sz_1 b.size
  have Sc0_2 := blk_cell S_2.out 0
  have Sc1_2 := blk_cell S_2.out 1
  have Sc2_2 := blk_cell S_2.out 2
  have Sc3_2 := blk_cell S_2.out 3
  have Sc4_2 := blk_cell S_2.out 4
  have Sc5_2 := blk_cell S_2.out 5
  have Sc6_2 := blk_cell S_2.out 6
  have Sc7_2 := blk_cell S_2.out 7
  have R_2 := Lib.hid ((b.block _ Rz_1).trans R_1.out)
  have Rz_2 := Nat.lt_of_lt_of_le Rz_1 b.size
  have Rc0_2 := blk_cell R_2.out 0
  have Rc1_2 := blk_cell R_2.out 1
  have Rc2_2 := blk_cell R_2.out 2
  have Rc3_2 := blk_cell R_2.out 3
  have Rc4_2 := blk_cell R_2.out 4
  have Rc5_2 := blk_cell R_2.out 5
  have Rc6_2 := blk_cell R_2.out 6
  have Rc7_2 := blk_cell R_2.out 7
  have q_2 := q_1.trans (b.mono q_1.size)
  clear S_1 Sz_1 Sc0_1 Sc1_1 Sc2_1 Sc3_1 Sc4_1 Sc5_1 Sc6_1 Sc7_1 R_1 Rz_1 Rc0_1 Rc1_1 Rc2_1 Rc3_1 Rc4_1 Rc5_1 Rc6_1 Rc7_1 q_1
  clear b
  have h0 := H_h0.out
  have hN := H_hN.out
  have rf0 := blk_free R_2.out 0
  have sf0 := blk_free S_2.out 0
  have rf1 := blk_free R_2.out 1
  have sf1 := blk_free S_2.out 1
  have rf2 := blk_free R_2.out 2
  have sf2 := blk_free S_2.out 2
  have rf3 := blk_free R_2.out 3
  have sf3 := blk_free S_2.out 3
  have rf4 := blk_free R_2.out 4
  have sf4 := blk_free S_2.out 4
  have rf5 := blk_free R_2.out 5
  have sf5 := blk_free S_2.out 5
  have rf6 := blk_free R_2.out 6
  have sf6 := blk_free S_2.out 6
  have rf7 := blk_free R_2.out 7
  have sf7 := blk_free S_2.out 7

  have QY := Lib.hid q_2
  clear R_2 S_2
  go_wp2
  refine bodyPost_ret (v := .tuple #[.agg #[.int .i64 (s.p), .bool (s.hn), .bool (false), .int .i64 (s.no), .int .i64 (0), .int .i64 (0), .int .i64 s.ba, .int .i64 (N)], .int .i64 0]) (by simp [results, Try.results8, go_sem, *]) rfl ⟨rfl, ?_⟩
  (repeat' (first | (with_reducible exact QY.out) | (with_reducible exact Below.refl _ _) | (with_reducible refine Below.alloc ?_ ?_ _) | (with_reducible refine Below.setCell ?_ ?_ _) | (with_reducible refine Below.drew ?_) | (with_reducible refine below_drewN ?_ _) | omega | (dsimp only; omega) | (simp; done) | (simp; omega)))

set_option maxHeartbeats 2000000 in
theorem rround_s (s : HS) (w : World) (hV : ¬ HV s)  :
    Calls Try.prog 8 #[.agg #[.int .i64 s.p, .bool s.hl, .bool s.hn, .int .i64 s.la, .int .i64 s.no, .int .i64 s.sa, .int .i64 s.ba, .int .i64 s.ro]] w fun e w' => e = .returned (.tuple #[.agg #[.int .i64 0, .bool false, .bool false, .int .i64 0, .int .i64 0, .int .i64 0, .int .i64 0, .int .i64 0], .int .i64 171]) ∧ Below w.heap.size w w' := by
  have q_0 := Below.refl w.heap.size w
  go_enter Try.func8, Try.ntmps8
  go_wp2_with fail
  have b : Below w.heap.size w ((w.alloc (.cells #[.int .i64 s.p, .bool s.hl, .bool s.hn, .int .i64 s.la, .int .i64 s.no, .int .i64 s.sa, .int .i64 s.ba, .int .i64 s.ro] 25)).alloc (.cells #[.int .i64 0, .bool false, .bool false, .int .i64 0, .int .i64 0, .int .i64 0, .int .i64 0, .int .i64 0] 25)) := (((Below.refl _ w).alloc (Nat.le_refl _) (.cells #[.int .i64 s.p, .bool s.hl, .bool s.hn, .int .i64 s.la, .int .i64 s.no, .int .i64 s.sa, .int .i64 s.ba, .int .i64 s.ro] 25)).alloc (by simp only [World.size_alloc]; omega) (.cells #[.int .i64 0, .bool false, .bool false, .int .i64 0, .int .i64 0, .int .i64 0, .int .i64 0, .int .i64 0] 25))
  have nb0 := blk_new w (.cells #[.int .i64 s.p, .bool s.hl, .bool s.hn, .int .i64 s.la, .int .i64 s.no, .int .i64 s.sa, .int .i64 s.ba, .int .i64 s.ro] 25)
  have nb0 := (Below.heap_alloc (w.alloc (.cells #[.int .i64 s.p, .bool s.hl, .bool s.hn, .int .i64 s.la, .int .i64 s.no, .int .i64 s.sa, .int .i64 s.ba, .int .i64 s.ro] 25)) (.cells #[.int .i64 0, .bool false, .bool false, .int .i64 0, .int .i64 0, .int .i64 0, .int .i64 0, .int .i64 0] 25) (w.heap.size) (by simp only [World.size_alloc]; omega)).trans nb0
  have nz0 : w.heap.size < ((w.alloc (.cells #[.int .i64 s.p, .bool s.hl, .bool s.hn, .int .i64 s.la, .int .i64 s.no, .int .i64 s.sa, .int .i64 s.ba, .int .i64 s.ro] 25)).alloc (.cells #[.int .i64 0, .bool false, .bool false, .int .i64 0, .int .i64 0, .int .i64 0, .int .i64 0, .int .i64 0] 25)).heap.size := by simp only [World.size_alloc]; omega
  have nb1 := blk_new (w.alloc (.cells #[.int .i64 s.p, .bool s.hl, .bool s.hn, .int .i64 s.la, .int .i64 s.no, .int .i64 s.sa, .int .i64 s.ba, .int .i64 s.ro] 25)) (.cells #[.int .i64 0, .bool false, .bool false, .int .i64 0, .int .i64 0, .int .i64 0, .int .i64 0, .int .i64 0] 25)
  simp only [World.size_alloc] at nb1
  have nz1 : w.heap.size + 1 < ((w.alloc (.cells #[.int .i64 s.p, .bool s.hl, .bool s.hn, .int .i64 s.la, .int .i64 s.no, .int .i64 s.sa, .int .i64 s.ba, .int .i64 s.ro] 25)).alloc (.cells #[.int .i64 0, .bool false, .bool false, .int .i64 0, .int .i64 0, .int .i64 0, .int .i64 0, .int .i64 0] 25)).heap.size := by simp only [World.size_alloc]; omega
  have q_1 := q_0.trans (b.mono q_0.size)
  clear q_0
  clear b
  have S_1 := Lib.hid nb0
  have Sz_1 := nz0
  clear nb0 nz0
  have Sc0_1 := blk_cell S_1.out 0
  have Sc1_1 := blk_cell S_1.out 1
  have Sc2_1 := blk_cell S_1.out 2
  have Sc3_1 := blk_cell S_1.out 3
  have Sc4_1 := blk_cell S_1.out 4
  have Sc5_1 := blk_cell S_1.out 5
  have Sc6_1 := blk_cell S_1.out 6
  have Sc7_1 := blk_cell S_1.out 7
  have R_1 := Lib.hid nb1
  have Rz_1 := nz1
  clear nb1 nz1
  have Rc0_1 := blk_cell R_1.out 0
  have Rc1_1 := blk_cell R_1.out 1
  have Rc2_1 := blk_cell R_1.out 2
  have Rc3_1 := blk_cell R_1.out 3
  have Rc4_1 := blk_cell R_1.out 4
  have Rc5_1 := blk_cell R_1.out 5
  have Rc6_1 := blk_cell R_1.out 6
  have Rc7_1 := blk_cell R_1.out 7
  generalize ((w.alloc (.cells #[.int .i64 s.p, .bool s.hl, .bool s.hn, .int .i64 s.la, .int .i64 s.no, .int .i64 s.sa, .int .i64 s.ba, .int .i64 s.ro] 25)).alloc (.cells #[.int .i64 0, .bool false, .bool false, .int .i64 0, .int .i64 0, .int .i64 0, .int .i64 0, .int .i64 0] 25)) = V1 at q_1 S_1 Sz_1 Sc0_1 Sc1_1 Sc2_1 Sc3_1 Sc4_1 Sc5_1 Sc6_1 Sc7_1 R_1 Rz_1 Rc0_1 Rc1_1 Rc2_1 Rc3_1 Rc4_1 Rc5_1 Rc6_1 Rc7_1 ⊢
  refine (rcheck_no s _ hV).mono ?_
  rintro e V2 ⟨rfl, b⟩
  have S_2 := Lib.hid ((b.block _ Sz_1).trans S_1.out)
  have Sz_2 := Nat.lt_of_lt_of_le Sz_1 b.size
  have Sc0_2 := blk_cell S_2.out 0
  have Sc1_2 := blk_cell S_2.out 1
  have Sc2_2 := blk_cell S_2.out 2
  have Sc3_2 := blk_cell S_2.out 3
  have Sc4_2 := blk_cell S_2.out 4
  have Sc5_2 := blk_cell S_2.out 5
  have Sc6_2 := blk_cell S_2.out 6
  have Sc7_2 := blk_cell S_2.out 7
  have R_2 := Lib.hid ((b.block _ Rz_1).trans R_1.out)
  have Rz_2 := Nat.lt_of_lt_of_le Rz_1 b.size
  have Rc0_2 := blk_cell R_2.out 0
  have Rc1_2 := blk_cell R_2.out 1
  have Rc2_2 := blk_cell R_2.out 2
  have Rc3_2 := blk_cell R_2.out 3
  have Rc4_2 := blk_cell R_2.out 4
  have Rc5_2 := blk_cell R_2.out 5
  have Rc6_2 := blk_cell R_2.out 6
  have Rc7_2 := blk_cell R_2.out 7
  have q_2 := q_1.trans (b.mono q_1.size)
  clear S_1 Sz_1 Sc0_1 Sc1_1 Sc2_1 Sc3_1 Sc4_1 Sc5_1 Sc6_1 Sc7_1 R_1 Rz_1 Rc0_1 Rc1_1 Rc2_1 Rc3_1 Rc4_1 Rc5_1 Rc6_1 Rc7_1 q_1
  clear b
  have rf0 := blk_free R_2.out 0
  have sf0 := blk_free S_2.out 0
  have rf1 := blk_free R_2.out 1
  have sf1 := blk_free S_2.out 1
  have rf2 := blk_free R_2.out 2
  have sf2 := blk_free S_2.out 2
  have rf3 := blk_free R_2.out 3
  have sf3 := blk_free S_2.out 3
  have rf4 := blk_free R_2.out 4
  have sf4 := blk_free S_2.out 4
  have rf5 := blk_free R_2.out 5
  have sf5 := blk_free S_2.out 5
  have rf6 := blk_free R_2.out 6
  have sf6 := blk_free S_2.out 6
  have rf7 := blk_free R_2.out 7
  have sf7 := blk_free S_2.out 7

  have QY := Lib.hid q_2
  clear R_2 S_2
  go_wp2
  refine bodyPost_ret (v := .tuple #[.agg #[.int .i64 0, .bool false, .bool false, .int .i64 0, .int .i64 0, .int .i64 0, .int .i64 0, .int .i64 0], .int .i64 171]) (by simp [results, Try.results8, go_sem, *]) rfl ⟨rfl, ?_⟩
  (repeat' (first | (with_reducible exact QY.out) | (with_reducible exact Below.refl _ _) | (with_reducible refine Below.alloc ?_ ?_ _) | (with_reducible refine Below.setCell ?_ ?_ _) | (with_reducible refine Below.drew ?_) | (with_reducible refine below_drewN ?_ _) | omega | (dsimp only; omega) | (simp; done) | (simp; omega)))

set_option maxHeartbeats 2000000 in
theorem rloss_0 (s : HS) (w : World) (hV : HV s)  :
    Calls Try.prog 12 #[.agg #[.int .i64 s.p, .bool s.hl, .bool s.hn, .int .i64 s.la, .int .i64 s.no, .int .i64 s.sa, .int .i64 s.ba, .int .i64 s.ro]] w fun e w' => e = .returned (.tuple #[.agg #[.int .i64 (2), .bool s.hl, .bool s.hn, .int .i64 s.la, .int .i64 s.no, .int .i64 s.sa, .int .i64 s.ba, .int .i64 s.ro], .int .i64 0]) ∧ Below w.heap.size w w' := by
  have HV' := Lib.hid hV
  obtain ⟨⟨p0, p1⟩, ⟨a0, a1⟩, ⟨b0, b1⟩, ⟨c0, c1⟩, ⟨d0, d1⟩, e0, e1⟩ := hV
  have q_0 := Below.refl w.heap.size w
  go_enter Try.func12, Try.ntmps12
  go_wp2_with fail
  have b : Below w.heap.size w ((w.alloc (.cells #[.int .i64 s.p, .bool s.hl, .bool s.hn, .int .i64 s.la, .int .i64 s.no, .int .i64 s.sa, .int .i64 s.ba, .int .i64 s.ro] 25)).alloc (.cells #[.int .i64 0, .bool false, .bool false, .int .i64 0, .int .i64 0, .int .i64 0, .int .i64 0, .int .i64 0] 25)) := (((Below.refl _ w).alloc (Nat.le_refl _) (.cells #[.int .i64 s.p, .bool s.hl, .bool s.hn, .int .i64 s.la, .int .i64 s.no, .int .i64 s.sa, .int .i64 s.ba, .int .i64 s.ro] 25)).alloc (by simp only [World.size_alloc]; omega) (.cells #[.int .i64 0, .bool false, .bool false, .int .i64 0, .int .i64 0, .int .i64 0, .int .i64 0, .int .i64 0] 25))
  have nb0 := blk_new w (.cells #[.int .i64 s.p, .bool s.hl, .bool s.hn, .int .i64 s.la, .int .i64 s.no, .int .i64 s.sa, .int .i64 s.ba, .int .i64 s.ro] 25)
  have nb0 := (Below.heap_alloc (w.alloc (.cells #[.int .i64 s.p, .bool s.hl, .bool s.hn, .int .i64 s.la, .int .i64 s.no, .int .i64 s.sa, .int .i64 s.ba, .int .i64 s.ro] 25)) (.cells #[.int .i64 0, .bool false, .bool false, .int .i64 0, .int .i64 0, .int .i64 0, .int .i64 0, .int .i64 0] 25) (w.heap.size) (by simp only [World.size_alloc]; omega)).trans nb0
  have nz0 : w.heap.size < ((w.alloc (.cells #[.int .i64 s.p, .bool s.hl, .bool s.hn, .int .i64 s.la, .int .i64 s.no, .int .i64 s.sa, .int .i64 s.ba, .int .i64 s.ro] 25)).alloc (.cells #[.int .i64 0, .bool false, .bool false, .int .i64 0, .int .i64 0, .int .i64 0, .int .i64 0, .int .i64 0] 25)).heap.size := by simp only [World.size_alloc]; omega
  have nb1 := blk_new (w.alloc (.cells #[.int .i64 s.p, .bool s.hl, .bool s.hn, .int .i64 s.la, .int .i64 s.no, .int .i64 s.sa, .int .i64 s.ba, .int .i64 s.ro] 25)) (.cells #[.int .i64 0, .bool false, .bool false, .int .i64 0, .int .i64 0, .int .i64 0, .int .i64 0, .int .i64 0] 25)
  simp only [World.size_alloc] at nb1
  have nz1 : w.heap.size + 1 < ((w.alloc (.cells #[.int .i64 s.p, .bool s.hl, .bool s.hn, .int .i64 s.la, .int .i64 s.no, .int .i64 s.sa, .int .i64 s.ba, .int .i64 s.ro] 25)).alloc (.cells #[.int .i64 0, .bool false, .bool false, .int .i64 0, .int .i64 0, .int .i64 0, .int .i64 0, .int .i64 0] 25)).heap.size := by simp only [World.size_alloc]; omega
  have q_1 := q_0.trans (b.mono q_0.size)
  clear q_0
  clear b
  have S_1 := Lib.hid nb0
  have Sz_1 := nz0
  clear nb0 nz0
  have Sc0_1 := blk_cell S_1.out 0
  have Sc1_1 := blk_cell S_1.out 1
  have Sc2_1 := blk_cell S_1.out 2
  have Sc3_1 := blk_cell S_1.out 3
  have Sc4_1 := blk_cell S_1.out 4
  have Sc5_1 := blk_cell S_1.out 5
  have Sc6_1 := blk_cell S_1.out 6
  have Sc7_1 := blk_cell S_1.out 7
  have R_1 := Lib.hid nb1
  have Rz_1 := nz1
  clear nb1 nz1
  have Rc0_1 := blk_cell R_1.out 0
  have Rc1_1 := blk_cell R_1.out 1
  have Rc2_1 := blk_cell R_1.out 2
  have Rc3_1 := blk_cell R_1.out 3
  have Rc4_1 := blk_cell R_1.out 4
  have Rc5_1 := blk_cell R_1.out 5
  have Rc6_1 := blk_cell R_1.out 6
  have Rc7_1 := blk_cell R_1.out 7
  generalize ((w.alloc (.cells #[.int .i64 s.p, .bool s.hl, .bool s.hn, .int .i64 s.la, .int .i64 s.no, .int .i64 s.sa, .int .i64 s.ba, .int .i64 s.ro] 25)).alloc (.cells #[.int .i64 0, .bool false, .bool false, .int .i64 0, .int .i64 0, .int .i64 0, .int .i64 0, .int .i64 0] 25)) = V1 at q_1 S_1 Sz_1 Sc0_1 Sc1_1 Sc2_1 Sc3_1 Sc4_1 Sc5_1 Sc6_1 Sc7_1 R_1 Rz_1 Rc0_1 Rc1_1 Rc2_1 Rc3_1 Rc4_1 Rc5_1 Rc6_1 Rc7_1 ⊢
  refine (rcheck_yes s _ HV'.out).mono ?_
  rintro e V2 ⟨rfl, b⟩
  have S_2 := Lib.hid ((b.block _ Sz_1).trans S_1.out)
  have Sz_2 := Nat.lt_of_lt_of_le Sz_1 b.size
  have Sc0_2 := blk_cell S_2.out 0
  have Sc1_2 := blk_cell S_2.out 1
  have Sc2_2 := blk_cell S_2.out 2
  have Sc3_2 := blk_cell S_2.out 3
  have Sc4_2 := blk_cell S_2.out 4
  have Sc5_2 := blk_cell S_2.out 5
  have Sc6_2 := blk_cell S_2.out 6
  have Sc7_2 := blk_cell S_2.out 7
  have R_2 := Lib.hid ((b.block _ Rz_1).trans R_1.out)
  have Rz_2 := Nat.lt_of_lt_of_le Rz_1 b.size
  have Rc0_2 := blk_cell R_2.out 0
  have Rc1_2 := blk_cell R_2.out 1
  have Rc2_2 := blk_cell R_2.out 2
  have Rc3_2 := blk_cell R_2.out 3
  have Rc4_2 := blk_cell R_2.out 4
  have Rc5_2 := blk_cell R_2.out 5
  have Rc6_2 := blk_cell R_2.out 6
  have Rc7_2 := blk_cell R_2.out 7
  have q_2 := q_1.trans (b.mono q_1.size)
  clear S_1 Sz_1 Sc0_1 Sc1_1 Sc2_1 Sc3_1 Sc4_1 Sc5_1 Sc6_1 Sc7_1 R_1 Rz_1 Rc0_1 Rc1_1 Rc2_1 Rc3_1 Rc4_1 Rc5_1 Rc6_1 Rc7_1 q_1
  clear b
  have rf0 := blk_free R_2.out 0
  have sf0 := blk_free S_2.out 0
  have rf1 := blk_free R_2.out 1
  have sf1 := blk_free S_2.out 1
  have rf2 := blk_free R_2.out 2
  have sf2 := blk_free S_2.out 2
  have rf3 := blk_free R_2.out 3
  have sf3 := blk_free S_2.out 3
  have rf4 := blk_free R_2.out 4
  have sf4 := blk_free S_2.out 4
  have rf5 := blk_free R_2.out 5
  have sf5 := blk_free S_2.out 5
  have rf6 := blk_free R_2.out 6
  have sf6 := blk_free S_2.out 6
  have rf7 := blk_free R_2.out 7
  have sf7 := blk_free S_2.out 7

  have QY := Lib.hid q_2
  clear R_2 S_2
  go_wp2
  refine bodyPost_ret (v := .tuple #[.agg #[.int .i64 (2), .bool s.hl, .bool s.hn, .int .i64 s.la, .int .i64 s.no, .int .i64 s.sa, .int .i64 s.ba, .int .i64 s.ro], .int .i64 0]) (by simp [results, Try.results12, go_sem, *]) rfl ⟨rfl, ?_⟩
  (repeat' (first | (with_reducible exact QY.out) | (with_reducible exact Below.refl _ _) | (with_reducible refine Below.alloc ?_ ?_ _) | (with_reducible refine Below.setCell ?_ ?_ _) | (with_reducible refine Below.drew ?_) | (with_reducible refine below_drewN ?_ _) | omega | (dsimp only; omega) | (simp; done) | (simp; omega)))

set_option maxHeartbeats 2000000 in
theorem rloss_s (s : HS) (w : World) (hV : ¬ HV s)  :
    Calls Try.prog 12 #[.agg #[.int .i64 s.p, .bool s.hl, .bool s.hn, .int .i64 s.la, .int .i64 s.no, .int .i64 s.sa, .int .i64 s.ba, .int .i64 s.ro]] w fun e w' => e = .returned (.tuple #[.agg #[.int .i64 0, .bool false, .bool false, .int .i64 0, .int .i64 0, .int .i64 0, .int .i64 0, .int .i64 0], .int .i64 171]) ∧ Below w.heap.size w w' := by
  have q_0 := Below.refl w.heap.size w
  go_enter Try.func12, Try.ntmps12
  go_wp2_with fail
  have b : Below w.heap.size w ((w.alloc (.cells #[.int .i64 s.p, .bool s.hl, .bool s.hn, .int .i64 s.la, .int .i64 s.no, .int .i64 s.sa, .int .i64 s.ba, .int .i64 s.ro] 25)).alloc (.cells #[.int .i64 0, .bool false, .bool false, .int .i64 0, .int .i64 0, .int .i64 0, .int .i64 0, .int .i64 0] 25)) := (((Below.refl _ w).alloc (Nat.le_refl _) (.cells #[.int .i64 s.p, .bool s.hl, .bool s.hn, .int .i64 s.la, .int .i64 s.no, .int .i64 s.sa, .int .i64 s.ba, .int .i64 s.ro] 25)).alloc (by simp only [World.size_alloc]; omega) (.cells #[.int .i64 0, .bool false, .bool false, .int .i64 0, .int .i64 0, .int .i64 0, .int .i64 0, .int .i64 0] 25))
  have nb0 := blk_new w (.cells #[.int .i64 s.p, .bool s.hl, .bool s.hn, .int .i64 s.la, .int .i64 s.no, .int .i64 s.sa, .int .i64 s.ba, .int .i64 s.ro] 25)
  have nb0 := (Below.heap_alloc (w.alloc (.cells #[.int .i64 s.p, .bool s.hl, .bool s.hn, .int .i64 s.la, .int .i64 s.no, .int .i64 s.sa, .int .i64 s.ba, .int .i64 s.ro] 25)) (.cells #[.int .i64 0, .bool false, .bool false, .int .i64 0, .int .i64 0, .int .i64 0, .int .i64 0, .int .i64 0] 25) (w.heap.size) (by simp only [World.size_alloc]; omega)).trans nb0
  have nz0 : w.heap.size < ((w.alloc (.cells #[.int .i64 s.p, .bool s.hl, .bool s.hn, .int .i64 s.la, .int .i64 s.no, .int .i64 s.sa, .int .i64 s.ba, .int .i64 s.ro] 25)).alloc (.cells #[.int .i64 0, .bool false, .bool false, .int .i64 0, .int .i64 0, .int .i64 0, .int .i64 0, .int .i64 0] 25)).heap.size := by simp only [World.size_alloc]; omega
  have nb1 := blk_new (w.alloc (.cells #[.int .i64 s.p, .bool s.hl, .bool s.hn, .int .i64 s.la, .int .i64 s.no, .int .i64 s.sa, .int .i64 s.ba, .int .i64 s.ro] 25)) (.cells #[.int .i64 0, .bool false, .bool false, .int .i64 0, .int .i64 0, .int .i64 0, .int .i64 0, .int .i64 0] 25)
  simp only [World.size_alloc] at nb1
  have nz1 : w.heap.size + 1 < ((w.alloc (.cells #[.int .i64 s.p, .bool s.hl, .bool s.hn, .int .i64 s.la, .int .i64 s.no, .int .i64 s.sa, .int .i64 s.ba, .int .i64 s.ro] 25)).alloc (.cells #[.int .i64 0, .bool false, .bool false, .int .i64 0, .int .i64 0, .int .i64 0, .int .i64 0, .int .i64 0] 25)).heap.size := by simp only [World.size_alloc]; omega
  have q_1 := q_0.trans (b.mono q_0.size)
  clear q_0
  clear b
  have S_1 := Lib.hid nb0
  have Sz_1 := nz0
  clear nb0 nz0
  have Sc0_1 := blk_cell S_1.out 0
  have Sc1_1 := blk_cell S_1.out 1
  have Sc2_1 := blk_cell S_1.out 2
  have Sc3_1 := blk_cell S_1.out 3
  have Sc4_1 := blk_cell S_1.out 4
  have Sc5_1 := blk_cell S_1.out 5
  have Sc6_1 := blk_cell S_1.out 6
  have Sc7_1 := blk_cell S_1.out 7
  have R_1 := Lib.hid nb1
  have Rz_1 := nz1
  clear nb1 nz1
  have Rc0_1 := blk_cell R_1.out 0
  have Rc1_1 := blk_cell R_1.out 1
  have Rc2_1 := blk_cell R_1.out 2
  have Rc3_1 := blk_cell R_1.out 3
  have Rc4_1 := blk_cell R_1.out 4
  have Rc5_1 := blk_cell R_1.out 5
  have Rc6_1 := blk_cell R_1.out 6
  have Rc7_1 := blk_cell R_1.out 7
  generalize ((w.alloc (.cells #[.int .i64 s.p, .bool s.hl, .bool s.hn, .int .i64 s.la, .int .i64 s.no, .int .i64 s.sa, .int .i64 s.ba, .int .i64 s.ro] 25)).alloc (.cells #[.int .i64 0, .bool false, .bool false, .int .i64 0, .int .i64 0, .int .i64 0, .int .i64 0, .int .i64 0] 25)) = V1 at q_1 S_1 Sz_1 Sc0_1 Sc1_1 Sc2_1 Sc3_1 Sc4_1 Sc5_1 Sc6_1 Sc7_1 R_1 Rz_1 Rc0_1 Rc1_1 Rc2_1 Rc3_1 Rc4_1 Rc5_1 Rc6_1 Rc7_1 ⊢
  refine (rcheck_no s _ hV).mono ?_
  rintro e V2 ⟨rfl, b⟩
  have S_2 := Lib.hid ((b.block _ Sz_1).trans S_1.out)
  have Sz_2 := Nat.lt_of_lt_of_le Sz_1 b.size
  have Sc0_2 := blk_cell S_2.out 0
  have Sc1_2 := blk_cell S_2.out 1
  have Sc2_2 := blk_cell S_2.out 2
  have Sc3_2 := blk_cell S_2.out 3
  have Sc4_2 := blk_cell S_2.out 4
  have Sc5_2 := blk_cell S_2.out 5
  have Sc6_2 := blk_cell S_2.out 6
  have Sc7_2 := blk_cell S_2.out 7
  have R_2 := Lib.hid ((b.block _ Rz_1).trans R_1.out)
  have Rz_2 := Nat.lt_of_lt_of_le Rz_1 b.size
  have Rc0_2 := blk_cell R_2.out 0
  have Rc1_2 := blk_cell R_2.out 1
  have Rc2_2 := blk_cell R_2.out 2
  have Rc3_2 := blk_cell R_2.out 3
  have Rc4_2 := blk_cell R_2.out 4
  have Rc5_2 := blk_cell R_2.out 5
  have Rc6_2 := blk_cell R_2.out 6
  have Rc7_2 := blk_cell R_2.out 7
  have q_2 := q_1.trans (b.mono q_1.size)
  clear S_1 Sz_1 Sc0_1 Sc1_1 Sc2_1 Sc3_1 Sc4_1 Sc5_1 Sc6_1 Sc7_1 R_1 Rz_1 Rc0_1 Rc1_1 Rc2_1 Rc3_1 Rc4_1 Rc5_1 Rc6_1 Rc7_1 q_1
  clear b
  have rf0 := blk_free R_2.out 0
  have sf0 := blk_free S_2.out 0
  have rf1 := blk_free R_2.out 1
  have sf1 := blk_free S_2.out 1
  have rf2 := blk_free R_2.out 2
  have sf2 := blk_free S_2.out 2
  have rf3 := blk_free R_2.out 3
  have sf3 := blk_free S_2.out 3
  have rf4 := blk_free R_2.out 4
  have sf4 := blk_free S_2.out 4
  have rf5 := blk_free R_2.out 5
  have sf5 := blk_free S_2.out 5
  have rf6 := blk_free R_2.out 6
  have sf6 := blk_free S_2.out 6
  have rf7 := blk_free R_2.out 7
  have sf7 := blk_free S_2.out 7

  have QY := Lib.hid q_2
  clear R_2 S_2
  go_wp2
  refine bodyPost_ret (v := .tuple #[.agg #[.int .i64 0, .bool false, .bool false, .int .i64 0, .int .i64 0, .int .i64 0, .int .i64 0, .int .i64 0], .int .i64 171]) (by simp [results, Try.results12, go_sem, *]) rfl ⟨rfl, ?_⟩
  (repeat' (first | (with_reducible exact QY.out) | (with_reducible exact Below.refl _ _) | (with_reducible refine Below.alloc ?_ ?_ _) | (with_reducible refine Below.setCell ?_ ?_ _) | (with_reducible refine Below.drew ?_) | (with_reducible refine below_drewN ?_ _) | omega | (dsimp only; omega) | (simp; done) | (simp; omega)))

set_option maxHeartbeats 2000000 in
theorem rsample_s (s : HS) (r : Int) (w : World) (hV : ¬ HV s)  :
    Calls Try.prog 10 #[.agg #[.int .i64 s.p, .bool s.hl, .bool s.hn, .int .i64 s.la, .int .i64 s.no, .int .i64 s.sa, .int .i64 s.ba, .int .i64 s.ro], .int .i64 r] w fun e w' => e = .returned (.tuple #[.agg #[.int .i64 0, .bool false, .bool false, .int .i64 0, .int .i64 0, .int .i64 0, .int .i64 0, .int .i64 0], .int .i64 171]) ∧ Below w.heap.size w w' := by
  have q_0 := Below.refl w.heap.size w
  go_enter Try.func10, Try.ntmps10
  go_wp2_with fail
  have b : Below w.heap.size w ((w.alloc (.cells #[.int .i64 s.p, .bool s.hl, .bool s.hn, .int .i64 s.la, .int .i64 s.no, .int .i64 s.sa, .int .i64 s.ba, .int .i64 s.ro] 25)).alloc (.cells #[.int .i64 0, .bool false, .bool false, .int .i64 0, .int .i64 0, .int .i64 0, .int .i64 0, .int .i64 0] 25)) := (((Below.refl _ w).alloc (Nat.le_refl _) (.cells #[.int .i64 s.p, .bool s.hl, .bool s.hn, .int .i64 s.la, .int .i64 s.no, .int .i64 s.sa, .int .i64 s.ba, .int .i64 s.ro] 25)).alloc (by simp only [World.size_alloc]; omega) (.cells #[.int .i64 0, .bool false, .bool false, .int .i64 0, .int .i64 0, .int .i64 0, .int .i64 0, .int .i64 0] 25))
  have nb0 := blk_new w (.cells #[.int .i64 s.p, .bool s.hl, .bool s.hn, .int .i64 s.la, .int .i64 s.no, .int .i64 s.sa, .int .i64 s.ba, .int .i64 s.ro] 25)
  have nb0 := (Below.heap_alloc (w.alloc (.cells #[.int .i64 s.p, .bool s.hl, .bool s.hn, .int .i64 s.la, .int .i64 s.no, .int .i64 s.sa, .int .i64 s.ba, .int .i64 s.ro] 25)) (.cells #[.int .i64 0, .bool false, .bool false, .int .i64 0, .int .i64 0, .int .i64 0, .int .i64 0, .int .i64 0] 25) (w.heap.size) (by simp only [World.size_alloc]; omega)).trans nb0
  have nz0 : w.heap.size < ((w.alloc (.cells #[.int .i64 s.p, .bool s.hl, .bool s.hn, .int .i64 s.la, .int .i64 s.no, .int .i64 s.sa, .int .i64 s.ba, .int .i64 s.ro] 25)).alloc (.cells #[.int .i64 0, .bool false, .bool false, .int .i64 0, .int .i64 0, .int .i64 0, .int .i64 0, .int .i64 0] 25)).heap.size := by simp only [World.size_alloc]; omega
  have nb1 := blk_new (w.alloc (.cells #[.int .i64 s.p, .bool s.hl, .bool s.hn, .int .i64 s.la, .int .i64 s.no, .int .i64 s.sa, .int .i64 s.ba, .int .i64 s.ro] 25)) (.cells #[.int .i64 0, .bool false, .bool false, .int .i64 0, .int .i64 0, .int .i64 0, .int .i64 0, .int .i64 0] 25)
  simp only [World.size_alloc] at nb1
  have nz1 : w.heap.size + 1 < ((w.alloc (.cells #[.int .i64 s.p, .bool s.hl, .bool s.hn, .int .i64 s.la, .int .i64 s.no, .int .i64 s.sa, .int .i64 s.ba, .int .i64 s.ro] 25)).alloc (.cells #[.int .i64 0, .bool false, .bool false, .int .i64 0, .int .i64 0, .int .i64 0, .int .i64 0, .int .i64 0] 25)).heap.size := by simp only [World.size_alloc]; omega
  have q_1 := q_0.trans (b.mono q_0.size)
  clear q_0
  clear b
  have S_1 := Lib.hid nb0
  have Sz_1 := nz0
  clear nb0 nz0
  have Sc0_1 := blk_cell S_1.out 0
  have Sc1_1 := blk_cell S_1.out 1
  have Sc2_1 := blk_cell S_1.out 2
  have Sc3_1 := blk_cell S_1.out 3
  have Sc4_1 := blk_cell S_1.out 4
  have Sc5_1 := blk_cell S_1.out 5
  have Sc6_1 := blk_cell S_1.out 6
  have Sc7_1 := blk_cell S_1.out 7
  have R_1 := Lib.hid nb1
  have Rz_1 := nz1
  clear nb1 nz1
  have Rc0_1 := blk_cell R_1.out 0
  have Rc1_1 := blk_cell R_1.out 1
  have Rc2_1 := blk_cell R_1.out 2
  have Rc3_1 := blk_cell R_1.out 3
  have Rc4_1 := blk_cell R_1.out 4
  have Rc5_1 := blk_cell R_1.out 5
  have Rc6_1 := blk_cell R_1.out 6
  have Rc7_1 := blk_cell R_1.out 7
  generalize ((w.alloc (.cells #[.int .i64 s.p, .bool s.hl, .bool s.hn, .int .i64 s.la, .int .i64 s.no, .int .i64 s.sa, .int .i64 s.ba, .int .i64 s.ro] 25)).alloc (.cells #[.int .i64 0, .bool false, .bool false, .int .i64 0, .int .i64 0, .int .i64 0, .int .i64 0, .int .i64 0] 25)) = V1 at q_1 S_1 Sz_1 Sc0_1 Sc1_1 Sc2_1 Sc3_1 Sc4_1 Sc5_1 Sc6_1 Sc7_1 R_1 Rz_1 Rc0_1 Rc1_1 Rc2_1 Rc3_1 Rc4_1 Rc5_1 Rc6_1 Rc7_1 ⊢
  refine (rcheck_no s _ hV).mono ?_
  rintro e V2 ⟨rfl, b⟩
  have S_2 := Lib.hid ((b.block _ Sz_1).trans S_1.out)
  have Sz_2 := Nat.lt_of_lt_of_le Sz_1 b.size
  have Sc0_2 := blk_cell S_2.out 0
  have Sc1_2 := blk_cell S_2.out 1
  have Sc2_2 := blk_cell S_2.out 2
  have Sc3_2 := blk_cell S_2.out 3
  have Sc4_2 := blk_cell S_2.out 4
  have Sc5_2 := blk_cell S_2.out 5
  have Sc6_2 := blk_cell S_2.out 6
  have Sc7_2 := blk_cell S_2.out 7
  have R_2 := Lib.hid ((b.block _ Rz_1).trans R_1.out)
  have Rz_2 := Nat.lt_of_lt_of_le Rz_1 b.size
  have Rc0_2 := blk_cell R_2.out 0
  have Rc1_2 := blk_cell R_2.out 1
  have Rc2_2 := blk_cell R_2.out 2
  have Rc3_2 := blk_cell R_2.out 3
  have Rc4_2 := blk_cell R_2.out 4
  have Rc5_2 := blk_cell R_2.out 5
  have Rc6_2 := blk_cell R_2.out 6
  have Rc7_2 := blk_cell R_2.out 7
  have q_2 := q_1.trans (b.mono q_1.size)
  clear S_1 Sz_1 Sc0_1 Sc1_1 Sc2_1 Sc3_1 Sc4_1 Sc5_1 Sc6_1 Sc7_1 R_1 Rz_1 Rc0_1 Rc1_1 Rc2_1 Rc3_1 Rc4_1 Rc5_1 Rc6_1 Rc7_1 q_1
  clear b
  have rf0 := blk_free R_2.out 0
  have sf0 := blk_free S_2.out 0
  have rf1 := blk_free R_2.out 1
  have sf1 := blk_free S_2.out 1
  have rf2 := blk_free R_2.out 2
  have sf2 := blk_free S_2.out 2
  have rf3 := blk_free R_2.out 3
  have sf3 := blk_free S_2.out 3
  have rf4 := blk_free R_2.out 4
  have sf4 := blk_free S_2.out 4
  have rf5 := blk_free R_2.out 5
  have sf5 := blk_free S_2.out 5
  have rf6 := blk_free R_2.out 6
  have sf6 := blk_free S_2.out 6
  have rf7 := blk_free R_2.out 7
  have sf7 := blk_free S_2.out 7

  have QY := Lib.hid q_2
  clear R_2 S_2
  go_wp2
  refine bodyPost_ret (v := .tuple #[.agg #[.int .i64 0, .bool false, .bool false, .int .i64 0, .int .i64 0, .int .i64 0, .int .i64 0, .int .i64 0], .int .i64 171]) (by simp [results, Try.results10, go_sem, *]) rfl ⟨rfl, ?_⟩
  (repeat' (first | (with_reducible exact QY.out) | (with_reducible exact Below.refl _ _) | (with_reducible refine Below.alloc ?_ ?_ _) | (with_reducible refine Below.setCell ?_ ?_ _) | (with_reducible refine Below.drew ?_) | (with_reducible refine below_drewN ?_ _) | omega | (dsimp only; omega) | (simp; done) | (simp; omega)))

set_option maxHeartbeats 2000000 in
theorem rsample_r (s : HS) (r : Int) (w : World) (hV : HV s) (hR : ¬ NV r) :
    Calls Try.prog 10 #[.agg #[.int .i64 s.p, .bool s.hl, .bool s.hn, .int .i64 s.la, .int .i64 s.no, .int .i64 s.sa, .int .i64 s.ba, .int .i64 s.ro], .int .i64 r] w fun e w' => e = .returned (.tuple #[.agg #[.int .i64 0, .bool false, .bool false, .int .i64 0, .int .i64 0, .int .i64 0, .int .i64 0, .int .i64 0], .int .i64 4]) ∧ Below w.heap.size w w' := by
  have HV' := Lib.hid hV
  obtain ⟨⟨p0, p1⟩, ⟨a0, a1⟩, ⟨b0, b1⟩, ⟨c0, c1⟩, ⟨d0, d1⟩, e0, e1⟩ := hV
  have q_0 := Below.refl w.heap.size w
  go_enter Try.func10, Try.ntmps10
  go_wp2_with fail
  have b : Below w.heap.size w ((w.alloc (.cells #[.int .i64 s.p, .bool s.hl, .bool s.hn, .int .i64 s.la, .int .i64 s.no, .int .i64 s.sa, .int .i64 s.ba, .int .i64 s.ro] 25)).alloc (.cells #[.int .i64 0, .bool false, .bool false, .int .i64 0, .int .i64 0, .int .i64 0, .int .i64 0, .int .i64 0] 25)) := (((Below.refl _ w).alloc (Nat.le_refl _) (.cells #[.int .i64 s.p, .bool s.hl, .bool s.hn, .int .i64 s.la, .int .i64 s.no, .int .i64 s.sa, .int .i64 s.ba, .int .i64 s.ro] 25)).alloc (by simp only [World.size_alloc]; omega) (.cells #[.int .i64 0, .bool false, .bool false, .int .i64 0, .int .i64 0, .int .i64 0, .int .i64 0, .int .i64 0] 25))
  have nb0 := blk_new w (.cells #[.int .i64 s.p, .bool s.hl, .bool s.hn, .int .i64 s.la, .int .i64 s.no, .int .i64 s.sa, .int .i64 s.ba, .int .i64 s.ro] 25)
  have nb0 := (Below.heap_alloc (w.alloc (.cells #[.int .i64 s.p, .bool s.hl, .bool s.hn, .int .i64 s.la, .int .i64 s.no, .int .i64 s.sa, .int .i64 s.ba, .int .i64 s.ro] 25)) (.cells #[.int .i64 0, .bool false, .bool false, .int .i64 0, .int .i64 0, .int .i64 0, .int .i64 0, .int .i64 0] 25) (w.heap.size) (by simp only [World.size_alloc]; omega)).trans nb0
  have nz0 : w.heap.size < ((w.alloc (.cells #[.int .i64 s.p, .bool s.hl, .bool s.hn, .int .i64 s.la, .int .i64 s.no, .int .i64 s.sa, .int .i64 s.ba, .int .i64 s.ro] 25)).alloc (.cells #[.int .i64 0, .bool false, .bool false, .int .i64 0, .int .i64 0, .int .i64 0, .int .i64 0, .int .i64 0] 25)).heap.size := by simp only [World.size_alloc]; omega
  have nb1 := blk_new (w.alloc (.cells #[.int .i64 s.p, .bool s.hl, .bool s.hn, .int .i64 s.la, .int .i64 s.no, .int .i64 s.sa, .int .i64 s.ba, .int .i64 s.ro] 25)) (.cells #[.int .i64 0, .bool false, .bool false, .int .i64 0, .int .i64 0, .int .i64 0, .int .i64 0, .int .i64 0] 25)
  simp only [World.size_alloc] at nb1
  have nz1 : w.heap.size + 1 < ((w.alloc (.cells #[.int .i64 s.p, .bool s.hl, .bool s.hn, .int .i64 s.la, .int .i64 s.no, .int .i64 s.sa, .int .i64 s.ba, .int .i64 s.ro] 25)).alloc (.cells #[.int .i64 0, .bool false, .bool false, .int .i64 0, .int .i64 0, .int .i64 0, .int .i64 0, .int .i64 0] 25)).heap.size := by simp only [World.size_alloc]; omega
  have q_1 := q_0.trans (b.mono q_0.size)
  clear q_0
  clear b
  have S_1 := Lib.hid nb0
  have Sz_1 := nz0
  clear nb0 nz0
  have Sc0_1 := blk_cell S_1.out 0
  have Sc1_1 := blk_cell S_1.out 1
  have Sc2_1 := blk_cell S_1.out 2
  have Sc3_1 := blk_cell S_1.out 3
  have Sc4_1 := blk_cell S_1.out 4
  have Sc5_1 := blk_cell S_1.out 5
  have Sc6_1 := blk_cell S_1.out 6
  have Sc7_1 := blk_cell S_1.out 7
  have R_1 := Lib.hid nb1
  have Rz_1 := nz1
  clear nb1 nz1
  have Rc0_1 := blk_cell R_1.out 0
  have Rc1_1 := blk_cell R_1.out 1
  have Rc2_1 := blk_cell R_1.out 2
  have Rc3_1 := blk_cell R_1.out 3
  have Rc4_1 := blk_cell R_1.out 4
  have Rc5_1 := blk_cell R_1.out 5
  have Rc6_1 := blk_cell R_1.out 6
  have Rc7_1 := blk_cell R_1.out 7
  generalize ((w.alloc (.cells #[.int .i64 s.p, .bool s.hl, .bool s.hn, .int .i64 s.la, .int .i64 s.no, .int .i64 s.sa, .int .i64 s.ba, .int .i64 s.ro] 25)).alloc (.cells #[.int .i64 0, .bool false, .bool false, .int .i64 0, .int .i64 0, .int .i64 0, .int .i64 0, .int .i64 0] 25)) = V1 at q_1 S_1 Sz_1 Sc0_1 Sc1_1 Sc2_1 Sc3_1 Sc4_1 Sc5_1 Sc6_1 Sc7_1 R_1 Rz_1 Rc0_1 Rc1_1 Rc2_1 Rc3_1 Rc4_1 Rc5_1 Rc6_1 Rc7_1 ⊢
  refine (rcheck_yes s _ HV'.out).mono ?_
  rintro e V2 ⟨rfl, b⟩
  have S_2 := Lib.hid ((b.block _ Sz_1).trans S_1.out)
  have Sz_2 := Nat.lt_of_lt_of_le Sz_1 b.size
  have Sc0_2 := blk_cell S_2.out 0
  have Sc1_2 := blk_cell S_2.out 1
  have Sc2_2 := blk_cell S_2.out 2
  have Sc3_2 := blk_cell S_2.out 3
  have Sc4_2 := blk_cell S_2.out 4
  have Sc5_2 := blk_cell S_2.out 5
  have Sc6_2 := blk_cell S_2.out 6
  have Sc7_2 := blk_cell S_2.out 7
  have R_2 := Lib.hid ((b.block _ Rz_1).trans R_1.out)
  have Rz_2 := Nat.lt_of_lt_of_le Rz_1 b.size
  have Rc0_2 := blk_cell R_2.out 0
  have Rc1_2 := blk_cell R_2.out 1
  have Rc2_2 := blk_cell R_2.out 2
  have Rc3_2 := blk_cell R_2.out 3
  have Rc4_2 := blk_cell R_2.out 4
  have Rc5_2 := blk_cell R_2.out 5
  have Rc6_2 := blk_cell R_2.out 6
  have Rc7_2 := blk_cell R_2.out 7
  have q_2 := q_1.trans (b.mono q_1.size)
  clear S_1 Sz_1 Sc0_1 Sc1_1 Sc2_1 Sc3_1 Sc4_1 Sc5_1 Sc6_1 Sc7_1 R_1 Rz_1 Rc0_1 Rc1_1 Rc2_1 Rc3_1 Rc4_1 Rc5_1 Rc6_1 Rc7_1 q_1
  clear b
  go_wp2_with fail
  refine (wit_no r _ hR).mono ?_
  rintro e w' ⟨rfl, rfl⟩
  have rf0 := blk_free R_2.out 0
  have sf0 := blk_free S_2.out 0
  have rf1 := blk_free R_2.out 1
  have sf1 := blk_free S_2.out 1
  have rf2 := blk_free R_2.out 2
  have sf2 := blk_free S_2.out 2
  have rf3 := blk_free R_2.out 3
  have sf3 := blk_free S_2.out 3
  have rf4 := blk_free R_2.out 4
  have sf4 := blk_free S_2.out 4
  have rf5 := blk_free R_2.out 5
  have sf5 := blk_free S_2.out 5
  have rf6 := blk_free R_2.out 6
  have sf6 := blk_free S_2.out 6
  have rf7 := blk_free R_2.out 7
  have sf7 := blk_free S_2.out 7

  have QY := Lib.hid q_2
  clear R_2 S_2
  go_wp2
  refine bodyPost_ret (v := .tuple #[.agg #[.int .i64 0, .bool false, .bool false, .int .i64 0, .int .i64 0, .int .i64 0, .int .i64 0, .int .i64 0], .int .i64 4]) (by simp [results, Try.results10, go_sem, *]) rfl ⟨rfl, ?_⟩
  (repeat' (first | (with_reducible exact QY.out) | (with_reducible exact Below.refl _ _) | (with_reducible refine Below.alloc ?_ ?_ _) | (with_reducible refine Below.setCell ?_ ?_ _) | (with_reducible refine Below.drew ?_) | (with_reducible refine below_drewN ?_ _) | omega | (dsimp only; omega) | (simp; done) | (simp; omega)))

set_option maxHeartbeats 2000000 in
theorem rsample_a0 (s : HS) (r N : Int) (w : World) (hV : HV s) (hR : NV r) (hN : min (s.sa + 1) 1073741824 = N) (h8 : N < 8) (hk : s.hn = false) :
    Calls Try.prog 10 #[.agg #[.int .i64 s.p, .bool s.hl, .bool s.hn, .int .i64 s.la, .int .i64 s.no, .int .i64 s.sa, .int .i64 s.ba, .int .i64 s.ro], .int .i64 r] w fun e w' => e = .returned (.tuple #[.agg #[.int .i64 s.p, .bool s.hl, .bool (true), .int .i64 s.la, .int .i64 (r), .int .i64 (N), .int .i64 s.ba, .int .i64 s.ro], .int .i64 0]) ∧ Below w.heap.size w w' := by
  have HV' := Lib.hid hV
  obtain ⟨⟨p0, p1⟩, ⟨a0, a1⟩, ⟨b0, b1⟩, ⟨c0, c1⟩, ⟨d0, d1⟩, e0, e1⟩ := hV
  have N0 : 0 ≤ N ∧ N ≤ 1073741824 := by omega
  have HR := Lib.hid hR
  obtain ⟨r0, r1⟩ := hR
  have q_0 := Below.refl w.heap.size w
  have H_hN := Lib.hid hN
  clear hN
  have H_hk := Lib.hid hk
  clear hk
  go_enter Try.func10, Try.ntmps10
  go_wp2_with fail
  have b : Below w.heap.size w ((w.alloc (.cells #[.int .i64 s.p, .bool s.hl, .bool s.hn, .int .i64 s.la, .int .i64 s.no, .int .i64 s.sa, .int .i64 s.ba, .int .i64 s.ro] 25)).alloc (.cells #[.int .i64 0, .bool false, .bool false, .int .i64 0, .int .i64 0, .int .i64 0, .int .i64 0, .int .i64 0] 25)) := (((Below.refl _ w).alloc (Nat.le_refl _) (.cells #[.int .i64 s.p, .bool s.hl, .bool s.hn, .int .i64 s.la, .int .i64 s.no, .int .i64 s.sa, .int .i64 s.ba, .int .i64 s.ro] 25)).alloc (by simp only [World.size_alloc]; omega) (.cells #[.int .i64 0, .bool false, .bool false, .int .i64 0, .int .i64 0, .int .i64 0, .int .i64 0, .int .i64 0] 25))
  have nb0 := blk_new w (.cells #[.int .i64 s.p, .bool s.hl, .bool s.hn, .int .i64 s.la, .int .i64 s.no, .int .i64 s.sa, .int .i64 s.ba, .int .i64 s.ro] 25)
  have nb0 := (Below.heap_alloc (w.alloc (.cells #[.int .i64 s.p, .bool s.hl, .bool s.hn, .int .i64 s.la, .int .i64 s.no, .int .i64 s.sa, .int .i64 s.ba, .int .i64 s.ro] 25)) (.cells #[.int .i64 0, .bool false, .bool false, .int .i64 0, .int .i64 0, .int .i64 0, .int .i64 0, .int .i64 0] 25) (w.heap.size) (by simp only [World.size_alloc]; omega)).trans nb0
  have nz0 : w.heap.size < ((w.alloc (.cells #[.int .i64 s.p, .bool s.hl, .bool s.hn, .int .i64 s.la, .int .i64 s.no, .int .i64 s.sa, .int .i64 s.ba, .int .i64 s.ro] 25)).alloc (.cells #[.int .i64 0, .bool false, .bool false, .int .i64 0, .int .i64 0, .int .i64 0, .int .i64 0, .int .i64 0] 25)).heap.size := by simp only [World.size_alloc]; omega
  have nb1 := blk_new (w.alloc (.cells #[.int .i64 s.p, .bool s.hl, .bool s.hn, .int .i64 s.la, .int .i64 s.no, .int .i64 s.sa, .int .i64 s.ba, .int .i64 s.ro] 25)) (.cells #[.int .i64 0, .bool false, .bool false, .int .i64 0, .int .i64 0, .int .i64 0, .int .i64 0, .int .i64 0] 25)
  simp only [World.size_alloc] at nb1
  have nz1 : w.heap.size + 1 < ((w.alloc (.cells #[.int .i64 s.p, .bool s.hl, .bool s.hn, .int .i64 s.la, .int .i64 s.no, .int .i64 s.sa, .int .i64 s.ba, .int .i64 s.ro] 25)).alloc (.cells #[.int .i64 0, .bool false, .bool false, .int .i64 0, .int .i64 0, .int .i64 0, .int .i64 0, .int .i64 0] 25)).heap.size := by simp only [World.size_alloc]; omega
  have q_1 := q_0.trans (b.mono q_0.size)
  clear q_0
  clear b
  have S_1 := Lib.hid nb0
  have Sz_1 := nz0
  clear nb0 nz0
  have Sc0_1 := blk_cell S_1.out 0
  have Sc1_1 := blk_cell S_1.out 1
  have Sc2_1 := blk_cell S_1.out 2
  have Sc3_1 := blk_cell S_1.out 3
  have Sc4_1 := blk_cell S_1.out 4
  have Sc5_1 := blk_cell S_1.out 5
  have Sc6_1 := blk_cell S_1.out 6
  have Sc7_1 := blk_cell S_1.out 7
  have R_1 := Lib.hid nb1
  have Rz_1 := nz1
  clear nb1 nz1
  have Rc0_1 := blk_cell R_1.out 0
  have Rc1_1 := blk_cell R_1.out 1
  have Rc2_1 := blk_cell R_1.out 2
  have Rc3_1 := blk_cell R_1.out 3
  have Rc4_1 := blk_cell R_1.out 4
  have Rc5_1 := blk_cell R_1.out 5
  have Rc6_1 := blk_cell R_1.out 6
  have Rc7_1 := blk_cell R_1.out 7
  generalize ((w.alloc (.cells #[.int .i64 s.p, .bool s.hl, .bool s.hn, .int .i64 s.la, .int .i64 s.no, .int .i64 s.sa, .int .i64 s.ba, .int .i64 s.ro] 25)).alloc (.cells #[.int .i64 0, .bool false, .bool false, .int .i64 0, .int .i64 0, .int .i64 0, .int .i64 0, .int .i64 0] 25)) = V1 at q_1 S_1 Sz_1 Sc0_1 Sc1_1 Sc2_1 Sc3_1 Sc4_1 Sc5_1 Sc6_1 Sc7_1 R_1 Rz_1 Rc0_1 Rc1_1 Rc2_1 Rc3_1 Rc4_1 Rc5_1 Rc6_1 Rc7_1 ⊢
  refine (rcheck_yes s _ HV'.out).mono ?_
  rintro e V2 ⟨rfl, b⟩
  have S_2 := Lib.hid ((b.block _ Sz_1).trans S_1.out)
  have Sz_2 := Nat.lt_of_lt_of_le Sz_1 b.size
  have Sc0_2 := blk_cell S_2.out 0
  have Sc1_2 := blk_cell S_2.out 1
  have Sc2_2 := blk_cell S_2.out 2
  have Sc3_2 := blk_cell S_2.out 3
  have Sc4_2 := blk_cell S_2.out 4
  have Sc5_2 := blk_cell S_2.out 5
  have Sc6_2 := blk_cell S_2.out 6
  have Sc7_2 := blk_cell S_2.out 7
  have R_2 := Lib.hid ((b.block _ Rz_1).trans R_1.out)
  have Rz_2 := Nat.lt_of_lt_of_le Rz_1 b.size
  have Rc0_2 := blk_cell R_2.out 0
  have Rc1_2 := blk_cell R_2.out 1
  have Rc2_2 := blk_cell R_2.out 2
  have Rc3_2 := blk_cell R_2.out 3
  have Rc4_2 := blk_cell R_2.out 4
  have Rc5_2 := blk_cell R_2.out 5
  have Rc6_2 := blk_cell R_2.out 6
  have Rc7_2 := blk_cell R_2.out 7
  have q_2 := q_1.trans (b.mono q_1.size)
  clear S_1 Sz_1 Sc0_1 Sc1_1 Sc2_1 Sc3_1 Sc4_1 Sc5_1 Sc6_1 Sc7_1 R_1 Rz_1 Rc0_1 Rc1_1 Rc2_1 Rc3_1 Rc4_1 Rc5_1 Rc6_1 Rc7_1 q_1
  clear b
  have hN := H_hN.out
  have hk := H_hk.out
  go_wp2_with fail
  refine (wit_yes r _ HR.out).mono ?_
  rintro e w' ⟨rfl, rfl⟩
  have rf0 := blk_free R_2.out 0
  have sf0 := blk_free S_2.out 0
  have rf1 := blk_free R_2.out 1
  have sf1 := blk_free S_2.out 1
  have rf2 := blk_free R_2.out 2
  have sf2 := blk_free S_2.out 2
  have rf3 := blk_free R_2.out 3
  have sf3 := blk_free S_2.out 3
  have rf4 := blk_free R_2.out 4
  have sf4 := blk_free S_2.out 4
  have rf5 := blk_free R_2.out 5
  have sf5 := blk_free S_2.out 5
  have rf6 := blk_free R_2.out 6
  have sf6 := blk_free S_2.out 6
  have rf7 := blk_free R_2.out 7
  have sf7 := blk_free S_2.out 7

  have QY := Lib.hid q_2
  clear R_2 S_2
  go_wp2
  refine bodyPost_ret (v := .tuple #[.agg #[.int .i64 s.p, .bool s.hl, .bool (true), .int .i64 s.la, .int .i64 (r), .int .i64 (N), .int .i64 s.ba, .int .i64 s.ro], .int .i64 0]) (by simp [results, Try.results10, go_sem, *]) rfl ⟨rfl, ?_⟩
  (repeat' (first | (with_reducible exact QY.out) | (with_reducible exact Below.refl _ _) | (with_reducible refine Below.alloc ?_ ?_ _) | (with_reducible refine Below.setCell ?_ ?_ _) | (with_reducible refine Below.drew ?_) | (with_reducible refine below_drewN ?_ _) | omega | (dsimp only; omega) | (simp; done) | (simp; omega)))

set_option maxHeartbeats 2000000 in
theorem rsample_au (s : HS) (r N : Int) (w : World) (hV : HV s) (hR : NV r) (hN : min (s.sa + 1) 1073741824 = N) (h8 : 8 ≤ N) (hk : s.hn = false) (j0 : s.p = 0) (j1 : s.hl = true) (j2 : s.la + max 4 (min 16 (s.la / 8)) ≤ r) :
    Calls Try.prog 10 #[.agg #[.int .i64 s.p, .bool s.hl, .bool s.hn, .int .i64 s.la, .int .i64 s.no, .int .i64 s.sa, .int .i64 s.ba, .int .i64 s.ro], .int .i64 r] w fun e w' => e = .returned (.tuple #[.agg #[.int .i64 (1), .bool s.hl, .bool (true), .int .i64 s.la, .int .i64 (r), .int .i64 (N), .int .i64 (r), .int .i64 (0)], .int .i64 0]) ∧ Below w.heap.size w w' := by
  have HV' := Lib.hid hV
  obtain ⟨⟨p0, p1⟩, ⟨a0, a1⟩, ⟨b0, b1⟩, ⟨c0, c1⟩, ⟨d0, d1⟩, e0, e1⟩ := hV
  have N0 : 0 ≤ N ∧ N ≤ 1073741824 := by omega
  have HR := Lib.hid hR
  obtain ⟨r0, r1⟩ := hR
  have q_0 := Below.refl w.heap.size w
  have H_hN := Lib.hid hN
  clear hN
  have H_hk := Lib.hid hk
  clear hk
  have H_j0 := Lib.hid j0
  clear j0
  have H_j1 := Lib.hid j1
  clear j1
  go_enter Try.func10, Try.ntmps10
  go_wp2_with fail
  have b : Below w.heap.size w ((w.alloc (.cells #[.int .i64 s.p, .bool s.hl, .bool s.hn, .int .i64 s.la, .int .i64 s.no, .int .i64 s.sa, .int .i64 s.ba, .int .i64 s.ro] 25)).alloc (.cells #[.int .i64 0, .bool false, .bool false, .int .i64 0, .int .i64 0, .int .i64 0, .int .i64 0, .int .i64 0] 25)) := (((Below.refl _ w).alloc (Nat.le_refl _) (.cells #[.int .i64 s.p, .bool s.hl, .bool s.hn, .int .i64 s.la, .int .i64 s.no, .int .i64 s.sa, .int .i64 s.ba, .int .i64 s.ro] 25)).alloc (by simp only [World.size_alloc]; omega) (.cells #[.int .i64 0, .bool false, .bool false, .int .i64 0, .int .i64 0, .int .i64 0, .int .i64 0, .int .i64 0] 25))
  have nb0 := blk_new w (.cells #[.int .i64 s.p, .bool s.hl, .bool s.hn, .int .i64 s.la, .int .i64 s.no, .int .i64 s.sa, .int .i64 s.ba, .int .i64 s.ro] 25)
  have nb0 := (Below.heap_alloc (w.alloc (.cells #[.int .i64 s.p, .bool s.hl, .bool s.hn, .int .i64 s.la, .int .i64 s.no, .int .i64 s.sa, .int .i64 s.ba, .int .i64 s.ro] 25)) (.cells #[.int .i64 0, .bool false, .bool false, .int .i64 0, .int .i64 0, .int .i64 0, .int .i64 0, .int .i64 0] 25) (w.heap.size) (by simp only [World.size_alloc]; omega)).trans nb0
  have nz0 : w.heap.size < ((w.alloc (.cells #[.int .i64 s.p, .bool s.hl, .bool s.hn, .int .i64 s.la, .int .i64 s.no, .int .i64 s.sa, .int .i64 s.ba, .int .i64 s.ro] 25)).alloc (.cells #[.int .i64 0, .bool false, .bool false, .int .i64 0, .int .i64 0, .int .i64 0, .int .i64 0, .int .i64 0] 25)).heap.size := by simp only [World.size_alloc]; omega
  have nb1 := blk_new (w.alloc (.cells #[.int .i64 s.p, .bool s.hl, .bool s.hn, .int .i64 s.la, .int .i64 s.no, .int .i64 s.sa, .int .i64 s.ba, .int .i64 s.ro] 25)) (.cells #[.int .i64 0, .bool false, .bool false, .int .i64 0, .int .i64 0, .int .i64 0, .int .i64 0, .int .i64 0] 25)
  simp only [World.size_alloc] at nb1
  have nz1 : w.heap.size + 1 < ((w.alloc (.cells #[.int .i64 s.p, .bool s.hl, .bool s.hn, .int .i64 s.la, .int .i64 s.no, .int .i64 s.sa, .int .i64 s.ba, .int .i64 s.ro] 25)).alloc (.cells #[.int .i64 0, .bool false, .bool false, .int .i64 0, .int .i64 0, .int .i64 0, .int .i64 0, .int .i64 0] 25)).heap.size := by simp only [World.size_alloc]; omega
  have q_1 := q_0.trans (b.mono q_0.size)
  clear q_0
  clear b
  have S_1 := Lib.hid nb0
  have Sz_1 := nz0
  clear nb0 nz0
  have Sc0_1 := blk_cell S_1.out 0
  have Sc1_1 := blk_cell S_1.out 1
  have Sc2_1 := blk_cell S_1.out 2
  have Sc3_1 := blk_cell S_1.out 3
  have Sc4_1 := blk_cell S_1.out 4
  have Sc5_1 := blk_cell S_1.out 5
  have Sc6_1 := blk_cell S_1.out 6
  have Sc7_1 := blk_cell S_1.out 7
  have R_1 := Lib.hid nb1
  have Rz_1 := nz1
  clear nb1 nz1
  have Rc0_1 := blk_cell R_1.out 0
  have Rc1_1 := blk_cell R_1.out 1
  have Rc2_1 := blk_cell R_1.out 2
  have Rc3_1 := blk_cell R_1.out 3
  have Rc4_1 := blk_cell R_1.out 4
  have Rc5_1 := blk_cell R_1.out 5
  have Rc6_1 := blk_cell R_1.out 6
  have Rc7_1 := blk_cell R_1.out 7
  generalize ((w.alloc (.cells #[.int .i64 s.p, .bool s.hl, .bool s.hn, .int .i64 s.la, .int .i64 s.no, .int .i64 s.sa, .int .i64 s.ba, .int .i64 s.ro] 25)).alloc (.cells #[.int .i64 0, .bool false, .bool false, .int .i64 0, .int .i64 0, .int .i64 0, .int .i64 0, .int .i64 0] 25)) = V1 at q_1 S_1 Sz_1 Sc0_1 Sc1_1 Sc2_1 Sc3_1 Sc4_1 Sc5_1 Sc6_1 Sc7_1 R_1 Rz_1 Rc0_1 Rc1_1 Rc2_1 Rc3_1 Rc4_1 Rc5_1 Rc6_1 Rc7_1 ⊢
  refine (rcheck_yes s _ HV'.out).mono ?_
  rintro e V2 ⟨rfl, b⟩
  have S_2 := Lib.hid ((b.block _ Sz_1).trans S_1.out)
  have Sz_2 := Nat.lt_of_lt_of_le Sz_1 b.size
  have Sc0_2 := blk_cell S_2.out 0
  have Sc1_2 := blk_cell S_2.out 1
  have Sc2_2 := blk_cell S_2.out 2
  have Sc3_2 := blk_cell S_2.out 3
  have Sc4_2 := blk_cell S_2.out 4
  have Sc5_2 := blk_cell S_2.out 5
  have Sc6_2 := blk_cell S_2.out 6
  have Sc7_2 := blk_cell S_2.out 7
  have R_2 := Lib.hid ((b.block _ Rz_1).trans R_1.out)
  have Rz_2 := Nat.lt_of_lt_of_le Rz_1 b.size
  have Rc0_2 := blk_cell R_2.out 0
  have Rc1_2 := blk_cell R_2.out 1
  have Rc2_2 := blk_cell R_2.out 2
  have Rc3_2 := blk_cell R_2.out 3
  have Rc4_2 := blk_cell R_2.out 4
  have Rc5_2 := blk_cell R_2.out 5
  have Rc6_2 := blk_cell R_2.out 6
  have Rc7_2 := blk_cell R_2.out 7
  have q_2 := q_1.trans (b.mono q_1.size)
  clear S_1 Sz_1 Sc0_1 Sc1_1 Sc2_1 Sc3_1 Sc4_1 Sc5_1 Sc6_1 Sc7_1 R_1 Rz_1 Rc0_1 Rc1_1 Rc2_1 Rc3_1 Rc4_1 Rc5_1 Rc6_1 Rc7_1 q_1
  clear b
  have hN := H_hN.out
  have hk := H_hk.out
  have j0 := H_j0.out
  have j1 := H_j1.out
  go_wp2_with fail
  refine (wit_yes r _ HR.out).mono ?_
  rintro e w' ⟨rfl, rfl⟩
  have rf0 := blk_free R_2.out 0
  have sf0 := blk_free S_2.out 0
  have rf1 := blk_free R_2.out 1
  have sf1 := blk_free S_2.out 1
  have rf2 := blk_free R_2.out 2
  have sf2 := blk_free S_2.out 2
  have rf3 := blk_free R_2.out 3
  have sf3 := blk_free S_2.out 3
  have rf4 := blk_free R_2.out 4
  have sf4 := blk_free S_2.out 4
  have rf5 := blk_free R_2.out 5
  have sf5 := blk_free S_2.out 5
  have rf6 := blk_free R_2.out 6
  have sf6 := blk_free S_2.out 6
  have rf7 := blk_free R_2.out 7
  have sf7 := blk_free S_2.out 7

  have QY := Lib.hid q_2
  clear R_2 S_2
  go_wp2
  refine bodyPost_ret (v := .tuple #[.agg #[.int .i64 (1), .bool s.hl, .bool (true), .int .i64 s.la, .int .i64 (r), .int .i64 (N), .int .i64 (r), .int .i64 (0)], .int .i64 0]) (by simp [results, Try.results10, go_sem, *]) rfl ⟨rfl, ?_⟩
  (repeat' (first | (with_reducible exact QY.out) | (with_reducible exact Below.refl _ _) | (with_reducible refine Below.alloc ?_ ?_ _) | (with_reducible refine Below.setCell ?_ ?_ _) | (with_reducible refine Below.drew ?_) | (with_reducible refine below_drewN ?_ _) | omega | (dsimp only; omega) | (simp; done) | (simp; omega)))

set_option maxHeartbeats 2000000 in
theorem rsample_ad (s : HS) (r N : Int) (w : World) (hV : HV s) (hR : NV r) (hN : min (s.sa + 1) 1073741824 = N) (h8 : 8 ≤ N) (hk : s.hn = false) (j0 : s.p = 1) (j1 : r < s.ba) :
    Calls Try.prog 10 #[.agg #[.int .i64 s.p, .bool s.hl, .bool s.hn, .int .i64 s.la, .int .i64 s.no, .int .i64 s.sa, .int .i64 s.ba, .int .i64 s.ro], .int .i64 r] w fun e w' => e = .returned (.tuple #[.agg #[.int .i64 (0), .bool s.hl, .bool (true), .int .i64 s.la, .int .i64 (r), .int .i64 (N), .int .i64 s.ba, .int .i64 s.ro], .int .i64 0]) ∧ Below w.heap.size w w' := by
  have HV' := Lib.hid hV
  obtain ⟨⟨p0, p1⟩, ⟨a0, a1⟩, ⟨b0, b1⟩, ⟨c0, c1⟩, ⟨d0, d1⟩, e0, e1⟩ := hV
  have N0 : 0 ≤ N ∧ N ≤ 1073741824 := by omega
  have HR := Lib.hid hR
  obtain ⟨r0, r1⟩ := hR
  have q_0 := Below.refl w.heap.size w
  have H_hN := Lib.hid hN
  clear hN
  have H_hk := Lib.hid hk
  clear hk
  have H_j0 := Lib.hid j0
  clear j0
  go_enter Try.func10, Try.ntmps10
  go_wp2_with fail
  have b : Below w.heap.size w ((w.alloc (.cells #[.int .i64 s.p, .bool s.hl, .bool s.hn, .int .i64 s.la, .int .i64 s.no, .int .i64 s.sa, .int .i64 s.ba, .int .i64 s.ro] 25)).alloc (.cells #[.int .i64 0, .bool false, .bool false, .int .i64 0, .int .i64 0, .int .i64 0, .int .i64 0, .int .i64 0] 25)) := (((Below.refl _ w).alloc (Nat.le_refl _) (.cells #[.int .i64 s.p, .bool s.hl, .bool s.hn, .int .i64 s.la, .int .i64 s.no, .int .i64 s.sa, .int .i64 s.ba, .int .i64 s.ro] 25)).alloc (by simp only [World.size_alloc]; omega) (.cells #[.int .i64 0, .bool false, .bool false, .int .i64 0, .int .i64 0, .int .i64 0, .int .i64 0, .int .i64 0] 25))
  have nb0 := blk_new w (.cells #[.int .i64 s.p, .bool s.hl, .bool s.hn, .int .i64 s.la, .int .i64 s.no, .int .i64 s.sa, .int .i64 s.ba, .int .i64 s.ro] 25)
  have nb0 := (Below.heap_alloc (w.alloc (.cells #[.int .i64 s.p, .bool s.hl, .bool s.hn, .int .i64 s.la, .int .i64 s.no, .int .i64 s.sa, .int .i64 s.ba, .int .i64 s.ro] 25)) (.cells #[.int .i64 0, .bool false, .bool false, .int .i64 0, .int .i64 0, .int .i64 0, .int .i64 0, .int .i64 0] 25) (w.heap.size) (by simp only [World.size_alloc]; omega)).trans nb0
  have nz0 : w.heap.size < ((w.alloc (.cells #[.int .i64 s.p, .bool s.hl, .bool s.hn, .int .i64 s.la, .int .i64 s.no, .int .i64 s.sa, .int .i64 s.ba, .int .i64 s.ro] 25)).alloc (.cells #[.int .i64 0, .bool false, .bool false, .int .i64 0, .int .i64 0, .int .i64 0, .int .i64 0, .int .i64 0] 25)).heap.size := by simp only [World.size_alloc]; omega
  have nb1 := blk_new (w.alloc (.cells #[.int .i64 s.p, .bool s.hl, .bool s.hn, .int .i64 s.la, .int .i64 s.no, .int .i64 s.sa, .int .i64 s.ba, .int .i64 s.ro] 25)) (.cells #[.int .i64 0, .bool false, .bool false, .int .i64 0, .int .i64 0, .int .i64 0, .int .i64 0, .int .i64 0] 25)
  simp only [World.size_alloc] at nb1
  have nz1 : w.heap.size + 1 < ((w.alloc (.cells #[.int .i64 s.p, .bool s.hl, .bool s.hn, .int .i64 s.la, .int .i64 s.no, .int .i64 s.sa, .int .i64 s.ba, .int .i64 s.ro] 25)).alloc (.cells #[.int .i64 0, .bool false, .bool false, .int .i64 0, .int .i64 0, .int .i64 0, .int .i64 0, .int .i64 0] 25)).heap.size := by simp only [World.size_alloc]; omega
  have q_1 := q_0.trans (b.mono q_0.size)
  clear q_0
  clear b
  have S_1 := Lib.hid nb0
  have Sz_1 := nz0
  clear nb0 nz0
  have Sc0_1 := blk_cell S_1.out 0
  have Sc1_1 := blk_cell S_1.out 1
  have Sc2_1 := blk_cell S_1.out 2
  have Sc3_1 := blk_cell S_1.out 3
  have Sc4_1 := blk_cell S_1.out 4
  have Sc5_1 := blk_cell S_1.out 5
  have Sc6_1 := blk_cell S_1.out 6
  have Sc7_1 := blk_cell S_1.out 7
  have R_1 := Lib.hid nb1
  have Rz_1 := nz1
  clear nb1 nz1
  have Rc0_1 := blk_cell R_1.out 0
  have Rc1_1 := blk_cell R_1.out 1
  have Rc2_1 := blk_cell R_1.out 2
  have Rc3_1 := blk_cell R_1.out 3
  have Rc4_1 := blk_cell R_1.out 4
  have Rc5_1 := blk_cell R_1.out 5
  have Rc6_1 := blk_cell R_1.out 6
  have Rc7_1 := blk_cell R_1.out 7
  generalize ((w.alloc (.cells #[.int .i64 s.p, .bool s.hl, .bool s.hn, .int .i64 s.la, .int .i64 s.no, .int .i64 s.sa, .int .i64 s.ba, .int .i64 s.ro] 25)).alloc (.cells #[.int .i64 0, .bool false, .bool false, .int .i64 0, .int .i64 0, .int .i64 0, .int .i64 0, .int .i64 0] 25)) = V1 at q_1 S_1 Sz_1 Sc0_1 Sc1_1 Sc2_1 Sc3_1 Sc4_1 Sc5_1 Sc6_1 Sc7_1 R_1 Rz_1 Rc0_1 Rc1_1 Rc2_1 Rc3_1 Rc4_1 Rc5_1 Rc6_1 Rc7_1 ⊢
  refine (rcheck_yes s _ HV'.out).mono ?_
  rintro e V2 ⟨rfl, b⟩
  have S_2 := Lib.hid ((b.block _ Sz_1).trans S_1.out)
  have Sz_2 := Nat.lt_of_lt_of_le Sz_1 b.size
  have Sc0_2 := blk_cell S_2.out 0
  have Sc1_2 := blk_cell S_2.out 1
  have Sc2_2 := blk_cell S_2.out 2
  have Sc3_2 := blk_cell S_2.out 3
  have Sc4_2 := blk_cell S_2.out 4
  have Sc5_2 := blk_cell S_2.out 5
  have Sc6_2 := blk_cell S_2.out 6
  have Sc7_2 := blk_cell S_2.out 7
  have R_2 := Lib.hid ((b.block _ Rz_1).trans R_1.out)
  have Rz_2 := Nat.lt_of_lt_of_le Rz_1 b.size
  have Rc0_2 := blk_cell R_2.out 0
  have Rc1_2 := blk_cell R_2.out 1
  have Rc2_2 := blk_cell R_2.out 2
  have Rc3_2 := blk_cell R_2.out 3
  have Rc4_2 := blk_cell R_2.out 4
  have Rc5_2 := blk_cell R_2.out 5
  have Rc6_2 := blk_cell R_2.out 6
  have Rc7_2 := blk_cell R_2.out 7
  have q_2 := q_1.trans (b.mono q_1.size)
  clear S_1 Sz_1 Sc0_1 Sc1_1 Sc2_1 Sc3_1 Sc4_1 Sc5_1 Sc6_1 Sc7_1 R_1 Rz_1 Rc0_1 Rc1_1 Rc2_1 Rc3_1 Rc4_1 Rc5_1 Rc6_1 Rc7_1 q_1
  clear b
  have hN := H_hN.out
  have hk := H_hk.out
  have j0 := H_j0.out
  go_wp2_with fail
  refine (wit_yes r _ HR.out).mono ?_
  rintro e w' ⟨rfl, rfl⟩
  have rf0 := blk_free R_2.out 0
  have sf0 := blk_free S_2.out 0
  have rf1 := blk_free R_2.out 1
  have sf1 := blk_free S_2.out 1
  have rf2 := blk_free R_2.out 2
  have sf2 := blk_free S_2.out 2
  have rf3 := blk_free R_2.out 3
  have sf3 := blk_free S_2.out 3
  have rf4 := blk_free R_2.out 4
  have sf4 := blk_free S_2.out 4
  have rf5 := blk_free R_2.out 5
  have sf5 := blk_free S_2.out 5
  have rf6 := blk_free R_2.out 6
  have sf6 := blk_free S_2.out 6
  have rf7 := blk_free R_2.out 7
  have sf7 := blk_free S_2.out 7

  have QY := Lib.hid q_2
  clear R_2 S_2
  go_wp2
  refine bodyPost_ret (v := .tuple #[.agg #[.int .i64 (0), .bool s.hl, .bool (true), .int .i64 s.la, .int .i64 (r), .int .i64 (N), .int .i64 s.ba, .int .i64 s.ro], .int .i64 0]) (by simp [results, Try.results10, go_sem, *]) rfl ⟨rfl, ?_⟩
  (repeat' (first | (with_reducible exact QY.out) | (with_reducible exact Below.refl _ _) | (with_reducible refine Below.alloc ?_ ?_ _) | (with_reducible refine Below.setCell ?_ ?_ _) | (with_reducible refine Below.drew ?_) | (with_reducible refine below_drewN ?_ _) | omega | (dsimp only; omega) | (simp; done) | (simp; omega)))

set_option maxHeartbeats 2000000 in
theorem rsample_an1 (s : HS) (r N : Int) (w : World) (hV : HV s) (hR : NV r) (hN : min (s.sa + 1) 1073741824 = N) (h8 : 8 ≤ N) (hk : s.hn = false) (j0 : s.p = 1) (j1 : s.ba ≤ r) :
    Calls Try.prog 10 #[.agg #[.int .i64 s.p, .bool s.hl, .bool s.hn, .int .i64 s.la, .int .i64 s.no, .int .i64 s.sa, .int .i64 s.ba, .int .i64 s.ro], .int .i64 r] w fun e w' => e = .returned (.tuple #[.agg #[.int .i64 s.p, .bool s.hl, .bool (true), .int .i64 s.la, .int .i64 (r), .int .i64 (N), .int .i64 s.ba, .int .i64 s.ro], .int .i64 0]) ∧ Below w.heap.size w w' := by
  have HV' := Lib.hid hV
  obtain ⟨⟨p0, p1⟩, ⟨a0, a1⟩, ⟨b0, b1⟩, ⟨c0, c1⟩, ⟨d0, d1⟩, e0, e1⟩ := hV
  have N0 : 0 ≤ N ∧ N ≤ 1073741824 := by omega
  have HR := Lib.hid hR
  obtain ⟨r0, r1⟩ := hR
  have q_0 := Below.refl w.heap.size w
  have H_hN := Lib.hid hN
  clear hN
  have H_hk := Lib.hid hk
  clear hk
  have H_j0 := Lib.hid j0
  clear j0
  go_enter Try.func10, Try.ntmps10
  go_wp2_with fail
  have b : Below w.heap.size w ((w.alloc (.cells #[.int .i64 s.p, .bool s.hl, .bool s.hn, .int .i64 s.la, .int .i64 s.no, .int .i64 s.sa, .int .i64 s.ba, .int .i64 s.ro] 25)).alloc (.cells #[.int .i64 0, .bool false, .bool false, .int .i64 0, .int .i64 0, .int .i64 0, .int .i64 0, .int .i64 0] 25)) := (((Below.refl _ w).alloc (Nat.le_refl _) (.cells #[.int .i64 s.p, .bool s.hl, .bool s.hn, .int .i64 s.la, .int .i64 s.no, .int .i64 s.sa, .int .i64 s.ba, .int .i64 s.ro] 25)).alloc (by simp only [World.size_alloc]; omega) (.cells #[.int .i64 0, .bool false, .bool false, .int .i64 0, .int .i64 0, .int .i64 0, .int .i64 0, .int .i64 0] 25))
  have nb0 := blk_new w (.cells #[.int .i64 s.p, .bool s.hl, .bool s.hn, .int .i64 s.la, .int .i64 s.no, .int .i64 s.sa, .int .i64 s.ba, .int .i64 s.ro] 25)
  have nb0 := (Below.heap_alloc (w.alloc (.cells #[.int .i64 s.p, .bool s.hl, .bool s.hn, .int .i64 s.la, .int .i64 s.no, .int .i64 s.sa, .int .i64 s.ba, .int .i64 s.ro] 25)) (.cells #[.int .i64 0, .bool false, .bool false, .int .i64 0, .int .i64 0, .int .i64 0, .int .i64 0, .int .i64 0] 25) (w.heap.size) (by simp only [World.size_alloc]; omega)).trans nb0
  have nz0 : w.heap.size < ((w.alloc (.cells #[.int .i64 s.p, .bool s.hl, .bool s.hn, .int .i64 s.la, .int .i64 s.no, .int .i64 s.sa, .int .i64 s.ba, .int .i64 s.ro] 25)).alloc (.cells #[.int .i64 0, .bool false, .bool false, .int .i64 0, .int .i64 0, .int .i64 0, .int .i64 0, .int .i64 0] 25)).heap.size := by simp only [World.size_alloc]; omega
  have nb1 := blk_new (w.alloc (.cells #[.int .i64 s.p, .bool s.hl, .bool s.hn, .int .i64 s.la, .int .i64 s.no, .int .i64 s.sa, .int .i64 s.ba, .int .i64 s.ro] 25)) (.cells #[.int .i64 0, .bool false, .bool false, .int .i64 0, .int .i64 0, .int .i64 0, .int .i64 0, .int .i64 0] 25)
  simp only [World.size_alloc] at nb1
  have nz1 : w.heap.size + 1 < ((w.alloc (.cells #[.int .i64 s.p, .bool s.hl, .bool s.hn, .int .i64 s.la, .int .i64 s.no, .int .i64 s.sa, .int .i64 s.ba, .int .i64 s.ro] 25)).alloc (.cells #[.int .i64 0, .bool false, .bool false, .int .i64 0, .int .i64 0, .int .i64 0, .int .i64 0, .int .i64 0] 25)).heap.size := by simp only [World.size_alloc]; omega
  have q_1 := q_0.trans (b.mono q_0.size)
  clear q_0
  clear b
  have S_1 := Lib.hid nb0
  have Sz_1 := nz0
  clear nb0 nz0
  have Sc0_1 := blk_cell S_1.out 0
  have Sc1_1 := blk_cell S_1.out 1
  have Sc2_1 := blk_cell S_1.out 2
  have Sc3_1 := blk_cell S_1.out 3
  have Sc4_1 := blk_cell S_1.out 4
  have Sc5_1 := blk_cell S_1.out 5
  have Sc6_1 := blk_cell S_1.out 6
  have Sc7_1 := blk_cell S_1.out 7
  have R_1 := Lib.hid nb1
  have Rz_1 := nz1
  clear nb1 nz1
  have Rc0_1 := blk_cell R_1.out 0
  have Rc1_1 := blk_cell R_1.out 1
  have Rc2_1 := blk_cell R_1.out 2
  have Rc3_1 := blk_cell R_1.out 3
  have Rc4_1 := blk_cell R_1.out 4
  have Rc5_1 := blk_cell R_1.out 5
  have Rc6_1 := blk_cell R_1.out 6
  have Rc7_1 := blk_cell R_1.out 7
  generalize ((w.alloc (.cells #[.int .i64 s.p, .bool s.hl, .bool s.hn, .int .i64 s.la, .int .i64 s.no, .int .i64 s.sa, .int .i64 s.ba, .int .i64 s.ro] 25)).alloc (.cells #[.int .i64 0, .bool false, .bool false, .int .i64 0, .int .i64 0, .int .i64 0, .int .i64 0, .int .i64 0] 25)) = V1 at q_1 S_1 Sz_1 Sc0_1 Sc1_1 Sc2_1 Sc3_1 Sc4_1 Sc5_1 Sc6_1 Sc7_1 R_1 Rz_1 Rc0_1 Rc1_1 Rc2_1 Rc3_1 Rc4_1 Rc5_1 Rc6_1 Rc7_1 ⊢
  refine (rcheck_yes s _ HV'.out).mono ?_
  rintro e V2 ⟨rfl, b⟩
  have S_2 := Lib.hid ((b.block _ Sz_1).trans S_1.out)
  have Sz_2 := Nat.lt_of_lt_of_le Sz_1 b.size
  have Sc0_2 := blk_cell S_2.out 0
  have Sc1_2 := blk_cell S_2.out 1
  have Sc2_2 := blk_cell S_2.out 2
  have Sc3_2 := blk_cell S_2.out 3
  have Sc4_2 := blk_cell S_2.out 4
  have Sc5_2 := blk_cell S_2.out 5
  have Sc6_2 := blk_cell S_2.out 6
  have Sc7_2 := blk_cell S_2.out 7
  have R_2 := Lib.hid ((b.block _ Rz_1).trans R_1.out)
  have Rz_2 := Nat.lt_of_lt_of_le Rz_1 b.size
  have Rc0_2 := blk_cell R_2.out 0
  have Rc1_2 := blk_cell R_2.out 1
  have Rc2_2 := blk_cell R_2.out 2
  have Rc3_2 := blk_cell R_2.out 3
  have Rc4_2 := blk_cell R_2.out 4
  have Rc5_2 := blk_cell R_2.out 5
  have Rc6_2 := blk_cell R_2.out 6
  have Rc7_2 := blk_cell R_2.out 7
  have q_2 := q_1.trans (b.mono q_1.size)
  clear S_1 Sz_1 Sc0_1 Sc1_1 Sc2_1 Sc3_1 Sc4_1 Sc5_1 Sc6_1 Sc7_1 R_1 Rz_1 Rc0_1 Rc1_1 Rc2_1 Rc3_1 Rc4_1 Rc5_1 Rc6_1 Rc7_1 q_1
  clear b
  have hN := H_hN.out
  have hk := H_hk.out
  have j0 := H_j0.out
  go_wp2_with fail
  refine (wit_yes r _ HR.out).mono ?_
  rintro e w' ⟨rfl, rfl⟩
  have rf0 := blk_free R_2.out 0
  have sf0 := blk_free S_2.out 0
  have rf1 := blk_free R_2.out 1
  have sf1 := blk_free S_2.out 1
  have rf2 := blk_free R_2.out 2
  have sf2 := blk_free S_2.out 2
  have rf3 := blk_free R_2.out 3
  have sf3 := blk_free S_2.out 3
  have rf4 := blk_free R_2.out 4
  have sf4 := blk_free S_2.out 4
  have rf5 := blk_free R_2.out 5
  have sf5 := blk_free S_2.out 5
  have rf6 := blk_free R_2.out 6
  have sf6 := blk_free S_2.out 6
  have rf7 := blk_free R_2.out 7
  have sf7 := blk_free S_2.out 7

  have QY := Lib.hid q_2
  clear R_2 S_2
  go_wp2
  refine bodyPost_ret (v := .tuple #[.agg #[.int .i64 s.p, .bool s.hl, .bool (true), .int .i64 s.la, .int .i64 (r), .int .i64 (N), .int .i64 s.ba, .int .i64 s.ro], .int .i64 0]) (by simp [results, Try.results10, go_sem, *]) rfl ⟨rfl, ?_⟩
  (repeat' (first | (with_reducible exact QY.out) | (with_reducible exact Below.refl _ _) | (with_reducible refine Below.alloc ?_ ?_ _) | (with_reducible refine Below.setCell ?_ ?_ _) | (with_reducible refine Below.drew ?_) | (with_reducible refine below_drewN ?_ _) | omega | (dsimp only; omega) | (simp; done) | (simp; omega)))

set_option maxHeartbeats 2000000 in
theorem rsample_an2 (s : HS) (r N : Int) (w : World) (hV : HV s) (hR : NV r) (hN : min (s.sa + 1) 1073741824 = N) (h8 : 8 ≤ N) (hk : s.hn = false) (j0 : s.p = 2) :
    Calls Try.prog 10 #[.agg #[.int .i64 s.p, .bool s.hl, .bool s.hn, .int .i64 s.la, .int .i64 s.no, .int .i64 s.sa, .int .i64 s.ba, .int .i64 s.ro], .int .i64 r] w fun e w' => e = .returned (.tuple #[.agg #[.int .i64 s.p, .bool s.hl, .bool (true), .int .i64 s.la, .int .i64 (r), .int .i64 (N), .int .i64 s.ba, .int .i64 s.ro], .int .i64 0]) ∧ Below w.heap.size w w' := by
  have HV' := Lib.hid hV
  obtain ⟨⟨p0, p1⟩, ⟨a0, a1⟩, ⟨b0, b1⟩, ⟨c0, c1⟩, ⟨d0, d1⟩, e0, e1⟩ := hV
  have N0 : 0 ≤ N ∧ N ≤ 1073741824 := by omega
  have HR := Lib.hid hR
  obtain ⟨r0, r1⟩ := hR
  have q_0 := Below.refl w.heap.size w
  have H_hN := Lib.hid hN
  clear hN
  have H_hk := Lib.hid hk
  clear hk
  have H_j0 := Lib.hid j0
  clear j0
  go_enter Try.func10, Try.ntmps10
  go_wp2_with fail
  have b : Below w.heap.size w ((w.alloc (.cells #[.int .i64 s.p, .bool s.hl, .bool s.hn, .int .i64 s.la, .int .i64 s.no, .int .i64 s.sa, .int .i64 s.ba, .int .i64 s.ro] 25)).alloc (.cells #[.int .i64 0, .bool false, .bool false, .int .i64 0, .int .i64 0, .int .i64 0, .int .i64 0, .int .i64 0] 25)) := (((Below.refl _ w).alloc (Nat.le_refl _) (.cells #[.int .i64 s.p, .bool s.hl, .bool s.hn, .int .i64 s.la, .int .i64 s.no, .int .i64 s.sa, .int .i64 s.ba, .int .i64 s.ro] 25)).alloc (by simp only [World.size_alloc]; omega) (.cells #[.int .i64 0, .bool false, .bool false, .int .i64 0, .int .i64 0, .int .i64 0, .int .i64 0, .int .i64 0] 25))
  have nb0 := blk_new w (.cells #[.int .i64 s.p, .bool s.hl, .bool s.hn, .int .i64 s.la, .int .i64 s.no, .int .i64 s.sa, .int .i64 s.ba, .int .i64 s.ro] 25)
  have nb0 := (Below.heap_alloc (w.alloc (.cells #[.int .i64 s.p, .bool s.hl, .bool s.hn, .int .i64 s.la, .int .i64 s.no, .int .i64 s.sa, .int .i64 s.ba, .int .i64 s.ro] 25)) (.cells #[.int .i64 0, .bool false, .bool false, .int .i64 0, .int .i64 0, .int .i64 0, .int .i64 0, .int .i64 0] 25) (w.heap.size) (by simp only [World.size_alloc]; omega)).trans nb0
  have nz0 : w.heap.size < ((w.alloc (.cells #[.int .i64 s.p, .bool s.hl, .bool s.hn, .int .i64 s.la, .int .i64 s.no, .int .i64 s.sa, .int .i64 s.ba, .int .i64 s.ro] 25)).alloc (.cells #[.int .i64 0, .bool false, .bool false, .int .i64 0, .int .i64 0, .int .i64 0, .int .i64 0, .int .i64 0] 25)).heap.size := by simp only [World.size_alloc]; omega
  have nb1 := blk_new (w.alloc (.cells #[.int .i64 s.p, .bool s.hl, .bool s.hn, .int .i64 s.la, .int .i64 s.no, .int .i64 s.sa, .int .i64 s.ba, .int .i64 s.ro] 25)) (.cells #[.int .i64 0, .bool false, .bool false, .int .i64 0, .int .i64 0, .int .i64 0, .int .i64 0, .int .i64 0] 25)
  simp only [World.size_alloc] at nb1
  have nz1 : w.heap.size + 1 < ((w.alloc (.cells #[.int .i64 s.p, .bool s.hl, .bool s.hn, .int .i64 s.la, .int .i64 s.no, .int .i64 s.sa, .int .i64 s.ba, .int .i64 s.ro] 25)).alloc (.cells #[.int .i64 0, .bool false, .bool false, .int .i64 0, .int .i64 0, .int .i64 0, .int .i64 0, .int .i64 0] 25)).heap.size := by simp only [World.size_alloc]; omega
  have q_1 := q_0.trans (b.mono q_0.size)
  clear q_0
  clear b
  have S_1 := Lib.hid nb0
  have Sz_1 := nz0
  clear nb0 nz0
  have Sc0_1 := blk_cell S_1.out 0
  have Sc1_1 := blk_cell S_1.out 1
  have Sc2_1 := blk_cell S_1.out 2
  have Sc3_1 := blk_cell S_1.out 3
  have Sc4_1 := blk_cell S_1.out 4
  have Sc5_1 := blk_cell S_1.out 5
  have Sc6_1 := blk_cell S_1.out 6
  have Sc7_1 := blk_cell S_1.out 7
  have R_1 := Lib.hid nb1
  have Rz_1 := nz1
  clear nb1 nz1
  have Rc0_1 := blk_cell R_1.out 0
  have Rc1_1 := blk_cell R_1.out 1
  have Rc2_1 := blk_cell R_1.out 2
  have Rc3_1 := blk_cell R_1.out 3
  have Rc4_1 := blk_cell R_1.out 4
  have Rc5_1 := blk_cell R_1.out 5
  have Rc6_1 := blk_cell R_1.out 6
  have Rc7_1 := blk_cell R_1.out 7
  generalize ((w.alloc (.cells #[.int .i64 s.p, .bool s.hl, .bool s.hn, .int .i64 s.la, .int .i64 s.no, .int .i64 s.sa, .int .i64 s.ba, .int .i64 s.ro] 25)).alloc (.cells #[.int .i64 0, .bool false, .bool false, .int .i64 0, .int .i64 0, .int .i64 0, .int .i64 0, .int .i64 0] 25)) = V1 at q_1 S_1 Sz_1 Sc0_1 Sc1_1 Sc2_1 Sc3_1 Sc4_1 Sc5_1 Sc6_1 Sc7_1 R_1 Rz_1 Rc0_1 Rc1_1 Rc2_1 Rc3_1 Rc4_1 Rc5_1 Rc6_1 Rc7_1 ⊢
  refine (rcheck_yes s _ HV'.out).mono ?_
  rintro e V2 ⟨rfl, b⟩
  have S_2 := Lib.hid ((b.block _ Sz_1).trans S_1.out)
  have Sz_2 := Nat.lt_of_lt_of_le Sz_1 b.size
  have Sc0_2 := blk_cell S_2.out 0
  have Sc1_2 := blk_cell S_2.out 1
  have Sc2_2 := blk_cell S_2.out 2
  have Sc3_2 := blk_cell S_2.out 3
  have Sc4_2 := blk_cell S_2.out 4
  have Sc5_2 := blk_cell S_2.out 5
  have Sc6_2 := blk_cell S_2.out 6
  have Sc7_2 := blk_cell S_2.out 7
  have R_2 := Lib.hid ((b.block _ Rz_1).trans R_1.out)
  have Rz_2 := Nat.lt_of_lt_of_le Rz_1 b.size
  have Rc0_2 := blk_cell R_2.out 0
  have Rc1_2 := blk_cell R_2.out 1
  have Rc2_2 := blk_cell R_2.out 2
  have Rc3_2 := blk_cell R_2.out 3
  have Rc4_2 := blk_cell R_2.out 4
  have Rc5_2 := blk_cell R_2.out 5
  have Rc6_2 := blk_cell R_2.out 6
  have Rc7_2 := blk_cell R_2.out 7
  have q_2 := q_1.trans (b.mono q_1.size)
  clear S_1 Sz_1 Sc0_1 Sc1_1 Sc2_1 Sc3_1 Sc4_1 Sc5_1 Sc6_1 Sc7_1 R_1 Rz_1 Rc0_1 Rc1_1 Rc2_1 Rc3_1 Rc4_1 Rc5_1 Rc6_1 Rc7_1 q_1
  clear b
  have hN := H_hN.out
  have hk := H_hk.out
  have j0 := H_j0.out
  go_wp2_with fail
  refine (wit_yes r _ HR.out).mono ?_
  rintro e w' ⟨rfl, rfl⟩
  have rf0 := blk_free R_2.out 0
  have sf0 := blk_free S_2.out 0
  have rf1 := blk_free R_2.out 1
  have sf1 := blk_free S_2.out 1
  have rf2 := blk_free R_2.out 2
  have sf2 := blk_free S_2.out 2
  have rf3 := blk_free R_2.out 3
  have sf3 := blk_free S_2.out 3
  have rf4 := blk_free R_2.out 4
  have sf4 := blk_free S_2.out 4
  have rf5 := blk_free R_2.out 5
  have sf5 := blk_free S_2.out 5
  have rf6 := blk_free R_2.out 6
  have sf6 := blk_free S_2.out 6
  have rf7 := blk_free R_2.out 7
  have sf7 := blk_free S_2.out 7

  have QY := Lib.hid q_2
  clear R_2 S_2
  go_wp2
  refine bodyPost_ret (v := .tuple #[.agg #[.int .i64 s.p, .bool s.hl, .bool (true), .int .i64 s.la, .int .i64 (r), .int .i64 (N), .int .i64 s.ba, .int .i64 s.ro], .int .i64 0]) (by simp [results, Try.results10, go_sem, *]) rfl ⟨rfl, ?_⟩
  (repeat' (first | (with_reducible exact QY.out) | (with_reducible exact Below.refl _ _) | (with_reducible refine Below.alloc ?_ ?_ _) | (with_reducible refine Below.setCell ?_ ?_ _) | (with_reducible refine Below.drew ?_) | (with_reducible refine below_drewN ?_ _) | omega | (dsimp only; omega) | (simp; done) | (simp; omega)))

set_option maxHeartbeats 2000000 in
theorem rsample_an3 (s : HS) (r N : Int) (w : World) (hV : HV s) (hR : NV r) (hN : min (s.sa + 1) 1073741824 = N) (h8 : 8 ≤ N) (hk : s.hn = false) (j0 : s.p = 0) (j1 : s.hl = false) :
    Calls Try.prog 10 #[.agg #[.int .i64 s.p, .bool s.hl, .bool s.hn, .int .i64 s.la, .int .i64 s.no, .int .i64 s.sa, .int .i64 s.ba, .int .i64 s.ro], .int .i64 r] w fun e w' => e = .returned (.tuple #[.agg #[.int .i64 s.p, .bool s.hl, .bool (true), .int .i64 s.la, .int .i64 (r), .int .i64 (N), .int .i64 s.ba, .int .i64 s.ro], .int .i64 0]) ∧ Below w.heap.size w w' := by
  have HV' := Lib.hid hV
  obtain ⟨⟨p0, p1⟩, ⟨a0, a1⟩, ⟨b0, b1⟩, ⟨c0, c1⟩, ⟨d0, d1⟩, e0, e1⟩ := hV
  have N0 : 0 ≤ N ∧ N ≤ 1073741824 := by omega
  have HR := Lib.hid hR
  obtain ⟨r0, r1⟩ := hR
  have q_0 := Below.refl w.heap.size w
  have H_hN := Lib.hid hN
  clear hN
  have H_hk := Lib.hid hk
  clear hk
  have H_j0 := Lib.hid j0
  clear j0
  have H_j1 := Lib.hid j1
  clear j1
  go_enter Try.func10, Try.ntmps10
  go_wp2_with fail
  have b : Below w.heap.size w ((w.alloc (.cells #[.int .i64 s.p, .bool s.hl, .bool s.hn, .int .i64 s.la, .int .i64 s.no, .int .i64 s.sa, .int .i64 s.ba, .int .i64 s.ro] 25)).alloc (.cells #[.int .i64 0, .bool false, .bool false, .int .i64 0, .int .i64 0, .int .i64 0, .int .i64 0, .int .i64 0] 25)) := (((Below.refl _ w).alloc (Nat.le_refl _) (.cells #[.int .i64 s.p, .bool s.hl, .bool s.hn, .int .i64 s.la, .int .i64 s.no, .int .i64 s.sa, .int .i64 s.ba, .int .i64 s.ro] 25)).alloc (by simp only [World.size_alloc]; omega) (.cells #[.int .i64 0, .bool false, .bool false, .int .i64 0, .int .i64 0, .int .i64 0, .int .i64 0, .int .i64 0] 25))
  have nb0 := blk_new w (.cells #[.int .i64 s.p, .bool s.hl, .bool s.hn, .int .i64 s.la, .int .i64 s.no, .int .i64 s.sa, .int .i64 s.ba, .int .i64 s.ro] 25)
  have nb0 := (Below.heap_alloc (w.alloc (.cells #[.int .i64 s.p, .bool s.hl, .bool s.hn, .int .i64 s.la, .int .i64 s.no, .int .i64 s.sa, .int .i64 s.ba, .int .i64 s.ro] 25)) (.cells #[.int .i64 0, .bool false, .bool false, .int .i64 0, .int .i64 0, .int .i64 0, .int .i64 0, .int .i64 0] 25) (w.heap.size) (by simp only [World.size_alloc]; omega)).trans nb0
  have nz0 : w.heap.size < ((w.alloc (.cells #[.int .i64 s.p, .bool s.hl, .bool s.hn, .int .i64 s.la, .int .i64 s.no, .int .i64 s.sa, .int .i64 s.ba, .int .i64 s.ro] 25)).alloc (.cells #[.int .i64 0, .bool false, .bool false, .int .i64 0, .int .i64 0, .int .i64 0, .int .i64 0, .int .i64 0] 25)).heap.size := by simp only [World.size_alloc]; omega
  have nb1 := blk_new (w.alloc (.cells #[.int .i64 s.p, .bool s.hl, .bool s.hn, .int .i64 s.la, .int .i64 s.no, .int .i64 s.sa, .int .i64 s.ba, .int .i64 s.ro] 25)) (.cells #[.int .i64 0, .bool false, .bool false, .int .i64 0, .int .i64 0, .int .i64 0, .int .i64 0, .int .i64 0] 25)
  simp only [World.size_alloc] at nb1
  have nz1 : w.heap.size + 1 < ((w.alloc (.cells #[.int .i64 s.p, .bool s.hl, .bool s.hn, .int .i64 s.la, .int .i64 s.no, .int .i64 s.sa, .int .i64 s.ba, .int .i64 s.ro] 25)).alloc (.cells #[.int .i64 0, .bool false, .bool false, .int .i64 0, .int .i64 0, .int .i64 0, .int .i64 0, .int .i64 0] 25)).heap.size := by simp only [World.size_alloc]; omega
  have q_1 := q_0.trans (b.mono q_0.size)
  clear q_0
  clear b
  have S_1 := Lib.hid nb0
  have Sz_1 := nz0
  clear nb0 nz0
  have Sc0_1 := blk_cell S_1.out 0
  have Sc1_1 := blk_cell S_1.out 1
  have Sc2_1 := blk_cell S_1.out 2
  have Sc3_1 := blk_cell S_1.out 3
  have Sc4_1 := blk_cell S_1.out 4
  have Sc5_1 := blk_cell S_1.out 5
  have Sc6_1 := blk_cell S_1.out 6
  have Sc7_1 := blk_cell S_1.out 7
  have R_1 := Lib.hid nb1
  have Rz_1 := nz1
  clear nb1 nz1
  have Rc0_1 := blk_cell R_1.out 0
  have Rc1_1 := blk_cell R_1.out 1
  have Rc2_1 := blk_cell R_1.out 2
  have Rc3_1 := blk_cell R_1.out 3
  have Rc4_1 := blk_cell R_1.out 4
  have Rc5_1 := blk_cell R_1.out 5
  have Rc6_1 := blk_cell R_1.out 6
  have Rc7_1 := blk_cell R_1.out 7
  generalize ((w.alloc (.cells #[.int .i64 s.p, .bool s.hl, .bool s.hn, .int .i64 s.la, .int .i64 s.no, .int .i64 s.sa, .int .i64 s.ba, .int .i64 s.ro] 25)).alloc (.cells #[.int .i64 0, .bool false, .bool false, .int .i64 0, .int .i64 0, .int .i64 0, .int .i64 0, .int .i64 0] 25)) = V1 at q_1 S_1 Sz_1 Sc0_1 Sc1_1 Sc2_1 Sc3_1 Sc4_1 Sc5_1 Sc6_1 Sc7_1 R_1 Rz_1 Rc0_1 Rc1_1 Rc2_1 Rc3_1 Rc4_1 Rc5_1 Rc6_1 Rc7_1 ⊢
  refine (rcheck_yes s _ HV'.out).mono ?_
  rintro e V2 ⟨rfl, b⟩
  have S_2 := Lib.hid ((b.block _ Sz_1).trans S_1.out)
  have Sz_2 := Nat.lt_of_lt_of_le Sz_1 b.size
  have Sc0_2 := blk_cell S_2.out 0
  have Sc1_2 := blk_cell S_2.out 1
  have Sc2_2 := blk_cell S_2.out 2
  have Sc3_2 := blk_cell S_2.out 3
  have Sc4_2 := blk_cell S_2.out 4
  have Sc5_2 := blk_cell S_2.out 5
  have Sc6_2 := blk_cell S_2.out 6
  have Sc7_2 := blk_cell S_2.out 7
  have R_2 := Lib.hid ((b.block _ Rz_1).trans R_1.out)
  have Rz_2 := Nat.lt_of_lt_of_le Rz_1 b.size
  have Rc0_2 := blk_cell R_2.out 0
  have Rc1_2 := blk_cell R_2.out 1
  have Rc2_2 := blk_cell R_2.out 2
  have Rc3_2 := blk_cell R_2.out 3
  have Rc4_2 := blk_cell R_2.out 4
  have Rc5_2 := blk_cell R_2.out 5
  have Rc6_2 := blk_cell R_2.out 6
  have Rc7_2 := blk_cell R_2.out 7
  have q_2 := q_1.trans (b.mono q_1.size)
  clear S_1 Sz_1 Sc0_1 Sc1_1 Sc2_1 Sc3_1 Sc4_1 Sc5_1 Sc6_1 Sc7_1 R_1 Rz_1 Rc0_1 Rc1_1 Rc2_1 Rc3_1 Rc4_1 Rc5_1 Rc6_1 Rc7_1 q_1
  clear b
  have hN := H_hN.out
  have hk := H_hk.out
  have j0 := H_j0.out
  have j1 := H_j1.out
  go_wp2_with fail
  refine (wit_yes r _ HR.out).mono ?_
  rintro e w' ⟨rfl, rfl⟩
  have rf0 := blk_free R_2.out 0
  have sf0 := blk_free S_2.out 0
  have rf1 := blk_free R_2.out 1
  have sf1 := blk_free S_2.out 1
  have rf2 := blk_free R_2.out 2
  have sf2 := blk_free S_2.out 2
  have rf3 := blk_free R_2.out 3
  have sf3 := blk_free S_2.out 3
  have rf4 := blk_free R_2.out 4
  have sf4 := blk_free S_2.out 4
  have rf5 := blk_free R_2.out 5
  have sf5 := blk_free S_2.out 5
  have rf6 := blk_free R_2.out 6
  have sf6 := blk_free S_2.out 6
  have rf7 := blk_free R_2.out 7
  have sf7 := blk_free S_2.out 7

  have QY := Lib.hid q_2
  clear R_2 S_2
  go_wp2
  refine bodyPost_ret (v := .tuple #[.agg #[.int .i64 s.p, .bool s.hl, .bool (true), .int .i64 s.la, .int .i64 (r), .int .i64 (N), .int .i64 s.ba, .int .i64 s.ro], .int .i64 0]) (by simp [results, Try.results10, go_sem, *]) rfl ⟨rfl, ?_⟩
  (repeat' (first | (with_reducible exact QY.out) | (with_reducible exact Below.refl _ _) | (with_reducible refine Below.alloc ?_ ?_ _) | (with_reducible refine Below.setCell ?_ ?_ _) | (with_reducible refine Below.drew ?_) | (with_reducible refine below_drewN ?_ _) | omega | (dsimp only; omega) | (simp; done) | (simp; omega)))

set_option maxHeartbeats 2000000 in
theorem rsample_an4 (s : HS) (r N : Int) (w : World) (hV : HV s) (hR : NV r) (hN : min (s.sa + 1) 1073741824 = N) (h8 : 8 ≤ N) (hk : s.hn = false) (j0 : s.p = 0) (j1 : s.hl = true) (j2 : r < s.la + max 4 (min 16 (s.la / 8))) :
    Calls Try.prog 10 #[.agg #[.int .i64 s.p, .bool s.hl, .bool s.hn, .int .i64 s.la, .int .i64 s.no, .int .i64 s.sa, .int .i64 s.ba, .int .i64 s.ro], .int .i64 r] w fun e w' => e = .returned (.tuple #[.agg #[.int .i64 s.p, .bool s.hl, .bool (true), .int .i64 s.la, .int .i64 (r), .int .i64 (N), .int .i64 s.ba, .int .i64 s.ro], .int .i64 0]) ∧ Below w.heap.size w w' := by
  have HV' := Lib.hid hV
  obtain ⟨⟨p0, p1⟩, ⟨a0, a1⟩, ⟨b0, b1⟩, ⟨c0, c1⟩, ⟨d0, d1⟩, e0, e1⟩ := hV
  have N0 : 0 ≤ N ∧ N ≤ 1073741824 := by omega
  have HR := Lib.hid hR
  obtain ⟨r0, r1⟩ := hR
  have q_0 := Below.refl w.heap.size w
  have H_hN := Lib.hid hN
  clear hN
  have H_hk := Lib.hid hk
  clear hk
  have H_j0 := Lib.hid j0
  clear j0
  have H_j1 := Lib.hid j1
  clear j1
  go_enter Try.func10, Try.ntmps10
  go_wp2_with fail
  have b : Below w.heap.size w ((w.alloc (.cells #[.int .i64 s.p, .bool s.hl, .bool s.hn, .int .i64 s.la, .int .i64 s.no, .int .i64 s.sa, .int .i64 s.ba, .int .i64 s.ro] 25)).alloc (.cells #[.int .i64 0, .bool false, .bool false, .int .i64 0, .int .i64 0, .int .i64 0, .int .i64 0, .int .i64 0] 25)) := (((Below.refl _ w).alloc (Nat.le_refl _) (.cells #[.int .i64 s.p, .bool s.hl, .bool s.hn, .int .i64 s.la, .int .i64 s.no, .int .i64 s.sa, .int .i64 s.ba, .int .i64 s.ro] 25)).alloc (by simp only [World.size_alloc]; omega) (.cells #[.int .i64 0, .bool false, .bool false, .int .i64 0, .int .i64 0, .int .i64 0, .int .i64 0, .int .i64 0] 25))
  have nb0 := blk_new w (.cells #[.int .i64 s.p, .bool s.hl, .bool s.hn, .int .i64 s.la, .int .i64 s.no, .int .i64 s.sa, .int .i64 s.ba, .int .i64 s.ro] 25)
  have nb0 := (Below.heap_alloc (w.alloc (.cells #[.int .i64 s.p, .bool s.hl, .bool s.hn, .int .i64 s.la, .int .i64 s.no, .int .i64 s.sa, .int .i64 s.ba, .int .i64 s.ro] 25)) (.cells #[.int .i64 0, .bool false, .bool false, .int .i64 0, .int .i64 0, .int .i64 0, .int .i64 0, .int .i64 0] 25) (w.heap.size) (by simp only [World.size_alloc]; omega)).trans nb0
  have nz0 : w.heap.size < ((w.alloc (.cells #[.int .i64 s.p, .bool s.hl, .bool s.hn, .int .i64 s.la, .int .i64 s.no, .int .i64 s.sa, .int .i64 s.ba, .int .i64 s.ro] 25)).alloc (.cells #[.int .i64 0, .bool false, .bool false, .int .i64 0, .int .i64 0, .int .i64 0, .int .i64 0, .int .i64 0] 25)).heap.size := by simp only [World.size_alloc]; omega
  have nb1 := blk_new (w.alloc (.cells #[.int .i64 s.p, .bool s.hl, .bool s.hn, .int .i64 s.la, .int .i64 s.no, .int .i64 s.sa, .int .i64 s.ba, .int .i64 s.ro] 25)) (.cells #[.int .i64 0, .bool false, .bool false, .int .i64 0, .int .i64 0, .int .i64 0, .int .i64 0, .int .i64 0] 25)
  simp only [World.size_alloc] at nb1
  have nz1 : w.heap.size + 1 < ((w.alloc (.cells #[.int .i64 s.p, .bool s.hl, .bool s.hn, .int .i64 s.la, .int .i64 s.no, .int .i64 s.sa, .int .i64 s.ba, .int .i64 s.ro] 25)).alloc (.cells #[.int .i64 0, .bool false, .bool false, .int .i64 0, .int .i64 0, .int .i64 0, .int .i64 0, .int .i64 0] 25)).heap.size := by simp only [World.size_alloc]; omega
  have q_1 := q_0.trans (b.mono q_0.size)
  clear q_0
  clear b
  have S_1 := Lib.hid nb0
  have Sz_1 := nz0
  clear nb0 nz0
  have Sc0_1 := blk_cell S_1.out 0
  have Sc1_1 := blk_cell S_1.out 1
  have Sc2_1 := blk_cell S_1.out 2
  have Sc3_1 := blk_cell S_1.out 3
  have Sc4_1 := blk_cell S_1.out 4
  have Sc5_1 := blk_cell S_1.out 5
  have Sc6_1 := blk_cell S_1.out 6
  have Sc7_1 := blk_cell S_1.out 7
  have R_1 := Lib.hid nb1
  have Rz_1 := nz1
  clear nb1 nz1
  have Rc0_1 := blk_cell R_1.out 0
  have Rc1_1 := blk_cell R_1.out 1
  have Rc2_1 := blk_cell R_1.out 2
  have Rc3_1 := blk_cell R_1.out 3
  have Rc4_1 := blk_cell R_1.out 4
  have Rc5_1 := blk_cell R_1.out 5
  have Rc6_1 := blk_cell R_1.out 6
  have Rc7_1 := blk_cell R_1.out 7
  generalize ((w.alloc (.cells #[.int .i64 s.p, .bool s.hl, .bool s.hn, .int .i64 s.la, .int .i64 s.no, .int .i64 s.sa, .int .i64 s.ba, .int .i64 s.ro] 25)).alloc (.cells #[.int .i64 0, .bool false, .bool false, .int .i64 0, .int .i64 0, .int .i64 0, .int .i64 0, .int .i64 0] 25)) = V1 at q_1 S_1 Sz_1 Sc0_1 Sc1_1 Sc2_1 Sc3_1 Sc4_1 Sc5_1 Sc6_1 Sc7_1 R_1 Rz_1 Rc0_1 Rc1_1 Rc2_1 Rc3_1 Rc4_1 Rc5_1 Rc6_1 Rc7_1 ⊢
  refine (rcheck_yes s _ HV'.out).mono ?_
  rintro e V2 ⟨rfl, b⟩
  have S_2 := Lib.hid ((b.block _ Sz_1).trans S_1.out)
  have Sz_2 := Nat.lt_of_lt_of_le Sz_1 b.size
  have Sc0_2 := blk_cell S_2.out 0
  have Sc1_2 := blk_cell S_2.out 1
  have Sc2_2 := blk_cell S_2.out 2
  have Sc3_2 := blk_cell S_2.out 3
  have Sc4_2 := blk_cell S_2.out 4
  have Sc5_2 := blk_cell S_2.out 5
  have Sc6_2 := blk_cell S_2.out 6
  have Sc7_2 := blk_cell S_2.out 7
  have R_2 := Lib.hid ((b.block _ Rz_1).trans R_1.out)
  have Rz_2 := Nat.lt_of_lt_of_le Rz_1 b.size
  have Rc0_2 := blk_cell R_2.out 0
  have Rc1_2 := blk_cell R_2.out 1
  have Rc2_2 := blk_cell R_2.out 2
  have Rc3_2 := blk_cell R_2.out 3
  have Rc4_2 := blk_cell R_2.out 4
  have Rc5_2 := blk_cell R_2.out 5
  have Rc6_2 := blk_cell R_2.out 6
  have Rc7_2 := blk_cell R_2.out 7
  have q_2 := q_1.trans (b.mono q_1.size)
  clear S_1 Sz_1 Sc0_1 Sc1_1 Sc2_1 Sc3_1 Sc4_1 Sc5_1 Sc6_1 Sc7_1 R_1 Rz_1 Rc0_1 Rc1_1 Rc2_1 Rc3_1 Rc4_1 Rc5_1 Rc6_1 Rc7_1 q_1
  clear b
  have hN := H_hN.out
  have hk := H_hk.out
  have j0 := H_j0.out
  have j1 := H_j1.out
  go_wp2_with fail
  refine (wit_yes r _ HR.out).mono ?_
  rintro e w' ⟨rfl, rfl⟩
  have rf0 := blk_free R_2.out 0
  have sf0 := blk_free S_2.out 0
  have rf1 := blk_free R_2.out 1
  have sf1 := blk_free S_2.out 1
  have rf2 := blk_free R_2.out 2
  have sf2 := blk_free S_2.out 2
  have rf3 := blk_free R_2.out 3
  have sf3 := blk_free S_2.out 3
  have rf4 := blk_free R_2.out 4
  have sf4 := blk_free S_2.out 4
  have rf5 := blk_free R_2.out 5
  have sf5 := blk_free S_2.out 5
  have rf6 := blk_free R_2.out 6
  have sf6 := blk_free S_2.out 6
  have rf7 := blk_free R_2.out 7
  have sf7 := blk_free S_2.out 7

  have QY := Lib.hid q_2
  clear R_2 S_2
  go_wp2
  refine bodyPost_ret (v := .tuple #[.agg #[.int .i64 s.p, .bool s.hl, .bool (true), .int .i64 s.la, .int .i64 (r), .int .i64 (N), .int .i64 s.ba, .int .i64 s.ro], .int .i64 0]) (by simp [results, Try.results10, go_sem, *]) rfl ⟨rfl, ?_⟩
  (repeat' (first | (with_reducible exact QY.out) | (with_reducible exact Below.refl _ _) | (with_reducible refine Below.alloc ?_ ?_ _) | (with_reducible refine Below.setCell ?_ ?_ _) | (with_reducible refine Below.drew ?_) | (with_reducible refine below_drewN ?_ _) | omega | (dsimp only; omega) | (simp; done) | (simp; omega)))

set_option maxHeartbeats 2000000 in
theorem rsample_b0 (s : HS) (r N : Int) (w : World) (hV : HV s) (hR : NV r) (hN : min (s.sa + 1) 1073741824 = N) (h8 : N < 8) (hk : s.hn = true) (hk2 : r < s.no) :
    Calls Try.prog 10 #[.agg #[.int .i64 s.p, .bool s.hl, .bool s.hn, .int .i64 s.la, .int .i64 s.no, .int .i64 s.sa, .int .i64 s.ba, .int .i64 s.ro], .int .i64 r] w fun e w' => e = .returned (.tuple #[.agg #[.int .i64 s.p, .bool s.hl, .bool (true), .int .i64 s.la, .int .i64 (r), .int .i64 (N), .int .i64 s.ba, .int .i64 s.ro], .int .i64 0]) ∧ Below w.heap.size w w' := by
  have HV' := Lib.hid hV
  obtain ⟨⟨p0, p1⟩, ⟨a0, a1⟩, ⟨b0, b1⟩, ⟨c0, c1⟩, ⟨d0, d1⟩, e0, e1⟩ := hV
  have N0 : 0 ≤ N ∧ N ≤ 1073741824 := by omega
  have HR := Lib.hid hR
  obtain ⟨r0, r1⟩ := hR
  have q_0 := Below.refl w.heap.size w
  have H_hN := Lib.hid hN
  clear hN
  have H_hk := Lib.hid hk
  clear hk
  go_enter Try.func10, Try.ntmps10
  go_wp2_with fail
  have b : Below w.heap.size w ((w.alloc (.cells #[.int .i64 s.p, .bool s.hl, .bool s.hn, .int .i64 s.la, .int .i64 s.no, .int .i64 s.sa, .int .i64 s.ba, .int .i64 s.ro] 25)).alloc (.cells #[.int .i64 0, .bool false, .bool false, .int .i64 0, .int .i64 0, .int .i64 0, .int .i64 0, .int .i64 0] 25)) := (((Below.refl _ w).alloc (Nat.le_refl _) (.cells #[.int .i64 s.p, .bool s.hl, .bool s.hn, .int .i64 s.la, .int .i64 s.no, .int .i64 s.sa, .int .i64 s.ba, .int .i64 s.ro] 25)).alloc (by simp only [World.size_alloc]; omega) (.cells #[.int .i64 0, .bool false, .bool false, .int .i64 0, .int .i64 0, .int .i64 0, .int .i64 0, .int .i64 0] 25))
  have nb0 := blk_new w (.cells #[.int .i64 s.p, .bool s.hl, .bool s.hn, .int .i64 s.la, .int .i64 s.no, .int .i64 s.sa, .int .i64 s.ba, .int .i64 s.ro] 25)
  have nb0 := (Below.heap_alloc (w.alloc (.cells #[.int .i64 s.p, .bool s.hl, .bool s.hn, .int .i64 s.la, .int .i64 s.no, .int .i64 s.sa, .int .i64 s.ba, .int .i64 s.ro] 25)) (.cells #[.int .i64 0, .bool false, .bool false, .int .i64 0, .int .i64 0, .int .i64 0, .int .i64 0, .int .i64 0] 25) (w.heap.size) (by simp only [World.size_alloc]; omega)).trans nb0
  have nz0 : w.heap.size < ((w.alloc (.cells #[.int .i64 s.p, .bool s.hl, .bool s.hn, .int .i64 s.la, .int .i64 s.no, .int .i64 s.sa, .int .i64 s.ba, .int .i64 s.ro] 25)).alloc (.cells #[.int .i64 0, .bool false, .bool false, .int .i64 0, .int .i64 0, .int .i64 0, .int .i64 0, .int .i64 0] 25)).heap.size := by simp only [World.size_alloc]; omega
  have nb1 := blk_new (w.alloc (.cells #[.int .i64 s.p, .bool s.hl, .bool s.hn, .int .i64 s.la, .int .i64 s.no, .int .i64 s.sa, .int .i64 s.ba, .int .i64 s.ro] 25)) (.cells #[.int .i64 0, .bool false, .bool false, .int .i64 0, .int .i64 0, .int .i64 0, .int .i64 0, .int .i64 0] 25)
  simp only [World.size_alloc] at nb1
  have nz1 : w.heap.size + 1 < ((w.alloc (.cells #[.int .i64 s.p, .bool s.hl, .bool s.hn, .int .i64 s.la, .int .i64 s.no, .int .i64 s.sa, .int .i64 s.ba, .int .i64 s.ro] 25)).alloc (.cells #[.int .i64 0, .bool false, .bool false, .int .i64 0, .int .i64 0, .int .i64 0, .int .i64 0, .int .i64 0] 25)).heap.size := by simp only [World.size_alloc]; omega
  have q_1 := q_0.trans (b.mono q_0.size)
  clear q_0
  clear b
  have S_1 := Lib.hid nb0
  have Sz_1 := nz0
  clear nb0 nz0
  have Sc0_1 := blk_cell S_1.out 0
  have Sc1_1 := blk_cell S_1.out 1
  have Sc2_1 := blk_cell S_1.out 2
  have Sc3_1 := blk_cell S_1.out 3
  have Sc4_1 := blk_cell S_1.out 4
  have Sc5_1 := blk_cell S_1.out 5
  have Sc6_1 := blk_cell S_1.out 6
  have Sc7_1 := blk_cell S_1.out 7
  have R_1 := Lib.hid nb1
  have Rz_1 := nz1
  clear nb1 nz1
  have Rc0_1 := blk_cell R_1.out 0
  have Rc1_1 := blk_cell R_1.out 1
  have Rc2_1 := blk_cell R_1.out 2
  have Rc3_1 := blk_cell R_1.out 3
  have Rc4_1 := blk_cell R_1.out 4
  have Rc5_1 := blk_cell R_1.out 5
  have Rc6_1 := blk_cell R_1.out 6
  have Rc7_1 := blk_cell R_1.out 7
  generalize ((w.alloc (.cells #[.int .i64 s.p, .bool s.hl, .bool s.hn, .int .i64 s.la, .int .i64 s.no, .int .i64 s.sa, .int .i64 s.ba, .int .i64 s.ro] 25)).alloc (.cells #[.int .i64 0, .bool false, .bool false, .int .i64 0, .int .i64 0, .int .i64 0, .int .i64 0, .int .i64 0] 25)) = V1 at q_1 S_1 Sz_1 Sc0_1 Sc1_1 Sc2_1 Sc3_1 Sc4_1 Sc5_1 Sc6_1 Sc7_1 R_1 Rz_1 Rc0_1 Rc1_1 Rc2_1 Rc3_1 Rc4_1 Rc5_1 Rc6_1 Rc7_1 ⊢
  refine (rcheck_yes s _ HV'.out).mono ?_
  rintro e V2 ⟨rfl, b⟩
  have S_2 := Lib.hid ((b.block _ Sz_1).trans S_1.out)
  have Sz_2 := Nat.lt_of_lt_of_le Sz_1 b.size
  have Sc0_2 := blk_cell S_2.out 0
  have Sc1_2 := blk_cell S_2.out 1
  have Sc2_2 := blk_cell S_2.out 2
  have Sc3_2 := blk_cell S_2.out 3
  have Sc4_2 := blk_cell S_2.out 4
  have Sc5_2 := blk_cell S_2.out 5
  have Sc6_2 := blk_cell S_2.out 6
  have Sc7_2 := blk_cell S_2.out 7
  have R_2 := Lib.hid ((b.block _ Rz_1).trans R_1.out)
  have Rz_2 := Nat.lt_of_lt_of_le Rz_1 b.size
  have Rc0_2 := blk_cell R_2.out 0
  have Rc1_2 := blk_cell R_2.out 1
  have Rc2_2 := blk_cell R_2.out 2
  have Rc3_2 := blk_cell R_2.out 3
  have Rc4_2 := blk_cell R_2.out 4
  have Rc5_2 := blk_cell R_2.out 5
  have Rc6_2 := blk_cell R_2.out 6
  have Rc7_2 := blk_cell R_2.out 7
  have q_2 := q_1.trans (b.mono q_1.size)
  clear S_1 Sz_1 Sc0_1 Sc1_1 Sc2_1 Sc3_1 Sc4_1 Sc5_1 Sc6_1 Sc7_1 R_1 Rz_1 Rc0_1 Rc1_1 Rc2_1 Rc3_1 Rc4_1 Rc5_1 Rc6_1 Rc7_1 q_1
  clear b
  have hN := H_hN.out
  have hk := H_hk.out
  go_wp2_with fail
  refine (wit_yes r _ HR.out).mono ?_
  rintro e w' ⟨rfl, rfl⟩
  have rf0 := blk_free R_2.out 0
  have sf0 := blk_free S_2.out 0
  have rf1 := blk_free R_2.out 1
  have sf1 := blk_free S_2.out 1
  have rf2 := blk_free R_2.out 2
  have sf2 := blk_free S_2.out 2
  have rf3 := blk_free R_2.out 3
  have sf3 := blk_free S_2.out 3
  have rf4 := blk_free R_2.out 4
  have sf4 := blk_free S_2.out 4
  have rf5 := blk_free R_2.out 5
  have sf5 := blk_free S_2.out 5
  have rf6 := blk_free R_2.out 6
  have sf6 := blk_free S_2.out 6
  have rf7 := blk_free R_2.out 7
  have sf7 := blk_free S_2.out 7

  have QY := Lib.hid q_2
  clear R_2 S_2
  go_wp2
  refine bodyPost_ret (v := .tuple #[.agg #[.int .i64 s.p, .bool s.hl, .bool (true), .int .i64 s.la, .int .i64 (r), .int .i64 (N), .int .i64 s.ba, .int .i64 s.ro], .int .i64 0]) (by simp [results, Try.results10, go_sem, *]) rfl ⟨rfl, ?_⟩
  (repeat' (first | (with_reducible exact QY.out) | (with_reducible exact Below.refl _ _) | (with_reducible refine Below.alloc ?_ ?_ _) | (with_reducible refine Below.setCell ?_ ?_ _) | (with_reducible refine Below.drew ?_) | (with_reducible refine below_drewN ?_ _) | omega | (dsimp only; omega) | (simp; done) | (simp; omega)))

set_option maxHeartbeats 2000000 in
theorem rsample_bu (s : HS) (r N : Int) (w : World) (hV : HV s) (hR : NV r) (hN : min (s.sa + 1) 1073741824 = N) (h8 : 8 ≤ N) (hk : s.hn = true) (hk2 : r < s.no) (j0 : s.p = 0) (j1 : s.hl = true) (j2 : s.la + max 4 (min 16 (s.la / 8)) ≤ r) :
    Calls Try.prog 10 #[.agg #[.int .i64 s.p, .bool s.hl, .bool s.hn, .int .i64 s.la, .int .i64 s.no, .int .i64 s.sa, .int .i64 s.ba, .int .i64 s.ro], .int .i64 r] w fun e w' => e = .returned (.tuple #[.agg #[.int .i64 (1), .bool s.hl, .bool (true), .int .i64 s.la, .int .i64 (r), .int .i64 (N), .int .i64 (r), .int .i64 (0)], .int .i64 0]) ∧ Below w.heap.size w w' := by
  have HV' := Lib.hid hV
  obtain ⟨⟨p0, p1⟩, ⟨a0, a1⟩, ⟨b0, b1⟩, ⟨c0, c1⟩, ⟨d0, d1⟩, e0, e1⟩ := hV
  have N0 : 0 ≤ N ∧ N ≤ 1073741824 := by omega
  have HR := Lib.hid hR
  obtain ⟨r0, r1⟩ := hR
  have q_0 := Below.refl w.heap.size w
  have H_hN := Lib.hid hN
  clear hN
  have H_hk := Lib.hid hk
  clear hk
  have H_j0 := Lib.hid j0
  clear j0
  have H_j1 := Lib.hid j1
  clear j1
  go_enter Try.func10, Try.ntmps10
  go_wp2_with fail
  have b : Below w.heap.size w ((w.alloc (.cells #[.int .i64 s.p, .bool s.hl, .bool s.hn, .int .i64 s.la, .int .i64 s.no, .int .i64 s.sa, .int .i64 s.ba, .int .i64 s.ro] 25)).alloc (.cells #[.int .i64 0, .bool false, .bool false, .int .i64 0, .int .i64 0, .int .i64 0, .int .i64 0, .int .i64 0] 25)) := (((Below.refl _ w).alloc (Nat.le_refl _) (.cells #[.int .i64 s.p, .bool s.hl, .bool s.hn, .int .i64 s.la, .int .i64 s.no, .int .i64 s.sa, .int .i64 s.ba, .int .i64 s.ro] 25)).alloc (by simp only [World.size_alloc]; omega) (.cells #[.int .i64 0, .bool false, .bool false, .int .i64 0, .int .i64 0, .int .i64 0, .int .i64 0, .int .i64 0] 25))
  have nb0 := blk_new w (.cells #[.int .i64 s.p, .bool s.hl, .bool s.hn, .int .i64 s.la, .int .i64 s.no, .int .i64 s.sa, .int .i64 s.ba, .int .i64 s.ro] 25)
  have nb0 := (Below.heap_alloc (w.alloc (.cells #[.int .i64 s.p, .bool s.hl, .bool s.hn, .int .i64 s.la, .int .i64 s.no, .int .i64 s.sa, .int .i64 s.ba, .int .i64 s.ro] 25)) (.cells #[.int .i64 0, .bool false, .bool false, .int .i64 0, .int .i64 0, .int .i64 0, .int .i64 0, .int .i64 0] 25) (w.heap.size) (by simp only [World.size_alloc]; omega)).trans nb0
  have nz0 : w.heap.size < ((w.alloc (.cells #[.int .i64 s.p, .bool s.hl, .bool s.hn, .int .i64 s.la, .int .i64 s.no, .int .i64 s.sa, .int .i64 s.ba, .int .i64 s.ro] 25)).alloc (.cells #[.int .i64 0, .bool false, .bool false, .int .i64 0, .int .i64 0, .int .i64 0, .int .i64 0, .int .i64 0] 25)).heap.size := by simp only [World.size_alloc]; omega
  have nb1 := blk_new (w.alloc (.cells #[.int .i64 s.p, .bool s.hl, .bool s.hn, .int .i64 s.la, .int .i64 s.no, .int .i64 s.sa, .int .i64 s.ba, .int .i64 s.ro] 25)) (.cells #[.int .i64 0, .bool false, .bool false, .int .i64 0, .int .i64 0, .int .i64 0, .int .i64 0, .int .i64 0] 25)
  simp only [World.size_alloc] at nb1
  have nz1 : w.heap.size + 1 < ((w.alloc (.cells #[.int .i64 s.p, .bool s.hl, .bool s.hn, .int .i64 s.la, .int .i64 s.no, .int .i64 s.sa, .int .i64 s.ba, .int .i64 s.ro] 25)).alloc (.cells #[.int .i64 0, .bool false, .bool false, .int .i64 0, .int .i64 0, .int .i64 0, .int .i64 0, .int .i64 0] 25)).heap.size := by simp only [World.size_alloc]; omega
  have q_1 := q_0.trans (b.mono q_0.size)
  clear q_0
  clear b
  have S_1 := Lib.hid nb0
  have Sz_1 := nz0
  clear nb0 nz0
  have Sc0_1 := blk_cell S_1.out 0
  have Sc1_1 := blk_cell S_1.out 1
  have Sc2_1 := blk_cell S_1.out 2
  have Sc3_1 := blk_cell S_1.out 3
  have Sc4_1 := blk_cell S_1.out 4
  have Sc5_1 := blk_cell S_1.out 5
  have Sc6_1 := blk_cell S_1.out 6
  have Sc7_1 := blk_cell S_1.out 7
  have R_1 := Lib.hid nb1
  have Rz_1 := nz1
  clear nb1 nz1
  have Rc0_1 := blk_cell R_1.out 0
  have Rc1_1 := blk_cell R_1.out 1
  have Rc2_1 := blk_cell R_1.out 2
  have Rc3_1 := blk_cell R_1.out 3
  have Rc4_1 := blk_cell R_1.out 4
  have Rc5_1 := blk_cell R_1.out 5
  have Rc6_1 := blk_cell R_1.out 6
  have Rc7_1 := blk_cell R_1.out 7
  generalize ((w.alloc (.cells #[.int .i64 s.p, .bool s.hl, .bool s.hn, .int .i64 s.la, .int .i64 s.no, .int .i64 s.sa, .int .i64 s.ba, .int .i64 s.ro] 25)).alloc (.cells #[.int .i64 0, .bool false, .bool false, .int .i64 0, .int .i64 0, .int .i64 0, .int .i64 0, .int .i64 0] 25)) = V1 at q_1 S_1 Sz_1 Sc0_1 Sc1_1 Sc2_1 Sc3_1 Sc4_1 Sc5_1 Sc6_1 Sc7_1 R_1 Rz_1 Rc0_1 Rc1_1 Rc2_1 Rc3_1 Rc4_1 Rc5_1 Rc6_1 Rc7_1 ⊢
  refine (rcheck_yes s _ HV'.out).mono ?_
  rintro e V2 ⟨rfl, b⟩
  have S_2 := Lib.hid ((b.block _ Sz_1).trans S_1.out)
  have Sz_2 := Nat.lt_of_lt_of_le Sz_1 b.size
  have Sc0_2 := blk_cell S_2.out 0
  have Sc1_2 := blk_cell S_2.out 1
  have Sc2_2 := blk_cell S_2.out 2
  have Sc3_2 := blk_cell S_2.out 3
  have Sc4_2 := blk_cell S_2.out 4
  have Sc5_2 := blk_cell S_2.out 5
  have Sc6_2 := blk_cell S_2.out 6
  have Sc7_2 := blk_cell S_2.out 7
  have R_2 := Lib.hid ((b.block _ Rz_1).trans R_1.out)
  have Rz_2 := Nat.lt_of_lt_of_le Rz_1 b.size
  have Rc0_2 := blk_cell R_2.out 0
  have Rc1_2 := blk_cell R_2.out 1
  have Rc2_2 := blk_cell R_2.out 2
  have Rc3_2 := blk_cell R_2.out 3
  have Rc4_2 := blk_cell R_2.out 4
  have Rc5_2 := blk_cell R_2.out 5
  have Rc6_2 := blk_cell R_2.out 6
  have Rc7_2 := blk_cell R_2.out 7
  have q_2 := q_1.trans (b.mono q_1.size)
  clear S_1 Sz_1 Sc0_1 Sc1_1 Sc2_1 Sc3_1 Sc4_1 Sc5_1 Sc6_1 Sc7_1 R_1 Rz_1 Rc0_1 Rc1_1 Rc2_1 Rc3_1 Rc4_1 Rc5_1 Rc6_1 Rc7_1 q_1
  clear b
  have hN := H_hN.out
  have hk := H_hk.out
  have j0 := H_j0.out
  have j1 := H_j1.out
  go_wp2_with fail
  refine (wit_yes r _ HR.out).mono ?_
  rintro e w' ⟨rfl, rfl⟩
  have rf0 := blk_free R_2.out 0
  have sf0 := blk_free S_2.out 0
  have rf1 := blk_free R_2.out 1
  have sf1 := blk_free S_2.out 1
  have rf2 := blk_free R_2.out 2
  have sf2 := blk_free S_2.out 2
  have rf3 := blk_free R_2.out 3
  have sf3 := blk_free S_2.out 3
  have rf4 := blk_free R_2.out 4
  have sf4 := blk_free S_2.out 4
  have rf5 := blk_free R_2.out 5
  have sf5 := blk_free S_2.out 5
  have rf6 := blk_free R_2.out 6
  have sf6 := blk_free S_2.out 6
  have rf7 := blk_free R_2.out 7
  have sf7 := blk_free S_2.out 7

  have QY := Lib.hid q_2
  clear R_2 S_2
  go_wp2
  refine bodyPost_ret (v := .tuple #[.agg #[.int .i64 (1), .bool s.hl, .bool (true), .int .i64 s.la, .int .i64 (r), .int .i64 (N), .int .i64 (r), .int .i64 (0)], .int .i64 0]) (by simp [results, Try.results10, go_sem, *]) rfl ⟨rfl, ?_⟩
  (repeat' (first | (with_reducible exact QY.out) | (with_reducible exact Below.refl _ _) | (with_reducible refine Below.alloc ?_ ?_ _) | (with_reducible refine Below.setCell ?_ ?_ _) | (with_reducible refine Below.drew ?_) | (with_reducible refine below_drewN ?_ _) | omega | (dsimp only; omega) | (simp; done) | (simp; omega)))

set_option maxHeartbeats 2000000 in
theorem rsample_bd (s : HS) (r N : Int) (w : World) (hV : HV s) (hR : NV r) (hN : min (s.sa + 1) 1073741824 = N) (h8 : 8 ≤ N) (hk : s.hn = true) (hk2 : r < s.no) (j0 : s.p = 1) (j1 : r < s.ba) :
    Calls Try.prog 10 #[.agg #[.int .i64 s.p, .bool s.hl, .bool s.hn, .int .i64 s.la, .int .i64 s.no, .int .i64 s.sa, .int .i64 s.ba, .int .i64 s.ro], .int .i64 r] w fun e w' => e = .returned (.tuple #[.agg #[.int .i64 (0), .bool s.hl, .bool (true), .int .i64 s.la, .int .i64 (r), .int .i64 (N), .int .i64 s.ba, .int .i64 s.ro], .int .i64 0]) ∧ Below w.heap.size w w' := by
  have HV' := Lib.hid hV
  obtain ⟨⟨p0, p1⟩, ⟨a0, a1⟩, ⟨b0, b1⟩, ⟨c0, c1⟩, ⟨d0, d1⟩, e0, e1⟩ := hV
  have N0 : 0 ≤ N ∧ N ≤ 1073741824 := by omega
  have HR := Lib.hid hR
  obtain ⟨r0, r1⟩ := hR
  have q_0 := Below.refl w.heap.size w
  have H_hN := Lib.hid hN
  clear hN
  have H_hk := Lib.hid hk
  clear hk
  have H_j0 := Lib.hid j0
  clear j0
  go_enter Try.func10, Try.ntmps10
  go_wp2_with fail
  have b : Below w.heap.size w ((w.alloc (.cells #[.int .i64 s.p, .bool s.hl, .bool s.hn, .int .i64 s.la, .int .i64 s.no, .int .i64 s.sa, .int .i64 s.ba, .int .i64 s.ro] 25)).alloc (.cells #[.int .i64 0, .bool false, .bool false, .int .i64 0, .int .i64 0, .int .i64 0, .int .i64 0, .int .i64 0] 25)) := (((Below.refl _ w).alloc (Nat.le_refl _) (.cells #[.int .i64 s.p, .bool s.hl, .bool s.hn, .int .i64 s.la, .int .i64 s.no, .int .i64 s.sa, .int .i64 s.ba, .int .i64 s.ro] 25)).alloc (by simp only [World.size_alloc]; omega) (.cells #[.int .i64 0, .bool false, .bool false, .int .i64 0, .int .i64 0, .int .i64 0, .int .i64 0, .int .i64 0] 25))
  have nb0 := blk_new w (.cells #[.int .i64 s.p, .bool s.hl, .bool s.hn, .int .i64 s.la, .int .i64 s.no, .int .i64 s.sa, .int .i64 s.ba, .int .i64 s.ro] 25)
  have nb0 := (Below.heap_alloc (w.alloc (.cells #[.int .i64 s.p, .bool s.hl, .bool s.hn, .int .i64 s.la, .int .i64 s.no, .int .i64 s.sa, .int .i64 s.ba, .int .i64 s.ro] 25)) (.cells #[.int .i64 0, .bool false, .bool false, .int .i64 0, .int .i64 0, .int .i64 0, .int .i64 0, .int .i64 0] 25) (w.heap.size) (by simp only [World.size_alloc]; omega)).trans nb0
  have nz0 : w.heap.size < ((w.alloc (.cells #[.int .i64 s.p, .bool s.hl, .bool s.hn, .int .i64 s.la, .int .i64 s.no, .int .i64 s.sa, .int .i64 s.ba, .int .i64 s.ro] 25)).alloc (.cells #[.int .i64 0, .bool false, .bool false, .int .i64 0, .int .i64 0, .int .i64 0, .int .i64 0, .int .i64 0] 25)).heap.size := by simp only [World.size_alloc]; omega
  have nb1 := blk_new (w.alloc (.cells #[.int .i64 s.p, .bool s.hl, .bool s.hn, .int .i64 s.la, .int .i64 s.no, .int .i64 s.sa, .int .i64 s.ba, .int .i64 s.ro] 25)) (.cells #[.int .i64 0, .bool false, .bool false, .int .i64 0, .int .i64 0, .int .i64 0, .int .i64 0, .int .i64 0] 25)
  simp only [World.size_alloc] at nb1
  have nz1 : w.heap.size + 1 < ((w.alloc (.cells #[.int .i64 s.p, .bool s.hl, .bool s.hn, .int .i64 s.la, .int .i64 s.no, .int .i64 s.sa, .int .i64 s.ba, .int .i64 s.ro] 25)).alloc (.cells #[.int .i64 0, .bool false, .bool false, .int .i64 0, .int .i64 0, .int .i64 0, .int .i64 0, .int .i64 0] 25)).heap.size := by simp only [World.size_alloc]; omega
  have q_1 := q_0.trans (b.mono q_0.size)
  clear q_0
  clear b
  have S_1 := Lib.hid nb0
  have Sz_1 := nz0
  clear nb0 nz0
  have Sc0_1 := blk_cell S_1.out 0
  have Sc1_1 := blk_cell S_1.out 1
  have Sc2_1 := blk_cell S_1.out 2
  have Sc3_1 := blk_cell S_1.out 3
  have Sc4_1 := blk_cell S_1.out 4
  have Sc5_1 := blk_cell S_1.out 5
  have Sc6_1 := blk_cell S_1.out 6
  have Sc7_1 := blk_cell S_1.out 7
  have R_1 := Lib.hid nb1
  have Rz_1 := nz1
  clear nb1 nz1
  have Rc0_1 := blk_cell R_1.out 0
  have Rc1_1 := blk_cell R_1.out 1
  have Rc2_1 := blk_cell R_1.out 2
  have Rc3_1 := blk_cell R_1.out 3
  have Rc4_1 := blk_cell R_1.out 4
  have Rc5_1 := blk_cell R_1.out 5
  have Rc6_1 := blk_cell R_1.out 6
  have Rc7_1 := blk_cell R_1.out 7
  generalize ((w.alloc (.cells #[.int .i64 s.p, .bool s.hl, .bool s.hn, .int .i64 s.la, .int .i64 s.no, .int .i64 s.sa, .int .i64 s.ba, .int .i64 s.ro] 25)).alloc (.cells #[.int .i64 0, .bool false, .bool false, .int .i64 0, .int .i64 0, .int .i64 0, .int .i64 0, .int .i64 0] 25)) = V1 at q_1 S_1 Sz_1 Sc0_1 Sc1_1 Sc2_1 Sc3_1 Sc4_1 Sc5_1 Sc6_1 Sc7_1 R_1 Rz_1 Rc0_1 Rc1_1 Rc2_1 Rc3_1 Rc4_1 Rc5_1 Rc6_1 Rc7_1 ⊢
  refine (rcheck_yes s _ HV'.out).mono ?_
  rintro e V2 ⟨rfl, b⟩
  have S_2 := Lib.hid ((b.block _ Sz_1).trans S_1.out)
  have Sz_2 := Nat.lt_of_lt_of_le Sz_1 b.size
  have Sc0_2 := blk_cell S_2.out 0
  have Sc1_2 := blk_cell S_2.out 1
  have Sc2_2 := blk_cell S_2.out 2
  have Sc3_2 := blk_cell S_2.out 3
  have Sc4_2 := blk_cell S_2.out 4
  have Sc5_2 := blk_cell S_2.out 5
  have Sc6_2 := blk_cell S_2.out 6
  have Sc7_2 := blk_cell S_2.out 7
  have R_2 := Lib.hid ((b.block _ Rz_1).trans R_1.out)
  have Rz_2 := Nat.lt_of_lt_of_le Rz_1 b.size
  have Rc0_2 := blk_cell R_2.out 0
  have Rc1_2 := blk_cell R_2.out 1
  have Rc2_2 := blk_cell R_2.out 2
  have Rc3_2 := blk_cell R_2.out 3
  have Rc4_2 := blk_cell R_2.out 4
  have Rc5_2 := blk_cell R_2.out 5
  have Rc6_2 := blk_cell R_2.out 6
  have Rc7_2 := blk_cell R_2.out 7
  have q_2 := q_1.trans (b.mono q_1.size)
  clear S_1 Sz_1 Sc0_1 Sc1_1 Sc2_1 Sc3_1 Sc4_1 Sc5_1 Sc6_1 Sc7_1 R_1 Rz_1 Rc0_1 Rc1_1 Rc2_1 Rc3_1 Rc4_1 Rc5_1 Rc6_1 Rc7_1 q_1
  clear b
  have hN := H_hN.out
  have hk := H_hk.out
  have j0 := H_j0.out
  go_wp2_with fail
  refine (wit_yes r _ HR.out).mono ?_
  rintro e w' ⟨rfl, rfl⟩
  have rf0 := blk_free R_2.out 0
  have sf0 := blk_free S_2.out 0
  have rf1 := blk_free R_2.out 1
  have sf1 := blk_free S_2.out 1
  have rf2 := blk_free R_2.out 2
  have sf2 := blk_free S_2.out 2
  have rf3 := blk_free R_2.out 3
  have sf3 := blk_free S_2.out 3
  have rf4 := blk_free R_2.out 4
  have sf4 := blk_free S_2.out 4
  have rf5 := blk_free R_2.out 5
  have sf5 := blk_free S_2.out 5
  have rf6 := blk_free R_2.out 6
  have sf6 := blk_free S_2.out 6
  have rf7 := blk_free R_2.out 7
  have sf7 := blk_free S_2.out 7

  have QY := Lib.hid q_2
  clear R_2 S_2
  go_wp2
  refine bodyPost_ret (v := .tuple #[.agg #[.int .i64 (0), .bool s.hl, .bool (true), .int .i64 s.la, .int .i64 (r), .int .i64 (N), .int .i64 s.ba, .int .i64 s.ro], .int .i64 0]) (by simp [results, Try.results10, go_sem, *]) rfl ⟨rfl, ?_⟩
  (repeat' (first | (with_reducible exact QY.out) | (with_reducible exact Below.refl _ _) | (with_reducible refine Below.alloc ?_ ?_ _) | (with_reducible refine Below.setCell ?_ ?_ _) | (with_reducible refine Below.drew ?_) | (with_reducible refine below_drewN ?_ _) | omega | (dsimp only; omega) | (simp; done) | (simp; omega)))

set_option maxHeartbeats 2000000 in
theorem rsample_bn1 (s : HS) (r N : Int) (w : World) (hV : HV s) (hR : NV r) (hN : min (s.sa + 1) 1073741824 = N) (h8 : 8 ≤ N) (hk : s.hn = true) (hk2 : r < s.no) (j0 : s.p = 1) (j1 : s.ba ≤ r) :
    Calls Try.prog 10 #[.agg #[.int .i64 s.p, .bool s.hl, .bool s.hn, .int .i64 s.la, .int .i64 s.no, .int .i64 s.sa, .int .i64 s.ba, .int .i64 s.ro], .int .i64 r] w fun e w' => e = .returned (.tuple #[.agg #[.int .i64 s.p, .bool s.hl, .bool (true), .int .i64 s.la, .int .i64 (r), .int .i64 (N), .int .i64 s.ba, .int .i64 s.ro], .int .i64 0]) ∧ Below w.heap.size w w' := by
  have HV' := Lib.hid hV
  obtain ⟨⟨p0, p1⟩, ⟨a0, a1⟩, ⟨b0, b1⟩, ⟨c0, c1⟩, ⟨d0, d1⟩, e0, e1⟩ := hV
  have N0 : 0 ≤ N ∧ N ≤ 1073741824 := by omega
  have HR := Lib.hid hR
  obtain ⟨r0, r1⟩ := hR
  have q_0 := Below.refl w.heap.size w
  have H_hN := Lib.hid hN
  clear hN
  have H_hk := Lib.hid hk
  clear hk
  have H_j0 := Lib.hid j0
  clear j0
  go_enter Try.func10, Try.ntmps10
  go_wp2_with fail
  have b : Below w.heap.size w ((w.alloc (.cells #[.int .i64 s.p, .bool s.hl, .bool s.hn, .int .i64 s.la, .int .i64 s.no, .int .i64 s.sa, .int .i64 s.ba, .int .i64 s.ro] 25)).alloc (.cells #[.int .i64 0, .bool false, .bool false, .int .i64 0, .int .i64 0, .int .i64 0, .int .i64 0, .int .i64 0] 25)) := (((Below.refl _ w).alloc (Nat.le_refl _) (.cells #[.int .i64 s.p, .bool s.hl, .bool s.hn, .int .i64 s.la, .int .i64 s.no, .int .i64 s.sa, .int .i64 s.ba, .int .i64 s.ro] 25)).alloc (by simp only [World.size_alloc]; omega) (.cells #[.int .i64 0, .bool false, .bool false, .int .i64 0, .int .i64 0, .int .i64 0, .int .i64 0, .int .i64 0] 25))
  have nb0 := blk_new w (.cells #[.int .i64 s.p, .bool s.hl, .bool s.hn, .int .i64 s.la, .int .i64 s.no, .int .i64 s.sa, .int .i64 s.ba, .int .i64 s.ro] 25)
  have nb0 := (Below.heap_alloc (w.alloc (.cells #[.int .i64 s.p, .bool s.hl, .bool s.hn, .int .i64 s.la, .int .i64 s.no, .int .i64 s.sa, .int .i64 s.ba, .int .i64 s.ro] 25)) (.cells #[.int .i64 0, .bool false, .bool false, .int .i64 0, .int .i64 0, .int .i64 0, .int .i64 0, .int .i64 0] 25) (w.heap.size) (by simp only [World.size_alloc]; omega)).trans nb0
  have nz0 : w.heap.size < ((w.alloc (.cells #[.int .i64 s.p, .bool s.hl, .bool s.hn, .int .i64 s.la, .int .i64 s.no, .int .i64 s.sa, .int .i64 s.ba, .int .i64 s.ro] 25)).alloc (.cells #[.int .i64 0, .bool false, .bool false, .int .i64 0, .int .i64 0, .int .i64 0, .int .i64 0, .int .i64 0] 25)).heap.size := by simp only [World.size_alloc]; omega
  have nb1 := blk_new (w.alloc (.cells #[.int .i64 s.p, .bool s.hl, .bool s.hn, .int .i64 s.la, .int .i64 s.no, .int .i64 s.sa, .int .i64 s.ba, .int .i64 s.ro] 25)) (.cells #[.int .i64 0, .bool false, .bool false, .int .i64 0, .int .i64 0, .int .i64 0, .int .i64 0, .int .i64 0] 25)
  simp only [World.size_alloc] at nb1
  have nz1 : w.heap.size + 1 < ((w.alloc (.cells #[.int .i64 s.p, .bool s.hl, .bool s.hn, .int .i64 s.la, .int .i64 s.no, .int .i64 s.sa, .int .i64 s.ba, .int .i64 s.ro] 25)).alloc (.cells #[.int .i64 0, .bool false, .bool false, .int .i64 0, .int .i64 0, .int .i64 0, .int .i64 0, .int .i64 0] 25)).heap.size := by simp only [World.size_alloc]; omega
  have q_1 := q_0.trans (b.mono q_0.size)
  clear q_0
  clear b
  have S_1 := Lib.hid nb0
  have Sz_1 := nz0
  clear nb0 nz0
  have Sc0_1 := blk_cell S_1.out 0
  have Sc1_1 := blk_cell S_1.out 1
  have Sc2_1 := blk_cell S_1.out 2
  have Sc3_1 := blk_cell S_1.out 3
  have Sc4_1 := blk_cell S_1.out 4
  have Sc5_1 := blk_cell S_1.out 5
  have Sc6_1 := blk_cell S_1.out 6
  have Sc7_1 := blk_cell S_1.out 7
  have R_1 := Lib.hid nb1
  have Rz_1 := nz1
  clear nb1 nz1
  have Rc0_1 := blk_cell R_1.out 0
  have Rc1_1 := blk_cell R_1.out 1
  have Rc2_1 := blk_cell R_1.out 2
  have Rc3_1 := blk_cell R_1.out 3
  have Rc4_1 := blk_cell R_1.out 4
  have Rc5_1 := blk_cell R_1.out 5
  have Rc6_1 := blk_cell R_1.out 6
  have Rc7_1 := blk_cell R_1.out 7
  generalize ((w.alloc (.cells #[.int .i64 s.p, .bool s.hl, .bool s.hn, .int .i64 s.la, .int .i64 s.no, .int .i64 s.sa, .int .i64 s.ba, .int .i64 s.ro] 25)).alloc (.cells #[.int .i64 0, .bool false, .bool false, .int .i64 0, .int .i64 0, .int .i64 0, .int .i64 0, .int .i64 0] 25)) = V1 at q_1 S_1 Sz_1 Sc0_1 Sc1_1 Sc2_1 Sc3_1 Sc4_1 Sc5_1 Sc6_1 Sc7_1 R_1 Rz_1 Rc0_1 Rc1_1 Rc2_1 Rc3_1 Rc4_1 Rc5_1 Rc6_1 Rc7_1 ⊢
  refine (rcheck_yes s _ HV'.out).mono ?_
  rintro e V2 ⟨rfl, b⟩
  have S_2 := Lib.hid ((b.block _ Sz_1).trans S_1.out)
  have Sz_2 := Nat.lt_of_lt_of_le Sz_1 b.size
  have Sc0_2 := blk_cell S_2.out 0
  have Sc1_2 := blk_cell S_2.out 1
  have Sc2_2 := blk_cell S_2.out 2
  have Sc3_2 := blk_cell S_2.out 3
  have Sc4_2 := blk_cell S_2.out 4
  have Sc5_2 := blk_cell S_2.out 5
  have Sc6_2 := blk_cell S_2.out 6
  have Sc7_2 := blk_cell S_2.out 7
  have R_2 := Lib.hid ((b.block _ Rz_1).trans R_1.out)
  have Rz_2 := Nat.lt_of_lt_of_le Rz_1 b.size
  have Rc0_2 := blk_cell R_2.out 0
  have Rc1_2 := blk_cell R_2.out 1
  have Rc2_2 := blk_cell R_2.out 2
  have Rc3_2 := blk_cell R_2.out 3
  have Rc4_2 := blk_cell R_2.out 4
  have Rc5_2 := blk_cell R_2.out 5
  have Rc6_2 := blk_cell R_2.out 6
  have Rc7_2 := blk_cell R_2.out 7
  have q_2 := q_1.trans (b.mono q_1.size)
  clear S_1 Sz_1 Sc0_1 Sc1_1 Sc2_1 Sc3_1 Sc4_1 Sc5_1 Sc6_1 Sc7_1 R_1 Rz_1 Rc0_1 Rc1_1 Rc2_1 Rc3_1 Rc4_1 Rc5_1 Rc6_1 Rc7_1 q_1
  clear b
  have hN := H_hN.out
  have hk := H_hk.out
  have j0 := H_j0.out
  go_wp2_with fail
  refine (wit_yes r _ HR.out).mono ?_
  rintro e w' ⟨rfl, rfl⟩
  have rf0 := blk_free R_2.out 0
  have sf0 := blk_free S_2.out 0
  have rf1 := blk_free R_2.out 1
  have sf1 := blk_free S_2.out 1
  have rf2 := blk_free R_2.out 2
  have sf2 := blk_free S_2.out 2
  have rf3 := blk_free R_2.out 3
  have sf3 := blk_free S_2.out 3
  have rf4 := blk_free R_2.out 4
  have sf4 := blk_free S_2.out 4
  have rf5 := blk_free R_2.out 5
  have sf5 := blk_free S_2.out 5
  have rf6 := blk_free R_2.out 6
  have sf6 := blk_free S_2.out 6
  have rf7 := blk_free R_2.out 7
  have sf7 := blk_free S_2.out 7

  have QY := Lib.hid q_2
  clear R_2 S_2
  go_wp2
  refine bodyPost_ret (v := .tuple #[.agg #[.int .i64 s.p, .bool s.hl, .bool (true), .int .i64 s.la, .int .i64 (r), .int .i64 (N), .int .i64 s.ba, .int .i64 s.ro], .int .i64 0]) (by simp [results, Try.results10, go_sem, *]) rfl ⟨rfl, ?_⟩
  (repeat' (first | (with_reducible exact QY.out) | (with_reducible exact Below.refl _ _) | (with_reducible refine Below.alloc ?_ ?_ _) | (with_reducible refine Below.setCell ?_ ?_ _) | (with_reducible refine Below.drew ?_) | (with_reducible refine below_drewN ?_ _) | omega | (dsimp only; omega) | (simp; done) | (simp; omega)))

set_option maxHeartbeats 2000000 in
theorem rsample_bn2 (s : HS) (r N : Int) (w : World) (hV : HV s) (hR : NV r) (hN : min (s.sa + 1) 1073741824 = N) (h8 : 8 ≤ N) (hk : s.hn = true) (hk2 : r < s.no) (j0 : s.p = 2) :
    Calls Try.prog 10 #[.agg #[.int .i64 s.p, .bool s.hl, .bool s.hn, .int .i64 s.la, .int .i64 s.no, .int .i64 s.sa, .int .i64 s.ba, .int .i64 s.ro], .int .i64 r] w fun e w' => e = .returned (.tuple #[.agg #[.int .i64 s.p, .bool s.hl, .bool (true), .int .i64 s.la, .int .i64 (r), .int .i64 (N), .int .i64 s.ba, .int .i64 s.ro], .int .i64 0]) ∧ Below w.heap.size w w' := by
  have HV' := Lib.hid hV
  obtain ⟨⟨p0, p1⟩, ⟨a0, a1⟩, ⟨b0, b1⟩, ⟨c0, c1⟩, ⟨d0, d1⟩, e0, e1⟩ := hV
  have N0 : 0 ≤ N ∧ N ≤ 1073741824 := by omega
  have HR := Lib.hid hR
  obtain ⟨r0, r1⟩ := hR
  have q_0 := Below.refl w.heap.size w
  have H_hN := Lib.hid hN
  clear hN
  have H_hk := Lib.hid hk
  clear hk
  have H_j0 := Lib.hid j0
  clear j0
  go_enter Try.func10, Try.ntmps10
  go_wp2_with fail
  have b : Below w.heap.size w ((w.alloc (.cells #[.int .i64 s.p, .bool s.hl, .bool s.hn, .int .i64 s.la, .int .i64 s.no, .int .i64 s.sa, .int .i64 s.ba, .int .i64 s.ro] 25)).alloc (.cells #[.int .i64 0, .bool false, .bool false, .int .i64 0, .int .i64 0, .int .i64 0, .int .i64 0, .int .i64 0] 25)) := (((Below.refl _ w).alloc (Nat.le_refl _) (.cells #[.int .i64 s.p, .bool s.hl, .bool s.hn, .int .i64 s.la, .int .i64 s.no, .int .i64 s.sa, .int .i64 s.ba, .int .i64 s.ro] 25)).alloc (by simp only [World.size_alloc]; omega) (.cells #[.int .i64 0, .bool false, .bool false, .int .i64 0, .int .i64 0, .int .i64 0, .int .i64 0, .int .i64 0] 25))
  have nb0 := blk_new w (.cells #[.int .i64 s.p, .bool s.hl, .bool s.hn, .int .i64 s.la, .int .i64 s.no, .int .i64 s.sa, .int .i64 s.ba, .int .i64 s.ro] 25)
  have nb0 := (Below.heap_alloc (w.alloc (.cells #[.int .i64 s.p, .bool s.hl, .bool s.hn, .int .i64 s.la, .int .i64 s.no, .int .i64 s.sa, .int .i64 s.ba, .int .i64 s.ro] 25)) (.cells #[.int .i64 0, .bool false, .bool false, .int .i64 0, .int .i64 0, .int .i64 0, .int .i64 0, .int .i64 0] 25) (w.heap.size) (by simp only [World.size_alloc]; omega)).trans nb0
  have nz0 : w.heap.size < ((w.alloc (.cells #[.int .i64 s.p, .bool s.hl, .bool s.hn, .int .i64 s.la, .int .i64 s.no, .int .i64 s.sa, .int .i64 s.ba, .int .i64 s.ro] 25)).alloc (.cells #[.int .i64 0, .bool false, .bool false, .int .i64 0, .int .i64 0, .int .i64 0, .int .i64 0, .int .i64 0] 25)).heap.size := by simp only [World.size_alloc]; omega
  have nb1 := blk_new (w.alloc (.cells #[.int .i64 s.p, .bool s.hl, .bool s.hn, .int .i64 s.la, .int .i64 s.no, .int .i64 s.sa, .int .i64 s.ba, .int .i64 s.ro] 25)) (.cells #[.int .i64 0, .bool false, .bool false, .int .i64 0, .int .i64 0, .int .i64 0, .int .i64 0, .int .i64 0] 25)
  simp only [World.size_alloc] at nb1
  have nz1 : w.heap.size + 1 < ((w.alloc (.cells #[.int .i64 s.p, .bool s.hl, .bool s.hn, .int .i64 s.la, .int .i64 s.no, .int .i64 s.sa, .int .i64 s.ba, .int .i64 s.ro] 25)).alloc (.cells #[.int .i64 0, .bool false, .bool false, .int .i64 0, .int .i64 0, .int .i64 0, .int .i64 0, .int .i64 0] 25)).heap.size := by simp only [World.size_alloc]; omega
  have q_1 := q_0.trans (b.mono q_0.size)
  clear q_0
  clear b
  have S_1 := Lib.hid nb0
  have Sz_1 := nz0
  clear nb0 nz0
  have Sc0_1 := blk_cell S_1.out 0
  have Sc1_1 := blk_cell S_1.out 1
  have Sc2_1 := blk_cell S_1.out 2
  have Sc3_1 := blk_cell S_1.out 3
  have Sc4_1 := blk_cell S_1.out 4
  have Sc5_1 := blk_cell S_1.out 5
  have Sc6_1 := blk_cell S_1.out 6
  have Sc7_1 := blk_cell S_1.out 7
  have R_1 := Lib.hid nb1
  have Rz_1 := nz1
  clear nb1 nz1
  have Rc0_1 := blk_cell R_1.out 0
  have Rc1_1 := blk_cell R_1.out 1
  have Rc2_1 := blk_cell R_1.out 2
  have Rc3_1 := blk_cell R_1.out 3
  have Rc4_1 := blk_cell R_1.out 4
  have Rc5_1 := blk_cell R_1.out 5
  have Rc6_1 := blk_cell R_1.out 6
  have Rc7_1 := blk_cell R_1.out 7
  generalize ((w.alloc (.cells #[.int .i64 s.p, .bool s.hl, .bool s.hn, .int .i64 s.la, .int .i64 s.no, .int .i64 s.sa, .int .i64 s.ba, .int .i64 s.ro] 25)).alloc (.cells #[.int .i64 0, .bool false, .bool false, .int .i64 0, .int .i64 0, .int .i64 0, .int .i64 0, .int .i64 0] 25)) = V1 at q_1 S_1 Sz_1 Sc0_1 Sc1_1 Sc2_1 Sc3_1 Sc4_1 Sc5_1 Sc6_1 Sc7_1 R_1 Rz_1 Rc0_1 Rc1_1 Rc2_1 Rc3_1 Rc4_1 Rc5_1 Rc6_1 Rc7_1 ⊢
  refine (rcheck_yes s _ HV'.out).mono ?_
  rintro e V2 ⟨rfl, b⟩
  have S_2 := Lib.hid ((b.block _ Sz_1).trans S_1.out)
  have Sz_2 := Nat.lt_of_lt_of_le Sz_1 b.size
  have Sc0_2 := blk_cell S_2.out 0
  have Sc1_2 := blk_cell S_2.out 1
  have Sc2_2 := blk_cell S_2.out 2
  have Sc3_2 := blk_cell S_2.out 3
  have Sc4_2 := blk_cell S_2.out 4
  have Sc5_2 := blk_cell S_2.out 5
  have Sc6_2 := blk_cell S_2.out 6
  have Sc7_2 := blk_cell S_2.out 7
  have R_2 := Lib.hid ((b.block _ Rz_1).trans R_1.out)
  have Rz_2 := Nat.lt_of_lt_of_le Rz_1 b.size
  have Rc0_2 := blk_cell R_2.out 0
  have Rc1_2 := blk_cell R_2.out 1
  have Rc2_2 := blk_cell R_2.out 2
  have Rc3_2 := blk_cell R_2.out 3
  have Rc4_2 := blk_cell R_2.out 4
  have Rc5_2 := blk_cell R_2.out 5
  have Rc6_2 := blk_cell R_2.out 6
  have Rc7_2 := blk_cell R_2.out 7
  have q_2 := q_1.trans (b.mono q_1.size)
  clear S_1 Sz_1 Sc0_1 Sc1_1 Sc2_1 Sc3_1 Sc4_1 Sc5_1 Sc6_1 Sc7_1 R_1 Rz_1 Rc0_1 Rc1_1 Rc2_1 Rc3_1 Rc4_1 Rc5_1 Rc6_1 Rc7_1 q_1
  clear b
  have hN := H_hN.out
  have hk := H_hk.out
  have j0 := H_j0.out
  go_wp2_with fail
  refine (wit_yes r _ HR.out).mono ?_
  rintro e w' ⟨rfl, rfl⟩
  have rf0 := blk_free R_2.out 0
  have sf0 := blk_free S_2.out 0
  have rf1 := blk_free R_2.out 1
  have sf1 := blk_free S_2.out 1
  have rf2 := blk_free R_2.out 2
  have sf2 := blk_free S_2.out 2
  have rf3 := blk_free R_2.out 3
  have sf3 := blk_free S_2.out 3
  have rf4 := blk_free R_2.out 4
  have sf4 := blk_free S_2.out 4
  have rf5 := blk_free R_2.out 5
  have sf5 := blk_free S_2.out 5
  have rf6 := blk_free R_2.out 6
  have sf6 := blk_free S_2.out 6
  have rf7 := blk_free R_2.out 7
  have sf7 := blk_free S_2.out 7

  have QY := Lib.hid q_2
  clear R_2 S_2
  go_wp2
  refine bodyPost_ret (v := .tuple #[.agg #[.int .i64 s.p, .bool s.hl, .bool (true), .int .i64 s.la, .int .i64 (r), .int .i64 (N), .int .i64 s.ba, .int .i64 s.ro], .int .i64 0]) (by simp [results, Try.results10, go_sem, *]) rfl ⟨rfl, ?_⟩
  (repeat' (first | (with_reducible exact QY.out) | (with_reducible exact Below.refl _ _) | (with_reducible refine Below.alloc ?_ ?_ _) | (with_reducible refine Below.setCell ?_ ?_ _) | (with_reducible refine Below.drew ?_) | (with_reducible refine below_drewN ?_ _) | omega | (dsimp only; omega) | (simp; done) | (simp; omega)))

set_option maxHeartbeats 2000000 in
theorem rsample_bn3 (s : HS) (r N : Int) (w : World) (hV : HV s) (hR : NV r) (hN : min (s.sa + 1) 1073741824 = N) (h8 : 8 ≤ N) (hk : s.hn = true) (hk2 : r < s.no) (j0 : s.p = 0) (j1 : s.hl = false) :
    Calls Try.prog 10 #[.agg #[.int .i64 s.p, .bool s.hl, .bool s.hn, .int .i64 s.la, .int .i64 s.no, .int .i64 s.sa, .int .i64 s.ba, .int .i64 s.ro], .int .i64 r] w fun e w' => e = .returned (.tuple #[.agg #[.int .i64 s.p, .bool s.hl, .bool (true), .int .i64 s.la, .int .i64 (r), .int .i64 (N), .int .i64 s.ba, .int .i64 s.ro], .int .i64 0]) ∧ Below w.heap.size w w' := by
  have HV' := Lib.hid hV
  obtain ⟨⟨p0, p1⟩, ⟨a0, a1⟩, ⟨b0, b1⟩, ⟨c0, c1⟩, ⟨d0, d1⟩, e0, e1⟩ := hV
  have N0 : 0 ≤ N ∧ N ≤ 1073741824 := by omega
  have HR := Lib.hid hR
  obtain ⟨r0, r1⟩ := hR
  have q_0 := Below.refl w.heap.size w
  have H_hN := Lib.hid hN
  clear hN
  have H_hk := Lib.hid hk
  clear hk
  have H_j0 := Lib.hid j0
  clear j0
  have H_j1 := Lib.hid j1
  clear j1
  go_enter Try.func10, Try.ntmps10
  go_wp2_with fail
  have b : Below w.heap.size w ((w.alloc (.cells #[.int .i64 s.p, .bool s.hl, .bool s.hn, .int .i64 s.la, .int .i64 s.no, .int .i64 s.sa, .int .i64 s.ba, .int .i64 s.ro] 25)).alloc (.cells #[.int .i64 0, .bool false, .bool false, .int .i64 0, .int .i64 0, .int .i64 0, .int .i64 0, .int .i64 0] 25)) := (((Below.refl _ w).alloc (Nat.le_refl _) (.cells #[.int .i64 s.p, .bool s.hl, .bool s.hn, .int .i64 s.la, .int .i64 s.no, .int .i64 s.sa, .int .i64 s.ba, .int .i64 s.ro] 25)).alloc (by simp only [World.size_alloc]; omega) (.cells #[.int .i64 0, .bool false, .bool false, .int .i64 0, .int .i64 0, .int .i64 0, .int .i64 0, .int .i64 0] 25))
  have nb0 := blk_new w (.cells #[.int .i64 s.p, .bool s.hl, .bool s.hn, .int .i64 s.la, .int .i64 s.no, .int .i64 s.sa, .int .i64 s.ba, .int .i64 s.ro] 25)
  have nb0 := (Below.heap_alloc (w.alloc (.cells #[.int .i64 s.p, .bool s.hl, .bool s.hn, .int .i64 s.la, .int .i64 s.no, .int .i64 s.sa, .int .i64 s.ba, .int .i64 s.ro] 25)) (.cells #[.int .i64 0, .bool false, .bool false, .int .i64 0, .int .i64 0, .int .i64 0, .int .i64 0, .int .i64 0] 25) (w.heap.size) (by simp only [World.size_alloc]; omega)).trans nb0
  have nz0 : w.heap.size < ((w.alloc (.cells #[.int .i64 s.p, .bool s.hl, .bool s.hn, .int .i64 s.la, .int .i64 s.no, .int .i64 s.sa, .int .i64 s.ba, .int .i64 s.ro] 25)).alloc (.cells #[.int .i64 0, .bool false, .bool false, .int .i64 0, .int .i64 0, .int .i64 0, .int .i64 0, .int .i64 0] 25)).heap.size := by simp only [World.size_alloc]; omega
  have nb1 := blk_new (w.alloc (.cells #[.int .i64 s.p, .bool s.hl, .bool s.hn, .int .i64 s.la, .int .i64 s.no, .int .i64 s.sa, .int .i64 s.ba, .int .i64 s.ro] 25)) (.cells #[.int .i64 0, .bool false, .bool false, .int .i64 0, .int .i64 0, .int .i64 0, .int .i64 0, .int .i64 0] 25)
  simp only [World.size_alloc] at nb1
  have nz1 : w.heap.size + 1 < ((w.alloc (.cells #[.int .i64 s.p, .bool s.hl, .bool s.hn, .int .i64 s.la, .int .i64 s.no, .int .i64 s.sa, .int .i64 s.ba, .int .i64 s.ro] 25)).alloc (.cells #[.int .i64 0, .bool false, .bool false, .int .i64 0, .int .i64 0, .int .i64 0, .int .i64 0, .int .i64 0] 25)).heap.size := by simp only [World.size_alloc]; omega
  have q_1 := q_0.trans (b.mono q_0.size)
  clear q_0
  clear b
  have S_1 := Lib.hid nb0
  have Sz_1 := nz0
  clear nb0 nz0
  have Sc0_1 := blk_cell S_1.out 0
  have Sc1_1 := blk_cell S_1.out 1
  have Sc2_1 := blk_cell S_1.out 2
  have Sc3_1 := blk_cell S_1.out 3
  have Sc4_1 := blk_cell S_1.out 4
  have Sc5_1 := blk_cell S_1.out 5
  have Sc6_1 := blk_cell S_1.out 6
  have Sc7_1 := blk_cell S_1.out 7
  have R_1 := Lib.hid nb1
  have Rz_1 := nz1
  clear nb1 nz1
  have Rc0_1 := blk_cell R_1.out 0
  have Rc1_1 := blk_cell R_1.out 1
  have Rc2_1 := blk_cell R_1.out 2
  have Rc3_1 := blk_cell R_1.out 3
  have Rc4_1 := blk_cell R_1.out 4
  have Rc5_1 := blk_cell R_1.out 5
  have Rc6_1 := blk_cell R_1.out 6
  have Rc7_1 := blk_cell R_1.out 7
  generalize ((w.alloc (.cells #[.int .i64 s.p, .bool s.hl, .bool s.hn, .int .i64 s.la, .int .i64 s.no, .int .i64 s.sa, .int .i64 s.ba, .int .i64 s.ro] 25)).alloc (.cells #[.int .i64 0, .bool false, .bool false, .int .i64 0, .int .i64 0, .int .i64 0, .int .i64 0, .int .i64 0] 25)) = V1 at q_1 S_1 Sz_1 Sc0_1 Sc1_1 Sc2_1 Sc3_1 Sc4_1 Sc5_1 Sc6_1 Sc7_1 R_1 Rz_1 Rc0_1 Rc1_1 Rc2_1 Rc3_1 Rc4_1 Rc5_1 Rc6_1 Rc7_1 ⊢
  refine (rcheck_yes s _ HV'.out).mono ?_
  rintro e V2 ⟨rfl, b⟩
  have S_2 := Lib.hid ((b.block _ Sz_1).trans S_1.out)
  have Sz_2 := Nat.lt_of_lt_of_le Sz_1 b.size
  have Sc0_2 := blk_cell S_2.out 0
  have Sc1_2 := blk_cell S_2.out 1
  have Sc2_2 := blk_cell S_2.out 2
  have Sc3_2 := blk_cell S_2.out 3
  have Sc4_2 := blk_cell S_2.out 4
  have Sc5_2 := blk_cell S_2.out 5
  have Sc6_2 := blk_cell S_2.out 6
  have Sc7_2 := blk_cell S_2.out 7
  have R_2 := Lib.hid ((b.block _ Rz_1).trans R_1.out)
  have Rz_2 := Nat.lt_of_lt_of_le Rz_1 b.size
  have Rc0_2 := blk_cell R_2.out 0
  have Rc1_2 := blk_cell R_2.out 1
  have Rc2_2 := blk_cell R_2.out 2
  have Rc3_2 := blk_cell R_2.out 3
  have Rc4_2 := blk_cell R_2.out 4
  have Rc5_2 := blk_cell R_2.out 5
  have Rc6_2 := blk_cell R_2.out 6
  have Rc7_2 := blk_cell R_2.out 7
  have q_2 := q_1.trans (b.mono q_1.size)
  clear S_1 Sz_1 Sc0_1 Sc1_1 Sc2_1 Sc3_1 Sc4_1 Sc5_1 Sc6_1 Sc7_1 R_1 Rz_1 Rc0_1 Rc1_1 Rc2_1 Rc3_1 Rc4_1 Rc5_1 Rc6_1 Rc7_1 q_1
  clear b
  have hN := H_hN.out
  have hk := H_hk.out
  have j0 := H_j0.out
  have j1 := H_j1.out
  go_wp2_with fail
  refine (wit_yes r _ HR.out).mono ?_
  rintro e w' ⟨rfl, rfl⟩
  have rf0 := blk_free R_2.out 0
  have sf0 := blk_free S_2.out 0
  have rf1 := blk_free R_2.out 1
  have sf1 := blk_free S_2.out 1
  have rf2 := blk_free R_2.out 2
  have sf2 := blk_free S_2.out 2
  have rf3 := blk_free R_2.out 3
  have sf3 := blk_free S_2.out 3
  have rf4 := blk_free R_2.out 4
  have sf4 := blk_free S_2.out 4
  have rf5 := blk_free R_2.out 5
  have sf5 := blk_free S_2.out 5
  have rf6 := blk_free R_2.out 6
  have sf6 := blk_free S_2.out 6
  have rf7 := blk_free R_2.out 7
  have sf7 := blk_free S_2.out 7

  have QY := Lib.hid q_2
  clear R_2 S_2
  go_wp2
  refine bodyPost_ret (v := .tuple #[.agg #[.int .i64 s.p, .bool s.hl, .bool (true), .int .i64 s.la, .int .i64 (r), .int .i64 (N), .int .i64 s.ba, .int .i64 s.ro], .int .i64 0]) (by simp [results, Try.results10, go_sem, *]) rfl ⟨rfl, ?_⟩
  (repeat' (first | (with_reducible exact QY.out) | (with_reducible exact Below.refl _ _) | (with_reducible refine Below.alloc ?_ ?_ _) | (with_reducible refine Below.setCell ?_ ?_ _) | (with_reducible refine Below.drew ?_) | (with_reducible refine below_drewN ?_ _) | omega | (dsimp only; omega) | (simp; done) | (simp; omega)))

set_option maxHeartbeats 2000000 in
theorem rsample_bn4 (s : HS) (r N : Int) (w : World) (hV : HV s) (hR : NV r) (hN : min (s.sa + 1) 1073741824 = N) (h8 : 8 ≤ N) (hk : s.hn = true) (hk2 : r < s.no) (j0 : s.p = 0) (j1 : s.hl = true) (j2 : r < s.la + max 4 (min 16 (s.la / 8))) :
    Calls Try.prog 10 #[.agg #[.int .i64 s.p, .bool s.hl, .bool s.hn, .int .i64 s.la, .int .i64 s.no, .int .i64 s.sa, .int .i64 s.ba, .int .i64 s.ro], .int .i64 r] w fun e w' => e = .returned (.tuple #[.agg #[.int .i64 s.p, .bool s.hl, .bool (true), .int .i64 s.la, .int .i64 (r), .int .i64 (N), .int .i64 s.ba, .int .i64 s.ro], .int .i64 0]) ∧ Below w.heap.size w w' := by
  have HV' := Lib.hid hV
  obtain ⟨⟨p0, p1⟩, ⟨a0, a1⟩, ⟨b0, b1⟩, ⟨c0, c1⟩, ⟨d0, d1⟩, e0, e1⟩ := hV
  have N0 : 0 ≤ N ∧ N ≤ 1073741824 := by omega
  have HR := Lib.hid hR
  obtain ⟨r0, r1⟩ := hR
  have q_0 := Below.refl w.heap.size w
  have H_hN := Lib.hid hN
  clear hN
  have H_hk := Lib.hid hk
  clear hk
  have H_j0 := Lib.hid j0
  clear j0
  have H_j1 := Lib.hid j1
  clear j1
  go_enter Try.func10, Try.ntmps10
  go_wp2_with fail
  have b : Below w.heap.size w ((w.alloc (.cells #[.int .i64 s.p, .bool s.hl, .bool s.hn, .int .i64 s.la, .int .i64 s.no, .int .i64 s.sa, .int .i64 s.ba, .int .i64 s.ro] 25)).alloc (.cells #[.int .i64 0, .bool false, .bool false, .int .i64 0, .int .i64 0, .int .i64 0, .int .i64 0, .int .i64 0] 25)) := (((Below.refl _ w).alloc (Nat.le_refl _) (.cells #[.int .i64 s.p, .bool s.hl, .bool s.hn, .int .i64 s.la, .int .i64 s.no, .int .i64 s.sa, .int .i64 s.ba, .int .i64 s.ro] 25)).alloc (by simp only [World.size_alloc]; omega) (.cells #[.int .i64 0, .bool false, .bool false, .int .i64 0, .int .i64 0, .int .i64 0, .int .i64 0, .int .i64 0] 25))
  have nb0 := blk_new w (.cells #[.int .i64 s.p, .bool s.hl, .bool s.hn, .int .i64 s.la, .int .i64 s.no, .int .i64 s.sa, .int .i64 s.ba, .int .i64 s.ro] 25)
  have nb0 := (Below.heap_alloc (w.alloc (.cells #[.int .i64 s.p, .bool s.hl, .bool s.hn, .int .i64 s.la, .int .i64 s.no, .int .i64 s.sa, .int .i64 s.ba, .int .i64 s.ro] 25)) (.cells #[.int .i64 0, .bool false, .bool false, .int .i64 0, .int .i64 0, .int .i64 0, .int .i64 0, .int .i64 0] 25) (w.heap.size) (by simp only [World.size_alloc]; omega)).trans nb0
  have nz0 : w.heap.size < ((w.alloc (.cells #[.int .i64 s.p, .bool s.hl, .bool s.hn, .int .i64 s.la, .int .i64 s.no, .int .i64 s.sa, .int .i64 s.ba, .int .i64 s.ro] 25)).alloc (.cells #[.int .i64 0, .bool false, .bool false, .int .i64 0, .int .i64 0, .int .i64 0, .int .i64 0, .int .i64 0] 25)).heap.size := by simp only [World.size_alloc]; omega
  have nb1 := blk_new (w.alloc (.cells #[.int .i64 s.p, .bool s.hl, .bool s.hn, .int .i64 s.la, .int .i64 s.no, .int .i64 s.sa, .int .i64 s.ba, .int .i64 s.ro] 25)) (.cells #[.int .i64 0, .bool false, .bool false, .int .i64 0, .int .i64 0, .int .i64 0, .int .i64 0, .int .i64 0] 25)
  simp only [World.size_alloc] at nb1
  have nz1 : w.heap.size + 1 < ((w.alloc (.cells #[.int .i64 s.p, .bool s.hl, .bool s.hn, .int .i64 s.la, .int .i64 s.no, .int .i64 s.sa, .int .i64 s.ba, .int .i64 s.ro] 25)).alloc (.cells #[.int .i64 0, .bool false, .bool false, .int .i64 0, .int .i64 0, .int .i64 0, .int .i64 0, .int .i64 0] 25)).heap.size := by simp only [World.size_alloc]; omega
  have q_1 := q_0.trans (b.mono q_0.size)
  clear q_0
  clear b
  have S_1 := Lib.hid nb0
  have Sz_1 := nz0
  clear nb0 nz0
  have Sc0_1 := blk_cell S_1.out 0
  have Sc1_1 := blk_cell S_1.out 1
  have Sc2_1 := blk_cell S_1.out 2
  have Sc3_1 := blk_cell S_1.out 3
  have Sc4_1 := blk_cell S_1.out 4
  have Sc5_1 := blk_cell S_1.out 5
  have Sc6_1 := blk_cell S_1.out 6
  have Sc7_1 := blk_cell S_1.out 7
  have R_1 := Lib.hid nb1
  have Rz_1 := nz1
  clear nb1 nz1
  have Rc0_1 := blk_cell R_1.out 0
  have Rc1_1 := blk_cell R_1.out 1
  have Rc2_1 := blk_cell R_1.out 2
  have Rc3_1 := blk_cell R_1.out 3
  have Rc4_1 := blk_cell R_1.out 4
  have Rc5_1 := blk_cell R_1.out 5
  have Rc6_1 := blk_cell R_1.out 6
  have Rc7_1 := blk_cell R_1.out 7
  generalize ((w.alloc (.cells #[.int .i64 s.p, .bool s.hl, .bool s.hn, .int .i64 s.la, .int .i64 s.no, .int .i64 s.sa, .int .i64 s.ba, .int .i64 s.ro] 25)).alloc (.cells #[.int .i64 0, .bool false, .bool false, .int .i64 0, .int .i64 0, .int .i64 0, .int .i64 0, .int .i64 0] 25)) = V1 at q_1 S_1 Sz_1 Sc0_1 Sc1_1 Sc2_1 Sc3_1 Sc4_1 Sc5_1 Sc6_1 Sc7_1 R_1 Rz_1 Rc0_1 Rc1_1 Rc2_1 Rc3_1 Rc4_1 Rc5_1 Rc6_1 Rc7_1 ⊢
  refine (rcheck_yes s _ HV'.out).mono ?_
  rintro e V2 ⟨rfl, b⟩
  have S_2 := Lib.hid ((b.block _ Sz_1).trans S_1.out)
  have Sz_2 := Nat.lt_of_lt_of_le Sz_1 b.size
  have Sc0_2 := blk_cell S_2.out 0
  have Sc1_2 := blk_cell S_2.out 1
  have Sc2_2 := blk_cell S_2.out 2
  have Sc3_2 := blk_cell S_2.out 3
  have Sc4_2 := blk_cell S_2.out 4
  have Sc5_2 := blk_cell S_2.out 5
  have Sc6_2 := blk_cell S_2.out 6
  have Sc7_2 := blk_cell S_2.out 7
  have R_2 := Lib.hid ((b.block _ Rz_1).trans R_1.out)
  have Rz_2 := Nat.lt_of_lt_of_le Rz_1 b.size
  have Rc0_2 := blk_cell R_2.out 0
  have Rc1_2 := blk_cell R_2.out 1
  have Rc2_2 := blk_cell R_2.out 2
  have Rc3_2 := blk_cell R_2.out 3
  have Rc4_2 := blk_cell R_2.out 4
  have Rc5_2 := blk_cell R_2.out 5
  have Rc6_2 := blk_cell R_2.out 6
  have Rc7_2 := blk_cell R_2.out 7
  have q_2 := q_1.trans (b.mono q_1.size)
  clear S_1 Sz_1 Sc0_1 Sc1_1 Sc2_1 Sc3_1 Sc4_1 Sc5_1 Sc6_1 Sc7_1 R_1 Rz_1 Rc0_1 Rc1_1 Rc2_1 Rc3_1 Rc4_1 Rc5_1 Rc6_1 Rc7_1 q_1
  clear b
  have hN := H_hN.out
  have hk := H_hk.out
  have j0 := H_j0.out
  have j1 := H_j1.out
  go_wp2_with fail
  refine (wit_yes r _ HR.out).mono ?_
  rintro e w' ⟨rfl, rfl⟩
  have rf0 := blk_free R_2.out 0
  have sf0 := blk_free S_2.out 0
  have rf1 := blk_free R_2.out 1
  have sf1 := blk_free S_2.out 1
  have rf2 := blk_free R_2.out 2
  have sf2 := blk_free S_2.out 2
  have rf3 := blk_free R_2.out 3
  have sf3 := blk_free S_2.out 3
  have rf4 := blk_free R_2.out 4
  have sf4 := blk_free S_2.out 4
  have rf5 := blk_free R_2.out 5
  have sf5 := blk_free S_2.out 5
  have rf6 := blk_free R_2.out 6
  have sf6 := blk_free S_2.out 6
  have rf7 := blk_free R_2.out 7
  have sf7 := blk_free S_2.out 7

  have QY := Lib.hid q_2
  clear R_2 S_2
  go_wp2
  refine bodyPost_ret (v := .tuple #[.agg #[.int .i64 s.p, .bool s.hl, .bool (true), .int .i64 s.la, .int .i64 (r), .int .i64 (N), .int .i64 s.ba, .int .i64 s.ro], .int .i64 0]) (by simp [results, Try.results10, go_sem, *]) rfl ⟨rfl, ?_⟩
  (repeat' (first | (with_reducible exact QY.out) | (with_reducible exact Below.refl _ _) | (with_reducible refine Below.alloc ?_ ?_ _) | (with_reducible refine Below.setCell ?_ ?_ _) | (with_reducible refine Below.drew ?_) | (with_reducible refine below_drewN ?_ _) | omega | (dsimp only; omega) | (simp; done) | (simp; omega)))

set_option maxHeartbeats 2000000 in
theorem rsample_c0 (s : HS) (r N : Int) (w : World) (hV : HV s) (hR : NV r) (hN : min (s.sa + 1) 1073741824 = N) (h8 : N < 8) (hk : s.hn = true) (hk2 : s.no ≤ r) :
    Calls Try.prog 10 #[.agg #[.int .i64 s.p, .bool s.hl, .bool s.hn, .int .i64 s.la, .int .i64 s.no, .int .i64 s.sa, .int .i64 s.ba, .int .i64 s.ro], .int .i64 r] w fun e w' => e = .returned (.tuple #[.agg #[.int .i64 s.p, .bool s.hl, .bool (true), .int .i64 s.la, .int .i64 (s.no), .int .i64 (N), .int .i64 s.ba, .int .i64 s.ro], .int .i64 0]) ∧ Below w.heap.size w w' := by
  have HV' := Lib.hid hV
  obtain ⟨⟨p0, p1⟩, ⟨a0, a1⟩, ⟨b0, b1⟩, ⟨c0, c1⟩, ⟨d0, d1⟩, e0, e1⟩ := hV
  have N0 : 0 ≤ N ∧ N ≤ 1073741824 := by omega
  have HR := Lib.hid hR
  obtain ⟨r0, r1⟩ := hR
  have q_0 := Below.refl w.heap.size w
  have H_hN := Lib.hid hN
  clear hN
  have H_hk := Lib.hid hk
  clear hk
  go_enter Try.func10, Try.ntmps10
  go_wp2_with fail
  have b : Below w.heap.size w ((w.alloc (.cells #[.int .i64 s.p, .bool s.hl, .bool s.hn, .int .i64 s.la, .int .i64 s.no, .int .i64 s.sa, .int .i64 s.ba, .int .i64 s.ro] 25)).alloc (.cells #[.int .i64 0, .bool false, .bool false, .int .i64 0, .int .i64 0, .int .i64 0, .int .i64 0, .int .i64 0] 25)) := (((Below.refl _ w).alloc (Nat.le_refl _) (.cells #[.int .i64 s.p, .bool s.hl, .bool s.hn, .int .i64 s.la, .int .i64 s.no, .int .i64 s.sa, .int .i64 s.ba, .int .i64 s.ro] 25)).alloc (by simp only [World.size_alloc]; omega) (.cells #[.int .i64 0, .bool false, .bool false, .int .i64 0, .int .i64 0, .int .i64 0, .int .i64 0, .int .i64 0] 25))
  have nb0 := blk_new w (.cells #[.int .i64 s.p, .bool s.hl, .bool s.hn, .int .i64 s.la, .int .i64 s.no, .int .i64 s.sa, .int .i64 s.ba, .int .i64 s.ro] 25)
  have nb0 := (Below.heap_alloc (w.alloc (.cells #[.int .i64 s.p, .bool s.hl, .bool s.hn, .int .i64 s.la, .int .i64 s.no, .int .i64 s.sa, .int .i64 s.ba, .int .i64 s.ro] 25)) (.cells #[.int .i64 0, .bool false, .bool false, .int .i64 0, .int .i64 0, .int .i64 0, .int .i64 0, .int .i64 0] 25) (w.heap.size) (by simp only [World.size_alloc]; omega)).trans nb0
  have nz0 : w.heap.size < ((w.alloc (.cells #[.int .i64 s.p, .bool s.hl, .bool s.hn, .int .i64 s.la, .int .i64 s.no, .int .i64 s.sa, .int .i64 s.ba, .int .i64 s.ro] 25)).alloc (.cells #[.int .i64 0, .bool false, .bool false, .int .i64 0, .int .i64 0, .int .i64 0, .int .i64 0, .int .i64 0] 25)).heap.size := by simp only [World.size_alloc]; omega
  have nb1 := blk_new (w.alloc (.cells #[.int .i64 s.p, .bool s.hl, .bool s.hn, .int .i64 s.la, .int .i64 s.no, .int .i64 s.sa, .int .i64 s.ba, .int .i64 s.ro] 25)) (.cells #[.int .i64 0, .bool false, .bool false, .int .i64 0, .int .i64 0, .int .i64 0, .int .i64 0, .int .i64 0] 25)
  simp only [World.size_alloc] at nb1
  have nz1 : w.heap.size + 1 < ((w.alloc (.cells #[.int .i64 s.p, .bool s.hl, .bool s.hn, .int .i64 s.la, .int .i64 s.no, .int .i64 s.sa, .int .i64 s.ba, .int .i64 s.ro] 25)).alloc (.cells #[.int .i64 0, .bool false, .bool false, .int .i64 0, .int .i64 0, .int .i64 0, .int .i64 0, .int .i64 0] 25)).heap.size := by simp only [World.size_alloc]; omega
  have q_1 := q_0.trans (b.mono q_0.size)
  clear q_0
  clear b
  have S_1 := Lib.hid nb0
  have Sz_1 := nz0
  clear nb0 nz0
  have Sc0_1 := blk_cell S_1.out 0
  have Sc1_1 := blk_cell S_1.out 1
  have Sc2_1 := blk_cell S_1.out 2
  have Sc3_1 := blk_cell S_1.out 3
  have Sc4_1 := blk_cell S_1.out 4
  have Sc5_1 := blk_cell S_1.out 5
  have Sc6_1 := blk_cell S_1.out 6
  have Sc7_1 := blk_cell S_1.out 7
  have R_1 := Lib.hid nb1
  have Rz_1 := nz1
  clear nb1 nz1
  have Rc0_1 := blk_cell R_1.out 0
  have Rc1_1 := blk_cell R_1.out 1
  have Rc2_1 := blk_cell R_1.out 2
  have Rc3_1 := blk_cell R_1.out 3
  have Rc4_1 := blk_cell R_1.out 4
  have Rc5_1 := blk_cell R_1.out 5
  have Rc6_1 := blk_cell R_1.out 6
  have Rc7_1 := blk_cell R_1.out 7
  generalize ((w.alloc (.cells #[.int .i64 s.p, .bool s.hl, .bool s.hn, .int .i64 s.la, .int .i64 s.no, .int .i64 s.sa, .int .i64 s.ba, .int .i64 s.ro] 25)).alloc (.cells #[.int .i64 0, .bool false, .bool false, .int .i64 0, .int .i64 0, .int .i64 0, .int .i64 0, .int .i64 0] 25)) = V1 at q_1 S_1 Sz_1 Sc0_1 Sc1_1 Sc2_1 Sc3_1 Sc4_1 Sc5_1 Sc6_1 Sc7_1 R_1 Rz_1 Rc0_1 Rc1_1 Rc2_1 Rc3_1 Rc4_1 Rc5_1 Rc6_1 Rc7_1 ⊢
  refine (rcheck_yes s _ HV'.out).mono ?_
  rintro e V2 ⟨rfl, b⟩
  have S_2 := Lib.hid ((b.block _ Sz_1).trans S_1.out)
  have Sz_2 := Nat.lt_of_lt_of_le Sz_1 b.size
  have Sc0_2 := blk_cell S_2.out 0
  have Sc1_2 := blk_cell S_2.out 1
  have Sc2_2 := blk_cell S_2.out 2
  have Sc3_2 := blk_cell S_2.out 3
  have Sc4_2 := blk_cell S_2.out 4
  have Sc5_2 := blk_cell S_2.out 5
  have Sc6_2 := blk_cell S_2.out 6
  have Sc7_2 := blk_cell S_2.out 7
  have R_2 := Lib.hid ((b.block _ Rz_1).trans R_1.out)
  have Rz_2 := Nat.lt_of_lt_of_le Rz_1 b.size
  have Rc0_2 := blk_cell R_2.out 0
  have Rc1_2 := blk_cell R_2.out 1
  have Rc2_2 := blk_cell R_2.out 2
  have Rc3_2 := blk_cell R_2.out 3
  have Rc4_2 := blk_cell R_2.out 4
  have Rc5_2 := blk_cell R_2.out 5
  have Rc6_2 := blk_cell R_2.out 6
  have Rc7_2 := blk_cell R_2.out 7
  have q_2 := q_1.trans (b.mono q_1.size)
  clear S_1 Sz_1 Sc0_1 Sc1_1 Sc2_1 Sc3_1 Sc4_1 Sc5_1 Sc6_1 Sc7_1 R_1 Rz_1 Rc0_1 Rc1_1 Rc2_1 Rc3_1 Rc4_1 Rc5_1 Rc6_1 Rc7_1 q_1
  clear b
  have hN := H_hN.out
  have hk := H_hk.out
  go_wp2_with fail
  refine (wit_yes r _ HR.out).mono ?_
  rintro e w' ⟨rfl, rfl⟩
  have rf0 := blk_free R_2.out 0
  have sf0 := blk_free S_2.out 0
  have rf1 := blk_free R_2.out 1
  have sf1 := blk_free S_2.out 1
  have rf2 := blk_free R_2.out 2
  have sf2 := blk_free S_2.out 2
  have rf3 := blk_free R_2.out 3
  have sf3 := blk_free S_2.out 3
  have rf4 := blk_free R_2.out 4
  have sf4 := blk_free S_2.out 4
  have rf5 := blk_free R_2.out 5
  have sf5 := blk_free S_2.out 5
  have rf6 := blk_free R_2.out 6
  have sf6 := blk_free S_2.out 6
  have rf7 := blk_free R_2.out 7
  have sf7 := blk_free S_2.out 7

  have QY := Lib.hid q_2
  clear R_2 S_2
  go_wp2
  refine bodyPost_ret (v := .tuple #[.agg #[.int .i64 s.p, .bool s.hl, .bool (true), .int .i64 s.la, .int .i64 (s.no), .int .i64 (N), .int .i64 s.ba, .int .i64 s.ro], .int .i64 0]) (by simp [results, Try.results10, go_sem, *]) rfl ⟨rfl, ?_⟩
  (repeat' (first | (with_reducible exact QY.out) | (with_reducible exact Below.refl _ _) | (with_reducible refine Below.alloc ?_ ?_ _) | (with_reducible refine Below.setCell ?_ ?_ _) | (with_reducible refine Below.drew ?_) | (with_reducible refine below_drewN ?_ _) | omega | (dsimp only; omega) | (simp; done) | (simp; omega)))

set_option maxHeartbeats 2000000 in
theorem rsample_cu (s : HS) (r N : Int) (w : World) (hV : HV s) (hR : NV r) (hN : min (s.sa + 1) 1073741824 = N) (h8 : 8 ≤ N) (hk : s.hn = true) (hk2 : s.no ≤ r) (j0 : s.p = 0) (j1 : s.hl = true) (j2 : s.la + max 4 (min 16 (s.la / 8)) ≤ s.no) :
    Calls Try.prog 10 #[.agg #[.int .i64 s.p, .bool s.hl, .bool s.hn, .int .i64 s.la, .int .i64 s.no, .int .i64 s.sa, .int .i64 s.ba, .int .i64 s.ro], .int .i64 r] w fun e w' => e = .returned (.tuple #[.agg #[.int .i64 (1), .bool s.hl, .bool (true), .int .i64 s.la, .int .i64 (s.no), .int .i64 (N), .int .i64 (s.no), .int .i64 (0)], .int .i64 0]) ∧ Below w.heap.size w w' := by
  have HV' := Lib.hid hV
  obtain ⟨⟨p0, p1⟩, ⟨a0, a1⟩, ⟨b0, b1⟩, ⟨c0, c1⟩, ⟨d0, d1⟩, e0, e1⟩ := hV
  have N0 : 0 ≤ N ∧ N ≤ 1073741824 := by omega
  have HR := Lib.hid hR
  obtain ⟨r0, r1⟩ := hR
  have q_0 := Below.refl w.heap.size w
  have H_hN := Lib.hid hN
  clear hN
  have H_hk := Lib.hid hk
  clear hk
  have H_j0 := Lib.hid j0
  clear j0
  have H_j1 := Lib.hid j1
  clear j1
  go_enter Try.func10, Try.ntmps10
  go_wp2_with fail
  have b : Below w.heap.size w ((w.alloc (.cells #[.int .i64 s.p, .bool s.hl, .bool s.hn, .int .i64 s.la, .int .i64 s.no, .int .i64 s.sa, .int .i64 s.ba, .int .i64 s.ro] 25)).alloc (.cells #[.int .i64 0, .bool false, .bool false, .int .i64 0, .int .i64 0, .int .i64 0, .int .i64 0, .int .i64 0] 25)) := (((Below.refl _ w).alloc (Nat.le_refl _) (.cells #[.int .i64 s.p, .bool s.hl, .bool s.hn, .int .i64 s.la, .int .i64 s.no, .int .i64 s.sa, .int .i64 s.ba, .int .i64 s.ro] 25)).alloc (by simp only [World.size_alloc]; omega) (.cells #[.int .i64 0, .bool false, .bool false, .int .i64 0, .int .i64 0, .int .i64 0, .int .i64 0, .int .i64 0] 25))
  have nb0 := blk_new w (.cells #[.int .i64 s.p, .bool s.hl, .bool s.hn, .int .i64 s.la, .int .i64 s.no, .int .i64 s.sa, .int .i64 s.ba, .int .i64 s.ro] 25)
  have nb0 := (Below.heap_alloc (w.alloc (.cells #[.int .i64 s.p, .bool s.hl, .bool s.hn, .int .i64 s.la, .int .i64 s.no, .int .i64 s.sa, .int .i64 s.ba, .int .i64 s.ro] 25)) (.cells #[.int .i64 0, .bool false, .bool false, .int .i64 0, .int .i64 0, .int .i64 0, .int .i64 0, .int .i64 0] 25) (w.heap.size) (by simp only [World.size_alloc]; omega)).trans nb0
  have nz0 : w.heap.size < ((w.alloc (.cells #[.int .i64 s.p, .bool s.hl, .bool s.hn, .int .i64 s.la, .int .i64 s.no, .int .i64 s.sa, .int .i64 s.ba, .int .i64 s.ro] 25)).alloc (.cells #[.int .i64 0, .bool false, .bool false, .int .i64 0, .int .i64 0, .int .i64 0, .int .i64 0, .int .i64 0] 25)).heap.size := by simp only [World.size_alloc]; omega
  have nb1 := blk_new (w.alloc (.cells #[.int .i64 s.p, .bool s.hl, .bool s.hn, .int .i64 s.la, .int .i64 s.no, .int .i64 s.sa, .int .i64 s.ba, .int .i64 s.ro] 25)) (.cells #[.int .i64 0, .bool false, .bool false, .int .i64 0, .int .i64 0, .int .i64 0, .int .i64 0, .int .i64 0] 25)
  simp only [World.size_alloc] at nb1
  have nz1 : w.heap.size + 1 < ((w.alloc (.cells #[.int .i64 s.p, .bool s.hl, .bool s.hn, .int .i64 s.la, .int .i64 s.no, .int .i64 s.sa, .int .i64 s.ba, .int .i64 s.ro] 25)).alloc (.cells #[.int .i64 0, .bool false, .bool false, .int .i64 0, .int .i64 0, .int .i64 0, .int .i64 0, .int .i64 0] 25)).heap.size := by simp only [World.size_alloc]; omega
  have q_1 := q_0.trans (b.mono q_0.size)
  clear q_0
  clear b
  have S_1 := Lib.hid nb0
  have Sz_1 := nz0
  clear nb0 nz0
  have Sc0_1 := blk_cell S_1.out 0
  have Sc1_1 := blk_cell S_1.out 1
  have Sc2_1 := blk_cell S_1.out 2
  have Sc3_1 := blk_cell S_1.out 3
  have Sc4_1 := blk_cell S_1.out 4
  have Sc5_1 := blk_cell S_1.out 5
  have Sc6_1 := blk_cell S_1.out 6
  have Sc7_1 := blk_cell S_1.out 7
  have R_1 := Lib.hid nb1
  have Rz_1 := nz1
  clear nb1 nz1
  have Rc0_1 := blk_cell R_1.out 0
  have Rc1_1 := blk_cell R_1.out 1
  have Rc2_1 := blk_cell R_1.out 2
  have Rc3_1 := blk_cell R_1.out 3
  have Rc4_1 := blk_cell R_1.out 4
  have Rc5_1 := blk_cell R_1.out 5
  have Rc6_1 := blk_cell R_1.out 6
  have Rc7_1 := blk_cell R_1.out 7
  generalize ((w.alloc (.cells #[.int .i64 s.p, .bool s.hl, .bool s.hn, .int .i64 s.la, .int .i64 s.no, .int .i64 s.sa, .int .i64 s.ba, .int .i64 s.ro] 25)).alloc (.cells #[.int .i64 0, .bool false, .bool false, .int .i64 0, .int .i64 0, .int .i64 0, .int .i64 0, .int .i64 0] 25)) = V1 at q_1 S_1 Sz_1 Sc0_1 Sc1_1 Sc2_1 Sc3_1 Sc4_1 Sc5_1 Sc6_1 Sc7_1 R_1 Rz_1 Rc0_1 Rc1_1 Rc2_1 Rc3_1 Rc4_1 Rc5_1 Rc6_1 Rc7_1 ⊢
  refine (rcheck_yes s _ HV'.out).mono ?_
  rintro e V2 ⟨rfl, b⟩
  have S_2 := Lib.hid ((b.block _ Sz_1).trans S_1.out)
  have Sz_2 := Nat.lt_of_lt_of_le Sz_1 b.size
  have Sc0_2 := blk_cell S_2.out 0
  have Sc1_2 := blk_cell S_2.out 1
  have Sc2_2 := blk_cell S_2.out 2
  have Sc3_2 := blk_cell S_2.out 3
  have Sc4_2 := blk_cell S_2.out 4
  have Sc5_2 := blk_cell S_2.out 5
  have Sc6_2 := blk_cell S_2.out 6
  have Sc7_2 := blk_cell S_2.out 7
  have R_2 := Lib.hid ((b.block _ Rz_1).trans R_1.out)
  have Rz_2 := Nat.lt_of_lt_of_le Rz_1 b.size
  have Rc0_2 := blk_cell R_2.out 0
  have Rc1_2 := blk_cell R_2.out 1
  have Rc2_2 := blk_cell R_2.out 2
  have Rc3_2 := blk_cell R_2.out 3
  have Rc4_2 := blk_cell R_2.out 4
  have Rc5_2 := blk_cell R_2.out 5
  have Rc6_2 := blk_cell R_2.out 6
  have Rc7_2 := blk_cell R_2.out 7
  have q_2 := q_1.trans (b.mono q_1.size)
  clear S_1 Sz_1 Sc0_1 Sc1_1 Sc2_1 Sc3_1 Sc4_1 Sc5_1 Sc6_1 Sc7_1 R_1 Rz_1 Rc0_1 Rc1_1 Rc2_1 Rc3_1 Rc4_1 Rc5_1 Rc6_1 Rc7_1 q_1
  clear b
  have hN := H_hN.out
  have hk := H_hk.out
  have j0 := H_j0.out
  have j1 := H_j1.out
  go_wp2_with fail
  refine (wit_yes r _ HR.out).mono ?_
  rintro e w' ⟨rfl, rfl⟩
  have rf0 := blk_free R_2.out 0
  have sf0 := blk_free S_2.out 0
  have rf1 := blk_free R_2.out 1
  have sf1 := blk_free S_2.out 1
  have rf2 := blk_free R_2.out 2
  have sf2 := blk_free S_2.out 2
  have rf3 := blk_free R_2.out 3
  have sf3 := blk_free S_2.out 3
  have rf4 := blk_free R_2.out 4
  have sf4 := blk_free S_2.out 4
  have rf5 := blk_free R_2.out 5
  have sf5 := blk_free S_2.out 5
  have rf6 := blk_free R_2.out 6
  have sf6 := blk_free S_2.out 6
  have rf7 := blk_free R_2.out 7
  have sf7 := blk_free S_2.out 7

  have QY := Lib.hid q_2
  clear R_2 S_2
  go_wp2
  refine bodyPost_ret (v := .tuple #[.agg #[.int .i64 (1), .bool s.hl, .bool (true), .int .i64 s.la, .int .i64 (s.no), .int .i64 (N), .int .i64 (s.no), .int .i64 (0)], .int .i64 0]) (by simp [results, Try.results10, go_sem, *]) rfl ⟨rfl, ?_⟩
  (repeat' (first | (with_reducible exact QY.out) | (with_reducible exact Below.refl _ _) | (with_reducible refine Below.alloc ?_ ?_ _) | (with_reducible refine Below.setCell ?_ ?_ _) | (with_reducible refine Below.drew ?_) | (with_reducible refine below_drewN ?_ _) | omega | (dsimp only; omega) | (simp; done) | (simp; omega)))

set_option maxHeartbeats 2000000 in
theorem rsample_cd (s : HS) (r N : Int) (w : World) (hV : HV s) (hR : NV r) (hN : min (s.sa + 1) 1073741824 = N) (h8 : 8 ≤ N) (hk : s.hn = true) (hk2 : s.no ≤ r) (j0 : s.p = 1) (j1 : s.no < s.ba) :
    Calls Try.prog 10 #[.agg #[.int .i64 s.p, .bool s.hl, .bool s.hn, .int .i64 s.la, .int .i64 s.no, .int .i64 s.sa, .int .i64 s.ba, .int .i64 s.ro], .int .i64 r] w fun e w' => e = .returned (.tuple #[.agg #[.int .i64 (0), .bool s.hl, .bool (true), .int .i64 s.la, .int .i64 (s.no), .int .i64 (N), .int .i64 s.ba, .int .i64 s.ro], .int .i64 0]) ∧ Below w.heap.size w w' := by
  have HV' := Lib.hid hV
  obtain ⟨⟨p0, p1⟩, ⟨a0, a1⟩, ⟨b0, b1⟩, ⟨c0, c1⟩, ⟨d0, d1⟩, e0, e1⟩ := hV
  have N0 : 0 ≤ N ∧ N ≤ 1073741824 := by omega
  have HR := Lib.hid hR
  obtain ⟨r0, r1⟩ := hR
  have q_0 := Below.refl w.heap.size w
  have H_hN := Lib.hid hN
  clear hN
  have H_hk := Lib.hid hk
  clear hk
  have H_j0 := Lib.hid j0
  clear j0
  go_enter Try.func10, Try.ntmps10
  go_wp2_with fail
  have b : Below w.heap.size w ((w.alloc (.cells #[.int .i64 s.p, .bool s.hl, .bool s.hn, .int .i64 s.la, .int .i64 s.no, .int .i64 s.sa, .int .i64 s.ba, .int .i64 s.ro] 25)).alloc (.cells #[.int .i64 0, .bool false, .bool false, .int .i64 0, .int .i64 0, .int .i64 0, .int .i64 0, .int .i64 0] 25)) := (((Below.refl _ w).alloc (Nat.le_refl _) (.cells #[.int .i64 s.p, .bool s.hl, .bool s.hn, .int .i64 s.la, .int .i64 s.no, .int .i64 s.sa, .int .i64 s.ba, .int .i64 s.ro] 25)).alloc (by simp only [World.size_alloc]; omega) (.cells #[.int .i64 0, .bool false, .bool false, .int .i64 0, .int .i64 0, .int .i64 0, .int .i64 0, .int .i64 0] 25))
  have nb0 := blk_new w (.cells #[.int .i64 s.p, .bool s.hl, .bool s.hn, .int .i64 s.la, .int .i64 s.no, .int .i64 s.sa, .int .i64 s.ba, .int .i64 s.ro] 25)
  have nb0 := (Below.heap_alloc (w.alloc (.cells #[.int .i64 s.p, .bool s.hl, .bool s.hn, .int .i64 s.la, .int .i64 s.no, .int .i64 s.sa, .int .i64 s.ba, .int .i64 s.ro] 25)) (.cells #[.int .i64 0, .bool false, .bool false, .int .i64 0, .int .i64 0, .int .i64 0, .int .i64 0, .int .i64 0] 25) (w.heap.size) (by simp only [World.size_alloc]; omega)).trans nb0
  have nz0 : w.heap.size < ((w.alloc (.cells #[.int .i64 s.p, .bool s.hl, .bool s.hn, .int .i64 s.la, .int .i64 s.no, .int .i64 s.sa, .int .i64 s.ba, .int .i64 s.ro] 25)).alloc (.cells #[.int .i64 0, .bool false, .bool false, .int .i64 0, .int .i64 0, .int .i64 0, .int .i64 0, .int .i64 0] 25)).heap.size := by simp only [World.size_alloc]; omega
  have nb1 := blk_new (w.alloc (.cells #[.int .i64 s.p, .bool s.hl, .bool s.hn, .int .i64 s.la, .int .i64 s.no, .int .i64 s.sa, .int .i64 s.ba, .int .i64 s.ro] 25)) (.cells #[.int .i64 0, .bool false, .bool false, .int .i64 0, .int .i64 0, .int .i64 0, .int .i64 0, .int .i64 0] 25)
  simp only [World.size_alloc] at nb1
  have nz1 : w.heap.size + 1 < ((w.alloc (.cells #[.int .i64 s.p, .bool s.hl, .bool s.hn, .int .i64 s.la, .int .i64 s.no, .int .i64 s.sa, .int .i64 s.ba, .int .i64 s.ro] 25)).alloc (.cells #[.int .i64 0, .bool false, .bool false, .int .i64 0, .int .i64 0, .int .i64 0, .int .i64 0, .int .i64 0] 25)).heap.size := by simp only [World.size_alloc]; omega
  have q_1 := q_0.trans (b.mono q_0.size)
  clear q_0
  clear b
  have S_1 := Lib.hid nb0
  have Sz_1 := nz0
  clear nb0 nz0
  have Sc0_1 := blk_cell S_1.out 0
  have Sc1_1 := blk_cell S_1.out 1
  have Sc2_1 := blk_cell S_1.out 2
  have Sc3_1 := blk_cell S_1.out 3
  have Sc4_1 := blk_cell S_1.out 4
  have Sc5_1 := blk_cell S_1.out 5
  have Sc6_1 := blk_cell S_1.out 6
  have Sc7_1 := blk_cell S_1.out 7
  have R_1 := Lib.hid nb1
  have Rz_1 := nz1
  clear nb1 nz1
  have Rc0_1 := blk_cell R_1.out 0
  have Rc1_1 := blk_cell R_1.out 1
  have Rc2_1 := blk_cell R_1.out 2
  have Rc3_1 := blk_cell R_1.out 3
  have Rc4_1 := blk_cell R_1.out 4
  have Rc5_1 := blk_cell R_1.out 5
  have Rc6_1 := blk_cell R_1.out 6
  have Rc7_1 := blk_cell R_1.out 7
  generalize ((w.alloc (.cells #[.int .i64 s.p, .bool s.hl, .bool s.hn, .int .i64 s.la, .int .i64 s.no, .int .i64 s.sa, .int .i64 s.ba, .int .i64 s.ro] 25)).alloc (.cells #[.int .i64 0, .bool false, .bool false, .int .i64 0, .int .i64 0, .int .i64 0, .int .i64 0, .int .i64 0] 25)) = V1 at q_1 S_1 Sz_1 Sc0_1 Sc1_1 Sc2_1 Sc3_1 Sc4_1 Sc5_1 Sc6_1 Sc7_1 R_1 Rz_1 Rc0_1 Rc1_1 Rc2_1 Rc3_1 Rc4_1 Rc5_1 Rc6_1 Rc7_1 ⊢
  refine (rcheck_yes s _ HV'.out).mono ?_
  rintro e V2 ⟨rfl, b⟩
  have S_2 := Lib.hid ((b.block _ Sz_1).trans S_1.out)
  have Sz_2 := Nat.lt_of_lt_of_le Sz_1 b.size
  have Sc0_2 := blk_cell S_2.out 0
  have Sc1_2 := blk_cell S_2.out 1
  have Sc2_2 := blk_cell S_2.out 2
  have Sc3_2 := blk_cell S_2.out 3
  have Sc4_2 := blk_cell S_2.out 4
  have Sc5_2 := blk_cell S_2.out 5
  have Sc6_2 := blk_cell S_2.out 6
  have Sc7_2 := blk_cell S_2.out 7
  have R_2 := Lib.hid ((b.block _ Rz_1).trans R_1.out)
  have Rz_2 := Nat.lt_of_lt_of_le Rz_1 b.size
  have Rc0_2 := blk_cell R_2.out 0
  have Rc1_2 := blk_cell R_2.out 1
  have Rc2_2 := blk_cell R_2.out 2
  have Rc3_2 := blk_cell R_2.out 3
  have Rc4_2 := blk_cell R_2.out 4
  have Rc5_2 := blk_cell R_2.out 5
  have Rc6_2 := blk_cell R_2.out 6
  have Rc7_2 := blk_cell R_2.out 7
  have q_2 := q_1.trans (b.mono q_1.size)
  clear S_1 Sz_1 Sc0_1 Sc1_1 Sc2_1 Sc3_1 Sc4_1 Sc5_1 Sc6_1 Sc7_1 R_1 Rz_1 Rc0_1 Rc1_1 Rc2_1 Rc3_1 Rc4_1 Rc5_1 Rc6_1 Rc7_1 q_1
  clear b
  have hN := H_hN.out
  have hk := H_hk.out
  have j0 := H_j0.out
  go_wp2_with fail
  refine (wit_yes r _ HR.out).mono ?_
  rintro e w' ⟨rfl, rfl⟩
  have rf0 := blk_free R_2.out 0
  have sf0 := blk_free S_2.out 0
  have rf1 := blk_free R_2.out 1
  have sf1 := blk_free S_2.out 1
  have rf2 := blk_free R_2.out 2
  have sf2 := blk_free S_2.out 2
  have rf3 := blk_free R_2.out 3
  have sf3 := blk_free S_2.out 3
  have rf4 := blk_free R_2.out 4
  have sf4 := blk_free S_2.out 4
  have rf5 := blk_free R_2.out 5
  have sf5 := blk_free S_2.out 5
  have rf6 := blk_free R_2.out 6
  have sf6 := blk_free S_2.out 6
  have rf7 := blk_free R_2.out 7
  have sf7 := blk_free S_2.out 7

  have QY := Lib.hid q_2
  clear R_2 S_2
  go_wp2
  refine bodyPost_ret (v := .tuple #[.agg #[.int .i64 (0), .bool s.hl, .bool (true), .int .i64 s.la, .int .i64 (s.no), .int .i64 (N), .int .i64 s.ba, .int .i64 s.ro], .int .i64 0]) (by simp [results, Try.results10, go_sem, *]) rfl ⟨rfl, ?_⟩
  (repeat' (first | (with_reducible exact QY.out) | (with_reducible exact Below.refl _ _) | (with_reducible refine Below.alloc ?_ ?_ _) | (with_reducible refine Below.setCell ?_ ?_ _) | (with_reducible refine Below.drew ?_) | (with_reducible refine below_drewN ?_ _) | omega | (dsimp only; omega) | (simp; done) | (simp; omega)))

set_option maxHeartbeats 2000000 in
theorem rsample_cn1 (s : HS) (r N : Int) (w : World) (hV : HV s) (hR : NV r) (hN : min (s.sa + 1) 1073741824 = N) (h8 : 8 ≤ N) (hk : s.hn = true) (hk2 : s.no ≤ r) (j0 : s.p = 1) (j1 : s.ba ≤ s.no) :
    Calls Try.prog 10 #[.agg #[.int .i64 s.p, .bool s.hl, .bool s.hn, .int .i64 s.la, .int .i64 s.no, .int .i64 s.sa, .int .i64 s.ba, .int .i64 s.ro], .int .i64 r] w fun e w' => e = .returned (.tuple #[.agg #[.int .i64 s.p, .bool s.hl, .bool (true), .int .i64 s.la, .int .i64 (s.no), .int .i64 (N), .int .i64 s.ba, .int .i64 s.ro], .int .i64 0]) ∧ Below w.heap.size w w' := by
  have HV' := Lib.hid hV
  obtain ⟨⟨p0, p1⟩, ⟨a0, a1⟩, ⟨b0, b1⟩, ⟨c0, c1⟩, ⟨d0, d1⟩, e0, e1⟩ := hV
  have N0 : 0 ≤ N ∧ N ≤ 1073741824 := by omega
  have HR := Lib.hid hR
  obtain ⟨r0, r1⟩ := hR
  have q_0 := Below.refl w.heap.size w
  have H_hN := Lib.hid hN
  clear hN
  have H_hk := Lib.hid hk
  clear hk
  have H_j0 := Lib.hid j0
  clear j0
  go_enter Try.func10, Try.ntmps10
  go_wp2_with fail
  have b : Below w.heap.size w ((w.alloc (.cells #[.int .i64 s.p, .bool s.hl, .bool s.hn, .int .i64 s.la, .int .i64 s.no, .int .i64 s.sa, .int .i64 s.ba, .int .i64 s.ro] 25)).alloc (.cells #[.int .i64 0, .bool false, .bool false, .int .i64 0, .int .i64 0, .int .i64 0, .int .i64 0, .int .i64 0] 25)) := (((Below.refl _ w).alloc (Nat.le_refl _) (.cells #[.int .i64 s.p, .bool s.hl, .bool s.hn, .int .i64 s.la, .int .i64 s.no, .int .i64 s.sa, .int .i64 s.ba, .int .i64 s.ro] 25)).alloc (by simp only [World.size_alloc]; omega) (.cells #[.int .i64 0, .bool false, .bool false, .int .i64 0, .int .i64 0, .int .i64 0, .int .i64 0, .int .i64 0] 25))
  have nb0 := blk_new w (.cells #[.int .i64 s.p, .bool s.hl, .bool s.hn, .int .i64 s.la, .int .i64 s.no, .int .i64 s.sa, .int .i64 s.ba, .int .i64 s.ro] 25)
  have nb0 := (Below.heap_alloc (w.alloc (.cells #[.int .i64 s.p, .bool s.hl, .bool s.hn, .int .i64 s.la, .int .i64 s.no, .int .i64 s.sa, .int .i64 s.ba, .int .i64 s.ro] 25)) (.cells #[.int .i64 0, .bool false, .bool false, .int .i64 0, .int .i64 0, .int .i64 0, .int .i64 0, .int .i64 0] 25) (w.heap.size) (by simp only [World.size_alloc]; omega)).trans nb0
  have nz0 : w.heap.size < ((w.alloc (.cells #[.int .i64 s.p, .bool s.hl, .bool s.hn, .int .i64 s.la, .int .i64 s.no, .int .i64 s.sa, .int .i64 s.ba, .int .i64 s.ro] 25)).alloc (.cells #[.int .i64 0, .bool false, .bool false, .int .i64 0, .int .i64 0, .int .i64 0, .int .i64 0, .int .i64 0] 25)).heap.size := by simp only [World.size_alloc]; omega
  have nb1 := blk_new (w.alloc (.cells #[.int .i64 s.p, .bool s.hl, .bool s.hn, .int .i64 s.la, .int .i64 s.no, .int .i64 s.sa, .int .i64 s.ba, .int .i64 s.ro] 25)) (.cells #[.int .i64 0, .bool false, .bool false, .int .i64 0, .int .i64 0, .int .i64 0, .int .i64 0, .int .i64 0] 25)
  simp only [World.size_alloc] at nb1
  have nz1 : w.heap.size + 1 < ((w.alloc (.cells #[.int .i64 s.p, .bool s.hl, .bool s.hn, .int .i64 s.la, .int .i64 s.no, .int .i64 s.sa, .int .i64 s.ba, .int .i64 s.ro] 25)).alloc (.cells #[.int .i64 0, .bool false, .bool false, .int .i64 0, .int .i64 0, .int .i64 0, .int .i64 0, .int .i64 0] 25)).heap.size := by simp only [World.size_alloc]; omega
  have q_1 := q_0.trans (b.mono q_0.size)
  clear q_0
  clear b
  have S_1 := Lib.hid nb0
  have Sz_1 := nz0
  clear nb0 nz0
  have Sc0_1 := blk_cell S_1.out 0
  have Sc1_1 := blk_cell S_1.out 1
  have Sc2_1 := blk_cell S_1.out 2
  have Sc3_1 := blk_cell S_1.out 3
  have Sc4_1 := blk_cell S_1.out 4
  have Sc5_1 := blk_cell S_1.out 5
  have Sc6_1 := blk_cell S_1.out 6
  have Sc7_1 := blk_cell S_1.out 7
  have R_1 := Lib.hid nb1
  have Rz_1 := nz1
  clear nb1 nz1
  have Rc0_1 := blk_cell R_1.out 0
  have Rc1_1 := blk_cell R_1.out 1
  have Rc2_1 := blk_cell R_1.out 2
  have Rc3_1 := blk_cell R_1.out 3
  have Rc4_1 := blk_cell R_1.out 4
  have Rc5_1 := blk_cell R_1.out 5
  have Rc6_1 := blk_cell R_1.out 6
  have Rc7_1 := blk_cell R_1.out 7
  generalize ((w.alloc (.cells #[.int .i64 s.p, .bool s.hl, .bool s.hn, .int .i64 s.la, .int .i64 s.no, .int .i64 s.sa, .int .i64 s.ba, .int .i64 s.ro] 25)).alloc (.cells #[.int .i64 0, .bool false, .bool false, .int .i64 0, .int .i64 0, .int .i64 0, .int .i64 0, .int .i64 0] 25)) = V1 at q_1 S_1 Sz_1 Sc0_1 Sc1_1 Sc2_1 Sc3_1 Sc4_1 Sc5_1 Sc6_1 Sc7_1 R_1 Rz_1 Rc0_1 Rc1_1 Rc2_1 Rc3_1 Rc4_1 Rc5_1 Rc6_1 Rc7_1 ⊢
  refine (rcheck_yes s _ HV'.out).mono ?_
  rintro e V2 ⟨rfl, b⟩
  have S_2 := Lib.hid ((b.block _ Sz_1).trans S_1.out)
  have Sz_2 := Nat.lt_of_lt_of_le Sz_1 b.size
  have Sc0_2 := blk_cell S_2.out 0
  have Sc1_2 := blk_cell S_2.out 1
  have Sc2_2 := blk_cell S_2.out 2
  have Sc3_2 := blk_cell S_2.out 3
  have Sc4_2 := blk_cell S_2.out 4
  have Sc5_2 := blk_cell S_2.out 5
  have Sc6_2 := blk_cell S_2.out 6
  have Sc7_2 := blk_cell S_2.out 7
  have R_2 := Lib.hid ((b.block _ Rz_1).trans R_1.out)
  have Rz_2 := Nat.lt_of_lt_of_le Rz_1 b.size
  have Rc0_2 := blk_cell R_2.out 0
  have Rc1_2 := blk_cell R_2.out 1
  have Rc2_2 := blk_cell R_2.out 2
  have Rc3_2 := blk_cell R_2.out 3
  have Rc4_2 := blk_cell R_2.out 4
  have Rc5_2 := blk_cell R_2.out 5
  have Rc6_2 := blk_cell R_2.out 6
  have Rc7_2 := blk_cell R_2.out 7
  have q_2 := q_1.trans (b.mono q_1.size)
  clear S_1 Sz_1 Sc0_1 Sc1_1 Sc2_1 Sc3_1 Sc4_1 Sc5_1 Sc6_1 Sc7_1 R_1 Rz_1 Rc0_1 Rc1_1 Rc2_1 Rc3_1 Rc4_1 Rc5_1 Rc6_1 Rc7_1 q_1
  clear b
  have hN := H_hN.out
  have hk := H_hk.out
  have j0 := H_j0.out
  go_wp2_with fail
  refine (wit_yes r _ HR.out).mono ?_
  rintro e w' ⟨rfl, rfl⟩
  have rf0 := blk_free R_2.out 0
  have sf0 := blk_free S_2.out 0
  have rf1 := blk_free R_2.out 1
  have sf1 := blk_free S_2.out 1
  have rf2 := blk_free R_2.out 2
  have sf2 := blk_free S_2.out 2
  have rf3 := blk_free R_2.out 3
  have sf3 := blk_free S_2.out 3
  have rf4 := blk_free R_2.out 4
  have sf4 := blk_free S_2.out 4
  have rf5 := blk_free R_2.out 5
  have sf5 := blk_free S_2.out 5
  have rf6 := blk_free R_2.out 6
  have sf6 := blk_free S_2.out 6
  have rf7 := blk_free R_2.out 7
  have sf7 := blk_free S_2.out 7

  have QY := Lib.hid q_2
  clear R_2 S_2
  go_wp2
  refine bodyPost_ret (v := .tuple #[.agg #[.int .i64 s.p, .bool s.hl, .bool (true), .int .i64 s.la, .int .i64 (s.no), .int .i64 (N), .int .i64 s.ba, .int .i64 s.ro], .int .i64 0]) (by simp [results, Try.results10, go_sem, *]) rfl ⟨rfl, ?_⟩
  (repeat' (first | (with_reducible exact QY.out) | (with_reducible exact Below.refl _ _) | (with_reducible refine Below.alloc ?_ ?_ _) | (with_reducible refine Below.setCell ?_ ?_ _) | (with_reducible refine Below.drew ?_) | (with_reducible refine below_drewN ?_ _) | omega | (dsimp only; omega) | (simp; done) | (simp; omega)))

set_option maxHeartbeats 2000000 in
theorem rsample_cn2 (s : HS) (r N : Int) (w : World) (hV : HV s) (hR : NV r) (hN : min (s.sa + 1) 1073741824 = N) (h8 : 8 ≤ N) (hk : s.hn = true) (hk2 : s.no ≤ r) (j0 : s.p = 2) :
    Calls Try.prog 10 #[.agg #[.int .i64 s.p, .bool s.hl, .bool s.hn, .int .i64 s.la, .int .i64 s.no, .int .i64 s.sa, .int .i64 s.ba, .int .i64 s.ro], .int .i64 r] w fun e w' => e = .returned (.tuple #[.agg #[.int .i64 s.p, .bool s.hl, .bool (true), .int .i64 s.la, .int .i64 (s.no), .int .i64 (N), .int .i64 s.ba, .int .i64 s.ro], .int .i64 0]) ∧ Below w.heap.size w w' := by
  have HV' := Lib.hid hV
  obtain ⟨⟨p0, p1⟩, ⟨a0, a1⟩, ⟨b0, b1⟩, ⟨c0, c1⟩, ⟨d0, d1⟩, e0, e1⟩ := hV
  have N0 : 0 ≤ N ∧ N ≤ 1073741824 := by omega
  have HR := Lib.hid hR
  obtain ⟨r0, r1⟩ := hR
  have q_0 := Below.refl w.heap.size w
  have H_hN := Lib.hid hN
  clear hN
  have H_hk := Lib.hid hk
  clear hk
  have H_j0 := Lib.hid j0
  clear j0
  go_enter Try.func10, Try.ntmps10
  go_wp2_with fail
  have b : Below w.heap.size w ((w.alloc (.cells #[.int .i64 s.p, .bool s.hl, .bool s.hn, .int .i64 s.la, .int .i64 s.no, .int .i64 s.sa, .int .i64 s.ba, .int .i64 s.ro] 25)).alloc (.cells #[.int .i64 0, .bool false, .bool false, .int .i64 0, .int .i64 0, .int .i64 0, .int .i64 0, .int .i64 0] 25)) := (((Below.refl _ w).alloc (Nat.le_refl _) (.cells #[.int .i64 s.p, .bool s.hl, .bool s.hn, .int .i64 s.la, .int .i64 s.no, .int .i64 s.sa, .int .i64 s.ba, .int .i64 s.ro] 25)).alloc (by simp only [World.size_alloc]; omega) (.cells #[.int .i64 0, .bool false, .bool false, .int .i64 0, .int .i64 0, .int .i64 0, .int .i64 0, .int .i64 0] 25))
  have nb0 := blk_new w (.cells #[.int .i64 s.p, .bool s.hl, .bool s.hn, .int .i64 s.la, .int .i64 s.no, .int .i64 s.sa, .int .i64 s.ba, .int .i64 s.ro] 25)
  have nb0 := (Below.heap_alloc (w.alloc (.cells #[.int .i64 s.p, .bool s.hl, .bool s.hn, .int .i64 s.la, .int .i64 s.no, .int .i64 s.sa, .int .i64 s.ba, .int .i64 s.ro] 25)) (.cells #[.int .i64 0, .bool false, .bool false, .int .i64 0, .int .i64 0, .int .i64 0, .int .i64 0, .int .i64 0] 25) (w.heap.size) (by simp only [World.size_alloc]; omega)).trans nb0
  have nz0 : w.heap.size < ((w.alloc (.cells #[.int .i64 s.p, .bool s.hl, .bool s.hn, .int .i64 s.la, .int .i64 s.no, .int .i64 s.sa, .int .i64 s.ba, .int .i64 s.ro] 25)).alloc (.cells #[.int .i64 0, .bool false, .bool false, .int .i64 0, .int .i64 0, .int .i64 0, .int .i64 0, .int .i64 0] 25)).heap.size := by simp only [World.size_alloc]; omega
  have nb1 := blk_new (w.alloc (.cells #[.int .i64 s.p, .bool s.hl, .bool s.hn, .int .i64 s.la, .int .i64 s.no, .int .i64 s.sa, .int .i64 s.ba, .int .i64 s.ro] 25)) (.cells #[.int .i64 0, .bool false, .bool false, .int .i64 0, .int .i64 0, .int .i64 0, .int .i64 0, .int .i64 0] 25)
  simp only [World.size_alloc] at nb1
  have nz1 : w.heap.size + 1 < ((w.alloc (.cells #[.int .i64 s.p, .bool s.hl, .bool s.hn, .int .i64 s.la, .int .i64 s.no, .int .i64 s.sa, .int .i64 s.ba, .int .i64 s.ro] 25)).alloc (.cells #[.int .i64 0, .bool false, .bool false, .int .i64 0, .int .i64 0, .int .i64 0, .int .i64 0, .int .i64 0] 25)).heap.size := by simp only [World.size_alloc]; omega
  have q_1 := q_0.trans (b.mono q_0.size)
  clear q_0
  clear b
  have S_1 := Lib.hid nb0
  have Sz_1 := nz0
  clear nb0 nz0
  have Sc0_1 := blk_cell S_1.out 0
  have Sc1_1 := blk_cell S_1.out 1
  have Sc2_1 := blk_cell S_1.out 2
  have Sc3_1 := blk_cell S_1.out 3
  have Sc4_1 := blk_cell S_1.out 4
  have Sc5_1 := blk_cell S_1.out 5
  have Sc6_1 := blk_cell S_1.out 6
  have Sc7_1 := blk_cell S_1.out 7
  have R_1 := Lib.hid nb1
  have Rz_1 := nz1
  clear nb1 nz1
  have Rc0_1 := blk_cell R_1.out 0
  have Rc1_1 := blk_cell R_1.out 1
  have Rc2_1 := blk_cell R_1.out 2
  have Rc3_1 := blk_cell R_1.out 3
  have Rc4_1 := blk_cell R_1.out 4
  have Rc5_1 := blk_cell R_1.out 5
  have Rc6_1 := blk_cell R_1.out 6
  have Rc7_1 := blk_cell R_1.out 7
  generalize ((w.alloc (.cells #[.int .i64 s.p, .bool s.hl, .bool s.hn, .int .i64 s.la, .int .i64 s.no, .int .i64 s.sa, .int .i64 s.ba, .int .i64 s.ro] 25)).alloc (.cells #[.int .i64 0, .bool false, .bool false, .int .i64 0, .int .i64 0, .int .i64 0, .int .i64 0, .int .i64 0] 25)) = V1 at q_1 S_1 Sz_1 Sc0_1 Sc1_1 Sc2_1 Sc3_1 Sc4_1 Sc5_1 Sc6_1 Sc7_1 R_1 Rz_1 Rc0_1 Rc1_1 Rc2_1 Rc3_1 Rc4_1 Rc5_1 Rc6_1 Rc7_1 ⊢
  refine (rcheck_yes s _ HV'.out).mono ?_
  rintro e V2 ⟨rfl, b⟩
  have S_2 := Lib.hid ((b.block _ Sz_1).trans S_1.out)
  have Sz_2 := Nat.lt_of_lt_of_le Sz_1 b.size
  have Sc0_2 := blk_cell S_2.out 0
  have Sc1_2 := blk_cell S_2.out 1
  have Sc2_2 := blk_cell S_2.out 2
  have Sc3_2 := blk_cell S_2.out 3
  have Sc4_2 := blk_cell S_2.out 4
  have Sc5_2 := blk_cell S_2.out 5
  have Sc6_2 := blk_cell S_2.out 6
  have Sc7_2 := blk_cell S_2.out 7
  have R_2 := Lib.hid ((b.block _ Rz_1).trans R_1.out)
  have Rz_2 := Nat.lt_of_lt_of_le Rz_1 b.size
  have Rc0_2 := blk_cell R_2.out 0
  have Rc1_2 := blk_cell R_2.out 1
  have Rc2_2 := blk_cell R_2.out 2
  have Rc3_2 := blk_cell R_2.out 3
  have Rc4_2 := blk_cell R_2.out 4
  have Rc5_2 := blk_cell R_2.out 5
  have Rc6_2 := blk_cell R_2.out 6
  have Rc7_2 := blk_cell R_2.out 7
  have q_2 := q_1.trans (b.mono q_1.size)
  clear S_1 Sz_1 Sc0_1 Sc1_1 Sc2_1 Sc3_1 Sc4_1 Sc5_1 Sc6_1 Sc7_1 R_1 Rz_1 Rc0_1 Rc1_1 Rc2_1 Rc3_1 Rc4_1 Rc5_1 Rc6_1 Rc7_1 q_1
  clear b
  have hN := H_hN.out
  have hk := H_hk.out
  have j0 := H_j0.out
  go_wp2_with fail
  refine (wit_yes r _ HR.out).mono ?_
  rintro e w' ⟨rfl, rfl⟩
  have rf0 := blk_free R_2.out 0
  have sf0 := blk_free S_2.out 0
  have rf1 := blk_free R_2.out 1
  have sf1 := blk_free S_2.out 1
  have rf2 := blk_free R_2.out 2
  have sf2 := blk_free S_2.out 2
  have rf3 := blk_free R_2.out 3
  have sf3 := blk_free S_2.out 3
  have rf4 := blk_free R_2.out 4
  have sf4 := blk_free S_2.out 4
  have rf5 := blk_free R_2.out 5
  have sf5 := blk_free S_2.out 5
  have rf6 := blk_free R_2.out 6
  have sf6 := blk_free S_2.out 6
  have rf7 := blk_free R_2.out 7
  have sf7 := blk_free S_2.out 7

  have QY := Lib.hid q_2
  clear R_2 S_2
  go_wp2
  refine bodyPost_ret (v := .tuple #[.agg #[.int .i64 s.p, .bool s.hl, .bool (true), .int .i64 s.la, .int .i64 (s.no), .int .i64 (N), .int .i64 s.ba, .int .i64 s.ro], .int .i64 0]) (by simp [results, Try.results10, go_sem, *]) rfl ⟨rfl, ?_⟩
  (repeat' (first | (with_reducible exact QY.out) | (with_reducible exact Below.refl _ _) | (with_reducible refine Below.alloc ?_ ?_ _) | (with_reducible refine Below.setCell ?_ ?_ _) | (with_reducible refine Below.drew ?_) | (with_reducible refine below_drewN ?_ _) | omega | (dsimp only; omega) | (simp; done) | (simp; omega)))

set_option maxHeartbeats 2000000 in
theorem rsample_cn3 (s : HS) (r N : Int) (w : World) (hV : HV s) (hR : NV r) (hN : min (s.sa + 1) 1073741824 = N) (h8 : 8 ≤ N) (hk : s.hn = true) (hk2 : s.no ≤ r) (j0 : s.p = 0) (j1 : s.hl = false) :
    Calls Try.prog 10 #[.agg #[.int .i64 s.p, .bool s.hl, .bool s.hn, .int .i64 s.la, .int .i64 s.no, .int .i64 s.sa, .int .i64 s.ba, .int .i64 s.ro], .int .i64 r] w fun e w' => e = .returned (.tuple #[.agg #[.int .i64 s.p, .bool s.hl, .bool (true), .int .i64 s.la, .int .i64 (s.no), .int .i64 (N), .int .i64 s.ba, .int .i64 s.ro], .int .i64 0]) ∧ Below w.heap.size w w' := by
  have HV' := Lib.hid hV
  obtain ⟨⟨p0, p1⟩, ⟨a0, a1⟩, ⟨b0, b1⟩, ⟨c0, c1⟩, ⟨d0, d1⟩, e0, e1⟩ := hV
  have N0 : 0 ≤ N ∧ N ≤ 1073741824 := by omega
  have HR := Lib.hid hR
  obtain ⟨r0, r1⟩ := hR
  have q_0 := Below.refl w.heap.size w
  have H_hN := Lib.hid hN
  clear hN
  have H_hk := Lib.hid hk
  clear hk
  have H_j0 := Lib.hid j0
  clear j0
  have H_j1 := Lib.hid j1
  clear j1
  go_enter Try.func10, Try.ntmps10
  go_wp2_with fail
  have b : Below w.heap.size w ((w.alloc (.cells #[.int .i64 s.p, .bool s.hl, .bool s.hn, .int .i64 s.la, .int .i64 s.no, .int .i64 s.sa, .int .i64 s.ba, .int .i64 s.ro] 25)).alloc (.cells #[.int .i64 0, .bool false, .bool false, .int .i64 0, .int .i64 0, .int .i64 0, .int .i64 0, .int .i64 0] 25)) := (((Below.refl _ w).alloc (Nat.le_refl _) (.cells #[.int .i64 s.p, .bool s.hl, .bool s.hn, .int .i64 s.la, .int .i64 s.no, .int .i64 s.sa, .int .i64 s.ba, .int .i64 s.ro] 25)).alloc (by simp only [World.size_alloc]; omega) (.cells #[.int .i64 0, .bool false, .bool false, .int .i64 0, .int .i64 0, .int .i64 0, .int .i64 0, .int .i64 0] 25))
  have nb0 := blk_new w (.cells #[.int .i64 s.p, .bool s.hl, .bool s.hn, .int .i64 s.la, .int .i64 s.no, .int .i64 s.sa, .int .i64 s.ba, .int .i64 s.ro] 25)
  have nb0 := (Below.heap_alloc (w.alloc (.cells #[.int .i64 s.p, .bool s.hl, .bool s.hn, .int .i64 s.la, .int .i64 s.no, .int .i64 s.sa, .int .i64 s.ba, .int .i64 s.ro] 25)) (.cells #[.int .i64 0, .bool false, .bool false, .int .i64 0, .int .i64 0, .int .i64 0, .int .i64 0, .int .i64 0] 25) (w.heap.size) (by simp only [World.size_alloc]; omega)).trans nb0
  have nz0 : w.heap.size < ((w.alloc (.cells #[.int .i64 s.p, .bool s.hl, .bool s.hn, .int .i64 s.la, .int .i64 s.no, .int .i64 s.sa, .int .i64 s.ba, .int .i64 s.ro] 25)).alloc (.cells #[.int .i64 0, .bool false, .bool false, .int .i64 0, .int .i64 0, .int .i64 0, .int .i64 0, .int .i64 0] 25)).heap.size := by simp only [World.size_alloc]; omega
  have nb1 := blk_new (w.alloc (.cells #[.int .i64 s.p, .bool s.hl, .bool s.hn, .int .i64 s.la, .int .i64 s.no, .int .i64 s.sa, .int .i64 s.ba, .int .i64 s.ro] 25)) (.cells #[.int .i64 0, .bool false, .bool false, .int .i64 0, .int .i64 0, .int .i64 0, .int .i64 0, .int .i64 0] 25)
  simp only [World.size_alloc] at nb1
  have nz1 : w.heap.size + 1 < ((w.alloc (.cells #[.int .i64 s.p, .bool s.hl, .bool s.hn, .int .i64 s.la, .int .i64 s.no, .int .i64 s.sa, .int .i64 s.ba, .int .i64 s.ro] 25)).alloc (.cells #[.int .i64 0, .bool false, .bool false, .int .i64 0, .int .i64 0, .int .i64 0, .int .i64 0, .int .i64 0] 25)).heap.size := by simp only [World.size_alloc]; omega
  have q_1 := q_0.trans (b.mono q_0.size)
  clear q_0
  clear b
  have S_1 := Lib.hid nb0
  have Sz_1 := nz0
  clear nb0 nz0
  have Sc0_1 := blk_cell S_1.out 0
  have Sc1_1 := blk_cell S_1.out 1
  have Sc2_1 := blk_cell S_1.out 2
  have Sc3_1 := blk_cell S_1.out 3
  have Sc4_1 := blk_cell S_1.out 4
  have Sc5_1 := blk_cell S_1.out 5
  have Sc6_1 := blk_cell S_1.out 6
  have Sc7_1 := blk_cell S_1.out 7
  have R_1 := Lib.hid nb1
  have Rz_1 := nz1
  clear nb1 nz1
  have Rc0_1 := blk_cell R_1.out 0
  have Rc1_1 := blk_cell R_1.out 1
  have Rc2_1 := blk_cell R_1.out 2
  have Rc3_1 := blk_cell R_1.out 3
  have Rc4_1 := blk_cell R_1.out 4
  have Rc5_1 := blk_cell R_1.out 5
  have Rc6_1 := blk_cell R_1.out 6
  have Rc7_1 := blk_cell R_1.out 7
  generalize ((w.alloc (.cells #[.int .i64 s.p, .bool s.hl, .bool s.hn, .int .i64 s.la, .int .i64 s.no, .int .i64 s.sa, .int .i64 s.ba, .int .i64 s.ro] 25)).alloc (.cells #[.int .i64 0, .bool false, .bool false, .int .i64 0, .int .i64 0, .int .i64 0, .int .i64 0, .int .i64 0] 25)) = V1 at q_1 S_1 Sz_1 Sc0_1 Sc1_1 Sc2_1 Sc3_1 Sc4_1 Sc5_1 Sc6_1 Sc7_1 R_1 Rz_1 Rc0_1 Rc1_1 Rc2_1 Rc3_1 Rc4_1 Rc5_1 Rc6_1 Rc7_1 ⊢
  refine (rcheck_yes s _ HV'.out).mono ?_
  rintro e V2 ⟨rfl, b⟩
  have S_2 := Lib.hid ((b.block _ Sz_1).trans S_1.out)
  have Sz_2 := Nat.lt_of_lt_of_le Sz_1 b.size
  have Sc0_2 := blk_cell S_2.out 0
  have Sc1_2 := blk_cell S_2.out 1
  have Sc2_2 := blk_cell S_2.out 2
  have Sc3_2 := blk_cell S_2.out 3
  have Sc4_2 := blk_cell S_2.out 4
  have Sc5_2 := blk_cell S_2.out 5
  have Sc6_2 := blk_cell S_2.out 6
  have Sc7_2 := blk_cell S_2.out 7
  have R_2 := Lib.hid ((b.block _ Rz_1).trans R_1.out)
  have Rz_2 := Nat.lt_of_lt_of_le Rz_1 b.size
  have Rc0_2 := blk_cell R_2.out 0
  have Rc1_2 := blk_cell R_2.out 1
  have Rc2_2 := blk_cell R_2.out 2
  have Rc3_2 := blk_cell R_2.out 3
  have Rc4_2 := blk_cell R_2.out 4
  have Rc5_2 := blk_cell R_2.out 5
  have Rc6_2 := blk_cell R_2.out 6
  have Rc7_2 := blk_cell R_2.out 7
  have q_2 := q_1.trans (b.mono q_1.size)
  clear S_1 Sz_1 Sc0_1 Sc1_1 Sc2_1 Sc3_1 Sc4_1 Sc5_1 Sc6_1 Sc7_1 R_1 Rz_1 Rc0_1 Rc1_1 Rc2_1 Rc3_1 Rc4_1 Rc5_1 Rc6_1 Rc7_1 q_1
  clear b
  have hN := H_hN.out
  have hk := H_hk.out
  have j0 := H_j0.out
  have j1 := H_j1.out
  go_wp2_with fail
  refine (wit_yes r _ HR.out).mono ?_
  rintro e w' ⟨rfl, rfl⟩
  have rf0 := blk_free R_2.out 0
  have sf0 := blk_free S_2.out 0
  have rf1 := blk_free R_2.out 1
  have sf1 := blk_free S_2.out 1
  have rf2 := blk_free R_2.out 2
  have sf2 := blk_free S_2.out 2
  have rf3 := blk_free R_2.out 3
  have sf3 := blk_free S_2.out 3
  have rf4 := blk_free R_2.out 4
  have sf4 := blk_free S_2.out 4
  have rf5 := blk_free R_2.out 5
  have sf5 := blk_free S_2.out 5
  have rf6 := blk_free R_2.out 6
  have sf6 := blk_free S_2.out 6
  have rf7 := blk_free R_2.out 7
  have sf7 := blk_free S_2.out 7

  have QY := Lib.hid q_2
  clear R_2 S_2
  go_wp2
  refine bodyPost_ret (v := .tuple #[.agg #[.int .i64 s.p, .bool s.hl, .bool (true), .int .i64 s.la, .int .i64 (s.no), .int .i64 (N), .int .i64 s.ba, .int .i64 s.ro], .int .i64 0]) (by simp [results, Try.results10, go_sem, *]) rfl ⟨rfl, ?_⟩
  (repeat' (first | (with_reducible exact QY.out) | (with_reducible exact Below.refl _ _) | (with_reducible refine Below.alloc ?_ ?_ _) | (with_reducible refine Below.setCell ?_ ?_ _) | (with_reducible refine Below.drew ?_) | (with_reducible refine below_drewN ?_ _) | omega | (dsimp only; omega) | (simp; done) | (simp; omega)))

set_option maxHeartbeats 2000000 in
theorem rsample_cn4 (s : HS) (r N : Int) (w : World) (hV : HV s) (hR : NV r) (hN : min (s.sa + 1) 1073741824 = N) (h8 : 8 ≤ N) (hk : s.hn = true) (hk2 : s.no ≤ r) (j0 : s.p = 0) (j1 : s.hl = true) (j2 : s.no < s.la + max 4 (min 16 (s.la / 8))) :
    Calls Try.prog 10 #[.agg #[.int .i64 s.p, .bool s.hl, .bool s.hn, .int .i64 s.la, .int .i64 s.no, .int .i64 s.sa, .int .i64 s.ba, .int .i64 s.ro], .int .i64 r] w fun e w' => e = .returned (.tuple #[.agg #[.int .i64 s.p, .bool s.hl, .bool (true), .int .i64 s.la, .int .i64 (s.no), .int .i64 (N), .int .i64 s.ba, .int .i64 s.ro], .int .i64 0]) ∧ Below w.heap.size w w' := by
  have HV' := Lib.hid hV
  obtain ⟨⟨p0, p1⟩, ⟨a0, a1⟩, ⟨b0, b1⟩, ⟨c0, c1⟩, ⟨d0, d1⟩, e0, e1⟩ := hV
  have N0 : 0 ≤ N ∧ N ≤ 1073741824 := by omega
  have HR := Lib.hid hR
  obtain ⟨r0, r1⟩ := hR
  have q_0 := Below.refl w.heap.size w
  have H_hN := Lib.hid hN
  clear hN
  have H_hk := Lib.hid hk
  clear hk
  have H_j0 := Lib.hid j0
  clear j0
  have H_j1 := Lib.hid j1
  clear j1
  go_enter Try.func10, Try.ntmps10
  go_wp2_with fail
  have b : Below w.heap.size w ((w.alloc (.cells #[.int .i64 s.p, .bool s.hl, .bool s.hn, .int .i64 s.la, .int .i64 s.no, .int .i64 s.sa, .int .i64 s.ba, .int .i64 s.ro] 25)).alloc (.cells #[.int .i64 0, .bool false, .bool false, .int .i64 0, .int .i64 0, .int .i64 0, .int .i64 0, .int .i64 0] 25)) := (((Below.refl _ w).alloc (Nat.le_refl _) (.cells #[.int .i64 s.p, .bool s.hl, .bool s.hn, .int .i64 s.la, .int .i64 s.no, .int .i64 s.sa, .int .i64 s.ba, .int .i64 s.ro] 25)).alloc (by simp only [World.size_alloc]; omega) (.cells #[.int .i64 0, .bool false, .bool false, .int .i64 0, .int .i64 0, .int .i64 0, .int .i64 0, .int .i64 0] 25))
  have nb0 := blk_new w (.cells #[.int .i64 s.p, .bool s.hl, .bool s.hn, .int .i64 s.la, .int .i64 s.no, .int .i64 s.sa, .int .i64 s.ba, .int .i64 s.ro] 25)
  have nb0 := (Below.heap_alloc (w.alloc (.cells #[.int .i64 s.p, .bool s.hl, .bool s.hn, .int .i64 s.la, .int .i64 s.no, .int .i64 s.sa, .int .i64 s.ba, .int .i64 s.ro] 25)) (.cells #[.int .i64 0, .bool false, .bool false, .int .i64 0, .int .i64 0, .int .i64 0, .int .i64 0, .int .i64 0] 25) (w.heap.size) (by simp only [World.size_alloc]; omega)).trans nb0
  have nz0 : w.heap.size < ((w.alloc (.cells #[.int .i64 s.p, .bool s.hl, .bool s.hn, .int .i64 s.la, .int .i64 s.no, .int .i64 s.sa, .int .i64 s.ba, .int .i64 s.ro] 25)).alloc (.cells #[.int .i64 0, .bool false, .bool false, .int .i64 0, .int .i64 0, .int .i64 0, .int .i64 0, .int .i64 0] 25)).heap.size := by simp only [World.size_alloc]; omega
  have nb1 := blk_new (w.alloc (.cells #[.int .i64 s.p, .bool s.hl, .bool s.hn, .int .i64 s.la, .int .i64 s.no, .int .i64 s.sa, .int .i64 s.ba, .int .i64 s.ro] 25)) (.cells #[.int .i64 0, .bool false, .bool false, .int .i64 0, .int .i64 0, .int .i64 0, .int .i64 0, .int .i64 0] 25)
  simp only [World.size_alloc] at nb1
  have nz1 : w.heap.size + 1 < ((w.alloc (.cells #[.int .i64 s.p, .bool s.hl, .bool s.hn, .int .i64 s.la, .int .i64 s.no, .int .i64 s.sa, .int .i64 s.ba, .int .i64 s.ro] 25)).alloc (.cells #[.int .i64 0, .bool false, .bool false, .int .i64 0, .int .i64 0, .int .i64 0, .int .i64 0, .int .i64 0] 25)).heap.size := by simp only [World.size_alloc]; omega
  have q_1 := q_0.trans (b.mono q_0.size)
  clear q_0
  clear b
  have S_1 := Lib.hid nb0
  have Sz_1 := nz0
  clear nb0 nz0
  have Sc0_1 := blk_cell S_1.out 0
  have Sc1_1 := blk_cell S_1.out 1
  have Sc2_1 := blk_cell S_1.out 2
  have Sc3_1 := blk_cell S_1.out 3
  have Sc4_1 := blk_cell S_1.out 4
  have Sc5_1 := blk_cell S_1.out 5
  have Sc6_1 := blk_cell S_1.out 6
  have Sc7_1 := blk_cell S_1.out 7
  have R_1 := Lib.hid nb1
  have Rz_1 := nz1
  clear nb1 nz1
  have Rc0_1 := blk_cell R_1.out 0
  have Rc1_1 := blk_cell R_1.out 1
  have Rc2_1 := blk_cell R_1.out 2
  have Rc3_1 := blk_cell R_1.out 3
  have Rc4_1 := blk_cell R_1.out 4
  have Rc5_1 := blk_cell R_1.out 5
  have Rc6_1 := blk_cell R_1.out 6
  have Rc7_1 := blk_cell R_1.out 7
  generalize ((w.alloc (.cells #[.int .i64 s.p, .bool s.hl, .bool s.hn, .int .i64 s.la, .int .i64 s.no, .int .i64 s.sa, .int .i64 s.ba, .int .i64 s.ro] 25)).alloc (.cells #[.int .i64 0, .bool false, .bool false, .int .i64 0, .int .i64 0, .int .i64 0, .int .i64 0, .int .i64 0] 25)) = V1 at q_1 S_1 Sz_1 Sc0_1 Sc1_1 Sc2_1 Sc3_1 Sc4_1 Sc5_1 Sc6_1 Sc7_1 R_1 Rz_1 Rc0_1 Rc1_1 Rc2_1 Rc3_1 Rc4_1 Rc5_1 Rc6_1 Rc7_1 ⊢
  refine (rcheck_yes s _ HV'.out).mono ?_
  rintro e V2 ⟨rfl, b⟩
  have S_2 := Lib.hid ((b.block _ Sz_1).trans S_1.out)
  have Sz_2 := Nat.lt_of_lt_of_le Sz_1 b.size
  have Sc0_2 := blk_cell S_2.out 0
  have Sc1_2 := blk_cell S_2.out 1
  have Sc2_2 := blk_cell S_2.out 2
  have Sc3_2 := blk_cell S_2.out 3
  have Sc4_2 := blk_cell S_2.out 4
  have Sc5_2 := blk_cell S_2.out 5
  have Sc6_2 := blk_cell S_2.out 6
  have Sc7_2 := blk_cell S_2.out 7
  have R_2 := Lib.hid ((b.block _ Rz_1).trans R_1.out)
  have Rz_2 := Nat.lt_of_lt_of_le Rz_1 b.size
  have Rc0_2 := blk_cell R_2.out 0
  have Rc1_2 := blk_cell R_2.out 1
  have Rc2_2 := blk_cell R_2.out 2
  have Rc3_2 := blk_cell R_2.out 3
  have Rc4_2 := blk_cell R_2.out 4
  have Rc5_2 := blk_cell R_2.out 5
  have Rc6_2 := blk_cell R_2.out 6
  have Rc7_2 := blk_cell R_2.out 7
  have q_2 := q_1.trans (b.mono q_1.size)
  clear S_1 Sz_1 Sc0_1 Sc1_1 Sc2_1 Sc3_1 Sc4_1 Sc5_1 Sc6_1 Sc7_1 R_1 Rz_1 Rc0_1 Rc1_1 Rc2_1 Rc3_1 Rc4_1 Rc5_1 Rc6_1 Rc7_1 q_1
  clear b
  have hN := H_hN.out
  have hk := H_hk.out
  have j0 := H_j0.out
  have j1 := H_j1.out
  go_wp2_with fail
  refine (wit_yes r _ HR.out).mono ?_
  rintro e w' ⟨rfl, rfl⟩
  have rf0 := blk_free R_2.out 0
  have sf0 := blk_free S_2.out 0
  have rf1 := blk_free R_2.out 1
  have sf1 := blk_free S_2.out 1
  have rf2 := blk_free R_2.out 2
  have sf2 := blk_free S_2.out 2
  have rf3 := blk_free R_2.out 3
  have sf3 := blk_free S_2.out 3
  have rf4 := blk_free R_2.out 4
  have sf4 := blk_free S_2.out 4
  have rf5 := blk_free R_2.out 5
  have sf5 := blk_free S_2.out 5
  have rf6 := blk_free R_2.out 6
  have sf6 := blk_free S_2.out 6
  have rf7 := blk_free R_2.out 7
  have sf7 := blk_free S_2.out 7

  have QY := Lib.hid q_2
  clear R_2 S_2
  go_wp2
  refine bodyPost_ret (v := .tuple #[.agg #[.int .i64 s.p, .bool s.hl, .bool (true), .int .i64 s.la, .int .i64 (s.no), .int .i64 (N), .int .i64 s.ba, .int .i64 s.ro], .int .i64 0]) (by simp [results, Try.results10, go_sem, *]) rfl ⟨rfl, ?_⟩
  (repeat' (first | (with_reducible exact QY.out) | (with_reducible exact Below.refl _ _) | (with_reducible refine Below.alloc ?_ ?_ _) | (with_reducible refine Below.setCell ?_ ?_ _) | (with_reducible refine Below.drew ?_) | (with_reducible refine below_drewN ?_ _) | omega | (dsimp only; omega) | (simp; done) | (simp; omega)))

end Go.Proofs.Ytfmjlcnpabpheaa
