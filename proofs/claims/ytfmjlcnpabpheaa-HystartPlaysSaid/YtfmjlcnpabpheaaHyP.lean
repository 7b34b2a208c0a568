/- Hystart: the calls of the program. -/
import Derived.Test.YtfmjlcnpabpheaaHyJ
import Derived.Lib.MinMax
import Derived.StillTailTactics
namespace Go.Proofs.Ytfmjlcnpabpheaa
open Go.RowKit Go.Proofs.Ytfmjlcnpabpheaa.Hy

set_option maxHeartbeats 2000000 in
theorem round_0 (s : HS) (w : World) (hV : HV s) (h0 : s.p ≠ 1) :
    Calls Try.prog 7 #[.agg #[.int .i64 s.p, .bool s.hl, .bool s.hn, .int .i64 s.la, .int .i64 s.no, .int .i64 s.sa, .int .i64 s.ba, .int .i64 s.ro]] w fun e w' => e = .returned (.tuple #[.agg #[.int .i64 s.p, .bool (s.hn), .bool (false), .int .i64 (s.no), .int .i64 (0), .int .i64 (0), .int .i64 s.ba, .int .i64 s.ro], .int .i64 0]) ∧ Below w.heap.size w w' := by
  have HV' := Lib.hid hV
  obtain ⟨⟨p0, p1⟩, ⟨a0, a1⟩, ⟨b0, b1⟩, ⟨c0, c1⟩, ⟨d0, d1⟩, e0, e1⟩ := hV
  have h0b : (s.p == 1) = false := by rw [beq_eq_false_iff_ne]; exact h0
  have q_0 := Below.refl w.heap.size w
  go_enter Try.func7, Try.ntmps7
  go_wp2_with fail
  have b : Below w.heap.size w ((w.alloc (.cells #[.int .i64 s.p, .bool s.hl, .bool s.hn, .int .i64 s.la, .int .i64 s.no, .int .i64 s.sa, .int .i64 s.ba, .int .i64 s.ro] 24)).alloc (.cells #[.int .i64 0, .bool false, .bool false, .int .i64 0, .int .i64 0, .int .i64 0, .int .i64 0, .int .i64 0] 24)) := (((Below.refl _ w).alloc (Nat.le_refl _) (.cells #[.int .i64 s.p, .bool s.hl, .bool s.hn, .int .i64 s.la, .int .i64 s.no, .int .i64 s.sa, .int .i64 s.ba, .int .i64 s.ro] 24)).alloc (by simp only [World.size_alloc]; omega) (.cells #[.int .i64 0, .bool false, .bool false, .int .i64 0, .int .i64 0, .int .i64 0, .int .i64 0, .int .i64 0] 24))
  have nb0 := blk_new w (.cells #[.int .i64 s.p, .bool s.hl, .bool s.hn, .int .i64 s.la, .int .i64 s.no, .int .i64 s.sa, .int .i64 s.ba, .int .i64 s.ro] 24)
  have nb0 := (Below.heap_alloc (w.alloc (.cells #[.int .i64 s.p, .bool s.hl, .bool s.hn, .int .i64 s.la, .int .i64 s.no, .int .i64 s.sa, .int .i64 s.ba, .int .i64 s.ro] 24)) (.cells #[.int .i64 0, .bool false, .bool false, .int .i64 0, .int .i64 0, .int .i64 0, .int .i64 0, .int .i64 0] 24) (w.heap.size) (by simp only [World.size_alloc]; omega)).trans nb0
  have nz0 : w.heap.size < ((w.alloc (.cells #[.int .i64 s.p, .bool s.hl, .bool s.hn, .int .i64 s.la, .int .i64 s.no, .int .i64 s.sa, .int .i64 s.ba, .int .i64 s.ro] 24)).alloc (.cells #[.int .i64 0, .bool false, .bool false, .int .i64 0, .int .i64 0, .int .i64 0, .int .i64 0, .int .i64 0] 24)).heap.size := by simp only [World.size_alloc]; omega
  have nb1 := blk_new (w.alloc (.cells #[.int .i64 s.p, .bool s.hl, .bool s.hn, .int .i64 s.la, .int .i64 s.no, .int .i64 s.sa, .int .i64 s.ba, .int .i64 s.ro] 24)) (.cells #[.int .i64 0, .bool false, .bool false, .int .i64 0, .int .i64 0, .int .i64 0, .int .i64 0, .int .i64 0] 24)
  simp only [World.size_alloc] at nb1
  have nz1 : w.heap.size + 1 < ((w.alloc (.cells #[.int .i64 s.p, .bool s.hl, .bool s.hn, .int .i64 s.la, .int .i64 s.no, .int .i64 s.sa, .int .i64 s.ba, .int .i64 s.ro] 24)).alloc (.cells #[.int .i64 0, .bool false, .bool false, .int .i64 0, .int .i64 0, .int .i64 0, .int .i64 0, .int .i64 0] 24)).heap.size := by simp only [World.size_alloc]; omega
  have q_1 := q_0.trans (b.mono q_0.size)
  clear q_0
  clear b
  have S_1 := Lib.hid nb0
  have Sz_1 := nz0
  clear nb0 nz0
  have Sc0_1 := blk_cell S_1.out 0
  have Sc1_1 := blk_cell S_1.out 1
  have Sc2_1 := blk_cell S_1.out 2
  have Sc3_1 := blk_cell S_1.out 3
  have Sc4_1 := blk_cell S_1.out 4
  have Sc5_1 := blk_cell S_1.out 5
  have Sc6_1 := blk_cell S_1.out 6
  have Sc7_1 := blk_cell S_1.out 7
  have R_1 := Lib.hid nb1
  have Rz_1 := nz1
  clear nb1 nz1
  have Rc0_1 := blk_cell R_1.out 0
  have Rc1_1 := blk_cell R_1.out 1
  have Rc2_1 := blk_cell R_1.out 2
  have Rc3_1 := blk_cell R_1.out 3
  have Rc4_1 := blk_cell R_1.out 4
  have Rc5_1 := blk_cell R_1.out 5
  have Rc6_1 := blk_cell R_1.out 6
  have Rc7_1 := blk_cell R_1.out 7
  generalize ((w.alloc (.cells #[.int .i64 s.p, .bool s.hl, .bool s.hn, .int .i64 s.la, .int .i64 s.no, .int .i64 s.sa, .int .i64 s.ba, .int .i64 s.ro] 24)).alloc (.cells #[.int .i64 0, .bool false, .bool false, .int .i64 0, .int .i64 0, .int .i64 0, .int .i64 0, .int .i64 0] 24)) = V1 at q_1 S_1 Sz_1 Sc0_1 Sc1_1 Sc2_1 Sc3_1 Sc4_1 Sc5_1 Sc6_1 Sc7_1 R_1 Rz_1 Rc0_1 Rc1_1 Rc2_1 Rc3_1 Rc4_1 Rc5_1 Rc6_1 Rc7_1 ⊢
  refine (check_yes s _ HV'.out).mono ?_
  rintro e V2 ⟨rfl, b⟩
  have S_2 := Lib.hid ((b.block _ Sz_1).trans S_1.out)
  have Sz_2 := Nat.lt_of_lt_of_le Sz_1 b.size
  have Sc0_2 := blk_cell S_2.out 0
  have Sc1_2 := blk_cell S_2.out 1
  have Sc2_2 := blk_cell S_2.out 2
  have Sc3_2 := blk_cell S_2.out 3
  have Sc4_2 := blk_cell S_2.out 4
  have Sc5_2 := blk_cell S_2.out 5
  have Sc6_2 := blk_cell S_2.out 6
  have Sc7_2 := blk_cell S_2.out 7
  have R_2 := Lib.hid ((b.block _ Rz_1).trans R_1.out)
  have Rz_2 := Nat.lt_of_lt_of_le Rz_1 b.size
  have Rc0_2 := blk_cell R_2.out 0
  have Rc1_2 := blk_cell R_2.out 1
  have Rc2_2 := blk_cell R_2.out 2
  have Rc3_2 := blk_cell R_2.out 3
  have Rc4_2 := blk_cell R_2.out 4
  have Rc5_2 := blk_cell R_2.out 5
  have Rc6_2 := blk_cell R_2.out 6
  have Rc7_2 := blk_cell R_2.out 7
  have q_2 := q_1.trans (b.mono q_1.size)
  clear S_1 Sz_1 Sc0_1 Sc1_1 Sc2_1 Sc3_1 Sc4_1 Sc5_1 Sc6_1 Sc7_1 R_1 Rz_1 Rc0_1 Rc1_1 Rc2_1 Rc3_1 Rc4_1 Rc5_1 Rc6_1 Rc7_1 q_1
  clear b
  have rf0 := blk_free R_2.out 0
  have sf0 := blk_free S_2.out 0
  have rf1 := blk_free R_2.out 1
  have sf1 := blk_free S_2.out 1
  have rf2 := blk_free R_2.out 2
  have sf2 := blk_free S_2.out 2
  have rf3 := blk_free R_2.out 3
  have sf3 := blk_free S_2.out 3
  have rf4 := blk_free R_2.out 4
  have sf4 := blk_free S_2.out 4
  have rf5 := blk_free R_2.out 5
  have sf5 := blk_free S_2.out 5
  have rf6 := blk_free R_2.out 6
  have sf6 := blk_free S_2.out 6
  have rf7 := blk_free R_2.out 7
  have sf7 := blk_free S_2.out 7

  have QY := Lib.hid q_2
  clear R_2 S_2
  go_wp2
  refine bodyPost_ret (v := .tuple #[.agg #[.int .i64 s.p, .bool (s.hn), .bool (false), .int .i64 (s.no), .int .i64 (0), .int .i64 (0), .int .i64 s.ba, .int .i64 s.ro], .int .i64 0]) (by simp [results, Try.results7, go_sem, *]) rfl ⟨rfl, ?_⟩
  (repeat' (first | (with_reducible exact QY.out) | (with_reducible exact Below.refl _ _) | (with_reducible refine Below.alloc ?_ ?_ _) | (with_reducible refine Below.setCell ?_ ?_ _) | (with_reducible refine Below.drew ?_) | (with_reducible refine below_drewN ?_ _) | omega | (dsimp only; omega) | (simp; done) | (simp; omega)))

set_option maxHeartbeats 2000000 in
theorem round_2 (s : HS) (N : Int) (w : World) (hV : HV s) (h0 : s.p = 1) (hN : min (s.ro + 1) 1073741824 = N) (h1 : 5 ≤ N) :
    Calls Try.prog 7 #[.agg #[.int .i64 s.p, .bool s.hl, .bool s.hn, .int .i64 s.la, .int .i64 s.no, .int .i64 s.sa, .int .i64 s.ba, .int .i64 s.ro]] w fun e w' => e = .returned (.tuple #[.agg #[.int .i64 (2), .bool (s.hn), .bool (false), .int .i64 (s.no), .int .i64 (0), .int .i64 (0), .int .i64 s.ba, .int .i64 (N)], .int .i64 0]) ∧ Below w.heap.size w w' := by
  have HV' := Lib.hid hV
  obtain ⟨⟨p0, p1⟩, ⟨a0, a1⟩, ⟨b0, b1⟩, ⟨c0, c1⟩, ⟨d0, d1⟩, e0, e1⟩ := hV
  have N0 : 0 ≤ N ∧ N ≤ 1073741824 := by omega
  have q_0 := Below.refl w.heap.size w
  have H_h0 := Lib.hid h0
  clear h0
  have H_hN := Lib.hid hN
  clear hN
  go_enter Try.func7, Try.ntmps7
  go_wp2_with fail
  have b : Below w.heap.size w ((w.alloc (.cells #[.int .i64 s.p, .bool s.hl, .bool s.hn, .int .i64 s.la, .int .i64 s.no, .int .i64 s.sa, .int .i64 s.ba, .int .i64 s.ro] 24)).alloc (.cells #[.int .i64 0, .bool false, .bool false, .int .i64 0, .int .i64 0, .int .i64 0, .int .i64 0, .int .i64 0] 24)) := (((Below.refl _ w).alloc (Nat.le_refl _) (.cells #[.int .i64 s.p, .bool s.hl, .bool s.hn, .int .i64 s.la, .int .i64 s.no, .int .i64 s.sa, .int .i64 s.ba, .int .i64 s.ro] 24)).alloc (by simp only [World.size_alloc]; omega) (.cells #[.int .i64 0, .bool false, .bool false, .int .i64 0, .int .i64 0, .int .i64 0, .int .i64 0, .int .i64 0] 24))
  have nb0 := blk_new w (.cells #[.int .i64 s.p, .bool s.hl, .bool s.hn, .int .i64 s.la, .int .i64 s.no, .int .i64 s.sa, .int .i64 s.ba, .int .i64 s.ro] 24)
  have nb0 := (Below.heap_alloc (w.alloc (.cells #[.int .i64 s.p, .bool s.hl, .bool s.hn, .int .i64 s.la, .int .i64 s.no, .int .i64 s.sa, .int .i64 s.ba, .int .i64 s.ro] 24)) (.cells #[.int .i64 0, .bool false, .bool false, .int .i64 0, .int .i64 0, .int .i64 0, .int .i64 0, .int .i64 0] 24) (w.heap.size) (by simp only [World.size_alloc]; omega)).trans nb0
  have nz0 : w.heap.size < ((w.alloc (.cells #[.int .i64 s.p, .bool s.hl, .bool s.hn, .int .i64 s.la, .int .i64 s.no, .int .i64 s.sa, .int .i64 s.ba, .int .i64 s.ro] 24)).alloc (.cells #[.int .i64 0, .bool false, .bool false, .int .i64 0, .int .i64 0, .int .i64 0, .int .i64 0, .int .i64 0] 24)).heap.size := by simp only [World.size_alloc]; omega
  have nb1 := blk_new (w.alloc (.cells #[.int .i64 s.p, .bool s.hl, .bool s.hn, .int .i64 s.la, .int .i64 s.no, .int .i64 s.sa, .int .i64 s.ba, .int .i64 s.ro] 24)) (.cells #[.int .i64 0, .bool false, .bool false, .int .i64 0, .int .i64 0, .int .i64 0, .int .i64 0, .int .i64 0] 24)
  simp only [World.size_alloc] at nb1
  have nz1 : w.heap.size + 1 < ((w.alloc (.cells #[.int .i64 s.p, .bool s.hl, .bool s.hn, .int .i64 s.la, .int .i64 s.no, .int .i64 s.sa, .int .i64 s.ba, .int .i64 s.ro] 24)).alloc (.cells #[.int .i64 0, .bool false, .bool false, .int .i64 0, .int .i64 0, .int .i64 0, .int .i64 0, .int .i64 0] 24)).heap.size := by simp only [World.size_alloc]; omega
  have q_1 := q_0.trans (b.mono q_0.size)
  clear q_0
  clear b
  have S_1 := Lib.hid nb0
  have Sz_1 := nz0
  clear nb0 nz0
  have Sc0_1 := blk_cell S_1.out 0
  have Sc1_1 := blk_cell S_1.out 1
  have Sc2_1 := blk_cell S_1.out 2
  have Sc3_1 := blk_cell S_1.out 3
  have Sc4_1 := blk_cell S_1.out 4
  have Sc5_1 := blk_cell S_1.out 5
  have Sc6_1 := blk_cell S_1.out 6
  have Sc7_1 := blk_cell S_1.out 7
  have R_1 := Lib.hid nb1
  have Rz_1 := nz1
  clear nb1 nz1
  have Rc0_1 := blk_cell R_1.out 0
  have Rc1_1 := blk_cell R_1.out 1
  have Rc2_1 := blk_cell R_1.out 2
  have Rc3_1 := blk_cell R_1.out 3
  have Rc4_1 := blk_cell R_1.out 4
  have Rc5_1 := blk_cell R_1.out 5
  have Rc6_1 := blk_cell R_1.out 6
  have Rc7_1 := blk_cell R_1.out 7
  generalize ((w.alloc (.cells #[.int .i64 s.p, .bool s.hl, .bool s.hn, .int .i64 s.la, .int .i64 s.no, .int .i64 s.sa, .int .i64 s.ba, .int .i64 s.ro] 24)).alloc (.cells #[.int .i64 0, .bool false, .bool false, .int .i64 0, .int .i64 0, .int .i64 0, .int .i64 0, .int .i64 0] 24)) = V1 at q_1 S_1 Sz_1 Sc0_1 Sc1_1 Sc2_1 Sc3_1 Sc4_1 Sc5_1 Sc6_1 Sc7_1 R_1 Rz_1 Rc0_1 Rc1_1 Rc2_1 Rc3_1 Rc4_1 Rc5_1 Rc6_1 Rc7_1 ⊢
  refine (check_yes s _ HV'.out).mono ?_
  rintro e V2 ⟨rfl, b⟩
  have S_2 := Lib.hid ((b.block _ Sz_1).trans S_1.out)
  have Sz_2 := Nat.lt_of_lt_of_le Sz_1 b.size
  have Sc0_2 := blk_cell S_2.out 0
  have Sc1_2 := blk_cell S_2.out 1
  have Sc2_2 := blk_cell S_2.out 2
  have Sc3_2 := blk_cell S_2.out 3
  have Sc4_2 := blk_cell S_2.out 4
  have Sc5_2 := blk_cell S_2.out 5
  have Sc6_2 := blk_cell S_2.out 6
  have Sc7_2 := blk_cell S_2.out 7
  have R_2 := Lib.hid ((b.block _ Rz_1).trans R_1.out)
  have Rz_2 := Nat.lt_of_lt_of_le Rz_1 b.size
  have Rc0_2 := blk_cell R_2.out 0
  have Rc1_2 := blk_cell R_2.out 1
  have Rc2_2 := blk_cell R_2.out 2
  have Rc3_2 := blk_cell R_2.out 3
  have Rc4_2 := blk_cell R_2.out 4
  have Rc5_2 := blk_cell R_2.out 5
  have Rc6_2 := blk_cell R_2.out 6
  have Rc7_2 := blk_cell R_2.out 7
  have q_2 := q_1.trans (b.mono q_1.size)
  clear S_1 Sz_1 Sc0_1 Sc1_1 Sc2_1 Sc3_1 Sc4_1 Sc5_1 Sc6_1 Sc7_1 R_1 Rz_1 Rc0_1 Rc1_1 Rc2_1 Rc3_1 Rc4_1 Rc5_1 Rc6_1 Rc7_1 q_1
  clear b
  have h0 := H_h0.out
  have hN := H_hN.out
  have rf0 := blk_free R_2.out 0
  have sf0 := blk_free S_2.out 0
  have rf1 := blk_free R_2.out 1
  have sf1 := blk_free S_2.out 1
  have rf2 := blk_free R_2.out 2
  have sf2 := blk_free S_2.out 2
  have rf3 := blk_free R_2.out 3
  have sf3 := blk_free S_2.out 3
  have rf4 := blk_free R_2.out 4
  have sf4 := blk_free S_2.out 4
  have rf5 := blk_free R_2.out 5
  have sf5 := blk_free S_2.out 5
  have rf6 := blk_free R_2.out 6
  have sf6 := blk_free S_2.out 6
  have rf7 := blk_free R_2.out 7
  have sf7 := blk_free S_2.out 7

  have QY := Lib.hid q_2
  clear R_2 S_2
  go_wp2
  refine bodyPost_ret (v := .tuple #[.agg #[.int .i64 (2), .bool (s.hn), .bool (false), .int .i64 (s.no), .int .i64 (0), .int .i64 (0), .int .i64 s.ba, .int .i64 (N)], .int .i64 0]) (by simp [results, Try.results7, go_sem, *]) rfl ⟨rfl, ?_⟩
  (repeat' (first | (with_reducible exact QY.out) | (with_reducible exact Below.refl _ _) | (with_reducible refine Below.alloc ?_ ?_ _) | (with_reducible refine Below.setCell ?_ ?_ _) | (with_reducible refine Below.drew ?_) | (with_reducible refine below_drewN ?_ _) | omega | (dsimp only; omega) | (simp; done) | (simp; omega)))

set_option maxHeartbeats 2000000 in
theorem round_1 (s : HS) (N : Int) (w : World) (hV : HV s) (h0 : s.p = 1) (hN : min (s.ro + 1) 1073741824 = N) (h1 : N < 5) :
    Calls Try.prog 7 #[.agg #[.int .i64 s.p, .bool s.hl, .bool s.hn, .int .i64 s.la, .int .i64 s.no, .int .i64 s.sa, .int .i64 s.ba, .int .i64 s.ro]] w fun e w' => e = .returned (.tuple #[.agg #[.int .i64 (s.p), .bool (s.hn), .bool (false), .int .i64 (s.no), .int .i64 (0), .int .i64 (0), .int .i64 s.ba, .int .i64 (N)], .int .i64 0]) ∧ Below w.heap.size w w' := by
  have HV' := Lib.hid hV
  obtain ⟨⟨p0, p1⟩, ⟨a0, a1⟩, ⟨b0, b1⟩, ⟨c0, c1⟩, ⟨d0, d1⟩, e0, e1⟩ := hV
  have N0 : 0 ≤ N ∧ N ≤ 1073741824 := by omega
  have q_0 := Below.refl w.heap.size w
  have H_h0 := Lib.hid h0
  clear h0
  have H_hN := Lib.hid hN
  clear hN
  go_enter Try.func7, Try.ntmps7
  go_wp2_with fail
  have b : Below w.heap.size w ((w.alloc (.cells #[.int .i64 s.p, .bool s.hl, .bool s.hn, .int .i64 s.la, .int .i64 s.no, .int .i64 s.sa, .int .i64 s.ba, .int .i64 s.ro] 24)).alloc (.cells #[.int .i64 0, .bool false, .bool false, .int .i64 0, .int .i64 0, .int .i64 0, .int .i64 0, .int .i64 0] 24)) := (((Below.refl _ w).alloc (Nat.le_refl _) (.cells #[.int .i64 s.p, .bool s.hl, .bool s.hn, .int .i64 s.la, .int .i64 s.no, .int .i64 s.sa, .int .i64 s.ba, .int .i64 s.ro] 24)).alloc (by simp only [World.size_alloc]; omega) (.cells #[.int .i64 0, .bool false, .bool false, .int .i64 0, .int .i64 0, .int .i64 0, .int .i64 0, .int .i64 0] 24))
  have nb0 := blk_new w (.cells #[.int .i64 s.p, .bool s.hl, .bool s.hn, .int .i64 s.la, .int .i64 s.no, .int .i64 s.sa, .int .i64 s.ba, .int .i64 s.ro] 24)
  have nb0 := (Below.heap_alloc (w.alloc (.cells #[.int .i64 s.p, .bool s.hl, .bool s.hn, .int .i64 s.la, .int .i64 s.no, .int .i64 s.sa, .int .i64 s.ba, .int .i64 s.ro] 24)) (.cells #[.int .i64 0, .bool false, .bool false, .int .i64 0, .int .i64 0, .int .i64 0, .int .i64 0, .int .i64 0] 24) (w.heap.size) (by simp only [World.size_alloc]; omega)).trans nb0
  have nz0 : w.heap.size < ((w.alloc (.cells #[.int .i64 s.p, .bool s.hl, .bool s.hn, .int .i64 s.la, .int .i64 s.no, .int .i64 s.sa, .int .i64 s.ba, .int .i64 s.ro] 24)).alloc (.cells #[.int .i64 0, .bool false, .bool false, .int .i64 0, .int .i64 0, .int .i64 0, .int .i64 0, .int .i64 0] 24)).heap.size := by simp only [World.size_alloc]; omega
  have nb1 := blk_new (w.alloc (.cells #[.int .i64 s.p, .bool s.hl, .bool s.hn, .int .i64 s.la, .int .i64 s.no, .int .i64 s.sa, .int .i64 s.ba, .int .i64 s.ro] 24)) (.cells #[.int .i64 0, .bool false, .bool false, .int .i64 0, .int .i64 0, .int .i64 0, .int .i64 0, .int .i64 0] 24)
  simp only [World.size_alloc] at nb1
  have nz1 : w.heap.size + 1 < ((w.alloc (.cells #[.int .i64 s.p, .bool s.hl, .bool s.hn, .int .i64 s.la, .int .i64 s.no, .int .i64 s.sa, .int .i64 s.ba, .int .i64 s.ro] 24)).alloc (.cells #[.int .i64 0, .bool false, .bool false, .int .i64 0, .int .i64 0, .int .i64 0, .int .i64 0, .int .i64 0] 24)).heap.size := by simp only [World.size_alloc]; omega
  have q_1 := q_0.trans (b.mono q_0.size)
  clear q_0
  clear b
  have S_1 := Lib.hid nb0
  have Sz_1 := nz0
  clear nb0 nz0
  have Sc0_1 := blk_cell S_1.out 0
  have Sc1_1 := blk_cell S_1.out 1
  have Sc2_1 := blk_cell S_1.out 2
  have Sc3_1 := blk_cell S_1.out 3
  have Sc4_1 := blk_cell S_1.out 4
  have Sc5_1 := blk_cell S_1.out 5
  have Sc6_1 := blk_cell S_1.out 6
  have Sc7_1 := blk_cell S_1.out 7
  have R_1 := Lib.hid nb1
  have Rz_1 := nz1
  clear nb1 nz1
  have Rc0_1 := blk_cell R_1.out 0
  have Rc1_1 := blk_cell R_1.out 1
  have Rc2_1 := blk_cell R_1.out 2
  have Rc3_1 := blk_cell R_1.out 3
  have Rc4_1 := blk_cell R_1.out 4
  have Rc5_1 := blk_cell R_1.out 5
  have Rc6_1 := blk_cell R_1.out 6
  have Rc7_1 := blk_cell R_1.out 7
  generalize ((w.alloc (.cells #[.int .i64 s.p, .bool s.hl, .bool s.hn, .int .i64 s.la, .int .i64 s.no, .int .i64 s.sa, .int .i64 s.ba, .int .i64 s.ro] 24)).alloc (.cells #[.int .i64 0, .bool false, .bool false, .int .i64 0, .int .i64 0, .int .i64 0, .int .i64 0, .int .i64 0] 24)) = V1 at q_1 S_1 Sz_1 Sc0_1 Sc1_1 Sc2_1 Sc3_1 Sc4_1 Sc5_1 Sc6_1 Sc7_1 R_1 Rz_1 Rc0_1 Rc1_1 Rc2_1 Rc3_1 Rc4_1 Rc5_1 Rc6_1 Rc7_1 ⊢
  refine (check_yes s _ HV'.out).mono ?_
  rintro e V2 ⟨rfl, b⟩
  have S_2 := Lib.hid ((b.block _ Sz_1).trans S_1.out)
  have Sz_2 := Nat.lt_of_lt_of_le Sz_1 b.size
  have Sc0_2 := blk_cell S_2.out 0
  have Sc1_2 := blk_cell S_2.out 1
  have Sc2_2 := blk_cell S_2.out 2
  have Sc3_2 := blk_cell S_2.out 3
  have Sc4_2 := blk_cell S_2.out 4
  have Sc5_2 := blk_cell S_2.out 5
  have Sc6_2 := blk_cell S_2.out 6
  have Sc7_2 := blk_cell S_2.out 7
  have R_2 := Lib.hid ((b.block _ Rz_1).trans R_1.out)
  have Rz_2 := Nat.lt_of_lt_of_le Rz_1 b.size
  have Rc0_2 := blk_cell R_2.out 0
  have Rc1_2 := blk_cell R_2.out 1
  have Rc2_2 := blk_cell R_2.out 2
  have Rc3_2 := blk_cell R_2.out 3
  have Rc4_2 := blk_cell R_2.out 4
  have Rc5_2 := blk_cell R_2.out 5
  have Rc6_2 := blk_cell R_2.out 6
  have Rc7_2 := blk_cell R_2.out 7
  have q_2 := q_1.trans (b.mono q_1.size)
  clear S_1 Sz_1 Sc0_1 Sc1_1 Sc2_1 Sc3_1 Sc4_1 Sc5_1 Sc6_1 Sc7_1 R_1 Rz_1 Rc0_1 Rc1_1 Rc2_1 Rc3_1 Rc4_1 Rc5_1 Rc6_1 Rc7_1 q_1
  clear b
  have h0 := H_h0.out
  have hN := H_hN.out
  have rf0 := blk_free R_2.out 0
  have sf0 := blk_free S_2.out 0
  have rf1 := blk_free R_2.out 1
  have sf1 := blk_free S_2.out 1
  have rf2 := blk_free R_2.out 2
  have sf2 := blk_free S_2.out 2
  have rf3 := blk_free R_2.out 3
  have sf3 := blk_free S_2.out 3
  have rf4 := blk_free R_2.out 4
  have sf4 := blk_free S_2.out 4
  have rf5 := blk_free R_2.out 5
  have sf5 := blk_free S_2.out 5
  have rf6 := blk_free R_2.out 6
  have sf6 := blk_free S_2.out 6
  have rf7 := blk_free R_2.out 7
  have sf7 := blk_free S_2.out 7

  have QY := Lib.hid q_2
  clear R_2 S_2
  go_wp2
  refine bodyPost_ret (v := .tuple #[.agg #[.int .i64 (s.p), .bool (s.hn), .bool (false), .int .i64 (s.no), .int .i64 (0), .int .i64 (0), .int .i64 s.ba, .int .i64 (N)], .int .i64 0]) (by simp [results, Try.results7, go_sem, *]) rfl ⟨rfl, ?_⟩
  (repeat' (first | (with_reducible exact QY.out) | (with_reducible exact Below.refl _ _) | (with_reducible refine Below.alloc ?_ ?_ _) | (with_reducible refine Below.setCell ?_ ?_ _) | (with_reducible refine Below.drew ?_) | (with_reducible refine below_drewN ?_ _) | omega | (dsimp only; omega) | (simp; done) | (simp; omega)))

set_option maxHeartbeats 2000000 in
theorem round_s (s : HS) (w : World) (hV : ¬ HV s)  :
    Calls Try.prog 7 #[.agg #[.int .i64 s.p, .bool s.hl, .bool s.hn, .int .i64 s.la, .int .i64 s.no, .int .i64 s.sa, .int .i64 s.ba, .int .i64 s.ro]] w fun e w' => e = .returned (.tuple #[.agg #[.int .i64 0, .bool false, .bool false, .int .i64 0, .int .i64 0, .int .i64 0, .int .i64 0, .int .i64 0], .int .i64 171]) ∧ Below w.heap.size w w' := by
  have q_0 := Below.refl w.heap.size w
  go_enter Try.func7, Try.ntmps7
  go_wp2_with fail
  have b : Below w.heap.size w ((w.alloc (.cells #[.int .i64 s.p, .bool s.hl, .bool s.hn, .int .i64 s.la, .int .i64 s.no, .int .i64 s.sa, .int .i64 s.ba, .int .i64 s.ro] 24)).alloc (.cells #[.int .i64 0, .bool false, .bool false, .int .i64 0, .int .i64 0, .int .i64 0, .int .i64 0, .int .i64 0] 24)) := (((Below.refl _ w).alloc (Nat.le_refl _) (.cells #[.int .i64 s.p, .bool s.hl, .bool s.hn, .int .i64 s.la, .int .i64 s.no, .int .i64 s.sa, .int .i64 s.ba, .int .i64 s.ro] 24)).alloc (by simp only [World.size_alloc]; omega) (.cells #[.int .i64 0, .bool false, .bool false, .int .i64 0, .int .i64 0, .int .i64 0, .int .i64 0, .int .i64 0] 24))
  have nb0 := blk_new w (.cells #[.int .i64 s.p, .bool s.hl, .bool s.hn, .int .i64 s.la, .int .i64 s.no, .int .i64 s.sa, .int .i64 s.ba, .int .i64 s.ro] 24)
  have nb0 := (Below.heap_alloc (w.alloc (.cells #[.int .i64 s.p, .bool s.hl, .bool s.hn, .int .i64 s.la, .int .i64 s.no, .int .i64 s.sa, .int .i64 s.ba, .int .i64 s.ro] 24)) (.cells #[.int .i64 0, .bool false, .bool false, .int .i64 0, .int .i64 0, .int .i64 0, .int .i64 0, .int .i64 0] 24) (w.heap.size) (by simp only [World.size_alloc]; omega)).trans nb0
  have nz0 : w.heap.size < ((w.alloc (.cells #[.int .i64 s.p, .bool s.hl, .bool s.hn, .int .i64 s.la, .int .i64 s.no, .int .i64 s.sa, .int .i64 s.ba, .int .i64 s.ro] 24)).alloc (.cells #[.int .i64 0, .bool false, .bool false, .int .i64 0, .int .i64 0, .int .i64 0, .int .i64 0, .int .i64 0] 24)).heap.size := by simp only [World.size_alloc]; omega
  have nb1 := blk_new (w.alloc (.cells #[.int .i64 s.p, .bool s.hl, .bool s.hn, .int .i64 s.la, .int .i64 s.no, .int .i64 s.sa, .int .i64 s.ba, .int .i64 s.ro] 24)) (.cells #[.int .i64 0, .bool false, .bool false, .int .i64 0, .int .i64 0, .int .i64 0, .int .i64 0, .int .i64 0] 24)
  simp only [World.size_alloc] at nb1
  have nz1 : w.heap.size + 1 < ((w.alloc (.cells #[.int .i64 s.p, .bool s.hl, .bool s.hn, .int .i64 s.la, .int .i64 s.no, .int .i64 s.sa, .int .i64 s.ba, .int .i64 s.ro] 24)).alloc (.cells #[.int .i64 0, .bool false, .bool false, .int .i64 0, .int .i64 0, .int .i64 0, .int .i64 0, .int .i64 0] 24)).heap.size := by simp only [World.size_alloc]; omega
  have q_1 := q_0.trans (b.mono q_0.size)
  clear q_0
  clear b
  have S_1 := Lib.hid nb0
  have Sz_1 := nz0
  clear nb0 nz0
  have Sc0_1 := blk_cell S_1.out 0
  have Sc1_1 := blk_cell S_1.out 1
  have Sc2_1 := blk_cell S_1.out 2
  have Sc3_1 := blk_cell S_1.out 3
  have Sc4_1 := blk_cell S_1.out 4
  have Sc5_1 := blk_cell S_1.out 5
  have Sc6_1 := blk_cell S_1.out 6
  have Sc7_1 := blk_cell S_1.out 7
  have R_1 := Lib.hid nb1
  have Rz_1 := nz1
  clear nb1 nz1
  have Rc0_1 := blk_cell R_1.out 0
  have Rc1_1 := blk_cell R_1.out 1
  have Rc2_1 := blk_cell R_1.out 2
  have Rc3_1 := blk_cell R_1.out 3
  have Rc4_1 := blk_cell R_1.out 4
  have Rc5_1 := blk_cell R_1.out 5
  have Rc6_1 := blk_cell R_1.out 6
  have Rc7_1 := blk_cell R_1.out 7
  generalize ((w.alloc (.cells #[.int .i64 s.p, .bool s.hl, .bool s.hn, .int .i64 s.la, .int .i64 s.no, .int .i64 s.sa, .int .i64 s.ba, .int .i64 s.ro] 24)).alloc (.cells #[.int .i64 0, .bool false, .bool false, .int .i64 0, .int .i64 0, .int .i64 0, .int .i64 0, .int .i64 0] 24)) = V1 at q_1 S_1 Sz_1 Sc0_1 Sc1_1 Sc2_1 Sc3_1 Sc4_1 Sc5_1 Sc6_1 Sc7_1 R_1 Rz_1 Rc0_1 Rc1_1 Rc2_1 Rc3_1 Rc4_1 Rc5_1 Rc6_1 Rc7_1 ⊢
  refine (check_no s _ hV).mono ?_
  rintro e V2 ⟨rfl, b⟩
  have S_2 := Lib.hid ((b.block _ Sz_1).trans S_1.out)
  have Sz_2 := Nat.lt_of_lt_of_le Sz_1 b.size
  have Sc0_2 := blk_cell S_2.out 0
  have Sc1_2 := blk_cell S_2.out 1
  have Sc2_2 := blk_cell S_2.out 2
  have Sc3_2 := blk_cell S_2.out 3
  have Sc4_2 := blk_cell S_2.out 4
  have Sc5_2 := blk_cell S_2.out 5
  have Sc6_2 := blk_cell S_2.out 6
  have Sc7_2 := blk_cell S_2.out 7
  have R_2 := Lib.hid ((b.block _ Rz_1).trans R_1.out)
  have Rz_2 := Nat.lt_of_lt_of_le Rz_1 b.size
  have Rc0_2 := blk_cell R_2.out 0
  have Rc1_2 := blk_cell R_2.out 1
  have Rc2_2 := blk_cell R_2.out 2
  have Rc3_2 := blk_cell R_2.out 3
  have Rc4_2 := blk_cell R_2.out 4
  have Rc5_2 := blk_cell R_2.out 5
  have Rc6_2 := blk_cell R_2.out 6
  have Rc7_2 := blk_cell R_2.out 7
  have q_2 := q_1.trans (b.mono q_1.size)
  clear S_1 Sz_1 Sc0_1 Sc1_1 Sc2_1 Sc3_1 Sc4_1 Sc5_1 Sc6_1 Sc7_1 R_1 Rz_1 Rc0_1 Rc1_1 Rc2_1 Rc3_1 Rc4_1 Rc5_1 Rc6_1 Rc7_1 q_1
  clear b
  have rf0 := blk_free R_2.out 0
  have sf0 := blk_free S_2.out 0
  have rf1 := blk_free R_2.out 1
  have sf1 := blk_free S_2.out 1
  have rf2 := blk_free R_2.out 2
  have sf2 := blk_free S_2.out 2
  have rf3 := blk_free R_2.out 3
  have sf3 := blk_free S_2.out 3
  have rf4 := blk_free R_2.out 4
  have sf4 := blk_free S_2.out 4
  have rf5 := blk_free R_2.out 5
  have sf5 := blk_free S_2.out 5
  have rf6 := blk_free R_2.out 6
  have sf6 := blk_free S_2.out 6
  have rf7 := blk_free R_2.out 7
  have sf7 := blk_free S_2.out 7

  have QY := Lib.hid q_2
  clear R_2 S_2
  go_wp2
  refine bodyPost_ret (v := .tuple #[.agg #[.int .i64 0, .bool false, .bool false, .int .i64 0, .int .i64 0, .int .i64 0, .int .i64 0, .int .i64 0], .int .i64 171]) (by simp [results, Try.results7, go_sem, *]) rfl ⟨rfl, ?_⟩
  (repeat' (first | (with_reducible exact QY.out) | (with_reducible exact Below.refl _ _) | (with_reducible refine Below.alloc ?_ ?_ _) | (with_reducible refine Below.setCell ?_ ?_ _) | (with_reducible refine Below.drew ?_) | (with_reducible refine below_drewN ?_ _) | omega | (dsimp only; omega) | (simp; done) | (simp; omega)))

set_option maxHeartbeats 2000000 in
theorem loss_0 (s : HS) (w : World) (hV : HV s)  :
    Calls Try.prog 11 #[.agg #[.int .i64 s.p, .bool s.hl, .bool s.hn, .int .i64 s.la, .int .i64 s.no, .int .i64 s.sa, .int .i64 s.ba, .int .i64 s.ro]] w fun e w' => e = .returned (.tuple #[.agg #[.int .i64 (2), .bool s.hl, .bool s.hn, .int .i64 s.la, .int .i64 s.no, .int .i64 s.sa, .int .i64 s.ba, .int .i64 s.ro], .int .i64 0]) ∧ Below w.heap.size w w' := by
  have HV' := Lib.hid hV
  obtain ⟨⟨p0, p1⟩, ⟨a0, a1⟩, ⟨b0, b1⟩, ⟨c0, c1⟩, ⟨d0, d1⟩, e0, e1⟩ := hV
  have q_0 := Below.refl w.heap.size w
  go_enter Try.func11, Try.ntmps11
  go_wp2_with fail
  have b : Below w.heap.size w ((w.alloc (.cells #[.int .i64 s.p, .bool s.hl, .bool s.hn, .int .i64 s.la, .int .i64 s.no, .int .i64 s.sa, .int .i64 s.ba, .int .i64 s.ro] 24)).alloc (.cells #[.int .i64 0, .bool false, .bool false, .int .i64 0, .int .i64 0, .int .i64 0, .int .i64 0, .int .i64 0] 24)) := (((Below.refl _ w).alloc (Nat.le_refl _) (.cells #[.int .i64 s.p, .bool s.hl, .bool s.hn, .int .i64 s.la, .int .i64 s.no, .int .i64 s.sa, .int .i64 s.ba, .int .i64 s.ro] 24)).alloc (by simp only [World.size_alloc]; omega) (.cells #[.int .i64 0, .bool false, .bool false, .int .i64 0, .int .i64 0, .int .i64 0, .int .i64 0, .int .i64 0] 24))
  have nb0 := blk_new w (.cells #[.int .i64 s.p, .bool s.hl, .bool s.hn, .int .i64 s.la, .int .i64 s.no, .int .i64 s.sa, .int .i64 s.ba, .int .i64 s.ro] 24)
  have nb0 := (Below.heap_alloc (w.alloc (.cells #[.int .i64 s.p, .bool s.hl, .bool s.hn, .int .i64 s.la, .int .i64 s.no, .int .i64 s.sa, .int .i64 s.ba, .int .i64 s.ro] 24)) (.cells #[.int .i64 0, .bool false, .bool false, .int .i64 0, .int .i64 0, .int .i64 0, .int .i64 0, .int .i64 0] 24) (w.heap.size) (by simp only [World.size_alloc]; omega)).trans nb0
  have nz0 : w.heap.size < ((w.alloc (.cells #[.int .i64 s.p, .bool s.hl, .bool s.hn, .int .i64 s.la, .int .i64 s.no, .int .i64 s.sa, .int .i64 s.ba, .int .i64 s.ro] 24)).alloc (.cells #[.int .i64 0, .bool false, .bool false, .int .i64 0, .int .i64 0, .int .i64 0, .int .i64 0, .int .i64 0] 24)).heap.size := by simp only [World.size_alloc]; omega
  have nb1 := blk_new (w.alloc (.cells #[.int .i64 s.p, .bool s.hl, .bool s.hn, .int .i64 s.la, .int .i64 s.no, .int .i64 s.sa, .int .i64 s.ba, .int .i64 s.ro] 24)) (.cells #[.int .i64 0, .bool false, .bool false, .int .i64 0, .int .i64 0, .int .i64 0, .int .i64 0, .int .i64 0] 24)
  simp only [World.size_alloc] at nb1
  have nz1 : w.heap.size + 1 < ((w.alloc (.cells #[.int .i64 s.p, .bool s.hl, .bool s.hn, .int .i64 s.la, .int .i64 s.no, .int .i64 s.sa, .int .i64 s.ba, .int .i64 s.ro] 24)).alloc (.cells #[.int .i64 0, .bool false, .bool false, .int .i64 0, .int .i64 0, .int .i64 0, .int .i64 0, .int .i64 0] 24)).heap.size := by simp only [World.size_alloc]; omega
  have q_1 := q_0.trans (b.mono q_0.size)
  clear q_0
  clear b
  have S_1 := Lib.hid nb0
  have Sz_1 := nz0
  clear nb0 nz0
  have Sc0_1 := blk_cell S_1.out 0
  have Sc1_1 := blk_cell S_1.out 1
  have Sc2_1 := blk_cell S_1.out 2
  have Sc3_1 := blk_cell S_1.out 3
  have Sc4_1 := blk_cell S_1.out 4
  have Sc5_1 := blk_cell S_1.out 5
  have Sc6_1 := blk_cell S_1.out 6
  have Sc7_1 := blk_cell S_1.out 7
  have R_1 := Lib.hid nb1
  have Rz_1 := nz1
  clear nb1 nz1
  have Rc0_1 := blk_cell R_1.out 0
  have Rc1_1 := blk_cell R_1.out 1
  have Rc2_1 := blk_cell R_1.out 2
  have Rc3_1 := blk_cell R_1.out 3
  have Rc4_1 := blk_cell R_1.out 4
  have Rc5_1 := blk_cell R_1.out 5
  have Rc6_1 := blk_cell R_1.out 6
  have Rc7_1 := blk_cell R_1.out 7
  generalize ((w.alloc (.cells #[.int .i64 s.p, .bool s.hl, .bool s.hn, .int .i64 s.la, .int .i64 s.no, .int .i64 s.sa, .int .i64 s.ba, .int .i64 s.ro] 24)).alloc (.cells #[.int .i64 0, .bool false, .bool false, .int .i64 0, .int .i64 0, .int .i64 0, .int .i64 0, .int .i64 0] 24)) = V1 at q_1 S_1 Sz_1 Sc0_1 Sc1_1 Sc2_1 Sc3_1 Sc4_1 Sc5_1 Sc6_1 Sc7_1 R_1 Rz_1 Rc0_1 Rc1_1 Rc2_1 Rc3_1 Rc4_1 Rc5_1 Rc6_1 Rc7_1 ⊢
  refine (check_yes s _ HV'.out).mono ?_
  rintro e V2 ⟨rfl, b⟩
  have S_2 := Lib.hid ((b.block _ Sz_1).trans S_1.out)
  have Sz_2 := Nat.lt_of_lt_of_le Sz_1 b.size
  have Sc0_2 := blk_cell S_2.out 0
  have Sc1_2 := blk_cell S_2.out 1
  have Sc2_2 := blk_cell S_2.out 2
  have Sc3_2 := blk_cell S_2.out 3
  have Sc4_2 := blk_cell S_2.out 4
  have Sc5_2 := blk_cell S_2.out 5
  have Sc6_2 := blk_cell S_2.out 6
  have Sc7_2 := blk_cell S_2.out 7
  have R_2 := Lib.hid ((b.block _ Rz_1).trans R_1.out)
  have Rz_2 := Nat.lt_of_lt_of_le Rz_1 b.size
  have Rc0_2 := blk_cell R_2.out 0
  have Rc1_2 := blk_cell R_2.out 1
  have Rc2_2 := blk_cell R_2.out 2
  have Rc3_2 := blk_cell R_2.out 3
  have Rc4_2 := blk_cell R_2.out 4
  have Rc5_2 := blk_cell R_2.out 5
  have Rc6_2 := blk_cell R_2.out 6
  have Rc7_2 := blk_cell R_2.out 7
  have q_2 := q_1.trans (b.mono q_1.size)
  clear S_1 Sz_1 Sc0_1 Sc1_1 Sc2_1 Sc3_1 Sc4_1 Sc5_1 Sc6_1 Sc7_1 R_1 Rz_1 Rc0_1 Rc1_1 Rc2_1 Rc3_1 Rc4_1 Rc5_1 Rc6_1 Rc7_1 q_1
  clear b
  have rf0 := blk_free R_2.out 0
  have sf0 := blk_free S_2.out 0
  have rf1 := blk_free R_2.out 1
  have sf1 := blk_free S_2.out 1
  have rf2 := blk_free R_2.out 2
  have sf2 := blk_free S_2.out 2
  have rf3 := blk_free R_2.out 3
  have sf3 := blk_free S_2.out 3
  have rf4 := blk_free R_2.out 4
  have sf4 := blk_free S_2.out 4
  have rf5 := blk_free R_2.out 5
  have sf5 := blk_free S_2.out 5
  have rf6 := blk_free R_2.out 6
  have sf6 := blk_free S_2.out 6
  have rf7 := blk_free R_2.out 7
  have sf7 := blk_free S_2.out 7

  have QY := Lib.hid q_2
  clear R_2 S_2
  go_wp2
  refine bodyPost_ret (v := .tuple #[.agg #[.int .i64 (2), .bool s.hl, .bool s.hn, .int .i64 s.la, .int .i64 s.no, .int .i64 s.sa, .int .i64 s.ba, .int .i64 s.ro], .int .i64 0]) (by simp [results, Try.results11, go_sem, *]) rfl ⟨rfl, ?_⟩
  (repeat' (first | (with_reducible exact QY.out) | (with_reducible exact Below.refl _ _) | (with_reducible refine Below.alloc ?_ ?_ _) | (with_reducible refine Below.setCell ?_ ?_ _) | (with_reducible refine Below.drew ?_) | (with_reducible refine below_drewN ?_ _) | omega | (dsimp only; omega) | (simp; done) | (simp; omega)))

set_option maxHeartbeats 2000000 in
theorem loss_s (s : HS) (w : World) (hV : ¬ HV s)  :
    Calls Try.prog 11 #[.agg #[.int .i64 s.p, .bool s.hl, .bool s.hn, .int .i64 s.la, .int .i64 s.no, .int .i64 s.sa, .int .i64 s.ba, .int .i64 s.ro]] w fun e w' => e = .returned (.tuple #[.agg #[.int .i64 0, .bool false, .bool false, .int .i64 0, .int .i64 0, .int .i64 0, .int .i64 0, .int .i64 0], .int .i64 171]) ∧ Below w.heap.size w w' := by
  have q_0 := Below.refl w.heap.size w
  go_enter Try.func11, Try.ntmps11
  go_wp2_with fail
  have b : Below w.heap.size w ((w.alloc (.cells #[.int .i64 s.p, .bool s.hl, .bool s.hn, .int .i64 s.la, .int .i64 s.no, .int .i64 s.sa, .int .i64 s.ba, .int .i64 s.ro] 24)).alloc (.cells #[.int .i64 0, .bool false, .bool false, .int .i64 0, .int .i64 0, .int .i64 0, .int .i64 0, .int .i64 0] 24)) := (((Below.refl _ w).alloc (Nat.le_refl _) (.cells #[.int .i64 s.p, .bool s.hl, .bool s.hn, .int .i64 s.la, .int .i64 s.no, .int .i64 s.sa, .int .i64 s.ba, .int .i64 s.ro] 24)).alloc (by simp only [World.size_alloc]; omega) (.cells #[.int .i64 0, .bool false, .bool false, .int .i64 0, .int .i64 0, .int .i64 0, .int .i64 0, .int .i64 0] 24))
  have nb0 := blk_new w (.cells #[.int .i64 s.p, .bool s.hl, .bool s.hn, .int .i64 s.la, .int .i64 s.no, .int .i64 s.sa, .int .i64 s.ba, .int .i64 s.ro] 24)
  have nb0 := (Below.heap_alloc (w.alloc (.cells #[.int .i64 s.p, .bool s.hl, .bool s.hn, .int .i64 s.la, .int .i64 s.no, .int .i64 s.sa, .int .i64 s.ba, .int .i64 s.ro] 24)) (.cells #[.int .i64 0, .bool false, .bool false, .int .i64 0, .int .i64 0, .int .i64 0, .int .i64 0, .int .i64 0] 24) (w.heap.size) (by simp only [World.size_alloc]; omega)).trans nb0
  have nz0 : w.heap.size < ((w.alloc (.cells #[.int .i64 s.p, .bool s.hl, .bool s.hn, .int .i64 s.la, .int .i64 s.no, .int .i64 s.sa, .int .i64 s.ba, .int .i64 s.ro] 24)).alloc (.cells #[.int .i64 0, .bool false, .bool false, .int .i64 0, .int .i64 0, .int .i64 0, .int .i64 0, .int .i64 0] 24)).heap.size := by simp only [World.size_alloc]; omega
  have nb1 := blk_new (w.alloc (.cells #[.int .i64 s.p, .bool s.hl, .bool s.hn, .int .i64 s.la, .int .i64 s.no, .int .i64 s.sa, .int .i64 s.ba, .int .i64 s.ro] 24)) (.cells #[.int .i64 0, .bool false, .bool false, .int .i64 0, .int .i64 0, .int .i64 0, .int .i64 0, .int .i64 0] 24)
  simp only [World.size_alloc] at nb1
  have nz1 : w.heap.size + 1 < ((w.alloc (.cells #[.int .i64 s.p, .bool s.hl, .bool s.hn, .int .i64 s.la, .int .i64 s.no, .int .i64 s.sa, .int .i64 s.ba, .int .i64 s.ro] 24)).alloc (.cells #[.int .i64 0, .bool false, .bool false, .int .i64 0, .int .i64 0, .int .i64 0, .int .i64 0, .int .i64 0] 24)).heap.size := by simp only [World.size_alloc]; omega
  have q_1 := q_0.trans (b.mono q_0.size)
  clear q_0
  clear b
  have S_1 := Lib.hid nb0
  have Sz_1 := nz0
  clear nb0 nz0
  have Sc0_1 := blk_cell S_1.out 0
  have Sc1_1 := blk_cell S_1.out 1
  have Sc2_1 := blk_cell S_1.out 2
  have Sc3_1 := blk_cell S_1.out 3
  have Sc4_1 := blk_cell S_1.out 4
  have Sc5_1 := blk_cell S_1.out 5
  have Sc6_1 := blk_cell S_1.out 6
  have Sc7_1 := blk_cell S_1.out 7
  have R_1 := Lib.hid nb1
  have Rz_1 := nz1
  clear nb1 nz1
  have Rc0_1 := blk_cell R_1.out 0
  have Rc1_1 := blk_cell R_1.out 1
  have Rc2_1 := blk_cell R_1.out 2
  have Rc3_1 := blk_cell R_1.out 3
  have Rc4_1 := blk_cell R_1.out 4
  have Rc5_1 := blk_cell R_1.out 5
  have Rc6_1 := blk_cell R_1.out 6
  have Rc7_1 := blk_cell R_1.out 7
  generalize ((w.alloc (.cells #[.int .i64 s.p, .bool s.hl, .bool s.hn, .int .i64 s.la, .int .i64 s.no, .int .i64 s.sa, .int .i64 s.ba, .int .i64 s.ro] 24)).alloc (.cells #[.int .i64 0, .bool false, .bool false, .int .i64 0, .int .i64 0, .int .i64 0, .int .i64 0, .int .i64 0] 24)) = V1 at q_1 S_1 Sz_1 Sc0_1 Sc1_1 Sc2_1 Sc3_1 Sc4_1 Sc5_1 Sc6_1 Sc7_1 R_1 Rz_1 Rc0_1 Rc1_1 Rc2_1 Rc3_1 Rc4_1 Rc5_1 Rc6_1 Rc7_1 ⊢
  refine (check_no s _ hV).mono ?_
  rintro e V2 ⟨rfl, b⟩
  have S_2 := Lib.hid ((b.block _ Sz_1).trans S_1.out)
  have Sz_2 := Nat.lt_of_lt_of_le Sz_1 b.size
  have Sc0_2 := blk_cell S_2.out 0
  have Sc1_2 := blk_cell S_2.out 1
  have Sc2_2 := blk_cell S_2.out 2
  have Sc3_2 := blk_cell S_2.out 3
  have Sc4_2 := blk_cell S_2.out 4
  have Sc5_2 := blk_cell S_2.out 5
  have Sc6_2 := blk_cell S_2.out 6
  have Sc7_2 := blk_cell S_2.out 7
  have R_2 := Lib.hid ((b.block _ Rz_1).trans R_1.out)
  have Rz_2 := Nat.lt_of_lt_of_le Rz_1 b.size
  have Rc0_2 := blk_cell R_2.out 0
  have Rc1_2 := blk_cell R_2.out 1
  have Rc2_2 := blk_cell R_2.out 2
  have Rc3_2 := blk_cell R_2.out 3
  have Rc4_2 := blk_cell R_2.out 4
  have Rc5_2 := blk_cell R_2.out 5
  have Rc6_2 := blk_cell R_2.out 6
  have Rc7_2 := blk_cell R_2.out 7
  have q_2 := q_1.trans (b.mono q_1.size)
  clear S_1 Sz_1 Sc0_1 Sc1_1 Sc2_1 Sc3_1 Sc4_1 Sc5_1 Sc6_1 Sc7_1 R_1 Rz_1 Rc0_1 Rc1_1 Rc2_1 Rc3_1 Rc4_1 Rc5_1 Rc6_1 Rc7_1 q_1
  clear b
  have rf0 := blk_free R_2.out 0
  have sf0 := blk_free S_2.out 0
  have rf1 := blk_free R_2.out 1
  have sf1 := blk_free S_2.out 1
  have rf2 := blk_free R_2.out 2
  have sf2 := blk_free S_2.out 2
  have rf3 := blk_free R_2.out 3
  have sf3 := blk_free S_2.out 3
  have rf4 := blk_free R_2.out 4
  have sf4 := blk_free S_2.out 4
  have rf5 := blk_free R_2.out 5
  have sf5 := blk_free S_2.out 5
  have rf6 := blk_free R_2.out 6
  have sf6 := blk_free S_2.out 6
  have rf7 := blk_free R_2.out 7
  have sf7 := blk_free S_2.out 7

  have QY := Lib.hid q_2
  clear R_2 S_2
  go_wp2
  refine bodyPost_ret (v := .tuple #[.agg #[.int .i64 0, .bool false, .bool false, .int .i64 0, .int .i64 0, .int .i64 0, .int .i64 0, .int .i64 0], .int .i64 171]) (by simp [results, Try.results11, go_sem, *]) rfl ⟨rfl, ?_⟩
  (repeat' (first | (with_reducible exact QY.out) | (with_reducible exact Below.refl _ _) | (with_reducible refine Below.alloc ?_ ?_ _) | (with_reducible refine Below.setCell ?_ ?_ _) | (with_reducible refine Below.drew ?_) | (with_reducible refine below_drewN ?_ _) | omega | (dsimp only; omega) | (simp; done) | (simp; omega)))

set_option maxHeartbeats 2000000 in
theorem sample_s (s : HS) (r : Int) (w : World) (hV : ¬ HV s)  :
    Calls Try.prog 9 #[.agg #[.int .i64 s.p, .bool s.hl, .bool s.hn, .int .i64 s.la, .int .i64 s.no, .int .i64 s.sa, .int .i64 s.ba, .int .i64 s.ro], .int .i64 r] w fun e w' => e = .returned (.tuple #[.agg #[.int .i64 0, .bool false, .bool false, .int .i64 0, .int .i64 0, .int .i64 0, .int .i64 0, .int .i64 0], .int .i64 171]) ∧ Below w.heap.size w w' := by
  have q_0 := Below.refl w.heap.size w
  go_enter Try.func9, Try.ntmps9
  go_wp2_with fail
  have b : Below w.heap.size w ((w.alloc (.cells #[.int .i64 s.p, .bool s.hl, .bool s.hn, .int .i64 s.la, .int .i64 s.no, .int .i64 s.sa, .int .i64 s.ba, .int .i64 s.ro] 24)).alloc (.cells #[.int .i64 0, .bool false, .bool false, .int .i64 0, .int .i64 0, .int .i64 0, .int .i64 0, .int .i64 0] 24)) := (((Below.refl _ w).alloc (Nat.le_refl _) (.cells #[.int .i64 s.p, .bool s.hl, .bool s.hn, .int .i64 s.la, .int .i64 s.no, .int .i64 s.sa, .int .i64 s.ba, .int .i64 s.ro] 24)).alloc (by simp only [World.size_alloc]; omega) (.cells #[.int .i64 0, .bool false, .bool false, .int .i64 0, .int .i64 0, .int .i64 0, .int .i64 0, .int .i64 0] 24))
  have nb0 := blk_new w (.cells #[.int .i64 s.p, .bool s.hl, .bool s.hn, .int .i64 s.la, .int .i64 s.no, .int .i64 s.sa, .int .i64 s.ba, .int .i64 s.ro] 24)
  have nb0 := (Below.heap_alloc (w.alloc (.cells #[.int .i64 s.p, .bool s.hl, .bool s.hn, .int .i64 s.la, .int .i64 s.no, .int .i64 s.sa, .int .i64 s.ba, .int .i64 s.ro] 24)) (.cells #[.int .i64 0, .bool false, .bool false, .int .i64 0, .int .i64 0, .int .i64 0, .int .i64 0, .int .i64 0] 24) (w.heap.size) (by simp only [World.size_alloc]; omega)).trans nb0
  have nz0 : w.heap.size < ((w.alloc (.cells #[.int .i64 s.p, .bool s.hl, .bool s.hn, .int .i64 s.la, .int .i64 s.no, .int .i64 s.sa, .int .i64 s.ba, .int .i64 s.ro] 24)).alloc (.cells #[.int .i64 0, .bool false, .bool false, .int .i64 0, .int .i64 0, .int .i64 0, .int .i64 0, .int .i64 0] 24)).heap.size := by simp only [World.size_alloc]; omega
  have nb1 := blk_new (w.alloc (.cells #[.int .i64 s.p, .bool s.hl, .bool s.hn, .int .i64 s.la, .int .i64 s.no, .int .i64 s.sa, .int .i64 s.ba, .int .i64 s.ro] 24)) (.cells #[.int .i64 0, .bool false, .bool false, .int .i64 0, .int .i64 0, .int .i64 0, .int .i64 0, .int .i64 0] 24)
  simp only [World.size_alloc] at nb1
  have nz1 : w.heap.size + 1 < ((w.alloc (.cells #[.int .i64 s.p, .bool s.hl, .bool s.hn, .int .i64 s.la, .int .i64 s.no, .int .i64 s.sa, .int .i64 s.ba, .int .i64 s.ro] 24)).alloc (.cells #[.int .i64 0, .bool false, .bool false, .int .i64 0, .int .i64 0, .int .i64 0, .int .i64 0, .int .i64 0] 24)).heap.size := by simp only [World.size_alloc]; omega
  have q_1 := q_0.trans (b.mono q_0.size)
  clear q_0
  clear b
  have S_1 := Lib.hid nb0
  have Sz_1 := nz0
  clear nb0 nz0
  have Sc0_1 := blk_cell S_1.out 0
  have Sc1_1 := blk_cell S_1.out 1
  have Sc2_1 := blk_cell S_1.out 2
  have Sc3_1 := blk_cell S_1.out 3
  have Sc4_1 := blk_cell S_1.out 4
  have Sc5_1 := blk_cell S_1.out 5
  have Sc6_1 := blk_cell S_1.out 6
  have Sc7_1 := blk_cell S_1.out 7
  have R_1 := Lib.hid nb1
  have Rz_1 := nz1
  clear nb1 nz1
  have Rc0_1 := blk_cell R_1.out 0
  have Rc1_1 := blk_cell R_1.out 1
  have Rc2_1 := blk_cell R_1.out 2
  have Rc3_1 := blk_cell R_1.out 3
  have Rc4_1 := blk_cell R_1.out 4
  have Rc5_1 := blk_cell R_1.out 5
  have Rc6_1 := blk_cell R_1.out 6
  have Rc7_1 := blk_cell R_1.out 7
  generalize ((w.alloc (.cells #[.int .i64 s.p, .bool s.hl, .bool s.hn, .int .i64 s.la, .int .i64 s.no, .int .i64 s.sa, .int .i64 s.ba, .int .i64 s.ro] 24)).alloc (.cells #[.int .i64 0, .bool false, .bool false, .int .i64 0, .int .i64 0, .int .i64 0, .int .i64 0, .int .i64 0] 24)) = V1 at q_1 S_1 Sz_1 Sc0_1 Sc1_1 Sc2_1 Sc3_1 Sc4_1 Sc5_1 Sc6_1 Sc7_1 R_1 Rz_1 Rc0_1 Rc1_1 Rc2_1 Rc3_1 Rc4_1 Rc5_1 Rc6_1 Rc7_1 ⊢
  refine (check_no s _ hV).mono ?_
  rintro e V2 ⟨rfl, b⟩
  have S_2 := Lib.hid ((b.block _ Sz_1).trans S_1.out)
  have Sz_2 := Nat.lt_of_lt_of_le Sz_1 b.size
  have Sc0_2 := blk_cell S_2.out 0
  have Sc1_2 := blk_cell S_2.out 1
  have Sc2_2 := blk_cell S_2.out 2
  have Sc3_2 := blk_cell S_2.out 3
  have Sc4_2 := blk_cell S_2.out 4
  have Sc5_2 := blk_cell S_2.out 5
  have Sc6_2 := blk_cell S_2.out 6
  have Sc7_2 := blk_cell S_2.out 7
  have R_2 := Lib.hid ((b.block _ Rz_1).trans R_1.out)
  have Rz_2 := Nat.lt_of_lt_of_le Rz_1 b.size
  have Rc0_2 := blk_cell R_2.out 0
  have Rc1_2 := blk_cell R_2.out 1
  have Rc2_2 := blk_cell R_2.out 2
  have Rc3_2 := blk_cell R_2.out 3
  have Rc4_2 := blk_cell R_2.out 4
  have Rc5_2 := blk_cell R_2.out 5
  have Rc6_2 := blk_cell R_2.out 6
  have Rc7_2 := blk_cell R_2.out 7
  have q_2 := q_1.trans (b.mono q_1.size)
  clear S_1 Sz_1 Sc0_1 Sc1_1 Sc2_1 Sc3_1 Sc4_1 Sc5_1 Sc6_1 Sc7_1 R_1 Rz_1 Rc0_1 Rc1_1 Rc2_1 Rc3_1 Rc4_1 Rc5_1 Rc6_1 Rc7_1 q_1
  clear b
  have rf0 := blk_free R_2.out 0
  have sf0 := blk_free S_2.out 0
  have rf1 := blk_free R_2.out 1
  have sf1 := blk_free S_2.out 1
  have rf2 := blk_free R_2.out 2
  have sf2 := blk_free S_2.out 2
  have rf3 := blk_free R_2.out 3
  have sf3 := blk_free S_2.out 3
  have rf4 := blk_free R_2.out 4
  have sf4 := blk_free S_2.out 4
  have rf5 := blk_free R_2.out 5
  have sf5 := blk_free S_2.out 5
  have rf6 := blk_free R_2.out 6
  have sf6 := blk_free S_2.out 6
  have rf7 := blk_free R_2.out 7
  have sf7 := blk_free S_2.out 7

  have QY := Lib.hid q_2
  clear R_2 S_2
  go_wp2
  refine bodyPost_ret (v := .tuple #[.agg #[.int .i64 0, .bool false, .bool false, .int .i64 0, .int .i64 0, .int .i64 0, .int .i64 0, .int .i64 0], .int .i64 171]) (by simp [results, Try.results9, go_sem, *]) rfl ⟨rfl, ?_⟩
  (repeat' (first | (with_reducible exact QY.out) | (with_reducible exact Below.refl _ _) | (with_reducible refine Below.alloc ?_ ?_ _) | (with_reducible refine Below.setCell ?_ ?_ _) | (with_reducible refine Below.drew ?_) | (with_reducible refine below_drewN ?_ _) | omega | (dsimp only; omega) | (simp; done) | (simp; omega)))

set_option maxHeartbeats 2000000 in
theorem sample_r (s : HS) (r : Int) (w : World) (hV : HV s) (hR : ¬ NV r) :
    Calls Try.prog 9 #[.agg #[.int .i64 s.p, .bool s.hl, .bool s.hn, .int .i64 s.la, .int .i64 s.no, .int .i64 s.sa, .int .i64 s.ba, .int .i64 s.ro], .int .i64 r] w fun e w' => e = .returned (.tuple #[.agg #[.int .i64 0, .bool false, .bool false, .int .i64 0, .int .i64 0, .int .i64 0, .int .i64 0, .int .i64 0], .int .i64 4]) ∧ Below w.heap.size w w' := by
  have HV' := Lib.hid hV
  obtain ⟨⟨p0, p1⟩, ⟨a0, a1⟩, ⟨b0, b1⟩, ⟨c0, c1⟩, ⟨d0, d1⟩, e0, e1⟩ := hV
  have q_0 := Below.refl w.heap.size w
  go_enter Try.func9, Try.ntmps9
  go_wp2_with fail
  have b : Below w.heap.size w ((w.alloc (.cells #[.int .i64 s.p, .bool s.hl, .bool s.hn, .int .i64 s.la, .int .i64 s.no, .int .i64 s.sa, .int .i64 s.ba, .int .i64 s.ro] 24)).alloc (.cells #[.int .i64 0, .bool false, .bool false, .int .i64 0, .int .i64 0, .int .i64 0, .int .i64 0, .int .i64 0] 24)) := (((Below.refl _ w).alloc (Nat.le_refl _) (.cells #[.int .i64 s.p, .bool s.hl, .bool s.hn, .int .i64 s.la, .int .i64 s.no, .int .i64 s.sa, .int .i64 s.ba, .int .i64 s.ro] 24)).alloc (by simp only [World.size_alloc]; omega) (.cells #[.int .i64 0, .bool false, .bool false, .int .i64 0, .int .i64 0, .int .i64 0, .int .i64 0, .int .i64 0] 24))
  have nb0 := blk_new w (.cells #[.int .i64 s.p, .bool s.hl, .bool s.hn, .int .i64 s.la, .int .i64 s.no, .int .i64 s.sa, .int .i64 s.ba, .int .i64 s.ro] 24)
  have nb0 := (Below.heap_alloc (w.alloc (.cells #[.int .i64 s.p, .bool s.hl, .bool s.hn, .int .i64 s.la, .int .i64 s.no, .int .i64 s.sa, .int .i64 s.ba, .int .i64 s.ro] 24)) (.cells #[.int .i64 0, .bool false, .bool false, .int .i64 0, .int .i64 0, .int .i64 0, .int .i64 0, .int .i64 0] 24) (w.heap.size) (by simp only [World.size_alloc]; omega)).trans nb0
  have nz0 : w.heap.size < ((w.alloc (.cells #[.int .i64 s.p, .bool s.hl, .bool s.hn, .int .i64 s.la, .int .i64 s.no, .int .i64 s.sa, .int .i64 s.ba, .int .i64 s.ro] 24)).alloc (.cells #[.int .i64 0, .bool false, .bool false, .int .i64 0, .int .i64 0, .int .i64 0, .int .i64 0, .int .i64 0] 24)).heap.size := by simp only [World.size_alloc]; omega
  have nb1 := blk_new (w.alloc (.cells #[.int .i64 s.p, .bool s.hl, .bool s.hn, .int .i64 s.la, .int .i64 s.no, .int .i64 s.sa, .int .i64 s.ba, .int .i64 s.ro] 24)) (.cells #[.int .i64 0, .bool false, .bool false, .int .i64 0, .int .i64 0, .int .i64 0, .int .i64 0, .int .i64 0] 24)
  simp only [World.size_alloc] at nb1
  have nz1 : w.heap.size + 1 < ((w.alloc (.cells #[.int .i64 s.p, .bool s.hl, .bool s.hn, .int .i64 s.la, .int .i64 s.no, .int .i64 s.sa, .int .i64 s.ba, .int .i64 s.ro] 24)).alloc (.cells #[.int .i64 0, .bool false, .bool false, .int .i64 0, .int .i64 0, .int .i64 0, .int .i64 0, .int .i64 0] 24)).heap.size := by simp only [World.size_alloc]; omega
  have q_1 := q_0.trans (b.mono q_0.size)
  clear q_0
  clear b
  have S_1 := Lib.hid nb0
  have Sz_1 := nz0
  clear nb0 nz0
  have Sc0_1 := blk_cell S_1.out 0
  have Sc1_1 := blk_cell S_1.out 1
  have Sc2_1 := blk_cell S_1.out 2
  have Sc3_1 := blk_cell S_1.out 3
  have Sc4_1 := blk_cell S_1.out 4
  have Sc5_1 := blk_cell S_1.out 5
  have Sc6_1 := blk_cell S_1.out 6
  have Sc7_1 := blk_cell S_1.out 7
  have R_1 := Lib.hid nb1
  have Rz_1 := nz1
  clear nb1 nz1
  have Rc0_1 := blk_cell R_1.out 0
  have Rc1_1 := blk_cell R_1.out 1
  have Rc2_1 := blk_cell R_1.out 2
  have Rc3_1 := blk_cell R_1.out 3
  have Rc4_1 := blk_cell R_1.out 4
  have Rc5_1 := blk_cell R_1.out 5
  have Rc6_1 := blk_cell R_1.out 6
  have Rc7_1 := blk_cell R_1.out 7
  generalize ((w.alloc (.cells #[.int .i64 s.p, .bool s.hl, .bool s.hn, .int .i64 s.la, .int .i64 s.no, .int .i64 s.sa, .int .i64 s.ba, .int .i64 s.ro] 24)).alloc (.cells #[.int .i64 0, .bool false, .bool false, .int .i64 0, .int .i64 0, .int .i64 0, .int .i64 0, .int .i64 0] 24)) = V1 at q_1 S_1 Sz_1 Sc0_1 Sc1_1 Sc2_1 Sc3_1 Sc4_1 Sc5_1 Sc6_1 Sc7_1 R_1 Rz_1 Rc0_1 Rc1_1 Rc2_1 Rc3_1 Rc4_1 Rc5_1 Rc6_1 Rc7_1 ⊢
  refine (check_yes s _ HV'.out).mono ?_
  rintro e V2 ⟨rfl, b⟩
  have S_2 := Lib.hid ((b.block _ Sz_1).trans S_1.out)
  have Sz_2 := Nat.lt_of_lt_of_le Sz_1 b.size
  have Sc0_2 := blk_cell S_2.out 0
  have Sc1_2 := blk_cell S_2.out 1
  have Sc2_2 := blk_cell S_2.out 2
  have Sc3_2 := blk_cell S_2.out 3
  have Sc4_2 := blk_cell S_2.out 4
  have Sc5_2 := blk_cell S_2.out 5
  have Sc6_2 := blk_cell S_2.out 6
  have Sc7_2 := blk_cell S_2.out 7
  have R_2 := Lib.hid ((b.block _ Rz_1).trans R_1.out)
  have Rz_2 := Nat.lt_of_lt_of_le Rz_1 b.size
  have Rc0_2 := blk_cell R_2.out 0
  have Rc1_2 := blk_cell R_2.out 1
  have Rc2_2 := blk_cell R_2.out 2
  have Rc3_2 := blk_cell R_2.out 3
  have Rc4_2 := blk_cell R_2.out 4
  have Rc5_2 := blk_cell R_2.out 5
  have Rc6_2 := blk_cell R_2.out 6
  have Rc7_2 := blk_cell R_2.out 7
  have q_2 := q_1.trans (b.mono q_1.size)
  clear S_1 Sz_1 Sc0_1 Sc1_1 Sc2_1 Sc3_1 Sc4_1 Sc5_1 Sc6_1 Sc7_1 R_1 Rz_1 Rc0_1 Rc1_1 Rc2_1 Rc3_1 Rc4_1 Rc5_1 Rc6_1 Rc7_1 q_1
  clear b
  go_wp2_with fail
  refine (isn_no r _ hR).mono ?_
  rintro e w' ⟨rfl, rfl⟩
  have rf0 := blk_free R_2.out 0
  have sf0 := blk_free S_2.out 0
  have rf1 := blk_free R_2.out 1
  have sf1 := blk_free S_2.out 1
  have rf2 := blk_free R_2.out 2
  have sf2 := blk_free S_2.out 2
  have rf3 := blk_free R_2.out 3
  have sf3 := blk_free S_2.out 3
  have rf4 := blk_free R_2.out 4
  have sf4 := blk_free S_2.out 4
  have rf5 := blk_free R_2.out 5
  have sf5 := blk_free S_2.out 5
  have rf6 := blk_free R_2.out 6
  have sf6 := blk_free S_2.out 6
  have rf7 := blk_free R_2.out 7
  have sf7 := blk_free S_2.out 7

  have QY := Lib.hid q_2
  clear R_2 S_2
  go_wp2
  refine bodyPost_ret (v := .tuple #[.agg #[.int .i64 0, .bool false, .bool false, .int .i64 0, .int .i64 0, .int .i64 0, .int .i64 0, .int .i64 0], .int .i64 4]) (by simp [results, Try.results9, go_sem, *]) rfl ⟨rfl, ?_⟩
  (repeat' (first | (with_reducible exact QY.out) | (with_reducible exact Below.refl _ _) | (with_reducible refine Below.alloc ?_ ?_ _) | (with_reducible refine Below.setCell ?_ ?_ _) | (with_reducible refine Below.drew ?_) | (with_reducible refine below_drewN ?_ _) | omega | (dsimp only; omega) | (simp; done) | (simp; omega)))

set_option maxHeartbeats 2000000 in
theorem sample_a0 (s : HS) (r N : Int) (w : World) (hV : HV s) (hR : NV r) (hN : min (s.sa + 1) 1073741824 = N) (h8 : N < 8) (hk : s.hn = false) :
    Calls Try.prog 9 #[.agg #[.int .i64 s.p, .bool s.hl, .bool s.hn, .int .i64 s.la, .int .i64 s.no, .int .i64 s.sa, .int .i64 s.ba, .int .i64 s.ro], .int .i64 r] w fun e w' => e = .returned (.tuple #[.agg #[.int .i64 s.p, .bool s.hl, .bool (true), .int .i64 s.la, .int .i64 (r), .int .i64 (N), .int .i64 s.ba, .int .i64 s.ro], .int .i64 0]) ∧ Below w.heap.size w w' := by
  have HV' := Lib.hid hV
  obtain ⟨⟨p0, p1⟩, ⟨a0, a1⟩, ⟨b0, b1⟩, ⟨c0, c1⟩, ⟨d0, d1⟩, e0, e1⟩ := hV
  have N0 : 0 ≤ N ∧ N ≤ 1073741824 := by omega
  have HR := Lib.hid hR
  obtain ⟨r0, r1⟩ := hR
  have q_0 := Below.refl w.heap.size w
  have H_hN := Lib.hid hN
  clear hN
  have H_hk := Lib.hid hk
  clear hk
  go_enter Try.func9, Try.ntmps9
  go_wp2_with fail
  have b : Below w.heap.size w ((w.alloc (.cells #[.int .i64 s.p, .bool s.hl, .bool s.hn, .int .i64 s.la, .int .i64 s.no, .int .i64 s.sa, .int .i64 s.ba, .int .i64 s.ro] 24)).alloc (.cells #[.int .i64 0, .bool false, .bool false, .int .i64 0, .int .i64 0, .int .i64 0, .int .i64 0, .int .i64 0] 24)) := (((Below.refl _ w).alloc (Nat.le_refl _) (.cells #[.int .i64 s.p, .bool s.hl, .bool s.hn, .int .i64 s.la, .int .i64 s.no, .int .i64 s.sa, .int .i64 s.ba, .int .i64 s.ro] 24)).alloc (by simp only [World.size_alloc]; omega) (.cells #[.int .i64 0, .bool false, .bool false, .int .i64 0, .int .i64 0, .int .i64 0, .int .i64 0, .int .i64 0] 24))
  have nb0 := blk_new w (.cells #[.int .i64 s.p, .bool s.hl, .bool s.hn, .int .i64 s.la, .int .i64 s.no, .int .i64 s.sa, .int .i64 s.ba, .int .i64 s.ro] 24)
  have nb0 := (Below.heap_alloc (w.alloc (.cells #[.int .i64 s.p, .bool s.hl, .bool s.hn, .int .i64 s.la, .int .i64 s.no, .int .i64 s.sa, .int .i64 s.ba, .int .i64 s.ro] 24)) (.cells #[.int .i64 0, .bool false, .bool false, .int .i64 0, .int .i64 0, .int .i64 0, .int .i64 0, .int .i64 0] 24) (w.heap.size) (by simp only [World.size_alloc]; omega)).trans nb0
  have nz0 : w.heap.size < ((w.alloc (.cells #[.int .i64 s.p, .bool s.hl, .bool s.hn, .int .i64 s.la, .int .i64 s.no, .int .i64 s.sa, .int .i64 s.ba, .int .i64 s.ro] 24)).alloc (.cells #[.int .i64 0, .bool false, .bool false, .int .i64 0, .int .i64 0, .int .i64 0, .int .i64 0, .int .i64 0] 24)).heap.size := by simp only [World.size_alloc]; omega
  have nb1 := blk_new (w.alloc (.cells #[.int .i64 s.p, .bool s.hl, .bool s.hn, .int .i64 s.la, .int .i64 s.no, .int .i64 s.sa, .int .i64 s.ba, .int .i64 s.ro] 24)) (.cells #[.int .i64 0, .bool false, .bool false, .int .i64 0, .int .i64 0, .int .i64 0, .int .i64 0, .int .i64 0] 24)
  simp only [World.size_alloc] at nb1
  have nz1 : w.heap.size + 1 < ((w.alloc (.cells #[.int .i64 s.p, .bool s.hl, .bool s.hn, .int .i64 s.la, .int .i64 s.no, .int .i64 s.sa, .int .i64 s.ba, .int .i64 s.ro] 24)).alloc (.cells #[.int .i64 0, .bool false, .bool false, .int .i64 0, .int .i64 0, .int .i64 0, .int .i64 0, .int .i64 0] 24)).heap.size := by simp only [World.size_alloc]; omega
  have q_1 := q_0.trans (b.mono q_0.size)
  clear q_0
  clear b
  have S_1 := Lib.hid nb0
  have Sz_1 := nz0
  clear nb0 nz0
  have Sc0_1 := blk_cell S_1.out 0
  have Sc1_1 := blk_cell S_1.out 1
  have Sc2_1 := blk_cell S_1.out 2
  have Sc3_1 := blk_cell S_1.out 3
  have Sc4_1 := blk_cell S_1.out 4
  have Sc5_1 := blk_cell S_1.out 5
  have Sc6_1 := blk_cell S_1.out 6
  have Sc7_1 := blk_cell S_1.out 7
  have R_1 := Lib.hid nb1
  have Rz_1 := nz1
  clear nb1 nz1
  have Rc0_1 := blk_cell R_1.out 0
  have Rc1_1 := blk_cell R_1.out 1
  have Rc2_1 := blk_cell R_1.out 2
  have Rc3_1 := blk_cell R_1.out 3
  have Rc4_1 := blk_cell R_1.out 4
  have Rc5_1 := blk_cell R_1.out 5
  have Rc6_1 := blk_cell R_1.out 6
  have Rc7_1 := blk_cell R_1.out 7
  generalize ((w.alloc (.cells #[.int .i64 s.p, .bool s.hl, .bool s.hn, .int .i64 s.la, .int .i64 s.no, .int .i64 s.sa, .int .i64 s.ba, .int .i64 s.ro] 24)).alloc (.cells #[.int .i64 0, .bool false, .bool false, .int .i64 0, .int .i64 0, .int .i64 0, .int .i64 0, .int .i64 0] 24)) = V1 at q_1 S_1 Sz_1 Sc0_1 Sc1_1 Sc2_1 Sc3_1 Sc4_1 Sc5_1 Sc6_1 Sc7_1 R_1 Rz_1 Rc0_1 Rc1_1 Rc2_1 Rc3_1 Rc4_1 Rc5_1 Rc6_1 Rc7_1 ⊢
  refine (check_yes s _ HV'.out).mono ?_
  rintro e V2 ⟨rfl, b⟩
  have S_2 := Lib.hid ((b.block _ Sz_1).trans S_1.out)
  have Sz_2 := Nat.lt_of_lt_of_le Sz_1 b.size
  have Sc0_2 := blk_cell S_2.out 0
  have Sc1_2 := blk_cell S_2.out 1
  have Sc2_2 := blk_cell S_2.out 2
  have Sc3_2 := blk_cell S_2.out 3
  have Sc4_2 := blk_cell S_2.out 4
  have Sc5_2 := blk_cell S_2.out 5
  have Sc6_2 := blk_cell S_2.out 6
  have Sc7_2 := blk_cell S_2.out 7
  have R_2 := Lib.hid ((b.block _ Rz_1).trans R_1.out)
  have Rz_2 := Nat.lt_of_lt_of_le Rz_1 b.size
  have Rc0_2 := blk_cell R_2.out 0
  have Rc1_2 := blk_cell R_2.out 1
  have Rc2_2 := blk_cell R_2.out 2
  have Rc3_2 := blk_cell R_2.out 3
  have Rc4_2 := blk_cell R_2.out 4
  have Rc5_2 := blk_cell R_2.out 5
  have Rc6_2 := blk_cell R_2.out 6
  have Rc7_2 := blk_cell R_2.out 7
  have q_2 := q_1.trans (b.mono q_1.size)
  clear S_1 Sz_1 Sc0_1 Sc1_1 Sc2_1 Sc3_1 Sc4_1 Sc5_1 Sc6_1 Sc7_1 R_1 Rz_1 Rc0_1 Rc1_1 Rc2_1 Rc3_1 Rc4_1 Rc5_1 Rc6_1 Rc7_1 q_1
  clear b
  have hN := H_hN.out
  have hk := H_hk.out
  go_wp2_with fail
  refine (isn_yes r _ HR.out).mono ?_
  rintro e w' ⟨rfl, rfl⟩
  have rf0 := blk_free R_2.out 0
  have sf0 := blk_free S_2.out 0
  have rf1 := blk_free R_2.out 1
  have sf1 := blk_free S_2.out 1
  have rf2 := blk_free R_2.out 2
  have sf2 := blk_free S_2.out 2
  have rf3 := blk_free R_2.out 3
  have sf3 := blk_free S_2.out 3
  have rf4 := blk_free R_2.out 4
  have sf4 := blk_free S_2.out 4
  have rf5 := blk_free R_2.out 5
  have sf5 := blk_free S_2.out 5
  have rf6 := blk_free R_2.out 6
  have sf6 := blk_free S_2.out 6
  have rf7 := blk_free R_2.out 7
  have sf7 := blk_free S_2.out 7

  have QY := Lib.hid q_2
  clear R_2 S_2
  go_wp2
  refine bodyPost_ret (v := .tuple #[.agg #[.int .i64 s.p, .bool s.hl, .bool (true), .int .i64 s.la, .int .i64 (r), .int .i64 (N), .int .i64 s.ba, .int .i64 s.ro], .int .i64 0]) (by simp [results, Try.results9, go_sem, *]) rfl ⟨rfl, ?_⟩
  (repeat' (first | (with_reducible exact QY.out) | (with_reducible exact Below.refl _ _) | (with_reducible refine Below.alloc ?_ ?_ _) | (with_reducible refine Below.setCell ?_ ?_ _) | (with_reducible refine Below.drew ?_) | (with_reducible refine below_drewN ?_ _) | omega | (dsimp only; omega) | (simp; done) | (simp; omega)))

set_option maxHeartbeats 2000000 in
theorem sample_a1 (s : HS) (r N : Int) (u : HS) (w : World) (hV : HV s) (hR : NV r) (hN : min (s.sa + 1) 1073741824 = N) (h8 : 8 ≤ N) (hk : s.hn = false) (hU : jd ⟨s.p, s.hl, true, s.la, r, N, s.ba, s.ro⟩ = u) :
    Calls Try.prog 9 #[.agg #[.int .i64 s.p, .bool s.hl, .bool s.hn, .int .i64 s.la, .int .i64 s.no, .int .i64 s.sa, .int .i64 s.ba, .int .i64 s.ro], .int .i64 r] w fun e w' => e = .returned (.tuple #[.agg #[.int .i64 u.p, .bool u.hl, .bool u.hn, .int .i64 u.la, .int .i64 u.no, .int .i64 u.sa, .int .i64 u.ba, .int .i64 u.ro], .int .i64 0]) ∧ Below w.heap.size w w' := by
  have HV' := Lib.hid hV
  obtain ⟨⟨p0, p1⟩, ⟨a0, a1⟩, ⟨b0, b1⟩, ⟨c0, c1⟩, ⟨d0, d1⟩, e0, e1⟩ := hV
  have N0 : 0 ≤ N ∧ N ≤ 1073741824 := by omega
  have HR := Lib.hid hR
  obtain ⟨r0, r1⟩ := hR
  have HT : Hid (HV ⟨s.p, s.hl, true, s.la, r, N, s.ba, s.ro⟩) := Lib.hid ⟨⟨p0, p1⟩, ⟨a0, a1⟩, ⟨by dsimp only; omega, by dsimp only; omega⟩, ⟨c0, c1⟩, ⟨by dsimp only; omega, by dsimp only; omega⟩, e0, e1⟩
  have HU := Lib.hid hU
  clear hU
  have q_0 := Below.refl w.heap.size w
  have H_hN := Lib.hid hN
  clear hN
  have H_hk := Lib.hid hk
  clear hk
  go_enter Try.func9, Try.ntmps9
  go_wp2_with fail
  have b : Below w.heap.size w ((w.alloc (.cells #[.int .i64 s.p, .bool s.hl, .bool s.hn, .int .i64 s.la, .int .i64 s.no, .int .i64 s.sa, .int .i64 s.ba, .int .i64 s.ro] 24)).alloc (.cells #[.int .i64 0, .bool false, .bool false, .int .i64 0, .int .i64 0, .int .i64 0, .int .i64 0, .int .i64 0] 24)) := (((Below.refl _ w).alloc (Nat.le_refl _) (.cells #[.int .i64 s.p, .bool s.hl, .bool s.hn, .int .i64 s.la, .int .i64 s.no, .int .i64 s.sa, .int .i64 s.ba, .int .i64 s.ro] 24)).alloc (by simp only [World.size_alloc]; omega) (.cells #[.int .i64 0, .bool false, .bool false, .int .i64 0, .int .i64 0, .int .i64 0, .int .i64 0, .int .i64 0] 24))
  have nb0 := blk_new w (.cells #[.int .i64 s.p, .bool s.hl, .bool s.hn, .int .i64 s.la, .int .i64 s.no, .int .i64 s.sa, .int .i64 s.ba, .int .i64 s.ro] 24)
  have nb0 := (Below.heap_alloc (w.alloc (.cells #[.int .i64 s.p, .bool s.hl, .bool s.hn, .int .i64 s.la, .int .i64 s.no, .int .i64 s.sa, .int .i64 s.ba, .int .i64 s.ro] 24)) (.cells #[.int .i64 0, .bool false, .bool false, .int .i64 0, .int .i64 0, .int .i64 0, .int .i64 0, .int .i64 0] 24) (w.heap.size) (by simp only [World.size_alloc]; omega)).trans nb0
  have nz0 : w.heap.size < ((w.alloc (.cells #[.int .i64 s.p, .bool s.hl, .bool s.hn, .int .i64 s.la, .int .i64 s.no, .int .i64 s.sa, .int .i64 s.ba, .int .i64 s.ro] 24)).alloc (.cells #[.int .i64 0, .bool false, .bool false, .int .i64 0, .int .i64 0, .int .i64 0, .int .i64 0, .int .i64 0] 24)).heap.size := by simp only [World.size_alloc]; omega
  have nb1 := blk_new (w.alloc (.cells #[.int .i64 s.p, .bool s.hl, .bool s.hn, .int .i64 s.la, .int .i64 s.no, .int .i64 s.sa, .int .i64 s.ba, .int .i64 s.ro] 24)) (.cells #[.int .i64 0, .bool false, .bool false, .int .i64 0, .int .i64 0, .int .i64 0, .int .i64 0, .int .i64 0] 24)
  simp only [World.size_alloc] at nb1
  have nz1 : w.heap.size + 1 < ((w.alloc (.cells #[.int .i64 s.p, .bool s.hl, .bool s.hn, .int .i64 s.la, .int .i64 s.no, .int .i64 s.sa, .int .i64 s.ba, .int .i64 s.ro] 24)).alloc (.cells #[.int .i64 0, .bool false, .bool false, .int .i64 0, .int .i64 0, .int .i64 0, .int .i64 0, .int .i64 0] 24)).heap.size := by simp only [World.size_alloc]; omega
  have q_1 := q_0.trans (b.mono q_0.size)
  clear q_0
  clear b
  have S_1 := Lib.hid nb0
  have Sz_1 := nz0
  clear nb0 nz0
  have Sc0_1 := blk_cell S_1.out 0
  have Sc1_1 := blk_cell S_1.out 1
  have Sc2_1 := blk_cell S_1.out 2
  have Sc3_1 := blk_cell S_1.out 3
  have Sc4_1 := blk_cell S_1.out 4
  have Sc5_1 := blk_cell S_1.out 5
  have Sc6_1 := blk_cell S_1.out 6
  have Sc7_1 := blk_cell S_1.out 7
  have R_1 := Lib.hid nb1
  have Rz_1 := nz1
  clear nb1 nz1
  have Rc0_1 := blk_cell R_1.out 0
  have Rc1_1 := blk_cell R_1.out 1
  have Rc2_1 := blk_cell R_1.out 2
  have Rc3_1 := blk_cell R_1.out 3
  have Rc4_1 := blk_cell R_1.out 4
  have Rc5_1 := blk_cell R_1.out 5
  have Rc6_1 := blk_cell R_1.out 6
  have Rc7_1 := blk_cell R_1.out 7
  generalize ((w.alloc (.cells #[.int .i64 s.p, .bool s.hl, .bool s.hn, .int .i64 s.la, .int .i64 s.no, .int .i64 s.sa, .int .i64 s.ba, .int .i64 s.ro] 24)).alloc (.cells #[.int .i64 0, .bool false, .bool false, .int .i64 0, .int .i64 0, .int .i64 0, .int .i64 0, .int .i64 0] 24)) = V1 at q_1 S_1 Sz_1 Sc0_1 Sc1_1 Sc2_1 Sc3_1 Sc4_1 Sc5_1 Sc6_1 Sc7_1 R_1 Rz_1 Rc0_1 Rc1_1 Rc2_1 Rc3_1 Rc4_1 Rc5_1 Rc6_1 Rc7_1 ⊢
  refine (check_yes s _ HV'.out).mono ?_
  rintro e V2 ⟨rfl, b⟩
  have S_2 := Lib.hid ((b.block _ Sz_1).trans S_1.out)
  have Sz_2 := Nat.lt_of_lt_of_le Sz_1 b.size
  have Sc0_2 := blk_cell S_2.out 0
  have Sc1_2 := blk_cell S_2.out 1
  have Sc2_2 := blk_cell S_2.out 2
  have Sc3_2 := blk_cell S_2.out 3
  have Sc4_2 := blk_cell S_2.out 4
  have Sc5_2 := blk_cell S_2.out 5
  have Sc6_2 := blk_cell S_2.out 6
  have Sc7_2 := blk_cell S_2.out 7
  have R_2 := Lib.hid ((b.block _ Rz_1).trans R_1.out)
  have Rz_2 := Nat.lt_of_lt_of_le Rz_1 b.size
  have Rc0_2 := blk_cell R_2.out 0
  have Rc1_2 := blk_cell R_2.out 1
  have Rc2_2 := blk_cell R_2.out 2
  have Rc3_2 := blk_cell R_2.out 3
  have Rc4_2 := blk_cell R_2.out 4
  have Rc5_2 := blk_cell R_2.out 5
  have Rc6_2 := blk_cell R_2.out 6
  have Rc7_2 := blk_cell R_2.out 7
  have q_2 := q_1.trans (b.mono q_1.size)
  clear S_1 Sz_1 Sc0_1 Sc1_1 Sc2_1 Sc3_1 Sc4_1 Sc5_1 Sc6_1 Sc7_1 R_1 Rz_1 Rc0_1 Rc1_1 Rc2_1 Rc3_1 Rc4_1 Rc5_1 Rc6_1 Rc7_1 q_1
  clear b
  have hN := H_hN.out
  have hk := H_hk.out
  go_wp2_with fail
  refine (isn_yes r _ HR.out).mono ?_
  rintro e w' ⟨rfl, rfl⟩
  have rf0 := blk_free R_2.out 0
  have sf0 := blk_free S_2.out 0
  have rf1 := blk_free R_2.out 1
  have sf1 := blk_free S_2.out 1
  have rf2 := blk_free R_2.out 2
  have sf2 := blk_free S_2.out 2
  have rf3 := blk_free R_2.out 3
  have sf3 := blk_free S_2.out 3
  have rf4 := blk_free R_2.out 4
  have sf4 := blk_free S_2.out 4
  have rf5 := blk_free R_2.out 5
  have sf5 := blk_free S_2.out 5
  have rf6 := blk_free R_2.out 6
  have sf6 := blk_free S_2.out 6
  have rf7 := blk_free R_2.out 7
  have sf7 := blk_free S_2.out 7

  have NE : w.heap.size + 1 ≠ w.heap.size := by omega
  have NE2 := NE.symm
  go_wp2_with fail
  clear rf0 sf0 rf1 sf1 rf2 sf2 rf3 sf3 rf4 sf4 rf5 sf5 rf6 sf6 rf7 sf7
  have ys : (((V2.setCell ⟨w.heap.size, 4, none⟩ (.int .i64 r)).setCell ⟨w.heap.size, 2, none⟩ (.bool true)).setCell ⟨w.heap.size, 5, none⟩ (.int .i64 (N))).heap.size = V2.heap.size := by simp
  have yb : Below (((V2.setCell ⟨w.heap.size, 4, none⟩ (.int .i64 r)).setCell ⟨w.heap.size, 2, none⟩ (.bool true)).setCell ⟨w.heap.size, 5, none⟩ (.int .i64 (N))).heap.size (((V2.setCell ⟨w.heap.size, 4, none⟩ (.int .i64 r)).setCell ⟨w.heap.size, 2, none⟩ (.bool true)).setCell ⟨w.heap.size, 5, none⟩ (.int .i64 (N))) (((V2.setCell ⟨w.heap.size, 4, none⟩ (.int .i64 r)).setCell ⟨w.heap.size, 2, none⟩ (.bool true)).setCell ⟨w.heap.size, 5, none⟩ (.int .i64 (N))) := (Below.refl (((V2.setCell ⟨w.heap.size, 4, none⟩ (.int .i64 r)).setCell ⟨w.heap.size, 2, none⟩ (.bool true)).setCell ⟨w.heap.size, 5, none⟩ (.int .i64 (N))).heap.size (((V2.setCell ⟨w.heap.size, 4, none⟩ (.int .i64 r)).setCell ⟨w.heap.size, 2, none⟩ (.bool true)).setCell ⟨w.heap.size, 5, none⟩ (.int .i64 (N))))
  clear Sc0_2 Sc1_2 Sc2_2 Sc3_2 Sc4_2 Sc5_2 Sc6_2 Sc7_2 Rc0_2 Rc1_2 Rc2_2 Rc3_2 Rc4_2 Rc5_2 Rc6_2 Rc7_2
  have S_3 : Hid ((((V2.setCell ⟨w.heap.size, 4, none⟩ (.int .i64 r)).setCell ⟨w.heap.size, 2, none⟩ (.bool true)).setCell ⟨w.heap.size, 5, none⟩ (.int .i64 (N))).heap[w.heap.size]? = some (.cells #[.int .i64 s.p, .bool s.hl, .bool true, .int .i64 s.la, .int .i64 r, .int .i64 (N), .int .i64 s.ba, .int .i64 s.ro] 24 (0, 0))) := Lib.hid ((yb.block _ (by rw [ys]; exact Sz_2)).trans (blk_set (blk_set (blk_set S_2.out 4 (.int .i64 r)) 2 (.bool true)) 5 (.int .i64 (N))))
  have R_3 : Hid ((((V2.setCell ⟨w.heap.size, 4, none⟩ (.int .i64 r)).setCell ⟨w.heap.size, 2, none⟩ (.bool true)).setCell ⟨w.heap.size, 5, none⟩ (.int .i64 (N))).heap[w.heap.size + 1]? = some (.cells #[.int .i64 0, .bool false, .bool false, .int .i64 0, .int .i64 0, .int .i64 0, .int .i64 0, .int .i64 0] 24 (0, 0))) := Lib.hid ((yb.block _ (by rw [ys]; exact Rz_2)).trans (blk_other (i := 5) (blk_other (i := 2) (blk_other (i := 4) R_2.out (by first | assumption | omega) (.int .i64 r)) (by first | assumption | omega) (.bool true)) (by first | assumption | omega) (.int .i64 (N))))
  have q_3 : Below w.heap.size w (((V2.setCell ⟨w.heap.size, 4, none⟩ (.int .i64 r)).setCell ⟨w.heap.size, 2, none⟩ (.bool true)).setCell ⟨w.heap.size, 5, none⟩ (.int .i64 (N))) := below_after (((q_2.setCell (p := ⟨w.heap.size, 4, none⟩) (by first | assumption | (dsimp only; omega)) (.int .i64 r)).setCell (p := ⟨w.heap.size, 2, none⟩) (by first | assumption | (dsimp only; omega)) (.bool true)).setCell (p := ⟨w.heap.size, 5, none⟩) (by first | assumption | (dsimp only; omega)) (.int .i64 (N))) yb
  clear yb ys q_2 S_2 Sz_2 R_2 Rz_2
  generalize (((V2.setCell ⟨w.heap.size, 4, none⟩ (.int .i64 r)).setCell ⟨w.heap.size, 2, none⟩ (.bool true)).setCell ⟨w.heap.size, 5, none⟩ (.int .i64 (N))) = X1 at q_3 S_3 R_3 ⊢
  have Sz_3 := blk_lt S_3.out
  have Sc0_3 := blk_cell S_3.out 0
  have Sc1_3 := blk_cell S_3.out 1
  have Sc2_3 := blk_cell S_3.out 2
  have Sc3_3 := blk_cell S_3.out 3
  have Sc4_3 := blk_cell S_3.out 4
  have Sc5_3 := blk_cell S_3.out 5
  have Sc6_3 := blk_cell S_3.out 6
  have Sc7_3 := blk_cell S_3.out 7
  have fS0 := blk_free S_3.out 0
  have fS1 := blk_free S_3.out 1
  have fS2 := blk_free S_3.out 2
  have fS3 := blk_free S_3.out 3
  have fS4 := blk_free S_3.out 4
  have fS5 := blk_free S_3.out 5
  have fS6 := blk_free S_3.out 6
  have fS7 := blk_free S_3.out 7
  have Rz_3 := blk_lt R_3.out
  have Rc0_3 := blk_cell R_3.out 0
  have Rc1_3 := blk_cell R_3.out 1
  have Rc2_3 := blk_cell R_3.out 2
  have Rc3_3 := blk_cell R_3.out 3
  have Rc4_3 := blk_cell R_3.out 4
  have Rc5_3 := blk_cell R_3.out 5
  have Rc6_3 := blk_cell R_3.out 6
  have Rc7_3 := blk_cell R_3.out 7
  have fR0 := blk_free R_3.out 0
  have fR1 := blk_free R_3.out 1
  have fR2 := blk_free R_3.out 2
  have fR3 := blk_free R_3.out 3
  have fR4 := blk_free R_3.out 4
  have fR5 := blk_free R_3.out 5
  have fR6 := blk_free R_3.out 6
  have fR7 := blk_free R_3.out 7
  refine (judge_any ⟨s.p, s.hl, true, s.la, r, N, s.ba, s.ro⟩ u HU.out w.heap.size _ HT.out S_3.out).mono ?_
  rintro e Y ⟨rfl, kS, hG⟩
  have kR := (hG.block (w.heap.size + 1) Rz_3 (by simp)).trans R_3.out
  have QY := Lib.hid (q_3.grown hG q_3.size (fun j e => by cases e; exact Nat.le_refl _))
  have zY := blk_lt kR
  clear Sc0_3 Rc0_3 fS0 fR0 Sc1_3 Rc1_3 fS1 fR1 Sc2_3 Rc2_3 fS2 fR2 Sc3_3 Rc3_3 fS3 fR3 Sc4_3 Rc4_3 fS4 fR4 Sc5_3 Rc5_3 fS5 fR5 Sc6_3 Rc6_3 fS6 fR6 Sc7_3 Rc7_3 fS7 fR7
  have sc0 := blk_cell kS 0
  have rc0 := blk_cell kR 0
  have rf0 := blk_free kR 0
  have sc1 := blk_cell kS 1
  have rc1 := blk_cell kR 1
  have rf1 := blk_free kR 1
  have sc2 := blk_cell kS 2
  have rc2 := blk_cell kR 2
  have rf2 := blk_free kR 2
  have sc3 := blk_cell kS 3
  have rc3 := blk_cell kR 3
  have rf3 := blk_free kR 3
  have sc4 := blk_cell kS 4
  have rc4 := blk_cell kR 4
  have rf4 := blk_free kR 4
  have sc5 := blk_cell kS 5
  have rc5 := blk_cell kR 5
  have rf5 := blk_free kR 5
  have sc6 := blk_cell kS 6
  have rc6 := blk_cell kR 6
  have rf6 := blk_free kR 6
  have sc7 := blk_cell kS 7
  have rc7 := blk_cell kR 7
  have rf7 := blk_free kR 7
  clear kS kR hG S_3 R_3
  go_wp2
  refine bodyPost_ret (v := .tuple #[.agg #[.int .i64 u.p, .bool u.hl, .bool u.hn, .int .i64 u.la, .int .i64 u.no, .int .i64 u.sa, .int .i64 u.ba, .int .i64 u.ro], .int .i64 0]) (by simp [results, Try.results9, go_sem, *]) rfl ⟨rfl, ?_⟩
  (repeat' (first | (with_reducible exact QY.out) | (with_reducible exact Below.refl _ _) | (with_reducible refine Below.alloc ?_ ?_ _) | (with_reducible refine Below.setCell ?_ ?_ _) | (with_reducible refine Below.drew ?_) | (with_reducible refine below_drewN ?_ _) | omega | (dsimp only; omega) | (simp; done) | (simp; omega)))

set_option maxHeartbeats 2000000 in
theorem sample_b0 (s : HS) (r N : Int) (w : World) (hV : HV s) (hR : NV r) (hN : min (s.sa + 1) 1073741824 = N) (h8 : N < 8) (hk : s.hn = true) (hk2 : r < s.no) :
    Calls Try.prog 9 #[.agg #[.int .i64 s.p, .bool s.hl, .bool s.hn, .int .i64 s.la, .int .i64 s.no, .int .i64 s.sa, .int .i64 s.ba, .int .i64 s.ro], .int .i64 r] w fun e w' => e = .returned (.tuple #[.agg #[.int .i64 s.p, .bool s.hl, .bool (true), .int .i64 s.la, .int .i64 (r), .int .i64 (N), .int .i64 s.ba, .int .i64 s.ro], .int .i64 0]) ∧ Below w.heap.size w w' := by
  have HV' := Lib.hid hV
  obtain ⟨⟨p0, p1⟩, ⟨a0, a1⟩, ⟨b0, b1⟩, ⟨c0, c1⟩, ⟨d0, d1⟩, e0, e1⟩ := hV
  have N0 : 0 ≤ N ∧ N ≤ 1073741824 := by omega
  have HR := Lib.hid hR
  obtain ⟨r0, r1⟩ := hR
  have q_0 := Below.refl w.heap.size w
  have H_hN := Lib.hid hN
  clear hN
  have H_hk := Lib.hid hk
  clear hk
  go_enter Try.func9, Try.ntmps9
  go_wp2_with fail
  have b : Below w.heap.size w ((w.alloc (.cells #[.int .i64 s.p, .bool s.hl, .bool s.hn, .int .i64 s.la, .int .i64 s.no, .int .i64 s.sa, .int .i64 s.ba, .int .i64 s.ro] 24)).alloc (.cells #[.int .i64 0, .bool false, .bool false, .int .i64 0, .int .i64 0, .int .i64 0, .int .i64 0, .int .i64 0] 24)) := (((Below.refl _ w).alloc (Nat.le_refl _) (.cells #[.int .i64 s.p, .bool s.hl, .bool s.hn, .int .i64 s.la, .int .i64 s.no, .int .i64 s.sa, .int .i64 s.ba, .int .i64 s.ro] 24)).alloc (by simp only [World.size_alloc]; omega) (.cells #[.int .i64 0, .bool false, .bool false, .int .i64 0, .int .i64 0, .int .i64 0, .int .i64 0, .int .i64 0] 24))
  have nb0 := blk_new w (.cells #[.int .i64 s.p, .bool s.hl, .bool s.hn, .int .i64 s.la, .int .i64 s.no, .int .i64 s.sa, .int .i64 s.ba, .int .i64 s.ro] 24)
  have nb0 := (Below.heap_alloc (w.alloc (.cells #[.int .i64 s.p, .bool s.hl, .bool s.hn, .int .i64 s.la, .int .i64 s.no, .int .i64 s.sa, .int .i64 s.ba, .int .i64 s.ro] 24)) (.cells #[.int .i64 0, .bool false, .bool false, .int .i64 0, .int .i64 0, .int .i64 0, .int .i64 0, .int .i64 0] 24) (w.heap.size) (by simp only [World.size_alloc]; omega)).trans nb0
  have nz0 : w.heap.size < ((w.alloc (.cells #[.int .i64 s.p, .bool s.hl, .bool s.hn, .int .i64 s.la, .int .i64 s.no, .int .i64 s.sa, .int .i64 s.ba, .int .i64 s.ro] 24)).alloc (.cells #[.int .i64 0, .bool false, .bool false, .int .i64 0, .int .i64 0, .int .i64 0, .int .i64 0, .int .i64 0] 24)).heap.size := by simp only [World.size_alloc]; omega
  have nb1 := blk_new (w.alloc (.cells #[.int .i64 s.p, .bool s.hl, .bool s.hn, .int .i64 s.la, .int .i64 s.no, .int .i64 s.sa, .int .i64 s.ba, .int .i64 s.ro] 24)) (.cells #[.int .i64 0, .bool false, .bool false, .int .i64 0, .int .i64 0, .int .i64 0, .int .i64 0, .int .i64 0] 24)
  simp only [World.size_alloc] at nb1
  have nz1 : w.heap.size + 1 < ((w.alloc (.cells #[.int .i64 s.p, .bool s.hl, .bool s.hn, .int .i64 s.la, .int .i64 s.no, .int .i64 s.sa, .int .i64 s.ba, .int .i64 s.ro] 24)).alloc (.cells #[.int .i64 0, .bool false, .bool false, .int .i64 0, .int .i64 0, .int .i64 0, .int .i64 0, .int .i64 0] 24)).heap.size := by simp only [World.size_alloc]; omega
  have q_1 := q_0.trans (b.mono q_0.size)
  clear q_0
  clear b
  have S_1 := Lib.hid nb0
  have Sz_1 := nz0
  clear nb0 nz0
  have Sc0_1 := blk_cell S_1.out 0
  have Sc1_1 := blk_cell S_1.out 1
  have Sc2_1 := blk_cell S_1.out 2
  have Sc3_1 := blk_cell S_1.out 3
  have Sc4_1 := blk_cell S_1.out 4
  have Sc5_1 := blk_cell S_1.out 5
  have Sc6_1 := blk_cell S_1.out 6
  have Sc7_1 := blk_cell S_1.out 7
  have R_1 := Lib.hid nb1
  have Rz_1 := nz1
  clear nb1 nz1
  have Rc0_1 := blk_cell R_1.out 0
  have Rc1_1 := blk_cell R_1.out 1
  have Rc2_1 := blk_cell R_1.out 2
  have Rc3_1 := blk_cell R_1.out 3
  have Rc4_1 := blk_cell R_1.out 4
  have Rc5_1 := blk_cell R_1.out 5
  have Rc6_1 := blk_cell R_1.out 6
  have Rc7_1 := blk_cell R_1.out 7
  generalize ((w.alloc (.cells #[.int .i64 s.p, .bool s.hl, .bool s.hn, .int .i64 s.la, .int .i64 s.no, .int .i64 s.sa, .int .i64 s.ba, .int .i64 s.ro] 24)).alloc (.cells #[.int .i64 0, .bool false, .bool false, .int .i64 0, .int .i64 0, .int .i64 0, .int .i64 0, .int .i64 0] 24)) = V1 at q_1 S_1 Sz_1 Sc0_1 Sc1_1 Sc2_1 Sc3_1 Sc4_1 Sc5_1 Sc6_1 Sc7_1 R_1 Rz_1 Rc0_1 Rc1_1 Rc2_1 Rc3_1 Rc4_1 Rc5_1 Rc6_1 Rc7_1 ⊢
  refine (check_yes s _ HV'.out).mono ?_
  rintro e V2 ⟨rfl, b⟩
  have S_2 := Lib.hid ((b.block _ Sz_1).trans S_1.out)
  have Sz_2 := Nat.lt_of_lt_of_le Sz_1 b.size
  have Sc0_2 := blk_cell S_2.out 0
  have Sc1_2 := blk_cell S_2.out 1
  have Sc2_2 := blk_cell S_2.out 2
  have Sc3_2 := blk_cell S_2.out 3
  have Sc4_2 := blk_cell S_2.out 4
  have Sc5_2 := blk_cell S_2.out 5
  have Sc6_2 := blk_cell S_2.out 6
  have Sc7_2 := blk_cell S_2.out 7
  have R_2 := Lib.hid ((b.block _ Rz_1).trans R_1.out)
  have Rz_2 := Nat.lt_of_lt_of_le Rz_1 b.size
  have Rc0_2 := blk_cell R_2.out 0
  have Rc1_2 := blk_cell R_2.out 1
  have Rc2_2 := blk_cell R_2.out 2
  have Rc3_2 := blk_cell R_2.out 3
  have Rc4_2 := blk_cell R_2.out 4
  have Rc5_2 := blk_cell R_2.out 5
  have Rc6_2 := blk_cell R_2.out 6
  have Rc7_2 := blk_cell R_2.out 7
  have q_2 := q_1.trans (b.mono q_1.size)
  clear S_1 Sz_1 Sc0_1 Sc1_1 Sc2_1 Sc3_1 Sc4_1 Sc5_1 Sc6_1 Sc7_1 R_1 Rz_1 Rc0_1 Rc1_1 Rc2_1 Rc3_1 Rc4_1 Rc5_1 Rc6_1 Rc7_1 q_1
  clear b
  have hN := H_hN.out
  have hk := H_hk.out
  go_wp2_with fail
  refine (isn_yes r _ HR.out).mono ?_
  rintro e w' ⟨rfl, rfl⟩
  have rf0 := blk_free R_2.out 0
  have sf0 := blk_free S_2.out 0
  have rf1 := blk_free R_2.out 1
  have sf1 := blk_free S_2.out 1
  have rf2 := blk_free R_2.out 2
  have sf2 := blk_free S_2.out 2
  have rf3 := blk_free R_2.out 3
  have sf3 := blk_free S_2.out 3
  have rf4 := blk_free R_2.out 4
  have sf4 := blk_free S_2.out 4
  have rf5 := blk_free R_2.out 5
  have sf5 := blk_free S_2.out 5
  have rf6 := blk_free R_2.out 6
  have sf6 := blk_free S_2.out 6
  have rf7 := blk_free R_2.out 7
  have sf7 := blk_free S_2.out 7

  have QY := Lib.hid q_2
  clear R_2 S_2
  go_wp2
  refine bodyPost_ret (v := .tuple #[.agg #[.int .i64 s.p, .bool s.hl, .bool (true), .int .i64 s.la, .int .i64 (r), .int .i64 (N), .int .i64 s.ba, .int .i64 s.ro], .int .i64 0]) (by simp [results, Try.results9, go_sem, *]) rfl ⟨rfl, ?_⟩
  (repeat' (first | (with_reducible exact QY.out) | (with_reducible exact Below.refl _ _) | (with_reducible refine Below.alloc ?_ ?_ _) | (with_reducible refine Below.setCell ?_ ?_ _) | (with_reducible refine Below.drew ?_) | (with_reducible refine below_drewN ?_ _) | omega | (dsimp only; omega) | (simp; done) | (simp; omega)))

set_option maxHeartbeats 2000000 in
theorem sample_b1 (s : HS) (r N : Int) (u : HS) (w : World) (hV : HV s) (hR : NV r) (hN : min (s.sa + 1) 1073741824 = N) (h8 : 8 ≤ N) (hk : s.hn = true) (hk2 : r < s.no) (hU : jd ⟨s.p, s.hl, true, s.la, r, N, s.ba, s.ro⟩ = u) :
    Calls Try.prog 9 #[.agg #[.int .i64 s.p, .bool s.hl, .bool s.hn, .int .i64 s.la, .int .i64 s.no, .int .i64 s.sa, .int .i64 s.ba, .int .i64 s.ro], .int .i64 r] w fun e w' => e = .returned (.tuple #[.agg #[.int .i64 u.p, .bool u.hl, .bool u.hn, .int .i64 u.la, .int .i64 u.no, .int .i64 u.sa, .int .i64 u.ba, .int .i64 u.ro], .int .i64 0]) ∧ Below w.heap.size w w' := by
  have HV' := Lib.hid hV
  obtain ⟨⟨p0, p1⟩, ⟨a0, a1⟩, ⟨b0, b1⟩, ⟨c0, c1⟩, ⟨d0, d1⟩, e0, e1⟩ := hV
  have N0 : 0 ≤ N ∧ N ≤ 1073741824 := by omega
  have HR := Lib.hid hR
  obtain ⟨r0, r1⟩ := hR
  have HT : Hid (HV ⟨s.p, s.hl, true, s.la, r, N, s.ba, s.ro⟩) := Lib.hid ⟨⟨p0, p1⟩, ⟨a0, a1⟩, ⟨by dsimp only; omega, by dsimp only; omega⟩, ⟨c0, c1⟩, ⟨by dsimp only; omega, by dsimp only; omega⟩, e0, e1⟩
  have HU := Lib.hid hU
  clear hU
  have q_0 := Below.refl w.heap.size w
  have H_hN := Lib.hid hN
  clear hN
  have H_hk := Lib.hid hk
  clear hk
  go_enter Try.func9, Try.ntmps9
  go_wp2_with fail
  have b : Below w.heap.size w ((w.alloc (.cells #[.int .i64 s.p, .bool s.hl, .bool s.hn, .int .i64 s.la, .int .i64 s.no, .int .i64 s.sa, .int .i64 s.ba, .int .i64 s.ro] 24)).alloc (.cells #[.int .i64 0, .bool false, .bool false, .int .i64 0, .int .i64 0, .int .i64 0, .int .i64 0, .int .i64 0] 24)) := (((Below.refl _ w).alloc (Nat.le_refl _) (.cells #[.int .i64 s.p, .bool s.hl, .bool s.hn, .int .i64 s.la, .int .i64 s.no, .int .i64 s.sa, .int .i64 s.ba, .int .i64 s.ro] 24)).alloc (by simp only [World.size_alloc]; omega) (.cells #[.int .i64 0, .bool false, .bool false, .int .i64 0, .int .i64 0, .int .i64 0, .int .i64 0, .int .i64 0] 24))
  have nb0 := blk_new w (.cells #[.int .i64 s.p, .bool s.hl, .bool s.hn, .int .i64 s.la, .int .i64 s.no, .int .i64 s.sa, .int .i64 s.ba, .int .i64 s.ro] 24)
  have nb0 := (Below.heap_alloc (w.alloc (.cells #[.int .i64 s.p, .bool s.hl, .bool s.hn, .int .i64 s.la, .int .i64 s.no, .int .i64 s.sa, .int .i64 s.ba, .int .i64 s.ro] 24)) (.cells #[.int .i64 0, .bool false, .bool false, .int .i64 0, .int .i64 0, .int .i64 0, .int .i64 0, .int .i64 0] 24) (w.heap.size) (by simp only [World.size_alloc]; omega)).trans nb0
  have nz0 : w.heap.size < ((w.alloc (.cells #[.int .i64 s.p, .bool s.hl, .bool s.hn, .int .i64 s.la, .int .i64 s.no, .int .i64 s.sa, .int .i64 s.ba, .int .i64 s.ro] 24)).alloc (.cells #[.int .i64 0, .bool false, .bool false, .int .i64 0, .int .i64 0, .int .i64 0, .int .i64 0, .int .i64 0] 24)).heap.size := by simp only [World.size_alloc]; omega
  have nb1 := blk_new (w.alloc (.cells #[.int .i64 s.p, .bool s.hl, .bool s.hn, .int .i64 s.la, .int .i64 s.no, .int .i64 s.sa, .int .i64 s.ba, .int .i64 s.ro] 24)) (.cells #[.int .i64 0, .bool false, .bool false, .int .i64 0, .int .i64 0, .int .i64 0, .int .i64 0, .int .i64 0] 24)
  simp only [World.size_alloc] at nb1
  have nz1 : w.heap.size + 1 < ((w.alloc (.cells #[.int .i64 s.p, .bool s.hl, .bool s.hn, .int .i64 s.la, .int .i64 s.no, .int .i64 s.sa, .int .i64 s.ba, .int .i64 s.ro] 24)).alloc (.cells #[.int .i64 0, .bool false, .bool false, .int .i64 0, .int .i64 0, .int .i64 0, .int .i64 0, .int .i64 0] 24)).heap.size := by simp only [World.size_alloc]; omega
  have q_1 := q_0.trans (b.mono q_0.size)
  clear q_0
  clear b
  have S_1 := Lib.hid nb0
  have Sz_1 := nz0
  clear nb0 nz0
  have Sc0_1 := blk_cell S_1.out 0
  have Sc1_1 := blk_cell S_1.out 1
  have Sc2_1 := blk_cell S_1.out 2
  have Sc3_1 := blk_cell S_1.out 3
  have Sc4_1 := blk_cell S_1.out 4
  have Sc5_1 := blk_cell S_1.out 5
  have Sc6_1 := blk_cell S_1.out 6
  have Sc7_1 := blk_cell S_1.out 7
  have R_1 := Lib.hid nb1
  have Rz_1 := nz1
  clear nb1 nz1
  have Rc0_1 := blk_cell R_1.out 0
  have Rc1_1 := blk_cell R_1.out 1
  have Rc2_1 := blk_cell R_1.out 2
  have Rc3_1 := blk_cell R_1.out 3
  have Rc4_1 := blk_cell R_1.out 4
  have Rc5_1 := blk_cell R_1.out 5
  have Rc6_1 := blk_cell R_1.out 6
  have Rc7_1 := blk_cell R_1.out 7
  generalize ((w.alloc (.cells #[.int .i64 s.p, .bool s.hl, .bool s.hn, .int .i64 s.la, .int .i64 s.no, .int .i64 s.sa, .int .i64 s.ba, .int .i64 s.ro] 24)).alloc (.cells #[.int .i64 0, .bool false, .bool false, .int .i64 0, .int .i64 0, .int .i64 0, .int .i64 0, .int .i64 0] 24)) = V1 at q_1 S_1 Sz_1 Sc0_1 Sc1_1 Sc2_1 Sc3_1 Sc4_1 Sc5_1 Sc6_1 Sc7_1 R_1 Rz_1 Rc0_1 Rc1_1 Rc2_1 Rc3_1 Rc4_1 Rc5_1 Rc6_1 Rc7_1 ⊢
  refine (check_yes s _ HV'.out).mono ?_
  rintro e V2 ⟨rfl, b⟩
  have S_2 := Lib.hid ((b.block _ Sz_1).trans S_1.out)
  have Sz_2 := Nat.lt_of_lt_of_le Sz_1 b.size
  have Sc0_2 := blk_cell S_2.out 0
  have Sc1_2 := blk_cell S_2.out 1
  have Sc2_2 := blk_cell S_2.out 2
  have Sc3_2 := blk_cell S_2.out 3
  have Sc4_2 := blk_cell S_2.out 4
  have Sc5_2 := blk_cell S_2.out 5
  have Sc6_2 := blk_cell S_2.out 6
  have Sc7_2 := blk_cell S_2.out 7
  have R_2 := Lib.hid ((b.block _ Rz_1).trans R_1.out)
  have Rz_2 := Nat.lt_of_lt_of_le Rz_1 b.size
  have Rc0_2 := blk_cell R_2.out 0
  have Rc1_2 := blk_cell R_2.out 1
  have Rc2_2 := blk_cell R_2.out 2
  have Rc3_2 := blk_cell R_2.out 3
  have Rc4_2 := blk_cell R_2.out 4
  have Rc5_2 := blk_cell R_2.out 5
  have Rc6_2 := blk_cell R_2.out 6
  have Rc7_2 := blk_cell R_2.out 7
  have q_2 := q_1.trans (b.mono q_1.size)
  clear S_1 Sz_1 Sc0_1 Sc1_1 Sc2_1 Sc3_1 Sc4_1 Sc5_1 Sc6_1 Sc7_1 R_1 Rz_1 Rc0_1 Rc1_1 Rc2_1 Rc3_1 Rc4_1 Rc5_1 Rc6_1 Rc7_1 q_1
  clear b
  have hN := H_hN.out
  have hk := H_hk.out
  go_wp2_with fail
  refine (isn_yes r _ HR.out).mono ?_
  rintro e w' ⟨rfl, rfl⟩
  have rf0 := blk_free R_2.out 0
  have sf0 := blk_free S_2.out 0
  have rf1 := blk_free R_2.out 1
  have sf1 := blk_free S_2.out 1
  have rf2 := blk_free R_2.out 2
  have sf2 := blk_free S_2.out 2
  have rf3 := blk_free R_2.out 3
  have sf3 := blk_free S_2.out 3
  have rf4 := blk_free R_2.out 4
  have sf4 := blk_free S_2.out 4
  have rf5 := blk_free R_2.out 5
  have sf5 := blk_free S_2.out 5
  have rf6 := blk_free R_2.out 6
  have sf6 := blk_free S_2.out 6
  have rf7 := blk_free R_2.out 7
  have sf7 := blk_free S_2.out 7

  have NE : w.heap.size + 1 ≠ w.heap.size := by omega
  have NE2 := NE.symm
  go_wp2_with fail
  clear rf0 sf0 rf1 sf1 rf2 sf2 rf3 sf3 rf4 sf4 rf5 sf5 rf6 sf6 rf7 sf7
  have ys : (((V2.setCell ⟨w.heap.size, 4, none⟩ (.int .i64 r)).setCell ⟨w.heap.size, 2, none⟩ (.bool true)).setCell ⟨w.heap.size, 5, none⟩ (.int .i64 (N))).heap.size = V2.heap.size := by simp
  have yb : Below (((V2.setCell ⟨w.heap.size, 4, none⟩ (.int .i64 r)).setCell ⟨w.heap.size, 2, none⟩ (.bool true)).setCell ⟨w.heap.size, 5, none⟩ (.int .i64 (N))).heap.size (((V2.setCell ⟨w.heap.size, 4, none⟩ (.int .i64 r)).setCell ⟨w.heap.size, 2, none⟩ (.bool true)).setCell ⟨w.heap.size, 5, none⟩ (.int .i64 (N))) (((V2.setCell ⟨w.heap.size, 4, none⟩ (.int .i64 r)).setCell ⟨w.heap.size, 2, none⟩ (.bool true)).setCell ⟨w.heap.size, 5, none⟩ (.int .i64 (N))) := (Below.refl (((V2.setCell ⟨w.heap.size, 4, none⟩ (.int .i64 r)).setCell ⟨w.heap.size, 2, none⟩ (.bool true)).setCell ⟨w.heap.size, 5, none⟩ (.int .i64 (N))).heap.size (((V2.setCell ⟨w.heap.size, 4, none⟩ (.int .i64 r)).setCell ⟨w.heap.size, 2, none⟩ (.bool true)).setCell ⟨w.heap.size, 5, none⟩ (.int .i64 (N))))
  clear Sc0_2 Sc1_2 Sc2_2 Sc3_2 Sc4_2 Sc5_2 Sc6_2 Sc7_2 Rc0_2 Rc1_2 Rc2_2 Rc3_2 Rc4_2 Rc5_2 Rc6_2 Rc7_2
  have S_3 : Hid ((((V2.setCell ⟨w.heap.size, 4, none⟩ (.int .i64 r)).setCell ⟨w.heap.size, 2, none⟩ (.bool true)).setCell ⟨w.heap.size, 5, none⟩ (.int .i64 (N))).heap[w.heap.size]? = some (.cells #[.int .i64 s.p, .bool s.hl, .bool true, .int .i64 s.la, .int .i64 r, .int .i64 (N), .int .i64 s.ba, .int .i64 s.ro] 24 (0, 0))) := Lib.hid ((yb.block _ (by rw [ys]; exact Sz_2)).trans (blk_set (blk_set (blk_set S_2.out 4 (.int .i64 r)) 2 (.bool true)) 5 (.int .i64 (N))))
  have R_3 : Hid ((((V2.setCell ⟨w.heap.size, 4, none⟩ (.int .i64 r)).setCell ⟨w.heap.size, 2, none⟩ (.bool true)).setCell ⟨w.heap.size, 5, none⟩ (.int .i64 (N))).heap[w.heap.size + 1]? = some (.cells #[.int .i64 0, .bool false, .bool false, .int .i64 0, .int .i64 0, .int .i64 0, .int .i64 0, .int .i64 0] 24 (0, 0))) := Lib.hid ((yb.block _ (by rw [ys]; exact Rz_2)).trans (blk_other (i := 5) (blk_other (i := 2) (blk_other (i := 4) R_2.out (by first | assumption | omega) (.int .i64 r)) (by first | assumption | omega) (.bool true)) (by first | assumption | omega) (.int .i64 (N))))
  have q_3 : Below w.heap.size w (((V2.setCell ⟨w.heap.size, 4, none⟩ (.int .i64 r)).setCell ⟨w.heap.size, 2, none⟩ (.bool true)).setCell ⟨w.heap.size, 5, none⟩ (.int .i64 (N))) := below_after (((q_2.setCell (p := ⟨w.heap.size, 4, none⟩) (by first | assumption | (dsimp only; omega)) (.int .i64 r)).setCell (p := ⟨w.heap.size, 2, none⟩) (by first | assumption | (dsimp only; omega)) (.bool true)).setCell (p := ⟨w.heap.size, 5, none⟩) (by first | assumption | (dsimp only; omega)) (.int .i64 (N))) yb
  clear yb ys q_2 S_2 Sz_2 R_2 Rz_2
  generalize (((V2.setCell ⟨w.heap.size, 4, none⟩ (.int .i64 r)).setCell ⟨w.heap.size, 2, none⟩ (.bool true)).setCell ⟨w.heap.size, 5, none⟩ (.int .i64 (N))) = X1 at q_3 S_3 R_3 ⊢
  have Sz_3 := blk_lt S_3.out
  have Sc0_3 := blk_cell S_3.out 0
  have Sc1_3 := blk_cell S_3.out 1
  have Sc2_3 := blk_cell S_3.out 2
  have Sc3_3 := blk_cell S_3.out 3
  have Sc4_3 := blk_cell S_3.out 4
  have Sc5_3 := blk_cell S_3.out 5
  have Sc6_3 := blk_cell S_3.out 6
  have Sc7_3 := blk_cell S_3.out 7
  have fS0 := blk_free S_3.out 0
  have fS1 := blk_free S_3.out 1
  have fS2 := blk_free S_3.out 2
  have fS3 := blk_free S_3.out 3
  have fS4 := blk_free S_3.out 4
  have fS5 := blk_free S_3.out 5
  have fS6 := blk_free S_3.out 6
  have fS7 := blk_free S_3.out 7
  have Rz_3 := blk_lt R_3.out
  have Rc0_3 := blk_cell R_3.out 0
  have Rc1_3 := blk_cell R_3.out 1
  have Rc2_3 := blk_cell R_3.out 2
  have Rc3_3 := blk_cell R_3.out 3
  have Rc4_3 := blk_cell R_3.out 4
  have Rc5_3 := blk_cell R_3.out 5
  have Rc6_3 := blk_cell R_3.out 6
  have Rc7_3 := blk_cell R_3.out 7
  have fR0 := blk_free R_3.out 0
  have fR1 := blk_free R_3.out 1
  have fR2 := blk_free R_3.out 2
  have fR3 := blk_free R_3.out 3
  have fR4 := blk_free R_3.out 4
  have fR5 := blk_free R_3.out 5
  have fR6 := blk_free R_3.out 6
  have fR7 := blk_free R_3.out 7
  refine (judge_any ⟨s.p, s.hl, true, s.la, r, N, s.ba, s.ro⟩ u HU.out w.heap.size _ HT.out S_3.out).mono ?_
  rintro e Y ⟨rfl, kS, hG⟩
  have kR := (hG.block (w.heap.size + 1) Rz_3 (by simp)).trans R_3.out
  have QY := Lib.hid (q_3.grown hG q_3.size (fun j e => by cases e; exact Nat.le_refl _))
  have zY := blk_lt kR
  clear Sc0_3 Rc0_3 fS0 fR0 Sc1_3 Rc1_3 fS1 fR1 Sc2_3 Rc2_3 fS2 fR2 Sc3_3 Rc3_3 fS3 fR3 Sc4_3 Rc4_3 fS4 fR4 Sc5_3 Rc5_3 fS5 fR5 Sc6_3 Rc6_3 fS6 fR6 Sc7_3 Rc7_3 fS7 fR7
  have sc0 := blk_cell kS 0
  have rc0 := blk_cell kR 0
  have rf0 := blk_free kR 0
  have sc1 := blk_cell kS 1
  have rc1 := blk_cell kR 1
  have rf1 := blk_free kR 1
  have sc2 := blk_cell kS 2
  have rc2 := blk_cell kR 2
  have rf2 := blk_free kR 2
  have sc3 := blk_cell kS 3
  have rc3 := blk_cell kR 3
  have rf3 := blk_free kR 3
  have sc4 := blk_cell kS 4
  have rc4 := blk_cell kR 4
  have rf4 := blk_free kR 4
  have sc5 := blk_cell kS 5
  have rc5 := blk_cell kR 5
  have rf5 := blk_free kR 5
  have sc6 := blk_cell kS 6
  have rc6 := blk_cell kR 6
  have rf6 := blk_free kR 6
  have sc7 := blk_cell kS 7
  have rc7 := blk_cell kR 7
  have rf7 := blk_free kR 7
  clear kS kR hG S_3 R_3
  go_wp2
  refine bodyPost_ret (v := .tuple #[.agg #[.int .i64 u.p, .bool u.hl, .bool u.hn, .int .i64 u.la, .int .i64 u.no, .int .i64 u.sa, .int .i64 u.ba, .int .i64 u.ro], .int .i64 0]) (by simp [results, Try.results9, go_sem, *]) rfl ⟨rfl, ?_⟩
  (repeat' (first | (with_reducible exact QY.out) | (with_reducible exact Below.refl _ _) | (with_reducible refine Below.alloc ?_ ?_ _) | (with_reducible refine Below.setCell ?_ ?_ _) | (with_reducible refine Below.drew ?_) | (with_reducible refine below_drewN ?_ _) | omega | (dsimp only; omega) | (simp; done) | (simp; omega)))

set_option maxHeartbeats 2000000 in
theorem sample_c0 (s : HS) (r N : Int) (w : World) (hV : HV s) (hR : NV r) (hN : min (s.sa + 1) 1073741824 = N) (h8 : N < 8) (hk : s.hn = true) (hk2 : s.no ≤ r) :
    Calls Try.prog 9 #[.agg #[.int .i64 s.p, .bool s.hl, .bool s.hn, .int .i64 s.la, .int .i64 s.no, .int .i64 s.sa, .int .i64 s.ba, .int .i64 s.ro], .int .i64 r] w fun e w' => e = .returned (.tuple #[.agg #[.int .i64 s.p, .bool s.hl, .bool (true), .int .i64 s.la, .int .i64 (s.no), .int .i64 (N), .int .i64 s.ba, .int .i64 s.ro], .int .i64 0]) ∧ Below w.heap.size w w' := by
  have HV' := Lib.hid hV
  obtain ⟨⟨p0, p1⟩, ⟨a0, a1⟩, ⟨b0, b1⟩, ⟨c0, c1⟩, ⟨d0, d1⟩, e0, e1⟩ := hV
  have N0 : 0 ≤ N ∧ N ≤ 1073741824 := by omega
  have HR := Lib.hid hR
  obtain ⟨r0, r1⟩ := hR
  have q_0 := Below.refl w.heap.size w
  have H_hN := Lib.hid hN
  clear hN
  have H_hk := Lib.hid hk
  clear hk
  go_enter Try.func9, Try.ntmps9
  go_wp2_with fail
  have b : Below w.heap.size w ((w.alloc (.cells #[.int .i64 s.p, .bool s.hl, .bool s.hn, .int .i64 s.la, .int .i64 s.no, .int .i64 s.sa, .int .i64 s.ba, .int .i64 s.ro] 24)).alloc (.cells #[.int .i64 0, .bool false, .bool false, .int .i64 0, .int .i64 0, .int .i64 0, .int .i64 0, .int .i64 0] 24)) := (((Below.refl _ w).alloc (Nat.le_refl _) (.cells #[.int .i64 s.p, .bool s.hl, .bool s.hn, .int .i64 s.la, .int .i64 s.no, .int .i64 s.sa, .int .i64 s.ba, .int .i64 s.ro] 24)).alloc (by simp only [World.size_alloc]; omega) (.cells #[.int .i64 0, .bool false, .bool false, .int .i64 0, .int .i64 0, .int .i64 0, .int .i64 0, .int .i64 0] 24))
  have nb0 := blk_new w (.cells #[.int .i64 s.p, .bool s.hl, .bool s.hn, .int .i64 s.la, .int .i64 s.no, .int .i64 s.sa, .int .i64 s.ba, .int .i64 s.ro] 24)
  have nb0 := (Below.heap_alloc (w.alloc (.cells #[.int .i64 s.p, .bool s.hl, .bool s.hn, .int .i64 s.la, .int .i64 s.no, .int .i64 s.sa, .int .i64 s.ba, .int .i64 s.ro] 24)) (.cells #[.int .i64 0, .bool false, .bool false, .int .i64 0, .int .i64 0, .int .i64 0, .int .i64 0, .int .i64 0] 24) (w.heap.size) (by simp only [World.size_alloc]; omega)).trans nb0
  have nz0 : w.heap.size < ((w.alloc (.cells #[.int .i64 s.p, .bool s.hl, .bool s.hn, .int .i64 s.la, .int .i64 s.no, .int .i64 s.sa, .int .i64 s.ba, .int .i64 s.ro] 24)).alloc (.cells #[.int .i64 0, .bool false, .bool false, .int .i64 0, .int .i64 0, .int .i64 0, .int .i64 0, .int .i64 0] 24)).heap.size := by simp only [World.size_alloc]; omega
  have nb1 := blk_new (w.alloc (.cells #[.int .i64 s.p, .bool s.hl, .bool s.hn, .int .i64 s.la, .int .i64 s.no, .int .i64 s.sa, .int .i64 s.ba, .int .i64 s.ro] 24)) (.cells #[.int .i64 0, .bool false, .bool false, .int .i64 0, .int .i64 0, .int .i64 0, .int .i64 0, .int .i64 0] 24)
  simp only [World.size_alloc] at nb1
  have nz1 : w.heap.size + 1 < ((w.alloc (.cells #[.int .i64 s.p, .bool s.hl, .bool s.hn, .int .i64 s.la, .int .i64 s.no, .int .i64 s.sa, .int .i64 s.ba, .int .i64 s.ro] 24)).alloc (.cells #[.int .i64 0, .bool false, .bool false, .int .i64 0, .int .i64 0, .int .i64 0, .int .i64 0, .int .i64 0] 24)).heap.size := by simp only [World.size_alloc]; omega
  have q_1 := q_0.trans (b.mono q_0.size)
  clear q_0
  clear b
  have S_1 := Lib.hid nb0
  have Sz_1 := nz0
  clear nb0 nz0
  have Sc0_1 := blk_cell S_1.out 0
  have Sc1_1 := blk_cell S_1.out 1
  have Sc2_1 := blk_cell S_1.out 2
  have Sc3_1 := blk_cell S_1.out 3
  have Sc4_1 := blk_cell S_1.out 4
  have Sc5_1 := blk_cell S_1.out 5
  have Sc6_1 := blk_cell S_1.out 6
  have Sc7_1 := blk_cell S_1.out 7
  have R_1 := Lib.hid nb1
  have Rz_1 := nz1
  clear nb1 nz1
  have Rc0_1 := blk_cell R_1.out 0
  have Rc1_1 := blk_cell R_1.out 1
  have Rc2_1 := blk_cell R_1.out 2
  have Rc3_1 := blk_cell R_1.out 3
  have Rc4_1 := blk_cell R_1.out 4
  have Rc5_1 := blk_cell R_1.out 5
  have Rc6_1 := blk_cell R_1.out 6
  have Rc7_1 := blk_cell R_1.out 7
  generalize ((w.alloc (.cells #[.int .i64 s.p, .bool s.hl, .bool s.hn, .int .i64 s.la, .int .i64 s.no, .int .i64 s.sa, .int .i64 s.ba, .int .i64 s.ro] 24)).alloc (.cells #[.int .i64 0, .bool false, .bool false, .int .i64 0, .int .i64 0, .int .i64 0, .int .i64 0, .int .i64 0] 24)) = V1 at q_1 S_1 Sz_1 Sc0_1 Sc1_1 Sc2_1 Sc3_1 Sc4_1 Sc5_1 Sc6_1 Sc7_1 R_1 Rz_1 Rc0_1 Rc1_1 Rc2_1 Rc3_1 Rc4_1 Rc5_1 Rc6_1 Rc7_1 ⊢
  refine (check_yes s _ HV'.out).mono ?_
  rintro e V2 ⟨rfl, b⟩
  have S_2 := Lib.hid ((b.block _ Sz_1).trans S_1.out)
  have Sz_2 := Nat.lt_of_lt_of_le Sz_1 b.size
  have Sc0_2 := blk_cell S_2.out 0
  have Sc1_2 := blk_cell S_2.out 1
  have Sc2_2 := blk_cell S_2.out 2
  have Sc3_2 := blk_cell S_2.out 3
  have Sc4_2 := blk_cell S_2.out 4
  have Sc5_2 := blk_cell S_2.out 5
  have Sc6_2 := blk_cell S_2.out 6
  have Sc7_2 := blk_cell S_2.out 7
  have R_2 := Lib.hid ((b.block _ Rz_1).trans R_1.out)
  have Rz_2 := Nat.lt_of_lt_of_le Rz_1 b.size
  have Rc0_2 := blk_cell R_2.out 0
  have Rc1_2 := blk_cell R_2.out 1
  have Rc2_2 := blk_cell R_2.out 2
  have Rc3_2 := blk_cell R_2.out 3
  have Rc4_2 := blk_cell R_2.out 4
  have Rc5_2 := blk_cell R_2.out 5
  have Rc6_2 := blk_cell R_2.out 6
  have Rc7_2 := blk_cell R_2.out 7
  have q_2 := q_1.trans (b.mono q_1.size)
  clear S_1 Sz_1 Sc0_1 Sc1_1 Sc2_1 Sc3_1 Sc4_1 Sc5_1 Sc6_1 Sc7_1 R_1 Rz_1 Rc0_1 Rc1_1 Rc2_1 Rc3_1 Rc4_1 Rc5_1 Rc6_1 Rc7_1 q_1
  clear b
  have hN := H_hN.out
  have hk := H_hk.out
  go_wp2_with fail
  refine (isn_yes r _ HR.out).mono ?_
  rintro e w' ⟨rfl, rfl⟩
  have rf0 := blk_free R_2.out 0
  have sf0 := blk_free S_2.out 0
  have rf1 := blk_free R_2.out 1
  have sf1 := blk_free S_2.out 1
  have rf2 := blk_free R_2.out 2
  have sf2 := blk_free S_2.out 2
  have rf3 := blk_free R_2.out 3
  have sf3 := blk_free S_2.out 3
  have rf4 := blk_free R_2.out 4
  have sf4 := blk_free S_2.out 4
  have rf5 := blk_free R_2.out 5
  have sf5 := blk_free S_2.out 5
  have rf6 := blk_free R_2.out 6
  have sf6 := blk_free S_2.out 6
  have rf7 := blk_free R_2.out 7
  have sf7 := blk_free S_2.out 7

  have QY := Lib.hid q_2
  clear R_2 S_2
  go_wp2
  refine bodyPost_ret (v := .tuple #[.agg #[.int .i64 s.p, .bool s.hl, .bool (true), .int .i64 s.la, .int .i64 (s.no), .int .i64 (N), .int .i64 s.ba, .int .i64 s.ro], .int .i64 0]) (by simp [results, Try.results9, go_sem, *]) rfl ⟨rfl, ?_⟩
  (repeat' (first | (with_reducible exact QY.out) | (with_reducible exact Below.refl _ _) | (with_reducible refine Below.alloc ?_ ?_ _) | (with_reducible refine Below.setCell ?_ ?_ _) | (with_reducible refine Below.drew ?_) | (with_reducible refine below_drewN ?_ _) | omega | (dsimp only; omega) | (simp; done) | (simp; omega)))

set_option maxHeartbeats 2000000 in
theorem sample_c1 (s : HS) (r N : Int) (u : HS) (w : World) (hV : HV s) (hR : NV r) (hN : min (s.sa + 1) 1073741824 = N) (h8 : 8 ≤ N) (hk : s.hn = true) (hk2 : s.no ≤ r) (hU : jd ⟨s.p, s.hl, true, s.la, s.no, N, s.ba, s.ro⟩ = u) :
    Calls Try.prog 9 #[.agg #[.int .i64 s.p, .bool s.hl, .bool s.hn, .int .i64 s.la, .int .i64 s.no, .int .i64 s.sa, .int .i64 s.ba, .int .i64 s.ro], .int .i64 r] w fun e w' => e = .returned (.tuple #[.agg #[.int .i64 u.p, .bool u.hl, .bool u.hn, .int .i64 u.la, .int .i64 u.no, .int .i64 u.sa, .int .i64 u.ba, .int .i64 u.ro], .int .i64 0]) ∧ Below w.heap.size w w' := by
  have HV' := Lib.hid hV
  obtain ⟨⟨p0, p1⟩, ⟨a0, a1⟩, ⟨b0, b1⟩, ⟨c0, c1⟩, ⟨d0, d1⟩, e0, e1⟩ := hV
  have N0 : 0 ≤ N ∧ N ≤ 1073741824 := by omega
  have HR := Lib.hid hR
  obtain ⟨r0, r1⟩ := hR
  have HT : Hid (HV ⟨s.p, s.hl, true, s.la, s.no, N, s.ba, s.ro⟩) := Lib.hid ⟨⟨p0, p1⟩, ⟨a0, a1⟩, ⟨by dsimp only; omega, by dsimp only; omega⟩, ⟨c0, c1⟩, ⟨by dsimp only; omega, by dsimp only; omega⟩, e0, e1⟩
  have HU := Lib.hid hU
  clear hU
  have q_0 := Below.refl w.heap.size w
  have H_hN := Lib.hid hN
  clear hN
  have H_hk := Lib.hid hk
  clear hk
  go_enter Try.func9, Try.ntmps9
  go_wp2_with fail
  have b : Below w.heap.size w ((w.alloc (.cells #[.int .i64 s.p, .bool s.hl, .bool s.hn, .int .i64 s.la, .int .i64 s.no, .int .i64 s.sa, .int .i64 s.ba, .int .i64 s.ro] 24)).alloc (.cells #[.int .i64 0, .bool false, .bool false, .int .i64 0, .int .i64 0, .int .i64 0, .int .i64 0, .int .i64 0] 24)) := (((Below.refl _ w).alloc (Nat.le_refl _) (.cells #[.int .i64 s.p, .bool s.hl, .bool s.hn, .int .i64 s.la, .int .i64 s.no, .int .i64 s.sa, .int .i64 s.ba, .int .i64 s.ro] 24)).alloc (by simp only [World.size_alloc]; omega) (.cells #[.int .i64 0, .bool false, .bool false, .int .i64 0, .int .i64 0, .int .i64 0, .int .i64 0, .int .i64 0] 24))
  have nb0 := blk_new w (.cells #[.int .i64 s.p, .bool s.hl, .bool s.hn, .int .i64 s.la, .int .i64 s.no, .int .i64 s.sa, .int .i64 s.ba, .int .i64 s.ro] 24)
  have nb0 := (Below.heap_alloc (w.alloc (.cells #[.int .i64 s.p, .bool s.hl, .bool s.hn, .int .i64 s.la, .int .i64 s.no, .int .i64 s.sa, .int .i64 s.ba, .int .i64 s.ro] 24)) (.cells #[.int .i64 0, .bool false, .bool false, .int .i64 0, .int .i64 0, .int .i64 0, .int .i64 0, .int .i64 0] 24) (w.heap.size) (by simp only [World.size_alloc]; omega)).trans nb0
  have nz0 : w.heap.size < ((w.alloc (.cells #[.int .i64 s.p, .bool s.hl, .bool s.hn, .int .i64 s.la, .int .i64 s.no, .int .i64 s.sa, .int .i64 s.ba, .int .i64 s.ro] 24)).alloc (.cells #[.int .i64 0, .bool false, .bool false, .int .i64 0, .int .i64 0, .int .i64 0, .int .i64 0, .int .i64 0] 24)).heap.size := by simp only [World.size_alloc]; omega
  have nb1 := blk_new (w.alloc (.cells #[.int .i64 s.p, .bool s.hl, .bool s.hn, .int .i64 s.la, .int .i64 s.no, .int .i64 s.sa, .int .i64 s.ba, .int .i64 s.ro] 24)) (.cells #[.int .i64 0, .bool false, .bool false, .int .i64 0, .int .i64 0, .int .i64 0, .int .i64 0, .int .i64 0] 24)
  simp only [World.size_alloc] at nb1
  have nz1 : w.heap.size + 1 < ((w.alloc (.cells #[.int .i64 s.p, .bool s.hl, .bool s.hn, .int .i64 s.la, .int .i64 s.no, .int .i64 s.sa, .int .i64 s.ba, .int .i64 s.ro] 24)).alloc (.cells #[.int .i64 0, .bool false, .bool false, .int .i64 0, .int .i64 0, .int .i64 0, .int .i64 0, .int .i64 0] 24)).heap.size := by simp only [World.size_alloc]; omega
  have q_1 := q_0.trans (b.mono q_0.size)
  clear q_0
  clear b
  have S_1 := Lib.hid nb0
  have Sz_1 := nz0
  clear nb0 nz0
  have Sc0_1 := blk_cell S_1.out 0
  have Sc1_1 := blk_cell S_1.out 1
  have Sc2_1 := blk_cell S_1.out 2
  have Sc3_1 := blk_cell S_1.out 3
  have Sc4_1 := blk_cell S_1.out 4
  have Sc5_1 := blk_cell S_1.out 5
  have Sc6_1 := blk_cell S_1.out 6
  have Sc7_1 := blk_cell S_1.out 7
  have R_1 := Lib.hid nb1
  have Rz_1 := nz1
  clear nb1 nz1
  have Rc0_1 := blk_cell R_1.out 0
  have Rc1_1 := blk_cell R_1.out 1
  have Rc2_1 := blk_cell R_1.out 2
  have Rc3_1 := blk_cell R_1.out 3
  have Rc4_1 := blk_cell R_1.out 4
  have Rc5_1 := blk_cell R_1.out 5
  have Rc6_1 := blk_cell R_1.out 6
  have Rc7_1 := blk_cell R_1.out 7
  generalize ((w.alloc (.cells #[.int .i64 s.p, .bool s.hl, .bool s.hn, .int .i64 s.la, .int .i64 s.no, .int .i64 s.sa, .int .i64 s.ba, .int .i64 s.ro] 24)).alloc (.cells #[.int .i64 0, .bool false, .bool false, .int .i64 0, .int .i64 0, .int .i64 0, .int .i64 0, .int .i64 0] 24)) = V1 at q_1 S_1 Sz_1 Sc0_1 Sc1_1 Sc2_1 Sc3_1 Sc4_1 Sc5_1 Sc6_1 Sc7_1 R_1 Rz_1 Rc0_1 Rc1_1 Rc2_1 Rc3_1 Rc4_1 Rc5_1 Rc6_1 Rc7_1 ⊢
  refine (check_yes s _ HV'.out).mono ?_
  rintro e V2 ⟨rfl, b⟩
  have S_2 := Lib.hid ((b.block _ Sz_1).trans S_1.out)
  have Sz_2 := Nat.lt_of_lt_of_le Sz_1 b.size
  have Sc0_2 := blk_cell S_2.out 0
  have Sc1_2 := blk_cell S_2.out 1
  have Sc2_2 := blk_cell S_2.out 2
  have Sc3_2 := blk_cell S_2.out 3
  have Sc4_2 := blk_cell S_2.out 4
  have Sc5_2 := blk_cell S_2.out 5
  have Sc6_2 := blk_cell S_2.out 6
  have Sc7_2 := blk_cell S_2.out 7
  have R_2 := Lib.hid ((b.block _ Rz_1).trans R_1.out)
  have Rz_2 := Nat.lt_of_lt_of_le Rz_1 b.size
  have Rc0_2 := blk_cell R_2.out 0
  have Rc1_2 := blk_cell R_2.out 1
  have Rc2_2 := blk_cell R_2.out 2
  have Rc3_2 := blk_cell R_2.out 3
  have Rc4_2 := blk_cell R_2.out 4
  have Rc5_2 := blk_cell R_2.out 5
  have Rc6_2 := blk_cell R_2.out 6
  have Rc7_2 := blk_cell R_2.out 7
  have q_2 := q_1.trans (b.mono q_1.size)
  clear S_1 Sz_1 Sc0_1 Sc1_1 Sc2_1 Sc3_1 Sc4_1 Sc5_1 Sc6_1 Sc7_1 R_1 Rz_1 Rc0_1 Rc1_1 Rc2_1 Rc3_1 Rc4_1 Rc5_1 Rc6_1 Rc7_1 q_1
  clear b
  have hN := H_hN.out
  have hk := H_hk.out
  go_wp2_with fail
  refine (isn_yes r _ HR.out).mono ?_
  rintro e w' ⟨rfl, rfl⟩
  have rf0 := blk_free R_2.out 0
  have sf0 := blk_free S_2.out 0
  have rf1 := blk_free R_2.out 1
  have sf1 := blk_free S_2.out 1
  have rf2 := blk_free R_2.out 2
  have sf2 := blk_free S_2.out 2
  have rf3 := blk_free R_2.out 3
  have sf3 := blk_free S_2.out 3
  have rf4 := blk_free R_2.out 4
  have sf4 := blk_free S_2.out 4
  have rf5 := blk_free R_2.out 5
  have sf5 := blk_free S_2.out 5
  have rf6 := blk_free R_2.out 6
  have sf6 := blk_free S_2.out 6
  have rf7 := blk_free R_2.out 7
  have sf7 := blk_free S_2.out 7

  have NE : w.heap.size + 1 ≠ w.heap.size := by omega
  have NE2 := NE.symm
  go_wp2_with fail
  clear rf0 sf0 rf1 sf1 rf2 sf2 rf3 sf3 rf4 sf4 rf5 sf5 rf6 sf6 rf7 sf7
  have ys : ((V2.setCell ⟨w.heap.size, 2, none⟩ (.bool true)).setCell ⟨w.heap.size, 5, none⟩ (.int .i64 (N))).heap.size = V2.heap.size := by simp
  have yb : Below ((V2.setCell ⟨w.heap.size, 2, none⟩ (.bool true)).setCell ⟨w.heap.size, 5, none⟩ (.int .i64 (N))).heap.size ((V2.setCell ⟨w.heap.size, 2, none⟩ (.bool true)).setCell ⟨w.heap.size, 5, none⟩ (.int .i64 (N))) ((V2.setCell ⟨w.heap.size, 2, none⟩ (.bool true)).setCell ⟨w.heap.size, 5, none⟩ (.int .i64 (N))) := (Below.refl ((V2.setCell ⟨w.heap.size, 2, none⟩ (.bool true)).setCell ⟨w.heap.size, 5, none⟩ (.int .i64 (N))).heap.size ((V2.setCell ⟨w.heap.size, 2, none⟩ (.bool true)).setCell ⟨w.heap.size, 5, none⟩ (.int .i64 (N))))
  clear Sc0_2 Sc1_2 Sc2_2 Sc3_2 Sc4_2 Sc5_2 Sc6_2 Sc7_2 Rc0_2 Rc1_2 Rc2_2 Rc3_2 Rc4_2 Rc5_2 Rc6_2 Rc7_2
  have S_3 : Hid (((V2.setCell ⟨w.heap.size, 2, none⟩ (.bool true)).setCell ⟨w.heap.size, 5, none⟩ (.int .i64 (N))).heap[w.heap.size]? = some (.cells #[.int .i64 s.p, .bool s.hl, .bool true, .int .i64 s.la, .int .i64 s.no, .int .i64 (N), .int .i64 s.ba, .int .i64 s.ro] 24 (0, 0))) := Lib.hid ((yb.block _ (by rw [ys]; exact Sz_2)).trans (blk_set (blk_set S_2.out 2 (.bool true)) 5 (.int .i64 (N))))
  have R_3 : Hid (((V2.setCell ⟨w.heap.size, 2, none⟩ (.bool true)).setCell ⟨w.heap.size, 5, none⟩ (.int .i64 (N))).heap[w.heap.size + 1]? = some (.cells #[.int .i64 0, .bool false, .bool false, .int .i64 0, .int .i64 0, .int .i64 0, .int .i64 0, .int .i64 0] 24 (0, 0))) := Lib.hid ((yb.block _ (by rw [ys]; exact Rz_2)).trans (blk_other (i := 5) (blk_other (i := 2) R_2.out (by first | assumption | omega) (.bool true)) (by first | assumption | omega) (.int .i64 (N))))
  have q_3 : Below w.heap.size w ((V2.setCell ⟨w.heap.size, 2, none⟩ (.bool true)).setCell ⟨w.heap.size, 5, none⟩ (.int .i64 (N))) := below_after ((q_2.setCell (p := ⟨w.heap.size, 2, none⟩) (by first | assumption | (dsimp only; omega)) (.bool true)).setCell (p := ⟨w.heap.size, 5, none⟩) (by first | assumption | (dsimp only; omega)) (.int .i64 (N))) yb
  clear yb ys q_2 S_2 Sz_2 R_2 Rz_2
  generalize ((V2.setCell ⟨w.heap.size, 2, none⟩ (.bool true)).setCell ⟨w.heap.size, 5, none⟩ (.int .i64 (N))) = X1 at q_3 S_3 R_3 ⊢
  have Sz_3 := blk_lt S_3.out
  have Sc0_3 := blk_cell S_3.out 0
  have Sc1_3 := blk_cell S_3.out 1
  have Sc2_3 := blk_cell S_3.out 2
  have Sc3_3 := blk_cell S_3.out 3
  have Sc4_3 := blk_cell S_3.out 4
  have Sc5_3 := blk_cell S_3.out 5
  have Sc6_3 := blk_cell S_3.out 6
  have Sc7_3 := blk_cell S_3.out 7
  have fS0 := blk_free S_3.out 0
  have fS1 := blk_free S_3.out 1
  have fS2 := blk_free S_3.out 2
  have fS3 := blk_free S_3.out 3
  have fS4 := blk_free S_3.out 4
  have fS5 := blk_free S_3.out 5
  have fS6 := blk_free S_3.out 6
  have fS7 := blk_free S_3.out 7
  have Rz_3 := blk_lt R_3.out
  have Rc0_3 := blk_cell R_3.out 0
  have Rc1_3 := blk_cell R_3.out 1
  have Rc2_3 := blk_cell R_3.out 2
  have Rc3_3 := blk_cell R_3.out 3
  have Rc4_3 := blk_cell R_3.out 4
  have Rc5_3 := blk_cell R_3.out 5
  have Rc6_3 := blk_cell R_3.out 6
  have Rc7_3 := blk_cell R_3.out 7
  have fR0 := blk_free R_3.out 0
  have fR1 := blk_free R_3.out 1
  have fR2 := blk_free R_3.out 2
  have fR3 := blk_free R_3.out 3
  have fR4 := blk_free R_3.out 4
  have fR5 := blk_free R_3.out 5
  have fR6 := blk_free R_3.out 6
  have fR7 := blk_free R_3.out 7
  refine (judge_any ⟨s.p, s.hl, true, s.la, s.no, N, s.ba, s.ro⟩ u HU.out w.heap.size _ HT.out S_3.out).mono ?_
  rintro e Y ⟨rfl, kS, hG⟩
  have kR := (hG.block (w.heap.size + 1) Rz_3 (by simp)).trans R_3.out
  have QY := Lib.hid (q_3.grown hG q_3.size (fun j e => by cases e; exact Nat.le_refl _))
  have zY := blk_lt kR
  clear Sc0_3 Rc0_3 fS0 fR0 Sc1_3 Rc1_3 fS1 fR1 Sc2_3 Rc2_3 fS2 fR2 Sc3_3 Rc3_3 fS3 fR3 Sc4_3 Rc4_3 fS4 fR4 Sc5_3 Rc5_3 fS5 fR5 Sc6_3 Rc6_3 fS6 fR6 Sc7_3 Rc7_3 fS7 fR7
  have sc0 := blk_cell kS 0
  have rc0 := blk_cell kR 0
  have rf0 := blk_free kR 0
  have sc1 := blk_cell kS 1
  have rc1 := blk_cell kR 1
  have rf1 := blk_free kR 1
  have sc2 := blk_cell kS 2
  have rc2 := blk_cell kR 2
  have rf2 := blk_free kR 2
  have sc3 := blk_cell kS 3
  have rc3 := blk_cell kR 3
  have rf3 := blk_free kR 3
  have sc4 := blk_cell kS 4
  have rc4 := blk_cell kR 4
  have rf4 := blk_free kR 4
  have sc5 := blk_cell kS 5
  have rc5 := blk_cell kR 5
  have rf5 := blk_free kR 5
  have sc6 := blk_cell kS 6
  have rc6 := blk_cell kR 6
  have rf6 := blk_free kR 6
  have sc7 := blk_cell kS 7
  have rc7 := blk_cell kR 7
  have rf7 := blk_free kR 7
  clear kS kR hG S_3 R_3
  go_wp2
  refine bodyPost_ret (v := .tuple #[.agg #[.int .i64 u.p, .bool u.hl, .bool u.hn, .int .i64 u.la, .int .i64 u.no, .int .i64 u.sa, .int .i64 u.ba, .int .i64 u.ro], .int .i64 0]) (by simp [results, Try.results9, go_sem, *]) rfl ⟨rfl, ?_⟩
  (repeat' (first | (with_reducible exact QY.out) | (with_reducible exact Below.refl _ _) | (with_reducible refine Below.alloc ?_ ?_ _) | (with_reducible refine Below.setCell ?_ ?_ _) | (with_reducible refine Below.drew ?_) | (with_reducible refine below_drewN ?_ _) | omega | (dsimp only; omega) | (simp; done) | (simp; omega)))

end Go.Proofs.Ytfmjlcnpabpheaa
