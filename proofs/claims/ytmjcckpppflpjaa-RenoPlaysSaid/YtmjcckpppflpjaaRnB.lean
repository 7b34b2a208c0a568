/- Reno: the three events. -/
import Derived.Test.YtmjcckpppflpjaaRnC
namespace Go.Proofs.Ytmjcckpppflpjaa
open Go.RowKit Go.Proofs.Ytmjcckpppflpjaa.Rn

set_option maxHeartbeats 2000000 in
theorem beh_ack_slow (c t a m n : Int) (gm gn : Nat) (w : World) (hM : MV m) (hS : SV c t a m) (hN : NV n) (hct : c < t) (kM : w.heap[gm]? = some (.cells #[.int .i64 m] 3 (0, 0))) (kN : w.heap[gn]? = some (.cells #[.int .i64 n] 3 (0, 0))) :
    Calls Try.prog 20 #[.agg #[.int .i64 c, .int .i64 t, .int .i64 a], .int .i64 m, .int .i64 n, .func (.func 21) #[] #[.pointer (some ⟨gn, 0, none⟩), .pointer (some ⟨gm, 0, none⟩)]] w fun e w' => e = .returned (.tuple #[.agg #[.int .i64 (min (c + min n m) 1073741824), .int .i64 (t), .int .i64 (a)], .int .i64 0]) ∧ Below w.heap.size w w' := by
  have hgm := blk_lt kM
  have hgn := blk_lt kN
  have q_0 := Below.refl w.heap.size w
  obtain ⟨m0, m1⟩ := hM
  obtain ⟨⟨c0, c1⟩, ⟨t0, t1⟩, a0, a1⟩ := hS
  obtain ⟨n0, n1⟩ := hN
  have h1 := inb_true n0 n1
  have HM : Hid (MV m) := Lib.hid ⟨m0, m1⟩
  have HS : Hid (SV c t a m) := Lib.hid ⟨⟨c0, c1⟩, ⟨t0, t1⟩, a0, a1⟩
  have Mz_0 := blk_lt kM
  have Nz_0 := blk_lt kN
  have M_0 := Lib.hid (kM)
  have N_0 := Lib.hid (kN)
  clear kM kN
  go_enter Try.func20, Try.ntmps20
  go_wp2_with fail
  have b : Below w.heap.size w ((w.alloc (.cells #[.int .i64 c, .int .i64 t, .int .i64 a] 24)).alloc (.cells #[.int .i64 0, .int .i64 0, .int .i64 0] 24)) := (((Below.refl _ w).alloc (Nat.le_refl _) (.cells #[.int .i64 c, .int .i64 t, .int .i64 a] 24)).alloc (by simp only [World.size_alloc]; omega) (.cells #[.int .i64 0, .int .i64 0, .int .i64 0] 24))
  have nb0 := blk_new w (.cells #[.int .i64 c, .int .i64 t, .int .i64 a] 24)
  have nb0 := (Below.heap_alloc (w.alloc (.cells #[.int .i64 c, .int .i64 t, .int .i64 a] 24)) (.cells #[.int .i64 0, .int .i64 0, .int .i64 0] 24) (w.heap.size) (by simp only [World.size_alloc]; omega)).trans nb0
  have nz0 : w.heap.size < ((w.alloc (.cells #[.int .i64 c, .int .i64 t, .int .i64 a] 24)).alloc (.cells #[.int .i64 0, .int .i64 0, .int .i64 0] 24)).heap.size := by simp only [World.size_alloc]; omega
  have nb1 := blk_new (w.alloc (.cells #[.int .i64 c, .int .i64 t, .int .i64 a] 24)) (.cells #[.int .i64 0, .int .i64 0, .int .i64 0] 24)
  simp only [World.size_alloc] at nb1
  have nz1 : w.heap.size + 1 < ((w.alloc (.cells #[.int .i64 c, .int .i64 t, .int .i64 a] 24)).alloc (.cells #[.int .i64 0, .int .i64 0, .int .i64 0] 24)).heap.size := by simp only [World.size_alloc]; omega
  have M_1 := Lib.hid ((b.block _ Mz_0).trans M_0.out)
  have Mz_1 := Nat.lt_of_lt_of_le Mz_0 b.size
  have N_1 := Lib.hid ((b.block _ Nz_0).trans N_0.out)
  have Nz_1 := Nat.lt_of_lt_of_le Nz_0 b.size
  have q_1 := q_0.trans (b.mono q_0.size)
  clear M_0 Mz_0 N_0 Nz_0 q_0
  clear b
  have S_1 := Lib.hid nb0
  have Sz_1 := nz0
  clear nb0 nz0
  have Sc0_1 := blk_cell S_1.out 0
  have Sc1_1 := blk_cell S_1.out 1
  have Sc2_1 := blk_cell S_1.out 2
  have R_1 := Lib.hid nb1
  have Rz_1 := nz1
  clear nb1 nz1
  have Rc0_1 := blk_cell R_1.out 0
  have Rc1_1 := blk_cell R_1.out 1
  have Rc2_1 := blk_cell R_1.out 2
  generalize ((w.alloc (.cells #[.int .i64 c, .int .i64 t, .int .i64 a] 24)).alloc (.cells #[.int .i64 0, .int .i64 0, .int .i64 0] 24)) = V1 at q_1 M_1 Mz_1 N_1 Nz_1 S_1 Sz_1 Sc0_1 Sc1_1 Sc2_1 R_1 Rz_1 Rc0_1 Rc1_1 Rc2_1 ⊢
  refine (check_yes c t a m _ HM.out HS.out).mono ?_
  rintro e V2 ⟨rfl, b⟩
  have M_2 := Lib.hid ((b.block _ Mz_1).trans M_1.out)
  have Mz_2 := Nat.lt_of_lt_of_le Mz_1 b.size
  have N_2 := Lib.hid ((b.block _ Nz_1).trans N_1.out)
  have Nz_2 := Nat.lt_of_lt_of_le Nz_1 b.size
  have S_2 := Lib.hid ((b.block _ Sz_1).trans S_1.out)
  have Sz_2 := Nat.lt_of_lt_of_le Sz_1 b.size
  have Sc0_2 := blk_cell S_2.out 0
  have Sc1_2 := blk_cell S_2.out 1
  have Sc2_2 := blk_cell S_2.out 2
  have R_2 := Lib.hid ((b.block _ Rz_1).trans R_1.out)
  have Rz_2 := Nat.lt_of_lt_of_le Rz_1 b.size
  have Rc0_2 := blk_cell R_2.out 0
  have Rc1_2 := blk_cell R_2.out 1
  have Rc2_2 := blk_cell R_2.out 2
  have q_2 := q_1.trans (b.mono q_1.size)
  clear M_1 Mz_1 N_1 Nz_1 S_1 Sz_1 Sc0_1 Sc1_1 Sc2_1 R_1 Rz_1 Rc0_1 Rc1_1 Rc2_1 q_1
  clear b
  go_wp2_with fail
  refine (oct_any _ _).mono ?_
  rintro e w' ⟨rfl, rfl⟩
  go_wp2_with fail
  refine (ack1_slow c t a m n w.heap.size gm gn _ S_2.out M_2.out N_2.out (Nat.ne_of_gt hgm) (Nat.ne_of_gt hgn) hct (by omega) c1 a0 a1 n0 n1 m0 m1).mono ?_
  rintro e Y ⟨rfl, kS, hG⟩
  have kR := (hG.block (w.heap.size + 1) Rz_2 (by simp)).trans R_2.out
  have QY := Lib.hid (q_2.grown hG q_2.size (fun j e => by cases e; exact Nat.le_refl _))
  have zY := blk_lt kR
  clear Sc0_2 Rc0_2 Sc1_2 Rc1_2 Sc2_2 Rc2_2
  have sc0 := blk_cell kS 0
  have rc0 := blk_cell kR 0
  have rf0 := blk_free kR 0
  have sc1 := blk_cell kS 1
  have rc1 := blk_cell kR 1
  have rf1 := blk_free kR 1
  have sc2 := blk_cell kS 2
  have rc2 := blk_cell kR 2
  have rf2 := blk_free kR 2
  clear kS kR hG
  go_wp2
  refine bodyPost_ret (v := .tuple #[.agg #[.int .i64 (min (c + min n m) 1073741824), .int .i64 (t), .int .i64 (a)], .int .i64 0]) (by simp [results, Try.results20, go_sem, *]) rfl ⟨rfl, ?_⟩
  (repeat' (first | (with_reducible exact QY.out) | (with_reducible exact Below.refl _ _) | (with_reducible refine Below.alloc ?_ ?_ _) | (with_reducible refine Below.setCell ?_ ?_ _) | (with_reducible refine Below.drew ?_) | (with_reducible refine below_drewN ?_ _) | omega | (dsimp only; omega) | (simp; done) | (simp; omega)))

set_option maxHeartbeats 2000000 in
theorem beh_ack_up (c t a m n : Int) (gm gn : Nat) (w : World) (hM : MV m) (hS : SV c t a m) (hN : NV n) (hct : t ≤ c) (hup : c ≤ min (a + n) 1073741824) (kM : w.heap[gm]? = some (.cells #[.int .i64 m] 3 (0, 0))) (kN : w.heap[gn]? = some (.cells #[.int .i64 n] 3 (0, 0))) :
    Calls Try.prog 20 #[.agg #[.int .i64 c, .int .i64 t, .int .i64 a], .int .i64 m, .int .i64 n, .func (.func 21) #[] #[.pointer (some ⟨gn, 0, none⟩), .pointer (some ⟨gm, 0, none⟩)]] w fun e w' => e = .returned (.tuple #[.agg #[.int .i64 (min (c + m) 1073741824), .int .i64 (t), .int .i64 (min (a + n) 1073741824 - c)], .int .i64 0]) ∧ Below w.heap.size w w' := by
  have hgm := blk_lt kM
  have hgn := blk_lt kN
  have q_0 := Below.refl w.heap.size w
  obtain ⟨m0, m1⟩ := hM
  obtain ⟨⟨c0, c1⟩, ⟨t0, t1⟩, a0, a1⟩ := hS
  obtain ⟨n0, n1⟩ := hN
  have h1 := inb_true n0 n1
  have HM : Hid (MV m) := Lib.hid ⟨m0, m1⟩
  have HS : Hid (SV c t a m) := Lib.hid ⟨⟨c0, c1⟩, ⟨t0, t1⟩, a0, a1⟩
  have Mz_0 := blk_lt kM
  have Nz_0 := blk_lt kN
  have M_0 := Lib.hid (kM)
  have N_0 := Lib.hid (kN)
  clear kM kN
  go_enter Try.func20, Try.ntmps20
  go_wp2_with fail
  have b : Below w.heap.size w ((w.alloc (.cells #[.int .i64 c, .int .i64 t, .int .i64 a] 24)).alloc (.cells #[.int .i64 0, .int .i64 0, .int .i64 0] 24)) := (((Below.refl _ w).alloc (Nat.le_refl _) (.cells #[.int .i64 c, .int .i64 t, .int .i64 a] 24)).alloc (by simp only [World.size_alloc]; omega) (.cells #[.int .i64 0, .int .i64 0, .int .i64 0] 24))
  have nb0 := blk_new w (.cells #[.int .i64 c, .int .i64 t, .int .i64 a] 24)
  have nb0 := (Below.heap_alloc (w.alloc (.cells #[.int .i64 c, .int .i64 t, .int .i64 a] 24)) (.cells #[.int .i64 0, .int .i64 0, .int .i64 0] 24) (w.heap.size) (by simp only [World.size_alloc]; omega)).trans nb0
  have nz0 : w.heap.size < ((w.alloc (.cells #[.int .i64 c, .int .i64 t, .int .i64 a] 24)).alloc (.cells #[.int .i64 0, .int .i64 0, .int .i64 0] 24)).heap.size := by simp only [World.size_alloc]; omega
  have nb1 := blk_new (w.alloc (.cells #[.int .i64 c, .int .i64 t, .int .i64 a] 24)) (.cells #[.int .i64 0, .int .i64 0, .int .i64 0] 24)
  simp only [World.size_alloc] at nb1
  have nz1 : w.heap.size + 1 < ((w.alloc (.cells #[.int .i64 c, .int .i64 t, .int .i64 a] 24)).alloc (.cells #[.int .i64 0, .int .i64 0, .int .i64 0] 24)).heap.size := by simp only [World.size_alloc]; omega
  have M_1 := Lib.hid ((b.block _ Mz_0).trans M_0.out)
  have Mz_1 := Nat.lt_of_lt_of_le Mz_0 b.size
  have N_1 := Lib.hid ((b.block _ Nz_0).trans N_0.out)
  have Nz_1 := Nat.lt_of_lt_of_le Nz_0 b.size
  have q_1 := q_0.trans (b.mono q_0.size)
  clear M_0 Mz_0 N_0 Nz_0 q_0
  clear b
  have S_1 := Lib.hid nb0
  have Sz_1 := nz0
  clear nb0 nz0
  have Sc0_1 := blk_cell S_1.out 0
  have Sc1_1 := blk_cell S_1.out 1
  have Sc2_1 := blk_cell S_1.out 2
  have R_1 := Lib.hid nb1
  have Rz_1 := nz1
  clear nb1 nz1
  have Rc0_1 := blk_cell R_1.out 0
  have Rc1_1 := blk_cell R_1.out 1
  have Rc2_1 := blk_cell R_1.out 2
  generalize ((w.alloc (.cells #[.int .i64 c, .int .i64 t, .int .i64 a] 24)).alloc (.cells #[.int .i64 0, .int .i64 0, .int .i64 0] 24)) = V1 at q_1 M_1 Mz_1 N_1 Nz_1 S_1 Sz_1 Sc0_1 Sc1_1 Sc2_1 R_1 Rz_1 Rc0_1 Rc1_1 Rc2_1 ⊢
  refine (check_yes c t a m _ HM.out HS.out).mono ?_
  rintro e V2 ⟨rfl, b⟩
  have M_2 := Lib.hid ((b.block _ Mz_1).trans M_1.out)
  have Mz_2 := Nat.lt_of_lt_of_le Mz_1 b.size
  have N_2 := Lib.hid ((b.block _ Nz_1).trans N_1.out)
  have Nz_2 := Nat.lt_of_lt_of_le Nz_1 b.size
  have S_2 := Lib.hid ((b.block _ Sz_1).trans S_1.out)
  have Sz_2 := Nat.lt_of_lt_of_le Sz_1 b.size
  have Sc0_2 := blk_cell S_2.out 0
  have Sc1_2 := blk_cell S_2.out 1
  have Sc2_2 := blk_cell S_2.out 2
  have R_2 := Lib.hid ((b.block _ Rz_1).trans R_1.out)
  have Rz_2 := Nat.lt_of_lt_of_le Rz_1 b.size
  have Rc0_2 := blk_cell R_2.out 0
  have Rc1_2 := blk_cell R_2.out 1
  have Rc2_2 := blk_cell R_2.out 2
  have q_2 := q_1.trans (b.mono q_1.size)
  clear M_1 Mz_1 N_1 Nz_1 S_1 Sz_1 Sc0_1 Sc1_1 Sc2_1 R_1 Rz_1 Rc0_1 Rc1_1 Rc2_1 q_1
  clear b
  go_wp2_with fail
  refine (oct_any _ _).mono ?_
  rintro e w' ⟨rfl, rfl⟩
  go_wp2_with fail
  refine (ack1_up c t a m n w.heap.size gm gn _ S_2.out M_2.out N_2.out (Nat.ne_of_gt hgm) (Nat.ne_of_gt hgn) hct hup (by omega) c1 a0 a1 n0 n1 m0 m1).mono ?_
  rintro e Y ⟨rfl, kS, hG⟩
  have kR := (hG.block (w.heap.size + 1) Rz_2 (by simp)).trans R_2.out
  have QY := Lib.hid (q_2.grown hG q_2.size (fun j e => by cases e; exact Nat.le_refl _))
  have zY := blk_lt kR
  clear Sc0_2 Rc0_2 Sc1_2 Rc1_2 Sc2_2 Rc2_2
  have sc0 := blk_cell kS 0
  have rc0 := blk_cell kR 0
  have rf0 := blk_free kR 0
  have sc1 := blk_cell kS 1
  have rc1 := blk_cell kR 1
  have rf1 := blk_free kR 1
  have sc2 := blk_cell kS 2
  have rc2 := blk_cell kR 2
  have rf2 := blk_free kR 2
  clear kS kR hG
  go_wp2
  refine bodyPost_ret (v := .tuple #[.agg #[.int .i64 (min (c + m) 1073741824), .int .i64 (t), .int .i64 (min (a + n) 1073741824 - c)], .int .i64 0]) (by simp [results, Try.results20, go_sem, *]) rfl ⟨rfl, ?_⟩
  (repeat' (first | (with_reducible exact QY.out) | (with_reducible exact Below.refl _ _) | (with_reducible refine Below.alloc ?_ ?_ _) | (with_reducible refine Below.setCell ?_ ?_ _) | (with_reducible refine Below.drew ?_) | (with_reducible refine below_drewN ?_ _) | omega | (dsimp only; omega) | (simp; done) | (simp; omega)))

set_option maxHeartbeats 2000000 in
theorem beh_ack_on (c t a m n : Int) (gm gn : Nat) (w : World) (hM : MV m) (hS : SV c t a m) (hN : NV n) (hct : t ≤ c) (hup : min (a + n) 1073741824 < c) (kM : w.heap[gm]? = some (.cells #[.int .i64 m] 3 (0, 0))) (kN : w.heap[gn]? = some (.cells #[.int .i64 n] 3 (0, 0))) :
    Calls Try.prog 20 #[.agg #[.int .i64 c, .int .i64 t, .int .i64 a], .int .i64 m, .int .i64 n, .func (.func 21) #[] #[.pointer (some ⟨gn, 0, none⟩), .pointer (some ⟨gm, 0, none⟩)]] w fun e w' => e = .returned (.tuple #[.agg #[.int .i64 (c), .int .i64 (t), .int .i64 (min (a + n) 1073741824)], .int .i64 0]) ∧ Below w.heap.size w w' := by
  have hgm := blk_lt kM
  have hgn := blk_lt kN
  have q_0 := Below.refl w.heap.size w
  obtain ⟨m0, m1⟩ := hM
  obtain ⟨⟨c0, c1⟩, ⟨t0, t1⟩, a0, a1⟩ := hS
  obtain ⟨n0, n1⟩ := hN
  have h1 := inb_true n0 n1
  have HM : Hid (MV m) := Lib.hid ⟨m0, m1⟩
  have HS : Hid (SV c t a m) := Lib.hid ⟨⟨c0, c1⟩, ⟨t0, t1⟩, a0, a1⟩
  have Mz_0 := blk_lt kM
  have Nz_0 := blk_lt kN
  have M_0 := Lib.hid (kM)
  have N_0 := Lib.hid (kN)
  clear kM kN
  go_enter Try.func20, Try.ntmps20
  go_wp2_with fail
  have b : Below w.heap.size w ((w.alloc (.cells #[.int .i64 c, .int .i64 t, .int .i64 a] 24)).alloc (.cells #[.int .i64 0, .int .i64 0, .int .i64 0] 24)) := (((Below.refl _ w).alloc (Nat.le_refl _) (.cells #[.int .i64 c, .int .i64 t, .int .i64 a] 24)).alloc (by simp only [World.size_alloc]; omega) (.cells #[.int .i64 0, .int .i64 0, .int .i64 0] 24))
  have nb0 := blk_new w (.cells #[.int .i64 c, .int .i64 t, .int .i64 a] 24)
  have nb0 := (Below.heap_alloc (w.alloc (.cells #[.int .i64 c, .int .i64 t, .int .i64 a] 24)) (.cells #[.int .i64 0, .int .i64 0, .int .i64 0] 24) (w.heap.size) (by simp only [World.size_alloc]; omega)).trans nb0
  have nz0 : w.heap.size < ((w.alloc (.cells #[.int .i64 c, .int .i64 t, .int .i64 a] 24)).alloc (.cells #[.int .i64 0, .int .i64 0, .int .i64 0] 24)).heap.size := by simp only [World.size_alloc]; omega
  have nb1 := blk_new (w.alloc (.cells #[.int .i64 c, .int .i64 t, .int .i64 a] 24)) (.cells #[.int .i64 0, .int .i64 0, .int .i64 0] 24)
  simp only [World.size_alloc] at nb1
  have nz1 : w.heap.size + 1 < ((w.alloc (.cells #[.int .i64 c, .int .i64 t, .int .i64 a] 24)).alloc (.cells #[.int .i64 0, .int .i64 0, .int .i64 0] 24)).heap.size := by simp only [World.size_alloc]; omega
  have M_1 := Lib.hid ((b.block _ Mz_0).trans M_0.out)
  have Mz_1 := Nat.lt_of_lt_of_le Mz_0 b.size
  have N_1 := Lib.hid ((b.block _ Nz_0).trans N_0.out)
  have Nz_1 := Nat.lt_of_lt_of_le Nz_0 b.size
  have q_1 := q_0.trans (b.mono q_0.size)
  clear M_0 Mz_0 N_0 Nz_0 q_0
  clear b
  have S_1 := Lib.hid nb0
  have Sz_1 := nz0
  clear nb0 nz0
  have Sc0_1 := blk_cell S_1.out 0
  have Sc1_1 := blk_cell S_1.out 1
  have Sc2_1 := blk_cell S_1.out 2
  have R_1 := Lib.hid nb1
  have Rz_1 := nz1
  clear nb1 nz1
  have Rc0_1 := blk_cell R_1.out 0
  have Rc1_1 := blk_cell R_1.out 1
  have Rc2_1 := blk_cell R_1.out 2
  generalize ((w.alloc (.cells #[.int .i64 c, .int .i64 t, .int .i64 a] 24)).alloc (.cells #[.int .i64 0, .int .i64 0, .int .i64 0] 24)) = V1 at q_1 M_1 Mz_1 N_1 Nz_1 S_1 Sz_1 Sc0_1 Sc1_1 Sc2_1 R_1 Rz_1 Rc0_1 Rc1_1 Rc2_1 ⊢
  refine (check_yes c t a m _ HM.out HS.out).mono ?_
  rintro e V2 ⟨rfl, b⟩
  have M_2 := Lib.hid ((b.block _ Mz_1).trans M_1.out)
  have Mz_2 := Nat.lt_of_lt_of_le Mz_1 b.size
  have N_2 := Lib.hid ((b.block _ Nz_1).trans N_1.out)
  have Nz_2 := Nat.lt_of_lt_of_le Nz_1 b.size
  have S_2 := Lib.hid ((b.block _ Sz_1).trans S_1.out)
  have Sz_2 := Nat.lt_of_lt_of_le Sz_1 b.size
  have Sc0_2 := blk_cell S_2.out 0
  have Sc1_2 := blk_cell S_2.out 1
  have Sc2_2 := blk_cell S_2.out 2
  have R_2 := Lib.hid ((b.block _ Rz_1).trans R_1.out)
  have Rz_2 := Nat.lt_of_lt_of_le Rz_1 b.size
  have Rc0_2 := blk_cell R_2.out 0
  have Rc1_2 := blk_cell R_2.out 1
  have Rc2_2 := blk_cell R_2.out 2
  have q_2 := q_1.trans (b.mono q_1.size)
  clear M_1 Mz_1 N_1 Nz_1 S_1 Sz_1 Sc0_1 Sc1_1 Sc2_1 R_1 Rz_1 Rc0_1 Rc1_1 Rc2_1 q_1
  clear b
  go_wp2_with fail
  refine (oct_any _ _).mono ?_
  rintro e w' ⟨rfl, rfl⟩
  go_wp2_with fail
  refine (ack1_on c t a m n w.heap.size gm gn _ S_2.out M_2.out N_2.out (Nat.ne_of_gt hgm) (Nat.ne_of_gt hgn) hct hup (by omega) c1 a0 a1 n0 n1 m0 m1).mono ?_
  rintro e Y ⟨rfl, kS, hG⟩
  have kR := (hG.block (w.heap.size + 1) Rz_2 (by simp)).trans R_2.out
  have QY := Lib.hid (q_2.grown hG q_2.size (fun j e => by cases e; exact Nat.le_refl _))
  have zY := blk_lt kR
  clear Sc0_2 Rc0_2 Sc1_2 Rc1_2 Sc2_2 Rc2_2
  have sc0 := blk_cell kS 0
  have rc0 := blk_cell kR 0
  have rf0 := blk_free kR 0
  have sc1 := blk_cell kS 1
  have rc1 := blk_cell kR 1
  have rf1 := blk_free kR 1
  have sc2 := blk_cell kS 2
  have rc2 := blk_cell kR 2
  have rf2 := blk_free kR 2
  clear kS kR hG
  go_wp2
  refine bodyPost_ret (v := .tuple #[.agg #[.int .i64 (c), .int .i64 (t), .int .i64 (min (a + n) 1073741824)], .int .i64 0]) (by simp [results, Try.results20, go_sem, *]) rfl ⟨rfl, ?_⟩
  (repeat' (first | (with_reducible exact QY.out) | (with_reducible exact Below.refl _ _) | (with_reducible refine Below.alloc ?_ ?_ _) | (with_reducible refine Below.setCell ?_ ?_ _) | (with_reducible refine Below.drew ?_) | (with_reducible refine below_drewN ?_ _) | omega | (dsimp only; omega) | (simp; done) | (simp; omega)))

set_option maxHeartbeats 2000000 in
theorem beh_loss (c t a m n : Int) (gm gn : Nat) (w : World) (hM : MV m) (hS : SV c t a m) (hN : NV n)  (kM : w.heap[gm]? = some (.cells #[.int .i64 m] 3 (0, 0))) (kN : w.heap[gn]? = some (.cells #[.int .i64 n] 3 (0, 0))) :
    Calls Try.prog 20 #[.agg #[.int .i64 c, .int .i64 t, .int .i64 a], .int .i64 m, .int .i64 n, .func (.func 24) #[] #[.pointer (some ⟨gn, 0, none⟩), .pointer (some ⟨gm, 0, none⟩)]] w fun e w' => e = .returned (.tuple #[.agg #[.int .i64 (max (n / 2) (2 * m)), .int .i64 (max (n / 2) (2 * m)), .int .i64 (0)], .int .i64 0]) ∧ Below w.heap.size w w' := by
  have hgm := blk_lt kM
  have hgn := blk_lt kN
  have q_0 := Below.refl w.heap.size w
  obtain ⟨m0, m1⟩ := hM
  obtain ⟨⟨c0, c1⟩, ⟨t0, t1⟩, a0, a1⟩ := hS
  obtain ⟨n0, n1⟩ := hN
  have h1 := inb_true n0 n1
  have HM : Hid (MV m) := Lib.hid ⟨m0, m1⟩
  have HS : Hid (SV c t a m) := Lib.hid ⟨⟨c0, c1⟩, ⟨t0, t1⟩, a0, a1⟩
  have Mz_0 := blk_lt kM
  have Nz_0 := blk_lt kN
  have M_0 := Lib.hid (kM)
  have N_0 := Lib.hid (kN)
  clear kM kN
  go_enter Try.func20, Try.ntmps20
  go_wp2_with fail
  have b : Below w.heap.size w ((w.alloc (.cells #[.int .i64 c, .int .i64 t, .int .i64 a] 24)).alloc (.cells #[.int .i64 0, .int .i64 0, .int .i64 0] 24)) := (((Below.refl _ w).alloc (Nat.le_refl _) (.cells #[.int .i64 c, .int .i64 t, .int .i64 a] 24)).alloc (by simp only [World.size_alloc]; omega) (.cells #[.int .i64 0, .int .i64 0, .int .i64 0] 24))
  have nb0 := blk_new w (.cells #[.int .i64 c, .int .i64 t, .int .i64 a] 24)
  have nb0 := (Below.heap_alloc (w.alloc (.cells #[.int .i64 c, .int .i64 t, .int .i64 a] 24)) (.cells #[.int .i64 0, .int .i64 0, .int .i64 0] 24) (w.heap.size) (by simp only [World.size_alloc]; omega)).trans nb0
  have nz0 : w.heap.size < ((w.alloc (.cells #[.int .i64 c, .int .i64 t, .int .i64 a] 24)).alloc (.cells #[.int .i64 0, .int .i64 0, .int .i64 0] 24)).heap.size := by simp only [World.size_alloc]; omega
  have nb1 := blk_new (w.alloc (.cells #[.int .i64 c, .int .i64 t, .int .i64 a] 24)) (.cells #[.int .i64 0, .int .i64 0, .int .i64 0] 24)
  simp only [World.size_alloc] at nb1
  have nz1 : w.heap.size + 1 < ((w.alloc (.cells #[.int .i64 c, .int .i64 t, .int .i64 a] 24)).alloc (.cells #[.int .i64 0, .int .i64 0, .int .i64 0] 24)).heap.size := by simp only [World.size_alloc]; omega
  have M_1 := Lib.hid ((b.block _ Mz_0).trans M_0.out)
  have Mz_1 := Nat.lt_of_lt_of_le Mz_0 b.size
  have N_1 := Lib.hid ((b.block _ Nz_0).trans N_0.out)
  have Nz_1 := Nat.lt_of_lt_of_le Nz_0 b.size
  have q_1 := q_0.trans (b.mono q_0.size)
  clear M_0 Mz_0 N_0 Nz_0 q_0
  clear b
  have S_1 := Lib.hid nb0
  have Sz_1 := nz0
  clear nb0 nz0
  have Sc0_1 := blk_cell S_1.out 0
  have Sc1_1 := blk_cell S_1.out 1
  have Sc2_1 := blk_cell S_1.out 2
  have R_1 := Lib.hid nb1
  have Rz_1 := nz1
  clear nb1 nz1
  have Rc0_1 := blk_cell R_1.out 0
  have Rc1_1 := blk_cell R_1.out 1
  have Rc2_1 := blk_cell R_1.out 2
  generalize ((w.alloc (.cells #[.int .i64 c, .int .i64 t, .int .i64 a] 24)).alloc (.cells #[.int .i64 0, .int .i64 0, .int .i64 0] 24)) = V1 at q_1 M_1 Mz_1 N_1 Nz_1 S_1 Sz_1 Sc0_1 Sc1_1 Sc2_1 R_1 Rz_1 Rc0_1 Rc1_1 Rc2_1 ⊢
  refine (check_yes c t a m _ HM.out HS.out).mono ?_
  rintro e V2 ⟨rfl, b⟩
  have M_2 := Lib.hid ((b.block _ Mz_1).trans M_1.out)
  have Mz_2 := Nat.lt_of_lt_of_le Mz_1 b.size
  have N_2 := Lib.hid ((b.block _ Nz_1).trans N_1.out)
  have Nz_2 := Nat.lt_of_lt_of_le Nz_1 b.size
  have S_2 := Lib.hid ((b.block _ Sz_1).trans S_1.out)
  have Sz_2 := Nat.lt_of_lt_of_le Sz_1 b.size
  have Sc0_2 := blk_cell S_2.out 0
  have Sc1_2 := blk_cell S_2.out 1
  have Sc2_2 := blk_cell S_2.out 2
  have R_2 := Lib.hid ((b.block _ Rz_1).trans R_1.out)
  have Rz_2 := Nat.lt_of_lt_of_le Rz_1 b.size
  have Rc0_2 := blk_cell R_2.out 0
  have Rc1_2 := blk_cell R_2.out 1
  have Rc2_2 := blk_cell R_2.out 2
  have q_2 := q_1.trans (b.mono q_1.size)
  clear M_1 Mz_1 N_1 Nz_1 S_1 Sz_1 Sc0_1 Sc1_1 Sc2_1 R_1 Rz_1 Rc0_1 Rc1_1 Rc2_1 q_1
  clear b
  go_wp2_with fail
  refine (oct_any _ _).mono ?_
  rintro e w' ⟨rfl, rfl⟩
  go_wp2_with fail
  refine (loss1 c t a m n w.heap.size gm gn _ S_2.out M_2.out N_2.out (Nat.ne_of_gt hgm) (Nat.ne_of_gt hgn) (by omega) n0 n1 m0 m1).mono ?_
  rintro e Y ⟨rfl, kS, hG⟩
  have kR := (hG.block (w.heap.size + 1) Rz_2 (by simp)).trans R_2.out
  have QY := Lib.hid (q_2.grown hG q_2.size (fun j e => by cases e; exact Nat.le_refl _))
  have zY := blk_lt kR
  clear Sc0_2 Rc0_2 Sc1_2 Rc1_2 Sc2_2 Rc2_2
  have sc0 := blk_cell kS 0
  have rc0 := blk_cell kR 0
  have rf0 := blk_free kR 0
  have sc1 := blk_cell kS 1
  have rc1 := blk_cell kR 1
  have rf1 := blk_free kR 1
  have sc2 := blk_cell kS 2
  have rc2 := blk_cell kR 2
  have rf2 := blk_free kR 2
  clear kS kR hG
  go_wp2
  refine bodyPost_ret (v := .tuple #[.agg #[.int .i64 (max (n / 2) (2 * m)), .int .i64 (max (n / 2) (2 * m)), .int .i64 (0)], .int .i64 0]) (by simp [results, Try.results20, go_sem, *]) rfl ⟨rfl, ?_⟩
  (repeat' (first | (with_reducible exact QY.out) | (with_reducible exact Below.refl _ _) | (with_reducible refine Below.alloc ?_ ?_ _) | (with_reducible refine Below.setCell ?_ ?_ _) | (with_reducible refine Below.drew ?_) | (with_reducible refine below_drewN ?_ _) | omega | (dsimp only; omega) | (simp; done) | (simp; omega)))

set_option maxHeartbeats 2000000 in
theorem beh_timeout (c t a m n : Int) (gm gn : Nat) (w : World) (hM : MV m) (hS : SV c t a m) (hN : NV n)  (kM : w.heap[gm]? = some (.cells #[.int .i64 m] 3 (0, 0))) (kN : w.heap[gn]? = some (.cells #[.int .i64 n] 3 (0, 0))) :
    Calls Try.prog 20 #[.agg #[.int .i64 c, .int .i64 t, .int .i64 a], .int .i64 m, .int .i64 n, .func (.func 25) #[] #[.pointer (some ⟨gn, 0, none⟩), .pointer (some ⟨gm, 0, none⟩)]] w fun e w' => e = .returned (.tuple #[.agg #[.int .i64 (m), .int .i64 (max (n / 2) (2 * m)), .int .i64 (0)], .int .i64 0]) ∧ Below w.heap.size w w' := by
  have hgm := blk_lt kM
  have hgn := blk_lt kN
  have q_0 := Below.refl w.heap.size w
  obtain ⟨m0, m1⟩ := hM
  obtain ⟨⟨c0, c1⟩, ⟨t0, t1⟩, a0, a1⟩ := hS
  obtain ⟨n0, n1⟩ := hN
  have h1 := inb_true n0 n1
  have HM : Hid (MV m) := Lib.hid ⟨m0, m1⟩
  have HS : Hid (SV c t a m) := Lib.hid ⟨⟨c0, c1⟩, ⟨t0, t1⟩, a0, a1⟩
  have Mz_0 := blk_lt kM
  have Nz_0 := blk_lt kN
  have M_0 := Lib.hid (kM)
  have N_0 := Lib.hid (kN)
  clear kM kN
  go_enter Try.func20, Try.ntmps20
  go_wp2_with fail
  have b : Below w.heap.size w ((w.alloc (.cells #[.int .i64 c, .int .i64 t, .int .i64 a] 24)).alloc (.cells #[.int .i64 0, .int .i64 0, .int .i64 0] 24)) := (((Below.refl _ w).alloc (Nat.le_refl _) (.cells #[.int .i64 c, .int .i64 t, .int .i64 a] 24)).alloc (by simp only [World.size_alloc]; omega) (.cells #[.int .i64 0, .int .i64 0, .int .i64 0] 24))
  have nb0 := blk_new w (.cells #[.int .i64 c, .int .i64 t, .int .i64 a] 24)
  have nb0 := (Below.heap_alloc (w.alloc (.cells #[.int .i64 c, .int .i64 t, .int .i64 a] 24)) (.cells #[.int .i64 0, .int .i64 0, .int .i64 0] 24) (w.heap.size) (by simp only [World.size_alloc]; omega)).trans nb0
  have nz0 : w.heap.size < ((w.alloc (.cells #[.int .i64 c, .int .i64 t, .int .i64 a] 24)).alloc (.cells #[.int .i64 0, .int .i64 0, .int .i64 0] 24)).heap.size := by simp only [World.size_alloc]; omega
  have nb1 := blk_new (w.alloc (.cells #[.int .i64 c, .int .i64 t, .int .i64 a] 24)) (.cells #[.int .i64 0, .int .i64 0, .int .i64 0] 24)
  simp only [World.size_alloc] at nb1
  have nz1 : w.heap.size + 1 < ((w.alloc (.cells #[.int .i64 c, .int .i64 t, .int .i64 a] 24)).alloc (.cells #[.int .i64 0, .int .i64 0, .int .i64 0] 24)).heap.size := by simp only [World.size_alloc]; omega
  have M_1 := Lib.hid ((b.block _ Mz_0).trans M_0.out)
  have Mz_1 := Nat.lt_of_lt_of_le Mz_0 b.size
  have N_1 := Lib.hid ((b.block _ Nz_0).trans N_0.out)
  have Nz_1 := Nat.lt_of_lt_of_le Nz_0 b.size
  have q_1 := q_0.trans (b.mono q_0.size)
  clear M_0 Mz_0 N_0 Nz_0 q_0
  clear b
  have S_1 := Lib.hid nb0
  have Sz_1 := nz0
  clear nb0 nz0
  have Sc0_1 := blk_cell S_1.out 0
  have Sc1_1 := blk_cell S_1.out 1
  have Sc2_1 := blk_cell S_1.out 2
  have R_1 := Lib.hid nb1
  have Rz_1 := nz1
  clear nb1 nz1
  have Rc0_1 := blk_cell R_1.out 0
  have Rc1_1 := blk_cell R_1.out 1
  have Rc2_1 := blk_cell R_1.out 2
  generalize ((w.alloc (.cells #[.int .i64 c, .int .i64 t, .int .i64 a] 24)).alloc (.cells #[.int .i64 0, .int .i64 0, .int .i64 0] 24)) = V1 at q_1 M_1 Mz_1 N_1 Nz_1 S_1 Sz_1 Sc0_1 Sc1_1 Sc2_1 R_1 Rz_1 Rc0_1 Rc1_1 Rc2_1 ⊢
  refine (check_yes c t a m _ HM.out HS.out).mono ?_
  rintro e V2 ⟨rfl, b⟩
  have M_2 := Lib.hid ((b.block _ Mz_1).trans M_1.out)
  have Mz_2 := Nat.lt_of_lt_of_le Mz_1 b.size
  have N_2 := Lib.hid ((b.block _ Nz_1).trans N_1.out)
  have Nz_2 := Nat.lt_of_lt_of_le Nz_1 b.size
  have S_2 := Lib.hid ((b.block _ Sz_1).trans S_1.out)
  have Sz_2 := Nat.lt_of_lt_of_le Sz_1 b.size
  have Sc0_2 := blk_cell S_2.out 0
  have Sc1_2 := blk_cell S_2.out 1
  have Sc2_2 := blk_cell S_2.out 2
  have R_2 := Lib.hid ((b.block _ Rz_1).trans R_1.out)
  have Rz_2 := Nat.lt_of_lt_of_le Rz_1 b.size
  have Rc0_2 := blk_cell R_2.out 0
  have Rc1_2 := blk_cell R_2.out 1
  have Rc2_2 := blk_cell R_2.out 2
  have q_2 := q_1.trans (b.mono q_1.size)
  clear M_1 Mz_1 N_1 Nz_1 S_1 Sz_1 Sc0_1 Sc1_1 Sc2_1 R_1 Rz_1 Rc0_1 Rc1_1 Rc2_1 q_1
  clear b
  go_wp2_with fail
  refine (oct_any _ _).mono ?_
  rintro e w' ⟨rfl, rfl⟩
  go_wp2_with fail
  refine (time1 c t a m n w.heap.size gm gn _ S_2.out M_2.out N_2.out (Nat.ne_of_gt hgm) (Nat.ne_of_gt hgn) (by omega) n0 n1 m0 m1).mono ?_
  rintro e Y ⟨rfl, kS, hG⟩
  have kR := (hG.block (w.heap.size + 1) Rz_2 (by simp)).trans R_2.out
  have QY := Lib.hid (q_2.grown hG q_2.size (fun j e => by cases e; exact Nat.le_refl _))
  have zY := blk_lt kR
  clear Sc0_2 Rc0_2 Sc1_2 Rc1_2 Sc2_2 Rc2_2
  have sc0 := blk_cell kS 0
  have rc0 := blk_cell kR 0
  have rf0 := blk_free kR 0
  have sc1 := blk_cell kS 1
  have rc1 := blk_cell kR 1
  have rf1 := blk_free kR 1
  have sc2 := blk_cell kS 2
  have rc2 := blk_cell kR 2
  have rf2 := blk_free kR 2
  clear kS kR hG
  go_wp2
  refine bodyPost_ret (v := .tuple #[.agg #[.int .i64 (m), .int .i64 (max (n / 2) (2 * m)), .int .i64 (0)], .int .i64 0]) (by simp [results, Try.results20, go_sem, *]) rfl ⟨rfl, ?_⟩
  (repeat' (first | (with_reducible exact QY.out) | (with_reducible exact Below.refl _ _) | (with_reducible refine Below.alloc ?_ ?_ _) | (with_reducible refine Below.setCell ?_ ?_ _) | (with_reducible refine Below.drew ?_) | (with_reducible refine below_drewN ?_ _) | omega | (dsimp only; omega) | (simp; done) | (simp; omega)))

set_option maxHeartbeats 2000000 in
theorem beh_m (c t a m n : Int) (cl : Value) (w : World) (hM : ¬ MV m) :
    Calls Try.prog 20 #[.agg #[.int .i64 c, .int .i64 t, .int .i64 a], .int .i64 m, .int .i64 n, cl] w fun e w' => e = .returned (.tuple #[.agg #[.int .i64 0, .int .i64 0, .int .i64 0], .int .i64 4]) ∧ Below w.heap.size w w' := by
  have HM := Lib.hid hM
  clear hM
  go_enter Try.func20, Try.ntmps20
  go_wp2_with fail
  refine (check_m c t a m _ HM.out).mono ?_
  rintro e w1 ⟨rfl, b1⟩
  obtain ⟨hc1, hf1⟩ := bcell b1
  have Q1 : Hid (Below w.heap.size w w1) := Lib.hid (below_after (by (repeat' (first | (with_reducible exact Below.refl _ _) | (with_reducible refine Below.alloc ?_ ?_ _) | (with_reducible refine Below.setCell ?_ ?_ _) | (with_reducible refine Below.drew ?_) | (with_reducible refine below_drewN ?_ _) | omega | (dsimp only; omega) | (simp; done) | (simp; omega)))) b1)
  have hz1 := b1.size
  try simp at hz1
  have hz1_0 : w.heap.size < w1.heap.size := by omega
  have hz1_1 : w.heap.size + 1 < w1.heap.size := by omega
  clear hz1 b1
  go_wp2
  refine bodyPost_ret (v := .tuple #[.agg #[.int .i64 0, .int .i64 0, .int .i64 0], .int .i64 4]) (by simp [results, Try.results20, go_sem, *]) rfl ⟨rfl, ?_⟩
  (repeat' (first | (with_reducible exact Q1.out) | (with_reducible exact Below.refl _ _) | (with_reducible refine Below.alloc ?_ ?_ _) | (with_reducible refine Below.setCell ?_ ?_ _) | (with_reducible refine Below.drew ?_) | (with_reducible refine below_drewN ?_ _) | omega | (dsimp only; omega) | (simp; done) | (simp; omega)))

set_option maxHeartbeats 2000000 in
theorem beh_s (c t a m n : Int) (cl : Value) (w : World) (hM : MV m) (hS : ¬ SV c t a m) :
    Calls Try.prog 20 #[.agg #[.int .i64 c, .int .i64 t, .int .i64 a], .int .i64 m, .int .i64 n, cl] w fun e w' => e = .returned (.tuple #[.agg #[.int .i64 0, .int .i64 0, .int .i64 0], .int .i64 171]) ∧ Below w.heap.size w w' := by
  have HM := Lib.hid hM
  clear hM
  have HS := Lib.hid hS
  clear hS
  go_enter Try.func20, Try.ntmps20
  go_wp2_with fail
  refine (check_s c t a m _ HM.out HS.out).mono ?_
  rintro e w1 ⟨rfl, b1⟩
  obtain ⟨hc1, hf1⟩ := bcell b1
  have Q1 : Hid (Below w.heap.size w w1) := Lib.hid (below_after (by (repeat' (first | (with_reducible exact Below.refl _ _) | (with_reducible refine Below.alloc ?_ ?_ _) | (with_reducible refine Below.setCell ?_ ?_ _) | (with_reducible refine Below.drew ?_) | (with_reducible refine below_drewN ?_ _) | omega | (dsimp only; omega) | (simp; done) | (simp; omega)))) b1)
  have hz1 := b1.size
  try simp at hz1
  have hz1_0 : w.heap.size < w1.heap.size := by omega
  have hz1_1 : w.heap.size + 1 < w1.heap.size := by omega
  clear hz1 b1
  go_wp2
  refine bodyPost_ret (v := .tuple #[.agg #[.int .i64 0, .int .i64 0, .int .i64 0], .int .i64 171]) (by simp [results, Try.results20, go_sem, *]) rfl ⟨rfl, ?_⟩
  (repeat' (first | (with_reducible exact Q1.out) | (with_reducible exact Below.refl _ _) | (with_reducible refine Below.alloc ?_ ?_ _) | (with_reducible refine Below.setCell ?_ ?_ _) | (with_reducible refine Below.drew ?_) | (with_reducible refine below_drewN ?_ _) | omega | (dsimp only; omega) | (simp; done) | (simp; omega)))

set_option maxHeartbeats 2000000 in
theorem beh_n (c t a m n : Int) (cl : Value) (w : World) (hM : MV m) (hS : SV c t a m) (hN : ¬ NV n) :
    Calls Try.prog 20 #[.agg #[.int .i64 c, .int .i64 t, .int .i64 a], .int .i64 m, .int .i64 n, cl] w fun e w' => e = .returned (.tuple #[.agg #[.int .i64 0, .int .i64 0, .int .i64 0], .int .i64 4]) ∧ Below w.heap.size w w' := by
  have HM := Lib.hid hM
  clear hM
  have HS := Lib.hid hS
  clear hS
  have h1 : inb n 0 1073741824 = false := inb_not.2 hN
  clear hN
  go_enter Try.func20, Try.ntmps20
  go_wp2_with fail
  refine (check_yes c t a m _ HM.out HS.out).mono ?_
  rintro e w1 ⟨rfl, b1⟩
  obtain ⟨hc1, hf1⟩ := bcell b1
  have Q1 : Hid (Below w.heap.size w w1) := Lib.hid (below_after (by (repeat' (first | (with_reducible exact Below.refl _ _) | (with_reducible refine Below.alloc ?_ ?_ _) | (with_reducible refine Below.setCell ?_ ?_ _) | (with_reducible refine Below.drew ?_) | (with_reducible refine below_drewN ?_ _) | omega | (dsimp only; omega) | (simp; done) | (simp; omega)))) b1)
  have hz1 := b1.size
  try simp at hz1
  have hz1_0 : w.heap.size < w1.heap.size := by omega
  have hz1_1 : w.heap.size + 1 < w1.heap.size := by omega
  clear hz1 b1
  go_wp2_with fail
  refine (oct_any _ _).mono ?_
  rintro e w' ⟨rfl, rfl⟩
  go_wp2
  refine bodyPost_ret (v := .tuple #[.agg #[.int .i64 0, .int .i64 0, .int .i64 0], .int .i64 4]) (by simp [results, Try.results20, go_sem, *]) rfl ⟨rfl, ?_⟩
  (repeat' (first | (with_reducible exact Q1.out) | (with_reducible exact Below.refl _ _) | (with_reducible refine Below.alloc ?_ ?_ _) | (with_reducible refine Below.setCell ?_ ?_ _) | (with_reducible refine Below.drew ?_) | (with_reducible refine below_drewN ?_ _) | omega | (dsimp only; omega) | (simp; done) | (simp; omega)))

end Go.Proofs.Ytmjcckpppflpjaa
