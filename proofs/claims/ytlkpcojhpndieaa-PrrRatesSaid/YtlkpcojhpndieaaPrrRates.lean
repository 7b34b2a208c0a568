/- For every state and every numbers: what is remembered with a segment, and the rate and round that follow, are the page's. No condition. -/
import Derived.Test.YtlkpcojhpndieaaRows
import Derived.Test.YtlkpcojhpndieaaPrA
import Derived.Test.YtlkpcojhpndieaaPrF
import Derived.Test.YtlkpcojhpndieaaGAgg
import Derived.Deep.DeepCutAuto
import Derived.RegionTactic
import Derived.Deep.RegionHeld3
import Derived.ProofKit
import Derived.OpenShut
import Derived.ChangeOld
import Derived.SizedLaws
namespace Go.Proofs.Ytlkpcojhpndieaa.prrRates
open Go.ChangeShapes Go.WideShapes Go.ChangeAt Go.RowKit Go.Deep Go.Proofs.Ytlkpcojhpndieaa.Pr

set_option maxRecDepth 100000 in
set_option maxHeartbeats 8000000 in
theorem walk0 (s : Rt) (p : Se) (n v : Int) (b : Bool) (w : World) (_n_l : -9223372036854775808 ≤ n) (_n_h : n ≤ 9223372036854775807) (_v_l : -9223372036854775808 ≤ v) (_v_h : v ≤ 9223372036854775807) :
    Calls Try.prog 4 #[.agg #[.int .i64 s.d, .int .i64 s.a, .int .i64 s.i, .int .i64 s.r, .int .i64 s.k], .agg #[.int .i64 p.d, .int .i64 p.a, .int .i64 p.i, .int .i64 p.l], .int .i64 n, .int .i64 v, .bool b] w fun e w' => e = .returned (.bool true) ∧ Below w.heap.size w w' := by
  have q_0 := Below.refl w.heap.size w
  obtain ⟨E, hE⟩ : ∃ z, ndE s v = z := ⟨_, rfl⟩
  obtain ⟨x, hx⟩ : ∃ z, ndR s v b = z := ⟨_, rfl⟩
  obtain ⟨y, hy⟩ : ∃ z, ndS s v b = z := ⟨_, rfl⟩
  obtain ⟨F, hF⟩ : ∃ z, dvE s p n v = z := ⟨_, rfl⟩
  obtain ⟨u, hu⟩ : ∃ z, dvR s p n v = z := ⟨_, rfl⟩
  obtain ⟨K, hK⟩ : ∃ z, dvK s p n v = z := ⟨_, rfl⟩
  obtain ⟨B, hB⟩ : ∃ z, dvB s p n v = z := ⟨_, rfl⟩
  have HE := Lib.hid hE
  clear hE
  have Hx := Lib.hid hx
  clear hx
  have Hy := Lib.hid hy
  clear hy
  have HF := Lib.hid hF
  clear hF
  have Hu := Lib.hid hu
  clear hu
  have HK := Lib.hid hK
  clear hK
  have HB := Lib.hid hB
  clear hB
  go_enter Try.func4, Try.ntmps4
  go_wp2_with fail
  have b : Below w.heap.size w ((w.alloc (.cells #[.int .i64 s.d, .int .i64 s.a, .int .i64 s.i, .int .i64 s.r, .int .i64 s.k] 40)).alloc (.cells #[.int .i64 p.d, .int .i64 p.a, .int .i64 p.i, .int .i64 p.l] 42)) := (((Below.refl _ w).alloc (Nat.le_refl _) (.cells #[.int .i64 s.d, .int .i64 s.a, .int .i64 s.i, .int .i64 s.r, .int .i64 s.k] 40)).alloc (by simp only [World.size_alloc]; omega) (.cells #[.int .i64 p.d, .int .i64 p.a, .int .i64 p.i, .int .i64 p.l] 42))
  have nb0 := blk_new w (.cells #[.int .i64 s.d, .int .i64 s.a, .int .i64 s.i, .int .i64 s.r, .int .i64 s.k] 40)
  have nb0 := (Below.heap_alloc (w.alloc (.cells #[.int .i64 s.d, .int .i64 s.a, .int .i64 s.i, .int .i64 s.r, .int .i64 s.k] 40)) (.cells #[.int .i64 p.d, .int .i64 p.a, .int .i64 p.i, .int .i64 p.l] 42) (w.heap.size) (by simp only [World.size_alloc]; omega)).trans nb0
  have nz0 : w.heap.size < ((w.alloc (.cells #[.int .i64 s.d, .int .i64 s.a, .int .i64 s.i, .int .i64 s.r, .int .i64 s.k] 40)).alloc (.cells #[.int .i64 p.d, .int .i64 p.a, .int .i64 p.i, .int .i64 p.l] 42)).heap.size := by simp only [World.size_alloc]; omega
  have nb1 := blk_new (w.alloc (.cells #[.int .i64 s.d, .int .i64 s.a, .int .i64 s.i, .int .i64 s.r, .int .i64 s.k] 40)) (.cells #[.int .i64 p.d, .int .i64 p.a, .int .i64 p.i, .int .i64 p.l] 42)
  simp only [World.size_alloc] at nb1
  have nz1 : w.heap.size + 1 < ((w.alloc (.cells #[.int .i64 s.d, .int .i64 s.a, .int .i64 s.i, .int .i64 s.r, .int .i64 s.k] 40)).alloc (.cells #[.int .i64 p.d, .int .i64 p.a, .int .i64 p.i, .int .i64 p.l] 42)).heap.size := by simp only [World.size_alloc]; omega
  have q_1 := q_0.trans (b.mono q_0.size)
  clear q_0
  clear b
  have P_1 := Lib.hid nb0
  have Pz_1 := nz0
  clear nb0 nz0
  have Pc0_1 := blk_cell P_1.out 0
  have Pc1_1 := blk_cell P_1.out 1
  have Pc2_1 := blk_cell P_1.out 2
  have Pc3_1 := blk_cell P_1.out 3
  have Pc4_1 := blk_cell P_1.out 4
  have Q_1 := Lib.hid nb1
  have Qz_1 := nz1
  clear nb1 nz1
  have Qc0_1 := blk_cell Q_1.out 0
  have Qc1_1 := blk_cell Q_1.out 1
  have Qc2_1 := blk_cell Q_1.out 2
  have Qc3_1 := blk_cell Q_1.out 3
  generalize ((w.alloc (.cells #[.int .i64 s.d, .int .i64 s.a, .int .i64 s.i, .int .i64 s.r, .int .i64 s.k] 40)).alloc (.cells #[.int .i64 p.d, .int .i64 p.a, .int .i64 p.i, .int .i64 p.l] 42)) = V1 at q_1 P_1 Pz_1 Pc0_1 Pc1_1 Pc2_1 Pc3_1 Pc4_1 Q_1 Qz_1 Qc0_1 Qc1_1 Qc2_1 Qc3_1 ⊢
  refine (send_l s v b x y E HE.out Hx.out Hy.out _).mono ?_
  rintro e V2 ⟨rfl, b⟩
  have P_2 := Lib.hid ((b.block _ Pz_1).trans P_1.out)
  have Pz_2 := Nat.lt_of_lt_of_le Pz_1 b.size
  have Pc0_2 := blk_cell P_2.out 0
  have Pc1_2 := blk_cell P_2.out 1
  have Pc2_2 := blk_cell P_2.out 2
  have Pc3_2 := blk_cell P_2.out 3
  have Pc4_2 := blk_cell P_2.out 4
  have Q_2 := Lib.hid ((b.block _ Qz_1).trans Q_1.out)
  have Qz_2 := Nat.lt_of_lt_of_le Qz_1 b.size
  have Qc0_2 := blk_cell Q_2.out 0
  have Qc1_2 := blk_cell Q_2.out 1
  have Qc2_2 := blk_cell Q_2.out 2
  have Qc3_2 := blk_cell Q_2.out 3
  have q_2 := q_1.trans (b.mono q_1.size)
  clear P_1 Pz_1 Pc0_1 Pc1_1 Pc2_1 Pc3_1 Pc4_1 Q_1 Qz_1 Qc0_1 Qc1_1 Qc2_1 Qc3_1 q_1
  clear b
  go_wp2_with fail
  have b : Below V2.heap.size V2 ((V2.alloc (.cells #[.int .i64 x.d, .int .i64 x.a, .int .i64 x.i, .int .i64 x.r, .int .i64 x.k] 43)).alloc (.cells #[.int .i64 y.d, .int .i64 y.a, .int .i64 y.i, .int .i64 y.l] 44)) := (((Below.refl _ V2).alloc (Nat.le_refl _) (.cells #[.int .i64 x.d, .int .i64 x.a, .int .i64 x.i, .int .i64 x.r, .int .i64 x.k] 43)).alloc (by simp only [World.size_alloc]; omega) (.cells #[.int .i64 y.d, .int .i64 y.a, .int .i64 y.i, .int .i64 y.l] 44))
  have nb0 := blk_new V2 (.cells #[.int .i64 x.d, .int .i64 x.a, .int .i64 x.i, .int .i64 x.r, .int .i64 x.k] 43)
  have nb0 := (Below.heap_alloc (V2.alloc (.cells #[.int .i64 x.d, .int .i64 x.a, .int .i64 x.i, .int .i64 x.r, .int .i64 x.k] 43)) (.cells #[.int .i64 y.d, .int .i64 y.a, .int .i64 y.i, .int .i64 y.l] 44) (V2.heap.size) (by simp only [World.size_alloc]; omega)).trans nb0
  have nz0 : V2.heap.size < ((V2.alloc (.cells #[.int .i64 x.d, .int .i64 x.a, .int .i64 x.i, .int .i64 x.r, .int .i64 x.k] 43)).alloc (.cells #[.int .i64 y.d, .int .i64 y.a, .int .i64 y.i, .int .i64 y.l] 44)).heap.size := by simp only [World.size_alloc]; omega
  have nb1 := blk_new (V2.alloc (.cells #[.int .i64 x.d, .int .i64 x.a, .int .i64 x.i, .int .i64 x.r, .int .i64 x.k] 43)) (.cells #[.int .i64 y.d, .int .i64 y.a, .int .i64 y.i, .int .i64 y.l] 44)
  simp only [World.size_alloc] at nb1
  have nz1 : V2.heap.size + 1 < ((V2.alloc (.cells #[.int .i64 x.d, .int .i64 x.a, .int .i64 x.i, .int .i64 x.r, .int .i64 x.k] 43)).alloc (.cells #[.int .i64 y.d, .int .i64 y.a, .int .i64 y.i, .int .i64 y.l] 44)).heap.size := by simp only [World.size_alloc]; omega
  have P_3 := Lib.hid ((b.block _ Pz_2).trans P_2.out)
  have Pz_3 := Nat.lt_of_lt_of_le Pz_2 b.size
  have Pc0_3 := blk_cell P_3.out 0
  have Pc1_3 := blk_cell P_3.out 1
  have Pc2_3 := blk_cell P_3.out 2
  have Pc3_3 := blk_cell P_3.out 3
  have Pc4_3 := blk_cell P_3.out 4
  have Q_3 := Lib.hid ((b.block _ Qz_2).trans Q_2.out)
  have Qz_3 := Nat.lt_of_lt_of_le Qz_2 b.size
  have Qc0_3 := blk_cell Q_3.out 0
  have Qc1_3 := blk_cell Q_3.out 1
  have Qc2_3 := blk_cell Q_3.out 2
  have Qc3_3 := blk_cell Q_3.out 3
  have q_3 := q_2.trans (b.mono q_2.size)
  clear P_2 Pz_2 Pc0_2 Pc1_2 Pc2_2 Pc3_2 Pc4_2 Q_2 Qz_2 Qc0_2 Qc1_2 Qc2_2 Qc3_2 q_2
  clear b
  have A_3 := Lib.hid nb0
  have Az_3 := nz0
  clear nb0 nz0
  have Ac0_3 := blk_cell A_3.out 0
  have Ac1_3 := blk_cell A_3.out 1
  have Ac2_3 := blk_cell A_3.out 2
  have Ac3_3 := blk_cell A_3.out 3
  have Ac4_3 := blk_cell A_3.out 4
  have C_3 := Lib.hid nb1
  have Cz_3 := nz1
  clear nb1 nz1
  have Cc0_3 := blk_cell C_3.out 0
  have Cc1_3 := blk_cell C_3.out 1
  have Cc2_3 := blk_cell C_3.out 2
  have Cc3_3 := blk_cell C_3.out 3
  generalize ((V2.alloc (.cells #[.int .i64 x.d, .int .i64 x.a, .int .i64 x.i, .int .i64 x.r, .int .i64 x.k] 43)).alloc (.cells #[.int .i64 y.d, .int .i64 y.a, .int .i64 y.i, .int .i64 y.l] 44)) = V3 at q_3 P_3 Pz_3 Pc0_3 Pc1_3 Pc2_3 Pc3_3 Pc4_3 Q_3 Qz_3 Qc0_3 Qc1_3 Qc2_3 Qc3_3 A_3 Az_3 Ac0_3 Ac1_3 Ac2_3 Ac3_3 Ac4_3 C_3 Cz_3 Cc0_3 Cc1_3 Cc2_3 Cc3_3 ⊢
  refine (rsend_l s v b x y E HE.out Hx.out Hy.out _).mono ?_
  rintro e V4 ⟨rfl, b⟩
  have P_4 := Lib.hid ((b.block _ Pz_3).trans P_3.out)
  have Pz_4 := Nat.lt_of_lt_of_le Pz_3 b.size
  have Pc0_4 := blk_cell P_4.out 0
  have Pc1_4 := blk_cell P_4.out 1
  have Pc2_4 := blk_cell P_4.out 2
  have Pc3_4 := blk_cell P_4.out 3
  have Pc4_4 := blk_cell P_4.out 4
  have Q_4 := Lib.hid ((b.block _ Qz_3).trans Q_3.out)
  have Qz_4 := Nat.lt_of_lt_of_le Qz_3 b.size
  have Qc0_4 := blk_cell Q_4.out 0
  have Qc1_4 := blk_cell Q_4.out 1
  have Qc2_4 := blk_cell Q_4.out 2
  have Qc3_4 := blk_cell Q_4.out 3
  have A_4 := Lib.hid ((b.block _ Az_3).trans A_3.out)
  have Az_4 := Nat.lt_of_lt_of_le Az_3 b.size
  have Ac0_4 := blk_cell A_4.out 0
  have Ac1_4 := blk_cell A_4.out 1
  have Ac2_4 := blk_cell A_4.out 2
  have Ac3_4 := blk_cell A_4.out 3
  have Ac4_4 := blk_cell A_4.out 4
  have C_4 := Lib.hid ((b.block _ Cz_3).trans C_3.out)
  have Cz_4 := Nat.lt_of_lt_of_le Cz_3 b.size
  have Cc0_4 := blk_cell C_4.out 0
  have Cc1_4 := blk_cell C_4.out 1
  have Cc2_4 := blk_cell C_4.out 2
  have Cc3_4 := blk_cell C_4.out 3
  have q_4 := q_3.trans (b.mono q_3.size)
  clear P_3 Pz_3 Pc0_3 Pc1_3 Pc2_3 Pc3_3 Pc4_3 Q_3 Qz_3 Qc0_3 Qc1_3 Qc2_3 Qc3_3 A_3 Az_3 Ac0_3 Ac1_3 Ac2_3 Ac3_3 Ac4_3 C_3 Cz_3 Cc0_3 Cc1_3 Cc2_3 Cc3_3 q_3
  clear b
  go_wp2_with fail
  have b : Below V4.heap.size V4 ((V4.alloc (.cells #[.int .i64 x.d, .int .i64 x.a, .int .i64 x.i, .int .i64 x.r, .int .i64 x.k] 40)).alloc (.cells #[.int .i64 y.d, .int .i64 y.a, .int .i64 y.i, .int .i64 y.l] 42)) := (((Below.refl _ V4).alloc (Nat.le_refl _) (.cells #[.int .i64 x.d, .int .i64 x.a, .int .i64 x.i, .int .i64 x.r, .int .i64 x.k] 40)).alloc (by simp only [World.size_alloc]; omega) (.cells #[.int .i64 y.d, .int .i64 y.a, .int .i64 y.i, .int .i64 y.l] 42))
  have nb0 := blk_new V4 (.cells #[.int .i64 x.d, .int .i64 x.a, .int .i64 x.i, .int .i64 x.r, .int .i64 x.k] 40)
  have nb0 := (Below.heap_alloc (V4.alloc (.cells #[.int .i64 x.d, .int .i64 x.a, .int .i64 x.i, .int .i64 x.r, .int .i64 x.k] 40)) (.cells #[.int .i64 y.d, .int .i64 y.a, .int .i64 y.i, .int .i64 y.l] 42) (V4.heap.size) (by simp only [World.size_alloc]; omega)).trans nb0
  have nz0 : V4.heap.size < ((V4.alloc (.cells #[.int .i64 x.d, .int .i64 x.a, .int .i64 x.i, .int .i64 x.r, .int .i64 x.k] 40)).alloc (.cells #[.int .i64 y.d, .int .i64 y.a, .int .i64 y.i, .int .i64 y.l] 42)).heap.size := by simp only [World.size_alloc]; omega
  have nb1 := blk_new (V4.alloc (.cells #[.int .i64 x.d, .int .i64 x.a, .int .i64 x.i, .int .i64 x.r, .int .i64 x.k] 40)) (.cells #[.int .i64 y.d, .int .i64 y.a, .int .i64 y.i, .int .i64 y.l] 42)
  simp only [World.size_alloc] at nb1
  have nz1 : V4.heap.size + 1 < ((V4.alloc (.cells #[.int .i64 x.d, .int .i64 x.a, .int .i64 x.i, .int .i64 x.r, .int .i64 x.k] 40)).alloc (.cells #[.int .i64 y.d, .int .i64 y.a, .int .i64 y.i, .int .i64 y.l] 42)).heap.size := by simp only [World.size_alloc]; omega
  have P_5 := Lib.hid ((b.block _ Pz_4).trans P_4.out)
  have Pz_5 := Nat.lt_of_lt_of_le Pz_4 b.size
  have Pc0_5 := blk_cell P_5.out 0
  have Pc1_5 := blk_cell P_5.out 1
  have Pc2_5 := blk_cell P_5.out 2
  have Pc3_5 := blk_cell P_5.out 3
  have Pc4_5 := blk_cell P_5.out 4
  have Q_5 := Lib.hid ((b.block _ Qz_4).trans Q_4.out)
  have Qz_5 := Nat.lt_of_lt_of_le Qz_4 b.size
  have Qc0_5 := blk_cell Q_5.out 0
  have Qc1_5 := blk_cell Q_5.out 1
  have Qc2_5 := blk_cell Q_5.out 2
  have Qc3_5 := blk_cell Q_5.out 3
  have A_5 := Lib.hid ((b.block _ Az_4).trans A_4.out)
  have Az_5 := Nat.lt_of_lt_of_le Az_4 b.size
  have Ac0_5 := blk_cell A_5.out 0
  have Ac1_5 := blk_cell A_5.out 1
  have Ac2_5 := blk_cell A_5.out 2
  have Ac3_5 := blk_cell A_5.out 3
  have Ac4_5 := blk_cell A_5.out 4
  have C_5 := Lib.hid ((b.block _ Cz_4).trans C_4.out)
  have Cz_5 := Nat.lt_of_lt_of_le Cz_4 b.size
  have Cc0_5 := blk_cell C_5.out 0
  have Cc1_5 := blk_cell C_5.out 1
  have Cc2_5 := blk_cell C_5.out 2
  have Cc3_5 := blk_cell C_5.out 3
  have q_5 := q_4.trans (b.mono q_4.size)
  clear P_4 Pz_4 Pc0_4 Pc1_4 Pc2_4 Pc3_4 Pc4_4 Q_4 Qz_4 Qc0_4 Qc1_4 Qc2_4 Qc3_4 A_4 Az_4 Ac0_4 Ac1_4 Ac2_4 Ac3_4 Ac4_4 C_4 Cz_4 Cc0_4 Cc1_4 Cc2_4 Cc3_4 q_4
  clear b
  have D_5 := Lib.hid nb0
  have Dz_5 := nz0
  clear nb0 nz0
  have Dc0_5 := blk_cell D_5.out 0
  have Dc1_5 := blk_cell D_5.out 1
  have Dc2_5 := blk_cell D_5.out 2
  have Dc3_5 := blk_cell D_5.out 3
  have Dc4_5 := blk_cell D_5.out 4
  have G_5 := Lib.hid nb1
  have Gz_5 := nz1
  clear nb1 nz1
  have Gc0_5 := blk_cell G_5.out 0
  have Gc1_5 := blk_cell G_5.out 1
  have Gc2_5 := blk_cell G_5.out 2
  have Gc3_5 := blk_cell G_5.out 3
  generalize ((V4.alloc (.cells #[.int .i64 x.d, .int .i64 x.a, .int .i64 x.i, .int .i64 x.r, .int .i64 x.k] 40)).alloc (.cells #[.int .i64 y.d, .int .i64 y.a, .int .i64 y.i, .int .i64 y.l] 42)) = V5 at q_5 P_5 Pz_5 Pc0_5 Pc1_5 Pc2_5 Pc3_5 Pc4_5 Q_5 Qz_5 Qc0_5 Qc1_5 Qc2_5 Qc3_5 A_5 Az_5 Ac0_5 Ac1_5 Ac2_5 Ac3_5 Ac4_5 C_5 Cz_5 Cc0_5 Cc1_5 Cc2_5 Cc3_5 D_5 Dz_5 Dc0_5 Dc1_5 Dc2_5 Dc3_5 Dc4_5 G_5 Gz_5 Gc0_5 Gc1_5 Gc2_5 Gc3_5 ⊢
  refine (deliver_l s p n v u K B F HF.out Hu.out HK.out HB.out _).mono ?_
  rintro e V6 ⟨rfl, b⟩
  have P_6 := Lib.hid ((b.block _ Pz_5).trans P_5.out)
  have Pz_6 := Nat.lt_of_lt_of_le Pz_5 b.size
  have Pc0_6 := blk_cell P_6.out 0
  have Pc1_6 := blk_cell P_6.out 1
  have Pc2_6 := blk_cell P_6.out 2
  have Pc3_6 := blk_cell P_6.out 3
  have Pc4_6 := blk_cell P_6.out 4
  have Q_6 := Lib.hid ((b.block _ Qz_5).trans Q_5.out)
  have Qz_6 := Nat.lt_of_lt_of_le Qz_5 b.size
  have Qc0_6 := blk_cell Q_6.out 0
  have Qc1_6 := blk_cell Q_6.out 1
  have Qc2_6 := blk_cell Q_6.out 2
  have Qc3_6 := blk_cell Q_6.out 3
  have A_6 := Lib.hid ((b.block _ Az_5).trans A_5.out)
  have Az_6 := Nat.lt_of_lt_of_le Az_5 b.size
  have Ac0_6 := blk_cell A_6.out 0
  have Ac1_6 := blk_cell A_6.out 1
  have Ac2_6 := blk_cell A_6.out 2
  have Ac3_6 := blk_cell A_6.out 3
  have Ac4_6 := blk_cell A_6.out 4
  have C_6 := Lib.hid ((b.block _ Cz_5).trans C_5.out)
  have Cz_6 := Nat.lt_of_lt_of_le Cz_5 b.size
  have Cc0_6 := blk_cell C_6.out 0
  have Cc1_6 := blk_cell C_6.out 1
  have Cc2_6 := blk_cell C_6.out 2
  have Cc3_6 := blk_cell C_6.out 3
  have D_6 := Lib.hid ((b.block _ Dz_5).trans D_5.out)
  have Dz_6 := Nat.lt_of_lt_of_le Dz_5 b.size
  have Dc0_6 := blk_cell D_6.out 0
  have Dc1_6 := blk_cell D_6.out 1
  have Dc2_6 := blk_cell D_6.out 2
  have Dc3_6 := blk_cell D_6.out 3
  have Dc4_6 := blk_cell D_6.out 4
  have G_6 := Lib.hid ((b.block _ Gz_5).trans G_5.out)
  have Gz_6 := Nat.lt_of_lt_of_le Gz_5 b.size
  have Gc0_6 := blk_cell G_6.out 0
  have Gc1_6 := blk_cell G_6.out 1
  have Gc2_6 := blk_cell G_6.out 2
  have Gc3_6 := blk_cell G_6.out 3
  have q_6 := q_5.trans (b.mono q_5.size)
  clear P_5 Pz_5 Pc0_5 Pc1_5 Pc2_5 Pc3_5 Pc4_5 Q_5 Qz_5 Qc0_5 Qc1_5 Qc2_5 Qc3_5 A_5 Az_5 Ac0_5 Ac1_5 Ac2_5 Ac3_5 Ac4_5 C_5 Cz_5 Cc0_5 Cc1_5 Cc2_5 Cc3_5 D_5 Dz_5 Dc0_5 Dc1_5 Dc2_5 Dc3_5 Dc4_5 G_5 Gz_5 Gc0_5 Gc1_5 Gc2_5 Gc3_5 q_5
  clear b
  go_wp2_with fail
  have b : Below V6.heap.size V6 (V6.alloc (.cells #[.int .i64 u.d, .int .i64 u.a, .int .i64 u.i, .int .i64 u.r, .int .i64 u.k] 43)) := ((Below.refl _ V6).alloc (Nat.le_refl _) (.cells #[.int .i64 u.d, .int .i64 u.a, .int .i64 u.i, .int .i64 u.r, .int .i64 u.k] 43))
  have nb0 := blk_new V6 (.cells #[.int .i64 u.d, .int .i64 u.a, .int .i64 u.i, .int .i64 u.r, .int .i64 u.k] 43)
  have nz0 : V6.heap.size < (V6.alloc (.cells #[.int .i64 u.d, .int .i64 u.a, .int .i64 u.i, .int .i64 u.r, .int .i64 u.k] 43)).heap.size := by simp only [World.size_alloc]; omega
  have P_7 := Lib.hid ((b.block _ Pz_6).trans P_6.out)
  have Pz_7 := Nat.lt_of_lt_of_le Pz_6 b.size
  have Pc0_7 := blk_cell P_7.out 0
  have Pc1_7 := blk_cell P_7.out 1
  have Pc2_7 := blk_cell P_7.out 2
  have Pc3_7 := blk_cell P_7.out 3
  have Pc4_7 := blk_cell P_7.out 4
  have Q_7 := Lib.hid ((b.block _ Qz_6).trans Q_6.out)
  have Qz_7 := Nat.lt_of_lt_of_le Qz_6 b.size
  have Qc0_7 := blk_cell Q_7.out 0
  have Qc1_7 := blk_cell Q_7.out 1
  have Qc2_7 := blk_cell Q_7.out 2
  have Qc3_7 := blk_cell Q_7.out 3
  have A_7 := Lib.hid ((b.block _ Az_6).trans A_6.out)
  have Az_7 := Nat.lt_of_lt_of_le Az_6 b.size
  have Ac0_7 := blk_cell A_7.out 0
  have Ac1_7 := blk_cell A_7.out 1
  have Ac2_7 := blk_cell A_7.out 2
  have Ac3_7 := blk_cell A_7.out 3
  have Ac4_7 := blk_cell A_7.out 4
  have C_7 := Lib.hid ((b.block _ Cz_6).trans C_6.out)
  have Cz_7 := Nat.lt_of_lt_of_le Cz_6 b.size
  have Cc0_7 := blk_cell C_7.out 0
  have Cc1_7 := blk_cell C_7.out 1
  have Cc2_7 := blk_cell C_7.out 2
  have Cc3_7 := blk_cell C_7.out 3
  have D_7 := Lib.hid ((b.block _ Dz_6).trans D_6.out)
  have Dz_7 := Nat.lt_of_lt_of_le Dz_6 b.size
  have Dc0_7 := blk_cell D_7.out 0
  have Dc1_7 := blk_cell D_7.out 1
  have Dc2_7 := blk_cell D_7.out 2
  have Dc3_7 := blk_cell D_7.out 3
  have Dc4_7 := blk_cell D_7.out 4
  have G_7 := Lib.hid ((b.block _ Gz_6).trans G_6.out)
  have Gz_7 := Nat.lt_of_lt_of_le Gz_6 b.size
  have Gc0_7 := blk_cell G_7.out 0
  have Gc1_7 := blk_cell G_7.out 1
  have Gc2_7 := blk_cell G_7.out 2
  have Gc3_7 := blk_cell G_7.out 3
  have q_7 := q_6.trans (b.mono q_6.size)
  clear P_6 Pz_6 Pc0_6 Pc1_6 Pc2_6 Pc3_6 Pc4_6 Q_6 Qz_6 Qc0_6 Qc1_6 Qc2_6 Qc3_6 A_6 Az_6 Ac0_6 Ac1_6 Ac2_6 Ac3_6 Ac4_6 C_6 Cz_6 Cc0_6 Cc1_6 Cc2_6 Cc3_6 D_6 Dz_6 Dc0_6 Dc1_6 Dc2_6 Dc3_6 Dc4_6 G_6 Gz_6 Gc0_6 Gc1_6 Gc2_6 Gc3_6 q_6
  clear b
  have X_7 := Lib.hid nb0
  have Xz_7 := nz0
  clear nb0 nz0
  have Xc0_7 := blk_cell X_7.out 0
  have Xc1_7 := blk_cell X_7.out 1
  have Xc2_7 := blk_cell X_7.out 2
  have Xc3_7 := blk_cell X_7.out 3
  have Xc4_7 := blk_cell X_7.out 4
  generalize (V6.alloc (.cells #[.int .i64 u.d, .int .i64 u.a, .int .i64 u.i, .int .i64 u.r, .int .i64 u.k] 43)) = V7 at q_7 P_7 Pz_7 Pc0_7 Pc1_7 Pc2_7 Pc3_7 Pc4_7 Q_7 Qz_7 Qc0_7 Qc1_7 Qc2_7 Qc3_7 A_7 Az_7 Ac0_7 Ac1_7 Ac2_7 Ac3_7 Ac4_7 C_7 Cz_7 Cc0_7 Cc1_7 Cc2_7 Cc3_7 D_7 Dz_7 Dc0_7 Dc1_7 Dc2_7 Dc3_7 Dc4_7 G_7 Gz_7 Gc0_7 Gc1_7 Gc2_7 Gc3_7 X_7 Xz_7 Xc0_7 Xc1_7 Xc2_7 Xc3_7 Xc4_7 ⊢
  refine (rdeliver_l s p n v u K B F HF.out Hu.out HK.out HB.out _).mono ?_
  rintro e V8 ⟨rfl, b⟩
  have P_8 := Lib.hid ((b.block _ Pz_7).trans P_7.out)
  have Pz_8 := Nat.lt_of_lt_of_le Pz_7 b.size
  have Pc0_8 := blk_cell P_8.out 0
  have Pc1_8 := blk_cell P_8.out 1
  have Pc2_8 := blk_cell P_8.out 2
  have Pc3_8 := blk_cell P_8.out 3
  have Pc4_8 := blk_cell P_8.out 4
  have Q_8 := Lib.hid ((b.block _ Qz_7).trans Q_7.out)
  have Qz_8 := Nat.lt_of_lt_of_le Qz_7 b.size
  have Qc0_8 := blk_cell Q_8.out 0
  have Qc1_8 := blk_cell Q_8.out 1
  have Qc2_8 := blk_cell Q_8.out 2
  have Qc3_8 := blk_cell Q_8.out 3
  have A_8 := Lib.hid ((b.block _ Az_7).trans A_7.out)
  have Az_8 := Nat.lt_of_lt_of_le Az_7 b.size
  have Ac0_8 := blk_cell A_8.out 0
  have Ac1_8 := blk_cell A_8.out 1
  have Ac2_8 := blk_cell A_8.out 2
  have Ac3_8 := blk_cell A_8.out 3
  have Ac4_8 := blk_cell A_8.out 4
  have C_8 := Lib.hid ((b.block _ Cz_7).trans C_7.out)
  have Cz_8 := Nat.lt_of_lt_of_le Cz_7 b.size
  have Cc0_8 := blk_cell C_8.out 0
  have Cc1_8 := blk_cell C_8.out 1
  have Cc2_8 := blk_cell C_8.out 2
  have Cc3_8 := blk_cell C_8.out 3
  have D_8 := Lib.hid ((b.block _ Dz_7).trans D_7.out)
  have Dz_8 := Nat.lt_of_lt_of_le Dz_7 b.size
  have Dc0_8 := blk_cell D_8.out 0
  have Dc1_8 := blk_cell D_8.out 1
  have Dc2_8 := blk_cell D_8.out 2
  have Dc3_8 := blk_cell D_8.out 3
  have Dc4_8 := blk_cell D_8.out 4
  have G_8 := Lib.hid ((b.block _ Gz_7).trans G_7.out)
  have Gz_8 := Nat.lt_of_lt_of_le Gz_7 b.size
  have Gc0_8 := blk_cell G_8.out 0
  have Gc1_8 := blk_cell G_8.out 1
  have Gc2_8 := blk_cell G_8.out 2
  have Gc3_8 := blk_cell G_8.out 3
  have X_8 := Lib.hid ((b.block _ Xz_7).trans X_7.out)
  have Xz_8 := Nat.lt_of_lt_of_le Xz_7 b.size
  have Xc0_8 := blk_cell X_8.out 0
  have Xc1_8 := blk_cell X_8.out 1
  have Xc2_8 := blk_cell X_8.out 2
  have Xc3_8 := blk_cell X_8.out 3
  have Xc4_8 := blk_cell X_8.out 4
  have q_8 := q_7.trans (b.mono q_7.size)
  clear P_7 Pz_7 Pc0_7 Pc1_7 Pc2_7 Pc3_7 Pc4_7 Q_7 Qz_7 Qc0_7 Qc1_7 Qc2_7 Qc3_7 A_7 Az_7 Ac0_7 Ac1_7 Ac2_7 Ac3_7 Ac4_7 C_7 Cz_7 Cc0_7 Cc1_7 Cc2_7 Cc3_7 D_7 Dz_7 Dc0_7 Dc1_7 Dc2_7 Dc3_7 Dc4_7 G_7 Gz_7 Gc0_7 Gc1_7 Gc2_7 Gc3_7 X_7 Xz_7 Xc0_7 Xc1_7 Xc2_7 Xc3_7 Xc4_7 q_7
  clear b
  go_wp2_with fail
  have b : Below V8.heap.size V8 (V8.alloc (.cells #[.int .i64 u.d, .int .i64 u.a, .int .i64 u.i, .int .i64 u.r, .int .i64 u.k] 40)) := ((Below.refl _ V8).alloc (Nat.le_refl _) (.cells #[.int .i64 u.d, .int .i64 u.a, .int .i64 u.i, .int .i64 u.r, .int .i64 u.k] 40))
  have nb0 := blk_new V8 (.cells #[.int .i64 u.d, .int .i64 u.a, .int .i64 u.i, .int .i64 u.r, .int .i64 u.k] 40)
  have nz0 : V8.heap.size < (V8.alloc (.cells #[.int .i64 u.d, .int .i64 u.a, .int .i64 u.i, .int .i64 u.r, .int .i64 u.k] 40)).heap.size := by simp only [World.size_alloc]; omega
  have P_9 := Lib.hid ((b.block _ Pz_8).trans P_8.out)
  have Pz_9 := Nat.lt_of_lt_of_le Pz_8 b.size
  have Pc0_9 := blk_cell P_9.out 0
  have Pc1_9 := blk_cell P_9.out 1
  have Pc2_9 := blk_cell P_9.out 2
  have Pc3_9 := blk_cell P_9.out 3
  have Pc4_9 := blk_cell P_9.out 4
  have Q_9 := Lib.hid ((b.block _ Qz_8).trans Q_8.out)
  have Qz_9 := Nat.lt_of_lt_of_le Qz_8 b.size
  have Qc0_9 := blk_cell Q_9.out 0
  have Qc1_9 := blk_cell Q_9.out 1
  have Qc2_9 := blk_cell Q_9.out 2
  have Qc3_9 := blk_cell Q_9.out 3
  have A_9 := Lib.hid ((b.block _ Az_8).trans A_8.out)
  have Az_9 := Nat.lt_of_lt_of_le Az_8 b.size
  have Ac0_9 := blk_cell A_9.out 0
  have Ac1_9 := blk_cell A_9.out 1
  have Ac2_9 := blk_cell A_9.out 2
  have Ac3_9 := blk_cell A_9.out 3
  have Ac4_9 := blk_cell A_9.out 4
  have C_9 := Lib.hid ((b.block _ Cz_8).trans C_8.out)
  have Cz_9 := Nat.lt_of_lt_of_le Cz_8 b.size
  have Cc0_9 := blk_cell C_9.out 0
  have Cc1_9 := blk_cell C_9.out 1
  have Cc2_9 := blk_cell C_9.out 2
  have Cc3_9 := blk_cell C_9.out 3
  have D_9 := Lib.hid ((b.block _ Dz_8).trans D_8.out)
  have Dz_9 := Nat.lt_of_lt_of_le Dz_8 b.size
  have Dc0_9 := blk_cell D_9.out 0
  have Dc1_9 := blk_cell D_9.out 1
  have Dc2_9 := blk_cell D_9.out 2
  have Dc3_9 := blk_cell D_9.out 3
  have Dc4_9 := blk_cell D_9.out 4
  have G_9 := Lib.hid ((b.block _ Gz_8).trans G_8.out)
  have Gz_9 := Nat.lt_of_lt_of_le Gz_8 b.size
  have Gc0_9 := blk_cell G_9.out 0
  have Gc1_9 := blk_cell G_9.out 1
  have Gc2_9 := blk_cell G_9.out 2
  have Gc3_9 := blk_cell G_9.out 3
  have X_9 := Lib.hid ((b.block _ Xz_8).trans X_8.out)
  have Xz_9 := Nat.lt_of_lt_of_le Xz_8 b.size
  have Xc0_9 := blk_cell X_9.out 0
  have Xc1_9 := blk_cell X_9.out 1
  have Xc2_9 := blk_cell X_9.out 2
  have Xc3_9 := blk_cell X_9.out 3
  have Xc4_9 := blk_cell X_9.out 4
  have q_9 := q_8.trans (b.mono q_8.size)
  clear P_8 Pz_8 Pc0_8 Pc1_8 Pc2_8 Pc3_8 Pc4_8 Q_8 Qz_8 Qc0_8 Qc1_8 Qc2_8 Qc3_8 A_8 Az_8 Ac0_8 Ac1_8 Ac2_8 Ac3_8 Ac4_8 C_8 Cz_8 Cc0_8 Cc1_8 Cc2_8 Cc3_8 D_8 Dz_8 Dc0_8 Dc1_8 Dc2_8 Dc3_8 Dc4_8 G_8 Gz_8 Gc0_8 Gc1_8 Gc2_8 Gc3_8 X_8 Xz_8 Xc0_8 Xc1_8 Xc2_8 Xc3_8 Xc4_8 q_8
  clear b
  have Y_9 := Lib.hid nb0
  have Yz_9 := nz0
  clear nb0 nz0
  have Yc0_9 := blk_cell Y_9.out 0
  have Yc1_9 := blk_cell Y_9.out 1
  have Yc2_9 := blk_cell Y_9.out 2
  have Yc3_9 := blk_cell Y_9.out 3
  have Yc4_9 := blk_cell Y_9.out 4
  generalize (V8.alloc (.cells #[.int .i64 u.d, .int .i64 u.a, .int .i64 u.i, .int .i64 u.r, .int .i64 u.k] 40)) = V9 at q_9 P_9 Pz_9 Pc0_9 Pc1_9 Pc2_9 Pc3_9 Pc4_9 Q_9 Qz_9 Qc0_9 Qc1_9 Qc2_9 Qc3_9 A_9 Az_9 Ac0_9 Ac1_9 Ac2_9 Ac3_9 Ac4_9 C_9 Cz_9 Cc0_9 Cc1_9 Cc2_9 Cc3_9 D_9 Dz_9 Dc0_9 Dc1_9 Dc2_9 Dc3_9 Dc4_9 G_9 Gz_9 Gc0_9 Gc1_9 Gc2_9 Gc3_9 X_9 Xz_9 Xc0_9 Xc1_9 Xc2_9 Xc3_9 Xc4_9 Y_9 Yz_9 Yc0_9 Yc1_9 Yc2_9 Yc3_9 Yc4_9 ⊢
  refine (num_any _ _).mono ?_
  rintro e w' ⟨rfl, rfl⟩
  go_wp2_with fail
  refine (num_any _ _).mono ?_
  rintro e w' ⟨rfl, rfl⟩
  go_wp2_with fail
  refine (alive_any _).mono ?_
  rintro e V10 ⟨rfl, b⟩
  have P_10 := Lib.hid ((b.block _ Pz_9).trans P_9.out)
  have Pz_10 := Nat.lt_of_lt_of_le Pz_9 b.size
  have Pc0_10 := blk_cell P_10.out 0
  have Pc1_10 := blk_cell P_10.out 1
  have Pc2_10 := blk_cell P_10.out 2
  have Pc3_10 := blk_cell P_10.out 3
  have Pc4_10 := blk_cell P_10.out 4
  have Q_10 := Lib.hid ((b.block _ Qz_9).trans Q_9.out)
  have Qz_10 := Nat.lt_of_lt_of_le Qz_9 b.size
  have Qc0_10 := blk_cell Q_10.out 0
  have Qc1_10 := blk_cell Q_10.out 1
  have Qc2_10 := blk_cell Q_10.out 2
  have Qc3_10 := blk_cell Q_10.out 3
  have A_10 := Lib.hid ((b.block _ Az_9).trans A_9.out)
  have Az_10 := Nat.lt_of_lt_of_le Az_9 b.size
  have Ac0_10 := blk_cell A_10.out 0
  have Ac1_10 := blk_cell A_10.out 1
  have Ac2_10 := blk_cell A_10.out 2
  have Ac3_10 := blk_cell A_10.out 3
  have Ac4_10 := blk_cell A_10.out 4
  have C_10 := Lib.hid ((b.block _ Cz_9).trans C_9.out)
  have Cz_10 := Nat.lt_of_lt_of_le Cz_9 b.size
  have Cc0_10 := blk_cell C_10.out 0
  have Cc1_10 := blk_cell C_10.out 1
  have Cc2_10 := blk_cell C_10.out 2
  have Cc3_10 := blk_cell C_10.out 3
  have D_10 := Lib.hid ((b.block _ Dz_9).trans D_9.out)
  have Dz_10 := Nat.lt_of_lt_of_le Dz_9 b.size
  have Dc0_10 := blk_cell D_10.out 0
  have Dc1_10 := blk_cell D_10.out 1
  have Dc2_10 := blk_cell D_10.out 2
  have Dc3_10 := blk_cell D_10.out 3
  have Dc4_10 := blk_cell D_10.out 4
  have G_10 := Lib.hid ((b.block _ Gz_9).trans G_9.out)
  have Gz_10 := Nat.lt_of_lt_of_le Gz_9 b.size
  have Gc0_10 := blk_cell G_10.out 0
  have Gc1_10 := blk_cell G_10.out 1
  have Gc2_10 := blk_cell G_10.out 2
  have Gc3_10 := blk_cell G_10.out 3
  have X_10 := Lib.hid ((b.block _ Xz_9).trans X_9.out)
  have Xz_10 := Nat.lt_of_lt_of_le Xz_9 b.size
  have Xc0_10 := blk_cell X_10.out 0
  have Xc1_10 := blk_cell X_10.out 1
  have Xc2_10 := blk_cell X_10.out 2
  have Xc3_10 := blk_cell X_10.out 3
  have Xc4_10 := blk_cell X_10.out 4
  have Y_10 := Lib.hid ((b.block _ Yz_9).trans Y_9.out)
  have Yz_10 := Nat.lt_of_lt_of_le Yz_9 b.size
  have Yc0_10 := blk_cell Y_10.out 0
  have Yc1_10 := blk_cell Y_10.out 1
  have Yc2_10 := blk_cell Y_10.out 2
  have Yc3_10 := blk_cell Y_10.out 3
  have Yc4_10 := blk_cell Y_10.out 4
  have q_10 := q_9.trans (b.mono q_9.size)
  clear P_9 Pz_9 Pc0_9 Pc1_9 Pc2_9 Pc3_9 Pc4_9 Q_9 Qz_9 Qc0_9 Qc1_9 Qc2_9 Qc3_9 A_9 Az_9 Ac0_9 Ac1_9 Ac2_9 Ac3_9 Ac4_9 C_9 Cz_9 Cc0_9 Cc1_9 Cc2_9 Cc3_9 D_9 Dz_9 Dc0_9 Dc1_9 Dc2_9 Dc3_9 Dc4_9 G_9 Gz_9 Gc0_9 Gc1_9 Gc2_9 Gc3_9 X_9 Xz_9 Xc0_9 Xc1_9 Xc2_9 Xc3_9 Xc4_9 Y_9 Yz_9 Yc0_9 Yc1_9 Yc2_9 Yc3_9 Yc4_9 q_9
  clear b
  go_wp2
  go_ret
  exact ⟨rfl, q_10⟩

theorem walk (d a i r k pd pa pi pl n v : Int) (b : Bool) (w : World) (_d_l : -9223372036854775808 ≤ d) (_d_h : d ≤ 9223372036854775807) (_a_l : -9223372036854775808 ≤ a) (_a_h : a ≤ 9223372036854775807) (_i_l : -9223372036854775808 ≤ i) (_i_h : i ≤ 9223372036854775807) (_r_l : -9223372036854775808 ≤ r) (_r_h : r ≤ 9223372036854775807) (_k_l : -9223372036854775808 ≤ k) (_k_h : k ≤ 9223372036854775807) (_pd_l : -9223372036854775808 ≤ pd) (_pd_h : pd ≤ 9223372036854775807) (_pa_l : -9223372036854775808 ≤ pa) (_pa_h : pa ≤ 9223372036854775807) (_pi_l : -9223372036854775808 ≤ pi) (_pi_h : pi ≤ 9223372036854775807) (_pl_l : -9223372036854775808 ≤ pl) (_pl_h : pl ≤ 9223372036854775807) (_n_l : -9223372036854775808 ≤ n) (_n_h : n ≤ 9223372036854775807) (_v_l : -9223372036854775808 ≤ v) (_v_h : v ≤ 9223372036854775807) :
    Calls Try.prog 4 #[.agg #[.int .i64 d, .int .i64 a, .int .i64 i, .int .i64 r, .int .i64 k], .agg #[.int .i64 pd, .int .i64 pa, .int .i64 pi, .int .i64 pl], .int .i64 n, .int .i64 v, .bool b] w fun e w' => e = .returned (.bool true) ∧ Below w.heap.size w w' :=
  walk0 ⟨d, a, i, r, k⟩ ⟨pd, pa, pi, pl⟩ n v b w _n_l _n_h _v_l _v_h

theorem of_len4 {α : Type} (l : List α) (h : l.length = 4) : ∃ x0 x1 x2 x3, l = [x0, x1, x2, x3] := by
  match l, h with
  | [x0, x1, x2, x3], _ => exact ⟨x0, x1, x2, x3, rfl⟩
theorem of_len5 {α : Type} (l : List α) (h : l.length = 5) : ∃ x0 x1 x2 x3 x4, l = [x0, x1, x2, x3, x4] := by
  match l, h with
  | [x0, x1, x2, x3, x4], _ => exact ⟨x0, x1, x2, x3, x4, rfl⟩
theorem own : ownKnob Try.prog.godebug = none := by kernel_rfl
theorem laidOut : laidOutB Try.prog = true := by kernel_rfl

set_option maxRecDepth 100000 in
set_option maxHeartbeats 2000000 in
theorem lifted (os : Os) (started : os.Started) (H : Type) (enc : TypeId × Value → H) :
    ReturnsInHanded {} Try.checked os 4 .any (Rows.prrRatesSpec.pre6 enc Try.prog Try.f4 Rows.prrRatesRow.domain false) (Rows.prrRatesSpec.post enc Try.prog Try.f4 false true false false) := by
  refine returnsInHanded_of_change_sized (C := Try.checked) own started (by kernel_rfl) Try.func4
    (ChangeSpec.witness6 (enc := enc) (C := Try.checked) false ⟨#[], #[.agg #[.int .i64 0, .int .i64 0, .int .i64 0, .int .i64 0, .int .i64 0], .agg #[.int .i64 0, .int .i64 0, .int .i64 0, .int .i64 0], .int .i64 0, .int .i64 0, .bool false], []⟩ 8 (by kernel_rfl) (by kernel_rfl) (by kernel_rfl) (by kernel_rfl)) ?_
  intro W base args ds gs before hval0 hW hcnd hsz0 _
  have hval : ∀ (j : Nat) t v, Try.f4.params[j]? = some t → args[j]? = some v → Value.okWide Try.prog W .any base t v := hval0
  have hW' := hW
  obtain ⟨p, q, hA0, hV, rfl, hfz, hnd⟩ := hW
  have hA : DataW.TrodAll enc Try.prog W 0 (fun _ => true) true Try.f4.params.toList args.toList ds p := hA0
  rw [Try.params4] at hA hval
  obtain ⟨v0, vs0, d0, ds0, p0, q0, hargs, rfl, rfl, h0, r0⟩ := trodAll_cons hA
  obtain ⟨v1, vs1, d1, ds1, p1, q1, rfl, rfl, rfl, h1, r1⟩ := trodAll_cons r0
  obtain ⟨v2, vs2, d2, ds2, p2, q2, rfl, rfl, rfl, h2, r2⟩ := trodAll_cons r1
  obtain ⟨v3, vs3, d3, ds3, p3, q3, rfl, rfl, rfl, h3, r3⟩ := trodAll_cons r2
  obtain ⟨v4, vs4, d4, ds4, p4, q4, rfl, rfl, rfl, h4, r4⟩ := trodAll_cons r3
  obtain ⟨rfl, rfl, rfl⟩ := trodAll_nil r4
  obtain rfl : args = #[v0, v1, v2, v3, v4] := by cases args; simp_all
  obtain ⟨rfl, rfl⟩ := trodVars_none hV
  have k0 := h0
  have lt0 : ∀ x ∈ p0, x.block < W.heap.size := by obtain ⟨m, hm⟩ := k0; exact DataW.trod_lt m _ _ _ hm
  obtain ⟨vs0', ys0', m0, rfl, lv0, ly0, hd0, F0⟩ := open_agg Try.underlying40 (by kernel_rfl) (by kernel_rfl) (hval 0 40 v0 rfl rfl) h0
  obtain ⟨c0_0, c0_1, c0_2, c0_3, c0_4, rfl⟩ := of_len5 _ lv0
  obtain ⟨y0_0, y0_1, y0_2, y0_3, y0_4, rfl⟩ := of_len5 _ ly0
  simp only [List.map_cons, List.map_nil] at hd0
  obtain ⟨_, _, e, g, t0_0⟩ := F0 0 _ rfl
  obtain rfl := Option.some.inj e; obtain rfl := Option.some.inj g; clear e g
  obtain ⟨z0_0, e, _, w0_0⟩ := DataW.trod_int Try.underlying3 t0_0
  obtain rfl := (List.cons.inj e).1; clear e
  obtain ⟨lo0_0, hi0_0⟩ := bounds_i64 w0_0
  obtain ⟨_, _, e, g, t0_1⟩ := F0 1 _ rfl
  obtain rfl := Option.some.inj e; obtain rfl := Option.some.inj g; clear e g
  obtain ⟨z0_1, e, _, w0_1⟩ := DataW.trod_int Try.underlying3 t0_1
  obtain rfl := (List.cons.inj e).1; clear e
  obtain ⟨lo0_1, hi0_1⟩ := bounds_i64 w0_1
  obtain ⟨_, _, e, g, t0_2⟩ := F0 2 _ rfl
  obtain rfl := Option.some.inj e; obtain rfl := Option.some.inj g; clear e g
  obtain ⟨z0_2, e, _, w0_2⟩ := DataW.trod_int Try.underlying3 t0_2
  obtain rfl := (List.cons.inj e).1; clear e
  obtain ⟨lo0_2, hi0_2⟩ := bounds_i64 w0_2
  obtain ⟨_, _, e, g, t0_3⟩ := F0 3 _ rfl
  obtain rfl := Option.some.inj e; obtain rfl := Option.some.inj g; clear e g
  obtain ⟨z0_3, e, _, w0_3⟩ := DataW.trod_int Try.underlying3 t0_3
  obtain rfl := (List.cons.inj e).1; clear e
  obtain ⟨lo0_3, hi0_3⟩ := bounds_i64 w0_3
  obtain ⟨_, _, e, g, t0_4⟩ := F0 4 _ rfl
  obtain rfl := Option.some.inj e; obtain rfl := Option.some.inj g; clear e g
  obtain ⟨z0_4, e, _, w0_4⟩ := DataW.trod_int Try.underlying3 t0_4
  obtain rfl := (List.cons.inj e).1; clear e
  obtain ⟨lo0_4, hi0_4⟩ := bounds_i64 w0_4
  have k1 := h1
  have lt1 : ∀ x ∈ p1, x.block < W.heap.size := by obtain ⟨m, hm⟩ := k1; exact DataW.trod_lt m _ _ _ hm
  obtain ⟨vs1', ys1', m1, rfl, lv1, ly1, hd1, F1⟩ := open_agg Try.underlying42 (by kernel_rfl) (by kernel_rfl) (hval 1 42 v1 rfl rfl) h1
  obtain ⟨c1_0, c1_1, c1_2, c1_3, rfl⟩ := of_len4 _ lv1
  obtain ⟨y1_0, y1_1, y1_2, y1_3, rfl⟩ := of_len4 _ ly1
  simp only [List.map_cons, List.map_nil] at hd1
  obtain ⟨_, _, e, g, t1_0⟩ := F1 0 _ rfl
  obtain rfl := Option.some.inj e; obtain rfl := Option.some.inj g; clear e g
  obtain ⟨z1_0, e, _, w1_0⟩ := DataW.trod_int Try.underlying3 t1_0
  obtain rfl := (List.cons.inj e).1; clear e
  obtain ⟨lo1_0, hi1_0⟩ := bounds_i64 w1_0
  obtain ⟨_, _, e, g, t1_1⟩ := F1 1 _ rfl
  obtain rfl := Option.some.inj e; obtain rfl := Option.some.inj g; clear e g
  obtain ⟨z1_1, e, _, w1_1⟩ := DataW.trod_int Try.underlying3 t1_1
  obtain rfl := (List.cons.inj e).1; clear e
  obtain ⟨lo1_1, hi1_1⟩ := bounds_i64 w1_1
  obtain ⟨_, _, e, g, t1_2⟩ := F1 2 _ rfl
  obtain rfl := Option.some.inj e; obtain rfl := Option.some.inj g; clear e g
  obtain ⟨z1_2, e, _, w1_2⟩ := DataW.trod_int Try.underlying3 t1_2
  obtain rfl := (List.cons.inj e).1; clear e
  obtain ⟨lo1_2, hi1_2⟩ := bounds_i64 w1_2
  obtain ⟨_, _, e, g, t1_3⟩ := F1 3 _ rfl
  obtain rfl := Option.some.inj e; obtain rfl := Option.some.inj g; clear e g
  obtain ⟨z1_3, e, _, w1_3⟩ := DataW.trod_int Try.underlying3 t1_3
  obtain rfl := (List.cons.inj e).1; clear e
  obtain ⟨lo1_3, hi1_3⟩ := bounds_i64 w1_3
  obtain ⟨a2, rfl, rfl, rfl, w2⟩ := open_int Try.underlying3 (hval 2 3 v2 rfl rfl) h2
  obtain ⟨a3, rfl, rfl, rfl, w3⟩ := open_int Try.underlying3 (hval 3 3 v3 rfl rfl) h3
  obtain ⟨a4, rfl, rfl, rfl⟩ := open_bool Try.underlying4 (hval 4 4 v4 rfl rfl) h4
  clear hA0
  obtain ⟨lo2, hi2⟩ := bounds_i64 w2
  obtain ⟨lo3, hi3⟩ := bounds_i64 w3
  refine (walk z0_0 z0_1 z0_2 z0_3 z0_4 z1_0 z1_1 z1_2 z1_3 a2 a3 a4 W lo0_0 hi0_0 lo0_1 hi0_1 lo0_2 hi0_2 lo0_3 hi0_3 lo0_4 hi0_4 lo1_0 hi1_0 lo1_1 hi1_1 lo1_2 hi1_2 lo1_3 hi1_3 lo2 hi2 lo3 hi3).mono fun e W' ⟨he, bel⟩ => ?_
  subst he
  exact ⟨_, rfl, _, _, _, [], _, [], hW', trodAll_mk1 (shut_bool Try.underlying4 _), (trodAll_cons_mk (Below.trod laidOut (by kernel_rfl) (of_decide_eq_true (by kernel_rfl)) k0 bel lt0) (trodAll_cons_mk (Below.trod laidOut (by kernel_rfl) (of_decide_eq_true (by kernel_rfl)) k1 bel lt1) (trodAll_cons_mk (shut_int Try.underlying3 w2) (trodAll_cons_mk (shut_int Try.underlying3 w3) (trodAll_cons_mk (shut_bool Try.underlying4 _) trodAll_mk0))))), rfl, bel.frame _, fun h => by cases h⟩

theorem over : Rows.prrRatesRow.holds Try.pinned (OpenSpec.ofChange Rows.prrRatesSpec) :=
  OpenClaim.holds_of_wide 4 Try.f4 rfl rfl rfl rfl rfl rfl rfl ⟨rfl, rfl, rfl, rfl, rfl⟩ rfl rfl rfl rfl rfl (by kernel_rfl) Try.func4 (by kernel_rfl)
    (of_decide_eq_true (by kernel_rfl)) (by unfold Func.isWrapper; first | (rw [if_pos (by decide +kernel)]; kernel_rfl) | (rw [if_neg (by decide +kernel)]; exact ⟨rfl, rfl⟩))
    (fun os started H enc _ => lifted os started H enc)

end Go.Proofs.Ytlkpcojhpndieaa.prrRates
namespace Go.Proofs.Ytlkpcojhpndieaa
/-- The statement. -/
theorem prrRates_holds : Rows.PrrRatesSaid := prrRates.over
#print axioms prrRates_holds
end Go.Proofs.Ytlkpcojhpndieaa
