/- For every settings, state and sample: what follows of a sample, of a time that ran out, and how long to wait, are the page's. No condition. -/
import Derived.Test.YtmpgpmdocofmgaaRows
import Derived.Test.YtmpgpmdocofmgaaRttA
import Derived.Test.YtmpgpmdocofmgaaGAgg
import Derived.Deep.DeepCutAuto
import Derived.RegionTactic
import Derived.Deep.RegionHeld3
import Derived.ProofKit
import Derived.OpenShut
import Derived.ChangeOld
import Derived.SizedLaws
namespace Go.Proofs.Ytmpgpmdocofmgaa.rttTells
open Go.ChangeShapes Go.WideShapes Go.ChangeAt Go.RowKit Go.Deep Go.Proofs.Ytmpgpmdocofmgaa.Rt8

def Cut (i m x g : Int) (h : Bool) (s v b : Int) (w : World) (p q : Value) (wx : World) : Prop :=
  ∃ g1 g2, p = .pointer (some ⟨g1, 0, none⟩) ∧ q = .pointer (some ⟨g2, 0, none⟩) ∧ wx.heap[w.heap.size]? = some (.cells #[.int .i64 i, .int .i64 m, .int .i64 x, .int .i64 g] 23 (0, 0)) ∧ wx.heap[w.heap.size + 1]? = some (.cells #[.bool h, .int .i64 s, .int .i64 v, .int .i64 b] 25 (0, 0)) ∧ wx.heap[g1]? = some (.cells #[.int .i64 i, .int .i64 m, .int .i64 x, .int .i64 g] 26 (0, 0)) ∧ wx.heap[g2]? = some (.cells #[.bool h, .int .i64 s, .int .i64 v, .int .i64 b] 27 (0, 0)) ∧ True ∧ Below w.heap.size w wx
theorem cut_one (i m x g : Int) (h : Bool) (s v b : Int) (w W : World) (hW : W = ((((w.alloc (.cells #[.int .i64 i, .int .i64 m, .int .i64 x, .int .i64 g] 23)).alloc (.cells #[.bool h, .int .i64 s, .int .i64 v, .int .i64 b] 25)).alloc (.cells #[.int .i64 i, .int .i64 m, .int .i64 x, .int .i64 g] 26)).alloc (.cells #[.bool h, .int .i64 s, .int .i64 v, .int .i64 b] 27)).drew) :
    Cut i m x g h s v b w (.pointer (some ⟨w.heap.size + 1 + 1, 0, none⟩)) (.pointer (some ⟨w.heap.size + 1 + 1 + 1, 0, none⟩)) W := by
  obtain ⟨a, b, c, d, _, e⟩ := allocs4 _ _ _ _ _ hW
  exact ⟨_, _, rfl, rfl, a, b, c, d, trivial, e⟩
theorem cut_two (i m x g : Int) (h : Bool) (s v b : Int) (w W : World) (hW : W = ((((w.alloc (.cells #[.int .i64 i, .int .i64 m, .int .i64 x, .int .i64 g] 23)).alloc (.cells #[.bool h, .int .i64 s, .int .i64 v, .int .i64 b] 25)).alloc (.cells #[.bool h, .int .i64 s, .int .i64 v, .int .i64 b] 27)).alloc (.cells #[.int .i64 i, .int .i64 m, .int .i64 x, .int .i64 g] 26)).drew) :
    Cut i m x g h s v b w (.pointer (some ⟨w.heap.size + 1 + 1 + 1, 0, none⟩)) (.pointer (some ⟨w.heap.size + 1 + 1, 0, none⟩)) W := by
  obtain ⟨a, b, c, d, _, e⟩ := allocs4 _ _ _ _ _ hW
  exact ⟨_, _, rfl, rfl, a, b, d, c, trivial, e⟩

set_option maxRecDepth 100000 in
set_option maxHeartbeats 4000000 in
theorem walk (i m x g : Int) (h : Bool) (s v b r : Int) (w : World) (_i_l : -9223372036854775808 ≤ i) (_i_h : i ≤ 9223372036854775807) (_m_l : -9223372036854775808 ≤ m) (_m_h : m ≤ 9223372036854775807) (_x_l : -9223372036854775808 ≤ x) (_x_h : x ≤ 9223372036854775807) (_g_l : -9223372036854775808 ≤ g) (_g_h : g ≤ 9223372036854775807) (_s_l : -9223372036854775808 ≤ s) (_s_h : s ≤ 9223372036854775807) (_v_l : -9223372036854775808 ≤ v) (_v_h : v ≤ 9223372036854775807) (_b_l : -9223372036854775808 ≤ b) (_b_h : b ≤ 9223372036854775807) (_r_l : -9223372036854775808 ≤ r) (_r_h : r ≤ 9223372036854775807) :
    Calls Try.prog 3 #[.agg #[.int .i64 i, .int .i64 m, .int .i64 x, .int .i64 g], .agg #[.bool h, .int .i64 s, .int .i64 v, .int .i64 b], .int .i64 r] w fun e w' => e = .returned (.bool true) ∧ Below w.heap.size w w' := by
  go_enter Try.func3, Try.ntmps3
  go_wp2_with fail
  go_cut [7, 8] (fun (pq qq : Value) (wx : World) => Cut i m x g h s v b w pq qq wx)
  case first =>
    go_region
    all_goals
      go_wp2_with fail
      go_meet
      first
      | exact cut_one i m x g h s v b w _ rfl
      | exact cut_two i m x g h s v b w _ rfl
  case rest =>
    obtain ⟨g1, g2, rfl, rfl, k1, k2, k3, k4, hne, bw⟩ := hcut
    have q_0 := bw
    have i1 := (Array.getElem?_eq_some_iff.1 k1).1
    have i2 := (Array.getElem?_eq_some_iff.1 k2).1
    have i3 := (Array.getElem?_eq_some_iff.1 k3).1
    have i4 := (Array.getElem?_eq_some_iff.1 k4).1
    have Pz_0 := i1
    have P_0 := Lib.hid (k1)
    have Pc0_0 := blk_cell P_0.out 0
    have Pc1_0 := blk_cell P_0.out 1
    have Pc2_0 := blk_cell P_0.out 2
    have Pc3_0 := blk_cell P_0.out 3
    have Sz_0 := i2
    have S_0 := Lib.hid (k2)
    have Sc0_0 := blk_cell S_0.out 0
    have Sc1_0 := blk_cell S_0.out 1
    have Sc2_0 := blk_cell S_0.out 2
    have Sc3_0 := blk_cell S_0.out 3
    have Az_0 := i3
    have A_0 := Lib.hid (k3)
    have Ac0_0 := blk_cell A_0.out 0
    have Ac1_0 := blk_cell A_0.out 1
    have Ac2_0 := blk_cell A_0.out 2
    have Ac3_0 := blk_cell A_0.out 3
    have Bz_0 := i4
    have B_0 := Lib.hid (k4)
    have Bc0_0 := blk_cell B_0.out 0
    have Bc1_0 := blk_cell B_0.out 1
    have Bc2_0 := blk_cell B_0.out 2
    have Bc3_0 := blk_cell B_0.out 3
    clear k1 k2 k3 k4 i1 i2 i3 i4 hne bw
    obtain ⟨E, hE⟩ : ∃ z, er i m x g s v b = z := ⟨_, rfl⟩
    obtain ⟨F, hF⟩ : ∃ z, erR i m x g s v b r = z := ⟨_, rfl⟩
    obtain ⟨G, hG⟩ : ∃ z, cE i m x g = z := ⟨_, rfl⟩
    obtain ⟨a1, ha1⟩ : ∃ z, sH F = z := ⟨_, rfl⟩
    obtain ⟨a2, ha2⟩ : ∃ z, sS F h s r = z := ⟨_, rfl⟩
    obtain ⟨a3, ha3⟩ : ∃ z, sV F h s v r = z := ⟨_, rfl⟩
    obtain ⟨b1, hb1⟩ : ∃ z, bH E h = z := ⟨_, rfl⟩
    obtain ⟨b2, hb2⟩ : ∃ z, bN E s = z := ⟨_, rfl⟩
    obtain ⟨b3, hb3⟩ : ∃ z, bN E v = z := ⟨_, rfl⟩
    obtain ⟨b4, hb4⟩ : ∃ z, bB E b = z := ⟨_, rfl⟩
    obtain ⟨t, ht⟩ : ∃ z, rto E h i m x g s v b = z := ⟨_, rfl⟩
    have HE := Lib.hid hE
    clear hE
    have HF := Lib.hid hF
    clear hF
    have HG := Lib.hid hG
    clear hG
    have Ha1 := Lib.hid ha1
    clear ha1
    have Ha2 := Lib.hid ha2
    clear ha2
    have Ha3 := Lib.hid ha3
    clear ha3
    have Hb1 := Lib.hid hb1
    clear hb1
    have Hb2 := Lib.hid hb2
    clear hb2
    have Hb3 := Lib.hid hb3
    clear hb3
    have Hb4 := Lib.hid hb4
    clear hb4
    have Ht := Lib.hid ht
    clear ht
    go_wp2_with fail
    refine (sample_l i m x g h s v b r F a1 a2 a3 HF.out Ha1.out Ha2.out Ha3.out _).mono ?_
    rintro e V1 ⟨rfl, b⟩
    have P_1 := Lib.hid ((b.block _ Pz_0).trans P_0.out)
    have Pz_1 := Nat.lt_of_lt_of_le Pz_0 b.size
    have Pc0_1 := blk_cell P_1.out 0
    have Pc1_1 := blk_cell P_1.out 1
    have Pc2_1 := blk_cell P_1.out 2
    have Pc3_1 := blk_cell P_1.out 3
    have S_1 := Lib.hid ((b.block _ Sz_0).trans S_0.out)
    have Sz_1 := Nat.lt_of_lt_of_le Sz_0 b.size
    have Sc0_1 := blk_cell S_1.out 0
    have Sc1_1 := blk_cell S_1.out 1
    have Sc2_1 := blk_cell S_1.out 2
    have Sc3_1 := blk_cell S_1.out 3
    have A_1 := Lib.hid ((b.block _ Az_0).trans A_0.out)
    have Az_1 := Nat.lt_of_lt_of_le Az_0 b.size
    have Ac0_1 := blk_cell A_1.out 0
    have Ac1_1 := blk_cell A_1.out 1
    have Ac2_1 := blk_cell A_1.out 2
    have Ac3_1 := blk_cell A_1.out 3
    have B_1 := Lib.hid ((b.block _ Bz_0).trans B_0.out)
    have Bz_1 := Nat.lt_of_lt_of_le Bz_0 b.size
    have Bc0_1 := blk_cell B_1.out 0
    have Bc1_1 := blk_cell B_1.out 1
    have Bc2_1 := blk_cell B_1.out 2
    have Bc3_1 := blk_cell B_1.out 3
    have q_1 := q_0.trans (b.mono q_0.size)
    clear P_0 Pz_0 Pc0_0 Pc1_0 Pc2_0 Pc3_0 S_0 Sz_0 Sc0_0 Sc1_0 Sc2_0 Sc3_0 A_0 Az_0 Ac0_0 Ac1_0 Ac2_0 Ac3_0 B_0 Bz_0 Bc0_0 Bc1_0 Bc2_0 Bc3_0 q_0
    clear b
    go_wp2_with fail
    have b : Below V1.heap.size V1 (V1.alloc (.cells #[.bool a1, .int .i64 a2, .int .i64 a3, .int .i64 0] 27)) := ((Below.refl _ V1).alloc (Nat.le_refl _) (.cells #[.bool a1, .int .i64 a2, .int .i64 a3, .int .i64 0] 27))
    have nb0 := blk_new V1 (.cells #[.bool a1, .int .i64 a2, .int .i64 a3, .int .i64 0] 27)
    have nz0 : V1.heap.size < (V1.alloc (.cells #[.bool a1, .int .i64 a2, .int .i64 a3, .int .i64 0] 27)).heap.size := by simp only [World.size_alloc]; omega
    have P_2 := Lib.hid ((b.block _ Pz_1).trans P_1.out)
    have Pz_2 := Nat.lt_of_lt_of_le Pz_1 b.size
    have Pc0_2 := blk_cell P_2.out 0
    have Pc1_2 := blk_cell P_2.out 1
    have Pc2_2 := blk_cell P_2.out 2
    have Pc3_2 := blk_cell P_2.out 3
    have S_2 := Lib.hid ((b.block _ Sz_1).trans S_1.out)
    have Sz_2 := Nat.lt_of_lt_of_le Sz_1 b.size
    have Sc0_2 := blk_cell S_2.out 0
    have Sc1_2 := blk_cell S_2.out 1
    have Sc2_2 := blk_cell S_2.out 2
    have Sc3_2 := blk_cell S_2.out 3
    have A_2 := Lib.hid ((b.block _ Az_1).trans A_1.out)
    have Az_2 := Nat.lt_of_lt_of_le Az_1 b.size
    have Ac0_2 := blk_cell A_2.out 0
    have Ac1_2 := blk_cell A_2.out 1
    have Ac2_2 := blk_cell A_2.out 2
    have Ac3_2 := blk_cell A_2.out 3
    have B_2 := Lib.hid ((b.block _ Bz_1).trans B_1.out)
    have Bz_2 := Nat.lt_of_lt_of_le Bz_1 b.size
    have Bc0_2 := blk_cell B_2.out 0
    have Bc1_2 := blk_cell B_2.out 1
    have Bc2_2 := blk_cell B_2.out 2
    have Bc3_2 := blk_cell B_2.out 3
    have q_2 := q_1.trans (b.mono q_1.size)
    clear P_1 Pz_1 Pc0_1 Pc1_1 Pc2_1 Pc3_1 S_1 Sz_1 Sc0_1 Sc1_1 Sc2_1 Sc3_1 A_1 Az_1 Ac0_1 Ac1_1 Ac2_1 Ac3_1 B_1 Bz_1 Bc0_1 Bc1_1 Bc2_1 Bc3_1 q_1
    clear b
    have C_2 := Lib.hid nb0
    have Cz_2 := nz0
    clear nb0 nz0
    have Cc0_2 := blk_cell C_2.out 0
    have Cc1_2 := blk_cell C_2.out 1
    have Cc2_2 := blk_cell C_2.out 2
    have Cc3_2 := blk_cell C_2.out 3
    generalize (V1.alloc (.cells #[.bool a1, .int .i64 a2, .int .i64 a3, .int .i64 0] 27)) = V2 at q_2 P_2 Pz_2 Pc0_2 Pc1_2 Pc2_2 Pc3_2 S_2 Sz_2 Sc0_2 Sc1_2 Sc2_2 Sc3_2 A_2 Az_2 Ac0_2 Ac1_2 Ac2_2 Ac3_2 B_2 Bz_2 Bc0_2 Bc1_2 Bc2_2 Bc3_2 C_2 Cz_2 Cc0_2 Cc1_2 Cc2_2 Cc3_2 ⊢
    refine (rsample_l i m x g h s v b r F a1 a2 a3 HF.out Ha1.out Ha2.out Ha3.out _).mono ?_
    rintro e V3 ⟨rfl, b⟩
    have P_3 := Lib.hid ((b.block _ Pz_2).trans P_2.out)
    have Pz_3 := Nat.lt_of_lt_of_le Pz_2 b.size
    have Pc0_3 := blk_cell P_3.out 0
    have Pc1_3 := blk_cell P_3.out 1
    have Pc2_3 := blk_cell P_3.out 2
    have Pc3_3 := blk_cell P_3.out 3
    have S_3 := Lib.hid ((b.block _ Sz_2).trans S_2.out)
    have Sz_3 := Nat.lt_of_lt_of_le Sz_2 b.size
    have Sc0_3 := blk_cell S_3.out 0
    have Sc1_3 := blk_cell S_3.out 1
    have Sc2_3 := blk_cell S_3.out 2
    have Sc3_3 := blk_cell S_3.out 3
    have A_3 := Lib.hid ((b.block _ Az_2).trans A_2.out)
    have Az_3 := Nat.lt_of_lt_of_le Az_2 b.size
    have Ac0_3 := blk_cell A_3.out 0
    have Ac1_3 := blk_cell A_3.out 1
    have Ac2_3 := blk_cell A_3.out 2
    have Ac3_3 := blk_cell A_3.out 3
    have B_3 := Lib.hid ((b.block _ Bz_2).trans B_2.out)
    have Bz_3 := Nat.lt_of_lt_of_le Bz_2 b.size
    have Bc0_3 := blk_cell B_3.out 0
    have Bc1_3 := blk_cell B_3.out 1
    have Bc2_3 := blk_cell B_3.out 2
    have Bc3_3 := blk_cell B_3.out 3
    have C_3 := Lib.hid ((b.block _ Cz_2).trans C_2.out)
    have Cz_3 := Nat.lt_of_lt_of_le Cz_2 b.size
    have Cc0_3 := blk_cell C_3.out 0
    have Cc1_3 := blk_cell C_3.out 1
    have Cc2_3 := blk_cell C_3.out 2
    have Cc3_3 := blk_cell C_3.out 3
    have q_3 := q_2.trans (b.mono q_2.size)
    clear P_2 Pz_2 Pc0_2 Pc1_2 Pc2_2 Pc3_2 S_2 Sz_2 Sc0_2 Sc1_2 Sc2_2 Sc3_2 A_2 Az_2 Ac0_2 Ac1_2 Ac2_2 Ac3_2 B_2 Bz_2 Bc0_2 Bc1_2 Bc2_2 Bc3_2 C_2 Cz_2 Cc0_2 Cc1_2 Cc2_2 Cc3_2 q_2
    clear b
    go_wp2_with fail
    have b : Below V3.heap.size V3 (V3.alloc (.cells #[.bool a1, .int .i64 a2, .int .i64 a3, .int .i64 0] 25)) := ((Below.refl _ V3).alloc (Nat.le_refl _) (.cells #[.bool a1, .int .i64 a2, .int .i64 a3, .int .i64 0] 25))
    have nb0 := blk_new V3 (.cells #[.bool a1, .int .i64 a2, .int .i64 a3, .int .i64 0] 25)
    have nz0 : V3.heap.size < (V3.alloc (.cells #[.bool a1, .int .i64 a2, .int .i64 a3, .int .i64 0] 25)).heap.size := by simp only [World.size_alloc]; omega
    have P_4 := Lib.hid ((b.block _ Pz_3).trans P_3.out)
    have Pz_4 := Nat.lt_of_lt_of_le Pz_3 b.size
    have Pc0_4 := blk_cell P_4.out 0
    have Pc1_4 := blk_cell P_4.out 1
    have Pc2_4 := blk_cell P_4.out 2
    have Pc3_4 := blk_cell P_4.out 3
    have S_4 := Lib.hid ((b.block _ Sz_3).trans S_3.out)
    have Sz_4 := Nat.lt_of_lt_of_le Sz_3 b.size
    have Sc0_4 := blk_cell S_4.out 0
    have Sc1_4 := blk_cell S_4.out 1
    have Sc2_4 := blk_cell S_4.out 2
    have Sc3_4 := blk_cell S_4.out 3
    have A_4 := Lib.hid ((b.block _ Az_3).trans A_3.out)
    have Az_4 := Nat.lt_of_lt_of_le Az_3 b.size
    have Ac0_4 := blk_cell A_4.out 0
    have Ac1_4 := blk_cell A_4.out 1
    have Ac2_4 := blk_cell A_4.out 2
    have Ac3_4 := blk_cell A_4.out 3
    have B_4 := Lib.hid ((b.block _ Bz_3).trans B_3.out)
    have Bz_4 := Nat.lt_of_lt_of_le Bz_3 b.size
    have Bc0_4 := blk_cell B_4.out 0
    have Bc1_4 := blk_cell B_4.out 1
    have Bc2_4 := blk_cell B_4.out 2
    have Bc3_4 := blk_cell B_4.out 3
    have C_4 := Lib.hid ((b.block _ Cz_3).trans C_3.out)
    have Cz_4 := Nat.lt_of_lt_of_le Cz_3 b.size
    have Cc0_4 := blk_cell C_4.out 0
    have Cc1_4 := blk_cell C_4.out 1
    have Cc2_4 := blk_cell C_4.out 2
    have Cc3_4 := blk_cell C_4.out 3
    have q_4 := q_3.trans (b.mono q_3.size)
    clear P_3 Pz_3 Pc0_3 Pc1_3 Pc2_3 Pc3_3 S_3 Sz_3 Sc0_3 Sc1_3 Sc2_3 Sc3_3 A_3 Az_3 Ac0_3 Ac1_3 Ac2_3 Ac3_3 B_3 Bz_3 Bc0_3 Bc1_3 Bc2_3 Bc3_3 C_3 Cz_3 Cc0_3 Cc1_3 Cc2_3 Cc3_3 q_3
    clear b
    have D_4 := Lib.hid nb0
    have Dz_4 := nz0
    clear nb0 nz0
    have Dc0_4 := blk_cell D_4.out 0
    have Dc1_4 := blk_cell D_4.out 1
    have Dc2_4 := blk_cell D_4.out 2
    have Dc3_4 := blk_cell D_4.out 3
    generalize (V3.alloc (.cells #[.bool a1, .int .i64 a2, .int .i64 a3, .int .i64 0] 25)) = V4 at q_4 P_4 Pz_4 Pc0_4 Pc1_4 Pc2_4 Pc3_4 S_4 Sz_4 Sc0_4 Sc1_4 Sc2_4 Sc3_4 A_4 Az_4 Ac0_4 Ac1_4 Ac2_4 Ac3_4 B_4 Bz_4 Bc0_4 Bc1_4 Bc2_4 Bc3_4 C_4 Cz_4 Cc0_4 Cc1_4 Cc2_4 Cc3_4 D_4 Dz_4 Dc0_4 Dc1_4 Dc2_4 Dc3_4 ⊢
    refine (back_l i m x g h s v b E b1 b2 b3 b4 HE.out Hb1.out Hb2.out Hb3.out Hb4.out _).mono ?_
    rintro e V5 ⟨rfl, b⟩
    have P_5 := Lib.hid ((b.block _ Pz_4).trans P_4.out)
    have Pz_5 := Nat.lt_of_lt_of_le Pz_4 b.size
    have Pc0_5 := blk_cell P_5.out 0
    have Pc1_5 := blk_cell P_5.out 1
    have Pc2_5 := blk_cell P_5.out 2
    have Pc3_5 := blk_cell P_5.out 3
    have S_5 := Lib.hid ((b.block _ Sz_4).trans S_4.out)
    have Sz_5 := Nat.lt_of_lt_of_le Sz_4 b.size
    have Sc0_5 := blk_cell S_5.out 0
    have Sc1_5 := blk_cell S_5.out 1
    have Sc2_5 := blk_cell S_5.out 2
    have Sc3_5 := blk_cell S_5.out 3
    have A_5 := Lib.hid ((b.block _ Az_4).trans A_4.out)
    have Az_5 := Nat.lt_of_lt_of_le Az_4 b.size
    have Ac0_5 := blk_cell A_5.out 0
    have Ac1_5 := blk_cell A_5.out 1
    have Ac2_5 := blk_cell A_5.out 2
    have Ac3_5 := blk_cell A_5.out 3
    have B_5 := Lib.hid ((b.block _ Bz_4).trans B_4.out)
    have Bz_5 := Nat.lt_of_lt_of_le Bz_4 b.size
    have Bc0_5 := blk_cell B_5.out 0
    have Bc1_5 := blk_cell B_5.out 1
    have Bc2_5 := blk_cell B_5.out 2
    have Bc3_5 := blk_cell B_5.out 3
    have C_5 := Lib.hid ((b.block _ Cz_4).trans C_4.out)
    have Cz_5 := Nat.lt_of_lt_of_le Cz_4 b.size
    have Cc0_5 := blk_cell C_5.out 0
    have Cc1_5 := blk_cell C_5.out 1
    have Cc2_5 := blk_cell C_5.out 2
    have Cc3_5 := blk_cell C_5.out 3
    have D_5 := Lib.hid ((b.block _ Dz_4).trans D_4.out)
    have Dz_5 := Nat.lt_of_lt_of_le Dz_4 b.size
    have Dc0_5 := blk_cell D_5.out 0
    have Dc1_5 := blk_cell D_5.out 1
    have Dc2_5 := blk_cell D_5.out 2
    have Dc3_5 := blk_cell D_5.out 3
    have q_5 := q_4.trans (b.mono q_4.size)
    clear P_4 Pz_4 Pc0_4 Pc1_4 Pc2_4 Pc3_4 S_4 Sz_4 Sc0_4 Sc1_4 Sc2_4 Sc3_4 A_4 Az_4 Ac0_4 Ac1_4 Ac2_4 Ac3_4 B_4 Bz_4 Bc0_4 Bc1_4 Bc2_4 Bc3_4 C_4 Cz_4 Cc0_4 Cc1_4 Cc2_4 Cc3_4 D_4 Dz_4 Dc0_4 Dc1_4 Dc2_4 Dc3_4 q_4
    clear b
    go_wp2_with fail
    have b : Below V5.heap.size V5 (V5.alloc (.cells #[.bool b1, .int .i64 b2, .int .i64 b3, .int .i64 b4] 27)) := ((Below.refl _ V5).alloc (Nat.le_refl _) (.cells #[.bool b1, .int .i64 b2, .int .i64 b3, .int .i64 b4] 27))
    have nb0 := blk_new V5 (.cells #[.bool b1, .int .i64 b2, .int .i64 b3, .int .i64 b4] 27)
    have nz0 : V5.heap.size < (V5.alloc (.cells #[.bool b1, .int .i64 b2, .int .i64 b3, .int .i64 b4] 27)).heap.size := by simp only [World.size_alloc]; omega
    have P_6 := Lib.hid ((b.block _ Pz_5).trans P_5.out)
    have Pz_6 := Nat.lt_of_lt_of_le Pz_5 b.size
    have Pc0_6 := blk_cell P_6.out 0
    have Pc1_6 := blk_cell P_6.out 1
    have Pc2_6 := blk_cell P_6.out 2
    have Pc3_6 := blk_cell P_6.out 3
    have S_6 := Lib.hid ((b.block _ Sz_5).trans S_5.out)
    have Sz_6 := Nat.lt_of_lt_of_le Sz_5 b.size
    have Sc0_6 := blk_cell S_6.out 0
    have Sc1_6 := blk_cell S_6.out 1
    have Sc2_6 := blk_cell S_6.out 2
    have Sc3_6 := blk_cell S_6.out 3
    have A_6 := Lib.hid ((b.block _ Az_5).trans A_5.out)
    have Az_6 := Nat.lt_of_lt_of_le Az_5 b.size
    have Ac0_6 := blk_cell A_6.out 0
    have Ac1_6 := blk_cell A_6.out 1
    have Ac2_6 := blk_cell A_6.out 2
    have Ac3_6 := blk_cell A_6.out 3
    have B_6 := Lib.hid ((b.block _ Bz_5).trans B_5.out)
    have Bz_6 := Nat.lt_of_lt_of_le Bz_5 b.size
    have Bc0_6 := blk_cell B_6.out 0
    have Bc1_6 := blk_cell B_6.out 1
    have Bc2_6 := blk_cell B_6.out 2
    have Bc3_6 := blk_cell B_6.out 3
    have C_6 := Lib.hid ((b.block _ Cz_5).trans C_5.out)
    have Cz_6 := Nat.lt_of_lt_of_le Cz_5 b.size
    have Cc0_6 := blk_cell C_6.out 0
    have Cc1_6 := blk_cell C_6.out 1
    have Cc2_6 := blk_cell C_6.out 2
    have Cc3_6 := blk_cell C_6.out 3
    have D_6 := Lib.hid ((b.block _ Dz_5).trans D_5.out)
    have Dz_6 := Nat.lt_of_lt_of_le Dz_5 b.size
    have Dc0_6 := blk_cell D_6.out 0
    have Dc1_6 := blk_cell D_6.out 1
    have Dc2_6 := blk_cell D_6.out 2
    have Dc3_6 := blk_cell D_6.out 3
    have q_6 := q_5.trans (b.mono q_5.size)
    clear P_5 Pz_5 Pc0_5 Pc1_5 Pc2_5 Pc3_5 S_5 Sz_5 Sc0_5 Sc1_5 Sc2_5 Sc3_5 A_5 Az_5 Ac0_5 Ac1_5 Ac2_5 Ac3_5 B_5 Bz_5 Bc0_5 Bc1_5 Bc2_5 Bc3_5 C_5 Cz_5 Cc0_5 Cc1_5 Cc2_5 Cc3_5 D_5 Dz_5 Dc0_5 Dc1_5 Dc2_5 Dc3_5 q_5
    clear b
    have X_6 := Lib.hid nb0
    have Xz_6 := nz0
    clear nb0 nz0
    have Xc0_6 := blk_cell X_6.out 0
    have Xc1_6 := blk_cell X_6.out 1
    have Xc2_6 := blk_cell X_6.out 2
    have Xc3_6 := blk_cell X_6.out 3
    generalize (V5.alloc (.cells #[.bool b1, .int .i64 b2, .int .i64 b3, .int .i64 b4] 27)) = V6 at q_6 P_6 Pz_6 Pc0_6 Pc1_6 Pc2_6 Pc3_6 S_6 Sz_6 Sc0_6 Sc1_6 Sc2_6 Sc3_6 A_6 Az_6 Ac0_6 Ac1_6 Ac2_6 Ac3_6 B_6 Bz_6 Bc0_6 Bc1_6 Bc2_6 Bc3_6 C_6 Cz_6 Cc0_6 Cc1_6 Cc2_6 Cc3_6 D_6 Dz_6 Dc0_6 Dc1_6 Dc2_6 Dc3_6 X_6 Xz_6 Xc0_6 Xc1_6 Xc2_6 Xc3_6 ⊢
    refine (rback_l i m x g h s v b E b1 b2 b3 b4 HE.out Hb1.out Hb2.out Hb3.out Hb4.out _).mono ?_
    rintro e V7 ⟨rfl, b⟩
    have P_7 := Lib.hid ((b.block _ Pz_6).trans P_6.out)
    have Pz_7 := Nat.lt_of_lt_of_le Pz_6 b.size
    have Pc0_7 := blk_cell P_7.out 0
    have Pc1_7 := blk_cell P_7.out 1
    have Pc2_7 := blk_cell P_7.out 2
    have Pc3_7 := blk_cell P_7.out 3
    have S_7 := Lib.hid ((b.block _ Sz_6).trans S_6.out)
    have Sz_7 := Nat.lt_of_lt_of_le Sz_6 b.size
    have Sc0_7 := blk_cell S_7.out 0
    have Sc1_7 := blk_cell S_7.out 1
    have Sc2_7 := blk_cell S_7.out 2
    have Sc3_7 := blk_cell S_7.out 3
    have A_7 := Lib.hid ((b.block _ Az_6).trans A_6.out)
    have Az_7 := Nat.lt_of_lt_of_le Az_6 b.size
    have Ac0_7 := blk_cell A_7.out 0
    have Ac1_7 := blk_cell A_7.out 1
    have Ac2_7 := blk_cell A_7.out 2
    have Ac3_7 := blk_cell A_7.out 3
    have B_7 := Lib.hid ((b.block _ Bz_6).trans B_6.out)
    have Bz_7 := Nat.lt_of_lt_of_le Bz_6 b.size
    have Bc0_7 := blk_cell B_7.out 0
    have Bc1_7 := blk_cell B_7.out 1
    have Bc2_7 := blk_cell B_7.out 2
    have Bc3_7 := blk_cell B_7.out 3
    have C_7 := Lib.hid ((b.block _ Cz_6).trans C_6.out)
    have Cz_7 := Nat.lt_of_lt_of_le Cz_6 b.size
    have Cc0_7 := blk_cell C_7.out 0
    have Cc1_7 := blk_cell C_7.out 1
    have Cc2_7 := blk_cell C_7.out 2
    have Cc3_7 := blk_cell C_7.out 3
    have D_7 := Lib.hid ((b.block _ Dz_6).trans D_6.out)
    have Dz_7 := Nat.lt_of_lt_of_le Dz_6 b.size
    have Dc0_7 := blk_cell D_7.out 0
    have Dc1_7 := blk_cell D_7.out 1
    have Dc2_7 := blk_cell D_7.out 2
    have Dc3_7 := blk_cell D_7.out 3
    have X_7 := Lib.hid ((b.block _ Xz_6).trans X_6.out)
    have Xz_7 := Nat.lt_of_lt_of_le Xz_6 b.size
    have Xc0_7 := blk_cell X_7.out 0
    have Xc1_7 := blk_cell X_7.out 1
    have Xc2_7 := blk_cell X_7.out 2
    have Xc3_7 := blk_cell X_7.out 3
    have q_7 := q_6.trans (b.mono q_6.size)
    clear P_6 Pz_6 Pc0_6 Pc1_6 Pc2_6 Pc3_6 S_6 Sz_6 Sc0_6 Sc1_6 Sc2_6 Sc3_6 A_6 Az_6 Ac0_6 Ac1_6 Ac2_6 Ac3_6 B_6 Bz_6 Bc0_6 Bc1_6 Bc2_6 Bc3_6 C_6 Cz_6 Cc0_6 Cc1_6 Cc2_6 Cc3_6 D_6 Dz_6 Dc0_6 Dc1_6 Dc2_6 Dc3_6 X_6 Xz_6 Xc0_6 Xc1_6 Xc2_6 Xc3_6 q_6
    clear b
    go_wp2_with fail
    have b : Below V7.heap.size V7 (V7.alloc (.cells #[.bool b1, .int .i64 b2, .int .i64 b3, .int .i64 b4] 25)) := ((Below.refl _ V7).alloc (Nat.le_refl _) (.cells #[.bool b1, .int .i64 b2, .int .i64 b3, .int .i64 b4] 25))
    have nb0 := blk_new V7 (.cells #[.bool b1, .int .i64 b2, .int .i64 b3, .int .i64 b4] 25)
    have nz0 : V7.heap.size < (V7.alloc (.cells #[.bool b1, .int .i64 b2, .int .i64 b3, .int .i64 b4] 25)).heap.size := by simp only [World.size_alloc]; omega
    have P_8 := Lib.hid ((b.block _ Pz_7).trans P_7.out)
    have Pz_8 := Nat.lt_of_lt_of_le Pz_7 b.size
    have Pc0_8 := blk_cell P_8.out 0
    have Pc1_8 := blk_cell P_8.out 1
    have Pc2_8 := blk_cell P_8.out 2
    have Pc3_8 := blk_cell P_8.out 3
    have S_8 := Lib.hid ((b.block _ Sz_7).trans S_7.out)
    have Sz_8 := Nat.lt_of_lt_of_le Sz_7 b.size
    have Sc0_8 := blk_cell S_8.out 0
    have Sc1_8 := blk_cell S_8.out 1
    have Sc2_8 := blk_cell S_8.out 2
    have Sc3_8 := blk_cell S_8.out 3
    have A_8 := Lib.hid ((b.block _ Az_7).trans A_7.out)
    have Az_8 := Nat.lt_of_lt_of_le Az_7 b.size
    have Ac0_8 := blk_cell A_8.out 0
    have Ac1_8 := blk_cell A_8.out 1
    have Ac2_8 := blk_cell A_8.out 2
    have Ac3_8 := blk_cell A_8.out 3
    have B_8 := Lib.hid ((b.block _ Bz_7).trans B_7.out)
    have Bz_8 := Nat.lt_of_lt_of_le Bz_7 b.size
    have Bc0_8 := blk_cell B_8.out 0
    have Bc1_8 := blk_cell B_8.out 1
    have Bc2_8 := blk_cell B_8.out 2
    have Bc3_8 := blk_cell B_8.out 3
    have C_8 := Lib.hid ((b.block _ Cz_7).trans C_7.out)
    have Cz_8 := Nat.lt_of_lt_of_le Cz_7 b.size
    have Cc0_8 := blk_cell C_8.out 0
    have Cc1_8 := blk_cell C_8.out 1
    have Cc2_8 := blk_cell C_8.out 2
    have Cc3_8 := blk_cell C_8.out 3
    have D_8 := Lib.hid ((b.block _ Dz_7).trans D_7.out)
    have Dz_8 := Nat.lt_of_lt_of_le Dz_7 b.size
    have Dc0_8 := blk_cell D_8.out 0
    have Dc1_8 := blk_cell D_8.out 1
    have Dc2_8 := blk_cell D_8.out 2
    have Dc3_8 := blk_cell D_8.out 3
    have X_8 := Lib.hid ((b.block _ Xz_7).trans X_7.out)
    have Xz_8 := Nat.lt_of_lt_of_le Xz_7 b.size
    have Xc0_8 := blk_cell X_8.out 0
    have Xc1_8 := blk_cell X_8.out 1
    have Xc2_8 := blk_cell X_8.out 2
    have Xc3_8 := blk_cell X_8.out 3
    have q_8 := q_7.trans (b.mono q_7.size)
    clear P_7 Pz_7 Pc0_7 Pc1_7 Pc2_7 Pc3_7 S_7 Sz_7 Sc0_7 Sc1_7 Sc2_7 Sc3_7 A_7 Az_7 Ac0_7 Ac1_7 Ac2_7 Ac3_7 B_7 Bz_7 Bc0_7 Bc1_7 Bc2_7 Bc3_7 C_7 Cz_7 Cc0_7 Cc1_7 Cc2_7 Cc3_7 D_7 Dz_7 Dc0_7 Dc1_7 Dc2_7 Dc3_7 X_7 Xz_7 Xc0_7 Xc1_7 Xc2_7 Xc3_7 q_7
    clear b
    have Y_8 := Lib.hid nb0
    have Yz_8 := nz0
    clear nb0 nz0
    have Yc0_8 := blk_cell Y_8.out 0
    have Yc1_8 := blk_cell Y_8.out 1
    have Yc2_8 := blk_cell Y_8.out 2
    have Yc3_8 := blk_cell Y_8.out 3
    generalize (V7.alloc (.cells #[.bool b1, .int .i64 b2, .int .i64 b3, .int .i64 b4] 25)) = V8 at q_8 P_8 Pz_8 Pc0_8 Pc1_8 Pc2_8 Pc3_8 S_8 Sz_8 Sc0_8 Sc1_8 Sc2_8 Sc3_8 A_8 Az_8 Ac0_8 Ac1_8 Ac2_8 Ac3_8 B_8 Bz_8 Bc0_8 Bc1_8 Bc2_8 Bc3_8 C_8 Cz_8 Cc0_8 Cc1_8 Cc2_8 Cc3_8 D_8 Dz_8 Dc0_8 Dc1_8 Dc2_8 Dc3_8 X_8 Xz_8 Xc0_8 Xc1_8 Xc2_8 Xc3_8 Y_8 Yz_8 Yc0_8 Yc1_8 Yc2_8 Yc3_8 ⊢
    refine (rto_l i m x g h s v b E t HE.out Ht.out _).mono ?_
    rintro e V9 ⟨rfl, b⟩
    have P_9 := Lib.hid ((b.block _ Pz_8).trans P_8.out)
    have Pz_9 := Nat.lt_of_lt_of_le Pz_8 b.size
    have Pc0_9 := blk_cell P_9.out 0
    have Pc1_9 := blk_cell P_9.out 1
    have Pc2_9 := blk_cell P_9.out 2
    have Pc3_9 := blk_cell P_9.out 3
    have S_9 := Lib.hid ((b.block _ Sz_8).trans S_8.out)
    have Sz_9 := Nat.lt_of_lt_of_le Sz_8 b.size
    have Sc0_9 := blk_cell S_9.out 0
    have Sc1_9 := blk_cell S_9.out 1
    have Sc2_9 := blk_cell S_9.out 2
    have Sc3_9 := blk_cell S_9.out 3
    have A_9 := Lib.hid ((b.block _ Az_8).trans A_8.out)
    have Az_9 := Nat.lt_of_lt_of_le Az_8 b.size
    have Ac0_9 := blk_cell A_9.out 0
    have Ac1_9 := blk_cell A_9.out 1
    have Ac2_9 := blk_cell A_9.out 2
    have Ac3_9 := blk_cell A_9.out 3
    have B_9 := Lib.hid ((b.block _ Bz_8).trans B_8.out)
    have Bz_9 := Nat.lt_of_lt_of_le Bz_8 b.size
    have Bc0_9 := blk_cell B_9.out 0
    have Bc1_9 := blk_cell B_9.out 1
    have Bc2_9 := blk_cell B_9.out 2
    have Bc3_9 := blk_cell B_9.out 3
    have C_9 := Lib.hid ((b.block _ Cz_8).trans C_8.out)
    have Cz_9 := Nat.lt_of_lt_of_le Cz_8 b.size
    have Cc0_9 := blk_cell C_9.out 0
    have Cc1_9 := blk_cell C_9.out 1
    have Cc2_9 := blk_cell C_9.out 2
    have Cc3_9 := blk_cell C_9.out 3
    have D_9 := Lib.hid ((b.block _ Dz_8).trans D_8.out)
    have Dz_9 := Nat.lt_of_lt_of_le Dz_8 b.size
    have Dc0_9 := blk_cell D_9.out 0
    have Dc1_9 := blk_cell D_9.out 1
    have Dc2_9 := blk_cell D_9.out 2
    have Dc3_9 := blk_cell D_9.out 3
    have X_9 := Lib.hid ((b.block _ Xz_8).trans X_8.out)
    have Xz_9 := Nat.lt_of_lt_of_le Xz_8 b.size
    have Xc0_9 := blk_cell X_9.out 0
    have Xc1_9 := blk_cell X_9.out 1
    have Xc2_9 := blk_cell X_9.out 2
    have Xc3_9 := blk_cell X_9.out 3
    have Y_9 := Lib.hid ((b.block _ Yz_8).trans Y_8.out)
    have Yz_9 := Nat.lt_of_lt_of_le Yz_8 b.size
    have Yc0_9 := blk_cell Y_9.out 0
    have Yc1_9 := blk_cell Y_9.out 1
    have Yc2_9 := blk_cell Y_9.out 2
    have Yc3_9 := blk_cell Y_9.out 3
    have q_9 := q_8.trans (b.mono q_8.size)
    clear P_8 Pz_8 Pc0_8 Pc1_8 Pc2_8 Pc3_8 S_8 Sz_8 Sc0_8 Sc1_8 Sc2_8 Sc3_8 A_8 Az_8 Ac0_8 Ac1_8 Ac2_8 Ac3_8 B_8 Bz_8 Bc0_8 Bc1_8 Bc2_8 Bc3_8 C_8 Cz_8 Cc0_8 Cc1_8 Cc2_8 Cc3_8 D_8 Dz_8 Dc0_8 Dc1_8 Dc2_8 Dc3_8 X_8 Xz_8 Xc0_8 Xc1_8 Xc2_8 Xc3_8 Y_8 Yz_8 Yc0_8 Yc1_8 Yc2_8 Yc3_8 q_8
    clear b
    go_wp2_with fail
    refine (rrto_l i m x g h s v b E t HE.out Ht.out _).mono ?_
    rintro e V10 ⟨rfl, b⟩
    have P_10 := Lib.hid ((b.block _ Pz_9).trans P_9.out)
    have Pz_10 := Nat.lt_of_lt_of_le Pz_9 b.size
    have Pc0_10 := blk_cell P_10.out 0
    have Pc1_10 := blk_cell P_10.out 1
    have Pc2_10 := blk_cell P_10.out 2
    have Pc3_10 := blk_cell P_10.out 3
    have S_10 := Lib.hid ((b.block _ Sz_9).trans S_9.out)
    have Sz_10 := Nat.lt_of_lt_of_le Sz_9 b.size
    have Sc0_10 := blk_cell S_10.out 0
    have Sc1_10 := blk_cell S_10.out 1
    have Sc2_10 := blk_cell S_10.out 2
    have Sc3_10 := blk_cell S_10.out 3
    have A_10 := Lib.hid ((b.block _ Az_9).trans A_9.out)
    have Az_10 := Nat.lt_of_lt_of_le Az_9 b.size
    have Ac0_10 := blk_cell A_10.out 0
    have Ac1_10 := blk_cell A_10.out 1
    have Ac2_10 := blk_cell A_10.out 2
    have Ac3_10 := blk_cell A_10.out 3
    have B_10 := Lib.hid ((b.block _ Bz_9).trans B_9.out)
    have Bz_10 := Nat.lt_of_lt_of_le Bz_9 b.size
    have Bc0_10 := blk_cell B_10.out 0
    have Bc1_10 := blk_cell B_10.out 1
    have Bc2_10 := blk_cell B_10.out 2
    have Bc3_10 := blk_cell B_10.out 3
    have C_10 := Lib.hid ((b.block _ Cz_9).trans C_9.out)
    have Cz_10 := Nat.lt_of_lt_of_le Cz_9 b.size
    have Cc0_10 := blk_cell C_10.out 0
    have Cc1_10 := blk_cell C_10.out 1
    have Cc2_10 := blk_cell C_10.out 2
    have Cc3_10 := blk_cell C_10.out 3
    have D_10 := Lib.hid ((b.block _ Dz_9).trans D_9.out)
    have Dz_10 := Nat.lt_of_lt_of_le Dz_9 b.size
    have Dc0_10 := blk_cell D_10.out 0
    have Dc1_10 := blk_cell D_10.out 1
    have Dc2_10 := blk_cell D_10.out 2
    have Dc3_10 := blk_cell D_10.out 3
    have X_10 := Lib.hid ((b.block _ Xz_9).trans X_9.out)
    have Xz_10 := Nat.lt_of_lt_of_le Xz_9 b.size
    have Xc0_10 := blk_cell X_10.out 0
    have Xc1_10 := blk_cell X_10.out 1
    have Xc2_10 := blk_cell X_10.out 2
    have Xc3_10 := blk_cell X_10.out 3
    have Y_10 := Lib.hid ((b.block _ Yz_9).trans Y_9.out)
    have Yz_10 := Nat.lt_of_lt_of_le Yz_9 b.size
    have Yc0_10 := blk_cell Y_10.out 0
    have Yc1_10 := blk_cell Y_10.out 1
    have Yc2_10 := blk_cell Y_10.out 2
    have Yc3_10 := blk_cell Y_10.out 3
    have q_10 := q_9.trans (b.mono q_9.size)
    clear P_9 Pz_9 Pc0_9 Pc1_9 Pc2_9 Pc3_9 S_9 Sz_9 Sc0_9 Sc1_9 Sc2_9 Sc3_9 A_9 Az_9 Ac0_9 Ac1_9 Ac2_9 Ac3_9 B_9 Bz_9 Bc0_9 Bc1_9 Bc2_9 Bc3_9 C_9 Cz_9 Cc0_9 Cc1_9 Cc2_9 Cc3_9 D_9 Dz_9 Dc0_9 Dc1_9 Dc2_9 Dc3_9 X_9 Xz_9 Xc0_9 Xc1_9 Xc2_9 Xc3_9 Y_9 Yz_9 Yc0_9 Yc1_9 Yc2_9 Yc3_9 q_9
    clear b
    go_wp2_with fail
    clear Pc0_10 Pc1_10 Pc2_10 Pc3_10
    clear Sc0_10 Sc1_10 Sc2_10 Sc3_10
    clear Ac0_10 Ac1_10 Ac2_10 Ac3_10
    clear Bc0_10 Bc1_10 Bc2_10 Bc3_10
    clear Cc0_10 Cc1_10 Cc2_10 Cc3_10
    clear Dc0_10 Dc1_10 Dc2_10 Dc3_10
    clear Xc0_10 Xc1_10 Xc2_10 Xc3_10
    clear Yc0_10 Yc1_10 Yc2_10 Yc3_10
    have P_11 := Lib.hid ((((Below.refl V10.heap.size V10).drew).block _ Pz_10).trans P_10.out)
    have Pz_11 := Nat.lt_of_lt_of_le Pz_10 ((Below.refl V10.heap.size V10).drew).size
    have S_11 := Lib.hid ((((Below.refl V10.heap.size V10).drew).block _ Sz_10).trans S_10.out)
    have Sz_11 := Nat.lt_of_lt_of_le Sz_10 ((Below.refl V10.heap.size V10).drew).size
    have A_11 := Lib.hid ((((Below.refl V10.heap.size V10).drew).block _ Az_10).trans A_10.out)
    have Az_11 := Nat.lt_of_lt_of_le Az_10 ((Below.refl V10.heap.size V10).drew).size
    have B_11 := Lib.hid ((((Below.refl V10.heap.size V10).drew).block _ Bz_10).trans B_10.out)
    have Bz_11 := Nat.lt_of_lt_of_le Bz_10 ((Below.refl V10.heap.size V10).drew).size
    have C_11 := Lib.hid ((((Below.refl V10.heap.size V10).drew).block _ Cz_10).trans C_10.out)
    have Cz_11 := Nat.lt_of_lt_of_le Cz_10 ((Below.refl V10.heap.size V10).drew).size
    have D_11 := Lib.hid ((((Below.refl V10.heap.size V10).drew).block _ Dz_10).trans D_10.out)
    have Dz_11 := Nat.lt_of_lt_of_le Dz_10 ((Below.refl V10.heap.size V10).drew).size
    have X_11 := Lib.hid ((((Below.refl V10.heap.size V10).drew).block _ Xz_10).trans X_10.out)
    have Xz_11 := Nat.lt_of_lt_of_le Xz_10 ((Below.refl V10.heap.size V10).drew).size
    have Y_11 := Lib.hid ((((Below.refl V10.heap.size V10).drew).block _ Yz_10).trans Y_10.out)
    have Yz_11 := Nat.lt_of_lt_of_le Yz_10 ((Below.refl V10.heap.size V10).drew).size
    have q_11 := q_10.trans (((Below.refl V10.heap.size V10).drew).mono q_10.size)
    clear P_10 Pz_10 S_10 Sz_10 A_10 Az_10 B_10 Bz_10 C_10 Cz_10 D_10 Dz_10 X_10 Xz_10 Y_10 Yz_10 q_10
    have SS_11 : Hid (V10.drew.cell? ⟨V1.heap.size, 0, none⟩ = some (.bool a1) ∧ V10.drew.cell? ⟨V1.heap.size, 1, none⟩ = some (.int .i64 a2) ∧ V10.drew.cell? ⟨V1.heap.size, 2, none⟩ = some (.int .i64 a3) ∧ V10.drew.cell? ⟨V1.heap.size, 3, none⟩ = some (.int .i64 0) ∧ V10.drew.cell? ⟨V3.heap.size, 0, none⟩ = some (.bool a1) ∧ V10.drew.cell? ⟨V3.heap.size, 1, none⟩ = some (.int .i64 a2) ∧ V10.drew.cell? ⟨V3.heap.size, 2, none⟩ = some (.int .i64 a3) ∧ V10.drew.cell? ⟨V3.heap.size, 3, none⟩ = some (.int .i64 0) ∧ V10.drew.cell? ⟨V5.heap.size, 0, none⟩ = some (.bool b1) ∧ V10.drew.cell? ⟨V5.heap.size, 1, none⟩ = some (.int .i64 b2) ∧ V10.drew.cell? ⟨V5.heap.size, 2, none⟩ = some (.int .i64 b3) ∧ V10.drew.cell? ⟨V5.heap.size, 3, none⟩ = some (.int .i64 b4) ∧ V10.drew.cell? ⟨V7.heap.size, 0, none⟩ = some (.bool b1) ∧ V10.drew.cell? ⟨V7.heap.size, 1, none⟩ = some (.int .i64 b2) ∧ V10.drew.cell? ⟨V7.heap.size, 2, none⟩ = some (.int .i64 b3) ∧ V10.drew.cell? ⟨V7.heap.size, 3, none⟩ = some (.int .i64 b4) ∧ V10.drew.cell? ⟨g1, 0, none⟩ = some (.int .i64 i) ∧ V10.drew.cell? ⟨g1, 1, none⟩ = some (.int .i64 m) ∧ V10.drew.cell? ⟨g1, 2, none⟩ = some (.int .i64 x) ∧ V10.drew.cell? ⟨g1, 3, none⟩ = some (.int .i64 g) ∧ V10.drew.cell? ⟨w.heap.size, 0, none⟩ = some (.int .i64 i) ∧ V10.drew.cell? ⟨w.heap.size, 1, none⟩ = some (.int .i64 m) ∧ V10.drew.cell? ⟨w.heap.size, 2, none⟩ = some (.int .i64 x) ∧ V10.drew.cell? ⟨w.heap.size, 3, none⟩ = some (.int .i64 g)) := Lib.hid ⟨blk_cell C_11.out 0, blk_cell C_11.out 1, blk_cell C_11.out 2, blk_cell C_11.out 3, blk_cell D_11.out 0, blk_cell D_11.out 1, blk_cell D_11.out 2, blk_cell D_11.out 3, blk_cell X_11.out 0, blk_cell X_11.out 1, blk_cell X_11.out 2, blk_cell X_11.out 3, blk_cell Y_11.out 0, blk_cell Y_11.out 1, blk_cell Y_11.out 2, blk_cell Y_11.out 3, blk_cell A_11.out 0, blk_cell A_11.out 1, blk_cell A_11.out 2, blk_cell A_11.out 3, blk_cell P_11.out 0, blk_cell P_11.out 1, blk_cell P_11.out 2, blk_cell P_11.out 3⟩
    go_region_held3 (fun W' => W'.cell? ⟨V1.heap.size, 0, none⟩ = some (.bool a1) ∧ W'.cell? ⟨V1.heap.size, 1, none⟩ = some (.int .i64 a2) ∧ W'.cell? ⟨V1.heap.size, 2, none⟩ = some (.int .i64 a3) ∧ W'.cell? ⟨V1.heap.size, 3, none⟩ = some (.int .i64 0) ∧ W'.cell? ⟨V3.heap.size, 0, none⟩ = some (.bool a1) ∧ W'.cell? ⟨V3.heap.size, 1, none⟩ = some (.int .i64 a2) ∧ W'.cell? ⟨V3.heap.size, 2, none⟩ = some (.int .i64 a3) ∧ W'.cell? ⟨V3.heap.size, 3, none⟩ = some (.int .i64 0) ∧ W'.cell? ⟨V5.heap.size, 0, none⟩ = some (.bool b1) ∧ W'.cell? ⟨V5.heap.size, 1, none⟩ = some (.int .i64 b2) ∧ W'.cell? ⟨V5.heap.size, 2, none⟩ = some (.int .i64 b3) ∧ W'.cell? ⟨V5.heap.size, 3, none⟩ = some (.int .i64 b4) ∧ W'.cell? ⟨V7.heap.size, 0, none⟩ = some (.bool b1) ∧ W'.cell? ⟨V7.heap.size, 1, none⟩ = some (.int .i64 b2) ∧ W'.cell? ⟨V7.heap.size, 2, none⟩ = some (.int .i64 b3) ∧ W'.cell? ⟨V7.heap.size, 3, none⟩ = some (.int .i64 b4) ∧ W'.cell? ⟨g1, 0, none⟩ = some (.int .i64 i) ∧ W'.cell? ⟨g1, 1, none⟩ = some (.int .i64 m) ∧ W'.cell? ⟨g1, 2, none⟩ = some (.int .i64 x) ∧ W'.cell? ⟨g1, 3, none⟩ = some (.int .i64 g) ∧ W'.cell? ⟨w.heap.size, 0, none⟩ = some (.int .i64 i) ∧ W'.cell? ⟨w.heap.size, 1, none⟩ = some (.int .i64 m) ∧ W'.cell? ⟨w.heap.size, 2, none⟩ = some (.int .i64 x) ∧ W'.cell? ⟨w.heap.size, 3, none⟩ = some (.int .i64 g)) (first | (with_reducible exact SS_14.out) | (with_reducible exact SS_13.out) | (with_reducible exact SS_12.out) | (with_reducible exact SS_11.out) | fail) (first
      | (go_at_call 13; refine (num_any _ _).mono ?_; rintro e w' ⟨rfl, rfl⟩)
      | (go_at_call 14; (with_reducible refine (check_l i m x g G HG.out _).mono ?_); rintro e V11 ⟨rfl, b⟩; have P_12 := Lib.hid ((b.block _ Pz_11).trans P_11.out); have Pz_12 := Nat.lt_of_lt_of_le Pz_11 b.size; have S_12 := Lib.hid ((b.block _ Sz_11).trans S_11.out); have Sz_12 := Nat.lt_of_lt_of_le Sz_11 b.size; have A_12 := Lib.hid ((b.block _ Az_11).trans A_11.out); have Az_12 := Nat.lt_of_lt_of_le Az_11 b.size; have B_12 := Lib.hid ((b.block _ Bz_11).trans B_11.out); have Bz_12 := Nat.lt_of_lt_of_le Bz_11 b.size; have C_12 := Lib.hid ((b.block _ Cz_11).trans C_11.out); have Cz_12 := Nat.lt_of_lt_of_le Cz_11 b.size; have D_12 := Lib.hid ((b.block _ Dz_11).trans D_11.out); have Dz_12 := Nat.lt_of_lt_of_le Dz_11 b.size; have X_12 := Lib.hid ((b.block _ Xz_11).trans X_11.out); have Xz_12 := Nat.lt_of_lt_of_le Xz_11 b.size; have Y_12 := Lib.hid ((b.block _ Yz_11).trans Y_11.out); have Yz_12 := Nat.lt_of_lt_of_le Yz_11 b.size; have q_12 := q_11.trans (b.mono q_11.size); clear P_11 Pz_11 S_11 Sz_11 A_11 Az_11 B_11 Bz_11 C_11 Cz_11 D_11 Dz_11 X_11 Xz_11 Y_11 Yz_11 q_11; clear b; have SS_12 : Hid (V11.cell? ⟨V1.heap.size, 0, none⟩ = some (.bool a1) ∧ V11.cell? ⟨V1.heap.size, 1, none⟩ = some (.int .i64 a2) ∧ V11.cell? ⟨V1.heap.size, 2, none⟩ = some (.int .i64 a3) ∧ V11.cell? ⟨V1.heap.size, 3, none⟩ = some (.int .i64 0) ∧ V11.cell? ⟨V3.heap.size, 0, none⟩ = some (.bool a1) ∧ V11.cell? ⟨V3.heap.size, 1, none⟩ = some (.int .i64 a2) ∧ V11.cell? ⟨V3.heap.size, 2, none⟩ = some (.int .i64 a3) ∧ V11.cell? ⟨V3.heap.size, 3, none⟩ = some (.int .i64 0) ∧ V11.cell? ⟨V5.heap.size, 0, none⟩ = some (.bool b1) ∧ V11.cell? ⟨V5.heap.size, 1, none⟩ = some (.int .i64 b2) ∧ V11.cell? ⟨V5.heap.size, 2, none⟩ = some (.int .i64 b3) ∧ V11.cell? ⟨V5.heap.size, 3, none⟩ = some (.int .i64 b4) ∧ V11.cell? ⟨V7.heap.size, 0, none⟩ = some (.bool b1) ∧ V11.cell? ⟨V7.heap.size, 1, none⟩ = some (.int .i64 b2) ∧ V11.cell? ⟨V7.heap.size, 2, none⟩ = some (.int .i64 b3) ∧ V11.cell? ⟨V7.heap.size, 3, none⟩ = some (.int .i64 b4) ∧ V11.cell? ⟨g1, 0, none⟩ = some (.int .i64 i) ∧ V11.cell? ⟨g1, 1, none⟩ = some (.int .i64 m) ∧ V11.cell? ⟨g1, 2, none⟩ = some (.int .i64 x) ∧ V11.cell? ⟨g1, 3, none⟩ = some (.int .i64 g) ∧ V11.cell? ⟨w.heap.size, 0, none⟩ = some (.int .i64 i) ∧ V11.cell? ⟨w.heap.size, 1, none⟩ = some (.int .i64 m) ∧ V11.cell? ⟨w.heap.size, 2, none⟩ = some (.int .i64 x) ∧ V11.cell? ⟨w.heap.size, 3, none⟩ = some (.int .i64 g)) := Lib.hid ⟨blk_cell C_12.out 0, blk_cell C_12.out 1, blk_cell C_12.out 2, blk_cell C_12.out 3, blk_cell D_12.out 0, blk_cell D_12.out 1, blk_cell D_12.out 2, blk_cell D_12.out 3, blk_cell X_12.out 0, blk_cell X_12.out 1, blk_cell X_12.out 2, blk_cell X_12.out 3, blk_cell Y_12.out 0, blk_cell Y_12.out 1, blk_cell Y_12.out 2, blk_cell Y_12.out 3, blk_cell A_12.out 0, blk_cell A_12.out 1, blk_cell A_12.out 2, blk_cell A_12.out 3, blk_cell P_12.out 0, blk_cell P_12.out 1, blk_cell P_12.out 2, blk_cell P_12.out 3⟩)
      | (go_at_call 15; (with_reducible refine (rcheck_l i m x g G HG.out _).mono ?_); rintro e V12 ⟨rfl, b⟩; have P_13 := Lib.hid ((b.block _ Pz_12).trans P_12.out); have Pz_13 := Nat.lt_of_lt_of_le Pz_12 b.size; have S_13 := Lib.hid ((b.block _ Sz_12).trans S_12.out); have Sz_13 := Nat.lt_of_lt_of_le Sz_12 b.size; have A_13 := Lib.hid ((b.block _ Az_12).trans A_12.out); have Az_13 := Nat.lt_of_lt_of_le Az_12 b.size; have B_13 := Lib.hid ((b.block _ Bz_12).trans B_12.out); have Bz_13 := Nat.lt_of_lt_of_le Bz_12 b.size; have C_13 := Lib.hid ((b.block _ Cz_12).trans C_12.out); have Cz_13 := Nat.lt_of_lt_of_le Cz_12 b.size; have D_13 := Lib.hid ((b.block _ Dz_12).trans D_12.out); have Dz_13 := Nat.lt_of_lt_of_le Dz_12 b.size; have X_13 := Lib.hid ((b.block _ Xz_12).trans X_12.out); have Xz_13 := Nat.lt_of_lt_of_le Xz_12 b.size; have Y_13 := Lib.hid ((b.block _ Yz_12).trans Y_12.out); have Yz_13 := Nat.lt_of_lt_of_le Yz_12 b.size; have q_13 := q_12.trans (b.mono q_12.size); clear P_12 Pz_12 S_12 Sz_12 A_12 Az_12 B_12 Bz_12 C_12 Cz_12 D_12 Dz_12 X_12 Xz_12 Y_12 Yz_12 q_12; clear b; have SS_13 : Hid (V12.cell? ⟨V1.heap.size, 0, none⟩ = some (.bool a1) ∧ V12.cell? ⟨V1.heap.size, 1, none⟩ = some (.int .i64 a2) ∧ V12.cell? ⟨V1.heap.size, 2, none⟩ = some (.int .i64 a3) ∧ V12.cell? ⟨V1.heap.size, 3, none⟩ = some (.int .i64 0) ∧ V12.cell? ⟨V3.heap.size, 0, none⟩ = some (.bool a1) ∧ V12.cell? ⟨V3.heap.size, 1, none⟩ = some (.int .i64 a2) ∧ V12.cell? ⟨V3.heap.size, 2, none⟩ = some (.int .i64 a3) ∧ V12.cell? ⟨V3.heap.size, 3, none⟩ = some (.int .i64 0) ∧ V12.cell? ⟨V5.heap.size, 0, none⟩ = some (.bool b1) ∧ V12.cell? ⟨V5.heap.size, 1, none⟩ = some (.int .i64 b2) ∧ V12.cell? ⟨V5.heap.size, 2, none⟩ = some (.int .i64 b3) ∧ V12.cell? ⟨V5.heap.size, 3, none⟩ = some (.int .i64 b4) ∧ V12.cell? ⟨V7.heap.size, 0, none⟩ = some (.bool b1) ∧ V12.cell? ⟨V7.heap.size, 1, none⟩ = some (.int .i64 b2) ∧ V12.cell? ⟨V7.heap.size, 2, none⟩ = some (.int .i64 b3) ∧ V12.cell? ⟨V7.heap.size, 3, none⟩ = some (.int .i64 b4) ∧ V12.cell? ⟨g1, 0, none⟩ = some (.int .i64 i) ∧ V12.cell? ⟨g1, 1, none⟩ = some (.int .i64 m) ∧ V12.cell? ⟨g1, 2, none⟩ = some (.int .i64 x) ∧ V12.cell? ⟨g1, 3, none⟩ = some (.int .i64 g) ∧ V12.cell? ⟨w.heap.size, 0, none⟩ = some (.int .i64 i) ∧ V12.cell? ⟨w.heap.size, 1, none⟩ = some (.int .i64 m) ∧ V12.cell? ⟨w.heap.size, 2, none⟩ = some (.int .i64 x) ∧ V12.cell? ⟨w.heap.size, 3, none⟩ = some (.int .i64 g)) := Lib.hid ⟨blk_cell C_13.out 0, blk_cell C_13.out 1, blk_cell C_13.out 2, blk_cell C_13.out 3, blk_cell D_13.out 0, blk_cell D_13.out 1, blk_cell D_13.out 2, blk_cell D_13.out 3, blk_cell X_13.out 0, blk_cell X_13.out 1, blk_cell X_13.out 2, blk_cell X_13.out 3, blk_cell Y_13.out 0, blk_cell Y_13.out 1, blk_cell Y_13.out 2, blk_cell Y_13.out 3, blk_cell A_13.out 0, blk_cell A_13.out 1, blk_cell A_13.out 2, blk_cell A_13.out 3, blk_cell P_13.out 0, blk_cell P_13.out 1, blk_cell P_13.out 2, blk_cell P_13.out 3⟩)
      | (go_at_call 16; (with_reducible refine (alive_any _).mono ?_); rintro e V13 ⟨rfl, b⟩; have P_14 := Lib.hid ((b.block _ Pz_13).trans P_13.out); have Pz_14 := Nat.lt_of_lt_of_le Pz_13 b.size; have S_14 := Lib.hid ((b.block _ Sz_13).trans S_13.out); have Sz_14 := Nat.lt_of_lt_of_le Sz_13 b.size; have A_14 := Lib.hid ((b.block _ Az_13).trans A_13.out); have Az_14 := Nat.lt_of_lt_of_le Az_13 b.size; have B_14 := Lib.hid ((b.block _ Bz_13).trans B_13.out); have Bz_14 := Nat.lt_of_lt_of_le Bz_13 b.size; have C_14 := Lib.hid ((b.block _ Cz_13).trans C_13.out); have Cz_14 := Nat.lt_of_lt_of_le Cz_13 b.size; have D_14 := Lib.hid ((b.block _ Dz_13).trans D_13.out); have Dz_14 := Nat.lt_of_lt_of_le Dz_13 b.size; have X_14 := Lib.hid ((b.block _ Xz_13).trans X_13.out); have Xz_14 := Nat.lt_of_lt_of_le Xz_13 b.size; have Y_14 := Lib.hid ((b.block _ Yz_13).trans Y_13.out); have Yz_14 := Nat.lt_of_lt_of_le Yz_13 b.size; have q_14 := q_13.trans (b.mono q_13.size); clear P_13 Pz_13 S_13 Sz_13 A_13 Az_13 B_13 Bz_13 C_13 Cz_13 D_13 Dz_13 X_13 Xz_13 Y_13 Yz_13 q_13; clear b; have SS_14 : Hid (V13.cell? ⟨V1.heap.size, 0, none⟩ = some (.bool a1) ∧ V13.cell? ⟨V1.heap.size, 1, none⟩ = some (.int .i64 a2) ∧ V13.cell? ⟨V1.heap.size, 2, none⟩ = some (.int .i64 a3) ∧ V13.cell? ⟨V1.heap.size, 3, none⟩ = some (.int .i64 0) ∧ V13.cell? ⟨V3.heap.size, 0, none⟩ = some (.bool a1) ∧ V13.cell? ⟨V3.heap.size, 1, none⟩ = some (.int .i64 a2) ∧ V13.cell? ⟨V3.heap.size, 2, none⟩ = some (.int .i64 a3) ∧ V13.cell? ⟨V3.heap.size, 3, none⟩ = some (.int .i64 0) ∧ V13.cell? ⟨V5.heap.size, 0, none⟩ = some (.bool b1) ∧ V13.cell? ⟨V5.heap.size, 1, none⟩ = some (.int .i64 b2) ∧ V13.cell? ⟨V5.heap.size, 2, none⟩ = some (.int .i64 b3) ∧ V13.cell? ⟨V5.heap.size, 3, none⟩ = some (.int .i64 b4) ∧ V13.cell? ⟨V7.heap.size, 0, none⟩ = some (.bool b1) ∧ V13.cell? ⟨V7.heap.size, 1, none⟩ = some (.int .i64 b2) ∧ V13.cell? ⟨V7.heap.size, 2, none⟩ = some (.int .i64 b3) ∧ V13.cell? ⟨V7.heap.size, 3, none⟩ = some (.int .i64 b4) ∧ V13.cell? ⟨g1, 0, none⟩ = some (.int .i64 i) ∧ V13.cell? ⟨g1, 1, none⟩ = some (.int .i64 m) ∧ V13.cell? ⟨g1, 2, none⟩ = some (.int .i64 x) ∧ V13.cell? ⟨g1, 3, none⟩ = some (.int .i64 g) ∧ V13.cell? ⟨w.heap.size, 0, none⟩ = some (.int .i64 i) ∧ V13.cell? ⟨w.heap.size, 1, none⟩ = some (.int .i64 m) ∧ V13.cell? ⟨w.heap.size, 2, none⟩ = some (.int .i64 x) ∧ V13.cell? ⟨w.heap.size, 3, none⟩ = some (.int .i64 g)) := Lib.hid ⟨blk_cell C_14.out 0, blk_cell C_14.out 1, blk_cell C_14.out 2, blk_cell C_14.out 3, blk_cell D_14.out 0, blk_cell D_14.out 1, blk_cell D_14.out 2, blk_cell D_14.out 3, blk_cell X_14.out 0, blk_cell X_14.out 1, blk_cell X_14.out 2, blk_cell X_14.out 3, blk_cell Y_14.out 0, blk_cell Y_14.out 1, blk_cell Y_14.out 2, blk_cell Y_14.out 3, blk_cell A_14.out 0, blk_cell A_14.out 1, blk_cell A_14.out 2, blk_cell A_14.out 3, blk_cell P_14.out 0, blk_cell P_14.out 1, blk_cell P_14.out 2, blk_cell P_14.out 3⟩))
    all_goals
      clear SS_11 SS_12 SS_13 SS_14
      go_wp2
      go_ret
      exact ⟨rfl, q_14⟩

theorem of_len4 {α : Type} (l : List α) (h : l.length = 4) : ∃ x0 x1 x2 x3, l = [x0, x1, x2, x3] := by
  match l, h with
  | [x0, x1, x2, x3], _ => exact ⟨x0, x1, x2, x3, rfl⟩
theorem own : ownKnob Try.prog.godebug = none := by kernel_rfl
theorem laidOut : laidOutB Try.prog = true := by kernel_rfl

set_option maxRecDepth 100000 in
set_option maxHeartbeats 2000000 in
theorem lifted (os : Os) (started : os.Started) (H : Type) (enc : TypeId × Value → H) :
    ReturnsInHanded {} Try.checked os 3 .any (Rows.rttTellsSpec.pre6 enc Try.prog Try.f3 Rows.rttTellsRow.domain false) (Rows.rttTellsSpec.post enc Try.prog Try.f3 false true false false) := by
  refine returnsInHanded_of_change_sized (C := Try.checked) own started (by kernel_rfl) Try.func3
    (ChangeSpec.witness6 (enc := enc) (C := Try.checked) false ⟨#[], #[.agg #[.int .i64 0, .int .i64 0, .int .i64 0, .int .i64 0], .agg #[.bool false, .int .i64 0, .int .i64 0, .int .i64 0], .int .i64 0], []⟩ 8 (by kernel_rfl) (by kernel_rfl) (by kernel_rfl) (by kernel_rfl)) ?_
  intro W base args ds gs before hval0 hW hcnd hsz0 _
  have hval : ∀ (j : Nat) t v, Try.f3.params[j]? = some t → args[j]? = some v → Value.okWide Try.prog W .any base t v := hval0
  have hW' := hW
  obtain ⟨p, q, hA0, hV, rfl, hfz, hnd⟩ := hW
  have hA : DataW.TrodAll enc Try.prog W 0 (fun _ => true) true Try.f3.params.toList args.toList ds p := hA0
  rw [Try.params3] at hA hval
  obtain ⟨v0, vs0, d0, ds0, p0, q0, hargs, rfl, rfl, h0, r0⟩ := trodAll_cons hA
  obtain ⟨v1, vs1, d1, ds1, p1, q1, rfl, rfl, rfl, h1, r1⟩ := trodAll_cons r0
  obtain ⟨v2, vs2, d2, ds2, p2, q2, rfl, rfl, rfl, h2, r2⟩ := trodAll_cons r1
  obtain ⟨rfl, rfl, rfl⟩ := trodAll_nil r2
  obtain rfl : args = #[v0, v1, v2] := by cases args; simp_all
  obtain ⟨rfl, rfl⟩ := trodVars_none hV
  have k0 := h0
  have lt0 : ∀ x ∈ p0, x.block < W.heap.size := by obtain ⟨m, hm⟩ := k0; exact DataW.trod_lt m _ _ _ hm
  obtain ⟨vs0', ys0', m0, rfl, lv0, ly0, hd0, F0⟩ := open_agg Try.underlying23 (by kernel_rfl) (by kernel_rfl) (hval 0 23 v0 rfl rfl) h0
  obtain ⟨c0_0, c0_1, c0_2, c0_3, rfl⟩ := of_len4 _ lv0
  obtain ⟨y0_0, y0_1, y0_2, y0_3, rfl⟩ := of_len4 _ ly0
  simp only [List.map_cons, List.map_nil] at hd0
  obtain ⟨_, _, e, g, t0_0⟩ := F0 0 _ rfl
  obtain rfl := Option.some.inj e; obtain rfl := Option.some.inj g; clear e g
  obtain ⟨z0_0, e, _, w0_0⟩ := DataW.trod_int Try.underlying3 t0_0
  obtain rfl := (List.cons.inj e).1; clear e
  obtain ⟨lo0_0, hi0_0⟩ := bounds_i64 w0_0
  obtain ⟨_, _, e, g, t0_1⟩ := F0 1 _ rfl
  obtain rfl := Option.some.inj e; obtain rfl := Option.some.inj g; clear e g
  obtain ⟨z0_1, e, _, w0_1⟩ := DataW.trod_int Try.underlying3 t0_1
  obtain rfl := (List.cons.inj e).1; clear e
  obtain ⟨lo0_1, hi0_1⟩ := bounds_i64 w0_1
  obtain ⟨_, _, e, g, t0_2⟩ := F0 2 _ rfl
  obtain rfl := Option.some.inj e; obtain rfl := Option.some.inj g; clear e g
  obtain ⟨z0_2, e, _, w0_2⟩ := DataW.trod_int Try.underlying3 t0_2
  obtain rfl := (List.cons.inj e).1; clear e
  obtain ⟨lo0_2, hi0_2⟩ := bounds_i64 w0_2
  obtain ⟨_, _, e, g, t0_3⟩ := F0 3 _ rfl
  obtain rfl := Option.some.inj e; obtain rfl := Option.some.inj g; clear e g
  obtain ⟨z0_3, e, _, w0_3⟩ := DataW.trod_int Try.underlying3 t0_3
  obtain rfl := (List.cons.inj e).1; clear e
  obtain ⟨lo0_3, hi0_3⟩ := bounds_i64 w0_3
  have k1 := h1
  have lt1 : ∀ x ∈ p1, x.block < W.heap.size := by obtain ⟨m, hm⟩ := k1; exact DataW.trod_lt m _ _ _ hm
  obtain ⟨vs1', ys1', m1, rfl, lv1, ly1, hd1, F1⟩ := open_agg Try.underlying25 (by kernel_rfl) (by kernel_rfl) (hval 1 25 v1 rfl rfl) h1
  obtain ⟨c1_0, c1_1, c1_2, c1_3, rfl⟩ := of_len4 _ lv1
  obtain ⟨y1_0, y1_1, y1_2, y1_3, rfl⟩ := of_len4 _ ly1
  simp only [List.map_cons, List.map_nil] at hd1
  obtain ⟨_, _, e, g, t1_0⟩ := F1 0 _ rfl
  obtain rfl := Option.some.inj e; obtain rfl := Option.some.inj g; clear e g
  obtain ⟨b1_0, e, _⟩ := DataW.trod_bool Try.underlying4 t1_0
  obtain rfl := (List.cons.inj e).1; clear e
  obtain ⟨_, _, e, g, t1_1⟩ := F1 1 _ rfl
  obtain rfl := Option.some.inj e; obtain rfl := Option.some.inj g; clear e g
  obtain ⟨z1_1, e, _, w1_1⟩ := DataW.trod_int Try.underlying3 t1_1
  obtain rfl := (List.cons.inj e).1; clear e
  obtain ⟨lo1_1, hi1_1⟩ := bounds_i64 w1_1
  obtain ⟨_, _, e, g, t1_2⟩ := F1 2 _ rfl
  obtain rfl := Option.some.inj e; obtain rfl := Option.some.inj g; clear e g
  obtain ⟨z1_2, e, _, w1_2⟩ := DataW.trod_int Try.underlying3 t1_2
  obtain rfl := (List.cons.inj e).1; clear e
  obtain ⟨lo1_2, hi1_2⟩ := bounds_i64 w1_2
  obtain ⟨_, _, e, g, t1_3⟩ := F1 3 _ rfl
  obtain rfl := Option.some.inj e; obtain rfl := Option.some.inj g; clear e g
  obtain ⟨z1_3, e, _, w1_3⟩ := DataW.trod_int Try.underlying3 t1_3
  obtain rfl := (List.cons.inj e).1; clear e
  obtain ⟨lo1_3, hi1_3⟩ := bounds_i64 w1_3
  obtain ⟨a2, rfl, rfl, rfl, w2⟩ := open_int Try.underlying3 (hval 2 3 v2 rfl rfl) h2
  clear hA0
  obtain ⟨lo2, hi2⟩ := bounds_i64 w2
  refine (walk z0_0 z0_1 z0_2 z0_3 b1_0 z1_1 z1_2 z1_3 a2 W lo0_0 hi0_0 lo0_1 hi0_1 lo0_2 hi0_2 lo0_3 hi0_3 lo1_1 hi1_1 lo1_2 hi1_2 lo1_3 hi1_3 lo2 hi2).mono fun e W' ⟨he, bel⟩ => ?_
  subst he
  exact ⟨_, rfl, _, _, _, [], _, [], hW', trodAll_mk1 (shut_bool Try.underlying4 _), (trodAll_cons_mk (Below.trod laidOut (by kernel_rfl) (of_decide_eq_true (by kernel_rfl)) k0 bel lt0) (trodAll_cons_mk (Below.trod laidOut (by kernel_rfl) (of_decide_eq_true (by kernel_rfl)) k1 bel lt1) (trodAll_cons_mk (shut_int Try.underlying3 w2) trodAll_mk0))), rfl, bel.frame _, fun h => by cases h⟩

theorem over : Rows.rttTellsRow.holds Try.pinned (OpenSpec.ofChange Rows.rttTellsSpec) :=
  OpenClaim.holds_of_wide 3 Try.f3 rfl rfl rfl rfl rfl rfl rfl ⟨rfl, rfl, rfl, rfl, rfl⟩ rfl rfl rfl rfl rfl (by kernel_rfl) Try.func3 (by kernel_rfl)
    (of_decide_eq_true (by kernel_rfl)) (by unfold Func.isWrapper; first | (rw [if_pos (by decide +kernel)]; kernel_rfl) | (rw [if_neg (by decide +kernel)]; exact ⟨rfl, rfl⟩))
    (fun os started H enc _ => lifted os started H enc)

end Go.Proofs.Ytmpgpmdocofmgaa.rttTells
namespace Go.Proofs.Ytmpgpmdocofmgaa
/-- The statement. -/
theorem rttTells_holds : Rows.RttTellsSaid := rttTells.over
#print axioms rttTells_holds
end Go.Proofs.Ytmpgpmdocofmgaa
