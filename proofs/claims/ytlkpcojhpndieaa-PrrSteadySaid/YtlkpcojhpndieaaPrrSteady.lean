/- For every size, time and number of segments: segments of one size that leave one by one, each as the one ahead is delivered, a tick apart: the rate is a segment in the time that it takes; each is a round. No condition. -/
import Derived.Test.YtlkpcojhpndieaaRows
import Derived.Test.YtlkpcojhpndieaaPrA
import Derived.Test.YtlkpcojhpndieaaPrF
import Derived.Test.YtlkpcojhpndieaaGStore
import Derived.Test.YtlkpcojhpndieaaGAgg
import Derived.Deep.DeepCutAuto
import Derived.RegionTactic
import Derived.Deep.RegionHeld3
import Derived.ProofKit
import Derived.OpenShut
import Derived.ChangeOld
import Derived.SizedLaws
namespace Go.Proofs.Ytlkpcojhpndieaa.prrSteady
open Go.ChangeShapes Go.WideShapes Go.ChangeAt Go.RowKit Go.Deep Go.Proofs.Ytlkpcojhpndieaa.Pr

def St (c : Nat) (S W D T a f : Int) : Prop := D = c * S ∧ T = c * W ∧ 0 ≤ D ∧ D ≤ 3000000 ∧ 0 ≤ T ∧ T ≤ 50000 ∧ 0 ≤ a ∧ a ≤ 50000 ∧ 0 ≤ f ∧ f ≤ 50000
theorem st_zero (S W : Int) : St 0 S W 0 0 0 0 := by unfold St; simp
theorem st_next {c : Nat} {S W D T a f : Int} (h : St c S W D T a f) (hc : c < 50) (s0 : 1 ≤ S) (s1 : S ≤ 60000) (w0 : 1 ≤ W) (w1 : W ≤ 1000) : St (c + 1) S W (D + S) (T + W) (T + W) T := by
  obtain ⟨rfl, rfl, d0, d1, t0, t1, _⟩ := h
  have hc' : ((c + 1 : Nat) : Int) = c + 1 := by omega
  have h1 : (c : Int) * S ≤ 49 * 60000 := Int.mul_le_mul (by omega) s1 (by omega) (by omega)
  have h2 : (c : Int) * W ≤ 49 * 1000 := Int.mul_le_mul (by omega) w1 (by omega) (by omega)
  refine ⟨?_, ?_, by omega, by omega, by omega, by omega, by omega, by omega, by omega, by omega⟩
  · rw [hc', Int.add_mul, Int.one_mul]
  · rw [hc', Int.add_mul, Int.one_mul]
theorem sd {c : Nat} {S W D T a f : Int} (h : St c S W D T a f) (hc : c ≤ 50) (w : World) : Calls Try.prog 15 #[.agg #[.int .i64 D, .int .i64 a, .int .i64 f, .int .i64 c, .int .i64 D], .int .i64 T, .bool true] w fun e w' => e = .returned (.tuple #[.agg #[.int .i64 D, .int .i64 T, .int .i64 T, .int .i64 c, .int .i64 D], .agg #[.int .i64 D, .int .i64 T, .int .i64 T, .int .i64 T], .int .i64 0]) ∧ Below w.heap.size w w' := by
  obtain ⟨_, _, d0, d1, t0, t1, a0, a1, f0, f1⟩ := h
  exact send_true D a f c D T w ⟨⟨by omega, by omega⟩, ⟨by omega, by omega⟩, ⟨by omega, by omega⟩, ⟨by omega, by omega⟩, ⟨by omega, by omega⟩⟩ ⟨by omega, by omega⟩
theorem dl_nums {c : Nat} {S W D T D' T' K C' : Int} (d0 : 0 ≤ D) (d1 : D ≤ 3000000) (t0 : 0 ≤ T) (t1 : T ≤ 50000) (hc : c < 50) (s0 : 1 ≤ S) (s1 : S ≤ 60000) (w0 : 1 ≤ W) (w1 : W ≤ 1000) (hD : D + S = D') (hT : T + W = T') (hK : S * 1024 / W = K) (hC : (c : Int) + 1 = C') :
    DV S T' D T T T ∧ min (D + S) 1099511627776 = D' ∧ min ((c : Int) + 1) 1099511627776 = C' ∧ D' - D = S ∧ max (T - T) (T' - T) = W ∧ min (S * 1024 / W) 1073741824 = K := by
  have hk : S * 1024 / W ≤ S * 1024 := Int.ediv_le_self _ (by omega)
  rw [hK] at hk
  refine ⟨⟨⟨s0, by omega⟩, ⟨by omega, by omega⟩, ⟨by omega, by omega⟩, ⟨by omega, by omega⟩, ⟨by omega, by omega⟩, ⟨by omega, by omega⟩⟩, ?_, ?_, by omega, by omega, ?_⟩
  · rw [hD]; exact Int.min_eq_left (by omega)
  · rw [hC]; exact Int.min_eq_left (by omega)
  · rw [hK]; exact Int.min_eq_left (by omega)
theorem dl {c : Nat} {S W D T a f D' T' K C' : Int} (h : St c S W D T a f) (hc : c < 50) (s0 : 1 ≤ S) (s1 : S ≤ 60000) (w0 : 1 ≤ W) (w1 : W ≤ 1000) (hD : D + S = D') (hT : T + W = T') (hK : S * 1024 / W = K) (hC : (c : Int) + 1 = C') (w : World) : Calls Try.prog 17 #[.agg #[.int .i64 D, .int .i64 T, .int .i64 T, .int .i64 c, .int .i64 D], .agg #[.int .i64 D, .int .i64 T, .int .i64 T, .int .i64 T], .int .i64 S, .int .i64 T'] w fun e w' => e = .returned (.tuple #[.agg #[.int .i64 D', .int .i64 T', .int .i64 T, .int .i64 C', .int .i64 D'], .int .i64 K, .bool true, .int .i64 0]) ∧ Below w.heap.size w w' := by
  obtain ⟨-, -, d0, d1, t0, t1, a0, a1, f0, f1⟩ := h
  have hRV : RV D T T c D := ⟨⟨by omega, by omega⟩, ⟨by omega, by omega⟩, ⟨by omega, by omega⟩, ⟨by omega, by omega⟩, ⟨by omega, by omega⟩⟩
  obtain ⟨h1, h2, h3, h4, h5, h6⟩ := dl_nums (c := c) d0 d1 t0 t1 hc s0 s1 w0 w1 hD hT hK hC
  exact deliver_mr D T T c D D T T T S T' D' C' S W K w hRV h1 h2 h3 h4 h5 (Int.le_refl _) (Int.lt_of_lt_of_le (by decide) s0) (Int.lt_of_lt_of_le (by decide) w0) h6
set_option maxRecDepth 100000 in
set_option maxHeartbeats 1000000 in
theorem walk (sz wh n : Int) (w : World) (_sz_l : -9223372036854775808 ≤ sz) (_sz_h : sz ≤ 9223372036854775807) (_wh_l : -9223372036854775808 ≤ wh) (_wh_h : wh ≤ 9223372036854775807) (_n_l : -9223372036854775808 ≤ n) (_n_h : n ≤ 9223372036854775807) :
    Calls Try.prog 5 #[.int .i64 sz, .int .i64 wh, .int .i64 n] w fun e w' => e = .returned (.bool true) ∧ Below w.heap.size w w' := by
  obtain ⟨s', hs, hs0, hs1⟩ := norm_mod sz 60000 (by omega) (by omega)
  obtain ⟨v', hv, hv0, hv1⟩ := norm_mod wh 1000 (by omega) (by omega)
  obtain ⟨n', hn, hn0, hn1⟩ := norm_mod n 50 (by omega) (by omega)
  obtain ⟨S, hS⟩ : ∃ z, 1 + s' = z := ⟨_, rfl⟩
  obtain ⟨W, hW⟩ : ∃ z, 1 + v' = z := ⟨_, rfl⟩
  obtain ⟨N, hN⟩ : ∃ N : Nat, 1 + n' = N := ⟨(1 + n').toNat, by omega⟩
  have hSw : wrap64 (1 + s') = S := by rw [← hS]; exact IntWalk.wrap64_in _ ⟨by omega, by omega⟩
  have hWw : wrap64 (1 + v') = W := by rw [← hW]; exact IntWalk.wrap64_in _ ⟨by omega, by omega⟩
  have hNw : wrap64 (1 + n') = N := by rw [← hN]; exact IntWalk.wrap64_in _ ⟨by omega, by omega⟩
  have s0 : 1 ≤ S := by omega
  have s1 : S ≤ 60000 := by omega
  have w0 : 1 ≤ W := by omega
  have w1 : W ≤ 1000 := by omega
  have hN0 : 1 ≤ N := by omega
  have hN1 : N ≤ 50 := by omega
  go_enter Try.func5, Try.ntmps5
  have q_0 := Below.refl w.heap.size w
  go_wp2_with fail
  refine (alive_any _).mono ?_
  rintro e V1 ⟨rfl, b⟩
  have q_1 := q_0.trans (b.mono q_0.size)
  clear q_0
  clear b
  have HL0 : Hid (w.heap.size ≤ V1.heap.size) := Lib.hid q_1.size
  go_wp2_with fail
  have b : Below V1.heap.size V1 (V1.alloc (.cells #[.int .i64 0, .int .i64 0, .int .i64 0, .int .i64 0, .int .i64 0] 43)) := ((Below.refl _ V1).alloc (Nat.le_refl _) (.cells #[.int .i64 0, .int .i64 0, .int .i64 0, .int .i64 0, .int .i64 0] 43))
  have nb0 := blk_new V1 (.cells #[.int .i64 0, .int .i64 0, .int .i64 0, .int .i64 0, .int .i64 0] 43)
  have nz0 : V1.heap.size < (V1.alloc (.cells #[.int .i64 0, .int .i64 0, .int .i64 0, .int .i64 0, .int .i64 0] 43)).heap.size := by simp only [World.size_alloc]; omega
  have q_2 := q_1.trans (b.mono q_1.size)
  clear q_1
  clear b
  have R_2 := Lib.hid nb0
  have Rz_2 := nz0
  clear nb0 nz0
  have Rc0_2 := blk_cell R_2.out 0
  have Rc1_2 := blk_cell R_2.out 1
  have Rc2_2 := blk_cell R_2.out 2
  have Rc3_2 := blk_cell R_2.out 3
  have Rc4_2 := blk_cell R_2.out 4
  generalize (V1.alloc (.cells #[.int .i64 0, .int .i64 0, .int .i64 0, .int .i64 0, .int .i64 0] 43)) = V2 at q_2 R_2 Rz_2 Rc0_2 Rc1_2 Rc2_2 Rc3_2 Rc4_2 ⊢
  clear Rc0_2 Rc1_2 Rc2_2 Rc3_2 Rc4_2
  have HLE : Hid (w.heap.size ≤ V1.heap.size) := Lib.hid HL0.out
  go_loopw [8, 9] (fun no i wr => ∃ (c : Nat) (D T a f : Int), c ≤ N ∧ i = .int .i64 c ∧ no = .int .i64 T ∧ Hid (St c S W D T a f) ∧ wr.heap[V1.heap.size]? = some (.cells #[.int .i64 D, .int .i64 a, .int .i64 f, .int .i64 c, .int .i64 D] 43 (0, 0)) ∧ Below w.heap.size w wr) (fun _ i _ => N - (intOf i).toNat)
  case atStart => exact ⟨0, _, _, _, _, by omega, rfl, rfl, Lib.hid (st_zero S W), R_2.out, q_2⟩
  case round =>
    obtain ⟨c, D, T, a, f, hc, rfl, rfl, HST, h1, hq⟩ := hrel
    have q_0 := hq
    have Rz_0 := blk_lt h1
    have R_0 := Lib.hid (h1)
    have Rc0_0 := blk_cell R_0.out 0
    have Rc1_0 := blk_cell R_0.out 1
    have Rc2_0 := blk_cell R_0.out 2
    have Rc3_0 := blk_cell R_0.out 3
    have Rc4_0 := blk_cell R_0.out 4
    clear h1 hq R_2 q_2 Rz_2
    by_cases hlt : c < N
    · have i1 : (c : Int) < (N : Int) := by omega
      have HN := Lib.hid (st_next HST.out (by omega) s0 s1 w0 w1)
      obtain ⟨D', hD⟩ : ∃ z, D + S = z := ⟨_, rfl⟩
      obtain ⟨T', hT⟩ : ∃ z, T + W = z := ⟨_, rfl⟩
      obtain ⟨K, hK⟩ : ∃ z, S * 1024 / W = z := ⟨_, rfl⟩
      obtain ⟨C', hC⟩ : ∃ z, (c : Int) + 1 = z := ⟨_, rfl⟩
      have hC2 : C' = ((c + 1 : Nat) : Int) := by omega
      rw [hD, hT] at HN
      have hTw : wrap64 (T + W) = T' := by
        obtain ⟨_, _, d0, d1, t0, t1, a0, a1, f0, f1⟩ := HST.out
        rw [← hT]; exact IntWalk.wrap64_in _ ⟨by omega, by omega⟩
      have hCw : wrap64 ((c : Int) + 1) = C' := by
        rw [← hC]; exact IntWalk.wrap64_in _ ⟨by omega, by omega⟩
      have HD := Lib.hid hD
      have HT := Lib.hid hT
      have HK := Lib.hid hK
      have HC := Lib.hid hC
      have HC2 := Lib.hid hC2
      have hcb : (C' != (c : Int) + 1) = false := by rw [hC]; simp
      clear hD hT hC hC2
      have hc50 : c < 50 := by omega
      have hc51 : c ≤ 50 := by omega
      go_wp2_with fail
      refine (sd HST.out hc51 _).mono ?_
      rintro e V21 ⟨rfl, b⟩
      have R_1 := Lib.hid ((b.block _ Rz_0).trans R_0.out)
      have Rz_1 := Nat.lt_of_lt_of_le Rz_0 b.size
      have Rc0_1 := blk_cell R_1.out 0
      have Rc1_1 := blk_cell R_1.out 1
      have Rc2_1 := blk_cell R_1.out 2
      have Rc3_1 := blk_cell R_1.out 3
      have Rc4_1 := blk_cell R_1.out 4
      have q_1 := q_0.trans (b.mono q_0.size)
      clear R_0 Rz_0 Rc0_0 Rc1_0 Rc2_0 Rc3_0 Rc4_0 q_0
      clear b
      go_wp2_with fail
      have b : Below V21.heap.size V21 ((V21.alloc (.cells #[.int .i64 D, .int .i64 T, .int .i64 T, .int .i64 c, .int .i64 D] 43)).alloc (.cells #[.int .i64 D, .int .i64 T, .int .i64 T, .int .i64 T] 44)) := (((Below.refl _ V21).alloc (Nat.le_refl _) (.cells #[.int .i64 D, .int .i64 T, .int .i64 T, .int .i64 c, .int .i64 D] 43)).alloc (by simp only [World.size_alloc]; omega) (.cells #[.int .i64 D, .int .i64 T, .int .i64 T, .int .i64 T] 44))
      have nb0 := blk_new V21 (.cells #[.int .i64 D, .int .i64 T, .int .i64 T, .int .i64 c, .int .i64 D] 43)
      have nb0 := (Below.heap_alloc (V21.alloc (.cells #[.int .i64 D, .int .i64 T, .int .i64 T, .int .i64 c, .int .i64 D] 43)) (.cells #[.int .i64 D, .int .i64 T, .int .i64 T, .int .i64 T] 44) (V21.heap.size) (by simp only [World.size_alloc]; omega)).trans nb0
      have nz0 : V21.heap.size < ((V21.alloc (.cells #[.int .i64 D, .int .i64 T, .int .i64 T, .int .i64 c, .int .i64 D] 43)).alloc (.cells #[.int .i64 D, .int .i64 T, .int .i64 T, .int .i64 T] 44)).heap.size := by simp only [World.size_alloc]; omega
      have nb1 := blk_new (V21.alloc (.cells #[.int .i64 D, .int .i64 T, .int .i64 T, .int .i64 c, .int .i64 D] 43)) (.cells #[.int .i64 D, .int .i64 T, .int .i64 T, .int .i64 T] 44)
      simp only [World.size_alloc] at nb1
      have nz1 : V21.heap.size + 1 < ((V21.alloc (.cells #[.int .i64 D, .int .i64 T, .int .i64 T, .int .i64 c, .int .i64 D] 43)).alloc (.cells #[.int .i64 D, .int .i64 T, .int .i64 T, .int .i64 T] 44)).heap.size := by simp only [World.size_alloc]; omega
      have R_2 := Lib.hid ((b.block _ Rz_1).trans R_1.out)
      have Rz_2 := Nat.lt_of_lt_of_le Rz_1 b.size
      have Rc0_2 := blk_cell R_2.out 0
      have Rc1_2 := blk_cell R_2.out 1
      have Rc2_2 := blk_cell R_2.out 2
      have Rc3_2 := blk_cell R_2.out 3
      have Rc4_2 := blk_cell R_2.out 4
      have q_2 := q_1.trans (b.mono q_1.size)
      clear R_1 Rz_1 Rc0_1 Rc1_1 Rc2_1 Rc3_1 Rc4_1 q_1
      clear b
      have T_2 := Lib.hid nb0
      have Tz_2 := nz0
      clear nb0 nz0
      have Tc0_2 := blk_cell T_2.out 0
      have Tc1_2 := blk_cell T_2.out 1
      have Tc2_2 := blk_cell T_2.out 2
      have Tc3_2 := blk_cell T_2.out 3
      have Tc4_2 := blk_cell T_2.out 4
      have P_2 := Lib.hid nb1
      have Pz_2 := nz1
      clear nb1 nz1
      have Pc0_2 := blk_cell P_2.out 0
      have Pc1_2 := blk_cell P_2.out 1
      have Pc2_2 := blk_cell P_2.out 2
      have Pc3_2 := blk_cell P_2.out 3
      generalize ((V21.alloc (.cells #[.int .i64 D, .int .i64 T, .int .i64 T, .int .i64 c, .int .i64 D] 43)).alloc (.cells #[.int .i64 D, .int .i64 T, .int .i64 T, .int .i64 T] 44)) = V22 at q_2 R_2 Rz_2 Rc0_2 Rc1_2 Rc2_2 Rc3_2 Rc4_2 T_2 Tz_2 Tc0_2 Tc1_2 Tc2_2 Tc3_2 Tc4_2 P_2 Pz_2 Pc0_2 Pc1_2 Pc2_2 Pc3_2 ⊢
      refine (dl HST.out hc50 s0 s1 w0 w1 HD.out HT.out HK.out HC.out _).mono ?_
      rintro e V23 ⟨rfl, b⟩
      have R_3 := Lib.hid ((b.block _ Rz_2).trans R_2.out)
      have Rz_3 := Nat.lt_of_lt_of_le Rz_2 b.size
      have Rc0_3 := blk_cell R_3.out 0
      have Rc1_3 := blk_cell R_3.out 1
      have Rc2_3 := blk_cell R_3.out 2
      have Rc3_3 := blk_cell R_3.out 3
      have Rc4_3 := blk_cell R_3.out 4
      have T_3 := Lib.hid ((b.block _ Tz_2).trans T_2.out)
      have Tz_3 := Nat.lt_of_lt_of_le Tz_2 b.size
      have Tc0_3 := blk_cell T_3.out 0
      have Tc1_3 := blk_cell T_3.out 1
      have Tc2_3 := blk_cell T_3.out 2
      have Tc3_3 := blk_cell T_3.out 3
      have Tc4_3 := blk_cell T_3.out 4
      have P_3 := Lib.hid ((b.block _ Pz_2).trans P_2.out)
      have Pz_3 := Nat.lt_of_lt_of_le Pz_2 b.size
      have Pc0_3 := blk_cell P_3.out 0
      have Pc1_3 := blk_cell P_3.out 1
      have Pc2_3 := blk_cell P_3.out 2
      have Pc3_3 := blk_cell P_3.out 3
      have q_3 := q_2.trans (b.mono q_2.size)
      clear R_2 Rz_2 Rc0_2 Rc1_2 Rc2_2 Rc3_2 Rc4_2 T_2 Tz_2 Tc0_2 Tc1_2 Tc2_2 Tc3_2 Tc4_2 P_2 Pz_2 Pc0_2 Pc1_2 Pc2_2 Pc3_2 q_2
      clear b
      go_wp2_with fail
      have b : Below V23.heap.size V23 (V23.alloc (.cells #[.int .i64 D', .int .i64 T', .int .i64 T, .int .i64 C', .int .i64 D'] 43)) := ((Below.refl _ V23).alloc (Nat.le_refl _) (.cells #[.int .i64 D', .int .i64 T', .int .i64 T, .int .i64 C', .int .i64 D'] 43))
      have nb0 := blk_new V23 (.cells #[.int .i64 D', .int .i64 T', .int .i64 T, .int .i64 C', .int .i64 D'] 43)
      have nz0 : V23.heap.size < (V23.alloc (.cells #[.int .i64 D', .int .i64 T', .int .i64 T, .int .i64 C', .int .i64 D'] 43)).heap.size := by simp only [World.size_alloc]; omega
      have R_4 := Lib.hid ((b.block _ Rz_3).trans R_3.out)
      have Rz_4 := Nat.lt_of_lt_of_le Rz_3 b.size
      have Rc0_4 := blk_cell R_4.out 0
      have Rc1_4 := blk_cell R_4.out 1
      have Rc2_4 := blk_cell R_4.out 2
      have Rc3_4 := blk_cell R_4.out 3
      have Rc4_4 := blk_cell R_4.out 4
      have T_4 := Lib.hid ((b.block _ Tz_3).trans T_3.out)
      have Tz_4 := Nat.lt_of_lt_of_le Tz_3 b.size
      have Tc0_4 := blk_cell T_4.out 0
      have Tc1_4 := blk_cell T_4.out 1
      have Tc2_4 := blk_cell T_4.out 2
      have Tc3_4 := blk_cell T_4.out 3
      have Tc4_4 := blk_cell T_4.out 4
      have P_4 := Lib.hid ((b.block _ Pz_3).trans P_3.out)
      have Pz_4 := Nat.lt_of_lt_of_le Pz_3 b.size
      have Pc0_4 := blk_cell P_4.out 0
      have Pc1_4 := blk_cell P_4.out 1
      have Pc2_4 := blk_cell P_4.out 2
      have Pc3_4 := blk_cell P_4.out 3
      have q_4 := q_3.trans (b.mono q_3.size)
      clear R_3 Rz_3 Rc0_3 Rc1_3 Rc2_3 Rc3_3 Rc4_3 T_3 Tz_3 Tc0_3 Tc1_3 Tc2_3 Tc3_3 Tc4_3 P_3 Pz_3 Pc0_3 Pc1_3 Pc2_3 Pc3_3 q_3
      clear b
      have U_4 := Lib.hid nb0
      have Uz_4 := nz0
      clear nb0 nz0
      have Uc0_4 := blk_cell U_4.out 0
      have Uc1_4 := blk_cell U_4.out 1
      have Uc2_4 := blk_cell U_4.out 2
      have Uc3_4 := blk_cell U_4.out 3
      have Uc4_4 := blk_cell U_4.out 4
      generalize (V23.alloc (.cells #[.int .i64 D', .int .i64 T', .int .i64 T, .int .i64 C', .int .i64 D'] 43)) = V24 at q_4 R_4 Rz_4 Rc0_4 Rc1_4 Rc2_4 Rc3_4 Rc4_4 T_4 Tz_4 Tc0_4 Tc1_4 Tc2_4 Tc3_4 Tc4_4 P_4 Pz_4 Pc0_4 Pc1_4 Pc2_4 Pc3_4 U_4 Uz_4 Uc0_4 Uc1_4 Uc2_4 Uc3_4 Uc4_4 ⊢
      clear Tc0_4 Tc1_4 Tc2_4 Tc3_4 Tc4_4
      clear Pc0_4 Pc1_4 Pc2_4 Pc3_4
      refine (num_any _ _).mono ?_
      rintro e w' ⟨rfl, rfl⟩
      go_wp2_with fail
      refine (num_any _ _).mono ?_
      rintro e w' ⟨rfl, rfl⟩
      have Rf0 := blk_free R_4.out 0
      have Rf1 := blk_free R_4.out 1
      have Rf2 := blk_free R_4.out 2
      have Rf3 := blk_free R_4.out 3
      have Rf4 := blk_free R_4.out 4
      have hle := HLE.out
      go_wp2
      go_roundw
      case rel =>
        refine ⟨c + 1, D', T', T', T, by omega, by first | go_num | rw [HC2.out] | rw [HC.out, HC2.out], by first | rfl | rw [hTw], HN, ?_, ?_⟩
        · exact (blk_all5 R_4.out (.int .i64 D') (.int .i64 T') (.int .i64 T) (.int .i64 C') (.int .i64 D')).trans (by rw [HC2.out])
        · have Q1 := Lib.hid q_4
          (repeat' (first | (with_reducible exact Q1.out) | (with_reducible exact Below.refl _ _) | (with_reducible refine Below.alloc ?_ ?_ _) | (with_reducible refine Below.setCell ?_ ?_ _) | (with_reducible refine Below.drew ?_) | (with_reducible refine below_drewN ?_ _) | omega | (dsimp only; omega) | (simp; done) | (simp; omega)))
      case measure => simp [intOf]; omega
    · obtain rfl : c = N := by omega
      have hD : wrap64 ((c : Int) * S) = D := by
        obtain ⟨h, _, d0, d1, t0, t1, a0, a1, f0, f1⟩ := HST.out
        rw [← h]; exact IntWalk.wrap64_in _ ⟨by omega, by omega⟩
      go_wp2
      go_ret
      exact ⟨rfl, q_0⟩

theorem own : ownKnob Try.prog.godebug = none := by kernel_rfl

set_option maxRecDepth 100000 in
set_option maxHeartbeats 2000000 in
theorem lifted (os : Os) (started : os.Started) (H : Type) (enc : TypeId × Value → H) :
    ReturnsInHanded {} Try.checked os 5 .any (Rows.prrSteadySpec.pre6 enc Try.prog Try.f5 Rows.prrSteadyRow.domain false) (Rows.prrSteadySpec.post enc Try.prog Try.f5 false true false false) := by
  refine returnsInHanded_of_change_sized (C := Try.checked) own started (by kernel_rfl) Try.func5
    (ChangeSpec.witness6 (enc := enc) (C := Try.checked) false ⟨#[], #[.int .i64 0, .int .i64 0, .int .i64 0], []⟩ 8 (by kernel_rfl) (by kernel_rfl) (by kernel_rfl) (by kernel_rfl)) ?_
  intro W base args ds gs before hval0 hW hcnd hsz0 _
  have hval : ∀ (j : Nat) t v, Try.f5.params[j]? = some t → args[j]? = some v → Value.okWide Try.prog W .any base t v := hval0
  have hW' := hW
  obtain ⟨p, q, hA0, hV, rfl, hfz, hnd⟩ := hW
  have hA : DataW.TrodAll enc Try.prog W 0 (fun _ => true) true Try.f5.params.toList args.toList ds p := hA0
  rw [Try.params5] at hA hval
  obtain ⟨v0, vs0, d0, ds0, p0, q0, hargs, rfl, rfl, h0, r0⟩ := trodAll_cons hA
  obtain ⟨v1, vs1, d1, ds1, p1, q1, rfl, rfl, rfl, h1, r1⟩ := trodAll_cons r0
  obtain ⟨v2, vs2, d2, ds2, p2, q2, rfl, rfl, rfl, h2, r2⟩ := trodAll_cons r1
  obtain ⟨rfl, rfl, rfl⟩ := trodAll_nil r2
  obtain rfl : args = #[v0, v1, v2] := by cases args; simp_all
  obtain ⟨rfl, rfl⟩ := trodVars_none hV
  obtain ⟨a0, rfl, rfl, rfl, w0⟩ := open_int Try.underlying3 (hval 0 3 v0 rfl rfl) h0
  obtain ⟨a1, rfl, rfl, rfl, w1⟩ := open_int Try.underlying3 (hval 1 3 v1 rfl rfl) h1
  obtain ⟨a2, rfl, rfl, rfl, w2⟩ := open_int Try.underlying3 (hval 2 3 v2 rfl rfl) h2
  clear hA0
  obtain ⟨lo0, hi0⟩ := bounds_i64 w0
  obtain ⟨lo1, hi1⟩ := bounds_i64 w1
  obtain ⟨lo2, hi2⟩ := bounds_i64 w2
  refine (walk a0 a1 a2 W lo0 hi0 lo1 hi1 lo2 hi2).mono fun e W' ⟨he, bel⟩ => ?_
  subst he
  exact ⟨_, rfl, _, _, _, [], _, [], hW', trodAll_mk1 (shut_bool Try.underlying4 _), (trodAll_cons_mk (shut_int Try.underlying3 w0) (trodAll_cons_mk (shut_int Try.underlying3 w1) (trodAll_cons_mk (shut_int Try.underlying3 w2) trodAll_mk0))), rfl, bel.frame _, fun h => by cases h⟩

theorem over : Rows.prrSteadyRow.holds Try.pinned (OpenSpec.ofChange Rows.prrSteadySpec) :=
  OpenClaim.holds_of_wide 5 Try.f5 rfl rfl rfl rfl rfl rfl rfl ⟨rfl, rfl, rfl, rfl, rfl⟩ rfl rfl rfl rfl rfl (by kernel_rfl) Try.func5 (by kernel_rfl)
    (of_decide_eq_true (by kernel_rfl)) (by unfold Func.isWrapper; first | (rw [if_pos (by decide +kernel)]; kernel_rfl) | (rw [if_neg (by decide +kernel)]; exact ⟨rfl, rfl⟩))
    (fun os started H enc _ => lifted os started H enc)

end Go.Proofs.Ytlkpcojhpndieaa.prrSteady
namespace Go.Proofs.Ytlkpcojhpndieaa
/-- The statement. -/
theorem prrSteady_holds : Rows.PrrSteadySaid := prrSteady.over
#print axioms prrSteady_holds
end Go.Proofs.Ytlkpcojhpndieaa
