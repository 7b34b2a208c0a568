/- For every sample and number of times that run out: each time that runs out doubles the wait, up to the greatest; a sample ends that. No condition. -/
import Derived.Test.YtmpgpmdocofmgaaRows
import Derived.Test.YtmpgpmdocofmgaaRttA
import Derived.Test.YtmpgpmdocofmgaaGAgg
import Derived.ProofKit
import Derived.OpenShut
import Derived.ChangeOld
import Derived.SizedLaws
namespace Go.Proofs.Ytmpgpmdocofmgaa.rttBacks
open Go.ChangeShapes Go.WideShapes Go.ChangeAt Go.RowKit Go.Deep Go.Proofs.Ytmpgpmdocofmgaa.Rt8

theorem hPP : PV 1000 1 1073741824 1 := by decide
/-- Its first sample. -/
theorem sm1 (R : Int) (w : World) (h0 : 1 ≤ R) (h1 : R ≤ 1000) : Calls Try.prog 7 #[.agg #[.int .i64 1000, .int .i64 1, .int .i64 1073741824, .int .i64 1], .agg #[.bool false, .int .i64 0, .int .i64 0, .int .i64 0], .int .i64 R] w fun e w' => e = .returned (.tuple #[.agg #[.bool true, .int .i64 (8 * R), .int .i64 (2 * R), .int .i64 0], .int .i64 0]) ∧ Below w.heap.size w w' :=
  sample_ok 1000 1 1073741824 1 false 0 0 0 R w hPP (by decide) ⟨by omega, by omega⟩
theorem bk1 (R : Int) (b : Int) (w : World) (h0 : 1 ≤ R) (h1 : R ≤ 1000) (b0 : 0 ≤ b) (b1 : b ≤ 15) : Calls Try.prog 9 #[.agg #[.int .i64 1000, .int .i64 1, .int .i64 1073741824, .int .i64 1], .agg #[.bool true, .int .i64 (8 * R), .int .i64 (2 * R), .int .i64 b]] w fun e w' => e = .returned (.tuple #[.agg #[.bool true, .int .i64 (8 * R), .int .i64 (2 * R), .int .i64 (b + 1)], .int .i64 0]) ∧ Below w.heap.size w w' :=
  (back_ok 1000 1 1073741824 1 true (8 * R) (2 * R) b w hPP ⟨by omega, by omega, b0, by omega⟩).mono fun e w' ⟨h1, h2⟩ => ⟨by rw [h1, show min (b + 1) 16 = b + 1 by omega], h2⟩
theorem rt1 (R b M : Int) (w : World) (h0 : 1 ≤ R) (h1 : R ≤ 1000) (b0 : 0 ≤ b) (b1 : b ≤ 15) (hM : min (3 * R * 2 ^ b.toNat) 1073741824 = M) : Calls Try.prog 11 #[.agg #[.int .i64 1000, .int .i64 1, .int .i64 1073741824, .int .i64 1], .agg #[.bool true, .int .i64 (8 * R), .int .i64 (2 * R), .int .i64 b]] w fun e w' => e = .returned (.tuple #[.int .i64 M, .int .i64 0]) ∧ Below w.heap.size w w' := by
  subst hM
  refine (rto_ok 1000 1 1073741824 1 true (8 * R) (2 * R) b w hPP ⟨by omega, by omega, b0, by omega⟩).mono fun e w' ⟨h1, h2⟩ => ⟨?_, h2⟩
  rw [h1]
  have e : max (wt true 1000 1 (8 * R) (2 * R)) 1 = 3 * R := by rw [wt, if_pos rfl]; omega
  rw [rto, if_pos rfl, e]
theorem sm2 (R b : Int) (w : World) (h0 : 1 ≤ R) (h1 : R ≤ 1000) (b0 : 0 ≤ b) (b1 : b ≤ 15) : Calls Try.prog 7 #[.agg #[.int .i64 1000, .int .i64 1, .int .i64 1073741824, .int .i64 1], .agg #[.bool true, .int .i64 (8 * R), .int .i64 (2 * R), .int .i64 b], .int .i64 R] w fun e w' => (∃ s v, e = .returned (.tuple #[.agg #[.bool true, .int .i64 s, .int .i64 v, .int .i64 0], .int .i64 0])) ∧ Below w.heap.size w w' :=
  (sample_ok 1000 1 1073741824 1 true (8 * R) (2 * R) b R w hPP ⟨by omega, by omega, b0, by omega⟩ ⟨by omega, by omega⟩).mono fun e w' ⟨h1, h2⟩ => ⟨⟨_, _, h1⟩, h2⟩

set_option maxRecDepth 100000 in
set_option maxHeartbeats 1000000 in
theorem walk (r k : Int) (w : World) (_r1 : -9223372036854775808 ≤ r) (_r2 : r ≤ 9223372036854775807) (_k1 : -9223372036854775808 ≤ k) (_k2 : k ≤ 9223372036854775807) :
    Calls Try.prog 6 #[.int .i64 r, .int .i64 k] w fun e w' => e = .returned (.bool true) ∧ Below w.heap.size w w' := by
  obtain ⟨r', hr, hr0, hr1⟩ := norm_mod r 1000 (by omega) (by omega)
  obtain ⟨k', hk, hk0, hk1⟩ := norm_mod k 16 (by omega) (by omega)
  obtain ⟨R, hR⟩ : ∃ R, 1 + r' = R := ⟨_, rfl⟩
  have hR0 : 1 ≤ R := by omega
  have hR1 : R ≤ 1000 := by omega
  have hRw : wrap64 (1 + r') = R := by rw [hR]; exact IntWalk.wrap64_in _ ⟨by omega, by omega⟩
  obtain ⟨K, rfl⟩ : ∃ K : Nat, k' = K := ⟨k'.toNat, by omega⟩
  go_enter Try.func6, Try.ntmps6
  have q_0 := Below.refl w.heap.size w
  go_wp2_with fail
  refine (alive_any _).mono ?_
  rintro e V1 ⟨rfl, b⟩
  have q_1 := q_0.trans (b.mono q_0.size)
  clear q_0
  clear b
  go_wp2_with fail
  have b : Below V1.heap.size V1 (V1.alloc (.cells #[.int .i64 1000, .int .i64 1, .int .i64 1073741824, .int .i64 1] 26)) := ((Below.refl _ V1).alloc (Nat.le_refl _) (.cells #[.int .i64 1000, .int .i64 1, .int .i64 1073741824, .int .i64 1] 26))
  have nb0 := blk_new V1 (.cells #[.int .i64 1000, .int .i64 1, .int .i64 1073741824, .int .i64 1] 26)
  have nz0 : V1.heap.size < (V1.alloc (.cells #[.int .i64 1000, .int .i64 1, .int .i64 1073741824, .int .i64 1] 26)).heap.size := by simp only [World.size_alloc]; omega
  have q_2 := q_1.trans (b.mono q_1.size)
  clear q_1
  clear b
  have P_2 := Lib.hid nb0
  have Pz_2 := nz0
  clear nb0 nz0
  have Pc0_2 := blk_cell P_2.out 0
  have Pc1_2 := blk_cell P_2.out 1
  have Pc2_2 := blk_cell P_2.out 2
  have Pc3_2 := blk_cell P_2.out 3
  generalize (V1.alloc (.cells #[.int .i64 1000, .int .i64 1, .int .i64 1073741824, .int .i64 1] 26)) = V2 at q_2 P_2 Pz_2 Pc0_2 Pc1_2 Pc2_2 Pc3_2 ⊢
  refine (sm1 R _ hR0 hR1).mono ?_
  rintro e V3 ⟨rfl, b⟩
  have P_3 := Lib.hid ((b.block _ Pz_2).trans P_2.out)
  have Pz_3 := Nat.lt_of_lt_of_le Pz_2 b.size
  have Pc0_3 := blk_cell P_3.out 0
  have Pc1_3 := blk_cell P_3.out 1
  have Pc2_3 := blk_cell P_3.out 2
  have Pc3_3 := blk_cell P_3.out 3
  have q_3 := q_2.trans (b.mono q_2.size)
  clear P_2 Pz_2 Pc0_2 Pc1_2 Pc2_2 Pc3_2 q_2
  clear b
  have HLE : Hid (w.heap.size ≤ V3.heap.size) := Lib.hid (by have := q_3.size; omega)
  have HNE : Hid (V3.heap.size ≠ V1.heap.size) := Lib.hid (by omega)
  go_wp2_with fail
  have b : Below V3.heap.size V3 (V3.alloc (.cells #[.bool true, .int .i64 (8 * R), .int .i64 (2 * R), .int .i64 0] 27)) := ((Below.refl _ V3).alloc (Nat.le_refl _) (.cells #[.bool true, .int .i64 (8 * R), .int .i64 (2 * R), .int .i64 0] 27))
  have nb0 := blk_new V3 (.cells #[.bool true, .int .i64 (8 * R), .int .i64 (2 * R), .int .i64 0] 27)
  have nz0 : V3.heap.size < (V3.alloc (.cells #[.bool true, .int .i64 (8 * R), .int .i64 (2 * R), .int .i64 0] 27)).heap.size := by simp only [World.size_alloc]; omega
  have P_4 := Lib.hid ((b.block _ Pz_3).trans P_3.out)
  have Pz_4 := Nat.lt_of_lt_of_le Pz_3 b.size
  have Pc0_4 := blk_cell P_4.out 0
  have Pc1_4 := blk_cell P_4.out 1
  have Pc2_4 := blk_cell P_4.out 2
  have Pc3_4 := blk_cell P_4.out 3
  have q_4 := q_3.trans (b.mono q_3.size)
  clear P_3 Pz_3 Pc0_3 Pc1_3 Pc2_3 Pc3_3 q_3
  clear b
  have T_4 := Lib.hid nb0
  have Tz_4 := nz0
  clear nb0 nz0
  have Tc0_4 := blk_cell T_4.out 0
  have Tc1_4 := blk_cell T_4.out 1
  have Tc2_4 := blk_cell T_4.out 2
  have Tc3_4 := blk_cell T_4.out 3
  generalize (V3.alloc (.cells #[.bool true, .int .i64 (8 * R), .int .i64 (2 * R), .int .i64 0] 27)) = V4 at q_4 P_4 Pz_4 Pc0_4 Pc1_4 Pc2_4 Pc3_4 T_4 Tz_4 Tc0_4 Tc1_4 Tc2_4 Tc3_4 ⊢
  refine (rt1 R 0 (3 * R) _ hR0 hR1 (by omega) (by omega) (by simp; omega)).mono ?_
  rintro e V5 ⟨rfl, b⟩
  have P_5 := Lib.hid ((b.block _ Pz_4).trans P_4.out)
  have Pz_5 := Nat.lt_of_lt_of_le Pz_4 b.size
  have Pc0_5 := blk_cell P_5.out 0
  have Pc1_5 := blk_cell P_5.out 1
  have Pc2_5 := blk_cell P_5.out 2
  have Pc3_5 := blk_cell P_5.out 3
  have T_5 := Lib.hid ((b.block _ Tz_4).trans T_4.out)
  have Tz_5 := Nat.lt_of_lt_of_le Tz_4 b.size
  have Tc0_5 := blk_cell T_5.out 0
  have Tc1_5 := blk_cell T_5.out 1
  have Tc2_5 := blk_cell T_5.out 2
  have Tc3_5 := blk_cell T_5.out 3
  have q_5 := q_4.trans (b.mono q_4.size)
  clear P_4 Pz_4 Pc0_4 Pc1_4 Pc2_4 Pc3_4 T_4 Tz_4 Tc0_4 Tc1_4 Tc2_4 Tc3_4 q_4
  clear b
  go_wp2_with fail
  refine (num_any _ _).mono ?_
  rintro e w' ⟨rfl, rfl⟩
  go_wp2_with fail
  refine (num_any _ _).mono ?_
  rintro e w' ⟨rfl, rfl⟩
  clear Pc0_5 Pc1_5 Pc2_5 Pc3_5
  clear Tc0_5 Tc1_5 Tc2_5 Tc3_5
  go_wp2_with fail
  go_loopw [10] (fun i wr => ∃ c : Nat, c ≤ K ∧ i = .int .i64 c ∧ wr.heap[V1.heap.size]? = some (.cells #[.int .i64 1000, .int .i64 1, .int .i64 1073741824, .int .i64 1] 26 (0, 0)) ∧ wr.heap[V3.heap.size]? = some (.cells #[.bool true, .int .i64 (8 * R), .int .i64 (2 * R), .int .i64 c] 27 (0, 0)) ∧ V3.heap.size ≠ V1.heap.size ∧ Below w.heap.size w wr) (fun i _ => K - (intOf i).toNat)
  case atStart => exact ⟨0, by omega, rfl, P_5.out, T_5.out, HNE.out, q_5⟩
  case round =>
    obtain ⟨c, hc, rfl, h1, h2, hne, hq⟩ := hrel
    have q_0 := hq
    have Pz_0 := blk_lt h1
    have Tz_0 := blk_lt h2
    have P_0 := Lib.hid (h1)
    have Pc0_0 := blk_cell P_0.out 0
    have Pc1_0 := blk_cell P_0.out 1
    have Pc2_0 := blk_cell P_0.out 2
    have Pc3_0 := blk_cell P_0.out 3
    have T_0 := Lib.hid (h2)
    have Tc0_0 := blk_cell T_0.out 0
    have Tc1_0 := blk_cell T_0.out 1
    have Tc2_0 := blk_cell T_0.out 2
    have Tc3_0 := blk_cell T_0.out 3
    have NE := Lib.hid hne
    clear h1 h2 hq hne P_5 T_5 q_5 Pz_5 Tz_5
    by_cases hlt : c < K
    · have i1 : (c : Int) < (K : Int) := by omega
      go_wp2_with fail
      refine (bk1 R c _ hR0 hR1 (by omega) (by omega)).mono ?_
      rintro e V21 ⟨rfl, b⟩
      have P_1 := Lib.hid ((b.block _ Pz_0).trans P_0.out)
      have Pz_1 := Nat.lt_of_lt_of_le Pz_0 b.size
      have Pc0_1 := blk_cell P_1.out 0
      have Pc1_1 := blk_cell P_1.out 1
      have Pc2_1 := blk_cell P_1.out 2
      have Pc3_1 := blk_cell P_1.out 3
      have T_1 := Lib.hid ((b.block _ Tz_0).trans T_0.out)
      have Tz_1 := Nat.lt_of_lt_of_le Tz_0 b.size
      have Tc0_1 := blk_cell T_1.out 0
      have Tc1_1 := blk_cell T_1.out 1
      have Tc2_1 := blk_cell T_1.out 2
      have Tc3_1 := blk_cell T_1.out 3
      have q_1 := q_0.trans (b.mono q_0.size)
      clear P_0 Pz_0 Pc0_0 Pc1_0 Pc2_0 Pc3_0 T_0 Tz_0 Tc0_0 Tc1_0 Tc2_0 Tc3_0 q_0
      clear b
      have Tf0 := blk_free T_1.out 0
      have Tf1 := blk_free T_1.out 1
      have Tf2 := blk_free T_1.out 2
      have Tf3 := blk_free T_1.out 3
      go_wp2
      go_roundw
      case rel =>
        refine ⟨c + 1, by omega, by go_num, blk_other (blk_other (blk_other (blk_other P_1.out NE.out _) NE.out _) NE.out _) NE.out _, blk_set (blk_set (blk_set (blk_set T_1.out 0 _) 1 _) 2 _) 3 _, NE.out, ?_⟩
        have Q1 := Lib.hid q_1
        have hle := HLE.out
        (repeat' (first | (with_reducible exact Q1.out) | (with_reducible exact Below.refl _ _) | (with_reducible refine Below.alloc ?_ ?_ _) | (with_reducible refine Below.setCell ?_ ?_ _) | (with_reducible refine Below.drew ?_) | (with_reducible refine below_drewN ?_ _) | omega | (dsimp only; omega) | (simp; done) | (simp; omega)))
      case measure => simp [intOf]; omega
    · obtain rfl : c = K := by omega
      obtain ⟨M, hM⟩ : ∃ M, min (3 * R * 2 ^ (c : Int).toNat) 1073741824 = M := ⟨_, rfl⟩
      have hM2 := shl_in (3 * R) (c : Int) (by omega) (by omega) (by omega) (by omega)
      have HM := Lib.hid hM
      have HM2 := Lib.hid hM2
      clear hM hM2
      go_wp2_with fail
      refine (rt1 R c M _ hR0 hR1 (by omega) (by omega) HM.out).mono ?_
      rintro e V31 ⟨rfl, b⟩
      have P_1 := Lib.hid ((b.block _ Pz_0).trans P_0.out)
      have Pz_1 := Nat.lt_of_lt_of_le Pz_0 b.size
      have Pc0_1 := blk_cell P_1.out 0
      have Pc1_1 := blk_cell P_1.out 1
      have Pc2_1 := blk_cell P_1.out 2
      have Pc3_1 := blk_cell P_1.out 3
      have T_1 := Lib.hid ((b.block _ Tz_0).trans T_0.out)
      have Tz_1 := Nat.lt_of_lt_of_le Tz_0 b.size
      have Tc0_1 := blk_cell T_1.out 0
      have Tc1_1 := blk_cell T_1.out 1
      have Tc2_1 := blk_cell T_1.out 2
      have Tc3_1 := blk_cell T_1.out 3
      have q_1 := q_0.trans (b.mono q_0.size)
      clear P_0 Pz_0 Pc0_0 Pc1_0 Pc2_0 Pc3_0 T_0 Tz_0 Tc0_0 Tc1_0 Tc2_0 Tc3_0 q_0
      clear b
      go_wp2_with fail
      refine (sm2 R c _ hR0 hR1 (by omega) (by omega)).mono ?_
      rintro e V32 ⟨⟨s', v', rfl⟩, b⟩
      have P_2 := Lib.hid ((b.block _ Pz_1).trans P_1.out)
      have Pz_2 := Nat.lt_of_lt_of_le Pz_1 b.size
      have Pc0_2 := blk_cell P_2.out 0
      have Pc1_2 := blk_cell P_2.out 1
      have Pc2_2 := blk_cell P_2.out 2
      have Pc3_2 := blk_cell P_2.out 3
      have T_2 := Lib.hid ((b.block _ Tz_1).trans T_1.out)
      have Tz_2 := Nat.lt_of_lt_of_le Tz_1 b.size
      have Tc0_2 := blk_cell T_2.out 0
      have Tc1_2 := blk_cell T_2.out 1
      have Tc2_2 := blk_cell T_2.out 2
      have Tc3_2 := blk_cell T_2.out 3
      have q_2 := q_1.trans (b.mono q_1.size)
      clear P_1 Pz_1 Pc0_1 Pc1_1 Pc2_1 Pc3_1 T_1 Tz_1 Tc0_1 Tc1_1 Tc2_1 Tc3_1 q_1
      clear b
      go_wp2_with fail
      have b : Below V32.heap.size V32 (V32.alloc (.cells #[.bool true, .int .i64 s', .int .i64 v', .int .i64 0] 27)) := ((Below.refl _ V32).alloc (Nat.le_refl _) (.cells #[.bool true, .int .i64 s', .int .i64 v', .int .i64 0] 27))
      have nb0 := blk_new V32 (.cells #[.bool true, .int .i64 s', .int .i64 v', .int .i64 0] 27)
      have nz0 : V32.heap.size < (V32.alloc (.cells #[.bool true, .int .i64 s', .int .i64 v', .int .i64 0] 27)).heap.size := by simp only [World.size_alloc]; omega
      have P_3 := Lib.hid ((b.block _ Pz_2).trans P_2.out)
      have Pz_3 := Nat.lt_of_lt_of_le Pz_2 b.size
      have Pc0_3 := blk_cell P_3.out 0
      have Pc1_3 := blk_cell P_3.out 1
      have Pc2_3 := blk_cell P_3.out 2
      have Pc3_3 := blk_cell P_3.out 3
      have T_3 := Lib.hid ((b.block _ Tz_2).trans T_2.out)
      have Tz_3 := Nat.lt_of_lt_of_le Tz_2 b.size
      have Tc0_3 := blk_cell T_3.out 0
      have Tc1_3 := blk_cell T_3.out 1
      have Tc2_3 := blk_cell T_3.out 2
      have Tc3_3 := blk_cell T_3.out 3
      have q_3 := q_2.trans (b.mono q_2.size)
      clear P_2 Pz_2 Pc0_2 Pc1_2 Pc2_2 Pc3_2 T_2 Tz_2 Tc0_2 Tc1_2 Tc2_2 Tc3_2 q_2
      clear b
      have X_3 := Lib.hid nb0
      have Xz_3 := nz0
      clear nb0 nz0
      have Xc0_3 := blk_cell X_3.out 0
      have Xc1_3 := blk_cell X_3.out 1
      have Xc2_3 := blk_cell X_3.out 2
      have Xc3_3 := blk_cell X_3.out 3
      generalize (V32.alloc (.cells #[.bool true, .int .i64 s', .int .i64 v', .int .i64 0] 27)) = V33 at q_3 P_3 Pz_3 Pc0_3 Pc1_3 Pc2_3 Pc3_3 T_3 Tz_3 Tc0_3 Tc1_3 Tc2_3 Tc3_3 X_3 Xz_3 Xc0_3 Xc1_3 Xc2_3 Xc3_3 ⊢
      refine (num_any _ _).mono ?_
      rintro e w' ⟨rfl, rfl⟩
      go_wp2_with fail
      refine (num_any _ _).mono ?_
      rintro e w' ⟨rfl, rfl⟩
      have e2 := HM2.out
      have e3 := HM.out
      rw [Int.toNat_natCast] at e2 e3
      go_wp2
      go_ret
      exact ⟨rfl, q_3⟩

theorem own : ownKnob Try.prog.godebug = none := by kernel_rfl

set_option maxRecDepth 100000 in
set_option maxHeartbeats 2000000 in
theorem lifted (os : Os) (started : os.Started) (H : Type) (enc : TypeId × Value → H) :
    ReturnsInHanded {} Try.checked os 6 .any (Rows.rttBacksSpec.pre6 enc Try.prog Try.f6 Rows.rttBacksRow.domain false) (Rows.rttBacksSpec.post enc Try.prog Try.f6 false true false false) := by
  refine returnsInHanded_of_change_sized (C := Try.checked) own started (by kernel_rfl) Try.func6
    (ChangeSpec.witness6 (enc := enc) (C := Try.checked) false ⟨#[], #[.int .i64 0, .int .i64 0], []⟩ 8 (by kernel_rfl) (by kernel_rfl) (by kernel_rfl) (by kernel_rfl)) ?_
  intro W base args ds gs before hval0 hW hcnd hsz0 _
  have hval : ∀ (j : Nat) t v, Try.f6.params[j]? = some t → args[j]? = some v → Value.okWide Try.prog W .any base t v := hval0
  have hW' := hW
  obtain ⟨p, q, hA0, hV, rfl, hfz, hnd⟩ := hW
  have hA : DataW.TrodAll enc Try.prog W 0 (fun _ => true) true Try.f6.params.toList args.toList ds p := hA0
  rw [Try.params6] at hA hval
  obtain ⟨v0, vs0, d0, ds0, p0, q0, hargs, rfl, rfl, h0, r0⟩ := trodAll_cons hA
  obtain ⟨v1, vs1, d1, ds1, p1, q1, rfl, rfl, rfl, h1, r1⟩ := trodAll_cons r0
  obtain ⟨rfl, rfl, rfl⟩ := trodAll_nil r1
  obtain rfl : args = #[v0, v1] := by cases args; simp_all
  obtain ⟨rfl, rfl⟩ := trodVars_none hV
  obtain ⟨a0, rfl, rfl, rfl, w0⟩ := open_int Try.underlying3 (hval 0 3 v0 rfl rfl) h0
  obtain ⟨a1, rfl, rfl, rfl, w1⟩ := open_int Try.underlying3 (hval 1 3 v1 rfl rfl) h1
  clear hA0
  obtain ⟨lo0, hi0⟩ := bounds_i64 w0
  obtain ⟨lo1, hi1⟩ := bounds_i64 w1
  refine (walk a0 a1 W lo0 hi0 lo1 hi1).mono fun e W' ⟨he, bel⟩ => ?_
  subst he
  exact ⟨_, rfl, _, _, _, [], _, [], hW', trodAll_mk1 (shut_bool Try.underlying4 _), (trodAll_cons_mk (shut_int Try.underlying3 w0) (trodAll_cons_mk (shut_int Try.underlying3 w1) trodAll_mk0)), rfl, bel.frame _, fun h => by cases h⟩

theorem over : Rows.rttBacksRow.holds Try.pinned (OpenSpec.ofChange Rows.rttBacksSpec) :=
  OpenClaim.holds_of_wide 6 Try.f6 rfl rfl rfl rfl rfl rfl rfl ⟨rfl, rfl, rfl, rfl, rfl⟩ rfl rfl rfl rfl rfl (by kernel_rfl) Try.func6 (by kernel_rfl)
    (of_decide_eq_true (by kernel_rfl)) (by unfold Func.isWrapper; first | (rw [if_pos (by decide +kernel)]; kernel_rfl) | (rw [if_neg (by decide +kernel)]; exact ⟨rfl, rfl⟩))
    (fun os started H enc _ => lifted os started H enc)

end Go.Proofs.Ytmpgpmdocofmgaa.rttBacks
namespace Go.Proofs.Ytmpgpmdocofmgaa
/-- The statement. -/
theorem rttBacks_holds : Rows.RttBacksSaid := rttBacks.over
#print axioms rttBacks_holds
end Go.Proofs.Ytmpgpmdocofmgaa
