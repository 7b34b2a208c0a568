/- For every answer's time and number of answers: answers that take always the same: the mean is that, and the wait comes down to a little above it. No condition. -/
import Derived.Test.YtmpgpmdocofmgaaRows
import Derived.Test.YtmpgpmdocofmgaaRttA
import Derived.Test.YtmpgpmdocofmgaaGAgg
import Derived.RegionTactic
import Derived.ProofKit
import Derived.OpenShut
import Derived.ChangeOld
import Derived.SizedLaws
namespace Go.Proofs.Ytmpgpmdocofmgaa.rttSteady
open Go.ChangeShapes Go.WideShapes Go.ChangeAt Go.RowKit Go.Deep Go.Proofs.Ytmpgpmdocofmgaa.Rt8

def St (c : Nat) (R : Int) (hb : Bool) (S V last : Int) : Prop :=
  (c = 0 ∧ hb = false ∧ S = 0 ∧ V = 0 ∧ last = 1099511627776) ∨ (1 ≤ c ∧ hb = true ∧ S = 8 * R ∧ last = V ∧ 0 ≤ V ∧ V ≤ 2 * R ∧ (V - 3) * 4 ^ min (c - 1) 39 ≤ 3 ^ min (c - 1) 39 * (2 * R))
theorem st_zero (R : Int) : St 0 R false 0 0 1099511627776 := .inl ⟨rfl, rfl, rfl, rfl, rfl⟩
theorem st_sv {c : Nat} {R : Int} {hb : Bool} {S V last : Int} (h : St c R hb S V last) (h0 : 0 ≤ R) (h1 : R < 100000) : SV S V 0 := by
  rcases h with ⟨_, _, rfl, rfl, _⟩ | ⟨_, _, rfl, _, _, _, _⟩ <;> exact ⟨by omega, by omega, by omega, by omega⟩
theorem st_next {c : Nat} {R : Int} {hb : Bool} {S V last : Int} (h : St c R hb S V last) (h0 : 0 ≤ R) (h1 : R < 100000) :
    sS 0 hb S R = 8 * R ∧ ∃ V', sV 0 hb S V R = V' ∧ V' ≤ last ∧ 0 ≤ V' ∧ V' ≤ 2 * R ∧ St (c + 1) R true (8 * R) V' V' := by
  rcases h with ⟨rfl, rfl, rfl, rfl, rfl⟩ | ⟨hc, rfl, rfl, rfl, hv0, hv1, hv2⟩
  · refine ⟨by simp [sS], 2 * R, by simp [sV], by omega, by omega, by omega, .inr ⟨by omega, rfl, rfl, rfl, by omega, by omega, ?_⟩⟩
    simp only [Nat.zero_add, Nat.sub_self, Nat.zero_min, Int.pow_zero]
    omega
  · have e : 8 * R / 8 = R := by omega
    refine ⟨by simp only [sS, if_true]; omega, last - last / 4, by simp only [sV, if_true]; omega, by omega, by omega, by omega, .inr ⟨by omega, rfl, rfl, rfl, by omega, by omega, ?_⟩⟩
    by_cases h39 : c - 1 < 39
    · rw [show min (c + 1 - 1) 39 = min (c - 1) 39 + 1 by omega, Int.pow_succ, Int.pow_succ]
      have hp : (0 : Int) ≤ 4 ^ min (c - 1) 39 := Int.le_of_lt (Int.pow_pos (by omega))
      generalize (4 : Int) ^ min (c - 1) 39 = p at hp hv2 ⊢
      generalize (3 : Int) ^ min (c - 1) 39 = q at hv2 ⊢
      have h3 : (last - last / 4 - 3) * 4 ≤ (last - 3) * 3 := by omega
      have h4 := Int.mul_le_mul_of_nonneg_right h3 hp
      have h5 := Int.mul_le_mul_of_nonneg_right hv2 (show (0 : Int) ≤ 3 by omega)
      have e1 : (last - last / 4 - 3) * (p * 4) = (last - last / 4 - 3) * 4 * p := by rw [Int.mul_assoc, Int.mul_comm 4 p]
      have e2 : (last - 3) * 3 * p = (last - 3) * p * 3 := by rw [Int.mul_assoc, Int.mul_comm 3 p, ← Int.mul_assoc]
      have e3 : q * 3 * (2 * R) = q * (2 * R) * 3 := by rw [Int.mul_assoc, Int.mul_comm 3 (2 * R), ← Int.mul_assoc]
      rw [e1, e3]
      rw [e2] at h4
      exact Int.le_trans h4 h5
    · rw [show min (c + 1 - 1) 39 = 39 by omega]
      rw [show min (c - 1) 39 = 39 by omega] at hv2
      generalize hp : (4 : Int) ^ 39 = p at hv2 ⊢
      have hp0 : 0 ≤ p := by rw [← hp]; decide
      have := Int.mul_le_mul_of_nonneg_right (show last - last / 4 - 3 ≤ last - 3 by omega) hp0
      omega
theorem smS (R : Int) (hb : Bool) (S V V' : Int) (w : World) (h0 : 0 ≤ R) (h1 : R < 100000) (hS : SV S V 0) (hs : sS 0 hb S R = 8 * R) (hv : sV 0 hb S V R = V') : Calls Try.prog 7 #[.agg #[.int .i64 1000, .int .i64 1, .int .i64 1073741824, .int .i64 1], .agg #[.bool hb, .int .i64 S, .int .i64 V, .int .i64 0], .int .i64 R] w fun e w' => e = .returned (.tuple #[.agg #[.bool true, .int .i64 (8 * R), .int .i64 V', .int .i64 0], .int .i64 0]) ∧ Below w.heap.size w w' := by
  have := sample_ok 1000 1 1073741824 1 hb S V 0 R w (by decide) hS ⟨h0, by omega⟩
  rw [hs, hv] at this
  exact this
theorem rtS (R V M : Int) (w : World) (_h0 : 0 ≤ R) (_h1 : R < 100000) (hS : SV (8 * R) V 0) (hM : rto 0 true 1000 1 1073741824 1 (8 * R) V 0 = M) : Calls Try.prog 11 #[.agg #[.int .i64 1000, .int .i64 1, .int .i64 1073741824, .int .i64 1], .agg #[.bool true, .int .i64 (8 * R), .int .i64 V, .int .i64 0]] w fun e w' => e = .returned (.tuple #[.int .i64 M, .int .i64 0]) ∧ Below w.heap.size w w' := by
  subst hM
  exact rto_ok 1000 1 1073741824 1 true (8 * R) V 0 w (by decide) hS
theorem st_end {c : Nat} {R : Int} {hb : Bool} {S V last : Int} (h : St c R hb S V last) (hc : 40 ≤ c) : hb = true ∧ S = 8 * R ∧ last = V ∧ 0 ≤ V ∧ V ≤ 2 * R ∧ V ≤ 3 + R / 1000 := by
  rcases h with ⟨rfl, _⟩ | ⟨_, h2, h3, h4, h5, h6, hv⟩
  · omega
  · refine ⟨h2, h3, h4, h5, h6, ?_⟩
    rw [show min (c - 1) 39 = 39 by omega] at hv
    have e4 : (4 : Int) ^ 39 = 302231454903657293676544 := by decide +kernel
    have e3 : (3 : Int) ^ 39 = 4052555153018976267 := by decide +kernel
    rw [e4, e3] at hv
    omega

set_option maxRecDepth 100000 in
set_option maxHeartbeats 1000000 in
theorem walk (r n : Int) (w : World) (_r1 : -9223372036854775808 ≤ r) (_r2 : r ≤ 9223372036854775807) (_n1 : -9223372036854775808 ≤ n) (_n2 : n ≤ 9223372036854775807) :
    Calls Try.prog 5 #[.int .i64 r, .int .i64 n] w fun e w' => e = .returned (.bool true) ∧ Below w.heap.size w w' := by
  obtain ⟨R, hr, hR0, hR1⟩ := norm_mod r 100000 (by omega) (by omega)
  obtain ⟨n', hn, hn0, hn1⟩ := norm_mod n 100 (by omega) (by omega)
  obtain ⟨N, hN⟩ : ∃ N : Nat, 40 + n' = N := ⟨(40 + n').toNat, by omega⟩
  have hNw : wrap64 (40 + n') = N := by rw [← hN]; exact IntWalk.wrap64_in _ ⟨by omega, by omega⟩
  have hN0 : 40 ≤ N := by omega
  have hN1 : N < 140 := by omega
  go_enter Try.func5, Try.ntmps5
  have q_0 := Below.refl w.heap.size w
  go_wp2_with fail
  refine (alive_any _).mono ?_
  rintro e V1 ⟨rfl, b⟩
  have q_1 := q_0.trans (b.mono q_0.size)
  clear q_0
  clear b
  have HL0 : Hid (w.heap.size ≤ V1.heap.size) := Lib.hid q_1.size
  go_wp2_with fail
  have b : Below V1.heap.size V1 ((V1.alloc (.cells #[.int .i64 1000, .int .i64 1, .int .i64 1073741824, .int .i64 1] 26)).alloc (.cells #[.bool false, .int .i64 0, .int .i64 0, .int .i64 0] 27)) := (((Below.refl _ V1).alloc (Nat.le_refl _) (.cells #[.int .i64 1000, .int .i64 1, .int .i64 1073741824, .int .i64 1] 26)).alloc (by simp only [World.size_alloc]; omega) (.cells #[.bool false, .int .i64 0, .int .i64 0, .int .i64 0] 27))
  have nb0 := blk_new V1 (.cells #[.int .i64 1000, .int .i64 1, .int .i64 1073741824, .int .i64 1] 26)
  have nb0 := (Below.heap_alloc (V1.alloc (.cells #[.int .i64 1000, .int .i64 1, .int .i64 1073741824, .int .i64 1] 26)) (.cells #[.bool false, .int .i64 0, .int .i64 0, .int .i64 0] 27) (V1.heap.size) (by simp only [World.size_alloc]; omega)).trans nb0
  have nz0 : V1.heap.size < ((V1.alloc (.cells #[.int .i64 1000, .int .i64 1, .int .i64 1073741824, .int .i64 1] 26)).alloc (.cells #[.bool false, .int .i64 0, .int .i64 0, .int .i64 0] 27)).heap.size := by simp only [World.size_alloc]; omega
  have nb1 := blk_new (V1.alloc (.cells #[.int .i64 1000, .int .i64 1, .int .i64 1073741824, .int .i64 1] 26)) (.cells #[.bool false, .int .i64 0, .int .i64 0, .int .i64 0] 27)
  simp only [World.size_alloc] at nb1
  have nz1 : V1.heap.size + 1 < ((V1.alloc (.cells #[.int .i64 1000, .int .i64 1, .int .i64 1073741824, .int .i64 1] 26)).alloc (.cells #[.bool false, .int .i64 0, .int .i64 0, .int .i64 0] 27)).heap.size := by simp only [World.size_alloc]; omega
  have q_2 := q_1.trans (b.mono q_1.size)
  clear q_1
  clear b
  have P_2 := Lib.hid nb0
  have Pz_2 := nz0
  clear nb0 nz0
  have Pc0_2 := blk_cell P_2.out 0
  have Pc1_2 := blk_cell P_2.out 1
  have Pc2_2 := blk_cell P_2.out 2
  have Pc3_2 := blk_cell P_2.out 3
  have T_2 := Lib.hid nb1
  have Tz_2 := nz1
  clear nb1 nz1
  have Tc0_2 := blk_cell T_2.out 0
  have Tc1_2 := blk_cell T_2.out 1
  have Tc2_2 := blk_cell T_2.out 2
  have Tc3_2 := blk_cell T_2.out 3
  generalize ((V1.alloc (.cells #[.int .i64 1000, .int .i64 1, .int .i64 1073741824, .int .i64 1] 26)).alloc (.cells #[.bool false, .int .i64 0, .int .i64 0, .int .i64 0] 27)) = V2 at q_2 P_2 Pz_2 Pc0_2 Pc1_2 Pc2_2 Pc3_2 T_2 Tz_2 Tc0_2 Tc1_2 Tc2_2 Tc3_2 ⊢
  clear Pc0_2 Pc1_2 Pc2_2 Pc3_2
  clear Tc0_2 Tc1_2 Tc2_2 Tc3_2
  have HLE : Hid (w.heap.size ≤ V1.heap.size) := Lib.hid HL0.out
  go_loopw [7, 8] (fun la i wr => ∃ (c : Nat) (hb : Bool) (S V last : Int), c ≤ N ∧ i = .int .i64 c ∧ la = .int .i64 last ∧ Hid (St c R hb S V last) ∧ wr.heap[V1.heap.size]? = some (.cells #[.int .i64 1000, .int .i64 1, .int .i64 1073741824, .int .i64 1] 26 (0, 0)) ∧ wr.heap[V1.heap.size + 1]? = some (.cells #[.bool hb, .int .i64 S, .int .i64 V, .int .i64 0] 27 (0, 0)) ∧ Below w.heap.size w wr) (fun _ i _ => N - (intOf i).toNat)
  case atStart => exact ⟨0, _, _, _, _, by omega, rfl, rfl, Lib.hid (st_zero R), P_2.out, T_2.out, q_2⟩
  case round =>
    obtain ⟨c, hb, S, V, last, hc, rfl, rfl, HST, h1, h2, hq⟩ := hrel
    have hsv := st_sv HST.out hR0 hR1
    have HSV := Lib.hid hsv
    clear hsv
    have q_0 := hq
    have Pz_0 := blk_lt h1
    have Tz_0 := blk_lt h2
    have P_0 := Lib.hid (h1)
    have Pc0_0 := blk_cell P_0.out 0
    have Pc1_0 := blk_cell P_0.out 1
    have Pc2_0 := blk_cell P_0.out 2
    have Pc3_0 := blk_cell P_0.out 3
    have T_0 := Lib.hid (h2)
    have Tc0_0 := blk_cell T_0.out 0
    have Tc1_0 := blk_cell T_0.out 1
    have Tc2_0 := blk_cell T_0.out 2
    have Tc3_0 := blk_cell T_0.out 3
    clear h1 h2 hq P_2 T_2 q_2 Pz_2 Tz_2
    by_cases hlt : c < N
    · have NEQ : Hid (V1.heap.size + 1 ≠ V1.heap.size) := Lib.hid (by omega)
      have i1 : (c : Int) < (N : Int) := by omega
      obtain ⟨hs, V', hv, hvl, hv0, hv1, hst⟩ := st_next HST.out hR0 hR1
      have HS := Lib.hid hs
      have HV := Lib.hid hv
      have HN := Lib.hid hst
      clear hs hv hst
      go_wp2_with fail
      refine (smS R hb S V V' _ hR0 hR1 HSV.out HS.out HV.out).mono ?_
      rintro e V21 ⟨rfl, b⟩
      have P_1 := Lib.hid ((b.block _ Pz_0).trans P_0.out)
      have Pz_1 := Nat.lt_of_lt_of_le Pz_0 b.size
      have Pc0_1 := blk_cell P_1.out 0
      have Pc1_1 := blk_cell P_1.out 1
      have Pc2_1 := blk_cell P_1.out 2
      have Pc3_1 := blk_cell P_1.out 3
      have T_1 := Lib.hid ((b.block _ Tz_0).trans T_0.out)
      have Tz_1 := Nat.lt_of_lt_of_le Tz_0 b.size
      have Tc0_1 := blk_cell T_1.out 0
      have Tc1_1 := blk_cell T_1.out 1
      have Tc2_1 := blk_cell T_1.out 2
      have Tc3_1 := blk_cell T_1.out 3
      have q_1 := q_0.trans (b.mono q_0.size)
      clear P_0 Pz_0 Pc0_0 Pc1_0 Pc2_0 Pc3_0 T_0 Tz_0 Tc0_0 Tc1_0 Tc2_0 Tc3_0 q_0
      clear b
      have ne1 : V1.heap.size + 1 ≠ V21.heap.size := Nat.ne_of_lt Tz_1
      have ne2 := ne1.symm
      go_wp2_with fail
      have b : Below V21.heap.size V21 (V21.alloc (.cells #[.bool true, .int .i64 (8 * R), .int .i64 V', .int .i64 0] 27)) := ((Below.refl _ V21).alloc (Nat.le_refl _) (.cells #[.bool true, .int .i64 (8 * R), .int .i64 V', .int .i64 0] 27))
      have nb0 := blk_new V21 (.cells #[.bool true, .int .i64 (8 * R), .int .i64 V', .int .i64 0] 27)
      have nz0 : V21.heap.size < (V21.alloc (.cells #[.bool true, .int .i64 (8 * R), .int .i64 V', .int .i64 0] 27)).heap.size := by simp only [World.size_alloc]; omega
      have P_2 := Lib.hid ((b.block _ Pz_1).trans P_1.out)
      have Pz_2 := Nat.lt_of_lt_of_le Pz_1 b.size
      have Pc0_2 := blk_cell P_2.out 0
      have Pc1_2 := blk_cell P_2.out 1
      have Pc2_2 := blk_cell P_2.out 2
      have Pc3_2 := blk_cell P_2.out 3
      have T_2 := Lib.hid ((b.block _ Tz_1).trans T_1.out)
      have Tz_2 := Nat.lt_of_lt_of_le Tz_1 b.size
      have Tc0_2 := blk_cell T_2.out 0
      have Tc1_2 := blk_cell T_2.out 1
      have Tc2_2 := blk_cell T_2.out 2
      have Tc3_2 := blk_cell T_2.out 3
      have q_2 := q_1.trans (b.mono q_1.size)
      clear P_1 Pz_1 Pc0_1 Pc1_1 Pc2_1 Pc3_1 T_1 Tz_1 Tc0_1 Tc1_1 Tc2_1 Tc3_1 q_1
      clear b
      have X_2 := Lib.hid nb0
      have Xz_2 := nz0
      clear nb0 nz0
      have Xc0_2 := blk_cell X_2.out 0
      have Xc1_2 := blk_cell X_2.out 1
      have Xc2_2 := blk_cell X_2.out 2
      have Xc3_2 := blk_cell X_2.out 3
      generalize (V21.alloc (.cells #[.bool true, .int .i64 (8 * R), .int .i64 V', .int .i64 0] 27)) = V22 at q_2 P_2 Pz_2 Pc0_2 Pc1_2 Pc2_2 Pc3_2 T_2 Tz_2 Tc0_2 Tc1_2 Tc2_2 Tc3_2 X_2 Xz_2 Xc0_2 Xc1_2 Xc2_2 Xc3_2 ⊢
      have e8 : 8 * R / 8 = R := by omega
      have Tf0 := blk_free T_2.out 0
      have Tf1 := blk_free T_2.out 1
      have Tf2 := blk_free T_2.out 2
      have Tf3 := blk_free T_2.out 3
      go_wp2_with fail
      refine (num_any _ _).mono ?_
      rintro e w' ⟨rfl, rfl⟩
      go_wp2_with fail
      go_region
      all_goals
        go_wp2_with fail
        go_roundw
        case rel =>
          refine ⟨c + 1, true, 8 * R, V', V', by omega, by go_num, rfl, HN, blk_other (blk_other (blk_other (blk_other P_2.out NEQ.out _) NEQ.out _) NEQ.out _) NEQ.out _, blk_set (blk_set (blk_set (blk_set T_2.out 0 _) 1 _) 2 _) 3 _, ?_⟩
          have Q1 := Lib.hid q_2
          have hle := HLE.out
          (repeat' (first | (with_reducible exact Q1.out) | (with_reducible exact Below.refl _ _) | (with_reducible refine Below.alloc ?_ ?_ _) | (with_reducible refine Below.setCell ?_ ?_ _) | (with_reducible refine Below.drew ?_) | (with_reducible refine below_drewN ?_ _) | omega | (dsimp only; omega) | (simp; done) | (simp; omega)))
        case measure => simp [intOf]; omega
    · obtain rfl : c = N := by omega
      obtain ⟨rfl, rfl, rfl, g1, g2, g3⟩ := st_end HST.out hN0
      have HW : Hid (rto 0 true 1000 1 1073741824 1 (8 * R) last 0 = max R (R + max 1 last)) := Lib.hid (by
        have e : max (wt true 1000 1 (8 * R) last) 1 = max R (R + max 1 last) := by rw [wt, if_pos rfl]; omega
        rw [rto, if_pos rfl, e, show (0 : Int).toNat = 0 from rfl, Int.pow_zero]
        omega)
      obtain ⟨M, hM⟩ : ∃ M, max R (R + max 1 last) = M := ⟨_, rfl⟩
      have m1 : R ≤ M := by omega
      have m2 : M ≤ R + max 4 last := by omega
      have HM := Lib.hid hM
      clear hM
      go_wp2_with fail
      refine (rtS R last M _ hR0 hR1 HSV.out (HW.out.trans HM.out)).mono ?_
      rintro e V31 ⟨rfl, b⟩
      have P_1 := Lib.hid ((b.block _ Pz_0).trans P_0.out)
      have Pz_1 := Nat.lt_of_lt_of_le Pz_0 b.size
      have Pc0_1 := blk_cell P_1.out 0
      have Pc1_1 := blk_cell P_1.out 1
      have Pc2_1 := blk_cell P_1.out 2
      have Pc3_1 := blk_cell P_1.out 3
      have T_1 := Lib.hid ((b.block _ Tz_0).trans T_0.out)
      have Tz_1 := Nat.lt_of_lt_of_le Tz_0 b.size
      have Tc0_1 := blk_cell T_1.out 0
      have Tc1_1 := blk_cell T_1.out 1
      have Tc2_1 := blk_cell T_1.out 2
      have Tc3_1 := blk_cell T_1.out 3
      have q_1 := q_0.trans (b.mono q_0.size)
      clear P_0 Pz_0 Pc0_0 Pc1_0 Pc2_0 Pc3_0 T_0 Tz_0 Tc0_0 Tc1_0 Tc2_0 Tc3_0 q_0
      clear b
      go_wp2_with fail
      refine (num_any _ _).mono ?_
      rintro e w' ⟨rfl, rfl⟩
      go_wp2
      go_ret
      refine ⟨?_, q_1⟩
      first
      | rfl
      | (trace_state; sorry)

theorem own : ownKnob Try.prog.godebug = none := by kernel_rfl

set_option maxRecDepth 100000 in
set_option maxHeartbeats 2000000 in
theorem lifted (os : Os) (started : os.Started) (H : Type) (enc : TypeId × Value → H) :
    ReturnsInHanded {} Try.checked os 5 .any (Rows.rttSteadySpec.pre6 enc Try.prog Try.f5 Rows.rttSteadyRow.domain false) (Rows.rttSteadySpec.post enc Try.prog Try.f5 false true false false) := by
  refine returnsInHanded_of_change_sized (C := Try.checked) own started (by kernel_rfl) Try.func5
    (ChangeSpec.witness6 (enc := enc) (C := Try.checked) false ⟨#[], #[.int .i64 0, .int .i64 0], []⟩ 8 (by kernel_rfl) (by kernel_rfl) (by kernel_rfl) (by kernel_rfl)) ?_
  intro W base args ds gs before hval0 hW hcnd hsz0 _
  have hval : ∀ (j : Nat) t v, Try.f5.params[j]? = some t → args[j]? = some v → Value.okWide Try.prog W .any base t v := hval0
  have hW' := hW
  obtain ⟨p, q, hA0, hV, rfl, hfz, hnd⟩ := hW
  have hA : DataW.TrodAll enc Try.prog W 0 (fun _ => true) true Try.f5.params.toList args.toList ds p := hA0
  rw [Try.params5] at hA hval
  obtain ⟨v0, vs0, d0, ds0, p0, q0, hargs, rfl, rfl, h0, r0⟩ := trodAll_cons hA
  obtain ⟨v1, vs1, d1, ds1, p1, q1, rfl, rfl, rfl, h1, r1⟩ := trodAll_cons r0
  obtain ⟨rfl, rfl, rfl⟩ := trodAll_nil r1
  obtain rfl : args = #[v0, v1] := by cases args; simp_all
  obtain ⟨rfl, rfl⟩ := trodVars_none hV
  obtain ⟨a0, rfl, rfl, rfl, w0⟩ := open_int Try.underlying3 (hval 0 3 v0 rfl rfl) h0
  obtain ⟨a1, rfl, rfl, rfl, w1⟩ := open_int Try.underlying3 (hval 1 3 v1 rfl rfl) h1
  clear hA0
  obtain ⟨lo0, hi0⟩ := bounds_i64 w0
  obtain ⟨lo1, hi1⟩ := bounds_i64 w1
  refine (walk a0 a1 W lo0 hi0 lo1 hi1).mono fun e W' ⟨he, bel⟩ => ?_
  subst he
  exact ⟨_, rfl, _, _, _, [], _, [], hW', trodAll_mk1 (shut_bool Try.underlying4 _), (trodAll_cons_mk (shut_int Try.underlying3 w0) (trodAll_cons_mk (shut_int Try.underlying3 w1) trodAll_mk0)), rfl, bel.frame _, fun h => by cases h⟩

theorem over : Rows.rttSteadyRow.holds Try.pinned (OpenSpec.ofChange Rows.rttSteadySpec) :=
  OpenClaim.holds_of_wide 5 Try.f5 rfl rfl rfl rfl rfl rfl rfl ⟨rfl, rfl, rfl, rfl, rfl⟩ rfl rfl rfl rfl rfl (by kernel_rfl) Try.func5 (by kernel_rfl)
    (of_decide_eq_true (by kernel_rfl)) (by unfold Func.isWrapper; first | (rw [if_pos (by decide +kernel)]; kernel_rfl) | (rw [if_neg (by decide +kernel)]; exact ⟨rfl, rfl⟩))
    (fun os started H enc _ => lifted os started H enc)

end Go.Proofs.Ytmpgpmdocofmgaa.rttSteady
namespace Go.Proofs.Ytmpgpmdocofmgaa
/-- The statement. -/
theorem rttSteady_holds : Rows.RttSteadySaid := rttSteady.over
#print axioms rttSteady_holds
end Go.Proofs.Ytmpgpmdocofmgaa
