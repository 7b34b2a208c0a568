/- For every segment, threshold and list of pieces: in avoidance the window goes up by one segment for each window that is acknowledged, in whatever pieces; in slow start by what is acknowledged, at most a segment each time. No condition. -/
import Derived.Test.YtmjcckpppflpjaaRows
import Derived.Test.YtmjcckpppflpjaaRnA
import Derived.Test.YtmjcckpppflpjaaQInts
import Derived.Test.YtmjcckpppflpjaaGAgg
import Derived.Deep.DeepCutAuto
import Derived.RegionTactic
import Derived.Deep.RegionHeld3
import Derived.ProofKit
import Derived.OpenShut
import Derived.ChangeOld
import Derived.SizedLaws
namespace Go.Proofs.Ytmjcckpppflpjaa.renoGrows
open Go.ChangeShapes Go.WideShapes Go.ChangeAt Go.RowKit Go.Deep Go.Proofs.Ytmjcckpppflpjaa.Rn

set_option maxRecDepth 100000 in
set_option maxHeartbeats 2000000 in
theorem walk (ms th : Int) (pa : Option Addr) (zs : List Int) (cap : Nat) (w : World) (_ms_l : -9223372036854775808 ≤ ms) (_ms_h : ms ≤ 9223372036854775807) (_th_l : -9223372036854775808 ≤ th) (_th_h : th ≤ 9223372036854775807) (hx : Its w pa zs) (_hcap : pa = none → cap = 0) (hre : zs.length ≤ 17592186043904) :
    Calls Try.prog 5 #[.int .i64 ms, .int .i64 th, .slice pa zs.length cap] w fun e w' => e = .returned (.bool true) ∧ Below w.heap.size w w' := by
  have HX := Lib.hid hx
  clear hx
  obtain ⟨m', hm', hm0, hm1⟩ := norm_mod ms 1500 (by omega) (by omega)
  obtain ⟨t', ht', ht0, ht1⟩ := norm_mod th 20000 (by omega) (by omega)
  obtain ⟨m, hm⟩ : ∃ m, 1 + m' = m := ⟨_, rfl⟩
  have hmw : wrap64 (1 + m') = m := by rw [hm]; exact IntWalk.wrap64_in _ ⟨by omega, by omega⟩
  obtain ⟨t, ht⟩ : ∃ t, 1 + t' = t := ⟨_, rfl⟩
  have htw : wrap64 (1 + t') = t := by rw [ht]; exact IntWalk.wrap64_in _ ⟨by omega, by omega⟩
  have M0 : 1 ≤ m := by omega
  have M1 : m ≤ 1500 := by omega
  have T0 : 1 ≤ t := by omega
  have T1 : t ≤ 20000 := by omega
  have q_0 := Below.refl w.heap.size w
  go_enter Try.func5, Try.ntmps5
  go_wp2_with fail
  refine (alive_any _).mono ?_
  rintro e V1 ⟨rfl, b⟩
  have q_1 := q_0.trans (b.mono q_0.size)
  clear q_0
  clear b
  have HLE : Hid (w.heap.size ≤ V1.heap.size) := Lib.hid q_1.size
  go_wp2_with fail
  have b : Below V1.heap.size V1 (V1.alloc (.cells #[.int .i64 (4 * m), .int .i64 t, .int .i64 0] 24)) := ((Below.refl _ V1).alloc (Nat.le_refl _) (.cells #[.int .i64 (4 * m), .int .i64 t, .int .i64 0] 24))
  have nb0 := blk_new V1 (.cells #[.int .i64 (4 * m), .int .i64 t, .int .i64 0] 24)
  have nz0 : V1.heap.size < (V1.alloc (.cells #[.int .i64 (4 * m), .int .i64 t, .int .i64 0] 24)).heap.size := by simp only [World.size_alloc]; omega
  have q_2 := q_1.trans (b.mono q_1.size)
  clear q_1
  clear b
  have S_2 := Lib.hid nb0
  have Sz_2 := nz0
  clear nb0 nz0
  generalize (V1.alloc (.cells #[.int .i64 (4 * m), .int .i64 t, .int .i64 0] 24)) = V2 at q_2 S_2 Sz_2 ⊢
  go_loopw [8] (fun ii wr => ∃ (k : Nat) (c a : Int), k ≤ zs.length ∧ k ≤ 300 ∧ ii = .int .i64 k ∧ m ≤ c ∧ c ≤ 6000 + 1500 * k ∧ 0 ≤ a ∧ a < c ∧ wr.heap[V1.heap.size]? = some (.cells #[.int .i64 c, .int .i64 t, .int .i64 a] 24 (0, 0)) ∧ Below w.heap.size w wr) (fun ii _ => zs.length - (intOf ii).toNat)
  case atStart => exact ⟨0, _, _, by omega, by omega, rfl, by omega, by omega, by omega, by omega, S_2.out, q_2⟩
  case round =>
    obtain ⟨k, c, a, hk, hk3, rfl, c0, c1, a0, a1, h1, hq⟩ := hrel
    have q_0 := hq
    have Sz_0 := blk_lt h1
    have S_0 := Lib.hid (h1)
    have Sc0_0 := blk_cell S_0.out 0
    have Sc1_0 := blk_cell S_0.out 1
    have Sc2_0 := blk_cell S_0.out 2
    clear h1 hq S_2 q_2 Sz_2
    by_cases hlt : k < zs.length
    case neg =>
      obtain rfl : k = zs.length := by omega
      go_wp2
      go_ret
      exact ⟨rfl, q_0⟩
    case pos =>
      by_cases h300 : k < 300
      case neg =>
        obtain rfl : k = 300 := by omega
        have i1 : ((300 : Nat) : Int) < (zs.length : Int) := by omega
        go_wp2
        go_ret
        exact ⟨rfl, q_0⟩
      case pos =>
        obtain ⟨bl, off, rfl, hbl, hcx⟩ : ∃ b off, pa = some ⟨b, off, none⟩ ∧ b < w.heap.size ∧ ∀ i, i < zs.length → w.cell? ⟨b, off + i, none⟩ = some (.int .i64 (zs.getD i 0)) := by
          rcases HX.out.2 with h | h
          · subst h; simp at hlt
          · exact h
        have hz0 := hcx k hlt
        generalize zs.getD k 0 = z at hz0
        clear hcx
        have z1 := (q_0.cell (p := ⟨bl, off + k, none⟩) hbl).trans hz0
        have i1 : (k : Int) < (zs.length : Int) := by omega
        have i2 : (k : Int) < 300 := by omega
        obtain ⟨N, hN, N0, N1⟩ := norm_mod z c (by omega) (by omega)
        have cz : (c == 0) = false := by rw [beq_eq_false_iff_ne]; omega
        have q_1 := q_0
        have HM : Hid (MV m) := Lib.hid ⟨M0, by omega⟩
        have HS : Hid (SV c t a m) := Lib.hid ⟨⟨by omega, by omega⟩, ⟨by omega, by omega⟩, by omega, by omega⟩
        have HN : Hid (NV N) := Lib.hid ⟨N0, by omega⟩
        go_wp2_with fail
        go_quiet (fail)
        have qd := below_drewN q_0 nq
        have sd := blk_drewN S_0.out nq
        clear Sc0_0 Sc1_0 Sc2_0 z1 q_0 q_1 S_0
        generalize wr.drewN nq = Y at qd sd ⊢
        have q_0 := qd
        have S_0 := Lib.hid sd
        have Sz_0 := blk_lt sd
        clear qd sd
        have Sc0_0 := blk_cell S_0.out 0
        have Sc1_0 := blk_cell S_0.out 1
        have Sc2_0 := blk_cell S_0.out 2
        by_cases hct : c < t
        case pos =>
          obtain ⟨C, hC⟩ : ∃ C, c + min N m = C := ⟨_, rfl⟩
          have hC2 : min (c + min N m) 1073741824 = C := by omega
          have hup : C - c = min N m := by omega
          have hCb : m ≤ C ∧ c ≤ C ∧ C ≤ c + 1500 := by omega
          have HC2 := Lib.hid hC2
          clear hC hC2
          go_wp2_with fail
          refine (ack_slow c t a m N _ HM.out HS.out HN.out hct).mono ?_
          rintro e V21 ⟨rfl, b⟩
          have S_1 := Lib.hid ((b.block _ Sz_0).trans S_0.out)
          have Sz_1 := Nat.lt_of_lt_of_le Sz_0 b.size
          have Sc0_1 := blk_cell S_1.out 0
          have Sc1_1 := blk_cell S_1.out 1
          have Sc2_1 := blk_cell S_1.out 2
          have q_1 := q_0.trans (b.mono q_0.size)
          clear S_0 Sz_0 Sc0_0 Sc1_0 Sc2_0 q_0
          clear b
          rw [HC2.out]
          have Sz_1' := Sz_1
          go_wp2_with fail
          have b : Below V21.heap.size V21 (V21.alloc (.cells #[.int .i64 C, .int .i64 t, .int .i64 a] 24)) := ((Below.refl _ V21).alloc (Nat.le_refl _) (.cells #[.int .i64 C, .int .i64 t, .int .i64 a] 24))
          have nb0 := blk_new V21 (.cells #[.int .i64 C, .int .i64 t, .int .i64 a] 24)
          have nz0 : V21.heap.size < (V21.alloc (.cells #[.int .i64 C, .int .i64 t, .int .i64 a] 24)).heap.size := by simp only [World.size_alloc]; omega
          have S_2 := Lib.hid ((b.block _ Sz_1).trans S_1.out)
          have Sz_2 := Nat.lt_of_lt_of_le Sz_1 b.size
          have Sc0_2 := blk_cell S_2.out 0
          have Sc1_2 := blk_cell S_2.out 1
          have Sc2_2 := blk_cell S_2.out 2
          have q_2 := q_1.trans (b.mono q_1.size)
          clear S_1 Sz_1 Sc0_1 Sc1_1 Sc2_1 q_1
          clear b
          have X_2 := Lib.hid nb0
          have Xz_2 := nz0
          clear nb0 nz0
          have Xc0_2 := blk_cell X_2.out 0
          have Xc1_2 := blk_cell X_2.out 1
          have Xc2_2 := blk_cell X_2.out 2
          generalize (V21.alloc (.cells #[.int .i64 C, .int .i64 t, .int .i64 a] 24)) = V22 at q_2 S_2 Sz_2 Sc0_2 Sc1_2 Sc2_2 X_2 Xz_2 Xc0_2 Xc1_2 Xc2_2 ⊢
          have ne1 : V1.heap.size ≠ V21.heap.size := Nat.ne_of_lt Sz_1'
          have ne2 := ne1.symm
          have Tf0 := blk_free S_2.out 0
          have Tf1 := blk_free S_2.out 1
          have Tf2 := blk_free S_2.out 2
          refine (num_any _ _).mono ?_
          rintro e w' ⟨rfl, rfl⟩
          go_wp2_with fail
          go_roundw
          case rel =>
            refine ⟨k + 1, C, a, by omega, by omega, by go_num, by omega, by omega, by omega, by omega, blk_set (blk_set (blk_set S_2.out 0 _) 1 _) 2 _, ?_⟩
            have Q1 := Lib.hid q_2
            have hle := HLE.out
            (repeat' (first | (with_reducible exact Q1.out) | (with_reducible exact Below.refl _ _) | (with_reducible refine Below.alloc ?_ ?_ _) | (with_reducible refine Below.setCell ?_ ?_ _) | (with_reducible refine Below.drew ?_) | (with_reducible refine below_drewN ?_ _) | omega | (dsimp only; omega) | (simp; done) | (simp; omega)))
          case measure => simp [intOf]; omega
        case neg =>
          have hct' : t ≤ c := by omega
          have hmn : min (a + N) 1073741824 = a + N := by omega
          have HMN := Lib.hid hmn
          clear hmn
          by_cases hup : c ≤ a + N
          case pos =>
            obtain ⟨C, hC⟩ : ∃ C, c + m = C := ⟨_, rfl⟩
            obtain ⟨A, hA⟩ : ∃ A, a + N - c = A := ⟨_, rfl⟩
            have hC2 : min (c + m) 1073741824 = C := by omega
            have hup2 : C - c = m := by omega
            have hm0 : (m == 0) = false := by rw [beq_eq_false_iff_ne]; omega
            have hm1 : (m != 0) = true := by rw [bne_iff_ne]; omega
            have HC2 := Lib.hid hC2
            have HA := Lib.hid hA
            have hb1 : m ≤ C ∧ C ≤ c + 1500 ∧ 0 ≤ A ∧ A < C := by omega
            clear hC hC2 hA
            go_wp2_with fail
            refine (ack_up c t a m N _ HM.out HS.out HN.out hct' (by rw [HMN.out]; exact hup)).mono ?_
            rintro e V21 ⟨rfl, b⟩
            have S_1 := Lib.hid ((b.block _ Sz_0).trans S_0.out)
            have Sz_1 := Nat.lt_of_lt_of_le Sz_0 b.size
            have Sc0_1 := blk_cell S_1.out 0
            have Sc1_1 := blk_cell S_1.out 1
            have Sc2_1 := blk_cell S_1.out 2
            have q_1 := q_0.trans (b.mono q_0.size)
            clear S_0 Sz_0 Sc0_0 Sc1_0 Sc2_0 q_0
            clear b
            rw [HC2.out, HMN.out, HA.out]
            have Sz_1' := Sz_1
            go_wp2_with fail
            have b : Below V21.heap.size V21 (V21.alloc (.cells #[.int .i64 C, .int .i64 t, .int .i64 A] 24)) := ((Below.refl _ V21).alloc (Nat.le_refl _) (.cells #[.int .i64 C, .int .i64 t, .int .i64 A] 24))
            have nb0 := blk_new V21 (.cells #[.int .i64 C, .int .i64 t, .int .i64 A] 24)
            have nz0 : V21.heap.size < (V21.alloc (.cells #[.int .i64 C, .int .i64 t, .int .i64 A] 24)).heap.size := by simp only [World.size_alloc]; omega
            have S_2 := Lib.hid ((b.block _ Sz_1).trans S_1.out)
            have Sz_2 := Nat.lt_of_lt_of_le Sz_1 b.size
            have Sc0_2 := blk_cell S_2.out 0
            have Sc1_2 := blk_cell S_2.out 1
            have Sc2_2 := blk_cell S_2.out 2
            have q_2 := q_1.trans (b.mono q_1.size)
            clear S_1 Sz_1 Sc0_1 Sc1_1 Sc2_1 q_1
            clear b
            have X_2 := Lib.hid nb0
            have Xz_2 := nz0
            clear nb0 nz0
            have Xc0_2 := blk_cell X_2.out 0
            have Xc1_2 := blk_cell X_2.out 1
            have Xc2_2 := blk_cell X_2.out 2
            generalize (V21.alloc (.cells #[.int .i64 C, .int .i64 t, .int .i64 A] 24)) = V22 at q_2 S_2 Sz_2 Sc0_2 Sc1_2 Sc2_2 X_2 Xz_2 Xc0_2 Xc1_2 Xc2_2 ⊢
            have ne1 : V1.heap.size ≠ V21.heap.size := Nat.ne_of_lt Sz_1'
            have ne2 := ne1.symm
            have Tf0 := blk_free S_2.out 0
            have Tf1 := blk_free S_2.out 1
            have Tf2 := blk_free S_2.out 2
            refine (num_any _ _).mono ?_
            rintro e w' ⟨rfl, rfl⟩
            go_wp2_with fail
            go_roundw
            case rel =>
              refine ⟨k + 1, C, A, by omega, by omega, by go_num, by omega, by omega, by omega, by omega, blk_set (blk_set (blk_set S_2.out 0 _) 1 _) 2 _, ?_⟩
              have Q1 := Lib.hid q_2
              have hle := HLE.out
              (repeat' (first | (with_reducible exact Q1.out) | (with_reducible exact Below.refl _ _) | (with_reducible refine Below.alloc ?_ ?_ _) | (with_reducible refine Below.setCell ?_ ?_ _) | (with_reducible refine Below.drew ?_) | (with_reducible refine below_drewN ?_ _) | omega | (dsimp only; omega) | (simp; done) | (simp; omega)))
            case measure => simp [intOf]; omega
          case neg =>
            obtain ⟨A, hA⟩ : ∃ A, a + N = A := ⟨_, rfl⟩
            have hm0 : ((0 : Int) == m) = false := by rw [beq_eq_false_iff_ne]; omega
            have hm1 : ((0 : Int) != m) = true := by rw [bne_iff_ne]; omega
            have hcc : c - c = 0 := by omega
            have HA := Lib.hid hA
            have hb1 : 0 ≤ A ∧ A < c := by omega
            have hup1 : A < c := by omega
            clear hup
            go_wp2_with fail
            refine (ack_on c t a m N _ HM.out HS.out HN.out hct' (by rw [HMN.out, HA.out]; exact hup1)).mono ?_
            rintro e V21 ⟨rfl, b⟩
            have S_1 := Lib.hid ((b.block _ Sz_0).trans S_0.out)
            have Sz_1 := Nat.lt_of_lt_of_le Sz_0 b.size
            have Sc0_1 := blk_cell S_1.out 0
            have Sc1_1 := blk_cell S_1.out 1
            have Sc2_1 := blk_cell S_1.out 2
            have q_1 := q_0.trans (b.mono q_0.size)
            clear S_0 Sz_0 Sc0_0 Sc1_0 Sc2_0 q_0
            clear b
            rw [HMN.out, HA.out]
            have Sz_1' := Sz_1
            go_wp2_with fail
            have b : Below V21.heap.size V21 (V21.alloc (.cells #[.int .i64 c, .int .i64 t, .int .i64 A] 24)) := ((Below.refl _ V21).alloc (Nat.le_refl _) (.cells #[.int .i64 c, .int .i64 t, .int .i64 A] 24))
            have nb0 := blk_new V21 (.cells #[.int .i64 c, .int .i64 t, .int .i64 A] 24)
            have nz0 : V21.heap.size < (V21.alloc (.cells #[.int .i64 c, .int .i64 t, .int .i64 A] 24)).heap.size := by simp only [World.size_alloc]; omega
            have S_2 := Lib.hid ((b.block _ Sz_1).trans S_1.out)
            have Sz_2 := Nat.lt_of_lt_of_le Sz_1 b.size
            have Sc0_2 := blk_cell S_2.out 0
            have Sc1_2 := blk_cell S_2.out 1
            have Sc2_2 := blk_cell S_2.out 2
            have q_2 := q_1.trans (b.mono q_1.size)
            clear S_1 Sz_1 Sc0_1 Sc1_1 Sc2_1 q_1
            clear b
            have X_2 := Lib.hid nb0
            have Xz_2 := nz0
            clear nb0 nz0
            have Xc0_2 := blk_cell X_2.out 0
            have Xc1_2 := blk_cell X_2.out 1
            have Xc2_2 := blk_cell X_2.out 2
            generalize (V21.alloc (.cells #[.int .i64 c, .int .i64 t, .int .i64 A] 24)) = V22 at q_2 S_2 Sz_2 Sc0_2 Sc1_2 Sc2_2 X_2 Xz_2 Xc0_2 Xc1_2 Xc2_2 ⊢
            have ne1 : V1.heap.size ≠ V21.heap.size := Nat.ne_of_lt Sz_1'
            have ne2 := ne1.symm
            have Tf0 := blk_free S_2.out 0
            have Tf1 := blk_free S_2.out 1
            have Tf2 := blk_free S_2.out 2
            refine (num_any _ _).mono ?_
            rintro e w' ⟨rfl, rfl⟩
            go_wp2_with fail
            go_roundw
            case rel =>
              refine ⟨k + 1, c, A, by omega, by omega, by go_num, by omega, by omega, by omega, by omega, blk_set (blk_set (blk_set S_2.out 0 _) 1 _) 2 _, ?_⟩
              have Q1 := Lib.hid q_2
              have hle := HLE.out
              (repeat' (first | (with_reducible exact Q1.out) | (with_reducible exact Below.refl _ _) | (with_reducible refine Below.alloc ?_ ?_ _) | (with_reducible refine Below.setCell ?_ ?_ _) | (with_reducible refine Below.drew ?_) | (with_reducible refine below_drewN ?_ _) | omega | (dsimp only; omega) | (simp; done) | (simp; omega)))
            case measure => simp [intOf]; omega

theorem own : ownKnob Try.prog.godebug = none := by kernel_rfl
theorem laidOut : laidOutB Try.prog = true := by kernel_rfl

set_option maxRecDepth 100000 in
set_option maxHeartbeats 2000000 in
theorem lifted (os : Os) (started : os.Started) (H : Type) (enc : TypeId × Value → H) :
    ReturnsInHanded {} Try.checked os 5 .any (Rows.renoGrowsSpec.pre6 enc Try.prog Try.f5 Rows.renoGrowsRow.domain false) (Rows.renoGrowsSpec.post enc Try.prog Try.f5 false true false false) := by
  refine returnsInHanded_of_change_sized (C := Try.checked) own started (by kernel_rfl) Try.func5
    (ChangeSpec.witness6 (enc := enc) (C := Try.checked) false ⟨#[], #[.int .i64 0, .int .i64 0, .slice none 0 0], []⟩ 8 (by kernel_rfl) (by kernel_rfl) (by kernel_rfl) (by kernel_rfl)) ?_
  intro W base args ds gs before hval0 hW hcnd hsz0 _
  have hval : ∀ (j : Nat) t v, Try.f5.params[j]? = some t → args[j]? = some v → Value.okWide Try.prog W .any base t v := hval0
  have hsz : (DataW.weightsEach Try.prog (Try.f5.params.toList ++ Rows.renoGrowsSpec.plain.varTypes Try.prog) (ds ++ gs)).all (· ≤ reachBytes) = true := hsz0
  have hW' := hW
  obtain ⟨p, q, hA0, hV, rfl, hfz, hnd⟩ := hW
  have hA : DataW.TrodAll enc Try.prog W 0 (fun _ => true) true Try.f5.params.toList args.toList ds p := hA0
  rw [Try.params5] at hA hval hsz
  obtain ⟨v0, vs0, d0, ds0, p0, q0, hargs, rfl, rfl, h0, r0⟩ := trodAll_cons hA
  obtain ⟨v1, vs1, d1, ds1, p1, q1, rfl, rfl, rfl, h1, r1⟩ := trodAll_cons r0
  obtain ⟨v2, vs2, d2, ds2, p2, q2, rfl, rfl, rfl, h2, r2⟩ := trodAll_cons r1
  obtain ⟨rfl, rfl, rfl⟩ := trodAll_nil r2
  obtain rfl : args = #[v0, v1, v2] := by cases args; simp_all
  obtain ⟨rfl, rfl⟩ := trodVars_none hV
  obtain ⟨a0, rfl, rfl, rfl, w0⟩ := open_int Try.underlying3 (hval 0 3 v0 rfl rfl) h0
  obtain ⟨a1, rfl, rfl, rfl, w1⟩ := open_int Try.underlying3 (hval 1 3 v1 rfl rfl) h1
  obtain ⟨a2, len2, cap2, rfl⟩ := okWide_slice Try.underlying42 (hval 2 42 v2 rfl rfl)
  have k2 := h2
  have lt2 : ∀ x ∈ p2, x.block < W.heap.size := by obtain ⟨m, hm⟩ := k2; exact DataW.trod_lt m _ _ _ hm
  obtain ⟨xs2, hxl2, hbt2, hcap2, hre2⟩ : ∃ xs : List Int, xs.length = len2 ∧ Its W a2 xs ∧ (a2 = none → cap2 = 0) ∧ xs.length ≤ 17592186043904 := by
    obtain ⟨fuel, hf⟩ := h2
    rcases open_ints Try.underlying42 Try.underlying3 (by kernel_rfl) hf with ⟨hcs, _⟩ | ⟨x, l, c, zs, hcs, _, hl, hm, hz, hd, hcell, hwz⟩
    · simp [Value.cells] at hcs
      obtain ⟨rfl, rfl, rfl⟩ := hcs
      exact ⟨[], rfl, ⟨(fun x h => by cases h), .inl rfl⟩, fun _ => rfl, by simp⟩
    · simp [Value.cells] at hcs
      obtain ⟨rfl, rfl, rfl⟩ := hcs
      have hz' : zs.length = cap2 := by simpa using hz
      obtain ⟨xs, h1, h2⟩ := its_of_ints hl hz' hcell hwz
      have hd' := (Prod.mk.inj hd).1
      have hw := sized_slice hsz (j := 2) (t := 42) (e := 3) rfl (by rw [hd']; rfl) Try.underlying42
      rw [bytes8] at hw
      simp only [lits, List.length_map, List.length_take, List.length_drop, reachBytes] at hw
      exact ⟨xs, h1, h2, (fun h => by cases h), by omega⟩
  clear hA0 hval0 hsz hsz0
  obtain ⟨lo0, hi0⟩ := bounds_i64 w0
  obtain ⟨lo1, hi1⟩ := bounds_i64 w1
  subst hxl2
  refine (walk a0 a1 a2 xs2 cap2 W lo0 hi0 lo1 hi1 hbt2 hcap2 hre2).mono fun e W' ⟨he, bel⟩ => ?_
  subst he
  exact ⟨_, rfl, _, _, _, [], _, [], hW', trodAll_mk1 (shut_bool Try.underlying4 _), (trodAll_cons_mk (shut_int Try.underlying3 w0) (trodAll_cons_mk (shut_int Try.underlying3 w1) (trodAll_cons_mk (Below.trod laidOut (by kernel_rfl) (of_decide_eq_true (by kernel_rfl)) k2 bel lt2) trodAll_mk0))), rfl, bel.frame _, fun h => by cases h⟩

theorem over : Rows.renoGrowsRow.holds Try.pinned (OpenSpec.ofChange Rows.renoGrowsSpec) :=
  OpenClaim.holds_of_wide 5 Try.f5 rfl rfl rfl rfl rfl rfl rfl ⟨rfl, rfl, rfl, rfl, rfl⟩ rfl rfl rfl rfl rfl (by kernel_rfl) Try.func5 (by kernel_rfl)
    (of_decide_eq_true (by kernel_rfl)) (by unfold Func.isWrapper; first | (rw [if_pos (by decide +kernel)]; kernel_rfl) | (rw [if_neg (by decide +kernel)]; exact ⟨rfl, rfl⟩))
    (fun os started H enc _ => lifted os started H enc)

end Go.Proofs.Ytmjcckpppflpjaa.renoGrows
namespace Go.Proofs.Ytmjcckpppflpjaa
/-- The statement. -/
theorem renoGrows_holds : Rows.RenoGrowsSaid := renoGrows.over
#print axioms renoGrows_holds
end Go.Proofs.Ytmjcckpppflpjaa
