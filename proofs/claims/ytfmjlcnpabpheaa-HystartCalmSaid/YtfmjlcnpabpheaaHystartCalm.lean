/- For every number and every list of numbers: answers that take no longer than those ahead never end slow start. No condition. -/
import Derived.Test.YtfmjlcnpabpheaaRows
import Derived.Test.YtfmjlcnpabpheaaHyAl
import Derived.Test.YtfmjlcnpabpheaaGStore
import Derived.Test.YtfmjlcnpabpheaaGAgg
import Derived.Deep.DeepCutAuto
import Derived.RegionTactic
import Derived.Deep.RegionHeld3
import Derived.Deep.RegionWith
import Derived.ProofKit
import Derived.OpenShut
import Derived.ChangeOld
import Derived.SizedLaws
namespace Go.Proofs.Ytfmjlcnpabpheaa.hystartCalm
open Go.ChangeShapes Go.WideShapes Go.ChangeAt Go.RowKit Go.Deep Go.Proofs.Ytfmjlcnpabpheaa.Hy

set_option maxRecDepth 100000 in
set_option maxHeartbeats 2000000 in
theorem walk (r : Int) (pa : Option Addr) (zs : List Int) (cap : Nat) (w : World) (_r_l : -9223372036854775808 ≤ r) (_r_h : r ≤ 9223372036854775807) (hx : Its w pa zs) (_hcap : pa = none → cap = 0) (hre : zs.length ≤ 17592186043904) :
    Calls Try.prog 4 #[.int .i64 r, .slice pa zs.length cap] w fun e w' => e = .returned (.bool true) ∧ Below w.heap.size w w' := by
  have HX := Lib.hid hx
  clear hx
  obtain ⟨x', hx', hx0, hx1⟩ := norm_mod r 100000 (by omega) (by omega)
  obtain ⟨x, hx⟩ : ∃ x, 1000 + x' = x := ⟨_, rfl⟩
  have hxw : wrap64 (1000 + x') = x := by rw [hx]; exact IntWalk.wrap64_in _ ⟨by omega, by omega⟩
  have q_0 := Below.refl w.heap.size w
  go_enter Try.func4, Try.ntmps4
  go_wp2_with fail
  refine (alive_any _).mono ?_
  rintro e V1 ⟨rfl, b⟩
  have q_1 := q_0.trans (b.mono q_0.size)
  clear q_0
  clear b
  have HLE : Hid (w.heap.size ≤ V1.heap.size) := Lib.hid q_1.size
  go_wp2_with fail
  have b : Below V1.heap.size V1 (V1.alloc (.cells #[.int .i64 0, .bool false, .bool false, .int .i64 0, .int .i64 0, .int .i64 0, .int .i64 0, .int .i64 0] 24)) := ((Below.refl _ V1).alloc (Nat.le_refl _) (.cells #[.int .i64 0, .bool false, .bool false, .int .i64 0, .int .i64 0, .int .i64 0, .int .i64 0, .int .i64 0] 24))
  have nb0 := blk_new V1 (.cells #[.int .i64 0, .bool false, .bool false, .int .i64 0, .int .i64 0, .int .i64 0, .int .i64 0, .int .i64 0] 24)
  have nz0 : V1.heap.size < (V1.alloc (.cells #[.int .i64 0, .bool false, .bool false, .int .i64 0, .int .i64 0, .int .i64 0, .int .i64 0, .int .i64 0] 24)).heap.size := by simp only [World.size_alloc]; omega
  have q_2 := q_1.trans (b.mono q_1.size)
  clear q_1
  clear b
  have S_2 := Lib.hid nb0
  have Sz_2 := nz0
  clear nb0 nz0
  generalize (V1.alloc (.cells #[.int .i64 0, .bool false, .bool false, .int .i64 0, .int .i64 0, .int .i64 0, .int .i64 0, .int .i64 0] 24)) = V2 at q_2 S_2 Sz_2 ⊢

  have HZ : Hid (Hy.Z.p = 0 ∧ HV Hy.Z ∧ (Hy.Z.hn = true → x ≤ Hy.Z.no)) := Lib.hid ⟨rfl, ⟨p0, n0, n0, n0, n0, n0⟩, fun h => by cases h⟩
  go_loopw [5, 7] (fun nn ii wr => ∃ (k : Nat) (x : Int) (s : HS), k ≤ zs.length ∧ k ≤ 60 ∧ ii = .int .i64 k ∧ nn = .int .i64 x ∧ (0 ≤ x ∧ x ≤ 101000) ∧ Hid (s.p = 0 ∧ HV s ∧ (s.hn = true → x ≤ s.no)) ∧ wr.heap[V1.heap.size]? = some (.cells #[.int .i64 s.p, .bool s.hl, .bool s.hn, .int .i64 s.la, .int .i64 s.no, .int .i64 s.sa, .int .i64 s.ba, .int .i64 s.ro] 24 (0, 0)) ∧ Below w.heap.size w wr) (fun _ ii _ => zs.length - (intOf ii).toNat)
  case atStart => exact ⟨0, _, Hy.Z, by omega, by omega, rfl, rfl, ⟨by omega, by omega⟩, HZ, S_2.out, q_2⟩
  case round =>
    obtain ⟨k, x, s, hk, hk6, rfl, rfl, ⟨x0, x1⟩, hc, h1, hq⟩ := hrel
    have q_0 := hq
    have Sz_0 := blk_lt h1
    have S_0 := Lib.hid (h1)
    have Sc0_0 := blk_cell S_0.out 0
    have Sc1_0 := blk_cell S_0.out 1
    have Sc2_0 := blk_cell S_0.out 2
    have Sc3_0 := blk_cell S_0.out 3
    have Sc4_0 := blk_cell S_0.out 4
    have Sc5_0 := blk_cell S_0.out 5
    have Sc6_0 := blk_cell S_0.out 6
    have Sc7_0 := blk_cell S_0.out 7
    clear h1 hq S_2 q_2 Sz_2 HZ
    by_cases hlt : k < zs.length
    case neg =>
      obtain rfl : k = zs.length := by omega
      go_wp2
      go_ret
      exact ⟨rfl, q_0⟩
    case pos =>
      have i1 : (k : Int) < (zs.length : Int) := by omega
      by_cases h60 : k < 60
      case neg =>
        obtain rfl : k = 60 := by omega
        have i2 : ((60 : Nat) : Int) = 60 := rfl
        go_wp2
        go_ret
        exact ⟨rfl, q_0⟩
      case pos =>
        obtain ⟨bl, off, rfl, hbl, hcx⟩ : ∃ b off, pa = some ⟨b, off, none⟩ ∧ b < w.heap.size ∧ ∀ i, i < zs.length → w.cell? ⟨b, off + i, none⟩ = some (.int .i64 (zs.getD i 0)) := by
          rcases HX.out.2 with h | h
          · subst h; simp at hlt
          · exact h
        have hz0 := hcx k hlt
        generalize zs.getD k 0 = z at hz0
        clear hcx
        have i2 : (k : Int) < 60 := by omega
        obtain ⟨t, ht⟩ : ∃ t, rdO s = t := ⟨_, rfl⟩
        have hE : Hid (cE s = 0) := Lib.hid (if_pos hc.out.2.1)
        have HT := Lib.hid ht
        clear ht
        go_wp2_with fail
        refine (round_l s t 0 hE.out HT.out _).mono ?_
        rintro e V21 ⟨rfl, b⟩
        have S_1 := Lib.hid ((b.block _ Sz_0).trans S_0.out)
        have Sz_1 := Nat.lt_of_lt_of_le Sz_0 b.size
        have Sc0_1 := blk_cell S_1.out 0
        have Sc1_1 := blk_cell S_1.out 1
        have Sc2_1 := blk_cell S_1.out 2
        have Sc3_1 := blk_cell S_1.out 3
        have Sc4_1 := blk_cell S_1.out 4
        have Sc5_1 := blk_cell S_1.out 5
        have Sc6_1 := blk_cell S_1.out 6
        have Sc7_1 := blk_cell S_1.out 7
        have q_1 := q_0.trans (b.mono q_0.size)
        clear S_0 Sz_0 Sc0_0 Sc1_0 Sc2_0 Sc3_0 Sc4_0 Sc5_0 Sc6_0 Sc7_0 q_0
        clear b
        obtain ⟨z', hz', z0, z1⟩ := norm_mod z 50 (by omega) (by omega)
        obtain ⟨y, hy⟩ : ∃ y, max 0 (x - z') = y := ⟨_, rfl⟩
        have y0 : 0 ≤ y ∧ y ≤ x := by omega
        obtain ⟨y0, y1⟩ := y0
        have zc := (q_1.cell (p := ⟨bl, off + k, none⟩) hbl).trans hz0
        go_wp2_with fail
        have Sz_1' := Sz_1
        have b : Below V21.heap.size V21 (V21.alloc (.cells #[.int .i64 t.p, .bool t.hl, .bool t.hn, .int .i64 t.la, .int .i64 t.no, .int .i64 t.sa, .int .i64 t.ba, .int .i64 t.ro] 24)) := ((Below.refl _ V21).alloc (Nat.le_refl _) (.cells #[.int .i64 t.p, .bool t.hl, .bool t.hn, .int .i64 t.la, .int .i64 t.no, .int .i64 t.sa, .int .i64 t.ba, .int .i64 t.ro] 24))
        have nb0 := blk_new V21 (.cells #[.int .i64 t.p, .bool t.hl, .bool t.hn, .int .i64 t.la, .int .i64 t.no, .int .i64 t.sa, .int .i64 t.ba, .int .i64 t.ro] 24)
        have nz0 : V21.heap.size < (V21.alloc (.cells #[.int .i64 t.p, .bool t.hl, .bool t.hn, .int .i64 t.la, .int .i64 t.no, .int .i64 t.sa, .int .i64 t.ba, .int .i64 t.ro] 24)).heap.size := by simp only [World.size_alloc]; omega
        have S_2 := Lib.hid ((b.block _ Sz_1).trans S_1.out)
        have Sz_2 := Nat.lt_of_lt_of_le Sz_1 b.size
        have Sc0_2 := blk_cell S_2.out 0
        have Sc1_2 := blk_cell S_2.out 1
        have Sc2_2 := blk_cell S_2.out 2
        have Sc3_2 := blk_cell S_2.out 3
        have Sc4_2 := blk_cell S_2.out 4
        have Sc5_2 := blk_cell S_2.out 5
        have Sc6_2 := blk_cell S_2.out 6
        have Sc7_2 := blk_cell S_2.out 7
        have q_2 := q_1.trans (b.mono q_1.size)
        clear S_1 Sz_1 Sc0_1 Sc1_1 Sc2_1 Sc3_1 Sc4_1 Sc5_1 Sc6_1 Sc7_1 q_1
        clear b
        have T_2 := Lib.hid nb0
        have Tz_2 := nz0
        clear nb0 nz0
        have Tc0_2 := blk_cell T_2.out 0
        have Tc1_2 := blk_cell T_2.out 1
        have Tc2_2 := blk_cell T_2.out 2
        have Tc3_2 := blk_cell T_2.out 3
        have Tc4_2 := blk_cell T_2.out 4
        have Tc5_2 := blk_cell T_2.out 5
        have Tc6_2 := blk_cell T_2.out 6
        have Tc7_2 := blk_cell T_2.out 7
        generalize (V21.alloc (.cells #[.int .i64 t.p, .bool t.hl, .bool t.hn, .int .i64 t.la, .int .i64 t.no, .int .i64 t.sa, .int .i64 t.ba, .int .i64 t.ro] 24)) = V22 at q_2 S_2 Sz_2 Sc0_2 Sc1_2 Sc2_2 Sc3_2 Sc4_2 Sc5_2 Sc6_2 Sc7_2 T_2 Tz_2 Tc0_2 Tc1_2 Tc2_2 Tc3_2 Tc4_2 Tc5_2 Tc6_2 Tc7_2 ⊢
        clear zc
        have zc := (q_2.cell (p := ⟨bl, off + k, none⟩) hbl).trans hz0
        refine (num_any _ _).mono ?_
        rintro e w' ⟨rfl, rfl⟩
        have zl := blk_lt S_2.out
        have ne1 : V1.heap.size ≠ V21.heap.size := Nat.ne_of_lt Sz_1'
        have ne2 := ne1.symm
        have ubl : V1.heap.size ≠ bl := by have := HLE.out; omega
        have sf0 := blk_free S_2.out 0
        have sf1 := blk_free S_2.out 1
        have sf2 := blk_free S_2.out 2
        have sf3 := blk_free S_2.out 3
        have sf4 := blk_free S_2.out 4
        have sf5 := blk_free S_2.out 5
        have sf6 := blk_free S_2.out 6
        have sf7 := blk_free S_2.out 7
        go_wp2_with fail
        clear sf0 sf1 sf2 sf3 sf4 sf5 sf6 sf7
        clear Sc0_2 Sc1_2 Sc2_2 Sc3_2 Sc4_2 Sc5_2 Sc6_2 Sc7_2 Tc0_2 Tc1_2 Tc2_2 Tc3_2 Tc4_2 Tc5_2 Tc6_2 Tc7_2
        have S_3 : Hid (((((((((V22.setCell ⟨V1.heap.size, 0, none⟩ (.int .i64 t.p)).setCell ⟨V1.heap.size, 1, none⟩ (.bool t.hl)).setCell ⟨V1.heap.size, 2, none⟩ (.bool t.hn)).setCell ⟨V1.heap.size, 3, none⟩ (.int .i64 t.la)).setCell ⟨V1.heap.size, 4, none⟩ (.int .i64 t.no)).setCell ⟨V1.heap.size, 5, none⟩ (.int .i64 t.sa)).setCell ⟨V1.heap.size, 6, none⟩ (.int .i64 t.ba)).setCell ⟨V1.heap.size, 7, none⟩ (.int .i64 t.ro)).heap[V1.heap.size]? = some (.cells #[.int .i64 t.p, .bool t.hl, .bool t.hn, .int .i64 t.la, .int .i64 t.no, .int .i64 t.sa, .int .i64 t.ba, .int .i64 t.ro] 24 (0, 0))) := Lib.hid (blk_all8 S_2.out (.int .i64 t.p) (.bool t.hl) (.bool t.hn) (.int .i64 t.la) (.int .i64 t.no) (.int .i64 t.sa) (.int .i64 t.ba) (.int .i64 t.ro))
        have T_3 : Hid (((((((((V22.setCell ⟨V1.heap.size, 0, none⟩ (.int .i64 t.p)).setCell ⟨V1.heap.size, 1, none⟩ (.bool t.hl)).setCell ⟨V1.heap.size, 2, none⟩ (.bool t.hn)).setCell ⟨V1.heap.size, 3, none⟩ (.int .i64 t.la)).setCell ⟨V1.heap.size, 4, none⟩ (.int .i64 t.no)).setCell ⟨V1.heap.size, 5, none⟩ (.int .i64 t.sa)).setCell ⟨V1.heap.size, 6, none⟩ (.int .i64 t.ba)).setCell ⟨V1.heap.size, 7, none⟩ (.int .i64 t.ro)).heap[V21.heap.size]? = some (.cells #[.int .i64 t.p, .bool t.hl, .bool t.hn, .int .i64 t.la, .int .i64 t.no, .int .i64 t.sa, .int .i64 t.ba, .int .i64 t.ro] 24 (0, 0))) := Lib.hid (oth_all8 T_2.out (by first | assumption | omega) (.int .i64 t.p) (.bool t.hl) (.bool t.hn) (.int .i64 t.la) (.int .i64 t.no) (.int .i64 t.sa) (.int .i64 t.ba) (.int .i64 t.ro))
        have q_3 : Below w.heap.size w ((((((((V22.setCell ⟨V1.heap.size, 0, none⟩ (.int .i64 t.p)).setCell ⟨V1.heap.size, 1, none⟩ (.bool t.hl)).setCell ⟨V1.heap.size, 2, none⟩ (.bool t.hn)).setCell ⟨V1.heap.size, 3, none⟩ (.int .i64 t.la)).setCell ⟨V1.heap.size, 4, none⟩ (.int .i64 t.no)).setCell ⟨V1.heap.size, 5, none⟩ (.int .i64 t.sa)).setCell ⟨V1.heap.size, 6, none⟩ (.int .i64 t.ba)).setCell ⟨V1.heap.size, 7, none⟩ (.int .i64 t.ro)) := bel_all8 q_2 HLE.out (.int .i64 t.p) (.bool t.hl) (.bool t.hn) (.int .i64 t.la) (.int .i64 t.no) (.int .i64 t.sa) (.int .i64 t.ba) (.int .i64 t.ro)
        clear q_2 S_2 Sz_2 T_2 Tz_2
        generalize ((((((((V22.setCell ⟨V1.heap.size, 0, none⟩ (.int .i64 t.p)).setCell ⟨V1.heap.size, 1, none⟩ (.bool t.hl)).setCell ⟨V1.heap.size, 2, none⟩ (.bool t.hn)).setCell ⟨V1.heap.size, 3, none⟩ (.int .i64 t.la)).setCell ⟨V1.heap.size, 4, none⟩ (.int .i64 t.no)).setCell ⟨V1.heap.size, 5, none⟩ (.int .i64 t.sa)).setCell ⟨V1.heap.size, 6, none⟩ (.int .i64 t.ba)).setCell ⟨V1.heap.size, 7, none⟩ (.int .i64 t.ro)) = X1 at q_3 S_3 T_3 ⊢
        have Sz_3 := blk_lt S_3.out
        have Sc0_3 := blk_cell S_3.out 0
        have Sc1_3 := blk_cell S_3.out 1
        have Sc2_3 := blk_cell S_3.out 2
        have Sc3_3 := blk_cell S_3.out 3
        have Sc4_3 := blk_cell S_3.out 4
        have Sc5_3 := blk_cell S_3.out 5
        have Sc6_3 := blk_cell S_3.out 6
        have Sc7_3 := blk_cell S_3.out 7
        have Tz_3 := blk_lt T_3.out
        have Tc0_3 := blk_cell T_3.out 0
        have Tc1_3 := blk_cell T_3.out 1
        have Tc2_3 := blk_cell T_3.out 2
        have Tc3_3 := blk_cell T_3.out 3
        have Tc4_3 := blk_cell T_3.out 4
        have Tc5_3 := blk_cell T_3.out 5
        have Tc6_3 := blk_cell T_3.out 6
        have Tc7_3 := blk_cell T_3.out 7
        have hcm : Hid (Hy.Calm t y) := Lib.hid (by rw [← HT.out, show rdO s = rd s from if_pos hc.out.2.1]; exact calm_rd hc.out.1 hc.out.2.1 hc.out.2.2 y1)
        clear hc hE HT zc hz' hy ubl
        go_loopw [10] (fun jj wx => ∃ (j : Nat) (u : HS), j ≤ 10 ∧ jj = .int .i64 j ∧ Hid (Hy.Calm u y) ∧ wx.heap[V1.heap.size]? = some (.cells #[.int .i64 u.p, .bool u.hl, .bool u.hn, .int .i64 u.la, .int .i64 u.no, .int .i64 u.sa, .int .i64 u.ba, .int .i64 u.ro] 24 (0, 0)) ∧ Below w.heap.size w wx) (fun jj _ => 10 - (intOf jj).toNat)
        case atStart => exact ⟨0, t, by omega, rfl, hcm, S_3.out, q_3⟩
        case round =>
          obtain ⟨j, u, hj, rfl, hu, hS, hq⟩ := hrel
          have p_0 := hq
          clear S_3 q_3 Sz_3 T_3 Tz_3 Sc0_3 Tc0_3 Sc1_3 Tc1_3 Sc2_3 Tc2_3 Sc3_3 Tc3_3 Sc4_3 Tc4_3 Sc5_3 Tc5_3 Sc6_3 Tc6_3 Sc7_3 Tc7_3 ne1 ne2
          have q_0 := p_0
          clear p_0
          have Sz_0 := blk_lt hS
          have S_0 := Lib.hid (hS)
          have Sc0_0 := blk_cell S_0.out 0
          have Sc1_0 := blk_cell S_0.out 1
          have Sc2_0 := blk_cell S_0.out 2
          have Sc3_0 := blk_cell S_0.out 3
          have Sc4_0 := blk_cell S_0.out 4
          have Sc5_0 := blk_cell S_0.out 5
          have Sc6_0 := blk_cell S_0.out 6
          have Sc7_0 := blk_cell S_0.out 7
          clear hS hq
          by_cases h8 : j < 10
          case neg =>
            obtain rfl : j = 10 := by omega
            have e8 : ((10 : Nat) : Int) = 10 := rfl
            go_wp2_with fail
            go_roundw
            case rel => exact ⟨k + 1, y, u, by omega, by omega, by go_num, rfl, ⟨by omega, by omega⟩, Lib.hid ⟨hu.out.1, hu.out.2.1, hu.out.2.2.2⟩, S_0.out, q_0⟩
            case measure => simp [intOf]; omega
          case pos =>
            have i2 : (j : Int) < 10 := by omega
            obtain ⟨v, hv⟩ : ∃ v, smO u y = v := ⟨_, rfl⟩
            have HNV : Hid (NV y) := Lib.hid ⟨y0, by omega⟩
            have HF : Hid (smE u y = 0) := Lib.hid (by rw [smE, if_pos hu.out.2.1, if_pos HNV.out])
            have hcv : Hid (Hy.Calm v y) := Lib.hid (by rw [← hv, show smO u y = sm u y by rw [smO, if_pos hu.out.2.1, if_pos HNV.out]]; exact calm_sm hu.out HNV.out)
            have HY := Lib.hid hv
            clear hv
            go_wp2_with fail
            refine (sample_l u v y 0 HF.out HY.out _).mono ?_
            rintro e V41 ⟨rfl, b⟩
            have S_1 := Lib.hid ((b.block _ Sz_0).trans S_0.out)
            have Sz_1 := Nat.lt_of_lt_of_le Sz_0 b.size
            have Sc0_1 := blk_cell S_1.out 0
            have Sc1_1 := blk_cell S_1.out 1
            have Sc2_1 := blk_cell S_1.out 2
            have Sc3_1 := blk_cell S_1.out 3
            have Sc4_1 := blk_cell S_1.out 4
            have Sc5_1 := blk_cell S_1.out 5
            have Sc6_1 := blk_cell S_1.out 6
            have Sc7_1 := blk_cell S_1.out 7
            have q_1 := q_0.trans (b.mono q_0.size)
            clear S_0 Sz_0 Sc0_0 Sc1_0 Sc2_0 Sc3_0 Sc4_0 Sc5_0 Sc6_0 Sc7_0 q_0
            clear b
            go_wp2_with fail
            have Sz_1' := Sz_1
            have b : Below V41.heap.size V41 (V41.alloc (.cells #[.int .i64 v.p, .bool v.hl, .bool v.hn, .int .i64 v.la, .int .i64 v.no, .int .i64 v.sa, .int .i64 v.ba, .int .i64 v.ro] 24)) := ((Below.refl _ V41).alloc (Nat.le_refl _) (.cells #[.int .i64 v.p, .bool v.hl, .bool v.hn, .int .i64 v.la, .int .i64 v.no, .int .i64 v.sa, .int .i64 v.ba, .int .i64 v.ro] 24))
            have nb0 := blk_new V41 (.cells #[.int .i64 v.p, .bool v.hl, .bool v.hn, .int .i64 v.la, .int .i64 v.no, .int .i64 v.sa, .int .i64 v.ba, .int .i64 v.ro] 24)
            have nz0 : V41.heap.size < (V41.alloc (.cells #[.int .i64 v.p, .bool v.hl, .bool v.hn, .int .i64 v.la, .int .i64 v.no, .int .i64 v.sa, .int .i64 v.ba, .int .i64 v.ro] 24)).heap.size := by simp only [World.size_alloc]; omega
            have S_2 := Lib.hid ((b.block _ Sz_1).trans S_1.out)
            have Sz_2 := Nat.lt_of_lt_of_le Sz_1 b.size
            have Sc0_2 := blk_cell S_2.out 0
            have Sc1_2 := blk_cell S_2.out 1
            have Sc2_2 := blk_cell S_2.out 2
            have Sc3_2 := blk_cell S_2.out 3
            have Sc4_2 := blk_cell S_2.out 4
            have Sc5_2 := blk_cell S_2.out 5
            have Sc6_2 := blk_cell S_2.out 6
            have Sc7_2 := blk_cell S_2.out 7
            have q_2 := q_1.trans (b.mono q_1.size)
            clear S_1 Sz_1 Sc0_1 Sc1_1 Sc2_1 Sc3_1 Sc4_1 Sc5_1 Sc6_1 Sc7_1 q_1
            clear b
            have U_2 := Lib.hid nb0
            have Uz_2 := nz0
            clear nb0 nz0
            have Uc0_2 := blk_cell U_2.out 0
            have Uc1_2 := blk_cell U_2.out 1
            have Uc2_2 := blk_cell U_2.out 2
            have Uc3_2 := blk_cell U_2.out 3
            have Uc4_2 := blk_cell U_2.out 4
            have Uc5_2 := blk_cell U_2.out 5
            have Uc6_2 := blk_cell U_2.out 6
            have Uc7_2 := blk_cell U_2.out 7
            generalize (V41.alloc (.cells #[.int .i64 v.p, .bool v.hl, .bool v.hn, .int .i64 v.la, .int .i64 v.no, .int .i64 v.sa, .int .i64 v.ba, .int .i64 v.ro] 24)) = V42 at q_2 S_2 Sz_2 Sc0_2 Sc1_2 Sc2_2 Sc3_2 Sc4_2 Sc5_2 Sc6_2 Sc7_2 U_2 Uz_2 Uc0_2 Uc1_2 Uc2_2 Uc3_2 Uc4_2 Uc5_2 Uc6_2 Uc7_2 ⊢
            refine (num_any _ _).mono ?_
            rintro e w' ⟨rfl, rfl⟩
            have hp : v.p = 0 := hcv.out.1
            have ne1 : V1.heap.size ≠ V41.heap.size := Nat.ne_of_lt Sz_1'
            have ne2 := ne1.symm
            have sf0 := blk_free S_2.out 0
            have sf1 := blk_free S_2.out 1
            have sf2 := blk_free S_2.out 2
            have sf3 := blk_free S_2.out 3
            have sf4 := blk_free S_2.out 4
            have sf5 := blk_free S_2.out 5
            have sf6 := blk_free S_2.out 6
            have sf7 := blk_free S_2.out 7
            go_wp2_with fail

            clear sf0 sf1 sf2 sf3 sf4 sf5 sf6 sf7
            clear Sc0_2 Sc1_2 Sc2_2 Sc3_2 Sc4_2 Sc5_2 Sc6_2 Sc7_2 Uc0_2 Uc1_2 Uc2_2 Uc3_2 Uc4_2 Uc5_2 Uc6_2 Uc7_2
            have S_3 : Hid (((((((((V42.setCell ⟨V1.heap.size, 0, none⟩ (.int .i64 0)).setCell ⟨V1.heap.size, 1, none⟩ (.bool v.hl)).setCell ⟨V1.heap.size, 2, none⟩ (.bool v.hn)).setCell ⟨V1.heap.size, 3, none⟩ (.int .i64 v.la)).setCell ⟨V1.heap.size, 4, none⟩ (.int .i64 v.no)).setCell ⟨V1.heap.size, 5, none⟩ (.int .i64 v.sa)).setCell ⟨V1.heap.size, 6, none⟩ (.int .i64 v.ba)).setCell ⟨V1.heap.size, 7, none⟩ (.int .i64 v.ro)).heap[V1.heap.size]? = some (.cells #[.int .i64 0, .bool v.hl, .bool v.hn, .int .i64 v.la, .int .i64 v.no, .int .i64 v.sa, .int .i64 v.ba, .int .i64 v.ro] 24 (0, 0))) := Lib.hid (blk_all8 S_2.out (.int .i64 0) (.bool v.hl) (.bool v.hn) (.int .i64 v.la) (.int .i64 v.no) (.int .i64 v.sa) (.int .i64 v.ba) (.int .i64 v.ro))
            have U_3 : Hid (((((((((V42.setCell ⟨V1.heap.size, 0, none⟩ (.int .i64 0)).setCell ⟨V1.heap.size, 1, none⟩ (.bool v.hl)).setCell ⟨V1.heap.size, 2, none⟩ (.bool v.hn)).setCell ⟨V1.heap.size, 3, none⟩ (.int .i64 v.la)).setCell ⟨V1.heap.size, 4, none⟩ (.int .i64 v.no)).setCell ⟨V1.heap.size, 5, none⟩ (.int .i64 v.sa)).setCell ⟨V1.heap.size, 6, none⟩ (.int .i64 v.ba)).setCell ⟨V1.heap.size, 7, none⟩ (.int .i64 v.ro)).heap[V41.heap.size]? = some (.cells #[.int .i64 v.p, .bool v.hl, .bool v.hn, .int .i64 v.la, .int .i64 v.no, .int .i64 v.sa, .int .i64 v.ba, .int .i64 v.ro] 24 (0, 0))) := Lib.hid (oth_all8 U_2.out (by first | assumption | omega) (.int .i64 0) (.bool v.hl) (.bool v.hn) (.int .i64 v.la) (.int .i64 v.no) (.int .i64 v.sa) (.int .i64 v.ba) (.int .i64 v.ro))
            have q_3 : Below w.heap.size w ((((((((V42.setCell ⟨V1.heap.size, 0, none⟩ (.int .i64 0)).setCell ⟨V1.heap.size, 1, none⟩ (.bool v.hl)).setCell ⟨V1.heap.size, 2, none⟩ (.bool v.hn)).setCell ⟨V1.heap.size, 3, none⟩ (.int .i64 v.la)).setCell ⟨V1.heap.size, 4, none⟩ (.int .i64 v.no)).setCell ⟨V1.heap.size, 5, none⟩ (.int .i64 v.sa)).setCell ⟨V1.heap.size, 6, none⟩ (.int .i64 v.ba)).setCell ⟨V1.heap.size, 7, none⟩ (.int .i64 v.ro)) := bel_all8 q_2 HLE.out (.int .i64 0) (.bool v.hl) (.bool v.hn) (.int .i64 v.la) (.int .i64 v.no) (.int .i64 v.sa) (.int .i64 v.ba) (.int .i64 v.ro)
            clear q_2 S_2 Sz_2 U_2 Uz_2
            generalize ((((((((V42.setCell ⟨V1.heap.size, 0, none⟩ (.int .i64 0)).setCell ⟨V1.heap.size, 1, none⟩ (.bool v.hl)).setCell ⟨V1.heap.size, 2, none⟩ (.bool v.hn)).setCell ⟨V1.heap.size, 3, none⟩ (.int .i64 v.la)).setCell ⟨V1.heap.size, 4, none⟩ (.int .i64 v.no)).setCell ⟨V1.heap.size, 5, none⟩ (.int .i64 v.sa)).setCell ⟨V1.heap.size, 6, none⟩ (.int .i64 v.ba)).setCell ⟨V1.heap.size, 7, none⟩ (.int .i64 v.ro)) = X2 at q_3 S_3 U_3 ⊢
            have Sz_3 := blk_lt S_3.out
            have Sc0_3 := blk_cell S_3.out 0
            have Sc1_3 := blk_cell S_3.out 1
            have Sc2_3 := blk_cell S_3.out 2
            have Sc3_3 := blk_cell S_3.out 3
            have Sc4_3 := blk_cell S_3.out 4
            have Sc5_3 := blk_cell S_3.out 5
            have Sc6_3 := blk_cell S_3.out 6
            have Sc7_3 := blk_cell S_3.out 7
            have Uz_3 := blk_lt U_3.out
            have Uc0_3 := blk_cell U_3.out 0
            have Uc1_3 := blk_cell U_3.out 1
            have Uc2_3 := blk_cell U_3.out 2
            have Uc3_3 := blk_cell U_3.out 3
            have Uc4_3 := blk_cell U_3.out 4
            have Uc5_3 := blk_cell U_3.out 5
            have Uc6_3 := blk_cell U_3.out 6
            have Uc7_3 := blk_cell U_3.out 7
            go_roundw
            case rel => exact ⟨j + 1, v, by omega, by go_num, hcv, by rw [hp]; exact S_3.out, q_3⟩
            case measure => simp [intOf]; omega

theorem own : ownKnob Try.prog.godebug = none := by kernel_rfl
theorem laidOut : laidOutB Try.prog = true := by kernel_rfl

set_option maxRecDepth 100000 in
set_option maxHeartbeats 2000000 in
theorem lifted (os : Os) (started : os.Started) (H : Type) (enc : TypeId × Value → H) :
    ReturnsInHanded {} Try.checked os 4 .any (Rows.hystartCalmSpec.pre6 enc Try.prog Try.f4 Rows.hystartCalmRow.domain false) (Rows.hystartCalmSpec.post enc Try.prog Try.f4 false true false false) := by
  refine returnsInHanded_of_change_sized (C := Try.checked) own started (by kernel_rfl) Try.func4
    (ChangeSpec.witness6 (enc := enc) (C := Try.checked) false ⟨#[], #[.int .i64 0, .slice none 0 0], []⟩ 8 (by kernel_rfl) (by kernel_rfl) (by kernel_rfl) (by kernel_rfl)) ?_
  intro W base args ds gs before hval0 hW hcnd hsz0 _
  have hval : ∀ (j : Nat) t v, Try.f4.params[j]? = some t → args[j]? = some v → Value.okWide Try.prog W .any base t v := hval0
  have hsz : (DataW.weightsEach Try.prog (Try.f4.params.toList ++ Rows.hystartCalmSpec.plain.varTypes Try.prog) (ds ++ gs)).all (· ≤ reachBytes) = true := hsz0
  have hW' := hW
  obtain ⟨p, q, hA0, hV, rfl, hfz, hnd⟩ := hW
  have hA : DataW.TrodAll enc Try.prog W 0 (fun _ => true) true Try.f4.params.toList args.toList ds p := hA0
  rw [Try.params4] at hA hval hsz
  obtain ⟨v0, vs0, d0, ds0, p0, q0, hargs, rfl, rfl, h0, r0⟩ := trodAll_cons hA
  obtain ⟨v1, vs1, d1, ds1, p1, q1, rfl, rfl, rfl, h1, r1⟩ := trodAll_cons r0
  obtain ⟨rfl, rfl, rfl⟩ := trodAll_nil r1
  obtain rfl : args = #[v0, v1] := by cases args; simp_all
  obtain ⟨rfl, rfl⟩ := trodVars_none hV
  obtain ⟨a0, rfl, rfl, rfl, w0⟩ := open_int Try.underlying3 (hval 0 3 v0 rfl rfl) h0
  obtain ⟨a1, len1, cap1, rfl⟩ := okWide_slice Try.underlying38 (hval 1 38 v1 rfl rfl)
  have k1 := h1
  have lt1 : ∀ x ∈ p1, x.block < W.heap.size := by obtain ⟨m, hm⟩ := k1; exact DataW.trod_lt m _ _ _ hm
  obtain ⟨xs1, hxl1, hbt1, hcap1, hre1⟩ : ∃ xs : List Int, xs.length = len1 ∧ Its W a1 xs ∧ (a1 = none → cap1 = 0) ∧ xs.length ≤ 17592186043904 := by
    obtain ⟨fuel, hf⟩ := h1
    rcases open_ints Try.underlying38 Try.underlying3 (by kernel_rfl) hf with ⟨hcs, _⟩ | ⟨x, l, c, zs, hcs, _, hl, hm, hz, hd, hcell, hwz⟩
    · simp [Value.cells] at hcs
      obtain ⟨rfl, rfl, rfl⟩ := hcs
      exact ⟨[], rfl, ⟨(fun x h => by cases h), .inl rfl⟩, fun _ => rfl, by simp⟩
    · simp [Value.cells] at hcs
      obtain ⟨rfl, rfl, rfl⟩ := hcs
      have hz' : zs.length = cap1 := by simpa using hz
      obtain ⟨xs, h1, h2⟩ := its_of_ints hl hz' hcell hwz
      have hd' := (Prod.mk.inj hd).1
      have hw := sized_slice hsz (j := 1) (t := 38) (e := 3) rfl (by rw [hd']; rfl) Try.underlying38
      rw [bytes8] at hw
      simp only [lits, List.length_map, List.length_take, List.length_drop, reachBytes] at hw
      exact ⟨xs, h1, h2, (fun h => by cases h), by omega⟩
  clear hA0 hval0 hsz hsz0
  obtain ⟨lo0, hi0⟩ := bounds_i64 w0
  subst hxl1
  refine (walk a0 a1 xs1 cap1 W lo0 hi0 hbt1 hcap1 hre1).mono fun e W' ⟨he, bel⟩ => ?_
  subst he
  exact ⟨_, rfl, _, _, _, [], _, [], hW', trodAll_mk1 (shut_bool Try.underlying4 _), (trodAll_cons_mk (shut_int Try.underlying3 w0) (trodAll_cons_mk (Below.trod laidOut (by kernel_rfl) (of_decide_eq_true (by kernel_rfl)) k1 bel lt1) trodAll_mk0)), rfl, bel.frame _, fun h => by cases h⟩

theorem over : Rows.hystartCalmRow.holds Try.pinned (OpenSpec.ofChange Rows.hystartCalmSpec) :=
  OpenClaim.holds_of_wide 4 Try.f4 rfl rfl rfl rfl rfl rfl rfl ⟨rfl, rfl, rfl, rfl, rfl⟩ rfl rfl rfl rfl rfl (by kernel_rfl) Try.func4 (by kernel_rfl)
    (of_decide_eq_true (by kernel_rfl)) (by unfold Func.isWrapper; first | (rw [if_pos (by decide +kernel)]; kernel_rfl) | (rw [if_neg (by decide +kernel)]; exact ⟨rfl, rfl⟩))
    (fun os started H enc _ => lifted os started H enc)

end Go.Proofs.Ytfmjlcnpabpheaa.hystartCalm
namespace Go.Proofs.Ytfmjlcnpabpheaa
/-- The statement. -/
theorem hystartCalm_holds : Rows.HystartCalmSaid := hystartCalm.over
#print axioms hystartCalm_holds
end Go.Proofs.Ytfmjlcnpabpheaa
