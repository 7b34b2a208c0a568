/- For every list of events, one behind the other: the phases go the page's way: the third is never left, the second only by a shorter answer, five rounds or a loss. No condition. -/
import Derived.Test.YtfmjlcnpabpheaaRows
import Derived.Test.YtfmjlcnpabpheaaHyAl
import Derived.Test.YtfmjlcnpabpheaaGStore
import Derived.Test.YtfmjlcnpabpheaaGStep22
import Derived.Test.YtfmjlcnpabpheaaGAgg
import Derived.Deep.DeepCutAuto
import Derived.RegionTactic
import Derived.Deep.RegionHeld3
import Derived.Deep.RegionWith
import Derived.ProofKit
import Derived.OpenShut
import Derived.ChangeOld
import Derived.SizedLaws
namespace Go.Proofs.Ytfmjlcnpabpheaa.hystartPlays
open Go.ChangeShapes Go.WideShapes Go.ChangeAt Go.RowKit Go.Deep Go.Proofs.Ytfmjlcnpabpheaa.Hy

set_option maxRecDepth 100000 in
set_option maxHeartbeats 2000000 in
theorem walk (pa : Option Addr) (rs : List Step22) (cap : Nat) (w : World) (hx : Sts 2 Step22.cells Step22.ok w pa rs) (hre : rs.length ≤ 8796093021952) :
    Calls Try.prog 3 #[.slice pa rs.length cap] w fun e w' => e = .returned (.bool true) ∧ Below w.heap.size w w' := by
  have HX := Lib.hid hx
  clear hx
  have q_0 := Below.refl w.heap.size w
  go_enter Try.func3, Try.ntmps3
  go_wp2_with fail
  have b : Below w.heap.size w ((w.alloc (.cells #[.int .i64 0, .bool false, .bool false, .int .i64 0, .int .i64 0, .int .i64 0, .int .i64 0, .int .i64 0] 24)).alloc (.cells #[.int .i64 0, .bool false, .bool false, .int .i64 0, .int .i64 0, .int .i64 0, .int .i64 0, .int .i64 0] 25)) := (((Below.refl _ w).alloc (Nat.le_refl _) (.cells #[.int .i64 0, .bool false, .bool false, .int .i64 0, .int .i64 0, .int .i64 0, .int .i64 0, .int .i64 0] 24)).alloc (by simp only [World.size_alloc]; omega) (.cells #[.int .i64 0, .bool false, .bool false, .int .i64 0, .int .i64 0, .int .i64 0, .int .i64 0, .int .i64 0] 25))
  have nb0 := blk_new w (.cells #[.int .i64 0, .bool false, .bool false, .int .i64 0, .int .i64 0, .int .i64 0, .int .i64 0, .int .i64 0] 24)
  have nb0 := (Below.heap_alloc (w.alloc (.cells #[.int .i64 0, .bool false, .bool false, .int .i64 0, .int .i64 0, .int .i64 0, .int .i64 0, .int .i64 0] 24)) (.cells #[.int .i64 0, .bool false, .bool false, .int .i64 0, .int .i64 0, .int .i64 0, .int .i64 0, .int .i64 0] 25) (w.heap.size) (by simp only [World.size_alloc]; omega)).trans nb0
  have nz0 : w.heap.size < ((w.alloc (.cells #[.int .i64 0, .bool false, .bool false, .int .i64 0, .int .i64 0, .int .i64 0, .int .i64 0, .int .i64 0] 24)).alloc (.cells #[.int .i64 0, .bool false, .bool false, .int .i64 0, .int .i64 0, .int .i64 0, .int .i64 0, .int .i64 0] 25)).heap.size := by simp only [World.size_alloc]; omega
  have nb1 := blk_new (w.alloc (.cells #[.int .i64 0, .bool false, .bool false, .int .i64 0, .int .i64 0, .int .i64 0, .int .i64 0, .int .i64 0] 24)) (.cells #[.int .i64 0, .bool false, .bool false, .int .i64 0, .int .i64 0, .int .i64 0, .int .i64 0, .int .i64 0] 25)
  simp only [World.size_alloc] at nb1
  have nz1 : w.heap.size + 1 < ((w.alloc (.cells #[.int .i64 0, .bool false, .bool false, .int .i64 0, .int .i64 0, .int .i64 0, .int .i64 0, .int .i64 0] 24)).alloc (.cells #[.int .i64 0, .bool false, .bool false, .int .i64 0, .int .i64 0, .int .i64 0, .int .i64 0, .int .i64 0] 25)).heap.size := by simp only [World.size_alloc]; omega
  have q_1 := q_0.trans (b.mono q_0.size)
  clear q_0
  clear b
  have S_1 := Lib.hid nb0
  have Sz_1 := nz0
  clear nb0 nz0
  have W_1 := Lib.hid nb1
  have Wz_1 := nz1
  clear nb1 nz1
  generalize ((w.alloc (.cells #[.int .i64 0, .bool false, .bool false, .int .i64 0, .int .i64 0, .int .i64 0, .int .i64 0, .int .i64 0] 24)).alloc (.cells #[.int .i64 0, .bool false, .bool false, .int .i64 0, .int .i64 0, .int .i64 0, .int .i64 0, .int .i64 0] 25)) = V1 at q_1 S_1 Sz_1 W_1 Wz_1 ⊢
  have HZ : Hid (HV Hy.Z) := Lib.hid ⟨p0, n0, n0, n0, n0, n0⟩
  go_loopw [5] (fun ii wr => ∃ (k : Nat) (s : HS), k ≤ rs.length ∧ ii = .int .i64 k ∧ Hid (HV s) ∧ wr.heap[w.heap.size]? = some (.cells #[.int .i64 s.p, .bool s.hl, .bool s.hn, .int .i64 s.la, .int .i64 s.no, .int .i64 s.sa, .int .i64 s.ba, .int .i64 s.ro] 24 (0, 0)) ∧ wr.heap[w.heap.size + 1]? = some (.cells #[.int .i64 s.p, .bool s.hl, .bool s.hn, .int .i64 s.la, .int .i64 s.no, .int .i64 s.sa, .int .i64 s.ba, .int .i64 s.ro] 25 (0, 0)) ∧ Below w.heap.size w wr) (fun ii _ => rs.length - (intOf ii).toNat)
  case atStart => exact ⟨0, Hy.Z, by omega, rfl, HZ, S_1.out, W_1.out, q_1⟩
  case round =>
    obtain ⟨k, s, hk, rfl, hs, hS, hW, hq⟩ := hrel
    have q_0 := hq
    have Sz_0 := blk_lt hS
    have Wz_0 := blk_lt hW
    have S_0 := Lib.hid (hS)
    have Sc0_0 := blk_cell S_0.out 0
    have Sc1_0 := blk_cell S_0.out 1
    have Sc2_0 := blk_cell S_0.out 2
    have Sc3_0 := blk_cell S_0.out 3
    have Sc4_0 := blk_cell S_0.out 4
    have Sc5_0 := blk_cell S_0.out 5
    have Sc6_0 := blk_cell S_0.out 6
    have Sc7_0 := blk_cell S_0.out 7
    have W_0 := Lib.hid (hW)
    clear hS hW hq S_1 W_1 q_1 Sz_1 Wz_1 HZ
    by_cases hlt : k < rs.length
    case neg =>
      obtain rfl : k = rs.length := by omega
      go_wp2_with fail
      refine (alive_any _).mono ?_
      rintro e w9 ⟨rfl, b9⟩
      go_wp2
      go_ret
      exact ⟨rfl, q_0.trans (b9.mono q_0.size)⟩
    case pos =>
      obtain ⟨hok, bl, off, rfl, hbl, hcx⟩ := HX.out.at (List.getElem?_eq_getElem hlt)
      have x0 := hcx 0 _ rfl
      have x1 := hcx 1 _ rfl
      clear hcx
      generalize rs[k] = r at hok x0 x1
      obtain ⟨wh, n⟩ := r
      dsimp only at hok x0 x1
      have i1 : (k : Int) < (rs.length : Int) := by omega
      clear hok
      have nsw : w.heap.size ≠ w.heap.size + 1 := by omega
      have nws := nsw.symm
      have nsb := Nat.ne_of_lt Sz_0
      have nwb := Nat.ne_of_lt Wz_0
      have nbs := nsb.symm
      have nbw := nwb.symm
      have u0 : w.heap.size ≠ bl := by omega
      have u1 : w.heap.size + 1 ≠ bl := by omega
      by_cases hw : wh = 0
      case pos =>
        subst hw
        obtain ⟨u, hu⟩ : ∃ u, rdO s = u := ⟨_, rfl⟩
        have hu2 : rd s = u := by rw [← hu, show rdO s = rd s from if_pos hs.out]
        have HE : Hid (cE s = 0) := Lib.hid (if_pos hs.out)
        have HV2 : Hid (HV u) := Lib.hid (by rw [← hu2]; exact rd_may hs.out)
        have hway : Hid ((s.p = 2 → u.p = 2) ∧ (s.p = 1 → u.p ≠ 0)) := Lib.hid (by rw [← hu2]; exact rd_way hs.out)
        have HU := Lib.hid hu
        clear hu hu2
        have x0w := (q_0.cell (p := ⟨bl, off + k * 2, none⟩) hbl).trans x0
        have x1w := (q_0.cell (p := ⟨bl, off + k * 2 + 1, none⟩) hbl).trans x1
        have ub : bl < wr.heap.size := Nat.lt_of_lt_of_le hbl q_0.size
        have ub2 : wr.heap.size ≠ bl := Nat.ne_of_gt ub
        have ub3 := ub2.symm
        go_wp2_with fail
        clear ub ub2 ub3
        have b : Below wr.heap.size wr (wr.alloc (.cells #[.int .i64 s.p, .bool s.hl, .bool s.hn, .int .i64 s.la, .int .i64 s.no, .int .i64 s.sa, .int .i64 s.ba, .int .i64 s.ro] 24)) := ((Below.refl _ wr).alloc (Nat.le_refl _) (.cells #[.int .i64 s.p, .bool s.hl, .bool s.hn, .int .i64 s.la, .int .i64 s.no, .int .i64 s.sa, .int .i64 s.ba, .int .i64 s.ro] 24))
        have nb0 := blk_new wr (.cells #[.int .i64 s.p, .bool s.hl, .bool s.hn, .int .i64 s.la, .int .i64 s.no, .int .i64 s.sa, .int .i64 s.ba, .int .i64 s.ro] 24)
        have nz0 : wr.heap.size < (wr.alloc (.cells #[.int .i64 s.p, .bool s.hl, .bool s.hn, .int .i64 s.la, .int .i64 s.no, .int .i64 s.sa, .int .i64 s.ba, .int .i64 s.ro] 24)).heap.size := by simp only [World.size_alloc]; omega
        have S_1 := Lib.hid ((b.block _ Sz_0).trans S_0.out)
        have Sz_1 := Nat.lt_of_lt_of_le Sz_0 b.size
        have Sc0_1 := blk_cell S_1.out 0
        have Sc1_1 := blk_cell S_1.out 1
        have Sc2_1 := blk_cell S_1.out 2
        have Sc3_1 := blk_cell S_1.out 3
        have Sc4_1 := blk_cell S_1.out 4
        have Sc5_1 := blk_cell S_1.out 5
        have Sc6_1 := blk_cell S_1.out 6
        have Sc7_1 := blk_cell S_1.out 7
        have W_1 := Lib.hid ((b.block _ Wz_0).trans W_0.out)
        have Wz_1 := Nat.lt_of_lt_of_le Wz_0 b.size
        have q_1 := q_0.trans (b.mono q_0.size)
        clear S_0 Sz_0 Sc0_0 Sc1_0 Sc2_0 Sc3_0 Sc4_0 Sc5_0 Sc6_0 Sc7_0 W_0 Wz_0 q_0
        clear b
        have B_1 := Lib.hid nb0
        have Bz_1 := nz0
        clear nb0 nz0
        have Bc0_1 := blk_cell B_1.out 0
        have Bc1_1 := blk_cell B_1.out 1
        have Bc2_1 := blk_cell B_1.out 2
        have Bc3_1 := blk_cell B_1.out 3
        have Bc4_1 := blk_cell B_1.out 4
        have Bc5_1 := blk_cell B_1.out 5
        have Bc6_1 := blk_cell B_1.out 6
        have Bc7_1 := blk_cell B_1.out 7
        generalize (wr.alloc (.cells #[.int .i64 s.p, .bool s.hl, .bool s.hn, .int .i64 s.la, .int .i64 s.no, .int .i64 s.sa, .int .i64 s.ba, .int .i64 s.ro] 24)) = V21 at q_1 S_1 Sz_1 Sc0_1 Sc1_1 Sc2_1 Sc3_1 Sc4_1 Sc5_1 Sc6_1 Sc7_1 W_1 Wz_1 B_1 Bz_1 Bc0_1 Bc1_1 Bc2_1 Bc3_1 Bc4_1 Bc5_1 Bc6_1 Bc7_1 ⊢
        clear x0w x1w
        have x0w := (q_1.cell (p := ⟨bl, off + k * 2, none⟩) hbl).trans x0
        have x1w := (q_1.cell (p := ⟨bl, off + k * 2 + 1, none⟩) hbl).trans x1
        refine (round_l s u 0 HE.out HU.out _).mono ?_
        rintro e V22 ⟨rfl, b⟩
        have S_2 := Lib.hid ((b.block _ Sz_1).trans S_1.out)
        have Sz_2 := Nat.lt_of_lt_of_le Sz_1 b.size
        have Sc0_2 := blk_cell S_2.out 0
        have Sc1_2 := blk_cell S_2.out 1
        have Sc2_2 := blk_cell S_2.out 2
        have Sc3_2 := blk_cell S_2.out 3
        have Sc4_2 := blk_cell S_2.out 4
        have Sc5_2 := blk_cell S_2.out 5
        have Sc6_2 := blk_cell S_2.out 6
        have Sc7_2 := blk_cell S_2.out 7
        have W_2 := Lib.hid ((b.block _ Wz_1).trans W_1.out)
        have Wz_2 := Nat.lt_of_lt_of_le Wz_1 b.size
        have B_2 := Lib.hid ((b.block _ Bz_1).trans B_1.out)
        have Bz_2 := Nat.lt_of_lt_of_le Bz_1 b.size
        have Bc0_2 := blk_cell B_2.out 0
        have Bc1_2 := blk_cell B_2.out 1
        have Bc2_2 := blk_cell B_2.out 2
        have Bc3_2 := blk_cell B_2.out 3
        have Bc4_2 := blk_cell B_2.out 4
        have Bc5_2 := blk_cell B_2.out 5
        have Bc6_2 := blk_cell B_2.out 6
        have Bc7_2 := blk_cell B_2.out 7
        have q_2 := q_1.trans (b.mono q_1.size)
        clear S_1 Sz_1 Sc0_1 Sc1_1 Sc2_1 Sc3_1 Sc4_1 Sc5_1 Sc6_1 Sc7_1 W_1 Wz_1 B_1 Bz_1 Bc0_1 Bc1_1 Bc2_1 Bc3_1 Bc4_1 Bc5_1 Bc6_1 Bc7_1 q_1
        clear b
        clear x0w x1w
        have x0w := (q_2.cell (p := ⟨bl, off + k * 2, none⟩) hbl).trans x0
        have x1w := (q_2.cell (p := ⟨bl, off + k * 2 + 1, none⟩) hbl).trans x1
        have sf0 := blk_free S_2.out 0
        have sf1 := blk_free S_2.out 1
        have sf2 := blk_free S_2.out 2
        have sf3 := blk_free S_2.out 3
        have sf4 := blk_free S_2.out 4
        have sf5 := blk_free S_2.out 5
        have sf6 := blk_free S_2.out 6
        have sf7 := blk_free S_2.out 7
        have Wc0_2 := blk_cell W_2.out 0
        have Wc1_2 := blk_cell W_2.out 1
        have Wc2_2 := blk_cell W_2.out 2
        have Wc3_2 := blk_cell W_2.out 3
        have Wc4_2 := blk_cell W_2.out 4
        have Wc5_2 := blk_cell W_2.out 5
        have Wc6_2 := blk_cell W_2.out 6
        have Wc7_2 := blk_cell W_2.out 7
        go_wp2_with fail
        clear sf0 sf1 sf2 sf3 sf4 sf5 sf6 sf7
        clear Sc0_2 Sc1_2 Sc2_2 Sc3_2 Sc4_2 Sc5_2 Sc6_2 Sc7_2 Wc0_2 Wc1_2 Wc2_2 Wc3_2 Wc4_2 Wc5_2 Wc6_2 Wc7_2 Bc0_2 Bc1_2 Bc2_2 Bc3_2 Bc4_2 Bc5_2 Bc6_2 Bc7_2
        have S_3 : Hid (((((((((V22.setCell ⟨w.heap.size, 0, none⟩ (.int .i64 u.p)).setCell ⟨w.heap.size, 1, none⟩ (.bool u.hl)).setCell ⟨w.heap.size, 2, none⟩ (.bool u.hn)).setCell ⟨w.heap.size, 3, none⟩ (.int .i64 u.la)).setCell ⟨w.heap.size, 4, none⟩ (.int .i64 u.no)).setCell ⟨w.heap.size, 5, none⟩ (.int .i64 u.sa)).setCell ⟨w.heap.size, 6, none⟩ (.int .i64 u.ba)).setCell ⟨w.heap.size, 7, none⟩ (.int .i64 u.ro)).heap[w.heap.size]? = some (.cells #[.int .i64 u.p, .bool u.hl, .bool u.hn, .int .i64 u.la, .int .i64 u.no, .int .i64 u.sa, .int .i64 u.ba, .int .i64 u.ro] 24 (0, 0))) := Lib.hid (blk_all8 S_2.out (.int .i64 u.p) (.bool u.hl) (.bool u.hn) (.int .i64 u.la) (.int .i64 u.no) (.int .i64 u.sa) (.int .i64 u.ba) (.int .i64 u.ro))
        have W_3 : Hid (((((((((V22.setCell ⟨w.heap.size, 0, none⟩ (.int .i64 u.p)).setCell ⟨w.heap.size, 1, none⟩ (.bool u.hl)).setCell ⟨w.heap.size, 2, none⟩ (.bool u.hn)).setCell ⟨w.heap.size, 3, none⟩ (.int .i64 u.la)).setCell ⟨w.heap.size, 4, none⟩ (.int .i64 u.no)).setCell ⟨w.heap.size, 5, none⟩ (.int .i64 u.sa)).setCell ⟨w.heap.size, 6, none⟩ (.int .i64 u.ba)).setCell ⟨w.heap.size, 7, none⟩ (.int .i64 u.ro)).heap[w.heap.size + 1]? = some (.cells #[.int .i64 s.p, .bool s.hl, .bool s.hn, .int .i64 s.la, .int .i64 s.no, .int .i64 s.sa, .int .i64 s.ba, .int .i64 s.ro] 25 (0, 0))) := Lib.hid (oth_all8 W_2.out (by first | assumption | omega) (.int .i64 u.p) (.bool u.hl) (.bool u.hn) (.int .i64 u.la) (.int .i64 u.no) (.int .i64 u.sa) (.int .i64 u.ba) (.int .i64 u.ro))
        have B_3 : Hid (((((((((V22.setCell ⟨w.heap.size, 0, none⟩ (.int .i64 u.p)).setCell ⟨w.heap.size, 1, none⟩ (.bool u.hl)).setCell ⟨w.heap.size, 2, none⟩ (.bool u.hn)).setCell ⟨w.heap.size, 3, none⟩ (.int .i64 u.la)).setCell ⟨w.heap.size, 4, none⟩ (.int .i64 u.no)).setCell ⟨w.heap.size, 5, none⟩ (.int .i64 u.sa)).setCell ⟨w.heap.size, 6, none⟩ (.int .i64 u.ba)).setCell ⟨w.heap.size, 7, none⟩ (.int .i64 u.ro)).heap[wr.heap.size]? = some (.cells #[.int .i64 s.p, .bool s.hl, .bool s.hn, .int .i64 s.la, .int .i64 s.no, .int .i64 s.sa, .int .i64 s.ba, .int .i64 s.ro] 24 (0, 0))) := Lib.hid (oth_all8 B_2.out (by first | assumption | omega) (.int .i64 u.p) (.bool u.hl) (.bool u.hn) (.int .i64 u.la) (.int .i64 u.no) (.int .i64 u.sa) (.int .i64 u.ba) (.int .i64 u.ro))
        have q_3 : Below w.heap.size w ((((((((V22.setCell ⟨w.heap.size, 0, none⟩ (.int .i64 u.p)).setCell ⟨w.heap.size, 1, none⟩ (.bool u.hl)).setCell ⟨w.heap.size, 2, none⟩ (.bool u.hn)).setCell ⟨w.heap.size, 3, none⟩ (.int .i64 u.la)).setCell ⟨w.heap.size, 4, none⟩ (.int .i64 u.no)).setCell ⟨w.heap.size, 5, none⟩ (.int .i64 u.sa)).setCell ⟨w.heap.size, 6, none⟩ (.int .i64 u.ba)).setCell ⟨w.heap.size, 7, none⟩ (.int .i64 u.ro)) := bel_all8 q_2 (Nat.le_refl _) (.int .i64 u.p) (.bool u.hl) (.bool u.hn) (.int .i64 u.la) (.int .i64 u.no) (.int .i64 u.sa) (.int .i64 u.ba) (.int .i64 u.ro)
        clear q_2 S_2 Sz_2 W_2 Wz_2 B_2 Bz_2
        generalize ((((((((V22.setCell ⟨w.heap.size, 0, none⟩ (.int .i64 u.p)).setCell ⟨w.heap.size, 1, none⟩ (.bool u.hl)).setCell ⟨w.heap.size, 2, none⟩ (.bool u.hn)).setCell ⟨w.heap.size, 3, none⟩ (.int .i64 u.la)).setCell ⟨w.heap.size, 4, none⟩ (.int .i64 u.no)).setCell ⟨w.heap.size, 5, none⟩ (.int .i64 u.sa)).setCell ⟨w.heap.size, 6, none⟩ (.int .i64 u.ba)).setCell ⟨w.heap.size, 7, none⟩ (.int .i64 u.ro)) = X1 at q_3 S_3 W_3 B_3 ⊢
        have Sz_3 := blk_lt S_3.out
        have Sc0_3 := blk_cell S_3.out 0
        have Sc1_3 := blk_cell S_3.out 1
        have Sc2_3 := blk_cell S_3.out 2
        have Sc3_3 := blk_cell S_3.out 3
        have Sc4_3 := blk_cell S_3.out 4
        have Sc5_3 := blk_cell S_3.out 5
        have Sc6_3 := blk_cell S_3.out 6
        have Sc7_3 := blk_cell S_3.out 7
        have Wz_3 := blk_lt W_3.out
        have Wc0_3 := blk_cell W_3.out 0
        have Wc1_3 := blk_cell W_3.out 1
        have Wc2_3 := blk_cell W_3.out 2
        have Wc3_3 := blk_cell W_3.out 3
        have Wc4_3 := blk_cell W_3.out 4
        have Wc5_3 := blk_cell W_3.out 5
        have Wc6_3 := blk_cell W_3.out 6
        have Wc7_3 := blk_cell W_3.out 7
        have Bz_3 := blk_lt B_3.out
        have Bc0_3 := blk_cell B_3.out 0
        have Bc1_3 := blk_cell B_3.out 1
        have Bc2_3 := blk_cell B_3.out 2
        have Bc3_3 := blk_cell B_3.out 3
        have Bc4_3 := blk_cell B_3.out 4
        have Bc5_3 := blk_cell B_3.out 5
        have Bc6_3 := blk_cell B_3.out 6
        have Bc7_3 := blk_cell B_3.out 7
        clear x0w x1w
        have x0w := (q_3.cell (p := ⟨bl, off + k * 2, none⟩) hbl).trans x0
        have x1w := (q_3.cell (p := ⟨bl, off + k * 2 + 1, none⟩) hbl).trans x1
        refine (rround_l s u 0 HE.out HU.out _).mono ?_
        rintro e V23 ⟨rfl, b⟩
        have S_4 := Lib.hid ((b.block _ Sz_3).trans S_3.out)
        have Sz_4 := Nat.lt_of_lt_of_le Sz_3 b.size
        have Sc0_4 := blk_cell S_4.out 0
        have Sc1_4 := blk_cell S_4.out 1
        have Sc2_4 := blk_cell S_4.out 2
        have Sc3_4 := blk_cell S_4.out 3
        have Sc4_4 := blk_cell S_4.out 4
        have Sc5_4 := blk_cell S_4.out 5
        have Sc6_4 := blk_cell S_4.out 6
        have Sc7_4 := blk_cell S_4.out 7
        have W_4 := Lib.hid ((b.block _ Wz_3).trans W_3.out)
        have Wz_4 := Nat.lt_of_lt_of_le Wz_3 b.size
        have Wc0_4 := blk_cell W_4.out 0
        have Wc1_4 := blk_cell W_4.out 1
        have Wc2_4 := blk_cell W_4.out 2
        have Wc3_4 := blk_cell W_4.out 3
        have Wc4_4 := blk_cell W_4.out 4
        have Wc5_4 := blk_cell W_4.out 5
        have Wc6_4 := blk_cell W_4.out 6
        have Wc7_4 := blk_cell W_4.out 7
        have B_4 := Lib.hid ((b.block _ Bz_3).trans B_3.out)
        have Bz_4 := Nat.lt_of_lt_of_le Bz_3 b.size
        have Bc0_4 := blk_cell B_4.out 0
        have Bc1_4 := blk_cell B_4.out 1
        have Bc2_4 := blk_cell B_4.out 2
        have Bc3_4 := blk_cell B_4.out 3
        have Bc4_4 := blk_cell B_4.out 4
        have Bc5_4 := blk_cell B_4.out 5
        have Bc6_4 := blk_cell B_4.out 6
        have Bc7_4 := blk_cell B_4.out 7
        have q_4 := q_3.trans (b.mono q_3.size)
        clear S_3 Sz_3 Sc0_3 Sc1_3 Sc2_3 Sc3_3 Sc4_3 Sc5_3 Sc6_3 Sc7_3 W_3 Wz_3 Wc0_3 Wc1_3 Wc2_3 Wc3_3 Wc4_3 Wc5_3 Wc6_3 Wc7_3 B_3 Bz_3 Bc0_3 Bc1_3 Bc2_3 Bc3_3 Bc4_3 Bc5_3 Bc6_3 Bc7_3 q_3
        clear b
        clear x0w x1w
        have x0w := (q_4.cell (p := ⟨bl, off + k * 2, none⟩) hbl).trans x0
        have x1w := (q_4.cell (p := ⟨bl, off + k * 2 + 1, none⟩) hbl).trans x1
        have wf0 := blk_free W_4.out 0
        have wf1 := blk_free W_4.out 1
        have wf2 := blk_free W_4.out 2
        have wf3 := blk_free W_4.out 3
        have wf4 := blk_free W_4.out 4
        have wf5 := blk_free W_4.out 5
        have wf6 := blk_free W_4.out 6
        have wf7 := blk_free W_4.out 7
        go_wp2_with fail
        clear wf0 wf1 wf2 wf3 wf4 wf5 wf6 wf7
        clear Sc0_4 Sc1_4 Sc2_4 Sc3_4 Sc4_4 Sc5_4 Sc6_4 Sc7_4 Wc0_4 Wc1_4 Wc2_4 Wc3_4 Wc4_4 Wc5_4 Wc6_4 Wc7_4 Bc0_4 Bc1_4 Bc2_4 Bc3_4 Bc4_4 Bc5_4 Bc6_4 Bc7_4
        have S_5 : Hid (((((((((V23.setCell ⟨w.heap.size + 1, 0, none⟩ (.int .i64 u.p)).setCell ⟨w.heap.size + 1, 1, none⟩ (.bool u.hl)).setCell ⟨w.heap.size + 1, 2, none⟩ (.bool u.hn)).setCell ⟨w.heap.size + 1, 3, none⟩ (.int .i64 u.la)).setCell ⟨w.heap.size + 1, 4, none⟩ (.int .i64 u.no)).setCell ⟨w.heap.size + 1, 5, none⟩ (.int .i64 u.sa)).setCell ⟨w.heap.size + 1, 6, none⟩ (.int .i64 u.ba)).setCell ⟨w.heap.size + 1, 7, none⟩ (.int .i64 u.ro)).heap[w.heap.size]? = some (.cells #[.int .i64 u.p, .bool u.hl, .bool u.hn, .int .i64 u.la, .int .i64 u.no, .int .i64 u.sa, .int .i64 u.ba, .int .i64 u.ro] 24 (0, 0))) := Lib.hid (oth_all8 S_4.out (by first | assumption | omega) (.int .i64 u.p) (.bool u.hl) (.bool u.hn) (.int .i64 u.la) (.int .i64 u.no) (.int .i64 u.sa) (.int .i64 u.ba) (.int .i64 u.ro))
        have W_5 : Hid (((((((((V23.setCell ⟨w.heap.size + 1, 0, none⟩ (.int .i64 u.p)).setCell ⟨w.heap.size + 1, 1, none⟩ (.bool u.hl)).setCell ⟨w.heap.size + 1, 2, none⟩ (.bool u.hn)).setCell ⟨w.heap.size + 1, 3, none⟩ (.int .i64 u.la)).setCell ⟨w.heap.size + 1, 4, none⟩ (.int .i64 u.no)).setCell ⟨w.heap.size + 1, 5, none⟩ (.int .i64 u.sa)).setCell ⟨w.heap.size + 1, 6, none⟩ (.int .i64 u.ba)).setCell ⟨w.heap.size + 1, 7, none⟩ (.int .i64 u.ro)).heap[w.heap.size + 1]? = some (.cells #[.int .i64 u.p, .bool u.hl, .bool u.hn, .int .i64 u.la, .int .i64 u.no, .int .i64 u.sa, .int .i64 u.ba, .int .i64 u.ro] 25 (0, 0))) := Lib.hid (blk_all8 W_4.out (.int .i64 u.p) (.bool u.hl) (.bool u.hn) (.int .i64 u.la) (.int .i64 u.no) (.int .i64 u.sa) (.int .i64 u.ba) (.int .i64 u.ro))
        have B_5 : Hid (((((((((V23.setCell ⟨w.heap.size + 1, 0, none⟩ (.int .i64 u.p)).setCell ⟨w.heap.size + 1, 1, none⟩ (.bool u.hl)).setCell ⟨w.heap.size + 1, 2, none⟩ (.bool u.hn)).setCell ⟨w.heap.size + 1, 3, none⟩ (.int .i64 u.la)).setCell ⟨w.heap.size + 1, 4, none⟩ (.int .i64 u.no)).setCell ⟨w.heap.size + 1, 5, none⟩ (.int .i64 u.sa)).setCell ⟨w.heap.size + 1, 6, none⟩ (.int .i64 u.ba)).setCell ⟨w.heap.size + 1, 7, none⟩ (.int .i64 u.ro)).heap[wr.heap.size]? = some (.cells #[.int .i64 s.p, .bool s.hl, .bool s.hn, .int .i64 s.la, .int .i64 s.no, .int .i64 s.sa, .int .i64 s.ba, .int .i64 s.ro] 24 (0, 0))) := Lib.hid (oth_all8 B_4.out (by first | assumption | omega) (.int .i64 u.p) (.bool u.hl) (.bool u.hn) (.int .i64 u.la) (.int .i64 u.no) (.int .i64 u.sa) (.int .i64 u.ba) (.int .i64 u.ro))
        have q_5 : Below w.heap.size w ((((((((V23.setCell ⟨w.heap.size + 1, 0, none⟩ (.int .i64 u.p)).setCell ⟨w.heap.size + 1, 1, none⟩ (.bool u.hl)).setCell ⟨w.heap.size + 1, 2, none⟩ (.bool u.hn)).setCell ⟨w.heap.size + 1, 3, none⟩ (.int .i64 u.la)).setCell ⟨w.heap.size + 1, 4, none⟩ (.int .i64 u.no)).setCell ⟨w.heap.size + 1, 5, none⟩ (.int .i64 u.sa)).setCell ⟨w.heap.size + 1, 6, none⟩ (.int .i64 u.ba)).setCell ⟨w.heap.size + 1, 7, none⟩ (.int .i64 u.ro)) := bel_all8 q_4 (by first | exact Nat.le_refl _ | omega) (.int .i64 u.p) (.bool u.hl) (.bool u.hn) (.int .i64 u.la) (.int .i64 u.no) (.int .i64 u.sa) (.int .i64 u.ba) (.int .i64 u.ro)
        clear q_4 S_4 Sz_4 W_4 Wz_4 B_4 Bz_4
        generalize ((((((((V23.setCell ⟨w.heap.size + 1, 0, none⟩ (.int .i64 u.p)).setCell ⟨w.heap.size + 1, 1, none⟩ (.bool u.hl)).setCell ⟨w.heap.size + 1, 2, none⟩ (.bool u.hn)).setCell ⟨w.heap.size + 1, 3, none⟩ (.int .i64 u.la)).setCell ⟨w.heap.size + 1, 4, none⟩ (.int .i64 u.no)).setCell ⟨w.heap.size + 1, 5, none⟩ (.int .i64 u.sa)).setCell ⟨w.heap.size + 1, 6, none⟩ (.int .i64 u.ba)).setCell ⟨w.heap.size + 1, 7, none⟩ (.int .i64 u.ro)) = X2 at q_5 S_5 W_5 B_5 ⊢
        have Sz_5 := blk_lt S_5.out
        have Sc0_5 := blk_cell S_5.out 0
        have Sc1_5 := blk_cell S_5.out 1
        have Sc2_5 := blk_cell S_5.out 2
        have Sc3_5 := blk_cell S_5.out 3
        have Sc4_5 := blk_cell S_5.out 4
        have Sc5_5 := blk_cell S_5.out 5
        have Sc6_5 := blk_cell S_5.out 6
        have Sc7_5 := blk_cell S_5.out 7
        have Wz_5 := blk_lt W_5.out
        have Wc0_5 := blk_cell W_5.out 0
        have Wc1_5 := blk_cell W_5.out 1
        have Wc2_5 := blk_cell W_5.out 2
        have Wc3_5 := blk_cell W_5.out 3
        have Wc4_5 := blk_cell W_5.out 4
        have Wc5_5 := blk_cell W_5.out 5
        have Wc6_5 := blk_cell W_5.out 6
        have Wc7_5 := blk_cell W_5.out 7
        have Bz_5 := blk_lt B_5.out
        have Bc0_5 := blk_cell B_5.out 0
        have Bc1_5 := blk_cell B_5.out 1
        have Bc2_5 := blk_cell B_5.out 2
        have Bc3_5 := blk_cell B_5.out 3
        have Bc4_5 := blk_cell B_5.out 4
        have Bc5_5 := blk_cell B_5.out 5
        have Bc6_5 := blk_cell B_5.out 6
        have Bc7_5 := blk_cell B_5.out 7
        clear x0w x1w
        have x0w := (q_5.cell (p := ⟨bl, off + k * 2, none⟩) hbl).trans x0
        have x1w := (q_5.cell (p := ⟨bl, off + k * 2 + 1, none⟩) hbl).trans x1
        refine (num_any _ _).mono ?_
        rintro e w' ⟨rfl, rfl⟩
        have sf0 := blk_free S_5.out 0
        have sf1 := blk_free S_5.out 1
        have sf2 := blk_free S_5.out 2
        have sf3 := blk_free S_5.out 3
        have sf4 := blk_free S_5.out 4
        have sf5 := blk_free S_5.out 5
        have sf6 := blk_free S_5.out 6
        have sf7 := blk_free S_5.out 7
        have wf0 := blk_free W_5.out 0
        have wf1 := blk_free W_5.out 1
        have wf2 := blk_free W_5.out 2
        have wf3 := blk_free W_5.out 3
        have wf4 := blk_free W_5.out 4
        have wf5 := blk_free W_5.out 5
        have wf6 := blk_free W_5.out 6
        have wf7 := blk_free W_5.out 7
        go_wp2_with fail
        clear sf0 sf1 sf2 sf3 sf4 sf5 sf6 sf7 wf0 wf1 wf2 wf3 wf4 wf5 wf6 wf7
        rcases (show s.p = 0 ∨ s.p = 1 ∨ s.p = 2 by have := hs.out.1; omega) with hp | hp | hp
        ·
          go_quiet (fail)
          go_wp2_with fail
          go_roundw
          case rel => exact ⟨k + 1, u, by omega, by go_num, HV2, blk_drewN S_5.out nq, blk_drewN W_5.out nq, below_drewN q_5 nq⟩
          case measure => simp [intOf]; omega
        ·
          have hz : (u.p == 0) = false := by rw [beq_eq_false_iff_ne]; exact hway.out.2 hp
          go_quiet (fail)
          go_wp2_with fail
          go_roundw
          case rel => exact ⟨k + 1, u, by omega, by go_num, HV2, blk_drewN S_5.out nq, blk_drewN W_5.out nq, below_drewN q_5 nq⟩
          case measure => simp [intOf]; omega
        ·
          have hz : u.p = 2 := hway.out.1 hp
          go_quiet (fail)
          go_wp2_with fail
          go_roundw
          case rel => exact ⟨k + 1, u, by omega, by go_num, HV2, blk_drewN S_5.out nq, blk_drewN W_5.out nq, below_drewN q_5 nq⟩
          case measure => simp [intOf]; omega
      case neg =>
        have w0 : (wh == 0) = false := by rw [beq_eq_false_iff_ne]; exact hw
        by_cases hw1 : wh = 1
        case neg =>
          have w1 : (wh == 1) = false := by rw [beq_eq_false_iff_ne]; exact hw1
          have w2 : (wh != 1) = true := by rw [bne_iff_ne]; exact hw1
          obtain ⟨u, hu⟩ : ∃ u, lsO s = u := ⟨_, rfl⟩
          have hu2 : ls s = u := by rw [← hu, show lsO s = ls s from if_pos hs.out]
          have HE : Hid (cE s = 0) := Lib.hid (if_pos hs.out)
          have HV2 : Hid (HV u) := Lib.hid (by rw [← hu2]; exact ls_may hs.out)
          have hway : Hid ((s.p = 2 → u.p = 2) ∧ (s.p = 1 → u.p ≠ 0)) := Lib.hid (by rw [← hu2]; exact ⟨fun _ => rfl, fun _ => (show (2 : Int) ≠ 0 by decide)⟩)
          have HU := Lib.hid hu
          clear hu hu2
          have x0w := (q_0.cell (p := ⟨bl, off + k * 2, none⟩) hbl).trans x0
          have x1w := (q_0.cell (p := ⟨bl, off + k * 2 + 1, none⟩) hbl).trans x1
          have ub : bl < wr.heap.size := Nat.lt_of_lt_of_le hbl q_0.size
          have ub2 : wr.heap.size ≠ bl := Nat.ne_of_gt ub
          have ub3 := ub2.symm
          go_wp2_with fail
          clear ub ub2 ub3
          have b : Below wr.heap.size wr (wr.alloc (.cells #[.int .i64 s.p, .bool s.hl, .bool s.hn, .int .i64 s.la, .int .i64 s.no, .int .i64 s.sa, .int .i64 s.ba, .int .i64 s.ro] 24)) := ((Below.refl _ wr).alloc (Nat.le_refl _) (.cells #[.int .i64 s.p, .bool s.hl, .bool s.hn, .int .i64 s.la, .int .i64 s.no, .int .i64 s.sa, .int .i64 s.ba, .int .i64 s.ro] 24))
          have nb0 := blk_new wr (.cells #[.int .i64 s.p, .bool s.hl, .bool s.hn, .int .i64 s.la, .int .i64 s.no, .int .i64 s.sa, .int .i64 s.ba, .int .i64 s.ro] 24)
          have nz0 : wr.heap.size < (wr.alloc (.cells #[.int .i64 s.p, .bool s.hl, .bool s.hn, .int .i64 s.la, .int .i64 s.no, .int .i64 s.sa, .int .i64 s.ba, .int .i64 s.ro] 24)).heap.size := by simp only [World.size_alloc]; omega
          have S_1 := Lib.hid ((b.block _ Sz_0).trans S_0.out)
          have Sz_1 := Nat.lt_of_lt_of_le Sz_0 b.size
          have Sc0_1 := blk_cell S_1.out 0
          have Sc1_1 := blk_cell S_1.out 1
          have Sc2_1 := blk_cell S_1.out 2
          have Sc3_1 := blk_cell S_1.out 3
          have Sc4_1 := blk_cell S_1.out 4
          have Sc5_1 := blk_cell S_1.out 5
          have Sc6_1 := blk_cell S_1.out 6
          have Sc7_1 := blk_cell S_1.out 7
          have W_1 := Lib.hid ((b.block _ Wz_0).trans W_0.out)
          have Wz_1 := Nat.lt_of_lt_of_le Wz_0 b.size
          have q_1 := q_0.trans (b.mono q_0.size)
          clear S_0 Sz_0 Sc0_0 Sc1_0 Sc2_0 Sc3_0 Sc4_0 Sc5_0 Sc6_0 Sc7_0 W_0 Wz_0 q_0
          clear b
          have B_1 := Lib.hid nb0
          have Bz_1 := nz0
          clear nb0 nz0
          have Bc0_1 := blk_cell B_1.out 0
          have Bc1_1 := blk_cell B_1.out 1
          have Bc2_1 := blk_cell B_1.out 2
          have Bc3_1 := blk_cell B_1.out 3
          have Bc4_1 := blk_cell B_1.out 4
          have Bc5_1 := blk_cell B_1.out 5
          have Bc6_1 := blk_cell B_1.out 6
          have Bc7_1 := blk_cell B_1.out 7
          generalize (wr.alloc (.cells #[.int .i64 s.p, .bool s.hl, .bool s.hn, .int .i64 s.la, .int .i64 s.no, .int .i64 s.sa, .int .i64 s.ba, .int .i64 s.ro] 24)) = V21 at q_1 S_1 Sz_1 Sc0_1 Sc1_1 Sc2_1 Sc3_1 Sc4_1 Sc5_1 Sc6_1 Sc7_1 W_1 Wz_1 B_1 Bz_1 Bc0_1 Bc1_1 Bc2_1 Bc3_1 Bc4_1 Bc5_1 Bc6_1 Bc7_1 ⊢
          clear x0w x1w
          have x0w := (q_1.cell (p := ⟨bl, off + k * 2, none⟩) hbl).trans x0
          have x1w := (q_1.cell (p := ⟨bl, off + k * 2 + 1, none⟩) hbl).trans x1
          refine (loss_l s u 0 HE.out HU.out _).mono ?_
          rintro e V22 ⟨rfl, b⟩
          have S_2 := Lib.hid ((b.block _ Sz_1).trans S_1.out)
          have Sz_2 := Nat.lt_of_lt_of_le Sz_1 b.size
          have Sc0_2 := blk_cell S_2.out 0
          have Sc1_2 := blk_cell S_2.out 1
          have Sc2_2 := blk_cell S_2.out 2
          have Sc3_2 := blk_cell S_2.out 3
          have Sc4_2 := blk_cell S_2.out 4
          have Sc5_2 := blk_cell S_2.out 5
          have Sc6_2 := blk_cell S_2.out 6
          have Sc7_2 := blk_cell S_2.out 7
          have W_2 := Lib.hid ((b.block _ Wz_1).trans W_1.out)
          have Wz_2 := Nat.lt_of_lt_of_le Wz_1 b.size
          have B_2 := Lib.hid ((b.block _ Bz_1).trans B_1.out)
          have Bz_2 := Nat.lt_of_lt_of_le Bz_1 b.size
          have Bc0_2 := blk_cell B_2.out 0
          have Bc1_2 := blk_cell B_2.out 1
          have Bc2_2 := blk_cell B_2.out 2
          have Bc3_2 := blk_cell B_2.out 3
          have Bc4_2 := blk_cell B_2.out 4
          have Bc5_2 := blk_cell B_2.out 5
          have Bc6_2 := blk_cell B_2.out 6
          have Bc7_2 := blk_cell B_2.out 7
          have q_2 := q_1.trans (b.mono q_1.size)
          clear S_1 Sz_1 Sc0_1 Sc1_1 Sc2_1 Sc3_1 Sc4_1 Sc5_1 Sc6_1 Sc7_1 W_1 Wz_1 B_1 Bz_1 Bc0_1 Bc1_1 Bc2_1 Bc3_1 Bc4_1 Bc5_1 Bc6_1 Bc7_1 q_1
          clear b
          clear x0w x1w
          have x0w := (q_2.cell (p := ⟨bl, off + k * 2, none⟩) hbl).trans x0
          have x1w := (q_2.cell (p := ⟨bl, off + k * 2 + 1, none⟩) hbl).trans x1
          have sf0 := blk_free S_2.out 0
          have sf1 := blk_free S_2.out 1
          have sf2 := blk_free S_2.out 2
          have sf3 := blk_free S_2.out 3
          have sf4 := blk_free S_2.out 4
          have sf5 := blk_free S_2.out 5
          have sf6 := blk_free S_2.out 6
          have sf7 := blk_free S_2.out 7
          have Wc0_2 := blk_cell W_2.out 0
          have Wc1_2 := blk_cell W_2.out 1
          have Wc2_2 := blk_cell W_2.out 2
          have Wc3_2 := blk_cell W_2.out 3
          have Wc4_2 := blk_cell W_2.out 4
          have Wc5_2 := blk_cell W_2.out 5
          have Wc6_2 := blk_cell W_2.out 6
          have Wc7_2 := blk_cell W_2.out 7
          go_wp2_with fail
          clear sf0 sf1 sf2 sf3 sf4 sf5 sf6 sf7
          clear Sc0_2 Sc1_2 Sc2_2 Sc3_2 Sc4_2 Sc5_2 Sc6_2 Sc7_2 Wc0_2 Wc1_2 Wc2_2 Wc3_2 Wc4_2 Wc5_2 Wc6_2 Wc7_2 Bc0_2 Bc1_2 Bc2_2 Bc3_2 Bc4_2 Bc5_2 Bc6_2 Bc7_2
          have S_3 : Hid (((((((((V22.setCell ⟨w.heap.size, 0, none⟩ (.int .i64 u.p)).setCell ⟨w.heap.size, 1, none⟩ (.bool u.hl)).setCell ⟨w.heap.size, 2, none⟩ (.bool u.hn)).setCell ⟨w.heap.size, 3, none⟩ (.int .i64 u.la)).setCell ⟨w.heap.size, 4, none⟩ (.int .i64 u.no)).setCell ⟨w.heap.size, 5, none⟩ (.int .i64 u.sa)).setCell ⟨w.heap.size, 6, none⟩ (.int .i64 u.ba)).setCell ⟨w.heap.size, 7, none⟩ (.int .i64 u.ro)).heap[w.heap.size]? = some (.cells #[.int .i64 u.p, .bool u.hl, .bool u.hn, .int .i64 u.la, .int .i64 u.no, .int .i64 u.sa, .int .i64 u.ba, .int .i64 u.ro] 24 (0, 0))) := Lib.hid (blk_all8 S_2.out (.int .i64 u.p) (.bool u.hl) (.bool u.hn) (.int .i64 u.la) (.int .i64 u.no) (.int .i64 u.sa) (.int .i64 u.ba) (.int .i64 u.ro))
          have W_3 : Hid (((((((((V22.setCell ⟨w.heap.size, 0, none⟩ (.int .i64 u.p)).setCell ⟨w.heap.size, 1, none⟩ (.bool u.hl)).setCell ⟨w.heap.size, 2, none⟩ (.bool u.hn)).setCell ⟨w.heap.size, 3, none⟩ (.int .i64 u.la)).setCell ⟨w.heap.size, 4, none⟩ (.int .i64 u.no)).setCell ⟨w.heap.size, 5, none⟩ (.int .i64 u.sa)).setCell ⟨w.heap.size, 6, none⟩ (.int .i64 u.ba)).setCell ⟨w.heap.size, 7, none⟩ (.int .i64 u.ro)).heap[w.heap.size + 1]? = some (.cells #[.int .i64 s.p, .bool s.hl, .bool s.hn, .int .i64 s.la, .int .i64 s.no, .int .i64 s.sa, .int .i64 s.ba, .int .i64 s.ro] 25 (0, 0))) := Lib.hid (oth_all8 W_2.out (by first | assumption | omega) (.int .i64 u.p) (.bool u.hl) (.bool u.hn) (.int .i64 u.la) (.int .i64 u.no) (.int .i64 u.sa) (.int .i64 u.ba) (.int .i64 u.ro))
          have B_3 : Hid (((((((((V22.setCell ⟨w.heap.size, 0, none⟩ (.int .i64 u.p)).setCell ⟨w.heap.size, 1, none⟩ (.bool u.hl)).setCell ⟨w.heap.size, 2, none⟩ (.bool u.hn)).setCell ⟨w.heap.size, 3, none⟩ (.int .i64 u.la)).setCell ⟨w.heap.size, 4, none⟩ (.int .i64 u.no)).setCell ⟨w.heap.size, 5, none⟩ (.int .i64 u.sa)).setCell ⟨w.heap.size, 6, none⟩ (.int .i64 u.ba)).setCell ⟨w.heap.size, 7, none⟩ (.int .i64 u.ro)).heap[wr.heap.size]? = some (.cells #[.int .i64 s.p, .bool s.hl, .bool s.hn, .int .i64 s.la, .int .i64 s.no, .int .i64 s.sa, .int .i64 s.ba, .int .i64 s.ro] 24 (0, 0))) := Lib.hid (oth_all8 B_2.out (by first | assumption | omega) (.int .i64 u.p) (.bool u.hl) (.bool u.hn) (.int .i64 u.la) (.int .i64 u.no) (.int .i64 u.sa) (.int .i64 u.ba) (.int .i64 u.ro))
          have q_3 : Below w.heap.size w ((((((((V22.setCell ⟨w.heap.size, 0, none⟩ (.int .i64 u.p)).setCell ⟨w.heap.size, 1, none⟩ (.bool u.hl)).setCell ⟨w.heap.size, 2, none⟩ (.bool u.hn)).setCell ⟨w.heap.size, 3, none⟩ (.int .i64 u.la)).setCell ⟨w.heap.size, 4, none⟩ (.int .i64 u.no)).setCell ⟨w.heap.size, 5, none⟩ (.int .i64 u.sa)).setCell ⟨w.heap.size, 6, none⟩ (.int .i64 u.ba)).setCell ⟨w.heap.size, 7, none⟩ (.int .i64 u.ro)) := bel_all8 q_2 (Nat.le_refl _) (.int .i64 u.p) (.bool u.hl) (.bool u.hn) (.int .i64 u.la) (.int .i64 u.no) (.int .i64 u.sa) (.int .i64 u.ba) (.int .i64 u.ro)
          clear q_2 S_2 Sz_2 W_2 Wz_2 B_2 Bz_2
          generalize ((((((((V22.setCell ⟨w.heap.size, 0, none⟩ (.int .i64 u.p)).setCell ⟨w.heap.size, 1, none⟩ (.bool u.hl)).setCell ⟨w.heap.size, 2, none⟩ (.bool u.hn)).setCell ⟨w.heap.size, 3, none⟩ (.int .i64 u.la)).setCell ⟨w.heap.size, 4, none⟩ (.int .i64 u.no)).setCell ⟨w.heap.size, 5, none⟩ (.int .i64 u.sa)).setCell ⟨w.heap.size, 6, none⟩ (.int .i64 u.ba)).setCell ⟨w.heap.size, 7, none⟩ (.int .i64 u.ro)) = X1 at q_3 S_3 W_3 B_3 ⊢
          have Sz_3 := blk_lt S_3.out
          have Sc0_3 := blk_cell S_3.out 0
          have Sc1_3 := blk_cell S_3.out 1
          have Sc2_3 := blk_cell S_3.out 2
          have Sc3_3 := blk_cell S_3.out 3
          have Sc4_3 := blk_cell S_3.out 4
          have Sc5_3 := blk_cell S_3.out 5
          have Sc6_3 := blk_cell S_3.out 6
          have Sc7_3 := blk_cell S_3.out 7
          have Wz_3 := blk_lt W_3.out
          have Wc0_3 := blk_cell W_3.out 0
          have Wc1_3 := blk_cell W_3.out 1
          have Wc2_3 := blk_cell W_3.out 2
          have Wc3_3 := blk_cell W_3.out 3
          have Wc4_3 := blk_cell W_3.out 4
          have Wc5_3 := blk_cell W_3.out 5
          have Wc6_3 := blk_cell W_3.out 6
          have Wc7_3 := blk_cell W_3.out 7
          have Bz_3 := blk_lt B_3.out
          have Bc0_3 := blk_cell B_3.out 0
          have Bc1_3 := blk_cell B_3.out 1
          have Bc2_3 := blk_cell B_3.out 2
          have Bc3_3 := blk_cell B_3.out 3
          have Bc4_3 := blk_cell B_3.out 4
          have Bc5_3 := blk_cell B_3.out 5
          have Bc6_3 := blk_cell B_3.out 6
          have Bc7_3 := blk_cell B_3.out 7
          clear x0w x1w
          have x0w := (q_3.cell (p := ⟨bl, off + k * 2, none⟩) hbl).trans x0
          have x1w := (q_3.cell (p := ⟨bl, off + k * 2 + 1, none⟩) hbl).trans x1
          refine (rloss_l s u 0 HE.out HU.out _).mono ?_
          rintro e V23 ⟨rfl, b⟩
          have S_4 := Lib.hid ((b.block _ Sz_3).trans S_3.out)
          have Sz_4 := Nat.lt_of_lt_of_le Sz_3 b.size
          have Sc0_4 := blk_cell S_4.out 0
          have Sc1_4 := blk_cell S_4.out 1
          have Sc2_4 := blk_cell S_4.out 2
          have Sc3_4 := blk_cell S_4.out 3
          have Sc4_4 := blk_cell S_4.out 4
          have Sc5_4 := blk_cell S_4.out 5
          have Sc6_4 := blk_cell S_4.out 6
          have Sc7_4 := blk_cell S_4.out 7
          have W_4 := Lib.hid ((b.block _ Wz_3).trans W_3.out)
          have Wz_4 := Nat.lt_of_lt_of_le Wz_3 b.size
          have Wc0_4 := blk_cell W_4.out 0
          have Wc1_4 := blk_cell W_4.out 1
          have Wc2_4 := blk_cell W_4.out 2
          have Wc3_4 := blk_cell W_4.out 3
          have Wc4_4 := blk_cell W_4.out 4
          have Wc5_4 := blk_cell W_4.out 5
          have Wc6_4 := blk_cell W_4.out 6
          have Wc7_4 := blk_cell W_4.out 7
          have B_4 := Lib.hid ((b.block _ Bz_3).trans B_3.out)
          have Bz_4 := Nat.lt_of_lt_of_le Bz_3 b.size
          have Bc0_4 := blk_cell B_4.out 0
          have Bc1_4 := blk_cell B_4.out 1
          have Bc2_4 := blk_cell B_4.out 2
          have Bc3_4 := blk_cell B_4.out 3
          have Bc4_4 := blk_cell B_4.out 4
          have Bc5_4 := blk_cell B_4.out 5
          have Bc6_4 := blk_cell B_4.out 6
          have Bc7_4 := blk_cell B_4.out 7
          have q_4 := q_3.trans (b.mono q_3.size)
          clear S_3 Sz_3 Sc0_3 Sc1_3 Sc2_3 Sc3_3 Sc4_3 Sc5_3 Sc6_3 Sc7_3 W_3 Wz_3 Wc0_3 Wc1_3 Wc2_3 Wc3_3 Wc4_3 Wc5_3 Wc6_3 Wc7_3 B_3 Bz_3 Bc0_3 Bc1_3 Bc2_3 Bc3_3 Bc4_3 Bc5_3 Bc6_3 Bc7_3 q_3
          clear b
          clear x0w x1w
          have x0w := (q_4.cell (p := ⟨bl, off + k * 2, none⟩) hbl).trans x0
          have x1w := (q_4.cell (p := ⟨bl, off + k * 2 + 1, none⟩) hbl).trans x1
          have wf0 := blk_free W_4.out 0
          have wf1 := blk_free W_4.out 1
          have wf2 := blk_free W_4.out 2
          have wf3 := blk_free W_4.out 3
          have wf4 := blk_free W_4.out 4
          have wf5 := blk_free W_4.out 5
          have wf6 := blk_free W_4.out 6
          have wf7 := blk_free W_4.out 7
          go_wp2_with fail
          clear wf0 wf1 wf2 wf3 wf4 wf5 wf6 wf7
          clear Sc0_4 Sc1_4 Sc2_4 Sc3_4 Sc4_4 Sc5_4 Sc6_4 Sc7_4 Wc0_4 Wc1_4 Wc2_4 Wc3_4 Wc4_4 Wc5_4 Wc6_4 Wc7_4 Bc0_4 Bc1_4 Bc2_4 Bc3_4 Bc4_4 Bc5_4 Bc6_4 Bc7_4
          have S_5 : Hid (((((((((V23.setCell ⟨w.heap.size + 1, 0, none⟩ (.int .i64 u.p)).setCell ⟨w.heap.size + 1, 1, none⟩ (.bool u.hl)).setCell ⟨w.heap.size + 1, 2, none⟩ (.bool u.hn)).setCell ⟨w.heap.size + 1, 3, none⟩ (.int .i64 u.la)).setCell ⟨w.heap.size + 1, 4, none⟩ (.int .i64 u.no)).setCell ⟨w.heap.size + 1, 5, none⟩ (.int .i64 u.sa)).setCell ⟨w.heap.size + 1, 6, none⟩ (.int .i64 u.ba)).setCell ⟨w.heap.size + 1, 7, none⟩ (.int .i64 u.ro)).heap[w.heap.size]? = some (.cells #[.int .i64 u.p, .bool u.hl, .bool u.hn, .int .i64 u.la, .int .i64 u.no, .int .i64 u.sa, .int .i64 u.ba, .int .i64 u.ro] 24 (0, 0))) := Lib.hid (oth_all8 S_4.out (by first | assumption | omega) (.int .i64 u.p) (.bool u.hl) (.bool u.hn) (.int .i64 u.la) (.int .i64 u.no) (.int .i64 u.sa) (.int .i64 u.ba) (.int .i64 u.ro))
          have W_5 : Hid (((((((((V23.setCell ⟨w.heap.size + 1, 0, none⟩ (.int .i64 u.p)).setCell ⟨w.heap.size + 1, 1, none⟩ (.bool u.hl)).setCell ⟨w.heap.size + 1, 2, none⟩ (.bool u.hn)).setCell ⟨w.heap.size + 1, 3, none⟩ (.int .i64 u.la)).setCell ⟨w.heap.size + 1, 4, none⟩ (.int .i64 u.no)).setCell ⟨w.heap.size + 1, 5, none⟩ (.int .i64 u.sa)).setCell ⟨w.heap.size + 1, 6, none⟩ (.int .i64 u.ba)).setCell ⟨w.heap.size + 1, 7, none⟩ (.int .i64 u.ro)).heap[w.heap.size + 1]? = some (.cells #[.int .i64 u.p, .bool u.hl, .bool u.hn, .int .i64 u.la, .int .i64 u.no, .int .i64 u.sa, .int .i64 u.ba, .int .i64 u.ro] 25 (0, 0))) := Lib.hid (blk_all8 W_4.out (.int .i64 u.p) (.bool u.hl) (.bool u.hn) (.int .i64 u.la) (.int .i64 u.no) (.int .i64 u.sa) (.int .i64 u.ba) (.int .i64 u.ro))
          have B_5 : Hid (((((((((V23.setCell ⟨w.heap.size + 1, 0, none⟩ (.int .i64 u.p)).setCell ⟨w.heap.size + 1, 1, none⟩ (.bool u.hl)).setCell ⟨w.heap.size + 1, 2, none⟩ (.bool u.hn)).setCell ⟨w.heap.size + 1, 3, none⟩ (.int .i64 u.la)).setCell ⟨w.heap.size + 1, 4, none⟩ (.int .i64 u.no)).setCell ⟨w.heap.size + 1, 5, none⟩ (.int .i64 u.sa)).setCell ⟨w.heap.size + 1, 6, none⟩ (.int .i64 u.ba)).setCell ⟨w.heap.size + 1, 7, none⟩ (.int .i64 u.ro)).heap[wr.heap.size]? = some (.cells #[.int .i64 s.p, .bool s.hl, .bool s.hn, .int .i64 s.la, .int .i64 s.no, .int .i64 s.sa, .int .i64 s.ba, .int .i64 s.ro] 24 (0, 0))) := Lib.hid (oth_all8 B_4.out (by first | assumption | omega) (.int .i64 u.p) (.bool u.hl) (.bool u.hn) (.int .i64 u.la) (.int .i64 u.no) (.int .i64 u.sa) (.int .i64 u.ba) (.int .i64 u.ro))
          have q_5 : Below w.heap.size w ((((((((V23.setCell ⟨w.heap.size + 1, 0, none⟩ (.int .i64 u.p)).setCell ⟨w.heap.size + 1, 1, none⟩ (.bool u.hl)).setCell ⟨w.heap.size + 1, 2, none⟩ (.bool u.hn)).setCell ⟨w.heap.size + 1, 3, none⟩ (.int .i64 u.la)).setCell ⟨w.heap.size + 1, 4, none⟩ (.int .i64 u.no)).setCell ⟨w.heap.size + 1, 5, none⟩ (.int .i64 u.sa)).setCell ⟨w.heap.size + 1, 6, none⟩ (.int .i64 u.ba)).setCell ⟨w.heap.size + 1, 7, none⟩ (.int .i64 u.ro)) := bel_all8 q_4 (by first | exact Nat.le_refl _ | omega) (.int .i64 u.p) (.bool u.hl) (.bool u.hn) (.int .i64 u.la) (.int .i64 u.no) (.int .i64 u.sa) (.int .i64 u.ba) (.int .i64 u.ro)
          clear q_4 S_4 Sz_4 W_4 Wz_4 B_4 Bz_4
          generalize ((((((((V23.setCell ⟨w.heap.size + 1, 0, none⟩ (.int .i64 u.p)).setCell ⟨w.heap.size + 1, 1, none⟩ (.bool u.hl)).setCell ⟨w.heap.size + 1, 2, none⟩ (.bool u.hn)).setCell ⟨w.heap.size + 1, 3, none⟩ (.int .i64 u.la)).setCell ⟨w.heap.size + 1, 4, none⟩ (.int .i64 u.no)).setCell ⟨w.heap.size + 1, 5, none⟩ (.int .i64 u.sa)).setCell ⟨w.heap.size + 1, 6, none⟩ (.int .i64 u.ba)).setCell ⟨w.heap.size + 1, 7, none⟩ (.int .i64 u.ro)) = X2 at q_5 S_5 W_5 B_5 ⊢
          have Sz_5 := blk_lt S_5.out
          have Sc0_5 := blk_cell S_5.out 0
          have Sc1_5 := blk_cell S_5.out 1
          have Sc2_5 := blk_cell S_5.out 2
          have Sc3_5 := blk_cell S_5.out 3
          have Sc4_5 := blk_cell S_5.out 4
          have Sc5_5 := blk_cell S_5.out 5
          have Sc6_5 := blk_cell S_5.out 6
          have Sc7_5 := blk_cell S_5.out 7
          have Wz_5 := blk_lt W_5.out
          have Wc0_5 := blk_cell W_5.out 0
          have Wc1_5 := blk_cell W_5.out 1
          have Wc2_5 := blk_cell W_5.out 2
          have Wc3_5 := blk_cell W_5.out 3
          have Wc4_5 := blk_cell W_5.out 4
          have Wc5_5 := blk_cell W_5.out 5
          have Wc6_5 := blk_cell W_5.out 6
          have Wc7_5 := blk_cell W_5.out 7
          have Bz_5 := blk_lt B_5.out
          have Bc0_5 := blk_cell B_5.out 0
          have Bc1_5 := blk_cell B_5.out 1
          have Bc2_5 := blk_cell B_5.out 2
          have Bc3_5 := blk_cell B_5.out 3
          have Bc4_5 := blk_cell B_5.out 4
          have Bc5_5 := blk_cell B_5.out 5
          have Bc6_5 := blk_cell B_5.out 6
          have Bc7_5 := blk_cell B_5.out 7
          clear x0w x1w
          have x0w := (q_5.cell (p := ⟨bl, off + k * 2, none⟩) hbl).trans x0
          have x1w := (q_5.cell (p := ⟨bl, off + k * 2 + 1, none⟩) hbl).trans x1
          refine (num_any _ _).mono ?_
          rintro e w' ⟨rfl, rfl⟩
          have sf0 := blk_free S_5.out 0
          have sf1 := blk_free S_5.out 1
          have sf2 := blk_free S_5.out 2
          have sf3 := blk_free S_5.out 3
          have sf4 := blk_free S_5.out 4
          have sf5 := blk_free S_5.out 5
          have sf6 := blk_free S_5.out 6
          have sf7 := blk_free S_5.out 7
          have wf0 := blk_free W_5.out 0
          have wf1 := blk_free W_5.out 1
          have wf2 := blk_free W_5.out 2
          have wf3 := blk_free W_5.out 3
          have wf4 := blk_free W_5.out 4
          have wf5 := blk_free W_5.out 5
          have wf6 := blk_free W_5.out 6
          have wf7 := blk_free W_5.out 7
          go_wp2_with fail
          clear sf0 sf1 sf2 sf3 sf4 sf5 sf6 sf7 wf0 wf1 wf2 wf3 wf4 wf5 wf6 wf7
          rcases (show s.p = 0 ∨ s.p = 1 ∨ s.p = 2 by have := hs.out.1; omega) with hp | hp | hp
          ·
            go_quiet (fail)
            go_wp2_with fail
            go_roundw
            case rel => exact ⟨k + 1, u, by omega, by go_num, HV2, blk_drewN S_5.out nq, blk_drewN W_5.out nq, below_drewN q_5 nq⟩
            case measure => simp [intOf]; omega
          ·
            have hz : (u.p == 0) = false := by rw [beq_eq_false_iff_ne]; exact hway.out.2 hp
            go_quiet (fail)
            go_wp2_with fail
            go_roundw
            case rel => exact ⟨k + 1, u, by omega, by go_num, HV2, blk_drewN S_5.out nq, blk_drewN W_5.out nq, below_drewN q_5 nq⟩
            case measure => simp [intOf]; omega
          ·
            have hz : u.p = 2 := hway.out.1 hp
            go_quiet (fail)
            go_wp2_with fail
            go_roundw
            case rel => exact ⟨k + 1, u, by omega, by go_num, HV2, blk_drewN S_5.out nq, blk_drewN W_5.out nq, below_drewN q_5 nq⟩
            case measure => simp [intOf]; omega
        case pos =>
          subst hw1
          by_cases hN : NV n
          case pos =>
            obtain ⟨u, hu⟩ : ∃ u, smO s n = u := ⟨_, rfl⟩
            have hu2 : sm s n = u := by rw [← hu, show smO s n = sm s n by rw [smO, if_pos hs.out, if_pos hN]]
            have HE : Hid (smE s n = 0) := Lib.hid (by rw [smE, if_pos hs.out, if_pos hN])
            have HV2 : Hid (HV u) := Lib.hid (by rw [← hu2]; exact sm_may hs.out hN)
            have hway : Hid ((s.p = 2 → u.p = 2) ∧ (s.p = 1 → u.p = 0 → n < s.ba ∨ s.no < s.ba)) := Lib.hid (by rw [← hu2]; exact sm_way hs.out)
            have HU := Lib.hid hu
            clear hu hu2 hN
            have x0w := (q_0.cell (p := ⟨bl, off + k * 2, none⟩) hbl).trans x0
            have x1w := (q_0.cell (p := ⟨bl, off + k * 2 + 1, none⟩) hbl).trans x1
            have ub : bl < wr.heap.size := Nat.lt_of_lt_of_le hbl q_0.size
            have ub2 : wr.heap.size ≠ bl := Nat.ne_of_gt ub
            have ub3 := ub2.symm
            go_wp2_with fail
            clear ub ub2 ub3
            have b : Below wr.heap.size wr (wr.alloc (.cells #[.int .i64 s.p, .bool s.hl, .bool s.hn, .int .i64 s.la, .int .i64 s.no, .int .i64 s.sa, .int .i64 s.ba, .int .i64 s.ro] 24)) := ((Below.refl _ wr).alloc (Nat.le_refl _) (.cells #[.int .i64 s.p, .bool s.hl, .bool s.hn, .int .i64 s.la, .int .i64 s.no, .int .i64 s.sa, .int .i64 s.ba, .int .i64 s.ro] 24))
            have nb0 := blk_new wr (.cells #[.int .i64 s.p, .bool s.hl, .bool s.hn, .int .i64 s.la, .int .i64 s.no, .int .i64 s.sa, .int .i64 s.ba, .int .i64 s.ro] 24)
            have nz0 : wr.heap.size < (wr.alloc (.cells #[.int .i64 s.p, .bool s.hl, .bool s.hn, .int .i64 s.la, .int .i64 s.no, .int .i64 s.sa, .int .i64 s.ba, .int .i64 s.ro] 24)).heap.size := by simp only [World.size_alloc]; omega
            have S_1 := Lib.hid ((b.block _ Sz_0).trans S_0.out)
            have Sz_1 := Nat.lt_of_lt_of_le Sz_0 b.size
            have Sc0_1 := blk_cell S_1.out 0
            have Sc1_1 := blk_cell S_1.out 1
            have Sc2_1 := blk_cell S_1.out 2
            have Sc3_1 := blk_cell S_1.out 3
            have Sc4_1 := blk_cell S_1.out 4
            have Sc5_1 := blk_cell S_1.out 5
            have Sc6_1 := blk_cell S_1.out 6
            have Sc7_1 := blk_cell S_1.out 7
            have W_1 := Lib.hid ((b.block _ Wz_0).trans W_0.out)
            have Wz_1 := Nat.lt_of_lt_of_le Wz_0 b.size
            have q_1 := q_0.trans (b.mono q_0.size)
            clear S_0 Sz_0 Sc0_0 Sc1_0 Sc2_0 Sc3_0 Sc4_0 Sc5_0 Sc6_0 Sc7_0 W_0 Wz_0 q_0
            clear b
            have B_1 := Lib.hid nb0
            have Bz_1 := nz0
            clear nb0 nz0
            have Bc0_1 := blk_cell B_1.out 0
            have Bc1_1 := blk_cell B_1.out 1
            have Bc2_1 := blk_cell B_1.out 2
            have Bc3_1 := blk_cell B_1.out 3
            have Bc4_1 := blk_cell B_1.out 4
            have Bc5_1 := blk_cell B_1.out 5
            have Bc6_1 := blk_cell B_1.out 6
            have Bc7_1 := blk_cell B_1.out 7
            generalize (wr.alloc (.cells #[.int .i64 s.p, .bool s.hl, .bool s.hn, .int .i64 s.la, .int .i64 s.no, .int .i64 s.sa, .int .i64 s.ba, .int .i64 s.ro] 24)) = V21 at q_1 S_1 Sz_1 Sc0_1 Sc1_1 Sc2_1 Sc3_1 Sc4_1 Sc5_1 Sc6_1 Sc7_1 W_1 Wz_1 B_1 Bz_1 Bc0_1 Bc1_1 Bc2_1 Bc3_1 Bc4_1 Bc5_1 Bc6_1 Bc7_1 ⊢
            clear x0w x1w
            have x0w := (q_1.cell (p := ⟨bl, off + k * 2, none⟩) hbl).trans x0
            have x1w := (q_1.cell (p := ⟨bl, off + k * 2 + 1, none⟩) hbl).trans x1
            go_cut [7] (fun (ev : Value) (wx : World) => ev = .int .i64 0 ∧ wx.heap[w.heap.size]? = some (.cells #[.int .i64 u.p, .bool u.hl, .bool u.hn, .int .i64 u.la, .int .i64 u.no, .int .i64 u.sa, .int .i64 u.ba, .int .i64 u.ro] 24 (0, 0)) ∧ wx.heap[w.heap.size + 1]? = some (.cells #[.int .i64 s.p, .bool s.hl, .bool s.hn, .int .i64 s.la, .int .i64 s.no, .int .i64 s.sa, .int .i64 s.ba, .int .i64 s.ro] 25 (0, 0)) ∧ wx.heap[wr.heap.size]? = some (.cells #[.int .i64 s.p, .bool s.hl, .bool s.hn, .int .i64 s.la, .int .i64 s.no, .int .i64 s.sa, .int .i64 s.ba, .int .i64 s.ro] 24 (0, 0)) ∧ Below w.heap.size w wx)
            case first =>
              have S_2 := Lib.hid ((((Below.refl V21.heap.size V21).drew).block _ Sz_1).trans S_1.out)
              have Sz_2 := Nat.lt_of_lt_of_le Sz_1 ((Below.refl V21.heap.size V21).drew).size
              have Sc0_2 := blk_cell S_2.out 0
              have Sc1_2 := blk_cell S_2.out 1
              have Sc2_2 := blk_cell S_2.out 2
              have Sc3_2 := blk_cell S_2.out 3
              have Sc4_2 := blk_cell S_2.out 4
              have Sc5_2 := blk_cell S_2.out 5
              have Sc6_2 := blk_cell S_2.out 6
              have Sc7_2 := blk_cell S_2.out 7
              have W_2 := Lib.hid ((((Below.refl V21.heap.size V21).drew).block _ Wz_1).trans W_1.out)
              have Wz_2 := Nat.lt_of_lt_of_le Wz_1 ((Below.refl V21.heap.size V21).drew).size
              have B_2 := Lib.hid ((((Below.refl V21.heap.size V21).drew).block _ Bz_1).trans B_1.out)
              have Bz_2 := Nat.lt_of_lt_of_le Bz_1 ((Below.refl V21.heap.size V21).drew).size
              have Bc0_2 := blk_cell B_2.out 0
              have Bc1_2 := blk_cell B_2.out 1
              have Bc2_2 := blk_cell B_2.out 2
              have Bc3_2 := blk_cell B_2.out 3
              have Bc4_2 := blk_cell B_2.out 4
              have Bc5_2 := blk_cell B_2.out 5
              have Bc6_2 := blk_cell B_2.out 6
              have Bc7_2 := blk_cell B_2.out 7
              have q_2 := q_1.trans (((Below.refl V21.heap.size V21).drew).mono q_1.size)
              clear S_1 Sz_1 Sc0_1 Sc1_1 Sc2_1 Sc3_1 Sc4_1 Sc5_1 Sc6_1 Sc7_1 W_1 Wz_1 B_1 Bz_1 Bc0_1 Bc1_1 Bc2_1 Bc3_1 Bc4_1 Bc5_1 Bc6_1 Bc7_1 q_1
              go_region_with (first
                | (go_at_call 9; (with_reducible refine (sample_l s u n 0 HE.out HU.out _).mono ?_); rintro e V22 ⟨rfl, b⟩; have S_3 := Lib.hid ((b.block _ Sz_2).trans S_2.out); have Sz_3 := Nat.lt_of_lt_of_le Sz_2 b.size; have Sc0_3 := blk_cell S_3.out 0; have Sc1_3 := blk_cell S_3.out 1; have Sc2_3 := blk_cell S_3.out 2; have Sc3_3 := blk_cell S_3.out 3; have Sc4_3 := blk_cell S_3.out 4; have Sc5_3 := blk_cell S_3.out 5; have Sc6_3 := blk_cell S_3.out 6; have Sc7_3 := blk_cell S_3.out 7; have W_3 := Lib.hid ((b.block _ Wz_2).trans W_2.out); have Wz_3 := Nat.lt_of_lt_of_le Wz_2 b.size; have B_3 := Lib.hid ((b.block _ Bz_2).trans B_2.out); have Bz_3 := Nat.lt_of_lt_of_le Bz_2 b.size; have Bc0_3 := blk_cell B_3.out 0; have Bc1_3 := blk_cell B_3.out 1; have Bc2_3 := blk_cell B_3.out 2; have Bc3_3 := blk_cell B_3.out 3; have Bc4_3 := blk_cell B_3.out 4; have Bc5_3 := blk_cell B_3.out 5; have Bc6_3 := blk_cell B_3.out 6; have Bc7_3 := blk_cell B_3.out 7; have q_3 := q_2.trans (b.mono q_2.size); clear S_2 Sz_2 Sc0_2 Sc1_2 Sc2_2 Sc3_2 Sc4_2 Sc5_2 Sc6_2 Sc7_2 W_2 Wz_2 B_2 Bz_2 Bc0_2 Bc1_2 Bc2_2 Bc3_2 Bc4_2 Bc5_2 Bc6_2 Bc7_2 q_2; clear b; have sf0 := blk_free S_3.out 0; have sf1 := blk_free S_3.out 1; have sf2 := blk_free S_3.out 2; have sf3 := blk_free S_3.out 3; have sf4 := blk_free S_3.out 4; have sf5 := blk_free S_3.out 5; have sf6 := blk_free S_3.out 6; have sf7 := blk_free S_3.out 7))
              all_goals
                go_wp2_with fail
                go_meet
                exact ⟨rfl, blk_all8 S_3.out (.int .i64 u.p) (.bool u.hl) (.bool u.hn) (.int .i64 u.la) (.int .i64 u.no) (.int .i64 u.sa) (.int .i64 u.ba) (.int .i64 u.ro), oth_all8 W_3.out nsw (.int .i64 u.p) (.bool u.hl) (.bool u.hn) (.int .i64 u.la) (.int .i64 u.no) (.int .i64 u.sa) (.int .i64 u.ba) (.int .i64 u.ro), oth_all8 B_3.out nsb (.int .i64 u.p) (.bool u.hl) (.bool u.hn) (.int .i64 u.la) (.int .i64 u.no) (.int .i64 u.sa) (.int .i64 u.ba) (.int .i64 u.ro), bel_all8 q_3 (Nat.le_refl _) (.int .i64 u.p) (.bool u.hl) (.bool u.hn) (.int .i64 u.la) (.int .i64 u.no) (.int .i64 u.sa) (.int .i64 u.ba) (.int .i64 u.ro)⟩
            case rest =>
              obtain ⟨rfl, kS, kW, kB, hq⟩ := hcut
              clear x0w x1w S_1 Sz_1 Sc0_1 Sc1_1 Sc2_1 Sc3_1 Sc4_1 Sc5_1 Sc6_1 Sc7_1 W_1 Wz_1  B_1 Bz_1 Bc0_1 Bc1_1 Bc2_1 Bc3_1 Bc4_1 Bc5_1 Bc6_1 Bc7_1 q_1
              have q_0 := hq
              have Sz_0 := blk_lt kS
              have Wz_0 := blk_lt kW
              have Bz_0 := blk_lt kB
              have S_0 := Lib.hid (kS)
              have Sc0_0 := blk_cell S_0.out 0
              have Sc1_0 := blk_cell S_0.out 1
              have Sc2_0 := blk_cell S_0.out 2
              have Sc3_0 := blk_cell S_0.out 3
              have Sc4_0 := blk_cell S_0.out 4
              have Sc5_0 := blk_cell S_0.out 5
              have Sc6_0 := blk_cell S_0.out 6
              have Sc7_0 := blk_cell S_0.out 7
              have W_0 := Lib.hid (kW)
              have Wc0_0 := blk_cell W_0.out 0
              have Wc1_0 := blk_cell W_0.out 1
              have Wc2_0 := blk_cell W_0.out 2
              have Wc3_0 := blk_cell W_0.out 3
              have Wc4_0 := blk_cell W_0.out 4
              have Wc5_0 := blk_cell W_0.out 5
              have Wc6_0 := blk_cell W_0.out 6
              have Wc7_0 := blk_cell W_0.out 7
              have B_0 := Lib.hid (kB)
              have Bc0_0 := blk_cell B_0.out 0
              have Bc1_0 := blk_cell B_0.out 1
              have Bc2_0 := blk_cell B_0.out 2
              have Bc3_0 := blk_cell B_0.out 3
              have Bc4_0 := blk_cell B_0.out 4
              have Bc5_0 := blk_cell B_0.out 5
              have Bc6_0 := blk_cell B_0.out 6
              have Bc7_0 := blk_cell B_0.out 7
              clear kS kW kB hq
              have x0w := (q_0.cell (p := ⟨bl, off + k * 2, none⟩) hbl).trans x0
              have x1w := (q_0.cell (p := ⟨bl, off + k * 2 + 1, none⟩) hbl).trans x1
              go_wp2_with fail
              have S_1 := Lib.hid ((((Below.refl wc.heap.size wc).drew).block _ Sz_0).trans S_0.out)
              have Sz_1 := Nat.lt_of_lt_of_le Sz_0 ((Below.refl wc.heap.size wc).drew).size
              have Sc0_1 := blk_cell S_1.out 0
              have Sc1_1 := blk_cell S_1.out 1
              have Sc2_1 := blk_cell S_1.out 2
              have Sc3_1 := blk_cell S_1.out 3
              have Sc4_1 := blk_cell S_1.out 4
              have Sc5_1 := blk_cell S_1.out 5
              have Sc6_1 := blk_cell S_1.out 6
              have Sc7_1 := blk_cell S_1.out 7
              have W_1 := Lib.hid ((((Below.refl wc.heap.size wc).drew).block _ Wz_0).trans W_0.out)
              have Wz_1 := Nat.lt_of_lt_of_le Wz_0 ((Below.refl wc.heap.size wc).drew).size
              have Wc0_1 := blk_cell W_1.out 0
              have Wc1_1 := blk_cell W_1.out 1
              have Wc2_1 := blk_cell W_1.out 2
              have Wc3_1 := blk_cell W_1.out 3
              have Wc4_1 := blk_cell W_1.out 4
              have Wc5_1 := blk_cell W_1.out 5
              have Wc6_1 := blk_cell W_1.out 6
              have Wc7_1 := blk_cell W_1.out 7
              have B_1 := Lib.hid ((((Below.refl wc.heap.size wc).drew).block _ Bz_0).trans B_0.out)
              have Bz_1 := Nat.lt_of_lt_of_le Bz_0 ((Below.refl wc.heap.size wc).drew).size
              have Bc0_1 := blk_cell B_1.out 0
              have Bc1_1 := blk_cell B_1.out 1
              have Bc2_1 := blk_cell B_1.out 2
              have Bc3_1 := blk_cell B_1.out 3
              have Bc4_1 := blk_cell B_1.out 4
              have Bc5_1 := blk_cell B_1.out 5
              have Bc6_1 := blk_cell B_1.out 6
              have Bc7_1 := blk_cell B_1.out 7
              have q_1 := q_0.trans (((Below.refl wc.heap.size wc).drew).mono q_0.size)
              clear S_0 Sz_0 Sc0_0 Sc1_0 Sc2_0 Sc3_0 Sc4_0 Sc5_0 Sc6_0 Sc7_0 W_0 Wz_0 Wc0_0 Wc1_0 Wc2_0 Wc3_0 Wc4_0 Wc5_0 Wc6_0 Wc7_0 B_0 Bz_0 Bc0_0 Bc1_0 Bc2_0 Bc3_0 Bc4_0 Bc5_0 Bc6_0 Bc7_0 q_0
              go_region_with (first
                | (go_at_call 10; (with_reducible refine (rsample_l s u n 0 HE.out HU.out _).mono ?_); rintro e V61 ⟨rfl, b⟩; have S_2 := Lib.hid ((b.block _ Sz_1).trans S_1.out); have Sz_2 := Nat.lt_of_lt_of_le Sz_1 b.size; have Sc0_2 := blk_cell S_2.out 0; have Sc1_2 := blk_cell S_2.out 1; have Sc2_2 := blk_cell S_2.out 2; have Sc3_2 := blk_cell S_2.out 3; have Sc4_2 := blk_cell S_2.out 4; have Sc5_2 := blk_cell S_2.out 5; have Sc6_2 := blk_cell S_2.out 6; have Sc7_2 := blk_cell S_2.out 7; have W_2 := Lib.hid ((b.block _ Wz_1).trans W_1.out); have Wz_2 := Nat.lt_of_lt_of_le Wz_1 b.size; have Wc0_2 := blk_cell W_2.out 0; have Wc1_2 := blk_cell W_2.out 1; have Wc2_2 := blk_cell W_2.out 2; have Wc3_2 := blk_cell W_2.out 3; have Wc4_2 := blk_cell W_2.out 4; have Wc5_2 := blk_cell W_2.out 5; have Wc6_2 := blk_cell W_2.out 6; have Wc7_2 := blk_cell W_2.out 7; have B_2 := Lib.hid ((b.block _ Bz_1).trans B_1.out); have Bz_2 := Nat.lt_of_lt_of_le Bz_1 b.size; have Bc0_2 := blk_cell B_2.out 0; have Bc1_2 := blk_cell B_2.out 1; have Bc2_2 := blk_cell B_2.out 2; have Bc3_2 := blk_cell B_2.out 3; have Bc4_2 := blk_cell B_2.out 4; have Bc5_2 := blk_cell B_2.out 5; have Bc6_2 := blk_cell B_2.out 6; have Bc7_2 := blk_cell B_2.out 7; have q_2 := q_1.trans (b.mono q_1.size); clear S_1 Sz_1 Sc0_1 Sc1_1 Sc2_1 Sc3_1 Sc4_1 Sc5_1 Sc6_1 Sc7_1 W_1 Wz_1 Wc0_1 Wc1_1 Wc2_1 Wc3_1 Wc4_1 Wc5_1 Wc6_1 Wc7_1 B_1 Bz_1 Bc0_1 Bc1_1 Bc2_1 Bc3_1 Bc4_1 Bc5_1 Bc6_1 Bc7_1 q_1; clear b; have wf0 := blk_free W_2.out 0; have wf1 := blk_free W_2.out 1; have wf2 := blk_free W_2.out 2; have wf3 := blk_free W_2.out 3; have wf4 := blk_free W_2.out 4; have wf5 := blk_free W_2.out 5; have wf6 := blk_free W_2.out 6; have wf7 := blk_free W_2.out 7))
              all_goals
                go_wp2_with fail
                clear x0w x1w
                clear wf0 wf1 wf2 wf3 wf4 wf5 wf6 wf7
                have S_3 : Hid (((((((((V61.setCell ⟨w.heap.size + 1, 0, none⟩ (.int .i64 u.p)).setCell ⟨w.heap.size + 1, 1, none⟩ (.bool u.hl)).setCell ⟨w.heap.size + 1, 2, none⟩ (.bool u.hn)).setCell ⟨w.heap.size + 1, 3, none⟩ (.int .i64 u.la)).setCell ⟨w.heap.size + 1, 4, none⟩ (.int .i64 u.no)).setCell ⟨w.heap.size + 1, 5, none⟩ (.int .i64 u.sa)).setCell ⟨w.heap.size + 1, 6, none⟩ (.int .i64 u.ba)).setCell ⟨w.heap.size + 1, 7, none⟩ (.int .i64 u.ro)).heap[w.heap.size]? = some (.cells #[.int .i64 u.p, .bool u.hl, .bool u.hn, .int .i64 u.la, .int .i64 u.no, .int .i64 u.sa, .int .i64 u.ba, .int .i64 u.ro] 24 (0, 0))) := Lib.hid (oth_all8 S_2.out (by first | assumption | omega) (.int .i64 u.p) (.bool u.hl) (.bool u.hn) (.int .i64 u.la) (.int .i64 u.no) (.int .i64 u.sa) (.int .i64 u.ba) (.int .i64 u.ro))
                have W_3 : Hid (((((((((V61.setCell ⟨w.heap.size + 1, 0, none⟩ (.int .i64 u.p)).setCell ⟨w.heap.size + 1, 1, none⟩ (.bool u.hl)).setCell ⟨w.heap.size + 1, 2, none⟩ (.bool u.hn)).setCell ⟨w.heap.size + 1, 3, none⟩ (.int .i64 u.la)).setCell ⟨w.heap.size + 1, 4, none⟩ (.int .i64 u.no)).setCell ⟨w.heap.size + 1, 5, none⟩ (.int .i64 u.sa)).setCell ⟨w.heap.size + 1, 6, none⟩ (.int .i64 u.ba)).setCell ⟨w.heap.size + 1, 7, none⟩ (.int .i64 u.ro)).heap[w.heap.size + 1]? = some (.cells #[.int .i64 u.p, .bool u.hl, .bool u.hn, .int .i64 u.la, .int .i64 u.no, .int .i64 u.sa, .int .i64 u.ba, .int .i64 u.ro] 25 (0, 0))) := Lib.hid (blk_all8 W_2.out (.int .i64 u.p) (.bool u.hl) (.bool u.hn) (.int .i64 u.la) (.int .i64 u.no) (.int .i64 u.sa) (.int .i64 u.ba) (.int .i64 u.ro))
                have B_3 : Hid (((((((((V61.setCell ⟨w.heap.size + 1, 0, none⟩ (.int .i64 u.p)).setCell ⟨w.heap.size + 1, 1, none⟩ (.bool u.hl)).setCell ⟨w.heap.size + 1, 2, none⟩ (.bool u.hn)).setCell ⟨w.heap.size + 1, 3, none⟩ (.int .i64 u.la)).setCell ⟨w.heap.size + 1, 4, none⟩ (.int .i64 u.no)).setCell ⟨w.heap.size + 1, 5, none⟩ (.int .i64 u.sa)).setCell ⟨w.heap.size + 1, 6, none⟩ (.int .i64 u.ba)).setCell ⟨w.heap.size + 1, 7, none⟩ (.int .i64 u.ro)).heap[wr.heap.size]? = some (.cells #[.int .i64 s.p, .bool s.hl, .bool s.hn, .int .i64 s.la, .int .i64 s.no, .int .i64 s.sa, .int .i64 s.ba, .int .i64 s.ro] 24 (0, 0))) := Lib.hid (oth_all8 B_2.out (by first | assumption | omega) (.int .i64 u.p) (.bool u.hl) (.bool u.hn) (.int .i64 u.la) (.int .i64 u.no) (.int .i64 u.sa) (.int .i64 u.ba) (.int .i64 u.ro))
                have q_3 : Below w.heap.size w ((((((((V61.setCell ⟨w.heap.size + 1, 0, none⟩ (.int .i64 u.p)).setCell ⟨w.heap.size + 1, 1, none⟩ (.bool u.hl)).setCell ⟨w.heap.size + 1, 2, none⟩ (.bool u.hn)).setCell ⟨w.heap.size + 1, 3, none⟩ (.int .i64 u.la)).setCell ⟨w.heap.size + 1, 4, none⟩ (.int .i64 u.no)).setCell ⟨w.heap.size + 1, 5, none⟩ (.int .i64 u.sa)).setCell ⟨w.heap.size + 1, 6, none⟩ (.int .i64 u.ba)).setCell ⟨w.heap.size + 1, 7, none⟩ (.int .i64 u.ro)) := bel_all8 q_2 (by first | exact Nat.le_refl _ | omega) (.int .i64 u.p) (.bool u.hl) (.bool u.hn) (.int .i64 u.la) (.int .i64 u.no) (.int .i64 u.sa) (.int .i64 u.ba) (.int .i64 u.ro)
                clear q_2 S_2 Sz_2 W_2 Wz_2 B_2 Bz_2
                generalize ((((((((V61.setCell ⟨w.heap.size + 1, 0, none⟩ (.int .i64 u.p)).setCell ⟨w.heap.size + 1, 1, none⟩ (.bool u.hl)).setCell ⟨w.heap.size + 1, 2, none⟩ (.bool u.hn)).setCell ⟨w.heap.size + 1, 3, none⟩ (.int .i64 u.la)).setCell ⟨w.heap.size + 1, 4, none⟩ (.int .i64 u.no)).setCell ⟨w.heap.size + 1, 5, none⟩ (.int .i64 u.sa)).setCell ⟨w.heap.size + 1, 6, none⟩ (.int .i64 u.ba)).setCell ⟨w.heap.size + 1, 7, none⟩ (.int .i64 u.ro)) = X2 at q_3 S_3 W_3 B_3 ⊢
                have Sz_3 := blk_lt S_3.out
                have Wz_3 := blk_lt W_3.out
                have Bz_3 := blk_lt B_3.out
                have Sc0_3 := blk_cell S_3.out 0
                have Sc1_3 := blk_cell S_3.out 1
                have Sc2_3 := blk_cell S_3.out 2
                have Sc3_3 := blk_cell S_3.out 3
                have Sc4_3 := blk_cell S_3.out 4
                have Sc5_3 := blk_cell S_3.out 5
                have Sc6_3 := blk_cell S_3.out 6
                have Sc7_3 := blk_cell S_3.out 7
                have Wc0_3 := blk_cell W_3.out 0
                have Wc1_3 := blk_cell W_3.out 1
                have Wc2_3 := blk_cell W_3.out 2
                have Wc3_3 := blk_cell W_3.out 3
                have Wc4_3 := blk_cell W_3.out 4
                have Wc5_3 := blk_cell W_3.out 5
                have Wc6_3 := blk_cell W_3.out 6
                have Wc7_3 := blk_cell W_3.out 7
                have Bc0_3 := blk_cell B_3.out 0
                have Bc1_3 := blk_cell B_3.out 1
                have Bc2_3 := blk_cell B_3.out 2
                have Bc3_3 := blk_cell B_3.out 3
                have Bc4_3 := blk_cell B_3.out 4
                have Bc5_3 := blk_cell B_3.out 5
                have Bc6_3 := blk_cell B_3.out 6
                have Bc7_3 := blk_cell B_3.out 7
                have x0w := (q_3.cell (p := ⟨bl, off + k * 2, none⟩) hbl).trans x0
                have x1w := (q_3.cell (p := ⟨bl, off + k * 2 + 1, none⟩) hbl).trans x1
                refine (num_any _ _).mono ?_
                rintro e w' ⟨rfl, rfl⟩
                have sf0 := blk_free S_3.out 0
                have sf1 := blk_free S_3.out 1
                have sf2 := blk_free S_3.out 2
                have sf3 := blk_free S_3.out 3
                have sf4 := blk_free S_3.out 4
                have sf5 := blk_free S_3.out 5
                have sf6 := blk_free S_3.out 6
                have sf7 := blk_free S_3.out 7
                have wf0 := blk_free W_3.out 0
                have wf1 := blk_free W_3.out 1
                have wf2 := blk_free W_3.out 2
                have wf3 := blk_free W_3.out 3
                have wf4 := blk_free W_3.out 4
                have wf5 := blk_free W_3.out 5
                have wf6 := blk_free W_3.out 6
                have wf7 := blk_free W_3.out 7
                go_wp2_with fail
                clear sf0 sf1 sf2 sf3 sf4 sf5 sf6 sf7 wf0 wf1 wf2 wf3 wf4 wf5 wf6 wf7
                rcases (show s.p = 0 ∨ s.p = 2 ∨ (s.p = 1 ∧ u.p ≠ 0) ∨ (s.p = 1 ∧ u.p = 0) by have := hs.out.1; omega) with hp | hp | ⟨hp, hz⟩ | ⟨hp, hz⟩
                ·
                  go_quiet (fail)
                  go_wp2_with fail
                  go_roundw
                  case rel => exact ⟨k + 1, u, by omega, by go_num, HV2, blk_drewN S_3.out nq, blk_drewN W_3.out nq, below_drewN q_3 nq⟩
                  case measure => simp [intOf]; omega
                ·
                  have hz : u.p = 2 := hway.out.1 hp
                  go_quiet (fail)
                  go_wp2_with fail
                  go_roundw
                  case rel => exact ⟨k + 1, u, by omega, by go_num, HV2, blk_drewN S_3.out nq, blk_drewN W_3.out nq, below_drewN q_3 nq⟩
                  case measure => simp [intOf]; omega
                ·
                  have hz2 : (u.p == 0) = false := by rw [beq_eq_false_iff_ne]; exact hz
                  clear hz
                  go_quiet (fail)
                  go_wp2_with fail
                  go_roundw
                  case rel => exact ⟨k + 1, u, by omega, by go_num, HV2, blk_drewN S_3.out nq, blk_drewN W_3.out nq, below_drewN q_3 nq⟩
                  case measure => simp [intOf]; omega
                ·
                  have hd : n < s.ba ∨ (s.ba ≤ n ∧ s.no < s.ba) := by have := hway.out.2 hp hz; omega
                  rcases hd with hd | ⟨hd, hd2⟩
                  ·
                    have hA : decide (s.ba ≤ n) = false := by rw [decide_eq_false_iff_not]; omega
                    go_quiet (fail)
                    go_wp2_with fail
                    go_roundw
                    case rel => exact ⟨k + 1, u, by omega, by go_num, HV2, blk_drewN S_3.out nq, blk_drewN W_3.out nq, below_drewN q_3 nq⟩
                    case measure => simp [intOf]; omega
                  ·
                    have hA : decide (s.ba ≤ n) = true := by rw [decide_eq_true_eq]; exact hd
                    have hB : decide (s.ba ≤ s.no) = false := by rw [decide_eq_false_iff_not]; omega
                    go_quiet (fail)
                    go_wp2_with fail
                    go_roundw
                    case rel => exact ⟨k + 1, u, by omega, by go_num, HV2, blk_drewN S_3.out nq, blk_drewN W_3.out nq, below_drewN q_3 nq⟩
                    case measure => simp [intOf]; omega
          case neg =>
            have HN := Lib.hid hN
            clear hN
            have x0w := (q_0.cell (p := ⟨bl, off + k * 2, none⟩) hbl).trans x0
            have x1w := (q_0.cell (p := ⟨bl, off + k * 2 + 1, none⟩) hbl).trans x1
            have ub : bl < wr.heap.size := Nat.lt_of_lt_of_le hbl q_0.size
            have ub2 : wr.heap.size ≠ bl := Nat.ne_of_gt ub
            have ub3 := ub2.symm
            go_wp2_with fail
            clear ub ub2 ub3
            have b : Below wr.heap.size wr (wr.alloc (.cells #[.int .i64 s.p, .bool s.hl, .bool s.hn, .int .i64 s.la, .int .i64 s.no, .int .i64 s.sa, .int .i64 s.ba, .int .i64 s.ro] 24)) := ((Below.refl _ wr).alloc (Nat.le_refl _) (.cells #[.int .i64 s.p, .bool s.hl, .bool s.hn, .int .i64 s.la, .int .i64 s.no, .int .i64 s.sa, .int .i64 s.ba, .int .i64 s.ro] 24))
            have nb0 := blk_new wr (.cells #[.int .i64 s.p, .bool s.hl, .bool s.hn, .int .i64 s.la, .int .i64 s.no, .int .i64 s.sa, .int .i64 s.ba, .int .i64 s.ro] 24)
            have nz0 : wr.heap.size < (wr.alloc (.cells #[.int .i64 s.p, .bool s.hl, .bool s.hn, .int .i64 s.la, .int .i64 s.no, .int .i64 s.sa, .int .i64 s.ba, .int .i64 s.ro] 24)).heap.size := by simp only [World.size_alloc]; omega
            have S_1 := Lib.hid ((b.block _ Sz_0).trans S_0.out)
            have Sz_1 := Nat.lt_of_lt_of_le Sz_0 b.size
            have Sc0_1 := blk_cell S_1.out 0
            have Sc1_1 := blk_cell S_1.out 1
            have Sc2_1 := blk_cell S_1.out 2
            have Sc3_1 := blk_cell S_1.out 3
            have Sc4_1 := blk_cell S_1.out 4
            have Sc5_1 := blk_cell S_1.out 5
            have Sc6_1 := blk_cell S_1.out 6
            have Sc7_1 := blk_cell S_1.out 7
            have W_1 := Lib.hid ((b.block _ Wz_0).trans W_0.out)
            have Wz_1 := Nat.lt_of_lt_of_le Wz_0 b.size
            have q_1 := q_0.trans (b.mono q_0.size)
            clear S_0 Sz_0 Sc0_0 Sc1_0 Sc2_0 Sc3_0 Sc4_0 Sc5_0 Sc6_0 Sc7_0 W_0 Wz_0 q_0
            clear b
            have B_1 := Lib.hid nb0
            have Bz_1 := nz0
            clear nb0 nz0
            have Bc0_1 := blk_cell B_1.out 0
            have Bc1_1 := blk_cell B_1.out 1
            have Bc2_1 := blk_cell B_1.out 2
            have Bc3_1 := blk_cell B_1.out 3
            have Bc4_1 := blk_cell B_1.out 4
            have Bc5_1 := blk_cell B_1.out 5
            have Bc6_1 := blk_cell B_1.out 6
            have Bc7_1 := blk_cell B_1.out 7
            generalize (wr.alloc (.cells #[.int .i64 s.p, .bool s.hl, .bool s.hn, .int .i64 s.la, .int .i64 s.no, .int .i64 s.sa, .int .i64 s.ba, .int .i64 s.ro] 24)) = V21 at q_1 S_1 Sz_1 Sc0_1 Sc1_1 Sc2_1 Sc3_1 Sc4_1 Sc5_1 Sc6_1 Sc7_1 W_1 Wz_1 B_1 Bz_1 Bc0_1 Bc1_1 Bc2_1 Bc3_1 Bc4_1 Bc5_1 Bc6_1 Bc7_1 ⊢
            clear x0w x1w
            have x0w := (q_1.cell (p := ⟨bl, off + k * 2, none⟩) hbl).trans x0
            have x1w := (q_1.cell (p := ⟨bl, off + k * 2 + 1, none⟩) hbl).trans x1
            go_cut [7] (fun (ev : Value) (wx : World) => ev = .int .i64 4 ∧ wx.heap[w.heap.size]? = some (.cells #[.int .i64 0, .bool false, .bool false, .int .i64 0, .int .i64 0, .int .i64 0, .int .i64 0, .int .i64 0] 24 (0, 0)) ∧ wx.heap[w.heap.size + 1]? = some (.cells #[.int .i64 s.p, .bool s.hl, .bool s.hn, .int .i64 s.la, .int .i64 s.no, .int .i64 s.sa, .int .i64 s.ba, .int .i64 s.ro] 25 (0, 0)) ∧ wx.heap[wr.heap.size]? = some (.cells #[.int .i64 s.p, .bool s.hl, .bool s.hn, .int .i64 s.la, .int .i64 s.no, .int .i64 s.sa, .int .i64 s.ba, .int .i64 s.ro] 24 (0, 0)) ∧ Below w.heap.size w wx)
            case first =>
              have S_2 := Lib.hid ((((Below.refl V21.heap.size V21).drew).block _ Sz_1).trans S_1.out)
              have Sz_2 := Nat.lt_of_lt_of_le Sz_1 ((Below.refl V21.heap.size V21).drew).size
              have Sc0_2 := blk_cell S_2.out 0
              have Sc1_2 := blk_cell S_2.out 1
              have Sc2_2 := blk_cell S_2.out 2
              have Sc3_2 := blk_cell S_2.out 3
              have Sc4_2 := blk_cell S_2.out 4
              have Sc5_2 := blk_cell S_2.out 5
              have Sc6_2 := blk_cell S_2.out 6
              have Sc7_2 := blk_cell S_2.out 7
              have W_2 := Lib.hid ((((Below.refl V21.heap.size V21).drew).block _ Wz_1).trans W_1.out)
              have Wz_2 := Nat.lt_of_lt_of_le Wz_1 ((Below.refl V21.heap.size V21).drew).size
              have B_2 := Lib.hid ((((Below.refl V21.heap.size V21).drew).block _ Bz_1).trans B_1.out)
              have Bz_2 := Nat.lt_of_lt_of_le Bz_1 ((Below.refl V21.heap.size V21).drew).size
              have Bc0_2 := blk_cell B_2.out 0
              have Bc1_2 := blk_cell B_2.out 1
              have Bc2_2 := blk_cell B_2.out 2
              have Bc3_2 := blk_cell B_2.out 3
              have Bc4_2 := blk_cell B_2.out 4
              have Bc5_2 := blk_cell B_2.out 5
              have Bc6_2 := blk_cell B_2.out 6
              have Bc7_2 := blk_cell B_2.out 7
              have q_2 := q_1.trans (((Below.refl V21.heap.size V21).drew).mono q_1.size)
              clear S_1 Sz_1 Sc0_1 Sc1_1 Sc2_1 Sc3_1 Sc4_1 Sc5_1 Sc6_1 Sc7_1 W_1 Wz_1 B_1 Bz_1 Bc0_1 Bc1_1 Bc2_1 Bc3_1 Bc4_1 Bc5_1 Bc6_1 Bc7_1 q_1
              go_region_with (first
                | (go_at_call 9; (with_reducible refine (sample_r s n _ hs.out HN.out).mono ?_); rintro e V22 ⟨rfl, b⟩; have S_3 := Lib.hid ((b.block _ Sz_2).trans S_2.out); have Sz_3 := Nat.lt_of_lt_of_le Sz_2 b.size; have Sc0_3 := blk_cell S_3.out 0; have Sc1_3 := blk_cell S_3.out 1; have Sc2_3 := blk_cell S_3.out 2; have Sc3_3 := blk_cell S_3.out 3; have Sc4_3 := blk_cell S_3.out 4; have Sc5_3 := blk_cell S_3.out 5; have Sc6_3 := blk_cell S_3.out 6; have Sc7_3 := blk_cell S_3.out 7; have W_3 := Lib.hid ((b.block _ Wz_2).trans W_2.out); have Wz_3 := Nat.lt_of_lt_of_le Wz_2 b.size; have B_3 := Lib.hid ((b.block _ Bz_2).trans B_2.out); have Bz_3 := Nat.lt_of_lt_of_le Bz_2 b.size; have Bc0_3 := blk_cell B_3.out 0; have Bc1_3 := blk_cell B_3.out 1; have Bc2_3 := blk_cell B_3.out 2; have Bc3_3 := blk_cell B_3.out 3; have Bc4_3 := blk_cell B_3.out 4; have Bc5_3 := blk_cell B_3.out 5; have Bc6_3 := blk_cell B_3.out 6; have Bc7_3 := blk_cell B_3.out 7; have q_3 := q_2.trans (b.mono q_2.size); clear S_2 Sz_2 Sc0_2 Sc1_2 Sc2_2 Sc3_2 Sc4_2 Sc5_2 Sc6_2 Sc7_2 W_2 Wz_2 B_2 Bz_2 Bc0_2 Bc1_2 Bc2_2 Bc3_2 Bc4_2 Bc5_2 Bc6_2 Bc7_2 q_2; clear b; have sf0 := blk_free S_3.out 0; have sf1 := blk_free S_3.out 1; have sf2 := blk_free S_3.out 2; have sf3 := blk_free S_3.out 3; have sf4 := blk_free S_3.out 4; have sf5 := blk_free S_3.out 5; have sf6 := blk_free S_3.out 6; have sf7 := blk_free S_3.out 7))
              all_goals
                go_wp2_with fail
                go_meet
                exact ⟨rfl, blk_all8 S_3.out (.int .i64 0) (.bool false) (.bool false) (.int .i64 0) (.int .i64 0) (.int .i64 0) (.int .i64 0) (.int .i64 0), oth_all8 W_3.out nsw (.int .i64 0) (.bool false) (.bool false) (.int .i64 0) (.int .i64 0) (.int .i64 0) (.int .i64 0) (.int .i64 0), oth_all8 B_3.out nsb (.int .i64 0) (.bool false) (.bool false) (.int .i64 0) (.int .i64 0) (.int .i64 0) (.int .i64 0) (.int .i64 0), bel_all8 q_3 (Nat.le_refl _) (.int .i64 0) (.bool false) (.bool false) (.int .i64 0) (.int .i64 0) (.int .i64 0) (.int .i64 0) (.int .i64 0)⟩
            case rest =>
              obtain ⟨rfl, kS, kW, kB, hq⟩ := hcut
              clear x0w x1w S_1 Sz_1 Sc0_1 Sc1_1 Sc2_1 Sc3_1 Sc4_1 Sc5_1 Sc6_1 Sc7_1 W_1 Wz_1  B_1 Bz_1 Bc0_1 Bc1_1 Bc2_1 Bc3_1 Bc4_1 Bc5_1 Bc6_1 Bc7_1 q_1
              have q_0 := hq
              have Sz_0 := blk_lt kS
              have Wz_0 := blk_lt kW
              have Bz_0 := blk_lt kB
              have S_0 := Lib.hid (kS)
              have Sc0_0 := blk_cell S_0.out 0
              have Sc1_0 := blk_cell S_0.out 1
              have Sc2_0 := blk_cell S_0.out 2
              have Sc3_0 := blk_cell S_0.out 3
              have Sc4_0 := blk_cell S_0.out 4
              have Sc5_0 := blk_cell S_0.out 5
              have Sc6_0 := blk_cell S_0.out 6
              have Sc7_0 := blk_cell S_0.out 7
              have W_0 := Lib.hid (kW)
              have Wc0_0 := blk_cell W_0.out 0
              have Wc1_0 := blk_cell W_0.out 1
              have Wc2_0 := blk_cell W_0.out 2
              have Wc3_0 := blk_cell W_0.out 3
              have Wc4_0 := blk_cell W_0.out 4
              have Wc5_0 := blk_cell W_0.out 5
              have Wc6_0 := blk_cell W_0.out 6
              have Wc7_0 := blk_cell W_0.out 7
              have B_0 := Lib.hid (kB)
              have Bc0_0 := blk_cell B_0.out 0
              have Bc1_0 := blk_cell B_0.out 1
              have Bc2_0 := blk_cell B_0.out 2
              have Bc3_0 := blk_cell B_0.out 3
              have Bc4_0 := blk_cell B_0.out 4
              have Bc5_0 := blk_cell B_0.out 5
              have Bc6_0 := blk_cell B_0.out 6
              have Bc7_0 := blk_cell B_0.out 7
              clear kS kW kB hq
              have x0w := (q_0.cell (p := ⟨bl, off + k * 2, none⟩) hbl).trans x0
              have x1w := (q_0.cell (p := ⟨bl, off + k * 2 + 1, none⟩) hbl).trans x1
              go_wp2_with fail
              have S_1 := Lib.hid ((((Below.refl wc.heap.size wc).drew).block _ Sz_0).trans S_0.out)
              have Sz_1 := Nat.lt_of_lt_of_le Sz_0 ((Below.refl wc.heap.size wc).drew).size
              have Sc0_1 := blk_cell S_1.out 0
              have Sc1_1 := blk_cell S_1.out 1
              have Sc2_1 := blk_cell S_1.out 2
              have Sc3_1 := blk_cell S_1.out 3
              have Sc4_1 := blk_cell S_1.out 4
              have Sc5_1 := blk_cell S_1.out 5
              have Sc6_1 := blk_cell S_1.out 6
              have Sc7_1 := blk_cell S_1.out 7
              have W_1 := Lib.hid ((((Below.refl wc.heap.size wc).drew).block _ Wz_0).trans W_0.out)
              have Wz_1 := Nat.lt_of_lt_of_le Wz_0 ((Below.refl wc.heap.size wc).drew).size
              have Wc0_1 := blk_cell W_1.out 0
              have Wc1_1 := blk_cell W_1.out 1
              have Wc2_1 := blk_cell W_1.out 2
              have Wc3_1 := blk_cell W_1.out 3
              have Wc4_1 := blk_cell W_1.out 4
              have Wc5_1 := blk_cell W_1.out 5
              have Wc6_1 := blk_cell W_1.out 6
              have Wc7_1 := blk_cell W_1.out 7
              have B_1 := Lib.hid ((((Below.refl wc.heap.size wc).drew).block _ Bz_0).trans B_0.out)
              have Bz_1 := Nat.lt_of_lt_of_le Bz_0 ((Below.refl wc.heap.size wc).drew).size
              have Bc0_1 := blk_cell B_1.out 0
              have Bc1_1 := blk_cell B_1.out 1
              have Bc2_1 := blk_cell B_1.out 2
              have Bc3_1 := blk_cell B_1.out 3
              have Bc4_1 := blk_cell B_1.out 4
              have Bc5_1 := blk_cell B_1.out 5
              have Bc6_1 := blk_cell B_1.out 6
              have Bc7_1 := blk_cell B_1.out 7
              have q_1 := q_0.trans (((Below.refl wc.heap.size wc).drew).mono q_0.size)
              clear S_0 Sz_0 Sc0_0 Sc1_0 Sc2_0 Sc3_0 Sc4_0 Sc5_0 Sc6_0 Sc7_0 W_0 Wz_0 Wc0_0 Wc1_0 Wc2_0 Wc3_0 Wc4_0 Wc5_0 Wc6_0 Wc7_0 B_0 Bz_0 Bc0_0 Bc1_0 Bc2_0 Bc3_0 Bc4_0 Bc5_0 Bc6_0 Bc7_0 q_0
              go_region_with (first
                | (go_at_call 10; (with_reducible refine (rsample_r s n _ hs.out HN.out).mono ?_); rintro e V61 ⟨rfl, b⟩; have S_2 := Lib.hid ((b.block _ Sz_1).trans S_1.out); have Sz_2 := Nat.lt_of_lt_of_le Sz_1 b.size; have Sc0_2 := blk_cell S_2.out 0; have Sc1_2 := blk_cell S_2.out 1; have Sc2_2 := blk_cell S_2.out 2; have Sc3_2 := blk_cell S_2.out 3; have Sc4_2 := blk_cell S_2.out 4; have Sc5_2 := blk_cell S_2.out 5; have Sc6_2 := blk_cell S_2.out 6; have Sc7_2 := blk_cell S_2.out 7; have W_2 := Lib.hid ((b.block _ Wz_1).trans W_1.out); have Wz_2 := Nat.lt_of_lt_of_le Wz_1 b.size; have Wc0_2 := blk_cell W_2.out 0; have Wc1_2 := blk_cell W_2.out 1; have Wc2_2 := blk_cell W_2.out 2; have Wc3_2 := blk_cell W_2.out 3; have Wc4_2 := blk_cell W_2.out 4; have Wc5_2 := blk_cell W_2.out 5; have Wc6_2 := blk_cell W_2.out 6; have Wc7_2 := blk_cell W_2.out 7; have B_2 := Lib.hid ((b.block _ Bz_1).trans B_1.out); have Bz_2 := Nat.lt_of_lt_of_le Bz_1 b.size; have Bc0_2 := blk_cell B_2.out 0; have Bc1_2 := blk_cell B_2.out 1; have Bc2_2 := blk_cell B_2.out 2; have Bc3_2 := blk_cell B_2.out 3; have Bc4_2 := blk_cell B_2.out 4; have Bc5_2 := blk_cell B_2.out 5; have Bc6_2 := blk_cell B_2.out 6; have Bc7_2 := blk_cell B_2.out 7; have q_2 := q_1.trans (b.mono q_1.size); clear S_1 Sz_1 Sc0_1 Sc1_1 Sc2_1 Sc3_1 Sc4_1 Sc5_1 Sc6_1 Sc7_1 W_1 Wz_1 Wc0_1 Wc1_1 Wc2_1 Wc3_1 Wc4_1 Wc5_1 Wc6_1 Wc7_1 B_1 Bz_1 Bc0_1 Bc1_1 Bc2_1 Bc3_1 Bc4_1 Bc5_1 Bc6_1 Bc7_1 q_1; clear b; have wf0 := blk_free W_2.out 0; have wf1 := blk_free W_2.out 1; have wf2 := blk_free W_2.out 2; have wf3 := blk_free W_2.out 3; have wf4 := blk_free W_2.out 4; have wf5 := blk_free W_2.out 5; have wf6 := blk_free W_2.out 6; have wf7 := blk_free W_2.out 7))
              all_goals
                go_wp2_with fail
                clear x0w x1w
                clear wf0 wf1 wf2 wf3 wf4 wf5 wf6 wf7
                have S_3 : Hid (((((((((V61.setCell ⟨w.heap.size + 1, 0, none⟩ (.int .i64 0)).setCell ⟨w.heap.size + 1, 1, none⟩ (.bool false)).setCell ⟨w.heap.size + 1, 2, none⟩ (.bool false)).setCell ⟨w.heap.size + 1, 3, none⟩ (.int .i64 0)).setCell ⟨w.heap.size + 1, 4, none⟩ (.int .i64 0)).setCell ⟨w.heap.size + 1, 5, none⟩ (.int .i64 0)).setCell ⟨w.heap.size + 1, 6, none⟩ (.int .i64 0)).setCell ⟨w.heap.size + 1, 7, none⟩ (.int .i64 0)).heap[w.heap.size]? = some (.cells #[.int .i64 0, .bool false, .bool false, .int .i64 0, .int .i64 0, .int .i64 0, .int .i64 0, .int .i64 0] 24 (0, 0))) := Lib.hid (oth_all8 S_2.out (by first | assumption | omega) (.int .i64 0) (.bool false) (.bool false) (.int .i64 0) (.int .i64 0) (.int .i64 0) (.int .i64 0) (.int .i64 0))
                have W_3 : Hid (((((((((V61.setCell ⟨w.heap.size + 1, 0, none⟩ (.int .i64 0)).setCell ⟨w.heap.size + 1, 1, none⟩ (.bool false)).setCell ⟨w.heap.size + 1, 2, none⟩ (.bool false)).setCell ⟨w.heap.size + 1, 3, none⟩ (.int .i64 0)).setCell ⟨w.heap.size + 1, 4, none⟩ (.int .i64 0)).setCell ⟨w.heap.size + 1, 5, none⟩ (.int .i64 0)).setCell ⟨w.heap.size + 1, 6, none⟩ (.int .i64 0)).setCell ⟨w.heap.size + 1, 7, none⟩ (.int .i64 0)).heap[w.heap.size + 1]? = some (.cells #[.int .i64 0, .bool false, .bool false, .int .i64 0, .int .i64 0, .int .i64 0, .int .i64 0, .int .i64 0] 25 (0, 0))) := Lib.hid (blk_all8 W_2.out (.int .i64 0) (.bool false) (.bool false) (.int .i64 0) (.int .i64 0) (.int .i64 0) (.int .i64 0) (.int .i64 0))
                have B_3 : Hid (((((((((V61.setCell ⟨w.heap.size + 1, 0, none⟩ (.int .i64 0)).setCell ⟨w.heap.size + 1, 1, none⟩ (.bool false)).setCell ⟨w.heap.size + 1, 2, none⟩ (.bool false)).setCell ⟨w.heap.size + 1, 3, none⟩ (.int .i64 0)).setCell ⟨w.heap.size + 1, 4, none⟩ (.int .i64 0)).setCell ⟨w.heap.size + 1, 5, none⟩ (.int .i64 0)).setCell ⟨w.heap.size + 1, 6, none⟩ (.int .i64 0)).setCell ⟨w.heap.size + 1, 7, none⟩ (.int .i64 0)).heap[wr.heap.size]? = some (.cells #[.int .i64 s.p, .bool s.hl, .bool s.hn, .int .i64 s.la, .int .i64 s.no, .int .i64 s.sa, .int .i64 s.ba, .int .i64 s.ro] 24 (0, 0))) := Lib.hid (oth_all8 B_2.out (by first | assumption | omega) (.int .i64 0) (.bool false) (.bool false) (.int .i64 0) (.int .i64 0) (.int .i64 0) (.int .i64 0) (.int .i64 0))
                have q_3 : Below w.heap.size w ((((((((V61.setCell ⟨w.heap.size + 1, 0, none⟩ (.int .i64 0)).setCell ⟨w.heap.size + 1, 1, none⟩ (.bool false)).setCell ⟨w.heap.size + 1, 2, none⟩ (.bool false)).setCell ⟨w.heap.size + 1, 3, none⟩ (.int .i64 0)).setCell ⟨w.heap.size + 1, 4, none⟩ (.int .i64 0)).setCell ⟨w.heap.size + 1, 5, none⟩ (.int .i64 0)).setCell ⟨w.heap.size + 1, 6, none⟩ (.int .i64 0)).setCell ⟨w.heap.size + 1, 7, none⟩ (.int .i64 0)) := bel_all8 q_2 (by first | exact Nat.le_refl _ | omega) (.int .i64 0) (.bool false) (.bool false) (.int .i64 0) (.int .i64 0) (.int .i64 0) (.int .i64 0) (.int .i64 0)
                clear q_2 S_2 Sz_2 W_2 Wz_2 B_2 Bz_2
                generalize ((((((((V61.setCell ⟨w.heap.size + 1, 0, none⟩ (.int .i64 0)).setCell ⟨w.heap.size + 1, 1, none⟩ (.bool false)).setCell ⟨w.heap.size + 1, 2, none⟩ (.bool false)).setCell ⟨w.heap.size + 1, 3, none⟩ (.int .i64 0)).setCell ⟨w.heap.size + 1, 4, none⟩ (.int .i64 0)).setCell ⟨w.heap.size + 1, 5, none⟩ (.int .i64 0)).setCell ⟨w.heap.size + 1, 6, none⟩ (.int .i64 0)).setCell ⟨w.heap.size + 1, 7, none⟩ (.int .i64 0)) = X2 at q_3 S_3 W_3 B_3 ⊢
                have Sz_3 := blk_lt S_3.out
                have Wz_3 := blk_lt W_3.out
                have Bz_3 := blk_lt B_3.out
                have Sc0_3 := blk_cell S_3.out 0
                have Sc1_3 := blk_cell S_3.out 1
                have Sc2_3 := blk_cell S_3.out 2
                have Sc3_3 := blk_cell S_3.out 3
                have Sc4_3 := blk_cell S_3.out 4
                have Sc5_3 := blk_cell S_3.out 5
                have Sc6_3 := blk_cell S_3.out 6
                have Sc7_3 := blk_cell S_3.out 7
                have Wc0_3 := blk_cell W_3.out 0
                have Wc1_3 := blk_cell W_3.out 1
                have Wc2_3 := blk_cell W_3.out 2
                have Wc3_3 := blk_cell W_3.out 3
                have Wc4_3 := blk_cell W_3.out 4
                have Wc5_3 := blk_cell W_3.out 5
                have Wc6_3 := blk_cell W_3.out 6
                have Wc7_3 := blk_cell W_3.out 7
                have Bc0_3 := blk_cell B_3.out 0
                have Bc1_3 := blk_cell B_3.out 1
                have Bc2_3 := blk_cell B_3.out 2
                have Bc3_3 := blk_cell B_3.out 3
                have Bc4_3 := blk_cell B_3.out 4
                have Bc5_3 := blk_cell B_3.out 5
                have Bc6_3 := blk_cell B_3.out 6
                have Bc7_3 := blk_cell B_3.out 7
                have x0w := (q_3.cell (p := ⟨bl, off + k * 2, none⟩) hbl).trans x0
                have x1w := (q_3.cell (p := ⟨bl, off + k * 2 + 1, none⟩) hbl).trans x1
                refine (num_any _ _).mono ?_
                rintro e w' ⟨rfl, rfl⟩
                have sf0 := blk_free S_3.out 0
                have sf1 := blk_free S_3.out 1
                have sf2 := blk_free S_3.out 2
                have sf3 := blk_free S_3.out 3
                have sf4 := blk_free S_3.out 4
                have sf5 := blk_free S_3.out 5
                have sf6 := blk_free S_3.out 6
                have sf7 := blk_free S_3.out 7
                have wf0 := blk_free W_3.out 0
                have wf1 := blk_free W_3.out 1
                have wf2 := blk_free W_3.out 2
                have wf3 := blk_free W_3.out 3
                have wf4 := blk_free W_3.out 4
                have wf5 := blk_free W_3.out 5
                have wf6 := blk_free W_3.out 6
                have wf7 := blk_free W_3.out 7
                go_wp2_with fail
                go_region
                all_goals
                  go_wp2_with fail
                  go_roundw
                  case rel => exact ⟨k + 1, s, by omega, by go_num, hs, blk_drew (oth_all8 (blk_all8 S_3.out (.int .i64 s.p) (.bool s.hl) (.bool s.hn) (.int .i64 s.la) (.int .i64 s.no) (.int .i64 s.sa) (.int .i64 s.ba) (.int .i64 s.ro)) nws (.int .i64 s.p) (.bool s.hl) (.bool s.hn) (.int .i64 s.la) (.int .i64 s.no) (.int .i64 s.sa) (.int .i64 s.ba) (.int .i64 s.ro)), blk_drew (blk_all8 (oth_all8 W_3.out nsw (.int .i64 s.p) (.bool s.hl) (.bool s.hn) (.int .i64 s.la) (.int .i64 s.no) (.int .i64 s.sa) (.int .i64 s.ba) (.int .i64 s.ro)) (.int .i64 s.p) (.bool s.hl) (.bool s.hn) (.int .i64 s.la) (.int .i64 s.no) (.int .i64 s.sa) (.int .i64 s.ba) (.int .i64 s.ro)), (bel_all8 (bel_all8 q_3 (Nat.le_refl _) (.int .i64 s.p) (.bool s.hl) (.bool s.hn) (.int .i64 s.la) (.int .i64 s.no) (.int .i64 s.sa) (.int .i64 s.ba) (.int .i64 s.ro)) (by omega) (.int .i64 s.p) (.bool s.hl) (.bool s.hn) (.int .i64 s.la) (.int .i64 s.no) (.int .i64 s.sa) (.int .i64 s.ba) (.int .i64 s.ro)).drew⟩
                  case measure => simp [intOf]; omega

theorem own : ownKnob Try.prog.godebug = none := by kernel_rfl
theorem laidOut : laidOutB Try.prog = true := by kernel_rfl

set_option maxRecDepth 100000 in
set_option maxHeartbeats 2000000 in
theorem lifted (os : Os) (started : os.Started) (H : Type) (enc : TypeId × Value → H) :
    ReturnsInHanded {} Try.checked os 3 .any (Rows.hystartPlaysSpec.pre6 enc Try.prog Try.f3 Rows.hystartPlaysRow.domain false) (Rows.hystartPlaysSpec.post enc Try.prog Try.f3 false true false false) := by
  refine returnsInHanded_of_change_sized (C := Try.checked) own started (by kernel_rfl) Try.func3
    (ChangeSpec.witness6 (enc := enc) (C := Try.checked) false ⟨#[], #[.slice none 0 0], []⟩ 8 (by kernel_rfl) (by kernel_rfl) (by kernel_rfl) (by kernel_rfl)) ?_
  intro W base args ds gs before hval0 hW hcnd hsz0 _
  have hval : ∀ (j : Nat) t v, Try.f3.params[j]? = some t → args[j]? = some v → Value.okWide Try.prog W .any base t v := hval0
  have hsz : (DataW.weightsEach Try.prog (Try.f3.params.toList ++ Rows.hystartPlaysSpec.plain.varTypes Try.prog) (ds ++ gs)).all (· ≤ reachBytes) = true := hsz0
  have hW' := hW
  obtain ⟨p, q, hA0, hV, rfl, hfz, hnd⟩ := hW
  have hA : DataW.TrodAll enc Try.prog W 0 (fun _ => true) true Try.f3.params.toList args.toList ds p := hA0
  rw [Try.params3] at hA hval hsz
  obtain ⟨v0, vs0, d0, ds0, p0, q0, hargs, rfl, rfl, h0, r0⟩ := trodAll_cons hA
  obtain ⟨rfl, rfl, rfl⟩ := trodAll_nil r0
  obtain rfl : args = #[v0] := by cases args; simp_all
  obtain ⟨rfl, rfl⟩ := trodVars_none hV
  obtain ⟨a0, len0, cap0, rfl⟩ := okWide_slice Try.underlying22 (hval 0 22 v0 rfl rfl)
  have k0 := h0
  have lt0 : ∀ x ∈ p0, x.block < W.heap.size := by obtain ⟨m, hm⟩ := k0; exact DataW.trod_lt m _ _ _ hm
  obtain ⟨xs0, hxl0, hbt0, hre0⟩ : ∃ xs : List Step22, xs.length = len0 ∧ Sts 2 Step22.cells Step22.ok W a0 xs ∧ xs.length ≤ 8796093021952 := by
    obtain ⟨fuel, hf⟩ := h0
    obtain ⟨x, rs, c, hv, hs, _, _, hq⟩ := open_Step22s (c := .slice a0 len0 cap0) hf
    simp only [Value.slice.injEq] at hv
    obtain ⟨rfl, rfl, rfl⟩ := hv
    have hw := sts_reach Try.underlying22 hq (fun n hn => by simpa using List.all_eq_true.1 hsz _ (DataW.weights_mem_each (j := 0) (t := 22) rfl rfl n hn))
    rw [show Try.prog.bytesOf 28 = 16 from by kernel_rfl] at hw
    simp only [reachBytes] at hw
    exact ⟨rs, rfl, hs, by omega⟩
  clear hA0 hval0 hsz hsz0
  subst hxl0
  refine (walk a0 xs0 cap0 W hbt0 hre0).mono fun e W' ⟨he, bel⟩ => ?_
  subst he
  exact ⟨_, rfl, _, _, _, [], _, [], hW', trodAll_mk1 (shut_bool Try.underlying4 _), (trodAll_cons_mk (Below.trod laidOut (by kernel_rfl) (of_decide_eq_true (by kernel_rfl)) k0 bel lt0) trodAll_mk0), rfl, bel.frame _, fun h => by cases h⟩

theorem over : Rows.hystartPlaysRow.holds Try.pinned (OpenSpec.ofChange Rows.hystartPlaysSpec) :=
  OpenClaim.holds_of_wide 3 Try.f3 rfl rfl rfl rfl rfl rfl rfl ⟨rfl, rfl, rfl, rfl, rfl⟩ rfl rfl rfl rfl rfl (by kernel_rfl) Try.func3 (by kernel_rfl)
    (of_decide_eq_true (by kernel_rfl)) (by unfold Func.isWrapper; first | (rw [if_pos (by decide +kernel)]; kernel_rfl) | (rw [if_neg (by decide +kernel)]; exact ⟨rfl, rfl⟩))
    (fun os started H enc _ => lifted os started H enc)

end Go.Proofs.Ytfmjlcnpabpheaa.hystartPlays
namespace Go.Proofs.Ytfmjlcnpabpheaa
/-- The statement. -/
theorem hystartPlays_holds : Rows.HystartPlaysSaid := hystartPlays.over
#print axioms hystartPlays_holds
end Go.Proofs.Ytfmjlcnpabpheaa
