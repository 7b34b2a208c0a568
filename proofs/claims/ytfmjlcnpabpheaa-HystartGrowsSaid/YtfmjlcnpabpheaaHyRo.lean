/- Hystart: rounds of eight samples; the page's example. -/
import Derived.Test.YtfmjlcnpabpheaaHyA
import Derived.Test.YtfmjlcnpabpheaaQInts
import Derived.StillTailTactics
import Derived.Deep.RegionWith
import Derived.Deep.DeepCutAuto
import Derived.Test.YtfmjlcnpabpheaaGStore
namespace Go.Proofs.Ytfmjlcnpabpheaa
open Go.RowKit Go.Proofs.Ytfmjlcnpabpheaa.Hy

set_option maxHeartbeats 2000000 in
theorem rounds_any (pa : Option Addr) (zs : List Int) (cap : Nat) (w : World) (hx : Its w pa zs) (hre : zs.length ≤ 17592186043904) :
    Calls Try.prog 15 #[.slice pa zs.length cap] w fun e w' => e = .returned (.agg #[.int .i64 (rs zs).p, .bool (rs zs).hl, .bool (rs zs).hn, .int .i64 (rs zs).la, .int .i64 (rs zs).no, .int .i64 (rs zs).sa, .int .i64 (rs zs).ba, .int .i64 (rs zs).ro]) ∧ Below w.heap.size w w' := by
  have HX := Lib.hid hx
  clear hx
  obtain ⟨s0, hs0⟩ : ∃ s0, rs zs = s0 := ⟨_, rfl⟩
  rw [hs0]
  have HS0 := Lib.hid hs0
  clear hs0
  have q_0 := Below.refl w.heap.size w
  go_enter Try.func15, Try.ntmps15
  go_wp2_with fail
  have b : Below w.heap.size w ((w.alloc (.cells #[.int .i64 0, .bool false, .bool false, .int .i64 0, .int .i64 0, .int .i64 0, .int .i64 0, .int .i64 0] 24)).alloc (.cells #[.int .i64 0, .bool false, .bool false, .int .i64 0, .int .i64 0, .int .i64 0, .int .i64 0, .int .i64 0] 24)) := (((Below.refl _ w).alloc (Nat.le_refl _) (.cells #[.int .i64 0, .bool false, .bool false, .int .i64 0, .int .i64 0, .int .i64 0, .int .i64 0, .int .i64 0] 24)).alloc (by simp only [World.size_alloc]; omega) (.cells #[.int .i64 0, .bool false, .bool false, .int .i64 0, .int .i64 0, .int .i64 0, .int .i64 0, .int .i64 0] 24))
  have nb0 := blk_new w (.cells #[.int .i64 0, .bool false, .bool false, .int .i64 0, .int .i64 0, .int .i64 0, .int .i64 0, .int .i64 0] 24)
  have nb0 := (Below.heap_alloc (w.alloc (.cells #[.int .i64 0, .bool false, .bool false, .int .i64 0, .int .i64 0, .int .i64 0, .int .i64 0, .int .i64 0] 24)) (.cells #[.int .i64 0, .bool false, .bool false, .int .i64 0, .int .i64 0, .int .i64 0, .int .i64 0, .int .i64 0] 24) (w.heap.size) (by simp only [World.size_alloc]; omega)).trans nb0
  have nz0 : w.heap.size < ((w.alloc (.cells #[.int .i64 0, .bool false, .bool false, .int .i64 0, .int .i64 0, .int .i64 0, .int .i64 0, .int .i64 0] 24)).alloc (.cells #[.int .i64 0, .bool false, .bool false, .int .i64 0, .int .i64 0, .int .i64 0, .int .i64 0, .int .i64 0] 24)).heap.size := by simp only [World.size_alloc]; omega
  have nb1 := blk_new (w.alloc (.cells #[.int .i64 0, .bool false, .bool false, .int .i64 0, .int .i64 0, .int .i64 0, .int .i64 0, .int .i64 0] 24)) (.cells #[.int .i64 0, .bool false, .bool false, .int .i64 0, .int .i64 0, .int .i64 0, .int .i64 0, .int .i64 0] 24)
  simp only [World.size_alloc] at nb1
  have nz1 : w.heap.size + 1 < ((w.alloc (.cells #[.int .i64 0, .bool false, .bool false, .int .i64 0, .int .i64 0, .int .i64 0, .int .i64 0, .int .i64 0] 24)).alloc (.cells #[.int .i64 0, .bool false, .bool false, .int .i64 0, .int .i64 0, .int .i64 0, .int .i64 0, .int .i64 0] 24)).heap.size := by simp only [World.size_alloc]; omega
  have q_1 := q_0.trans (b.mono q_0.size)
  clear q_0
  clear b
  have R_1 := Lib.hid nb0
  have Rz_1 := nz0
  clear nb0 nz0
  have Rc0_1 := blk_cell R_1.out 0
  have Rc1_1 := blk_cell R_1.out 1
  have Rc2_1 := blk_cell R_1.out 2
  have Rc3_1 := blk_cell R_1.out 3
  have Rc4_1 := blk_cell R_1.out 4
  have Rc5_1 := blk_cell R_1.out 5
  have Rc6_1 := blk_cell R_1.out 6
  have Rc7_1 := blk_cell R_1.out 7
  have S_1 := Lib.hid nb1
  have Sz_1 := nz1
  clear nb1 nz1
  have Sc0_1 := blk_cell S_1.out 0
  have Sc1_1 := blk_cell S_1.out 1
  have Sc2_1 := blk_cell S_1.out 2
  have Sc3_1 := blk_cell S_1.out 3
  have Sc4_1 := blk_cell S_1.out 4
  have Sc5_1 := blk_cell S_1.out 5
  have Sc6_1 := blk_cell S_1.out 6
  have Sc7_1 := blk_cell S_1.out 7
  generalize ((w.alloc (.cells #[.int .i64 0, .bool false, .bool false, .int .i64 0, .int .i64 0, .int .i64 0, .int .i64 0, .int .i64 0] 24)).alloc (.cells #[.int .i64 0, .bool false, .bool false, .int .i64 0, .int .i64 0, .int .i64 0, .int .i64 0, .int .i64 0] 24)) = V1 at q_1 R_1 Rz_1 Rc0_1 Rc1_1 Rc2_1 Rc3_1 Rc4_1 Rc5_1 Rc6_1 Rc7_1 S_1 Sz_1 Sc0_1 Sc1_1 Sc2_1 Sc3_1 Sc4_1 Sc5_1 Sc6_1 Sc7_1 ⊢
  have HZ : rs (zs.take 0) = Hy.Z := rfl
  go_loopw [4] (fun ii wr => ∃ (k : Nat) (s : HS), k ≤ zs.length ∧ ii = .int .i64 k ∧ Hid (rs (zs.take k) = s) ∧ wr.heap[w.heap.size + 1]? = some (.cells #[.int .i64 s.p, .bool s.hl, .bool s.hn, .int .i64 s.la, .int .i64 s.no, .int .i64 s.sa, .int .i64 s.ba, .int .i64 s.ro] 24 (0, 0)) ∧ wr.heap[w.heap.size]? = some (.cells #[.int .i64 0, .bool false, .bool false, .int .i64 0, .int .i64 0, .int .i64 0, .int .i64 0, .int .i64 0] 24 (0, 0)) ∧ Below w.heap.size w wr) (fun ii _ => zs.length - (intOf ii).toNat)
  case atStart => exact ⟨0, Hy.Z, by omega, rfl, Lib.hid HZ, S_1.out, R_1.out, q_1⟩
  case round =>
    obtain ⟨k, s, hk, rfl, hs, hS, hR, hq⟩ := hrel
    have q_0 := hq
    clear HZ S_1 R_1 q_1 Sz_1 Rz_1 Sc0_1 Rc0_1 Sc1_1 Rc1_1 Sc2_1 Rc2_1 Sc3_1 Rc3_1 Sc4_1 Rc4_1 Sc5_1 Rc5_1 Sc6_1 Rc6_1 Sc7_1 Rc7_1
    have Sz_0 := blk_lt hS
    have Rz_0 := blk_lt hR
    have S_0 := Lib.hid (hS)
    have Sc0_0 := blk_cell S_0.out 0
    have Sc1_0 := blk_cell S_0.out 1
    have Sc2_0 := blk_cell S_0.out 2
    have Sc3_0 := blk_cell S_0.out 3
    have Sc4_0 := blk_cell S_0.out 4
    have Sc5_0 := blk_cell S_0.out 5
    have Sc6_0 := blk_cell S_0.out 6
    have Sc7_0 := blk_cell S_0.out 7
    have R_0 := Lib.hid (hR)
    have Rc0_0 := blk_cell R_0.out 0
    have Rc1_0 := blk_cell R_0.out 1
    have Rc2_0 := blk_cell R_0.out 2
    have Rc3_0 := blk_cell R_0.out 3
    have Rc4_0 := blk_cell R_0.out 4
    have Rc5_0 := blk_cell R_0.out 5
    have Rc6_0 := blk_cell R_0.out 6
    have Rc7_0 := blk_cell R_0.out 7
    clear hS hR hq
    by_cases hlt : k < zs.length
    case neg =>
      obtain rfl : k = zs.length := by omega
      obtain rfl : s = s0 := by have := hs.out; rw [List.take_length, HS0.out] at this; exact this.symm
      clear hs HS0
      have rf0 := blk_free R_0.out 0
      have rf1 := blk_free R_0.out 1
      have rf2 := blk_free R_0.out 2
      have rf3 := blk_free R_0.out 3
      have rf4 := blk_free R_0.out 4
      have rf5 := blk_free R_0.out 5
      have rf6 := blk_free R_0.out 6
      have rf7 := blk_free R_0.out 7
      have QY := Lib.hid q_0
      clear R_0 S_0
      go_wp2
      refine bodyPost_ret (v := .agg #[.int .i64 s.p, .bool s.hl, .bool s.hn, .int .i64 s.la, .int .i64 s.no, .int .i64 s.sa, .int .i64 s.ba, .int .i64 s.ro]) (by simp [results, Try.results15, go_sem, *]) rfl ⟨rfl, ?_⟩
      (repeat' (first | (with_reducible exact QY.out) | (with_reducible exact Below.refl _ _) | (with_reducible refine Below.alloc ?_ ?_ _) | (with_reducible refine Below.setCell ?_ ?_ _) | (with_reducible refine Below.drew ?_) | (with_reducible refine below_drewN ?_ _) | omega | (dsimp only; omega) | (simp; done) | (simp; omega)))
    case pos =>
      obtain ⟨bl, off, rfl, hbl, hcx⟩ : ∃ b off, pa = some ⟨b, off, none⟩ ∧ b < w.heap.size ∧ ∀ i, i < zs.length → w.cell? ⟨b, off + i, none⟩ = some (.int .i64 (zs.getD i 0)) := by
        rcases HX.out.2 with h | h
        · subst h; simp at hlt
        · exact h
      have hz0 := hcx k hlt
      have hgd : zs.getD k 0 = zs[k] := by simp [List.getD_eq_getElem?_getD, List.getElem?_eq_getElem hlt]
      rw [hgd] at hz0
      have hnx : rs (zs.take (k + 1)) = sm8 (rdO s) zs[k] 8 := by rw [rs_take zs k hlt, hs.out]
      generalize zs[k] = z at hz0 hnx
      clear hcx hgd hs
      have HNX := Lib.hid hnx
      clear hnx
      have i1 : (k : Int) < (zs.length : Int) := by omega
      obtain ⟨t, ht⟩ : ∃ t, rdO s = t := ⟨_, rfl⟩
      obtain ⟨E, hE⟩ : ∃ E, cE s = E := ⟨_, rfl⟩
      have HT := Lib.hid ht
      have HE := Lib.hid hE
      clear ht hE
      go_wp2_with fail
      refine (round_l s t E HE.out HT.out _).mono ?_
      rintro e V21 ⟨rfl, b⟩
      have S_1 := Lib.hid ((b.block _ Sz_0).trans S_0.out)
      have Sz_1 := Nat.lt_of_lt_of_le Sz_0 b.size
      have Sc0_1 := blk_cell S_1.out 0
      have Sc1_1 := blk_cell S_1.out 1
      have Sc2_1 := blk_cell S_1.out 2
      have Sc3_1 := blk_cell S_1.out 3
      have Sc4_1 := blk_cell S_1.out 4
      have Sc5_1 := blk_cell S_1.out 5
      have Sc6_1 := blk_cell S_1.out 6
      have Sc7_1 := blk_cell S_1.out 7
      have R_1 := Lib.hid ((b.block _ Rz_0).trans R_0.out)
      have Rz_1 := Nat.lt_of_lt_of_le Rz_0 b.size
      have Rc0_1 := blk_cell R_1.out 0
      have Rc1_1 := blk_cell R_1.out 1
      have Rc2_1 := blk_cell R_1.out 2
      have Rc3_1 := blk_cell R_1.out 3
      have Rc4_1 := blk_cell R_1.out 4
      have Rc5_1 := blk_cell R_1.out 5
      have Rc6_1 := blk_cell R_1.out 6
      have Rc7_1 := blk_cell R_1.out 7
      have q_1 := q_0.trans (b.mono q_0.size)
      clear S_0 Sz_0 Sc0_0 Sc1_0 Sc2_0 Sc3_0 Sc4_0 Sc5_0 Sc6_0 Sc7_0 R_0 Rz_0 Rc0_0 Rc1_0 Rc2_0 Rc3_0 Rc4_0 Rc5_0 Rc6_0 Rc7_0 q_0
      clear b
      have NE : w.heap.size + 1 ≠ w.heap.size := by omega
      have NE2 := NE.symm
      have sf0 := blk_free S_1.out 0
      have sf1 := blk_free S_1.out 1
      have sf2 := blk_free S_1.out 2
      have sf3 := blk_free S_1.out 3
      have sf4 := blk_free S_1.out 4
      have sf5 := blk_free S_1.out 5
      have sf6 := blk_free S_1.out 6
      have sf7 := blk_free S_1.out 7
      go_wp2_with fail
      clear sf0 sf1 sf2 sf3 sf4 sf5 sf6 sf7
      clear Sc0_1 Sc1_1 Sc2_1 Sc3_1 Sc4_1 Sc5_1 Sc6_1 Sc7_1 Rc0_1 Rc1_1 Rc2_1 Rc3_1 Rc4_1 Rc5_1 Rc6_1 Rc7_1
      have S_2 : Hid (((((((((V21.setCell ⟨w.heap.size + 1, 0, none⟩ (.int .i64 t.p)).setCell ⟨w.heap.size + 1, 1, none⟩ (.bool t.hl)).setCell ⟨w.heap.size + 1, 2, none⟩ (.bool t.hn)).setCell ⟨w.heap.size + 1, 3, none⟩ (.int .i64 t.la)).setCell ⟨w.heap.size + 1, 4, none⟩ (.int .i64 t.no)).setCell ⟨w.heap.size + 1, 5, none⟩ (.int .i64 t.sa)).setCell ⟨w.heap.size + 1, 6, none⟩ (.int .i64 t.ba)).setCell ⟨w.heap.size + 1, 7, none⟩ (.int .i64 t.ro)).heap[w.heap.size + 1]? = some (.cells #[.int .i64 t.p, .bool t.hl, .bool t.hn, .int .i64 t.la, .int .i64 t.no, .int .i64 t.sa, .int .i64 t.ba, .int .i64 t.ro] 24 (0, 0))) := Lib.hid (blk_all8 S_1.out (.int .i64 t.p) (.bool t.hl) (.bool t.hn) (.int .i64 t.la) (.int .i64 t.no) (.int .i64 t.sa) (.int .i64 t.ba) (.int .i64 t.ro))
      have R_2 : Hid (((((((((V21.setCell ⟨w.heap.size + 1, 0, none⟩ (.int .i64 t.p)).setCell ⟨w.heap.size + 1, 1, none⟩ (.bool t.hl)).setCell ⟨w.heap.size + 1, 2, none⟩ (.bool t.hn)).setCell ⟨w.heap.size + 1, 3, none⟩ (.int .i64 t.la)).setCell ⟨w.heap.size + 1, 4, none⟩ (.int .i64 t.no)).setCell ⟨w.heap.size + 1, 5, none⟩ (.int .i64 t.sa)).setCell ⟨w.heap.size + 1, 6, none⟩ (.int .i64 t.ba)).setCell ⟨w.heap.size + 1, 7, none⟩ (.int .i64 t.ro)).heap[w.heap.size]? = some (.cells #[.int .i64 0, .bool false, .bool false, .int .i64 0, .int .i64 0, .int .i64 0, .int .i64 0, .int .i64 0] 24 (0, 0))) := Lib.hid (oth_all8 R_1.out (by first | assumption | omega) (.int .i64 t.p) (.bool t.hl) (.bool t.hn) (.int .i64 t.la) (.int .i64 t.no) (.int .i64 t.sa) (.int .i64 t.ba) (.int .i64 t.ro))
      have q_2 : Below w.heap.size w ((((((((V21.setCell ⟨w.heap.size + 1, 0, none⟩ (.int .i64 t.p)).setCell ⟨w.heap.size + 1, 1, none⟩ (.bool t.hl)).setCell ⟨w.heap.size + 1, 2, none⟩ (.bool t.hn)).setCell ⟨w.heap.size + 1, 3, none⟩ (.int .i64 t.la)).setCell ⟨w.heap.size + 1, 4, none⟩ (.int .i64 t.no)).setCell ⟨w.heap.size + 1, 5, none⟩ (.int .i64 t.sa)).setCell ⟨w.heap.size + 1, 6, none⟩ (.int .i64 t.ba)).setCell ⟨w.heap.size + 1, 7, none⟩ (.int .i64 t.ro)) := bel_all8 q_1 (by first | exact Nat.le_refl _ | omega) (.int .i64 t.p) (.bool t.hl) (.bool t.hn) (.int .i64 t.la) (.int .i64 t.no) (.int .i64 t.sa) (.int .i64 t.ba) (.int .i64 t.ro)
      clear q_1 S_1 Sz_1 R_1 Rz_1
      generalize ((((((((V21.setCell ⟨w.heap.size + 1, 0, none⟩ (.int .i64 t.p)).setCell ⟨w.heap.size + 1, 1, none⟩ (.bool t.hl)).setCell ⟨w.heap.size + 1, 2, none⟩ (.bool t.hn)).setCell ⟨w.heap.size + 1, 3, none⟩ (.int .i64 t.la)).setCell ⟨w.heap.size + 1, 4, none⟩ (.int .i64 t.no)).setCell ⟨w.heap.size + 1, 5, none⟩ (.int .i64 t.sa)).setCell ⟨w.heap.size + 1, 6, none⟩ (.int .i64 t.ba)).setCell ⟨w.heap.size + 1, 7, none⟩ (.int .i64 t.ro)) = X1 at q_2 S_2 R_2 ⊢
      have Sz_2 := blk_lt S_2.out
      have Sc0_2 := blk_cell S_2.out 0
      have Sc1_2 := blk_cell S_2.out 1
      have Sc2_2 := blk_cell S_2.out 2
      have Sc3_2 := blk_cell S_2.out 3
      have Sc4_2 := blk_cell S_2.out 4
      have Sc5_2 := blk_cell S_2.out 5
      have Sc6_2 := blk_cell S_2.out 6
      have Sc7_2 := blk_cell S_2.out 7
      have Rz_2 := blk_lt R_2.out
      have Rc0_2 := blk_cell R_2.out 0
      have Rc1_2 := blk_cell R_2.out 1
      have Rc2_2 := blk_cell R_2.out 2
      have Rc3_2 := blk_cell R_2.out 3
      have Rc4_2 := blk_cell R_2.out 4
      have Rc5_2 := blk_cell R_2.out 5
      have Rc6_2 := blk_cell R_2.out 6
      have Rc7_2 := blk_cell R_2.out 7

      go_loopw [5] (fun jj wx => ∃ (j : Nat) (u : HS), j ≤ 8 ∧ jj = .int .i64 j ∧ Hid (sm8 t z j = u) ∧ wx.heap[w.heap.size + 1]? = some (.cells #[.int .i64 u.p, .bool u.hl, .bool u.hn, .int .i64 u.la, .int .i64 u.no, .int .i64 u.sa, .int .i64 u.ba, .int .i64 u.ro] 24 (0, 0)) ∧ wx.heap[w.heap.size]? = some (.cells #[.int .i64 0, .bool false, .bool false, .int .i64 0, .int .i64 0, .int .i64 0, .int .i64 0, .int .i64 0] 24 (0, 0)) ∧ Below w.heap.size w wx) (fun jj _ => 8 - (intOf jj).toNat)
      case atStart => exact ⟨0, t, by omega, rfl, Lib.hid rfl, S_2.out, R_2.out, q_2⟩
      case round =>
        obtain ⟨j, u, hj, rfl, hu, hS, hR, hq⟩ := hrel
        have p_0 := hq
        clear S_2 R_2 q_2 Sz_2 Rz_2 Sc0_2 Rc0_2 Sc1_2 Rc1_2 Sc2_2 Rc2_2 Sc3_2 Rc3_2 Sc4_2 Rc4_2 Sc5_2 Rc5_2 Sc6_2 Rc6_2 Sc7_2 Rc7_2 
        have q_0 := p_0
        clear p_0
        have Sz_0 := blk_lt hS
        have Rz_0 := blk_lt hR
        have S_0 := Lib.hid (hS)
        have Sc0_0 := blk_cell S_0.out 0
        have Sc1_0 := blk_cell S_0.out 1
        have Sc2_0 := blk_cell S_0.out 2
        have Sc3_0 := blk_cell S_0.out 3
        have Sc4_0 := blk_cell S_0.out 4
        have Sc5_0 := blk_cell S_0.out 5
        have Sc6_0 := blk_cell S_0.out 6
        have Sc7_0 := blk_cell S_0.out 7
        have R_0 := Lib.hid (hR)
        have Rc0_0 := blk_cell R_0.out 0
        have Rc1_0 := blk_cell R_0.out 1
        have Rc2_0 := blk_cell R_0.out 2
        have Rc3_0 := blk_cell R_0.out 3
        have Rc4_0 := blk_cell R_0.out 4
        have Rc5_0 := blk_cell R_0.out 5
        have Rc6_0 := blk_cell R_0.out 6
        have Rc7_0 := blk_cell R_0.out 7
        clear hS hR hq
        by_cases h8 : j < 8
        case neg =>
          obtain rfl : j = 8 := by omega
          have e8 : ((8 : Nat) : Int) = 8 := rfl
          go_wp2_with fail
          go_roundw
          case rel => exact ⟨k + 1, u, by omega, by go_num, Lib.hid (by rw [HNX.out, HT.out, hu.out]), S_0.out, R_0.out, q_0⟩
          case measure => simp [intOf]; omega
        case pos =>
          have i2 : (j : Int) < 8 := by omega
          have zc := (q_0.cell (p := ⟨bl, off + k, none⟩) hbl).trans hz0
          obtain ⟨y, hy⟩ : ∃ y, smO u z = y := ⟨_, rfl⟩
          obtain ⟨F, hF⟩ : ∃ F, smE u z = F := ⟨_, rfl⟩
          have HY := Lib.hid hy
          have HF := Lib.hid hF
          clear hy hF
          go_wp2_with fail
          have S_1 := Lib.hid ((((Below.refl wr.heap.size wr).drew).block _ Sz_0).trans S_0.out)
          have Sz_1 := Nat.lt_of_lt_of_le Sz_0 ((Below.refl wr.heap.size wr).drew).size
          have Sc0_1 := blk_cell S_1.out 0
          have Sc1_1 := blk_cell S_1.out 1
          have Sc2_1 := blk_cell S_1.out 2
          have Sc3_1 := blk_cell S_1.out 3
          have Sc4_1 := blk_cell S_1.out 4
          have Sc5_1 := blk_cell S_1.out 5
          have Sc6_1 := blk_cell S_1.out 6
          have Sc7_1 := blk_cell S_1.out 7
          have R_1 := Lib.hid ((((Below.refl wr.heap.size wr).drew).block _ Rz_0).trans R_0.out)
          have Rz_1 := Nat.lt_of_lt_of_le Rz_0 ((Below.refl wr.heap.size wr).drew).size
          have Rc0_1 := blk_cell R_1.out 0
          have Rc1_1 := blk_cell R_1.out 1
          have Rc2_1 := blk_cell R_1.out 2
          have Rc3_1 := blk_cell R_1.out 3
          have Rc4_1 := blk_cell R_1.out 4
          have Rc5_1 := blk_cell R_1.out 5
          have Rc6_1 := blk_cell R_1.out 6
          have Rc7_1 := blk_cell R_1.out 7
          have q_1 := q_0.trans (((Below.refl wr.heap.size wr).drew).mono q_0.size)
          clear S_0 Sz_0 Sc0_0 Sc1_0 Sc2_0 Sc3_0 Sc4_0 Sc5_0 Sc6_0 Sc7_0 R_0 Rz_0 Rc0_0 Rc1_0 Rc2_0 Rc3_0 Rc4_0 Rc5_0 Rc6_0 Rc7_0 q_0
          have NE : w.heap.size + 1 ≠ w.heap.size := by omega
          go_region_with (first
            | (go_at_call 9; (with_reducible refine (sample_l u y z F HF.out HY.out _).mono ?_); rintro e V41 ⟨rfl, b⟩; have S_2 := Lib.hid ((b.block _ Sz_1).trans S_1.out); have Sz_2 := Nat.lt_of_lt_of_le Sz_1 b.size; have Sc0_2 := blk_cell S_2.out 0; have Sc1_2 := blk_cell S_2.out 1; have Sc2_2 := blk_cell S_2.out 2; have Sc3_2 := blk_cell S_2.out 3; have Sc4_2 := blk_cell S_2.out 4; have Sc5_2 := blk_cell S_2.out 5; have Sc6_2 := blk_cell S_2.out 6; have Sc7_2 := blk_cell S_2.out 7; have R_2 := Lib.hid ((b.block _ Rz_1).trans R_1.out); have Rz_2 := Nat.lt_of_lt_of_le Rz_1 b.size; have Rc0_2 := blk_cell R_2.out 0; have Rc1_2 := blk_cell R_2.out 1; have Rc2_2 := blk_cell R_2.out 2; have Rc3_2 := blk_cell R_2.out 3; have Rc4_2 := blk_cell R_2.out 4; have Rc5_2 := blk_cell R_2.out 5; have Rc6_2 := blk_cell R_2.out 6; have Rc7_2 := blk_cell R_2.out 7; have q_2 := q_1.trans (b.mono q_1.size); clear S_1 Sz_1 Sc0_1 Sc1_1 Sc2_1 Sc3_1 Sc4_1 Sc5_1 Sc6_1 Sc7_1 R_1 Rz_1 Rc0_1 Rc1_1 Rc2_1 Rc3_1 Rc4_1 Rc5_1 Rc6_1 Rc7_1 q_1; clear b; have sf0 := blk_free S_2.out 0; have sf1 := blk_free S_2.out 1; have sf2 := blk_free S_2.out 2; have sf3 := blk_free S_2.out 3; have sf4 := blk_free S_2.out 4; have sf5 := blk_free S_2.out 5; have sf6 := blk_free S_2.out 6; have sf7 := blk_free S_2.out 7))
          all_goals
            go_wp2_with fail
            have S_9 : Hid (((((((((V41.setCell ⟨w.heap.size + 1, 0, none⟩ (.int .i64 y.p)).setCell ⟨w.heap.size + 1, 1, none⟩ (.bool y.hl)).setCell ⟨w.heap.size + 1, 2, none⟩ (.bool y.hn)).setCell ⟨w.heap.size + 1, 3, none⟩ (.int .i64 y.la)).setCell ⟨w.heap.size + 1, 4, none⟩ (.int .i64 y.no)).setCell ⟨w.heap.size + 1, 5, none⟩ (.int .i64 y.sa)).setCell ⟨w.heap.size + 1, 6, none⟩ (.int .i64 y.ba)).setCell ⟨w.heap.size + 1, 7, none⟩ (.int .i64 y.ro)).heap[w.heap.size + 1]? = some (.cells #[.int .i64 y.p, .bool y.hl, .bool y.hn, .int .i64 y.la, .int .i64 y.no, .int .i64 y.sa, .int .i64 y.ba, .int .i64 y.ro] 24 (0, 0))) := Lib.hid (blk_all8 S_2.out (.int .i64 y.p) (.bool y.hl) (.bool y.hn) (.int .i64 y.la) (.int .i64 y.no) (.int .i64 y.sa) (.int .i64 y.ba) (.int .i64 y.ro))
            have R_9 : Hid (((((((((V41.setCell ⟨w.heap.size + 1, 0, none⟩ (.int .i64 y.p)).setCell ⟨w.heap.size + 1, 1, none⟩ (.bool y.hl)).setCell ⟨w.heap.size + 1, 2, none⟩ (.bool y.hn)).setCell ⟨w.heap.size + 1, 3, none⟩ (.int .i64 y.la)).setCell ⟨w.heap.size + 1, 4, none⟩ (.int .i64 y.no)).setCell ⟨w.heap.size + 1, 5, none⟩ (.int .i64 y.sa)).setCell ⟨w.heap.size + 1, 6, none⟩ (.int .i64 y.ba)).setCell ⟨w.heap.size + 1, 7, none⟩ (.int .i64 y.ro)).heap[w.heap.size]? = some (.cells #[.int .i64 0, .bool false, .bool false, .int .i64 0, .int .i64 0, .int .i64 0, .int .i64 0, .int .i64 0] 24 (0, 0))) := Lib.hid (oth_all8 R_2.out NE (.int .i64 y.p) (.bool y.hl) (.bool y.hn) (.int .i64 y.la) (.int .i64 y.no) (.int .i64 y.sa) (.int .i64 y.ba) (.int .i64 y.ro))
            have q_9 : Below w.heap.size w ((((((((V41.setCell ⟨w.heap.size + 1, 0, none⟩ (.int .i64 y.p)).setCell ⟨w.heap.size + 1, 1, none⟩ (.bool y.hl)).setCell ⟨w.heap.size + 1, 2, none⟩ (.bool y.hn)).setCell ⟨w.heap.size + 1, 3, none⟩ (.int .i64 y.la)).setCell ⟨w.heap.size + 1, 4, none⟩ (.int .i64 y.no)).setCell ⟨w.heap.size + 1, 5, none⟩ (.int .i64 y.sa)).setCell ⟨w.heap.size + 1, 6, none⟩ (.int .i64 y.ba)).setCell ⟨w.heap.size + 1, 7, none⟩ (.int .i64 y.ro)) := bel_all8 q_2 (by omega) (.int .i64 y.p) (.bool y.hl) (.bool y.hn) (.int .i64 y.la) (.int .i64 y.no) (.int .i64 y.sa) (.int .i64 y.ba) (.int .i64 y.ro)
            generalize ((((((((V41.setCell ⟨w.heap.size + 1, 0, none⟩ (.int .i64 y.p)).setCell ⟨w.heap.size + 1, 1, none⟩ (.bool y.hl)).setCell ⟨w.heap.size + 1, 2, none⟩ (.bool y.hn)).setCell ⟨w.heap.size + 1, 3, none⟩ (.int .i64 y.la)).setCell ⟨w.heap.size + 1, 4, none⟩ (.int .i64 y.no)).setCell ⟨w.heap.size + 1, 5, none⟩ (.int .i64 y.sa)).setCell ⟨w.heap.size + 1, 6, none⟩ (.int .i64 y.ba)).setCell ⟨w.heap.size + 1, 7, none⟩ (.int .i64 y.ro)) = X2 at S_9 R_9 q_9 ⊢
            clear S_2 R_2 q_2 sf0 sf1 sf2 sf3 sf4 sf5 sf6 sf7
            go_roundw
            case rel => exact ⟨j + 1, y, by omega, by go_num, Lib.hid (by rw [sm8_succ, hu.out, HY.out]), S_9.out, R_9.out, q_9⟩
            case measure => simp [intOf]; omega

end Go.Proofs.Ytfmjlcnpabpheaa
