/- For every frame, every ARP and every list of octets: frames and ARPs are read back from their octets; octets that are read are what is built of what was read. No condition. -/
import Derived.Test.YtdiomelldhkibaaRows
import Derived.Test.YtdiomelldhkibaaAlive3
import Derived.Test.YtdiomelldhkibaaGSpoil
import Derived.Test.YtdiomelldhkibaaGSameEther
import Derived.Test.YtdiomelldhkibaaGStruct
import Derived.ProofKit
import Derived.OpenShut
import Derived.ShutString
import Derived.ChangeOld
import Derived.SizedLaws
import Derived.Test.YtdiomelldhkibaaEthBack
import Derived.Deep.DeepCutAuto
namespace Go.Proofs.Ytdiomelldhkibaa.etherBack
open Go.ChangeShapes Go.WideShapes Go.ChangeAt Go.RowKit Go.Proofs.Ytdiomelldhkibaa.law3
open Go.ChangeMaps (open_string shut_string)

def CutAB (d s : Nat) (t : Int) (ad : Option Addr) (ds : List Nat) (dcap : Nat) (op : Int) (m1 i1 m2 i2 : Nat) (w wx : World) : Prop :=
  wx.heap[w.heap.size]? = some (.cells #[.int .u64 d, .int .u64 s, .int .i64 t, .slice ad ds.length dcap] 25 (0, 0)) ∧ wx.heap[w.heap.size + 1]? = some (.cells #[.int .i64 op, .int .u64 m1, .int .u32 i1, .int .u64 m2, .int .u32 i2] 28 (0, 0)) ∧ Below w.heap.size w wx

theorem facts_build (d s : Nat) (t : Int) (ds : List Nat) : ∃ R E, (∀ a c W, Bts W a ds → Calls Try.prog 17 #[.agg #[.int .u64 d, .int .u64 s, .int .i64 t, .slice a ds.length c]] W fun e w' => ∃ a' cap', e = .returned (.tuple #[.slice a' R.length cap', .int .i64 E]) ∧ OwnSl W.heap.size a' R cap' w' ∧ Below W.heap.size W w') ∧ ((E = 0 ∧ ∀ a c W, Bts W a R → R.length ≤ c → c ≤ maxLen → Calls Try.prog 21 #[.slice a R.length c] W fun e w' => ∃ a' cap', e = .returned (.tuple #[.agg #[.int .u64 d, .int .u64 s, .int .i64 t, .slice a' ds.length cap'], .int .i64 0]) ∧ OwnSl W.heap.size a' ds cap' w' ∧ Below W.heap.size W w') ∨ E ≠ 0) := by
  refine ⟨ethBR d s t ds, ethBE d s t ds.length, fun a c W h => ethB_all d s t a ds c W h, ?_⟩
  unfold ethBR ethBE
  by_cases h1 : EthMay d s t
  · by_cases h2 : ds.length ≤ 65521
    · left
      have hcc : EthMay d s t ∧ ds.length ≤ 65521 := ⟨h1, h2⟩
      simp only [if_pos hcc, if_pos h1, if_pos h2]
      refine ⟨trivial, fun a c W h hc hm => ?_⟩
      obtain ⟨n, rfl⟩ : ∃ n : Nat, t = n := ⟨t.toNat, by omega⟩
      have hl := eth_len d s n ds
      have := eth_ok a (ethO d s n ds) c W h hc hm (by omega) (by omega)
      rw [ethD_of d s n ds h1.1, ethS_of d s n ds h1.2.1, ethT_of d s n ds (by omega), ethds_of] at this
      exact this
    · right
      rw [if_pos h1, if_neg h2]; decide
  · right
    rw [if_neg h1]; decide

theorem facts_arp (op : Int) (m1 i1 m2 i2 : Nat) (hi1 : i1 < 4294967296) (hi2 : i2 < 4294967296) : ∃ S F, (∀ W, Calls Try.prog 19 #[.agg #[.int .i64 op, .int .u64 m1, .int .u32 i1, .int .u64 m2, .int .u32 i2]] W fun e w' => ∃ a' cap', e = .returned (.tuple #[.slice a' S.length cap', .int .i64 F]) ∧ OwnSl W.heap.size a' S cap' w' ∧ Below W.heap.size W w') ∧ ((F = 0 ∧ ∀ a c W, Bts W a S → S.length ≤ c → c ≤ maxLen → Calls Try.prog 23 #[.slice a S.length c] W fun e w' => e = .returned (.tuple #[.agg #[.int .i64 op, .int .u64 m1, .int .u32 i1, .int .u64 m2, .int .u32 i2], .int .i64 0]) ∧ Below W.heap.size W w') ∨ F ≠ 0) := by
  refine ⟨arpBR op m1 i1 m2 i2, arpBE op m1 m2, fun W => arpB_all op m1 i1 m2 i2 W hi1 hi2, ?_⟩
  unfold arpBR arpBE
  by_cases h1 : op = 1 ∨ op = 2
  · by_cases h2 : m1 ≤ 281474976710655 ∧ m2 ≤ 281474976710655
    · left
      have hcc : (op = 1 ∨ op = 2) ∧ m1 ≤ 281474976710655 ∧ m2 ≤ 281474976710655 := ⟨h1, h2⟩
      simp only [if_pos hcc, if_pos h1, if_pos h2]
      refine ⟨trivial, fun a c W h hc hm => ?_⟩
      obtain ⟨n, rfl⟩ : ∃ n : Nat, op = n := ⟨op.toNat, by omega⟩
      have hl := arp_len n m1 i1 m2 i2
      refine (arp_any a (arpO n m1 i1 m2 i2) c W h hc hm (by omega) (by omega)).mono ?_
      rintro e w' (⟨_, he, hb⟩ | ⟨hn, _, _⟩)
      · rw [arp_op_of, arpM1_of n m1 i1 m2 i2 h2.1, arpI1_of n m1 i1 m2 i2 hi1, arpM2_of n m1 i1 m2 i2 h2.2, arpI2_of n m1 i1 m2 i2 hi2] at he
        exact ⟨he, hb⟩
      · exact absurd ⟨arp_begin_of _ _ _ _ _, by rw [arp_op_of]; omega⟩ hn
    · right
      rw [if_pos h1, if_neg h2]; decide
  · right
    rw [if_neg h1]; decide

theorem facts_parse (bs : List Nat) (hx : ∀ x ∈ bs, x < 256) (hl : bs.length ≤ 140737488355328) : ∃ (bD bS bT : Nat) (bd : List Nat) (G : Int), (∀ a c W, Bts W a bs → bs.length ≤ c → c ≤ maxLen → Calls Try.prog 21 #[.slice a bs.length c] W fun e w' => ∃ a' cap', e = .returned (.tuple #[.agg #[.int .u64 bD, .int .u64 bS, .int .i64 bT, .slice a' bd.length cap'], .int .i64 G]) ∧ OwnSl W.heap.size a' bd cap' w' ∧ Below W.heap.size W w') ∧ ((G = 0 ∧ ∀ a c W, Bts W a bd → Calls Try.prog 17 #[.agg #[.int .u64 bD, .int .u64 bS, .int .i64 bT, .slice a bd.length c]] W fun e w' => ∃ a' cap', e = .returned (.tuple #[.slice a' bs.length cap', .int .i64 0]) ∧ OwnSl W.heap.size a' bs cap' w' ∧ Below W.heap.size W w') ∨ G ≠ 0) := by
  refine ⟨ethPD bs, ethPS bs, ethPT bs, ethPds bs, ethPE bs, fun a c W h hc hm => ethP_all a bs c W h hc hm hl, ?_⟩
  unfold ethPE
  by_cases h1 : bs.length < 14
  · right; rw [if_pos h1]; decide
  · by_cases h2 : 65535 < bs.length
    · right; rw [if_neg h1, if_pos h2]; decide
    · left
      rw [if_neg h1, if_neg h2]
      have hok : EthPok bs := by omega
      refine ⟨rfl, fun a c W h => ?_⟩
      unfold ethPD ethPS ethPT ethPds at *
      rw [if_pos hok] at h
      rw [if_pos hok, if_pos hok, if_pos hok, if_pos hok]
      have n1 := Mt.numOf_lt (seg bs 0 6) (seg_lt hx 0 6)
      have n2 := Mt.numOf_lt (seg bs 6 6) (seg_lt hx 6 6)
      have n3 := Mt.numOf_lt (seg bs 12 2) (seg_lt hx 12 2)
      rw [seg_length _ _ _ (by omega)] at n1 n2 n3
      have hd : ethD bs ≤ 281474976710655 := by have e : 256 ^ 6 = 281474976710656 := by decide
                                                unfold ethD; omega
      have hs : ethS bs ≤ 281474976710655 := by have e : 256 ^ 6 = 281474976710656 := by decide
                                                unfold ethS; omega
      have ht : ethT bs ≤ 65535 := by have e : 256 ^ 2 = 65536 := by decide
                                      unfold ethT; omega
      have := ethB_ok (ethD bs) (ethS bs) (ethT bs) a (bs.drop 14) c W hd hs ht h (by rw [List.length_drop]; omega)
      rwa [eth_again bs hx (by omega)] at this

theorem facts_parsearp (bs : List Nat) (hx : ∀ x ∈ bs, x < 256) (hl : bs.length ≤ 140737488355328) : ∃ (zo z1 z2 z3 z4 : Nat) (H : Int), (∀ a c W, Bts W a bs → bs.length ≤ c → c ≤ maxLen → Calls Try.prog 23 #[.slice a bs.length c] W fun e w' => e = .returned (.tuple #[.agg #[.int .i64 zo, .int .u64 z1, .int .u32 z2, .int .u64 z3, .int .u32 z4], .int .i64 H]) ∧ Below W.heap.size W w') ∧ ((H = 0 ∧ 28 ≤ bs.length ∧ ∀ W, Calls Try.prog 19 #[.agg #[.int .i64 zo, .int .u64 z1, .int .u32 z2, .int .u64 z3, .int .u32 z4]] W fun e w' => ∃ a' cap', e = .returned (.tuple #[.slice a' 28 cap', .int .i64 0]) ∧ OwnSl W.heap.size a' (bs.take 28) cap' w' ∧ Below W.heap.size W w') ∨ (H ≠ 0 ∧ zo = 0 ∧ z1 = 0 ∧ z2 = 0 ∧ z3 = 0 ∧ z4 = 0)) := by
  refine ⟨arpPop bs, arpP1 bs, arpP2 bs, arpP3 bs, arpP4 bs, arpPE bs, fun a c W h hc hm => arpP_all a bs c W h hc hm hl, ?_⟩
  unfold arpPE
  by_cases hok : ArpPok bs
  · left
    have h28 := hok.1
    rw [if_neg (by omega), if_pos hok]
    refine ⟨rfl, h28, fun W => ?_⟩
    unfold arpPop arpP1 arpP2 arpP3 arpP4
    simp only [if_pos hok]
    have n1 := Mt.numOf_lt (seg bs 8 6) (seg_lt hx 8 6)
    have n2 := Mt.numOf_lt (seg bs 14 4) (seg_lt hx 14 4)
    have n3 := Mt.numOf_lt (seg bs 18 6) (seg_lt hx 18 6)
    have n4 := Mt.numOf_lt (seg bs 24 4) (seg_lt hx 24 4)
    rw [seg_length _ _ _ (by omega)] at n1 n2 n3 n4
    have e6 : 256 ^ 6 = 281474976710656 := by decide
    have e4 : 256 ^ 4 = 4294967296 := by decide
    have := arpB_ok (bs.getD 7 0) (arpM1 bs) (arpI1 bs) (arpM2 bs) (arpI2 bs) W hok.2.2 (by unfold arpM1; omega) (by unfold arpM2; omega) (by unfold arpI1; omega) (by unfold arpI2; omega)
    rw [arp_again bs hx h28 hok.2.1] at this
    have hl28 : (bs.take 28).length = 28 := by rw [List.length_take]; omega
    rwa [hl28] at this
  · right
    unfold arpPop arpP1 arpP2 arpP3 arpP4
    simp only [if_neg hok]
    refine ⟨?_, trivial, trivial, trivial, trivial, trivial⟩
    split <;> decide

set_option maxRecDepth 100000 in
set_option maxHeartbeats 8000000 in
theorem walk (d s : Nat) (t : Int) (ad : Option Addr) (ds : List Nat) (dcap : Nat) (op : Int) (m1 i1 m2 i2 : Nat) (ab : Option Addr) (bs : List Nat) (bcap : Nat) (w : World) (_ : d < 18446744073709551616) (_ : s < 18446744073709551616) (_ : -9223372036854775808 ≤ t) (_ : t ≤ 9223372036854775807) (hx : Bts w ad ds) (_ : ad = none → dcap = 0) (_ : ds.length ≤ dcap ∧ dcap ≤ maxLen) (hl10 : ds.length ≤ 140737488351232) (_ : -9223372036854775808 ≤ op) (_ : op ≤ 9223372036854775807) (_ : m1 < 18446744073709551616) (hi1 : i1 < 4294967296) (_ : m2 < 18446744073709551616) (hi2 : i2 < 4294967296) (hb : Bts w ab bs) (_ : ab = none → bcap = 0) (hbl : bs.length ≤ bcap ∧ bcap ≤ maxLen) (hl20 : bs.length ≤ 140737488351232) :
    Calls Try.prog 4 #[.agg #[.int .u64 d, .int .u64 s, .int .i64 t, .slice ad ds.length dcap], .agg #[.int .i64 op, .int .u64 m1, .int .u32 i1, .int .u64 m2, .int .u32 i2], .slice ab bs.length bcap] w fun e w' => e = .returned (.bool true) ∧ Below w.heap.size w w' := by
  have hl1 : ds.length ≤ 140737488355328 := by omega
  have hl2 : bs.length ≤ 140737488355328 := by omega
  obtain ⟨R, E, fb, fe⟩ := facts_build d s t ds
  obtain ⟨S, F, fs, ff⟩ := facts_arp op m1 i1 m2 i2 hi1 hi2
  obtain ⟨bD, bS, bT, bd, G, fp, fg⟩ := facts_parse bs hb.1 hl2
  obtain ⟨zo, z1, z2, z3, z4, H, fa, fh⟩ := facts_parsearp bs hb.1 hl2
  have HB := Lib.hid fb
  have HER := Lib.hid fe
  have HS := Lib.hid fs
  have HFS := Lib.hid ff
  have HPb := Lib.hid fp
  have HPE := Lib.hid fg
  have HAb := Lib.hid fa
  have HAE := Lib.hid fh
  clear fb fe fs ff fp fg fa fh
  have q_0 := Below.refl w.heap.size w
  have D0 := Lib.hid hx
  have B0 := Lib.hid hb
  have HL := Lib.hid hbl
  clear hx hb hbl
  go_enter Try.func4, Try.ntmps4
  go_wp2_with fail
  have b : Below w.heap.size w ((w.alloc (.cells #[.int .u64 d, .int .u64 s, .int .i64 t, .slice ad ds.length dcap] 25)).alloc (.cells #[.int .i64 op, .int .u64 m1, .int .u32 i1, .int .u64 m2, .int .u32 i2] 28)) := (((Below.refl _ w).alloc (Nat.le_refl _) (.cells #[.int .u64 d, .int .u64 s, .int .i64 t, .slice ad ds.length dcap] 25)).alloc (by simp only [World.size_alloc]; omega) (.cells #[.int .i64 op, .int .u64 m1, .int .u32 i1, .int .u64 m2, .int .u32 i2] 28))
  have nb0 := blk_new w (.cells #[.int .u64 d, .int .u64 s, .int .i64 t, .slice ad ds.length dcap] 25)
  have nb0 := (Below.heap_alloc (w.alloc (.cells #[.int .u64 d, .int .u64 s, .int .i64 t, .slice ad ds.length dcap] 25)) (.cells #[.int .i64 op, .int .u64 m1, .int .u32 i1, .int .u64 m2, .int .u32 i2] 28) (w.heap.size) (by simp only [World.size_alloc]; omega)).trans nb0
  have nz0 : w.heap.size < ((w.alloc (.cells #[.int .u64 d, .int .u64 s, .int .i64 t, .slice ad ds.length dcap] 25)).alloc (.cells #[.int .i64 op, .int .u64 m1, .int .u32 i1, .int .u64 m2, .int .u32 i2] 28)).heap.size := by simp only [World.size_alloc]; omega
  have nb1 := blk_new (w.alloc (.cells #[.int .u64 d, .int .u64 s, .int .i64 t, .slice ad ds.length dcap] 25)) (.cells #[.int .i64 op, .int .u64 m1, .int .u32 i1, .int .u64 m2, .int .u32 i2] 28)
  simp only [World.size_alloc] at nb1
  have nz1 : w.heap.size + 1 < ((w.alloc (.cells #[.int .u64 d, .int .u64 s, .int .i64 t, .slice ad ds.length dcap] 25)).alloc (.cells #[.int .i64 op, .int .u64 m1, .int .u32 i1, .int .u64 m2, .int .u32 i2] 28)).heap.size := by simp only [World.size_alloc]; omega
  have q_1 := q_0.trans (b.mono q_0.size)
  clear q_0
  clear b
  have K_1 := Lib.hid nb0
  have Kz_1 := nz0
  clear nb0 nz0
  have Kc0_1 := blk_cell K_1.out 0
  have Kc1_1 := blk_cell K_1.out 1
  have Kc2_1 := blk_cell K_1.out 2
  have Kc3_1 := blk_cell K_1.out 3
  have J_1 := Lib.hid nb1
  have Jz_1 := nz1
  clear nb1 nz1
  have Jc0_1 := blk_cell J_1.out 0
  have Jc1_1 := blk_cell J_1.out 1
  have Jc2_1 := blk_cell J_1.out 2
  have Jc3_1 := blk_cell J_1.out 3
  have Jc4_1 := blk_cell J_1.out 4
  generalize ((w.alloc (.cells #[.int .u64 d, .int .u64 s, .int .i64 t, .slice ad ds.length dcap] 25)).alloc (.cells #[.int .i64 op, .int .u64 m1, .int .u32 i1, .int .u64 m2, .int .u32 i2] 28)) = V1 at q_1 K_1 Kz_1 Kc0_1 Kc1_1 Kc2_1 Kc3_1 J_1 Jz_1 Jc0_1 Jc1_1 Jc2_1 Jc3_1 Jc4_1 ⊢
  refine (alive_any _).mono ?_
  rintro e V2 ⟨rfl, b⟩
  have K_2 := Lib.hid ((b.block _ Kz_1).trans K_1.out)
  have Kz_2 := Nat.lt_of_lt_of_le Kz_1 b.size
  have Kc0_2 := blk_cell K_2.out 0
  have Kc1_2 := blk_cell K_2.out 1
  have Kc2_2 := blk_cell K_2.out 2
  have Kc3_2 := blk_cell K_2.out 3
  have J_2 := Lib.hid ((b.block _ Jz_1).trans J_1.out)
  have Jz_2 := Nat.lt_of_lt_of_le Jz_1 b.size
  have Jc0_2 := blk_cell J_2.out 0
  have Jc1_2 := blk_cell J_2.out 1
  have Jc2_2 := blk_cell J_2.out 2
  have Jc3_2 := blk_cell J_2.out 3
  have Jc4_2 := blk_cell J_2.out 4
  have q_2 := q_1.trans (b.mono q_1.size)
  clear K_1 Kz_1 Kc0_1 Kc1_1 Kc2_1 Kc3_1 J_1 Jz_1 Jc0_1 Jc1_1 Jc2_1 Jc3_1 Jc4_1 q_1
  clear b
  go_wp2_with fail
  refine (HB.out ad dcap _ (D0.out.below q_2)).mono ?_
  rintro e V3 ⟨pa, pc, rfl, P, b⟩
  have K_3 := Lib.hid ((b.block _ Kz_2).trans K_2.out)
  have Kz_3 := Nat.lt_of_lt_of_le Kz_2 b.size
  have Kc0_3 := blk_cell K_3.out 0
  have Kc1_3 := blk_cell K_3.out 1
  have Kc2_3 := blk_cell K_3.out 2
  have Kc3_3 := blk_cell K_3.out 3
  have J_3 := Lib.hid ((b.block _ Jz_2).trans J_2.out)
  have Jz_3 := Nat.lt_of_lt_of_le Jz_2 b.size
  have Jc0_3 := blk_cell J_3.out 0
  have Jc1_3 := blk_cell J_3.out 1
  have Jc2_3 := blk_cell J_3.out 2
  have Jc3_3 := blk_cell J_3.out 3
  have Jc4_3 := blk_cell J_3.out 4
  have q_3 := q_2.trans (b.mono q_2.size)
  clear K_2 Kz_2 Kc0_2 Kc1_2 Kc2_2 Kc3_2 J_2 Jz_2 Jc0_2 Jc1_2 Jc2_2 Jc3_2 Jc4_2 q_2
  have P_3 := Lib.hid (P)
  clear b
  clear P
  go_wp2_with fail
  refine (num_any _ _).mono ?_
  rintro e w' ⟨rfl, rfl⟩
  go_upto_if 27 with (fail)
  go_cut [9, 10] (fun (_ _ : Value) wx => CutAB d s t ad ds dcap op m1 i1 m2 i2 w wx)
  case first =>
    rcases HER.out with ⟨hE, hp⟩ | hE
    · subst hE
      have HP := Lib.hid hp
      have pc1 := P_3.out.capLe
      clear hp
      go_wp2_with fail
      refine (HP.out pa pc _ P_3.out.bts pc1.1 pc1.2).mono ?_
      rintro e V4 ⟨ya, yc, rfl, Y, b⟩
      have K_4 := Lib.hid ((b.block _ Kz_3).trans K_3.out)
      have Kz_4 := Nat.lt_of_lt_of_le Kz_3 b.size
      have Kc0_4 := blk_cell K_4.out 0
      have Kc1_4 := blk_cell K_4.out 1
      have Kc2_4 := blk_cell K_4.out 2
      have Kc3_4 := blk_cell K_4.out 3
      have J_4 := Lib.hid ((b.block _ Jz_3).trans J_3.out)
      have Jz_4 := Nat.lt_of_lt_of_le Jz_3 b.size
      have Jc0_4 := blk_cell J_4.out 0
      have Jc1_4 := blk_cell J_4.out 1
      have Jc2_4 := blk_cell J_4.out 2
      have Jc3_4 := blk_cell J_4.out 3
      have Jc4_4 := blk_cell J_4.out 4
      have P_4 := Lib.hid (P_3.out.below b)
      have q_4 := q_3.trans (b.mono q_3.size)
      clear K_3 Kz_3 Kc0_3 Kc1_3 Kc2_3 Kc3_3 J_3 Jz_3 Jc0_3 Jc1_3 Jc2_3 Jc3_3 Jc4_3 P_3 q_3
      have Y_4 := Lib.hid (Y)
      clear b
      clear Y
      go_wp2_with fail
      have b : Below V4.heap.size V4 (V4.alloc (.cells #[.int .u64 d, .int .u64 s, .int .i64 t, .slice ya ds.length yc] 25)) := ((Below.refl _ V4).alloc (Nat.le_refl _) (.cells #[.int .u64 d, .int .u64 s, .int .i64 t, .slice ya ds.length yc] 25))
      have nb0 := blk_new V4 (.cells #[.int .u64 d, .int .u64 s, .int .i64 t, .slice ya ds.length yc] 25)
      have nz0 : V4.heap.size < (V4.alloc (.cells #[.int .u64 d, .int .u64 s, .int .i64 t, .slice ya ds.length yc] 25)).heap.size := by simp only [World.size_alloc]; omega
      have K_5 := Lib.hid ((b.block _ Kz_4).trans K_4.out)
      have Kz_5 := Nat.lt_of_lt_of_le Kz_4 b.size
      have Kc0_5 := blk_cell K_5.out 0
      have Kc1_5 := blk_cell K_5.out 1
      have Kc2_5 := blk_cell K_5.out 2
      have Kc3_5 := blk_cell K_5.out 3
      have J_5 := Lib.hid ((b.block _ Jz_4).trans J_4.out)
      have Jz_5 := Nat.lt_of_lt_of_le Jz_4 b.size
      have Jc0_5 := blk_cell J_5.out 0
      have Jc1_5 := blk_cell J_5.out 1
      have Jc2_5 := blk_cell J_5.out 2
      have Jc3_5 := blk_cell J_5.out 3
      have Jc4_5 := blk_cell J_5.out 4
      have P_5 := Lib.hid (P_4.out.below b)
      have Y_5 := Lib.hid (Y_4.out.below b)
      have q_5 := q_4.trans (b.mono q_4.size)
      clear K_4 Kz_4 Kc0_4 Kc1_4 Kc2_4 Kc3_4 J_4 Jz_4 Jc0_4 Jc1_4 Jc2_4 Jc3_4 Jc4_4 P_4 Y_4 q_4
      clear b
      have L_5 := Lib.hid nb0
      have Lz_5 := nz0
      clear nb0 nz0
      have Lc0_5 := blk_cell L_5.out 0
      have Lc1_5 := blk_cell L_5.out 1
      have Lc2_5 := blk_cell L_5.out 2
      have Lc3_5 := blk_cell L_5.out 3
      generalize (V4.alloc (.cells #[.int .u64 d, .int .u64 s, .int .i64 t, .slice ya ds.length yc] 25)) = V5 at q_5 K_5 Kz_5 Kc0_5 Kc1_5 Kc2_5 Kc3_5 J_5 Jz_5 Jc0_5 Jc1_5 Jc2_5 Jc3_5 Jc4_5 P_5 Y_5 L_5 Lz_5 Lc0_5 Lc1_5 Lc2_5 Lc3_5 ⊢
      refine (num_any _ _).mono ?_
      rintro e w' ⟨rfl, rfl⟩
      go_wp2_with fail
      refine (sameEther_one d s t ya ad ds yc dcap _ Y_5.out.bts (D0.out.below q_5) hl1).mono ?_
      rintro e V6 ⟨rfl, b⟩
      have K_6 := Lib.hid ((b.block _ Kz_5).trans K_5.out)
      have Kz_6 := Nat.lt_of_lt_of_le Kz_5 b.size
      have Kc0_6 := blk_cell K_6.out 0
      have Kc1_6 := blk_cell K_6.out 1
      have Kc2_6 := blk_cell K_6.out 2
      have Kc3_6 := blk_cell K_6.out 3
      have J_6 := Lib.hid ((b.block _ Jz_5).trans J_5.out)
      have Jz_6 := Nat.lt_of_lt_of_le Jz_5 b.size
      have Jc0_6 := blk_cell J_6.out 0
      have Jc1_6 := blk_cell J_6.out 1
      have Jc2_6 := blk_cell J_6.out 2
      have Jc3_6 := blk_cell J_6.out 3
      have Jc4_6 := blk_cell J_6.out 4
      have P_6 := Lib.hid (P_5.out.below b)
      have Y_6 := Lib.hid (Y_5.out.below b)
      have L_6 := Lib.hid ((b.block _ Lz_5).trans L_5.out)
      have Lz_6 := Nat.lt_of_lt_of_le Lz_5 b.size
      have Lc0_6 := blk_cell L_6.out 0
      have Lc1_6 := blk_cell L_6.out 1
      have Lc2_6 := blk_cell L_6.out 2
      have Lc3_6 := blk_cell L_6.out 3
      have q_6 := q_5.trans (b.mono q_5.size)
      clear K_5 Kz_5 Kc0_5 Kc1_5 Kc2_5 Kc3_5 J_5 Jz_5 Jc0_5 Jc1_5 Jc2_5 Jc3_5 Jc4_5 P_5 Y_5 L_5 Lz_5 Lc0_5 Lc1_5 Lc2_5 Lc3_5 q_5
      clear b
      go_wp2_with fail
      go_meet
      exact ⟨K_6.out, J_6.out, q_6⟩
    · have e1 : (E == 0) = false := by rw [beq_eq_false_iff_ne]; exact hE
      clear hE
      go_wp2_with fail
      go_meet
      exact ⟨K_3.out, J_3.out, q_3⟩
  case rest =>
    obtain ⟨HK, HJ, HQ⟩ := hcut
    have q_4 := HQ
    have K_4 := Lib.hid HK
    have Kz_4 := (Array.getElem?_eq_some_iff.1 HK).1
    have J_4 := Lib.hid HJ
    have Jz_4 := (Array.getElem?_eq_some_iff.1 HJ).1
    clear HK HJ HQ
    have Kc0_4 := blk_cell K_4.out 0
    have Kc1_4 := blk_cell K_4.out 1
    have Kc2_4 := blk_cell K_4.out 2
    have Kc3_4 := blk_cell K_4.out 3
    have Jc0_4 := blk_cell J_4.out 0
    have Jc1_4 := blk_cell J_4.out 1
    have Jc2_4 := blk_cell J_4.out 2
    have Jc3_4 := blk_cell J_4.out 3
    have Jc4_4 := blk_cell J_4.out 4
    go_wp2_with fail
    refine (HS.out _).mono ?_
    rintro e V7 ⟨sa, sc, rfl, P, b⟩
    have K_5 := Lib.hid ((b.block _ Kz_4).trans K_4.out)
    have Kz_5 := Nat.lt_of_lt_of_le Kz_4 b.size
    have Kc0_5 := blk_cell K_5.out 0
    have Kc1_5 := blk_cell K_5.out 1
    have Kc2_5 := blk_cell K_5.out 2
    have Kc3_5 := blk_cell K_5.out 3
    have J_5 := Lib.hid ((b.block _ Jz_4).trans J_4.out)
    have Jz_5 := Nat.lt_of_lt_of_le Jz_4 b.size
    have Jc0_5 := blk_cell J_5.out 0
    have Jc1_5 := blk_cell J_5.out 1
    have Jc2_5 := blk_cell J_5.out 2
    have Jc3_5 := blk_cell J_5.out 3
    have Jc4_5 := blk_cell J_5.out 4
    have q_5 := q_4.trans (b.mono q_4.size)
    clear K_4 Kz_4 Kc0_4 Kc1_4 Kc2_4 Kc3_4 J_4 Jz_4 Jc0_4 Jc1_4 Jc2_4 Jc3_4 Jc4_4 q_4
    have S_5 := Lib.hid (P)
    clear b
    clear P
    go_wp2_with fail
    refine (num_any _ _).mono ?_
    rintro e w' ⟨rfl, rfl⟩
    go_upto_if 49 with (fail)
    go_cut [12, 13] (fun (_ _ : Value) wx => CutAB d s t ad ds dcap op m1 i1 m2 i2 w wx)
    case first =>
      rcases HFS.out with ⟨hE, hp⟩ | hE
      · subst hE
        have HP := Lib.hid hp
        have sc1 := S_5.out.capLe
        clear hp
        go_wp2_with fail
        refine (HP.out sa sc _ S_5.out.bts sc1.1 sc1.2).mono ?_
        rintro e V8 ⟨rfl, b⟩
        have K_6 := Lib.hid ((b.block _ Kz_5).trans K_5.out)
        have Kz_6 := Nat.lt_of_lt_of_le Kz_5 b.size
        have Kc0_6 := blk_cell K_6.out 0
        have Kc1_6 := blk_cell K_6.out 1
        have Kc2_6 := blk_cell K_6.out 2
        have Kc3_6 := blk_cell K_6.out 3
        have J_6 := Lib.hid ((b.block _ Jz_5).trans J_5.out)
        have Jz_6 := Nat.lt_of_lt_of_le Jz_5 b.size
        have Jc0_6 := blk_cell J_6.out 0
        have Jc1_6 := blk_cell J_6.out 1
        have Jc2_6 := blk_cell J_6.out 2
        have Jc3_6 := blk_cell J_6.out 3
        have Jc4_6 := blk_cell J_6.out 4
        have S_6 := Lib.hid (S_5.out.below b)
        have q_6 := q_5.trans (b.mono q_5.size)
        clear K_5 Kz_5 Kc0_5 Kc1_5 Kc2_5 Kc3_5 J_5 Jz_5 Jc0_5 Jc1_5 Jc2_5 Jc3_5 Jc4_5 S_5 q_5
        clear b
        go_wp2_with fail
        have b : Below V8.heap.size V8 (V8.alloc (.cells #[.int .i64 op, .int .u64 m1, .int .u32 i1, .int .u64 m2, .int .u32 i2] 28)) := ((Below.refl _ V8).alloc (Nat.le_refl _) (.cells #[.int .i64 op, .int .u64 m1, .int .u32 i1, .int .u64 m2, .int .u32 i2] 28))
        have nb0 := blk_new V8 (.cells #[.int .i64 op, .int .u64 m1, .int .u32 i1, .int .u64 m2, .int .u32 i2] 28)
        have nz0 : V8.heap.size < (V8.alloc (.cells #[.int .i64 op, .int .u64 m1, .int .u32 i1, .int .u64 m2, .int .u32 i2] 28)).heap.size := by simp only [World.size_alloc]; omega
        have K_7 := Lib.hid ((b.block _ Kz_6).trans K_6.out)
        have Kz_7 := Nat.lt_of_lt_of_le Kz_6 b.size
        have Kc0_7 := blk_cell K_7.out 0
        have Kc1_7 := blk_cell K_7.out 1
        have Kc2_7 := blk_cell K_7.out 2
        have Kc3_7 := blk_cell K_7.out 3
        have J_7 := Lib.hid ((b.block _ Jz_6).trans J_6.out)
        have Jz_7 := Nat.lt_of_lt_of_le Jz_6 b.size
        have Jc0_7 := blk_cell J_7.out 0
        have Jc1_7 := blk_cell J_7.out 1
        have Jc2_7 := blk_cell J_7.out 2
        have Jc3_7 := blk_cell J_7.out 3
        have Jc4_7 := blk_cell J_7.out 4
        have S_7 := Lib.hid (S_6.out.below b)
        have q_7 := q_6.trans (b.mono q_6.size)
        clear K_6 Kz_6 Kc0_6 Kc1_6 Kc2_6 Kc3_6 J_6 Jz_6 Jc0_6 Jc1_6 Jc2_6 Jc3_6 Jc4_6 S_6 q_6
        clear b
        have M_7 := Lib.hid nb0
        have Mz_7 := nz0
        clear nb0 nz0
        have Mc0_7 := blk_cell M_7.out 0
        have Mc1_7 := blk_cell M_7.out 1
        have Mc2_7 := blk_cell M_7.out 2
        have Mc3_7 := blk_cell M_7.out 3
        have Mc4_7 := blk_cell M_7.out 4
        generalize (V8.alloc (.cells #[.int .i64 op, .int .u64 m1, .int .u32 i1, .int .u64 m2, .int .u32 i2] 28)) = V9 at q_7 K_7 Kz_7 Kc0_7 Kc1_7 Kc2_7 Kc3_7 J_7 Jz_7 Jc0_7 Jc1_7 Jc2_7 Jc3_7 Jc4_7 S_7 M_7 Mz_7 Mc0_7 Mc1_7 Mc2_7 Mc3_7 Mc4_7 ⊢
        refine (num_any _ _).mono ?_
        rintro e w' ⟨rfl, rfl⟩
        go_wp2_with fail
        go_meet
        exact ⟨K_7.out, J_7.out, q_7⟩
      · have e1 : (F == 0) = false := by rw [beq_eq_false_iff_ne]; exact hE
        clear hE
        go_wp2_with fail
        go_meet
        exact ⟨K_5.out, J_5.out, q_5⟩
    case rest =>
      obtain ⟨HK, HJ, HQ⟩ := hcut
      have q_6 := HQ
      have K_6 := Lib.hid HK
      have Kz_6 := (Array.getElem?_eq_some_iff.1 HK).1
      have J_6 := Lib.hid HJ
      have Jz_6 := (Array.getElem?_eq_some_iff.1 HJ).1
      clear HK HJ HQ
      have Kc0_6 := blk_cell K_6.out 0
      have Kc1_6 := blk_cell K_6.out 1
      have Kc2_6 := blk_cell K_6.out 2
      have Kc3_6 := blk_cell K_6.out 3
      have Jc0_6 := blk_cell J_6.out 0
      have Jc1_6 := blk_cell J_6.out 1
      have Jc2_6 := blk_cell J_6.out 2
      have Jc3_6 := blk_cell J_6.out 3
      have Jc4_6 := blk_cell J_6.out 4
      go_wp2_with fail
      refine (HPb.out ab bcap _ (B0.out.below q_6) HL.out.1 HL.out.2).mono ?_
      rintro e V10 ⟨ya, yc, rfl, Y, b⟩
      have K_7 := Lib.hid ((b.block _ Kz_6).trans K_6.out)
      have Kz_7 := Nat.lt_of_lt_of_le Kz_6 b.size
      have Kc0_7 := blk_cell K_7.out 0
      have Kc1_7 := blk_cell K_7.out 1
      have Kc2_7 := blk_cell K_7.out 2
      have Kc3_7 := blk_cell K_7.out 3
      have J_7 := Lib.hid ((b.block _ Jz_6).trans J_6.out)
      have Jz_7 := Nat.lt_of_lt_of_le Jz_6 b.size
      have Jc0_7 := blk_cell J_7.out 0
      have Jc1_7 := blk_cell J_7.out 1
      have Jc2_7 := blk_cell J_7.out 2
      have Jc3_7 := blk_cell J_7.out 3
      have Jc4_7 := blk_cell J_7.out 4
      have q_7 := q_6.trans (b.mono q_6.size)
      clear K_6 Kz_6 Kc0_6 Kc1_6 Kc2_6 Kc3_6 J_6 Jz_6 Jc0_6 Jc1_6 Jc2_6 Jc3_6 Jc4_6 q_6
      have Y_7 := Lib.hid (Y)
      clear b
      clear Y
      go_wp2_with fail
      have b : Below V10.heap.size V10 (V10.alloc (.cells #[.int .u64 bD, .int .u64 bS, .int .i64 bT, .slice ya bd.length yc] 25)) := ((Below.refl _ V10).alloc (Nat.le_refl _) (.cells #[.int .u64 bD, .int .u64 bS, .int .i64 bT, .slice ya bd.length yc] 25))
      have nb0 := blk_new V10 (.cells #[.int .u64 bD, .int .u64 bS, .int .i64 bT, .slice ya bd.length yc] 25)
      have nz0 : V10.heap.size < (V10.alloc (.cells #[.int .u64 bD, .int .u64 bS, .int .i64 bT, .slice ya bd.length yc] 25)).heap.size := by simp only [World.size_alloc]; omega
      have K_8 := Lib.hid ((b.block _ Kz_7).trans K_7.out)
      have Kz_8 := Nat.lt_of_lt_of_le Kz_7 b.size
      have Kc0_8 := blk_cell K_8.out 0
      have Kc1_8 := blk_cell K_8.out 1
      have Kc2_8 := blk_cell K_8.out 2
      have Kc3_8 := blk_cell K_8.out 3
      have J_8 := Lib.hid ((b.block _ Jz_7).trans J_7.out)
      have Jz_8 := Nat.lt_of_lt_of_le Jz_7 b.size
      have Jc0_8 := blk_cell J_8.out 0
      have Jc1_8 := blk_cell J_8.out 1
      have Jc2_8 := blk_cell J_8.out 2
      have Jc3_8 := blk_cell J_8.out 3
      have Jc4_8 := blk_cell J_8.out 4
      have Y_8 := Lib.hid (Y_7.out.below b)
      have q_8 := q_7.trans (b.mono q_7.size)
      clear K_7 Kz_7 Kc0_7 Kc1_7 Kc2_7 Kc3_7 J_7 Jz_7 Jc0_7 Jc1_7 Jc2_7 Jc3_7 Jc4_7 Y_7 q_7
      clear b
      have L_8 := Lib.hid nb0
      have Lz_8 := nz0
      clear nb0 nz0
      have Lc0_8 := blk_cell L_8.out 0
      have Lc1_8 := blk_cell L_8.out 1
      have Lc2_8 := blk_cell L_8.out 2
      have Lc3_8 := blk_cell L_8.out 3
      generalize (V10.alloc (.cells #[.int .u64 bD, .int .u64 bS, .int .i64 bT, .slice ya bd.length yc] 25)) = V11 at q_8 K_8 Kz_8 Kc0_8 Kc1_8 Kc2_8 Kc3_8 J_8 Jz_8 Jc0_8 Jc1_8 Jc2_8 Jc3_8 Jc4_8 Y_8 L_8 Lz_8 Lc0_8 Lc1_8 Lc2_8 Lc3_8 ⊢
      refine (num_any _ _).mono ?_
      rintro e w' ⟨rfl, rfl⟩
      go_upto_if 70 with (fail)
      go_cut [7, 8] (fun (_ _ : Value) wx => CutAB d s t ad ds dcap op m1 i1 m2 i2 w wx)
      case first =>
        rcases HPE.out with ⟨hE, hp⟩ | hE
        · subst hE
          have HP := Lib.hid hp
          clear hp
          go_wp2_with fail
          refine (HP.out ya yc _ Y_8.out.bts).mono ?_
          rintro e V12 ⟨ra, rc, rfl, P, b⟩
          have K_9 := Lib.hid ((b.block _ Kz_8).trans K_8.out)
          have Kz_9 := Nat.lt_of_lt_of_le Kz_8 b.size
          have Kc0_9 := blk_cell K_9.out 0
          have Kc1_9 := blk_cell K_9.out 1
          have Kc2_9 := blk_cell K_9.out 2
          have Kc3_9 := blk_cell K_9.out 3
          have J_9 := Lib.hid ((b.block _ Jz_8).trans J_8.out)
          have Jz_9 := Nat.lt_of_lt_of_le Jz_8 b.size
          have Jc0_9 := blk_cell J_9.out 0
          have Jc1_9 := blk_cell J_9.out 1
          have Jc2_9 := blk_cell J_9.out 2
          have Jc3_9 := blk_cell J_9.out 3
          have Jc4_9 := blk_cell J_9.out 4
          have Y_9 := Lib.hid (Y_8.out.below b)
          have L_9 := Lib.hid ((b.block _ Lz_8).trans L_8.out)
          have Lz_9 := Nat.lt_of_lt_of_le Lz_8 b.size
          have Lc0_9 := blk_cell L_9.out 0
          have Lc1_9 := blk_cell L_9.out 1
          have Lc2_9 := blk_cell L_9.out 2
          have Lc3_9 := blk_cell L_9.out 3
          have q_9 := q_8.trans (b.mono q_8.size)
          clear K_8 Kz_8 Kc0_8 Kc1_8 Kc2_8 Kc3_8 J_8 Jz_8 Jc0_8 Jc1_8 Jc2_8 Jc3_8 Jc4_8 Y_8 L_8 Lz_8 Lc0_8 Lc1_8 Lc2_8 Lc3_8 q_8
          have R2_9 := Lib.hid (P)
          clear b
          clear P
          go_wp2_with fail
          refine (num_any _ _).mono ?_
          rintro e w' ⟨rfl, rfl⟩
          go_wp2_with fail
          refine (same_one ra ab bs bs rc bcap _ R2_9.out.bts (B0.out.below q_9) hl2 hl2 rfl).mono ?_
          rintro e V13 ⟨rfl, b⟩
          have K_10 := Lib.hid ((b.block _ Kz_9).trans K_9.out)
          have Kz_10 := Nat.lt_of_lt_of_le Kz_9 b.size
          have Kc0_10 := blk_cell K_10.out 0
          have Kc1_10 := blk_cell K_10.out 1
          have Kc2_10 := blk_cell K_10.out 2
          have Kc3_10 := blk_cell K_10.out 3
          have J_10 := Lib.hid ((b.block _ Jz_9).trans J_9.out)
          have Jz_10 := Nat.lt_of_lt_of_le Jz_9 b.size
          have Jc0_10 := blk_cell J_10.out 0
          have Jc1_10 := blk_cell J_10.out 1
          have Jc2_10 := blk_cell J_10.out 2
          have Jc3_10 := blk_cell J_10.out 3
          have Jc4_10 := blk_cell J_10.out 4
          have Y_10 := Lib.hid (Y_9.out.below b)
          have L_10 := Lib.hid ((b.block _ Lz_9).trans L_9.out)
          have Lz_10 := Nat.lt_of_lt_of_le Lz_9 b.size
          have Lc0_10 := blk_cell L_10.out 0
          have Lc1_10 := blk_cell L_10.out 1
          have Lc2_10 := blk_cell L_10.out 2
          have Lc3_10 := blk_cell L_10.out 3
          have R2_10 := Lib.hid (R2_9.out.below b)
          have q_10 := q_9.trans (b.mono q_9.size)
          clear K_9 Kz_9 Kc0_9 Kc1_9 Kc2_9 Kc3_9 J_9 Jz_9 Jc0_9 Jc1_9 Jc2_9 Jc3_9 Jc4_9 Y_9 L_9 Lz_9 Lc0_9 Lc1_9 Lc2_9 Lc3_9 R2_9 q_9
          clear b
          go_wp2_with fail
          go_meet
          exact ⟨K_10.out, J_10.out, q_10⟩
        · have e1 : (G == 0) = false := by rw [beq_eq_false_iff_ne]; exact hE
          clear hE
          go_wp2_with fail
          go_meet
          exact ⟨K_8.out, J_8.out, q_8⟩
      case rest =>
        obtain ⟨HK, HJ, HQ⟩ := hcut
        have q_9 := HQ
        have K_9 := Lib.hid HK
        have Kz_9 := (Array.getElem?_eq_some_iff.1 HK).1
        have J_9 := Lib.hid HJ
        have Jz_9 := (Array.getElem?_eq_some_iff.1 HJ).1
        clear HK HJ HQ
        have Kc0_9 := blk_cell K_9.out 0
        have Kc1_9 := blk_cell K_9.out 1
        have Kc2_9 := blk_cell K_9.out 2
        have Kc3_9 := blk_cell K_9.out 3
        have Jc0_9 := blk_cell J_9.out 0
        have Jc1_9 := blk_cell J_9.out 1
        have Jc2_9 := blk_cell J_9.out 2
        have Jc3_9 := blk_cell J_9.out 3
        have Jc4_9 := blk_cell J_9.out 4
        go_wp2_with fail
        refine (HAb.out ab bcap _ (B0.out.below q_9) HL.out.1 HL.out.2).mono ?_
        rintro e V14 ⟨rfl, b⟩
        have K_10 := Lib.hid ((b.block _ Kz_9).trans K_9.out)
        have Kz_10 := Nat.lt_of_lt_of_le Kz_9 b.size
        have Kc0_10 := blk_cell K_10.out 0
        have Kc1_10 := blk_cell K_10.out 1
        have Kc2_10 := blk_cell K_10.out 2
        have Kc3_10 := blk_cell K_10.out 3
        have J_10 := Lib.hid ((b.block _ Jz_9).trans J_9.out)
        have Jz_10 := Nat.lt_of_lt_of_le Jz_9 b.size
        have Jc0_10 := blk_cell J_10.out 0
        have Jc1_10 := blk_cell J_10.out 1
        have Jc2_10 := blk_cell J_10.out 2
        have Jc3_10 := blk_cell J_10.out 3
        have Jc4_10 := blk_cell J_10.out 4
        have q_10 := q_9.trans (b.mono q_9.size)
        clear K_9 Kz_9 Kc0_9 Kc1_9 Kc2_9 Kc3_9 J_9 Jz_9 Jc0_9 Jc1_9 Jc2_9 Jc3_9 Jc4_9 q_9
        clear b
        go_wp2_with fail
        have b : Below V14.heap.size V14 (V14.alloc (.cells #[.int .i64 zo, .int .u64 z1, .int .u32 z2, .int .u64 z3, .int .u32 z4] 28)) := ((Below.refl _ V14).alloc (Nat.le_refl _) (.cells #[.int .i64 zo, .int .u64 z1, .int .u32 z2, .int .u64 z3, .int .u32 z4] 28))
        have nb0 := blk_new V14 (.cells #[.int .i64 zo, .int .u64 z1, .int .u32 z2, .int .u64 z3, .int .u32 z4] 28)
        have nz0 : V14.heap.size < (V14.alloc (.cells #[.int .i64 zo, .int .u64 z1, .int .u32 z2, .int .u64 z3, .int .u32 z4] 28)).heap.size := by simp only [World.size_alloc]; omega
        have K_11 := Lib.hid ((b.block _ Kz_10).trans K_10.out)
        have Kz_11 := Nat.lt_of_lt_of_le Kz_10 b.size
        have Kc0_11 := blk_cell K_11.out 0
        have Kc1_11 := blk_cell K_11.out 1
        have Kc2_11 := blk_cell K_11.out 2
        have Kc3_11 := blk_cell K_11.out 3
        have J_11 := Lib.hid ((b.block _ Jz_10).trans J_10.out)
        have Jz_11 := Nat.lt_of_lt_of_le Jz_10 b.size
        have Jc0_11 := blk_cell J_11.out 0
        have Jc1_11 := blk_cell J_11.out 1
        have Jc2_11 := blk_cell J_11.out 2
        have Jc3_11 := blk_cell J_11.out 3
        have Jc4_11 := blk_cell J_11.out 4
        have q_11 := q_10.trans (b.mono q_10.size)
        clear K_10 Kz_10 Kc0_10 Kc1_10 Kc2_10 Kc3_10 J_10 Jz_10 Jc0_10 Jc1_10 Jc2_10 Jc3_10 Jc4_10 q_10
        clear b
        have M_11 := Lib.hid nb0
        have Mz_11 := nz0
        clear nb0 nz0
        have Mc0_11 := blk_cell M_11.out 0
        have Mc1_11 := blk_cell M_11.out 1
        have Mc2_11 := blk_cell M_11.out 2
        have Mc3_11 := blk_cell M_11.out 3
        have Mc4_11 := blk_cell M_11.out 4
        generalize (V14.alloc (.cells #[.int .i64 zo, .int .u64 z1, .int .u32 z2, .int .u64 z3, .int .u32 z4] 28)) = V15 at q_11 K_11 Kz_11 Kc0_11 Kc1_11 Kc2_11 Kc3_11 J_11 Jz_11 Jc0_11 Jc1_11 Jc2_11 Jc3_11 Jc4_11 M_11 Mz_11 Mc0_11 Mc1_11 Mc2_11 Mc3_11 Mc4_11 ⊢
        refine (num_any _ _).mono ?_
        rintro e w' ⟨rfl, rfl⟩
        rcases HAE.out with ⟨hE, h28, hp⟩ | ⟨hE, h0, h1, h2, h3, h4⟩
        · subst hE
          have HP := Lib.hid hp
          clear hp
          obtain ⟨b', off', rfl, _, _⟩ := B0.out.isSome (by omega)
          have hcb := HL.out.1
          have i28 : (28 : Int) ≤ (bcap : Int) := by omega
          go_wp2_with fail
          refine (HP.out _).mono ?_
          rintro e V16 ⟨ra, rc, rfl, P, b⟩
          have K_12 := Lib.hid ((b.block _ Kz_11).trans K_11.out)
          have Kz_12 := Nat.lt_of_lt_of_le Kz_11 b.size
          have Kc0_12 := blk_cell K_12.out 0
          have Kc1_12 := blk_cell K_12.out 1
          have Kc2_12 := blk_cell K_12.out 2
          have Kc3_12 := blk_cell K_12.out 3
          have J_12 := Lib.hid ((b.block _ Jz_11).trans J_11.out)
          have Jz_12 := Nat.lt_of_lt_of_le Jz_11 b.size
          have Jc0_12 := blk_cell J_12.out 0
          have Jc1_12 := blk_cell J_12.out 1
          have Jc2_12 := blk_cell J_12.out 2
          have Jc3_12 := blk_cell J_12.out 3
          have Jc4_12 := blk_cell J_12.out 4
          have M_12 := Lib.hid ((b.block _ Mz_11).trans M_11.out)
          have Mz_12 := Nat.lt_of_lt_of_le Mz_11 b.size
          have Mc0_12 := blk_cell M_12.out 0
          have Mc1_12 := blk_cell M_12.out 1
          have Mc2_12 := blk_cell M_12.out 2
          have Mc3_12 := blk_cell M_12.out 3
          have Mc4_12 := blk_cell M_12.out 4
          have q_12 := q_11.trans (b.mono q_11.size)
          clear K_11 Kz_11 Kc0_11 Kc1_11 Kc2_11 Kc3_11 J_11 Jz_11 Jc0_11 Jc1_11 Jc2_11 Jc3_11 Jc4_11 M_11 Mz_11 Mc0_11 Mc1_11 Mc2_11 Mc3_11 Mc4_11 q_11
          have R2_12 := Lib.hid (P)
          clear b
          clear P
          go_wp2_with fail
          refine (num_any _ _).mono ?_
          rintro e w' ⟨rfl, rfl⟩
          have s1 := Lib.hid (same_one ra (some ⟨b', off', none⟩) (bs.take 28) (bs.take 28) rc bcap _ R2_12.out.bts (by have h := (B0.out.below q_12).segOf 0 28 (by omega); exact h) (by rw [List.length_take]; omega) (by rw [List.length_take]; omega) rfl)
          rw [List.length_take, Nat.min_eq_left h28] at s1
          go_wp2_with fail
          refine (s1.out).mono ?_
          rintro e V17 ⟨rfl, b⟩
          have K_13 := Lib.hid ((b.block _ Kz_12).trans K_12.out)
          have Kz_13 := Nat.lt_of_lt_of_le Kz_12 b.size
          have Kc0_13 := blk_cell K_13.out 0
          have Kc1_13 := blk_cell K_13.out 1
          have Kc2_13 := blk_cell K_13.out 2
          have Kc3_13 := blk_cell K_13.out 3
          have J_13 := Lib.hid ((b.block _ Jz_12).trans J_12.out)
          have Jz_13 := Nat.lt_of_lt_of_le Jz_12 b.size
          have Jc0_13 := blk_cell J_13.out 0
          have Jc1_13 := blk_cell J_13.out 1
          have Jc2_13 := blk_cell J_13.out 2
          have Jc3_13 := blk_cell J_13.out 3
          have Jc4_13 := blk_cell J_13.out 4
          have M_13 := Lib.hid ((b.block _ Mz_12).trans M_12.out)
          have Mz_13 := Nat.lt_of_lt_of_le Mz_12 b.size
          have Mc0_13 := blk_cell M_13.out 0
          have Mc1_13 := blk_cell M_13.out 1
          have Mc2_13 := blk_cell M_13.out 2
          have Mc3_13 := blk_cell M_13.out 3
          have Mc4_13 := blk_cell M_13.out 4
          have R2_13 := Lib.hid (R2_12.out.below b)
          have q_13 := q_12.trans (b.mono q_12.size)
          clear K_12 Kz_12 Kc0_12 Kc1_12 Kc2_12 Kc3_12 J_12 Jz_12 Jc0_12 Jc1_12 Jc2_12 Jc3_12 Jc4_12 M_12 Mz_12 Mc0_12 Mc1_12 Mc2_12 Mc3_12 Mc4_12 R2_12 q_12
          clear b
          go_wp2
          go_ret
          exact ⟨rfl, q_13⟩
        · have e1 : (H == 0) = false := by rw [beq_eq_false_iff_ne]; exact hE
          have e2 : (H != 0) = true := by rw [bne_iff_ne]; exact hE
          subst h0 h1 h2 h3 h4
          clear hE
          go_wp2
          go_ret
          exact ⟨rfl, q_11⟩

theorem of_len4 {α : Type} (l : List α) (h : l.length = 4) : ∃ x0 x1 x2 x3, l = [x0, x1, x2, x3] := by
  match l, h with
  | [x0, x1, x2, x3], _ => exact ⟨x0, x1, x2, x3, rfl⟩
theorem of_len5 {α : Type} (l : List α) (h : l.length = 5) : ∃ x0 x1 x2 x3 x4, l = [x0, x1, x2, x3, x4] := by
  match l, h with
  | [x0, x1, x2, x3, x4], _ => exact ⟨x0, x1, x2, x3, x4, rfl⟩
theorem own : ownKnob Try.prog.godebug = none := by kernel_rfl
theorem laidOut : laidOutB Try.prog = true := by kernel_rfl

set_option maxRecDepth 100000 in
set_option maxHeartbeats 2000000 in
theorem lifted (os : Os) (started : os.Started) (H : Type) (enc : TypeId × Value → H) :
    ReturnsInHanded {} Try.checked os 4 .any (Rows.etherBackSpec.pre6 enc Try.prog Try.f4 Rows.etherBackRow.domain false) (Rows.etherBackSpec.post enc Try.prog Try.f4 false true false false) := by
  refine returnsInHanded_of_change_sized (C := Try.checked) own started (by kernel_rfl) Try.func4
    (ChangeSpec.witness6 (enc := enc) (C := Try.checked) false ⟨#[], #[.agg #[.int .u64 0, .int .u64 0, .int .i64 0, .slice none 0 0], .agg #[.int .i64 0, .int .u64 0, .int .u32 0, .int .u64 0, .int .u32 0], .slice none 0 0], []⟩ 8 (by kernel_rfl) (by kernel_rfl) (by kernel_rfl) (by kernel_rfl)) ?_
  intro W base args ds gs before hval0 hW hcnd hsz0 _
  have hval : ∀ (j : Nat) t v, Try.f4.params[j]? = some t → args[j]? = some v → Value.okWide Try.prog W .any base t v := hval0
  have hsz : (DataW.weightsEach Try.prog (Try.f4.params.toList ++ Rows.etherBackSpec.plain.varTypes Try.prog) (ds ++ gs)).all (· ≤ reachBytes) = true := hsz0
  have hW' := hW
  obtain ⟨p, q, hA0, hV, rfl, hfz, hnd⟩ := hW
  have hA : DataW.TrodAll enc Try.prog W 0 (fun _ => true) true Try.f4.params.toList args.toList ds p := hA0
  rw [Try.params4] at hA hval hsz
  obtain ⟨v0, vs0, d0, ds0, p0, q0, hargs, rfl, rfl, h0, r0⟩ := trodAll_cons hA
  obtain ⟨v1, vs1, d1, ds1, p1, q1, rfl, rfl, rfl, h1, r1⟩ := trodAll_cons r0
  obtain ⟨v2, vs2, d2, ds2, p2, q2, rfl, rfl, rfl, h2, r2⟩ := trodAll_cons r1
  obtain ⟨rfl, rfl, rfl⟩ := trodAll_nil r2
  obtain rfl : args = #[v0, v1, v2] := by cases args; simp_all
  obtain ⟨rfl, rfl⟩ := trodVars_none hV
  have k0 := h0
  have lt0 : ∀ x ∈ p0, x.block < W.heap.size := by obtain ⟨m, hm⟩ := k0; exact DataW.trod_lt m _ _ _ hm
  obtain ⟨vs0', ys0', m0, rfl, lv0, ly0, hd0, F0⟩ := open_agg Try.underlying25 (by kernel_rfl) (by kernel_rfl) (hval 0 25 v0 rfl rfl) h0
  obtain ⟨c0_0, c0_1, c0_2, c0_3, rfl⟩ := of_len4 _ lv0
  obtain ⟨y0_0, y0_1, y0_2, y0_3, rfl⟩ := of_len4 _ ly0
  simp only [List.map_cons, List.map_nil] at hd0
  obtain ⟨_, _, e, g, t0_0⟩ := F0 0 _ rfl
  obtain rfl := Option.some.inj e; obtain rfl := Option.some.inj g; clear e g
  obtain ⟨z0_0, e, _, w0_0⟩ := DataW.trod_int Try.underlying22 t0_0
  obtain rfl := (List.cons.inj e).1; clear e
  obtain ⟨n0_0, rfl, hn0_0⟩ := nat_of_u64 w0_0
  obtain ⟨_, _, e, g, t0_1⟩ := F0 1 _ rfl
  obtain rfl := Option.some.inj e; obtain rfl := Option.some.inj g; clear e g
  obtain ⟨z0_1, e, _, w0_1⟩ := DataW.trod_int Try.underlying22 t0_1
  obtain rfl := (List.cons.inj e).1; clear e
  obtain ⟨n0_1, rfl, hn0_1⟩ := nat_of_u64 w0_1
  obtain ⟨_, _, e, g, t0_2⟩ := F0 2 _ rfl
  obtain rfl := Option.some.inj e; obtain rfl := Option.some.inj g; clear e g
  obtain ⟨z0_2, e, _, w0_2⟩ := DataW.trod_int Try.underlying3 t0_2
  obtain rfl := (List.cons.inj e).1; clear e
  obtain ⟨lo0_2, hi0_2⟩ := bounds_i64 w0_2
  obtain ⟨_, _, e, g, t0_3⟩ := F0 3 _ rfl
  obtain rfl := Option.some.inj e; obtain rfl := Option.some.inj g; clear e g
  obtain ⟨a0_3, xs0_3, cap0_3, rfl, hbt0_3, hcap0_3, hlc0_3, hq0_3⟩ := open_bytes t0_3
  have k1 := h1
  have lt1 : ∀ x ∈ p1, x.block < W.heap.size := by obtain ⟨m, hm⟩ := k1; exact DataW.trod_lt m _ _ _ hm
  obtain ⟨vs1', ys1', m1, rfl, lv1, ly1, hd1, F1⟩ := open_agg Try.underlying28 (by kernel_rfl) (by kernel_rfl) (hval 1 28 v1 rfl rfl) h1
  obtain ⟨c1_0, c1_1, c1_2, c1_3, c1_4, rfl⟩ := of_len5 _ lv1
  obtain ⟨y1_0, y1_1, y1_2, y1_3, y1_4, rfl⟩ := of_len5 _ ly1
  simp only [List.map_cons, List.map_nil] at hd1
  obtain ⟨_, _, e, g, t1_0⟩ := F1 0 _ rfl
  obtain rfl := Option.some.inj e; obtain rfl := Option.some.inj g; clear e g
  obtain ⟨z1_0, e, _, w1_0⟩ := DataW.trod_int Try.underlying3 t1_0
  obtain rfl := (List.cons.inj e).1; clear e
  obtain ⟨lo1_0, hi1_0⟩ := bounds_i64 w1_0
  obtain ⟨_, _, e, g, t1_1⟩ := F1 1 _ rfl
  obtain rfl := Option.some.inj e; obtain rfl := Option.some.inj g; clear e g
  obtain ⟨z1_1, e, _, w1_1⟩ := DataW.trod_int Try.underlying22 t1_1
  obtain rfl := (List.cons.inj e).1; clear e
  obtain ⟨n1_1, rfl, hn1_1⟩ := nat_of_u64 w1_1
  obtain ⟨_, _, e, g, t1_2⟩ := F1 2 _ rfl
  obtain rfl := Option.some.inj e; obtain rfl := Option.some.inj g; clear e g
  obtain ⟨z1_2, e, _, w1_2⟩ := DataW.trod_int Try.underlying26 t1_2
  obtain rfl := (List.cons.inj e).1; clear e
  obtain ⟨n1_2, rfl, hn1_2⟩ := nat_of_u32 w1_2
  obtain ⟨_, _, e, g, t1_3⟩ := F1 3 _ rfl
  obtain rfl := Option.some.inj e; obtain rfl := Option.some.inj g; clear e g
  obtain ⟨z1_3, e, _, w1_3⟩ := DataW.trod_int Try.underlying22 t1_3
  obtain rfl := (List.cons.inj e).1; clear e
  obtain ⟨n1_3, rfl, hn1_3⟩ := nat_of_u64 w1_3
  obtain ⟨_, _, e, g, t1_4⟩ := F1 4 _ rfl
  obtain rfl := Option.some.inj e; obtain rfl := Option.some.inj g; clear e g
  obtain ⟨z1_4, e, _, w1_4⟩ := DataW.trod_int Try.underlying26 t1_4
  obtain rfl := (List.cons.inj e).1; clear e
  obtain ⟨n1_4, rfl, hn1_4⟩ := nat_of_u32 w1_4
  obtain ⟨a2, len2, cap2, rfl⟩ := okWide_slice Try.underlying23 (hval 2 23 v2 rfl rfl)
  have k2 := h2
  have lt2 : ∀ x ∈ p2, x.block < W.heap.size := by obtain ⟨m, hm⟩ := k2; exact DataW.trod_lt m _ _ _ hm
  have hre0_3 : xs0_3.length ≤ 140737488351232 := bytes_reach hq0_3 (sized_field hsz (j := 0) (i := 3) (t := 25) rfl (by rw [hd0]; rfl) Try.underlying25 rfl rfl)
  obtain ⟨xs2, hxl2, hbt2, hcap2, hlc2, hre2⟩ : ∃ xs : List Nat, xs.length = len2 ∧ Bts W a2 xs ∧ (a2 = none → cap2 = 0) ∧ (xs.length ≤ cap2 ∧ cap2 ≤ maxLen) ∧ xs.length ≤ 140737488351232 := by
    obtain ⟨fuel, hf⟩ := h2
    rcases open_ints Try.underlying23 Try.underlying5 (by kernel_rfl) hf with ⟨hcs, _⟩ | ⟨x, l, c, zs, hcs, _, hl, hm, hz, hd, hcell, hwz⟩
    · simp [Value.cells] at hcs
      obtain ⟨rfl, rfl, rfl⟩ := hcs
      exact ⟨[], rfl, ⟨(fun x h => by cases h), .inl rfl⟩, fun _ => rfl, ⟨Nat.le_refl _, Nat.zero_le _⟩, by simp⟩
    · simp [Value.cells] at hcs
      obtain ⟨rfl, rfl, rfl⟩ := hcs
      have hz' : zs.length = cap2 := by simpa using hz
      obtain ⟨xs, h1, h2⟩ := bts_of_ints hl hz' hcell hwz
      have hd' := (Prod.mk.inj hd).1
      have hw := sized_slice hsz (j := 2) (t := 23) (e := 5) rfl (by rw [hd']; rfl) Try.underlying23
      rw [bytes5] at hw
      simp only [lits, List.length_map, List.length_take, List.length_drop, reachBytes] at hw
      exact ⟨xs, h1, h2, (fun h => by cases h), ⟨by omega, hm⟩, by omega⟩
  clear hA0 hval0 hsz hsz0
  subst hxl2
  refine (walk n0_0 n0_1 z0_2 a0_3 xs0_3 cap0_3 z1_0 n1_1 n1_2 n1_3 n1_4 a2 xs2 cap2 W hn0_0 hn0_1 lo0_2 hi0_2 hbt0_3 hcap0_3 hlc0_3 hre0_3 lo1_0 hi1_0 hn1_1 hn1_2 hn1_3 hn1_4 hbt2 hcap2 hlc2 hre2).mono fun e W' ⟨he, bel⟩ => ?_
  subst he
  exact ⟨_, rfl, _, _, _, [], _, [], hW', trodAll_mk1 (shut_bool Try.underlying4 _), (trodAll_cons_mk (Below.trod laidOut (by kernel_rfl) (of_decide_eq_true (by kernel_rfl)) k0 bel lt0) (trodAll_cons_mk (Below.trod laidOut (by kernel_rfl) (of_decide_eq_true (by kernel_rfl)) k1 bel lt1) (trodAll_cons_mk (Below.trod laidOut (by kernel_rfl) (of_decide_eq_true (by kernel_rfl)) k2 bel lt2) trodAll_mk0))), rfl, bel.frame _, fun h => by cases h⟩

theorem over : Rows.etherBackRow.holds Try.pinned (OpenSpec.ofChange Rows.etherBackSpec) :=
  OpenClaim.holds_of_wide 4 Try.f4 rfl rfl rfl rfl rfl rfl rfl ⟨rfl, rfl, rfl, rfl, rfl⟩ rfl rfl rfl rfl rfl (by kernel_rfl) Try.func4 (by kernel_rfl)
    (of_decide_eq_true (by kernel_rfl)) (by unfold Func.isWrapper; first | (rw [if_pos (by decide +kernel)]; kernel_rfl) | (rw [if_neg (by decide +kernel)]; exact ⟨rfl, rfl⟩))
    (fun os started H enc _ => lifted os started H enc)

end Go.Proofs.Ytdiomelldhkibaa.etherBack
namespace Go.Proofs.Ytdiomelldhkibaa
/-- The statement. -/
theorem etherBack_holds : Rows.EtherBackSaid := etherBack.over
#print axioms etherBack_holds
end Go.Proofs.Ytdiomelldhkibaa
