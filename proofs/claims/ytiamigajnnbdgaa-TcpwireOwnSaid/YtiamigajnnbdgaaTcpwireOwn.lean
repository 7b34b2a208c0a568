/- For every segment: what Build and Parse answer is its holder's, and what was handed in is not kept. No condition. -/
import Derived.Test.YtiamigajnnbdgaaRows
import Derived.Test.YtiamigajnnbdgaaAlive5
import Derived.Test.YtiamigajnnbdgaaTcpBb
import Derived.Test.YtiamigajnnbdgaaGStruct
import Derived.Test.YtiamigajnnbdgaaGBlocks
import Derived.ProofKit
import Derived.OpenShut
import Derived.ShutString
import Derived.ChangeOld
import Derived.SizedLaws
import Derived.Test.YtiamigajnnbdgaaGCopyTcp
import Derived.Test.YtiamigajnnbdgaaGSpoil
import Derived.Test.YtiamigajnnbdgaaGPlain
namespace Go.Proofs.Ytiamigajnnbdgaa.tcpwireOwn
open Go.ChangeShapes Go.WideShapes Go.ChangeAt Go.RowKit Go.Proofs.Ytiamigajnnbdgaa.law5
open Go.ChangeMaps (open_string shut_string)

theorem _root_.Go.Proofs.Ytiamigajnnbdgaa.OwnBlk.btw {B C D : Nat} {a : Option Addr} {bs : List (Nat × Nat)} {cap : Nat} {w w' : World} (O : OwnBlk D w a bs cap) (hC : C ≤ D) (h : Btw B C w w') : OwnBlk D w' a bs cap := by
  refine ⟨⟨O.1.1, ?_⟩, O.2⟩
  rcases O.1.2 with h0 | ⟨b, off, ha, hb, hc⟩
  · exact .inl h0
  · right
    have hD : D ≤ b := by
      rcases O.2 with ⟨h2, _⟩ | ⟨g', h2, hg⟩
      · rw [ha] at h2; cases h2
      · rw [ha] at h2; cases h2; exact hg
    have hk : w'.heap[b]? = w.heap[b]? := h.block b hb (.inr (by omega))
    exact ⟨b, off, ha, Nat.lt_of_lt_of_le hb h.size, fun j hj => ⟨(World.cell?_of_block hk).trans (hc j hj).1, (World.cell?_of_block hk).trans (hc j hj).2⟩⟩

set_option maxRecDepth 100000 in
set_option maxHeartbeats 8000000 in
theorem walk_may (sp dp sq ak fl wn ur mss : Nat) (hs : Bool) (sc : Nat) (sk : Bool) (ba : Option Addr) (bs : List (Nat × Nat)) (bc : Nat) (ht : Bool) (tv te : Nat) (da : Option Addr) (ds : List Nat) (dc : Nat) (w : World) (hm : TcpMay mss hs sc sk bs ht tv te ds.length) (hsp : sp < 65536) (hdp : dp < 65536) (hsq : sq < 4294967296) (hak : ak < 4294967296) (hfl : fl < 256) (hwn : wn < 65536) (hur : ur < 65536) (htv : tv < 4294967296) (hte : te < 4294967296) (hx : Blk w ba bs) (hy : Bts w da ds) (hdc : da = none → dc = 0) (hbc : ba = none → bc = 0) :
    Calls Try.prog 7 #[.agg #[.int .u16 sp, .int .u16 dp, .int .u32 sq, .int .u32 ak, .int .u8 fl, .int .u16 wn, .int .u16 ur, .int .i64 mss, .bool hs, .int .i64 sc, .bool sk, .slice ba bs.length bc, .bool ht, .int .u32 tv, .int .u32 te, .slice da ds.length dc]] w fun e w' => e = .returned (.bool true) ∧ Below w.heap.size w w' := by
  obtain ⟨R, hR⟩ : ∃ R, tcpO sp dp sq ak fl wn ur mss hs sc sk bs ht tv te ds 5 6 = R := ⟨_, rfl⟩
  obtain ⟨hok, hhd, hrd, hdd, hRl, hRx, hP0⟩ := tcp_back sp dp sq ak fl wn ur mss hs sc sk bs ht tv te ds 5 6 hm hsp hdp hsq hak hfl hwn hur htv hte (by decide) (by decide) hx.1 hy.1 R hR
  have hlR : R.length ≤ 140737488355328 := by have := hok.2.1; omega
  have hbx := hx.1
  have hyx := hy.1
  have hbl : bs.length ≤ 17592186044416 := by have := hm.2.2.2.2.1; omega
  have hdl : ds.length ≤ 140737488351232 := by have := hm.2.2.2.2.2.2; omega
  have hb : ∀ a c a2 c2 W, Blk W a bs → Bts W a2 ds → (a2 = none → c2 = 0) → Calls Try.prog 11 #[.agg #[.int .u16 sp, .int .u16 dp, .int .u32 sq, .int .u32 ak, .int .u8 fl, .int .u16 wn, .int .u16 ur, .int .i64 mss, .bool hs, .int .i64 sc, .bool sk, .slice a bs.length c, .bool ht, .int .u32 tv, .int .u32 te, .slice a2 ds.length c2], .int .u32 5, .int .u32 6] W fun e w' => ∃ g cap', e = .returned (.tuple #[.slice (some ⟨g, 0, none⟩) R.length cap', .int .i64 0]) ∧ OwnSl (W.heap.size + 1) (some ⟨g, 0, none⟩) R cap' w' ∧ Below W.heap.size W w' := fun a c a2 c2 W h h' hn => by
    have h1 := tcpB_ok sp dp sq ak fl wn ur mss hs sc sk a bs c ht tv te a2 ds c2 5 6 W hm hsp hdp hsq hak hfl hwn hur htv hte (by decide) (by decide) h' hn h
    rw [hR, ← hRl] at h1
    exact h1
  have hp : ∀ a c W, Bts W a R → R.length ≤ c → Calls Try.prog 13 #[.slice a R.length c, .int .u32 5, .int .u32 6] W fun e w' => ∃ xa xc ya yc, e = .returned (.tuple #[.agg #[.int .u16 sp, .int .u16 dp, .int .u32 sq, .int .u32 ak, .int .u8 fl, .int .u16 wn, .int .u16 ur, .int .i64 mss, .bool hs, .int .i64 sc, .bool sk, .slice xa bs.length xc, .bool ht, .int .u32 tv, .int .u32 te, .slice ya ds.length yc], .int .i64 0]) ∧ OwnBlk W.heap.size w' xa bs xc ∧ OwnSl (W.heap.size + 1) ya ds yc w' ∧ Below W.heap.size W w' := fun a c W h hc =>
    tcpP_ok sp dp sq ak fl wn ur mss hs sc sk bs ht tv te ds 5 6 hm hsp hdp hsq hak hfl hwn hur htv hte (by decide) (by decide) hbx hyx R hR a c W h hc
  have hcp : ∀ W, Blk W ba bs → Bts W da ds → (ba = none → bc = 0) → (da = none → dc = 0) → Calls Try.prog 10 #[.agg #[.int .u16 sp, .int .u16 dp, .int .u32 sq, .int .u32 ak, .int .u8 fl, .int .u16 wn, .int .u16 ur, .int .i64 mss, .bool hs, .int .i64 sc, .bool sk, .slice ba bs.length bc, .bool ht, .int .u32 tv, .int .u32 te, .slice da ds.length dc]] W fun e w' => ∃ a' cap' b' dap', e = .returned (.agg #[.int .u16 sp, .int .u16 dp, .int .u32 sq, .int .u32 ak, .int .u8 fl, .int .u16 wn, .int .u16 ur, .int .i64 mss, .bool hs, .int .i64 sc, .bool sk, .slice a' bs.length cap', .bool ht, .int .u32 tv, .int .u32 te, .slice b' ds.length dap']) ∧ OwnBlk W.heap.size w' a' bs cap' ∧ OwnSl W.heap.size b' ds dap' w' ∧ Below W.heap.size W w' := fun W h1 h2 h3 h4 =>
    copyTcp_one sp dp sq ak fl wn ur mss hs sc sk ba bs bc ht tv te da ds dc W h1 h2 h3 h4 hbl (by omega)
  have hsm : ∀ a1 a2 c1 c2 b1 b2 d1 d2 W, Blk W a1 bs → Blk W a2 bs → Bts W b1 ds → Bts W b2 ds → Calls Try.prog 17 #[.agg #[.int .u16 sp, .int .u16 dp, .int .u32 sq, .int .u32 ak, .int .u8 fl, .int .u16 wn, .int .u16 ur, .int .i64 mss, .bool hs, .int .i64 sc, .bool sk, .slice a1 bs.length c1, .bool ht, .int .u32 tv, .int .u32 te, .slice b1 ds.length d1], .agg #[.int .u16 sp, .int .u16 dp, .int .u32 sq, .int .u32 ak, .int .u8 fl, .int .u16 wn, .int .u16 ur, .int .i64 mss, .bool hs, .int .i64 sc, .bool sk, .slice a2 bs.length c2, .bool ht, .int .u32 tv, .int .u32 te, .slice b2 ds.length d2]] W fun e w' => e = .returned (.bool true) ∧ Below W.heap.size W w' := fun a1 a2 c1 c2 b1 b2 d1 d2 W h1 h2 h3 h4 =>
    sameTcpV sp dp sq ak fl wn ur mss hs sc sk bs ht tv te ds a1 a2 b1 b2 c1 c2 d1 d2 W h1 h2 (by have := hm.2.2.2.2.1; omega) h3 h4 (by have := hm.2.2.2.2.2.2; omega)
  have HB := Lib.hid hb
  have HP := Lib.hid hp
  have HS := Lib.hid hsm
  have HCp := Lib.hid hcp
  clear hb hp hsm hcp hok hhd hrd hdd hRl hRx hP0 hR hm hbx hyx
  have q_0 := Below.refl w.heap.size w
  have sz_0 : w.heap.size ≤ w.heap.size := Nat.le_refl _
  have Y0 := Lib.hid hy
  have X0 := Lib.hid hx
  have HC1 := Lib.hid hbc
  have HC2 := Lib.hid hdc
  clear hx hy hbc hdc
  go_enter Try.func7, Try.ntmps7
  go_wp2_with fail
  have b : Below w.heap.size w (w.alloc (.cells #[.int .u16 sp, .int .u16 dp, .int .u32 sq, .int .u32 ak, .int .u8 fl, .int .u16 wn, .int .u16 ur, .int .i64 mss, .bool hs, .int .i64 sc, .bool sk, .slice ba bs.length bc, .bool ht, .int .u32 tv, .int .u32 te, .slice da ds.length dc] 27)) := ((Below.refl _ w).alloc (Nat.le_refl _) (.cells #[.int .u16 sp, .int .u16 dp, .int .u32 sq, .int .u32 ak, .int .u8 fl, .int .u16 wn, .int .u16 ur, .int .i64 mss, .bool hs, .int .i64 sc, .bool sk, .slice ba bs.length bc, .bool ht, .int .u32 tv, .int .u32 te, .slice da ds.length dc] 27))
  have nb0 := blk_new w (.cells #[.int .u16 sp, .int .u16 dp, .int .u32 sq, .int .u32 ak, .int .u8 fl, .int .u16 wn, .int .u16 ur, .int .i64 mss, .bool hs, .int .i64 sc, .bool sk, .slice ba bs.length bc, .bool ht, .int .u32 tv, .int .u32 te, .slice da ds.length dc] 27)
  have nz0 : w.heap.size < (w.alloc (.cells #[.int .u16 sp, .int .u16 dp, .int .u32 sq, .int .u32 ak, .int .u8 fl, .int .u16 wn, .int .u16 ur, .int .i64 mss, .bool hs, .int .i64 sc, .bool sk, .slice ba bs.length bc, .bool ht, .int .u32 tv, .int .u32 te, .slice da ds.length dc] 27)).heap.size := by simp only [World.size_alloc]; omega
  have q_1 := q_0.trans (b.mono q_0.size)
  have sz_1 := b.size
  clear q_0
  clear b
  have K_1 := Lib.hid nb0
  have Kz_1 := nz0
  clear nb0 nz0
  have Kc0_1 := blk_cell K_1.out 0
  have Kc1_1 := blk_cell K_1.out 1
  have Kc2_1 := blk_cell K_1.out 2
  have Kc3_1 := blk_cell K_1.out 3
  have Kc4_1 := blk_cell K_1.out 4
  have Kc5_1 := blk_cell K_1.out 5
  have Kc6_1 := blk_cell K_1.out 6
  have Kc7_1 := blk_cell K_1.out 7
  have Kc8_1 := blk_cell K_1.out 8
  have Kc9_1 := blk_cell K_1.out 9
  have Kc10_1 := blk_cell K_1.out 10
  have Kc11_1 := blk_cell K_1.out 11
  have Kc12_1 := blk_cell K_1.out 12
  have Kc13_1 := blk_cell K_1.out 13
  have Kc14_1 := blk_cell K_1.out 14
  have Kc15_1 := blk_cell K_1.out 15
  generalize (w.alloc (.cells #[.int .u16 sp, .int .u16 dp, .int .u32 sq, .int .u32 ak, .int .u8 fl, .int .u16 wn, .int .u16 ur, .int .i64 mss, .bool hs, .int .i64 sc, .bool sk, .slice ba bs.length bc, .bool ht, .int .u32 tv, .int .u32 te, .slice da ds.length dc] 27)) = V1 at q_1 sz_1 K_1 Kz_1 Kc0_1 Kc1_1 Kc2_1 Kc3_1 Kc4_1 Kc5_1 Kc6_1 Kc7_1 Kc8_1 Kc9_1 Kc10_1 Kc11_1 Kc12_1 Kc13_1 Kc14_1 Kc15_1 ⊢
  refine (alive_any _).mono ?_
  rintro e V2 ⟨rfl, b⟩
  have K_2 := Lib.hid ((b.block _ Kz_1).trans K_1.out)
  have Kz_2 := Nat.lt_of_lt_of_le Kz_1 b.size
  have Kc0_2 := blk_cell K_2.out 0
  have Kc1_2 := blk_cell K_2.out 1
  have Kc2_2 := blk_cell K_2.out 2
  have Kc3_2 := blk_cell K_2.out 3
  have Kc4_2 := blk_cell K_2.out 4
  have Kc5_2 := blk_cell K_2.out 5
  have Kc6_2 := blk_cell K_2.out 6
  have Kc7_2 := blk_cell K_2.out 7
  have Kc8_2 := blk_cell K_2.out 8
  have Kc9_2 := blk_cell K_2.out 9
  have Kc10_2 := blk_cell K_2.out 10
  have Kc11_2 := blk_cell K_2.out 11
  have Kc12_2 := blk_cell K_2.out 12
  have Kc13_2 := blk_cell K_2.out 13
  have Kc14_2 := blk_cell K_2.out 14
  have Kc15_2 := blk_cell K_2.out 15
  have q_2 := q_1.trans (b.mono q_1.size)
  have sz_2 := b.size
  clear K_1 Kc0_1 Kc1_1 Kc2_1 Kc3_1 Kc4_1 Kc5_1 Kc6_1 Kc7_1 Kc8_1 Kc9_1 Kc10_1 Kc11_1 Kc12_1 Kc13_1 Kc14_1 Kc15_1 q_1
  clear b
  go_wp2_with fail
  refine (HCp.out _ (X0.out.below q_2) (Y0.out.below q_2) HC1.out HC2.out).mono ?_
  rintro e V3 ⟨ia, ic, ya, yc, rfl, I, D, b⟩
  have K_3 := Lib.hid ((b.block _ Kz_2).trans K_2.out)
  have Kz_3 := Nat.lt_of_lt_of_le Kz_2 b.size
  have Kc0_3 := blk_cell K_3.out 0
  have Kc1_3 := blk_cell K_3.out 1
  have Kc2_3 := blk_cell K_3.out 2
  have Kc3_3 := blk_cell K_3.out 3
  have Kc4_3 := blk_cell K_3.out 4
  have Kc5_3 := blk_cell K_3.out 5
  have Kc6_3 := blk_cell K_3.out 6
  have Kc7_3 := blk_cell K_3.out 7
  have Kc8_3 := blk_cell K_3.out 8
  have Kc9_3 := blk_cell K_3.out 9
  have Kc10_3 := blk_cell K_3.out 10
  have Kc11_3 := blk_cell K_3.out 11
  have Kc12_3 := blk_cell K_3.out 12
  have Kc13_3 := blk_cell K_3.out 13
  have Kc14_3 := blk_cell K_3.out 14
  have Kc15_3 := blk_cell K_3.out 15
  have q_3 := q_2.trans (b.mono q_2.size)
  have sz_3 := b.size
  clear K_2 Kc0_2 Kc1_2 Kc2_2 Kc3_2 Kc4_2 Kc5_2 Kc6_2 Kc7_2 Kc8_2 Kc9_2 Kc10_2 Kc11_2 Kc12_2 Kc13_2 Kc14_2 Kc15_2 q_2
  have I_3 := Lib.hid (I)
  have D_3 := Lib.hid (D)
  clear b
  clear I D
  have dLt := Lib.hid D_3.out.blkLt
  have KN := Lib.hid (blk_new V3 (.cells #[.int .u16 0, .int .u16 0, .int .u32 0, .int .u32 0, .int .u8 0, .int .u16 0, .int .u16 0, .int .i64 0, .bool false, .int .i64 0, .bool false, .slice none 0 0, .bool false, .int .u32 0, .int .u32 0, .slice none 0 0] 27))
  have QN := Lib.hid ((Below.refl V3.heap.size V3).alloc (Nat.le_refl _) (.cells #[.int .u16 0, .int .u16 0, .int .u32 0, .int .u32 0, .int .u8 0, .int .u16 0, .int .u16 0, .int .i64 0, .bool false, .int .i64 0, .bool false, .slice none 0 0, .bool false, .int .u32 0, .int .u32 0, .slice none 0 0] 27))
  go_wp2_with ((with_reducible show wpList _ _ _ _ _ _); refine wpList_store_tcp rfl (.tmp 3) (.tmp 12) rfl V3.heap.size _ _ rfl rfl KN.out rfl rfl (by simp [Value.oneCell']) ?_; intro V4 hs2 hg2; have b := QN.out.grown hg2 QN.out.size (fun j e => by cases e; exact Nat.le_refl _); have K_4 := Lib.hid ((b.block _ Kz_3).trans K_3.out); have Kz_4 := Nat.lt_of_lt_of_le Kz_3 b.size; have Kc0_4 := blk_cell K_4.out 0; have Kc1_4 := blk_cell K_4.out 1; have Kc2_4 := blk_cell K_4.out 2; have Kc3_4 := blk_cell K_4.out 3; have Kc4_4 := blk_cell K_4.out 4; have Kc5_4 := blk_cell K_4.out 5; have Kc6_4 := blk_cell K_4.out 6; have Kc7_4 := blk_cell K_4.out 7; have Kc8_4 := blk_cell K_4.out 8; have Kc9_4 := blk_cell K_4.out 9; have Kc10_4 := blk_cell K_4.out 10; have Kc11_4 := blk_cell K_4.out 11; have Kc12_4 := blk_cell K_4.out 12; have Kc13_4 := blk_cell K_4.out 13; have Kc14_4 := blk_cell K_4.out 14; have Kc15_4 := blk_cell K_4.out 15; have I_4 := Lib.hid (I_3.out.below b); have D_4 := Lib.hid (D_3.out.below b); have q_4 := q_3.trans (b.mono q_3.size); have sz_4 := b.size; clear K_3 Kc0_3 Kc1_3 Kc2_3 Kc3_3 Kc4_3 Kc5_3 Kc6_3 Kc7_3 Kc8_3 Kc9_3 Kc10_3 Kc11_3 Kc12_3 Kc13_3 Kc14_3 Kc15_3 I_3 D_3 q_3; have L_4 := Lib.hid hs2; have Lz_4 : V3.heap.size < V4.heap.size := (Array.getElem?_eq_some_iff.1 hs2).1; have Lc0_4 := blk_cell L_4.out 0; have Lc1_4 := blk_cell L_4.out 1; have Lc2_4 := blk_cell L_4.out 2; have Lc3_4 := blk_cell L_4.out 3; have Lc4_4 := blk_cell L_4.out 4; have Lc5_4 := blk_cell L_4.out 5; have Lc6_4 := blk_cell L_4.out 6; have Lc7_4 := blk_cell L_4.out 7; have Lc8_4 := blk_cell L_4.out 8; have Lc9_4 := blk_cell L_4.out 9; have Lc10_4 := blk_cell L_4.out 10; have Lc11_4 := blk_cell L_4.out 11; have Lc12_4 := blk_cell L_4.out 12; have Lc13_4 := blk_cell L_4.out 13; have Lc14_4 := blk_cell L_4.out 14; have Lc15_4 := blk_cell L_4.out 15; clear hs2 hg2 b)
  clear KN QN
  have dNil := Lib.hid D_4.out.nilcap
  refine (HB.out ia ic ya yc _ I_4.out.1 D_4.out.bts dNil.out).mono ?_
  rintro e V5 ⟨pg, pc, rfl, P, b⟩
  have K_5 := Lib.hid ((b.block _ Kz_4).trans K_4.out)
  have Kz_5 := Nat.lt_of_lt_of_le Kz_4 b.size
  have Kc0_5 := blk_cell K_5.out 0
  have Kc1_5 := blk_cell K_5.out 1
  have Kc2_5 := blk_cell K_5.out 2
  have Kc3_5 := blk_cell K_5.out 3
  have Kc4_5 := blk_cell K_5.out 4
  have Kc5_5 := blk_cell K_5.out 5
  have Kc6_5 := blk_cell K_5.out 6
  have Kc7_5 := blk_cell K_5.out 7
  have Kc8_5 := blk_cell K_5.out 8
  have Kc9_5 := blk_cell K_5.out 9
  have Kc10_5 := blk_cell K_5.out 10
  have Kc11_5 := blk_cell K_5.out 11
  have Kc12_5 := blk_cell K_5.out 12
  have Kc13_5 := blk_cell K_5.out 13
  have Kc14_5 := blk_cell K_5.out 14
  have Kc15_5 := blk_cell K_5.out 15
  have D_5 := Lib.hid (D_4.out.below b)
  have L_5 := Lib.hid ((b.block _ Lz_4).trans L_4.out)
  have Lz_5 := Nat.lt_of_lt_of_le Lz_4 b.size
  have Lc0_5 := blk_cell L_5.out 0
  have Lc1_5 := blk_cell L_5.out 1
  have Lc2_5 := blk_cell L_5.out 2
  have Lc3_5 := blk_cell L_5.out 3
  have Lc4_5 := blk_cell L_5.out 4
  have Lc5_5 := blk_cell L_5.out 5
  have Lc6_5 := blk_cell L_5.out 6
  have Lc7_5 := blk_cell L_5.out 7
  have Lc8_5 := blk_cell L_5.out 8
  have Lc9_5 := blk_cell L_5.out 9
  have Lc10_5 := blk_cell L_5.out 10
  have Lc11_5 := blk_cell L_5.out 11
  have Lc12_5 := blk_cell L_5.out 12
  have Lc13_5 := blk_cell L_5.out 13
  have Lc14_5 := blk_cell L_5.out 14
  have Lc15_5 := blk_cell L_5.out 15
  have q_5 := q_4.trans (b.mono q_4.size)
  have sz_5 := b.size
  clear K_4 Kc0_4 Kc1_4 Kc2_4 Kc3_4 Kc4_4 Kc5_4 Kc6_4 Kc7_4 Kc8_4 Kc9_4 Kc10_4 Kc11_4 Kc12_4 Kc13_4 Kc14_4 Kc15_4 I_4 D_4 L_4 Lc0_4 Lc1_4 Lc2_4 Lc3_4 Lc4_4 Lc5_4 Lc6_4 Lc7_4 Lc8_4 Lc9_4 Lc10_4 Lc11_4 Lc12_4 Lc13_4 Lc14_4 Lc15_4 q_4
  have P_5 := Lib.hid (P)
  clear b
  clear P
  clear Lc0_5 Lc1_5 Lc2_5 Lc3_5 Lc4_5 Lc5_5 Lc6_5 Lc7_5 Lc8_5 Lc9_5 Lc10_5 Lc11_5 Lc12_5 Lc13_5 Lc14_5
  have pLt := Lib.hid P_5.out.blkLt
  have pNil := Lib.hid P_5.out.nilcap
  go_wp2_with fail
  refine (num_any _ _).mono ?_
  rintro e w' ⟨rfl, rfl⟩
  go_wp2_with fail
  refine (copy_one (some ⟨pg, 0, none⟩) R pc _ P_5.out.bts hlR pNil.out).mono ?_
  rintro e V6 ⟨ka, kc, rfl, C0, b⟩
  have K_6 := Lib.hid ((b.block _ Kz_5).trans K_5.out)
  have Kz_6 := Nat.lt_of_lt_of_le Kz_5 b.size
  have Kc0_6 := blk_cell K_6.out 0
  have Kc1_6 := blk_cell K_6.out 1
  have Kc2_6 := blk_cell K_6.out 2
  have Kc3_6 := blk_cell K_6.out 3
  have Kc4_6 := blk_cell K_6.out 4
  have Kc5_6 := blk_cell K_6.out 5
  have Kc6_6 := blk_cell K_6.out 6
  have Kc7_6 := blk_cell K_6.out 7
  have Kc8_6 := blk_cell K_6.out 8
  have Kc9_6 := blk_cell K_6.out 9
  have Kc10_6 := blk_cell K_6.out 10
  have Kc11_6 := blk_cell K_6.out 11
  have Kc12_6 := blk_cell K_6.out 12
  have Kc13_6 := blk_cell K_6.out 13
  have Kc14_6 := blk_cell K_6.out 14
  have Kc15_6 := blk_cell K_6.out 15
  have D_6 := Lib.hid (D_5.out.below b)
  have L_6 := Lib.hid ((b.block _ Lz_5).trans L_5.out)
  have Lz_6 := Nat.lt_of_lt_of_le Lz_5 b.size
  have Lc15_6 := blk_cell L_6.out 15
  have P_6 := Lib.hid (P_5.out.below b)
  have q_6 := q_5.trans (b.mono q_5.size)
  have sz_6 := b.size
  clear K_5 Kc0_5 Kc1_5 Kc2_5 Kc3_5 Kc4_5 Kc5_5 Kc6_5 Kc7_5 Kc8_5 Kc9_5 Kc10_5 Kc11_5 Kc12_5 Kc13_5 Kc14_5 Kc15_5 D_5 L_5 Lc15_5 P_5 q_5
  have C_6 := Lib.hid (C0)
  clear b
  clear C0
  go_wp2_with fail
  refine (spoil_own V2.heap.size V3.heap.size yc ya ds (by omega) _ D_6.out dLt.out).mono ?_
  rintro e V7 ⟨⟨sv, rfl⟩, bt⟩
  have b := bt.below (by omega)
  have K_7 := Lib.hid ((bt.block _ Kz_6 (by omega)).trans K_6.out)
  have Kz_7 := Nat.lt_of_lt_of_le Kz_6 b.size
  have Kc0_7 := blk_cell K_7.out 0
  have Kc1_7 := blk_cell K_7.out 1
  have Kc2_7 := blk_cell K_7.out 2
  have Kc3_7 := blk_cell K_7.out 3
  have Kc4_7 := blk_cell K_7.out 4
  have Kc5_7 := blk_cell K_7.out 5
  have Kc6_7 := blk_cell K_7.out 6
  have Kc7_7 := blk_cell K_7.out 7
  have Kc8_7 := blk_cell K_7.out 8
  have Kc9_7 := blk_cell K_7.out 9
  have Kc10_7 := blk_cell K_7.out 10
  have Kc11_7 := blk_cell K_7.out 11
  have Kc12_7 := blk_cell K_7.out 12
  have Kc13_7 := blk_cell K_7.out 13
  have Kc14_7 := blk_cell K_7.out 14
  have Kc15_7 := blk_cell K_7.out 15
  have L_7 := Lib.hid ((bt.block _ Lz_6 (by omega)).trans L_6.out)
  have Lz_7 := Nat.lt_of_lt_of_le Lz_6 b.size
  have Lc15_7 := blk_cell L_7.out 15
  have P_7 := Lib.hid (P_6.out.btw (by omega) bt)
  have C_7 := Lib.hid (C_6.out.btw (by omega) bt)
  have q_7 := q_6.trans (b.mono (by omega))
  have sz_7 := bt.size
  clear D_6 q_6 b bt K_6 Kc0_6 Kc1_6 Kc2_6 Kc3_6 Kc4_6 Kc5_6 Kc6_6 Kc7_6 Kc8_6 Kc9_6 Kc10_6 Kc11_6 Kc12_6 Kc13_6 Kc14_6 Kc15_6 L_6 Lc15_6 P_6 C_6
  have pc1 := P_7.out.capLe
  go_wp2_with fail
  refine (HP.out _ pc _ P_7.out.bts pc1.1).mono ?_
  rintro e V8 ⟨xa, xc, za, zc, rfl, U, Z, b⟩
  have K_8 := Lib.hid ((b.block _ Kz_7).trans K_7.out)
  have Kz_8 := Nat.lt_of_lt_of_le Kz_7 b.size
  have Kc0_8 := blk_cell K_8.out 0
  have Kc1_8 := blk_cell K_8.out 1
  have Kc2_8 := blk_cell K_8.out 2
  have Kc3_8 := blk_cell K_8.out 3
  have Kc4_8 := blk_cell K_8.out 4
  have Kc5_8 := blk_cell K_8.out 5
  have Kc6_8 := blk_cell K_8.out 6
  have Kc7_8 := blk_cell K_8.out 7
  have Kc8_8 := blk_cell K_8.out 8
  have Kc9_8 := blk_cell K_8.out 9
  have Kc10_8 := blk_cell K_8.out 10
  have Kc11_8 := blk_cell K_8.out 11
  have Kc12_8 := blk_cell K_8.out 12
  have Kc13_8 := blk_cell K_8.out 13
  have Kc14_8 := blk_cell K_8.out 14
  have Kc15_8 := blk_cell K_8.out 15
  have P_8 := Lib.hid (P_7.out.below b)
  have C_8 := Lib.hid (C_7.out.below b)
  have q_8 := q_7.trans (b.mono q_7.size)
  have sz_8 := b.size
  clear K_7 Kc0_7 Kc1_7 Kc2_7 Kc3_7 Kc4_7 Kc5_7 Kc6_7 Kc7_7 Kc8_7 Kc9_7 Kc10_7 Kc11_7 Kc12_7 Kc13_7 Kc14_7 Kc15_7 P_7 C_7 q_7
  have U_8 := Lib.hid (U)
  have Z_8 := Lib.hid (Z)
  clear b
  clear U Z
  have KN := Lib.hid (blk_new V8 (.cells #[.int .u16 0, .int .u16 0, .int .u32 0, .int .u32 0, .int .u8 0, .int .u16 0, .int .u16 0, .int .i64 0, .bool false, .int .i64 0, .bool false, .slice none 0 0, .bool false, .int .u32 0, .int .u32 0, .slice none 0 0] 27))
  have QN := Lib.hid ((Below.refl V8.heap.size V8).alloc (Nat.le_refl _) (.cells #[.int .u16 0, .int .u16 0, .int .u32 0, .int .u32 0, .int .u8 0, .int .u16 0, .int .u16 0, .int .i64 0, .bool false, .int .i64 0, .bool false, .slice none 0 0, .bool false, .int .u32 0, .int .u32 0, .slice none 0 0] 27))
  go_wp2_with ((with_reducible show wpList _ _ _ _ _ _); refine wpList_store_tcp rfl (.tmp 7) (.tmp 32) rfl V8.heap.size _ _ rfl rfl KN.out rfl rfl (by simp [Value.oneCell']) ?_; intro V9 hs2 hg2; have b := QN.out.grown hg2 QN.out.size (fun j e => by cases e; exact Nat.le_refl _); have K_9 := Lib.hid ((b.block _ Kz_8).trans K_8.out); have Kz_9 := Nat.lt_of_lt_of_le Kz_8 b.size; have Kc0_9 := blk_cell K_9.out 0; have Kc1_9 := blk_cell K_9.out 1; have Kc2_9 := blk_cell K_9.out 2; have Kc3_9 := blk_cell K_9.out 3; have Kc4_9 := blk_cell K_9.out 4; have Kc5_9 := blk_cell K_9.out 5; have Kc6_9 := blk_cell K_9.out 6; have Kc7_9 := blk_cell K_9.out 7; have Kc8_9 := blk_cell K_9.out 8; have Kc9_9 := blk_cell K_9.out 9; have Kc10_9 := blk_cell K_9.out 10; have Kc11_9 := blk_cell K_9.out 11; have Kc12_9 := blk_cell K_9.out 12; have Kc13_9 := blk_cell K_9.out 13; have Kc14_9 := blk_cell K_9.out 14; have Kc15_9 := blk_cell K_9.out 15; have P_9 := Lib.hid (P_8.out.below b); have C_9 := Lib.hid (C_8.out.below b); have U_9 := Lib.hid (U_8.out.below b); have Z_9 := Lib.hid (Z_8.out.below b); have q_9 := q_8.trans (b.mono q_8.size); have sz_9 := b.size; clear K_8 Kc0_8 Kc1_8 Kc2_8 Kc3_8 Kc4_8 Kc5_8 Kc6_8 Kc7_8 Kc8_8 Kc9_8 Kc10_8 Kc11_8 Kc12_8 Kc13_8 Kc14_8 Kc15_8 P_8 C_8 U_8 Z_8 q_8; have S_9 := Lib.hid hs2; have Sz_9 : V8.heap.size < V9.heap.size := (Array.getElem?_eq_some_iff.1 hs2).1; have Sc0_9 := blk_cell S_9.out 0; have Sc1_9 := blk_cell S_9.out 1; have Sc2_9 := blk_cell S_9.out 2; have Sc3_9 := blk_cell S_9.out 3; have Sc4_9 := blk_cell S_9.out 4; have Sc5_9 := blk_cell S_9.out 5; have Sc6_9 := blk_cell S_9.out 6; have Sc7_9 := blk_cell S_9.out 7; have Sc8_9 := blk_cell S_9.out 8; have Sc9_9 := blk_cell S_9.out 9; have Sc10_9 := blk_cell S_9.out 10; have Sc11_9 := blk_cell S_9.out 11; have Sc12_9 := blk_cell S_9.out 12; have Sc13_9 := blk_cell S_9.out 13; have Sc14_9 := blk_cell S_9.out 14; have Sc15_9 := blk_cell S_9.out 15; clear hs2 hg2 b)
  clear KN QN
  refine (same_one (some ⟨pg, 0, none⟩) ka R R pc kc _ P_9.out.bts C_9.out.bts hlR hlR rfl).mono ?_
  rintro e V10 ⟨rfl, b⟩
  have K_10 := Lib.hid ((b.block _ Kz_9).trans K_9.out)
  have Kz_10 := Nat.lt_of_lt_of_le Kz_9 b.size
  have Kc0_10 := blk_cell K_10.out 0
  have Kc1_10 := blk_cell K_10.out 1
  have Kc2_10 := blk_cell K_10.out 2
  have Kc3_10 := blk_cell K_10.out 3
  have Kc4_10 := blk_cell K_10.out 4
  have Kc5_10 := blk_cell K_10.out 5
  have Kc6_10 := blk_cell K_10.out 6
  have Kc7_10 := blk_cell K_10.out 7
  have Kc8_10 := blk_cell K_10.out 8
  have Kc9_10 := blk_cell K_10.out 9
  have Kc10_10 := blk_cell K_10.out 10
  have Kc11_10 := blk_cell K_10.out 11
  have Kc12_10 := blk_cell K_10.out 12
  have Kc13_10 := blk_cell K_10.out 13
  have Kc14_10 := blk_cell K_10.out 14
  have Kc15_10 := blk_cell K_10.out 15
  have P_10 := Lib.hid (P_9.out.below b)
  have U_10 := Lib.hid (U_9.out.below b)
  have Z_10 := Lib.hid (Z_9.out.below b)
  have S_10 := Lib.hid ((b.block _ Sz_9).trans S_9.out)
  have Sz_10 := Nat.lt_of_lt_of_le Sz_9 b.size
  have Sc0_10 := blk_cell S_10.out 0
  have Sc1_10 := blk_cell S_10.out 1
  have Sc2_10 := blk_cell S_10.out 2
  have Sc3_10 := blk_cell S_10.out 3
  have Sc4_10 := blk_cell S_10.out 4
  have Sc5_10 := blk_cell S_10.out 5
  have Sc6_10 := blk_cell S_10.out 6
  have Sc7_10 := blk_cell S_10.out 7
  have Sc8_10 := blk_cell S_10.out 8
  have Sc9_10 := blk_cell S_10.out 9
  have Sc10_10 := blk_cell S_10.out 10
  have Sc11_10 := blk_cell S_10.out 11
  have Sc12_10 := blk_cell S_10.out 12
  have Sc13_10 := blk_cell S_10.out 13
  have Sc14_10 := blk_cell S_10.out 14
  have Sc15_10 := blk_cell S_10.out 15
  have q_10 := q_9.trans (b.mono q_9.size)
  have sz_10 := b.size
  clear K_9 Kc0_9 Kc1_9 Kc2_9 Kc3_9 Kc4_9 Kc5_9 Kc6_9 Kc7_9 Kc8_9 Kc9_9 Kc10_9 Kc11_9 Kc12_9 Kc13_9 Kc14_9 Kc15_9 P_9 C_9 U_9 Z_9 S_9 Sc0_9 Sc1_9 Sc2_9 Sc3_9 Sc4_9 Sc5_9 Sc6_9 Sc7_9 Sc8_9 Sc9_9 Sc10_9 Sc11_9 Sc12_9 Sc13_9 Sc14_9 Sc15_9 q_9
  clear b
  go_wp2_with fail
  refine (spoil_own (V4.heap.size + 1) V5.heap.size pc (some ⟨pg, 0, none⟩) R (by omega) _ P_10.out pLt.out).mono ?_
  rintro e V11 ⟨⟨sv, rfl⟩, bt⟩
  have b := bt.below (by omega)
  have K_11 := Lib.hid ((bt.block _ Kz_10 (by omega)).trans K_10.out)
  have Kz_11 := Nat.lt_of_lt_of_le Kz_10 b.size
  have Kc0_11 := blk_cell K_11.out 0
  have Kc1_11 := blk_cell K_11.out 1
  have Kc2_11 := blk_cell K_11.out 2
  have Kc3_11 := blk_cell K_11.out 3
  have Kc4_11 := blk_cell K_11.out 4
  have Kc5_11 := blk_cell K_11.out 5
  have Kc6_11 := blk_cell K_11.out 6
  have Kc7_11 := blk_cell K_11.out 7
  have Kc8_11 := blk_cell K_11.out 8
  have Kc9_11 := blk_cell K_11.out 9
  have Kc10_11 := blk_cell K_11.out 10
  have Kc11_11 := blk_cell K_11.out 11
  have Kc12_11 := blk_cell K_11.out 12
  have Kc13_11 := blk_cell K_11.out 13
  have Kc14_11 := blk_cell K_11.out 14
  have Kc15_11 := blk_cell K_11.out 15
  have U_11 := Lib.hid (U_10.out.btw (by omega) bt)
  have Z_11 := Lib.hid (Z_10.out.btw (by omega) bt)
  have S_11 := Lib.hid ((bt.block _ Sz_10 (by omega)).trans S_10.out)
  have Sz_11 := Nat.lt_of_lt_of_le Sz_10 b.size
  have Sc0_11 := blk_cell S_11.out 0
  have Sc1_11 := blk_cell S_11.out 1
  have Sc2_11 := blk_cell S_11.out 2
  have Sc3_11 := blk_cell S_11.out 3
  have Sc4_11 := blk_cell S_11.out 4
  have Sc5_11 := blk_cell S_11.out 5
  have Sc6_11 := blk_cell S_11.out 6
  have Sc7_11 := blk_cell S_11.out 7
  have Sc8_11 := blk_cell S_11.out 8
  have Sc9_11 := blk_cell S_11.out 9
  have Sc10_11 := blk_cell S_11.out 10
  have Sc11_11 := blk_cell S_11.out 11
  have Sc12_11 := blk_cell S_11.out 12
  have Sc13_11 := blk_cell S_11.out 13
  have Sc14_11 := blk_cell S_11.out 14
  have Sc15_11 := blk_cell S_11.out 15
  have q_11 := q_10.trans (b.mono (by omega))
  have sz_11 := bt.size
  clear P_10 q_10 b bt K_10 Kc0_10 Kc1_10 Kc2_10 Kc3_10 Kc4_10 Kc5_10 Kc6_10 Kc7_10 Kc8_10 Kc9_10 Kc10_10 Kc11_10 Kc12_10 Kc13_10 Kc14_10 Kc15_10 U_10 Z_10 S_10 Sc0_10 Sc1_10 Sc2_10 Sc3_10 Sc4_10 Sc5_10 Sc6_10 Sc7_10 Sc8_10 Sc9_10 Sc10_10 Sc11_10 Sc12_10 Sc13_10 Sc14_10 Sc15_10
  go_wp2_with fail
  refine (HS.out xa ba xc bc za da zc dc _ U_11.out.1 (X0.out.below q_11) Z_11.out.bts (Y0.out.below q_11)).mono ?_
  rintro e V12 ⟨rfl, b⟩
  have q_12 := q_11.trans (b.mono q_11.size)
  have sz_12 := b.size
  clear K_11 Kz_11 Kc0_11 Kc1_11 Kc2_11 Kc3_11 Kc4_11 Kc5_11 Kc6_11 Kc7_11 Kc8_11 Kc9_11 Kc10_11 Kc11_11 Kc12_11 Kc13_11 Kc14_11 Kc15_11 U_11 Z_11 S_11 Sz_11 Sc0_11 Sc1_11 Sc2_11 Sc3_11 Sc4_11 Sc5_11 Sc6_11 Sc7_11 Sc8_11 Sc9_11 Sc10_11 Sc11_11 Sc12_11 Sc13_11 Sc14_11 Sc15_11 q_11
  clear b
  go_wp2
  go_ret
  exact ⟨rfl, q_12⟩

set_option maxRecDepth 100000 in
set_option maxHeartbeats 4000000 in
theorem walk_no (sp dp sq ak fl wn ur : Nat) (mss : Int) (hs : Bool) (sc : Int) (sk : Bool) (ba : Option Addr) (bs : List (Nat × Nat)) (bc : Nat) (ht : Bool) (tv te : Nat) (da : Option Addr) (ds : List Nat) (dc : Nat) (w : World) (hm : ¬ TcpMayI mss hs sc sk bs ht tv te ds.length) (hx : Blk w ba bs) (hy : Bts w da ds) (hdc : da = none → dc = 0) (hbc : ba = none → bc = 0) (hbl : bs.length ≤ 17592186044416) (hdl : ds.length ≤ 140737488351232) (htv : tv < 4294967296) (hte : te < 4294967296) :
    Calls Try.prog 7 #[.agg #[.int .u16 sp, .int .u16 dp, .int .u32 sq, .int .u32 ak, .int .u8 fl, .int .u16 wn, .int .u16 ur, .int .i64 mss, .bool hs, .int .i64 sc, .bool sk, .slice ba bs.length bc, .bool ht, .int .u32 tv, .int .u32 te, .slice da ds.length dc]] w fun e w' => e = .returned (.bool true) ∧ Below w.heap.size w w' := by
  have hb : ∀ a c a2 c2 W, Blk W a bs → Calls Try.prog 11 #[.agg #[.int .u16 sp, .int .u16 dp, .int .u32 sq, .int .u32 ak, .int .u8 fl, .int .u16 wn, .int .u16 ur, .int .i64 mss, .bool hs, .int .i64 sc, .bool sk, .slice a bs.length c, .bool ht, .int .u32 tv, .int .u32 te, .slice a2 ds.length c2], .int .u32 5, .int .u32 6] W (TcpBad W) := fun a c a2 c2 W h => tcpB_bad sp dp sq ak fl wn ur mss hs sc sk a bs c ht tv te a2 ds.length c2 5 6 W htv hte h hm
  have hcp : ∀ W, Blk W ba bs → Bts W da ds → (ba = none → bc = 0) → (da = none → dc = 0) → Calls Try.prog 10 #[.agg #[.int .u16 sp, .int .u16 dp, .int .u32 sq, .int .u32 ak, .int .u8 fl, .int .u16 wn, .int .u16 ur, .int .i64 mss, .bool hs, .int .i64 sc, .bool sk, .slice ba bs.length bc, .bool ht, .int .u32 tv, .int .u32 te, .slice da ds.length dc]] W fun e w' => ∃ a' cap' b' dap', e = .returned (.agg #[.int .u16 sp, .int .u16 dp, .int .u32 sq, .int .u32 ak, .int .u8 fl, .int .u16 wn, .int .u16 ur, .int .i64 mss, .bool hs, .int .i64 sc, .bool sk, .slice a' bs.length cap', .bool ht, .int .u32 tv, .int .u32 te, .slice b' ds.length dap']) ∧ OwnBlk W.heap.size w' a' bs cap' ∧ OwnSl W.heap.size b' ds dap' w' ∧ Below W.heap.size W w' := fun W h1 h2 h3 h4 =>
    copyTcp_one sp dp sq ak fl wn ur mss hs sc sk ba bs bc ht tv te da ds dc W h1 h2 h3 h4 hbl (by omega)
  have HB := Lib.hid hb
  have HCp := Lib.hid hcp
  clear hb hm hcp
  have q_0 := Below.refl w.heap.size w
  have sz_0 : w.heap.size ≤ w.heap.size := Nat.le_refl _
  have Y0 := Lib.hid hy
  have X0 := Lib.hid hx
  have HC1 := Lib.hid hbc
  have HC2 := Lib.hid hdc
  clear hx hy hbc hdc
  go_enter Try.func7, Try.ntmps7
  go_wp2_with fail
  have b : Below w.heap.size w (w.alloc (.cells #[.int .u16 sp, .int .u16 dp, .int .u32 sq, .int .u32 ak, .int .u8 fl, .int .u16 wn, .int .u16 ur, .int .i64 mss, .bool hs, .int .i64 sc, .bool sk, .slice ba bs.length bc, .bool ht, .int .u32 tv, .int .u32 te, .slice da ds.length dc] 27)) := ((Below.refl _ w).alloc (Nat.le_refl _) (.cells #[.int .u16 sp, .int .u16 dp, .int .u32 sq, .int .u32 ak, .int .u8 fl, .int .u16 wn, .int .u16 ur, .int .i64 mss, .bool hs, .int .i64 sc, .bool sk, .slice ba bs.length bc, .bool ht, .int .u32 tv, .int .u32 te, .slice da ds.length dc] 27))
  have nb0 := blk_new w (.cells #[.int .u16 sp, .int .u16 dp, .int .u32 sq, .int .u32 ak, .int .u8 fl, .int .u16 wn, .int .u16 ur, .int .i64 mss, .bool hs, .int .i64 sc, .bool sk, .slice ba bs.length bc, .bool ht, .int .u32 tv, .int .u32 te, .slice da ds.length dc] 27)
  have nz0 : w.heap.size < (w.alloc (.cells #[.int .u16 sp, .int .u16 dp, .int .u32 sq, .int .u32 ak, .int .u8 fl, .int .u16 wn, .int .u16 ur, .int .i64 mss, .bool hs, .int .i64 sc, .bool sk, .slice ba bs.length bc, .bool ht, .int .u32 tv, .int .u32 te, .slice da ds.length dc] 27)).heap.size := by simp only [World.size_alloc]; omega
  have q_1 := q_0.trans (b.mono q_0.size)
  have sz_1 := b.size
  clear q_0
  clear b
  have K_1 := Lib.hid nb0
  have Kz_1 := nz0
  clear nb0 nz0
  have Kc0_1 := blk_cell K_1.out 0
  have Kc1_1 := blk_cell K_1.out 1
  have Kc2_1 := blk_cell K_1.out 2
  have Kc3_1 := blk_cell K_1.out 3
  have Kc4_1 := blk_cell K_1.out 4
  have Kc5_1 := blk_cell K_1.out 5
  have Kc6_1 := blk_cell K_1.out 6
  have Kc7_1 := blk_cell K_1.out 7
  have Kc8_1 := blk_cell K_1.out 8
  have Kc9_1 := blk_cell K_1.out 9
  have Kc10_1 := blk_cell K_1.out 10
  have Kc11_1 := blk_cell K_1.out 11
  have Kc12_1 := blk_cell K_1.out 12
  have Kc13_1 := blk_cell K_1.out 13
  have Kc14_1 := blk_cell K_1.out 14
  have Kc15_1 := blk_cell K_1.out 15
  generalize (w.alloc (.cells #[.int .u16 sp, .int .u16 dp, .int .u32 sq, .int .u32 ak, .int .u8 fl, .int .u16 wn, .int .u16 ur, .int .i64 mss, .bool hs, .int .i64 sc, .bool sk, .slice ba bs.length bc, .bool ht, .int .u32 tv, .int .u32 te, .slice da ds.length dc] 27)) = V1 at q_1 sz_1 K_1 Kz_1 Kc0_1 Kc1_1 Kc2_1 Kc3_1 Kc4_1 Kc5_1 Kc6_1 Kc7_1 Kc8_1 Kc9_1 Kc10_1 Kc11_1 Kc12_1 Kc13_1 Kc14_1 Kc15_1 ⊢
  refine (alive_any _).mono ?_
  rintro e V2 ⟨rfl, b⟩
  have K_2 := Lib.hid ((b.block _ Kz_1).trans K_1.out)
  have Kz_2 := Nat.lt_of_lt_of_le Kz_1 b.size
  have Kc0_2 := blk_cell K_2.out 0
  have Kc1_2 := blk_cell K_2.out 1
  have Kc2_2 := blk_cell K_2.out 2
  have Kc3_2 := blk_cell K_2.out 3
  have Kc4_2 := blk_cell K_2.out 4
  have Kc5_2 := blk_cell K_2.out 5
  have Kc6_2 := blk_cell K_2.out 6
  have Kc7_2 := blk_cell K_2.out 7
  have Kc8_2 := blk_cell K_2.out 8
  have Kc9_2 := blk_cell K_2.out 9
  have Kc10_2 := blk_cell K_2.out 10
  have Kc11_2 := blk_cell K_2.out 11
  have Kc12_2 := blk_cell K_2.out 12
  have Kc13_2 := blk_cell K_2.out 13
  have Kc14_2 := blk_cell K_2.out 14
  have Kc15_2 := blk_cell K_2.out 15
  have q_2 := q_1.trans (b.mono q_1.size)
  have sz_2 := b.size
  clear K_1 Kc0_1 Kc1_1 Kc2_1 Kc3_1 Kc4_1 Kc5_1 Kc6_1 Kc7_1 Kc8_1 Kc9_1 Kc10_1 Kc11_1 Kc12_1 Kc13_1 Kc14_1 Kc15_1 q_1
  clear b
  go_wp2_with fail
  refine (HCp.out _ (X0.out.below q_2) (Y0.out.below q_2) HC1.out HC2.out).mono ?_
  rintro e V3 ⟨ia, ic, ya, yc, rfl, I, D, b⟩
  have K_3 := Lib.hid ((b.block _ Kz_2).trans K_2.out)
  have Kz_3 := Nat.lt_of_lt_of_le Kz_2 b.size
  have Kc0_3 := blk_cell K_3.out 0
  have Kc1_3 := blk_cell K_3.out 1
  have Kc2_3 := blk_cell K_3.out 2
  have Kc3_3 := blk_cell K_3.out 3
  have Kc4_3 := blk_cell K_3.out 4
  have Kc5_3 := blk_cell K_3.out 5
  have Kc6_3 := blk_cell K_3.out 6
  have Kc7_3 := blk_cell K_3.out 7
  have Kc8_3 := blk_cell K_3.out 8
  have Kc9_3 := blk_cell K_3.out 9
  have Kc10_3 := blk_cell K_3.out 10
  have Kc11_3 := blk_cell K_3.out 11
  have Kc12_3 := blk_cell K_3.out 12
  have Kc13_3 := blk_cell K_3.out 13
  have Kc14_3 := blk_cell K_3.out 14
  have Kc15_3 := blk_cell K_3.out 15
  have q_3 := q_2.trans (b.mono q_2.size)
  have sz_3 := b.size
  clear K_2 Kc0_2 Kc1_2 Kc2_2 Kc3_2 Kc4_2 Kc5_2 Kc6_2 Kc7_2 Kc8_2 Kc9_2 Kc10_2 Kc11_2 Kc12_2 Kc13_2 Kc14_2 Kc15_2 q_2
  have I_3 := Lib.hid (I)
  have D_3 := Lib.hid (D)
  clear b
  clear I D
  have dLt := Lib.hid D_3.out.blkLt
  have KN := Lib.hid (blk_new V3 (.cells #[.int .u16 0, .int .u16 0, .int .u32 0, .int .u32 0, .int .u8 0, .int .u16 0, .int .u16 0, .int .i64 0, .bool false, .int .i64 0, .bool false, .slice none 0 0, .bool false, .int .u32 0, .int .u32 0, .slice none 0 0] 27))
  have QN := Lib.hid ((Below.refl V3.heap.size V3).alloc (Nat.le_refl _) (.cells #[.int .u16 0, .int .u16 0, .int .u32 0, .int .u32 0, .int .u8 0, .int .u16 0, .int .u16 0, .int .i64 0, .bool false, .int .i64 0, .bool false, .slice none 0 0, .bool false, .int .u32 0, .int .u32 0, .slice none 0 0] 27))
  go_wp2_with ((with_reducible show wpList _ _ _ _ _ _); refine wpList_store_tcp rfl (.tmp 3) (.tmp 12) rfl V3.heap.size _ _ rfl rfl KN.out rfl rfl (by simp [Value.oneCell']) ?_; intro V4 hs2 hg2; have b := QN.out.grown hg2 QN.out.size (fun j e => by cases e; exact Nat.le_refl _); have K_4 := Lib.hid ((b.block _ Kz_3).trans K_3.out); have Kz_4 := Nat.lt_of_lt_of_le Kz_3 b.size; have Kc0_4 := blk_cell K_4.out 0; have Kc1_4 := blk_cell K_4.out 1; have Kc2_4 := blk_cell K_4.out 2; have Kc3_4 := blk_cell K_4.out 3; have Kc4_4 := blk_cell K_4.out 4; have Kc5_4 := blk_cell K_4.out 5; have Kc6_4 := blk_cell K_4.out 6; have Kc7_4 := blk_cell K_4.out 7; have Kc8_4 := blk_cell K_4.out 8; have Kc9_4 := blk_cell K_4.out 9; have Kc10_4 := blk_cell K_4.out 10; have Kc11_4 := blk_cell K_4.out 11; have Kc12_4 := blk_cell K_4.out 12; have Kc13_4 := blk_cell K_4.out 13; have Kc14_4 := blk_cell K_4.out 14; have Kc15_4 := blk_cell K_4.out 15; have I_4 := Lib.hid (I_3.out.below b); have D_4 := Lib.hid (D_3.out.below b); have q_4 := q_3.trans (b.mono q_3.size); have sz_4 := b.size; clear K_3 Kc0_3 Kc1_3 Kc2_3 Kc3_3 Kc4_3 Kc5_3 Kc6_3 Kc7_3 Kc8_3 Kc9_3 Kc10_3 Kc11_3 Kc12_3 Kc13_3 Kc14_3 Kc15_3 I_3 D_3 q_3; have L_4 := Lib.hid hs2; have Lz_4 : V3.heap.size < V4.heap.size := (Array.getElem?_eq_some_iff.1 hs2).1; have Lc0_4 := blk_cell L_4.out 0; have Lc1_4 := blk_cell L_4.out 1; have Lc2_4 := blk_cell L_4.out 2; have Lc3_4 := blk_cell L_4.out 3; have Lc4_4 := blk_cell L_4.out 4; have Lc5_4 := blk_cell L_4.out 5; have Lc6_4 := blk_cell L_4.out 6; have Lc7_4 := blk_cell L_4.out 7; have Lc8_4 := blk_cell L_4.out 8; have Lc9_4 := blk_cell L_4.out 9; have Lc10_4 := blk_cell L_4.out 10; have Lc11_4 := blk_cell L_4.out 11; have Lc12_4 := blk_cell L_4.out 12; have Lc13_4 := blk_cell L_4.out 13; have Lc14_4 := blk_cell L_4.out 14; have Lc15_4 := blk_cell L_4.out 15; clear hs2 hg2 b)
  clear KN QN
  have dNil := Lib.hid D_4.out.nilcap
  refine (HB.out ia ic ya yc _ I_4.out.1).mono ?_
  rintro e V5 ⟨n, hn, rfl, b⟩
  have q_5 := q_4.trans (b.mono q_4.size)
  have sz_5 := b.size
  clear K_4 Kz_4 Kc0_4 Kc1_4 Kc2_4 Kc3_4 Kc4_4 Kc5_4 Kc6_4 Kc7_4 Kc8_4 Kc9_4 Kc10_4 Kc11_4 Kc12_4 Kc13_4 Kc14_4 Kc15_4 I_4 D_4 L_4 Lz_4 Lc0_4 Lc1_4 Lc2_4 Lc3_4 Lc4_4 Lc5_4 Lc6_4 Lc7_4 Lc8_4 Lc9_4 Lc10_4 Lc11_4 Lc12_4 Lc13_4 Lc14_4 Lc15_4 q_4
  clear b
  go_wp2_with fail
  refine (num_any _ _).mono ?_
  rintro e w' ⟨rfl, rfl⟩
  have hn1 : (n != 0) = true := by simp [hn]
  have hn2 : (n == 0) = false := by simp [hn]
  go_wp2
  go_ret
  exact ⟨rfl, q_5⟩

theorem walk (sp dp sq ak fl wn ur : Nat) (mss : Int) (hs : Bool) (sc : Int) (sk : Bool) (ba : Option Addr) (bs : List (Nat × Nat)) (bc : Nat) (ht : Bool) (tv te : Nat) (da : Option Addr) (ds : List Nat) (dc : Nat) (w : World)
    (hsp : sp < 65536) (hdp : dp < 65536) (hsq : sq < 4294967296) (hak : ak < 4294967296) (hfl : fl < 256) (hwn : wn < 65536) (hur : ur < 65536) (_ : -9223372036854775808 ≤ mss) (_ : mss ≤ 9223372036854775807) (_ : -9223372036854775808 ≤ sc) (_ : sc ≤ 9223372036854775807) (hx : Blk w ba bs) (hbc : ba = none → bc = 0) (_ : bs.length ≤ bc ∧ bc ≤ maxLen) (hbl : bs.length ≤ 17592186043904) (htv : tv < 4294967296) (hte : te < 4294967296) (hy : Bts w da ds) (hdc : da = none → dc = 0) (_ : ds.length ≤ dc ∧ dc ≤ maxLen) (hdl : ds.length ≤ 140737488351232) :
    Calls Try.prog 7 #[.agg #[.int .u16 sp, .int .u16 dp, .int .u32 sq, .int .u32 ak, .int .u8 fl, .int .u16 wn, .int .u16 ur, .int .i64 mss, .bool hs, .int .i64 sc, .bool sk, .slice ba bs.length bc, .bool ht, .int .u32 tv, .int .u32 te, .slice da ds.length dc]] w fun e w' => e = .returned (.bool true) ∧ Below w.heap.size w w' := by
  by_cases h : TcpMayI mss hs sc sk bs ht tv te ds.length
  · obtain ⟨m, c, rfl, rfl, h⟩ := h
    exact walk_may sp dp sq ak fl wn ur m hs c sk ba bs bc ht tv te da ds dc w h hsp hdp hsq hak hfl hwn hur htv hte hx hy hdc hbc
  · exact walk_no sp dp sq ak fl wn ur mss hs sc sk ba bs bc ht tv te da ds dc w h hx hy hdc hbc (by omega) hdl htv hte

theorem of_len16 {α : Type} (l : List α) (h : l.length = 16) : ∃ x0 x1 x2 x3 x4 x5 x6 x7 x8 x9 x10 x11 x12 x13 x14 x15, l = [x0, x1, x2, x3, x4, x5, x6, x7, x8, x9, x10, x11, x12, x13, x14, x15] := by
  match l, h with
  | [x0, x1, x2, x3, x4, x5, x6, x7, x8, x9, x10, x11, x12, x13, x14, x15], _ => exact ⟨x0, x1, x2, x3, x4, x5, x6, x7, x8, x9, x10, x11, x12, x13, x14, x15, rfl⟩
theorem own : ownKnob Try.prog.godebug = none := by kernel_rfl
theorem laidOut : laidOutB Try.prog = true := by kernel_rfl

set_option maxRecDepth 100000 in
set_option maxHeartbeats 2000000 in
theorem lifted (os : Os) (started : os.Started) (H : Type) (enc : TypeId × Value → H) :
    ReturnsInHanded {} Try.checked os 7 .any (Rows.tcpwireOwnSpec.pre6 enc Try.prog Try.f7 Rows.tcpwireOwnRow.domain false) (Rows.tcpwireOwnSpec.post enc Try.prog Try.f7 false true false false) := by
  refine returnsInHanded_of_change_sized (C := Try.checked) own started (by kernel_rfl) Try.func7
    (ChangeSpec.witness6 (enc := enc) (C := Try.checked) false ⟨#[], #[.agg #[.int .u16 0, .int .u16 0, .int .u32 0, .int .u32 0, .int .u8 0, .int .u16 0, .int .u16 0, .int .i64 0, .bool false, .int .i64 0, .bool false, .slice none 0 0, .bool false, .int .u32 0, .int .u32 0, .slice none 0 0]], []⟩ 8 (by kernel_rfl) (by kernel_rfl) (by kernel_rfl) (by kernel_rfl)) ?_
  intro W base args ds gs before hval0 hW hcnd hsz0 _
  have hval : ∀ (j : Nat) t v, Try.f7.params[j]? = some t → args[j]? = some v → Value.okWide Try.prog W .any base t v := hval0
  have hsz : (DataW.weightsEach Try.prog (Try.f7.params.toList ++ Rows.tcpwireOwnSpec.plain.varTypes Try.prog) (ds ++ gs)).all (· ≤ reachBytes) = true := hsz0
  have hW' := hW
  obtain ⟨p, q, hA0, hV, rfl, hfz, hnd⟩ := hW
  have hA : DataW.TrodAll enc Try.prog W 0 (fun _ => true) true Try.f7.params.toList args.toList ds p := hA0
  rw [Try.params7] at hA hval hsz
  obtain ⟨v0, vs0, d0, ds0, p0, q0, hargs, rfl, rfl, h0, r0⟩ := trodAll_cons hA
  obtain ⟨rfl, rfl, rfl⟩ := trodAll_nil r0
  obtain rfl : args = #[v0] := by cases args; simp_all
  obtain ⟨rfl, rfl⟩ := trodVars_none hV
  have k0 := h0
  have lt0 : ∀ x ∈ p0, x.block < W.heap.size := by obtain ⟨m, hm⟩ := k0; exact DataW.trod_lt m _ _ _ hm
  obtain ⟨vs0', ys0', m0, rfl, lv0, ly0, hd0, F0⟩ := open_agg Try.underlying27 (by kernel_rfl) (by kernel_rfl) (hval 0 27 v0 rfl rfl) h0
  obtain ⟨c0_0, c0_1, c0_2, c0_3, c0_4, c0_5, c0_6, c0_7, c0_8, c0_9, c0_10, c0_11, c0_12, c0_13, c0_14, c0_15, rfl⟩ := of_len16 _ lv0
  obtain ⟨y0_0, y0_1, y0_2, y0_3, y0_4, y0_5, y0_6, y0_7, y0_8, y0_9, y0_10, y0_11, y0_12, y0_13, y0_14, y0_15, rfl⟩ := of_len16 _ ly0
  simp only [List.map_cons, List.map_nil] at hd0
  obtain ⟨_, _, e, g, t0_0⟩ := F0 0 _ rfl
  obtain rfl := Option.some.inj e; obtain rfl := Option.some.inj g; clear e g
  obtain ⟨z0_0, e, _, w0_0⟩ := DataW.trod_int Try.underlying22 t0_0
  obtain rfl := (List.cons.inj e).1; clear e
  obtain ⟨n0_0, rfl, hn0_0⟩ := nat_of_u16 w0_0
  obtain ⟨_, _, e, g, t0_1⟩ := F0 1 _ rfl
  obtain rfl := Option.some.inj e; obtain rfl := Option.some.inj g; clear e g
  obtain ⟨z0_1, e, _, w0_1⟩ := DataW.trod_int Try.underlying22 t0_1
  obtain rfl := (List.cons.inj e).1; clear e
  obtain ⟨n0_1, rfl, hn0_1⟩ := nat_of_u16 w0_1
  obtain ⟨_, _, e, g, t0_2⟩ := F0 2 _ rfl
  obtain rfl := Option.some.inj e; obtain rfl := Option.some.inj g; clear e g
  obtain ⟨z0_2, e, _, w0_2⟩ := DataW.trod_int Try.underlying23 t0_2
  obtain rfl := (List.cons.inj e).1; clear e
  obtain ⟨n0_2, rfl, hn0_2⟩ := nat_of_u32 w0_2
  obtain ⟨_, _, e, g, t0_3⟩ := F0 3 _ rfl
  obtain rfl := Option.some.inj e; obtain rfl := Option.some.inj g; clear e g
  obtain ⟨z0_3, e, _, w0_3⟩ := DataW.trod_int Try.underlying23 t0_3
  obtain rfl := (List.cons.inj e).1; clear e
  obtain ⟨n0_3, rfl, hn0_3⟩ := nat_of_u32 w0_3
  obtain ⟨_, _, e, g, t0_4⟩ := F0 4 _ rfl
  obtain rfl := Option.some.inj e; obtain rfl := Option.some.inj g; clear e g
  obtain ⟨z0_4, e, _, w0_4⟩ := DataW.trod_int Try.underlying5 t0_4
  obtain rfl := (List.cons.inj e).1; clear e
  obtain ⟨n0_4, rfl, hn0_4⟩ := nat_of_u8 w0_4
  obtain ⟨_, _, e, g, t0_5⟩ := F0 5 _ rfl
  obtain rfl := Option.some.inj e; obtain rfl := Option.some.inj g; clear e g
  obtain ⟨z0_5, e, _, w0_5⟩ := DataW.trod_int Try.underlying22 t0_5
  obtain rfl := (List.cons.inj e).1; clear e
  obtain ⟨n0_5, rfl, hn0_5⟩ := nat_of_u16 w0_5
  obtain ⟨_, _, e, g, t0_6⟩ := F0 6 _ rfl
  obtain rfl := Option.some.inj e; obtain rfl := Option.some.inj g; clear e g
  obtain ⟨z0_6, e, _, w0_6⟩ := DataW.trod_int Try.underlying22 t0_6
  obtain rfl := (List.cons.inj e).1; clear e
  obtain ⟨n0_6, rfl, hn0_6⟩ := nat_of_u16 w0_6
  obtain ⟨_, _, e, g, t0_7⟩ := F0 7 _ rfl
  obtain rfl := Option.some.inj e; obtain rfl := Option.some.inj g; clear e g
  obtain ⟨z0_7, e, _, w0_7⟩ := DataW.trod_int Try.underlying3 t0_7
  obtain rfl := (List.cons.inj e).1; clear e
  obtain ⟨lo0_7, hi0_7⟩ := bounds_i64 w0_7
  obtain ⟨_, _, e, g, t0_8⟩ := F0 8 _ rfl
  obtain rfl := Option.some.inj e; obtain rfl := Option.some.inj g; clear e g
  obtain ⟨b0_8, e, _⟩ := DataW.trod_bool Try.underlying4 t0_8
  obtain rfl := (List.cons.inj e).1; clear e
  obtain ⟨_, _, e, g, t0_9⟩ := F0 9 _ rfl
  obtain rfl := Option.some.inj e; obtain rfl := Option.some.inj g; clear e g
  obtain ⟨z0_9, e, _, w0_9⟩ := DataW.trod_int Try.underlying3 t0_9
  obtain rfl := (List.cons.inj e).1; clear e
  obtain ⟨lo0_9, hi0_9⟩ := bounds_i64 w0_9
  obtain ⟨_, _, e, g, t0_10⟩ := F0 10 _ rfl
  obtain rfl := Option.some.inj e; obtain rfl := Option.some.inj g; clear e g
  obtain ⟨b0_10, e, _⟩ := DataW.trod_bool Try.underlying4 t0_10
  obtain rfl := (List.cons.inj e).1; clear e
  obtain ⟨_, _, e, g, t0_11⟩ := F0 11 _ rfl
  obtain rfl := Option.some.inj e; obtain rfl := Option.some.inj g; clear e g
  obtain ⟨a0_11, bs0_11, cap0_11, rfl, hbk0_11, hcap0_11, hlc0_11, hq0_11⟩ := open_blocks t0_11
  obtain ⟨_, _, e, g, t0_12⟩ := F0 12 _ rfl
  obtain rfl := Option.some.inj e; obtain rfl := Option.some.inj g; clear e g
  obtain ⟨b0_12, e, _⟩ := DataW.trod_bool Try.underlying4 t0_12
  obtain rfl := (List.cons.inj e).1; clear e
  obtain ⟨_, _, e, g, t0_13⟩ := F0 13 _ rfl
  obtain rfl := Option.some.inj e; obtain rfl := Option.some.inj g; clear e g
  obtain ⟨z0_13, e, _, w0_13⟩ := DataW.trod_int Try.underlying23 t0_13
  obtain rfl := (List.cons.inj e).1; clear e
  obtain ⟨n0_13, rfl, hn0_13⟩ := nat_of_u32 w0_13
  obtain ⟨_, _, e, g, t0_14⟩ := F0 14 _ rfl
  obtain rfl := Option.some.inj e; obtain rfl := Option.some.inj g; clear e g
  obtain ⟨z0_14, e, _, w0_14⟩ := DataW.trod_int Try.underlying23 t0_14
  obtain rfl := (List.cons.inj e).1; clear e
  obtain ⟨n0_14, rfl, hn0_14⟩ := nat_of_u32 w0_14
  obtain ⟨_, _, e, g, t0_15⟩ := F0 15 _ rfl
  obtain rfl := Option.some.inj e; obtain rfl := Option.some.inj g; clear e g
  obtain ⟨a0_15, xs0_15, cap0_15, rfl, hbt0_15, hcap0_15, hlc0_15, hq0_15⟩ := open_bytes t0_15
  have hre0_11 : bs0_11.length ≤ 17592186043904 := blocks_reach hq0_11 (sized_field hsz (j := 0) (i := 11) (t := 27) rfl (by rw [hd0]; rfl) Try.underlying27 rfl rfl)
  have hre0_15 : xs0_15.length ≤ 140737488351232 := bytes_reach hq0_15 (sized_field hsz (j := 0) (i := 15) (t := 27) rfl (by rw [hd0]; rfl) Try.underlying27 rfl rfl)
  clear hA0 hval0 hsz hsz0
  refine (walk n0_0 n0_1 n0_2 n0_3 n0_4 n0_5 n0_6 z0_7 b0_8 z0_9 b0_10 a0_11 bs0_11 cap0_11 b0_12 n0_13 n0_14 a0_15 xs0_15 cap0_15 W hn0_0 hn0_1 hn0_2 hn0_3 hn0_4 hn0_5 hn0_6 lo0_7 hi0_7 lo0_9 hi0_9 hbk0_11 hcap0_11 hlc0_11 hre0_11 hn0_13 hn0_14 hbt0_15 hcap0_15 hlc0_15 hre0_15).mono fun e W' ⟨he, bel⟩ => ?_
  subst he
  exact ⟨_, rfl, _, _, _, [], _, [], hW', trodAll_mk1 (shut_bool Try.underlying4 _), (trodAll_cons_mk (Below.trod laidOut (by kernel_rfl) (of_decide_eq_true (by kernel_rfl)) k0 bel lt0) trodAll_mk0), rfl, bel.frame _, fun h => by cases h⟩

theorem over : Rows.tcpwireOwnRow.holds Try.pinned (OpenSpec.ofChange Rows.tcpwireOwnSpec) :=
  OpenClaim.holds_of_wide 7 Try.f7 rfl rfl rfl rfl rfl rfl rfl ⟨rfl, rfl, rfl, rfl, rfl⟩ rfl rfl rfl rfl rfl (by kernel_rfl) Try.func7 (by kernel_rfl)
    (of_decide_eq_true (by kernel_rfl)) (by unfold Func.isWrapper; first | (rw [if_pos (by decide +kernel)]; kernel_rfl) | (rw [if_neg (by decide +kernel)]; exact ⟨rfl, rfl⟩))
    (fun os started H enc _ => lifted os started H enc)

end Go.Proofs.Ytiamigajnnbdgaa.tcpwireOwn
namespace Go.Proofs.Ytiamigajnnbdgaa
/-- The statement. -/
theorem tcpwireOwn_holds : Rows.TcpwireOwnSaid := tcpwireOwn.over
#print axioms tcpwireOwn_holds
end Go.Proofs.Ytiamigajnnbdgaa
