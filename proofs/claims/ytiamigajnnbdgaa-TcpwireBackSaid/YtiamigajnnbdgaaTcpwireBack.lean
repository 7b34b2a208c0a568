/- For every segment and all addresses: what Build lays, Parse gives back; from another address just if the sum of the addresses is the same. No condition. -/
import Derived.Test.YtiamigajnnbdgaaRows
import Derived.Test.YtiamigajnnbdgaaAlive5
import Derived.Test.YtiamigajnnbdgaaTcpBb
import Derived.Test.YtiamigajnnbdgaaGStruct
import Derived.Test.YtiamigajnnbdgaaGBlocks
import Derived.ProofKit
import Derived.OpenShut
import Derived.ShutString
import Derived.ChangeOld
import Derived.SizedLaws
import Derived.Test.YtiamigajnnbdgaaTcpT
import Derived.Test.YtiamigajnnbdgaaSumRf
namespace Go.Proofs.Ytiamigajnnbdgaa.tcpwireBack
open Go.ChangeShapes Go.WideShapes Go.ChangeAt Go.RowKit Go.Proofs.Ytiamigajnnbdgaa.law5
open Go.ChangeMaps (open_string shut_string)

set_option maxRecDepth 100000 in
set_option maxHeartbeats 4000000 in
theorem walk_may (sp dp sq ak fl wn ur mss : Nat) (hs : Bool) (sc : Nat) (sk : Bool) (ba : Option Addr) (bs : List (Nat × Nat)) (bc : Nat) (ht : Bool) (tv te : Nat) (da : Option Addr) (ds : List Nat) (dc : Nat) (src dst other : Nat) (w : World) (hm : TcpMay mss hs sc sk bs ht tv te ds.length) (hsp : sp < 65536) (hdp : dp < 65536) (hsq : sq < 4294967296) (hak : ak < 4294967296) (hfl : fl < 256) (hwn : wn < 65536) (hur : ur < 65536) (htv : tv < 4294967296) (hte : te < 4294967296) (hx : Blk w ba bs) (hy : Bts w da ds) (hdc : da = none → dc = 0) (hsrc : src < 4294967296) (hdst : dst < 4294967296) (hot : other < 4294967296) :
    Calls Try.prog 5 #[.agg #[.int .u16 sp, .int .u16 dp, .int .u32 sq, .int .u32 ak, .int .u8 fl, .int .u16 wn, .int .u16 ur, .int .i64 mss, .bool hs, .int .i64 sc, .bool sk, .slice ba bs.length bc, .bool ht, .int .u32 tv, .int .u32 te, .slice da ds.length dc], .int .u32 src, .int .u32 dst, .int .u32 other] w fun e w' => e = .returned (.bool true) ∧ Below w.heap.size w w' := by
  obtain ⟨R, hR⟩ : ∃ R, tcpO sp dp sq ak fl wn ur mss hs sc sk bs ht tv te ds src dst = R := ⟨_, rfl⟩
  obtain ⟨hok, hhd, hrd, hdd, hRl, hRx, hP0⟩ := tcp_back sp dp sq ak fl wn ur mss hs sc sk bs ht tv te ds src dst hm hsp hdp hsq hak hfl hwn hur htv hte hsrc hdst hx.1 hy.1 R hR
  have hRm : 20 ≤ R.length ∧ R.length ≤ 65535 := ⟨hok.1, hok.2.1⟩
  have hbx := hx.1
  have hyx := hy.1
  have hb : ∀ W, Blk W ba bs → Bts W da ds → Calls Try.prog 11 #[.agg #[.int .u16 sp, .int .u16 dp, .int .u32 sq, .int .u32 ak, .int .u8 fl, .int .u16 wn, .int .u16 ur, .int .i64 mss, .bool hs, .int .i64 sc, .bool sk, .slice ba bs.length bc, .bool ht, .int .u32 tv, .int .u32 te, .slice da ds.length dc], .int .u32 src, .int .u32 dst] W fun e w' => ∃ g cap', e = .returned (.tuple #[.slice (some ⟨g, 0, none⟩) R.length cap', .int .i64 0]) ∧ OwnSl (W.heap.size + 1) (some ⟨g, 0, none⟩) R cap' w' ∧ Below W.heap.size W w' := fun W h h' => by
    have h1 := tcpB_ok sp dp sq ak fl wn ur mss hs sc sk ba bs bc ht tv te da ds dc src dst W hm hsp hdp hsq hak hfl hwn hur htv hte hsrc hdst h' hdc h
    rw [hR, ← hRl] at h1
    exact h1
  have hp : ∀ a c W, Bts W a R → R.length ≤ c → Calls Try.prog 13 #[.slice a R.length c, .int .u32 src, .int .u32 dst] W fun e w' => ∃ xa xc ya yc, e = .returned (.tuple #[.agg #[.int .u16 sp, .int .u16 dp, .int .u32 sq, .int .u32 ak, .int .u8 fl, .int .u16 wn, .int .u16 ur, .int .i64 mss, .bool hs, .int .i64 sc, .bool sk, .slice xa bs.length xc, .bool ht, .int .u32 tv, .int .u32 te, .slice ya ds.length yc], .int .i64 0]) ∧ OwnBlk W.heap.size w' xa bs xc ∧ OwnSl (W.heap.size + 1) ya ds yc w' ∧ Below W.heap.size W w' := fun a c W h hc =>
    tcpP_ok sp dp sq ak fl wn ur mss hs sc sk bs ht tv te ds src dst hm hsp hdp hsq hak hfl hwn hur htv hte hsrc hdst hbx hyx R hR a c W h hc
  have hsm : ∀ a1 a2 c1 c2 b1 b2 d1 d2 W, Blk W a1 bs → Blk W a2 bs → Bts W b1 ds → Bts W b2 ds → Calls Try.prog 17 #[.agg #[.int .u16 sp, .int .u16 dp, .int .u32 sq, .int .u32 ak, .int .u8 fl, .int .u16 wn, .int .u16 ur, .int .i64 mss, .bool hs, .int .i64 sc, .bool sk, .slice a1 bs.length c1, .bool ht, .int .u32 tv, .int .u32 te, .slice b1 ds.length d1], .agg #[.int .u16 sp, .int .u16 dp, .int .u32 sq, .int .u32 ak, .int .u8 fl, .int .u16 wn, .int .u16 ur, .int .i64 mss, .bool hs, .int .i64 sc, .bool sk, .slice a2 bs.length c2, .bool ht, .int .u32 tv, .int .u32 te, .slice b2 ds.length d2]] W fun e w' => e = .returned (.bool true) ∧ Below W.heap.size W w' := fun a1 a2 c1 c2 b1 b2 d1 d2 W h1 h2 h3 h4 =>
    sameTcpV sp dp sq ak fl wn ur mss hs sc sk bs ht tv te ds a1 a2 b1 b2 c1 c2 d1 d2 W h1 h2 (by have := hm.2.2.2.2.1; omega) h3 h4 (by have := hm.2.2.2.2.2.2; omega)
  have ho1 : Mt.tot (psW src dst 6 (R.length : Nat)) = Mt.tot (psW other dst 6 (R.length : Nat)) → ∀ a c W, Bts W a R → R.length ≤ c → Calls Try.prog 13 #[.slice a R.length c, .int .u32 other, .int .u32 dst] W fun e w' => ∃ xa xc ya yc, e = .returned (.tuple #[.agg #[.int .u16 sp, .int .u16 dp, .int .u32 sq, .int .u32 ak, .int .u8 fl, .int .u16 wn, .int .u16 ur, .int .i64 mss, .bool hs, .int .i64 sc, .bool sk, .slice xa bs.length xc, .bool ht, .int .u32 tv, .int .u32 te, .slice ya ds.length yc], .int .i64 0]) ∧ Below W.heap.size W w' := fun he a c W h hc => by
    refine (tcpP_read a R c other dst W h hc hot hdst ⟨hok.1, hok.2.1, hok.2.2.1, hok.2.2.2.1, (tcp_other R hRx src dst other hsrc hdst hot hok.2.2.2.2).2 he⟩).mono ?_
    rintro e w' ⟨hb, ⟨hx0, _⟩ | ⟨s, v, da, dc, hx0, rfl, hO, hr⟩⟩
    · rw [hrd] at hx0; cases hx0
    · rw [hrd] at hx0
      cases hx0
      obtain ⟨xa, xc, rfl, hB⟩ := OwnBlk.of_row (B := W.heap.size) hbx hr
      refine ⟨xa, xc, da, dc, ?_, hb⟩
      rw [hP0, hdd]
      rfl
  have ho2 : ¬ Mt.tot (psW src dst 6 (R.length : Nat)) = Mt.tot (psW other dst 6 (R.length : Nat)) → ∀ a c W, Bts W a R → R.length ≤ c → Calls Try.prog 13 #[.slice a R.length c, .int .u32 other, .int .u32 dst] W fun e w' => ∃ n : Int, n ≠ 0 ∧ e = .returned (.tuple #[.agg #[.int .u16 0, .int .u16 0, .int .u32 0, .int .u32 0, .int .u8 0, .int .u16 0, .int .u16 0, .int .i64 0, .bool false, .int .i64 0, .bool false, .slice none 0 0, .bool false, .int .u32 0, .int .u32 0, .slice none 0 0], .int .i64 n]) ∧ Below W.heap.size W w' := fun he a c W h hc => by
    refine (tcpP_none a R c other dst W h hot hdst (by omega) (fun h => he ((tcp_other R hRx src dst other hsrc hdst hot hok.2.2.2.2).1 h.2.2.2.2))).mono ?_
    rintro e w' ⟨⟨n, hn, rfl⟩, hb⟩
    exact ⟨n, hn, rfl, hb⟩
  have ho := And.intro ho1 ho2
  clear ho1 ho2
  have hq1 := fun W => refpseudo_any src dst 6 (R.length : Nat) hsrc hdst (by decide) W
  have hq2 := fun W => refpseudo_any other dst 6 (R.length : Nat) hot hdst (by decide) W
  generalize Mt.tot (psW src dst 6 (R.length : Nat)) = S1 at ho hq1
  generalize Mt.tot (psW other dst 6 (R.length : Nat)) = S2 at ho hq2
  have HB := Lib.hid hb
  have HP := Lib.hid hp
  have HS := Lib.hid hsm
  have HO := Lib.hid ho
  have HQ1 := Lib.hid hq1
  have HQ2 := Lib.hid hq2
  clear hb hp hsm ho hq1 hq2 hok hhd hrd hdd hRl hRx hP0 hR hm hbx hyx
  have q_0 := Below.refl w.heap.size w
  have Y0 := Lib.hid hy
  have X0 := Lib.hid hx
  clear hx hy
  go_enter Try.func5, Try.ntmps5
  go_wp2_with fail
  have b : Below w.heap.size w (w.alloc (.cells #[.int .u16 sp, .int .u16 dp, .int .u32 sq, .int .u32 ak, .int .u8 fl, .int .u16 wn, .int .u16 ur, .int .i64 mss, .bool hs, .int .i64 sc, .bool sk, .slice ba bs.length bc, .bool ht, .int .u32 tv, .int .u32 te, .slice da ds.length dc] 27)) := ((Below.refl _ w).alloc (Nat.le_refl _) (.cells #[.int .u16 sp, .int .u16 dp, .int .u32 sq, .int .u32 ak, .int .u8 fl, .int .u16 wn, .int .u16 ur, .int .i64 mss, .bool hs, .int .i64 sc, .bool sk, .slice ba bs.length bc, .bool ht, .int .u32 tv, .int .u32 te, .slice da ds.length dc] 27))
  have nb0 := blk_new w (.cells #[.int .u16 sp, .int .u16 dp, .int .u32 sq, .int .u32 ak, .int .u8 fl, .int .u16 wn, .int .u16 ur, .int .i64 mss, .bool hs, .int .i64 sc, .bool sk, .slice ba bs.length bc, .bool ht, .int .u32 tv, .int .u32 te, .slice da ds.length dc] 27)
  have nz0 : w.heap.size < (w.alloc (.cells #[.int .u16 sp, .int .u16 dp, .int .u32 sq, .int .u32 ak, .int .u8 fl, .int .u16 wn, .int .u16 ur, .int .i64 mss, .bool hs, .int .i64 sc, .bool sk, .slice ba bs.length bc, .bool ht, .int .u32 tv, .int .u32 te, .slice da ds.length dc] 27)).heap.size := by simp only [World.size_alloc]; omega
  have q_1 := q_0.trans (b.mono q_0.size)
  clear q_0
  clear b
  have K_1 := Lib.hid nb0
  have Kz_1 := nz0
  clear nb0 nz0
  have Kc0_1 := blk_cell K_1.out 0
  have Kc1_1 := blk_cell K_1.out 1
  have Kc2_1 := blk_cell K_1.out 2
  have Kc3_1 := blk_cell K_1.out 3
  have Kc4_1 := blk_cell K_1.out 4
  have Kc5_1 := blk_cell K_1.out 5
  have Kc6_1 := blk_cell K_1.out 6
  have Kc7_1 := blk_cell K_1.out 7
  have Kc8_1 := blk_cell K_1.out 8
  have Kc9_1 := blk_cell K_1.out 9
  have Kc10_1 := blk_cell K_1.out 10
  have Kc11_1 := blk_cell K_1.out 11
  have Kc12_1 := blk_cell K_1.out 12
  have Kc13_1 := blk_cell K_1.out 13
  have Kc14_1 := blk_cell K_1.out 14
  have Kc15_1 := blk_cell K_1.out 15
  generalize (w.alloc (.cells #[.int .u16 sp, .int .u16 dp, .int .u32 sq, .int .u32 ak, .int .u8 fl, .int .u16 wn, .int .u16 ur, .int .i64 mss, .bool hs, .int .i64 sc, .bool sk, .slice ba bs.length bc, .bool ht, .int .u32 tv, .int .u32 te, .slice da ds.length dc] 27)) = V1 at q_1 K_1 Kz_1 Kc0_1 Kc1_1 Kc2_1 Kc3_1 Kc4_1 Kc5_1 Kc6_1 Kc7_1 Kc8_1 Kc9_1 Kc10_1 Kc11_1 Kc12_1 Kc13_1 Kc14_1 Kc15_1 ⊢
  refine (alive_any _).mono ?_
  rintro e V2 ⟨rfl, b⟩
  have K_2 := Lib.hid ((b.block _ Kz_1).trans K_1.out)
  have Kz_2 := Nat.lt_of_lt_of_le Kz_1 b.size
  have Kc0_2 := blk_cell K_2.out 0
  have Kc1_2 := blk_cell K_2.out 1
  have Kc2_2 := blk_cell K_2.out 2
  have Kc3_2 := blk_cell K_2.out 3
  have Kc4_2 := blk_cell K_2.out 4
  have Kc5_2 := blk_cell K_2.out 5
  have Kc6_2 := blk_cell K_2.out 6
  have Kc7_2 := blk_cell K_2.out 7
  have Kc8_2 := blk_cell K_2.out 8
  have Kc9_2 := blk_cell K_2.out 9
  have Kc10_2 := blk_cell K_2.out 10
  have Kc11_2 := blk_cell K_2.out 11
  have Kc12_2 := blk_cell K_2.out 12
  have Kc13_2 := blk_cell K_2.out 13
  have Kc14_2 := blk_cell K_2.out 14
  have Kc15_2 := blk_cell K_2.out 15
  have q_2 := q_1.trans (b.mono q_1.size)
  clear K_1 Kz_1 Kc0_1 Kc1_1 Kc2_1 Kc3_1 Kc4_1 Kc5_1 Kc6_1 Kc7_1 Kc8_1 Kc9_1 Kc10_1 Kc11_1 Kc12_1 Kc13_1 Kc14_1 Kc15_1 q_1
  clear b
  go_wp2_with fail
  refine (HB.out _ (X0.out.below q_2) (Y0.out.below q_2)).mono ?_
  rintro e V3 ⟨pg, pc, rfl, P, b⟩
  have K_3 := Lib.hid ((b.block _ Kz_2).trans K_2.out)
  have Kz_3 := Nat.lt_of_lt_of_le Kz_2 b.size
  have Kc0_3 := blk_cell K_3.out 0
  have Kc1_3 := blk_cell K_3.out 1
  have Kc2_3 := blk_cell K_3.out 2
  have Kc3_3 := blk_cell K_3.out 3
  have Kc4_3 := blk_cell K_3.out 4
  have Kc5_3 := blk_cell K_3.out 5
  have Kc6_3 := blk_cell K_3.out 6
  have Kc7_3 := blk_cell K_3.out 7
  have Kc8_3 := blk_cell K_3.out 8
  have Kc9_3 := blk_cell K_3.out 9
  have Kc10_3 := blk_cell K_3.out 10
  have Kc11_3 := blk_cell K_3.out 11
  have Kc12_3 := blk_cell K_3.out 12
  have Kc13_3 := blk_cell K_3.out 13
  have Kc14_3 := blk_cell K_3.out 14
  have Kc15_3 := blk_cell K_3.out 15
  have q_3 := q_2.trans (b.mono q_2.size)
  clear K_2 Kz_2 Kc0_2 Kc1_2 Kc2_2 Kc3_2 Kc4_2 Kc5_2 Kc6_2 Kc7_2 Kc8_2 Kc9_2 Kc10_2 Kc11_2 Kc12_2 Kc13_2 Kc14_2 Kc15_2 q_2
  have P_3 := Lib.hid (P)
  clear b
  clear P
  go_wp2_with fail
  refine (num_any _ _).mono ?_
  rintro e w' ⟨rfl, rfl⟩
  have pc1 := P_3.out.capLe
  go_wp2_with fail
  refine (HP.out _ pc _ P_3.out.bts pc1.1).mono ?_
  rintro e V4 ⟨xa, xc, ya, yc, rfl, U, Z, b⟩
  have K_4 := Lib.hid ((b.block _ Kz_3).trans K_3.out)
  have Kz_4 := Nat.lt_of_lt_of_le Kz_3 b.size
  have Kc0_4 := blk_cell K_4.out 0
  have Kc1_4 := blk_cell K_4.out 1
  have Kc2_4 := blk_cell K_4.out 2
  have Kc3_4 := blk_cell K_4.out 3
  have Kc4_4 := blk_cell K_4.out 4
  have Kc5_4 := blk_cell K_4.out 5
  have Kc6_4 := blk_cell K_4.out 6
  have Kc7_4 := blk_cell K_4.out 7
  have Kc8_4 := blk_cell K_4.out 8
  have Kc9_4 := blk_cell K_4.out 9
  have Kc10_4 := blk_cell K_4.out 10
  have Kc11_4 := blk_cell K_4.out 11
  have Kc12_4 := blk_cell K_4.out 12
  have Kc13_4 := blk_cell K_4.out 13
  have Kc14_4 := blk_cell K_4.out 14
  have Kc15_4 := blk_cell K_4.out 15
  have P_4 := Lib.hid (P_3.out.below b)
  have q_4 := q_3.trans (b.mono q_3.size)
  clear K_3 Kz_3 Kc0_3 Kc1_3 Kc2_3 Kc3_3 Kc4_3 Kc5_3 Kc6_3 Kc7_3 Kc8_3 Kc9_3 Kc10_3 Kc11_3 Kc12_3 Kc13_3 Kc14_3 Kc15_3 P_3 q_3
  have U_4 := Lib.hid (U.1)
  have Z_4 := Lib.hid (Z)
  clear b
  clear U Z
  have KN := Lib.hid (blk_new V4 (.cells #[.int .u16 0, .int .u16 0, .int .u32 0, .int .u32 0, .int .u8 0, .int .u16 0, .int .u16 0, .int .i64 0, .bool false, .int .i64 0, .bool false, .slice none 0 0, .bool false, .int .u32 0, .int .u32 0, .slice none 0 0] 27))
  have QN := Lib.hid ((Below.refl V4.heap.size V4).alloc (Nat.le_refl _) (.cells #[.int .u16 0, .int .u16 0, .int .u32 0, .int .u32 0, .int .u8 0, .int .u16 0, .int .u16 0, .int .i64 0, .bool false, .int .i64 0, .bool false, .slice none 0 0, .bool false, .int .u32 0, .int .u32 0, .slice none 0 0] 27))
  go_wp2_with ((with_reducible show wpList _ _ _ _ _ _); refine wpList_store_tcp rfl (.tmp 11) (.tmp 36) rfl V4.heap.size _ _ rfl rfl KN.out rfl rfl (by simp [Value.oneCell']) ?_; intro V5 hs2 hg2; have b := QN.out.grown hg2 QN.out.size (fun j e => by cases e; exact Nat.le_refl _); have K_5 := Lib.hid ((b.block _ Kz_4).trans K_4.out); have Kz_5 := Nat.lt_of_lt_of_le Kz_4 b.size; have Kc0_5 := blk_cell K_5.out 0; have Kc1_5 := blk_cell K_5.out 1; have Kc2_5 := blk_cell K_5.out 2; have Kc3_5 := blk_cell K_5.out 3; have Kc4_5 := blk_cell K_5.out 4; have Kc5_5 := blk_cell K_5.out 5; have Kc6_5 := blk_cell K_5.out 6; have Kc7_5 := blk_cell K_5.out 7; have Kc8_5 := blk_cell K_5.out 8; have Kc9_5 := blk_cell K_5.out 9; have Kc10_5 := blk_cell K_5.out 10; have Kc11_5 := blk_cell K_5.out 11; have Kc12_5 := blk_cell K_5.out 12; have Kc13_5 := blk_cell K_5.out 13; have Kc14_5 := blk_cell K_5.out 14; have Kc15_5 := blk_cell K_5.out 15; have P_5 := Lib.hid (P_4.out.below b); have U_5 := Lib.hid (U_4.out.below b); have Z_5 := Lib.hid (Z_4.out.below b); have q_5 := q_4.trans (b.mono q_4.size); clear K_4 Kz_4 Kc0_4 Kc1_4 Kc2_4 Kc3_4 Kc4_4 Kc5_4 Kc6_4 Kc7_4 Kc8_4 Kc9_4 Kc10_4 Kc11_4 Kc12_4 Kc13_4 Kc14_4 Kc15_4 P_4 U_4 Z_4 q_4; have S_5 := Lib.hid hs2; have Sz_5 : V4.heap.size < V5.heap.size := (Array.getElem?_eq_some_iff.1 hs2).1; have Sc0_5 := blk_cell S_5.out 0; have Sc1_5 := blk_cell S_5.out 1; have Sc2_5 := blk_cell S_5.out 2; have Sc3_5 := blk_cell S_5.out 3; have Sc4_5 := blk_cell S_5.out 4; have Sc5_5 := blk_cell S_5.out 5; have Sc6_5 := blk_cell S_5.out 6; have Sc7_5 := blk_cell S_5.out 7; have Sc8_5 := blk_cell S_5.out 8; have Sc9_5 := blk_cell S_5.out 9; have Sc10_5 := blk_cell S_5.out 10; have Sc11_5 := blk_cell S_5.out 11; have Sc12_5 := blk_cell S_5.out 12; have Sc13_5 := blk_cell S_5.out 13; have Sc14_5 := blk_cell S_5.out 14; have Sc15_5 := blk_cell S_5.out 15; clear hs2 hg2 b)
  clear KN QN
  refine (num_any _ _).mono ?_
  rintro e w' ⟨rfl, rfl⟩
  go_wp2_with fail
  refine (HS.out xa ba xc bc ya da yc dc _ U_5.out (X0.out.below q_5) Z_5.out.bts (Y0.out.below q_5)).mono ?_
  rintro e V6 ⟨rfl, b⟩
  have P_6 := Lib.hid (P_5.out.below b)
  have q_6 := q_5.trans (b.mono q_5.size)
  clear K_5 Kz_5 Kc0_5 Kc1_5 Kc2_5 Kc3_5 Kc4_5 Kc5_5 Kc6_5 Kc7_5 Kc8_5 Kc9_5 Kc10_5 Kc11_5 Kc12_5 Kc13_5 Kc14_5 Kc15_5 P_5 U_5 Z_5 S_5 Sz_5 Sc0_5 Sc1_5 Sc2_5 Sc3_5 Sc4_5 Sc5_5 Sc6_5 Sc7_5 Sc8_5 Sc9_5 Sc10_5 Sc11_5 Sc12_5 Sc13_5 Sc14_5 Sc15_5 q_5
  clear b
  go_wp2_with fail
  have PB := Lib.hid P_6.out.bts
  by_cases hS : S1 = S2
  · refine (HO.out.1 hS _ pc _ PB.out pc1.1).mono ?_
    rintro e V7 ⟨xa, xc, ya, yc, rfl, b⟩
    have P_7 := Lib.hid (P_6.out.below b)
    have q_7 := q_6.trans (b.mono q_6.size)
    clear P_6 q_6
    clear b
    have KN := Lib.hid (blk_new V7 (.cells #[.int .u16 0, .int .u16 0, .int .u32 0, .int .u32 0, .int .u8 0, .int .u16 0, .int .u16 0, .int .i64 0, .bool false, .int .i64 0, .bool false, .slice none 0 0, .bool false, .int .u32 0, .int .u32 0, .slice none 0 0] 27))
    have QN := Lib.hid ((Below.refl V7.heap.size V7).alloc (Nat.le_refl _) (.cells #[.int .u16 0, .int .u16 0, .int .u32 0, .int .u32 0, .int .u8 0, .int .u16 0, .int .u16 0, .int .i64 0, .bool false, .int .i64 0, .bool false, .slice none 0 0, .bool false, .int .u32 0, .int .u32 0, .slice none 0 0] 27))
    go_wp2_with ((with_reducible show wpList _ _ _ _ _ _); refine wpList_store_tcp rfl (.tmp 13) (.tmp 52) rfl V7.heap.size _ _ rfl rfl KN.out rfl rfl (by simp [Value.oneCell']) ?_; intro V8 hs2 hg2; have b := QN.out.grown hg2 QN.out.size (fun j e => by cases e; exact Nat.le_refl _); have P_8 := Lib.hid (P_7.out.below b); have q_8 := q_7.trans (b.mono q_7.size); clear P_7 q_7; clear hs2 hg2 b)
    clear KN QN
    refine (HQ1.out _).mono ?_
    rintro e V9 ⟨rfl, b⟩
    have P_9 := Lib.hid (P_8.out.below b)
    have q_9 := q_8.trans (b.mono q_8.size)
    clear P_8 q_8
    clear b
    go_wp2_with fail
    refine (HQ2.out _).mono ?_
    rintro e V10 ⟨rfl, b⟩
    have P_10 := Lib.hid (P_9.out.below b)
    have q_10 := q_9.trans (b.mono q_9.size)
    clear P_9 q_9
    clear b
    go_wp2_with fail
    refine (num_any _ _).mono ?_
    rintro e w' ⟨rfl, rfl⟩
    subst hS
    go_wp2
    go_ret
    exact ⟨rfl, q_10⟩
  · refine (HO.out.2 hS _ pc _ PB.out pc1.1).mono ?_
    rintro e V7 ⟨n, hn, rfl, b⟩
    have P_7 := Lib.hid (P_6.out.below b)
    have q_7 := q_6.trans (b.mono q_6.size)
    clear P_6 q_6
    clear b
    have KN := Lib.hid (blk_new V7 (.cells #[.int .u16 0, .int .u16 0, .int .u32 0, .int .u32 0, .int .u8 0, .int .u16 0, .int .u16 0, .int .i64 0, .bool false, .int .i64 0, .bool false, .slice none 0 0, .bool false, .int .u32 0, .int .u32 0, .slice none 0 0] 27))
    have QN := Lib.hid ((Below.refl V7.heap.size V7).alloc (Nat.le_refl _) (.cells #[.int .u16 0, .int .u16 0, .int .u32 0, .int .u32 0, .int .u8 0, .int .u16 0, .int .u16 0, .int .i64 0, .bool false, .int .i64 0, .bool false, .slice none 0 0, .bool false, .int .u32 0, .int .u32 0, .slice none 0 0] 27))
    go_wp2_with ((with_reducible show wpList _ _ _ _ _ _); refine wpList_store_tcp rfl (.tmp 13) (.tmp 52) rfl V7.heap.size _ _ rfl rfl KN.out rfl rfl (by simp [Value.oneCell']) ?_; intro V8 hs2 hg2; have b := QN.out.grown hg2 QN.out.size (fun j e => by cases e; exact Nat.le_refl _); have P_8 := Lib.hid (P_7.out.below b); have q_8 := q_7.trans (b.mono q_7.size); clear P_7 q_7; clear hs2 hg2 b)
    clear KN QN
    refine (HQ1.out _).mono ?_
    rintro e V9 ⟨rfl, b⟩
    have P_9 := Lib.hid (P_8.out.below b)
    have q_9 := q_8.trans (b.mono q_8.size)
    clear P_8 q_8
    clear b
    go_wp2_with fail
    refine (HQ2.out _).mono ?_
    rintro e V10 ⟨rfl, b⟩
    have P_10 := Lib.hid (P_9.out.below b)
    have q_10 := q_9.trans (b.mono q_9.size)
    clear P_9 q_9
    clear b
    go_wp2_with fail
    refine (num_any _ _).mono ?_
    rintro e w' ⟨rfl, rfl⟩
    have hs1 : ((S1 : Int) == (S2 : Int)) = false := by rw [beq_eq_false_iff_ne]; omega
    have hn1 : (n == 0) = false := by rw [beq_eq_false_iff_ne]; exact hn
    go_wp2
    go_ret
    exact ⟨rfl, q_10⟩

set_option maxRecDepth 100000 in
set_option maxHeartbeats 4000000 in
theorem walk_no (sp dp sq ak fl wn ur : Nat) (mss : Int) (hs : Bool) (sc : Int) (sk : Bool) (ba : Option Addr) (bs : List (Nat × Nat)) (bc : Nat) (ht : Bool) (tv te : Nat) (da : Option Addr) (ds : List Nat) (dc : Nat) (src dst other : Nat) (w : World) (hm : ¬ TcpMayI mss hs sc sk bs ht tv te ds.length) (hx : Blk w ba bs) (hy : Bts w da ds) (htv : tv < 4294967296) (hte : te < 4294967296) :
    Calls Try.prog 5 #[.agg #[.int .u16 sp, .int .u16 dp, .int .u32 sq, .int .u32 ak, .int .u8 fl, .int .u16 wn, .int .u16 ur, .int .i64 mss, .bool hs, .int .i64 sc, .bool sk, .slice ba bs.length bc, .bool ht, .int .u32 tv, .int .u32 te, .slice da ds.length dc], .int .u32 src, .int .u32 dst, .int .u32 other] w fun e w' => e = .returned (.bool true) ∧ Below w.heap.size w w' := by
  have hb : ∀ W, Blk W ba bs → Calls Try.prog 11 #[.agg #[.int .u16 sp, .int .u16 dp, .int .u32 sq, .int .u32 ak, .int .u8 fl, .int .u16 wn, .int .u16 ur, .int .i64 mss, .bool hs, .int .i64 sc, .bool sk, .slice ba bs.length bc, .bool ht, .int .u32 tv, .int .u32 te, .slice da ds.length dc], .int .u32 src, .int .u32 dst] W (TcpBad W) := fun W h => tcpB_bad sp dp sq ak fl wn ur mss hs sc sk ba bs bc ht tv te da ds.length dc src dst W htv hte h hm
  have HB := Lib.hid hb
  clear hb hm
  have q_0 := Below.refl w.heap.size w
  have Y0 := Lib.hid hy
  have X0 := Lib.hid hx
  clear hx hy
  go_enter Try.func5, Try.ntmps5
  go_wp2_with fail
  have b : Below w.heap.size w (w.alloc (.cells #[.int .u16 sp, .int .u16 dp, .int .u32 sq, .int .u32 ak, .int .u8 fl, .int .u16 wn, .int .u16 ur, .int .i64 mss, .bool hs, .int .i64 sc, .bool sk, .slice ba bs.length bc, .bool ht, .int .u32 tv, .int .u32 te, .slice da ds.length dc] 27)) := ((Below.refl _ w).alloc (Nat.le_refl _) (.cells #[.int .u16 sp, .int .u16 dp, .int .u32 sq, .int .u32 ak, .int .u8 fl, .int .u16 wn, .int .u16 ur, .int .i64 mss, .bool hs, .int .i64 sc, .bool sk, .slice ba bs.length bc, .bool ht, .int .u32 tv, .int .u32 te, .slice da ds.length dc] 27))
  have nb0 := blk_new w (.cells #[.int .u16 sp, .int .u16 dp, .int .u32 sq, .int .u32 ak, .int .u8 fl, .int .u16 wn, .int .u16 ur, .int .i64 mss, .bool hs, .int .i64 sc, .bool sk, .slice ba bs.length bc, .bool ht, .int .u32 tv, .int .u32 te, .slice da ds.length dc] 27)
  have nz0 : w.heap.size < (w.alloc (.cells #[.int .u16 sp, .int .u16 dp, .int .u32 sq, .int .u32 ak, .int .u8 fl, .int .u16 wn, .int .u16 ur, .int .i64 mss, .bool hs, .int .i64 sc, .bool sk, .slice ba bs.length bc, .bool ht, .int .u32 tv, .int .u32 te, .slice da ds.length dc] 27)).heap.size := by simp only [World.size_alloc]; omega
  have q_1 := q_0.trans (b.mono q_0.size)
  clear q_0
  clear b
  have K_1 := Lib.hid nb0
  have Kz_1 := nz0
  clear nb0 nz0
  have Kc0_1 := blk_cell K_1.out 0
  have Kc1_1 := blk_cell K_1.out 1
  have Kc2_1 := blk_cell K_1.out 2
  have Kc3_1 := blk_cell K_1.out 3
  have Kc4_1 := blk_cell K_1.out 4
  have Kc5_1 := blk_cell K_1.out 5
  have Kc6_1 := blk_cell K_1.out 6
  have Kc7_1 := blk_cell K_1.out 7
  have Kc8_1 := blk_cell K_1.out 8
  have Kc9_1 := blk_cell K_1.out 9
  have Kc10_1 := blk_cell K_1.out 10
  have Kc11_1 := blk_cell K_1.out 11
  have Kc12_1 := blk_cell K_1.out 12
  have Kc13_1 := blk_cell K_1.out 13
  have Kc14_1 := blk_cell K_1.out 14
  have Kc15_1 := blk_cell K_1.out 15
  generalize (w.alloc (.cells #[.int .u16 sp, .int .u16 dp, .int .u32 sq, .int .u32 ak, .int .u8 fl, .int .u16 wn, .int .u16 ur, .int .i64 mss, .bool hs, .int .i64 sc, .bool sk, .slice ba bs.length bc, .bool ht, .int .u32 tv, .int .u32 te, .slice da ds.length dc] 27)) = V1 at q_1 K_1 Kz_1 Kc0_1 Kc1_1 Kc2_1 Kc3_1 Kc4_1 Kc5_1 Kc6_1 Kc7_1 Kc8_1 Kc9_1 Kc10_1 Kc11_1 Kc12_1 Kc13_1 Kc14_1 Kc15_1 ⊢
  refine (alive_any _).mono ?_
  rintro e V2 ⟨rfl, b⟩
  have K_2 := Lib.hid ((b.block _ Kz_1).trans K_1.out)
  have Kz_2 := Nat.lt_of_lt_of_le Kz_1 b.size
  have Kc0_2 := blk_cell K_2.out 0
  have Kc1_2 := blk_cell K_2.out 1
  have Kc2_2 := blk_cell K_2.out 2
  have Kc3_2 := blk_cell K_2.out 3
  have Kc4_2 := blk_cell K_2.out 4
  have Kc5_2 := blk_cell K_2.out 5
  have Kc6_2 := blk_cell K_2.out 6
  have Kc7_2 := blk_cell K_2.out 7
  have Kc8_2 := blk_cell K_2.out 8
  have Kc9_2 := blk_cell K_2.out 9
  have Kc10_2 := blk_cell K_2.out 10
  have Kc11_2 := blk_cell K_2.out 11
  have Kc12_2 := blk_cell K_2.out 12
  have Kc13_2 := blk_cell K_2.out 13
  have Kc14_2 := blk_cell K_2.out 14
  have Kc15_2 := blk_cell K_2.out 15
  have q_2 := q_1.trans (b.mono q_1.size)
  clear K_1 Kz_1 Kc0_1 Kc1_1 Kc2_1 Kc3_1 Kc4_1 Kc5_1 Kc6_1 Kc7_1 Kc8_1 Kc9_1 Kc10_1 Kc11_1 Kc12_1 Kc13_1 Kc14_1 Kc15_1 q_1
  clear b
  go_wp2_with fail
  refine (HB.out _ (X0.out.below q_2)).mono ?_
  rintro e V3 ⟨n, hn, rfl, b⟩
  have q_3 := q_2.trans (b.mono q_2.size)
  clear K_2 Kz_2 Kc0_2 Kc1_2 Kc2_2 Kc3_2 Kc4_2 Kc5_2 Kc6_2 Kc7_2 Kc8_2 Kc9_2 Kc10_2 Kc11_2 Kc12_2 Kc13_2 Kc14_2 Kc15_2 q_2
  clear b
  go_wp2_with fail
  refine (num_any _ _).mono ?_
  rintro e w' ⟨rfl, rfl⟩
  have hn1 : (n != 0) = true := by simp [hn]
  have hn2 : (n == 0) = false := by simp [hn]
  go_wp2
  go_ret
  exact ⟨rfl, q_3⟩

theorem walk (sp dp sq ak fl wn ur : Nat) (mss : Int) (hs : Bool) (sc : Int) (sk : Bool) (ba : Option Addr) (bs : List (Nat × Nat)) (bc : Nat) (ht : Bool) (tv te : Nat) (da : Option Addr) (ds : List Nat) (dc : Nat) (src dst other : Nat) (w : World)
    (hsp : sp < 65536) (hdp : dp < 65536) (hsq : sq < 4294967296) (hak : ak < 4294967296) (hfl : fl < 256) (hwn : wn < 65536) (hur : ur < 65536) (_ : -9223372036854775808 ≤ mss) (_ : mss ≤ 9223372036854775807) (_ : -9223372036854775808 ≤ sc) (_ : sc ≤ 9223372036854775807) (hx : Blk w ba bs) (_ : ba = none → bc = 0) (_ : bs.length ≤ bc ∧ bc ≤ maxLen) (_ : bs.length ≤ 17592186043904) (htv : tv < 4294967296) (hte : te < 4294967296) (hy : Bts w da ds) (hdc : da = none → dc = 0) (_ : ds.length ≤ dc ∧ dc ≤ maxLen) (_ : ds.length ≤ 140737488351232) (hsrc : src < 4294967296) (hdst : dst < 4294967296) (hot : other < 4294967296) :
    Calls Try.prog 5 #[.agg #[.int .u16 sp, .int .u16 dp, .int .u32 sq, .int .u32 ak, .int .u8 fl, .int .u16 wn, .int .u16 ur, .int .i64 mss, .bool hs, .int .i64 sc, .bool sk, .slice ba bs.length bc, .bool ht, .int .u32 tv, .int .u32 te, .slice da ds.length dc], .int .u32 src, .int .u32 dst, .int .u32 other] w fun e w' => e = .returned (.bool true) ∧ Below w.heap.size w w' := by
  by_cases h : TcpMayI mss hs sc sk bs ht tv te ds.length
  · obtain ⟨m, c, rfl, rfl, h⟩ := h
    exact walk_may sp dp sq ak fl wn ur m hs c sk ba bs bc ht tv te da ds dc src dst other w h hsp hdp hsq hak hfl hwn hur htv hte hx hy hdc hsrc hdst hot
  · exact walk_no sp dp sq ak fl wn ur mss hs sc sk ba bs bc ht tv te da ds dc src dst other w h hx hy htv hte

theorem of_len16 {α : Type} (l : List α) (h : l.length = 16) : ∃ x0 x1 x2 x3 x4 x5 x6 x7 x8 x9 x10 x11 x12 x13 x14 x15, l = [x0, x1, x2, x3, x4, x5, x6, x7, x8, x9, x10, x11, x12, x13, x14, x15] := by
  match l, h with
  | [x0, x1, x2, x3, x4, x5, x6, x7, x8, x9, x10, x11, x12, x13, x14, x15], _ => exact ⟨x0, x1, x2, x3, x4, x5, x6, x7, x8, x9, x10, x11, x12, x13, x14, x15, rfl⟩
theorem own : ownKnob Try.prog.godebug = none := by kernel_rfl
theorem laidOut : laidOutB Try.prog = true := by kernel_rfl

set_option maxRecDepth 100000 in
set_option maxHeartbeats 2000000 in
theorem lifted (os : Os) (started : os.Started) (H : Type) (enc : TypeId × Value → H) :
    ReturnsInHanded {} Try.checked os 5 .any (Rows.tcpwireBackSpec.pre6 enc Try.prog Try.f5 Rows.tcpwireBackRow.domain false) (Rows.tcpwireBackSpec.post enc Try.prog Try.f5 false true false false) := by
  refine returnsInHanded_of_change_sized (C := Try.checked) own started (by kernel_rfl) Try.func5
    (ChangeSpec.witness6 (enc := enc) (C := Try.checked) false ⟨#[], #[.agg #[.int .u16 0, .int .u16 0, .int .u32 0, .int .u32 0, .int .u8 0, .int .u16 0, .int .u16 0, .int .i64 0, .bool false, .int .i64 0, .bool false, .slice none 0 0, .bool false, .int .u32 0, .int .u32 0, .slice none 0 0], .int .u32 0, .int .u32 0, .int .u32 0], []⟩ 8 (by kernel_rfl) (by kernel_rfl) (by kernel_rfl) (by kernel_rfl)) ?_
  intro W base args ds gs before hval0 hW hcnd hsz0 _
  have hval : ∀ (j : Nat) t v, Try.f5.params[j]? = some t → args[j]? = some v → Value.okWide Try.prog W .any base t v := hval0
  have hsz : (DataW.weightsEach Try.prog (Try.f5.params.toList ++ Rows.tcpwireBackSpec.plain.varTypes Try.prog) (ds ++ gs)).all (· ≤ reachBytes) = true := hsz0
  have hW' := hW
  obtain ⟨p, q, hA0, hV, rfl, hfz, hnd⟩ := hW
  have hA : DataW.TrodAll enc Try.prog W 0 (fun _ => true) true Try.f5.params.toList args.toList ds p := hA0
  rw [Try.params5] at hA hval hsz
  obtain ⟨v0, vs0, d0, ds0, p0, q0, hargs, rfl, rfl, h0, r0⟩ := trodAll_cons hA
  obtain ⟨v1, vs1, d1, ds1, p1, q1, rfl, rfl, rfl, h1, r1⟩ := trodAll_cons r0
  obtain ⟨v2, vs2, d2, ds2, p2, q2, rfl, rfl, rfl, h2, r2⟩ := trodAll_cons r1
  obtain ⟨v3, vs3, d3, ds3, p3, q3, rfl, rfl, rfl, h3, r3⟩ := trodAll_cons r2
  obtain ⟨rfl, rfl, rfl⟩ := trodAll_nil r3
  obtain rfl : args = #[v0, v1, v2, v3] := by cases args; simp_all
  obtain ⟨rfl, rfl⟩ := trodVars_none hV
  have k0 := h0
  have lt0 : ∀ x ∈ p0, x.block < W.heap.size := by obtain ⟨m, hm⟩ := k0; exact DataW.trod_lt m _ _ _ hm
  obtain ⟨vs0', ys0', m0, rfl, lv0, ly0, hd0, F0⟩ := open_agg Try.underlying27 (by kernel_rfl) (by kernel_rfl) (hval 0 27 v0 rfl rfl) h0
  obtain ⟨c0_0, c0_1, c0_2, c0_3, c0_4, c0_5, c0_6, c0_7, c0_8, c0_9, c0_10, c0_11, c0_12, c0_13, c0_14, c0_15, rfl⟩ := of_len16 _ lv0
  obtain ⟨y0_0, y0_1, y0_2, y0_3, y0_4, y0_5, y0_6, y0_7, y0_8, y0_9, y0_10, y0_11, y0_12, y0_13, y0_14, y0_15, rfl⟩ := of_len16 _ ly0
  simp only [List.map_cons, List.map_nil] at hd0
  obtain ⟨_, _, e, g, t0_0⟩ := F0 0 _ rfl
  obtain rfl := Option.some.inj e; obtain rfl := Option.some.inj g; clear e g
  obtain ⟨z0_0, e, _, w0_0⟩ := DataW.trod_int Try.underlying22 t0_0
  obtain rfl := (List.cons.inj e).1; clear e
  obtain ⟨n0_0, rfl, hn0_0⟩ := nat_of_u16 w0_0
  obtain ⟨_, _, e, g, t0_1⟩ := F0 1 _ rfl
  obtain rfl := Option.some.inj e; obtain rfl := Option.some.inj g; clear e g
  obtain ⟨z0_1, e, _, w0_1⟩ := DataW.trod_int Try.underlying22 t0_1
  obtain rfl := (List.cons.inj e).1; clear e
  obtain ⟨n0_1, rfl, hn0_1⟩ := nat_of_u16 w0_1
  obtain ⟨_, _, e, g, t0_2⟩ := F0 2 _ rfl
  obtain rfl := Option.some.inj e; obtain rfl := Option.some.inj g; clear e g
  obtain ⟨z0_2, e, _, w0_2⟩ := DataW.trod_int Try.underlying23 t0_2
  obtain rfl := (List.cons.inj e).1; clear e
  obtain ⟨n0_2, rfl, hn0_2⟩ := nat_of_u32 w0_2
  obtain ⟨_, _, e, g, t0_3⟩ := F0 3 _ rfl
  obtain rfl := Option.some.inj e; obtain rfl := Option.some.inj g; clear e g
  obtain ⟨z0_3, e, _, w0_3⟩ := DataW.trod_int Try.underlying23 t0_3
  obtain rfl := (List.cons.inj e).1; clear e
  obtain ⟨n0_3, rfl, hn0_3⟩ := nat_of_u32 w0_3
  obtain ⟨_, _, e, g, t0_4⟩ := F0 4 _ rfl
  obtain rfl := Option.some.inj e; obtain rfl := Option.some.inj g; clear e g
  obtain ⟨z0_4, e, _, w0_4⟩ := DataW.trod_int Try.underlying5 t0_4
  obtain rfl := (List.cons.inj e).1; clear e
  obtain ⟨n0_4, rfl, hn0_4⟩ := nat_of_u8 w0_4
  obtain ⟨_, _, e, g, t0_5⟩ := F0 5 _ rfl
  obtain rfl := Option.some.inj e; obtain rfl := Option.some.inj g; clear e g
  obtain ⟨z0_5, e, _, w0_5⟩ := DataW.trod_int Try.underlying22 t0_5
  obtain rfl := (List.cons.inj e).1; clear e
  obtain ⟨n0_5, rfl, hn0_5⟩ := nat_of_u16 w0_5
  obtain ⟨_, _, e, g, t0_6⟩ := F0 6 _ rfl
  obtain rfl := Option.some.inj e; obtain rfl := Option.some.inj g; clear e g
  obtain ⟨z0_6, e, _, w0_6⟩ := DataW.trod_int Try.underlying22 t0_6
  obtain rfl := (List.cons.inj e).1; clear e
  obtain ⟨n0_6, rfl, hn0_6⟩ := nat_of_u16 w0_6
  obtain ⟨_, _, e, g, t0_7⟩ := F0 7 _ rfl
  obtain rfl := Option.some.inj e; obtain rfl := Option.some.inj g; clear e g
  obtain ⟨z0_7, e, _, w0_7⟩ := DataW.trod_int Try.underlying3 t0_7
  obtain rfl := (List.cons.inj e).1; clear e
  obtain ⟨lo0_7, hi0_7⟩ := bounds_i64 w0_7
  obtain ⟨_, _, e, g, t0_8⟩ := F0 8 _ rfl
  obtain rfl := Option.some.inj e; obtain rfl := Option.some.inj g; clear e g
  obtain ⟨b0_8, e, _⟩ := DataW.trod_bool Try.underlying4 t0_8
  obtain rfl := (List.cons.inj e).1; clear e
  obtain ⟨_, _, e, g, t0_9⟩ := F0 9 _ rfl
  obtain rfl := Option.some.inj e; obtain rfl := Option.some.inj g; clear e g
  obtain ⟨z0_9, e, _, w0_9⟩ := DataW.trod_int Try.underlying3 t0_9
  obtain rfl := (List.cons.inj e).1; clear e
  obtain ⟨lo0_9, hi0_9⟩ := bounds_i64 w0_9
  obtain ⟨_, _, e, g, t0_10⟩ := F0 10 _ rfl
  obtain rfl := Option.some.inj e; obtain rfl := Option.some.inj g; clear e g
  obtain ⟨b0_10, e, _⟩ := DataW.trod_bool Try.underlying4 t0_10
  obtain rfl := (List.cons.inj e).1; clear e
  obtain ⟨_, _, e, g, t0_11⟩ := F0 11 _ rfl
  obtain rfl := Option.some.inj e; obtain rfl := Option.some.inj g; clear e g
  obtain ⟨a0_11, bs0_11, cap0_11, rfl, hbk0_11, hcap0_11, hlc0_11, hq0_11⟩ := open_blocks t0_11
  obtain ⟨_, _, e, g, t0_12⟩ := F0 12 _ rfl
  obtain rfl := Option.some.inj e; obtain rfl := Option.some.inj g; clear e g
  obtain ⟨b0_12, e, _⟩ := DataW.trod_bool Try.underlying4 t0_12
  obtain rfl := (List.cons.inj e).1; clear e
  obtain ⟨_, _, e, g, t0_13⟩ := F0 13 _ rfl
  obtain rfl := Option.some.inj e; obtain rfl := Option.some.inj g; clear e g
  obtain ⟨z0_13, e, _, w0_13⟩ := DataW.trod_int Try.underlying23 t0_13
  obtain rfl := (List.cons.inj e).1; clear e
  obtain ⟨n0_13, rfl, hn0_13⟩ := nat_of_u32 w0_13
  obtain ⟨_, _, e, g, t0_14⟩ := F0 14 _ rfl
  obtain rfl := Option.some.inj e; obtain rfl := Option.some.inj g; clear e g
  obtain ⟨z0_14, e, _, w0_14⟩ := DataW.trod_int Try.underlying23 t0_14
  obtain rfl := (List.cons.inj e).1; clear e
  obtain ⟨n0_14, rfl, hn0_14⟩ := nat_of_u32 w0_14
  obtain ⟨_, _, e, g, t0_15⟩ := F0 15 _ rfl
  obtain rfl := Option.some.inj e; obtain rfl := Option.some.inj g; clear e g
  obtain ⟨a0_15, xs0_15, cap0_15, rfl, hbt0_15, hcap0_15, hlc0_15, hq0_15⟩ := open_bytes t0_15
  obtain ⟨a1, rfl, rfl, rfl, w1⟩ := open_int Try.underlying23 (hval 1 23 v1 rfl rfl) h1
  obtain ⟨a2, rfl, rfl, rfl, w2⟩ := open_int Try.underlying23 (hval 2 23 v2 rfl rfl) h2
  obtain ⟨a3, rfl, rfl, rfl, w3⟩ := open_int Try.underlying23 (hval 3 23 v3 rfl rfl) h3
  have hre0_11 : bs0_11.length ≤ 17592186043904 := blocks_reach hq0_11 (sized_field hsz (j := 0) (i := 11) (t := 27) rfl (by rw [hd0]; rfl) Try.underlying27 rfl rfl)
  have hre0_15 : xs0_15.length ≤ 140737488351232 := bytes_reach hq0_15 (sized_field hsz (j := 0) (i := 15) (t := 27) rfl (by rw [hd0]; rfl) Try.underlying27 rfl rfl)
  clear hA0 hval0 hsz hsz0
  obtain ⟨n1, rfl, hn1⟩ := nat_of_u32 w1
  obtain ⟨n2, rfl, hn2⟩ := nat_of_u32 w2
  obtain ⟨n3, rfl, hn3⟩ := nat_of_u32 w3
  refine (walk n0_0 n0_1 n0_2 n0_3 n0_4 n0_5 n0_6 z0_7 b0_8 z0_9 b0_10 a0_11 bs0_11 cap0_11 b0_12 n0_13 n0_14 a0_15 xs0_15 cap0_15 n1 n2 n3 W hn0_0 hn0_1 hn0_2 hn0_3 hn0_4 hn0_5 hn0_6 lo0_7 hi0_7 lo0_9 hi0_9 hbk0_11 hcap0_11 hlc0_11 hre0_11 hn0_13 hn0_14 hbt0_15 hcap0_15 hlc0_15 hre0_15 hn1 hn2 hn3).mono fun e W' ⟨he, bel⟩ => ?_
  subst he
  exact ⟨_, rfl, _, _, _, [], _, [], hW', trodAll_mk1 (shut_bool Try.underlying4 _), (trodAll_cons_mk (Below.trod laidOut (by kernel_rfl) (of_decide_eq_true (by kernel_rfl)) k0 bel lt0) (trodAll_cons_mk (shut_int Try.underlying23 w1) (trodAll_cons_mk (shut_int Try.underlying23 w2) (trodAll_cons_mk (shut_int Try.underlying23 w3) trodAll_mk0)))), rfl, bel.frame _, fun h => by cases h⟩

theorem over : Rows.tcpwireBackRow.holds Try.pinned (OpenSpec.ofChange Rows.tcpwireBackSpec) :=
  OpenClaim.holds_of_wide 5 Try.f5 rfl rfl rfl rfl rfl rfl rfl ⟨rfl, rfl, rfl, rfl, rfl⟩ rfl rfl rfl rfl rfl (by kernel_rfl) Try.func5 (by kernel_rfl)
    (of_decide_eq_true (by kernel_rfl)) (by unfold Func.isWrapper; first | (rw [if_pos (by decide +kernel)]; kernel_rfl) | (rw [if_neg (by decide +kernel)]; exact ⟨rfl, rfl⟩))
    (fun os started H enc _ => lifted os started H enc)

end Go.Proofs.Ytiamigajnnbdgaa.tcpwireBack
namespace Go.Proofs.Ytiamigajnnbdgaa
/-- The statement. -/
theorem tcpwireBack_holds : Rows.TcpwireBackSaid := tcpwireBack.over
#print axioms tcpwireBack_holds
end Go.Proofs.Ytiamigajnnbdgaa
