/- For every segment and every bit of its octets: with the bit turned it is read as no segment. No condition. -/
import Derived.Test.YtiamigajnnbdgaaRows
import Derived.Test.YtiamigajnnbdgaaAlive5
import Derived.Test.YtiamigajnnbdgaaTcpBb
import Derived.Test.YtiamigajnnbdgaaGStruct
import Derived.Test.YtiamigajnnbdgaaGBlocks
import Derived.ProofKit
import Derived.OpenShut
import Derived.ShutString
import Derived.ChangeOld
import Derived.SizedLaws
import Derived.Test.YtiamigajnnbdgaaTcpT
import Derived.Laws.ShiftsVarLaws
import Derived.Deep.RegionHeld3
import Derived.StillTailTactics
namespace Go.Proofs.Ytiamigajnnbdgaa.tcpwireFinds
open Go.ChangeShapes Go.WideShapes Go.ChangeAt Go.RowKit Go.Proofs.Ytiamigajnnbdgaa.law5
open Go.ChangeMaps (open_string shut_string)

set_option maxRecDepth 100000 in
set_option maxHeartbeats 4000000 in
theorem walk_may (sp dp sq ak fl wn ur mss : Nat) (hs : Bool) (sc : Nat) (sk : Bool) (ba : Option Addr) (bs : List (Nat × Nat)) (bc : Nat) (ht : Bool) (tv te : Nat) (da : Option Addr) (ds : List Nat) (dc : Nat) (src dst : Nat) (at0 : Int) (w : World) (hm : TcpMay mss hs sc sk bs ht tv te ds.length) (hsp : sp < 65536) (hdp : dp < 65536) (hsq : sq < 4294967296) (hak : ak < 4294967296) (hfl : fl < 256) (hwn : wn < 65536) (hur : ur < 65536) (htv : tv < 4294967296) (hte : te < 4294967296) (hx : Blk w ba bs) (hy : Bts w da ds) (hdc : da = none → dc = 0) (hsrc : src < 4294967296) (hdst : dst < 4294967296) (_ : -9223372036854775808 ≤ at0) (_ : at0 ≤ 9223372036854775807) :
    Calls Try.prog 6 #[.agg #[.int .u16 sp, .int .u16 dp, .int .u32 sq, .int .u32 ak, .int .u8 fl, .int .u16 wn, .int .u16 ur, .int .i64 mss, .bool hs, .int .i64 sc, .bool sk, .slice ba bs.length bc, .bool ht, .int .u32 tv, .int .u32 te, .slice da ds.length dc], .int .u32 src, .int .u32 dst, .int .i64 at0] w fun e w' => e = .returned (.bool true) ∧ Below w.heap.size w w' := by
  obtain ⟨R, hR⟩ : ∃ R, tcpO sp dp sq ak fl wn ur mss hs sc sk bs ht tv te ds src dst = R := ⟨_, rfl⟩
  obtain ⟨hok, hhd, hrd, hdd, hRl, hRx, hP0⟩ := tcp_back sp dp sq ak fl wn ur mss hs sc sk bs ht tv te ds src dst hm hsp hdp hsq hak hfl hwn hur htv hte hsrc hdst hx.1 hy.1 R hR
  have hRm : 20 ≤ R.length ∧ R.length ≤ 65535 := ⟨hok.1, hok.2.1⟩
  have hbx := hx.1
  have hyx := hy.1
  have hb : ∀ W, Blk W ba bs → Bts W da ds → Calls Try.prog 11 #[.agg #[.int .u16 sp, .int .u16 dp, .int .u32 sq, .int .u32 ak, .int .u8 fl, .int .u16 wn, .int .u16 ur, .int .i64 mss, .bool hs, .int .i64 sc, .bool sk, .slice ba bs.length bc, .bool ht, .int .u32 tv, .int .u32 te, .slice da ds.length dc], .int .u32 src, .int .u32 dst] W fun e w' => ∃ g cap', e = .returned (.tuple #[.slice (some ⟨g, 0, none⟩) R.length cap', .int .i64 0]) ∧ OwnSl (W.heap.size + 1) (some ⟨g, 0, none⟩) R cap' w' ∧ Below W.heap.size W w' := fun W h h' => by
    have h1 := tcpB_ok sp dp sq ak fl wn ur mss hs sc sk ba bs bc ht tv te da ds dc src dst W hm hsp hdp hsq hak hfl hwn hur htv hte hsrc hdst h' hdc h
    rw [hR, ← hRl] at h1
    exact h1
  have hflip := tturn_list R hRx src dst hsrc hdst hok.2.2.2.2
  have hbad : ∀ a Q c W, Bts W a Q → Q.length = R.length → ¬ TcpOk Q src dst → Calls Try.prog 13 #[.slice a R.length c, .int .u32 src, .int .u32 dst] W fun e w' => ∃ n : Int, n ≠ 0 ∧ e = .returned (.tuple #[.agg #[.int .u16 0, .int .u16 0, .int .u32 0, .int .u32 0, .int .u8 0, .int .u16 0, .int .u16 0, .int .i64 0, .bool false, .int .i64 0, .bool false, .slice none 0 0, .bool false, .int .u32 0, .int .u32 0, .slice none 0 0], .int .i64 n]) ∧ Below W.heap.size W w' := fun a Q c W h hl hk => by
    have h1 := tcpP_none a Q c src dst W h hsrc hdst (by omega) hk
    rw [hl] at h1
    refine h1.mono ?_
    rintro e w' ⟨⟨n, hn, rfl⟩, hb⟩
    exact ⟨n, hn, rfl, hb⟩
  have HB := Lib.hid hb
  have HL := Lib.hid hflip
  have HBad := Lib.hid hbad
  clear hb hok hhd hrd hdd hRl hP0 hR hm hbx hyx hflip hbad
  have q_0 := Below.refl w.heap.size w
  have Y0 := Lib.hid hy
  have X0 := Lib.hid hx
  clear hx hy
  go_enter Try.func6, Try.ntmps6
  go_wp2_with fail
  have b : Below w.heap.size w (w.alloc (.cells #[.int .u16 sp, .int .u16 dp, .int .u32 sq, .int .u32 ak, .int .u8 fl, .int .u16 wn, .int .u16 ur, .int .i64 mss, .bool hs, .int .i64 sc, .bool sk, .slice ba bs.length bc, .bool ht, .int .u32 tv, .int .u32 te, .slice da ds.length dc] 27)) := ((Below.refl _ w).alloc (Nat.le_refl _) (.cells #[.int .u16 sp, .int .u16 dp, .int .u32 sq, .int .u32 ak, .int .u8 fl, .int .u16 wn, .int .u16 ur, .int .i64 mss, .bool hs, .int .i64 sc, .bool sk, .slice ba bs.length bc, .bool ht, .int .u32 tv, .int .u32 te, .slice da ds.length dc] 27))
  have nb0 := blk_new w (.cells #[.int .u16 sp, .int .u16 dp, .int .u32 sq, .int .u32 ak, .int .u8 fl, .int .u16 wn, .int .u16 ur, .int .i64 mss, .bool hs, .int .i64 sc, .bool sk, .slice ba bs.length bc, .bool ht, .int .u32 tv, .int .u32 te, .slice da ds.length dc] 27)
  have nz0 : w.heap.size < (w.alloc (.cells #[.int .u16 sp, .int .u16 dp, .int .u32 sq, .int .u32 ak, .int .u8 fl, .int .u16 wn, .int .u16 ur, .int .i64 mss, .bool hs, .int .i64 sc, .bool sk, .slice ba bs.length bc, .bool ht, .int .u32 tv, .int .u32 te, .slice da ds.length dc] 27)).heap.size := by simp only [World.size_alloc]; omega
  have q_1 := q_0.trans (b.mono q_0.size)
  clear q_0
  clear b
  have K_1 := Lib.hid nb0
  have Kz_1 := nz0
  clear nb0 nz0
  have Kc0_1 := blk_cell K_1.out 0
  have Kc1_1 := blk_cell K_1.out 1
  have Kc2_1 := blk_cell K_1.out 2
  have Kc3_1 := blk_cell K_1.out 3
  have Kc4_1 := blk_cell K_1.out 4
  have Kc5_1 := blk_cell K_1.out 5
  have Kc6_1 := blk_cell K_1.out 6
  have Kc7_1 := blk_cell K_1.out 7
  have Kc8_1 := blk_cell K_1.out 8
  have Kc9_1 := blk_cell K_1.out 9
  have Kc10_1 := blk_cell K_1.out 10
  have Kc11_1 := blk_cell K_1.out 11
  have Kc12_1 := blk_cell K_1.out 12
  have Kc13_1 := blk_cell K_1.out 13
  have Kc14_1 := blk_cell K_1.out 14
  have Kc15_1 := blk_cell K_1.out 15
  generalize (w.alloc (.cells #[.int .u16 sp, .int .u16 dp, .int .u32 sq, .int .u32 ak, .int .u8 fl, .int .u16 wn, .int .u16 ur, .int .i64 mss, .bool hs, .int .i64 sc, .bool sk, .slice ba bs.length bc, .bool ht, .int .u32 tv, .int .u32 te, .slice da ds.length dc] 27)) = V1 at q_1 K_1 Kz_1 Kc0_1 Kc1_1 Kc2_1 Kc3_1 Kc4_1 Kc5_1 Kc6_1 Kc7_1 Kc8_1 Kc9_1 Kc10_1 Kc11_1 Kc12_1 Kc13_1 Kc14_1 Kc15_1 ⊢
  refine (alive_any _).mono ?_
  rintro e V2 ⟨rfl, b⟩
  have K_2 := Lib.hid ((b.block _ Kz_1).trans K_1.out)
  have Kz_2 := Nat.lt_of_lt_of_le Kz_1 b.size
  have Kc0_2 := blk_cell K_2.out 0
  have Kc1_2 := blk_cell K_2.out 1
  have Kc2_2 := blk_cell K_2.out 2
  have Kc3_2 := blk_cell K_2.out 3
  have Kc4_2 := blk_cell K_2.out 4
  have Kc5_2 := blk_cell K_2.out 5
  have Kc6_2 := blk_cell K_2.out 6
  have Kc7_2 := blk_cell K_2.out 7
  have Kc8_2 := blk_cell K_2.out 8
  have Kc9_2 := blk_cell K_2.out 9
  have Kc10_2 := blk_cell K_2.out 10
  have Kc11_2 := blk_cell K_2.out 11
  have Kc12_2 := blk_cell K_2.out 12
  have Kc13_2 := blk_cell K_2.out 13
  have Kc14_2 := blk_cell K_2.out 14
  have Kc15_2 := blk_cell K_2.out 15
  have q_2 := q_1.trans (b.mono q_1.size)
  clear K_1 Kz_1 Kc0_1 Kc1_1 Kc2_1 Kc3_1 Kc4_1 Kc5_1 Kc6_1 Kc7_1 Kc8_1 Kc9_1 Kc10_1 Kc11_1 Kc12_1 Kc13_1 Kc14_1 Kc15_1 q_1
  clear b
  have qs := q_2.size
  go_wp2_with fail
  refine (HB.out _ (X0.out.below q_2) (Y0.out.below q_2)).mono ?_
  rintro e V3 ⟨pg, pc, rfl, P, b⟩
  have q_3 := q_2.trans (b.mono q_2.size)
  clear K_2 Kz_2 Kc0_2 Kc1_2 Kc2_2 Kc3_2 Kc4_2 Kc5_2 Kc6_2 Kc7_2 Kc8_2 Kc9_2 Kc10_2 Kc11_2 Kc12_2 Kc13_2 Kc14_2 Kc15_2 q_2
  have P_3 := Lib.hid (P)
  clear b
  clear P
  go_wp2_with fail
  refine (num_any _ _).mono ?_
  rintro e w' ⟨rfl, rfl⟩
  obtain ⟨N, hN⟩ : ∃ N : Nat, 8 * R.length = N := ⟨_, rfl⟩
  have hNi : (8 : Int) * (R.length : Int) = (N : Int) := by omega
  have hNw : wrap64 ((8 : Int) * (R.length : Int)) = (N : Int) := by rw [hNi]; exact IntWalk.wrap64_in _ (by omega)
  have hNb : N ≤ 560000 ∧ 0 < N := by omega
  have hN0 : ((N : Int) == 0) = false := by rw [beq_eq_false_iff_ne]; omega
  have hN1 : ¬ ((N : Int) = 0) := by omega
  obtain ⟨hwj, hwp, j, hjt, hjn⟩ := tturn_w N hNb.2 hNb.1 at0
  obtain ⟨g, hg, gB, gLt⟩ := P_3.out.isSome (by omega)
  obtain rfl : pg = g := by injection hg with h; injection h
  obtain ⟨i, s, hs8, hd8, hm8, hd9, hm9, hiR, hq3, hq4, ib0⟩ := tturn_place R.length j (by omega) (by omega)
  have ib1 : (i : Int) < (R.length : Int) := Int.ofNat_lt.2 hiR
  have hpB : w.heap.size ≤ pg := by omega
  obtain ⟨pw, hpe, pw8, hsh, hsh2⟩ := tturn_pow s hs8
  have HS1 := Lib.hid hsh
  have HS2 := Lib.hid hsh2
  clear hsh hsh2
  have HK := Lib.hid (HL.out i s pw hiR hs8 hpe pw8)
  clear HL hpe
  have hc1 := P_3.out.cellAt i hiR
  have hf1 := P_3.out.frozenAt i
  obtain ⟨hxr, hv, hQl, hF⟩ := HK.out
  have hv1 : bits .xor .u8 ((R[i]'hiR : Nat) : Int) (IntKind.u8.wrap ((2 : Int) ^ s)) = ((R.getD i 0 ^^^ pw : Nat) : Int) := by
    rw [show IntKind.u8.wrap ((2 : Int) ^ s) = (pw : Int) by rw [IntKind.wrap_u8']; exact HS1.out]
    have h0 : R.getD i 0 = R[i] := by rw [List.getD_eq_getElem?_getD, List.getElem?_eq_getElem hiR]; rfl
    rw [← h0]; exact hxr
  generalize R.getD i 0 ^^^ pw = ow at hv1 hxr hv hQl hF
  have P5 := Lib.hid (P_3.out.below (Below.refl _ _).drew)
  have hc5 := P5.out.cellAt i hiR
  have hf5 := P5.out.frozenAt i
  have T := P5.out.store i ow hv
  have q9 := (q_3.trans (Below.refl _ _).drew).setCell (p := ⟨pg, i, none⟩) hpB (.int .u8 (ow : Nat))
  generalize R.set i ow = Q at T hQl hF
  have HQ := Lib.hid hQl
  have HV1 := Lib.hid hv1
  clear hv1
  have HT := Lib.hid T
  have HF := Lib.hid hF
  clear hQl T hF hv P5 P_3 q_3 HK hpB
  have hnn : ¬ ((s : Int) < 0) := Int.not_lt.2 (Int.natCast_nonneg s)
  go_wp2_with fail
  go_still_tail 10, (by kernel_rfl)
  rw [HV1.out]
  change wpList _ _ _ _ _ V3.drew
  generalize V3.drew = V4 at hc5 hf5 HT q9 ⊢
  clear hc1 hf1 hxr
  go_wp2_with fail
  generalize V4.setCell ⟨pg, i, none⟩ (.int .u8 (ow : Nat)) = V5 at HT q9 ⊢
  clear hc5 hf5
  have HP := Lib.hid (HBad.out (some ⟨pg, 0, none⟩) Q pc V5 HT.out.bts HQ.out HF.out)
  have q_4 := q9
  clear q9 HBad HS1 HS2 HV1 HT HF HQ hjt hwj hwp hd8 hm8 hd9 hm9 hq3 hq4 hN hNi hNw hNb hN0 hN1 hjn ib0 ib1
  go_wp2_with fail
  refine (HP.out).mono ?_
  rintro e V6 ⟨n, hn, rfl, b⟩
  have q_5 := q_4.trans (b.mono q_4.size)
  clear q_4
  clear b
  have KN := Lib.hid (blk_new V6 (.cells #[.int .u16 0, .int .u16 0, .int .u32 0, .int .u32 0, .int .u8 0, .int .u16 0, .int .u16 0, .int .i64 0, .bool false, .int .i64 0, .bool false, .slice none 0 0, .bool false, .int .u32 0, .int .u32 0, .slice none 0 0] 27))
  have QN := Lib.hid ((Below.refl V6.heap.size V6).alloc (Nat.le_refl _) (.cells #[.int .u16 0, .int .u16 0, .int .u32 0, .int .u32 0, .int .u8 0, .int .u16 0, .int .u16 0, .int .i64 0, .bool false, .int .i64 0, .bool false, .slice none 0 0, .bool false, .int .u32 0, .int .u32 0, .slice none 0 0] 27))
  go_wp2_with ((with_reducible show wpList _ _ _ _ _ _); refine wpList_store_tcp rfl (.tmp 12) (.tmp 54) rfl V6.heap.size _ _ rfl rfl KN.out rfl rfl (by simp [Value.oneCell']) ?_; intro V7 hs2 hg2; have b := QN.out.grown hg2 QN.out.size (fun j e => by cases e; exact Nat.le_refl _); have q_6 := q_5.trans (b.mono q_5.size); clear q_5; have S_6 := Lib.hid hs2; have Sz_6 : V6.heap.size < V7.heap.size := (Array.getElem?_eq_some_iff.1 hs2).1; have Sc15_6 := blk_cell S_6.out 15; clear hs2 hg2 b)
  clear KN QN
  refine (num_any _ _).mono ?_
  rintro e w' ⟨rfl, rfl⟩
  have hn1 : (n != 0) = true := by rw [bne_iff_ne]; exact hn
  have hn2 : (n == 0) = false := by rw [beq_eq_false_iff_ne]; exact hn
  go_wp2
  go_ret
  exact ⟨rfl, q_6⟩

set_option maxRecDepth 100000 in
set_option maxHeartbeats 4000000 in
theorem walk_no (sp dp sq ak fl wn ur : Nat) (mss : Int) (hs : Bool) (sc : Int) (sk : Bool) (ba : Option Addr) (bs : List (Nat × Nat)) (bc : Nat) (ht : Bool) (tv te : Nat) (da : Option Addr) (ds : List Nat) (dc : Nat) (src dst : Nat) (at0 : Int) (w : World) (hm : ¬ TcpMayI mss hs sc sk bs ht tv te ds.length) (hx : Blk w ba bs) (hy : Bts w da ds) (htv : tv < 4294967296) (hte : te < 4294967296) :
    Calls Try.prog 6 #[.agg #[.int .u16 sp, .int .u16 dp, .int .u32 sq, .int .u32 ak, .int .u8 fl, .int .u16 wn, .int .u16 ur, .int .i64 mss, .bool hs, .int .i64 sc, .bool sk, .slice ba bs.length bc, .bool ht, .int .u32 tv, .int .u32 te, .slice da ds.length dc], .int .u32 src, .int .u32 dst, .int .i64 at0] w fun e w' => e = .returned (.bool true) ∧ Below w.heap.size w w' := by
  have hb : ∀ W, Blk W ba bs → Calls Try.prog 11 #[.agg #[.int .u16 sp, .int .u16 dp, .int .u32 sq, .int .u32 ak, .int .u8 fl, .int .u16 wn, .int .u16 ur, .int .i64 mss, .bool hs, .int .i64 sc, .bool sk, .slice ba bs.length bc, .bool ht, .int .u32 tv, .int .u32 te, .slice da ds.length dc], .int .u32 src, .int .u32 dst] W (TcpBad W) := fun W h => tcpB_bad sp dp sq ak fl wn ur mss hs sc sk ba bs bc ht tv te da ds.length dc src dst W htv hte h hm
  have HB := Lib.hid hb
  clear hb hm
  have q_0 := Below.refl w.heap.size w
  have Y0 := Lib.hid hy
  have X0 := Lib.hid hx
  clear hx hy
  go_enter Try.func6, Try.ntmps6
  go_wp2_with fail
  have b : Below w.heap.size w (w.alloc (.cells #[.int .u16 sp, .int .u16 dp, .int .u32 sq, .int .u32 ak, .int .u8 fl, .int .u16 wn, .int .u16 ur, .int .i64 mss, .bool hs, .int .i64 sc, .bool sk, .slice ba bs.length bc, .bool ht, .int .u32 tv, .int .u32 te, .slice da ds.length dc] 27)) := ((Below.refl _ w).alloc (Nat.le_refl _) (.cells #[.int .u16 sp, .int .u16 dp, .int .u32 sq, .int .u32 ak, .int .u8 fl, .int .u16 wn, .int .u16 ur, .int .i64 mss, .bool hs, .int .i64 sc, .bool sk, .slice ba bs.length bc, .bool ht, .int .u32 tv, .int .u32 te, .slice da ds.length dc] 27))
  have nb0 := blk_new w (.cells #[.int .u16 sp, .int .u16 dp, .int .u32 sq, .int .u32 ak, .int .u8 fl, .int .u16 wn, .int .u16 ur, .int .i64 mss, .bool hs, .int .i64 sc, .bool sk, .slice ba bs.length bc, .bool ht, .int .u32 tv, .int .u32 te, .slice da ds.length dc] 27)
  have nz0 : w.heap.size < (w.alloc (.cells #[.int .u16 sp, .int .u16 dp, .int .u32 sq, .int .u32 ak, .int .u8 fl, .int .u16 wn, .int .u16 ur, .int .i64 mss, .bool hs, .int .i64 sc, .bool sk, .slice ba bs.length bc, .bool ht, .int .u32 tv, .int .u32 te, .slice da ds.length dc] 27)).heap.size := by simp only [World.size_alloc]; omega
  have q_1 := q_0.trans (b.mono q_0.size)
  clear q_0
  clear b
  have K_1 := Lib.hid nb0
  have Kz_1 := nz0
  clear nb0 nz0
  have Kc0_1 := blk_cell K_1.out 0
  have Kc1_1 := blk_cell K_1.out 1
  have Kc2_1 := blk_cell K_1.out 2
  have Kc3_1 := blk_cell K_1.out 3
  have Kc4_1 := blk_cell K_1.out 4
  have Kc5_1 := blk_cell K_1.out 5
  have Kc6_1 := blk_cell K_1.out 6
  have Kc7_1 := blk_cell K_1.out 7
  have Kc8_1 := blk_cell K_1.out 8
  have Kc9_1 := blk_cell K_1.out 9
  have Kc10_1 := blk_cell K_1.out 10
  have Kc11_1 := blk_cell K_1.out 11
  have Kc12_1 := blk_cell K_1.out 12
  have Kc13_1 := blk_cell K_1.out 13
  have Kc14_1 := blk_cell K_1.out 14
  have Kc15_1 := blk_cell K_1.out 15
  generalize (w.alloc (.cells #[.int .u16 sp, .int .u16 dp, .int .u32 sq, .int .u32 ak, .int .u8 fl, .int .u16 wn, .int .u16 ur, .int .i64 mss, .bool hs, .int .i64 sc, .bool sk, .slice ba bs.length bc, .bool ht, .int .u32 tv, .int .u32 te, .slice da ds.length dc] 27)) = V1 at q_1 K_1 Kz_1 Kc0_1 Kc1_1 Kc2_1 Kc3_1 Kc4_1 Kc5_1 Kc6_1 Kc7_1 Kc8_1 Kc9_1 Kc10_1 Kc11_1 Kc12_1 Kc13_1 Kc14_1 Kc15_1 ⊢
  refine (alive_any _).mono ?_
  rintro e V2 ⟨rfl, b⟩
  have K_2 := Lib.hid ((b.block _ Kz_1).trans K_1.out)
  have Kz_2 := Nat.lt_of_lt_of_le Kz_1 b.size
  have Kc0_2 := blk_cell K_2.out 0
  have Kc1_2 := blk_cell K_2.out 1
  have Kc2_2 := blk_cell K_2.out 2
  have Kc3_2 := blk_cell K_2.out 3
  have Kc4_2 := blk_cell K_2.out 4
  have Kc5_2 := blk_cell K_2.out 5
  have Kc6_2 := blk_cell K_2.out 6
  have Kc7_2 := blk_cell K_2.out 7
  have Kc8_2 := blk_cell K_2.out 8
  have Kc9_2 := blk_cell K_2.out 9
  have Kc10_2 := blk_cell K_2.out 10
  have Kc11_2 := blk_cell K_2.out 11
  have Kc12_2 := blk_cell K_2.out 12
  have Kc13_2 := blk_cell K_2.out 13
  have Kc14_2 := blk_cell K_2.out 14
  have Kc15_2 := blk_cell K_2.out 15
  have q_2 := q_1.trans (b.mono q_1.size)
  clear K_1 Kz_1 Kc0_1 Kc1_1 Kc2_1 Kc3_1 Kc4_1 Kc5_1 Kc6_1 Kc7_1 Kc8_1 Kc9_1 Kc10_1 Kc11_1 Kc12_1 Kc13_1 Kc14_1 Kc15_1 q_1
  clear b
  go_wp2_with fail
  refine (HB.out _ (X0.out.below q_2)).mono ?_
  rintro e V3 ⟨n, hn, rfl, b⟩
  have q_3 := q_2.trans (b.mono q_2.size)
  clear K_2 Kz_2 Kc0_2 Kc1_2 Kc2_2 Kc3_2 Kc4_2 Kc5_2 Kc6_2 Kc7_2 Kc8_2 Kc9_2 Kc10_2 Kc11_2 Kc12_2 Kc13_2 Kc14_2 Kc15_2 q_2
  clear b
  go_wp2_with fail
  refine (num_any _ _).mono ?_
  rintro e w' ⟨rfl, rfl⟩
  have hn1 : (n != 0) = true := by simp [hn]
  have hn2 : (n == 0) = false := by simp [hn]
  go_wp2
  go_ret
  exact ⟨rfl, q_3⟩

theorem walk (sp dp sq ak fl wn ur : Nat) (mss : Int) (hs : Bool) (sc : Int) (sk : Bool) (ba : Option Addr) (bs : List (Nat × Nat)) (bc : Nat) (ht : Bool) (tv te : Nat) (da : Option Addr) (ds : List Nat) (dc : Nat) (src dst : Nat) (at0 : Int) (w : World)
    (hsp : sp < 65536) (hdp : dp < 65536) (hsq : sq < 4294967296) (hak : ak < 4294967296) (hfl : fl < 256) (hwn : wn < 65536) (hur : ur < 65536) (_ : -9223372036854775808 ≤ mss) (_ : mss ≤ 9223372036854775807) (_ : -9223372036854775808 ≤ sc) (_ : sc ≤ 9223372036854775807) (hx : Blk w ba bs) (_ : ba = none → bc = 0) (_ : bs.length ≤ bc ∧ bc ≤ maxLen) (_ : bs.length ≤ 17592186043904) (htv : tv < 4294967296) (hte : te < 4294967296) (hy : Bts w da ds) (hdc : da = none → dc = 0) (_ : ds.length ≤ dc ∧ dc ≤ maxLen) (_ : ds.length ≤ 140737488351232) (hsrc : src < 4294967296) (hdst : dst < 4294967296) (ha1 : -9223372036854775808 ≤ at0) (ha2 : at0 ≤ 9223372036854775807) :
    Calls Try.prog 6 #[.agg #[.int .u16 sp, .int .u16 dp, .int .u32 sq, .int .u32 ak, .int .u8 fl, .int .u16 wn, .int .u16 ur, .int .i64 mss, .bool hs, .int .i64 sc, .bool sk, .slice ba bs.length bc, .bool ht, .int .u32 tv, .int .u32 te, .slice da ds.length dc], .int .u32 src, .int .u32 dst, .int .i64 at0] w fun e w' => e = .returned (.bool true) ∧ Below w.heap.size w w' := by
  by_cases h : TcpMayI mss hs sc sk bs ht tv te ds.length
  · obtain ⟨m, c, rfl, rfl, h⟩ := h
    exact walk_may sp dp sq ak fl wn ur m hs c sk ba bs bc ht tv te da ds dc src dst at0 w h hsp hdp hsq hak hfl hwn hur htv hte hx hy hdc hsrc hdst ha1 ha2
  · exact walk_no sp dp sq ak fl wn ur mss hs sc sk ba bs bc ht tv te da ds dc src dst at0 w h hx hy htv hte

theorem of_len16 {α : Type} (l : List α) (h : l.length = 16) : ∃ x0 x1 x2 x3 x4 x5 x6 x7 x8 x9 x10 x11 x12 x13 x14 x15, l = [x0, x1, x2, x3, x4, x5, x6, x7, x8, x9, x10, x11, x12, x13, x14, x15] := by
  match l, h with
  | [x0, x1, x2, x3, x4, x5, x6, x7, x8, x9, x10, x11, x12, x13, x14, x15], _ => exact ⟨x0, x1, x2, x3, x4, x5, x6, x7, x8, x9, x10, x11, x12, x13, x14, x15, rfl⟩
theorem own : ownKnob Try.prog.godebug = none := by kernel_rfl
theorem laidOut : laidOutB Try.prog = true := by kernel_rfl

set_option maxRecDepth 100000 in
set_option maxHeartbeats 2000000 in
theorem lifted (os : Os) (started : os.Started) (H : Type) (enc : TypeId × Value → H) :
    ReturnsInHanded {} Try.checked os 6 .any (Rows.tcpwireFindsSpec.pre6 enc Try.prog Try.f6 Rows.tcpwireFindsRow.domain false) (Rows.tcpwireFindsSpec.post enc Try.prog Try.f6 false true false false) := by
  refine returnsInHanded_of_change_sized (C := Try.checked) own started (by kernel_rfl) Try.func6
    (ChangeSpec.witness6 (enc := enc) (C := Try.checked) false ⟨#[], #[.agg #[.int .u16 0, .int .u16 0, .int .u32 0, .int .u32 0, .int .u8 0, .int .u16 0, .int .u16 0, .int .i64 0, .bool false, .int .i64 0, .bool false, .slice none 0 0, .bool false, .int .u32 0, .int .u32 0, .slice none 0 0], .int .u32 0, .int .u32 0, .int .i64 0], []⟩ 8 (by kernel_rfl) (by kernel_rfl) (by kernel_rfl) (by kernel_rfl)) ?_
  intro W base args ds gs before hval0 hW hcnd hsz0 _
  have hval : ∀ (j : Nat) t v, Try.f6.params[j]? = some t → args[j]? = some v → Value.okWide Try.prog W .any base t v := hval0
  have hsz : (DataW.weightsEach Try.prog (Try.f6.params.toList ++ Rows.tcpwireFindsSpec.plain.varTypes Try.prog) (ds ++ gs)).all (· ≤ reachBytes) = true := hsz0
  have hW' := hW
  obtain ⟨p, q, hA0, hV, rfl, hfz, hnd⟩ := hW
  have hA : DataW.TrodAll enc Try.prog W 0 (fun _ => true) true Try.f6.params.toList args.toList ds p := hA0
  rw [Try.params6] at hA hval hsz
  obtain ⟨v0, vs0, d0, ds0, p0, q0, hargs, rfl, rfl, h0, r0⟩ := trodAll_cons hA
  obtain ⟨v1, vs1, d1, ds1, p1, q1, rfl, rfl, rfl, h1, r1⟩ := trodAll_cons r0
  obtain ⟨v2, vs2, d2, ds2, p2, q2, rfl, rfl, rfl, h2, r2⟩ := trodAll_cons r1
  obtain ⟨v3, vs3, d3, ds3, p3, q3, rfl, rfl, rfl, h3, r3⟩ := trodAll_cons r2
  obtain ⟨rfl, rfl, rfl⟩ := trodAll_nil r3
  obtain rfl : args = #[v0, v1, v2, v3] := by cases args; simp_all
  obtain ⟨rfl, rfl⟩ := trodVars_none hV
  have k0 := h0
  have lt0 : ∀ x ∈ p0, x.block < W.heap.size := by obtain ⟨m, hm⟩ := k0; exact DataW.trod_lt m _ _ _ hm
  obtain ⟨vs0', ys0', m0, rfl, lv0, ly0, hd0, F0⟩ := open_agg Try.underlying27 (by kernel_rfl) (by kernel_rfl) (hval 0 27 v0 rfl rfl) h0
  obtain ⟨c0_0, c0_1, c0_2, c0_3, c0_4, c0_5, c0_6, c0_7, c0_8, c0_9, c0_10, c0_11, c0_12, c0_13, c0_14, c0_15, rfl⟩ := of_len16 _ lv0
  obtain ⟨y0_0, y0_1, y0_2, y0_3, y0_4, y0_5, y0_6, y0_7, y0_8, y0_9, y0_10, y0_11, y0_12, y0_13, y0_14, y0_15, rfl⟩ := of_len16 _ ly0
  simp only [List.map_cons, List.map_nil] at hd0
  obtain ⟨_, _, e, g, t0_0⟩ := F0 0 _ rfl
  obtain rfl := Option.some.inj e; obtain rfl := Option.some.inj g; clear e g
  obtain ⟨z0_0, e, _, w0_0⟩ := DataW.trod_int Try.underlying22 t0_0
  obtain rfl := (List.cons.inj e).1; clear e
  obtain ⟨n0_0, rfl, hn0_0⟩ := nat_of_u16 w0_0
  obtain ⟨_, _, e, g, t0_1⟩ := F0 1 _ rfl
  obtain rfl := Option.some.inj e; obtain rfl := Option.some.inj g; clear e g
  obtain ⟨z0_1, e, _, w0_1⟩ := DataW.trod_int Try.underlying22 t0_1
  obtain rfl := (List.cons.inj e).1; clear e
  obtain ⟨n0_1, rfl, hn0_1⟩ := nat_of_u16 w0_1
  obtain ⟨_, _, e, g, t0_2⟩ := F0 2 _ rfl
  obtain rfl := Option.some.inj e; obtain rfl := Option.some.inj g; clear e g
  obtain ⟨z0_2, e, _, w0_2⟩ := DataW.trod_int Try.underlying23 t0_2
  obtain rfl := (List.cons.inj e).1; clear e
  obtain ⟨n0_2, rfl, hn0_2⟩ := nat_of_u32 w0_2
  obtain ⟨_, _, e, g, t0_3⟩ := F0 3 _ rfl
  obtain rfl := Option.some.inj e; obtain rfl := Option.some.inj g; clear e g
  obtain ⟨z0_3, e, _, w0_3⟩ := DataW.trod_int Try.underlying23 t0_3
  obtain rfl := (List.cons.inj e).1; clear e
  obtain ⟨n0_3, rfl, hn0_3⟩ := nat_of_u32 w0_3
  obtain ⟨_, _, e, g, t0_4⟩ := F0 4 _ rfl
  obtain rfl := Option.some.inj e; obtain rfl := Option.some.inj g; clear e g
  obtain ⟨z0_4, e, _, w0_4⟩ := DataW.trod_int Try.underlying5 t0_4
  obtain rfl := (List.cons.inj e).1; clear e
  obtain ⟨n0_4, rfl, hn0_4⟩ := nat_of_u8 w0_4
  obtain ⟨_, _, e, g, t0_5⟩ := F0 5 _ rfl
  obtain rfl := Option.some.inj e; obtain rfl := Option.some.inj g; clear e g
  obtain ⟨z0_5, e, _, w0_5⟩ := DataW.trod_int Try.underlying22 t0_5
  obtain rfl := (List.cons.inj e).1; clear e
  obtain ⟨n0_5, rfl, hn0_5⟩ := nat_of_u16 w0_5
  obtain ⟨_, _, e, g, t0_6⟩ := F0 6 _ rfl
  obtain rfl := Option.some.inj e; obtain rfl := Option.some.inj g; clear e g
  obtain ⟨z0_6, e, _, w0_6⟩ := DataW.trod_int Try.underlying22 t0_6
  obtain rfl := (List.cons.inj e).1; clear e
  obtain ⟨n0_6, rfl, hn0_6⟩ := nat_of_u16 w0_6
  obtain ⟨_, _, e, g, t0_7⟩ := F0 7 _ rfl
  obtain rfl := Option.some.inj e; obtain rfl := Option.some.inj g; clear e g
  obtain ⟨z0_7, e, _, w0_7⟩ := DataW.trod_int Try.underlying3 t0_7
  obtain rfl := (List.cons.inj e).1; clear e
  obtain ⟨lo0_7, hi0_7⟩ := bounds_i64 w0_7
  obtain ⟨_, _, e, g, t0_8⟩ := F0 8 _ rfl
  obtain rfl := Option.some.inj e; obtain rfl := Option.some.inj g; clear e g
  obtain ⟨b0_8, e, _⟩ := DataW.trod_bool Try.underlying4 t0_8
  obtain rfl := (List.cons.inj e).1; clear e
  obtain ⟨_, _, e, g, t0_9⟩ := F0 9 _ rfl
  obtain rfl := Option.some.inj e; obtain rfl := Option.some.inj g; clear e g
  obtain ⟨z0_9, e, _, w0_9⟩ := DataW.trod_int Try.underlying3 t0_9
  obtain rfl := (List.cons.inj e).1; clear e
  obtain ⟨lo0_9, hi0_9⟩ := bounds_i64 w0_9
  obtain ⟨_, _, e, g, t0_10⟩ := F0 10 _ rfl
  obtain rfl := Option.some.inj e; obtain rfl := Option.some.inj g; clear e g
  obtain ⟨b0_10, e, _⟩ := DataW.trod_bool Try.underlying4 t0_10
  obtain rfl := (List.cons.inj e).1; clear e
  obtain ⟨_, _, e, g, t0_11⟩ := F0 11 _ rfl
  obtain rfl := Option.some.inj e; obtain rfl := Option.some.inj g; clear e g
  obtain ⟨a0_11, bs0_11, cap0_11, rfl, hbk0_11, hcap0_11, hlc0_11, hq0_11⟩ := open_blocks t0_11
  obtain ⟨_, _, e, g, t0_12⟩ := F0 12 _ rfl
  obtain rfl := Option.some.inj e; obtain rfl := Option.some.inj g; clear e g
  obtain ⟨b0_12, e, _⟩ := DataW.trod_bool Try.underlying4 t0_12
  obtain rfl := (List.cons.inj e).1; clear e
  obtain ⟨_, _, e, g, t0_13⟩ := F0 13 _ rfl
  obtain rfl := Option.some.inj e; obtain rfl := Option.some.inj g; clear e g
  obtain ⟨z0_13, e, _, w0_13⟩ := DataW.trod_int Try.underlying23 t0_13
  obtain rfl := (List.cons.inj e).1; clear e
  obtain ⟨n0_13, rfl, hn0_13⟩ := nat_of_u32 w0_13
  obtain ⟨_, _, e, g, t0_14⟩ := F0 14 _ rfl
  obtain rfl := Option.some.inj e; obtain rfl := Option.some.inj g; clear e g
  obtain ⟨z0_14, e, _, w0_14⟩ := DataW.trod_int Try.underlying23 t0_14
  obtain rfl := (List.cons.inj e).1; clear e
  obtain ⟨n0_14, rfl, hn0_14⟩ := nat_of_u32 w0_14
  obtain ⟨_, _, e, g, t0_15⟩ := F0 15 _ rfl
  obtain rfl := Option.some.inj e; obtain rfl := Option.some.inj g; clear e g
  obtain ⟨a0_15, xs0_15, cap0_15, rfl, hbt0_15, hcap0_15, hlc0_15, hq0_15⟩ := open_bytes t0_15
  obtain ⟨a1, rfl, rfl, rfl, w1⟩ := open_int Try.underlying23 (hval 1 23 v1 rfl rfl) h1
  obtain ⟨a2, rfl, rfl, rfl, w2⟩ := open_int Try.underlying23 (hval 2 23 v2 rfl rfl) h2
  obtain ⟨a3, rfl, rfl, rfl, w3⟩ := open_int Try.underlying3 (hval 3 3 v3 rfl rfl) h3
  have hre0_11 : bs0_11.length ≤ 17592186043904 := blocks_reach hq0_11 (sized_field hsz (j := 0) (i := 11) (t := 27) rfl (by rw [hd0]; rfl) Try.underlying27 rfl rfl)
  have hre0_15 : xs0_15.length ≤ 140737488351232 := bytes_reach hq0_15 (sized_field hsz (j := 0) (i := 15) (t := 27) rfl (by rw [hd0]; rfl) Try.underlying27 rfl rfl)
  clear hA0 hval0 hsz hsz0
  obtain ⟨n1, rfl, hn1⟩ := nat_of_u32 w1
  obtain ⟨n2, rfl, hn2⟩ := nat_of_u32 w2
  obtain ⟨lo3, hi3⟩ := bounds_i64 w3
  refine (walk n0_0 n0_1 n0_2 n0_3 n0_4 n0_5 n0_6 z0_7 b0_8 z0_9 b0_10 a0_11 bs0_11 cap0_11 b0_12 n0_13 n0_14 a0_15 xs0_15 cap0_15 n1 n2 a3 W hn0_0 hn0_1 hn0_2 hn0_3 hn0_4 hn0_5 hn0_6 lo0_7 hi0_7 lo0_9 hi0_9 hbk0_11 hcap0_11 hlc0_11 hre0_11 hn0_13 hn0_14 hbt0_15 hcap0_15 hlc0_15 hre0_15 hn1 hn2 lo3 hi3).mono fun e W' ⟨he, bel⟩ => ?_
  subst he
  exact ⟨_, rfl, _, _, _, [], _, [], hW', trodAll_mk1 (shut_bool Try.underlying4 _), (trodAll_cons_mk (Below.trod laidOut (by kernel_rfl) (of_decide_eq_true (by kernel_rfl)) k0 bel lt0) (trodAll_cons_mk (shut_int Try.underlying23 w1) (trodAll_cons_mk (shut_int Try.underlying23 w2) (trodAll_cons_mk (shut_int Try.underlying3 w3) trodAll_mk0)))), rfl, bel.frame _, fun h => by cases h⟩

theorem over : Rows.tcpwireFindsRow.holds Try.pinned (OpenSpec.ofChange Rows.tcpwireFindsSpec) :=
  OpenClaim.holds_of_wide 6 Try.f6 rfl rfl rfl rfl rfl rfl rfl ⟨rfl, rfl, rfl, rfl, rfl⟩ rfl rfl rfl rfl rfl (by kernel_rfl) Try.func6 (by kernel_rfl)
    (of_decide_eq_true (by kernel_rfl)) (by unfold Func.isWrapper; first | (rw [if_pos (by decide +kernel)]; kernel_rfl) | (rw [if_neg (by decide +kernel)]; exact ⟨rfl, rfl⟩))
    (fun os started H enc _ => lifted os started H enc)

end Go.Proofs.Ytiamigajnnbdgaa.tcpwireFinds
namespace Go.Proofs.Ytiamigajnnbdgaa
/-- The statement. -/
theorem tcpwireFinds_holds : Rows.TcpwireFindsSaid := tcpwireFinds.over
#print axioms tcpwireFinds_holds
end Go.Proofs.Ytiamigajnnbdgaa
