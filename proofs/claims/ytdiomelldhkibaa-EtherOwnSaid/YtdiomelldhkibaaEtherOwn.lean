/- For every frame: what Build answers is its holder's, and what was handed in is not kept; so is what Parse answers. No condition. -/
import Derived.Test.YtdiomelldhkibaaRows
import Derived.Test.YtdiomelldhkibaaAlive3
import Derived.Test.YtdiomelldhkibaaGSpoil
import Derived.Test.YtdiomelldhkibaaGSameEther
import Derived.Test.YtdiomelldhkibaaGStruct
import Derived.ProofKit
import Derived.OpenShut
import Derived.ShutString
import Derived.ChangeOld
import Derived.SizedLaws
import Derived.Test.YtdiomelldhkibaaEthBack
namespace Go.Proofs.Ytdiomelldhkibaa.etherOwn
open Go.ChangeShapes Go.WideShapes Go.ChangeAt Go.RowKit Go.Proofs.Ytdiomelldhkibaa.law3
open Go.ChangeMaps (open_string shut_string)

set_option maxRecDepth 100000 in
set_option maxHeartbeats 2000000 in
theorem walk_may (d s t : Nat) (ad : Option Addr) (ds : List Nat) (dcap : Nat) (w : World) (hd : d ≤ 281474976710655) (hs : s ≤ 281474976710655) (ht : t ≤ 65535) (hx : Bts w ad ds) (hdc : ad = none → dcap = 0) (hl10 : ds.length ≤ 65521) :
    Calls Try.prog 5 #[.agg #[.int .u64 d, .int .u64 s, .int .i64 t, .slice ad ds.length dcap]] w fun e w' => e = .returned (.bool true) ∧ Below w.heap.size w w' := by
  have hl1 : ds.length ≤ 140737488355328 := by omega
  obtain ⟨R, hR⟩ : ∃ R, ethO d s t ds = R := ⟨_, rfl⟩
  have hRl : R.length = 14 + ds.length := by rw [← hR, eth_len]
  have hlR : R.length ≤ 140737488355328 := by omega
  have hb : ∀ a c W, Bts W a ds → Calls Try.prog 17 #[.agg #[.int .u64 d, .int .u64 s, .int .i64 t, .slice a ds.length c]] W fun e w' => ∃ a' cap', e = .returned (.tuple #[.slice a' R.length cap', .int .i64 0]) ∧ OwnSl W.heap.size a' R cap' w' ∧ Below W.heap.size W w' := fun a c W h => by
    have := ethB_ok d s t a ds c W hd hs ht h hl10
    rwa [hR] at this
  have hp : ∀ a c W, Bts W a R → R.length ≤ c → c ≤ maxLen → Calls Try.prog 21 #[.slice a R.length c] W fun e w' => ∃ a' cap', e = .returned (.tuple #[.agg #[.int .u64 d, .int .u64 s, .int .i64 t, .slice a' ds.length cap'], .int .i64 0]) ∧ OwnSl W.heap.size a' ds cap' w' ∧ Below W.heap.size W w' := fun a c W h hc hm => by
    have := eth_ok a R c W h hc hm (by omega) (by omega)
    rw [← hR, ethD_of d s t ds hd, ethS_of d s t ds hs, ethT_of d s t ds ht, ethds_of] at this
    rwa [← hR]
  have hbuild := hb
  have hparse := hp
  have hRl2 : R.length ≤ 65535 := by omega
  clear hR hb hp hRl
  have q_0 := Below.refl w.heap.size w
  have HB := Lib.hid hbuild
  have HP := Lib.hid hparse
  clear hbuild hparse
  have D0 := Lib.hid hx
  have HD := Lib.hid hdc
  clear hx hdc
  go_enter Try.func5, Try.ntmps5
  go_wp2_with fail
  have b : Below w.heap.size w (w.alloc (.cells #[.int .u64 d, .int .u64 s, .int .i64 t, .slice ad ds.length dcap] 25)) := ((Below.refl _ w).alloc (Nat.le_refl _) (.cells #[.int .u64 d, .int .u64 s, .int .i64 t, .slice ad ds.length dcap] 25))
  have nb0 := blk_new w (.cells #[.int .u64 d, .int .u64 s, .int .i64 t, .slice ad ds.length dcap] 25)
  have nz0 : w.heap.size < (w.alloc (.cells #[.int .u64 d, .int .u64 s, .int .i64 t, .slice ad ds.length dcap] 25)).heap.size := by simp only [World.size_alloc]; omega
  have q_1 := q_0.trans (b.mono q_0.size)
  have sz_1 := b.size
  clear q_0
  clear b
  have K_1 := Lib.hid nb0
  have Kz_1 := nz0
  clear nb0 nz0
  have Kc0_1 := blk_cell K_1.out 0
  have Kc1_1 := blk_cell K_1.out 1
  have Kc2_1 := blk_cell K_1.out 2
  have Kc3_1 := blk_cell K_1.out 3
  generalize (w.alloc (.cells #[.int .u64 d, .int .u64 s, .int .i64 t, .slice ad ds.length dcap] 25)) = V1 at q_1 sz_1 K_1 Kz_1 Kc0_1 Kc1_1 Kc2_1 Kc3_1 ⊢
  refine (alive_any _).mono ?_
  rintro e V2 ⟨rfl, b⟩
  have K_2 := Lib.hid ((b.block _ Kz_1).trans K_1.out)
  have Kz_2 := Nat.lt_of_lt_of_le Kz_1 b.size
  have Kc0_2 := blk_cell K_2.out 0
  have Kc1_2 := blk_cell K_2.out 1
  have Kc2_2 := blk_cell K_2.out 2
  have Kc3_2 := blk_cell K_2.out 3
  have q_2 := q_1.trans (b.mono q_1.size)
  have sz_2 := b.size
  clear K_1 Kc0_1 Kc1_1 Kc2_1 Kc3_1 q_1
  clear b
  go_wp2_with fail
  refine (copy_one ad ds dcap _ (D0.out.below q_2) hl1 HD.out).mono ?_
  rintro e V3 ⟨ia, ic, rfl, I, b⟩
  have K_3 := Lib.hid ((b.block _ Kz_2).trans K_2.out)
  have Kz_3 := Nat.lt_of_lt_of_le Kz_2 b.size
  have Kc0_3 := blk_cell K_3.out 0
  have Kc1_3 := blk_cell K_3.out 1
  have Kc2_3 := blk_cell K_3.out 2
  have Kc3_3 := blk_cell K_3.out 3
  have q_3 := q_2.trans (b.mono q_2.size)
  have sz_3 := b.size
  clear K_2 Kc0_2 Kc1_2 Kc2_2 Kc3_2 q_2
  have I_3 := Lib.hid (I)
  clear b
  clear I
  have iLt := I_3.out.blkLt
  go_wp2_with fail
  refine (HB.out ia ic _ I_3.out.bts).mono ?_
  rintro e V4 ⟨pa, pc, rfl, P, b⟩
  have K_4 := Lib.hid ((b.block _ Kz_3).trans K_3.out)
  have Kz_4 := Nat.lt_of_lt_of_le Kz_3 b.size
  have Kc0_4 := blk_cell K_4.out 0
  have Kc1_4 := blk_cell K_4.out 1
  have Kc2_4 := blk_cell K_4.out 2
  have Kc3_4 := blk_cell K_4.out 3
  have I_4 := Lib.hid (I_3.out.below b)
  have q_4 := q_3.trans (b.mono q_3.size)
  have sz_4 := b.size
  clear K_3 Kc0_3 Kc1_3 Kc2_3 Kc3_3 I_3 q_3
  have P_4 := Lib.hid (P)
  clear b
  clear P
  have pLt := P_4.out.blkLt
  have pNil := Lib.hid P_4.out.nilcap
  go_wp2_with fail
  refine (copy_one pa R pc _ P_4.out.bts hlR pNil.out).mono ?_
  rintro e V5 ⟨ka, kc, rfl, C, b⟩
  have K_5 := Lib.hid ((b.block _ Kz_4).trans K_4.out)
  have Kz_5 := Nat.lt_of_lt_of_le Kz_4 b.size
  have Kc0_5 := blk_cell K_5.out 0
  have Kc1_5 := blk_cell K_5.out 1
  have Kc2_5 := blk_cell K_5.out 2
  have Kc3_5 := blk_cell K_5.out 3
  have I_5 := Lib.hid (I_4.out.below b)
  have P_5 := Lib.hid (P_4.out.below b)
  have q_5 := q_4.trans (b.mono q_4.size)
  have sz_5 := b.size
  clear K_4 Kc0_4 Kc1_4 Kc2_4 Kc3_4 I_4 P_4 q_4
  have C_5 := Lib.hid (C)
  clear b
  clear C
  go_wp2_with fail
  refine (spoil_own V2.heap.size V3.heap.size ic ia ds (by omega) _ I_5.out iLt).mono ?_
  rintro e V6 ⟨⟨sv, rfl⟩, bt⟩
  have b := bt.below (by omega)
  have K_6 := Lib.hid ((bt.block _ Kz_5 (by omega)).trans K_5.out)
  have Kz_6 := Nat.lt_of_lt_of_le Kz_5 b.size
  have Kc0_6 := blk_cell K_6.out 0
  have Kc1_6 := blk_cell K_6.out 1
  have Kc2_6 := blk_cell K_6.out 2
  have Kc3_6 := blk_cell K_6.out 3
  have P_6 := Lib.hid (P_5.out.btw (by omega) bt)
  have C_6 := Lib.hid (C_5.out.btw (by omega) bt)
  have q_6 := q_5.trans (b.mono (by omega))
  have sz_6 := bt.size
  clear I_5 q_5 b bt K_5 Kc0_5 Kc1_5 Kc2_5 Kc3_5 P_5 C_5
  go_wp2_with fail
  refine (same_one pa ka R R pc kc _ P_6.out.bts C_6.out.bts hlR hlR rfl).mono ?_
  rintro e V7 ⟨rfl, b⟩
  have K_7 := Lib.hid ((b.block _ Kz_6).trans K_6.out)
  have Kz_7 := Nat.lt_of_lt_of_le Kz_6 b.size
  have Kc0_7 := blk_cell K_7.out 0
  have Kc1_7 := blk_cell K_7.out 1
  have Kc2_7 := blk_cell K_7.out 2
  have Kc3_7 := blk_cell K_7.out 3
  have P_7 := Lib.hid (P_6.out.below b)
  have q_7 := q_6.trans (b.mono q_6.size)
  have sz_7 := b.size
  clear K_6 Kc0_6 Kc1_6 Kc2_6 Kc3_6 P_6 C_6 q_6
  clear b
  have pc1 := P_7.out.capLe
  go_wp2_with fail
  refine (HP.out pa pc _ P_7.out.bts pc1.1 pc1.2).mono ?_
  rintro e V8 ⟨ya, yc, rfl, Y, b⟩
  have K_8 := Lib.hid ((b.block _ Kz_7).trans K_7.out)
  have Kz_8 := Nat.lt_of_lt_of_le Kz_7 b.size
  have Kc0_8 := blk_cell K_8.out 0
  have Kc1_8 := blk_cell K_8.out 1
  have Kc2_8 := blk_cell K_8.out 2
  have Kc3_8 := blk_cell K_8.out 3
  have P_8 := Lib.hid (P_7.out.below b)
  have q_8 := q_7.trans (b.mono q_7.size)
  have sz_8 := b.size
  clear K_7 Kc0_7 Kc1_7 Kc2_7 Kc3_7 P_7 q_7
  have Y_8 := Lib.hid (Y)
  clear b
  clear Y
  go_wp2_with fail
  have b : Below V8.heap.size V8 (V8.alloc (.cells #[.int .u64 d, .int .u64 s, .int .i64 t, .slice ya ds.length yc] 25)) := ((Below.refl _ V8).alloc (Nat.le_refl _) (.cells #[.int .u64 d, .int .u64 s, .int .i64 t, .slice ya ds.length yc] 25))
  have nb0 := blk_new V8 (.cells #[.int .u64 d, .int .u64 s, .int .i64 t, .slice ya ds.length yc] 25)
  have nz0 : V8.heap.size < (V8.alloc (.cells #[.int .u64 d, .int .u64 s, .int .i64 t, .slice ya ds.length yc] 25)).heap.size := by simp only [World.size_alloc]; omega
  have K_9 := Lib.hid ((b.block _ Kz_8).trans K_8.out)
  have Kz_9 := Nat.lt_of_lt_of_le Kz_8 b.size
  have Kc0_9 := blk_cell K_9.out 0
  have Kc1_9 := blk_cell K_9.out 1
  have Kc2_9 := blk_cell K_9.out 2
  have Kc3_9 := blk_cell K_9.out 3
  have P_9 := Lib.hid (P_8.out.below b)
  have Y_9 := Lib.hid (Y_8.out.below b)
  have q_9 := q_8.trans (b.mono q_8.size)
  have sz_9 := b.size
  clear K_8 Kc0_8 Kc1_8 Kc2_8 Kc3_8 P_8 Y_8 q_8
  clear b
  have L_9 := Lib.hid nb0
  have Lz_9 := nz0
  clear nb0 nz0
  have Lc0_9 := blk_cell L_9.out 0
  have Lc1_9 := blk_cell L_9.out 1
  have Lc2_9 := blk_cell L_9.out 2
  have Lc3_9 := blk_cell L_9.out 3
  generalize (V8.alloc (.cells #[.int .u64 d, .int .u64 s, .int .i64 t, .slice ya ds.length yc] 25)) = V9 at q_9 sz_9 K_9 Kz_9 Kc0_9 Kc1_9 Kc2_9 Kc3_9 P_9 Y_9 L_9 Lz_9 Lc0_9 Lc1_9 Lc2_9 Lc3_9 ⊢
  refine (num_any _ _).mono ?_
  rintro e w' ⟨rfl, rfl⟩
  go_wp2_with fail
  refine (spoil_own V3.heap.size V4.heap.size pc pa R (by omega) _ P_9.out pLt).mono ?_
  rintro e V10 ⟨⟨sv, rfl⟩, bt⟩
  have b := bt.below (by omega)
  have K_10 := Lib.hid ((bt.block _ Kz_9 (by omega)).trans K_9.out)
  have Kz_10 := Nat.lt_of_lt_of_le Kz_9 b.size
  have Kc0_10 := blk_cell K_10.out 0
  have Kc1_10 := blk_cell K_10.out 1
  have Kc2_10 := blk_cell K_10.out 2
  have Kc3_10 := blk_cell K_10.out 3
  have Y_10 := Lib.hid (Y_9.out.btw (by omega) bt)
  have L_10 := Lib.hid ((bt.block _ Lz_9 (by omega)).trans L_9.out)
  have Lz_10 := Nat.lt_of_lt_of_le Lz_9 b.size
  have Lc0_10 := blk_cell L_10.out 0
  have Lc1_10 := blk_cell L_10.out 1
  have Lc2_10 := blk_cell L_10.out 2
  have Lc3_10 := blk_cell L_10.out 3
  have q_10 := q_9.trans (b.mono (by omega))
  have sz_10 := bt.size
  clear P_9 q_9 b bt K_9 Kc0_9 Kc1_9 Kc2_9 Kc3_9 Y_9 L_9 Lc0_9 Lc1_9 Lc2_9 Lc3_9
  go_wp2_with fail
  refine (same_one ya ad ds ds yc dcap _ Y_10.out.bts (D0.out.below q_10) hl1 hl1 rfl).mono ?_
  rintro e V11 ⟨rfl, b⟩
  have K_11 := Lib.hid ((b.block _ Kz_10).trans K_10.out)
  have Kz_11 := Nat.lt_of_lt_of_le Kz_10 b.size
  have Kc0_11 := blk_cell K_11.out 0
  have Kc1_11 := blk_cell K_11.out 1
  have Kc2_11 := blk_cell K_11.out 2
  have Kc3_11 := blk_cell K_11.out 3
  have Y_11 := Lib.hid (Y_10.out.below b)
  have L_11 := Lib.hid ((b.block _ Lz_10).trans L_10.out)
  have Lz_11 := Nat.lt_of_lt_of_le Lz_10 b.size
  have Lc0_11 := blk_cell L_11.out 0
  have Lc1_11 := blk_cell L_11.out 1
  have Lc2_11 := blk_cell L_11.out 2
  have Lc3_11 := blk_cell L_11.out 3
  have q_11 := q_10.trans (b.mono q_10.size)
  have sz_11 := b.size
  clear K_10 Kc0_10 Kc1_10 Kc2_10 Kc3_10 Y_10 L_10 Lc0_10 Lc1_10 Lc2_10 Lc3_10 q_10
  clear b
  go_wp2
  go_ret
  exact ⟨rfl, q_11⟩

set_option maxRecDepth 100000 in
set_option maxHeartbeats 2000000 in
theorem walk_no (d s : Nat) (t : Int) (ad : Option Addr) (ds : List Nat) (dcap : Nat) (w : World) (hm : ¬ (EthMay d s t ∧ ds.length ≤ 65521)) (hx : Bts w ad ds) (hdc : ad = none → dcap = 0) (hl10 : ds.length ≤ 140737488351232) :
    Calls Try.prog 5 #[.agg #[.int .u64 d, .int .u64 s, .int .i64 t, .slice ad ds.length dcap]] w fun e w' => e = .returned (.bool true) ∧ Below w.heap.size w w' := by
  have hl1 : ds.length ≤ 140737488355328 := by omega
  obtain ⟨R, hR⟩ : ∃ R : List Nat, R = [] := ⟨_, rfl⟩
  have hshort : (R.length : Int) < 14 := by rw [hR]; decide
  have hlR : R.length ≤ 140737488355328 := by rw [hR]; decide
  obtain ⟨E, hE⟩ : ∃ E, ethBE d s t ds.length = E := ⟨_, rfl⟩
  have hb : ∀ a c W, Bts W a ds → Calls Try.prog 17 #[.agg #[.int .u64 d, .int .u64 s, .int .i64 t, .slice a ds.length c]] W fun e w' => ∃ a' cap', e = .returned (.tuple #[.slice a' R.length cap', .int .i64 E]) ∧ OwnSl W.heap.size a' R cap' w' ∧ Below W.heap.size W w' := fun a c W h => by
    have := ethB_all d s t a ds c W h
    unfold EthBAns ethBR at this
    rw [if_neg hm, hE] at this
    rwa [hR]
  have hp : ∀ a c W, Calls Try.prog 21 #[.slice a R.length c] W fun e w' => e = .returned (.tuple #[.agg #[.int .u64 0, .int .u64 0, .int .i64 0, .slice none 0 0], .int .i64 8]) ∧ Below W.heap.size W w' := fun a c W => eth_short a R c W (by rw [hR]; decide)
  have HB := Lib.hid hb
  have HP := Lib.hid hp
  clear hb hp hR hE hm
  have q_0 := Below.refl w.heap.size w
  have D0 := Lib.hid hx
  have HD := Lib.hid hdc
  clear hx hdc
  go_enter Try.func5, Try.ntmps5
  go_wp2_with fail
  have b : Below w.heap.size w (w.alloc (.cells #[.int .u64 d, .int .u64 s, .int .i64 t, .slice ad ds.length dcap] 25)) := ((Below.refl _ w).alloc (Nat.le_refl _) (.cells #[.int .u64 d, .int .u64 s, .int .i64 t, .slice ad ds.length dcap] 25))
  have nb0 := blk_new w (.cells #[.int .u64 d, .int .u64 s, .int .i64 t, .slice ad ds.length dcap] 25)
  have nz0 : w.heap.size < (w.alloc (.cells #[.int .u64 d, .int .u64 s, .int .i64 t, .slice ad ds.length dcap] 25)).heap.size := by simp only [World.size_alloc]; omega
  have q_1 := q_0.trans (b.mono q_0.size)
  have sz_1 := b.size
  clear q_0
  clear b
  have K_1 := Lib.hid nb0
  have Kz_1 := nz0
  clear nb0 nz0
  have Kc0_1 := blk_cell K_1.out 0
  have Kc1_1 := blk_cell K_1.out 1
  have Kc2_1 := blk_cell K_1.out 2
  have Kc3_1 := blk_cell K_1.out 3
  generalize (w.alloc (.cells #[.int .u64 d, .int .u64 s, .int .i64 t, .slice ad ds.length dcap] 25)) = V1 at q_1 sz_1 K_1 Kz_1 Kc0_1 Kc1_1 Kc2_1 Kc3_1 ⊢
  refine (alive_any _).mono ?_
  rintro e V2 ⟨rfl, b⟩
  have K_2 := Lib.hid ((b.block _ Kz_1).trans K_1.out)
  have Kz_2 := Nat.lt_of_lt_of_le Kz_1 b.size
  have Kc0_2 := blk_cell K_2.out 0
  have Kc1_2 := blk_cell K_2.out 1
  have Kc2_2 := blk_cell K_2.out 2
  have Kc3_2 := blk_cell K_2.out 3
  have q_2 := q_1.trans (b.mono q_1.size)
  have sz_2 := b.size
  clear K_1 Kc0_1 Kc1_1 Kc2_1 Kc3_1 q_1
  clear b
  go_wp2_with fail
  refine (copy_one ad ds dcap _ (D0.out.below q_2) hl1 HD.out).mono ?_
  rintro e V3 ⟨ia, ic, rfl, I, b⟩
  have K_3 := Lib.hid ((b.block _ Kz_2).trans K_2.out)
  have Kz_3 := Nat.lt_of_lt_of_le Kz_2 b.size
  have Kc0_3 := blk_cell K_3.out 0
  have Kc1_3 := blk_cell K_3.out 1
  have Kc2_3 := blk_cell K_3.out 2
  have Kc3_3 := blk_cell K_3.out 3
  have q_3 := q_2.trans (b.mono q_2.size)
  have sz_3 := b.size
  clear K_2 Kc0_2 Kc1_2 Kc2_2 Kc3_2 q_2
  have I_3 := Lib.hid (I)
  clear b
  clear I
  have iLt := I_3.out.blkLt
  go_wp2_with fail
  refine (HB.out ia ic _ I_3.out.bts).mono ?_
  rintro e V4 ⟨pa, pc, rfl, P, b⟩
  have K_4 := Lib.hid ((b.block _ Kz_3).trans K_3.out)
  have Kz_4 := Nat.lt_of_lt_of_le Kz_3 b.size
  have Kc0_4 := blk_cell K_4.out 0
  have Kc1_4 := blk_cell K_4.out 1
  have Kc2_4 := blk_cell K_4.out 2
  have Kc3_4 := blk_cell K_4.out 3
  have I_4 := Lib.hid (I_3.out.below b)
  have q_4 := q_3.trans (b.mono q_3.size)
  have sz_4 := b.size
  clear K_3 Kc0_3 Kc1_3 Kc2_3 Kc3_3 I_3 q_3
  have P_4 := Lib.hid (P)
  clear b
  clear P
  have pLt := P_4.out.blkLt
  have pNil := Lib.hid P_4.out.nilcap
  go_wp2_with fail
  refine (copy_one pa R pc _ P_4.out.bts hlR pNil.out).mono ?_
  rintro e V5 ⟨ka, kc, rfl, C, b⟩
  have K_5 := Lib.hid ((b.block _ Kz_4).trans K_4.out)
  have Kz_5 := Nat.lt_of_lt_of_le Kz_4 b.size
  have Kc0_5 := blk_cell K_5.out 0
  have Kc1_5 := blk_cell K_5.out 1
  have Kc2_5 := blk_cell K_5.out 2
  have Kc3_5 := blk_cell K_5.out 3
  have I_5 := Lib.hid (I_4.out.below b)
  have P_5 := Lib.hid (P_4.out.below b)
  have q_5 := q_4.trans (b.mono q_4.size)
  have sz_5 := b.size
  clear K_4 Kc0_4 Kc1_4 Kc2_4 Kc3_4 I_4 P_4 q_4
  have C_5 := Lib.hid (C)
  clear b
  clear C
  go_wp2_with fail
  refine (spoil_own V2.heap.size V3.heap.size ic ia ds (by omega) _ I_5.out iLt).mono ?_
  rintro e V6 ⟨⟨sv, rfl⟩, bt⟩
  have b := bt.below (by omega)
  have K_6 := Lib.hid ((bt.block _ Kz_5 (by omega)).trans K_5.out)
  have Kz_6 := Nat.lt_of_lt_of_le Kz_5 b.size
  have Kc0_6 := blk_cell K_6.out 0
  have Kc1_6 := blk_cell K_6.out 1
  have Kc2_6 := blk_cell K_6.out 2
  have Kc3_6 := blk_cell K_6.out 3
  have P_6 := Lib.hid (P_5.out.btw (by omega) bt)
  have C_6 := Lib.hid (C_5.out.btw (by omega) bt)
  have q_6 := q_5.trans (b.mono (by omega))
  have sz_6 := bt.size
  clear I_5 q_5 b bt K_5 Kc0_5 Kc1_5 Kc2_5 Kc3_5 P_5 C_5
  go_wp2_with fail
  refine (same_one pa ka R R pc kc _ P_6.out.bts C_6.out.bts hlR hlR rfl).mono ?_
  rintro e V7 ⟨rfl, b⟩
  have K_7 := Lib.hid ((b.block _ Kz_6).trans K_6.out)
  have Kz_7 := Nat.lt_of_lt_of_le Kz_6 b.size
  have Kc0_7 := blk_cell K_7.out 0
  have Kc1_7 := blk_cell K_7.out 1
  have Kc2_7 := blk_cell K_7.out 2
  have Kc3_7 := blk_cell K_7.out 3
  have P_7 := Lib.hid (P_6.out.below b)
  have q_7 := q_6.trans (b.mono q_6.size)
  have sz_7 := b.size
  clear K_6 Kc0_6 Kc1_6 Kc2_6 Kc3_6 P_6 C_6 q_6
  clear b
  have pc1 := P_7.out.capLe
  go_wp2_with fail
  refine (HP.out pa pc _).mono ?_
  rintro e V8 ⟨rfl, b⟩
  have K_8 := Lib.hid ((b.block _ Kz_7).trans K_7.out)
  have Kz_8 := Nat.lt_of_lt_of_le Kz_7 b.size
  have Kc0_8 := blk_cell K_8.out 0
  have Kc1_8 := blk_cell K_8.out 1
  have Kc2_8 := blk_cell K_8.out 2
  have Kc3_8 := blk_cell K_8.out 3
  have P_8 := Lib.hid (P_7.out.below b)
  have q_8 := q_7.trans (b.mono q_7.size)
  have sz_8 := b.size
  clear K_7 Kc0_7 Kc1_7 Kc2_7 Kc3_7 P_7 q_7
  clear b
  go_wp2_with fail
  refine (num_any _ _).mono ?_
  rintro e w' ⟨rfl, rfl⟩
  have hs := hshort
  go_wp2
  go_ret
  exact ⟨rfl, q_8.alloc q_8.size _⟩

theorem walk (d s : Nat) (t : Int) (ad : Option Addr) (ds : List Nat) (dcap : Nat) (w : World) (_ : d < 18446744073709551616) (_ : s < 18446744073709551616) (_ : -9223372036854775808 ≤ t) (_ : t ≤ 9223372036854775807) (hx : Bts w ad ds) (hdc : ad = none → dcap = 0) (_ : ds.length ≤ dcap ∧ dcap ≤ maxLen) (hl10 : ds.length ≤ 140737488351232) :
    Calls Try.prog 5 #[.agg #[.int .u64 d, .int .u64 s, .int .i64 t, .slice ad ds.length dcap]] w fun e w' => e = .returned (.bool true) ∧ Below w.heap.size w w' := by
  by_cases h : EthMay d s t ∧ ds.length ≤ 65521
  · obtain ⟨n, rfl⟩ : ∃ n : Nat, t = n := ⟨t.toNat, by omega⟩
    exact walk_may d s n ad ds dcap w h.1.1 h.1.2.1 (by omega) hx hdc h.2
  · exact walk_no d s t ad ds dcap w h hx hdc hl10

theorem of_len4 {α : Type} (l : List α) (h : l.length = 4) : ∃ x0 x1 x2 x3, l = [x0, x1, x2, x3] := by
  match l, h with
  | [x0, x1, x2, x3], _ => exact ⟨x0, x1, x2, x3, rfl⟩
theorem own : ownKnob Try.prog.godebug = none := by kernel_rfl
theorem laidOut : laidOutB Try.prog = true := by kernel_rfl

set_option maxRecDepth 100000 in
set_option maxHeartbeats 2000000 in
theorem lifted (os : Os) (started : os.Started) (H : Type) (enc : TypeId × Value → H) :
    ReturnsInHanded {} Try.checked os 5 .any (Rows.etherOwnSpec.pre6 enc Try.prog Try.f5 Rows.etherOwnRow.domain false) (Rows.etherOwnSpec.post enc Try.prog Try.f5 false true false false) := by
  refine returnsInHanded_of_change_sized (C := Try.checked) own started (by kernel_rfl) Try.func5
    (ChangeSpec.witness6 (enc := enc) (C := Try.checked) false ⟨#[], #[.agg #[.int .u64 0, .int .u64 0, .int .i64 0, .slice none 0 0]], []⟩ 8 (by kernel_rfl) (by kernel_rfl) (by kernel_rfl) (by kernel_rfl)) ?_
  intro W base args ds gs before hval0 hW hcnd hsz0 _
  have hval : ∀ (j : Nat) t v, Try.f5.params[j]? = some t → args[j]? = some v → Value.okWide Try.prog W .any base t v := hval0
  have hsz : (DataW.weightsEach Try.prog (Try.f5.params.toList ++ Rows.etherOwnSpec.plain.varTypes Try.prog) (ds ++ gs)).all (· ≤ reachBytes) = true := hsz0
  have hW' := hW
  obtain ⟨p, q, hA0, hV, rfl, hfz, hnd⟩ := hW
  have hA : DataW.TrodAll enc Try.prog W 0 (fun _ => true) true Try.f5.params.toList args.toList ds p := hA0
  rw [Try.params5] at hA hval hsz
  obtain ⟨v0, vs0, d0, ds0, p0, q0, hargs, rfl, rfl, h0, r0⟩ := trodAll_cons hA
  obtain ⟨rfl, rfl, rfl⟩ := trodAll_nil r0
  obtain rfl : args = #[v0] := by cases args; simp_all
  obtain ⟨rfl, rfl⟩ := trodVars_none hV
  have k0 := h0
  have lt0 : ∀ x ∈ p0, x.block < W.heap.size := by obtain ⟨m, hm⟩ := k0; exact DataW.trod_lt m _ _ _ hm
  obtain ⟨vs0', ys0', m0, rfl, lv0, ly0, hd0, F0⟩ := open_agg Try.underlying25 (by kernel_rfl) (by kernel_rfl) (hval 0 25 v0 rfl rfl) h0
  obtain ⟨c0_0, c0_1, c0_2, c0_3, rfl⟩ := of_len4 _ lv0
  obtain ⟨y0_0, y0_1, y0_2, y0_3, rfl⟩ := of_len4 _ ly0
  simp only [List.map_cons, List.map_nil] at hd0
  obtain ⟨_, _, e, g, t0_0⟩ := F0 0 _ rfl
  obtain rfl := Option.some.inj e; obtain rfl := Option.some.inj g; clear e g
  obtain ⟨z0_0, e, _, w0_0⟩ := DataW.trod_int Try.underlying22 t0_0
  obtain rfl := (List.cons.inj e).1; clear e
  obtain ⟨n0_0, rfl, hn0_0⟩ := nat_of_u64 w0_0
  obtain ⟨_, _, e, g, t0_1⟩ := F0 1 _ rfl
  obtain rfl := Option.some.inj e; obtain rfl := Option.some.inj g; clear e g
  obtain ⟨z0_1, e, _, w0_1⟩ := DataW.trod_int Try.underlying22 t0_1
  obtain rfl := (List.cons.inj e).1; clear e
  obtain ⟨n0_1, rfl, hn0_1⟩ := nat_of_u64 w0_1
  obtain ⟨_, _, e, g, t0_2⟩ := F0 2 _ rfl
  obtain rfl := Option.some.inj e; obtain rfl := Option.some.inj g; clear e g
  obtain ⟨z0_2, e, _, w0_2⟩ := DataW.trod_int Try.underlying3 t0_2
  obtain rfl := (List.cons.inj e).1; clear e
  obtain ⟨lo0_2, hi0_2⟩ := bounds_i64 w0_2
  obtain ⟨_, _, e, g, t0_3⟩ := F0 3 _ rfl
  obtain rfl := Option.some.inj e; obtain rfl := Option.some.inj g; clear e g
  obtain ⟨a0_3, xs0_3, cap0_3, rfl, hbt0_3, hcap0_3, hlc0_3, hq0_3⟩ := open_bytes t0_3
  have hre0_3 : xs0_3.length ≤ 140737488351232 := bytes_reach hq0_3 (sized_field hsz (j := 0) (i := 3) (t := 25) rfl (by rw [hd0]; rfl) Try.underlying25 rfl rfl)
  clear hA0 hval0 hsz hsz0
  refine (walk n0_0 n0_1 z0_2 a0_3 xs0_3 cap0_3 W hn0_0 hn0_1 lo0_2 hi0_2 hbt0_3 hcap0_3 hlc0_3 hre0_3).mono fun e W' ⟨he, bel⟩ => ?_
  subst he
  exact ⟨_, rfl, _, _, _, [], _, [], hW', trodAll_mk1 (shut_bool Try.underlying4 _), (trodAll_cons_mk (Below.trod laidOut (by kernel_rfl) (of_decide_eq_true (by kernel_rfl)) k0 bel lt0) trodAll_mk0), rfl, bel.frame _, fun h => by cases h⟩

theorem over : Rows.etherOwnRow.holds Try.pinned (OpenSpec.ofChange Rows.etherOwnSpec) :=
  OpenClaim.holds_of_wide 5 Try.f5 rfl rfl rfl rfl rfl rfl rfl ⟨rfl, rfl, rfl, rfl, rfl⟩ rfl rfl rfl rfl rfl (by kernel_rfl) Try.func5 (by kernel_rfl)
    (of_decide_eq_true (by kernel_rfl)) (by unfold Func.isWrapper; first | (rw [if_pos (by decide +kernel)]; kernel_rfl) | (rw [if_neg (by decide +kernel)]; exact ⟨rfl, rfl⟩))
    (fun os started H enc _ => lifted os started H enc)

end Go.Proofs.Ytdiomelldhkibaa.etherOwn
namespace Go.Proofs.Ytdiomelldhkibaa
/-- The statement. -/
theorem etherOwn_holds : Rows.EtherOwnSaid := etherOwn.over
#print axioms etherOwn_holds
end Go.Proofs.Ytdiomelldhkibaa
