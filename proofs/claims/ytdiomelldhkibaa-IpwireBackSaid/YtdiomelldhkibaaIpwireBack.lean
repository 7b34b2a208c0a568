/- For every packet and every list of octets: a packet is read back from its octets, whatever stands behind them; what is no packet is built to none. No condition. -/
import Derived.Test.YtdiomelldhkibaaRows
import Derived.Test.YtdiomelldhkibaaAlive4
import Derived.Test.YtdiomelldhkibaaGSpoil
import Derived.Test.YtdiomelldhkibaaGPlain
import Derived.Test.YtdiomelldhkibaaGSameIP
import Derived.Test.YtdiomelldhkibaaGAppendW
import Derived.Test.YtdiomelldhkibaaGStruct
import Derived.ProofKit
import Derived.OpenShut
import Derived.ShutString
import Derived.ChangeOld
import Derived.SizedLaws
namespace Go.Proofs.Ytdiomelldhkibaa.ipwireBack
open Go.ChangeShapes Go.WideShapes Go.ChangeAt Go.RowKit Go.Proofs.Ytdiomelldhkibaa.law4
open Go.ChangeMaps (open_string shut_string)

set_option maxRecDepth 100000 in
set_option maxHeartbeats 4000000 in
theorem walk_may (tos id : Nat) (df mf : Bool) (off : Nat) (ttl proto src dst : Nat) (oa : Option Addr) (os : List Nat) (oc : Nat) (da : Option Addr) (ds : List Nat) (dc : Nat) (ma : Option Addr) (ms : List Nat) (mc : Nat) (w : World) (hm : IpMay (off : Int) os.length ds.length) (htos : tos < 256) (hid : id < 65536) (httl : ttl < 256) (hproto : proto < 256) (hsrc : src < 4294967296) (hdst : dst < 4294967296) (hx : Bts w oa os) (hoc : oa = none → oc = 0) (hy : Bts w da ds) (hdc : da = none → dc = 0) (hmo : Bts w ma ms) (hmc : ma = none → mc = 0) (hml : ms.length ≤ 140737488351232) :
    Calls Try.prog 6 #[.agg #[.int .u8 tos, .int .u16 id, .bool df, .bool mf, .int .i64 off, .int .u8 ttl, .int .u8 proto, .int .u32 src, .int .u32 dst, .slice oa os.length oc, .slice da ds.length dc], .slice ma ms.length mc] w fun e w' => e = .returned (.bool true) ∧ Below w.heap.size w w' := by
  have hlO : os.length ≤ 140737488355328 := by have h2 := hm.2.1; omega
  have hlD : ds.length ≤ 140737488355328 := by have h3 := hm.2.2; omega
  obtain ⟨R, hR⟩ : ∃ R, ipO tos id df mf off ttl proto src dst os ds = R := ⟨_, rfl⟩
  have hRl : R.length = 20 + os.length + ds.length := by rw [← hR, ipO_len]
  have hlR : R.length ≤ 140737488355328 := by have h3 := hm.2.2; omega
  have hlA : R.length + ms.length ≤ 200000000000000 := by have h3 := hm.2.2; omega
  have hb : ∀ a c a2 c2 W, Bts W a os → Bts W a2 ds → Calls Try.prog 31 #[.agg #[.int .u8 tos, .int .u16 id, .bool df, .bool mf, .int .i64 off, .int .u8 ttl, .int .u8 proto, .int .u32 src, .int .u32 dst, .slice a os.length c, .slice a2 ds.length c2]] W fun e w' => ∃ g cap', e = .returned (.tuple #[.slice (some ⟨g, 0, none⟩) R.length cap', .int .i64 0]) ∧ OwnSl (W.heap.size + 1) (some ⟨g, 0, none⟩) R cap' w' ∧ Below W.heap.size W w' := fun a c a2 c2 W h h' => by
    have h1 := ipB_ok tos id df mf off ttl proto src dst a os c a2 ds c2 W hm htos hid httl hproto hsrc hdst h h'
    rw [hR, ← hRl] at h1
    exact h1
  have hp : ∀ a ts c W, R ++ ms = ts → Bts W a ts → ts.length ≤ c → c ≤ maxLen → Calls Try.prog 33 #[.slice a ts.length c] W fun e w' => ∃ xa xc ya yc, e = .returned (.tuple #[.agg #[.int .u8 tos, .int .u16 id, .bool df, .bool mf, .int .i64 off, .int .u8 ttl, .int .u8 proto, .int .u32 src, .int .u32 dst, .slice xa os.length xc, .slice ya ds.length yc], .int .i64 0]) ∧ OwnSl (W.heap.size + 1) xa os xc w' ∧ OwnSl (W.heap.size + 1) ya ds yc w' ∧ Below W.heap.size W w' := fun a ts c W ht h hc hx' => by
    have hk := ip_back tos id df mf off ttl proto src dst os ds ms hm htos hid httl hproto hsrc hdst hx.1
    rw [hR, ht] at hk
    have h1 := ipP_ok a ts c W h hc hx' (by rw [← ht, List.length_append]; omega) hk.ok
    rw [hk.tos, hk.id, hk.df, hk.mf, hk.off, hk.ttl, hk.proto, hk.src, hk.dst, hk.os, hk.ds] at h1
    exact h1
  have HB := Lib.hid hb
  have HP := Lib.hid hp
  clear hb hp hR hRl hm
  have q_0 := Below.refl w.heap.size w
  have X0 := Lib.hid hx
  have Y0 := Lib.hid hy
  have M0 := Lib.hid hmo
  have HM := Lib.hid hmc
  have HO := Lib.hid hoc
  have HD := Lib.hid hdc
  clear hx hy hmo hmc hoc hdc
  go_enter Try.func6, Try.ntmps6
  go_wp2_with fail
  have b : Below w.heap.size w (w.alloc (.cells #[.int .u8 tos, .int .u16 id, .bool df, .bool mf, .int .i64 off, .int .u8 ttl, .int .u8 proto, .int .u32 src, .int .u32 dst, .slice oa os.length oc, .slice da ds.length dc] 54)) := ((Below.refl _ w).alloc (Nat.le_refl _) (.cells #[.int .u8 tos, .int .u16 id, .bool df, .bool mf, .int .i64 off, .int .u8 ttl, .int .u8 proto, .int .u32 src, .int .u32 dst, .slice oa os.length oc, .slice da ds.length dc] 54))
  have nb0 := blk_new w (.cells #[.int .u8 tos, .int .u16 id, .bool df, .bool mf, .int .i64 off, .int .u8 ttl, .int .u8 proto, .int .u32 src, .int .u32 dst, .slice oa os.length oc, .slice da ds.length dc] 54)
  have nz0 : w.heap.size < (w.alloc (.cells #[.int .u8 tos, .int .u16 id, .bool df, .bool mf, .int .i64 off, .int .u8 ttl, .int .u8 proto, .int .u32 src, .int .u32 dst, .slice oa os.length oc, .slice da ds.length dc] 54)).heap.size := by simp only [World.size_alloc]; omega
  have q_1 := q_0.trans (b.mono q_0.size)
  clear q_0
  clear b
  have K_1 := Lib.hid nb0
  have Kz_1 := nz0
  clear nb0 nz0
  have Kc0_1 := blk_cell K_1.out 0
  have Kc1_1 := blk_cell K_1.out 1
  have Kc2_1 := blk_cell K_1.out 2
  have Kc3_1 := blk_cell K_1.out 3
  have Kc4_1 := blk_cell K_1.out 4
  have Kc5_1 := blk_cell K_1.out 5
  have Kc6_1 := blk_cell K_1.out 6
  have Kc7_1 := blk_cell K_1.out 7
  have Kc8_1 := blk_cell K_1.out 8
  have Kc9_1 := blk_cell K_1.out 9
  have Kc10_1 := blk_cell K_1.out 10
  generalize (w.alloc (.cells #[.int .u8 tos, .int .u16 id, .bool df, .bool mf, .int .i64 off, .int .u8 ttl, .int .u8 proto, .int .u32 src, .int .u32 dst, .slice oa os.length oc, .slice da ds.length dc] 54)) = V1 at q_1 K_1 Kz_1 Kc0_1 Kc1_1 Kc2_1 Kc3_1 Kc4_1 Kc5_1 Kc6_1 Kc7_1 Kc8_1 Kc9_1 Kc10_1 ⊢
  refine (alive_any _).mono ?_
  rintro e V2 ⟨rfl, b⟩
  have K_2 := Lib.hid ((b.block _ Kz_1).trans K_1.out)
  have Kz_2 := Nat.lt_of_lt_of_le Kz_1 b.size
  have Kc0_2 := blk_cell K_2.out 0
  have Kc1_2 := blk_cell K_2.out 1
  have Kc2_2 := blk_cell K_2.out 2
  have Kc3_2 := blk_cell K_2.out 3
  have Kc4_2 := blk_cell K_2.out 4
  have Kc5_2 := blk_cell K_2.out 5
  have Kc6_2 := blk_cell K_2.out 6
  have Kc7_2 := blk_cell K_2.out 7
  have Kc8_2 := blk_cell K_2.out 8
  have Kc9_2 := blk_cell K_2.out 9
  have Kc10_2 := blk_cell K_2.out 10
  have q_2 := q_1.trans (b.mono q_1.size)
  clear K_1 Kz_1 Kc0_1 Kc1_1 Kc2_1 Kc3_1 Kc4_1 Kc5_1 Kc6_1 Kc7_1 Kc8_1 Kc9_1 Kc10_1 q_1
  clear b
  go_wp2_with fail
  refine (HB.out oa oc da dc _ (X0.out.below q_2) (Y0.out.below q_2)).mono ?_
  rintro e V3 ⟨pg, pc, rfl, P, b⟩
  have K_3 := Lib.hid ((b.block _ Kz_2).trans K_2.out)
  have Kz_3 := Nat.lt_of_lt_of_le Kz_2 b.size
  have Kc0_3 := blk_cell K_3.out 0
  have Kc1_3 := blk_cell K_3.out 1
  have Kc2_3 := blk_cell K_3.out 2
  have Kc3_3 := blk_cell K_3.out 3
  have Kc4_3 := blk_cell K_3.out 4
  have Kc5_3 := blk_cell K_3.out 5
  have Kc6_3 := blk_cell K_3.out 6
  have Kc7_3 := blk_cell K_3.out 7
  have Kc8_3 := blk_cell K_3.out 8
  have Kc9_3 := blk_cell K_3.out 9
  have Kc10_3 := blk_cell K_3.out 10
  have q_3 := q_2.trans (b.mono q_2.size)
  clear K_2 Kz_2 Kc0_2 Kc1_2 Kc2_2 Kc3_2 Kc4_2 Kc5_2 Kc6_2 Kc7_2 Kc8_2 Kc9_2 Kc10_2 q_2
  have P_3 := Lib.hid (P)
  clear b
  clear P
  go_wp2_with fail
  refine (num_any _ _).mono ?_
  rintro e w' ⟨rfl, rfl⟩
  have pNil := Lib.hid P_3.out.nilcap
  have kz := Kz_3
  have qs := q_3.size
  go_wp2_with fail
  refine (copy_one (some ⟨pg, 0, none⟩) R pc _ P_3.out.bts hlR pNil.out).mono ?_
  rintro e V4 ⟨ka, kc, rfl, C, b⟩
  have K_4 := Lib.hid ((b.block _ Kz_3).trans K_3.out)
  have Kz_4 := Nat.lt_of_lt_of_le Kz_3 b.size
  have Kc0_4 := blk_cell K_4.out 0
  have Kc1_4 := blk_cell K_4.out 1
  have Kc2_4 := blk_cell K_4.out 2
  have Kc3_4 := blk_cell K_4.out 3
  have Kc4_4 := blk_cell K_4.out 4
  have Kc5_4 := blk_cell K_4.out 5
  have Kc6_4 := blk_cell K_4.out 6
  have Kc7_4 := blk_cell K_4.out 7
  have Kc8_4 := blk_cell K_4.out 8
  have Kc9_4 := blk_cell K_4.out 9
  have Kc10_4 := blk_cell K_4.out 10
  have q_4 := q_3.trans (b.mono q_3.size)
  have sz_4 := b.size
  clear K_3 Kc0_3 Kc1_3 Kc2_3 Kc3_3 Kc4_3 Kc5_3 Kc6_3 Kc7_3 Kc8_3 Kc9_3 Kc10_3 P_3 q_3
  have C_4 := Lib.hid (C)
  clear b
  clear C pNil
  have C0 := Lib.hid (And.intro C_4.out (M0.out.below q_4))
  have bsz := sz_4
  go_wp2_with (at_builtin; refine wpList_append_wide rfl _ _ rfl V3.heap.size C0.out.1 C0.out.2 HM.out rfl rfl hlA bsz ?_; intro ta tc V5 T bt; obtain ⟨ts, ht⟩ : ∃ ts, R ++ ms = ts := ⟨_, rfl⟩; rw [ht] at T ⊢; have HT := Lib.hid T; have Ht := Lib.hid ht; have Bt := Lib.hid bt; clear T ht bt C0)
  have bt := Bt.out
  have K_5 := Lib.hid ((bt.block _ kz).trans K_4.out)
  have Kz_5 := Nat.lt_of_lt_of_le Kz_4 bt.size
  have Kc0_5 := blk_cell K_5.out 0
  have Kc1_5 := blk_cell K_5.out 1
  have Kc2_5 := blk_cell K_5.out 2
  have Kc3_5 := blk_cell K_5.out 3
  have Kc4_5 := blk_cell K_5.out 4
  have Kc5_5 := blk_cell K_5.out 5
  have Kc6_5 := blk_cell K_5.out 6
  have Kc7_5 := blk_cell K_5.out 7
  have Kc8_5 := blk_cell K_5.out 8
  have Kc9_5 := blk_cell K_5.out 9
  have Kc10_5 := blk_cell K_5.out 10
  have q_5 := q_4.trans (bt.mono qs)
  clear K_4 Kz_4 q_4 C_4 bt Bt Kc0_4 Kc1_4 Kc2_4 Kc3_4 Kc4_4 Kc5_4 Kc6_4 Kc7_4 Kc8_4 Kc9_4 Kc10_4
  have T_5 := Lib.hid (HT.out)
  have tc1 := T_5.out.capLe
  clear HT
  refine (HP.out ta ts tc _ Ht.out T_5.out.bts tc1.1 tc1.2).mono ?_
  rintro e V6 ⟨xa, xc, ya, yc, rfl, U, Z, b⟩
  have K_6 := Lib.hid ((b.block _ Kz_5).trans K_5.out)
  have Kz_6 := Nat.lt_of_lt_of_le Kz_5 b.size
  have Kc0_6 := blk_cell K_6.out 0
  have Kc1_6 := blk_cell K_6.out 1
  have Kc2_6 := blk_cell K_6.out 2
  have Kc3_6 := blk_cell K_6.out 3
  have Kc4_6 := blk_cell K_6.out 4
  have Kc5_6 := blk_cell K_6.out 5
  have Kc6_6 := blk_cell K_6.out 6
  have Kc7_6 := blk_cell K_6.out 7
  have Kc8_6 := blk_cell K_6.out 8
  have Kc9_6 := blk_cell K_6.out 9
  have Kc10_6 := blk_cell K_6.out 10
  have T_6 := Lib.hid (T_5.out.below b)
  have q_6 := q_5.trans (b.mono q_5.size)
  clear K_5 Kz_5 Kc0_5 Kc1_5 Kc2_5 Kc3_5 Kc4_5 Kc5_5 Kc6_5 Kc7_5 Kc8_5 Kc9_5 Kc10_5 T_5 q_5
  have U_6 := Lib.hid (U)
  have Z_6 := Lib.hid (Z)
  clear b
  clear U Z
  go_wp2_with fail
  have b : Below V6.heap.size V6 (V6.alloc (.cells #[.int .u8 tos, .int .u16 id, .bool df, .bool mf, .int .i64 off, .int .u8 ttl, .int .u8 proto, .int .u32 src, .int .u32 dst, .slice xa os.length xc, .slice ya ds.length yc] 54)) := ((Below.refl _ V6).alloc (Nat.le_refl _) (.cells #[.int .u8 tos, .int .u16 id, .bool df, .bool mf, .int .i64 off, .int .u8 ttl, .int .u8 proto, .int .u32 src, .int .u32 dst, .slice xa os.length xc, .slice ya ds.length yc] 54))
  have nb0 := blk_new V6 (.cells #[.int .u8 tos, .int .u16 id, .bool df, .bool mf, .int .i64 off, .int .u8 ttl, .int .u8 proto, .int .u32 src, .int .u32 dst, .slice xa os.length xc, .slice ya ds.length yc] 54)
  have nz0 : V6.heap.size < (V6.alloc (.cells #[.int .u8 tos, .int .u16 id, .bool df, .bool mf, .int .i64 off, .int .u8 ttl, .int .u8 proto, .int .u32 src, .int .u32 dst, .slice xa os.length xc, .slice ya ds.length yc] 54)).heap.size := by simp only [World.size_alloc]; omega
  have K_7 := Lib.hid ((b.block _ Kz_6).trans K_6.out)
  have Kz_7 := Nat.lt_of_lt_of_le Kz_6 b.size
  have Kc0_7 := blk_cell K_7.out 0
  have Kc1_7 := blk_cell K_7.out 1
  have Kc2_7 := blk_cell K_7.out 2
  have Kc3_7 := blk_cell K_7.out 3
  have Kc4_7 := blk_cell K_7.out 4
  have Kc5_7 := blk_cell K_7.out 5
  have Kc6_7 := blk_cell K_7.out 6
  have Kc7_7 := blk_cell K_7.out 7
  have Kc8_7 := blk_cell K_7.out 8
  have Kc9_7 := blk_cell K_7.out 9
  have Kc10_7 := blk_cell K_7.out 10
  have T_7 := Lib.hid (T_6.out.below b)
  have U_7 := Lib.hid (U_6.out.below b)
  have Z_7 := Lib.hid (Z_6.out.below b)
  have q_7 := q_6.trans (b.mono q_6.size)
  clear K_6 Kz_6 Kc0_6 Kc1_6 Kc2_6 Kc3_6 Kc4_6 Kc5_6 Kc6_6 Kc7_6 Kc8_6 Kc9_6 Kc10_6 T_6 U_6 Z_6 q_6
  clear b
  have L_7 := Lib.hid nb0
  have Lz_7 := nz0
  clear nb0 nz0
  have Lc0_7 := blk_cell L_7.out 0
  have Lc1_7 := blk_cell L_7.out 1
  have Lc2_7 := blk_cell L_7.out 2
  have Lc3_7 := blk_cell L_7.out 3
  have Lc4_7 := blk_cell L_7.out 4
  have Lc5_7 := blk_cell L_7.out 5
  have Lc6_7 := blk_cell L_7.out 6
  have Lc7_7 := blk_cell L_7.out 7
  have Lc8_7 := blk_cell L_7.out 8
  have Lc9_7 := blk_cell L_7.out 9
  have Lc10_7 := blk_cell L_7.out 10
  generalize (V6.alloc (.cells #[.int .u8 tos, .int .u16 id, .bool df, .bool mf, .int .i64 off, .int .u8 ttl, .int .u8 proto, .int .u32 src, .int .u32 dst, .slice xa os.length xc, .slice ya ds.length yc] 54)) = V7 at q_7 K_7 Kz_7 Kc0_7 Kc1_7 Kc2_7 Kc3_7 Kc4_7 Kc5_7 Kc6_7 Kc7_7 Kc8_7 Kc9_7 Kc10_7 T_7 U_7 Z_7 L_7 Lz_7 Lc0_7 Lc1_7 Lc2_7 Lc3_7 Lc4_7 Lc5_7 Lc6_7 Lc7_7 Lc8_7 Lc9_7 Lc10_7 ⊢
  refine (num_any _ _).mono ?_
  rintro e w' ⟨rfl, rfl⟩
  go_wp2_with fail
  refine (sameIP_one tos id df mf off ttl proto src dst xa oa os xc oc ya da ds yc dc _ U_7.out.bts (X0.out.below q_7) hlO Z_7.out.bts (Y0.out.below q_7) hlD).mono ?_
  rintro e V8 ⟨rfl, b⟩
  have K_8 := Lib.hid ((b.block _ Kz_7).trans K_7.out)
  have Kz_8 := Nat.lt_of_lt_of_le Kz_7 b.size
  have Kc0_8 := blk_cell K_8.out 0
  have Kc1_8 := blk_cell K_8.out 1
  have Kc2_8 := blk_cell K_8.out 2
  have Kc3_8 := blk_cell K_8.out 3
  have Kc4_8 := blk_cell K_8.out 4
  have Kc5_8 := blk_cell K_8.out 5
  have Kc6_8 := blk_cell K_8.out 6
  have Kc7_8 := blk_cell K_8.out 7
  have Kc8_8 := blk_cell K_8.out 8
  have Kc9_8 := blk_cell K_8.out 9
  have Kc10_8 := blk_cell K_8.out 10
  have T_8 := Lib.hid (T_7.out.below b)
  have U_8 := Lib.hid (U_7.out.below b)
  have Z_8 := Lib.hid (Z_7.out.below b)
  have L_8 := Lib.hid ((b.block _ Lz_7).trans L_7.out)
  have Lz_8 := Nat.lt_of_lt_of_le Lz_7 b.size
  have Lc0_8 := blk_cell L_8.out 0
  have Lc1_8 := blk_cell L_8.out 1
  have Lc2_8 := blk_cell L_8.out 2
  have Lc3_8 := blk_cell L_8.out 3
  have Lc4_8 := blk_cell L_8.out 4
  have Lc5_8 := blk_cell L_8.out 5
  have Lc6_8 := blk_cell L_8.out 6
  have Lc7_8 := blk_cell L_8.out 7
  have Lc8_8 := blk_cell L_8.out 8
  have Lc9_8 := blk_cell L_8.out 9
  have Lc10_8 := blk_cell L_8.out 10
  have q_8 := q_7.trans (b.mono q_7.size)
  clear K_7 Kz_7 Kc0_7 Kc1_7 Kc2_7 Kc3_7 Kc4_7 Kc5_7 Kc6_7 Kc7_7 Kc8_7 Kc9_7 Kc10_7 T_7 U_7 Z_7 L_7 Lz_7 Lc0_7 Lc1_7 Lc2_7 Lc3_7 Lc4_7 Lc5_7 Lc6_7 Lc7_7 Lc8_7 Lc9_7 Lc10_7 q_7
  clear b
  go_wp2
  go_ret
  exact ⟨rfl, q_8⟩

set_option maxRecDepth 100000 in
set_option maxHeartbeats 2000000 in
theorem walk_no (tos id : Nat) (df mf : Bool) (off : Int) (ttl proto src dst : Nat) (oa : Option Addr) (os : List Nat) (oc : Nat) (da : Option Addr) (ds : List Nat) (dc : Nat) (ma : Option Addr) (ms : List Nat) (mc : Nat) (w : World) (hm : ¬ IpMay off os.length ds.length) (hdl : ds.length ≤ 140737488351232) (hx : Bts w oa os) (hoc : oa = none → oc = 0) (hy : Bts w da ds) (hdc : da = none → dc = 0) (hmo : Bts w ma ms) (hmc : ma = none → mc = 0) :
    Calls Try.prog 6 #[.agg #[.int .u8 tos, .int .u16 id, .bool df, .bool mf, .int .i64 off, .int .u8 ttl, .int .u8 proto, .int .u32 src, .int .u32 dst, .slice oa os.length oc, .slice da ds.length dc], .slice ma ms.length mc] w fun e w' => e = .returned (.bool true) ∧ Below w.heap.size w w' := by
  have hb : ∀ W, Calls Try.prog 31 #[.agg #[.int .u8 tos, .int .u16 id, .bool df, .bool mf, .int .i64 off, .int .u8 ttl, .int .u8 proto, .int .u32 src, .int .u32 dst, .slice oa os.length oc, .slice da ds.length dc]] W (IpBad W) := fun W => ipB_bad tos id df mf off ttl proto src dst oa os.length oc da ds.length dc W (by omega) hm
  have HB := Lib.hid hb
  clear hb hm
  have q_0 := Below.refl w.heap.size w
  have X0 := Lib.hid hx
  have Y0 := Lib.hid hy
  have M0 := Lib.hid hmo
  have HM := Lib.hid hmc
  have HO := Lib.hid hoc
  have HD := Lib.hid hdc
  clear hx hy hmo hmc hoc hdc
  go_enter Try.func6, Try.ntmps6
  go_wp2_with fail
  have b : Below w.heap.size w (w.alloc (.cells #[.int .u8 tos, .int .u16 id, .bool df, .bool mf, .int .i64 off, .int .u8 ttl, .int .u8 proto, .int .u32 src, .int .u32 dst, .slice oa os.length oc, .slice da ds.length dc] 54)) := ((Below.refl _ w).alloc (Nat.le_refl _) (.cells #[.int .u8 tos, .int .u16 id, .bool df, .bool mf, .int .i64 off, .int .u8 ttl, .int .u8 proto, .int .u32 src, .int .u32 dst, .slice oa os.length oc, .slice da ds.length dc] 54))
  have nb0 := blk_new w (.cells #[.int .u8 tos, .int .u16 id, .bool df, .bool mf, .int .i64 off, .int .u8 ttl, .int .u8 proto, .int .u32 src, .int .u32 dst, .slice oa os.length oc, .slice da ds.length dc] 54)
  have nz0 : w.heap.size < (w.alloc (.cells #[.int .u8 tos, .int .u16 id, .bool df, .bool mf, .int .i64 off, .int .u8 ttl, .int .u8 proto, .int .u32 src, .int .u32 dst, .slice oa os.length oc, .slice da ds.length dc] 54)).heap.size := by simp only [World.size_alloc]; omega
  have q_1 := q_0.trans (b.mono q_0.size)
  clear q_0
  clear b
  have K_1 := Lib.hid nb0
  have Kz_1 := nz0
  clear nb0 nz0
  have Kc0_1 := blk_cell K_1.out 0
  have Kc1_1 := blk_cell K_1.out 1
  have Kc2_1 := blk_cell K_1.out 2
  have Kc3_1 := blk_cell K_1.out 3
  have Kc4_1 := blk_cell K_1.out 4
  have Kc5_1 := blk_cell K_1.out 5
  have Kc6_1 := blk_cell K_1.out 6
  have Kc7_1 := blk_cell K_1.out 7
  have Kc8_1 := blk_cell K_1.out 8
  have Kc9_1 := blk_cell K_1.out 9
  have Kc10_1 := blk_cell K_1.out 10
  generalize (w.alloc (.cells #[.int .u8 tos, .int .u16 id, .bool df, .bool mf, .int .i64 off, .int .u8 ttl, .int .u8 proto, .int .u32 src, .int .u32 dst, .slice oa os.length oc, .slice da ds.length dc] 54)) = V1 at q_1 K_1 Kz_1 Kc0_1 Kc1_1 Kc2_1 Kc3_1 Kc4_1 Kc5_1 Kc6_1 Kc7_1 Kc8_1 Kc9_1 Kc10_1 ⊢
  refine (alive_any _).mono ?_
  rintro e V2 ⟨rfl, b⟩
  have K_2 := Lib.hid ((b.block _ Kz_1).trans K_1.out)
  have Kz_2 := Nat.lt_of_lt_of_le Kz_1 b.size
  have Kc0_2 := blk_cell K_2.out 0
  have Kc1_2 := blk_cell K_2.out 1
  have Kc2_2 := blk_cell K_2.out 2
  have Kc3_2 := blk_cell K_2.out 3
  have Kc4_2 := blk_cell K_2.out 4
  have Kc5_2 := blk_cell K_2.out 5
  have Kc6_2 := blk_cell K_2.out 6
  have Kc7_2 := blk_cell K_2.out 7
  have Kc8_2 := blk_cell K_2.out 8
  have Kc9_2 := blk_cell K_2.out 9
  have Kc10_2 := blk_cell K_2.out 10
  have q_2 := q_1.trans (b.mono q_1.size)
  clear K_1 Kz_1 Kc0_1 Kc1_1 Kc2_1 Kc3_1 Kc4_1 Kc5_1 Kc6_1 Kc7_1 Kc8_1 Kc9_1 Kc10_1 q_1
  clear b
  go_wp2_with fail
  refine (HB.out _).mono ?_
  rintro e V3 ⟨n, hn, rfl, b⟩
  have K_3 := Lib.hid ((b.block _ Kz_2).trans K_2.out)
  have Kz_3 := Nat.lt_of_lt_of_le Kz_2 b.size
  have Kc0_3 := blk_cell K_3.out 0
  have Kc1_3 := blk_cell K_3.out 1
  have Kc2_3 := blk_cell K_3.out 2
  have Kc3_3 := blk_cell K_3.out 3
  have Kc4_3 := blk_cell K_3.out 4
  have Kc5_3 := blk_cell K_3.out 5
  have Kc6_3 := blk_cell K_3.out 6
  have Kc7_3 := blk_cell K_3.out 7
  have Kc8_3 := blk_cell K_3.out 8
  have Kc9_3 := blk_cell K_3.out 9
  have Kc10_3 := blk_cell K_3.out 10
  have q_3 := q_2.trans (b.mono q_2.size)
  clear K_2 Kz_2 Kc0_2 Kc1_2 Kc2_2 Kc3_2 Kc4_2 Kc5_2 Kc6_2 Kc7_2 Kc8_2 Kc9_2 Kc10_2 q_2
  clear b
  go_wp2_with fail
  refine (num_any _ _).mono ?_
  rintro e w' ⟨rfl, rfl⟩
  have hn1 : (n != 0) = true := by simp [hn]
  have hn2 : (n == 0) = false := by simp [hn]
  go_wp2
  go_ret
  exact ⟨rfl, q_3⟩

theorem walk (tos id : Nat) (df mf : Bool) (off : Int) (ttl proto src dst : Nat) (oa : Option Addr) (os : List Nat) (oc : Nat) (da : Option Addr) (ds : List Nat) (dc : Nat) (ma : Option Addr) (ms : List Nat) (mc : Nat) (w : World)
    (htos : tos < 256) (hid : id < 65536) (_ : -9223372036854775808 ≤ off) (_ : off ≤ 9223372036854775807) (httl : ttl < 256) (hproto : proto < 256) (hsrc : src < 4294967296) (hdst : dst < 4294967296)
    (hx : Bts w oa os) (hoc : oa = none → oc = 0) (_ : os.length ≤ oc ∧ oc ≤ maxLen) (_ : os.length ≤ 140737488351232) (hy : Bts w da ds) (hdc : da = none → dc = 0) (_ : ds.length ≤ dc ∧ dc ≤ maxLen) (hdl : ds.length ≤ 140737488351232)
    (hmo : Bts w ma ms) (hmc : ma = none → mc = 0) (hml : ms.length ≤ 140737488351232) :
    Calls Try.prog 6 #[.agg #[.int .u8 tos, .int .u16 id, .bool df, .bool mf, .int .i64 off, .int .u8 ttl, .int .u8 proto, .int .u32 src, .int .u32 dst, .slice oa os.length oc, .slice da ds.length dc], .slice ma ms.length mc] w fun e w' => e = .returned (.bool true) ∧ Below w.heap.size w w' := by
  by_cases h : IpMay off os.length ds.length
  · obtain ⟨n, rfl⟩ : ∃ n : Nat, off = n := ⟨off.toNat, by have := h.1; omega⟩
    exact walk_may tos id df mf n ttl proto src dst oa os oc da ds dc ma ms mc w h htos hid httl hproto hsrc hdst hx hoc hy hdc hmo hmc hml
  · exact walk_no tos id df mf off ttl proto src dst oa os oc da ds dc ma ms mc w h hdl hx hoc hy hdc hmo hmc

theorem of_len11 {α : Type} (l : List α) (h : l.length = 11) : ∃ x0 x1 x2 x3 x4 x5 x6 x7 x8 x9 x10, l = [x0, x1, x2, x3, x4, x5, x6, x7, x8, x9, x10] := by
  match l, h with
  | [x0, x1, x2, x3, x4, x5, x6, x7, x8, x9, x10], _ => exact ⟨x0, x1, x2, x3, x4, x5, x6, x7, x8, x9, x10, rfl⟩
theorem own : ownKnob Try.prog.godebug = none := by kernel_rfl
theorem laidOut : laidOutB Try.prog = true := by kernel_rfl

set_option maxRecDepth 100000 in
set_option maxHeartbeats 2000000 in
theorem lifted (os : Os) (started : os.Started) (H : Type) (enc : TypeId × Value → H) :
    ReturnsInHanded {} Try.checked os 6 .any (Rows.ipwireBackSpec.pre6 enc Try.prog Try.f6 Rows.ipwireBackRow.domain false) (Rows.ipwireBackSpec.post enc Try.prog Try.f6 false true false false) := by
  refine returnsInHanded_of_change_sized (C := Try.checked) own started (by kernel_rfl) Try.func6
    (ChangeSpec.witness6 (enc := enc) (C := Try.checked) false ⟨#[], #[.agg #[.int .u8 0, .int .u16 0, .bool false, .bool false, .int .i64 0, .int .u8 0, .int .u8 0, .int .u32 0, .int .u32 0, .slice none 0 0, .slice none 0 0], .slice none 0 0], []⟩ 8 (by kernel_rfl) (by kernel_rfl) (by kernel_rfl) (by kernel_rfl)) ?_
  intro W base args ds gs before hval0 hW hcnd hsz0 _
  have hval : ∀ (j : Nat) t v, Try.f6.params[j]? = some t → args[j]? = some v → Value.okWide Try.prog W .any base t v := hval0
  have hsz : (DataW.weightsEach Try.prog (Try.f6.params.toList ++ Rows.ipwireBackSpec.plain.varTypes Try.prog) (ds ++ gs)).all (· ≤ reachBytes) = true := hsz0
  have hW' := hW
  obtain ⟨p, q, hA0, hV, rfl, hfz, hnd⟩ := hW
  have hA : DataW.TrodAll enc Try.prog W 0 (fun _ => true) true Try.f6.params.toList args.toList ds p := hA0
  rw [Try.params6] at hA hval hsz
  obtain ⟨v0, vs0, d0, ds0, p0, q0, hargs, rfl, rfl, h0, r0⟩ := trodAll_cons hA
  obtain ⟨v1, vs1, d1, ds1, p1, q1, rfl, rfl, rfl, h1, r1⟩ := trodAll_cons r0
  obtain ⟨rfl, rfl, rfl⟩ := trodAll_nil r1
  obtain rfl : args = #[v0, v1] := by cases args; simp_all
  obtain ⟨rfl, rfl⟩ := trodVars_none hV
  have k0 := h0
  have lt0 : ∀ x ∈ p0, x.block < W.heap.size := by obtain ⟨m, hm⟩ := k0; exact DataW.trod_lt m _ _ _ hm
  obtain ⟨vs0', ys0', m0, rfl, lv0, ly0, hd0, F0⟩ := open_agg Try.underlying54 (by kernel_rfl) (by kernel_rfl) (hval 0 54 v0 rfl rfl) h0
  obtain ⟨c0_0, c0_1, c0_2, c0_3, c0_4, c0_5, c0_6, c0_7, c0_8, c0_9, c0_10, rfl⟩ := of_len11 _ lv0
  obtain ⟨y0_0, y0_1, y0_2, y0_3, y0_4, y0_5, y0_6, y0_7, y0_8, y0_9, y0_10, rfl⟩ := of_len11 _ ly0
  simp only [List.map_cons, List.map_nil] at hd0
  obtain ⟨_, _, e, g, t0_0⟩ := F0 0 _ rfl
  obtain rfl := Option.some.inj e; obtain rfl := Option.some.inj g; clear e g
  obtain ⟨z0_0, e, _, w0_0⟩ := DataW.trod_int Try.underlying5 t0_0
  obtain rfl := (List.cons.inj e).1; clear e
  obtain ⟨n0_0, rfl, hn0_0⟩ := nat_of_u8 w0_0
  obtain ⟨_, _, e, g, t0_1⟩ := F0 1 _ rfl
  obtain rfl := Option.some.inj e; obtain rfl := Option.some.inj g; clear e g
  obtain ⟨z0_1, e, _, w0_1⟩ := DataW.trod_int Try.underlying52 t0_1
  obtain rfl := (List.cons.inj e).1; clear e
  obtain ⟨n0_1, rfl, hn0_1⟩ := nat_of_u16 w0_1
  obtain ⟨_, _, e, g, t0_2⟩ := F0 2 _ rfl
  obtain rfl := Option.some.inj e; obtain rfl := Option.some.inj g; clear e g
  obtain ⟨b0_2, e, _⟩ := DataW.trod_bool Try.underlying4 t0_2
  obtain rfl := (List.cons.inj e).1; clear e
  obtain ⟨_, _, e, g, t0_3⟩ := F0 3 _ rfl
  obtain rfl := Option.some.inj e; obtain rfl := Option.some.inj g; clear e g
  obtain ⟨b0_3, e, _⟩ := DataW.trod_bool Try.underlying4 t0_3
  obtain rfl := (List.cons.inj e).1; clear e
  obtain ⟨_, _, e, g, t0_4⟩ := F0 4 _ rfl
  obtain rfl := Option.some.inj e; obtain rfl := Option.some.inj g; clear e g
  obtain ⟨z0_4, e, _, w0_4⟩ := DataW.trod_int Try.underlying3 t0_4
  obtain rfl := (List.cons.inj e).1; clear e
  obtain ⟨lo0_4, hi0_4⟩ := bounds_i64 w0_4
  obtain ⟨_, _, e, g, t0_5⟩ := F0 5 _ rfl
  obtain rfl := Option.some.inj e; obtain rfl := Option.some.inj g; clear e g
  obtain ⟨z0_5, e, _, w0_5⟩ := DataW.trod_int Try.underlying5 t0_5
  obtain rfl := (List.cons.inj e).1; clear e
  obtain ⟨n0_5, rfl, hn0_5⟩ := nat_of_u8 w0_5
  obtain ⟨_, _, e, g, t0_6⟩ := F0 6 _ rfl
  obtain rfl := Option.some.inj e; obtain rfl := Option.some.inj g; clear e g
  obtain ⟨z0_6, e, _, w0_6⟩ := DataW.trod_int Try.underlying5 t0_6
  obtain rfl := (List.cons.inj e).1; clear e
  obtain ⟨n0_6, rfl, hn0_6⟩ := nat_of_u8 w0_6
  obtain ⟨_, _, e, g, t0_7⟩ := F0 7 _ rfl
  obtain rfl := Option.some.inj e; obtain rfl := Option.some.inj g; clear e g
  obtain ⟨z0_7, e, _, w0_7⟩ := DataW.trod_int Try.underlying26 t0_7
  obtain rfl := (List.cons.inj e).1; clear e
  obtain ⟨n0_7, rfl, hn0_7⟩ := nat_of_u32 w0_7
  obtain ⟨_, _, e, g, t0_8⟩ := F0 8 _ rfl
  obtain rfl := Option.some.inj e; obtain rfl := Option.some.inj g; clear e g
  obtain ⟨z0_8, e, _, w0_8⟩ := DataW.trod_int Try.underlying26 t0_8
  obtain rfl := (List.cons.inj e).1; clear e
  obtain ⟨n0_8, rfl, hn0_8⟩ := nat_of_u32 w0_8
  obtain ⟨_, _, e, g, t0_9⟩ := F0 9 _ rfl
  obtain rfl := Option.some.inj e; obtain rfl := Option.some.inj g; clear e g
  obtain ⟨a0_9, xs0_9, cap0_9, rfl, hbt0_9, hcap0_9, hlc0_9, hq0_9⟩ := open_bytes t0_9
  obtain ⟨_, _, e, g, t0_10⟩ := F0 10 _ rfl
  obtain rfl := Option.some.inj e; obtain rfl := Option.some.inj g; clear e g
  obtain ⟨a0_10, xs0_10, cap0_10, rfl, hbt0_10, hcap0_10, hlc0_10, hq0_10⟩ := open_bytes t0_10
  obtain ⟨a1, len1, cap1, rfl⟩ := okWide_slice Try.underlying23 (hval 1 23 v1 rfl rfl)
  have k1 := h1
  have lt1 : ∀ x ∈ p1, x.block < W.heap.size := by obtain ⟨m, hm⟩ := k1; exact DataW.trod_lt m _ _ _ hm
  have hre0_9 : xs0_9.length ≤ 140737488351232 := bytes_reach hq0_9 (sized_field hsz (j := 0) (i := 9) (t := 54) rfl (by rw [hd0]; rfl) Try.underlying54 rfl rfl)
  have hre0_10 : xs0_10.length ≤ 140737488351232 := bytes_reach hq0_10 (sized_field hsz (j := 0) (i := 10) (t := 54) rfl (by rw [hd0]; rfl) Try.underlying54 rfl rfl)
  obtain ⟨xs1, hxl1, hbt1, hcap1, hre1⟩ : ∃ xs : List Nat, xs.length = len1 ∧ Bts W a1 xs ∧ (a1 = none → cap1 = 0) ∧ xs.length ≤ 140737488351232 := by
    obtain ⟨fuel, hf⟩ := h1
    rcases open_ints Try.underlying23 Try.underlying5 (by kernel_rfl) hf with ⟨hcs, _⟩ | ⟨x, l, c, zs, hcs, _, hl, hm, hz, hd, hcell, hwz⟩
    · simp [Value.cells] at hcs
      obtain ⟨rfl, rfl, rfl⟩ := hcs
      exact ⟨[], rfl, ⟨(fun x h => by cases h), .inl rfl⟩, fun _ => rfl, by simp⟩
    · simp [Value.cells] at hcs
      obtain ⟨rfl, rfl, rfl⟩ := hcs
      have hz' : zs.length = cap1 := by simpa using hz
      obtain ⟨xs, h1, h2⟩ := bts_of_ints hl hz' hcell hwz
      have hd' := (Prod.mk.inj hd).1
      have hw := sized_slice hsz (j := 1) (t := 23) (e := 5) rfl (by rw [hd']; rfl) Try.underlying23
      rw [bytes5] at hw
      simp only [lits, List.length_map, List.length_take, List.length_drop, reachBytes] at hw
      exact ⟨xs, h1, h2, (fun h => by cases h), by omega⟩
  clear hA0 hval0 hsz hsz0
  subst hxl1
  refine (walk n0_0 n0_1 b0_2 b0_3 z0_4 n0_5 n0_6 n0_7 n0_8 a0_9 xs0_9 cap0_9 a0_10 xs0_10 cap0_10 a1 xs1 cap1 W hn0_0 hn0_1 lo0_4 hi0_4 hn0_5 hn0_6 hn0_7 hn0_8 hbt0_9 hcap0_9 hlc0_9 hre0_9 hbt0_10 hcap0_10 hlc0_10 hre0_10 hbt1 hcap1 hre1).mono fun e W' ⟨he, bel⟩ => ?_
  subst he
  exact ⟨_, rfl, _, _, _, [], _, [], hW', trodAll_mk1 (shut_bool Try.underlying4 _), (trodAll_cons_mk (Below.trod laidOut (by kernel_rfl) (of_decide_eq_true (by kernel_rfl)) k0 bel lt0) (trodAll_cons_mk (Below.trod laidOut (by kernel_rfl) (of_decide_eq_true (by kernel_rfl)) k1 bel lt1) trodAll_mk0)), rfl, bel.frame _, fun h => by cases h⟩

theorem over : Rows.ipwireBackRow.holds Try.pinned (OpenSpec.ofChange Rows.ipwireBackSpec) :=
  OpenClaim.holds_of_wide 6 Try.f6 rfl rfl rfl rfl rfl rfl rfl ⟨rfl, rfl, rfl, rfl, rfl⟩ rfl rfl rfl rfl rfl (by kernel_rfl) Try.func6 (by kernel_rfl)
    (of_decide_eq_true (by kernel_rfl)) (by unfold Func.isWrapper; first | (rw [if_pos (by decide +kernel)]; kernel_rfl) | (rw [if_neg (by decide +kernel)]; exact ⟨rfl, rfl⟩))
    (fun os started H enc _ => lifted os started H enc)

end Go.Proofs.Ytdiomelldhkibaa.ipwireBack
namespace Go.Proofs.Ytdiomelldhkibaa
/-- The statement. -/
theorem ipwireBack_holds : Rows.IpwireBackSaid := ipwireBack.over
#print axioms ipwireBack_holds
end Go.Proofs.Ytdiomelldhkibaa
