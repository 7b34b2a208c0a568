/- For every packet and every bit of its header but those of its own length: with the bit turned it is read as no packet. No condition. -/
import Derived.Test.YtpdlmgafkjmjpaaRows
import Derived.Test.YtpdlmgafkjmjpaaAlive4
import Derived.Test.YtpdlmgafkjmjpaaGStruct
import Derived.ProofKit
import Derived.OpenShut
import Derived.ShutString
import Derived.ChangeOld
import Derived.SizedLaws
import Derived.Test.YtpdlmgafkjmjpaaIpT
import Derived.Laws.ShiftsVarLaws
import Derived.Deep.RegionHeld3
import Derived.StillTailTactics
namespace Go.Proofs.Ytpdlmgafkjmjpaa.ipwireFinds
open Go.ChangeShapes Go.WideShapes Go.ChangeAt Go.RowKit Go.Proofs.Ytpdlmgafkjmjpaa.law4
open Go.ChangeMaps (open_string shut_string)

theorem _root_.Go.Proofs.Ytpdlmgafkjmjpaa.Bts.takeN {w : World} {a : Option Addr} {xs : List Nat} (h : Bts w a xs) (n : Nat) : Bts w a (xs.take n) := by
  refine ⟨fun x hx => h.1 x (List.mem_of_mem_take hx), ?_⟩
  rcases h.2 with rfl | ⟨b, off, rfl, hb, hc⟩
  · exact .inl (by simp)
  · refine .inr ⟨b, off, rfl, hb, fun i hi => ?_⟩
    rw [List.length_take] at hi
    rw [hc i (by omega), List.getD_eq_getElem?_getD, List.getD_eq_getElem?_getD, List.getElem?_take_of_lt (by omega)]

set_option maxRecDepth 100000 in
set_option maxHeartbeats 4000000 in
theorem walk_may (tos id : Nat) (df mf : Bool) (off : Nat) (ttl proto src dst : Nat) (oa : Option Addr) (os : List Nat) (oc : Nat) (da : Option Addr) (ds : List Nat) (dc : Nat) (at0 : Int) (w : World) (hm : IpMay (off : Int) ([] : List Nat).length ds.length) (htos : tos < 256) (hid : id < 65536) (httl : ttl < 256) (hproto : proto < 256) (hsrc : src < 4294967296) (hdst : dst < 4294967296) (hy : Bts w da ds) (_ : -9223372036854775808 ≤ at0) (_ : at0 ≤ 9223372036854775807) :
    Calls Try.prog 4 #[.agg #[.int .u8 tos, .int .u16 id, .bool df, .bool mf, .int .i64 off, .int .u8 ttl, .int .u8 proto, .int .u32 src, .int .u32 dst, .slice oa os.length oc, .slice da ds.length dc], .int .i64 at0] w fun e w' => e = .returned (.bool true) ∧ Below w.heap.size w w' := by
  obtain ⟨R, hR⟩ : ∃ R, ipO tos id df mf off ttl proto src dst [] ds = R := ⟨_, rfl⟩
  have hRl : R.length = 20 + 0 + ds.length := by rw [← hR, ipO_len]; rfl
  have hlR : 20 ≤ R.length ∧ R.length ≤ 65535 := by have h3 := hm.2.2; simp at h3; omega
  have hk := ip_back tos id df mf off ttl proto src dst [] ds [] hm htos hid httl hproto hsrc hdst (fun x h => by cases h)
  rw [List.append_nil, hR] at hk
  have hb : ∀ a2 c2 W, Bts W a2 ds → Calls Try.prog 19 #[.agg #[.int .u8 tos, .int .u16 id, .bool df, .bool mf, .int .i64 off, .int .u8 ttl, .int .u8 proto, .int .u32 src, .int .u32 dst, .slice none 0 0, .slice a2 ds.length c2]] W fun e w' => ∃ g cap', e = .returned (.tuple #[.slice (some ⟨g, 0, none⟩) R.length cap', .int .i64 0]) ∧ OwnSl (W.heap.size + 1) (some ⟨g, 0, none⟩) R cap' w' ∧ Below W.heap.size W w' := fun a2 c2 W h' => by
    have h1 := ipB_ok tos id df mf off ttl proto src dst none [] 0 a2 ds c2 W hm htos hid httl hproto hsrc hdst (Bts.nil _ _) h'
    rw [hR] at h1
    rw [hRl]
    exact h1
  have h20 : ipHead R = 20 := by
    have h1 := congrArg List.length hk.os
    have h2 := hk.ok.2.2.1
    unfold ipOs at h1
    rw [seg_length _ _ _ (by omega)] at h1
    simp at h1
    omega
  have hflip := fun (hx : ∀ x ∈ R, x < 256) j v => ip_flip R hx hk.ok h20 j v
  have HB := Lib.hid hb
  have HL := Lib.hid hflip
  clear hb hR hRl hm hk h20 hflip
  have q_0 := Below.refl w.heap.size w
  have Y0 := Lib.hid hy
  clear hy
  go_enter Try.func4, Try.ntmps4
  go_wp2_with fail
  have b : Below w.heap.size w (w.alloc (.cells #[.int .u8 tos, .int .u16 id, .bool df, .bool mf, .int .i64 off, .int .u8 ttl, .int .u8 proto, .int .u32 src, .int .u32 dst, .slice oa os.length oc, .slice da ds.length dc] 27)) := ((Below.refl _ w).alloc (Nat.le_refl _) (.cells #[.int .u8 tos, .int .u16 id, .bool df, .bool mf, .int .i64 off, .int .u8 ttl, .int .u8 proto, .int .u32 src, .int .u32 dst, .slice oa os.length oc, .slice da ds.length dc] 27))
  have nb0 := blk_new w (.cells #[.int .u8 tos, .int .u16 id, .bool df, .bool mf, .int .i64 off, .int .u8 ttl, .int .u8 proto, .int .u32 src, .int .u32 dst, .slice oa os.length oc, .slice da ds.length dc] 27)
  have nz0 : w.heap.size < (w.alloc (.cells #[.int .u8 tos, .int .u16 id, .bool df, .bool mf, .int .i64 off, .int .u8 ttl, .int .u8 proto, .int .u32 src, .int .u32 dst, .slice oa os.length oc, .slice da ds.length dc] 27)).heap.size := by simp only [World.size_alloc]; omega
  have q_1 := q_0.trans (b.mono q_0.size)
  clear q_0
  clear b
  have K_1 := Lib.hid nb0
  have Kz_1 := nz0
  clear nb0 nz0
  have Kc0_1 := blk_cell K_1.out 0
  have Kc1_1 := blk_cell K_1.out 1
  have Kc2_1 := blk_cell K_1.out 2
  have Kc3_1 := blk_cell K_1.out 3
  have Kc4_1 := blk_cell K_1.out 4
  have Kc5_1 := blk_cell K_1.out 5
  have Kc6_1 := blk_cell K_1.out 6
  have Kc7_1 := blk_cell K_1.out 7
  have Kc8_1 := blk_cell K_1.out 8
  have Kc9_1 := blk_cell K_1.out 9
  have Kc10_1 := blk_cell K_1.out 10
  generalize (w.alloc (.cells #[.int .u8 tos, .int .u16 id, .bool df, .bool mf, .int .i64 off, .int .u8 ttl, .int .u8 proto, .int .u32 src, .int .u32 dst, .slice oa os.length oc, .slice da ds.length dc] 27)) = V1 at q_1 K_1 Kz_1 Kc0_1 Kc1_1 Kc2_1 Kc3_1 Kc4_1 Kc5_1 Kc6_1 Kc7_1 Kc8_1 Kc9_1 Kc10_1 ⊢
  refine (alive_any _).mono ?_
  rintro e V2 ⟨rfl, b⟩
  have K_2 := Lib.hid ((b.block _ Kz_1).trans K_1.out)
  have Kz_2 := Nat.lt_of_lt_of_le Kz_1 b.size
  have Kc0_2 := blk_cell K_2.out 0
  have Kc1_2 := blk_cell K_2.out 1
  have Kc2_2 := blk_cell K_2.out 2
  have Kc3_2 := blk_cell K_2.out 3
  have Kc4_2 := blk_cell K_2.out 4
  have Kc5_2 := blk_cell K_2.out 5
  have Kc6_2 := blk_cell K_2.out 6
  have Kc7_2 := blk_cell K_2.out 7
  have Kc8_2 := blk_cell K_2.out 8
  have Kc9_2 := blk_cell K_2.out 9
  have Kc10_2 := blk_cell K_2.out 10
  have q_2 := q_1.trans (b.mono q_1.size)
  clear K_1 Kz_1 Kc0_1 Kc1_1 Kc2_1 Kc3_1 Kc4_1 Kc5_1 Kc6_1 Kc7_1 Kc8_1 Kc9_1 Kc10_1 q_1
  clear b
  have Kf := blk_free K_2.out 9
  go_wp2_with fail
  have q_3 := q_2.setCell (p := ⟨w.heap.size, 9, none⟩) (Nat.le_refl _) (.slice none 0 0)
  generalize V2.setCell ⟨w.heap.size, 9, none⟩ (.slice none 0 0) = V3 at q_3 ⊢
  clear Kf K_2 Kz_2 q_2 Kc0_2 Kc1_2 Kc2_2 Kc3_2 Kc4_2 Kc5_2 Kc6_2 Kc7_2 Kc8_2 Kc9_2 Kc10_2
  have qs := q_3.size
  refine (HB.out da dc _ (Y0.out.below q_3)).mono ?_
  rintro e V4 ⟨pg, pc, rfl, P, b⟩
  have q_4 := q_3.trans (b.mono q_3.size)
  clear q_3
  have P_4 := Lib.hid (P)
  clear b
  clear P
  go_wp2_with fail
  refine (num_any _ _).mono ?_
  rintro e w' ⟨rfl, rfl⟩
  obtain ⟨j, hj⟩ : ∃ j : Nat, (at0.tmod 160 + 160) % 160 = (j : Int) := ⟨((at0.tmod 160 + 160) % 160).toNat, by omega⟩
  have hjn : j < 160 := by omega
  have t1 := Int.tmod_lt_of_pos at0 (show (0 : Int) < 160 by decide)
  have t2 := Int.lt_tmod_of_pos at0 (show (0 : Int) < 160 by decide)
  have hjt : (at0.tmod 160 + 160).tmod 160 = (j : Int) := by rw [Int.tmod_eq_emod_of_nonneg (by omega)]; exact hj
  obtain ⟨g, hg, gB, gLt⟩ := P_4.out.isSome (by omega)
  obtain rfl : pg = g := by injection hg with h; injection h
  by_cases h4 : j < 4
  · go_wp2
    go_ret
    exact ⟨rfl, q_4⟩
  have n4 : ¬ ((j : Int) < 4) := by omega
  obtain ⟨i, s, hs8, hd8, hm8, hd9, hm9, hi0, hk8, hq3, hq4, ib0⟩ := turn_place j (Nat.le_of_not_lt h4) hjn
  have hiR : i < R.length := Nat.lt_of_lt_of_le hk8 hlR.1
  have ib1 : (i : Int) < (R.length : Int) := Int.ofNat_lt.2 hiR
  have hwj := turn_w at0 t1 t2
  have hpB : w.heap.size ≤ pg := Nat.le_trans qs (Nat.le_of_succ_le gB)
  obtain ⟨pw, hpe, pw8, hsh, hsh2⟩ := turn_pow s hs8
  have HS1 := Lib.hid hsh
  have HS2 := Lib.hid hsh2
  clear hsh hsh2
  have HK := Lib.hid (turn_list R P_4.out.1 HL.out i s pw hk8 hs8 hpe pw8 hi0)
  clear HL hpe
  have hc1 := P_4.out.cellAt i hiR
  have hf1 := P_4.out.frozenAt i
  obtain ⟨hxr, hv, hQl, hF⟩ := HK.out
  have hv1 : bits .xor .u8 ((R[i]'hiR : Nat) : Int) (IntKind.u8.wrap ((2 : Int) ^ s)) = ((R.getD i 0 ^^^ pw : Nat) : Int) := by
    rw [show IntKind.u8.wrap ((2 : Int) ^ s) = (pw : Int) by rw [IntKind.wrap_u8']; exact HS1.out]
    have h0 : R.getD i 0 = R[i] := by rw [List.getD_eq_getElem?_getD, List.getElem?_eq_getElem hiR]; rfl
    rw [← h0]; exact hxr
  generalize R.getD i 0 ^^^ pw = ow at hv1 hxr hv hQl hF
  have P5 := Lib.hid (P_4.out.below (Below.refl _ _).drew)
  have hc5 := P5.out.cellAt i hiR
  have hf5 := P5.out.frozenAt i
  have T := P5.out.store i ow hv
  have q9 := (q_4.trans (Below.refl _ _).drew).setCell (p := ⟨pg, i, none⟩) hpB (.int .u8 (ow : Nat))
  generalize R.set i ow = Q at T hQl hF
  have HQ := Lib.hid hQl
  have HV1 := Lib.hid hv1
  clear hv1
  have HT := Lib.hid T
  have HF := Lib.hid hF
  clear hQl T hF hv hi0 P5 P_4 q_4 HK hpB t1 t2 hj
  have hnn : ¬ ((s : Int) < 0) := Int.not_lt.2 (Int.natCast_nonneg s)
  have N4 := Lib.hid n4
  go_wp2_with fail
  all_goals first
    | (exfalso; exact absurd (by assumption : (j : Int) < 4) (Int.not_lt.2 N4.out))
    | (exfalso; exact N4.out (by assumption))
    | (exfalso; exact h4 (Int.ofNat_lt.1 (by assumption)))
    | (go_still_tail 10, (by kernel_rfl); rw [HV1.out]; change wpList _ _ _ _ _ V4.drew)
  generalize V4.drew = V5 at hc5 hf5 HT q9 ⊢
  clear hc1 hf1 hxr
  go_wp2_with fail
  generalize V5.setCell ⟨pg, i, none⟩ (.int .u8 (ow : Nat)) = V6 at HT q9 ⊢
  clear hc5 hf5
  have cl := HT.out.capLe
  have hp := ipP_bad (some ⟨pg, 0, none⟩) Q pc V6 HT.out.bts cl.1 cl.2 (by rw [HQ.out]; omega) HF.out.1
  rw [HQ.out] at hp
  have HP := Lib.hid hp
  have hQ20 : (Q.take 20).length = 20 := by rw [List.length_take, HQ.out]; omega
  have hr := fun V c (h : Below V6.heap.size V6 V) => right_any (some ⟨pg, 0, none⟩) (Q.take 20) c V ((HT.out.below h).bts.takeN 20) (by rw [hQ20]; omega)
  rw [hQ20, decide_eq_false HF.out.2] at hr
  have HR := Lib.hid hr
  have hpc : (20 : Int) ≤ (pc : Int) := by have := cl.1; have := HQ.out; omega
  clear hp hr hQ20 cl HS1 HS2 HV1 HT HF HQ hjt hwj hd8 hm8 hd9 hm9 hq3 hq4
  go_wp2_with fail
  refine HP.out.mono ?_
  rintro e V7 ⟨n, hn, rfl, b7⟩
  have q10 := q9.trans (b7.mono q9.size)
  have b8 : Below V7.heap.size V7 (V7.alloc (.cells #[.int .u8 0, .int .u16 0, .bool false, .bool false, .int .i64 0, .int .u8 0, .int .u8 0, .int .u32 0, .int .u32 0, .slice none 0 0, .slice none 0 0] 27)) := (Below.refl _ _).alloc (Nat.le_refl _) _
  have l8 := blk_new V7 (.cells #[.int .u8 0, .int .u16 0, .bool false, .bool false, .int .i64 0, .int .u8 0, .int .u8 0, .int .u32 0, .int .u32 0, .slice none 0 0, .slice none 0 0] 27)
  have l10 := blk_cell l8 10
  have HL8 := Lib.hid l8
  have q11 := q10.trans (b8.mono q10.size)
  have b78 := Lib.hid (b7.trans (b8.mono b7.size))
  clear HP q10 b8 l8 b7
  go_wp2_with fail
  generalize V7.alloc (.cells #[.int .u8 0, .int .u16 0, .bool false, .bool false, .int .i64 0, .int .u8 0, .int .u8 0, .int .u32 0, .int .u32 0, .slice none 0 0, .slice none 0 0] 27) = V8 at l10 q11 b78 HL8 ⊢
  refine (num_any _ _).mono ?_
  rintro e w' ⟨rfl, rfl⟩
  have hn1 : (n != 0) = true := by rw [bne_iff_ne]; exact hn
  have hn2 : (n == 0) = false := by rw [beq_eq_false_iff_ne]; exact hn
  go_wp2_with fail
  refine (HR.out _ _ b78.out).mono ?_
  rintro e V9 ⟨rfl, b9⟩
  have q12 := q11.trans (b9.mono q11.size)
  clear HR l10 HL8
  go_wp2
  go_ret
  exact ⟨rfl, q12⟩

set_option maxRecDepth 100000 in
set_option maxHeartbeats 2000000 in
theorem walk_no (tos id : Nat) (df mf : Bool) (off : Int) (ttl proto src dst : Nat) (oa : Option Addr) (os : List Nat) (oc : Nat) (da : Option Addr) (ds : List Nat) (dc : Nat) (at0 : Int) (w : World) (hm : ¬ IpMay off 0 ds.length) (hdl : ds.length ≤ 140737488351232) (hy : Bts w da ds) :
    Calls Try.prog 4 #[.agg #[.int .u8 tos, .int .u16 id, .bool df, .bool mf, .int .i64 off, .int .u8 ttl, .int .u8 proto, .int .u32 src, .int .u32 dst, .slice oa os.length oc, .slice da ds.length dc], .int .i64 at0] w fun e w' => e = .returned (.bool true) ∧ Below w.heap.size w w' := by
  have hb : ∀ a2 c2 W, Calls Try.prog 19 #[.agg #[.int .u8 tos, .int .u16 id, .bool df, .bool mf, .int .i64 off, .int .u8 ttl, .int .u8 proto, .int .u32 src, .int .u32 dst, .slice none 0 0, .slice a2 ds.length c2]] W (IpBad W) := fun a2 c2 W => ipB_bad tos id df mf off ttl proto src dst none 0 0 a2 ds.length c2 W (by omega) hm
  have HB := Lib.hid hb
  clear hb hm
  have q_0 := Below.refl w.heap.size w
  have Y0 := Lib.hid hy
  clear hy
  go_enter Try.func4, Try.ntmps4
  go_wp2_with fail
  have b : Below w.heap.size w (w.alloc (.cells #[.int .u8 tos, .int .u16 id, .bool df, .bool mf, .int .i64 off, .int .u8 ttl, .int .u8 proto, .int .u32 src, .int .u32 dst, .slice oa os.length oc, .slice da ds.length dc] 27)) := ((Below.refl _ w).alloc (Nat.le_refl _) (.cells #[.int .u8 tos, .int .u16 id, .bool df, .bool mf, .int .i64 off, .int .u8 ttl, .int .u8 proto, .int .u32 src, .int .u32 dst, .slice oa os.length oc, .slice da ds.length dc] 27))
  have nb0 := blk_new w (.cells #[.int .u8 tos, .int .u16 id, .bool df, .bool mf, .int .i64 off, .int .u8 ttl, .int .u8 proto, .int .u32 src, .int .u32 dst, .slice oa os.length oc, .slice da ds.length dc] 27)
  have nz0 : w.heap.size < (w.alloc (.cells #[.int .u8 tos, .int .u16 id, .bool df, .bool mf, .int .i64 off, .int .u8 ttl, .int .u8 proto, .int .u32 src, .int .u32 dst, .slice oa os.length oc, .slice da ds.length dc] 27)).heap.size := by simp only [World.size_alloc]; omega
  have q_1 := q_0.trans (b.mono q_0.size)
  clear q_0
  clear b
  have K_1 := Lib.hid nb0
  have Kz_1 := nz0
  clear nb0 nz0
  have Kc0_1 := blk_cell K_1.out 0
  have Kc1_1 := blk_cell K_1.out 1
  have Kc2_1 := blk_cell K_1.out 2
  have Kc3_1 := blk_cell K_1.out 3
  have Kc4_1 := blk_cell K_1.out 4
  have Kc5_1 := blk_cell K_1.out 5
  have Kc6_1 := blk_cell K_1.out 6
  have Kc7_1 := blk_cell K_1.out 7
  have Kc8_1 := blk_cell K_1.out 8
  have Kc9_1 := blk_cell K_1.out 9
  have Kc10_1 := blk_cell K_1.out 10
  generalize (w.alloc (.cells #[.int .u8 tos, .int .u16 id, .bool df, .bool mf, .int .i64 off, .int .u8 ttl, .int .u8 proto, .int .u32 src, .int .u32 dst, .slice oa os.length oc, .slice da ds.length dc] 27)) = V1 at q_1 K_1 Kz_1 Kc0_1 Kc1_1 Kc2_1 Kc3_1 Kc4_1 Kc5_1 Kc6_1 Kc7_1 Kc8_1 Kc9_1 Kc10_1 ⊢
  refine (alive_any _).mono ?_
  rintro e V2 ⟨rfl, b⟩
  have K_2 := Lib.hid ((b.block _ Kz_1).trans K_1.out)
  have Kz_2 := Nat.lt_of_lt_of_le Kz_1 b.size
  have Kc0_2 := blk_cell K_2.out 0
  have Kc1_2 := blk_cell K_2.out 1
  have Kc2_2 := blk_cell K_2.out 2
  have Kc3_2 := blk_cell K_2.out 3
  have Kc4_2 := blk_cell K_2.out 4
  have Kc5_2 := blk_cell K_2.out 5
  have Kc6_2 := blk_cell K_2.out 6
  have Kc7_2 := blk_cell K_2.out 7
  have Kc8_2 := blk_cell K_2.out 8
  have Kc9_2 := blk_cell K_2.out 9
  have Kc10_2 := blk_cell K_2.out 10
  have q_2 := q_1.trans (b.mono q_1.size)
  clear K_1 Kz_1 Kc0_1 Kc1_1 Kc2_1 Kc3_1 Kc4_1 Kc5_1 Kc6_1 Kc7_1 Kc8_1 Kc9_1 Kc10_1 q_1
  clear b
  have Kf := blk_free K_2.out 9
  go_wp2_with fail
  have q_3 := q_2.setCell (p := ⟨w.heap.size, 9, none⟩) (Nat.le_refl _) (.slice none 0 0)
  generalize V2.setCell ⟨w.heap.size, 9, none⟩ (.slice none 0 0) = V3 at q_3 ⊢
  clear Kf K_2 Kz_2 q_2 Kc0_2 Kc1_2 Kc2_2 Kc3_2 Kc4_2 Kc5_2 Kc6_2 Kc7_2 Kc8_2 Kc9_2 Kc10_2
  have qs := q_3.size
  refine (HB.out da dc _).mono ?_
  rintro e V4 ⟨n, hn, rfl, b⟩
  have q_4 := q_3.trans (b.mono q_3.size)
  clear q_3
  clear b
  go_wp2_with fail
  refine (num_any _ _).mono ?_
  rintro e w' ⟨rfl, rfl⟩
  have hn1 : (n != 0) = true := by simp [hn]
  have hn2 : (n == 0) = false := by simp [hn]
  go_wp2
  go_ret
  exact ⟨rfl, q_4⟩

theorem walk (tos id : Nat) (df mf : Bool) (off : Int) (ttl proto src dst : Nat) (oa : Option Addr) (os : List Nat) (oc : Nat) (da : Option Addr) (ds : List Nat) (dc : Nat) (at0 : Int) (w : World)
    (htos : tos < 256) (hid : id < 65536) (_ : -9223372036854775808 ≤ off) (_ : off ≤ 9223372036854775807) (httl : ttl < 256) (hproto : proto < 256) (hsrc : src < 4294967296) (hdst : dst < 4294967296)
    (_ : Bts w oa os) (_ : oa = none → oc = 0) (_ : os.length ≤ oc ∧ oc ≤ maxLen) (_ : os.length ≤ 140737488351232) (hy : Bts w da ds) (_ : da = none → dc = 0) (_ : ds.length ≤ dc ∧ dc ≤ maxLen) (hdl : ds.length ≤ 140737488351232)
    (ha1 : -9223372036854775808 ≤ at0) (ha2 : at0 ≤ 9223372036854775807) :
    Calls Try.prog 4 #[.agg #[.int .u8 tos, .int .u16 id, .bool df, .bool mf, .int .i64 off, .int .u8 ttl, .int .u8 proto, .int .u32 src, .int .u32 dst, .slice oa os.length oc, .slice da ds.length dc], .int .i64 at0] w fun e w' => e = .returned (.bool true) ∧ Below w.heap.size w w' := by
  by_cases h : IpMay off 0 ds.length
  · obtain ⟨n, rfl⟩ : ∃ n : Nat, off = n := ⟨off.toNat, by have := h.1; omega⟩
    exact walk_may tos id df mf n ttl proto src dst oa os oc da ds dc at0 w h htos hid httl hproto hsrc hdst hy ha1 ha2
  · exact walk_no tos id df mf off ttl proto src dst oa os oc da ds dc at0 w h hdl hy

theorem of_len11 {α : Type} (l : List α) (h : l.length = 11) : ∃ x0 x1 x2 x3 x4 x5 x6 x7 x8 x9 x10, l = [x0, x1, x2, x3, x4, x5, x6, x7, x8, x9, x10] := by
  match l, h with
  | [x0, x1, x2, x3, x4, x5, x6, x7, x8, x9, x10], _ => exact ⟨x0, x1, x2, x3, x4, x5, x6, x7, x8, x9, x10, rfl⟩
theorem own : ownKnob Try.prog.godebug = none := by kernel_rfl
theorem laidOut : laidOutB Try.prog = true := by kernel_rfl

set_option maxRecDepth 100000 in
set_option maxHeartbeats 2000000 in
theorem lifted (os : Os) (started : os.Started) (H : Type) (enc : TypeId × Value → H) :
    ReturnsInHanded {} Try.checked os 4 .any (Rows.ipwireFindsSpec.pre6 enc Try.prog Try.f4 Rows.ipwireFindsRow.domain false) (Rows.ipwireFindsSpec.post enc Try.prog Try.f4 false true false false) := by
  refine returnsInHanded_of_change_sized (C := Try.checked) own started (by kernel_rfl) Try.func4
    (ChangeSpec.witness6 (enc := enc) (C := Try.checked) false ⟨#[], #[.agg #[.int .u8 0, .int .u16 0, .bool false, .bool false, .int .i64 0, .int .u8 0, .int .u8 0, .int .u32 0, .int .u32 0, .slice none 0 0, .slice none 0 0], .int .i64 0], []⟩ 8 (by kernel_rfl) (by kernel_rfl) (by kernel_rfl) (by kernel_rfl)) ?_
  intro W base args ds gs before hval0 hW hcnd hsz0 _
  have hval : ∀ (j : Nat) t v, Try.f4.params[j]? = some t → args[j]? = some v → Value.okWide Try.prog W .any base t v := hval0
  have hsz : (DataW.weightsEach Try.prog (Try.f4.params.toList ++ Rows.ipwireFindsSpec.plain.varTypes Try.prog) (ds ++ gs)).all (· ≤ reachBytes) = true := hsz0
  have hW' := hW
  obtain ⟨p, q, hA0, hV, rfl, hfz, hnd⟩ := hW
  have hA : DataW.TrodAll enc Try.prog W 0 (fun _ => true) true Try.f4.params.toList args.toList ds p := hA0
  rw [Try.params4] at hA hval hsz
  obtain ⟨v0, vs0, d0, ds0, p0, q0, hargs, rfl, rfl, h0, r0⟩ := trodAll_cons hA
  obtain ⟨v1, vs1, d1, ds1, p1, q1, rfl, rfl, rfl, h1, r1⟩ := trodAll_cons r0
  obtain ⟨rfl, rfl, rfl⟩ := trodAll_nil r1
  obtain rfl : args = #[v0, v1] := by cases args; simp_all
  obtain ⟨rfl, rfl⟩ := trodVars_none hV
  have k0 := h0
  have lt0 : ∀ x ∈ p0, x.block < W.heap.size := by obtain ⟨m, hm⟩ := k0; exact DataW.trod_lt m _ _ _ hm
  obtain ⟨vs0', ys0', m0, rfl, lv0, ly0, hd0, F0⟩ := open_agg Try.underlying27 (by kernel_rfl) (by kernel_rfl) (hval 0 27 v0 rfl rfl) h0
  obtain ⟨c0_0, c0_1, c0_2, c0_3, c0_4, c0_5, c0_6, c0_7, c0_8, c0_9, c0_10, rfl⟩ := of_len11 _ lv0
  obtain ⟨y0_0, y0_1, y0_2, y0_3, y0_4, y0_5, y0_6, y0_7, y0_8, y0_9, y0_10, rfl⟩ := of_len11 _ ly0
  simp only [List.map_cons, List.map_nil] at hd0
  obtain ⟨_, _, e, g, t0_0⟩ := F0 0 _ rfl
  obtain rfl := Option.some.inj e; obtain rfl := Option.some.inj g; clear e g
  obtain ⟨z0_0, e, _, w0_0⟩ := DataW.trod_int Try.underlying5 t0_0
  obtain rfl := (List.cons.inj e).1; clear e
  obtain ⟨n0_0, rfl, hn0_0⟩ := nat_of_u8 w0_0
  obtain ⟨_, _, e, g, t0_1⟩ := F0 1 _ rfl
  obtain rfl := Option.some.inj e; obtain rfl := Option.some.inj g; clear e g
  obtain ⟨z0_1, e, _, w0_1⟩ := DataW.trod_int Try.underlying24 t0_1
  obtain rfl := (List.cons.inj e).1; clear e
  obtain ⟨n0_1, rfl, hn0_1⟩ := nat_of_u16 w0_1
  obtain ⟨_, _, e, g, t0_2⟩ := F0 2 _ rfl
  obtain rfl := Option.some.inj e; obtain rfl := Option.some.inj g; clear e g
  obtain ⟨b0_2, e, _⟩ := DataW.trod_bool Try.underlying4 t0_2
  obtain rfl := (List.cons.inj e).1; clear e
  obtain ⟨_, _, e, g, t0_3⟩ := F0 3 _ rfl
  obtain rfl := Option.some.inj e; obtain rfl := Option.some.inj g; clear e g
  obtain ⟨b0_3, e, _⟩ := DataW.trod_bool Try.underlying4 t0_3
  obtain rfl := (List.cons.inj e).1; clear e
  obtain ⟨_, _, e, g, t0_4⟩ := F0 4 _ rfl
  obtain rfl := Option.some.inj e; obtain rfl := Option.some.inj g; clear e g
  obtain ⟨z0_4, e, _, w0_4⟩ := DataW.trod_int Try.underlying3 t0_4
  obtain rfl := (List.cons.inj e).1; clear e
  obtain ⟨lo0_4, hi0_4⟩ := bounds_i64 w0_4
  obtain ⟨_, _, e, g, t0_5⟩ := F0 5 _ rfl
  obtain rfl := Option.some.inj e; obtain rfl := Option.some.inj g; clear e g
  obtain ⟨z0_5, e, _, w0_5⟩ := DataW.trod_int Try.underlying5 t0_5
  obtain rfl := (List.cons.inj e).1; clear e
  obtain ⟨n0_5, rfl, hn0_5⟩ := nat_of_u8 w0_5
  obtain ⟨_, _, e, g, t0_6⟩ := F0 6 _ rfl
  obtain rfl := Option.some.inj e; obtain rfl := Option.some.inj g; clear e g
  obtain ⟨z0_6, e, _, w0_6⟩ := DataW.trod_int Try.underlying5 t0_6
  obtain rfl := (List.cons.inj e).1; clear e
  obtain ⟨n0_6, rfl, hn0_6⟩ := nat_of_u8 w0_6
  obtain ⟨_, _, e, g, t0_7⟩ := F0 7 _ rfl
  obtain rfl := Option.some.inj e; obtain rfl := Option.some.inj g; clear e g
  obtain ⟨z0_7, e, _, w0_7⟩ := DataW.trod_int Try.underlying25 t0_7
  obtain rfl := (List.cons.inj e).1; clear e
  obtain ⟨n0_7, rfl, hn0_7⟩ := nat_of_u32 w0_7
  obtain ⟨_, _, e, g, t0_8⟩ := F0 8 _ rfl
  obtain rfl := Option.some.inj e; obtain rfl := Option.some.inj g; clear e g
  obtain ⟨z0_8, e, _, w0_8⟩ := DataW.trod_int Try.underlying25 t0_8
  obtain rfl := (List.cons.inj e).1; clear e
  obtain ⟨n0_8, rfl, hn0_8⟩ := nat_of_u32 w0_8
  obtain ⟨_, _, e, g, t0_9⟩ := F0 9 _ rfl
  obtain rfl := Option.some.inj e; obtain rfl := Option.some.inj g; clear e g
  obtain ⟨a0_9, xs0_9, cap0_9, rfl, hbt0_9, hcap0_9, hlc0_9, hq0_9⟩ := open_bytes t0_9
  obtain ⟨_, _, e, g, t0_10⟩ := F0 10 _ rfl
  obtain rfl := Option.some.inj e; obtain rfl := Option.some.inj g; clear e g
  obtain ⟨a0_10, xs0_10, cap0_10, rfl, hbt0_10, hcap0_10, hlc0_10, hq0_10⟩ := open_bytes t0_10
  obtain ⟨a1, rfl, rfl, rfl, w1⟩ := open_int Try.underlying3 (hval 1 3 v1 rfl rfl) h1
  have hre0_9 : xs0_9.length ≤ 140737488351232 := bytes_reach hq0_9 (sized_field hsz (j := 0) (i := 9) (t := 27) rfl (by rw [hd0]; rfl) Try.underlying27 rfl rfl)
  have hre0_10 : xs0_10.length ≤ 140737488351232 := bytes_reach hq0_10 (sized_field hsz (j := 0) (i := 10) (t := 27) rfl (by rw [hd0]; rfl) Try.underlying27 rfl rfl)
  clear hA0 hval0 hsz hsz0
  obtain ⟨lo1, hi1⟩ := bounds_i64 w1
  refine (walk n0_0 n0_1 b0_2 b0_3 z0_4 n0_5 n0_6 n0_7 n0_8 a0_9 xs0_9 cap0_9 a0_10 xs0_10 cap0_10 a1 W hn0_0 hn0_1 lo0_4 hi0_4 hn0_5 hn0_6 hn0_7 hn0_8 hbt0_9 hcap0_9 hlc0_9 hre0_9 hbt0_10 hcap0_10 hlc0_10 hre0_10 lo1 hi1).mono fun e W' ⟨he, bel⟩ => ?_
  subst he
  exact ⟨_, rfl, _, _, _, [], _, [], hW', trodAll_mk1 (shut_bool Try.underlying4 _), (trodAll_cons_mk (Below.trod laidOut (by kernel_rfl) (of_decide_eq_true (by kernel_rfl)) k0 bel lt0) (trodAll_cons_mk (shut_int Try.underlying3 w1) trodAll_mk0)), rfl, bel.frame _, fun h => by cases h⟩

theorem over : Rows.ipwireFindsRow.holds Try.pinned (OpenSpec.ofChange Rows.ipwireFindsSpec) :=
  OpenClaim.holds_of_wide 4 Try.f4 rfl rfl rfl rfl rfl rfl rfl ⟨rfl, rfl, rfl, rfl, rfl⟩ rfl rfl rfl rfl rfl (by kernel_rfl) Try.func4 (by kernel_rfl)
    (of_decide_eq_true (by kernel_rfl)) (by unfold Func.isWrapper; first | (rw [if_pos (by decide +kernel)]; kernel_rfl) | (rw [if_neg (by decide +kernel)]; exact ⟨rfl, rfl⟩))
    (fun os started H enc _ => lifted os started H enc)

end Go.Proofs.Ytpdlmgafkjmjpaa.ipwireFinds
namespace Go.Proofs.Ytpdlmgafkjmjpaa
/-- The statement. -/
theorem ipwireFinds_holds : Rows.IpwireFindsSaid := ipwireFinds.over
#print axioms ipwireFinds_holds
end Go.Proofs.Ytpdlmgafkjmjpaa
