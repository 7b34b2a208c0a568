/- For every packet and every message: what Build, Parse and BuildIcmp answer is its holder's, and what was handed in is not kept. No condition. -/
import Derived.Test.YtdiomelldhkibaaRows
import Derived.Test.YtdiomelldhkibaaAlive4
import Derived.Test.YtdiomelldhkibaaGSpoil
import Derived.Test.YtdiomelldhkibaaGPlain
import Derived.Test.YtdiomelldhkibaaGSameIP
import Derived.Test.YtdiomelldhkibaaGAppendW
import Derived.Test.YtdiomelldhkibaaGStruct
import Derived.ProofKit
import Derived.OpenShut
import Derived.ShutString
import Derived.ChangeOld
import Derived.SizedLaws
import Derived.Test.YtdiomelldhkibaaGCopyIP
namespace Go.Proofs.Ytdiomelldhkibaa.ipwireOwn
open Go.ChangeShapes Go.WideShapes Go.ChangeAt Go.RowKit Go.Proofs.Ytdiomelldhkibaa.law4
open Go.ChangeMaps (open_string shut_string)

theorem _root_.Go.Proofs.Ytdiomelldhkibaa.OwnSl.under {B C D : Nat} {a : Option Addr} {xs : List Nat} {cap : Nat} {w w' : World} (O : OwnSl D a xs cap w) (hB : ∀ g, a = some ⟨g, 0, none⟩ → g < B) (h : Btw B C w w') : OwnSl D a xs cap w' := by
  obtain ⟨hx, h0 | ⟨g, rfl, hD, hr⟩⟩ := O
  · exact ⟨hx, .inl h0⟩
  · refine ⟨hx, .inr ⟨g, rfl, hD, hr.1, ?_⟩⟩
    rcases hr.2 with h0 | ⟨g', cap', cur, e, h1, h2, h3⟩
    · exact .inl h0
    · have hlt : g' < w.heap.size := (Array.getElem?_eq_some_iff.1 h2).1
      have hg : g' < B := by
        have e1 : g = g' := by injection e with e1; injection e1 with e1; injection e1
        exact e1 ▸ hB g rfl
      exact .inr ⟨g', cap', cur, e, h1, (h.block g' hlt (.inl hg)).trans h2, h3⟩

theorem facts_icmp (ty co re : Nat) (ms : List Nat) (hty : ty < 256) (hco : co < 256) (hre : re < 4294967296) : ∃ S F, S.length ≤ 140737488355328 ∧ ∀ a c W, Bts W a ms → Calls Try.prog 37 #[.agg #[.int .u8 ty, .int .u8 co, .int .u32 re, .slice a ms.length c]] W fun e w' => ∃ ca cc, e = .returned (.tuple #[.slice ca S.length cc, .int .i64 F]) ∧ OwnSl W.heap.size ca S cc w' ∧ Below W.heap.size W w' := by
  by_cases hl : ms.length ≤ 65527
  · refine ⟨icmpO ty co re ms, 0, by rw [icmpO_len]; omega, fun a c W h => ?_⟩
    refine (icmpB_ok ty co re a ms c W hl hty hco hre h).mono ?_
    rintro e w' ⟨g, cap', h1, h2, h3⟩
    rw [← icmpO_len ty co re] at h1
    exact ⟨_, cap', h1, h2.mono (Nat.le_succ _), h3⟩
  · refine ⟨[], 5, by decide, fun a c W h => ?_⟩
    refine (icmpB_bad ty co re a ms.length c W (by omega)).mono ?_
    rintro e w' ⟨h1, h3⟩
    exact ⟨none, 0, h1, own_nil _ _, h3⟩

set_option maxRecDepth 100000 in
set_option maxHeartbeats 8000000 in
theorem walk_may (tos id : Nat) (df mf : Bool) (off : Nat) (ttl proto src dst : Nat) (oa : Option Addr) (os : List Nat) (oc : Nat) (da : Option Addr) (ds : List Nat) (dc : Nat) (ty co re : Nat) (ma : Option Addr) (ms : List Nat) (mc : Nat) (w : World) (hm : IpMay (off : Int) os.length ds.length) (htos : tos < 256) (hid : id < 65536) (httl : ttl < 256) (hproto : proto < 256) (hsrc : src < 4294967296) (hdst : dst < 4294967296) (hty : ty < 256) (hco : co < 256) (hre : re < 4294967296) (hx : Bts w oa os) (hoc : oa = none → oc = 0) (hy : Bts w da ds) (hdc : da = none → dc = 0) (hmo : Bts w ma ms) (hmc : ma = none → mc = 0) (hml : ms.length ≤ 140737488351232) :
    Calls Try.prog 9 #[.agg #[.int .u8 tos, .int .u16 id, .bool df, .bool mf, .int .i64 off, .int .u8 ttl, .int .u8 proto, .int .u32 src, .int .u32 dst, .slice oa os.length oc, .slice da ds.length dc], .agg #[.int .u8 ty, .int .u8 co, .int .u32 re, .slice ma ms.length mc]] w fun e w' => e = .returned (.bool true) ∧ Below w.heap.size w w' := by
  have hlO : os.length ≤ 140737488355328 := by have h2 := hm.2.1; omega
  have hlD : ds.length ≤ 140737488355328 := by have h3 := hm.2.2; omega
  have hlM : ms.length ≤ 140737488355328 := by omega
  obtain ⟨S, F, hlS, hi⟩ := facts_icmp ty co re ms hty hco hre
  obtain ⟨R, hR⟩ : ∃ R, ipO tos id df mf off ttl proto src dst os ds = R := ⟨_, rfl⟩
  have hRl : R.length = 20 + os.length + ds.length := by rw [← hR, ipO_len]
  have hlR : R.length ≤ 140737488355328 := by have h3 := hm.2.2; omega
  have hb : ∀ a c a2 c2 W, Bts W a os → Bts W a2 ds → Calls Try.prog 31 #[.agg #[.int .u8 tos, .int .u16 id, .bool df, .bool mf, .int .i64 off, .int .u8 ttl, .int .u8 proto, .int .u32 src, .int .u32 dst, .slice a os.length c, .slice a2 ds.length c2]] W fun e w' => ∃ g cap', e = .returned (.tuple #[.slice (some ⟨g, 0, none⟩) R.length cap', .int .i64 0]) ∧ OwnSl (W.heap.size + 1) (some ⟨g, 0, none⟩) R cap' w' ∧ Below W.heap.size W w' := fun a c a2 c2 W h h' => by
    have h1 := ipB_ok tos id df mf off ttl proto src dst a os c a2 ds c2 W hm htos hid httl hproto hsrc hdst h h'
    rw [hR, ← hRl] at h1
    exact h1
  have hp : ∀ a c W, Bts W a R → R.length ≤ c → c ≤ maxLen → Calls Try.prog 33 #[.slice a R.length c] W fun e w' => ∃ xa xc ya yc, e = .returned (.tuple #[.agg #[.int .u8 tos, .int .u16 id, .bool df, .bool mf, .int .i64 off, .int .u8 ttl, .int .u8 proto, .int .u32 src, .int .u32 dst, .slice xa os.length xc, .slice ya ds.length yc], .int .i64 0]) ∧ OwnSl (W.heap.size + 1) xa os xc w' ∧ OwnSl (W.heap.size + 1) ya ds yc w' ∧ Below W.heap.size W w' := fun a c W h hc hx' => by
    have hk := ip_back tos id df mf off ttl proto src dst os ds [] hm htos hid httl hproto hsrc hdst hx.1
    rw [List.append_nil, hR] at hk
    have h1 := ipP_ok a R c W h hc hx' (by omega) hk.ok
    rw [hk.tos, hk.id, hk.df, hk.mf, hk.off, hk.ttl, hk.proto, hk.src, hk.dst, hk.os, hk.ds] at h1
    exact h1
  have HB := Lib.hid hb
  have HP := Lib.hid hp
  have HI := Lib.hid hi
  clear hb hp hR hRl hm hi
  have q_0 := Below.refl w.heap.size w
  have X0 := Lib.hid hx
  have Y0 := Lib.hid hy
  have M0 := Lib.hid hmo
  have HM := Lib.hid hmc
  have HO := Lib.hid hoc
  have HD := Lib.hid hdc
  clear hx hy hmo hmc hoc hdc
  go_enter Try.func9, Try.ntmps9
  go_wp2_with fail
  have b : Below w.heap.size w ((w.alloc (.cells #[.int .u8 tos, .int .u16 id, .bool df, .bool mf, .int .i64 off, .int .u8 ttl, .int .u8 proto, .int .u32 src, .int .u32 dst, .slice oa os.length oc, .slice da ds.length dc] 54)).alloc (.cells #[.int .u8 ty, .int .u8 co, .int .u32 re, .slice ma ms.length mc] 63)) := (((Below.refl _ w).alloc (Nat.le_refl _) (.cells #[.int .u8 tos, .int .u16 id, .bool df, .bool mf, .int .i64 off, .int .u8 ttl, .int .u8 proto, .int .u32 src, .int .u32 dst, .slice oa os.length oc, .slice da ds.length dc] 54)).alloc (by simp only [World.size_alloc]; omega) (.cells #[.int .u8 ty, .int .u8 co, .int .u32 re, .slice ma ms.length mc] 63))
  have nb0 := blk_new w (.cells #[.int .u8 tos, .int .u16 id, .bool df, .bool mf, .int .i64 off, .int .u8 ttl, .int .u8 proto, .int .u32 src, .int .u32 dst, .slice oa os.length oc, .slice da ds.length dc] 54)
  have nb0 := (Below.heap_alloc (w.alloc (.cells #[.int .u8 tos, .int .u16 id, .bool df, .bool mf, .int .i64 off, .int .u8 ttl, .int .u8 proto, .int .u32 src, .int .u32 dst, .slice oa os.length oc, .slice da ds.length dc] 54)) (.cells #[.int .u8 ty, .int .u8 co, .int .u32 re, .slice ma ms.length mc] 63) (w.heap.size) (by simp only [World.size_alloc]; omega)).trans nb0
  have nz0 : w.heap.size < ((w.alloc (.cells #[.int .u8 tos, .int .u16 id, .bool df, .bool mf, .int .i64 off, .int .u8 ttl, .int .u8 proto, .int .u32 src, .int .u32 dst, .slice oa os.length oc, .slice da ds.length dc] 54)).alloc (.cells #[.int .u8 ty, .int .u8 co, .int .u32 re, .slice ma ms.length mc] 63)).heap.size := by simp only [World.size_alloc]; omega
  have nb1 := blk_new (w.alloc (.cells #[.int .u8 tos, .int .u16 id, .bool df, .bool mf, .int .i64 off, .int .u8 ttl, .int .u8 proto, .int .u32 src, .int .u32 dst, .slice oa os.length oc, .slice da ds.length dc] 54)) (.cells #[.int .u8 ty, .int .u8 co, .int .u32 re, .slice ma ms.length mc] 63)
  simp only [World.size_alloc] at nb1
  have nz1 : w.heap.size + 1 < ((w.alloc (.cells #[.int .u8 tos, .int .u16 id, .bool df, .bool mf, .int .i64 off, .int .u8 ttl, .int .u8 proto, .int .u32 src, .int .u32 dst, .slice oa os.length oc, .slice da ds.length dc] 54)).alloc (.cells #[.int .u8 ty, .int .u8 co, .int .u32 re, .slice ma ms.length mc] 63)).heap.size := by simp only [World.size_alloc]; omega
  have q_1 := q_0.trans (b.mono q_0.size)
  have sz_1 := b.size
  clear q_0
  clear b
  have K_1 := Lib.hid nb0
  have Kz_1 := nz0
  clear nb0 nz0
  have Kc0_1 := blk_cell K_1.out 0
  have Kc1_1 := blk_cell K_1.out 1
  have Kc2_1 := blk_cell K_1.out 2
  have Kc3_1 := blk_cell K_1.out 3
  have Kc4_1 := blk_cell K_1.out 4
  have Kc5_1 := blk_cell K_1.out 5
  have Kc6_1 := blk_cell K_1.out 6
  have Kc7_1 := blk_cell K_1.out 7
  have Kc8_1 := blk_cell K_1.out 8
  have Kc9_1 := blk_cell K_1.out 9
  have Kc10_1 := blk_cell K_1.out 10
  have J_1 := Lib.hid nb1
  have Jz_1 := nz1
  clear nb1 nz1
  have Jc0_1 := blk_cell J_1.out 0
  have Jc1_1 := blk_cell J_1.out 1
  have Jc2_1 := blk_cell J_1.out 2
  have Jc3_1 := blk_cell J_1.out 3
  generalize ((w.alloc (.cells #[.int .u8 tos, .int .u16 id, .bool df, .bool mf, .int .i64 off, .int .u8 ttl, .int .u8 proto, .int .u32 src, .int .u32 dst, .slice oa os.length oc, .slice da ds.length dc] 54)).alloc (.cells #[.int .u8 ty, .int .u8 co, .int .u32 re, .slice ma ms.length mc] 63)) = V1 at q_1 sz_1 K_1 Kz_1 Kc0_1 Kc1_1 Kc2_1 Kc3_1 Kc4_1 Kc5_1 Kc6_1 Kc7_1 Kc8_1 Kc9_1 Kc10_1 J_1 Jz_1 Jc0_1 Jc1_1 Jc2_1 Jc3_1 ⊢
  refine (alive_any _).mono ?_
  rintro e V2 ⟨rfl, b⟩
  have K_2 := Lib.hid ((b.block _ Kz_1).trans K_1.out)
  have Kz_2 := Nat.lt_of_lt_of_le Kz_1 b.size
  have Kc0_2 := blk_cell K_2.out 0
  have Kc1_2 := blk_cell K_2.out 1
  have Kc2_2 := blk_cell K_2.out 2
  have Kc3_2 := blk_cell K_2.out 3
  have Kc4_2 := blk_cell K_2.out 4
  have Kc5_2 := blk_cell K_2.out 5
  have Kc6_2 := blk_cell K_2.out 6
  have Kc7_2 := blk_cell K_2.out 7
  have Kc8_2 := blk_cell K_2.out 8
  have Kc9_2 := blk_cell K_2.out 9
  have Kc10_2 := blk_cell K_2.out 10
  have J_2 := Lib.hid ((b.block _ Jz_1).trans J_1.out)
  have Jz_2 := Nat.lt_of_lt_of_le Jz_1 b.size
  have Jc0_2 := blk_cell J_2.out 0
  have Jc1_2 := blk_cell J_2.out 1
  have Jc2_2 := blk_cell J_2.out 2
  have Jc3_2 := blk_cell J_2.out 3
  have q_2 := q_1.trans (b.mono q_1.size)
  have sz_2 := b.size
  clear K_1 Kc0_1 Kc1_1 Kc2_1 Kc3_1 Kc4_1 Kc5_1 Kc6_1 Kc7_1 Kc8_1 Kc9_1 Kc10_1 J_1 Jc0_1 Jc1_1 Jc2_1 Jc3_1 q_1
  clear b
  go_wp2_with fail
  refine (copyIP_two tos id df mf off ttl proto src dst oa os oc da ds dc _ (X0.out.below q_2) (Y0.out.below q_2) HO.out HD.out hlO hlD).mono ?_
  rintro e V3 ⟨ia, ic, ya, yc, C, hC1, hC3, hC2, rfl, I, D, b⟩
  have K_3 := Lib.hid ((b.block _ Kz_2).trans K_2.out)
  have Kz_3 := Nat.lt_of_lt_of_le Kz_2 b.size
  have Kc0_3 := blk_cell K_3.out 0
  have Kc1_3 := blk_cell K_3.out 1
  have Kc2_3 := blk_cell K_3.out 2
  have Kc3_3 := blk_cell K_3.out 3
  have Kc4_3 := blk_cell K_3.out 4
  have Kc5_3 := blk_cell K_3.out 5
  have Kc6_3 := blk_cell K_3.out 6
  have Kc7_3 := blk_cell K_3.out 7
  have Kc8_3 := blk_cell K_3.out 8
  have Kc9_3 := blk_cell K_3.out 9
  have Kc10_3 := blk_cell K_3.out 10
  have J_3 := Lib.hid ((b.block _ Jz_2).trans J_2.out)
  have Jz_3 := Nat.lt_of_lt_of_le Jz_2 b.size
  have Jc0_3 := blk_cell J_3.out 0
  have Jc1_3 := blk_cell J_3.out 1
  have Jc2_3 := blk_cell J_3.out 2
  have Jc3_3 := blk_cell J_3.out 3
  have q_3 := q_2.trans (b.mono q_2.size)
  have sz_3 := b.size
  clear K_2 Kc0_2 Kc1_2 Kc2_2 Kc3_2 Kc4_2 Kc5_2 Kc6_2 Kc7_2 Kc8_2 Kc9_2 Kc10_2 J_2 Jc0_2 Jc1_2 Jc2_2 Jc3_2 q_2
  have I_3 := Lib.hid (I)
  have D_3 := Lib.hid (D)
  clear b
  clear I D
  have HC2 := Lib.hid hC2
  clear hC2
  have iLt := Lib.hid I_3.out.blkLt
  have dLt := Lib.hid D_3.out.blkLt
  go_wp2_with fail
  have b : Below V3.heap.size V3 (V3.alloc (.cells #[.int .u8 tos, .int .u16 id, .bool df, .bool mf, .int .i64 off, .int .u8 ttl, .int .u8 proto, .int .u32 src, .int .u32 dst, .slice ia os.length ic, .slice ya ds.length yc] 54)) := ((Below.refl _ V3).alloc (Nat.le_refl _) (.cells #[.int .u8 tos, .int .u16 id, .bool df, .bool mf, .int .i64 off, .int .u8 ttl, .int .u8 proto, .int .u32 src, .int .u32 dst, .slice ia os.length ic, .slice ya ds.length yc] 54))
  have nb0 := blk_new V3 (.cells #[.int .u8 tos, .int .u16 id, .bool df, .bool mf, .int .i64 off, .int .u8 ttl, .int .u8 proto, .int .u32 src, .int .u32 dst, .slice ia os.length ic, .slice ya ds.length yc] 54)
  have nz0 : V3.heap.size < (V3.alloc (.cells #[.int .u8 tos, .int .u16 id, .bool df, .bool mf, .int .i64 off, .int .u8 ttl, .int .u8 proto, .int .u32 src, .int .u32 dst, .slice ia os.length ic, .slice ya ds.length yc] 54)).heap.size := by simp only [World.size_alloc]; omega
  have K_4 := Lib.hid ((b.block _ Kz_3).trans K_3.out)
  have Kz_4 := Nat.lt_of_lt_of_le Kz_3 b.size
  have Kc0_4 := blk_cell K_4.out 0
  have Kc1_4 := blk_cell K_4.out 1
  have Kc2_4 := blk_cell K_4.out 2
  have Kc3_4 := blk_cell K_4.out 3
  have Kc4_4 := blk_cell K_4.out 4
  have Kc5_4 := blk_cell K_4.out 5
  have Kc6_4 := blk_cell K_4.out 6
  have Kc7_4 := blk_cell K_4.out 7
  have Kc8_4 := blk_cell K_4.out 8
  have Kc9_4 := blk_cell K_4.out 9
  have Kc10_4 := blk_cell K_4.out 10
  have J_4 := Lib.hid ((b.block _ Jz_3).trans J_3.out)
  have Jz_4 := Nat.lt_of_lt_of_le Jz_3 b.size
  have Jc0_4 := blk_cell J_4.out 0
  have Jc1_4 := blk_cell J_4.out 1
  have Jc2_4 := blk_cell J_4.out 2
  have Jc3_4 := blk_cell J_4.out 3
  have I_4 := Lib.hid (I_3.out.below b)
  have D_4 := Lib.hid (D_3.out.below b)
  have q_4 := q_3.trans (b.mono q_3.size)
  have sz_4 := b.size
  clear K_3 Kc0_3 Kc1_3 Kc2_3 Kc3_3 Kc4_3 Kc5_3 Kc6_3 Kc7_3 Kc8_3 Kc9_3 Kc10_3 J_3 Jc0_3 Jc1_3 Jc2_3 Jc3_3 I_3 D_3 q_3
  clear b
  have L_4 := Lib.hid nb0
  have Lz_4 := nz0
  clear nb0 nz0
  have Lc0_4 := blk_cell L_4.out 0
  have Lc1_4 := blk_cell L_4.out 1
  have Lc2_4 := blk_cell L_4.out 2
  have Lc3_4 := blk_cell L_4.out 3
  have Lc4_4 := blk_cell L_4.out 4
  have Lc5_4 := blk_cell L_4.out 5
  have Lc6_4 := blk_cell L_4.out 6
  have Lc7_4 := blk_cell L_4.out 7
  have Lc8_4 := blk_cell L_4.out 8
  have Lc9_4 := blk_cell L_4.out 9
  have Lc10_4 := blk_cell L_4.out 10
  generalize (V3.alloc (.cells #[.int .u8 tos, .int .u16 id, .bool df, .bool mf, .int .i64 off, .int .u8 ttl, .int .u8 proto, .int .u32 src, .int .u32 dst, .slice ia os.length ic, .slice ya ds.length yc] 54)) = V4 at q_4 sz_4 K_4 Kz_4 Kc0_4 Kc1_4 Kc2_4 Kc3_4 Kc4_4 Kc5_4 Kc6_4 Kc7_4 Kc8_4 Kc9_4 Kc10_4 J_4 Jz_4 Jc0_4 Jc1_4 Jc2_4 Jc3_4 I_4 D_4 L_4 Lz_4 Lc0_4 Lc1_4 Lc2_4 Lc3_4 Lc4_4 Lc5_4 Lc6_4 Lc7_4 Lc8_4 Lc9_4 Lc10_4 ⊢
  refine (HB.out ia ic ya yc _ I_4.out.bts D_4.out.bts).mono ?_
  rintro e V5 ⟨pg, pc, rfl, P, b⟩
  have K_5 := Lib.hid ((b.block _ Kz_4).trans K_4.out)
  have Kz_5 := Nat.lt_of_lt_of_le Kz_4 b.size
  have Kc0_5 := blk_cell K_5.out 0
  have Kc1_5 := blk_cell K_5.out 1
  have Kc2_5 := blk_cell K_5.out 2
  have Kc3_5 := blk_cell K_5.out 3
  have Kc4_5 := blk_cell K_5.out 4
  have Kc5_5 := blk_cell K_5.out 5
  have Kc6_5 := blk_cell K_5.out 6
  have Kc7_5 := blk_cell K_5.out 7
  have Kc8_5 := blk_cell K_5.out 8
  have Kc9_5 := blk_cell K_5.out 9
  have Kc10_5 := blk_cell K_5.out 10
  have J_5 := Lib.hid ((b.block _ Jz_4).trans J_4.out)
  have Jz_5 := Nat.lt_of_lt_of_le Jz_4 b.size
  have Jc0_5 := blk_cell J_5.out 0
  have Jc1_5 := blk_cell J_5.out 1
  have Jc2_5 := blk_cell J_5.out 2
  have Jc3_5 := blk_cell J_5.out 3
  have I_5 := Lib.hid (I_4.out.below b)
  have D_5 := Lib.hid (D_4.out.below b)
  have L_5 := Lib.hid ((b.block _ Lz_4).trans L_4.out)
  have Lz_5 := Nat.lt_of_lt_of_le Lz_4 b.size
  have Lc0_5 := blk_cell L_5.out 0
  have Lc1_5 := blk_cell L_5.out 1
  have Lc2_5 := blk_cell L_5.out 2
  have Lc3_5 := blk_cell L_5.out 3
  have Lc4_5 := blk_cell L_5.out 4
  have Lc5_5 := blk_cell L_5.out 5
  have Lc6_5 := blk_cell L_5.out 6
  have Lc7_5 := blk_cell L_5.out 7
  have Lc8_5 := blk_cell L_5.out 8
  have Lc9_5 := blk_cell L_5.out 9
  have Lc10_5 := blk_cell L_5.out 10
  have q_5 := q_4.trans (b.mono q_4.size)
  have sz_5 := b.size
  clear K_4 Kc0_4 Kc1_4 Kc2_4 Kc3_4 Kc4_4 Kc5_4 Kc6_4 Kc7_4 Kc8_4 Kc9_4 Kc10_4 J_4 Jc0_4 Jc1_4 Jc2_4 Jc3_4 I_4 D_4 L_4 Lc0_4 Lc1_4 Lc2_4 Lc3_4 Lc4_4 Lc5_4 Lc6_4 Lc7_4 Lc8_4 Lc9_4 Lc10_4 q_4
  have P_5 := Lib.hid (P)
  clear b
  clear P
  have pLt := Lib.hid P_5.out.blkLt
  have pNil := Lib.hid P_5.out.nilcap
  go_wp2_with fail
  refine (copy_one (some ⟨pg, 0, none⟩) R pc _ P_5.out.bts hlR pNil.out).mono ?_
  rintro e V6 ⟨ka, kc, rfl, C0, b⟩
  have K_6 := Lib.hid ((b.block _ Kz_5).trans K_5.out)
  have Kz_6 := Nat.lt_of_lt_of_le Kz_5 b.size
  have Kc0_6 := blk_cell K_6.out 0
  have Kc1_6 := blk_cell K_6.out 1
  have Kc2_6 := blk_cell K_6.out 2
  have Kc3_6 := blk_cell K_6.out 3
  have Kc4_6 := blk_cell K_6.out 4
  have Kc5_6 := blk_cell K_6.out 5
  have Kc6_6 := blk_cell K_6.out 6
  have Kc7_6 := blk_cell K_6.out 7
  have Kc8_6 := blk_cell K_6.out 8
  have Kc9_6 := blk_cell K_6.out 9
  have Kc10_6 := blk_cell K_6.out 10
  have J_6 := Lib.hid ((b.block _ Jz_5).trans J_5.out)
  have Jz_6 := Nat.lt_of_lt_of_le Jz_5 b.size
  have Jc0_6 := blk_cell J_6.out 0
  have Jc1_6 := blk_cell J_6.out 1
  have Jc2_6 := blk_cell J_6.out 2
  have Jc3_6 := blk_cell J_6.out 3
  have I_6 := Lib.hid (I_5.out.below b)
  have D_6 := Lib.hid (D_5.out.below b)
  have L_6 := Lib.hid ((b.block _ Lz_5).trans L_5.out)
  have Lz_6 := Nat.lt_of_lt_of_le Lz_5 b.size
  have Lc0_6 := blk_cell L_6.out 0
  have Lc1_6 := blk_cell L_6.out 1
  have Lc2_6 := blk_cell L_6.out 2
  have Lc3_6 := blk_cell L_6.out 3
  have Lc4_6 := blk_cell L_6.out 4
  have Lc5_6 := blk_cell L_6.out 5
  have Lc6_6 := blk_cell L_6.out 6
  have Lc7_6 := blk_cell L_6.out 7
  have Lc8_6 := blk_cell L_6.out 8
  have Lc9_6 := blk_cell L_6.out 9
  have Lc10_6 := blk_cell L_6.out 10
  have P_6 := Lib.hid (P_5.out.below b)
  have q_6 := q_5.trans (b.mono q_5.size)
  have sz_6 := b.size
  clear K_5 Kc0_5 Kc1_5 Kc2_5 Kc3_5 Kc4_5 Kc5_5 Kc6_5 Kc7_5 Kc8_5 Kc9_5 Kc10_5 J_5 Jc0_5 Jc1_5 Jc2_5 Jc3_5 I_5 D_5 L_5 Lc0_5 Lc1_5 Lc2_5 Lc3_5 Lc4_5 Lc5_5 Lc6_5 Lc7_5 Lc8_5 Lc9_5 Lc10_5 P_5 q_5
  have C_6 := Lib.hid (C0)
  clear b
  clear C0
  go_wp2_with fail
  refine (spoil_own C V3.heap.size yc ya ds (by omega) _ D_6.out dLt.out).mono ?_
  rintro e V7 ⟨⟨sv, rfl⟩, bt⟩
  have b := bt.below (by omega)
  have K_7 := Lib.hid ((bt.block _ Kz_6 (by omega)).trans K_6.out)
  have Kz_7 := Nat.lt_of_lt_of_le Kz_6 b.size
  have Kc0_7 := blk_cell K_7.out 0
  have Kc1_7 := blk_cell K_7.out 1
  have Kc2_7 := blk_cell K_7.out 2
  have Kc3_7 := blk_cell K_7.out 3
  have Kc4_7 := blk_cell K_7.out 4
  have Kc5_7 := blk_cell K_7.out 5
  have Kc6_7 := blk_cell K_7.out 6
  have Kc7_7 := blk_cell K_7.out 7
  have Kc8_7 := blk_cell K_7.out 8
  have Kc9_7 := blk_cell K_7.out 9
  have Kc10_7 := blk_cell K_7.out 10
  have J_7 := Lib.hid ((bt.block _ Jz_6 (by omega)).trans J_6.out)
  have Jz_7 := Nat.lt_of_lt_of_le Jz_6 b.size
  have Jc0_7 := blk_cell J_7.out 0
  have Jc1_7 := blk_cell J_7.out 1
  have Jc2_7 := blk_cell J_7.out 2
  have Jc3_7 := blk_cell J_7.out 3
  have I_7 := Lib.hid (I_6.out.under HC2.out bt)
  have L_7 := Lib.hid ((bt.block _ Lz_6 (by omega)).trans L_6.out)
  have Lz_7 := Nat.lt_of_lt_of_le Lz_6 b.size
  have Lc0_7 := blk_cell L_7.out 0
  have Lc1_7 := blk_cell L_7.out 1
  have Lc2_7 := blk_cell L_7.out 2
  have Lc3_7 := blk_cell L_7.out 3
  have Lc4_7 := blk_cell L_7.out 4
  have Lc5_7 := blk_cell L_7.out 5
  have Lc6_7 := blk_cell L_7.out 6
  have Lc7_7 := blk_cell L_7.out 7
  have Lc8_7 := blk_cell L_7.out 8
  have Lc9_7 := blk_cell L_7.out 9
  have Lc10_7 := blk_cell L_7.out 10
  have P_7 := Lib.hid (P_6.out.btw (by omega) bt)
  have C_7 := Lib.hid (C_6.out.btw (by omega) bt)
  have q_7 := q_6.trans (b.mono (by omega))
  have sz_7 := bt.size
  clear D_6 q_6 b bt K_6 Kc0_6 Kc1_6 Kc2_6 Kc3_6 Kc4_6 Kc5_6 Kc6_6 Kc7_6 Kc8_6 Kc9_6 Kc10_6 J_6 Jc0_6 Jc1_6 Jc2_6 Jc3_6 I_6 L_6 Lc0_6 Lc1_6 Lc2_6 Lc3_6 Lc4_6 Lc5_6 Lc6_6 Lc7_6 Lc8_6 Lc9_6 Lc10_6 P_6 C_6
  go_wp2_with fail
  refine (spoil_own V2.heap.size V3.heap.size ic ia os (by omega) _ I_7.out iLt.out).mono ?_
  rintro e V8 ⟨⟨sv, rfl⟩, bt⟩
  have b := bt.below (by omega)
  have K_8 := Lib.hid ((bt.block _ Kz_7 (by omega)).trans K_7.out)
  have Kz_8 := Nat.lt_of_lt_of_le Kz_7 b.size
  have Kc0_8 := blk_cell K_8.out 0
  have Kc1_8 := blk_cell K_8.out 1
  have Kc2_8 := blk_cell K_8.out 2
  have Kc3_8 := blk_cell K_8.out 3
  have Kc4_8 := blk_cell K_8.out 4
  have Kc5_8 := blk_cell K_8.out 5
  have Kc6_8 := blk_cell K_8.out 6
  have Kc7_8 := blk_cell K_8.out 7
  have Kc8_8 := blk_cell K_8.out 8
  have Kc9_8 := blk_cell K_8.out 9
  have Kc10_8 := blk_cell K_8.out 10
  have J_8 := Lib.hid ((bt.block _ Jz_7 (by omega)).trans J_7.out)
  have Jz_8 := Nat.lt_of_lt_of_le Jz_7 b.size
  have Jc0_8 := blk_cell J_8.out 0
  have Jc1_8 := blk_cell J_8.out 1
  have Jc2_8 := blk_cell J_8.out 2
  have Jc3_8 := blk_cell J_8.out 3
  have L_8 := Lib.hid ((bt.block _ Lz_7 (by omega)).trans L_7.out)
  have Lz_8 := Nat.lt_of_lt_of_le Lz_7 b.size
  have Lc0_8 := blk_cell L_8.out 0
  have Lc1_8 := blk_cell L_8.out 1
  have Lc2_8 := blk_cell L_8.out 2
  have Lc3_8 := blk_cell L_8.out 3
  have Lc4_8 := blk_cell L_8.out 4
  have Lc5_8 := blk_cell L_8.out 5
  have Lc6_8 := blk_cell L_8.out 6
  have Lc7_8 := blk_cell L_8.out 7
  have Lc8_8 := blk_cell L_8.out 8
  have Lc9_8 := blk_cell L_8.out 9
  have Lc10_8 := blk_cell L_8.out 10
  have P_8 := Lib.hid (P_7.out.btw (by omega) bt)
  have C_8 := Lib.hid (C_7.out.btw (by omega) bt)
  have q_8 := q_7.trans (b.mono (by omega))
  have sz_8 := bt.size
  clear I_7 q_7 b bt K_7 Kc0_7 Kc1_7 Kc2_7 Kc3_7 Kc4_7 Kc5_7 Kc6_7 Kc7_7 Kc8_7 Kc9_7 Kc10_7 J_7 Jc0_7 Jc1_7 Jc2_7 Jc3_7 L_7 Lc0_7 Lc1_7 Lc2_7 Lc3_7 Lc4_7 Lc5_7 Lc6_7 Lc7_7 Lc8_7 Lc9_7 Lc10_7 P_7 C_7
  go_wp2_with fail
  refine (num_any _ _).mono ?_
  rintro e w' ⟨rfl, rfl⟩
  go_wp2_with fail
  refine (same_one (some ⟨pg, 0, none⟩) ka R R pc kc _ P_8.out.bts C_8.out.bts hlR hlR rfl).mono ?_
  rintro e V9 ⟨rfl, b⟩
  have K_9 := Lib.hid ((b.block _ Kz_8).trans K_8.out)
  have Kz_9 := Nat.lt_of_lt_of_le Kz_8 b.size
  have Kc0_9 := blk_cell K_9.out 0
  have Kc1_9 := blk_cell K_9.out 1
  have Kc2_9 := blk_cell K_9.out 2
  have Kc3_9 := blk_cell K_9.out 3
  have Kc4_9 := blk_cell K_9.out 4
  have Kc5_9 := blk_cell K_9.out 5
  have Kc6_9 := blk_cell K_9.out 6
  have Kc7_9 := blk_cell K_9.out 7
  have Kc8_9 := blk_cell K_9.out 8
  have Kc9_9 := blk_cell K_9.out 9
  have Kc10_9 := blk_cell K_9.out 10
  have J_9 := Lib.hid ((b.block _ Jz_8).trans J_8.out)
  have Jz_9 := Nat.lt_of_lt_of_le Jz_8 b.size
  have Jc0_9 := blk_cell J_9.out 0
  have Jc1_9 := blk_cell J_9.out 1
  have Jc2_9 := blk_cell J_9.out 2
  have Jc3_9 := blk_cell J_9.out 3
  have P_9 := Lib.hid (P_8.out.below b)
  have q_9 := q_8.trans (b.mono q_8.size)
  have sz_9 := b.size
  clear K_8 Kc0_8 Kc1_8 Kc2_8 Kc3_8 Kc4_8 Kc5_8 Kc6_8 Kc7_8 Kc8_8 Kc9_8 Kc10_8 J_8 Jc0_8 Jc1_8 Jc2_8 Jc3_8 L_8 Lz_8 Lc0_8 Lc1_8 Lc2_8 Lc3_8 Lc4_8 Lc5_8 Lc6_8 Lc7_8 Lc8_8 Lc9_8 Lc10_8 P_8 C_8 q_8
  clear b
  have pc1 := P_9.out.capLe
  go_wp2_with fail
  refine (HP.out _ pc _ P_9.out.bts pc1.1 pc1.2).mono ?_
  rintro e V10 ⟨xa, xc, za, zc, rfl, U, Z, b⟩
  have K_10 := Lib.hid ((b.block _ Kz_9).trans K_9.out)
  have Kz_10 := Nat.lt_of_lt_of_le Kz_9 b.size
  have Kc0_10 := blk_cell K_10.out 0
  have Kc1_10 := blk_cell K_10.out 1
  have Kc2_10 := blk_cell K_10.out 2
  have Kc3_10 := blk_cell K_10.out 3
  have Kc4_10 := blk_cell K_10.out 4
  have Kc5_10 := blk_cell K_10.out 5
  have Kc6_10 := blk_cell K_10.out 6
  have Kc7_10 := blk_cell K_10.out 7
  have Kc8_10 := blk_cell K_10.out 8
  have Kc9_10 := blk_cell K_10.out 9
  have Kc10_10 := blk_cell K_10.out 10
  have J_10 := Lib.hid ((b.block _ Jz_9).trans J_9.out)
  have Jz_10 := Nat.lt_of_lt_of_le Jz_9 b.size
  have Jc0_10 := blk_cell J_10.out 0
  have Jc1_10 := blk_cell J_10.out 1
  have Jc2_10 := blk_cell J_10.out 2
  have Jc3_10 := blk_cell J_10.out 3
  have P_10 := Lib.hid (P_9.out.below b)
  have q_10 := q_9.trans (b.mono q_9.size)
  have sz_10 := b.size
  clear K_9 Kc0_9 Kc1_9 Kc2_9 Kc3_9 Kc4_9 Kc5_9 Kc6_9 Kc7_9 Kc8_9 Kc9_9 Kc10_9 J_9 Jc0_9 Jc1_9 Jc2_9 Jc3_9 P_9 q_9
  have U_10 := Lib.hid (U)
  have Z_10 := Lib.hid (Z)
  clear b
  clear U Z
  have uLt := Lib.hid U_10.out.blkLt
  have zLt := Lib.hid Z_10.out.blkLt
  go_wp2_with fail
  have b : Below V10.heap.size V10 (V10.alloc (.cells #[.int .u8 tos, .int .u16 id, .bool df, .bool mf, .int .i64 off, .int .u8 ttl, .int .u8 proto, .int .u32 src, .int .u32 dst, .slice xa os.length xc, .slice za ds.length zc] 54)) := ((Below.refl _ V10).alloc (Nat.le_refl _) (.cells #[.int .u8 tos, .int .u16 id, .bool df, .bool mf, .int .i64 off, .int .u8 ttl, .int .u8 proto, .int .u32 src, .int .u32 dst, .slice xa os.length xc, .slice za ds.length zc] 54))
  have nb0 := blk_new V10 (.cells #[.int .u8 tos, .int .u16 id, .bool df, .bool mf, .int .i64 off, .int .u8 ttl, .int .u8 proto, .int .u32 src, .int .u32 dst, .slice xa os.length xc, .slice za ds.length zc] 54)
  have nz0 : V10.heap.size < (V10.alloc (.cells #[.int .u8 tos, .int .u16 id, .bool df, .bool mf, .int .i64 off, .int .u8 ttl, .int .u8 proto, .int .u32 src, .int .u32 dst, .slice xa os.length xc, .slice za ds.length zc] 54)).heap.size := by simp only [World.size_alloc]; omega
  have K_11 := Lib.hid ((b.block _ Kz_10).trans K_10.out)
  have Kz_11 := Nat.lt_of_lt_of_le Kz_10 b.size
  have Kc0_11 := blk_cell K_11.out 0
  have Kc1_11 := blk_cell K_11.out 1
  have Kc2_11 := blk_cell K_11.out 2
  have Kc3_11 := blk_cell K_11.out 3
  have Kc4_11 := blk_cell K_11.out 4
  have Kc5_11 := blk_cell K_11.out 5
  have Kc6_11 := blk_cell K_11.out 6
  have Kc7_11 := blk_cell K_11.out 7
  have Kc8_11 := blk_cell K_11.out 8
  have Kc9_11 := blk_cell K_11.out 9
  have Kc10_11 := blk_cell K_11.out 10
  have J_11 := Lib.hid ((b.block _ Jz_10).trans J_10.out)
  have Jz_11 := Nat.lt_of_lt_of_le Jz_10 b.size
  have Jc0_11 := blk_cell J_11.out 0
  have Jc1_11 := blk_cell J_11.out 1
  have Jc2_11 := blk_cell J_11.out 2
  have Jc3_11 := blk_cell J_11.out 3
  have P_11 := Lib.hid (P_10.out.below b)
  have U_11 := Lib.hid (U_10.out.below b)
  have Z_11 := Lib.hid (Z_10.out.below b)
  have q_11 := q_10.trans (b.mono q_10.size)
  have sz_11 := b.size
  clear K_10 Kc0_10 Kc1_10 Kc2_10 Kc3_10 Kc4_10 Kc5_10 Kc6_10 Kc7_10 Kc8_10 Kc9_10 Kc10_10 J_10 Jc0_10 Jc1_10 Jc2_10 Jc3_10 P_10 U_10 Z_10 q_10
  clear b
  have X_11 := Lib.hid nb0
  have Xz_11 := nz0
  clear nb0 nz0
  have Xc0_11 := blk_cell X_11.out 0
  have Xc1_11 := blk_cell X_11.out 1
  have Xc2_11 := blk_cell X_11.out 2
  have Xc3_11 := blk_cell X_11.out 3
  have Xc4_11 := blk_cell X_11.out 4
  have Xc5_11 := blk_cell X_11.out 5
  have Xc6_11 := blk_cell X_11.out 6
  have Xc7_11 := blk_cell X_11.out 7
  have Xc8_11 := blk_cell X_11.out 8
  have Xc9_11 := blk_cell X_11.out 9
  have Xc10_11 := blk_cell X_11.out 10
  generalize (V10.alloc (.cells #[.int .u8 tos, .int .u16 id, .bool df, .bool mf, .int .i64 off, .int .u8 ttl, .int .u8 proto, .int .u32 src, .int .u32 dst, .slice xa os.length xc, .slice za ds.length zc] 54)) = V11 at q_11 sz_11 K_11 Kz_11 Kc0_11 Kc1_11 Kc2_11 Kc3_11 Kc4_11 Kc5_11 Kc6_11 Kc7_11 Kc8_11 Kc9_11 Kc10_11 J_11 Jz_11 Jc0_11 Jc1_11 Jc2_11 Jc3_11 P_11 U_11 Z_11 X_11 Xz_11 Xc0_11 Xc1_11 Xc2_11 Xc3_11 Xc4_11 Xc5_11 Xc6_11 Xc7_11 Xc8_11 Xc9_11 Xc10_11 ⊢
  refine (spoil_own (V4.heap.size + 1) V5.heap.size pc (some ⟨pg, 0, none⟩) R (by omega) _ P_11.out pLt.out).mono ?_
  rintro e V12 ⟨⟨sv, rfl⟩, bt⟩
  have b := bt.below (by omega)
  have K_12 := Lib.hid ((bt.block _ Kz_11 (by omega)).trans K_11.out)
  have Kz_12 := Nat.lt_of_lt_of_le Kz_11 b.size
  have Kc0_12 := blk_cell K_12.out 0
  have Kc1_12 := blk_cell K_12.out 1
  have Kc2_12 := blk_cell K_12.out 2
  have Kc3_12 := blk_cell K_12.out 3
  have Kc4_12 := blk_cell K_12.out 4
  have Kc5_12 := blk_cell K_12.out 5
  have Kc6_12 := blk_cell K_12.out 6
  have Kc7_12 := blk_cell K_12.out 7
  have Kc8_12 := blk_cell K_12.out 8
  have Kc9_12 := blk_cell K_12.out 9
  have Kc10_12 := blk_cell K_12.out 10
  have J_12 := Lib.hid ((bt.block _ Jz_11 (by omega)).trans J_11.out)
  have Jz_12 := Nat.lt_of_lt_of_le Jz_11 b.size
  have Jc0_12 := blk_cell J_12.out 0
  have Jc1_12 := blk_cell J_12.out 1
  have Jc2_12 := blk_cell J_12.out 2
  have Jc3_12 := blk_cell J_12.out 3
  have U_12 := Lib.hid (U_11.out.btw (by omega) bt)
  have Z_12 := Lib.hid (Z_11.out.btw (by omega) bt)
  have X_12 := Lib.hid ((bt.block _ Xz_11 (by omega)).trans X_11.out)
  have Xz_12 := Nat.lt_of_lt_of_le Xz_11 b.size
  have Xc0_12 := blk_cell X_12.out 0
  have Xc1_12 := blk_cell X_12.out 1
  have Xc2_12 := blk_cell X_12.out 2
  have Xc3_12 := blk_cell X_12.out 3
  have Xc4_12 := blk_cell X_12.out 4
  have Xc5_12 := blk_cell X_12.out 5
  have Xc6_12 := blk_cell X_12.out 6
  have Xc7_12 := blk_cell X_12.out 7
  have Xc8_12 := blk_cell X_12.out 8
  have Xc9_12 := blk_cell X_12.out 9
  have Xc10_12 := blk_cell X_12.out 10
  have q_12 := q_11.trans (b.mono (by omega))
  have sz_12 := bt.size
  clear P_11 q_11 b bt K_11 Kc0_11 Kc1_11 Kc2_11 Kc3_11 Kc4_11 Kc5_11 Kc6_11 Kc7_11 Kc8_11 Kc9_11 Kc10_11 J_11 Jc0_11 Jc1_11 Jc2_11 Jc3_11 U_11 Z_11 X_11 Xc0_11 Xc1_11 Xc2_11 Xc3_11 Xc4_11 Xc5_11 Xc6_11 Xc7_11 Xc8_11 Xc9_11 Xc10_11
  go_wp2_with fail
  refine (copy_one ma ms mc _ (M0.out.below q_12) hlM HM.out).mono ?_
  rintro e V13 ⟨na, nc, rfl, N, b⟩
  have K_13 := Lib.hid ((b.block _ Kz_12).trans K_12.out)
  have Kz_13 := Nat.lt_of_lt_of_le Kz_12 b.size
  have Kc0_13 := blk_cell K_13.out 0
  have Kc1_13 := blk_cell K_13.out 1
  have Kc2_13 := blk_cell K_13.out 2
  have Kc3_13 := blk_cell K_13.out 3
  have Kc4_13 := blk_cell K_13.out 4
  have Kc5_13 := blk_cell K_13.out 5
  have Kc6_13 := blk_cell K_13.out 6
  have Kc7_13 := blk_cell K_13.out 7
  have Kc8_13 := blk_cell K_13.out 8
  have Kc9_13 := blk_cell K_13.out 9
  have Kc10_13 := blk_cell K_13.out 10
  have J_13 := Lib.hid ((b.block _ Jz_12).trans J_12.out)
  have Jz_13 := Nat.lt_of_lt_of_le Jz_12 b.size
  have Jc0_13 := blk_cell J_13.out 0
  have Jc1_13 := blk_cell J_13.out 1
  have Jc2_13 := blk_cell J_13.out 2
  have Jc3_13 := blk_cell J_13.out 3
  have U_13 := Lib.hid (U_12.out.below b)
  have Z_13 := Lib.hid (Z_12.out.below b)
  have X_13 := Lib.hid ((b.block _ Xz_12).trans X_12.out)
  have Xz_13 := Nat.lt_of_lt_of_le Xz_12 b.size
  have Xc0_13 := blk_cell X_13.out 0
  have Xc1_13 := blk_cell X_13.out 1
  have Xc2_13 := blk_cell X_13.out 2
  have Xc3_13 := blk_cell X_13.out 3
  have Xc4_13 := blk_cell X_13.out 4
  have Xc5_13 := blk_cell X_13.out 5
  have Xc6_13 := blk_cell X_13.out 6
  have Xc7_13 := blk_cell X_13.out 7
  have Xc8_13 := blk_cell X_13.out 8
  have Xc9_13 := blk_cell X_13.out 9
  have Xc10_13 := blk_cell X_13.out 10
  have q_13 := q_12.trans (b.mono q_12.size)
  have sz_13 := b.size
  clear K_12 Kc0_12 Kc1_12 Kc2_12 Kc3_12 Kc4_12 Kc5_12 Kc6_12 Kc7_12 Kc8_12 Kc9_12 Kc10_12 J_12 Jc0_12 Jc1_12 Jc2_12 Jc3_12 U_12 Z_12 X_12 Xc0_12 Xc1_12 Xc2_12 Xc3_12 Xc4_12 Xc5_12 Xc6_12 Xc7_12 Xc8_12 Xc9_12 Xc10_12 q_12
  have N_13 := Lib.hid (N)
  clear b
  clear N
  have nLt := Lib.hid N_13.out.blkLt
  go_wp2_with fail
  refine (HI.out na nc _ N_13.out.bts).mono ?_
  rintro e V14 ⟨ca, cc, rfl, E, b⟩
  have K_14 := Lib.hid ((b.block _ Kz_13).trans K_13.out)
  have Kz_14 := Nat.lt_of_lt_of_le Kz_13 b.size
  have Kc0_14 := blk_cell K_14.out 0
  have Kc1_14 := blk_cell K_14.out 1
  have Kc2_14 := blk_cell K_14.out 2
  have Kc3_14 := blk_cell K_14.out 3
  have Kc4_14 := blk_cell K_14.out 4
  have Kc5_14 := blk_cell K_14.out 5
  have Kc6_14 := blk_cell K_14.out 6
  have Kc7_14 := blk_cell K_14.out 7
  have Kc8_14 := blk_cell K_14.out 8
  have Kc9_14 := blk_cell K_14.out 9
  have Kc10_14 := blk_cell K_14.out 10
  have J_14 := Lib.hid ((b.block _ Jz_13).trans J_13.out)
  have Jz_14 := Nat.lt_of_lt_of_le Jz_13 b.size
  have Jc0_14 := blk_cell J_14.out 0
  have Jc1_14 := blk_cell J_14.out 1
  have Jc2_14 := blk_cell J_14.out 2
  have Jc3_14 := blk_cell J_14.out 3
  have U_14 := Lib.hid (U_13.out.below b)
  have Z_14 := Lib.hid (Z_13.out.below b)
  have X_14 := Lib.hid ((b.block _ Xz_13).trans X_13.out)
  have Xz_14 := Nat.lt_of_lt_of_le Xz_13 b.size
  have Xc0_14 := blk_cell X_14.out 0
  have Xc1_14 := blk_cell X_14.out 1
  have Xc2_14 := blk_cell X_14.out 2
  have Xc3_14 := blk_cell X_14.out 3
  have Xc4_14 := blk_cell X_14.out 4
  have Xc5_14 := blk_cell X_14.out 5
  have Xc6_14 := blk_cell X_14.out 6
  have Xc7_14 := blk_cell X_14.out 7
  have Xc8_14 := blk_cell X_14.out 8
  have Xc9_14 := blk_cell X_14.out 9
  have Xc10_14 := blk_cell X_14.out 10
  have N_14 := Lib.hid (N_13.out.below b)
  have q_14 := q_13.trans (b.mono q_13.size)
  have sz_14 := b.size
  clear K_13 Kc0_13 Kc1_13 Kc2_13 Kc3_13 Kc4_13 Kc5_13 Kc6_13 Kc7_13 Kc8_13 Kc9_13 Kc10_13 J_13 Jc0_13 Jc1_13 Jc2_13 Jc3_13 U_13 Z_13 X_13 Xc0_13 Xc1_13 Xc2_13 Xc3_13 Xc4_13 Xc5_13 Xc6_13 Xc7_13 Xc8_13 Xc9_13 Xc10_13 N_13 q_13
  have E_14 := Lib.hid (E)
  clear b
  clear E
  have eNil := Lib.hid E_14.out.nilcap
  go_wp2_with fail
  refine (copy_one ca S cc _ E_14.out.bts hlS eNil.out).mono ?_
  rintro e V15 ⟨ha, hc, rfl, H, b⟩
  have K_15 := Lib.hid ((b.block _ Kz_14).trans K_14.out)
  have Kz_15 := Nat.lt_of_lt_of_le Kz_14 b.size
  have Kc0_15 := blk_cell K_15.out 0
  have Kc1_15 := blk_cell K_15.out 1
  have Kc2_15 := blk_cell K_15.out 2
  have Kc3_15 := blk_cell K_15.out 3
  have Kc4_15 := blk_cell K_15.out 4
  have Kc5_15 := blk_cell K_15.out 5
  have Kc6_15 := blk_cell K_15.out 6
  have Kc7_15 := blk_cell K_15.out 7
  have Kc8_15 := blk_cell K_15.out 8
  have Kc9_15 := blk_cell K_15.out 9
  have Kc10_15 := blk_cell K_15.out 10
  have J_15 := Lib.hid ((b.block _ Jz_14).trans J_14.out)
  have Jz_15 := Nat.lt_of_lt_of_le Jz_14 b.size
  have Jc0_15 := blk_cell J_15.out 0
  have Jc1_15 := blk_cell J_15.out 1
  have Jc2_15 := blk_cell J_15.out 2
  have Jc3_15 := blk_cell J_15.out 3
  have U_15 := Lib.hid (U_14.out.below b)
  have Z_15 := Lib.hid (Z_14.out.below b)
  have X_15 := Lib.hid ((b.block _ Xz_14).trans X_14.out)
  have Xz_15 := Nat.lt_of_lt_of_le Xz_14 b.size
  have Xc0_15 := blk_cell X_15.out 0
  have Xc1_15 := blk_cell X_15.out 1
  have Xc2_15 := blk_cell X_15.out 2
  have Xc3_15 := blk_cell X_15.out 3
  have Xc4_15 := blk_cell X_15.out 4
  have Xc5_15 := blk_cell X_15.out 5
  have Xc6_15 := blk_cell X_15.out 6
  have Xc7_15 := blk_cell X_15.out 7
  have Xc8_15 := blk_cell X_15.out 8
  have Xc9_15 := blk_cell X_15.out 9
  have Xc10_15 := blk_cell X_15.out 10
  have N_15 := Lib.hid (N_14.out.below b)
  have E_15 := Lib.hid (E_14.out.below b)
  have q_15 := q_14.trans (b.mono q_14.size)
  have sz_15 := b.size
  clear K_14 Kc0_14 Kc1_14 Kc2_14 Kc3_14 Kc4_14 Kc5_14 Kc6_14 Kc7_14 Kc8_14 Kc9_14 Kc10_14 J_14 Jc0_14 Jc1_14 Jc2_14 Jc3_14 U_14 Z_14 X_14 Xc0_14 Xc1_14 Xc2_14 Xc3_14 Xc4_14 Xc5_14 Xc6_14 Xc7_14 Xc8_14 Xc9_14 Xc10_14 N_14 E_14 q_14
  have H_15 := Lib.hid (H)
  clear b
  clear H
  go_wp2_with fail
  refine (spoil_own V12.heap.size V13.heap.size nc na ms (by omega) _ N_15.out nLt.out).mono ?_
  rintro e V16 ⟨⟨sv, rfl⟩, bt⟩
  have b := bt.below (by omega)
  have K_16 := Lib.hid ((bt.block _ Kz_15 (by omega)).trans K_15.out)
  have Kz_16 := Nat.lt_of_lt_of_le Kz_15 b.size
  have Kc0_16 := blk_cell K_16.out 0
  have Kc1_16 := blk_cell K_16.out 1
  have Kc2_16 := blk_cell K_16.out 2
  have Kc3_16 := blk_cell K_16.out 3
  have Kc4_16 := blk_cell K_16.out 4
  have Kc5_16 := blk_cell K_16.out 5
  have Kc6_16 := blk_cell K_16.out 6
  have Kc7_16 := blk_cell K_16.out 7
  have Kc8_16 := blk_cell K_16.out 8
  have Kc9_16 := blk_cell K_16.out 9
  have Kc10_16 := blk_cell K_16.out 10
  have J_16 := Lib.hid ((bt.block _ Jz_15 (by omega)).trans J_15.out)
  have Jz_16 := Nat.lt_of_lt_of_le Jz_15 b.size
  have Jc0_16 := blk_cell J_16.out 0
  have Jc1_16 := blk_cell J_16.out 1
  have Jc2_16 := blk_cell J_16.out 2
  have Jc3_16 := blk_cell J_16.out 3
  have U_16 := Lib.hid (U_15.out.under (fun g h => Nat.lt_of_lt_of_le (uLt.out g h) (by omega)) bt)
  have Z_16 := Lib.hid (Z_15.out.under (fun g h => Nat.lt_of_lt_of_le (zLt.out g h) (by omega)) bt)
  have X_16 := Lib.hid ((bt.block _ Xz_15 (by omega)).trans X_15.out)
  have Xz_16 := Nat.lt_of_lt_of_le Xz_15 b.size
  have Xc0_16 := blk_cell X_16.out 0
  have Xc1_16 := blk_cell X_16.out 1
  have Xc2_16 := blk_cell X_16.out 2
  have Xc3_16 := blk_cell X_16.out 3
  have Xc4_16 := blk_cell X_16.out 4
  have Xc5_16 := blk_cell X_16.out 5
  have Xc6_16 := blk_cell X_16.out 6
  have Xc7_16 := blk_cell X_16.out 7
  have Xc8_16 := blk_cell X_16.out 8
  have Xc9_16 := blk_cell X_16.out 9
  have Xc10_16 := blk_cell X_16.out 10
  have E_16 := Lib.hid (E_15.out.btw (by omega) bt)
  have H_16 := Lib.hid (H_15.out.btw (by omega) bt)
  have q_16 := q_15.trans (b.mono (by omega))
  have sz_16 := bt.size
  clear N_15 q_15 b bt K_15 Kc0_15 Kc1_15 Kc2_15 Kc3_15 Kc4_15 Kc5_15 Kc6_15 Kc7_15 Kc8_15 Kc9_15 Kc10_15 J_15 Jc0_15 Jc1_15 Jc2_15 Jc3_15 U_15 Z_15 X_15 Xc0_15 Xc1_15 Xc2_15 Xc3_15 Xc4_15 Xc5_15 Xc6_15 Xc7_15 Xc8_15 Xc9_15 Xc10_15 E_15 H_15
  go_wp2_with fail
  refine (sameIP_one tos id df mf off ttl proto src dst xa oa os xc oc za da ds zc dc _ U_16.out.bts (X0.out.below q_16) hlO Z_16.out.bts (Y0.out.below q_16) hlD).mono ?_
  rintro e V17 ⟨rfl, b⟩
  have E_17 := Lib.hid (E_16.out.below b)
  have H_17 := Lib.hid (H_16.out.below b)
  have q_17 := q_16.trans (b.mono q_16.size)
  have sz_17 := b.size
  clear K_16 Kz_16 Kc0_16 Kc1_16 Kc2_16 Kc3_16 Kc4_16 Kc5_16 Kc6_16 Kc7_16 Kc8_16 Kc9_16 Kc10_16 J_16 Jz_16 Jc0_16 Jc1_16 Jc2_16 Jc3_16 U_16 Z_16 X_16 Xz_16 Xc0_16 Xc1_16 Xc2_16 Xc3_16 Xc4_16 Xc5_16 Xc6_16 Xc7_16 Xc8_16 Xc9_16 Xc10_16 E_16 H_16 q_16
  clear b
  go_wp2_with fail
  refine (num_any _ _).mono ?_
  rintro e w' ⟨rfl, rfl⟩
  by_cases hF : F = 0
  · subst hF
    go_wp2_with fail
    refine (same_one ca ha S S cc hc _ E_17.out.bts H_17.out.bts hlS hlS rfl).mono ?_
    rintro e V18 ⟨rfl, b⟩
    have E_18 := Lib.hid (E_17.out.below b)
    have H_18 := Lib.hid (H_17.out.below b)
    have q_18 := q_17.trans (b.mono q_17.size)
    have sz_18 := b.size
    clear E_17 H_17 q_17
    clear b
    go_wp2
    go_ret
    exact ⟨rfl, q_18⟩
  · have hF1 : (F != 0) = true := by simp [hF]
    have hF2 : (F == 0) = false := by simp [hF]
    go_wp2
    go_ret
    exact ⟨rfl, q_17⟩

set_option maxRecDepth 100000 in
set_option maxHeartbeats 4000000 in
theorem walk_no (tos id : Nat) (df mf : Bool) (off : Int) (ttl proto src dst : Nat) (oa : Option Addr) (os : List Nat) (oc : Nat) (da : Option Addr) (ds : List Nat) (dc : Nat) (ty co re : Nat) (ma : Option Addr) (ms : List Nat) (mc : Nat) (w : World) (hm : ¬ IpMay off os.length ds.length) (hol : os.length ≤ 140737488351232) (hdl : ds.length ≤ 140737488351232) (hx : Bts w oa os) (hoc : oa = none → oc = 0) (hy : Bts w da ds) (hdc : da = none → dc = 0) (hmo : Bts w ma ms) (hmc : ma = none → mc = 0) :
    Calls Try.prog 9 #[.agg #[.int .u8 tos, .int .u16 id, .bool df, .bool mf, .int .i64 off, .int .u8 ttl, .int .u8 proto, .int .u32 src, .int .u32 dst, .slice oa os.length oc, .slice da ds.length dc], .agg #[.int .u8 ty, .int .u8 co, .int .u32 re, .slice ma ms.length mc]] w fun e w' => e = .returned (.bool true) ∧ Below w.heap.size w w' := by
  have hlO : os.length ≤ 140737488355328 := by omega
  have hlD : ds.length ≤ 140737488355328 := by omega
  have hb : ∀ a c a2 c2 W, Calls Try.prog 31 #[.agg #[.int .u8 tos, .int .u16 id, .bool df, .bool mf, .int .i64 off, .int .u8 ttl, .int .u8 proto, .int .u32 src, .int .u32 dst, .slice a os.length c, .slice a2 ds.length c2]] W (IpBad W) := fun a c a2 c2 W => ipB_bad tos id df mf off ttl proto src dst a os.length c a2 ds.length c2 W (by omega) hm
  have HB := Lib.hid hb
  clear hb hm
  have q_0 := Below.refl w.heap.size w
  have X0 := Lib.hid hx
  have Y0 := Lib.hid hy
  have M0 := Lib.hid hmo
  have HM := Lib.hid hmc
  have HO := Lib.hid hoc
  have HD := Lib.hid hdc
  clear hx hy hmo hmc hoc hdc
  go_enter Try.func9, Try.ntmps9
  go_wp2_with fail
  have b : Below w.heap.size w ((w.alloc (.cells #[.int .u8 tos, .int .u16 id, .bool df, .bool mf, .int .i64 off, .int .u8 ttl, .int .u8 proto, .int .u32 src, .int .u32 dst, .slice oa os.length oc, .slice da ds.length dc] 54)).alloc (.cells #[.int .u8 ty, .int .u8 co, .int .u32 re, .slice ma ms.length mc] 63)) := (((Below.refl _ w).alloc (Nat.le_refl _) (.cells #[.int .u8 tos, .int .u16 id, .bool df, .bool mf, .int .i64 off, .int .u8 ttl, .int .u8 proto, .int .u32 src, .int .u32 dst, .slice oa os.length oc, .slice da ds.length dc] 54)).alloc (by simp only [World.size_alloc]; omega) (.cells #[.int .u8 ty, .int .u8 co, .int .u32 re, .slice ma ms.length mc] 63))
  have nb0 := blk_new w (.cells #[.int .u8 tos, .int .u16 id, .bool df, .bool mf, .int .i64 off, .int .u8 ttl, .int .u8 proto, .int .u32 src, .int .u32 dst, .slice oa os.length oc, .slice da ds.length dc] 54)
  have nb0 := (Below.heap_alloc (w.alloc (.cells #[.int .u8 tos, .int .u16 id, .bool df, .bool mf, .int .i64 off, .int .u8 ttl, .int .u8 proto, .int .u32 src, .int .u32 dst, .slice oa os.length oc, .slice da ds.length dc] 54)) (.cells #[.int .u8 ty, .int .u8 co, .int .u32 re, .slice ma ms.length mc] 63) (w.heap.size) (by simp only [World.size_alloc]; omega)).trans nb0
  have nz0 : w.heap.size < ((w.alloc (.cells #[.int .u8 tos, .int .u16 id, .bool df, .bool mf, .int .i64 off, .int .u8 ttl, .int .u8 proto, .int .u32 src, .int .u32 dst, .slice oa os.length oc, .slice da ds.length dc] 54)).alloc (.cells #[.int .u8 ty, .int .u8 co, .int .u32 re, .slice ma ms.length mc] 63)).heap.size := by simp only [World.size_alloc]; omega
  have nb1 := blk_new (w.alloc (.cells #[.int .u8 tos, .int .u16 id, .bool df, .bool mf, .int .i64 off, .int .u8 ttl, .int .u8 proto, .int .u32 src, .int .u32 dst, .slice oa os.length oc, .slice da ds.length dc] 54)) (.cells #[.int .u8 ty, .int .u8 co, .int .u32 re, .slice ma ms.length mc] 63)
  simp only [World.size_alloc] at nb1
  have nz1 : w.heap.size + 1 < ((w.alloc (.cells #[.int .u8 tos, .int .u16 id, .bool df, .bool mf, .int .i64 off, .int .u8 ttl, .int .u8 proto, .int .u32 src, .int .u32 dst, .slice oa os.length oc, .slice da ds.length dc] 54)).alloc (.cells #[.int .u8 ty, .int .u8 co, .int .u32 re, .slice ma ms.length mc] 63)).heap.size := by simp only [World.size_alloc]; omega
  have q_1 := q_0.trans (b.mono q_0.size)
  have sz_1 := b.size
  clear q_0
  clear b
  have K_1 := Lib.hid nb0
  have Kz_1 := nz0
  clear nb0 nz0
  have Kc0_1 := blk_cell K_1.out 0
  have Kc1_1 := blk_cell K_1.out 1
  have Kc2_1 := blk_cell K_1.out 2
  have Kc3_1 := blk_cell K_1.out 3
  have Kc4_1 := blk_cell K_1.out 4
  have Kc5_1 := blk_cell K_1.out 5
  have Kc6_1 := blk_cell K_1.out 6
  have Kc7_1 := blk_cell K_1.out 7
  have Kc8_1 := blk_cell K_1.out 8
  have Kc9_1 := blk_cell K_1.out 9
  have Kc10_1 := blk_cell K_1.out 10
  have J_1 := Lib.hid nb1
  have Jz_1 := nz1
  clear nb1 nz1
  have Jc0_1 := blk_cell J_1.out 0
  have Jc1_1 := blk_cell J_1.out 1
  have Jc2_1 := blk_cell J_1.out 2
  have Jc3_1 := blk_cell J_1.out 3
  generalize ((w.alloc (.cells #[.int .u8 tos, .int .u16 id, .bool df, .bool mf, .int .i64 off, .int .u8 ttl, .int .u8 proto, .int .u32 src, .int .u32 dst, .slice oa os.length oc, .slice da ds.length dc] 54)).alloc (.cells #[.int .u8 ty, .int .u8 co, .int .u32 re, .slice ma ms.length mc] 63)) = V1 at q_1 sz_1 K_1 Kz_1 Kc0_1 Kc1_1 Kc2_1 Kc3_1 Kc4_1 Kc5_1 Kc6_1 Kc7_1 Kc8_1 Kc9_1 Kc10_1 J_1 Jz_1 Jc0_1 Jc1_1 Jc2_1 Jc3_1 ⊢
  refine (alive_any _).mono ?_
  rintro e V2 ⟨rfl, b⟩
  have K_2 := Lib.hid ((b.block _ Kz_1).trans K_1.out)
  have Kz_2 := Nat.lt_of_lt_of_le Kz_1 b.size
  have Kc0_2 := blk_cell K_2.out 0
  have Kc1_2 := blk_cell K_2.out 1
  have Kc2_2 := blk_cell K_2.out 2
  have Kc3_2 := blk_cell K_2.out 3
  have Kc4_2 := blk_cell K_2.out 4
  have Kc5_2 := blk_cell K_2.out 5
  have Kc6_2 := blk_cell K_2.out 6
  have Kc7_2 := blk_cell K_2.out 7
  have Kc8_2 := blk_cell K_2.out 8
  have Kc9_2 := blk_cell K_2.out 9
  have Kc10_2 := blk_cell K_2.out 10
  have J_2 := Lib.hid ((b.block _ Jz_1).trans J_1.out)
  have Jz_2 := Nat.lt_of_lt_of_le Jz_1 b.size
  have Jc0_2 := blk_cell J_2.out 0
  have Jc1_2 := blk_cell J_2.out 1
  have Jc2_2 := blk_cell J_2.out 2
  have Jc3_2 := blk_cell J_2.out 3
  have q_2 := q_1.trans (b.mono q_1.size)
  have sz_2 := b.size
  clear K_1 Kc0_1 Kc1_1 Kc2_1 Kc3_1 Kc4_1 Kc5_1 Kc6_1 Kc7_1 Kc8_1 Kc9_1 Kc10_1 J_1 Jc0_1 Jc1_1 Jc2_1 Jc3_1 q_1
  clear b
  go_wp2_with fail
  refine (copyIP_two tos id df mf off ttl proto src dst oa os oc da ds dc _ (X0.out.below q_2) (Y0.out.below q_2) HO.out HD.out hlO hlD).mono ?_
  rintro e V3 ⟨ia, ic, ya, yc, C, hC1, hC3, hC2, rfl, I, D, b⟩
  have K_3 := Lib.hid ((b.block _ Kz_2).trans K_2.out)
  have Kz_3 := Nat.lt_of_lt_of_le Kz_2 b.size
  have Kc0_3 := blk_cell K_3.out 0
  have Kc1_3 := blk_cell K_3.out 1
  have Kc2_3 := blk_cell K_3.out 2
  have Kc3_3 := blk_cell K_3.out 3
  have Kc4_3 := blk_cell K_3.out 4
  have Kc5_3 := blk_cell K_3.out 5
  have Kc6_3 := blk_cell K_3.out 6
  have Kc7_3 := blk_cell K_3.out 7
  have Kc8_3 := blk_cell K_3.out 8
  have Kc9_3 := blk_cell K_3.out 9
  have Kc10_3 := blk_cell K_3.out 10
  have J_3 := Lib.hid ((b.block _ Jz_2).trans J_2.out)
  have Jz_3 := Nat.lt_of_lt_of_le Jz_2 b.size
  have Jc0_3 := blk_cell J_3.out 0
  have Jc1_3 := blk_cell J_3.out 1
  have Jc2_3 := blk_cell J_3.out 2
  have Jc3_3 := blk_cell J_3.out 3
  have q_3 := q_2.trans (b.mono q_2.size)
  have sz_3 := b.size
  clear K_2 Kc0_2 Kc1_2 Kc2_2 Kc3_2 Kc4_2 Kc5_2 Kc6_2 Kc7_2 Kc8_2 Kc9_2 Kc10_2 J_2 Jc0_2 Jc1_2 Jc2_2 Jc3_2 q_2
  have I_3 := Lib.hid (I)
  have D_3 := Lib.hid (D)
  clear b
  clear I D
  have HC2 := Lib.hid hC2
  clear hC2
  have iLt := Lib.hid I_3.out.blkLt
  have dLt := Lib.hid D_3.out.blkLt
  go_wp2_with fail
  have b : Below V3.heap.size V3 (V3.alloc (.cells #[.int .u8 tos, .int .u16 id, .bool df, .bool mf, .int .i64 off, .int .u8 ttl, .int .u8 proto, .int .u32 src, .int .u32 dst, .slice ia os.length ic, .slice ya ds.length yc] 54)) := ((Below.refl _ V3).alloc (Nat.le_refl _) (.cells #[.int .u8 tos, .int .u16 id, .bool df, .bool mf, .int .i64 off, .int .u8 ttl, .int .u8 proto, .int .u32 src, .int .u32 dst, .slice ia os.length ic, .slice ya ds.length yc] 54))
  have nb0 := blk_new V3 (.cells #[.int .u8 tos, .int .u16 id, .bool df, .bool mf, .int .i64 off, .int .u8 ttl, .int .u8 proto, .int .u32 src, .int .u32 dst, .slice ia os.length ic, .slice ya ds.length yc] 54)
  have nz0 : V3.heap.size < (V3.alloc (.cells #[.int .u8 tos, .int .u16 id, .bool df, .bool mf, .int .i64 off, .int .u8 ttl, .int .u8 proto, .int .u32 src, .int .u32 dst, .slice ia os.length ic, .slice ya ds.length yc] 54)).heap.size := by simp only [World.size_alloc]; omega
  have K_4 := Lib.hid ((b.block _ Kz_3).trans K_3.out)
  have Kz_4 := Nat.lt_of_lt_of_le Kz_3 b.size
  have Kc0_4 := blk_cell K_4.out 0
  have Kc1_4 := blk_cell K_4.out 1
  have Kc2_4 := blk_cell K_4.out 2
  have Kc3_4 := blk_cell K_4.out 3
  have Kc4_4 := blk_cell K_4.out 4
  have Kc5_4 := blk_cell K_4.out 5
  have Kc6_4 := blk_cell K_4.out 6
  have Kc7_4 := blk_cell K_4.out 7
  have Kc8_4 := blk_cell K_4.out 8
  have Kc9_4 := blk_cell K_4.out 9
  have Kc10_4 := blk_cell K_4.out 10
  have J_4 := Lib.hid ((b.block _ Jz_3).trans J_3.out)
  have Jz_4 := Nat.lt_of_lt_of_le Jz_3 b.size
  have Jc0_4 := blk_cell J_4.out 0
  have Jc1_4 := blk_cell J_4.out 1
  have Jc2_4 := blk_cell J_4.out 2
  have Jc3_4 := blk_cell J_4.out 3
  have I_4 := Lib.hid (I_3.out.below b)
  have D_4 := Lib.hid (D_3.out.below b)
  have q_4 := q_3.trans (b.mono q_3.size)
  have sz_4 := b.size
  clear K_3 Kc0_3 Kc1_3 Kc2_3 Kc3_3 Kc4_3 Kc5_3 Kc6_3 Kc7_3 Kc8_3 Kc9_3 Kc10_3 J_3 Jc0_3 Jc1_3 Jc2_3 Jc3_3 I_3 D_3 q_3
  clear b
  have L_4 := Lib.hid nb0
  have Lz_4 := nz0
  clear nb0 nz0
  have Lc0_4 := blk_cell L_4.out 0
  have Lc1_4 := blk_cell L_4.out 1
  have Lc2_4 := blk_cell L_4.out 2
  have Lc3_4 := blk_cell L_4.out 3
  have Lc4_4 := blk_cell L_4.out 4
  have Lc5_4 := blk_cell L_4.out 5
  have Lc6_4 := blk_cell L_4.out 6
  have Lc7_4 := blk_cell L_4.out 7
  have Lc8_4 := blk_cell L_4.out 8
  have Lc9_4 := blk_cell L_4.out 9
  have Lc10_4 := blk_cell L_4.out 10
  generalize (V3.alloc (.cells #[.int .u8 tos, .int .u16 id, .bool df, .bool mf, .int .i64 off, .int .u8 ttl, .int .u8 proto, .int .u32 src, .int .u32 dst, .slice ia os.length ic, .slice ya ds.length yc] 54)) = V4 at q_4 sz_4 K_4 Kz_4 Kc0_4 Kc1_4 Kc2_4 Kc3_4 Kc4_4 Kc5_4 Kc6_4 Kc7_4 Kc8_4 Kc9_4 Kc10_4 J_4 Jz_4 Jc0_4 Jc1_4 Jc2_4 Jc3_4 I_4 D_4 L_4 Lz_4 Lc0_4 Lc1_4 Lc2_4 Lc3_4 Lc4_4 Lc5_4 Lc6_4 Lc7_4 Lc8_4 Lc9_4 Lc10_4 ⊢
  refine (HB.out ia ic ya yc _).mono ?_
  rintro e V5 ⟨n, hn, rfl, b⟩
  have K_5 := Lib.hid ((b.block _ Kz_4).trans K_4.out)
  have Kz_5 := Nat.lt_of_lt_of_le Kz_4 b.size
  have Kc0_5 := blk_cell K_5.out 0
  have Kc1_5 := blk_cell K_5.out 1
  have Kc2_5 := blk_cell K_5.out 2
  have Kc3_5 := blk_cell K_5.out 3
  have Kc4_5 := blk_cell K_5.out 4
  have Kc5_5 := blk_cell K_5.out 5
  have Kc6_5 := blk_cell K_5.out 6
  have Kc7_5 := blk_cell K_5.out 7
  have Kc8_5 := blk_cell K_5.out 8
  have Kc9_5 := blk_cell K_5.out 9
  have Kc10_5 := blk_cell K_5.out 10
  have J_5 := Lib.hid ((b.block _ Jz_4).trans J_4.out)
  have Jz_5 := Nat.lt_of_lt_of_le Jz_4 b.size
  have Jc0_5 := blk_cell J_5.out 0
  have Jc1_5 := blk_cell J_5.out 1
  have Jc2_5 := blk_cell J_5.out 2
  have Jc3_5 := blk_cell J_5.out 3
  have I_5 := Lib.hid (I_4.out.below b)
  have D_5 := Lib.hid (D_4.out.below b)
  have L_5 := Lib.hid ((b.block _ Lz_4).trans L_4.out)
  have Lz_5 := Nat.lt_of_lt_of_le Lz_4 b.size
  have Lc0_5 := blk_cell L_5.out 0
  have Lc1_5 := blk_cell L_5.out 1
  have Lc2_5 := blk_cell L_5.out 2
  have Lc3_5 := blk_cell L_5.out 3
  have Lc4_5 := blk_cell L_5.out 4
  have Lc5_5 := blk_cell L_5.out 5
  have Lc6_5 := blk_cell L_5.out 6
  have Lc7_5 := blk_cell L_5.out 7
  have Lc8_5 := blk_cell L_5.out 8
  have Lc9_5 := blk_cell L_5.out 9
  have Lc10_5 := blk_cell L_5.out 10
  have q_5 := q_4.trans (b.mono q_4.size)
  have sz_5 := b.size
  clear K_4 Kc0_4 Kc1_4 Kc2_4 Kc3_4 Kc4_4 Kc5_4 Kc6_4 Kc7_4 Kc8_4 Kc9_4 Kc10_4 J_4 Jc0_4 Jc1_4 Jc2_4 Jc3_4 I_4 D_4 L_4 Lc0_4 Lc1_4 Lc2_4 Lc3_4 Lc4_4 Lc5_4 Lc6_4 Lc7_4 Lc8_4 Lc9_4 Lc10_4 q_4
  clear b
  have S0 := Lib.hid (Bts.nil V5 none)
  go_wp2_with fail
  refine (copy_one none [] 0 _ S0.out (by decide) (fun _ => rfl)).mono ?_
  rintro e V6 ⟨ka, kc, rfl, C0, b⟩
  have K_6 := Lib.hid ((b.block _ Kz_5).trans K_5.out)
  have Kz_6 := Nat.lt_of_lt_of_le Kz_5 b.size
  have Kc0_6 := blk_cell K_6.out 0
  have Kc1_6 := blk_cell K_6.out 1
  have Kc2_6 := blk_cell K_6.out 2
  have Kc3_6 := blk_cell K_6.out 3
  have Kc4_6 := blk_cell K_6.out 4
  have Kc5_6 := blk_cell K_6.out 5
  have Kc6_6 := blk_cell K_6.out 6
  have Kc7_6 := blk_cell K_6.out 7
  have Kc8_6 := blk_cell K_6.out 8
  have Kc9_6 := blk_cell K_6.out 9
  have Kc10_6 := blk_cell K_6.out 10
  have J_6 := Lib.hid ((b.block _ Jz_5).trans J_5.out)
  have Jz_6 := Nat.lt_of_lt_of_le Jz_5 b.size
  have Jc0_6 := blk_cell J_6.out 0
  have Jc1_6 := blk_cell J_6.out 1
  have Jc2_6 := blk_cell J_6.out 2
  have Jc3_6 := blk_cell J_6.out 3
  have I_6 := Lib.hid (I_5.out.below b)
  have D_6 := Lib.hid (D_5.out.below b)
  have L_6 := Lib.hid ((b.block _ Lz_5).trans L_5.out)
  have Lz_6 := Nat.lt_of_lt_of_le Lz_5 b.size
  have Lc0_6 := blk_cell L_6.out 0
  have Lc1_6 := blk_cell L_6.out 1
  have Lc2_6 := blk_cell L_6.out 2
  have Lc3_6 := blk_cell L_6.out 3
  have Lc4_6 := blk_cell L_6.out 4
  have Lc5_6 := blk_cell L_6.out 5
  have Lc6_6 := blk_cell L_6.out 6
  have Lc7_6 := blk_cell L_6.out 7
  have Lc8_6 := blk_cell L_6.out 8
  have Lc9_6 := blk_cell L_6.out 9
  have Lc10_6 := blk_cell L_6.out 10
  have q_6 := q_5.trans (b.mono q_5.size)
  have sz_6 := b.size
  clear K_5 Kc0_5 Kc1_5 Kc2_5 Kc3_5 Kc4_5 Kc5_5 Kc6_5 Kc7_5 Kc8_5 Kc9_5 Kc10_5 J_5 Jc0_5 Jc1_5 Jc2_5 Jc3_5 I_5 D_5 L_5 Lc0_5 Lc1_5 Lc2_5 Lc3_5 Lc4_5 Lc5_5 Lc6_5 Lc7_5 Lc8_5 Lc9_5 Lc10_5 q_5
  have C_6 := Lib.hid (C0)
  clear b
  clear C0
  go_wp2_with fail
  refine (spoil_own C V3.heap.size yc ya ds (by omega) _ D_6.out dLt.out).mono ?_
  rintro e V7 ⟨⟨sv, rfl⟩, bt⟩
  have b := bt.below (by omega)
  have K_7 := Lib.hid ((bt.block _ Kz_6 (by omega)).trans K_6.out)
  have Kz_7 := Nat.lt_of_lt_of_le Kz_6 b.size
  have Kc0_7 := blk_cell K_7.out 0
  have Kc1_7 := blk_cell K_7.out 1
  have Kc2_7 := blk_cell K_7.out 2
  have Kc3_7 := blk_cell K_7.out 3
  have Kc4_7 := blk_cell K_7.out 4
  have Kc5_7 := blk_cell K_7.out 5
  have Kc6_7 := blk_cell K_7.out 6
  have Kc7_7 := blk_cell K_7.out 7
  have Kc8_7 := blk_cell K_7.out 8
  have Kc9_7 := blk_cell K_7.out 9
  have Kc10_7 := blk_cell K_7.out 10
  have J_7 := Lib.hid ((bt.block _ Jz_6 (by omega)).trans J_6.out)
  have Jz_7 := Nat.lt_of_lt_of_le Jz_6 b.size
  have Jc0_7 := blk_cell J_7.out 0
  have Jc1_7 := blk_cell J_7.out 1
  have Jc2_7 := blk_cell J_7.out 2
  have Jc3_7 := blk_cell J_7.out 3
  have I_7 := Lib.hid (I_6.out.under HC2.out bt)
  have L_7 := Lib.hid ((bt.block _ Lz_6 (by omega)).trans L_6.out)
  have Lz_7 := Nat.lt_of_lt_of_le Lz_6 b.size
  have Lc0_7 := blk_cell L_7.out 0
  have Lc1_7 := blk_cell L_7.out 1
  have Lc2_7 := blk_cell L_7.out 2
  have Lc3_7 := blk_cell L_7.out 3
  have Lc4_7 := blk_cell L_7.out 4
  have Lc5_7 := blk_cell L_7.out 5
  have Lc6_7 := blk_cell L_7.out 6
  have Lc7_7 := blk_cell L_7.out 7
  have Lc8_7 := blk_cell L_7.out 8
  have Lc9_7 := blk_cell L_7.out 9
  have Lc10_7 := blk_cell L_7.out 10
  have C_7 := Lib.hid (C_6.out.btw (by omega) bt)
  have q_7 := q_6.trans (b.mono (by omega))
  have sz_7 := bt.size
  clear D_6 q_6 b bt K_6 Kc0_6 Kc1_6 Kc2_6 Kc3_6 Kc4_6 Kc5_6 Kc6_6 Kc7_6 Kc8_6 Kc9_6 Kc10_6 J_6 Jc0_6 Jc1_6 Jc2_6 Jc3_6 I_6 L_6 Lc0_6 Lc1_6 Lc2_6 Lc3_6 Lc4_6 Lc5_6 Lc6_6 Lc7_6 Lc8_6 Lc9_6 Lc10_6 C_6
  go_wp2_with fail
  refine (spoil_own V2.heap.size V3.heap.size ic ia os (by omega) _ I_7.out iLt.out).mono ?_
  rintro e V8 ⟨⟨sv, rfl⟩, bt⟩
  have b := bt.below (by omega)
  have K_8 := Lib.hid ((bt.block _ Kz_7 (by omega)).trans K_7.out)
  have Kz_8 := Nat.lt_of_lt_of_le Kz_7 b.size
  have Kc0_8 := blk_cell K_8.out 0
  have Kc1_8 := blk_cell K_8.out 1
  have Kc2_8 := blk_cell K_8.out 2
  have Kc3_8 := blk_cell K_8.out 3
  have Kc4_8 := blk_cell K_8.out 4
  have Kc5_8 := blk_cell K_8.out 5
  have Kc6_8 := blk_cell K_8.out 6
  have Kc7_8 := blk_cell K_8.out 7
  have Kc8_8 := blk_cell K_8.out 8
  have Kc9_8 := blk_cell K_8.out 9
  have Kc10_8 := blk_cell K_8.out 10
  have J_8 := Lib.hid ((bt.block _ Jz_7 (by omega)).trans J_7.out)
  have Jz_8 := Nat.lt_of_lt_of_le Jz_7 b.size
  have Jc0_8 := blk_cell J_8.out 0
  have Jc1_8 := blk_cell J_8.out 1
  have Jc2_8 := blk_cell J_8.out 2
  have Jc3_8 := blk_cell J_8.out 3
  have L_8 := Lib.hid ((bt.block _ Lz_7 (by omega)).trans L_7.out)
  have Lz_8 := Nat.lt_of_lt_of_le Lz_7 b.size
  have Lc0_8 := blk_cell L_8.out 0
  have Lc1_8 := blk_cell L_8.out 1
  have Lc2_8 := blk_cell L_8.out 2
  have Lc3_8 := blk_cell L_8.out 3
  have Lc4_8 := blk_cell L_8.out 4
  have Lc5_8 := blk_cell L_8.out 5
  have Lc6_8 := blk_cell L_8.out 6
  have Lc7_8 := blk_cell L_8.out 7
  have Lc8_8 := blk_cell L_8.out 8
  have Lc9_8 := blk_cell L_8.out 9
  have Lc10_8 := blk_cell L_8.out 10
  have C_8 := Lib.hid (C_7.out.btw (by omega) bt)
  have q_8 := q_7.trans (b.mono (by omega))
  have sz_8 := bt.size
  clear I_7 q_7 b bt K_7 Kc0_7 Kc1_7 Kc2_7 Kc3_7 Kc4_7 Kc5_7 Kc6_7 Kc7_7 Kc8_7 Kc9_7 Kc10_7 J_7 Jc0_7 Jc1_7 Jc2_7 Jc3_7 L_7 Lc0_7 Lc1_7 Lc2_7 Lc3_7 Lc4_7 Lc5_7 Lc6_7 Lc7_7 Lc8_7 Lc9_7 Lc10_7 C_7
  go_wp2_with fail
  refine (num_any _ _).mono ?_
  rintro e w' ⟨rfl, rfl⟩
  have hn1 : (n != 0) = true := by simp [hn]
  have hn2 : (n == 0) = false := by simp [hn]
  go_wp2
  go_ret
  exact ⟨rfl, q_8⟩

theorem walk (tos id : Nat) (df mf : Bool) (off : Int) (ttl proto src dst : Nat) (oa : Option Addr) (os : List Nat) (oc : Nat) (da : Option Addr) (ds : List Nat) (dc : Nat) (ty co re : Nat) (ma : Option Addr) (ms : List Nat) (mc : Nat) (w : World)
    (htos : tos < 256) (hid : id < 65536) (_ : -9223372036854775808 ≤ off) (_ : off ≤ 9223372036854775807) (httl : ttl < 256) (hproto : proto < 256) (hsrc : src < 4294967296) (hdst : dst < 4294967296)
    (hx : Bts w oa os) (hoc : oa = none → oc = 0) (_ : os.length ≤ oc ∧ oc ≤ maxLen) (hol : os.length ≤ 140737488351232) (hy : Bts w da ds) (hdc : da = none → dc = 0) (_ : ds.length ≤ dc ∧ dc ≤ maxLen) (hdl : ds.length ≤ 140737488351232)
    (hty : ty < 256) (hco : co < 256) (hre : re < 4294967296) (hmo : Bts w ma ms) (hmc : ma = none → mc = 0) (_ : ms.length ≤ mc ∧ mc ≤ maxLen) (hml : ms.length ≤ 140737488351232) :
    Calls Try.prog 9 #[.agg #[.int .u8 tos, .int .u16 id, .bool df, .bool mf, .int .i64 off, .int .u8 ttl, .int .u8 proto, .int .u32 src, .int .u32 dst, .slice oa os.length oc, .slice da ds.length dc], .agg #[.int .u8 ty, .int .u8 co, .int .u32 re, .slice ma ms.length mc]] w fun e w' => e = .returned (.bool true) ∧ Below w.heap.size w w' := by
  by_cases h : IpMay off os.length ds.length
  · obtain ⟨n, rfl⟩ : ∃ n : Nat, off = n := ⟨off.toNat, by have := h.1; omega⟩
    exact walk_may tos id df mf n ttl proto src dst oa os oc da ds dc ty co re ma ms mc w h htos hid httl hproto hsrc hdst hty hco hre hx hoc hy hdc hmo hmc hml
  · exact walk_no tos id df mf off ttl proto src dst oa os oc da ds dc ty co re ma ms mc w h hol hdl hx hoc hy hdc hmo hmc

theorem of_len4 {α : Type} (l : List α) (h : l.length = 4) : ∃ x0 x1 x2 x3, l = [x0, x1, x2, x3] := by
  match l, h with
  | [x0, x1, x2, x3], _ => exact ⟨x0, x1, x2, x3, rfl⟩
theorem of_len11 {α : Type} (l : List α) (h : l.length = 11) : ∃ x0 x1 x2 x3 x4 x5 x6 x7 x8 x9 x10, l = [x0, x1, x2, x3, x4, x5, x6, x7, x8, x9, x10] := by
  match l, h with
  | [x0, x1, x2, x3, x4, x5, x6, x7, x8, x9, x10], _ => exact ⟨x0, x1, x2, x3, x4, x5, x6, x7, x8, x9, x10, rfl⟩
theorem own : ownKnob Try.prog.godebug = none := by kernel_rfl
theorem laidOut : laidOutB Try.prog = true := by kernel_rfl

set_option maxRecDepth 100000 in
set_option maxHeartbeats 2000000 in
theorem lifted (os : Os) (started : os.Started) (H : Type) (enc : TypeId × Value → H) :
    ReturnsInHanded {} Try.checked os 9 .any (Rows.ipwireOwnSpec.pre6 enc Try.prog Try.f9 Rows.ipwireOwnRow.domain false) (Rows.ipwireOwnSpec.post enc Try.prog Try.f9 false true false false) := by
  refine returnsInHanded_of_change_sized (C := Try.checked) own started (by kernel_rfl) Try.func9
    (ChangeSpec.witness6 (enc := enc) (C := Try.checked) false ⟨#[], #[.agg #[.int .u8 0, .int .u16 0, .bool false, .bool false, .int .i64 0, .int .u8 0, .int .u8 0, .int .u32 0, .int .u32 0, .slice none 0 0, .slice none 0 0], .agg #[.int .u8 0, .int .u8 0, .int .u32 0, .slice none 0 0]], []⟩ 8 (by kernel_rfl) (by kernel_rfl) (by kernel_rfl) (by kernel_rfl)) ?_
  intro W base args ds gs before hval0 hW hcnd hsz0 _
  have hval : ∀ (j : Nat) t v, Try.f9.params[j]? = some t → args[j]? = some v → Value.okWide Try.prog W .any base t v := hval0
  have hsz : (DataW.weightsEach Try.prog (Try.f9.params.toList ++ Rows.ipwireOwnSpec.plain.varTypes Try.prog) (ds ++ gs)).all (· ≤ reachBytes) = true := hsz0
  have hW' := hW
  obtain ⟨p, q, hA0, hV, rfl, hfz, hnd⟩ := hW
  have hA : DataW.TrodAll enc Try.prog W 0 (fun _ => true) true Try.f9.params.toList args.toList ds p := hA0
  rw [Try.params9] at hA hval hsz
  obtain ⟨v0, vs0, d0, ds0, p0, q0, hargs, rfl, rfl, h0, r0⟩ := trodAll_cons hA
  obtain ⟨v1, vs1, d1, ds1, p1, q1, rfl, rfl, rfl, h1, r1⟩ := trodAll_cons r0
  obtain ⟨rfl, rfl, rfl⟩ := trodAll_nil r1
  obtain rfl : args = #[v0, v1] := by cases args; simp_all
  obtain ⟨rfl, rfl⟩ := trodVars_none hV
  have k0 := h0
  have lt0 : ∀ x ∈ p0, x.block < W.heap.size := by obtain ⟨m, hm⟩ := k0; exact DataW.trod_lt m _ _ _ hm
  obtain ⟨vs0', ys0', m0, rfl, lv0, ly0, hd0, F0⟩ := open_agg Try.underlying54 (by kernel_rfl) (by kernel_rfl) (hval 0 54 v0 rfl rfl) h0
  obtain ⟨c0_0, c0_1, c0_2, c0_3, c0_4, c0_5, c0_6, c0_7, c0_8, c0_9, c0_10, rfl⟩ := of_len11 _ lv0
  obtain ⟨y0_0, y0_1, y0_2, y0_3, y0_4, y0_5, y0_6, y0_7, y0_8, y0_9, y0_10, rfl⟩ := of_len11 _ ly0
  simp only [List.map_cons, List.map_nil] at hd0
  obtain ⟨_, _, e, g, t0_0⟩ := F0 0 _ rfl
  obtain rfl := Option.some.inj e; obtain rfl := Option.some.inj g; clear e g
  obtain ⟨z0_0, e, _, w0_0⟩ := DataW.trod_int Try.underlying5 t0_0
  obtain rfl := (List.cons.inj e).1; clear e
  obtain ⟨n0_0, rfl, hn0_0⟩ := nat_of_u8 w0_0
  obtain ⟨_, _, e, g, t0_1⟩ := F0 1 _ rfl
  obtain rfl := Option.some.inj e; obtain rfl := Option.some.inj g; clear e g
  obtain ⟨z0_1, e, _, w0_1⟩ := DataW.trod_int Try.underlying52 t0_1
  obtain rfl := (List.cons.inj e).1; clear e
  obtain ⟨n0_1, rfl, hn0_1⟩ := nat_of_u16 w0_1
  obtain ⟨_, _, e, g, t0_2⟩ := F0 2 _ rfl
  obtain rfl := Option.some.inj e; obtain rfl := Option.some.inj g; clear e g
  obtain ⟨b0_2, e, _⟩ := DataW.trod_bool Try.underlying4 t0_2
  obtain rfl := (List.cons.inj e).1; clear e
  obtain ⟨_, _, e, g, t0_3⟩ := F0 3 _ rfl
  obtain rfl := Option.some.inj e; obtain rfl := Option.some.inj g; clear e g
  obtain ⟨b0_3, e, _⟩ := DataW.trod_bool Try.underlying4 t0_3
  obtain rfl := (List.cons.inj e).1; clear e
  obtain ⟨_, _, e, g, t0_4⟩ := F0 4 _ rfl
  obtain rfl := Option.some.inj e; obtain rfl := Option.some.inj g; clear e g
  obtain ⟨z0_4, e, _, w0_4⟩ := DataW.trod_int Try.underlying3 t0_4
  obtain rfl := (List.cons.inj e).1; clear e
  obtain ⟨lo0_4, hi0_4⟩ := bounds_i64 w0_4
  obtain ⟨_, _, e, g, t0_5⟩ := F0 5 _ rfl
  obtain rfl := Option.some.inj e; obtain rfl := Option.some.inj g; clear e g
  obtain ⟨z0_5, e, _, w0_5⟩ := DataW.trod_int Try.underlying5 t0_5
  obtain rfl := (List.cons.inj e).1; clear e
  obtain ⟨n0_5, rfl, hn0_5⟩ := nat_of_u8 w0_5
  obtain ⟨_, _, e, g, t0_6⟩ := F0 6 _ rfl
  obtain rfl := Option.some.inj e; obtain rfl := Option.some.inj g; clear e g
  obtain ⟨z0_6, e, _, w0_6⟩ := DataW.trod_int Try.underlying5 t0_6
  obtain rfl := (List.cons.inj e).1; clear e
  obtain ⟨n0_6, rfl, hn0_6⟩ := nat_of_u8 w0_6
  obtain ⟨_, _, e, g, t0_7⟩ := F0 7 _ rfl
  obtain rfl := Option.some.inj e; obtain rfl := Option.some.inj g; clear e g
  obtain ⟨z0_7, e, _, w0_7⟩ := DataW.trod_int Try.underlying26 t0_7
  obtain rfl := (List.cons.inj e).1; clear e
  obtain ⟨n0_7, rfl, hn0_7⟩ := nat_of_u32 w0_7
  obtain ⟨_, _, e, g, t0_8⟩ := F0 8 _ rfl
  obtain rfl := Option.some.inj e; obtain rfl := Option.some.inj g; clear e g
  obtain ⟨z0_8, e, _, w0_8⟩ := DataW.trod_int Try.underlying26 t0_8
  obtain rfl := (List.cons.inj e).1; clear e
  obtain ⟨n0_8, rfl, hn0_8⟩ := nat_of_u32 w0_8
  obtain ⟨_, _, e, g, t0_9⟩ := F0 9 _ rfl
  obtain rfl := Option.some.inj e; obtain rfl := Option.some.inj g; clear e g
  obtain ⟨a0_9, xs0_9, cap0_9, rfl, hbt0_9, hcap0_9, hlc0_9, hq0_9⟩ := open_bytes t0_9
  obtain ⟨_, _, e, g, t0_10⟩ := F0 10 _ rfl
  obtain rfl := Option.some.inj e; obtain rfl := Option.some.inj g; clear e g
  obtain ⟨a0_10, xs0_10, cap0_10, rfl, hbt0_10, hcap0_10, hlc0_10, hq0_10⟩ := open_bytes t0_10
  have k1 := h1
  have lt1 : ∀ x ∈ p1, x.block < W.heap.size := by obtain ⟨m, hm⟩ := k1; exact DataW.trod_lt m _ _ _ hm
  obtain ⟨vs1', ys1', m1, rfl, lv1, ly1, hd1, F1⟩ := open_agg Try.underlying63 (by kernel_rfl) (by kernel_rfl) (hval 1 63 v1 rfl rfl) h1
  obtain ⟨c1_0, c1_1, c1_2, c1_3, rfl⟩ := of_len4 _ lv1
  obtain ⟨y1_0, y1_1, y1_2, y1_3, rfl⟩ := of_len4 _ ly1
  simp only [List.map_cons, List.map_nil] at hd1
  obtain ⟨_, _, e, g, t1_0⟩ := F1 0 _ rfl
  obtain rfl := Option.some.inj e; obtain rfl := Option.some.inj g; clear e g
  obtain ⟨z1_0, e, _, w1_0⟩ := DataW.trod_int Try.underlying5 t1_0
  obtain rfl := (List.cons.inj e).1; clear e
  obtain ⟨n1_0, rfl, hn1_0⟩ := nat_of_u8 w1_0
  obtain ⟨_, _, e, g, t1_1⟩ := F1 1 _ rfl
  obtain rfl := Option.some.inj e; obtain rfl := Option.some.inj g; clear e g
  obtain ⟨z1_1, e, _, w1_1⟩ := DataW.trod_int Try.underlying5 t1_1
  obtain rfl := (List.cons.inj e).1; clear e
  obtain ⟨n1_1, rfl, hn1_1⟩ := nat_of_u8 w1_1
  obtain ⟨_, _, e, g, t1_2⟩ := F1 2 _ rfl
  obtain rfl := Option.some.inj e; obtain rfl := Option.some.inj g; clear e g
  obtain ⟨z1_2, e, _, w1_2⟩ := DataW.trod_int Try.underlying26 t1_2
  obtain rfl := (List.cons.inj e).1; clear e
  obtain ⟨n1_2, rfl, hn1_2⟩ := nat_of_u32 w1_2
  obtain ⟨_, _, e, g, t1_3⟩ := F1 3 _ rfl
  obtain rfl := Option.some.inj e; obtain rfl := Option.some.inj g; clear e g
  obtain ⟨a1_3, xs1_3, cap1_3, rfl, hbt1_3, hcap1_3, hlc1_3, hq1_3⟩ := open_bytes t1_3
  have hre0_9 : xs0_9.length ≤ 140737488351232 := bytes_reach hq0_9 (sized_field hsz (j := 0) (i := 9) (t := 54) rfl (by rw [hd0]; rfl) Try.underlying54 rfl rfl)
  have hre0_10 : xs0_10.length ≤ 140737488351232 := bytes_reach hq0_10 (sized_field hsz (j := 0) (i := 10) (t := 54) rfl (by rw [hd0]; rfl) Try.underlying54 rfl rfl)
  have hre1_3 : xs1_3.length ≤ 140737488351232 := bytes_reach hq1_3 (sized_field hsz (j := 1) (i := 3) (t := 63) rfl (by rw [hd1]; rfl) Try.underlying63 rfl rfl)
  clear hA0 hval0 hsz hsz0
  refine (walk n0_0 n0_1 b0_2 b0_3 z0_4 n0_5 n0_6 n0_7 n0_8 a0_9 xs0_9 cap0_9 a0_10 xs0_10 cap0_10 n1_0 n1_1 n1_2 a1_3 xs1_3 cap1_3 W hn0_0 hn0_1 lo0_4 hi0_4 hn0_5 hn0_6 hn0_7 hn0_8 hbt0_9 hcap0_9 hlc0_9 hre0_9 hbt0_10 hcap0_10 hlc0_10 hre0_10 hn1_0 hn1_1 hn1_2 hbt1_3 hcap1_3 hlc1_3 hre1_3).mono fun e W' ⟨he, bel⟩ => ?_
  subst he
  exact ⟨_, rfl, _, _, _, [], _, [], hW', trodAll_mk1 (shut_bool Try.underlying4 _), (trodAll_cons_mk (Below.trod laidOut (by kernel_rfl) (of_decide_eq_true (by kernel_rfl)) k0 bel lt0) (trodAll_cons_mk (Below.trod laidOut (by kernel_rfl) (of_decide_eq_true (by kernel_rfl)) k1 bel lt1) trodAll_mk0)), rfl, bel.frame _, fun h => by cases h⟩

theorem over : Rows.ipwireOwnRow.holds Try.pinned (OpenSpec.ofChange Rows.ipwireOwnSpec) :=
  OpenClaim.holds_of_wide 9 Try.f9 rfl rfl rfl rfl rfl rfl rfl ⟨rfl, rfl, rfl, rfl, rfl⟩ rfl rfl rfl rfl rfl (by kernel_rfl) Try.func9 (by kernel_rfl)
    (of_decide_eq_true (by kernel_rfl)) (by unfold Func.isWrapper; first | (rw [if_pos (by decide +kernel)]; kernel_rfl) | (rw [if_neg (by decide +kernel)]; exact ⟨rfl, rfl⟩))
    (fun os started H enc _ => lifted os started H enc)

end Go.Proofs.Ytdiomelldhkibaa.ipwireOwn
namespace Go.Proofs.Ytdiomelldhkibaa
/-- The statement. -/
theorem ipwireOwn_holds : Rows.IpwireOwnSaid := ipwireOwn.over
#print axioms ipwireOwn_holds
end Go.Proofs.Ytdiomelldhkibaa
