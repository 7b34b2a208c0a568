/- For every frame, every ARP and every list of octets: the octets that Build and BuildArp write, and what Parse and ParseArp read, are as the document's own answers; what is handed in stays. No condition. -/
import Derived.Test.YtdiomelldhkibaaRows
import Derived.Test.YtdiomelldhkibaaAlive3
import Derived.Test.YtdiomelldhkibaaGSpoil
import Derived.Test.YtdiomelldhkibaaGSameEther
import Derived.Test.YtdiomelldhkibaaGStruct
import Derived.ProofKit
import Derived.OpenShut
import Derived.ShutString
import Derived.ChangeOld
import Derived.SizedLaws
namespace Go.Proofs.Ytdiomelldhkibaa.etherTells
open Go.ChangeShapes Go.WideShapes Go.ChangeAt Go.RowKit Go.Proofs.Ytdiomelldhkibaa.law3
open Go.ChangeMaps (open_string shut_string)

set_option maxRecDepth 100000 in
set_option maxHeartbeats 4000000 in
theorem walk (d s : Nat) (t : Int) (ad : Option Addr) (ds : List Nat) (dcap : Nat) (op : Int) (m1 i1 m2 i2 : Nat) (ab : Option Addr) (bs : List Nat) (bcap : Nat) (w : World)
    (_ : d < 18446744073709551616) (_ : s < 18446744073709551616) (_ : -9223372036854775808 ≤ t) (_ : t ≤ 9223372036854775807) (hx : Bts w ad ds) (hdc : ad = none → dcap = 0) (_ : ds.length ≤ dcap ∧ dcap ≤ maxLen) (hl10 : ds.length ≤ 140737488351232)
    (_ : -9223372036854775808 ≤ op) (_ : op ≤ 9223372036854775807) (_ : m1 < 18446744073709551616) (hi1 : i1 < 4294967296) (_ : m2 < 18446744073709551616) (hi2 : i2 < 4294967296)
    (hb : Bts w ab bs) (hbc : ab = none → bcap = 0) (hbl : bs.length ≤ bcap ∧ bcap ≤ maxLen) (hl20 : bs.length ≤ 140737488351232) :
    Calls Try.prog 3 #[.agg #[.int .u64 d, .int .u64 s, .int .i64 t, .slice ad ds.length dcap], .agg #[.int .i64 op, .int .u64 m1, .int .u32 i1, .int .u64 m2, .int .u32 i2], .slice ab bs.length bcap] w fun e w' => e = .returned (.bool true) ∧ Below w.heap.size w w' := by
  have hl1 : ds.length ≤ 140737488355328 := by omega
  have hl2 : bs.length ≤ 140737488355328 := by omega
  have hlR : (ethBR d s t ds).length ≤ 140737488355328 := by
    unfold ethBR; split
    · rw [eth_len]; omega
    · simp
  have hlS : (arpBR op m1 i1 m2 i2).length ≤ 140737488355328 := by
    unfold arpBR; split
    · simp [arpO, arpHead, Mt.octs_length]
    · simp
  have hlT : (ethPds bs).length ≤ 140737488355328 := by
    unfold ethPds; split
    · rw [List.length_drop]; omega
    · simp
  have q_0 := Below.refl w.heap.size w
  have B_0 := Lib.hid (hb)
  have D_0 := Lib.hid (hx)
  clear hb hx
  have HD := Lib.hid hdc
  have HB := Lib.hid hbc
  have HL := Lib.hid hbl
  clear hdc hbc hbl
  go_enter Try.func3, Try.ntmps3
  go_wp2_with fail
  have b : Below w.heap.size w ((w.alloc (.cells #[.int .u64 d, .int .u64 s, .int .i64 t, .slice ad ds.length dcap] 25)).alloc (.cells #[.int .i64 op, .int .u64 m1, .int .u32 i1, .int .u64 m2, .int .u32 i2] 28)) := (((Below.refl _ w).alloc (Nat.le_refl _) (.cells #[.int .u64 d, .int .u64 s, .int .i64 t, .slice ad ds.length dcap] 25)).alloc (by simp only [World.size_alloc]; omega) (.cells #[.int .i64 op, .int .u64 m1, .int .u32 i1, .int .u64 m2, .int .u32 i2] 28))
  have nb0 := blk_new w (.cells #[.int .u64 d, .int .u64 s, .int .i64 t, .slice ad ds.length dcap] 25)
  have nb0 := (Below.heap_alloc (w.alloc (.cells #[.int .u64 d, .int .u64 s, .int .i64 t, .slice ad ds.length dcap] 25)) (.cells #[.int .i64 op, .int .u64 m1, .int .u32 i1, .int .u64 m2, .int .u32 i2] 28) (w.heap.size) (by simp only [World.size_alloc]; omega)).trans nb0
  have nz0 : w.heap.size < ((w.alloc (.cells #[.int .u64 d, .int .u64 s, .int .i64 t, .slice ad ds.length dcap] 25)).alloc (.cells #[.int .i64 op, .int .u64 m1, .int .u32 i1, .int .u64 m2, .int .u32 i2] 28)).heap.size := by simp only [World.size_alloc]; omega
  have nb1 := blk_new (w.alloc (.cells #[.int .u64 d, .int .u64 s, .int .i64 t, .slice ad ds.length dcap] 25)) (.cells #[.int .i64 op, .int .u64 m1, .int .u32 i1, .int .u64 m2, .int .u32 i2] 28)
  simp only [World.size_alloc] at nb1
  have nz1 : w.heap.size + 1 < ((w.alloc (.cells #[.int .u64 d, .int .u64 s, .int .i64 t, .slice ad ds.length dcap] 25)).alloc (.cells #[.int .i64 op, .int .u64 m1, .int .u32 i1, .int .u64 m2, .int .u32 i2] 28)).heap.size := by simp only [World.size_alloc]; omega
  have B_1 := Lib.hid (B_0.out.below b)
  have D_1 := Lib.hid (D_0.out.below b)
  have q_1 := q_0.trans (b.mono q_0.size)
  clear B_0 D_0 q_0
  clear b
  have K_1 := Lib.hid nb0
  have Kz_1 := nz0
  clear nb0 nz0
  have Kc0_1 := blk_cell K_1.out 0
  have Kc1_1 := blk_cell K_1.out 1
  have Kc2_1 := blk_cell K_1.out 2
  have Kc3_1 := blk_cell K_1.out 3
  have J_1 := Lib.hid nb1
  have Jz_1 := nz1
  clear nb1 nz1
  have Jc0_1 := blk_cell J_1.out 0
  have Jc1_1 := blk_cell J_1.out 1
  have Jc2_1 := blk_cell J_1.out 2
  have Jc3_1 := blk_cell J_1.out 3
  have Jc4_1 := blk_cell J_1.out 4
  generalize ((w.alloc (.cells #[.int .u64 d, .int .u64 s, .int .i64 t, .slice ad ds.length dcap] 25)).alloc (.cells #[.int .i64 op, .int .u64 m1, .int .u32 i1, .int .u64 m2, .int .u32 i2] 28)) = V1 at q_1 B_1 D_1 K_1 Kz_1 Kc0_1 Kc1_1 Kc2_1 Kc3_1 J_1 Jz_1 Jc0_1 Jc1_1 Jc2_1 Jc3_1 Jc4_1 ⊢
  have B_2 := Lib.hid (B_1.out.below ((Below.refl V1.heap.size V1).drew))
  have D_2 := Lib.hid (D_1.out.below ((Below.refl V1.heap.size V1).drew))
  have K_2 := Lib.hid ((((Below.refl V1.heap.size V1).drew).block _ Kz_1).trans K_1.out)
  have Kz_2 := Nat.lt_of_lt_of_le Kz_1 ((Below.refl V1.heap.size V1).drew).size
  have Kc0_2 := blk_cell K_2.out 0
  have Kc1_2 := blk_cell K_2.out 1
  have Kc2_2 := blk_cell K_2.out 2
  have Kc3_2 := blk_cell K_2.out 3
  have J_2 := Lib.hid ((((Below.refl V1.heap.size V1).drew).block _ Jz_1).trans J_1.out)
  have Jz_2 := Nat.lt_of_lt_of_le Jz_1 ((Below.refl V1.heap.size V1).drew).size
  have Jc0_2 := blk_cell J_2.out 0
  have Jc1_2 := blk_cell J_2.out 1
  have Jc2_2 := blk_cell J_2.out 2
  have Jc3_2 := blk_cell J_2.out 3
  have Jc4_2 := blk_cell J_2.out 4
  have q_2 := q_1.trans (((Below.refl V1.heap.size V1).drew).mono q_1.size)
  clear B_1 D_1 K_1 Kz_1 Kc0_1 Kc1_1 Kc2_1 Kc3_1 J_1 Jz_1 Jc0_1 Jc1_1 Jc2_1 Jc3_1 Jc4_1 q_1
  go_region_held3 (fun W => W.cell? ⟨w.heap.size, 3, none⟩ = some (.slice ad ds.length dcap)) (first | go_keep) (first
    | (go_at_call 16; (with_reducible refine (copy_one ab bs bcap _ B_2.out hl2 HB.out).mono ?_); rintro e V2 ⟨oa, oc, rfl, O, b⟩; have B_3 := Lib.hid (B_2.out.below b); have D_3 := Lib.hid (D_2.out.below b); have K_3 := Lib.hid ((b.block _ Kz_2).trans K_2.out); have Kz_3 := Nat.lt_of_lt_of_le Kz_2 b.size; have Kc0_3 := blk_cell K_3.out 0; have Kc1_3 := blk_cell K_3.out 1; have Kc2_3 := blk_cell K_3.out 2; have Kc3_3 := blk_cell K_3.out 3; have J_3 := Lib.hid ((b.block _ Jz_2).trans J_2.out); have Jz_3 := Nat.lt_of_lt_of_le Jz_2 b.size; have Jc0_3 := blk_cell J_3.out 0; have Jc1_3 := blk_cell J_3.out 1; have Jc2_3 := blk_cell J_3.out 2; have Jc3_3 := blk_cell J_3.out 3; have Jc4_3 := blk_cell J_3.out 4; have q_3 := q_2.trans (b.mono q_2.size); clear B_2 D_2 K_2 Kz_2 Kc0_2 Kc1_2 Kc2_2 Kc3_2 J_2 Jz_2 Jc0_2 Jc1_2 Jc2_2 Jc3_2 Jc4_2 q_2; have O_3 := Lib.hid (O); clear b)
    | (go_at_call 16; (with_reducible refine (copy_one ad ds dcap _ D_3.out hl1 HD.out).mono ?_); rintro e V3 ⟨ia, ic, rfl, I, b⟩; have B_4 := Lib.hid (B_3.out.below b); have D_4 := Lib.hid (D_3.out.below b); have K_4 := Lib.hid ((b.block _ Kz_3).trans K_3.out); have Kz_4 := Nat.lt_of_lt_of_le Kz_3 b.size; have Kc0_4 := blk_cell K_4.out 0; have Kc1_4 := blk_cell K_4.out 1; have Kc2_4 := blk_cell K_4.out 2; have Kc3_4 := blk_cell K_4.out 3; have J_4 := Lib.hid ((b.block _ Jz_3).trans J_3.out); have Jz_4 := Nat.lt_of_lt_of_le Jz_3 b.size; have Jc0_4 := blk_cell J_4.out 0; have Jc1_4 := blk_cell J_4.out 1; have Jc2_4 := blk_cell J_4.out 2; have Jc3_4 := blk_cell J_4.out 3; have Jc4_4 := blk_cell J_4.out 4; have O_4 := Lib.hid (O_3.out.below b); have q_4 := q_3.trans (b.mono q_3.size); clear B_3 D_3 K_3 Kz_3 Kc0_3 Kc1_3 Kc2_3 Kc3_3 J_3 Jz_3 Jc0_3 Jc1_3 Jc2_3 Jc3_3 Jc4_3 O_3 q_3; have I_4 := Lib.hid (I); clear b))
  clear O I
  have oc1 := O_4.out.capLe
  go_wp2_with fail
  refine (ethB_all d s t ia ds ic _ I_4.out.bts).mono ?_
  rintro e V4 ⟨pa, pc, rfl, P, b⟩
  have B_5 := Lib.hid (B_4.out.below b)
  have D_5 := Lib.hid (D_4.out.below b)
  have K_5 := Lib.hid ((b.block _ Kz_4).trans K_4.out)
  have Kz_5 := Nat.lt_of_lt_of_le Kz_4 b.size
  have Kc0_5 := blk_cell K_5.out 0
  have Kc1_5 := blk_cell K_5.out 1
  have Kc2_5 := blk_cell K_5.out 2
  have Kc3_5 := blk_cell K_5.out 3
  have J_5 := Lib.hid ((b.block _ Jz_4).trans J_4.out)
  have Jz_5 := Nat.lt_of_lt_of_le Jz_4 b.size
  have Jc0_5 := blk_cell J_5.out 0
  have Jc1_5 := blk_cell J_5.out 1
  have Jc2_5 := blk_cell J_5.out 2
  have Jc3_5 := blk_cell J_5.out 3
  have Jc4_5 := blk_cell J_5.out 4
  have O_5 := Lib.hid (O_4.out.below b)
  have I_5 := Lib.hid (I_4.out.below b)
  have q_5 := q_4.trans (b.mono q_4.size)
  clear B_4 D_4 K_4 Kz_4 Kc0_4 Kc1_4 Kc2_4 Kc3_4 J_4 Jz_4 Jc0_4 Jc1_4 Jc2_4 Jc3_4 Jc4_4 O_4 I_4 q_4
  have P_5 := Lib.hid (P)
  clear b
  clear P
  go_wp2_with fail
  refine (refethB_all d s t ad ds dcap _ D_5.out HD.out).mono ?_
  rintro e V5 ⟨qa, qc, rfl, P, b⟩
  have B_6 := Lib.hid (B_5.out.below b)
  have D_6 := Lib.hid (D_5.out.below b)
  have K_6 := Lib.hid ((b.block _ Kz_5).trans K_5.out)
  have Kz_6 := Nat.lt_of_lt_of_le Kz_5 b.size
  have Kc0_6 := blk_cell K_6.out 0
  have Kc1_6 := blk_cell K_6.out 1
  have Kc2_6 := blk_cell K_6.out 2
  have Kc3_6 := blk_cell K_6.out 3
  have J_6 := Lib.hid ((b.block _ Jz_5).trans J_5.out)
  have Jz_6 := Nat.lt_of_lt_of_le Jz_5 b.size
  have Jc0_6 := blk_cell J_6.out 0
  have Jc1_6 := blk_cell J_6.out 1
  have Jc2_6 := blk_cell J_6.out 2
  have Jc3_6 := blk_cell J_6.out 3
  have Jc4_6 := blk_cell J_6.out 4
  have O_6 := Lib.hid (O_5.out.below b)
  have I_6 := Lib.hid (I_5.out.below b)
  have P_6 := Lib.hid (P_5.out.below b)
  have q_6 := q_5.trans (b.mono q_5.size)
  clear B_5 D_5 K_5 Kz_5 Kc0_5 Kc1_5 Kc2_5 Kc3_5 J_5 Jz_5 Jc0_5 Jc1_5 Jc2_5 Jc3_5 Jc4_5 O_5 I_5 P_5 q_5
  have Q_6 := Lib.hid (P)
  clear b
  clear P
  go_wp2_with fail
  refine (arpB_all op m1 i1 m2 i2 _ hi1 hi2).mono ?_
  rintro e V6 ⟨ra, rc, rfl, P, b⟩
  have B_7 := Lib.hid (B_6.out.below b)
  have D_7 := Lib.hid (D_6.out.below b)
  have K_7 := Lib.hid ((b.block _ Kz_6).trans K_6.out)
  have Kz_7 := Nat.lt_of_lt_of_le Kz_6 b.size
  have Kc0_7 := blk_cell K_7.out 0
  have Kc1_7 := blk_cell K_7.out 1
  have Kc2_7 := blk_cell K_7.out 2
  have Kc3_7 := blk_cell K_7.out 3
  have J_7 := Lib.hid ((b.block _ Jz_6).trans J_6.out)
  have Jz_7 := Nat.lt_of_lt_of_le Jz_6 b.size
  have Jc0_7 := blk_cell J_7.out 0
  have Jc1_7 := blk_cell J_7.out 1
  have Jc2_7 := blk_cell J_7.out 2
  have Jc3_7 := blk_cell J_7.out 3
  have Jc4_7 := blk_cell J_7.out 4
  have O_7 := Lib.hid (O_6.out.below b)
  have I_7 := Lib.hid (I_6.out.below b)
  have P_7 := Lib.hid (P_6.out.below b)
  have Q_7 := Lib.hid (Q_6.out.below b)
  have q_7 := q_6.trans (b.mono q_6.size)
  clear B_6 D_6 K_6 Kz_6 Kc0_6 Kc1_6 Kc2_6 Kc3_6 J_6 Jz_6 Jc0_6 Jc1_6 Jc2_6 Jc3_6 Jc4_6 O_6 I_6 P_6 Q_6 q_6
  have R_7 := Lib.hid (P)
  clear b
  clear P
  go_wp2_with fail
  refine (refarpB_all op m1 i1 m2 i2 _ hi1 hi2).mono ?_
  rintro e V7 ⟨sa, sc, rfl, P, b⟩
  have B_8 := Lib.hid (B_7.out.below b)
  have D_8 := Lib.hid (D_7.out.below b)
  have K_8 := Lib.hid ((b.block _ Kz_7).trans K_7.out)
  have Kz_8 := Nat.lt_of_lt_of_le Kz_7 b.size
  have Kc0_8 := blk_cell K_8.out 0
  have Kc1_8 := blk_cell K_8.out 1
  have Kc2_8 := blk_cell K_8.out 2
  have Kc3_8 := blk_cell K_8.out 3
  have O_8 := Lib.hid (O_7.out.below b)
  have I_8 := Lib.hid (I_7.out.below b)
  have P_8 := Lib.hid (P_7.out.below b)
  have Q_8 := Lib.hid (Q_7.out.below b)
  have R_8 := Lib.hid (R_7.out.below b)
  have q_8 := q_7.trans (b.mono q_7.size)
  clear B_7 D_7 K_7 Kz_7 Kc0_7 Kc1_7 Kc2_7 Kc3_7 J_7 Jz_7 Jc0_7 Jc1_7 Jc2_7 Jc3_7 Jc4_7 O_7 I_7 P_7 Q_7 R_7 q_7
  have S_8 := Lib.hid (P)
  clear b
  clear P
  go_wp2_with fail
  refine (ethP_all oa bs oc _ O_8.out.bts oc1.1 oc1.2 hl2).mono ?_
  rintro e V8 ⟨ta, tc, rfl, P, b⟩
  have B_9 := Lib.hid (B_8.out.below b)
  have D_9 := Lib.hid (D_8.out.below b)
  have K_9 := Lib.hid ((b.block _ Kz_8).trans K_8.out)
  have Kz_9 := Nat.lt_of_lt_of_le Kz_8 b.size
  have Kc0_9 := blk_cell K_9.out 0
  have Kc1_9 := blk_cell K_9.out 1
  have Kc2_9 := blk_cell K_9.out 2
  have Kc3_9 := blk_cell K_9.out 3
  have O_9 := Lib.hid (O_8.out.below b)
  have I_9 := Lib.hid (I_8.out.below b)
  have P_9 := Lib.hid (P_8.out.below b)
  have Q_9 := Lib.hid (Q_8.out.below b)
  have R_9 := Lib.hid (R_8.out.below b)
  have S_9 := Lib.hid (S_8.out.below b)
  have q_9 := q_8.trans (b.mono q_8.size)
  clear B_8 D_8 K_8 Kz_8 Kc0_8 Kc1_8 Kc2_8 Kc3_8 O_8 I_8 P_8 Q_8 R_8 S_8 q_8
  have T_9 := Lib.hid (P)
  clear b
  clear P
  go_wp2_with fail
  have b : Below V8.heap.size V8 (V8.alloc (.cells #[.int .u64 (ethPD bs : Nat), .int .u64 (ethPS bs : Nat), .int .i64 (ethPT bs : Nat), .slice ta (ethPds bs).length tc] 25)) := ((Below.refl _ V8).alloc (Nat.le_refl _) (.cells #[.int .u64 (ethPD bs : Nat), .int .u64 (ethPS bs : Nat), .int .i64 (ethPT bs : Nat), .slice ta (ethPds bs).length tc] 25))
  have nb0 := blk_new V8 (.cells #[.int .u64 (ethPD bs : Nat), .int .u64 (ethPS bs : Nat), .int .i64 (ethPT bs : Nat), .slice ta (ethPds bs).length tc] 25)
  have nz0 : V8.heap.size < (V8.alloc (.cells #[.int .u64 (ethPD bs : Nat), .int .u64 (ethPS bs : Nat), .int .i64 (ethPT bs : Nat), .slice ta (ethPds bs).length tc] 25)).heap.size := by simp only [World.size_alloc]; omega
  have B_10 := Lib.hid (B_9.out.below b)
  have D_10 := Lib.hid (D_9.out.below b)
  have K_10 := Lib.hid ((b.block _ Kz_9).trans K_9.out)
  have Kz_10 := Nat.lt_of_lt_of_le Kz_9 b.size
  have Kc0_10 := blk_cell K_10.out 0
  have Kc1_10 := blk_cell K_10.out 1
  have Kc2_10 := blk_cell K_10.out 2
  have Kc3_10 := blk_cell K_10.out 3
  have O_10 := Lib.hid (O_9.out.below b)
  have I_10 := Lib.hid (I_9.out.below b)
  have P_10 := Lib.hid (P_9.out.below b)
  have Q_10 := Lib.hid (Q_9.out.below b)
  have R_10 := Lib.hid (R_9.out.below b)
  have S_10 := Lib.hid (S_9.out.below b)
  have T_10 := Lib.hid (T_9.out.below b)
  have q_10 := q_9.trans (b.mono q_9.size)
  clear B_9 D_9 K_9 Kz_9 Kc0_9 Kc1_9 Kc2_9 Kc3_9 O_9 I_9 P_9 Q_9 R_9 S_9 T_9 q_9
  clear b
  have TB_10 := Lib.hid nb0
  have TBz_10 := nz0
  clear nb0 nz0
  have TBc0_10 := blk_cell TB_10.out 0
  have TBc1_10 := blk_cell TB_10.out 1
  have TBc2_10 := blk_cell TB_10.out 2
  have TBc3_10 := blk_cell TB_10.out 3
  generalize (V8.alloc (.cells #[.int .u64 (ethPD bs : Nat), .int .u64 (ethPS bs : Nat), .int .i64 (ethPT bs : Nat), .slice ta (ethPds bs).length tc] 25)) = V9 at q_10 B_10 D_10 K_10 Kz_10 Kc0_10 Kc1_10 Kc2_10 Kc3_10 O_10 I_10 P_10 Q_10 R_10 S_10 T_10 TB_10 TBz_10 TBc0_10 TBc1_10 TBc2_10 TBc3_10 ⊢
  refine (refethP_all ab bs bcap _ B_10.out HL.out.1 HL.out.2 hl2).mono ?_
  rintro e V10 ⟨ua, uc, rfl, P, b⟩
  have B_11 := Lib.hid (B_10.out.below b)
  have D_11 := Lib.hid (D_10.out.below b)
  have K_11 := Lib.hid ((b.block _ Kz_10).trans K_10.out)
  have Kz_11 := Nat.lt_of_lt_of_le Kz_10 b.size
  have Kc0_11 := blk_cell K_11.out 0
  have Kc1_11 := blk_cell K_11.out 1
  have Kc2_11 := blk_cell K_11.out 2
  have Kc3_11 := blk_cell K_11.out 3
  have O_11 := Lib.hid (O_10.out.below b)
  have I_11 := Lib.hid (I_10.out.below b)
  have P_11 := Lib.hid (P_10.out.below b)
  have Q_11 := Lib.hid (Q_10.out.below b)
  have R_11 := Lib.hid (R_10.out.below b)
  have S_11 := Lib.hid (S_10.out.below b)
  have T_11 := Lib.hid (T_10.out.below b)
  have TB_11 := Lib.hid ((b.block _ TBz_10).trans TB_10.out)
  have TBz_11 := Nat.lt_of_lt_of_le TBz_10 b.size
  have TBc0_11 := blk_cell TB_11.out 0
  have TBc1_11 := blk_cell TB_11.out 1
  have TBc2_11 := blk_cell TB_11.out 2
  have TBc3_11 := blk_cell TB_11.out 3
  have q_11 := q_10.trans (b.mono q_10.size)
  clear B_10 D_10 K_10 Kz_10 Kc0_10 Kc1_10 Kc2_10 Kc3_10 O_10 I_10 P_10 Q_10 R_10 S_10 T_10 TB_10 TBz_10 TBc0_10 TBc1_10 TBc2_10 TBc3_10 q_10
  have U_11 := Lib.hid (P)
  clear b
  clear P
  go_wp2_with fail
  have b : Below V10.heap.size V10 (V10.alloc (.cells #[.int .u64 (ethPD bs : Nat), .int .u64 (ethPS bs : Nat), .int .i64 (ethPT bs : Nat), .slice ua (ethPds bs).length uc] 25)) := ((Below.refl _ V10).alloc (Nat.le_refl _) (.cells #[.int .u64 (ethPD bs : Nat), .int .u64 (ethPS bs : Nat), .int .i64 (ethPT bs : Nat), .slice ua (ethPds bs).length uc] 25))
  have nb0 := blk_new V10 (.cells #[.int .u64 (ethPD bs : Nat), .int .u64 (ethPS bs : Nat), .int .i64 (ethPT bs : Nat), .slice ua (ethPds bs).length uc] 25)
  have nz0 : V10.heap.size < (V10.alloc (.cells #[.int .u64 (ethPD bs : Nat), .int .u64 (ethPS bs : Nat), .int .i64 (ethPT bs : Nat), .slice ua (ethPds bs).length uc] 25)).heap.size := by simp only [World.size_alloc]; omega
  have B_12 := Lib.hid (B_11.out.below b)
  have D_12 := Lib.hid (D_11.out.below b)
  have K_12 := Lib.hid ((b.block _ Kz_11).trans K_11.out)
  have Kz_12 := Nat.lt_of_lt_of_le Kz_11 b.size
  have Kc0_12 := blk_cell K_12.out 0
  have Kc1_12 := blk_cell K_12.out 1
  have Kc2_12 := blk_cell K_12.out 2
  have Kc3_12 := blk_cell K_12.out 3
  have O_12 := Lib.hid (O_11.out.below b)
  have I_12 := Lib.hid (I_11.out.below b)
  have P_12 := Lib.hid (P_11.out.below b)
  have Q_12 := Lib.hid (Q_11.out.below b)
  have R_12 := Lib.hid (R_11.out.below b)
  have S_12 := Lib.hid (S_11.out.below b)
  have T_12 := Lib.hid (T_11.out.below b)
  have TB_12 := Lib.hid ((b.block _ TBz_11).trans TB_11.out)
  have TBz_12 := Nat.lt_of_lt_of_le TBz_11 b.size
  have TBc0_12 := blk_cell TB_12.out 0
  have TBc1_12 := blk_cell TB_12.out 1
  have TBc2_12 := blk_cell TB_12.out 2
  have TBc3_12 := blk_cell TB_12.out 3
  have U_12 := Lib.hid (U_11.out.below b)
  have q_12 := q_11.trans (b.mono q_11.size)
  clear B_11 D_11 K_11 Kz_11 Kc0_11 Kc1_11 Kc2_11 Kc3_11 O_11 I_11 P_11 Q_11 R_11 S_11 T_11 TB_11 TBz_11 TBc0_11 TBc1_11 TBc2_11 TBc3_11 U_11 q_11
  clear b
  have UB_12 := Lib.hid nb0
  have UBz_12 := nz0
  clear nb0 nz0
  have UBc0_12 := blk_cell UB_12.out 0
  have UBc1_12 := blk_cell UB_12.out 1
  have UBc2_12 := blk_cell UB_12.out 2
  have UBc3_12 := blk_cell UB_12.out 3
  generalize (V10.alloc (.cells #[.int .u64 (ethPD bs : Nat), .int .u64 (ethPS bs : Nat), .int .i64 (ethPT bs : Nat), .slice ua (ethPds bs).length uc] 25)) = V11 at q_12 B_12 D_12 K_12 Kz_12 Kc0_12 Kc1_12 Kc2_12 Kc3_12 O_12 I_12 P_12 Q_12 R_12 S_12 T_12 TB_12 TBz_12 TBc0_12 TBc1_12 TBc2_12 TBc3_12 U_12 UB_12 UBz_12 UBc0_12 UBc1_12 UBc2_12 UBc3_12 ⊢
  refine (arpP_all oa bs oc _ O_12.out.bts oc1.1 oc1.2 hl2).mono ?_
  rintro e V12 ⟨rfl, b⟩
  have B_13 := Lib.hid (B_12.out.below b)
  have D_13 := Lib.hid (D_12.out.below b)
  have K_13 := Lib.hid ((b.block _ Kz_12).trans K_12.out)
  have Kz_13 := Nat.lt_of_lt_of_le Kz_12 b.size
  have Kc0_13 := blk_cell K_13.out 0
  have Kc1_13 := blk_cell K_13.out 1
  have Kc2_13 := blk_cell K_13.out 2
  have Kc3_13 := blk_cell K_13.out 3
  have O_13 := Lib.hid (O_12.out.below b)
  have I_13 := Lib.hid (I_12.out.below b)
  have P_13 := Lib.hid (P_12.out.below b)
  have Q_13 := Lib.hid (Q_12.out.below b)
  have R_13 := Lib.hid (R_12.out.below b)
  have S_13 := Lib.hid (S_12.out.below b)
  have T_13 := Lib.hid (T_12.out.below b)
  have TB_13 := Lib.hid ((b.block _ TBz_12).trans TB_12.out)
  have TBz_13 := Nat.lt_of_lt_of_le TBz_12 b.size
  have TBc0_13 := blk_cell TB_13.out 0
  have TBc1_13 := blk_cell TB_13.out 1
  have TBc2_13 := blk_cell TB_13.out 2
  have TBc3_13 := blk_cell TB_13.out 3
  have U_13 := Lib.hid (U_12.out.below b)
  have UB_13 := Lib.hid ((b.block _ UBz_12).trans UB_12.out)
  have UBz_13 := Nat.lt_of_lt_of_le UBz_12 b.size
  have UBc0_13 := blk_cell UB_13.out 0
  have UBc1_13 := blk_cell UB_13.out 1
  have UBc2_13 := blk_cell UB_13.out 2
  have UBc3_13 := blk_cell UB_13.out 3
  have q_13 := q_12.trans (b.mono q_12.size)
  clear B_12 D_12 K_12 Kz_12 Kc0_12 Kc1_12 Kc2_12 Kc3_12 O_12 I_12 P_12 Q_12 R_12 S_12 T_12 TB_12 TBz_12 TBc0_12 TBc1_12 TBc2_12 TBc3_12 U_12 UB_12 UBz_12 UBc0_12 UBc1_12 UBc2_12 UBc3_12 q_12
  clear b
  go_wp2_with fail
  have b : Below V12.heap.size V12 (V12.alloc (.cells #[.int .i64 (arpPop bs : Nat), .int .u64 (arpP1 bs : Nat), .int .u32 (arpP2 bs : Nat), .int .u64 (arpP3 bs : Nat), .int .u32 (arpP4 bs : Nat)] 28)) := ((Below.refl _ V12).alloc (Nat.le_refl _) (.cells #[.int .i64 (arpPop bs : Nat), .int .u64 (arpP1 bs : Nat), .int .u32 (arpP2 bs : Nat), .int .u64 (arpP3 bs : Nat), .int .u32 (arpP4 bs : Nat)] 28))
  have nb0 := blk_new V12 (.cells #[.int .i64 (arpPop bs : Nat), .int .u64 (arpP1 bs : Nat), .int .u32 (arpP2 bs : Nat), .int .u64 (arpP3 bs : Nat), .int .u32 (arpP4 bs : Nat)] 28)
  have nz0 : V12.heap.size < (V12.alloc (.cells #[.int .i64 (arpPop bs : Nat), .int .u64 (arpP1 bs : Nat), .int .u32 (arpP2 bs : Nat), .int .u64 (arpP3 bs : Nat), .int .u32 (arpP4 bs : Nat)] 28)).heap.size := by simp only [World.size_alloc]; omega
  have B_14 := Lib.hid (B_13.out.below b)
  have D_14 := Lib.hid (D_13.out.below b)
  have K_14 := Lib.hid ((b.block _ Kz_13).trans K_13.out)
  have Kz_14 := Nat.lt_of_lt_of_le Kz_13 b.size
  have Kc0_14 := blk_cell K_14.out 0
  have Kc1_14 := blk_cell K_14.out 1
  have Kc2_14 := blk_cell K_14.out 2
  have Kc3_14 := blk_cell K_14.out 3
  have O_14 := Lib.hid (O_13.out.below b)
  have I_14 := Lib.hid (I_13.out.below b)
  have P_14 := Lib.hid (P_13.out.below b)
  have Q_14 := Lib.hid (Q_13.out.below b)
  have R_14 := Lib.hid (R_13.out.below b)
  have S_14 := Lib.hid (S_13.out.below b)
  have T_14 := Lib.hid (T_13.out.below b)
  have TB_14 := Lib.hid ((b.block _ TBz_13).trans TB_13.out)
  have TBz_14 := Nat.lt_of_lt_of_le TBz_13 b.size
  have TBc0_14 := blk_cell TB_14.out 0
  have TBc1_14 := blk_cell TB_14.out 1
  have TBc2_14 := blk_cell TB_14.out 2
  have TBc3_14 := blk_cell TB_14.out 3
  have U_14 := Lib.hid (U_13.out.below b)
  have UB_14 := Lib.hid ((b.block _ UBz_13).trans UB_13.out)
  have UBz_14 := Nat.lt_of_lt_of_le UBz_13 b.size
  have UBc0_14 := blk_cell UB_14.out 0
  have UBc1_14 := blk_cell UB_14.out 1
  have UBc2_14 := blk_cell UB_14.out 2
  have UBc3_14 := blk_cell UB_14.out 3
  have q_14 := q_13.trans (b.mono q_13.size)
  clear B_13 D_13 K_13 Kz_13 Kc0_13 Kc1_13 Kc2_13 Kc3_13 O_13 I_13 P_13 Q_13 R_13 S_13 T_13 TB_13 TBz_13 TBc0_13 TBc1_13 TBc2_13 TBc3_13 U_13 UB_13 UBz_13 UBc0_13 UBc1_13 UBc2_13 UBc3_13 q_13
  clear b
  have VA_14 := Lib.hid nb0
  have VAz_14 := nz0
  clear nb0 nz0
  have VAc0_14 := blk_cell VA_14.out 0
  have VAc1_14 := blk_cell VA_14.out 1
  have VAc2_14 := blk_cell VA_14.out 2
  have VAc3_14 := blk_cell VA_14.out 3
  have VAc4_14 := blk_cell VA_14.out 4
  generalize (V12.alloc (.cells #[.int .i64 (arpPop bs : Nat), .int .u64 (arpP1 bs : Nat), .int .u32 (arpP2 bs : Nat), .int .u64 (arpP3 bs : Nat), .int .u32 (arpP4 bs : Nat)] 28)) = V13 at q_14 B_14 D_14 K_14 Kz_14 Kc0_14 Kc1_14 Kc2_14 Kc3_14 O_14 I_14 P_14 Q_14 R_14 S_14 T_14 TB_14 TBz_14 TBc0_14 TBc1_14 TBc2_14 TBc3_14 U_14 UB_14 UBz_14 UBc0_14 UBc1_14 UBc2_14 UBc3_14 VA_14 VAz_14 VAc0_14 VAc1_14 VAc2_14 VAc3_14 VAc4_14 ⊢
  refine (refarpP_all ab bs bcap _ B_14.out HL.out.1 HL.out.2 hl2).mono ?_
  rintro e V14 ⟨rfl, b⟩
  have B_15 := Lib.hid (B_14.out.below b)
  have D_15 := Lib.hid (D_14.out.below b)
  have K_15 := Lib.hid ((b.block _ Kz_14).trans K_14.out)
  have Kz_15 := Nat.lt_of_lt_of_le Kz_14 b.size
  have Kc0_15 := blk_cell K_15.out 0
  have Kc1_15 := blk_cell K_15.out 1
  have Kc2_15 := blk_cell K_15.out 2
  have Kc3_15 := blk_cell K_15.out 3
  have O_15 := Lib.hid (O_14.out.below b)
  have I_15 := Lib.hid (I_14.out.below b)
  have P_15 := Lib.hid (P_14.out.below b)
  have Q_15 := Lib.hid (Q_14.out.below b)
  have R_15 := Lib.hid (R_14.out.below b)
  have S_15 := Lib.hid (S_14.out.below b)
  have T_15 := Lib.hid (T_14.out.below b)
  have TB_15 := Lib.hid ((b.block _ TBz_14).trans TB_14.out)
  have TBz_15 := Nat.lt_of_lt_of_le TBz_14 b.size
  have TBc0_15 := blk_cell TB_15.out 0
  have TBc1_15 := blk_cell TB_15.out 1
  have TBc2_15 := blk_cell TB_15.out 2
  have TBc3_15 := blk_cell TB_15.out 3
  have U_15 := Lib.hid (U_14.out.below b)
  have UB_15 := Lib.hid ((b.block _ UBz_14).trans UB_14.out)
  have UBz_15 := Nat.lt_of_lt_of_le UBz_14 b.size
  have UBc0_15 := blk_cell UB_15.out 0
  have UBc1_15 := blk_cell UB_15.out 1
  have UBc2_15 := blk_cell UB_15.out 2
  have UBc3_15 := blk_cell UB_15.out 3
  have VA_15 := Lib.hid ((b.block _ VAz_14).trans VA_14.out)
  have VAz_15 := Nat.lt_of_lt_of_le VAz_14 b.size
  have VAc0_15 := blk_cell VA_15.out 0
  have VAc1_15 := blk_cell VA_15.out 1
  have VAc2_15 := blk_cell VA_15.out 2
  have VAc3_15 := blk_cell VA_15.out 3
  have VAc4_15 := blk_cell VA_15.out 4
  have q_15 := q_14.trans (b.mono q_14.size)
  clear B_14 D_14 K_14 Kz_14 Kc0_14 Kc1_14 Kc2_14 Kc3_14 O_14 I_14 P_14 Q_14 R_14 S_14 T_14 TB_14 TBz_14 TBc0_14 TBc1_14 TBc2_14 TBc3_14 U_14 UB_14 UBz_14 UBc0_14 UBc1_14 UBc2_14 UBc3_14 VA_14 VAz_14 VAc0_14 VAc1_14 VAc2_14 VAc3_14 VAc4_14 q_14
  clear b
  go_wp2_with fail
  have b : Below V14.heap.size V14 (V14.alloc (.cells #[.int .i64 (arpPop bs : Nat), .int .u64 (arpP1 bs : Nat), .int .u32 (arpP2 bs : Nat), .int .u64 (arpP3 bs : Nat), .int .u32 (arpP4 bs : Nat)] 28)) := ((Below.refl _ V14).alloc (Nat.le_refl _) (.cells #[.int .i64 (arpPop bs : Nat), .int .u64 (arpP1 bs : Nat), .int .u32 (arpP2 bs : Nat), .int .u64 (arpP3 bs : Nat), .int .u32 (arpP4 bs : Nat)] 28))
  have nb0 := blk_new V14 (.cells #[.int .i64 (arpPop bs : Nat), .int .u64 (arpP1 bs : Nat), .int .u32 (arpP2 bs : Nat), .int .u64 (arpP3 bs : Nat), .int .u32 (arpP4 bs : Nat)] 28)
  have nz0 : V14.heap.size < (V14.alloc (.cells #[.int .i64 (arpPop bs : Nat), .int .u64 (arpP1 bs : Nat), .int .u32 (arpP2 bs : Nat), .int .u64 (arpP3 bs : Nat), .int .u32 (arpP4 bs : Nat)] 28)).heap.size := by simp only [World.size_alloc]; omega
  have B_16 := Lib.hid (B_15.out.below b)
  have D_16 := Lib.hid (D_15.out.below b)
  have K_16 := Lib.hid ((b.block _ Kz_15).trans K_15.out)
  have Kz_16 := Nat.lt_of_lt_of_le Kz_15 b.size
  have Kc0_16 := blk_cell K_16.out 0
  have Kc1_16 := blk_cell K_16.out 1
  have Kc2_16 := blk_cell K_16.out 2
  have Kc3_16 := blk_cell K_16.out 3
  have O_16 := Lib.hid (O_15.out.below b)
  have I_16 := Lib.hid (I_15.out.below b)
  have P_16 := Lib.hid (P_15.out.below b)
  have Q_16 := Lib.hid (Q_15.out.below b)
  have R_16 := Lib.hid (R_15.out.below b)
  have S_16 := Lib.hid (S_15.out.below b)
  have T_16 := Lib.hid (T_15.out.below b)
  have TB_16 := Lib.hid ((b.block _ TBz_15).trans TB_15.out)
  have TBz_16 := Nat.lt_of_lt_of_le TBz_15 b.size
  have TBc0_16 := blk_cell TB_16.out 0
  have TBc1_16 := blk_cell TB_16.out 1
  have TBc2_16 := blk_cell TB_16.out 2
  have TBc3_16 := blk_cell TB_16.out 3
  have U_16 := Lib.hid (U_15.out.below b)
  have UB_16 := Lib.hid ((b.block _ UBz_15).trans UB_15.out)
  have UBz_16 := Nat.lt_of_lt_of_le UBz_15 b.size
  have UBc0_16 := blk_cell UB_16.out 0
  have UBc1_16 := blk_cell UB_16.out 1
  have UBc2_16 := blk_cell UB_16.out 2
  have UBc3_16 := blk_cell UB_16.out 3
  have VA_16 := Lib.hid ((b.block _ VAz_15).trans VA_15.out)
  have VAz_16 := Nat.lt_of_lt_of_le VAz_15 b.size
  have VAc0_16 := blk_cell VA_16.out 0
  have VAc1_16 := blk_cell VA_16.out 1
  have VAc2_16 := blk_cell VA_16.out 2
  have VAc3_16 := blk_cell VA_16.out 3
  have VAc4_16 := blk_cell VA_16.out 4
  have q_16 := q_15.trans (b.mono q_15.size)
  clear B_15 D_15 K_15 Kz_15 Kc0_15 Kc1_15 Kc2_15 Kc3_15 O_15 I_15 P_15 Q_15 R_15 S_15 T_15 TB_15 TBz_15 TBc0_15 TBc1_15 TBc2_15 TBc3_15 U_15 UB_15 UBz_15 UBc0_15 UBc1_15 UBc2_15 UBc3_15 VA_15 VAz_15 VAc0_15 VAc1_15 VAc2_15 VAc3_15 VAc4_15 q_15
  clear b
  have VB_16 := Lib.hid nb0
  have VBz_16 := nz0
  clear nb0 nz0
  have VBc0_16 := blk_cell VB_16.out 0
  have VBc1_16 := blk_cell VB_16.out 1
  have VBc2_16 := blk_cell VB_16.out 2
  have VBc3_16 := blk_cell VB_16.out 3
  have VBc4_16 := blk_cell VB_16.out 4
  generalize (V14.alloc (.cells #[.int .i64 (arpPop bs : Nat), .int .u64 (arpP1 bs : Nat), .int .u32 (arpP2 bs : Nat), .int .u64 (arpP3 bs : Nat), .int .u32 (arpP4 bs : Nat)] 28)) = V15 at q_16 B_16 D_16 K_16 Kz_16 Kc0_16 Kc1_16 Kc2_16 Kc3_16 O_16 I_16 P_16 Q_16 R_16 S_16 T_16 TB_16 TBz_16 TBc0_16 TBc1_16 TBc2_16 TBc3_16 U_16 UB_16 UBz_16 UBc0_16 UBc1_16 UBc2_16 UBc3_16 VA_16 VAz_16 VAc0_16 VAc1_16 VAc2_16 VAc3_16 VAc4_16 VB_16 VBz_16 VBc0_16 VBc1_16 VBc2_16 VBc3_16 VBc4_16 ⊢
  refine (same_one pa qa (ethBR d s t ds) (ethBR d s t ds) pc qc _ P_16.out.bts Q_16.out.bts hlR hlR rfl).mono ?_
  rintro e V16 ⟨rfl, b⟩
  have B_17 := Lib.hid (B_16.out.below b)
  have D_17 := Lib.hid (D_16.out.below b)
  have K_17 := Lib.hid ((b.block _ Kz_16).trans K_16.out)
  have Kz_17 := Nat.lt_of_lt_of_le Kz_16 b.size
  have Kc0_17 := blk_cell K_17.out 0
  have Kc1_17 := blk_cell K_17.out 1
  have Kc2_17 := blk_cell K_17.out 2
  have Kc3_17 := blk_cell K_17.out 3
  have O_17 := Lib.hid (O_16.out.below b)
  have I_17 := Lib.hid (I_16.out.below b)
  have R_17 := Lib.hid (R_16.out.below b)
  have S_17 := Lib.hid (S_16.out.below b)
  have T_17 := Lib.hid (T_16.out.below b)
  have TB_17 := Lib.hid ((b.block _ TBz_16).trans TB_16.out)
  have TBz_17 := Nat.lt_of_lt_of_le TBz_16 b.size
  have TBc0_17 := blk_cell TB_17.out 0
  have TBc1_17 := blk_cell TB_17.out 1
  have TBc2_17 := blk_cell TB_17.out 2
  have TBc3_17 := blk_cell TB_17.out 3
  have U_17 := Lib.hid (U_16.out.below b)
  have UB_17 := Lib.hid ((b.block _ UBz_16).trans UB_16.out)
  have UBz_17 := Nat.lt_of_lt_of_le UBz_16 b.size
  have UBc0_17 := blk_cell UB_17.out 0
  have UBc1_17 := blk_cell UB_17.out 1
  have UBc2_17 := blk_cell UB_17.out 2
  have UBc3_17 := blk_cell UB_17.out 3
  have VA_17 := Lib.hid ((b.block _ VAz_16).trans VA_16.out)
  have VAz_17 := Nat.lt_of_lt_of_le VAz_16 b.size
  have VAc0_17 := blk_cell VA_17.out 0
  have VAc1_17 := blk_cell VA_17.out 1
  have VAc2_17 := blk_cell VA_17.out 2
  have VAc3_17 := blk_cell VA_17.out 3
  have VAc4_17 := blk_cell VA_17.out 4
  have VB_17 := Lib.hid ((b.block _ VBz_16).trans VB_16.out)
  have VBz_17 := Nat.lt_of_lt_of_le VBz_16 b.size
  have VBc0_17 := blk_cell VB_17.out 0
  have VBc1_17 := blk_cell VB_17.out 1
  have VBc2_17 := blk_cell VB_17.out 2
  have VBc3_17 := blk_cell VB_17.out 3
  have VBc4_17 := blk_cell VB_17.out 4
  have q_17 := q_16.trans (b.mono q_16.size)
  clear B_16 D_16 K_16 Kz_16 Kc0_16 Kc1_16 Kc2_16 Kc3_16 O_16 I_16 P_16 Q_16 R_16 S_16 T_16 TB_16 TBz_16 TBc0_16 TBc1_16 TBc2_16 TBc3_16 U_16 UB_16 UBz_16 UBc0_16 UBc1_16 UBc2_16 UBc3_16 VA_16 VAz_16 VAc0_16 VAc1_16 VAc2_16 VAc3_16 VAc4_16 VB_16 VBz_16 VBc0_16 VBc1_16 VBc2_16 VBc3_16 VBc4_16 q_16
  clear b
  go_wp2_with fail
  refine (num_any _ _).mono ?_
  rintro e w' ⟨rfl, rfl⟩
  go_wp2_with fail
  refine (same_one ra sa (arpBR op m1 i1 m2 i2) (arpBR op m1 i1 m2 i2) rc sc _ R_17.out.bts S_17.out.bts hlS hlS rfl).mono ?_
  rintro e V17 ⟨rfl, b⟩
  have B_18 := Lib.hid (B_17.out.below b)
  have D_18 := Lib.hid (D_17.out.below b)
  have K_18 := Lib.hid ((b.block _ Kz_17).trans K_17.out)
  have Kz_18 := Nat.lt_of_lt_of_le Kz_17 b.size
  have Kc0_18 := blk_cell K_18.out 0
  have Kc1_18 := blk_cell K_18.out 1
  have Kc2_18 := blk_cell K_18.out 2
  have Kc3_18 := blk_cell K_18.out 3
  have O_18 := Lib.hid (O_17.out.below b)
  have I_18 := Lib.hid (I_17.out.below b)
  have T_18 := Lib.hid (T_17.out.below b)
  have TB_18 := Lib.hid ((b.block _ TBz_17).trans TB_17.out)
  have TBz_18 := Nat.lt_of_lt_of_le TBz_17 b.size
  have TBc0_18 := blk_cell TB_18.out 0
  have TBc1_18 := blk_cell TB_18.out 1
  have TBc2_18 := blk_cell TB_18.out 2
  have TBc3_18 := blk_cell TB_18.out 3
  have U_18 := Lib.hid (U_17.out.below b)
  have UB_18 := Lib.hid ((b.block _ UBz_17).trans UB_17.out)
  have UBz_18 := Nat.lt_of_lt_of_le UBz_17 b.size
  have UBc0_18 := blk_cell UB_18.out 0
  have UBc1_18 := blk_cell UB_18.out 1
  have UBc2_18 := blk_cell UB_18.out 2
  have UBc3_18 := blk_cell UB_18.out 3
  have VA_18 := Lib.hid ((b.block _ VAz_17).trans VA_17.out)
  have VAz_18 := Nat.lt_of_lt_of_le VAz_17 b.size
  have VAc0_18 := blk_cell VA_18.out 0
  have VAc1_18 := blk_cell VA_18.out 1
  have VAc2_18 := blk_cell VA_18.out 2
  have VAc3_18 := blk_cell VA_18.out 3
  have VAc4_18 := blk_cell VA_18.out 4
  have VB_18 := Lib.hid ((b.block _ VBz_17).trans VB_17.out)
  have VBz_18 := Nat.lt_of_lt_of_le VBz_17 b.size
  have VBc0_18 := blk_cell VB_18.out 0
  have VBc1_18 := blk_cell VB_18.out 1
  have VBc2_18 := blk_cell VB_18.out 2
  have VBc3_18 := blk_cell VB_18.out 3
  have VBc4_18 := blk_cell VB_18.out 4
  have q_18 := q_17.trans (b.mono q_17.size)
  clear B_17 D_17 K_17 Kz_17 Kc0_17 Kc1_17 Kc2_17 Kc3_17 O_17 I_17 R_17 S_17 T_17 TB_17 TBz_17 TBc0_17 TBc1_17 TBc2_17 TBc3_17 U_17 UB_17 UBz_17 UBc0_17 UBc1_17 UBc2_17 UBc3_17 VA_17 VAz_17 VAc0_17 VAc1_17 VAc2_17 VAc3_17 VAc4_17 VB_17 VBz_17 VBc0_17 VBc1_17 VBc2_17 VBc3_17 VBc4_17 q_17
  clear b
  go_wp2_with fail
  refine (num_any _ _).mono ?_
  rintro e w' ⟨rfl, rfl⟩
  go_wp2_with fail
  refine (sameEther_one (ethPD bs) (ethPS bs) (ethPT bs : Nat) ta ua (ethPds bs) tc uc _ T_18.out.bts U_18.out.bts hlT).mono ?_
  rintro e V18 ⟨rfl, b⟩
  have B_19 := Lib.hid (B_18.out.below b)
  have D_19 := Lib.hid (D_18.out.below b)
  have K_19 := Lib.hid ((b.block _ Kz_18).trans K_18.out)
  have Kz_19 := Nat.lt_of_lt_of_le Kz_18 b.size
  have Kc0_19 := blk_cell K_19.out 0
  have Kc1_19 := blk_cell K_19.out 1
  have Kc2_19 := blk_cell K_19.out 2
  have Kc3_19 := blk_cell K_19.out 3
  have O_19 := Lib.hid (O_18.out.below b)
  have I_19 := Lib.hid (I_18.out.below b)
  have VA_19 := Lib.hid ((b.block _ VAz_18).trans VA_18.out)
  have VAz_19 := Nat.lt_of_lt_of_le VAz_18 b.size
  have VAc0_19 := blk_cell VA_19.out 0
  have VAc1_19 := blk_cell VA_19.out 1
  have VAc2_19 := blk_cell VA_19.out 2
  have VAc3_19 := blk_cell VA_19.out 3
  have VAc4_19 := blk_cell VA_19.out 4
  have VB_19 := Lib.hid ((b.block _ VBz_18).trans VB_18.out)
  have VBz_19 := Nat.lt_of_lt_of_le VBz_18 b.size
  have VBc0_19 := blk_cell VB_19.out 0
  have VBc1_19 := blk_cell VB_19.out 1
  have VBc2_19 := blk_cell VB_19.out 2
  have VBc3_19 := blk_cell VB_19.out 3
  have VBc4_19 := blk_cell VB_19.out 4
  have q_19 := q_18.trans (b.mono q_18.size)
  clear B_18 D_18 K_18 Kz_18 Kc0_18 Kc1_18 Kc2_18 Kc3_18 O_18 I_18 T_18 TB_18 TBz_18 TBc0_18 TBc1_18 TBc2_18 TBc3_18 U_18 UB_18 UBz_18 UBc0_18 UBc1_18 UBc2_18 UBc3_18 VA_18 VAz_18 VAc0_18 VAc1_18 VAc2_18 VAc3_18 VAc4_18 VB_18 VBz_18 VBc0_18 VBc1_18 VBc2_18 VBc3_18 VBc4_18 q_18
  clear b
  go_wp2_with fail
  refine (num_any _ _).mono ?_
  rintro e w' ⟨rfl, rfl⟩
  go_wp2_with fail
  refine (num_any _ _).mono ?_
  rintro e w' ⟨rfl, rfl⟩
  go_wp2_with fail
  refine (same_one oa ab bs bs oc bcap _ O_19.out.bts B_19.out hl2 hl2 rfl).mono ?_
  rintro e V19 ⟨rfl, b⟩
  have B_20 := Lib.hid (B_19.out.below b)
  have D_20 := Lib.hid (D_19.out.below b)
  have K_20 := Lib.hid ((b.block _ Kz_19).trans K_19.out)
  have Kz_20 := Nat.lt_of_lt_of_le Kz_19 b.size
  have Kc0_20 := blk_cell K_20.out 0
  have Kc1_20 := blk_cell K_20.out 1
  have Kc2_20 := blk_cell K_20.out 2
  have Kc3_20 := blk_cell K_20.out 3
  have O_20 := Lib.hid (O_19.out.below b)
  have I_20 := Lib.hid (I_19.out.below b)
  have VA_20 := Lib.hid ((b.block _ VAz_19).trans VA_19.out)
  have VAz_20 := Nat.lt_of_lt_of_le VAz_19 b.size
  have VAc0_20 := blk_cell VA_20.out 0
  have VAc1_20 := blk_cell VA_20.out 1
  have VAc2_20 := blk_cell VA_20.out 2
  have VAc3_20 := blk_cell VA_20.out 3
  have VAc4_20 := blk_cell VA_20.out 4
  have VB_20 := Lib.hid ((b.block _ VBz_19).trans VB_19.out)
  have VBz_20 := Nat.lt_of_lt_of_le VBz_19 b.size
  have VBc0_20 := blk_cell VB_20.out 0
  have VBc1_20 := blk_cell VB_20.out 1
  have VBc2_20 := blk_cell VB_20.out 2
  have VBc3_20 := blk_cell VB_20.out 3
  have VBc4_20 := blk_cell VB_20.out 4
  have q_20 := q_19.trans (b.mono q_19.size)
  clear B_19 D_19 K_19 Kz_19 Kc0_19 Kc1_19 Kc2_19 Kc3_19 O_19 I_19 VA_19 VAz_19 VAc0_19 VAc1_19 VAc2_19 VAc3_19 VAc4_19 VB_19 VBz_19 VBc0_19 VBc1_19 VBc2_19 VBc3_19 VBc4_19 q_19
  clear b
  go_wp2_with fail
  refine (same_one ia ad ds ds ic dcap _ I_20.out.bts D_20.out hl1 hl1 rfl).mono ?_
  rintro e V20 ⟨rfl, b⟩
  have q_21 := q_20.trans (b.mono q_20.size)
  clear B_20 D_20 K_20 Kz_20 Kc0_20 Kc1_20 Kc2_20 Kc3_20 O_20 I_20 VA_20 VAz_20 VAc0_20 VAc1_20 VAc2_20 VAc3_20 VAc4_20 VB_20 VBz_20 VBc0_20 VBc1_20 VBc2_20 VBc3_20 VBc4_20 q_20
  clear b
  go_wp2_with fail
  refine (alive_any _).mono ?_
  rintro e V21 ⟨rfl, b⟩
  have q_22 := q_21.trans (b.mono q_21.size)
  clear q_21
  clear b
  go_wp2
  go_ret
  exact ⟨rfl, q_22⟩

theorem of_len4 {α : Type} (l : List α) (h : l.length = 4) : ∃ x0 x1 x2 x3, l = [x0, x1, x2, x3] := by
  match l, h with
  | [x0, x1, x2, x3], _ => exact ⟨x0, x1, x2, x3, rfl⟩
theorem of_len5 {α : Type} (l : List α) (h : l.length = 5) : ∃ x0 x1 x2 x3 x4, l = [x0, x1, x2, x3, x4] := by
  match l, h with
  | [x0, x1, x2, x3, x4], _ => exact ⟨x0, x1, x2, x3, x4, rfl⟩
theorem own : ownKnob Try.prog.godebug = none := by kernel_rfl
theorem laidOut : laidOutB Try.prog = true := by kernel_rfl

set_option maxRecDepth 100000 in
set_option maxHeartbeats 2000000 in
theorem lifted (os : Os) (started : os.Started) (H : Type) (enc : TypeId × Value → H) :
    ReturnsInHanded {} Try.checked os 3 .any (Rows.etherTellsSpec.pre6 enc Try.prog Try.f3 Rows.etherTellsRow.domain false) (Rows.etherTellsSpec.post enc Try.prog Try.f3 false true false false) := by
  refine returnsInHanded_of_change_sized (C := Try.checked) own started (by kernel_rfl) Try.func3
    (ChangeSpec.witness6 (enc := enc) (C := Try.checked) false ⟨#[], #[.agg #[.int .u64 0, .int .u64 0, .int .i64 0, .slice none 0 0], .agg #[.int .i64 0, .int .u64 0, .int .u32 0, .int .u64 0, .int .u32 0], .slice none 0 0], []⟩ 8 (by kernel_rfl) (by kernel_rfl) (by kernel_rfl) (by kernel_rfl)) ?_
  intro W base args ds gs before hval0 hW hcnd hsz0 _
  have hval : ∀ (j : Nat) t v, Try.f3.params[j]? = some t → args[j]? = some v → Value.okWide Try.prog W .any base t v := hval0
  have hsz : (DataW.weightsEach Try.prog (Try.f3.params.toList ++ Rows.etherTellsSpec.plain.varTypes Try.prog) (ds ++ gs)).all (· ≤ reachBytes) = true := hsz0
  have hW' := hW
  obtain ⟨p, q, hA0, hV, rfl, hfz, hnd⟩ := hW
  have hA : DataW.TrodAll enc Try.prog W 0 (fun _ => true) true Try.f3.params.toList args.toList ds p := hA0
  rw [Try.params3] at hA hval hsz
  obtain ⟨v0, vs0, d0, ds0, p0, q0, hargs, rfl, rfl, h0, r0⟩ := trodAll_cons hA
  obtain ⟨v1, vs1, d1, ds1, p1, q1, rfl, rfl, rfl, h1, r1⟩ := trodAll_cons r0
  obtain ⟨v2, vs2, d2, ds2, p2, q2, rfl, rfl, rfl, h2, r2⟩ := trodAll_cons r1
  obtain ⟨rfl, rfl, rfl⟩ := trodAll_nil r2
  obtain rfl : args = #[v0, v1, v2] := by cases args; simp_all
  obtain ⟨rfl, rfl⟩ := trodVars_none hV
  have k0 := h0
  have lt0 : ∀ x ∈ p0, x.block < W.heap.size := by obtain ⟨m, hm⟩ := k0; exact DataW.trod_lt m _ _ _ hm
  obtain ⟨vs0', ys0', m0, rfl, lv0, ly0, hd0, F0⟩ := open_agg Try.underlying25 (by kernel_rfl) (by kernel_rfl) (hval 0 25 v0 rfl rfl) h0
  obtain ⟨c0_0, c0_1, c0_2, c0_3, rfl⟩ := of_len4 _ lv0
  obtain ⟨y0_0, y0_1, y0_2, y0_3, rfl⟩ := of_len4 _ ly0
  simp only [List.map_cons, List.map_nil] at hd0
  obtain ⟨_, _, e, g, t0_0⟩ := F0 0 _ rfl
  obtain rfl := Option.some.inj e; obtain rfl := Option.some.inj g; clear e g
  obtain ⟨z0_0, e, _, w0_0⟩ := DataW.trod_int Try.underlying22 t0_0
  obtain rfl := (List.cons.inj e).1; clear e
  obtain ⟨n0_0, rfl, hn0_0⟩ := nat_of_u64 w0_0
  obtain ⟨_, _, e, g, t0_1⟩ := F0 1 _ rfl
  obtain rfl := Option.some.inj e; obtain rfl := Option.some.inj g; clear e g
  obtain ⟨z0_1, e, _, w0_1⟩ := DataW.trod_int Try.underlying22 t0_1
  obtain rfl := (List.cons.inj e).1; clear e
  obtain ⟨n0_1, rfl, hn0_1⟩ := nat_of_u64 w0_1
  obtain ⟨_, _, e, g, t0_2⟩ := F0 2 _ rfl
  obtain rfl := Option.some.inj e; obtain rfl := Option.some.inj g; clear e g
  obtain ⟨z0_2, e, _, w0_2⟩ := DataW.trod_int Try.underlying3 t0_2
  obtain rfl := (List.cons.inj e).1; clear e
  obtain ⟨lo0_2, hi0_2⟩ := bounds_i64 w0_2
  obtain ⟨_, _, e, g, t0_3⟩ := F0 3 _ rfl
  obtain rfl := Option.some.inj e; obtain rfl := Option.some.inj g; clear e g
  obtain ⟨a0_3, xs0_3, cap0_3, rfl, hbt0_3, hcap0_3, hlc0_3, hq0_3⟩ := open_bytes t0_3
  have k1 := h1
  have lt1 : ∀ x ∈ p1, x.block < W.heap.size := by obtain ⟨m, hm⟩ := k1; exact DataW.trod_lt m _ _ _ hm
  obtain ⟨vs1', ys1', m1, rfl, lv1, ly1, hd1, F1⟩ := open_agg Try.underlying28 (by kernel_rfl) (by kernel_rfl) (hval 1 28 v1 rfl rfl) h1
  obtain ⟨c1_0, c1_1, c1_2, c1_3, c1_4, rfl⟩ := of_len5 _ lv1
  obtain ⟨y1_0, y1_1, y1_2, y1_3, y1_4, rfl⟩ := of_len5 _ ly1
  simp only [List.map_cons, List.map_nil] at hd1
  obtain ⟨_, _, e, g, t1_0⟩ := F1 0 _ rfl
  obtain rfl := Option.some.inj e; obtain rfl := Option.some.inj g; clear e g
  obtain ⟨z1_0, e, _, w1_0⟩ := DataW.trod_int Try.underlying3 t1_0
  obtain rfl := (List.cons.inj e).1; clear e
  obtain ⟨lo1_0, hi1_0⟩ := bounds_i64 w1_0
  obtain ⟨_, _, e, g, t1_1⟩ := F1 1 _ rfl
  obtain rfl := Option.some.inj e; obtain rfl := Option.some.inj g; clear e g
  obtain ⟨z1_1, e, _, w1_1⟩ := DataW.trod_int Try.underlying22 t1_1
  obtain rfl := (List.cons.inj e).1; clear e
  obtain ⟨n1_1, rfl, hn1_1⟩ := nat_of_u64 w1_1
  obtain ⟨_, _, e, g, t1_2⟩ := F1 2 _ rfl
  obtain rfl := Option.some.inj e; obtain rfl := Option.some.inj g; clear e g
  obtain ⟨z1_2, e, _, w1_2⟩ := DataW.trod_int Try.underlying26 t1_2
  obtain rfl := (List.cons.inj e).1; clear e
  obtain ⟨n1_2, rfl, hn1_2⟩ := nat_of_u32 w1_2
  obtain ⟨_, _, e, g, t1_3⟩ := F1 3 _ rfl
  obtain rfl := Option.some.inj e; obtain rfl := Option.some.inj g; clear e g
  obtain ⟨z1_3, e, _, w1_3⟩ := DataW.trod_int Try.underlying22 t1_3
  obtain rfl := (List.cons.inj e).1; clear e
  obtain ⟨n1_3, rfl, hn1_3⟩ := nat_of_u64 w1_3
  obtain ⟨_, _, e, g, t1_4⟩ := F1 4 _ rfl
  obtain rfl := Option.some.inj e; obtain rfl := Option.some.inj g; clear e g
  obtain ⟨z1_4, e, _, w1_4⟩ := DataW.trod_int Try.underlying26 t1_4
  obtain rfl := (List.cons.inj e).1; clear e
  obtain ⟨n1_4, rfl, hn1_4⟩ := nat_of_u32 w1_4
  obtain ⟨a2, len2, cap2, rfl⟩ := okWide_slice Try.underlying23 (hval 2 23 v2 rfl rfl)
  have k2 := h2
  have lt2 : ∀ x ∈ p2, x.block < W.heap.size := by obtain ⟨m, hm⟩ := k2; exact DataW.trod_lt m _ _ _ hm
  have hre0_3 : xs0_3.length ≤ 140737488351232 := bytes_reach hq0_3 (sized_field hsz (j := 0) (i := 3) (t := 25) rfl (by rw [hd0]; rfl) Try.underlying25 rfl rfl)
  obtain ⟨xs2, hxl2, hbt2, hcap2, hlc2, hre2⟩ : ∃ xs : List Nat, xs.length = len2 ∧ Bts W a2 xs ∧ (a2 = none → cap2 = 0) ∧ (xs.length ≤ cap2 ∧ cap2 ≤ maxLen) ∧ xs.length ≤ 140737488351232 := by
    obtain ⟨fuel, hf⟩ := h2
    rcases open_ints Try.underlying23 Try.underlying5 (by kernel_rfl) hf with ⟨hcs, _⟩ | ⟨x, l, c, zs, hcs, _, hl, hm, hz, hd, hcell, hwz⟩
    · simp [Value.cells] at hcs
      obtain ⟨rfl, rfl, rfl⟩ := hcs
      exact ⟨[], rfl, ⟨(fun x h => by cases h), .inl rfl⟩, fun _ => rfl, ⟨Nat.le_refl _, Nat.zero_le _⟩, by simp⟩
    · simp [Value.cells] at hcs
      obtain ⟨rfl, rfl, rfl⟩ := hcs
      have hz' : zs.length = cap2 := by simpa using hz
      obtain ⟨xs, h1, h2⟩ := bts_of_ints hl hz' hcell hwz
      have hd' := (Prod.mk.inj hd).1
      have hw := sized_slice hsz (j := 2) (t := 23) (e := 5) rfl (by rw [hd']; rfl) Try.underlying23
      rw [bytes5] at hw
      simp only [lits, List.length_map, List.length_take, List.length_drop, reachBytes] at hw
      exact ⟨xs, h1, h2, (fun h => by cases h), ⟨by omega, hm⟩, by omega⟩
  clear hA0 hval0 hsz hsz0
  subst hxl2
  refine (walk n0_0 n0_1 z0_2 a0_3 xs0_3 cap0_3 z1_0 n1_1 n1_2 n1_3 n1_4 a2 xs2 cap2 W hn0_0 hn0_1 lo0_2 hi0_2 hbt0_3 hcap0_3 hlc0_3 hre0_3 lo1_0 hi1_0 hn1_1 hn1_2 hn1_3 hn1_4 hbt2 hcap2 hlc2 hre2).mono fun e W' ⟨he, bel⟩ => ?_
  subst he
  exact ⟨_, rfl, _, _, _, [], _, [], hW', trodAll_mk1 (shut_bool Try.underlying4 _), (trodAll_cons_mk (Below.trod laidOut (by kernel_rfl) (of_decide_eq_true (by kernel_rfl)) k0 bel lt0) (trodAll_cons_mk (Below.trod laidOut (by kernel_rfl) (of_decide_eq_true (by kernel_rfl)) k1 bel lt1) (trodAll_cons_mk (Below.trod laidOut (by kernel_rfl) (of_decide_eq_true (by kernel_rfl)) k2 bel lt2) trodAll_mk0))), rfl, bel.frame _, fun h => by cases h⟩

theorem over : Rows.etherTellsRow.holds Try.pinned (OpenSpec.ofChange Rows.etherTellsSpec) :=
  OpenClaim.holds_of_wide 3 Try.f3 rfl rfl rfl rfl rfl rfl rfl ⟨rfl, rfl, rfl, rfl, rfl⟩ rfl rfl rfl rfl rfl (by kernel_rfl) Try.func3 (by kernel_rfl)
    (of_decide_eq_true (by kernel_rfl)) (by unfold Func.isWrapper; first | (rw [if_pos (by decide +kernel)]; kernel_rfl) | (rw [if_neg (by decide +kernel)]; exact ⟨rfl, rfl⟩))
    (fun os started H enc _ => lifted os started H enc)

end Go.Proofs.Ytdiomelldhkibaa.etherTells
namespace Go.Proofs.Ytdiomelldhkibaa
/-- The statement. -/
theorem etherTells_holds : Rows.EtherTellsSaid := etherTells.over
#print axioms etherTells_holds
end Go.Proofs.Ytdiomelldhkibaa
