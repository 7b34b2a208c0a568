/- The page's example of tcpwire holds. -/
import Derived.Test.YtgmgoilleakdcaaTcpRt
namespace Go.Proofs.Ytgmgoilleakdcaa.law5
open Go.RowKit

theorem num_any (e : Int) (w : World) : Calls Try.prog 13 #[.int .i64 e] w fun r w' => r = .returned (.int .i64 e) ∧ w = w' := by
  go_enter Try.func13, Try.ntmps13
  go_wp2
  go_ret
  exact ⟨rfl, rfl⟩

set_option maxRecDepth 100000 in
set_option maxHeartbeats 2000000 in
theorem alive_any (w : World) : Calls Try.prog 19 #[] w fun e w' => e = .returned (.bool true) ∧ Below w.heap.size w w' := by
  have q_0 := Below.refl w.heap.size w
  obtain ⟨L, hL⟩ : ∃ L, tcpO 0 0 0 0 2 0 0 1460 true 7 true [] true 0 0 [] 1 2 = L := ⟨_, rfl⟩
  have hm : TcpMay 1460 true 7 true [] true 0 0 ([] : List Nat).length := by
    refine ⟨?_, ?_, ?_, ?_, ?_, ?_, ?_⟩ <;> decide
  have hl : 20 + (laidO 1460 true 7 true [] true 0 0).length + ([] : List Nat).length = 44 := by decide
  have hLl : L.length = 44 := by rw [← hL]; unfold tcpO; rw [tcpW_len]; exact hl
  have hbs : ∀ p ∈ ([] : List (Nat × Nat)), p.1 < 4294967296 ∧ p.2 < 4294967296 := fun p h => by cases h
  have hdx : ∀ x ∈ ([] : List Nat), x < 256 := fun p h => by cases h
  have c1 : ∀ W : World, Calls Try.prog 8 #[.agg #[.int .u16 0, .int .u16 0, .int .u32 0, .int .u32 0, .int .u8 2, .int .u16 0, .int .u16 0, .int .i64 1460, .bool true, .int .i64 7, .bool true, .slice none 0 0, .bool true, .int .u32 0, .int .u32 0, .slice none 0 0], .int .u32 1, .int .u32 2] W fun e w' => ∃ a' cap', e = .returned (.tuple #[.slice (some ⟨a', 0, none⟩) 44 cap', .int .i64 0]) ∧ OwnSl (W.heap.size + 1) (some ⟨a', 0, none⟩) L cap' w' ∧ Below W.heap.size W w' := fun W => by
    have h1 := tcpB_ok 0 0 0 0 2 0 0 1460 true 7 true none [] 0 true 0 0 none [] 0 1 2 W hm (by decide) (by decide) (by decide) (by decide) (by decide) (by decide) (by decide) (by decide) (by decide) (by decide) (by decide) (Bts.nil _ _) (fun _ => rfl) ⟨hbs, .inl rfl⟩
    rw [hl, hL] at h1
    exact h1
  have c2 : ∀ W g c, OwnSl (W.heap.size + 1) (some ⟨g, 0, none⟩) L c W ∨ Bts W (some ⟨g, 0, none⟩) L → L.length ≤ c → Calls Try.prog 10 #[.slice (some ⟨g, 0, none⟩) 44 c, .int .u32 1, .int .u32 2] W fun e w' => ∃ ba bc da dc, e = .returned (.tuple #[.agg #[.int .u16 0, .int .u16 0, .int .u32 0, .int .u32 0, .int .u8 2, .int .u16 0, .int .u16 0, .int .i64 1460, .bool true, .int .i64 7, .bool true, .slice ba 0 bc, .bool true, .int .u32 0, .int .u32 0, .slice da 0 dc], .int .i64 0]) ∧ OwnBlk W.heap.size w' ba [] bc ∧ OwnSl (W.heap.size + 1) da [] dc w' ∧ Below W.heap.size W w' := fun W g c h hc => by
    have hbt : Bts W (some ⟨g, 0, none⟩) L := h.elim (fun h => h.bts) id
    have h1 := tcpP_ok 0 0 0 0 2 0 0 1460 true 7 true [] true 0 0 [] 1 2 hm (by decide) (by decide) (by decide) (by decide) (by decide) (by decide) (by decide) (by decide) (by decide) (by decide) (by decide) hbs hdx L hL (some ⟨g, 0, none⟩) c W hbt hc
    rw [hLl] at h1
    exact h1
  have c3 : ∀ (ba : Option Addr) (bc : Nat) (da : Option Addr) (dc : Nat) (W : World), Blk W ba [] → Bts W da [] → Calls Try.prog 14 #[.agg #[.int .u16 0, .int .u16 0, .int .u32 0, .int .u32 0, .int .u8 2, .int .u16 0, .int .u16 0, .int .i64 1460, .bool true, .int .i64 7, .bool true, .slice ba 0 bc, .bool true, .int .u32 0, .int .u32 0, .slice da 0 dc], .agg #[.int .u16 0, .int .u16 0, .int .u32 0, .int .u32 0, .int .u8 2, .int .u16 0, .int .u16 0, .int .i64 1460, .bool true, .int .i64 7, .bool true, .slice none 0 0, .bool true, .int .u32 0, .int .u32 0, .slice none 0 0]] W fun e w' => e = .returned (.bool true) ∧ Below W.heap.size W w' := fun ba bc da dc W h1 h2 =>
    sameTcpV 0 0 0 0 2 0 0 1460 true 7 true [] true 0 0 [] ba none da none bc 0 dc 0 W h1 ⟨hbs, .inl rfl⟩ (by decide) h2 (Bts.nil _ _) (by decide)
  have c4 : ∀ W : World, Calls Try.prog 17 #[.agg #[.int .u16 0, .int .u16 0, .int .u32 0, .int .u32 0, .int .u8 2, .int .u16 0, .int .u16 0, .int .i64 1460, .bool true, .int .i64 7, .bool true, .slice none 0 0, .bool true, .int .u32 0, .int .u32 0, .slice none 0 0]] W fun e w' => e = .returned (.int .i64 1) ∧ Below W.heap.size W w' := fun W =>
    tlength_any 0 0 0 0 2 0 0 1460 true 7 true none 0 0 true 0 0 none 0 0 W (by decide)
  have C1 := Lib.hid c1
  have C2 := Lib.hid c2
  have C3 := Lib.hid c3
  have C4 := Lib.hid c4
  clear c1 c2 c3 c4 hm hl hbs hdx hL
  go_enter Try.func19, Try.ntmps19
  have KN := Lib.hid (blk_new w (.cells #[.int .u16 0, .int .u16 0, .int .u32 0, .int .u32 0, .int .u8 0, .int .u16 0, .int .u16 0, .int .i64 0, .bool false, .int .i64 0, .bool false, .slice none 0 0, .bool false, .int .u32 0, .int .u32 0, .slice none 0 0] 27))
  have QN := Lib.hid ((Below.refl w.heap.size w).alloc (Nat.le_refl _) (.cells #[.int .u16 0, .int .u16 0, .int .u32 0, .int .u32 0, .int .u8 0, .int .u16 0, .int .u16 0, .int .i64 0, .bool false, .int .i64 0, .bool false, .slice none 0 0, .bool false, .int .u32 0, .int .u32 0, .slice none 0 0] 27))
  go_wp2_with ((with_reducible show wpList _ _ _ _ _ _); refine wpList_store_tcp rfl (.tmp 1) (.tmp 6) rfl w.heap.size _ _ rfl rfl KN.out rfl rfl (by simp [Value.oneCell']) ?_; intro V1 hs2 hg2; have b := QN.out.grown hg2 QN.out.size (fun j e => by cases e; exact Nat.le_refl _); have q_1 := q_0.trans (b.mono q_0.size); clear q_0; have K_1 := Lib.hid hs2; have Kz_1 : w.heap.size < V1.heap.size := (Array.getElem?_eq_some_iff.1 hs2).1; have Kc0_1 := blk_cell K_1.out 0; have Kc1_1 := blk_cell K_1.out 1; have Kc2_1 := blk_cell K_1.out 2; have Kc3_1 := blk_cell K_1.out 3; have Kc4_1 := blk_cell K_1.out 4; have Kc5_1 := blk_cell K_1.out 5; have Kc6_1 := blk_cell K_1.out 6; have Kc7_1 := blk_cell K_1.out 7; have Kc8_1 := blk_cell K_1.out 8; have Kc9_1 := blk_cell K_1.out 9; have Kc10_1 := blk_cell K_1.out 10; have Kc11_1 := blk_cell K_1.out 11; have Kc12_1 := blk_cell K_1.out 12; have Kc13_1 := blk_cell K_1.out 13; have Kc14_1 := blk_cell K_1.out 14; have Kc15_1 := blk_cell K_1.out 15; clear hs2 hg2 b)
  clear KN QN
  refine (C1.out _).mono ?_
  rintro e V2 ⟨a1, k1, rfl, O, b⟩
  have K_2 := Lib.hid ((b.block _ Kz_1).trans K_1.out)
  have Kz_2 := Nat.lt_of_lt_of_le Kz_1 b.size
  have Kc0_2 := blk_cell K_2.out 0
  have Kc1_2 := blk_cell K_2.out 1
  have Kc2_2 := blk_cell K_2.out 2
  have Kc3_2 := blk_cell K_2.out 3
  have Kc4_2 := blk_cell K_2.out 4
  have Kc5_2 := blk_cell K_2.out 5
  have Kc6_2 := blk_cell K_2.out 6
  have Kc7_2 := blk_cell K_2.out 7
  have Kc8_2 := blk_cell K_2.out 8
  have Kc9_2 := blk_cell K_2.out 9
  have Kc10_2 := blk_cell K_2.out 10
  have Kc11_2 := blk_cell K_2.out 11
  have Kc12_2 := blk_cell K_2.out 12
  have Kc13_2 := blk_cell K_2.out 13
  have Kc14_2 := blk_cell K_2.out 14
  have Kc15_2 := blk_cell K_2.out 15
  have q_2 := q_1.trans (b.mono q_1.size)
  clear K_1 Kz_1 Kc0_1 Kc1_1 Kc2_1 Kc3_1 Kc4_1 Kc5_1 Kc6_1 Kc7_1 Kc8_1 Kc9_1 Kc10_1 Kc11_1 Kc12_1 Kc13_1 Kc14_1 Kc15_1 q_1
  have P_2 := Lib.hid (O)
  clear b
  clear O C1
  have pc := P_2.out.capLe
  go_wp2_with fail
  refine (C2.out _ _ _ (.inr P_2.out.bts) pc.1).mono ?_
  rintro e V3 ⟨ba, bc, da, dc, rfl, OB, O, b⟩
  have K_3 := Lib.hid ((b.block _ Kz_2).trans K_2.out)
  have Kz_3 := Nat.lt_of_lt_of_le Kz_2 b.size
  have Kc0_3 := blk_cell K_3.out 0
  have Kc1_3 := blk_cell K_3.out 1
  have Kc2_3 := blk_cell K_3.out 2
  have Kc3_3 := blk_cell K_3.out 3
  have Kc4_3 := blk_cell K_3.out 4
  have Kc5_3 := blk_cell K_3.out 5
  have Kc6_3 := blk_cell K_3.out 6
  have Kc7_3 := blk_cell K_3.out 7
  have Kc8_3 := blk_cell K_3.out 8
  have Kc9_3 := blk_cell K_3.out 9
  have Kc10_3 := blk_cell K_3.out 10
  have Kc11_3 := blk_cell K_3.out 11
  have Kc12_3 := blk_cell K_3.out 12
  have Kc13_3 := blk_cell K_3.out 13
  have Kc14_3 := blk_cell K_3.out 14
  have Kc15_3 := blk_cell K_3.out 15
  have P_3 := Lib.hid (P_2.out.below b)
  have q_3 := q_2.trans (b.mono q_2.size)
  clear K_2 Kz_2 Kc0_2 Kc1_2 Kc2_2 Kc3_2 Kc4_2 Kc5_2 Kc6_2 Kc7_2 Kc8_2 Kc9_2 Kc10_2 Kc11_2 Kc12_2 Kc13_2 Kc14_2 Kc15_2 P_2 q_2
  have D_3 := Lib.hid (O)
  have B_3 := Lib.hid (OB.1)
  clear b
  clear O OB C2
  have KN := Lib.hid (blk_new V3 (.cells #[.int .u16 0, .int .u16 0, .int .u32 0, .int .u32 0, .int .u8 0, .int .u16 0, .int .u16 0, .int .i64 0, .bool false, .int .i64 0, .bool false, .slice none 0 0, .bool false, .int .u32 0, .int .u32 0, .slice none 0 0] 27))
  have QN := Lib.hid ((Below.refl V3.heap.size V3).alloc (Nat.le_refl _) (.cells #[.int .u16 0, .int .u16 0, .int .u32 0, .int .u32 0, .int .u8 0, .int .u16 0, .int .u16 0, .int .i64 0, .bool false, .int .i64 0, .bool false, .slice none 0 0, .bool false, .int .u32 0, .int .u32 0, .slice none 0 0] 27))
  go_wp2_with ((with_reducible show wpList _ _ _ _ _ _); refine wpList_store_tcp rfl (.tmp 4) (.tmp 15) rfl V3.heap.size _ _ rfl rfl KN.out rfl rfl (by simp [Value.oneCell']) ?_; intro V4 hs2 hg2; have b := QN.out.grown hg2 QN.out.size (fun j e => by cases e; exact Nat.le_refl _); have K_4 := Lib.hid ((b.block _ Kz_3).trans K_3.out); have Kz_4 := Nat.lt_of_lt_of_le Kz_3 b.size; have Kc0_4 := blk_cell K_4.out 0; have Kc1_4 := blk_cell K_4.out 1; have Kc2_4 := blk_cell K_4.out 2; have Kc3_4 := blk_cell K_4.out 3; have Kc4_4 := blk_cell K_4.out 4; have Kc5_4 := blk_cell K_4.out 5; have Kc6_4 := blk_cell K_4.out 6; have Kc7_4 := blk_cell K_4.out 7; have Kc8_4 := blk_cell K_4.out 8; have Kc9_4 := blk_cell K_4.out 9; have Kc10_4 := blk_cell K_4.out 10; have Kc11_4 := blk_cell K_4.out 11; have Kc12_4 := blk_cell K_4.out 12; have Kc13_4 := blk_cell K_4.out 13; have Kc14_4 := blk_cell K_4.out 14; have Kc15_4 := blk_cell K_4.out 15; have P_4 := Lib.hid (P_3.out.below b); have D_4 := Lib.hid (D_3.out.below b); have B_4 := Lib.hid (B_3.out.below b); have q_4 := q_3.trans (b.mono q_3.size); clear K_3 Kz_3 Kc0_3 Kc1_3 Kc2_3 Kc3_3 Kc4_3 Kc5_3 Kc6_3 Kc7_3 Kc8_3 Kc9_3 Kc10_3 Kc11_3 Kc12_3 Kc13_3 Kc14_3 Kc15_3 P_3 D_3 B_3 q_3; have S_4 := Lib.hid hs2; have Sz_4 : V3.heap.size < V4.heap.size := (Array.getElem?_eq_some_iff.1 hs2).1; have Sc0_4 := blk_cell S_4.out 0; have Sc1_4 := blk_cell S_4.out 1; have Sc2_4 := blk_cell S_4.out 2; have Sc3_4 := blk_cell S_4.out 3; have Sc4_4 := blk_cell S_4.out 4; have Sc5_4 := blk_cell S_4.out 5; have Sc6_4 := blk_cell S_4.out 6; have Sc7_4 := blk_cell S_4.out 7; have Sc8_4 := blk_cell S_4.out 8; have Sc9_4 := blk_cell S_4.out 9; have Sc10_4 := blk_cell S_4.out 10; have Sc11_4 := blk_cell S_4.out 11; have Sc12_4 := blk_cell S_4.out 12; have Sc13_4 := blk_cell S_4.out 13; have Sc14_4 := blk_cell S_4.out 14; have Sc15_4 := blk_cell S_4.out 15; clear hs2 hg2 b)
  clear KN QN
  refine (num_any _ _).mono ?_
  rintro e w' ⟨rfl, rfl⟩
  go_wp2_with fail
  refine (num_any _ _).mono ?_
  rintro e w' ⟨rfl, rfl⟩
  go_wp2_with fail
  refine (C3.out _ _ _ _ _ B_4.out D_4.out.bts).mono ?_
  rintro e V5 ⟨rfl, b⟩
  have K_5 := Lib.hid ((b.block _ Kz_4).trans K_4.out)
  have Kz_5 := Nat.lt_of_lt_of_le Kz_4 b.size
  have Kc0_5 := blk_cell K_5.out 0
  have Kc1_5 := blk_cell K_5.out 1
  have Kc2_5 := blk_cell K_5.out 2
  have Kc3_5 := blk_cell K_5.out 3
  have Kc4_5 := blk_cell K_5.out 4
  have Kc5_5 := blk_cell K_5.out 5
  have Kc6_5 := blk_cell K_5.out 6
  have Kc7_5 := blk_cell K_5.out 7
  have Kc8_5 := blk_cell K_5.out 8
  have Kc9_5 := blk_cell K_5.out 9
  have Kc10_5 := blk_cell K_5.out 10
  have Kc11_5 := blk_cell K_5.out 11
  have Kc12_5 := blk_cell K_5.out 12
  have Kc13_5 := blk_cell K_5.out 13
  have Kc14_5 := blk_cell K_5.out 14
  have Kc15_5 := blk_cell K_5.out 15
  have P_5 := Lib.hid (P_4.out.below b)
  have S_5 := Lib.hid ((b.block _ Sz_4).trans S_4.out)
  have Sz_5 := Nat.lt_of_lt_of_le Sz_4 b.size
  have Sc0_5 := blk_cell S_5.out 0
  have Sc1_5 := blk_cell S_5.out 1
  have Sc2_5 := blk_cell S_5.out 2
  have Sc3_5 := blk_cell S_5.out 3
  have Sc4_5 := blk_cell S_5.out 4
  have Sc5_5 := blk_cell S_5.out 5
  have Sc6_5 := blk_cell S_5.out 6
  have Sc7_5 := blk_cell S_5.out 7
  have Sc8_5 := blk_cell S_5.out 8
  have Sc9_5 := blk_cell S_5.out 9
  have Sc10_5 := blk_cell S_5.out 10
  have Sc11_5 := blk_cell S_5.out 11
  have Sc12_5 := blk_cell S_5.out 12
  have Sc13_5 := blk_cell S_5.out 13
  have Sc14_5 := blk_cell S_5.out 14
  have Sc15_5 := blk_cell S_5.out 15
  have q_5 := q_4.trans (b.mono q_4.size)
  clear K_4 Kz_4 Kc0_4 Kc1_4 Kc2_4 Kc3_4 Kc4_4 Kc5_4 Kc6_4 Kc7_4 Kc8_4 Kc9_4 Kc10_4 Kc11_4 Kc12_4 Kc13_4 Kc14_4 Kc15_4 P_4 D_4 B_4 S_4 Sz_4 Sc0_4 Sc1_4 Sc2_4 Sc3_4 Sc4_4 Sc5_4 Sc6_4 Sc7_4 Sc8_4 Sc9_4 Sc10_4 Sc11_4 Sc12_4 Sc13_4 Sc14_4 Sc15_4 q_4
  clear b
  go_wp2_with fail
  refine (C4.out _).mono ?_
  rintro e V6 ⟨rfl, b⟩
  have K_6 := Lib.hid ((b.block _ Kz_5).trans K_5.out)
  have Kz_6 := Nat.lt_of_lt_of_le Kz_5 b.size
  have Kc0_6 := blk_cell K_6.out 0
  have Kc1_6 := blk_cell K_6.out 1
  have Kc2_6 := blk_cell K_6.out 2
  have Kc3_6 := blk_cell K_6.out 3
  have Kc4_6 := blk_cell K_6.out 4
  have Kc5_6 := blk_cell K_6.out 5
  have Kc6_6 := blk_cell K_6.out 6
  have Kc7_6 := blk_cell K_6.out 7
  have Kc8_6 := blk_cell K_6.out 8
  have Kc9_6 := blk_cell K_6.out 9
  have Kc10_6 := blk_cell K_6.out 10
  have Kc11_6 := blk_cell K_6.out 11
  have Kc12_6 := blk_cell K_6.out 12
  have Kc13_6 := blk_cell K_6.out 13
  have Kc14_6 := blk_cell K_6.out 14
  have Kc15_6 := blk_cell K_6.out 15
  have P_6 := Lib.hid (P_5.out.below b)
  have S_6 := Lib.hid ((b.block _ Sz_5).trans S_5.out)
  have Sz_6 := Nat.lt_of_lt_of_le Sz_5 b.size
  have Sc0_6 := blk_cell S_6.out 0
  have Sc1_6 := blk_cell S_6.out 1
  have Sc2_6 := blk_cell S_6.out 2
  have Sc3_6 := blk_cell S_6.out 3
  have Sc4_6 := blk_cell S_6.out 4
  have Sc5_6 := blk_cell S_6.out 5
  have Sc6_6 := blk_cell S_6.out 6
  have Sc7_6 := blk_cell S_6.out 7
  have Sc8_6 := blk_cell S_6.out 8
  have Sc9_6 := blk_cell S_6.out 9
  have Sc10_6 := blk_cell S_6.out 10
  have Sc11_6 := blk_cell S_6.out 11
  have Sc12_6 := blk_cell S_6.out 12
  have Sc13_6 := blk_cell S_6.out 13
  have Sc14_6 := blk_cell S_6.out 14
  have Sc15_6 := blk_cell S_6.out 15
  have q_6 := q_5.trans (b.mono q_5.size)
  clear K_5 Kz_5 Kc0_5 Kc1_5 Kc2_5 Kc3_5 Kc4_5 Kc5_5 Kc6_5 Kc7_5 Kc8_5 Kc9_5 Kc10_5 Kc11_5 Kc12_5 Kc13_5 Kc14_5 Kc15_5 P_5 S_5 Sz_5 Sc0_5 Sc1_5 Sc2_5 Sc3_5 Sc4_5 Sc5_5 Sc6_5 Sc7_5 Sc8_5 Sc9_5 Sc10_5 Sc11_5 Sc12_5 Sc13_5 Sc14_5 Sc15_5 q_5
  clear b
  go_wp2
  go_ret
  exact ⟨rfl, q_6⟩
end Go.Proofs.Ytgmgoilleakdcaa.law5
