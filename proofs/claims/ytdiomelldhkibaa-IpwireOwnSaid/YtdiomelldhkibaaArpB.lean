/- What ether.BuildArp gives. -/
import Derived.Test.YtdiomelldhkibaaNumE
import Derived.Test.YtdiomelldhkibaaRefArp
import Derived.Deep.RegionHeld3
import Derived.LoopN
namespace Go.Proofs.Ytdiomelldhkibaa
open Go.RowKit

set_option maxRecDepth 100000 in
set_option maxHeartbeats 400000 in
theorem start_any (op : Nat) (w : World) : Calls Try.prog 55 #[.int .u8 op] w fun e w' => e = .returned (.agg #[.int .u8 0, .int .u8 1, .int .u8 8, .int .u8 0, .int .u8 6, .int .u8 4, .int .u8 0, .int .u8 op]) ∧ Below w.heap.size w w' := by
  go_enter Try.func55, Try.ntmps55
  go_wp2
  exact bodyPost_ret (v := .agg #[.int .u8 0, .int .u8 1, .int .u8 8, .int .u8 0, .int .u8 6, .int .u8 4, .int .u8 0, .int .u8 op]) (by simp [results, Try.results55, go_sem]) rfl ⟨rfl, (Below.refl _ _).alloc (Nat.le_refl _) _⟩

theorem arp_splices (op m1 i1 m2 i2 : Nat) : splice (splice (splice (splice (splice (List.replicate 28 0) 0 (arpHead ++ [op])) 8 (Mt.octs m1 6)) 14 (Mt.octs i1 4)) 18 (Mt.octs m2 6)) 24 (Mt.octs i2 4) = arpO op m1 i1 m2 i2 := by
  have e0 : splice (List.replicate 28 0) 0 (arpHead ++ [op]) = (arpHead ++ [op]) ++ (List.replicate 28 0).drop 8 := by
    have h := splice_app [] (List.replicate 28 0) (arpHead ++ [op]) 0 rfl
    rwa [List.nil_append, List.nil_append] at h
  rw [e0, splice_app _ _ _ 8 rfl, Mt.octs_length, List.drop_drop, splice_app _ _ _ 14 (by simp [Mt.octs_length, arpHead]), Mt.octs_length, List.drop_drop, splice_app _ _ _ 18 (by simp [Mt.octs_length, arpHead]), Mt.octs_length, List.drop_drop, splice_app _ _ _ 24 (by simp [Mt.octs_length, arpHead]), Mt.octs_length, List.drop_drop]
  rfl

set_option maxRecDepth 100000 in
set_option maxHeartbeats 2000000 in
theorem arpB_ok1 (op m1 i1 m2 i2 : Nat) (w : World) (n1 : op ≤ 2) (o1 : ((op : Int) != 1) = false) (h1 : m1 ≤ 281474976710655) (h2 : m2 ≤ 281474976710655) (hi1 : i1 < 4294967296) (hi2 : i2 < 4294967296) :
    Calls Try.prog 19 #[.agg #[.int .i64 op, .int .u64 m1, .int .u32 i1, .int .u64 m2, .int .u32 i2]] w fun e w' => ∃ a' cap', e = .returned (.tuple #[.slice a' (arpO op m1 i1 m2 i2).length cap', .int .i64 0]) ∧ OwnSl w.heap.size a' (arpO op m1 i1 m2 i2) cap' w' ∧ Below w.heap.size w w' := by
  have hfin := arp_splices op m1 i1 m2 i2
  obtain ⟨A0, h0⟩ : ∃ A, splice (List.replicate 28 0) 0 (arpHead ++ [op]) = A := ⟨_, rfl⟩
  have l0 : A0.length = 28 := by rw [← h0, length_splice _ _ _ (by simp [arpHead]), List.length_replicate]
  obtain ⟨A1, g1⟩ : ∃ A, splice A0 8 (Mt.octs m1 6) = A := ⟨_, rfl⟩
  have l1 : A1.length = 28 := by rw [← g1, length_splice _ _ _ (by rw [Mt.octs_length, l0]; omega), l0]
  have c1 : ∀ W, OwnSl (w.heap.size + 1) (some ⟨w.heap.size + 1, 0, none⟩) A0 28 W → Calls Try.prog 53 #[.slice (some ⟨w.heap.size + 1, 8, none⟩) 6 20, .int .u64 m1] W.drew fun e w' => (∃ v, e = .returned v) ∧ OwnSl (w.heap.size + 1) (some ⟨w.heap.size + 1, 0, none⟩) A1 28 w' ∧ W.grownBy w' (some (w.heap.size + 1)) := fun W O => layg_ether _ _ 8 28 m1 6 20 _ _ W O (by omega) (by omega) (by omega) (Nat.lt_of_le_of_lt h1 (by decide)) (by rw [l0]; omega) g1
  have C1 := Lib.hid c1
  clear c1
  obtain ⟨A2, g2⟩ : ∃ A, splice A1 14 (Mt.octs i1 4) = A := ⟨_, rfl⟩
  have l2 : A2.length = 28 := by rw [← g2, length_splice _ _ _ (by rw [Mt.octs_length, l1]; omega), l1]
  have c2 : ∀ W, OwnSl (w.heap.size + 1) (some ⟨w.heap.size + 1, 0, none⟩) A1 28 W → Calls Try.prog 53 #[.slice (some ⟨w.heap.size + 1, 14, none⟩) 4 14, .int .u64 i1] W.drew fun e w' => (∃ v, e = .returned v) ∧ OwnSl (w.heap.size + 1) (some ⟨w.heap.size + 1, 0, none⟩) A2 28 w' ∧ W.grownBy w' (some (w.heap.size + 1)) := fun W O => layg_ether _ _ 14 28 i1 4 14 _ _ W O (by omega) (by omega) (by omega) (Nat.lt_of_lt_of_le hi1 (by decide)) (by rw [l1]; omega) g2
  have C2 := Lib.hid c2
  clear c2
  obtain ⟨A3, g3⟩ : ∃ A, splice A2 18 (Mt.octs m2 6) = A := ⟨_, rfl⟩
  have l3 : A3.length = 28 := by rw [← g3, length_splice _ _ _ (by rw [Mt.octs_length, l2]; omega), l2]
  have c3 : ∀ W, OwnSl (w.heap.size + 1) (some ⟨w.heap.size + 1, 0, none⟩) A2 28 W → Calls Try.prog 53 #[.slice (some ⟨w.heap.size + 1, 18, none⟩) 6 10, .int .u64 m2] W.drew fun e w' => (∃ v, e = .returned v) ∧ OwnSl (w.heap.size + 1) (some ⟨w.heap.size + 1, 0, none⟩) A3 28 w' ∧ W.grownBy w' (some (w.heap.size + 1)) := fun W O => layg_ether _ _ 18 28 m2 6 10 _ _ W O (by omega) (by omega) (by omega) (Nat.lt_of_le_of_lt h2 (by decide)) (by rw [l2]; omega) g3
  have C3 := Lib.hid c3
  clear c3
  obtain ⟨A4, g4⟩ : ∃ A, splice A3 24 (Mt.octs i2 4) = A := ⟨_, rfl⟩
  have l4 : A4.length = 28 := by rw [← g4, length_splice _ _ _ (by rw [Mt.octs_length, l3]; omega), l3]
  have c4 : ∀ W, OwnSl (w.heap.size + 1) (some ⟨w.heap.size + 1, 0, none⟩) A3 28 W → Calls Try.prog 53 #[.slice (some ⟨w.heap.size + 1, 24, none⟩) 4 4, .int .u64 i2] W.drew fun e w' => (∃ v, e = .returned v) ∧ OwnSl (w.heap.size + 1) (some ⟨w.heap.size + 1, 0, none⟩) A4 28 w' ∧ W.grownBy w' (some (w.heap.size + 1)) := fun W O => layg_ether _ _ 24 28 i2 4 4 _ _ W O (by omega) (by omega) (by omega) (Nat.lt_of_lt_of_le hi2 (by decide)) (by rw [l3]; omega) g4
  have C4 := Lib.hid c4
  clear c4
  rw [h0, g1, g2, g3, g4] at hfin
  have Hfin := Lib.hid hfin
  have H0 := Lib.hid h0
  have L4 := Lib.hid l4
  clear hfin h0 l0 g1 l1 g2 l2 g3 l3 g4 l4
  have bn := blk_new w (.cells #[.int .i64 op, .int .u64 m1, .int .u32 i1, .int .u64 m2, .int .u32 i2] 28)
  have hsz : (w.alloc (.cells #[.int .i64 op, .int .u64 m1, .int .u32 i1, .int .u64 m2, .int .u32 i2] 28)).heap.size = w.heap.size + 1 := by rw [World.size_alloc]
  have bw := (Below.refl _ w).alloc (Nat.le_refl _) (.cells #[.int .i64 op, .int .u64 m1, .int .u32 i1, .int .u64 m2, .int .u32 i2] 28)
  have e1 : IntKind.u8.wrap (op : Int) = (op : Int) := IntWalk.u8_in _ (by omega)
  obtain ⟨i0, hi, hz0, hz1, hz2⟩ := info_parts info5
  have Hz := Lib.hid hz2
  have K0 := Lib.hid bn
  have HS := Lib.hid hsz
  clear bn hsz
  go_enter Try.func19, Try.ntmps19
  go_wp2_with (at_make; refine wpList_make_full _ rfl _ _ 23 rfl (w.heap.size + 1) 5 i0 (.int .u8 0) 1 Try.underlying23 hi hz0 hz1 .i64 .i64 _ _ 28 rfl rfl rfl rfl (by rw [Hz.out]; decide) (by unfold maxLen; decide) (Nat.le_of_eq HS.out.symm) ?_; intro w1 hown hgrow; have b1 := (Below.refl (w.heap.size + 1) _).grown hgrow (Nat.le_of_eq HS.out.symm) (fun k e => by cases e); have k := (b1.block w.heap.size (Nat.lt_succ_self _)).trans K0.out; have K1 := Lib.hid k; have r1 := blk_cell k 0; clear k)
  have O1 : Hid (OwnSl (w.heap.size + 1) (some ⟨w.heap.size + 1, 0, none⟩) (List.replicate 28 0) 28 w1) := by rw [HS.out] at hown; exact Lib.hid (own_made hown (Nat.le_refl _))
  have S1 : w.heap.size + 1 ≤ w1.heap.size := by have h1 := HS.out; have h2 := b1.size; omega
  have Q1 := Lib.hid (bw.trans (b1.mono (Nat.le_succ _)))
  clear hown hgrow b1 K0 bw
  refine (start_any op _).mono ?_
  rintro e w2 ⟨rfl, b2⟩
  have O2 := Lib.hid (O1.out.below b2)
  have K2 := Lib.hid ((b2.block w.heap.size S1).trans K1.out)
  have S2 := Nat.le_trans S1 b2.size
  have Q2 := Lib.hid (Q1.out.trans (b2.mono (Nat.le_trans (Nat.le_succ _) S1)))
  clear O1 K1 r1 Q1 b2
  have B2 : Hid (Bts (w2.alloc (.cells #[.int .u8 0, .int .u8 1, .int .u8 8, .int .u8 0, .int .u8 6, .int .u8 4, .int .u8 0, .int .u8 op] 92)) (some ⟨w2.heap.size, 0, none⟩) (arpHead ++ [op])) := Lib.hid (bts_new w2 (arpHead ++ [op]) 92 (by intro x hx; simp [arpHead] at hx; omega))
  have O2a : Hid (OwnSl (w.heap.size + 1) (some ⟨w.heap.size + 1, 0, none⟩) (List.replicate 28 0) 28 (w2.alloc (.cells #[.int .u8 0, .int .u8 1, .int .u8 8, .int .u8 0, .int .u8 6, .int .u8 4, .int .u8 0, .int .u8 op] 92))) := Lib.hid (O2.out.alloc _)
  have b2a : Below (w.heap.size + 1) w2 (w2.alloc (.cells #[.int .u8 0, .int .u8 1, .int .u8 8, .int .u8 0, .int .u8 6, .int .u8 4, .int .u8 0, .int .u8 op] 92)) := (Below.refl _ _).alloc S2 _
  go_wp2_with (with_reducible refine wpList_copy_bts rfl (.tmp 30) (.tmp 31) rfl (w.heap.size + 1) (w.heap.size + 1) 0 28 28 28 rfl rfl (ys := arpHead ++ [op]) rfl (by simp [arpHead]) O2a.out B2.out (fun _ => rfl) (by simp [arpHead]) ?_; intro w3 Z bg; have b := b2a.trans (O2a.out.belowOf bg); have k := (b.block w.heap.size (Nat.lt_succ_self _)).trans K2.out; have K3 := Lib.hid k; have r1 := blk_cell k 1; have r2 := blk_cell k 2; have r3 := blk_cell k 3; have r4 := blk_cell k 4; rw [H0.out] at Z; have O3 := Lib.hid Z; have Q3 := Lib.hid (Q2.out.trans (b.mono (Nat.le_succ _))); have S3 := Nat.le_trans S2 b.size; clear k Z bg b)
  clear O2a B2 O2 K2 Q2 b2a
  have ix0 : ∀ W : World, Sem.run Try.prog (Instr.index 96 (.agg #[.int .u64 m1, .int .u32 i1, .int .u64 m2, .int .u32 i2]) (.int .i64 0)) W = Result.ok (.agg #[.int .u64 m1, .int .u32 i1]) W := fun _ => by kernel_rfl
  have ix1 : ∀ W : World, Sem.run Try.prog (Instr.index 96 (.agg #[.int .u64 m1, .int .u32 i1, .int .u64 m2, .int .u32 i2]) (.int .i64 1)) W = Result.ok (.agg #[.int .u64 m2, .int .u32 i2]) W := fun _ => by kernel_rfl
  refine wp_loop_rounds 3 ?_
  rw [rounds_succ]
  go_wp2_with fail
  have w1 : IntKind.u64.wrap (i1 : Int) = (i1 : Int) := IntWalk.u64_in _ (by omega)
  have w2 : IntKind.u64.wrap (i2 : Int) = (i2 : Int) := IntWalk.u64_in _ (by omega)
  have P1 := blk_new w3 (.cells #[.int .u64 m1, .int .u32 i1] 95)
  have z1 : w3.heap.size ≠ w.heap.size + 1 := by have := O3.out.row.2.lt _ rfl; have h := this.2; intro e; rw [e] at h; exact Nat.lt_irrefl _ h
  have y1 := blk_cell P1 0
  have x1 := blk_cell P1 1
  have OA1 := Lib.hid (O3.out.alloc (.cells #[.int .u64 m1, .int .u32 i1] 95))
  have QA1 := Lib.hid (Q3.out.alloc Q3.out.size (.cells #[.int .u64 m1, .int .u32 i1] 95))
  have HP1 := Lib.hid P1
  have Z1 := Lib.hid z1
  clear P1 z1
  go_region_held3 (fun W => W.cell? ⟨w3.heap.size, 0, none⟩ = some (.int .u64 m1)) (first | go_keep) (first
    | (go_at_call 53; (with_reducible refine (C1.out _ OA1.out).mono ?_); rintro e v4 ⟨⟨u4, rfl⟩, Z, g⟩; have k := grown_block g HP1.out Z1.out; have y1 := blk_cell k 0; have x1 := blk_cell k 1; have HP1 := Lib.hid k; have b := OA1.out.belowOf g; have OB1 := Lib.hid Z; have QB1 := Lib.hid (QA1.out.trans (b.mono (Nat.le_succ _))); clear k Z g b))
  clear OA1 QA1
  go_wp2_with fail
  go_region_held3 (fun W => W.cell? ⟨w3.heap.size, 1, none⟩ = some (.int .u32 i1)) (first | go_keep) (first
    | (go_at_call 53; (with_reducible refine (C2.out _ OB1.out).mono ?_); rintro e v5 ⟨⟨u5, rfl⟩, Z, g⟩; have k := grown_block g HP1.out Z1.out; have x1 := blk_cell k 1; have b := OB1.out.belowOf g; have OC1 := Lib.hid Z; have QC1 := Lib.hid (QB1.out.trans (b.mono (Nat.le_succ _))); clear k Z g b))
  clear OB1 QB1 HP1 Z1
  clear O3 Q3 S3
  go_wp2_with fail
  rw [rounds_succ]
  go_wp2_with fail
  have P2 := blk_new v5 (.cells #[.int .u64 m2, .int .u32 i2] 95)
  have z2 : v5.heap.size ≠ w.heap.size + 1 := by have := OC1.out.row.2.lt _ rfl; have h := this.2; intro e; rw [e] at h; exact Nat.lt_irrefl _ h
  have y2 := blk_cell P2 0
  have x2 := blk_cell P2 1
  have OA2 := Lib.hid (OC1.out.alloc (.cells #[.int .u64 m2, .int .u32 i2] 95))
  have QA2 := Lib.hid (QC1.out.alloc QC1.out.size (.cells #[.int .u64 m2, .int .u32 i2] 95))
  have HP2 := Lib.hid P2
  have Z2 := Lib.hid z2
  clear P2 z2
  go_region_held3 (fun W => W.cell? ⟨v5.heap.size, 0, none⟩ = some (.int .u64 m2)) (first | go_keep) (first
    | (go_at_call 53; (with_reducible refine (C3.out _ OA2.out).mono ?_); rintro e v6 ⟨⟨u6, rfl⟩, Z, g⟩; have k := grown_block g HP2.out Z2.out; have y2 := blk_cell k 0; have x2 := blk_cell k 1; have HP2 := Lib.hid k; have b := OA2.out.belowOf g; have OB2 := Lib.hid Z; have QB2 := Lib.hid (QA2.out.trans (b.mono (Nat.le_succ _))); clear k Z g b))
  clear OA2 QA2
  go_wp2_with fail
  go_region_held3 (fun W => W.cell? ⟨v5.heap.size, 1, none⟩ = some (.int .u32 i2)) (first | go_keep) (first
    | (go_at_call 53; (with_reducible refine (C4.out _ OB2.out).mono ?_); rintro e v7 ⟨⟨u7, rfl⟩, Z, g⟩; have k := grown_block g HP2.out Z2.out; have x2 := blk_cell k 1; have b := OB2.out.belowOf g; have OC2 := Lib.hid Z; have QC2 := Lib.hid (QB2.out.trans (b.mono (Nat.le_succ _))); clear k Z g b))
  clear OB2 QB2 HP2 Z2
  go_wp2_with fail
  rw [rounds_succ]
  go_wp2
  go_ret2
  rw [Hfin.out] at OC2
  exact ⟨_, _, by rw [← Hfin.out, L4.out]; rfl, OC2.out.mono (Nat.le_succ _), QC2.out⟩

set_option maxRecDepth 100000 in
set_option maxHeartbeats 2000000 in
theorem arpB_ok2 (op m1 i1 m2 i2 : Nat) (w : World) (n1 : op ≤ 2) (o1 : ((op : Int) != 1) = true) (o2 : ((op : Int) != 2) = false) (h1 : m1 ≤ 281474976710655) (h2 : m2 ≤ 281474976710655) (hi1 : i1 < 4294967296) (hi2 : i2 < 4294967296) :
    Calls Try.prog 19 #[.agg #[.int .i64 op, .int .u64 m1, .int .u32 i1, .int .u64 m2, .int .u32 i2]] w fun e w' => ∃ a' cap', e = .returned (.tuple #[.slice a' (arpO op m1 i1 m2 i2).length cap', .int .i64 0]) ∧ OwnSl w.heap.size a' (arpO op m1 i1 m2 i2) cap' w' ∧ Below w.heap.size w w' := by
  have hfin := arp_splices op m1 i1 m2 i2
  obtain ⟨A0, h0⟩ : ∃ A, splice (List.replicate 28 0) 0 (arpHead ++ [op]) = A := ⟨_, rfl⟩
  have l0 : A0.length = 28 := by rw [← h0, length_splice _ _ _ (by simp [arpHead]), List.length_replicate]
  obtain ⟨A1, g1⟩ : ∃ A, splice A0 8 (Mt.octs m1 6) = A := ⟨_, rfl⟩
  have l1 : A1.length = 28 := by rw [← g1, length_splice _ _ _ (by rw [Mt.octs_length, l0]; omega), l0]
  have c1 : ∀ W, OwnSl (w.heap.size + 1) (some ⟨w.heap.size + 1, 0, none⟩) A0 28 W → Calls Try.prog 53 #[.slice (some ⟨w.heap.size + 1, 8, none⟩) 6 20, .int .u64 m1] W.drew fun e w' => (∃ v, e = .returned v) ∧ OwnSl (w.heap.size + 1) (some ⟨w.heap.size + 1, 0, none⟩) A1 28 w' ∧ W.grownBy w' (some (w.heap.size + 1)) := fun W O => layg_ether _ _ 8 28 m1 6 20 _ _ W O (by omega) (by omega) (by omega) (Nat.lt_of_le_of_lt h1 (by decide)) (by rw [l0]; omega) g1
  have C1 := Lib.hid c1
  clear c1
  obtain ⟨A2, g2⟩ : ∃ A, splice A1 14 (Mt.octs i1 4) = A := ⟨_, rfl⟩
  have l2 : A2.length = 28 := by rw [← g2, length_splice _ _ _ (by rw [Mt.octs_length, l1]; omega), l1]
  have c2 : ∀ W, OwnSl (w.heap.size + 1) (some ⟨w.heap.size + 1, 0, none⟩) A1 28 W → Calls Try.prog 53 #[.slice (some ⟨w.heap.size + 1, 14, none⟩) 4 14, .int .u64 i1] W.drew fun e w' => (∃ v, e = .returned v) ∧ OwnSl (w.heap.size + 1) (some ⟨w.heap.size + 1, 0, none⟩) A2 28 w' ∧ W.grownBy w' (some (w.heap.size + 1)) := fun W O => layg_ether _ _ 14 28 i1 4 14 _ _ W O (by omega) (by omega) (by omega) (Nat.lt_of_lt_of_le hi1 (by decide)) (by rw [l1]; omega) g2
  have C2 := Lib.hid c2
  clear c2
  obtain ⟨A3, g3⟩ : ∃ A, splice A2 18 (Mt.octs m2 6) = A := ⟨_, rfl⟩
  have l3 : A3.length = 28 := by rw [← g3, length_splice _ _ _ (by rw [Mt.octs_length, l2]; omega), l2]
  have c3 : ∀ W, OwnSl (w.heap.size + 1) (some ⟨w.heap.size + 1, 0, none⟩) A2 28 W → Calls Try.prog 53 #[.slice (some ⟨w.heap.size + 1, 18, none⟩) 6 10, .int .u64 m2] W.drew fun e w' => (∃ v, e = .returned v) ∧ OwnSl (w.heap.size + 1) (some ⟨w.heap.size + 1, 0, none⟩) A3 28 w' ∧ W.grownBy w' (some (w.heap.size + 1)) := fun W O => layg_ether _ _ 18 28 m2 6 10 _ _ W O (by omega) (by omega) (by omega) (Nat.lt_of_le_of_lt h2 (by decide)) (by rw [l2]; omega) g3
  have C3 := Lib.hid c3
  clear c3
  obtain ⟨A4, g4⟩ : ∃ A, splice A3 24 (Mt.octs i2 4) = A := ⟨_, rfl⟩
  have l4 : A4.length = 28 := by rw [← g4, length_splice _ _ _ (by rw [Mt.octs_length, l3]; omega), l3]
  have c4 : ∀ W, OwnSl (w.heap.size + 1) (some ⟨w.heap.size + 1, 0, none⟩) A3 28 W → Calls Try.prog 53 #[.slice (some ⟨w.heap.size + 1, 24, none⟩) 4 4, .int .u64 i2] W.drew fun e w' => (∃ v, e = .returned v) ∧ OwnSl (w.heap.size + 1) (some ⟨w.heap.size + 1, 0, none⟩) A4 28 w' ∧ W.grownBy w' (some (w.heap.size + 1)) := fun W O => layg_ether _ _ 24 28 i2 4 4 _ _ W O (by omega) (by omega) (by omega) (Nat.lt_of_lt_of_le hi2 (by decide)) (by rw [l3]; omega) g4
  have C4 := Lib.hid c4
  clear c4
  rw [h0, g1, g2, g3, g4] at hfin
  have Hfin := Lib.hid hfin
  have H0 := Lib.hid h0
  have L4 := Lib.hid l4
  clear hfin h0 l0 g1 l1 g2 l2 g3 l3 g4 l4
  have bn := blk_new w (.cells #[.int .i64 op, .int .u64 m1, .int .u32 i1, .int .u64 m2, .int .u32 i2] 28)
  have hsz : (w.alloc (.cells #[.int .i64 op, .int .u64 m1, .int .u32 i1, .int .u64 m2, .int .u32 i2] 28)).heap.size = w.heap.size + 1 := by rw [World.size_alloc]
  have bw := (Below.refl _ w).alloc (Nat.le_refl _) (.cells #[.int .i64 op, .int .u64 m1, .int .u32 i1, .int .u64 m2, .int .u32 i2] 28)
  have e1 : IntKind.u8.wrap (op : Int) = (op : Int) := IntWalk.u8_in _ (by omega)
  obtain ⟨i0, hi, hz0, hz1, hz2⟩ := info_parts info5
  have Hz := Lib.hid hz2
  have K0 := Lib.hid bn
  have HS := Lib.hid hsz
  clear bn hsz
  go_enter Try.func19, Try.ntmps19
  go_wp2_with (at_make; refine wpList_make_full _ rfl _ _ 23 rfl (w.heap.size + 1) 5 i0 (.int .u8 0) 1 Try.underlying23 hi hz0 hz1 .i64 .i64 _ _ 28 rfl rfl rfl rfl (by rw [Hz.out]; decide) (by unfold maxLen; decide) (Nat.le_of_eq HS.out.symm) ?_; intro w1 hown hgrow; have b1 := (Below.refl (w.heap.size + 1) _).grown hgrow (Nat.le_of_eq HS.out.symm) (fun k e => by cases e); have k := (b1.block w.heap.size (Nat.lt_succ_self _)).trans K0.out; have K1 := Lib.hid k; have r1 := blk_cell k 0; clear k)
  have O1 : Hid (OwnSl (w.heap.size + 1) (some ⟨w.heap.size + 1, 0, none⟩) (List.replicate 28 0) 28 w1) := by rw [HS.out] at hown; exact Lib.hid (own_made hown (Nat.le_refl _))
  have S1 : w.heap.size + 1 ≤ w1.heap.size := by have h1 := HS.out; have h2 := b1.size; omega
  have Q1 := Lib.hid (bw.trans (b1.mono (Nat.le_succ _)))
  clear hown hgrow b1 K0 bw
  refine (start_any op _).mono ?_
  rintro e w2 ⟨rfl, b2⟩
  have O2 := Lib.hid (O1.out.below b2)
  have K2 := Lib.hid ((b2.block w.heap.size S1).trans K1.out)
  have S2 := Nat.le_trans S1 b2.size
  have Q2 := Lib.hid (Q1.out.trans (b2.mono (Nat.le_trans (Nat.le_succ _) S1)))
  clear O1 K1 r1 Q1 b2
  have B2 : Hid (Bts (w2.alloc (.cells #[.int .u8 0, .int .u8 1, .int .u8 8, .int .u8 0, .int .u8 6, .int .u8 4, .int .u8 0, .int .u8 op] 92)) (some ⟨w2.heap.size, 0, none⟩) (arpHead ++ [op])) := Lib.hid (bts_new w2 (arpHead ++ [op]) 92 (by intro x hx; simp [arpHead] at hx; omega))
  have O2a : Hid (OwnSl (w.heap.size + 1) (some ⟨w.heap.size + 1, 0, none⟩) (List.replicate 28 0) 28 (w2.alloc (.cells #[.int .u8 0, .int .u8 1, .int .u8 8, .int .u8 0, .int .u8 6, .int .u8 4, .int .u8 0, .int .u8 op] 92))) := Lib.hid (O2.out.alloc _)
  have b2a : Below (w.heap.size + 1) w2 (w2.alloc (.cells #[.int .u8 0, .int .u8 1, .int .u8 8, .int .u8 0, .int .u8 6, .int .u8 4, .int .u8 0, .int .u8 op] 92)) := (Below.refl _ _).alloc S2 _
  go_wp2_with (with_reducible refine wpList_copy_bts rfl (.tmp 30) (.tmp 31) rfl (w.heap.size + 1) (w.heap.size + 1) 0 28 28 28 rfl rfl (ys := arpHead ++ [op]) rfl (by simp [arpHead]) O2a.out B2.out (fun _ => rfl) (by simp [arpHead]) ?_; intro w3 Z bg; have b := b2a.trans (O2a.out.belowOf bg); have k := (b.block w.heap.size (Nat.lt_succ_self _)).trans K2.out; have K3 := Lib.hid k; have r1 := blk_cell k 1; have r2 := blk_cell k 2; have r3 := blk_cell k 3; have r4 := blk_cell k 4; rw [H0.out] at Z; have O3 := Lib.hid Z; have Q3 := Lib.hid (Q2.out.trans (b.mono (Nat.le_succ _))); have S3 := Nat.le_trans S2 b.size; clear k Z bg b)
  clear O2a B2 O2 K2 Q2 b2a
  have ix0 : ∀ W : World, Sem.run Try.prog (Instr.index 96 (.agg #[.int .u64 m1, .int .u32 i1, .int .u64 m2, .int .u32 i2]) (.int .i64 0)) W = Result.ok (.agg #[.int .u64 m1, .int .u32 i1]) W := fun _ => by kernel_rfl
  have ix1 : ∀ W : World, Sem.run Try.prog (Instr.index 96 (.agg #[.int .u64 m1, .int .u32 i1, .int .u64 m2, .int .u32 i2]) (.int .i64 1)) W = Result.ok (.agg #[.int .u64 m2, .int .u32 i2]) W := fun _ => by kernel_rfl
  refine wp_loop_rounds 3 ?_
  rw [rounds_succ]
  go_wp2_with fail
  have w1 : IntKind.u64.wrap (i1 : Int) = (i1 : Int) := IntWalk.u64_in _ (by omega)
  have w2 : IntKind.u64.wrap (i2 : Int) = (i2 : Int) := IntWalk.u64_in _ (by omega)
  have P1 := blk_new w3 (.cells #[.int .u64 m1, .int .u32 i1] 95)
  have z1 : w3.heap.size ≠ w.heap.size + 1 := by have := O3.out.row.2.lt _ rfl; have h := this.2; intro e; rw [e] at h; exact Nat.lt_irrefl _ h
  have y1 := blk_cell P1 0
  have x1 := blk_cell P1 1
  have OA1 := Lib.hid (O3.out.alloc (.cells #[.int .u64 m1, .int .u32 i1] 95))
  have QA1 := Lib.hid (Q3.out.alloc Q3.out.size (.cells #[.int .u64 m1, .int .u32 i1] 95))
  have HP1 := Lib.hid P1
  have Z1 := Lib.hid z1
  clear P1 z1
  go_region_held3 (fun W => W.cell? ⟨w3.heap.size, 0, none⟩ = some (.int .u64 m1)) (first | go_keep) (first
    | (go_at_call 53; (with_reducible refine (C1.out _ OA1.out).mono ?_); rintro e v4 ⟨⟨u4, rfl⟩, Z, g⟩; have k := grown_block g HP1.out Z1.out; have y1 := blk_cell k 0; have x1 := blk_cell k 1; have HP1 := Lib.hid k; have b := OA1.out.belowOf g; have OB1 := Lib.hid Z; have QB1 := Lib.hid (QA1.out.trans (b.mono (Nat.le_succ _))); clear k Z g b))
  clear OA1 QA1
  go_wp2_with fail
  go_region_held3 (fun W => W.cell? ⟨w3.heap.size, 1, none⟩ = some (.int .u32 i1)) (first | go_keep) (first
    | (go_at_call 53; (with_reducible refine (C2.out _ OB1.out).mono ?_); rintro e v5 ⟨⟨u5, rfl⟩, Z, g⟩; have k := grown_block g HP1.out Z1.out; have x1 := blk_cell k 1; have b := OB1.out.belowOf g; have OC1 := Lib.hid Z; have QC1 := Lib.hid (QB1.out.trans (b.mono (Nat.le_succ _))); clear k Z g b))
  clear OB1 QB1 HP1 Z1
  clear O3 Q3 S3
  go_wp2_with fail
  rw [rounds_succ]
  go_wp2_with fail
  have P2 := blk_new v5 (.cells #[.int .u64 m2, .int .u32 i2] 95)
  have z2 : v5.heap.size ≠ w.heap.size + 1 := by have := OC1.out.row.2.lt _ rfl; have h := this.2; intro e; rw [e] at h; exact Nat.lt_irrefl _ h
  have y2 := blk_cell P2 0
  have x2 := blk_cell P2 1
  have OA2 := Lib.hid (OC1.out.alloc (.cells #[.int .u64 m2, .int .u32 i2] 95))
  have QA2 := Lib.hid (QC1.out.alloc QC1.out.size (.cells #[.int .u64 m2, .int .u32 i2] 95))
  have HP2 := Lib.hid P2
  have Z2 := Lib.hid z2
  clear P2 z2
  go_region_held3 (fun W => W.cell? ⟨v5.heap.size, 0, none⟩ = some (.int .u64 m2)) (first | go_keep) (first
    | (go_at_call 53; (with_reducible refine (C3.out _ OA2.out).mono ?_); rintro e v6 ⟨⟨u6, rfl⟩, Z, g⟩; have k := grown_block g HP2.out Z2.out; have y2 := blk_cell k 0; have x2 := blk_cell k 1; have HP2 := Lib.hid k; have b := OA2.out.belowOf g; have OB2 := Lib.hid Z; have QB2 := Lib.hid (QA2.out.trans (b.mono (Nat.le_succ _))); clear k Z g b))
  clear OA2 QA2
  go_wp2_with fail
  go_region_held3 (fun W => W.cell? ⟨v5.heap.size, 1, none⟩ = some (.int .u32 i2)) (first | go_keep) (first
    | (go_at_call 53; (with_reducible refine (C4.out _ OB2.out).mono ?_); rintro e v7 ⟨⟨u7, rfl⟩, Z, g⟩; have k := grown_block g HP2.out Z2.out; have x2 := blk_cell k 1; have b := OB2.out.belowOf g; have OC2 := Lib.hid Z; have QC2 := Lib.hid (QB2.out.trans (b.mono (Nat.le_succ _))); clear k Z g b))
  clear OB2 QB2 HP2 Z2
  go_wp2_with fail
  rw [rounds_succ]
  go_wp2
  go_ret2
  rw [Hfin.out] at OC2
  exact ⟨_, _, by rw [← Hfin.out, L4.out]; rfl, OC2.out.mono (Nat.le_succ _), QC2.out⟩

theorem arpB_ok (op m1 i1 m2 i2 : Nat) (w : World) (ho : op = 1 ∨ op = 2) (h1 : m1 ≤ 281474976710655) (h2 : m2 ≤ 281474976710655) (hi1 : i1 < 4294967296) (hi2 : i2 < 4294967296) :
    Calls Try.prog 19 #[.agg #[.int .i64 op, .int .u64 m1, .int .u32 i1, .int .u64 m2, .int .u32 i2]] w fun e w' => ∃ a' cap', e = .returned (.tuple #[.slice a' (arpO op m1 i1 m2 i2).length cap', .int .i64 0]) ∧ OwnSl w.heap.size a' (arpO op m1 i1 m2 i2) cap' w' ∧ Below w.heap.size w w' := by
  rcases ho with rfl | rfl
  · exact arpB_ok1 1 m1 i1 m2 i2 w (by omega) rfl h1 h2 hi1 hi2
  · exact arpB_ok2 2 m1 i1 m2 i2 w (by omega) rfl rfl h1 h2 hi1 hi2

set_option maxHeartbeats 1000000 in
theorem arpB_op (op : Int) (m1 i1 m2 i2 : Nat) (w : World) (h1 : op ≠ 1) (h2 : op ≠ 2) :
    Calls Try.prog 19 #[.agg #[.int .i64 op, .int .u64 m1, .int .u32 i1, .int .u64 m2, .int .u32 i2]] w fun e w' => e = .returned (.tuple #[.slice none 0 0, .int .i64 31]) ∧ Below w.heap.size w w' := by
  have o1 : (op != 1) = true := by rw [bne_iff_ne]; exact h1
  have o2 : (op != 2) = true := by rw [bne_iff_ne]; exact h2
  have bw := (Below.refl _ w).alloc (Nat.le_refl _) (.cells #[.int .i64 op, .int .u64 m1, .int .u32 i1, .int .u64 m2, .int .u32 i2] 28)
  clear h1 h2
  go_enter Try.func19, Try.ntmps19
  go_wp2
  go_ret2
  exact ⟨rfl, bw⟩

set_option maxHeartbeats 1000000 in
theorem arpB_mac (op m1 i1 m2 i2 : Nat) (w : World) (ho : op = 1 ∨ op = 2) (h : 281474976710655 < m1 ∨ 281474976710655 < m2) :
    Calls Try.prog 19 #[.agg #[.int .i64 op, .int .u64 m1, .int .u32 i1, .int .u64 m2, .int .u32 i2]] w fun e w' => e = .returned (.tuple #[.slice none 0 0, .int .i64 4]) ∧ Below w.heap.size w w' := by
  have bw := (Below.refl _ w).alloc (Nat.le_refl _) (.cells #[.int .i64 op, .int .u64 m1, .int .u32 i1, .int .u64 m2, .int .u32 i2] 28)
  have key : ∀ (b1 b2 : Bool), ((op : Int) != 1) = b1 → ((op : Int) != 2) = b2 → (b1 && b2) = false → Calls Try.prog 19 #[.agg #[.int .i64 op, .int .u64 m1, .int .u32 i1, .int .u64 m2, .int .u32 i2]] w fun e w' => e = .returned (.tuple #[.slice none 0 0, .int .i64 4]) ∧ Below w.heap.size w w' := by
    intro b1 b2 o1 o2 hb
    clear ho
    by_cases h1 : 281474976710655 < m1
    · clear h
      cases b1 <;> cases b2 <;> first | (exfalso; simp at hb; done) | (clear hb; go_enter Try.func19, Try.ntmps19; go_wp2; go_ret2; exact ⟨rfl, bw⟩)
    · have h2 : 281474976710655 < m2 := by omega
      clear h
      cases b1 <;> cases b2 <;> first | (exfalso; simp at hb; done) | (clear hb; go_enter Try.func19, Try.ntmps19; go_wp2; go_ret2; exact ⟨rfl, bw⟩)
  rcases ho with rfl | rfl
  · exact key false true rfl rfl rfl
  · exact key true false rfl rfl rfl
end Go.Proofs.Ytdiomelldhkibaa
