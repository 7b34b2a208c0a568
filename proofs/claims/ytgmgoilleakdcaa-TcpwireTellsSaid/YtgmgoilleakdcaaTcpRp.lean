/- What the document's Check tells of a segment with too much data, and of one that may be. -/
import Derived.Test.YtgmgoilleakdcaaTcpRl
import Derived.Test.YtgmgoilleakdcaaTcpRr
import Derived.Test.YtgmgoilleakdcaaTcpC
import Derived.Deep.RegionHeld3
import Derived.Deep.CutRange
namespace Go.Proofs.Ytgmgoilleakdcaa
open Go.RowKit

set_option linter.unusedSimpArgs false in
set_option maxRecDepth 100000 in
set_option maxHeartbeats 4000000 in
theorem rck_ff (sp dp sq ak fl wn ur mss : Nat) (sk : Bool) (ba : Option Addr) (bs : List (Nat × Nat)) (bc : Nat) (da : Option Addr) (dn dc : Nat) (L : List Nat) (c : Int) (w : World) (h1 : mss < 65536) (h5 : bs.length ≤ 4) (h6 : L.length ≤ 40)
    (hc : c = 5 ∧ 65515 < dn + L.length ∨ c = 0 ∧ dn + L.length ≤ 65515)
    (P : ∀ W, Below w.heap.size w W → Calls Try.prog 27 #[.agg #[.int .u16 (sp : Nat), .int .u16 (dp : Nat), .int .u32 (sq : Nat), .int .u32 (ak : Nat), .int .u8 (fl : Nat), .int .u16 (wn : Nat), .int .u16 (ur : Nat), .int .i64 (mss : Nat), .bool false, .int .i64 ((0 : Nat) : Int), .bool sk, .slice ba bs.length bc, .bool false, .int .u32 ((0 : Nat) : Int), .int .u32 ((0 : Nat) : Int), .slice da dn dc]] W fun e w' => (∃ a cap, e = .returned (.slice a L.length cap) ∧ OwnSl (W.heap.size + 1) a L cap w') ∧ Below W.heap.size W w') :
    Calls Try.prog 16 #[.agg #[.int .u16 (sp : Nat), .int .u16 (dp : Nat), .int .u32 (sq : Nat), .int .u32 (ak : Nat), .int .u8 (fl : Nat), .int .u16 (wn : Nat), .int .u16 (ur : Nat), .int .i64 (mss : Nat), .bool false, .int .i64 ((0 : Nat) : Int), .bool sk, .slice ba bs.length bc, .bool false, .int .u32 ((0 : Nat) : Int), .int .u32 ((0 : Nat) : Int), .slice da dn dc]] w fun e w' => e = .returned (.int .i64 c) ∧ Below w.heap.size w w' := by
  have bw := (Below.refl _ w).alloc (Nat.le_refl _) (.cells #[.int .u16 (sp : Nat), .int .u16 (dp : Nat), .int .u32 (sq : Nat), .int .u32 (ak : Nat), .int .u8 (fl : Nat), .int .u16 (wn : Nat), .int .u16 (ur : Nat), .int .i64 (mss : Nat), .bool false, .int .i64 ((0 : Nat) : Int), .bool sk, .slice ba bs.length bc, .bool false, .int .u32 ((0 : Nat) : Int), .int .u32 ((0 : Nat) : Int), .slice da dn dc] 27)
  have bn := blk_new w (.cells #[.int .u16 (sp : Nat), .int .u16 (dp : Nat), .int .u32 (sq : Nat), .int .u32 (ak : Nat), .int .u8 (fl : Nat), .int .u16 (wn : Nat), .int .u16 (ur : Nat), .int .i64 (mss : Nat), .bool false, .int .i64 ((0 : Nat) : Int), .bool sk, .slice ba bs.length bc, .bool false, .int .u32 ((0 : Nat) : Int), .int .u32 ((0 : Nat) : Int), .slice da dn dc] 27)
  have hsz : w.heap.size < (w.alloc (.cells #[.int .u16 (sp : Nat), .int .u16 (dp : Nat), .int .u32 (sq : Nat), .int .u32 (ak : Nat), .int .u8 (fl : Nat), .int .u16 (wn : Nat), .int .u16 (ur : Nat), .int .i64 (mss : Nat), .bool false, .int .i64 ((0 : Nat) : Int), .bool sk, .slice ba bs.length bc, .bool false, .int .u32 ((0 : Nat) : Int), .int .u32 ((0 : Nat) : Int), .slice da dn dc] 27)).heap.size := by rw [World.size_alloc]; exact Nat.lt_succ_self _
  have i5 : (bs.length : Int) ≤ 4 := by omega
  have i1 : (mss : Int) ≤ 65535 := by omega
  have i6 : ¬ (40 : Int) < (L.length : Int) := by omega
  have i8 : IntKind.i64.wrap (65515 - (L.length : Int)) = 65515 - (L.length : Int) := IntWalk.i64_in _ ⟨by omega, by omega⟩
  have K0 : Hid (TcpAt (w.alloc (.cells #[.int .u16 (sp : Nat), .int .u16 (dp : Nat), .int .u32 (sq : Nat), .int .u32 (ak : Nat), .int .u8 (fl : Nat), .int .u16 (wn : Nat), .int .u16 (ur : Nat), .int .i64 (mss : Nat), .bool false, .int .i64 ((0 : Nat) : Int), .bool sk, .slice ba bs.length bc, .bool false, .int .u32 ((0 : Nat) : Int), .int .u32 ((0 : Nat) : Int), .slice da dn dc] 27)) w.heap.size #[.int .u16 (sp : Nat), .int .u16 (dp : Nat), .int .u32 (sq : Nat), .int .u32 (ak : Nat), .int .u8 (fl : Nat), .int .u16 (wn : Nat), .int .u16 (ur : Nat), .int .i64 (mss : Nat), .bool false, .int .i64 ((0 : Nat) : Int), .bool sk, .slice ba bs.length bc, .bool false, .int .u32 ((0 : Nat) : Int), .int .u32 ((0 : Nat) : Int), .slice da dn dc]) := Lib.hid bn
  have HSZ := Lib.hid hsz
  have BW := Lib.hid bw
  have HP := Lib.hid P
  have HC := Lib.hid hc
  clear bw bn hsz P hc h1 h5 h6
  obtain ⟨V0, hV0⟩ : ∃ V, w.alloc (.cells #[.int .u16 (sp : Nat), .int .u16 (dp : Nat), .int .u32 (sq : Nat), .int .u32 (ak : Nat), .int .u8 (fl : Nat), .int .u16 (wn : Nat), .int .u16 (ur : Nat), .int .i64 (mss : Nat), .bool false, .int .i64 ((0 : Nat) : Int), .bool sk, .slice ba bs.length bc, .bool false, .int .u32 ((0 : Nat) : Int), .int .u32 ((0 : Nat) : Int), .slice da dn dc] 27) = V := ⟨_, rfl⟩
  have HV0 := Lib.hid hV0
  rw [hV0] at K0 HSZ BW
  clear hV0
  go_enter Try.func16, Try.ntmps16
  go_upto_region 3 with (fail)
  go_cut [47] from 3 (fun (v : Value) wc => v = .bool false ∧ wc = V0)
  case first =>
    go_wp2_with fail
    go_meet
    exact ⟨congrArg Value.bool (decide_eq_false (by omega)), HV0.out⟩
  case rest =>
    obtain ⟨rfl, rfl⟩ := hcut
    clear HV0
    go_upto_region 7 with (first
      | ((with_reducible show wpList _ _ _ _ _ _); refine wpList_load_tcp rfl (.tmp 1) rfl w.heap.size rfl _ K0.out rfl ?_)
      | (go_at_call 27; refine (HP.out _ BW.out).mono ?_; rintro e w2 ⟨⟨a2, c2, rfl, _⟩, b2⟩; have K3 := Lib.hid (show TcpAt w2.drew w.heap.size _ from (b2.block _ HSZ.out).trans K0.out); have BW2 := Lib.hid ((BW.out.trans (b2.mono BW.out.size)).drew); have HZ2 : Hid (w.heap.size < w2.drew.heap.size) := Lib.hid (Nat.lt_of_lt_of_le HSZ.out b2.size); clear b2 BW K0 HSZ)
      | fail)
    go_cut [57] from 48 (fun (v : Value) wc => v = .bool (decide (65515 - (L.length : Int) < (dn : Int))) ∧ Below w.heap.size w wc)
    case first =>
      refine wp_region_held_drew (S := fun W => TcpAt W w.heap.size #[.int .u16 (sp : Nat), .int .u16 (dp : Nat), .int .u32 (sq : Nat), .int .u32 (ak : Nat), .int .u8 (fl : Nat), .int .u16 (wn : Nat), .int .u16 (ur : Nat), .int .i64 (mss : Nat), .bool false, .int .i64 ((0 : Nat) : Int), .bool sk, .slice ba bs.length bc, .bool false, .int .u32 ((0 : Nat) : Int), .int .u32 ((0 : Nat) : Int), .slice da dn dc] ∧ Below w.heap.size w W) (by kernel_rfl) ⟨K3.out, BW2.out⟩ (fun hHeld => ?_)
      refine wpAnyH_take (i := 0) (oi := _) (v := ?_) rfl (by kernel_rfl) (by kernel_rfl) (by kernel_rfl) (fun _ _ _ h => h) (Or.inl ⟨by rfl, ?_⟩) (by assumption) ?_
      rotate_left
      · intro w5 hSw
        clear hSw
        go_simp
        all_goals with_reducible rfl
      (try simp only [List.getElem_toArray]); (try simp only [List.getElem_cons_succ]); (try simp only [List.getElem_cons_zero]); try simp only [Act.put, List.setIfInBounds_toArray, List.set_cons_zero, List.set_cons_succ]
      refine wpAnyH_take (i := 1) (oi := _) (v := ?_) rfl (by kernel_rfl) (by kernel_rfl) (by kernel_rfl) (fun _ _ _ h => h) (Or.inl ⟨by rfl, ?_⟩) (by assumption) ?_
      rotate_left
      · intro w5 hSw
        have c15 := blk_cell (show TcpAt w5 w.heap.size _ ∧ Below w.heap.size w w5 from hSw).1 15
        clear hSw
        go_simp
        all_goals with_reducible rfl
      (try simp only [List.getElem_toArray]); (try simp only [List.getElem_cons_succ]); (try simp only [List.getElem_cons_zero]); try simp only [Act.put, List.setIfInBounds_toArray, List.set_cons_zero, List.set_cons_succ]
      refine wpAnyH_take (i := 2) (oi := _) (v := ?_) rfl (by kernel_rfl) (by kernel_rfl) (by kernel_rfl) (fun _ _ _ h => h) (Or.inl ⟨by rfl, ?_⟩) (by assumption) ?_
      rotate_left
      · intro w5 hSw
        clear hSw
        go_simp
        all_goals with_reducible rfl
      (try simp only [List.getElem_toArray]); (try simp only [List.getElem_cons_succ]); (try simp only [List.getElem_cons_zero]); try simp only [Act.put, List.setIfInBounds_toArray, List.set_cons_zero, List.set_cons_succ]
      refine wpAnyH_take (i := 3) (oi := _) (v := .agg #[.int .u16 (sp : Nat), .int .u16 (dp : Nat), .int .u32 (sq : Nat), .int .u32 (ak : Nat), .int .u8 (fl : Nat), .int .u16 (wn : Nat), .int .u16 (ur : Nat), .int .i64 (mss : Nat), .bool false, .int .i64 ((0 : Nat) : Int), .bool sk, .slice ba bs.length bc, .bool false, .int .u32 ((0 : Nat) : Int), .int .u32 ((0 : Nat) : Int), .slice da dn dc]) rfl (by kernel_rfl) (by kernel_rfl) (by kernel_rfl) (fun _ _ _ h => h) (yieldsIf_tcp rfl (.tmp 1) rfl w.heap.size rfl _ (fun W hW => (show TcpAt W w.heap.size _ ∧ Below w.heap.size w W from hW).1) rfl) (by assumption) ?_
      (try simp only [List.getElem_toArray]); (try simp only [List.getElem_cons_succ]); (try simp only [List.getElem_cons_zero]); try simp only [Act.put, List.setIfInBounds_toArray, List.set_cons_zero, List.set_cons_succ]
      refine wpAnyH_ready (rs := [4]) (by kernel_rfl) (by simp) ?_
      refine (AllReadyH.cons (o := _) rfl (fun K hK => ?_) AllReadyH.nil)
      · (try simp only [List.getElem_toArray]); (try simp only [List.getElem_cons_succ]); (try simp only [List.getElem_cons_zero])
        go_simp
        go_at_call 27
        refine (HP.out _ (show TcpAt _ w.heap.size _ ∧ Below w.heap.size w _ from hHeld).2).mono ?_
        rintro e w3 ⟨⟨a3, c3, rfl, _⟩, b3⟩
        try dsimp only
        have KK := Lib.hid (show TcpAt w3 w.heap.size _ from (b3.block _ HZ2.out).trans K3.out)
        have BB := Lib.hid (BW2.out.trans (b3.mono BW2.out.size))
        clear b3
        refine hK.out _ _ ?_ (fun hHeld => ?_)
        · exact ⟨KK.out, BB.out⟩
        clear hK K
        (try simp only [List.getElem_toArray]); (try simp only [List.getElem_cons_succ]); (try simp only [List.getElem_cons_zero]); try simp only [Act.put, List.setIfInBounds_toArray, List.set_cons_zero, List.set_cons_succ]
        refine wpAnyH_take (i := 5) (oi := _) (v := ?_) rfl (by kernel_rfl) (by kernel_rfl) (by kernel_rfl) (fun _ _ _ h => h) (Or.inl ⟨by rfl, ?_⟩) (by assumption) ?_
        rotate_left
        · intro w5 hSw
          clear hSw
          go_simp
          all_goals with_reducible rfl
        (try simp only [List.getElem_toArray]); (try simp only [List.getElem_cons_succ]); (try simp only [List.getElem_cons_zero]); try simp only [Act.put, List.setIfInBounds_toArray, List.set_cons_zero, List.set_cons_succ]
        refine wpAnyH_take (i := 6) (oi := _) (v := ?_) rfl (by kernel_rfl) (by kernel_rfl) (by kernel_rfl) (fun _ _ _ h => h) (Or.inl ⟨by rfl, ?_⟩) (by assumption) ?_
        rotate_left
        · intro w5 hSw
          clear hSw
          go_simp
          all_goals with_reducible rfl
        (try simp only [List.getElem_toArray]); (try simp only [List.getElem_cons_succ]); (try simp only [List.getElem_cons_zero]); try simp only [Act.put, List.setIfInBounds_toArray, List.set_cons_zero, List.set_cons_succ]
        refine wpAnyH_take (i := 7) (oi := _) (v := ?_) rfl (by kernel_rfl) (by kernel_rfl) (by kernel_rfl) (fun _ _ _ h => h) (Or.inl ⟨by rfl, ?_⟩) (by assumption) ?_
        rotate_left
        · intro w5 hSw
          clear hSw
          go_simp
          all_goals with_reducible rfl
        (try simp only [List.getElem_toArray]); (try simp only [List.getElem_cons_succ]); (try simp only [List.getElem_cons_zero]); try simp only [Act.put, List.setIfInBounds_toArray, List.set_cons_zero, List.set_cons_succ]
        refine wpAnyH_take (i := 8) (oi := _) (v := ?_) rfl (by kernel_rfl) (by kernel_rfl) (by kernel_rfl) (fun _ _ _ h => h) (Or.inl ⟨by rfl, ?_⟩) (by assumption) ?_
        rotate_left
        · intro w5 hSw
          clear hSw
          go_simp
          all_goals with_reducible rfl
        (try simp only [List.getElem_toArray]); (try simp only [List.getElem_cons_succ]); (try simp only [List.getElem_cons_zero]); try simp only [Act.put, List.setIfInBounds_toArray, List.set_cons_zero, List.set_cons_succ]
        refine wpAnyH_done (by kernel_rfl) ?_ _
        go_wp2_with fail
        go_meet
        exact ⟨by first | rfl | (with_unfolding_all rfl), BB.out⟩
    case rest =>
      obtain ⟨rfl, B⟩ := hcut
      have HB := Lib.hid B
      clear B K3 BW2 HZ2
      rcases HC.out with ⟨rfl, h7⟩ | ⟨rfl, h7⟩
      · have e7 : decide (65515 - (L.length : Int) < (dn : Int)) = true := decide_eq_true (by omega)
        rw [e7]
        clear HC h7 e7
        go_wp2
        go_ret
        exact ⟨rfl, HB.out⟩
      · have e7 : decide (65515 - (L.length : Int) < (dn : Int)) = false := decide_eq_false (by omega)
        rw [e7]
        clear HC h7 e7
        go_wp2
        go_ret
        exact ⟨rfl, HB.out⟩

set_option linter.unusedSimpArgs false in
set_option maxRecDepth 100000 in
set_option maxHeartbeats 4000000 in
theorem rck_ft (sp dp sq ak fl wn ur mss : Nat) (sk : Bool) (ba : Option Addr) (bs : List (Nat × Nat)) (bc : Nat) (tv te : Nat) (da : Option Addr) (dn dc : Nat) (L : List Nat) (c : Int) (w : World) (h1 : mss < 65536) (h5 : bs.length ≤ 4) (h6 : L.length ≤ 40)
    (hc : c = 5 ∧ 65515 < dn + L.length ∨ c = 0 ∧ dn + L.length ≤ 65515)
    (P : ∀ W, Below w.heap.size w W → Calls Try.prog 27 #[.agg #[.int .u16 (sp : Nat), .int .u16 (dp : Nat), .int .u32 (sq : Nat), .int .u32 (ak : Nat), .int .u8 (fl : Nat), .int .u16 (wn : Nat), .int .u16 (ur : Nat), .int .i64 (mss : Nat), .bool false, .int .i64 ((0 : Nat) : Int), .bool sk, .slice ba bs.length bc, .bool true, .int .u32 (tv : Nat), .int .u32 (te : Nat), .slice da dn dc]] W fun e w' => (∃ a cap, e = .returned (.slice a L.length cap) ∧ OwnSl (W.heap.size + 1) a L cap w') ∧ Below W.heap.size W w') :
    Calls Try.prog 16 #[.agg #[.int .u16 (sp : Nat), .int .u16 (dp : Nat), .int .u32 (sq : Nat), .int .u32 (ak : Nat), .int .u8 (fl : Nat), .int .u16 (wn : Nat), .int .u16 (ur : Nat), .int .i64 (mss : Nat), .bool false, .int .i64 ((0 : Nat) : Int), .bool sk, .slice ba bs.length bc, .bool true, .int .u32 (tv : Nat), .int .u32 (te : Nat), .slice da dn dc]] w fun e w' => e = .returned (.int .i64 c) ∧ Below w.heap.size w w' := by
  have bw := (Below.refl _ w).alloc (Nat.le_refl _) (.cells #[.int .u16 (sp : Nat), .int .u16 (dp : Nat), .int .u32 (sq : Nat), .int .u32 (ak : Nat), .int .u8 (fl : Nat), .int .u16 (wn : Nat), .int .u16 (ur : Nat), .int .i64 (mss : Nat), .bool false, .int .i64 ((0 : Nat) : Int), .bool sk, .slice ba bs.length bc, .bool true, .int .u32 (tv : Nat), .int .u32 (te : Nat), .slice da dn dc] 27)
  have bn := blk_new w (.cells #[.int .u16 (sp : Nat), .int .u16 (dp : Nat), .int .u32 (sq : Nat), .int .u32 (ak : Nat), .int .u8 (fl : Nat), .int .u16 (wn : Nat), .int .u16 (ur : Nat), .int .i64 (mss : Nat), .bool false, .int .i64 ((0 : Nat) : Int), .bool sk, .slice ba bs.length bc, .bool true, .int .u32 (tv : Nat), .int .u32 (te : Nat), .slice da dn dc] 27)
  have hsz : w.heap.size < (w.alloc (.cells #[.int .u16 (sp : Nat), .int .u16 (dp : Nat), .int .u32 (sq : Nat), .int .u32 (ak : Nat), .int .u8 (fl : Nat), .int .u16 (wn : Nat), .int .u16 (ur : Nat), .int .i64 (mss : Nat), .bool false, .int .i64 ((0 : Nat) : Int), .bool sk, .slice ba bs.length bc, .bool true, .int .u32 (tv : Nat), .int .u32 (te : Nat), .slice da dn dc] 27)).heap.size := by rw [World.size_alloc]; exact Nat.lt_succ_self _
  have i5 : (bs.length : Int) ≤ 4 := by omega
  have i1 : (mss : Int) ≤ 65535 := by omega
  have i6 : ¬ (40 : Int) < (L.length : Int) := by omega
  have i8 : IntKind.i64.wrap (65515 - (L.length : Int)) = 65515 - (L.length : Int) := IntWalk.i64_in _ ⟨by omega, by omega⟩
  have K0 : Hid (TcpAt (w.alloc (.cells #[.int .u16 (sp : Nat), .int .u16 (dp : Nat), .int .u32 (sq : Nat), .int .u32 (ak : Nat), .int .u8 (fl : Nat), .int .u16 (wn : Nat), .int .u16 (ur : Nat), .int .i64 (mss : Nat), .bool false, .int .i64 ((0 : Nat) : Int), .bool sk, .slice ba bs.length bc, .bool true, .int .u32 (tv : Nat), .int .u32 (te : Nat), .slice da dn dc] 27)) w.heap.size #[.int .u16 (sp : Nat), .int .u16 (dp : Nat), .int .u32 (sq : Nat), .int .u32 (ak : Nat), .int .u8 (fl : Nat), .int .u16 (wn : Nat), .int .u16 (ur : Nat), .int .i64 (mss : Nat), .bool false, .int .i64 ((0 : Nat) : Int), .bool sk, .slice ba bs.length bc, .bool true, .int .u32 (tv : Nat), .int .u32 (te : Nat), .slice da dn dc]) := Lib.hid bn
  have HSZ := Lib.hid hsz
  have BW := Lib.hid bw
  have HP := Lib.hid P
  have HC := Lib.hid hc
  clear bw bn hsz P hc h1 h5 h6
  obtain ⟨V0, hV0⟩ : ∃ V, w.alloc (.cells #[.int .u16 (sp : Nat), .int .u16 (dp : Nat), .int .u32 (sq : Nat), .int .u32 (ak : Nat), .int .u8 (fl : Nat), .int .u16 (wn : Nat), .int .u16 (ur : Nat), .int .i64 (mss : Nat), .bool false, .int .i64 ((0 : Nat) : Int), .bool sk, .slice ba bs.length bc, .bool true, .int .u32 (tv : Nat), .int .u32 (te : Nat), .slice da dn dc] 27) = V := ⟨_, rfl⟩
  have HV0 := Lib.hid hV0
  rw [hV0] at K0 HSZ BW
  clear hV0
  go_enter Try.func16, Try.ntmps16
  go_upto_region 3 with (fail)
  go_cut [47] from 3 (fun (v : Value) wc => v = .bool false ∧ wc = V0)
  case first =>
    go_wp2_with fail
    go_meet
    exact ⟨congrArg Value.bool (decide_eq_false (by omega)), HV0.out⟩
  case rest =>
    obtain ⟨rfl, rfl⟩ := hcut
    clear HV0
    go_upto_region 7 with (first
      | ((with_reducible show wpList _ _ _ _ _ _); refine wpList_load_tcp rfl (.tmp 1) rfl w.heap.size rfl _ K0.out rfl ?_)
      | (go_at_call 27; refine (HP.out _ BW.out).mono ?_; rintro e w2 ⟨⟨a2, c2, rfl, _⟩, b2⟩; have K3 := Lib.hid (show TcpAt w2.drew w.heap.size _ from (b2.block _ HSZ.out).trans K0.out); have BW2 := Lib.hid ((BW.out.trans (b2.mono BW.out.size)).drew); have HZ2 : Hid (w.heap.size < w2.drew.heap.size) := Lib.hid (Nat.lt_of_lt_of_le HSZ.out b2.size); clear b2 BW K0 HSZ)
      | fail)
    go_cut [57] from 48 (fun (v : Value) wc => v = .bool (decide (65515 - (L.length : Int) < (dn : Int))) ∧ Below w.heap.size w wc)
    case first =>
      refine wp_region_held_drew (S := fun W => TcpAt W w.heap.size #[.int .u16 (sp : Nat), .int .u16 (dp : Nat), .int .u32 (sq : Nat), .int .u32 (ak : Nat), .int .u8 (fl : Nat), .int .u16 (wn : Nat), .int .u16 (ur : Nat), .int .i64 (mss : Nat), .bool false, .int .i64 ((0 : Nat) : Int), .bool sk, .slice ba bs.length bc, .bool true, .int .u32 (tv : Nat), .int .u32 (te : Nat), .slice da dn dc] ∧ Below w.heap.size w W) (by kernel_rfl) ⟨K3.out, BW2.out⟩ (fun hHeld => ?_)
      refine wpAnyH_take (i := 0) (oi := _) (v := ?_) rfl (by kernel_rfl) (by kernel_rfl) (by kernel_rfl) (fun _ _ _ h => h) (Or.inl ⟨by rfl, ?_⟩) (by assumption) ?_
      rotate_left
      · intro w5 hSw
        clear hSw
        go_simp
        all_goals with_reducible rfl
      (try simp only [List.getElem_toArray]); (try simp only [List.getElem_cons_succ]); (try simp only [List.getElem_cons_zero]); try simp only [Act.put, List.setIfInBounds_toArray, List.set_cons_zero, List.set_cons_succ]
      refine wpAnyH_take (i := 1) (oi := _) (v := ?_) rfl (by kernel_rfl) (by kernel_rfl) (by kernel_rfl) (fun _ _ _ h => h) (Or.inl ⟨by rfl, ?_⟩) (by assumption) ?_
      rotate_left
      · intro w5 hSw
        have c15 := blk_cell (show TcpAt w5 w.heap.size _ ∧ Below w.heap.size w w5 from hSw).1 15
        clear hSw
        go_simp
        all_goals with_reducible rfl
      (try simp only [List.getElem_toArray]); (try simp only [List.getElem_cons_succ]); (try simp only [List.getElem_cons_zero]); try simp only [Act.put, List.setIfInBounds_toArray, List.set_cons_zero, List.set_cons_succ]
      refine wpAnyH_take (i := 2) (oi := _) (v := ?_) rfl (by kernel_rfl) (by kernel_rfl) (by kernel_rfl) (fun _ _ _ h => h) (Or.inl ⟨by rfl, ?_⟩) (by assumption) ?_
      rotate_left
      · intro w5 hSw
        clear hSw
        go_simp
        all_goals with_reducible rfl
      (try simp only [List.getElem_toArray]); (try simp only [List.getElem_cons_succ]); (try simp only [List.getElem_cons_zero]); try simp only [Act.put, List.setIfInBounds_toArray, List.set_cons_zero, List.set_cons_succ]
      refine wpAnyH_take (i := 3) (oi := _) (v := .agg #[.int .u16 (sp : Nat), .int .u16 (dp : Nat), .int .u32 (sq : Nat), .int .u32 (ak : Nat), .int .u8 (fl : Nat), .int .u16 (wn : Nat), .int .u16 (ur : Nat), .int .i64 (mss : Nat), .bool false, .int .i64 ((0 : Nat) : Int), .bool sk, .slice ba bs.length bc, .bool true, .int .u32 (tv : Nat), .int .u32 (te : Nat), .slice da dn dc]) rfl (by kernel_rfl) (by kernel_rfl) (by kernel_rfl) (fun _ _ _ h => h) (yieldsIf_tcp rfl (.tmp 1) rfl w.heap.size rfl _ (fun W hW => (show TcpAt W w.heap.size _ ∧ Below w.heap.size w W from hW).1) rfl) (by assumption) ?_
      (try simp only [List.getElem_toArray]); (try simp only [List.getElem_cons_succ]); (try simp only [List.getElem_cons_zero]); try simp only [Act.put, List.setIfInBounds_toArray, List.set_cons_zero, List.set_cons_succ]
      refine wpAnyH_ready (rs := [4]) (by kernel_rfl) (by simp) ?_
      refine (AllReadyH.cons (o := _) rfl (fun K hK => ?_) AllReadyH.nil)
      · (try simp only [List.getElem_toArray]); (try simp only [List.getElem_cons_succ]); (try simp only [List.getElem_cons_zero])
        go_simp
        go_at_call 27
        refine (HP.out _ (show TcpAt _ w.heap.size _ ∧ Below w.heap.size w _ from hHeld).2).mono ?_
        rintro e w3 ⟨⟨a3, c3, rfl, _⟩, b3⟩
        try dsimp only
        have KK := Lib.hid (show TcpAt w3 w.heap.size _ from (b3.block _ HZ2.out).trans K3.out)
        have BB := Lib.hid (BW2.out.trans (b3.mono BW2.out.size))
        clear b3
        refine hK.out _ _ ?_ (fun hHeld => ?_)
        · exact ⟨KK.out, BB.out⟩
        clear hK K
        (try simp only [List.getElem_toArray]); (try simp only [List.getElem_cons_succ]); (try simp only [List.getElem_cons_zero]); try simp only [Act.put, List.setIfInBounds_toArray, List.set_cons_zero, List.set_cons_succ]
        refine wpAnyH_take (i := 5) (oi := _) (v := ?_) rfl (by kernel_rfl) (by kernel_rfl) (by kernel_rfl) (fun _ _ _ h => h) (Or.inl ⟨by rfl, ?_⟩) (by assumption) ?_
        rotate_left
        · intro w5 hSw
          clear hSw
          go_simp
          all_goals with_reducible rfl
        (try simp only [List.getElem_toArray]); (try simp only [List.getElem_cons_succ]); (try simp only [List.getElem_cons_zero]); try simp only [Act.put, List.setIfInBounds_toArray, List.set_cons_zero, List.set_cons_succ]
        refine wpAnyH_take (i := 6) (oi := _) (v := ?_) rfl (by kernel_rfl) (by kernel_rfl) (by kernel_rfl) (fun _ _ _ h => h) (Or.inl ⟨by rfl, ?_⟩) (by assumption) ?_
        rotate_left
        · intro w5 hSw
          clear hSw
          go_simp
          all_goals with_reducible rfl
        (try simp only [List.getElem_toArray]); (try simp only [List.getElem_cons_succ]); (try simp only [List.getElem_cons_zero]); try simp only [Act.put, List.setIfInBounds_toArray, List.set_cons_zero, List.set_cons_succ]
        refine wpAnyH_take (i := 7) (oi := _) (v := ?_) rfl (by kernel_rfl) (by kernel_rfl) (by kernel_rfl) (fun _ _ _ h => h) (Or.inl ⟨by rfl, ?_⟩) (by assumption) ?_
        rotate_left
        · intro w5 hSw
          clear hSw
          go_simp
          all_goals with_reducible rfl
        (try simp only [List.getElem_toArray]); (try simp only [List.getElem_cons_succ]); (try simp only [List.getElem_cons_zero]); try simp only [Act.put, List.setIfInBounds_toArray, List.set_cons_zero, List.set_cons_succ]
        refine wpAnyH_take (i := 8) (oi := _) (v := ?_) rfl (by kernel_rfl) (by kernel_rfl) (by kernel_rfl) (fun _ _ _ h => h) (Or.inl ⟨by rfl, ?_⟩) (by assumption) ?_
        rotate_left
        · intro w5 hSw
          clear hSw
          go_simp
          all_goals with_reducible rfl
        (try simp only [List.getElem_toArray]); (try simp only [List.getElem_cons_succ]); (try simp only [List.getElem_cons_zero]); try simp only [Act.put, List.setIfInBounds_toArray, List.set_cons_zero, List.set_cons_succ]
        refine wpAnyH_done (by kernel_rfl) ?_ _
        go_wp2_with fail
        go_meet
        exact ⟨by first | rfl | (with_unfolding_all rfl), BB.out⟩
    case rest =>
      obtain ⟨rfl, B⟩ := hcut
      have HB := Lib.hid B
      clear B K3 BW2 HZ2
      rcases HC.out with ⟨rfl, h7⟩ | ⟨rfl, h7⟩
      · have e7 : decide (65515 - (L.length : Int) < (dn : Int)) = true := decide_eq_true (by omega)
        rw [e7]
        clear HC h7 e7
        go_wp2
        go_ret
        exact ⟨rfl, HB.out⟩
      · have e7 : decide (65515 - (L.length : Int) < (dn : Int)) = false := decide_eq_false (by omega)
        rw [e7]
        clear HC h7 e7
        go_wp2
        go_ret
        exact ⟨rfl, HB.out⟩

set_option linter.unusedSimpArgs false in
set_option maxRecDepth 100000 in
set_option maxHeartbeats 4000000 in
theorem rck_tf (sp dp sq ak fl wn ur mss : Nat) (sc : Nat) (sk : Bool) (ba : Option Addr) (bs : List (Nat × Nat)) (bc : Nat) (da : Option Addr) (dn dc : Nat) (L : List Nat) (c : Int) (w : World) (h1 : mss < 65536) (h2 : sc < 256) (h5 : bs.length ≤ 4) (h6 : L.length ≤ 40)
    (hc : c = 5 ∧ 65515 < dn + L.length ∨ c = 0 ∧ dn + L.length ≤ 65515)
    (P : ∀ W, Below w.heap.size w W → Calls Try.prog 27 #[.agg #[.int .u16 (sp : Nat), .int .u16 (dp : Nat), .int .u32 (sq : Nat), .int .u32 (ak : Nat), .int .u8 (fl : Nat), .int .u16 (wn : Nat), .int .u16 (ur : Nat), .int .i64 (mss : Nat), .bool true, .int .i64 (sc : Nat), .bool sk, .slice ba bs.length bc, .bool false, .int .u32 ((0 : Nat) : Int), .int .u32 ((0 : Nat) : Int), .slice da dn dc]] W fun e w' => (∃ a cap, e = .returned (.slice a L.length cap) ∧ OwnSl (W.heap.size + 1) a L cap w') ∧ Below W.heap.size W w') :
    Calls Try.prog 16 #[.agg #[.int .u16 (sp : Nat), .int .u16 (dp : Nat), .int .u32 (sq : Nat), .int .u32 (ak : Nat), .int .u8 (fl : Nat), .int .u16 (wn : Nat), .int .u16 (ur : Nat), .int .i64 (mss : Nat), .bool true, .int .i64 (sc : Nat), .bool sk, .slice ba bs.length bc, .bool false, .int .u32 ((0 : Nat) : Int), .int .u32 ((0 : Nat) : Int), .slice da dn dc]] w fun e w' => e = .returned (.int .i64 c) ∧ Below w.heap.size w w' := by
  have bw := (Below.refl _ w).alloc (Nat.le_refl _) (.cells #[.int .u16 (sp : Nat), .int .u16 (dp : Nat), .int .u32 (sq : Nat), .int .u32 (ak : Nat), .int .u8 (fl : Nat), .int .u16 (wn : Nat), .int .u16 (ur : Nat), .int .i64 (mss : Nat), .bool true, .int .i64 (sc : Nat), .bool sk, .slice ba bs.length bc, .bool false, .int .u32 ((0 : Nat) : Int), .int .u32 ((0 : Nat) : Int), .slice da dn dc] 27)
  have bn := blk_new w (.cells #[.int .u16 (sp : Nat), .int .u16 (dp : Nat), .int .u32 (sq : Nat), .int .u32 (ak : Nat), .int .u8 (fl : Nat), .int .u16 (wn : Nat), .int .u16 (ur : Nat), .int .i64 (mss : Nat), .bool true, .int .i64 (sc : Nat), .bool sk, .slice ba bs.length bc, .bool false, .int .u32 ((0 : Nat) : Int), .int .u32 ((0 : Nat) : Int), .slice da dn dc] 27)
  have hsz : w.heap.size < (w.alloc (.cells #[.int .u16 (sp : Nat), .int .u16 (dp : Nat), .int .u32 (sq : Nat), .int .u32 (ak : Nat), .int .u8 (fl : Nat), .int .u16 (wn : Nat), .int .u16 (ur : Nat), .int .i64 (mss : Nat), .bool true, .int .i64 (sc : Nat), .bool sk, .slice ba bs.length bc, .bool false, .int .u32 ((0 : Nat) : Int), .int .u32 ((0 : Nat) : Int), .slice da dn dc] 27)).heap.size := by rw [World.size_alloc]; exact Nat.lt_succ_self _
  have i5 : (bs.length : Int) ≤ 4 := by omega
  have i1 : (mss : Int) ≤ 65535 := by omega
  have i2 : (sc : Int) ≤ 255 := by omega
  have i6 : ¬ (40 : Int) < (L.length : Int) := by omega
  have i8 : IntKind.i64.wrap (65515 - (L.length : Int)) = 65515 - (L.length : Int) := IntWalk.i64_in _ ⟨by omega, by omega⟩
  have K0 : Hid (TcpAt (w.alloc (.cells #[.int .u16 (sp : Nat), .int .u16 (dp : Nat), .int .u32 (sq : Nat), .int .u32 (ak : Nat), .int .u8 (fl : Nat), .int .u16 (wn : Nat), .int .u16 (ur : Nat), .int .i64 (mss : Nat), .bool true, .int .i64 (sc : Nat), .bool sk, .slice ba bs.length bc, .bool false, .int .u32 ((0 : Nat) : Int), .int .u32 ((0 : Nat) : Int), .slice da dn dc] 27)) w.heap.size #[.int .u16 (sp : Nat), .int .u16 (dp : Nat), .int .u32 (sq : Nat), .int .u32 (ak : Nat), .int .u8 (fl : Nat), .int .u16 (wn : Nat), .int .u16 (ur : Nat), .int .i64 (mss : Nat), .bool true, .int .i64 (sc : Nat), .bool sk, .slice ba bs.length bc, .bool false, .int .u32 ((0 : Nat) : Int), .int .u32 ((0 : Nat) : Int), .slice da dn dc]) := Lib.hid bn
  have HSZ := Lib.hid hsz
  have BW := Lib.hid bw
  have HP := Lib.hid P
  have HC := Lib.hid hc
  clear bw bn hsz P hc h1 h5 h6 h2
  obtain ⟨V0, hV0⟩ : ∃ V, w.alloc (.cells #[.int .u16 (sp : Nat), .int .u16 (dp : Nat), .int .u32 (sq : Nat), .int .u32 (ak : Nat), .int .u8 (fl : Nat), .int .u16 (wn : Nat), .int .u16 (ur : Nat), .int .i64 (mss : Nat), .bool true, .int .i64 (sc : Nat), .bool sk, .slice ba bs.length bc, .bool false, .int .u32 ((0 : Nat) : Int), .int .u32 ((0 : Nat) : Int), .slice da dn dc] 27) = V := ⟨_, rfl⟩
  have HV0 := Lib.hid hV0
  rw [hV0] at K0 HSZ BW
  clear hV0
  go_enter Try.func16, Try.ntmps16
  go_upto_region 3 with (fail)
  go_cut [47] from 3 (fun (v : Value) wc => v = .bool false ∧ wc = V0)
  case first =>
    go_wp2_with fail
    go_meet
    exact ⟨congrArg Value.bool (decide_eq_false (by omega)), HV0.out⟩
  case rest =>
    obtain ⟨rfl, rfl⟩ := hcut
    clear HV0
    go_upto_region 7 with (first
      | ((with_reducible show wpList _ _ _ _ _ _); refine wpList_load_tcp rfl (.tmp 1) rfl w.heap.size rfl _ K0.out rfl ?_)
      | (go_at_call 27; refine (HP.out _ BW.out).mono ?_; rintro e w2 ⟨⟨a2, c2, rfl, _⟩, b2⟩; have K3 := Lib.hid (show TcpAt w2.drew w.heap.size _ from (b2.block _ HSZ.out).trans K0.out); have BW2 := Lib.hid ((BW.out.trans (b2.mono BW.out.size)).drew); have HZ2 : Hid (w.heap.size < w2.drew.heap.size) := Lib.hid (Nat.lt_of_lt_of_le HSZ.out b2.size); clear b2 BW K0 HSZ)
      | fail)
    go_cut [57] from 48 (fun (v : Value) wc => v = .bool (decide (65515 - (L.length : Int) < (dn : Int))) ∧ Below w.heap.size w wc)
    case first =>
      refine wp_region_held_drew (S := fun W => TcpAt W w.heap.size #[.int .u16 (sp : Nat), .int .u16 (dp : Nat), .int .u32 (sq : Nat), .int .u32 (ak : Nat), .int .u8 (fl : Nat), .int .u16 (wn : Nat), .int .u16 (ur : Nat), .int .i64 (mss : Nat), .bool true, .int .i64 (sc : Nat), .bool sk, .slice ba bs.length bc, .bool false, .int .u32 ((0 : Nat) : Int), .int .u32 ((0 : Nat) : Int), .slice da dn dc] ∧ Below w.heap.size w W) (by kernel_rfl) ⟨K3.out, BW2.out⟩ (fun hHeld => ?_)
      refine wpAnyH_take (i := 0) (oi := _) (v := ?_) rfl (by kernel_rfl) (by kernel_rfl) (by kernel_rfl) (fun _ _ _ h => h) (Or.inl ⟨by rfl, ?_⟩) (by assumption) ?_
      rotate_left
      · intro w5 hSw
        clear hSw
        go_simp
        all_goals with_reducible rfl
      (try simp only [List.getElem_toArray]); (try simp only [List.getElem_cons_succ]); (try simp only [List.getElem_cons_zero]); try simp only [Act.put, List.setIfInBounds_toArray, List.set_cons_zero, List.set_cons_succ]
      refine wpAnyH_take (i := 1) (oi := _) (v := ?_) rfl (by kernel_rfl) (by kernel_rfl) (by kernel_rfl) (fun _ _ _ h => h) (Or.inl ⟨by rfl, ?_⟩) (by assumption) ?_
      rotate_left
      · intro w5 hSw
        have c15 := blk_cell (show TcpAt w5 w.heap.size _ ∧ Below w.heap.size w w5 from hSw).1 15
        clear hSw
        go_simp
        all_goals with_reducible rfl
      (try simp only [List.getElem_toArray]); (try simp only [List.getElem_cons_succ]); (try simp only [List.getElem_cons_zero]); try simp only [Act.put, List.setIfInBounds_toArray, List.set_cons_zero, List.set_cons_succ]
      refine wpAnyH_take (i := 2) (oi := _) (v := ?_) rfl (by kernel_rfl) (by kernel_rfl) (by kernel_rfl) (fun _ _ _ h => h) (Or.inl ⟨by rfl, ?_⟩) (by assumption) ?_
      rotate_left
      · intro w5 hSw
        clear hSw
        go_simp
        all_goals with_reducible rfl
      (try simp only [List.getElem_toArray]); (try simp only [List.getElem_cons_succ]); (try simp only [List.getElem_cons_zero]); try simp only [Act.put, List.setIfInBounds_toArray, List.set_cons_zero, List.set_cons_succ]
      refine wpAnyH_take (i := 3) (oi := _) (v := .agg #[.int .u16 (sp : Nat), .int .u16 (dp : Nat), .int .u32 (sq : Nat), .int .u32 (ak : Nat), .int .u8 (fl : Nat), .int .u16 (wn : Nat), .int .u16 (ur : Nat), .int .i64 (mss : Nat), .bool true, .int .i64 (sc : Nat), .bool sk, .slice ba bs.length bc, .bool false, .int .u32 ((0 : Nat) : Int), .int .u32 ((0 : Nat) : Int), .slice da dn dc]) rfl (by kernel_rfl) (by kernel_rfl) (by kernel_rfl) (fun _ _ _ h => h) (yieldsIf_tcp rfl (.tmp 1) rfl w.heap.size rfl _ (fun W hW => (show TcpAt W w.heap.size _ ∧ Below w.heap.size w W from hW).1) rfl) (by assumption) ?_
      (try simp only [List.getElem_toArray]); (try simp only [List.getElem_cons_succ]); (try simp only [List.getElem_cons_zero]); try simp only [Act.put, List.setIfInBounds_toArray, List.set_cons_zero, List.set_cons_succ]
      refine wpAnyH_ready (rs := [4]) (by kernel_rfl) (by simp) ?_
      refine (AllReadyH.cons (o := _) rfl (fun K hK => ?_) AllReadyH.nil)
      · (try simp only [List.getElem_toArray]); (try simp only [List.getElem_cons_succ]); (try simp only [List.getElem_cons_zero])
        go_simp
        go_at_call 27
        refine (HP.out _ (show TcpAt _ w.heap.size _ ∧ Below w.heap.size w _ from hHeld).2).mono ?_
        rintro e w3 ⟨⟨a3, c3, rfl, _⟩, b3⟩
        try dsimp only
        have KK := Lib.hid (show TcpAt w3 w.heap.size _ from (b3.block _ HZ2.out).trans K3.out)
        have BB := Lib.hid (BW2.out.trans (b3.mono BW2.out.size))
        clear b3
        refine hK.out _ _ ?_ (fun hHeld => ?_)
        · exact ⟨KK.out, BB.out⟩
        clear hK K
        (try simp only [List.getElem_toArray]); (try simp only [List.getElem_cons_succ]); (try simp only [List.getElem_cons_zero]); try simp only [Act.put, List.setIfInBounds_toArray, List.set_cons_zero, List.set_cons_succ]
        refine wpAnyH_take (i := 5) (oi := _) (v := ?_) rfl (by kernel_rfl) (by kernel_rfl) (by kernel_rfl) (fun _ _ _ h => h) (Or.inl ⟨by rfl, ?_⟩) (by assumption) ?_
        rotate_left
        · intro w5 hSw
          clear hSw
          go_simp
          all_goals with_reducible rfl
        (try simp only [List.getElem_toArray]); (try simp only [List.getElem_cons_succ]); (try simp only [List.getElem_cons_zero]); try simp only [Act.put, List.setIfInBounds_toArray, List.set_cons_zero, List.set_cons_succ]
        refine wpAnyH_take (i := 6) (oi := _) (v := ?_) rfl (by kernel_rfl) (by kernel_rfl) (by kernel_rfl) (fun _ _ _ h => h) (Or.inl ⟨by rfl, ?_⟩) (by assumption) ?_
        rotate_left
        · intro w5 hSw
          clear hSw
          go_simp
          all_goals with_reducible rfl
        (try simp only [List.getElem_toArray]); (try simp only [List.getElem_cons_succ]); (try simp only [List.getElem_cons_zero]); try simp only [Act.put, List.setIfInBounds_toArray, List.set_cons_zero, List.set_cons_succ]
        refine wpAnyH_take (i := 7) (oi := _) (v := ?_) rfl (by kernel_rfl) (by kernel_rfl) (by kernel_rfl) (fun _ _ _ h => h) (Or.inl ⟨by rfl, ?_⟩) (by assumption) ?_
        rotate_left
        · intro w5 hSw
          clear hSw
          go_simp
          all_goals with_reducible rfl
        (try simp only [List.getElem_toArray]); (try simp only [List.getElem_cons_succ]); (try simp only [List.getElem_cons_zero]); try simp only [Act.put, List.setIfInBounds_toArray, List.set_cons_zero, List.set_cons_succ]
        refine wpAnyH_take (i := 8) (oi := _) (v := ?_) rfl (by kernel_rfl) (by kernel_rfl) (by kernel_rfl) (fun _ _ _ h => h) (Or.inl ⟨by rfl, ?_⟩) (by assumption) ?_
        rotate_left
        · intro w5 hSw
          clear hSw
          go_simp
          all_goals with_reducible rfl
        (try simp only [List.getElem_toArray]); (try simp only [List.getElem_cons_succ]); (try simp only [List.getElem_cons_zero]); try simp only [Act.put, List.setIfInBounds_toArray, List.set_cons_zero, List.set_cons_succ]
        refine wpAnyH_done (by kernel_rfl) ?_ _
        go_wp2_with fail
        go_meet
        exact ⟨by first | rfl | (with_unfolding_all rfl), BB.out⟩
    case rest =>
      obtain ⟨rfl, B⟩ := hcut
      have HB := Lib.hid B
      clear B K3 BW2 HZ2
      rcases HC.out with ⟨rfl, h7⟩ | ⟨rfl, h7⟩
      · have e7 : decide (65515 - (L.length : Int) < (dn : Int)) = true := decide_eq_true (by omega)
        rw [e7]
        clear HC h7 e7
        go_wp2
        go_ret
        exact ⟨rfl, HB.out⟩
      · have e7 : decide (65515 - (L.length : Int) < (dn : Int)) = false := decide_eq_false (by omega)
        rw [e7]
        clear HC h7 e7
        go_wp2
        go_ret
        exact ⟨rfl, HB.out⟩

set_option linter.unusedSimpArgs false in
set_option maxRecDepth 100000 in
set_option maxHeartbeats 4000000 in
theorem rck_tt (sp dp sq ak fl wn ur mss : Nat) (sc : Nat) (sk : Bool) (ba : Option Addr) (bs : List (Nat × Nat)) (bc : Nat) (tv te : Nat) (da : Option Addr) (dn dc : Nat) (L : List Nat) (c : Int) (w : World) (h1 : mss < 65536) (h2 : sc < 256) (h5 : bs.length ≤ 4) (h6 : L.length ≤ 40)
    (hc : c = 5 ∧ 65515 < dn + L.length ∨ c = 0 ∧ dn + L.length ≤ 65515)
    (P : ∀ W, Below w.heap.size w W → Calls Try.prog 27 #[.agg #[.int .u16 (sp : Nat), .int .u16 (dp : Nat), .int .u32 (sq : Nat), .int .u32 (ak : Nat), .int .u8 (fl : Nat), .int .u16 (wn : Nat), .int .u16 (ur : Nat), .int .i64 (mss : Nat), .bool true, .int .i64 (sc : Nat), .bool sk, .slice ba bs.length bc, .bool true, .int .u32 (tv : Nat), .int .u32 (te : Nat), .slice da dn dc]] W fun e w' => (∃ a cap, e = .returned (.slice a L.length cap) ∧ OwnSl (W.heap.size + 1) a L cap w') ∧ Below W.heap.size W w') :
    Calls Try.prog 16 #[.agg #[.int .u16 (sp : Nat), .int .u16 (dp : Nat), .int .u32 (sq : Nat), .int .u32 (ak : Nat), .int .u8 (fl : Nat), .int .u16 (wn : Nat), .int .u16 (ur : Nat), .int .i64 (mss : Nat), .bool true, .int .i64 (sc : Nat), .bool sk, .slice ba bs.length bc, .bool true, .int .u32 (tv : Nat), .int .u32 (te : Nat), .slice da dn dc]] w fun e w' => e = .returned (.int .i64 c) ∧ Below w.heap.size w w' := by
  have bw := (Below.refl _ w).alloc (Nat.le_refl _) (.cells #[.int .u16 (sp : Nat), .int .u16 (dp : Nat), .int .u32 (sq : Nat), .int .u32 (ak : Nat), .int .u8 (fl : Nat), .int .u16 (wn : Nat), .int .u16 (ur : Nat), .int .i64 (mss : Nat), .bool true, .int .i64 (sc : Nat), .bool sk, .slice ba bs.length bc, .bool true, .int .u32 (tv : Nat), .int .u32 (te : Nat), .slice da dn dc] 27)
  have bn := blk_new w (.cells #[.int .u16 (sp : Nat), .int .u16 (dp : Nat), .int .u32 (sq : Nat), .int .u32 (ak : Nat), .int .u8 (fl : Nat), .int .u16 (wn : Nat), .int .u16 (ur : Nat), .int .i64 (mss : Nat), .bool true, .int .i64 (sc : Nat), .bool sk, .slice ba bs.length bc, .bool true, .int .u32 (tv : Nat), .int .u32 (te : Nat), .slice da dn dc] 27)
  have hsz : w.heap.size < (w.alloc (.cells #[.int .u16 (sp : Nat), .int .u16 (dp : Nat), .int .u32 (sq : Nat), .int .u32 (ak : Nat), .int .u8 (fl : Nat), .int .u16 (wn : Nat), .int .u16 (ur : Nat), .int .i64 (mss : Nat), .bool true, .int .i64 (sc : Nat), .bool sk, .slice ba bs.length bc, .bool true, .int .u32 (tv : Nat), .int .u32 (te : Nat), .slice da dn dc] 27)).heap.size := by rw [World.size_alloc]; exact Nat.lt_succ_self _
  have i5 : (bs.length : Int) ≤ 4 := by omega
  have i1 : (mss : Int) ≤ 65535 := by omega
  have i2 : (sc : Int) ≤ 255 := by omega
  have i6 : ¬ (40 : Int) < (L.length : Int) := by omega
  have i8 : IntKind.i64.wrap (65515 - (L.length : Int)) = 65515 - (L.length : Int) := IntWalk.i64_in _ ⟨by omega, by omega⟩
  have K0 : Hid (TcpAt (w.alloc (.cells #[.int .u16 (sp : Nat), .int .u16 (dp : Nat), .int .u32 (sq : Nat), .int .u32 (ak : Nat), .int .u8 (fl : Nat), .int .u16 (wn : Nat), .int .u16 (ur : Nat), .int .i64 (mss : Nat), .bool true, .int .i64 (sc : Nat), .bool sk, .slice ba bs.length bc, .bool true, .int .u32 (tv : Nat), .int .u32 (te : Nat), .slice da dn dc] 27)) w.heap.size #[.int .u16 (sp : Nat), .int .u16 (dp : Nat), .int .u32 (sq : Nat), .int .u32 (ak : Nat), .int .u8 (fl : Nat), .int .u16 (wn : Nat), .int .u16 (ur : Nat), .int .i64 (mss : Nat), .bool true, .int .i64 (sc : Nat), .bool sk, .slice ba bs.length bc, .bool true, .int .u32 (tv : Nat), .int .u32 (te : Nat), .slice da dn dc]) := Lib.hid bn
  have HSZ := Lib.hid hsz
  have BW := Lib.hid bw
  have HP := Lib.hid P
  have HC := Lib.hid hc
  clear bw bn hsz P hc h1 h5 h6 h2
  obtain ⟨V0, hV0⟩ : ∃ V, w.alloc (.cells #[.int .u16 (sp : Nat), .int .u16 (dp : Nat), .int .u32 (sq : Nat), .int .u32 (ak : Nat), .int .u8 (fl : Nat), .int .u16 (wn : Nat), .int .u16 (ur : Nat), .int .i64 (mss : Nat), .bool true, .int .i64 (sc : Nat), .bool sk, .slice ba bs.length bc, .bool true, .int .u32 (tv : Nat), .int .u32 (te : Nat), .slice da dn dc] 27) = V := ⟨_, rfl⟩
  have HV0 := Lib.hid hV0
  rw [hV0] at K0 HSZ BW
  clear hV0
  go_enter Try.func16, Try.ntmps16
  go_upto_region 3 with (fail)
  go_cut [47] from 3 (fun (v : Value) wc => v = .bool false ∧ wc = V0)
  case first =>
    go_wp2_with fail
    go_meet
    exact ⟨congrArg Value.bool (decide_eq_false (by omega)), HV0.out⟩
  case rest =>
    obtain ⟨rfl, rfl⟩ := hcut
    clear HV0
    go_upto_region 7 with (first
      | ((with_reducible show wpList _ _ _ _ _ _); refine wpList_load_tcp rfl (.tmp 1) rfl w.heap.size rfl _ K0.out rfl ?_)
      | (go_at_call 27; refine (HP.out _ BW.out).mono ?_; rintro e w2 ⟨⟨a2, c2, rfl, _⟩, b2⟩; have K3 := Lib.hid (show TcpAt w2.drew w.heap.size _ from (b2.block _ HSZ.out).trans K0.out); have BW2 := Lib.hid ((BW.out.trans (b2.mono BW.out.size)).drew); have HZ2 : Hid (w.heap.size < w2.drew.heap.size) := Lib.hid (Nat.lt_of_lt_of_le HSZ.out b2.size); clear b2 BW K0 HSZ)
      | fail)
    go_cut [57] from 48 (fun (v : Value) wc => v = .bool (decide (65515 - (L.length : Int) < (dn : Int))) ∧ Below w.heap.size w wc)
    case first =>
      refine wp_region_held_drew (S := fun W => TcpAt W w.heap.size #[.int .u16 (sp : Nat), .int .u16 (dp : Nat), .int .u32 (sq : Nat), .int .u32 (ak : Nat), .int .u8 (fl : Nat), .int .u16 (wn : Nat), .int .u16 (ur : Nat), .int .i64 (mss : Nat), .bool true, .int .i64 (sc : Nat), .bool sk, .slice ba bs.length bc, .bool true, .int .u32 (tv : Nat), .int .u32 (te : Nat), .slice da dn dc] ∧ Below w.heap.size w W) (by kernel_rfl) ⟨K3.out, BW2.out⟩ (fun hHeld => ?_)
      refine wpAnyH_take (i := 0) (oi := _) (v := ?_) rfl (by kernel_rfl) (by kernel_rfl) (by kernel_rfl) (fun _ _ _ h => h) (Or.inl ⟨by rfl, ?_⟩) (by assumption) ?_
      rotate_left
      · intro w5 hSw
        clear hSw
        go_simp
        all_goals with_reducible rfl
      (try simp only [List.getElem_toArray]); (try simp only [List.getElem_cons_succ]); (try simp only [List.getElem_cons_zero]); try simp only [Act.put, List.setIfInBounds_toArray, List.set_cons_zero, List.set_cons_succ]
      refine wpAnyH_take (i := 1) (oi := _) (v := ?_) rfl (by kernel_rfl) (by kernel_rfl) (by kernel_rfl) (fun _ _ _ h => h) (Or.inl ⟨by rfl, ?_⟩) (by assumption) ?_
      rotate_left
      · intro w5 hSw
        have c15 := blk_cell (show TcpAt w5 w.heap.size _ ∧ Below w.heap.size w w5 from hSw).1 15
        clear hSw
        go_simp
        all_goals with_reducible rfl
      (try simp only [List.getElem_toArray]); (try simp only [List.getElem_cons_succ]); (try simp only [List.getElem_cons_zero]); try simp only [Act.put, List.setIfInBounds_toArray, List.set_cons_zero, List.set_cons_succ]
      refine wpAnyH_take (i := 2) (oi := _) (v := ?_) rfl (by kernel_rfl) (by kernel_rfl) (by kernel_rfl) (fun _ _ _ h => h) (Or.inl ⟨by rfl, ?_⟩) (by assumption) ?_
      rotate_left
      · intro w5 hSw
        clear hSw
        go_simp
        all_goals with_reducible rfl
      (try simp only [List.getElem_toArray]); (try simp only [List.getElem_cons_succ]); (try simp only [List.getElem_cons_zero]); try simp only [Act.put, List.setIfInBounds_toArray, List.set_cons_zero, List.set_cons_succ]
      refine wpAnyH_take (i := 3) (oi := _) (v := .agg #[.int .u16 (sp : Nat), .int .u16 (dp : Nat), .int .u32 (sq : Nat), .int .u32 (ak : Nat), .int .u8 (fl : Nat), .int .u16 (wn : Nat), .int .u16 (ur : Nat), .int .i64 (mss : Nat), .bool true, .int .i64 (sc : Nat), .bool sk, .slice ba bs.length bc, .bool true, .int .u32 (tv : Nat), .int .u32 (te : Nat), .slice da dn dc]) rfl (by kernel_rfl) (by kernel_rfl) (by kernel_rfl) (fun _ _ _ h => h) (yieldsIf_tcp rfl (.tmp 1) rfl w.heap.size rfl _ (fun W hW => (show TcpAt W w.heap.size _ ∧ Below w.heap.size w W from hW).1) rfl) (by assumption) ?_
      (try simp only [List.getElem_toArray]); (try simp only [List.getElem_cons_succ]); (try simp only [List.getElem_cons_zero]); try simp only [Act.put, List.setIfInBounds_toArray, List.set_cons_zero, List.set_cons_succ]
      refine wpAnyH_ready (rs := [4]) (by kernel_rfl) (by simp) ?_
      refine (AllReadyH.cons (o := _) rfl (fun K hK => ?_) AllReadyH.nil)
      · (try simp only [List.getElem_toArray]); (try simp only [List.getElem_cons_succ]); (try simp only [List.getElem_cons_zero])
        go_simp
        go_at_call 27
        refine (HP.out _ (show TcpAt _ w.heap.size _ ∧ Below w.heap.size w _ from hHeld).2).mono ?_
        rintro e w3 ⟨⟨a3, c3, rfl, _⟩, b3⟩
        try dsimp only
        have KK := Lib.hid (show TcpAt w3 w.heap.size _ from (b3.block _ HZ2.out).trans K3.out)
        have BB := Lib.hid (BW2.out.trans (b3.mono BW2.out.size))
        clear b3
        refine hK.out _ _ ?_ (fun hHeld => ?_)
        · exact ⟨KK.out, BB.out⟩
        clear hK K
        (try simp only [List.getElem_toArray]); (try simp only [List.getElem_cons_succ]); (try simp only [List.getElem_cons_zero]); try simp only [Act.put, List.setIfInBounds_toArray, List.set_cons_zero, List.set_cons_succ]
        refine wpAnyH_take (i := 5) (oi := _) (v := ?_) rfl (by kernel_rfl) (by kernel_rfl) (by kernel_rfl) (fun _ _ _ h => h) (Or.inl ⟨by rfl, ?_⟩) (by assumption) ?_
        rotate_left
        · intro w5 hSw
          clear hSw
          go_simp
          all_goals with_reducible rfl
        (try simp only [List.getElem_toArray]); (try simp only [List.getElem_cons_succ]); (try simp only [List.getElem_cons_zero]); try simp only [Act.put, List.setIfInBounds_toArray, List.set_cons_zero, List.set_cons_succ]
        refine wpAnyH_take (i := 6) (oi := _) (v := ?_) rfl (by kernel_rfl) (by kernel_rfl) (by kernel_rfl) (fun _ _ _ h => h) (Or.inl ⟨by rfl, ?_⟩) (by assumption) ?_
        rotate_left
        · intro w5 hSw
          clear hSw
          go_simp
          all_goals with_reducible rfl
        (try simp only [List.getElem_toArray]); (try simp only [List.getElem_cons_succ]); (try simp only [List.getElem_cons_zero]); try simp only [Act.put, List.setIfInBounds_toArray, List.set_cons_zero, List.set_cons_succ]
        refine wpAnyH_take (i := 7) (oi := _) (v := ?_) rfl (by kernel_rfl) (by kernel_rfl) (by kernel_rfl) (fun _ _ _ h => h) (Or.inl ⟨by rfl, ?_⟩) (by assumption) ?_
        rotate_left
        · intro w5 hSw
          clear hSw
          go_simp
          all_goals with_reducible rfl
        (try simp only [List.getElem_toArray]); (try simp only [List.getElem_cons_succ]); (try simp only [List.getElem_cons_zero]); try simp only [Act.put, List.setIfInBounds_toArray, List.set_cons_zero, List.set_cons_succ]
        refine wpAnyH_take (i := 8) (oi := _) (v := ?_) rfl (by kernel_rfl) (by kernel_rfl) (by kernel_rfl) (fun _ _ _ h => h) (Or.inl ⟨by rfl, ?_⟩) (by assumption) ?_
        rotate_left
        · intro w5 hSw
          clear hSw
          go_simp
          all_goals with_reducible rfl
        (try simp only [List.getElem_toArray]); (try simp only [List.getElem_cons_succ]); (try simp only [List.getElem_cons_zero]); try simp only [Act.put, List.setIfInBounds_toArray, List.set_cons_zero, List.set_cons_succ]
        refine wpAnyH_done (by kernel_rfl) ?_ _
        go_wp2_with fail
        go_meet
        exact ⟨by first | rfl | (with_unfolding_all rfl), BB.out⟩
    case rest =>
      obtain ⟨rfl, B⟩ := hcut
      have HB := Lib.hid B
      clear B K3 BW2 HZ2
      rcases HC.out with ⟨rfl, h7⟩ | ⟨rfl, h7⟩
      · have e7 : decide (65515 - (L.length : Int) < (dn : Int)) = true := decide_eq_true (by omega)
        rw [e7]
        clear HC h7 e7
        go_wp2
        go_ret
        exact ⟨rfl, HB.out⟩
      · have e7 : decide (65515 - (L.length : Int) < (dn : Int)) = false := decide_eq_false (by omega)
        rw [e7]
        clear HC h7 e7
        go_wp2
        go_ret
        exact ⟨rfl, HB.out⟩

theorem rcheck_do (sp dp sq ak fl wn ur mss : Nat) (hs : Bool) (sc : Nat) (sk : Bool) (ba : Option Addr) (bs : List (Nat × Nat)) (bc : Nat) (ht : Bool) (tv te : Nat) (da : Option Addr) (dn dc : Nat) (c : Int) (w : World)
    (htv : tv < 4294967296) (hte : te < 4294967296) (hx : Blk w ba bs) (h : mss < 65536 ∧ sc < 256 ∧ (hs = false → sc = 0) ∧ (ht = false → tv = 0 ∧ te = 0) ∧ bs.length ≤ 4 ∧ (laidO mss hs sc sk bs ht tv te).length ≤ 40)
    (hc : c = 5 ∧ 65515 < dn + (laidO mss hs sc sk bs ht tv te).length ∨ c = 0 ∧ dn + (laidO mss hs sc sk bs ht tv te).length ≤ 65515) :
    Calls Try.prog 16 #[.agg (tcpV sp dp sq ak fl wn ur mss hs sc sk ba bs.length bc ht tv te da dn dc)] w fun e w' => e = .returned (.int .i64 c) ∧ Below w.heap.size w w' := by
  obtain ⟨h1, h2, h3, h4, h5, h6⟩ := h
  have P := fun W (hb : Below w.heap.size w W) => roptions_any sp dp sq ak fl wn ur mss hs sc sk ba bs bc ht tv te da dn dc W h1 h2 htv hte h5 (hx.below hb)
  rcases hs with _ | _ <;> rcases ht with _ | _
  · obtain rfl := h3 rfl
    obtain ⟨rfl, rfl⟩ := h4 rfl
    exact rck_ff sp dp sq ak fl wn ur mss sk ba bs bc da dn dc _ c w h1 h5 h6 hc P
  · obtain rfl := h3 rfl
    exact rck_ft sp dp sq ak fl wn ur mss sk ba bs bc tv te da dn dc _ c w h1 h5 h6 hc P
  · obtain ⟨rfl, rfl⟩ := h4 rfl
    exact rck_tf sp dp sq ak fl wn ur mss sc sk ba bs bc da dn dc _ c w h1 h2 h5 h6 hc P
  · exact rck_tt sp dp sq ak fl wn ur mss sc sk ba bs bc tv te da dn dc _ c w h1 h2 h5 h6 hc P

theorem rcheck_d (sp dp sq ak fl wn ur mss : Nat) (hs : Bool) (sc : Nat) (sk : Bool) (ba : Option Addr) (bs : List (Nat × Nat)) (bc : Nat) (ht : Bool) (tv te : Nat) (da : Option Addr) (dn dc : Nat) (w : World)
    (htv : tv < 4294967296) (hte : te < 4294967296) (hx : Blk w ba bs) (h : mss < 65536 ∧ sc < 256 ∧ (hs = false → sc = 0) ∧ (ht = false → tv = 0 ∧ te = 0) ∧ bs.length ≤ 4 ∧ (laidO mss hs sc sk bs ht tv te).length ≤ 40 ∧ 65515 < dn + (laidO mss hs sc sk bs ht tv te).length) :
    Calls Try.prog 16 #[.agg (tcpV sp dp sq ak fl wn ur mss hs sc sk ba bs.length bc ht tv te da dn dc)] w fun e w' => e = .returned (.int .i64 5) ∧ Below w.heap.size w w' :=
  rcheck_do sp dp sq ak fl wn ur mss hs sc sk ba bs bc ht tv te da dn dc 5 w htv hte hx ⟨h.1, h.2.1, h.2.2.1, h.2.2.2.1, h.2.2.2.2.1, h.2.2.2.2.2.1⟩ (.inl ⟨rfl, h.2.2.2.2.2.2⟩)
theorem rcheck_ok (sp dp sq ak fl wn ur mss : Nat) (hs : Bool) (sc : Nat) (sk : Bool) (ba : Option Addr) (bs : List (Nat × Nat)) (bc : Nat) (ht : Bool) (tv te : Nat) (da : Option Addr) (dn dc : Nat) (w : World)
    (htv : tv < 4294967296) (hte : te < 4294967296) (hx : Blk w ba bs) (h : mss < 65536 ∧ sc < 256 ∧ (hs = false → sc = 0) ∧ (ht = false → tv = 0 ∧ te = 0) ∧ bs.length ≤ 4 ∧ (laidO mss hs sc sk bs ht tv te).length ≤ 40 ∧ dn + (laidO mss hs sc sk bs ht tv te).length ≤ 65515) :
    Calls Try.prog 16 #[.agg (tcpV sp dp sq ak fl wn ur mss hs sc sk ba bs.length bc ht tv te da dn dc)] w fun e w' => e = .returned (.int .i64 0) ∧ Below w.heap.size w w' :=
  rcheck_do sp dp sq ak fl wn ur mss hs sc sk ba bs bc ht tv te da dn dc 0 w htv hte hx ⟨h.1, h.2.1, h.2.2.1, h.2.2.2.1, h.2.2.2.2.1, h.2.2.2.2.2.1⟩ (.inr ⟨rfl, h.2.2.2.2.2.2⟩)
end Go.Proofs.Ytgmgoilleakdcaa
