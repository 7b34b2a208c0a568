/- Tcpwire's document: an option of blocks. -/
import Derived.Test.YtgmgoilleakdcaaTcpRb
import Derived.Test.YtgmgoilleakdcaaGOwn
import Derived.Test.YtgmgoilleakdcaaGUntil
namespace Go.Proofs.Ytgmgoilleakdcaa
open Go.RowKit

def BC5 (x : Nat × Nat) : List Value := [.int .u32 (x.1 : Nat), .int .u32 (x.2 : Nat)]
theorem encB5 : Enc 2 BC5 := ⟨fun _ => rfl, fun x u hu => by
  simp only [BC5, List.mem_cons, List.not_mem_nil, or_false] at hu
  rcases hu with rfl | rfl <;> rfl, by decide⟩
theorem elemB5 : Elem 24 68 (.agg #[.int .u32 0, .int .u32 0]) 2 8 := ⟨Try.underlying24, by kernel_rfl, rfl, by decide⟩
def bLs (ys : List Nat) (i : Nat) : List (Nat × Nat) := (tbL ys i).map (·.1)
theorem bLs_len (ys : List Nat) (i : Nat) : (bLs ys i).length = i := by unfold bLs; rw [List.length_map, tbL_length]
theorem bLs_step (ys : List Nat) (i : Nat) : bLs ys (i + 1) = bLs ys i ++ [(tbO ys i).1] := by
  unfold bLs tbL; rw [List.range_succ, List.map_append, List.map_append]; rfl

set_option maxRecDepth 100000 in
set_option maxHeartbeats 2000000 in
theorem rone_sacks (sp dp sq ak fl wn ur mss : Nat) (hs : Bool) (sc : Nat) (sk : Bool) (ht : Bool) (tv te : Nat) (da : Option Addr) (dn dc : Nat) (a : Option Addr) (ys : List Nat) (c : Nat) (w : World) (hx : Bts w a ys) (n : Nat) (hl : ys.length = 8 * n) (hn : n ≤ 4) (hc : ys.length ≤ c) :
    Calls Try.prog 47 #[.agg #[.int .u16 (sp : Nat), .int .u16 (dp : Nat), .int .u32 (sq : Nat), .int .u32 (ak : Nat), .int .u8 (fl : Nat), .int .u16 (wn : Nat), .int .u16 (ur : Nat), .int .i64 (mss : Nat), .bool hs, .int .i64 (sc : Nat), .bool sk, .slice none 0 0, .bool ht, .int .u32 (tv : Nat), .int .u32 (te : Nat), .slice da dn dc], .int .u8 5, .slice a ys.length c] w fun e w' => ∃ oa oc, e = .returned (.agg #[.int .u16 (sp : Nat), .int .u16 (dp : Nat), .int .u32 (sq : Nat), .int .u32 (ak : Nat), .int .u8 (fl : Nat), .int .u16 (wn : Nat), .int .u16 (ur : Nat), .int .i64 (mss : Nat), .bool hs, .int .i64 (sc : Nat), .bool sk, .slice oa n oc, .bool ht, .int .u32 (tv : Nat), .int .u32 (te : Nat), .slice da dn dc]) ∧ OwnR 68 2 BC5 w.heap.size oa (bLs ys n) oc w' ∧ Below w.heap.size w w' := by
  obtain ⟨gs, hgs⟩ : ∃ z, w.heap.size = z := ⟨_, rfl⟩
  have hs1 : (w.alloc (.cells #[.int .u16 (sp : Nat), .int .u16 (dp : Nat), .int .u32 (sq : Nat), .int .u32 (ak : Nat), .int .u8 (fl : Nat), .int .u16 (wn : Nat), .int .u16 (ur : Nat), .int .i64 (mss : Nat), .bool hs, .int .i64 (sc : Nat), .bool sk, .slice none 0 0, .bool ht, .int .u32 (tv : Nat), .int .u32 (te : Nat), .slice da dn dc] 27)).heap.size = gs + 1 := by simp [hgs]
  have b1 := (Below.refl w.heap.size w).alloc (Nat.le_refl _) (.cells #[.int .u16 (sp : Nat), .int .u16 (dp : Nat), .int .u32 (sq : Nat), .int .u32 (ak : Nat), .int .u8 (fl : Nat), .int .u16 (wn : Nat), .int .u16 (ur : Nat), .int .i64 (mss : Nat), .bool hs, .int .i64 (sc : Nat), .bool sk, .slice none 0 0, .bool ht, .int .u32 (tv : Nat), .int .u32 (te : Nat), .slice da dn dc] 27)
  have k1 := blk_new w (.cells #[.int .u16 (sp : Nat), .int .u16 (dp : Nat), .int .u32 (sq : Nat), .int .u32 (ak : Nat), .int .u8 (fl : Nat), .int .u16 (wn : Nat), .int .u16 (ur : Nat), .int .i64 (mss : Nat), .bool hs, .int .i64 (sc : Nat), .bool sk, .slice none 0 0, .bool ht, .int .u32 (tv : Nat), .int .u32 (te : Nat), .slice da dn dc] 27)
  have b2 := (Below.refl (w.alloc (.cells #[.int .u16 (sp : Nat), .int .u16 (dp : Nat), .int .u32 (sq : Nat), .int .u32 (ak : Nat), .int .u8 (fl : Nat), .int .u16 (wn : Nat), .int .u16 (ur : Nat), .int .i64 (mss : Nat), .bool hs, .int .i64 (sc : Nat), .bool sk, .slice none 0 0, .bool ht, .int .u32 (tv : Nat), .int .u32 (te : Nat), .slice da dn dc] 27)).heap.size (w.alloc (.cells #[.int .u16 (sp : Nat), .int .u16 (dp : Nat), .int .u32 (sq : Nat), .int .u32 (ak : Nat), .int .u8 (fl : Nat), .int .u16 (wn : Nat), .int .u16 (ur : Nat), .int .i64 (mss : Nat), .bool hs, .int .i64 (sc : Nat), .bool sk, .slice none 0 0, .bool ht, .int .u32 (tv : Nat), .int .u32 (te : Nat), .slice da dn dc] 27))).alloc (Nat.le_refl _) (.cells #[.int .u16 0, .int .u16 0, .int .u32 0, .int .u32 0, .int .u8 0, .int .u16 0, .int .u16 0, .int .i64 0, .bool false, .int .i64 0, .bool false, .slice none 0 0, .bool false, .int .u32 0, .int .u32 0, .slice none 0 0] 27)
  have k2 := blk_new (w.alloc (.cells #[.int .u16 (sp : Nat), .int .u16 (dp : Nat), .int .u32 (sq : Nat), .int .u32 (ak : Nat), .int .u8 (fl : Nat), .int .u16 (wn : Nat), .int .u16 (ur : Nat), .int .i64 (mss : Nat), .bool hs, .int .i64 (sc : Nat), .bool sk, .slice none 0 0, .bool ht, .int .u32 (tv : Nat), .int .u32 (te : Nat), .slice da dn dc] 27)) (.cells #[.int .u16 0, .int .u16 0, .int .u32 0, .int .u32 0, .int .u8 0, .int .u16 0, .int .u16 0, .int .i64 0, .bool false, .int .i64 0, .bool false, .slice none 0 0, .bool false, .int .u32 0, .int .u32 0, .slice none 0 0] 27)
  have k1' := (b2.block _ (Array.getElem?_eq_some_iff.1 k1).1).trans k1
  rw [hs1] at k2
  rw [hgs] at k1'
  have Q0 := Lib.hid (b1.trans (b2.mono b1.size))
  have K1 := Lib.hid k1'
  have K2 := Lib.hid k2
  have X0 := Lib.hid (hx.below Q0.out)
  have hx0 := Lib.hid hx
  clear hx b1 b2 k1 k1' k2
  go_enter Try.func47, Try.ntmps47
  go_upto_region 1 with fail
  generalize (w.alloc (.cells #[.int .u16 (sp : Nat), .int .u16 (dp : Nat), .int .u32 (sq : Nat), .int .u32 (ak : Nat), .int .u8 (fl : Nat), .int .u16 (wn : Nat), .int .u16 (ur : Nat), .int .i64 (mss : Nat), .bool hs, .int .i64 (sc : Nat), .bool sk, .slice none 0 0, .bool ht, .int .u32 (tv : Nat), .int .u32 (te : Nat), .slice da dn dc] 27)).alloc (.cells #[.int .u16 0, .int .u16 0, .int .u32 0, .int .u32 0, .int .u8 0, .int .u16 0, .int .u16 0, .int .i64 0, .bool false, .int .i64 0, .bool false, .slice none 0 0, .bool false, .int .u32 0, .int .u32 0, .slice none 0 0] 27) = V0 at K1 K2 Q0 X0 ⊢
  have ht1 : Hid (TcpAt V0 gs #[.int .u16 (sp : Nat), .int .u16 (dp : Nat), .int .u32 (sq : Nat), .int .u32 (ak : Nat), .int .u8 (fl : Nat), .int .u16 (wn : Nat), .int .u16 (ur : Nat), .int .i64 (mss : Nat), .bool hs, .int .i64 (sc : Nat), .bool sk, .slice none 0 0, .bool ht, .int .u32 (tv : Nat), .int .u32 (te : Nat), .slice da dn dc]) := Lib.hid K1.out
  have ht2 : Hid (TcpAt V0 (gs + 1) #[.int .u16 0, .int .u16 0, .int .u32 0, .int .u32 0, .int .u8 0, .int .u16 0, .int .u16 0, .int .i64 0, .bool false, .int .i64 0, .bool false, .slice none 0 0, .bool false, .int .u32 0, .int .u32 0, .slice none 0 0]) := Lib.hid K2.out
  have HGS := Lib.hid hgs
  clear K1 K2 hs1 hgs
  have hne0 := hx0
  obtain ⟨B0, hB0⟩ : ∃ z, V0.heap.size = z := ⟨_, rfl⟩
  have hgB : gs + 1 < B0 := by rw [← hB0]; exact (Array.getElem?_eq_some_iff.1 ht2.out).1
  have HB0 := Lib.hid hB0
  have HL8 := Lib.hid hl
  clear hB0 hl
  go_upto_region 11 with fail
  go_wp2_with fail
  go_loopw [7] (fun v wr => ∃ (i i8 : Nat) (oa : Option Addr) (oc : Nat), i8 = 8 * i ∧ i ≤ n ∧ v = .int .i64 (i8 : Nat) ∧ TcpAt wr gs #[.int .u16 (sp : Nat), .int .u16 (dp : Nat), .int .u32 (sq : Nat), .int .u32 (ak : Nat), .int .u8 (fl : Nat), .int .u16 (wn : Nat), .int .u16 (ur : Nat), .int .i64 (mss : Nat), .bool hs, .int .i64 (sc : Nat), .bool sk, .slice oa i oc, .bool ht, .int .u32 (tv : Nat), .int .u32 (te : Nat), .slice da dn dc] ∧ TcpAt wr (gs + 1) #[.int .u16 0, .int .u16 0, .int .u32 0, .int .u32 0, .int .u8 0, .int .u16 0, .int .u16 0, .int .i64 0, .bool false, .int .i64 0, .bool false, .slice none 0 0, .bool false, .int .u32 0, .int .u32 0, .slice none 0 0] ∧ OwnR 68 2 BC5 B0 oa (bLs ys i) oc wr ∧ Below w.heap.size w wr ∧ B0 ≤ wr.heap.size) (fun v _ => ys.length - (intOf v).toNat)
  case atStart => exact ⟨0, 0, none, 0, rfl, by omega, rfl, ht1.out, ht2.out, ownR_nil _ _ _ _ _, Q0.out, by rw [HB0.out]; exact Nat.le_refl _⟩
  case round =>
    obtain ⟨i, i8, oa, oc, hi8, hi, rfl, hT1, hT2, hO, hQ, hBw⟩ := hrel
    have T1 := Lib.hid hT1
    have T2 := Lib.hid hT2
    have OR := Lib.hid hO
    have QR := Lib.hid hQ
    have HI8 := Lib.hid hi8
    have hln := bLs_len ys i
    have hstp := bLs_step ys i
    obtain ⟨bl, hbl⟩ : ∃ z, bLs ys i = z := ⟨_, rfl⟩
    rw [hbl] at OR hln hstp
    have HLN := Lib.hid hln
    clear hT1 hT2 hO hQ
    by_cases hlt : i < n
    case neg =>
      obtain rfl : i = n := by omega
      have k1 : decide ((i8 : Int) < (ys.length : Int)) = false := decide_eq_false (by have := HL8.out; omega)
      have k2 : ¬ ((i8 : Int) < (ys.length : Int)) := by have := HL8.out; omega
      have HBL := Lib.hid hbl
      clear hi8 hln hstp hbl
      go_wp2_with (first
        | ((with_reducible show wpList _ _ _ _ _ _); refine wpList_load_tcp rfl (.tmp 3) rfl gs rfl _ T1.out rfl ?_)
        | ((with_reducible show wpList _ _ _ _ _ _); refine wpList_store_tcp rfl (.tmp 6) (.tmp 64) rfl (gs + 1) _ #[.int .u16 (sp : Nat), .int .u16 (dp : Nat), .int .u32 (sq : Nat), .int .u32 (ak : Nat), .int .u8 (fl : Nat), .int .u16 (wn : Nat), .int .u16 (ur : Nat), .int .i64 (mss : Nat), .bool hs, .int .i64 (sc : Nat), .bool sk, .slice oa i oc, .bool ht, .int .u32 (tv : Nat), .int .u32 (te : Nat), .slice da dn dc] rfl rfl T2.out rfl rfl (by simp [Value.oneCell']) ?_; intro VE hs2 hg2; have K2 := Lib.hid hs2; have G2 := Lib.hid hg2; clear hs2 hg2)
        | fail)
      refine bodyPost_ret (results_tcp1 rfl _ _ (gs + 1) _ rfl K2.out rfl) rfl ⟨oa, oc, rfl, ?_, QR.out.grown G2.out QR.out.size (fun j e => by cases e; have := HGS.out; omega)⟩
      rw [HBL.out]
      exact (OR.out.grown G2.out (fun g' e1 e2 => by have h6 := Option.some.inj e2; have := (OR.out.ownB g' (by rw [e1]; rfl)).1; omega)).mono (by have := HGS.out; omega)
    case pos =>
      obtain ⟨bb, bo, rfl, hbl2, _⟩ := hx0.out.isSome (by have := HL8.out; omega)
      obtain ⟨i4, hi4⟩ : ∃ z, i8 + 4 = z := ⟨_, rfl⟩
      obtain ⟨ie, hie⟩ : ∃ z, i8 + 8 = z := ⟨_, rfl⟩
      have hl8 := HL8.out
      have k1 : (i8 : Int) < (ys.length : Int) := by omega
      have k1d : decide ((i8 : Int) < (ys.length : Int)) = true := decide_eq_true k1
      have W4 : IntKind.i64.wrap ((i8 : Int) + 4) = (i4 : Int) := by rw [IntWalk.i64_in _ ⟨by omega, by omega⟩]; omega
      have W8 : IntKind.i64.wrap ((i8 : Int) + 8) = (ie : Int) := by rw [IntWalk.i64_in _ ⟨by omega, by omega⟩]; omega
      have e1 : (i8 : Int) ≤ (i4 : Int) := by omega
      have e2 : (i4 : Int) ≤ (c : Int) := by omega
      have e3 : (i4 : Int) ≤ (ie : Int) := by omega
      have e4 : (ie : Int) ≤ (c : Int) := by omega
      have e5 : ¬ (c = i8) := by omega
      have e6 : ¬ (c = i4) := by omega
      have e7 : i4 - i8 = 4 := by omega
      have e8 : ie - i4 = 4 := by omega
      have s1 := hx0.out.segOf i8 4 (by omega)
      have s2 := hx0.out.segOf i4 4 (by omega)
      have l1 : (seg ys i8 4).length = 4 := seg_length ys i8 4 (by omega)
      have l2 : (seg ys i4 4).length = 4 := seg_length ys i4 4 (by omega)
      obtain ⟨v1, hv1⟩ : ∃ z, Mt.numOf (seg ys i8 4) = z := ⟨_, rfl⟩
      obtain ⟨v2, hv2⟩ : ∃ z, Mt.numOf (seg ys i4 4) = z := ⟨_, rfl⟩
      have b1 : v1 < 4294967296 := by
        have h := Mt.numOf_lt (seg ys i8 4) (seg_lt hx0.out.1 i8 4)
        rw [l1, hv1] at h; omega
      have b2 : v2 < 4294967296 := by
        have h := Mt.numOf_lt (seg ys i4 4) (seg_lt hx0.out.1 i4 4)
        rw [l2, hv2] at h; omega
      have htb : (tbO ys i).1 = (v1, v2) := by
        show (Mt.numOf (seg ys (8 * i) 4) % 4294967296, Mt.numOf (seg ys (8 * i + 4) 4) % 4294967296) = _
        rw [← hi8, hi4, hv1, hv2, Nat.mod_eq_of_lt b1, Nat.mod_eq_of_lt b2]
      rw [htb] at hstp
      have hnl := bLs_len ys (i + 1)
      obtain ⟨nb, hnb⟩ : ∃ z, bLs ys (i + 1) = z := ⟨_, rfl⟩
      rw [hnb] at hstp hnl
      have HNB := Lib.hid hnb
      have HNL := Lib.hid hnl
      clear hnb hnl
      have HSTP := Lib.hid hstp
      have n1 : Hid (∀ W, Below w.heap.size w W → Calls Try.prog 34 #[.slice (some ⟨bb, bo + i8, none⟩) 4 (c - i8)] W fun e w' => e = .returned (.int .u32 (v1 : Nat)) ∧ W = w') := Lib.hid (fun W hb => (by
        have h := rword_any (some ⟨bb, bo + i8, none⟩) (seg ys i8 4) (c - i8) W (s1.below hb) (by omega)
        rw [l1, hv1] at h; exact h))
      have n2 : Hid (∀ W, Below w.heap.size w W → Calls Try.prog 34 #[.slice (some ⟨bb, bo + i4, none⟩) 4 (c - i4)] W fun e w' => e = .returned (.int .u32 (v2 : Nat)) ∧ W = w') := Lib.hid (fun W hb => (by
        have h := rword_any (some ⟨bb, bo + i4, none⟩) (seg ys i4 4) (c - i4) W (s2.below hb) (by omega)
        rw [l2, hv2] at h; exact h))
      have HIE := Lib.hid hie
      clear s1 s2 l1 l2 htb hstp hi8 hi4 hie hl8 hv1 hv2 hln hbl
      go_upto_region 14 with fail
      refine wp_region_until (S := fun W => TcpAt W gs (#[.int .u16 (sp : Nat), .int .u16 (dp : Nat), .int .u32 (sq : Nat), .int .u32 (ak : Nat), .int .u8 (fl : Nat), .int .u16 (wn : Nat), .int .u16 (ur : Nat), .int .i64 (mss : Nat), .bool hs, .int .i64 (sc : Nat), .bool sk, .slice oa i oc, .bool ht, .int .u32 (tv : Nat), .int .u32 (te : Nat), .slice da dn dc])) 19 (by kernel_rfl) (show TcpAt wr.drew gs _ from T1.out) (fun hHeld => ?_)
      refine wpAnyU_take (i := 0) (oi := _) (v := ?_) rfl (by kernel_rfl) (by kernel_rfl) (by kernel_rfl) (by kernel_rfl) (fun _ _ _ h => h) (Or.inl ⟨by rfl, ?_⟩) (by assumption) ?_
      rotate_left
      · intro w5 hSw
        clear hSw
        go_simp
        all_goals with_reducible rfl
      (try simp only [List.getElem_toArray]); (try simp only [List.getElem_cons_succ]); (try simp only [List.getElem_cons_zero]); try simp only [Act.put, List.setIfInBounds_toArray, List.set_cons_zero, List.set_cons_succ]
      refine wpAnyU_take (i := 1) (oi := _) (v := ?_) rfl (by kernel_rfl) (by kernel_rfl) (by kernel_rfl) (by kernel_rfl) (fun _ _ _ h => h) (Or.inl ⟨by rfl, ?_⟩) (by assumption) ?_
      rotate_left
      · intro w5 hSw
        have c11 := blk_cell hSw 11
        clear hSw
        go_simp
        all_goals with_reducible rfl
      (try simp only [List.getElem_toArray]); (try simp only [List.getElem_cons_succ]); (try simp only [List.getElem_cons_zero]); try simp only [Act.put, List.setIfInBounds_toArray, List.set_cons_zero, List.set_cons_succ]
      refine wpAnyU_take (i := 2) (oi := _) (v := ?_) rfl (by kernel_rfl) (by kernel_rfl) (by kernel_rfl) (by kernel_rfl) (fun _ _ _ h => h) (Or.inl ⟨by rfl, ?_⟩) (by assumption) ?_
      rotate_left
      · intro w5 hSw
        clear hSw
        go_simp
        all_goals with_reducible rfl
      (try simp only [List.getElem_toArray]); (try simp only [List.getElem_cons_succ]); (try simp only [List.getElem_cons_zero]); try simp only [Act.put, List.setIfInBounds_toArray, List.set_cons_zero, List.set_cons_succ]
      refine wpAnyU_take (i := 3) (oi := _) (v := ?_) rfl (by kernel_rfl) (by kernel_rfl) (by kernel_rfl) (by kernel_rfl) (fun _ _ _ h => h) (Or.inl ⟨by rfl, ?_⟩) (by assumption) ?_
      rotate_left
      · intro w5 hSw
        clear hSw
        go_simp
        all_goals with_reducible rfl
      (try simp only [List.getElem_toArray]); (try simp only [List.getElem_cons_succ]); (try simp only [List.getElem_cons_zero]); try simp only [Act.put, List.setIfInBounds_toArray, List.set_cons_zero, List.set_cons_succ]
      refine wpAnyU_take (i := 4) (oi := _) (v := ?_) rfl (by kernel_rfl) (by kernel_rfl) (by kernel_rfl) (by kernel_rfl) (fun _ _ _ h => h) (Or.inl ⟨by rfl, ?_⟩) (by assumption) ?_
      rotate_left
      · intro w5 hSw
        clear hSw
        go_simp
        all_goals with_reducible rfl
      (try simp only [List.getElem_toArray]); (try simp only [List.getElem_cons_succ]); (try simp only [List.getElem_cons_zero]); try simp only [Act.put, List.setIfInBounds_toArray, List.set_cons_zero, List.set_cons_succ]
      refine wpAnyU_take (i := 5) (oi := _) (v := ?_) rfl (by kernel_rfl) (by kernel_rfl) (by kernel_rfl) (by kernel_rfl) (fun _ _ _ h => h) (Or.inl ⟨by rfl, ?_⟩) (by assumption) ?_
      rotate_left
      · intro w5 hSw
        clear hSw
        go_simp
        all_goals with_reducible rfl
      (try simp only [List.getElem_toArray]); (try simp only [List.getElem_cons_succ]); (try simp only [List.getElem_cons_zero]); try simp only [Act.put, List.setIfInBounds_toArray, List.set_cons_zero, List.set_cons_succ]
      refine wpAnyU_take (i := 6) (oi := _) (v := ?_) rfl (by kernel_rfl) (by kernel_rfl) (by kernel_rfl) (by kernel_rfl) (fun _ _ _ h => h) (Or.inl ⟨by rfl, ?_⟩) (by assumption) ?_
      rotate_left
      · intro w5 hSw
        clear hSw
        go_simp
        all_goals with_reducible rfl
      (try simp only [List.getElem_toArray]); (try simp only [List.getElem_cons_succ]); (try simp only [List.getElem_cons_zero]); try simp only [Act.put, List.setIfInBounds_toArray, List.set_cons_zero, List.set_cons_succ]
      refine wpAnyU_take (i := 8) (oi := _) (v := ?_) rfl (by kernel_rfl) (by kernel_rfl) (by kernel_rfl) (by kernel_rfl) (fun _ _ _ h => h) (Or.inl ⟨by rfl, ?_⟩) (by assumption) ?_
      rotate_left
      · intro w5 hSw
        clear hSw
        go_simp
        all_goals with_reducible rfl
      (try simp only [List.getElem_toArray]); (try simp only [List.getElem_cons_succ]); (try simp only [List.getElem_cons_zero]); try simp only [Act.put, List.setIfInBounds_toArray, List.set_cons_zero, List.set_cons_succ]
      refine wpAnyU_take (i := 9) (oi := _) (v := ?_) rfl (by kernel_rfl) (by kernel_rfl) (by kernel_rfl) (by kernel_rfl) (fun _ _ _ h => h) (Or.inl ⟨by rfl, ?_⟩) (by assumption) ?_
      rotate_left
      · intro w5 hSw
        clear hSw
        go_simp
        all_goals with_reducible rfl
      (try simp only [List.getElem_toArray]); (try simp only [List.getElem_cons_succ]); (try simp only [List.getElem_cons_zero]); try simp only [Act.put, List.setIfInBounds_toArray, List.set_cons_zero, List.set_cons_succ]
      refine wpAnyU_take (i := 10) (oi := _) (v := ?_) rfl (by kernel_rfl) (by kernel_rfl) (by kernel_rfl) (by kernel_rfl) (fun _ _ _ h => h) (Or.inl ⟨by rfl, ?_⟩) (by assumption) ?_
      rotate_left
      · intro w5 hSw
        clear hSw
        go_simp
        all_goals with_reducible rfl
      (try simp only [List.getElem_toArray]); (try simp only [List.getElem_cons_succ]); (try simp only [List.getElem_cons_zero]); try simp only [Act.put, List.setIfInBounds_toArray, List.set_cons_zero, List.set_cons_succ]
      refine wpAnyU_take (i := 11) (oi := _) (v := ?_) rfl (by kernel_rfl) (by kernel_rfl) (by kernel_rfl) (by kernel_rfl) (fun _ _ _ h => h) (Or.inl ⟨by rfl, ?_⟩) (by assumption) ?_
      rotate_left
      · intro w5 hSw
        clear hSw
        go_simp
        all_goals with_reducible rfl
      (try simp only [List.getElem_toArray]); (try simp only [List.getElem_cons_succ]); (try simp only [List.getElem_cons_zero]); try simp only [Act.put, List.setIfInBounds_toArray, List.set_cons_zero, List.set_cons_succ]
      refine wpAnyU_take (i := 12) (oi := _) (v := ?_) rfl (by kernel_rfl) (by kernel_rfl) (by kernel_rfl) (by kernel_rfl) (fun _ _ _ h => h) (Or.inl ⟨by rfl, ?_⟩) (by assumption) ?_
      rotate_left
      · intro w5 hSw
        clear hSw
        go_simp
        all_goals with_reducible rfl
      (try simp only [List.getElem_toArray]); (try simp only [List.getElem_cons_succ]); (try simp only [List.getElem_cons_zero]); try simp only [Act.put, List.setIfInBounds_toArray, List.set_cons_zero, List.set_cons_succ]
      refine wpAnyU_take (i := 13) (oi := _) (v := ?_) rfl (by kernel_rfl) (by kernel_rfl) (by kernel_rfl) (by kernel_rfl) (fun _ _ _ h => h) (Or.inl ⟨by rfl, ?_⟩) (by assumption) ?_
      rotate_left
      · intro w5 hSw
        clear hSw
        go_simp
        all_goals with_reducible rfl
      (try simp only [List.getElem_toArray]); (try simp only [List.getElem_cons_succ]); (try simp only [List.getElem_cons_zero]); try simp only [Act.put, List.setIfInBounds_toArray, List.set_cons_zero, List.set_cons_succ]
      obtain ⟨V3, hV3⟩ : ∃ V, wr.drew = V := ⟨_, rfl⟩
      have O3 : Hid (OwnR 68 2 BC5 B0 oa bl oc V3) := Lib.hid (hV3 ▸ OR.out.below (Below.refl wr.heap.size wr).drew)
      have Q3 : Hid (Below w.heap.size w V3) := Lib.hid (hV3 ▸ QR.out.drew)
      have hB3 : B0 ≤ V3.heap.size := hV3 ▸ hBw
      have T3 : Hid (TcpAt V3 (gs + 1) #[.int .u16 0, .int .u16 0, .int .u32 0, .int .u32 0, .int .u8 0, .int .u16 0, .int .u16 0, .int .i64 0, .bool false, .int .i64 0, .bool false, .slice none 0 0, .bool false, .int .u32 0, .int .u32 0, .slice none 0 0]) := Lib.hid (hV3 ▸ (show TcpAt wr.drew (gs + 1) _ from T2.out))
      rw [hV3] at hHeld ⊢
      clear hV3
      have BAL := Lib.hid ((Below.refl V3.heap.size V3).alloc (Nat.le_refl _) (.cells #[.int .u32 (v1 : Nat), .int .u32 (v2 : Nat)] 68))
      refine wpAnyU_one (i := 7) (by kernel_rfl) rfl (fun K hK => ?_)
      (try simp only [List.getElem_toArray]); (try simp only [List.getElem_cons_succ]); (try simp only [List.getElem_cons_zero])
      go_simp
      go_at_call 34
      refine (n1.out _ Q3.out).mono ?_
      rintro e5 w5 ⟨rfl, rfl⟩
      dsimp only
      refine hK.out _ _ hHeld (fun hHeld => ?_)
      clear hK K
      (try simp only [List.getElem_toArray]); (try simp only [List.getElem_cons_succ]); (try simp only [List.getElem_cons_zero]); try simp only [Act.put, List.setIfInBounds_toArray, List.set_cons_zero, List.set_cons_succ]
      refine wpAnyU_one (i := 14) (by kernel_rfl) rfl (fun K hK => ?_)
      (try simp only [List.getElem_toArray]); (try simp only [List.getElem_cons_succ]); (try simp only [List.getElem_cons_zero])
      go_simp
      go_at_call 34
      refine (n2.out _ Q3.out).mono ?_
      rintro e5 w5 ⟨rfl, rfl⟩
      dsimp only
      refine hK.out _ _ hHeld (fun hHeld => ?_)
      clear hK K
      (try simp only [List.getElem_toArray]); (try simp only [List.getElem_cons_succ]); (try simp only [List.getElem_cons_zero]); try simp only [Act.put, List.setIfInBounds_toArray, List.set_cons_zero, List.set_cons_succ]
      refine wpAnyU_take (i := 15) (oi := _) (v := ?_) rfl (by kernel_rfl) (by kernel_rfl) (by kernel_rfl) (by kernel_rfl) (fun _ _ _ h => h) (Or.inl ⟨by rfl, ?_⟩) (by assumption) ?_
      rotate_left
      · intro w5 hSw
        clear hSw
        go_simp
        all_goals with_reducible rfl
      (try simp only [List.getElem_toArray]); (try simp only [List.getElem_cons_succ]); (try simp only [List.getElem_cons_zero]); try simp only [Act.put, List.setIfInBounds_toArray, List.set_cons_zero, List.set_cons_succ]
      refine wpAnyU_one (i := 16) (by kernel_rfl) rfl (fun K hK => ?_)
      (try simp only [List.getElem_toArray]); (try simp only [List.getElem_cons_succ]); (try simp only [List.getElem_cons_zero])
      go_simp
      refine hK.out _ _ ((BAL.out.block gs (Array.getElem?_eq_some_iff.1 hHeld).1).trans hHeld) (fun hHeld => ?_)
      clear hK K
      (try simp only [List.getElem_toArray]); (try simp only [List.getElem_cons_succ]); (try simp only [List.getElem_cons_zero]); try simp only [Act.put, List.setIfInBounds_toArray, List.set_cons_zero, List.set_cons_succ]
      have hb3 := BAL.out.size
      refine wpAnyU_one (i := 17) (by kernel_rfl) rfl (fun K hK => ?_)
      (try simp only [List.getElem_toArray]); (try simp only [List.getElem_cons_succ]); (try simp only [List.getElem_cons_zero])
      refine step_append_r (act := ⟨_, _⟩) (w := V3.alloc (.cells #[.int .u32 (v1 : Nat), .int .u32 (v2 : Nat)] 68)) (t := 24) (e := 68) (z := .agg #[.int .u32 0, .int .u32 0]) (m := 2) (bz := 8) (cells := BC5) (xs := bl) (ys := [(v1, v2)]) (cap := oc) (dap := 1) (n := 1) (a := oa) (b := some ⟨V3.heap.size, 0, none⟩) ?_ elemB5 encB5 (.tmp 46) (.tmp 61) ?_ B0 ?_ (O3.out.below BAL.out) (sts_new encB5 V3 [(v1, v2)] 68 (0, 0)) (fun e => by cases e) ?_ ?_ (by rw [List.length_singleton, HLN.out]; omega) (by unfold maxLen; rw [List.length_singleton, HLN.out]; omega) (by omega) ?_
      · rfl
      · rfl
      · rfl
      · (rw [HLN.out]; rfl)
      · rfl
      intro a5 c5 V5 O5 b5 g5
      rw [← HSTP.out] at O5 ⊢
      have O5h := Lib.hid O5
      have B5h := Lib.hid b5
      have G5h := Lib.hid g5
      clear O5 b5 g5
      refine hK.out _ _ ((G5h.out.block gs (Array.getElem?_eq_some_iff.1 hHeld).1 (fun e => by have h1 := (O3.out.ownB gs e.symm).1; omega)).trans hHeld) (fun hHeld => ?_)
      clear hK K
      try simp only [Act.put, List.setIfInBounds_toArray, List.set_cons_zero, List.set_cons_succ]
      refine wpAnyU_take (i := 18) (oi := _) (v := ?_) rfl (by kernel_rfl) (by kernel_rfl) (by kernel_rfl) (by kernel_rfl) (fun _ _ _ h => h) (Or.inl ⟨by rfl, ?_⟩) (by assumption) ?_
      rotate_left
      · intro w5 hSw
        clear hSw
        go_simp
        all_goals with_reducible rfl
      (try simp only [List.getElem_toArray]); (try simp only [List.getElem_cons_succ]); (try simp only [List.getElem_cons_zero]); try simp only [Act.put, List.setIfInBounds_toArray, List.set_cons_zero, List.set_cons_succ]
      have c11 := blk_cell hHeld 11
      have f11 := blk_free hHeld 11
      have SF := blk_set hHeld 11 (.slice a5 nb.length c5)
      have GF := grown_set V5 gs 11 (.slice a5 nb.length c5)
      refine wpAnyU_last (by kernel_rfl) rfl (fun K hK => ?_)
      (try simp only [List.getElem_toArray]); (try simp only [List.getElem_cons_succ]); (try simp only [List.getElem_cons_zero])
      go_simp
      refine hK.out _ _ ?_
      clear hK K
      (try simp only [List.getElem_toArray]); (try simp only [List.getElem_cons_succ]); (try simp only [List.getElem_cons_zero]); try simp only [Act.put, List.setIfInBounds_toArray, List.set_cons_zero, List.set_cons_succ]
      refine wpAnyU_done (by kernel_rfl) ?_ _
      have T2v : Hid (TcpAt (V5.setCell ⟨gs, 11, none⟩ (.slice a5 nb.length c5)) (gs + 1) #[.int .u16 0, .int .u16 0, .int .u32 0, .int .u32 0, .int .u8 0, .int .u16 0, .int .u16 0, .int .i64 0, .bool false, .int .i64 0, .bool false, .slice none 0 0, .bool false, .int .u32 0, .int .u32 0, .slice none 0 0]) := Lib.hid (by
        have h1 := (Q3.out.size)
        have h2 := ((BAL.out.block (gs + 1) (by omega)).trans (show V3.heap[gs + 1]? = _ from T3.out))
        have h3 := (G5h.out.block (gs + 1) (Array.getElem?_eq_some_iff.1 h2).1 (fun e => by have h1 := (O3.out.ownB (gs + 1) e.symm).1; omega)).trans h2
        exact (GF.block (gs + 1) (Array.getElem?_eq_some_iff.1 h3).1 (fun e => by have := Option.some.inj e; omega)).trans h3)
      have SFv : Hid (TcpAt (V5.setCell ⟨gs, 11, none⟩ (.slice a5 nb.length c5)) gs #[.int .u16 (sp : Nat), .int .u16 (dp : Nat), .int .u32 (sq : Nat), .int .u32 (ak : Nat), .int .u8 (fl : Nat), .int .u16 (wn : Nat), .int .u16 (ur : Nat), .int .i64 (mss : Nat), .bool hs, .int .i64 (sc : Nat), .bool sk, .slice a5 nb.length c5, .bool ht, .int .u32 (tv : Nat), .int .u32 (te : Nat), .slice da dn dc]) := Lib.hid SF
      have OV := Lib.hid (O5h.out.grown GF (fun g' e1 e2 => by have h6 := Option.some.inj e2; have := (O5h.out.ownB g' (by rw [e1]; rfl)).1; omega))
      have QV := Lib.hid (((Q3.out.trans (BAL.out.mono Q3.out.size)).trans (B5h.out.mono (by have := HB0.out; have := Q0.out.size; omega))).grown GF (Nat.le_trans Q3.out.size (Nat.le_trans BAL.out.size B5h.out.size)) (fun k e => by cases e; have := HGS.out; omega))
      have BV : Hid (B0 ≤ (V5.setCell ⟨gs, 11, none⟩ (.slice a5 nb.length c5)).heap.size) := Lib.hid (Nat.le_trans hB3 (Nat.le_trans BAL.out.size (Nat.le_trans B5h.out.size GF.size)))
      clear SF GF c11 f11
      generalize V5.setCell ⟨gs, 11, none⟩ (.slice a5 nb.length c5) = VF at T2v SFv OV QV BV ⊢
      go_wp2_with fail
      go_roundw
      case rel =>
        refine ⟨i + 1, ie, a5, c5, by have := HIE.out; have := HI8.out; omega, by omega, by have := HIE.out; go_num, ?_, T2v.out, ?_, QV.out, BV.out⟩
        · rw [← HNL.out]; exact SFv.out
        · rw [HNB.out]; exact OV.out
      case measure => have := HIE.out; simp [intOf]; omega
end Go.Proofs.Ytgmgoilleakdcaa
