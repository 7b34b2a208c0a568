/- Routes: the document's Drop. -/
import Derived.Test.YtinlacdngojlaaaRtRa
namespace Go.Proofs.Ytinlacdngojlaaa
open Go.RowKit Go.Maps Go.Proofs.Ytinlacdngojlaaa.Rt Go.Sort Go.BigFrame

theorem dropL_at {L : List Route10} {n : Nat} {b : Int} {i : Nat} {y : Route10} (h1 : ∀ r ∈ L.take i, ¬ (r.net = n ∧ r.bits = b)) (hy : L[i]? = some y) (h2 : y.net = n ∧ y.bits = b) : dropL L n b = L.take i ++ L.drop (i + 1) := by
  obtain ⟨hi, he⟩ := List.getElem?_eq_some_iff.1 hy
  have e : L = L.take i ++ y :: L.drop (i + 1) := by
    rw [← he, List.getElem_cons_drop, List.take_append_drop]
  unfold dropL
  conv => lhs; rw [e]
  rw [List.eraseP_append_right _ (fun x hx hp => h1 x hx (isR_iff.1 hp)), List.eraseP_cons_of_pos (isR_iff.2 h2)]
theorem Sts.takeT {α : Type} {m : Nat} {cells : α → List Value} {w : World} {a : Option Addr} {l : List α} (h : Sts m cells Tr w a l) (i : Nat) : Sts m cells Tr w a (l.take i) := by
  refine ⟨fun _ _ => trivial, ?_⟩
  rcases h.2 with h0 | ⟨b, off, e, hb, hc⟩
  · left; rw [h0]; simp
  · right
    refine ⟨b, off, e, hb, fun j r hj k v hv => ?_⟩
    rw [List.getElem?_take] at hj
    split at hj
    · exact hc j r hj k v hv
    · cases hj
theorem Sts.dropT {α : Type} {m : Nat} {cells : α → List Value} {w : World} {b off : Nat} {l : List α} (h : Sts m cells Tr w (some ⟨b, off, none⟩) l) (i : Nat) : Sts m cells Tr w (some ⟨b, off + i * m, none⟩) (l.drop i) := by
  refine ⟨fun _ _ => trivial, ?_⟩
  rcases h.2 with h0 | ⟨b', off', e, hb, hc⟩
  · left; rw [h0]; simp
  · cases e
    right
    refine ⟨b, off + i * m, rfl, hb, fun j r hj k v hv => ?_⟩
    rw [List.getElem?_drop] at hj
    have := hc (i + j) r hj k v hv
    rwa [Nat.add_mul, ← Nat.add_assoc] at this
set_option maxRecDepth 100000 in
set_option maxHeartbeats 2000000 in
theorem rdrop_any (B gt : Nat) (p : Option Addr) (L : List Route10) (k : Nat) (n : Nat) (b : Int) (W : World) (h : RTab B gt p L k W) (hB : B ≤ W.heap.size) (hL : L.length ≤ 256) :
    Calls Try.prog 11 #[.pointer (some ⟨gt, 0, none⟩), .int .u32 (n : Nat), .int .i64 b] W (RAns B gt p L k W (dropE L n b) (dropL L n b)) := by
  have HT := Lib.hid h
  have hgt := blk_lt h.blk
  clear h
  go_enter Try.func11, Try.ntmps11
  go_wp2_with fail
  go_loopw [7] (fun iv wr => ∃ i : Nat, i ≤ L.length ∧ iv = .int .i64 i ∧ Hid (∀ r ∈ L.take i, ¬ (r.net = n ∧ r.bits = b)) ∧ Hid (wr = W)) (fun iv _ => L.length - (intOf iv).toNat)
  case atStart => exact ⟨0, by omega, rfl, Lib.hid (fun r hr => by simp at hr), Lib.hid rfl⟩
  case round =>
    obtain ⟨i, hi, rfl, HNO, hw⟩ := hrel
    have hw := hw.out.symm
    subst hw
    have t0 := blk_cell HT.out.blk 0
    by_cases hlt : i < L.length
    case neg =>
      obtain rfl : i = L.length := by omega
      have j1 : ¬ ((L.length : Int) < (L.length : Int)) := by omega
      have hno := HNO.out
      rw [List.take_length] at hno
      have hlk := rlook_take hno
      have HE : Hid (dropE L n b = 71) := Lib.hid (by unfold dropE; rw [if_pos hlk])
      have HD := Lib.hid (drop_none hlk)
      clear hno HNO hlk
      go_wp2
      go_ret
      exact ⟨by rw [HE.out]; rfl, ⟨p, k, by rw [HD.out]; exact HT.out⟩, .refl _ _⟩
    case pos =>
      have j1 : (i : Int) < (L.length : Int) := by omega
      obtain ⟨y, hy⟩ : ∃ y, L[i]? = some y := ⟨_, List.getElem?_eq_getElem hlt⟩
      obtain ⟨g7, rfl, hg7, _⟩ := HT.out.own.isSome (by omega)
      obtain ⟨_, m0, m1, m2⟩ := r_at (HT.out.own.sts encR) hy
      rw [Nat.zero_add] at m0 m1 m2
      by_cases h1 : y.net = n
      case neg =>
        have v4 : ((y.net : Int) == (n : Int)) = false := by rw [beq_eq_false_iff_ne]; omega
        have v5 : ¬ ((y.net : Int) = (n : Int)) := by omega
        have HN2 : Hid (∀ r ∈ L.take (i + 1), ¬ (r.net = n ∧ r.bits = b)) := Lib.hid (fun r hr => by
          rw [List.take_add_one, hy] at hr
          rcases List.mem_append.1 hr with hr | hr
          · exact HNO.out r hr
          · simp at hr; subst hr; exact fun hh => h1 hh.1)
        clear h1 hy
        go_wp2_with fail
        go_roundw
        case rel => exact ⟨i + 1, by omega, by go_num, HN2, Lib.hid (by trivial)⟩
        case measure => simp [intOf]; omega
      case pos =>
      have v4 : ((y.net : Int) == (n : Int)) = true := by rw [h1]; simp
      have v5 : ((y.net : Int) = (n : Int)) := by omega
      by_cases h2 : y.bits = b
      case neg =>
        have v6 : (y.bits == b) = false := by rw [beq_eq_false_iff_ne]; exact h2
        have HN2 : Hid (∀ r ∈ L.take (i + 1), ¬ (r.net = n ∧ r.bits = b)) := Lib.hid (fun r hr => by
          rw [List.take_add_one, hy] at hr
          rcases List.mem_append.1 hr with hr | hr
          · exact HNO.out r hr
          · simp at hr; subst hr; exact fun hh => h2 hh.2)
        have H2 := Lib.hid h2
        clear h1 h2 v5 hy
        go_wp2_with fail
        go_roundw
        case rel => exact ⟨i + 1, by omega, by go_num, HN2, Lib.hid (by trivial)⟩
        case measure => simp [intOf]; omega
      case pos =>
      have v6 : (y.bits == b) = true := by rw [h2]; simp
      have HE : Hid (dropE L n b = 0) := Lib.hid (by unfold dropE; rw [if_neg]; rw [← h1, ← h2]; exact rlook_hit hy)
      have HD := Lib.hid (dropL_at HNO.out hy ⟨h1, h2⟩)
      obtain ⟨hlk, hkm⟩ := HT.out.own.capLe
      unfold maxLen at hkm
      have hik : (i : Int) ≤ (k : Int) := by omega
      have htl : (L.take i).length = i := by rw [List.length_take]; omega
      have hdl : (L.drop (i + 1)).length = L.length - (i + 1) := by rw [List.length_drop]
      have HTL := Lib.hid htl
      have HDL := Lib.hid hdl
      have YT := Lib.hid ((HT.out.own.sts encR).takeT i)
      have YD := Lib.hid ((HT.out.own.sts encR).dropT (i + 1))
      have hgtB : gt < B := HT.out.lt
      clear h1 h2 v5 hy htl hdl
      go_upto_region 7 with (first
        | ((with_reducible show wpList _ _ _ _ _ _); refine wpList_append_r (w := W) (t := 26) (e := 31) (z := .agg #[.int .u32 0, .int .i64 0, .int .u32 0]) (m := 3) (bz := 24) (cells := Route10.cells) (xs := ([] : List Route10)) (ys := L.take i) (cap := 0) (dap := k) (n := i) (a := none) (b := some ⟨g7, 0, none⟩) rfl elemR encR (.tmp 40) (.tmp 46) rfl W.heap.size ?_ ?_ ?_ ?_ ?_ ?_ ?_ ?_ ?_ ?_; exact HTL.out.symm; exact ownR_nil _ _ _ _ _; exact YT.out; (intro e; cases e); rfl; rfl; (rw [HTL.out]; simp only [List.length_nil]; omega); (rw [HTL.out]; unfold maxLen; simp only [List.length_nil]; omega); exact Nat.le_refl _; intro a5 c5 V5 O5 b5 g5; have O5h := Lib.hid O5; have B5h := Lib.hid b5; clear O5 b5 g5)
        | fail)
      rw [List.nil_append] at O5h
      have O7 := Lib.hid (HT.out.own.below B5h.out)
      have BK := Lib.hid ((B5h.out.block gt hgt).trans HT.out.blk)
      clear t0 m0 m1 m2
      have t0 := blk_cell BK.out 0
      have f0 := blk_free BK.out 0
      have j3 : (i : Int) + 1 ≤ (L.length : Int) := by omega
      have j4 : ((i : Int) + 1).toNat = i + 1 := by omega
      by_cases hke : k - (i + 1) = 0
      case pos =>
        have HDN : Hid (L.drop (i + 1) = []) := Lib.hid (List.drop_eq_nil_of_le (by omega))
        go_wp2_with (first
          | ((with_reducible show wpList _ _ _ _ _ _); refine wpList_append_r (w := V5) (t := 26) (e := 31) (z := .agg #[.int .u32 0, .int .i64 0, .int .u32 0]) (m := 3) (bz := 24) (cells := Route10.cells) (xs := L.take i) (ys := L.drop (i + 1)) (cap := c5) (n := L.length - (i + 1)) (a := a5) (dap := 0) (b := some ⟨g7, 0, none⟩) rfl elemR encR (.tmp 49) (.tmp 56) rfl W.heap.size HDL.out.symm O5h.out ?_ ?_ (by rw [HTL.out]; rfl) ?_ ?_ ?_ ?_ ?_; rotate_left 2; rfl; (rw [HTL.out, HDL.out]; omega); (rw [HTL.out, HDL.out]; unfold maxLen; omega); exact B5h.out.size; (intro a6 c6 V6 O6 b6 g6; have O6h := Lib.hid O6; have B6h := Lib.hid b6; have G6h := Lib.hid g6; clear O6 b6 g6; generalize hL2 : L.take i ++ L.drop (i + 1) = L2 at O6h ⊢; have HL2 := Lib.hid hL2; clear hL2; have BK6 := Lib.hid ((B6h.out.block gt hgt).trans BK.out); clear t0 f0; have t0 := blk_cell BK6.out 0; have f0 := blk_free BK6.out 0; have SF := Lib.hid (blk_set BK6.out 0 (.slice a6 L2.length c6)); have GF := Lib.hid (gr_set V6 gt 0 (.slice a6 L2.length c6))); rotate_left 1; (rw [HDN.out]; exact Sts.nil _ _); (intro e; cases e))
          | fail)
        go_wp2
        go_ret
        have SF2 := SF.out
        simp only [List.setIfInBounds_toArray, List.set_cons_zero] at SF2
        have Q6 : Below W.heap.size W V6 := B5h.out.trans B6h.out
        refine ⟨by rw [HE.out]; rfl, ⟨a6, c6, ?_⟩, ?_⟩
        · rw [HD.out, HL2.out]
          exact ⟨SF2, (O6h.out.grown GF.out (fun g e e2 => by have h1 := (O6h.out.ownB g (by rw [e]; rfl)).1; have := Option.some.inj e2; omega)).mono hB, HT.out.lt⟩
        · have t1 : Turns (rowS gt (some ⟨g7, 0, none⟩) L.length k) W V6 := .of_below _ Q6
          exact t1.grown (.inl rfl) GF.out
      case neg =>
        have YE := Lib.hid ((O7.out.sts encR).dropT (i + 1))
        rw [Nat.zero_add] at YE
        go_wp2_with (first
          | ((with_reducible show wpList _ _ _ _ _ _); refine wpList_append_r (w := V5) (t := 26) (e := 31) (z := .agg #[.int .u32 0, .int .i64 0, .int .u32 0]) (m := 3) (bz := 24) (cells := Route10.cells) (xs := L.take i) (ys := L.drop (i + 1)) (cap := c5) (n := L.length - (i + 1)) (a := a5) (dap := k - (i + 1)) (b := some ⟨g7, (i + 1) * 3, none⟩) rfl elemR encR (.tmp 49) (.tmp 56) rfl W.heap.size HDL.out.symm O5h.out ?_ ?_ (by rw [HTL.out]; rfl) ?_ ?_ ?_ ?_ ?_; rotate_left 2; rfl; (rw [HTL.out, HDL.out]; omega); (rw [HTL.out, HDL.out]; unfold maxLen; omega); exact B5h.out.size; (intro a6 c6 V6 O6 b6 g6; have O6h := Lib.hid O6; have B6h := Lib.hid b6; have G6h := Lib.hid g6; clear O6 b6 g6; generalize hL2 : L.take i ++ L.drop (i + 1) = L2 at O6h ⊢; have HL2 := Lib.hid hL2; clear hL2; have BK6 := Lib.hid ((B6h.out.block gt hgt).trans BK.out); clear t0 f0; have t0 := blk_cell BK6.out 0; have f0 := blk_free BK6.out 0; have SF := Lib.hid (blk_set BK6.out 0 (.slice a6 L2.length c6)); have GF := Lib.hid (gr_set V6 gt 0 (.slice a6 L2.length c6))); rotate_left 1; exact YE.out; (intro e; cases e))
          | fail)
        go_wp2
        go_ret
        have SF2 := SF.out
        simp only [List.setIfInBounds_toArray, List.set_cons_zero] at SF2
        have Q6 : Below W.heap.size W V6 := B5h.out.trans B6h.out
        refine ⟨by rw [HE.out]; rfl, ⟨a6, c6, ?_⟩, ?_⟩
        · rw [HD.out, HL2.out]
          exact ⟨SF2, (O6h.out.grown GF.out (fun g e e2 => by have h1 := (O6h.out.ownB g (by rw [e]; rfl)).1; have := Option.some.inj e2; omega)).mono hB, HT.out.lt⟩
        · have t1 : Turns (rowS gt (some ⟨g7, 0, none⟩) L.length k) W V6 := .of_below _ Q6
          exact t1.grown (.inl rfl) GF.out
end Go.Proofs.Ytinlacdngojlaaa
