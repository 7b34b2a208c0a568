/- The document's scoreboard: the parts that no block has. -/
import Derived.Test.YtcachmjcninkbaaScT
namespace Go.Proofs.Ytcachmjcninkbaa
open Go.RowKit Go.Sort Go.BigFrame

/-- The parts ahead of blocks; where the last block ends. -/
def preB : Nat → List (Nat × Nat) → List (Nat × Nat)
  | _, [] => []
  | f, b :: l => (f, b.1) :: preB b.2 l
def frB : Nat → List (Nat × Nat) → Nat
  | f, [] => f
  | _, b :: l => frB b.2 l
theorem preB_snoc : ∀ (l : List (Nat × Nat)) (f : Nat) (b : Nat × Nat), preB f (l ++ [b]) = preB f l ++ [(frB f l, b.1)]
  | [], _, _ => rfl
  | x :: l, f, b => by simp only [List.cons_append, preB, frB, preB_snoc l]
theorem frB_snoc : ∀ (l : List (Nat × Nat)) (f : Nat) (b : Nat × Nat), frB f (l ++ [b]) = b.2
  | [], _, _ => rfl
  | x :: l, f, b => by simp only [List.cons_append, frB, frB_snoc l]
theorem preB_len : ∀ (l : List (Nat × Nat)) (f : Nat), (preB f l).length = l.length
  | [], _ => rfl
  | x :: l, f => by simp only [preB, List.length_cons, preB_len l]
def gapsB (nxt f : Nat) (l : List (Nat × Nat)) : List (Nat × Nat) := preB f l ++ if frB f l = nxt then [] else [(frB f l, nxt)]

set_option maxRecDepth 100000 in
set_option maxHeartbeats 2000000 in
theorem rholes_any (una nxt high : Nat) (a : Option Addr) (bs : List (Nat × Nat)) (c : Nat) (w : World) (h : Sts 2 BC Tr w a bs) (hl : bs.length ≤ 1024) :
    Calls Try.prog 43 #[.agg #[.int .u32 (una : Nat), .int .u32 (nxt : Nat), .int .u32 (high : Nat), .slice a bs.length c]] w fun e w' => (∃ a' c', e = .returned (.slice a' (gapsB nxt una bs).length c') ∧ OwnR 38 2 BC w.heap.size a' (gapsB nxt una bs) c' w') ∧ Below w.heap.size w w' := by
  have HL := Lib.hid h
  clear h
  go_enter Try.func43, Try.ntmps43
  go_upto_region 1 with fail
  have Q0 := Lib.hid ((Below.refl w.heap.size w).alloc (Nat.le_refl _) (.cells #[.int .u32 (una : Nat), .int .u32 (nxt : Nat), .int .u32 (high : Nat), .slice a bs.length c] 25))
  have S0 := Lib.hid (blk_new w (.cells #[.int .u32 (una : Nat), .int .u32 (nxt : Nat), .int .u32 (high : Nat), .slice a bs.length c] 25))
  generalize w.alloc (.cells #[.int .u32 (una : Nat), .int .u32 (nxt : Nat), .int .u32 (high : Nat), .slice a bs.length c] 25) = V0 at Q0 S0 ⊢
  have c0 := blk_cell S0.out 0
  have c3 := blk_cell S0.out 3
  go_wp2_with fail
  clear c0 c3
  go_loopw [3, 4, 5] (fun sv fv iv wr => ∃ (i F : Nat) (p : Option Addr) (d : Nat), i ≤ bs.length ∧ iv = .int .i64 i ∧ fv = .int .u32 F ∧ sv = .slice p (preB una (bs.take i)).length d ∧ Hid (frB una (bs.take i) = F) ∧ OwnR 38 2 BC (w.heap.size + 1) p (preB una (bs.take i)) d wr ∧ wr.heap[w.heap.size]? = some (.cells #[.int .u32 (una : Nat), .int .u32 (nxt : Nat), .int .u32 (high : Nat), .slice a bs.length c] 25 (0, 0)) ∧ Below w.heap.size w wr) (fun _ _ iv _ => bs.length - (intOf iv).toNat)
  case atStart => exact ⟨0, una, none, 0, by omega, rfl, rfl, rfl, Lib.hid rfl, ownR_nil _ _ _ _ _, S0.out, Q0.out⟩
  case round =>
    obtain ⟨i, F, p, d, hi, rfl, rfl, rfl, HF, hO, hS, hq⟩ := hrel
    have OR := Lib.hid hO
    have SR := Lib.hid hS
    have QR := Lib.hid hq
    have hgr := blk_lt hS
    clear hO hS hq Q0 S0
    have c0 := blk_cell SR.out 0
    have c1 := blk_cell SR.out 1
    have c3 := blk_cell SR.out 3
    by_cases hlt : i < bs.length
    case neg =>
      obtain rfl : i = bs.length := by omega
      rw [List.take_length] at OR HF ⊢
      have hpl : (preB una bs).length ≤ 1024 := by rw [preB_len]; exact hl
      by_cases hF : F = nxt
      case pos =>
        subst hF
        have HG : Hid (gapsB F una bs = preB una bs) := Lib.hid (by unfold gapsB; rw [HF.out, if_pos rfl, List.append_nil])
        go_wp2
        go_ret
        exact ⟨⟨p, d, by rw [HG.out]; rfl, by rw [HG.out]; exact OR.out.mono (by omega)⟩, QR.out⟩
      case neg =>
        have HG : Hid (gapsB nxt una bs = preB una bs ++ [(F, nxt)]) := Lib.hid (by unfold gapsB; rw [HF.out, if_neg hF])
        have d1 : ((F : Int) == (nxt : Int)) = false := by rw [beq_eq_false_iff_ne]; omega
        have d2 : ¬ ((F : Int) = (nxt : Int)) := by omega
        have BAL := Lib.hid ((Below.refl wr.heap.size wr).alloc (Nat.le_refl _) (.cells #[.int .u32 (F : Nat), .int .u32 (nxt : Nat)] 38))
        go_wp2_with (first
          | ((with_reducible show wpList _ _ _ _ _ _); refine wpList_append_r (w := wr.alloc (.cells #[.int .u32 (F : Nat), .int .u32 (nxt : Nat)] 38)) (t := 23) (e := 38) (z := .agg #[.int .u32 0, .int .u32 0]) (m := 2) (bz := 8) (cells := BC) (xs := preB una bs) (ys := [(F, nxt)]) (cap := d) (dap := 1) (n := 1) (a := p) (b := some ⟨wr.heap.size, 0, none⟩) rfl elemBk encB (.tmp 36) (.tmp 41) rfl (w.heap.size + 1) rfl ?_ ?_ ?_ ?_ ?_ ?_ ?_ ?_ ?_; exact OR.out.below BAL.out; exact sts_new encB wr [(F, nxt)] 38 (0, 0); (intro e; cases e); rfl; rfl; (simp only [List.length_cons, List.length_nil]; omega); (unfold maxLen; simp only [List.length_cons, List.length_nil]; omega); (have := BAL.out.size; omega); intro a5 c5 V5 O5 b5 g5; have O5h := Lib.hid O5; have B5h := Lib.hid b5; clear O5 b5 g5 c0 c1 c3)
          | fail)
        go_ret
        exact ⟨⟨a5, c5, by rw [HG.out]; (first | rfl | (rw [List.length_append]; rfl)), by rw [HG.out]; exact O5h.out.mono (by omega)⟩, (QR.out.trans (BAL.out.mono QR.out.size)).trans (B5h.out.mono (by omega))⟩
    case pos =>
      have i1 : (i : Int) < (bs.length : Int) := by omega
      obtain ⟨x, hx⟩ : ∃ x, bs[i]? = some x := ⟨_, List.getElem?_eq_getElem hlt⟩
      obtain ⟨g, o, rfl, _, _⟩ := HL.out.isSomeT (by omega)
      obtain ⟨hg, p0, p1⟩ := b_at HL.out hx
      have m0 := (QR.out.cell (p := ⟨g, o + i * 2, none⟩) hg).trans p0
      have M1 := Lib.hid ((QR.out.cell (p := ⟨g, o + i * 2 + 1, none⟩) hg).trans p1)
      have htk : bs.take (i + 1) = bs.take i ++ [x] := by rw [List.take_add_one, hx]; rfl
      have HN1 : Hid (preB una (bs.take (i + 1)) = preB una (bs.take i) ++ [(F, x.1)]) := Lib.hid (by rw [htk, preB_snoc, HF.out])
      have HN2 : Hid (frB una (bs.take (i + 1)) = x.2) := Lib.hid (by rw [htk, frB_snoc])
      have hpl : (preB una (bs.take i)).length ≤ 1024 := by rw [preB_len, List.length_take]; omega
      have BAL := Lib.hid ((Below.refl wr.heap.size wr).alloc (Nat.le_refl _) (.cells #[.int .u32 (F : Nat), .int .u32 (x.1 : Nat)] 38))
      clear p0 p1 hx htk
      go_wp2_with (first
        | ((with_reducible show wpList _ _ _ _ _ _); refine wpList_append_r (w := wr.alloc (.cells #[.int .u32 (F : Nat), .int .u32 (x.1 : Nat)] 38)) (t := 23) (e := 38) (z := .agg #[.int .u32 0, .int .u32 0]) (m := 2) (bz := 8) (cells := BC) (xs := preB una (bs.take i)) (ys := [(F, x.1)]) (cap := d) (dap := 1) (n := 1) (a := p) (b := some ⟨wr.heap.size, 0, none⟩) rfl elemBk encB (.tmp 15) (.tmp 24) rfl (w.heap.size + 1) rfl ?_ ?_ ?_ ?_ ?_ ?_ ?_ ?_ ?_; exact OR.out.below BAL.out; exact sts_new encB wr [(F, x.1)] 38 (0, 0); (intro e; cases e); rfl; rfl; (simp only [List.length_cons, List.length_nil]; omega); (unfold maxLen; simp only [List.length_cons, List.length_nil]; omega); (have := BAL.out.size; omega); intro a5 c5 V5 O5 b5 g5; have O5h := Lib.hid O5; have B5h := Lib.hid b5; have S5 := Lib.hid ((b5.block _ (by omega)).trans ((BAL.out.block _ hgr).trans SR.out)); have n1 := (b5.cell (p := ⟨g, o + i * 2 + 1, none⟩) (Nat.lt_succ_of_lt hg)).trans ((BAL.out.cell (p := ⟨g, o + i * 2 + 1, none⟩) (Nat.lt_trans hg hgr)).trans M1.out); clear O5 b5 g5 c0 c1 c3 m0; have c3 := blk_cell S5.out 3)
        | fail)
      go_roundw
      case rel => exact ⟨i + 1, x.2, a5, c5, by omega, by go_num, rfl, by rw [HN1.out]; (first | rfl | (rw [List.length_append]; rfl)), HN2, by rw [HN1.out]; exact O5h.out, S5.out, (QR.out.trans (BAL.out.mono QR.out.size)).trans (B5h.out.mono (by omega))⟩
      case measure => simp [intOf]; omega
end Go.Proofs.Ytcachmjcninkbaa
