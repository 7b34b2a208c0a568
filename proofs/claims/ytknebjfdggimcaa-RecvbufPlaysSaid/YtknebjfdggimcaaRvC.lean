/- Recvbuf: what a buffer is asked; clip; touched. -/
import Derived.Test.YtknebjfdggimcaaRvR
import Derived.Test.YtknebjfdggimcaaGBts
import Derived.Test.YtknebjfdggimcaaGCopyC
import Derived.Lib.MinMax
import Derived.ProofKit
import Derived.StillTailTactics
namespace Go.Proofs.Ytknebjfdggimcaa
open Go.RowKit Go.Proofs.Ytknebjfdggimcaa.Rv

set_option maxRecDepth 100000 in
set_option maxHeartbeats 1000000 in
theorem made_yes (g G n st rd nx : Nat) (pa : Option Addr) (pl pc ct : Nat) (w : World) (hB : w.heap[g]? = some (.cells #[.slice (some ⟨G, 0, none⟩) n n, .int .i64 (st : Nat), .int .i64 (rd : Nat), .int .u32 (nx : Nat), .slice pa pl pc, .int .i64 (ct : Nat)] 70 (0, 0))) :
    Calls Try.prog 28 #[.pointer (some ⟨g, 0, none⟩)] w fun e w' => e = .returned (.bool true) ∧ w = w' := by
  have c0 := blk_cell hB 0
  clear hB
  go_enter Try.func28, Try.ntmps28
  go_wp2
  go_ret
  exact ⟨rfl, rfl⟩
set_option maxRecDepth 100000 in
set_option maxHeartbeats 1000000 in
theorem next_ok (g G n st rd nx : Nat) (pa : Option Addr) (pl pc ct : Nat) (w : World) (hB : w.heap[g]? = some (.cells #[.slice (some ⟨G, 0, none⟩) n n, .int .i64 (st : Nat), .int .i64 (rd : Nat), .int .u32 (nx : Nat), .slice pa pl pc, .int .i64 (ct : Nat)] 70 (0, 0))) :
    Calls Try.prog 19 #[.pointer (some ⟨g, 0, none⟩)] w fun e w' => e = .returned (.int .u32 (nx : Nat)) ∧ w = w' := by
  have HB := Lib.hid hB
  have c3 := blk_cell hB 3
  clear hB
  go_enter Try.func19, Try.ntmps19
  go_wp2_with fail
  refine (made_yes g G n st rd nx pa pl pc ct _ HB.out).mono ?_
  rintro e w' ⟨rfl, rfl⟩
  go_wp2
  go_ret
  exact ⟨rfl, rfl⟩
set_option maxRecDepth 100000 in
set_option maxHeartbeats 1000000 in
theorem ready_ok (g G n st rd nx : Nat) (pa : Option Addr) (pl pc ct : Nat) (w : World) (hB : w.heap[g]? = some (.cells #[.slice (some ⟨G, 0, none⟩) n n, .int .i64 (st : Nat), .int .i64 (rd : Nat), .int .u32 (nx : Nat), .slice pa pl pc, .int .i64 (ct : Nat)] 70 (0, 0))) :
    Calls Try.prog 20 #[.pointer (some ⟨g, 0, none⟩)] w fun e w' => e = .returned (.int .i64 (rd : Nat)) ∧ w = w' := by
  have HB := Lib.hid hB
  have c2 := blk_cell hB 2
  clear hB
  go_enter Try.func20, Try.ntmps20
  go_wp2_with fail
  refine (made_yes g G n st rd nx pa pl pc ct _ HB.out).mono ?_
  rintro e w' ⟨rfl, rfl⟩
  go_wp2
  go_ret
  exact ⟨rfl, rfl⟩
set_option maxRecDepth 100000 in
set_option maxHeartbeats 1000000 in
theorem window_ok (g G n st rd nx : Nat) (pa : Option Addr) (pl pc ct : Nat) (w : World) (hB : w.heap[g]? = some (.cells #[.slice (some ⟨G, 0, none⟩) n n, .int .i64 (st : Nat), .int .i64 (rd : Nat), .int .u32 (nx : Nat), .slice pa pl pc, .int .i64 (ct : Nat)] 70 (0, 0))) (wi : Nat) (hw : rd + wi = n) (hn : n ≤ 1048576) :
    Calls Try.prog 21 #[.pointer (some ⟨g, 0, none⟩)] w fun e w' => e = .returned (.int .i64 (wi : Nat)) ∧ Below w.heap.size w w' := by
  have HB := Lib.hid hB
  have c0 := blk_cell hB 0
  have c2 := blk_cell hB 2
  clear hB
  have W : IntKind.i64.wrap ((n : Int) - (rd : Int)) = (wi : Int) := by rw [IntWalk.i64_in _ ⟨by omega, by omega⟩]; omega
  go_enter Try.func21, Try.ntmps21
  go_wp2_with fail
  refine (made_yes g G n st rd nx pa pl pc ct _ HB.out).mono ?_
  rintro e w' ⟨rfl, rfl⟩
  go_wp2_with fail
  try go_quiet (fail)
  go_wp2
  go_ret
  refine ⟨rfl, ?_⟩
  (repeat' (first | (with_reducible exact Below.refl _ _) | (with_reducible refine Below.alloc ?_ ?_ _) | (with_reducible refine Below.drew ?_) | (with_reducible refine below_drewN ?_ _) | omega | (dsimp only; omega) | (simp; done) | (simp; omega)))

theorem tw_at {α : Type} (f : α → Bool) : ∀ {l : List α} {i : Nat} {x : α}, i < (l.takeWhile f).length → l[i]? = some x → f x = true := by
  intro l i x hi hx
  have h1 : (l.takeWhile f)[i]? = some x := by
    have h2 := List.takeWhile_append_dropWhile (p := f) (l := l)
    rw [← h2, List.getElem?_append_left hi] at hx
    exact hx
  exact tw_prop f (List.mem_of_getElem? h1)
theorem tw_stop {α : Type} (f : α → Bool) {l : List α} {x : α} (hx : l[(l.takeWhile f).length]? = some x) : f x = false := by
  have h2 := List.takeWhile_append_dropWhile (p := f) (l := l)
  rw [← h2] at hx
  rw [List.getElem?_append_right (by rw [h2]; exact Nat.le_refl _)] at hx
  rw [h2, Nat.sub_self] at hx
  cases h : l.dropWhile f with
  | nil => rw [h] at hx; cases hx
  | cons y t => rw [h] at hx; cases hx; exact dw_prop f h
theorem pA_len (ps : List Pt) (l : Nat) : (pA ps l).length ≤ ps.length := List.Sublist.length_le (List.takeWhile_sublist _)
theorem pA_at {ps : List Pt} {l i : Nat} {x : Pt} (hi : i < (pA ps l).length) (hx : ps[i]? = some x) : x.2.1 < l := by
  have := tw_at _ hi hx; simpa using this
theorem pA_stop {ps : List Pt} {l : Nat} {x : Pt} (hx : ps[(pA ps l).length]? = some x) : ¬ x.2.1 < l := by
  have := tw_stop _ hx; simpa using this
theorem pR_drop (ps : List Pt) (l : Nat) : pR ps l = ps.drop (pA ps l).length := by
  have h : ps = pA ps l ++ pR ps l := by unfold pA pR; rw [List.takeWhile_append_dropWhile]
  have h2 : ps.drop (pA ps l).length = (pA ps l ++ pR ps l).drop (pA ps l).length := by rw [← h]
  rw [h2, List.drop_left]
theorem pM_len (ps : List Pt) (l r : Nat) : (pA ps l).length + (pM ps l r).length ≤ ps.length := by
  have h := congrArg List.length (p_eq ps l r)
  simp only [List.length_append] at h
  omega
theorem pM_at {ps : List Pt} {l r k : Nat} {x : Pt} (hk : k < (pM ps l r).length) (hx : ps[(pA ps l).length + k]? = some x) : x.1 ≤ r := by
  have h2 : (pR ps l)[k]? = some x := by rw [pR_drop, List.getElem?_drop]; exact hx
  have := tw_at _ hk h2; simpa using this
theorem pM_stop {ps : List Pt} {l r : Nat} {x : Pt} (hx : ps[(pA ps l).length + (pM ps l r).length]? = some x) : ¬ x.1 ≤ r := by
  have h2 : (pR ps l)[(pM ps l r).length]? = some x := by rw [pR_drop, List.getElem?_drop]; exact hx
  have := tw_stop _ h2; simpa using this
/-- A part's cells. -/
theorem pt_at {w : World} {g o i : Nat} {xs : List Pt} {x : Pt} (h : Sts 3 PC Tr w (some ⟨g, o, none⟩) xs) (hi : xs[i]? = some x) :
    g < w.heap.size ∧ w.cell? ⟨g, o + i * 3, none⟩ = some (.int .i64 (x.1 : Nat)) ∧ w.cell? ⟨g, o + i * 3 + 1, none⟩ = some (.int .i64 (x.2.1 : Nat)) ∧ w.cell? ⟨g, o + i * 3 + 2, none⟩ = some (.int .i64 (x.2.2 : Nat)) := by
  obtain ⟨b, off, e, hb, h2⟩ := h.isSomeT (by have := (List.getElem?_eq_some_iff.1 hi).1; omega)
  cases e
  exact ⟨hb, by have := h2 i x hi 0 _ rfl; simpa using this, h2 i x hi 1 _ rfl, h2 i x hi 2 _ rfl⟩

set_option maxRecDepth 100000 in
set_option maxHeartbeats 1000000 in
theorem touched_ok (g G n st rd nx : Nat) (pa : Option Addr) (pl pc ct : Nat) (ps : List Pt) (l r : Nat) (w : World) (hB : w.heap[g]? = some (.cells #[.slice (some ⟨G, 0, none⟩) n n, .int .i64 (st : Nat), .int .i64 (rd : Nat), .int .u32 (nx : Nat), .slice pa pl pc, .int .i64 (ct : Nat)] 70 (0, 0))) (h : Sts 3 PC Tr w pa ps) (hl : ps.length = pl) (hp : pl ≤ 100000) :
    Calls Try.prog 30 #[.pointer (some ⟨g, 0, none⟩), .agg #[.int .i64 (l : Nat), .int .i64 (r : Nat)]] w fun e w' => e = .returned (.tuple #[.int .i64 ((pA ps l).length : Nat), .int .i64 (((pA ps l).length + (pM ps l r).length : Nat) : Int)]) ∧ Below w.heap.size w w' := by
  have hFl := pA_len ps l
  have hMl := pM_len ps l r
  have hFat := fun i x => pA_at (ps := ps) (l := l) (i := i) (x := x)
  have hFst := fun x => pA_stop (ps := ps) (l := l) (x := x)
  have hMat := fun i x => pM_at (ps := ps) (l := l) (r := r) (k := i) (x := x)
  have hMst := fun x => pM_stop (ps := ps) (l := l) (r := r) (x := x)
  generalize (pA ps l).length = FF at hFl hMl hFat hFst hMat hMst ⊢
  generalize (pM ps l r).length = MM at hMl hMat hMst ⊢
  obtain ⟨E, hE⟩ : ∃ E, FF + MM = E := ⟨_, rfl⟩
  rw [hE]
  have HL := Lib.hid h
  have HLN := Lib.hid hl
  have H1 := Lib.hid hFat
  have H2 := Lib.hid hFst
  have H3 := Lib.hid hMat
  have H4 := Lib.hid hMst
  have HB := Lib.hid hB
  have HE := Lib.hid hE
  clear h hFat hFst hMat hMst hB hE
  rw [hl] at hFl hMl
  clear hl
  go_enter Try.func30, Try.ntmps30
  go_upto_region 1 with fail
  have S0 := Lib.hid (blk_new w (.cells #[.int .i64 (l : Nat), .int .i64 (r : Nat)] 75))
  have Q0 := Lib.hid ((Below.refl w.heap.size w).alloc (Nat.le_refl _) (.cells #[.int .i64 (l : Nat), .int .i64 (r : Nat)] 75))
  have B0 := Lib.hid ((Q0.out.block _ (blk_lt HB.out)).trans HB.out)
  generalize w.alloc (.cells #[.int .i64 (l : Nat), .int .i64 (r : Nat)] 75) = V0 at S0 Q0 B0 ⊢
  go_wp2_with fail
  go_loopw [4] (fun iv wr => ∃ i : Nat, i ≤ FF ∧ iv = .int .i64 i ∧ Below V0.heap.size V0 wr) (fun iv _ => FF - (intOf iv).toNat)
  case atStart => exact ⟨0, by omega, rfl, Below.refl _ _⟩
  case round =>
    obtain ⟨i, hi, rfl, hq0⟩ := hrel
    have BR := Lib.hid hq0
    clear hq0
    have SR := Lib.hid ((BR.out.block _ (blk_lt S0.out)).trans S0.out)
    have QR := Lib.hid (Q0.out.trans (BR.out.mono Q0.out.size))
    have GR := Lib.hid ((BR.out.block _ (blk_lt B0.out)).trans B0.out)
    have c4 := blk_cell GR.out 4
    have d0 := blk_cell SR.out 0
    have d1 := blk_cell SR.out 1
    by_cases hlt : i < FF
    case pos =>
      obtain ⟨x, hx⟩ : ∃ x, ps[i]? = some x := ⟨_, List.getElem?_eq_getElem (by rw [HLN.out]; omega)⟩
      have hx1 := H1.out i x hlt hx
      obtain ⟨gp, op, rfl, _, _⟩ := HL.out.isSomeT (by rw [HLN.out]; omega)
      obtain ⟨hg, p0, p1, p2⟩ := pt_at HL.out hx
      have m1 := (QR.out.cell (p := ⟨gp, op + i * 3 + 1, none⟩) hg).trans p1
      have k1 : decide ((i : Int) < (pl : Int)) = true := decide_eq_true (by omega)
      have k1' : (i : Int) < (pl : Int) := by omega
      have k2 : decide ((x.2.1 : Int) < (l : Int)) = true := decide_eq_true (by omega)
      have k2' : decide (x.2.1 < l) = true := decide_eq_true (by omega)
      have k3 : decide (i < pl) = true := decide_eq_true (by omega)
      have W : IntKind.i64.wrap ((i : Int) + 1) = ((i + 1 : Nat) : Int) := by rw [IntWalk.i64_in _ ⟨by omega, by omega⟩]; omega
      clear p0 p1 p2 hx hx1
      go_wp2_with fail
      go_quiet (fail)
      have B6 := Lib.hid (below_drewN BR.out nq)
      go_wp2_with fail
      go_roundw
      case rel => exact ⟨i + 1, by omega, by go_num, B6.out⟩
      case measure => simp [intOf]; omega
    case neg =>
      obtain rfl : i = FF := by omega
      clear hlt
      by_cases hlp : i < pl
      case pos =>
        obtain ⟨x, hx⟩ : ∃ x, ps[i]? = some x := ⟨_, List.getElem?_eq_getElem (by rw [HLN.out]; omega)⟩
        have hx1 := H2.out x hx
        obtain ⟨gp, op, rfl, _, _⟩ := HL.out.isSomeT (by rw [HLN.out]; omega)
        obtain ⟨hg, p0, p1, p2⟩ := pt_at HL.out hx
        have m1 := (QR.out.cell (p := ⟨gp, op + i * 3 + 1, none⟩) hg).trans p1
        have k1' : (i : Int) < (pl : Int) := by omega
        have k1 : decide ((i : Int) < (pl : Int)) = true := decide_eq_true k1'
        have k3 : decide (i < pl) = true := decide_eq_true (by omega)
        have k2 : decide ((x.2.1 : Int) < (l : Int)) = false := decide_eq_false (by omega)
        have k2' : decide (x.2.1 < l) = false := decide_eq_false (by omega)
        clear p0 p1 p2 hx hx1
        go_wp2_with fail
        go_quiet (fail)
        clear c4 d0 d1 m1 k1 k1' k2 k2' k3
        have B6 := Lib.hid (below_drewN BR.out nq)
        have Q6 := Lib.hid (Q0.out.trans (B6.out.mono Q0.out.size))
        have S6 := Lib.hid ((B6.out.block _ (blk_lt S0.out)).trans S0.out)
        have R6 := Lib.hid ((B6.out.block _ (blk_lt B0.out)).trans B0.out)
        clear SR QR GR
        generalize wr.drewN nq = V6 at B6 Q6 S6 R6 ⊢
        go_wp2_with fail
        go_loopw [5] (fun iv wr => ∃ j : Nat, i ≤ j ∧ j ≤ E ∧ iv = .int .i64 j ∧ Below V6.heap.size V6 wr) (fun iv _ => E - (intOf iv).toNat)
        case atStart => exact ⟨i, Nat.le_refl _, by have := HE.out; omega, rfl, Below.refl _ _⟩
        case round =>
          obtain ⟨j, hij, hj, rfl, hq7⟩ := hrel
          have B7 := Lib.hid hq7
          clear hq7
          have Q7 := Lib.hid (Q6.out.trans (B7.out.mono Q6.out.size))
          have S7 := Lib.hid ((B7.out.block _ (blk_lt S6.out)).trans S6.out)
          have R7 := Lib.hid ((B7.out.block _ (blk_lt R6.out)).trans R6.out)
          have c4 := blk_cell R7.out 4
          have d0 := blk_cell S7.out 0
          have d1 := blk_cell S7.out 1
          by_cases hlE : j < E
          case pos =>
            have hE := HE.out
            obtain ⟨y, hy⟩ : ∃ y, ps[j]? = some y := ⟨_, List.getElem?_eq_getElem (by rw [HLN.out]; omega)⟩
            have hy1 := H3.out (j - i) y (by omega) (by rw [show i + (j - i) = j by omega]; exact hy)
            obtain ⟨gq, oq, hpa, _, _⟩ := HL.out.isSomeT (by rw [HLN.out]; omega)
            have HL2 := Lib.hid (hpa ▸ HL.out)
            obtain ⟨hg2, p0, p1, p2⟩ := pt_at HL2.out hy
            have m0 := (Q7.out.cell (p := ⟨gq, oq + j * 3, none⟩) hg2).trans p0
            first | subst hpa | (cases hpa)
            have k1' : (j : Int) < (pl : Int) := by omega
            have k1 : decide ((j : Int) < (pl : Int)) = true := decide_eq_true k1'
            have k3 : decide (j < pl) = true := decide_eq_true (by omega)
            have k2 : decide ((y.1 : Int) ≤ (r : Int)) = true := decide_eq_true (by omega)
            have k2' : decide (y.1 ≤ r) = true := decide_eq_true (by omega)
            have W : IntKind.i64.wrap ((j : Int) + 1) = ((j + 1 : Nat) : Int) := by rw [IntWalk.i64_in _ ⟨by omega, by omega⟩]; omega
            clear p0 p1 p2 hy hy1 hE
            go_wp2_with fail
            go_quiet (fail)
            have B8 := Lib.hid (below_drewN B7.out nq)
            go_wp2_with fail
            go_roundw
            case rel => exact ⟨j + 1, by omega, by omega, by go_num, B8.out⟩
            case measure => simp [intOf]; omega
          case neg =>
            obtain rfl : j = E := by omega
            have hE := HE.out
            clear hlE
            by_cases hjp : j < pl
            case pos =>
              obtain ⟨y, hy⟩ : ∃ y, ps[j]? = some y := ⟨_, List.getElem?_eq_getElem (by rw [HLN.out]; omega)⟩
              have hy1 := H4.out y (by rw [hE]; exact hy)
              obtain ⟨gq, oq, hpa, _, _⟩ := HL.out.isSomeT (by rw [HLN.out]; omega)
              have HL2 := Lib.hid (hpa ▸ HL.out)
              obtain ⟨hg2, p0, p1, p2⟩ := pt_at HL2.out hy
              have m0 := (Q7.out.cell (p := ⟨gq, oq + j * 3, none⟩) hg2).trans p0
              first | subst hpa | (cases hpa)
              have k1' : (j : Int) < (pl : Int) := by omega
              have k1 : decide ((j : Int) < (pl : Int)) = true := decide_eq_true k1'
              have k3 : decide (j < pl) = true := decide_eq_true (by omega)
              have k2 : decide ((y.1 : Int) ≤ (r : Int)) = false := decide_eq_false (by omega)
              have k2' : decide (y.1 ≤ r) = false := decide_eq_false (by omega)
              clear p0 p1 p2 hy hy1 hE
              go_wp2_with fail
              go_quiet (fail)
              have B8 := Lib.hid (below_drewN Q7.out nq)
              go_wp2
              go_ret2
              exact ⟨rfl, B8.out⟩
            case neg =>
              have k1 : decide ((j : Int) < (pl : Int)) = false := decide_eq_false (by omega)
              have k3 : decide (j < pl) = false := decide_eq_false (by omega)
              clear hE
              go_wp2_with fail
              go_quiet (fail)
              have B8 := Lib.hid (below_drewN Q7.out nq)
              go_wp2
              go_ret2
              exact ⟨rfl, B8.out⟩
      case neg =>
        have k1 : decide ((i : Int) < (pl : Int)) = false := decide_eq_false (by omega)
        have k3 : decide (i < pl) = false := decide_eq_false (by omega)
        go_wp2_with fail
        go_quiet (fail)
        clear c4 d0 d1 k1 k3
        have B6 := Lib.hid (below_drewN BR.out nq)
        have Q6 := Lib.hid (Q0.out.trans (B6.out.mono Q0.out.size))
        have S6 := Lib.hid ((B6.out.block _ (blk_lt S0.out)).trans S0.out)
        have R6 := Lib.hid ((B6.out.block _ (blk_lt B0.out)).trans B0.out)
        clear SR QR GR
        generalize wr.drewN nq = V6 at B6 Q6 S6 R6 ⊢
        go_wp2_with fail
        go_loopw [5] (fun iv wr => ∃ j : Nat, i ≤ j ∧ j ≤ E ∧ iv = .int .i64 j ∧ Below V6.heap.size V6 wr) (fun iv _ => E - (intOf iv).toNat)
        case atStart => exact ⟨i, Nat.le_refl _, by have := HE.out; omega, rfl, Below.refl _ _⟩
        case round =>
          obtain ⟨j, hij, hj, rfl, hq7⟩ := hrel
          have B7 := Lib.hid hq7
          clear hq7
          have Q7 := Lib.hid (Q6.out.trans (B7.out.mono Q6.out.size))
          have S7 := Lib.hid ((B7.out.block _ (blk_lt S6.out)).trans S6.out)
          have R7 := Lib.hid ((B7.out.block _ (blk_lt R6.out)).trans R6.out)
          have c4 := blk_cell R7.out 4
          have d0 := blk_cell S7.out 0
          have d1 := blk_cell S7.out 1
          by_cases hlE : j < E
          case pos =>
            have hE := HE.out
            obtain ⟨y, hy⟩ : ∃ y, ps[j]? = some y := ⟨_, List.getElem?_eq_getElem (by rw [HLN.out]; omega)⟩
            have hy1 := H3.out (j - i) y (by omega) (by rw [show i + (j - i) = j by omega]; exact hy)
            obtain ⟨gq, oq, hpa, _, _⟩ := HL.out.isSomeT (by rw [HLN.out]; omega)
            have HL2 := Lib.hid (hpa ▸ HL.out)
            obtain ⟨hg2, p0, p1, p2⟩ := pt_at HL2.out hy
            have m0 := (Q7.out.cell (p := ⟨gq, oq + j * 3, none⟩) hg2).trans p0
            first | subst hpa | (cases hpa)
            have k1' : (j : Int) < (pl : Int) := by omega
            have k1 : decide ((j : Int) < (pl : Int)) = true := decide_eq_true k1'
            have k3 : decide (j < pl) = true := decide_eq_true (by omega)
            have k2 : decide ((y.1 : Int) ≤ (r : Int)) = true := decide_eq_true (by omega)
            have k2' : decide (y.1 ≤ r) = true := decide_eq_true (by omega)
            have W : IntKind.i64.wrap ((j : Int) + 1) = ((j + 1 : Nat) : Int) := by rw [IntWalk.i64_in _ ⟨by omega, by omega⟩]; omega
            clear p0 p1 p2 hy hy1 hE
            go_wp2_with fail
            go_quiet (fail)
            have B8 := Lib.hid (below_drewN B7.out nq)
            go_wp2_with fail
            go_roundw
            case rel => exact ⟨j + 1, by omega, by omega, by go_num, B8.out⟩
            case measure => simp [intOf]; omega
          case neg =>
            obtain rfl : j = E := by omega
            have hE := HE.out
            clear hlE
            by_cases hjp : j < pl
            case pos =>
              obtain ⟨y, hy⟩ : ∃ y, ps[j]? = some y := ⟨_, List.getElem?_eq_getElem (by rw [HLN.out]; omega)⟩
              have hy1 := H4.out y (by rw [hE]; exact hy)
              obtain ⟨gq, oq, hpa, _, _⟩ := HL.out.isSomeT (by rw [HLN.out]; omega)
              have HL2 := Lib.hid (hpa ▸ HL.out)
              obtain ⟨hg2, p0, p1, p2⟩ := pt_at HL2.out hy
              have m0 := (Q7.out.cell (p := ⟨gq, oq + j * 3, none⟩) hg2).trans p0
              first | subst hpa | (cases hpa)
              have k1' : (j : Int) < (pl : Int) := by omega
              have k1 : decide ((j : Int) < (pl : Int)) = true := decide_eq_true k1'
              have k3 : decide (j < pl) = true := decide_eq_true (by omega)
              have k2 : decide ((y.1 : Int) ≤ (r : Int)) = false := decide_eq_false (by omega)
              have k2' : decide (y.1 ≤ r) = false := decide_eq_false (by omega)
              clear p0 p1 p2 hy hy1 hE
              go_wp2_with fail
              go_quiet (fail)
              have B8 := Lib.hid (below_drewN Q7.out nq)
              go_wp2
              go_ret2
              exact ⟨rfl, B8.out⟩
            case neg =>
              have k1 : decide ((j : Int) < (pl : Int)) = false := decide_eq_false (by omega)
              have k3 : decide (j < pl) = false := decide_eq_false (by omega)
              clear hE
              go_wp2_with fail
              go_quiet (fail)
              have B8 := Lib.hid (below_drewN Q7.out nq)
              go_wp2
              go_ret2
              exact ⟨rfl, B8.out⟩
end Go.Proofs.Ytknebjfdggimcaa
