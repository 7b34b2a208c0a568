/- Scoreboard: spans in order, touching ones as one. -/
import Derived.Test.YtcachmjcninkbaaScFr
import Derived.Lib.MinMax
import Derived.StillTailTactics
namespace Go.Proofs.Ytcachmjcninkbaa
open Go.RowKit Go.Sort Go.BigFrame

def mrg (out : List (Nat × Nat)) (x : Nat × Nat) : List (Nat × Nat) :=
  match out[out.length - 1]? with
  | none => out ++ [x]
  | some y => if x.1 ≤ y.2 then out.set (out.length - 1) (y.1, max y.2 x.2) else out ++ [x]
def tog (l : List (Nat × Nat)) : List (Nat × Nat) := l.foldl mrg []
theorem tog_snoc (l : List (Nat × Nat)) (x : Nat × Nat) : tog (l ++ [x]) = mrg (tog l) x := by unfold tog; rw [List.foldl_append]; rfl
theorem mrg_len (out : List (Nat × Nat)) (x : Nat × Nat) : (mrg out x).length ≤ out.length + 1 := by
  unfold mrg
  split
  · simp
  · split <;> simp
theorem tog_len (l : List (Nat × Nat)) : ∀ i, (tog (l.take i)).length ≤ i
  | 0 => by rw [List.take_zero]; exact Nat.le_refl 0
  | i + 1 => by
    have ih := tog_len l i
    rw [List.take_add_one]
    cases h : l[i]? with
    | none => simp; omega
    | some x =>
      show (tog (l.take i ++ [x])).length ≤ _
      rw [tog_snoc]
      have := mrg_len (tog (l.take i)) x
      omega
theorem flat_get2 (xs : List (Nat × Nat)) (i : Nat) (y : Nat × Nat) (hy : xs[i]? = some y) : (xs.flatMap SC)[i * 2]? = some (.int .i64 (y.1 : Nat)) := flat_get encS hy (show (SC y)[0]? = _ from rfl)
theorem flat_set2 (xs : List (Nat × Nat)) (i : Nat) (y : Nat × Nat) (v : Nat) (hy : xs[i]? = some y) : (xs.flatMap SC).set (i * 2 + 1) (.int .i64 (v : Nat)) = (xs.set i (y.1, v)).flatMap SC := by
  rw [← flat_set xs i (y.1, v) (List.getElem?_eq_some_iff.1 hy).1]
  congr 1
  have h := flat_get2 xs i y hy
  obtain ⟨h1, h2⟩ := List.getElem?_eq_some_iff.1 h
  rw [← h2, List.set_getElem_self]
theorem OwnR.set2 {e : TypeId} {B g cap : Nat} {xs : List (Nat × Nat)} {w : World} (h : OwnR e 2 SC B (some ⟨g, 0, none⟩) xs cap w) (i : Nat) (y : Nat × Nat) (v : Nat) (hy : xs[i]? = some y) :
    OwnR e 2 SC B (some ⟨g, 0, none⟩) (xs.set i (y.1, v)) cap (w.setCell ⟨g, i * 2 + 1, none⟩ (.int .i64 (v : Nat))) ∧ w.grownBy (w.setCell ⟨g, i * 2 + 1, none⟩ (.int .i64 (v : Nat))) (some g) := by
  rcases h with ⟨h, _⟩ | ⟨g', e', hB, hr⟩
  · cases h
  · cases e'
    have h1 := hr.stored (i * 2 + 1) (.int .i64 (v : Nat))
    rw [flat_set2 xs i y v hy] at h1
    refine ⟨.inr ⟨g, rfl, hB, ?_⟩, h1.2⟩
    rw [List.length_set]; exact h1.1
set_option maxRecDepth 100000 in
set_option maxHeartbeats 4000000 in
theorem together_of (B : Nat) (a : Option Addr) (l sl : List (Nat × Nat)) (cap : Nat) (w : World) (hsl : sl.length = l.length) (hv : small sl) (hl : l.length ≤ 4398046511104) (hBw : B ≤ w.heap.size)
    (hS : Calls Try.prog 57 #[.slice a l.length cap, .func (.func 58) #[] #[]] w fun e w' => e = .returned (.tuple #[]) ∧ OwnR 76 2 SC B a sl cap w' ∧ Below B w w') :
    Calls Try.prog 52 #[.slice a l.length cap] w fun e w' => (∃ a' c', e = .returned (.slice a' (tog sl).length c') ∧ OwnR 76 2 SC w.heap.size a' (tog sl) c' w') ∧ Below B w w' := by
  have HS := Lib.hid hS
  have HV := Lib.hid hv
  clear hS hv
  go_enter Try.func52, Try.ntmps52
  go_wp2_with fail
  refine HS.out.mono ?_
  rintro e V1 ⟨rfl, hO, hB1⟩
  have O1 := Lib.hid hO
  have L1 := Lib.hid (hO.sts encS)
  have Q1 := Lib.hid hB1
  have hz1 := hB1.size
  clear hO hB1 HS
  have HSL := Lib.hid hsl
  clear hsl
  go_wp2_with fail
  go_loopw [3, 11] (fun sv iv wr => ∃ (i : Nat) (out : List (Nat × Nat)) (p : Option Addr) (k : Nat), i ≤ l.length ∧ iv = .int .i64 i ∧ sv = .slice p out.length k ∧ Hid (tog (sl.take i) = out) ∧ OwnR 76 2 SC V1.heap.size p out k wr ∧ Below V1.heap.size V1 wr) (fun _ iv _ => l.length - (intOf iv).toNat)
  case atStart => exact ⟨0, [], none, 0, by omega, rfl, rfl, Lib.hid rfl, ownR_nil _ _ _ _ _, Below.refl _ _⟩
  case round =>
    obtain ⟨i, out, p, k, hi, rfl, rfl, HOUT, hO, hq⟩ := hrel
    have OR := Lib.hid hO
    have QR := Lib.hid hq
    have hzr := hq.size
    clear hO hq
    by_cases hlt : i < l.length
    case neg =>
      obtain rfl : i = l.length := by omega
      have HO2 := HOUT.out
      rw [List.take_of_length_le (by rw [HSL.out]; exact Nat.le_refl _)] at HO2
      have HO3 := Lib.hid HO2
      clear HO2 HOUT
      go_wp2
      go_ret
      exact ⟨⟨p, k, by rw [HO3.out]; rfl, by rw [HO3.out]; exact OR.out.mono hz1⟩, Q1.out.trans (QR.out.mono (by omega))⟩
    case pos =>
      have i1 : (i : Int) < (l.length : Int) := by omega
      obtain ⟨x, hx⟩ : ∃ x, sl[i]? = some x := ⟨_, List.getElem?_eq_getElem (by rw [HSL.out]; exact hlt)⟩
      obtain ⟨g, o, rfl, _, _⟩ := L1.out.isSomeT (by rw [HSL.out]; omega)
      obtain ⟨hg, p0, p1⟩ := s_at L1.out hx
      have m0 := (QR.out.cell (p := ⟨g, o + i * 2, none⟩) hg).trans p0
      have m1 := (QR.out.cell (p := ⟨g, o + i * 2 + 1, none⟩) hg).trans p1
      obtain ⟨hx1, hx2⟩ := HV.out x (List.mem_of_getElem? hx)
      have HNX : Hid (tog (sl.take (i + 1)) = mrg out x) := Lib.hid (by rw [List.take_add_one, hx, ← HOUT.out]; exact tog_snoc _ _)
      have hol : out.length ≤ 4398046511104 := by rw [← HOUT.out]; exact Nat.le_trans (tog_len sl i) (by omega)
      clear HOUT hx p0 p1
      have hb1 := (Below.refl wr.heap.size wr).alloc (Nat.le_refl _) (.cells #[.int .i64 (x.1 : Nat), .int .i64 (x.2 : Nat)] 76)
      have X2 := Lib.hid (blk_new wr (.cells #[.int .i64 (x.1 : Nat), .int .i64 (x.2 : Nat)] 76))
      have O2 := Lib.hid (OR.out.below hb1)
      have Q2 := Lib.hid (QR.out.trans (hb1.mono QR.out.size))
      clear hb1 OR QR
      go_upto_region 6 with fail
      have hgb : wr.heap.size < (wr.alloc (.cells #[.int .i64 (x.1 : Nat), .int .i64 (x.2 : Nat)] 76)).heap.size := by simp
      obtain ⟨gb, hgb2⟩ : ∃ q, wr.heap.size = q := ⟨_, rfl⟩
      generalize wr.alloc (.cells #[.int .i64 (x.1 : Nat), .int .i64 (x.2 : Nat)] 76) = V2 at X2 O2 Q2 hgb ⊢
      rw [hgb2] at X2 hgb hzr ⊢
      clear hgb2 m0 m1
      have x0 := blk_cell X2.out 0
      have x1 := blk_cell X2.out 1
      by_cases hne : out = []
      case pos =>
        subst hne
        have HN2 : Hid (tog (sl.take (i + 1)) = [] ++ [x]) := Lib.hid (by rw [HNX.out]; rfl)
        have e1 : IntKind.i64.wrap (((([] : List (Nat × Nat)).length : Nat) : Int) - 1) = -1 := by decide
        have e2 : IntKind.i64.wrap (0 - 1) = -1 := by decide
        have e3 : IntKind.i64.wrap (-1) = -1 := by decide
        clear HNX
        go_wp2_with fail
        go_quiet (fail)
        have B3 := Lib.hid (below_drewN (Below.refl V2.heap.size V2) nq)
        have O3 := Lib.hid (O2.out.below B3.out)
        have Q3 := Lib.hid (Q2.out.trans (B3.out.mono Q2.out.size))
        have X3 := Lib.hid (blk_drewN X2.out nq)
        clear x0 x1 O2 Q2 X2 B3
        generalize V2.drewN nq = V3 at O3 Q3 X3 ⊢
        have x0 := blk_cell X3.out 0
        have x1 := blk_cell X3.out 1
        have hz3 := Q3.out.size
        have BAL := Lib.hid ((Below.refl V3.heap.size V3).alloc (Nat.le_refl _) (.cells #[.int .i64 (x.1 : Nat), .int .i64 (x.2 : Nat)] 76))
        go_wp2_with (first
          | ((with_reducible show wpList _ _ _ _ _ _); refine wpList_append_r (w := V3.alloc (.cells #[.int .i64 (x.1 : Nat), .int .i64 (x.2 : Nat)] 76)) (t := 90) (e := 76) (z := .agg #[.int .i64 0, .int .i64 0]) (m := 2) (bz := 16) (cells := SC) (xs := ([] : List (Nat × Nat))) (ys := [x]) (cap := k) (dap := 1) (n := 1) (a := p) (b := some ⟨V3.heap.size, 0, none⟩) rfl elemS encS (.tmp 42) (.tmp 44) rfl V1.heap.size rfl ?_ ?_ ?_ ?_ ?_ ?_ ?_ ?_ ?_; exact O3.out.below BAL.out; exact sts_new encS V3 [x] 76 (0, 0); (intro e; cases e); rfl; rfl; (simp only [List.length_cons, List.length_nil]; omega); (unfold maxLen; simp only [List.length_cons, List.length_nil]; omega); (have := BAL.out.size; omega); intro a5 c5 V5 O5 b5 g5; have O5h := Lib.hid O5; have B5h := Lib.hid b5; clear O5 b5 g5)
          | fail)
        go_roundw
        case rel => exact ⟨i + 1, _, a5, c5, by omega, by go_num, (by first | rfl | (rw [List.length_append]; rfl)), HN2, O5h.out, (Q3.out.trans (BAL.out.mono Q3.out.size)).trans B5h.out⟩
        case measure => simp [intOf]; omega
      case neg =>
      obtain ⟨n, hn⟩ : ∃ z, out.length - 1 = z := ⟨_, rfl⟩
      have hn1 : out.length = n + 1 := by
        have : out.length ≠ 0 := fun h => hne (List.eq_nil_of_length_eq_zero h)
        omega
      obtain ⟨y, hy⟩ : ∃ y, out[n]? = some y := ⟨_, List.getElem?_eq_getElem (by omega)⟩
      have HMR : Hid (mrg out x = if x.1 ≤ y.2 then out.set n (y.1, max y.2 x.2) else out ++ [x]) := Lib.hid (by unfold mrg; rw [hn, hy])
      obtain ⟨g2, rfl, hgB2, _⟩ := O2.out.isSome (by omega)
      obtain ⟨hg2, y0, y1⟩ := s_at (O2.out.sts encS) hy
      rw [Nat.zero_add] at y0 y1
      have e1 : IntKind.i64.wrap ((out.length : Int) - 1) = (n : Int) := by rw [IntWalk.i64_in _ ⟨by omega, by omega⟩]; omega
      have n1 : (n : Int) < (out.length : Int) := by omega
      have HY := Lib.hid hy
      clear hn hne hy hn1
      by_cases hxy : x.1 ≤ y.2
      case pos =>
        have d1 : decide ((x.1 : Int) ≤ (y.2 : Int)) = true := decide_eq_true (by omega)
        have d2 : decide (x.1 ≤ y.2) = true := decide_eq_true hxy
        have HN2 : Hid (tog (sl.take (i + 1)) = out.set n (y.1, max y.2 x.2)) := Lib.hid (by rw [HNX.out, HMR.out, if_pos hxy])
        have e5 : max (y.2 : Int) (x.2 : Int) = ((max y.2 x.2 : Nat) : Int) := by omega
        have HE5 := Lib.hid e5
        clear HNX HMR e5
        go_wp2_with fail
        go_quiet (fail)
        have B3 := Lib.hid (below_drewN (Below.refl V2.heap.size V2) nq)
        have O3 := Lib.hid (O2.out.below B3.out)
        have Q3 := Lib.hid (Q2.out.trans (B3.out.mono Q2.out.size))
        have X3 := Lib.hid (blk_drewN X2.out nq)
        clear x0 x1 y0 y1 O2 Q2 X2 B3
        generalize V2.drewN nq = V3 at O3 Q3 X3 ⊢
        have x0 := blk_cell X3.out 0
        have x1 := blk_cell X3.out 1
        obtain ⟨_, y0, y1⟩ := s_at (O3.out.sts encS) HY.out
        rw [Nat.zero_add] at y0 y1
        have e5 : max (y.2 : Int) (x.2 : Int) = ((max y.2 x.2 : Nat) : Int) := HE5.out
        go_upto_region 8 with fail
        go_still_tail 12, (by kernel_rfl)
        change wpList _ _ _ _ _ V3.drew
        have O4 := Lib.hid (O3.out.below (Below.refl V3.heap.size V3).drew)
        have Q4 := Lib.hid Q3.out.drew
        clear x0 x1 y0 y1 O3 Q3 X3
        generalize V3.drew = V4 at O4 Q4 ⊢
        have f1 := O4.out.frozenP (n * 2 + 1)
        obtain ⟨_, y0, y1⟩ := s_at (O4.out.sts encS) HY.out
        rw [Nat.zero_add] at y0 y1
        have S5 := O4.out.set2 n y (max y.2 x.2) HY.out
        have O5 := Lib.hid S5.1
        have G5 := Lib.hid S5.2
        have hz4 := Q4.out.size
        clear S5
        go_wp2_with fail
        go_roundw
        case rel => exact ⟨i + 1, _, some ⟨g2, 0, none⟩, k, by omega, by go_num, (by first | rfl | (rw [List.length_set])), HN2, O5.out, Q4.out.grown G5.out (by omega) (fun q e => by cases e; exact hgB2)⟩
        case measure => simp [intOf]; omega
      case neg =>
        have d1 : decide ((x.1 : Int) ≤ (y.2 : Int)) = false := decide_eq_false (by omega)
        have d2 : decide (x.1 ≤ y.2) = false := decide_eq_false hxy
        have HN2 : Hid (tog (sl.take (i + 1)) = out ++ [x]) := Lib.hid (by rw [HNX.out, HMR.out, if_neg hxy])
        clear HNX HMR
        go_wp2_with fail
        go_quiet (fail)
        have B3 := Lib.hid (below_drewN (Below.refl V2.heap.size V2) nq)
        have O3 := Lib.hid (O2.out.below B3.out)
        have Q3 := Lib.hid (Q2.out.trans (B3.out.mono Q2.out.size))
        have X3 := Lib.hid (blk_drewN X2.out nq)
        clear x0 x1 y0 y1 O2 Q2 X2 B3
        generalize V2.drewN nq = V3 at O3 Q3 X3 ⊢
        have x0 := blk_cell X3.out 0
        have x1 := blk_cell X3.out 1
        have hz3 := Q3.out.size
        have BAL := Lib.hid ((Below.refl V3.heap.size V3).alloc (Nat.le_refl _) (.cells #[.int .i64 (x.1 : Nat), .int .i64 (x.2 : Nat)] 76))
        go_wp2_with (first
          | ((with_reducible show wpList _ _ _ _ _ _); refine wpList_append_r (w := V3.alloc (.cells #[.int .i64 (x.1 : Nat), .int .i64 (x.2 : Nat)] 76)) (t := 90) (e := 76) (z := .agg #[.int .i64 0, .int .i64 0]) (m := 2) (bz := 16) (cells := SC) (xs := out) (ys := [x]) (cap := k) (dap := 1) (n := 1) (a := some ⟨g2, 0, none⟩) (b := some ⟨V3.heap.size, 0, none⟩) rfl elemS encS (.tmp 42) (.tmp 44) rfl V1.heap.size rfl ?_ ?_ ?_ ?_ ?_ ?_ ?_ ?_ ?_; exact O3.out.below BAL.out; exact sts_new encS V3 [x] 76 (0, 0); (intro e; cases e); rfl; rfl; (simp only [List.length_cons, List.length_nil]; omega); (unfold maxLen; simp only [List.length_cons, List.length_nil]; omega); (have := BAL.out.size; omega); intro a5 c5 V5 O5 b5 g5; have O5h := Lib.hid O5; have B5h := Lib.hid b5; clear O5 b5 g5)
          | fail)
        go_roundw
        case rel => exact ⟨i + 1, _, a5, c5, by omega, by go_num, (by first | rfl | (rw [List.length_append]; rfl)), HN2, O5h.out, (Q3.out.trans (BAL.out.mono Q3.out.size)).trans B5h.out⟩
        case measure => simp [intOf]; omega
end Go.Proofs.Ytcachmjcninkbaa
