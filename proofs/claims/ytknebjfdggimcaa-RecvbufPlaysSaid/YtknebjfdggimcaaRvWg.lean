/- Recvbuf: Grow, where it grows. -/
import Derived.Test.YtknebjfdggimcaaRvW
namespace Go.Proofs.Ytknebjfdggimcaa
open Go.RowKit Go.Proofs.Ytknebjfdggimcaa.Rv

set_option maxRecDepth 100000 in
set_option maxHeartbeats 2000000 in
theorem grow_ok (B g G n st rd nx m pl pc ct : Nat) (pa : Option Addr) (rs : List Nat) (w : World) (hB : w.heap[g]? = some (.cells #[.slice (some ⟨G, 0, none⟩) n n, .int .i64 (st : Nat), .int .i64 (rd : Nat), .int .u32 (nx : Nat), .slice pa pl pc, .int .i64 (ct : Nat)] 70 (0, 0)))
    (O : OwnSl B (some ⟨G, 0, none⟩) rs n w) (hrl : rs.length = n) (hnm : n ≤ m) (hm : m ≤ 1048576) (hst : st < n) (hG : G < w.heap.size) :
    Calls Try.prog 17 #[.pointer (some ⟨g, 0, none⟩), .int .i64 (m : Nat)] w fun e w' => e = .returned (.int .i64 0) ∧ OwnSl w.heap.size (some ⟨w.heap.size, 0, none⟩) (spl (spl (List.replicate m 0) 0 (rs.drop st)) (n - st) (rs.take st)) m w' ∧ w'.heap[g]? = some (.cells #[.slice (some ⟨w.heap.size, 0, none⟩) m m, .int .i64 0, .int .i64 (rd : Nat), .int .u32 (nx : Nat), .slice pa pl pc, .int .i64 (ct : Nat)] 70 (0, 0)) ∧ w.grownBy w' (some g) := by
  obtain ⟨i0, hi, hz0, hz1, hz2⟩ := info_parts info5
  have Hz := Lib.hid hz2
  have B0 := Lib.hid hB
  have c2 := blk_cell hB 0
  have gz := blk_lt hB
  have R0 := Lib.hid O.bts
  have d1 : ¬ ((m : Int) < (n : Int)) := by omega
  have d2 : ¬ ((1048576 : Int) < (m : Int)) := by omega
  have hn : n ≤ 1048576 := by omega
  clear hB O
  go_enter Try.func17, Try.ntmps17
  go_upto_region 6 with (first
    | (go_at_call 28; refine (made_yes g G n st rd nx pa pl pc ct _ B0.out).mono ?_; rintro e w' ⟨rfl, rfl⟩)
    | (at_make; refine wpList_make_full _ rfl _ _ 32 rfl w.heap.size 5 i0 (.int .u8 0) 1 Try.underlying32 hi hz0 hz1 .i64 .i64 _ _ m rfl rfl rfl rfl (by rw [Hz.out]; omega) (by unfold maxLen; omega) (Nat.le_refl _) ?_; intro V2 hown hgrow; have b := ((Below.refl w.heap.size w).grown hgrow (Nat.le_refl _) (fun k e => by cases e)); have B2 := Lib.hid ((b.block _ gz).trans B0.out); have R2 := Lib.hid (R0.out.below b); have Q2 := Lib.hid b; have gz2 := Nat.lt_of_lt_of_le gz b.size; have O2 := Lib.hid (own_made hown (Nat.le_refl _)); clear hown hgrow b c2)
    | fail)
  have B3 : Hid (V2.drew.heap[g]? = some (.cells #[.slice (some ⟨G, 0, none⟩) n n, .int .i64 (st : Nat), .int .i64 (rd : Nat), .int .u32 (nx : Nat), .slice pa pl pc, .int .i64 (ct : Nat)] 70 (0, 0))) := Lib.hid (blk_drew B2.out)
  have R3 := Lib.hid (R2.out.below (Below.refl _ _).drew)
  have O3 := Lib.hid (O2.out.below (Below.refl _ _).drew)
  have Q3 := Lib.hid Q2.out.drew
  have c0 := blk_cell B3.out 0
  have c1 := blk_cell B3.out 1
  have hgn : w.heap.size ≠ g := by omega
  have hGn : G ≠ w.heap.size := by omega
  clear B2 R2 O2 Q2
  have hrd3 : (rs.drop st).length = n - st := by rw [List.length_drop, hrl]
  have hys : ∃ ys, (rs.drop st).take m = ys := ⟨_, rfl⟩
  obtain ⟨ys, hys⟩ := hys
  have hyl : ys.length = n - st := by rw [← hys, List.length_take, hrd3]; omega
  have hysd : rs.drop st = ys := by rw [← hys, List.take_of_length_le (by omega)]
  obtain ⟨l, hl⟩ : ∃ z, n - st = z := ⟨_, rfl⟩
  rw [hl] at hyl hrd3
  have hfit : 0 + ys.length ≤ (List.replicate m 0).length := by rw [List.length_replicate]; omega
  have hs1 : (st : Int) ≤ (n : Int) := by omega
  have hs2 : ¬ (n = st) := by omega
  have HS2 := Lib.hid hs2
  have R4d : Hid (Bts V2.drew (if n = st then some ⟨G, 0, none⟩ else some ⟨G, st, none⟩) (rs.drop st)) := Lib.hid (by rw [if_neg hs2]; have h := R3.out.drop st; rw [Nat.zero_add] at h; exact h)
  clear hs2
  go_region_held3 (fun W => W.cell? ⟨g, 0, none⟩ = some (.slice (some ⟨G, 0, none⟩) n n) ∧ W.cell? ⟨g, 1, none⟩ = some (.int .i64 (st : Nat))) (first | exact ⟨c0, c1⟩ | (with_reducible exact KS.out) | go_keep) (first
    | (refine step_copy_cut rfl _ _ rfl w.heap.size w.heap.size 0 m _ m rfl rfl hrd3.symm hys O3.out R4d.out (fun _ => rfl) hfit ?_; intro V5 Z bg; have B5 := Lib.hid (grown_block bg B3.out (Ne.symm hgn)); have R5 := Lib.hid (R3.out.grown bg hGn); have O5 := Lib.hid Z; have Q5 := Lib.hid (Q3.out.trans (O3.out.belowOf bg)); have KS : Hid (V5.cell? ⟨g, 0, none⟩ = some (.slice (some ⟨G, 0, none⟩) n n) ∧ V5.cell? ⟨g, 1, none⟩ = some (.int .i64 (st : Nat))) := Lib.hid ⟨blk_cell B5.out 0, blk_cell B5.out 1⟩; clear Z bg))
  have hsl : (splice (List.replicate m 0) 0 ys).length = m := by rw [length_splice _ _ _ hfit, List.length_replicate]
  have hy2 : ∃ y2, (rs.take st).take (m - l) = y2 := ⟨_, rfl⟩
  obtain ⟨y2, hy2⟩ := hy2
  have hrt : (rs.take st).length = st := by rw [List.length_take, hrl]; omega
  have hyl2 : y2.length = st := by rw [← hy2, List.length_take, hrt]; omega
  have hy2d : rs.take st = y2 := by rw [← hy2]; exact (List.take_of_length_le (by omega)).symm
  have hfit2 : l + y2.length ≤ (splice (List.replicate m 0) 0 ys).length := by omega
  have O6 := Lib.hid (O5.out.below (Below.refl _ _).drew)
  have R6 := Lib.hid ((R5.out.below (Below.refl _ _).drew).take st)
  have Q6 := Lib.hid Q5.out.drew
  have c6 := blk_cell (blk_drew B5.out) 0
  have c7 := blk_cell (blk_drew B5.out) 1
  have s2 : (l : Int) ≤ (m : Int) := by omega
  have HCUT : Hid (splice (splice (List.replicate m 0) 0 ys) l y2 = spl (spl (List.replicate m 0) 0 (rs.drop st)) (n - st) (rs.take st)) := Lib.hid (by rw [hysd, hl, hy2d]; rfl)
  clear c0 c1 KS hsl
  go_wp2_with fail
  go_region_held3 (fun W => W.cell? ⟨g, 0, none⟩ = some (.slice (some ⟨G, 0, none⟩) n n) ∧ W.cell? ⟨g, 1, none⟩ = some (.int .i64 (st : Nat))) (first | exact ⟨c6, c7⟩ | (with_reducible exact KS7.out) | go_keep) (first
    | (refine step_copy_cut rfl _ _ rfl w.heap.size w.heap.size l (m - l) _ m rfl rfl hrt.symm hy2 O6.out R6.out (fun h => by first | rfl | (rw [if_neg (by omega)]) | (simp; omega)) hfit2 ?_; intro V7 Z bg; have B7 := Lib.hid (grown_block bg (blk_drew B5.out) (Ne.symm hgn)); have O7 := Lib.hid Z; have Q7 := Lib.hid (Q6.out.trans (O6.out.belowOf bg)); have KS7 : Hid (V7.cell? ⟨g, 0, none⟩ = some (.slice (some ⟨G, 0, none⟩) n n) ∧ V7.cell? ⟨g, 1, none⟩ = some (.int .i64 (st : Nat))) := Lib.hid ⟨blk_cell B7.out 0, blk_cell B7.out 1⟩; clear Z bg))
  all_goals
    go_upto_region 8 with fail
    have B8 := Lib.hid B7.out
    have O8 := Lib.hid O7.out
    have Q8 := Lib.hid Q7.out
    clear B7 O7 Q7 c6 c7 KS7 O6 R6 Q6 B5 O5 R5 Q5 B3 O3 R3 Q3 R4d B0
    generalize V7 = V8 at B8 O8 Q8 ⊢
    have t0 := blk_cell B8.out 0
    have f0 := blk_free B8.out 0
    have s9 := blk_set B8.out 0 (.slice (some ⟨w.heap.size, 0, none⟩) m m)
    simp only [List.setIfInBounds_toArray, List.set_cons_zero] at s9
    have B9 := Lib.hid s9
    have g9 := gr_set V8 g 0 (.slice (some ⟨w.heap.size, 0, none⟩) m m)
    have O9 := Lib.hid (O8.out.far g9 (Ne.symm hgn))
    have G9 := Lib.hid (gr_trans (gr_below Q8.out (some g)) g9)
    have t1 := blk_cell B9.out 1
    have f1 := blk_free B9.out 1
    have s10 := blk_set B9.out 1 (.int .i64 0)
    simp only [List.setIfInBounds_toArray, List.set_cons_zero, List.set_cons_succ] at s10
    have B10 := Lib.hid s10
    have g10 := gr_set (V8.setCell ⟨g, 0, none⟩ (.slice (some ⟨w.heap.size, 0, none⟩) m m)) g 1 (.int .i64 0)
    have O10 := Lib.hid (O9.out.far g10 (Ne.symm hgn))
    have G10 := Lib.hid (gr_trans G9.out g10)
    clear s9 s10 g9 g10 O8 O9 Q8 G9 B8 B9
    go_wp2
    all_goals
      go_ret
      first
      | (refine ⟨rfl, ?_, B10.out, G10.out⟩; (first | exact O10.out | (rw [← HCUT.out]; exact O10.out)))
      | (obtain rfl : m = l := by first | assumption | omega
         exact ⟨rfl, by first | exact O10.out | (rw [← HCUT.out]; exact O10.out), B10.out, G10.out⟩)
/-- Grow, of a buffer as it lies. -/
theorem grow_at (B g G pc m : Nat) (pa : Option Addr) (s : St) (w : World) (K : Ok s) (R : RvAt B g G pa pc s w) (hB : B ≤ w.heap.size) (hG : G < w.heap.size) (h1 : s.sz ≤ m) (h2 : m ≤ 1048576) :
    Calls Try.prog 17 #[.pointer (some ⟨g, 0, none⟩), .int .i64 (m : Nat)] w fun e w' => e = .returned (.int .i64 0) ∧ RvAt B g w.heap.size pa pc (growF s m) w' ∧ w.grownBy w' (some g) := by
  refine (grow_ok B g G s.sz s.start s.ready s.next m s.parts.length pc s.count pa s.ring w R.blk R.ring K.rl h1 h2 K.st hG).mono ?_
  rintro e w' ⟨h0, h3, h4, h5⟩
  refine ⟨h0, ⟨h4, h3.mono hB, R.own.grown h5 (fun g' e1 e2 => by have := Option.some.inj e2; subst this; exact R.pg e1), Nat.ne_of_lt (blk_lt R.blk), R.pg, ?_, R.Bg⟩, h5⟩
  intro e1
  have := R.own.ltB _ e1
  omega
end Go.Proofs.Ytknebjfdggimcaa
