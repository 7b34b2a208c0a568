/- Recvbuf: slices.SortFunc, laid. -/
import Derived.Test.YtknebjfdggimcaaRvL
import Derived.Shelf.SlSortCmp.WholeK
import Derived.Shelf.SlicesG.Cmp
import Derived.Shelf.Lay
import Derived.Ground.SlsfProg
import Derived.Ground.SlgcProg
namespace Go.Proofs
open Go.Shelf Go.RowKit Go.Lib Go.Sort
shelf_lay_g SlLaysF0.n6 Slsf 6 at Try 36 as sortSp
shelf_lay_g SlLaysC2.n5 Slgc 5 at Try 38 as cmpSp
end Go.Proofs

namespace Go.Proofs.Ytknebjfdggimcaa
open Go.Shelf Go.RowKit Go.Lib Go.Sort Go.Proofs.Ytknebjfdggimcaa.Rv

set_option maxHeartbeats 1000000 in
theorem cmp_cl (x y : Pt) (W : World) : Calls Try.prog 37 #[.agg #[.int .i64 (x.1 : Nat), .int .i64 (x.2.1 : Nat), .int .i64 (x.2.2 : Nat)], .agg #[.int .i64 (y.1 : Nat), .int .i64 (y.2.1 : Nat), .int .i64 (y.2.2 : Nat)]] W fun e w' => e = .returned (.int .i64 (Lib.compareInt (y.2.2 : Int) (x.2.2 : Int))) ∧ ∃ q os', w' = grow (W.drewN q) os' := by
  have hcon := fun W' => AnyG.cmp_Compare_int cmpSp (y.2.2 : Int) (x.2.2 : Int) W'
  change ∀ W', Calls Try.prog 38 _ _ _ at hcon
  generalize Lib.compareInt (y.2.2 : Int) (x.2.2 : Int) = r at hcon ⊢
  go_enter Try.func37, Try.ntmps37
  go_wp2_with (go_at_call 38; refine (hcon _).mono ?_; rintro e w' ⟨rfl, rfl⟩)
  go_ret
  exact ⟨rfl, 0, _, by rw [alloc_eq_grow, alloc_eq_grow, grow_grow]; rfl⟩
theorem cmp_lays (blk off size : Nat) (w : World) : CmpLays Try.prog 37 #[] PC 3 (fun x y : Pt => Lib.compareInt (y.2.2 : Int) (x.2.2 : Int)) blk off size w :=
  fun _ _ _ _ x y => cmp_cl x y _
theorem ltLo (x y : Pt) : ltOf (fun x y : Pt => Lib.compareInt (y.2.2 : Int) (x.2.2 : Int)) x y = decide (y.2.2 < x.2.2) := by
  unfold ltOf Lib.compareInt
  by_cases h1 : y.2.2 < x.2.2
  · simp [h1]
  · by_cases h2 : x.2.2 < y.2.2 <;> simp [h1, h2]
theorem swoLo : SWO (ltOf fun x y : Pt => Lib.compareInt (y.2.2 : Int) (x.2.2 : Int)) where
  irrefl x := by rw [ltLo]; simp
  trans x y z h1 h2 := by rw [ltLo] at *; simp at *; omega
  ntrans x y z h1 h2 := by rw [ltLo] at *; simp at *; omega
end Go.Proofs.Ytknebjfdggimcaa

namespace Go.Proofs.Ytknebjfdggimcaa
open Go.Shelf Go.RowKit Go.Lib Go.Sort Go.Proofs.Ytknebjfdggimcaa.Rv

theorem flatK_eq (xs : List Pt) : flatK PC 3 xs.toArray = (xs.flatMap PC).toArray := by
  apply ext_get!
  · simp [size_flatK, flat_len encP]
  · intro t ht
    rw [size_flatK] at ht
    have hl : t / 3 < xs.length := by simp only [List.size_toArray] at ht; omega
    rw [get_flatK PC 3 _ t ht]
    have h2 : t % 3 < (PC xs[t / 3]).length := by rw [encP.len]; omega
    have h3 := flat_get encP (List.getElem?_eq_getElem hl) (List.getElem?_eq_getElem h2)
    rw [show t / 3 * 3 + t % 3 = t by omega] at h3
    have h4 : xs.toArray[t / 3]! = xs[t / 3] := by rw [getElem!_pos xs.toArray (t / 3) (by simpa using hl)]; rfl
    rw [h4, getElem!_pos (PC xs[t / 3]) (t % 3) h2]
    obtain ⟨h5, h6⟩ := List.getElem?_eq_some_iff.1 h3
    rw [getElem!_pos _ t (by simpa using h5)]
    simpa using h6.symm
theorem OwnR.holds {e : TypeId} {B g cap : Nat} {xs : List Pt} {w : World} (h : OwnR e 3 PC B (some ⟨g, 0, none⟩) xs cap w) : HoldsK PC 3 w g 0 xs.toArray := by
  intro j hj
  refine ⟨?_, by rw [Nat.zero_add]; exact h.frozenP j⟩
  rw [flatK_eq] at hj ⊢
  have hj2 : j < (xs.flatMap PC).length := by simpa using hj
  have hr := h.rowAny
  have h1 := hr.cells (g := g) rfl j _ (List.getElem?_eq_getElem hj2)
  have e : (⟨g, 0, none⟩ : Addr).add j = ⟨g, j, none⟩ := by unfold Addr.add; split <;> simp_all
  rw [e] at h1
  rw [Nat.zero_add, h1, getElem!_pos _ j (by simpa using hj2)]
  rfl
theorem OwnR.sorted {e : TypeId} {B g cap : Nat} {xs : List Pt} {w : World} (h : OwnR e 3 PC B (some ⟨g, 0, none⟩) xs cap w) (ys : List Pt) (hl : ys.length = xs.length) (n : Nat) (os : Array Obj) :
    OwnR e 3 PC B (some ⟨g, 0, none⟩) ys cap (sortWorldK PC 3 w g 0 n ys.toArray os) ∧ w.grownBy (sortWorldK PC 3 w g 0 n ys.toArray os) (some g) := by
  rcases h with ⟨h, _⟩ | ⟨g', e', hB, hr⟩
  · cases h
  cases e'
  rcases hr.2 with ⟨h0, _⟩ | ⟨g', cap', cur, e', h1, hg, h3, h4, h5, h6⟩
  · cases h0
  have e2 := e'
  simp only [Value.slice.injEq, Option.some.injEq, Addr.mk.injEq] at e2
  obtain ⟨⟨rfl, _, _⟩, _, rfl⟩ := e2
  have hgl := blk_lt hg
  have hheap : (sortWorldK PC 3 w g 0 n ys.toArray os).heap[g]? = some (.cells (putCells id 0 (flatK PC 3 ys.toArray) cur) e (0, 0)) := by
    unfold sortWorldK
    rw [heap_grow_old _ _ (by unfold putRowK; rw [size_putRow]; exact hgl)]
    unfold putRowK putRow mapBlock
    show (w.heap.modify g _)[g]? = _
    rw [Array.getElem?_modify, if_pos rfl, hg]
    rfl
  refine ⟨.inr ⟨g, rfl, hB, flat_len encP ys, .inr ⟨g, cap, _, by rw [hl], h1, hheap, by omega, h4, by simp [putCells, h5], ?_⟩⟩, rfl, rfl, rfl, ?_, ?_⟩
  · apply List.ext_getElem?
    intro k
    by_cases hk : k < ys.length * 3
    · rw [List.getElem?_take, if_pos hk]
      have hk2 : k < (ys.flatMap PC).length := by rw [flat_len encP]; exact hk
      have hk3 : k < cur.size := by rw [h5]; omega
      simp only [putCells, Array.getElem?_toList, Array.getElem?_mapIdx, Array.getElem?_eq_getElem hk3, Option.map_some]
      rw [if_pos ⟨Nat.zero_le _, by rw [size_flatK, List.size_toArray]; omega⟩, flatK_eq, List.getElem?_eq_getElem hk2]
      simp only [id, Nat.sub_zero]
      rw [getElem!_pos _ k (by simpa using hk2)]
      simp
    · rw [List.getElem?_eq_none (by rw [List.length_take]; omega), List.getElem?_eq_none (by rw [flat_len encP]; omega)]
  · unfold sortWorldK
    rw [size_grow]
    unfold putRowK
    rw [size_putRow]
    exact Nat.le_add_right _ _
  · intro k hk hne
    unfold sortWorldK
    rw [heap_grow_old _ _ (by unfold putRowK; rw [size_putRow]; exact hk)]
    unfold putRowK putRow mapBlock
    show (w.heap.modify g _)[k]? = _
    rw [Array.getElem?_modify, if_neg (fun e => hne (by rw [e]))]
/-- The latest first. -/
def rising (l : List Pt) : Prop := l.Pairwise fun x y => y.2.2 ≤ x.2.2
theorem rising_of {d : Array Pt} (h : SortedIn (ltOf fun x y : Pt => Lib.compareInt (y.2.2 : Int) (x.2.2 : Int)) 0 d.size d) : rising d.toList := by
  unfold rising
  rw [List.pairwise_iff_getElem]
  intro i j hi hj hij
  have := h i j (Nat.zero_le _) hij (by simpa using hj)
  rw [ltLo, getElem!_pos d i (by simpa using hi), getElem!_pos d j (by simpa using hj)] at this
  simp only [decide_eq_false_iff_not] at this
  simp only [Array.getElem_toList]
  omega
set_option maxHeartbeats 1000000 in
theorem sort_spd (B : Nat) (l : List Pt) (hl : l.length ≤ 4398046511104) :
    ∃ sl, sl.Perm l ∧ rising sl ∧ ∀ (g cap : Nat) (w : World), OwnR 87 3 PC B (some ⟨g, 0, none⟩) l cap w → B ≤ g → g < w.heap.size → Calls Try.prog 36 #[.slice (some ⟨g, 0, none⟩) l.length cap, .func (.func 37) #[] #[]] w fun e w' => e = .returned (.tuple #[]) ∧ OwnR 87 3 PC B (some ⟨g, 0, none⟩) sl cap w' ∧ Below B w w' := by
  have eg : ∀ args w, (callFunc 37 args).run Try.prog w = .ok (.enter 37 args) w := enters_of Try.func37 (by kernel_rfl) rfl
  have hcon := fun (g cap : Nat) (w : World) (h : OwnR 87 3 PC B (some ⟨g, 0, none⟩) l cap w) (hg : g < w.heap.size) => AnyQ.slices_SortFunc_eq sortSp 3 Try.isAgg87 Try.sizeOf87 PC encP.len encP.one (fun x y : Pt => Lib.compareInt (y.2.2 : Int) (x.2.2 : Int)) swoLo 37 #[] g 0 cap l.toArray w eg (cmp_lays g 0 _ w) h.holds hg (by simp only [List.size_toArray]; omega)
  have hps := pdq_sorts (ltOf fun x y : Pt => Lib.compareInt (y.2.2 : Int) (x.2.2 : Int)) swoLo l.toArray 0 l.toArray.size (Lib.bitLen l.toArray.size) true true (Nat.zero_le _) (Nat.le_refl _) (Or.inl rfl)
  generalize pdq (ltOf fun x y : Pt => Lib.compareInt (y.2.2 : Int) (x.2.2 : Int)) l.toArray 0 l.toArray.size (Lib.bitLen l.toArray.size) true true = d' at hcon hps
  obtain ⟨⟨hsz, _, hperm⟩, hs⟩ := hps
  have hsz2 : d'.toList.length = l.length := by simpa using hsz
  have e1 : (d'.extract 0 l.toArray.size) = d' := by rw [← hsz]; simp
  have e2 : (l.toArray.extract 0 l.toArray.size) = l.toArray := by simp
  rw [e1, e2] at hperm
  refine ⟨d'.toList, by simpa using hperm, rising_of (by rw [hsz]; exact hs), fun g cap w h hBg hg => ?_⟩
  refine Calls.mono (hcon g cap w h hg) ?_
  rintro e w' ⟨rfl, n, os, rfl⟩
  have hO := h.sorted d'.toList hsz2 n os
  rw [Array.toArray_toList] at hO
  exact ⟨rfl, hO.1, (Below.refl _ _).grown hO.2 (by omega) (fun k e => by cases e; exact hBg)⟩
end Go.Proofs.Ytknebjfdggimcaa

namespace Go.Proofs.Ytknebjfdggimcaa
open Go.RowKit
set_option maxHeartbeats 1000000 in
set_option maxRecDepth 100000 in
theorem len64_0 (w : World) : Calls Try.prog 58 #[.int .u64 0] w fun e w' => e = .returned (.int .i64 0) ∧ w' = w := by
  go_enter Try.func58, Try.ntmps58
  go_wp2
  go_ret
  exact ⟨by kernel_rfl, rfl⟩
set_option maxHeartbeats 1000000 in
theorem len_0 (w : World) : Calls Try.prog 43 #[.int .u64 0] w fun e w' => e = .returned (.int .i64 0) ∧ w' = w := by
  go_enter Try.func43, Try.ntmps43
  go_wp2_with (go_at_call 58; refine (len64_0 _).mono ?_; rintro e w' ⟨rfl, rfl⟩)
  go_ret
  exact ⟨rfl, rfl⟩
set_option maxHeartbeats 1000000 in
theorem ins_0 (fv : Value) (w : World) : Calls Try.prog 49 #[.slice none 0 0, .int .i64 0, .int .i64 0, fv] w fun e w' => e = .returned (.tuple #[]) ∧ w' = w := by
  go_enter Try.func49, Try.ntmps49
  go_wp2
  refine wp_loop_rounds 1 ?_
  rw [rounds_succ]
  go_wp2
  go_end0
  exact ⟨rfl, rfl⟩
set_option maxHeartbeats 1000000 in
theorem pdq_0 (fv : Value) (w : World) : Calls Try.prog 42 #[.slice none 0 0, .int .i64 0, .int .i64 0, .int .i64 0, fv] w fun e w' => e = .returned (.tuple #[]) ∧ w' = w := by
  go_enter Try.func42, Try.ntmps42
  go_wp2
  refine wp_loop_rounds 1 ?_
  rw [rounds_succ]
  go_wp2_with (go_at_call 49; refine (ins_0 _ _).mono ?_; rintro e w' ⟨rfl, rfl⟩)
  (try simp only [Exit.inBlock, Exit.then]); refine bodyPost_ret (results_none rfl _ _ _) rfl ?_
  exact ⟨rfl, rfl⟩
set_option maxHeartbeats 1000000 in
theorem sort_nil (fv : Value) (w : World) : Calls Try.prog 36 #[.slice none 0 0, fv] w fun e w' => e = .returned (.tuple #[]) ∧ w' = w := by
  go_enter Try.func36, Try.ntmps36
  go_wp2_with (first | (go_at_call 43; refine (len_0 _).mono ?_; rintro e w' ⟨rfl, rfl⟩) | (go_at_call 42; refine (pdq_0 _ _).mono ?_; rintro e w' ⟨rfl, rfl⟩))
  go_end0
  exact ⟨rfl, rfl⟩
end Go.Proofs.Ytknebjfdggimcaa
