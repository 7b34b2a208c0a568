/- The rings of a card: rows of slices, what put and take do to one ring among the cells of a block. -/
import Derived.Test.YtokfadlgiimaoaaGPlain
import Derived.Test.YtokfadlgiimaoaaGOwn
import Derived.Test.YtokfadlgiimaoaaGTailQ
import Derived.Deep.DeepCutAuto
import Derived.RegionTactic
import Derived.StillTailTactics
import Derived.Deep.RegionHeld3
import Derived.Lib.QuietBelow
import Derived.Deep.CutRange
namespace Go.Proofs.Ytokfadlgiimaoaa
open Go.RowKit Go.Sort

/-- A slice as it lies in a ring. -/
abbrev V3 := Option Addr × Nat × Nat
def sv (x : V3) : Value := .slice x.1 x.2.1 x.2.2
def sv0 : V3 := (none, 0, 0)
/-- A row of slices of one's own, in block b. -/
def Slots (B b : Nat) (sl : List V3) (cap : Nat) (w : World) : Prop := B ≤ b ∧ w.ownsRow B 22 1 (.slice (some ⟨b, 0, none⟩) sl.length cap) sl.length (sl.map sv)

theorem Slots.keepRow {B b cap : Nat} {sl : List V3} {w w' : World} (h : Slots B b sl cap w) (hk : ∀ o, w.heap[b]? = some o → w'.heap[b]? = some o) : Slots B b sl cap w' := by
  refine ⟨h.1, h.2.1, ?_⟩
  rcases h.2.2 with h0 | ⟨g', cap', cur, e', h1, h2, h3⟩
  · exact .inl h0
  · have e2 := e'
    simp only [Value.slice.injEq, Option.some.injEq, Addr.mk.injEq] at e2
    obtain ⟨⟨rfl, _, _⟩, _, _⟩ := e2
    exact .inr ⟨b, cap', cur, e', h1, hk _ h2, h3⟩
theorem Slots.lt {B b cap : Nat} {sl : List V3} {w : World} (h : Slots B b sl cap w) : b < w.heap.size := (h.2.lt b rfl).2
theorem Slots.below {B b cap : Nat} {sl : List V3} {w w' : World} (h : Slots B b sl cap w) (hb : Below w.heap.size w w') : Slots B b sl cap w' :=
  h.keepRow fun _ ho => (hb.block b h.lt).trans ho
theorem Slots.mono {B B' b cap : Nat} {sl : List V3} {w : World} (h : Slots B b sl cap w) (hb : B' ≤ B) : Slots B' b sl cap w := by
  refine ⟨by have := h.1; omega, h.2.1, ?_⟩
  rcases h.2.2 with h0 | ⟨g', cap', cur, e', h1, h2⟩
  · exact .inl h0
  · exact .inr ⟨g', cap', cur, e', by omega, h2⟩
theorem Slots.grown {B b g cap : Nat} {sl : List V3} {w w' : World} (h : Slots B b sl cap w) (hg : w.grownBy w' (some g)) (hne : b ≠ g) : Slots B b sl cap w' :=
  h.keepRow fun _ ho => (hg.block b h.lt (fun e => hne (Option.some.inj e))).trans ho
theorem Slots.cellAt {B b cap : Nat} {sl : List V3} {w : World} (h : Slots B b sl cap w) (i : Nat) (hi : i < sl.length) : w.cell? ⟨b, i, none⟩ = some (sv (sl.getD i sv0)) := by
  rw [h.2.cellAt i (by omega), List.getElem?_map, List.getD_eq_getElem?_getD, List.getElem?_eq_getElem hi]
  rfl
theorem Slots.frozenAt {B b cap : Nat} {sl : List V3} {w : World} (h : Slots B b sl cap w) (i : Nat) : w.frozen? ⟨b, i, none⟩ = false := h.2.frozenAt i
theorem Slots.store {B b cap : Nat} {sl : List V3} {w : World} (h : Slots B b sl cap w) (i : Nat) (x : V3) : Slots B b (sl.set i x) cap (w.setCell ⟨b, i, none⟩ (sv x)) := by
  have hst := h.2.stored i (sv x)
  rw [Mt.map_set sv sl i x] at hst
  refine ⟨h.1, ?_⟩
  rw [List.length_set]
  exact hst.1
theorem Slots.capLe {B b cap : Nat} {sl : List V3} {w : World} (h : Slots B b sl cap w) : sl.length ≤ cap ∧ cap ≤ maxLen := by
  rcases h.2.2 with ⟨h, _⟩ | ⟨g', cap', cur, e, _, _, h1, h2, _⟩
  · cases h
  · cases e; exact ⟨h1, h2⟩

theorem infoV : (Try.prog.info? 22).map (fun i => (i.zero, i.size, i.bytes)) = some (some (.slice none 0 0), 1, 24) := by kernel_rfl
theorem slots_made {w w' : World} {B sz : Nat} (hB : B ≤ w.heap.size) (h : w'.ownsRow B 22 1 (.slice (some ⟨w.heap.size, 0, none⟩) sz sz) sz (madeCells (Value.slice none 0 0).cells (sz * 1)).toList) : Slots B w.heap.size (List.replicate sz sv0) sz w' := by
  refine ⟨hB, ?_⟩
  rw [List.length_replicate, List.map_replicate]
  rw [made_list _ rfl, Nat.mul_one] at h
  exact h

theorem tmod_at (f n sz i : Nat) (hz : 0 < sz) (h : (f + n) % sz = i) (h2 : sz ≤ 4096) : IntKind.i64.wrap (((f : Int) + (n : Int)).tmod (sz : Int)) = (i : Int) := by
  have e : ((f : Int) + (n : Int)).tmod (sz : Int) = (i : Int) := by
    rw [Int.tmod_eq_emod_of_nonneg (by omega), ← h]; push_cast; rfl
  rw [e]
  have : i < sz := by rw [← h]; exact Nat.mod_lt _ hz
  exact IntWalk.i64_in _ ⟨by omega, by omega⟩

theorem gset (W : World) (g i : Nat) (v : Value) : W.grownBy (W.setCell ⟨g, i, none⟩ v) (some g) :=
  ⟨rfl, rfl, rfl, by show _ ≤ (W.heap.modify g _).size; simp, fun k _ hne => Below.heap_setCell _ _ _ _ (fun e => hne (by rw [e]))⟩
theorem gtrans {w w' w'' : World} {row : Option Nat} (h : w.grownBy w' row) (h' : w'.grownBy w'' row) : w.grownBy w'' row :=
  ⟨h'.os.trans h.os, h'.tape.trans h.tape, h'.output.trans h.output, Nat.le_trans h.size h'.size, fun k hk hne => (h'.block k (Nat.lt_of_lt_of_le hk h.size) hne).trans (h.block k hk hne)⟩
theorem below_grown {w w' : World} (h : Below w.heap.size w w') (o : Option Nat) : w.grownBy w' o := ⟨h.os, h.tape, h.output, h.size, fun k hk _ => h.block k hk⟩

set_option maxHeartbeats 1000000 in
theorem put_full (g o sz : Nat) (cs : Array Value) (t : TypeId) (xa : Option Addr) (xn xc : Nat) (w : World) (hg : w.heap[g]? = some (.cells cs t (0, 0))) (h0 : cs[o]? = some (.int .i64 (sz : Nat))) (h3 : cs[o + 3]? = some (.int .i64 (sz : Nat))) :
    Calls Try.prog 34 #[.pointer (some ⟨g, o, none⟩), .slice xa xn xc] w fun e w' => e = .returned (.bool false) ∧ Below w.heap.size w w' := by
  have c0 := (blk_cell hg o).trans h0
  have c3 := (blk_cell hg (o + 3)).trans h3
  have e1 : ((sz : Int) == (sz : Int)) = true := beq_self_eq_true _
  have Q := Lib.hid (Below.refl w.heap.size w)
  clear hg h0 h3
  go_enter Try.func34, Try.ntmps34
  go_wp2_with fail
  go_quiet (fail)
  go_wp2
  go_ret
  exact ⟨rfl, below_drewN Q.out _⟩

set_option maxRecDepth 100000 in
set_option maxHeartbeats 2000000 in
theorem put_some (g o sz f n k sc i B : Nat) (cs : Array Value) (t : TypeId) (sl : List V3) (xa : Option Addr) (xn xc : Nat) (w : World) (hg : w.heap[g]? = some (.cells cs t (0, 0))) (h0 : cs[o]? = some (.int .i64 (sz : Nat))) (h1 : cs[o + 1]? = some (.slice (some ⟨k, 0, none⟩) sz sc)) (h2 : cs[o + 2]? = some (.int .i64 (f : Nat))) (h3 : cs[o + 3]? = some (.int .i64 (n : Nat))) (hS : Slots B k sl sc w) (hl : sl.length = sz) (hn : n < sz) (hf : f < sz) (hz : sz ≤ 4096) (hgk : k ≠ g) (hi : (f + n) % sz = i) :
    Calls Try.prog 34 #[.pointer (some ⟨g, o, none⟩), .slice xa xn xc] w fun e w' => e = .returned (.bool true) ∧ w'.heap[g]? = some (.cells (cs.setIfInBounds (o + 3) (.int .i64 ((n : Int) + 1))) t (0, 0)) ∧ Slots B k (sl.set i (xa, xn, xc)) sc w' ∧ ∃ wm, w.grownBy wm (some k) ∧ wm.grownBy w' (some g) := by
  have c0 := (blk_cell hg o).trans h0
  have c1 := (blk_cell hg (o + 1)).trans h1
  have c2 := (blk_cell hg (o + 2)).trans h2
  have c3 := (blk_cell hg (o + 3)).trans h3
  have e1 : ((n : Int) == (sz : Int)) = false := by rw [beq_eq_false_iff_ne]; omega
  have hEq : ∀ W, (binOp .eql 36 (.slice (some ⟨k, 0, none⟩) sz sc) (.slice none 0 0)).run Try.prog W = .ok (.bool false) W := fun W => Lib.run_eql_slice_nil W _ _ (some ⟨k, 0, none⟩) sz sc 0 0 Try.underlying36
  have W1 : IntKind.i64.wrap ((f : Int) + (n : Int)) = (f : Int) + (n : Int) := IntWalk.i64_in _ ⟨by omega, by omega⟩
  have W2 := tmod_at f n sz i (by omega) hi hz
  have e5 : ((f : Int) + (n : Int)) % (sz : Int) = (i : Int) := by rw [← hi]; push_cast; rfl
  have il : i < sz := by rw [← hi]; exact Nat.mod_lt _ (by omega)
  have i2 : (i : Int) < (sz : Int) := by omega
  have W3 : IntKind.i64.wrap ((n : Int) + 1) = (n : Int) + 1 := IntWalk.i64_in _ ⟨by omega, by omega⟩
  have fz : ¬ (sz : Int) = 0 := by omega
  have fzb : ((sz : Int) == 0) = false := by rw [beq_eq_false_iff_ne]; omega
  have HI := Lib.hid il
  have HG := Lib.hid hg
  have HS := Lib.hid hS
  have HL := Lib.hid hl
  have HK := Lib.hid hgk
  have HC := Lib.hid (And.intro h0 (And.intro h1 (And.intro h2 h3)))
  clear h0 h1 h2 h3 hi hn hf hg hS hl
  go_enter Try.func34, Try.ntmps34
  go_wp2_with fail
  go_quiet (fail)
  have D := below_drewN (Below.refl w.heap.size w) nq
  have G1 := Lib.hid ((D.block g (blk_lt HG.out)).trans HG.out)
  have S1 := Lib.hid (HS.out.below D)
  have E1 := Lib.hid D
  clear D HG HS c0 c1 c2 c3
  generalize w.drewN nq = V1 at G1 S1 E1 ⊢
  have c0 := (blk_cell G1.out o).trans HC.out.1
  have c1 := (blk_cell G1.out (o + 1)).trans HC.out.2.1
  have c2 := (blk_cell G1.out (o + 2)).trans HC.out.2.2.1
  have c3 := (blk_cell G1.out (o + 3)).trans HC.out.2.2.2
  go_upto_region 5 with fail
  refine wp_region_quiet_tail [0, 1, 2, 3, 4, 5, 6, 7, 8, 9, 10, 11, 12, 13, 14, 15, 16, 17, 18, 19] 20 [] [_, _, _, _, _, _, _, _, _, _, _, _, _, _, _, _, _, _, _, _] [_] (by kernel_rfl) rfl rfl rfl (by kernel_rfl) ?_
  (try simp only [List.getElem_toArray]); (try simp only [List.getElem_cons_succ]); (try simp only [List.getElem_cons_zero])
  have q0 := cell_regrown c0
  have q1 := cell_regrown c1
  have q2 := cell_regrown c2
  have q3 := cell_regrown c3
  repeat (go_big_quiet_step (fail))
  refine wpQuiet_nil ?_
  intro _ hw'
  obtain ⟨⟨dq, osq⟩, hw''⟩ := hw'
  subst hw''
  have D := below_regrown V1 dq osq
  clear q0 q1 q2 q3 c0 c1 c2 c3
  dsimp only
  have G2 := Lib.hid ((D.block g (blk_lt G1.out)).trans G1.out)
  have S2 := Lib.hid (S1.out.below D)
  have E2 := Lib.hid (E1.out.trans (D.mono E1.out.size))
  clear D G1 S1 E1
  generalize grow (redrawn V1 dq) osq = V2 at G2 S2 E2 ⊢
  have f0 := S2.out.frozenAt i
  have f1 := S2.out.cellAt i (by rw [HL.out]; exact HI.out)
  go_upto_region 6 with fail
  have S3 := Lib.hid (S2.out.store i (xa, xn, xc))
  have g3 := Lib.hid (gtrans (below_grown E2.out (some k)) (gset V2 k i (sv (xa, xn, xc))))
  have G3 := Lib.hid (blk_other (i := i) G2.out HK.out (sv (xa, xn, xc)))
  clear f0 f1 S2 G2 E2
  change Code.wp _ _ _ _ (V2.setCell ⟨k, i, none⟩ (sv (xa, xn, xc)))
  generalize V2.setCell ⟨k, i, none⟩ (sv (xa, xn, xc)) = V3 at S3 g3 G3 ⊢
  have c3 := (blk_cell G3.out (o + 3)).trans HC.out.2.2.2
  have f3 := blk_free G3.out (o + 3)
  go_upto_region 7 with fail
  have G4 := Lib.hid (blk_set G3.out (o + 3) (.int .i64 ((n : Int) + 1)))
  have S4 := Lib.hid (S3.out.grown (gset V3 g (o + 3) (.int .i64 ((n : Int) + 1))) HK.out)
  have g4 := Lib.hid (gset V3 g (o + 3) (.int .i64 ((n : Int) + 1)))
  clear c3 f3 S3 G3
  generalize V3.setCell ⟨g, o + 3, none⟩ (.int .i64 ((n : Int) + 1)) = V4 at G4 S4 g4 ⊢
  go_wp2
  go_ret
  exact ⟨rfl, G4.out, S4.out, _, g3.out, g4.out⟩

set_option maxRecDepth 100000 in
set_option maxHeartbeats 2000000 in
theorem put_nil (g o sz : Nat) (cs : Array Value) (t : TypeId) (xa : Option Addr) (xn xc : Nat) (w : World) (hg : w.heap[g]? = some (.cells cs t (0, 0))) (hcs : o + 3 < cs.size) (h0 : cs[o]? = some (.int .i64 (sz : Nat))) (h1 : cs[o + 1]? = some (.slice none 0 0)) (h2 : cs[o + 2]? = some (.int .i64 0)) (h3 : cs[o + 3]? = some (.int .i64 0)) (hz1 : 1 ≤ sz) (hz : sz ≤ 4096) :
    Calls Try.prog 34 #[.pointer (some ⟨g, o, none⟩), .slice xa xn xc] w fun e w' => e = .returned (.bool true) ∧ (∃ k, w.heap.size ≤ k ∧ w'.heap[g]? = some (.cells ((cs.setIfInBounds (o + 1) (.slice (some ⟨k, 0, none⟩) sz sz)).setIfInBounds (o + 3) (.int .i64 1)) t (0, 0)) ∧ Slots w.heap.size k ((List.replicate sz sv0).set 0 (xa, xn, xc)) sz w') ∧ w.grownBy w' (some g) := by
  have c0 := (blk_cell hg o).trans h0
  have c1 := (blk_cell hg (o + 1)).trans h1
  have c2 := (blk_cell hg (o + 2)).trans h2
  have c3 := (blk_cell hg (o + 3)).trans h3
  have e1 : ((0 : Int) == (sz : Int)) = false := by rw [beq_eq_false_iff_ne]; omega
  have hEq : ∀ W, (binOp .eql 36 (.slice none 0 0) (.slice none 0 0)).run Try.prog W = .ok (.bool true) W := fun W => Lib.run_eql_slice_nil W _ _ none 0 0 0 0 Try.underlying36
  have fz : ¬ (sz : Int) = 0 := by omega
  have fzb : ((sz : Int) == 0) = false := by rw [beq_eq_false_iff_ne]; omega
  have i2 : (0 : Int) < (sz : Int) := by omega
  obtain ⟨i0, hi, hz0, hzz1, hz2⟩ := info_parts infoV
  have Hz := Lib.hid hz2
  have HG := Lib.hid hg
  have HC := Lib.hid (And.intro h0 (And.intro h1 (And.intro h2 h3)))
  have HCS := Lib.hid hcs
  have Q0 := Lib.hid (Below.refl w.heap.size w)
  clear h0 h1 h2 h3 hg hcs
  go_enter Try.func34, Try.ntmps34
  go_wp2_with fail
  go_quiet (fail)
  have D := below_drewN (Below.refl w.heap.size w) nq
  have G1 := Lib.hid ((D.block g (blk_lt HG.out)).trans HG.out)
  have E1 := Lib.hid D
  clear D HG c0 c1 c2 c3
  generalize w.drewN nq = V1 at G1 E1 ⊢
  have c0 := (blk_cell G1.out o).trans HC.out.1
  have c1 := (blk_cell G1.out (o + 1)).trans HC.out.2.1
  have c2 := (blk_cell G1.out (o + 2)).trans HC.out.2.2.1
  have c3 := (blk_cell G1.out (o + 3)).trans HC.out.2.2.2
  have f1 := blk_free G1.out (o + 1)
  go_upto_region 5 with (first
    | (at_make; refine wpList_make_full _ rfl _ _ 36 rfl V1.heap.size 22 i0 (.slice none 0 0) 1 Try.underlying36 hi hz0 hzz1 .i64 .i64 _ _ sz rfl rfl rfl rfl (by rw [Hz.out]; omega) (by unfold maxLen; omega) (Nat.le_refl _) ?_; intro V2 hown hgrow; have b := (Below.refl V1.heap.size V1).grown hgrow (Nat.le_refl _) (fun k e => by cases e); have S2 := Lib.hid (slots_made (Nat.le_refl _) hown); have G2 := Lib.hid ((b.block g (blk_lt G1.out)).trans G1.out); have E2 := Lib.hid (E1.out.trans (b.mono E1.out.size)); have hk2 : V1.heap.size ≠ g := (Nat.ne_of_gt (blk_lt G1.out)); have HK := Lib.hid hk2; clear hown hgrow b c0 c1 c2 c3 f1; have c1 := (blk_cell G2.out (o + 1)).trans HC.out.2.1; have f1 := blk_free G2.out (o + 1))
    | fail)
  have G3 := Lib.hid (blk_set G2.out (o + 1) (.slice (some ⟨V1.heap.size, 0, none⟩) sz sz))
  have S3 := Lib.hid (S2.out.grown (gset V2 g (o + 1) (.slice (some ⟨V1.heap.size, 0, none⟩) sz sz)) HK.out)
  have g3 := Lib.hid (gtrans (below_grown E2.out (some g)) (gset V2 g (o + 1) (.slice (some ⟨V1.heap.size, 0, none⟩) sz sz)))
  clear c1 f1 S2 G2 E2
  have HN : Hid (w.heap.size ≤ V1.heap.size) := Lib.hid E1.out.size
  generalize V2.setCell ⟨g, o + 1, none⟩ (.slice (some ⟨V1.heap.size, 0, none⟩) sz sz) = V3 at S3 g3 G3 ⊢
  generalize V1.heap.size = k at S3 G3 HN HK ⊢
  have x0 : (cs.setIfInBounds (o + 1) (.slice (some ⟨k, 0, none⟩) sz sz))[o]? = some (.int .i64 (sz : Nat)) := by rw [Array.getElem?_setIfInBounds_ne (by omega)]; exact HC.out.1
  have x1 : (cs.setIfInBounds (o + 1) (.slice (some ⟨k, 0, none⟩) sz sz))[o + 1]? = some (.slice (some ⟨k, 0, none⟩) sz sz) := by rw [Array.getElem?_setIfInBounds_self_of_lt (by have := HCS.out; omega)]
  have x2 : (cs.setIfInBounds (o + 1) (.slice (some ⟨k, 0, none⟩) sz sz))[o + 2]? = some (.int .i64 0) := by rw [Array.getElem?_setIfInBounds_ne (by omega)]; exact HC.out.2.2.1
  have x3 : (cs.setIfInBounds (o + 1) (.slice (some ⟨k, 0, none⟩) sz sz))[o + 3]? = some (.int .i64 0) := by rw [Array.getElem?_setIfInBounds_ne (by omega)]; exact HC.out.2.2.2
  have HX := Lib.hid (And.intro x0 (And.intro x1 (And.intro x2 x3)))
  have c0 := (blk_cell G3.out o).trans x0
  have c1 := (blk_cell G3.out (o + 1)).trans x1
  have c2 := (blk_cell G3.out (o + 2)).trans x2
  have c3 := (blk_cell G3.out (o + 3)).trans x3
  clear x0 x1 x2 x3
  refine wp_region_quiet_tail [0, 1, 2, 3, 4, 5, 6, 7, 8, 9, 10, 11, 12, 13, 14, 15, 16, 17, 18, 19] 20 [] [_, _, _, _, _, _, _, _, _, _, _, _, _, _, _, _, _, _, _, _] [_] (by kernel_rfl) rfl rfl rfl (by kernel_rfl) ?_
  (try simp only [List.getElem_toArray]); (try simp only [List.getElem_cons_succ]); (try simp only [List.getElem_cons_zero])
  have q0 := cell_regrown c0
  have q1 := cell_regrown c1
  have q2 := cell_regrown c2
  have q3 := cell_regrown c3
  repeat (go_big_quiet_step (fail))
  refine wpQuiet_nil ?_
  intro _ hw'
  obtain ⟨⟨dq, osq⟩, hw''⟩ := hw'
  subst hw''
  have D := below_regrown V3 dq osq
  clear q0 q1 q2 q3 c0 c1 c2 c3
  dsimp only
  have G4 := Lib.hid ((D.block g (blk_lt G3.out)).trans G3.out)
  have S4 := Lib.hid (S3.out.below D)
  have E4 := Lib.hid (gtrans g3.out (below_grown D (some g)))
  clear D G3 S3 g3
  generalize grow (redrawn V3 dq) osq = V4 at G4 S4 E4 ⊢
  have f0 := S4.out.frozenAt 0
  have f1 := S4.out.cellAt 0 (by rw [List.length_replicate]; omega)
  go_upto_region 6 with fail
  have S5 := Lib.hid (S4.out.store 0 (xa, xn, xc))
  have G5 := Lib.hid (blk_other (i := 0) G4.out HK.out (sv (xa, xn, xc)))
  have E5 := Lib.hid (show w.grownBy (V4.setCell ⟨k, 0, none⟩ (sv (xa, xn, xc))) (some g) from ⟨E4.out.os, E4.out.tape, E4.out.output, Nat.le_trans E4.out.size (gset V4 k 0 (sv (xa, xn, xc))).size, fun b hb hne => ((gset V4 k 0 (sv (xa, xn, xc))).block b (Nat.lt_of_lt_of_le hb E4.out.size) (fun e => by have := Option.some.inj e; have := HN.out; omega)).trans (E4.out.block b hb hne)⟩)
  clear f0 f1 S4 G4 E4
  change Code.wp _ _ _ _ (V4.setCell ⟨k, 0, none⟩ (sv (xa, xn, xc)))
  generalize V4.setCell ⟨k, 0, none⟩ (sv (xa, xn, xc)) = V5 at S5 G5 E5 ⊢
  have c3 := (blk_cell G5.out (o + 3)).trans HX.out.2.2.2
  have f3 := blk_free G5.out (o + 3)
  go_upto_region 7 with fail
  have G6 := Lib.hid (blk_set G5.out (o + 3) (.int .i64 1))
  have S6 := Lib.hid (S5.out.grown (gset V5 g (o + 3) (.int .i64 1)) HK.out)
  have E6 := Lib.hid (gtrans E5.out (gset V5 g (o + 3) (.int .i64 1)))
  clear c3 f3 S5 G5 E5
  generalize V5.setCell ⟨g, o + 3, none⟩ (.int .i64 1) = V6 at G6 S6 E6 ⊢
  go_wp2
  go_ret
  exact ⟨rfl, ⟨k, HN.out, G6.out, S6.out.mono HN.out⟩, E6.out⟩

set_option maxRecDepth 100000 in
set_option maxHeartbeats 2000000 in
theorem take_none (g o : Nat) (cs : Array Value) (t : TypeId) (w : World) (hg : w.heap[g]? = some (.cells cs t (0, 0))) (h3 : cs[o + 3]? = some (.int .i64 0)) :
    Calls Try.prog 36 #[.pointer (some ⟨g, o, none⟩)] w fun e w' => e = .returned (.tuple #[.slice none 0 0, .bool false]) ∧ Below w.heap.size w w' := by
  have c3 := (blk_cell hg (o + 3)).trans h3
  have Q := Lib.hid (Below.refl w.heap.size w)
  clear hg h3
  go_enter Try.func36, Try.ntmps36
  go_wp2
  go_ret2
  exact ⟨rfl, Q.out⟩

set_option maxRecDepth 100000 in
set_option maxHeartbeats 4000000 in
theorem take_some (g o sz f n k sc i B : Nat) (cs : Array Value) (t : TypeId) (sl : List V3) (w : World) (hg : w.heap[g]? = some (.cells cs t (0, 0))) (h0 : cs[o]? = some (.int .i64 (sz : Nat))) (h1 : cs[o + 1]? = some (.slice (some ⟨k, 0, none⟩) sz sc)) (h2 : cs[o + 2]? = some (.int .i64 (f : Nat))) (h3 : cs[o + 3]? = some (.int .i64 (n : Nat))) (hS : Slots B k sl sc w) (hl : sl.length = sz) (hn0 : 0 < n) (hn : n ≤ sz) (hf : f < sz) (hz : sz ≤ 4096) (hgk : k ≠ g) (hi : (f + 1) % sz = i) :
    Calls Try.prog 36 #[.pointer (some ⟨g, o, none⟩)] w fun e w' => e = .returned (.tuple #[sv (sl.getD f sv0), .bool true]) ∧ w'.heap[g]? = some (.cells ((cs.setIfInBounds (o + 2) (.int .i64 (i : Nat))).setIfInBounds (o + 3) (.int .i64 ((n : Int) - 1))) t (0, 0)) ∧ Slots B k (sl.set f sv0) sc w' ∧ ∃ wm, w.grownBy wm (some k) ∧ wm.grownBy w' (some g) := by
  have c0 := (blk_cell hg o).trans h0
  have c1 := (blk_cell hg (o + 1)).trans h1
  have c2 := (blk_cell hg (o + 2)).trans h2
  have c3 := (blk_cell hg (o + 3)).trans h3
  have e1 : ((n : Int) == 0) = false := by rw [beq_eq_false_iff_ne]; omega
  have W1 : IntKind.i64.wrap ((f : Int) + 1) = (f : Int) + 1 := IntWalk.i64_in _ ⟨by omega, by omega⟩
  have W2 : IntKind.i64.wrap (((f : Int) + 1).tmod (sz : Int)) = (i : Int) := by have := tmod_at f 1 sz i (by omega) hi hz; simpa using this
  have e5 : ((f : Int) + 1) % (sz : Int) = (i : Int) := by rw [← hi]; push_cast; rfl
  have i2 : (f : Int) < (sz : Int) := by omega
  have W3 : IntKind.i64.wrap ((n : Int) - 1) = (n : Int) - 1 := IntWalk.i64_in _ ⟨by omega, by omega⟩
  have fz : ¬ (sz : Int) = 0 := by omega
  have fzb : ((sz : Int) == 0) = false := by rw [beq_eq_false_iff_ne]; omega
  have v0 := hS.cellAt f (by rw [hl]; exact hf)
  obtain ⟨x, hx⟩ : ∃ x, sl.getD f sv0 = x := ⟨_, rfl⟩
  rw [hx] at v0 ⊢
  obtain ⟨xa, xn, xc⟩ := x
  have v1 : w.cell? ⟨k, f, none⟩ = some (.slice xa xn xc) := v0
  have HF := Lib.hid hf
  have HG := Lib.hid hg
  have HS := Lib.hid hS
  have HL := Lib.hid hl
  have HK := Lib.hid hgk
  have HV := Lib.hid v1
  have HC := Lib.hid (And.intro h0 (And.intro h1 (And.intro h2 h3)))
  clear h0 h1 h2 h3 hi hn hf hg hS hl hx v0 hn0
  go_enter Try.func36, Try.ntmps36
  go_upto_region 4 with fail
  go_quiet (fail)
  have D := below_drewN (Below.refl w.heap.size w) nq
  have G1 := Lib.hid ((D.block g (blk_lt HG.out)).trans HG.out)
  have S1 := Lib.hid (HS.out.below D)
  have E1 := Lib.hid D
  clear D HG HS c0 c1 c2 c3 v1 HV
  generalize w.drewN nq = V1 at G1 S1 E1 ⊢
  have c0 := (blk_cell G1.out o).trans HC.out.1
  have c1 := (blk_cell G1.out (o + 1)).trans HC.out.2.1
  have c2 := (blk_cell G1.out (o + 2)).trans HC.out.2.2.1
  have c3 := (blk_cell G1.out (o + 3)).trans HC.out.2.2.2
  go_upto_region 5 with fail
  refine wp_region_quiet_tail [0, 1, 2, 3, 4, 5, 6, 7, 8, 9] 10 [] [_, _, _, _, _, _, _, _, _, _] [_] (by kernel_rfl) rfl rfl rfl (by kernel_rfl) ?_
  (try simp only [List.getElem_toArray]); (try simp only [List.getElem_cons_succ]); (try simp only [List.getElem_cons_zero])
  have q0 := cell_regrown c0
  have q1 := cell_regrown c1
  have q2 := cell_regrown c2
  have q3 := cell_regrown c3
  repeat (go_big_quiet_step (fail))
  refine wpQuiet_nil ?_
  intro _ hw'
  obtain ⟨⟨dq, osq⟩, hw''⟩ := hw'
  subst hw''
  have D := below_regrown V1 dq osq
  clear q0 q1 q2 q3 c0 c1 c2 c3
  dsimp only
  have G2 := Lib.hid ((D.block g (blk_lt G1.out)).trans G1.out)
  have S2 := Lib.hid (S1.out.below D)
  have E2 := Lib.hid (E1.out.trans (D.mono E1.out.size))
  clear D G1 S1 E1
  generalize grow (redrawn V1 dq) osq = V2 at G2 S2 E2 ⊢
  have f0 := S2.out.frozenAt f
  have f1 := S2.out.cellAt f (by rw [HL.out]; exact HF.out)
  go_upto_region 6 with fail
  have S3 := Lib.hid (S2.out.store f sv0)
  have g3 := Lib.hid (gtrans (below_grown E2.out (some k)) (gset V2 k f (sv sv0)))
  have G3 := Lib.hid (blk_other (i := f) G2.out HK.out (sv sv0))
  clear f0 f1 S2 G2 E2
  change Code.wp _ _ _ _ (V2.setCell ⟨k, f, none⟩ (sv sv0))
  generalize V2.setCell ⟨k, f, none⟩ (sv sv0) = V3 at S3 g3 G3 ⊢
  have c0 := (blk_cell G3.out o).trans HC.out.1
  have c1 := (blk_cell G3.out (o + 1)).trans HC.out.2.1
  have c2 := (blk_cell G3.out (o + 2)).trans HC.out.2.2.1
  have c3 := (blk_cell G3.out (o + 3)).trans HC.out.2.2.2
  refine wp_region_quiet_tail [0, 1, 2, 3, 4, 5, 6, 7, 8, 9, 10, 11, 12] 13 [] [_, _, _, _, _, _, _, _, _, _, _, _, _] [_] (by kernel_rfl) rfl rfl rfl (by kernel_rfl) ?_
  (try simp only [List.getElem_toArray]); (try simp only [List.getElem_cons_succ]); (try simp only [List.getElem_cons_zero])
  have q0 := cell_regrown c0
  have q1 := cell_regrown c1
  have q2 := cell_regrown c2
  have q3 := cell_regrown c3
  repeat (go_big_quiet_step (fail))
  refine wpQuiet_nil ?_
  intro _ hw'
  obtain ⟨⟨dq, osq⟩, hw''⟩ := hw'
  subst hw''
  have D := below_regrown V3 dq osq
  clear q0 q1 q2 q3 c0 c1 c2 c3
  dsimp only
  have G4 := Lib.hid ((D.block g (blk_lt G3.out)).trans G3.out)
  have S4 := Lib.hid (S3.out.below D)
  have g4 := Lib.hid (gtrans g3.out (below_grown D (some k)))
  clear D G3 S3 g3
  generalize grow (redrawn V3 dq) osq = V4 at G4 S4 g4 ⊢
  have c2 := (blk_cell G4.out (o + 2)).trans HC.out.2.2.1
  have f2 := blk_free G4.out (o + 2)
  go_upto_region 7 with fail
  have G5 := Lib.hid (blk_set G4.out (o + 2) (.int .i64 (i : Nat)))
  have S5 := Lib.hid (S4.out.grown (gset V4 g (o + 2) (.int .i64 (i : Nat))) HK.out)
  have E5 := Lib.hid (gset V4 g (o + 2) (.int .i64 (i : Nat)))
  trace_state
  clear c2 f2 S4 G4
  change Code.wp _ _ _ _ (V4.setCell ⟨g, o + 2, none⟩ (.int .i64 (i : Nat)))
  generalize V4.setCell ⟨g, o + 2, none⟩ (.int .i64 (i : Nat)) = V5 at S5 G5 E5 ⊢
  have c3 : V5.cell? ⟨g, o + 3, none⟩ = some (.int .i64 (n : Nat)) := (blk_cell G5.out (o + 3)).trans (by rw [Array.getElem?_setIfInBounds_ne (by omega)]; exact HC.out.2.2.2)
  have f3 := blk_free G5.out (o + 3)
  go_upto_region 8 with fail
  have G6 := Lib.hid (blk_set G5.out (o + 3) (.int .i64 ((n : Int) - 1)))
  have S6 := Lib.hid (S5.out.grown (gset V5 g (o + 3) (.int .i64 ((n : Int) - 1))) HK.out)
  have E6 := Lib.hid (gtrans E5.out (gset V5 g (o + 3) (.int .i64 ((n : Int) - 1))))
  clear c3 f3 S5 G5 E5
  generalize V5.setCell ⟨g, o + 3, none⟩ (.int .i64 ((n : Int) - 1)) = V6 at G6 S6 E6 ⊢
  go_wp2
  go_ret2
  exact ⟨rfl, G6.out, S6.out, _, g4.out, E6.out⟩
end Go.Proofs.Ytokfadlgiimaoaa
