/- tcpwire.set of an option with blocks. -/
import Derived.Test.YtgmgoilleakdcaaTcpBk
import Derived.Test.YtgmgoilleakdcaaGSameBlocks
import Derived.Test.YtgmgoilleakdcaaGFen
namespace Go.Proofs.Ytgmgoilleakdcaa
open Go.RowKit Go.Shelf

attribute [local go_sem] Oper.semAt_some

/-- A block known whole speaks of cells alone. -/
theorem blockAt_own {β : Type} (B : Nat) (t : TypeId) (f : β → Array Value) : Own (fun s W => W.heap[B]? = some (.cells (f s) t (0, 0))) := fun s X Y row hs hg hrow =>
  (hg.block B (Array.getElem?_eq_some_iff.1 hs).1 (fun e' => by obtain ⟨o, ho, hc⟩ := hrow B e'.symm; rw [hs] at ho; cases ho; cases hc)).trans hs

/-- Between two rounds: the blocks so far lie in the segment's list. -/
def SkI (W0 : World) (gs bp bb : Nat) (cs : Array Value) (a : Option Addr) (len c : Nat) (pre : List TB) (W : World) : Prop :=
  (∃ v, TcpAt W gs (cs.setIfInBounds 11 v) ∧ W.ownsRow W0.heap.size 68 2 v pre.length (blkCells (pre.map (·.1)))) ∧ Boxed W bp 62 (.pointer (some ⟨gs, 0, none⟩)) ∧ Boxed W bb 25 (.slice a len c) ∧ W0.grownBy W (some gs)

theorem ownFrom_row {β : Type} (B base size : Nat) (t : TypeId) (gs : Nat) (T : TypeId) (f : β → Value → Array Value) (k : β → Nat) (xs : β → List Value) : OwnFrom B (fun s W => ∃ v, W.heap[gs]? = some (.cells (f s v) T (0, 0)) ∧ W.ownsRow base t size v (k s) (xs s)) := by
  rintro s X Y row ⟨v, hv, hr⟩ hg hrow
  refine ⟨v, (hg.block gs (Array.getElem?_eq_some_iff.1 hv).1 (fun e' => by obtain ⟨_, o, ho, hc⟩ := hrow gs e'.symm; rw [hv] at ho; cases ho; cases hc)).trans hv, hr.kept hg ?_⟩
  rcases hr.2 with ⟨rfl, _⟩ | ⟨g, cap, cur, rfl, _, hgb, _⟩
  · exact .inl rfl
  · refine .inr fun e' => ?_
    obtain ⟨_, o, ho, hc⟩ := hrow g (by simpa [Value.ownBlock] using e'.symm)
    rw [hgb] at ho; cases ho; cases hc

theorem ownFrom_grown {β : Type} {B : Nat} {W0 : World} {row : Option Nat} (hB : W0.heap.size ≤ B) : OwnFrom B (fun (_ : β) W => W0.grownBy W row) :=
  fun _ X Y r hs hg hr => ⟨hg.os.trans hs.os, hg.tape.trans hs.tape, hg.output.trans hs.output, Nat.le_trans hs.size hg.size, fun k hk hne =>
    (hg.block k (Nat.lt_of_lt_of_le hk hs.size) (fun e => by have := (hr k e.symm).1; omega)).trans (hs.block k hk hne)⟩

theorem SkI.own (W0 : World) (gs bp bb : Nat) (cs : Array Value) (a : Option Addr) (len c B : Nat) (hB : W0.heap.size ≤ B) : OwnFrom B (SkI W0 gs bp bb cs a len c) :=
  OwnFrom.and (ownFrom_row B _ 2 _ gs _ (fun _ v => cs.setIfInBounds 11 v) (fun (pre : List TB) => pre.length) (fun (pre : List TB) => blkCells (pre.map (·.1)))) (OwnFrom.and (Own.from (boxed_own _ _ _) _) (OwnFrom.and (Own.from (boxed_own _ _ _) _) (ownFrom_grown hB)))

theorem tcp_not_row {W : World} {gs base size k : Nat} {cs : Array Value} {v : Value} {xs : List Value} (h : TcpAt W gs cs) (hr : W.ownsRow base 68 size v k xs) : some gs ≠ v.ownBlock := by
  rcases hr.2 with ⟨rfl, _⟩ | ⟨g, cap, cur, rfl, _, hgb, _⟩
  · simp [Value.ownBlock]
  · intro e'
    obtain rfl : gs = g := by simpa [Value.ownBlock] using e'
    have := h.symm.trans hgb
    simp at this

/-- The block of the round lies in a block of its own; F: the frame. -/
def SkA (H : Nat) (F : Nat → TB → Act) (x : TB) (a' : Act) (W : World) : Prop :=
  ∃ Bx, H ≤ Bx ∧ W.heap[Bx]? = some (.cells #[.int .u32 (x.1.1 : Nat), .int .u32 (x.1.2 : Nat)] 68 (0, 0)) ∧ a' = F Bx x

theorem SkA.own (H : Nat) (F : Nat → TB → Act) (x : TB) (a' : Act) (B : Nat) : OwnFrom B (fun (_ : Unit) W => SkA H F x a' W) := by
  rintro s X Y row ⟨Bx, h1, h2, h3⟩ hg hr
  exact ⟨Bx, h1, (blockAt_own (β := Unit) Bx _ (fun _ => _)).from B () X Y row h2 hg hr, h3⟩

set_option maxRecDepth 100000 in
set_option maxHeartbeats 4000000 in
theorem set_sacks (n₀ gs n : Nat) (cs : Array Value) (a : Option Addr) (ys : List Nat) (c : Nat) (W : World) (hg : TcpAt W gs cs) (hs : cs.size = 16) (h11 : cs[11]? = some (.slice none 0 0)) (hx : ∀ W', Below n₀ W W' → Bts W' a ys) (hl : ys.length = 8 * n) (hn4 : n ≤ 4) (hc : ys.length ≤ c) (hgs : n₀ ≤ gs) :
    Calls Try.prog 33 #[.pointer (some ⟨gs, 0, none⟩), .int .u8 5, .slice a ys.length c] W fun e w' => e = .returned (.tuple #[]) ∧ ∃ v, TcpAt w' gs (cs.setIfInBounds 11 v) ∧ w'.ownsRow W.heap.size 68 2 v n (blkCells ((tbL ys n).map (·.1))) ∧ W.grownBy w' (some gs) := by
  have hlt : gs < W.heap.size := (Array.getElem?_eq_some_iff.1 hg).1
  obtain ⟨V, hV⟩ : ∃ V, (W.alloc (.cells #[.pointer (some ⟨gs, 0, none⟩)] 62)).alloc (.cells #[.slice a ys.length c] 25) = V := ⟨_, rfl⟩
  have hVs : V.heap.size = W.heap.size + 1 + 1 := by rw [← hV, World.size_alloc, World.size_alloc]
  have hcs : cs.setIfInBounds 11 (.slice none 0 0) = cs := by
    apply Array.ext
    · simp
    · intro i h1 h2
      rw [Array.getElem_setIfInBounds]
      · split
        · rename_i h; subst h; rw [Array.getElem?_eq_getElem (by omega)] at h11; exact (Option.some.inj h11).symm
        · rfl
  have hI0 : SkI W gs W.heap.size (W.heap.size + 1) cs a ys.length c [] V := by
    refine ⟨⟨.slice none 0 0, ?_, World.ownsRow_nil _ _ _ _⟩, ?_, ?_, ?_⟩
    · rw [hcs, ← hV]
      exact (Below.heap_alloc _ _ gs (by rw [World.size_alloc]; omega)).trans ((Below.heap_alloc W _ gs hlt).trans hg)
    · rw [← hV]; exact (Boxed.new W _ _).alloc _
    · rw [← hV]
      have h := Boxed.new (W.alloc (.cells #[.pointer (some ⟨gs, 0, none⟩)] 62)) 25 (.slice a ys.length c)
      rw [World.size_alloc] at h
      exact h
    · rw [← hV]; exact (World.grownBy_alloc W _ _).trans (World.grownBy_alloc _ _ _)
  have hxV : ∀ W', Below n₀ V W' → Bts W' a ys := fun W' h => hx W' (by
    rw [← hV] at h
    exact (((Below.refl n₀ W).alloc (by omega) _).alloc (by rw [World.size_alloc]; omega) _).trans h)
  have HL := Lib.hid hl
  have HX := Lib.hid hxV
  clear hl hx hxV h11 hcs
  refine (callsIn_wide (n := 6)).1 ?_
  refine callsIn_of_wp_marks Try.func33 rfl trivial ?_ rfl
  simp only [Try.ntmps33, List.size_toArray, List.length_cons, List.length_nil, Nat.reduceAdd, Nat.reduceSub, Array.replicate_succ, Array.replicate_zero, List.push_toArray, List.append_toArray, List.nil_append, List.cons_append]
  gi_wp2_with (refine ⟨trivial, ?_⟩; gi_at_call 44; refine (blocks_any _ _ _ _ _).mono ?_; rintro e w' ⟨rfl, rfl⟩)
  have hbb := hI0.2.2.1.cell
  clear hV
  refine wpIn_rangeFunc_ownH rfl (by omega) (gf := 51) (lb := #[.pointer (some ⟨W.heap.size + 1, 0, none⟩)]) rfl trivial (enters_of Try.func51 (by kernel_rfl) rfl)
    (blocks_stops 5 (by omega) n₀ (W.heap.size + 1) n a ys c HL.out hn4 hc V (by omega) (by omega) hbb HX.out) (fun h k => KeepB.trans h k) (KeepB.put (w := V) (by omega) (by omega)) (Below.refl _ _) (fun _ => rfl)
    (SkI W gs W.heap.size (W.heap.size + 1) cs a ys.length c) (fun _ _ _ => False)
    (SkI.own W gs W.heap.size (W.heap.size + 1) cs a ys.length c V.heap.size (by omega)) (fun _ _ _ _ _ hs _ _ => hs) hI0
    (SkA V.heap.size (fun Bx x => { tmps := #[.pointer (some ⟨gs, 0, none⟩), .int .u8 5, .slice a ys.length c, .pointer (some ⟨W.heap.size, 0, none⟩), undef, undef, .pointer (some ⟨Bx, 0, none⟩), .int .u8 5, .bool false, .bool false, undef, undef, undef, undef, undef, undef, .bool false, .bool false, undef, undef, undef, undef, undef, undef, undef, undef, undef, undef, .bool false, .bool false, undef, undef, undef, .bool false, .bool false, undef, undef, undef, undef, undef, undef, undef, undef, undef, undef, undef, undef, undef, undef, undef, undef, undef, .bool true, .bool true, .slice a ys.length c, .func (.func 51) #[] #[.pointer (some ⟨W.heap.size + 1, 0, none⟩)], .agg #[.int .u32 (x.1.1 : Nat), .int .u32 (x.1.2 : Nat)], undef, undef, undef, undef, undef, undef, undef, undef, undef, undef], defers := [] })) (fun x a' => SkA.own _ _ x a' _) ?assign ?body ?done ?stop
  case assign =>
    intro l pre x X K hi hK
    have hXs : V.heap.size ≤ X.heap.size := by have := hi.2.2.1.lt; omega
    gi_wp2
    refine hK _ _ ((KeepsOthers.alloc _ _).from _) ⟨Below.heap_alloc _ _ _ (by omega), (Below.refl n₀ X).alloc (by omega) _⟩ (SkI.own W gs W.heap.size (W.heap.size + 1) cs a ys.length c X.heap.size (by omega) _ _ _ none hi (World.grownBy_alloc _ _ _) (fun r e => by cases e)) ⟨X.heap.size, hXs, ?_, rfl⟩
    exact blk_new _ _
  case body =>
    rintro l pre x a' X hl ⟨r, hr⟩ hi ⟨Bx, hBx, hbx, rfl⟩ hlt
    obtain ⟨⟨v, hv, hrow⟩, hp, hq, hgr⟩ := hi
    have hXs : V.heap.size ≤ X.heap.size := by have := hq.lt; omega
    have hBl : Bx < X.heap.size := (Array.getElem?_eq_some_iff.1 hbx).1
    have hpl := hp.lt
    have g11 := (blk_cell hv 11).trans (Array.getElem?_setIfInBounds_self_of_lt (by omega))
    have f11 := blk_free hv 11
    have gp := hp.cell
    have x0 := blk_cell hbx 0
    have x1 := blk_cell hbx 1
    have n0 : pre.length ≤ 4 := by omega
    obtain ⟨lx, hlx⟩ : ∃ lx, x.1.1 = lx := ⟨_, rfl⟩
    obtain ⟨rx, hrx⟩ : ∃ rx, x.1.2 = rx := ⟨_, rfl⟩
    have hbc : blkCells ((pre ++ [x]).map (·.1)) = blkCells (pre.map (·.1)) ++ [.int .u32 (lx : Nat), .int .u32 (rx : Nat)] := by
      rw [← hlx, ← hrx]; simp [blkCells]
    dsimp only
    rw [hlx, hrx] at hbx x0 x1 ⊢
    obtain ⟨i0, hi0, hz0, hz1, hz2⟩ := info_parts info84
    obtain ⟨v', w1, hrun, hown, hgrow, _⟩ := run_append_own (P := Try.prog) (w := (X.alloc (.cells #[.int .u32 (lx : Nat), .int .u32 (rx : Nat)] 68)).drew) W.heap.size 24 24 68 i0 (.agg #[.int .u32 0, .int .u32 0]) 2 8 Try.underlying24 hi0 hz0 hz1 hz2 rfl (by decide) v pre.length (blkCells (pre.map (·.1))) ((hrow.alloc _).drew) ⟨X.heap.size, 0, none⟩ 1 1 [.int .u32 (lx : Nat), .int .u32 (rx : Nat)] rfl
      (fun jj u hj => by
        have hnew := blk_new X (.cells #[.int .u32 (lx : Nat), .int .u32 (rx : Nat)] 68)
        rw [Go.WideShapes.add_plain, Nat.zero_add]
        refine (blk_cell (W := (X.alloc _).drew) (g := X.heap.size) hnew jj).trans ?_
        rw [← hj]; simp)
      (by intro u hu; simp at hu; rcases hu with rfl | rfl <;> rfl) (by unfold maxLen; omega) (by omega) (by show W.heap.size ≤ (X.alloc _).heap.size; rw [World.size_alloc]; omega)
    obtain ⟨g', cap', rfl⟩ := ownsRow_succ hown
    have hne : some gs ≠ v.ownBlock := tcp_not_row hv hrow
    have hvB : ∀ k, v.ownBlock = some k → W.heap.size ≤ k := by
      intro k e
      rcases hrow.2 with ⟨rfl, _⟩ | ⟨g, cap, cur, rfl, hB, _⟩
      · cases e
      · cases e; exact hB
    have hnp : some W.heap.size ≠ v.ownBlock := hp.not_row (by decide) hrow
    have hnq : some (W.heap.size + 1) ≠ v.ownBlock := hq.not_row (by decide) hrow
    have hv1 : TcpAt w1 gs (cs.setIfInBounds 11 v) := (hgrow.block gs (by show gs < (X.alloc _).heap.size; rw [World.size_alloc]; omega) hne).trans ((Below.heap_alloc X _ gs (by omega)).trans hv)
    have hp1 := Boxed.kept (W := (X.alloc (.cells #[.int .u32 (lx : Nat), .int .u32 (rx : Nat)] 68)).drew) (W' := w1) (hp.alloc _) hgrow hnp
    have hq1 := Boxed.kept (W := (X.alloc (.cells #[.int .u32 (lx : Nat), .int .u32 (rx : Nat)] 68)).drew) (W' := w1) (hq.alloc _) hgrow hnq
    have hmx : Try.prog.follows .mixedOrders = true := by kernel_rfl
    have hb0 : KeepB n₀ (W.heap.size + 1) X (w1.setCell ⟨gs, 11, none⟩ (.slice (some ⟨g', 0, none⟩) (pre.length + 1) cap')) := by
      refine ⟨(Below.heap_setCell _ _ _ _ (show W.heap.size + 1 ≠ gs by omega)).trans (hq1.trans hq.symm), ?_⟩
      refine Below.setCell ?_ hgs _
      refine (((Below.refl n₀ X).alloc (by omega) _).drew.grown hgrow (by show n₀ ≤ (X.alloc _).heap.size; rw [World.size_alloc]; omega) (fun k e => by have := hvB k e; omega))
    have hgw : X.grownBy w1 v.ownBlock := ((World.grownBy_alloc X _ _).trans (grown_drew _ _)).trans hgrow
    have hgx : W.grownBy (w1.setCell ⟨gs, 11, none⟩ (.slice (some ⟨g', 0, none⟩) (pre.length + 1) cap')) (some gs) :=
      ⟨hgw.os.trans hgr.os, hgw.tape.trans hgr.tape, hgw.output.trans hgr.output, Nat.le_trans hgr.size (Nat.le_trans hgw.size (grown_set w1 gs 11 (.slice (some ⟨g', 0, none⟩) (pre.length + 1) cap')).size), fun k hk hke =>
        ((grown_set w1 gs 11 (.slice (some ⟨g', 0, none⟩) (pre.length + 1) cap')).block k (Nat.lt_of_lt_of_le hk (Nat.le_trans hgr.size hgw.size)) hke).trans ((hgw.block k (Nat.lt_of_lt_of_le hk hgr.size) (fun e => by have := hvB k e.symm; omega)).trans (hgr.block k hk hke))⟩
    have hkf : KeepsFrom V.heap.size X (w1.setCell ⟨gs, 11, none⟩ (.slice (some ⟨g', 0, none⟩) (pre.length + 1) cap')) := by
      refine ((KeepsOthers.of_grownBy hgw fun j o ej hj => ?_).trans (KeepsOthers.setCell _ _ _)).from _
      rcases hrow.2 with ⟨rfl, _⟩ | ⟨g, cap, cur, rfl, hB, hgb, _⟩
      · cases ej
      · obtain rfl : g = j := by simpa [Value.ownBlock] using ej
        rw [hgb] at hj; cases hj; rfl
    have hfin : ownPostG V.heap.size (KeepB n₀ (W.heap.size + 1)) (SkI W gs W.heap.size (W.heap.size + 1) cs a ys.length c) (fun _ _ _ => False) (pre ++ [x]) X .normal { tmps := #[], defers := [] } (w1.setCell ⟨gs, 11, none⟩ (.slice (some ⟨g', 0, none⟩) (pre.length + 1) cap')) := by
      refine ⟨hkf, hb0, ⟨_, (by have h := blk_set hv1 11 (.slice (some ⟨g', 0, none⟩) (pre.length + 1) cap'); rw [Array.setIfInBounds_setIfInBounds] at h; exact h), ?_⟩, (Below.heap_setCell _ _ _ _ (show W.heap.size ≠ gs by omega)).trans hp1, (Below.heap_setCell _ _ _ _ (show W.heap.size + 1 ≠ gs by omega)).trans hq1, hgx⟩
      rw [hbc, List.length_append]
      exact hown.kept (grown_set w1 gs 11 _) (.inr (tcp_not_row hv1 hown).symm)
    have hc1 := (blk_cell hv1 11).trans (Array.getElem?_setIfInBounds_self_of_lt (by omega))
    have hf1 := blk_free hv1 11
    have hpc := hp1.cell
    have gpa : (X.alloc (.cells #[.int .u32 (lx : Nat), .int .u32 (rx : Nat)] 68)).drew.cell? ⟨W.heap.size, 0, none⟩ = some (.pointer (some ⟨gs, 0, none⟩)) := (World.cell?_of_block (w := X) (Below.heap_alloc X _ W.heap.size hpl)).trans gp
    have HRUN := Lib.hid hrun
    have gpz := (set_ne2 (W := w1) (i := 11) (v := .slice (some ⟨g', 0, none⟩) (pre.length + 1) cap') (show W.heap.size ≠ gs by omega)).trans hpc
    have ne1 : gs ≠ X.heap.size := by omega
    have lt1 : gs < X.heap.size := by omega
    have ne2 : Bx ≠ X.heap.size := by omega
    have ne3 : W.heap.size ≠ X.heap.size := by omega
    have HF := Lib.hid hfin
    clear hrun hfin hkf hgx hgw hb0 hv1 hp1 hq1 hown hgrow hne hnp hnq hbc hrow hv hp hq hgr hbx hr HX HL hbb hI0
    gi_wp2_with (fail)
    refine wpIn_region_calm (S := fun W' => W'.cell? ⟨W.heap.size, 0, none⟩ = some (.pointer (some ⟨gs, 0, none⟩))) hmx ?calm ?lo gp (fun hHeld => ?_)
    case calm =>
      intro o ho
      simp only [List.mem_cons, List.not_mem_nil, or_false] at ho
      rcases ho with rfl | rfl | rfl | rfl | rfl | rfl | rfl | rfl | rfl | rfl | rfl
      all_goals first | exact calm_load | exact calm_nilCheck | exact calm_fieldAddr | exact calm_buildSlice | exact calm_append | exact calm_store
    case lo =>
      rintro ⟨a, w, h⟩
      exact h
    refine wpAnyH_take (i := 0) (oi := _) (v := ?_) rfl (by kernel_rfl) (by kernel_rfl) (by kernel_rfl) (fun _ _ _ h => h) (Or.inl ⟨by rfl, ?_⟩) (by assumption) ?_
    rotate_left
    · intro w hSw
      try dsimp only at hSw
      go_simp
      all_goals with_reducible rfl
    (try simp only [List.getElem_toArray]); (try simp only [List.getElem_cons_succ]); (try simp only [List.getElem_cons_zero]); try simp only [Act.put, List.setIfInBounds_toArray, List.set_cons_zero, List.set_cons_succ]
    refine wpAnyH_take (i := 1) (oi := _) (v := ?_) rfl (by kernel_rfl) (by kernel_rfl) (by kernel_rfl) (fun _ _ _ h => h) (Or.inl ⟨by rfl, ?_⟩) (by assumption) ?_
    rotate_left
    · intro w hSw
      try dsimp only at hSw
      go_simp
      all_goals with_reducible rfl
    (try simp only [List.getElem_toArray]); (try simp only [List.getElem_cons_succ]); (try simp only [List.getElem_cons_zero]); try simp only [Act.put, List.setIfInBounds_toArray, List.set_cons_zero, List.set_cons_succ]
    refine wpAnyH_take (i := 2) (oi := _) (v := ?_) rfl (by kernel_rfl) (by kernel_rfl) (by kernel_rfl) (fun _ _ _ h => h) (Or.inl ⟨by rfl, ?_⟩) (by assumption) ?_
    rotate_left
    · intro w hSw
      try dsimp only at hSw
      go_simp
      all_goals with_reducible rfl
    (try simp only [List.getElem_toArray]); (try simp only [List.getElem_cons_succ]); (try simp only [List.getElem_cons_zero]); try simp only [Act.put, List.setIfInBounds_toArray, List.set_cons_zero, List.set_cons_succ]
    refine wpAnyH_take (i := 3) (oi := _) (v := ?_) rfl (by kernel_rfl) (by kernel_rfl) (by kernel_rfl) (fun _ _ _ h => h) (Or.inl ⟨by rfl, ?_⟩) (by assumption) ?_
    rotate_left
    · intro w hSw
      try dsimp only at hSw
      go_simp
      all_goals with_reducible rfl
    (try simp only [List.getElem_toArray]); (try simp only [List.getElem_cons_succ]); (try simp only [List.getElem_cons_zero]); try simp only [Act.put, List.setIfInBounds_toArray, List.set_cons_zero, List.set_cons_succ]
    refine wpAnyH_ready (rs := [4, 5]) (by kernel_rfl) (by simp) ?_
    refine (AllReadyH.cons (o := _) rfl (fun K hK => ?_) (AllReadyH.cons (o := _) rfl (fun K hK => ?_) AllReadyH.nil))
    · (try simp only [List.getElem_toArray]); (try simp only [List.getElem_cons_succ]); (try simp only [List.getElem_cons_zero])
      go_simp
      refine hK.out _ _ ?_ (fun hHeld => ?_)
      · first | exact gp | exact gpa | exact hpc | exact gpz
      clear hK K
      (try simp only [List.getElem_toArray]); (try simp only [List.getElem_cons_succ]); (try simp only [List.getElem_cons_zero]); try simp only [Act.put, List.setIfInBounds_toArray, List.set_cons_zero, List.set_cons_succ]
      refine wpAnyH_ready (rs := [5]) (by kernel_rfl) (by simp) ?_
      refine (AllReadyH.cons (o := _) rfl (fun K hK => ?_) AllReadyH.nil)
      · (try simp only [List.getElem_toArray]); (try simp only [List.getElem_cons_succ]); (try simp only [List.getElem_cons_zero])
        go_simp
        refine hK.out _ _ ?_ (fun hHeld => ?_)
        · first | exact gp | exact gpa | exact hpc | exact gpz
        clear hK K
        (try simp only [List.getElem_toArray]); (try simp only [List.getElem_cons_succ]); (try simp only [List.getElem_cons_zero]); try simp only [Act.put, List.setIfInBounds_toArray, List.set_cons_zero, List.set_cons_succ]
        refine wpAnyH_ready (rs := [6]) (by kernel_rfl) (by simp) ?_
        refine (AllReadyH.cons (o := _) rfl (fun K hK => ?_) AllReadyH.nil)
        · (try simp only [List.getElem_toArray]); (try simp only [List.getElem_cons_succ]); (try simp only [List.getElem_cons_zero])
          go_simp
          refine hK.out _ _ ?_ (fun hHeld => ?_)
          · first | exact gp | exact gpa | exact hpc | exact gpz
          clear hK K
          (try simp only [List.getElem_toArray]); (try simp only [List.getElem_cons_succ]); (try simp only [List.getElem_cons_zero]); try simp only [Act.put, List.setIfInBounds_toArray, List.set_cons_zero, List.set_cons_succ]
          refine wpAnyH_ready (rs := [7]) (by kernel_rfl) (by simp) ?_
          refine (AllReadyH.cons (o := _) rfl (fun K hK => ?_) AllReadyH.nil)
          · refine step_append_run ?_ (.tmp 61) (.tmp 63) ?_ ?_ ?_ ?_ HRUN.out ?_
            · rfl
            · rfl
            · rfl
            · rfl
            · rfl
            refine hK.out _ _ ?_ (fun hHeld => ?_)
            · first | exact gp | exact gpa | exact hpc | exact gpz
            clear hK K
            (try simp only [List.getElem_toArray]); (try simp only [List.getElem_cons_succ]); (try simp only [List.getElem_cons_zero]); try simp only [Act.put, List.setIfInBounds_toArray, List.set_cons_zero, List.set_cons_succ]
            refine wpAnyH_take (i := 8) (oi := _) (v := ?_) rfl (by kernel_rfl) (by kernel_rfl) (by kernel_rfl) (fun _ _ _ h => h) (Or.inl ⟨by rfl, ?_⟩) (by assumption) ?_
            rotate_left
            · intro w hSw
              try dsimp only at hSw
              go_simp
              all_goals with_reducible rfl
            (try simp only [List.getElem_toArray]); (try simp only [List.getElem_cons_succ]); (try simp only [List.getElem_cons_zero]); try simp only [Act.put, List.setIfInBounds_toArray, List.set_cons_zero, List.set_cons_succ]
            refine wpAnyH_take (i := 9) (oi := _) (v := ?_) rfl (by kernel_rfl) (by kernel_rfl) (by kernel_rfl) (fun _ _ _ h => h) (Or.inl ⟨by rfl, ?_⟩) (by assumption) ?_
            rotate_left
            · intro w hSw
              try dsimp only at hSw
              go_simp
              all_goals with_reducible rfl
            (try simp only [List.getElem_toArray]); (try simp only [List.getElem_cons_succ]); (try simp only [List.getElem_cons_zero]); try simp only [Act.put, List.setIfInBounds_toArray, List.set_cons_zero, List.set_cons_succ]
            refine wpAnyH_ready (rs := [10]) (by kernel_rfl) (by simp) ?_
            refine (AllReadyH.cons (o := _) rfl (fun K hK => ?_) AllReadyH.nil)
            · (try simp only [List.getElem_toArray]); (try simp only [List.getElem_cons_succ]); (try simp only [List.getElem_cons_zero])
              go_simp
              refine hK.out _ _ ?_ (fun hHeld => ?_)
              · first | exact gp | exact gpa | exact hpc | exact gpz
              clear hK K
              (try simp only [List.getElem_toArray]); (try simp only [List.getElem_cons_succ]); (try simp only [List.getElem_cons_zero]); try simp only [Act.put, List.setIfInBounds_toArray, List.set_cons_zero, List.set_cons_succ]
              refine wpAnyH_done (by kernel_rfl) ?_ _
              exact HF.out
    · (try simp only [List.getElem_toArray]); (try simp only [List.getElem_cons_succ]); (try simp only [List.getElem_cons_zero])
      go_simp
      refine hK.out _ _ ?_ (fun hHeld => ?_)
      · first | exact gp | exact gpa | exact hpc | exact gpz
      clear hK K
      (try simp only [List.getElem_toArray]); (try simp only [List.getElem_cons_succ]); (try simp only [List.getElem_cons_zero]); try simp only [Act.put, List.setIfInBounds_toArray, List.set_cons_zero, List.set_cons_succ]
      refine wpAnyH_ready (rs := [4, 6]) (by kernel_rfl) (by simp) ?_
      refine (AllReadyH.cons (o := _) rfl (fun K hK => ?_) (AllReadyH.cons (o := _) rfl (fun K hK => ?_) AllReadyH.nil))
      · (try simp only [List.getElem_toArray]); (try simp only [List.getElem_cons_succ]); (try simp only [List.getElem_cons_zero])
        go_simp
        refine hK.out _ _ ?_ (fun hHeld => ?_)
        · first | exact gp | exact gpa | exact hpc | exact gpz
        clear hK K
        (try simp only [List.getElem_toArray]); (try simp only [List.getElem_cons_succ]); (try simp only [List.getElem_cons_zero]); try simp only [Act.put, List.setIfInBounds_toArray, List.set_cons_zero, List.set_cons_succ]
        refine wpAnyH_ready (rs := [6]) (by kernel_rfl) (by simp) ?_
        refine (AllReadyH.cons (o := _) rfl (fun K hK => ?_) AllReadyH.nil)
        · (try simp only [List.getElem_toArray]); (try simp only [List.getElem_cons_succ]); (try simp only [List.getElem_cons_zero])
          go_simp
          refine hK.out _ _ ?_ (fun hHeld => ?_)
          · first | exact gp | exact gpa | exact hpc | exact gpz
          clear hK K
          (try simp only [List.getElem_toArray]); (try simp only [List.getElem_cons_succ]); (try simp only [List.getElem_cons_zero]); try simp only [Act.put, List.setIfInBounds_toArray, List.set_cons_zero, List.set_cons_succ]
          refine wpAnyH_ready (rs := [7]) (by kernel_rfl) (by simp) ?_
          refine (AllReadyH.cons (o := _) rfl (fun K hK => ?_) AllReadyH.nil)
          · refine step_append_run ?_ (.tmp 61) (.tmp 63) ?_ ?_ ?_ ?_ HRUN.out ?_
            · rfl
            · rfl
            · rfl
            · rfl
            · rfl
            refine hK.out _ _ ?_ (fun hHeld => ?_)
            · first | exact gp | exact gpa | exact hpc | exact gpz
            clear hK K
            (try simp only [List.getElem_toArray]); (try simp only [List.getElem_cons_succ]); (try simp only [List.getElem_cons_zero]); try simp only [Act.put, List.setIfInBounds_toArray, List.set_cons_zero, List.set_cons_succ]
            refine wpAnyH_take (i := 8) (oi := _) (v := ?_) rfl (by kernel_rfl) (by kernel_rfl) (by kernel_rfl) (fun _ _ _ h => h) (Or.inl ⟨by rfl, ?_⟩) (by assumption) ?_
            rotate_left
            · intro w hSw
              try dsimp only at hSw
              go_simp
              all_goals with_reducible rfl
            (try simp only [List.getElem_toArray]); (try simp only [List.getElem_cons_succ]); (try simp only [List.getElem_cons_zero]); try simp only [Act.put, List.setIfInBounds_toArray, List.set_cons_zero, List.set_cons_succ]
            refine wpAnyH_take (i := 9) (oi := _) (v := ?_) rfl (by kernel_rfl) (by kernel_rfl) (by kernel_rfl) (fun _ _ _ h => h) (Or.inl ⟨by rfl, ?_⟩) (by assumption) ?_
            rotate_left
            · intro w hSw
              try dsimp only at hSw
              go_simp
              all_goals with_reducible rfl
            (try simp only [List.getElem_toArray]); (try simp only [List.getElem_cons_succ]); (try simp only [List.getElem_cons_zero]); try simp only [Act.put, List.setIfInBounds_toArray, List.set_cons_zero, List.set_cons_succ]
            refine wpAnyH_ready (rs := [10]) (by kernel_rfl) (by simp) ?_
            refine (AllReadyH.cons (o := _) rfl (fun K hK => ?_) AllReadyH.nil)
            · (try simp only [List.getElem_toArray]); (try simp only [List.getElem_cons_succ]); (try simp only [List.getElem_cons_zero])
              go_simp
              refine hK.out _ _ ?_ (fun hHeld => ?_)
              · first | exact gp | exact gpa | exact hpc | exact gpz
              clear hK K
              (try simp only [List.getElem_toArray]); (try simp only [List.getElem_cons_succ]); (try simp only [List.getElem_cons_zero]); try simp only [Act.put, List.setIfInBounds_toArray, List.set_cons_zero, List.set_cons_succ]
              refine wpAnyH_done (by kernel_rfl) ?_ _
              exact HF.out
      · (try simp only [List.getElem_toArray]); (try simp only [List.getElem_cons_succ]); (try simp only [List.getElem_cons_zero])
        go_simp
        refine hK.out _ _ ?_ (fun hHeld => ?_)
        · first | exact gp | exact gpa | exact hpc | exact gpz
        clear hK K
        (try simp only [List.getElem_toArray]); (try simp only [List.getElem_cons_succ]); (try simp only [List.getElem_cons_zero]); try simp only [Act.put, List.setIfInBounds_toArray, List.set_cons_zero, List.set_cons_succ]
        refine wpAnyH_ready (rs := [4]) (by kernel_rfl) (by simp) ?_
        refine (AllReadyH.cons (o := _) rfl (fun K hK => ?_) AllReadyH.nil)
        · (try simp only [List.getElem_toArray]); (try simp only [List.getElem_cons_succ]); (try simp only [List.getElem_cons_zero])
          go_simp
          refine hK.out _ _ ?_ (fun hHeld => ?_)
          · first | exact gp | exact gpa | exact hpc | exact gpz
          clear hK K
          (try simp only [List.getElem_toArray]); (try simp only [List.getElem_cons_succ]); (try simp only [List.getElem_cons_zero]); try simp only [Act.put, List.setIfInBounds_toArray, List.set_cons_zero, List.set_cons_succ]
          refine wpAnyH_ready (rs := [7]) (by kernel_rfl) (by simp) ?_
          refine (AllReadyH.cons (o := _) rfl (fun K hK => ?_) AllReadyH.nil)
          · refine step_append_run ?_ (.tmp 61) (.tmp 63) ?_ ?_ ?_ ?_ HRUN.out ?_
            · rfl
            · rfl
            · rfl
            · rfl
            · rfl
            refine hK.out _ _ ?_ (fun hHeld => ?_)
            · first | exact gp | exact gpa | exact hpc | exact gpz
            clear hK K
            (try simp only [List.getElem_toArray]); (try simp only [List.getElem_cons_succ]); (try simp only [List.getElem_cons_zero]); try simp only [Act.put, List.setIfInBounds_toArray, List.set_cons_zero, List.set_cons_succ]
            refine wpAnyH_take (i := 8) (oi := _) (v := ?_) rfl (by kernel_rfl) (by kernel_rfl) (by kernel_rfl) (fun _ _ _ h => h) (Or.inl ⟨by rfl, ?_⟩) (by assumption) ?_
            rotate_left
            · intro w hSw
              try dsimp only at hSw
              go_simp
              all_goals with_reducible rfl
            (try simp only [List.getElem_toArray]); (try simp only [List.getElem_cons_succ]); (try simp only [List.getElem_cons_zero]); try simp only [Act.put, List.setIfInBounds_toArray, List.set_cons_zero, List.set_cons_succ]
            refine wpAnyH_take (i := 9) (oi := _) (v := ?_) rfl (by kernel_rfl) (by kernel_rfl) (by kernel_rfl) (fun _ _ _ h => h) (Or.inl ⟨by rfl, ?_⟩) (by assumption) ?_
            rotate_left
            · intro w hSw
              try dsimp only at hSw
              go_simp
              all_goals with_reducible rfl
            (try simp only [List.getElem_toArray]); (try simp only [List.getElem_cons_succ]); (try simp only [List.getElem_cons_zero]); try simp only [Act.put, List.setIfInBounds_toArray, List.set_cons_zero, List.set_cons_succ]
            refine wpAnyH_ready (rs := [10]) (by kernel_rfl) (by simp) ?_
            refine (AllReadyH.cons (o := _) rfl (fun K hK => ?_) AllReadyH.nil)
            · (try simp only [List.getElem_toArray]); (try simp only [List.getElem_cons_succ]); (try simp only [List.getElem_cons_zero])
              go_simp
              refine hK.out _ _ ?_ (fun hHeld => ?_)
              · first | exact gp | exact gpa | exact hpc | exact gpz
              clear hK K
              (try simp only [List.getElem_toArray]); (try simp only [List.getElem_cons_succ]); (try simp only [List.getElem_cons_zero]); try simp only [Act.put, List.setIfInBounds_toArray, List.set_cons_zero, List.set_cons_succ]
              refine wpAnyH_done (by kernel_rfl) ?_ _
              exact HF.out
  case done =>
    rintro D zs X hD rfl ⟨⟨v, hv, hrow⟩, hp, hq, hgr⟩ hK
    have hDg : gs ≠ D := by omega
    have HV : Hid (TcpAt (X.putObj D (.deferred none)) gs (cs.setIfInBounds 11 v)) := Lib.hid ((World.putObj_heap_other hDg).trans hv)
    have HR := Lib.hid (ownsRow_putObj hrow (.deferred none) hK rfl)
    have HG := Lib.hid (show W.grownBy (X.putObj D (.deferred none)) (some gs) from ⟨hgr.os, hgr.tape, hgr.output, Nat.le_trans hgr.size (grownBy_putObj' X D (.deferred none)).size, fun k hk hke => (World.putObj_heap_other (by omega)).trans (hgr.block k hk hke)⟩)
    have HN := Lib.hid (show (tbL ys n).length = n from tbL_length ys n)
    clear hv hrow hp hq hgr hbb hI0
    gi_wp2
    refine ⟨by simp, .inl ⟨_, _, rfl, run_takeDeferred hK, ?_⟩⟩
    have hr2 := HR.out
    rw [HN.out] at hr2
    exact ⟨_, results_none rfl _ _ _, rfl, v, HV.out, hr2, HG.out⟩
  case stop =>
    rintro D c pre W _ _ h _
    exact h.elim
end Go.Proofs.Ytgmgoilleakdcaa
