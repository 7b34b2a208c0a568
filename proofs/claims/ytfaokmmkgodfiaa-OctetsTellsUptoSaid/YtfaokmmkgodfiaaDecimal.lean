/- Decimal answers the sign and the decimal figures of its number, in a text of its own. -/
import Derived.Test.YtfaokmmkgodfiaaDigits
import Derived.Test.YtfaokmmkgodfiaaBytes
import Derived.Laws.BytesArg
namespace Go.Proofs.Ytfaokmmkgodfiaa
open Go.RowKit Go.Shelf

attribute [local go_sem] Oper.semAt_some

/-- Octets as a text. -/
def strO (l : List Mt.Oct) : ByteArray := strOfNums (l.map fun x => (x.1 : Int))

/-- What a row of octets holds. -/
abbrev cellsO (l : List Mt.Oct) : List Value := l.map fun x => Value.int .u8 (x.1 : Nat)

/-- The text of a row of octets. -/
theorem run_text (w : World) (B g cap : Nat) (l : List Mt.Oct) (h : w.ownsRow B 5 1 (.slice (some ⟨g, 0, none⟩) l.length cap) l.length (cellsO l)) :
    (convert 23 9 (.slice (some ⟨g, 0, none⟩) l.length cap)).run Try.prog w = .ok (.string (strO l)) w := by
  refine run_convert_bytes_arg (P := Try.prog) w 23 5 Try.underlying23 Try.underlying5 g 0 l.length cap _ (by simp) (fun i hi => ?_) 9 Try.underlying9
  rw [Nat.zero_add, h.cellAt i (by omega)]
  simp [List.getD_eq_getElem?_getD, List.getElem?_map, List.getElem?_eq_getElem hi]

/-- Between two rounds: the box of 'out' holds a row of its own with the octets so far; the iterator's three boxes lie as they lay; nothing that lay before the call has turned. -/
def OutI (w : World) (O B m b c : Nat) (pfx pre : List Mt.Oct) (W : World) : Prop :=
  ((∃ v, Boxed W O 23 v ∧ W.ownsRow w.heap.size 5 1 v (pfx ++ pre).length (cellsO (pfx ++ pre)) ∧ True) ∧ (Boxed W B 22 (.int .u64 m) ∧ Boxed W (B + 1) 22 (.int .u64 b) ∧ Boxed W (B + 2) 3 (.int .i64 c))) ∧ Below w.heap.size w W

theorem OutI.own (w : World) (O B m b c H : Nat) (pfx : List Mt.Oct) (hH : w.heap.size ≤ H) : OwnFrom H (fun pre W => OutI w O B m b c pfx pre W) :=
  OwnFrom.and (OwnFrom.and (Own.from (holdsRow_own w.heap.size O 23 5 1 (fun pre => (pfx ++ pre).length) (fun pre => cellsO (pfx ++ pre)) (fun _ _ => True)) _) (OwnFrom.and (Own.from (boxed_own _ _ _) _) (OwnFrom.and (Own.from (boxed_own _ _ _) _) (Own.from (boxed_own _ _ _) _)))) (ownFrom_below (Nat.le_refl _) hH)

/-- What one round's append leaves. -/
theorem OutI.step {w W w1 : World} {O B m b c cap g : Nat} {pfx pre : List Mt.Oct} {x : Mt.Oct} {v : Value} {tmp : Obj} (hO : w.heap.size ≤ O) (hOB : O < B)
    (hv : Boxed W O 23 v) (hrow : W.ownsRow w.heap.size 5 1 v (pfx ++ pre).length (cellsO (pfx ++ pre))) (b0 : Boxed W B 22 (.int .u64 m)) (b1 : Boxed W (B + 1) 22 (.int .u64 b)) (b2 : Boxed W (B + 2) 3 (.int .i64 c)) (hB : Below w.heap.size w W)
    (hown' : w1.ownsRow w.heap.size 5 1 (.slice (some ⟨g, 0, none⟩) ((pfx ++ pre).length + 1) cap) ((pfx ++ pre).length + 1) (cellsO (pfx ++ pre) ++ [Value.int .u8 (x.1 : Nat)])) (hgrow : (W.alloc tmp).grownBy w1 v.ownBlock) :
    KeepsOthers W (w1.setCell ⟨O, 0, none⟩ (.slice (some ⟨g, 0, none⟩) ((pfx ++ pre).length + 1) cap)) ∧ Keep3 B W (w1.setCell ⟨O, 0, none⟩ (.slice (some ⟨g, 0, none⟩) ((pfx ++ pre).length + 1) cap)) ∧
      OutI w O B m b c pfx (pre ++ [x]) (w1.setCell ⟨O, 0, none⟩ (.slice (some ⟨g, 0, none⟩) ((pfx ++ pre).length + 1) cap)) := by
  obtain ⟨hv1, hv2, hr2, hk2, hb2⟩ := hv.appended (by decide) hrow hB.size hO hown' hgrow
  have c0 := ((b0.alloc tmp).kept hgrow (b0.not_row (by decide) hrow)).other (B' := O) (by omega) (.slice (some ⟨g, 0, none⟩) ((pfx ++ pre).length + 1) cap)
  have c1 := ((b1.alloc tmp).kept hgrow (b1.not_row (by decide) hrow)).other (B' := O) (by omega) (.slice (some ⟨g, 0, none⟩) ((pfx ++ pre).length + 1) cap)
  have c2 := ((b2.alloc tmp).kept hgrow (b2.not_row (by decide) hrow)).other (B' := O) (by omega) (.slice (some ⟨g, 0, none⟩) ((pfx ++ pre).length + 1) cap)
  refine ⟨hk2, Keep3.of_boxed b0 b1 b2 c0 c1 c2, ⟨⟨_, hv2, ?_, trivial⟩, c0, c1, c2⟩, hB.trans hb2⟩
  have e1 : (pfx ++ (pre ++ [x])).length = (pfx ++ pre).length + 1 := by simp; omega
  have e2 : cellsO (pfx ++ (pre ++ [x])) = cellsO (pfx ++ pre) ++ [Value.int .u8 (x.1 : Nat)] := by simp [cellsO]
  rw [e1, e2]
  exact hr2

set_option maxRecDepth 100000 in
set_option maxHeartbeats 2000000 in
theorem decimal_any (n : Int) (h1 : -9223372036854775808 ≤ n) (h2 : n ≤ 9223372036854775807) (w : World) :
    Calls Try.prog 17 #[.int .i64 n] w fun e W' => e = .returned (.string (strO (Mt.dec n))) ∧ Below w.heap.size w W' := by
  obtain ⟨i0, hi, hz0, hz1, hz2⟩ := info_parts info5
  have bO := Boxed.new w 23 (.slice none 0 0)
  have hB0 : Below w.heap.size w (w.alloc (.cells #[.slice none 0 0] 23)) := (Below.refl _ w).alloc (Nat.le_refl _) _
  have hrow0 := World.ownsRow_nil (w.alloc (.cells #[.slice none 0 0] 23)) w.heap.size 5 1
  obtain ⟨m, hm⟩ : ∃ m, n.natAbs = m := ⟨_, rfl⟩
  have hm64 : m < 18446744073709551616 := by omega
  refine (callsIn_wide (n := 5)).1 ?_
  refine callsIn_of_wp_marks Try.func17 rfl trivial ?_ rfl
  simp only [Try.ntmps17, List.size_toArray, List.length_cons, List.length_nil, Nat.reduceAdd, Nat.reduceSub, Array.replicate_succ, Array.replicate_zero, List.push_toArray, List.append_toArray, List.nil_append, List.cons_append]
  by_cases hneg : n < 0
  · have e1 : IntKind.u64.wrap n = n + 18446744073709551616 := by rw [IntKind.wrap_u64]; omega
    have e2 : IntKind.u64.wrap (-(n + 18446744073709551616)) = (m : Int) := by rw [IntKind.wrap_u64]; omega
    have Hm := Lib.hid hm; clear hm
    have hcn := cell_one_new (w.alloc (.cells #[.slice none 0 0] 23)) (.int .u8 45) 5
    rw [World.size_alloc] at hcn
    have Hcn := Lib.hid hcn; clear hcn
    have hbc := bO.cell
    gi_wp2_with (first | (gi_at_builtin; refine wpListIn_append_own _ rfl _ _ 23 rfl w.heap.size 5 i0 (.int .u8 0) 1 1 Try.underlying23 hi hz0 hz1 hz2 rfl (by decide) _ _ _ rfl (hrow0.alloc _) ⟨w.heap.size + 1, 0, none⟩ 1 1 [.int .u8 45] rfl rfl Hcn.out (by simp [Value.oneCell']) (by unfold maxLen; omega) (by omega) (by simp; omega) ?_; intro v' w1 hown' hgrow _; obtain ⟨g', cap', rfl⟩ := ownsRow_succ hown'; obtain ⟨hv1, hv2, hr2, hk2, hb2⟩ := bO.appended (by decide) hrow0 hB0.size (Nat.le_refl _) hown' hgrow; have hc1 := hv1.cell; have hf1 := hv1.frozen) | (refine ⟨trivial, ?_⟩; gi_at_call 23; refine (callsIn_wide.2 (width_any m 10 (by omega) (by omega) hm64 _)).mono ?_; rintro e w' ⟨c, hc, hc', rfl, rfl⟩) | (refine ⟨trivial, ?_⟩; gi_at_call 29; refine (digits_any _ m 10 _ _).mono ?_; rintro e w' ⟨rfl, rfl⟩))
    have hc1' : 1 ≤ c := hc.1
    have hcu : 10 ^ (c - 1) < 18446744073709551616 := by
      rcases hc.2.2 with h | h
      · subst h; simp
      · omega
    have hBw := hB0.trans hb2
    have hbx1 : w.heap.size < w1.heap.size := by have := hgrow.size; simp at this; omega
    simp only [Nat.zero_add, List.nil_append] at hv2 hr2 hBw
    obtain ⟨W2, hW2⟩ : ∃ W2, w1.setCell ⟨w.heap.size, 0, none⟩ (.slice (some ⟨g', 0, none⟩) 1 cap') = W2 := ⟨_, rfl⟩
    have hsz : W2.heap.size = w1.heap.size := by rw [← hW2]; simp
    obtain ⟨B, hBn⟩ : ∃ B, w1.heap.size = B := ⟨_, rfl⟩
    rw [hW2] at hv2 hr2 hBw ⊢
    rw [hBn] at hsz hbx1 ⊢
    clear hW2 hBn hgrow hown' hv1 hk2 hb2 hc1 hf1
    obtain ⟨P, hP⟩ : ∃ P : List Mt.Oct, [Mt.minus] = P := ⟨_, rfl⟩
    have hP1 : P.length ≤ 1 := by rw [← hP]; simp
    have hr3 : W2.ownsRow w.heap.size 5 1 (.slice (some ⟨g', 0, none⟩) 1 cap') (P ++ []).length (cellsO (P ++ [])) := by rw [← hP]; exact hr2
    have hfin : P ++ Mt.digs 10 m c = Mt.dec n := by
      have hmm := Hm.out
      subst hmm
      rw [Mt.dec_of_wid h1 h2 hc, Mt.dec, Mt.sgn, if_pos hneg, hP]
    have Hfin := Lib.hid hfin
    clear hr2 hfin hP
    have y0 : Boxed (((W2.alloc (.cells #[.int .u64 m] 22)).alloc (.cells #[.int .u64 10] 22)).alloc (.cells #[.int .i64 c] 3)) B 22 (.int .u64 m) := by
      rw [← hsz]; exact ((Boxed.new W2 _ _).alloc _).alloc _
    have y1 : Boxed (((W2.alloc (.cells #[.int .u64 m] 22)).alloc (.cells #[.int .u64 10] 22)).alloc (.cells #[.int .i64 c] 3)) (B + 1) 22 (.int .u64 (10 : Nat)) := by
      have h := (Boxed.new (W2.alloc (.cells #[.int .u64 m] 22)) 22 (.int .u64 10)).alloc (.cells #[.int .i64 c] 3)
      rw [World.size_alloc, hsz] at h; exact h
    have y2 : Boxed (((W2.alloc (.cells #[.int .u64 m] 22)).alloc (.cells #[.int .u64 10] 22)).alloc (.cells #[.int .i64 c] 3)) (B + 2) 3 (.int .i64 c) := by
      have h := Boxed.new ((W2.alloc (.cells #[.int .u64 m] 22)).alloc (.cells #[.int .u64 10] 22)) 3 (.int .i64 c)
      rw [World.size_alloc, World.size_alloc, hsz] at h; exact h
    refine wpIn_rangeFunc_ownG rfl (by omega) (gf := 31) (lb := #[.pointer (some ⟨B + 1 + 1, 0, none⟩), .pointer (some ⟨B + 1, 0, none⟩), .pointer (some ⟨B, 0, none⟩)]) rfl trivial (enters_of Try.func31 (by kernel_rfl) rfl)
      (digits_stops 4 (by omega) (B) m 10 c (by omega) (by omega) hm64 hc1' hcu hc' _ (by simp [hsz]) y0.cell y1.cell y2.cell) (fun h k => Keep3.trans h k) (Keep3.put (by simp [hsz])) (Below.refl _ _) (fun _ => rfl)
      (fun pre W => OutI w w.heap.size (B) m 10 c P pre W)
      (fun _ _ _ => False)
      (OutI.own w w.heap.size (B) m 10 c _ P (by simp; omega))
      (fun _ _ _ _ _ hs _ _ => hs)
      ⟨⟨⟨_, ((hv2.alloc _).alloc _).alloc _, ((hr3.alloc _).alloc _).alloc _, trivial⟩, y0, y1, y2⟩, ((hBw.alloc hBw.size _).alloc (by have := hBw.size; simp; omega) _).alloc (by have := hBw.size; simp; omega) _⟩
      (fun x => { tmps := #[Value.int IntKind.i64 n, undef, Value.string { data := #[] }, Value.pointer (some { block := w.heap.size, off := 0 }), Value.int IntKind.u64 ↑m, Value.int .u8 (x.1 : Nat), Value.int IntKind.i64 n, Value.int IntKind.u64 (n + 18446744073709551616), Value.int IntKind.i64 n, Value.bool true, Value.slice none 0 0, Value.slice (some { block := w.heap.size + 1, off := 0 }) 1 1, Value.slice (some { block := g', off := 0 }) 1 cap', Value.int IntKind.u64 (n + 18446744073709551616), Value.int IntKind.u64 ↑m, Value.int IntKind.u64 ↑m, Value.int IntKind.u64 ↑m, Value.int IntKind.i64 ↑c, Value.func (Fn.func 31) #[] #[Value.pointer (some { block := B + 1 + 1, off := 0 }), Value.pointer (some { block := B + 1, off := 0 }), Value.pointer (some { block := B, off := 0 })], Value.int .u8 (x.1 : Nat), undef, undef, undef, undef, undef, undef], defers := [] }) ?assign ?body ?done ?stop
    case assign =>
      intro l x W K hK
      gi_wp2
      exact hK
    case body =>
      rintro l pre x W ⟨⟨⟨v, hv, hrow, _⟩, b0, b1, b2⟩, hB⟩ hlt
      have hc := hv.cell
      have hpl : (P ++ pre).length ≤ 65 := by rw [List.length_append]; omega
      have hcn := cell_one_new W (.int .u8 (x.1 : Nat)) 5
      have Hcn := Lib.hid hcn; clear hcn
      gi_wp2_with (gi_at_builtin; refine wpListIn_append_own _ rfl _ _ 23 rfl w.heap.size 5 i0 (.int .u8 0) 1 1 Try.underlying23 hi hz0 hz1 hz2 rfl (by decide) _ _ _ rfl (hrow.alloc _) ⟨W.heap.size, 0, none⟩ 1 1 [.int .u8 (x.1 : Nat)] rfl rfl Hcn.out (by simp [Value.oneCell']) (by unfold maxLen; omega) (by omega) (by have := hB.size; simp; omega) ?_; intro v' w1 hown' hgrow _; obtain ⟨g', cap', rfl⟩ := ownsRow_succ hown'; obtain ⟨hv1, -, -, -, -⟩ := hv.appended (by decide) hrow hB.size (Nat.le_refl _) hown' hgrow; have hst := OutI.step (Nat.le_refl _) (by omega) hv hrow b0 b1 b2 hB hown' hgrow; have Hst := Lib.hid hst; clear hst; have hc1 := hv1.cell; have hf1 := hv1.frozen)
      have hst := Hst.out
      rw [List.length_append] at hst
      exact ⟨hst.1.from _, hst.2⟩
    case done =>
      rintro D ys W hD rfl ⟨⟨⟨v, hv, hrow, _⟩, b0, b1, b2⟩, hB⟩ hK
      obtain ⟨k, hk⟩ : ∃ k, (P ++ Mt.digs 10 m c).length = k + 1 := ⟨(P ++ Mt.digs 10 m c).length - 1, by rw [List.length_append, Mt.digs_length]; omega⟩
      have hrow' := hrow
      rw [hk] at hrow'
      obtain ⟨g, cap, rfl⟩ := ownsRow_succ hrow'
      rw [← hk] at hrow hv
      have hcv := run_text W w.heap.size g cap (P ++ Mt.digs 10 m c) hrow
      have hbc := hv.cell
      rw [Hfin.out] at hcv hbc
      clear hrow hrow' hv b0 b1 b2
      gi_wp2
      refine ⟨by simp, .inl ⟨_, _, rfl, run_takeDeferred hK, ?_⟩⟩
      exact ⟨_, results_tmp rfl _ _ _, rfl, hB.trans (belowK_b (w := w) (Nat.le_refl _) W D _ _ (by simp at hD; omega) hK rfl rfl)⟩
    case stop =>
      rintro D c pre W _ _ h _
      exact h.elim
  · obtain rfl : n = (m : Int) := by omega
    have e1 : IntKind.u64.wrap (m : Int) = (m : Int) := by rw [IntKind.wrap_u64]; omega
    have Hm := Lib.hid hm; clear hm
    have hbc := bO.cell
    gi_wp2_with (first | (refine ⟨trivial, ?_⟩; gi_at_call 23; refine (callsIn_wide.2 (width_any m 10 (by omega) (by omega) hm64 _)).mono ?_; rintro e w' ⟨c, hc, hc', rfl, rfl⟩) | (refine ⟨trivial, ?_⟩; gi_at_call 29; refine (digits_any _ m 10 _ _).mono ?_; rintro e w' ⟨rfl, rfl⟩))
    have hc1' : 1 ≤ c := hc.1
    have hcu : 10 ^ (c - 1) < 18446744073709551616 := by
      rcases hc.2.2 with h | h
      · subst h; simp
      · omega
    obtain ⟨W2, hW2⟩ : ∃ W2, w.alloc (.cells #[.slice none 0 0] 23) = W2 := ⟨_, rfl⟩
    have hsz : W2.heap.size = w.heap.size + 1 := by rw [← hW2]; simp
    obtain ⟨B, hBn⟩ : ∃ B, w.heap.size + 1 = B := ⟨_, rfl⟩
    have hbx1 : w.heap.size < B := by omega
    have hv2 := bO
    have hBw := hB0
    rw [hW2] at hv2 hBw hrow0 hbc ⊢
    rw [hBn] at hsz ⊢
    clear hW2 hBn bO hB0 hbc
    obtain ⟨P, hP⟩ : ∃ P : List Mt.Oct, [] = P := ⟨_, rfl⟩
    have hP1 : P.length ≤ 1 := by rw [← hP]; simp
    have hr3 : W2.ownsRow w.heap.size 5 1 (.slice none 0 0) (P ++ []).length (cellsO (P ++ [])) := by rw [← hP]; exact hrow0
    have hfin : P ++ Mt.digs 10 m c = Mt.dec m := by
      rw [Mt.dec, Mt.sgn, if_neg (by omega), ← hP]
      have h := Mt.dec_of_wid h1 h2 (by rw [Hm.out]; exact hc)
      rw [Hm.out] at h ⊢
      rw [h]
    have Hfin := Lib.hid hfin
    clear hfin hP hrow0
    have y0 : Boxed (((W2.alloc (.cells #[.int .u64 m] 22)).alloc (.cells #[.int .u64 10] 22)).alloc (.cells #[.int .i64 c] 3)) B 22 (.int .u64 m) := by
      rw [← hsz]; exact ((Boxed.new W2 _ _).alloc _).alloc _
    have y1 : Boxed (((W2.alloc (.cells #[.int .u64 m] 22)).alloc (.cells #[.int .u64 10] 22)).alloc (.cells #[.int .i64 c] 3)) (B + 1) 22 (.int .u64 (10 : Nat)) := by
      have h := (Boxed.new (W2.alloc (.cells #[.int .u64 m] 22)) 22 (.int .u64 10)).alloc (.cells #[.int .i64 c] 3)
      rw [World.size_alloc, hsz] at h; exact h
    have y2 : Boxed (((W2.alloc (.cells #[.int .u64 m] 22)).alloc (.cells #[.int .u64 10] 22)).alloc (.cells #[.int .i64 c] 3)) (B + 2) 3 (.int .i64 c) := by
      have h := Boxed.new ((W2.alloc (.cells #[.int .u64 m] 22)).alloc (.cells #[.int .u64 10] 22)) 3 (.int .i64 c)
      rw [World.size_alloc, World.size_alloc, hsz] at h; exact h
    refine wpIn_rangeFunc_ownG rfl (by omega) (gf := 31) (lb := #[.pointer (some ⟨B + 1 + 1, 0, none⟩), .pointer (some ⟨B + 1, 0, none⟩), .pointer (some ⟨B, 0, none⟩)]) rfl trivial (enters_of Try.func31 (by kernel_rfl) rfl)
      (digits_stops 4 (by omega) (B) m 10 c (by omega) (by omega) hm64 hc1' hcu hc' _ (by simp [hsz]) y0.cell y1.cell y2.cell) (fun h k => Keep3.trans h k) (Keep3.put (by simp [hsz])) (Below.refl _ _) (fun _ => rfl)
      (fun pre W => OutI w w.heap.size (B) m 10 c P pre W)
      (fun _ _ _ => False)
      (OutI.own w w.heap.size (B) m 10 c _ P (by simp; omega))
      (fun _ _ _ _ _ hs _ _ => hs)
      ⟨⟨⟨_, ((hv2.alloc _).alloc _).alloc _, ((hr3.alloc _).alloc _).alloc _, trivial⟩, y0, y1, y2⟩, ((hBw.alloc hBw.size _).alloc (by have := hBw.size; simp; omega) _).alloc (by have := hBw.size; simp; omega) _⟩
      (fun x => { tmps := #[Value.int IntKind.i64 ↑m, undef, Value.string { data := #[] }, Value.pointer (some { block := w.heap.size, off := 0 }), Value.int IntKind.u64 ↑m, Value.int .u8 (x.1 : Nat), Value.int IntKind.i64 ↑m, Value.int IntKind.u64 ↑m, Value.int IntKind.i64 ↑m, Value.bool false, undef, undef, undef, undef, undef, Value.int IntKind.u64 ↑m, Value.int IntKind.u64 ↑m, Value.int IntKind.i64 ↑c, Value.func (Fn.func 31) #[] #[Value.pointer (some { block := B + 1 + 1, off := 0 }), Value.pointer (some { block := B + 1, off := 0 }), Value.pointer (some { block := B, off := 0 })], Value.int .u8 (x.1 : Nat), undef, undef, undef, undef, undef, undef], defers := [] }) ?assign ?body ?done ?stop
    case assign =>
      intro l x W K hK
      gi_wp2
      exact hK
    case body =>
      rintro l pre x W ⟨⟨⟨v, hv, hrow, _⟩, b0, b1, b2⟩, hB⟩ hlt
      have hc := hv.cell
      have hpl : (P ++ pre).length ≤ 65 := by rw [List.length_append]; omega
      have hcn := cell_one_new W (.int .u8 (x.1 : Nat)) 5
      have Hcn := Lib.hid hcn; clear hcn
      gi_wp2_with (gi_at_builtin; refine wpListIn_append_own _ rfl _ _ 23 rfl w.heap.size 5 i0 (.int .u8 0) 1 1 Try.underlying23 hi hz0 hz1 hz2 rfl (by decide) _ _ _ rfl (hrow.alloc _) ⟨W.heap.size, 0, none⟩ 1 1 [.int .u8 (x.1 : Nat)] rfl rfl Hcn.out (by simp [Value.oneCell']) (by unfold maxLen; omega) (by omega) (by have := hB.size; simp; omega) ?_; intro v' w1 hown' hgrow _; obtain ⟨g', cap', rfl⟩ := ownsRow_succ hown'; obtain ⟨hv1, -, -, -, -⟩ := hv.appended (by decide) hrow hB.size (Nat.le_refl _) hown' hgrow; have hst := OutI.step (Nat.le_refl _) (by omega) hv hrow b0 b1 b2 hB hown' hgrow; have Hst := Lib.hid hst; clear hst; have hc1 := hv1.cell; have hf1 := hv1.frozen)
      have hst := Hst.out
      rw [List.length_append] at hst
      exact ⟨hst.1.from _, hst.2⟩
    case done =>
      rintro D ys W hD rfl ⟨⟨⟨v, hv, hrow, _⟩, b0, b1, b2⟩, hB⟩ hK
      obtain ⟨k, hk⟩ : ∃ k, (P ++ Mt.digs 10 m c).length = k + 1 := ⟨(P ++ Mt.digs 10 m c).length - 1, by rw [List.length_append, Mt.digs_length]; omega⟩
      have hrow' := hrow
      rw [hk] at hrow'
      obtain ⟨g, cap, rfl⟩ := ownsRow_succ hrow'
      rw [← hk] at hrow hv
      have hcv := run_text W w.heap.size g cap (P ++ Mt.digs 10 m c) hrow
      have hbc := hv.cell
      rw [Hfin.out] at hcv hbc
      clear hrow hrow' hv b0 b1 b2
      gi_wp2
      refine ⟨by simp, .inl ⟨_, _, rfl, run_takeDeferred hK, ?_⟩⟩
      exact ⟨_, results_tmp rfl _ _ _, rfl, hB.trans (belowK_b (w := w) (Nat.le_refl _) W D _ _ (by simp at hD; omega) hK rfl rfl)⟩
    case stop =>
      rintro D c pre W _ _ h _
      exact h.elim
end Go.Proofs.Ytfaokmmkgodfiaa
