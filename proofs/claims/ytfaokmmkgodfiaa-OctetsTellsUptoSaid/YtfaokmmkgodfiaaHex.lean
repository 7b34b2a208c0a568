/- Hex answers two small figures an octet, in a text of its own. -/
import Derived.Test.YtfaokmmkgodfiaaDecimal
import Derived.Test.YtfaokmmkgodfiaaSlices
namespace Go.Proofs.Ytfaokmmkgodfiaa
open Go.RowKit Go.Shelf

attribute [local go_sem] Oper.semAt_some

/-- Two figures an octet. -/
def hexO (xs : List Nat) : List Mt.Oct := xs.flatMap fun x => Mt.digs 16 x 2

theorem hexO_length (xs : List Nat) : (hexO xs).length = 2 * xs.length := by
  unfold hexO
  induction xs with
  | nil => rfl
  | cons x xs ih => rw [List.flatMap_cons, List.length_append, ih, Mt.digs_length, List.length_cons]; omega

theorem hexO_snoc (xs : List Nat) (x : Nat) : hexO (xs ++ [x]) = hexO xs ++ Mt.digs 16 x 2 := by simp [hexO]

/-- The marks of the loops that are over. -/
def Marks (Ds : List Nat) (W : World) : Prop := ∀ D ∈ Ds, W.heap[D]? = some (.deferred (some []))

theorem Marks.same {Ds : List Nat} {W W' : World} (h : Marks Ds W) (hk : KeepsOthers W W') : Marks Ds W' := fun D hD => hk.same D _ (h D hD) rfl

/-- The row with room, of which so much is filled: the box of 'out' holds it. -/
def FullI (w : World) (O B g C m b c : Nat) (Ds : List Nat) (pfx pre : List Mt.Oct) (W : World) : Prop :=
  ((Boxed W O 23 (.slice (some ⟨g, 0, none⟩) (pfx ++ pre).length C) ∧ W.ownsRow w.heap.size 5 1 (.slice (some ⟨g, 0, none⟩) (pfx ++ pre).length C) (pfx ++ pre).length (cellsO (pfx ++ pre))) ∧ (Boxed W B 22 (.int .u64 m) ∧ Boxed W (B + 1) 22 (.int .u64 b) ∧ Boxed W (B + 2) 3 (.int .i64 c))) ∧ Marks Ds W ∧ Below w.heap.size w W

theorem FullI.own (w : World) (O B g C m b c H : Nat) (Ds : List Nat) (pfx : List Mt.Oct) (hH : w.heap.size ≤ H) (hD : ∀ D ∈ Ds, D < H) : OwnFrom H (fun pre W => FullI w O B g C m b c Ds pfx pre W) := by
  rintro pre X Y row ⟨⟨⟨h1, h2⟩, h3, h4, h5⟩, h6, h7⟩ hg hrow
  have hnot : ∀ (k : Nat) (o : Obj), X.heap[k]? = some o → o.isCells = true → some k ≠ row := by
    intro k o hk ho e
    obtain ⟨_, o', ho', hc⟩ := hrow k e.symm
    rw [hk] at ho'; cases ho'
    rw [ho] at hc; cases hc
  refine ⟨⟨⟨h1.kept hg (hnot _ _ h1 rfl), h2.kept hg (.inr ?_)⟩, h3.kept hg (hnot _ _ h3 rfl), h4.kept hg (hnot _ _ h4 rfl), h5.kept hg (hnot _ _ h5 rfl)⟩, fun D hDD => ?_, h7.grown hg h7.size (fun k e => Nat.le_trans hH (hrow k e).1)⟩
  · rcases h2.2 with ⟨h, _⟩ | ⟨g', cap', cur, h, _, hgb, _⟩
    · cases h
    · simp only [Value.slice.injEq, Option.some.injEq, Addr.mk.injEq, and_true, true_and] at h
      obtain ⟨rfl, _⟩ := h
      exact hnot _ _ hgb rfl
  · refine (hg.block D (Array.getElem?_eq_some_iff.1 (h6 D hDD)).1 (fun e => ?_)).trans (h6 D hDD)
    have := (hrow D e.symm).1
    have := hD D hDD
    omega

/-- What one round's append leaves. -/
theorem FullI.step {w W w1 : World} {O B g C m b c L : Nat} {Ds : List Nat} {pfx pre : List Mt.Oct} {x : Mt.Oct} {tmp : Obj} (hO : w.heap.size ≤ O) (hOB : O < B) (h : FullI w O B g C m b c Ds pfx pre W) (hL : (pfx ++ pre).length = L)
    (hown' : w1.ownsRow w.heap.size 5 1 (.slice (some ⟨g, 0, none⟩) (L + 1) C) (L + 1) (cellsO (pfx ++ pre) ++ [Value.int .u8 (x.1 : Nat)])) (hgrow : (W.alloc tmp).grownBy w1 (some g)) :
    KeepsOthers W (w1.setCell ⟨O, 0, none⟩ (.slice (some ⟨g, 0, none⟩) (L + 1) C)) ∧ Keep3 B W (w1.setCell ⟨O, 0, none⟩ (.slice (some ⟨g, 0, none⟩) (L + 1) C)) ∧
      FullI w O B g C m b c Ds pfx (pre ++ [x]) (w1.setCell ⟨O, 0, none⟩ (.slice (some ⟨g, 0, none⟩) (L + 1) C)) := by
  subst hL
  obtain ⟨⟨⟨hv, hrow⟩, b0, b1, b2⟩, hM, hB⟩ := h
  have hgrow' : (W.alloc tmp).grownBy w1 (Value.slice (some ⟨g, 0, none⟩) (pfx ++ pre).length C).ownBlock := hgrow
  obtain ⟨hv1, hv2, hr2, hk2, hb2⟩ := hv.appended (by decide) hrow hB.size hO hown' hgrow'
  have c0 := ((b0.alloc tmp).kept hgrow' (b0.not_row (by decide) hrow)).other (B' := O) (by omega) (.slice (some ⟨g, 0, none⟩) ((pfx ++ pre).length + 1) C)
  have c1 := ((b1.alloc tmp).kept hgrow' (b1.not_row (by decide) hrow)).other (B' := O) (by omega) (.slice (some ⟨g, 0, none⟩) ((pfx ++ pre).length + 1) C)
  have c2 := ((b2.alloc tmp).kept hgrow' (b2.not_row (by decide) hrow)).other (B' := O) (by omega) (.slice (some ⟨g, 0, none⟩) ((pfx ++ pre).length + 1) C)
  have e1 : (pfx ++ (pre ++ [x])).length = (pfx ++ pre).length + 1 := by simp; omega
  have e2 : cellsO (pfx ++ (pre ++ [x])) = cellsO (pfx ++ pre) ++ [Value.int .u8 (x.1 : Nat)] := by simp [cellsO]
  refine ⟨hk2, Keep3.of_boxed b0 b1 b2 c0 c1 c2, ⟨⟨?_, ?_⟩, c0, c1, c2⟩, hM.same hk2, hB.trans hb2⟩
  · rw [e1]; exact hv2
  · rw [e1, e2]; exact hr2

/-- The marks as deferred calls. -/
abbrev marksOf (Ds : List Nat) : List Deferred := Ds.map fun D => { target := .collected D, args := #[] }

/-- At the return the marks are taken, one by one: none bears a call. -/
theorem leaves_marks {n : Nat} {fn : Func} {tmps : Array Value} {R : Ending → World → Prop} {n₀ : Nat} {v : Value} {w0 : World} (hv : ∀ W, (results fn tmps).run Try.prog W = .ok v W)
    (hR : ∀ W, Below n₀ w0 W → R (.returned v) W) : ∀ (Ds : List Nat) (W : World), Marks Ds W → Ds.Nodup → (∀ D ∈ Ds, n₀ ≤ D) → Below n₀ w0 W → n₀ ≤ W.heap.size → LeavesInM Fence.wide n Try.prog fn tmps R (marksOf Ds) .returning W
  | [], W, _, _, _, hb, _ => ⟨v, hv W, hR W hb⟩
  | D :: Ds, W, hM, hN, hD, hb, hn => by
    have hK := hM D (by simp)
    obtain ⟨hN1, hN2⟩ := List.nodup_cons.1 hN
    refine ⟨by simp, .inl ⟨D, _, rfl, run_takeDeferred hK, ?_⟩⟩
    refine leaves_marks hv hR Ds _ (fun E hE => ?_) hN2 (fun E hE => hD E (by simp [hE])) (hb.trans ((Below.refl n₀ W).grown (grownBy_putObj' W D _) hn (fun k e => by cases e; exact hD D (by simp)))) (by simpa using hn)
    exact (World.putObj_heap_other (fun e => hN1 (by rw [← e]; exact hE))).trans (hM E (by simp [hE]))

/-- Between two rounds of the loop over the octets. -/
def HexInv (w : World) (O g : Nat) (a : Option Addr) (xs : List Nat) (cap : Nat) (act : Act) (W : World) : Prop :=
  ∃ (k : Nat) (Ds : List Nat) (u4 u13 u14 u15 u16 u17 u18 u19 u20 u26 : Value), k ≤ xs.length ∧
    act = { tmps := #[.slice a xs.length cap, undef, .string { data := #[] }, .pointer (some ⟨O, 0, none⟩), u4, undef, .slice a xs.length cap, .int .i64 xs.length, .int .i64 (2 * (xs.length : Int)), .slice (some ⟨w.heap.size, 0, none⟩) 0 (2 * xs.length), .slice a xs.length cap, .int .i64 xs.length, .int .i64 k, u13, u14, u15, u16, u17, u18, u19, u20, undef, undef, undef, undef, undef, u26, undef, undef], defers := marksOf Ds } ∧
    (Boxed W O 23 (.slice (some ⟨g, 0, none⟩) (hexO (xs.take k)).length (2 * xs.length)) ∧ W.ownsRow w.heap.size 5 1 (.slice (some ⟨g, 0, none⟩) (hexO (xs.take k)).length (2 * xs.length)) (hexO (xs.take k)).length (cellsO (hexO (xs.take k)))) ∧
    Marks Ds W ∧ Ds.Nodup ∧ (∀ D ∈ Ds, w.heap.size ≤ D) ∧ Below w.heap.size w W

set_option maxRecDepth 100000 in
set_option maxHeartbeats 2000000 in
theorem hex_any (a : Option Addr) (xs : List Nat) (cap : Nat) (w : World) (hx : Bts w a xs) (hl : xs.length ≤ 140737488351232) :
    Calls Try.prog 19 #[.slice a xs.length cap] w fun e W' => e = .returned (.string (strO (hexO xs))) ∧ Below w.heap.size w W' := by
  obtain ⟨i0, hi, hz0, hz1, hz2⟩ := info_parts info5
  have Hz := Lib.hid hz2
  refine (callsIn_wide (n := 5)).1 ?_
  refine callsIn_of_wp_marks Try.func19 rfl trivial ?_ rfl
  simp only [Try.ntmps19, List.size_toArray, List.length_cons, List.length_nil, Nat.reduceAdd, Nat.reduceSub, Array.replicate_succ, Array.replicate_zero, List.push_toArray, List.append_toArray, List.nil_append, List.cons_append]
  gi_wp2_with (gi_at_make; refine wpListIn_make_own _ rfl _ _ 23 rfl w.heap.size 5 i0 (.int .u8 0) 1 Try.underlying23 hi hz0 hz1 .i64 .i64 _ (2 * xs.length) rfl rfl (by omega) (by rw [Hz.out]; omega) (by unfold maxLen; omega) (Nat.le_refl _) ?_; intro w1 hown hgrow)
  have hO : w.heap.size ≤ w1.heap.size := hgrow.size
  obtain ⟨O, hOe⟩ : ∃ O, w1.heap.size = O := ⟨_, rfl⟩
  have hbo := Boxed.new w1 23 (.slice (some ⟨w.heap.size, 0, none⟩) 0 (2 * xs.length))
  have hbw : Below w.heap.size w (w1.alloc (.cells #[.slice (some ⟨w.heap.size, 0, none⟩) 0 (2 * xs.length)] 23)) := ((Below.refl _ _).grown hgrow (Nat.le_refl _) (fun k e => by cases e)).alloc hO _
  have hro := hown.alloc (.cells #[.slice (some ⟨w.heap.size, 0, none⟩) 0 (2 * xs.length)] 23)
  rw [hOe] at hbo hO ⊢
  clear hown hgrow
  refine wpIn_loop (HexInv w O w.heap.size a xs cap) (fun a' _ => xs.length - (intOf (a'.tmps.getD 12 undef)).toNat) ?start ?round
  case start => exact ⟨0, [], undef, undef, undef, undef, undef, undef, undef, undef, undef, undef, by omega, rfl, ⟨hbo, hro⟩, (fun D h => by cases h), List.nodup_nil, (fun D h => by cases h), hbw⟩
  case round =>
    clear hbo hro hbw hOe
    rintro _ W ⟨k, Ds, u4, u13, u14, u15, u16, u17, u18, u19, u20, u26, hk, rfl, ⟨hbo, hro⟩, hM, hN, hDs, hB⟩
    obtain ⟨DD, hDD⟩ : ∃ DD, marksOf Ds = DD := ⟨_, rfl⟩
    rw [hDD]
    have HDD := Lib.hid hDD; clear hDD
    by_cases hlt : k < xs.length
    · obtain ⟨b, off, rfl, hb, hcx⟩ : ∃ b off, a = some ⟨b, off, none⟩ ∧ b < w.heap.size ∧ ∀ i, i < xs.length → w.cell? ⟨b, off + i, none⟩ = some (.int .u8 (xs.getD i 0 : Nat)) := by
        rcases hx.2 with h | h
        · subst h; simp at hlt
        · exact h
      have hca := (hB.cell (p := ⟨b, off + k, none⟩) hb).trans (hcx k hlt)
      have hx256 := hx.1 _ (Mt.getD_mem xs k hlt)
      have htk := Mt.take_snoc xs k hlt
      generalize xs.getD k 0 = x at hca hx256 htk
      have Htk := Lib.hid htk
      have Hx := Lib.hid hx
      have Hbo := Lib.hid hbo
      have Hro := Lib.hid hro
      have HM := Lib.hid hM
      have HN := Lib.hid hN
      have HDs := Lib.hid hDs
      have i1 : (k : Int) < (xs.length : Int) := by omega
      clear htk hx hbo hro hM hN hDs hcx
      gi_wp2_with (refine ⟨trivial, ?_⟩; gi_at_call 29; refine (digits_any _ x 16 2 _).mono ?_; rintro e w' ⟨rfl, rfl⟩)
      obtain ⟨P, hP⟩ : ∃ P, hexO (xs.take k) = P := ⟨_, rfl⟩
      have hPl : P.length = 2 * k := by rw [← hP, hexO_length, List.length_take]; omega
      have hbo := Hbo.out
      have hro := Hro.out
      rw [hP] at hbo hro
      have hOW : O < W.heap.size := hbo.lt
      have hwW := hB.size
      have hsn : hexO (xs.take (k + 1)) = P ++ Mt.digs 16 x 2 := by rw [Htk.out, hexO_snoc, hP]
      have Hsn := Lib.hid hsn
      have hMD : ∀ D ∈ Ds, D < W.heap.size := fun D hD => (Array.getElem?_eq_some_iff.1 (HM.out D hD)).1
      have HMD := Lib.hid hMD
      have y0 : Boxed (((W.alloc (.cells #[.int .u64 x] 22)).alloc (.cells #[.int .u64 16] 22)).alloc (.cells #[.int .i64 2] 3)) W.heap.size 22 (.int .u64 x) := ((Boxed.new W _ _).alloc _).alloc _
      have y1 : Boxed (((W.alloc (.cells #[.int .u64 x] 22)).alloc (.cells #[.int .u64 16] 22)).alloc (.cells #[.int .i64 2] 3)) (W.heap.size + 1) 22 (.int .u64 (16 : Nat)) := by
        have h := (Boxed.new (W.alloc (.cells #[.int .u64 x] 22)) 22 (.int .u64 16)).alloc (.cells #[.int .i64 2] 3)
        rw [World.size_alloc] at h; exact h
      have y2 : Boxed (((W.alloc (.cells #[.int .u64 x] 22)).alloc (.cells #[.int .u64 16] 22)).alloc (.cells #[.int .i64 2] 3)) (W.heap.size + 2) 3 (.int .i64 (2 : Nat)) := by
        have h := Boxed.new ((W.alloc (.cells #[.int .u64 x] 22)).alloc (.cells #[.int .u64 16] 22)) 3 (.int .i64 2)
        rw [World.size_alloc, World.size_alloc] at h; exact h
      have hM3 : Marks Ds (((W.alloc (.cells #[.int .u64 x] 22)).alloc (.cells #[.int .u64 16] 22)).alloc (.cells #[.int .i64 2] 3)) := ((HM.out.same (KeepsOthers.alloc _ _)).same (KeepsOthers.alloc _ _)).same (KeepsOthers.alloc _ _)
      have hst0 : FullI w O W.heap.size w.heap.size (2 * xs.length) x 16 2 Ds P [] (((W.alloc (.cells #[.int .u64 x] 22)).alloc (.cells #[.int .u64 16] 22)).alloc (.cells #[.int .i64 2] 3)) := by
        refine ⟨⟨⟨?_, ?_⟩, y0, y1, y2⟩, hM3, ((hB.alloc hwW _).alloc (by simp; omega) _).alloc (by simp; omega) _⟩
        · rw [List.append_nil]; exact ((hbo.alloc _).alloc _).alloc _
        · rw [List.append_nil]; exact ((hro.alloc _).alloc _).alloc _
      have Hst0 := Lib.hid hst0
      have hM4 := Lib.hid hMD
      clear hP hbo hro hsn hMD hM3 hst0 Hbo Hro
      obtain ⟨BW, hBW⟩ : ∃ BW, W.heap.size = BW := ⟨_, rfl⟩
      rw [hBW] at y0 y1 y2 hOW hwW Hst0 hM4 ⊢
      have HBW := Lib.hid hBW; clear hBW
      refine wpIn_rangeFunc_ownG rfl (by omega) (gf := 31) (lb := #[.pointer (some ⟨BW + 1 + 1, 0, none⟩), .pointer (some ⟨BW + 1, 0, none⟩), .pointer (some ⟨BW, 0, none⟩)]) rfl trivial (enters_of Try.func31 (by kernel_rfl) rfl)
        (digits_stops 4 (by omega) BW x 16 2 (by omega) (by omega) (by omega) (by omega) (by decide) (by omega) _ (by simp [HBW.out]) y0.cell y1.cell y2.cell) (fun h k => Keep3.trans h k) (Keep3.put (by simp [HBW.out])) (Below.refl _ _) (fun _ => rfl)
        (fun pre W' => FullI w O BW w.heap.size (2 * xs.length) x 16 2 Ds P pre W')
        (fun _ _ _ => False)
        (FullI.own w O BW w.heap.size (2 * xs.length) x 16 2 _ Ds P (by simp [HBW.out]; omega) (fun D hD => by have := hM4.out D hD; simp [HBW.out]; omega))
        (fun _ _ _ _ _ hs _ _ => hs)
        Hst0.out
        (fun y => { tmps := #[.slice (some ⟨b, off, none⟩) xs.length cap, undef, .string { data := #[] }, .pointer (some ⟨O, 0, none⟩), .int .i64 k, .int .u8 (y.1 : Nat), .slice (some ⟨b, off, none⟩) xs.length cap, .int .i64 xs.length, .int .i64 (2 * (xs.length : Int)), .slice (some ⟨w.heap.size, 0, none⟩) 0 (2 * xs.length), .slice (some ⟨b, off, none⟩) xs.length cap, .int .i64 xs.length, .int .i64 k, .bool true, .int .i64 k, .slice (some ⟨b, off, none⟩) xs.length cap, .int .i64 k, .pointer (some ⟨b, off + k, none⟩), .int .u8 x, .int .u64 x, .func (.func 31) #[] #[.pointer (some ⟨BW + 1 + 1, 0, none⟩), .pointer (some ⟨BW + 1, 0, none⟩), .pointer (some ⟨BW, 0, none⟩)], .int .u8 (y.1 : Nat), undef, undef, undef, undef, u26, undef, undef], defers := [] }) ?assign ?body ?done ?stop
      case assign =>
        intro l y W' K hK
        gi_wp2
        exact hK
      case body =>
        rintro l pre y W' hF hlt2
        have hc := hF.1.1.1.cell
        have hrow := hF.1.1.2
        have hBs := hF.2.2.size
        have hpl : (P ++ pre).length + 1 ≤ 2 * xs.length := by rw [List.length_append, hPl]; omega
        obtain ⟨L, hL⟩ : ∃ L, (P ++ pre).length = L := ⟨_, rfl⟩
        rw [hL] at hc hrow hpl
        have hcn := cell_one_new W' (.int .u8 (y.1 : Nat)) 5
        have hbx := hF.1.1.1
        rw [hL] at hbx
        have HL := Lib.hid hL; clear hL
        have Hcn := Lib.hid hcn; clear hcn
        have HF := Lib.hid hF; clear hF
        clear y0 y1 y2
        gi_wp2_with (gi_at_builtin; refine wpListIn_append_fits _ rfl _ _ 23 rfl w.heap.size 5 i0 1 Try.underlying23 hi hz1 w.heap.size _ _ _ rfl (hrow.alloc _) ⟨W'.heap.size, 0, none⟩ 1 1 [.int .u8 (y.1 : Nat)] rfl rfl Hcn.out (by simp [Value.oneCell']) hpl ?_; intro w2 hown' hgrow; have hgrow' : (W'.alloc (.cells #[.int .u8 (y.1 : Nat)] 5)).grownBy w2 (Value.slice (some ⟨w.heap.size, 0, none⟩) L (2 * xs.length)).ownBlock := hgrow; obtain ⟨hv1, -, -, -, -⟩ := hbx.appended (by decide) hrow hBs hO hown' hgrow'; have Hst := Lib.hid (FullI.step hO hOW HF.out HL.out hown' hgrow); clear hrow hown' hgrow hgrow' hbx; have hc1 := hv1.cell; have hf1 := hv1.frozen)
        exact ⟨Hst.out.1.from _, Hst.out.2⟩
      case done =>
        rintro D ys W' hD rfl hF hK
        obtain ⟨⟨⟨hb1, hr1⟩, _⟩, hM1, hB1⟩ := hF
        rw [← Hsn.out] at hb1 hr1
        have hDW : BW + 3 ≤ D := by simp [HBW.out] at hD; omega
        have hfin : HexInv w O w.heap.size (some ⟨b, off, none⟩) xs cap { tmps := #[.slice (some ⟨b, off, none⟩) xs.length cap, undef, .string { data := #[] }, .pointer (some ⟨O, 0, none⟩), .int .i64 k, undef, .slice (some ⟨b, off, none⟩) xs.length cap, .int .i64 xs.length, .int .i64 (2 * (xs.length : Int)), .slice (some ⟨w.heap.size, 0, none⟩) 0 (2 * xs.length), .slice (some ⟨b, off, none⟩) xs.length cap, .int .i64 xs.length, .int .i64 ((k : Int) + 1), .bool true, .int .i64 k, .slice (some ⟨b, off, none⟩) xs.length cap, .int .i64 k, .pointer (some ⟨b, off + k, none⟩), .int .u8 x, .int .u64 x, .func (.func 31) #[] #[.pointer (some ⟨BW + 1 + 1, 0, none⟩), .pointer (some ⟨BW + 1, 0, none⟩), .pointer (some ⟨BW, 0, none⟩)], undef, undef, undef, undef, undef, .int .i64 ((k : Int) + 1), undef, undef], defers := { target := .collected D, args := #[] } :: DD } W' := by
          refine ⟨k + 1, D :: Ds, .int .i64 k, .bool true, .int .i64 k, .slice (some ⟨b, off, none⟩) xs.length cap, .int .i64 k, .pointer (some ⟨b, off + k, none⟩), .int .u8 x, .int .u64 x, .func (.func 31) #[] #[.pointer (some ⟨BW + 1 + 1, 0, none⟩), .pointer (some ⟨BW + 1, 0, none⟩), .pointer (some ⟨BW, 0, none⟩)], .int .i64 ((k : Int) + 1), by omega, ?_, ⟨hb1, hr1⟩, ?_, ?_, ?_, hB1⟩
          · rw [← HDD.out]; rfl
          · intro E hE
            rcases List.mem_cons.1 hE with rfl | hE
            · exact hK
            · exact hM1 E hE
          · exact List.nodup_cons.2 ⟨fun h => by have := hM4.out D h; omega, HN.out⟩
          · intro E hE
            rcases List.mem_cons.1 hE with rfl | hE
            · omega
            · exact HDs.out E hE
        have Hfin := Lib.hid hfin
        clear hfin hb1 hr1 hM1 hB1 hK
        gi_wp2
        exact ⟨Hfin.out, by simp [intOf]; omega⟩
      case stop =>
        rintro D c pre W' _ _ h _
        exact h.elim
    · obtain rfl : k = xs.length := by omega
      rw [List.take_length] at hbo hro
      have hcv := run_text W w.heap.size w.heap.size (2 * xs.length) (hexO xs) hro
      have hbc := hbo.cell
      have HM := Lib.hid hM
      have HN := Lib.hid hN
      have HDs := Lib.hid hDs
      have hB2 := hB.size
      clear hbo hro hM hN hDs hx
      gi_wp2
      rw [← HDD.out]
      refine leaves_marks (n₀ := w.heap.size) (v := .string (strO (hexO xs))) (w0 := w) (fun W => ?_) (fun W hb => ⟨rfl, hb⟩) Ds W HM.out HN.out HDs.out hB hB2
      simp [results, Try.f19, go_sem]
end Go.Proofs.Ytfaokmmkgodfiaa
