/- A card: Send, Emit, Take, Len. -/
import Derived.Test.YtokfadlgiimaoaaRgC
import Derived.Test.YtokfadlgiimaoaaGAppend
namespace Go.Proofs.Ytokfadlgiimaoaa
open Go.RowKit Go.Sort

/-- A frame that was copied lies apart from the card. -/
theorem frOk_new {W W' : World} {g B sz : Nat} {cs : Array Value} {rs : Nat → Rg} {fs : Nat → List Fr} (h : CardR W g B sz cs rs fs) {a : Option Addr} {ys : List Nat} {c : Nat} (O : OwnSl W.heap.size a ys c W') : FrOk W' g rs ((a, ys.length, c), ys) := by
  refine ⟨O.bts, rfl, O.nilcap, fun b off e => ?_⟩
  have hg := blk_lt h.blk
  have h2 : W.heap.size ≤ b ∧ b < W'.heap.size := by
    obtain ⟨_, ⟨h1, _⟩ | ⟨g', h1, h2, hr⟩⟩ := O
    · dsimp only at e; rw [h1] at e; cases e
    · dsimp only at e; rw [h1] at e; cases e; exact ⟨h2, (hr.lt _ rfl).2⟩
  refine ⟨h2.2, by omega, fun i hi e2 => ?_⟩
  have := ((h.ring i hi).lt e2).1
  omega

set_option maxRecDepth 100000 in
set_option maxHeartbeats 2000000 in
theorem send_ok (g B sz : Nat) (ev now free : Int) (K : Keys) (fs : Nat → List Fr) (own : Nat → Prop) (a : Option Addr) (ys : List Nat) (cap : Nat) (w : World) (h : CardS w g B sz ev now free K fs own) (hB : B ≤ w.heap.size) (hy : Bts w a ys) (hn : a = none → cap = 0) (hl : ys.length ≤ 65535) (hlt : (fs 16).length < sz) :
    Calls Try.prog 17 #[.pointer (some ⟨g, 0, none⟩), .slice a ys.length cap] w fun e w' => e = .returned (.int .i64 0) ∧ (∃ (x : Fr) (own' : Nat → Prop), x.2 = ys ∧ CardS w' g B sz ev now free K (upd fs 16 (fs 16 ++ [x])) own' ∧ (∀ b, own' b → own b ∨ w.heap.size ≤ b)) ∧ Stay w w' own ∧ Below B w w' := by
  obtain ⟨cs, rs, h, ho⟩ := h
  have HM := Lib.hid (made_yes g sz cs _ w h.R.blk h.c2 h.R.szl.1)
  have H := Lib.hid h
  have HO := Lib.hid ho
  have HY := Lib.hid hy
  have HN := Lib.hid hn
  have HB := Lib.hid hB
  have i1 : ¬ (65535 : Int) < (ys.length : Int) := by omega
  have HL := Lib.hid hl
  have HLT := Lib.hid hlt
  clear h ho hy hn hB hl hlt
  go_enter Try.func17, Try.ntmps17
  go_upto_region 5 with (first
    | (go_at_call 33; refine HM.out.mono ?_; rintro e w' ⟨rfl, rfl⟩)
    | fail)
  have D := Lib.hid (Below.refl w.heap.size w).drew
  have Y1 := Lib.hid (HY.out.below D.out)
  have C1 := Lib.hid (H.out.below D.out)
  refine wp_region_held_drew (S := fun _ => True) (by kernel_rfl) trivial (fun hHeld => ?_)
  refine wpAnyH_take (i := 0) (oi := _) (v := ?_) rfl (by kernel_rfl) (by kernel_rfl) (by kernel_rfl) (fun _ _ _ h => h) (Or.inl ⟨by rfl, ?_⟩) (by assumption) ?_
  rotate_left
  · intro w hSw
    try dsimp only at hSw
    go_simp
    all_goals with_reducible rfl
  (try simp only [List.getElem_toArray]); (try simp only [List.getElem_cons_succ]); (try simp only [List.getElem_cons_zero]); try simp only [Act.put, List.setIfInBounds_toArray, List.set_cons_zero, List.set_cons_succ]
  refine wpAnyH_take (i := 1) (oi := _) (v := ?_) rfl (by kernel_rfl) (by kernel_rfl) (by kernel_rfl) (fun _ _ _ h => h) (Or.inl ⟨by rfl, ?_⟩) (by assumption) ?_
  rotate_left
  · intro w hSw
    try dsimp only at hSw
    go_simp
    all_goals with_reducible rfl
  (try simp only [List.getElem_toArray]); (try simp only [List.getElem_cons_succ]); (try simp only [List.getElem_cons_zero]); try simp only [Act.put, List.setIfInBounds_toArray, List.set_cons_zero, List.set_cons_succ]
  refine wpAnyH_take (i := 2) (oi := _) (v := ?_) rfl (by kernel_rfl) (by kernel_rfl) (by kernel_rfl) (fun _ _ _ h => h) (Or.inl ⟨by rfl, ?_⟩) (by assumption) ?_
  rotate_left
  · intro w hSw
    try dsimp only at hSw
    go_simp
    all_goals with_reducible rfl
  (try simp only [List.getElem_toArray]); (try simp only [List.getElem_cons_succ]); (try simp only [List.getElem_cons_zero]); try simp only [Act.put, List.setIfInBounds_toArray, List.set_cons_zero, List.set_cons_succ]
  refine wpAnyH_take (i := 3) (oi := _) (v := ?_) rfl (by kernel_rfl) (by kernel_rfl) (by kernel_rfl) (fun _ _ _ h => h) (Or.inl ⟨by rfl, ?_⟩) (by assumption) ?_
  rotate_left
  · intro w hSw
    try dsimp only at hSw
    go_simp
    all_goals with_reducible rfl
  (try simp only [List.getElem_toArray]); (try simp only [List.getElem_cons_succ]); (try simp only [List.getElem_cons_zero]); try simp only [Act.put, List.setIfInBounds_toArray, List.set_cons_zero, List.set_cons_succ]
  refine wpAnyH_ready (rs := [4]) (by kernel_rfl) (by simp) ?_
  refine (AllReadyH.cons (o := _) rfl (fun K hK => ?_) AllReadyH.nil)
  · refine step_append_new rfl (.const (.slice none 0 0)) (.tmp 14) rfl w.drew.heap.size rfl Y1.out HN.out (by rfl) (by rfl) (by have := HL.out; omega) (Nat.le_refl _) ?_
    intro a2 c2 V2 O b
    have O2 := Lib.hid O
    have E2 := Lib.hid b
    have C2 := Lib.hid (C1.out.below b)
    clear O b
    refine hK.out _ _ ?_ (fun hHeld => ?_)
    · trivial
    clear hK K
    (try simp only [List.getElem_toArray]); (try simp only [List.getElem_cons_succ]); (try simp only [List.getElem_cons_zero]); try simp only [Act.put, List.setIfInBounds_toArray, List.set_cons_zero, List.set_cons_succ]
    refine wpAnyH_ready (rs := [5]) (by kernel_rfl) (by simp) ?_
    refine (AllReadyH.cons (o := _) rfl (fun K hK => ?_) AllReadyH.nil)
    · (try simp only [List.getElem_toArray]); (try simp only [List.getElem_cons_succ]); (try simp only [List.getElem_cons_zero])
      go_simp
      go_at_call 34
      refine (card_put 16 (by omega) a2 ys c2 V2 C2.out.R HLT.out (frOk_new C1.out.R O2.out) (Nat.le_trans (Nat.le_trans HB.out D.out.size) E2.out.size)).mono ?_
      rintro e V3 ⟨rfl, ⟨cs', rs', r1, r2, r3⟩, r4, r5⟩
      try dsimp only
      have C3 := Lib.hid (C2.out.step 16 (by omega) r1 r2 r3 r4)
      have HR := Lib.hid r3
      have HS := Lib.hid r4
      have HW := Lib.hid r5
      clear r1 r2 r3 r4 r5
      refine hK.out _ _ ?_ (fun hHeld => ?_)
      · trivial
      clear hK K
      (try simp only [List.getElem_toArray]); (try simp only [List.getElem_cons_succ]); (try simp only [List.getElem_cons_zero]); try simp only [Act.put, List.setIfInBounds_toArray, List.set_cons_zero, List.set_cons_succ]
      refine wpAnyH_take (i := 6) (oi := _) (v := ?_) rfl (by kernel_rfl) (by kernel_rfl) (by kernel_rfl) (fun _ _ _ h => h) (Or.inl ⟨by rfl, ?_⟩) (by assumption) ?_
      rotate_left
      · intro w hSw
        try dsimp only at hSw
        go_simp
        all_goals with_reducible rfl
      (try simp only [List.getElem_toArray]); (try simp only [List.getElem_cons_succ]); (try simp only [List.getElem_cons_zero]); try simp only [Act.put, List.setIfInBounds_toArray, List.set_cons_zero, List.set_cons_succ]
      refine wpAnyH_done (by kernel_rfl) ?_ _
      go_wp2
      go_ret
      have sz2 : w.heap.size ≤ V2.heap.size := Nat.le_trans D.out.size E2.out.size
      refine ⟨rfl, ⟨((a2, ys.length, c2), ys), Owns g rs', rfl, ⟨cs', rs', C3.out, fun _ => Iff.rfl⟩, fun b hb => ?_⟩, ?_, ?_⟩
      · rcases owns_step HR.out b hb with h1 | h1
        · exact .inl ((HO.out b).2 h1)
        · exact .inr (by omega)
      · exact (Stay.of_below own (D.out.trans (E2.out.mono D.out.size))).trans (HS.out.stay HO.out) (fun _ h => .inl h)
      · exact ((D.out.trans (E2.out.mono D.out.size)).mono HB.out).trans HW.out

set_option maxHeartbeats 1000000 in
/-- Emit: at a time that may not be. -/
theorem emit_no (g B sz : Nat) (ev now free at0 : Int) (K : Keys) (fs : Nat → List Fr) (own : Nat → Prop) (w : World) (h : CardS w g B sz ev now free K fs own) (hb : at0 < now ∨ 1099511627776 < at0) :
    Calls Try.prog 18 #[.pointer (some ⟨g, 0, none⟩), .int .i64 at0] w fun e w' => e = .returned (.tuple #[.slice none 0 0, .bool false, .int .i64 7]) ∧ w = w' := by
  obtain ⟨cs, rs, h, ho⟩ := h
  have HM := Lib.hid (made_yes g sz cs _ w h.R.blk h.c2 h.R.szl.1)
  have c72 := (blk_cell h.R.blk 72).trans h.c72
  clear h ho
  by_cases i1 : at0 < now
  case' pos => clear hb
  case' neg => have i2 : 1099511627776 < at0 := by omega
  all_goals
    go_enter Try.func18, Try.ntmps18
    go_wp2_with (first
      | (go_at_call 33; refine HM.out.mono ?_; rintro e w' ⟨rfl, rfl⟩)
      | fail)
    go_ret3
    exact ⟨rfl, rfl⟩

set_option maxRecDepth 100000 in
set_option maxHeartbeats 2000000 in
theorem emit_wait (g B sz : Nat) (ev now free at0 : Int) (K : Keys) (fs : Nat → List Fr) (own : Nat → Prop) (w : World) (h : CardS w g B sz ev now free K fs own) (hb : now ≤ at0 ∧ at0 ≤ 1099511627776) (hf : at0 < free ∨ fs 16 = []) (hB : B ≤ w.heap.size) :
    Calls Try.prog 18 #[.pointer (some ⟨g, 0, none⟩), .int .i64 at0] w fun e w' => e = .returned (.tuple #[.slice none 0 0, .bool false, .int .i64 0]) ∧ CardS w' g B sz ev at0 free K fs own ∧ Stay w w' own ∧ Below B w w' := by
  obtain ⟨cs, rs, h, ho⟩ := h
  have HM := Lib.hid (made_yes g sz cs _ w h.R.blk h.c2 h.R.szl.1)
  have c72 := (blk_cell h.R.blk 72).trans h.c72
  have f72 := blk_free h.R.blk 72
  have i1 : ¬ at0 < now := by omega
  have i2 : ¬ 1099511627776 < at0 := by omega
  have H1 := Lib.hid (h.setNow at0)
  have g1 := Lib.hid (gset w g 72 (.int .i64 at0))
  have hgo : own g := (ho g).2 (.inl rfl)
  have ST : Hid (Stay w (w.setCell ⟨g, 72, none⟩ (.int .i64 at0)) own) := Lib.hid ⟨g1.out.size, fun b hb hn => g1.out.block b hb (fun e => hn (by rw [Option.some.inj e]; exact hgo))⟩
  have BW : Hid (Below B w (w.setCell ⟨g, 72, none⟩ (.int .i64 at0))) := Lib.hid ((Below.refl B w).grown g1.out hB (fun k e => by cases e; exact h.R.bg))
  have HO := Lib.hid ho
  have HBB := Lib.hid h.R.bg
  clear h ho g1 hgo
  go_enter Try.func18, Try.ntmps18
  go_upto_region 6 with (first
    | (go_at_call 33; refine HM.out.mono ?_; rintro e w' ⟨rfl, rfl⟩)
    | fail)
  clear c72 f72 HM
  generalize w.setCell ⟨g, 72, none⟩ (.int .i64 at0) = V1 at H1 ST BW ⊢
  have c73 := (blk_cell H1.out.R.blk 73).trans H1.out.c73
  by_cases i3 : at0 < free
  · go_wp2
    go_ret3
    exact ⟨rfl, ⟨_, rs, H1.out, HO.out⟩, ST.out, BW.out⟩
  · have he : fs 16 = [] := by rcases hf with h1 | h1; exact absurd h1 i3; exact h1
    have HT := Lib.hid (card_empty 16 (by omega) V1 H1.out.R he)
    have HBs := Lib.hid BW.out.size
    clear hf he
    go_wp2_with (first
      | (go_at_call 36; refine HT.out.mono ?_; rintro e V2 ⟨rfl, b⟩; have E2 := Lib.hid b; clear b)
      | fail)
    go_ret3
    exact ⟨rfl, ⟨_, rs, H1.out.below E2.out, HO.out⟩, ST.out.trans (Stay.of_below own E2.out) (fun _ h => .inl h), BW.out.trans (E2.out.mono (Nat.le_trans hB HBs.out))⟩

set_option maxRecDepth 100000 in
set_option maxHeartbeats 2000000 in
theorem emit_out (g B sz : Nat) (ev now free at0 : Int) (K : Keys) (fs : Nat → List Fr) (own : Nat → Prop) (x : Fr) (l : List Fr) (w : World) (h : CardS w g B sz ev now free K fs own) (hb : now ≤ at0 ∧ at0 ≤ 1099511627776) (h0 : 0 ≤ now) (hev : 0 ≤ ev ∧ ev ≤ 1048576) (hf : free ≤ at0) (hl : fs 16 = x :: l) (hB : B ≤ w.heap.size) :
    Calls Try.prog 18 #[.pointer (some ⟨g, 0, none⟩), .int .i64 at0] w fun e w' => e = .returned (.tuple #[sv x.1, .bool true, .int .i64 0]) ∧ (∃ own' : Nat → Prop, CardS w' g B sz ev at0 (at0 + ev) K (upd fs 16 l) own' ∧ (∀ b, own' b → own b ∨ w.heap.size ≤ b)) ∧ (Bts w' x.1.1 x.2 ∧ x.1.2.1 = x.2.length ∧ ∀ b off, x.1.1 = some ⟨b, off, none⟩ → ¬ own b ∧ b < w.heap.size) ∧ Stay w w' own ∧ Below B w w' := by
  obtain ⟨cs, rs, h, ho⟩ := h
  have HM := Lib.hid (made_yes g sz cs _ w h.R.blk h.c2 h.R.szl.1)
  have c72 := (blk_cell h.R.blk 72).trans h.c72
  have f72 := blk_free h.R.blk 72
  have i1 : ¬ at0 < now := by omega
  have i2 : ¬ 1099511627776 < at0 := by omega
  have i3 : ¬ at0 < free := by omega
  have W1 : IntKind.i64.wrap (at0 + ev) = at0 + ev := IntWalk.i64_in _ ⟨by omega, by omega⟩
  have H1 := Lib.hid (h.setNow at0)
  have g1 := Lib.hid (gset w g 72 (.int .i64 at0))
  have hgo : own g := (ho g).2 (.inl rfl)
  have ST : Hid (Stay w (w.setCell ⟨g, 72, none⟩ (.int .i64 at0)) own) := Lib.hid ⟨g1.out.size, fun b hb hn => g1.out.block b hb (fun e => hn (by rw [Option.some.inj e]; exact hgo))⟩
  have BW : Hid (Below B w (w.setCell ⟨g, 72, none⟩ (.int .i64 at0))) := Lib.hid ((Below.refl B w).grown g1.out hB (fun k e => by cases e; exact h.R.bg))
  have HO := Lib.hid ho
  have HBB := Lib.hid h.R.bg
  have HFR := Lib.hid (h.R.fr 16 (by omega) x (by rw [hl]; exact List.mem_cons_self))
  clear h ho g1 hgo
  obtain ⟨⟨xa, xn, xc⟩, ys⟩ := x
  go_enter Try.func18, Try.ntmps18
  go_upto_region 6 with (first
    | (go_at_call 33; refine HM.out.mono ?_; rintro e w' ⟨rfl, rfl⟩)
    | fail)
  clear c72 f72 HM
  generalize w.setCell ⟨g, 72, none⟩ (.int .i64 at0) = V1 at H1 ST BW ⊢
  have c73 := (blk_cell H1.out.R.blk 73).trans H1.out.c73
  have HB1 : Hid (B ≤ V1.heap.size) := Lib.hid (Nat.le_trans hB BW.out.size)
  have HT := Lib.hid (card_take 16 (by omega) ((xa, xn, xc), ys) l V1 H1.out.R hl HB1.out)
  clear hl
  go_upto_region 9 with (first
    | (go_at_call 36; refine HT.out.mono ?_; rintro e V2 ⟨rfl, ⟨cs', rs', r1, r2, r3⟩, r4, r5⟩; unfold sv; dsimp only; have C2 := Lib.hid (H1.out.step 16 (by omega) r1 r2 r3 r4); have HR := Lib.hid r3; have HS := Lib.hid (r4.stay HO.out); have HW := Lib.hid (BW.out.trans r5); clear r1 r2 r3 r4 r5 c73)
    | fail)
  have c3 := (blk_cell C2.out.R.blk 3).trans C2.out.c3
  have c73 := (blk_cell C2.out.R.blk 73).trans C2.out.c73
  have f73 := blk_free C2.out.R.blk 73
  have H3 := Lib.hid (C2.out.setFree (at0 + ev))
  have g3 := Lib.hid (gset V2 g 73 (.int .i64 (at0 + ev)))
  go_upto_region 11 with fail
  clear c3 c73 f73
  have HWW : Hid (Below B w (V2.setCell ⟨g, 73, none⟩ (.int .i64 (at0 + ev)))) := Lib.hid (HW.out.grown g3.out (Nat.le_trans hB HW.out.size) (fun k e => by cases e; exact HBB.out))
  generalize V2.setCell ⟨g, 73, none⟩ (.int .i64 (at0 + ev)) = V3 at H3 g3 HWW ⊢
  go_wp2
  go_ret3
  have hgo : own g := (HO.out g).2 (.inl rfl)
  have hst : Stay w V3 own := by
    have s1 := ST.out.trans HS.out (fun _ h => .inl h)
    exact ⟨Nat.le_trans s1.1 g3.out.size, fun b hb hn => (g3.out.block b (Nat.lt_of_lt_of_le hb s1.1) (fun e => hn (by rw [Option.some.inj e]; exact hgo))).trans (s1.2 b hb hn)⟩
  have hno : ∀ b off, xa = some ⟨b, off, none⟩ → ¬ own b := fun b off e hn => by
    rcases (HO.out b).1 hn with h1 | ⟨i, hi, h1⟩
    · exact (HFR.out.2.2.2 b off e).2.1 h1
    · exact (HFR.out.2.2.2 b off e).2.2 i hi h1
  refine ⟨rfl, ⟨Owns g rs', ⟨_, rs', H3.out, fun _ => Iff.rfl⟩, fun b hb => ?_⟩, ⟨hst.bts HFR.out.1 hno, HFR.out.2.1, fun b off e => ⟨hno b off e, (HFR.out.2.2.2 b off e).1⟩⟩, hst, HWW.out⟩
  · rcases owns_step HR.out b hb with h1 | h1
    · exact .inl ((HO.out b).2 h1)
    · exact .inr (Nat.le_trans ST.out.1 h1)
end Go.Proofs.Ytokfadlgiimaoaa
