/- A card: Receive; which queue a frame comes to that is too short. -/
import Derived.Test.YtokfadlgiimaoaaRgD
import Derived.Test.YtokfadlgiimaoaaEthP
namespace Go.Proofs.Ytokfadlgiimaoaa
open Go.RowKit Go.Sort

set_option maxRecDepth 100000 in
set_option maxHeartbeats 1000000 in
theorem qof_short (c : Array Value) (hc : c.size = 4) (a : Option Addr) (ys : List Nat) (cap : Nat) (w : World) (hl : ys.length < 14) :
    Calls Try.prog 24 #[.agg c, .slice a ys.length cap] w fun e w' => e = .returned (.int .i64 0) ∧ Below w.heap.size w w' := by
  obtain ⟨v0, v1, v2, v3, rfl⟩ : ∃ v0 v1 v2 v3, c = #[v0, v1, v2, v3] := by
    obtain ⟨l⟩ := c
    match l, hc with
    | [v0, v1, v2, v3], _ => exact ⟨v0, v1, v2, v3, rfl⟩
  clear hc
  have ba := Lib.hid ((Below.refl w.heap.size w).alloc (Nat.le_refl _) (.cells #[v0, v1, v2, v3] 29))
  have HS := fun W => Lib.hid (eth_short a ys cap W hl)
  have HS' := Lib.hid HS
  clear HS
  go_enter Try.func24, Try.ntmps24
  go_upto_region 2 with (first
    | (go_at_call 38; refine (HS'.out _).out.mono ?_; rintro e V1 ⟨rfl, b⟩; have E1 := Lib.hid (ba.out.trans (b.mono ba.out.size)); clear b)
    | fail)
  have E2 := Lib.hid (E1.out.alloc E1.out.size (.cells #[.int .u64 0, .int .u64 0, .int .i64 0, .slice none 0 0] 66))
  generalize V1.alloc (.cells #[.int .u64 0, .int .u64 0, .int .i64 0, .slice none 0 0] 66) = V2 at E2 ⊢
  go_wp2
  go_ret
  exact ⟨rfl, E2.out⟩

theorem ownSl_at {B : Nat} {a : Option Addr} {ys : List Nat} {c : Nat} {W : World} (O : OwnSl B a ys c W) : ∀ b off, a = some ⟨b, off, none⟩ → B ≤ b := fun b off e => by
  obtain ⟨_, ⟨h1, _⟩ | ⟨g', h1, h2, _⟩⟩ := O
  · rw [h1] at e; cases e
  · rw [h1] at e; cases e; exact h2

set_option maxRecDepth 100000 in
set_option maxHeartbeats 2000000 in
theorem recv_okF (g B sz : Nat) (ev now free : Int) (K : Keys) (fs : Nat → List Fr) (own : Nat → Prop) (a : Option Addr) (ys : List Nat) (cap q : Nat) (w : World) (h : CardS w g B sz ev now free K fs own) (hB : B ≤ w.heap.size) (hy : Bts w a ys) (hn : a = none → cap = 0) (hl : ys.length ≤ 65535) (hq : q < 16) (hlt : (fs q).length < sz)
    (hQ : ∀ W, Bts W a ys → KeysOk W own K → Calls Try.prog 24 #[.agg #[.slice K.ka K.ks.length K.kc, .slice K.ta K.ts.length K.tc, .int .i64 (sz : Nat), .int .i64 ev], .slice a ys.length cap] W fun e w' => e = .returned (.int .i64 (q : Nat)) ∧ Below W.heap.size W w') :
    Calls Try.prog 13 #[.pointer (some ⟨g, 0, none⟩), .slice a ys.length cap] w fun e w' => e = .returned (.tuple #[.int .i64 (q : Nat), .int .i64 0]) ∧ (∃ (x : Fr) (own' : Nat → Prop), x.2 = ys ∧ (∀ b off, x.1.1 = some ⟨b, off, none⟩ → w.heap.size ≤ b) ∧ CardS w' g B sz ev now free K (upd fs q (fs q ++ [x])) own' ∧ (∀ b, own' b → own b ∨ w.heap.size ≤ b)) ∧ Stay w w' own ∧ Below B w w' := by
  obtain ⟨cs, rs, h, ho⟩ := h
  have HM := Lib.hid (made_yes g sz cs _ w h.R.blk h.c2 h.R.szl.1)
  have H := Lib.hid h
  have HO := Lib.hid ho
  have HY := Lib.hid hy
  have HN := Lib.hid hn
  have HB := Lib.hid hB
  have i1 : ¬ (65535 : Int) < (ys.length : Int) := by omega
  have HL := Lib.hid hl
  have HLT := Lib.hid hlt
  have HKO : Hid (KeysOk w own K) := Lib.hid (h.keys.keep (Stay.of_below _ (Below.refl _ w)) (fun b hb => .inl ((ho b).1 hb)))
  have HQ := Lib.hid (hQ w hy HKO.out)
  have iq : (q : Int) < 16 := by omega
  have iq0 : ¬ (q : Int) < 0 := by omega
  have c0 := (blk_cell h.R.blk 0).trans h.c0
  have c1 := (blk_cell h.R.blk 1).trans h.c1
  have c2 := (blk_cell h.R.blk 2).trans h.c2
  have c3 := (blk_cell h.R.blk 3).trans h.c3
  have HQ16 := Lib.hid hq
  clear h ho hy hn hB hl hlt hQ HKO
  go_enter Try.func13, Try.ntmps13
  go_upto_region 6 with (first
    | (go_at_call 33; refine HM.out.mono ?_; rintro e w' ⟨rfl, rfl⟩)
    | (go_at_call 24; refine HQ.out.mono ?_; rintro e V1 ⟨rfl, b⟩; have E1 := Lib.hid b; clear b)
    | fail)
  have D := Lib.hid (E1.out.trans ((Below.refl V1.heap.size V1).drew.mono E1.out.size))
  have Y1 := Lib.hid (HY.out.below D.out)
  have C1 := Lib.hid (H.out.below D.out)
  clear c0 c1 c2 c3
  refine wp_region_held_drew (S := fun _ => True) (by kernel_rfl) trivial (fun hHeld => ?_)
  refine wpAnyH_take (i := 0) (oi := _) (v := ?_) rfl (by kernel_rfl) (by kernel_rfl) (by kernel_rfl) (fun _ _ _ h => h) (Or.inl ⟨by rfl, ?_⟩) (by assumption) ?_
  rotate_left
  · intro w hSw
    try dsimp only at hSw
    go_simp
    all_goals with_reducible rfl
  (try simp only [List.getElem_toArray]); (try simp only [List.getElem_cons_succ]); (try simp only [List.getElem_cons_zero]); try simp only [Act.put, List.setIfInBounds_toArray, List.set_cons_zero, List.set_cons_succ]
  refine wpAnyH_take (i := 1) (oi := _) (v := ?_) rfl (by kernel_rfl) (by kernel_rfl) (by kernel_rfl) (fun _ _ _ h => h) (Or.inl ⟨by rfl, ?_⟩) (by assumption) ?_
  rotate_left
  · intro w hSw
    try dsimp only at hSw
    go_simp
    all_goals with_reducible rfl
  (try simp only [List.getElem_toArray]); (try simp only [List.getElem_cons_succ]); (try simp only [List.getElem_cons_zero]); try simp only [Act.put, List.setIfInBounds_toArray, List.set_cons_zero, List.set_cons_succ]
  refine wpAnyH_take (i := 2) (oi := _) (v := ?_) rfl (by kernel_rfl) (by kernel_rfl) (by kernel_rfl) (fun _ _ _ h => h) (Or.inl ⟨by rfl, ?_⟩) (by assumption) ?_
  rotate_left
  · intro w hSw
    try dsimp only at hSw
    go_simp
    all_goals with_reducible rfl
  (try simp only [List.getElem_toArray]); (try simp only [List.getElem_cons_succ]); (try simp only [List.getElem_cons_zero]); try simp only [Act.put, List.setIfInBounds_toArray, List.set_cons_zero, List.set_cons_succ]
  refine wpAnyH_take (i := 3) (oi := _) (v := ?_) rfl (by kernel_rfl) (by kernel_rfl) (by kernel_rfl) (fun _ _ _ h => h) (Or.inl ⟨by rfl, ?_⟩) (by assumption) ?_
  rotate_left
  · intro w hSw
    try dsimp only at hSw
    go_simp
    all_goals with_reducible rfl
  (try simp only [List.getElem_toArray]); (try simp only [List.getElem_cons_succ]); (try simp only [List.getElem_cons_zero]); try simp only [Act.put, List.setIfInBounds_toArray, List.set_cons_zero, List.set_cons_succ]
  refine wpAnyH_take (i := 4) (oi := _) (v := ?_) rfl (by kernel_rfl) (by kernel_rfl) (by kernel_rfl) (fun _ _ _ h => h) (Or.inl ⟨by rfl, ?_⟩) (by assumption) ?_
  rotate_left
  · intro w hSw
    try dsimp only at hSw
    go_simp
    all_goals with_reducible rfl
  (try simp only [List.getElem_toArray]); (try simp only [List.getElem_cons_succ]); (try simp only [List.getElem_cons_zero]); try simp only [Act.put, List.setIfInBounds_toArray, List.set_cons_zero, List.set_cons_succ]
  refine wpAnyH_take (i := 5) (oi := _) (v := ?_) rfl (by kernel_rfl) (by kernel_rfl) (by kernel_rfl) (fun _ _ _ h => h) (Or.inl ⟨by rfl, ?_⟩) (by assumption) ?_
  rotate_left
  · intro w hSw
    try dsimp only at hSw
    go_simp
    all_goals with_reducible rfl
  (try simp only [List.getElem_toArray]); (try simp only [List.getElem_cons_succ]); (try simp only [List.getElem_cons_zero]); try simp only [Act.put, List.setIfInBounds_toArray, List.set_cons_zero, List.set_cons_succ]
  refine wpAnyH_ready (rs := [6]) (by kernel_rfl) (by simp) ?_
  refine (AllReadyH.cons (o := _) rfl (fun K hK => ?_) AllReadyH.nil)
  · refine step_append_new rfl (.const (.slice none 0 0)) (.tmp 24) rfl V1.drew.heap.size rfl Y1.out HN.out (by rfl) (by rfl) (by have := HL.out; omega) (Nat.le_refl _) ?_
    intro a2 c2 V2 O b
    have O2 := Lib.hid O
    have E2 := Lib.hid b
    have C2 := Lib.hid (C1.out.below b)
    have HP := Lib.hid (card_put q (by omega) a2 ys c2 V2 C2.out.R HLT.out (frOk_new C1.out.R O2.out) (Nat.le_trans (Nat.le_trans HB.out D.out.size) E2.out.size))
    rw [show 4 + 4 * q = 4 + q * 4 by omega] at HP
    clear O b
    refine hK.out _ _ ?_ (fun hHeld => ?_)
    · trivial
    clear hK K
    (try simp only [List.getElem_toArray]); (try simp only [List.getElem_cons_succ]); (try simp only [List.getElem_cons_zero]); try simp only [Act.put, List.setIfInBounds_toArray, List.set_cons_zero, List.set_cons_succ]
    refine wpAnyH_ready (rs := [7]) (by kernel_rfl) (by simp) ?_
    refine (AllReadyH.cons (o := _) rfl (fun K hK => ?_) AllReadyH.nil)
    · (try simp only [List.getElem_toArray]); (try simp only [List.getElem_cons_succ]); (try simp only [List.getElem_cons_zero])
      go_simp
      go_at_call 34
      refine HP.out.mono ?_
      rintro e V3 ⟨rfl, ⟨cs', rs', r1, r2, r3⟩, r4, r5⟩
      try dsimp only
      have C3 := Lib.hid (C2.out.step q (by have := HQ16.out; omega) r1 (fun i hi => r2 i (by omega)) r3 r4)
      have HR := Lib.hid r3
      have HS := Lib.hid r4
      have HW := Lib.hid r5
      clear r1 r2 r3 r4 r5
      refine hK.out _ _ ?_ (fun hHeld => ?_)
      · trivial
      clear hK K
      (try simp only [List.getElem_toArray]); (try simp only [List.getElem_cons_succ]); (try simp only [List.getElem_cons_zero]); try simp only [Act.put, List.setIfInBounds_toArray, List.set_cons_zero, List.set_cons_succ]
      refine wpAnyH_take (i := 8) (oi := _) (v := ?_) rfl (by kernel_rfl) (by kernel_rfl) (by kernel_rfl) (fun _ _ _ h => h) (Or.inl ⟨by rfl, ?_⟩) (by assumption) ?_
      rotate_left
      · intro w hSw
        try dsimp only at hSw
        go_simp
        all_goals with_reducible rfl
      (try simp only [List.getElem_toArray]); (try simp only [List.getElem_cons_succ]); (try simp only [List.getElem_cons_zero]); try simp only [Act.put, List.setIfInBounds_toArray, List.set_cons_zero, List.set_cons_succ]
      refine wpAnyH_done (by kernel_rfl) ?_ _
      go_wp2
      go_ret2
      have sz2 : w.heap.size ≤ V2.heap.size := Nat.le_trans D.out.size E2.out.size
      refine ⟨rfl, ⟨((a2, ys.length, c2), ys), Owns g rs', rfl, fun b off e => Nat.le_trans D.out.size (ownSl_at O2.out b off e), ⟨cs', rs', C3.out, fun _ => Iff.rfl⟩, fun b hb => ?_⟩, ?_, ?_⟩
      · rcases owns_step HR.out b hb with h1 | h1
        · exact .inl ((HO.out b).2 h1)
        · exact .inr (by omega)
      · exact (Stay.of_below own (D.out.trans (E2.out.mono D.out.size))).trans (HS.out.stay HO.out) (fun _ h => .inl h)
      · exact ((D.out.trans (E2.out.mono D.out.size)).mono HB.out).trans HW.out

theorem recv_ok (g B sz : Nat) (ev now free : Int) (K : Keys) (fs : Nat → List Fr) (own : Nat → Prop) (a : Option Addr) (ys : List Nat) (cap q : Nat) (w : World) (h : CardS w g B sz ev now free K fs own) (hB : B ≤ w.heap.size) (hy : Bts w a ys) (hn : a = none → cap = 0) (hl : ys.length ≤ 65535) (hq : q < 16) (hlt : (fs q).length < sz)
    (hQ : ∀ W, Bts W a ys → KeysOk W own K → Calls Try.prog 24 #[.agg #[.slice K.ka K.ks.length K.kc, .slice K.ta K.ts.length K.tc, .int .i64 (sz : Nat), .int .i64 ev], .slice a ys.length cap] W fun e w' => e = .returned (.int .i64 (q : Nat)) ∧ Below W.heap.size W w') :
    Calls Try.prog 13 #[.pointer (some ⟨g, 0, none⟩), .slice a ys.length cap] w fun e w' => e = .returned (.tuple #[.int .i64 (q : Nat), .int .i64 0]) ∧ (∃ (x : Fr) (own' : Nat → Prop), x.2 = ys ∧ CardS w' g B sz ev now free K (upd fs q (fs q ++ [x])) own' ∧ (∀ b, own' b → own b ∨ w.heap.size ≤ b)) ∧ Stay w w' own ∧ Below B w w' := by
  refine (recv_okF g B sz ev now free K fs own a ys cap q w h hB hy hn hl hq hlt hQ).mono ?_
  rintro e w' ⟨h1, ⟨x, o, h2, _, h3, h4⟩, h5⟩
  exact ⟨h1, ⟨x, o, h2, h3, h4⟩, h5⟩

set_option maxRecDepth 100000 in
set_option maxHeartbeats 2000000 in
theorem recv_long (g B sz : Nat) (ev now free : Int) (K : Keys) (fs : Nat → List Fr) (own : Nat → Prop) (a : Option Addr) (n : Nat) (cap : Nat) (w : World) (h : CardS w g B sz ev now free K fs own) (hl : 65535 < n) :
    Calls Try.prog 13 #[.pointer (some ⟨g, 0, none⟩), .slice a n cap] w fun e w' => e = .returned (.tuple #[.int .i64 0, .int .i64 5]) ∧ w = w' := by
  obtain ⟨cs, rs, h, ho⟩ := h
  have HM := Lib.hid (made_yes g sz cs _ w h.R.blk h.c2 h.R.szl.1)
  have i1 : (65535 : Int) < (n : Int) := by omega
  clear h ho hl
  go_enter Try.func13, Try.ntmps13
  go_wp2_with (first
    | (go_at_call 33; refine HM.out.mono ?_; rintro e w' ⟨rfl, rfl⟩)
    | fail)
  go_ret2
  exact ⟨rfl, rfl⟩

set_option maxRecDepth 100000 in
set_option maxHeartbeats 2000000 in
theorem recv_full (g B sz : Nat) (ev now free : Int) (K : Keys) (fs : Nat → List Fr) (own : Nat → Prop) (a : Option Addr) (ys : List Nat) (cap q : Nat) (w : World) (h : CardS w g B sz ev now free K fs own) (hB : B ≤ w.heap.size) (hy : Bts w a ys) (hn : a = none → cap = 0) (hl : ys.length ≤ 65535) (hq : q < 16) (hlt : (fs q).length = sz)
    (hQ : ∀ W, Bts W a ys → KeysOk W own K → Calls Try.prog 24 #[.agg #[.slice K.ka K.ks.length K.kc, .slice K.ta K.ts.length K.tc, .int .i64 (sz : Nat), .int .i64 ev], .slice a ys.length cap] W fun e w' => e = .returned (.int .i64 (q : Nat)) ∧ Below W.heap.size W w') :
    Calls Try.prog 13 #[.pointer (some ⟨g, 0, none⟩), .slice a ys.length cap] w fun e w' => e = .returned (.tuple #[.int .i64 (q : Nat), .int .i64 81]) ∧ CardS w' g B sz ev now free K fs own ∧ Stay w w' own ∧ Below B w w' := by
  obtain ⟨cs, rs, h, ho⟩ := h
  have HM := Lib.hid (made_yes g sz cs _ w h.R.blk h.c2 h.R.szl.1)
  have H := Lib.hid h
  have HO := Lib.hid ho
  have HY := Lib.hid hy
  have HN := Lib.hid hn
  have HB := Lib.hid hB
  have i1 : ¬ (65535 : Int) < (ys.length : Int) := by omega
  have HL := Lib.hid hl
  have HLT := Lib.hid hlt
  have HKO : Hid (KeysOk w own K) := Lib.hid (h.keys.keep (Stay.of_below _ (Below.refl _ w)) (fun b hb => .inl ((ho b).1 hb)))
  have HQ := Lib.hid (hQ w hy HKO.out)
  have iq : (q : Int) < 16 := by omega
  have iq0 : ¬ (q : Int) < 0 := by omega
  have c0 := (blk_cell h.R.blk 0).trans h.c0
  have c1 := (blk_cell h.R.blk 1).trans h.c1
  have c2 := (blk_cell h.R.blk 2).trans h.c2
  have c3 := (blk_cell h.R.blk 3).trans h.c3
  have HQ16 := Lib.hid hq
  clear h ho hy hn hB hl hlt hQ HKO
  go_enter Try.func13, Try.ntmps13
  go_upto_region 6 with (first
    | (go_at_call 33; refine HM.out.mono ?_; rintro e w' ⟨rfl, rfl⟩)
    | (go_at_call 24; refine HQ.out.mono ?_; rintro e V1 ⟨rfl, b⟩; have E1 := Lib.hid b; clear b)
    | fail)
  have D := Lib.hid (E1.out.trans ((Below.refl V1.heap.size V1).drew.mono E1.out.size))
  have Y1 := Lib.hid (HY.out.below D.out)
  have C1 := Lib.hid (H.out.below D.out)
  clear c0 c1 c2 c3
  refine wp_region_held_drew (S := fun _ => True) (by kernel_rfl) trivial (fun hHeld => ?_)
  refine wpAnyH_take (i := 0) (oi := _) (v := ?_) rfl (by kernel_rfl) (by kernel_rfl) (by kernel_rfl) (fun _ _ _ h => h) (Or.inl ⟨by rfl, ?_⟩) (by assumption) ?_
  rotate_left
  · intro w hSw
    try dsimp only at hSw
    go_simp
    all_goals with_reducible rfl
  (try simp only [List.getElem_toArray]); (try simp only [List.getElem_cons_succ]); (try simp only [List.getElem_cons_zero]); try simp only [Act.put, List.setIfInBounds_toArray, List.set_cons_zero, List.set_cons_succ]
  refine wpAnyH_take (i := 1) (oi := _) (v := ?_) rfl (by kernel_rfl) (by kernel_rfl) (by kernel_rfl) (fun _ _ _ h => h) (Or.inl ⟨by rfl, ?_⟩) (by assumption) ?_
  rotate_left
  · intro w hSw
    try dsimp only at hSw
    go_simp
    all_goals with_reducible rfl
  (try simp only [List.getElem_toArray]); (try simp only [List.getElem_cons_succ]); (try simp only [List.getElem_cons_zero]); try simp only [Act.put, List.setIfInBounds_toArray, List.set_cons_zero, List.set_cons_succ]
  refine wpAnyH_take (i := 2) (oi := _) (v := ?_) rfl (by kernel_rfl) (by kernel_rfl) (by kernel_rfl) (fun _ _ _ h => h) (Or.inl ⟨by rfl, ?_⟩) (by assumption) ?_
  rotate_left
  · intro w hSw
    try dsimp only at hSw
    go_simp
    all_goals with_reducible rfl
  (try simp only [List.getElem_toArray]); (try simp only [List.getElem_cons_succ]); (try simp only [List.getElem_cons_zero]); try simp only [Act.put, List.setIfInBounds_toArray, List.set_cons_zero, List.set_cons_succ]
  refine wpAnyH_take (i := 3) (oi := _) (v := ?_) rfl (by kernel_rfl) (by kernel_rfl) (by kernel_rfl) (fun _ _ _ h => h) (Or.inl ⟨by rfl, ?_⟩) (by assumption) ?_
  rotate_left
  · intro w hSw
    try dsimp only at hSw
    go_simp
    all_goals with_reducible rfl
  (try simp only [List.getElem_toArray]); (try simp only [List.getElem_cons_succ]); (try simp only [List.getElem_cons_zero]); try simp only [Act.put, List.setIfInBounds_toArray, List.set_cons_zero, List.set_cons_succ]
  refine wpAnyH_take (i := 4) (oi := _) (v := ?_) rfl (by kernel_rfl) (by kernel_rfl) (by kernel_rfl) (fun _ _ _ h => h) (Or.inl ⟨by rfl, ?_⟩) (by assumption) ?_
  rotate_left
  · intro w hSw
    try dsimp only at hSw
    go_simp
    all_goals with_reducible rfl
  (try simp only [List.getElem_toArray]); (try simp only [List.getElem_cons_succ]); (try simp only [List.getElem_cons_zero]); try simp only [Act.put, List.setIfInBounds_toArray, List.set_cons_zero, List.set_cons_succ]
  refine wpAnyH_take (i := 5) (oi := _) (v := ?_) rfl (by kernel_rfl) (by kernel_rfl) (by kernel_rfl) (fun _ _ _ h => h) (Or.inl ⟨by rfl, ?_⟩) (by assumption) ?_
  rotate_left
  · intro w hSw
    try dsimp only at hSw
    go_simp
    all_goals with_reducible rfl
  (try simp only [List.getElem_toArray]); (try simp only [List.getElem_cons_succ]); (try simp only [List.getElem_cons_zero]); try simp only [Act.put, List.setIfInBounds_toArray, List.set_cons_zero, List.set_cons_succ]
  refine wpAnyH_ready (rs := [6]) (by kernel_rfl) (by simp) ?_
  refine (AllReadyH.cons (o := _) rfl (fun K hK => ?_) AllReadyH.nil)
  · refine step_append_new rfl (.const (.slice none 0 0)) (.tmp 24) rfl V1.drew.heap.size rfl Y1.out HN.out (by rfl) (by rfl) (by have := HL.out; omega) (Nat.le_refl _) ?_
    intro a2 c2 V2 O b
    have O2 := Lib.hid O
    have E2 := Lib.hid b
    have C2 := Lib.hid (C1.out.below b)
    have HP := Lib.hid (card_full q (by omega) a2 ys.length c2 V2 C2.out.R HLT.out)
    rw [show 4 + 4 * q = 4 + q * 4 by omega] at HP
    clear O b
    refine hK.out _ _ ?_ (fun hHeld => ?_)
    · trivial
    clear hK K
    (try simp only [List.getElem_toArray]); (try simp only [List.getElem_cons_succ]); (try simp only [List.getElem_cons_zero]); try simp only [Act.put, List.setIfInBounds_toArray, List.set_cons_zero, List.set_cons_succ]
    refine wpAnyH_ready (rs := [7]) (by kernel_rfl) (by simp) ?_
    refine (AllReadyH.cons (o := _) rfl (fun K hK => ?_) AllReadyH.nil)
    · (try simp only [List.getElem_toArray]); (try simp only [List.getElem_cons_succ]); (try simp only [List.getElem_cons_zero])
      go_simp
      go_at_call 34
      refine HP.out.mono ?_
      rintro e V3 ⟨rfl, b⟩
      try dsimp only
      have C3 := Lib.hid (C2.out.below b)
      have E3 := Lib.hid ((D.out.trans (E2.out.mono D.out.size)).trans (b.mono (Nat.le_trans D.out.size E2.out.size)))
      clear b
      refine hK.out _ _ ?_ (fun hHeld => ?_)
      · trivial
      clear hK K
      (try simp only [List.getElem_toArray]); (try simp only [List.getElem_cons_succ]); (try simp only [List.getElem_cons_zero]); try simp only [Act.put, List.setIfInBounds_toArray, List.set_cons_zero, List.set_cons_succ]
      refine wpAnyH_take (i := 8) (oi := _) (v := ?_) rfl (by kernel_rfl) (by kernel_rfl) (by kernel_rfl) (fun _ _ _ h => h) (Or.inl ⟨by rfl, ?_⟩) (by assumption) ?_
      rotate_left
      · intro w hSw
        try dsimp only at hSw
        go_simp
        all_goals with_reducible rfl
      (try simp only [List.getElem_toArray]); (try simp only [List.getElem_cons_succ]); (try simp only [List.getElem_cons_zero]); try simp only [Act.put, List.setIfInBounds_toArray, List.set_cons_zero, List.set_cons_succ]
      refine wpAnyH_done (by kernel_rfl) ?_ _
      go_wp2
      go_ret2
      exact ⟨rfl, ⟨cs, rs, C3.out, HO.out⟩, Stay.of_below own E3.out, E3.out.mono HB.out⟩
end Go.Proofs.Ytokfadlgiimaoaa
