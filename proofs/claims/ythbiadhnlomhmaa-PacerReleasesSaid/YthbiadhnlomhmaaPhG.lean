/- The pacer: Push. -/
import Derived.Test.YthbiadhnlomhmaaPhF
import Derived.Deep.RegionHeld3
namespace Go.Proofs.Ythbiadhnlomhmaa
open Go.RowKit Go.Proofs.Ythbiadhnlomhmaa.Ph Go.Proofs.Ythbiadhnlomhmaa.Pc

set_option maxRecDepth 100000 in
set_option maxHeartbeats 1000000 in
theorem ppush_ok (D : Nat → Int) (hm : ∀ i j, i ≤ j → D i ≤ D j) (B p : Nat) (nx nw : Int) (a : Option Addr) (xs : List Nat) (cap v : Nat) (z r q u N1 : Int) (w : World) (hb : w.heap[p]? = some (.cells #[.bool true, .int .i64 nx, .int .i64 nw, .int .i64 (v : Nat), .slice a xs.length cap] 47 (0, 0))) (hp : p < B) (hB : B ≤ w.heap.size) (h : OwnR 51 3 (PKC D) B a xs cap w) (hl : xs.length < 4096) (hvl : v ≤ 4096) (hv : ∀ x ∈ xs, x ≤ v) (hh : Heap xs.length xs) (hE : dE nx z r q u = 0) (hN : dN nx z r q u = N1) (hT : dT nx z r q u = D v) (hu : nw ≤ u) :
    Calls Try.prog 9 #[.pointer (some ⟨p, 0, none⟩), .int .i64 (v : Nat), .int .i64 z, .int .i64 r, .int .i64 q, .int .i64 u] w fun e w' => e = .returned (.tuple #[.int .i64 (D v), .int .i64 0]) ∧ (∃ a' cap', w'.heap[p]? = some (.cells #[.bool true, .int .i64 N1, .int .i64 u, .int .i64 ((v : Int) + 1), .slice a' (xs ++ [v]).length cap'] 47 (0, 0)) ∧ OwnR 51 3 (PKC D) B a' (xs ++ [v]) cap' w' ∧ (∀ k, a' = some ⟨k, 0, none⟩ → a = some ⟨k, 0, none⟩ ∨ w.heap.size ≤ k) ∧ Turns (fun b => b = p ∨ a = some ⟨b, 0, none⟩) w w') ∧ Heap (xs ++ [v]).length (xs ++ [v]) := by
  have HDP := Lib.hid (pdepart nx z r q u N1 (D v) 0 hE hN hT w)
  obtain ⟨dv, hdv⟩ : ∃ dv, D v = dv := ⟨_, rfl⟩
  rw [hdv] at HDP ⊢
  have HDV := Lib.hid hdv
  have HB := Lib.hid hb
  have HO := Lib.hid h
  have c0 := blk_cell hb 0
  have c1 := blk_cell hb 1
  have c2 := blk_cell hb 2
  have c4 := blk_cell hb 4
  have i1 : ¬ u < nw := by omega
  have i2 : ¬ (4096 : Int) ≤ (xs.length : Int) := by omega
  clear hE hN hT hdv h hb
  go_enter Try.func9, Try.ntmps9
  go_upto_region 4 with (first
    | (go_at_call 6; refine HDP.out.mono ?_; rintro e V1 ⟨rfl, b⟩; have E1 := Lib.hid b; have HB1 := Lib.hid ((b.block p (blk_lt HB.out)).trans HB.out); have O1 := Lib.hid (HO.out.below b); have sz1 := b.size; clear b)
    | fail)
  have bz := (Below.refl V1.heap.size V1).alloc (Nat.le_refl _) (.cells #[.int .i64 N1] 25)
  have KS := Lib.hid (blk_new V1 (.cells #[.int .i64 N1] 25))
  have HB2 := Lib.hid ((bz.block p (blk_lt HB1.out)).trans HB1.out)
  have O2 := Lib.hid (O1.out.below bz)
  have E2 := Lib.hid (E1.out.trans (bz.mono E1.out.size))
  have hps : p < V1.heap.size := blk_lt HB1.out
  clear c0 c1 c2 c4 bz HB1 O1 E1 HB
  generalize V1.alloc (.cells #[.int .i64 N1] 25) = VA at KS HB2 O2 E2 ⊢
  generalize V1.heap.size = sb at KS hps
  have s0 := blk_cell KS.out 0
  have c1 := blk_cell HB2.out 1
  have f1 := blk_free HB2.out 1
  have c2 := blk_cell HB2.out 2
  have f2 := blk_free HB2.out 2
  have c4 := blk_cell HB2.out 4
  have SA := blk_set HB2.out 1 (.int .i64 N1)
  have c2b := blk_cell SA 2
  have f2b := blk_free SA 2
  have SB := Lib.hid (blk_set SA 2 (.int .i64 u))
  have GB := Lib.hid (gr_trans (gr_set VA p 1 (.int .i64 N1)) (gr_set (VA.setCell ⟨p, 1, none⟩ (.int .i64 N1)) p 2 (.int .i64 u)))
  go_upto_region 11 with fail
  have H2 : Hid (((VA.setCell ⟨p, 1, none⟩ (.int .i64 N1)).setCell ⟨p, 2, none⟩ (.int .i64 u)).heap[p]? = some (.cells #[.bool true, .int .i64 N1, .int .i64 u, .int .i64 (v : Nat), .slice a xs.length cap] 47 (0, 0))) := Lib.hid SB.out
  have TA := Lib.hid ((Turns.of_below (fun b => b = p ∨ a = some ⟨b, 0, none⟩) E2.out).grown (.inl rfl) GB.out)
  have OB := Lib.hid (O2.out.grown GB.out (fun k e e2 => by have h1 := (O2.out.ownB k (by rw [e]; rfl)).1; have := Option.some.inj e2; omega))
  clear s0 c1 f1 c2 f2 c4 SA c2b f2b SB GB KS HB2 O2 E2 i1 i2
  generalize (VA.setCell ⟨p, 1, none⟩ (.int .i64 N1)).setCell ⟨p, 2, none⟩ (.int .i64 u) = V2 at H2 TA OB ⊢
  have BD := Lib.hid ((Below.refl V2.heap.size V2).drew)
  have HPU := Lib.hid (hpush_ok D hm B p 4 #[.bool true, .int .i64 N1, .int .i64 u, .int .i64 (v : Nat), .slice a xs.length cap] 47 a xs cap V2.drew (show V2.drew.heap[p]? = _ from H2.out) rfl hp (Nat.le_trans hB TA.out.size) (OB.out.below BD.out) v hl hv hh)
  refine wp_region_held_drew (S := fun W' => W'.cell? ⟨p, 3, none⟩ = some (.int .i64 (v : Nat))) (by kernel_rfl) (show V2.drew.cell? _ = _ from blk_cell H2.out 3) (fun hHeld => ?_)
  refine wpAnyH_take (i := 0) (oi := _) (v := ?_) rfl (by kernel_rfl) (by kernel_rfl) (by kernel_rfl) (fun _ _ _ h => h) (Or.inl ⟨by rfl, ?_⟩) (by assumption) ?_
  rotate_left
  · intro w5 hSw
    clear hSw
    go_simp
    all_goals with_reducible rfl
  (try simp only [List.getElem_toArray]); (try simp only [List.getElem_cons_succ]); (try simp only [List.getElem_cons_zero]); try simp only [Act.put, List.setIfInBounds_toArray, List.set_cons_zero, List.set_cons_succ]
  refine wpAnyH_take (i := 1) (oi := _) (v := ?_) rfl (by kernel_rfl) (by kernel_rfl) (by kernel_rfl) (fun _ _ _ h => h) (Or.inl ⟨by rfl, ?_⟩) (by assumption) ?_
  rotate_left
  · intro w5 hSw
    clear hSw
    go_simp
    all_goals with_reducible rfl
  (try simp only [List.getElem_toArray]); (try simp only [List.getElem_cons_succ]); (try simp only [List.getElem_cons_zero]); try simp only [Act.put, List.setIfInBounds_toArray, List.set_cons_zero, List.set_cons_succ]
  refine wpAnyH_take (i := 2) (oi := _) (v := ?_) rfl (by kernel_rfl) (by kernel_rfl) (by kernel_rfl) (fun _ _ _ h => h) (Or.inl ⟨by rfl, ?_⟩) (by assumption) ?_
  rotate_left
  · intro w5 hSw
    clear hSw
    go_simp
    all_goals with_reducible rfl
  (try simp only [List.getElem_toArray]); (try simp only [List.getElem_cons_succ]); (try simp only [List.getElem_cons_zero]); try simp only [Act.put, List.setIfInBounds_toArray, List.set_cons_zero, List.set_cons_succ]
  refine wpAnyH_take (i := 3) (oi := _) (v := ?_) rfl (by kernel_rfl) (by kernel_rfl) (by kernel_rfl) (fun _ _ _ h => h) (Or.inl ⟨by rfl, ?_⟩) (by assumption) ?_
  rotate_left
  · intro w5 hSw
    clear hSw
    go_simp
    all_goals with_reducible rfl
  (try simp only [List.getElem_toArray]); (try simp only [List.getElem_cons_succ]); (try simp only [List.getElem_cons_zero]); try simp only [Act.put, List.setIfInBounds_toArray, List.set_cons_zero, List.set_cons_succ]
  refine wpAnyH_take (i := 4) (oi := _) (v := ?_) rfl (by kernel_rfl) (by kernel_rfl) (by kernel_rfl) (fun _ _ _ h => h) (Or.inl ⟨by rfl, ?_⟩) (by assumption) ?_
  rotate_left
  · intro w5 hSw
    clear hSw
    go_simp
    all_goals with_reducible rfl
  (try simp only [List.getElem_toArray]); (try simp only [List.getElem_cons_succ]); (try simp only [List.getElem_cons_zero]); try simp only [Act.put, List.setIfInBounds_toArray, List.set_cons_zero, List.set_cons_succ]
  refine wpAnyH_take (i := 5) (oi := _) (v := ?_) rfl (by kernel_rfl) (by kernel_rfl) (by kernel_rfl) (fun _ _ _ h => h) (Or.inl ⟨by rfl, ?_⟩) (by assumption) ?_
  rotate_left
  · intro w5 hSw
    clear hSw
    go_simp
    all_goals with_reducible rfl
  (try simp only [List.getElem_toArray]); (try simp only [List.getElem_cons_succ]); (try simp only [List.getElem_cons_zero]); try simp only [Act.put, List.setIfInBounds_toArray, List.set_cons_zero, List.set_cons_succ]
  refine wpAnyH_take (i := 6) (oi := _) (v := ?_) rfl (by kernel_rfl) (by kernel_rfl) (by kernel_rfl) (fun _ _ _ h => h) (Or.inl ⟨by rfl, ?_⟩) (by assumption) ?_
  rotate_left
  · intro w5 hSw
    clear hSw
    go_simp
    all_goals with_reducible rfl
  (try simp only [List.getElem_toArray]); (try simp only [List.getElem_cons_succ]); (try simp only [List.getElem_cons_zero]); try simp only [Act.put, List.setIfInBounds_toArray, List.set_cons_zero, List.set_cons_succ]
  refine wpAnyH_take (i := 7) (oi := _) (v := ?_) rfl (by kernel_rfl) (by kernel_rfl) (by kernel_rfl) (fun _ _ _ h => h) (Or.inl ⟨by rfl, ?_⟩) (by assumption) ?_
  rotate_left
  · intro w5 hSw
    clear hSw
    go_simp
    all_goals with_reducible rfl
  (try simp only [List.getElem_toArray]); (try simp only [List.getElem_cons_succ]); (try simp only [List.getElem_cons_zero]); try simp only [Act.put, List.setIfInBounds_toArray, List.set_cons_zero, List.set_cons_succ]
  refine wpAnyH_take (i := 8) (oi := _) (v := ?_) rfl (by kernel_rfl) (by kernel_rfl) (by kernel_rfl) (fun _ _ _ h => h) (Or.inl ⟨by rfl, ?_⟩) (by assumption) ?_
  rotate_left
  · intro w5 hSw
    clear hSw
    go_simp
    all_goals with_reducible rfl
  (try simp only [List.getElem_toArray]); (try simp only [List.getElem_cons_succ]); (try simp only [List.getElem_cons_zero]); try simp only [Act.put, List.setIfInBounds_toArray, List.set_cons_zero, List.set_cons_succ]
  refine wpAnyH_take (i := 9) (oi := _) (v := ?_) rfl (by kernel_rfl) (by kernel_rfl) (by kernel_rfl) (fun _ _ _ h => h) (Or.inl ⟨by rfl, ?_⟩) (by assumption) ?_
  rotate_left
  · intro w5 hSw
    have t0 := hSw
    clear hSw
    go_simp
    all_goals with_reducible rfl
  (try simp only [List.getElem_toArray]); (try simp only [List.getElem_cons_succ]); (try simp only [List.getElem_cons_zero]); try simp only [Act.put, List.setIfInBounds_toArray, List.set_cons_zero, List.set_cons_succ]
  refine wpAnyH_take (i := 10) (oi := _) (v := ?_) rfl (by kernel_rfl) (by kernel_rfl) (by kernel_rfl) (fun _ _ _ h => h) (Or.inl ⟨by rfl, ?_⟩) (by assumption) ?_
  rotate_left
  · intro w5 hSw
    clear hSw
    go_simp
    all_goals with_reducible rfl
  (try simp only [List.getElem_toArray]); (try simp only [List.getElem_cons_succ]); (try simp only [List.getElem_cons_zero]); try simp only [Act.put, List.setIfInBounds_toArray, List.set_cons_zero, List.set_cons_succ]
  refine wpAnyH_take (i := 11) (oi := _) (v := ?_) rfl (by kernel_rfl) (by kernel_rfl) (by kernel_rfl) (fun _ _ _ h => h) (Or.inl ⟨by rfl, ?_⟩) (by assumption) ?_
  rotate_left
  · intro w5 hSw
    clear hSw
    go_simp
    all_goals with_reducible rfl
  (try simp only [List.getElem_toArray]); (try simp only [List.getElem_cons_succ]); (try simp only [List.getElem_cons_zero]); try simp only [Act.put, List.setIfInBounds_toArray, List.set_cons_zero, List.set_cons_succ]
  refine wpAnyH_ready (rs := [12]) (by kernel_rfl) (by simp) ?_
  refine (AllReadyH.cons (o := _) rfl (fun K hK => ?_) AllReadyH.nil)
  · (try simp only [List.getElem_toArray]); (try simp only [List.getElem_cons_succ]); (try simp only [List.getElem_cons_zero])
    go_simp
    rw [← HDV.out]
    go_at_call 12
    refine HPU.out.mono ?_
    rintro e V3 ⟨rfl, ⟨a', cap', hb3, o3, a3, t3⟩, h3⟩
    try dsimp only
    have HB3 := Lib.hid hb3
    have O3 := Lib.hid o3
    have A3 := Lib.hid a3
    have T3 := Lib.hid t3
    have HH3 := Lib.hid h3
    clear hb3 o3 a3 t3 h3
    refine hK.out _ _ ?_ (fun hHeld => ?_)
    · exact blk_cell HB3.out 3
    clear hK K
    (try simp only [List.getElem_toArray]); (try simp only [List.getElem_cons_succ]); (try simp only [List.getElem_cons_zero]); try simp only [Act.put, List.setIfInBounds_toArray, List.set_cons_zero, List.set_cons_succ]
    refine wpAnyH_done (by kernel_rfl) ?_ _
    have c3 := blk_cell HB3.out 3
    have f3 := blk_free HB3.out 3
    have S4 := Lib.hid (blk_set HB3.out 3 (.int .i64 ((v : Int) + 1)))
    have G4 := Lib.hid (gr_set V3 p 3 (.int .i64 ((v : Int) + 1)))
    have W9 : IntKind.i64.wrap ((v : Int) + 1) = (v : Int) + 1 := IntWalk.i64_in _ ⟨by omega, by omega⟩
    go_wp2
    go_ret2
    refine ⟨by rw [← HDV.out] <;> rfl, ⟨a', cap', S4.out, O3.out.grown G4.out (fun k e e2 => by have h1 := (O3.out.ownB k (by rw [e]; rfl)).1; have := Option.some.inj e2; omega), fun k e => (A3.out k e).imp id (fun h => Nat.le_trans TA.out.size h), (TA.out.drew.trans T3.out).grown (.inl rfl) G4.out⟩, HH3.out⟩
end Go.Proofs.Ythbiadhnlomhmaa
