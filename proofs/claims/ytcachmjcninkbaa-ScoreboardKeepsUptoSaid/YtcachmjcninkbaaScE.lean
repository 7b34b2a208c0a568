/- Scoreboard: find, by the closure of stopcock/scoreboard.Lost1. -/
import Derived.Test.YtcachmjcninkbaaScF
namespace Go.Proofs.Ytcachmjcninkbaa
open Go.RowKit Go.Shelf

attribute [local go_sem] Oper.semAt_some
set_option maxRecDepth 100000 in
set_option maxHeartbeats 4000000 in
theorem find_lost (f : Hole → Bool) (p0 una nxt high : Nat) (a : Option Addr) (bs : List (Nat × Nat)) (c : Nat) (w : World) (hu : una < 4294967296) (h : Sts 2 BC Tr w a bs) (hok : okS una nxt high bs = true)
    (hf : ∀ h ∈ hol (pl una nxt) 0 (sps una bs), ∀ W, Below w.heap.size w W → Calls Try.prog 36 #[encH h, .pointer (some ⟨p0, 0, none⟩)] W fun e W' => e = .returned (.bool (f h)) ∧ Below W.heap.size W W') :
    Calls Try.prog 35 #[.agg #[.int .u32 (una : Nat), .int .u32 (nxt : Nat), .int .u32 (high : Nat), .slice a bs.length c], .func (.func 36) #[] #[.pointer (some ⟨p0, 0, none⟩)]] w fun e w' => e = .returned (.tuple #[.agg (findC ((hol (pl una nxt) 0 (sps una bs)).find? f)), .bool ((hol (pl una nxt) 0 (sps una bs)).find? f).isSome]) ∧ Below w.heap.size w w' := by
  have HL := Lib.hid h
  obtain ⟨hs, hhs⟩ : ∃ z, hol (pl una nxt) 0 (sps una bs) = z := ⟨_, rfl⟩
  have HIT := Lib.hid (holes_gives una nxt high a bs c hu hok)
  rw [hhs] at HIT hf ⊢
  have HF := Lib.hid hf
  clear h hok hhs hf
  refine (callsIn_wide (n := 5)).1 ?_
  refine callsIn_of_wp_marks Try.func35 rfl trivial ?_ rfl
  simp only [Try.ntmps35, List.size_toArray, List.length_cons, List.length_nil, Nat.reduceAdd, Nat.reduceSub, Array.replicate_succ, Array.replicate_zero, List.push_toArray, List.append_toArray, List.nil_append, List.cons_append]
  obtain ⟨x1, x2, x3, x4, x5, x6⟩ := four_b w (.cells #[.int .u32 (una : Nat), .int .u32 (nxt : Nat), .int .u32 (high : Nat), .slice a bs.length c] 26) (.cells #[.func (.func 36) #[] #[.pointer (some ⟨p0, 0, none⟩)]] 81) (.cells #[.int .i64 0, .int .i64 0, .int .i64 0, .int .i64 0] 78) (.cells #[.bool false] 4)
  have I3 : Hid (FI w #[.int .u32 (una : Nat), .int .u32 (nxt : Nat), .int .u32 (high : Nat), .slice a bs.length c] (.func (.func 36) #[] #[.pointer (some ⟨p0, 0, none⟩)]) #[.int .i64 0, .int .i64 0, .int .i64 0, .int .i64 0] false ((((w.alloc (.cells #[.int .u32 (una : Nat), .int .u32 (nxt : Nat), .int .u32 (high : Nat), .slice a bs.length c] 26)).alloc (.cells #[.func (.func 36) #[] #[.pointer (some ⟨p0, 0, none⟩)]] 81)).alloc (.cells #[.int .i64 0, .int .i64 0, .int .i64 0, .int .i64 0] 78)).alloc (.cells #[.bool false] 4))) := Lib.hid ⟨x1, x2, x3, x4, x6⟩
  have hz3 := x5
  have c0 := blk_cell x1 0
  have c1 := blk_cell x1 1
  have c2 := blk_cell x1 2
  have c3 := blk_cell x1 3
  clear x1 x2 x3 x4 x5 x6
  gi_wp2_with (fail)
  generalize (((w.alloc (.cells #[.int .u32 (una : Nat), .int .u32 (nxt : Nat), .int .u32 (high : Nat), .slice a bs.length c] 26)).alloc (.cells #[.func (.func 36) #[] #[.pointer (some ⟨p0, 0, none⟩)]] 81)).alloc (.cells #[.int .i64 0, .int .i64 0, .int .i64 0, .int .i64 0] 78)).alloc (.cells #[.bool false] 4) = V3 at I3 hz3 c0 c1 c2 c3 ⊢
  clear c0 c1 c2 c3
  refine wpIn_range_gives rfl (by omega) (gf := 42) (rb := #[.agg #[.int .u32 (una : Nat), .int .u32 (nxt : Nat), .int .u32 (high : Nat), .slice a bs.length c]]) rfl trivial (enters_of Try.func42 (by kernel_rfl) rfl) HIT.out rfl
    (fun k W => FI w #[.int .u32 (una : Nat), .int .u32 (nxt : Nat), .int .u32 (high : Nat), .slice a bs.length c] (.func (.func 36) #[] #[.pointer (some ⟨p0, 0, none⟩)]) #[.int .i64 0, .int .i64 0, .int .i64 0, .int .i64 0] false W ∧ (hs.take k).find? f = none) (fun W => ∃ h, hs.find? f = some h ∧ FI w #[.int .u32 (una : Nat), .int .u32 (nxt : Nat), .int .u32 (high : Nat), .slice a bs.length c] (.func (.func 36) #[] #[.pointer (some ⟨p0, 0, none⟩)]) (findC (some h)) true W)
    (fun k A C h hb => ⟨h.1.below hb (by omega), h.2⟩) (fun A C h hb => by obtain ⟨x, h1, h2⟩ := h; exact ⟨x, h1, h2.below hb (by omega)⟩) ⟨I3.out, rfl⟩ (fun W hb => Sts.belowT HL.out (I3.out.low.trans (hb.mono (by have := I3.out.low.size; omega))))
    (fun x b => { tmps := #[.agg #[.int .u32 (una : Nat), .int .u32 (nxt : Nat), .int .u32 (high : Nat), .slice a bs.length c], .func (.func 36) #[] #[.pointer (some ⟨p0, 0, none⟩)], .pointer (some ⟨w.heap.size, 0, none⟩), .pointer (some ⟨w.heap.size + 1, 0, none⟩), .pointer (some ⟨w.heap.size + 1 + 1, 0, none⟩), .pointer (some ⟨w.heap.size + 1 + 1 + 1, 0, none⟩), .pointer (some ⟨b, 0, none⟩), .agg #[.int .u32 (una : Nat), .int .u32 (nxt : Nat), .int .u32 (high : Nat), .slice a bs.length c], .func (.func 42) #[.agg #[.int .u32 (una : Nat), .int .u32 (nxt : Nat), .int .u32 (high : Nat), .slice a bs.length c]] #[], .agg #[.int .i64 (x.l : Nat), .int .i64 (x.r : Nat), .int .i64 (x.b : Nat), .int .i64 x.o], undef, undef, undef, undef, undef], defers := [] })
    (fun x => .cells #[.int .i64 (x.l : Nat), .int .i64 (x.r : Nat), .int .i64 (x.b : Nat), .int .i64 x.o] 78) ?assign ?body ?done ?stop
  case assign =>
    intro l x W K hK
    unfold encH
    gi_wp2
    exact hK
  case body =>
    intro l k x W b hx hI hb hbx
    have hmem := List.mem_of_getElem? hx
    have hnx : (hs.take (k + 1)).find? f = if f x = true then some x else none := by
      rw [List.take_add_one, hx, List.find?_append, hI.2]
      simp
    have hwhole : f x = true → hs.find? f = some x := by
      intro hfx
      have h1 := List.take_append_drop (k + 1) hs
      rw [← h1, List.find?_append, hnx, if_pos hfx]; rfl
    have HNX := Lib.hid hnx
    have HWH := Lib.hid hwhole
    have I4 := Lib.hid hI.1
    have X4 := Lib.hid hbx
    have HC := Lib.hid (HF.out x hmem W hI.1.low)
    have hbW : b < W.heap.size := blk_lt hbx
    have hqW : w.heap.size + 1 + 1 + 1 < W.heap.size := blk_lt hI.1.r5
    have x0 := blk_cell X4.out 0
    have x1 := blk_cell X4.out 1
    have x2 := blk_cell X4.out 2
    have x3 := blk_cell X4.out 3
    have y0 := blk_cell I4.out.fn 0
    unfold encH at HC
    obtain ⟨fx, hfx⟩ : ∃ z, f x = z := ⟨_, rfl⟩
    have HFX := Lib.hid hfx
    rw [hfx] at HC
    clear hI hbx hx hnx hwhole hmem hfx
    gi_wp2_with (fail)
    refine ⟨trivial, ?_⟩
    refine (CallsIn.inRound l (callsIn_wide.2 HC.out)).mono ?_
    rintro e W2 ⟨rfl, hB⟩
    have I5 := Lib.hid (I4.out.below hB (by omega))
    have X5 := Lib.hid ((hB.block _ hbW).trans X4.out)
    have ST5 := Lib.hid (Stays.of_below (B := V3.heap.size) hB)
    have hb2 := hB.size
    clear hB I4 X4 x0 x1 x2 x3 y0
    cases fx
    case false =>
      gi_wp2_with (fail)
      exact ⟨ST5.out, I5.out, by rw [HNX.out, if_neg (by rw [HFX.out]; decide)]⟩
    case true =>
      have x0 := blk_cell X5.out 0
      have x1 := blk_cell X5.out 1
      have x2 := blk_cell X5.out 2
      have x3 := blk_cell X5.out 3
      have r0 := blk_cell I5.out.r4 0
      have r1 := blk_cell I5.out.r4 1
      have r2 := blk_cell I5.out.r4 2
      have r3 := blk_cell I5.out.r4 3
      have s0 := blk_free I5.out.r4 0
      have s1 := blk_free I5.out.r4 1
      have s2 := blk_free I5.out.r4 2
      have s3 := blk_free I5.out.r4 3
      have t0 := blk_cell I5.out.r5 0
      have u0 := blk_free I5.out.r5 0
      gi_wp2_with (fail)
      have hc0 := blk_set I5.out.r4 0 (.int .i64 (x.l : Nat))
      simp only [List.setIfInBounds_toArray, List.set_cons_zero] at hc0
      have hc1 := blk_set hc0 1 (.int .i64 (x.r : Nat))
      simp only [List.setIfInBounds_toArray, List.set_cons_zero, List.set_cons_succ] at hc1
      have hc2 := blk_set hc1 2 (.int .i64 (x.b : Nat))
      simp only [List.setIfInBounds_toArray, List.set_cons_zero, List.set_cons_succ] at hc2
      have SF := blk_set hc2 3 (.int .i64 x.o)
      simp only [List.setIfInBounds_toArray, List.set_cons_zero, List.set_cons_succ] at SF
      have SFG : (W2).grownBy (((((W2).setCell ⟨w.heap.size + 1 + 1, 0, none⟩ (.int .i64 (x.l : Nat))).setCell ⟨w.heap.size + 1 + 1, 1, none⟩ (.int .i64 (x.r : Nat))).setCell ⟨w.heap.size + 1 + 1, 2, none⟩ (.int .i64 (x.b : Nat))).setCell ⟨w.heap.size + 1 + 1, 3, none⟩ (.int .i64 x.o)) (some (w.heap.size + 1 + 1)) := gr_trans (gr_trans (gr_trans (gr_set _ (w.heap.size + 1 + 1) 0 _) (gr_set _ (w.heap.size + 1 + 1) 1 _)) (gr_set _ (w.heap.size + 1 + 1) 2 _)) (gr_set _ (w.heap.size + 1 + 1) 3 _)
      refine ⟨ST5.out.trans (Stays.trans ⟨SFG.size, fun j hj hl => SFG.block j hl (fun e => by have := Option.some.inj e; omega)⟩ (Stays.set _ 0 _ (by omega))), x, HWH.out HFX.out, ?_⟩
      exact I5.out.store SFG SF
  case done =>
    intro D W hD hI hK
    obtain ⟨hI, hno⟩ := hI
    rw [List.take_length] at hno
    have I6 := Lib.hid hI
    have r0 := blk_cell hI.r4 0
    have r1 := blk_cell hI.r4 1
    have r2 := blk_cell hI.r4 2
    have r3 := blk_cell hI.r4 3
    have s0 := blk_free hI.r4 0
    have s1 := blk_free hI.r4 1
    have s2 := blk_free hI.r4 2
    have s3 := blk_free hI.r4 3
    have t0 := blk_cell hI.r5 0
    have u0 := blk_free hI.r5 0
    clear hI
    gi_wp2
    have hc0 := blk_set I6.out.r4 0 (.int .i64 0)
    simp only [List.setIfInBounds_toArray, List.set_cons_zero] at hc0
    have hc1 := blk_set hc0 1 (.int .i64 0)
    simp only [List.setIfInBounds_toArray, List.set_cons_zero, List.set_cons_succ] at hc1
    have hc2 := blk_set hc1 2 (.int .i64 0)
    simp only [List.setIfInBounds_toArray, List.set_cons_zero, List.set_cons_succ] at hc2
    have SF := blk_set hc2 3 (.int .i64 0)
    simp only [List.setIfInBounds_toArray, List.set_cons_zero, List.set_cons_succ] at SF
    have SFG : (W).grownBy (((((W).setCell ⟨w.heap.size + 1 + 1, 0, none⟩ (.int .i64 0)).setCell ⟨w.heap.size + 1 + 1, 1, none⟩ (.int .i64 0)).setCell ⟨w.heap.size + 1 + 1, 2, none⟩ (.int .i64 0)).setCell ⟨w.heap.size + 1 + 1, 3, none⟩ (.int .i64 0)) (some (w.heap.size + 1 + 1)) := gr_trans (gr_trans (gr_trans (gr_set _ (w.heap.size + 1 + 1) 0 _) (gr_set _ (w.heap.size + 1 + 1) 1 _)) (gr_set _ (w.heap.size + 1 + 1) 2 _)) (gr_set _ (w.heap.size + 1 + 1) 3 _)
    have SFG_size : (((((W).setCell ⟨w.heap.size + 1 + 1, 0, none⟩ (.int .i64 0)).setCell ⟨w.heap.size + 1 + 1, 1, none⟩ (.int .i64 0)).setCell ⟨w.heap.size + 1 + 1, 2, none⟩ (.int .i64 0)).setCell ⟨w.heap.size + 1 + 1, 3, none⟩ (.int .i64 0)).heap.size = W.heap.size := by simp
    have I7 := I6.out.storeF SFG SF
    have hD2 : ∀ (X : World) , X.heap.size = W.heap.size → D < X.heap.size := fun X hX => by rw [hX]; exact blk_lt hK
    have hK2 : ((((((W).setCell ⟨w.heap.size + 1 + 1, 0, none⟩ (.int .i64 0)).setCell ⟨w.heap.size + 1 + 1, 1, none⟩ (.int .i64 0)).setCell ⟨w.heap.size + 1 + 1, 2, none⟩ (.int .i64 0)).setCell ⟨w.heap.size + 1 + 1, 3, none⟩ (.int .i64 0)).setCell ⟨w.heap.size + 1 + 1 + 1, 0, none⟩ (.bool false)).heap[D]? = some (.deferred (some [])) := by
      refine ((gr_set _ (w.heap.size + 1 + 1 + 1) 0 _).block _ (by rw [SFG_size]; exact blk_lt hK) (fun e => by have := Option.some.inj e; omega)).trans ?_
      exact (SFG.block _ (blk_lt hK) (fun e => by have := Option.some.inj e; omega)).trans hK
    refine ⟨by simp, .inl ⟨_, _, rfl, run_takeDeferred hK2, ?_⟩⟩
    have I8 := I7.below (put_low _ D V3.heap.size (.deferred none) (by omega) (blk_lt hK2)) (by omega)
    refine ⟨.tuple #[.agg #[.int .i64 0, .int .i64 0, .int .i64 0, .int .i64 0], .bool false], ?_, by rw [hno]; rfl, I8.low⟩
    exact results_cc rowH rfl rfl _ _ (w.heap.size + 1 + 1) (w.heap.size + 1 + 1 + 1) _ _ rfl rfl I8.r4 rfl I8.r5
  case stop =>
    intro D W hD hI hK
    obtain ⟨x, hx, hI⟩ := hI
    have I6 := Lib.hid hI
    clear hI
    gi_wp2
    refine ⟨by simp, .inl ⟨_, _, rfl, run_takeDeferred hK, ?_⟩⟩
    have I8 := I6.out.below (put_low _ D V3.heap.size (.deferred none) (by omega) (blk_lt hK)) (by omega)
    refine ⟨.tuple #[.agg (findC (some x)), .bool true], ?_, by rw [hx]; rfl, I8.low⟩
    exact results_cc rowH rfl rfl _ _ (w.heap.size + 1 + 1) (w.heap.size + 1 + 1 + 1) _ _ rfl rfl I8.r4 rfl I8.r5
end Go.Proofs.Ytcachmjcninkbaa
