/- What ether.Parse gives. -/
import Derived.Test.YtokfadlgiimaoaaGCopied
import Derived.Test.YtokfadlgiimaoaaRefEther
namespace Go.Proofs.Ytokfadlgiimaoaa
open Go.RowKit

set_option maxHeartbeats 1000000 in
theorem eth_short (a : Option Addr) (xs : List Nat) (cap : Nat) (w : World) (hl : xs.length < 14) :
    Calls Try.prog 38 #[.slice a xs.length cap] w fun e w' => e = .returned (.tuple #[.agg #[.int .u64 0, .int .u64 0, .int .i64 0, .slice none 0 0], .int .i64 8]) ∧ Below w.heap.size w w' := by
  go_enter Try.func38, Try.ntmps38
  go_wp2
  exact bodyPost_ret (v := .tuple #[.agg #[.int .u64 0, .int .u64 0, .int .i64 0, .slice none 0 0], .int .i64 8]) (by simp [results, Try.results38, go_sem]) rfl ⟨rfl, (Below.refl _ _).alloc (Nat.le_refl _) _⟩

set_option maxHeartbeats 1000000 in
theorem eth_long (a : Option Addr) (xs : List Nat) (cap : Nat) (w : World) (hl : 65535 < xs.length) (hl2 : xs.length ≤ 140737488355328) :
    Calls Try.prog 38 #[.slice a xs.length cap] w fun e w' => e = .returned (.tuple #[.agg #[.int .u64 0, .int .u64 0, .int .i64 0, .slice none 0 0], .int .i64 5]) ∧ Below w.heap.size w w' := by
  go_enter Try.func38, Try.ntmps38
  go_wp2
  exact bodyPost_ret (v := .tuple #[.agg #[.int .u64 0, .int .u64 0, .int .i64 0, .slice none 0 0], .int .i64 5]) (by simp [results, Try.results38, go_sem]) rfl ⟨rfl, (Below.refl _ _).alloc (Nat.le_refl _) _⟩

set_option maxHeartbeats 2000000 in
theorem eth_ok (a : Option Addr) (xs : List Nat) (cap : Nat) (w : World) (hx : Bts w a xs) (hc : xs.length ≤ cap) (hm : cap ≤ maxLen) (h1 : 14 ≤ xs.length) (h2 : xs.length ≤ 65535) :
    Calls Try.prog 38 #[.slice a xs.length cap] w fun e w' => ∃ a' cap', e = .returned (.tuple #[.agg #[.int .u64 (ethD xs : Nat), .int .u64 (ethS xs : Nat), .int .i64 (ethT xs : Nat), .slice a' (xs.drop 14).length cap'], .int .i64 0]) ∧ OwnSl w.heap.size a' (xs.drop 14) cap' w' ∧ Below w.heap.size w w' := by
  unfold maxLen at hm
  obtain ⟨b, off, rfl, hb, -⟩ := hx.isSome (by omega)
  have X0 := Lib.hid hx
  clear hx
  have c1 : ∀ W, Below w.heap.size w W → Calls Try.prog 52 #[.slice (some ⟨b, off, none⟩) 6 cap] W fun e w' => e = .returned (.int .u64 (ethD xs : Nat)) ∧ W = w' := fun W h => by
    have := pnum_ether (some ⟨b, off + 0, none⟩) (seg xs 0 6) cap W ((X0.out.below h).segOf 0 6 (by omega)) (by rw [seg_length _ _ _ (by omega)]; omega) (by rw [seg_length _ _ _ (by omega)]; omega)
    rwa [seg_length _ _ _ (by omega)] at this
  have c2 : ∀ W, Below w.heap.size w W → Calls Try.prog 52 #[.slice (some ⟨b, off + 6, none⟩) 6 (cap - 6)] W fun e w' => e = .returned (.int .u64 (ethS xs : Nat)) ∧ W = w' := fun W h => by
    have := pnum_ether (some ⟨b, off + 6, none⟩) (seg xs 6 6) (cap - 6) W ((X0.out.below h).segOf 6 6 (by omega)) (by rw [seg_length _ _ _ (by omega)]; omega) (by rw [seg_length _ _ _ (by omega)]; omega)
    rwa [seg_length _ _ _ (by omega)] at this
  have c3 : ∀ W, Below w.heap.size w W → Calls Try.prog 52 #[.slice (some ⟨b, off + 12, none⟩) 2 (cap - 12)] W fun e w' => e = .returned (.int .u64 (ethT xs : Nat)) ∧ W = w' := fun W h => by
    have := pnum_ether (some ⟨b, off + 12, none⟩) (seg xs 12 2) (cap - 12) W ((X0.out.below h).segOf 12 2 (by omega)) (by rw [seg_length _ _ _ (by omega)]; omega) (by rw [seg_length _ _ _ (by omega)]; omega)
    rwa [seg_length _ _ _ (by omega)] at this
  have hT : ethT xs < 65536 := by
    have := Mt.numOf_lt (seg xs 12 2) (seg_lt X0.out.1 12 2)
    rwa [seg_length _ _ _ (by omega)] at this
  obtain ⟨D, hD⟩ : ∃ D, ethD xs = D := ⟨_, rfl⟩
  obtain ⟨S, hS⟩ : ∃ S, ethS xs = S := ⟨_, rfl⟩
  obtain ⟨T, hTe⟩ : ∃ T, ethT xs = T := ⟨_, rfl⟩
  rw [hD] at c1
  rw [hS] at c2
  rw [hTe] at c3 hT
  rw [hD, hS, hTe]
  obtain ⟨ds, hds⟩ : ∃ ds, xs.drop 14 = ds := ⟨_, rfl⟩
  have hdl : ds.length = xs.length - 14 := by rw [← hds, List.length_drop]
  have c4 : ∀ W ad, Below w.heap.size w W → (ds = [] ∨ ad = ⟨b, off + 14, none⟩) → Bts W (some ad) ds := fun W ad h had => by
    rcases had with h0 | rfl
    · rw [h0]; exact Bts.nil _ _
    · rw [← hds]; exact (X0.out.below h).rest 14 h1
  rw [hds]
  have C1 := Lib.hid c1
  have C2 := Lib.hid c2
  have C3 := Lib.hid c3
  have C4 := Lib.hid c4
  have Hdl := Lib.hid hdl
  clear c1 c2 c3 c4 hD hS hTe hds hdl
  have bn := blk_new w (.cells #[.int .u64 0, .int .u64 0, .int .i64 0, .slice none 0 0] 66)
  have hsz : w.heap.size < (w.alloc (.cells #[.int .u64 0, .int .u64 0, .int .i64 0, .slice none 0 0] 66)).drew.heap.size := by show _ < (w.alloc _).heap.size; rw [World.size_alloc]; omega
  have Bn := Lib.hid bn
  clear bn
  have bw := ((Below.refl _ w).alloc (Nat.le_refl _) (.cells #[.int .u64 0, .int .u64 0, .int .i64 0, .slice none 0 0] 66)).drew
  have l6 : 6 ≤ cap := by omega
  have l12 : 12 ≤ cap := by omega
  have l14 : 14 ≤ cap := by omega
  have eT : IntKind.i64.wrap (T : Int) = (T : Int) := IntWalk.i64_in _ (by omega)
  by_cases h14 : cap = 14
  · have hds0 : ds = [] := List.eq_nil_of_length_eq_zero (by have := Hdl.out; omega)
    have hn0 : 0 = ds.length := by rw [hds0]; rfl
    have c4 := fun ad => C4.out _ ad bw (.inl hds0)
    have lds : ds.length ≤ 140737488355328 := by have := Hdl.out; omega
    have Hn0 := Lib.hid hn0
    have C5 := Lib.hid c4
    clear c4 hn0 hds0 C4
    subst h14
    go_enter Try.func38, Try.ntmps38
    go_wp2_with fail
    go_region_held3 (fun _ => True) (first | trivial | go_keep) (first
      | (go_at_call 52; (with_reducible refine (C1.out _ bw).mono ?_); rintro e w' ⟨rfl, rfl⟩)
      | (go_at_call 52; (with_reducible refine (C2.out _ bw).mono ?_); rintro e w' ⟨rfl, rfl⟩)
      | (go_at_call 52; (with_reducible refine (C3.out _ bw).mono ?_); rintro e w' ⟨rfl, rfl⟩)
      | (refine step_append_new rfl _ _ rfl (w.heap.size + 1) Hn0.out (C5.out _) (fun h => by cases h) rfl rfl lds hsz ?_; intro a' cap' w2 O b2; have k2 := (b2.block w.heap.size (Nat.lt_succ_self _)).trans Bn.out; have g0 := blk_cell k2 0; have g1 := blk_cell k2 1; have g2 := blk_cell k2 2; have g3 := blk_cell k2 3; have f0 := blk_free k2 0; have f1 := blk_free k2 1; have f2 := blk_free k2 2; have f3 := blk_free k2 3; have O2 := Lib.hid O; have B2 := Lib.hid (bw.trans (b2.mono (Nat.le_succ _))); have K2 := Lib.hid k2; clear k2 O b2))
    go_wp2
    have K6 := blk_set (blk_set (blk_set (blk_set K2.out 0 (.int .u64 D)) 1 (.int .u64 S)) 2 (.int .i64 T)) 3 (.slice a' ds.length cap')
    have g0 := blk_cell K6 0
    have g1 := blk_cell K6 1
    have g2 := blk_cell K6 2
    have g3 := blk_cell K6 3
    have B6 := (((B2.out.setCell (p := ⟨w.heap.size, 0, none⟩) (Nat.le_refl _) (.int .u64 D)).setCell (p := ⟨w.heap.size, 1, none⟩) (Nat.le_refl _) (.int .u64 S)).setCell (p := ⟨w.heap.size, 2, none⟩) (Nat.le_refl _) (.int .i64 T)).setCell (p := ⟨w.heap.size, 3, none⟩) (Nat.le_refl _) (.slice a' ds.length cap')
    have O6 := ((((O2.out.setOther (i := 0) (v := .int .u64 D) (Nat.lt_succ_self _)).setOther (i := 1) (v := .int .u64 S) (Nat.lt_succ_self _)).setOther (i := 2) (v := .int .i64 T) (Nat.lt_succ_self _)).setOther (i := 3) (v := .slice a' ds.length cap') (Nat.lt_succ_self _)).mono (Nat.le_succ _)
    exact bodyPost_ret (v := .tuple #[.agg #[.int .u64 D, .int .u64 S, .int .i64 T, .slice a' ds.length cap'], .int .i64 0]) (by simp [results, Try.results38, go_sem, g0, g1, g2, g3]) rfl ⟨a', cap', rfl, O6, B6⟩
  · have c4 := fun ad h => C4.out _ ad bw (.inr h)
    have lds : ds.length ≤ 140737488355328 := by have := Hdl.out; omega
    have Hn0 : Hid (xs.length - 14 = ds.length) := Lib.hid Hdl.out.symm
    have C5 := Lib.hid (c4 _ rfl)
    have i6 : (6 : Int) ≤ (cap : Int) := by omega
    have i12 : (12 : Int) ≤ (cap : Int) := by omega
    have i14 : (14 : Int) ≤ (cap : Int) := by omega
    have i15 : (14 : Int) < (cap : Int) := by omega
    have il : (xs.length : Int) ≤ (cap : Int) := by omega
    have i16 : (14 : Int) ≤ (xs.length : Int) := by omega
    have n6 : ¬ cap = 6 := by omega
    have n12 : ¬ cap = 12 := by omega
    clear c4 C4
    go_enter Try.func38, Try.ntmps38
    go_wp2_with fail
    go_region_held3 (fun _ => True) (first | trivial | go_keep) (first
      | (go_at_call 52; (with_reducible refine (C1.out _ bw).mono ?_); rintro e w' ⟨rfl, rfl⟩)
      | (go_at_call 52; (with_reducible refine (C2.out _ bw).mono ?_); rintro e w' ⟨rfl, rfl⟩)
      | (go_at_call 52; (with_reducible refine (C3.out _ bw).mono ?_); rintro e w' ⟨rfl, rfl⟩)
      | (refine step_append_new rfl _ _ rfl (w.heap.size + 1) Hn0.out C5.out (fun h => by cases h) rfl rfl lds hsz ?_; intro a' cap' w2 O b2; have k2 := (b2.block w.heap.size (Nat.lt_succ_self _)).trans Bn.out; have g0 := blk_cell k2 0; have g1 := blk_cell k2 1; have g2 := blk_cell k2 2; have g3 := blk_cell k2 3; have f0 := blk_free k2 0; have f1 := blk_free k2 1; have f2 := blk_free k2 2; have f3 := blk_free k2 3; have O2 := Lib.hid O; have B2 := Lib.hid (bw.trans (b2.mono (Nat.le_succ _))); have K2 := Lib.hid k2; clear k2 O b2))
    go_wp2
    have K6 := blk_set (blk_set (blk_set (blk_set K2.out 0 (.int .u64 D)) 1 (.int .u64 S)) 2 (.int .i64 T)) 3 (.slice a' ds.length cap')
    have g0 := blk_cell K6 0
    have g1 := blk_cell K6 1
    have g2 := blk_cell K6 2
    have g3 := blk_cell K6 3
    have B6 := (((B2.out.setCell (p := ⟨w.heap.size, 0, none⟩) (Nat.le_refl _) (.int .u64 D)).setCell (p := ⟨w.heap.size, 1, none⟩) (Nat.le_refl _) (.int .u64 S)).setCell (p := ⟨w.heap.size, 2, none⟩) (Nat.le_refl _) (.int .i64 T)).setCell (p := ⟨w.heap.size, 3, none⟩) (Nat.le_refl _) (.slice a' ds.length cap')
    have O6 := ((((O2.out.setOther (i := 0) (v := .int .u64 D) (Nat.lt_succ_self _)).setOther (i := 1) (v := .int .u64 S) (Nat.lt_succ_self _)).setOther (i := 2) (v := .int .i64 T) (Nat.lt_succ_self _)).setOther (i := 3) (v := .slice a' ds.length cap') (Nat.lt_succ_self _)).mono (Nat.le_succ _)
    exact bodyPost_ret (v := .tuple #[.agg #[.int .u64 D, .int .u64 S, .int .i64 T, .slice a' ds.length cap'], .int .i64 0]) (by simp [results, Try.results38, go_sem, g0, g1, g2, g3]) rfl ⟨a', cap', rfl, O6, B6⟩
end Go.Proofs.Ytokfadlgiimaoaa
