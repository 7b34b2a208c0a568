/- What ether.ParseArp gives. -/
import Derived.Test.YtdiomelldhkibaaNumE
import Derived.Test.YtdiomelldhkibaaRefArpP
import Derived.Test.YtdiomelldhkibaaArpB
import Derived.Test.YtdiomelldhkibaaArpEq
import Derived.Deep.RegionHeld3
import Derived.LoopN
import Derived.Deep.RegionWith
import Derived.Deep.QuietTactic
import Derived.BigQuiet
import Derived.Laws.Cover3
namespace Go.Proofs.Ytdiomelldhkibaa
open Go.RowKit

set_option maxRecDepth 100000 in
set_option maxHeartbeats 1000000 in
theorem arp_short (a : Option Addr) (xs : List Nat) (cap : Nat) (w : World) (hl : xs.length < 28) :
    Calls Try.prog 23 #[.slice a xs.length cap] w fun e w' => e = .returned (.tuple #[.agg #[.int .i64 0, .int .u64 0, .int .u32 0, .int .u64 0, .int .u32 0], .int .i64 8]) ∧ Below w.heap.size w w' := by
  go_enter Try.func23, Try.ntmps23
  go_wp2
  exact bodyPost_ret (v := .tuple #[.agg #[.int .i64 0, .int .u64 0, .int .u32 0, .int .u64 0, .int .u32 0], .int .i64 8]) (by simp [results, Try.results23, go_sem]) rfl ⟨rfl, (Below.refl _ _).alloc (Nat.le_refl _) _⟩

set_option maxRecDepth 100000 in
set_option maxHeartbeats 4000000 in
/-- Neither a question nor an answer. -/
theorem arp_op (b off : Nat) (xs : List Nat) (cap : Nat) (w : World) (hx : Bts w (some ⟨b, off, none⟩) xs) (hl : 28 ≤ xs.length) (hl2 : xs.length ≤ 140737488355328) (h1 : xs.getD 7 0 ≠ 1) (h2 : xs.getD 7 0 ≠ 2) :
    Calls Try.prog 23 #[.slice (some ⟨b, off, none⟩) xs.length cap] w fun e w' => e = .returned arpZero ∧ Below w.heap.size w w' := by
  obtain ⟨b', off', e, hb, hc⟩ := hx.isSome (by omega)
  cases e
  have c7 := hc 7 (by omega)
  have n1 : ((xs.getD 7 0 : Nat) : Int) != 1 := by rw [bne_iff_ne]; omega
  have n2 : ((xs.getD 7 0 : Nat) : Int) != 2 := by rw [bne_iff_ne]; omega
  have z7 := hx.1 _ (Mt.getD_mem xs 7 (by omega))
  have i7 : (7 : Int) < (xs.length : Int) := by omega
  generalize xs.getD 7 0 = z at c7 n1 n2 z7
  have nb : b ≠ w.heap.size := by omega
  clear hc hx h1 h2
  go_enter Try.func23, Try.ntmps23
  go_wp2_with fail
  have hr0 := blk_new w (.cells #[.int .i64 0, .int .u64 0, .int .u32 0, .int .u64 0, .int .u32 0] 28)
  have bw := (Below.refl _ w).alloc (Nat.le_refl _) (.cells #[.int .i64 0, .int .u64 0, .int .u32 0, .int .u64 0, .int .u32 0] 28)
  generalize w.alloc (.cells #[.int .i64 0, .int .u64 0, .int .u32 0, .int .u64 0, .int .u32 0] 28) = W0 at hr0 bw ⊢
  have R1 := Lib.hid hr0
  have q1 := bw
  clear hr0 bw
  go_quiet (fail)
  have R2 : Hid ((W0.drewN nq).heap[w.heap.size]? = _) := Lib.hid R1.out
  have q2 := below_drewN q1 nq
  clear R1 q1
  generalize W0.drewN nq = W1 at R2 q2 ⊢
  have r0 := blk_cell R2.out 0
  have t0 := blk_free R2.out 0
  have r1 := blk_cell R2.out 1
  have t1 := blk_free R2.out 1
  have r2 := blk_cell R2.out 2
  have t2 := blk_free R2.out 2
  have r3 := blk_cell R2.out 3
  have t3 := blk_free R2.out 3
  have r4 := blk_cell R2.out 4
  have t4 := blk_free R2.out 4
  go_wp2
  have F := blk_set (blk_set (blk_set (blk_set (blk_set R2.out 0 (.int .i64 0)) 1 (.int .u64 0)) 2 (.int .u32 0)) 3 (.int .u64 0)) 4 (.int .u32 0)
  have Q := ((((q2.setCell (p := ⟨w.heap.size, 0, none⟩) (Nat.le_refl _) (.int .i64 0)).setCell (p := ⟨w.heap.size, 1, none⟩) (Nat.le_refl _) (.int .u64 0)).setCell (p := ⟨w.heap.size, 2, none⟩) (Nat.le_refl _) (.int .u32 0)).setCell (p := ⟨w.heap.size, 3, none⟩) (Nat.le_refl _) (.int .u64 0)).setCell (p := ⟨w.heap.size, 4, none⟩) (Nat.le_refl _) (.int .u32 0)
  have f0 := blk_cell F 0
  have f1 := blk_cell F 1
  have f2 := blk_cell F 2
  have f3 := blk_cell F 3
  have f4 := blk_cell F 4
  exact bodyPost_ret (v := arpZero) (by simp [results, Try.results23, go_sem, f0, f1, f2, f3, f4]) rfl ⟨rfl, Q⟩

theorem arpBegins_iff (xs : List Nat) : arpBegins xs ↔ xs.getD 0 0 = 0 ∧ xs.getD 1 0 = 1 ∧ xs.getD 2 0 = 8 ∧ xs.getD 3 0 = 0 ∧ xs.getD 4 0 = 6 ∧ xs.getD 5 0 = 4 ∧ xs.getD 6 0 = 0 := by
  constructor
  · intro h
    exact ⟨h 0 (by omega), h 1 (by omega), h 2 (by omega), h 3 (by omega), h 4 (by omega), h 5 (by omega), h 6 (by omega)⟩
  · rintro ⟨h0, h1, h2, h3, h4, h5, h6⟩ j hj
    match j, hj with
    | 0, _ => exact h0
    | 1, _ => exact h1
    | 2, _ => exact h2
    | 3, _ => exact h3
    | 4, _ => exact h4
    | 5, _ => exact h5
    | 6, _ => exact h6

set_option maxRecDepth 100000 in
set_option maxHeartbeats 4000000 in
/-- A question. -/
theorem arp_go1 (b off : Nat) (xs : List Nat) (cap : Nat) (w : World) (hx : Bts w (some ⟨b, off, none⟩) xs) (hc : xs.length ≤ cap) (hm : cap ≤ maxLen) (hl : 28 ≤ xs.length) (hl2 : xs.length ≤ 140737488355328) (h12 : xs.getD 7 0 = 1) :
    Calls Try.prog 23 #[.slice (some ⟨b, off, none⟩) xs.length cap] w (ArpAns xs w) := by
  unfold maxLen at hm
  obtain ⟨b', off', e, hb, hcx⟩ := hx.isSome (by omega)
  cases e
  have c0 : w.cell? ⟨b, off, none⟩ = some (.int .u8 (xs.getD 0 0 : Nat)) := hcx 0 (by omega)
  have c1 := hcx 1 (by omega)
  have c2 := hcx 2 (by omega)
  have c3 := hcx 3 (by omega)
  have c4 := hcx 4 (by omega)
  have c5 := hcx 5 (by omega)
  have c6 := hcx 6 (by omega)
  have c7 := hcx 7 (by omega)
  have i7 : (7 : Int) < (xs.length : Int) := by omega
  have nb : b ≠ w.heap.size := by omega
  have HX := Lib.hid hx
  have H12 : Hid (xs.getD 7 0 = 1 ∨ xs.getD 7 0 = 2) := Lib.hid (.inl h12)
  have hat : ∀ W, (Instr.arrayAt 92 (.slice (some ⟨b, off, none⟩) xs.length cap)).run Try.prog W = .ok (.pointer (some ⟨b, off, none⟩)) W := fun W => run_arrayAt W 92 _ 8 _ xs.length cap Try.underlying92 (by omega)
  clear hcx hx
  have c8 : ∀ c W, Below w.heap.size w W → Calls Try.prog 57 #[.slice (some ⟨b, off + 8, none⟩) 6 c] W fun e w' => e = .returned (.int .u64 (arpM1 xs : Nat)) ∧ W = w' := fun c W h => by
    have := pnum_ether (some ⟨b, off + 8, none⟩) (seg xs 8 6) c W ((HX.out.below h).segOf 8 6 (by omega)) (by rw [seg_length _ _ _ (by omega)]; omega) (by rw [seg_length _ _ _ (by omega)]; omega)
    rwa [seg_length _ _ _ (by omega)] at this
  have l8 : arpM1 xs < 281474976710656 := by
    have := Mt.numOf_lt (seg xs 8 6) (seg_lt HX.out.1 8 6)
    rwa [seg_length _ _ _ (by omega)] at this
  have c14 : ∀ c W, Below w.heap.size w W → Calls Try.prog 57 #[.slice (some ⟨b, off + 8 + 6, none⟩) 4 c] W fun e w' => e = .returned (.int .u64 (arpI1 xs : Nat)) ∧ W = w' := fun c W h => by
    have := pnum_ether (some ⟨b, off + 14, none⟩) (seg xs 14 4) c W ((HX.out.below h).segOf 14 4 (by omega)) (by rw [seg_length _ _ _ (by omega)]; omega) (by rw [seg_length _ _ _ (by omega)]; omega)
    rwa [seg_length _ _ _ (by omega)] at this
  have l14 : arpI1 xs < 4294967296 := by
    have := Mt.numOf_lt (seg xs 14 4) (seg_lt HX.out.1 14 4)
    rwa [seg_length _ _ _ (by omega)] at this
  have c18 : ∀ c W, Below w.heap.size w W → Calls Try.prog 57 #[.slice (some ⟨b, off + 18, none⟩) 6 c] W fun e w' => e = .returned (.int .u64 (arpM2 xs : Nat)) ∧ W = w' := fun c W h => by
    have := pnum_ether (some ⟨b, off + 18, none⟩) (seg xs 18 6) c W ((HX.out.below h).segOf 18 6 (by omega)) (by rw [seg_length _ _ _ (by omega)]; omega) (by rw [seg_length _ _ _ (by omega)]; omega)
    rwa [seg_length _ _ _ (by omega)] at this
  have l18 : arpM2 xs < 281474976710656 := by
    have := Mt.numOf_lt (seg xs 18 6) (seg_lt HX.out.1 18 6)
    rwa [seg_length _ _ _ (by omega)] at this
  have c24 : ∀ c W, Below w.heap.size w W → Calls Try.prog 57 #[.slice (some ⟨b, off + 18 + 6, none⟩) 4 c] W fun e w' => e = .returned (.int .u64 (arpI2 xs : Nat)) ∧ W = w' := fun c W h => by
    have := pnum_ether (some ⟨b, off + 24, none⟩) (seg xs 24 4) c W ((HX.out.below h).segOf 24 4 (by omega)) (by rw [seg_length _ _ _ (by omega)]; omega) (by rw [seg_length _ _ _ (by omega)]; omega)
    rwa [seg_length _ _ _ (by omega)] at this
  have l24 : arpI2 xs < 4294967296 := by
    have := Mt.numOf_lt (seg xs 24 4) (seg_lt HX.out.1 24 4)
    rwa [seg_length _ _ _ (by omega)] at this
  have e14 : IntKind.u32.wrap (arpI1 xs : Int) = (arpI1 xs : Int) := IntWalk.u32_in _ (by omega)
  have e24 : IntKind.u32.wrap (arpI2 xs : Int) = (arpI2 xs : Int) := IntWalk.u32_in _ (by omega)
  obtain ⟨M1, h8⟩ : ∃ M1, arpM1 xs = M1 := ⟨_, rfl⟩
  obtain ⟨I1, h14⟩ : ∃ I1, arpI1 xs = I1 := ⟨_, rfl⟩
  obtain ⟨M2, h18⟩ : ∃ M2, arpM2 xs = M2 := ⟨_, rfl⟩
  obtain ⟨I2, h24⟩ : ∃ I2, arpI2 xs = I2 := ⟨_, rfl⟩
  rw [h8] at c8
  rw [h14] at c14 e14
  rw [h18] at c18
  rw [h24] at c24 e24
  have N8 := Lib.hid c8
  have N14 := Lib.hid c14
  have N18 := Lib.hid c18
  have N24 := Lib.hid c24
  have H8 := Lib.hid (And.intro h8 (And.intro h14 (And.intro h18 h24)))
  clear h8 h14 h18 h24 c8 c14 c18 c24 l8 l14 l18 l24
  have k8 : (8 : Int) ≤ (cap : Int) := by omega
  have k18 : (18 : Int) ≤ (cap : Int) := by omega
  have kl8 : (8 : Int) ≤ (xs.length : Int) := by omega
  have kl18 : (18 : Int) ≤ (xs.length : Int) := by omega
  have d8 : 10 ≤ cap - 8 := by omega
  have d18 : 10 ≤ cap - 18 := by omega
  have n8 : ¬ cap = 8 := by omega
  have n18 : ¬ cap = 18 := by omega
  have n6 : ¬ cap - 8 = 6 := by omega
  have n16 : ¬ cap - 18 = 6 := by omega
  have lt := fun k (hk : k < 28) => HX.out.1 _ (Mt.getD_mem xs k (by omega))
  obtain ⟨E, hE, hb1⟩ := arp_eq (xs.getD 0 0) (xs.getD 1 0) (xs.getD 2 0) (xs.getD 3 0) (xs.getD 4 0) (xs.getD 5 0) (xs.getD 6 0) (xs.getD 7 0) (lt 0 (by omega)) (lt 1 (by omega)) (lt 2 (by omega)) (lt 3 (by omega)) (lt 4 (by omega)) (lt 5 (by omega)) (lt 6 (by omega)) (lt 7 (by omega))
  rw [← arpBegins_iff] at hb1
  have Hb1 := Lib.hid hb1
  clear lt hb1
  have n1 : (((xs.getD 7 0 : Nat) : Int) != 1) = false := by rw [h12]; rfl
  generalize xs.getD 0 0 = x0 at c0 hE
  generalize xs.getD 1 0 = x1 at c1 hE
  generalize xs.getD 2 0 = x2 at c2 hE
  generalize xs.getD 3 0 = x3 at c3 hE
  generalize xs.getD 4 0 = x4 at c4 hE
  generalize xs.getD 5 0 = x5 at c5 hE
  generalize xs.getD 6 0 = x6 at c6 hE
  obtain ⟨x7, hx7⟩ : ∃ x, xs.getD 7 0 = x := ⟨_, rfl⟩
  rw [hx7] at c7 n1 hE
  have hb7 : x7 < 256 := by rw [← hx7]; exact HX.out.1 _ (Mt.getD_mem xs 7 (by omega))
  have Hx7 := Lib.hid hx7
  clear hx7 h12
  go_enter Try.func23, Try.ntmps23
  go_wp2_with fail
  have hr0 := blk_new w (.cells #[.int .i64 0, .int .u64 0, .int .u32 0, .int .u64 0, .int .u32 0] 28)
  have bw := (Below.refl _ w).alloc (Nat.le_refl _) (.cells #[.int .i64 0, .int .u64 0, .int .u32 0, .int .u64 0, .int .u32 0] 28)
  generalize w.alloc (.cells #[.int .i64 0, .int .u64 0, .int .u32 0, .int .u64 0, .int .u32 0] 28) = W0 at hr0 bw ⊢
  have g0 := (bw.cell (p := ⟨b, off, none⟩) hb).trans c0
  have g1 := (bw.cell (p := ⟨b, off + 1, none⟩) hb).trans c1
  have g2 := (bw.cell (p := ⟨b, off + 2, none⟩) hb).trans c2
  have g3 := (bw.cell (p := ⟨b, off + 3, none⟩) hb).trans c3
  have g4 := (bw.cell (p := ⟨b, off + 4, none⟩) hb).trans c4
  have g5 := (bw.cell (p := ⟨b, off + 5, none⟩) hb).trans c5
  have g6 := (bw.cell (p := ⟨b, off + 6, none⟩) hb).trans c6
  have g7 := (bw.cell (p := ⟨b, off + 7, none⟩) hb).trans c7
  have hsz : w.heap.size < W0.heap.size := (Array.getElem?_eq_some_iff.1 hr0).1
  have HR0 := Lib.hid hr0
  clear hr0
  first
    | (go_region_held (fun W => (W.cell? ⟨b, off, none⟩ = some (.int .u8 x0) ∧ W.cell? ⟨b, off + 1, none⟩ = some (.int .u8 x1) ∧ W.cell? ⟨b, off + 2, none⟩ = some (.int .u8 x2) ∧ W.cell? ⟨b, off + 3, none⟩ = some (.int .u8 x3) ∧ W.cell? ⟨b, off + 4, none⟩ = some (.int .u8 x4) ∧ W.cell? ⟨b, off + 5, none⟩ = some (.int .u8 x5) ∧ W.cell? ⟨b, off + 6, none⟩ = some (.int .u8 x6) ∧ W.cell? ⟨b, off + 7, none⟩ = some (.int .u8 x7))) (first | go_keep) (first
      | (go_at_call 55; (with_reducible refine (start_any _ _).mono ?_); rintro e w1 ⟨rfl, b1⟩; have l0 := (b1.cell (p := ⟨b, off, none⟩) (Nat.lt_of_lt_of_le hb bw.size)).trans g0; have l1 := (b1.cell (p := ⟨b, off + 1, none⟩) (Nat.lt_of_lt_of_le hb bw.size)).trans g1; have l2 := (b1.cell (p := ⟨b, off + 2, none⟩) (Nat.lt_of_lt_of_le hb bw.size)).trans g2; have l3 := (b1.cell (p := ⟨b, off + 3, none⟩) (Nat.lt_of_lt_of_le hb bw.size)).trans g3; have l4 := (b1.cell (p := ⟨b, off + 4, none⟩) (Nat.lt_of_lt_of_le hb bw.size)).trans g4; have l5 := (b1.cell (p := ⟨b, off + 5, none⟩) (Nat.lt_of_lt_of_le hb bw.size)).trans g5; have l6 := (b1.cell (p := ⟨b, off + 6, none⟩) (Nat.lt_of_lt_of_le hb bw.size)).trans g6; have l7 := (b1.cell (p := ⟨b, off + 7, none⟩) (Nat.lt_of_lt_of_le hb bw.size)).trans g7)))
    | fail
  all_goals
    have R1 := Lib.hid ((b1.block w.heap.size hsz).trans HR0.out)
    have q1 := bw.drew.trans (b1.mono bw.size)
    have s1 : w.heap.size < w1.heap.size := Nat.lt_of_lt_of_le hsz b1.size
    clear b1 l0 l1 l2 l3 l4 l5 l6 l7 g0 g1 g2 g3 g4 g5 g6 g7 c0 c1 c2 c3 c4 c5 c6 c7 hE
  all_goals
    cases E
    case' false =>
      have r0 := blk_cell R1.out 0
      have t0 := blk_free R1.out 0
      have r1 := blk_cell R1.out 1
      have t1 := blk_free R1.out 1
      have r2 := blk_cell R1.out 2
      have t2 := blk_free R1.out 2
      have r3 := blk_cell R1.out 3
      have t3 := blk_free R1.out 3
      have r4 := blk_cell R1.out 4
      have t4 := blk_free R1.out 4
      go_wp2
      have F := blk_set (blk_set (blk_set (blk_set (blk_set R1.out 0 (.int .i64 0)) 1 (.int .u64 0)) 2 (.int .u32 0)) 3 (.int .u64 0)) 4 (.int .u32 0)
      have Q := ((((q1.setCell (p := ⟨w.heap.size, 0, none⟩) (Nat.le_refl _) (.int .i64 0)).setCell (p := ⟨w.heap.size, 1, none⟩) (Nat.le_refl _) (.int .u64 0)).setCell (p := ⟨w.heap.size, 2, none⟩) (Nat.le_refl _) (.int .u32 0)).setCell (p := ⟨w.heap.size, 3, none⟩) (Nat.le_refl _) (.int .u64 0)).setCell (p := ⟨w.heap.size, 4, none⟩) (Nat.le_refl _) (.int .u32 0)
      have f0 := blk_cell F 0
      have f1 := blk_cell F 1
      have f2 := blk_cell F 2
      have f3 := blk_cell F 3
      have f4 := blk_cell F 4
      exact bodyPost_ret (v := arpZero) (by simp [results, Try.results23, go_sem, f0, f1, f2, f3, f4]) rfl (.inr ⟨(fun h => by have h2 := Hb1.out.2 h.1; cases h2), rfl, Q⟩)
    case' true =>
      go_wp2_with fail
      have bn := blk_new w1 (.cells #[.int .u64 0, .int .u32 0, .int .u64 0, .int .u32 0] 96)
      have q2 := q1.alloc (Nat.le_of_lt s1) (.cells #[.int .u64 0, .int .u32 0, .int .u64 0, .int .u32 0] 96)
      have R2 := Lib.hid ((Below.heap_alloc w1 (.cells #[.int .u64 0, .int .u32 0, .int .u64 0, .int .u32 0] 96) w.heap.size s1).trans R1.out)
      generalize w1.alloc (.cells #[.int .u64 0, .int .u32 0, .int .u64 0, .int .u32 0] 96) = W2 at bn q2 R2 ⊢
      obtain ⟨G, hG⟩ : ∃ G, w1.heap.size = G := ⟨_, rfl⟩
      rw [hG] at bn s1 ⊢
      have sG := Nat.le_of_lt s1
      have nG : G ≠ w.heap.size := by omega
      have nb2 : b ≠ G := by omega
      clear hG R1 q1
      have BN := Lib.hid bn
      clear bn
      have u0 := blk_cell BN.out 0
      have v0 := blk_free BN.out 0
      have u1 := blk_cell BN.out 1
      have v1 := blk_free BN.out 1
      have u2 := blk_cell BN.out 2
      have v2 := blk_free BN.out 2
      have u3 := blk_cell BN.out 3
      have v3 := blk_free BN.out 3
      have r0 := blk_cell R2.out 0
      have t0 := blk_free R2.out 0
      have r1 := blk_cell R2.out 1
      have t1 := blk_free R2.out 1
      have r2 := blk_cell R2.out 2
      have t2 := blk_free R2.out 2
      have r3 := blk_cell R2.out 3
      have t3 := blk_free R2.out 3
      have r4 := blk_cell R2.out 4
      have t4 := blk_free R2.out 4
      refine wp_loop_rounds 3 ?_
      rw [rounds_succ]
      go_wp2_with fail
      refine (N8.out _ _ q2).mono ?_; rintro e w' ⟨rfl, rfl⟩
      have q3 := q2.setCell (p := ⟨G, 0, none⟩) sG (.int .u64 M1)
      go_wp2_with fail
      refine (N14.out _ _ q3).mono ?_; rintro e w' ⟨rfl, rfl⟩
      have q4 := q3.setCell (p := ⟨G, 1, none⟩) sG (.int .u32 I1)
      go_wp2_with fail
      rw [rounds_succ]
      go_wp2_with fail
      refine (N18.out _ _ q4).mono ?_; rintro e w' ⟨rfl, rfl⟩
      have q5 := q4.setCell (p := ⟨G, 2, none⟩) sG (.int .u64 M2)
      go_wp2_with fail
      refine (N24.out _ _ q5).mono ?_; rintro e w' ⟨rfl, rfl⟩
      have q6 := q5.setCell (p := ⟨G, 3, none⟩) sG (.int .u32 I2)
      go_wp2_with fail
      rw [rounds_succ]
      go_wp2
      have R6 := blk_other (blk_other (blk_other (blk_other R2.out nG (.int .u64 M1) (i := 0)) nG (.int .u32 I1) (i := 1)) nG (.int .u64 M2) (i := 2)) nG (.int .u32 I2) (i := 3)
      have F := blk_set (blk_set (blk_set (blk_set (blk_set R6 0 (.int .i64 x7)) 1 (.int .u64 M1)) 2 (.int .u32 I1)) 3 (.int .u64 M2)) 4 (.int .u32 I2)
      have Q := ((((q6.setCell (p := ⟨w.heap.size, 0, none⟩) (Nat.le_refl _) (.int .i64 x7)).setCell (p := ⟨w.heap.size, 1, none⟩) (Nat.le_refl _) (.int .u64 M1)).setCell (p := ⟨w.heap.size, 2, none⟩) (Nat.le_refl _) (.int .u32 I1)).setCell (p := ⟨w.heap.size, 3, none⟩) (Nat.le_refl _) (.int .u64 M2)).setCell (p := ⟨w.heap.size, 4, none⟩) (Nat.le_refl _) (.int .u32 I2)
      have f0 := blk_cell F 0
      have f1 := blk_cell F 1
      have f2 := blk_cell F 2
      have f3 := blk_cell F 3
      have f4 := blk_cell F 4
      exact bodyPost_ret (v := .tuple #[.agg #[.int .i64 x7, .int .u64 M1, .int .u32 I1, .int .u64 M2, .int .u32 I2], .int .i64 0]) (by simp [results, Try.results23, go_sem, f0, f1, f2, f3, f4]) rfl (.inl ⟨⟨Hb1.out.1 (by first | trivial | rfl), H12.out⟩, by rw [Hx7.out, H8.out.1, H8.out.2.1, H8.out.2.2.1, H8.out.2.2.2], Q⟩)
set_option maxRecDepth 100000 in
set_option maxHeartbeats 4000000 in
/-- An answer. -/
theorem arp_go2 (b off : Nat) (xs : List Nat) (cap : Nat) (w : World) (hx : Bts w (some ⟨b, off, none⟩) xs) (hc : xs.length ≤ cap) (hm : cap ≤ maxLen) (hl : 28 ≤ xs.length) (hl2 : xs.length ≤ 140737488355328) (h12 : xs.getD 7 0 = 2) :
    Calls Try.prog 23 #[.slice (some ⟨b, off, none⟩) xs.length cap] w (ArpAns xs w) := by
  unfold maxLen at hm
  obtain ⟨b', off', e, hb, hcx⟩ := hx.isSome (by omega)
  cases e
  have c0 : w.cell? ⟨b, off, none⟩ = some (.int .u8 (xs.getD 0 0 : Nat)) := hcx 0 (by omega)
  have c1 := hcx 1 (by omega)
  have c2 := hcx 2 (by omega)
  have c3 := hcx 3 (by omega)
  have c4 := hcx 4 (by omega)
  have c5 := hcx 5 (by omega)
  have c6 := hcx 6 (by omega)
  have c7 := hcx 7 (by omega)
  have i7 : (7 : Int) < (xs.length : Int) := by omega
  have nb : b ≠ w.heap.size := by omega
  have HX := Lib.hid hx
  have H12 : Hid (xs.getD 7 0 = 1 ∨ xs.getD 7 0 = 2) := Lib.hid (.inr h12)
  have hat : ∀ W, (Instr.arrayAt 92 (.slice (some ⟨b, off, none⟩) xs.length cap)).run Try.prog W = .ok (.pointer (some ⟨b, off, none⟩)) W := fun W => run_arrayAt W 92 _ 8 _ xs.length cap Try.underlying92 (by omega)
  clear hcx hx
  have c8 : ∀ c W, Below w.heap.size w W → Calls Try.prog 57 #[.slice (some ⟨b, off + 8, none⟩) 6 c] W fun e w' => e = .returned (.int .u64 (arpM1 xs : Nat)) ∧ W = w' := fun c W h => by
    have := pnum_ether (some ⟨b, off + 8, none⟩) (seg xs 8 6) c W ((HX.out.below h).segOf 8 6 (by omega)) (by rw [seg_length _ _ _ (by omega)]; omega) (by rw [seg_length _ _ _ (by omega)]; omega)
    rwa [seg_length _ _ _ (by omega)] at this
  have l8 : arpM1 xs < 281474976710656 := by
    have := Mt.numOf_lt (seg xs 8 6) (seg_lt HX.out.1 8 6)
    rwa [seg_length _ _ _ (by omega)] at this
  have c14 : ∀ c W, Below w.heap.size w W → Calls Try.prog 57 #[.slice (some ⟨b, off + 8 + 6, none⟩) 4 c] W fun e w' => e = .returned (.int .u64 (arpI1 xs : Nat)) ∧ W = w' := fun c W h => by
    have := pnum_ether (some ⟨b, off + 14, none⟩) (seg xs 14 4) c W ((HX.out.below h).segOf 14 4 (by omega)) (by rw [seg_length _ _ _ (by omega)]; omega) (by rw [seg_length _ _ _ (by omega)]; omega)
    rwa [seg_length _ _ _ (by omega)] at this
  have l14 : arpI1 xs < 4294967296 := by
    have := Mt.numOf_lt (seg xs 14 4) (seg_lt HX.out.1 14 4)
    rwa [seg_length _ _ _ (by omega)] at this
  have c18 : ∀ c W, Below w.heap.size w W → Calls Try.prog 57 #[.slice (some ⟨b, off + 18, none⟩) 6 c] W fun e w' => e = .returned (.int .u64 (arpM2 xs : Nat)) ∧ W = w' := fun c W h => by
    have := pnum_ether (some ⟨b, off + 18, none⟩) (seg xs 18 6) c W ((HX.out.below h).segOf 18 6 (by omega)) (by rw [seg_length _ _ _ (by omega)]; omega) (by rw [seg_length _ _ _ (by omega)]; omega)
    rwa [seg_length _ _ _ (by omega)] at this
  have l18 : arpM2 xs < 281474976710656 := by
    have := Mt.numOf_lt (seg xs 18 6) (seg_lt HX.out.1 18 6)
    rwa [seg_length _ _ _ (by omega)] at this
  have c24 : ∀ c W, Below w.heap.size w W → Calls Try.prog 57 #[.slice (some ⟨b, off + 18 + 6, none⟩) 4 c] W fun e w' => e = .returned (.int .u64 (arpI2 xs : Nat)) ∧ W = w' := fun c W h => by
    have := pnum_ether (some ⟨b, off + 24, none⟩) (seg xs 24 4) c W ((HX.out.below h).segOf 24 4 (by omega)) (by rw [seg_length _ _ _ (by omega)]; omega) (by rw [seg_length _ _ _ (by omega)]; omega)
    rwa [seg_length _ _ _ (by omega)] at this
  have l24 : arpI2 xs < 4294967296 := by
    have := Mt.numOf_lt (seg xs 24 4) (seg_lt HX.out.1 24 4)
    rwa [seg_length _ _ _ (by omega)] at this
  have e14 : IntKind.u32.wrap (arpI1 xs : Int) = (arpI1 xs : Int) := IntWalk.u32_in _ (by omega)
  have e24 : IntKind.u32.wrap (arpI2 xs : Int) = (arpI2 xs : Int) := IntWalk.u32_in _ (by omega)
  obtain ⟨M1, h8⟩ : ∃ M1, arpM1 xs = M1 := ⟨_, rfl⟩
  obtain ⟨I1, h14⟩ : ∃ I1, arpI1 xs = I1 := ⟨_, rfl⟩
  obtain ⟨M2, h18⟩ : ∃ M2, arpM2 xs = M2 := ⟨_, rfl⟩
  obtain ⟨I2, h24⟩ : ∃ I2, arpI2 xs = I2 := ⟨_, rfl⟩
  rw [h8] at c8
  rw [h14] at c14 e14
  rw [h18] at c18
  rw [h24] at c24 e24
  have N8 := Lib.hid c8
  have N14 := Lib.hid c14
  have N18 := Lib.hid c18
  have N24 := Lib.hid c24
  have H8 := Lib.hid (And.intro h8 (And.intro h14 (And.intro h18 h24)))
  clear h8 h14 h18 h24 c8 c14 c18 c24 l8 l14 l18 l24
  have k8 : (8 : Int) ≤ (cap : Int) := by omega
  have k18 : (18 : Int) ≤ (cap : Int) := by omega
  have kl8 : (8 : Int) ≤ (xs.length : Int) := by omega
  have kl18 : (18 : Int) ≤ (xs.length : Int) := by omega
  have d8 : 10 ≤ cap - 8 := by omega
  have d18 : 10 ≤ cap - 18 := by omega
  have n8 : ¬ cap = 8 := by omega
  have n18 : ¬ cap = 18 := by omega
  have n6 : ¬ cap - 8 = 6 := by omega
  have n16 : ¬ cap - 18 = 6 := by omega
  have lt := fun k (hk : k < 28) => HX.out.1 _ (Mt.getD_mem xs k (by omega))
  obtain ⟨E, hE, hb1⟩ := arp_eq (xs.getD 0 0) (xs.getD 1 0) (xs.getD 2 0) (xs.getD 3 0) (xs.getD 4 0) (xs.getD 5 0) (xs.getD 6 0) (xs.getD 7 0) (lt 0 (by omega)) (lt 1 (by omega)) (lt 2 (by omega)) (lt 3 (by omega)) (lt 4 (by omega)) (lt 5 (by omega)) (lt 6 (by omega)) (lt 7 (by omega))
  rw [← arpBegins_iff] at hb1
  have Hb1 := Lib.hid hb1
  clear lt hb1
  have n1 : (((xs.getD 7 0 : Nat) : Int) != 1) = true := by rw [h12]; rfl
  have n2 : (((xs.getD 7 0 : Nat) : Int) != 2) = false := by rw [h12]; rfl
  generalize xs.getD 0 0 = x0 at c0 hE
  generalize xs.getD 1 0 = x1 at c1 hE
  generalize xs.getD 2 0 = x2 at c2 hE
  generalize xs.getD 3 0 = x3 at c3 hE
  generalize xs.getD 4 0 = x4 at c4 hE
  generalize xs.getD 5 0 = x5 at c5 hE
  generalize xs.getD 6 0 = x6 at c6 hE
  obtain ⟨x7, hx7⟩ : ∃ x, xs.getD 7 0 = x := ⟨_, rfl⟩
  rw [hx7] at c7 n1 n2 hE
  have hb7 : x7 < 256 := by rw [← hx7]; exact HX.out.1 _ (Mt.getD_mem xs 7 (by omega))
  have Hx7 := Lib.hid hx7
  clear hx7 h12
  go_enter Try.func23, Try.ntmps23
  go_wp2_with fail
  have hr0 := blk_new w (.cells #[.int .i64 0, .int .u64 0, .int .u32 0, .int .u64 0, .int .u32 0] 28)
  have bw := (Below.refl _ w).alloc (Nat.le_refl _) (.cells #[.int .i64 0, .int .u64 0, .int .u32 0, .int .u64 0, .int .u32 0] 28)
  generalize w.alloc (.cells #[.int .i64 0, .int .u64 0, .int .u32 0, .int .u64 0, .int .u32 0] 28) = W0 at hr0 bw ⊢
  have g0 := (bw.cell (p := ⟨b, off, none⟩) hb).trans c0
  have g1 := (bw.cell (p := ⟨b, off + 1, none⟩) hb).trans c1
  have g2 := (bw.cell (p := ⟨b, off + 2, none⟩) hb).trans c2
  have g3 := (bw.cell (p := ⟨b, off + 3, none⟩) hb).trans c3
  have g4 := (bw.cell (p := ⟨b, off + 4, none⟩) hb).trans c4
  have g5 := (bw.cell (p := ⟨b, off + 5, none⟩) hb).trans c5
  have g6 := (bw.cell (p := ⟨b, off + 6, none⟩) hb).trans c6
  have g7 := (bw.cell (p := ⟨b, off + 7, none⟩) hb).trans c7
  have hsz : w.heap.size < W0.heap.size := (Array.getElem?_eq_some_iff.1 hr0).1
  have HR0 := Lib.hid hr0
  clear hr0
  first
    | (go_region_held (fun W => (W.cell? ⟨b, off, none⟩ = some (.int .u8 x0) ∧ W.cell? ⟨b, off + 1, none⟩ = some (.int .u8 x1) ∧ W.cell? ⟨b, off + 2, none⟩ = some (.int .u8 x2) ∧ W.cell? ⟨b, off + 3, none⟩ = some (.int .u8 x3) ∧ W.cell? ⟨b, off + 4, none⟩ = some (.int .u8 x4) ∧ W.cell? ⟨b, off + 5, none⟩ = some (.int .u8 x5) ∧ W.cell? ⟨b, off + 6, none⟩ = some (.int .u8 x6) ∧ W.cell? ⟨b, off + 7, none⟩ = some (.int .u8 x7))) (first | go_keep) (first
      | (go_at_call 55; (with_reducible refine (start_any _ _).mono ?_); rintro e w1 ⟨rfl, b1⟩; have l0 := (b1.cell (p := ⟨b, off, none⟩) (Nat.lt_of_lt_of_le hb bw.size)).trans g0; have l1 := (b1.cell (p := ⟨b, off + 1, none⟩) (Nat.lt_of_lt_of_le hb bw.size)).trans g1; have l2 := (b1.cell (p := ⟨b, off + 2, none⟩) (Nat.lt_of_lt_of_le hb bw.size)).trans g2; have l3 := (b1.cell (p := ⟨b, off + 3, none⟩) (Nat.lt_of_lt_of_le hb bw.size)).trans g3; have l4 := (b1.cell (p := ⟨b, off + 4, none⟩) (Nat.lt_of_lt_of_le hb bw.size)).trans g4; have l5 := (b1.cell (p := ⟨b, off + 5, none⟩) (Nat.lt_of_lt_of_le hb bw.size)).trans g5; have l6 := (b1.cell (p := ⟨b, off + 6, none⟩) (Nat.lt_of_lt_of_le hb bw.size)).trans g6; have l7 := (b1.cell (p := ⟨b, off + 7, none⟩) (Nat.lt_of_lt_of_le hb bw.size)).trans g7)))
    | fail
  all_goals
    have R1 := Lib.hid ((b1.block w.heap.size hsz).trans HR0.out)
    have q1 := bw.drew.trans (b1.mono bw.size)
    have s1 : w.heap.size < w1.heap.size := Nat.lt_of_lt_of_le hsz b1.size
    clear b1 l0 l1 l2 l3 l4 l5 l6 l7 g0 g1 g2 g3 g4 g5 g6 g7 c0 c1 c2 c3 c4 c5 c6 c7 hE
  all_goals
    cases E
    case' false =>
      have r0 := blk_cell R1.out 0
      have t0 := blk_free R1.out 0
      have r1 := blk_cell R1.out 1
      have t1 := blk_free R1.out 1
      have r2 := blk_cell R1.out 2
      have t2 := blk_free R1.out 2
      have r3 := blk_cell R1.out 3
      have t3 := blk_free R1.out 3
      have r4 := blk_cell R1.out 4
      have t4 := blk_free R1.out 4
      go_wp2
      have F := blk_set (blk_set (blk_set (blk_set (blk_set R1.out 0 (.int .i64 0)) 1 (.int .u64 0)) 2 (.int .u32 0)) 3 (.int .u64 0)) 4 (.int .u32 0)
      have Q := ((((q1.setCell (p := ⟨w.heap.size, 0, none⟩) (Nat.le_refl _) (.int .i64 0)).setCell (p := ⟨w.heap.size, 1, none⟩) (Nat.le_refl _) (.int .u64 0)).setCell (p := ⟨w.heap.size, 2, none⟩) (Nat.le_refl _) (.int .u32 0)).setCell (p := ⟨w.heap.size, 3, none⟩) (Nat.le_refl _) (.int .u64 0)).setCell (p := ⟨w.heap.size, 4, none⟩) (Nat.le_refl _) (.int .u32 0)
      have f0 := blk_cell F 0
      have f1 := blk_cell F 1
      have f2 := blk_cell F 2
      have f3 := blk_cell F 3
      have f4 := blk_cell F 4
      exact bodyPost_ret (v := arpZero) (by simp [results, Try.results23, go_sem, f0, f1, f2, f3, f4]) rfl (.inr ⟨(fun h => by have h2 := Hb1.out.2 h.1; cases h2), rfl, Q⟩)
    case' true =>
      go_wp2_with fail
      have bn := blk_new w1 (.cells #[.int .u64 0, .int .u32 0, .int .u64 0, .int .u32 0] 96)
      have q2 := q1.alloc (Nat.le_of_lt s1) (.cells #[.int .u64 0, .int .u32 0, .int .u64 0, .int .u32 0] 96)
      have R2 := Lib.hid ((Below.heap_alloc w1 (.cells #[.int .u64 0, .int .u32 0, .int .u64 0, .int .u32 0] 96) w.heap.size s1).trans R1.out)
      generalize w1.alloc (.cells #[.int .u64 0, .int .u32 0, .int .u64 0, .int .u32 0] 96) = W2 at bn q2 R2 ⊢
      obtain ⟨G, hG⟩ : ∃ G, w1.heap.size = G := ⟨_, rfl⟩
      rw [hG] at bn s1 ⊢
      have sG := Nat.le_of_lt s1
      have nG : G ≠ w.heap.size := by omega
      have nb2 : b ≠ G := by omega
      clear hG R1 q1
      have BN := Lib.hid bn
      clear bn
      have u0 := blk_cell BN.out 0
      have v0 := blk_free BN.out 0
      have u1 := blk_cell BN.out 1
      have v1 := blk_free BN.out 1
      have u2 := blk_cell BN.out 2
      have v2 := blk_free BN.out 2
      have u3 := blk_cell BN.out 3
      have v3 := blk_free BN.out 3
      have r0 := blk_cell R2.out 0
      have t0 := blk_free R2.out 0
      have r1 := blk_cell R2.out 1
      have t1 := blk_free R2.out 1
      have r2 := blk_cell R2.out 2
      have t2 := blk_free R2.out 2
      have r3 := blk_cell R2.out 3
      have t3 := blk_free R2.out 3
      have r4 := blk_cell R2.out 4
      have t4 := blk_free R2.out 4
      refine wp_loop_rounds 3 ?_
      rw [rounds_succ]
      go_wp2_with fail
      refine (N8.out _ _ q2).mono ?_; rintro e w' ⟨rfl, rfl⟩
      have q3 := q2.setCell (p := ⟨G, 0, none⟩) sG (.int .u64 M1)
      go_wp2_with fail
      refine (N14.out _ _ q3).mono ?_; rintro e w' ⟨rfl, rfl⟩
      have q4 := q3.setCell (p := ⟨G, 1, none⟩) sG (.int .u32 I1)
      go_wp2_with fail
      rw [rounds_succ]
      go_wp2_with fail
      refine (N18.out _ _ q4).mono ?_; rintro e w' ⟨rfl, rfl⟩
      have q5 := q4.setCell (p := ⟨G, 2, none⟩) sG (.int .u64 M2)
      go_wp2_with fail
      refine (N24.out _ _ q5).mono ?_; rintro e w' ⟨rfl, rfl⟩
      have q6 := q5.setCell (p := ⟨G, 3, none⟩) sG (.int .u32 I2)
      go_wp2_with fail
      rw [rounds_succ]
      go_wp2
      have R6 := blk_other (blk_other (blk_other (blk_other R2.out nG (.int .u64 M1) (i := 0)) nG (.int .u32 I1) (i := 1)) nG (.int .u64 M2) (i := 2)) nG (.int .u32 I2) (i := 3)
      have F := blk_set (blk_set (blk_set (blk_set (blk_set R6 0 (.int .i64 x7)) 1 (.int .u64 M1)) 2 (.int .u32 I1)) 3 (.int .u64 M2)) 4 (.int .u32 I2)
      have Q := ((((q6.setCell (p := ⟨w.heap.size, 0, none⟩) (Nat.le_refl _) (.int .i64 x7)).setCell (p := ⟨w.heap.size, 1, none⟩) (Nat.le_refl _) (.int .u64 M1)).setCell (p := ⟨w.heap.size, 2, none⟩) (Nat.le_refl _) (.int .u32 I1)).setCell (p := ⟨w.heap.size, 3, none⟩) (Nat.le_refl _) (.int .u64 M2)).setCell (p := ⟨w.heap.size, 4, none⟩) (Nat.le_refl _) (.int .u32 I2)
      have f0 := blk_cell F 0
      have f1 := blk_cell F 1
      have f2 := blk_cell F 2
      have f3 := blk_cell F 3
      have f4 := blk_cell F 4
      exact bodyPost_ret (v := .tuple #[.agg #[.int .i64 x7, .int .u64 M1, .int .u32 I1, .int .u64 M2, .int .u32 I2], .int .i64 0]) (by simp [results, Try.results23, go_sem, f0, f1, f2, f3, f4]) rfl (.inl ⟨⟨Hb1.out.1 (by first | trivial | rfl), H12.out⟩, by rw [Hx7.out, H8.out.1, H8.out.2.1, H8.out.2.2.1, H8.out.2.2.2], Q⟩)
theorem arp_any (a : Option Addr) (xs : List Nat) (cap : Nat) (w : World) (hx : Bts w a xs) (hc : xs.length ≤ cap) (hm : cap ≤ maxLen) (hl : 28 ≤ xs.length) (hl2 : xs.length ≤ 140737488355328) :
    Calls Try.prog 23 #[.slice a xs.length cap] w (ArpAns xs w) := by
  obtain ⟨b, off, rfl, _, _⟩ := hx.isSome (by omega)
  by_cases h1 : xs.getD 7 0 = 1
  · exact arp_go1 b off xs cap w hx hc hm hl hl2 h1
  · by_cases h2 : xs.getD 7 0 = 2
    · exact arp_go2 b off xs cap w hx hc hm hl hl2 h2
    · exact (arp_op b off xs cap w hx hl hl2 h1 h2).mono fun e w' h => .inr ⟨(fun h3 => h3.2.elim h1 h2), h.1, h.2⟩
end Go.Proofs.Ytdiomelldhkibaa
