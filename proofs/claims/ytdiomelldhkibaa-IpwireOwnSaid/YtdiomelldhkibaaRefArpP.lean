/- What the document's own ParseArp gives. -/
import Derived.Test.YtdiomelldhkibaaRefArp
import Derived.Test.YtdiomelldhkibaaGPlain
namespace Go.Proofs.Ytdiomelldhkibaa
open Go.RowKit

/-- An ARP's parts in octets. -/
abbrev arpM1 (xs : List Nat) : Nat := Mt.numOf (seg xs 8 6)
abbrev arpI1 (xs : List Nat) : Nat := Mt.numOf (seg xs 14 4)
abbrev arpM2 (xs : List Nat) : Nat := Mt.numOf (seg xs 18 6)
abbrev arpI2 (xs : List Nat) : Nat := Mt.numOf (seg xs 24 4)

/-- Do they begin as an ARP does? -/
def arpBegins (xs : List Nat) : Prop := ∀ j, j < 7 → xs.getD j 0 = arpHead.getD j 0

abbrev arpZero : Value := .tuple #[.agg #[.int .i64 0, .int .u64 0, .int .u32 0, .int .u64 0, .int .u32 0], .int .i64 31]

set_option maxHeartbeats 1000000 in
theorem refarp_short (a : Option Addr) (xs : List Nat) (cap : Nat) (w : World) (hl : xs.length < 28) :
    Calls Try.prog 24 #[.slice a xs.length cap] w fun e w' => e = .returned (.tuple #[.agg #[.int .i64 0, .int .u64 0, .int .u32 0, .int .u64 0, .int .u32 0], .int .i64 8]) ∧ Below w.heap.size w w' := by
  go_enter Try.func24, Try.ntmps24
  go_wp2
  exact bodyPost_ret (v := .tuple #[.agg #[.int .i64 0, .int .u64 0, .int .u32 0, .int .u64 0, .int .u32 0], .int .i64 8]) (by simp [results, Try.results24, go_sem]) rfl ⟨rfl, (Below.refl _ _).alloc (Nat.le_refl _) _⟩

/-- What ParseArp answers where there are octets enough. -/
def ArpAns (xs : List Nat) (w : World) (e : Ending) (w' : World) : Prop :=
  ((arpBegins xs ∧ (xs.getD 7 0 = 1 ∨ xs.getD 7 0 = 2)) ∧ e = .returned (.tuple #[.agg #[.int .i64 (xs.getD 7 0 : Nat), .int .u64 (arpM1 xs : Nat), .int .u32 (arpI1 xs : Nat), .int .u64 (arpM2 xs : Nat), .int .u32 (arpI2 xs : Nat)], .int .i64 0]) ∧ Below w.heap.size w w') ∨
  (¬ (arpBegins xs ∧ (xs.getD 7 0 = 1 ∨ xs.getD 7 0 = 2)) ∧ e = .returned arpZero ∧ Below w.heap.size w w')

set_option maxRecDepth 100000 in
set_option maxHeartbeats 4000000 in
theorem refarp_any (a : Option Addr) (xs : List Nat) (cap : Nat) (w : World) (hx : Bts w a xs) (hc : xs.length ≤ cap) (hm : cap ≤ maxLen) (hl : 28 ≤ xs.length) (hl2 : xs.length ≤ 140737488355328) :
    Calls Try.prog 24 #[.slice a xs.length cap] w (ArpAns xs w) := by
  unfold maxLen at hm
  obtain ⟨b, off, rfl, hb, -⟩ := hx.isSome (by omega)
  have X0 := Lib.hid hx
  clear hx
  have c8 : ∀ W, Below w.heap.size w W → Calls Try.prog 58 #[.slice (some ⟨b, off + 8, none⟩) 6 (cap - 8)] W fun e w' => e = .returned (.int .u64 (arpM1 xs : Nat)) ∧ W = w' := fun W h => by
    have := number_any (some ⟨b, off + 8, none⟩) (seg xs 8 6) (cap - 8) W ((X0.out.below h).segOf 8 6 (by omega)) (by rw [seg_length _ _ _ (by omega)]; omega)
    rwa [seg_length _ _ _ (by omega)] at this
  have l8 : arpM1 xs < 281474976710656 := by
    have := Mt.numOf_lt (seg xs 8 6) (seg_lt X0.out.1 8 6)
    rwa [seg_length _ _ _ (by omega)] at this
  have C8 := Lib.hid c8
  have c14 : ∀ W, Below w.heap.size w W → Calls Try.prog 58 #[.slice (some ⟨b, off + 14, none⟩) 4 (cap - 14)] W fun e w' => e = .returned (.int .u64 (arpI1 xs : Nat)) ∧ W = w' := fun W h => by
    have := number_any (some ⟨b, off + 14, none⟩) (seg xs 14 4) (cap - 14) W ((X0.out.below h).segOf 14 4 (by omega)) (by rw [seg_length _ _ _ (by omega)]; omega)
    rwa [seg_length _ _ _ (by omega)] at this
  have l14 : arpI1 xs < 4294967296 := by
    have := Mt.numOf_lt (seg xs 14 4) (seg_lt X0.out.1 14 4)
    rwa [seg_length _ _ _ (by omega)] at this
  have C14 := Lib.hid c14
  have c18 : ∀ W, Below w.heap.size w W → Calls Try.prog 58 #[.slice (some ⟨b, off + 18, none⟩) 6 (cap - 18)] W fun e w' => e = .returned (.int .u64 (arpM2 xs : Nat)) ∧ W = w' := fun W h => by
    have := number_any (some ⟨b, off + 18, none⟩) (seg xs 18 6) (cap - 18) W ((X0.out.below h).segOf 18 6 (by omega)) (by rw [seg_length _ _ _ (by omega)]; omega)
    rwa [seg_length _ _ _ (by omega)] at this
  have l18 : arpM2 xs < 281474976710656 := by
    have := Mt.numOf_lt (seg xs 18 6) (seg_lt X0.out.1 18 6)
    rwa [seg_length _ _ _ (by omega)] at this
  have C18 := Lib.hid c18
  have c24 : ∀ W, Below w.heap.size w W → Calls Try.prog 58 #[.slice (some ⟨b, off + 24, none⟩) 4 (cap - 24)] W fun e w' => e = .returned (.int .u64 (arpI2 xs : Nat)) ∧ W = w' := fun W h => by
    have := number_any (some ⟨b, off + 24, none⟩) (seg xs 24 4) (cap - 24) W ((X0.out.below h).segOf 24 4 (by omega)) (by rw [seg_length _ _ _ (by omega)]; omega)
    rwa [seg_length _ _ _ (by omega)] at this
  have l24 : arpI2 xs < 4294967296 := by
    have := Mt.numOf_lt (seg xs 24 4) (seg_lt X0.out.1 24 4)
    rwa [seg_length _ _ _ (by omega)] at this
  have C24 := Lib.hid c24
  clear c8 c14 c18 c24
  go_enter Try.func24, Try.ntmps24
  go_wp2_with fail
  have hr0 := blk_new w (.cells #[.int .i64 0, .int .u64 0, .int .u32 0, .int .u64 0, .int .u32 0] 28)
  have hsz : w.heap.size < (w.alloc (.cells #[.int .i64 0, .int .u64 0, .int .u32 0, .int .u64 0, .int .u32 0] 28)).heap.size := by rw [World.size_alloc]; omega
  have bw := (Below.refl _ w).alloc (Nat.le_refl _) (.cells #[.int .i64 0, .int .u64 0, .int .u32 0, .int .u64 0, .int .u32 0] 28)
  generalize w.alloc (.cells #[.int .i64 0, .int .u64 0, .int .u32 0, .int .u64 0, .int .u32 0] 28) = W0 at hr0 hsz bw ⊢
  refine (head_any W0).mono ?_
  rintro e w1 ⟨rfl, O, b1⟩
  have R1 := Lib.hid ((b1.block w.heap.size hsz).trans hr0)
  have q1 := bw.trans (b1.mono (Nat.le_of_lt hsz))
  have s1 := Nat.lt_of_lt_of_le hsz b1.size
  have X1 := Lib.hid (X0.out.below q1)
  have O1 := Lib.hid O
  have r0 := blk_cell R1.out 0
  have t0 := blk_free R1.out 0
  have r1 := blk_cell R1.out 1
  have t1 := blk_free R1.out 1
  have r2 := blk_cell R1.out 2
  have t2 := blk_free R1.out 2
  have r3 := blk_cell R1.out 3
  have t3 := blk_free R1.out 3
  have r4 := blk_cell R1.out 4
  have t4 := blk_free R1.out 4
  clear hr0 bw b1 O hsz X0
  generalize W0.heap.size = G at O1 ⊢
  go_wp2_with fail
  go_loopw [5] (fun i wr => ∃ k : Nat, k ≤ 7 ∧ i = .int .i64 k ∧ (∀ j, j < k → xs.getD j 0 = arpHead.getD j 0) ∧ ∃ q, wr = w1.drewN q) (fun i _ => 7 - (intOf i).toNat)
  case atStart => exact ⟨0, by omega, rfl, (fun j h => by omega), 0, rfl⟩
  case round =>
    obtain ⟨k, hk, rfl, hbeg, q, rfl⟩ := hrel
    have Hb := Lib.hid hbeg
    clear hbeg
    by_cases hlt : k < 7
    · obtain ⟨b', off', e, _, hcx⟩ := X1.out.isSome (by omega)
      cases e
      have g1 := hcx k (by omega)
      have g2 := O1.out.cellAt k (by simp [arpHead]; omega)
      have hsame : xs.getD k 0 = arpHead.getD k 0 → ∀ j, j < k + 1 → xs.getD j 0 = arpHead.getD j 0 := fun h j hj => by
        rcases Nat.lt_or_ge j k with h2 | h2
        · exact Hb.out j h2
        · rw [show j = k by omega]; exact h
      have hdiff : xs.getD k 0 ≠ arpHead.getD k 0 → ¬ arpBegins xs := fun h hall => h (hall k hlt)
      have Hs := Lib.hid hsame
      have Hd := Lib.hid hdiff
      clear hcx hsame hdiff
      generalize xs.getD k 0 = x at g1 Hs Hd
      generalize arpHead.getD k 0 = y at g2 Hs Hd
      have i1 : (k : Int) < (xs.length : Int) := by omega
      have i2 : (k : Int) < 7 := by omega
      by_cases hxy : x = y
      · subst hxy
        have Hs2 := Lib.hid (Hs.out rfl)
        clear Hs Hd
        go_wp2
        go_quiet (fail)
        go_wp2
        go_roundw
        case rel => exact ⟨k + 1, by omega, by go_num, Hs2.out, _, rfl⟩
        case measure => simp [intOf]; omega
      · have hne : ((x : Int) != (y : Int)) = true := by rw [bne_iff_ne]; omega
        have Hd2 := Lib.hid (Hd.out hxy)
        clear Hd Hs
        go_wp2
        go_quiet (fail)
        have QW := Lib.hid (below_drewN q1 (q + nq))
        have RW : Hid ((w1.drewN (q + nq)).heap[w.heap.size]? = _) := Lib.hid R1.out
        go_wp2
        have F := blk_set (blk_set (blk_set (blk_set (blk_set RW.out 0 (.int .i64 0)) 1 (.int .u64 0)) 2 (.int .u32 0)) 3 (.int .u64 0)) 4 (.int .u32 0)
        have Q := ((((QW.out.setCell (p := ⟨w.heap.size, 0, none⟩) (Nat.le_refl _) (.int .i64 0)).setCell (p := ⟨w.heap.size, 1, none⟩) (Nat.le_refl _) (.int .u64 0)).setCell (p := ⟨w.heap.size, 2, none⟩) (Nat.le_refl _) (.int .u32 0)).setCell (p := ⟨w.heap.size, 3, none⟩) (Nat.le_refl _) (.int .u64 0)).setCell (p := ⟨w.heap.size, 4, none⟩) (Nat.le_refl _) (.int .u32 0)
        have f0 := blk_cell F 0
        have f1 := blk_cell F 1
        have f2 := blk_cell F 2
        have f3 := blk_cell F 3
        have f4 := blk_cell F 4
        exact bodyPost_ret (v := arpZero) (by simp [results, Try.results24, go_sem, f0, f1, f2, f3, f4]) rfl (.inr ⟨fun h => Hd2.out h.1, rfl, Q⟩)
    · obtain rfl : k = 7 := by omega
      have hBeg : arpBegins xs := Hb.out
      have HBeg := Lib.hid hBeg
      have QW := Lib.hid (below_drewN q1 q)
      have RW : Hid ((w1.drewN q).heap[w.heap.size]? = _) := Lib.hid R1.out
      have XW := Lib.hid (X1.out.below (below_drewN (Below.refl _ _) q))
      have sW : w.heap.size < (w1.drewN q).heap.size := s1
      clear hBeg r0 r1 r2 r3 r4 t0 t1 t2 t3 t4 Hb R1 X1 q1 s1
      generalize w1.drewN q = W at QW RW XW sW ⊢
      have r0 := blk_cell RW.out 0
      have t0 := blk_free RW.out 0
      have r1 := blk_cell RW.out 1
      have t1 := blk_free RW.out 1
      have r2 := blk_cell RW.out 2
      have t2 := blk_free RW.out 2
      have r3 := blk_cell RW.out 3
      have t3 := blk_free RW.out 3
      have r4 := blk_cell RW.out 4
      have t4 := blk_free RW.out 4
      obtain ⟨b', off', e, _, hcx⟩ := XW.out.isSome (by omega)
      cases e
      have g7 := hcx 7 (by omega)
      have z256 := XW.out.1 _ (Mt.getD_mem xs 7 (by omega))
      have i7 : (7 : Int) < (xs.length : Int) := by omega
      clear hcx
      obtain ⟨z, hz⟩ : ∃ z, xs.getD 7 0 = z := ⟨_, rfl⟩
      rw [hz] at g7 z256
      have Hz := Lib.hid hz
      clear hz
      by_cases hz12 : z = 1 ∨ z = 2
      · have HY := Lib.hid hz12
        have ez : IntKind.i64.wrap (z : Int) = (z : Int) := IntWalk.i64_in _ (by omega)
        have e14 : IntKind.u32.wrap (arpI1 xs : Int) = (arpI1 xs : Int) := IntWalk.u32_in _ (by omega)
        have e24 : IntKind.u32.wrap (arpI2 xs : Int) = (arpI2 xs : Int) := IntWalk.u32_in _ (by omega)
        obtain ⟨M1, h8⟩ : ∃ M1, arpM1 xs = M1 := ⟨_, rfl⟩
        obtain ⟨I1, h14⟩ : ∃ I1, arpI1 xs = I1 := ⟨_, rfl⟩
        obtain ⟨M2, h18⟩ : ∃ M2, arpM2 xs = M2 := ⟨_, rfl⟩
        obtain ⟨I2, h24⟩ : ∃ I2, arpI2 xs = I2 := ⟨_, rfl⟩
        have D8 := C8.out
        have D14 := C14.out
        have D18 := C18.out
        have D24 := C24.out
        rw [h8] at D8
        rw [h14] at D14 e14
        rw [h18] at D18
        rw [h24] at D24 e24
        have E8 := Lib.hid D8
        have E14 := Lib.hid D14
        have E18 := Lib.hid D18
        have E24 := Lib.hid D24
        have H8 := Lib.hid (And.intro h8 (And.intro h14 (And.intro h18 h24)))
        clear h8 h14 h18 h24 D8 D14 D18 D24 C8 C14 C18 C24 l8 l14 l18 l24
        have nb1 : b ≠ w.heap.size := by omega
        have nb2 : w.heap.size ≠ b := by omega
        have k8 : (8 : Int) ≤ (cap : Int) := by omega
        have k14 : (14 : Int) ≤ (cap : Int) := by omega
        have k18 : (18 : Int) ≤ (cap : Int) := by omega
        have k24 : (24 : Int) ≤ (cap : Int) := by omega
        have k28 : (28 : Int) ≤ (cap : Int) := by omega
        have n8 : ¬ cap = 8 := by omega
        have n14 : ¬ cap = 14 := by omega
        have n18 : ¬ cap = 18 := by omega
        have n24 : ¬ cap = 24 := by omega
        by_cases hz1 : z = 1
        case' pos => have n1 : ((z : Int) != 1) = false := by rw [bne_eq_false_iff_eq]; omega
        case' neg =>
          have n1 : ((z : Int) != 1) = true := by rw [bne_iff_ne]; omega
          have n2 : ((z : Int) != 2) = false := by rw [bne_eq_false_iff_eq]; omega
        all_goals
          clear hz12 hz1
          go_wp2_with (first
            | (go_at_call 58; (with_reducible refine (E14.out _ QW.out).mono ?_); rintro e w' ⟨rfl, rfl⟩)
            | (go_at_call 58; (with_reducible refine (E24.out _ QW.out).mono ?_); rintro e w' ⟨rfl, rfl⟩))
          go_region_held3 (fun W' => W'.cell? ⟨b, off + 7, none⟩ = some (.int .u8 z)) (first | go_keep) (first
            | (go_at_call 58; (with_reducible refine (E8.out _ QW.out.drew).mono ?_); rintro e w' ⟨rfl, rfl⟩)
            | (go_at_call 58; (with_reducible refine (E18.out _ QW.out.drew).mono ?_); rintro e w' ⟨rfl, rfl⟩))
          have F := blk_set (blk_set (blk_set (blk_set (blk_set RW.out 0 (.int .i64 z)) 1 (.int .u64 M1)) 2 (.int .u32 I1)) 3 (.int .u64 M2)) 4 (.int .u32 I2)
          have Q := (((((QW.out.setCell (p := ⟨w.heap.size, 0, none⟩) (Nat.le_refl _) (.int .i64 z)).setCell (p := ⟨w.heap.size, 1, none⟩) (Nat.le_refl _) (.int .u64 M1)).setCell (p := ⟨w.heap.size, 2, none⟩) (Nat.le_refl _) (.int .u32 I1)).setCell (p := ⟨w.heap.size, 3, none⟩) (Nat.le_refl _) (.int .u64 M2)).setCell (p := ⟨w.heap.size, 4, none⟩) (Nat.le_refl _) (.int .u32 I2)).drew
          have f0 := blk_cell F 0
          have f1 := blk_cell F 1
          have f2 := blk_cell F 2
          have f3 := blk_cell F 3
          have f4 := blk_cell F 4
          go_wp2
          exact bodyPost_ret (v := .tuple #[.agg #[.int .i64 z, .int .u64 M1, .int .u32 I1, .int .u64 M2, .int .u32 I2], .int .i64 0]) (by simp [results, Try.results24, go_sem, f0, f1, f2, f3, f4]) rfl (.inl ⟨⟨HBeg.out, by rw [Hz.out]; exact HY.out⟩, by rw [Hz.out, H8.out.1, H8.out.2.1, H8.out.2.2.1, H8.out.2.2.2], Q⟩)
      · have n1 : ((z : Int) != 1) = true := by rw [bne_iff_ne]; omega
        have n2 : ((z : Int) != 2) = true := by rw [bne_iff_ne]; omega
        have HN := Lib.hid hz12
        clear hz12
        go_wp2
        have F := blk_set (blk_set (blk_set (blk_set (blk_set RW.out 0 (.int .i64 0)) 1 (.int .u64 0)) 2 (.int .u32 0)) 3 (.int .u64 0)) 4 (.int .u32 0)
        have Q := ((((QW.out.setCell (p := ⟨w.heap.size, 0, none⟩) (Nat.le_refl _) (.int .i64 0)).setCell (p := ⟨w.heap.size, 1, none⟩) (Nat.le_refl _) (.int .u64 0)).setCell (p := ⟨w.heap.size, 2, none⟩) (Nat.le_refl _) (.int .u32 0)).setCell (p := ⟨w.heap.size, 3, none⟩) (Nat.le_refl _) (.int .u64 0)).setCell (p := ⟨w.heap.size, 4, none⟩) (Nat.le_refl _) (.int .u32 0)
        have f0 := blk_cell F 0
        have f1 := blk_cell F 1
        have f2 := blk_cell F 2
        have f3 := blk_cell F 3
        have f4 := blk_cell F 4
        exact bodyPost_ret (v := arpZero) (by simp [results, Try.results24, go_sem, f0, f1, f2, f3, f4]) rfl (.inr ⟨fun h => HN.out (by rw [← Hz.out]; exact h.2), rfl, Q⟩)
end Go.Proofs.Ytdiomelldhkibaa
