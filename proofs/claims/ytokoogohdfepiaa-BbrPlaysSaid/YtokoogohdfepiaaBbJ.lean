/- Bbr: the list behind a pair: the program's 'filtered'. -/
import Derived.Test.YtokoogohdfepiaaBbG
import Derived.Test.YtokoogohdfepiaaBbI
import Derived.Deep.RegionHeld3
namespace Go.Proofs.Ytokoogohdfepiaa
open Go.RowKit

/-- The list behind a pair. -/
def filt (R r : Int) (l : List Pair23) : List Pair23 := if left R r l ≠ [] ∧ lastR (left R r l) = R then left R r l else left R r l ++ [⟨R, r⟩]
theorem lastRound_l {lr : Int} (a : Option Addr) (l : List Pair23) (cap : Nat) (w : World) (hlr : lastR l = lr) (h : Sts 2 PC Tr w a l) (hl : l.length ≤ 8796093022207) :
    Calls Try.prog 22 #[.slice a l.length cap] w fun e w' => e = .returned (.int .i64 lr) ∧ w = w' := by
  subst hlr; exact lastRound_any a l cap w h hl

set_option maxRecDepth 100000 in
set_option maxHeartbeats 4000000 in
theorem filtered_any (R r : Int) (a : Option Addr) (l : List Pair23) (cap : Nat) (w : World) (h : Sts 2 PC Tr w a l) (hn : a = none → cap = 0) (hl : l.length ≤ 1000) (hR0 : 0 ≤ R) (hR1 : R ≤ 1099511627776) :
    Calls Try.prog 23 #[.slice a l.length cap, .agg #[.int .i64 R, .int .i64 r]] w fun e w' => (∃ a' c', e = .returned (.slice a' (filt R r l).length c') ∧ OwnR 36 2 PC w.heap.size a' (filt R r l) c' w') ∧ Below w.heap.size w w' := by
  have bal : ∀ (W : World) (o : Obj), Below W.heap.size W (W.alloc o) := fun W o => (Below.refl W.heap.size W).alloc (Nat.le_refl _) o
  have ba := bal w (.cells #[.int .i64 R, .int .i64 r] 36)
  have PB0 := Lib.hid (blk_new w (.cells #[.int .i64 R, .int .i64 r] 36))
  have HL := Lib.hid (h.belowT ba)
  have Q0 := Lib.hid ba
  have hs0 : w.heap.size < (w.alloc (.cells #[.int .i64 R, .int .i64 r] 36)).heap.size := by simp
  have HN := Lib.hid hn
  clear h ba hn
  go_enter Try.func23, Try.ntmps23
  go_wp2_with fail
  generalize w.alloc (.cells #[.int .i64 R, .int .i64 r] 36) = V1 at PB0 HL Q0 hs0 ⊢
  refine (clone_any a l cap _ HL.out HN.out (by omega)).mono ?_
  rintro e V2 ⟨⟨a2, c2, rfl, O⟩, b⟩
  have O2 := Lib.hid O
  have P2 := Lib.hid ((b.block _ hs0).trans PB0.out)
  have Q2 := Lib.hid (Q0.out.trans (b.mono Q0.out.size))
  have hB2 := b.size
  clear O b HL PB0 Q0
  go_wp2_with fail
  refine (delete_any R r w.heap.size V1.heap.size a2 l c2 _ O2.out (by omega) P2.out hs0 hB2 hR0 hR1).mono ?_
  rintro e V3 ⟨rfl, O, b⟩
  have O3 := Lib.hid O
  have P3 := Lib.hid ((b.block _ hs0).trans P2.out)
  have Q3 := Lib.hid (Q2.out.trans (b.mono (Nat.le_of_lt hs0)))
  have hB3 := Nat.le_trans hB2 b.size
  clear O b O2 P2 Q2
  obtain ⟨L, hL⟩ : ∃ L, left R r l = L := ⟨_, rfl⟩
  have hLl : L.length ≤ 1000 := by rw [← hL]; exact Nat.le_trans (List.length_filter_le _ _) hl
  have hf : filt R r l = if L ≠ [] ∧ lastR L = R then L else L ++ [⟨R, r⟩] := by unfold filt; rw [hL]
  rw [hL] at O3 ⊢
  obtain ⟨lr, hlr⟩ : ∃ z, lastR L = z := ⟨_, rfl⟩
  have HLR := Lib.hid hlr
  clear hL
  have p0 := blk_cell P3.out 0
  have p1 := blk_cell P3.out 1
  by_cases h0 : 0 < L.length
  case' pos =>
    have k0 : (0 : Int) < (L.length : Int) := by omega
    have hne : L ≠ [] := fun e => by rw [e] at h0; simp at h0
    have SD := Lib.hid (O3.out.sts encP |>.belowT (Below.refl V3.heap.size V3).drew)
    have pd := Lib.hid (blk_cell (blk_drew P3.out) 0)
    by_cases hq : lr = R
    case' pos =>
      have HE : Hid (filt R r l = L) := Lib.hid (by rw [hf, if_pos ⟨hne, by rw [hlr]; exact hq⟩])
      clear hf
      have hqb : (lr == R) = true := by rw [beq_iff_eq]; exact hq
      clear hlr hq hne
      go_wp2_with fail
      go_region_held3 (fun W => W.cell? ⟨w.heap.size, 0, none⟩ = some (.int .i64 R)) (first | (with_reducible exact pd.out) | go_keep) (first
        | (go_at_call 22; (with_reducible refine (lastRound_l _ L _ _ HLR.out SD.out (by omega)).mono ?_); rintro e w' ⟨rfl, rfl⟩))
      all_goals
        have QF := Q3.out.drew
        have OF := (O3.out.mono (Nat.le_of_lt hs0)).below (Below.refl V3.heap.size V3).drew
        go_wp2
        go_ret
        rw [HE.out]
        exact ⟨⟨_, _, rfl, OF⟩, QF⟩
    case' neg =>
      have HE : Hid (filt R r l = L ++ [⟨R, r⟩]) := Lib.hid (by rw [hf, if_neg (fun e => hq (by rw [← hlr]; exact e.2))])
      clear hf
      have hqb : (lr == R) = false := by rw [beq_eq_false_iff_ne]; exact hq
      clear hlr hne
      go_wp2_with fail
      go_region_held3 (fun W => W.cell? ⟨w.heap.size, 0, none⟩ = some (.int .i64 R)) (first | (with_reducible exact pd.out) | go_keep) (first
        | (go_at_call 22; (with_reducible refine (lastRound_l _ L _ _ HLR.out SD.out (by omega)).mono ?_); rintro e w' ⟨rfl, rfl⟩))
      have QD := Lib.hid Q3.out.drew
      have OD := Lib.hid (O3.out.below (Below.refl V3.heap.size V3).drew)
      have PD := Lib.hid (blk_drew P3.out)
      have hBD : V1.heap.size ≤ V3.drew.heap.size := hB3
      clear SD pd hqb hq
      generalize V3.drew = V4 at QD OD PD hBD ⊢
  case' neg =>
    have HE : Hid (filt R r l = L ++ [⟨R, r⟩]) := Lib.hid (by rw [hf, if_neg (fun e => e.1 (List.eq_nil_of_length_eq_zero (by omega)))])
    have k0 : ¬ ((0 : Int) < (L.length : Int)) := by omega
    have k0b : decide ((0 : Int) < (L.length : Int)) = false := decide_eq_false k0
    have k0n : decide (0 < L.length) = false := decide_eq_false h0
    clear hlr hf
    go_wp2_with fail
    go_quiet (fail)
    have QD := Lib.hid (below_drewN Q3.out nq)
    have OD := Lib.hid (O3.out.below (below_drewN (Below.refl V3.heap.size V3) nq))
    have PD := Lib.hid (blk_drewN P3.out nq)
    have hBD : V1.heap.size ≤ (V3.drewN nq).heap.size := hB3
    generalize V3.drewN nq = V4 at QD OD PD hBD ⊢
  all_goals
    have pd0 := blk_cell PD.out 0
    have pd1 := blk_cell PD.out 1
    have ba := bal V4 (.cells #[.int .i64 R, .int .i64 r] 36)
    have hlen : L.length + 1 ≤ 1001 := by omega
    have HLN := Lib.hid hlen
    clear hlen hLl p0 p1
    go_wp2_with (first
      | (refine wpList_append_rA (t := 23) (e := 36) (z := .agg #[.int .i64 0, .int .i64 0]) (m := 2) (bz := 16) (cells := PC) (xs := L) (ys := [⟨R, r⟩]) (cap := c2) (a := a2) (ad := ⟨V4.heap.size, 0, none⟩) (dap := 1) (n := 1) rfl elemB encP (.tmp 21) (.tmp 23) rfl V1.heap.size rfl ?_ ?_ ?_ ?_ ?_ ?_ ?_ ?_; exact OD.out.below ba; exact sts_new encP V4 [⟨R, r⟩] 36 (0, 0); rfl; rfl; (have := HLN.out; simp only [List.length_singleton]; omega); (have := HLN.out; unfold maxLen; simp only [List.length_singleton]; omega); exact Nat.le_trans hBD ba.size; intro a5 c5 W5 O5 b5 g5 at5; have OF := Lib.hid (O5.mono (Nat.le_of_lt hs0)); have QF := Lib.hid ((QD.out.trans (ba.mono QD.out.size)).trans (b5.mono (Nat.le_of_lt hs0))); clear O5 b5 g5 at5)
      | fail)
    go_ret
    rw [HE.out]
    exact ⟨⟨_, _, by first | rfl | simp, OF.out⟩, QF.out⟩
end Go.Proofs.Ytokoogohdfepiaa
