/- Bbr: the program's Filter, by one word. -/
import Derived.Test.YtokoogohdfepiaaBbJ
namespace Go.Proofs.Ytokoogohdfepiaa
open Go.RowKit

/-- Where Filter answers a list. -/
def FOk (l : List Pair23) (R r : Int) : Prop := (lastR l ≤ R ∧ R ≤ 1099511627776) ∧ (0 ≤ r ∧ r ≤ 1073741824)
open Classical in
noncomputable def fE (l : List Pair23) (R r : Int) : Int := if FV l then (if FOk l R r then 0 else 4) else 171
open Classical in
noncomputable def fL (l : List Pair23) (R r : Int) : List Pair23 := if FV l then (if FOk l R r then filt R r l else []) else []
theorem f_bad {l : List Pair23} {R r : Int} (h : ¬ FV l) : fE l R r = 171 ∧ fL l R r = [] := ⟨if_neg h, if_neg h⟩
theorem f_rng {l : List Pair23} {R r : Int} (h : FV l) (h2 : ¬ FOk l R r) : fE l R r = 4 ∧ fL l R r = [] := ⟨(if_pos h).trans (if_neg h2), (if_pos h).trans (if_neg h2)⟩
theorem f_ok {l : List Pair23} {R r : Int} (h : FV l) (h2 : FOk l R r) : fE l R r = 0 ∧ fL l R r = filt R r l := ⟨(if_pos h).trans (if_pos h2), (if_pos h).trans (if_pos h2)⟩
theorem FV.last0 {l : List Pair23} (h : FV l) : 0 ≤ lastR l ∧ lastR l ≤ 1099511627776 := by
  by_cases h0 : l.length = 0
  · obtain rfl : l = [] := List.eq_nil_of_length_eq_zero h0
    exact ⟨by decide, by decide⟩
  · obtain ⟨k, hk⟩ : ∃ k, l.length = k + 1 := ⟨l.length - 1, by omega⟩
    obtain ⟨p, hp⟩ : ∃ p, l[k]? = some p := ⟨_, List.getElem?_eq_getElem (by omega)⟩
    rw [lastR_at hk hp]
    exact (h.2 k (by omega) p hp).1.1

set_option maxRecDepth 100000 in
set_option maxHeartbeats 4000000 in
theorem pfilter_any (R r : Int) (a : Option Addr) (l : List Pair23) (cap : Nat) (w : World) (h : Sts 2 PC Tr w a l) (hn : a = none → cap = 0) (hl : l.length ≤ 8796093022207) :
    Calls Try.prog 10 #[.slice a l.length cap, .int .i64 R, .int .i64 r] w fun e w' => (∃ a' c', e = .returned (.tuple #[.slice a' (fL l R r).length c', .int .i64 (fE l R r)]) ∧ OwnR 36 2 PC w.heap.size a' (fL l R r) c' w') ∧ Below w.heap.size w w' := by
  have HL := Lib.hid h
  have HN := Lib.hid hn
  clear h hn
  by_cases hv : FV l
  case neg =>
    obtain ⟨e1, e2⟩ := f_bad (R := R) (r := r) hv
    rw [e1, e2]
    go_enter Try.func10, Try.ntmps10
    go_wp2_with fail
    refine (isFilter_b false a l cap _ HL.out hl ⟨fun e => (by cases e), fun e => absurd e hv⟩).mono ?_
    rintro e V1 ⟨rfl, b⟩
    go_wp2
    go_ret2
    exact ⟨⟨none, 0, rfl, ownR_nil _ _ _ _ _⟩, b⟩
  case pos =>
    have hv10 := hv.1
    obtain ⟨lr, hlr⟩ : ∃ z, lastR l = z := ⟨_, rfl⟩
    have hl0 := hv.last0
    rw [hlr] at hl0
    have HLR := Lib.hid hlr
    have HV := Lib.hid hv
    have hFO : FOk l R r ↔ ((lr ≤ R ∧ R ≤ 1099511627776) ∧ (0 ≤ r ∧ r ≤ 1073741824)) := by unfold FOk; rw [hlr]
    clear hv hlr
    by_cases h1 : lr ≤ R ∧ R ≤ 1099511627776
    case neg =>
      obtain ⟨e1, e2⟩ := f_rng (r := r) HV.out (fun e => h1 (hFO.1 e).1)
      have HR : Hid (¬ InR lr 1099511627776 [R]) := Lib.hid (by rw [inR1]; exact h1)
      rw [e1, e2]
      clear h1 hFO e1 e2
      go_enter Try.func10, Try.ntmps10
      go_wp2_with fail
      refine (isFilter_b true a l cap _ HL.out hl ⟨fun _ => HV.out, fun _ => rfl⟩).mono ?_
      rintro e V1 ⟨rfl, b⟩
      have L1 := Lib.hid (HL.out.belowT b)
      have Q1 := Lib.hid b
      clear b
      go_wp2_with fail
      refine (lastRound_l a l cap _ HLR.out L1.out hl).mono ?_
      rintro e w' ⟨rfl, rfl⟩
      go_wp2_with fail
      refine (wn_no lr 1099511627776 [R] _ _ _ _ _ _ rfl rfl (by first | simp | rfl) (by simp) HR.out).mono ?_
      rintro e w' ⟨rfl, rfl⟩
      go_wp2
      go_ret2
      exact ⟨⟨none, 0, rfl, ownR_nil _ _ _ _ _⟩, Q1.out.alloc Q1.out.size _⟩
    case pos =>
      have HR : Hid (InR lr 1099511627776 [R]) := Lib.hid (by rw [inR1]; exact h1)
      by_cases h2 : 0 ≤ r ∧ r ≤ 1073741824
      case neg =>
        obtain ⟨e1, e2⟩ := f_rng (r := r) HV.out (fun e => h2 (hFO.1 e).2)
        have HR2 : Hid (¬ InR 0 1073741824 [r]) := Lib.hid (by rw [inR1]; exact h2)
        rw [e1, e2]
        clear h1 h2 hFO e1 e2
        go_enter Try.func10, Try.ntmps10
        go_wp2_with fail
        refine (isFilter_b true a l cap _ HL.out hl ⟨fun _ => HV.out, fun _ => rfl⟩).mono ?_
        rintro e V1 ⟨rfl, b⟩
        have L1 := Lib.hid (HL.out.belowT b)
        have Q1 := Lib.hid b
        clear b
        go_wp2_with fail
        refine (lastRound_l a l cap _ HLR.out L1.out hl).mono ?_
        rintro e w' ⟨rfl, rfl⟩
        go_wp2_with fail
        refine (wn_yes lr 1099511627776 [R] _ _ _ _ _ _ rfl rfl (by first | simp | rfl) (by simp) HR.out).mono ?_
        rintro e w' ⟨rfl, rfl⟩
        go_wp2_with fail
        refine (wn_no 0 1073741824 [r] _ _ _ _ _ _ rfl rfl (by first | simp | rfl) (by simp) HR2.out).mono ?_
        rintro e w' ⟨rfl, rfl⟩
        go_wp2
        go_ret2
        have b2 := Q1.out.alloc Q1.out.size (.cells (List.map (fun x => Value.int .i64 x) [R]).toArray 3)
        exact ⟨⟨none, 0, rfl, ownR_nil _ _ _ _ _⟩, b2.alloc b2.size _⟩
      case pos =>
        obtain ⟨e1, e2⟩ := f_ok HV.out (hFO.2 ⟨h1, h2⟩)
        have HR2 : Hid (InR 0 1073741824 [r]) := Lib.hid (by rw [inR1]; exact h2)
        have hR0 : 0 ≤ R := by omega
        have hR1 : R ≤ 1099511627776 := h1.2
        rw [e1, e2]
        clear h1 h2 hFO e1 e2
        go_enter Try.func10, Try.ntmps10
        go_wp2_with fail
        refine (isFilter_b true a l cap _ HL.out hl ⟨fun _ => HV.out, fun _ => rfl⟩).mono ?_
        rintro e V1 ⟨rfl, b⟩
        have L1 := Lib.hid (HL.out.belowT b)
        have Q1 := Lib.hid b
        clear b
        go_wp2_with fail
        refine (lastRound_l a l cap _ HLR.out L1.out hl).mono ?_
        rintro e w' ⟨rfl, rfl⟩
        go_wp2_with fail
        refine (wn_yes lr 1099511627776 [R] _ _ _ _ _ _ rfl rfl (by first | simp | rfl) (by simp) HR.out).mono ?_
        rintro e w' ⟨rfl, rfl⟩
        go_wp2_with fail
        refine (wn_yes 0 1073741824 [r] _ _ _ _ _ _ rfl rfl (by first | simp | rfl) (by simp) HR2.out).mono ?_
        rintro e w' ⟨rfl, rfl⟩
        have b2 := Q1.out.alloc Q1.out.size (.cells (List.map (fun x => Value.int .i64 x) [R]).toArray 3)
        have Q3 := Lib.hid (b2.alloc b2.size (.cells (List.map (fun x => Value.int .i64 x) [r]).toArray 3))
        have ba := (Below.refl V1.heap.size V1).alloc (Nat.le_refl _) (.cells (List.map (fun x => Value.int .i64 x) [R]).toArray 3)
        have L3 := Lib.hid (L1.out.belowT (ba.alloc ba.size (.cells (List.map (fun x => Value.int .i64 x) [r]).toArray 3)))
        clear b2 ba L1 Q1
        simp only [List.map_cons, List.map_nil] at Q3 L3 ⊢
        generalize (V1.alloc (.cells [Value.int .i64 R].toArray 3)).alloc (.cells [Value.int .i64 r].toArray 3) = V3 at Q3 L3 ⊢
        go_wp2_with fail
        refine (filtered_any R r a l cap _ L3.out HN.out (by omega) hR0 hR1).mono ?_
        rintro e V4 ⟨⟨a', c', rfl, O⟩, b⟩
        have QF := Q3.out.trans (b.mono Q3.out.size)
        have OF := O.mono Q3.out.size
        clear b O
        go_wp2
        go_ret2
        exact ⟨⟨a', c', rfl, OF⟩, QF⟩
end Go.Proofs.Ytokoogohdfepiaa
