/- Bbr: the document's Filter, by the same word. -/
import Derived.Test.YtokoogohdfepiaaBbN
import Derived.Test.YtokoogohdfepiaaBbO
namespace Go.Proofs.Ytokoogohdfepiaa
open Go.RowKit

set_option maxRecDepth 100000 in
set_option maxHeartbeats 600000 in
theorem rF_bad (R r : Int) (a : Option Addr) (l : List Pair23) (cap : Nat) (w : World) (h : Sts 2 PC Tr w a l) (hl : l.length ≤ 8796093022207) (hv : ¬ FV l) :
    Calls Try.prog 11 #[.slice a l.length cap, .int .i64 R, .int .i64 r] w fun e w' => (∃ a' c', e = .returned (.tuple #[.slice a' ([] : List Pair23).length c', .int .i64 (171)]) ∧ OwnR 58 2 PC w.heap.size a' [] c' w') ∧ Below w.heap.size w w' := by
  have HL := Lib.hid h
  clear h
  go_enter Try.func11, Try.ntmps11
  go_wp2_with fail
  refine (rlist_b false a l cap _ HL.out hl ⟨fun e => (by cases e), fun e => absurd e hv⟩).mono ?_
  rintro e V1 ⟨rfl, b⟩
  have Q1 := Lib.hid b
  clear b
  go_wp2
  go_ret2
  exact ⟨⟨none, 0, rfl, ownR_nil _ _ _ _ _⟩, Q1.out⟩
set_option maxRecDepth 100000 in
set_option maxHeartbeats 600000 in
theorem rF_no1 (R r : Int) (a : Option Addr) (l : List Pair23) (cap : Nat) (w : World) (h : Sts 2 PC Tr w a l) (hl : l.length ≤ 8796093022207) (hv : FV l) (d1 : wB R 1099511627776 = false) :
    Calls Try.prog 11 #[.slice a l.length cap, .int .i64 R, .int .i64 r] w fun e w' => (∃ a' c', e = .returned (.tuple #[.slice a' ([] : List Pair23).length c', .int .i64 (4)]) ∧ OwnR 58 2 PC w.heap.size a' [] c' w') ∧ Below w.heap.size w w' := by
  have HL := Lib.hid h
  have HV := Lib.hid hv
  clear h hv
  go_enter Try.func11, Try.ntmps11
  go_wp2_with fail
  refine (rlist_b true a l cap _ HL.out hl ⟨fun _ => HV.out, fun _ => rfl⟩).mono ?_
  rintro e V1 ⟨rfl, b⟩
  have Q1 := Lib.hid b
  clear b
  go_wp2_with fail
  refine (rw_b _ _ _).mono ?_
  rintro e w' ⟨rfl, rfl⟩
  rw [d1]
  go_wp2
  go_ret2
  exact ⟨⟨none, 0, rfl, ownR_nil _ _ _ _ _⟩, Q1.out⟩
set_option maxRecDepth 100000 in
set_option maxHeartbeats 600000 in
theorem rF_no2 (R r : Int) (a : Option Addr) (l : List Pair23) (cap : Nat) (w : World) (h : Sts 2 PC Tr w a l) (hl : l.length ≤ 8796093022207) (hv : FV l) (d1 : wB R 1099511627776 = true) (d2 : wB r 1073741824 = false) :
    Calls Try.prog 11 #[.slice a l.length cap, .int .i64 R, .int .i64 r] w fun e w' => (∃ a' c', e = .returned (.tuple #[.slice a' ([] : List Pair23).length c', .int .i64 (4)]) ∧ OwnR 58 2 PC w.heap.size a' [] c' w') ∧ Below w.heap.size w w' := by
  have HL := Lib.hid h
  have HV := Lib.hid hv
  clear h hv
  go_enter Try.func11, Try.ntmps11
  go_wp2_with fail
  refine (rlist_b true a l cap _ HL.out hl ⟨fun _ => HV.out, fun _ => rfl⟩).mono ?_
  rintro e V1 ⟨rfl, b⟩
  have Q1 := Lib.hid b
  clear b
  go_wp2_with fail
  refine (rw_b _ _ _).mono ?_
  rintro e w' ⟨rfl, rfl⟩
  rw [d1]
  go_wp2_with fail
  refine (rw_b _ _ _).mono ?_
  rintro e w' ⟨rfl, rfl⟩
  rw [d2]
  go_wp2
  go_ret2
  exact ⟨⟨none, 0, rfl, ownR_nil _ _ _ _ _⟩, Q1.out⟩
set_option maxRecDepth 100000 in
set_option maxHeartbeats 600000 in
theorem rF_low (R r : Int) (a : Option Addr) (l : List Pair23) (cap : Nat) (w : World) (h : Sts 2 PC Tr w a l) (hl : l.length ≤ 8796093022207) (k : Nat) (p : Pair23) (hk : l.length = k + 1) (hp : l[k]? = some p) (hv : FV l) (d1 : wB R 1099511627776 = true) (d2 : wB r 1073741824 = true) (h3 : R < p.round) :
    Calls Try.prog 11 #[.slice a l.length cap, .int .i64 R, .int .i64 r] w fun e w' => (∃ a' c', e = .returned (.tuple #[.slice a' ([] : List Pair23).length c', .int .i64 (4)]) ∧ OwnR 58 2 PC w.heap.size a' [] c' w') ∧ Below w.heap.size w w' := by
  have HL := Lib.hid h
  have HV := Lib.hid hv
  clear h hv
  obtain ⟨g, o, rfl, _, _⟩ := HL.out.isSomeT (by omega)
  have HRL := Lib.hid (rlist_b true (some ⟨g, o, none⟩) l cap w HL.out hl ⟨fun _ => HV.out, fun _ => rfl⟩)
  skip
  rw [hk] at HRL ⊢
  go_enter Try.func11, Try.ntmps11
  go_wp2_with fail
  refine HRL.out.mono ?_
  rintro e V1 ⟨rfl, b⟩
  obtain ⟨hg, p0, p1⟩ := pair_at HL.out hp
  have n0 := (b.cell (p := ⟨g, o + k * 2, none⟩) hg).trans p0
  have n1 := (b.cell (p := ⟨g, o + k * 2 + 1, none⟩) hg).trans p1
  have k0 : (0 : Int) < (k : Int) + 1 := by omega
  have kw : IntKind.i64.wrap (((k + 1 : Nat) : Int) - 1) = (k : Int) := by rw [IntWalk.i64_in _ ⟨by omega, by omega⟩]; omega
  have kw2 : IntKind.i64.wrap ((k : Int) + 1 - 1) = (k : Int) := by rw [IntWalk.i64_in _ ⟨by omega, by omega⟩]; omega
  have Q1 := Lib.hid b
  clear p0 p1 b
  go_wp2_with fail
  refine (rw_b _ _ _).mono ?_
  rintro e w' ⟨rfl, rfl⟩
  rw [d1]
  go_wp2_with fail
  refine (rw_b _ _ _).mono ?_
  rintro e w' ⟨rfl, rfl⟩
  rw [d2]
  go_wp2
  go_ret2
  exact ⟨⟨none, 0, rfl, ownR_nil _ _ _ _ _⟩, Q1.out⟩
set_option maxRecDepth 100000 in
set_option maxHeartbeats 600000 in
theorem rF_nil (R r : Int) (a : Option Addr) (l : List Pair23) (cap : Nat) (w : World) (h : Sts 2 PC Tr w a l) (hl : l.length ≤ 8796093022207) (h0 : ¬ (0 : Int) < (l.length : Int)) (hv : FV l) (d1 : wB R 1099511627776 = true) (d2 : wB r 1073741824 = true) (hR0 : 0 ≤ R) (hR1 : R ≤ 1099511627776) :
    Calls Try.prog 11 #[.slice a l.length cap, .int .i64 R, .int .i64 r] w fun e w' => (∃ a' c', e = .returned (.tuple #[.slice a' (rfilt R r l).length c', .int .i64 (0)]) ∧ OwnR 58 2 PC w.heap.size a' (rfilt R r l) c' w') ∧ Below w.heap.size w w' := by
  have HL := Lib.hid h
  have HV := Lib.hid hv
  clear h hv
  go_enter Try.func11, Try.ntmps11
  go_wp2_with fail
  refine (rlist_b true a l cap _ HL.out hl ⟨fun _ => HV.out, fun _ => rfl⟩).mono ?_
  rintro e V1 ⟨rfl, b⟩
  have Q1 := Lib.hid b
  clear b
  go_wp2_with fail
  refine (rw_b _ _ _).mono ?_
  rintro e w' ⟨rfl, rfl⟩
  rw [d1]
  go_wp2_with fail
  refine (rw_b _ _ _).mono ?_
  rintro e w' ⟨rfl, rfl⟩
  rw [d2]
  go_wp2_with fail
  refine (rfilter_any R r a l cap _ (HL.out.belowT Q1.out) HV.out hR0 hR1).mono ?_
  rintro e V4 ⟨⟨a', c', rfl, O⟩, b⟩
  have QF := Q1.out.trans (b.mono Q1.out.size)
  have OF := O.mono Q1.out.size
  clear b O
  go_wp2
  go_ret2
  exact ⟨⟨a', c', rfl, OF⟩, QF⟩
set_option maxRecDepth 100000 in
set_option maxHeartbeats 600000 in
theorem rF_ok (R r : Int) (a : Option Addr) (l : List Pair23) (cap : Nat) (w : World) (h : Sts 2 PC Tr w a l) (hl : l.length ≤ 8796093022207) (k : Nat) (p : Pair23) (hk : l.length = k + 1) (hp : l[k]? = some p) (hv : FV l) (d1 : wB R 1099511627776 = true) (d2 : wB r 1073741824 = true) (h3 : ¬ R < p.round) (hR0 : 0 ≤ R) (hR1 : R ≤ 1099511627776) :
    Calls Try.prog 11 #[.slice a l.length cap, .int .i64 R, .int .i64 r] w fun e w' => (∃ a' c', e = .returned (.tuple #[.slice a' (rfilt R r l).length c', .int .i64 (0)]) ∧ OwnR 58 2 PC w.heap.size a' (rfilt R r l) c' w') ∧ Below w.heap.size w w' := by
  have HL := Lib.hid h
  have HV := Lib.hid hv
  clear h hv
  obtain ⟨g, o, rfl, _, _⟩ := HL.out.isSomeT (by omega)
  have HRL := Lib.hid (rlist_b true (some ⟨g, o, none⟩) l cap w HL.out hl ⟨fun _ => HV.out, fun _ => rfl⟩)
  have HRF := Lib.hid (fun W hW => rfilter_any R r (some ⟨g, o, none⟩) l cap W hW HV.out hR0 hR1)
  rw [hk] at HRL HRF ⊢
  go_enter Try.func11, Try.ntmps11
  go_wp2_with fail
  refine HRL.out.mono ?_
  rintro e V1 ⟨rfl, b⟩
  obtain ⟨hg, p0, p1⟩ := pair_at HL.out hp
  have n0 := (b.cell (p := ⟨g, o + k * 2, none⟩) hg).trans p0
  have n1 := (b.cell (p := ⟨g, o + k * 2 + 1, none⟩) hg).trans p1
  have k0 : (0 : Int) < (k : Int) + 1 := by omega
  have kw : IntKind.i64.wrap (((k + 1 : Nat) : Int) - 1) = (k : Int) := by rw [IntWalk.i64_in _ ⟨by omega, by omega⟩]; omega
  have kw2 : IntKind.i64.wrap ((k : Int) + 1 - 1) = (k : Int) := by rw [IntWalk.i64_in _ ⟨by omega, by omega⟩]; omega
  have Q1 := Lib.hid b
  clear p0 p1 b
  go_wp2_with fail
  refine (rw_b _ _ _).mono ?_
  rintro e w' ⟨rfl, rfl⟩
  rw [d1]
  go_wp2_with fail
  refine (rw_b _ _ _).mono ?_
  rintro e w' ⟨rfl, rfl⟩
  rw [d2]
  go_wp2_with fail
  refine (HRF.out _ (HL.out.belowT Q1.out)).mono ?_
  rintro e V4 ⟨⟨a', c', rfl, O⟩, b⟩
  have QF := Q1.out.trans (b.mono Q1.out.size)
  have OF := O.mono Q1.out.size
  clear b O
  go_wp2
  go_ret2
  exact ⟨⟨a', c', rfl, OF⟩, QF⟩
theorem rFilter_any (R r : Int) (a : Option Addr) (l : List Pair23) (cap : Nat) (w : World) (h : Sts 2 PC Tr w a l) (hl : l.length ≤ 8796093022207) :
    Calls Try.prog 11 #[.slice a l.length cap, .int .i64 R, .int .i64 r] w fun e w' => (∃ a' c', e = .returned (.tuple #[.slice a' (fL l R r).length c', .int .i64 (fE l R r)]) ∧ OwnR 58 2 PC w.heap.size a' (fL l R r) c' w') ∧ Below w.heap.size w w' := by
  by_cases hv : FV l
  case neg =>
    obtain ⟨e1, e2⟩ := f_bad (R := R) (r := r) hv
    rw [e1, e2]
    exact rF_bad R r a l cap w h hl hv
  case pos =>
    have hl0 := hv.last0
    by_cases h1 : 0 ≤ R ∧ R ≤ 1099511627776
    case neg =>
      obtain ⟨e1, e2⟩ := f_rng (R := R) (r := r) hv (fun e => h1 (by have := e.1; omega))
      rw [e1, e2]
      exact rF_no1 R r a l cap w h hl hv (wB_no h1)
    case pos =>
      by_cases h2 : 0 ≤ r ∧ r ≤ 1073741824
      case neg =>
        obtain ⟨e1, e2⟩ := f_rng (R := R) (r := r) hv (fun e => h2 e.2)
        rw [e1, e2]
        exact rF_no2 R r a l cap w h hl hv (wB_yes h1) (wB_no h2)
      case pos =>
        rcases Nat.eq_zero_or_pos l.length with h0 | h0
        · have hn : l = [] := List.eq_nil_of_length_eq_zero h0
          have hlr : lastR l ≤ R := by rw [hn]; exact h1.1
          obtain ⟨e1, e2⟩ := f_ok hv (⟨⟨hlr, h1.2⟩, h2⟩ : FOk l R r)
          rw [e1, e2, ← rfilt_eq hv hlr]
          exact rF_nil R r a l cap w h hl (by omega) hv (wB_yes h1) (wB_yes h2) h1.1 h1.2
        · obtain ⟨k, hk⟩ : ∃ k, l.length = k + 1 := ⟨l.length - 1, by omega⟩
          obtain ⟨p, hp⟩ : ∃ p, l[k]? = some p := ⟨_, List.getElem?_eq_getElem (by omega)⟩
          have hpr := lastR_at hk hp
          by_cases h3 : R < p.round
          · obtain ⟨e1, e2⟩ := f_rng (R := R) (r := r) hv (fun e => by have := e.1.1; omega)
            rw [e1, e2]
            exact rF_low R r a l cap w h hl k p hk hp hv (wB_yes h1) (wB_yes h2) h3
          · have hlr : lastR l ≤ R := by omega
            obtain ⟨e1, e2⟩ := f_ok hv (⟨⟨hlr, h1.2⟩, h2⟩ : FOk l R r)
            rw [e1, e2, ← rfilt_eq hv hlr]
            exact rF_ok R r a l cap w h hl k p hk hp hv (wB_yes h1) (wB_yes h2) h3 h1.1 h1.2
end Go.Proofs.Ytokoogohdfepiaa
