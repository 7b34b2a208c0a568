/- Bbr: which lists are filters: the document's word on it. -/
import Derived.Test.YtokoogohdfepiaaBbK
import Derived.Test.YtokoogohdfepiaaBbL
namespace Go.Proofs.Ytokoogohdfepiaa
open Go.RowKit

set_option maxHeartbeats 400000 in
theorem rw_yes (n hi : Int) (w : World) (h : 0 ≤ n ∧ n ≤ hi) : Calls Try.prog 25 #[.int .i64 n, .int .i64 hi] w fun e w' => e = .returned (.bool true) ∧ w = w' := by
  obtain ⟨h1, h2⟩ := h
  go_enter Try.func25, Try.ntmps25
  go_wp2
  go_ret
  exact ⟨rfl, rfl⟩
set_option maxHeartbeats 400000 in
theorem rw_no (n hi : Int) (w : World) (h : ¬ (0 ≤ n ∧ n ≤ hi)) : Calls Try.prog 25 #[.int .i64 n, .int .i64 hi] w fun e w' => e = .returned (.bool false) ∧ w = w' := by
  by_cases h1 : n < 0
  · clear h
    go_enter Try.func25, Try.ntmps25
    go_wp2
    go_ret
    exact ⟨rfl, rfl⟩
  · have h2 : 0 ≤ n := by omega
    have h3 : ¬ (n ≤ hi) := by omega
    clear h h1
    go_enter Try.func25, Try.ntmps25
    go_wp2
    go_ret
    first
    | exact ⟨rfl, rfl⟩
    | exact ⟨by simp [h3], rfl⟩
    | exact ⟨by simp; omega, rfl⟩
/-- Is a number of a range? -/
def wB (n hi : Int) : Bool := decide (0 ≤ n ∧ n ≤ hi)
theorem wB_yes {n hi : Int} (h : 0 ≤ n ∧ n ≤ hi) : wB n hi = true := decide_eq_true h
theorem wB_no {n hi : Int} (h : ¬ (0 ≤ n ∧ n ≤ hi)) : wB n hi = false := decide_eq_false h
theorem rw_b (n hi : Int) (w : World) : Calls Try.prog 25 #[.int .i64 n, .int .i64 hi] w fun e w' => e = .returned (.bool (wB n hi)) ∧ w' = w := by
  by_cases h : 0 ≤ n ∧ n ≤ hi
  · rw [wB_yes h]; exact (rw_yes n hi w h).mono fun _ _ ⟨h1, h2⟩ => ⟨h1, h2.symm⟩
  · rw [wB_no h]; exact (rw_no n hi w h).mono fun _ _ ⟨h1, h2⟩ => ⟨h1, h2.symm⟩

set_option maxRecDepth 100000 in
set_option maxHeartbeats 4000000 in
theorem rlist_b (b : Bool) (a : Option Addr) (l : List Pair23) (cap : Nat) (w : World) (h : Sts 2 PC Tr w a l) (hl : l.length ≤ 8796093022207) (hb : b = true ↔ FV l) :
    Calls Try.prog 24 #[.slice a l.length cap] w fun e w' => e = .returned (.bool b) ∧ Below w.heap.size w w' := by
  have HL := Lib.hid h
  have HB := Lib.hid hb
  clear h hb
  by_cases h10 : l.length ≤ 10
  case neg =>
    obtain rfl : b = false := by
      cases b with
      | false => rfl
      | true => exact absurd (HB.out.1 rfl).1 h10
    have k1 : (10 : Int) < (l.length : Int) := by omega
    go_enter Try.func24, Try.ntmps24
    go_wp2
    go_ret
    exact ⟨rfl, Below.refl _ _⟩
  case pos =>
  have k10 : ¬ ((10 : Int) < (l.length : Int)) := by omega
  go_enter Try.func24, Try.ntmps24
  go_wp2_with fail
  go_loopw [3] (fun vi wr => ∃ i : Nat, i ≤ l.length ∧ vi = .int .i64 i ∧ Hid (∀ j, j < i → okAt l j) ∧ Below w.heap.size w wr) (fun vi _ => l.length - (intOf vi).toNat)
  case atStart => exact ⟨0, by omega, rfl, Lib.hid (fun j hj => by omega), Below.refl _ _⟩
  case round =>
    obtain ⟨i, hi, rfl, HP, hq⟩ := hrel
    have QR := Lib.hid hq
    clear hq
    by_cases hlt : i < l.length
    case neg =>
      obtain rfl : i = l.length := by omega
      obtain rfl : b = true := HB.out.2 ⟨h10, HP.out⟩
      go_wp2
      go_ret
      exact ⟨rfl, QR.out⟩
    case pos =>
      have i1 : (i : Int) < (l.length : Int) := by omega
      obtain ⟨p, hp⟩ : ∃ p, l[i]? = some p := ⟨_, List.getElem?_eq_getElem hlt⟩
      have HPI := Lib.hid hp
      obtain ⟨g, o, rfl, _, _⟩ := HL.out.isSomeT (by omega)
      obtain ⟨hg, p0, p1⟩ := pair_at HL.out hp
      have HNO : Hid (¬ okAt l i → b = false) := Lib.hid (fun hn => by
        cases b with
        | false => rfl
        | true => exact absurd ((HB.out.1 rfl).2 i hlt) hn)
      have m0 := (QR.out.cell (p := ⟨g, o + i * 2, none⟩) hg).trans p0
      have m1 := (QR.out.cell (p := ⟨g, o + i * 2 + 1, none⟩) hg).trans p1
      clear hp p0 p1
      by_cases hr : 0 ≤ p.round ∧ p.round ≤ 1099511627776
      case neg =>
        have d1 := wB_no hr
        obtain rfl : b = false := HNO.out (fun h => hr (h p HPI.out).1.1)
        clear hr
        go_wp2_with fail
        go_quiet (first | (go_at_call 25; exact Calls.quiet_of_same (rw_b _ _ _)))
        have QD := Lib.hid (below_drewN QR.out nq)
        go_wp2
        go_ret
        exact ⟨rfl, QD.out⟩
      case pos =>
        have HRR := Lib.hid hr
        have d1 := wB_yes hr
        clear hr
        by_cases hr : 0 ≤ p.rate ∧ p.rate ≤ 1073741824
        case neg =>
          have d2 := wB_no hr
          obtain rfl : b = false := HNO.out (fun h => hr (h p HPI.out).1.2)
          clear hr
          go_wp2_with fail
          go_quiet (first | (go_at_call 25; exact Calls.quiet_of_same (rw_b _ _ _)))
          have QD := Lib.hid (below_drewN QR.out nq)
          all_goals
            go_wp2
            go_ret
            exact ⟨rfl, QD.out⟩
        case pos =>
          have HRT := Lib.hid hr
          have d2 := wB_yes hr
          clear hr
          by_cases hz : i = 0
          case pos =>
            subst hz
            simp only [Nat.zero_mul, Nat.add_zero] at m0 m1
            go_wp2_with fail
            go_quiet (first | (go_at_call 25; exact Calls.quiet_of_same (rw_b _ _ _)))
            have QD := Lib.hid (below_drewN QR.out nq)
            all_goals
              go_wp2
              go_roundw
              case rel => exact ⟨1, by omega, by go_num, Lib.hid (fun j hj => by
                obtain rfl : j = 0 := by omega
                exact okAt_of HPI.out ⟨HRR.out, HRT.out⟩ (fun q hq => by omega)), QD.out⟩
              case measure => simp [intOf]; omega
          case neg =>
            obtain ⟨k, rfl⟩ : ∃ k, i = k + 1 := ⟨i - 1, by omega⟩
            obtain ⟨q, hq⟩ : ∃ q, l[k]? = some q := ⟨_, List.getElem?_eq_getElem (by omega)⟩
            obtain ⟨_, q0, q1⟩ := pair_at HL.out hq
            have n0 := (QR.out.cell (p := ⟨g, o + k * 2, none⟩) hg).trans q0
            have n1 := (QR.out.cell (p := ⟨g, o + k * 2 + 1, none⟩) hg).trans q1
            have HQI := Lib.hid hq
            have kw : IntKind.i64.wrap (((k + 1 : Nat) : Int) - 1) = (k : Int) := by rw [IntWalk.i64_in _ ⟨by omega, by omega⟩]; omega
            have kw2 : IntKind.i64.wrap ((k : Int) + 1 - 1) = (k : Int) := by rw [IntWalk.i64_in _ ⟨by omega, by omega⟩]; omega
            have k0 : (0 : Int) < (k : Int) + 1 := by omega
            have k1 : (k : Int) < (l.length : Int) := by omega
            clear hq q0 q1
            obtain ⟨c, hc⟩ : ∃ c : Bool, c = (decide (p.round ≤ q.round) || decide (q.rate ≤ p.rate)) := ⟨_, rfl⟩
            by_cases c1 : p.round ≤ q.round
            case' pos =>
              obtain rfl : b = false := HNO.out (fun h => by have := ((h p HPI.out).2 q (by omega) HQI.out).1; omega)
            case' neg =>
              have c1b : decide (p.round ≤ q.round) = false := decide_eq_false c1
              have c1c : q.round < p.round := by omega
              by_cases c2 : q.rate ≤ p.rate
              case' pos =>
                obtain rfl : b = false := HNO.out (fun h => by have := ((h p HPI.out).2 q (by omega) HQI.out).2; omega)
              case' neg =>
                have HOKI : Hid (∀ j, j < k + 2 → okAt l j) := Lib.hid (fun j hj => by
                  by_cases h1 : j < k + 1
                  · exact HP.out j h1
                  · obtain rfl : j = k + 1 := by omega
                    exact okAt_of HPI.out ⟨HRR.out, HRT.out⟩ (fun q' _ hq' => by
                      rw [Nat.add_sub_cancel, HQI.out] at hq'
                      cases hq'
                      omega))
            all_goals
              go_wp2_with fail
              go_quiet (first | (go_at_call 25; exact Calls.quiet_of_same (rw_b _ _ _)))
              have QD := Lib.hid (below_drewN QR.out nq)
              all_goals
                go_wp2
                first
                | (go_ret; exact ⟨rfl, QD.out⟩)
                | (go_roundw
                   case rel => exact ⟨k + 2, by omega, by go_num, HOKI, QD.out⟩
                   case measure => simp [intOf]; omega)
end Go.Proofs.Ytokoogohdfepiaa
