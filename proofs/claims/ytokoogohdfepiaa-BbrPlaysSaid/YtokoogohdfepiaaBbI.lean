/- Bbr: which lists are filters: the program's word on it. -/
import Derived.Test.YtokoogohdfepiaaBbA
import Derived.Test.YtokoogohdfepiaaBbW
import Derived.Deep.DeepCutAuto
import Derived.RegionTactic
namespace Go.Proofs.Ytokoogohdfepiaa
open Go.RowKit

def okP (p : Pair23) : Prop := (0 ≤ p.round ∧ p.round ≤ 1099511627776) ∧ (0 ≤ p.rate ∧ p.rate ≤ 1073741824)
def okAt (l : List Pair23) (i : Nat) : Prop := ∀ p, l[i]? = some p → okP p ∧ ∀ q, 0 < i → l[i - 1]? = some q → q.round < p.round ∧ p.rate < q.rate
/-- A filter. -/
def FV (l : List Pair23) : Prop := l.length ≤ 10 ∧ ∀ i, i < l.length → okAt l i
theorem okAt_of {l : List Pair23} {i : Nat} {p : Pair23} (hp : l[i]? = some p) (h : okP p) (h2 : ∀ q, 0 < i → l[i - 1]? = some q → q.round < p.round ∧ p.rate < q.rate) : okAt l i := by
  intro p' hp'
  rw [hp] at hp'
  cases hp'
  exact ⟨h, h2⟩

set_option maxRecDepth 100000 in
set_option maxHeartbeats 4000000 in
theorem isFilter_b (b : Bool) (a : Option Addr) (l : List Pair23) (cap : Nat) (w : World) (h : Sts 2 PC Tr w a l) (hl : l.length ≤ 8796093022207) (hb : b = true ↔ FV l) :
    Calls Try.prog 20 #[.slice a l.length cap] w fun e w' => e = .returned (.bool b) ∧ Below w.heap.size w w' := by
  have HL := Lib.hid h
  have HB := Lib.hid hb
  clear h hb
  go_enter Try.func20, Try.ntmps20
  go_wp2_with fail
  go_loopw [7] (fun vi wr => ∃ i : Nat, i ≤ l.length ∧ vi = .int .i64 i ∧ Hid (∀ j, j < i → okAt l j) ∧ Below w.heap.size w wr) (fun vi _ => l.length - (intOf vi).toNat)
  case atStart => exact ⟨0, by omega, rfl, Lib.hid (fun j hj => by omega), Below.refl _ _⟩
  case round =>
    obtain ⟨i, hi, rfl, HP, hq⟩ := hrel
    have QR := Lib.hid hq
    clear hq
    by_cases hlt : i < l.length
    case neg =>
      obtain rfl : i = l.length := by omega
      by_cases h10 : l.length ≤ 10
      · obtain rfl : b = true := HB.out.2 ⟨h10, HP.out⟩
        have k1 : (l.length : Int) ≤ 10 := by omega
        go_wp2
        go_ret
        exact ⟨rfl, QR.out⟩
      · obtain rfl : b = false := by
          cases b with
          | false => rfl
          | true => exact absurd (HB.out.1 rfl).1 h10
        have k1 : ¬ ((l.length : Int) ≤ 10) := by omega
        go_wp2
        go_ret
        exact ⟨rfl, QR.out⟩
    case pos =>
      have i1 : (i : Int) < (l.length : Int) := by omega
      obtain ⟨p, hp⟩ : ∃ p, l[i]? = some p := ⟨_, List.getElem?_eq_getElem hlt⟩
      have HPI := Lib.hid hp
      obtain ⟨g, o, rfl, _, _⟩ := HL.out.isSomeT (by omega)
      obtain ⟨hg, p0, p1⟩ := pair_at HL.out hp
      have m0 := (QR.out.cell (p := ⟨g, o + i * 2, none⟩) hg).trans p0
      have m1 := (QR.out.cell (p := ⟨g, o + i * 2 + 1, none⟩) hg).trans p1
      have HNO : Hid (¬ okAt l i → b = false) := Lib.hid (fun hn => by
        cases b with
        | false => rfl
        | true => exact absurd ((HB.out.1 rfl).2 i hlt) hn)
      have ba := (Below.refl wr.heap.size wr).alloc (Nat.le_refl _) (.cells #[.int .i64 p.round, .int .i64 p.rate] 36)
      have XB0 := blk_new wr (.cells #[.int .i64 p.round, .int .i64 p.rate] 36)
      have Q1 := Lib.hid (QR.out.trans (ba.mono QR.out.size))
      have hsz : wr.heap.size < (wr.alloc (.cells #[.int .i64 p.round, .int .i64 p.rate] 36)).heap.size := by simp
      clear hp p0 p1 ba
      go_upto_region 4 with fail
      clear m0 m1
      generalize wr.alloc (.cells #[.int .i64 p.round, .int .i64 p.rate] 36) = V1 at XB0 Q1 hsz ⊢
      have XB := Lib.hid XB0
      have x0 := blk_cell XB0 0
      have x1 := blk_cell XB0 1
      clear XB0
      by_cases hr : 0 ≤ p.round ∧ p.round ≤ 1099511627776
      case neg =>
        have HR : Hid (¬ InR 0 1099511627776 [p.round]) := Lib.hid (by rw [inR1]; exact hr)
        obtain rfl : b = false := HNO.out (fun h => hr (h p HPI.out).1.1)
        clear hr
        go_wp2_with fail
        refine (wn_no 0 1099511627776 [p.round] _ _ _ _ _ _ rfl rfl (by first | simp | rfl) (by simp) HR.out).mono ?_
        rintro e w' ⟨rfl, rfl⟩
        go_wp2
        go_ret
        exact ⟨rfl, Q1.out.alloc Q1.out.size _⟩
      case pos =>
        have HR : Hid (InR 0 1099511627776 [p.round]) := Lib.hid (by rw [inR1]; exact hr)
        have HRR := Lib.hid hr
        clear hr
        go_wp2_with fail
        refine (wn_yes 0 1099511627776 [p.round] _ _ _ _ _ _ rfl rfl (by first | simp | rfl) (by simp) HR.out).mono ?_
        rintro e w' ⟨rfl, rfl⟩
        have ba := (Below.refl V1.heap.size V1).alloc (Nat.le_refl _) (.cells (List.map (fun x => Value.int .i64 x) [p.round]).toArray 3)
        have X2 := Lib.hid ((ba.block _ hsz).trans XB.out)
        have Q2 := Lib.hid (Q1.out.trans (ba.mono Q1.out.size))
        have hsz2 := Nat.lt_of_lt_of_le hsz ba.size
        have hg2 := Nat.lt_of_lt_of_le hg QR.out.size
        clear ba x0 x1 XB Q1
        simp only [List.map_cons, List.map_nil] at X2 Q2 hsz2 ⊢
        generalize V1.alloc (.cells [Value.int .i64 p.round].toArray 3) = V2 at X2 Q2 hsz2 ⊢
        have x0 := blk_cell X2.out 0
        have x1 := blk_cell X2.out 1
        by_cases hr : 0 ≤ p.rate ∧ p.rate ≤ 1073741824
        case neg =>
          have HR : Hid (¬ InR 0 1073741824 [p.rate]) := Lib.hid (by rw [inR1]; exact hr)
          obtain rfl : b = false := HNO.out (fun h => hr (h p HPI.out).1.2)
          clear hr
          go_wp2_with fail
          refine (wn_no 0 1073741824 [p.rate] _ _ _ _ _ _ rfl rfl (by first | simp | rfl) (by simp) HR.out).mono ?_
          rintro e w' ⟨rfl, rfl⟩
          go_wp2
          go_ret
          exact ⟨rfl, Q2.out.alloc Q2.out.size _⟩
        case pos =>
          have HR : Hid (InR 0 1073741824 [p.rate]) := Lib.hid (by rw [inR1]; exact hr)
          have HRT := Lib.hid hr
          clear hr
          go_wp2_with fail
          refine (wn_yes 0 1073741824 [p.rate] _ _ _ _ _ _ rfl rfl (by first | simp | rfl) (by simp) HR.out).mono ?_
          rintro e w' ⟨rfl, rfl⟩
          have ba := (Below.refl V2.heap.size V2).alloc (Nat.le_refl _) (.cells (List.map (fun x => Value.int .i64 x) [p.rate]).toArray 3)
          have X3 := Lib.hid ((ba.block _ hsz2).trans X2.out)
          have Q3 := Lib.hid (Q2.out.trans (ba.mono Q2.out.size))
          clear ba x0 x1 X2 Q2
          simp only [List.map_cons, List.map_nil] at X3 Q3 ⊢
          generalize V2.alloc (.cells [Value.int .i64 p.rate].toArray 3) = V3 at X3 Q3 ⊢
          have x0 := blk_cell X3.out 0
          have x1 := blk_cell X3.out 1
          by_cases hz : i = 0
          case pos =>
            subst hz
            go_wp2_with fail
            go_quiet (fail)
            have Q4 := Lib.hid (below_drewN Q3.out nq)
            go_wp2
            go_roundw
            case rel => exact ⟨1, by omega, by go_num, Lib.hid (fun j hj => by
              obtain rfl : j = 0 := by omega
              exact okAt_of HPI.out ⟨HRR.out, HRT.out⟩ (fun q hq => by omega)), Q4.out⟩
            case measure => simp [intOf]; omega
          case neg =>
            obtain ⟨k, rfl⟩ : ∃ k, i = k + 1 := ⟨i - 1, by omega⟩
            obtain ⟨q, hq⟩ : ∃ q, l[k]? = some q := ⟨_, List.getElem?_eq_getElem (by omega)⟩
            obtain ⟨_, q0, q1⟩ := pair_at HL.out hq
            have n0 := (Q3.out.cell (p := ⟨g, o + k * 2, none⟩) hg).trans q0
            have n1 := (Q3.out.cell (p := ⟨g, o + k * 2 + 1, none⟩) hg).trans q1
            have HQI := Lib.hid hq
            have kw : IntKind.i64.wrap (((k + 1 : Nat) : Int) - 1) = (k : Int) := by rw [IntWalk.i64_in _ ⟨by omega, by omega⟩]; omega
            have kw2 : IntKind.i64.wrap ((k : Int) + 1 - 1) = (k : Int) := by rw [IntWalk.i64_in _ ⟨by omega, by omega⟩]; omega
            have k0 : (0 : Int) < (k : Int) + 1 := by omega
            have k1 : (k : Int) < (l.length : Int) := by omega
            clear hq q0 q1
            by_cases c1 : p.round ≤ q.round
            case pos =>
              obtain rfl : b = false := HNO.out (fun h => by have := ((h p HPI.out).2 q (by omega) HQI.out).1; omega)
              go_wp2_with fail
              go_quiet (fail)
              have Q4 := Lib.hid (below_drewN Q3.out nq)
              go_wp2
              go_ret
              exact ⟨rfl, Q4.out⟩
            case neg =>
              have c1b : decide (p.round ≤ q.round) = false := decide_eq_false c1
              have c1c : q.round < p.round := by omega
              by_cases c2 : q.rate ≤ p.rate
              case pos =>
                obtain rfl : b = false := HNO.out (fun h => by have := ((h p HPI.out).2 q (by omega) HQI.out).2; omega)
                go_wp2_with fail
                go_quiet (fail)
                have Q4 := Lib.hid (below_drewN Q3.out nq)
                go_wp2
                go_ret
                exact ⟨rfl, Q4.out⟩
              case neg =>
                go_wp2_with fail
                go_quiet (fail)
                have Q4 := Lib.hid (below_drewN Q3.out nq)
                go_wp2
                go_roundw
                case rel => exact ⟨k + 2, by omega, by go_num, Lib.hid (fun j hj => by
                  by_cases h1 : j < k + 1
                  · exact HP.out j h1
                  · obtain rfl : j = k + 1 := by omega
                    exact okAt_of HPI.out ⟨HRR.out, HRT.out⟩ (fun q' _ hq' => by
                      rw [Nat.add_sub_cancel, HQI.out] at hq'
                      cases hq'
                      omega)), Q4.out⟩
                case measure => simp [intOf]; omega
end Go.Proofs.Ytokoogohdfepiaa
