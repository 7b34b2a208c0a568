/- Lists of packets: a copy of one's own; two lists held against each other. -/
import Derived.Test.YteflbfmkbkhimaaGPkt
import Derived.Test.YteflbfmkbkhimaaGOwnA
import Derived.Lib.MinMax
import Derived.RegionTactic
import Derived.ProofKit
namespace Go.Proofs.Yteflbfmkbkhimaa
open Go.RowKit

abbrev KC : Pkt → List Value := Pkt.cells
theorem encK : Enc 4 KC := ⟨fun _ => rfl, fun x u hu => by
  simp only [Pkt.cells, List.mem_cons, List.not_mem_nil, or_false] at hu
  rcases hu with rfl | rfl | rfl | rfl <;> rfl, by decide⟩
theorem elemK : Elem 26 30 (.agg #[.int .i64 0, .int .i64 0, .bool false, .int .i64 0]) 4 32 := ⟨Try.underlying26, by kernel_rfl, rfl, by decide⟩
/-- A packet at a place of a list. -/
theorem pk_at {w : World} {b off : Nat} {l : List Pkt} (h : Sts 4 KC Tr w (some ⟨b, off, none⟩) l) {i : Nat} {p : Pkt} (hi : l[i]? = some p) : b < w.heap.size ∧ w.cell? ⟨b, off + i * 4, none⟩ = some (.int .i64 p.tick) ∧ w.cell? ⟨b, off + i * 4 + 1, none⟩ = some (.int .i64 p.sz) ∧ w.cell? ⟨b, off + i * 4 + 2, none⟩ = some (.bool p.ect) ∧ w.cell? ⟨b, off + i * 4 + 3, none⟩ = some (.int .i64 p.id) := by
  have hl : i < l.length := (List.getElem?_eq_some_iff.1 hi).1
  obtain ⟨b', off', e, hb, h2⟩ := h.isSomeT (by omega)
  cases e
  exact ⟨hb, h2 i p hi 0 _ rfl, h2 i p hi 1 _ rfl, h2 i p hi 2 _ rfl, h2 i p hi 3 _ rfl⟩
/-- A list without its first. -/
theorem pk_tail {w : World} {b off : Nat} {x : Pkt} {l : List Pkt} (h : Sts 4 KC Tr w (some ⟨b, off, none⟩) (x :: l)) : Sts 4 KC Tr w (some ⟨b, off + 4, none⟩) l := by
  obtain ⟨b', off', e, hb, h2⟩ := h.isSomeT (by simp)
  cases e
  refine ⟨fun _ _ => trivial, .inr ⟨b, off + 4, rfl, hb, fun i r hr j v hv => ?_⟩⟩
  have := h2 (i + 1) r (by simpa using hr) j v hv
  rw [← this]
  congr 2
  omega

set_option maxRecDepth 100000 in
set_option maxHeartbeats 1000000 in
theorem samePk_one (a b : Option Addr) (l : List Pkt) (cap dap : Nat) (w : World) (ha : Sts 4 KC Tr w a l) (hb : Sts 4 KC Tr w b l) (hl : l.length ≤ 8796093022207) :
    Calls Try.prog 10 #[.slice a l.length cap, .slice b l.length dap] w fun e w' => e = .returned (.bool true) ∧ Below w.heap.size w w' := by
  have HA := Lib.hid ha
  have HB := Lib.hid hb
  clear ha hb
  go_enter Try.func10, Try.ntmps10
  go_wp2_with fail
  go_loopw [5] (fun vi wr => ∃ i : Nat, i ≤ l.length ∧ vi = .int .i64 i ∧ Below w.heap.size w wr) (fun vi _ => l.length - (intOf vi).toNat)
  case atStart => exact ⟨0, by omega, rfl, Below.refl _ _⟩
  case round =>
    obtain ⟨i, hi, rfl, hq⟩ := hrel
    have QR := Lib.hid hq
    clear hq
    by_cases hlt : i < l.length
    case neg =>
      obtain rfl : i = l.length := by omega
      go_wp2
      go_ret
      exact ⟨rfl, QR.out⟩
    case pos =>
      have i1 : (i : Int) < (l.length : Int) := by omega
      obtain ⟨p, hp⟩ : ∃ p, l[i]? = some p := ⟨_, List.getElem?_eq_getElem hlt⟩
      obtain ⟨g, o, rfl, _, _⟩ := HA.out.isSomeT (by omega)
      obtain ⟨h, q, rfl, _, _⟩ := HB.out.isSomeT (by omega)
      obtain ⟨hg, p0, p1, p2, p3⟩ := pk_at HA.out hp
      obtain ⟨hh, q0, q1, q2, q3⟩ := pk_at HB.out hp
      have m0 := (QR.out.cell (p := ⟨g, o + i * 4, none⟩) hg).trans p0
      have m1 := (QR.out.cell (p := ⟨g, o + i * 4 + 1, none⟩) hg).trans p1
      have m2 := (QR.out.cell (p := ⟨g, o + i * 4 + 2, none⟩) hg).trans p2
      have m3 := (QR.out.cell (p := ⟨g, o + i * 4 + 3, none⟩) hg).trans p3
      have n0 := (QR.out.cell (p := ⟨h, q + i * 4, none⟩) hh).trans q0
      have n1 := (QR.out.cell (p := ⟨h, q + i * 4 + 1, none⟩) hh).trans q1
      have n2 := (QR.out.cell (p := ⟨h, q + i * 4 + 2, none⟩) hh).trans q2
      have n3 := (QR.out.cell (p := ⟨h, q + i * 4 + 3, none⟩) hh).trans q3
      clear hp p0 p1 p2 p3 q0 q1 q2 q3
      go_wp2_with fail
      go_quiet (fail)
      have Q2 := Lib.hid (below_drewN QR.out nq)
      go_wp2
      go_roundw
      case rel => exact ⟨i + 1, by omega, by go_num, Q2.out⟩
      case measure => simp [intOf]; omega

set_option maxRecDepth 100000 in
set_option maxHeartbeats 1000000 in
theorem copyPk_any (a : Option Addr) (l : List Pkt) (cap : Nat) (w : World) (h : Sts 4 KC Tr w a l) (hn : a = none → cap = 0) (hl : l.length ≤ 4398046510976) :
    Calls Try.prog 9 #[.slice a l.length cap] w fun e w' => (∃ a' c', e = .returned (.slice a' l.length c') ∧ OwnR 30 4 KC w.heap.size a' l c' w') ∧ Below w.heap.size w w' := by
  have HL := Lib.hid h
  have HN := Lib.hid hn
  clear h hn
  go_enter Try.func9, Try.ntmps9
  go_wp2_with (first
    | (refine wpList_append_r (t := 26) (e := 30) (z := .agg #[.int .i64 0, .int .i64 0, .bool false, .int .i64 0]) (m := 4) (bz := 32) (cells := KC) (xs := ([] : List Pkt)) (ys := l) (cap := 0) (dap := cap) (n := l.length) (a := none) (b := a) rfl elemK encK (.tmp 4) (.tmp 5) rfl w.heap.size rfl ?_ ?_ ?_ ?_ ?_ ?_ ?_ ?_ ?_; exact ownR_nil _ _ _ _ _; exact HL.out; exact HN.out; rfl; rfl; (simp only [List.length_nil]; omega); (unfold maxLen; simp only [List.length_nil]; omega); exact Nat.le_refl _; intro a5 c5 W5 O5 b5 g5; have O6 := Lib.hid O5; have Q6 := Lib.hid b5; clear O5 b5 g5)
    | fail)
  go_ret
  exact ⟨⟨a5, c5, rfl, O6.out⟩, Q6.out⟩
end Go.Proofs.Yteflbfmkbkhimaa
