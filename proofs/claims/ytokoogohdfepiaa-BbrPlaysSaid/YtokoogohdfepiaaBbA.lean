/- Bbr: lists of pairs: made for the program, held against the page's. -/
import Derived.Test.YtokoogohdfepiaaGPair23
import Derived.Test.YtokoogohdfepiaaGOwnA
import Derived.Lib.MinMax
namespace Go.Proofs.Ytokoogohdfepiaa
open Go.RowKit

abbrev PC : Pair23 → List Value := Pair23.cells
theorem encP : Enc 2 PC := ⟨fun _ => rfl, fun x u hu => by
  simp only [Pair23.cells, List.mem_cons, List.not_mem_nil, or_false] at hu
  rcases hu with rfl | rfl <;> rfl, by decide⟩
theorem elemB : Elem 23 36 (.agg #[.int .i64 0, .int .i64 0]) 2 16 := ⟨Try.underlying23, by kernel_rfl, rfl, by decide⟩
theorem elemR : Elem 22 58 (.agg #[.int .i64 0, .int .i64 0]) 2 16 := ⟨Try.underlying22, by kernel_rfl, rfl, by decide⟩
/-- A pair at a place of a list. -/
theorem pair_at {w : World} {b off : Nat} {l : List Pair23} (h : Sts 2 PC Tr w (some ⟨b, off, none⟩) l) {i : Nat} {p : Pair23} (hi : l[i]? = some p) : b < w.heap.size ∧ w.cell? ⟨b, off + i * 2, none⟩ = some (.int .i64 p.round) ∧ w.cell? ⟨b, off + i * 2 + 1, none⟩ = some (.int .i64 p.rate) := by
  have hl : i < l.length := (List.getElem?_eq_some_iff.1 hi).1
  obtain ⟨b', off', e, hb, h2⟩ := h.isSomeT (by omega)
  cases e
  exact ⟨hb, h2 i p hi 0 _ rfl, h2 i p hi 1 _ rfl⟩
theorem num_any (n : Int) (w : World) : Calls Try.prog 13 #[.int .i64 n] w fun e w' => e = .returned (.int .i64 n) ∧ w = w' := by
  go_enter Try.func13, Try.ntmps13
  go_wp2
  go_ret
  exact ⟨rfl, rfl⟩

set_option maxRecDepth 100000 in
set_option maxHeartbeats 2000000 in
theorem pairs_any (a : Option Addr) (l : List Pair23) (cap : Nat) (w : World) (h : Sts 2 PC Tr w a l) (hl : l.length ≤ 8796093022207) :
    Calls Try.prog 9 #[.slice a l.length cap] w fun e w' => (∃ a' c', e = .returned (.slice a' l.length c') ∧ OwnR 36 2 PC w.heap.size a' l c' w') ∧ Below w.heap.size w w' := by
  have HL := Lib.hid h
  clear h
  go_enter Try.func9, Try.ntmps9
  go_wp2_with fail
  go_loopw [3, 4] (fun vo vi wr => ∃ (i : Nat) (a' : Option Addr) (c' : Nat), i ≤ l.length ∧ vi = .int .i64 i ∧ vo = .slice a' (l.take i).length c' ∧ OwnR 36 2 PC w.heap.size a' (l.take i) c' wr ∧ Below w.heap.size w wr) (fun _ vi _ => l.length - (intOf vi).toNat)
  case atStart => exact ⟨0, none, 0, by omega, rfl, by simp, by simpa using ownR_nil _ _ _ _ _, Below.refl _ _⟩
  case round =>
    obtain ⟨i, a', c', hi, rfl, rfl, hO, hq⟩ := hrel
    have OR := Lib.hid hO
    have QR := Lib.hid hq
    clear hO hq
    by_cases hlt : i < l.length
    case neg =>
      obtain rfl : i = l.length := by omega
      have hO := OR.out
      rw [List.take_length] at hO
      go_wp2
      go_ret
      exact ⟨⟨a', c', by simp, hO⟩, QR.out⟩
    case pos =>
      have i1 : (i : Int) < (l.length : Int) := by omega
      obtain ⟨p, hp⟩ : ∃ p, l[i]? = some p := ⟨_, List.getElem?_eq_getElem hlt⟩
      obtain ⟨b, off, rfl, _, _⟩ := HL.out.isSomeT (by omega)
      obtain ⟨hb, p0, p1⟩ := pair_at HL.out hp
      have m0 := (QR.out.cell (p := ⟨b, off + i * 2, none⟩) hb).trans p0
      have m1 := (QR.out.cell (p := ⟨b, off + i * 2 + 1, none⟩) hb).trans p1
      have htk : l.take i ++ [p] = l.take (i + 1) := by rw [List.take_add_one, hp]; rfl
      have hlen : (l.take i).length = i := by rw [List.length_take]; omega
      have bal : ∀ (W : World) (o : Obj), Below W.heap.size W (W.alloc o) := fun W o => (Below.refl W.heap.size W).alloc (Nat.le_refl _) o
      have HTK := Lib.hid htk
      have HLEN := Lib.hid hlen
      clear htk hlen hp p0 p1
      go_wp2_with (first
        | (refine wpList_append_rA (t := 23) (e := 36) (z := .agg #[.int .i64 0, .int .i64 0]) (m := 2) (bz := 16) (cells := PC) (xs := l.take i) (ys := [p]) (cap := c') (a := a') (ad := ⟨wr.heap.size, 0, none⟩) (dap := 1) (n := 1) rfl elemB encP (.tmp 11) (.tmp 16) rfl w.heap.size rfl ?_ ?_ ?_ ?_ ?_ ?_ ?_ ?_; exact OR.out.below (bal wr (.cells #[.int .i64 p.round, .int .i64 p.rate] 36)); exact sts_new encP wr [p] 36 (0, 0); rfl; rfl; (have := HLEN.out; simp only [List.length_singleton]; omega); (have := HLEN.out; unfold maxLen; simp only [List.length_singleton]; omega); exact Nat.le_trans QR.out.size (bal wr (.cells #[.int .i64 p.round, .int .i64 p.rate] 36)).size; intro a2 c2 W1 O1 b1 g1 at1; have O2 := Lib.hid O1; have Q2 := Lib.hid ((QR.out.trans ((bal wr (.cells #[.int .i64 p.round, .int .i64 p.rate] 36)).mono QR.out.size)).trans b1); clear O1 b1 g1 at1)
        | fail)
      have O3 := O2.out
      rw [HTK.out] at O3
      go_roundw
      case rel => exact ⟨i + 1, a2, c2, by omega, by go_num, by rw [List.length_take, Nat.min_eq_left (by omega)], O3, Q2.out⟩
      case measure => simp [intOf]; omega

set_option maxRecDepth 100000 in
set_option maxHeartbeats 2000000 in
theorem samePairs_one (a b : Option Addr) (l : List Pair23) (cap dap : Nat) (w : World) (ha : Sts 2 PC Tr w a l) (hb : Sts 2 PC Tr w b l) (hl : l.length ≤ 8796093022207) :
    Calls Try.prog 12 #[.slice a l.length cap, .slice b l.length dap] w fun e w' => e = .returned (.bool true) ∧ Below w.heap.size w w' := by
  have HA := Lib.hid ha
  have HB := Lib.hid hb
  clear ha hb
  go_enter Try.func12, Try.ntmps12
  go_wp2_with fail
  go_loopw [5] (fun vi wr => ∃ i : Nat, i ≤ l.length ∧ vi = .int .i64 i ∧ Below w.heap.size w wr) (fun vi _ => l.length - (intOf vi).toNat)
  case atStart => exact ⟨0, by omega, rfl, Below.refl _ _⟩
  case round =>
    obtain ⟨i, hi, rfl, hq⟩ := hrel
    have QR := Lib.hid hq
    clear hq
    by_cases hlt : i < l.length
    case neg =>
      obtain rfl : i = l.length := by omega
      go_wp2
      go_ret
      exact ⟨rfl, QR.out⟩
    case pos =>
      have i1 : (i : Int) < (l.length : Int) := by omega
      obtain ⟨p, hp⟩ : ∃ p, l[i]? = some p := ⟨_, List.getElem?_eq_getElem hlt⟩
      obtain ⟨g, o, rfl, _, _⟩ := HA.out.isSomeT (by omega)
      obtain ⟨h, q, rfl, _, _⟩ := HB.out.isSomeT (by omega)
      obtain ⟨hg, p0, p1⟩ := pair_at HA.out hp
      obtain ⟨hh, q0, q1⟩ := pair_at HB.out hp
      have m0 := (QR.out.cell (p := ⟨g, o + i * 2, none⟩) hg).trans p0
      have m1 := (QR.out.cell (p := ⟨g, o + i * 2 + 1, none⟩) hg).trans p1
      have n0 := (QR.out.cell (p := ⟨h, q + i * 2, none⟩) hh).trans q0
      have n1 := (QR.out.cell (p := ⟨h, q + i * 2 + 1, none⟩) hh).trans q1
      clear hp p0 p1 q0 q1
      go_wp2_with fail
      go_quiet (fail)
      have Q2 := Lib.hid (below_drewN QR.out nq)
      go_wp2
      go_roundw
      case rel => exact ⟨i + 1, by omega, by go_num, Q2.out⟩
      case measure => simp [intOf]; omega

/-- The last one's round. -/
def lastR (l : List Pair23) : Int := match l.getLast? with | none => 0 | some p => p.round
theorem lastR_nil : lastR [] = 0 := rfl
theorem lastR_at {l : List Pair23} {k : Nat} {p : Pair23} (hk : l.length = k + 1) (hp : l[k]? = some p) : lastR l = p.round := by
  unfold lastR
  rw [List.getLast?_eq_getElem?, hk, Nat.add_sub_cancel, hp]
set_option maxRecDepth 100000 in
set_option maxHeartbeats 1000000 in
theorem lastRound_any (a : Option Addr) (l : List Pair23) (cap : Nat) (w : World) (h : Sts 2 PC Tr w a l) (hl : l.length ≤ 8796093022207) :
    Calls Try.prog 22 #[.slice a l.length cap] w fun e w' => e = .returned (.int .i64 (lastR l)) ∧ w = w' := by
  by_cases h0 : l.length = 0
  · obtain rfl : l = [] := List.eq_nil_of_length_eq_zero h0
    clear h hl
    go_enter Try.func22, Try.ntmps22
    go_wp2
    go_ret
    exact ⟨rfl, rfl⟩
  · obtain ⟨k, hk⟩ : ∃ k, l.length = k + 1 := ⟨l.length - 1, by omega⟩
    obtain ⟨p, hp⟩ : ∃ p, l[k]? = some p := ⟨_, List.getElem?_eq_getElem (by omega)⟩
    obtain ⟨b, off, rfl, _, _⟩ := h.isSomeT (by omega)
    obtain ⟨hb, p0, p1⟩ := pair_at h hp
    rw [lastR_at hk hp]
    rw [hk]
    rw [hk] at hl
    have e1 : ((k : Int) + 1 == 0) = false := by rw [beq_eq_false_iff_ne]; omega
    clear h hp hk h0
    go_enter Try.func22, Try.ntmps22
    go_wp2
    go_ret
    exact ⟨rfl, rfl⟩
end Go.Proofs.Ytokoogohdfepiaa
