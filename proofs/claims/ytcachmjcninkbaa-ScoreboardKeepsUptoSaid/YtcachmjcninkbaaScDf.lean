/- Scoreboard: slices.IndexFunc and DeleteFunc over the closure: the walks. -/
import Derived.Test.YtcachmjcninkbaaScD
namespace Go.Proofs.Ytcachmjcninkbaa
open Go.RowKit

theorem cl_b {b : Bool} (ua : Nat) (p : Nat × Nat) (gp : Nat) (w : World) (hb : dl ua p = b) (hB : w.heap[gp]? = some (.cells #[.int .i64 (ua : Nat)] 3 (0, 0))) :
    Calls Try.prog 51 #[.agg #[.int .i64 (p.1 : Nat), .int .i64 (p.2 : Nat)], .pointer (some ⟨gp, 0, none⟩)] w fun e w' => e = .returned (.bool b) ∧ Below w.heap.size w w' := by
  subst hb; exact cl_any ua p gp w hB

set_option maxRecDepth 100000 in
set_option maxHeartbeats 2000000 in
theorem index_any (ua : Nat) (gp : Nat) (a : Option Addr) (l : List (Nat × Nat)) (cap : Nat) (w : World) (h : Sts 2 SC Tr w a l) (hl : l.length ≤ 1000000) (hB : w.heap[gp]? = some (.cells #[.int .i64 (ua : Nat)] 3 (0, 0))) :
    Calls Try.prog 56 #[.slice a l.length cap, .func (.func 51) #[] #[.pointer (some ⟨gp, 0, none⟩)]] w fun e w' => (∃ k : Int, e = .returned (.int .i64 k) ∧ ((k = -1 ∧ ∀ x ∈ l, dl ua x = false) ∨ ∃ kn : Nat, k = kn ∧ kn < l.length ∧ (∀ j x, j < kn → l[j]? = some x → dl ua x = false) ∧ (∀ x, l[kn]? = some x → dl ua x = true))) ∧ Below w.heap.size w w' := by
  have HL := Lib.hid h
  have HB := Lib.hid hB
  clear h hB
  go_enter Try.func56, Try.ntmps56
  go_wp2_with fail
  go_loopw [8] (fun vi wr => ∃ i : Nat, i ≤ l.length ∧ vi = .int .i64 i ∧ Hid (∀ j x, j < i → l[j]? = some x → dl ua x = false) ∧ Below w.heap.size w wr) (fun vi _ => l.length - (intOf vi).toNat)
  case atStart => exact ⟨0, by omega, rfl, Lib.hid (fun j x hj => by omega), Below.refl _ _⟩
  case round =>
    obtain ⟨i, hi, rfl, HP, hq⟩ := hrel
    have QR := Lib.hid hq
    clear hq
    by_cases hlt : i < l.length
    case neg =>
      obtain rfl : i = l.length := by omega
      go_wp2
      go_ret
      refine ⟨⟨-1, rfl, .inl ⟨rfl, fun x hx => ?_⟩⟩, QR.out⟩
      obtain ⟨j, hj⟩ := List.getElem?_of_mem hx
      exact HP.out j x (List.getElem?_eq_some_iff.1 hj).1 hj
    case pos =>
      have i1 : (i : Int) < (l.length : Int) := by omega
      obtain ⟨p, hp⟩ : ∃ p, l[i]? = some p := ⟨_, List.getElem?_eq_getElem hlt⟩
      have HPI := Lib.hid hp
      obtain ⟨g, o, rfl, _, _⟩ := HL.out.isSomeT (by omega)
      obtain ⟨hg, p0, p1⟩ := s_at HL.out hp
      have m0 := (QR.out.cell (p := ⟨g, o + i * 2, none⟩) hg).trans p0
      have m1 := (QR.out.cell (p := ⟨g, o + i * 2 + 1, none⟩) hg).trans p1
      obtain ⟨b, hb⟩ : ∃ b, dl ua p = b := ⟨_, rfl⟩
      have HBB := Lib.hid hb
      have hbR := (QR.out.block gp (blk_lt HB.out)).trans HB.out
      clear hp p0 p1 hb
      go_wp2_with fail
      refine (cl_b ua p gp _ HBB.out hbR).mono ?_
      rintro e V1 ⟨rfl, b1⟩
      have Q1 := Lib.hid (QR.out.trans (b1.mono QR.out.size))
      clear b1 hbR
      cases b with
      | true =>
        go_wp2
        go_ret
        refine ⟨⟨_, rfl, .inr ⟨i, rfl, hlt, HP.out, fun x hx => ?_⟩⟩, Q1.out⟩
        rw [HPI.out] at hx
        cases hx
        exact HBB.out
      | false =>
        go_wp2
        go_roundw
        case rel =>
          refine ⟨i + 1, by omega, by go_num, Lib.hid (fun j x hj hx => ?_), Q1.out⟩
          by_cases h1 : j < i
          · exact HP.out j x h1 hx
          · obtain rfl : j = i := by omega
            rw [HPI.out] at hx
            cases hx
            exact HBB.out
        case measure => simp [intOf]; omega

/-- What is left. -/
def left (ua : Nat) (l : List (Nat × Nat)) : List (Nat × Nat) := l.filter (fun p => !dl ua p)
theorem left_all {ua : Nat} {l : List (Nat × Nat)} (h : ∀ x ∈ l, dl ua x = false) : left ua l = l := by
  unfold left; rw [List.filter_eq_self]; intro x hx; simp [h x hx]
theorem left_snoc (ua : Nat) (l : List (Nat × Nat)) (k : Nat) (p : Nat × Nat) (hp : l[k]? = some p) : left ua (l.take (k + 1)) = if dl ua p then left ua (l.take k) else left ua (l.take k) ++ [p] := by
  unfold left
  rw [List.take_add_one, hp, List.filter_append]
  cases h : dl ua p <;> simp [h]
structure DInv (ua : Nat) (l ms : List (Nat × Nat)) (i j : Nat) : Prop where
  len : ms.length = l.length
  lt : i < j
  le : j ≤ l.length
  pre : ms.take i = left ua (l.take j)
  suf : ∀ t, j ≤ t → ms[t]? = l[t]?
theorem DInv.start {ua : Nat} {l : List (Nat × Nat)} {k : Nat} (hk : k < l.length) (h1 : ∀ j x, j < k → l[j]? = some x → dl ua x = false) (h2 : ∀ x, l[k]? = some x → dl ua x = true) : DInv ua l l k (k + 1) := by
  refine ⟨rfl, by omega, by omega, ?_, fun _ _ => rfl⟩
  obtain ⟨p, hp⟩ : ∃ p, l[k]? = some p := ⟨_, List.getElem?_eq_getElem hk⟩
  rw [left_snoc ua l k p hp, if_pos (h2 p hp)]
  refine (left_all fun x hx => ?_).symm
  obtain ⟨j, hj⟩ := List.getElem?_of_mem hx
  have hjl : j < k := by have := (List.getElem?_eq_some_iff.1 hj).1; rw [List.length_take] at this; omega
  rw [List.getElem?_take_of_lt hjl] at hj
  exact h1 j x hjl hj
theorem DInv.drop {ua : Nat} {l ms : List (Nat × Nat)} {i j : Nat} {p : Nat × Nat} (h : DInv ua l ms i j) (hj : j < l.length) (hp : l[j]? = some p) (hd : dl ua p = true) : DInv ua l ms i (j + 1) :=
  ⟨h.len, by have := h.lt; omega, by omega, by rw [left_snoc ua l j p hp, if_pos hd]; exact h.pre, fun t ht => h.suf t (by omega)⟩
theorem DInv.keep {ua : Nat} {l ms : List (Nat × Nat)} {i j : Nat} {p : Nat × Nat} (h : DInv ua l ms i j) (hj : j < l.length) (hp : l[j]? = some p) (hd : dl ua p = false) : DInv ua l (ms.set i p) (i + 1) (j + 1) := by
  have hlt := h.lt
  have hlen := h.len
  refine ⟨by rw [List.length_set]; exact hlen, by omega, by omega, ?_, fun t ht => ?_⟩
  · rw [left_snoc ua l j p hp, if_neg (by rw [hd]; exact Bool.false_ne_true), ← h.pre, List.take_add_one, List.getElem?_set_self (by omega), List.take_set_of_le (Nat.le_refl _)]
    rfl
  · rw [List.getElem?_set_ne (by omega)]; exact h.suf t (by omega)
end Go.Proofs.Ytcachmjcninkbaa
