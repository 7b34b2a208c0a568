/- codel: all of some numbers lie within bounds, or not. -/
import Derived.Test.YteflbfmkbkhimaaQInts
import Derived.LoopTactic
namespace Go.Proofs.Yteflbfmkbkhimaa
open Go.RowKit

def InR (lo hi : Int) (zs : List Int) : Prop := ∀ z ∈ zs, lo ≤ z ∧ z ≤ hi
/-- A slice whose cells are these ints. -/
def Itc (w : World) (a : Option Addr) (ts : List Int) : Prop := ts = [] ∨ ∃ b off, a = some ⟨b, off, none⟩ ∧ b < w.heap.size ∧ ∀ i, i < ts.length → w.cell? ⟨b, off + i, none⟩ = some (.int .i64 (ts.getD i 0))
theorem itc_new (w : World) (ts : List Int) (t : TypeId) : Itc (w.alloc (.cells (ts.map (fun x => Value.int .i64 x)).toArray t)) (some ⟨w.heap.size, 0, none⟩) ts := by
  refine .inr ⟨w.heap.size, 0, rfl, by simp, fun i hi => ?_⟩
  rw [Nat.zero_add, World.cell?_alloc_new]
  simp [List.getD_eq_getElem?_getD, List.getElem?_eq_getElem hi]
theorem inR_nil (lo hi : Int) : InR lo hi [] := fun z hz => by cases hz

set_option maxHeartbeats 400000 in
theorem within_yes (lo hi : Int) (a : Option Addr) (zs : List Int) (cap : Nat) (w : World) (h : Itc w a zs) (hl : zs.length ≤ 1000) (hr : InR lo hi zs) :
    Calls Try.prog 19 #[.int .i64 lo, .int .i64 hi, .slice a zs.length cap] w fun e w' => e = .returned (.bool true) ∧ w = w' := by
  have H := Lib.hid h
  have HR := Lib.hid hr
  clear h hr
  go_enter Try.func19, Try.ntmps19
  go_wp2
  go_loop [11] (fun i => ∃ k : Nat, k ≤ zs.length ∧ i = .int .i64 k) (fun i => zs.length - (intOf i).toNat)
  case atStart => exact ⟨0, by omega, rfl⟩
  case round =>
    obtain ⟨k, hk, rfl⟩ := hrel
    by_cases hlt : k < zs.length
    · obtain ⟨b, off, rfl, hb, hcx⟩ : ∃ b off, a = some ⟨b, off, none⟩ ∧ b < w.heap.size ∧ ∀ i, i < zs.length → w.cell? ⟨b, off + i, none⟩ = some (.int .i64 (zs.getD i 0)) := by
        rcases H.out with h | h
        · subst h; simp at hlt
        · exact h
      have g1 := hcx k hlt
      have hm : zs.getD k 0 ∈ zs := by
        rw [List.getD_eq_getElem?_getD, List.getElem?_eq_getElem hlt]
        exact List.getElem_mem hlt
      have i1 : (k : Int) < (zs.length : Int) := by omega
      have hz := HR.out _ hm
      generalize zs.getD k 0 = z at g1 hz
      obtain ⟨hz1, hz2⟩ := hz
      clear hcx H hm
      go_wp2
      go_round
      case rel => exact ⟨k + 1, by omega, by go_num⟩
      case measure => simp [intOf]; omega
    · obtain rfl : k = zs.length := by omega
      go_wp2
      go_ret
      exact ⟨rfl, rfl⟩

set_option maxHeartbeats 400000 in
theorem within_no (lo hi : Int) (a : Option Addr) (zs : List Int) (cap : Nat) (w : World) (h : Itc w a zs) (hl : zs.length ≤ 1000) (hr : ¬ InR lo hi zs) :
    Calls Try.prog 19 #[.int .i64 lo, .int .i64 hi, .slice a zs.length cap] w fun e w' => e = .returned (.bool false) ∧ w = w' := by
  have H := Lib.hid h
  have HR := Lib.hid hr
  clear h hr
  go_enter Try.func19, Try.ntmps19
  go_wp2
  go_loop [11] (fun i => ∃ k : Nat, k ≤ zs.length ∧ i = .int .i64 k ∧ Hid (InR lo hi (zs.take k))) (fun i => zs.length - (intOf i).toNat)
  case atStart => exact ⟨0, by omega, rfl, Lib.hid (inR_nil lo hi)⟩
  case round =>
    obtain ⟨k, hk, rfl, hpre⟩ := hrel
    by_cases hlt : k < zs.length
    · obtain ⟨b, off, rfl, hb, hcx⟩ : ∃ b off, a = some ⟨b, off, none⟩ ∧ b < w.heap.size ∧ ∀ i, i < zs.length → w.cell? ⟨b, off + i, none⟩ = some (.int .i64 (zs.getD i 0)) := by
        rcases H.out with h | h
        · subst h; simp at hlt
        · exact h
      have g1 := hcx k hlt
      have hm : zs.getD k 0 ∈ zs := by
        rw [List.getD_eq_getElem?_getD, List.getElem?_eq_getElem hlt]
        exact List.getElem_mem hlt
      have i1 : (k : Int) < (zs.length : Int) := by omega
      have hnext : lo ≤ zs.getD k 0 → zs.getD k 0 ≤ hi → InR lo hi (zs.take (k + 1)) := by
        intro h1 h2 z hz
        rw [List.take_succ_eq_append_getElem hlt] at hz
        rcases List.mem_append.1 hz with hz | hz
        · exact hpre.out z hz
        · obtain rfl := List.mem_singleton.1 hz
          rw [List.getD_eq_getElem?_getD, List.getElem?_eq_getElem hlt] at h1 h2
          exact ⟨h1, h2⟩
      generalize zs.getD k 0 = z at g1 hnext hm
      by_cases hin : lo ≤ z ∧ z ≤ hi
      · obtain ⟨h1, h2⟩ := hin
        have HN := Lib.hid (hnext h1 h2)
        clear hcx H hm hnext hpre
        go_wp2
        go_round
        case rel => exact ⟨k + 1, by omega, by go_num, HN⟩
        case measure => simp [intOf]; omega
      · by_cases h1 : z < lo
        · clear hcx H hm hnext hpre hin
          go_wp2
          go_ret
          exact ⟨rfl, rfl⟩
        · have h2 : hi < z := by omega
          clear hcx H hm hnext hpre hin
          go_wp2
          go_ret
          exact ⟨rfl, rfl⟩
    · exfalso
      obtain rfl : k = zs.length := by omega
      rw [List.take_length] at hpre
      exact HR.out hpre.out

theorem wn_yes (lo hi : Int) (zs : List Int) (W : World) (g n m : Nat) (cs : Array Value) (t : TypeId) (hcs : cs = (zs.map (fun x => Value.int .i64 x)).toArray) (hn : n = zs.length) (hg : g = W.heap.size) (hl : zs.length ≤ 1000) (hr : InR lo hi zs) :
    Calls Try.prog 19 #[.int .i64 lo, .int .i64 hi, .slice (some ⟨g, 0, none⟩) n m] (W.alloc (.cells cs t)) fun e w' => e = .returned (.bool true) ∧ W.alloc (.cells cs t) = w' := by
  subst hcs hn hg
  exact within_yes lo hi _ zs m _ (itc_new W zs t) hl hr
theorem wn_no (lo hi : Int) (zs : List Int) (W : World) (g n m : Nat) (cs : Array Value) (t : TypeId) (hcs : cs = (zs.map (fun x => Value.int .i64 x)).toArray) (hn : n = zs.length) (hg : g = W.heap.size) (hl : zs.length ≤ 1000) (hr : ¬ InR lo hi zs) :
    Calls Try.prog 19 #[.int .i64 lo, .int .i64 hi, .slice (some ⟨g, 0, none⟩) n m] (W.alloc (.cells cs t)) fun e w' => e = .returned (.bool false) ∧ W.alloc (.cells cs t) = w' := by
  subst hcs hn hg
  exact within_no lo hi _ zs m _ (itc_new W zs t) hl hr
theorem inR1 {lo hi a : Int} : InR lo hi [a] ↔ (lo ≤ a ∧ a ≤ hi) := by simp [InR]
theorem inR2 {lo hi a b : Int} : InR lo hi [a, b] ↔ ((lo ≤ a ∧ a ≤ hi) ∧ (lo ≤ b ∧ b ≤ hi)) := by simp [InR]
theorem inR3 {lo hi a b c : Int} : InR lo hi [a, b, c] ↔ ((lo ≤ a ∧ a ≤ hi) ∧ (lo ≤ b ∧ b ≤ hi) ∧ (lo ≤ c ∧ c ≤ hi)) := by simp [InR]
theorem inR4 {lo hi a b c d : Int} : InR lo hi [a, b, c, d] ↔ ((lo ≤ a ∧ a ≤ hi) ∧ (lo ≤ b ∧ b ≤ hi) ∧ (lo ≤ c ∧ c ≤ hi) ∧ (lo ≤ d ∧ d ≤ hi)) := by simp [InR]
theorem inR5 {lo hi a b c d e : Int} : InR lo hi [a, b, c, d, e] ↔ ((lo ≤ a ∧ a ≤ hi) ∧ (lo ≤ b ∧ b ≤ hi) ∧ (lo ≤ c ∧ c ≤ hi) ∧ (lo ≤ d ∧ d ≤ hi) ∧ (lo ≤ e ∧ e ≤ hi)) := by simp [InR]
end Go.Proofs.Yteflbfmkbkhimaa
