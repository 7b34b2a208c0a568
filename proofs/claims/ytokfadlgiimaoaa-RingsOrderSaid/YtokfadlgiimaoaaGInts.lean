/- A slice that reads as ints; two of them compared; a copy; how an argument that is a list of ints is read. -/
import Derived.Test.YtokfadlgiimaoaaGBts
import Derived.WalkSpells
import Derived.WalkLawsBesides
import Derived.PlainAid
import Derived.WalkSmall
import Derived.Deep.AppendSrc
import Derived.LoopN
import Derived.ProofKit
import Derived.OpenShut
import Derived.SizedLaws
namespace Go.Proofs.Ytokfadlgiimaoaa
open Go.ChangeShapes Go.WideShapes Go.ChangeAt Go.RowKit

/-- A slice that reads as these ints. -/
def Its (w : World) (a : Option Addr) (ts : List Int) : Prop :=
  (∀ t ∈ ts, -9223372036854775808 ≤ t ∧ t ≤ 9223372036854775807) ∧ (ts = [] ∨ ∃ b off, a = some ⟨b, off, none⟩ ∧ b < w.heap.size ∧ ∀ i, i < ts.length → w.cell? ⟨b, off + i, none⟩ = some (.int .i64 (ts.getD i 0)))

theorem Its.below {w w' : World} {a : Option Addr} {ts : List Int} (h : Its w a ts) (hb : Below w.heap.size w w') : Its w' a ts := by
  obtain ⟨h1, h2 | ⟨b, off, rfl, hlt, hc⟩⟩ := h
  · exact ⟨h1, .inl h2⟩
  · exact ⟨h1, .inr ⟨b, off, rfl, Nat.lt_of_lt_of_le hlt hb.size, fun i hi => (hb.cell (p := ⟨b, off + i, none⟩) hlt).trans (hc i hi)⟩⟩

theorem bytes8 : Try.prog.bytesOf 3 = 8 := by kernel_rfl

theorem infoI : (Try.prog.info? 3).map (fun i => (i.zero, i.size, i.bytes)) = some (some (.int .i64 0), 1, 8) := by kernel_rfl

/-- Cells of ints read as ints. -/
theorem its_of_ints {w : World} {x : Addr} {len cap : Nat} {zs : List Int} (hl : len ≤ cap) (hz : zs.length = cap) (hcell : ∀ i, i < zs.length → w.cell? (x.add i) = some (.int .i64 (zs.getD i 0))) (hwz : ∀ n ∈ zs, (Lit.int .i64 n).wf = true) :
    ∃ ts : List Int, ts.length = len ∧ Its w (some x) ts := by
  refine ⟨zs.take len, by rw [List.length_take]; omega, ?_, ?_⟩
  · intro y hy
    exact bounds_i64 (hwz y (List.mem_of_mem_take hy))
  · by_cases h0 : len = 0
    · left; subst h0; rfl
    · right
      obtain ⟨b, off, rfl, hc⟩ := ints_at hcell (by omega)
      have hlt : b < w.heap.size := World.block_lt_of_cell? _ _ (hc 0 (by omega))
      refine ⟨b, off, rfl, hlt, fun i hi => ?_⟩
      have hil : i < len := by rw [List.length_take] at hi; omega
      have hiz : i < zs.length := by omega
      rw [hc i hiz]
      congr 2
      rw [List.getD_eq_getElem?_getD, List.getD_eq_getElem?_getD, List.getElem?_take_of_lt hil]

/-- A row of one's own reads as its ints. -/
theorem row_its {w : World} {B g cap : Nat} {ts : List Int} (h : w.ownsRow B 3 1 (.slice (some ⟨g, 0, none⟩) ts.length cap) ts.length (ts.map fun x => Value.int .i64 x)) (hx : ∀ t ∈ ts, -9223372036854775808 ≤ t ∧ t ≤ 9223372036854775807) : Its w (some ⟨g, 0, none⟩) ts := by
  refine ⟨hx, .inr ⟨g, 0, rfl, (h.lt g rfl).2, fun i hi => ?_⟩⟩
  rw [Nat.zero_add, h.cellAt i (by omega), List.getElem?_map, List.getD_eq_getElem?_getD, List.getElem?_eq_getElem hi]
  rfl

def CopyIAns (ts : List Int) (w : World) (e : Ending) (w' : World) : Prop := ∃ a' cap', e = .returned (.slice a' ts.length cap') ∧ Its w' a' ts ∧ Below w.heap.size w w'

set_option maxHeartbeats 400000 in
theorem copy_ints (a : Option Addr) (ts : List Int) (cap : Nat) (w : World) (hx : Its w a ts) (hxl : ts.length ≤ 17592186043904) (hn : a = none → cap = 0) :
    Calls Try.prog 25 #[.slice a ts.length cap] w (CopyIAns ts w) := by
  obtain ⟨i0, hi, hz0, hz1, hz2⟩ := info_parts infoI
  have hxb := Lib.hid hx.1
  go_enter Try.func25, Try.ntmps25
  cases a with
  | none =>
    obtain rfl : ts = [] := by
      rcases hx.2 with h | ⟨b, off, h, _⟩
      · exact h
      · cases h
    obtain rfl := hn rfl
    go_wp2
    go_ret
    exact ⟨none, 0, rfl, ⟨fun x h => by simp at h, .inl rfl⟩, Below.refl _ _⟩
  | some ad =>
    have hcell : ∀ j u, (ts.map fun x => Value.int .i64 x)[j]? = some u → w.cell? (ad.add j) = some u := by
      intro j u hj
      rcases hx.2 with h | ⟨b, off, h, hb, hc⟩
      · subst h; simp at hj
      · cases h
        have hjl : j < ts.length := by simpa using (List.getElem?_eq_some_iff.1 hj).1
        have e : (⟨b, off, none⟩ : Addr).add j = ⟨b, off + j, none⟩ := by unfold Addr.add; split <;> simp_all
        rw [e, hc j hjl, ← hj]
        simp [List.getD_eq_getElem?_getD, List.getElem?_eq_getElem hjl]
    have Hc := Lib.hid hcell; clear hcell hx
    go_wp2_with (at_builtin; refine wpList_append_own _ rfl _ _ 23 rfl w.heap.size 3 i0 (.int .i64 0) 1 8 Try.underlying23 hi hz0 hz1 hz2 rfl (by decide) _ _ _ rfl (World.ownsRow_nil _ _ _ _) ad ts.length cap (ts.map fun x => Value.int .i64 x) rfl (by simp) Hc.out (by simp [Value.oneCell']) (by unfold maxLen; omega) (by omega) (Nat.le_refl _) ?_; intro v' w1 hown hgrow _)
    go_ret
    have hb := (Below.refl w.heap.size w).grown hgrow (Nat.le_refl _) (fun k e => by cases e)
    rw [Nat.zero_add, List.nil_append] at hown
    rcases hown.2 with ⟨rfl, h0⟩ | ⟨g, cap', cur, rfl, hB, h2⟩
    · obtain rfl : ts = [] := List.eq_nil_of_length_eq_zero h0
      exact ⟨none, 0, rfl, ⟨hxb.out, .inl rfl⟩, hb⟩
    · exact ⟨some ⟨g, 0, none⟩, cap', rfl, row_its hown hxb.out, hb⟩

end Go.Proofs.Ytokfadlgiimaoaa
