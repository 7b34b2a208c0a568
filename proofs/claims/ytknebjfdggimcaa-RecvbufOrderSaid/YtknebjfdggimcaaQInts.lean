/- A slice that reads as ints; one built on the spot; how an argument that is a list of ints is read. -/
import Derived.Test.YtknebjfdggimcaaGBase
import Derived.OpenShut
import Derived.SizedLaws
namespace Go.Proofs.Ytknebjfdggimcaa
open Go.ChangeShapes Go.WideShapes Go.ChangeAt Go.RowKit

/-- A slice that reads as these ints. -/
def Its (w : World) (a : Option Addr) (ts : List Int) : Prop :=
  (∀ t ∈ ts, -9223372036854775808 ≤ t ∧ t ≤ 9223372036854775807) ∧ (ts = [] ∨ ∃ b off, a = some ⟨b, off, none⟩ ∧ b < w.heap.size ∧ ∀ i, i < ts.length → w.cell? ⟨b, off + i, none⟩ = some (.int .i64 (ts.getD i 0)))

theorem Its.below {w w' : World} {a : Option Addr} {ts : List Int} (h : Its w a ts) (hb : Below w.heap.size w w') : Its w' a ts := by
  obtain ⟨h1, h2 | ⟨b, off, rfl, hlt, hc⟩⟩ := h
  · exact ⟨h1, .inl h2⟩
  · exact ⟨h1, .inr ⟨b, off, rfl, Nat.lt_of_lt_of_le hlt hb.size, fun i hi => (hb.cell (p := ⟨b, off + i, none⟩) hlt).trans (hc i hi)⟩⟩

theorem bytes8 : Try.prog.bytesOf 3 = 8 := by kernel_rfl

theorem infoI : (Try.prog.info? 3).map (fun i => (i.zero, i.size, i.bytes)) = some (some (.int .i64 0), 1, 8) := by kernel_rfl

/-- Cells of ints read as ints. -/
theorem its_of_ints {w : World} {x : Addr} {len cap : Nat} {zs : List Int} (hl : len ≤ cap) (hz : zs.length = cap) (hcell : ∀ i, i < zs.length → w.cell? (x.add i) = some (.int .i64 (zs.getD i 0))) (hwz : ∀ n ∈ zs, (Lit.int .i64 n).wf = true) :
    ∃ ts : List Int, ts.length = len ∧ Its w (some x) ts := by
  refine ⟨zs.take len, by rw [List.length_take]; omega, ?_, ?_⟩
  · intro y hy
    exact bounds_i64 (hwz y (List.mem_of_mem_take hy))
  · by_cases h0 : len = 0
    · left; subst h0; rfl
    · right
      obtain ⟨b, off, rfl, hc⟩ := ints_at hcell (by omega)
      have hlt : b < w.heap.size := World.block_lt_of_cell? _ _ (hc 0 (by omega))
      refine ⟨b, off, rfl, hlt, fun i hi => ?_⟩
      have hil : i < len := by rw [List.length_take] at hi; omega
      have hiz : i < zs.length := by omega
      rw [hc i hiz]
      congr 2
      rw [List.getD_eq_getElem?_getD, List.getD_eq_getElem?_getD, List.getElem?_take_of_lt hil]

/-- A list of ints that was built on the spot. -/
theorem its_new (w : World) (ts : List Int) (t : TypeId) (h : ∀ x ∈ ts, -9223372036854775808 ≤ x ∧ x ≤ 9223372036854775807) : Its (w.alloc (.cells (ts.map (fun x => Value.int .i64 x)).toArray t)) (some ⟨w.heap.size, 0, none⟩) ts := by
  refine ⟨h, .inr ⟨w.heap.size, 0, rfl, by simp, fun i hi => ?_⟩⟩
  rw [Nat.zero_add, World.cell?_alloc_new]
  simp [List.getD_eq_getElem?_getD, List.getElem?_eq_getElem hi]

end Go.Proofs.Ytknebjfdggimcaa
