/- .. and lists of octets. -/
import Derived.Test.YtknebjfdggimcaaGTurns
import Derived.Test.YtknebjfdggimcaaGBts
namespace Go.Proofs.Ytknebjfdggimcaa
open Go.RowKit
variable {S : Nat → Prop} {w w' : World}
theorem OwnSl.turned {B : Nat} {a : Option Addr} {xs : List Nat} {cap : Nat} (O : OwnSl B a xs cap w) (h : Turns S w w') (hS : ∀ g, a = some ⟨g, 0, none⟩ → ¬ S g) : OwnSl B a xs cap w' := by
  obtain ⟨hx, ⟨ha, he, hc⟩ | ⟨g, ha, hB, hr⟩⟩ := O
  · exact ⟨hx, .inl ⟨ha, he, hc⟩⟩
  · refine ⟨hx, .inr ⟨g, ha, hB, hr.1, ?_⟩⟩
    rcases hr.2 with h0 | ⟨g', cap', cur, e, h1, h2, h3⟩
    · exact .inl h0
    · have e2 := e
      simp only [Value.slice.injEq, Option.some.injEq, Addr.mk.injEq] at e2
      obtain ⟨⟨rfl, _, _⟩, _, _⟩ := e2
      exact .inr ⟨g, cap', cur, e, h1, h.blk h2 (hS g ha), h3⟩
theorem Bts.turned {a : Option Addr} {xs : List Nat} (Y : Bts w a xs) (h : Turns S w w') (hS : ∀ b o, a = some ⟨b, o, none⟩ → ¬ S b) : Bts w' a xs := by
  refine ⟨Y.1, ?_⟩
  rcases Y.2 with h0 | ⟨b, off, e, hb, hc⟩
  · exact .inl h0
  · refine .inr ⟨b, off, e, Nat.lt_of_lt_of_le hb h.size, fun i hi => ?_⟩
    have hbl := h.block b hb (hS b off e)
    rw [← hc i hi]
    simp only [World.cell?, hbl]
end Go.Proofs.Ytknebjfdggimcaa
