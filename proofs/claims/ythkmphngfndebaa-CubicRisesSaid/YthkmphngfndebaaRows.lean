/-
  No cell of these rows narrows 'for every input' (looked for: loops, veiled, ifaces, maps, wideKeys, modest, calm, conditions, laid).
  DERIVED. THE GIVEN ROWS OF THIS SEAT. 5 by the template 'for every input the law returns true; each argument reads behind the call as it read before'; 0 by the template 'total and deterministic' (their statements: YthkmphngfndebaaTotals.lean).
  GIVEN WITH THE SEED: the statements are not yours to turn. If you find one false, say at which input.
  Laid BY PROGRAM, IN A SANDBOX (cutbox-rows.mjs): the forced cells as the released guide's own fill.sh prints them over the translation 8f2230afcf4ddfbd… (all of the seat's roots in one cut). By AI agents, Wed Nov 11 2026. No macro, syntax, notation, axiom, sorry.
-/
import Derived.Test.YthkmphngfndebaaChecked
import GoSem.Claim
import GoSem.ClaimJoined
import GoSem.ClaimMapViews
import Derived.JoinedTies
import Derived.KernelRfl
namespace Go.Proofs.Ythkmphngfndebaa
/- THE CELL 'sum', in the pinned program and in every row, IS THE sha256 OF THE DUMP (.gsa) THAT YthkmphngfndebaaProg.lean LOADS. Nothing in Lean hashes anything: it is a label: what it is worth is what the hold of that sum in a sandbox is worth. -/
noncomputable def Try.pinned : Pinned := { name := "ythkmphngfndebaa", sum := "8f2230afcf4ddfbd55c716091f6b5c4ae6f4ce29613416360a14c3f7cb71ef28", checked := Try.checked }
namespace Rows
def none {H : Type} : Left H := { results := [], args := [] }

/-- 'stopcocklaw21.CubicNumbers': WHATEVER THE INPUT: true; the input reads as it did. -/
def cubicNumbersSpec : ChangeSpec := { name := "cubicNumbers", fn := fun _ => fun
  | [d1, d2, d3, d4, d5] => { results := [.lit (.bool true)], args := [d1, d2, d3, d4, d5] }
  | _ => none }
def cubicNumbersRow : OpenClaim := { program := "ythkmphngfndebaa", sum := "8f2230afcf4ddfbd55c716091f6b5c4ae6f4ce29613416360a14c3f7cb71ef28", func := "stopcock/stopcocklaw21.CubicNumbers", spec := "cubicNumbers", apart := false }
def CubicNumbersSaid : Prop := cubicNumbersRow.holds Try.pinned (OpenSpec.ofChange cubicNumbersSpec)

/-- ITS FALSE NEIGHBOUR: 'it returns false'. Refute it at one input. -/
def cubicNumbersWrong : ChangeSpec := { name := "cubicNumbers", fn := fun _ => fun
  | [d1, d2, d3, d4, d5] => { results := [.lit (.bool false)], args := [d1, d2, d3, d4, d5] }
  | _ => none }
def CubicNumbersWrongFalsely : Prop := cubicNumbersRow.holds Try.pinned (OpenSpec.ofChange cubicNumbersWrong)

/-- 'stopcocklaw21.CubicTells': WHATEVER THE INPUT: true; the input reads as it did. -/
def cubicTellsSpec : ChangeSpec := { name := "cubicTells", fn := fun _ => fun
  | [d1, d2, d3, d4, d5] => { results := [.lit (.bool true)], args := [d1, d2, d3, d4, d5] }
  | _ => none }
def cubicTellsRow : OpenClaim := { program := "ythkmphngfndebaa", sum := "8f2230afcf4ddfbd55c716091f6b5c4ae6f4ce29613416360a14c3f7cb71ef28", func := "stopcock/stopcocklaw21.CubicTells", spec := "cubicTells", apart := false }
def CubicTellsSaid : Prop := cubicTellsRow.holds Try.pinned (OpenSpec.ofChange cubicTellsSpec)

/-- ITS FALSE NEIGHBOUR: 'it returns false'. Refute it at one input. -/
def cubicTellsWrong : ChangeSpec := { name := "cubicTells", fn := fun _ => fun
  | [d1, d2, d3, d4, d5] => { results := [.lit (.bool false)], args := [d1, d2, d3, d4, d5] }
  | _ => none }
def CubicTellsWrongFalsely : Prop := cubicTellsRow.holds Try.pinned (OpenSpec.ofChange cubicTellsWrong)

/-- 'stopcocklaw21.CubicCurve': WHATEVER THE INPUT: true; the input reads as it did. -/
def cubicCurveSpec : ChangeSpec := { name := "cubicCurve", fn := fun _ => fun
  | [d1, d2, d3] => { results := [.lit (.bool true)], args := [d1, d2, d3] }
  | _ => none }
def cubicCurveRow : OpenClaim := { program := "ythkmphngfndebaa", sum := "8f2230afcf4ddfbd55c716091f6b5c4ae6f4ce29613416360a14c3f7cb71ef28", func := "stopcock/stopcocklaw21.CubicCurve", spec := "cubicCurve", apart := false }
def CubicCurveSaid : Prop := cubicCurveRow.holds Try.pinned (OpenSpec.ofChange cubicCurveSpec)

/-- ITS FALSE NEIGHBOUR: 'it returns false'. Refute it at one input. -/
def cubicCurveWrong : ChangeSpec := { name := "cubicCurve", fn := fun _ => fun
  | [d1, d2, d3] => { results := [.lit (.bool false)], args := [d1, d2, d3] }
  | _ => none }
def CubicCurveWrongFalsely : Prop := cubicCurveRow.holds Try.pinned (OpenSpec.ofChange cubicCurveWrong)

/-- 'stopcocklaw21.CubicRises': WHATEVER THE INPUT: true; the input reads as it did. -/
def cubicRisesSpec : ChangeSpec := { name := "cubicRises", fn := fun _ => fun
  | [d1, d2, d3, d4] => { results := [.lit (.bool true)], args := [d1, d2, d3, d4] }
  | _ => none }
def cubicRisesRow : OpenClaim := { program := "ythkmphngfndebaa", sum := "8f2230afcf4ddfbd55c716091f6b5c4ae6f4ce29613416360a14c3f7cb71ef28", func := "stopcock/stopcocklaw21.CubicRises", spec := "cubicRises", apart := false }
def CubicRisesSaid : Prop := cubicRisesRow.holds Try.pinned (OpenSpec.ofChange cubicRisesSpec)

/-- ITS FALSE NEIGHBOUR: 'it returns false'. Refute it at one input. -/
def cubicRisesWrong : ChangeSpec := { name := "cubicRises", fn := fun _ => fun
  | [d1, d2, d3, d4] => { results := [.lit (.bool false)], args := [d1, d2, d3, d4] }
  | _ => none }
def CubicRisesWrongFalsely : Prop := cubicRisesRow.holds Try.pinned (OpenSpec.ofChange cubicRisesWrong)

/-- 'stopcocklaw21.CubicGrows': WHATEVER THE INPUT: true; the input reads as it did. -/
def cubicGrowsSpec : ChangeSpec := { name := "cubicGrows", fn := fun _ => fun
  | [d1, d2, d3, d4, d5] => { results := [.lit (.bool true)], args := [d1, d2, d3, d4, d5] }
  | _ => none }
def cubicGrowsRow : OpenClaim := { program := "ythkmphngfndebaa", sum := "8f2230afcf4ddfbd55c716091f6b5c4ae6f4ce29613416360a14c3f7cb71ef28", func := "stopcock/stopcocklaw21.CubicGrows", spec := "cubicGrows", apart := false }
def CubicGrowsSaid : Prop := cubicGrowsRow.holds Try.pinned (OpenSpec.ofChange cubicGrowsSpec)

/-- ITS FALSE NEIGHBOUR: 'it returns false'. Refute it at one input. -/
def cubicGrowsWrong : ChangeSpec := { name := "cubicGrows", fn := fun _ => fun
  | [d1, d2, d3, d4, d5] => { results := [.lit (.bool false)], args := [d1, d2, d3, d4, d5] }
  | _ => none }
def CubicGrowsWrongFalsely : Prop := cubicGrowsRow.holds Try.pinned (OpenSpec.ofChange cubicGrowsWrong)

/- THE SECOND FORM. 'bulk': how many values and letters a reading holds, each counted each time it is reached (what is shared counts as often as it is met; a slice's spare places count too). A statement '..UptoSaid' is the law's where the arguments, and the package variables that the reading takes, are together of bulk at most 1048576: NARROWER than '..Said'. Prove '..Said' where nothing that the law and all that it calls make is longer than what came in: it says more and counts as full. Else prove '..UptoSaid'. A law counts once. -/
mutual
def uptoBulk {H : Type} : DataW H → Nat
  | .lit (.string bytes) => bytes.length + 1
  | .lit _ => 1
  | .nil => 1
  | .ptr d => uptoBulk d + 1
  | .slice elems spare => uptoBulkAll elems + uptoBulkAll spare + 1
  | .agg parts => uptoBulkAll parts + 1
  | .iface _ d => uptoBulk d + 1
  | .map entries => uptoBulkEntries entries + 1
  | .held _ => 1
def uptoBulkAll {H : Type} : List (DataW H) → Nat
  | [] => 0
  | d :: r => uptoBulk d + uptoBulkAll r
def uptoBulkEntries {H : Type} : List (Lit × DataW H) → Nat
  | [] => 0
  | x :: r => uptoBulkEntry x + uptoBulkEntries r
def uptoBulkEntry {H : Type} : Lit × DataW H → Nat
  | (.string bytes, d) => bytes.length + uptoBulk d + 1
  | (_, d) => uptoBulk d + 1
 end
def uptoSmall : (H : Type) → List (DataW H) → Bool := fun _ ds => decide (uptoBulkAll ds ≤ 1048576)
def OpenSpec.upto (s : _root_.Go.ChangeSpec) : _root_.Go.OpenSpec := { _root_.Go.OpenSpec.ofChange s with cond := some uptoSmall }

/-- 'stopcocklaw21.CubicNumbers', WHERE WHAT IT READS IS OF BULK AT MOST 1048576: true; the input reads as it did. -/
def cubicNumbersUptoRow : OpenClaim := { program := "ythkmphngfndebaa", sum := "8f2230afcf4ddfbd55c716091f6b5c4ae6f4ce29613416360a14c3f7cb71ef28", func := "stopcock/stopcocklaw21.CubicNumbers", spec := "cubicNumbers", apart := false, narrowed := true }
def CubicNumbersUptoSaid : Prop := cubicNumbersUptoRow.holds Try.pinned (OpenSpec.upto cubicNumbersSpec)

/-- 'stopcocklaw21.CubicTells', WHERE WHAT IT READS IS OF BULK AT MOST 1048576: true; the input reads as it did. -/
def cubicTellsUptoRow : OpenClaim := { program := "ythkmphngfndebaa", sum := "8f2230afcf4ddfbd55c716091f6b5c4ae6f4ce29613416360a14c3f7cb71ef28", func := "stopcock/stopcocklaw21.CubicTells", spec := "cubicTells", apart := false, narrowed := true }
def CubicTellsUptoSaid : Prop := cubicTellsUptoRow.holds Try.pinned (OpenSpec.upto cubicTellsSpec)

/-- 'stopcocklaw21.CubicCurve', WHERE WHAT IT READS IS OF BULK AT MOST 1048576: true; the input reads as it did. -/
def cubicCurveUptoRow : OpenClaim := { program := "ythkmphngfndebaa", sum := "8f2230afcf4ddfbd55c716091f6b5c4ae6f4ce29613416360a14c3f7cb71ef28", func := "stopcock/stopcocklaw21.CubicCurve", spec := "cubicCurve", apart := false, narrowed := true }
def CubicCurveUptoSaid : Prop := cubicCurveUptoRow.holds Try.pinned (OpenSpec.upto cubicCurveSpec)

/-- 'stopcocklaw21.CubicRises', WHERE WHAT IT READS IS OF BULK AT MOST 1048576: true; the input reads as it did. -/
def cubicRisesUptoRow : OpenClaim := { program := "ythkmphngfndebaa", sum := "8f2230afcf4ddfbd55c716091f6b5c4ae6f4ce29613416360a14c3f7cb71ef28", func := "stopcock/stopcocklaw21.CubicRises", spec := "cubicRises", apart := false, narrowed := true }
def CubicRisesUptoSaid : Prop := cubicRisesUptoRow.holds Try.pinned (OpenSpec.upto cubicRisesSpec)

/-- 'stopcocklaw21.CubicGrows', WHERE WHAT IT READS IS OF BULK AT MOST 1048576: true; the input reads as it did. -/
def cubicGrowsUptoRow : OpenClaim := { program := "ythkmphngfndebaa", sum := "8f2230afcf4ddfbd55c716091f6b5c4ae6f4ce29613416360a14c3f7cb71ef28", func := "stopcock/stopcocklaw21.CubicGrows", spec := "cubicGrows", apart := false, narrowed := true }
def CubicGrowsUptoSaid : Prop := cubicGrowsUptoRow.holds Try.pinned (OpenSpec.upto cubicGrowsSpec)

end Rows
end Go.Proofs.Ythkmphngfndebaa
