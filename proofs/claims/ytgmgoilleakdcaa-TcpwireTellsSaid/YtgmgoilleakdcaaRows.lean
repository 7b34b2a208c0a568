/-
  No cell of these rows narrows 'for every input' (looked for: loops, veiled, ifaces, maps, wideKeys, modest, calm, conditions, laid).
  DERIVED. THE GIVEN ROWS OF THIS SEAT. 3 by the template 'for every input the law returns true; each argument reads behind the call as it read before'; 0 by the template 'total and deterministic' (their statements: YtgmgoilleakdcaaTotals.lean).
  GIVEN WITH THE SEED: the statements are not yours to turn. If you find one false, say at which input.
  Laid BY PROGRAM, IN A SANDBOX (cutbox-rows.mjs): the forced cells as the released guide's own fill.sh prints them over the translation 05cad2c9019b5c6b… (all of the seat's roots in one cut). By AI agents, Wed Nov 11 2026. No macro, syntax, notation, axiom, sorry.
-/
import Derived.Test.YtgmgoilleakdcaaChecked
import GoSem.Claim
import GoSem.ClaimJoined
import GoSem.ClaimMapViews
import Derived.JoinedTies
import Derived.KernelRfl
namespace Go.Proofs.Ytgmgoilleakdcaa
/- THE CELL 'sum', in the pinned program and in every row, IS THE sha256 OF THE DUMP (.gsa) THAT YtgmgoilleakdcaaProg.lean LOADS. Nothing in Lean hashes anything: it is a label: what it is worth is what the hold of that sum in a sandbox is worth. -/
noncomputable def Try.pinned : Pinned := { name := "ytgmgoilleakdcaa", sum := "05cad2c9019b5c6ba43f16714f4a9e5dd9c8eedc99ac3b3b6e64b474817a1963", checked := Try.checked }
namespace Rows
def none {H : Type} : Left H := { results := [], args := [] }

/-- 'stopcocklaw05.TcpwireTells': WHATEVER THE INPUT: true; the input reads as it did. -/
def tcpwireTellsSpec : ChangeSpec := { name := "tcpwireTells", fn := fun _ => fun
  | [d1, d2, d3, d4] => { results := [.lit (.bool true)], args := [d1, d2, d3, d4] }
  | _ => none }
def tcpwireTellsRow : OpenClaim := { program := "ytgmgoilleakdcaa", sum := "05cad2c9019b5c6ba43f16714f4a9e5dd9c8eedc99ac3b3b6e64b474817a1963", func := "stopcock/stopcocklaw05.TcpwireTells", spec := "tcpwireTells", unfollowed := true, recurses := true, apart := false }
def TcpwireTellsSaid : Prop := tcpwireTellsRow.holds Try.pinned (OpenSpec.ofChange tcpwireTellsSpec)

/-- ITS FALSE NEIGHBOUR: 'it returns false'. Refute it at one input. -/
def tcpwireTellsWrong : ChangeSpec := { name := "tcpwireTells", fn := fun _ => fun
  | [d1, d2, d3, d4] => { results := [.lit (.bool false)], args := [d1, d2, d3, d4] }
  | _ => none }
def TcpwireTellsWrongFalsely : Prop := tcpwireTellsRow.holds Try.pinned (OpenSpec.ofChange tcpwireTellsWrong)

/-- 'stopcocklaw05.TcpwireRepairs': WHATEVER THE INPUT: true; the input reads as it did. -/
def tcpwireRepairsSpec : ChangeSpec := { name := "tcpwireRepairs", fn := fun _ => fun
  | [d1, d2, d3] => { results := [.lit (.bool true)], args := [d1, d2, d3] }
  | _ => none }
def tcpwireRepairsRow : OpenClaim := { program := "ytgmgoilleakdcaa", sum := "05cad2c9019b5c6ba43f16714f4a9e5dd9c8eedc99ac3b3b6e64b474817a1963", func := "stopcock/stopcocklaw05.TcpwireRepairs", spec := "tcpwireRepairs", unfollowed := true, recurses := true, apart := false }
def TcpwireRepairsSaid : Prop := tcpwireRepairsRow.holds Try.pinned (OpenSpec.ofChange tcpwireRepairsSpec)

/-- ITS FALSE NEIGHBOUR: 'it returns false'. Refute it at one input. -/
def tcpwireRepairsWrong : ChangeSpec := { name := "tcpwireRepairs", fn := fun _ => fun
  | [d1, d2, d3] => { results := [.lit (.bool false)], args := [d1, d2, d3] }
  | _ => none }
def TcpwireRepairsWrongFalsely : Prop := tcpwireRepairsRow.holds Try.pinned (OpenSpec.ofChange tcpwireRepairsWrong)

/-- 'stopcocklaw05.TcpwireOptions': WHATEVER THE INPUT: true; the input reads as it did. -/
def tcpwireOptionsSpec : ChangeSpec := { name := "tcpwireOptions", fn := fun _ => fun
  | [d1, d2, d3, d4, d5] => { results := [.lit (.bool true)], args := [d1, d2, d3, d4, d5] }
  | _ => none }
def tcpwireOptionsRow : OpenClaim := { program := "ytgmgoilleakdcaa", sum := "05cad2c9019b5c6ba43f16714f4a9e5dd9c8eedc99ac3b3b6e64b474817a1963", func := "stopcock/stopcocklaw05.TcpwireOptions", spec := "tcpwireOptions", unfollowed := true, recurses := true, apart := false }
def TcpwireOptionsSaid : Prop := tcpwireOptionsRow.holds Try.pinned (OpenSpec.ofChange tcpwireOptionsSpec)

/-- ITS FALSE NEIGHBOUR: 'it returns false'. Refute it at one input. -/
def tcpwireOptionsWrong : ChangeSpec := { name := "tcpwireOptions", fn := fun _ => fun
  | [d1, d2, d3, d4, d5] => { results := [.lit (.bool false)], args := [d1, d2, d3, d4, d5] }
  | _ => none }
def TcpwireOptionsWrongFalsely : Prop := tcpwireOptionsRow.holds Try.pinned (OpenSpec.ofChange tcpwireOptionsWrong)

/- THE SECOND FORM. 'bulk': how many values and letters a reading holds, each counted each time it is reached (what is shared counts as often as it is met; a slice's spare places count too). A statement '..UptoSaid' is the law's where the arguments, and the package variables that the reading takes, are together of bulk at most 1048576: NARROWER than '..Said'. Prove '..Said' where nothing that the law and all that it calls make is longer than what came in: it says more and counts as full. Else prove '..UptoSaid'. A law counts once. -/
mutual
def uptoBulk {H : Type} : DataW H → Nat
  | .lit (.string bytes) => bytes.length + 1
  | .lit _ => 1
  | .nil => 1
  | .ptr d => uptoBulk d + 1
  | .slice elems spare => uptoBulkAll elems + uptoBulkAll spare + 1
  | .agg parts => uptoBulkAll parts + 1
  | .iface _ d => uptoBulk d + 1
  | .map entries => uptoBulkEntries entries + 1
  | .held _ => 1
def uptoBulkAll {H : Type} : List (DataW H) → Nat
  | [] => 0
  | d :: r => uptoBulk d + uptoBulkAll r
def uptoBulkEntries {H : Type} : List (Lit × DataW H) → Nat
  | [] => 0
  | x :: r => uptoBulkEntry x + uptoBulkEntries r
def uptoBulkEntry {H : Type} : Lit × DataW H → Nat
  | (.string bytes, d) => bytes.length + uptoBulk d + 1
  | (_, d) => uptoBulk d + 1
 end
def uptoSmall : (H : Type) → List (DataW H) → Bool := fun _ ds => decide (uptoBulkAll ds ≤ 1048576)
def OpenSpec.upto (s : _root_.Go.ChangeSpec) : _root_.Go.OpenSpec := { _root_.Go.OpenSpec.ofChange s with cond := some uptoSmall }

/-- 'stopcocklaw05.TcpwireTells', WHERE WHAT IT READS IS OF BULK AT MOST 1048576: true; the input reads as it did. -/
def tcpwireTellsUptoRow : OpenClaim := { program := "ytgmgoilleakdcaa", sum := "05cad2c9019b5c6ba43f16714f4a9e5dd9c8eedc99ac3b3b6e64b474817a1963", func := "stopcock/stopcocklaw05.TcpwireTells", spec := "tcpwireTells", unfollowed := true, recurses := true, apart := false, narrowed := true }
def TcpwireTellsUptoSaid : Prop := tcpwireTellsUptoRow.holds Try.pinned (OpenSpec.upto tcpwireTellsSpec)

/-- 'stopcocklaw05.TcpwireRepairs', WHERE WHAT IT READS IS OF BULK AT MOST 1048576: true; the input reads as it did. -/
def tcpwireRepairsUptoRow : OpenClaim := { program := "ytgmgoilleakdcaa", sum := "05cad2c9019b5c6ba43f16714f4a9e5dd9c8eedc99ac3b3b6e64b474817a1963", func := "stopcock/stopcocklaw05.TcpwireRepairs", spec := "tcpwireRepairs", unfollowed := true, recurses := true, apart := false, narrowed := true }
def TcpwireRepairsUptoSaid : Prop := tcpwireRepairsUptoRow.holds Try.pinned (OpenSpec.upto tcpwireRepairsSpec)

/-- 'stopcocklaw05.TcpwireOptions', WHERE WHAT IT READS IS OF BULK AT MOST 1048576: true; the input reads as it did. -/
def tcpwireOptionsUptoRow : OpenClaim := { program := "ytgmgoilleakdcaa", sum := "05cad2c9019b5c6ba43f16714f4a9e5dd9c8eedc99ac3b3b6e64b474817a1963", func := "stopcock/stopcocklaw05.TcpwireOptions", spec := "tcpwireOptions", unfollowed := true, recurses := true, apart := false, narrowed := true }
def TcpwireOptionsUptoSaid : Prop := tcpwireOptionsUptoRow.holds Try.pinned (OpenSpec.upto tcpwireOptionsSpec)

end Rows
end Go.Proofs.Ytgmgoilleakdcaa
