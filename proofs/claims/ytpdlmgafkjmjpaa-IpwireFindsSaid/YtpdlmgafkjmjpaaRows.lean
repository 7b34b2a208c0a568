/-
  No cell of these rows narrows 'for every input' (looked for: loops, veiled, ifaces, maps, wideKeys, modest, calm, conditions, laid).
  DERIVED. THE GIVEN ROWS OF THIS SEAT. 13 by the template 'for every input the law returns true; each argument reads behind the call as it read before'; 0 by the template 'total and deterministic' (their statements: YtpdlmgafkjmjpaaTotals.lean).
  GIVEN WITH THE SEED: the statements are not yours to turn. If you find one false, say at which input.
  Laid BY PROGRAM, IN A SANDBOX (cutbox-rows.mjs): the forced cells as the released guide's own fill.sh prints them over the translation deedb310108b6d6b… (all of the seat's roots in one cut). By AI agents, Wed Nov 11 2026. No macro, syntax, notation, axiom, sorry.
-/
import Derived.Test.YtpdlmgafkjmjpaaChecked
import GoSem.Claim
import GoSem.ClaimJoined
import GoSem.ClaimMapViews
import Derived.JoinedTies
import Derived.KernelRfl
namespace Go.Proofs.Ytpdlmgafkjmjpaa
/- THE CELL 'sum', in the pinned program and in every row, IS THE sha256 OF THE DUMP (.gsa) THAT YtpdlmgafkjmjpaaProg.lean LOADS. Nothing in Lean hashes anything: it is a label: what it is worth is what the hold of that sum in a sandbox is worth. -/
noncomputable def Try.pinned : Pinned := { name := "ytpdlmgafkjmjpaa", sum := "deedb310108b6d6b56df98d75c4a448836bc0e41b4286e5c805d72e135bdeccf", checked := Try.checked }
namespace Rows
def none {H : Type} : Left H := { results := [], args := [] }

/-- 'stopcocklaw04.IpwireAgain': WHATEVER THE INPUT: true; the input reads as it did. -/
def ipwireAgainSpec : ChangeSpec := { name := "ipwireAgain", fn := fun _ => fun
  | [d] => { results := [.lit (.bool true)], args := [d] }
  | _ => none }
def ipwireAgainRow : OpenClaim := { program := "ytpdlmgafkjmjpaa", sum := "deedb310108b6d6b56df98d75c4a448836bc0e41b4286e5c805d72e135bdeccf", func := "stopcock/stopcocklaw04.IpwireAgain", spec := "ipwireAgain", unfollowed := true, recurses := true, apart := false }
def IpwireAgainSaid : Prop := ipwireAgainRow.holds Try.pinned (OpenSpec.ofChange ipwireAgainSpec)

/-- ITS FALSE NEIGHBOUR: 'it returns false'. Refute it at one input. -/
def ipwireAgainWrong : ChangeSpec := { name := "ipwireAgain", fn := fun _ => fun
  | [d] => { results := [.lit (.bool false)], args := [d] }
  | _ => none }
def IpwireAgainWrongFalsely : Prop := ipwireAgainRow.holds Try.pinned (OpenSpec.ofChange ipwireAgainWrong)

/-- 'stopcocklaw04.IpwireFinds': WHATEVER THE INPUT: true; the input reads as it did. -/
def ipwireFindsSpec : ChangeSpec := { name := "ipwireFinds", fn := fun _ => fun
  | [d1, d2] => { results := [.lit (.bool true)], args := [d1, d2] }
  | _ => none }
def ipwireFindsRow : OpenClaim := { program := "ytpdlmgafkjmjpaa", sum := "deedb310108b6d6b56df98d75c4a448836bc0e41b4286e5c805d72e135bdeccf", func := "stopcock/stopcocklaw04.IpwireFinds", spec := "ipwireFinds", unfollowed := true, recurses := true, apart := false }
def IpwireFindsSaid : Prop := ipwireFindsRow.holds Try.pinned (OpenSpec.ofChange ipwireFindsSpec)

/-- ITS FALSE NEIGHBOUR: 'it returns false'. Refute it at one input. -/
def ipwireFindsWrong : ChangeSpec := { name := "ipwireFinds", fn := fun _ => fun
  | [d1, d2] => { results := [.lit (.bool false)], args := [d1, d2] }
  | _ => none }
def IpwireFindsWrongFalsely : Prop := ipwireFindsRow.holds Try.pinned (OpenSpec.ofChange ipwireFindsWrong)

/-- 'stopcocklaw05.TcpwireTells': WHATEVER THE INPUT: true; the input reads as it did. -/
def tcpwireTellsSpec : ChangeSpec := { name := "tcpwireTells", fn := fun _ => fun
  | [d1, d2, d3, d4] => { results := [.lit (.bool true)], args := [d1, d2, d3, d4] }
  | _ => none }
def tcpwireTellsRow : OpenClaim := { program := "ytpdlmgafkjmjpaa", sum := "deedb310108b6d6b56df98d75c4a448836bc0e41b4286e5c805d72e135bdeccf", func := "stopcock/stopcocklaw05.TcpwireTells", spec := "tcpwireTells", unfollowed := true, recurses := true, apart := false }
def TcpwireTellsSaid : Prop := tcpwireTellsRow.holds Try.pinned (OpenSpec.ofChange tcpwireTellsSpec)

/-- ITS FALSE NEIGHBOUR: 'it returns false'. Refute it at one input. -/
def tcpwireTellsWrong : ChangeSpec := { name := "tcpwireTells", fn := fun _ => fun
  | [d1, d2, d3, d4] => { results := [.lit (.bool false)], args := [d1, d2, d3, d4] }
  | _ => none }
def TcpwireTellsWrongFalsely : Prop := tcpwireTellsRow.holds Try.pinned (OpenSpec.ofChange tcpwireTellsWrong)

/-- 'stopcocklaw05.TcpwireRepairs': WHATEVER THE INPUT: true; the input reads as it did. -/
def tcpwireRepairsSpec : ChangeSpec := { name := "tcpwireRepairs", fn := fun _ => fun
  | [d1, d2, d3] => { results := [.lit (.bool true)], args := [d1, d2, d3] }
  | _ => none }
def tcpwireRepairsRow : OpenClaim := { program := "ytpdlmgafkjmjpaa", sum := "deedb310108b6d6b56df98d75c4a448836bc0e41b4286e5c805d72e135bdeccf", func := "stopcock/stopcocklaw05.TcpwireRepairs", spec := "tcpwireRepairs", unfollowed := true, recurses := true, apart := false }
def TcpwireRepairsSaid : Prop := tcpwireRepairsRow.holds Try.pinned (OpenSpec.ofChange tcpwireRepairsSpec)

/-- ITS FALSE NEIGHBOUR: 'it returns false'. Refute it at one input. -/
def tcpwireRepairsWrong : ChangeSpec := { name := "tcpwireRepairs", fn := fun _ => fun
  | [d1, d2, d3] => { results := [.lit (.bool false)], args := [d1, d2, d3] }
  | _ => none }
def TcpwireRepairsWrongFalsely : Prop := tcpwireRepairsRow.holds Try.pinned (OpenSpec.ofChange tcpwireRepairsWrong)

/-- 'stopcocklaw05.TcpwireBack': WHATEVER THE INPUT: true; the input reads as it did. -/
def tcpwireBackSpec : ChangeSpec := { name := "tcpwireBack", fn := fun _ => fun
  | [d1, d2, d3, d4] => { results := [.lit (.bool true)], args := [d1, d2, d3, d4] }
  | _ => none }
def tcpwireBackRow : OpenClaim := { program := "ytpdlmgafkjmjpaa", sum := "deedb310108b6d6b56df98d75c4a448836bc0e41b4286e5c805d72e135bdeccf", func := "stopcock/stopcocklaw05.TcpwireBack", spec := "tcpwireBack", unfollowed := true, recurses := true, apart := false }
def TcpwireBackSaid : Prop := tcpwireBackRow.holds Try.pinned (OpenSpec.ofChange tcpwireBackSpec)

/-- ITS FALSE NEIGHBOUR: 'it returns false'. Refute it at one input. -/
def tcpwireBackWrong : ChangeSpec := { name := "tcpwireBack", fn := fun _ => fun
  | [d1, d2, d3, d4] => { results := [.lit (.bool false)], args := [d1, d2, d3, d4] }
  | _ => none }
def TcpwireBackWrongFalsely : Prop := tcpwireBackRow.holds Try.pinned (OpenSpec.ofChange tcpwireBackWrong)

/-- 'stopcocklaw05.TcpwireFinds': WHATEVER THE INPUT: true; the input reads as it did. -/
def tcpwireFindsSpec : ChangeSpec := { name := "tcpwireFinds", fn := fun _ => fun
  | [d1, d2, d3, d4] => { results := [.lit (.bool true)], args := [d1, d2, d3, d4] }
  | _ => none }
def tcpwireFindsRow : OpenClaim := { program := "ytpdlmgafkjmjpaa", sum := "deedb310108b6d6b56df98d75c4a448836bc0e41b4286e5c805d72e135bdeccf", func := "stopcock/stopcocklaw05.TcpwireFinds", spec := "tcpwireFinds", unfollowed := true, recurses := true, apart := false }
def TcpwireFindsSaid : Prop := tcpwireFindsRow.holds Try.pinned (OpenSpec.ofChange tcpwireFindsSpec)

/-- ITS FALSE NEIGHBOUR: 'it returns false'. Refute it at one input. -/
def tcpwireFindsWrong : ChangeSpec := { name := "tcpwireFinds", fn := fun _ => fun
  | [d1, d2, d3, d4] => { results := [.lit (.bool false)], args := [d1, d2, d3, d4] }
  | _ => none }
def TcpwireFindsWrongFalsely : Prop := tcpwireFindsRow.holds Try.pinned (OpenSpec.ofChange tcpwireFindsWrong)

/-- 'stopcocklaw05.TcpwireOwn': WHATEVER THE INPUT: true; the input reads as it did. -/
def tcpwireOwnSpec : ChangeSpec := { name := "tcpwireOwn", fn := fun _ => fun
  | [d] => { results := [.lit (.bool true)], args := [d] }
  | _ => none }
def tcpwireOwnRow : OpenClaim := { program := "ytpdlmgafkjmjpaa", sum := "deedb310108b6d6b56df98d75c4a448836bc0e41b4286e5c805d72e135bdeccf", func := "stopcock/stopcocklaw05.TcpwireOwn", spec := "tcpwireOwn", unfollowed := true, recurses := true, apart := false }
def TcpwireOwnSaid : Prop := tcpwireOwnRow.holds Try.pinned (OpenSpec.ofChange tcpwireOwnSpec)

/-- ITS FALSE NEIGHBOUR: 'it returns false'. Refute it at one input. -/
def tcpwireOwnWrong : ChangeSpec := { name := "tcpwireOwn", fn := fun _ => fun
  | [d] => { results := [.lit (.bool false)], args := [d] }
  | _ => none }
def TcpwireOwnWrongFalsely : Prop := tcpwireOwnRow.holds Try.pinned (OpenSpec.ofChange tcpwireOwnWrong)

/-- 'stopcocklaw05.TcpwireOptions': WHATEVER THE INPUT: true; the input reads as it did. -/
def tcpwireOptionsSpec : ChangeSpec := { name := "tcpwireOptions", fn := fun _ => fun
  | [d1, d2, d3, d4, d5] => { results := [.lit (.bool true)], args := [d1, d2, d3, d4, d5] }
  | _ => none }
def tcpwireOptionsRow : OpenClaim := { program := "ytpdlmgafkjmjpaa", sum := "deedb310108b6d6b56df98d75c4a448836bc0e41b4286e5c805d72e135bdeccf", func := "stopcock/stopcocklaw05.TcpwireOptions", spec := "tcpwireOptions", unfollowed := true, recurses := true, apart := false }
def TcpwireOptionsSaid : Prop := tcpwireOptionsRow.holds Try.pinned (OpenSpec.ofChange tcpwireOptionsSpec)

/-- ITS FALSE NEIGHBOUR: 'it returns false'. Refute it at one input. -/
def tcpwireOptionsWrong : ChangeSpec := { name := "tcpwireOptions", fn := fun _ => fun
  | [d1, d2, d3, d4, d5] => { results := [.lit (.bool false)], args := [d1, d2, d3, d4, d5] }
  | _ => none }
def TcpwireOptionsWrongFalsely : Prop := tcpwireOptionsRow.holds Try.pinned (OpenSpec.ofChange tcpwireOptionsWrong)

/-- 'stopcocklaw07.ToeplitzTells': WHATEVER THE INPUT: true; the input reads as it did. -/
def toeplitzTellsSpec : ChangeSpec := { name := "toeplitzTells", fn := fun _ => fun
  | [d1, d2, d3, d4, d5, d6, d7] => { results := [.lit (.bool true)], args := [d1, d2, d3, d4, d5, d6, d7] }
  | _ => none }
def toeplitzTellsRow : OpenClaim := { program := "ytpdlmgafkjmjpaa", sum := "deedb310108b6d6b56df98d75c4a448836bc0e41b4286e5c805d72e135bdeccf", func := "stopcock/stopcocklaw07.ToeplitzTells", spec := "toeplitzTells", apart := false }
def ToeplitzTellsSaid : Prop := toeplitzTellsRow.holds Try.pinned (OpenSpec.ofChange toeplitzTellsSpec)

/-- ITS FALSE NEIGHBOUR: 'it returns false'. Refute it at one input. -/
def toeplitzTellsWrong : ChangeSpec := { name := "toeplitzTells", fn := fun _ => fun
  | [d1, d2, d3, d4, d5, d6, d7] => { results := [.lit (.bool false)], args := [d1, d2, d3, d4, d5, d6, d7] }
  | _ => none }
def ToeplitzTellsWrongFalsely : Prop := toeplitzTellsRow.holds Try.pinned (OpenSpec.ofChange toeplitzTellsWrong)

/-- 'stopcocklaw07.ToeplitzPorts': WHATEVER THE INPUT: true; the input reads as it did. -/
def toeplitzPortsSpec : ChangeSpec := { name := "toeplitzPorts", fn := fun _ => fun
  | [d1, d2, d3] => { results := [.lit (.bool true)], args := [d1, d2, d3] }
  | _ => none }
def toeplitzPortsRow : OpenClaim := { program := "ytpdlmgafkjmjpaa", sum := "deedb310108b6d6b56df98d75c4a448836bc0e41b4286e5c805d72e135bdeccf", func := "stopcock/stopcocklaw07.ToeplitzPorts", spec := "toeplitzPorts", unfollowed := true, recurses := true, apart := false }
def ToeplitzPortsSaid : Prop := toeplitzPortsRow.holds Try.pinned (OpenSpec.ofChange toeplitzPortsSpec)

/-- ITS FALSE NEIGHBOUR: 'it returns false'. Refute it at one input. -/
def toeplitzPortsWrong : ChangeSpec := { name := "toeplitzPorts", fn := fun _ => fun
  | [d1, d2, d3] => { results := [.lit (.bool false)], args := [d1, d2, d3] }
  | _ => none }
def ToeplitzPortsWrongFalsely : Prop := toeplitzPortsRow.holds Try.pinned (OpenSpec.ofChange toeplitzPortsWrong)

/-- 'stopcocklaw07.ToeplitzLinear': WHATEVER THE INPUT: true; the input reads as it did. -/
def toeplitzLinearSpec : ChangeSpec := { name := "toeplitzLinear", fn := fun _ => fun
  | [d1, d2, d3] => { results := [.lit (.bool true)], args := [d1, d2, d3] }
  | _ => none }
def toeplitzLinearRow : OpenClaim := { program := "ytpdlmgafkjmjpaa", sum := "deedb310108b6d6b56df98d75c4a448836bc0e41b4286e5c805d72e135bdeccf", func := "stopcock/stopcocklaw07.ToeplitzLinear", spec := "toeplitzLinear", apart := false }
def ToeplitzLinearSaid : Prop := toeplitzLinearRow.holds Try.pinned (OpenSpec.ofChange toeplitzLinearSpec)

/-- ITS FALSE NEIGHBOUR: 'it returns false'. Refute it at one input. -/
def toeplitzLinearWrong : ChangeSpec := { name := "toeplitzLinear", fn := fun _ => fun
  | [d1, d2, d3] => { results := [.lit (.bool false)], args := [d1, d2, d3] }
  | _ => none }
def ToeplitzLinearWrongFalsely : Prop := toeplitzLinearRow.holds Try.pinned (OpenSpec.ofChange toeplitzLinearWrong)

/-- 'stopcocklaw07.ToeplitzOwns': WHATEVER THE INPUT: true; the input reads as it did. -/
def toeplitzOwnsSpec : ChangeSpec := { name := "toeplitzOwns", fn := fun _ => fun
  | [d1, d2, d3] => { results := [.lit (.bool true)], args := [d1, d2, d3] }
  | _ => none }
def toeplitzOwnsRow : OpenClaim := { program := "ytpdlmgafkjmjpaa", sum := "deedb310108b6d6b56df98d75c4a448836bc0e41b4286e5c805d72e135bdeccf", func := "stopcock/stopcocklaw07.ToeplitzOwns", spec := "toeplitzOwns", unfollowed := true, recurses := true, apart := false }
def ToeplitzOwnsSaid : Prop := toeplitzOwnsRow.holds Try.pinned (OpenSpec.ofChange toeplitzOwnsSpec)

/-- ITS FALSE NEIGHBOUR: 'it returns false'. Refute it at one input. -/
def toeplitzOwnsWrong : ChangeSpec := { name := "toeplitzOwns", fn := fun _ => fun
  | [d1, d2, d3] => { results := [.lit (.bool false)], args := [d1, d2, d3] }
  | _ => none }
def ToeplitzOwnsWrongFalsely : Prop := toeplitzOwnsRow.holds Try.pinned (OpenSpec.ofChange toeplitzOwnsWrong)

/-- 'stopcocklaw07.ToeplitzOwn': WHATEVER THE INPUT: true; the input reads as it did. -/
def toeplitzOwnSpec : ChangeSpec := { name := "toeplitzOwn", fn := fun _ => fun
  | [d1, d2] => { results := [.lit (.bool true)], args := [d1, d2] }
  | _ => none }
def toeplitzOwnRow : OpenClaim := { program := "ytpdlmgafkjmjpaa", sum := "deedb310108b6d6b56df98d75c4a448836bc0e41b4286e5c805d72e135bdeccf", func := "stopcock/stopcocklaw07.ToeplitzOwn", spec := "toeplitzOwn", apart := false }
def ToeplitzOwnSaid : Prop := toeplitzOwnRow.holds Try.pinned (OpenSpec.ofChange toeplitzOwnSpec)

/-- ITS FALSE NEIGHBOUR: 'it returns false'. Refute it at one input. -/
def toeplitzOwnWrong : ChangeSpec := { name := "toeplitzOwn", fn := fun _ => fun
  | [d1, d2] => { results := [.lit (.bool false)], args := [d1, d2] }
  | _ => none }
def ToeplitzOwnWrongFalsely : Prop := toeplitzOwnRow.holds Try.pinned (OpenSpec.ofChange toeplitzOwnWrong)

/- THE SECOND FORM. 'bulk': how many values and letters a reading holds, each counted each time it is reached (what is shared counts as often as it is met; a slice's spare places count too). A statement '..UptoSaid' is the law's where the arguments, and the package variables that the reading takes, are together of bulk at most 1048576: NARROWER than '..Said'. Prove '..Said' where nothing that the law and all that it calls make is longer than what came in: it says more and counts as full. Else prove '..UptoSaid'. A law counts once. -/
mutual
def uptoBulk {H : Type} : DataW H → Nat
  | .lit (.string bytes) => bytes.length + 1
  | .lit _ => 1
  | .nil => 1
  | .ptr d => uptoBulk d + 1
  | .slice elems spare => uptoBulkAll elems + uptoBulkAll spare + 1
  | .agg parts => uptoBulkAll parts + 1
  | .iface _ d => uptoBulk d + 1
  | .map entries => uptoBulkEntries entries + 1
  | .held _ => 1
def uptoBulkAll {H : Type} : List (DataW H) → Nat
  | [] => 0
  | d :: r => uptoBulk d + uptoBulkAll r
def uptoBulkEntries {H : Type} : List (Lit × DataW H) → Nat
  | [] => 0
  | x :: r => uptoBulkEntry x + uptoBulkEntries r
def uptoBulkEntry {H : Type} : Lit × DataW H → Nat
  | (.string bytes, d) => bytes.length + uptoBulk d + 1
  | (_, d) => uptoBulk d + 1
 end
def uptoSmall : (H : Type) → List (DataW H) → Bool := fun _ ds => decide (uptoBulkAll ds ≤ 1048576)
def OpenSpec.upto (s : _root_.Go.ChangeSpec) : _root_.Go.OpenSpec := { _root_.Go.OpenSpec.ofChange s with cond := some uptoSmall }

/-- 'stopcocklaw04.IpwireAgain', WHERE WHAT IT READS IS OF BULK AT MOST 1048576: true; the input reads as it did. -/
def ipwireAgainUptoRow : OpenClaim := { program := "ytpdlmgafkjmjpaa", sum := "deedb310108b6d6b56df98d75c4a448836bc0e41b4286e5c805d72e135bdeccf", func := "stopcock/stopcocklaw04.IpwireAgain", spec := "ipwireAgain", unfollowed := true, recurses := true, apart := false, narrowed := true }
def IpwireAgainUptoSaid : Prop := ipwireAgainUptoRow.holds Try.pinned (OpenSpec.upto ipwireAgainSpec)

/-- 'stopcocklaw04.IpwireFinds', WHERE WHAT IT READS IS OF BULK AT MOST 1048576: true; the input reads as it did. -/
def ipwireFindsUptoRow : OpenClaim := { program := "ytpdlmgafkjmjpaa", sum := "deedb310108b6d6b56df98d75c4a448836bc0e41b4286e5c805d72e135bdeccf", func := "stopcock/stopcocklaw04.IpwireFinds", spec := "ipwireFinds", unfollowed := true, recurses := true, apart := false, narrowed := true }
def IpwireFindsUptoSaid : Prop := ipwireFindsUptoRow.holds Try.pinned (OpenSpec.upto ipwireFindsSpec)

/-- 'stopcocklaw05.TcpwireTells', WHERE WHAT IT READS IS OF BULK AT MOST 1048576: true; the input reads as it did. -/
def tcpwireTellsUptoRow : OpenClaim := { program := "ytpdlmgafkjmjpaa", sum := "deedb310108b6d6b56df98d75c4a448836bc0e41b4286e5c805d72e135bdeccf", func := "stopcock/stopcocklaw05.TcpwireTells", spec := "tcpwireTells", unfollowed := true, recurses := true, apart := false, narrowed := true }
def TcpwireTellsUptoSaid : Prop := tcpwireTellsUptoRow.holds Try.pinned (OpenSpec.upto tcpwireTellsSpec)

/-- 'stopcocklaw05.TcpwireRepairs', WHERE WHAT IT READS IS OF BULK AT MOST 1048576: true; the input reads as it did. -/
def tcpwireRepairsUptoRow : OpenClaim := { program := "ytpdlmgafkjmjpaa", sum := "deedb310108b6d6b56df98d75c4a448836bc0e41b4286e5c805d72e135bdeccf", func := "stopcock/stopcocklaw05.TcpwireRepairs", spec := "tcpwireRepairs", unfollowed := true, recurses := true, apart := false, narrowed := true }
def TcpwireRepairsUptoSaid : Prop := tcpwireRepairsUptoRow.holds Try.pinned (OpenSpec.upto tcpwireRepairsSpec)

/-- 'stopcocklaw05.TcpwireBack', WHERE WHAT IT READS IS OF BULK AT MOST 1048576: true; the input reads as it did. -/
def tcpwireBackUptoRow : OpenClaim := { program := "ytpdlmgafkjmjpaa", sum := "deedb310108b6d6b56df98d75c4a448836bc0e41b4286e5c805d72e135bdeccf", func := "stopcock/stopcocklaw05.TcpwireBack", spec := "tcpwireBack", unfollowed := true, recurses := true, apart := false, narrowed := true }
def TcpwireBackUptoSaid : Prop := tcpwireBackUptoRow.holds Try.pinned (OpenSpec.upto tcpwireBackSpec)

/-- 'stopcocklaw05.TcpwireFinds', WHERE WHAT IT READS IS OF BULK AT MOST 1048576: true; the input reads as it did. -/
def tcpwireFindsUptoRow : OpenClaim := { program := "ytpdlmgafkjmjpaa", sum := "deedb310108b6d6b56df98d75c4a448836bc0e41b4286e5c805d72e135bdeccf", func := "stopcock/stopcocklaw05.TcpwireFinds", spec := "tcpwireFinds", unfollowed := true, recurses := true, apart := false, narrowed := true }
def TcpwireFindsUptoSaid : Prop := tcpwireFindsUptoRow.holds Try.pinned (OpenSpec.upto tcpwireFindsSpec)

/-- 'stopcocklaw05.TcpwireOwn', WHERE WHAT IT READS IS OF BULK AT MOST 1048576: true; the input reads as it did. -/
def tcpwireOwnUptoRow : OpenClaim := { program := "ytpdlmgafkjmjpaa", sum := "deedb310108b6d6b56df98d75c4a448836bc0e41b4286e5c805d72e135bdeccf", func := "stopcock/stopcocklaw05.TcpwireOwn", spec := "tcpwireOwn", unfollowed := true, recurses := true, apart := false, narrowed := true }
def TcpwireOwnUptoSaid : Prop := tcpwireOwnUptoRow.holds Try.pinned (OpenSpec.upto tcpwireOwnSpec)

/-- 'stopcocklaw05.TcpwireOptions', WHERE WHAT IT READS IS OF BULK AT MOST 1048576: true; the input reads as it did. -/
def tcpwireOptionsUptoRow : OpenClaim := { program := "ytpdlmgafkjmjpaa", sum := "deedb310108b6d6b56df98d75c4a448836bc0e41b4286e5c805d72e135bdeccf", func := "stopcock/stopcocklaw05.TcpwireOptions", spec := "tcpwireOptions", unfollowed := true, recurses := true, apart := false, narrowed := true }
def TcpwireOptionsUptoSaid : Prop := tcpwireOptionsUptoRow.holds Try.pinned (OpenSpec.upto tcpwireOptionsSpec)

/-- 'stopcocklaw07.ToeplitzTells', WHERE WHAT IT READS IS OF BULK AT MOST 1048576: true; the input reads as it did. -/
def toeplitzTellsUptoRow : OpenClaim := { program := "ytpdlmgafkjmjpaa", sum := "deedb310108b6d6b56df98d75c4a448836bc0e41b4286e5c805d72e135bdeccf", func := "stopcock/stopcocklaw07.ToeplitzTells", spec := "toeplitzTells", apart := false, narrowed := true }
def ToeplitzTellsUptoSaid : Prop := toeplitzTellsUptoRow.holds Try.pinned (OpenSpec.upto toeplitzTellsSpec)

/-- 'stopcocklaw07.ToeplitzPorts', WHERE WHAT IT READS IS OF BULK AT MOST 1048576: true; the input reads as it did. -/
def toeplitzPortsUptoRow : OpenClaim := { program := "ytpdlmgafkjmjpaa", sum := "deedb310108b6d6b56df98d75c4a448836bc0e41b4286e5c805d72e135bdeccf", func := "stopcock/stopcocklaw07.ToeplitzPorts", spec := "toeplitzPorts", unfollowed := true, recurses := true, apart := false, narrowed := true }
def ToeplitzPortsUptoSaid : Prop := toeplitzPortsUptoRow.holds Try.pinned (OpenSpec.upto toeplitzPortsSpec)

/-- 'stopcocklaw07.ToeplitzLinear', WHERE WHAT IT READS IS OF BULK AT MOST 1048576: true; the input reads as it did. -/
def toeplitzLinearUptoRow : OpenClaim := { program := "ytpdlmgafkjmjpaa", sum := "deedb310108b6d6b56df98d75c4a448836bc0e41b4286e5c805d72e135bdeccf", func := "stopcock/stopcocklaw07.ToeplitzLinear", spec := "toeplitzLinear", apart := false, narrowed := true }
def ToeplitzLinearUptoSaid : Prop := toeplitzLinearUptoRow.holds Try.pinned (OpenSpec.upto toeplitzLinearSpec)

/-- 'stopcocklaw07.ToeplitzOwns', WHERE WHAT IT READS IS OF BULK AT MOST 1048576: true; the input reads as it did. -/
def toeplitzOwnsUptoRow : OpenClaim := { program := "ytpdlmgafkjmjpaa", sum := "deedb310108b6d6b56df98d75c4a448836bc0e41b4286e5c805d72e135bdeccf", func := "stopcock/stopcocklaw07.ToeplitzOwns", spec := "toeplitzOwns", unfollowed := true, recurses := true, apart := false, narrowed := true }
def ToeplitzOwnsUptoSaid : Prop := toeplitzOwnsUptoRow.holds Try.pinned (OpenSpec.upto toeplitzOwnsSpec)

/-- 'stopcocklaw07.ToeplitzOwn', WHERE WHAT IT READS IS OF BULK AT MOST 1048576: true; the input reads as it did. -/
def toeplitzOwnUptoRow : OpenClaim := { program := "ytpdlmgafkjmjpaa", sum := "deedb310108b6d6b56df98d75c4a448836bc0e41b4286e5c805d72e135bdeccf", func := "stopcock/stopcocklaw07.ToeplitzOwn", spec := "toeplitzOwn", apart := false, narrowed := true }
def ToeplitzOwnUptoSaid : Prop := toeplitzOwnUptoRow.holds Try.pinned (OpenSpec.upto toeplitzOwnSpec)

end Rows
end Go.Proofs.Ytpdlmgafkjmjpaa
