/-
  No cell of these rows narrows 'for every input' (looked for: loops, veiled, ifaces, maps, wideKeys, modest, calm, conditions, laid).
  DERIVED. THE GIVEN ROWS OF THIS SEAT. 13 by the template 'for every input the law returns true; each argument reads behind the call as it read before'; 0 by the template 'total and deterministic' (their statements: YtdiomelldhkibaaTotals.lean).
  GIVEN WITH THE SEED: the statements are not yours to turn. If you find one false, say at which input.
  Laid BY PROGRAM, IN A SANDBOX (cutbox-rows.mjs): the forced cells as the released guide's own fill.sh prints them over the translation d79e08834c7176ab… (all of the seat's roots in one cut). By AI agents, Wed Nov 11 2026. No macro, syntax, notation, axiom, sorry.
-/
import Derived.Test.YtdiomelldhkibaaChecked
import GoSem.Claim
import GoSem.ClaimJoined
import GoSem.ClaimMapViews
import Derived.JoinedTies
import Derived.KernelRfl
namespace Go.Proofs.Ytdiomelldhkibaa
/- THE CELL 'sum', in the pinned program and in every row, IS THE sha256 OF THE DUMP (.gsa) THAT YtdiomelldhkibaaProg.lean LOADS. Nothing in Lean hashes anything: it is a label: what it is worth is what the hold of that sum in a sandbox is worth. -/
noncomputable def Try.pinned : Pinned := { name := "ytdiomelldhkibaa", sum := "d79e08834c7176abdbf4666f952fe1b5fad4bd9c941e0d0973970f023e17ee68", checked := Try.checked }
namespace Rows
def none {H : Type} : Left H := { results := [], args := [] }

/-- 'stopcocklaw03.EtherTells': WHATEVER THE INPUT: true; the input reads as it did. -/
def etherTellsSpec : ChangeSpec := { name := "etherTells", fn := fun _ => fun
  | [d1, d2, d3] => { results := [.lit (.bool true)], args := [d1, d2, d3] }
  | _ => none }
def etherTellsRow : OpenClaim := { program := "ytdiomelldhkibaa", sum := "d79e08834c7176abdbf4666f952fe1b5fad4bd9c941e0d0973970f023e17ee68", func := "stopcock/stopcocklaw03.EtherTells", spec := "etherTells", apart := false }
def EtherTellsSaid : Prop := etherTellsRow.holds Try.pinned (OpenSpec.ofChange etherTellsSpec)

/-- ITS FALSE NEIGHBOUR: 'it returns false'. Refute it at one input. -/
def etherTellsWrong : ChangeSpec := { name := "etherTells", fn := fun _ => fun
  | [d1, d2, d3] => { results := [.lit (.bool false)], args := [d1, d2, d3] }
  | _ => none }
def EtherTellsWrongFalsely : Prop := etherTellsRow.holds Try.pinned (OpenSpec.ofChange etherTellsWrong)

/-- 'stopcocklaw03.EtherBack': WHATEVER THE INPUT: true; the input reads as it did. -/
def etherBackSpec : ChangeSpec := { name := "etherBack", fn := fun _ => fun
  | [d1, d2, d3] => { results := [.lit (.bool true)], args := [d1, d2, d3] }
  | _ => none }
def etherBackRow : OpenClaim := { program := "ytdiomelldhkibaa", sum := "d79e08834c7176abdbf4666f952fe1b5fad4bd9c941e0d0973970f023e17ee68", func := "stopcock/stopcocklaw03.EtherBack", spec := "etherBack", apart := false }
def EtherBackSaid : Prop := etherBackRow.holds Try.pinned (OpenSpec.ofChange etherBackSpec)

/-- ITS FALSE NEIGHBOUR: 'it returns false'. Refute it at one input. -/
def etherBackWrong : ChangeSpec := { name := "etherBack", fn := fun _ => fun
  | [d1, d2, d3] => { results := [.lit (.bool false)], args := [d1, d2, d3] }
  | _ => none }
def EtherBackWrongFalsely : Prop := etherBackRow.holds Try.pinned (OpenSpec.ofChange etherBackWrong)

/-- 'stopcocklaw03.EtherOwn': WHATEVER THE INPUT: true; the input reads as it did. -/
def etherOwnSpec : ChangeSpec := { name := "etherOwn", fn := fun _ => fun
  | [d] => { results := [.lit (.bool true)], args := [d] }
  | _ => none }
def etherOwnRow : OpenClaim := { program := "ytdiomelldhkibaa", sum := "d79e08834c7176abdbf4666f952fe1b5fad4bd9c941e0d0973970f023e17ee68", func := "stopcock/stopcocklaw03.EtherOwn", spec := "etherOwn", apart := false }
def EtherOwnSaid : Prop := etherOwnRow.holds Try.pinned (OpenSpec.ofChange etherOwnSpec)

/-- ITS FALSE NEIGHBOUR: 'it returns false'. Refute it at one input. -/
def etherOwnWrong : ChangeSpec := { name := "etherOwn", fn := fun _ => fun
  | [d] => { results := [.lit (.bool false)], args := [d] }
  | _ => none }
def EtherOwnWrongFalsely : Prop := etherOwnRow.holds Try.pinned (OpenSpec.ofChange etherOwnWrong)

/-- 'stopcocklaw04.IpwireBack': WHATEVER THE INPUT: true; the input reads as it did. -/
def ipwireBackSpec : ChangeSpec := { name := "ipwireBack", fn := fun _ => fun
  | [d1, d2] => { results := [.lit (.bool true)], args := [d1, d2] }
  | _ => none }
def ipwireBackRow : OpenClaim := { program := "ytdiomelldhkibaa", sum := "d79e08834c7176abdbf4666f952fe1b5fad4bd9c941e0d0973970f023e17ee68", func := "stopcock/stopcocklaw04.IpwireBack", spec := "ipwireBack", unfollowed := true, recurses := true, apart := false }
def IpwireBackSaid : Prop := ipwireBackRow.holds Try.pinned (OpenSpec.ofChange ipwireBackSpec)

/-- ITS FALSE NEIGHBOUR: 'it returns false'. Refute it at one input. -/
def ipwireBackWrong : ChangeSpec := { name := "ipwireBack", fn := fun _ => fun
  | [d1, d2] => { results := [.lit (.bool false)], args := [d1, d2] }
  | _ => none }
def IpwireBackWrongFalsely : Prop := ipwireBackRow.holds Try.pinned (OpenSpec.ofChange ipwireBackWrong)

/-- 'stopcocklaw04.IpwireAgain': WHATEVER THE INPUT: true; the input reads as it did. -/
def ipwireAgainSpec : ChangeSpec := { name := "ipwireAgain", fn := fun _ => fun
  | [d] => { results := [.lit (.bool true)], args := [d] }
  | _ => none }
def ipwireAgainRow : OpenClaim := { program := "ytdiomelldhkibaa", sum := "d79e08834c7176abdbf4666f952fe1b5fad4bd9c941e0d0973970f023e17ee68", func := "stopcock/stopcocklaw04.IpwireAgain", spec := "ipwireAgain", unfollowed := true, recurses := true, apart := false }
def IpwireAgainSaid : Prop := ipwireAgainRow.holds Try.pinned (OpenSpec.ofChange ipwireAgainSpec)

/-- ITS FALSE NEIGHBOUR: 'it returns false'. Refute it at one input. -/
def ipwireAgainWrong : ChangeSpec := { name := "ipwireAgain", fn := fun _ => fun
  | [d] => { results := [.lit (.bool false)], args := [d] }
  | _ => none }
def IpwireAgainWrongFalsely : Prop := ipwireAgainRow.holds Try.pinned (OpenSpec.ofChange ipwireAgainWrong)

/-- 'stopcocklaw04.IpwireFinds': WHATEVER THE INPUT: true; the input reads as it did. -/
def ipwireFindsSpec : ChangeSpec := { name := "ipwireFinds", fn := fun _ => fun
  | [d1, d2] => { results := [.lit (.bool true)], args := [d1, d2] }
  | _ => none }
def ipwireFindsRow : OpenClaim := { program := "ytdiomelldhkibaa", sum := "d79e08834c7176abdbf4666f952fe1b5fad4bd9c941e0d0973970f023e17ee68", func := "stopcock/stopcocklaw04.IpwireFinds", spec := "ipwireFinds", unfollowed := true, recurses := true, apart := false }
def IpwireFindsSaid : Prop := ipwireFindsRow.holds Try.pinned (OpenSpec.ofChange ipwireFindsSpec)

/-- ITS FALSE NEIGHBOUR: 'it returns false'. Refute it at one input. -/
def ipwireFindsWrong : ChangeSpec := { name := "ipwireFinds", fn := fun _ => fun
  | [d1, d2] => { results := [.lit (.bool false)], args := [d1, d2] }
  | _ => none }
def IpwireFindsWrongFalsely : Prop := ipwireFindsRow.holds Try.pinned (OpenSpec.ofChange ipwireFindsWrong)

/-- 'stopcocklaw04.IpwireOwn': WHATEVER THE INPUT: true; the input reads as it did. -/
def ipwireOwnSpec : ChangeSpec := { name := "ipwireOwn", fn := fun _ => fun
  | [d1, d2] => { results := [.lit (.bool true)], args := [d1, d2] }
  | _ => none }
def ipwireOwnRow : OpenClaim := { program := "ytdiomelldhkibaa", sum := "d79e08834c7176abdbf4666f952fe1b5fad4bd9c941e0d0973970f023e17ee68", func := "stopcock/stopcocklaw04.IpwireOwn", spec := "ipwireOwn", unfollowed := true, recurses := true, apart := false }
def IpwireOwnSaid : Prop := ipwireOwnRow.holds Try.pinned (OpenSpec.ofChange ipwireOwnSpec)

/-- ITS FALSE NEIGHBOUR: 'it returns false'. Refute it at one input. -/
def ipwireOwnWrong : ChangeSpec := { name := "ipwireOwn", fn := fun _ => fun
  | [d1, d2] => { results := [.lit (.bool false)], args := [d1, d2] }
  | _ => none }
def IpwireOwnWrongFalsely : Prop := ipwireOwnRow.holds Try.pinned (OpenSpec.ofChange ipwireOwnWrong)

/-- 'stopcocklaw05.TcpwireTells': WHATEVER THE INPUT: true; the input reads as it did. -/
def tcpwireTellsSpec : ChangeSpec := { name := "tcpwireTells", fn := fun _ => fun
  | [d1, d2, d3, d4] => { results := [.lit (.bool true)], args := [d1, d2, d3, d4] }
  | _ => none }
def tcpwireTellsRow : OpenClaim := { program := "ytdiomelldhkibaa", sum := "d79e08834c7176abdbf4666f952fe1b5fad4bd9c941e0d0973970f023e17ee68", func := "stopcock/stopcocklaw05.TcpwireTells", spec := "tcpwireTells", unfollowed := true, recurses := true, apart := false }
def TcpwireTellsSaid : Prop := tcpwireTellsRow.holds Try.pinned (OpenSpec.ofChange tcpwireTellsSpec)

/-- ITS FALSE NEIGHBOUR: 'it returns false'. Refute it at one input. -/
def tcpwireTellsWrong : ChangeSpec := { name := "tcpwireTells", fn := fun _ => fun
  | [d1, d2, d3, d4] => { results := [.lit (.bool false)], args := [d1, d2, d3, d4] }
  | _ => none }
def TcpwireTellsWrongFalsely : Prop := tcpwireTellsRow.holds Try.pinned (OpenSpec.ofChange tcpwireTellsWrong)

/-- 'stopcocklaw05.TcpwireRepairs': WHATEVER THE INPUT: true; the input reads as it did. -/
def tcpwireRepairsSpec : ChangeSpec := { name := "tcpwireRepairs", fn := fun _ => fun
  | [d1, d2, d3] => { results := [.lit (.bool true)], args := [d1, d2, d3] }
  | _ => none }
def tcpwireRepairsRow : OpenClaim := { program := "ytdiomelldhkibaa", sum := "d79e08834c7176abdbf4666f952fe1b5fad4bd9c941e0d0973970f023e17ee68", func := "stopcock/stopcocklaw05.TcpwireRepairs", spec := "tcpwireRepairs", unfollowed := true, recurses := true, apart := false }
def TcpwireRepairsSaid : Prop := tcpwireRepairsRow.holds Try.pinned (OpenSpec.ofChange tcpwireRepairsSpec)

/-- ITS FALSE NEIGHBOUR: 'it returns false'. Refute it at one input. -/
def tcpwireRepairsWrong : ChangeSpec := { name := "tcpwireRepairs", fn := fun _ => fun
  | [d1, d2, d3] => { results := [.lit (.bool false)], args := [d1, d2, d3] }
  | _ => none }
def TcpwireRepairsWrongFalsely : Prop := tcpwireRepairsRow.holds Try.pinned (OpenSpec.ofChange tcpwireRepairsWrong)

/-- 'stopcocklaw05.TcpwireBack': WHATEVER THE INPUT: true; the input reads as it did. -/
def tcpwireBackSpec : ChangeSpec := { name := "tcpwireBack", fn := fun _ => fun
  | [d1, d2, d3, d4] => { results := [.lit (.bool true)], args := [d1, d2, d3, d4] }
  | _ => none }
def tcpwireBackRow : OpenClaim := { program := "ytdiomelldhkibaa", sum := "d79e08834c7176abdbf4666f952fe1b5fad4bd9c941e0d0973970f023e17ee68", func := "stopcock/stopcocklaw05.TcpwireBack", spec := "tcpwireBack", unfollowed := true, recurses := true, apart := false }
def TcpwireBackSaid : Prop := tcpwireBackRow.holds Try.pinned (OpenSpec.ofChange tcpwireBackSpec)

/-- ITS FALSE NEIGHBOUR: 'it returns false'. Refute it at one input. -/
def tcpwireBackWrong : ChangeSpec := { name := "tcpwireBack", fn := fun _ => fun
  | [d1, d2, d3, d4] => { results := [.lit (.bool false)], args := [d1, d2, d3, d4] }
  | _ => none }
def TcpwireBackWrongFalsely : Prop := tcpwireBackRow.holds Try.pinned (OpenSpec.ofChange tcpwireBackWrong)

/-- 'stopcocklaw05.TcpwireFinds': WHATEVER THE INPUT: true; the input reads as it did. -/
def tcpwireFindsSpec : ChangeSpec := { name := "tcpwireFinds", fn := fun _ => fun
  | [d1, d2, d3, d4] => { results := [.lit (.bool true)], args := [d1, d2, d3, d4] }
  | _ => none }
def tcpwireFindsRow : OpenClaim := { program := "ytdiomelldhkibaa", sum := "d79e08834c7176abdbf4666f952fe1b5fad4bd9c941e0d0973970f023e17ee68", func := "stopcock/stopcocklaw05.TcpwireFinds", spec := "tcpwireFinds", unfollowed := true, recurses := true, apart := false }
def TcpwireFindsSaid : Prop := tcpwireFindsRow.holds Try.pinned (OpenSpec.ofChange tcpwireFindsSpec)

/-- ITS FALSE NEIGHBOUR: 'it returns false'. Refute it at one input. -/
def tcpwireFindsWrong : ChangeSpec := { name := "tcpwireFinds", fn := fun _ => fun
  | [d1, d2, d3, d4] => { results := [.lit (.bool false)], args := [d1, d2, d3, d4] }
  | _ => none }
def TcpwireFindsWrongFalsely : Prop := tcpwireFindsRow.holds Try.pinned (OpenSpec.ofChange tcpwireFindsWrong)

/-- 'stopcocklaw05.TcpwireOwn': WHATEVER THE INPUT: true; the input reads as it did. -/
def tcpwireOwnSpec : ChangeSpec := { name := "tcpwireOwn", fn := fun _ => fun
  | [d] => { results := [.lit (.bool true)], args := [d] }
  | _ => none }
def tcpwireOwnRow : OpenClaim := { program := "ytdiomelldhkibaa", sum := "d79e08834c7176abdbf4666f952fe1b5fad4bd9c941e0d0973970f023e17ee68", func := "stopcock/stopcocklaw05.TcpwireOwn", spec := "tcpwireOwn", unfollowed := true, recurses := true, apart := false }
def TcpwireOwnSaid : Prop := tcpwireOwnRow.holds Try.pinned (OpenSpec.ofChange tcpwireOwnSpec)

/-- ITS FALSE NEIGHBOUR: 'it returns false'. Refute it at one input. -/
def tcpwireOwnWrong : ChangeSpec := { name := "tcpwireOwn", fn := fun _ => fun
  | [d] => { results := [.lit (.bool false)], args := [d] }
  | _ => none }
def TcpwireOwnWrongFalsely : Prop := tcpwireOwnRow.holds Try.pinned (OpenSpec.ofChange tcpwireOwnWrong)

/-- 'stopcocklaw05.TcpwireOptions': WHATEVER THE INPUT: true; the input reads as it did. -/
def tcpwireOptionsSpec : ChangeSpec := { name := "tcpwireOptions", fn := fun _ => fun
  | [d1, d2, d3, d4, d5] => { results := [.lit (.bool true)], args := [d1, d2, d3, d4, d5] }
  | _ => none }
def tcpwireOptionsRow : OpenClaim := { program := "ytdiomelldhkibaa", sum := "d79e08834c7176abdbf4666f952fe1b5fad4bd9c941e0d0973970f023e17ee68", func := "stopcock/stopcocklaw05.TcpwireOptions", spec := "tcpwireOptions", unfollowed := true, recurses := true, apart := false }
def TcpwireOptionsSaid : Prop := tcpwireOptionsRow.holds Try.pinned (OpenSpec.ofChange tcpwireOptionsSpec)

/-- ITS FALSE NEIGHBOUR: 'it returns false'. Refute it at one input. -/
def tcpwireOptionsWrong : ChangeSpec := { name := "tcpwireOptions", fn := fun _ => fun
  | [d1, d2, d3, d4, d5] => { results := [.lit (.bool false)], args := [d1, d2, d3, d4, d5] }
  | _ => none }
def TcpwireOptionsWrongFalsely : Prop := tcpwireOptionsRow.holds Try.pinned (OpenSpec.ofChange tcpwireOptionsWrong)

/- THE SECOND FORM. 'bulk': how many values and letters a reading holds, each counted each time it is reached (what is shared counts as often as it is met; a slice's spare places count too). A statement '..UptoSaid' is the law's where the arguments, and the package variables that the reading takes, are together of bulk at most 1048576: NARROWER than '..Said'. Prove '..Said' where nothing that the law and all that it calls make is longer than what came in: it says more and counts as full. Else prove '..UptoSaid'. A law counts once. -/
mutual
def uptoBulk {H : Type} : DataW H → Nat
  | .lit (.string bytes) => bytes.length + 1
  | .lit _ => 1
  | .nil => 1
  | .ptr d => uptoBulk d + 1
  | .slice elems spare => uptoBulkAll elems + uptoBulkAll spare + 1
  | .agg parts => uptoBulkAll parts + 1
  | .iface _ d => uptoBulk d + 1
  | .map entries => uptoBulkEntries entries + 1
  | .held _ => 1
def uptoBulkAll {H : Type} : List (DataW H) → Nat
  | [] => 0
  | d :: r => uptoBulk d + uptoBulkAll r
def uptoBulkEntries {H : Type} : List (Lit × DataW H) → Nat
  | [] => 0
  | x :: r => uptoBulkEntry x + uptoBulkEntries r
def uptoBulkEntry {H : Type} : Lit × DataW H → Nat
  | (.string bytes, d) => bytes.length + uptoBulk d + 1
  | (_, d) => uptoBulk d + 1
 end
def uptoSmall : (H : Type) → List (DataW H) → Bool := fun _ ds => decide (uptoBulkAll ds ≤ 1048576)
def OpenSpec.upto (s : _root_.Go.ChangeSpec) : _root_.Go.OpenSpec := { _root_.Go.OpenSpec.ofChange s with cond := some uptoSmall }

/-- 'stopcocklaw03.EtherTells', WHERE WHAT IT READS IS OF BULK AT MOST 1048576: true; the input reads as it did. -/
def etherTellsUptoRow : OpenClaim := { program := "ytdiomelldhkibaa", sum := "d79e08834c7176abdbf4666f952fe1b5fad4bd9c941e0d0973970f023e17ee68", func := "stopcock/stopcocklaw03.EtherTells", spec := "etherTells", apart := false, narrowed := true }
def EtherTellsUptoSaid : Prop := etherTellsUptoRow.holds Try.pinned (OpenSpec.upto etherTellsSpec)

/-- 'stopcocklaw03.EtherBack', WHERE WHAT IT READS IS OF BULK AT MOST 1048576: true; the input reads as it did. -/
def etherBackUptoRow : OpenClaim := { program := "ytdiomelldhkibaa", sum := "d79e08834c7176abdbf4666f952fe1b5fad4bd9c941e0d0973970f023e17ee68", func := "stopcock/stopcocklaw03.EtherBack", spec := "etherBack", apart := false, narrowed := true }
def EtherBackUptoSaid : Prop := etherBackUptoRow.holds Try.pinned (OpenSpec.upto etherBackSpec)

/-- 'stopcocklaw03.EtherOwn', WHERE WHAT IT READS IS OF BULK AT MOST 1048576: true; the input reads as it did. -/
def etherOwnUptoRow : OpenClaim := { program := "ytdiomelldhkibaa", sum := "d79e08834c7176abdbf4666f952fe1b5fad4bd9c941e0d0973970f023e17ee68", func := "stopcock/stopcocklaw03.EtherOwn", spec := "etherOwn", apart := false, narrowed := true }
def EtherOwnUptoSaid : Prop := etherOwnUptoRow.holds Try.pinned (OpenSpec.upto etherOwnSpec)

/-- 'stopcocklaw04.IpwireBack', WHERE WHAT IT READS IS OF BULK AT MOST 1048576: true; the input reads as it did. -/
def ipwireBackUptoRow : OpenClaim := { program := "ytdiomelldhkibaa", sum := "d79e08834c7176abdbf4666f952fe1b5fad4bd9c941e0d0973970f023e17ee68", func := "stopcock/stopcocklaw04.IpwireBack", spec := "ipwireBack", unfollowed := true, recurses := true, apart := false, narrowed := true }
def IpwireBackUptoSaid : Prop := ipwireBackUptoRow.holds Try.pinned (OpenSpec.upto ipwireBackSpec)

/-- 'stopcocklaw04.IpwireAgain', WHERE WHAT IT READS IS OF BULK AT MOST 1048576: true; the input reads as it did. -/
def ipwireAgainUptoRow : OpenClaim := { program := "ytdiomelldhkibaa", sum := "d79e08834c7176abdbf4666f952fe1b5fad4bd9c941e0d0973970f023e17ee68", func := "stopcock/stopcocklaw04.IpwireAgain", spec := "ipwireAgain", unfollowed := true, recurses := true, apart := false, narrowed := true }
def IpwireAgainUptoSaid : Prop := ipwireAgainUptoRow.holds Try.pinned (OpenSpec.upto ipwireAgainSpec)

/-- 'stopcocklaw04.IpwireFinds', WHERE WHAT IT READS IS OF BULK AT MOST 1048576: true; the input reads as it did. -/
def ipwireFindsUptoRow : OpenClaim := { program := "ytdiomelldhkibaa", sum := "d79e08834c7176abdbf4666f952fe1b5fad4bd9c941e0d0973970f023e17ee68", func := "stopcock/stopcocklaw04.IpwireFinds", spec := "ipwireFinds", unfollowed := true, recurses := true, apart := false, narrowed := true }
def IpwireFindsUptoSaid : Prop := ipwireFindsUptoRow.holds Try.pinned (OpenSpec.upto ipwireFindsSpec)

/-- 'stopcocklaw04.IpwireOwn', WHERE WHAT IT READS IS OF BULK AT MOST 1048576: true; the input reads as it did. -/
def ipwireOwnUptoRow : OpenClaim := { program := "ytdiomelldhkibaa", sum := "d79e08834c7176abdbf4666f952fe1b5fad4bd9c941e0d0973970f023e17ee68", func := "stopcock/stopcocklaw04.IpwireOwn", spec := "ipwireOwn", unfollowed := true, recurses := true, apart := false, narrowed := true }
def IpwireOwnUptoSaid : Prop := ipwireOwnUptoRow.holds Try.pinned (OpenSpec.upto ipwireOwnSpec)

/-- 'stopcocklaw05.TcpwireTells', WHERE WHAT IT READS IS OF BULK AT MOST 1048576: true; the input reads as it did. -/
def tcpwireTellsUptoRow : OpenClaim := { program := "ytdiomelldhkibaa", sum := "d79e08834c7176abdbf4666f952fe1b5fad4bd9c941e0d0973970f023e17ee68", func := "stopcock/stopcocklaw05.TcpwireTells", spec := "tcpwireTells", unfollowed := true, recurses := true, apart := false, narrowed := true }
def TcpwireTellsUptoSaid : Prop := tcpwireTellsUptoRow.holds Try.pinned (OpenSpec.upto tcpwireTellsSpec)

/-- 'stopcocklaw05.TcpwireRepairs', WHERE WHAT IT READS IS OF BULK AT MOST 1048576: true; the input reads as it did. -/
def tcpwireRepairsUptoRow : OpenClaim := { program := "ytdiomelldhkibaa", sum := "d79e08834c7176abdbf4666f952fe1b5fad4bd9c941e0d0973970f023e17ee68", func := "stopcock/stopcocklaw05.TcpwireRepairs", spec := "tcpwireRepairs", unfollowed := true, recurses := true, apart := false, narrowed := true }
def TcpwireRepairsUptoSaid : Prop := tcpwireRepairsUptoRow.holds Try.pinned (OpenSpec.upto tcpwireRepairsSpec)

/-- 'stopcocklaw05.TcpwireBack', WHERE WHAT IT READS IS OF BULK AT MOST 1048576: true; the input reads as it did. -/
def tcpwireBackUptoRow : OpenClaim := { program := "ytdiomelldhkibaa", sum := "d79e08834c7176abdbf4666f952fe1b5fad4bd9c941e0d0973970f023e17ee68", func := "stopcock/stopcocklaw05.TcpwireBack", spec := "tcpwireBack", unfollowed := true, recurses := true, apart := false, narrowed := true }
def TcpwireBackUptoSaid : Prop := tcpwireBackUptoRow.holds Try.pinned (OpenSpec.upto tcpwireBackSpec)

/-- 'stopcocklaw05.TcpwireFinds', WHERE WHAT IT READS IS OF BULK AT MOST 1048576: true; the input reads as it did. -/
def tcpwireFindsUptoRow : OpenClaim := { program := "ytdiomelldhkibaa", sum := "d79e08834c7176abdbf4666f952fe1b5fad4bd9c941e0d0973970f023e17ee68", func := "stopcock/stopcocklaw05.TcpwireFinds", spec := "tcpwireFinds", unfollowed := true, recurses := true, apart := false, narrowed := true }
def TcpwireFindsUptoSaid : Prop := tcpwireFindsUptoRow.holds Try.pinned (OpenSpec.upto tcpwireFindsSpec)

/-- 'stopcocklaw05.TcpwireOwn', WHERE WHAT IT READS IS OF BULK AT MOST 1048576: true; the input reads as it did. -/
def tcpwireOwnUptoRow : OpenClaim := { program := "ytdiomelldhkibaa", sum := "d79e08834c7176abdbf4666f952fe1b5fad4bd9c941e0d0973970f023e17ee68", func := "stopcock/stopcocklaw05.TcpwireOwn", spec := "tcpwireOwn", unfollowed := true, recurses := true, apart := false, narrowed := true }
def TcpwireOwnUptoSaid : Prop := tcpwireOwnUptoRow.holds Try.pinned (OpenSpec.upto tcpwireOwnSpec)

/-- 'stopcocklaw05.TcpwireOptions', WHERE WHAT IT READS IS OF BULK AT MOST 1048576: true; the input reads as it did. -/
def tcpwireOptionsUptoRow : OpenClaim := { program := "ytdiomelldhkibaa", sum := "d79e08834c7176abdbf4666f952fe1b5fad4bd9c941e0d0973970f023e17ee68", func := "stopcock/stopcocklaw05.TcpwireOptions", spec := "tcpwireOptions", unfollowed := true, recurses := true, apart := false, narrowed := true }
def TcpwireOptionsUptoSaid : Prop := tcpwireOptionsUptoRow.holds Try.pinned (OpenSpec.upto tcpwireOptionsSpec)

end Rows
end Go.Proofs.Ytdiomelldhkibaa
