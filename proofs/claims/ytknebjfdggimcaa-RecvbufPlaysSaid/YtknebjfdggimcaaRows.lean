/-
  No cell of these rows narrows 'for every input' (looked for: loops, veiled, ifaces, maps, wideKeys, modest, calm, conditions, laid).
  DERIVED. THE GIVEN ROWS OF THIS SEAT. 4 by the template 'for every input the law returns true; each argument reads behind the call as it read before'; 0 by the template 'total and deterministic' (their statements: YtknebjfdggimcaaTotals.lean).
  GIVEN WITH THE SEED: the statements are not yours to turn. If you find one false, say at which input.
  Laid BY PROGRAM, IN A SANDBOX (cutbox-rows.mjs): the forced cells as the released guide's own fill.sh prints them over the translation 615e6c3a16520f43… (all of the seat's roots in one cut). By AI agents, Wed Nov 11 2026. No macro, syntax, notation, axiom, sorry.
-/
import Derived.Test.YtknebjfdggimcaaChecked
import GoSem.Claim
import GoSem.ClaimJoined
import GoSem.ClaimMapViews
import Derived.JoinedTies
import Derived.KernelRfl
namespace Go.Proofs.Ytknebjfdggimcaa
/- THE CELL 'sum', in the pinned program and in every row, IS THE sha256 OF THE DUMP (.gsa) THAT YtknebjfdggimcaaProg.lean LOADS. Nothing in Lean hashes anything: it is a label: what it is worth is what the hold of that sum in a sandbox is worth. -/
noncomputable def Try.pinned : Pinned := { name := "ytknebjfdggimcaa", sum := "615e6c3a16520f43948b7f53f2df4271f2be8232dca613ab9ab6f18721bd502e", checked := Try.checked }
namespace Rows
def none {H : Type} : Left H := { results := [], args := [] }

/-- 'stopcocklaw16.RecvbufPlays': WHATEVER THE INPUT: true; the input reads as it did. -/
def recvbufPlaysSpec : ChangeSpec := { name := "recvbufPlays", fn := fun _ => fun
  | [d1, d2, d3] => { results := [.lit (.bool true)], args := [d1, d2, d3] }
  | _ => none }
def recvbufPlaysRow : OpenClaim := { program := "ytknebjfdggimcaa", sum := "615e6c3a16520f43948b7f53f2df4271f2be8232dca613ab9ab6f18721bd502e", func := "stopcock/stopcocklaw16.RecvbufPlays", spec := "recvbufPlays", inPlace := ["slices.overlaps[stopcock/recvbuf.part]"], unfollowed := true, recurses := true, apart := false }
def RecvbufPlaysSaid : Prop := recvbufPlaysRow.holds Try.pinned (OpenSpec.ofChange recvbufPlaysSpec)

/-- ITS FALSE NEIGHBOUR: 'it returns false'. Refute it at one input. -/
def recvbufPlaysWrong : ChangeSpec := { name := "recvbufPlays", fn := fun _ => fun
  | [d1, d2, d3] => { results := [.lit (.bool false)], args := [d1, d2, d3] }
  | _ => none }
def RecvbufPlaysWrongFalsely : Prop := recvbufPlaysRow.holds Try.pinned (OpenSpec.ofChange recvbufPlaysWrong)

/-- 'stopcocklaw16.RecvbufOrder': WHATEVER THE INPUT: true; the input reads as it did. -/
def recvbufOrderSpec : ChangeSpec := { name := "recvbufOrder", fn := fun _ => fun
  | [d1, d2, d3, d4] => { results := [.lit (.bool true)], args := [d1, d2, d3, d4] }
  | _ => none }
def recvbufOrderRow : OpenClaim := { program := "ytknebjfdggimcaa", sum := "615e6c3a16520f43948b7f53f2df4271f2be8232dca613ab9ab6f18721bd502e", func := "stopcock/stopcocklaw16.RecvbufOrder", spec := "recvbufOrder", inPlace := ["slices.overlaps[stopcock/recvbuf.part]"], unfollowed := true, recurses := true, apart := false }
def RecvbufOrderSaid : Prop := recvbufOrderRow.holds Try.pinned (OpenSpec.ofChange recvbufOrderSpec)

/-- ITS FALSE NEIGHBOUR: 'it returns false'. Refute it at one input. -/
def recvbufOrderWrong : ChangeSpec := { name := "recvbufOrder", fn := fun _ => fun
  | [d1, d2, d3, d4] => { results := [.lit (.bool false)], args := [d1, d2, d3, d4] }
  | _ => none }
def RecvbufOrderWrongFalsely : Prop := recvbufOrderRow.holds Try.pinned (OpenSpec.ofChange recvbufOrderWrong)

/-- 'stopcocklaw16.RecvbufBlocks': WHATEVER THE INPUT: true; the input reads as it did. -/
def recvbufBlocksSpec : ChangeSpec := { name := "recvbufBlocks", fn := fun _ => fun
  | [d1, d2, d3] => { results := [.lit (.bool true)], args := [d1, d2, d3] }
  | _ => none }
def recvbufBlocksRow : OpenClaim := { program := "ytknebjfdggimcaa", sum := "615e6c3a16520f43948b7f53f2df4271f2be8232dca613ab9ab6f18721bd502e", func := "stopcock/stopcocklaw16.RecvbufBlocks", spec := "recvbufBlocks", inPlace := ["slices.overlaps[stopcock/recvbuf.part]"], unfollowed := true, recurses := true, apart := false }
def RecvbufBlocksSaid : Prop := recvbufBlocksRow.holds Try.pinned (OpenSpec.ofChange recvbufBlocksSpec)

/-- ITS FALSE NEIGHBOUR: 'it returns false'. Refute it at one input. -/
def recvbufBlocksWrong : ChangeSpec := { name := "recvbufBlocks", fn := fun _ => fun
  | [d1, d2, d3] => { results := [.lit (.bool false)], args := [d1, d2, d3] }
  | _ => none }
def RecvbufBlocksWrongFalsely : Prop := recvbufBlocksRow.holds Try.pinned (OpenSpec.ofChange recvbufBlocksWrong)

/-- 'stopcocklaw16.RecvbufOwn': WHATEVER THE INPUT: true; the input reads as it did. -/
def recvbufOwnSpec : ChangeSpec := { name := "recvbufOwn", fn := fun _ => fun
  | [d1, d2] => { results := [.lit (.bool true)], args := [d1, d2] }
  | _ => none }
def recvbufOwnRow : OpenClaim := { program := "ytknebjfdggimcaa", sum := "615e6c3a16520f43948b7f53f2df4271f2be8232dca613ab9ab6f18721bd502e", func := "stopcock/stopcocklaw16.RecvbufOwn", spec := "recvbufOwn", inPlace := ["slices.overlaps[stopcock/recvbuf.part]"], unfollowed := true, recurses := true, apart := false }
def RecvbufOwnSaid : Prop := recvbufOwnRow.holds Try.pinned (OpenSpec.ofChange recvbufOwnSpec)

/-- ITS FALSE NEIGHBOUR: 'it returns false'. Refute it at one input. -/
def recvbufOwnWrong : ChangeSpec := { name := "recvbufOwn", fn := fun _ => fun
  | [d1, d2] => { results := [.lit (.bool false)], args := [d1, d2] }
  | _ => none }
def RecvbufOwnWrongFalsely : Prop := recvbufOwnRow.holds Try.pinned (OpenSpec.ofChange recvbufOwnWrong)

/- THE SECOND FORM. 'bulk': how many values and letters a reading holds, each counted each time it is reached (what is shared counts as often as it is met; a slice's spare places count too). A statement '..UptoSaid' is the law's where the arguments, and the package variables that the reading takes, are together of bulk at most 1048576: NARROWER than '..Said'. Prove '..Said' where nothing that the law and all that it calls make is longer than what came in: it says more and counts as full. Else prove '..UptoSaid'. A law counts once. -/
mutual
def uptoBulk {H : Type} : DataW H → Nat
  | .lit (.string bytes) => bytes.length + 1
  | .lit _ => 1
  | .nil => 1
  | .ptr d => uptoBulk d + 1
  | .slice elems spare => uptoBulkAll elems + uptoBulkAll spare + 1
  | .agg parts => uptoBulkAll parts + 1
  | .iface _ d => uptoBulk d + 1
  | .map entries => uptoBulkEntries entries + 1
  | .held _ => 1
def uptoBulkAll {H : Type} : List (DataW H) → Nat
  | [] => 0
  | d :: r => uptoBulk d + uptoBulkAll r
def uptoBulkEntries {H : Type} : List (Lit × DataW H) → Nat
  | [] => 0
  | x :: r => uptoBulkEntry x + uptoBulkEntries r
def uptoBulkEntry {H : Type} : Lit × DataW H → Nat
  | (.string bytes, d) => bytes.length + uptoBulk d + 1
  | (_, d) => uptoBulk d + 1
 end
def uptoSmall : (H : Type) → List (DataW H) → Bool := fun _ ds => decide (uptoBulkAll ds ≤ 1048576)
def OpenSpec.upto (s : _root_.Go.ChangeSpec) : _root_.Go.OpenSpec := { _root_.Go.OpenSpec.ofChange s with cond := some uptoSmall }

/-- 'stopcocklaw16.RecvbufPlays', WHERE WHAT IT READS IS OF BULK AT MOST 1048576: true; the input reads as it did. -/
def recvbufPlaysUptoRow : OpenClaim := { program := "ytknebjfdggimcaa", sum := "615e6c3a16520f43948b7f53f2df4271f2be8232dca613ab9ab6f18721bd502e", func := "stopcock/stopcocklaw16.RecvbufPlays", spec := "recvbufPlays", inPlace := ["slices.overlaps[stopcock/recvbuf.part]"], unfollowed := true, recurses := true, apart := false, narrowed := true }
def RecvbufPlaysUptoSaid : Prop := recvbufPlaysUptoRow.holds Try.pinned (OpenSpec.upto recvbufPlaysSpec)

/-- 'stopcocklaw16.RecvbufOrder', WHERE WHAT IT READS IS OF BULK AT MOST 1048576: true; the input reads as it did. -/
def recvbufOrderUptoRow : OpenClaim := { program := "ytknebjfdggimcaa", sum := "615e6c3a16520f43948b7f53f2df4271f2be8232dca613ab9ab6f18721bd502e", func := "stopcock/stopcocklaw16.RecvbufOrder", spec := "recvbufOrder", inPlace := ["slices.overlaps[stopcock/recvbuf.part]"], unfollowed := true, recurses := true, apart := false, narrowed := true }
def RecvbufOrderUptoSaid : Prop := recvbufOrderUptoRow.holds Try.pinned (OpenSpec.upto recvbufOrderSpec)

/-- 'stopcocklaw16.RecvbufBlocks', WHERE WHAT IT READS IS OF BULK AT MOST 1048576: true; the input reads as it did. -/
def recvbufBlocksUptoRow : OpenClaim := { program := "ytknebjfdggimcaa", sum := "615e6c3a16520f43948b7f53f2df4271f2be8232dca613ab9ab6f18721bd502e", func := "stopcock/stopcocklaw16.RecvbufBlocks", spec := "recvbufBlocks", inPlace := ["slices.overlaps[stopcock/recvbuf.part]"], unfollowed := true, recurses := true, apart := false, narrowed := true }
def RecvbufBlocksUptoSaid : Prop := recvbufBlocksUptoRow.holds Try.pinned (OpenSpec.upto recvbufBlocksSpec)

/-- 'stopcocklaw16.RecvbufOwn', WHERE WHAT IT READS IS OF BULK AT MOST 1048576: true; the input reads as it did. -/
def recvbufOwnUptoRow : OpenClaim := { program := "ytknebjfdggimcaa", sum := "615e6c3a16520f43948b7f53f2df4271f2be8232dca613ab9ab6f18721bd502e", func := "stopcock/stopcocklaw16.RecvbufOwn", spec := "recvbufOwn", inPlace := ["slices.overlaps[stopcock/recvbuf.part]"], unfollowed := true, recurses := true, apart := false, narrowed := true }
def RecvbufOwnUptoSaid : Prop := recvbufOwnUptoRow.holds Try.pinned (OpenSpec.upto recvbufOwnSpec)

end Rows
end Go.Proofs.Ytknebjfdggimcaa
