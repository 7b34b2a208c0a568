/- A list of lists of octets in an argument. -/
import Derived.Test.YtinlacdngojlaaaGSts
import Derived.Test.YtinlacdngojlaaaGStruct
namespace Go.Proofs.Ytinlacdngojlaaa
open Go.ChangeShapes Go.WideShapes Go.ChangeAt Go.RowKit Go.Deep

/-- A list of octets in one cell. -/
structure Txt where
  a : Option Addr
  xs : List Nat
  c : Nat
def Txt.cells (r : Txt) : List Value := [.slice r.a r.xs.length r.c]
def Txt.ok (w : World) (r : Txt) : Prop := Bts w r.a r.xs ∧ (r.a = none → r.c = 0) ∧ r.xs.length ≤ r.c ∧ r.c ≤ maxLen
theorem Txt.okBelow {w w' : World} {r : Txt} (h : r.ok w) (hb : Below w.heap.size w w') : r.ok w' := ⟨h.1.below hb, h.2⟩
theorem Txt.size : Try.prog.cellsOf 56 = 1 := by kernel_rfl
theorem Txt.each {H : Type} {enc : TypeId × Value → H} {W : World} {base : Nat} {held : Bool} (n : Nat) (cs : List Value) (x : DataW H × List MemPlace) (h : DataW.trod enc Try.prog W base (fun _ => true) held n 56 cs = some x) (hl : cs.length = 1) : ∃ r : Txt, r.ok W ∧ cs = r.cells := by
  obtain ⟨u0, rfl⟩ := of_l1 cs hl
  obtain ⟨a, xs, c, rfl, p, q, s, _⟩ := open_bytes h
  exact ⟨⟨a, xs, c⟩, ⟨p, q, s⟩, rfl⟩
theorem open_Txts {H : Type} {enc : TypeId × Value → H} {W : World} {base fuel : Nat} {held : Bool} {c : Value} {y : DataW H × List MemPlace} (h : DataW.trod enc Try.prog W base (fun _ => true) held fuel 50 [c] = some y) :
    ∃ (a : Option Addr) (rs : List Txt) (cap : Nat), c = .slice a rs.length cap ∧ Sts 1 Txt.cells Txt.ok W a rs ∧ (a = none → cap = 0) ∧ (rs.length ≤ cap ∧ cap ≤ maxLen) ∧ ((y.1 = .nil ∧ rs = []) ∨ ∃ es ws : List (DataW H), y.1 = .slice es ws ∧ rs.length = es.length) :=
  open_sts Try.underlying50 Txt.size (by omega) Txt.each h
theorem Sts.txtBelow {w w' : World} {a : Option Addr} {rs : List Txt} (h : Sts 1 Txt.cells Txt.ok w a rs) (hb : Below w.heap.size w w') : Sts 1 Txt.cells Txt.ok w' a rs := Sts.below (fun _ hr => Txt.okBelow hr hb) h hb
end Go.Proofs.Ytinlacdngojlaaa
