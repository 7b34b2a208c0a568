/- A list of stopcocklaw16.Piece. -/
import Derived.Test.YtknebjfdggimcaaGSts
namespace Go.Proofs.Ytknebjfdggimcaa
open Go.ChangeShapes Go.WideShapes Go.ChangeAt Go.RowKit Go.Deep

/-- stopcocklaw16.Piece -/
structure Piece16 where
  pos : Int
  n : Int
def Piece16.cells (r : Piece16) : List Value := [.int .i64 r.pos, .int .i64 r.n]
def Piece16.ok (_w : World) (r : Piece16) : Prop := (-9223372036854775808 ≤ r.pos ∧ r.pos ≤ 9223372036854775807) ∧ (-9223372036854775808 ≤ r.n ∧ r.n ≤ 9223372036854775807)
theorem Piece16.okBelow {w w' : World} {r : Piece16} (h : r.ok w) (_hb : Below w.heap.size w w') : r.ok w' := by
  obtain ⟨h0, h1⟩ := h
  exact ⟨h0, h1⟩
theorem Piece16.size : Try.prog.cellsOf 62 = 2 := by kernel_rfl
set_option maxRecDepth 100000 in
theorem Piece16.each {H : Type} {enc : TypeId × Value → H} {W : World} {base : Nat} {held : Bool} (n : Nat) (cs : List Value) (x : DataW H × List MemPlace) (h : DataW.trod enc Try.prog W base (fun _ => true) held n 62 cs = some x) (hl : cs.length = 2) : ∃ r : Piece16, r.ok W ∧ cs = r.cells := by
  obtain ⟨ys, m, _, _, _, hyl, hf⟩ := DataW.trod_struct Try.underlying62 h
  obtain ⟨u0, u1, rfl⟩ := of_l2 cs hl
  obtain ⟨y0, y1, rfl⟩ := of_l2 ys hyl
  have t0 : DataW.trod enc Try.prog W base (fun _ => true) held m 3 [u0] = some y0 := by
    have q : DataW.trod enc Try.prog W base (fun _ => true) held m 3 (([u0, u1].drop 0).take (Try.prog.cellsOf 3)) = some y0 := hf 0 _ rfl
    rw [show Try.prog.cellsOf 3 = 1 from by kernel_rfl] at q
    exact q
  have t1 : DataW.trod enc Try.prog W base (fun _ => true) held m 3 [u1] = some y1 := by
    have q : DataW.trod enc Try.prog W base (fun _ => true) held m 3 (([u0, u1].drop 1).take (Try.prog.cellsOf 3)) = some y1 := hf 1 _ rfl
    rw [show Try.prog.cellsOf 3 = 1 from by kernel_rfl] at q
    exact q
  obtain ⟨n0, e, _, w0⟩ := DataW.trod_int Try.underlying3 t0
  obtain rfl := (List.cons.inj e).1; clear e
  have b0 := bounds_i64 w0
  obtain ⟨n1, e, _, w1⟩ := DataW.trod_int Try.underlying3 t1
  obtain rfl := (List.cons.inj e).1; clear e
  have b1 := bounds_i64 w1
  refine ⟨⟨n0, n1⟩, ⟨b0, b1⟩, ?_⟩
  rfl

/-- A slice that reads as these. -/
def Piece16s (w : World) (a : Option Addr) (rs : List Piece16) : Prop := Sts 2 Piece16.cells Piece16.ok w a rs
theorem Piece16s.below {w w' : World} {a : Option Addr} {rs : List Piece16} (h : Piece16s w a rs) (hb : Below w.heap.size w w') : Piece16s w' a rs := Sts.below (fun _ hr => Piece16.okBelow hr hb) h hb
theorem open_Piece16s {H : Type} {enc : TypeId × Value → H} {W : World} {base fuel : Nat} {held : Bool} {c : Value} {y : DataW H × List MemPlace} (h : DataW.trod enc Try.prog W base (fun _ => true) held fuel 58 [c] = some y) :
    ∃ (a : Option Addr) (rs : List Piece16) (cap : Nat), c = .slice a rs.length cap ∧ Piece16s W a rs ∧ (a = none → cap = 0) ∧ (rs.length ≤ cap ∧ cap ≤ maxLen) ∧ ((y.1 = .nil ∧ rs = []) ∨ ∃ es ws : List (DataW H), y.1 = .slice es ws ∧ rs.length = es.length) :=
  open_sts Try.underlying58 Piece16.size (by omega) Piece16.each h

end Go.Proofs.Ytknebjfdggimcaa
