/- A list of api.Block. -/
import Derived.Test.YtcachmjcninkbaaGBlkA
import Derived.Test.YtcachmjcninkbaaGSts
namespace Go.Proofs.Ytcachmjcninkbaa
open Go.ChangeShapes Go.WideShapes Go.ChangeAt Go.RowKit Go.Deep

/-- api.Block -/
structure Bk where
  left : Nat
  right : Nat
def Bk.cells (r : Bk) : List Value := [.int .u32 (r.left : Nat), .int .u32 (r.right : Nat)]
def Bk.ok (_w : World) (r : Bk) : Prop := r.left < 4294967296 ∧ r.right < 4294967296
theorem Bk.okBelow {w w' : World} {r : Bk} (h : r.ok w) (_hb : Below w.heap.size w w') : r.ok w' := by
  obtain ⟨h0, h1⟩ := h
  exact ⟨h0, h1⟩
theorem Bk.size : Try.prog.cellsOf 38 = 2 := by kernel_rfl
set_option maxRecDepth 100000 in
theorem Bk.each {H : Type} {enc : TypeId × Value → H} {W : World} {base : Nat} {held : Bool} (n : Nat) (cs : List Value) (x : DataW H × List MemPlace) (h : DataW.trod enc Try.prog W base (fun _ => true) held n 38 cs = some x) (hl : cs.length = 2) : ∃ r : Bk, r.ok W ∧ cs = r.cells := by
  obtain ⟨ys, m, _, _, _, hyl, hf⟩ := DataW.trod_struct Try.underlying38 h
  obtain ⟨u0, u1, rfl⟩ := of_l2 cs hl
  obtain ⟨y0, y1, rfl⟩ := of_l2 ys hyl
  have t0 : DataW.trod enc Try.prog W base (fun _ => true) held m 22 [u0] = some y0 := by
    have q : DataW.trod enc Try.prog W base (fun _ => true) held m 22 (([u0, u1].drop 0).take (Try.prog.cellsOf 22)) = some y0 := hf 0 _ rfl
    rw [show Try.prog.cellsOf 22 = 1 from by kernel_rfl] at q
    exact q
  have t1 : DataW.trod enc Try.prog W base (fun _ => true) held m 22 [u1] = some y1 := by
    have q : DataW.trod enc Try.prog W base (fun _ => true) held m 22 (([u0, u1].drop 1).take (Try.prog.cellsOf 22)) = some y1 := hf 1 _ rfl
    rw [show Try.prog.cellsOf 22 = 1 from by kernel_rfl] at q
    exact q
  obtain ⟨n0, e, _, w0⟩ := DataW.trod_int Try.underlying22 t0
  obtain rfl := (List.cons.inj e).1; clear e
  obtain ⟨m0, rfl, b0⟩ := nat_of_u32 w0
  obtain ⟨n1, e, _, w1⟩ := DataW.trod_int Try.underlying22 t1
  obtain rfl := (List.cons.inj e).1; clear e
  obtain ⟨m1, rfl, b1⟩ := nat_of_u32 w1
  refine ⟨⟨m0, m1⟩, ⟨b0, b1⟩, ?_⟩
  rfl

/-- A slice that reads as these. -/
def Bks (w : World) (a : Option Addr) (rs : List Bk) : Prop := Sts 2 Bk.cells Bk.ok w a rs
theorem Bks.below {w w' : World} {a : Option Addr} {rs : List Bk} (h : Bks w a rs) (hb : Below w.heap.size w w') : Bks w' a rs := Sts.below (fun _ hr => Bk.okBelow hr hb) h hb
theorem open_Bks {H : Type} {enc : TypeId × Value → H} {W : World} {base fuel : Nat} {held : Bool} {c : Value} {y : DataW H × List MemPlace} (h : DataW.trod enc Try.prog W base (fun _ => true) held fuel 23 [c] = some y) :
    ∃ (a : Option Addr) (rs : List Bk) (cap : Nat), c = .slice a rs.length cap ∧ Bks W a rs ∧ (a = none → cap = 0) ∧ (rs.length ≤ cap ∧ cap ≤ maxLen) ∧ ((y.1 = .nil ∧ rs = []) ∨ ∃ es ws : List (DataW H), y.1 = .slice es ws ∧ rs.length = es.length) :=
  open_sts Try.underlying23 Bk.size (by omega) Bk.each h

end Go.Proofs.Ytcachmjcninkbaa
