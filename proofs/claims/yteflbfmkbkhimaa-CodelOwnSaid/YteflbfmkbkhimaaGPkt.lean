/- A list of api.Packet. -/
import Derived.Test.YteflbfmkbkhimaaGSts
namespace Go.Proofs.Yteflbfmkbkhimaa
open Go.ChangeShapes Go.WideShapes Go.ChangeAt Go.RowKit Go.Deep

/-- api.Packet -/
structure Pkt where
  tick : Int
  sz : Int
  ect : Bool
  id : Int
def Pkt.cells (r : Pkt) : List Value := [.int .i64 r.tick, .int .i64 r.sz, .bool r.ect, .int .i64 r.id]
def Pkt.ok (_w : World) (r : Pkt) : Prop := (-9223372036854775808 ≤ r.tick ∧ r.tick ≤ 9223372036854775807) ∧ (-9223372036854775808 ≤ r.sz ∧ r.sz ≤ 9223372036854775807) ∧ (-9223372036854775808 ≤ r.id ∧ r.id ≤ 9223372036854775807)
theorem Pkt.okBelow {w w' : World} {r : Pkt} (h : r.ok w) (_hb : Below w.heap.size w w') : r.ok w' := by
  obtain ⟨h0, h1, h2⟩ := h
  exact ⟨h0, h1, h2⟩
theorem Pkt.size : Try.prog.cellsOf 30 = 4 := by kernel_rfl
set_option maxRecDepth 100000 in
theorem Pkt.each {H : Type} {enc : TypeId × Value → H} {W : World} {base : Nat} {held : Bool} (n : Nat) (cs : List Value) (x : DataW H × List MemPlace) (h : DataW.trod enc Try.prog W base (fun _ => true) held n 30 cs = some x) (hl : cs.length = 4) : ∃ r : Pkt, r.ok W ∧ cs = r.cells := by
  obtain ⟨ys, m, _, _, _, hyl, hf⟩ := DataW.trod_struct Try.underlying30 h
  obtain ⟨u0, u1, u2, u3, rfl⟩ := of_l4 cs hl
  obtain ⟨y0, y1, y2, y3, rfl⟩ := of_l4 ys hyl
  have t0 : DataW.trod enc Try.prog W base (fun _ => true) held m 3 [u0] = some y0 := by
    have q : DataW.trod enc Try.prog W base (fun _ => true) held m 3 (([u0, u1, u2, u3].drop 0).take (Try.prog.cellsOf 3)) = some y0 := hf 0 _ rfl
    rw [show Try.prog.cellsOf 3 = 1 from by kernel_rfl] at q
    exact q
  have t1 : DataW.trod enc Try.prog W base (fun _ => true) held m 3 [u1] = some y1 := by
    have q : DataW.trod enc Try.prog W base (fun _ => true) held m 3 (([u0, u1, u2, u3].drop 1).take (Try.prog.cellsOf 3)) = some y1 := hf 1 _ rfl
    rw [show Try.prog.cellsOf 3 = 1 from by kernel_rfl] at q
    exact q
  have t2 : DataW.trod enc Try.prog W base (fun _ => true) held m 4 [u2] = some y2 := by
    have q : DataW.trod enc Try.prog W base (fun _ => true) held m 4 (([u0, u1, u2, u3].drop 2).take (Try.prog.cellsOf 4)) = some y2 := hf 2 _ rfl
    rw [show Try.prog.cellsOf 4 = 1 from by kernel_rfl] at q
    exact q
  have t3 : DataW.trod enc Try.prog W base (fun _ => true) held m 3 [u3] = some y3 := by
    have q : DataW.trod enc Try.prog W base (fun _ => true) held m 3 (([u0, u1, u2, u3].drop 3).take (Try.prog.cellsOf 3)) = some y3 := hf 3 _ rfl
    rw [show Try.prog.cellsOf 3 = 1 from by kernel_rfl] at q
    exact q
  obtain ⟨n0, e, _, w0⟩ := DataW.trod_int Try.underlying3 t0
  obtain rfl := (List.cons.inj e).1; clear e
  have b0 := bounds_i64 w0
  obtain ⟨n1, e, _, w1⟩ := DataW.trod_int Try.underlying3 t1
  obtain rfl := (List.cons.inj e).1; clear e
  have b1 := bounds_i64 w1
  obtain ⟨b2, e, _⟩ := DataW.trod_bool Try.underlying4 t2
  obtain rfl := (List.cons.inj e).1; clear e
  obtain ⟨n3, e, _, w3⟩ := DataW.trod_int Try.underlying3 t3
  obtain rfl := (List.cons.inj e).1; clear e
  have b3 := bounds_i64 w3
  refine ⟨⟨n0, n1, b2, n3⟩, ⟨b0, b1, b3⟩, ?_⟩
  rfl

/-- A slice that reads as these. -/
def Pkts (w : World) (a : Option Addr) (rs : List Pkt) : Prop := Sts 4 Pkt.cells Pkt.ok w a rs
theorem Pkts.below {w w' : World} {a : Option Addr} {rs : List Pkt} (h : Pkts w a rs) (hb : Below w.heap.size w w') : Pkts w' a rs := Sts.below (fun _ hr => Pkt.okBelow hr hb) h hb
theorem open_Pkts {H : Type} {enc : TypeId × Value → H} {W : World} {base fuel : Nat} {held : Bool} {c : Value} {y : DataW H × List MemPlace} (h : DataW.trod enc Try.prog W base (fun _ => true) held fuel 26 [c] = some y) :
    ∃ (a : Option Addr) (rs : List Pkt) (cap : Nat), c = .slice a rs.length cap ∧ Pkts W a rs ∧ (a = none → cap = 0) ∧ (rs.length ≤ cap ∧ cap ≤ maxLen) ∧ ((y.1 = .nil ∧ rs = []) ∨ ∃ es ws : List (DataW H), y.1 = .slice es ws ∧ rs.length = es.length) :=
  open_sts Try.underlying26 Pkt.size (by omega) Pkt.each h

end Go.Proofs.Yteflbfmkbkhimaa
