/- A list of stopcockref23.Event. -/
import Derived.Test.YtokoogohdfepiaaGSts
namespace Go.Proofs.Ytokoogohdfepiaa
open Go.ChangeShapes Go.WideShapes Go.ChangeAt Go.RowKit Go.Deep

/-- stopcockref23.Event -/
structure Event23 where
  now : Int
  round : Int
  rate : Int
  rtt : Int
  flight : Int
  hasRate : Bool
  hasRtt : Bool
def Event23.cells (r : Event23) : List Value := [.int .i64 r.now, .int .i64 r.round, .int .i64 r.rate, .int .i64 r.rtt, .int .i64 r.flight, .bool r.hasRate, .bool r.hasRtt]
def Event23.ok (_w : World) (r : Event23) : Prop := (-9223372036854775808 ≤ r.now ∧ r.now ≤ 9223372036854775807) ∧ (-9223372036854775808 ≤ r.round ∧ r.round ≤ 9223372036854775807) ∧ (-9223372036854775808 ≤ r.rate ∧ r.rate ≤ 9223372036854775807) ∧ (-9223372036854775808 ≤ r.rtt ∧ r.rtt ≤ 9223372036854775807) ∧ (-9223372036854775808 ≤ r.flight ∧ r.flight ≤ 9223372036854775807)
theorem Event23.okBelow {w w' : World} {r : Event23} (h : r.ok w) (_hb : Below w.heap.size w w') : r.ok w' := by
  obtain ⟨h0, h1, h2, h3, h4⟩ := h
  exact ⟨h0, h1, h2, h3, h4⟩
theorem Event23.size : Try.prog.cellsOf 47 = 7 := by kernel_rfl
set_option maxRecDepth 100000 in
theorem Event23.each {H : Type} {enc : TypeId × Value → H} {W : World} {base : Nat} {held : Bool} (n : Nat) (cs : List Value) (x : DataW H × List MemPlace) (h : DataW.trod enc Try.prog W base (fun _ => true) held n 47 cs = some x) (hl : cs.length = 7) : ∃ r : Event23, r.ok W ∧ cs = r.cells := by
  obtain ⟨ys, m, _, _, _, hyl, hf⟩ := DataW.trod_struct Try.underlying47 h
  obtain ⟨u0, u1, u2, u3, u4, u5, u6, rfl⟩ := of_l7 cs hl
  obtain ⟨y0, y1, y2, y3, y4, y5, y6, rfl⟩ := of_l7 ys hyl
  have t0 : DataW.trod enc Try.prog W base (fun _ => true) held m 3 [u0] = some y0 := by
    have q : DataW.trod enc Try.prog W base (fun _ => true) held m 3 (([u0, u1, u2, u3, u4, u5, u6].drop 0).take (Try.prog.cellsOf 3)) = some y0 := hf 0 _ rfl
    rw [show Try.prog.cellsOf 3 = 1 from by kernel_rfl] at q
    exact q
  have t1 : DataW.trod enc Try.prog W base (fun _ => true) held m 3 [u1] = some y1 := by
    have q : DataW.trod enc Try.prog W base (fun _ => true) held m 3 (([u0, u1, u2, u3, u4, u5, u6].drop 1).take (Try.prog.cellsOf 3)) = some y1 := hf 1 _ rfl
    rw [show Try.prog.cellsOf 3 = 1 from by kernel_rfl] at q
    exact q
  have t2 : DataW.trod enc Try.prog W base (fun _ => true) held m 3 [u2] = some y2 := by
    have q : DataW.trod enc Try.prog W base (fun _ => true) held m 3 (([u0, u1, u2, u3, u4, u5, u6].drop 2).take (Try.prog.cellsOf 3)) = some y2 := hf 2 _ rfl
    rw [show Try.prog.cellsOf 3 = 1 from by kernel_rfl] at q
    exact q
  have t3 : DataW.trod enc Try.prog W base (fun _ => true) held m 3 [u3] = some y3 := by
    have q : DataW.trod enc Try.prog W base (fun _ => true) held m 3 (([u0, u1, u2, u3, u4, u5, u6].drop 3).take (Try.prog.cellsOf 3)) = some y3 := hf 3 _ rfl
    rw [show Try.prog.cellsOf 3 = 1 from by kernel_rfl] at q
    exact q
  have t4 : DataW.trod enc Try.prog W base (fun _ => true) held m 3 [u4] = some y4 := by
    have q : DataW.trod enc Try.prog W base (fun _ => true) held m 3 (([u0, u1, u2, u3, u4, u5, u6].drop 4).take (Try.prog.cellsOf 3)) = some y4 := hf 4 _ rfl
    rw [show Try.prog.cellsOf 3 = 1 from by kernel_rfl] at q
    exact q
  have t5 : DataW.trod enc Try.prog W base (fun _ => true) held m 4 [u5] = some y5 := by
    have q : DataW.trod enc Try.prog W base (fun _ => true) held m 4 (([u0, u1, u2, u3, u4, u5, u6].drop 5).take (Try.prog.cellsOf 4)) = some y5 := hf 5 _ rfl
    rw [show Try.prog.cellsOf 4 = 1 from by kernel_rfl] at q
    exact q
  have t6 : DataW.trod enc Try.prog W base (fun _ => true) held m 4 [u6] = some y6 := by
    have q : DataW.trod enc Try.prog W base (fun _ => true) held m 4 (([u0, u1, u2, u3, u4, u5, u6].drop 6).take (Try.prog.cellsOf 4)) = some y6 := hf 6 _ rfl
    rw [show Try.prog.cellsOf 4 = 1 from by kernel_rfl] at q
    exact q
  obtain ⟨n0, e, _, w0⟩ := DataW.trod_int Try.underlying3 t0
  obtain rfl := (List.cons.inj e).1; clear e
  have b0 := bounds_i64 w0
  obtain ⟨n1, e, _, w1⟩ := DataW.trod_int Try.underlying3 t1
  obtain rfl := (List.cons.inj e).1; clear e
  have b1 := bounds_i64 w1
  obtain ⟨n2, e, _, w2⟩ := DataW.trod_int Try.underlying3 t2
  obtain rfl := (List.cons.inj e).1; clear e
  have b2 := bounds_i64 w2
  obtain ⟨n3, e, _, w3⟩ := DataW.trod_int Try.underlying3 t3
  obtain rfl := (List.cons.inj e).1; clear e
  have b3 := bounds_i64 w3
  obtain ⟨n4, e, _, w4⟩ := DataW.trod_int Try.underlying3 t4
  obtain rfl := (List.cons.inj e).1; clear e
  have b4 := bounds_i64 w4
  obtain ⟨b5, e, _⟩ := DataW.trod_bool Try.underlying4 t5
  obtain rfl := (List.cons.inj e).1; clear e
  obtain ⟨b6, e, _⟩ := DataW.trod_bool Try.underlying4 t6
  obtain rfl := (List.cons.inj e).1; clear e
  refine ⟨⟨n0, n1, n2, n3, n4, b5, b6⟩, ⟨b0, b1, b2, b3, b4⟩, ?_⟩
  rfl

/-- A slice that reads as these. -/
def Event23s (w : World) (a : Option Addr) (rs : List Event23) : Prop := Sts 7 Event23.cells Event23.ok w a rs
theorem Event23s.below {w w' : World} {a : Option Addr} {rs : List Event23} (h : Event23s w a rs) (hb : Below w.heap.size w w') : Event23s w' a rs := Sts.below (fun _ hr => Event23.okBelow hr hb) h hb
theorem open_Event23s {H : Type} {enc : TypeId × Value → H} {W : World} {base fuel : Nat} {held : Bool} {c : Value} {y : DataW H × List MemPlace} (h : DataW.trod enc Try.prog W base (fun _ => true) held fuel 38 [c] = some y) :
    ∃ (a : Option Addr) (rs : List Event23) (cap : Nat), c = .slice a rs.length cap ∧ Event23s W a rs ∧ (a = none → cap = 0) ∧ (rs.length ≤ cap ∧ cap ≤ maxLen) ∧ ((y.1 = .nil ∧ rs = []) ∨ ∃ es ws : List (DataW H), y.1 = .slice es ws ∧ rs.length = es.length) :=
  open_sts Try.underlying38 Event23.size (by omega) Event23.each h

end Go.Proofs.Ytokoogohdfepiaa
