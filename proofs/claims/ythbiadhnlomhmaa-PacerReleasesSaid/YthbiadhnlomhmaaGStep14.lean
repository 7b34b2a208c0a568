/- A list of stopcocklaw14.Step. -/
import Derived.Test.YthbiadhnlomhmaaGSts
namespace Go.Proofs.Ythbiadhnlomhmaa
open Go.ChangeShapes Go.WideShapes Go.ChangeAt Go.RowKit Go.Deep

/-- stopcocklaw14.Step -/
structure Step14 where
  what : Int
  idn : Int
  sz : Int
  rate : Int
  quant : Int
  tick : Int
def Step14.cells (r : Step14) : List Value := [.int .i64 r.what, .int .i64 r.idn, .int .i64 r.sz, .int .i64 r.rate, .int .i64 r.quant, .int .i64 r.tick]
def Step14.ok (_w : World) (r : Step14) : Prop := (-9223372036854775808 ≤ r.what ∧ r.what ≤ 9223372036854775807) ∧ (-9223372036854775808 ≤ r.idn ∧ r.idn ≤ 9223372036854775807) ∧ (-9223372036854775808 ≤ r.sz ∧ r.sz ≤ 9223372036854775807) ∧ (-9223372036854775808 ≤ r.rate ∧ r.rate ≤ 9223372036854775807) ∧ (-9223372036854775808 ≤ r.quant ∧ r.quant ≤ 9223372036854775807) ∧ (-9223372036854775808 ≤ r.tick ∧ r.tick ≤ 9223372036854775807)
theorem Step14.okBelow {w w' : World} {r : Step14} (h : r.ok w) (_hb : Below w.heap.size w w') : r.ok w' := by
  obtain ⟨h0, h1, h2, h3, h4, h5⟩ := h
  exact ⟨h0, h1, h2, h3, h4, h5⟩
theorem Step14.size : Try.prog.cellsOf 37 = 6 := by kernel_rfl
set_option maxRecDepth 100000 in
theorem Step14.each {H : Type} {enc : TypeId × Value → H} {W : World} {base : Nat} {held : Bool} (n : Nat) (cs : List Value) (x : DataW H × List MemPlace) (h : DataW.trod enc Try.prog W base (fun _ => true) held n 37 cs = some x) (hl : cs.length = 6) : ∃ r : Step14, r.ok W ∧ cs = r.cells := by
  obtain ⟨ys, m, _, _, _, hyl, hf⟩ := DataW.trod_struct Try.underlying37 h
  obtain ⟨u0, u1, u2, u3, u4, u5, rfl⟩ := of_l6 cs hl
  obtain ⟨y0, y1, y2, y3, y4, y5, rfl⟩ := of_l6 ys hyl
  have t0 : DataW.trod enc Try.prog W base (fun _ => true) held m 3 [u0] = some y0 := by
    have q : DataW.trod enc Try.prog W base (fun _ => true) held m 3 (([u0, u1, u2, u3, u4, u5].drop 0).take (Try.prog.cellsOf 3)) = some y0 := hf 0 _ rfl
    rw [show Try.prog.cellsOf 3 = 1 from by kernel_rfl] at q
    exact q
  have t1 : DataW.trod enc Try.prog W base (fun _ => true) held m 3 [u1] = some y1 := by
    have q : DataW.trod enc Try.prog W base (fun _ => true) held m 3 (([u0, u1, u2, u3, u4, u5].drop 1).take (Try.prog.cellsOf 3)) = some y1 := hf 1 _ rfl
    rw [show Try.prog.cellsOf 3 = 1 from by kernel_rfl] at q
    exact q
  have t2 : DataW.trod enc Try.prog W base (fun _ => true) held m 3 [u2] = some y2 := by
    have q : DataW.trod enc Try.prog W base (fun _ => true) held m 3 (([u0, u1, u2, u3, u4, u5].drop 2).take (Try.prog.cellsOf 3)) = some y2 := hf 2 _ rfl
    rw [show Try.prog.cellsOf 3 = 1 from by kernel_rfl] at q
    exact q
  have t3 : DataW.trod enc Try.prog W base (fun _ => true) held m 3 [u3] = some y3 := by
    have q : DataW.trod enc Try.prog W base (fun _ => true) held m 3 (([u0, u1, u2, u3, u4, u5].drop 3).take (Try.prog.cellsOf 3)) = some y3 := hf 3 _ rfl
    rw [show Try.prog.cellsOf 3 = 1 from by kernel_rfl] at q
    exact q
  have t4 : DataW.trod enc Try.prog W base (fun _ => true) held m 3 [u4] = some y4 := by
    have q : DataW.trod enc Try.prog W base (fun _ => true) held m 3 (([u0, u1, u2, u3, u4, u5].drop 4).take (Try.prog.cellsOf 3)) = some y4 := hf 4 _ rfl
    rw [show Try.prog.cellsOf 3 = 1 from by kernel_rfl] at q
    exact q
  have t5 : DataW.trod enc Try.prog W base (fun _ => true) held m 3 [u5] = some y5 := by
    have q : DataW.trod enc Try.prog W base (fun _ => true) held m 3 (([u0, u1, u2, u3, u4, u5].drop 5).take (Try.prog.cellsOf 3)) = some y5 := hf 5 _ rfl
    rw [show Try.prog.cellsOf 3 = 1 from by kernel_rfl] at q
    exact q
  obtain ⟨n0, e, _, w0⟩ := DataW.trod_int Try.underlying3 t0
  obtain rfl := (List.cons.inj e).1; clear e
  have b0 := bounds_i64 w0
  obtain ⟨n1, e, _, w1⟩ := DataW.trod_int Try.underlying3 t1
  obtain rfl := (List.cons.inj e).1; clear e
  have b1 := bounds_i64 w1
  obtain ⟨n2, e, _, w2⟩ := DataW.trod_int Try.underlying3 t2
  obtain rfl := (List.cons.inj e).1; clear e
  have b2 := bounds_i64 w2
  obtain ⟨n3, e, _, w3⟩ := DataW.trod_int Try.underlying3 t3
  obtain rfl := (List.cons.inj e).1; clear e
  have b3 := bounds_i64 w3
  obtain ⟨n4, e, _, w4⟩ := DataW.trod_int Try.underlying3 t4
  obtain rfl := (List.cons.inj e).1; clear e
  have b4 := bounds_i64 w4
  obtain ⟨n5, e, _, w5⟩ := DataW.trod_int Try.underlying3 t5
  obtain rfl := (List.cons.inj e).1; clear e
  have b5 := bounds_i64 w5
  refine ⟨⟨n0, n1, n2, n3, n4, n5⟩, ⟨b0, b1, b2, b3, b4, b5⟩, ?_⟩
  rfl

/-- A slice that reads as these. -/
def Step14s (w : World) (a : Option Addr) (rs : List Step14) : Prop := Sts 6 Step14.cells Step14.ok w a rs
theorem Step14s.below {w w' : World} {a : Option Addr} {rs : List Step14} (h : Step14s w a rs) (hb : Below w.heap.size w w') : Step14s w' a rs := Sts.below (fun _ hr => Step14.okBelow hr hb) h hb
theorem open_Step14s {H : Type} {enc : TypeId × Value → H} {W : World} {base fuel : Nat} {held : Bool} {c : Value} {y : DataW H × List MemPlace} (h : DataW.trod enc Try.prog W base (fun _ => true) held fuel 31 [c] = some y) :
    ∃ (a : Option Addr) (rs : List Step14) (cap : Nat), c = .slice a rs.length cap ∧ Step14s W a rs ∧ (a = none → cap = 0) ∧ (rs.length ≤ cap ∧ cap ≤ maxLen) ∧ ((y.1 = .nil ∧ rs = []) ∨ ∃ es ws : List (DataW H), y.1 = .slice es ws ∧ rs.length = es.length) :=
  open_sts Try.underlying31 Step14.size (by omega) Step14.each h

end Go.Proofs.Ythbiadhnlomhmaa
