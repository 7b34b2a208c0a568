/- A list of stopcocklaw10.Step. -/
import Derived.Test.YtinlacdngojlaaaGSts
namespace Go.Proofs.Ytinlacdngojlaaa
open Go.ChangeShapes Go.WideShapes Go.ChangeAt Go.RowKit Go.Deep

theorem nat_of_u32 {a : Int} (h : (Lit.int .u32 a).wf = true) : ∃ n : Nat, a = n ∧ n < 4294967296 := by
  have hb := bounds_u32 h
  exact ⟨a.toNat, by omega, by omega⟩

/-- stopcockref10.Route -/
structure Route10 where
  net : Nat
  bits : Int
  gw : Nat
def Route10.cells (r : Route10) : List Value := [.int .u32 (r.net : Nat), .int .i64 r.bits, .int .u32 (r.gw : Nat)]
def Route10.ok (_w : World) (r : Route10) : Prop := r.net < 4294967296 ∧ (-9223372036854775808 ≤ r.bits ∧ r.bits ≤ 9223372036854775807) ∧ r.gw < 4294967296
theorem Route10.okBelow {w w' : World} {r : Route10} (h : r.ok w) (_hb : Below w.heap.size w w') : r.ok w' := by
  obtain ⟨h0, h1, h2⟩ := h
  exact ⟨h0, h1, h2⟩
theorem Route10.size : Try.prog.cellsOf 31 = 3 := by kernel_rfl
set_option maxRecDepth 100000 in
theorem Route10.each {H : Type} {enc : TypeId × Value → H} {W : World} {base : Nat} {held : Bool} (n : Nat) (cs : List Value) (x : DataW H × List MemPlace) (h : DataW.trod enc Try.prog W base (fun _ => true) held n 31 cs = some x) (hl : cs.length = 3) : ∃ r : Route10, r.ok W ∧ cs = r.cells := by
  obtain ⟨ys, m, _, _, _, hyl, hf⟩ := DataW.trod_struct Try.underlying31 h
  obtain ⟨u0, u1, u2, rfl⟩ := of_l3 cs hl
  obtain ⟨y0, y1, y2, rfl⟩ := of_l3 ys hyl
  have t0 : DataW.trod enc Try.prog W base (fun _ => true) held m 29 [u0] = some y0 := by
    have q : DataW.trod enc Try.prog W base (fun _ => true) held m 29 (([u0, u1, u2].drop 0).take (Try.prog.cellsOf 29)) = some y0 := hf 0 _ rfl
    rw [show Try.prog.cellsOf 29 = 1 from by kernel_rfl] at q
    exact q
  have t1 : DataW.trod enc Try.prog W base (fun _ => true) held m 3 [u1] = some y1 := by
    have q : DataW.trod enc Try.prog W base (fun _ => true) held m 3 (([u0, u1, u2].drop 1).take (Try.prog.cellsOf 3)) = some y1 := hf 1 _ rfl
    rw [show Try.prog.cellsOf 3 = 1 from by kernel_rfl] at q
    exact q
  have t2 : DataW.trod enc Try.prog W base (fun _ => true) held m 29 [u2] = some y2 := by
    have q : DataW.trod enc Try.prog W base (fun _ => true) held m 29 (([u0, u1, u2].drop 2).take (Try.prog.cellsOf 29)) = some y2 := hf 2 _ rfl
    rw [show Try.prog.cellsOf 29 = 1 from by kernel_rfl] at q
    exact q
  obtain ⟨n0, e, _, w0⟩ := DataW.trod_int Try.underlying29 t0
  obtain rfl := (List.cons.inj e).1; clear e
  obtain ⟨m0, rfl, b0⟩ := nat_of_u32 w0
  obtain ⟨n1, e, _, w1⟩ := DataW.trod_int Try.underlying3 t1
  obtain rfl := (List.cons.inj e).1; clear e
  have b1 := bounds_i64 w1
  obtain ⟨n2, e, _, w2⟩ := DataW.trod_int Try.underlying29 t2
  obtain rfl := (List.cons.inj e).1; clear e
  obtain ⟨m2, rfl, b2⟩ := nat_of_u32 w2
  refine ⟨⟨m0, n1, m2⟩, ⟨b0, b1, b2⟩, ?_⟩
  rfl

/-- stopcocklaw10.Step -/
structure Step10 where
  what : Int
  r : Route10
def Step10.cells (r : Step10) : List Value := [.int .i64 r.what] ++ r.r.cells
def Step10.ok (w : World) (r : Step10) : Prop := (-9223372036854775808 ≤ r.what ∧ r.what ≤ 9223372036854775807) ∧ r.r.ok w
theorem Step10.okBelow {w w' : World} {r : Step10} (h : r.ok w) (hb : Below w.heap.size w w') : r.ok w' := by
  obtain ⟨h0, h1⟩ := h
  exact ⟨h0, Route10.okBelow h1 hb⟩
theorem Step10.size : Try.prog.cellsOf 33 = 4 := by kernel_rfl
set_option maxRecDepth 100000 in
theorem Step10.each {H : Type} {enc : TypeId × Value → H} {W : World} {base : Nat} {held : Bool} (n : Nat) (cs : List Value) (x : DataW H × List MemPlace) (h : DataW.trod enc Try.prog W base (fun _ => true) held n 33 cs = some x) (hl : cs.length = 4) : ∃ r : Step10, r.ok W ∧ cs = r.cells := by
  obtain ⟨ys, m, _, _, _, hyl, hf⟩ := DataW.trod_struct Try.underlying33 h
  obtain ⟨u0, u1, u2, u3, rfl⟩ := of_l4 cs hl
  obtain ⟨y0, y1, rfl⟩ := of_l2 ys hyl
  have t0 : DataW.trod enc Try.prog W base (fun _ => true) held m 3 [u0] = some y0 := by
    have q : DataW.trod enc Try.prog W base (fun _ => true) held m 3 (([u0, u1, u2, u3].drop 0).take (Try.prog.cellsOf 3)) = some y0 := hf 0 _ rfl
    rw [show Try.prog.cellsOf 3 = 1 from by kernel_rfl] at q
    exact q
  have t1 : DataW.trod enc Try.prog W base (fun _ => true) held m 31 [u1, u2, u3] = some y1 := by
    have q : DataW.trod enc Try.prog W base (fun _ => true) held m 31 (([u0, u1, u2, u3].drop 1).take (Try.prog.cellsOf 31)) = some y1 := hf 1 _ rfl
    rw [show Try.prog.cellsOf 31 = 3 from by kernel_rfl] at q
    exact q
  obtain ⟨n0, e, _, w0⟩ := DataW.trod_int Try.underlying3 t0
  obtain rfl := (List.cons.inj e).1; clear e
  have b0 := bounds_i64 w0
  obtain ⟨r1, o1, e1⟩ := Route10.each _ _ _ t1 rfl
  refine ⟨⟨n0, r1⟩, ⟨b0, o1⟩, ?_⟩
  unfold Step10.cells
  rw [← e1]
  rfl

/-- A slice that reads as these. -/
def Route10s (w : World) (a : Option Addr) (rs : List Route10) : Prop := Sts 3 Route10.cells Route10.ok w a rs
theorem Route10s.below {w w' : World} {a : Option Addr} {rs : List Route10} (h : Route10s w a rs) (hb : Below w.heap.size w w') : Route10s w' a rs := Sts.below (fun _ hr => Route10.okBelow hr hb) h hb
theorem open_Route10s {H : Type} {enc : TypeId × Value → H} {W : World} {base fuel : Nat} {held : Bool} {c : Value} {y : DataW H × List MemPlace} (h : DataW.trod enc Try.prog W base (fun _ => true) held fuel 26 [c] = some y) :
    ∃ (a : Option Addr) (rs : List Route10) (cap : Nat), c = .slice a rs.length cap ∧ Route10s W a rs ∧ (a = none → cap = 0) ∧ (rs.length ≤ cap ∧ cap ≤ maxLen) ∧ ((y.1 = .nil ∧ rs = []) ∨ ∃ es ws : List (DataW H), y.1 = .slice es ws ∧ rs.length = es.length) :=
  open_sts Try.underlying26 Route10.size (by omega) Route10.each h

/-- A slice that reads as these. -/
def Step10s (w : World) (a : Option Addr) (rs : List Step10) : Prop := Sts 4 Step10.cells Step10.ok w a rs
theorem Step10s.below {w w' : World} {a : Option Addr} {rs : List Step10} (h : Step10s w a rs) (hb : Below w.heap.size w w') : Step10s w' a rs := Sts.below (fun _ hr => Step10.okBelow hr hb) h hb
theorem open_Step10s {H : Type} {enc : TypeId × Value → H} {W : World} {base fuel : Nat} {held : Bool} {c : Value} {y : DataW H × List MemPlace} (h : DataW.trod enc Try.prog W base (fun _ => true) held fuel 22 [c] = some y) :
    ∃ (a : Option Addr) (rs : List Step10) (cap : Nat), c = .slice a rs.length cap ∧ Step10s W a rs ∧ (a = none → cap = 0) ∧ (rs.length ≤ cap ∧ cap ≤ maxLen) ∧ ((y.1 = .nil ∧ rs = []) ∨ ∃ es ws : List (DataW H), y.1 = .slice es ws ∧ rs.length = es.length) :=
  open_sts Try.underlying22 Step10.size (by omega) Step10.each h

end Go.Proofs.Ytinlacdngojlaaa
