/- A list of stopcocklaw16.Step. -/
import Derived.Test.YtknebjfdggimcaaGStsW
import Derived.Test.YtknebjfdggimcaaGStruct
namespace Go.Proofs.Ytknebjfdggimcaa
open Go.ChangeShapes Go.WideShapes Go.ChangeAt Go.RowKit Go.Deep

/-- stopcocklaw16.Step -/
structure Step16 where
  what : Int
  seq : Nat
  n : Int
  data_a : Option Addr
  data : List Nat
  data_c : Nat
def Step16.cells (r : Step16) : List Value := [.int .i64 r.what, .int .u32 (r.seq : Nat), .int .i64 r.n, .slice r.data_a r.data.length r.data_c]
def Step16.ok (w : World) (r : Step16) : Prop := (-9223372036854775808 ≤ r.what ∧ r.what ≤ 9223372036854775807) ∧ r.seq < 4294967296 ∧ (-9223372036854775808 ≤ r.n ∧ r.n ≤ 9223372036854775807) ∧ (Bts w r.data_a r.data ∧ (r.data_a = none → r.data_c = 0) ∧ r.data.length ≤ r.data_c ∧ r.data_c ≤ maxLen ∧ r.data.length ≤ 140737488351232)
theorem Step16.okBelow {w w' : World} {r : Step16} (h : r.ok w) (hb : Below w.heap.size w w') : r.ok w' := by
  obtain ⟨h0, h1, h2, h3⟩ := h
  exact ⟨h0, h1, h2, ⟨h3.1.below hb, h3.2⟩⟩
theorem Step16.size : Try.prog.cellsOf 34 = 4 := by kernel_rfl
set_option maxRecDepth 100000 in
theorem Step16.each {H : Type} {enc : TypeId × Value → H} {W : World} {base : Nat} {held : Bool} (n : Nat) (cs : List Value) (x : DataW H × List MemPlace) (h : DataW.trod enc Try.prog W base (fun _ => true) held n 34 cs = some x) (hl : cs.length = 4) (hw : ∀ k ∈ x.1.weights Try.prog 34, k ≤ reachBytes) : ∃ r : Step16, r.ok W ∧ cs = r.cells := by
  obtain ⟨ys, m, _, hx, _, hyl, hf⟩ := DataW.trod_struct Try.underlying34 h
  obtain ⟨u0, u1, u2, u3, rfl⟩ := of_l4 cs hl
  obtain ⟨y0, y1, y2, y3, rfl⟩ := of_l4 ys hyl
  have t0 : DataW.trod enc Try.prog W base (fun _ => true) held m 3 [u0] = some y0 := by
    have q : DataW.trod enc Try.prog W base (fun _ => true) held m 3 (([u0, u1, u2, u3].drop 0).take (Try.prog.cellsOf 3)) = some y0 := hf 0 _ rfl
    rw [show Try.prog.cellsOf 3 = 1 from by kernel_rfl] at q
    exact q
  have t1 : DataW.trod enc Try.prog W base (fun _ => true) held m 22 [u1] = some y1 := by
    have q : DataW.trod enc Try.prog W base (fun _ => true) held m 22 (([u0, u1, u2, u3].drop 1).take (Try.prog.cellsOf 22)) = some y1 := hf 1 _ rfl
    rw [show Try.prog.cellsOf 22 = 1 from by kernel_rfl] at q
    exact q
  have t2 : DataW.trod enc Try.prog W base (fun _ => true) held m 3 [u2] = some y2 := by
    have q : DataW.trod enc Try.prog W base (fun _ => true) held m 3 (([u0, u1, u2, u3].drop 2).take (Try.prog.cellsOf 3)) = some y2 := hf 2 _ rfl
    rw [show Try.prog.cellsOf 3 = 1 from by kernel_rfl] at q
    exact q
  have t3 : DataW.trod enc Try.prog W base (fun _ => true) held m 32 [u3] = some y3 := by
    have q : DataW.trod enc Try.prog W base (fun _ => true) held m 32 (([u0, u1, u2, u3].drop 3).take (Try.prog.cellsOf 32)) = some y3 := hf 3 _ rfl
    rw [show Try.prog.cellsOf 32 = 1 from by kernel_rfl] at q
    exact q
  obtain ⟨n0, e, _, w0⟩ := DataW.trod_int Try.underlying3 t0
  obtain rfl := (List.cons.inj e).1; clear e
  have b0 := bounds_i64 w0
  obtain ⟨n1, e, _, w1⟩ := DataW.trod_int Try.underlying22 t1
  obtain rfl := (List.cons.inj e).1; clear e
  obtain ⟨m1, rfl, b1⟩ := nat_of_u32 w1
  obtain ⟨n2, e, _, w2⟩ := DataW.trod_int Try.underlying3 t2
  obtain rfl := (List.cons.inj e).1; clear e
  have b2 := bounds_i64 w2
  obtain ⟨a3, xs3, c3, rfl, p3, q3, s3, hq⟩ := open_bytes t3
  have hre : xs3.length ≤ 140737488351232 := bytes_reach hq (fun n hn => hw n (by rw [hx]; simp only [DataW.weights, Try.underlying34]; exact DataW.weights_mem_each (j := 3) (t := 32) rfl rfl n hn))
  refine ⟨⟨n0, m1, n2, a3, xs3, c3⟩, ⟨b0, b1, b2, ⟨p3, q3, s3.1, s3.2, hre⟩⟩, ?_⟩
  rfl

/-- A slice that reads as these. -/
def Step16s (w : World) (a : Option Addr) (rs : List Step16) : Prop := Sts 4 Step16.cells Step16.ok w a rs
theorem Step16s.below {w w' : World} {a : Option Addr} {rs : List Step16} (h : Step16s w a rs) (hb : Below w.heap.size w w') : Step16s w' a rs := Sts.below (fun _ hr => Step16.okBelow hr hb) h hb
theorem open_Step16s {H : Type} {enc : TypeId × Value → H} {W : World} {base fuel : Nat} {held : Bool} {c : Value} {y : DataW H × List MemPlace} (h : DataW.trod enc Try.prog W base (fun _ => true) held fuel 23 [c] = some y) (hw : ∀ k ∈ y.1.weights Try.prog 23, k ≤ reachBytes) :
    ∃ (a : Option Addr) (rs : List Step16) (cap : Nat), c = .slice a rs.length cap ∧ Step16s W a rs ∧ (a = none → cap = 0) ∧ (rs.length ≤ cap ∧ cap ≤ maxLen) ∧ ((y.1 = .nil ∧ rs = []) ∨ ∃ es ws : List (DataW H), y.1 = .slice es ws ∧ rs.length = es.length) :=
  open_stsW Try.underlying23 Step16.size (by omega) Step16.each h hw
end Go.Proofs.Ytknebjfdggimcaa
