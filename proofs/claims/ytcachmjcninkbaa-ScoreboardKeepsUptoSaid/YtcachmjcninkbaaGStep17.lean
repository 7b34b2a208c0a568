/- A list of steps of layer 17. -/
import Derived.Test.YtcachmjcninkbaaGStsB
import Derived.Test.YtcachmjcninkbaaGBk
namespace Go.Proofs.Ytcachmjcninkbaa
open Go.ChangeShapes Go.WideShapes Go.ChangeAt Go.RowKit Go.Deep

/-- stopcocklaw17.Step -/
structure Step17 where
  what : Int
  n : Int
  ack : Nat
  bl_a : Option Addr
  bl : List Bk
  bl_c : Nat
def Step17.cells (r : Step17) : List Value := [.int .i64 r.what, .int .i64 r.n, .int .u32 (r.ack : Nat), .slice r.bl_a r.bl.length r.bl_c]
def Step17.ok (w : World) (r : Step17) : Prop := (-9223372036854775808 ≤ r.what ∧ r.what ≤ 9223372036854775807) ∧ (-9223372036854775808 ≤ r.n ∧ r.n ≤ 9223372036854775807) ∧ r.ack < 4294967296 ∧ (Sts 2 Bk.cells Bk.ok w r.bl_a r.bl ∧ (r.bl_a = none → r.bl_c = 0) ∧ r.bl.length ≤ r.bl_c ∧ r.bl_c ≤ maxLen ∧ r.bl.length ≤ 1048576)
theorem Step17.okBelow {w w' : World} {r : Step17} (h : r.ok w) (hb : Below w.heap.size w w') : r.ok w' := by
  obtain ⟨h0, h1, h2, h3⟩ := h
  exact ⟨h0, h1, h2, ⟨Sts.below (fun _ hr => Bk.okBelow hr hb) h3.1 hb, h3.2⟩⟩
theorem Step17.size : Try.prog.cellsOf 60 = 4 := by kernel_rfl
set_option maxRecDepth 100000 in
theorem Step17.each {H : Type} {enc : TypeId × Value → H} {W : World} {base : Nat} {held : Bool} (n : Nat) (cs : List Value) (x : DataW H × List MemPlace) (h : DataW.trod enc Try.prog W base (fun _ => true) held n 60 cs = some x) (hl : cs.length = 4) (hw : Rows.uptoBulk x.1 ≤ 1048576) : ∃ r : Step17, r.ok W ∧ cs = r.cells := by
  obtain ⟨ys, m, _, hx, _, hyl, hf⟩ := DataW.trod_struct Try.underlying60 h
  obtain ⟨u0, u1, u2, u3, rfl⟩ := of_l4 cs hl
  obtain ⟨y0, y1, y2, y3, rfl⟩ := of_l4 ys hyl
  have t0 : DataW.trod enc Try.prog W base (fun _ => true) held m 3 [u0] = some y0 := by
    have q : DataW.trod enc Try.prog W base (fun _ => true) held m 3 (([u0, u1, u2, u3].drop 0).take (Try.prog.cellsOf 3)) = some y0 := hf 0 _ rfl
    rw [show Try.prog.cellsOf 3 = 1 from by kernel_rfl] at q
    exact q
  have t1 : DataW.trod enc Try.prog W base (fun _ => true) held m 3 [u1] = some y1 := by
    have q : DataW.trod enc Try.prog W base (fun _ => true) held m 3 (([u0, u1, u2, u3].drop 1).take (Try.prog.cellsOf 3)) = some y1 := hf 1 _ rfl
    rw [show Try.prog.cellsOf 3 = 1 from by kernel_rfl] at q
    exact q
  have t2 : DataW.trod enc Try.prog W base (fun _ => true) held m 22 [u2] = some y2 := by
    have q : DataW.trod enc Try.prog W base (fun _ => true) held m 22 (([u0, u1, u2, u3].drop 2).take (Try.prog.cellsOf 22)) = some y2 := hf 2 _ rfl
    rw [show Try.prog.cellsOf 22 = 1 from by kernel_rfl] at q
    exact q
  have t3 : DataW.trod enc Try.prog W base (fun _ => true) held m 23 [u3] = some y3 := by
    have q : DataW.trod enc Try.prog W base (fun _ => true) held m 23 (([u0, u1, u2, u3].drop 3).take (Try.prog.cellsOf 23)) = some y3 := hf 3 _ rfl
    rw [show Try.prog.cellsOf 23 = 1 from by kernel_rfl] at q
    exact q
  obtain ⟨n0, e, _, w0⟩ := DataW.trod_int Try.underlying3 t0
  obtain rfl := (List.cons.inj e).1; clear e
  have b0 := bounds_i64 w0
  obtain ⟨n1, e, _, w1⟩ := DataW.trod_int Try.underlying3 t1
  obtain rfl := (List.cons.inj e).1; clear e
  have b1 := bounds_i64 w1
  obtain ⟨n2, e, _, w2⟩ := DataW.trod_int Try.underlying22 t2
  obtain rfl := (List.cons.inj e).1; clear e
  obtain ⟨m2, rfl, b2⟩ := nat_of_u32 w2
  obtain ⟨a3, xs3, c3, rfl, p3, q3, s3, hq⟩ := open_Bks t3
  have hre : xs3.length ≤ 1048576 := by
    have h1 : Rows.uptoBulk y3.1 ≤ Rows.uptoBulk x.1 := by
      rw [hx]
      have := bulk_all (ds := [y0, y1, y2, y3].map (·.1)) (d := y3.1) (by simp)
      simp only [Rows.uptoBulk]
      omega
    rcases hq with ⟨_, rfl⟩ | ⟨es, ws, e, hl2⟩
    · simp
    · have := bulk_lenB es
      rw [e] at h1
      simp only [Rows.uptoBulk] at h1 hw
      omega
  refine ⟨⟨n0, n1, m2, a3, xs3, c3⟩, ⟨b0, b1, b2, ⟨p3, q3, s3.1, s3.2, hre⟩⟩, ?_⟩
  rfl
theorem open_Step17s {H : Type} {enc : TypeId × Value → H} {W : World} {base fuel : Nat} {held : Bool} {c : Value} {y : DataW H × List MemPlace} (h : DataW.trod enc Try.prog W base (fun _ => true) held fuel 57 [c] = some y) (hw : Rows.uptoBulk y.1 ≤ 1048576) :
    ∃ (a : Option Addr) (rs : List Step17) (cap : Nat), c = .slice a rs.length cap ∧ Sts 4 Step17.cells Step17.ok W a rs ∧ (a = none → cap = 0) ∧ (rs.length ≤ cap ∧ cap ≤ maxLen) ∧ ((y.1 = .nil ∧ rs = []) ∨ ∃ es ws : List (DataW H), y.1 = .slice es ws ∧ rs.length = es.length) :=
  open_stsB Try.underlying57 Step17.size (by omega) Step17.each h hw
end Go.Proofs.Ytcachmjcninkbaa
