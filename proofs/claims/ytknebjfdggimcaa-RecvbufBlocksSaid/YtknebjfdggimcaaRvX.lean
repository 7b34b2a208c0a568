/- Recvbuf: a text in parts: what lies where, all along. -/
import Derived.Test.YtknebjfdggimcaaRvV
namespace Go.Proofs.Ytknebjfdggimcaa
open Go.RowKit Go.Proofs.Ytknebjfdggimcaa.Rv

theorem RvAt.mono {B B' g G pc : Nat} {pa : Option Addr} {s : St} {w : World} (h : RvAt B g G pa pc s w) (hB : B' ≤ B) : RvAt B' g G pa pc s w :=
  ⟨h.blk, h.ring.mono hB, h.own.mono hB, h.gG, h.pg, h.pG, Nat.le_trans hB h.Bg⟩
theorem RvAt.below {B g G pc : Nat} {pa : Option Addr} {s : St} {w w' : World} (h : RvAt B g G pa pc s w) (b : Below w.heap.size w w') : RvAt B g G pa pc s w' :=
  ⟨(b.block _ (blk_lt h.blk)).trans h.blk, h.ring.below b, h.own.below b, h.gG, h.pg, h.pG, h.Bg⟩
theorem RvAt.grown {B g G pc : Nat} {pa : Option Addr} {s : St} {w w' : World} {r : Option Nat} (h : RvAt B g G pa pc s w) (b : w.grownBy w' r) (h1 : r ≠ some g) (h2 : r ≠ some G) (h3 : ∀ k, pa = some ⟨k, 0, none⟩ → r ≠ some k) : RvAt B g G pa pc s w' := by
  refine ⟨(b.block _ (blk_lt h.blk) (fun e => h1 e.symm)).trans h.blk, ?_, h.own.grown b (fun k e e2 => h3 k e e2.symm), h.gG, h.pg, h.pG, h.Bg⟩
  cases r with
  | none => exact h.ring.below ⟨b.os, b.tape, b.output, b.size, fun k hk => b.block k hk (by simp)⟩
  | some r => exact h.ring.far b (fun e => h2 (by rw [e]))
/-- All that the statement holds: the buffer, what was read, what came. -/
structure OA (B g G gc L : Nat) (fi : Nat) (T : List Nat) (cm cw : List Bool) (R i : Nat) (s : St) (pa : Option Addr) (pc : Nat) (qa : Option Addr) (qc : Nat) (w0 w : World) : Prop where
  ord : Ord fi T cm R i s
  rv : RvAt B g G pa pc s w
  got : OwnR 5 1 U8C B qa (T.take R) qc w
  came : OwnR 4 1 TC B (some ⟨gc, 0, none⟩) cw L w
  d1 : qa ≠ some ⟨g, 0, none⟩
  d2 : qa ≠ some ⟨G, 0, none⟩
  d3 : qa ≠ some ⟨gc, 0, none⟩
  d4 : Disj pa qa
  d5 : pa ≠ some ⟨gc, 0, none⟩
  gcg : gc ≠ g
  gcG : gc ≠ G
  Gl : G < w.heap.size
  Bl : B ≤ w.heap.size
  low : Below B w0 w
section
variable {B g G gc L fi : Nat} {T : List Nat} {cm cw : List Bool} {R i : Nat} {s : St} {pa : Option Addr} {pc : Nat} {qa : Option Addr} {qc : Nat} {w0 w w' : World}
theorem OA.below (h : OA B g G gc L fi T cm cw R i s pa pc qa qc w0 w) (b : Below w.heap.size w w') : OA B g G gc L fi T cm cw R i s pa pc qa qc w0 w' :=
  ⟨h.ord, h.rv.below b, h.got.below b, h.came.below b, h.d1, h.d2, h.d3, h.d4, h.d5, h.gcg, h.gcG, Nat.lt_of_lt_of_le h.Gl b.size, Nat.le_trans h.Bl b.size, h.low.trans (b.mono h.Bl)⟩
/-- Behind an Insert. -/
theorem OA.ins (h : OA B g G gc L fi T cm cw R i s pa pc qa qc w0 w) {cm' : List Bool} {s' : St} {pa' : Option Addr} {pc' : Nat} (ho : Ord fi T cm' R (i + 1) s') (hr : RvAt B g G pa' pc' s' w') (ht : Turns (IS g G pa) w w') (hp : ∀ k, pa' = some ⟨k, 0, none⟩ → pa = some ⟨k, 0, none⟩ ∨ w.heap.size ≤ k) (hBg : B ≤ g) (hBG : B ≤ G) :
    OA B g G gc L fi T cm' cw R (i + 1) s' pa' pc' qa qc w0 w' := by
  have hq := h.got.ltB
  have hgc := h.came.ltB gc rfl
  refine ⟨ho, hr, h.got.turned ht (fun k e => ?_), h.came.turned ht (fun k e => ?_), h.d1, h.d2, h.d3, fun k e1 e2 => ?_, fun e => ?_, h.gcg, h.gcG, Nat.lt_of_lt_of_le h.Gl ht.size, Nat.le_trans h.Bl ht.size, h.low.trans (ht.below h.Bl (fun k hk => ?_))⟩
  · rintro (rfl | rfl | h1)
    · exact h.d1 e
    · exact h.d2 e
    · exact h.d4 k h1 e
  · cases e
    rintro (h1 | h1 | h1)
    · exact h.gcg h1
    · exact h.gcG h1
    · exact h.d5 h1
  · rcases hp k e1 with h1 | h1
    · exact h.d4 k h1 e2
    · have := hq k e2; omega
  · rcases hp gc e with h1 | h1
    · exact h.d5 h1
    · omega
  · rcases hk with rfl | rfl | h1
    · exact hBg
    · exact hBG
    · exact (h.rv.own.ownB k (by rw [h1]; rfl)).1
/-- Behind a truth stored. -/
theorem OA.set (h : OA B g G gc L fi T cm cw R i s pa pc qa qc w0 w) (k : Nat) (hk : k < cw.length) (hB : B ≤ gc) : OA B g G gc L fi T cm (cw.set k true) R i s pa pc qa qc w0 (w.setCell ⟨gc, k, none⟩ (.bool true)) := by
  obtain ⟨h1, h2⟩ := h.came.setT k true hk
  refine ⟨h.ord, h.rv.grown h2 (fun e => h.gcg (Option.some.inj e)) (fun e => h.gcG (Option.some.inj e)) (fun k e e2 => h.d5 (by rw [e, Option.some.inj e2])), h.got.grown h2 (fun k e e2 => h.d3 (by rw [e, Option.some.inj e2])), h1, h.d1, h.d2, h.d3, h.d4, h.d5, h.gcg, h.gcG, Nat.lt_of_lt_of_le h.Gl h2.size, Nat.le_trans h.Bl h2.size, h.low.grown h2 h.Bl (fun k e => by cases e; exact hB)⟩
/-- Behind a Read. -/
theorem OA.read (h : OA B g G gc L fi T cm cw R i s pa pc qa qc w0 w) {m : Nat} {s' : St} (hg : w.grownBy w' (some g)) (hBg : B ≤ g) :
    Ord fi T cm (R + m) i s' → (OwnR 5 1 U8C B qa (T.take R) qc w' ∧ OwnR 4 1 TC B (some ⟨gc, 0, none⟩) cw L w' ∧ Below B w0 w') :=
  fun _ => ⟨h.got.grown hg (fun k e e2 => h.d1 (by rw [e, Option.some.inj e2])), h.came.grown hg (fun k e e2 => by cases e; exact h.gcg (Option.some.inj e2)), h.low.grown hg h.Bl (fun k e => by cases e; exact hBg)⟩
/-- .. and what was read appended. -/
theorem OA.got2 (h : OA B g G gc L fi T cm cw R i s pa pc qa qc w0 w) {m : Nat} {s' : St} {w2 w3 : World} (ho : Ord fi T cm (R + m) i s') (hr : RvAt B g G pa pc s' w2) (hg : w.grownBy w2 (some g)) (hBg : B ≤ g) {qa' : Option Addr} {qc' : Nat}
    (hq : OwnR 5 1 U8C B qa' (T.take (R + m)) qc' w3) (hg3 : w2.grownBy w3 (Value.slice qa (T.take R).length qc).ownBlock) (hat : ∀ k, qa' = some ⟨k, 0, none⟩ → qa = some ⟨k, 0, none⟩ ∨ k = w2.heap.size) :
    OA B g G gc L fi T cm cw (R + m) i s' pa pc qa' qc' w0 w3 := by
  obtain ⟨o1, o2, o3⟩ := h.read (m := m) hg hBg ho
  have hown := o1.ownEq
  have hsz : w.heap.size ≤ w2.heap.size := hg.size
  have hgl := blk_lt hr.blk
  have hGl : G < w2.heap.size := Nat.lt_of_lt_of_le h.Gl hsz
  have hgc := o2.ltB gc rfl
  have hpa := hr.own.ltB
  have ne : ∀ (k : Nat), qa ≠ some ⟨k, 0, none⟩ → (Value.slice qa (T.take R).length qc).ownBlock ≠ some k := fun k hk e => hk (hown k e)
  have nq : ∀ k, qa ≠ some ⟨k, 0, none⟩ → k < w2.heap.size → qa' ≠ some ⟨k, 0, none⟩ := fun k hk hl e => by
    rcases hat k e with h1 | h1
    · exact hk h1
    · omega
  refine ⟨ho, hr.grown hg3 (ne g h.d1) (ne G h.d2) (fun k e => ne k (h.d4 k e)), hq, o2.grown hg3 (fun k e e2 => by cases e; exact ne gc h.d3 e2.symm), nq g h.d1 hgl, nq G h.d2 hGl, nq gc h.d3 hgc, fun k e1 e2 => nq k (h.d4 k e1) (hpa k e1) e2, h.d5, h.gcg, h.gcG, Nat.lt_of_lt_of_le hGl hg3.size, Nat.le_trans h.Bl (Nat.le_trans hsz hg3.size), o3.grown hg3 (Nat.le_trans h.Bl hsz) (fun k e => (o1.ownB k e).1)⟩
end
end Go.Proofs.Ytknebjfdggimcaa
