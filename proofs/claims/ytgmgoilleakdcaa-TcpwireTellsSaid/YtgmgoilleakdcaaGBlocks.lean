/- A slice that reads as blocks of sequence numbers. -/
import Derived.Test.YtgmgoilleakdcaaGStruct
namespace Go.Proofs.Ytgmgoilleakdcaa
open Go.ChangeShapes Go.WideShapes Go.ChangeAt Go.RowKit Go.Deep

/-- A slice that reads as these blocks: two cells each. -/
def Blk (w : World) (a : Option Addr) (bs : List (Nat × Nat)) : Prop :=
  (∀ p ∈ bs, p.1 < 4294967296 ∧ p.2 < 4294967296) ∧ (bs = [] ∨ ∃ b off, a = some ⟨b, off, none⟩ ∧ b < w.heap.size ∧ ∀ i, i < bs.length → w.cell? ⟨b, off + 2 * i, none⟩ = some (.int .u32 ((bs.getD i (0, 0)).1 : Nat)) ∧ w.cell? ⟨b, off + 2 * i + 1, none⟩ = some (.int .u32 ((bs.getD i (0, 0)).2 : Nat)))

theorem Blk.below {w w' : World} {a : Option Addr} {bs : List (Nat × Nat)} (h : Blk w a bs) (hb : Below w.heap.size w w') : Blk w' a bs := by
  obtain ⟨h1, h2 | ⟨b, off, rfl, hlt, hc⟩⟩ := h
  · exact ⟨h1, .inl h2⟩
  · exact ⟨h1, .inr ⟨b, off, rfl, Nat.lt_of_lt_of_le hlt hb.size, fun i hi => ⟨(hb.cell (p := ⟨b, off + 2 * i, none⟩) hlt).trans (hc i hi).1, (hb.cell (p := ⟨b, off + 2 * i + 1, none⟩) hlt).trans (hc i hi).2⟩⟩⟩

theorem blk8 : Try.prog.bytesOf 68 = 8 := by kernel_rfl

set_option maxRecDepth 100000 in
/-- A list of blocks in a field: its blocks; what it reads as. -/
theorem open_blocks {H : Type} {enc : TypeId × Value → H} {W : World} {base fuel : Nat} {held : Bool} {c : Value} {y : DataW H × List MemPlace} (h : DataW.trod enc Try.prog W base (fun _ => true) held fuel 24 [c] = some y) :
    ∃ (a : Option Addr) (bs : List (Nat × Nat)) (cap : Nat), c = .slice a bs.length cap ∧ Blk W a bs ∧ (a = none → cap = 0) ∧ (bs.length ≤ cap ∧ cap ≤ maxLen) ∧
      ((y.1 = .nil ∧ bs = []) ∨ ∃ es ws : List (DataW H), y.1 = .slice es ws ∧ bs.length = es.length) := by
  rcases DataW.trod_slice Try.underlying24 h with ⟨hcs, hy⟩ | ⟨x, len, cap, elems, rest, n, _, hcs, hd, hb, hl, hm, hlen, hel, _, _⟩
  · simp only [List.cons.injEq, and_true] at hcs
    subst hcs
    exact ⟨none, [], 0, rfl, ⟨(fun x h => by cases h), .inl rfl⟩, fun _ => rfl, ⟨Nat.le_refl _, Nat.zero_le _⟩, .inl ⟨by rw [hy], rfl⟩⟩
  · simp only [List.cons.injEq, and_true] at hcs
    subst hcs
    have hC : Try.prog.cellsOf 68 = 2 := by kernel_rfl
    have each : ∀ i, i < len → ∃ p : Nat × Nat, (p.1 < 4294967296 ∧ p.2 < 4294967296) ∧ W.cell? (x.add (i * 2)) = some (.int .u32 (p.1 : Nat)) ∧ W.cell? (x.add (i * 2 + 1)) = some (.int .u32 (p.2 : Nat)) := by
      intro i hi
      have h1 := hel i hi
      rw [List.getElem?_eq_getElem (by omega), hC, Option.bind_eq_some_iff] at h1
      obtain ⟨cs, hcs, ht⟩ := h1
      obtain ⟨_, hcl, hcell⟩ := World.cells?_some hcs
      obtain ⟨ys, m, _, _, _, hyl, hf⟩ := DataW.trod_struct Try.underlying68 ht
      have t0 := hf 0 _ rfl
      have t1 := hf 1 _ rfl
      have c1 : Try.prog.cellsOf 23 = 1 := by kernel_rfl
      obtain ⟨u0, u1, rfl⟩ : ∃ u0 u1, cs = [u0, u1] := by
        match cs, hcl with
        | [u0, u1], _ => exact ⟨u0, u1, rfl⟩
      obtain ⟨y0, y1, rfl⟩ : ∃ y0 y1, ys = [y0, y1] := by
        have e : ys.length = 2 := hyl
        match ys, e with
        | [y0, y1], _ => exact ⟨y0, y1, rfl⟩
      have t0' : DataW.trod enc Try.prog W base (fun _ => true) held m 23 [u0] = some y0 := by
        have q : DataW.trod enc Try.prog W base (fun _ => true) held m 23 (([u0, u1].drop 0).take (Try.prog.cellsOf 23)) = some y0 := t0
        rw [c1] at q
        exact q
      have t1' : DataW.trod enc Try.prog W base (fun _ => true) held m 23 [u1] = some y1 := by
        have q : DataW.trod enc Try.prog W base (fun _ => true) held m 23 (([u0, u1].drop 1).take (Try.prog.cellsOf 23)) = some y1 := t1
        rw [c1] at q
        exact q
      obtain ⟨n0, e0, _, w0⟩ := DataW.trod_int Try.underlying23 t0'
      obtain ⟨n1, e1, _, w1⟩ := DataW.trod_int Try.underlying23 t1'
      obtain ⟨m0, rfl, b0⟩ := nat_of_u32 w0
      obtain ⟨m1, rfl, b1⟩ := nat_of_u32 w1
      obtain rfl := (List.cons.inj e0).1
      obtain rfl := (List.cons.inj e1).1
      have q0 := hcell 0 (by omega)
      have q1 := hcell 1 (by omega)
      rw [Addr.add_add] at q0 q1
      exact ⟨(m0, m1), ⟨b0, b1⟩, q0, q1⟩
    obtain ⟨bs, hbl, hbs⟩ : ∃ bs : List (Nat × Nat), bs.length = len ∧ ∀ i, i < len → ((bs.getD i (0, 0)).1 < 4294967296 ∧ (bs.getD i (0, 0)).2 < 4294967296) ∧ W.cell? (x.add (i * 2)) = some (.int .u32 ((bs.getD i (0, 0)).1 : Nat)) ∧ W.cell? (x.add (i * 2 + 1)) = some (.int .u32 ((bs.getD i (0, 0)).2 : Nat)) := by
      refine ⟨(List.range len).map fun i => if h : i < len then Classical.choose (each i h) else (0, 0), by simp, fun i hi => ?_⟩
      have e : ((List.range len).map fun i => if h : i < len then Classical.choose (each i h) else (0, 0)).getD i (0, 0) = Classical.choose (each i hi) := by
        rw [List.getD_eq_getElem?_getD, List.getElem?_map, List.getElem?_range hi]
        simp [hi]
      rw [e]
      exact Classical.choose_spec (each i hi)
    subst hbl
    refine ⟨some x, bs, cap, rfl, ⟨?_, ?_⟩, (fun h => by cases h), ⟨hl, hm⟩, .inr ⟨elems.map (·.1), rest.map (·.1), by rw [hd], by rw [List.length_map, hlen]⟩⟩
    · intro p hp
      obtain ⟨i, hi⟩ := List.getElem?_of_mem hp
      have hlt : i < bs.length := (List.getElem?_eq_some_iff.1 hi).1
      have h2 := (hbs i hlt).1
      rw [List.getD_eq_getElem?_getD, hi] at h2
      exact h2
    · by_cases h0 : bs = []
      · exact .inl h0
      · right
        have hp : 0 < bs.length := List.length_pos_iff.2 h0
        obtain ⟨b, off, spot⟩ := x
        have hspot : spot = none := by simpa [Addr.add] using World.cell?_spot (hbs 0 hp).2.1
        subst hspot
        refine ⟨b, off, rfl, World.block_lt_of_cell? _ _ (hbs 0 hp).2.1, fun i hi => ?_⟩
        · have h2 := (hbs i hi).2
          rw [Go.WideShapes.add_plain, Go.WideShapes.add_plain] at h2
          rw [Nat.mul_comm 2 i]
          exact h2
/-- Its bound. -/
theorem blocks_reach {H : Type} {d : DataW H} {bs : List (Nat × Nat)} (h : (d = .nil ∧ bs = []) ∨ ∃ es ws : List (DataW H), d = .slice es ws ∧ bs.length = es.length) (hw : ∀ n ∈ d.weights Try.prog 24, n ≤ reachBytes) : bs.length ≤ 17592186043904 := by
  rcases h with ⟨_, rfl⟩ | ⟨es, ws, rfl, hl⟩
  · simp
  · have := hw ((es.length + ws.length) * Try.prog.bytesOf 68) (by simp [DataW.weights, Try.underlying24])
    rw [blk8] at this
    simp only [reachBytes] at this
    omega

end Go.Proofs.Ytgmgoilleakdcaa
