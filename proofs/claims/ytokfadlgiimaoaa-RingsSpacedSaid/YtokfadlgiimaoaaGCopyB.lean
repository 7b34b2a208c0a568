/- 'copy' into a list of one's own. -/
import Derived.Test.YtokfadlgiimaoaaGBts
import Derived.Laws.CopyOwn
namespace Go.Proofs.Ytokfadlgiimaoaa
open Go.RowKit

theorem size5 : (Try.prog.info? 5).map (·.size) = some 1 := by kernel_rfl

theorem splice_map {α β : Type} (f : α → β) (L : List α) (off : Nat) (cs : List α) : (splice L off cs).map f = splice (L.map f) off (cs.map f) := by
  simp [splice, List.map_take, List.map_drop]

theorem splice_lt {xs ys : List Nat} {off : Nat} (hx : ∀ x ∈ xs, x < 256) (hy : ∀ y ∈ ys, y < 256) : ∀ z ∈ splice xs off ys, z < 256 := by
  intro z hz
  unfold splice at hz
  rcases List.mem_append.1 hz with h | h
  · exact hx z (List.mem_of_mem_take h)
  · rcases List.mem_append.1 h with h | h
    · exact hy z h
    · exact hx z (List.mem_of_mem_drop h)

theorem splice_take {α : Type} (L M : List α) (off : Nat) (cs : List α) (n : Nat) (hM : M.take n = L) (hL : L.length = n) (h : off + cs.length ≤ n) : (splice M off cs).take n = splice L off cs := by
  subst hM
  have hn : n ≤ M.length := by rw [List.length_take] at hL; omega
  have e1 : min off M.length = off := by omega
  have e2 : min n off = min off n := Nat.min_comm _ _
  have e3 : n - off - cs.length = n - (off + cs.length) := by omega
  unfold splice
  rw [List.take_append, List.take_append, List.take_take, List.length_take, e1, List.take_of_length_le (l := cs) (by omega), List.take_take, List.drop_take, e2, e3]

/-- A list of one's own, seen as its block. -/
theorem OwnSl.blk {B g cap : Nat} {xs : List Nat} {w : World} (h : OwnSl B (some ⟨g, 0, none⟩) xs cap w) : ∃ cur : List Value, w.heap[g]? = some (.cells cur.toArray 5 (0, 0)) ∧ cur.length = cap ∧ cur.take xs.length = xs.map (fun x => Value.int .u8 (x : Nat)) := by
  rcases h.row.2.2 with ⟨h0, _⟩ | ⟨g', cap', cur, e, _, h2, h3, h4, h5, h6⟩
  · cases h0
  · cases e
    exact ⟨cur.toList, by simpa using h2, by simpa using h5, by simpa using h6⟩

/-- A row of one's own turned by a copy. -/
theorem OwnSl.copied {B g off cap : Nat} {xs ys : List Nat} {w : World} {cur : List Value} (O : OwnSl B (some ⟨g, 0, none⟩) xs cap w) (hy : ∀ y ∈ ys, y < 256) (hg : w.heap[g]? = some (.cells cur.toArray 5 (0, 0))) (hcl : cur.length = cap) (hct : cur.take xs.length = xs.map (fun x => Value.int .u8 (x : Nat))) (hfit : off + ys.length ≤ xs.length) :
    OwnSl B (some ⟨g, 0, none⟩) (splice xs off ys) cap (w.setRow g (cur.toArray.toList.take off ++ ((ys.map fun y => Value.int .u8 (y : Nat)) ++ cur.toArray.toList.drop (off + (ys.map fun y => Value.int .u8 (y : Nat)).length))).toArray) ∧ w.grownBy (w.setRow g (cur.toArray.toList.take off ++ ((ys.map fun y => Value.int .u8 (y : Nat)) ++ cur.toArray.toList.drop (off + (ys.map fun y => Value.int .u8 (y : Nat)).length))).toArray) (some g) := by
  have hcap := O.capLe
  have hl : (splice xs off ys).length = xs.length := length_splice _ _ _ hfit
  refine ⟨⟨splice_lt O.1 hy, .inr ⟨g, rfl, O.row.1, ?_, .inr ⟨g, cap, (splice cur off (ys.map fun y => Value.int .u8 (y : Nat))).toArray, by rw [hl], O.row.1, ?_, by rw [hl]; exact hcap.1, hcap.2, ?_, ?_⟩⟩⟩, ⟨rfl, rfl, rfl, by simp [World.setRow], fun k _ hk => setRow_other w g k _ (fun e => hk (by rw [e]))⟩⟩
  · rw [List.length_map, Nat.mul_one]
  · have h := setRow_heap w g cur.toArray (cur.toArray.toList.take off ++ ((ys.map fun y => Value.int .u8 (y : Nat)) ++ cur.toArray.toList.drop (off + (ys.map fun y => Value.int .u8 (y : Nat)).length))).toArray 5 (0, 0) hg
    rw [h]; rfl
  · rw [List.size_toArray, length_splice _ _ _ (by rw [List.length_map]; omega), Nat.mul_one, hcl]
  · show ((splice cur off _)).take _ = _
    rw [Nat.mul_one, hl, splice_map]
    exact splice_take _ _ _ _ _ hct (by rw [List.length_map]) (by rw [List.length_map]; exact hfit)

/-- 'copy': as many octets as the source has go over; there is room for them. -/
theorem wp_copy_bts {w : World} {o : Oper} {act : Act} {K : Act → World → Prop} {Q : Exit → Act → World → Prop} (d s : Operand)
    (ho : o.op = .call { callee := .builtin .copy, args := #[d, s], argTypes := #[22, 22] }) (B g off dLen dCap cap : Nat) {b : Option Addr} {dp : Option Addr} {xs ys : List Nat} {sLen sCap : Nat}
    (hd : act.eval d = .slice dp dLen dCap) (hs : act.eval s = .slice b sLen sCap) (hsl : sLen = ys.length) (hle : ys.length ≤ dLen) (O : OwnSl B (some ⟨g, 0, none⟩) xs cap w) (Y : Bts w b ys) (hdp : 0 < ys.length → dp = some ⟨g, off, none⟩) (hfit : off + ys.length ≤ xs.length)
    (h : ∀ w', OwnSl B (some ⟨g, 0, none⟩) (splice xs off ys) cap w' → w.grownBy w' (some g) → K (act.put o.dst (goInt ys.length)) w') : Oper.wp Try.prog o act w K Q := by
  subst hsl
  obtain ⟨cur, hg, hcl, hct⟩ := O.blk
  by_cases h0 : ys.length = 0
  · obtain rfl : ys = [] := List.eq_nil_of_length_eq_zero h0
    have hrun := run_copy_none (P := Try.prog) w 22 22 o.type 5 dp b dLen dCap 0 sCap Try.underlying22 size5 (Nat.zero_min _)
    unfold Oper.wp
    simp [execOp, ho, resolve, invoke, builtin, hd, hs, hrun, Result.andThen]
    exact h w (by simpa [splice] using O) ⟨rfl, rfl, rfl, Nat.le_refl _, fun _ _ _ => rfl⟩
  · obtain ⟨b', off', e, _, _⟩ := Y.isSome (by omega)
    subst e
    obtain rfl := hdp (by omega)
    have hc := O.copied Y.1 hg hcl hct hfit
    have hrun := run_copy_row (P := Try.prog) w 22 22 o.type 5 g off dLen dCap _ ys.length sCap cur.toArray 5 (ys.map fun y => Value.int .u8 (y : Nat)) Try.underlying22 size5 hg (by rw [List.length_map]; exact (Nat.min_eq_left hle).symm) Y.src (by rw [List.length_map, List.size_toArray]; have := O.capLe; omega) (by simp [Value.oneCell'])
    have h2 := h _ hc.1 hc.2
    unfold Oper.wp
    simp only [execOp, ho, resolve, invoke, builtin] at hrun ⊢
    simp [hd, hs, hrun, Result.andThen] at h2 ⊢
    exact h2

theorem wpList_copy_bts {w : World} {ops : Array Oper} {rest : List Oper} {o : Oper} {act : Act} {Q : Exit → Act → World → Prop} (hgd : o.guard = none) (d s : Operand)
    (ho : o.op = .call { callee := .builtin .copy, args := #[d, s], argTypes := #[22, 22] }) (B g off dLen dCap cap : Nat) {b : Option Addr} {dp : Option Addr} {xs ys : List Nat} {sLen sCap : Nat}
    (hd : act.eval d = .slice dp dLen dCap) (hs : act.eval s = .slice b sLen sCap) (hsl : sLen = ys.length) (hle : ys.length ≤ dLen) (O : OwnSl B (some ⟨g, 0, none⟩) xs cap w) (Y : Bts w b ys) (hdp : 0 < ys.length → dp = some ⟨g, off, none⟩) (hfit : off + ys.length ≤ xs.length)
    (h : ∀ w', OwnSl B (some ⟨g, 0, none⟩) (splice xs off ys) cap w' → w.grownBy w' (some g) → wpList Try.prog ops Q rest (act.put o.dst (goInt ys.length)) w') : wpList Try.prog ops Q (o :: rest) act w :=
  wpList_plain hgd fun _ hK => wp_copy_bts d s ho B g off dLen dCap cap hd hs hsl hle O Y hdp hfit fun w' h1 h2 => hK _ _ (h w' h1 h2)

/-- The same at a step of a region that draws its order. -/
theorem step_copy_bts {w : World} {ops : Array Oper} {o : Oper} {act : Act} {K : Act → World → Prop} {Q : Exit → Act → World → Prop} {E : Prop} (hgd : o.guard = none) (d s : Operand)
    (ho : o.op = .call { callee := .builtin .copy, args := #[d, s], argTypes := #[22, 22] }) (B g off dLen dCap cap : Nat) {b : Option Addr} {dp : Option Addr} {xs ys : List Nat} {sLen sCap : Nat}
    (hd : act.eval d = .slice dp dLen dCap) (hs : act.eval s = .slice b sLen sCap) (hsl : sLen = ys.length) (hle : ys.length ≤ dLen) (O : OwnSl B (some ⟨g, 0, none⟩) xs cap w) (Y : Bts w b ys) (hdp : 0 < ys.length → dp = some ⟨g, off, none⟩) (hfit : off + ys.length ≤ xs.length)
    (h : ∀ w', OwnSl B (some ⟨g, 0, none⟩) (splice xs off ys) cap w' → w.grownBy w' (some g) → K (act.put o.dst (goInt ys.length)) w') : if Region.wanted o (yielded ops act.tmps) = true then Oper.wp Try.prog o act w K Q else E := by
  have hw : Region.wanted o (yielded ops act.tmps) = true := by simp [Region.wanted, hgd]
  rw [if_pos hw]
  exact wp_copy_bts d s ho B g off dLen dCap cap hd hs hsl hle O Y hdp hfit h

/-- What is behind a copy, below a row of one's own. -/
theorem OwnSl.belowOf {B g cap : Nat} {xs : List Nat} {w w' : World} (O : OwnSl B (some ⟨g, 0, none⟩) xs cap w) (h : w.grownBy w' (some g)) : Below B w w' :=
  (Below.refl _ _).grown h (Nat.le_trans O.row.1 (Nat.le_of_lt (O.row.2.lt g rfl).2)) (fun k e => by cases e; exact O.row.1)

theorem grown_block {w w' : World} {g k : Nat} {o : Obj} (h : w.grownBy w' (some g)) (hk : w.heap[k]? = some o) (hne : k ≠ g) : w'.heap[k]? = some o :=
  (h.block k (Array.getElem?_eq_some_iff.1 hk).1 (fun e => hne (Option.some.inj e))).trans hk

theorem grown_of_below {w w' w2 : World} {g : Nat} (h : Below w.heap.size w w') (h2 : w'.grownBy w2 (some g)) : w.grownBy w2 (some g) :=
  ⟨h2.os.trans h.os, h2.tape.trans h.tape, h2.output.trans h.output, Nat.le_trans h.size h2.size, fun k hk hne => (h2.block k (Nat.lt_of_lt_of_le hk h.size) hne).trans (h.block k hk)⟩

/-- Octets that lie elsewhere lie on. -/
theorem Bts.grown {w w' : World} {b off g : Nat} {xs : List Nat} (h : Bts w (some ⟨b, off, none⟩) xs) (hg : w.grownBy w' (some g)) (hne : b ≠ g) : Bts w' (some ⟨b, off, none⟩) xs := by
  refine ⟨h.1, ?_⟩
  rcases h.2 with h0 | ⟨b', off', e, hlt, hc⟩
  · exact .inl h0
  · cases e
    exact .inr ⟨b, off, rfl, Nat.lt_of_lt_of_le hlt hg.size, fun i hi => hg.cell (hc i hi) (fun e => hne (Option.some.inj e))⟩

theorem splice_app {α : Type} (P R cs : List α) (off : Nat) (hP : P.length = off) : splice (P ++ R) off cs = P ++ cs ++ R.drop cs.length := by
  subst hP
  unfold splice
  rw [List.take_left, ← List.drop_drop, List.drop_left, List.append_assoc]
/-- A list that 'make' made. -/
theorem own_made {B g n : Nat} {w : World} (h : w.ownsRow B 5 1 (.slice (some ⟨g, 0, none⟩) n n) n (madeCells (Value.int .u8 0).cells (n * 1)).toList) (hB : B ≤ g) : OwnSl B (some ⟨g, 0, none⟩) (List.replicate n 0) n w := by
  refine ⟨fun x hx => ?_, .inr ⟨g, rfl, hB, ?_⟩⟩
  · obtain ⟨_, rfl⟩ := List.mem_replicate.1 hx; omega
  · rw [List.length_replicate, List.map_replicate]
    rw [made_list _ rfl, Nat.mul_one] at h
    exact h
end Go.Proofs.Ytokfadlgiimaoaa
