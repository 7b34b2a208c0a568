/- Rows of elements of m cells each, cell by cell: copies, clears and appends in place or to a new row. -/
import Derived.Test.YtknebjfdggimcaaGMid
import Derived.Test.YtknebjfdggimcaaGOwn
import Derived.Lib.AppendZerosOnto
import Derived.Lib.SliceRun
import Derived.Laws.CopyOwn
namespace Go.Proofs.Ytknebjfdggimcaa
open Go.RowKit

theorem spl_len {L cs : List Value} {o : Nat} (h : o + cs.length ≤ L.length) : (splice L o cs).length = L.length := by
  unfold splice; simp only [List.length_append, List.length_take, List.length_drop]; omega
theorem spl_get? {L cs : List Value} {o : Nat} (h : o + cs.length ≤ L.length) (i : Nat) : (splice L o cs)[i]? = if o ≤ i ∧ i < o + cs.length then cs[i - o]? else L[i]? := by
  unfold splice
  have hl : (L.take o).length = o := by rw [List.length_take]; omega
  by_cases h1 : i < o
  · rw [List.getElem?_append_left (by omega), List.getElem?_take, if_pos h1, if_neg (by omega)]
  · rw [List.getElem?_append_right (by omega), hl]
    by_cases h2 : i - o < cs.length
    · rw [List.getElem?_append_left h2, if_pos (by omega)]
    · rw [List.getElem?_append_right (by omega), List.getElem?_drop, if_neg (by omega)]; congr 1; omega
/-- A row as it lies. -/
def Rw (g : Nat) (e : TypeId) (L : List Value) (w : World) : Prop := w.heap[g]? = some (.cells L.toArray e (0, 0))
theorem rw_set {g : Nat} {e : TypeId} {L : List Value} {w : World} (R : Rw g e L w) (o : Nat) (vs : List Value) (h : o + vs.length ≤ L.length) : Rw g e (splice L o vs) (w.setCells g o vs) ∧ w.grownBy (w.setCells g o vs) (some g) := by
  obtain ⟨cs', h1, h2, h3, h4⟩ := setCells_b vs o w _ R
  refine ⟨?_, h4⟩
  unfold Rw
  rw [h1]
  congr 2
  apply Array.ext_getElem?
  intro i
  by_cases hi : i < L.length
  · rw [h3 i (by simpa using hi)]
    simp only [List.getElem?_toArray]
    rw [spl_get? h]
  · rw [Array.getElem?_eq_none (by rw [h2]; simpa using hi), Array.getElem?_eq_none (by simp only [List.size_toArray]; rw [spl_len h]; omega)]
theorem Rw.cell {g : Nat} {e : TypeId} {L : List Value} {w : World} (R : Rw g e L w) (i : Nat) : w.cell? ⟨g, i, none⟩ = L[i]? := by
  rw [blk_cell R i]; simp
theorem Rw.free {g : Nat} {e : TypeId} {L : List Value} {w : World} (R : Rw g e L w) (i : Nat) : w.frozen? ⟨g, i, none⟩ = false := blk_free R i
theorem Rw.lt {g : Nat} {e : TypeId} {L : List Value} {w : World} (R : Rw g e L w) : g < w.heap.size := blk_lt R
/-- .. where it is read. -/
theorem Rw.src {g : Nat} {e : TypeId} {L : List Value} {w : World} (R : Rw g e L w) (o : Nat) (cs : List Value) (h : ∀ j v, cs[j]? = some v → L[o + j]? = some v) : ∀ j v, cs[j]? = some v → w.cell? ((⟨g, o, none⟩ : Addr).add j) = some v := by
  intro j v hv
  have e : (⟨g, o, none⟩ : Addr).add j = ⟨g, o + j, none⟩ := by unfold Addr.add; split <;> simp_all
  rw [e, R.cell]; exact h j v hv

section
variable {α : Type} {m : Nat} {cells : α → List Value} {e : TypeId} {B : Nat} {cap : Nat} {xs : List α} {w w' : World}
theorem OwnR.rw {g : Nat} (O : OwnR e m cells B (some ⟨g, 0, none⟩) xs cap w) : ∃ L, Rw g e L w ∧ L.length = cap * m ∧ L.take (xs.length * m) = xs.flatMap cells ∧ B ≤ g ∧ xs.length ≤ cap ∧ cap ≤ maxLen := by
  rcases O with ⟨h, _⟩ | ⟨g', h, hB, hl, ⟨h0, _⟩ | ⟨g', cap', cur, h', hB', hb, hc, hm, hs, ht⟩⟩
  · cases h
  · cases h0
  · simp only [Value.slice.injEq, Option.some.injEq, Addr.mk.injEq] at h h'
    obtain ⟨rfl, _, _⟩ := h
    obtain ⟨⟨rfl, _, _⟩, _, rfl⟩ := h'
    exact ⟨cur.toList, by unfold Rw; simpa using hb, by simpa using hs, ht, hB, hc, hm⟩
theorem OwnR.of_rw (E : Enc m cells) {g : Nat} {L : List Value} (R : Rw g e L w) (hs : L.length = cap * m) (ht : L.take (xs.length * m) = xs.flatMap cells) (hB : B ≤ g) (hc : xs.length ≤ cap) (hm : cap ≤ maxLen) : OwnR e m cells B (some ⟨g, 0, none⟩) xs cap w :=
  .inr ⟨g, rfl, hB, flat_len E xs, .inr ⟨g, cap, L.toArray, rfl, hB, R, hc, hm, by simpa using hs, ht⟩⟩
end

section
variable {t e : TypeId} {z : Value} {m bz : Nat} {w : World}
theorem run_copyK (D : Elem t e z m bz) (ty : TypeId) {g off dLen dCap sLen sCap : Nat} {a : Addr} {cs L : List Value} (R : Rw g e L w) (hl : cs.length = min sLen dLen * m) (hsrc : ∀ j v, cs[j]? = some v → w.cell? (a.add j) = some v)
    (h1 : ∀ v ∈ cs, v.oneCell' = true) (hfit : off + cs.length ≤ L.length) :
    (Builtin.copy_ #[t, t] ty #[.slice (some ⟨g, off, none⟩) dLen dCap, .slice (some a) sLen sCap]).run Try.prog w = .ok (goInt ((min sLen dLen : Nat) : Int)) (w.setCells g off cs) := by
  have hld := run_loadCells_list (P := Try.prog) w a cs hsrc
  have hst := run_storeCells_cells (P := Try.prog) g off cs 0 w (fun j hj => by rw [Nat.add_zero, R.cell, List.getElem?_eq_getElem (by omega)]; rfl) (fun j _ => by rw [Nat.add_zero]; exact R.free _) h1
  obtain ⟨i, hi, _, hz1, _⟩ := info_parts D.inf
  rw [hl] at hld
  simp only [Nat.add_zero] at hst
  simp [Builtin.copy_, run_underlying D.und, Builtin.lenOf, Builtin.firstCells, sizeOf, typeInfo, hi, hz1, hld, hst]
theorem wp_copyK {o : Oper} {act : Act} {K : Act → World → Prop} {Q : Exit → Act → World → Prop} (D : Elem t e z m bz) (d s : Operand)
    (ho : o.op = .call { callee := .builtin .copy, args := #[d, s], argTypes := #[t, t] }) {g off dLen dCap sLen sCap : Nat} {dd sd : Option Addr} {cs L : List Value}
    (hd : act.eval d = .slice dd dLen dCap) (hdd : dd = some ⟨g, off, none⟩) (hs : act.eval s = .slice sd sLen sCap)
    (R : Rw g e L w) (hl : cs.length = min sLen dLen * m) (hsrc : ∃ a, sd = some a ∧ ∀ j v, cs[j]? = some v → w.cell? (a.add j) = some v)
    (h1 : ∀ v ∈ cs, v.oneCell' = true) (hfit : off + cs.length ≤ L.length)
    (h : ∀ w', Rw g e (splice L off cs) w' → w.grownBy w' (some g) → K (act.put o.dst (goInt ((min sLen dLen : Nat) : Int))) w') : Oper.wp Try.prog o act w K Q := by
  subst hdd
  obtain ⟨a, rfl, hsrc⟩ := hsrc
  have hr := run_copyK D o.type R hl hsrc h1 hfit (dCap := dCap) (sCap := sCap)
  obtain ⟨e1, e2⟩ := rw_set R off cs hfit
  unfold Oper.wp execOp
  simp only [ho, resolve, invoke, builtin, Sem.run_bind, Sem.run_pure, Result.andThen_ok, List.map_toArray, List.map_cons, List.map_nil, hd, hs, hr]
  exact h _ e1 e2
theorem wpList_copyK {ops : Array Oper} {rest : List Oper} {o : Oper} {act : Act} {Q : Exit → Act → World → Prop} (hgd : o.guard = none) (D : Elem t e z m bz) (d s : Operand)
    (ho : o.op = .call { callee := .builtin .copy, args := #[d, s], argTypes := #[t, t] }) {g off dLen dCap sLen sCap : Nat} {dd sd : Option Addr} {cs L : List Value}
    (hd : act.eval d = .slice dd dLen dCap) (hdd : dd = some ⟨g, off, none⟩) (hs : act.eval s = .slice sd sLen sCap)
    (R : Rw g e L w) (hl : cs.length = min sLen dLen * m) (hsrc : ∃ a, sd = some a ∧ ∀ j v, cs[j]? = some v → w.cell? (a.add j) = some v)
    (h1 : ∀ v ∈ cs, v.oneCell' = true) (hfit : off + cs.length ≤ L.length)
    (h : ∀ w', Rw g e (splice L off cs) w' → w.grownBy w' (some g) → wpList Try.prog ops Q rest (act.put o.dst (goInt ((min sLen dLen : Nat) : Int))) w') : wpList Try.prog ops Q (o :: rest) act w :=
  wpList_plain hgd fun _ hK => wp_copyK D d s ho hd hdd hs R hl hsrc h1 hfit fun w' a b => hK _ _ (h w' a b)
theorem step_copyK {ops : Array Oper} {o : Oper} {act : Act} {K : Act → World → Prop} {Q : Exit → Act → World → Prop} {E0 : Prop} (hgd : o.guard = none) (D : Elem t e z m bz) (d s : Operand)
    (ho : o.op = .call { callee := .builtin .copy, args := #[d, s], argTypes := #[t, t] }) {g off dLen dCap sLen sCap : Nat} {dd sd : Option Addr} {cs L : List Value}
    (hd : act.eval d = .slice dd dLen dCap) (hdd : dd = some ⟨g, off, none⟩) (hs : act.eval s = .slice sd sLen sCap)
    (R : Rw g e L w) (hl : cs.length = min sLen dLen * m) (hsrc : ∃ a, sd = some a ∧ ∀ j v, cs[j]? = some v → w.cell? (a.add j) = some v)
    (h1 : ∀ v ∈ cs, v.oneCell' = true) (hfit : off + cs.length ≤ L.length)
    (h : ∀ w', Rw g e (splice L off cs) w' → w.grownBy w' (some g) → K (act.put o.dst (goInt ((min sLen dLen : Nat) : Int))) w') : if Region.wanted o (yielded ops act.tmps) = true then Oper.wp Try.prog o act w K Q else E0 := by
  have hw : Region.wanted o (yielded ops act.tmps) = true := by simp [Region.wanted, hgd]
  rw [if_pos hw]
  exact wp_copyK D d s ho hd hdd hs R hl hsrc h1 hfit h

/-- An append in place. -/
theorem wp_appF {o : Oper} {act : Act} {K : Act → World → Prop} {Q : Exit → Act → World → Prop} (D : Elem t e z m bz) (s x : Operand)
    (ho : o.op = .call { callee := .builtin .append, args := #[s, x], argTypes := #[t, t] }) {g n cap k c : Nat} {sd : Option Addr} {cs L : List Value}
    (hs : act.eval s = .slice (some ⟨g, 0, none⟩) n cap) (hx : act.eval x = .slice sd k c) (R : Rw g e L w) (hl : cs.length = k * m) (hsrc : ∃ a, sd = some a ∧ ∀ j v, cs[j]? = some v → w.cell? (a.add j) = some v)
    (h1 : ∀ v ∈ cs, v.oneCell' = true) (hroom : n + k ≤ cap) (hfit : n * m + cs.length ≤ L.length)
    (h : ∀ w', Rw g e (splice L (n * m) cs) w' → w.grownBy w' (some g) → K (act.put o.dst (.slice (some ⟨g, 0, none⟩) (n + k) cap)) w') : Oper.wp Try.prog o act w K Q := by
  obtain ⟨a, rfl, hsrc⟩ := hsrc
  obtain ⟨i, hi, _, hz1, _⟩ := info_parts D.inf
  have hr := run_append_room (P := Try.prog) w t o.type e i D.und hi g n cap L.toArray R a k c cs (by rw [hz1]; exact hl) hsrc h1 hroom (by rw [hz1]; simpa using hfit)
  rw [hz1] at hr
  have hh : (w.setRow g (L.toArray.toList.take (n * m) ++ cs ++ L.toArray.toList.drop (n * m + cs.length)).toArray).heap[g]? = _ := setRow_heap w g L.toArray _ e _ R
  have h2 := h (w.setRow g (L.toArray.toList.take (n * m) ++ cs ++ L.toArray.toList.drop (n * m + cs.length)).toArray) (by unfold Rw; rw [hh]; simp [splice]) ⟨rfl, rfl, rfl, by simp, fun k _ hk => setRow_other w g k _ (fun e => hk (by simp [e]))⟩
  exact Lib.wp_append_run w s x t t ho _ _ hs hx _ _ hr h2
theorem wpList_appF {ops : Array Oper} {rest : List Oper} {o : Oper} {act : Act} {Q : Exit → Act → World → Prop} (hgd : o.guard = none) (D : Elem t e z m bz) (s x : Operand)
    (ho : o.op = .call { callee := .builtin .append, args := #[s, x], argTypes := #[t, t] }) {g n cap k c : Nat} {sd : Option Addr} {cs L : List Value}
    (hs : act.eval s = .slice (some ⟨g, 0, none⟩) n cap) (hx : act.eval x = .slice sd k c) (R : Rw g e L w) (hl : cs.length = k * m) (hsrc : ∃ a, sd = some a ∧ ∀ j v, cs[j]? = some v → w.cell? (a.add j) = some v)
    (h1 : ∀ v ∈ cs, v.oneCell' = true) (hroom : n + k ≤ cap) (hfit : n * m + cs.length ≤ L.length)
    (h : ∀ w', Rw g e (splice L (n * m) cs) w' → w.grownBy w' (some g) → wpList Try.prog ops Q rest (act.put o.dst (.slice (some ⟨g, 0, none⟩) (n + k) cap)) w') : wpList Try.prog ops Q (o :: rest) act w :=
  wpList_plain hgd fun _ hK => wp_appF D s x ho hs hx R hl hsrc h1 hroom hfit fun w' a b => hK _ _ (h w' a b)
theorem step_appF {ops : Array Oper} {o : Oper} {act : Act} {K : Act → World → Prop} {Q : Exit → Act → World → Prop} {E0 : Prop} (hgd : o.guard = none) (D : Elem t e z m bz) (s x : Operand)
    (ho : o.op = .call { callee := .builtin .append, args := #[s, x], argTypes := #[t, t] }) {g n cap k c : Nat} {sd : Option Addr} {cs L : List Value}
    (hs : act.eval s = .slice (some ⟨g, 0, none⟩) n cap) (hx : act.eval x = .slice sd k c) (R : Rw g e L w) (hl : cs.length = k * m) (hsrc : ∃ a, sd = some a ∧ ∀ j v, cs[j]? = some v → w.cell? (a.add j) = some v)
    (h1 : ∀ v ∈ cs, v.oneCell' = true) (hroom : n + k ≤ cap) (hfit : n * m + cs.length ≤ L.length)
    (h : ∀ w', Rw g e (splice L (n * m) cs) w' → w.grownBy w' (some g) → K (act.put o.dst (.slice (some ⟨g, 0, none⟩) (n + k) cap)) w') : if Region.wanted o (yielded ops act.tmps) = true then Oper.wp Try.prog o act w K Q else E0 := by
  have hw : Region.wanted o (yielded ops act.tmps) = true := by simp [Region.wanted, hgd]
  rw [if_pos hw]
  exact wp_appF D s x ho hs hx R hl hsrc h1 hroom hfit h

set_option maxRecDepth 100000 in
/-- Zeros appended, to a new row. -/
theorem wpList_appZ {ops : Array Oper} {rest : List Oper} {o : Oper} {act : Act} {Q : Exit → Act → World → Prop} {tn : TypeId} {kn kq : IntKind} (hgd : o.guard = none) (D : Elem t e z m bz) (htn : Try.prog.underlying tn = some (.int kn)) (s x : Operand)
    (ho : o.op = .call { callee := .builtin .append, args := #[s, x], argTypes := #[t, tn] }) {n cap k : Nat} {a : Addr} {cs : List Value}
    (hs : act.eval s = .slice (some a) n cap) (hx : act.eval x = .int kq (k : Nat)) (hl : cs.length = n * m) (hsrc : ∀ j v, cs[j]? = some v → w.cell? (a.add j) = some v) (h0 : 0 < k) (hg : cap < n + k)
    (hsm : n + k ≤ 1000000) (hbz : bz ≤ 1000)
    (h : ∀ c' zs, n + k ≤ c' → c' ≤ maxLen → zs.length = (c' - n) * m → ∀ w', Rw w.heap.size e (cs ++ zs) w' → Below w.heap.size w w' → wpList Try.prog ops Q rest (act.put o.dst (.slice (some ⟨w.heap.size, 0, none⟩) (n + k) c')) w') : wpList Try.prog ops Q (o :: rest) act w := by
  obtain ⟨i, hi, hz0, hz1, hz2⟩ := info_parts D.inf
  have hf := run_firstCells_some (P := Try.prog) w.drew i.size n a n cap cs (by rw [hz1]; exact hl) hsrc
  have h48 : (n + k) * bz ≤ 1000000 * 1000 := Nat.mul_le_mul hsm hbz
  have h481 : k * bz ≤ 1000000 * 1000 := Nat.mul_le_mul (by omega) hbz
  have hfit := growslice_fits (need := n + k) (old := cap) (bytes := bz) hg (by omega)
  have hr := Lib.run_append_grow_zeros (P := Try.prog) w t tn o.type e i z kq kn D.und htn hi hz0 (some a) n cap cs hf k h0 (by rw [hz1]; exact D.pos) hg (by omega) (by rw [hz2]; omega) (by rw [hz2]; exact hfit)
  have hge := grownCap_ge w (n + k) cap e
  have hml := grownCap_le_maxLen w (n + k) cap e (by unfold maxLen; omega)
  generalize grownCap w (n + k) cap e = c' at hr hge hml
  have h2 := h c' (Builtin.zeroCells z.cells k ++ Builtin.zeroCells z.cells (c' - (n + k))).toList hge hml (by
    simp only [Builtin.zeroCells, D.zs]
    simp only [Array.toList_append, List.length_append, Array.length_toList, Array.size_map, Array.size_range]
    rw [← Nat.add_mul]; congr 1; omega) (w.drew.alloc (.cells (cs.toArray ++ Builtin.zeroCells z.cells k ++ Builtin.zeroCells z.cells (c' - (n + k))) e)) (by
      unfold Rw
      have : (w.drew.alloc (.cells (cs.toArray ++ Builtin.zeroCells z.cells k ++ Builtin.zeroCells z.cells (c' - (n + k))) e)).heap[w.heap.size]? = _ := heap_alloc_new w.drew _
      rw [this]; congr 2; simp) ((Below.refl _ _).drew.alloc (Nat.le_refl _) _)
  exact Lib.wpList_append_run w hgd s x t tn ho _ _ hs hx _ _ hr h2
/-- A clear: what lies there is some m cells each. -/
theorem run_clearK (D : Elem t e z m bz) (h1 : ∀ v ∈ z.cells.toList, v.oneCell' = true) (ty : TypeId) {g off n c : Nat} {L : List Value} (R : Rw g e L w) (hn : 0 < n) (hfit : off + n * m ≤ L.length) :
    ∃ zs : List Value, zs.length = n * m ∧ (Builtin.clear_ #[t] ty #[.slice (some ⟨g, off, none⟩) n c]).run Try.prog w = .ok (.tuple #[]) (w.setCells g off zs) := by
  obtain ⟨i, hi, hz0, hz1, hz2⟩ := info_parts D.inf
  have hzl : (Builtin.zeroCells z.cells n).toList.length = n * m := by simp only [Builtin.zeroCells, D.zs, Array.length_toList, Array.size_map, Array.size_range]
  have hz1c : ∀ v ∈ (Builtin.zeroCells z.cells n).toList, v.oneCell' = true := by
    intro v hv
    simp only [Builtin.zeroCells, Array.mem_toList_iff, Array.mem_map, Array.mem_range] at hv
    obtain ⟨j, hj, rfl⟩ := hv
    have hlt : j % z.cells.size < z.cells.size := Nat.mod_lt _ (by rw [D.zs]; exact D.pos)
    rw [getElem!_pos z.cells _ hlt]
    exact h1 _ (by simp)
  have hst := run_storeCells_cells (P := Try.prog) g off (Builtin.zeroCells z.cells n).toList 0 w (fun j hj => by rw [Nat.add_zero, R.cell, List.getElem?_eq_getElem (by omega)]; rfl) (fun j _ => by rw [Nat.add_zero]; exact R.free _) hz1c
  simp only [Nat.add_zero] at hst
  refine ⟨_, hzl, ?_⟩
  obtain ⟨n', rfl⟩ : ∃ n', n = n' + 1 := ⟨n - 1, by omega⟩
  simp [Builtin.clear_, run_underlying D.und, zeroValue, typeInfo, hi, hz0, hst]
theorem wpList_clear0 {ops : Array Oper} {rest : List Oper} {o : Oper} {act : Act} {Q : Exit → Act → World → Prop} (hgd : o.guard = none) (D : Elem t e z m bz) (x : Operand)
    (ho : o.op = .call { callee := .builtin .clear, args := #[x], argTypes := #[t] }) {a : Option Addr} {c : Nat}
    (hx : act.eval x = .slice a 0 c) (h : wpList Try.prog ops Q rest (act.put o.dst (.tuple #[])) w) : wpList Try.prog ops Q (o :: rest) act w := by
  have hr : (Builtin.clear_ #[t] o.type #[.slice a 0 c]).run Try.prog w = .ok (.tuple #[]) w := by
    cases a <;> simp [Builtin.clear_, run_underlying D.und]
  refine wpList_plain hgd fun _ hK => ?_
  unfold Oper.wp execOp
  simp only [ho, resolve, invoke, builtin, Sem.run_bind, Sem.run_pure, Result.andThen_ok, List.map_toArray, List.map_cons, List.map_nil, hx, hr]
  exact hK _ _ h
end
end Go.Proofs.Ytknebjfdggimcaa
