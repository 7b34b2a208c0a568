/- Lists of one's own, of any elements of m cells each: what they hold, appends to them, how they are read. -/
import Derived.Test.YthbiadhnlomhmaaGBase
import Derived.Test.YthbiadhnlomhmaaGSts
import Derived.Laws.AppendOwnNone
import Derived.Deep.RegionHeld3
import Derived.Deep.AppendLies
namespace Go.Proofs.Ythbiadhnlomhmaa
open Go.RowKit

/-- A slice type, its elements' type, their zero value, cells and bytes. -/
structure Elem (t e : TypeId) (z : Value) (m bz : Nat) : Prop where
  und : Try.prog.underlying t = some (.slice e)
  inf : (Try.prog.info? e).map (fun i => (i.zero, i.size, i.bytes)) = some (some z, m, bz)
  zs : z.cells.size = m
  pos : 0 < m

/-- How a thing lies in m cells. -/
structure Enc {α : Type} (m : Nat) (cells : α → List Value) : Prop where
  len : ∀ x, (cells x).length = m
  one : ∀ x, ∀ u ∈ cells x, u.oneCell' = true
  pos : 0 < m

section
variable {α : Type} {m : Nat} {cells : α → List Value}

theorem flat_len (E : Enc m cells) (xs : List α) : (xs.flatMap cells).length = xs.length * m := by
  induction xs with
  | nil => simp
  | cons x xs ih => rw [List.flatMap_cons, List.length_append, E.len, ih, List.length_cons, Nat.succ_mul, Nat.add_comm]

theorem flat_one (E : Enc m cells) (xs : List α) : ∀ u ∈ xs.flatMap cells, u.oneCell' = true := by
  intro u hu
  obtain ⟨x, _, h⟩ := List.mem_flatMap.1 hu
  exact E.one x u h

theorem flat_get (E : Enc m cells) {xs : List α} {i j : Nat} {x : α} {v : Value} (hi : xs[i]? = some x) (hj : (cells x)[j]? = some v) : (xs.flatMap cells)[i * m + j]? = some v := by
  induction xs generalizing i with
  | nil => simp at hi
  | cons y xs ih =>
    have hjl : j < m := by rw [← E.len x]; exact (List.getElem?_eq_some_iff.1 hj).1
    rw [List.flatMap_cons]
    cases i with
    | zero =>
      simp only [List.getElem?_cons_zero, Option.some.injEq] at hi
      subst hi
      rw [Nat.zero_mul, Nat.zero_add, List.getElem?_append_left (by rw [E.len]; exact hjl), hj]
    | succ i =>
      rw [List.getElem?_cons_succ] at hi
      have e : (i + 1) * m + j = (cells y).length + (i * m + j) := by rw [E.len, Nat.succ_mul]; omega
      rw [e, List.getElem?_append_right (by omega), Nat.add_sub_cancel_left]
      exact ih hi

theorem flat_of (E : Enc m cells) {xs : List α} {k : Nat} {v : Value} (h : (xs.flatMap cells)[k]? = some v) : ∃ i j x, k = i * m + j ∧ xs[i]? = some x ∧ (cells x)[j]? = some v := by
  induction xs generalizing k with
  | nil => simp at h
  | cons y xs ih =>
    rw [List.flatMap_cons] at h
    by_cases hk : k < m
    · rw [List.getElem?_append_left (by rw [E.len]; exact hk)] at h
      exact ⟨0, k, y, by omega, rfl, h⟩
    · rw [List.getElem?_append_right (by rw [E.len]; omega), E.len] at h
      obtain ⟨i, j, x, e, h1, h2⟩ := ih h
      exact ⟨i + 1, j, x, by rw [Nat.succ_mul]; omega, by rw [List.getElem?_cons_succ]; exact h1, h2⟩

/-- A list that reads so, as the source of an append. -/
theorem Sts.srcF (E : Enc m cells) {ok : World → α → Prop} {w : World} {ad : Addr} {xs : List α} (h : Sts m cells ok w (some ad) xs) : ∀ j u, (xs.flatMap cells)[j]? = some u → w.cell? (ad.add j) = some u := by
  intro k u hk
  obtain ⟨i, j, x, rfl, h1, h2⟩ := flat_of E hk
  rcases h.2 with rfl | ⟨b, off, e, hb, hc⟩
  · simp at h1
  · cases e
    have e : (⟨b, off, none⟩ : Addr).add (i * m + j) = ⟨b, off + i * m + j, none⟩ := by unfold Addr.add; split <;> simp_all [Nat.add_assoc]
    rw [e]; exact hc i x h1 j u h2

/-- Any. -/
def Tr (_w : World) (_x : α) : Prop := True
theorem Sts.weak {ok : World → α → Prop} {w : World} {a : Option Addr} {xs : List α} (h : Sts m cells ok w a xs) : Sts m cells Tr w a xs := ⟨fun _ _ => trivial, h.2⟩
theorem Sts.belowT {w w' : World} {a : Option Addr} {xs : List α} (h : Sts m cells Tr w a xs) (hb : Below w.heap.size w w') : Sts m cells Tr w' a xs := Sts.below (w := w) (fun _ _ => trivial) h hb
theorem Sts.isSomeT {w : World} {a : Option Addr} {xs : List α} (h : Sts m cells Tr w a xs) (hx : 0 < xs.length) : ∃ b off, a = some ⟨b, off, none⟩ ∧ b < w.heap.size ∧ ∀ (i : Nat) (r : α), xs[i]? = some r → ∀ (j : Nat) (v : Value), (cells r)[j]? = some v → w.cell? ⟨b, off + i * m + j, none⟩ = some v := by
  rcases h.2 with rfl | h
  · simp at hx
  · exact h
/-- What is built on the spot. -/
theorem sts_new (E : Enc m cells) (w : World) (xs : List α) (t : TypeId) (fr : Nat × Nat) : Sts m cells Tr (w.alloc (.cells (xs.flatMap cells).toArray t fr)) (some ⟨w.heap.size, 0, none⟩) xs := by
  refine ⟨fun _ _ => trivial, .inr ⟨w.heap.size, 0, rfl, by simp, fun i r hr j v hv => ?_⟩⟩
  have := flat_get E hr hv
  rw [Nat.zero_add]
  simp only [World.cell?, heap_alloc_new]
  simpa using this

/-- A slice, nil or in a row of its own from block B on, of these things. -/
def OwnR (e : TypeId) (m : Nat) (cells : α → List Value) (B : Nat) (a : Option Addr) (xs : List α) (cap : Nat) (w : World) : Prop :=
  (a = none ∧ xs = [] ∧ cap = 0) ∨ ∃ g, a = some ⟨g, 0, none⟩ ∧ B ≤ g ∧ w.ownsRow B e m (.slice (some ⟨g, 0, none⟩) xs.length cap) xs.length (xs.flatMap cells)

variable {e : TypeId} {B : Nat} {a : Option Addr} {xs : List α} {cap : Nat} {w w' : World}
theorem ownR_nil (e : TypeId) (m : Nat) (cells : α → List Value) (B : Nat) (w : World) : OwnR e m cells B none [] 0 w := .inl ⟨rfl, rfl, rfl⟩
theorem OwnR.keepRow (h : OwnR e m cells B a xs cap w) (hk : ∀ g o, a = some ⟨g, 0, none⟩ → w.heap[g]? = some o → w'.heap[g]? = some o) : OwnR e m cells B a xs cap w' := by
  rcases h with h | ⟨g, rfl, hB, hr⟩
  · exact .inl h
  · refine .inr ⟨g, rfl, hB, hr.1, ?_⟩
    rcases hr.2 with h0 | ⟨g', cap', cur, e', h1, h2, h3⟩
    · exact .inl h0
    · have e2 := e'
      simp only [Value.slice.injEq, Option.some.injEq, Addr.mk.injEq] at e2
      obtain ⟨⟨rfl, _, _⟩, _, _⟩ := e2
      exact .inr ⟨g, cap', cur, e', h1, hk g _ rfl h2, h3⟩
theorem OwnR.below (h : OwnR e m cells B a xs cap w) (hb : Below w.heap.size w w') : OwnR e m cells B a xs cap w' :=
  h.keepRow fun g _ _ ho => (hb.block g (blk_lt ho)).trans ho
theorem OwnR.mono {B' : Nat} (h : OwnR e m cells B a xs cap w) (hb : B' ≤ B) : OwnR e m cells B' a xs cap w := by
  rcases h with h | ⟨g, rfl, hB, hr⟩
  · exact .inl h
  · refine .inr ⟨g, rfl, by omega, hr.1, ?_⟩
    rcases hr.2 with h0 | ⟨g', cap', cur, e', h1, h2⟩
    · exact .inl h0
    · exact .inr ⟨g', cap', cur, e', by omega, h2⟩
theorem OwnR.nilcap (h : OwnR e m cells B a xs cap w) : a = none → cap = 0 := by
  rcases h with ⟨_, _, h⟩ | ⟨g, ha, _⟩
  · exact fun _ => h
  · intro h; rw [ha] at h; cases h
theorem OwnR.rowAny (h : OwnR e m cells B a xs cap w) : w.ownsRow B e m (.slice a xs.length cap) xs.length (xs.flatMap cells) := by
  rcases h with ⟨rfl, rfl, rfl⟩ | ⟨g, rfl, _, hr⟩
  · exact World.ownsRow_nil _ _ _ _
  · exact hr
theorem OwnR.of_row {v : Value} (h : w.ownsRow B e m v xs.length (xs.flatMap cells)) : ∃ a cap, v = .slice a xs.length cap ∧ OwnR e m cells B a xs cap w := by
  rcases h.2 with ⟨rfl, h0⟩ | ⟨g, cap', cur, rfl, hB, h2⟩
  · obtain rfl : xs = [] := List.eq_nil_of_length_eq_zero h0
    exact ⟨none, 0, rfl, .inl ⟨rfl, rfl, rfl⟩⟩
  · exact ⟨some ⟨g, 0, none⟩, cap', rfl, .inr ⟨g, rfl, hB, h⟩⟩
theorem OwnR.ownB (h : OwnR e m cells B a xs cap w) : ∀ k, (Value.slice a xs.length cap).ownBlock = some k → B ≤ k ∧ k < w.heap.size := by
  rcases h with ⟨rfl, rfl, rfl⟩ | ⟨g, rfl, hB, hr⟩
  · intro k e; cases e
  · intro k e; cases e; exact ⟨hB, (hr.lt g rfl).2⟩
/-- .. lies on where another block is turned. -/
theorem OwnR.grown {r : Option Nat} (h : OwnR e m cells B a xs cap w) (hg : w.grownBy w' r) (hne : ∀ g, a = some ⟨g, 0, none⟩ → some g ≠ r) : OwnR e m cells B a xs cap w' :=
  h.keepRow fun g _ ha ho => (hg.block g (blk_lt ho) (hne g ha)).trans ho
theorem OwnR.sts (E : Enc m cells) (h : OwnR e m cells B a xs cap w) : Sts m cells Tr w a xs := by
  rcases h with ⟨_, rfl, _⟩ | ⟨g, rfl, _, hr⟩
  · exact Sts.nil _ _
  · refine ⟨fun _ _ => trivial, .inr ⟨g, 0, rfl, (hr.lt g rfl).2, fun i r hi j v hj => ?_⟩⟩
    have := hr.cells (g := g) rfl _ _ (flat_get E hi hj)
    rw [Nat.zero_add]
    have e : (⟨g, 0, none⟩ : Addr).add (i * m + j) = ⟨g, i * m + j, none⟩ := by unfold Addr.add; split <;> simp_all
    rwa [e] at this
theorem OwnR.capLe (h : OwnR e m cells B a xs cap w) : xs.length ≤ cap ∧ cap ≤ maxLen := by
  rcases h with ⟨_, rfl, rfl⟩ | ⟨g, rfl, _, hr⟩
  · exact ⟨Nat.le_refl _, Nat.zero_le _⟩
  · rcases hr.2 with ⟨h, _⟩ | ⟨g', cap', cur, e, _, _, h1, h2, _⟩
    · cases h
    · cases e; exact ⟨h1, h2⟩
theorem OwnR.isSome (h : OwnR e m cells B a xs cap w) (hx : 0 < xs.length) : ∃ g, a = some ⟨g, 0, none⟩ ∧ B ≤ g ∧ g < w.heap.size := by
  rcases h with ⟨_, rfl, _⟩ | ⟨g, rfl, hB, hr⟩
  · simp at hx
  · exact ⟨g, rfl, hB, (hr.lt g rfl).2⟩
/-- A literal list is one's own. -/
theorem ownR_new (E : Enc m cells) (e : TypeId) (w : World) (xs : List α) (hl : xs.length ≤ maxLen) : OwnR e m cells w.heap.size (some ⟨w.heap.size, 0, none⟩) xs xs.length (w.alloc (.cells (xs.flatMap cells).toArray e)) := by
  refine .inr ⟨w.heap.size, rfl, Nat.le_refl _, flat_len E xs, .inr ⟨w.heap.size, xs.length, (xs.flatMap cells).toArray, rfl, Nat.le_refl _, heap_alloc_new w _, Nat.le_refl _, hl, by simp [flat_len E], ?_⟩⟩
  exact List.take_of_length_le (by simp [flat_len E])

/-- An append. -/
theorem wp_append_r {o : Oper} {act : Act} {K : Act → World → Prop} {Q : Exit → Act → World → Prop} {t : TypeId} {z : Value} {bz : Nat} (L : Elem t e z m bz) (E : Enc m cells) (s x : Operand)
    (ho : o.op = .call { callee := .builtin .append, args := #[s, x], argTypes := #[t, t] }) (B : Nat) {a b : Option Addr} {xs ys : List α} {cap dap n : Nat} (hn : n = ys.length)
    (O : OwnR e m cells B a xs cap w) (Y : Sts m cells Tr w b ys) (hd : b = none → dap = 0) (hs : act.eval s = .slice a xs.length cap) (hx : act.eval x = .slice b n dap)
    (hlen : (xs.length + ys.length) * bz ≤ 140737488355328) (hml : xs.length + ys.length ≤ maxLen) (hB : B ≤ w.heap.size)
    (h : ∀ a' cap' w', OwnR e m cells B a' (xs ++ ys) cap' w' → Below B w w' → w.grownBy w' (Value.slice a xs.length cap).ownBlock → K (act.put o.dst (.slice a' (xs ++ ys).length cap')) w') : Oper.wp Try.prog o act w K Q := by
  subst hn
  obtain ⟨i0, hi, hz0, hz1, hz2⟩ := info_parts L.inf
  cases b with
  | none =>
    obtain rfl := hd rfl
    have hys : ys = [] := by
      rcases Y.2 with h | ⟨_, _, h, _⟩
      · exact h
      · cases h
    subst hys
    have hrun := run_append_owned_none (P := Try.prog) (w := w) B t o.type e i0 m L.und hi _ _ _ O.rowAny
    have h2 := h a cap w
    rw [List.append_nil] at h2
    unfold Oper.wp
    simp [execOp, ho, resolve, invoke, builtin, hs, hx, hrun, Result.andThen]
    exact h2 O (Below.refl _ _) ⟨rfl, rfl, rfl, Nat.le_refl _, fun _ _ _ => rfl⟩
  | some ad =>
    refine wp_append_own w s x t ho B e i0 z m bz L.und hi hz0 hz1 hz2 L.zs L.pos _ _ _ hs O.rowAny ad ys.length dap (ys.flatMap cells) hx (flat_len E ys) (Y.srcF E) (flat_one E ys) hml hlen hB ?_
    intro v' w' hown hgrow _
    rw [← List.flatMap_append, ← List.length_append] at hown
    obtain ⟨a', cap', rfl, O'⟩ := OwnR.of_row hown
    exact h a' cap' w' O' ((Below.refl _ _).grown hgrow hB (fun k e => (O.ownB k e).1)) hgrow

theorem wpList_append_r {ops : Array Oper} {rest : List Oper} {o : Oper} {act : Act} {Q : Exit → Act → World → Prop} {t : TypeId} {z : Value} {bz : Nat} (hgd : o.guard = none) (L : Elem t e z m bz) (E : Enc m cells) (s x : Operand)
    (ho : o.op = .call { callee := .builtin .append, args := #[s, x], argTypes := #[t, t] }) (B : Nat) {a b : Option Addr} {xs ys : List α} {cap dap n : Nat} (hn : n = ys.length)
    (O : OwnR e m cells B a xs cap w) (Y : Sts m cells Tr w b ys) (hd : b = none → dap = 0) (hs : act.eval s = .slice a xs.length cap) (hx : act.eval x = .slice b n dap)
    (hlen : (xs.length + ys.length) * bz ≤ 140737488355328) (hml : xs.length + ys.length ≤ maxLen) (hB : B ≤ w.heap.size)
    (h : ∀ a' cap' w', OwnR e m cells B a' (xs ++ ys) cap' w' → Below B w w' → w.grownBy w' (Value.slice a xs.length cap).ownBlock → wpList Try.prog ops Q rest (act.put o.dst (.slice a' (xs ++ ys).length cap')) w') : wpList Try.prog ops Q (o :: rest) act w :=
  wpList_plain hgd fun _ hK => wp_append_r L E s x ho B hn O Y hd hs hx hlen hml hB fun a' cap' w' h1 h2 h3 => hK _ _ (h a' cap' w' h1 h2 h3)

/-- At a step of a region that draws its order. -/
theorem step_append_r {ops : Array Oper} {o : Oper} {act : Act} {K : Act → World → Prop} {Q : Exit → Act → World → Prop} {E0 : Prop} {t : TypeId} {z : Value} {bz : Nat} (hgd : o.guard = none) (L : Elem t e z m bz) (E : Enc m cells) (s x : Operand)
    (ho : o.op = .call { callee := .builtin .append, args := #[s, x], argTypes := #[t, t] }) (B : Nat) {a b : Option Addr} {xs ys : List α} {cap dap n : Nat} (hn : n = ys.length)
    (O : OwnR e m cells B a xs cap w) (Y : Sts m cells Tr w b ys) (hd : b = none → dap = 0) (hs : act.eval s = .slice a xs.length cap) (hx : act.eval x = .slice b n dap)
    (hlen : (xs.length + ys.length) * bz ≤ 140737488355328) (hml : xs.length + ys.length ≤ maxLen) (hB : B ≤ w.heap.size)
    (h : ∀ a' cap' w', OwnR e m cells B a' (xs ++ ys) cap' w' → Below B w w' → w.grownBy w' (Value.slice a xs.length cap).ownBlock → K (act.put o.dst (.slice a' (xs ++ ys).length cap')) w') : if Region.wanted o (yielded ops act.tmps) = true then Oper.wp Try.prog o act w K Q else E0 := by
  have hw : Region.wanted o (yielded ops act.tmps) = true := by simp [Region.wanted, hgd]
  rw [if_pos hw]
  exact wp_append_r L E s x ho B hn O Y hd hs hx hlen hml hB h
end

/-- Ints. -/
def IC (x : Int) : List Value := [.int .i64 x]
theorem encI : Enc 1 IC := ⟨fun _ => rfl, fun x u hu => by simp only [IC, List.mem_singleton] at hu; subst hu; rfl, by decide⟩
theorem sts_int {w : World} {b off : Nat} {xs : List Int} (h : Sts 1 IC Tr w (some ⟨b, off, none⟩) xs) (i : Nat) (hi : i < xs.length) : w.cell? ⟨b, off + i, none⟩ = some (.int .i64 (xs.getD i 0)) := by
  obtain ⟨b', off', e, _, h2⟩ := h.isSomeT (by omega)
  cases e
  have := h2 i xs[i] (List.getElem?_eq_getElem hi) 0 (.int .i64 xs[i]) rfl
  rw [Nat.mul_one, Nat.add_zero] at this
  rw [this]
  simp [List.getD_eq_getElem?_getD, List.getElem?_eq_getElem hi]
end Go.Proofs.Ythbiadhnlomhmaa
