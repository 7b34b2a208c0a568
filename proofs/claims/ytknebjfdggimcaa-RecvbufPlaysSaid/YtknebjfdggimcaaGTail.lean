/- The tail of a row of one's own: a list of octets that begins anywhere in it; appends to it. -/
import Derived.Test.YtknebjfdggimcaaGAppend
import Derived.Test.YtknebjfdggimcaaGTurnsB
namespace Go.Proofs.Ytknebjfdggimcaa
open Go.RowKit

def OwnT (B : Nat) (a : Option Addr) (xs : List Nat) (cap : Nat) (w : World) : Prop :=
  (∀ x ∈ xs, x < 256) ∧ ((a = none ∧ xs = [] ∧ cap = 0) ∨ ∃ (g off : Nat) (cur : Array Value), a = some ⟨g, off, none⟩ ∧ B ≤ g ∧ w.heap[g]? = some (.cells cur 5 (0, 0)) ∧ off + cap ≤ cur.size ∧ xs.length ≤ cap ∧ cap ≤ maxLen ∧ ∀ i, i < xs.length → cur[off + i]? = some (.int .u8 (xs.getD i 0 : Nat)))

theorem ownT_nil (B : Nat) (w : World) : OwnT B none [] 0 w := ⟨(fun _ h => absurd h List.not_mem_nil), .inl ⟨rfl, rfl, rfl⟩⟩
theorem OwnT.bts {B : Nat} {a : Option Addr} {xs : List Nat} {cap : Nat} {w : World} (h : OwnT B a xs cap w) : Bts w a xs := by
  obtain ⟨hx, ⟨_, rfl, _⟩ | ⟨g, off, cur, rfl, hB, hg, _, _, _, hc⟩⟩ := h
  · exact ⟨hx, .inl rfl⟩
  · refine ⟨hx, .inr ⟨g, off, rfl, blk_lt hg, fun i hi => ?_⟩⟩
    rw [blk_cell hg, hc i hi]
theorem OwnT.nilcap {B : Nat} {a : Option Addr} {xs : List Nat} {cap : Nat} {w : World} (h : OwnT B a xs cap w) : a = none → cap = 0 := by
  obtain ⟨_, ⟨_, _, h⟩ | ⟨g, off, cur, rfl, _⟩⟩ := h
  · exact fun _ => h
  · intro e; cases e
theorem OwnT.capLe {B : Nat} {a : Option Addr} {xs : List Nat} {cap : Nat} {w : World} (h : OwnT B a xs cap w) : xs.length ≤ cap ∧ cap ≤ maxLen := by
  obtain ⟨_, ⟨_, rfl, rfl⟩ | ⟨g, off, cur, rfl, _, _, _, h1, h2, _⟩⟩ := h
  · exact ⟨Nat.le_refl _, Nat.zero_le _⟩
  · exact ⟨h1, h2⟩
theorem OwnT.turned {S : Nat → Prop} {B : Nat} {a : Option Addr} {xs : List Nat} {cap : Nat} {w w' : World} (h : OwnT B a xs cap w) (ht : Turns S w w') (hS : ∀ k o, a = some ⟨k, o, none⟩ → ¬ S k) : OwnT B a xs cap w' := by
  obtain ⟨hx, h0 | ⟨g, off, cur, rfl, hB, hg, hr⟩⟩ := h
  · exact ⟨hx, .inl h0⟩
  · exact ⟨hx, .inr ⟨g, off, cur, rfl, hB, ht.blk hg (hS g off rfl), hr⟩⟩
theorem OwnT.below {B : Nat} {a : Option Addr} {xs : List Nat} {cap : Nat} {w w' : World} (h : OwnT B a xs cap w) (hb : Below w.heap.size w w') : OwnT B a xs cap w' := by
  obtain ⟨hx, h0 | ⟨g, off, cur, rfl, hB, hg, hr⟩⟩ := h
  · exact ⟨hx, .inl h0⟩
  · exact ⟨hx, .inr ⟨g, off, cur, rfl, hB, (hb.block g (blk_lt hg)).trans hg, hr⟩⟩
theorem OwnT.geB {B : Nat} {a : Option Addr} {xs : List Nat} {cap : Nat} {w : World} (h : OwnT B a xs cap w) : ∀ k o, a = some ⟨k, o, none⟩ → B ≤ k ∧ k < w.heap.size := by
  obtain ⟨_, ⟨rfl, _, _⟩ | ⟨g, off, cur, rfl, hB, hg, _⟩⟩ := h
  · intro k o e; cases e
  · intro k o e; cases e; exact ⟨hB, blk_lt hg⟩
/-- .. from a place of it on. -/
theorem OwnT.drop {B : Nat} {a : Option Addr} {xs : List Nat} {cap : Nat} {w : World} (h : OwnT B a xs cap w) (k : Nat) (hk : k ≤ xs.length) : OwnT B (Option.map (fun x => x.add k) a) (xs.drop k) (cap - k) w := by
  refine ⟨fun x hx => h.1 x (List.mem_of_mem_drop hx), ?_⟩
  rcases h.2 with ⟨rfl, rfl, rfl⟩ | ⟨g, off, cur, rfl, hB, hg, h1, h2, h3, hc⟩
  · left; simp
  · right
    have e : Option.map (fun x : Addr => x.add k) (some ⟨g, off, none⟩) = some ⟨g, off + k, none⟩ := by simp only [Option.map_some]; unfold Addr.add; split <;> simp_all
    refine ⟨g, off + k, cur, e, hB, hg, by omega, by rw [List.length_drop]; omega, by omega, fun i hi => ?_⟩
    rw [List.length_drop] at hi
    rw [Nat.add_assoc, hc (k + i) (by omega)]
    congr 3
    simp [List.getD_eq_getElem?_getD, List.getElem?_drop]
theorem OwnT.none {B : Nat} {a : Option Addr} {xs : List Nat} {cap : Nat} {w : World} (h : OwnT B a xs cap w) : OwnT B a [] 0 w := by
  refine ⟨fun x h => absurd h List.not_mem_nil, ?_⟩
  rcases h.2 with ⟨rfl, rfl, rfl⟩ | ⟨g, off, cur, rfl, hB, hg, h1, h2, h3, hc⟩
  · exact .inl ⟨rfl, rfl, rfl⟩
  · exact .inr ⟨g, off, cur, rfl, hB, hg, by omega, Nat.le_refl _, Nat.zero_le _, fun i hi => by simp at hi⟩

theorem run_append_tail {P : Program} (w : World) (t ty e : TypeId) (i : TypeInfo) (ht : P.underlying t = some (.slice e)) (hi : P.info? e = some i) (h1s : i.size = 1)
    (g off sLen sCap : Nat) (cur : Array Value) (hg : w.heap[g]? = some (.cells cur e (0, 0)))
    (a : Addr) (m c : Nat) (news : List Value) (hl : news.length = m) (hnews : ∀ j u, news[j]? = some u → w.cell? (a.add j) = some u) (h1 : ∀ u ∈ news, u.oneCell' = true)
    (hroom : sLen + m ≤ sCap) (hfit : off + sLen + news.length ≤ cur.size) :
    (Builtin.append_ #[t, t] ty #[.slice (some ⟨g, off, none⟩) sLen sCap, .slice (some a) m c]).run P w =
      .ok (.slice (some ⟨g, off, none⟩) (sLen + m) sCap) (w.setRow g (cur.toList.take (off + sLen) ++ news ++ cur.toList.drop (off + sLen + news.length)).toArray) := by
  have hf := run_firstCells_some (P := P) w i.size m a m c news (by rw [h1s, Nat.mul_one]; exact hl) hnews
  have hst := run_storeCells_at P g (off + sLen) e news 0 cur w hg (by simpa using hfit) h1
  simp only [Nat.add_zero] at hst
  rw [h1s] at hf
  have e1 : (⟨g, off, none⟩ : Addr).add sLen = ⟨g, off + sLen, none⟩ := by unfold Addr.add; split <;> simp_all
  simp [Builtin.append_, run_underlying ht, sizeOf, typeInfo, hi, h1s, Builtin.lenOf, hroom, hf, e1, hst]

theorem wp_append_tail {w : World} {o : Oper} {act : Act} {K : Act → World → Prop} {Q : Exit → Act → World → Prop} (s x : Operand)
    (ho : o.op = .call { callee := .builtin .append, args := #[s, x], argTypes := #[32, 32] }) (B : Nat) {a b : Option Addr} {xs ys zs : List Nat} {cap dap n : Nat} (hn : n = ys.length) (hz : xs ++ ys = zs)
    (O : OwnT B a xs cap w) (Y : Bts w b ys) (hd : b = none → dap = 0) (hs : act.eval s = .slice a xs.length cap) (hx : act.eval x = .slice b n dap)
    (hlen : xs.length + ys.length ≤ 140737488355328) (hB : B ≤ w.heap.size)
    (h : ∀ a' cap' w', OwnT B a' zs cap' w' → Turns (fun k => ∃ o, a = some ⟨k, o, none⟩) w w' → (∀ k o, a' = some ⟨k, o, none⟩ → (∃ o', a = some ⟨k, o', none⟩) ∨ k = w.heap.size) → K (act.put o.dst (.slice a' zs.length cap')) w') : Oper.wp Try.prog o act w K Q := by
  subst hn hz
  obtain ⟨i0, hi, hz0, hz1, hz2⟩ := info_parts info5
  have hout : ∀ v' w' a' cap', (Builtin.append_ #[32, 32] o.type #[.slice a xs.length cap, .slice b ys.length dap]).run Try.prog w = .ok v' w' → v' = .slice a' (xs ++ ys).length cap' → OwnT B a' (xs ++ ys) cap' w' → Turns (fun k => ∃ o, a = some ⟨k, o, none⟩) w w' → (∀ k o, a' = some ⟨k, o, none⟩ → (∃ o', a = some ⟨k, o', none⟩) ∨ k = w.heap.size) → Oper.wp Try.prog o act w K Q := by
    intro v' w' a' cap' hrun hv hO hT hat
    subst hv
    have h2 := h a' cap' w' hO hT hat
    unfold Oper.wp
    simp only [execOp, ho, resolve, invoke, builtin] at hrun ⊢
    simp [hs, hx, hrun, Result.andThen] at h2 ⊢
    exact h2
  by_cases h0 : ys.length = 0
  · obtain rfl : ys = [] := List.eq_nil_of_length_eq_zero h0
    have e0 : xs ++ [] = xs := List.append_nil xs
    cases b with
    | none =>
      obtain rfl := hd rfl
      rcases O.2 with ⟨rfl, rfl, rfl⟩ | ⟨g, off, cur, rfl, hBg, hg, hr⟩
      · refine hout (.slice none 0 0) w none 0 ?_ rfl (by simpa using O) (Turns.refl _ _) (fun k o e => by cases e)
        simp [Builtin.append_, run_underlying Try.underlying32, sizeOf, typeInfo, hi, Builtin.lenOf, Builtin.firstCells]
      · refine hout (.slice (some ⟨g, off, none⟩) xs.length cap) w (some ⟨g, off, none⟩) cap ?_ (by simp) (by simpa using O) (Turns.refl _ _) (fun k o e => .inl ⟨o, e⟩)
        have hcl := O.capLe
        have hst := run_storeCells_at Try.prog g (off + xs.length) 5 [] 0 cur w hg (by simp; omega) (by simp)
        simp only [Nat.add_zero, List.append_nil, List.length_nil, List.take_append_drop, Array.toArray_toList] at hst
        rw [setRow_self w g cur 5 (0, 0) hg] at hst
        have e1 : (⟨g, off, none⟩ : Addr).add xs.length = ⟨g, off + xs.length, none⟩ := by unfold Addr.add; split <;> simp_all
        simp [Builtin.append_, run_underlying Try.underlying32, sizeOf, typeInfo, hi, hz1, Builtin.lenOf, Builtin.firstCells, loadCells, hcl.1, e1, hst]
    | some ad =>
      rcases O.2 with ⟨rfl, rfl, rfl⟩ | ⟨g, off, cur, rfl, hBg, hg, h1, h2, h3, hc⟩
      · refine hout (.slice none 0 0) w none 0 ?_ rfl (by simpa using O) (Turns.refl _ _) (fun k o e => by cases e)
        simp [Builtin.append_, run_underlying Try.underlying32, sizeOf, typeInfo, hi, Builtin.lenOf, Builtin.firstCells, loadCells, loadCellsFrom]
      · have hrun := run_append_tail (P := Try.prog) w 32 o.type 5 i0 Try.underlying32 hi hz1 g off xs.length cap cur hg ad 0 dap [] rfl (by simp) (by simp) (by omega) (by simp; omega)
        simp only [List.append_nil, List.length_nil, Nat.add_zero, List.take_append_drop, Array.toArray_toList] at hrun
        rw [setRow_self w g cur 5 (0, 0) hg] at hrun
        exact hout _ w (some ⟨g, off, none⟩) cap hrun (by simp) (by simpa using O) (Turns.refl _ _) (fun k o e => .inl ⟨o, e⟩)
  · obtain ⟨yb, yo, rfl, _, _⟩ := Y.isSome (by omega)
    have hsrc := Y.src
    have hall : ∀ x ∈ xs ++ ys, x < 256 := fun x hx => (List.mem_append.1 hx).elim (O.1 x) (Y.1 x)
    rcases O.2 with ⟨rfl, rfl, rfl⟩ | ⟨g, off, cur, rfl, hBg, hg, h1, h2, h3, hc⟩
    · have hr := run_append_nil (P := Try.prog) w 32 o.type 5 i0 (.int .u8 0) Try.underlying32 hi hz0 ⟨yb, yo, none⟩ ys.length dap (ys.map fun x => Value.int .u8 (x : Nat)) (by rw [hz1]; simp) hsrc (by omega) (by omega) (by rw [hz2]; simp only [List.length_nil, Nat.zero_add] at hlen; omega)
      refine hout _ _ (some ⟨w.heap.size, 0, none⟩) _ hr (by first | rfl | rw [List.length_append]) ⟨hall, .inr ⟨w.heap.size, 0, _, rfl, hB, heap_alloc_new w.drew _, ?_, ?_, ?_, ?_⟩⟩ (Turns.of_below _ ((Below.refl _ _).drew.alloc (Nat.le_refl _) _)) (fun k o e => .inr (by cases e; rfl))
      · have hge := grownCap_ge w ys.length 0 5
        simp [size_zeroCells, Value.cells]; omega
      · have hge := grownCap_ge w ys.length 0 5
        simpa using hge
      · exact grownCap_le_maxLen w _ _ _ (by unfold maxLen; simp only [List.length_nil, Nat.zero_add] at hlen; omega)
      · intro i hi2
        simp only [List.nil_append] at hi2 ⊢
        rw [Nat.zero_add, Array.getElem?_append_left (by simp; omega)]
        simp [List.getD_eq_getElem?_getD, List.getElem?_eq_getElem hi2]
    · by_cases hroom : xs.length + ys.length ≤ cap
      · have hrun := run_append_tail (P := Try.prog) w 32 o.type 5 i0 Try.underlying32 hi hz1 g off xs.length cap cur hg ⟨yb, yo, none⟩ ys.length dap (ys.map fun x => Value.int .u8 (x : Nat)) (by simp) hsrc (by simp [Value.oneCell']) hroom (by simp; omega)
        refine hout _ _ (some ⟨g, off, none⟩) cap hrun (by simp) ⟨hall, .inr ⟨g, off, _, rfl, hBg, setRow_heap w g cur _ _ _ hg, ?_, by simpa using hroom, h3, ?_⟩⟩ (Turns.of_grown (r := some g) (fun k e => by cases e; exact ⟨off, rfl⟩) ⟨rfl, rfl, rfl, by simp [World.setRow], fun k _ hk => setRow_other w g k _ (fun e => hk (by rw [e]))⟩) (fun k o e => .inl ⟨o, e⟩)
        · simp; omega
        · intro i hi2
          rw [List.length_append] at hi2
          have hl1 : (cur.toList.take (off + xs.length)).length = off + xs.length := by
            have := h1; have := h2
            simp only [List.length_take, Array.length_toList]; omega
          simp only [List.getElem?_toArray]
          by_cases hix : i < xs.length
          · rw [List.append_assoc, List.getElem?_append_left (by omega), List.getElem?_take_of_lt (by omega)]
            have := hc i hix
            rw [Array.getElem?_toList, this]
            simp [List.getD_eq_getElem?_getD, List.getElem?_append_left hix]
          · rw [List.append_assoc, List.getElem?_append_right (by omega), hl1, List.getElem?_append_left (by rw [List.length_map]; omega)]
            have e : off + i - (off + xs.length) = i - xs.length := by omega
            have hlt : i - xs.length < ys.length := by omega
            rw [e]
            simp [List.getD_eq_getElem?_getD, List.getElem?_append_right (show xs.length ≤ i by omega), List.getElem?_eq_getElem hlt]
      · have holds : ∀ j u, (xs.map fun x => Value.int .u8 ((x : Nat) : Int))[j]? = some u → w.cell? ((⟨g, off, none⟩ : Addr).add j) = some u := O.bts.src
        have hr := run_append_grow (P := Try.prog) w 32 o.type 5 i0 (.int .u8 0) Try.underlying32 hi hz0 ⟨g, off, none⟩ xs.length cap (xs.map fun x => Value.int .u8 (x : Nat)) (by rw [hz1]; simp) holds ⟨yb, yo, none⟩ ys.length dap (ys.map fun x => Value.int .u8 (x : Nat)) (by rw [hz1]; simp) hsrc (by omega) (by omega) (growslice_fits (by omega) (by rw [hz2]; omega))
        refine hout _ _ (some ⟨w.heap.size, 0, none⟩) _ hr (by first | rfl | rw [List.length_append]) ⟨hall, .inr ⟨w.heap.size, 0, _, rfl, hB, heap_alloc_new w.drew _, ?_, ?_, ?_, ?_⟩⟩ (Turns.of_below _ ((Below.refl _ _).drew.alloc (Nat.le_refl _) _)) (fun k o e => .inr (by cases e; rfl))
        · have hge := grownCap_ge w (xs.length + ys.length) cap 5
          simp [size_zeroCells, Value.cells]; omega
        · have hge := grownCap_ge w (xs.length + ys.length) cap 5
          simpa using hge
        · exact grownCap_le_maxLen w _ _ _ (by unfold maxLen; omega)
        · intro i hi2
          rw [Nat.zero_add, Array.getElem?_append_left (by simp at hi2 ⊢; omega)]
          rw [List.length_append] at hi2
          by_cases hix : i < xs.length
          · rw [Array.getElem?_append_left (by simp; omega)]
            simp [List.getD_eq_getElem?_getD, List.getElem?_append_left hix, List.getElem?_eq_getElem hix]
          · rw [Array.getElem?_append_right (by simp; omega)]
            have hlt : i - xs.length < ys.length := by omega
            simp [List.getD_eq_getElem?_getD, List.getElem?_append_right (show xs.length ≤ i by omega), List.getElem?_eq_getElem hlt]

theorem wpList_append_tail {w : World} {ops : Array Oper} {rest : List Oper} {o : Oper} {act : Act} {Q : Exit → Act → World → Prop} (hgd : o.guard = none) (s x : Operand)
    (ho : o.op = .call { callee := .builtin .append, args := #[s, x], argTypes := #[32, 32] }) (B : Nat) {a b : Option Addr} {xs ys zs : List Nat} {cap dap n : Nat} (hn : n = ys.length) (hz : xs ++ ys = zs)
    (O : OwnT B a xs cap w) (Y : Bts w b ys) (hd : b = none → dap = 0) (hs : act.eval s = .slice a xs.length cap) (hx : act.eval x = .slice b n dap)
    (hlen : xs.length + ys.length ≤ 140737488355328) (hB : B ≤ w.heap.size)
    (h : ∀ a' cap' w', OwnT B a' zs cap' w' → Turns (fun k => ∃ o, a = some ⟨k, o, none⟩) w w' → (∀ k o, a' = some ⟨k, o, none⟩ → (∃ o', a = some ⟨k, o', none⟩) ∨ k = w.heap.size) → wpList Try.prog ops Q rest (act.put o.dst (.slice a' zs.length cap')) w') : wpList Try.prog ops Q (o :: rest) act w :=
  wpList_plain hgd fun _ hK => wp_append_tail s x ho B hn hz O Y hd hs hx hlen hB fun a' cap' w' h1 h2 h3 => hK _ _ (h a' cap' w' h1 h2 h3)
theorem step_append_tail {w : World} {ops : Array Oper} {o : Oper} {act : Act} {K : Act → World → Prop} {Q : Exit → Act → World → Prop} {E : Prop} (hgd : o.guard = none) (s x : Operand)
    (ho : o.op = .call { callee := .builtin .append, args := #[s, x], argTypes := #[32, 32] }) (B : Nat) {a b : Option Addr} {xs ys zs : List Nat} {cap dap n : Nat} (hn : n = ys.length) (hz : xs ++ ys = zs)
    (O : OwnT B a xs cap w) (Y : Bts w b ys) (hd : b = none → dap = 0) (hs : act.eval s = .slice a xs.length cap) (hx : act.eval x = .slice b n dap)
    (hlen : xs.length + ys.length ≤ 140737488355328) (hB : B ≤ w.heap.size)
    (h : ∀ a' cap' w', OwnT B a' zs cap' w' → Turns (fun k => ∃ o, a = some ⟨k, o, none⟩) w w' → (∀ k o, a' = some ⟨k, o, none⟩ → (∃ o', a = some ⟨k, o', none⟩) ∨ k = w.heap.size) → K (act.put o.dst (.slice a' zs.length cap')) w') : if Region.wanted o (yielded ops act.tmps) = true then Oper.wp Try.prog o act w K Q else E := by
  have hw : Region.wanted o (yielded ops act.tmps) = true := by simp [Region.wanted, hgd]
  rw [if_pos hw]
  exact wp_append_tail s x ho B hn hz O Y hd hs hx hlen hB h
end Go.Proofs.Ytknebjfdggimcaa
