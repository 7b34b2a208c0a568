/- Recvbuf: octets and truths of one's own: appends, stores. -/
import Derived.Test.YtknebjfdggimcaaRvU
import Derived.Test.YtknebjfdggimcaaGOwnA
import Derived.Test.YtknebjfdggimcaaGPlain
namespace Go.Proofs.Ytknebjfdggimcaa
open Go.RowKit Go.Proofs.Ytknebjfdggimcaa.Rv

/-- Octets. -/
def U8C (x : Nat) : List Value := [.int .u8 (x : Nat)]
theorem encU : Enc 1 U8C := ⟨fun _ => rfl, fun x u hu => by
  simp only [U8C, List.mem_cons, List.not_mem_nil, or_false] at hu
  subst hu; rfl, by decide⟩
theorem elemU : Elem 32 5 (.int .u8 0) 1 1 := ⟨Try.underlying32, by kernel_rfl, rfl, by decide⟩
theorem bts_sts {w : World} {a : Option Addr} {xs : List Nat} (h : Bts w a xs) : Sts 1 U8C Tr w a xs := by
  refine ⟨fun _ _ => trivial, ?_⟩
  rcases h.2 with h0 | ⟨b, off, e, hb, hc⟩
  · exact .inl h0
  · refine .inr ⟨b, off, e, hb, fun i r hi j v hv => ?_⟩
    obtain ⟨hlt, he⟩ := List.getElem?_eq_some_iff.1 hi
    match j, hv with
    | 0, hv =>
      simp [U8C] at hv
      subst hv
      have := hc i hlt
      rw [List.getD_eq_getElem?_getD, hi] at this
      rw [Nat.mul_one]
      exact this
    | j + 1, hv => simp [U8C] at hv
theorem sts_bts {w : World} {a : Option Addr} {xs : List Nat} (hx : ∀ x ∈ xs, x < 256) (h : Sts 1 U8C Tr w a xs) : Bts w a xs := by
  refine ⟨hx, ?_⟩
  rcases h.2 with h0 | ⟨b, off, e, hb, hc⟩
  · exact .inl h0
  · refine .inr ⟨b, off, e, hb, fun i hi => ?_⟩
    have := hc i _ (List.getElem?_eq_getElem hi) 0 _ rfl
    rw [Nat.mul_one] at this
    rw [List.getD_eq_getElem?_getD, List.getElem?_eq_getElem hi]
    exact this
/-- An append of a list, nil too, that tells where the answer lies. -/
theorem wpList_append_rB {w : World} {ops : Array Oper} {rest : List Oper} {o : Oper} {act : Act} {Q : Exit → Act → World → Prop} (hgd : o.guard = none) (s x : Operand)
    (ho : o.op = .call { callee := .builtin .append, args := #[s, x], argTypes := #[32, 32] }) (B : Nat) {a b : Option Addr} {xs ys : List Nat} {cap dap n : Nat} (hn : n = ys.length)
    (O : OwnR 5 1 U8C B a xs cap w) (Y : Sts 1 U8C Tr w b ys) (hd : b = none → dap = 0) (hs : act.eval s = .slice a xs.length cap) (hx : act.eval x = .slice b n dap)
    (hlen : xs.length + ys.length ≤ 1000000) (hB : B ≤ w.heap.size)
    (h : ∀ a' cap' w', OwnR 5 1 U8C B a' (xs ++ ys) cap' w' → Below B w w' → w.grownBy w' (Value.slice a xs.length cap).ownBlock → (∀ g, a' = some ⟨g, 0, none⟩ → a = some ⟨g, 0, none⟩ ∨ g = w.heap.size) → wpList Try.prog ops Q rest (act.put o.dst (.slice a' (xs ++ ys).length cap')) w') : wpList Try.prog ops Q (o :: rest) act w := by
  have hm : xs.length + ys.length ≤ maxLen := by have : maxLen = 9223372036854775807 := by rfl
                                                 omega
  cases b with
  | some ad => exact wpList_append_rA (t := 32) (e := 5) (z := .int .u8 0) (m := 1) (bz := 1) hgd elemU encU s x ho B hn O Y hs hx (by omega) hm hB h
  | none =>
    obtain rfl := hd rfl
    have hys : ys = [] := by
      rcases Y.2 with h | ⟨_, _, h, _⟩
      · exact h
      · cases h
    subst hys
    subst hn
    obtain ⟨i0, hi, hz0, hz1, hz2⟩ := info_parts elemU.inf
    have hrun := run_append_owned_none (P := Try.prog) (w := w) B 32 o.type 5 i0 1 elemU.und hi _ _ _ O.rowAny
    have h2 := h a cap w
    rw [List.append_nil] at h2
    refine wpList_plain hgd fun _ hK => ?_
    unfold Oper.wp
    simp [execOp, ho, resolve, invoke, builtin, hs, hx, hrun, Result.andThen]
    exact hK _ _ (h2 O (Below.refl _ _) ⟨rfl, rfl, rfl, Nat.le_refl _, fun _ _ _ => rfl⟩ (fun g e => .inl e))
/-- Truths. -/
def TC (b : Bool) : List Value := [.bool b]
theorem encT : Enc 1 TC := ⟨fun _ => rfl, fun x u hu => by
  simp only [TC, List.mem_cons, List.not_mem_nil, or_false] at hu
  subst hu; rfl, by decide⟩
theorem flatT_set (cm : List Bool) (k : Nat) (b : Bool) (hk : k < cm.length) : (cm.flatMap TC).set k (.bool b) = (cm.set k b).flatMap TC := by
  induction cm generalizing k with
  | nil => simp at hk
  | cons c cm ih =>
    cases k with
    | zero => rfl
    | succ k =>
      rw [List.set_cons_succ, List.flatMap_cons, List.flatMap_cons, ← ih k (by simpa using hk)]
      rfl
theorem OwnR.setT {B g cap : Nat} {cm : List Bool} {w : World} (O : OwnR 4 1 TC B (some ⟨g, 0, none⟩) cm cap w) (k : Nat) (b : Bool) (hk : k < cm.length) :
    OwnR 4 1 TC B (some ⟨g, 0, none⟩) (cm.set k b) cap (w.setCell ⟨g, k, none⟩ (.bool b)) ∧ w.grownBy (w.setCell ⟨g, k, none⟩ (.bool b)) (some g) := by
  obtain ⟨L, R, hL, hT, hBg, hc, hm⟩ := O.rw
  have R3 : Rw g 4 (L.set k (.bool b)) (w.setCell ⟨g, k, none⟩ (.bool b)) := by
    unfold Rw; rw [blk_set R k (.bool b)]; simp
  refine ⟨OwnR.of_rw encT R3 (by rw [List.length_set]; exact hL) ?_ hBg (by rw [List.length_set]; exact hc) hm, gr_set _ _ _ _⟩
  rw [List.length_set, ← flatT_set cm k b hk, ← hT, List.take_set]
theorem OwnR.cellT {B g cap : Nat} {cm : List Bool} {w : World} (O : OwnR 4 1 TC B (some ⟨g, 0, none⟩) cm cap w) (k : Nat) (hk : k < cm.length) : w.cell? ⟨g, k, none⟩ = some (.bool (cm.getD k false)) ∧ w.frozen? ⟨g, k, none⟩ = false := by
  obtain ⟨L, R, hL, hT, hBg, hc, hm⟩ := O.rw
  refine ⟨?_, R.free k⟩
  have h1 : (cm.flatMap TC)[k]? = some (.bool (cm.getD k false)) := by
    have := flat_get encT (List.getElem?_eq_getElem hk) (j := 0) (v := .bool cm[k]) rfl
    rw [Nat.mul_one, Nat.add_zero] at this
    rw [this, List.getD_eq_getElem?_getD, List.getElem?_eq_getElem hk]; rfl
  rw [R.cell, ← h1, ← hT, List.getElem?_take, if_pos (by omega)]
theorem cmF_zero (cm : List Bool) (x : Nat) : cmF cm x 0 = cm := by
  unfold cmF; simp
theorem cmF_succ {cm : List Bool} {x j : Nat} (h : x + j < cm.length) : (cmF cm x j).set (x + j) true = cmF cm x (j + 1) := by
  apply List.ext_getElem
  · rw [List.length_set, cmF_len (by omega), cmF_len (by omega)]
  · intro k h1 h2
    rw [List.length_set, cmF_len (by omega)] at h1
    have g1 : ∀ (l : List Bool) (hk : k < l.length), l[k] = l.getD k false := fun l hk => by rw [List.getD_eq_getElem?_getD, List.getElem?_eq_getElem hk]; rfl
    rw [g1 _ h2, cmF_get (by omega)]
    rw [List.getElem_set]
    by_cases he : x + j = k
    · rw [if_pos he, if_pos (by omega)]
    · rw [if_neg he, g1 _ (by rw [cmF_len (by omega)]; exact h1), cmF_get (by omega)]
      by_cases h3 : x ≤ k ∧ k < x + j
      · rw [if_pos h3, if_pos (by omega)]
      · rw [if_neg h3, if_neg (by omega)]
theorem infoT : (Try.prog.info? 4).map (fun i => (i.zero, i.size, i.bytes)) = some (some (.bool false), 1, 1) := by kernel_rfl
theorem ownT_made {B : Nat} {g n : Nat} {w : World} (h : w.ownsRow B 4 1 (.slice (some ⟨g, 0, none⟩) n n) n (madeCells (Value.bool false).cells (n * 1)).toList) (hB : B ≤ g) : OwnR 4 1 TC B (some ⟨g, 0, none⟩) (List.replicate n false) n w := by
  have e : (madeCells (Value.bool false).cells (n * 1)).toList = (List.replicate n false).flatMap TC := by
    apply List.ext_getElem
    · simp [madeCells, flat_len encT]
    · intro i h1 h2
      have hi : i < n := by simpa [flat_len encT] using h2
      have h3 := flat_get encT (xs := List.replicate n false) (i := i) (j := 0) (x := false) (v := .bool false) (by rw [List.getElem?_replicate, if_pos hi]) rfl
      rw [Nat.mul_one, Nat.add_zero] at h3
      rw [List.getElem?_eq_getElem h2] at h3
      rw [Option.some.inj h3]
      simp [madeCells, Value.cells, Nat.mod_one]
  rw [e] at h
  refine .inr ⟨g, rfl, hB, ?_⟩
  rw [List.length_replicate]; exact h
end Go.Proofs.Ytknebjfdggimcaa
