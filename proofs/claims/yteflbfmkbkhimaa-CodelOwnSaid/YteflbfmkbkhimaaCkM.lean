/- Codel: a turn of Dequeue: what 'take' and 'strike' make of it, and what holds all along. -/
import Derived.Test.YteflbfmkbkhimaaPkC
namespace Go.Proofs.Yteflbfmkbkhimaa

def sumS : List Pkt → Int
  | [] => 0
  | x :: l => x.sz + sumS l
theorem sumS_app (a b : List Pkt) : sumS (a ++ b) = sumS a + sumS b := by
  induction a with
  | nil => simp [sumS]
  | cons x l ih => simp only [List.cons_append, sumS, ih]; omega
/-- Packets that may be: their ticks, their sizes. -/
def PkV (l : List Pkt) : Prop := ∀ x ∈ l, (0 ≤ x.tick ∧ x.tick ≤ 2199023255552) ∧ (1 ≤ x.sz ∧ x.sz ≤ 65535)
theorem sumS_bd {l : List Pkt} (h : PkV l) : 0 ≤ sumS l ∧ sumS l ≤ 65535 * (l.length : Int) := by
  induction l with
  | nil => exact ⟨Int.le_refl _, by simp [sumS]⟩
  | cons x l ih =>
    have h1 := (h x List.mem_cons_self).2
    have h2 := ih (fun y hy => h y (List.mem_cons_of_mem _ hy))
    simp only [sumS, List.length_cons]
    omega
abbrev pk0 : Pkt := ⟨0, 0, false, 0⟩
/-- A turn: params, state, result, the queue. -/
structure Tn where
  tg : Int
  iv : Int
  mtu : Int
  above : Bool
  aboveAt : Int
  dropping : Bool
  nx : Int
  cn : Int
  la : Int
  has : Bool
  out : Pkt
  marked : Bool
  da : Option Addr
  dl : List Pkt
  dc : Nat
  left : Int
  qa : Option Addr
  ql : List Pkt
  qc : Nat
  oc : Int
  now : Int
  ripe : Bool
/-- Where the queue lies behind its first: a slice whose capacity is used up keeps its address. -/
def nextA (a : Option Addr) (c : Nat) : Option Addr := if c ≤ 1 then a else match a with | none => none | some p => some { p with off := p.off + 4 }
def take0 (t : Tn) : Tn := { t with has := false, out := pk0, ripe := false, above := false }
def takeU (t : Tn) (x : Pkt) (r : List Pkt) : Tn := { t with has := true, out := x, ripe := false, qa := nextA t.qa t.qc, ql := r, qc := t.qc - 1, oc := t.oc - x.sz }
def takeN (t : Tn) (x : Pkt) (r : List Pkt) : Tn :=
  if t.now - x.tick < t.tg ∨ t.oc - x.sz ≤ t.mtu then { takeU t x r with above := false }
  else if t.above = false then { takeU t x r with above := true, aboveAt := t.now + t.iv }
  else { takeU t x r with ripe := decide (t.aboveAt ≤ t.now) }
def takeF (t : Tn) : Tn := match t.ql with | [] => take0 t | x :: r => takeN t x r
theorem takeF_nil {t : Tn} (h : t.ql = []) : takeF t = take0 t := by unfold takeF; rw [h]
theorem takeF_cons {t : Tn} {x : Pkt} {r : List Pkt} (h : t.ql = x :: r) : takeF t = takeN t x r := by unfold takeF; rw [h]
/-- What holds of a turn over the queue q. -/
structure TK (q : List Pkt) (t : Tn) : Prop where
  all : t.dl ++ ((if t.has = true then [t.out] else []) ++ t.ql) = q
  none : t.has = false → t.ql = []
  oc : t.oc = sumS t.ql
  ripe : t.ripe = true → t.has = true ∧ t.tg ≤ t.now - t.out.tick ∧ t.mtu < t.oc
  drop : ∀ (i : Nat) (x : Pkt), t.dl[i]? = some x → t.tg ≤ t.now - x.tick ∧ t.mtu < sumS (q.drop (i + 1)) ∧ x.ect = false
  mark : t.marked = true → t.has = true ∧ t.out.ect = true ∧ t.tg ≤ t.now - t.out.tick ∧ t.mtu < t.oc
theorem takeF_tk {q : List Pkt} {t : Tn} (h1 : t.dl ++ t.ql = q) (h2 : t.oc = sumS t.ql) (h3 : ∀ (i : Nat) (x : Pkt), t.dl[i]? = some x → t.tg ≤ t.now - x.tick ∧ t.mtu < sumS (q.drop (i + 1)) ∧ x.ect = false) (h4 : t.marked = false) : TK q (takeF t) := by
  have hm : ∀ P : Prop, t.marked = true → P := fun P e => by rw [h4] at e; exact absurd e (by decide)
  cases hq : t.ql with
  | nil =>
    rw [takeF_nil hq]
    exact ⟨h1, fun _ => hq, h2, fun e => absurd (show false = true from e) (by decide), h3, fun e => hm _ e⟩
  | cons x r =>
    rw [takeF_cons hq]
    rw [hq] at h1 h2
    have ho : t.oc - x.sz = sumS r := by rw [h2]; simp only [sumS]; omega
    unfold takeN
    split
    · exact ⟨h1, fun e => absurd (show true = false from e) (by decide), ho, fun e => absurd (show false = true from e) (by decide), h3, fun e => hm _ e⟩
    · rename_i hc
      split
      · exact ⟨h1, fun e => absurd (show true = false from e) (by decide), ho, fun e => absurd (show false = true from e) (by decide), h3, fun e => hm _ e⟩
      · exact ⟨h1, fun e => absurd (show true = false from e) (by decide), ho, fun _ => ⟨rfl, show t.tg ≤ t.now - x.tick by omega, show t.mtu < t.oc - x.sz by omega⟩, h3, fun e => hm _ e⟩
def strikeF (t : Tn) (a : Option Addr) (c : Nat) : Tn := if t.out.ect = true then { t with marked := true } else takeF { t with dl := t.dl ++ [t.out], da := a, dc := c }
theorem strikeF_tk {q : List Pkt} {t : Tn} (h : TK q t) (hr : t.ripe = true) (hm : t.marked = false) (a : Option Addr) (c : Nat) : TK q (strikeF t a c) := by
  obtain ⟨r1, r2, r3⟩ := h.ripe hr
  unfold strikeF
  split
  · rename_i he
    exact ⟨h.all, h.none, h.oc, h.ripe, h.drop, fun _ => ⟨r1, he, r2, r3⟩⟩
  · rename_i he
    have ha := h.all
    rw [if_pos r1] at ha
    refine takeF_tk (by dsimp only; rw [List.append_assoc]; exact ha) h.oc ?_ hm
    intro i x hx
    dsimp only at hx ⊢
    by_cases hi : i < t.dl.length
    · rw [List.getElem?_append_left hi] at hx
      exact h.drop i x hx
    · rw [List.getElem?_append_right (by omega)] at hx
      obtain rfl : i = t.dl.length := by
        have := (List.getElem?_eq_some_iff.1 hx).1
        simp at this; omega
      simp at hx
      subst hx
      refine ⟨r2, ?_, by simpa using he⟩
      have hd : q.drop (t.dl.length + 1) = t.ql := by
        rw [← ha, List.drop_append, List.drop_eq_nil_of_le (by omega), Nat.add_sub_cancel_left]
        rfl
      rw [hd, ← h.oc]; exact r3
theorem takeF_keep (t : Tn) : (takeF t).tg = t.tg ∧ (takeF t).iv = t.iv ∧ (takeF t).mtu = t.mtu ∧ (takeF t).dropping = t.dropping ∧ (takeF t).nx = t.nx ∧ (takeF t).cn = t.cn ∧ (takeF t).la = t.la ∧ (takeF t).marked = t.marked ∧ (takeF t).da = t.da ∧ (takeF t).dl = t.dl ∧ (takeF t).dc = t.dc ∧ (takeF t).left = t.left ∧ (takeF t).now = t.now := by
  cases hq : t.ql with
  | nil => rw [takeF_nil hq]; exact ⟨rfl, rfl, rfl, rfl, rfl, rfl, rfl, rfl, rfl, rfl, rfl, rfl, rfl⟩
  | cons x r =>
    rw [takeF_cons hq]
    unfold takeN takeU
    split
    · exact ⟨rfl, rfl, rfl, rfl, rfl, rfl, rfl, rfl, rfl, rfl, rfl, rfl, rfl⟩
    · split <;> exact ⟨rfl, rfl, rfl, rfl, rfl, rfl, rfl, rfl, rfl, rfl, rfl, rfl, rfl⟩
end Go.Proofs.Yteflbfmkbkhimaa
