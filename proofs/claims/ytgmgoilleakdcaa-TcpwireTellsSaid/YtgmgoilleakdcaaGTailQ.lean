/- What all walks lean on where no list of octets is in sight: blocks known whole. -/
import Derived.Test.YtgmgoilleakdcaaProg
import Derived.WalkKit
import Derived.Lib.Hide
import Derived.OwnWalk
import Derived.Below
import Derived.Laws.AppendOwn
import Derived.Laws.NewBlocks
import Derived.Deep.QuietTactic
import Derived.BigQuiet
import Derived.OneCell
import Derived.WalkSpells
import Derived.WalkLawsBesides
import Derived.PlainAid
import Derived.WalkSmall
import Derived.ProofKit
import Derived.Lib.QuietBelow
import Derived.StillTail
namespace Go.Proofs.Ytgmgoilleakdcaa
open Go.RowKit

/-- A block known whole: its cells, that none is frozen, that it lies there. -/
theorem blk_cell {W : World} {g : Nat} {cs : Array Value} {t : TypeId} (h : W.heap[g]? = some (.cells cs t (0, 0))) (i : Nat) : W.cell? ⟨g, i, none⟩ = cs[i]? := by simp [World.cell?, h]
theorem blk_free {W : World} {g : Nat} {cs : Array Value} {t : TypeId} (h : W.heap[g]? = some (.cells cs t (0, 0))) (i : Nat) : W.frozen? ⟨g, i, none⟩ = false := by simp [World.frozen?, h]
theorem blk_new (W : World) (o : Obj) : (W.alloc o).heap[W.heap.size]? = some o := by
  show (W.heap.push _)[W.heap.size]? = _
  simp

theorem blk_set {W : World} {g : Nat} {cs : Array Value} {t : TypeId} (h : W.heap[g]? = some (.cells cs t (0, 0))) (i : Nat) (v : Value) : (W.setCell ⟨g, i, none⟩ v).heap[g]? = some (.cells (cs.setIfInBounds i v) t (0, 0)) := by
  have hlt : g < W.heap.size := (Array.getElem?_eq_some_iff.1 h).1
  have h' : W.heap[g] = .cells cs t (0, 0) := by simpa [Array.getElem?_eq_getElem hlt] using h
  show (W.heap.modify g _)[g]? = _
  rw [Array.getElem?_eq_getElem (by simpa using hlt), Array.getElem_modify_self, h']
  rfl

theorem blk_other {W : World} {g : Nat} {o : Obj} (h : W.heap[g]? = some o) {g' i : Nat} (hne : g' ≠ g) (v : Value) : (W.setCell ⟨g', i, none⟩ v).heap[g]? = some o := by
  rw [Below.heap_setCell _ _ _ _ (fun e => hne e.symm)]; exact h

/-- What a call that only makes memory leaves. -/
theorem bcell {W w1 : World} (hb : Below W.heap.size W w1) : (∀ b o, b < W.heap.size → w1.cell? ⟨b, o, none⟩ = W.cell? ⟨b, o, none⟩) ∧ (∀ b o, b < W.heap.size → w1.frozen? ⟨b, o, none⟩ = W.frozen? ⟨b, o, none⟩) :=
  ⟨fun b o h => hb.cell (p := ⟨b, o, none⟩) h, fun b o h => hb.frozen (p := ⟨b, o, none⟩) h⟩

theorem below_after {w X w1 : World} (h : Below w.heap.size w X) (b : Below X.heap.size X w1) : Below w.heap.size w w1 := h.trans (b.mono h.size)

/-- Is a number within bounds? -/
def inb (n lo hi : Int) : Bool := decide (lo ≤ n) && decide (n ≤ hi)
theorem inb_true {n lo hi : Int} (h1 : lo ≤ n) (h2 : n ≤ hi) : inb n lo hi = true := by simp [inb, h1, h2]
theorem inb_iff {n lo hi : Int} : inb n lo hi = true ↔ (lo ≤ n ∧ n ≤ hi) := by simp [inb]
theorem inb_not {n lo hi : Int} : inb n lo hi = false ↔ ¬ (lo ≤ n ∧ n ≤ hi) := by rw [← inb_iff, Bool.not_eq_true]

theorem pow16 (b : Int) (h0 : 0 ≤ b) (h : b ≤ 16) : 1 ≤ (2 : Int) ^ b.toNat ∧ (2 : Int) ^ b.toNat ≤ 65536 := by
  obtain ⟨k, rfl⟩ : ∃ k : Nat, b = k := ⟨b.toNat, by omega⟩
  have hk : k < 17 := by omega
  have := (show ∀ k, k < 17 → 1 ≤ (2 : Int) ^ k ∧ (2 : Int) ^ k ≤ 65536 from by decide +kernel) k hk
  simpa using this

/-- A shift that does not wrap. -/
theorem shl_in (u b : Int) (h0 : 0 ≤ u) (h : u ≤ 68719476736) (b0 : 0 ≤ b) (b1 : b ≤ 16) : wrap64 (u * 2 ^ b.toNat) = u * 2 ^ b.toNat := by
  obtain ⟨p1, p2⟩ := pow16 b b0 b1
  generalize (2 : Int) ^ b.toNat = p at p1 p2 ⊢
  have h1 : u * p ≤ 68719476736 * 65536 := Int.mul_le_mul h p2 (by omega) (by omega)
  have h2 : 0 ≤ u * p := Int.mul_nonneg h0 (by omega)
  exact IntWalk.wrap64_in _ ⟨by omega, by omega⟩

theorem dbl_bound (U : Int) (k : Nat) (h0 : 0 ≤ U) (h : U ≤ 68719476736) (hk : k ≤ 16) : 0 ≤ U * 2 ^ k ∧ U * 2 ^ k ≤ 4503599627370496 := by
  obtain ⟨p1, p2⟩ := pow16 (k : Int) (by omega) (by omega)
  rw [Int.toNat_natCast] at p1 p2
  generalize (2 : Int) ^ k = p at p1 p2 ⊢
  have h1 : U * p ≤ 68719476736 * 65536 := Int.mul_le_mul h p2 (by omega) (by omega)
  exact ⟨Int.mul_nonneg h0 (by omega), by omega⟩

/-- A number brought within 0 to M - 1, as the statements do. -/
theorem norm_mod (a M : Int) (h0 : 0 < M) (h1 : M ≤ 1099511627776) : ∃ z : Int, (wrap64 (a.tmod M + M)).tmod M = z ∧ 0 ≤ z ∧ z < M := by
  have a1 : a.tmod M < M := Int.tmod_lt_of_pos a h0
  have a2 : -M < a.tmod M := by
    by_cases ha : 0 ≤ a
    · have := Int.tmod_nonneg M ha
      omega
    · have e : a.tmod M = -((-a).tmod M) := by rw [Int.neg_tmod, Int.neg_neg]
      have := Int.tmod_lt_of_pos (-a) h0
      omega
  rw [IntWalk.wrap64_in _ ⟨by omega, by omega⟩]
  exact ⟨_, rfl, Int.tmod_nonneg M (by omega), Int.tmod_lt_of_pos _ h0⟩

theorem blk_lt {W : World} {g : Nat} {o : Obj} (h : W.heap[g]? = some o) : g < W.heap.size := (Array.getElem?_eq_some_iff.1 h).1

/-- Four blocks, one behind the other, and a draw. -/
theorem allocs4 (w : World) (a b c d : Obj) {W : World} (h : W = ((((w.alloc a).alloc b).alloc c).alloc d).drew) :
    W.heap[w.heap.size]? = some a ∧ W.heap[w.heap.size + 1]? = some b ∧ W.heap[w.heap.size + 1 + 1]? = some c ∧ W.heap[w.heap.size + 1 + 1 + 1]? = some d ∧ W.heap.size = w.heap.size + 1 + 1 + 1 + 1 ∧ Below w.heap.size w W := by
  subst h
  have b1 := (Below.refl w.heap.size w).alloc (Nat.le_refl _) a
  have b2 := b1.alloc b1.size b
  have b3 := b2.alloc b2.size c
  have b4 := b3.alloc b3.size d
  refine ⟨?_, ?_, ?_, ?_, ?_, b4.drew⟩
  · show ((((w.heap.push a).push b).push c).push d)[w.heap.size]? = some a
    (repeat rw [Array.getElem?_push]); simp only [Array.size_push]; (repeat (first | rw [if_pos (by omega)] | rw [if_neg (by omega)] | rw [if_pos trivial]))
  · show ((((w.heap.push a).push b).push c).push d)[w.heap.size + 1]? = some b
    (repeat rw [Array.getElem?_push]); simp only [Array.size_push]; (repeat (first | rw [if_pos (by omega)] | rw [if_neg (by omega)] | rw [if_pos trivial]))
  · show ((((w.heap.push a).push b).push c).push d)[w.heap.size + 1 + 1]? = some c
    (repeat rw [Array.getElem?_push]); simp only [Array.size_push]; (repeat (first | rw [if_pos (by omega)] | rw [if_neg (by omega)] | rw [if_pos trivial]))
  · show ((((w.heap.push a).push b).push c).push d)[w.heap.size + 1 + 1 + 1]? = some d
    (repeat rw [Array.getElem?_push]); simp only [Array.size_push]; (repeat (first | rw [if_pos (by omega)] | rw [if_neg (by omega)] | rw [if_pos trivial]))
  · show ((((w.heap.push a).push b).push c).push d).size = _
    simp

theorem gr_below {w w' : World} (h : Below w.heap.size w w') (row : Option Nat) : w.grownBy w' row := ⟨h.os, h.tape, h.output, h.size, fun k hk _ => h.block k hk⟩
theorem gr_trans {w w' w'' : World} {row : Option Nat} (h : w.grownBy w' row) (h' : w'.grownBy w'' row) : w.grownBy w'' row :=
  ⟨h'.os.trans h.os, h'.tape.trans h.tape, h'.output.trans h.output, Nat.le_trans h.size h'.size, fun k hk hne => (h'.block k (Nat.lt_of_lt_of_le hk h.size) hne).trans (h.block k hk hne)⟩
theorem gr_set (W : World) (g i : Nat) (v : Value) : W.grownBy (W.setCell ⟨g, i, none⟩ v) (some g) :=
  ⟨rfl, rfl, rfl, by show _ ≤ (W.heap.modify g _).size; simp, fun k _ hne => Below.heap_setCell _ _ _ _ (fun e => hne (by rw [e]))⟩
theorem gr_drewN (W : World) (n : Nat) (r : Option Nat) : W.grownBy (W.drewN n) r := gr_below (below_drewN (Below.refl W.heap.size W) n) r
theorem gr_drew (W : World) (r : Option Nat) : W.grownBy W.drew r := gr_below (Below.refl W.heap.size W).drew r
theorem blk_drewN {W : World} {g : Nat} {o : Obj} (h : W.heap[g]? = some o) (n : Nat) : (W.drewN n).heap[g]? = some o := h
theorem blk_drew {W : World} {g : Nat} {o : Obj} (h : W.heap[g]? = some o) : W.drew.heap[g]? = some o := h

/-- What a region leaves that calls, and lays the struct that is answered into a new box. -/
def BoxCut (V : World) (facts : World → Prop) (new : Array Value) (t : TypeId) (E : Value) (w : World) (p q : Value) (wx : World) : Prop :=
  ∃ gt, p = .pointer (some ⟨gt, 0, none⟩) ∧ q = E ∧ facts wx ∧ wx.heap[gt]? = some (.cells new t (0, 0)) ∧ V.heap.size ≤ gt ∧ Below w.heap.size w wx

theorem ret_int {k : IntKind} {a b : Int} (h : a = b) : Ending.returned (.int k a) = .returned (.int k b) := by rw [h]

end Go.Proofs.Ytgmgoilleakdcaa

namespace Go.Proofs.Ytgmgoilleakdcaa
open Go.RowKit Go.Sort
section
variable {P : Program} {ops : Array Oper} {md : Region.Mode} {C : World → Prop}

/-- Whatever is picked lies in the head, till L. -/
def HeadQ (P : Program) (md : Region.Mode) (ops : Array Oper) (C : World → Prop) (hd : List Nat) (L : Array Bool → Act → Prop) : Nat → Array Bool → Act → Prop
  | 0, listed, a => L listed a
  | f + 1, listed, a => Region.ready md ops listed ≠ [] ∧ ∀ i ∈ Region.ready md ops listed, i ∈ hd ∧ qOp P ops C i (HeadQ P md ops C hd L f (listed.setIfInBounds i true)) a

theorem any_of_headQ {hd : List Nat} {g : Nat} {L : Array Bool → Act → Prop} {Q' : Exit → Act → World → Prop} (hL : ∀ listed a w, C w → L listed a → wpAny P md ops Q' g listed a w) :
    ∀ (f : Nat) (listed : Array Bool) (a : Act) (w : World), C w → HeadQ P md ops C hd L f listed a → wpAny P md ops Q' (f + g) listed a w
  | 0, _, _, _, hw, h => by rw [Nat.zero_add]; exact hL _ _ _ hw h
  | f + 1, listed, a, w, hw, h => by
    rw [show f + 1 + g = (f + g) + 1 by omega]
    exact ⟨fun h0 => absurd h0 h.1, fun i hi => wpOp_of_qOp hw (fun a' w' hw' h' => any_of_headQ hL f _ a' w' hw' h') (h.2 i hi).2⟩

/-- Each of the head is waited for by a later one, or by the tail's first. -/
def sinks (md : Region.Mode) (ops : Array Oper) (t0 : Nat) : List Nat → Bool
  | [] => true
  | i :: r => (Region.waitsFor md ops t0 i || r.any (fun j => Region.waitsFor md ops j i)) && sinks md ops t0 r
def chains (md : Region.Mode) (ops : Array Oper) : Nat → List Nat → Bool
  | _, [] => true
  | t, u :: r => Region.waitsFor md ops u t && chains md ops u r

structure TInv (md : Region.Mode) (ops : Array Oper) (hd ts : List Nat) (listed : Array Bool) : Prop where
  size : listed.size = ops.size
  closed : ∀ j oj, ops[j]? = some oj → listed.getD j false = true → ∀ e ∈ oj.after, Region.binds md e = true → listed.getD e.on false = true
  tail : ∀ t ∈ ts, listed.getD t false = false
  all : ∀ j, j < ops.size → listed.getD j false = true ∨ j ∈ hd ∨ j ∈ ts

theorem TInv.set {hd ts : List Nat} {listed : Array Bool} {i : Nat} (v : TInv md ops hd ts listed) (hi : i ∈ Region.ready md ops listed) (hin : ∀ t ∈ ts, i ≠ t) : TInv md ops hd ts (listed.setIfInBounds i true) := by
  obtain ⟨_, oi, hoi, hall⟩ := mem_ready.1 hi
  refine ⟨by simp [v.size], fun j oj hj hl e he hb => ?_, fun t ht => by rw [getD_set_ne false (hin t ht)]; exact v.tail t ht, fun j hj => (v.all j hj).imp_left getD_set_true⟩
  by_cases hij : i = j
  · subst hij
    have : oj = oi := Option.some.inj (hj.symm.trans hoi)
    subst this
    exact getD_set_true (hall e he hb)
  · rw [getD_set_ne false hij] at hl
    exact getD_set_true (v.closed j oj hj hl e he hb)

theorem waited {j i : Nat} {oj : Oper} {listed : Array Bool} (hj : ops[j]? = some oj) (hall : ∀ e ∈ oj.after, Region.binds md e = true → listed.getD e.on false = true) (h : Region.waitsFor md ops j i = true) : listed.getD i false = true := by
  obtain ⟨o', ho', e, he, hb, hon⟩ := Region.waitsFor_spec h
  have : o' = oj := Option.some.inj (ho'.symm.trans hj)
  subst this
  have := hall e he hb
  rwa [hon] at this
/-- Where the tail's first may come up, all of the head has. -/
theorem first_waits {hd ts : List Nat} {t0 : Nat} {listed : Array Bool} (v : TInv md ops hd ts listed) (hr : t0 ∈ Region.ready md ops listed) : ∀ (l : List Nat), sinks md ops t0 l = true → ∀ i ∈ l, listed.getD i false = true
  | [], _, i, hi => by cases hi
  | k :: r, hs, i, hi => by
    simp only [sinks, Bool.and_eq_true, Bool.or_eq_true] at hs
    have ih := first_waits v hr r hs.2
    rcases List.mem_cons.1 hi with rfl | hi
    · obtain ⟨_, ot, hot, hall⟩ := mem_ready.1 hr
      rcases hs.1 with h | h
      · exact waited hot hall h
      · obtain ⟨j, hj, h2⟩ := List.any_eq_true.1 h
        obtain ⟨oj, hoj, _⟩ := Region.waitsFor_spec h2
        exact waited hoj (v.closed j oj hoj (ih j hj)) h2
    · exact ih i hi
theorem later_waits {hd ts : List Nat} {listed : Array Bool} (v : TInv md ops hd ts listed) : ∀ (l : List Nat) (t : Nat), t ∈ ts → (∀ u ∈ l, u ∈ ts) → chains md ops t l = true → ∀ u ∈ l, u ∉ Region.ready md ops listed
  | [], _, _, _, _, u, hu => by cases hu
  | k :: r, t, ht, hl, hc, u, hu => by
    simp only [chains, Bool.and_eq_true] at hc
    rcases List.mem_cons.1 hu with rfl | hu
    · intro hr
      obtain ⟨_, ot, hot, hall⟩ := mem_ready.1 hr
      have h1 := waited hot hall hc.1
      rw [v.tail t ht] at h1
      cases h1
    · exact later_waits v r k (hl k (by simp)) (fun x hx => hl x (List.mem_cons_of_mem _ hx)) hc.2 u hu
theorem tail_late {hd : List Nat} {t0 i : Nat} {tr : List Nat} {listed : Array Bool} (v : TInv md ops hd (t0 :: tr) listed) (hs : sinks md ops t0 hd = true) (hc : chains md ops t0 tr = true) (hi : i ∈ hd) (hun : listed.getD i true = false) :
    ∀ t ∈ t0 :: tr, t ∉ Region.ready md ops listed := by
  intro t ht hr
  rcases List.mem_cons.1 ht with rfl | ht
  · have := first_waits v hr hd hs i hi
    rw [getD_both hun] at this
    cases this
  · exact later_waits v tr t0 (by simp) (fun u hu => List.mem_cons_of_mem _ hu) hc t ht hr
theorem ready_head {hd : List Nat} {t0 i j : Nat} {tr : List Nat} {listed : Array Bool} (v : TInv md ops hd (t0 :: tr) listed) (hs : sinks md ops t0 hd = true) (hc : chains md ops t0 tr = true) (hi : i ∈ hd) (hun : listed.getD i true = false) (hj : j ∈ Region.ready md ops listed) : j ∈ hd := by
  obtain ⟨hjun, oj, hoj, _⟩ := mem_ready.1 hj
  rcases v.all j (Array.getElem?_eq_some_iff.1 hoj).1 with h | h | h
  · rw [getD_both hjun] at h; cases h
  · exact h
  · exact absurd hj (tail_late v hs hc hi hun j h)

theorem headQ_first {hd : List Nat} {t0 : Nat} {tr : List Nat} {i : Nat} {oi : Oper} {v : Value} {L : Array Bool → Act → Prop} (hi : ops[i]? = some oi) (hsel : ∀ (j : Nat) (o : Oper) cs b, ops[j]? = some o → o.op ≠ .select cs b)
    (hs : sinks md ops t0 hd = true) (hc : chains md ops t0 tr = true) (hdis : ∀ k ∈ hd, ∀ t ∈ t0 :: tr, k ≠ t) (hih : i ∈ hd)
    (hdone : ∀ listed a, L listed a → ∀ j ∈ Region.ready md ops listed, j ∈ t0 :: tr) :
    ∀ (f : Nat) (listed : Array Bool) (a : Act), TInv md ops hd (t0 :: tr) listed →
      (∀ j oj, ops[j]? = some oj → j ≠ i → listed.getD j true = false → (∀ e ∈ oj.after, Region.binds md e = true → e.on ≠ i) → oi.apart ops oj = true) →
      i ∈ Region.ready md ops listed → YieldsIn P ops C oi v a →
      HeadQ P md ops C hd L f (listed.setIfInBounds i true) (a.put oi.dst v) → HeadQ P md ops C hd L (f + 1) listed a := by
  intro f
  induction f with
  | zero =>
    intro listed a inv _ hr hy H
    have hun := (mem_ready.1 hr).1
    refine ⟨fun h => (by rw [h] at hr; cases hr), fun j hj => ?_⟩
    have hjh := ready_head inv hs hc hih hun hj
    refine ⟨hjh, ?_⟩
    by_cases hji : j = i
    · subst hji; exact hy.qOp hi H
    · exact absurd rfl (hdis j hjh j (hdone _ _ H j (ready_mono hj hji)))
  | succ f ih =>
    intro listed a inv hfree hr hy H
    have hun := (mem_ready.1 hr).1
    refine ⟨fun h => (by rw [h] at hr; cases hr), fun j hj => ?_⟩
    have hjh := ready_head inv hs hc hih hun hj
    refine ⟨hjh, ?_⟩
    by_cases hji : j = i
    · subst hji; exact hy.qOp hi H
    · have h1 := (H.2 j (ready_mono hj hji)).2
      obtain ⟨hjun, oj, hoj, hall⟩ := mem_ready.1 hj
      have hnot : ∀ e ∈ oj.after, Region.binds md e = true → e.on ≠ i := fun e he hb heq => by
        have h1 := hall e he hb
        rw [heq, getD_both hun] at h1
        cases h1
      have h2 := qOp_put hoj (hfree j oj hoj hji hjun hnot) (fun cs b => hsel i oi cs b hi) (fun cs b => hsel j oj cs b hoj) hy h1
      have hfree' : ∀ k ok, ops[k]? = some ok → k ≠ i → (listed.setIfInBounds j true).getD k true = false →
          (∀ e ∈ ok.after, Region.binds md e = true → e.on ≠ i) → oi.apart ops ok = true := fun k ok hk hki hun hno => by
        refine hfree k ok hk hki ?_ hno
        by_cases hjk : j = k
        · subst hjk; exact hjun
        · rw [getD_set_ne true hjk] at hun; exact hun
      refine qOp_mono (fun a' h3 => ih (listed.setIfInBounds j true) a' (inv.set hj (hdis j hjh)) hfree' (ready_mono hr (Ne.symm hji)) h3.1 ?_) h2
      rw [Array.setIfInBounds_comm _ _ hji]
      exact h3.2

/-- The tail alone: one after the other. -/
def seqT (md : Region.Mode) (ops : Array Oper) : List Nat → Array Bool → Bool
  | [], listed => (Region.ready md ops listed).isEmpty
  | t :: ts, listed => decide (Region.ready md ops listed = [t]) && seqT md ops ts (listed.setIfInBounds t true)
theorem any_of_seqT {Q' : Exit → Act → World → Prop} : ∀ (l : List Oper) (ts : List Nat) (listed : Array Bool) (a : Act) (w : World), l.map some = ts.map (fun t => ops[t]?) →
    seqT md ops ts listed = true → wpList P ops Q' l a w → wpAny P md ops Q' l.length listed a w
  | [], [], _, _, _, _, hB, h => ⟨by simpa [seqT] using hB, h⟩
  | [], _ :: _, _, _, _, he, _, _ => by simp at he
  | _ :: _, [], _, _, _, he, _, _ => by simp at he
  | o :: l, t :: ts, listed, a, w, he, hB, h => by
    simp only [List.map_cons, List.cons.injEq] at he
    simp only [seqT, Bool.and_eq_true, decide_eq_true_eq] at hB
    refine ⟨fun h1 => (by rw [hB.1] at h1; cases h1), fun i hi => ?_⟩
    rw [hB.1] at hi
    have hik : i = t := by simpa using hi
    subst hik
    have hw : wpOp P ops Q' i (wpList P ops Q' l) a w := by unfold wpOp; simp only [← he.1]; exact h
    exact wpOp_mono (fun a' w' h' => any_of_seqT l ts _ a' w' he.2 hB.2 h') hw
theorem seqT_ready {ts : List Nat} {listed : Array Bool} (h : seqT md ops ts listed = true) : ∀ j ∈ Region.ready md ops listed, j ∈ ts := by
  cases ts with
  | nil => intro j hj; simp only [seqT, List.isEmpty_iff] at h; rw [h] at hj; cases hj
  | cons t ts =>
    intro j hj
    simp only [seqT, Bool.and_eq_true, decide_eq_true_eq] at h
    rw [h.1] at hj
    have : j = t := by simpa using hj
    rw [this]; simp

def lexT (md : Region.Mode) (ops : Array Oper) (ts : List Nat) : List Nat → Array Bool → Bool
  | [], listed => seqT md ops ts listed
  | k :: r, listed => (Region.ready md ops listed).contains k && Region.free md ops listed k && lexT md ops ts r (listed.setIfInBounds k true)

theorem headQ_lex {hd : List Nat} {t0 : Nat} {tr : List Nat} {Lq : Act → Prop} (hsel : Region.noSelect ops = true) (hs : sinks md ops t0 hd = true) (hc : chains md ops t0 tr = true) (hdis : ∀ k ∈ hd, ∀ t ∈ t0 :: tr, k ≠ t) :
    ∀ (l : List Oper) (ks : List Nat) (listed : Array Bool) (a : Act), l.map some = ks.map (fun t => ops[t]?) → (∀ k ∈ ks, k ∈ hd) → TInv md ops hd (t0 :: tr) listed →
    lexT md ops (t0 :: tr) ks listed = true → wpQuiet P ops C Lq l a →
    HeadQ P md ops C hd (fun listed' a' => seqT md ops (t0 :: tr) listed' = true ∧ Lq a') l.length listed a
  | [], [], _, _, _, _, _, hB, h => ⟨by simpa [lexT] using hB, h⟩
  | [], _ :: _, _, _, he, _, _, _, _ => by simp at he
  | _ :: _, [], _, _, he, _, _, _, _ => by simp at he
  | o :: l, k :: ks, listed, a, he, hk, inv, hB, h => by
    simp only [List.map_cons, List.cons.injEq] at he
    have h0 : ops[k]? = some o := he.1.symm
    simp only [lexT, Bool.and_eq_true] at hB
    obtain ⟨⟨hr, hf⟩, hB'⟩ := hB
    have hkh : k ∈ hd := hk k (by simp)
    have hr' : k ∈ Region.ready md ops listed := by simpa using hr
    have hst : qOp P ops C k (wpQuiet P ops C Lq l) a := by unfold qOp; simp only [h0]; exact h
    obtain ⟨v, hy, hK⟩ := yieldsIn_of_qOp h0 hst
    exact headQ_first h0 (Region.noSelect_spec hsel) hs hc hdis hkh (fun listed' a' hL => seqT_ready hL.1) l.length listed a inv (Region.free_spec h0 hf) hr' hy
      (headQ_lex hsel hs hc hdis l ks _ _ he.2 (fun x hx => hk x (List.mem_cons_of_mem _ hx)) (inv.set hr' (hdis k hkh)) hB' hK)

/-- What a program decides of such a region, at this state of it. -/
def tailB (md : Region.Mode) (ops : Array Oper) (listed : Array Bool) (hd : List Nat) (t0 : Nat) (tr : List Nat) : Bool :=
  Region.noSelect ops && (decide (listed.size = ops.size) && ((List.range ops.size).all (fun j => !listed.getD j false || ((ops[j]?).map (·.after.all fun e => !Region.binds md e || listed.getD e.on false)).getD true) &&
    ((t0 :: tr).all (fun t => !listed.getD t false) && ((List.range ops.size).all (fun j => listed.getD j false || (hd.contains j || (t0 :: tr).contains j)) && (hd.all (fun k => (t0 :: tr).all fun t => decide (k ≠ t)) &&
    (sinks md ops t0 hd && (chains md ops t0 tr && lexT md ops (t0 :: tr) hd listed)))))))

theorem any_quiet_tail {Q' : Exit → Act → World → Prop} {listed : Array Bool} {a : Act} {w : World} (hd : List Nat) (t0 : Nat) (tr : List Nat) (os tos : List Oper) (h1 : os.map some = hd.map (fun t => ops[t]?)) (h2 : tos.map some = (t0 :: tr).map (fun t => ops[t]?))
    (hB : tailB md ops listed hd t0 tr = true) (hw : C w) (h : wpQuiet P ops C (fun a' => ∀ w', C w' → wpList P ops Q' tos a' w') os a) : wpAny P md ops Q' (os.length + tos.length) listed a w := by
  simp only [tailB, Bool.and_eq_true, decide_eq_true_eq] at hB
  obtain ⟨hsel, hsz, hcl, htl, hal, hdi, hs, hc, hlex⟩ := hB
  have hdis : ∀ k ∈ hd, ∀ t ∈ t0 :: tr, k ≠ t := fun k hk t ht => by
    have := List.all_eq_true.1 hdi k hk
    have := List.all_eq_true.1 this t ht
    simpa using this
  have inv : TInv md ops hd (t0 :: tr) listed := by
    refine ⟨hsz, fun j oj hj hl e he hb => ?_, fun t ht => ?_, fun j hj => ?_⟩
    · have h3 := List.all_eq_true.1 hcl j (List.mem_range.2 (Array.getElem?_eq_some_iff.1 hj).1)
      rw [hl, hj] at h3
      simp only [Bool.not_true, Bool.false_or, Option.map_some, Option.getD_some] at h3
      have := Array.all_eq_true_iff_forall_mem.1 h3 e he
      rw [hb] at this
      simpa using this
    · have := List.all_eq_true.1 htl t ht
      simpa using this
    · have := List.all_eq_true.1 hal j (List.mem_range.2 hj)
      simpa using this
  have H := headQ_lex (C := C) (P := P) (md := md) hsel hs hc hdis os hd listed a h1 (fun _ h => h) inv hlex h
  exact any_of_headQ (fun listed' a' w' hw' hL => any_of_seqT tos (t0 :: tr) listed' a' w' h2 hL.1 (hL.2 w' hw')) _ _ _ _ hw H

/-- From the region's beginning, over memory that only grows. -/
theorem wp_region_quiet_tail {id : Nat} {Q' : Exit → Act → World → Prop} {a : Act} {w : World} {l : List Oper} (hd : List Nat) (t0 : Nat) (tr : List Nat) (os tos : List Oper) (hm : P.follows .mixedOrders = true)
    (h1 : os.map some = hd.map (fun t => l.toArray[t]?)) (h2 : tos.map some = (t0 :: tr).map (fun t => l.toArray[t]?)) (hn : os.length + tos.length = l.length)
    (hB : tailB .any l.toArray (Array.replicate l.toArray.size false) hd t0 tr = true)
    (h : wpQuiet P l.toArray (fun w' => ∃ p : Regrown, w' = grow (redrawn w p.d) p.os) (fun a' => ∀ w', (∃ p : Regrown, w' = grow (redrawn w p.d) p.os) → wpList P l.toArray Q' tos a' w') os a) : (Code.region id l.toArray true).wp P Q' a w := by
  refine wp_region_any hm ?_
  have := any_quiet_tail (md := .any) (Q' := Q') (w := { w with drawn := w.drawn + 1 }) hd t0 tr os tos h1 h2 hB ⟨⟨w.drawn + 1, #[]⟩, by rw [grow_empty]; rfl⟩ h
  rw [hn] at this
  simpa using this
end
end Go.Proofs.Ytgmgoilleakdcaa
