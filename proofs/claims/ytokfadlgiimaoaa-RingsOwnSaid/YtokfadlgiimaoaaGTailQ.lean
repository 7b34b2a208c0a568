/- A region that draws: what only reads and calls that only make memory, in whatever order; behind them a tail of operations, each of which waits for the one ahead of it. -/
import Derived.Test.YtokfadlgiimaoaaGBase
import Derived.Lib.QuietBelow
import Derived.StillTail
namespace Go.Proofs.Ytokfadlgiimaoaa
open Go.RowKit Go.Sort
section
variable {P : Program} {ops : Array Oper} {md : Region.Mode} {C : World → Prop}

/-- Whatever is picked lies in the head, till L. -/
def HeadQ (P : Program) (md : Region.Mode) (ops : Array Oper) (C : World → Prop) (hd : List Nat) (L : Array Bool → Act → Prop) : Nat → Array Bool → Act → Prop
  | 0, listed, a => L listed a
  | f + 1, listed, a => Region.ready md ops listed ≠ [] ∧ ∀ i ∈ Region.ready md ops listed, i ∈ hd ∧ qOp P ops C i (HeadQ P md ops C hd L f (listed.setIfInBounds i true)) a

theorem any_of_headQ {hd : List Nat} {g : Nat} {L : Array Bool → Act → Prop} {Q' : Exit → Act → World → Prop} (hL : ∀ listed a w, C w → L listed a → wpAny P md ops Q' g listed a w) :
    ∀ (f : Nat) (listed : Array Bool) (a : Act) (w : World), C w → HeadQ P md ops C hd L f listed a → wpAny P md ops Q' (f + g) listed a w
  | 0, _, _, _, hw, h => by rw [Nat.zero_add]; exact hL _ _ _ hw h
  | f + 1, listed, a, w, hw, h => by
    rw [show f + 1 + g = (f + g) + 1 by omega]
    exact ⟨fun h0 => absurd h0 h.1, fun i hi => wpOp_of_qOp hw (fun a' w' hw' h' => any_of_headQ hL f _ a' w' hw' h') (h.2 i hi).2⟩

/-- Each of the head is waited for by a later one, or by the tail's first. -/
def sinks (md : Region.Mode) (ops : Array Oper) (t0 : Nat) : List Nat → Bool
  | [] => true
  | i :: r => (Region.waitsFor md ops t0 i || r.any (fun j => Region.waitsFor md ops j i)) && sinks md ops t0 r
def chains (md : Region.Mode) (ops : Array Oper) : Nat → List Nat → Bool
  | _, [] => true
  | t, u :: r => Region.waitsFor md ops u t && chains md ops u r

structure TInv (md : Region.Mode) (ops : Array Oper) (hd ts : List Nat) (listed : Array Bool) : Prop where
  size : listed.size = ops.size
  closed : ∀ j oj, ops[j]? = some oj → listed.getD j false = true → ∀ e ∈ oj.after, Region.binds md e = true → listed.getD e.on false = true
  tail : ∀ t ∈ ts, listed.getD t false = false
  all : ∀ j, j < ops.size → listed.getD j false = true ∨ j ∈ hd ∨ j ∈ ts

theorem TInv.set {hd ts : List Nat} {listed : Array Bool} {i : Nat} (v : TInv md ops hd ts listed) (hi : i ∈ Region.ready md ops listed) (hin : ∀ t ∈ ts, i ≠ t) : TInv md ops hd ts (listed.setIfInBounds i true) := by
  obtain ⟨_, oi, hoi, hall⟩ := mem_ready.1 hi
  refine ⟨by simp [v.size], fun j oj hj hl e he hb => ?_, fun t ht => by rw [getD_set_ne false (hin t ht)]; exact v.tail t ht, fun j hj => (v.all j hj).imp_left getD_set_true⟩
  by_cases hij : i = j
  · subst hij
    have : oj = oi := Option.some.inj (hj.symm.trans hoi)
    subst this
    exact getD_set_true (hall e he hb)
  · rw [getD_set_ne false hij] at hl
    exact getD_set_true (v.closed j oj hj hl e he hb)

theorem waited {j i : Nat} {oj : Oper} {listed : Array Bool} (hj : ops[j]? = some oj) (hall : ∀ e ∈ oj.after, Region.binds md e = true → listed.getD e.on false = true) (h : Region.waitsFor md ops j i = true) : listed.getD i false = true := by
  obtain ⟨o', ho', e, he, hb, hon⟩ := Region.waitsFor_spec h
  have : o' = oj := Option.some.inj (ho'.symm.trans hj)
  subst this
  have := hall e he hb
  rwa [hon] at this
/-- Where the tail's first may come up, all of the head has. -/
theorem first_waits {hd ts : List Nat} {t0 : Nat} {listed : Array Bool} (v : TInv md ops hd ts listed) (hr : t0 ∈ Region.ready md ops listed) : ∀ (l : List Nat), sinks md ops t0 l = true → ∀ i ∈ l, listed.getD i false = true
  | [], _, i, hi => by cases hi
  | k :: r, hs, i, hi => by
    simp only [sinks, Bool.and_eq_true, Bool.or_eq_true] at hs
    have ih := first_waits v hr r hs.2
    rcases List.mem_cons.1 hi with rfl | hi
    · obtain ⟨_, ot, hot, hall⟩ := mem_ready.1 hr
      rcases hs.1 with h | h
      · exact waited hot hall h
      · obtain ⟨j, hj, h2⟩ := List.any_eq_true.1 h
        obtain ⟨oj, hoj, _⟩ := Region.waitsFor_spec h2
        exact waited hoj (v.closed j oj hoj (ih j hj)) h2
    · exact ih i hi
theorem later_waits {hd ts : List Nat} {listed : Array Bool} (v : TInv md ops hd ts listed) : ∀ (l : List Nat) (t : Nat), t ∈ ts → (∀ u ∈ l, u ∈ ts) → chains md ops t l = true → ∀ u ∈ l, u ∉ Region.ready md ops listed
  | [], _, _, _, _, u, hu => by cases hu
  | k :: r, t, ht, hl, hc, u, hu => by
    simp only [chains, Bool.and_eq_true] at hc
    rcases List.mem_cons.1 hu with rfl | hu
    · intro hr
      obtain ⟨_, ot, hot, hall⟩ := mem_ready.1 hr
      have h1 := waited hot hall hc.1
      rw [v.tail t ht] at h1
      cases h1
    · exact later_waits v r k (hl k (by simp)) (fun x hx => hl x (List.mem_cons_of_mem _ hx)) hc.2 u hu
theorem tail_late {hd : List Nat} {t0 i : Nat} {tr : List Nat} {listed : Array Bool} (v : TInv md ops hd (t0 :: tr) listed) (hs : sinks md ops t0 hd = true) (hc : chains md ops t0 tr = true) (hi : i ∈ hd) (hun : listed.getD i true = false) :
    ∀ t ∈ t0 :: tr, t ∉ Region.ready md ops listed := by
  intro t ht hr
  rcases List.mem_cons.1 ht with rfl | ht
  · have := first_waits v hr hd hs i hi
    rw [getD_both hun] at this
    cases this
  · exact later_waits v tr t0 (by simp) (fun u hu => List.mem_cons_of_mem _ hu) hc t ht hr
theorem ready_head {hd : List Nat} {t0 i j : Nat} {tr : List Nat} {listed : Array Bool} (v : TInv md ops hd (t0 :: tr) listed) (hs : sinks md ops t0 hd = true) (hc : chains md ops t0 tr = true) (hi : i ∈ hd) (hun : listed.getD i true = false) (hj : j ∈ Region.ready md ops listed) : j ∈ hd := by
  obtain ⟨hjun, oj, hoj, _⟩ := mem_ready.1 hj
  rcases v.all j (Array.getElem?_eq_some_iff.1 hoj).1 with h | h | h
  · rw [getD_both hjun] at h; cases h
  · exact h
  · exact absurd hj (tail_late v hs hc hi hun j h)

theorem headQ_first {hd : List Nat} {t0 : Nat} {tr : List Nat} {i : Nat} {oi : Oper} {v : Value} {L : Array Bool → Act → Prop} (hi : ops[i]? = some oi) (hsel : ∀ (j : Nat) (o : Oper) cs b, ops[j]? = some o → o.op ≠ .select cs b)
    (hs : sinks md ops t0 hd = true) (hc : chains md ops t0 tr = true) (hdis : ∀ k ∈ hd, ∀ t ∈ t0 :: tr, k ≠ t) (hih : i ∈ hd)
    (hdone : ∀ listed a, L listed a → ∀ j ∈ Region.ready md ops listed, j ∈ t0 :: tr) :
    ∀ (f : Nat) (listed : Array Bool) (a : Act), TInv md ops hd (t0 :: tr) listed →
      (∀ j oj, ops[j]? = some oj → j ≠ i → listed.getD j true = false → (∀ e ∈ oj.after, Region.binds md e = true → e.on ≠ i) → oi.apart ops oj = true) →
      i ∈ Region.ready md ops listed → YieldsIn P ops C oi v a →
      HeadQ P md ops C hd L f (listed.setIfInBounds i true) (a.put oi.dst v) → HeadQ P md ops C hd L (f + 1) listed a := by
  intro f
  induction f with
  | zero =>
    intro listed a inv _ hr hy H
    have hun := (mem_ready.1 hr).1
    refine ⟨fun h => (by rw [h] at hr; cases hr), fun j hj => ?_⟩
    have hjh := ready_head inv hs hc hih hun hj
    refine ⟨hjh, ?_⟩
    by_cases hji : j = i
    · subst hji; exact hy.qOp hi H
    · exact absurd rfl (hdis j hjh j (hdone _ _ H j (ready_mono hj hji)))
  | succ f ih =>
    intro listed a inv hfree hr hy H
    have hun := (mem_ready.1 hr).1
    refine ⟨fun h => (by rw [h] at hr; cases hr), fun j hj => ?_⟩
    have hjh := ready_head inv hs hc hih hun hj
    refine ⟨hjh, ?_⟩
    by_cases hji : j = i
    · subst hji; exact hy.qOp hi H
    · have h1 := (H.2 j (ready_mono hj hji)).2
      obtain ⟨hjun, oj, hoj, hall⟩ := mem_ready.1 hj
      have hnot : ∀ e ∈ oj.after, Region.binds md e = true → e.on ≠ i := fun e he hb heq => by
        have h1 := hall e he hb
        rw [heq, getD_both hun] at h1
        cases h1
      have h2 := qOp_put hoj (hfree j oj hoj hji hjun hnot) (fun cs b => hsel i oi cs b hi) (fun cs b => hsel j oj cs b hoj) hy h1
      have hfree' : ∀ k ok, ops[k]? = some ok → k ≠ i → (listed.setIfInBounds j true).getD k true = false →
          (∀ e ∈ ok.after, Region.binds md e = true → e.on ≠ i) → oi.apart ops ok = true := fun k ok hk hki hun hno => by
        refine hfree k ok hk hki ?_ hno
        by_cases hjk : j = k
        · subst hjk; exact hjun
        · rw [getD_set_ne true hjk] at hun; exact hun
      refine qOp_mono (fun a' h3 => ih (listed.setIfInBounds j true) a' (inv.set hj (hdis j hjh)) hfree' (ready_mono hr (Ne.symm hji)) h3.1 ?_) h2
      rw [Array.setIfInBounds_comm _ _ hji]
      exact h3.2

/-- The tail alone: one after the other. -/
def seqT (md : Region.Mode) (ops : Array Oper) : List Nat → Array Bool → Bool
  | [], listed => (Region.ready md ops listed).isEmpty
  | t :: ts, listed => decide (Region.ready md ops listed = [t]) && seqT md ops ts (listed.setIfInBounds t true)
theorem any_of_seqT {Q' : Exit → Act → World → Prop} : ∀ (l : List Oper) (ts : List Nat) (listed : Array Bool) (a : Act) (w : World), l.map some = ts.map (fun t => ops[t]?) →
    seqT md ops ts listed = true → wpList P ops Q' l a w → wpAny P md ops Q' l.length listed a w
  | [], [], _, _, _, _, hB, h => ⟨by simpa [seqT] using hB, h⟩
  | [], _ :: _, _, _, _, he, _, _ => by simp at he
  | _ :: _, [], _, _, _, he, _, _ => by simp at he
  | o :: l, t :: ts, listed, a, w, he, hB, h => by
    simp only [List.map_cons, List.cons.injEq] at he
    simp only [seqT, Bool.and_eq_true, decide_eq_true_eq] at hB
    refine ⟨fun h1 => (by rw [hB.1] at h1; cases h1), fun i hi => ?_⟩
    rw [hB.1] at hi
    have hik : i = t := by simpa using hi
    subst hik
    have hw : wpOp P ops Q' i (wpList P ops Q' l) a w := by unfold wpOp; simp only [← he.1]; exact h
    exact wpOp_mono (fun a' w' h' => any_of_seqT l ts _ a' w' he.2 hB.2 h') hw
theorem seqT_ready {ts : List Nat} {listed : Array Bool} (h : seqT md ops ts listed = true) : ∀ j ∈ Region.ready md ops listed, j ∈ ts := by
  cases ts with
  | nil => intro j hj; simp only [seqT, List.isEmpty_iff] at h; rw [h] at hj; cases hj
  | cons t ts =>
    intro j hj
    simp only [seqT, Bool.and_eq_true, decide_eq_true_eq] at h
    rw [h.1] at hj
    have : j = t := by simpa using hj
    rw [this]; simp

def lexT (md : Region.Mode) (ops : Array Oper) (ts : List Nat) : List Nat → Array Bool → Bool
  | [], listed => seqT md ops ts listed
  | k :: r, listed => (Region.ready md ops listed).contains k && Region.free md ops listed k && lexT md ops ts r (listed.setIfInBounds k true)

theorem headQ_lex {hd : List Nat} {t0 : Nat} {tr : List Nat} {Lq : Act → Prop} (hsel : Region.noSelect ops = true) (hs : sinks md ops t0 hd = true) (hc : chains md ops t0 tr = true) (hdis : ∀ k ∈ hd, ∀ t ∈ t0 :: tr, k ≠ t) :
    ∀ (l : List Oper) (ks : List Nat) (listed : Array Bool) (a : Act), l.map some = ks.map (fun t => ops[t]?) → (∀ k ∈ ks, k ∈ hd) → TInv md ops hd (t0 :: tr) listed →
    lexT md ops (t0 :: tr) ks listed = true → wpQuiet P ops C Lq l a →
    HeadQ P md ops C hd (fun listed' a' => seqT md ops (t0 :: tr) listed' = true ∧ Lq a') l.length listed a
  | [], [], _, _, _, _, _, hB, h => ⟨by simpa [lexT] using hB, h⟩
  | [], _ :: _, _, _, he, _, _, _, _ => by simp at he
  | _ :: _, [], _, _, he, _, _, _, _ => by simp at he
  | o :: l, k :: ks, listed, a, he, hk, inv, hB, h => by
    simp only [List.map_cons, List.cons.injEq] at he
    have h0 : ops[k]? = some o := he.1.symm
    simp only [lexT, Bool.and_eq_true] at hB
    obtain ⟨⟨hr, hf⟩, hB'⟩ := hB
    have hkh : k ∈ hd := hk k (by simp)
    have hr' : k ∈ Region.ready md ops listed := by simpa using hr
    have hst : qOp P ops C k (wpQuiet P ops C Lq l) a := by unfold qOp; simp only [h0]; exact h
    obtain ⟨v, hy, hK⟩ := yieldsIn_of_qOp h0 hst
    exact headQ_first h0 (Region.noSelect_spec hsel) hs hc hdis hkh (fun listed' a' hL => seqT_ready hL.1) l.length listed a inv (Region.free_spec h0 hf) hr' hy
      (headQ_lex hsel hs hc hdis l ks _ _ he.2 (fun x hx => hk x (List.mem_cons_of_mem _ hx)) (inv.set hr' (hdis k hkh)) hB' hK)

/-- What a program decides of such a region, at this state of it. -/
def tailB (md : Region.Mode) (ops : Array Oper) (listed : Array Bool) (hd : List Nat) (t0 : Nat) (tr : List Nat) : Bool :=
  Region.noSelect ops && (decide (listed.size = ops.size) && ((List.range ops.size).all (fun j => !listed.getD j false || ((ops[j]?).map (·.after.all fun e => !Region.binds md e || listed.getD e.on false)).getD true) &&
    ((t0 :: tr).all (fun t => !listed.getD t false) && ((List.range ops.size).all (fun j => listed.getD j false || (hd.contains j || (t0 :: tr).contains j)) && (hd.all (fun k => (t0 :: tr).all fun t => decide (k ≠ t)) &&
    (sinks md ops t0 hd && (chains md ops t0 tr && lexT md ops (t0 :: tr) hd listed)))))))

theorem any_quiet_tail {Q' : Exit → Act → World → Prop} {listed : Array Bool} {a : Act} {w : World} (hd : List Nat) (t0 : Nat) (tr : List Nat) (os tos : List Oper) (h1 : os.map some = hd.map (fun t => ops[t]?)) (h2 : tos.map some = (t0 :: tr).map (fun t => ops[t]?))
    (hB : tailB md ops listed hd t0 tr = true) (hw : C w) (h : wpQuiet P ops C (fun a' => ∀ w', C w' → wpList P ops Q' tos a' w') os a) : wpAny P md ops Q' (os.length + tos.length) listed a w := by
  simp only [tailB, Bool.and_eq_true, decide_eq_true_eq] at hB
  obtain ⟨hsel, hsz, hcl, htl, hal, hdi, hs, hc, hlex⟩ := hB
  have hdis : ∀ k ∈ hd, ∀ t ∈ t0 :: tr, k ≠ t := fun k hk t ht => by
    have := List.all_eq_true.1 hdi k hk
    have := List.all_eq_true.1 this t ht
    simpa using this
  have inv : TInv md ops hd (t0 :: tr) listed := by
    refine ⟨hsz, fun j oj hj hl e he hb => ?_, fun t ht => ?_, fun j hj => ?_⟩
    · have h3 := List.all_eq_true.1 hcl j (List.mem_range.2 (Array.getElem?_eq_some_iff.1 hj).1)
      rw [hl, hj] at h3
      simp only [Bool.not_true, Bool.false_or, Option.map_some, Option.getD_some] at h3
      have := Array.all_eq_true_iff_forall_mem.1 h3 e he
      rw [hb] at this
      simpa using this
    · have := List.all_eq_true.1 htl t ht
      simpa using this
    · have := List.all_eq_true.1 hal j (List.mem_range.2 hj)
      simpa using this
  have H := headQ_lex (C := C) (P := P) (md := md) hsel hs hc hdis os hd listed a h1 (fun _ h => h) inv hlex h
  exact any_of_headQ (fun listed' a' w' hw' hL => any_of_seqT tos (t0 :: tr) listed' a' w' h2 hL.1 (hL.2 w' hw')) _ _ _ _ hw H

/-- From the region's beginning, over memory that only grows. -/
theorem wp_region_quiet_tail {id : Nat} {Q' : Exit → Act → World → Prop} {a : Act} {w : World} {l : List Oper} (hd : List Nat) (t0 : Nat) (tr : List Nat) (os tos : List Oper) (hm : P.follows .mixedOrders = true)
    (h1 : os.map some = hd.map (fun t => l.toArray[t]?)) (h2 : tos.map some = (t0 :: tr).map (fun t => l.toArray[t]?)) (hn : os.length + tos.length = l.length)
    (hB : tailB .any l.toArray (Array.replicate l.toArray.size false) hd t0 tr = true)
    (h : wpQuiet P l.toArray (fun w' => ∃ p : Regrown, w' = grow (redrawn w p.d) p.os) (fun a' => ∀ w', (∃ p : Regrown, w' = grow (redrawn w p.d) p.os) → wpList P l.toArray Q' tos a' w') os a) : (Code.region id l.toArray true).wp P Q' a w := by
  refine wp_region_any hm ?_
  have := any_quiet_tail (md := .any) (Q' := Q') (w := { w with drawn := w.drawn + 1 }) hd t0 tr os tos h1 h2 hB ⟨⟨w.drawn + 1, #[]⟩, by rw [grow_empty]; rfl⟩ h
  rw [hn] at this
  simpa using this
end
end Go.Proofs.Ytokfadlgiimaoaa
