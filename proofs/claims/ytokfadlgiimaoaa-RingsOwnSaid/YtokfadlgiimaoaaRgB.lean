/- A card's rings, all seventeen: what put and take do to one of them, and what stays. -/
import Derived.Test.YtokfadlgiimaoaaRgA
import Derived.Test.YtokfadlgiimaoaaGInts
namespace Go.Proofs.Ytokfadlgiimaoaa
open Go.RowKit Go.Sort

/-- A ring: its row's block, where its first thing lies, the row, its capacity, what waits. -/
structure Rg where
  b : Option Nat
  f : Nat
  sl : List V3
  sc : Nat
  q : List V3

def RgIn (W : World) (cs : Array Value) (o sz B : Nat) (r : Rg) : Prop :=
  cs[o]? = some (.int .i64 (sz : Nat)) ∧ cs[o + 1]? = some (.slice (r.b.map fun k => ⟨k, 0, none⟩) r.sl.length r.sc) ∧ cs[o + 2]? = some (.int .i64 (r.f : Nat)) ∧ cs[o + 3]? = some (.int .i64 (r.q.length : Nat)) ∧ r.q.length ≤ sz ∧ r.f < sz ∧
  ((r.b = none ∧ r.f = 0 ∧ r.sl = [] ∧ r.sc = 0 ∧ r.q = []) ∨ ∃ k, r.b = some k ∧ Slots B k r.sl r.sc W ∧ r.sl.length = sz ∧ ∀ i, i < r.q.length → r.sl[(r.f + i) % sz]? = r.q[i]?)

theorem RgIn.keep {W W' : World} {cs cs' : Array Value} {o sz B : Nat} {r : Rg} (h : RgIn W cs o sz B r) (hc : ∀ i, o ≤ i → i < o + 4 → cs'[i]? = cs[i]?) (hk : ∀ k, r.b = some k → ∀ ob, W.heap[k]? = some ob → W'.heap[k]? = some ob) : RgIn W' cs' o sz B r := by
  obtain ⟨h0, h1, h2, h3, h4, h5, h6⟩ := h
  refine ⟨by rw [hc _ (by omega) (by omega)]; exact h0, by rw [hc _ (by omega) (by omega)]; exact h1, by rw [hc _ (by omega) (by omega)]; exact h2, by rw [hc _ (by omega) (by omega)]; exact h3, h4, h5, ?_⟩
  rcases h6 with h6 | ⟨k, hb, hS, hr⟩
  · exact .inl h6
  · exact .inr ⟨k, hb, hS.keepRow (hk k hb), hr⟩
theorem RgIn.lt {W : World} {cs : Array Value} {o sz B : Nat} {r : Rg} (h : RgIn W cs o sz B r) {k : Nat} (hk : r.b = some k) : k < W.heap.size ∧ B ≤ k := by
  rcases h.2.2.2.2.2.2 with h6 | ⟨k', hb, hS, _⟩
  · rw [h6.1] at hk; cases hk
  · rw [hb] at hk; cases hk; exact ⟨hS.lt, hS.1⟩

theorem bts_keep {W W' : World} {a : Option Addr} {ys : List Nat} (h : Bts W a ys) (hs : W.heap.size ≤ W'.heap.size) (hk : ∀ b off, a = some ⟨b, off, none⟩ → b < W.heap.size → W'.heap[b]? = W.heap[b]?) : Bts W' a ys := by
  obtain ⟨h1, h2 | ⟨b, off, e, hb, hc⟩⟩ := h
  · exact ⟨h1, .inl h2⟩
  · exact ⟨h1, .inr ⟨b, off, e, Nat.lt_of_lt_of_le hb hs, fun i hi => (World.cell?_of_block (hk b off e hb)).trans (hc i hi)⟩⟩

/-- A frame: the slice that holds it, and its octets. -/
abbrev Fr := V3 × List Nat
def FrOk (W : World) (g : Nat) (rs : Nat → Rg) (x : Fr) : Prop :=
  Bts W x.1.1 x.2 ∧ x.1.2.1 = x.2.length ∧ (x.1.1 = none → x.1.2.2 = 0) ∧ ∀ b off, x.1.1 = some ⟨b, off, none⟩ → b < W.heap.size ∧ b ≠ g ∧ ∀ i, i < 17 → (rs i).b ≠ some b

structure CardR (W : World) (g B sz : Nat) (cs : Array Value) (rs : Nat → Rg) (fs : Nat → List Fr) : Prop where
  blk : W.heap[g]? = some (.cells cs 57 (0, 0))
  len : cs.size = 74
  bg : B ≤ g
  szl : 1 ≤ sz ∧ sz ≤ 4096
  ring : ∀ j, j < 17 → RgIn W cs (4 + 4 * j) sz B (rs j)
  que : ∀ j, j < 17 → (rs j).q = (fs j).map Prod.fst
  ne : ∀ j, j < 17 → ∀ k, (rs j).b = some k → k ≠ g ∧ ∀ i, i < 17 → i ≠ j → (rs i).b ≠ some k
  fr : ∀ j, j < 17 → ∀ x ∈ fs j, FrOk W g rs x

/-- What lies in no block of the card's stays. -/
def Oth (W W' : World) (g : Nat) (rs : Nat → Rg) : Prop :=
  W.heap.size ≤ W'.heap.size ∧ ∀ b, b < W.heap.size → b ≠ g → (∀ i, i < 17 → (rs i).b ≠ some b) → W'.heap[b]? = W.heap[b]?
def upd {α : Type} (f : Nat → α) (j : Nat) (x : α) : Nat → α := fun i => if i = j then x else f i
theorem upd_at {α : Type} (f : Nat → α) (j : Nat) (x : α) : upd f j x j = x := if_pos rfl
theorem upd_ne {α : Type} (f : Nat → α) {i j : Nat} (x : α) (h : i ≠ j) : upd f j x i = f i := if_neg h

theorem FrOk.keep {W W' : World} {g : Nat} {rs rs' : Nat → Rg} {x : Fr} (h : FrOk W g rs x) (ho : Oth W W' g rs) (hr : ∀ i, i < 17 → ∀ k, (rs' i).b = some k → (rs i).b = some k ∨ W.heap.size ≤ k) : FrOk W' g rs' x := by
  refine ⟨bts_keep h.1 ho.1 fun b off e hb => ho.2 b hb (h.2.2.2 b off e).2.1 (h.2.2.2 b off e).2.2, h.2.1, h.2.2.1, fun b off e => ?_⟩
  obtain ⟨h1, h2, h3⟩ := h.2.2.2 b off e
  refine ⟨Nat.lt_of_lt_of_le h1 ho.1, h2, fun i hi e2 => ?_⟩
  rcases hr i hi b e2 with h4 | h4
  · exact h3 i hi h4
  · omega

/-- One ring is turned: the card stays one. -/
theorem CardR.step {W W' : World} {g B sz : Nat} {cs cs' : Array Value} {rs : Nat → Rg} {fs : Nat → List Fr} (h : CardR W g B sz cs rs fs) (j : Nat) (hj : j < 17) (r : Rg) (l : List Fr)
    (hb : W'.heap[g]? = some (.cells cs' 57 (0, 0))) (hl : cs'.size = cs.size) (hc : ∀ i, i < 4 + 4 * j ∨ 4 + 4 * j + 4 ≤ i → cs'[i]? = cs[i]?) (hr : RgIn W' cs' (4 + 4 * j) sz B r) (hq : r.q = l.map Prod.fst)
    (hk : ∀ k, r.b = some k → (rs j).b = some k ∨ W.heap.size ≤ k) (hs : W.heap.size ≤ W'.heap.size) (ho : ∀ b, b < W.heap.size → b ≠ g → (rs j).b ≠ some b → W'.heap[b]? = W.heap[b]?)
    (hf : ∀ x ∈ l, x ∈ fs j ∨ FrOk W g rs x) : CardR W' g B sz cs' (upd rs j r) (upd fs j l) ∧ Oth W W' g rs := by
  have hgl : g < W.heap.size := blk_lt h.blk
  have hO : Oth W W' g rs := ⟨hs, fun b hb hg hn => ho b hb hg (hn j hj)⟩
  have hrs : ∀ i, i < 17 → ∀ k, (upd rs j r i).b = some k → (rs i).b = some k ∨ W.heap.size ≤ k := fun i hi k hk2 => by
    by_cases e : i = j
    · subst e; rw [upd_at] at hk2; exact hk k hk2
    · rw [upd_ne _ _ e] at hk2; exact .inl hk2
  refine ⟨⟨hb, hl.trans h.len, h.bg, h.szl, fun i hi => ?_, fun i hi => ?_, fun i hi k hk2 => ?_, fun i hi x hx => ?_⟩, hO⟩
  · by_cases e : i = j
    · subst e; rw [upd_at]; exact hr
    · rw [upd_ne _ _ e]
      refine (h.ring i hi).keep (fun n h1 h2 => hc n (by omega)) (fun k hk2 ob hob => ?_)
      have hkl := (h.ring i hi).lt hk2
      rw [ho k hkl.1 (h.ne i hi k hk2).1 ((h.ne i hi k hk2).2 j hj (fun e2 => e e2.symm))]
      exact hob
  · by_cases e : i = j
    · subst e; rw [upd_at, upd_at]; exact hq
    · rw [upd_ne _ _ e, upd_ne _ _ e]; exact h.que i hi
  · by_cases e : i = j
    · subst e
      rw [upd_at] at hk2
      rcases hk k hk2 with h1 | h1
      · refine ⟨(h.ne i hi k h1).1, fun n hn hne => ?_⟩
        rw [upd_ne _ _ hne]; exact (h.ne i hi k h1).2 n hn hne
      · refine ⟨by omega, fun n hn hne e2 => ?_⟩
        rw [upd_ne _ _ hne] at e2
        have := ((h.ring n hn).lt e2).1
        omega
    · rw [upd_ne _ _ e] at hk2
      have hkl := ((h.ring i hi).lt hk2).1
      refine ⟨(h.ne i hi k hk2).1, fun n hn hne e2 => ?_⟩
      rcases hrs n hn k e2 with h1 | h1
      · exact (h.ne i hi k hk2).2 n hn hne h1
      · omega
  · have key : FrOk W g rs x := by
      by_cases e : i = j
      · subst e
        rw [upd_at] at hx
        rcases hf x hx with h1 | h1
        · exact h.fr i hi x h1
        · exact h1
      · rw [upd_ne _ _ e] at hx; exact h.fr i hi x hx
    exact key.keep hO hrs

theorem mod_two (a z : Nat) (h : a < 2 * z) : a % z = if a < z then a else a - z := by
  split
  · exact Nat.mod_eq_of_lt (by assumption)
  · rw [Nat.mod_eq_sub_mod (by omega), Nat.mod_eq_of_lt (by omega)]
theorem mod_ne (f i n z : Nat) (hf : f < z) (hi : i < n) (hn : n < z) : (f + i) % z ≠ (f + n) % z := by
  rw [mod_two _ _ (by omega), mod_two _ _ (by omega)]
  split <;> split <;> omega
set_option maxHeartbeats 1000000 in
theorem card_put {g B sz : Nat} {cs : Array Value} {rs : Nat → Rg} {fs : Nat → List Fr} (j : Nat) (hj : j < 17) (xa : Option Addr) (ys : List Nat) (xc : Nat) (W : World) (h : CardR W g B sz cs rs fs) (hn : (fs j).length < sz) (hx : FrOk W g rs ((xa, ys.length, xc), ys)) (hBW : B ≤ W.heap.size) :
    Calls Try.prog 34 #[.pointer (some ⟨g, 4 + 4 * j, none⟩), .slice xa ys.length xc] W fun e w' => e = .returned (.bool true) ∧ (∃ cs' rs', CardR w' g B sz cs' rs' (upd fs j (fs j ++ [((xa, ys.length, xc), ys)])) ∧ (∀ i, i < 4 + 4 * j ∨ 4 + 4 * j + 4 ≤ i → cs'[i]? = cs[i]?) ∧ (∀ i, i < 17 → ∀ k, (rs' i).b = some k → (rs i).b = some k ∨ W.heap.size ≤ k)) ∧ Oth W w' g rs ∧ Below B W w' := by
  have hR := h.ring j hj
  have hq := h.que j hj
  obtain ⟨h0, h1, h2, h3, h4, h5, h6⟩ := hR
  have hlen : (rs j).q.length = (fs j).length := by rw [hq, List.length_map]
  have hub : ∀ (r : Rg), (∀ k, r.b = some k → (rs j).b = some k ∨ W.heap.size ≤ k) → ∀ i, i < 17 → ∀ k, (upd rs j r i).b = some k → (rs i).b = some k ∨ W.heap.size ≤ k := fun r hr i hi k hk2 => by
    by_cases e : i = j
    · subst e; rw [upd_at] at hk2; exact hr k hk2
    · rw [upd_ne _ _ e] at hk2; exact .inl hk2
  rcases h6 with ⟨hb, hf0, hsl, hsc, hq0⟩ | ⟨k, hb, hS, hsl, hcells⟩
  · rw [hb, hsl, hsc] at h1
    rw [hf0] at h2
    rw [hq0] at h3
    refine (put_nil g (4 + 4 * j) sz cs 57 xa ys.length xc W h.blk (by rw [h.len]; omega) h0 h1 h2 h3 h.szl.1 h.szl.2).mono ?_
    rintro e w' ⟨rfl, ⟨k, hk, hg', hS'⟩, hgr⟩
    have hfs : fs j = [] := by
      have := hq; rw [hq0] at this; exact List.map_eq_nil_iff.1 this.symm
    have st := h.step (W' := w') (cs' := (cs.setIfInBounds (4 + 4 * j + 1) (.slice (some ⟨k, 0, none⟩) sz sz)).setIfInBounds (4 + 4 * j + 3) (.int .i64 1)) j hj ⟨some k, 0, (List.replicate sz sv0).set 0 (xa, ys.length, xc), sz, [(xa, ys.length, xc)]⟩ (fs j ++ [((xa, ys.length, xc), ys)]) hg' (by simp) (fun i hi => by rw [Array.getElem?_setIfInBounds_ne (by omega), Array.getElem?_setIfInBounds_ne (by omega)])
      ⟨by rw [Array.getElem?_setIfInBounds_ne (by omega), Array.getElem?_setIfInBounds_ne (by omega)]; exact h0, by rw [Array.getElem?_setIfInBounds_ne (by omega), Array.getElem?_setIfInBounds_self_of_lt (by rw [h.len]; omega)]; simp, by rw [Array.getElem?_setIfInBounds_ne (by omega), Array.getElem?_setIfInBounds_ne (by omega)]; exact h2, by rw [Array.getElem?_setIfInBounds_self_of_lt (by simp [h.len]; omega)]; rfl, by show 1 ≤ sz; exact h.szl.1, by show 0 < sz; have := h.szl.1; omega,
        .inr ⟨k, rfl, hS'.mono (by omega), by simp, fun i hi => by
          have : i = 0 := by simp at hi; exact hi
          subst this
          have hz := h.szl.1
          rw [show (0 + 0) % sz = 0 from Nat.zero_mod _]
          simp [show 0 < sz by omega]⟩⟩
      (by rw [hfs]; rfl) (fun k' e => by cases e; exact .inr hk) hgr.size (fun b hb2 hg2 _ => hgr.block b hb2 (fun e => hg2 (Option.some.inj e)))
      (fun x hx2 => by rw [hfs] at hx2; simp at hx2; subst hx2; exact .inr hx)
    exact ⟨rfl, ⟨_, _, st.1, (fun i hi => by rw [Array.getElem?_setIfInBounds_ne (by omega), Array.getElem?_setIfInBounds_ne (by omega)]), hub _ (fun k' e => by cases e; exact .inr hk)⟩, st.2, (Below.refl B W).grown hgr hBW (fun k' e => by cases e; exact h.bg)⟩
  · rw [hb, hsl] at h1
    have hkl := (h.ring j hj).lt hb
    have hkg := (h.ne j hj k hb).1
    refine (put_some g (4 + 4 * j) sz (rs j).f (rs j).q.length k (rs j).sc (((rs j).f + (rs j).q.length) % sz) B cs 57 (rs j).sl xa ys.length xc W h.blk h0 h1 h2 h3 hS hsl (by omega) h5 h.szl.2 hkg rfl).mono ?_
    rintro e w' ⟨rfl, hg', hS', wm, ga, gb⟩
    have hs := Nat.le_trans ga.size gb.size
    have st := h.step (W' := w') (cs' := cs.setIfInBounds (4 + 4 * j + 3) (.int .i64 (((rs j).q.length : Int) + 1))) j hj ⟨some k, (rs j).f, (rs j).sl.set (((rs j).f + (rs j).q.length) % sz) (xa, ys.length, xc), (rs j).sc, (rs j).q ++ [(xa, ys.length, xc)]⟩ (fs j ++ [((xa, ys.length, xc), ys)]) hg' (by simp) (fun i hi => by rw [Array.getElem?_setIfInBounds_ne (by omega)])
      ⟨by rw [Array.getElem?_setIfInBounds_ne (by omega)]; exact h0, by rw [Array.getElem?_setIfInBounds_ne (by omega), List.length_set, hsl]; exact h1, by rw [Array.getElem?_setIfInBounds_ne (by omega)]; exact h2, by rw [Array.getElem?_setIfInBounds_self_of_lt (by rw [h.len]; omega)]; simp, by simp; omega, h5,
        .inr ⟨k, rfl, hS', by rw [List.length_set]; exact hsl, fun i hi => by
          have hi' : i < (rs j).q.length + 1 := by simpa using hi
          have hm : ((rs j).f + (rs j).q.length) % sz < (rs j).sl.length := by rw [hsl]; exact Nat.mod_lt _ (by omega)
          show ((rs j).sl.set _ _)[((rs j).f + i) % sz]? = ((rs j).q ++ [(xa, ys.length, xc)])[i]?
          by_cases e : i = (rs j).q.length
          · subst e
            rw [List.getElem?_set_self hm, List.getElem?_append_right (Nat.le_refl _), Nat.sub_self]; rfl
          · rw [List.getElem?_set_ne (fun e2 => mod_ne (rs j).f i (rs j).q.length sz h5 (by omega) (by omega) e2.symm), List.getElem?_append_left (by omega)]
            exact hcells i (by omega)⟩⟩
      (by show (rs j).q ++ [_] = _; rw [List.map_append, ← hq]; rfl) (fun k' e => by cases e; exact .inl hb) hs
      (fun b hb2 hg2 hk2 => by
        have e1 : some b ≠ some k := fun e => hk2 (by rw [hb, Option.some.inj e])
        exact (gb.block b (Nat.lt_of_lt_of_le hb2 ga.size) (fun e => hg2 (Option.some.inj e))).trans (ga.block b hb2 e1))
      (fun x hx2 => by
        rcases List.mem_append.1 hx2 with h7 | h7
        · exact .inl h7
        · simp at h7; subst h7; exact .inr hx)
    exact ⟨rfl, ⟨_, _, st.1, (fun i hi => by rw [Array.getElem?_setIfInBounds_ne (by omega)]), hub _ (fun k' e => by cases e; exact .inl hb)⟩, st.2, ((Below.refl B W).grown ga hBW (fun k' e => by cases e; exact hkl.2)).grown gb (by have := ga.size; omega) (fun k' e => by cases e; exact h.bg)⟩

theorem card_full {g B sz : Nat} {cs : Array Value} {rs : Nat → Rg} {fs : Nat → List Fr} (j : Nat) (hj : j < 17) (xa : Option Addr) (xn xc : Nat) (W : World) (h : CardR W g B sz cs rs fs) (hn : (fs j).length = sz) :
    Calls Try.prog 34 #[.pointer (some ⟨g, 4 + 4 * j, none⟩), .slice xa xn xc] W fun e w' => e = .returned (.bool false) ∧ Below W.heap.size W w' := by
  obtain ⟨h0, h1, h2, h3, h4, h5, h6⟩ := h.ring j hj
  have hlen : (rs j).q.length = sz := by rw [h.que j hj, List.length_map]; exact hn
  rw [hlen] at h3
  exact put_full g (4 + 4 * j) sz cs 57 xa xn xc W h.blk h0 h3

/-- What only makes new memory leaves a card as it is. -/
theorem CardR.below {W W' : World} {g B sz : Nat} {cs : Array Value} {rs : Nat → Rg} {fs : Nat → List Fr} (h : CardR W g B sz cs rs fs) (hb : Below W.heap.size W W') : CardR W' g B sz cs rs fs := by
  refine ⟨(hb.block g (blk_lt h.blk)).trans h.blk, h.len, h.bg, h.szl, fun j hj => (h.ring j hj).keep (fun _ _ _ => rfl) (fun k _ ob ho => (hb.block k (blk_lt ho)).trans ho), h.que, h.ne, fun j hj x hx => ?_⟩
  obtain ⟨f1, f2, f3, f4⟩ := h.fr j hj x hx
  exact ⟨f1.below hb, f2, f3, fun b off e => ⟨Nat.lt_of_lt_of_le (f4 b off e).1 hb.size, (f4 b off e).2⟩⟩

theorem card_empty {g B sz : Nat} {cs : Array Value} {rs : Nat → Rg} {fs : Nat → List Fr} (j : Nat) (hj : j < 17) (W : World) (h : CardR W g B sz cs rs fs) (hn : fs j = []) :
    Calls Try.prog 36 #[.pointer (some ⟨g, 4 + 4 * j, none⟩)] W fun e w' => e = .returned (.tuple #[.slice none 0 0, .bool false]) ∧ Below W.heap.size W w' := by
  obtain ⟨h0, h1, h2, h3, h4, h5, h6⟩ := h.ring j hj
  have hlen : (rs j).q.length = 0 := by rw [h.que j hj, List.length_map, hn]; rfl
  rw [hlen] at h3
  exact take_none g (4 + 4 * j) cs 57 W h.blk h3

set_option maxHeartbeats 1000000 in
theorem card_take {g B sz : Nat} {cs : Array Value} {rs : Nat → Rg} {fs : Nat → List Fr} (j : Nat) (hj : j < 17) (x : Fr) (l : List Fr) (W : World) (h : CardR W g B sz cs rs fs) (hl : fs j = x :: l) (hBW : B ≤ W.heap.size) :
    Calls Try.prog 36 #[.pointer (some ⟨g, 4 + 4 * j, none⟩)] W fun e w' => e = .returned (.tuple #[sv x.1, .bool true]) ∧ (∃ cs' rs', CardR w' g B sz cs' rs' (upd fs j l) ∧ (∀ i, i < 4 + 4 * j ∨ 4 + 4 * j + 4 ≤ i → cs'[i]? = cs[i]?) ∧ (∀ i, i < 17 → ∀ k, (rs' i).b = some k → (rs i).b = some k ∨ W.heap.size ≤ k)) ∧ Oth W w' g rs ∧ Below B W w' := by
  have hq := h.que j hj
  obtain ⟨h0, h1, h2, h3, h4, h5, h6⟩ := h.ring j hj
  have hlen : (rs j).q.length = l.length + 1 := by rw [hq, List.length_map, hl]; rfl
  have hq' : (rs j).q = x.1 :: l.map Prod.fst := by rw [hq, hl]; rfl
  have hub : ∀ (r : Rg), (∀ k, r.b = some k → (rs j).b = some k ∨ W.heap.size ≤ k) → ∀ i, i < 17 → ∀ k, (upd rs j r i).b = some k → (rs i).b = some k ∨ W.heap.size ≤ k := fun r hr i hi k hk2 => by
    by_cases e : i = j
    · subst e; rw [upd_at] at hk2; exact hr k hk2
    · rw [upd_ne _ _ e] at hk2; exact .inl hk2
  rcases h6 with ⟨_, _, _, _, hq0⟩ | ⟨k, hb, hS, hsl, hcells⟩
  · rw [hq0] at hlen; simp at hlen
  · rw [hb, hsl] at h1
    have hkl := (h.ring j hj).lt hb
    have hkg := (h.ne j hj k hb).1
    have hx0 : (rs j).sl.getD (rs j).f sv0 = x.1 := by
      have := hcells 0 (by omega)
      rw [Nat.add_zero, Nat.mod_eq_of_lt h5, hq'] at this
      rw [List.getD_eq_getElem?_getD, this]; rfl
    refine (take_some g (4 + 4 * j) sz (rs j).f (rs j).q.length k (rs j).sc (((rs j).f + 1) % sz) B cs 57 (rs j).sl W h.blk h0 h1 h2 h3 hS hsl (by omega) h4 h5 h.szl.2 hkg rfl).mono ?_
    rintro e w' ⟨rfl, hg', hS', wm, ga, gb⟩
    rw [hx0]
    have hs := Nat.le_trans ga.size gb.size
    have hz0 : 0 < sz := by omega
    have st := h.step (W' := w') (cs' := (cs.setIfInBounds (4 + 4 * j + 2) (.int .i64 ((((rs j).f + 1) % sz : Nat)))).setIfInBounds (4 + 4 * j + 3) (.int .i64 (((rs j).q.length : Int) - 1))) j hj ⟨some k, ((rs j).f + 1) % sz, (rs j).sl.set (rs j).f sv0, (rs j).sc, l.map Prod.fst⟩ l hg' (by simp) (fun i hi => by rw [Array.getElem?_setIfInBounds_ne (by omega), Array.getElem?_setIfInBounds_ne (by omega)])
      ⟨by rw [Array.getElem?_setIfInBounds_ne (by omega), Array.getElem?_setIfInBounds_ne (by omega)]; exact h0, by rw [Array.getElem?_setIfInBounds_ne (by omega), Array.getElem?_setIfInBounds_ne (by omega), List.length_set, hsl]; exact h1, by rw [Array.getElem?_setIfInBounds_ne (by omega), Array.getElem?_setIfInBounds_self_of_lt (by rw [h.len]; omega)], by rw [Array.getElem?_setIfInBounds_self_of_lt (by simp [h.len]; omega), hlen]; simp, by simp; omega, Nat.mod_lt _ hz0,
        .inr ⟨k, rfl, hS', by rw [List.length_set]; exact hsl, fun i hi => by
          have hi' : i < l.length := by simpa using hi
          have e1 : (((rs j).f + 1) % sz + i) % sz = ((rs j).f + (i + 1)) % sz := by rw [Nat.mod_add_mod, Nat.add_assoc, Nat.add_comm 1 i]
          show ((rs j).sl.set (rs j).f sv0)[(((rs j).f + 1) % sz + i) % sz]? = (l.map Prod.fst)[i]?
          have e2 : (rs j).f ≠ ((rs j).f + (i + 1)) % sz := by
            have := mod_ne (rs j).f 0 (i + 1) sz h5 (by omega) (by omega)
            rwa [Nat.add_zero, Nat.mod_eq_of_lt h5] at this
          rw [e1, List.getElem?_set_ne e2, hcells (i + 1) (by omega), hq']
          rfl⟩⟩
      rfl (fun k' e => by cases e; exact .inl hb) hs
      (fun b hb2 hg2 hk2 => by
        have e1 : some b ≠ some k := fun e => hk2 (by rw [hb, Option.some.inj e])
        exact (gb.block b (Nat.lt_of_lt_of_le hb2 ga.size) (fun e => hg2 (Option.some.inj e))).trans (ga.block b hb2 e1))
      (fun y hy => .inl (by rw [hl]; exact List.mem_cons_of_mem _ hy))
    exact ⟨rfl, ⟨_, _, st.1, (fun i hi => by rw [Array.getElem?_setIfInBounds_ne (by omega), Array.getElem?_setIfInBounds_ne (by omega)]), hub _ (fun k' e => by cases e; exact .inl hb)⟩, st.2, ((Below.refl B W).grown ga hBW (fun k' e => by cases e; exact hkl.2)).grown gb (by have := ga.size; omega) (fun k' e => by cases e; exact h.bg)⟩
end Go.Proofs.Ytokfadlgiimaoaa
