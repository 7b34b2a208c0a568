/- A card: its cells, its key and table, its rings; Send, Emit, Take, Len, Waiting. -/
import Derived.Test.YtokfadlgiimaoaaRgB
namespace Go.Proofs.Ytokfadlgiimaoaa
open Go.RowKit Go.Sort

theorem its_keep {W W' : World} {a : Option Addr} {ts : List Int} (h : Its W a ts) (hs : W.heap.size ≤ W'.heap.size) (hk : ∀ b off, a = some ⟨b, off, none⟩ → b < W.heap.size → W'.heap[b]? = W.heap[b]?) : Its W' a ts := by
  obtain ⟨h1, h2 | ⟨b, off, e, hb, hc⟩⟩ := h
  · exact ⟨h1, .inl h2⟩
  · exact ⟨h1, .inr ⟨b, off, e, Nat.lt_of_lt_of_le hb hs, fun i hi => (World.cell?_of_block (hk b off e hb)).trans (hc i hi)⟩⟩

/-- A card's key and table. -/
structure Keys where
  ka : Option Addr
  ks : List Nat
  kc : Nat
  ta : Option Addr
  ts : List Int
  tc : Nat

/-- What lies in none of these blocks stays. -/
def Stay (W W' : World) (own : Nat → Prop) : Prop := W.heap.size ≤ W'.heap.size ∧ ∀ b, b < W.heap.size → ¬ own b → W'.heap[b]? = W.heap[b]?
theorem Stay.bts {W W' : World} {own : Nat → Prop} {a : Option Addr} {ys : List Nat} (h : Stay W W' own) (hb : Bts W a ys) (hn : ∀ b off, a = some ⟨b, off, none⟩ → ¬ own b) : Bts W' a ys := bts_keep hb h.1 fun b off e hl => h.2 b hl (hn b off e)

def KeysOk (W : World) (own : Nat → Prop) (K : Keys) : Prop := Bts W K.ka K.ks ∧ Its W K.ta K.ts ∧ (∀ b off, K.ka = some ⟨b, off, none⟩ → b < W.heap.size ∧ ¬ own b) ∧ ∀ b off, K.ta = some ⟨b, off, none⟩ → b < W.heap.size ∧ ¬ own b
theorem KeysOk.keep {W W' : World} {own own' : Nat → Prop} {K : Keys} (h : KeysOk W own K) (hs : Stay W W' own) (ho : ∀ b, own' b → own b ∨ W.heap.size ≤ b) : KeysOk W' own' K := by
  obtain ⟨h1, h2, h3, h4⟩ := h
  refine ⟨bts_keep h1 hs.1 fun b off e hl => hs.2 b hl (h3 b off e).2, its_keep h2 hs.1 fun b off e hl => hs.2 b hl (h4 b off e).2, fun b off e => ⟨Nat.lt_of_lt_of_le (h3 b off e).1 hs.1, fun h5 => ?_⟩, fun b off e => ⟨Nat.lt_of_lt_of_le (h4 b off e).1 hs.1, fun h5 => ?_⟩⟩
  · rcases ho b h5 with h6 | h6
    · exact (h3 b off e).2 h6
    · have := (h3 b off e).1; omega
  · rcases ho b h5 with h6 | h6
    · exact (h4 b off e).2 h6
    · have := (h4 b off e).1; omega

def Owns (g : Nat) (rs : Nat → Rg) (b : Nat) : Prop := b = g ∨ ∃ i, i < 17 ∧ (rs i).b = some b
structure CardC (W : World) (g B sz : Nat) (ev now free : Int) (K : Keys) (fs : Nat → List Fr) (cs : Array Value) (rs : Nat → Rg) : Prop where
  R : CardR W g B sz cs rs fs
  c0 : cs[0]? = some (.slice K.ka K.ks.length K.kc)
  c1 : cs[1]? = some (.slice K.ta K.ts.length K.tc)
  c2 : cs[2]? = some (.int .i64 (sz : Nat))
  c3 : cs[3]? = some (.int .i64 ev)
  c72 : cs[72]? = some (.int .i64 now)
  c73 : cs[73]? = some (.int .i64 free)
  keys : KeysOk W (Owns g rs) K
def CardS (W : World) (g B sz : Nat) (ev now free : Int) (K : Keys) (fs : Nat → List Fr) (own : Nat → Prop) : Prop := ∃ cs rs, CardC W g B sz ev now free K fs cs rs ∧ ∀ b, own b ↔ Owns g rs b

theorem Oth.stay {W W' : World} {g : Nat} {rs : Nat → Rg} {own : Nat → Prop} (h : Oth W W' g rs) (ho : ∀ b, own b ↔ Owns g rs b) : Stay W W' own :=
  ⟨h.1, fun b hb hn => h.2 b hb (fun e => hn ((ho b).2 (.inl e))) (fun i hi e => hn ((ho b).2 (.inr ⟨i, hi, e⟩)))⟩
theorem Stay.trans {W W1 W2 : World} {own own1 : Nat → Prop} (h : Stay W W1 own) (h1 : Stay W1 W2 own1) (ho : ∀ b, own1 b → own b ∨ W.heap.size ≤ b) : Stay W W2 own :=
  ⟨Nat.le_trans h.1 h1.1, fun b hb hn => (h1.2 b (Nat.lt_of_lt_of_le hb h.1) (fun h5 => by
    rcases ho b h5 with h6 | h6
    · exact hn h6
    · omega)).trans (h.2 b hb hn)⟩
theorem Stay.of_below {W W' : World} (own : Nat → Prop) (h : Below W.heap.size W W') : Stay W W' own := ⟨h.size, fun b hb _ => h.block b hb⟩

theorem CardC.step {W W' : World} {g B sz : Nat} {ev now free : Int} {K : Keys} {fs fs' : Nat → List Fr} {cs cs' : Array Value} {rs rs' : Nat → Rg} (h : CardC W g B sz ev now free K fs cs rs) (j : Nat) (hj : j < 17)
    (hR : CardR W' g B sz cs' rs' fs') (hc : ∀ i, i < 4 + 4 * j ∨ 4 + 4 * j + 4 ≤ i → cs'[i]? = cs[i]?) (hr : ∀ i, i < 17 → ∀ k, (rs' i).b = some k → (rs i).b = some k ∨ W.heap.size ≤ k) (ho : Oth W W' g rs) : CardC W' g B sz ev now free K fs' cs' rs' :=
  ⟨hR, (hc 0 (by omega)).trans h.c0, (hc 1 (by omega)).trans h.c1, (hc 2 (by omega)).trans h.c2, (hc 3 (by omega)).trans h.c3, (hc 72 (by omega)).trans h.c72, (hc 73 (by omega)).trans h.c73,
    h.keys.keep (ho.stay (own := Owns g rs) (fun _ => Iff.rfl)) (fun b hb => by
      rcases hb with hb | ⟨i, hi, hb⟩
      · exact .inl (.inl hb)
      · rcases hr i hi b hb with h1 | h1
        · exact .inl (.inr ⟨i, hi, h1⟩)
        · exact .inr h1)⟩
theorem owns_step {W : World} {g : Nat} {rs rs' : Nat → Rg} (hr : ∀ i, i < 17 → ∀ k, (rs' i).b = some k → (rs i).b = some k ∨ W.heap.size ≤ k) (b : Nat) (hb : Owns g rs' b) : Owns g rs b ∨ W.heap.size ≤ b := by
  rcases hb with hb | ⟨i, hi, hb⟩
  · exact .inl (.inl hb)
  · rcases hr i hi b hb with h1 | h1
    · exact .inl (.inr ⟨i, hi, h1⟩)
    · exact .inr h1
theorem CardC.below {W W' : World} {g B sz : Nat} {ev now free : Int} {K : Keys} {fs : Nat → List Fr} {cs : Array Value} {rs : Nat → Rg} (h : CardC W g B sz ev now free K fs cs rs) (hb : Below W.heap.size W W') : CardC W' g B sz ev now free K fs cs rs :=
  ⟨h.R.below hb, h.c0, h.c1, h.c2, h.c3, h.c72, h.c73, h.keys.keep (Stay.of_below _ hb) (fun _ h => .inl h)⟩
theorem CardS.below {W W' : World} {g B sz : Nat} {ev now free : Int} {K : Keys} {fs : Nat → List Fr} {own : Nat → Prop} (h : CardS W g B sz ev now free K fs own) (hb : Below W.heap.size W W') : CardS W' g B sz ev now free K fs own := by
  obtain ⟨cs, rs, h1, h2⟩ := h
  exact ⟨cs, rs, h1.below hb, h2⟩

theorem CardR.setScalar {W : World} {g B sz : Nat} {cs : Array Value} {rs : Nat → Rg} {fs : Nat → List Fr} (h : CardR W g B sz cs rs fs) (i : Nat) (hi : 72 ≤ i) (v : Value) : CardR (W.setCell ⟨g, i, none⟩ v) g B sz (cs.setIfInBounds i v) rs fs := by
  have hg := gset W g i v
  refine ⟨blk_set h.blk i v, by rw [Array.size_setIfInBounds]; exact h.len, h.bg, h.szl, fun j hj => (h.ring j hj).keep (fun n h1 h2 => by rw [Array.getElem?_setIfInBounds_ne (by omega)]) (fun k hk ob ho => (hg.block k (blk_lt ho) (fun e => (h.ne j hj k hk).1 (Option.some.inj e))).trans ho), h.que, h.ne, fun j hj x hx => ?_⟩
  obtain ⟨f1, f2, f3, f4⟩ := h.fr j hj x hx
  exact ⟨bts_keep f1 hg.size fun b off e hb => hg.block b hb (fun e2 => (f4 b off e).2.1 (Option.some.inj e2)), f2, f3, fun b off e => ⟨Nat.lt_of_lt_of_le (f4 b off e).1 hg.size, (f4 b off e).2⟩⟩
theorem CardC.setNow {W : World} {g B sz : Nat} {ev now free : Int} {K : Keys} {fs : Nat → List Fr} {cs : Array Value} {rs : Nat → Rg} (h : CardC W g B sz ev now free K fs cs rs) (v : Int) : CardC (W.setCell ⟨g, 72, none⟩ (.int .i64 v)) g B sz ev v free K fs (cs.setIfInBounds 72 (.int .i64 v)) rs := by
  have hg := gset W g 72 (.int .i64 v)
  have hx : ∀ i, i ≠ 72 → (cs.setIfInBounds 72 (.int .i64 v))[i]? = cs[i]? := fun i hi => Array.getElem?_setIfInBounds_ne (fun e => hi e.symm)
  exact ⟨h.R.setScalar 72 (by omega) _, (hx 0 (by omega)).trans h.c0, (hx 1 (by omega)).trans h.c1, (hx 2 (by omega)).trans h.c2, (hx 3 (by omega)).trans h.c3, Array.getElem?_setIfInBounds_self_of_lt (by rw [h.R.len]; omega), (hx 73 (by omega)).trans h.c73,
    h.keys.keep ⟨hg.size, fun b hb hn => hg.block b hb (fun e => hn (.inl (Option.some.inj e)))⟩ (fun _ h => .inl h)⟩
theorem CardC.setFree {W : World} {g B sz : Nat} {ev now free : Int} {K : Keys} {fs : Nat → List Fr} {cs : Array Value} {rs : Nat → Rg} (h : CardC W g B sz ev now free K fs cs rs) (v : Int) : CardC (W.setCell ⟨g, 73, none⟩ (.int .i64 v)) g B sz ev now v K fs (cs.setIfInBounds 73 (.int .i64 v)) rs := by
  have hg := gset W g 73 (.int .i64 v)
  have hx : ∀ i, i ≠ 73 → (cs.setIfInBounds 73 (.int .i64 v))[i]? = cs[i]? := fun i hi => Array.getElem?_setIfInBounds_ne (fun e => hi e.symm)
  exact ⟨h.R.setScalar 73 (by omega) _, (hx 0 (by omega)).trans h.c0, (hx 1 (by omega)).trans h.c1, (hx 2 (by omega)).trans h.c2, (hx 3 (by omega)).trans h.c3, (hx 72 (by omega)).trans h.c72, Array.getElem?_setIfInBounds_self_of_lt (by rw [h.R.len]; omega),
    h.keys.keep ⟨hg.size, fun b hb hn => hg.block b hb (fun e => hn (.inl (Option.some.inj e)))⟩ (fun _ h => .inl h)⟩

set_option maxHeartbeats 1000000 in
theorem made_yes (g sz : Nat) (cs : Array Value) (t : TypeId) (w : World) (hg : w.heap[g]? = some (.cells cs t (0, 0))) (h2 : cs[2]? = some (.int .i64 (sz : Nat))) (hz : 1 ≤ sz) :
    Calls Try.prog 33 #[.pointer (some ⟨g, 0, none⟩)] w fun e w' => e = .returned (.bool true) ∧ w = w' := by
  have c2 := (blk_cell hg 2).trans h2
  have i0 : (0 : Int) < (sz : Int) := by omega
  clear hg h2
  go_enter Try.func33, Try.ntmps33
  go_wp2
  go_ret
  exact ⟨congrArg (fun b => Ending.returned (Value.bool b)) (decide_eq_true (by omega)), rfl⟩

set_option maxHeartbeats 1000000 in
theorem waiting_ok (g B sz : Nat) (ev now free : Int) (K : Keys) (fs : Nat → List Fr) (own : Nat → Prop) (w : World) (h : CardS w g B sz ev now free K fs own) :
    Calls Try.prog 19 #[.pointer (some ⟨g, 0, none⟩)] w fun e w' => e = .returned (.int .i64 ((fs 16).length : Nat)) ∧ w = w' := by
  obtain ⟨cs, rs, h, ho⟩ := h
  obtain ⟨h0, h1, h2, h3, h4, h5, h6⟩ := h.R.ring 16 (by omega)
  have hlen : (rs 16).q.length = (fs 16).length := by rw [h.R.que 16 (by omega), List.length_map]
  have c71 : w.cell? ⟨g, 71, none⟩ = some (.int .i64 ((fs 16).length : Nat)) := (blk_cell h.R.blk 71).trans (by rw [← hlen]; exact h3)
  have HM := Lib.hid (made_yes g sz cs _ w h.R.blk h.c2 h.R.szl.1)
  clear h h0 h1 h2 h3 h4 h5 h6 hlen ho
  go_enter Try.func19, Try.ntmps19
  go_wp2_with (first
    | (go_at_call 33; refine HM.out.mono ?_; rintro e w' ⟨rfl, rfl⟩)
    | fail)
  go_ret
  exact ⟨rfl, rfl⟩
end Go.Proofs.Ytokfadlgiimaoaa
