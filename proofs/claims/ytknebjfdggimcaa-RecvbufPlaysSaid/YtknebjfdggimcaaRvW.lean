/- Recvbuf: the document's buffer: what its loops make, by the side of the program's. -/
import Derived.Test.YtknebjfdggimcaaRvU
namespace Go.Proofs.Ytknebjfdggimcaa.Rv
/-- The document's parts: an offset, octets, when one was added last. -/
abbrev DPt := Nat × List Nat × Nat
def dend (p : DPt) : Nat := p.1 + p.2.1.length
/-- .. as the program's. -/
def asP (p : DPt) : Pt := (p.1, dend p, p.2.2)
/-- low and high, by the document's loop. -/
def lhF (l r : Nat) : List Pt → Nat × Nat → Nat × Nat
  | [], a => a
  | p :: ps, a => lhF l r ps (if p.1 ≤ r ∧ l ≤ p.2.1 then (min a.1 p.1, max a.2 p.2.1) else a)
theorem lhF_skip (l r : Nat) : ∀ {ps : List Pt} (a : Nat × Nat), (∀ p ∈ ps, ¬ (p.1 ≤ r ∧ l ≤ p.2.1)) → lhF l r ps a = a
  | [], _, _ => rfl
  | p :: ps, a, h => by
    rw [lhF, if_neg (h p List.mem_cons_self)]
    exact lhF_skip l r a (fun q hq => h q (List.mem_cons_of_mem _ hq))
theorem lhF_app (l r : Nat) : ∀ (ps qs : List Pt) (a : Nat × Nat), lhF l r (ps ++ qs) a = lhF l r qs (lhF l r ps a)
  | [], _, _ => rfl
  | p :: ps, qs, a => by rw [List.cons_append, lhF, lhF, lhF_app]
theorem lhF_mid (l r : Nat) : ∀ {ps : List Pt} {x y : Nat}, ps.Pairwise (fun p q => p.2.1 < q.1) → (∀ p ∈ ps, (p.1 ≤ r ∧ l ≤ p.2.1) ∧ p.1 < p.2.1 ∧ x ≤ p.1 ∧ y ≤ p.2.1) → ps ≠ [] → (lhF l r ps (x, y)).1 = x ∧ (lhF l r ps (x, y)).2 = (match ps.getLast? with | none => y | some p => p.2.1)
  | [], _, _, _, _, h => absurd rfl h
  | p :: ps, x, y, hs, h, _ => by
    have hp := h p List.mem_cons_self
    obtain ⟨h1, h2⟩ := List.pairwise_cons.1 hs
    rw [lhF, if_pos hp.1, show min (x, y).1 p.1 = x from by show min x p.1 = x; omega, show max (x, y).2 p.2.1 = p.2.1 from by show max y p.2.1 = p.2.1; omega]
    cases hps : ps with
    | nil => exact ⟨rfl, rfl⟩
    | cons q t =>
      have ih := lhF_mid l r (ps := ps) (x := x) (y := p.2.1) h2 (fun z hz => by have hz1 := h z (List.mem_cons_of_mem _ hz); have := h1 z hz; exact ⟨hz1.1, hz1.2.1, hz1.2.2.1, by omega⟩) (by rw [hps]; simp)
      rw [hps] at ih
      rw [List.getLast?_cons_cons]
      exact ih
theorem lhF_first (l r : Nat) {ps : List Pt} (hs : ps.Pairwise (fun p q => p.2.1 < q.1)) (h : ∀ p ∈ ps, (p.1 ≤ r ∧ l ≤ p.2.1) ∧ p.1 < p.2.1) : lhF l r ps (l, r) = ((match (generalizing := false) ps with | [] => l | p :: _ => min l p.1), (match (generalizing := false) ps.getLast? with | none => r | some p => max r p.2.1)) := by
  cases ps with
  | nil => rfl
  | cons p t =>
    have hp := h p List.mem_cons_self
    obtain ⟨h1, h2⟩ := List.pairwise_cons.1 hs
    rw [lhF, if_pos hp.1]
    cases t with
    | nil => rfl
    | cons q t =>
      have key : ∀ (u : List Pt) (x y : Nat), u.Pairwise (fun p q => p.2.1 < q.1) → (∀ p ∈ u, (p.1 ≤ r ∧ l ≤ p.2.1) ∧ p.1 < p.2.1 ∧ x ≤ p.1) → u ≠ [] → lhF l r u (x, y) = (x, match u.getLast? with | none => y | some p => max y p.2.1) := by
        intro u
        induction u with
        | nil => intro x y _ _ h; exact absurd rfl h
        | cons z v ih =>
          intro x y hu hv _
          have hz := hv z List.mem_cons_self
          obtain ⟨k1, k2⟩ := List.pairwise_cons.1 hu
          rw [lhF, if_pos hz.1, show min (x, y).1 z.1 = x from by show min x z.1 = x; omega]
          cases v with
          | nil => rfl
          | cons z2 v2 =>
            have e := ih x (max (x, y).2 z.2.1) k2 (fun p hp => hv p (List.mem_cons_of_mem _ hp)) (by simp)
            rw [e, List.getLast?_cons_cons]
            obtain ⟨w, hw⟩ : ∃ w, (z2 :: v2).getLast? = some w := ⟨_, List.getLast?_eq_some_getLast (by simp)⟩
            rw [hw]
            have hwm := List.mem_of_getLast? hw
            have h5 := k1 w hwm
            have h6 := (hv w (List.mem_cons_of_mem _ hwm)).2.1
            show (x, max (max y z.2.1) w.2.1) = (x, max y w.2.1)
            congr 1
            omega
      have e := key (q :: t) (min (l, r).1 p.1) (max (l, r).2 p.2.1) h2 (fun z hz => by
        have hz1 := h z (List.mem_cons_of_mem _ hz)
        have h3 := h1 z hz
        refine ⟨hz1.1, hz1.2, ?_⟩
        show min l p.1 ≤ z.1; omega) (by simp)
      rw [e, List.getLast?_cons_cons]
      obtain ⟨w, hw⟩ : ∃ w, (q :: t).getLast? = some w := ⟨_, List.getLast?_eq_some_getLast (by simp)⟩
      rw [hw]
      have hwm := List.mem_of_getLast? hw
      have h5 := h1 w hwm
      have h6 := (h w (List.mem_cons_of_mem _ hwm)).2
      show (min l p.1, max (max r p.2.1) w.2.1) = (min l p.1, max r w.2.1)
      congr 1
      omega
/-- The document's low and high are the program's. -/
theorem lhF_is {b l r : Nat} {ps : List Pt} (h : Wf b ps) (C : Cut ps l r) : lhF l r ps (l, r) = (lo ps l r, hi ps l r) := by
  have hs := h.1
  rw [p_eq ps l r] at hs
  obtain ⟨_, hs2, _⟩ := List.pairwise_append.1 hs
  obtain ⟨hsM, _, _⟩ := List.pairwise_append.1 hs2
  have e : lhF l r ps (l, r) = lhF l r (pA ps l ++ (pM ps l r ++ pC ps l r)) (l, r) := by rw [← p_eq]
  rw [e, lhF_app, lhF_app, lhF_skip (ps := pA ps l) l r _ (fun p hp h => by have := C.a p hp; omega), lhF_skip (ps := pC ps l r) l r _ (fun p hp h => by have := C.c p hp; omega)]
  rw [lhF_first l r hsM (fun p hp => ⟨⟨(C.m p hp).2, (C.m p hp).1⟩, (h.2 p (by rw [p_eq ps l r]; exact List.mem_append_right _ (List.mem_append_left _ hp))).2.1⟩)]
  rfl
/-- What is handed out, by the document's loop: those inside are left out, the new one put in its place. -/
def outF {α : Type} (f : α → Nat) (low high : Nat) (q : α) : List α → List α × Bool → List α × Bool
  | [], a => a
  | p :: ps, a => outF f low high q ps (if low ≤ f p ∧ f p < high then a else if low < f p ∧ a.2 = false then (a.1 ++ [q] ++ [p], true) else (a.1 ++ [p], a.2))
def outL {α : Type} (f : α → Nat) (low high : Nat) (q : α) (ps : List α) : List α := if (outF f low high q ps ([], false)).2 then (outF f low high q ps ([], false)).1 else (outF f low high q ps ([], false)).1 ++ [q]
theorem outF_app {α : Type} (f : α → Nat) (low high : Nat) (q : α) : ∀ (ps qs : List α) (a : List α × Bool), outF f low high q (ps ++ qs) a = outF f low high q qs (outF f low high q ps a)
  | [], _, _ => rfl
  | p :: ps, qs, a => by rw [List.cons_append, outF, outF, outF_app]
theorem outF_low {α : Type} (f : α → Nat) (low high : Nat) (q : α) : ∀ (ps : List α) (o : List α), (∀ p ∈ ps, f p < low) → outF f low high q ps (o, false) = (o ++ ps, false)
  | [], o, _ => by rw [outF, List.append_nil]
  | p :: ps, o, h => by
    have hp := h p List.mem_cons_self
    rw [outF, if_neg (by omega), if_neg (by omega), outF_low f low high q ps _ (fun x hx => h x (List.mem_cons_of_mem _ hx)), List.append_assoc]; rfl
theorem outF_mid {α : Type} (f : α → Nat) (low high : Nat) (q : α) : ∀ (ps : List α) (a : List α × Bool), (∀ p ∈ ps, low ≤ f p ∧ f p < high) → outF f low high q ps a = a
  | [], _, _ => rfl
  | p :: ps, a, h => by rw [outF, if_pos (h p List.mem_cons_self), outF_mid f low high q ps a (fun x hx => h x (List.mem_cons_of_mem _ hx))]
theorem outF_high {α : Type} (f : α → Nat) (low high : Nat) (q : α) (hlh : low ≤ high) : ∀ (ps : List α) (o : List α), (∀ p ∈ ps, high < f p) → outF f low high q ps (o, true) = (o ++ ps, true)
  | [], o, _ => by rw [outF, List.append_nil]
  | p :: ps, o, h => by
    have hp := h p List.mem_cons_self
    rw [outF, if_neg (by omega), if_neg (by simp), outF_high f low high q hlh ps _ (fun x hx => h x (List.mem_cons_of_mem _ hx)), List.append_assoc]; rfl
/-- .. is what lies ahead, the new one, what lies behind. -/
theorem outL_is {α : Type} (f : α → Nat) (low high : Nat) (q : α) (hlh : low ≤ high) {A M C : List α} (hA : ∀ p ∈ A, f p < low) (hM : ∀ p ∈ M, low ≤ f p ∧ f p < high) (hC : ∀ p ∈ C, high < f p) : outL f low high q (A ++ (M ++ C)) = A ++ q :: C := by
  unfold outL
  rw [outF_app, outF_app, outF_low f low high q A [] hA, List.nil_append, outF_mid f low high q M _ hM]
  cases C with
  | nil => rw [outF, if_neg (by simp)]
  | cons c t =>
    have hc := hC c List.mem_cons_self
    have n1 : ¬ (low ≤ f c ∧ f c < high) := by omega
    have y1 : low < f c := by omega
    have e2 : ∀ B : List α, (if low < f c ∧ ((B, false) : List α × Bool).2 = false then (((B, false) : List α × Bool).1 ++ [q] ++ [c], true) else (((B, false) : List α × Bool).1 ++ [c], ((B, false) : List α × Bool).2)) = (B ++ [q] ++ [c], true) := fun B => if_pos ⟨y1, rfl⟩
    rw [outF, if_neg n1, e2, outF_high f low high q hlh t _ (fun x hx => hC x (List.mem_cons_of_mem _ hx)), if_pos rfl]
    simp
/-- The octet at an offset, if it is there. -/
def atF : List DPt → Nat → Option Nat
  | [], _ => none
  | p :: ps, k => if p.1 ≤ k ∧ k < dend p then some (p.2.1.getD (k - p.1) 0) else atF ps k
theorem atF_none : ∀ {l : List DPt} {k : Nat}, atF l k = none ↔ ¬ ∃ p ∈ l, p.1 ≤ k ∧ k < dend p
  | [], _ => by simp [atF]
  | p :: ps, k => by
    rw [atF]
    by_cases h : p.1 ≤ k ∧ k < dend p
    · rw [if_pos h]; simp; intro h2; exact absurd h2 (by have := h.2; have := h.1; intro h3; exact absurd (h3 h.1) (by omega))
    · rw [if_neg h, atF_none]; simp [h]
/-- The octet the merged part has at an offset. -/
def octD (l : List DPt) (off : Nat) (d : List Nat) (j : Nat) : Nat := match atF l j with | some c => c | none => d.getD (j - off) 0
/-- The merged part's octets. -/
def mB (l : List DPt) (off : Nat) (d : List Nat) (low high : Nat) : List Nat := (List.range (high - low)).map fun t => octD l off d (low + t)
/-- Was one added? -/
def Adds (l : List DPt) (off : Nat) (d : List Nat) : Prop := ∃ i, i < d.length ∧ atF l (off + i) = none
def lowF (l : List DPt) (off : Nat) (d : List Nat) : Nat := (lhF off (off + d.length) (l.map asP) (off, off + d.length)).1
def highF (l : List DPt) (off : Nat) (d : List Nat) : Nat := (lhF off (off + d.length) (l.map asP) (off, off + d.length)).2
def newP (l : List DPt) (off : Nat) (d : List Nat) (turn : Nat) : DPt := (lowF l off d, mB l off d (lowF l off d) (highF l off d), turn)
/-- The document's merged, where one was added. -/
def mergF (l : List DPt) (off : Nat) (d : List Nat) (turn : Nat) : List DPt := outL (·.1) (lowF l off d) (highF l off d) (newP l off d turn) l
/-- The document's buffer. -/
structure DSt where
  sz : Nat
  next : Nat
  ready : List Nat
  parts : List DPt
  turn : Nat
open Classical in
/-- The document's Insert of octets in the window. -/
noncomputable def dIn (w : DSt) (l : Nat) (d : List Nat) : DSt × Nat × Nat :=
  if Adds w.parts l d then
    match mergF w.parts l d (w.turn + 1) with
    | [] => (w, 0, 0)
    | p :: t =>
      if 1024 < (if p.1 = 0 then t.length else t.length + 1) then (w, 0, 81)
      else if 0 < p.1 then ({ w with parts := p :: t, turn := w.turn + 1 }, 0, 0)
      else ({ w with parts := t.map fun x => (x.1 - p.2.1.length, x.2), turn := w.turn + 1, ready := w.ready ++ p.2.1, next := (w.next + p.2.1.length) % 4294967296 }, p.2.1.length, 0)
  else (w, 0, 0)
/-- A part of both. -/
structure ZP where
  l : Nat
  r : Nat
  at' : Nat
  b : List Nat
  wh : Nat
def pS (z : ZP) : Pt := (z.l, z.r, z.at')
def pW (z : ZP) : DPt := (z.l, z.b, z.wh)
structure Rel (s : St) (w : DSt) (Z : List ZP) : Prop where
  hs : s.parts = Z.map pS
  hw : w.parts = Z.map pW
  hl : ∀ z ∈ Z, z.l + z.b.length = z.r
  hb : ∀ z ∈ Z, ∀ j, j < z.b.length → z.b.getD j 0 = octF s.ring s.sz s.start (s.ready + (z.l + j))
  ho : ∀ a ∈ Z, ∀ b ∈ Z, (a.at' < b.at' ↔ a.wh < b.wh)
  hd : Z.Pairwise fun a b => a.at' ≠ b.at'
  ha : ∀ z ∈ Z, z.at' ≤ s.count ∧ z.wh ≤ w.turn
  sz : w.sz = s.sz
  nx : w.next = s.next
  rd : w.ready = (List.range s.ready).map (octF s.ring s.sz s.start)
theorem rel_at {s : St} {w : DSt} {Z : List ZP} (R : Rel s w Z) (j : Nat) : atF w.parts j = none ↔ ¬ Cov s.parts j := by
  rw [atF_none, R.hw, R.hs]
  unfold Cov
  refine not_congr ⟨?_, ?_⟩
  · rintro ⟨p, hp, h1, h2⟩
    obtain ⟨z, hz, rfl⟩ := List.mem_map.1 hp
    refine ⟨_, List.mem_map_of_mem hz, h1, ?_⟩
    have := R.hl z hz
    unfold dend pW at h2; unfold pS; simp only at h2 ⊢; omega
  · rintro ⟨p, hp, h1, h2⟩
    obtain ⟨z, hz, rfl⟩ := List.mem_map.1 hp
    refine ⟨_, List.mem_map_of_mem hz, h1, ?_⟩
    have := R.hl z hz
    unfold dend pW; unfold pS at h2; simp only at h2 ⊢; omega
theorem atF_mem : ∀ {l : List DPt} {j c : Nat}, atF l j = some c → ∃ p ∈ l, p.1 ≤ j ∧ j < dend p ∧ c = p.2.1.getD (j - p.1) 0
  | [], _, _, h => by simp [atF] at h
  | p :: ps, j, c, h => by
    rw [atF] at h
    by_cases hc : p.1 ≤ j ∧ j < dend p
    · rw [if_pos hc] at h; exact ⟨p, List.mem_cons_self, hc.1, hc.2, (Option.some.inj h).symm⟩
    · rw [if_neg hc] at h
      obtain ⟨q, hq, h2⟩ := atF_mem h
      exact ⟨q, List.mem_cons_of_mem _ hq, h2⟩
theorem rel_some {s : St} {w : DSt} {Z : List ZP} (R : Rel s w Z) {j c : Nat} (h : atF w.parts j = some c) : c = octF s.ring s.sz s.start (s.ready + j) := by
  obtain ⟨p, hp, h1, h2, h3⟩ := atF_mem h
  rw [R.hw] at hp
  obtain ⟨z, hz, rfl⟩ := List.mem_map.1 hp
  unfold dend pW at h2
  unfold pW at h1 h3
  simp only at h1 h2 h3
  rw [h3, R.hb z hz _ (by omega), show z.l + (j - z.l) = j from by omega]
theorem lhF_ext (l r : Nat) {Z : List ZP} (h : ∀ z ∈ Z, z.l + z.b.length = z.r) : ∀ a, lhF l r ((Z.map pW).map asP) a = lhF l r (Z.map pS) a := by
  induction Z with
  | nil => intro a; rfl
  | cons z t ih =>
    intro a
    have hz := h z List.mem_cons_self
    have e : dend (pW z) = z.r := hz
    show lhF l r (asP (pW z) :: (t.map pW).map asP) a = lhF l r (pS z :: t.map pS) a
    rw [lhF, lhF, ih (fun x hx => h x (List.mem_cons_of_mem _ hx))]
    show lhF l r (t.map pS) (if z.l ≤ r ∧ l ≤ dend (pW z) then (min a.1 z.l, max a.2 (dend (pW z))) else a) = lhF l r (t.map pS) (if z.l ≤ r ∧ l ≤ z.r then (min a.1 z.l, max a.2 z.r) else a)
    rw [e]
theorem rel_lh {s : St} {w : DSt} {Z : List ZP} (K : Ok s) (R : Rel s w Z) (l : Nat) (d : List Nat) : lowF w.parts l d = lo s.parts l (l + d.length) ∧ highF w.parts l d = hi s.parts l (l + d.length) := by
  unfold lowF highF
  rw [R.hw, lhF_ext l _ R.hl, ← R.hs, lhF_is K.wf (cut_of K.wf l (l + d.length))]
  exact ⟨rfl, rfl⟩
def zA (Z : List ZP) (l : Nat) : List ZP := Z.takeWhile fun z => decide (z.r < l)
def zR (Z : List ZP) (l : Nat) : List ZP := Z.dropWhile fun z => decide (z.r < l)
def zM (Z : List ZP) (l r : Nat) : List ZP := (zR Z l).takeWhile fun z => decide (z.l ≤ r)
def zC (Z : List ZP) (l r : Nat) : List ZP := (zR Z l).dropWhile fun z => decide (z.l ≤ r)
theorem z_eq (Z : List ZP) (l r : Nat) : Z = zA Z l ++ (zM Z l r ++ zC Z l r) := by
  unfold zA zM zC
  rw [List.takeWhile_append_dropWhile]; unfold zR; rw [List.takeWhile_append_dropWhile]
theorem tw_map {α β : Type} (f : α → β) (g : β → Bool) : ∀ l : List α, (l.map f).takeWhile g = (l.takeWhile (fun x => g (f x))).map f
  | [] => rfl
  | x :: t => by
    rw [List.map_cons, List.takeWhile_cons, List.takeWhile_cons, tw_map f g t]
    by_cases h : g (f x) <;> simp [h]
theorem dw_map {α β : Type} (f : α → β) (g : β → Bool) : ∀ l : List α, (l.map f).dropWhile g = (l.dropWhile (fun x => g (f x))).map f
  | [] => rfl
  | x :: t => by
    rw [List.map_cons, List.dropWhile_cons, List.dropWhile_cons, dw_map f g t]
    by_cases h : g (f x) <;> simp [h]
theorem zA_map (Z : List ZP) (l : Nat) : pA (Z.map pS) l = (zA Z l).map pS := tw_map pS _ Z
theorem zM_map (Z : List ZP) (l r : Nat) : pM (Z.map pS) l r = (zM Z l r).map pS := by
  unfold pM pR; rw [dw_map, tw_map]; rfl
theorem zC_map (Z : List ZP) (l r : Nat) : pC (Z.map pS) l r = (zC Z l r).map pS := by
  unfold pC pR; rw [dw_map, dw_map]; rfl
theorem rel_adds {s : St} {w : DSt} {Z : List ZP} (K : Ok s) (R : Rel s w Z) (l : Nat) (d : List Nat) : gapsF l (pM s.parts l (l + d.length)) (l + d.length) = [] ↔ ¬ Adds w.parts l d := by
  have C := cut_of K.wf l (l + d.length)
  have hs := K.wf.1
  rw [p_eq s.parts l (l + d.length)] at hs
  obtain ⟨_, hs2, _⟩ := List.pairwise_append.1 hs
  obtain ⟨hsM, _, _⟩ := List.pairwise_append.1 hs2
  have hM : ∀ p ∈ pM s.parts l (l + d.length), p.1 ≤ l + d.length ∧ p.1 < p.2.1 := fun p hp => ⟨(C.m p hp).2, (K.wf.2 p (by rw [p_eq s.parts l (l + d.length)]; exact List.mem_append_right _ (List.mem_append_left _ hp))).2.1⟩
  have key := gaps_cov (a := l) (r := l + d.length) hsM hM
  have hin := gaps_in (a := l) (r := l + d.length) (fun p hp => (hM p hp).1)
  constructor
  · rintro h ⟨i, hi, h2⟩
    rw [rel_at R] at h2
    have h3 : ¬ Cov (pM s.parts l (l + d.length)) (l + i) := fun hc => h2 ((cov_split s.parts l (l + d.length) (l + i)).2 (.inr (.inl hc)))
    obtain ⟨g, hg, _⟩ := (key (l + i)).2 ⟨by omega, by omega, h3⟩
    rw [h] at hg; exact absurd hg List.not_mem_nil
  · intro h
    cases hg : gapsF l (pM s.parts l (l + d.length)) (l + d.length) with
    | nil => rfl
    | cons g t =>
      exfalso
      have hgm : g ∈ gapsF l (pM s.parts l (l + d.length)) (l + d.length) := by rw [hg]; exact List.mem_cons_self
      have h1 := hin g hgm
      have h2 := (key g.1).1 ⟨g, hgm, Nat.le_refl _, h1.2.1⟩
      refine h ⟨g.1 - l, by omega, ?_⟩
      rw [show l + (g.1 - l) = g.1 from by omega, rel_at R, cov_split s.parts l (l + d.length)]
      rintro (⟨p, hp, h3, h4⟩ | h3 | ⟨p, hp, h3, h4⟩)
      · have := C.a p hp; omega
      · exact h2.2.2 h3
      · have := C.c p hp; omega
theorem mB_len (l : List DPt) (off : Nat) (d : List Nat) (low high : Nat) : (mB l off d low high).length = high - low := by
  unfold mB; rw [List.length_map, List.length_range]
theorem mB_get (l : List DPt) (off : Nat) (d : List Nat) (low high j : Nat) (h : j < high - low) : (mB l off d low high).getD j 0 = octD l off d (low + j) := by
  unfold mB
  rw [List.getD_eq_getElem?_getD, List.getElem?_map, List.getElem?_range h]; rfl
/-- What the document puts together: what lies ahead, the new one, what lies behind. -/
theorem merg_is {s : St} {w : DSt} {Z : List ZP} (K : Ok s) (R : Rel s w Z) (l : Nat) (d : List Nat) (turn : Nat) :
    mergF w.parts l d turn = (zA Z l).map pW ++ (lo s.parts l (l + d.length), mB w.parts l d (lo s.parts l (l + d.length)) (hi s.parts l (l + d.length)), turn) :: (zC Z l (l + d.length)).map pW := by
  have M := mid_of K.wf l (l + d.length)
  have C := cut_of K.wf l (l + d.length)
  obtain ⟨e1, e2⟩ := rel_lh K R l d
  unfold mergF newP
  rw [e1, e2]
  have eA : pA s.parts l = (zA Z l).map pS := by rw [R.hs, zA_map]
  have eM : pM s.parts l (l + d.length) = (zM Z l (l + d.length)).map pS := by rw [R.hs, zM_map]
  have eC : pC s.parts l (l + d.length) = (zC Z l (l + d.length)).map pS := by rw [R.hs, zC_map]
  have hWf : ∀ z ∈ Z, z.l < z.r := fun z hz => (K.wf.2 (pS z) (by rw [R.hs]; exact List.mem_map_of_mem hz)).2.1
  have ez := z_eq Z l (l + d.length)
  have hmA : ∀ z ∈ zA Z l, z ∈ Z := fun z hz => by rw [ez]; exact List.mem_append_left _ hz
  have hmM : ∀ z ∈ zM Z l (l + d.length), z ∈ Z := fun z hz => by rw [ez]; exact List.mem_append_right _ (List.mem_append_left _ hz)
  have e3 : w.parts = (zA Z l).map pW ++ ((zM Z l (l + d.length)).map pW ++ (zC Z l (l + d.length)).map pW) := by
    rw [R.hw, ← List.map_append, ← List.map_append, ← ez]
  have lh : lo s.parts l (l + d.length) ≤ hi s.parts l (l + d.length) := by have := M.ll; have := M.rr; omega
  conv => lhs; rw [e3]
  rw [outL_is _ _ _ _ lh]
  · rw [← e3]
  · intro p hp
    obtain ⟨z, hz, rfl⟩ := List.mem_map.1 hp
    have h1 := M.alo (pS z) (by rw [eA]; exact List.mem_map_of_mem hz)
    have h2 := hWf z (hmA z hz)
    show z.l < _
    have h3 : (pS z).2.1 = z.r := rfl
    omega
  · intro p hp
    obtain ⟨z, hz, rfl⟩ := List.mem_map.1 hp
    have h1 := M.inl (pS z) (by rw [eM]; exact List.mem_map_of_mem hz)
    have h2 := hWf z (hmM z hz)
    have h3 : (pS z).2.1 = z.r := rfl
    have h4 : (pS z).1 = z.l := rfl
    show _ ≤ z.l ∧ z.l < _
    omega
  · intro p hp
    obtain ⟨z, hz, rfl⟩ := List.mem_map.1 hp
    exact M.chi (pS z) (by rw [eC]; exact List.mem_map_of_mem hz)
theorem getD_map_range (f : Nat → Nat) {n j : Nat} (h : j < n) : ((List.range n).map f).getD j 0 = f j := by
  rw [List.getD_eq_getElem?_getD, List.getElem?_map, List.getElem?_range h]; rfl
/-- What both make of octets in the window agrees. -/
theorem rel_in {s : St} {w : DSt} {Z : List ZP} (K : Ok s) (R : Rel s w Z) (l : Nat) (d : List Nat) (hw : l + d.length ≤ win s) :
    (inF s l d).2 = (dIn w l d).2 ∧ ∃ Z', Rel (inF s l d).1 (dIn w l d).1 Z' := by
  by_cases hA : Adds w.parts l d
  case neg =>
    have hg := (rel_adds K R l d).2 hA
    have e1 : inF s l d = (s, 0, 0) := by unfold inF; rw [hg]; rfl
    have e2 : dIn w l d = (w, 0, 0) := by unfold dIn; rw [if_neg hA]
    rw [e1, e2]
    exact ⟨rfl, Z, R⟩
  case pos =>
  have hg : gapsF l (pM s.parts l (l + d.length)) (l + d.length) ≠ [] := fun h => (rel_adds K R l d).1 h hA
  have M := mid_of K.wf l (l + d.length)
  have C := cut_of K.wf l (l + d.length)
  have em := merg_is K R l d (w.turn + 1)
  have eA : pA s.parts l = (zA Z l).map pS := by rw [R.hs, zA_map]
  have eM : pM s.parts l (l + d.length) = (zM Z l (l + d.length)).map pS := by rw [R.hs, zM_map]
  have eC : pC s.parts l (l + d.length) = (zC Z l (l + d.length)).map pS := by rw [R.hs, zC_map]
  have ez := z_eq Z l (l + d.length)
  have hmA : ∀ z ∈ zA Z l, z ∈ Z := fun z hz => by rw [ez]; exact List.mem_append_left _ hz
  have hmC : ∀ z ∈ zC Z l (l + d.length), z ∈ Z := fun z hz => by rw [ez]; exact List.mem_append_right _ (List.mem_append_right _ hz)
  have hWf : ∀ z ∈ Z, 0 < z.l ∧ z.l < z.r ∧ z.r ≤ win s := fun z hz => K.wf.2 (pS z) (by rw [R.hs]; exact List.mem_map_of_mem hz)
  have hlen : s.parts.length = (zA Z l).length + ((zM Z l (l + d.length)).length + (zC Z l (l + d.length)).length) := by
    rw [R.hs, List.length_map]; conv => lhs; rw [ez]
    rw [List.length_append, List.length_append]
  have hpl := K.pl
  have hmn : pM s.parts l (l + d.length) = [] ↔ (zM Z l (l + d.length)).length = 0 := by
    rw [eM, List.map_eq_nil_iff, List.length_eq_zero_iff]
  have hlo0 := M.lo0
  have hll := M.ll
  have hrr := M.rr
  have hloM : pM s.parts l (l + d.length) = [] → lo s.parts l (l + d.length) = l := fun h => by unfold lo; rw [h]
  have hAl : ∀ z ∈ zA Z l, z.r < lo s.parts l (l + d.length) := fun z hz => M.alo (pS z) (by rw [eA]; exact List.mem_map_of_mem hz)
  have hCh : ∀ z ∈ zC Z l (l + d.length), hi s.parts l (l + d.length) < z.l := fun z hz => M.chi (pS z) (by rw [eC]; exact List.mem_map_of_mem hz)
  have hrd := K.rd
  have hwin : win s = s.sz - s.ready := rfl
  have hhib : hi s.parts l (l + d.length) ≤ win s := M.hib _ hw (fun p hp => (K.wf.2 p hp).2.2)
  by_cases h81 : 0 < l ∧ pM s.parts l (l + d.length) = [] ∧ 1024 ≤ s.parts.length
  · have e1 : inF s l d = (s, 0, 81) := by unfold inF; rw [if_neg hg, if_pos h81]
    have hm0 := hmn.1 h81.2.1
    have hl := hloM h81.2.1
    have e2 : dIn w l d = (w, 0, 81) := by
      unfold dIn
      rw [if_pos hA, em]
      cases hz : zA Z l with
      | nil =>
        rw [hz] at hlen
        simp only [List.map_nil, List.nil_append]
        rw [if_neg (show ¬ lo s.parts l (l + d.length) = 0 by omega), if_pos (by rw [List.length_map]; simp only [List.length_nil] at hlen; omega)]
      | cons z t =>
        rw [hz] at hlen
        have := (hWf z (hmA z (by rw [hz]; exact List.mem_cons_self))).1
        have e : (pW z).1 = z.l := rfl
        simp only [List.map_cons, List.cons_append]
        rw [e, if_neg (show ¬ z.l = 0 by omega), if_pos (by simp only [List.length_append, List.length_map, List.length_cons] at hlen ⊢; omega)]
    rw [e1, e2]
    exact ⟨rfl, Z, R⟩
  have hz81 : (inF s l d).2.2 = 0 := by unfold inF; rw [if_neg hg, if_neg h81]
  have I := in_spec K hw hz81
  have hring : (inF s l d).1.ring = layAll s.sz s.start s.ready l d (gapsF l (pM s.parts l (l + d.length)) (l + d.length)) s.ring := by
    unfold inF; simp only; rw [if_neg hg, if_neg h81]; unfold joinF; split <;> rfl
  have hold : ∀ v, v < s.sz → (v < s.ready ∨ Cov s.parts (v - s.ready)) → octF (inF s l d).1.ring s.sz s.start v = octF s.ring s.sz s.start v := fun v h1 h2 => by
    have := I.old v h1 (h2.elim .inl (fun h => .inr (.inl h)))
    rw [I.sz, I.st] at this; exact this
  have hnew : ∀ j, lo s.parts l (l + d.length) ≤ j → j < hi s.parts l (l + d.length) → octD w.parts l d j = octF (inF s l d).1.ring s.sz s.start (s.ready + j) := fun j h1 h2 => by
    unfold octD
    cases ha : atF w.parts j with
    | some c =>
      show c = _
      have hc : Cov s.parts j := by
        have := mt (rel_at R j).2 (by rw [ha]; simp)
        exact Classical.not_not.1 this
      rw [rel_some R ha, hold _ (by omega) (.inr (by rw [show s.ready + j - s.ready = j from by omega]; exact hc))]
    | none =>
      show d.getD (j - l) 0 = _
      have hc := (rel_at R j).1 ha
      have hj : l ≤ j ∧ j < l + d.length := (M.cov j h1 h2).resolve_right (fun h => hc ((cov_split _ _ _ _).2 (.inr (.inl h))))
      have := I.new (s.ready + j) (by omega) (by omega) (by omega) (by omega) (by rw [show s.ready + j - s.ready = j from by omega]; exact hc)
      rw [I.sz, I.st, show s.ready + j - s.ready - l = j - l from by omega] at this
      exact this.symm
  have hpart : ∀ z ∈ Z, ∀ j, j < z.b.length → z.b.getD j 0 = octF (inF s l d).1.ring s.sz s.start (s.ready + (z.l + j)) := fun z hz j hj => by
    have h1 := R.hl z hz
    have h2 := hWf z hz
    rw [R.hb z hz j hj, hold _ (by omega) (.inr ⟨pS z, by rw [R.hs]; exact List.mem_map_of_mem hz, by show z.l ≤ _; omega, by show _ < z.r; omega⟩)]
  have hready : w.ready = (List.range s.ready).map (octF (inF s l d).1.ring s.sz s.start) := by
    rw [R.rd]
    apply List.map_congr_left
    intro v hv
    have := List.mem_range.1 hv
    rw [hold v (by omega) (.inl this)]
  have hd2 := R.hd
  rw [ez] at hd2
  obtain ⟨hdA, hdMC, hdAMC⟩ := List.pairwise_append.1 hd2
  obtain ⟨_, hdC, _⟩ := List.pairwise_append.1 hdMC
  have hdAC : ∀ a ∈ zA Z l, ∀ c ∈ zC Z l (l + d.length), a.at' ≠ c.at' := fun a ha c hc => hdAMC a ha c (List.mem_append_right _ hc)
  by_cases h0 : 0 < lo s.parts l (l + d.length)
  · have e1 : inF s l d = (⟨s.sz, (inF s l d).1.ring, s.start, s.ready, s.next, pA s.parts l ++ (lo s.parts l (l + d.length), hi s.parts l (l + d.length), s.count + 1) :: pC s.parts l (l + d.length), s.count + 1⟩, 0, 0) := by
      rw [hring]; unfold inF; simp only; rw [if_neg hg, if_neg h81]; unfold joinF; simp only; rw [if_pos h0]
    let q : ZP := ⟨lo s.parts l (l + d.length), hi s.parts l (l + d.length), s.count + 1, mB w.parts l d (lo s.parts l (l + d.length)) (hi s.parts l (l + d.length)), w.turn + 1⟩
    have hq : pW q = (lo s.parts l (l + d.length), mB w.parts l d (lo s.parts l (l + d.length)) (hi s.parts l (l + d.length)), w.turn + 1) := rfl
    have e2 : dIn w l d = ({ w with parts := (zA Z l).map pW ++ pW q :: (zC Z l (l + d.length)).map pW, turn := w.turn + 1 }, 0, 0) := by
      unfold dIn
      rw [if_pos hA, em, ← hq]
      have hcount : (zA Z l).length + (zC Z l (l + d.length)).length + 1 ≤ 1024 := by
        by_cases hm : (zM Z l (l + d.length)).length = 0
        · have := hloM (hmn.2 hm)
          have : ¬ 1024 ≤ s.parts.length := fun h => h81 ⟨by omega, hmn.2 hm, h⟩
          omega
        · omega
      cases hz : zA Z l with
      | nil =>
        have e : (pW q).1 = lo s.parts l (l + d.length) := rfl
        simp only [List.map_nil, List.nil_append]
        rw [e, if_neg (show ¬ lo s.parts l (l + d.length) = 0 by omega), if_neg (by rw [List.length_map]; rw [hz] at hcount; simp only [List.length_nil] at hcount; omega), if_pos h0]
      | cons z t =>
        rw [hz] at hcount
        have := (hWf z (hmA z (by rw [hz]; exact List.mem_cons_self))).1
        have e : (pW z).1 = z.l := rfl
        simp only [List.map_cons, List.cons_append]
        rw [e, if_neg (show ¬ z.l = 0 by omega), if_neg (by simp only [List.length_append, List.length_map, List.length_cons] at hcount ⊢; omega), if_pos (by omega)]
    refine ⟨by rw [e1, e2], zA Z l ++ q :: zC Z l (l + d.length), ?_⟩
    have hmem : ∀ z ∈ zA Z l ++ q :: zC Z l (l + d.length), z = q ∨ z ∈ Z := fun z hz => by
      rcases List.mem_append.1 hz with h | h
      · exact .inr (hmA z h)
      · rcases List.mem_cons.1 h with h | h
        · exact .inl h
        · exact .inr (hmC z h)
    have hne : ∀ z ∈ Z, z.at' ≠ q.at' := fun z hz => by have := (R.ha z hz).1; show z.at' ≠ s.count + 1; omega
    rw [e2, e1]
    refine ⟨?_, ?_, ?_, ?_, ?_, ?_, ?_, R.sz, R.nx, hready⟩
    · show pA s.parts l ++ _ :: pC s.parts l (l + d.length) = _
      rw [List.map_append, List.map_cons, ← eA, ← eC]; rfl
    · show (zA Z l).map pW ++ pW q :: (zC Z l (l + d.length)).map pW = _
      rw [List.map_append, List.map_cons]
    · intro z hz
      rcases hmem z hz with rfl | h
      · show lo _ _ _ + (mB _ _ _ _ _).length = hi _ _ _; rw [mB_len]; omega
      · exact R.hl z h
    · intro z hz j hj
      rcases hmem z hz with rfl | h
      · have hj2 : j < (mB w.parts l d (lo s.parts l (l + d.length)) (hi s.parts l (l + d.length))).length := hj
        rw [mB_len] at hj2
        show (mB w.parts l d (lo s.parts l (l + d.length)) (hi s.parts l (l + d.length))).getD j 0 = _
        rw [mB_get _ _ _ _ _ _ hj2]
        exact hnew _ (by omega) (by omega)
      · exact hpart z h j hj
    · intro a ha b hb
      have hqa : q.at' = s.count + 1 := rfl
      have hqw : q.wh = w.turn + 1 := rfl
      rcases hmem a ha with rfl | h <;> rcases hmem b hb with rfl | h'
      · exact ⟨fun h => absurd h (Nat.lt_irrefl _), fun h => absurd h (Nat.lt_irrefl _)⟩
      · have := R.ha b h'; omega
      · have := R.ha a h; omega
      · exact R.ho a h b h'
    · refine List.pairwise_append.2 ⟨hdA, List.pairwise_cons.2 ⟨fun c hc => (hne c (hmC c hc)).symm, hdC⟩, ?_⟩
      intro a ha c hc
      rcases List.mem_cons.1 hc with rfl | h
      · exact hne a (hmA a ha)
      · exact hdAC a ha c h
    · intro z hz
      rcases hmem z hz with rfl | h
      · exact ⟨Nat.le_refl _, Nat.le_refl _⟩
      · have := R.ha z h; show z.at' ≤ s.count + 1 ∧ z.wh ≤ w.turn + 1; omega
  · have hl0 : lo s.parts l (l + d.length) = 0 := by omega
    have hzA : zA Z l = [] := by
      cases hz : zA Z l with
      | nil => rfl
      | cons z t => exact absurd (hAl z (by rw [hz]; exact List.mem_cons_self)) (by omega)
    have hpA : pA s.parts l = [] := by rw [eA, hzA]; rfl
    have e1 : inF s l d = (⟨s.sz, (inF s l d).1.ring, s.start, s.ready + hi s.parts l (l + d.length), (s.next + hi s.parts l (l + d.length)) % 4294967296, (pC s.parts l (l + d.length)).map fun p => (p.1 - hi s.parts l (l + d.length), p.2.1 - hi s.parts l (l + d.length), p.2.2), s.count⟩, hi s.parts l (l + d.length), 0) := by
      rw [hring]; unfold inF; simp only; rw [if_neg hg, if_neg h81]; unfold joinF; simp only; rw [if_neg h0, hpA, List.nil_append]
    have hlen2 := mB_len w.parts l d 0 (hi s.parts l (l + d.length))
    have e2 : dIn w l d = (⟨w.sz, (w.next + hi s.parts l (l + d.length)) % 4294967296, w.ready ++ mB w.parts l d 0 (hi s.parts l (l + d.length)), ((zC Z l (l + d.length)).map pW).map fun x => (x.1 - hi s.parts l (l + d.length), x.2), w.turn + 1⟩, hi s.parts l (l + d.length), 0) := by
      unfold dIn
      rw [if_pos hA, em, hzA, hl0]
      simp only [List.map_nil, List.nil_append]
      rw [if_pos trivial, if_neg (by rw [List.length_map]; omega), if_neg (by omega), hlen2]
      simp only [Nat.sub_zero]
    refine ⟨by rw [e1, e2], (zC Z l (l + d.length)).map (fun z => { z with l := z.l - hi s.parts l (l + d.length), r := z.r - hi s.parts l (l + d.length) }), ?_⟩
    rw [e2, e1]
    refine ⟨?_, ?_, ?_, ?_, ?_, ?_, ?_, R.sz, ?_, ?_⟩
    · show (pC s.parts l (l + d.length)).map _ = _
      rw [eC, List.map_map, List.map_map]; rfl
    · show ((zC Z l (l + d.length)).map pW).map _ = _
      rw [List.map_map, List.map_map]; rfl
    · intro z hz
      obtain ⟨y, hy, rfl⟩ := List.mem_map.1 hz
      have h1 := R.hl y (hmC y hy)
      have h2 := hCh y hy
      show y.l - _ + y.b.length = y.r - _
      omega
    · intro z hz j hj
      obtain ⟨y, hy, rfl⟩ := List.mem_map.1 hz
      have h2 := hCh y hy
      have h3 := hpart y (hmC y hy) j hj
      show y.b.getD j 0 = octF _ _ _ (s.ready + hi s.parts l (l + d.length) + (y.l - hi s.parts l (l + d.length) + j))
      rw [h3]; congr 1; omega
    · intro a ha b hb
      obtain ⟨y, hy, rfl⟩ := List.mem_map.1 ha
      obtain ⟨x, hx, rfl⟩ := List.mem_map.1 hb
      exact R.ho y (hmC y hy) x (hmC x hx)
    · exact List.pairwise_map.2 hdC
    · intro z hz
      obtain ⟨y, hy, rfl⟩ := List.mem_map.1 hz
      have h := R.ha y (hmC y hy)
      exact ⟨h.1, Nat.le_succ_of_le h.2⟩
    · show (w.next + _) % _ = (s.next + _) % _
      rw [R.nx]
    · show w.ready ++ _ = (List.range (s.ready + hi s.parts l (l + d.length))).map _
      rw [List.range_add, List.map_append, ← hready, List.map_map]
      congr 1
      unfold mB
      rw [Nat.sub_zero]
      apply List.map_congr_left
      intro v hv
      have := List.mem_range.1 hv
      rw [Nat.zero_add]
      exact hnew v (by omega) this
theorem dist_eq {a b : Nat} (ha : a < 4294967296) (hb : b < 4294967296) : dist a b = if b ≤ a then a - b else a + 4294967296 - b := by
  unfold dist
  by_cases h : b ≤ a
  · rw [if_pos h, show a + 4294967296 - b = (a - b) + 4294967296 from by omega, Nat.add_mod_right, Nat.mod_eq_of_lt (by omega)]
  · rw [if_neg h, Nat.mod_eq_of_lt (by omega)]
theorem dist_sum {a b : Nat} (ha : a < 4294967296) (hb : b < 4294967296) : (dist a b = 0 ∧ dist b a = 0) ∨ dist a b + dist b a = 4294967296 := by
  rw [dist_eq ha hb, dist_eq hb ha]
  by_cases h : a = b
  · subst h; rw [if_pos (Nat.le_refl _)]; left; omega
  · right
    by_cases h2 : b ≤ a
    · rw [if_pos h2, if_neg (by omega)]; omega
    · rw [if_neg h2, if_pos (by omega)]; omega
/-- The document's Insert: what the sequence number makes of the octets. -/
theorem clip_is (s : St) (q : Nat) (d : List Nat) (hq : q < 4294967296) (K : Ok s) (hd : d.length ≤ 65535) :
    (dist q s.next < win s → clipL s q = dist q s.next ∧ clipD s q d = d.take (win s - dist q s.next)) ∧
    (win s ≤ dist q s.next → dist q s.next < 2147483648 → clipD s q d = []) ∧
    (2147483648 ≤ dist q s.next → clipL s q = 0 ∧ clipD s q d = (d.drop (min (4294967296 - dist q s.next) d.length)).take (win s)) := by
  have hs := K.sz1
  have hw : win s ≤ 1048576 := by show s.sz - s.ready ≤ _; omega
  have hm := dist_sum hq K.nx
  generalize hx : dist q s.next = x at hm ⊢
  generalize hy : dist s.next q = y at hm ⊢
  generalize hz : win s = z at hw ⊢
  unfold clipL clipD
  rw [hx, hy, hz]
  clear hs hx hy hz
  refine ⟨fun h => ?_, fun h1 h2 => ?_, fun h => ?_⟩
  · rw [if_neg (Nat.not_le.2 h), if_neg (Nat.not_le.2 h)]; exact ⟨rfl, rfl⟩
  · rw [if_pos h1]
    by_cases hz0 : z = 0
    · rw [hz0, List.take_zero]
    · have hlt : d.length ≤ y := by omega
      rw [Nat.min_eq_right hlt, List.drop_length, List.take_nil]
  · have hzx : z ≤ x := by omega
    have hyx : y = 4294967296 - x := by omega
    rw [if_pos hzx, if_pos hzx, hyx]
    exact ⟨rfl, rfl⟩
/-- Read. -/
def dRead (w : DSt) (m : Nat) : DSt := { w with ready := w.ready.drop m }
theorem rel_cut {s : St} {w : DSt} {Z : List ZP} (K : Ok s) (R : Rel s w Z) {m : Nat} (hm : m ≤ s.ready) : cutF s.ring s.sz s.start m = w.ready.take m := by
  have hrd := K.rd
  have hl := cutF_len (n := s.sz) (p := s.start) (m := m) K.rl
  apply List.ext_getElem
  · rw [hl, R.rd, List.length_take, List.length_map, List.length_range]; omega
  · intro i h1 h2
    rw [hl] at h1
    have h3 := cutF_get (n := s.sz) (p := s.start) (m := m) K.rl K.st (by omega) i h1
    rw [List.getD_eq_getElem?_getD, List.getElem?_eq_getElem (by omega)] at h3
    have h4 : (cutF s.ring s.sz s.start m)[i] = octF s.ring s.sz s.start i := h3
    rw [h4, List.getElem_take]
    have h5 := R.rd
    simp only [h5, List.getElem_map, List.getElem_range]
theorem rel_read {s : St} {w : DSt} {Z : List ZP} (R : Rel s w Z) {m : Nat} (hm : m ≤ s.ready) : Rel (readF s m) (dRead w m) Z := by
  refine ⟨R.hs, R.hw, R.hl, ?_, R.ho, R.hd, R.ha, R.sz, R.nx, ?_⟩
  · intro z hz j hj
    rw [R.hb z hz j hj]
    show _ = octF s.ring s.sz ((s.start + m) % s.sz) (s.ready - m + (z.l + j))
    rw [oct_shift]; congr 1; omega
  · show w.ready.drop m = (List.range (s.ready - m)).map (octF s.ring s.sz ((s.start + m) % s.sz))
    rw [R.rd]
    apply List.ext_getElem
    · simp
    · intro i h1 h2
      simp only [List.getElem_drop, List.getElem_map, List.getElem_range]
      rw [oct_shift]
/-- Grow. -/
def growF (s : St) (n : Nat) : St := { s with sz := n, start := 0, ring := spl (spl (List.replicate n 0) 0 (s.ring.drop s.start)) (s.sz - s.start) (s.ring.take s.start) }
def dGrow (w : DSt) (n : Nat) : DSt := { w with sz := n }
theorem grow_len {s : St} {n : Nat} (K : Ok s) (hn : s.sz ≤ n) : (growF s n).ring.length = n := by
  have h1 := K.rl
  have h2 := K.st
  have e1 : (spl (List.replicate n 0) 0 (s.ring.drop s.start)).length = n := by rw [Rv.spl_len, List.length_replicate]; rw [List.length_replicate, List.length_drop]; omega
  show (spl _ _ _).length = n
  rw [Rv.spl_len, e1]; rw [e1, List.length_take]; omega
theorem grow_oct {s : St} {n : Nat} (K : Ok s) (hn : s.sz ≤ n) (v : Nat) (hv : v < s.sz) : octF (growF s n).ring n 0 v = octF s.ring s.sz s.start v := by
  have h1 := K.rl
  have h2 := K.st
  have hf : 0 + (s.ring.drop s.start).length ≤ (List.replicate n 0).length := by rw [List.length_replicate, List.length_drop]; omega
  have e1 : (spl (List.replicate n 0) 0 (s.ring.drop s.start)).length = n := by rw [Rv.spl_len hf, List.length_replicate]
  unfold octF
  show (spl (spl (List.replicate n 0) 0 (s.ring.drop s.start)) (s.sz - s.start) (s.ring.take s.start)).getD ((0 + v) % n) 0 = _
  rw [Nat.zero_add, Nat.mod_eq_of_lt (by omega), spl_get (by rw [e1, List.length_take]; omega), spl_get hf]
  simp only [List.length_take, List.length_drop]
  by_cases hw : s.start + v < s.sz
  · rw [if_neg (by omega), if_pos (by omega), Nat.mod_eq_of_lt hw, getD_drop]; congr 1
  · have e : (s.start + v) % s.sz = s.start + v - s.sz := by rw [Nat.mod_eq_sub_mod (by omega), Nat.mod_eq_of_lt (by omega)]
    rw [e, if_pos (by omega), getD_take _ _ _ (by omega)]; congr 1; omega
theorem grow_okF {s : St} (K : Ok s) {n : Nat} (hn : s.sz ≤ n) (h1 : n ≤ 1048576) : Ok (growF s n) :=
  ⟨by show 0 < n; have := K.sz0; omega, h1, grow_len K hn, by show 0 < n; have := K.sz0; omega, by show s.ready ≤ n; have := K.rd; omega, K.nx,
    ⟨K.wf.1, fun p hp => by have h := K.wf.2 p hp; have hw : win s = s.sz - s.ready := rfl; refine ⟨h.1, h.2.1, ?_⟩; show p.2.1 ≤ n - s.ready; omega⟩, K.pl, K.ct⟩
theorem rel_grow {s : St} {w : DSt} {Z : List ZP} (K : Ok s) (R : Rel s w Z) {n : Nat} (hn : s.sz ≤ n) : Rel (growF s n) (dGrow w n) Z := by
  have hrd := K.rd
  refine ⟨R.hs, R.hw, R.hl, ?_, R.ho, R.hd, R.ha, rfl, R.nx, ?_⟩
  · intro z hz j hj
    have h1 := R.hl z hz
    have h2 := (K.wf.2 (pS z) (by rw [R.hs]; exact List.mem_map_of_mem hz)).2.2
    have h3 : (pS z).2.1 = z.r := rfl
    have hw : win s = s.sz - s.ready := rfl
    rw [R.hb z hz j hj]
    exact (grow_oct K hn _ (by omega)).symm
  · rw [show (dGrow w n).ready = w.ready from rfl, R.rd]
    apply List.map_congr_left
    intro v hv
    have := List.mem_range.1 hv
    exact (grow_oct K hn v (by omega)).symm
theorem rel_new (n nx : Nat) : Rel (newF n nx) ⟨n, nx, [], [], 0⟩ [] :=
  ⟨rfl, rfl, fun _ h => absurd h List.not_mem_nil, fun _ h => absurd h List.not_mem_nil, fun _ h => absurd h List.not_mem_nil, List.Pairwise.nil, fun _ h => absurd h List.not_mem_nil, rfl, rfl, rfl⟩
theorem perm_lift {α β : Type} (f : α → β) {l m : List β} (h : l.Perm m) : ∀ Z : List α, m = Z.map f → ∃ Y : List α, Y.Perm Z ∧ l = Y.map f := by
  induction h with
  | nil => intro Z e; exact ⟨[], by rw [List.map_eq_nil_iff.1 e.symm], rfl⟩
  | cons x _ ih =>
    intro Z e
    obtain ⟨z, t, rfl, e1, e2⟩ := List.map_eq_cons_iff.1 e.symm
    obtain ⟨Y, hY, eY⟩ := ih t e2.symm
    exact ⟨z :: Y, hY.cons z, by rw [List.map_cons, eY, e1]⟩
  | swap x y l =>
    intro Z e
    obtain ⟨z, t, rfl, e1, e2⟩ := List.map_eq_cons_iff.1 e.symm
    obtain ⟨z2, t2, rfl, e3, e4⟩ := List.map_eq_cons_iff.1 e2
    exact ⟨z2 :: z :: t2, List.Perm.swap z z2 t2, by rw [List.map_cons, List.map_cons, e1, e3, e4]⟩
  | trans _ _ ih1 ih2 =>
    intro Z e
    obtain ⟨Y, hY, eY⟩ := ih2 Z e
    obtain ⟨X, hX, eX⟩ := ih1 Y eY
    exact ⟨X, hX.trans hY, eX⟩
def later (b : Option DPt) (p : DPt) : Bool := match b with | none => true | some x => decide (x.2.2 < p.2.2)
/-- The latest part before a turn, by the document's loop (from a best so far on). -/
def bestF (last : Nat) : List DPt → Option DPt → Option DPt
  | [], b => b
  | p :: ps, b => bestF last ps (if p.2.2 < last ∧ later b p = true then some p else b)
def Best (last : Nat) (l : List DPt) (b : Option DPt) : Prop := match b with
  | none => ∀ p ∈ l, ¬ p.2.2 < last
  | some x => x ∈ l ∧ x.2.2 < last ∧ ∀ p ∈ l, p.2.2 < last → p.2.2 ≤ x.2.2
theorem best_is (last : Nat) : ∀ (l m : List DPt) (b : Option DPt), Best last m b → Best last (m ++ l) (bestF last l b)
  | [], m, b, h => by rw [List.append_nil]; exact h
  | p :: ps, m, b, h => by
    rw [show m ++ p :: ps = (m ++ [p]) ++ ps from by simp, bestF]
    apply best_is last ps (m ++ [p])
    cases b with
    | none =>
      by_cases hc : p.2.2 < last
      · rw [if_pos ⟨hc, rfl⟩]
        refine ⟨by simp, hc, fun q hq hl => ?_⟩
        rcases List.mem_append.1 hq with h1 | h1
        · exact absurd hl (h q h1)
        · simp at h1; subst h1; exact Nat.le_refl _
      · rw [if_neg (fun hh => hc hh.1)]
        intro q hq
        rcases List.mem_append.1 hq with h1 | h1
        · exact h q h1
        · simp at h1; subst h1; exact hc
    | some x =>
      by_cases hc : p.2.2 < last ∧ x.2.2 < p.2.2
      · rw [if_pos ⟨hc.1, decide_eq_true hc.2⟩]
        refine ⟨by simp, hc.1, fun q hq hl => ?_⟩
        rcases List.mem_append.1 hq with h1 | h1
        · exact Nat.le_of_lt (Nat.lt_of_le_of_lt (h.2.2 q h1 hl) hc.2)
        · simp at h1; subst h1; exact Nat.le_refl _
      · rw [if_neg (fun hh => hc ⟨hh.1, of_decide_eq_true hh.2⟩)]
        refine ⟨List.mem_append_left _ h.1, h.2.1, fun q hq hl => ?_⟩
        rcases List.mem_append.1 hq with h1 | h1
        · exact h.2.2 q h1 hl
        · simp at h1; subst h1; exact Nat.not_lt.1 fun h2 => hc ⟨hl, h2⟩
/-- The document's Blocks: the latest, the latest before it .. -/
def picksF : Nat → List DPt → Nat → List DPt
  | 0, _, _ => []
  | n + 1, l, last => match bestF last l none with
    | none => []
    | some p => p :: picksF n l p.2.2
theorem picks_is {l : List DPt} : ∀ (n : Nat) (D1 D2 : List DPt) (last : Nat), (D1 ++ D2).Perm l → (D1 ++ D2).Pairwise (fun a b => b.2.2 < a.2.2) → (∀ p ∈ D1, last ≤ p.2.2) → (∀ p ∈ D2, p.2.2 < last) → picksF n l last = D2.take n
  | 0, _, _, _, _, _, _, _ => by rw [picksF, List.take_zero]
  | n + 1, D1, D2, last, hp, hs, h1, h2 => by
    have hb : Best last l (bestF last l none) := by
      have := best_is last l [] none (fun p hp => absurd hp List.not_mem_nil)
      rwa [List.nil_append] at this
    rw [picksF]
    cases D2 with
    | nil =>
      cases e : bestF last l none with
      | none => rfl
      | some x =>
        rw [e] at hb
        have h3 := hp.mem_iff.2 hb.1
        rw [List.append_nil] at h3
        have := h1 x h3
        have := hb.2.1
        omega
    | cons p t =>
      have hpl : p ∈ l := hp.mem_iff.1 (by simp)
      obtain ⟨s1, s2, s3⟩ := List.pairwise_append.1 hs
      obtain ⟨s4, s5⟩ := List.pairwise_cons.1 s2
      cases e : bestF last l none with
      | none => rw [e] at hb; exact absurd (h2 p List.mem_cons_self) (hb p hpl)
      | some x =>
        rw [e] at hb
        have hx : x = p := by
          rcases List.mem_append.1 (hp.mem_iff.2 hb.1) with h3 | h3
          · have := h1 x h3; have := hb.2.1; omega
          · rcases List.mem_cons.1 h3 with h4 | h4
            · exact h4
            · have := s4 x h4; have := hb.2.2 p hpl (h2 p List.mem_cons_self); omega
        subst hx
        show x :: picksF n l x.2.2 = _
        rw [List.take_succ_cons]
        congr 1
        apply picks_is n (D1 ++ [x]) t x.2.2
        · simpa using hp
        · simpa using hs
        · intro q hq
          rcases List.mem_append.1 hq with h3 | h3
          · have := s3 q h3 x List.mem_cons_self; omega
          · simp at h3; subst h3; exact Nat.le_refl _
        · intro q hq; exact s4 q hq
/-- The blocks agree. -/
theorem rel_bks {s : St} {w : DSt} {Z : List ZP} (R : Rel s w Z) {sl : List Pt} (hp : sl.Perm s.parts) (hr : rising sl) :
    bks s sl = (picksF 4 w.parts (w.turn + 1)).map fun p => ((w.next + p.1) % 4294967296, (w.next + (p.1 + p.2.1.length)) % 4294967296) := by
  rw [R.hs] at hp
  obtain ⟨Y, hY, eY⟩ := perm_lift pS hp Z rfl
  have hmem : ∀ z ∈ Y, z ∈ Z := fun z hz => hY.mem_iff.1 hz
  have hd : Y.Pairwise fun a b => a.at' ≠ b.at' := (hY.pairwise_iff (fun h => h.symm)).2 R.hd
  have hs : Y.Pairwise fun a b => b.wh < a.wh := by
    have h1 : Y.Pairwise fun a b => b.at' ≤ a.at' := by
      have : rising (Y.map pS) := eY ▸ hr
      exact List.pairwise_map.1 this
    refine List.Pairwise.imp_of_mem ?_ (h1.and hd)
    intro a b ha hb h
    exact (R.ho b (hmem b hb) a (hmem a ha)).1 (by have := h.1; have := h.2; omega)
  have hq := picks_is (l := w.parts) 4 [] (Y.map pW) (w.turn + 1) (by rw [List.nil_append, R.hw]; exact hY.map pW) (by rw [List.nil_append]; exact List.pairwise_map.2 hs) (fun p hp => absurd hp List.not_mem_nil) (by
    intro p hp
    obtain ⟨z, hz, rfl⟩ := List.mem_map.1 hp
    have := (R.ha z (hmem z hz)).2
    show z.wh < _; omega)
  rw [hq, eY]
  unfold bks
  rw [← List.map_take, ← List.map_take, List.map_map, List.map_map]
  apply List.map_congr_left
  intro z hz
  have hl := R.hl z (hmem z (List.mem_of_mem_take hz))
  show ((s.next + z.l) % _, (s.next + z.r) % _) = ((w.next + z.l) % _, (w.next + (z.l + z.b.length)) % _)
  rw [hl, R.nx]
end Go.Proofs.Ytknebjfdggimcaa.Rv
