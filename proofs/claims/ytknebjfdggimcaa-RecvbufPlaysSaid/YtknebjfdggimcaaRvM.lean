/- Recvbuf: the mathematics of Insert: what a buffer holds behind it. -/
import Derived.Test.YtknebjfdggimcaaGBase
namespace Go.Proofs.Ytknebjfdggimcaa.Rv
abbrev Pt := Nat × Nat × Nat
def spl (L : List Nat) (off : Nat) (cs : List Nat) : List Nat := L.take off ++ (cs ++ L.drop (off + cs.length))
theorem spl_len {L cs : List Nat} {off : Nat} (h : off + cs.length ≤ L.length) : (spl L off cs).length = L.length := by
  unfold spl; simp only [List.length_append, List.length_take, List.length_drop]; omega
theorem getD_app (A B : List Nat) (i : Nat) : (A ++ B).getD i 0 = if i < A.length then A.getD i 0 else B.getD (i - A.length) 0 := by
  simp only [List.getD_eq_getElem?_getD]
  split
  · next h => rw [List.getElem?_append_left h]
  · next h => rw [List.getElem?_append_right (by omega)]
theorem getD_take (A : List Nat) (n i : Nat) (h : i < n) : (A.take n).getD i 0 = A.getD i 0 := by
  simp only [List.getD_eq_getElem?_getD, List.getElem?_take, if_pos h]
theorem getD_drop (A : List Nat) (n i : Nat) : (A.drop n).getD i 0 = A.getD (n + i) 0 := by
  simp only [List.getD_eq_getElem?_getD, List.getElem?_drop]
theorem spl_get {L cs : List Nat} {off : Nat} (h : off + cs.length ≤ L.length) (i : Nat) : (spl L off cs).getD i 0 = if off ≤ i ∧ i < off + cs.length then cs.getD (i - off) 0 else L.getD i 0 := by
  unfold spl
  rw [getD_app, getD_app, getD_drop, List.length_take, Nat.min_eq_left (by omega)]
  by_cases h1 : i < off
  · rw [if_pos h1, if_neg (by omega), getD_take _ _ _ h1]
  · rw [if_neg h1]
    by_cases h2 : i - off < cs.length
    · rw [if_pos h2, if_pos (by omega)]
    · rw [if_neg h2, if_neg (by omega)]; congr 1; omega
/-- Octets laid from p on, round a ring of n. -/
def layF (ring : List Nat) (n p : Nat) (d : List Nat) : List Nat := spl (spl ring p (d.take (n - p))) 0 (d.drop (min (n - p) d.length))
theorem lay_len {ring d : List Nat} {n p : Nat} (hl : ring.length = n) (hp : p < n) (hd : d.length ≤ n) : (layF ring n p d).length = n := by
  unfold layF
  have h1 : (spl ring p (d.take (n - p))).length = n := by rw [spl_len, hl]; rw [List.length_take]; omega
  rw [spl_len, h1]; rw [h1, List.length_drop]; omega
theorem lay_get {ring d : List Nat} {n p : Nat} (hl : ring.length = n) (hp : p < n) (hd : d.length ≤ n) (v : Nat) (hv : v < n) :
    (layF ring n p d).getD ((p + v) % n) 0 = if v < d.length then d.getD v 0 else ring.getD ((p + v) % n) 0 := by
  unfold layF
  have hf : p + (d.take (n - p)).length ≤ ring.length := by rw [List.length_take]; omega
  have h1 : (spl ring p (d.take (n - p))).length = n := by rw [spl_len hf, hl]
  rw [spl_get (by rw [h1, List.length_drop]; omega), spl_get hf]
  simp only [List.length_drop, List.length_take]
  by_cases hw : p + v < n
  · rw [Nat.mod_eq_of_lt hw]
    by_cases hd2 : v < d.length
    · rw [if_neg (by omega), if_pos (by omega), if_pos hd2, getD_take _ _ _ (by omega)]; congr 1; omega
    · rw [if_neg (by omega), if_neg (by omega), if_neg hd2]
  · have e : (p + v) % n = p + v - n := by rw [Nat.mod_eq_sub_mod (by omega), Nat.mod_eq_of_lt (by omega)]
    rw [e]
    by_cases hd2 : v < d.length
    · rw [if_pos (by omega), if_pos hd2, getD_drop]; congr 1; omega
    · rw [if_neg (by omega), if_neg (by omega), if_neg hd2]
/-- What lies at a place from the start on. -/
def octF (ring : List Nat) (n st v : Nat) : Nat := ring.getD ((st + v) % n) 0
theorem lay_oct {ring d : List Nat} {n st x : Nat} (hl : ring.length = n) (hn : 0 < n) (hx : x + d.length ≤ n) (v : Nat) (hv : v < n) :
    octF (layF ring n ((st + x) % n) d) n st v = if x ≤ v ∧ v < x + d.length then d.getD (v - x) 0 else octF ring n st v := by
  unfold octF
  have key : ∀ y, (st + v) % n = ((st + x) % n + y) % n → y < n → (y < d.length ↔ x ≤ v ∧ v < x + d.length) → (x ≤ v ∧ v < x + d.length → y = v - x) →
      (layF ring n ((st + x) % n) d).getD ((st + v) % n) 0 = if x ≤ v ∧ v < x + d.length then d.getD (v - x) 0 else ring.getD ((st + v) % n) 0 := by
    intro y h1 h2 h3 h4
    rw [h1, lay_get hl (Nat.mod_lt _ hn) (by omega) y h2]
    by_cases hc : x ≤ v ∧ v < x + d.length
    · rw [if_pos (h3.2 hc), if_pos hc, h4 hc]
    · rw [if_neg (fun h => hc (h3.1 h)), if_neg hc]
  by_cases hc : x ≤ v
  · refine key (v - x) ?_ (by omega) (by omega) (fun _ => rfl)
    rw [Nat.mod_add_mod]; congr 1; omega
  · refine key (v + n - x) ?_ (by omega) ⟨fun h => by omega, fun h => by omega⟩ (fun h => by omega)
    rw [Nat.mod_add_mod, show st + x + (v + n - x) = st + v + n by omega, Nat.add_mod_right]
/-- All gaps laid. -/
def layAll (n st rd l : Nat) (d : List Nat) : List (Nat × Nat) → List Nat → List Nat
  | [], r => r
  | g :: gs, r => layAll n st rd l d gs (layF r n ((st + rd + g.1) % n) ((d.drop (g.1 - l)).take (g.2 - g.1)))
theorem layAll_len {n st rd l : Nat} {d : List Nat} (hn : 0 < n) : ∀ {gs : List (Nat × Nat)} {r : List Nat}, r.length = n → (∀ g ∈ gs, g.2 - g.1 ≤ n) → (layAll n st rd l d gs r).length = n
  | [], r, h, _ => h
  | g :: gs, r, h, hg => by
    have h0 := hg g List.mem_cons_self
    have h1 := lay_len (d := (d.drop (g.1 - l)).take (g.2 - g.1)) (p := (st + rd + g.1) % n) h (Nat.mod_lt _ hn) (by rw [List.length_take]; omega)
    exact layAll_len (gs := gs) hn h1 (fun x hx => hg x (List.mem_cons_of_mem _ hx))
theorem layAll_oct {n st rd l : Nat} {d : List Nat} (hn : 0 < n) (hb : rd + l + d.length ≤ n) : ∀ {gs : List (Nat × Nat)} {r : List Nat}, r.length = n → (∀ g ∈ gs, l ≤ g.1 ∧ g.1 ≤ g.2 ∧ g.2 ≤ l + d.length) → ∀ v, v < n →
    ((∃ g ∈ gs, rd + g.1 ≤ v ∧ v < rd + g.2) → octF (layAll n st rd l d gs r) n st v = d.getD (v - rd - l) 0) ∧ ((¬ ∃ g ∈ gs, rd + g.1 ≤ v ∧ v < rd + g.2) → octF (layAll n st rd l d gs r) n st v = octF r n st v)
  | [], r, h, _, v, _ => ⟨fun ⟨g, hg, _⟩ => by simp at hg, fun _ => rfl⟩
  | g :: gs, r, h, hg, v, hv => by
    have h0 := hg g List.mem_cons_self
    have hel : ((d.drop (g.1 - l)).take (g.2 - g.1)).length = g.2 - g.1 := by rw [List.length_take, List.length_drop]; omega
    have hlen := lay_len (d := (d.drop (g.1 - l)).take (g.2 - g.1)) (p := (st + rd + g.1) % n) h (Nat.mod_lt _ hn) (by omega)
    have ih := layAll_oct (st := st) hn hb (gs := gs) hlen (fun x hx => hg x (List.mem_cons_of_mem _ hx)) v hv
    have hlo := lay_oct (st := st) (d := (d.drop (g.1 - l)).take (g.2 - g.1)) (x := rd + g.1) h hn (by omega) v hv
    rw [hel, ← Nat.add_assoc] at hlo
    have hin : rd + g.1 ≤ v ∧ v < rd + g.2 → octF (layF r n ((st + rd + g.1) % n) ((d.drop (g.1 - l)).take (g.2 - g.1))) n st v = d.getD (v - rd - l) 0 := by
      intro hc
      rw [hlo, if_pos (by omega), getD_take _ _ _ (by omega), getD_drop]; congr 1; omega
    constructor
    · rintro ⟨x, hx, hxv⟩
      by_cases hm : ∃ g ∈ gs, rd + g.1 ≤ v ∧ v < rd + g.2
      · exact ih.1 hm
      · rcases List.mem_cons.1 hx with rfl | hx
        · show octF (layAll n st rd l d gs _) n st v = _
          rw [ih.2 hm]; exact hin hxv
        · exact absurd ⟨x, hx, hxv⟩ hm
    · intro hno
      have hno2 : ¬ ∃ g ∈ gs, rd + g.1 ≤ v ∧ v < rd + g.2 := fun ⟨x, hx, hv⟩ => hno ⟨x, List.mem_cons_of_mem _ hx, hv⟩
      show octF (layAll n st rd l d gs _) n st v = _
      rw [ih.2 hno2, hlo, if_neg (fun hc => hno ⟨g, List.mem_cons_self, by clear hno hno2 ih hin; omega⟩)]

/-- The parts ahead of l, those that touch [l, r], those behind. -/
def pA (ps : List Pt) (l : Nat) : List Pt := ps.takeWhile fun p => decide (p.2.1 < l)
def pR (ps : List Pt) (l : Nat) : List Pt := ps.dropWhile fun p => decide (p.2.1 < l)
def pM (ps : List Pt) (l r : Nat) : List Pt := (pR ps l).takeWhile fun p => decide (p.1 ≤ r)
def pC (ps : List Pt) (l r : Nat) : List Pt := (pR ps l).dropWhile fun p => decide (p.1 ≤ r)
theorem p_eq (ps : List Pt) (l r : Nat) : ps = pA ps l ++ (pM ps l r ++ pC ps l r) := by
  unfold pA pM pC
  rw [List.takeWhile_append_dropWhile]; unfold pR; rw [List.takeWhile_append_dropWhile]
def Cov (ps : List Pt) (j : Nat) : Prop := ∃ p ∈ ps, p.1 ≤ j ∧ j < p.2.1
/-- Rising, not touching, within b. -/
def Wf (b : Nat) (ps : List Pt) : Prop := ps.Pairwise (fun p q => p.2.1 < q.1) ∧ ∀ p ∈ ps, 0 < p.1 ∧ p.1 < p.2.1 ∧ p.2.1 ≤ b
def gapsF : Nat → List Pt → Nat → List (Nat × Nat)
  | at', [], r => if at' < r then [(at', r)] else []
  | at', p :: ps, r => (if at' < p.1 then [(at', p.1)] else []) ++ gapsF (max at' p.2.1) ps r
theorem gaps_in : ∀ {ps : List Pt} {a r : Nat}, (∀ p ∈ ps, p.1 ≤ r) → ∀ g ∈ gapsF a ps r, a ≤ g.1 ∧ g.1 < g.2 ∧ g.2 ≤ r
  | [], a, r, _, g, hg => by
    unfold gapsF at hg; split at hg <;> simp at hg; subst hg; exact ⟨Nat.le_refl _, by assumption, Nat.le_refl _⟩
  | p :: ps, a, r, h, g, hg => by
    unfold gapsF at hg
    have hp := h p List.mem_cons_self
    rcases List.mem_append.1 hg with h1 | h1
    · split at h1
      · next hlt => simp at h1; subst h1; exact ⟨Nat.le_refl _, hlt, hp⟩
      · simp at h1
    · have := gaps_in (fun q hq => h q (List.mem_cons_of_mem _ hq)) g h1
      omega
theorem gaps_cov : ∀ {ps : List Pt} {a r : Nat}, ps.Pairwise (fun p q => p.2.1 < q.1) → (∀ p ∈ ps, p.1 ≤ r ∧ p.1 < p.2.1) → ∀ j, (∃ g ∈ gapsF a ps r, g.1 ≤ j ∧ j < g.2) ↔ a ≤ j ∧ j < r ∧ ¬ Cov ps j
  | [], a, r, _, _, j => by
    unfold gapsF Cov
    constructor
    · rintro ⟨g, hg, h1, h2⟩
      split at hg <;> simp at hg; subst hg; exact ⟨h1, h2, by simp⟩
    · rintro ⟨h1, h2, _⟩
      rw [if_pos (by omega)]; exact ⟨(a, r), by simp, h1, h2⟩
  | p :: ps, a, r, hs, h, j => by
    have hp := h p List.mem_cons_self
    obtain ⟨hs1, hs2⟩ := List.pairwise_cons.1 hs
    have ih := gaps_cov (a := max a p.2.1) (r := r) hs2 (fun q hq => h q (List.mem_cons_of_mem _ hq)) j
    have hcov : Cov (p :: ps) j ↔ (p.1 ≤ j ∧ j < p.2.1) ∨ Cov ps j := by simp [Cov]
    rw [hcov]
    have hin : (∃ g ∈ gapsF a (p :: ps) r, g.1 ≤ j ∧ j < g.2) ↔ (a < p.1 ∧ a ≤ j ∧ j < p.1) ∨ ∃ g ∈ gapsF (max a p.2.1) ps r, g.1 ≤ j ∧ j < g.2 := by
      rw [gapsF]
      constructor
      · rintro ⟨g, hg, h1, h2⟩
        rcases List.mem_append.1 hg with h3 | h3
        · left; split at h3
          · simp at h3; subst h3; exact ⟨by assumption, h1, h2⟩
          · simp at h3
        · exact .inr ⟨g, h3, h1, h2⟩
      · rintro (⟨h0, h1, h2⟩ | ⟨g, hg, h1⟩)
        · exact ⟨(a, p.1), List.mem_append_left _ (by rw [if_pos h0]; simp), h1, h2⟩
        · exact ⟨g, List.mem_append_right _ hg, h1⟩
    rw [hin, ih]
    have hlater : Cov ps j → p.2.1 ≤ j := fun ⟨q, hq, h1, _⟩ => by have := hs1 q hq; omega
    constructor
    · rintro (h1 | ⟨h1, h2, h3⟩)
      · refine ⟨h1.2.1, by omega, ?_⟩
        rintro (h4 | h4)
        · omega
        · have := hlater h4; omega
      · refine ⟨by omega, h2, ?_⟩
        rintro (h4 | h4)
        · omega
        · exact h3 h4
    · rintro ⟨h1, h2, h3⟩
      by_cases h4 : j < p.1
      · exact .inl ⟨by omega, h1, h4⟩
      · right
        refine ⟨?_, h2, fun h => h3 (.inr h)⟩
        have : ¬ (p.1 ≤ j ∧ j < p.2.1) := fun h => h3 (.inl h)
        omega
/-- A buffer. -/
structure St where
  sz : Nat
  ring : List Nat
  start : Nat
  ready : Nat
  next : Nat
  parts : List Pt
  count : Nat
def win (s : St) : Nat := s.sz - s.ready
structure Ok (s : St) : Prop where
  sz0 : 0 < s.sz
  sz1 : s.sz ≤ 1048576
  rl : s.ring.length = s.sz
  st : s.start < s.sz
  rd : s.ready ≤ s.sz
  nx : s.next < 4294967296
  wf : Wf (win s) s.parts
  pl : s.parts.length ≤ 1024
  ct : s.count ≤ 4611686018427387904
/-- From b on to a, modulo 2^32. -/
def dist (a b : Nat) : Nat := (a + 4294967296 - b) % 4294967296
def clipL (s : St) (q : Nat) : Nat := if win s ≤ dist q s.next then 0 else dist q s.next
def clipD (s : St) (q : Nat) (d : List Nat) : List Nat := if win s ≤ dist q s.next then (d.drop (min (dist s.next q) d.length)).take (win s) else d.take (win s - dist q s.next)
theorem clip_le (s : St) (q : Nat) (d : List Nat) : clipL s q + (clipD s q d).length ≤ win s := by
  unfold clipL clipD; split <;> rw [List.length_take] <;> omega
def lo (ps : List Pt) (l r : Nat) : Nat := match pM ps l r with | [] => l | p :: _ => min l p.1
def hi (ps : List Pt) (l r : Nat) : Nat := match (pM ps l r).getLast? with | none => r | some p => max r p.2.1
/-- Behind all gaps: the parts l to r made one. -/
def joinF (s : St) (l r : Nat) : St × Nat :=
  if 0 < lo s.parts l r then ({ s with parts := pA s.parts l ++ (lo s.parts l r, hi s.parts l r, s.count + 1) :: pC s.parts l r, count := s.count + 1 }, 0)
  else ({ s with parts := (pA s.parts l ++ pC s.parts l r).map fun p => (p.1 - hi s.parts l r, p.2.1 - hi s.parts l r, p.2.2), ready := s.ready + hi s.parts l r, next := (s.next + hi s.parts l r) % 4294967296 }, hi s.parts l r)
/-- Insert of octets in the window: the buffer behind it, how many became ready, the error. -/
def inF (s : St) (l : Nat) (d : List Nat) : St × Nat × Nat :=
  let gs := gapsF l (pM s.parts l (l + d.length)) (l + d.length)
  if gs = [] then (s, 0, 0)
  else if 0 < l ∧ pM s.parts l (l + d.length) = [] ∧ 1024 ≤ s.parts.length then (s, 0, 81)
  else let t := joinF { s with ring := layAll s.sz s.start s.ready l d gs s.ring } l (l + d.length); (t.1, t.2, 0)
def insF (s : St) (q : Nat) (d : List Nat) : St × Nat × Nat := if 65535 < d.length then (s, 0, 5) else inF s (clipL s q) (clipD s q d)

theorem dw_prop {α : Type} (f : α → Bool) : ∀ {l : List α} {x : α} {t : List α}, l.dropWhile f = x :: t → f x = false
  | [], _, _, h => by simp at h
  | y :: l, x, t, h => by
    by_cases hy : f y = true
    · rw [List.dropWhile_cons_of_pos hy] at h; exact dw_prop f h
    · rw [List.dropWhile_cons_of_neg hy] at h
      cases h; simpa using hy
theorem tw_prop {α : Type} (f : α → Bool) : ∀ {l : List α} {x : α}, x ∈ l.takeWhile f → f x = true
  | [], _, h => by simp at h
  | y :: l, x, h => by
    by_cases hy : f y = true
    · rw [List.takeWhile_cons_of_pos hy] at h
      rcases List.mem_cons.1 h with rfl | h
      · exact hy
      · exact tw_prop f h
    · rw [List.takeWhile_cons_of_neg hy] at h; simp at h
structure Cut (ps : List Pt) (l r : Nat) : Prop where
  a : ∀ p ∈ pA ps l, p.2.1 < l
  m : ∀ p ∈ pM ps l r, l ≤ p.2.1 ∧ p.1 ≤ r
  c : ∀ p ∈ pC ps l r, r < p.1
theorem cut_of {b : Nat} {ps : List Pt} (h : Wf b ps) (l r : Nat) : Cut ps l r := by
  have hs := h.1
  have hR : ∀ p ∈ pR ps l, l ≤ p.2.1 := by
    have e : ps = pA ps l ++ pR ps l := by unfold pA pR; rw [List.takeWhile_append_dropWhile]
    have hs2 : (pR ps l).Pairwise (fun p q => p.2.1 < q.1) := by rw [e] at hs; exact (List.pairwise_append.1 hs).2.1
    have hpos : ∀ p ∈ pR ps l, p.1 < p.2.1 := fun p hp => (h.2 p (by rw [e]; exact List.mem_append_right _ hp)).2.1
    intro p hp
    cases hR : pR ps l with
    | nil => rw [hR] at hp; simp at hp
    | cons x t =>
      have hx := dw_prop _ hR
      have hx2 : l ≤ x.2.1 := by simpa using hx
      rw [hR] at hp hs2 hpos
      rcases List.mem_cons.1 hp with rfl | hp2
      · exact hx2
      · have h1 := (List.pairwise_cons.1 hs2).1 p hp2
        have h2 := hpos p hp
        omega
  have eRM : pR ps l = pM ps l r ++ pC ps l r := by unfold pM pC; rw [List.takeWhile_append_dropWhile]
  have hA : ∀ p ∈ pA ps l, p.2.1 < l := fun p hp => by have := tw_prop _ hp; simpa using this
  have hM1 : ∀ p ∈ pM ps l r, p.1 ≤ r := fun p hp => by have := tw_prop _ hp; simpa using this
  refine ⟨hA, fun p hp => ⟨hR p (by rw [eRM]; exact List.mem_append_left _ hp), hM1 p hp⟩, ?_⟩
  intro p hp
  have hs3 : (pC ps l r).Pairwise (fun p q => p.2.1 < q.1) := by
    rw [p_eq ps l r] at hs; exact (List.pairwise_append.1 (List.pairwise_append.1 hs).2.1).2.1
  have hpos : ∀ p ∈ pC ps l r, p.1 < p.2.1 := fun p hp => (h.2 p (by rw [p_eq ps l r]; exact List.mem_append_right _ (List.mem_append_right _ hp))).2.1
  cases hC : pC ps l r with
  | nil => rw [hC] at hp; simp at hp
  | cons x t =>
    have hx := dw_prop _ hC
    have hx2 : r < x.1 := by simpa using hx
    rw [hC] at hp hs3 hpos
    rcases List.mem_cons.1 hp with rfl | hp2
    · exact hx2
    · have h1 := (List.pairwise_cons.1 hs3).1 p hp2
      have h2 := hpos x List.mem_cons_self
      omega
/-- What lies in the middle reaches from lo to hi. -/
structure Mid (ps : List Pt) (l r : Nat) : Prop where
  ll : lo ps l r ≤ l
  rr : r ≤ hi ps l r
  inl : ∀ p ∈ pM ps l r, lo ps l r ≤ p.1 ∧ p.2.1 ≤ hi ps l r
  cov : ∀ j, lo ps l r ≤ j → j < hi ps l r → (l ≤ j ∧ j < r) ∨ Cov (pM ps l r) j
  alo : ∀ p ∈ pA ps l, p.2.1 < lo ps l r
  chi : ∀ p ∈ pC ps l r, hi ps l r < p.1
  lo0 : lo ps l r = 0 → l = 0
  hib : ∀ b, r ≤ b → (∀ p ∈ ps, p.2.1 ≤ b) → hi ps l r ≤ b
theorem mid_of {b : Nat} {ps : List Pt} (h : Wf b ps) (l r : Nat) : Mid ps l r := by
  have K := cut_of h l r
  have hs := h.1
  rw [p_eq ps l r] at hs
  obtain ⟨_, hs2, hsA⟩ := List.pairwise_append.1 hs
  obtain ⟨hsM, _, hsC⟩ := List.pairwise_append.1 hs2
  have hin : ∀ p ∈ pM ps l r, p ∈ ps := fun p hp => by rw [p_eq ps l r]; exact List.mem_append_right _ (List.mem_append_left _ hp)
  cases hM : pM ps l r with
  | nil =>
    have e1 : lo ps l r = l := by unfold lo; rw [hM]
    have e2 : hi ps l r = r := by unfold hi; rw [hM]; rfl
    refine ⟨by omega, by omega, fun p hp => by rw [hM] at hp; simp at hp, fun j h1 h2 => .inl (by omega), fun p hp => by rw [e1]; exact K.a p hp, fun p hp => by rw [e2]; exact K.c p hp, by omega, fun b hb _ => by omega⟩
  | cons x t =>
    have e1 : lo ps l r = min l x.1 := by unfold lo; rw [hM]
    obtain ⟨y, hy⟩ : ∃ y, (pM ps l r).getLast? = some y := by rw [hM]; exact ⟨_, List.getLast?_cons⟩
    have e2 : hi ps l r = max r y.2.1 := by unfold hi; rw [hy]
    have hym : y ∈ pM ps l r := List.mem_of_getLast? hy
    have hxm : x ∈ pM ps l r := by rw [hM]; exact List.mem_cons_self
    have hxall : ∀ p ∈ pM ps l r, x.1 ≤ p.1 := by
      intro p hp
      rw [hM] at hp hsM
      rcases List.mem_cons.1 hp with rfl | hp
      · exact Nat.le_refl _
      · have h1 := (List.pairwise_cons.1 hsM).1 p hp
        have h2 := (h.2 x (hin x hxm)).2.1
        omega
    have hyall : ∀ p ∈ pM ps l r, p.2.1 ≤ y.2.1 := by
      intro p hp
      obtain ⟨t2, ht2⟩ : ∃ t2, pM ps l r = t2 ++ [y] := by
        obtain ⟨t2, h2⟩ := List.getLast?_eq_some_iff.1 hy
        exact ⟨t2, h2⟩
      rw [ht2] at hp hsM
      rcases List.mem_append.1 hp with hp | hp
      · have h1 := (List.pairwise_append.1 hsM).2.2 p hp y (by simp)
        have h2 := (h.2 y (hin y hym)).2.1
        omega
      · simp at hp; subst hp; exact Nat.le_refl _
    have hx1 := K.m x hxm
    have hy1 := K.m y hym
    have hx2 := h.2 x (hin x hxm)
    have hy2 := h.2 y (hin y hym)
    refine ⟨by omega, by omega, fun p hp => by have := hxall p hp; have := hyall p hp; omega, ?_, ?_, ?_, by omega, ?_⟩
    · intro j h1 h2
      by_cases h3 : j < l
      · exact .inr ⟨x, hxm, by omega, by omega⟩
      · by_cases h4 : j < r
        · exact .inl ⟨by omega, h4⟩
        · exact .inr ⟨y, hym, by omega, by omega⟩
    · intro p hp
      have h1 := K.a p hp
      have h2 := hsA p hp x (List.mem_append_left _ hxm)
      omega
    · intro p hp
      have h1 := K.c p hp
      have h2 := hsC y hym p hp
      omega
    · intro b hb hbs
      have := hbs y (hin y hym)
      omega
theorem cov_split (ps : List Pt) (l r j : Nat) : Cov ps j ↔ Cov (pA ps l) j ∨ Cov (pM ps l r) j ∨ Cov (pC ps l r) j := by
  have : Cov ps j ↔ Cov (pA ps l ++ (pM ps l r ++ pC ps l r)) j := by rw [← p_eq]
  rw [this]; unfold Cov
  simp only [List.mem_append]
  constructor
  · rintro ⟨p, h1 | h1 | h1, h2⟩
    · exact .inl ⟨p, h1, h2⟩
    · exact .inr (.inl ⟨p, h1, h2⟩)
    · exact .inr (.inr ⟨p, h1, h2⟩)
  · rintro (⟨p, h1, h2⟩ | ⟨p, h1, h2⟩ | ⟨p, h1, h2⟩)
    · exact ⟨p, .inl h1, h2⟩
    · exact ⟨p, .inr (.inl h1), h2⟩
    · exact ⟨p, .inr (.inr h1), h2⟩
/-- What an Insert of [l, l + |d|) makes of a buffer, k octets ready. -/
structure Ins (s : St) (l : Nat) (d : List Nat) (t : St) (k : Nat) : Prop where
  ok : Ok { t with count := 0 }
  sz : t.sz = s.sz
  st : t.start = s.start
  rd : t.ready = s.ready + k
  nx : t.next = (s.next + k) % 4294967296
  ct : t.count ≤ s.count + 1
  ln : t.parts.length ≤ s.parts.length + 1
  cov : ∀ j, (j < k ∨ (k ≤ j ∧ Cov t.parts (j - k))) ↔ (Cov s.parts j ∨ (l ≤ j ∧ j < l + d.length))
  new : ∀ v, s.ready ≤ v → v < s.sz → l ≤ v - s.ready → v - s.ready < l + d.length → ¬ Cov s.parts (v - s.ready) → octF t.ring t.sz t.start v = d.getD (v - s.ready - l) 0
  old : ∀ v, v < s.sz → (v < s.ready ∨ Cov s.parts (v - s.ready) ∨ ¬ (l ≤ v - s.ready ∧ v - s.ready < l + d.length)) → octF t.ring t.sz t.start v = octF s.ring s.sz s.start v
theorem in_spec {s : St} (K : Ok s) {l : Nat} {d : List Nat} (hw : l + d.length ≤ win s) (h81 : (inF s l d).2.2 = 0) : Ins s l d (inF s l d).1 (inF s l d).2.1 := by
  have hK := K.wf
  have C := cut_of hK l (l + d.length)
  have M := mid_of hK l (l + d.length)
  have hrd := K.rd
  have hwin : win s = s.sz - s.ready := rfl
  have hsplit := cov_split s.parts l (l + d.length)
  have hinM : ∀ p ∈ pM s.parts l (l + d.length), p ∈ s.parts := fun p hp => by rw [p_eq s.parts l (l + d.length)]; exact List.mem_append_right _ (List.mem_append_left _ hp)
  have hinC : ∀ p ∈ pC s.parts l (l + d.length), p ∈ s.parts := fun p hp => by rw [p_eq s.parts l (l + d.length)]; exact List.mem_append_right _ (List.mem_append_right _ hp)
  have hinA : ∀ p ∈ pA s.parts l, p ∈ s.parts := fun p hp => by rw [p_eq s.parts l (l + d.length)]; exact List.mem_append_left _ hp
  have hs := hK.1
  rw [p_eq s.parts l (l + d.length)] at hs
  obtain ⟨hsA, hs2, hsAx⟩ := List.pairwise_append.1 hs
  obtain ⟨hsM, hsC, hsMC⟩ := List.pairwise_append.1 hs2
  have hplen : s.parts.length = (pA s.parts l).length + ((pM s.parts l (l + d.length)).length + (pC s.parts l (l + d.length)).length) := by
    have := congrArg List.length (p_eq s.parts l (l + d.length)); simpa using this
  have hgc := fun j => gaps_cov (a := l) (r := l + d.length) hsM (fun p hp => ⟨(C.m p hp).2, (hK.2 p (hinM p hp)).2.1⟩) j
  have hgi := gaps_in (ps := pM s.parts l (l + d.length)) (a := l) (r := l + d.length) (fun p hp => (C.m p hp).2)
  -- covered in [l, r) means by the middle
  have hmid : ∀ j, l ≤ j → j < l + d.length → (Cov s.parts j ↔ Cov (pM s.parts l (l + d.length)) j) := by
    intro j h1 h2
    rw [hsplit]
    constructor
    · rintro (⟨p, hp, _, h4⟩ | h | ⟨p, hp, h3, _⟩)
      · have := C.a p hp; omega
      · exact h
      · have := C.c p hp; omega
    · exact fun h => .inr (.inl h)
  unfold inF at h81 ⊢
  dsimp only at h81 ⊢
  by_cases hg : gapsF l (pM s.parts l (l + d.length)) (l + d.length) = []
  · rw [if_pos hg] at h81 ⊢
    have hall : ∀ j, l ≤ j → j < l + d.length → Cov s.parts j := by
      intro j h1 h2
      apply Classical.byContradiction
      intro h3
      have := (hgc j).2 ⟨h1, h2, fun h => h3 ((hmid j h1 h2).2 h)⟩
      rw [hg] at this
      simp at this
    refine ⟨⟨K.sz0, K.sz1, K.rl, K.st, K.rd, K.nx, K.wf, K.pl, Nat.zero_le _⟩, rfl, rfl, rfl, (Nat.mod_eq_of_lt K.nx).symm, Nat.le_succ _, Nat.le_succ _, ?_, ?_, fun v _ _ => rfl⟩
    · intro j
      simp only [Nat.not_lt_zero, false_or, Nat.zero_le, true_and, Nat.sub_zero]
      exact ⟨.inl, fun h => h.elim id fun h => hall j h.1 h.2⟩
    · intro v _ _ h1 h2 h3
      exact absurd (hall _ h1 h2) h3
  rw [if_neg hg] at h81 ⊢
  by_cases h8 : 0 < l ∧ pM s.parts l (l + d.length) = [] ∧ 1024 ≤ s.parts.length
  · rw [if_pos h8] at h81; exact absurd h81 (by intro h; exact absurd (show (81 : Nat) = 0 from h) (by decide))
  rw [if_neg h8]
  generalize hgs : gapsF l (pM s.parts l (l + d.length)) (l + d.length) = gs at hg hgc hgi ⊢
  have hrl2 : (layAll s.sz s.start s.ready l d gs s.ring).length = s.sz := layAll_len K.sz0 K.rl (fun g hg => by have := hgi g hg; omega)
  have hlay := fun v hv => layAll_oct (st := s.start) (rd := s.ready) (l := l) (d := d) K.sz0 (by omega) (gs := gs) K.rl (fun g hg => by have := hgi g hg; omega) v hv
  have hnew : ∀ v, s.ready ≤ v → v < s.sz → l ≤ v - s.ready → v - s.ready < l + d.length → ¬ Cov s.parts (v - s.ready) → octF (layAll s.sz s.start s.ready l d gs s.ring) s.sz s.start v = d.getD (v - s.ready - l) 0 := by
    intro v h0 h1 h2 h3 h4
    obtain ⟨g, hg1, hg2, hg3⟩ := (hgc (v - s.ready)).2 ⟨h2, h3, fun h => h4 ((hmid _ h2 h3).2 h)⟩
    exact (hlay v h1).1 ⟨g, hg1, by omega, by omega⟩
  have hold : ∀ v, v < s.sz → (v < s.ready ∨ Cov s.parts (v - s.ready) ∨ ¬ (l ≤ v - s.ready ∧ v - s.ready < l + d.length)) → octF (layAll s.sz s.start s.ready l d gs s.ring) s.sz s.start v = octF s.ring s.sz s.start v := by
    intro v h0 h1
    refine (hlay v h0).2 ?_
    rintro ⟨g, hg1, hg2, hg3⟩
    have hgin := hgi g hg1
    have h5 := (hgc (v - s.ready)).1 ⟨g, hg1, by omega, by omega⟩
    rcases h1 with h1 | h1 | h1
    · omega
    · exact h5.2.2 ((hmid _ h5.1 h5.2.1).1 h1)
    · exact h1 ⟨h5.1, h5.2.1⟩
  have hlohi : lo s.parts l (l + d.length) < hi s.parts l (l + d.length) := by
    cases hgs2 : gs with
    | nil => exact absurd hgs2 hg
    | cons g t =>
      have := hgi g (by rw [hgs2]; exact List.mem_cons_self)
      have := M.ll; have := M.rr; omega
  have hhib : hi s.parts l (l + d.length) ≤ win s := M.hib _ hw (fun p hp => (hK.2 p hp).2.2)
  unfold joinF
  dsimp only
  obtain ⟨mll, mrr, mInl, mCov, mAlo, mChi, mLo0, _⟩ := M
  generalize lo s.parts l (l + d.length) = L at mll mInl mCov mAlo mLo0 hlohi ⊢
  generalize hi s.parts l (l + d.length) = H at mrr mInl mCov mChi hlohi hhib ⊢
  have hiff : ∀ j, (L ≤ j ∧ j < H) ↔ (l ≤ j ∧ j < l + d.length) ∨ Cov (pM s.parts l (l + d.length)) j := by
    intro j
    constructor
    · rintro ⟨h1, h2⟩; exact mCov j h1 h2
    · rintro (h | ⟨p, hp, h3, h4⟩)
      · omega
      · have := mInl p hp; omega
  have hMn : (pM s.parts l (l + d.length)).length = 0 ∨ 1 ≤ (pM s.parts l (l + d.length)).length := by omega
  have hlen1 : 0 < l → (pA s.parts l).length + ((pC s.parts l (l + d.length)).length + 1) ≤ 1024 := by
    intro hl
    have hpl := K.pl
    rcases hMn with h0 | h0
    · have : ¬ 1024 ≤ s.parts.length := fun h => h8 ⟨hl, List.eq_nil_of_length_eq_zero h0, h⟩
      omega
    · omega
  by_cases hL : 0 < L
  · rw [if_pos hL]
    have hl0 : 0 < l := Nat.lt_of_lt_of_le hL mll
    refine ⟨⟨K.sz0, K.sz1, hrl2, K.st, hrd, K.nx, ⟨?_, ?_⟩, ?_, Nat.zero_le _⟩, rfl, rfl, rfl, (Nat.mod_eq_of_lt K.nx).symm, Nat.le_refl _, ?_, ?_, hnew, hold⟩
    · show List.Pairwise _ (_ ++ _)
      refine List.pairwise_append.2 ⟨hsA, List.pairwise_cons.2 ⟨fun p hp => mChi p hp, hsC⟩, ?_⟩
      intro p hp q hq
      rcases List.mem_cons.1 hq with rfl | hq
      · exact mAlo p hp
      · exact hsAx p hp q (List.mem_append_right _ hq)
    · intro p hp
      rcases List.mem_append.1 hp with hp | hp
      · exact hK.2 p (hinA p hp)
      · rcases List.mem_cons.1 hp with rfl | hp
        · exact ⟨hL, hlohi, hhib⟩
        · exact hK.2 p (hinC p hp)
    · have := hlen1 hl0; simp only [List.length_append, List.length_cons]; omega
    · simp only [List.length_append, List.length_cons]; omega
    · intro j
      simp only [Nat.not_lt_zero, false_or, Nat.zero_le, true_and, Nat.sub_zero]
      have h1 : Cov (pA s.parts l ++ (L, H, s.count + 1) :: pC s.parts l (l + d.length)) j ↔ Cov (pA s.parts l) j ∨ (L ≤ j ∧ j < H) ∨ Cov (pC s.parts l (l + d.length)) j := by
        unfold Cov
        simp only [List.mem_append, List.mem_cons]
        constructor
        · rintro ⟨p, h | rfl | h, h2⟩
          · exact .inl ⟨p, h, h2⟩
          · exact .inr (.inl h2)
          · exact .inr (.inr ⟨p, h, h2⟩)
        · rintro (⟨p, h, h2⟩ | h2 | ⟨p, h, h2⟩)
          · exact ⟨p, .inl h, h2⟩
          · exact ⟨(L, H, s.count + 1), .inr (.inl rfl), h2⟩
          · exact ⟨p, .inr (.inr h), h2⟩
      show Cov (pA s.parts l ++ (L, H, s.count + 1) :: pC s.parts l (l + d.length)) j ↔ _
      rw [h1, hsplit, hiff]
      constructor
      · rintro (h | (h | h) | h)
        · exact .inl (.inl h)
        · exact .inr h
        · exact .inl (.inr (.inl h))
        · exact .inl (.inr (.inr h))
      · rintro ((h | h | h) | h)
        · exact .inl h
        · exact .inr (.inl (.inr h))
        · exact .inr (.inr h)
        · exact .inr (.inl (.inl h))
  · rw [if_neg hL]
    have hL0 : L = 0 := by omega
    have hl0 : l = 0 := mLo0 hL0
    have hA : pA s.parts l = [] := by
      cases h : pA s.parts l with
      | nil => rfl
      | cons p t => have := C.a p (by rw [h]; exact List.mem_cons_self); omega
    have hCb : ∀ p ∈ pC s.parts l (l + d.length), H < p.1 := mChi
    refine ⟨⟨K.sz0, K.sz1, hrl2, K.st, ?_, Nat.mod_lt _ (by omega), ⟨?_, ?_⟩, ?_, Nat.zero_le _⟩, rfl, rfl, rfl, rfl, Nat.le_succ _, ?_, ?_, hnew, hold⟩
    · show s.ready + H ≤ s.sz; omega
    · show List.Pairwise _ ((pA s.parts l ++ pC s.parts l (l + d.length)).map _)
      rw [hA, List.nil_append, List.pairwise_map]
      refine hsC.imp_of_mem ?_
      intro p q hp hq h
      have := hCb q hq
      show p.2.1 - H < q.1 - H; omega
    · intro q hq
      rw [hA, List.nil_append] at hq
      obtain ⟨p, hp, rfl⟩ := List.mem_map.1 hq
      have h1 := hCb p hp
      have h2 := hK.2 p (hinC p hp)
      refine ⟨?_, ?_, ?_⟩
      · show 0 < p.1 - H; omega
      · show p.1 - H < p.2.1 - H; omega
      · show p.2.1 - H ≤ s.sz - (s.ready + H); omega
    · have hpl := K.pl
      simp only [List.length_map, List.length_append]; omega
    · simp only [List.length_map, List.length_append]; omega
    · intro j
      have h1 : Cov (((pA s.parts l ++ pC s.parts l (l + d.length)).map fun p => (p.1 - H, p.2.1 - H, p.2.2))) (j - H) ↔ ∃ p ∈ pC s.parts l (l + d.length), p.1 - H ≤ j - H ∧ j - H < p.2.1 - H := by
        rw [hA, List.nil_append]; unfold Cov
        constructor
        · rintro ⟨q, hq, h2⟩
          obtain ⟨p, hp, rfl⟩ := List.mem_map.1 hq
          exact ⟨p, hp, h2⟩
        · rintro ⟨p, hp, h2⟩
          exact ⟨_, List.mem_map.2 ⟨p, hp, rfl⟩, h2⟩
      show (j < H ∨ (H ≤ j ∧ Cov _ (j - H))) ↔ _
      rw [h1, hsplit, hA]
      have h0 : Cov [] j ↔ False := by simp [Cov]
      rw [h0]
      have hi := hiff j
      constructor
      · rintro (h | ⟨h, p, hp, h2, h3⟩)
        · rcases hi.1 ⟨by omega, h⟩ with h4 | h4
          · exact .inr h4
          · exact .inl (.inr (.inl h4))
        · refine .inl (.inr (.inr ⟨p, hp, ?_, ?_⟩))
          · have := hCb p hp; omega
          · omega
      · rintro ((h | h | ⟨p, hp, h2, h3⟩) | h)
        · exact h.elim
        · exact .inl (hi.2 (.inr h)).2
        · have := hCb p hp
          exact .inr ⟨by omega, p, hp, by omega, by omega⟩
        · exact .inl (hi.2 (.inl h)).2
end Go.Proofs.Ytknebjfdggimcaa.Rv
