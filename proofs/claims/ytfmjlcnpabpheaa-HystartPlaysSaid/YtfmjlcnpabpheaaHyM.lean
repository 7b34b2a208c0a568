/- Hystart: the numbers, with no program in sight. -/
namespace Go.Proofs.Ytfmjlcnpabpheaa.Hy

/-- A state: phase, whether there is a last and a present least answer, those, samples, base, rounds. -/
structure HS where
  p : Int
  hl : Bool
  hn : Bool
  la : Int
  no : Int
  sa : Int
  ba : Int
  ro : Int
deriving DecidableEq

def NV (n : Int) : Prop := 0 ≤ n ∧ n ≤ 1073741824
instance (n : Int) : Decidable (NV n) := by unfold NV; infer_instance
def HV (s : HS) : Prop := (0 ≤ s.p ∧ s.p ≤ 2) ∧ NV s.la ∧ NV s.no ∧ NV s.ba ∧ NV s.sa ∧ NV s.ro
instance (s : HS) : Decidable (HV s) := by unfold HV; infer_instance
def Z : HS := ⟨0, false, false, 0, 0, 0, 0, 0⟩
def bound (la : Int) : Int := max (min (la / 8) 16) 4

def rd (s : HS) : HS := ⟨if s.p = 1 then (if 5 ≤ min (s.ro + 1) 1073741824 then 2 else 1) else s.p, s.hn, false, s.no, 0, 0, s.ba, if s.p = 1 then min (s.ro + 1) 1073741824 else s.ro⟩
def s1 (s : HS) (r : Int) : HS := ⟨s.p, s.hl, true, s.la, if s.hn = false ∨ r < s.no then r else s.no, min (s.sa + 1) 1073741824, s.ba, s.ro⟩
def jd (t : HS) : HS :=
  if t.p = 0 ∧ t.hl = true ∧ t.la + bound t.la ≤ t.no then ⟨1, t.hl, t.hn, t.la, t.no, t.sa, t.no, 0⟩
  else if t.p = 1 ∧ t.no < t.ba then ⟨0, t.hl, t.hn, t.la, t.no, t.sa, t.ba, t.ro⟩ else t
def sm (s : HS) (r : Int) : HS := if 8 ≤ (s1 s r).sa then jd (s1 s r) else s1 s r
def ls (s : HS) : HS := ⟨2, s.hl, s.hn, s.la, s.no, s.sa, s.ba, s.ro⟩

def cE (s : HS) : Int := if HV s then 0 else 171
def rdO (s : HS) : HS := if HV s then rd s else Z
def smE (s : HS) (r : Int) : Int := if HV s then (if NV r then 0 else 4) else 171
def smO (s : HS) (r : Int) : HS := if HV s then (if NV r then sm s r else Z) else Z
def lsO (s : HS) : HS := if HV s then ls s else Z

theorem n0 : (0 : Int) ≤ 0 ∧ (0 : Int) ≤ 1073741824 := by decide
theorem n8 : (0 : Int) ≤ 8 ∧ (8 : Int) ≤ 1073741824 := by decide
theorem p0 : (0 : Int) ≤ 0 ∧ (0 : Int) ≤ 2 := by decide
theorem p1 : (0 : Int) ≤ 1 ∧ (1 : Int) ≤ 2 := by decide
theorem p2 : (0 : Int) ≤ 2 ∧ (2 : Int) ≤ 2 := by decide

theorem rd_may {s : HS} (h : HV s) : HV (rd s) := by
  obtain ⟨⟨a, b⟩, c, ⟨d, e⟩, f, g, ⟨i, j⟩⟩ := h
  refine ⟨?_, ⟨d, e⟩, n0, f, n0, ?_⟩
  · unfold rd; dsimp only; (repeat' split) <;> omega
  · unfold rd NV; dsimp only; (repeat' split) <;> omega
theorem s1_may {s : HS} {r : Int} (h : HV s) (hr : NV r) : HV (s1 s r) := by
  obtain ⟨a, c, ⟨d, e⟩, f, ⟨g, k⟩, i⟩ := h
  obtain ⟨r0, r1⟩ := hr
  refine ⟨a, c, ?_, f, ?_, i⟩
  · unfold s1 NV; dsimp only; (repeat' split) <;> omega
  · unfold s1 NV; dsimp only; omega
theorem jd_may {t : HS} (h : HV t) : HV (jd t) := by
  obtain ⟨a, c, d, f, g, i⟩ := h
  unfold jd
  split
  · exact ⟨p1, c, d, d, g, n0⟩
  · split
    · exact ⟨p0, c, d, f, g, i⟩
    · exact ⟨a, c, d, f, g, i⟩
theorem sm_may {s : HS} {r : Int} (h : HV s) (hr : NV r) : HV (sm s r) := by
  unfold sm
  split
  · exact jd_may (s1_may h hr)
  · exact s1_may h hr
theorem ls_may {s : HS} (h : HV s) : HV (ls s) := ⟨p2, h.2⟩

/-- What HystartPlays asks of two states, one behind the other. -/
theorem rd_way {s : HS} (_h : HV s) : (s.p = 2 → (rd s).p = 2) ∧ (s.p = 1 → (rd s).p ≠ 0) := by
  unfold rd
  constructor
  · intro e; rw [e]; rfl
  · intro e; rw [e]; dsimp only; rw [if_pos rfl]; split <;> decide
theorem sm_way {s : HS} {r : Int} (_h : HV s) : (s.p = 2 → (sm s r).p = 2) ∧ (s.p = 1 → (sm s r).p = 0 → r < s.ba ∨ s.no < s.ba) := by
  have k1 : (s1 s r).p = s.p := rfl
  have k2 : (s1 s r).ba = s.ba := rfl
  have k3 : (s1 s r).no = r ∨ (s1 s r).no = s.no := by unfold s1; dsimp only; split <;> simp
  unfold sm
  constructor
  · intro e
    split
    · unfold jd
      rw [k1, e, if_neg (by simp), if_neg (by simp)]
      exact k1.trans e
    · exact k1.trans e
  · intro e
    split
    · unfold jd
      rw [k1, e, if_neg (by simp)]
      split
      · rename_i hh
        intro _
        rw [k2] at hh
        rcases k3 with k | k <;> rw [k] at hh
        · exact .inl hh.2
        · exact .inr hh.2
      · intro h0; rw [k1, e] at h0; exact absurd h0 (by decide)
    · intro h0; rw [k1, e] at h0; exact absurd h0 (by decide)

/-- Rounds of eight samples each. -/
def sm8 (s : HS) (x : Int) : Nat → HS
  | 0 => s
  | k + 1 => smO (sm8 s x k) x
def rs (l : List Int) : HS := l.foldl (fun s x => sm8 (rdO s) x 8) Z
theorem sm8_succ (s : HS) (x : Int) (k : Nat) : sm8 s x (k + 1) = smO (sm8 s x k) x := rfl
theorem rs_take (l : List Int) (k : Nat) (h : k < l.length) : rs (l.take (k + 1)) = sm8 (rdO (rs (l.take k))) l[k] 8 := by
  unfold rs
  rw [List.take_succ_eq_append_getElem h, List.foldl_append]
  rfl

theorem sm8_part {s : HS} {x : Int} (h : HV s) (hx : NV x) (h0 : s.sa = 0) (h1 : s.hn = false) (k : Nat) (hk : k < 7) :
    sm8 s x (k + 1) = ⟨s.p, s.hl, true, s.la, x, (k : Int) + 1, s.ba, s.ro⟩ := by
  induction k with
  | zero =>
    show smO s x = _
    unfold smO sm
    rw [if_pos h, if_pos hx, if_neg (by unfold s1; dsimp only; rw [h0]; decide)]
    unfold s1
    rw [h0, h1]
    simp [show (min (1 : Int) 1073741824) = 1 from by decide]
  | succ k ih =>
    rw [sm8_succ, ih (by omega)]
    have hv : HV ⟨s.p, s.hl, true, s.la, x, (k : Int) + 1, s.ba, s.ro⟩ := ⟨h.1, h.2.1, hx, h.2.2.2.1, ⟨by dsimp only; omega, by dsimp only; omega⟩, h.2.2.2.2.2⟩
    have e1 : min ((k : Int) + 1 + 1) 1073741824 = (k : Int) + 1 + 1 := by omega
    have e2 : ¬ x < x := by omega
    unfold smO sm s1
    rw [if_pos hv, if_pos hx]
    dsimp only
    rw [e1, if_neg (by omega), if_neg (by simp)]
    simp
theorem sm8_all {s : HS} {x : Int} (h : HV s) (hx : NV x) (h0 : s.sa = 0) (h1 : s.hn = false) :
    sm8 s x 8 = jd ⟨s.p, s.hl, true, s.la, x, 8, s.ba, s.ro⟩ := by
  rw [sm8_succ, sm8_part h hx h0 h1 6 (by omega)]
  have hv : HV ⟨s.p, s.hl, true, s.la, x, ((6 : Nat) : Int) + 1, s.ba, s.ro⟩ := ⟨h.1, h.2.1, hx, h.2.2.2.1, ⟨by dsimp only; omega, by dsimp only; omega⟩, h.2.2.2.2.2⟩
  unfold smO sm s1
  rw [if_pos hv, if_pos hx]
  dsimp only
  rw [if_pos (by decide), if_neg (by simp)]
  rfl

/-- Where two rounds lead. -/
theorem rs_two {a b : Int} (ha : NV a) (hb : NV b) : (rs [a, b]).p = (if a + bound a ≤ b then 1 else 0) := by
  have e : rs [a, b] = sm8 (rdO (sm8 (rdO Z) a 8)) b 8 := by simp only [rs, List.foldl_cons, List.foldl_nil]
  have z1 : rdO Z = Z := by decide +kernel
  have e1 : sm8 Z a 8 = ⟨0, false, true, 0, a, 8, 0, 0⟩ := by
    rw [sm8_all (show HV Z from ⟨p0, n0, n0, n0, n0, n0⟩) ha rfl rfl]
    unfold jd
    rw [if_neg (by simp [Z]), if_neg (by simp [Z])]
    rfl
  have v1 : HV ⟨0, false, true, 0, a, 8, 0, 0⟩ := ⟨p0, n0, ha, n0, n8, n0⟩
  have e2 : rdO ⟨0, false, true, 0, a, 8, 0, 0⟩ = ⟨0, true, false, a, 0, 0, 0, 0⟩ := by
    unfold rdO
    rw [if_pos v1]
    rfl
  have v2 : HV ⟨0, true, false, a, 0, 0, 0, 0⟩ := ⟨p0, ha, n0, n0, n0, n0⟩
  rw [e, z1, e1, e2, sm8_all v2 hb rfl rfl]
  unfold jd
  by_cases h : a + bound a ≤ b
  · rw [if_pos ⟨rfl, rfl, h⟩, if_pos h]
  · rw [if_neg (fun x => h x.2.2), if_neg (by simp), if_neg h]

theorem ex1 : (rs [100]).p = 0 := by decide +kernel
theorem ex2 : (rs [100, 111]).p = 0 := by decide +kernel
theorem ex3 : (rs [100, 112]).p = 1 := by decide +kernel
theorem ex4 : (rs [100, 112, 130, 130, 130, 130, 130]).p = 2 := by decide +kernel

/-- Answers that take no longer: between two samples. -/
def Calm (s : HS) (x : Int) : Prop := s.p = 0 ∧ HV s ∧ (s.hl = true → x ≤ s.la) ∧ (s.hn = true → x ≤ s.no)
theorem calm_sm {s : HS} {x : Int} (h : Calm s x) (hx : NV x) : Calm (sm s x) x := by
  obtain ⟨h0, hv, h1, h2⟩ := h
  have c : Calm (s1 s x) x ∧ (s1 s x).no = x := by
    have e : (s1 s x).no = x := by
      unfold s1; dsimp only
      split
      · rfl
      · rename_i hh
        have hb : s.hn = true := by
          cases hq : s.hn
          · exact absurd (Or.inl hq) hh
          · rfl
        have := h2 hb
        have : ¬ x < s.no := fun hc => hh (.inr hc)
        omega
    exact ⟨⟨h0, s1_may hv hx, h1, fun _ => by rw [e]; exact Int.le_refl _⟩, e⟩
  unfold sm
  split
  · unfold jd
    have b0 : 4 ≤ bound (s1 s x).la := by unfold bound; omega
    rw [if_neg (fun hh => by have k1 := c.1.2.2.1 hh.2.1; have k2 := hh.2.2; rw [c.2] at k2; omega), if_neg (fun hh => by have k1 := c.1.1; rw [k1] at hh; exact absurd hh.1 (by decide))]
    exact c.1
  · exact c.1
theorem calm_rd {s : HS} {x y : Int} (h0 : s.p = 0) (hv : HV s) (h2 : s.hn = true → x ≤ s.no) (hy : y ≤ x) : Calm (rd s) y := by
  refine ⟨?_, rd_may hv, fun e => ?_, fun e => ?_⟩
  · unfold rd; rw [h0]; rfl
  · have : s.hn = true := e
    have := h2 this
    show y ≤ s.no
    omega
  · exact absurd (show false = true from e) (by decide)

end Go.Proofs.Ytfmjlcnpabpheaa.Hy
