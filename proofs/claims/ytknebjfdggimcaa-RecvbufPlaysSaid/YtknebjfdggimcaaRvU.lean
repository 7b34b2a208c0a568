/- Recvbuf: parts of one text: the mathematics. -/
import Derived.Test.YtknebjfdggimcaaRvO
namespace Go.Proofs.Ytknebjfdggimcaa
open Go.RowKit Go.Proofs.Ytknebjfdggimcaa.Rv

/-- A buffer that gets parts of one text, R octets of which are read. -/
structure Ord (fi : Nat) (T : List Nat) (cm : List Bool) (R i : Nat) (s : St) : Prop where
  ok : Ok s
  sz : s.sz = 65536
  cl : cm.length = T.length
  nx : s.next = (fi + (R + s.ready)) % 4294967296
  hK : R + s.ready ≤ T.length
  cov : ∀ k, k < T.length → (cm.getD k false = true ↔ (k < R + s.ready ∨ (R + s.ready ≤ k ∧ Cov s.parts (k - (R + s.ready)))))
  bd : ∀ j, Cov s.parts j → R + s.ready + j < T.length
  oct : ∀ v, v < s.sz → (v < s.ready ∨ (s.ready ≤ v ∧ Cov s.parts (v - s.ready))) → octF s.ring s.sz s.start v = T.getD (R + v) 0
  pl : s.parts.length ≤ i
  ct : s.count ≤ i
/-- What came, behind a part from x on, n octets. -/
def cmF (cm : List Bool) (x n : Nat) : List Bool := cm.take x ++ (List.replicate n true ++ cm.drop (x + n))
theorem cmF_len {cm : List Bool} {x n : Nat} (h : x + n ≤ cm.length) : (cmF cm x n).length = cm.length := by
  unfold cmF; simp only [List.length_append, List.length_take, List.length_drop, List.length_replicate]; omega
theorem cmF_get {cm : List Bool} {x n : Nat} (h : x + n ≤ cm.length) (k : Nat) : (cmF cm x n).getD k false = if x ≤ k ∧ k < x + n then true else cm.getD k false := by
  unfold cmF
  have hx : (cm.take x).length = x := by rw [List.length_take]; omega
  simp only [List.getD_eq_getElem?_getD]
  by_cases h1 : k < x
  · rw [List.getElem?_append_left (by omega), List.getElem?_take, if_pos h1, if_neg (by omega)]
  · rw [List.getElem?_append_right (by omega), hx]
    by_cases h2 : k - x < n
    · rw [List.getElem?_append_left (by rw [List.length_replicate]; exact h2), List.getElem?_replicate, if_pos h2, if_pos (by omega)]; rfl
    · rw [List.getElem?_append_right (by rw [List.length_replicate]; omega), List.length_replicate, List.getElem?_drop, if_neg (by omega)]; congr 2; omega
theorem ord_clip {fi : Nat} {T : List Nat} {cm : List Bool} {R i : Nat} {s : St} (H : Ord fi T cm R i s) (hT : T.length ≤ 5000) {x n : Nat} (hx : x + n ≤ T.length) :
    clipL s ((fi + x) % 4294967296) = x - (R + s.ready) ∧ clipD s ((fi + x) % 4294967296) ((T.drop x).take n) = (T.drop (max x (R + s.ready))).take (x + n - max x (R + s.ready)) := by
  have hK := H.hK
  have hw : win s = 65536 - s.ready := by unfold win; rw [H.sz]
  have hdl : ((T.drop x).take n).length = n := by rw [List.length_take, List.length_drop]; omega
  obtain ⟨K, hKe⟩ : ∃ K, R + s.ready = K := ⟨_, rfl⟩
  have hrd : s.ready ≤ K := by omega
  have hnx := H.nx
  rw [hKe] at hK hnx ⊢
  unfold clipL clipD
  by_cases h : K ≤ x
  · have hd : dist ((fi + x) % 4294967296) s.next = x - K := by rw [hnx]; unfold dist; omega
    rw [hd, if_neg (by omega), if_neg (by omega)]
    refine ⟨rfl, ?_⟩
    rw [show max x K = x by omega, show x + n - x = n by omega, List.take_of_length_le (by rw [hdl]; omega)]
  · have hd : dist ((fi + x) % 4294967296) s.next = 4294967296 - (K - x) := by rw [hnx]; unfold dist; omega
    have hd2 : dist s.next ((fi + x) % 4294967296) = K - x := by rw [hnx]; unfold dist; omega
    rw [hd, hd2, if_pos (by omega), if_pos (by omega)]
    refine ⟨by omega, ?_⟩
    rw [hdl, show max x K = K by omega, List.take_of_length_le (by rw [List.length_drop, hdl]; omega), List.drop_take, List.drop_drop]
    by_cases h2 : K - x ≤ n
    · rw [show min (K - x) n = K - x by omega, show x + (K - x) = K by omega, show n - (K - x) = x + n - K by omega]
    · rw [show min (K - x) n = n by omega, show n - n = 0 by omega, show x + n - K = 0 by omega, List.take_zero, List.take_zero]
theorem ord_ins {fi : Nat} {T : List Nat} {cm : List Bool} {R i : Nat} {s : St} (H : Ord fi T cm R i s) (hT : T.length ≤ 5000) (hi : i < 1000) {x n : Nat} (hx : x + n ≤ T.length) :
    (insF s ((fi + x) % 4294967296) ((T.drop x).take n)).2.2 = 0 ∧ Ord fi T (cmF cm x n) R (i + 1) (insF s ((fi + x) % 4294967296) ((T.drop x).take n)).1 := by
  obtain ⟨c1, c2⟩ := ord_clip H hT hx
  have hK := H.hK
  have hw : win s = 65536 - s.ready := by unfold win; rw [H.sz]
  have hdl : ((T.drop x).take n).length = n := by rw [List.length_take, List.length_drop]; omega
  unfold insF
  rw [if_neg (by rw [hdl]; omega), c1, c2]
  obtain ⟨K, hKe⟩ : ∃ K, R + s.ready = K := ⟨_, rfl⟩
  rw [hKe] at hK ⊢
  have hDl : ((T.drop (max x K)).take (x + n - max x K)).length = x + n - max x K := by rw [List.length_take, List.length_drop]; omega
  have hDg : ∀ v, v < x + n - max x K → ((T.drop (max x K)).take (x + n - max x K)).getD v 0 = T.getD (max x K + v) 0 := fun v hv => by rw [getD_take _ _ _ hv, getD_drop]
  have h0 : (inF s (x - K) ((T.drop (max x K)).take (x + n - max x K))).2.2 = 0 := by
    unfold inF
    dsimp only
    split
    · rfl
    · rw [if_neg (fun h => by have := H.pl; omega)]
  have hwl : (x - K) + ((T.drop (max x K)).take (x + n - max x K)).length ≤ win s := by rw [hDl]; omega
  have S := in_spec H.ok hwl h0
  generalize (T.drop (max x K)).take (x + n - max x K) = D at hDl hDg h0 S ⊢
  generalize inF s (x - K) D = J at h0 S ⊢
  obtain ⟨t, k, e⟩ := J
  dsimp only at h0 S ⊢
  refine ⟨h0, ?_⟩
  have hsz := H.sz
  have hcl := H.cl
  have hrd : s.ready ≤ K := by omega
  have hk : K + k ≤ T.length := by
    by_cases hk0 : k = 0
    · omega
    · rcases (S.cov (k - 1)).1 (.inl (by omega)) with h | h
      · have := H.bd _ h; omega
      · omega
  have hct := S.ct
  have hct2 := H.ct
  have e1 : R + t.ready = K + k := by rw [S.rd]; omega
  refine ⟨⟨S.ok.sz0, S.ok.sz1, S.ok.rl, S.ok.st, S.ok.rd, S.ok.nx, S.ok.wf, S.ok.pl, by omega⟩, S.sz.trans hsz, ?_, ?_, ?_, ?_, ?_, ?_, ?_, by omega⟩
  · rw [cmF_len (by omega)]; exact hcl
  · rw [S.nx, H.nx, e1]; omega
  · rw [e1]; exact hk
  · intro p hp
    rw [cmF_get (by omega), e1]
    have h1 := H.cov p hp
    rw [hKe] at h1
    by_cases hpK : p < K
    · have : cm.getD p false = true := h1.2 (.inl hpK)
      rw [this]
      simp only [ite_self, true_iff]
      exact .inl (by omega)
    · have hc := S.cov (p - K)
      rw [hDl] at hc
      have hin : (x ≤ p ∧ p < x + n) ↔ (x - K ≤ p - K ∧ p - K < x - K + (x + n - max x K)) := by omega
      have hl : (p < K + k ∨ (K + k ≤ p ∧ Cov t.parts (p - (K + k)))) ↔ (p - K < k ∨ (k ≤ p - K ∧ Cov t.parts (p - K - k))) := by
        rw [show p - K - k = p - (K + k) by omega]
        constructor
        · rintro (h | ⟨h, h2⟩)
          · exact .inl (by omega)
          · exact .inr ⟨by omega, h2⟩
        · rintro (h | ⟨h, h2⟩)
          · exact .inl (by omega)
          · exact .inr ⟨by omega, h2⟩
      rw [hl, hc]
      by_cases hxp : x ≤ p ∧ p < x + n
      · rw [if_pos hxp]; exact ⟨fun _ => .inr (hin.1 hxp), fun _ => rfl⟩
      · rw [if_neg hxp, h1]
        constructor
        · rintro (h | h)
          · exact absurd h hpK
          · exact .inl h.2
        · rintro (h | h)
          · exact .inr ⟨by omega, h⟩
          · exact absurd (hin.2 h) hxp
  · intro j hj
    rw [e1]
    have hc := (S.cov (j + k)).1 (.inr ⟨by omega, by rw [show j + k - k = j by omega]; exact hj⟩)
    rcases hc with h | h
    · have := H.bd _ h; omega
    · omega
  · intro v hv hvc
    rw [S.sz] at hv
    have hor : v < s.ready ∨ (s.ready ≤ v ∧ (Cov s.parts (v - s.ready) ∨ (x - K ≤ v - s.ready ∧ v - s.ready < x - K + D.length))) := by
      by_cases hvr : v < s.ready
      · exact .inl hvr
      · right
        refine ⟨by omega, (S.cov (v - s.ready)).1 ?_⟩
        rcases hvc with h | ⟨h, h2⟩
        · left; rw [S.rd] at h; omega
        · right; rw [S.rd] at h h2; exact ⟨by omega, by rw [show v - s.ready - k = v - (s.ready + k) by omega]; exact h2⟩
    rcases hor with h | ⟨h, h2⟩
    · rw [S.old v hv (.inl h)]; exact H.oct v hv (.inl h)
    · by_cases hc : Cov s.parts (v - s.ready)
      · rw [S.old v hv (.inr (.inl hc))]; exact H.oct v hv (.inr ⟨h, hc⟩)
      · rcases h2 with h2 | h2
        · exact absurd h2 hc
        · rw [S.new v h hv h2.1 h2.2 hc, hDg _ (by omega)]
          congr 1
          omega
  · have := S.ln; have := H.pl; omega
theorem oct_shift (ring : List Nat) {n st m v : Nat} : octF ring n ((st + m) % n) v = octF ring n st (m + v) := by
  unfold octF
  rw [Nat.mod_add_mod, Nat.add_assoc]
theorem ord_read {fi : Nat} {T : List Nat} {cm : List Bool} {R i : Nat} {s : St} (H : Ord fi T cm R i s) (hT : T.length ≤ 5000) {m : Nat} (hm : m ≤ s.ready) (K' : Ok (readF s m)) : Ord fi T cm (R + m) i (readF s m) := by
  have e1 : R + m + (readF s m).ready = R + s.ready := by show R + m + (s.ready - m) = _; omega
  have hK := H.hK
  have hsz := H.sz
  refine ⟨K', H.sz, H.cl, ?_, ?_, ?_, ?_, ?_, H.pl, H.ct⟩
  · rw [e1]; exact H.nx
  · rw [e1]; exact H.hK
  · rw [e1]; exact H.cov
  · rw [e1]; exact H.bd
  · intro v hv hvc
    show octF s.ring s.sz ((s.start + m) % s.sz) v = _
    rw [oct_shift, Nat.add_assoc]
    have hv' : v < s.ready - m ∨ (s.ready - m ≤ v ∧ Cov s.parts (v - (s.ready - m))) := hvc
    have hor : m + v < s.ready ∨ (s.ready ≤ m + v ∧ Cov s.parts (m + v - s.ready)) := by
      rcases hv' with h | ⟨h, h2⟩
      · exact .inl (by omega)
      · exact .inr ⟨by omega, by rw [show m + v - s.ready = v - (s.ready - m) by omega]; exact h2⟩
    refine H.oct (m + v) ?_ hor
    rcases hor with h | ⟨h, h2⟩
    · omega
    · have := H.bd _ h2; omega
theorem ord_out {fi : Nat} {T : List Nat} {cm : List Bool} {R i : Nat} {s : St} (H : Ord fi T cm R i s) (hT : T.length ≤ 5000) {m : Nat} (hm : m ≤ s.ready) : T.take R ++ cutF s.ring s.sz s.start m = T.take (R + m) := by
  have hK := H.hK
  have hsz := H.sz
  have hlen : (cutF s.ring s.sz s.start m).length = m := cutF_len H.ok.rl
  have e : cutF s.ring s.sz s.start m = (T.drop R).take m := by
    apply List.ext_getElem
    · rw [hlen, List.length_take, List.length_drop]; omega
    · intro v h1 h2
      rw [hlen] at h1
      have h3 := cutF_get (rs := s.ring) (n := s.sz) (p := s.start) (m := m) H.ok.rl H.ok.st (by omega) v h1
      have h4 := H.oct v (by omega) (.inl (by omega))
      rw [h4] at h3
      have g1 : (cutF s.ring s.sz s.start m).getD v 0 = (cutF s.ring s.sz s.start m)[v] := by rw [List.getD_eq_getElem?_getD, List.getElem?_eq_getElem (by omega)]; rfl
      have g2 : T.getD (R + v) 0 = T[R + v]'(by omega) := by rw [List.getD_eq_getElem?_getD, List.getElem?_eq_getElem (by omega)]; rfl
      rw [g1, g2] at h3
      rw [h3, List.getElem_take, List.getElem_drop]
  rw [e, List.take_add]
theorem ord_hole {fi : Nat} {T : List Nat} {cm : List Bool} {R i : Nat} {s : St} (H : Ord fi T cm R i s) : (∀ k, k < R + s.ready → cm.getD k false = true) ∧ (R + s.ready < T.length → cm.getD (R + s.ready) false = false) := by
  constructor
  · intro k hk
    exact (H.cov k (by have := H.hK; omega)).2 (.inl hk)
  · intro h
    have h1 := H.cov _ h
    rw [Nat.sub_self] at h1
    rw [← Bool.not_eq_true, h1]
    rintro (h | ⟨_, p, hp, h2, _⟩)
    · omega
    · have := (H.ok.wf.2 p hp).1; omega
theorem ord_new {fi : Nat} {T : List Nat} (hf : fi < 4294967296) : Ord fi T (List.replicate T.length false) 0 0 (newF 65536 fi) := by
  refine ⟨new_okF (by decide) (by decide) hf, rfl, List.length_replicate, ?_, Nat.zero_le _, ?_, ?_, ?_, Nat.le_refl _, Nat.le_refl _⟩
  · show fi = (fi + (0 + 0)) % 4294967296; omega
  · intro k hk
    have h1 : (List.replicate T.length false).getD k false = false := by rw [List.getD_eq_getElem?_getD, List.getElem?_replicate]; split <;> rfl
    rw [h1]
    constructor
    · intro h; cases h
    · rintro (h | ⟨_, p, hp, _⟩)
      · have : k < 0 + 0 := h; omega
      · exact absurd hp List.not_mem_nil
  · rintro j ⟨p, hp, _⟩; exact absurd hp List.not_mem_nil
  · rintro v _ (h | ⟨_, p, hp, _⟩)
    · exact absurd (show v < 0 from h) (by omega)
    · exact absurd hp List.not_mem_nil
end Go.Proofs.Ytknebjfdggimcaa
