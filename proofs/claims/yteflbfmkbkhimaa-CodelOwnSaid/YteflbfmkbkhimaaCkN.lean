/- Codel: what a turn's box, its queue and its dropped packets hold; behind 'take'. -/
import Derived.Test.YteflbfmkbkhimaaCkV
namespace Go.Proofs.Yteflbfmkbkhimaa
open Go.RowKit

structure TG (g : Nat) (w : World) (t : Tn) : Prop where
  L : Sts 4 KC Tr w t.qa t.ql
  bg : ∀ b o, t.qa = some ⟨b, o, none⟩ → t.ql ≠ [] → b < g
  cap : t.ql.length ≤ t.qc ∧ t.qc ≤ maxLen
  v : PkV t.ql
  O : OwnR 30 4 KC (g + 1) t.da t.dl t.dc w
  now : 0 ≤ t.now ∧ t.now ≤ 2199023255552
  iv : 1 ≤ t.iv ∧ t.iv ≤ 1073741824
  oc : t.oc = sumS t.ql
theorem sts_apart {w w' : World} {a : Option Addr} {l : List Pkt} {r : Option Nat} (h : Sts 4 KC Tr w a l) (hg : w.grownBy w' r) (hne : ∀ b o, a = some ⟨b, o, none⟩ → l ≠ [] → some b ≠ r) : Sts 4 KC Tr w' a l := by
  refine ⟨fun _ _ => trivial, ?_⟩
  by_cases hl0 : l = []
  · exact .inl hl0
  rcases h.2 with h0 | ⟨b, o, e, hb, hc⟩
  · exact .inl h0
  · refine .inr ⟨b, o, e, Nat.lt_of_lt_of_le hb hg.size, fun i r hr j v hv => ?_⟩
    have h1 := hc i r hr j v hv
    simp only [World.cell?] at h1 ⊢
    rw [hg.block b hb (hne b o e hl0)]
    exact h1
theorem sts_below {w w' : World} {a : Option Addr} {l : List Pkt} {g : Nat} (h : Sts 4 KC Tr w a l) (hg : Below g w w') (hne : ∀ b o, a = some ⟨b, o, none⟩ → l ≠ [] → b < g) : Sts 4 KC Tr w' a l := by
  refine ⟨fun _ _ => trivial, ?_⟩
  by_cases hl0 : l = []
  · exact .inl hl0
  rcases h.2 with h0 | ⟨b, o, e, hb, hc⟩
  · exact .inl h0
  · refine .inr ⟨b, o, e, Nat.lt_of_lt_of_le hb hg.size, fun i r hr j v hv => ?_⟩
    have h1 := hc i r hr j v hv
    simp only [World.cell?] at h1 ⊢
    rw [hg.block b (hne b o e hl0)]
    exact h1
theorem next_sts {w : World} {a : Option Addr} {c : Nat} {x : Pkt} {r : List Pkt} (h : Sts 4 KC Tr w a (x :: r)) (hc : r.length + 1 ≤ c) : Sts 4 KC Tr w (nextA a c) r ∧ ∀ b o, nextA a c = some ⟨b, o, none⟩ → ∃ o', a = some ⟨b, o', none⟩ := by
  obtain ⟨b, o, rfl, hb, hx⟩ := h.isSomeT (by simp)
  unfold nextA
  by_cases h1 : c ≤ 1
  · rw [if_pos h1]
    have : r = [] := List.eq_nil_of_length_eq_zero (by omega)
    subst this
    exact ⟨Sts.nil _ _, fun b' o' e => ⟨o', e⟩⟩
  · rw [if_neg h1]
    exact ⟨pk_tail h, fun b' o' e => ⟨o, by cases e; rfl⟩⟩
theorem TG.congr {g : Nat} {w : World} {t u : Tn} (h : TG g w t) (h1 : u.qa = t.qa) (h2 : u.ql = t.ql) (h3 : u.qc = t.qc) (h4 : u.da = t.da) (h5 : u.dl = t.dl) (h6 : u.dc = t.dc) (h7 : u.now = t.now) (h8 : u.iv = t.iv) (h9 : u.oc = t.oc) : TG g w u :=
  ⟨by rw [h1, h2]; exact h.L, by rw [h1, h2]; exact h.bg, by rw [h2, h3]; exact h.cap, by rw [h2]; exact h.v, by rw [h4, h5, h6]; exact h.O, by rw [h7]; exact h.now, by rw [h8]; exact h.iv, by rw [h9, h2]; exact h.oc⟩
theorem TG.grown {g : Nat} {w w' : World} {t : Tn} (h : TG g w t) (hg : w.grownBy w' (some g)) : TG g w' t :=
  ⟨sts_apart h.L hg (fun b o e el => by have := h.bg b o e el; intro e2; have := Option.some.inj e2; omega), h.bg, h.cap, h.v, h.O.grown hg (fun k e => by
    have h2 := h.O.ownB k
    rcases h.O with ⟨h0, _, _⟩ | ⟨g2, h0, hB, _⟩
    · rw [h0] at e; cases e
    · rw [h0] at e; cases e; intro e2; have := Option.some.inj e2; omega), h.now, h.iv, h.oc⟩
theorem TG.take {g : Nat} {w w' : World} {t : Tn} (h : TG g w t) (hg : w.grownBy w' (some g)) : TG g w' (takeF t) := by
  have h' := h.grown hg
  cases hq : t.ql with
  | nil => rw [takeF_nil hq]; exact h'.congr rfl rfl rfl rfl rfl rfl rfl rfl rfl
  | cons x r =>
    rw [takeF_cons hq]
    have hL := h'.L
    have hc := h.cap
    have hv := h.v
    have ho := h.oc
    rw [hq] at hL hc hv ho
    simp only [List.length_cons] at hc
    obtain ⟨n1, n2⟩ := next_sts hL hc.1
    have hu : TG g w' (takeU t x r) := ⟨n1, fun b o e _ => by obtain ⟨o', e'⟩ := n2 b o e; exact h.bg b o' e' (by rw [hq]; simp), ⟨show r.length ≤ t.qc - 1 by omega, show t.qc - 1 ≤ maxLen by omega⟩, fun y hy => hv y (List.mem_cons_of_mem _ hy), h'.O, h.now, h.iv, show t.oc - x.sz = sumS r by rw [ho]; simp only [sumS]; omega⟩
    unfold takeN
    split
    · exact hu.congr rfl rfl rfl rfl rfl rfl rfl rfl rfl
    · split
      · exact hu.congr rfl rfl rfl rfl rfl rfl rfl rfl rfl
      · exact hu.congr rfl rfl rfl rfl rfl rfl rfl rfl rfl
theorem gr_low {w w' : World} {g : Nat} (h : w.grownBy w' (some g)) (hg : g ≤ w.heap.size) : Below g w w' := (Below.refl g w).grown h hg (fun k e => by have := Option.some.inj e; omega)
set_option maxRecDepth 100000 in
/-- 'take' over all that a turn holds. -/
theorem take_tg (t : Tn) (g : Nat) (w : World) (hS : w.heap[g]? = some (.cells #[.int .i64 t.tg, .int .i64 t.iv, .int .i64 t.mtu, .bool t.above, .int .i64 t.aboveAt, .bool t.dropping, .int .i64 t.nx, .int .i64 t.cn, .int .i64 t.la, .bool t.has, .int .i64 t.out.tick, .int .i64 t.out.sz, .bool t.out.ect, .int .i64 t.out.id, .bool t.marked, .slice t.da t.dl.length t.dc, .int .i64 t.left, .slice t.qa t.ql.length t.qc, .int .i64 t.oc, .int .i64 t.now, .bool t.ripe] 50 (0, 0))) (h : TG g w t) (hl : t.ql.length ≤ 4398046510976) :
    Calls Try.prog 16 #[.pointer (some ⟨g, 0, none⟩)] w fun z w' => z = .returned (.tuple #[]) ∧ w'.heap[g]? = some (.cells #[.int .i64 (takeF t).tg, .int .i64 (takeF t).iv, .int .i64 (takeF t).mtu, .bool (takeF t).above, .int .i64 (takeF t).aboveAt, .bool (takeF t).dropping, .int .i64 (takeF t).nx, .int .i64 (takeF t).cn, .int .i64 (takeF t).la, .bool (takeF t).has, .int .i64 (takeF t).out.tick, .int .i64 (takeF t).out.sz, .bool (takeF t).out.ect, .int .i64 (takeF t).out.id, .bool (takeF t).marked, .slice (takeF t).da (takeF t).dl.length (takeF t).dc, .int .i64 (takeF t).left, .slice (takeF t).qa (takeF t).ql.length (takeF t).qc, .int .i64 (takeF t).oc, .int .i64 (takeF t).now, .bool (takeF t).ripe] 50 (0, 0)) ∧ TG g w' (takeF t) ∧ w.grownBy w' (some g) :=
  (take_any t g w hS h.L h.v h.cap (fun b o e el => by have := h.bg b o e el; omega) h.now h.oc (by omega) ⟨by have := h.iv.1; omega, h.iv.2⟩).mono (fun _ _ ⟨h1, h2, h3⟩ => ⟨h1, h2, h.take h3, h3⟩)
end Go.Proofs.Yteflbfmkbkhimaa
