/- Codel: the packets that are dropped or marked, by their places. -/
import Derived.Test.YteflbfmkbkhimaaCkD
namespace Go.Proofs.Yteflbfmkbkhimaa
open Go.RowKit Go.Proofs.Yteflbfmkbkhimaa.Cd

def hitL (t : Tn) : List Pkt := t.dl ++ (if t.marked = true then [t.out] else [])
structure HitOk (l : List Pkt) (tg mtu now : Int) (n i : Nat) (x : Pkt) : Prop where
  tg : tg ≤ now - x.tick
  mtu : mtu < sumS (l.drop (i + 1))
  drop : x.ect = true → ¬ i < n
  mark : x.ect = false → ¬ i = n
  room : i + 1 ≤ l.length
  tick : 0 ≤ x.tick ∧ x.tick ≤ 2199023255552
theorem TK.hits {l : List Pkt} {t : Tn} (h : TK l t) (hv : PkV l) {i : Nat} {x : Pkt} (hx : (hitL t)[i]? = some x) : HitOk l t.tg t.mtu t.now t.dl.length i x := by
  have ha := h.all
  have hm : x ∈ l → 0 ≤ x.tick ∧ x.tick ≤ 2199023255552 := fun hx => (hv x hx).1
  unfold hitL at hx
  by_cases hi : i < t.dl.length
  · rw [List.getElem?_append_left hi] at hx
    obtain ⟨h1, h2, h3⟩ := h.drop i x hx
    refine ⟨h1, h2, (fun e => by rw [h3] at e; cases e), (fun _ e => by omega), ?_, hm ?_⟩
    · rw [← ha]; simp only [List.length_append]; omega
    · rw [← ha]; exact List.mem_append_left _ (List.mem_of_getElem? hx)
  · rw [List.getElem?_append_right (by omega)] at hx
    by_cases hk : t.marked = true
    · rw [if_pos hk] at hx
      obtain ⟨k1, k2, k3, k4⟩ := h.mark hk
      obtain rfl : i = t.dl.length := by
        have := (List.getElem?_eq_some_iff.1 hx).1
        simp at this; omega
      simp at hx
      subst hx
      rw [if_pos k1] at ha
      have hd : l.drop (t.dl.length + 1) = t.ql := by
        rw [← ha, List.drop_append, List.drop_eq_nil_of_le (by omega), Nat.add_sub_cancel_left]
        rfl
      refine ⟨k3, by rw [hd, ← h.oc]; exact k4, (fun _ => by omega), (fun e => by rw [k2] at e; cases e), ?_, hm ?_⟩
      · rw [← ha]; simp only [List.length_append, List.length_cons, List.length_nil]; omega
      · rw [← ha]; simp
    · rw [if_neg hk] at hx; simp at hx
theorem sts_drop {w : World} {b off : Nat} {l : List Pkt} (h : Sts 4 KC Tr w (some ⟨b, off, none⟩) l) (n : Nat) : Sts 4 KC Tr w (some ⟨b, off + n * 4, none⟩) (l.drop n) := by
  refine ⟨fun _ _ => trivial, ?_⟩
  rcases h.2 with h0 | ⟨b', o', e, hb, hc⟩
  · left; rw [h0]; simp
  · cases e
    refine .inr ⟨b, off + n * 4, rfl, hb, fun i r hr j v hv => ?_⟩
    have := hc (n + i) r (by simpa [List.getElem?_drop] using hr) j v hv
    rw [← this]
    congr 2
    rw [Nat.add_mul]; omega
theorem sumS_drop (l : List Pkt) (i : Nat) : sumS l - sumS (l.take i) = sumS (l.drop i) := by
  have h := sumS_app (l.take i) (l.drop i)
  rw [List.take_append_drop] at h
  omega
theorem TK.len {l : List Pkt} {t : Tn} (h : TK l t) : t.dl.length + t.ql.length ≤ l.length := by
  rw [← h.all]; simp only [List.length_append]; omega
theorem hit_len {l : List Pkt} {t : Tn} (h : TK l t) : (hitL t).length ≤ l.length := by
  unfold hitL
  rw [← h.all]
  by_cases hk : t.marked = true
  · rw [if_pos hk, if_pos (h.mark hk).1]; simp only [List.length_append, List.length_cons, List.length_nil]; omega
  · rw [if_neg hk]; simp only [List.length_append, List.length_nil]; omega
theorem two (w : World) (a b : Obj) : ((w.alloc a).alloc b).heap[w.heap.size]? = some a ∧ ((w.alloc a).alloc b).heap[w.heap.size + 1]? = some b ∧ ((w.alloc a).alloc b).heap.size = w.heap.size + 1 + 1 ∧ Below w.heap.size w ((w.alloc a).alloc b) := by
  have b1 := (Below.refl w.heap.size w).alloc (Nat.le_refl _) a
  refine ⟨?_, ?_, ?_, b1.alloc b1.size b⟩
  · show ((w.heap.push a).push b)[w.heap.size]? = some a
    (repeat rw [Array.getElem?_push]); simp only [Array.size_push]; (repeat (first | rw [if_pos (by omega)] | rw [if_neg (by omega)] | rw [if_pos trivial]))
  · show ((w.heap.push a).push b)[w.heap.size + 1]? = some b
    (repeat rw [Array.getElem?_push]); simp only [Array.size_push]; (repeat (first | rw [if_pos (by omega)] | rw [if_neg (by omega)] | rw [if_pos trivial]))
  · show ((w.heap.push a).push b).size = _
    simp
end Go.Proofs.Yteflbfmkbkhimaa
