/- Routes: dropping a route: the mathematics; the program's Len, Drop. -/
import Derived.Test.YtinlacdngojlaaaRtDoc
namespace Go.Proofs.Ytinlacdngojlaaa
open Go.RowKit Go.Maps Go.Proofs.Ytinlacdngojlaaa.Rt

/-- No two routes of one net. -/
def UK (L : List Route10) : Prop := L.Pairwise fun a b => ¬ (a.net = b.net ∧ a.bits = b.bits)
theorem rlook_app (A B : List Route10) (n : Nat) (b : Int) : rlook (A ++ B) n b = (rlook A n b).or (rlook B n b) := by
  unfold rlook
  rw [List.find?_append]
  cases A.find? (fun r => r.net == n && r.bits == b) <;> simp
theorem rlook_cons (r : Route10) (B : List Route10) (n : Nat) (b : Int) : rlook (r :: B) n b = if n = r.net ∧ b = r.bits then some r.gw else rlook B n b := by
  unfold rlook
  rw [List.find?_cons]
  by_cases h : n = r.net ∧ b = r.bits
  · obtain ⟨rfl, rfl⟩ := h; simp
  · rw [if_neg h]
    have : (r.net == n && r.bits == b) = false := by
      rw [Bool.and_eq_false_iff, beq_eq_false_iff_ne, beq_eq_false_iff_ne]
      by_cases h1 : r.net = n
      · right; intro h2; exact h ⟨h1.symm, h2.symm⟩
      · left; exact h1
    rw [this]
theorem rlook_some_mem {L : List Route10} {n : Nat} {b : Int} (h : rlook L n b ≠ none) : ∃ r ∈ L, r.net = n ∧ r.bits = b := by
  cases hh : rlook L n b with
  | none => exact absurd hh h
  | some g => obtain ⟨r, h1, h2, h3, _⟩ := rlook_mem hh; exact ⟨r, h1, h2, h3⟩
theorem drop_look {A B : List Route10} {r : Route10} (h : UK (A ++ r :: B)) (n : Nat) (b : Int) : rlook (A ++ B) n b = if n = r.net ∧ b = r.bits then none else rlook (A ++ r :: B) n b := by
  rw [rlook_app, rlook_app, rlook_cons]
  have h1 := List.pairwise_append.1 h
  by_cases e : n = r.net ∧ b = r.bits
  · obtain ⟨rfl, rfl⟩ := e
    rw [if_pos ⟨rfl, rfl⟩]
    have hA : rlook A r.net r.bits = none := by
      by_cases hh : rlook A r.net r.bits = none
      · exact hh
      · obtain ⟨x, hx, e1, e2⟩ := rlook_some_mem hh
        exact absurd ⟨e1, e2⟩ (h1.2.2 x hx r (by simp))
    have hB : rlook B r.net r.bits = none := by
      by_cases hh : rlook B r.net r.bits = none
      · exact hh
      · obtain ⟨x, hx, e1, e2⟩ := rlook_some_mem hh
        exact absurd ⟨e1.symm, e2.symm⟩ ((List.pairwise_cons.1 h1.2.1).1 x hx)
    rw [hA, hB]; rfl
  · rw [if_neg e, if_neg e]
theorem uk_drop {A B : List Route10} {r : Route10} (h : UK (A ++ r :: B)) : UK (A ++ B) := by
  have h1 := List.pairwise_append.1 h
  exact List.pairwise_append.2 ⟨h1.1, (List.pairwise_cons.1 h1.2.1).2, fun a ha b hb => h1.2.2 a ha b (List.mem_cons_of_mem _ hb)⟩
theorem uk_snoc {L : List Route10} {r : Route10} (h : UK L) (hl : rlook L r.net r.bits = none) : UK (L ++ [r]) := by
  refine List.pairwise_append.2 ⟨h, List.pairwise_singleton _ _, fun a ha b hb => ?_⟩
  obtain rfl := List.mem_singleton.1 hb
  rintro ⟨e1, e2⟩
  have hh : rlook L b.net b.bits ≠ none := by
    intro hn
    unfold rlook at hn
    rw [Option.map_eq_none_iff, List.find?_eq_none] at hn
    have := hn a ha
    simp [e1, e2] at this
  exact hh hl
theorem uk_add {L : List Route10} (h : UK L) (r : Route10) : UK (addL L r) := by
  unfold addL
  split
  · rename_i he; exact uk_snoc h (addE_zero.1 he).2.2.1
  · exact h
theorem rgood_drop {A B : List Route10} {r : Route10} (h : RGood (A ++ r :: B)) (hu : UK (A ++ r :: B)) : RGood (A ++ B) := by
  intro x hx
  have hx2 : x ∈ A ++ r :: B := by
    rcases List.mem_append.1 hx with hx | hx
    · exact List.mem_append_left _ hx
    · exact List.mem_append_right _ (List.mem_cons_of_mem _ hx)
  obtain ⟨h1, h2, h3, h4⟩ := h x hx2
  refine ⟨h1, h2, h3, ?_⟩
  rw [drop_look hu, if_neg, h4]
  rintro ⟨e1, e2⟩
  have h5 := List.pairwise_append.1 hu
  rcases List.mem_append.1 hx with hx | hx
  · exact h5.2.2 x hx r (by simp) ⟨e1, e2⟩
  · exact (List.pairwise_cons.1 h5.2.1).1 x hx ⟨e1.symm, e2.symm⟩
theorem tabD_del {D : DataW Unit} {A B : List Route10} {r : Route10} (h : TabD D (A ++ r :: B)) (hD : Tidy D) (hn : r.net < 4294967296) (h1 : -9223372036854775808 ≤ r.bits) (h2 : r.bits ≤ 9223372036854775807) (hu : UK (A ++ r :: B)) : TabD (D.del (rtKey r.net r.bits)) (A ++ B) := by
  have hsome : (rlook (A ++ r :: B) r.net r.bits).isSome = true := by
    rw [rlook_app, rlook_cons, if_pos ⟨rfl, rfl⟩]
    cases rlook A r.net r.bits <;> rfl
  have hyes : Maps.has D (rtKey r.net r.bits) = true := by rw [(h.2 _ _ hn h1 h2).1]; exact hsome
  refine ⟨?_, fun n b hn' h1' h2' => ?_⟩
  · have := size_del (k := rtKey r.net r.bits) hD
    rw [if_pos hyes, h.1] at this
    simp only [List.length_append, List.length_cons] at this ⊢
    omega
  · rw [drop_look hu]
    by_cases e : n = r.net ∧ b = r.bits
    · obtain ⟨rfl, rfl⟩ := e
      rw [if_pos ⟨rfl, rfl⟩, has_del_same]
      exact ⟨rfl, fun g hg => by cases hg⟩
    · have hne : rtKey n b ≠ rtKey r.net r.bits := fun he => e (rtKey_inj hn' h1' h2' hn h1 h2 he)
      rw [if_neg e, has_del_other hne]
      refine ⟨(h.2 n b hn' h1' h2').1, fun g hg => ?_⟩
      rw [atKey_del_other hne]
      exact (h.2 n b hn' h1' h2').2 g hg
set_option maxRecDepth 100000 in
set_option maxHeartbeats 400000 in
theorem len_any (W : World) (g gm : Nat) (L : List Route10) (h : TabAt W g gm L) : Calls Try.prog 14 #[.pointer (some ⟨g, 0, none⟩)] W fun e w' => e = .returned (.int .i64 (L.length : Nat)) ∧ W = w' := by
  obtain ⟨hb, hG, D, hD, hTD⟩ := h
  have c0 := blk_cell hb 0
  have HB := Lib.hid hb
  have HD := Lib.hid hD
  have HTD := Lib.hid hTD
  clear hb hD hTD hG
  go_enter Try.func14, Try.ntmps14
  go_wp2_with fail
  refine (made_any _ g gm HB.out).mono ?_
  rintro e w' ⟨rfl, rfl⟩
  go_wp2_with (at_len; refine wpList_len_own _ rfl _ 63 rfl 67 29 Try.underlying63 (plainElem Try.prog 29) gm L.length D rfl HD.out ?_; rw [HTD.out.1])
  go_ret
  exact ⟨rfl, rfl⟩
end Go.Proofs.Ytinlacdngojlaaa
