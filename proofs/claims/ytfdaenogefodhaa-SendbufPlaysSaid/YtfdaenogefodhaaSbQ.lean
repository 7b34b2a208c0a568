/- Sendbuf: a call of both buffers, in one word. -/
import Derived.Test.YtfdaenogefodhaaSbR
namespace Go.Proofs.Ytfdaenogefodhaa
open Go.RowKit Go.Proofs.Ytfdaenogefodhaa.Sb

theorem slice_both {B g G n : Nat} (K : BufOk B g G n) (un q k : Int) (xs : List Nat) (hx : xs.length ≤ n) : ∃ (ys : List Nat) (E : Int), ys.length ≤ 1048576 ∧
    (∀ w, BufAt B g G n un xs w → Calls Try.prog 21 #[.pointer (some ⟨g, 0, none⟩), .int .u32 q, .int .i64 k] w fun e w' => (∃ a c, e = .returned (.tuple #[.slice a ys.length c, .int .i64 E]) ∧ OwnSl w.heap.size a ys c w') ∧ Below w.heap.size w w') ∧
    (∀ (C gb : Nat) (R : Nat → Prop) w, RbAt C R gb n un xs w → Calls Try.prog 22 #[.pointer (some ⟨gb, 0, none⟩), .int .u32 q, .int .i64 k] w fun e w' => (∃ a c, e = .returned (.tuple #[.slice a ys.length c, .int .i64 E]) ∧ Bts w' a ys) ∧ Below w.heap.size w w') := by
  have n1 := K.n1
  by_cases hk : k < 0
  · refine ⟨[], 4, by simp, fun w h => ?_, fun C gb R w h => ?_⟩
    · obtain ⟨st, rs, hB, _, _⟩ := h
      refine (slice_rng g G n st _ un q k w hB hk).mono ?_
      rintro e w' ⟨rfl, rfl⟩
      exact ⟨⟨none, 0, rfl, own_nil _ _⟩, Below.refl _ _⟩
    · refine (rslice_rng w h hk).mono ?_
      rintro e w' ⟨rfl, rfl⟩
      exact ⟨⟨none, 0, rfl, Bts.nil _ _⟩, Below.refl _ _⟩
  · obtain ⟨d, hd⟩ : ∃ d, df q un = d := ⟨_, rfl⟩
    have hb := df_bd q un
    rw [hd] at hb
    by_cases hle : d ≤ xs.length
    · obtain ⟨dn, rfl⟩ : ∃ z : Nat, d = z := ⟨d.toNat, by omega⟩
      obtain ⟨m, hm⟩ : ∃ m : Nat, min k ((xs.length : Int) - (dn : Int)) = (m : Int) := ⟨(min k ((xs.length : Int) - (dn : Int))).toNat, by omega⟩
      have hl : ((xs.drop dn).take m).length = m := by rw [List.length_take, List.length_drop]; omega
      refine ⟨(xs.drop dn).take m, 0, by omega, fun w h => ?_, fun C gb R w h => ?_⟩
      · rw [hl]
        refine (slice_at w K h (by omega) hd (by omega) hm).mono ?_
        rintro e w' ⟨⟨a, rfl, o⟩, b⟩
        exact ⟨⟨a, m, rfl, o⟩, b⟩
      · rw [hl]
        refine (rslice_at w h (by omega) (by omega) hd (by omega) hm).mono ?_
        rintro e w' ⟨⟨a, c, rfl, o, _⟩, b⟩
        exact ⟨⟨a, c, rfl, o⟩, b⟩
    · refine ⟨[], 151, by simp, fun w h => ?_, fun C gb R w h => ?_⟩
      · obtain ⟨st, rs, hB, _, _⟩ := h
        refine (slice_seq g G n st _ un q k d w hB (by omega) hd hle).mono ?_
        rintro e w' ⟨rfl, b⟩
        exact ⟨⟨none, 0, rfl, own_nil _ _⟩, b⟩
      · refine (rslice_seq w h (by omega) hd hle).mono ?_
        rintro e w' ⟨rfl, rfl⟩
        exact ⟨⟨none, 0, rfl, Bts.nil _ _⟩, Below.refl _ _⟩

theorem ack_both {B g G n : Nat} (K : BufOk B g G n) (un q : Int) (xs : List Nat) (hx : xs.length ≤ n) (hu : 0 ≤ un ∧ un < 4294967296) (hq : 0 ≤ q ∧ q < 4294967296) : ∃ (d E un' : Int) (xs' : List Nat), xs'.length ≤ n ∧ (0 ≤ un' ∧ un' < 4294967296) ∧
    (∀ w, BufAt B g G n un xs w → Calls Try.prog 24 #[.pointer (some ⟨g, 0, none⟩), .int .u32 q] w fun e w' => e = .returned (.tuple #[.int .i64 d, .int .i64 E]) ∧ BufAt B g G n un' xs' w' ∧ Turns (fun k => k = g ∨ k = G) w w') ∧
    (∀ (C gb : Nat) (R : Nat → Prop) w, gb < C → RbAt C R gb n un xs w → Calls Try.prog 25 #[.pointer (some ⟨gb, 0, none⟩), .int .u32 q] w fun e w' => e = .returned (.tuple #[.int .i64 d, .int .i64 E]) ∧ RbAt C R gb n un' xs' w' ∧ Turns (fun k => k = gb) w w') := by
  have n1 := K.n1
  obtain ⟨d, hd⟩ : ∃ d, df q un = d := ⟨_, rfl⟩
  have hb := df_bd q un
  rw [hd] at hb
  by_cases hle : d ≤ xs.length
  · obtain ⟨dn, rfl⟩ : ∃ z : Nat, d = z := ⟨d.toNat, by omega⟩
    refine ⟨dn, 0, q, xs.drop dn, by rw [List.length_drop]; omega, hq, fun w h => ?_, fun C gb R w hgC h => ?_⟩
    · exact ack_at w K h hd (by omega)
    · exact rack_at w h hgC (by omega) hd (by omega)
  · refine ⟨0, 151, un, xs, hx, hu, fun w h => ?_, fun C gb R w hgC h => ?_⟩
    · exact ack_no w K h hd hle
    · refine (rack_no w h hd hle).mono ?_
      rintro e w' ⟨rfl, rfl⟩
      exact ⟨rfl, h, Turns.refl _ _⟩
end Go.Proofs.Ytfdaenogefodhaa
