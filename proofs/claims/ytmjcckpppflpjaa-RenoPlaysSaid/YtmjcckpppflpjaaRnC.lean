/- Reno: Check, and the three events. -/
import Derived.Test.YtmjcckpppflpjaaRnE
import Derived.ProofKit
namespace Go.Proofs.Ytmjcckpppflpjaa
open Go.RowKit Go.Proofs.Ytmjcckpppflpjaa.Rn

set_option maxHeartbeats 400000 in
theorem oct_any (n : Int) (w : World)  :
    Calls Try.prog 27 #[.int .i64 n] w fun e w' => e = .returned (.bool (inb n 0 1073741824)) ∧ w = w' := by
  by_cases h1 : 0 ≤ n
  · by_cases h2 : n ≤ 1073741824
    · rw [inb_true h1 h2]
      go_enter Try.func27, Try.ntmps27
      go_wp2
      go_ret
      exact ⟨rfl, rfl⟩
    · rw [inb_not.2 (fun h => h2 h.2)]
      go_enter Try.func27, Try.ntmps27
      go_wp2
      go_ret
      exact ⟨rfl, rfl⟩
  · rw [inb_not.2 (fun h => h1 h.1)]
    go_enter Try.func27, Try.ntmps27
    go_wp2
    go_ret
    exact ⟨rfl, rfl⟩

set_option maxHeartbeats 2000000 in
theorem check_yes (c t a m : Int) (w : World) (hM : MV m) (hS : SV c t a m) :
    Calls Try.prog 16 #[.agg #[.int .i64 c, .int .i64 t, .int .i64 a], .int .i64 m] w fun e w' => e = .returned (.int .i64 0) ∧ Below w.heap.size w w' := by
  obtain ⟨m0, m1⟩ := hM
  obtain ⟨⟨c0, c1⟩, ⟨t0, t1⟩, a0, a1⟩ := hS
  have h1 := inb_true a0 a1
  go_enter Try.func16, Try.ntmps16
  go_wp2_with (go_at_call 27; refine (oct_any _ _).mono ?_; rintro e w' ⟨rfl, rfl⟩)
  go_ret
  refine ⟨rfl, ?_⟩
  (repeat' (first | (with_reducible exact Below.refl _ _) | (with_reducible refine Below.alloc ?_ ?_ _) | (with_reducible refine Below.setCell ?_ ?_ _) | (with_reducible refine Below.drew ?_) | (with_reducible refine below_drewN ?_ _) | omega | (dsimp only; omega) | (simp; done) | (simp; omega)))

set_option maxHeartbeats 2000000 in
theorem check_m (c t a m : Int) (w : World) (hM : ¬ MV m) :
    Calls Try.prog 16 #[.agg #[.int .i64 c, .int .i64 t, .int .i64 a], .int .i64 m] w fun e w' => e = .returned (.int .i64 4) ∧ Below w.heap.size w w' := by
  have hM' : m < 1 ∨ 65535 < m := by unfold MV at hM; omega
  clear hM
  rcases hM' with h | h
  · go_enter Try.func16, Try.ntmps16
    go_wp2
    go_ret
    refine ⟨rfl, ?_⟩
    (repeat' (first | (with_reducible exact Below.refl _ _) | (with_reducible refine Below.alloc ?_ ?_ _) | (with_reducible refine Below.setCell ?_ ?_ _) | (with_reducible refine Below.drew ?_) | (with_reducible refine below_drewN ?_ _) | omega | (dsimp only; omega) | (simp; done) | (simp; omega)))
  · by_cases h1 : m < 1
    · omega
    go_enter Try.func16, Try.ntmps16
    go_wp2
    go_ret
    refine ⟨rfl, ?_⟩
    (repeat' (first | (with_reducible exact Below.refl _ _) | (with_reducible refine Below.alloc ?_ ?_ _) | (with_reducible refine Below.setCell ?_ ?_ _) | (with_reducible refine Below.drew ?_) | (with_reducible refine below_drewN ?_ _) | omega | (dsimp only; omega) | (simp; done) | (simp; omega)))

set_option maxHeartbeats 2000000 in
theorem check_s (c t a m : Int) (w : World) (hM : MV m) (hS : ¬ SV c t a m) :
    Calls Try.prog 16 #[.agg #[.int .i64 c, .int .i64 t, .int .i64 a], .int .i64 m] w fun e w' => e = .returned (.int .i64 171) ∧ Below w.heap.size w w' := by
  obtain ⟨m0, m1⟩ := hM
  have hb : ¬ ((m ≤ c ∧ c ≤ 1073741824) ∧ (1 ≤ t ∧ t ≤ 1073741824) ∧ inb a 0 1073741824 = true) := by
    rw [inb_iff]; exact hS
  have HB := Lib.hid hb
  clear hb hS
  go_enter Try.func16, Try.ntmps16
  go_wp2_with (go_at_call 27; refine (oct_any _ _).mono ?_; rintro e w' ⟨rfl, rfl⟩)
  all_goals
    first
    | (exfalso; have h2 := HB.out; simp_all; omega)
    | (exfalso; have h2 := HB.out; simp_all; done)
    | (go_ret
       refine ⟨rfl, ?_⟩
       (repeat' (first | (with_reducible exact Below.refl _ _) | (with_reducible refine Below.alloc ?_ ?_ _) | (with_reducible refine Below.setCell ?_ ?_ _) | (with_reducible refine Below.drew ?_) | (with_reducible refine below_drewN ?_ _) | omega | (dsimp only; omega) | (simp; done) | (simp; omega))))

end Go.Proofs.Ytmjcckpppflpjaa
