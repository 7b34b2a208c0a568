/- Prr: what may be, by the document. -/
import Derived.Test.YtlkpcojhpndieaaPrR
import Derived.Test.YtlkpcojhpndieaaGStore
import Derived.RegionTactic
namespace Go.Proofs.Ytlkpcojhpndieaa
open Go.RowKit Go.Proofs.Ytlkpcojhpndieaa.Pr

set_option maxHeartbeats 2000000 in
theorem rrmay_yes (d a i r k : Int) (w : World) (h : RV d a i r k) :
    Calls Try.prog 25 #[.agg #[.int .i64 d, .int .i64 a, .int .i64 i, .int .i64 r, .int .i64 k]] w fun e w' => e = .returned (.bool true) ∧ Below w.heap.size w w' := by
  obtain ⟨⟨d0, d1⟩, ⟨a0, a1⟩, ⟨i0, i1⟩, ⟨r0, r1⟩, k0, k1⟩ := h
  have h1 := inb_true d0 d1
  have h2 := inb_true a0 a1
  have h3 := inb_true i0 i1
  have h4 := inb_true r0 r1
  have h5 := inb_true k0 k1
  go_enter Try.func25, Try.ntmps25
  go_wp2_with (go_at_call 26; refine (tick_any _ _).mono ?_; rintro e w' ⟨rfl, rfl⟩)
  go_ret
  refine ⟨rfl, ?_⟩
  (repeat' (first | (with_reducible exact Below.refl _ _) | (with_reducible refine Below.alloc ?_ ?_ _) | (with_reducible refine Below.setCell ?_ ?_ _) | (with_reducible refine Below.drew ?_) | (with_reducible refine below_drewN ?_ _) | omega | (dsimp only; omega) | (simp; done) | (simp; omega)))

set_option maxHeartbeats 2000000 in
theorem rrmay_no (d a i r k : Int) (w : World) (h : ¬ RV d a i r k) :
    Calls Try.prog 25 #[.agg #[.int .i64 d, .int .i64 a, .int .i64 i, .int .i64 r, .int .i64 k]] w fun e w' => e = .returned (.bool false) ∧ Below w.heap.size w w' := by
  have hb : ¬ (inb d 0 1099511627776 = true ∧ inb k 0 1099511627776 = true ∧ inb a 0 1099511627776 = true ∧ inb i 0 1099511627776 = true ∧ inb r 0 1099511627776 = true) := by
    simp only [inb_iff]; intro hb; exact h ⟨hb.1, hb.2.2.1, hb.2.2.2.1, hb.2.2.2.2, hb.2.1⟩
  have HB := Lib.hid hb
  clear hb h
  cases h1 : inb d 0 1099511627776
  case false =>
    go_enter Try.func25, Try.ntmps25
    go_wp2_with (go_at_call 26; refine (tick_any _ _).mono ?_; rintro e w' ⟨rfl, rfl⟩)
    go_ret
    refine ⟨rfl, ?_⟩
    (repeat' (first | (with_reducible exact Below.refl _ _) | (with_reducible refine Below.alloc ?_ ?_ _) | (with_reducible refine Below.setCell ?_ ?_ _) | (with_reducible refine Below.drew ?_) | (with_reducible refine below_drewN ?_ _) | omega | (dsimp only; omega) | (simp; done) | (simp; omega)))
  cases h2 : inb k 0 1099511627776
  case false =>
    go_enter Try.func25, Try.ntmps25
    go_wp2_with (go_at_call 26; refine (tick_any _ _).mono ?_; rintro e w' ⟨rfl, rfl⟩)
    go_ret
    refine ⟨rfl, ?_⟩
    (repeat' (first | (with_reducible exact Below.refl _ _) | (with_reducible refine Below.alloc ?_ ?_ _) | (with_reducible refine Below.setCell ?_ ?_ _) | (with_reducible refine Below.drew ?_) | (with_reducible refine below_drewN ?_ _) | omega | (dsimp only; omega) | (simp; done) | (simp; omega)))
  cases h3 : inb a 0 1099511627776
  case false =>
    go_enter Try.func25, Try.ntmps25
    go_wp2_with (go_at_call 26; refine (tick_any _ _).mono ?_; rintro e w' ⟨rfl, rfl⟩)
    go_ret
    refine ⟨rfl, ?_⟩
    (repeat' (first | (with_reducible exact Below.refl _ _) | (with_reducible refine Below.alloc ?_ ?_ _) | (with_reducible refine Below.setCell ?_ ?_ _) | (with_reducible refine Below.drew ?_) | (with_reducible refine below_drewN ?_ _) | omega | (dsimp only; omega) | (simp; done) | (simp; omega)))
  cases h4 : inb i 0 1099511627776
  case false =>
    go_enter Try.func25, Try.ntmps25
    go_wp2_with (go_at_call 26; refine (tick_any _ _).mono ?_; rintro e w' ⟨rfl, rfl⟩)
    go_ret
    refine ⟨rfl, ?_⟩
    (repeat' (first | (with_reducible exact Below.refl _ _) | (with_reducible refine Below.alloc ?_ ?_ _) | (with_reducible refine Below.setCell ?_ ?_ _) | (with_reducible refine Below.drew ?_) | (with_reducible refine below_drewN ?_ _) | omega | (dsimp only; omega) | (simp; done) | (simp; omega)))
  cases h5 : inb r 0 1099511627776
  case false =>
    go_enter Try.func25, Try.ntmps25
    go_wp2_with (go_at_call 26; refine (tick_any _ _).mono ?_; rintro e w' ⟨rfl, rfl⟩)
    go_ret
    refine ⟨rfl, ?_⟩
    (repeat' (first | (with_reducible exact Below.refl _ _) | (with_reducible refine Below.alloc ?_ ?_ _) | (with_reducible refine Below.setCell ?_ ?_ _) | (with_reducible refine Below.drew ?_) | (with_reducible refine below_drewN ?_ _) | omega | (dsimp only; omega) | (simp; done) | (simp; omega)))
  exact absurd ⟨h1, h2, h3, h4, h5⟩ HB.out

end Go.Proofs.Ytlkpcojhpndieaa
