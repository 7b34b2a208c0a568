/- Prr: what may be. -/
import Derived.Test.YtlkpcojhpndieaaPrW
import Derived.Test.YtlkpcojhpndieaaPrM
import Derived.Lib.MinMax
namespace Go.Proofs.Ytlkpcojhpndieaa
open Go.RowKit Go.Proofs.Ytlkpcojhpndieaa.Pr

set_option maxHeartbeats 2000000 in
theorem smay_yes (t f d o : Int) (w : World) (h : SV t f d o) :
    Calls Try.prog 19 #[.agg #[.int .i64 t, .int .i64 f, .int .i64 d, .int .i64 o]] w fun e w' => e = .returned (.bool true) ∧ Below w.heap.size w w' := by
  have HA : Hid (InR 1 1073741824 [t, f]) := Lib.hid (inR2.2 h.1)
  have HB : Hid (InR 0 2147483648 [d, o]) := Lib.hid (inR2.2 h.2)
  clear h
  go_enter Try.func19, Try.ntmps19
  go_wp2_with fail
  refine (wn_yes 1 1073741824 [t, f] _ _ _ _ _ _ rfl rfl (by simp) (by simp) HA.out).mono ?_
  rintro e w' ⟨rfl, rfl⟩
  go_wp2_with fail
  refine (wn_yes 0 2147483648 [d, o] _ _ _ _ _ _ rfl rfl (by simp) (by simp) HB.out).mono ?_
  rintro e w' ⟨rfl, rfl⟩
  go_wp2
  go_ret
  refine ⟨rfl, ?_⟩
  (repeat' (first | (with_reducible exact Below.refl _ _) | (with_reducible refine Below.alloc ?_ ?_ _) | (with_reducible refine Below.setCell ?_ ?_ _) | (with_reducible refine Below.drew ?_) | (with_reducible refine below_drewN ?_ _) | omega | (dsimp only; omega) | (simp; done) | (simp; omega)))

set_option maxHeartbeats 2000000 in
theorem smay_no (t f d o : Int) (w : World) (h : ¬ SV t f d o) :
    Calls Try.prog 19 #[.agg #[.int .i64 t, .int .i64 f, .int .i64 d, .int .i64 o]] w fun e w' => e = .returned (.bool false) ∧ Below w.heap.size w w' := by
  by_cases hA : InR 1 1073741824 [t, f]
  · have HA := Lib.hid hA
    have HB : Hid (¬ InR 0 2147483648 [d, o]) := Lib.hid (fun hb => h ⟨inR2.1 hA, inR2.1 hb⟩)
    clear h hA
    go_enter Try.func19, Try.ntmps19
    go_wp2_with fail
    refine (wn_yes 1 1073741824 [t, f] _ _ _ _ _ _ rfl rfl (by simp) (by simp) HA.out).mono ?_
    rintro e w' ⟨rfl, rfl⟩
    go_wp2_with fail
    refine (wn_no 0 2147483648 [d, o] _ _ _ _ _ _ rfl rfl (by simp) (by simp) HB.out).mono ?_
    rintro e w' ⟨rfl, rfl⟩
    go_wp2
    go_ret
    refine ⟨rfl, ?_⟩
    (repeat' (first | (with_reducible exact Below.refl _ _) | (with_reducible refine Below.alloc ?_ ?_ _) | (with_reducible refine Below.setCell ?_ ?_ _) | (with_reducible refine Below.drew ?_) | (with_reducible refine below_drewN ?_ _) | omega | (dsimp only; omega) | (simp; done) | (simp; omega)))
  · have HA := Lib.hid hA
    clear h hA
    go_enter Try.func19, Try.ntmps19
    go_wp2_with fail
    refine (wn_no 1 1073741824 [t, f] _ _ _ _ _ _ rfl rfl (by simp) (by simp) HA.out).mono ?_
    rintro e w' ⟨rfl, rfl⟩
    go_wp2
    go_ret
    refine ⟨rfl, ?_⟩
    (repeat' (first | (with_reducible exact Below.refl _ _) | (with_reducible refine Below.alloc ?_ ?_ _) | (with_reducible refine Below.setCell ?_ ?_ _) | (with_reducible refine Below.drew ?_) | (with_reducible refine below_drewN ?_ _) | omega | (dsimp only; omega) | (simp; done) | (simp; omega)))

set_option maxHeartbeats 2000000 in
theorem rmay_yes (d a i r k : Int) (w : World) (h : RV d a i r k) :
    Calls Try.prog 24 #[.agg #[.int .i64 d, .int .i64 a, .int .i64 i, .int .i64 r, .int .i64 k]] w fun e w' => e = .returned (.bool true) ∧ Below w.heap.size w w' := by
  have HA : Hid (InR 0 1099511627776 [d, a, i, r, k]) := Lib.hid (inR5.2 h)
  clear h
  go_enter Try.func24, Try.ntmps24
  go_wp2_with fail
  refine (wn_yes 0 1099511627776 [d, a, i, r, k] _ _ _ _ _ _ rfl rfl (by simp) (by simp) HA.out).mono ?_
  rintro e w' ⟨rfl, rfl⟩
  go_wp2
  go_ret
  refine ⟨rfl, ?_⟩
  (repeat' (first | (with_reducible exact Below.refl _ _) | (with_reducible refine Below.alloc ?_ ?_ _) | (with_reducible refine Below.setCell ?_ ?_ _) | (with_reducible refine Below.drew ?_) | (with_reducible refine below_drewN ?_ _) | omega | (dsimp only; omega) | (simp; done) | (simp; omega)))

set_option maxHeartbeats 2000000 in
theorem rmay_no (d a i r k : Int) (w : World) (h : ¬ RV d a i r k) :
    Calls Try.prog 24 #[.agg #[.int .i64 d, .int .i64 a, .int .i64 i, .int .i64 r, .int .i64 k]] w fun e w' => e = .returned (.bool false) ∧ Below w.heap.size w w' := by
  have HA : Hid (¬ InR 0 1099511627776 [d, a, i, r, k]) := Lib.hid (fun hb => h (inR5.1 hb))
  clear h
  go_enter Try.func24, Try.ntmps24
  go_wp2_with fail
  refine (wn_no 0 1099511627776 [d, a, i, r, k] _ _ _ _ _ _ rfl rfl (by simp) (by simp) HA.out).mono ?_
  rintro e w' ⟨rfl, rfl⟩
  go_wp2
  go_ret
  refine ⟨rfl, ?_⟩
  (repeat' (first | (with_reducible exact Below.refl _ _) | (with_reducible refine Below.alloc ?_ ?_ _) | (with_reducible refine Below.setCell ?_ ?_ _) | (with_reducible refine Below.drew ?_) | (with_reducible refine below_drewN ?_ _) | omega | (dsimp only; omega) | (simp; done) | (simp; omega)))

set_option maxHeartbeats 2000000 in
theorem allowed_any (t f d o n p m : Int) (w : World) (hS : SV t f d o) (hA : AV n p m) :
    Calls Try.prog 21 #[.agg #[.int .i64 t, .int .i64 f, .int .i64 d, .int .i64 o], .int .i64 n, .int .i64 p, .int .i64 m] w fun e w' => e = .returned (.int .i64 (al t f d o n p m)) ∧ Below w.heap.size w w' := by
  obtain ⟨⟨⟨t0, t1⟩, f0, f1⟩, ⟨d0, d1⟩, o0, o1⟩ := hS
  obtain ⟨⟨⟨n0, n1⟩, p0, p1⟩, m0, m1⟩ := hA
  by_cases hp : t < p
  · have e1 : al t f d o n p m = (d * t + f - 1) / f - o := if_pos hp
    rw [e1]
    clear e1
    obtain ⟨b0, b1⟩ := prod_bd d0 d1 t0 t1
    obtain ⟨c0, c1⟩ := quot_bd (x := d * t + f - 1) (f := f) (by omega) f0
    have fz : (f == 0) = false := by rw [beq_eq_false_iff_ne]; omega
    go_enter Try.func21, Try.ntmps21
    go_wp2_with fail
    go_quiet (fail)
    go_wp2
    go_ret
    refine ⟨rfl, ?_⟩
    (repeat' (first | (with_reducible exact Below.refl _ _) | (with_reducible refine Below.alloc ?_ ?_ _) | (with_reducible refine Below.setCell ?_ ?_ _) | (with_reducible refine Below.drew ?_) | (with_reducible refine below_drewN ?_ _) | omega | (dsimp only; omega) | (simp; done) | (simp; omega)))
  · have e1 : al t f d o n p m = min (t - p) (max n (d - o) + m) := if_neg hp
    rw [e1]
    clear e1
    go_enter Try.func21, Try.ntmps21
    go_wp2
    go_ret
    refine ⟨rfl, ?_⟩
    (repeat' (first | (with_reducible exact Below.refl _ _) | (with_reducible refine Below.alloc ?_ ?_ _) | (with_reducible refine Below.setCell ?_ ?_ _) | (with_reducible refine Below.drew ?_) | (with_reducible refine below_drewN ?_ _) | omega | (dsimp only; omega) | (simp; done) | (simp; omega)))

end Go.Proofs.Ytlkpcojhpndieaa
