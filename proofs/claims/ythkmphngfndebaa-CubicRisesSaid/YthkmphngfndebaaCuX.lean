/- Cubic: what the curve does: it never goes down, and comes from the window to what was lost at. -/
import Derived.Test.YthkmphngfndebaaCuZ
namespace Go.Proofs.Ythkmphngfndebaa.Cu

theorem cube_mono {a b : Int} (h : a ≤ b) : a * a * a ≤ b * b * b := by
  have hd : 0 ≤ b - a := by omega
  obtain ⟨k, hk⟩ : ∃ k, b - a = k := ⟨_, rfl⟩
  rw [hk] at hd
  have e : b = a + k := by omega
  subst e
  -- (a+k)^3 - a^3 = k (3a^2 + 3ak + k^2), and 4 times that is k (3 (2a + k)^2 + k^2)
  have h1 : 0 ≤ k * (3 * ((2 * a + k) * (2 * a + k)) + k * k) := by
    refine Int.mul_nonneg hd ?_
    have s1 : 0 ≤ (2 * a + k) * (2 * a + k) := by
      rcases Int.le_total 0 (2 * a + k) with h | h
      · exact Int.mul_nonneg h h
      · exact Int.mul_nonneg_of_nonpos_of_nonpos h h
    have s2 : 0 ≤ k * k := Int.mul_nonneg hd hd
    omega
  have h2 : 4 * ((a + k) * (a + k) * (a + k) - a * a * a) = k * (3 * ((2 * a + k) * (2 * a + k)) + k * k) := by
    grind
  omega
theorem up_cube (m D : Int) : up m D = 4 * m * (D * D * D) := by
  unfold up
  rw [Int.mul_assoc (4 * m) D D, Int.mul_assoc (4 * m) (D * D) D]
theorem up_mono {m a b : Int} (m0 : 1 ≤ m) (h : a ≤ b) : up m a ≤ up m b := by
  rw [up_cube, up_cube]
  exact Int.mul_le_mul_of_nonneg_left (cube_mono h) (by omega)
theorem crv_mono {o m d e : Int} (m0 : 1 ≤ m) (h : d ≤ e) : crv o m d ≤ crv o m e := by
  have h1 : cD d ≤ cD e := by unfold cD; omega
  have h2 := up_mono m0 h1
  have h3 : up m (cD d) / 10737418240 ≤ up m (cD e) / 10737418240 := Int.ediv_le_ediv (by decide) h2
  unfold crv
  omega
theorem crv_zero {o m : Int} (h : WV o) : crv o m 0 = o := by
  have h1 : up m (cD 0) = 0 := by
    rw [show cD 0 = 0 by unfold cD; omega, up_cube]; simp
  obtain ⟨h2, h3⟩ := h
  unfold crv
  rw [h1]
  omega
theorem up_neg (m k : Int) : up m (-k) = -(4 * m * (k * k * k)) := by
  rw [up_cube]
  simp only [Int.neg_mul, Int.mul_neg, Int.neg_neg]
theorem cube_cast (K : Nat) : ((K : Int) * K * K) = ((K * K * K : Nat) : Int) := by rw [Int.natCast_mul, Int.natCast_mul]
/-- At its turn's beginning the curve comes from the window. -/
theorem turn_low {o c m : Int} (hO : WV o) (hC : WV c) (hM : MV m) (hco : c ≤ o) (hk : trn o c m ≤ 29999) : c ≤ crv o m (-trn o c m) ∧ crv o m (-trn o c m - 1) ≤ c := by
  obtain ⟨o0, o1⟩ := hO
  obtain ⟨c0, c1⟩ := hC
  obtain ⟨m0, m1⟩ := hM
  obtain ⟨h1, h2, h3⟩ := cbrt_ok (tn o c m)
  have hn := tn_eq (o := o) (c := c) m0
  rw [show max (o - c) 0 = o - c by omega] at hn
  unfold trn at hk ⊢
  generalize tn o c m = n at *
  generalize cbrt n = K at *
  have hK : (K : Int) ≤ 29999 := hk
  have h3' : n < (K + 1) * (K + 1) * (K + 1) := h3.elim (fun hh => absurd hh (by omega)) id
  obtain ⟨Q, hQ⟩ : ∃ z : Int, 4 * m = z := ⟨_, rfl⟩
  have hQ0 : 0 < Q := by omega
  have e1 := Int.mul_ediv_add_emod ((o - c) * 10737418240) (4 * m)
  rw [hn, hQ] at e1
  have e2 := Int.emod_nonneg ((o - c) * 10737418240) (show 4 * m ≠ 0 by omega)
  have e3 := Int.emod_lt_of_pos ((o - c) * 10737418240) (show 0 < 4 * m by omega)
  rw [hQ] at e2 e3
  generalize (o - c) * 10737418240 % Q = r at e1 e2 e3
  constructor
  · have a1 : Q * ((K * K * K : Nat) : Int) ≤ Q * (n : Int) := Int.mul_le_mul_of_nonneg_left (by omega) (by omega)
    have a2 : up m (cD (-(K : Int))) = -(Q * ((K * K * K : Nat) : Int)) := by
      rw [show cD (-(K : Int)) = -(K : Int) by unfold cD; omega, up_neg, hQ, cube_cast]
    unfold crv
    rw [a2]
    generalize Q * ((K * K * K : Nat) : Int) = A at a1
    generalize Q * (n : Int) = B at a1 e1
    omega
  · have a1 : Q * ((n + 1 : Nat) : Int) ≤ Q * (((K + 1) * (K + 1) * (K + 1) : Nat) : Int) := Int.mul_le_mul_of_nonneg_left (by omega) (by omega)
    have a2 : up m (cD (-(K : Int) - 1)) = -(Q * (((K + 1) * (K + 1) * (K + 1) : Nat) : Int)) := by
      rw [show cD (-(K : Int) - 1) = -((K + 1 : Nat) : Int) by unfold cD; omega, up_neg, hQ, cube_cast]
    have a3 : Q * ((n + 1 : Nat) : Int) = Q * (n : Int) + Q := by rw [Int.natCast_add, Int.mul_add]; simp
    rw [a3] at a1
    unfold crv
    rw [a2]
    generalize Q * (((K + 1) * (K + 1) * (K + 1) : Nat) : Int) = A at a1
    generalize Q * (n : Int) = B at a1 e1
    omega
theorem ak_cv {x : CS} {m n v r : Int} (hM : MV m) (h : CV x m) (hA : AV n v r) : CV (ak x m n v r) m ∧ x.c ≤ (ak x m n v r).c := by
  unfold ak
  split
  · obtain ⟨h1, h2, h3⟩ := h
    obtain ⟨⟨n0, n1⟩, _⟩ := hA
    obtain ⟨m0, m1⟩ := hM
    exact ⟨⟨⟨by dsimp only; omega, by dsimp only; omega⟩, h2, h3⟩, by dsimp only; omega⟩
  · have h1 := bgo_cv hM h hA.2.1
    have h2 := go1_cv (t := tt (bgo x m v) v r) hM h1 hA.1
    refine ⟨h2.1, Int.le_trans ?_ h2.2⟩
    unfold bgo
    split
    · exact Int.le_refl _
    · exact Int.le_refl _
theorem tm_cv {x : CS} {m : Int} (hM : MV m) (h : CV x m) : CV { ls x m with c := m } m := by
  obtain ⟨h1, h2, h3⟩ := ls_cv hM h
  obtain ⟨m0, m1⟩ := hM
  exact ⟨⟨Int.le_refl _, by dsimp only; omega⟩, h2, h3⟩
theorem ls_facts {x : CS} {m : Int} (hM : MV m) (hV : CV x m) : (ls x m).c ≤ max x.c (2 * m) ∧ (ls x m).m ≤ x.c ∧ (ls x m).h = false := by
  have h1 := hV.1
  have hc := hM.1
  unfold ls
  refine ⟨?_, ?_, rfl⟩
  · dsimp only
    omega
  · dsimp only
    split
    · omega
    · exact Int.le_refl _

end Go.Proofs.Ythkmphngfndebaa.Cu
