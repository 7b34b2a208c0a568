/- Cubic: the turn of the document. -/
import Derived.Test.YthkmphngfndebaaCuC
namespace Go.Proofs.Ythkmphngfndebaa
open Go.RowKit Go.Proofs.Ythkmphngfndebaa.Cu

set_option maxRecDepth 100000 in
set_option maxHeartbeats 2000000 in
theorem rturn_lt (o c m : Int) (w : World) (hO : WV o ∧ WV c) (hM : MV m) (hge : c < o) :
    Calls Try.prog 12 #[.int .i64 o, .int .i64 c, .int .i64 m] w fun e w' => e = .returned (.tuple #[.int .i64 (trn o c m), .int .i64 0]) ∧ w = w' := by
  have ht := tn_bd (m := m) hO.1 hO.2
  have he := tn_eq (o := o) (c := c) hM.1
  obtain ⟨R, hR⟩ : ∃ R, cbrt (tn o c m) = R := ⟨_, rfl⟩
  have hr : R ≤ 2642245 := by rw [← hR]; exact (cbrt_ok _).1
  have hv : trn o c m = (R : Int) := by unfold trn; rw [hR]
  rw [hv]
  obtain ⟨n, hn⟩ : ∃ n, tn o c m = n := ⟨_, rfl⟩
  rw [hn] at hR ht he
  have HR : Hid (IsC n R) := Lib.hid ⟨hR⟩
  have HO := Lib.hid hO
  have HM := Lib.hid hM
  obtain ⟨⟨o0, o1⟩, c0, c1⟩ := hO
  obtain ⟨m0, m1⟩ := hM
  rw [show max (o - c) 0 = o - c by omega, show (o - c) * 10737418240 = (o - c) * 10 * 1024 * 1024 * 1024 by omega] at he
  obtain ⟨M, hMM⟩ : ∃ M, o - c = M := ⟨_, rfl⟩
  have hM0 : 0 ≤ M ∧ M ≤ 1073741824 := by omega
  obtain ⟨M0, M1⟩ := hM0
  rw [hMM] at he
  obtain ⟨A1, hA1⟩ : ∃ z, M * 10 = z := ⟨_, rfl⟩
  obtain ⟨A2, hA2⟩ : ∃ z, A1 * 1024 = z := ⟨_, rfl⟩
  obtain ⟨A3, hA3⟩ : ∃ z, A2 * 1024 = z := ⟨_, rfl⟩
  obtain ⟨A4, hA4⟩ : ∃ z, A3 * 1024 = z := ⟨_, rfl⟩
  obtain ⟨B, hB⟩ : ∃ z, 4 * m = z := ⟨_, rfl⟩
  rw [hA1, hA2, hA3, hA4, hB] at he
  have b1 : 0 ≤ A1 ∧ A1 ≤ 10737418240 := by omega
  have b2 : 0 ≤ A2 ∧ A2 ≤ 10995116277760 := by omega
  have b3 : 0 ≤ A3 ∧ A3 ≤ 11258999068426240 := by omega
  have b4 : 0 ≤ A4 ∧ A4 ≤ 11529215046068469760 := by omega
  have W0 : wrap64 (o - c) = M := by rw [hMM]; exact IntWalk.wrap64_in _ ⟨by omega, by omega⟩
  have V0 : IntKind.u64.wrap M = M := IntWalk.u64_in _ ⟨by omega, by omega⟩
  have W1 : IntKind.u64.wrap (M * 10) = A1 := by rw [hA1]; exact IntWalk.u64_in _ ⟨by omega, by omega⟩
  have W2 : IntKind.u64.wrap (A1 * 1024) = A2 := by rw [hA2]; exact IntWalk.u64_in _ ⟨by omega, by omega⟩
  have W3 : IntKind.u64.wrap (A2 * 1024) = A3 := by rw [hA3]; exact IntWalk.u64_in _ ⟨by omega, by omega⟩
  have W4 : IntKind.u64.wrap (A3 * 1024) = A4 := by rw [hA4]; exact IntWalk.u64_in _ ⟨by omega, by omega⟩
  have W5 : wrap64 (4 * m) = B := by rw [hB]; exact IntWalk.wrap64_in _ ⟨by omega, by omega⟩
  have V5 : IntKind.u64.wrap B = B := IntWalk.u64_in _ ⟨by omega, by omega⟩
  have fz : ¬ B = 0 := by omega
  have W6 : IntKind.u64.wrap (A4.tdiv B) = (n : Int) := by rw [Int.tdiv_eq_ediv_of_nonneg b4.1, he]; exact IntWalk.u64_in _ ⟨by omega, by omega⟩
  have W7 : wrap64 (R : Int) = R := IntWalk.wrap64_in _ ⟨by omega, by omega⟩
  clear hv hn hR hA1 hA2 hA3 hA4 hB b1 b2 b3 b4 ht he hr hMM M0 M1 o0 o1 c0 c1 m0 m1
  go_enter Try.func12, Try.ntmps12
  go_wp2_with fail
  refine (rwi_yes o 0 1073741824 _ HO.out.1).mono ?_
  rintro e w' ⟨rfl, rfl⟩
  go_wp2_with fail
  refine (rwi_yes c 0 1073741824 _ HO.out.2).mono ?_
  rintro e w' ⟨rfl, rfl⟩
  go_wp2_with fail
  refine (rwi_yes m 1 65535 _ HM.out).mono ?_
  rintro e w' ⟨rfl, rfl⟩
  go_wp2_with fail
  refine (rroot_l n R HR.out _).mono ?_
  rintro e w' ⟨rfl, rfl⟩
  go_wp2
  go_ret2
  rw [W7]
  exact ⟨rfl, rfl⟩

end Go.Proofs.Ythkmphngfndebaa
