/- Reno: each call by one word; the page's example. -/
import Derived.Test.YtmjcckpppflpjaaRnP
import Derived.Test.YtmjcckpppflpjaaRnR
namespace Go.Proofs.Ytmjcckpppflpjaa
open Go.RowKit Go.Proofs.Ytmjcckpppflpjaa.Rn

theorem num_any (n : Int) (w : World) : Calls Try.prog 15 #[.int .i64 n] w fun e w' => e = .returned (.int .i64 n) ∧ w = w' := by
  go_enter Try.func15, Try.ntmps15
  go_wp2
  go_ret
  exact ⟨rfl, rfl⟩

theorem aE_ok {c t a m n : Int} (hM : MV m) (hS : SV c t a m) (hN : NV n) : aE c t a m n = 0 := by rw [aE, if_pos hM, if_pos hS, if_pos hN]
theorem aE_n {c t a m n : Int} (hM : MV m) (hS : SV c t a m) (hN : ¬ NV n) : aE c t a m n = 4 := by rw [aE, if_pos hM, if_pos hS, if_neg hN]
theorem aE_s {c t a m n : Int} (hM : MV m) (hS : ¬ SV c t a m) : aE c t a m n = 171 := by rw [aE, if_pos hM, if_neg hS]
theorem aE_m {c t a m n : Int} (hM : ¬ MV m) : aE c t a m n = 4 := by rw [aE, if_neg hM]

theorem ack_any (c t a m n : Int) (w : World) : Calls Try.prog 7 #[.agg #[.int .i64 c, .int .i64 t, .int .i64 a], .int .i64 m, .int .i64 n] w fun e w' => e = .returned (.tuple #[.agg #[.int .i64 (kC (aE c t a m n) c t a m n), .int .i64 (kT (aE c t a m n) t), .int .i64 (kA (aE c t a m n) c t a n)], .int .i64 (aE c t a m n)]) ∧ Below w.heap.size w w' := by
  by_cases hM : MV m
  · by_cases hS : SV c t a m
    · by_cases hN : NV n
      · rw [aE_ok hM hS hN]
        by_cases hct : c < t
        · rw [show kC 0 c t a m n = min (c + min n m) 1073741824 by rw [kC, if_pos rfl, if_pos hct], show kT 0 t = t by rw [kT, if_pos rfl], show kA 0 c t a n = a by rw [kA, if_pos rfl, if_pos hct]]
          exact ack_slow c t a m n w hM hS hN hct
        · by_cases hup : c ≤ min (a + n) 1073741824
          · rw [show kC 0 c t a m n = min (c + m) 1073741824 by rw [kC, if_pos rfl, if_neg hct, if_pos hup], show kT 0 t = t by rw [kT, if_pos rfl], show kA 0 c t a n = min (a + n) 1073741824 - c by rw [kA, if_pos rfl, if_neg hct, if_pos hup]]
            exact ack_up c t a m n w hM hS hN (by omega) hup
          · rw [show kC 0 c t a m n = c by rw [kC, if_pos rfl, if_neg hct, if_neg hup], show kT 0 t = t by rw [kT, if_pos rfl], show kA 0 c t a n = min (a + n) 1073741824 by rw [kA, if_pos rfl, if_neg hct, if_neg hup]]
            exact ack_on c t a m n w hM hS hN (by omega) (by omega)
      · rw [aE_n hM hS hN]; exact ack_n c t a m n w hM hS hN
    · rw [aE_s hM hS]; exact ack_s c t a m n w hM hS
  · rw [aE_m hM]; exact ack_m c t a m n w hM
theorem loss_any (c t a m n : Int) (w : World) : Calls Try.prog 9 #[.agg #[.int .i64 c, .int .i64 t, .int .i64 a], .int .i64 m, .int .i64 n] w fun e w' => e = .returned (.tuple #[.agg #[.int .i64 (lH (aE c t a m n) m n), .int .i64 (lH (aE c t a m n) m n), .int .i64 (0)], .int .i64 (aE c t a m n)]) ∧ Below w.heap.size w w' := by
  by_cases hM : MV m
  · by_cases hS : SV c t a m
    · by_cases hN : NV n
      · rw [aE_ok hM hS hN, show lH 0 m n = max (n / 2) (2 * m) by rw [lH, if_pos rfl]]; exact loss_ok c t a m n w hM hS hN
      · rw [aE_n hM hS hN]; exact loss_n c t a m n w hM hS hN
    · rw [aE_s hM hS]; exact loss_s c t a m n w hM hS
  · rw [aE_m hM]; exact loss_m c t a m n w hM
theorem timeout_any (c t a m n : Int) (w : World) : Calls Try.prog 11 #[.agg #[.int .i64 c, .int .i64 t, .int .i64 a], .int .i64 m, .int .i64 n] w fun e w' => e = .returned (.tuple #[.agg #[.int .i64 (tC (aE c t a m n) m), .int .i64 (lH (aE c t a m n) m n), .int .i64 (0)], .int .i64 (aE c t a m n)]) ∧ Below w.heap.size w w' := by
  by_cases hM : MV m
  · by_cases hS : SV c t a m
    · by_cases hN : NV n
      · rw [aE_ok hM hS hN, show lH 0 m n = max (n / 2) (2 * m) by rw [lH, if_pos rfl], show tC 0 m = m by rw [tC, if_pos rfl]]; exact timeout_ok c t a m n w hM hS hN
      · rw [aE_n hM hS hN]; exact timeout_n c t a m n w hM hS hN
    · rw [aE_s hM hS]; exact timeout_s c t a m n w hM hS
  · rw [aE_m hM]; exact timeout_m c t a m n w hM
theorem new_any (m : Int) (w : World) : Calls Try.prog 13 #[.int .i64 m] w fun e w' => e = .returned (.tuple #[.agg #[.int .i64 (nC (nE m) m), .int .i64 (nT (nE m)), .int .i64 0], .int .i64 (nE m)]) ∧ Below w.heap.size w w' := by
  by_cases hM : MV m
  · rw [show nE m = 0 by rw [nE, if_pos hM], show nC 0 m = min (10 * m) (max (2 * m) 14600) by rw [nC, if_pos rfl], show nT 0 = 1073741824 by rw [nT, if_pos rfl]]; exact new_ok m w hM
  · rw [show nE m = 4 by rw [nE, if_neg hM]]; exact new_m m w hM
theorem check_any (c t a m : Int) (w : World) : Calls Try.prog 16 #[.agg #[.int .i64 c, .int .i64 t, .int .i64 a], .int .i64 m] w fun e w' => e = .returned (.int .i64 (cE c t a m)) ∧ Below w.heap.size w w' := by
  by_cases hM : MV m
  · by_cases hS : SV c t a m
    · rw [show cE c t a m = 0 by rw [cE, if_pos hM, if_pos hS]]; exact check_yes c t a m w hM hS
    · rw [show cE c t a m = 171 by rw [cE, if_pos hM, if_neg hS]]; exact check_s c t a m w hM hS
  · rw [show cE c t a m = 4 by rw [cE, if_neg hM]]; exact check_m c t a m w hM
theorem ack_l (c t a m n E x y z : Int) (hE : aE c t a m n = E) (h1 : kC E c t a m n = x) (h2 : kT E t = y) (h3 : kA E c t a n = z) (w : World) : Calls Try.prog 7 #[.agg #[.int .i64 c, .int .i64 t, .int .i64 a], .int .i64 m, .int .i64 n] w fun e w' => e = .returned (.tuple #[.agg #[.int .i64 x, .int .i64 y, .int .i64 z], .int .i64 E]) ∧ Below w.heap.size w w' := by
  subst hE h1 h2 h3
  exact ack_any c t a m n w
theorem loss_l (c t a m n E x : Int) (hE : aE c t a m n = E) (h1 : lH E m n = x) (w : World) : Calls Try.prog 9 #[.agg #[.int .i64 c, .int .i64 t, .int .i64 a], .int .i64 m, .int .i64 n] w fun e w' => e = .returned (.tuple #[.agg #[.int .i64 x, .int .i64 x, .int .i64 0], .int .i64 E]) ∧ Below w.heap.size w w' := by
  subst hE h1
  exact loss_any c t a m n w
theorem timeout_l (c t a m n E x y : Int) (hE : aE c t a m n = E) (h1 : tC E m = x) (h2 : lH E m n = y) (w : World) : Calls Try.prog 11 #[.agg #[.int .i64 c, .int .i64 t, .int .i64 a], .int .i64 m, .int .i64 n] w fun e w' => e = .returned (.tuple #[.agg #[.int .i64 x, .int .i64 y, .int .i64 0], .int .i64 E]) ∧ Below w.heap.size w w' := by
  subst hE h1 h2
  exact timeout_any c t a m n w
theorem new_l (m E x y : Int) (hE : nE m = E) (h1 : nC E m = x) (h2 : nT E = y) (w : World) : Calls Try.prog 13 #[.int .i64 m] w fun e w' => e = .returned (.tuple #[.agg #[.int .i64 x, .int .i64 y, .int .i64 0], .int .i64 E]) ∧ Below w.heap.size w w' := by
  subst hE h1 h2
  exact new_any m w
theorem check_l (c t a m E : Int) (hE : cE c t a m = E) (w : World) : Calls Try.prog 16 #[.agg #[.int .i64 c, .int .i64 t, .int .i64 a], .int .i64 m] w fun e w' => e = .returned (.int .i64 E) ∧ Below w.heap.size w w' := by
  subst hE
  exact check_any c t a m w
theorem rack_any (c t a m n : Int) (w : World) : Calls Try.prog 8 #[.agg #[.int .i64 c, .int .i64 t, .int .i64 a], .int .i64 m, .int .i64 n] w fun e w' => e = .returned (.tuple #[.agg #[.int .i64 (kC (aE c t a m n) c t a m n), .int .i64 (kT (aE c t a m n) t), .int .i64 (kA (aE c t a m n) c t a n)], .int .i64 (aE c t a m n)]) ∧ Below w.heap.size w w' := by
  by_cases hM : MV m
  · by_cases hS : SV c t a m
    · by_cases hN : NV n
      · rw [aE_ok hM hS hN]
        by_cases hct : c < t
        · rw [show kC 0 c t a m n = min (c + min n m) 1073741824 by rw [kC, if_pos rfl, if_pos hct], show kT 0 t = t by rw [kT, if_pos rfl], show kA 0 c t a n = a by rw [kA, if_pos rfl, if_pos hct]]
          exact rack_slow c t a m n w hM hS hN hct
        · by_cases hup : c ≤ min (a + n) 1073741824
          · rw [show kC 0 c t a m n = min (c + m) 1073741824 by rw [kC, if_pos rfl, if_neg hct, if_pos hup], show kT 0 t = t by rw [kT, if_pos rfl], show kA 0 c t a n = min (a + n) 1073741824 - c by rw [kA, if_pos rfl, if_neg hct, if_pos hup]]
            exact rack_up c t a m n w hM hS hN (by omega) hup
          · rw [show kC 0 c t a m n = c by rw [kC, if_pos rfl, if_neg hct, if_neg hup], show kT 0 t = t by rw [kT, if_pos rfl], show kA 0 c t a n = min (a + n) 1073741824 by rw [kA, if_pos rfl, if_neg hct, if_neg hup]]
            exact rack_on c t a m n w hM hS hN (by omega) (by omega)
      · rw [aE_n hM hS hN]; exact rack_n c t a m n w hM hS hN
    · rw [aE_s hM hS]; exact rack_s c t a m n w hM hS
  · rw [aE_m hM]; exact rack_m c t a m n w hM
theorem rloss_any (c t a m n : Int) (w : World) : Calls Try.prog 10 #[.agg #[.int .i64 c, .int .i64 t, .int .i64 a], .int .i64 m, .int .i64 n] w fun e w' => e = .returned (.tuple #[.agg #[.int .i64 (lH (aE c t a m n) m n), .int .i64 (lH (aE c t a m n) m n), .int .i64 (0)], .int .i64 (aE c t a m n)]) ∧ Below w.heap.size w w' := by
  by_cases hM : MV m
  · by_cases hS : SV c t a m
    · by_cases hN : NV n
      · rw [aE_ok hM hS hN, show lH 0 m n = max (n / 2) (2 * m) by rw [lH, if_pos rfl]]; exact rloss_ok c t a m n w hM hS hN
      · rw [aE_n hM hS hN]; exact rloss_n c t a m n w hM hS hN
    · rw [aE_s hM hS]; exact rloss_s c t a m n w hM hS
  · rw [aE_m hM]; exact rloss_m c t a m n w hM
theorem rtimeout_any (c t a m n : Int) (w : World) : Calls Try.prog 12 #[.agg #[.int .i64 c, .int .i64 t, .int .i64 a], .int .i64 m, .int .i64 n] w fun e w' => e = .returned (.tuple #[.agg #[.int .i64 (tC (aE c t a m n) m), .int .i64 (lH (aE c t a m n) m n), .int .i64 (0)], .int .i64 (aE c t a m n)]) ∧ Below w.heap.size w w' := by
  by_cases hM : MV m
  · by_cases hS : SV c t a m
    · by_cases hN : NV n
      · rw [aE_ok hM hS hN, show lH 0 m n = max (n / 2) (2 * m) by rw [lH, if_pos rfl], show tC 0 m = m by rw [tC, if_pos rfl]]; exact rtimeout_ok c t a m n w hM hS hN
      · rw [aE_n hM hS hN]; exact rtimeout_n c t a m n w hM hS hN
    · rw [aE_s hM hS]; exact rtimeout_s c t a m n w hM hS
  · rw [aE_m hM]; exact rtimeout_m c t a m n w hM
theorem rnew_any (m : Int) (w : World) : Calls Try.prog 14 #[.int .i64 m] w fun e w' => e = .returned (.tuple #[.agg #[.int .i64 (nC (nE m) m), .int .i64 (nT (nE m)), .int .i64 0], .int .i64 (nE m)]) ∧ Below w.heap.size w w' := by
  by_cases hM : MV m
  · rw [show nE m = 0 by rw [nE, if_pos hM], show nC 0 m = min (10 * m) (max (2 * m) 14600) by rw [nC, if_pos rfl], show nT 0 = 1073741824 by rw [nT, if_pos rfl]]; exact rnew_ok m w hM
  · rw [show nE m = 4 by rw [nE, if_neg hM]]; exact rnew_m m w hM
theorem rcheck_any (c t a m : Int) (w : World) : Calls Try.prog 17 #[.agg #[.int .i64 c, .int .i64 t, .int .i64 a], .int .i64 m] w fun e w' => e = .returned (.int .i64 (cE c t a m)) ∧ Below w.heap.size w w' := by
  by_cases hM : MV m
  · by_cases hS : SV c t a m
    · rw [show cE c t a m = 0 by rw [cE, if_pos hM, if_pos hS]]; exact rcheck_yes c t a m w hM hS
    · rw [show cE c t a m = 171 by rw [cE, if_pos hM, if_neg hS]]; exact rcheck_s c t a m w hM hS
  · rw [show cE c t a m = 4 by rw [cE, if_neg hM]]; exact rcheck_m c t a m w hM
theorem rack_l (c t a m n E x y z : Int) (hE : aE c t a m n = E) (h1 : kC E c t a m n = x) (h2 : kT E t = y) (h3 : kA E c t a n = z) (w : World) : Calls Try.prog 8 #[.agg #[.int .i64 c, .int .i64 t, .int .i64 a], .int .i64 m, .int .i64 n] w fun e w' => e = .returned (.tuple #[.agg #[.int .i64 x, .int .i64 y, .int .i64 z], .int .i64 E]) ∧ Below w.heap.size w w' := by
  subst hE h1 h2 h3
  exact rack_any c t a m n w
theorem rloss_l (c t a m n E x : Int) (hE : aE c t a m n = E) (h1 : lH E m n = x) (w : World) : Calls Try.prog 10 #[.agg #[.int .i64 c, .int .i64 t, .int .i64 a], .int .i64 m, .int .i64 n] w fun e w' => e = .returned (.tuple #[.agg #[.int .i64 x, .int .i64 x, .int .i64 0], .int .i64 E]) ∧ Below w.heap.size w w' := by
  subst hE h1
  exact rloss_any c t a m n w
theorem rtimeout_l (c t a m n E x y : Int) (hE : aE c t a m n = E) (h1 : tC E m = x) (h2 : lH E m n = y) (w : World) : Calls Try.prog 12 #[.agg #[.int .i64 c, .int .i64 t, .int .i64 a], .int .i64 m, .int .i64 n] w fun e w' => e = .returned (.tuple #[.agg #[.int .i64 x, .int .i64 y, .int .i64 0], .int .i64 E]) ∧ Below w.heap.size w w' := by
  subst hE h1 h2
  exact rtimeout_any c t a m n w
theorem rnew_l (m E x y : Int) (hE : nE m = E) (h1 : nC E m = x) (h2 : nT E = y) (w : World) : Calls Try.prog 14 #[.int .i64 m] w fun e w' => e = .returned (.tuple #[.agg #[.int .i64 x, .int .i64 y, .int .i64 0], .int .i64 E]) ∧ Below w.heap.size w w' := by
  subst hE h1 h2
  exact rnew_any m w
theorem rcheck_l (c t a m E : Int) (hE : cE c t a m = E) (w : World) : Calls Try.prog 17 #[.agg #[.int .i64 c, .int .i64 t, .int .i64 a], .int .i64 m] w fun e w' => e = .returned (.int .i64 E) ∧ Below w.heap.size w w' := by
  subst hE
  exact rcheck_any c t a m w
namespace al
theorem n1 (w : World) : Calls Try.prog 13 #[.int .i64 1460] w fun e w' => e = .returned (.tuple #[.agg #[.int .i64 14600, .int .i64 1073741824, .int .i64 0], .int .i64 0]) ∧ Below w.heap.size w w' := new_ok 1460 w (by decide)
theorem k1 (w : World) : Calls Try.prog 7 #[.agg #[.int .i64 14600, .int .i64 1073741824, .int .i64 0], .int .i64 1460, .int .i64 1460] w fun e w' => e = .returned (.tuple #[.agg #[.int .i64 16060, .int .i64 1073741824, .int .i64 0], .int .i64 0]) ∧ Below w.heap.size w w' := ack_slow 14600 1073741824 0 1460 1460 w (by decide) (by decide) (by decide) (by decide)
theorem l1 (w : World) : Calls Try.prog 9 #[.agg #[.int .i64 16060, .int .i64 1073741824, .int .i64 0], .int .i64 1460, .int .i64 14600] w fun e w' => e = .returned (.tuple #[.agg #[.int .i64 7300, .int .i64 7300, .int .i64 0], .int .i64 0]) ∧ Below w.heap.size w w' := loss_ok 16060 1073741824 0 1460 14600 w (by decide) (by decide) (by decide)
end al
set_option maxHeartbeats 2000000 in
theorem alive_any  (w : World)  :
    Calls Try.prog 18 #[] w fun e w' => e = .returned (.bool true) ∧ Below w.heap.size w w' := by
  have q_0 := Below.refl w.heap.size w
  go_enter Try.func18, Try.ntmps18
  go_wp2_with fail
  refine (al.n1 _).mono ?_
  rintro e V1 ⟨rfl, b⟩
  have q_1 := q_0.trans (b.mono q_0.size)
  clear q_0
  clear b
  go_wp2_with fail
  have b : Below V1.heap.size V1 (V1.alloc (.cells #[.int .i64 14600, .int .i64 1073741824, .int .i64 0] 24)) := ((Below.refl _ V1).alloc (Nat.le_refl _) (.cells #[.int .i64 14600, .int .i64 1073741824, .int .i64 0] 24))
  have nb0 := blk_new V1 (.cells #[.int .i64 14600, .int .i64 1073741824, .int .i64 0] 24)
  have nz0 : V1.heap.size < (V1.alloc (.cells #[.int .i64 14600, .int .i64 1073741824, .int .i64 0] 24)).heap.size := by simp only [World.size_alloc]; omega
  have q_2 := q_1.trans (b.mono q_1.size)
  clear q_1
  clear b
  have A_2 := Lib.hid nb0
  have Az_2 := nz0
  clear nb0 nz0
  have Ac0_2 := blk_cell A_2.out 0
  have Ac1_2 := blk_cell A_2.out 1
  have Ac2_2 := blk_cell A_2.out 2
  generalize (V1.alloc (.cells #[.int .i64 14600, .int .i64 1073741824, .int .i64 0] 24)) = V2 at q_2 A_2 Az_2 Ac0_2 Ac1_2 Ac2_2 ⊢
  refine (al.k1 _).mono ?_
  rintro e V3 ⟨rfl, b⟩
  have A_3 := Lib.hid ((b.block _ Az_2).trans A_2.out)
  have Az_3 := Nat.lt_of_lt_of_le Az_2 b.size
  have Ac0_3 := blk_cell A_3.out 0
  have Ac1_3 := blk_cell A_3.out 1
  have Ac2_3 := blk_cell A_3.out 2
  have q_3 := q_2.trans (b.mono q_2.size)
  clear A_2 Az_2 Ac0_2 Ac1_2 Ac2_2 q_2
  clear b
  go_wp2_with fail
  have b : Below V3.heap.size V3 (V3.alloc (.cells #[.int .i64 16060, .int .i64 1073741824, .int .i64 0] 24)) := ((Below.refl _ V3).alloc (Nat.le_refl _) (.cells #[.int .i64 16060, .int .i64 1073741824, .int .i64 0] 24))
  have nb0 := blk_new V3 (.cells #[.int .i64 16060, .int .i64 1073741824, .int .i64 0] 24)
  have nz0 : V3.heap.size < (V3.alloc (.cells #[.int .i64 16060, .int .i64 1073741824, .int .i64 0] 24)).heap.size := by simp only [World.size_alloc]; omega
  have A_4 := Lib.hid ((b.block _ Az_3).trans A_3.out)
  have Az_4 := Nat.lt_of_lt_of_le Az_3 b.size
  have Ac0_4 := blk_cell A_4.out 0
  have Ac1_4 := blk_cell A_4.out 1
  have Ac2_4 := blk_cell A_4.out 2
  have q_4 := q_3.trans (b.mono q_3.size)
  clear A_3 Az_3 Ac0_3 Ac1_3 Ac2_3 q_3
  clear b
  have B_4 := Lib.hid nb0
  have Bz_4 := nz0
  clear nb0 nz0
  have Bc0_4 := blk_cell B_4.out 0
  have Bc1_4 := blk_cell B_4.out 1
  have Bc2_4 := blk_cell B_4.out 2
  generalize (V3.alloc (.cells #[.int .i64 16060, .int .i64 1073741824, .int .i64 0] 24)) = V4 at q_4 A_4 Az_4 Ac0_4 Ac1_4 Ac2_4 B_4 Bz_4 Bc0_4 Bc1_4 Bc2_4 ⊢
  refine (al.l1 _).mono ?_
  rintro e V5 ⟨rfl, b⟩
  have A_5 := Lib.hid ((b.block _ Az_4).trans A_4.out)
  have Az_5 := Nat.lt_of_lt_of_le Az_4 b.size
  have Ac0_5 := blk_cell A_5.out 0
  have Ac1_5 := blk_cell A_5.out 1
  have Ac2_5 := blk_cell A_5.out 2
  have B_5 := Lib.hid ((b.block _ Bz_4).trans B_4.out)
  have Bz_5 := Nat.lt_of_lt_of_le Bz_4 b.size
  have Bc0_5 := blk_cell B_5.out 0
  have Bc1_5 := blk_cell B_5.out 1
  have Bc2_5 := blk_cell B_5.out 2
  have q_5 := q_4.trans (b.mono q_4.size)
  clear A_4 Az_4 Ac0_4 Ac1_4 Ac2_4 B_4 Bz_4 Bc0_4 Bc1_4 Bc2_4 q_4
  clear b
  go_wp2_with fail
  have b : Below V5.heap.size V5 (V5.alloc (.cells #[.int .i64 7300, .int .i64 7300, .int .i64 0] 24)) := ((Below.refl _ V5).alloc (Nat.le_refl _) (.cells #[.int .i64 7300, .int .i64 7300, .int .i64 0] 24))
  have nb0 := blk_new V5 (.cells #[.int .i64 7300, .int .i64 7300, .int .i64 0] 24)
  have nz0 : V5.heap.size < (V5.alloc (.cells #[.int .i64 7300, .int .i64 7300, .int .i64 0] 24)).heap.size := by simp only [World.size_alloc]; omega
  have A_6 := Lib.hid ((b.block _ Az_5).trans A_5.out)
  have Az_6 := Nat.lt_of_lt_of_le Az_5 b.size
  have Ac0_6 := blk_cell A_6.out 0
  have Ac1_6 := blk_cell A_6.out 1
  have Ac2_6 := blk_cell A_6.out 2
  have B_6 := Lib.hid ((b.block _ Bz_5).trans B_5.out)
  have Bz_6 := Nat.lt_of_lt_of_le Bz_5 b.size
  have Bc0_6 := blk_cell B_6.out 0
  have Bc1_6 := blk_cell B_6.out 1
  have Bc2_6 := blk_cell B_6.out 2
  have q_6 := q_5.trans (b.mono q_5.size)
  clear A_5 Az_5 Ac0_5 Ac1_5 Ac2_5 B_5 Bz_5 Bc0_5 Bc1_5 Bc2_5 q_5
  clear b
  have D_6 := Lib.hid nb0
  have Dz_6 := nz0
  clear nb0 nz0
  have Dc0_6 := blk_cell D_6.out 0
  have Dc1_6 := blk_cell D_6.out 1
  have Dc2_6 := blk_cell D_6.out 2
  generalize (V5.alloc (.cells #[.int .i64 7300, .int .i64 7300, .int .i64 0] 24)) = V6 at q_6 A_6 Az_6 Ac0_6 Ac1_6 Ac2_6 B_6 Bz_6 Bc0_6 Bc1_6 Bc2_6 D_6 Dz_6 Dc0_6 Dc1_6 Dc2_6 ⊢
  refine (num_any _ _).mono ?_
  rintro e w' ⟨rfl, rfl⟩
  go_wp2_with fail
  refine (num_any _ _).mono ?_
  rintro e w' ⟨rfl, rfl⟩
  go_wp2_with fail
  refine (num_any _ _).mono ?_
  rintro e w' ⟨rfl, rfl⟩
  go_wp2
  go_ret
  exact ⟨rfl, q_6⟩

end Go.Proofs.Ytmjcckpppflpjaa
