/- Options laid by hand: what they say; a sum made right. -/
import Derived.Test.YtgmgoilleakdcaaTcpWk
import Derived.Test.YtgmgoilleakdcaaSumMath
namespace Go.Proofs.Ytgmgoilleakdcaa
open Go.RowKit

theorem psum_pos5 (s d : Nat) (n : Int) (hs : s < 4294967296) (hd : d < 4294967296) : 0 < Mt.tot (psW s d 6 n) ∧ Mt.tot (psW s d 6 n) ≤ 65535 := by
  have h := psW_le s d 6 n hs hd (by omega)
  refine ⟨?_, Mt.tot_le _ h⟩
  rw [Mt.tot_norm _ h]
  refine Nat.pos_of_ne_zero fun e => ?_
  rw [Mt.norm_zero] at e
  simp [psW] at e
theorem norm_fix (S P C : Nat) (hP : 0 < P) (hC : C = 65535 - Mt.norm (S + P)) : Mt.norm (S + C + P) = 65535 := by
  rw [Mt.norm_full]
  have h1 := Mt.norm_mod (S + P)
  have h2 := Mt.norm_le (S + P)
  omega
/-- The sum, made right. -/
theorem tcp_fix (xs : List Nat) (hx : ∀ x ∈ xs, x < 256) (hl : 18 ≤ xs.length) (h16 : xs.getD 16 0 = 0) (h17 : xs.getD 17 0 = 0) (src dst : Nat) (hs : src < 4294967296) (hd : dst < 4294967296) (C : Nat) (hC : C = 65535 - tcpSum xs src dst) :
    tcpSum ((xs.set 16 (C / 256)).set 17 (C % 256)) src dst = 65535 := by
  obtain ⟨p1, p2⟩ := psum_pos5 src dst (xs.length : Nat) hs hd
  have hC2 : C ≤ 65535 := by rw [hC]; omega
  have hy : ∀ x ∈ (xs.set 16 (C / 256)).set 17 (C % 256), x < 256 := Mt.set_lt _ (Mt.set_lt xs hx 16 _ (by omega)) 17 _ (by omega)
  have hw := Mt.wt_word xs 8 (C / 256) (C % 256) (by omega)
  have h0 : Mt.wd xs 8 = 0 := by unfold Mt.wd; rw [h16, h17]
  have hw2 : Mt.wt true ((xs.set 16 (C / 256)).set 17 (C % 256)) = Mt.wt true xs + C := by
    have e : C / 256 * 256 + C % 256 = C := by omega
    rw [h0, e] at hw
    exact hw
  unfold tcpSum at hC ⊢
  have hl2 : ((xs.set 16 (C / 256)).set 17 (C % 256)).length = xs.length := by simp
  rw [hl2]
  generalize Mt.tot (psW src dst 6 (xs.length : Nat)) = P at p1 p2 hC ⊢
  rw [Mt.addw_norm _ _ (Mt.sumO_le _ hy) p2, Mt.sumO_norm _ hy, hw2, Mt.norm_add_left]
  rw [Mt.addw_norm _ _ (Mt.sumO_le _ hx) p2, Mt.sumO_norm _ hx, Mt.norm_add_left] at hC
  exact norm_fix _ _ _ p1 hC
theorem numOf_two (a : Nat) : Mt.numOf [a / 256, a % 256] = a := by
  show (0 * 256 + a / 256) * 256 + a % 256 = a
  omega
/-- The options of the statement. -/
def oL (kd m : Nat) (bd : List Nat) (a b : Nat) (r : List Nat) : List Nat := kd :: (2 + m) :: (bd ++ (2 :: 4 :: (a / 256) :: (a % 256) :: 2 :: 4 :: (b / 256) :: (b % 256) :: 0 :: r))
/-- What they say: a's, the first's, alone. -/
theorem opts_read (kd m : Nat) (bd : List Nat) (a b : Nat) (r : List Nat) (hb : bd.length = m) (hk : kd = 6 ∨ kd = 7 ∨ 9 ≤ kd) (n : Nat) (hn : 4 ≤ n) : tOpts (n + 1) (oL kd m bd a b r) [] tOpt0 = some { tOpt0 with mss := a } := by
  obtain ⟨n, rfl⟩ : ∃ k, n = k + 3 := ⟨n - 3, by omega⟩
  have hl : (oL kd m bd a b r).length = 2 + m + (9 + r.length) := by unfold oL; simp only [List.length_cons, List.length_append, hb]; omega
  have hfit : tcpFits kd (2 + m) = true := by
    unfold tcpFits
    rw [if_neg (by omega), if_neg (by omega), if_neg (by omega), if_neg (by omega), if_neg (by omega)]
  have e0 : (oL kd m bd a b r).getD 0 0 = kd := rfl
  have e1 : (oL kd m bd a b r).getD 1 0 = 2 + m := rfl
  have hd : (oL kd m bd a b r).drop (2 + m) = 2 :: 4 :: (a / 256) :: (a % 256) :: 2 :: 4 :: (b / 256) :: (b % 256) :: 0 :: r := by
    unfold oL
    rw [show 2 + m = m + 1 + 1 from by omega, List.drop_succ_cons, List.drop_succ_cons, List.drop_append, ← hb, List.drop_length, Nat.sub_self, List.drop_zero, List.nil_append]
  have hs : ∀ ys, setO tOpt0 kd ys = tOpt0 := fun ys => by
    unfold setO
    rw [if_neg (by omega), if_neg (by omega), if_neg (by omega), if_neg (by omega), if_neg (by omega)]
  rw [tOpts_succ, if_neg (by omega), e0, if_neg (by omega), if_neg (by omega), if_neg (by omega), e1, if_neg (by rw [hfit]; rintro (h | h | h); omega; omega; cases h), hd, if_neg List.not_mem_nil, hs, List.nil_append]
  have hk2 : ¬ (2 = kd) := by omega
  rw [tOpts_succ, if_neg (by simp)]
  show (if (2 : Nat) = 0 then _ else if (2 : Nat) = 1 then _ else if _ then _ else if (4 : Nat) < 2 ∨ _ < 4 ∨ tcpFits 2 4 = false then _ else tOpts (n + 2) (2 :: 4 :: (b / 256) :: (b % 256) :: 0 :: r) ([kd] ++ [2]) (if 2 ∈ [kd] then tOpt0 else setO tOpt0 2 [a / 256, a % 256])) = _
  rw [if_neg (by decide), if_neg (by decide), if_neg (by simp), if_neg (by rintro (h | h | h); omega; simp at h; omega; cases h), if_neg (by simp; exact hk2)]
  have hs2 : setO tOpt0 2 [a / 256, a % 256] = { tOpt0 with mss := a } := by unfold setO; rw [if_pos rfl, numOf_two]
  rw [hs2, tOpts_succ, if_neg (by simp)]
  show (if (2 : Nat) = 0 then _ else if (2 : Nat) = 1 then _ else if _ then _ else if (4 : Nat) < 2 ∨ _ < 4 ∨ tcpFits 2 4 = false then _ else tOpts (n + 1) (0 :: r) ([kd] ++ [2] ++ [2]) (if 2 ∈ [kd] ++ [2] then { tOpt0 with mss := a } else setO { tOpt0 with mss := a } 2 [b / 256, b % 256])) = _
  rw [if_neg (by decide), if_neg (by decide), if_neg (by simp), if_neg (by rintro (h | h | h); omega; simp at h; omega; cases h), if_pos (by simp)]
  rw [tOpts_succ, if_neg (by simp)]
  rfl
end Go.Proofs.Ytgmgoilleakdcaa
