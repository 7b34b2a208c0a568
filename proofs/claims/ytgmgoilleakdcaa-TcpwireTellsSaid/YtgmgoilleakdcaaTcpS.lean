/- Small functions of tcpwire: the sum with the addresses; the length that a kind of option may have; how many numbers a segment takes. -/
import Derived.Test.YtgmgoilleakdcaaSum
import Derived.Test.YtgmgoilleakdcaaNumT
namespace Go.Proofs.Ytgmgoilleakdcaa
open Go.RowKit

/-- The sum of octets with the addresses. -/
def tcpSum (xs : List Nat) (src dst : Nat) : Nat := Mt.addw (Mt.sumO xs) (Mt.tot (psW src dst 6 (xs.length : Nat)))

theorem psW_le (s d p : Nat) (n : Int) (hs : s < 4294967296) (hd : d < 4294967296) (hp : p < 256) : ∀ x ∈ psW s d p n, x ≤ 65535 := by
  intro x hx
  simp [psW] at hx
  omega

theorem tcpSum_le (xs : List Nat) (hx : ∀ x ∈ xs, x < 256) (src dst : Nat) (hs : src < 4294967296) (hd : dst < 4294967296) : tcpSum xs src dst ≤ 65535 :=
  Mt.addw_le _ _ (Mt.sumO_le xs hx) (Mt.tot_le _ (psW_le src dst 6 _ hs hd (by omega)))

set_option maxRecDepth 100000 in
set_option maxHeartbeats 1000000 in
theorem tsum_any (a : Option Addr) (xs : List Nat) (cap : Nat) (src dst : Nat) (w : World) (hx : Bts w a xs) (hl : xs.length ≤ 140737488355328) (hs : src < 4294967296) (hd : dst < 4294967296) :
    Calls Try.prog 26 #[.slice a xs.length cap, .int .u32 src, .int .u32 dst] w fun e w' => e = .returned (.int .u16 (tcpSum xs src dst : Nat)) ∧ Below w.heap.size w w' := by
  have h1 := sum_any a xs cap w hx hl
  have h2 := fun W => pseudo_any src dst 6 (xs.length : Nat) hs hd (by omega) W
  have l1 := Mt.sumO_le xs hx.1
  have l2 := Mt.tot_le _ (psW_le src dst 6 (xs.length : Nat) hs hd (by omega))
  have ht : tcpSum xs src dst = Mt.addw (Mt.sumO xs) (Mt.tot (psW src dst 6 (xs.length : Nat))) := rfl
  generalize Mt.sumO xs = A at h1 l1 ht
  generalize Mt.tot (psW src dst 6 (xs.length : Nat)) = B at h2 l2 ht
  have h3 := fun W => add_any A B l1 l2 W
  rw [← ht] at h3
  generalize tcpSum xs src dst = R at h3 ⊢
  have H1 := Lib.hid h1
  have H2 := Lib.hid h2
  have H3 := Lib.hid h3
  clear h1 h2 h3 ht hx
  go_enter Try.func26, Try.ntmps26
  go_wp2_with fail
  refine H1.out.mono ?_
  rintro e w1 ⟨rfl, b1⟩
  go_wp2_with fail
  refine (H2.out _).mono ?_
  rintro e w2 ⟨rfl, b2⟩
  have q2 := b1.trans (b2.mono b1.size)
  go_wp2_with fail
  refine (H3.out _).mono ?_
  rintro e w3 ⟨rfl, b3⟩
  have q3 := q2.trans (b3.mono q2.size)
  go_wp2
  go_ret
  exact ⟨rfl, q3⟩

/-- May an option of that kind have that length? -/
def tcpFits (k n : Nat) : Bool :=
  if k = 2 then n == 4 else if k = 3 then n == 3 else if k = 4 then n == 2 else if k = 8 then n == 10 else if k = 5 then (n == 10 || n == 18 || n == 26 || n == 34) else true

theorem beq_nat (n m : Nat) : ((n : Int) == (m : Int)) = (n == m) := by
  by_cases h : n = m
  · subst h; simp
  · have h1 : ((n : Int) == (m : Int)) = false := by rw [beq_eq_false_iff_ne]; omega
    have h2 : (n == m) = false := by rw [beq_eq_false_iff_ne]; exact h
    rw [h1, h2]

set_option maxRecDepth 100000 in
set_option maxHeartbeats 1000000 in
theorem fits_any (k n : Nat) (_ : k < 256) (hn : n < 256) (hn2 : 2 ≤ n) (w : World) :
    Calls Try.prog 43 #[.int .u8 k, .int .i64 n] w fun e w' => e = .returned (.bool (tcpFits k n)) ∧ w = w' := by
  by_cases h2 : k = 2
  · subst h2
    have e : tcpFits 2 n = (n == 4) := rfl
    have q := beq_nat n 4
    rw [e, ← q]
    clear e q
    go_enter Try.func43, Try.ntmps43
    go_wp2
    go_ret
    exact ⟨rfl, rfl⟩
  · by_cases h3 : k = 3
    · subst h3
      have e : tcpFits 3 n = (n == 3) := rfl
      have q := beq_nat n 3
      rw [e, ← q]
      clear e q
      go_enter Try.func43, Try.ntmps43
      go_wp2
      go_ret
      exact ⟨rfl, rfl⟩
    · by_cases h4 : k = 4
      · subst h4
        have e : tcpFits 4 n = (n == 2) := rfl
        have q := beq_nat n 2
        rw [e, ← q]
        clear e q
        go_enter Try.func43, Try.ntmps43
        go_wp2
        go_ret
        exact ⟨rfl, rfl⟩
      · by_cases h8 : k = 8
        · subst h8
          have e : tcpFits 8 n = (n == 10) := rfl
          have q := beq_nat n 10
          rw [e, ← q]
          clear e q
          go_enter Try.func43, Try.ntmps43
          go_wp2
          go_ret
          exact ⟨rfl, rfl⟩
        · by_cases h5 : k = 5
          · subst h5
            obtain ⟨m, rfl⟩ : ∃ m, n = m + 2 := ⟨n - 2, by omega⟩
            have hm1 : ((m + 2 : Nat) : Int) = (m : Int) + 2 := by omega
            obtain ⟨r, hr⟩ : ∃ r, m % 8 = r := ⟨_, rfl⟩
            have hr1 : (m : Int) % 8 = (r : Int) := by omega
            have hr2 : (m : Int).tmod 8 = (r : Int) := by rw [Int.tmod_eq_emod_of_nonneg (by omega)]; exact hr1
            have e : tcpFits 5 (m + 2) = decide (m % 8 = 0 ∧ 8 ≤ m ∧ m ≤ 32) := by
              have e0 : tcpFits 5 (m + 2) = (m + 2 == 10 || m + 2 == 18 || m + 2 == 26 || m + 2 == 34) := rfl
              rw [e0]
              by_cases h : m % 8 = 0 ∧ 8 ≤ m ∧ m ≤ 32
              · rw [decide_eq_true h]
                obtain rfl | rfl | rfl | rfl : m = 8 ∨ m = 16 ∨ m = 24 ∨ m = 32 := by omega
                all_goals rfl
              · rw [decide_eq_false h]
                simp only [Bool.or_eq_false_iff, beq_eq_false_iff_ne]
                omega
            rw [e, hm1, hr]
            clear e hm1 hn2
            by_cases c1 : r = 0
            · subst c1
              by_cases c2 : 8 ≤ m
              · have i2 : (8 : Int) ≤ (m : Int) := by omega
                by_cases c3 : m ≤ 32
                · have i3 : (m : Int) ≤ 32 := by omega
                  rw [decide_eq_true ⟨rfl, c2, c3⟩]
                  go_enter Try.func43, Try.ntmps43
                  go_wp2
                  go_ret
                  exact ⟨rfl, rfl⟩
                · have i3 : ¬ (m : Int) ≤ 32 := by omega
                  rw [decide_eq_false (fun h => c3 h.2.2)]
                  go_enter Try.func43, Try.ntmps43
                  go_wp2
                  go_ret
                  exact ⟨rfl, rfl⟩
              · have i2 : ¬ (8 : Int) ≤ (m : Int) := by omega
                rw [decide_eq_false (fun h => c2 h.2.1)]
                go_enter Try.func43, Try.ntmps43
                go_wp2
                go_ret
                exact ⟨rfl, rfl⟩
            · have i1 : ((r : Int) == 0) = false := by rw [beq_eq_false_iff_ne]; omega
              rw [decide_eq_false (fun h => c1 h.1)]
              go_enter Try.func43, Try.ntmps43
              go_wp2
              go_ret
              exact ⟨rfl, rfl⟩
          · have e : tcpFits k n = true := by unfold tcpFits; rw [if_neg h2, if_neg h3, if_neg h4, if_neg h8, if_neg h5]
            have i2 : ((k : Int) == 2) = false := by rw [beq_eq_false_iff_ne]; omega
            have i3 : ((k : Int) == 3) = false := by rw [beq_eq_false_iff_ne]; omega
            have i4 : ((k : Int) == 4) = false := by rw [beq_eq_false_iff_ne]; omega
            have i5 : ((k : Int) == 5) = false := by rw [beq_eq_false_iff_ne]; omega
            have i8 : ((k : Int) == 8) = false := by rw [beq_eq_false_iff_ne]; omega
            rw [e]
            clear e
            go_enter Try.func43, Try.ntmps43
            go_wp2
            go_ret
            exact ⟨rfl, rfl⟩
end Go.Proofs.Ytgmgoilleakdcaa
