/- When packets leave that are pushed one behind the other: plain facts. -/
import Derived.Test.YthbiadhnlomhmaaPhH
import Derived.Test.YthbiadhnlomhmaaGStep14
namespace Go.Proofs.Ythbiadhnlomhmaa
open Go.RowKit Go.Proofs.Ythbiadhnlomhmaa.Ph Go.Proofs.Ythbiadhnlomhmaa.Pc

/-- A number brought within 0 to M - 1. -/
def nz (a M : Int) : Int := (a.tmod M + M).tmod M
theorem nz_in (a : Int) {M : Int} (h : 0 < M) : (-M < a.tmod M ∧ a.tmod M < M) ∧ 0 ≤ nz a M ∧ nz a M < M := by
  have h1 := Int.tmod_lt_of_pos a h
  have h2 := Int.lt_tmod_of_pos a h
  refine ⟨⟨h2, h1⟩, ?_, ?_⟩
  · exact Int.tmod_nonneg _ (by omega)
  · exact Int.tmod_lt_of_pos _ h
def szV (x : Step14) : Int := 1 + nz x.sz 1500
def rtV (x : Step14) : Int := 1000 + nz x.rate 100000
theorem szV_in (x : Step14) : 1 ≤ szV x ∧ szV x ≤ 1500 := by
  have := (nz_in x.sz (show (0 : Int) < 1500 by omega)).2
  unfold szV; omega
theorem rtV_in (x : Step14) : 1000 ≤ rtV x ∧ rtV x ≤ 100999 := by
  have := (nz_in x.rate (show (0 : Int) < 100000 by omega)).2
  unfold rtV; omega
theorem cost_le (x : Step14) : 0 ≤ cost (szV x) (rtV x) ∧ cost (szV x) (rtV x) ≤ 1537 := by
  obtain ⟨a1, a2⟩ := szV_in x
  obtain ⟨b1, b2⟩ := rtV_in x
  unfold cost
  refine ⟨Int.ediv_nonneg (by omega) (by omega), ?_⟩
  have h : (szV x * 1024 + rtV x - 1) / rtV x < 1538 := by
    apply Int.ediv_lt_of_lt_mul (by omega)
    omega
  omega
/-- The tick at which packet k leaves: the state's Next ahead of it. -/
def depV (ls : List Step14) : Nat → Int
  | 0 => 0
  | k + 1 => match ls[k]? with
    | some x => if k < 60 then depV ls k + cost (szV x) (rtV x) else depV ls k
    | none => depV ls k
theorem depV_step (ls : List Step14) (k : Nat) : depV ls k ≤ depV ls (k + 1) ∧ depV ls (k + 1) ≤ depV ls k + 1537 := by
  have h1 : depV ls (k + 1) = depV ls k ∨ ∃ x, depV ls (k + 1) = depV ls k + cost (szV x) (rtV x) := by
    cases h : ls[k]? with
    | none => left; rw [depV, h]
    | some x =>
      by_cases hk : k < 60
      · right
        exact ⟨x, by rw [depV, h]; exact if_pos hk⟩
      · left
        rw [depV, h]; exact if_neg hk
  rcases h1 with h1 | ⟨x, h1⟩
  · omega
  · have := cost_le x
    omega
theorem depV_mono (ls : List Step14) : ∀ i j, i ≤ j → depV ls i ≤ depV ls j := by
  intro i j h
  induction j with
  | zero => obtain rfl : i = 0 := by omega
            exact Int.le_refl _
  | succ j ih =>
    by_cases e : i = j + 1
    · rw [e]; exact Int.le_refl _
    · exact Int.le_trans (ih (by omega)) (depV_step ls j).1
theorem depV_bd (ls : List Step14) (k : Nat) : 0 ≤ depV ls k ∧ depV ls k ≤ 1537 * k := by
  induction k with
  | zero => exact ⟨Int.le_refl _, Int.le_refl _⟩
  | succ k ih =>
    have := depV_step ls k
    omega
theorem depV_at {ls : List Step14} {k : Nat} {x : Step14} (h : ls[k]? = some x) (hk : k < 60) : depV ls (k + 1) = depV ls k + cost (szV x) (rtV x) := by
  rw [depV, h]
  dsimp only
  rw [if_pos hk]
/-- What a Push tells and leaves. -/
theorem dep_push {ls : List Step14} {k : Nat} {x : Step14} (h : ls[k]? = some x) (hk : k < 60) : dE (depV ls k) (szV x) (rtV x) 0 0 = 0 ∧ dN (depV ls k) (szV x) (rtV x) 0 0 = depV ls (k + 1) ∧ dT (depV ls k) (szV x) (rtV x) 0 0 = depV ls k := by
  obtain ⟨a1, a2⟩ := szV_in x
  obtain ⟨b1, b2⟩ := rtV_in x
  obtain ⟨d1, d2⟩ := depV_bd ls k
  obtain ⟨c1, c2⟩ := cost_le x
  have hv : DV (depV ls k) (szV x) (rtV x) 0 0 := ⟨⟨by omega, by omega⟩, ⟨by omega, by omega⟩, ⟨by omega, by omega⟩, ⟨by omega, by omega⟩, ⟨by omega, by omega⟩⟩
  have hb : base (depV ls k) (rtV x) 0 0 = depV ls k := by
    unfold base
    rw [Int.zero_mul, Int.zero_ediv]
    omega
  refine ⟨if_pos hv, ?_, ?_⟩
  · rw [depV_at h hk]
    unfold dN
    rw [if_pos hv, hb]; omega
  · unfold dT
    rw [if_pos hv, hb]; omega
/-- The departures of the first k. -/
def deps (ls : List Step14) (k : Nat) : List Int := (List.range k).map (depV ls)
theorem deps_len (ls : List Step14) (k : Nat) : (deps ls k).length = k := by simp [deps]
theorem deps_succ (ls : List Step14) (k : Nat) : deps ls (k + 1) = deps ls k ++ [depV ls k] := by simp [deps, List.range_succ]
theorem deps_at (ls : List Step14) {k i : Nat} (h : i < k) : (deps ls k).getD i 0 = depV ls i := by
  simp [deps, List.getD_eq_getElem?_getD, List.getElem?_range h]
theorem told_at {t m i : Nat} (h : i < m) : (told t m).getD i 0 = ((t + i : Nat) : Int) := by
  simp [told, List.getD_eq_getElem?_getD, h]
end Go.Proofs.Ythbiadhnlomhmaa
