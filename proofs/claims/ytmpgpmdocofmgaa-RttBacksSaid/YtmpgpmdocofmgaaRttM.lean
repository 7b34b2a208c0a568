/- Rtt: the numbers, with no program in sight. -/
namespace Go.Proofs.Ytmpgpmdocofmgaa.Rt8

def PV (i m x g : Int) : Prop := (1 ≤ i ∧ i ≤ 1073741824) ∧ (1 ≤ m ∧ m ≤ 1073741824) ∧ (1 ≤ x ∧ x ≤ 1073741824) ∧ (1 ≤ g ∧ g ≤ 1073741824) ∧ m ≤ x
def SV (s v b : Int) : Prop := (0 ≤ s ∧ s ≤ 17179869184) ∧ (0 ≤ v ∧ v ≤ 17179869184) ∧ 0 ≤ b ∧ b ≤ 16
def RV (r : Int) : Prop := 0 ≤ r ∧ r ≤ 1073741824
instance (i m x g : Int) : Decidable (PV i m x g) := by unfold PV; infer_instance
instance (s v b : Int) : Decidable (SV s v b) := by unfold SV; infer_instance
instance (r : Int) : Decidable (RV r) := by unfold RV; infer_instance

def cE (i m x g : Int) : Int := if PV i m x g then 0 else 121
theorem cE_yes {i m x g : Int} (h : PV i m x g) : cE i m x g = 0 := if_pos h
theorem cE_no {i m x g : Int} (h : ¬ PV i m x g) : cE i m x g = 121 := if_neg h

/-- What all calls answer ahead of the rest. -/
def er (i m x g s v b : Int) : Int := if PV i m x g then (if SV s v b then 0 else 171) else 121
def erR (i m x g s v b r : Int) : Int := if PV i m x g then (if SV s v b then (if RV r then 0 else 4) else 171) else 121

/-- A sample: mean, deviation. -/
def sS (E : Int) (h : Bool) (s r : Int) : Int := if E = 0 then (if h then s + (r - s / 8) else 8 * r) else 0
def sV (E : Int) (h : Bool) (s v r : Int) : Int := if E = 0 then (if h then v - v / 4 + max (r - s / 8) (-(r - s / 8)) else 2 * r) else 0
def sH (E : Int) : Bool := decide (E = 0)

/-- The wait. -/
def wt (h : Bool) (i g s v : Int) : Int := if h then s / 8 + max g v else i
def rto (E : Int) (h : Bool) (i m x g s v b : Int) : Int := if E = 0 then min (max (wt h i g s v) m * 2 ^ b.toNat) x else 0

/-- Time that ran out. -/
def bH (E : Int) (h : Bool) : Bool := decide (E = 0) && h
def bN (E n : Int) : Int := if E = 0 then n else 0
def bB (E b : Int) : Int := if E = 0 then min (b + 1) 16 else 0

theorem er_ok {i m x g s v b : Int} (hP : PV i m x g) (hS : SV s v b) : er i m x g s v b = 0 := by rw [er, if_pos hP, if_pos hS]
theorem er_s {i m x g s v b : Int} (hP : PV i m x g) (hS : ¬ SV s v b) : er i m x g s v b = 171 := by rw [er, if_pos hP, if_neg hS]
theorem er_p {i m x g s v b : Int} (hP : ¬ PV i m x g) : er i m x g s v b = 121 := by rw [er, if_neg hP]
theorem erR_ok {i m x g s v b r : Int} (hP : PV i m x g) (hS : SV s v b) (hR : RV r) : erR i m x g s v b r = 0 := by rw [erR, if_pos hP, if_pos hS, if_pos hR]
theorem erR_r {i m x g s v b r : Int} (hP : PV i m x g) (hS : SV s v b) (hR : ¬ RV r) : erR i m x g s v b r = 4 := by rw [erR, if_pos hP, if_pos hS, if_neg hR]
theorem erR_s {i m x g s v b r : Int} (hP : PV i m x g) (hS : ¬ SV s v b) : erR i m x g s v b r = 171 := by rw [erR, if_pos hP, if_neg hS]
theorem erR_p {i m x g s v b r : Int} (hP : ¬ PV i m x g) : erR i m x g s v b r = 121 := by rw [erR, if_neg hP]

end Go.Proofs.Ytmpgpmdocofmgaa.Rt8
