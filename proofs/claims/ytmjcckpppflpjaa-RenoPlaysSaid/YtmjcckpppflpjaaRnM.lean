/- Reno: the numbers, with no program in sight. -/
namespace Go.Proofs.Ytmjcckpppflpjaa.Rn

def MV (m : Int) : Prop := 1 ≤ m ∧ m ≤ 65535
def SV (c t a m : Int) : Prop := (m ≤ c ∧ c ≤ 1073741824) ∧ (1 ≤ t ∧ t ≤ 1073741824) ∧ 0 ≤ a ∧ a ≤ 1073741824
def NV (n : Int) : Prop := 0 ≤ n ∧ n ≤ 1073741824
instance (m : Int) : Decidable (MV m) := by unfold MV; infer_instance
instance (c t a m : Int) : Decidable (SV c t a m) := by unfold SV; infer_instance
instance (n : Int) : Decidable (NV n) := by unfold NV; infer_instance
def cE (c t a m : Int) : Int := if MV m then (if SV c t a m then 0 else 171) else 4
def aE (c t a m n : Int) : Int := if MV m then (if SV c t a m then (if NV n then 0 else 4) else 171) else 4
/-- An acknowledgement. -/
def kC (E c t a m n : Int) : Int := if E = 0 then (if c < t then min (c + min n m) 1073741824 else if c ≤ min (a + n) 1073741824 then min (c + m) 1073741824 else c) else 0
def kT (E t : Int) : Int := if E = 0 then t else 0
def kA (E c t a n : Int) : Int := if E = 0 then (if c < t then a else if c ≤ min (a + n) 1073741824 then min (a + n) 1073741824 - c else min (a + n) 1073741824) else 0
/-- A loss; a time that ran out. -/
def lH (E m n : Int) : Int := if E = 0 then max (n / 2) (2 * m) else 0
def tC (E m : Int) : Int := if E = 0 then m else 0
/-- The beginning. -/
def nE (m : Int) : Int := if MV m then 0 else 4
def nC (E m : Int) : Int := if E = 0 then min (10 * m) (max (2 * m) 14600) else 0
def nT (E : Int) : Int := if E = 0 then 1073741824 else 0

end Go.Proofs.Ytmjcckpppflpjaa.Rn
