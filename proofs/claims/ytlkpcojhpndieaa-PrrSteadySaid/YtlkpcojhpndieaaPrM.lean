/- Prr: the numbers, with no program in sight. -/
namespace Go.Proofs.Ytlkpcojhpndieaa.Pr

def NV (n : Int) : Prop := 0 ≤ n ∧ n ≤ 1073741824
def OV (n : Int) : Prop := 1 ≤ n ∧ n ≤ 1073741824
def UV (n : Int) : Prop := 0 ≤ n ∧ n ≤ 2147483648
def MV (n : Int) : Prop := 1 ≤ n ∧ n ≤ 65535
def TV (n : Int) : Prop := 0 ≤ n ∧ n ≤ 1099511627776
def SV (t f d o : Int) : Prop := (OV t ∧ OV f) ∧ UV d ∧ UV o
def AV (n p m : Int) : Prop := (NV n ∧ NV p) ∧ MV m
def RV (d a i r k : Int) : Prop := TV d ∧ TV a ∧ TV i ∧ TV r ∧ TV k
def DV (n w d a i l : Int) : Prop := OV n ∧ TV w ∧ TV d ∧ TV a ∧ TV i ∧ TV l
instance (n : Int) : Decidable (NV n) := by unfold NV; infer_instance
instance (n : Int) : Decidable (OV n) := by unfold OV; infer_instance
instance (n : Int) : Decidable (UV n) := by unfold UV; infer_instance
instance (n : Int) : Decidable (MV n) := by unfold MV; infer_instance
instance (n : Int) : Decidable (TV n) := by unfold TV; infer_instance
instance (t f d o : Int) : Decidable (SV t f d o) := by unfold SV; infer_instance
instance (n p m : Int) : Decidable (AV n p m) := by unfold AV; infer_instance
instance (d a i r k : Int) : Decidable (RV d a i r k) := by unfold RV; infer_instance
instance (n w d a i l : Int) : Decidable (DV n w d a i l) := by unfold DV; infer_instance

/-- What came, held. -/
def dl (d n : Int) : Int := min (d + n) 2147483648
/-- How much may be sent. -/
def al (t f d o n p m : Int) : Int := if t < p then (d * t + f - 1) / f - o else min (t - p) (max n (d - o) + m)

theorem prod_bd {d t : Int} (d0 : 0 ≤ d) (d1 : d ≤ 2147483648) (t0 : 1 ≤ t) (t1 : t ≤ 1073741824) : 0 ≤ d * t ∧ d * t ≤ 2305843009213693952 := by
  have h := Int.mul_le_mul d1 t1 (by omega) (by omega)
  exact ⟨Int.mul_nonneg d0 (by omega), by omega⟩
theorem quot_bd {x f : Int} (x0 : 0 ≤ x) (f0 : 1 ≤ f) : 0 ≤ x / f ∧ x / f ≤ x := by
  refine ⟨Int.ediv_nonneg x0 (by omega), ?_⟩
  exact Int.ediv_le_self f x0

def zE (E x : Int) : Int := if E = 0 then x else 0
theorem zE_0 (x : Int) : zE 0 x = x := if_pos rfl
theorem zE_n {E x : Int} (h : E ≠ 0) : zE E x = 0 := if_neg h
def aE (t f d o n p m : Int) : Int := if SV t f d o then (if AV n p m then 0 else 4) else 171
def sE (t f d o n : Int) : Int := if SV t f d o then (if NV n then 0 else 4) else 171
def bE (f t : Int) : Int := if OV f ∧ OV t then 0 else 4
def kK (t f d o n p m : Int) : Int := max (al t f (min (d + n) 2147483648) o n p m) 0
def dE (d a i r k v : Int) : Int := if RV d a i r k then (if TV v then 0 else 4) else 171

/-- A rate. -/
def rt (o k : Int) : Int := min (o * 1024 / k) 1073741824

end Go.Proofs.Ytlkpcojhpndieaa.Pr
