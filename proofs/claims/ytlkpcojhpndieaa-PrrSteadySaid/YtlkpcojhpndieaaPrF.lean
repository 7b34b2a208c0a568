/- Prr: Send and Deliver by one word. -/
import Derived.Test.YtlkpcojhpndieaaPrP
import Derived.Test.YtlkpcojhpndieaaPrD
import Derived.Test.YtlkpcojhpndieaaPrE
namespace Go.Proofs.Ytlkpcojhpndieaa.Pr
/-- A rate; what is remembered with a segment. -/
structure Rt where
  d : Int
  a : Int
  i : Int
  r : Int
  k : Int
structure Se where
  d : Int
  a : Int
  i : Int
  l : Int
def Rt.may (s : Rt) : Prop := RV s.d s.a s.i s.r s.k
instance (s : Rt) : Decidable s.may := by unfold Rt.may; infer_instance
def Dok (p : Se) (n v : Int) : Prop := DV n v p.d p.a p.i p.l
instance (p : Se) (n v : Int) : Decidable (Dok p n v) := by unfold Dok; infer_instance
def Zr : Rt := ⟨0, 0, 0, 0, 0⟩
def Zs : Se := ⟨0, 0, 0, 0⟩
def ndE (s : Rt) (v : Int) : Int := if s.may then (if TV v then 0 else 4) else 171
def ndR (s : Rt) (v : Int) (b : Bool) : Rt := if s.may then (if TV v then (bif b then ⟨s.d, v, v, s.r, s.k⟩ else s) else Zr) else Zr
def ndS (s : Rt) (v : Int) (b : Bool) : Se := if s.may then (if TV v then (bif b then ⟨s.d, v, v, v⟩ else ⟨s.d, s.a, s.i, v⟩) else Zs) else Zs
def dl1 (s : Rt) (p : Se) (n v : Int) : Rt :=
  if s.k ≤ p.d then ⟨min (s.d + n) 1099511627776, v, p.l, min (s.r + 1) 1099511627776, min (s.d + n) 1099511627776⟩
  else ⟨min (s.d + n) 1099511627776, v, p.l, s.r, s.k⟩
def oc (s : Rt) (p : Se) (n : Int) : Int := min (s.d + n) 1099511627776 - p.d
def tk (p : Se) (v : Int) : Int := max (p.l - p.i) (v - p.a)
def dvE (s : Rt) (p : Se) (n v : Int) : Int := if s.may then (if Dok p n v then 0 else 4) else 171
def dvR (s : Rt) (p : Se) (n v : Int) : Rt := if s.may then (if Dok p n v then dl1 s p n v else Zr) else Zr
def dvB (s : Rt) (p : Se) (n v : Int) : Bool := decide (s.may ∧ Dok p n v ∧ 0 < oc s p n ∧ 0 < tk p v)
def dvK (s : Rt) (p : Se) (n v : Int) : Int := if s.may ∧ Dok p n v ∧ 0 < oc s p n ∧ 0 < tk p v then min (oc s p n * 1024 / tk p v) 1073741824 else 0
theorem nd_may {s : Rt} {v : Int} (b : Bool) (h : s.may) (hv : TV v) : (ndR s v b).may := by
  have hm := h
  obtain ⟨h1, _, _, h4, h5⟩ := h
  unfold ndR
  rw [if_pos hm, if_pos hv]
  cases b
  · exact hm
  · exact ⟨h1, hv, hv, h4, h5⟩
theorem dl1_may {s : Rt} {p : Se} {n v : Int} (h : s.may) (hd : Dok p n v) : (dl1 s p n v).may := by
  obtain ⟨⟨a1, a2⟩, _, _, ⟨b1, b2⟩, h5⟩ := h
  obtain ⟨⟨n1, n2⟩, hv, _, _, _, hl⟩ := hd
  unfold dl1
  split
  · exact ⟨⟨by dsimp only; omega, by dsimp only; omega⟩, hv, hl, ⟨by dsimp only; omega, by dsimp only; omega⟩, ⟨by dsimp only; omega, by dsimp only; omega⟩⟩
  · exact ⟨⟨by dsimp only; omega, by dsimp only; omega⟩, hv, hl, ⟨b1, b2⟩, h5⟩
end Go.Proofs.Ytlkpcojhpndieaa.Pr
namespace Go.Proofs.Ytlkpcojhpndieaa
open Go.RowKit Go.Proofs.Ytlkpcojhpndieaa.Pr

theorem send_l (s : Rt) (v : Int) (b : Bool) (x : Rt) (y : Se) (E : Int) (hE : ndE s v = E) (hx : ndR s v b = x) (hy : ndS s v b = y) (w : World) : Calls Try.prog 15 #[.agg #[.int .i64 s.d, .int .i64 s.a, .int .i64 s.i, .int .i64 s.r, .int .i64 s.k], .int .i64 v, .bool b] w fun e w' => e = .returned (.tuple #[.agg #[.int .i64 x.d, .int .i64 x.a, .int .i64 x.i, .int .i64 x.r, .int .i64 x.k], .agg #[.int .i64 y.d, .int .i64 y.a, .int .i64 y.i, .int .i64 y.l], .int .i64 E]) ∧ Below w.heap.size w w' := by
  subst hE hx hy
  by_cases hS : s.may
  · by_cases hV : TV v
    · rw [show ndE s v = 0 by rw [ndE, if_pos hS, if_pos hV]]
      cases b
      · rw [show ndR s v false = s by rw [ndR, if_pos hS, if_pos hV]; rfl, show ndS s v false = ⟨s.d, s.a, s.i, v⟩ by rw [ndS, if_pos hS, if_pos hV]; rfl]
        exact send_false s.d s.a s.i s.r s.k v w hS hV
      · rw [show ndR s v true = ⟨s.d, v, v, s.r, s.k⟩ by rw [ndR, if_pos hS, if_pos hV]; rfl, show ndS s v true = ⟨s.d, v, v, v⟩ by rw [ndS, if_pos hS, if_pos hV]; rfl]
        exact send_true s.d s.a s.i s.r s.k v w hS hV
    · rw [show ndE s v = 4 by rw [ndE, if_pos hS, if_neg hV], show ndR s v b = Zr by rw [ndR, if_pos hS, if_neg hV], show ndS s v b = Zs by rw [ndS, if_pos hS, if_neg hV]]
      exact send_v s.d s.a s.i s.r s.k v b w hS hV
  · rw [show ndE s v = 171 by rw [ndE, if_neg hS], show ndR s v b = Zr by rw [ndR, if_neg hS], show ndS s v b = Zs by rw [ndS, if_neg hS]]
    exact send_s s.d s.a s.i s.r s.k v b w hS
theorem deliver_l (s : Rt) (p : Se) (n v : Int) (x : Rt) (K : Int) (B : Bool) (E : Int) (hE : dvE s p n v = E) (hx : dvR s p n v = x) (hK : dvK s p n v = K) (hB : dvB s p n v = B) (w : World) : Calls Try.prog 17 #[.agg #[.int .i64 s.d, .int .i64 s.a, .int .i64 s.i, .int .i64 s.r, .int .i64 s.k], .agg #[.int .i64 p.d, .int .i64 p.a, .int .i64 p.i, .int .i64 p.l], .int .i64 n, .int .i64 v] w fun e w' => e = .returned (.tuple #[.agg #[.int .i64 x.d, .int .i64 x.a, .int .i64 x.i, .int .i64 x.r, .int .i64 x.k], .int .i64 K, .bool B, .int .i64 E]) ∧ Below w.heap.size w w' := by
  subst hE hx hK hB
  by_cases hS : s.may
  case neg =>
    rw [show dvE s p n v = 171 by rw [dvE, if_neg hS], show dvR s p n v = Zr by rw [dvR, if_neg hS], show dvK s p n v = 0 from if_neg (fun h => hS h.1), show dvB s p n v = false from decide_eq_false (fun h => hS h.1)]
    exact deliver_s s.d s.a s.i s.r s.k p.d p.a p.i p.l n v w hS
  by_cases hD : Dok p n v
  case neg =>
    rw [show dvE s p n v = 4 by rw [dvE, if_pos hS, if_neg hD], show dvR s p n v = Zr by rw [dvR, if_pos hS, if_neg hD], show dvK s p n v = 0 from if_neg (fun h => hD h.2.1), show dvB s p n v = false from decide_eq_false (fun h => hD h.2.1)]
    exact deliver_d s.d s.a s.i s.r s.k p.d p.a p.i p.l n v w hS hD
  rw [show dvE s p n v = 0 by rw [dvE, if_pos hS, if_pos hD], show dvR s p n v = dl1 s p n v by rw [dvR, if_pos hS, if_pos hD]]
  by_cases hk : s.k ≤ p.d
  case pos =>
    rw [show dl1 s p n v = ⟨min (s.d + n) 1099511627776, v, p.l, min (s.r + 1) 1099511627776, min (s.d + n) 1099511627776⟩ from if_pos hk]
    by_cases h0 : 0 < oc s p n
    case neg =>
      rw [show dvK s p n v = 0 from if_neg (fun h => h0 h.2.2.1), show dvB s p n v = false from decide_eq_false (fun h => h0 h.2.2.1)]
      exact deliver_mo s.d s.a s.i s.r s.k p.d p.a p.i p.l n v (min (s.d + n) 1099511627776) (min (s.r + 1) 1099511627776) (oc s p n) (tk p v) w hS hD rfl rfl rfl rfl hk (by omega)
    by_cases h1 : 0 < tk p v
    case neg =>
      rw [show dvK s p n v = 0 from if_neg (fun h => h1 h.2.2.2), show dvB s p n v = false from decide_eq_false (fun h => h1 h.2.2.2)]
      exact deliver_mt s.d s.a s.i s.r s.k p.d p.a p.i p.l n v (min (s.d + n) 1099511627776) (min (s.r + 1) 1099511627776) (oc s p n) (tk p v) w hS hD rfl rfl rfl rfl hk h0 (by omega)
    rw [show dvK s p n v = min (oc s p n * 1024 / tk p v) 1073741824 from if_pos ⟨hS, hD, h0, h1⟩, show dvB s p n v = true from decide_eq_true ⟨hS, hD, h0, h1⟩]
    exact deliver_mr s.d s.a s.i s.r s.k p.d p.a p.i p.l n v (min (s.d + n) 1099511627776) (min (s.r + 1) 1099511627776) (oc s p n) (tk p v) (min (oc s p n * 1024 / tk p v) 1073741824) w hS hD rfl rfl rfl rfl hk h0 h1 rfl
  case neg =>
    rw [show dl1 s p n v = ⟨min (s.d + n) 1099511627776, v, p.l, s.r, s.k⟩ from if_neg hk]
    by_cases h0 : 0 < oc s p n
    case neg =>
      rw [show dvK s p n v = 0 from if_neg (fun h => h0 h.2.2.1), show dvB s p n v = false from decide_eq_false (fun h => h0 h.2.2.1)]
      exact deliver_no s.d s.a s.i s.r s.k p.d p.a p.i p.l n v (min (s.d + n) 1099511627776) (min (s.r + 1) 1099511627776) (oc s p n) (tk p v) w hS hD rfl rfl rfl rfl (by omega) (by omega)
    by_cases h1 : 0 < tk p v
    case neg =>
      rw [show dvK s p n v = 0 from if_neg (fun h => h1 h.2.2.2), show dvB s p n v = false from decide_eq_false (fun h => h1 h.2.2.2)]
      exact deliver_nt s.d s.a s.i s.r s.k p.d p.a p.i p.l n v (min (s.d + n) 1099511627776) (min (s.r + 1) 1099511627776) (oc s p n) (tk p v) w hS hD rfl rfl rfl rfl (by omega) h0 (by omega)
    rw [show dvK s p n v = min (oc s p n * 1024 / tk p v) 1073741824 from if_pos ⟨hS, hD, h0, h1⟩, show dvB s p n v = true from decide_eq_true ⟨hS, hD, h0, h1⟩]
    exact deliver_nr s.d s.a s.i s.r s.k p.d p.a p.i p.l n v (min (s.d + n) 1099511627776) (min (s.r + 1) 1099511627776) (oc s p n) (tk p v) (min (oc s p n * 1024 / tk p v) 1073741824) w hS hD rfl rfl rfl rfl (by omega) h0 h1 rfl
theorem rsend_l (s : Rt) (v : Int) (b : Bool) (x : Rt) (y : Se) (E : Int) (hE : ndE s v = E) (hx : ndR s v b = x) (hy : ndS s v b = y) (w : World) : Calls Try.prog 16 #[.agg #[.int .i64 s.d, .int .i64 s.a, .int .i64 s.i, .int .i64 s.r, .int .i64 s.k], .int .i64 v, .bool b] w fun e w' => e = .returned (.tuple #[.agg #[.int .i64 x.d, .int .i64 x.a, .int .i64 x.i, .int .i64 x.r, .int .i64 x.k], .agg #[.int .i64 y.d, .int .i64 y.a, .int .i64 y.i, .int .i64 y.l], .int .i64 E]) ∧ Below w.heap.size w w' := by
  subst hE hx hy
  by_cases hS : s.may
  · by_cases hV : TV v
    · rw [show ndE s v = 0 by rw [ndE, if_pos hS, if_pos hV]]
      cases b
      · rw [show ndR s v false = s by rw [ndR, if_pos hS, if_pos hV]; rfl, show ndS s v false = ⟨s.d, s.a, s.i, v⟩ by rw [ndS, if_pos hS, if_pos hV]; rfl]
        exact rsend_f s.d s.a s.i s.r s.k v w hS hV
      · rw [show ndR s v true = ⟨s.d, v, v, s.r, s.k⟩ by rw [ndR, if_pos hS, if_pos hV]; rfl, show ndS s v true = ⟨s.d, v, v, v⟩ by rw [ndS, if_pos hS, if_pos hV]; rfl]
        exact rsend_t s.d s.a s.i s.r s.k v w hS hV
    · rw [show ndE s v = 4 by rw [ndE, if_pos hS, if_neg hV], show ndR s v b = Zr by rw [ndR, if_pos hS, if_neg hV], show ndS s v b = Zs by rw [ndS, if_pos hS, if_neg hV]]
      exact rsend_v s.d s.a s.i s.r s.k v b w hS hV
  · rw [show ndE s v = 171 by rw [ndE, if_neg hS], show ndR s v b = Zr by rw [ndR, if_neg hS], show ndS s v b = Zs by rw [ndS, if_neg hS]]
    exact rsend_s s.d s.a s.i s.r s.k v b w hS
theorem rdeliver_l (s : Rt) (p : Se) (n v : Int) (x : Rt) (K : Int) (B : Bool) (E : Int) (hE : dvE s p n v = E) (hx : dvR s p n v = x) (hK : dvK s p n v = K) (hB : dvB s p n v = B) (w : World) : Calls Try.prog 18 #[.agg #[.int .i64 s.d, .int .i64 s.a, .int .i64 s.i, .int .i64 s.r, .int .i64 s.k], .agg #[.int .i64 p.d, .int .i64 p.a, .int .i64 p.i, .int .i64 p.l], .int .i64 n, .int .i64 v] w fun e w' => e = .returned (.tuple #[.agg #[.int .i64 x.d, .int .i64 x.a, .int .i64 x.i, .int .i64 x.r, .int .i64 x.k], .int .i64 K, .bool B, .int .i64 E]) ∧ Below w.heap.size w w' := by
  subst hE hx hK hB
  by_cases hS : s.may
  case neg =>
    rw [show dvE s p n v = 171 by rw [dvE, if_neg hS], show dvR s p n v = Zr by rw [dvR, if_neg hS], show dvK s p n v = 0 from if_neg (fun h => hS h.1), show dvB s p n v = false from decide_eq_false (fun h => hS h.1)]
    exact rdeliver_s s.d s.a s.i s.r s.k p.d p.a p.i p.l n v w hS
  by_cases hD : Dok p n v
  case neg =>
    rw [show dvE s p n v = 4 by rw [dvE, if_pos hS, if_neg hD], show dvR s p n v = Zr by rw [dvR, if_pos hS, if_neg hD], show dvK s p n v = 0 from if_neg (fun h => hD h.2.1), show dvB s p n v = false from decide_eq_false (fun h => hD h.2.1)]
    exact rdeliver_d s.d s.a s.i s.r s.k p.d p.a p.i p.l n v w hS hD
  rw [show dvE s p n v = 0 by rw [dvE, if_pos hS, if_pos hD], show dvR s p n v = dl1 s p n v by rw [dvR, if_pos hS, if_pos hD]]
  by_cases hk : s.k ≤ p.d
  case pos =>
    rw [show dl1 s p n v = ⟨min (s.d + n) 1099511627776, v, p.l, min (s.r + 1) 1099511627776, min (s.d + n) 1099511627776⟩ from if_pos hk]
    by_cases h0 : 0 < oc s p n
    case neg =>
      rw [show dvK s p n v = 0 from if_neg (fun h => h0 h.2.2.1), show dvB s p n v = false from decide_eq_false (fun h => h0 h.2.2.1)]
      exact rdeliver_mo s.d s.a s.i s.r s.k p.d p.a p.i p.l n v (min (s.d + n) 1099511627776) (min (s.r + 1) 1099511627776) (oc s p n) (tk p v) w hS hD rfl rfl rfl rfl hk (by omega)
    by_cases h1 : 0 < tk p v
    case neg =>
      rw [show dvK s p n v = 0 from if_neg (fun h => h1 h.2.2.2), show dvB s p n v = false from decide_eq_false (fun h => h1 h.2.2.2)]
      exact rdeliver_mt s.d s.a s.i s.r s.k p.d p.a p.i p.l n v (min (s.d + n) 1099511627776) (min (s.r + 1) 1099511627776) (oc s p n) (tk p v) w hS hD rfl rfl rfl rfl hk h0 (by omega)
    rw [show dvK s p n v = min (oc s p n * 1024 / tk p v) 1073741824 from if_pos ⟨hS, hD, h0, h1⟩, show dvB s p n v = true from decide_eq_true ⟨hS, hD, h0, h1⟩]
    exact rdeliver_mr s.d s.a s.i s.r s.k p.d p.a p.i p.l n v (min (s.d + n) 1099511627776) (min (s.r + 1) 1099511627776) (oc s p n) (tk p v) (min (oc s p n * 1024 / tk p v) 1073741824) w hS hD rfl rfl rfl rfl hk h0 h1 rfl
  case neg =>
    rw [show dl1 s p n v = ⟨min (s.d + n) 1099511627776, v, p.l, s.r, s.k⟩ from if_neg hk]
    by_cases h0 : 0 < oc s p n
    case neg =>
      rw [show dvK s p n v = 0 from if_neg (fun h => h0 h.2.2.1), show dvB s p n v = false from decide_eq_false (fun h => h0 h.2.2.1)]
      exact rdeliver_no s.d s.a s.i s.r s.k p.d p.a p.i p.l n v (min (s.d + n) 1099511627776) (min (s.r + 1) 1099511627776) (oc s p n) (tk p v) w hS hD rfl rfl rfl rfl (by omega) (by omega)
    by_cases h1 : 0 < tk p v
    case neg =>
      rw [show dvK s p n v = 0 from if_neg (fun h => h1 h.2.2.2), show dvB s p n v = false from decide_eq_false (fun h => h1 h.2.2.2)]
      exact rdeliver_nt s.d s.a s.i s.r s.k p.d p.a p.i p.l n v (min (s.d + n) 1099511627776) (min (s.r + 1) 1099511627776) (oc s p n) (tk p v) w hS hD rfl rfl rfl rfl (by omega) h0 (by omega)
    rw [show dvK s p n v = min (oc s p n * 1024 / tk p v) 1073741824 from if_pos ⟨hS, hD, h0, h1⟩, show dvB s p n v = true from decide_eq_true ⟨hS, hD, h0, h1⟩]
    exact rdeliver_nr s.d s.a s.i s.r s.k p.d p.a p.i p.l n v (min (s.d + n) 1099511627776) (min (s.r + 1) 1099511627776) (oc s p n) (tk p v) (min (oc s p n * 1024 / tk p v) 1073741824) w hS hD rfl rfl rfl rfl (by omega) h0 h1 rfl

end Go.Proofs.Ytlkpcojhpndieaa
