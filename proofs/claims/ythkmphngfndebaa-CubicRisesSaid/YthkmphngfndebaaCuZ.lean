/- Cubic: each call by one word. -/
import Derived.Test.YthkmphngfndebaaCuE1
import Derived.Test.YthkmphngfndebaaCuE2
import Derived.Test.YthkmphngfndebaaCuE3
import Derived.Test.YthkmphngfndebaaCuE4
namespace Go.Proofs.Ythkmphngfndebaa.Cu
def crO (o m d : Int) : Int := if WV o ∧ MV m then crv o m d else 0
def trO (o c m : Int) : Int := if (WV o ∧ WV c) ∧ MV m then trn o c m else 0
def akO (x : CS) (m n v r : Int) : CS := if MV m ∧ CV x m ∧ AV n v r then ak x m n v r else Z
def lsO (x : CS) (m : Int) : CS := if MV m ∧ CV x m then ls x m else Z
def tmO (x : CS) (m : Int) : CS := if MV m ∧ CV x m then { ls x m with c := m } else Z
def nwE (m : Int) : Int := if MV m then 0 else 4
def nwO (m : Int) : CS := if MV m then ⟨min (10 * m) (max (2 * m) 14600), 1073741824, 0, 0, 0, 0, false⟩ else Z
end Go.Proofs.Ythkmphngfndebaa.Cu
namespace Go.Proofs.Ythkmphngfndebaa
open Go.RowKit Go.Proofs.Ythkmphngfndebaa.Cu

theorem num_any (n : Int) (w : World) : Calls Try.prog 13 #[.int .i64 n] w fun e w' => e = .returned (.int .i64 n) ∧ w = w' := by
  go_enter Try.func13, Try.ntmps13
  go_wp2
  go_ret
  exact ⟨rfl, rfl⟩
theorem below_of {w w' : World} (h : w = w') : Below w.heap.size w w' := by rw [← h]; exact Below.refl _ _
theorem pcurve (o m d c E : Int) (hE : crE o m = E) (hc : crO o m d = c) (w : World) : Calls Try.prog 9 #[.int .i64 o, .int .i64 m, .int .i64 d] w fun e w' => e = .returned (.tuple #[.int .i64 c, .int .i64 E]) ∧ Below w.heap.size w w' := by
  subst hE hc
  by_cases hO : WV o
  · by_cases hM : MV m
    · rw [show crE o m = 0 from if_pos ⟨hO, hM⟩, show crO o m d = crv o m d from if_pos ⟨hO, hM⟩]; exact curve_ok o m d w hO hM
    · rw [show crE o m = 4 from if_neg (fun h => hM h.2), show crO o m d = 0 from if_neg (fun h => hM h.2)]; exact curve_m o m d w hO hM
  · rw [show crE o m = 4 from if_neg (fun h => hO h.1), show crO o m d = 0 from if_neg (fun h => hO h.1)]; exact curve_o o m d w hO
theorem pturn (o c m u E : Int) (hE : trE o c m = E) (hu : trO o c m = u) (w : World) : Calls Try.prog 11 #[.int .i64 o, .int .i64 c, .int .i64 m] w fun e w' => e = .returned (.tuple #[.int .i64 u, .int .i64 E]) ∧ Below w.heap.size w w' := by
  subst hE hu
  by_cases hO : WV o ∧ WV c
  · by_cases hM : MV m
    · rw [show trE o c m = 0 from if_pos ⟨hO, hM⟩, show trO o c m = trn o c m from if_pos ⟨hO, hM⟩]; exact turn_ok o c m w hO hM
    · rw [show trE o c m = 4 from if_neg (fun h => hM h.2), show trO o c m = 0 from if_neg (fun h => hM h.2)]; exact turn_m o c m w hO hM
  · rw [show trE o c m = 4 from if_neg (fun h => hO h.1), show trO o c m = 0 from if_neg (fun h => hO h.1)]
    exact turn_o o c m w hO
theorem pnew (m E : Int) (x : CS) (hE : nwE m = E) (hx : nwO m = x) (w : World) : Calls Try.prog 21 #[.int .i64 m] w fun e w' => e = .returned (.tuple #[.agg #[.int .i64 x.c, .int .i64 x.t, .int .i64 x.m, .int .i64 x.u, .int .i64 x.e, .int .i64 x.s, .bool x.h], .int .i64 E]) ∧ Below w.heap.size w w' := by
  subst hE hx
  by_cases hM : MV m
  · rw [show nwE m = 0 from if_pos hM, show nwO m = ⟨min (10 * m) (max (2 * m) 14600), 1073741824, 0, 0, 0, 0, false⟩ from if_pos hM]; exact new_ok m w hM
  · rw [show nwE m = 4 from if_neg hM, show nwO m = Cu.Z from if_neg hM]; exact new_no m w hM
theorem ploss (x y : CS) (m E : Int) (hE : cE x m = E) (hy : lsO x m = y) (w : World) : Calls Try.prog 17 #[.agg #[.int .i64 x.c, .int .i64 x.t, .int .i64 x.m, .int .i64 x.u, .int .i64 x.e, .int .i64 x.s, .bool x.h], .int .i64 m] w fun e w' => e = .returned (.tuple #[.agg #[.int .i64 y.c, .int .i64 y.t, .int .i64 y.m, .int .i64 y.u, .int .i64 y.e, .int .i64 y.s, .bool y.h], .int .i64 E]) ∧ Below w.heap.size w w' := by
  subst hy
  by_cases h : MV m ∧ CV x m
  · obtain ⟨hM, hV⟩ := h
    subst hE
    rw [show cE x m = 0 by rw [cE, if_pos hM, if_pos hV], show lsO x m = ls x m from if_pos ⟨hM, hV⟩]; exact loss_ok x (ls x m) m w hM hV rfl
  · rw [show lsO x m = Cu.Z from if_neg h]
    refine loss_e x m E w hE ?_
    rw [← hE]; unfold cE
    split
    · split
      · exact absurd ⟨by assumption, by assumption⟩ h
      · decide
    · decide
theorem ptimeout (x y : CS) (m E : Int) (hE : cE x m = E) (hy : tmO x m = y) (w : World) : Calls Try.prog 19 #[.agg #[.int .i64 x.c, .int .i64 x.t, .int .i64 x.m, .int .i64 x.u, .int .i64 x.e, .int .i64 x.s, .bool x.h], .int .i64 m] w fun e w' => e = .returned (.tuple #[.agg #[.int .i64 y.c, .int .i64 y.t, .int .i64 y.m, .int .i64 y.u, .int .i64 y.e, .int .i64 y.s, .bool y.h], .int .i64 E]) ∧ Below w.heap.size w w' := by
  subst hy
  by_cases h : MV m ∧ CV x m
  · obtain ⟨hM, hV⟩ := h
    subst hE
    rw [show cE x m = 0 by rw [cE, if_pos hM, if_pos hV], show tmO x m = { ls x m with c := m } from if_pos ⟨hM, hV⟩]; exact timeout_ok x (ls x m) m w hM hV rfl
  · rw [show tmO x m = Cu.Z from if_neg h]
    refine timeout_e x m E w hE ?_
    rw [← hE]; unfold cE
    split
    · split
      · exact absurd ⟨by assumption, by assumption⟩ h
      · decide
    · decide
set_option maxRecDepth 100000 in
set_option maxHeartbeats 1000000 in
theorem pack (x y : CS) (m n v r E : Int) (hE : akE x m n v r = E) (hy : akO x m n v r = y) (w : World) : Calls Try.prog 15 #[.agg #[.int .i64 x.c, .int .i64 x.t, .int .i64 x.m, .int .i64 x.u, .int .i64 x.e, .int .i64 x.s, .bool x.h], .int .i64 m, .int .i64 n, .int .i64 v, .int .i64 r] w fun e w' => e = .returned (.tuple #[.agg #[.int .i64 y.c, .int .i64 y.t, .int .i64 y.m, .int .i64 y.u, .int .i64 y.e, .int .i64 y.s, .bool y.h], .int .i64 E]) ∧ Below w.heap.size w w' := by
  subst hy
  by_cases h : MV m ∧ CV x m
  · obtain ⟨hM, hV⟩ := h
    subst hE
    by_cases hA : AV n v r
    case neg =>
      rw [show akE x m n v r = 4 by rw [akE, if_pos hM, if_pos hV, if_neg hA], show akO x m n v r = Cu.Z from if_neg (fun h => hA h.2.2)]; exact ack_a x m n v r w hM hV hA
    rw [show akE x m n v r = 0 by rw [akE, if_pos hM, if_pos hV, if_pos hA], show akO x m n v r = ak x m n v r from if_pos ⟨hM, hV, hA⟩]
    by_cases hct : x.c < x.t
    · rw [show ak x m n v r = { x with c := min (x.c + min n m) 1073741824 } from if_pos hct]; exact ack_slow x m n v r w hM hV hA hct
    · rw [show ak x m n v r = go1 (bgo x m v) m n (tt (bgo x m v) v r) from if_neg hct]
      by_cases hh : x.h = true
      case neg => rw [show bgo x m v = bg x m v from if_neg hh]; exact ack_new x (go1 (bg x m v) m n (tt (bg x m v) v r)) (bg x m v) m n v r w hM hV hA (by omega) (Bool.eq_false_iff.2 hh) rfl rfl
      case pos => rw [show bgo x m v = x from if_pos hh]; exact ack_on x (go1 x m n (tt x v r)) m n v r w hM hV hA (by omega) hh rfl
  · rw [show akO x m n v r = Cu.Z from if_neg (fun hh => h ⟨hh.1, hh.2.1⟩)]
    have e1 : cE x m = E := by
      rw [← hE]; unfold cE akE
      split
      · split
        · exact absurd ⟨by assumption, by assumption⟩ h
        · rfl
      · rfl
    refine ack_e x m E n v r w e1 ?_
    rw [← e1]; unfold cE
    split
    · split
      · exact absurd ⟨by assumption, by assumption⟩ h
      · decide
    · decide
theorem dcurve (o m d c E : Int) (hE : crE o m = E) (hc : crO o m d = c) (w : World) : Calls Try.prog 10 #[.int .i64 o, .int .i64 m, .int .i64 d] w fun e w' => e = .returned (.tuple #[.int .i64 c, .int .i64 E]) ∧ Below w.heap.size w w' := by
  subst hE hc
  by_cases hO : WV o
  · by_cases hM : MV m
    · rw [show crE o m = 0 from if_pos ⟨hO, hM⟩, show crO o m d = crv o m d from if_pos ⟨hO, hM⟩]; exact ((rcurve_ok o m d w hO hM).mono fun _ _ h => ⟨h.1, below_of h.2⟩)
    · rw [show crE o m = 4 from if_neg (fun h => hM h.2), show crO o m d = 0 from if_neg (fun h => hM h.2)]; exact ((rcurve_m o m d w hO hM).mono fun _ _ h => ⟨h.1, below_of h.2⟩)
  · rw [show crE o m = 4 from if_neg (fun h => hO h.1), show crO o m d = 0 from if_neg (fun h => hO h.1)]; exact ((rcurve_o o m d w hO).mono fun _ _ h => ⟨h.1, below_of h.2⟩)
theorem dturn (o c m u E : Int) (hE : trE o c m = E) (hu : trO o c m = u) (w : World) : Calls Try.prog 12 #[.int .i64 o, .int .i64 c, .int .i64 m] w fun e w' => e = .returned (.tuple #[.int .i64 u, .int .i64 E]) ∧ Below w.heap.size w w' := by
  subst hE hu
  by_cases hO : WV o ∧ WV c
  · by_cases hM : MV m
    · rw [show trE o c m = 0 from if_pos ⟨hO, hM⟩, show trO o c m = trn o c m from if_pos ⟨hO, hM⟩]; exact ((rturn_l o c m hO hM w).mono fun _ _ h => ⟨h.1, below_of h.2⟩)
    · rw [show trE o c m = 4 from if_neg (fun h => hM h.2), show trO o c m = 0 from if_neg (fun h => hM h.2)]; exact ((rturn_m o c m w hO.1 hO.2 hM).mono fun _ _ h => ⟨h.1, below_of h.2⟩)
  · rw [show trE o c m = 4 from if_neg (fun h => hO h.1), show trO o c m = 0 from if_neg (fun h => hO h.1)]
    exact (by
      by_cases h1 : WV o
      · exact ((rturn_c o c m w h1 (fun h => hO ⟨h1, h⟩)).mono fun _ _ h => ⟨h.1, below_of h.2⟩)
      · exact ((rturn_o o c m w h1).mono fun _ _ h => ⟨h.1, below_of h.2⟩))
theorem dnew (m E : Int) (x : CS) (hE : nwE m = E) (hx : nwO m = x) (w : World) : Calls Try.prog 22 #[.int .i64 m] w fun e w' => e = .returned (.tuple #[.agg #[.int .i64 x.c, .int .i64 x.t, .int .i64 x.m, .int .i64 x.u, .int .i64 x.e, .int .i64 x.s, .bool x.h], .int .i64 E]) ∧ Below w.heap.size w w' := by
  subst hE hx
  by_cases hM : MV m
  · rw [show nwE m = 0 from if_pos hM, show nwO m = ⟨min (10 * m) (max (2 * m) 14600), 1073741824, 0, 0, 0, 0, false⟩ from if_pos hM]; exact rnew_ok m w hM
  · rw [show nwE m = 4 from if_neg hM, show nwO m = Cu.Z from if_neg hM]; exact rnew_no m w hM
theorem dloss (x y : CS) (m E : Int) (hE : cE x m = E) (hy : lsO x m = y) (w : World) : Calls Try.prog 18 #[.agg #[.int .i64 x.c, .int .i64 x.t, .int .i64 x.m, .int .i64 x.u, .int .i64 x.e, .int .i64 x.s, .bool x.h], .int .i64 m] w fun e w' => e = .returned (.tuple #[.agg #[.int .i64 y.c, .int .i64 y.t, .int .i64 y.m, .int .i64 y.u, .int .i64 y.e, .int .i64 y.s, .bool y.h], .int .i64 E]) ∧ Below w.heap.size w w' := by
  subst hy
  by_cases h : MV m ∧ CV x m
  · obtain ⟨hM, hV⟩ := h
    subst hE
    rw [show cE x m = 0 by rw [cE, if_pos hM, if_pos hV], show lsO x m = ls x m from if_pos ⟨hM, hV⟩]; exact rloss_l x (ls x m) m rfl w hM hV
  · rw [show lsO x m = Cu.Z from if_neg h]
    refine rloss_e x m E w hE ?_
    rw [← hE]; unfold cE
    split
    · split
      · exact absurd ⟨by assumption, by assumption⟩ h
      · decide
    · decide
theorem dtimeout (x y : CS) (m E : Int) (hE : cE x m = E) (hy : tmO x m = y) (w : World) : Calls Try.prog 20 #[.agg #[.int .i64 x.c, .int .i64 x.t, .int .i64 x.m, .int .i64 x.u, .int .i64 x.e, .int .i64 x.s, .bool x.h], .int .i64 m] w fun e w' => e = .returned (.tuple #[.agg #[.int .i64 y.c, .int .i64 y.t, .int .i64 y.m, .int .i64 y.u, .int .i64 y.e, .int .i64 y.s, .bool y.h], .int .i64 E]) ∧ Below w.heap.size w w' := by
  subst hy
  by_cases h : MV m ∧ CV x m
  · obtain ⟨hM, hV⟩ := h
    subst hE
    rw [show cE x m = 0 by rw [cE, if_pos hM, if_pos hV], show tmO x m = { ls x m with c := m } from if_pos ⟨hM, hV⟩]; exact rtimeout_ok x (ls x m) m w hM hV rfl
  · rw [show tmO x m = Cu.Z from if_neg h]
    refine rtimeout_e x m E w hE ?_
    rw [← hE]; unfold cE
    split
    · split
      · exact absurd ⟨by assumption, by assumption⟩ h
      · decide
    · decide
set_option maxRecDepth 100000 in
set_option maxHeartbeats 1000000 in
theorem dack (x y : CS) (m n v r E : Int) (hE : akE x m n v r = E) (hy : akO x m n v r = y) (w : World) : Calls Try.prog 16 #[.agg #[.int .i64 x.c, .int .i64 x.t, .int .i64 x.m, .int .i64 x.u, .int .i64 x.e, .int .i64 x.s, .bool x.h], .int .i64 m, .int .i64 n, .int .i64 v, .int .i64 r] w fun e w' => e = .returned (.tuple #[.agg #[.int .i64 y.c, .int .i64 y.t, .int .i64 y.m, .int .i64 y.u, .int .i64 y.e, .int .i64 y.s, .bool y.h], .int .i64 E]) ∧ Below w.heap.size w w' := by
  subst hy
  by_cases h : MV m ∧ CV x m
  · obtain ⟨hM, hV⟩ := h
    subst hE
    by_cases hA : AV n v r
    case neg =>
      rw [show akE x m n v r = 4 by rw [akE, if_pos hM, if_pos hV, if_neg hA], show akO x m n v r = Cu.Z from if_neg (fun h => hA h.2.2)]; exact rack_a x m n v r w hM hV hA
    rw [show akE x m n v r = 0 by rw [akE, if_pos hM, if_pos hV, if_pos hA], show akO x m n v r = ak x m n v r from if_pos ⟨hM, hV, hA⟩]
    by_cases hct : x.c < x.t
    · rw [show ak x m n v r = { x with c := min (x.c + min n m) 1073741824 } from if_pos hct]; exact rack_slow x m n v r w hM hV hA hct
    · rw [show ak x m n v r = go1 (bgo x m v) m n (tt (bgo x m v) v r) from if_neg hct]
      by_cases hh : x.h = true
      case neg =>
        rw [show bgo x m v = bg x m v from if_neg hh]
        have hh2 := Bool.eq_false_iff.2 hh
        obtain ⟨b, hb⟩ : ∃ b, bg x m v = b := ⟨_, rfl⟩
        rw [hb]
        by_cases hlt : crv b.m m (tt b v r - b.u) < es b m n
        · rw [show go1 b m n (tt b v r) = { b with s := es b m n, c := max b.c (es b m n) } by rw [go1, if_pos hlt]]; exact rack_new_lt x b m n v r w hM hV hA (by omega) hh2 hb hlt
        · rw [show go1 b m n (tt b v r) = { b with s := es b m n, c := min (b.c + (aim b (crv b.m m (tt b v r - b.u)) - b.c) * n / b.c) 1073741824 } by rw [go1, if_neg hlt]]; exact rack_new_ge x b m n v r w hM hV hA (by omega) hh2 hb hlt
      case pos =>
        rw [show bgo x m v = x from if_pos hh]
        have hh2 := hh
        by_cases hlt : crv x.m m (tt x v r - x.u) < es x m n
        · rw [show go1 x m n (tt x v r) = { x with s := es x m n, c := max x.c (es x m n) } by rw [go1, if_pos hlt]]; exact rack_on_lt x m n v r w hM hV hA (by omega) hh2 hlt
        · rw [show go1 x m n (tt x v r) = { x with s := es x m n, c := min (x.c + (aim x (crv x.m m (tt x v r - x.u)) - x.c) * n / x.c) 1073741824 } by rw [go1, if_neg hlt]]; exact rack_on_ge x m n v r w hM hV hA (by omega) hh2 hlt
  · rw [show akO x m n v r = Cu.Z from if_neg (fun hh => h ⟨hh.1, hh.2.1⟩)]
    have e1 : cE x m = E := by
      rw [← hE]; unfold cE akE
      split
      · split
        · exact absurd ⟨by assumption, by assumption⟩ h
        · rfl
      · rfl
    refine rack_e x m E n v r w e1 ?_
    rw [← e1]; unfold cE
    split
    · split
      · exact absurd ⟨by assumption, by assumption⟩ h
      · decide
    · decide
theorem ex_root : IsC 26 2 ∧ IsC 27 3 := ⟨⟨by decide +kernel⟩, ⟨by decide +kernel⟩⟩
theorem ex_curve : crE 10000 1000 = 0 ∧ crO 10000 1000 1024 = 10400 := by decide +kernel
theorem ex_turn : trE 14000 10000 1000 = 0 ∧ trO 14000 10000 1000 = 2206 := by decide +kernel
set_option maxHeartbeats 2000000 in
theorem alive_any  (w : World)  :
    Calls Try.prog 14 #[] w fun e w' => e = .returned (.bool true) ∧ Below w.heap.size w w' := by
  have q_0 := Below.refl w.heap.size w
  go_enter Try.func14, Try.ntmps14
  go_wp2_with fail
  refine (pcurve 10000 1000 1024 10400 0 ex_curve.1 ex_curve.2 _).mono ?_
  rintro e V1 ⟨rfl, b⟩
  have q_1 := q_0.trans (b.mono q_0.size)
  clear q_0
  clear b
  go_wp2_with fail
  refine (pturn 14000 10000 1000 2206 0 ex_turn.1 ex_turn.2 _).mono ?_
  rintro e V2 ⟨rfl, b⟩
  have q_2 := q_1.trans (b.mono q_1.size)
  clear q_1
  clear b
  go_wp2_with fail
  refine (num_any _ _).mono ?_
  rintro e w' ⟨rfl, rfl⟩
  go_wp2_with fail
  refine (num_any _ _).mono ?_
  rintro e w' ⟨rfl, rfl⟩
  go_wp2_with fail
  refine (root_l 26 2 ex_root.1 _).mono ?_
  rintro e w' ⟨rfl, rfl⟩
  go_wp2_with fail
  refine (root_l 27 3 ex_root.2 _).mono ?_
  rintro e w' ⟨rfl, rfl⟩
  go_wp2
  go_ret
  exact ⟨rfl, q_2⟩

end Go.Proofs.Ythkmphngfndebaa
