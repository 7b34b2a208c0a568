/- Bbr: the page's example. -/
import Derived.Test.YtokoogohdfepiaaBbP
namespace Go.Proofs.Ytokoogohdfepiaa
open Go.RowKit

theorem fv_of {l : List Pair23} (h : (decide (l.length ≤ 10) && (List.range l.length).all fun i => match l[i]? with | none => true | some p => (decide (0 ≤ p.round) && decide (p.round ≤ 1099511627776) && decide (0 ≤ p.rate) && decide (p.rate ≤ 1073741824)) && (match i with | 0 => true | k + 1 => match l[k]? with | none => true | some q => decide (q.round < p.round) && decide (p.rate < q.rate))) = true) : FV l := by
  rw [Bool.and_eq_true, decide_eq_true_eq, List.all_eq_true] at h
  refine ⟨h.1, fun i hi p hp => ?_⟩
  have := h.2 i (List.mem_range.2 hi)
  rw [hp] at this
  simp only [Bool.and_eq_true, decide_eq_true_eq] at this
  refine ⟨⟨⟨this.1.1.1.1, this.1.1.1.2⟩, this.1.1.2, this.1.2⟩, fun q h0 hq => ?_⟩
  obtain ⟨k, rfl⟩ : ∃ k, i = k + 1 := ⟨i - 1, by omega⟩
  rw [Nat.add_sub_cancel] at hq
  have t2 := this.2
  simp only [hq, Bool.and_eq_true, decide_eq_true_eq] at t2
  exact t2
/-- Filter of a known list. -/
theorem pf_known {R r : Int} {l m : List Pair23} (a : Option Addr) (cap : Nat) (w : World) (h : Sts 2 PC Tr w a l) (hn : a = none → cap = 0) (hl : l.length ≤ 8796093022207) (hv : FV l) (hok : FOk l R r) (hm : filt R r l = m) :
    Calls Try.prog 10 #[.slice a l.length cap, .int .i64 R, .int .i64 r] w fun e w' => (∃ a' c', e = .returned (.tuple #[.slice a' m.length c', .int .i64 0]) ∧ OwnR 36 2 PC w.heap.size a' m c' w') ∧ Below w.heap.size w w' := by
  have h1 := pfilter_any R r a l cap w h hn hl
  obtain ⟨e1, e2⟩ := f_ok hv hok
  rw [e1, e2, hm] at h1
  exact h1
theorem k1 : filt 1 100 [] = [⟨1, 100⟩] := rfl
theorem k2 : filt 2 80 [⟨1, 100⟩] = [⟨1, 100⟩, ⟨2, 80⟩] := rfl
theorem k3 : filt 3 90 [⟨1, 100⟩, ⟨2, 80⟩] = [⟨1, 100⟩, ⟨3, 90⟩] := rfl
theorem k4 : filt 11 5 [⟨1, 100⟩, ⟨3, 90⟩] = [⟨3, 90⟩, ⟨11, 5⟩] := rfl
theorem v0 : FV [] := fv_of (by decide)
theorem v1 : FV [⟨1, 100⟩] := fv_of (by decide)
theorem v2 : FV [⟨1, 100⟩, ⟨2, 80⟩] := fv_of (by decide)
theorem v3 : FV [⟨1, 100⟩, ⟨3, 90⟩] := fv_of (by decide)
theorem o0 : FOk [] 1 100 := by unfold FOk; decide
theorem o1 : FOk [⟨1, 100⟩] 2 80 := by unfold FOk; decide
theorem o2 : FOk [⟨1, 100⟩, ⟨2, 80⟩] 3 90 := by unfold FOk; decide
theorem o3 : FOk [⟨1, 100⟩, ⟨3, 90⟩] 11 5 := by unfold FOk; decide
theorem num_q (n : Int) (w : World) : Calls Try.prog 13 #[.int .i64 n] w fun e w' => e = .returned (.int .i64 n) ∧ w' = w := (num_any n w).mono fun _ _ ⟨h1, h2⟩ => ⟨h1, h2.symm⟩

set_option maxRecDepth 100000 in
set_option maxHeartbeats 1000000 in
theorem alive_any (w : World) : Calls Try.prog 14 #[] w fun e w' => e = .returned (.bool true) ∧ Below w.heap.size w w' := by
  go_enter Try.func14, Try.ntmps14
  go_wp2_with fail
  refine (pf_known none 0 w (Sts.nil w none) (fun _ => rfl) (by decide) v0 o0 k1).mono ?_
  rintro e V1 ⟨⟨a1, c1, rfl, O⟩, b⟩
  have O1 := Lib.hid O
  have Q1 := Lib.hid b
  clear O b
  go_wp2_with fail
  refine (pf_known a1 c1 V1 (O1.out.sts encP) O1.out.nilcap (by decide) v1 o1 k2).mono ?_
  rintro e V2 ⟨⟨a2, c2, rfl, O⟩, b⟩
  have O2 := Lib.hid O
  have Q2 := Lib.hid (Q1.out.trans (b.mono Q1.out.size))
  clear O b
  go_wp2_with fail
  refine (pf_known a2 c2 V2 (O2.out.sts encP) O2.out.nilcap (by decide) v2 o2 k3).mono ?_
  rintro e V3 ⟨⟨a3, c3, rfl, O⟩, b⟩
  have O3 := Lib.hid O
  have Q3 := Lib.hid (Q2.out.trans (b.mono Q2.out.size))
  clear O b
  go_wp2_with fail
  refine (pf_known a3 c3 V3 (O3.out.sts encP) O3.out.nilcap (by decide) v3 o3 k4).mono ?_
  rintro e V4 ⟨⟨a4, c4, rfl, O⟩, b⟩
  have O4 := Lib.hid O
  have Q4 := Lib.hid (Q3.out.trans (b.mono Q3.out.size))
  have L3 := Lib.hid ((O3.out.sts encP).belowT b)
  clear O b
  obtain ⟨g3, p3, rfl, _, _⟩ := L3.out.isSomeT (by decide)
  obtain ⟨g4, p4, rfl, _, _⟩ := (O4.out.sts encP).isSomeT (by decide)
  obtain ⟨_, x0, x1⟩ := pair_at L3.out (i := 0) (p := ⟨1, 100⟩) rfl
  obtain ⟨_, y0, y1⟩ := pair_at L3.out (i := 1) (p := ⟨3, 90⟩) rfl
  obtain ⟨_, z0, z1⟩ := pair_at (O4.out.sts encP) (i := 0) (p := ⟨3, 90⟩) rfl
  simp only [Nat.zero_mul, Nat.one_mul, Nat.add_zero] at x0 x1 y0 y1 z0 z1
  go_wp2_with fail
  refine (num_any _ _).mono ?_
  rintro e w' ⟨rfl, rfl⟩
  go_wp2_with fail
  refine (num_any _ _).mono ?_
  rintro e w' ⟨rfl, rfl⟩
  go_wp2_with fail
  refine (num_any _ _).mono ?_
  rintro e w' ⟨rfl, rfl⟩
  go_wp2_with fail
  refine (num_any _ _).mono ?_
  rintro e w' ⟨rfl, rfl⟩
  have QD := Q4
  go_wp2
  go_ret
  exact ⟨rfl, QD.out⟩
end Go.Proofs.Ytokoogohdfepiaa
