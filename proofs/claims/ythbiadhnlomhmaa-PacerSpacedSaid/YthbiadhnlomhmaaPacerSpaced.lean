/- For every list of sizes and of ticks, every rate and quantum: no packet leaves ahead of now, nor ahead of an earlier one; in any stretch of ticks, at one rate, no more leaves than the rate gives in it, a quantum, and a packet. No condition. -/
import Derived.Test.YthbiadhnlomhmaaRows
import Derived.Test.YthbiadhnlomhmaaPcE
import Derived.Test.YthbiadhnlomhmaaGOwnA
import Derived.Test.YthbiadhnlomhmaaQInts
import Derived.Test.YthbiadhnlomhmaaGAgg
import Derived.Deep.DeepCutAuto
import Derived.RegionTactic
import Derived.Deep.RegionHeld3
import Derived.ProofKit
import Derived.OpenShut
import Derived.ChangeOld
import Derived.SizedLaws
namespace Go.Proofs.Ythbiadhnlomhmaa.pacerSpaced
open Go.ChangeShapes Go.WideShapes Go.ChangeAt Go.RowKit Go.Deep Go.Proofs.Ythbiadhnlomhmaa.Pc

/-- What holds between two packets. -/
structure SpI (R S X nw : Int) (ats szs : List Int) : Prop where
  len : ats.length = szs.length
  fk : ∀ k, k < ats.length → 1024 * (szs.drop k).sum ≤ R * (X - ats.getD k 0 + S)
  ub : ∀ k, k < ats.length → ats.getD k 0 ≤ max X nw
  lb : ∀ k, k < ats.length → 0 ≤ ats.getD k 0
  sz : ∀ k, k < szs.length → 1 ≤ szs.getD k 0 ∧ szs.getD k 0 ≤ 1500
  x0 : 0 ≤ X
  x1 : X ≤ ats.length * 1540000
  n0 : 0 ≤ nw
theorem spI_nil (R S : Int) : SpI R S 0 0 [] [] := ⟨rfl, fun k h => by simp at h, fun k h => by simp at h, fun k h => by simp at h, fun k h => by simp at h, by omega, by simp, by omega⟩
theorem getD_snoc (xs : List Int) (a : Int) (k : Nat) : (xs ++ [a]).getD k 0 = if k < xs.length then xs.getD k 0 else if k = xs.length then a else 0 := by
  simp only [List.getD_eq_getElem?_getD]
  split
  · rw [List.getElem?_append_left (by assumption)]
  · rw [List.getElem?_append_right (by omega)]
    split
    · rename_i h; subst h; simp
    · rw [List.getElem?_eq_none (by simp; omega)]; rfl
theorem sum_le {szs : List Int} (h : ∀ k, k < szs.length → 1 ≤ szs.getD k 0 ∧ szs.getD k 0 ≤ 1500) : 0 ≤ szs.sum ∧ szs.sum ≤ szs.length * 1500 := by
  induction szs with
  | nil => simp
  | cons x xs ih =>
    have h0 := h 0 (by simp)
    have := ih (fun k hk => by have := h (k + 1) (by simp; omega); simpa using this)
    simp only [List.getD_cons_zero] at h0
    simp only [List.sum_cons, List.length_cons]
    omega
theorem drop_ok {szs : List Int} (h : ∀ k, k < szs.length → 1 ≤ szs.getD k 0 ∧ szs.getD k 0 ≤ 1500) (j : Nat) : 0 ≤ (szs.drop j).sum ∧ (szs.drop j).sum ≤ szs.length * 1500 := by
  have := sum_le (szs := szs.drop j) (fun k hk => by
    have := h (j + k) (by rw [List.length_drop] at hk; omega)
    simpa [List.getD_eq_getElem?_getD, List.getElem?_drop] using this)
  rw [List.length_drop] at this
  omega
theorem drop_step (szs : List Int) (k : Nat) (h : k < szs.length) : (szs.drop k).sum = szs.getD k 0 + (szs.drop (k + 1)).sum := by
  rw [List.drop_eq_getElem_cons h, List.sum_cons]
  simp [List.getD_eq_getElem?_getD, List.getElem?_eq_getElem h]
/-- The packet that follows. -/
theorem SpI.next {R S X nw v n b C d : Int} {ats szs : List Int} (h : SpI R S X nw ats szs) (hR : 1 ≤ R) (hn0 : 1 ≤ n) (hn1 : n ≤ 1500) (hv : nw ≤ v) (hv1 : v ≤ ats.length * 2000 + 2000) (hS : 0 ≤ S)
    (hb : max X (v - S) = b) (hC : (n * 1024 + R - 1) / R = C) (hd : max b v = d) (hC1 : C ≤ 1536000) : SpI R S (b + C) v (ats ++ [d]) (szs ++ [n]) ∧ 0 ≤ C := by
  have hRC : n * 1024 ≤ R * C := by
    have h1 := Int.mul_ediv_add_emod (n * 1024 + R - 1) R
    have h2 := Int.emod_lt_of_pos (n * 1024 + R - 1) (show 0 < R by omega)
    rw [hC] at h1
    omega
  have hC0 : 0 ≤ C := by rw [← hC]; exact Int.ediv_nonneg (by omega) (by omega)
  have hl := h.len
  have x0 := h.x0
  have x1 := h.x1
  have n0 := h.n0
  refine ⟨⟨by simp [hl], ?_, ?_, ?_, ?_, by omega, by simp only [List.length_append, List.length_singleton]; omega, by omega⟩, hC0⟩
  · intro k hk
    rw [List.length_append, List.length_singleton] at hk
    rw [getD_snoc]
    by_cases hk2 : k < ats.length
    · rw [if_pos hk2, List.drop_append_of_le_length (by omega), List.sum_append]
      have h1 := h.fk k hk2
      have e : R * (b + C - ats.getD k 0 + S) = R * (X - ats.getD k 0 + S) + R * (b - X) + R * C := by grind
      have h2 : 0 ≤ R * (b - X) := Int.mul_nonneg (by omega) (by omega)
      have e2 : [n].sum = n := by simp
      rw [e, e2]
      omega
    · have hk3 : k = ats.length := by omega
      rw [if_neg hk2, if_pos hk3, hk3, hl, List.drop_append_of_le_length (Nat.le_refl _), List.drop_length, List.nil_append]
      have e : R * (b + C - d + S) = R * C + R * (b + S - d) := by grind
      have h2 : 0 ≤ R * (b + S - d) := Int.mul_nonneg (by omega) (by omega)
      have e2 : [n].sum = n := by simp
      rw [e, e2]
      omega
  · intro k hk
    rw [List.length_append, List.length_singleton] at hk
    rw [getD_snoc]
    by_cases hk2 : k < ats.length
    · rw [if_pos hk2]; have := h.ub k hk2; omega
    · rw [if_neg hk2, if_pos (by omega)]; omega
  · intro k hk
    rw [List.length_append, List.length_singleton] at hk
    rw [getD_snoc]
    by_cases hk2 : k < ats.length
    · rw [if_pos hk2]; exact h.lb k hk2
    · rw [if_neg hk2, if_pos (by omega)]; omega
  · intro k hk
    rw [List.length_append, List.length_singleton] at hk
    rw [getD_snoc]
    by_cases hk2 : k < szs.length
    · rw [if_pos hk2]; exact h.sz k hk2
    · rw [if_neg hk2, if_pos (by omega)]; omega
/-- What is asked of each stretch. -/
theorem SpI.chk {R Q S X nw d P o : Int} {ats szs : List Int} (h : SpI R S X nw ats szs) (hR : 1 ≤ R) (hRS : R * S ≤ Q * 1024) (hX : X ≤ d) (k : Nat) (hk : k < ats.length) (ho : (szs.drop k).sum = o) (hP : R * (d - ats.getD k 0) = P) : o ≤ (P + 1023) / 1024 + Q := by
  have h1 := h.fk k hk
  have e : R * (X - ats.getD k 0 + S) = R * (d - ats.getD k 0) - R * (d - X) + R * S := by grind
  have h2 : 0 ≤ R * (d - X) := Int.mul_nonneg (by omega) (by omega)
  rw [e, hP, ho] at h1
  omega
theorem dep_nums {X n R Q v S b C d : Int} (hR0 : 1 ≤ R) (hR1 : R ≤ 100000) (hQ0 : 0 ≤ Q) (hQ1 : Q < 5000) (hn0 : 1 ≤ n) (hn1 : n ≤ 1500) (hx0 : 0 ≤ X) (hx1 : X ≤ 100000000) (hv0 : 0 ≤ v) (hv1 : v ≤ 1000000) (hS : Q * 1024 / R = S) (hb : max X (v - S) = b) (hC : (n * 1024 + R - 1) / R = C) (hd : max b v = d) :
    dE X n R Q v = 0 ∧ dN X n R Q v = b + C ∧ dT X n R Q v = d ∧ 0 ≤ C ∧ C ≤ 1536000 ∧ 0 ≤ S := by
  have hdv : DV X n R Q v := ⟨⟨hn0, by omega⟩, ⟨hR0, by omega⟩, ⟨hQ0, by omega⟩, ⟨hv0, by omega⟩, ⟨hx0, by omega⟩⟩
  have hC0 : 0 ≤ C := by rw [← hC]; exact Int.ediv_nonneg (by omega) (by omega)
  have hS0 : 0 ≤ S := by rw [← hS]; exact Int.ediv_nonneg (by omega) (by omega)
  have hC1 : C ≤ 1536000 := by
    have h1 := Int.mul_ediv_add_emod (n * 1024 + R - 1) R
    have h2 := Int.emod_nonneg (n * 1024 + R - 1) (show R ≠ 0 by omega)
    rw [hC] at h1
    by_cases hc : C ≤ 1536000
    · exact hc
    · exfalso
      have h3 : R * 1536001 ≤ R * C := Int.mul_le_mul_of_nonneg_left (by omega) (by omega)
      omega
  have hbase : base X R Q v = b := by unfold base; rw [hS, hb]
  have hcost : cost n R = C := hC
  refine ⟨if_pos hdv, ?_, ?_, hC0, hC1, hS0⟩
  · rw [dN, if_pos hdv, hbase, hcost]; exact Int.min_eq_left (by omega)
  · rw [dT, if_pos hdv, hbase, hd]
theorem slackR (Q R S : Int) (hR : 1 ≤ R) (hS : Q * 1024 / R = S) : R * S ≤ Q * 1024 := by
  have h1 := Int.mul_ediv_add_emod (Q * 1024) R
  have h2 := Int.emod_nonneg (Q * 1024) (show R ≠ 0 by omega)
  rw [hS] at h1; omega
/-- The number that is asked about, at a place. -/
theorem SpI.ask {R Q S X nw v d b P o : Int} {ats szs : List Int} (h : SpI R S X nw ats szs) (hR : 1 ≤ R) (hR1 : R ≤ 100000) (hQ0 : 0 ≤ Q) (hRS : R * S ≤ Q * 1024) (hb : X ≤ b) (hd : max b v = d) (hd1 : d ≤ 100000000) (hv : nw ≤ v) (k : Nat) (hk : k ≤ ats.length) (ho : (szs.drop k).sum = o) (hP : R * (d - (ats ++ [d]).getD k 0) = P) :
    0 ≤ (ats ++ [d]).getD k 0 ∧ (ats ++ [d]).getD k 0 ≤ d ∧ 0 ≤ P ∧ P ≤ 10000000000000 ∧ o ≤ (P + 1023) / 1024 + Q := by
  have x0 := h.x0
  have n0 := h.n0
  have hd0 : 0 ≤ d := by omega
  by_cases hk2 : k < ats.length
  · have e : (ats ++ [d]).getD k 0 = ats.getD k 0 := by rw [getD_snoc, if_pos hk2]
    rw [e] at hP ⊢
    have h1 := h.ub k hk2
    have h2 := h.lb k hk2
    have h3 : 0 ≤ R * (d - ats.getD k 0) := Int.mul_nonneg (by omega) (by omega)
    have h4 : R * (d - ats.getD k 0) ≤ 100000 * 100000000 := Int.mul_le_mul hR1 (by omega) (by omega) (by omega)
    exact ⟨h2, by omega, by omega, by omega, h.chk hR hRS (by omega) k hk2 ho hP⟩
  · have hk3 : k = ats.length := by omega
    have e : (ats ++ [d]).getD k 0 = d := by rw [getD_snoc, if_neg hk2, if_pos hk3]
    have hz : (szs.drop k).sum = 0 := by rw [List.drop_of_length_le (by rw [← h.len]; omega)]; rfl
    rw [e] at hP ⊢
    rw [Int.sub_self, Int.mul_zero] at hP
    omega
set_option maxRecDepth 100000 in
set_option maxHeartbeats 4000000 in
theorem walk (a : Option Addr) (xs : List Int) (c1 : Nat) (a2 : Option Addr) (ys : List Int) (c2 : Nat) (rt qt : Int) (w : World) (hx : Its w a xs) (_hn1 : a = none → c1 = 0) (_hl1 : xs.length ≤ 17592186043904) (hy : Its w a2 ys) (_hn2 : a2 = none → c2 = 0) (_hl2 : ys.length ≤ 17592186043904) (_r1 : -9223372036854775808 ≤ rt) (_r2 : rt ≤ 9223372036854775807) (_q1 : -9223372036854775808 ≤ qt) (_q2 : qt ≤ 9223372036854775807) :
    Calls Try.prog 3 #[.slice a xs.length c1, .slice a2 ys.length c2, .int .i64 rt, .int .i64 qt] w fun e w' => e = .returned (.bool true) ∧ Below w.heap.size w w' := by
  obtain ⟨r', hr, hr0, hr1⟩ := norm_mod rt 100000 (by omega) (by omega)
  obtain ⟨Q, hQ, hQ0, hQ1⟩ := norm_mod qt 5000 (by omega) (by omega)
  obtain ⟨R, hR⟩ : ∃ z, 1 + r' = z := ⟨_, rfl⟩
  have hRw : wrap64 (1 + r') = R := by rw [← hR]; exact IntWalk.wrap64_in _ ⟨by omega, by omega⟩
  have R0 : 1 ≤ R := by omega
  have R1 : R ≤ 100000 := by omega
  obtain ⟨S, hS⟩ : ∃ z, Q * 1024 / R = z := ⟨_, rfl⟩
  have HRS := Lib.hid (slackR Q R S R0 hS)
  have HS := Lib.hid hS
  have HX := Lib.hid hx
  have HY := Lib.hid hy
  clear hS hx hy
  go_enter Try.func3, Try.ntmps3
  go_wp2_with fail
  refine (alive_any _).mono ?_
  rintro e V1 ⟨rfl, b⟩
  have HW1 := Lib.hid b.size
  have Q1 := Lib.hid (b.alloc b.size (.cells #[.int .i64 0] 25))
  have S1 := Lib.hid (blk_new V1 (.cells #[.int .i64 0] 25))
  clear b
  go_wp2_with fail
  go_loopw [10, 11, 12, 13] (fun va vb vn vi wr => ∃ (i : Nat) (X nw : Int) (ats szs : List Int) (p : Option Addr) (c : Nat) (p2 : Option Addr) (c2 : Nat), i ≤ xs.length ∧ i ≤ 60 ∧ Hid (ats.length = i) ∧ vi = .int .i64 i ∧ vn = .int .i64 nw ∧ va = .slice p ats.length c ∧ vb = .slice p2 szs.length c2 ∧ nw ≤ i * 2000 ∧ Hid (SpI R S X nw ats szs) ∧ wr.heap[V1.heap.size]? = some (.cells #[.int .i64 X] 25 (0, 0)) ∧ OwnR 3 1 IC (V1.heap.size + 1) p ats c wr ∧ OwnR 3 1 IC (V1.heap.size + 1) p2 szs c2 wr ∧ Disj p p2 ∧ V1.heap.size + 1 ≤ wr.heap.size ∧ Below w.heap.size w wr) (fun _ _ _ vi _ => xs.length - (intOf vi).toNat)
  case atStart => exact ⟨0, 0, 0, [], [], none, 0, none, 0, by omega, by omega, Lib.hid rfl, rfl, rfl, rfl, rfl, by omega, Lib.hid (spI_nil R S), S1.out, ownR_nil _ _ _ _ _, ownR_nil _ _ _ _ _, Disj.nil _, by simp, Q1.out⟩
  case round =>
    obtain ⟨i, X, nw, ats, szs, p, c, p2, c2, hi, hi6, HL, rfl, rfl, rfl, rfl, hnw, HI, hs, hA, hB, hdj, hC, hq⟩ := hrel
    have SR := Lib.hid hs
    have AR := Lib.hid hA
    have BR := Lib.hid hB
    have DJ := Lib.hid hdj
    have QR := Lib.hid hq
    have HC := Lib.hid hC
    clear hs hA hB hdj hq hC Q1 S1 hr hQ hRw hR
    by_cases hlt : i < xs.length ∧ i < 60
    case neg =>
      have h2 : ¬ ((i : Int) < (xs.length : Int)) ∨ ((i : Int) < (xs.length : Int) ∧ ¬ ((i : Int) < 60)) := by omega
      rcases h2 with h2 | ⟨h2, h3⟩
      all_goals
        go_wp2
        go_ret
        exact ⟨rfl, QR.out⟩
    case pos =>
      obtain ⟨hlt1, hlt2⟩ := hlt
      have i1 : (i : Int) < (xs.length : Int) := by omega
      have i2 : (i : Int) < 60 := by omega
      obtain ⟨xb, xo, rfl, hxb, hxc⟩ : ∃ b off, a = some ⟨b, off, none⟩ ∧ b < w.heap.size ∧ ∀ i, i < xs.length → w.cell? ⟨b, off + i, none⟩ = some (.int .i64 (xs.getD i 0)) := by
        rcases HX.out.2 with h | h
        · rw [h] at hlt1; simp at hlt1
        · exact h
      obtain ⟨x, hxe⟩ : ∃ z, xs.getD i 0 = z := ⟨_, rfl⟩
      have XC : Hid (w.cell? ⟨xb, xo + i, none⟩ = some (.int .i64 x)) := Lib.hid (by rw [← hxe]; exact hxc i hlt1)
      have cx : wr.cell? ⟨xb, xo + i, none⟩ = some (.int .i64 x) := (QR.out.cell (p := ⟨xb, xo + i, none⟩) hxb).trans XC.out
      obtain ⟨n', hn, hn0, hn1⟩ := norm_mod x 1500 (by omega) (by omega)
      obtain ⟨n, hnn⟩ : ∃ z, 1 + n' = z := ⟨_, rfl⟩
      have hnw2 : wrap64 (1 + n') = n := by rw [← hnn]; exact IntWalk.wrap64_in _ ⟨by omega, by omega⟩
      have n0 : 1 ≤ n := by omega
      have n1 : n ≤ 1500 := by omega
      clear hxc hxe
      have hx0 := HI.out.x0
      have hx1 : X ≤ (i : Int) * 1540000 := by have h := HI.out.x1; rw [HL.out] at h; exact h
      have hnw0 := HI.out.n0
      have sc := blk_cell SR.out 0
      have HV : ∃ v : Int, nw ≤ v ∧ v ≤ (i : Int) * 2000 + 2000 ∧ Hid (((i : Int) < (ys.length : Int) ∧ ∃ (yb yo : Nat) (y z : Int), a2 = some ⟨yb, yo, none⟩ ∧ wr.cell? ⟨yb, yo + i, none⟩ = some (.int .i64 y) ∧ (wrap64 (y.tmod 2000 + 2000)).tmod 2000 = z ∧ 0 ≤ z ∧ z < 2000 ∧ nw + z = v) ∨ (¬ ((i : Int) < (ys.length : Int)) ∧ nw = v)) := by
        by_cases hyl : i < ys.length
        · obtain ⟨yb, yo, e, hyb, hyc⟩ : ∃ b off, a2 = some ⟨b, off, none⟩ ∧ b < w.heap.size ∧ ∀ i, i < ys.length → w.cell? ⟨b, off + i, none⟩ = some (.int .i64 (ys.getD i 0)) := by
            rcases HY.out.2 with h | h
            · rw [h] at hyl; simp at hyl
            · exact h
          obtain ⟨z, hz, hz0, hz1⟩ := norm_mod (ys.getD i 0) 2000 (by omega) (by omega)
          exact ⟨nw + z, by omega, by omega, Lib.hid (.inl ⟨by omega, yb, yo, _, z, e, (QR.out.cell (p := ⟨yb, yo + i, none⟩) hyb).trans (hyc i hyl), hz, hz0, hz1, rfl⟩)⟩
        · exact ⟨nw, by omega, by omega, Lib.hid (.inr ⟨by omega, rfl⟩)⟩
      obtain ⟨v, hvn, hv1, HVC⟩ := HV
      go_upto_if 44 with fail
      go_cut [12] (fun (nv : Value) wx => nv = .int .i64 v ∧ wr = wx)
      case first =>
        rcases HVC.out with ⟨i3, yb, yo, y, z, rfl, cy, hz, hz0, hz1, hv⟩ | ⟨i3, hv⟩
        all_goals
          go_wp2_with fail
          go_meet
          exact ⟨by first | rfl | (rw [hv]), rfl⟩
      case rest =>
        obtain ⟨rfl, rfl⟩ := hcut
        obtain ⟨b, hb⟩ : ∃ z, max X (v - S) = z := ⟨_, rfl⟩
        obtain ⟨C, hC⟩ : ∃ z, (n * 1024 + R - 1) / R = z := ⟨_, rfl⟩
        obtain ⟨d, hd⟩ : ∃ z, max b v = z := ⟨_, rfl⟩
        obtain ⟨X', hX'⟩ : ∃ z, b + C = z := ⟨_, rfl⟩
        have hdn := dep_nums R0 R1 hQ0 hQ1 n0 n1 hx0 (by omega) (by omega) (by omega) HS.out hb hC hd
        rw [hX'] at hdn
        have HDN := Lib.hid hdn
        have HV0 := Lib.hid hvn
        have hdv : v ≤ d := by omega
        have hd1 : d ≤ 100000000 := by have := hdn.2.2.2.2.2; omega
        have hXd : X ≤ b := by omega
        have hd0 : 0 ≤ d := by omega
        have HNX := Lib.hid (HI.out.next R0 n0 n1 hvn (by rw [HL.out]; omega) hdn.2.2.2.2.2 hb hC hd hdn.2.2.2.2.1).1
        rw [hX'] at HNX
        have HASK := Lib.hid (fun (k : Nat) (o P : Int) (hk : k ≤ ats.length) (ho : (szs.drop k).sum = o) (hP : R * (d - (ats ++ [d]).getD k 0) = P) => HI.out.ask R0 R1 hQ0 HRS.out hXd hd hd1 hvn k hk ho hP)
        have HUB : Hid (∀ k, k < ats.length → ats.getD k 0 ≤ d) := Lib.hid (fun k hk => by have := HI.out.ub k hk; omega)
        have HSZ := Lib.hid HI.out.sz
        have HSL := Lib.hid HI.out.len
        clear hb hC hd hX' hdn hvn
        go_wp2_with fail
        clear hnn
        refine (pdepart X n R Q v X' d 0 HDN.out.1 HDN.out.2.1 HDN.out.2.2.1 _).mono ?_
        rintro e V4 ⟨rfl, b4⟩
        have TB := Lib.hid (blk_new V4 (.cells #[.int .i64 X'] 25))
        have ba := (Below.refl V4.heap.size V4).alloc (Nat.le_refl _) (.cells #[.int .i64 X'] 25)
        have b5 := (b4.trans (ba.mono b4.size))
        have hsl : V1.heap.size < wr.heap.size := blk_lt SR.out
        have S5 := Lib.hid ((b5.block _ hsl).trans SR.out)
        have A5 := Lib.hid (AR.out.below b5)
        have B5 := Lib.hid (BR.out.below b5)
        have Q5 := Lib.hid (QR.out.trans (b5.mono QR.out.size))
        have HC5 := Lib.hid (Nat.le_trans HC.out b5.size)
        have hts : V4.heap.size < (V4.alloc (.cells #[.int .i64 X'] 25)).heap.size := by simp
        have hne : V1.heap.size ≠ V4.heap.size := by have := b4.size; omega
        clear b4 ba b5 SR AR BR QR sc cx
        go_upto_region 14 with fail
        generalize V4.alloc (.cells #[.int .i64 X'] 25) = V5 at TB S5 A5 B5 Q5 HC5 hts ⊢
        have tc := blk_cell TB.out 0
        have sc := blk_cell S5.out 0
        have sf := blk_free S5.out 0
        have k5 : ¬ (d < v) := by omega
        go_cut [94] (fun (cv : Value) wx => cv = .bool false ∧ V5 = wx)
        case first =>
          by_cases hz : 0 < ats.length
          case' pos =>
            have k1 : (0 : Int) < (ats.length : Int) := by omega
            obtain ⟨pg, rfl, hpg, hpl⟩ := A5.out.isSome hz
            obtain ⟨m, hm⟩ : ∃ m : Nat, (ats.length : Int) - 1 = m := ⟨ats.length - 1, by omega⟩
            have hmw : wrap64 (m : Int) = (m : Int) := IntWalk.wrap64_in _ ⟨by omega, by have := HL.out; omega⟩
            have hml : m < ats.length := by omega
            obtain ⟨la, hla⟩ : ∃ z, ats.getD m 0 = z := ⟨_, rfl⟩
            have lc : V5.cell? ⟨pg, m, none⟩ = some (.int .i64 la) := by rw [← hla]; exact A5.out.cellI m hml
            have k2 : ¬ (d < la) := by have := HUB.out m hml; omega
            have k3 : (m : Int) < (ats.length : Int) := by omega
            clear hla
          case' neg =>
            have k1 : ¬ ((0 : Int) < (ats.length : Int)) := by omega
          all_goals
            go_wp2_with fail
            refine (num_any _ _).mono ?_
            rintro e w' ⟨rfl, rfl⟩
            go_wp2_with fail
            go_meet
            exact ⟨by first | rfl | (congr 1; simp <;> omega), rfl⟩
        case rest =>
          obtain ⟨rfl, rfl⟩ := hcut
          go_upto_region 17 with fail
          have S6 := Lib.hid (blk_set S5.out 0 (.int .i64 X'))
          have A6 := Lib.hid (A5.out.grown (gr_set V5 V1.heap.size 0 (.int .i64 X')) (fun g e1 e2 => by have h := (A5.out.ownEq g (by rw [e1]; rfl)); have h2 := A5.out.ownB g (by rw [e1]; rfl); have e3 := Option.some.inj e2; omega))
          have B6 := Lib.hid (B5.out.grown (gr_set V5 V1.heap.size 0 (.int .i64 X')) (fun g e1 e2 => by have h2 := B5.out.ownB g (by rw [e1]; rfl); have e3 := Option.some.inj e2; omega))
          have Q6 := Lib.hid (Q5.out.setCell (p := ⟨V1.heap.size, 0, none⟩) HW1.out (.int .i64 X'))
          have hsz : V5.heap.size = (V5.setCell ⟨V1.heap.size, 0, none⟩ (.int .i64 X')).heap.size := by simp
          have HC6 : Hid (V1.heap.size + 1 ≤ (V5.setCell ⟨V1.heap.size, 0, none⟩ (.int .i64 X')).heap.size) := Lib.hid (by rw [← hsz]; exact HC5.out)
          clear S5 A5 B5 Q5 HC5 hts hne TB tc sc sf hsz
          generalize V5.setCell ⟨V1.heap.size, 0, none⟩ (.int .i64 X') = V6 at S6 A6 B6 Q6 HC6 ⊢
          have bal : ∀ (W : World) (o : Obj), Below W.heap.size W (W.alloc o) := fun W o => (Below.refl W.heap.size W).alloc (Nat.le_refl _) o
          have HLE : Hid (ats.length + 1 ≤ 61) := Lib.hid (by have := HL.out; omega)
          go_wp2_with (first
            | (refine wpList_append_rA (t := 22) (e := 3) (z := .int .i64 0) (m := 1) (bz := 8) (cells := IC) (xs := ats) (ys := [d]) (cap := c) (a := p) (ad := ⟨V6.heap.size, 0, none⟩) (dap := 1) (n := 1) rfl elemI encI (.tmp 96) (.tmp 98) rfl (V1.heap.size + 1) rfl ?_ ?_ ?_ ?_ ?_ ?_ ?_ ?_; exact A6.out.below (bal V6 (.cells #[.int .i64 d] 3)); exact sts_new encI V6 [d] 3 (0, 0); rfl; rfl; (have := HLE.out; simp only [List.length_singleton]; omega); (have := HLE.out; unfold maxLen; simp only [List.length_singleton]; omega); exact Nat.le_trans HC6.out (bal V6 (.cells #[.int .i64 d] 3)).size; intro p' c' W1 O1 b1 g1 at1; have ba1 := bal V6 (.cells #[.int .i64 d] 3); have A7 := Lib.hid O1; have B7 := Lib.hid ((B6.out.below ba1).apart DJ.out.symm (A6.out.below ba1).ownEq g1); have D7 := Lib.hid (disj_app DJ.out at1 (B6.out.below ba1).ltB); have S7 := Lib.hid ((b1.block _ (Nat.lt_succ_self _)).trans ((ba1.block _ (blk_lt S6.out)).trans S6.out)); have Q7 := Lib.hid ((Q6.out.trans (ba1.mono Q6.out.size)).trans (b1.mono (Nat.le_succ_of_le HW1.out))); have HC7 := Lib.hid (Nat.le_trans (Nat.le_trans HC6.out ba1.size) b1.size); clear O1 b1 g1 at1 ba1 A6 B6 S6 Q6 HC6)
            | (refine wpList_append_rA (t := 22) (e := 3) (z := .int .i64 0) (m := 1) (bz := 8) (cells := IC) (xs := szs) (ys := [n]) (cap := c2) (a := p2) (ad := ⟨W1.heap.size, 0, none⟩) (dap := 1) (n := 1) rfl elemI encI (.tmp 100) (.tmp 102) rfl (V1.heap.size + 1) rfl ?_ ?_ ?_ ?_ ?_ ?_ ?_ ?_; exact B7.out.below (bal W1 (.cells #[.int .i64 n] 3)); exact sts_new encI W1 [n] 3 (0, 0); rfl; rfl; (have := HLE.out; have := HSL.out; simp only [List.length_singleton]; omega); (have := HLE.out; have := HSL.out; unfold maxLen; simp only [List.length_singleton]; omega); exact Nat.le_trans HC7.out (bal W1 (.cells #[.int .i64 n] 3)).size; intro p2' c2' W2 O2 b2 g2 at2; have ba2 := bal W1 (.cells #[.int .i64 n] 3); have B8 := Lib.hid O2; have A8 := Lib.hid ((A7.out.below ba2).apart D7.out (B7.out.below ba2).ownEq g2); have D8 := Lib.hid (disj_app D7.out.symm at2 (A7.out.below ba2).ltB).symm; have S8 := Lib.hid ((b2.block _ (Nat.lt_succ_self _)).trans ((ba2.block _ (blk_lt S7.out)).trans S7.out)); have Q8 := Lib.hid ((Q7.out.trans (ba2.mono Q7.out.size)).trans (b2.mono (Nat.le_succ_of_le HW1.out))); have HC8 := Lib.hid (Nat.le_trans (Nat.le_trans HC7.out ba2.size) b2.size); clear O2 b2 g2 at2 ba2 A7 B7 S7 Q7 HC7 D7)
            | fail)
          obtain ⟨pg, rfl, _, _⟩ := A8.out.isSome (by simp)
          obtain ⟨pg2, rfl, _, _⟩ := B8.out.isSome (by simp)
          have HVV := Lib.hid (And.intro hv1 (And.intro hnw hx1))
          clear HVC HDN HUB HV0 k5 hv1 hnw hx1 hnw0 hx0 hdv hXd hr1 hr0
          go_loop [18, 19] (fun ov kv => ∃ (j : Nat) (ob kk : Int), j ≤ i + 1 ∧ kk + 1 = j ∧ kv = .int .i64 kk ∧ ov = .int .i64 ob ∧ Hid ((szs.drop j).sum = ob)) (fun _ kv => (intOf kv + 1).toNat)
          case atStart => exact ⟨i + 1, 0, i, by omega, by omega, rfl, rfl, Lib.hid (by rw [List.drop_of_length_le (by have := HSL.out; have := HL.out; omega)]; rfl)⟩
          case round =>
            obtain ⟨j, ob, kk, hj, hkj, rfl, rfl, hsum⟩ := hrel
            rcases j with _ | m
            · obtain rfl : kk = -1 := by omega
              go_wp2
              go_roundw
              case rel => exact ⟨i + 1, X', v, ats ++ [d], szs ++ [n], _, _, _, _, by omega, by omega, Lib.hid (by rw [List.length_append, HL.out]; rfl), by go_num, rfl, by first | rfl | simp, by first | rfl | simp, by have := HVV.out.1; omega, HNX, S8.out, A8.out, B8.out, D8.out, HC8.out, Q8.out⟩
              case measure => simp [intOf]; omega
            · obtain rfl : kk = (m : Int) := by omega
              obtain ⟨o2, ho2⟩ : ∃ z, (szs.drop m).sum = z := ⟨_, rfl⟩
              obtain ⟨av, hav⟩ : ∃ z, (ats ++ [d]).getD m 0 = z := ⟨_, rfl⟩
              obtain ⟨P, hP⟩ : ∃ z, R * (d - av) = z := ⟨_, rfl⟩
              have hml : m ≤ ats.length := by have := HL.out; omega
              have hask := HASK.out m o2 P hml ho2 (by rw [hav]; exact hP)
              rw [hav] at hask
              obtain ⟨a0, a1, P0, P1, hok⟩ := hask
              have hob := drop_ok HSZ.out m
              rw [ho2] at hob
              have hsl : szs.length ≤ 60 := by have := HSL.out; have := HL.out; omega
              obtain ⟨zq, hzq⟩ : ∃ z, (P + 1023) / 1024 = z := ⟨_, rfl⟩
              have hzt : (P + 1023).tdiv 1024 = zq := by rw [Int.tdiv_eq_ediv_of_nonneg (by omega)]; exact hzq
              have hz0 : 0 ≤ zq := by omega
              have hz1 : zq ≤ 10000000000 := by omega
              have hkq : ¬ (zq + Q < o2) := by omega
              have ob1 : o2 ≤ 90000 := by omega
              have ob0 : 0 ≤ o2 := by omega
              have hlen : m < (ats ++ [d]).length := by simp only [List.length_append, List.length_singleton]; omega
              have ca : W2.cell? ⟨pg, m, none⟩ = some (.int .i64 av) := by rw [← hav]; exact A8.out.cellI m hlen
              have lt1 : (m : Int) < (ats.length : Int) + 1 := by omega
              have lt2 : (m : Int) < (szs.length : Int) + 1 := by have := HSL.out; omega
              have lt3 : m < (szs ++ [n]).length := by have := HSL.out; simp only [List.length_append, List.length_singleton]; omega
              have hob2 : Hid (0 ≤ ob ∧ ob ≤ 90000 ∧ (m < i → ob + (szs ++ [n]).getD m 0 = o2) ∧ (¬ m < i → ob = o2)) := Lib.hid (by
                have h1 := drop_ok HSZ.out (m + 1)
                rw [hsum.out] at h1
                have hl1 := HSL.out
                have hl2 := HL.out
                refine ⟨by omega, by omega, fun h => ?_, fun h => ?_⟩
                · have := drop_step szs m (by omega)
                  rw [getD_snoc, if_pos (by omega), ← ho2, this, hsum.out]; omega
                · have e1 : (szs.drop m).sum = 0 := by rw [List.drop_of_length_le (by omega)]; rfl
                  have e2 : (szs.drop (m + 1)).sum = 0 := by rw [List.drop_of_length_le (by omega)]; rfl
                  have := hsum.out
                  omega)
              have HCB : Hid (m < i → W2.cell? ⟨pg2, m, none⟩ = some (.int .i64 ((szs ++ [n]).getD m 0))) := Lib.hid (fun _ => B8.out.cellI m lt3)
              have HO2 := Lib.hid ho2
              clear hok ho2 hav hob hsl hml hlen hsum hkj lt3
              obtain ⟨q0, q1, q2, q3⟩ := hob2.out
              by_cases hmi : m < i
              case' pos =>
                have cb := HCB.out hmi
                have e2 := q2 hmi
                obtain ⟨sv, hsv⟩ : ∃ z, (szs ++ [n]).getD m 0 = z := ⟨_, rfl⟩
                rw [hsv] at cb e2
                have mi : (m : Int) < (i : Int) := by omega
                clear hsv HCB q2 q3
              case' neg =>
                have e2 := q3 hmi
                have mi : ¬ ((m : Int) < (i : Int)) := by omega
                clear HCB q2 q3
              all_goals
                go_wp2
                go_round
                case rel => exact ⟨m, _, (m : Int) - 1, by omega, by omega, by first | rfl | go_num, rfl, by first | exact HO2 | (rw [e2]; exact HO2)⟩
                case measure => simp [intOf]; try omega

theorem own : ownKnob Try.prog.godebug = none := by kernel_rfl
theorem laidOut : laidOutB Try.prog = true := by kernel_rfl

set_option maxRecDepth 100000 in
set_option maxHeartbeats 2000000 in
theorem lifted (os : Os) (started : os.Started) (H : Type) (enc : TypeId × Value → H) :
    ReturnsInHanded {} Try.checked os 3 .any (Rows.pacerSpacedSpec.pre6 enc Try.prog Try.f3 Rows.pacerSpacedRow.domain false) (Rows.pacerSpacedSpec.post enc Try.prog Try.f3 false true false false) := by
  refine returnsInHanded_of_change_sized (C := Try.checked) own started (by kernel_rfl) Try.func3
    (ChangeSpec.witness6 (enc := enc) (C := Try.checked) false ⟨#[], #[.slice none 0 0, .slice none 0 0, .int .i64 0, .int .i64 0], []⟩ 8 (by kernel_rfl) (by kernel_rfl) (by kernel_rfl) (by kernel_rfl)) ?_
  intro W base args ds gs before hval0 hW hcnd hsz0 _
  have hval : ∀ (j : Nat) t v, Try.f3.params[j]? = some t → args[j]? = some v → Value.okWide Try.prog W .any base t v := hval0
  have hsz : (DataW.weightsEach Try.prog (Try.f3.params.toList ++ Rows.pacerSpacedSpec.plain.varTypes Try.prog) (ds ++ gs)).all (· ≤ reachBytes) = true := hsz0
  have hW' := hW
  obtain ⟨p, q, hA0, hV, rfl, hfz, hnd⟩ := hW
  have hA : DataW.TrodAll enc Try.prog W 0 (fun _ => true) true Try.f3.params.toList args.toList ds p := hA0
  rw [Try.params3] at hA hval hsz
  obtain ⟨v0, vs0, d0, ds0, p0, q0, hargs, rfl, rfl, h0, r0⟩ := trodAll_cons hA
  obtain ⟨v1, vs1, d1, ds1, p1, q1, rfl, rfl, rfl, h1, r1⟩ := trodAll_cons r0
  obtain ⟨v2, vs2, d2, ds2, p2, q2, rfl, rfl, rfl, h2, r2⟩ := trodAll_cons r1
  obtain ⟨v3, vs3, d3, ds3, p3, q3, rfl, rfl, rfl, h3, r3⟩ := trodAll_cons r2
  obtain ⟨rfl, rfl, rfl⟩ := trodAll_nil r3
  obtain rfl : args = #[v0, v1, v2, v3] := by cases args; simp_all
  obtain ⟨rfl, rfl⟩ := trodVars_none hV
  obtain ⟨a0, len0, cap0, rfl⟩ := okWide_slice Try.underlying22 (hval 0 22 v0 rfl rfl)
  have k0 := h0
  have lt0 : ∀ x ∈ p0, x.block < W.heap.size := by obtain ⟨m, hm⟩ := k0; exact DataW.trod_lt m _ _ _ hm
  obtain ⟨a1, len1, cap1, rfl⟩ := okWide_slice Try.underlying22 (hval 1 22 v1 rfl rfl)
  have k1 := h1
  have lt1 : ∀ x ∈ p1, x.block < W.heap.size := by obtain ⟨m, hm⟩ := k1; exact DataW.trod_lt m _ _ _ hm
  obtain ⟨a2, rfl, rfl, rfl, w2⟩ := open_int Try.underlying3 (hval 2 3 v2 rfl rfl) h2
  obtain ⟨a3, rfl, rfl, rfl, w3⟩ := open_int Try.underlying3 (hval 3 3 v3 rfl rfl) h3
  obtain ⟨xs0, hxl0, hbt0, hcap0, hre0⟩ : ∃ xs : List Int, xs.length = len0 ∧ Its W a0 xs ∧ (a0 = none → cap0 = 0) ∧ xs.length ≤ 17592186043904 := by
    obtain ⟨fuel, hf⟩ := h0
    rcases open_ints Try.underlying22 Try.underlying3 (by kernel_rfl) hf with ⟨hcs, _⟩ | ⟨x, l, c, zs, hcs, _, hl, hm, hz, hd, hcell, hwz⟩
    · simp [Value.cells] at hcs
      obtain ⟨rfl, rfl, rfl⟩ := hcs
      exact ⟨[], rfl, ⟨(fun x h => by cases h), .inl rfl⟩, fun _ => rfl, by simp⟩
    · simp [Value.cells] at hcs
      obtain ⟨rfl, rfl, rfl⟩ := hcs
      have hz' : zs.length = cap0 := by simpa using hz
      obtain ⟨xs, h1, h2⟩ := its_of_ints hl hz' hcell hwz
      have hd' := (Prod.mk.inj hd).1
      have hw := sized_slice hsz (j := 0) (t := 22) (e := 3) rfl (by rw [hd']; rfl) Try.underlying22
      rw [bytes8] at hw
      simp only [lits, List.length_map, List.length_take, List.length_drop, reachBytes] at hw
      exact ⟨xs, h1, h2, (fun h => by cases h), by omega⟩
  obtain ⟨xs1, hxl1, hbt1, hcap1, hre1⟩ : ∃ xs : List Int, xs.length = len1 ∧ Its W a1 xs ∧ (a1 = none → cap1 = 0) ∧ xs.length ≤ 17592186043904 := by
    obtain ⟨fuel, hf⟩ := h1
    rcases open_ints Try.underlying22 Try.underlying3 (by kernel_rfl) hf with ⟨hcs, _⟩ | ⟨x, l, c, zs, hcs, _, hl, hm, hz, hd, hcell, hwz⟩
    · simp [Value.cells] at hcs
      obtain ⟨rfl, rfl, rfl⟩ := hcs
      exact ⟨[], rfl, ⟨(fun x h => by cases h), .inl rfl⟩, fun _ => rfl, by simp⟩
    · simp [Value.cells] at hcs
      obtain ⟨rfl, rfl, rfl⟩ := hcs
      have hz' : zs.length = cap1 := by simpa using hz
      obtain ⟨xs, h1, h2⟩ := its_of_ints hl hz' hcell hwz
      have hd' := (Prod.mk.inj hd).1
      have hw := sized_slice hsz (j := 1) (t := 22) (e := 3) rfl (by rw [hd']; rfl) Try.underlying22
      rw [bytes8] at hw
      simp only [lits, List.length_map, List.length_take, List.length_drop, reachBytes] at hw
      exact ⟨xs, h1, h2, (fun h => by cases h), by omega⟩
  clear hA0 hval0 hsz hsz0
  subst hxl0
  subst hxl1
  obtain ⟨lo2, hi2⟩ := bounds_i64 w2
  obtain ⟨lo3, hi3⟩ := bounds_i64 w3
  refine (walk a0 xs0 cap0 a1 xs1 cap1 a2 a3 W hbt0 hcap0 hre0 hbt1 hcap1 hre1 lo2 hi2 lo3 hi3).mono fun e W' ⟨he, bel⟩ => ?_
  subst he
  exact ⟨_, rfl, _, _, _, [], _, [], hW', trodAll_mk1 (shut_bool Try.underlying4 _), (trodAll_cons_mk (Below.trod laidOut (by kernel_rfl) (of_decide_eq_true (by kernel_rfl)) k0 bel lt0) (trodAll_cons_mk (Below.trod laidOut (by kernel_rfl) (of_decide_eq_true (by kernel_rfl)) k1 bel lt1) (trodAll_cons_mk (shut_int Try.underlying3 w2) (trodAll_cons_mk (shut_int Try.underlying3 w3) trodAll_mk0)))), rfl, bel.frame _, fun h => by cases h⟩

theorem over : Rows.pacerSpacedRow.holds Try.pinned (OpenSpec.ofChange Rows.pacerSpacedSpec) :=
  OpenClaim.holds_of_wide 3 Try.f3 rfl rfl rfl rfl rfl rfl rfl ⟨rfl, rfl, rfl, rfl, rfl⟩ rfl rfl rfl rfl rfl (by kernel_rfl) Try.func3 (by kernel_rfl)
    (of_decide_eq_true (by kernel_rfl)) (by unfold Func.isWrapper; first | (rw [if_pos (by decide +kernel)]; kernel_rfl) | (rw [if_neg (by decide +kernel)]; exact ⟨rfl, rfl⟩))
    (fun os started H enc _ => lifted os started H enc)

end Go.Proofs.Ythbiadhnlomhmaa.pacerSpaced
namespace Go.Proofs.Ythbiadhnlomhmaa
/-- The statement. -/
theorem pacerSpaced_holds : Rows.PacerSpacedSaid := pacerSpaced.over
#print axioms pacerSpaced_holds
end Go.Proofs.Ythbiadhnlomhmaa
