/- Recvbuf: slices.Replace by one part. -/
import Derived.Test.YtknebjfdggimcaaRvQ
namespace Go.Proofs.Ytknebjfdggimcaa
open Go.RowKit Go.Proofs.Ytknebjfdggimcaa.Rv

set_option maxRecDepth 100000 in
set_option maxHeartbeats 1000000 in
theorem rep_end (B g vb c0 : Nat) (xs : List Pt) (p : Pt) (cap i : Nat) (w : World) (O : OwnR 87 3 PC B (some ⟨g, 0, none⟩) xs cap w) (V : Rw vb 87 (PC p) w) (hi : i < xs.length) :
    Calls Try.prog 39 #[.slice (some ⟨g, 0, none⟩) xs.length cap, .int .i64 (i : Nat), .int .i64 (xs.length : Nat), .slice (some ⟨vb, 0, none⟩) 1 c0] w (InsOut B (some ⟨g, 0, none⟩) cap xs.length (xs.take i ++ [p]) w) := by
  have hml : maxLen = 9223372036854775807 := by rfl
  obtain ⟨L, R, hL, hT, hBg, hcc, hm⟩ := O.rw
  have hlt : (xs.take i ++ [p]).length = i + 1 := by rw [List.length_append, List.length_singleton, List.length_take]; omega
  obtain ⟨n, hn⟩ : ∃ n, xs.length = n := ⟨_, rfl⟩
  unfold InsOut
  rw [hlt, hn]
  rw [hn] at hi hcc
  have HN := Lib.hid hn
  have HT := Lib.hid hT
  have HR := Lib.hid R
  have HV := Lib.hid V
  have hp3 : (PC p).length = 3 := rfl
  have hfit : i * 3 + (PC p).length ≤ L.length := by rw [hL, hp3]; omega
  have hsrc : ∃ a, (some (⟨vb, 0, none⟩ : Addr)) = some a ∧ ∀ k v, (PC p)[k]? = some v → w.cell? (a.add k) = some v := ⟨_, rfl, V.src 0 (PC p) (fun j v h => by rw [Nat.zero_add]; exact h)⟩
  have HS := Lib.hid hsrc
  clear O R V hn hT hsrc hlt
  obtain ⟨I, hI⟩ : ∃ I, i + 1 = I := ⟨_, rfl⟩
  rw [hI]
  have s1 : (i : Int) ≤ (n : Int) := by omega
  have s2 : (i : Int) ≤ (cap : Int) := by omega
  have s3 : ¬ ((i : Int) = (n : Int)) := by omega
  have s4 : (n : Int) ≤ (cap : Int) := by omega
  have s7 : ¬ (cap = i) := by omega
  have hic : i + 1 ≤ cap := by omega
  have HI := Lib.hid hI
  go_enter Try.func39, Try.ntmps39
  go_upto_region 6 with (first
    | (at_builtin; refine wpList_appF (w := w) (g := g) (n := i) (cap := cap) (k := 1) (c := c0) (sd := some ⟨vb, 0, none⟩) (cs := PC p) (L := L) ?_ elemP (.tmp 32) (.tmp 33) ?_ ?_ ?_ HR.out ?_ HS.out (encP.one p) hic hfit ?_; rfl; rfl; rfl; rfl; rfl; intro W1 R1 G1; have HR1 := Lib.hid R1; have HG1 := Lib.hid G1; clear R1 G1)
    | fail)
  by_cases hIn : I = n
  · have t1 : ¬ ((I : Int) < (n : Int)) := by omega
    clear hI
    go_wp2
    go_ret
    have hi1 := HI.out
    refine ⟨some ⟨g, 0, none⟩, cap, rfl, OwnR.of_rw encP (cap := cap) HR1.out ?_ ?_ hBg (by rw [List.length_append, List.length_singleton, List.length_take, HN.out]; omega) hm, HG1.out, fun g' h => .inl (by cases h; rfl)⟩
    · rw [spl_len hfit, hL]
    · have hx := take_spl2 (L := L) (cs := PC p) (o := i * 3) hfit
      rw [hp3] at hx
      rw [show (xs.take i ++ [p]).length * 3 = i * 3 + 3 by rw [List.length_append, List.length_singleton, List.length_take, HN.out]; omega, hx, List.flatMap_append, ← flat_take]
      rw [show [p].flatMap PC = PC p from by simp]
      congr 1
      rw [← HT.out, List.take_take]; congr 1; rw [HN.out]; omega
  · have hfit2 : I * 3 + (n - I) * 3 ≤ (splice L (i * 3) (PC p)).length := by rw [spl_len hfit, hL]; omega
    obtain ⟨zs, hzl, CL⟩ := run_clearK (t := 68) elemP one_zP 0 (n := n - I) (c := cap - I) HR1.out (by omega) hfit2
    obtain ⟨R2, G2⟩ := rw_set HR1.out (I * 3) zs (by rw [hzl]; exact hfit2)
    have HR2 := Lib.hid R2
    have HG2 := Lib.hid G2
    have ZL := Lib.hid hzl
    have t1 : ((I : Int) < (n : Int)) := by omega
    have t2 : (I : Int) ≤ (n : Int) := by omega
    have t3 : ¬ (cap = I) := by omega
    clear hI R2 G2 hzl
    go_wp2
    go_ret
    have hi1 := HI.out
    refine ⟨some ⟨g, 0, none⟩, cap, rfl, OwnR.of_rw encP (cap := cap) HR2.out ?_ ?_ hBg (by rw [List.length_append, List.length_singleton, List.length_take, HN.out]; omega) hm, gr_trans HG1.out HG2.out, fun g' h => .inl (by cases h; rfl)⟩
    · rw [spl_len (by rw [ZL.out]; exact hfit2), spl_len hfit, hL]
    · have hx := take_spl2 (L := L) (cs := PC p) (o := i * 3) hfit
      rw [hp3] at hx
      rw [show (xs.take i ++ [p]).length * 3 = I * 3 by rw [List.length_append, List.length_singleton, List.length_take, HN.out]; omega, take_spl (by rw [ZL.out]; exact hfit2), show I * 3 = i * 3 + 3 by omega, hx, List.flatMap_append, ← flat_take]
      rw [show [p].flatMap PC = PC p from by simp]
      congr 1
      rw [← HT.out, List.take_take]; congr 1; rw [HN.out]; omega

theorem mid_eq {L P C : List Value} {i t : Nat} (hP : P.length = 3) (hC : t = i + 1 + C.length / 3) (hC3 : C.length = (t - i - 1) * 3) (hL : t * 3 ≤ L.length) :
    (splice (splice L (i * 3) P) ((i + 1) * 3) C).take (t * 3) = L.take (i * 3) ++ (P ++ C) := by
  obtain ⟨n, rfl⟩ : ∃ n, t = n + 1 := ⟨t - 1, by omega⟩
  exact ins_eq2 (by omega) hP (by rw [hC3]; congr 1; omega) hL

set_option maxRecDepth 100000 in
set_option maxHeartbeats 1000000 in
theorem rep_mid (B g vb c0 : Nat) (xs : List Pt) (p : Pt) (cap i j : Nat) (w : World) (O : OwnR 87 3 PC B (some ⟨g, 0, none⟩) xs cap w) (V : Rw vb 87 (PC p) w) (hij : i < j) (hj : j < xs.length) :
    Calls Try.prog 39 #[.slice (some ⟨g, 0, none⟩) xs.length cap, .int .i64 (i : Nat), .int .i64 (j : Nat), .slice (some ⟨vb, 0, none⟩) 1 c0] w (InsOut B (some ⟨g, 0, none⟩) cap xs.length (xs.take i ++ p :: xs.drop j) w) := by
  have hml : maxLen = 9223372036854775807 := by rfl
  obtain ⟨L, R, hL, hT, hBg, hcc, hm⟩ := O.rw
  obtain ⟨n, hn⟩ : ∃ n, xs.length = n := ⟨_, rfl⟩
  have hlt : (xs.take i ++ p :: xs.drop j).length = i + 1 + (n - j) := by rw [List.length_append, List.length_cons, List.length_take, List.length_drop]; omega
  have hcl : ((xs.drop j).flatMap PC).length = (n - j) * 3 := by rw [flat_len encP, List.length_drop, hn]
  have h1 : ∀ u ∈ (xs.drop j).flatMap PC, u.oneCell' = true := flat_one encP _
  unfold InsOut
  rw [hlt, hn]
  rw [hn] at hj hcc
  obtain ⟨q, hq⟩ : ∃ q, n - j = q := ⟨_, rfl⟩
  obtain ⟨I, hI⟩ : ∃ I, i + 1 = I := ⟨_, rfl⟩
  obtain ⟨T, hTt⟩ : ∃ T, I + q = T := ⟨_, rfl⟩
  rw [hI, hq, hTt]
  rw [hq] at hcl
  have hp3 : (PC p).length = 3 := rfl
  have hfit1 : i * 3 + (PC p).length ≤ L.length := by rw [hL, hp3]; omega
  have hfit2 : I * 3 + ((xs.drop j).flatMap PC).length ≤ (splice L (i * 3) (PC p)).length := by rw [spl_len hfit1, hL, hcl]; omega
  have HN := Lib.hid hn
  have HT := Lib.hid hT
  have HV := Lib.hid V
  have HR := Lib.hid R
  have HC := Lib.hid hcl
  have HLT := Lib.hid hlt
  have hsrcV := V.src 0 (PC p) (fun j v h => by rw [Nat.zero_add]; exact h)
  have HSV := Lib.hid hsrcV
  clear O R V hn hT hcl hlt hsrcV
  have s0 : (i : Int) ≤ (j : Int) := by omega
  have s1 : (i : Int) ≤ (n : Int) := by omega
  have s2 : (i : Int) ≤ (cap : Int) := by omega
  have s3 : ¬ ((i : Int) = (j : Int)) := by omega
  have s4 : (n : Int) ≤ (cap : Int) := by omega
  have s5 : (j : Int) ≤ (n : Int) := by omega
  have s6 : ¬ ((j : Int) = (n : Int)) := by omega
  have s7 : ¬ (cap = i) := by omega
  have s8 : ¬ (cap = j) := by omega
  have s9 : ¬ (cap = I) := by omega
  have W1 : IntKind.i64.wrap ((i : Int) + 1) = (I : Int) := by rw [IntWalk.i64_in _ ⟨by omega, by omega⟩]; omega
  have W2 : IntKind.i64.wrap ((I : Int) + (q : Int)) = (T : Int) := by rw [IntWalk.i64_in _ ⟨by omega, by omega⟩]; omega
  have t1 : ¬ ((cap : Int) < (T : Int)) := by omega
  have t2 : (T : Int) ≤ (cap : Int) := by omega
  have t3 : (i : Int) ≤ (T : Int) := by omega
  have t4 : (I : Int) ≤ (T : Int) := by omega
  have t5 : (I : Int) ≤ (j : Int) := by omega
  have t6 : (T : Int) ≤ (n : Int) := by omega
  have HI := Lib.hid hI
  have HQ := Lib.hid hq
  have HTT := Lib.hid hTt
  clear hI hTt
  go_enter Try.func39, Try.ntmps39
  go_upto_region 9 with fail
  go_region_held3 (fun _ => True) (first | trivial | go_keep) (first | fail)
  have HR0 : Hid (Rw g 87 L w.drew) := Lib.hid (blk_drew HR.out)
  have V0 : Hid (Rw vb 87 (PC p) w.drew) := Lib.hid (blk_drew HV.out)
  have C1 := run_copyK (t := 68) elemP 3 (dLen := T - i) (dCap := cap - i) (sLen := 1) (sCap := c0) (a := ⟨vb, 0, none⟩) (cs := PC p) HR0.out (by have hi1 := HI.out; have hi2 := HTT.out; rw [hp3]; omega) (V0.out.src 0 (PC p) (fun j v h => by rw [Nat.zero_add]; exact h)) (encP.one p) hfit1
  obtain ⟨R1, G1⟩ := rw_set HR0.out (i * 3) (PC p) hfit1
  have HR1 := Lib.hid R1
  have HG1 := Lib.hid G1
  clear R1 G1
  generalize w.drew.setCells g (i * 3) (PC p) = V1 at C1 HR1 HG1
  have HR2 : Hid (Rw g 87 (splice L (i * 3) (PC p)) V1.drew) := Lib.hid (blk_drew HR1.out)
  have hs2 := HR2.out.src (j * 3) ((xs.drop j).flatMap PC) (fun k v hk => by
    have hi1 := HI.out
    rw [spl_get? hfit1, if_neg (by rw [hp3]; omega)]
    exact row_at HT.out j k v hk)
  have C2 := run_copyK (t := 68) elemP 3 (dLen := T - I) (dCap := cap - I) (sLen := q) (sCap := cap - j) (a := ⟨g, j * 3, none⟩) (cs := (xs.drop j).flatMap PC) HR2.out (by have hi2 := HTT.out; rw [HC.out]; congr 1; omega) hs2 h1 hfit2
  obtain ⟨R3, G3⟩ := rw_set HR2.out (I * 3) ((xs.drop j).flatMap PC) hfit2
  have HR3 := Lib.hid R3
  have HG3 := Lib.hid G3
  clear R3 G3 hs2
  generalize V1.drew.setCells g (I * 3) ((xs.drop j).flatMap PC) = V3 at C2 HR3 HG3
  go_upto_region 18 with fail
  go_region_held3 (fun _ => True) (first | trivial | go_keep) (first | fail)
  have hll : (splice (splice L (i * 3) (PC p)) (I * 3) ((xs.drop j).flatMap PC)).length = cap * 3 := by rw [spl_len hfit2, spl_len hfit1, hL]
  have hG : w.grownBy V3 (some g) := gr_trans (gr_drew w _) (gr_trans HG1.out (gr_trans (gr_drew V1 _) HG3.out))
  have hmid : (splice (splice L (i * 3) (PC p)) (I * 3) ((xs.drop j).flatMap PC)).take (T * 3) = (xs.take i ++ p :: xs.drop j).flatMap PC := by
    have hi1 := HI.out
    have hi2 := HTT.out
    have hx := mid_eq (L := L) (P := PC p) (C := (xs.drop j).flatMap PC) (i := i) (t := T) rfl (by rw [HC.out]; omega) (by rw [HC.out]; congr 1; omega) (by rw [hL]; omega)
    rw [hi1] at hx
    rw [hx, List.flatMap_append, List.flatMap_cons, ← flat_take]
    congr 1
    rw [← HT.out, List.take_take]; congr 1; rw [HN.out]; omega
  have hlen : (xs.take i ++ p :: xs.drop j).length = T := by have hi1 := HI.out; have hi2 := HTT.out; have hi3 := HQ.out; rw [HLT.out]; omega
  have HLL := Lib.hid hll
  have HG := Lib.hid hG
  have HM := Lib.hid hmid
  have HLN := Lib.hid hlen
  clear hll hG hmid hlen
  by_cases hTn : T = n
  · have CL : ∀ (ae : Option Addr) (c : Nat), (Builtin.clear_ #[68] 0 #[.slice ae 0 c]).run Try.prog V3 = .ok (.tuple #[]) V3 := fun ae c => by
      cases ae <;> simp [Builtin.clear_, run_underlying Try.underlying68]
    have hz : n - T = 0 := by omega
    rcases Nat.lt_or_ge T cap with hcT | hcT
    case inl =>
      have t7 : ¬ (cap = T) := by omega
      have t8 : ¬ (cap = n) := by omega
      go_wp2
      all_goals
        go_ret
        exact ⟨some ⟨g, 0, none⟩, cap, rfl, OwnR.of_rw encP (cap := cap) HR3.out HLL.out (by rw [HLN.out]; exact HM.out) hBg (by rw [HLN.out]; omega) hm, HG.out, fun g' h => .inl (by cases h; rfl)⟩
    case inr =>
      have t7 : cap = T := by omega
      subst t7
      subst hTn
      go_wp2
      all_goals
        go_ret
        exact ⟨some ⟨g, 0, none⟩, _, rfl, OwnR.of_rw encP HR3.out HLL.out (by rw [HLN.out]; exact HM.out) hBg (by rw [HLN.out]; omega) hm, HG.out, fun g' h => .inl (by cases h; rfl)⟩
  · have hfit3 : T * 3 + (n - T) * 3 ≤ (splice (splice L (i * 3) (PC p)) (I * 3) ((xs.drop j).flatMap PC)).length := by rw [HLL.out]; omega
    obtain ⟨zs, hzl, CL⟩ := run_clearK (t := 68) elemP one_zP 0 (n := n - T) (c := cap - T) HR3.out (by omega) hfit3
    obtain ⟨R4, G4⟩ := rw_set HR3.out (T * 3) zs (by rw [hzl]; exact hfit3)
    have HR4 := Lib.hid R4
    have HG4 := Lib.hid G4
    have ZL := Lib.hid hzl
    have t7 : ¬ (cap = T) := by omega
    clear R4 G4 hzl
    go_wp2
    go_ret
    refine ⟨some ⟨g, 0, none⟩, cap, rfl, OwnR.of_rw encP (cap := cap) HR4.out ?_ ?_ hBg (by rw [HLN.out]; omega) hm, gr_trans HG.out HG4.out, fun g' h => .inl (by cases h; rfl)⟩
    · rw [spl_len (by rw [ZL.out]; exact hfit3), HLL.out]
    · rw [HLN.out, take_spl (by rw [ZL.out]; exact hfit3)]; exact HM.out
set_option maxRecDepth 100000 in
/-- Replace of any by one part. -/
theorem replace_pt (B vb c0 : Nat) (a : Option Addr) (xs : List Pt) (p : Pt) (cap i j : Nat) (w : World) (O : OwnR 87 3 PC B a xs cap w) (V : Rw vb 87 (PC p) w) (hv : a ≠ some ⟨vb, 0, none⟩) (hij : i ≤ j) (hj : j ≤ xs.length) (hsm : xs.length ≤ 5000) (hB : B ≤ w.heap.size) :
    Calls Try.prog 39 #[.slice a xs.length cap, .int .i64 (i : Nat), .int .i64 (j : Nat), .slice (some ⟨vb, 0, none⟩) 1 c0] w (InsOut B a cap xs.length (xs.take i ++ p :: xs.drop j) w) := by
  by_cases he : i = j
  · subst he
    have hcall := insert_pt B vb c0 a xs p cap i w O V hv hj hsm hB
    have hc := O.capLe
    obtain ⟨n, hn⟩ : ∃ n, xs.length = n := ⟨_, rfl⟩
    rw [hn] at hcall hj hc ⊢
    have s1 : (i : Int) ≤ (n : Int) := by omega
    have s2 : (n : Int) ≤ (cap : Int) := by omega
    unfold InsOut at hcall ⊢
    generalize xs.take i ++ p :: xs.drop i = ys at hcall ⊢
    have HC := Lib.hid hcall
    clear O V hn hcall hv
    rcases Nat.lt_or_ge i cap with hci | hci
    · have s7 : ¬ (cap = i) := by omega
      go_enter Try.func39, Try.ntmps39
      go_wp2_with (first
        | (go_at_call 45; refine HC.out.mono ?_; rintro e w' ⟨a', c', rfl, O2, G2, D2⟩; have HO := Lib.hid O2; have HG := Lib.hid G2; have HD := Lib.hid D2; clear O2 G2 D2)
        | fail)
      go_ret
      exact ⟨a', c', rfl, HO.out, HG.out, HD.out⟩
    · obtain rfl : cap = i := by omega
      obtain rfl : cap = n := by omega
      go_enter Try.func39, Try.ntmps39
      go_wp2_with (first
        | (go_at_call 45; refine HC.out.mono ?_; rintro e w' ⟨a', c', rfl, O2, G2, D2⟩; have HO := Lib.hid O2; have HG := Lib.hid G2; have HD := Lib.hid D2; clear O2 G2 D2)
        | fail)
      go_ret
      exact ⟨a', c', rfl, HO.out, HG.out, HD.out⟩
  · obtain ⟨g, rfl, _, _⟩ := O.isSome (by omega)
    by_cases hr : j = xs.length
    · subst hr
      have h := rep_end B g vb c0 xs p cap i w O V (by omega)
      rwa [List.drop_length]
    · exact rep_mid B g vb c0 xs p cap i j w O V (by omega) (by omega)
end Go.Proofs.Ytknebjfdggimcaa
