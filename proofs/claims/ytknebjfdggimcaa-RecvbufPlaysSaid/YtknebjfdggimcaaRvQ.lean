/- Recvbuf: slices.Insert and slices.Replace of one part. -/
import Derived.Test.YtknebjfdggimcaaRvP
import Derived.Lib.Overlaps
import Derived.Laws.Externs
namespace Go.Proofs.Ytknebjfdggimcaa
open Go.RowKit Go.Proofs.Ytknebjfdggimcaa.Rv

/-- Two blocks of memory do not overlap. -/
theorem ovl_no {W : World} {g vb lb cb : Nat} {L V : List Value} {o : Nat} {tg tv : TypeId} (R : Rw g tg L W) (S : Rw vb tv V W) (hne : vb ≠ g) (hL : 0 < L.length) (c : Nat) :
    (callFunc 46 #[.slice (some ⟨vb, 0, none⟩) 1 c, .slice (some ⟨g, o, none⟩) lb cb]).run Try.prog W = .ok (.value (.bool false)) W := by
  have hsa : W.shape? vb = some (tv, V.length) := by have h := S; unfold Rw at h; simp [World.shape?, h]
  have hsb : W.shape? g = some (tg, L.length) := by have h := R; unfold Rw at h; simp [World.shape?, h]
  rw [run_callFunc_extern Try.func46 (by kernel_rfl) (by kernel_rfl) (by kernel_rfl) (e := Extern.SlicesOverlaps.overlaps #[68, 68] #[4]) (by kernel_rfl),
    Lib.run_overlaps_apart W 68 4 87 elemP.und 3 (fun w => by obtain ⟨i, hi, _, hz1, _⟩ := info_parts elemP.inf; simp [sizeOf, typeInfo, hi, hz1]) ⟨vb, 0, none⟩ ⟨g, o, none⟩ 1 c lb cb hne tv tg V.length L.length hsa hsb (by omega) (S.free 0) (S.free _)]
  rfl

theorem ins_eq {L P C : List Value} {i n : Nat} (hi : i ≤ n) (hP : P.length = 3) (hC : C.length = (n - i) * 3) (hL : (n + 1) * 3 ≤ L.length) :
    (splice (splice L ((i + 1) * 3) C) (i * 3) P).take ((n + 1) * 3) = L.take (i * 3) ++ (P ++ C) := by
  have h1 : (i + 1) * 3 + C.length ≤ L.length := by omega
  have h2 : i * 3 + P.length ≤ (splice L ((i + 1) * 3) C).length := by rw [spl_len h1]; omega
  apply List.ext_getElem?
  intro k
  have hA : (L.take (i * 3)).length = i * 3 := by rw [List.length_take]; omega
  by_cases hk : k < (n + 1) * 3
  · rw [List.getElem?_take, if_pos hk, spl_get? h2, spl_get? h1]
    by_cases h3 : k < i * 3
    · rw [if_neg (by omega), if_neg (by omega), List.getElem?_append_left (by omega), List.getElem?_take, if_pos h3]
    · rw [List.getElem?_append_right (by omega), hA]
      by_cases h4 : k - i * 3 < 3
      · rw [if_pos (by omega), List.getElem?_append_left (by omega)]
      · rw [if_neg (by omega), if_pos (by omega), List.getElem?_append_right (by omega), hP]; congr 1; omega
  · rw [List.getElem?_take, if_neg hk, List.getElem?_eq_none (by simp only [List.length_append]; omega)]

theorem ins_eq2 {L P C : List Value} {i n : Nat} (hi : i ≤ n) (hP : P.length = 3) (hC : C.length = (n - i) * 3) (hL : (n + 1) * 3 ≤ L.length) :
    (splice (splice L (i * 3) P) ((i + 1) * 3) C).take ((n + 1) * 3) = L.take (i * 3) ++ (P ++ C) := by
  have h1 : i * 3 + P.length ≤ L.length := by omega
  have h2 : (i + 1) * 3 + C.length ≤ (splice L (i * 3) P).length := by rw [spl_len h1]; omega
  apply List.ext_getElem?
  intro k
  have hA : (L.take (i * 3)).length = i * 3 := by rw [List.length_take]; omega
  by_cases hk : k < (n + 1) * 3
  · rw [List.getElem?_take, if_pos hk, spl_get? h2, spl_get? h1]
    by_cases h3 : k < i * 3
    · rw [if_neg (by omega), if_neg (by omega), List.getElem?_append_left (by omega), List.getElem?_take, if_pos h3]
    · rw [List.getElem?_append_right (by omega), hA]
      by_cases h4 : k - i * 3 < 3
      · rw [if_neg (by omega), if_pos (by omega), List.getElem?_append_left (by omega)]
      · rw [if_pos (by omega), List.getElem?_append_right (by omega), hP]; congr 1; omega
  · rw [List.getElem?_take, if_neg hk, List.getElem?_eq_none (by simp only [List.length_append]; omega)]

def InsOut (B : Nat) (a : Option Addr) (cap : Nat) (n : Nat) (ys : List Pt) (w : World) (e : Ending) (w' : World) : Prop :=
  ∃ a' c', e = .returned (.slice a' ys.length c') ∧ OwnR 87 3 PC B a' ys c' w' ∧ w.grownBy w' (Value.slice a n cap).ownBlock ∧ (∀ g', a' = some ⟨g', 0, none⟩ → a = some ⟨g', 0, none⟩ ∨ w.heap.size ≤ g')

set_option maxRecDepth 100000 in
set_option maxHeartbeats 1000000 in
theorem ins_shift (B g vb c0 : Nat) (xs : List Pt) (p : Pt) (cap i : Nat) (w : World) (O : OwnR 87 3 PC B (some ⟨g, 0, none⟩) xs cap w) (V : Rw vb 87 (PC p) w) (hv : vb ≠ g) (hi : i < xs.length) (hroom : xs.length + 1 ≤ cap) :
    Calls Try.prog 45 #[.slice (some ⟨g, 0, none⟩) xs.length cap, .int .i64 (i : Nat), .slice (some ⟨vb, 0, none⟩) 1 c0] w (InsOut B (some ⟨g, 0, none⟩) cap xs.length (xs.take i ++ p :: xs.drop i) w) := by
  have hml : maxLen = 9223372036854775807 := by rfl
  obtain ⟨L, R, hL, hT, hBg, _, hm⟩ := O.rw
  have hlt : (xs.take i ++ p :: xs.drop i).length = xs.length + 1 := by rw [List.length_append, List.length_cons, List.length_take, List.length_drop]; omega
  obtain ⟨n, hn⟩ : ∃ n, xs.length = n := ⟨_, rfl⟩
  have hcl : ((xs.drop i).flatMap PC).length = (n - i) * 3 := by rw [flat_len encP, List.length_drop, hn]
  have h1 : ∀ u ∈ (xs.drop i).flatMap PC, u.oneCell' = true := flat_one encP _
  unfold InsOut
  rw [hlt, hn]
  rw [hn] at hi hroom
  have HN := Lib.hid hn
  have HT := Lib.hid hT
  have HR := Lib.hid R
  have HV := Lib.hid V
  have HC := Lib.hid hcl
  have HR1 : Hid (Rw g 87 L w.drew) := Lib.hid (blk_drew R)
  have HS : Hid (∀ k v, ((xs.drop i).flatMap PC)[k]? = some v → w.drew.cell? ((⟨g, i * 3, none⟩ : Addr).add k) = some v) := Lib.hid (HR1.out.src (i * 3) _ (row_at hT i))
  have hovl := fun lb cb o => ovl_no (lb := lb) (cb := cb) (o := o) R V hv (by omega) c0
  have hfit1 : (i + 1) * 3 + ((xs.drop i).flatMap PC).length ≤ L.length := by rw [hL, hcl]; omega
  have hp3 : (PC p).length = 3 := rfl
  have hfit2 : i * 3 + (PC p).length ≤ (splice L ((i + 1) * 3) ((xs.drop i).flatMap PC)).length := by rw [spl_len hfit1, hL, hp3]; omega
  clear O R V hn hT hcl hlt
  have s1 : (i : Int) ≤ (n : Int) := by omega
  have s2 : (n : Int) + 1 ≤ (cap : Int) := by omega
  have s3 : (i : Int) ≤ (cap : Int) := by omega
  have s4 : ¬ ((i : Int) = (n : Int)) := by omega
  have s5 : ¬ ((cap : Int) < (n : Int) + 1) := by omega
  have s6 : ((n : Int) ≤ (cap : Int)) := by omega
  have s7 : ¬ (cap = i) := by omega
  have s8 : ¬ (cap = i + 1) := by omega
  have s9 : n ≠ i := by omega
  obtain ⟨N, hN⟩ : ∃ N, n + 1 = N := ⟨_, rfl⟩
  obtain ⟨I, hI⟩ : ∃ I, i + 1 = I := ⟨_, rfl⟩
  have W1 : IntKind.i64.wrap ((n : Int) + 1) = (N : Int) := by rw [IntWalk.i64_in _ ⟨by omega, by omega⟩]; omega
  have W2 : IntKind.i64.wrap ((i : Int) + 1) = (I : Int) := by rw [IntWalk.i64_in _ ⟨by omega, by omega⟩]; omega
  have t1 : (i : Int) ≤ (N : Int) := by omega
  have t2 : (I : Int) ≤ (N : Int) := by omega
  have t3 : ¬ (cap = I) := by omega
  have t4 : ¬ ((cap : Int) < (N : Int)) := by omega
  have t5 : (N : Int) ≤ (cap : Int) := by omega
  have HI := Lib.hid hI
  have HNN := Lib.hid hN
  rw [hN]
  rw [hI] at hfit1 hfit2
  have hIN : N - i = n - i + 1 := by omega
  have hI2 := Lib.hid hIN
  clear hIN hI hN s8 s5 s2
  go_enter Try.func45, Try.ntmps45
  go_upto_region 15 with fail
  have C1 := run_copyK (t := 68) elemP 3 (dLen := N - I) (dCap := cap - I) (sLen := N - i) (sCap := cap - i) (a := ⟨g, i * 3, none⟩) (cs := (xs.drop i).flatMap PC) HR1.out (by have hi1 := HI.out; have hi2 := HNN.out; rw [HC.out]; congr 1; omega) HS.out h1 hfit1
  have E1 := rw_set HR1.out (I * 3) ((xs.drop i).flatMap PC) hfit1
  have R4 := Lib.hid E1.1
  have G4 := Lib.hid E1.2
  have V3 : Hid (Rw vb 87 (PC p) (w.drew.setCells g (I * 3) ((xs.drop i).flatMap PC))) := Lib.hid ((E1.2.block vb (blk_lt (blk_drew HV.out)) (by simpa using hv)).trans (blk_drew HV.out))
  clear E1
  generalize w.drew.setCells g (I * 3) ((xs.drop i).flatMap PC) = W3 at C1 R4 G4 V3
  go_region_held3 (fun _ => True) (first | trivial | go_keep) (first | fail)
  have CP := run_copyK (t := 68) elemP 3 (dLen := N - i) (dCap := cap - i) (sLen := 1) (sCap := c0) (a := ⟨vb, 0, none⟩) (cs := PC p) R4.out (by rw [hp3, hI2.out]; omega) (V3.out.src 0 (PC p) (fun j v h => by rw [Nat.zero_add]; exact h)) (encP.one p) hfit2
  have E2 := rw_set R4.out (i * 3) (PC p) hfit2
  go_wp2
  go_ret
  have hi1 := HI.out
  have hi2 := HNN.out
  have hx := ins_eq (L := L) (P := PC p) (C := (xs.drop i).flatMap PC) (i := i) (n := n) (by omega) rfl HC.out (by rw [hL]; omega)
  rw [hi1, hi2] at hx
  have hll : (xs.take i ++ p :: xs.drop i).length = N := by rw [List.length_append, List.length_cons, List.length_take, List.length_drop, HN.out]; omega
  refine ⟨some ⟨g, 0, none⟩, cap, rfl, OwnR.of_rw encP (cap := cap) E2.1 ?_ ?_ hBg (by rw [hll]; omega) hm, gr_trans (gr_drew w _) (gr_trans G4.out E2.2), fun g' h => .inl (by cases h; rfl)⟩
  · rw [spl_len hfit2, spl_len hfit1, hL]
  · rw [hll, hx, List.flatMap_append, List.flatMap_cons, ← flat_take]
    congr 1
    rw [← HT.out, List.take_take]; congr 1; rw [HN.out]; omega

set_option maxRecDepth 100000 in
set_option maxHeartbeats 1000000 in
theorem ins_grow (B g vb c0 : Nat) (xs : List Pt) (p : Pt) (cap i : Nat) (w : World) (O : OwnR 87 3 PC B (some ⟨g, 0, none⟩) xs cap w) (V : Rw vb 87 (PC p) w) (hi : i < xs.length) (hroom : cap < xs.length + 1) (hsm : xs.length ≤ 5000) (hB : B ≤ w.heap.size) :
    Calls Try.prog 45 #[.slice (some ⟨g, 0, none⟩) xs.length cap, .int .i64 (i : Nat), .slice (some ⟨vb, 0, none⟩) 1 c0] w (InsOut B (some ⟨g, 0, none⟩) cap xs.length (xs.take i ++ p :: xs.drop i) w) := by
  have hml : maxLen = 9223372036854775807 := by rfl
  obtain ⟨L, R, hL, hT, hBg, hcc, hm⟩ := O.rw
  have hlt : (xs.take i ++ p :: xs.drop i).length = xs.length + 1 := by rw [List.length_append, List.length_cons, List.length_take, List.length_drop]; omega
  obtain ⟨n, hn⟩ : ∃ n, xs.length = n := ⟨_, rfl⟩
  have hcl : ((xs.drop i).flatMap PC).length = (n - i) * 3 := by rw [flat_len encP, List.length_drop, hn]
  have hal : ((xs.take i).flatMap PC).length = i * 3 := by rw [flat_len encP, List.length_take]; omega
  have h1 : ∀ u ∈ (xs.drop i).flatMap PC, u.oneCell' = true := flat_one encP _
  unfold InsOut
  rw [hlt, hn]
  rw [hn] at hi hroom hsm hcc
  obtain rfl : cap = n := by omega
  have HN := Lib.hid hn
  have HT := Lib.hid hT
  have HV := Lib.hid V
  have HR := Lib.hid R
  have HC := Lib.hid hcl
  have HA := Lib.hid hal
  have hsrcA : ∀ k v, ((xs.take i).flatMap PC)[k]? = some v → w.cell? ((⟨g, 0, none⟩ : Addr).add k) = some v := R.src 0 _ (fun k v hv => by
    rw [Nat.zero_add]
    have := row_at hT 0 k v (by
      rw [List.drop_zero]
      rw [← flat_take, List.getElem?_take] at hv
      split at hv
      · exact hv
      · cases hv)
    rwa [Nat.zero_mul, Nat.zero_add] at this)
  have HSA := Lib.hid hsrcA
  have hp3 : (PC p).length = 3 := rfl
  clear O R V hn hT hcl hlt hal hsrcA
  obtain ⟨N, hN⟩ : ∃ N, cap + 1 = N := ⟨_, rfl⟩
  obtain ⟨I, hI⟩ : ∃ I, i + 1 = I := ⟨_, rfl⟩
  obtain ⟨Z, hZ⟩ : ∃ Z, N - i = Z := ⟨_, rfl⟩
  have s1 : (i : Int) ≤ (cap : Int) := by omega
  have s4 : ¬ ((i : Int) = (cap : Int)) := by omega
  have t4 : (cap : Int) < (N : Int) := by omega
  have s7 : ¬ (cap = i) := by omega
  have W1 : IntKind.i64.wrap ((cap : Int) + 1) = (N : Int) := by rw [IntWalk.i64_in _ ⟨by omega, by omega⟩]; omega
  have W2 : IntKind.i64.wrap ((i : Int) + 1) = (I : Int) := by rw [IntWalk.i64_in _ ⟨by omega, by omega⟩]; omega
  have W3 : IntKind.i64.wrap ((N : Int) - (i : Int)) = (Z : Int) := by rw [IntWalk.i64_in _ ⟨by omega, by omega⟩]; omega
  have t1 : (i : Int) ≤ (N : Int) := by omega
  have t2 : (I : Int) ≤ (N : Int) := by omega
  have hz0 : 0 < Z := by omega
  have hiz : i + Z = N := by omega
  have hcz : cap < i + Z := by omega
  have hsz : i + Z ≤ 1000000 := by omega
  have HI := Lib.hid hI
  have HNN := Lib.hid hN
  have HZ := Lib.hid hZ
  rw [hN]
  clear hI hN hZ
  go_enter Try.func45, Try.ntmps45
  go_upto_region 10 with (first
    | (at_builtin; go_loud (refine wpList_appZ (w := w) (kq := .i64) (n := i) (cap := cap) (k := Z) (a := ⟨g, 0, none⟩) (cs := (xs.take i).flatMap PC) ?_ elemP Try.underlying3 (.tmp 34) (.tmp 39) ?_ ?_ ?_ HA.out HSA.out hz0 hcz hsz ?_ ?_; rfl; rfl; rfl; rfl; decide; intro c' zs hc1 hc2 hzl W4 R4 b4; have HR4 := Lib.hid R4; have Q4 := Lib.hid b4; have ZL := Lib.hid hzl; clear R4 b4 hzl))
    | fail)
  have hi1 := HI.out
  have hi2 := HNN.out
  have hi3 := HZ.out
  have hlA : ((xs.take i).flatMap PC ++ zs).length = c' * 3 := by rw [List.length_append, HA.out, ZL.out]; omega
  have hfit1 : i * 3 + (PC p).length ≤ ((xs.take i).flatMap PC ++ zs).length := by rw [hlA, hp3]; omega
  have hfit2 : I * 3 + ((xs.drop i).flatMap PC).length ≤ (splice ((xs.take i).flatMap PC ++ zs) (i * 3) (PC p)).length := by rw [spl_len hfit1, hlA, HC.out]; omega
  have V4 := Q4.out.block vb (blk_lt HV.out) |>.trans HV.out
  have C1 := run_copyK (t := 68) elemP 3 (dLen := N - i) (dCap := c' - i) (sLen := 1) (sCap := c0) (a := ⟨vb, 0, none⟩) (cs := PC p) HR4.out (by rw [hp3]; omega) (Rw.src (g := vb) (e := 87) V4 0 (PC p) (fun j v h => by rw [Nat.zero_add]; exact h)) (encP.one p) hfit1
  obtain ⟨R5, G5⟩ := rw_set HR4.out (i * 3) (PC p) hfit1
  have HR5 := Lib.hid R5
  have HG5 := Lib.hid G5
  have hgw : g < w.heap.size := HR.out.lt
  have hgn : g ≠ w.heap.size := by omega
  have RG5 : Hid (Rw g 87 L (W4.setCells w.heap.size (i * 3) (PC p)).drew) := Lib.hid (blk_drew ((G5.block g (blk_lt ((Q4.out.block g hgw).trans HR.out)) (by simpa using hgn)).trans ((Q4.out.block g hgw).trans HR.out)))
  clear R5 G5 V4
  generalize W4.setCells w.heap.size (i * 3) (PC p) = W5 at C1 HR5 HG5 RG5
  have HR6 : Hid (Rw w.heap.size 87 (splice ((xs.take i).flatMap PC ++ zs) (i * 3) (PC p)) W5.drew) := Lib.hid (blk_drew HR5.out)
  have C2 := run_copyK (t := 68) elemP 3 (dLen := N - I) (dCap := c' - I) (sLen := cap - i) (sCap := cap - i) (a := ⟨g, i * 3, none⟩) (cs := (xs.drop i).flatMap PC) HR6.out (by rw [HC.out]; congr 1; omega) (RG5.out.src (i * 3) _ (row_at HT.out i)) h1 hfit2
  obtain ⟨R7, G7⟩ := rw_set HR6.out (I * 3) ((xs.drop i).flatMap PC) hfit2
  have HR7 := Lib.hid R7
  have HG7 := Lib.hid G7
  clear R7 G7
  generalize W5.drew.setCells w.heap.size (I * 3) ((xs.drop i).flatMap PC) = W7 at C2 HR7 HG7
  have u1 : (i : Int) ≤ (N : Int) := by omega
  have u2 : ¬ (c' = i) := by omega
  have u3 : ¬ (c' = I) := by omega
  have u4 : (N : Int) ≤ (c' : Int) := by omega
  clear hi1 hi2 hi3
  go_upto_region 11 with fail
  go_region_held3 (fun _ => True) (first | trivial | go_keep) (first | fail)
  go_wp2
  go_ret
  have hi1 := HI.out
  have hi2 := HNN.out
  have hx := ins_eq2 (L := (xs.take i).flatMap PC ++ zs) (P := PC p) (C := (xs.drop i).flatMap PC) (i := i) (n := cap) (by omega) rfl HC.out (by rw [hlA]; omega)
  rw [hi1, hi2] at hx
  have hll : (xs.take i ++ p :: xs.drop i).length = N := by rw [List.length_append, List.length_cons, List.length_take, List.length_drop, HN.out]; omega
  refine ⟨some ⟨w.heap.size, 0, none⟩, c', rfl, OwnR.of_rw encP (cap := c') HR7.out ?_ ?_ hB (by rw [hll]; have := hc1; omega) hc2, ?_, fun g' h => .inr (by cases h; exact Nat.le_refl _)⟩
  · rw [spl_len hfit2, spl_len hfit1, hlA]
  · rw [hll, hx, List.flatMap_append, List.flatMap_cons]
    congr 1
    rw [List.take_append_of_le_length (by rw [HA.out]; exact Nat.le_refl _), List.take_of_length_le (by rw [HA.out]; exact Nat.le_refl _)]
  · have hb : Below w.heap.size w W7 := by
      have q5 : Below w.heap.size w W5 := Q4.out.trans ((Below.refl w.heap.size W4).grown HG5.out Q4.out.size (fun k e => by cases e; exact Nat.le_refl _))
      exact q5.drew.trans ((Below.refl w.heap.size W5.drew).grown HG7.out (by exact q5.size) (fun k e => by cases e; exact Nat.le_refl _))
    exact gr_below hb _

theorem sts_one {vb : Nat} {p : Pt} {w : World} (V : Rw vb 87 (PC p) w) : Sts 3 PC Tr w (some ⟨vb, 0, none⟩) [p] := by
  refine ⟨fun _ _ => trivial, .inr ⟨vb, 0, rfl, V.lt, fun i r hr j v hv => ?_⟩⟩
  cases i with
  | zero =>
    simp only [List.getElem?_cons_zero, Option.some.injEq] at hr
    subst hr
    have e : (0 : Nat) + 0 * 3 + j = j := by omega
    rw [e, V.cell]; exact hv
  | succ i => simp at hr
set_option maxRecDepth 100000 in
set_option maxHeartbeats 1000000 in
theorem ins_end (B vb c0 : Nat) (a : Option Addr) (xs : List Pt) (p : Pt) (cap : Nat) (w : World) (O : OwnR 87 3 PC B a xs cap w) (V : Rw vb 87 (PC p) w) (hsm : xs.length ≤ 5000) (hB : B ≤ w.heap.size) :
    Calls Try.prog 45 #[.slice a xs.length cap, .int .i64 (xs.length : Nat), .slice (some ⟨vb, 0, none⟩) 1 c0] w (InsOut B a cap xs.length (xs ++ [p]) w) := by
  have hml : maxLen = 9223372036854775807 := by rfl
  have hc := O.capLe
  have HO := Lib.hid O
  have HS := Lib.hid (sts_one V)
  unfold InsOut
  obtain ⟨n, hn⟩ : ∃ n, xs.length = n := ⟨_, rfl⟩
  have s1 : (n : Int) ≤ (cap : Int) := by omega
  have hl1 : (xs.length + [p].length) * 24 ≤ 140737488355328 := by rw [List.length_singleton]; omega
  have hl2 : xs.length + [p].length ≤ maxLen := by rw [List.length_singleton]; omega
  have HL1 := Lib.hid hl1
  have HL2 := Lib.hid hl2
  clear O V hl1 hl2
  rw [hn]
  go_enter Try.func45, Try.ntmps45
  go_wp2_with (first
    | (at_builtin; refine wpList_append_rA (w := w) (t := 68) (e := 87) (z := .agg #[.int .i64 0, .int .i64 0, .int .i64 0]) (m := 3) (bz := 24) (cells := PC) (xs := xs) (ys := [p]) (cap := cap) (a := a) (ad := ⟨vb, 0, none⟩) (dap := c0) (n := 1) ?_ elemP encP (.tmp 23) (.tmp 24) ?_ B ?_ HO.out HS.out ?_ ?_ HL1.out HL2.out hB ?_; rfl; rfl; rfl; (rw [hn]; rfl); rfl; intro a' c' W3 O3 b3 g3 hd3; have O4 := Lib.hid O3; have G4 := Lib.hid g3; have D4 := Lib.hid hd3; clear O3 b3 g3 hd3)
    | fail)
  all_goals
    go_ret
    refine ⟨a', c', rfl, O4.out, by have h := G4.out; rw [hn] at h; first | exact h | (cases a <;> exact h), fun g' h => ?_⟩
    rcases D4.out g' h with h1 | h1
    · exact .inl h1
    · exact .inr (by omega)
/-- Insert of one part, anywhere. -/
theorem insert_pt (B vb c0 : Nat) (a : Option Addr) (xs : List Pt) (p : Pt) (cap i : Nat) (w : World) (O : OwnR 87 3 PC B a xs cap w) (V : Rw vb 87 (PC p) w) (hv : a ≠ some ⟨vb, 0, none⟩) (hi : i ≤ xs.length) (hsm : xs.length ≤ 5000) (hB : B ≤ w.heap.size) :
    Calls Try.prog 45 #[.slice a xs.length cap, .int .i64 (i : Nat), .slice (some ⟨vb, 0, none⟩) 1 c0] w (InsOut B a cap xs.length (xs.take i ++ p :: xs.drop i) w) := by
  by_cases he : i = xs.length
  · subst he
    have h := ins_end B vb c0 a xs p cap w O V hsm hB
    rwa [List.take_length, List.drop_length]
  · obtain ⟨g, rfl, _, _⟩ := O.isSome (by omega)
    by_cases hr : xs.length + 1 ≤ cap
    · exact ins_shift B g vb c0 xs p cap i w O V (fun e => hv (by rw [e])) (by omega) hr
    · exact ins_grow B g vb c0 xs p cap i w O V (by omega) (by omega) hsm hB
end Go.Proofs.Ytknebjfdggimcaa
