/- Recvbuf: parts, as they lie; slices.Delete of them. -/
import Derived.Test.YtknebjfdggimcaaRvM
import Derived.Test.YtknebjfdggimcaaGSlK
import Derived.Test.YtknebjfdggimcaaGOwnA
import Derived.Deep.RegionHeld3
import Derived.Deep.DeepCutAuto
namespace Go.Proofs.Ytknebjfdggimcaa
open Go.RowKit Go.Proofs.Ytknebjfdggimcaa.Rv

def PC (p : Pt) : List Value := [.int .i64 (p.1 : Nat), .int .i64 (p.2.1 : Nat), .int .i64 (p.2.2 : Nat)]
theorem encP : Enc 3 PC := ⟨fun _ => rfl, fun x u hu => by
  simp only [PC, List.mem_cons, List.not_mem_nil, or_false] at hu
  rcases hu with rfl | rfl | rfl <;> rfl, by decide⟩
theorem elemP : Elem 68 87 (.agg #[.int .i64 0, .int .i64 0, .int .i64 0]) 3 24 := ⟨Try.underlying68, by kernel_rfl, rfl, by decide⟩
theorem flat_take (xs : List Pt) (i : Nat) : (xs.flatMap PC).take (i * 3) = (xs.take i).flatMap PC := by
  induction xs generalizing i with
  | nil => simp
  | cons x xs ih =>
    cases i with
    | zero => simp
    | succ i =>
      rw [List.take_succ_cons, List.flatMap_cons, List.flatMap_cons, ← ih i, show (i + 1) * 3 = (PC x).length + i * 3 by rw [encP.len]; omega, List.take_length_add_append]
theorem flat_drop (xs : List Pt) (i : Nat) : (xs.flatMap PC).drop (i * 3) = (xs.drop i).flatMap PC := by
  induction xs generalizing i with
  | nil => simp
  | cons x xs ih =>
    cases i with
    | zero => simp
    | succ i =>
      rw [List.drop_succ_cons, List.flatMap_cons, ← ih i, show (i + 1) * 3 = (PC x).length + i * 3 by rw [encP.len]; omega, List.drop_length_add_append]
/-- What a row holds from an element on. -/
theorem row_at {L : List Value} {xs : List Pt} (hL : L.take (xs.length * 3) = xs.flatMap PC) (j : Nat) : ∀ k v, ((xs.drop j).flatMap PC)[k]? = some v → L[j * 3 + k]? = some v := by
  intro k v hv
  rw [← flat_drop, List.getElem?_drop, ← hL, List.getElem?_take] at hv
  split at hv
  · exact hv
  · cases hv

theorem take_spl {L cs : List Value} {o : Nat} (h : o + cs.length ≤ L.length) : (splice L o cs).take o = L.take o := by
  unfold splice
  rw [List.take_append_of_le_length (by rw [List.length_take]; omega), List.take_of_length_le (by rw [List.length_take]; omega)]
theorem take_spl2 {L cs : List Value} {o : Nat} (h : o + cs.length ≤ L.length) : (splice L o cs).take (o + cs.length) = L.take o ++ cs := by
  unfold splice
  rw [← List.append_assoc, List.take_append_of_le_length (by rw [List.length_append, List.length_take]; omega), List.take_of_length_le (by rw [List.length_append, List.length_take]; omega)]
theorem one_zP : ∀ v ∈ (Value.agg #[.int .i64 0, .int .i64 0, .int .i64 0]).cells.toList, v.oneCell' = true := by
  intro v hv
  have : (Value.agg #[.int .i64 0, .int .i64 0, .int .i64 0]).cells.toList = [.int .i64 0, .int .i64 0, .int .i64 0] := rfl
  rw [this] at hv
  simp only [List.mem_cons, List.not_mem_nil, or_false] at hv
  rcases hv with rfl | rfl | rfl <;> rfl

set_option maxRecDepth 100000 in
set_option maxHeartbeats 1000000 in
theorem delete_pt (B : Nat) (a : Option Addr) (xs : List Pt) (cap i j : Nat) (w : World) (O : OwnR 87 3 PC B a xs cap w) (hij : i ≤ j) (hj : j ≤ xs.length) :
    Calls Try.prog 40 #[.slice a xs.length cap, .int .i64 (i : Nat), .int .i64 (j : Nat)] w fun e w' => e = .returned (.slice a (xs.take i ++ xs.drop j).length cap) ∧ OwnR 87 3 PC B a (xs.take i ++ xs.drop j) cap w' ∧ w.grownBy w' (Value.slice a xs.length cap).ownBlock := by
  have hc := O.capLe
  obtain ⟨n, hn⟩ : ∃ n, xs.length = n := ⟨_, rfl⟩
  have hml : maxLen = 9223372036854775807 := by rfl
  by_cases he : i = j
  · subst he
    have HO := Lib.hid O
    have hx : xs.take i ++ xs.drop i = xs := List.take_append_drop i xs
    rw [hx]
    clear O
    rw [hn] at hj hc ⊢
    have s1 : (i : Int) ≤ (n : Int) := by omega
    have s2 : (n : Int) ≤ (cap : Int) := by omega
    clear hn
    go_enter Try.func40, Try.ntmps40
    go_wp2
    all_goals
      go_ret
      exact ⟨rfl, HO.out, World.grownBy.refl _ _⟩
  obtain ⟨g, rfl, hB, hg⟩ := O.isSome (by omega)
  obtain ⟨L, R, hL, hT, hBg, _, hm⟩ := O.rw
  have hlt : (xs.take i ++ xs.drop j).length = i + (n - j) := by rw [List.length_append, List.length_take, List.length_drop, hn]; omega
  have hfl : ((xs.drop j).flatMap PC).length = (n - j) * 3 := by rw [flat_len encP, List.length_drop, hn]
  have hsrc := R.src (j * 3) ((xs.drop j).flatMap PC) (row_at hT j)
  have HO : Hid (xs.take i ++ xs.drop j = xs.take i ++ xs.drop j) := Lib.hid rfl
  have HR := Lib.hid R
  have HS := Lib.hid hsrc
  have HT := Lib.hid hT
  clear O R hsrc hT
  rw [hn] at hj hc ⊢
  rw [show (Value.slice (some ⟨g, 0, none⟩) n cap).ownBlock = some g from rfl, hlt]
  obtain ⟨q, hq⟩ : ∃ q, n - j = q := ⟨_, rfl⟩
  rw [hq] at hfl ⊢
  have hqn : j + q = n := by omega
  have s1 : (i : Int) ≤ (j : Int) := by omega
  have s2 : (j : Int) ≤ (n : Int) := by omega
  have s3 : (i : Int) ≤ (cap : Int) := by omega
  have s4 : ¬ ((i : Int) = (j : Int)) := by omega
  have s5 : ((n : Int) ≤ (cap : Int)) := by omega
  have HN := Lib.hid hn
  clear hn
  go_enter Try.func40, Try.ntmps40
  go_upto_region 5 with fail
  have HD : Hid (Rw g 87 L w.drew) := Lib.hid (blk_drew HR.out)
  have HE : Hid (∀ k v, ((xs.drop j).flatMap PC)[k]? = some v → w.drew.cell? ((⟨g, j * 3, none⟩ : Addr).add k) = some v) := Lib.hid (HD.out.src (j * 3) _ (row_at HT.out j))
  have HF := Lib.hid hfl
  have h1 : ∀ u ∈ (xs.drop j).flatMap PC, u.oneCell' = true := flat_one encP _
  have hfit : i * 3 + ((xs.drop j).flatMap PC).length ≤ L.length := by rw [hL, hfl]; omega
  obtain ⟨k, hk⟩ : ∃ k, i + q = k := ⟨_, rfl⟩
  have hroom : i + q ≤ cap := by omega
  obtain ⟨ad, hadE⟩ : ∃ ad, (if cap = j then some (⟨g, 0, none⟩ : Addr) else some ⟨g, j * 3, none⟩) = ad := ⟨_, rfl⟩
  have had : Hid (∃ a, ad = some a ∧ ∀ k v, ((xs.drop j).flatMap PC)[k]? = some v → w.drew.cell? (a.add k) = some v) := Lib.hid (by
    rw [← hadE]
    by_cases hcap : cap = j
    · rw [if_pos hcap]
      have : (xs.drop j).flatMap PC = [] := List.eq_nil_of_length_eq_zero (by rw [hfl]; omega)
      exact ⟨_, rfl, fun k v h => by rw [this] at h; cases h⟩
    · rw [if_neg hcap]; exact ⟨_, rfl, HE.out⟩)
  clear hfl
  go_region_held3 (fun _ => True) (first | trivial | go_keep) (first
      | (refine step_appF (act := ⟨_, _⟩) (g := g) (n := i) (cap := cap) (k := q) (c := cap - j) (cs := (xs.drop j).flatMap PC) (L := L) rfl elemP (.tmp 22) (.tmp 25) rfl ?_ ?_ HD.out HF.out had.out h1 hroom hfit ?_; rfl; rfl; intro W1 R1 G1; have R2 := Lib.hid R1; have G2 := Lib.hid G1; clear R1 G1))
  have hLs : (splice L (i * 3) ((xs.drop j).flatMap PC)).length = L.length := spl_len hfit
  have hkn : k < n := by omega
  have hck : k < cap := by omega
  have s9 : ¬ cap = k := by omega
  have s8 : (k : Int) ≤ (n : Int) := by omega
  have hfit2 : k * 3 + (n - k) * 3 ≤ (splice L (i * 3) ((xs.drop j).flatMap PC)).length := by rw [hLs, hL]; omega
  obtain ⟨zs, hzl, CL⟩ := run_clearK (t := 68) elemP one_zP 0 (n := n - k) (c := cap - k) R2.out (by omega) hfit2
  have E2 := rw_set R2.out (k * 3) zs (by rw [hzl]; exact hfit2)
  have HK := Lib.hid hk
  have ZL := Lib.hid hzl
  clear hk hLs hzl hadE
  go_wp2
  go_ret
  have hk := HK.out
  have h6 : (splice (splice L (i * 3) ((xs.drop j).flatMap PC)) (k * 3) zs).take (k * 3) = (xs.take i ++ xs.drop j).flatMap PC := by
    have hLs : (splice L (i * 3) ((xs.drop j).flatMap PC)).length = L.length := spl_len hfit
    rw [take_spl (by rw [ZL.out]; exact hfit2), show k * 3 = i * 3 + ((xs.drop j).flatMap PC).length by rw [HF.out]; omega, take_spl2 hfit, List.flatMap_append, ← flat_take]
    congr 1
    rw [← HT.out, List.take_take]; congr 1; rw [HN.out]; omega
  refine ⟨by rw [← hk]; rfl, OwnR.of_rw encP (cap := cap) E2.1 ?_ ?_ hBg (by rw [hlt]; omega) hm, gr_trans (gr_drew w _) (gr_trans G2.out E2.2)⟩
  · rw [spl_len (by rw [ZL.out]; exact hfit2), spl_len hfit, hL]
  · rw [hlt, hq, hk]; exact h6
end Go.Proofs.Ytknebjfdggimcaa
