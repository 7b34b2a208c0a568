/- A packet built again of what was read: the same octets, but for bit 15 and a checksum of 0 or 65535. -/
import Derived.Test.YtpdlmgafkjmjpaaIpBack
namespace Go.Proofs.Ytpdlmgafkjmjpaa
open Go.RowKit

/-- May some octets be others? -/
def ipOdd (xs : List Nat) : Prop := 128 ≤ xs.getD 6 0 ∨ (xs.getD 10 0 = xs.getD 11 0 ∧ (xs.getD 10 0 = 0 ∨ xs.getD 10 0 = 255))

theorem seg2 (xs : List Nat) (i : Nat) (hi : i + 2 ≤ xs.length) : seg xs i 2 = [xs.getD i 0, xs.getD (i + 1) 0] := by
  unfold seg
  apply List.ext_getElem
  · simp; omega
  · intro j h1 h2
    simp at h2
    obtain rfl | rfl : j = 0 ∨ j = 1 := by omega
    all_goals simp [List.getD_eq_getElem?_getD, List.getElem?_eq_getElem (show i < xs.length by omega), List.getElem?_eq_getElem (show i + 1 < xs.length by omega)]

theorem seg4' (xs : List Nat) (i : Nat) (hi : i + 4 ≤ xs.length) : seg xs i 4 = [xs.getD i 0, xs.getD (i + 1) 0, xs.getD (i + 2) 0, xs.getD (i + 3) 0] := by
  unfold seg
  apply List.ext_getElem
  · simp; omega
  · intro j h1 h2
    simp at h2
    obtain rfl | rfl | rfl | rfl : j = 0 ∨ j = 1 ∨ j = 2 ∨ j = 3 := by omega
    all_goals simp [List.getD_eq_getElem?_getD, List.getElem?_eq_getElem (show i < xs.length by omega), List.getElem?_eq_getElem (show i + 1 < xs.length by omega), List.getElem?_eq_getElem (show i + 2 < xs.length by omega), List.getElem?_eq_getElem (show i + 3 < xs.length by omega)]

theorem octs2 (n : Nat) (h : n < 65536) : Mt.octs n 2 = [n / 256, n % 256] := by
  have h1 : n / 256 % 256 = n / 256 := by omega
  simp [Mt.octs, List.range_succ, h1]

theorem octs4 (n : Nat) (h : n < 4294967296) : Mt.octs n 4 = [n / 16777216, n / 65536 % 256, n / 256 % 256, n % 256] := by
  have h1 : n / 16777216 % 256 = n / 16777216 := by omega
  simp [Mt.octs, List.range_succ, h1]

/-- The two octets of a fragment, but for bit 15. -/
theorem ipFw_again (fr : Nat) : ipFw (8 * (fr % 8192)) (((fr &&& 16384 : Nat) : Int) != 0) (((fr &&& 8192 : Nat) : Int) != 0) = fr % 32768 := by
  have e1 := nat_bit 14 fr
  have e2 := nat_bit 13 fr
  have p1 : (2 : Nat) ^ 14 = 16384 := by decide
  have p2 : (2 : Nat) ^ 13 = 8192 := by decide
  rw [p1] at e1
  rw [p2] at e2
  unfold ipFw
  rw [e1, e2]
  have q1 : ((((fr / 16384 % 2 * 16384 : Nat) : Int) != 0) = decide (fr / 16384 % 2 = 1)) := by
    rcases (show fr / 16384 % 2 = 0 ∨ fr / 16384 % 2 = 1 by omega) with h | h <;> rw [h] <;> rfl
  have q2 : ((((fr / 8192 % 2 * 8192 : Nat) : Int) != 0) = decide (fr / 8192 % 2 = 1)) := by
    rcases (show fr / 8192 % 2 = 0 ∨ fr / 8192 % 2 = 1 by omega) with h | h <;> rw [h] <;> rfl
  rw [q1, q2]
  simp only [decide_eq_true_eq]
  split <;> split <;> omega

theorem wt_mid2 (P R : List Nat) (x y : Nat) (he : P.length % 2 = 0) : Mt.wt true (P ++ [x, y] ++ R) = Mt.wt true P + (x * 256 + y + Mt.wt true R) := by
  rw [List.append_assoc, Mt.wt_append_even _ _ _ he]
  show _ + Mt.wt true (x :: y :: R) = _
  rw [Mt.wt_two]

set_option maxRecDepth 100000 in
set_option maxHeartbeats 1000000 in
/-- The 20 octets again. -/
theorem ip_again_head (xs : List Nat) (hx : ∀ x ∈ xs, x < 256) (h : IpPok xs) (i : Nat) (hi : i < 20) :
    (ipHd (69 + (ipOs xs).length / 4) (xs.getD 1 0) (20 + (ipOs xs).length + (ipDs xs).length) (Mt.numOf (seg xs 4 2)) (ipFw (ipOff xs) (ipDf xs) (ipMf xs)) (xs.getD 8 0) (xs.getD 9 0)
      (ipC (xs.getD 1 0) (Mt.numOf (seg xs 4 2)) (ipDf xs) (ipMf xs) (ipOff xs) (xs.getD 8 0) (xs.getD 9 0) (Mt.numOf (seg xs 12 4)) (Mt.numOf (seg xs 16 4)) (ipOs xs) (ipDs xs).length)
      (Mt.numOf (seg xs 12 4)) (Mt.numOf (seg xs 16 4))).getD i 0 = xs.getD i 0 ∨ (ipOdd xs ∧ (i = 6 ∨ i = 10 ∨ i = 11)) := by
  obtain ⟨h20, hv, ⟨ha, hb, hc, hd⟩, hs⟩ := h
  have L : ∀ k, xs.getD k 0 < 256 := fun k => Mt.getD_lt xs hx k
  have hos : (ipOs xs).length = ipHead xs - 20 := by unfold ipOs; exact seg_length _ _ _ (by omega)
  have hds : (ipDs xs).length = ipTot xs - ipHead xs := by unfold ipDs; exact seg_length _ _ _ (by omega)
  have hn : 69 + (ipOs xs).length / 4 = xs.getD 0 0 := by rw [hos]; unfold ipHead at *; omega
  have hN : 20 + (ipOs xs).length + (ipDs xs).length = ipTot xs := by rw [hos, hds]; omega
  have t2 : ∀ k, k + 2 ≤ xs.length → Mt.numOf (seg xs k 2) = xs.getD k 0 * 256 + xs.getD (k + 1) 0 := fun k hk => by rw [seg2 xs k hk]; simp [Mt.numOf]
  have t4 : ∀ k, k + 4 ≤ xs.length → Mt.numOf (seg xs k 4) = ((xs.getD k 0 * 256 + xs.getD (k + 1) 0) * 256 + xs.getD (k + 2) 0) * 256 + xs.getD (k + 3) 0 := fun k hk => by rw [seg4' xs k hk]; simp [Mt.numOf]
  have eT := t2 2 (by omega)
  have eI := t2 4 (by omega)
  have eF := t2 6 (by omega)
  have eS := t4 12 (by omega)
  have eD := t4 16 (by omega)
  simp only [Nat.reduceAdd] at eT eI eF eS eD
  have L2 := L 2; have L3 := L 3; have L4 := L 4; have L5 := L 5; have L6 := L 6; have L7 := L 7
  have L10 := L 10; have L11 := L 11
  have L12 := L 12; have L13 := L 13; have L14 := L 14; have L15 := L 15; have L16 := L 16; have L17 := L 17; have L18 := L 18; have L19 := L 19
  have hfr : ipFr xs < 65536 := by unfold ipFr; omega
  have hfw : ipFw (ipOff xs) (ipDf xs) (ipMf xs) = ipFr xs % 32768 := by
    unfold ipOff ipDf ipMf
    exact ipFw_again _
  unfold ipC
  rw [hn, hN, hfw]
  have hT : ipTot xs < 65536 := by unfold ipTot; omega
  have eF' : ipFr xs = xs.getD 6 0 * 256 + xs.getD 7 0 := eF
  have eT' : ipTot xs = xs.getD 2 0 * 256 + xs.getD 3 0 := eT
  -- the sum
  obtain ⟨n0, hn0⟩ : ∃ n, xs.getD 0 0 = n := ⟨_, rfl⟩
  obtain ⟨x1, hx1⟩ : ∃ n, xs.getD 1 0 = n := ⟨_, rfl⟩
  obtain ⟨x8, hx8⟩ : ∃ n, xs.getD 8 0 = n := ⟨_, rfl⟩
  obtain ⟨x9, hx9⟩ : ∃ n, xs.getD 9 0 = n := ⟨_, rfl⟩
  rw [hn0, hx1, hx8, hx9]
  have hall : xs.take (ipHead xs) = [n0, x1] ++ [xs.getD 2 0, xs.getD 3 0] ++ [xs.getD 4 0, xs.getD 5 0] ++ [xs.getD 6 0, xs.getD 7 0] ++ [x8, x9] ++ [xs.getD 10 0, xs.getD 11 0] ++ [xs.getD 12 0, xs.getD 13 0, xs.getD 14 0, xs.getD 15 0] ++ [xs.getD 16 0, xs.getD 17 0, xs.getD 18 0, xs.getD 19 0] ++ ipOs xs := by
    apply List.ext_getElem?
    intro j
    by_cases hj : j < ipHead xs
    · rw [List.getElem?_take_of_lt hj, List.getElem?_eq_getElem (by omega)]
      by_cases h2 : j < 20
      · have e : xs[j]'(by omega) = xs.getD j 0 := by rw [List.getD_eq_getElem?_getD, List.getElem?_eq_getElem (by omega)]; rfl
        rw [e, ← hn0, ← hx1, ← hx8, ← hx9, List.getElem?_append_left (by simp; omega)]
        obtain rfl | rfl | rfl | rfl | rfl | rfl | rfl | rfl | rfl | rfl | rfl | rfl | rfl | rfl | rfl | rfl | rfl | rfl | rfl | rfl : j = 0 ∨ j = 1 ∨ j = 2 ∨ j = 3 ∨ j = 4 ∨ j = 5 ∨ j = 6 ∨ j = 7 ∨ j = 8 ∨ j = 9 ∨ j = 10 ∨ j = 11 ∨ j = 12 ∨ j = 13 ∨ j = 14 ∨ j = 15 ∨ j = 16 ∨ j = 17 ∨ j = 18 ∨ j = 19 := by omega
        all_goals rfl
      · rw [List.getElem?_append_right (by simp; omega)]
        have e : ([n0, x1] ++ [xs.getD 2 0, xs.getD 3 0] ++ [xs.getD 4 0, xs.getD 5 0] ++ [xs.getD 6 0, xs.getD 7 0] ++ [x8, x9] ++ [xs.getD 10 0, xs.getD 11 0] ++ [xs.getD 12 0, xs.getD 13 0, xs.getD 14 0, xs.getD 15 0] ++ [xs.getD 16 0, xs.getD 17 0, xs.getD 18 0, xs.getD 19 0] : List Nat).length = 20 := rfl
        rw [e]
        unfold ipOs seg
        rw [List.getElem?_take_of_lt (by omega), List.getElem?_drop, show 20 + (j - 20) = j by omega, List.getElem?_eq_getElem (by omega)]
    · rw [List.getElem?_eq_none (by rw [List.length_take]; omega), List.getElem?_eq_none (by simp [hos]; omega)]
  have hall256 : ∀ x ∈ xs.take (ipHead xs), x < 256 := fun x hm => hx x (List.mem_of_mem_take hm)
  have hosx : ∀ x ∈ ipOs xs, x < 256 := fun x hm => hx x (List.mem_of_mem_drop (List.mem_of_mem_take hm))
  rw [Mt.sumO_norm _ hall256, hall] at hs
  obtain ⟨S, hS⟩ : ∃ S, Mt.numOf (seg xs 12 4) = S := ⟨_, rfl⟩
  obtain ⟨D, hD⟩ : ∃ D, Mt.numOf (seg xs 16 4) = D := ⟨_, rfl⟩
  obtain ⟨I, hI⟩ : ∃ I, Mt.numOf (seg xs 4 2) = I := ⟨_, rfl⟩
  obtain ⟨T, hT'⟩ : ∃ T, ipTot xs = T := ⟨_, rfl⟩
  obtain ⟨F, hF⟩ : ∃ F, ipFr xs = F := ⟨_, rfl⟩
  rw [hS] at eS; rw [hD] at eD; rw [hI] at eI; rw [hT'] at eT' hT; rw [hF] at eF' hfr
  rw [hS, hD, hI, hT', hF]
  have oS := octs4 S (by omega)
  have oD := octs4 D (by omega)
  have oI := octs2 I (by omega)
  have oT := octs2 T (by omega)
  have oF := octs2 (F % 32768) (by omega)
  have v2 : T / 256 = xs.getD 2 0 := by omega
  have v3 : T % 256 = xs.getD 3 0 := by omega
  have v4 : I / 256 = xs.getD 4 0 := by omega
  have v5 : I % 256 = xs.getD 5 0 := by omega
  have v12 : S / 16777216 = xs.getD 12 0 := by omega
  have v13 : S / 65536 % 256 = xs.getD 13 0 := by omega
  have v14 : S / 256 % 256 = xs.getD 14 0 := by omega
  have v15 : S % 256 = xs.getD 15 0 := by omega
  have v16 : D / 16777216 = xs.getD 16 0 := by omega
  have v17 : D / 65536 % 256 = xs.getD 17 0 := by omega
  have v18 : D / 256 % 256 = xs.getD 18 0 := by omega
  have v19 : D % 256 = xs.getD 19 0 := by omega
  have v7 : F % 32768 % 256 = xs.getD 7 0 := by omega
  have v6 : F % 32768 / 256 = xs.getD 6 0 % 128 := by omega
  have key : ¬ ipOdd xs → 65535 - Mt.sumO (ipHd n0 x1 T I (F % 32768) x8 x9 0 S D ++ ipOs xs) = xs.getD 10 0 * 256 + xs.getD 11 0 := by
    intro hodd
    have h6 : ¬ 128 ≤ xs.getD 6 0 := fun h => hodd (.inl h)
    have h10 : ¬ (xs.getD 10 0 = xs.getD 11 0 ∧ (xs.getD 10 0 = 0 ∨ xs.getD 10 0 = 255)) := fun h => hodd (.inr h)
    have v6' : F % 32768 / 256 = xs.getD 6 0 := by omega
    have hl : ∀ x ∈ ipHd n0 x1 T I (F % 32768) x8 x9 0 S D ++ ipOs xs, x < 256 := by
      intro x hm
      rcases List.mem_append.1 hm with h | h
      · exact ipHd_lt n0 x1 T I (F % 32768) x8 x9 0 S D (by rw [← hn0]; exact L 0) (by rw [← hx1]; exact L 1) (by rw [← hx8]; exact L 8) (by rw [← hx9]; exact L 9) x h
      · exact hosx x h
    rw [Mt.sumO_norm _ hl]
    unfold ipHd
    rw [oS, oD, oI, oT, oF, octs2 0 (by omega), v2, v3, v4, v5, v6', v7, v12, v13, v14, v15, v16, v17, v18, v19]
    have q1 : ∀ a b, [n0, x1] ++ [xs.getD 2 0, xs.getD 3 0] ++ [xs.getD 4 0, xs.getD 5 0] ++ [xs.getD 6 0, xs.getD 7 0] ++ [x8, x9] ++ [a, b] ++ [xs.getD 12 0, xs.getD 13 0, xs.getD 14 0, xs.getD 15 0] ++ [xs.getD 16 0, xs.getD 17 0, xs.getD 18 0, xs.getD 19 0] ++ ipOs xs
        = [n0, x1, xs.getD 2 0, xs.getD 3 0, xs.getD 4 0, xs.getD 5 0, xs.getD 6 0, xs.getD 7 0, x8, x9] ++ [a, b] ++ (xs.getD 12 0 :: xs.getD 13 0 :: xs.getD 14 0 :: xs.getD 15 0 :: xs.getD 16 0 :: xs.getD 17 0 :: xs.getD 18 0 :: xs.getD 19 0 :: ipOs xs) := fun a b => by simp
    have q2 := fun a b => wt_mid2 [n0, x1, xs.getD 2 0, xs.getD 3 0, xs.getD 4 0, xs.getD 5 0, xs.getD 6 0, xs.getD 7 0, x8, x9] (xs.getD 12 0 :: xs.getD 13 0 :: xs.getD 14 0 :: xs.getD 15 0 :: xs.getD 16 0 :: xs.getD 17 0 :: xs.getD 18 0 :: xs.getD 19 0 :: ipOs xs) a b (by simp)
    rw [q1, q2] at hs ⊢
    have hpos : 0 < Mt.wt true [n0, x1, xs.getD 2 0, xs.getD 3 0, xs.getD 4 0, xs.getD 5 0, xs.getD 6 0, xs.getD 7 0, x8, x9] := by
      rw [Mt.wt_two]
      have : 64 ≤ n0 := by rw [← hn0]; omega
      omega
    generalize Mt.wt true [n0, x1, xs.getD 2 0, xs.getD 3 0, xs.getD 4 0, xs.getD 5 0, xs.getD 6 0, xs.getD 7 0, x8, x9] = A at hs hpos ⊢
    generalize Mt.wt true (xs.getD 12 0 :: xs.getD 13 0 :: xs.getD 14 0 :: xs.getD 15 0 :: xs.getD 16 0 :: xs.getD 17 0 :: xs.getD 18 0 :: xs.getD 19 0 :: ipOs xs) = B at hs ⊢
    unfold Mt.norm at hs ⊢
    rw [if_neg (by omega)] at hs
    rw [if_neg (by omega)]
    omega
  have K : 65535 - Mt.sumO (ipHd n0 x1 T I (F % 32768) x8 x9 0 S D ++ ipOs xs) < 65536 := by omega
  have oC := octs2 _ K
  by_cases hodd : ipOdd xs
  · by_cases h6 : i = 6 ∨ i = 10 ∨ i = 11
    · exact .inr ⟨hodd, h6⟩
    · left
      unfold ipHd at oC ⊢
      rw [oC, oS, oD, oI, oT, oF]
      obtain rfl | rfl | rfl | rfl | rfl | rfl | rfl | rfl | rfl | rfl | rfl | rfl | rfl | rfl | rfl | rfl | rfl : i = 0 ∨ i = 1 ∨ i = 2 ∨ i = 3 ∨ i = 4 ∨ i = 5 ∨ i = 7 ∨ i = 8 ∨ i = 9 ∨ i = 12 ∨ i = 13 ∨ i = 14 ∨ i = 15 ∨ i = 16 ∨ i = 17 ∨ i = 18 ∨ i = 19 := by omega
      · exact hn0.symm
      · exact hx1.symm
      · exact v2
      · exact v3
      · exact v4
      · exact v5
      · exact v7
      · exact hx8.symm
      · exact hx9.symm
      · exact v12
      · exact v13
      · exact v14
      · exact v15
      · exact v16
      · exact v17
      · exact v18
      · exact v19
  · left
    have k := key hodd
    have h6 : ¬ 128 ≤ xs.getD 6 0 := fun h => hodd (.inl h)
    have v6' : F % 32768 / 256 = xs.getD 6 0 := by omega
    rw [k]
    have oC := octs2 (xs.getD 10 0 * 256 + xs.getD 11 0) (by omega)
    have v10 : (xs.getD 10 0 * 256 + xs.getD 11 0) / 256 = xs.getD 10 0 := by omega
    have v11 : (xs.getD 10 0 * 256 + xs.getD 11 0) % 256 = xs.getD 11 0 := by omega
    unfold ipHd
    rw [oC, oS, oD, oI, oT, oF]
    obtain rfl | rfl | rfl | rfl | rfl | rfl | rfl | rfl | rfl | rfl | rfl | rfl | rfl | rfl | rfl | rfl | rfl | rfl | rfl | rfl : i = 0 ∨ i = 1 ∨ i = 2 ∨ i = 3 ∨ i = 4 ∨ i = 5 ∨ i = 6 ∨ i = 7 ∨ i = 8 ∨ i = 9 ∨ i = 10 ∨ i = 11 ∨ i = 12 ∨ i = 13 ∨ i = 14 ∨ i = 15 ∨ i = 16 ∨ i = 17 ∨ i = 18 ∨ i = 19 := by omega
    · exact hn0.symm
    · exact hx1.symm
    · exact v2
    · exact v3
    · exact v4
    · exact v5
    · exact v6'
    · exact v7
    · exact hx8.symm
    · exact hx9.symm
    · exact v10
    · exact v11
    · exact v12
    · exact v13
    · exact v14
    · exact v15
    · exact v16
    · exact v17
    · exact v18
    · exact v19

/-- The packet again. -/
theorem ip_again (xs : List Nat) (hx : ∀ x ∈ xs, x < 256) (h : IpPok xs) :
    ∃ ys, ipO (xs.getD 1 0) (Mt.numOf (seg xs 4 2)) (ipDf xs) (ipMf xs) (ipOff xs) (xs.getD 8 0) (xs.getD 9 0) (Mt.numOf (seg xs 12 4)) (Mt.numOf (seg xs 16 4)) (ipOs xs) (ipDs xs) = ys ∧ ys.length = ipTot xs ∧ 20 ≤ ipTot xs ∧ ipTot xs ≤ xs.length ∧
      (∀ i, i < ys.length → ys.getD i 0 = xs.getD i 0 ∨ (ipOdd xs ∧ (i = 6 ∨ i = 10 ∨ i = 11))) ∧ IpMay (ipOff xs : Nat) (ipOs xs).length (ipDs xs).length := by
  have hh := ip_again_head xs hx h
  obtain ⟨h20, hv, ⟨ha, hb, hc, hd⟩, hs⟩ := h
  have hos : (ipOs xs).length = ipHead xs - 20 := by unfold ipOs; exact seg_length _ _ _ (by omega)
  have hds : (ipDs xs).length = ipTot xs - ipHead xs := by unfold ipDs; exact seg_length _ _ _ (by omega)
  have hT : ipTot xs < 65536 := seg_num_lt xs hx 2 2 (by omega)
  refine ⟨_, rfl, by rw [ipO_len]; omega, by omega, hd, ?_, ?_⟩
  · intro i hi
    rw [ipO_len] at hi
    unfold ipO ipH
    by_cases h2 : i < 20
    · have := hh i h2
      rw [List.append_assoc]
      rw [List.getD_eq_getElem?_getD, List.getElem?_append_left (by rw [ipHd_len]; exact h2), ← List.getD_eq_getElem?_getD]
      exact this
    · left
      rw [List.append_assoc, List.getD_eq_getElem?_getD, List.getElem?_append_right (by rw [ipHd_len]; omega), ipHd_len]
      have e : ipOs xs ++ ipDs xs = seg xs 20 (ipTot xs - 20) := by
        unfold ipOs ipDs seg
        have := List.take_add (l := xs.drop 20) (i := ipHead xs - 20) (j := ipTot xs - ipHead xs)
        rw [List.drop_drop, show 20 + (ipHead xs - 20) = ipHead xs by omega, show ipHead xs - 20 + (ipTot xs - ipHead xs) = ipTot xs - 20 by omega] at this
        exact this.symm
      rw [e]
      unfold seg
      rw [List.getElem?_take_of_lt (by omega), List.getElem?_drop, show 20 + (i - 20) = i by omega, List.getD_eq_getElem?_getD]
  · have e1 : ipOff xs = 8 * (ipFr xs % 8192) := rfl
    have e2 : ipHead xs = 4 * (xs.getD 0 0 % 16) := rfl
    exact ⟨⟨by omega, by omega, by omega⟩, ⟨by omega, by omega⟩, by omega⟩
end Go.Proofs.Ytpdlmgafkjmjpaa
