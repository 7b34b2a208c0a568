/- The document's reader of packets, by the octets. -/
import Derived.Test.YtokfadlgiimaoaaIpAll
import Derived.Test.YtokfadlgiimaoaaRgQ
import Derived.Test.YtokfadlgiimaoaaRgT
namespace Go.Proofs.Ytokfadlgiimaoaa
open Go.RowKit Go.Sort

theorem seg_two (xs : List Nat) (i : Nat) (h : i + 2 ≤ xs.length) : Mt.numOf (seg xs i 2) = xs.getD i 0 * 256 + xs.getD (i + 1) 0 := by
  have g : ∀ j (h : j < xs.length), xs.getD j 0 = xs[j] := fun j h => by rw [List.getD_eq_getElem?_getD, List.getElem?_eq_getElem h]; rfl
  have e : seg xs i 2 = [xs.getD i 0, xs.getD (i + 1) 0] := by
    rw [g i (by omega), g (i + 1) (by omega)]
    unfold seg
    rw [List.drop_eq_getElem_cons (by omega), List.drop_eq_getElem_cons (by omega)]
    rfl
  rw [e]; simp [Mt.numOf]
theorem refip_right (b off : Nat) (xs : List Nat) (w : World) (hx : Bts w (some ⟨b, off, none⟩) xs) (hd : Nat) (hl : hd ≤ xs.length) (h60 : hd ≤ 60) (c : Nat) : ∀ W, Below w.heap.size w W → Calls Try.prog 48 #[.slice (some ⟨b, off, none⟩) hd c] W fun e w' => e = .returned (.bool (decide (Mt.sumO (xs.take hd) = 65535))) ∧ W = w' := fun W h => by
  have hl2 : (xs.take hd).length = hd := by rw [List.length_take]; omega
  have := refright_any (some ⟨b, off + 0, none⟩) (xs.take hd) c W ((hx.below h).segOf 0 hd (by omega)) (by omega)
  rwa [hl2] at this
theorem refip_bad (a : Option Addr) (xs : List Nat) (cap : Nat) (w : World) (hx : Bts w a xs) (hc : xs.length ≤ cap) (h : ¬ IpPok xs) :
    Calls Try.prog 28 #[.slice a xs.length cap] w (RIpBad w) := by
  by_cases h20 : xs.length < 20
  · exact refip_short a xs cap w h20
  · obtain ⟨b, off, rfl, hb, hcell⟩ := hx.isSome (by omega)
    have h20' : 20 ≤ xs.length := by omega
    have c0 : w.cell? ⟨b, off, none⟩ = some (.int .u8 (xs.getD 0 0 : Nat)) := hcell 0 (by omega)
    have c2 := hcell 2 (by omega)
    have c3 := hcell 3 (by omega)
    have hx0 := hx.1 _ (Mt.getD_mem xs 0 (by omega))
    have hx2 := hx.1 _ (Mt.getD_mem xs 2 (by omega))
    have hx3 := hx.1 _ (Mt.getD_mem xs 3 (by omega))
    by_cases hv : xs.getD 0 0 / 16 = 4
    · have hT : xs.getD 2 0 * 256 + xs.getD 3 0 = ipTot xs := (seg_two xs 2 (by omega)).symm
      have hhd : xs.getD 0 0 % 16 * 4 = ipHead xs := by unfold ipHead; omega
      by_cases hlen : IpLen xs
      · have hs : ¬ Mt.sumO (xs.take (ipHead xs)) = 65535 := fun hs => h ⟨by omega, hv, hlen, hs⟩
        have hr := refip_right b off xs w hx (ipHead xs) hlen.2.1 (by unfold ipHead; omega) cap
        rw [decide_eq_false hs] at hr
        exact refip_sum b off xs cap w _ _ _ (ipHead xs) (ipTot xs) hb h20' c0 c2 c3 hx0 hx2 hx3 hv hhd hT hlen hc hr
      · exact refip_length b off xs cap w _ _ _ (ipHead xs) (ipTot xs) hb h20' c0 c2 c3 hx0 hx2 hx3 hv hhd hT hlen
    · exact refip_version b off xs cap w _ _ _ hb h20' c0 c2 c3 hx0 hx2 hv
theorem refip_ok (a : Option Addr) (xs : List Nat) (cap : Nat) (w : World) (hx : Bts w a xs) (hc : xs.length ≤ cap) (h : IpPok xs) :
    Calls Try.prog 28 #[.slice a xs.length cap] w (RIpOk (xs.getD 1 0) (xs.getD 8 0) (xs.getD 9 0) (ipFr xs) (Mt.numOf (seg xs 12 4)) (Mt.numOf (seg xs 16 4)) (ipOs xs) (ipDs xs) w) := by
  obtain ⟨h20, hv, hlen, hs⟩ := h
  obtain ⟨b, off, rfl, hb, hcell⟩ := hx.isSome (by omega)
  have c0 : w.cell? ⟨b, off, none⟩ = some (.int .u8 (xs.getD 0 0 : Nat)) := hcell 0 (by omega)
  have lt : ∀ i, i < 20 → xs.getD i 0 < 256 := fun i hi => hx.1 _ (Mt.getD_mem xs i (by omega))
  have hT : xs.getD 2 0 * 256 + xs.getD 3 0 = ipTot xs := (seg_two xs 2 (by omega)).symm
  have hhd : xs.getD 0 0 % 16 * 4 = ipHead xs := by unfold ipHead; omega
  have hr := refip_right b off xs w hx (ipHead xs) hlen.2.1 (by unfold ipHead; omega) cap
  rw [decide_eq_true hs] at hr
  have num : ∀ i n c, i + n ≤ xs.length → n ≤ 8 → ∀ W, Below w.heap.size w W → Calls Try.prog 46 #[.slice (some ⟨b, off + i, none⟩) n c] W fun e w' => e = .returned (.int .u64 (Mt.numOf (seg xs i n) : Nat)) ∧ W = w' := fun i n c hl hn W h => by
    have := number_any (some ⟨b, off + i, none⟩) (seg xs i n) c W ((hx.below h).segOf i n hl) (by rw [seg_length _ _ _ hl]; omega)
    rwa [seg_length _ _ _ hl] at this
  refine refip_good b off xs cap w _ _ _ (ipHead xs) (ipTot xs) hb h20 c0 (hcell 2 (by omega)) (hcell 3 (by omega)) (lt 0 (by omega)) (lt 2 (by omega)) (lt 3 (by omega)) hv hhd hT hlen hc _ _ _ _ _ _ _ _ _ _ (hcell 1 (by omega)) (hcell 4 (by omega)) (hcell 5 (by omega)) (hcell 6 (by omega)) (hcell 7 (by omega)) (hcell 8 (by omega)) (hcell 9 (by omega)) ⟨lt 4 (by omega), lt 5 (by omega), lt 6 (by omega), lt 7 (by omega)⟩ (seg_two xs 6 (by omega)).symm (seg_num_lt xs hx.1 12 4 (by omega)) (seg_num_lt xs hx.1 16 4 (by omega)) hr (num 12 4 _ (by omega) (by omega)) (num 16 4 _ (by omega) (by omega)) (ipOs xs) (ipDs xs) (seg_length _ _ _ (by omega)) (seg_length _ _ _ (by omega)) (fun W h => ?_) (fun W h => ?_)
  · by_cases h1 : cap = 20
    · rw [if_pos h1]
      have : ipOs xs = [] := List.eq_nil_of_length_eq_zero (by unfold ipOs; rw [seg_length _ _ _ (by omega)]; omega)
      rw [this]; exact Bts.nil _ _
    · rw [if_neg h1]
      exact (hx.below h).segOf 20 (ipHead xs - 20) (by omega)
  · by_cases h1 : cap = ipHead xs
    · rw [if_pos h1]
      have : ipDs xs = [] := List.eq_nil_of_length_eq_zero (by unfold ipDs; rw [seg_length _ _ _ (by omega)]; omega)
      rw [this]; exact Bts.nil _ _
    · rw [if_neg h1]
      exact (hx.below h).segOf (ipHead xs) (ipTot xs - ipHead xs) (by omega)
end Go.Proofs.Ytokfadlgiimaoaa
