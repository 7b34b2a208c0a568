/- What ipwire.Parse gives, by the octets. -/
import Derived.Test.YtokfadlgiimaoaaIpPC
import Derived.Test.YtokfadlgiimaoaaIpPL
import Derived.Test.YtokfadlgiimaoaaIpPS
import Derived.Test.YtokfadlgiimaoaaIpDef
namespace Go.Proofs.Ytokfadlgiimaoaa
open Go.RowKit

theorem ip_num (b off : Nat) (xs : List Nat) (w : World) (hx : Bts w (some ⟨b, off, none⟩) xs) (i n : Nat) (hn1 : 1 ≤ n) (hn8 : n ≤ 8) (hl : i + n ≤ xs.length) : ∀ c W, Below w.heap.size w W → Calls Try.prog 53 #[.slice (some ⟨b, off + i, none⟩) n c] W fun e w' => e = .returned (.int .u64 (Mt.numOf (seg xs i n) : Nat)) ∧ W = w' := fun c W h => by
  have := pnum_ipwire (some ⟨b, off + i, none⟩) (seg xs i n) c W ((hx.below h).segOf i n hl) (by rw [seg_length _ _ _ hl]; omega) (by rw [seg_length _ _ _ hl]; omega)
  rwa [seg_length _ _ _ hl] at this

theorem ip_right (b off : Nat) (xs : List Nat) (w : World) (hx : Bts w (some ⟨b, off, none⟩) xs) (hd : Nat) (hl : hd ≤ xs.length) (h60 : hd ≤ 60) : ∀ c W, Below w.heap.size w W → Calls Try.prog 54 #[.slice (some ⟨b, off, none⟩) hd c] W fun e w' => e = .returned (.bool (decide (Mt.sumO (xs.take hd) = 65535))) ∧ Below W.heap.size W w' := fun c W h => by
  have hl2 : (xs.take hd).length = hd := by rw [List.length_take]; omega
  have := right_any (some ⟨b, off + 0, none⟩) (xs.take hd) c W ((hx.below h).segOf 0 hd (by omega)) (by omega)
  rwa [hl2] at this

theorem ipP_bad (a : Option Addr) (xs : List Nat) (cap : Nat) (w : World) (hx : Bts w a xs) (hc : xs.length ≤ cap) (hm : cap ≤ maxLen) (hlm : xs.length ≤ 281474976710656) (h : ¬ IpPok xs) :
    Calls Try.prog 39 #[.slice a xs.length cap] w (IpPBad w) := by
  have hm' : cap ≤ 9223372036854775807 := by unfold maxLen at hm; omega
  by_cases h20 : xs.length < 20
  · exact ipP_short a xs cap w h20
  · obtain ⟨b, off, rfl, hb, hcell⟩ := hx.isSome (by omega)
    have c0 : w.cell? ⟨b, off, none⟩ = some (.int .u8 (xs.getD 0 0 : Nat)) := hcell 0 (by omega)
    have hx0 := hx.1 _ (Mt.getD_mem xs 0 (by omega))
    by_cases hv : xs.getD 0 0 / 16 = 4
    · have hT : ipTot xs < 65536 := seg_num_lt xs hx.1 2 2 (by omega)
      have nT := ip_num b off xs w hx 2 2 (by omega) (by omega) (by omega)
      by_cases hlen : IpLen xs
      · have hs : ¬ Mt.sumO (xs.take (ipHead xs)) = 65535 := fun hs => h ⟨by omega, hv, hlen, hs⟩
        have hr := ip_right b off xs w hx (ipHead xs) hlen.2.1 (by unfold ipHead; omega)
        rw [decide_eq_false hs] at hr
        exact ipP_sum b off xs cap w _ _ (ipHead xs) (ipTot xs) hb (by omega) hc hm' hlm c0 hx0 hv rfl rfl hT nT hlen hr
      · exact ipP_length b off xs cap w _ _ (ipHead xs) (ipTot xs) hb (by omega) hc hm' hlm c0 hx0 hv rfl rfl hT nT hlen
    · exact ipP_version b off xs cap w _ hb (by omega) c0 hx0 hv

theorem ipP_ok (a : Option Addr) (xs : List Nat) (cap : Nat) (w : World) (hx : Bts w a xs) (hc : xs.length ≤ cap) (hm : cap ≤ maxLen) (hlm : xs.length ≤ 281474976710656) (h : IpPok xs) :
    Calls Try.prog 39 #[.slice a xs.length cap] w fun e w' => ∃ oa oc da dc, e = .returned (.tuple #[.agg (ipV (xs.getD 1 0) (Mt.numOf (seg xs 4 2)) (ipDf xs) (ipMf xs) (ipOff xs : Nat) (xs.getD 8 0) (xs.getD 9 0) (Mt.numOf (seg xs 12 4)) (Mt.numOf (seg xs 16 4)) oa (ipOs xs).length oc da (ipDs xs).length dc), .int .i64 0]) ∧ OwnSl (w.heap.size + 1) oa (ipOs xs) oc w' ∧ OwnSl (w.heap.size + 1) da (ipDs xs) dc w' ∧ Below w.heap.size w w' := by
  have hm' : cap ≤ 9223372036854775807 := by unfold maxLen at hm; omega
  obtain ⟨h20, hv, hlen, hs⟩ := h
  obtain ⟨b, off, rfl, hb, hcell⟩ := hx.isSome (by omega)
  have c0 : w.cell? ⟨b, off, none⟩ = some (.int .u8 (xs.getD 0 0 : Nat)) := hcell 0 (by omega)
  have hx0 := hx.1 _ (Mt.getD_mem xs 0 (by omega))
  have hr := ip_right b off xs w hx (ipHead xs) hlen.2.1 (by unfold ipHead; omega)
  rw [decide_eq_true hs] at hr
  exact ipP_core b off xs cap w _ _ (ipHead xs) (ipTot xs) _ _ _ _ (ipFr xs) _ _ _ (ipOff xs) _ _ (ipDf xs) (ipMf xs) (ipOs xs) (ipDs xs) hb h20 hc hm' hlm c0 hx0 hv rfl rfl (seg_num_lt xs hx.1 2 2 (by omega))
    (hcell 1 (by omega)) (hcell 8 (by omega)) (hcell 9 (by omega))
    (ip_num b off xs w hx 2 2 (by omega) (by omega) (by omega)) (ip_num b off xs w hx 6 2 (by omega) (by omega) (by omega)) (ip_num b off xs w hx 4 2 (by omega) (by omega) (by omega)) (ip_num b off xs w hx 12 4 (by omega) (by omega) (by omega)) (ip_num b off xs w hx 16 4 (by omega) (by omega) (by omega))
    (seg_num_lt xs hx.1 6 2 (by omega)) (seg_num_lt xs hx.1 4 2 (by omega)) (seg_num_lt xs hx.1 12 4 (by omega)) (seg_num_lt xs hx.1 16 4 (by omega)) rfl rfl rfl rfl rfl rfl hlen hr
    (hx.segOf 20 (ipHead xs - 20) (by omega)) (seg_length _ _ _ (by omega)) (hx.segOf (ipHead xs) (ipTot xs - ipHead xs) (by omega)) (seg_length _ _ _ (by omega))

end Go.Proofs.Ytokfadlgiimaoaa
