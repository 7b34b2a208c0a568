/- Tcpwire's document: one option by one word; all options. -/
import Derived.Test.YtgmgoilleakdcaaTcpRc
namespace Go.Proofs.Ytgmgoilleakdcaa
open Go.RowKit

theorem blkOf_bLs (ys : List Nat) (n : Nat) (h : ys.length = 8 * n) : blkOf ys = bLs ys n := by
  unfold blkOf bLs; rw [h, Nat.mul_div_cancel_left _ (by decide)]
theorem rone_any (sp dp sq ak fl wn ur : Nat) (da : Option Addr) (dn dc : Nat) (s : TOpt) (va : Option Addr) (vc B k : Nat) (a : Option Addr) (ys : List Nat) (c : Nat) (w : World) (hx : Bts w a ys) (hf : tcpFits k (ys.length + 2) = true) (h5 : k = 5 → s.bs = [] ∧ va = none ∧ vc = 0) (hO : OwnR 68 2 BC5 B va s.bs vc w) (hB : B ≤ w.heap.size) (hc : ys.length ≤ c) :
    Calls Try.prog 47 #[.agg (pC sp dp sq ak fl wn ur (.slice da dn dc) (.slice va s.bs.length vc) s), .int .u8 (k : Nat), .slice a ys.length c] w fun e w' => ∃ va' vc', e = .returned (.agg (pC sp dp sq ak fl wn ur (.slice da dn dc) (.slice va' (setO s k ys).bs.length vc') (setO s k ys))) ∧ OwnR 68 2 BC5 B va' (setO s k ys).bs vc' w' ∧ Below w.heap.size w w' ∧ (k ≠ 5 → va' = va ∧ vc' = vc ∧ (setO s k ys).bs = s.bs) := by
  obtain ⟨mss, hs, sc, sk, bs, ht, tv, te⟩ := s
  by_cases k2 : k = 2
  · subst k2
    have hl : ys.length = 2 := by simp [tcpFits] at hf; exact hf
    refine (rone_mss sp dp sq ak fl wn ur mss hs sc sk va bs.length vc ht tv te da dn dc a ys c w hx hl).mono ?_
    rintro e w' ⟨rfl, b⟩
    exact ⟨va, vc, rfl, hO.below b, b, fun _ => ⟨rfl, rfl, rfl⟩⟩
  · by_cases k3 : k = 3
    · subst k3
      have hl : ys.length = 1 := by simp [tcpFits] at hf; exact hf
      refine (rone_scale sp dp sq ak fl wn ur mss hs sc sk va bs.length vc ht tv te da dn dc a ys c w hx hl).mono ?_
      rintro e w' ⟨rfl, b⟩
      exact ⟨va, vc, rfl, hO.below b, b, fun _ => ⟨rfl, rfl, rfl⟩⟩
    · by_cases k4 : k = 4
      · subst k4
        refine (rone_sackok sp dp sq ak fl wn ur mss hs sc sk va bs.length vc ht tv te da dn dc a ys c w hx).mono ?_
        rintro e w' ⟨rfl, b⟩
        exact ⟨va, vc, rfl, hO.below b, b, fun _ => ⟨rfl, rfl, rfl⟩⟩
      · by_cases k8 : k = 8
        · subst k8
          have hl : ys.length = 8 := by simp [tcpFits] at hf; exact hf
          refine (rone_ts sp dp sq ak fl wn ur mss hs sc sk va bs.length vc ht tv te da dn dc a ys c w hx hl hc).mono ?_
          rintro e w' ⟨rfl, b⟩
          exact ⟨va, vc, rfl, hO.below b, b, fun _ => ⟨rfl, rfl, rfl⟩⟩
        · by_cases k5 : k = 5
          · subst k5
            obtain ⟨hb, rfl, rfl⟩ := h5 rfl
            have hb2 : bs = [] := hb
            subst hb2
            have hn : ∃ n, ys.length = 8 * n ∧ n ≤ 4 := by
              simp [tcpFits] at hf
              rcases hf with ((h | h) | h) | h
              · exact ⟨1, by omega, by omega⟩
              · exact ⟨2, by omega, by omega⟩
              · exact ⟨3, by omega, by omega⟩
              · exact ⟨4, by omega, by omega⟩
            obtain ⟨n, hl, hn4⟩ := hn
            refine (rone_sacks sp dp sq ak fl wn ur mss hs sc sk ht tv te da dn dc a ys c w hx n hl hn4 hc).mono ?_
            rintro e w' ⟨oa, oc, rfl, hO2, b⟩
            have e1 : (setO ⟨mss, hs, sc, sk, [], ht, tv, te⟩ 5 ys).bs = bLs ys n := by
              show [] ++ blkOf ys = _
              rw [List.nil_append, blkOf_bLs ys n hl]
            refine ⟨oa, oc, ?_, ?_, b, fun h => absurd rfl h⟩
            · rw [e1, bLs_len]; rfl
            · rw [e1]; exact hO2.mono hB
          · have e1 : setO ⟨mss, hs, sc, sk, bs, ht, tv, te⟩ k ys = ⟨mss, hs, sc, sk, bs, ht, tv, te⟩ := by
              unfold setO
              rw [if_neg k2, if_neg k3, if_neg k4, if_neg k8, if_neg k5]
            rw [e1]
            refine (rone_other sp dp sq ak fl wn ur mss hs sc sk va bs.length vc ht tv te da dn dc a ys c w hx k ⟨k2, k3, k4, k8, k5⟩).mono ?_
            rintro e w' ⟨rfl, b⟩
            exact ⟨va, vc, rfl, hO.below b, b, fun _ => ⟨rfl, rfl, rfl⟩⟩
end Go.Proofs.Ytgmgoilleakdcaa
