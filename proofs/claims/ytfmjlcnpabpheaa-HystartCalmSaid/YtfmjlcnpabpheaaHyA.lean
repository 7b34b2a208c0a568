/- Hystart: each call by one word. -/
import Derived.Test.YtfmjlcnpabpheaaHyP
import Derived.Test.YtfmjlcnpabpheaaHyR
namespace Go.Proofs.Ytfmjlcnpabpheaa
open Go.RowKit Go.Proofs.Ytfmjlcnpabpheaa.Hy

theorem num_any (n : Int) (w : World) : Calls Try.prog 13 #[.int .i64 n] w fun e w' => e = .returned (.int .i64 n) ∧ w = w' := by
  go_enter Try.func13, Try.ntmps13
  go_wp2
  go_ret
  exact ⟨rfl, rfl⟩
theorem check_l (s : HS) (E : Int) (hE : cE s = E) (w : World) : Calls Try.prog 17 #[.agg #[.int .i64 s.p, .bool s.hl, .bool s.hn, .int .i64 s.la, .int .i64 s.no, .int .i64 s.sa, .int .i64 s.ba, .int .i64 s.ro]] w fun e w' => e = .returned (.int .i64 E) ∧ Below w.heap.size w w' := by
  subst hE
  by_cases hV : HV s
  · rw [show cE s = 0 from if_pos hV]; exact check_yes s w hV
  · rw [show cE s = 171 from if_neg hV]; exact check_no s w hV
theorem round_l (s t : HS) (E : Int) (hE : cE s = E) (ht : rdO s = t) (w : World) : Calls Try.prog 7 #[.agg #[.int .i64 s.p, .bool s.hl, .bool s.hn, .int .i64 s.la, .int .i64 s.no, .int .i64 s.sa, .int .i64 s.ba, .int .i64 s.ro]] w fun e w' => e = .returned (.tuple #[.agg #[.int .i64 t.p, .bool t.hl, .bool t.hn, .int .i64 t.la, .int .i64 t.no, .int .i64 t.sa, .int .i64 t.ba, .int .i64 t.ro], .int .i64 E]) ∧ Below w.heap.size w w' := by
  subst hE ht
  by_cases hV : HV s
  · rw [show cE s = 0 from if_pos hV, show rdO s = rd s from if_pos hV]
    by_cases h0 : s.p = 1
    · by_cases h1 : 5 ≤ min (s.ro + 1) 1073741824
      · rw [show rd s = ⟨2, s.hn, false, s.no, 0, 0, s.ba, min (s.ro + 1) 1073741824⟩ by unfold rd; rw [if_pos h0, if_pos h1, if_pos h0]]
        exact round_2 s (min (s.ro + 1) 1073741824) w hV h0 rfl h1
      · rw [show rd s = ⟨s.p, s.hn, false, s.no, 0, 0, s.ba, min (s.ro + 1) 1073741824⟩ by unfold rd; rw [if_pos h0, if_neg h1, if_pos h0, h0]]
        exact round_1 s (min (s.ro + 1) 1073741824) w hV h0 rfl (by omega)
    · rw [show rd s = ⟨s.p, s.hn, false, s.no, 0, 0, s.ba, s.ro⟩ by unfold rd; rw [if_neg h0, if_neg h0]]
      exact round_0 s w hV h0
  · rw [show cE s = 171 from if_neg hV, show rdO s = Z from if_neg hV]
    exact round_s s w hV
theorem loss_l (s t : HS) (E : Int) (hE : cE s = E) (ht : lsO s = t) (w : World) : Calls Try.prog 11 #[.agg #[.int .i64 s.p, .bool s.hl, .bool s.hn, .int .i64 s.la, .int .i64 s.no, .int .i64 s.sa, .int .i64 s.ba, .int .i64 s.ro]] w fun e w' => e = .returned (.tuple #[.agg #[.int .i64 t.p, .bool t.hl, .bool t.hn, .int .i64 t.la, .int .i64 t.no, .int .i64 t.sa, .int .i64 t.ba, .int .i64 t.ro], .int .i64 E]) ∧ Below w.heap.size w w' := by
  subst hE ht
  by_cases hV : HV s
  · rw [show cE s = 0 from if_pos hV, show lsO s = ls s from if_pos hV]
    exact loss_0 s w hV
  · rw [show cE s = 171 from if_neg hV, show lsO s = Z from if_neg hV]
    exact loss_s s w hV
set_option maxHeartbeats 1000000 in
theorem sample_l (s t : HS) (r E : Int) (hE : smE s r = E) (ht : smO s r = t) (w : World) : Calls Try.prog 9 #[.agg #[.int .i64 s.p, .bool s.hl, .bool s.hn, .int .i64 s.la, .int .i64 s.no, .int .i64 s.sa, .int .i64 s.ba, .int .i64 s.ro], .int .i64 r] w fun e w' => e = .returned (.tuple #[.agg #[.int .i64 t.p, .bool t.hl, .bool t.hn, .int .i64 t.la, .int .i64 t.no, .int .i64 t.sa, .int .i64 t.ba, .int .i64 t.ro], .int .i64 E]) ∧ Below w.heap.size w w' := by
  subst hE ht
  by_cases hV : HV s
  case neg =>
    rw [show smE s r = 171 from if_neg hV, show smO s r = Z from if_neg hV]
    exact sample_s s r w hV
  by_cases hR : NV r
  case neg =>
    rw [show smE s r = 4 by rw [smE, if_pos hV, if_neg hR], show smO s r = Z by rw [smO, if_pos hV, if_neg hR]]
    exact sample_r s r w hV hR
  rw [show smE s r = 0 by rw [smE, if_pos hV, if_pos hR], show smO s r = sm s r by rw [smO, if_pos hV, if_pos hR]]
  by_cases hk : s.hn = false
  case pos =>
    have e1 : s1 s r = ⟨s.p, s.hl, true, s.la, r, min (s.sa + 1) 1073741824, s.ba, s.ro⟩ := by unfold s1; rw [if_pos (.inl hk)]
    by_cases h8 : 8 ≤ min (s.sa + 1) 1073741824
    case neg =>
      rw [show sm s r = ⟨s.p, s.hl, true, s.la, r, min (s.sa + 1) 1073741824, s.ba, s.ro⟩ by rw [sm, e1]; exact if_neg h8]
      exact sample_a0 s r (min (s.sa + 1) 1073741824) w hV hR rfl (by omega) hk
    rw [show sm s r = jd ⟨s.p, s.hl, true, s.la, r, min (s.sa + 1) 1073741824, s.ba, s.ro⟩ by rw [sm, e1]; exact if_pos h8]
    exact sample_a1 s r (min (s.sa + 1) 1073741824) _ w hV hR rfl h8 hk rfl
  case neg =>
    have hk : s.hn = true := by cases hq : s.hn
                                · exact absurd hq hk
                                · rfl
    by_cases hk2 : r < s.no
    case pos =>
      have e1 : s1 s r = ⟨s.p, s.hl, true, s.la, r, min (s.sa + 1) 1073741824, s.ba, s.ro⟩ := by unfold s1; rw [if_pos (.inr hk2)]
      by_cases h8 : 8 ≤ min (s.sa + 1) 1073741824
      case neg =>
        rw [show sm s r = ⟨s.p, s.hl, true, s.la, r, min (s.sa + 1) 1073741824, s.ba, s.ro⟩ by rw [sm, e1]; exact if_neg h8]
        exact sample_b0 s r (min (s.sa + 1) 1073741824) w hV hR rfl (by omega) hk hk2
      rw [show sm s r = jd ⟨s.p, s.hl, true, s.la, r, min (s.sa + 1) 1073741824, s.ba, s.ro⟩ by rw [sm, e1]; exact if_pos h8]
      exact sample_b1 s r (min (s.sa + 1) 1073741824) _ w hV hR rfl h8 hk hk2 rfl
    case neg =>
      have e1 : s1 s r = ⟨s.p, s.hl, true, s.la, s.no, min (s.sa + 1) 1073741824, s.ba, s.ro⟩ := by unfold s1; rw [if_neg (fun hh => hh.elim (fun q => by rw [hk] at q; cases q) hk2)]
      by_cases h8 : 8 ≤ min (s.sa + 1) 1073741824
      case neg =>
        rw [show sm s r = ⟨s.p, s.hl, true, s.la, s.no, min (s.sa + 1) 1073741824, s.ba, s.ro⟩ by rw [sm, e1]; exact if_neg h8]
        exact sample_c0 s r (min (s.sa + 1) 1073741824) w hV hR rfl (by omega) hk (by omega)
      rw [show sm s r = jd ⟨s.p, s.hl, true, s.la, s.no, min (s.sa + 1) 1073741824, s.ba, s.ro⟩ by rw [sm, e1]; exact if_pos h8]
      exact sample_c1 s r (min (s.sa + 1) 1073741824) _ w hV hR rfl h8 hk (by omega) rfl

theorem rcheck_l (s : HS) (E : Int) (hE : cE s = E) (w : World) : Calls Try.prog 18 #[.agg #[.int .i64 s.p, .bool s.hl, .bool s.hn, .int .i64 s.la, .int .i64 s.no, .int .i64 s.sa, .int .i64 s.ba, .int .i64 s.ro]] w fun e w' => e = .returned (.int .i64 E) ∧ Below w.heap.size w w' := by
  subst hE
  by_cases hV : HV s
  · rw [show cE s = 0 from if_pos hV]; exact rcheck_yes s w hV
  · rw [show cE s = 171 from if_neg hV]; exact rcheck_no s w hV
theorem rround_l (s t : HS) (E : Int) (hE : cE s = E) (ht : rdO s = t) (w : World) : Calls Try.prog 8 #[.agg #[.int .i64 s.p, .bool s.hl, .bool s.hn, .int .i64 s.la, .int .i64 s.no, .int .i64 s.sa, .int .i64 s.ba, .int .i64 s.ro]] w fun e w' => e = .returned (.tuple #[.agg #[.int .i64 t.p, .bool t.hl, .bool t.hn, .int .i64 t.la, .int .i64 t.no, .int .i64 t.sa, .int .i64 t.ba, .int .i64 t.ro], .int .i64 E]) ∧ Below w.heap.size w w' := by
  subst hE ht
  by_cases hV : HV s
  · rw [show cE s = 0 from if_pos hV, show rdO s = rd s from if_pos hV]
    by_cases h0 : s.p = 1
    · by_cases h1 : 5 ≤ min (s.ro + 1) 1073741824
      · rw [show rd s = ⟨2, s.hn, false, s.no, 0, 0, s.ba, min (s.ro + 1) 1073741824⟩ by unfold rd; rw [if_pos h0, if_pos h1, if_pos h0]]
        exact rround_2 s (min (s.ro + 1) 1073741824) w hV h0 rfl h1
      · rw [show rd s = ⟨s.p, s.hn, false, s.no, 0, 0, s.ba, min (s.ro + 1) 1073741824⟩ by unfold rd; rw [if_pos h0, if_neg h1, if_pos h0, h0]]
        exact rround_1 s (min (s.ro + 1) 1073741824) w hV h0 rfl (by omega)
    · rw [show rd s = ⟨s.p, s.hn, false, s.no, 0, 0, s.ba, s.ro⟩ by unfold rd; rw [if_neg h0, if_neg h0]]
      exact rround_0 s w hV h0
  · rw [show cE s = 171 from if_neg hV, show rdO s = Z from if_neg hV]
    exact rround_s s w hV
theorem rloss_l (s t : HS) (E : Int) (hE : cE s = E) (ht : lsO s = t) (w : World) : Calls Try.prog 12 #[.agg #[.int .i64 s.p, .bool s.hl, .bool s.hn, .int .i64 s.la, .int .i64 s.no, .int .i64 s.sa, .int .i64 s.ba, .int .i64 s.ro]] w fun e w' => e = .returned (.tuple #[.agg #[.int .i64 t.p, .bool t.hl, .bool t.hn, .int .i64 t.la, .int .i64 t.no, .int .i64 t.sa, .int .i64 t.ba, .int .i64 t.ro], .int .i64 E]) ∧ Below w.heap.size w w' := by
  subst hE ht
  by_cases hV : HV s
  · rw [show cE s = 0 from if_pos hV, show lsO s = ls s from if_pos hV]
    exact rloss_0 s w hV
  · rw [show cE s = 171 from if_neg hV, show lsO s = Z from if_neg hV]
    exact rloss_s s w hV
set_option maxHeartbeats 1000000 in
theorem rsample_l (s t : HS) (r E : Int) (hE : smE s r = E) (ht : smO s r = t) (w : World) : Calls Try.prog 10 #[.agg #[.int .i64 s.p, .bool s.hl, .bool s.hn, .int .i64 s.la, .int .i64 s.no, .int .i64 s.sa, .int .i64 s.ba, .int .i64 s.ro], .int .i64 r] w fun e w' => e = .returned (.tuple #[.agg #[.int .i64 t.p, .bool t.hl, .bool t.hn, .int .i64 t.la, .int .i64 t.no, .int .i64 t.sa, .int .i64 t.ba, .int .i64 t.ro], .int .i64 E]) ∧ Below w.heap.size w w' := by
  subst hE ht
  by_cases hV : HV s
  case neg =>
    rw [show smE s r = 171 from if_neg hV, show smO s r = Z from if_neg hV]
    exact rsample_s s r w hV
  by_cases hR : NV r
  case neg =>
    rw [show smE s r = 4 by rw [smE, if_pos hV, if_neg hR], show smO s r = Z by rw [smO, if_pos hV, if_neg hR]]
    exact rsample_r s r w hV hR
  rw [show smE s r = 0 by rw [smE, if_pos hV, if_pos hR], show smO s r = sm s r by rw [smO, if_pos hV, if_pos hR]]
  by_cases hk : s.hn = false
  case pos =>
    have e1 : s1 s r = ⟨s.p, s.hl, true, s.la, r, min (s.sa + 1) 1073741824, s.ba, s.ro⟩ := by unfold s1; rw [if_pos (.inl hk)]
    by_cases h8 : 8 ≤ min (s.sa + 1) 1073741824
    case neg =>
      rw [show sm s r = ⟨s.p, s.hl, true, s.la, r, min (s.sa + 1) 1073741824, s.ba, s.ro⟩ by rw [sm, e1]; exact if_neg h8]
      exact rsample_a0 s r (min (s.sa + 1) 1073741824) w hV hR rfl (by omega) hk
    rw [show sm s r = jd ⟨s.p, s.hl, true, s.la, r, min (s.sa + 1) 1073741824, s.ba, s.ro⟩ by rw [sm, e1]; exact if_pos h8]
    have hb : max (min (s.la / 8) 16) 4 = max 4 (min 16 (s.la / 8)) := by omega
    have hp := hV.1
    rcases (show s.p = 0 ∨ s.p = 1 ∨ s.p = 2 by omega) with h0 | h0 | h0
    · by_cases h1 : s.hl = false
      · have e2 : jd ⟨s.p, s.hl, true, s.la, r, min (s.sa + 1) 1073741824, s.ba, s.ro⟩ = ⟨s.p, s.hl, true, s.la, r, min (s.sa + 1) 1073741824, s.ba, s.ro⟩ := by unfold jd; rw [if_neg (by rw [h1]; simp), if_neg (by rw [h0]; simp)]
        rw [e2]; exact rsample_an3 s r (min (s.sa + 1) 1073741824) w hV hR rfl h8 hk h0 h1
      · have h1 : s.hl = true := by cases hq : s.hl
                                    · exact absurd hq h1
                                    · rfl
        by_cases h2 : s.la + max (min (s.la / 8) 16) 4 ≤ r
        · rw [show jd ⟨s.p, s.hl, true, s.la, r, min (s.sa + 1) 1073741824, s.ba, s.ro⟩ = ⟨1, s.hl, true, s.la, r, min (s.sa + 1) 1073741824, r, 0⟩ by unfold jd; rw [if_pos ⟨h0, h1, h2⟩]]; exact rsample_au s r (min (s.sa + 1) 1073741824) w hV hR rfl h8 hk h0 h1 (by rw [← hb]; exact h2)
        · rw [show jd ⟨s.p, s.hl, true, s.la, r, min (s.sa + 1) 1073741824, s.ba, s.ro⟩ = ⟨s.p, s.hl, true, s.la, r, min (s.sa + 1) 1073741824, s.ba, s.ro⟩ by unfold jd; rw [if_neg (fun hh => h2 hh.2.2), if_neg (by rw [h0]; simp)]]; exact rsample_an4 s r (min (s.sa + 1) 1073741824) w hV hR rfl h8 hk h0 h1 (by rw [← hb]; omega)
    · by_cases h1 : r < s.ba
      · rw [show jd ⟨s.p, s.hl, true, s.la, r, min (s.sa + 1) 1073741824, s.ba, s.ro⟩ = ⟨0, s.hl, true, s.la, r, min (s.sa + 1) 1073741824, s.ba, s.ro⟩ by unfold jd; rw [if_neg (by rw [h0]; simp), if_pos ⟨h0, h1⟩]]; exact rsample_ad s r (min (s.sa + 1) 1073741824) w hV hR rfl h8 hk h0 h1
      · rw [show jd ⟨s.p, s.hl, true, s.la, r, min (s.sa + 1) 1073741824, s.ba, s.ro⟩ = ⟨s.p, s.hl, true, s.la, r, min (s.sa + 1) 1073741824, s.ba, s.ro⟩ by unfold jd; rw [if_neg (by rw [h0]; simp), if_neg (fun hh => h1 hh.2)]]; exact rsample_an1 s r (min (s.sa + 1) 1073741824) w hV hR rfl h8 hk h0 (by omega)
    · rw [show jd ⟨s.p, s.hl, true, s.la, r, min (s.sa + 1) 1073741824, s.ba, s.ro⟩ = ⟨s.p, s.hl, true, s.la, r, min (s.sa + 1) 1073741824, s.ba, s.ro⟩ by unfold jd; rw [if_neg (by rw [h0]; simp), if_neg (by rw [h0]; simp)]]; exact rsample_an2 s r (min (s.sa + 1) 1073741824) w hV hR rfl h8 hk h0
  case neg =>
    have hk : s.hn = true := by cases hq : s.hn
                                · exact absurd hq hk
                                · rfl
    by_cases hk2 : r < s.no
    case pos =>
      have e1 : s1 s r = ⟨s.p, s.hl, true, s.la, r, min (s.sa + 1) 1073741824, s.ba, s.ro⟩ := by unfold s1; rw [if_pos (.inr hk2)]
      by_cases h8 : 8 ≤ min (s.sa + 1) 1073741824
      case neg =>
        rw [show sm s r = ⟨s.p, s.hl, true, s.la, r, min (s.sa + 1) 1073741824, s.ba, s.ro⟩ by rw [sm, e1]; exact if_neg h8]
        exact rsample_b0 s r (min (s.sa + 1) 1073741824) w hV hR rfl (by omega) hk hk2
      rw [show sm s r = jd ⟨s.p, s.hl, true, s.la, r, min (s.sa + 1) 1073741824, s.ba, s.ro⟩ by rw [sm, e1]; exact if_pos h8]
      have hb : max (min (s.la / 8) 16) 4 = max 4 (min 16 (s.la / 8)) := by omega
      have hp := hV.1
      rcases (show s.p = 0 ∨ s.p = 1 ∨ s.p = 2 by omega) with h0 | h0 | h0
      · by_cases h1 : s.hl = false
        · have e2 : jd ⟨s.p, s.hl, true, s.la, r, min (s.sa + 1) 1073741824, s.ba, s.ro⟩ = ⟨s.p, s.hl, true, s.la, r, min (s.sa + 1) 1073741824, s.ba, s.ro⟩ := by unfold jd; rw [if_neg (by rw [h1]; simp), if_neg (by rw [h0]; simp)]
          rw [e2]; exact rsample_bn3 s r (min (s.sa + 1) 1073741824) w hV hR rfl h8 hk hk2 h0 h1
        · have h1 : s.hl = true := by cases hq : s.hl
                                      · exact absurd hq h1
                                      · rfl
          by_cases h2 : s.la + max (min (s.la / 8) 16) 4 ≤ r
          · rw [show jd ⟨s.p, s.hl, true, s.la, r, min (s.sa + 1) 1073741824, s.ba, s.ro⟩ = ⟨1, s.hl, true, s.la, r, min (s.sa + 1) 1073741824, r, 0⟩ by unfold jd; rw [if_pos ⟨h0, h1, h2⟩]]; exact rsample_bu s r (min (s.sa + 1) 1073741824) w hV hR rfl h8 hk hk2 h0 h1 (by rw [← hb]; exact h2)
          · rw [show jd ⟨s.p, s.hl, true, s.la, r, min (s.sa + 1) 1073741824, s.ba, s.ro⟩ = ⟨s.p, s.hl, true, s.la, r, min (s.sa + 1) 1073741824, s.ba, s.ro⟩ by unfold jd; rw [if_neg (fun hh => h2 hh.2.2), if_neg (by rw [h0]; simp)]]; exact rsample_bn4 s r (min (s.sa + 1) 1073741824) w hV hR rfl h8 hk hk2 h0 h1 (by rw [← hb]; omega)
      · by_cases h1 : r < s.ba
        · rw [show jd ⟨s.p, s.hl, true, s.la, r, min (s.sa + 1) 1073741824, s.ba, s.ro⟩ = ⟨0, s.hl, true, s.la, r, min (s.sa + 1) 1073741824, s.ba, s.ro⟩ by unfold jd; rw [if_neg (by rw [h0]; simp), if_pos ⟨h0, h1⟩]]; exact rsample_bd s r (min (s.sa + 1) 1073741824) w hV hR rfl h8 hk hk2 h0 h1
        · rw [show jd ⟨s.p, s.hl, true, s.la, r, min (s.sa + 1) 1073741824, s.ba, s.ro⟩ = ⟨s.p, s.hl, true, s.la, r, min (s.sa + 1) 1073741824, s.ba, s.ro⟩ by unfold jd; rw [if_neg (by rw [h0]; simp), if_neg (fun hh => h1 hh.2)]]; exact rsample_bn1 s r (min (s.sa + 1) 1073741824) w hV hR rfl h8 hk hk2 h0 (by omega)
      · rw [show jd ⟨s.p, s.hl, true, s.la, r, min (s.sa + 1) 1073741824, s.ba, s.ro⟩ = ⟨s.p, s.hl, true, s.la, r, min (s.sa + 1) 1073741824, s.ba, s.ro⟩ by unfold jd; rw [if_neg (by rw [h0]; simp), if_neg (by rw [h0]; simp)]]; exact rsample_bn2 s r (min (s.sa + 1) 1073741824) w hV hR rfl h8 hk hk2 h0
    case neg =>
      have e1 : s1 s r = ⟨s.p, s.hl, true, s.la, s.no, min (s.sa + 1) 1073741824, s.ba, s.ro⟩ := by unfold s1; rw [if_neg (fun hh => hh.elim (fun q => by rw [hk] at q; cases q) hk2)]
      by_cases h8 : 8 ≤ min (s.sa + 1) 1073741824
      case neg =>
        rw [show sm s r = ⟨s.p, s.hl, true, s.la, s.no, min (s.sa + 1) 1073741824, s.ba, s.ro⟩ by rw [sm, e1]; exact if_neg h8]
        exact rsample_c0 s r (min (s.sa + 1) 1073741824) w hV hR rfl (by omega) hk (by omega)
      rw [show sm s r = jd ⟨s.p, s.hl, true, s.la, s.no, min (s.sa + 1) 1073741824, s.ba, s.ro⟩ by rw [sm, e1]; exact if_pos h8]
      have hb : max (min (s.la / 8) 16) 4 = max 4 (min 16 (s.la / 8)) := by omega
      have hp := hV.1
      rcases (show s.p = 0 ∨ s.p = 1 ∨ s.p = 2 by omega) with h0 | h0 | h0
      · by_cases h1 : s.hl = false
        · have e2 : jd ⟨s.p, s.hl, true, s.la, s.no, min (s.sa + 1) 1073741824, s.ba, s.ro⟩ = ⟨s.p, s.hl, true, s.la, s.no, min (s.sa + 1) 1073741824, s.ba, s.ro⟩ := by unfold jd; rw [if_neg (by rw [h1]; simp), if_neg (by rw [h0]; simp)]
          rw [e2]; exact rsample_cn3 s r (min (s.sa + 1) 1073741824) w hV hR rfl h8 hk (by omega) h0 h1
        · have h1 : s.hl = true := by cases hq : s.hl
                                      · exact absurd hq h1
                                      · rfl
          by_cases h2 : s.la + max (min (s.la / 8) 16) 4 ≤ s.no
          · rw [show jd ⟨s.p, s.hl, true, s.la, s.no, min (s.sa + 1) 1073741824, s.ba, s.ro⟩ = ⟨1, s.hl, true, s.la, s.no, min (s.sa + 1) 1073741824, s.no, 0⟩ by unfold jd; rw [if_pos ⟨h0, h1, h2⟩]]; exact rsample_cu s r (min (s.sa + 1) 1073741824) w hV hR rfl h8 hk (by omega) h0 h1 (by rw [← hb]; exact h2)
          · rw [show jd ⟨s.p, s.hl, true, s.la, s.no, min (s.sa + 1) 1073741824, s.ba, s.ro⟩ = ⟨s.p, s.hl, true, s.la, s.no, min (s.sa + 1) 1073741824, s.ba, s.ro⟩ by unfold jd; rw [if_neg (fun hh => h2 hh.2.2), if_neg (by rw [h0]; simp)]]; exact rsample_cn4 s r (min (s.sa + 1) 1073741824) w hV hR rfl h8 hk (by omega) h0 h1 (by rw [← hb]; omega)
      · by_cases h1 : s.no < s.ba
        · rw [show jd ⟨s.p, s.hl, true, s.la, s.no, min (s.sa + 1) 1073741824, s.ba, s.ro⟩ = ⟨0, s.hl, true, s.la, s.no, min (s.sa + 1) 1073741824, s.ba, s.ro⟩ by unfold jd; rw [if_neg (by rw [h0]; simp), if_pos ⟨h0, h1⟩]]; exact rsample_cd s r (min (s.sa + 1) 1073741824) w hV hR rfl h8 hk (by omega) h0 h1
        · rw [show jd ⟨s.p, s.hl, true, s.la, s.no, min (s.sa + 1) 1073741824, s.ba, s.ro⟩ = ⟨s.p, s.hl, true, s.la, s.no, min (s.sa + 1) 1073741824, s.ba, s.ro⟩ by unfold jd; rw [if_neg (by rw [h0]; simp), if_neg (fun hh => h1 hh.2)]]; exact rsample_cn1 s r (min (s.sa + 1) 1073741824) w hV hR rfl h8 hk (by omega) h0 (by omega)
      · rw [show jd ⟨s.p, s.hl, true, s.la, s.no, min (s.sa + 1) 1073741824, s.ba, s.ro⟩ = ⟨s.p, s.hl, true, s.la, s.no, min (s.sa + 1) 1073741824, s.ba, s.ro⟩ by unfold jd; rw [if_neg (by rw [h0]; simp), if_neg (by rw [h0]; simp)]]; exact rsample_cn2 s r (min (s.sa + 1) 1073741824) w hV hR rfl h8 hk (by omega) h0

end Go.Proofs.Ytfmjlcnpabpheaa
