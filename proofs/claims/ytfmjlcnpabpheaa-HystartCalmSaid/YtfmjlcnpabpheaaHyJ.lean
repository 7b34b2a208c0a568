/- Hystart: the judge. -/
import Derived.Test.YtfmjlcnpabpheaaHyC
import Derived.StillTailTactics
import Derived.RegionTactic
namespace Go.Proofs.Ytfmjlcnpabpheaa
open Go.RowKit Go.Proofs.Ytfmjlcnpabpheaa.Hy

set_option maxHeartbeats 1000000 in
theorem judge_up (t : HS) (g : Nat) (w : World) (hV : HV t) (hS : w.heap[g]? = some (.cells #[.int .i64 t.p, .bool t.hl, .bool t.hn, .int .i64 t.la, .int .i64 t.no, .int .i64 t.sa, .int .i64 t.ba, .int .i64 t.ro] 24 (0, 0))) (h0 : t.p = 0) (h1 : t.hl = true) (h2 : t.la + max (min (t.la / 8) 16) 4 ≤ t.no) :
    Calls Try.prog 20 #[.pointer (some ⟨g, 0, none⟩)] w fun e w' => e = .returned (.tuple #[]) ∧ w'.heap[g]? = some (.cells #[.int .i64 1, .bool t.hl, .bool t.hn, .int .i64 t.la, .int .i64 t.no, .int .i64 t.sa, .int .i64 t.no, .int .i64 0] 24 (0, 0)) ∧ w.grownBy w' (some g) := by
  obtain ⟨⟨p0, p1⟩, ⟨a0, a1⟩, ⟨b0, b1⟩, ⟨c0, c1⟩, ⟨d0, d1⟩, e0, e1⟩ := hV
  go_enter Try.func20, Try.ntmps20
  have S_0 := Lib.hid hS
  clear hS
  have G_0 := Lib.hid (World.grownBy.refl w (some g))
  have Sc0 := blk_cell S_0.out 0
  have Sf0 := blk_free S_0.out 0
  have Sc1 := blk_cell S_0.out 1
  have Sf1 := blk_free S_0.out 1
  have Sc2 := blk_cell S_0.out 2
  have Sf2 := blk_free S_0.out 2
  have Sc3 := blk_cell S_0.out 3
  have Sf3 := blk_free S_0.out 3
  have Sc4 := blk_cell S_0.out 4
  have Sf4 := blk_free S_0.out 4
  have Sc5 := blk_cell S_0.out 5
  have Sf5 := blk_free S_0.out 5
  have Sc6 := blk_cell S_0.out 6
  have Sf6 := blk_free S_0.out 6
  have Sc7 := blk_cell S_0.out 7
  have Sf7 := blk_free S_0.out 7
  go_wp2_with fail
  go_quiet (fail)
  obtain ⟨n0, rfl⟩ : ∃ z, z = nq := ⟨_, rfl⟩
  go_wp2_with fail
  go_end0
  exact ⟨rfl, (blk_set (blk_set (blk_set (blk_drewN S_0.out n0) 0 (.int .i64 1)) 6 (.int .i64 t.no)) 7 (.int .i64 0)), (gr_trans (gr_trans (gr_trans (gr_drewN w n0 (some g)) (gr_set _ g 0 (.int .i64 1))) (gr_set _ g 6 (.int .i64 t.no))) (gr_set _ g 7 (.int .i64 0)))⟩

set_option maxHeartbeats 1000000 in
theorem judge_back (t : HS) (g : Nat) (w : World) (hV : HV t) (hS : w.heap[g]? = some (.cells #[.int .i64 t.p, .bool t.hl, .bool t.hn, .int .i64 t.la, .int .i64 t.no, .int .i64 t.sa, .int .i64 t.ba, .int .i64 t.ro] 24 (0, 0))) (h0 : t.p = 1) (h1 : t.no < t.ba) :
    Calls Try.prog 20 #[.pointer (some ⟨g, 0, none⟩)] w fun e w' => e = .returned (.tuple #[]) ∧ w'.heap[g]? = some (.cells #[.int .i64 0, .bool t.hl, .bool t.hn, .int .i64 t.la, .int .i64 t.no, .int .i64 t.sa, .int .i64 t.ba, .int .i64 t.ro] 24 (0, 0)) ∧ w.grownBy w' (some g) := by
  obtain ⟨⟨p0, p1⟩, ⟨a0, a1⟩, ⟨b0, b1⟩, ⟨c0, c1⟩, ⟨d0, d1⟩, e0, e1⟩ := hV
  go_enter Try.func20, Try.ntmps20
  have S_0 := Lib.hid hS
  clear hS
  have G_0 := Lib.hid (World.grownBy.refl w (some g))
  have Sc0 := blk_cell S_0.out 0
  have Sf0 := blk_free S_0.out 0
  have Sc1 := blk_cell S_0.out 1
  have Sf1 := blk_free S_0.out 1
  have Sc2 := blk_cell S_0.out 2
  have Sf2 := blk_free S_0.out 2
  have Sc3 := blk_cell S_0.out 3
  have Sf3 := blk_free S_0.out 3
  have Sc4 := blk_cell S_0.out 4
  have Sf4 := blk_free S_0.out 4
  have Sc5 := blk_cell S_0.out 5
  have Sf5 := blk_free S_0.out 5
  have Sc6 := blk_cell S_0.out 6
  have Sf6 := blk_free S_0.out 6
  have Sc7 := blk_cell S_0.out 7
  have Sf7 := blk_free S_0.out 7
  go_wp2_with fail
  go_quiet (fail)
  obtain ⟨n0, rfl⟩ : ∃ z, z = nq := ⟨_, rfl⟩
  go_wp2_with fail
  go_quiet (fail)
  obtain ⟨n1, rfl⟩ : ∃ z, z = nq := ⟨_, rfl⟩
  go_wp2_with fail
  go_end0
  exact ⟨rfl, (blk_set (blk_drewN S_0.out (n0 + n1)) 0 (.int .i64 0)), (gr_trans (gr_drewN w (n0 + n1) (some g)) (gr_set _ g 0 (.int .i64 0)))⟩

set_option maxHeartbeats 1000000 in
theorem judge_n1 (t : HS) (g : Nat) (w : World) (hV : HV t) (hS : w.heap[g]? = some (.cells #[.int .i64 t.p, .bool t.hl, .bool t.hn, .int .i64 t.la, .int .i64 t.no, .int .i64 t.sa, .int .i64 t.ba, .int .i64 t.ro] 24 (0, 0))) (h0 : t.p = 1) (h1 : t.ba ≤ t.no) :
    Calls Try.prog 20 #[.pointer (some ⟨g, 0, none⟩)] w fun e w' => e = .returned (.tuple #[]) ∧ w'.heap[g]? = some (.cells #[.int .i64 t.p, .bool t.hl, .bool t.hn, .int .i64 t.la, .int .i64 t.no, .int .i64 t.sa, .int .i64 t.ba, .int .i64 t.ro] 24 (0, 0)) ∧ w.grownBy w' (some g) := by
  obtain ⟨⟨p0, p1⟩, ⟨a0, a1⟩, ⟨b0, b1⟩, ⟨c0, c1⟩, ⟨d0, d1⟩, e0, e1⟩ := hV
  go_enter Try.func20, Try.ntmps20
  have S_0 := Lib.hid hS
  clear hS
  have G_0 := Lib.hid (World.grownBy.refl w (some g))
  have Sc0 := blk_cell S_0.out 0
  have Sf0 := blk_free S_0.out 0
  have Sc1 := blk_cell S_0.out 1
  have Sf1 := blk_free S_0.out 1
  have Sc2 := blk_cell S_0.out 2
  have Sf2 := blk_free S_0.out 2
  have Sc3 := blk_cell S_0.out 3
  have Sf3 := blk_free S_0.out 3
  have Sc4 := blk_cell S_0.out 4
  have Sf4 := blk_free S_0.out 4
  have Sc5 := blk_cell S_0.out 5
  have Sf5 := blk_free S_0.out 5
  have Sc6 := blk_cell S_0.out 6
  have Sf6 := blk_free S_0.out 6
  have Sc7 := blk_cell S_0.out 7
  have Sf7 := blk_free S_0.out 7
  go_wp2_with fail
  go_quiet (fail)
  obtain ⟨n0, rfl⟩ : ∃ z, z = nq := ⟨_, rfl⟩
  go_wp2_with fail
  go_quiet (fail)
  obtain ⟨n1, rfl⟩ : ∃ z, z = nq := ⟨_, rfl⟩
  go_wp2_with fail
  go_end0
  exact ⟨rfl, (blk_drewN S_0.out (n0 + n1)), (gr_trans (gr_drewN w n0 (some g)) (gr_drewN _ n1 _))⟩

set_option maxHeartbeats 1000000 in
theorem judge_n2 (t : HS) (g : Nat) (w : World) (hV : HV t) (hS : w.heap[g]? = some (.cells #[.int .i64 t.p, .bool t.hl, .bool t.hn, .int .i64 t.la, .int .i64 t.no, .int .i64 t.sa, .int .i64 t.ba, .int .i64 t.ro] 24 (0, 0))) (h0 : t.p = 2) :
    Calls Try.prog 20 #[.pointer (some ⟨g, 0, none⟩)] w fun e w' => e = .returned (.tuple #[]) ∧ w'.heap[g]? = some (.cells #[.int .i64 t.p, .bool t.hl, .bool t.hn, .int .i64 t.la, .int .i64 t.no, .int .i64 t.sa, .int .i64 t.ba, .int .i64 t.ro] 24 (0, 0)) ∧ w.grownBy w' (some g) := by
  obtain ⟨⟨p0, p1⟩, ⟨a0, a1⟩, ⟨b0, b1⟩, ⟨c0, c1⟩, ⟨d0, d1⟩, e0, e1⟩ := hV
  go_enter Try.func20, Try.ntmps20
  have S_0 := Lib.hid hS
  clear hS
  have G_0 := Lib.hid (World.grownBy.refl w (some g))
  have Sc0 := blk_cell S_0.out 0
  have Sf0 := blk_free S_0.out 0
  have Sc1 := blk_cell S_0.out 1
  have Sf1 := blk_free S_0.out 1
  have Sc2 := blk_cell S_0.out 2
  have Sf2 := blk_free S_0.out 2
  have Sc3 := blk_cell S_0.out 3
  have Sf3 := blk_free S_0.out 3
  have Sc4 := blk_cell S_0.out 4
  have Sf4 := blk_free S_0.out 4
  have Sc5 := blk_cell S_0.out 5
  have Sf5 := blk_free S_0.out 5
  have Sc6 := blk_cell S_0.out 6
  have Sf6 := blk_free S_0.out 6
  have Sc7 := blk_cell S_0.out 7
  have Sf7 := blk_free S_0.out 7
  go_wp2_with fail
  go_quiet (fail)
  obtain ⟨n0, rfl⟩ : ∃ z, z = nq := ⟨_, rfl⟩
  go_wp2_with fail
  go_quiet (fail)
  obtain ⟨n1, rfl⟩ : ∃ z, z = nq := ⟨_, rfl⟩
  go_wp2_with fail
  go_end0
  exact ⟨rfl, (blk_drewN S_0.out (n0 + n1)), (gr_trans (gr_drewN w n0 (some g)) (gr_drewN _ n1 _))⟩

set_option maxHeartbeats 1000000 in
theorem judge_n3 (t : HS) (g : Nat) (w : World) (hV : HV t) (hS : w.heap[g]? = some (.cells #[.int .i64 t.p, .bool t.hl, .bool t.hn, .int .i64 t.la, .int .i64 t.no, .int .i64 t.sa, .int .i64 t.ba, .int .i64 t.ro] 24 (0, 0))) (h0 : t.p = 0) (h1 : t.hl = false) :
    Calls Try.prog 20 #[.pointer (some ⟨g, 0, none⟩)] w fun e w' => e = .returned (.tuple #[]) ∧ w'.heap[g]? = some (.cells #[.int .i64 t.p, .bool t.hl, .bool t.hn, .int .i64 t.la, .int .i64 t.no, .int .i64 t.sa, .int .i64 t.ba, .int .i64 t.ro] 24 (0, 0)) ∧ w.grownBy w' (some g) := by
  obtain ⟨⟨p0, p1⟩, ⟨a0, a1⟩, ⟨b0, b1⟩, ⟨c0, c1⟩, ⟨d0, d1⟩, e0, e1⟩ := hV
  go_enter Try.func20, Try.ntmps20
  have S_0 := Lib.hid hS
  clear hS
  have G_0 := Lib.hid (World.grownBy.refl w (some g))
  have Sc0 := blk_cell S_0.out 0
  have Sf0 := blk_free S_0.out 0
  have Sc1 := blk_cell S_0.out 1
  have Sf1 := blk_free S_0.out 1
  have Sc2 := blk_cell S_0.out 2
  have Sf2 := blk_free S_0.out 2
  have Sc3 := blk_cell S_0.out 3
  have Sf3 := blk_free S_0.out 3
  have Sc4 := blk_cell S_0.out 4
  have Sf4 := blk_free S_0.out 4
  have Sc5 := blk_cell S_0.out 5
  have Sf5 := blk_free S_0.out 5
  have Sc6 := blk_cell S_0.out 6
  have Sf6 := blk_free S_0.out 6
  have Sc7 := blk_cell S_0.out 7
  have Sf7 := blk_free S_0.out 7
  go_wp2_with fail
  go_quiet (fail)
  obtain ⟨n0, rfl⟩ : ∃ z, z = nq := ⟨_, rfl⟩
  go_wp2_with fail
  go_quiet (fail)
  obtain ⟨n1, rfl⟩ : ∃ z, z = nq := ⟨_, rfl⟩
  go_wp2_with fail
  go_end0
  exact ⟨rfl, (blk_drewN S_0.out (n0 + n1)), (gr_trans (gr_drewN w n0 (some g)) (gr_drewN _ n1 _))⟩

set_option maxHeartbeats 1000000 in
theorem judge_n4 (t : HS) (g : Nat) (w : World) (hV : HV t) (hS : w.heap[g]? = some (.cells #[.int .i64 t.p, .bool t.hl, .bool t.hn, .int .i64 t.la, .int .i64 t.no, .int .i64 t.sa, .int .i64 t.ba, .int .i64 t.ro] 24 (0, 0))) (h0 : t.p = 0) (h1 : t.hl = true) (h2 : t.no < t.la + max (min (t.la / 8) 16) 4) :
    Calls Try.prog 20 #[.pointer (some ⟨g, 0, none⟩)] w fun e w' => e = .returned (.tuple #[]) ∧ w'.heap[g]? = some (.cells #[.int .i64 t.p, .bool t.hl, .bool t.hn, .int .i64 t.la, .int .i64 t.no, .int .i64 t.sa, .int .i64 t.ba, .int .i64 t.ro] 24 (0, 0)) ∧ w.grownBy w' (some g) := by
  obtain ⟨⟨p0, p1⟩, ⟨a0, a1⟩, ⟨b0, b1⟩, ⟨c0, c1⟩, ⟨d0, d1⟩, e0, e1⟩ := hV
  go_enter Try.func20, Try.ntmps20
  have S_0 := Lib.hid hS
  clear hS
  have G_0 := Lib.hid (World.grownBy.refl w (some g))
  have Sc0 := blk_cell S_0.out 0
  have Sf0 := blk_free S_0.out 0
  have Sc1 := blk_cell S_0.out 1
  have Sf1 := blk_free S_0.out 1
  have Sc2 := blk_cell S_0.out 2
  have Sf2 := blk_free S_0.out 2
  have Sc3 := blk_cell S_0.out 3
  have Sf3 := blk_free S_0.out 3
  have Sc4 := blk_cell S_0.out 4
  have Sf4 := blk_free S_0.out 4
  have Sc5 := blk_cell S_0.out 5
  have Sf5 := blk_free S_0.out 5
  have Sc6 := blk_cell S_0.out 6
  have Sf6 := blk_free S_0.out 6
  have Sc7 := blk_cell S_0.out 7
  have Sf7 := blk_free S_0.out 7
  go_wp2_with fail
  go_quiet (fail)
  obtain ⟨n0, rfl⟩ : ∃ z, z = nq := ⟨_, rfl⟩
  go_wp2_with fail
  go_quiet (fail)
  obtain ⟨n1, rfl⟩ : ∃ z, z = nq := ⟨_, rfl⟩
  go_wp2_with fail
  go_end0
  exact ⟨rfl, (blk_drewN S_0.out (n0 + n1)), (gr_trans (gr_drewN w n0 (some g)) (gr_drewN _ n1 _))⟩

set_option maxHeartbeats 400000 in
theorem judge_any (t u : HS) (hu : jd t = u) (g : Nat) (w : World) (hV : HV t) (hS : w.heap[g]? = some (.cells #[.int .i64 t.p, .bool t.hl, .bool t.hn, .int .i64 t.la, .int .i64 t.no, .int .i64 t.sa, .int .i64 t.ba, .int .i64 t.ro] 24 (0, 0))) :
    Calls Try.prog 20 #[.pointer (some ⟨g, 0, none⟩)] w fun e w' => e = .returned (.tuple #[]) ∧ w'.heap[g]? = some (.cells #[.int .i64 u.p, .bool u.hl, .bool u.hn, .int .i64 u.la, .int .i64 u.no, .int .i64 u.sa, .int .i64 u.ba, .int .i64 u.ro] 24 (0, 0)) ∧ w.grownBy w' (some g) := by
  subst hu
  have hp := hV.1
  rcases (show t.p = 0 ∨ t.p = 1 ∨ t.p = 2 by omega) with h0 | h0 | h0
  · cases h1 : t.hl
    · rw [show jd t = t by unfold jd; rw [if_neg (by rw [h1]; simp), if_neg (by rw [h0]; simp)]]; exact judge_n3 t g w hV hS h0 h1
    · by_cases h2 : t.la + max (min (t.la / 8) 16) 4 ≤ t.no
      · rw [show jd t = ⟨1, t.hl, t.hn, t.la, t.no, t.sa, t.no, 0⟩ by unfold jd; rw [if_pos ⟨h0, h1, h2⟩]]; exact judge_up t g w hV hS h0 h1 h2
      · rw [show jd t = t by unfold jd; rw [if_neg (fun hh => h2 hh.2.2), if_neg (by rw [h0]; simp)]]; exact judge_n4 t g w hV hS h0 h1 (by omega)
  · by_cases h1 : t.no < t.ba
    · rw [show jd t = ⟨0, t.hl, t.hn, t.la, t.no, t.sa, t.ba, t.ro⟩ by unfold jd; rw [if_neg (by rw [h0]; simp), if_pos ⟨h0, h1⟩]]; exact judge_back t g w hV hS h0 h1
    · rw [show jd t = t by unfold jd; rw [if_neg (by rw [h0]; simp), if_neg (fun hh => h1 hh.2)]]; exact judge_n1 t g w hV hS h0 (by omega)
  · rw [show jd t = t by unfold jd; rw [if_neg (by rw [h0]; simp), if_neg (by rw [h0]; simp)]]; exact judge_n2 t g w hV hS h0

end Go.Proofs.Ytfmjlcnpabpheaa
