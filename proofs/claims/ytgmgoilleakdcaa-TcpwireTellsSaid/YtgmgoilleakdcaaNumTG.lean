/- 'put' of tcpwire: what lies elsewhere lies on. -/
import Derived.Test.YtgmgoilleakdcaaNumT
import Derived.Test.YtgmgoilleakdcaaGAppendG
import Derived.Deep.DeepCutAuto
namespace Go.Proofs.Ytgmgoilleakdcaa
open Go.RowKit
set_option maxRecDepth 100000 in
set_option maxHeartbeats 400000 in
/-- 'put': a number behind a list of one's own; the blocks beside the list's lie on. -/
theorem putg_tcpwire (B cap n k : Nat) (a : Option Addr) (xs : List Nat) (w : World) (O : OwnSl B a xs cap w) (hlo : 1 ≤ k) (hhi : k ≤ 8) (hn : n < 18446744073709551616) (hnk : n < 256 ^ k) (hB : B ≤ w.heap.size) (hl : xs.length ≤ 70368744177664) :
    Calls Try.prog 25 #[.slice a xs.length cap, .int .u64 n, .int .i64 k] w fun e w' => ∃ a' cap', e = .returned (.slice a' (xs ++ Mt.octs n k).length cap') ∧ OwnSl B a' (xs ++ Mt.octs n k) cap' w' ∧ Below B w w' ∧ w.grownBy w' (Value.slice a xs.length cap).ownBlock := by
  have hp := fun W => put_ok n k hlo hhi hn hnk W
  have ol : (Mt.octs n k).length = k := Mt.octs_length n k
  generalize Mt.octs n k = ys at hp ol ⊢
  subst ol
  have Hp := Lib.hid hp
  have HO := Lib.hid O
  clear hp O hnk
  go_enter Try.func25, Try.ntmps25
  go_wp2_with fail
  refine (Hp.out _).mono ?_
  rintro e w1 ⟨rfl, P, b1⟩
  have HP := Lib.hid P.bts
  have H1 := Lib.hid (HO.out.below b1)
  have q1 := Lib.hid (b1.mono hB)
  have r1 := Lib.hid b1
  have hb1 := Nat.le_trans hB b1.size
  have hll : xs.length + ys.length ≤ 140737488355328 := by omega
  clear P b1 Hp HO
  go_wp2_with (at_builtin; refine wpList_append_beside rfl _ _ rfl B H1.out HP.out (fun h => by cases h) rfl rfl hll hb1 ?_; intro a2 c2 w2 Z b2 gr; have HZ := Lib.hid Z; have q2 := Lib.hid (q1.out.trans b2); have q3 := Lib.hid (grownAny_of_below r1.out gr); clear Z b2 gr)
  go_ret
  exact ⟨a2, c2, by rw [List.length_append]; rfl, HZ.out, q2.out, q3.out⟩
end Go.Proofs.Ytgmgoilleakdcaa
