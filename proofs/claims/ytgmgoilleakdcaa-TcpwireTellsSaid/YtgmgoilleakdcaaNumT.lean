/- What the small functions of tcpwire on numbers in octets answer. -/
import Derived.Test.YtgmgoilleakdcaaGPut
import Derived.Test.YtgmgoilleakdcaaGCopyB
import Derived.Test.YtgmgoilleakdcaaGAppend
namespace Go.Proofs.Ytgmgoilleakdcaa
open Go.RowKit

set_option maxRecDepth 100000 in
set_option maxHeartbeats 400000 in
/-- 'number': of one octet to eight. -/
theorem pnum_tcpwire (a : Option Addr) (xs : List Nat) (cap : Nat) (w : World) (h : Bts w a xs) (hlo : 1 ≤ xs.length) (hhi : xs.length ≤ 8) :
    Calls Try.prog 30 #[.slice a xs.length cap] w fun e w' => e = .returned (.int .u64 (Mt.numOf xs : Nat)) ∧ w = w' := by
  have Hg := Lib.hid (get_ok a xs cap w h hlo hhi)
  clear h hlo hhi
  go_enter Try.func30, Try.ntmps30
  go_wp2_with fail
  refine Hg.out.mono ?_
  rintro e w' ⟨rfl, rfl⟩
  go_wp2
  go_ret
  exact ⟨rfl, rfl⟩

set_option maxRecDepth 100000 in
set_option maxHeartbeats 400000 in
/-- 'put': a number behind a list of one's own. -/
theorem puts_tcpwire (B cap n k : Nat) (a : Option Addr) (xs : List Nat) (w : World) (O : OwnSl B a xs cap w) (hlo : 1 ≤ k) (hhi : k ≤ 8) (hn : n < 18446744073709551616) (hnk : n < 256 ^ k) (hB : B ≤ w.heap.size) (hl : xs.length ≤ 70368744177664) :
    Calls Try.prog 25 #[.slice a xs.length cap, .int .u64 n, .int .i64 k] w fun e w' => ∃ a' cap', e = .returned (.slice a' (xs ++ Mt.octs n k).length cap') ∧ OwnSl B a' (xs ++ Mt.octs n k) cap' w' ∧ Below B w w' := by
  have hp := fun W => put_ok n k hlo hhi hn hnk W
  have ol : (Mt.octs n k).length = k := Mt.octs_length n k
  generalize Mt.octs n k = ys at hp ol ⊢
  subst ol
  have Hp := Lib.hid hp
  have HO := Lib.hid O
  clear hp O hnk
  go_enter Try.func25, Try.ntmps25
  go_wp2_with fail
  refine (Hp.out _).mono ?_
  rintro e w1 ⟨rfl, P, b1⟩
  have HP := Lib.hid P.bts
  have H1 := Lib.hid (HO.out.below b1)
  have q1 := Lib.hid (b1.mono hB)
  have hb1 := Nat.le_trans hB b1.size
  have hll : xs.length + ys.length ≤ 140737488355328 := by omega
  clear P b1 Hp HO
  go_wp2_with (at_builtin; refine wpList_append_bts rfl _ _ rfl B H1.out HP.out (fun h => by cases h) rfl rfl hll hb1 ?_; intro a2 c2 w2 Z b2; have HZ := Lib.hid Z; have q2 := Lib.hid (q1.out.trans b2); clear Z b2)
  go_ret
  exact ⟨a2, c2, by rw [List.length_append]; rfl, HZ.out, q2.out⟩
end Go.Proofs.Ytgmgoilleakdcaa
