/- What tcpwire.Length tells. -/
import Derived.Test.YtgmgoilleakdcaaTcpO
namespace Go.Proofs.Ytgmgoilleakdcaa
open Go.RowKit

set_option maxRecDepth 100000 in
set_option maxHeartbeats 1000000 in
theorem tlength_any (sp dp sq ak fl wn ur mss : Nat) (hs : Bool) (sc : Nat) (sk : Bool) (ba : Option Addr) (bn bc : Nat) (ht : Bool) (tv te : Nat) (da : Option Addr) (dn dc : Nat) (w : World) (hd : dn ≤ 70368744177664) :
    Calls Try.prog 17 #[.agg (tcpV sp dp sq ak fl wn ur mss hs sc sk ba bn bc ht tv te da dn dc)] w fun e w' => e = .returned (.int .i64 ((dn : Int) + (if (bits .and .u8 (fl : Int) 2 != 0) = true then 1 else 0) + (if (bits .and .u8 (fl : Int) 1 != 0) = true then 1 else 0))) ∧ Below w.heap.size w w' := by
  have bw := (Below.refl _ w).alloc (Nat.le_refl _) (.cells (tcpV sp dp sq ak fl wn ur mss hs sc sk ba bn bc ht tv te da dn dc) 27)
  unfold tcpV at *
  go_enter Try.func17, Try.ntmps17
  cases h2 : (bits .and .u8 (fl : Int) 2 != 0) <;> cases h1 : (bits .and .u8 (fl : Int) 1 != 0)
  all_goals
    go_wp2
    go_ret
    exact ⟨by simp, bw⟩
end Go.Proofs.Ytgmgoilleakdcaa
