/- What tcpwire.Build tells of what may not be a segment. -/
import Derived.Test.YtgmgoilleakdcaaTcpB
import Derived.Test.YtgmgoilleakdcaaTcpCb
import Derived.Test.YtgmgoilleakdcaaTcpCo
import Derived.Test.YtgmgoilleakdcaaTcpCd
namespace Go.Proofs.Ytgmgoilleakdcaa
open Go.RowKit

/-- May these fields, as they stand, be a segment? -/
def TcpMayI (mss : Int) (hs : Bool) (sc : Int) (sk : Bool) (bs : List (Nat × Nat)) (ht : Bool) (tv te dn : Nat) : Prop := ∃ m c : Nat, mss = m ∧ sc = c ∧ TcpMay m hs c sk bs ht tv te dn

theorem tcheck_bad (sp dp sq ak fl wn ur : Nat) (mss : Int) (hs : Bool) (sc : Int) (sk : Bool) (ba : Option Addr) (bs : List (Nat × Nat)) (bc : Nat) (ht : Bool) (tv te : Nat) (da : Option Addr) (dn dc : Nat) (w : World) (htv : tv < 4294967296) (hte : te < 4294967296) (hx : Blk w ba bs) (hm : ¬ TcpMayI mss hs sc sk bs ht tv te dn) :
    Calls Try.prog 15 #[.agg (tcpV sp dp sq ak fl wn ur mss hs sc sk ba bs.length bc ht tv te da dn dc)] w fun e w' => (∃ n : Int, n ≠ 0 ∧ e = .returned (.int .i64 n)) ∧ Below w.heap.size w w' := by
  by_cases h1 : TcpNot mss hs sc bs.length ht tv te
  · exact tcheck_not sp dp sq ak fl wn ur mss hs sc sk ba bs.length bc ht tv te da dn dc w h1
  · unfold TcpNot at h1
    obtain ⟨m, rfl⟩ : ∃ m : Nat, mss = m := ⟨mss.toNat, by omega⟩
    obtain ⟨c, rfl⟩ : ∃ c : Nat, sc = c := ⟨sc.toNat, by omega⟩
    have a1 : m < 65536 := by omega
    have a2 : c < 256 := by omega
    have a3 : hs = false → c = 0 := fun h => by
      by_cases h0 : c = 0
      · exact h0
      · exact absurd (.inr (.inr (.inr (.inr (.inl ⟨h, by omega⟩))))) h1
    have a4 : ht = false → tv = 0 ∧ te = 0 := fun h => by
      by_cases h0 : tv = 0 ∧ te = 0
      · exact h0
      · exact absurd (.inr (.inr (.inr (.inr (.inr (.inl ⟨h, by omega⟩)))))) h1
    have a5 : bs.length ≤ 4 := by omega
    by_cases h6 : (laidO m hs c sk bs ht tv te).length ≤ 40
    · have h7 : 65515 < dn + (laidO m hs c sk bs ht tv te).length := by
        by_cases h7 : dn + (laidO m hs c sk bs ht tv te).length ≤ 65515
        · exact absurd ⟨m, c, rfl, rfl, a1, a2, a3, a4, a5, h6, h7⟩ hm
        · omega
      exact (tcheck_d sp dp sq ak fl wn ur m hs c sk ba bs bc ht tv te da dn dc w htv hte hx ⟨a1, a2, a3, a4, a5, h6, h7⟩).mono fun e w' h => ⟨⟨5, by decide, h.1⟩, h.2⟩
    · exact (tcheck_o sp dp sq ak fl wn ur m hs c sk ba bs bc ht tv te da dn dc w htv hte hx ⟨a1, a2, a3, a4, a5, by omega⟩).mono fun e w' h => ⟨⟨51, by decide, h.1⟩, h.2⟩

/-- What Build tells of what may not be a segment. -/
def TcpBad (w : World) (e : Ending) (w' : World) : Prop := ∃ n : Int, n ≠ 0 ∧ e = .returned (.tuple #[.slice none 0 0, .int .i64 n]) ∧ Below w.heap.size w w'

set_option maxRecDepth 100000 in
set_option maxHeartbeats 1000000 in
theorem tcpB_bad (sp dp sq ak fl wn ur : Nat) (mss : Int) (hs : Bool) (sc : Int) (sk : Bool) (ba : Option Addr) (bs : List (Nat × Nat)) (bc : Nat) (ht : Bool) (tv te : Nat) (da : Option Addr) (dn dc src dst : Nat) (w : World) (htv : tv < 4294967296) (hte : te < 4294967296) (hx : Blk w ba bs) (hm : ¬ TcpMayI mss hs sc sk bs ht tv te dn) :
    Calls Try.prog 8 #[.agg (tcpV sp dp sq ak fl wn ur mss hs sc sk ba bs.length bc ht tv te da dn dc), .int .u32 src, .int .u32 dst] w (TcpBad w) := by
  have bw := (Below.refl _ w).alloc (Nat.le_refl _) (.cells (tcpV sp dp sq ak fl wn ur mss hs sc sk ba bs.length bc ht tv te da dn dc) 27)
  have hck := tcheck_bad sp dp sq ak fl wn ur mss hs sc sk ba bs bc ht tv te da dn dc _ htv hte (hx.below bw) hm
  have Hck := Lib.hid hck
  have BW := Lib.hid bw
  clear hck hm bw hx
  unfold tcpV at *
  go_enter Try.func8, Try.ntmps8
  go_wp2_with fail
  refine Hck.out.mono ?_
  rintro e V ⟨⟨n, hn, rfl⟩, b⟩
  have e1 : (n != 0) = true := by rw [bne_iff_ne]; exact hn
  have q := Lib.hid (BW.out.trans (b.mono BW.out.size))
  have HN := Lib.hid hn
  clear hn Hck b BW
  go_wp2
  go_ret2
  exact ⟨n, HN.out, rfl, q.out⟩
end Go.Proofs.Ytgmgoilleakdcaa
