/- What tcpwire.Check tells of a segment that may be. -/
import Derived.Test.YtgmgoilleakdcaaTcpO
namespace Go.Proofs.Ytgmgoilleakdcaa
open Go.RowKit

/-- May it be a segment? -/
def TcpMay (mss : Nat) (hs : Bool) (sc : Nat) (sk : Bool) (bs : List (Nat × Nat)) (ht : Bool) (tv te dn : Nat) : Prop :=
  mss < 65536 ∧ sc < 256 ∧ (hs = false → sc = 0) ∧ (ht = false → tv = 0 ∧ te = 0) ∧ bs.length ≤ 4 ∧ (laidO mss hs sc sk bs ht tv te).length ≤ 40 ∧ dn + (laidO mss hs sc sk bs ht tv te).length ≤ 65515

set_option maxRecDepth 100000 in
set_option maxHeartbeats 2000000 in
theorem tcheck_ok (sp dp sq ak fl wn ur mss : Nat) (hs : Bool) (sc : Nat) (sk : Bool) (ba : Option Addr) (bs : List (Nat × Nat)) (bc : Nat) (ht : Bool) (tv te : Nat) (da : Option Addr) (dn dc : Nat) (w : World)
    (htv : tv < 4294967296) (hte : te < 4294967296) (hx : Blk w ba bs) (h : TcpMay mss hs sc sk bs ht tv te dn) :
    Calls Try.prog 15 #[.agg (tcpV sp dp sq ak fl wn ur mss hs sc sk ba bs.length bc ht tv te da dn dc)] w fun e w' => e = .returned (.int .i64 0) ∧ Below w.heap.size w w' := by
  obtain ⟨h1, h2, h3, h4, h5, h6, h7⟩ := h
  have bw := (Below.refl _ w).alloc (Nat.le_refl _) (.cells (tcpV sp dp sq ak fl wn ur mss hs sc sk ba bs.length bc ht tv te da dn dc) 27)
  have bn := blk_new w (.cells (tcpV sp dp sq ak fl wn ur mss hs sc sk ba bs.length bc ht tv te da dn dc) 27)
  have P := options_any sp dp sq ak fl wn ur mss hs sc sk ba bs bc ht tv te da dn dc (w.alloc (.cells (tcpV sp dp sq ak fl wn ur mss hs sc sk ba bs.length bc ht tv te da dn dc) 27)) h1 h2 htv hte h5 (hx.below bw)
  have hsz : w.heap.size < (w.alloc (.cells (tcpV sp dp sq ak fl wn ur mss hs sc sk ba bs.length bc ht tv te da dn dc) 27)).heap.size := by rw [World.size_alloc]; exact Nat.lt_succ_self _
  have HSZ := Lib.hid hsz
  have BN := Lib.hid bn
  have BW := Lib.hid bw
  have HP := Lib.hid P
  have i5 : (bs.length : Int) ≤ 4 := by omega
  have i1 : (mss : Int) ≤ 65535 := by omega
  have i2 : (sc : Int) ≤ 255 := by omega
  generalize (laidO mss hs sc sk bs ht tv te) = L at h6 h7 HP
  have i6 : (L.length : Int) ≤ 40 := by omega
  have i7 : (dn : Int) ≤ 65515 - (L.length : Int) := by omega
  have g7 := blk_cell bn 7
  have g8 := blk_cell bn 8
  have g9 := blk_cell bn 9
  have g11 := blk_cell bn 11
  have g12 := blk_cell bn 12
  have g13 := blk_cell bn 13
  have g14 := blk_cell bn 14
  clear hsz bn bw P h1 h2 h5 h6 h7 hx
  unfold tcpV at *
  rcases hs with _ | _ <;> rcases ht with _ | _
  case false.false =>
    obtain rfl := h3 rfl
    obtain ⟨rfl, rfl⟩ := h4 rfl
    clear h3 h4
    go_enter Try.func15, Try.ntmps15
    go_wp2_with fail
    refine HP.out.mono ?_
    rintro e w2 ⟨⟨a2, c2, rfl, _⟩, b2⟩
    have g15 := blk_cell ((b2.block _ HSZ.out).trans BN.out) 15
    have BW2 := Lib.hid (BW.out.trans (b2.mono (Nat.le_of_lt HSZ.out)))
    clear b2 g7 g8 g9 g11 g12 g13 g14 BW
    go_wp2
    go_ret
    exact ⟨rfl, BW2.out⟩
  case false.true =>
    obtain rfl := h3 rfl
    clear h3 h4
    go_enter Try.func15, Try.ntmps15
    go_wp2_with fail
    refine HP.out.mono ?_
    rintro e w2 ⟨⟨a2, c2, rfl, _⟩, b2⟩
    have g15 := blk_cell ((b2.block _ HSZ.out).trans BN.out) 15
    have BW2 := Lib.hid (BW.out.trans (b2.mono (Nat.le_of_lt HSZ.out)))
    clear b2 g7 g8 g9 g11 g12 g13 g14 BW
    go_wp2
    go_ret
    exact ⟨rfl, BW2.out⟩
  case true.false =>
    obtain ⟨rfl, rfl⟩ := h4 rfl
    clear h3 h4
    go_enter Try.func15, Try.ntmps15
    go_wp2_with fail
    refine HP.out.mono ?_
    rintro e w2 ⟨⟨a2, c2, rfl, _⟩, b2⟩
    have g15 := blk_cell ((b2.block _ HSZ.out).trans BN.out) 15
    have BW2 := Lib.hid (BW.out.trans (b2.mono (Nat.le_of_lt HSZ.out)))
    clear b2 g7 g8 g9 g11 g12 g13 g14 BW
    go_wp2
    go_ret
    exact ⟨rfl, BW2.out⟩
  case true.true =>
    clear h3 h4
    go_enter Try.func15, Try.ntmps15
    go_wp2_with fail
    refine HP.out.mono ?_
    rintro e w2 ⟨⟨a2, c2, rfl, _⟩, b2⟩
    have g15 := blk_cell ((b2.block _ HSZ.out).trans BN.out) 15
    have BW2 := Lib.hid (BW.out.trans (b2.mono (Nat.le_of_lt HSZ.out)))
    clear b2 g7 g8 g9 g11 g12 g13 g14 BW
    go_wp2
    go_ret
    exact ⟨rfl, BW2.out⟩
end Go.Proofs.Ytgmgoilleakdcaa
