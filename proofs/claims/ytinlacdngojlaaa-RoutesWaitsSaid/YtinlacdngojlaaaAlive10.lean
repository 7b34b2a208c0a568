/- Routes: the page's example holds. -/
import Derived.Test.YtinlacdngojlaaaRtAdd
namespace Go.Proofs.Ytinlacdngojlaaa
open Go.RowKit Go.Maps Go.Proofs.Ytinlacdngojlaaa.Rt

theorem add_any (W : World) (g gm : Nat) (L : List Route10) (r : Route10) (h : TabAt W g gm L) (hn : r.net < 4294967296) (hgw : r.gw < 4294967296) :
    Calls Try.prog 8 #[.pointer (some ⟨g, 0, none⟩), .agg #[.int .u32 (r.net : Nat), .int .i64 r.bits, .int .u32 (r.gw : Nat)]] W (AddAns g gm L r W) := by
  by_cases hr : r.bits < 0 ∨ 32 < r.bits
  · exact add_range W g gm L r h hr
  · obtain ⟨net, bits, gw⟩ := r
    dsimp only at *
    obtain ⟨b, rfl⟩ : ∃ b : Nat, bits = b := ⟨bits.toNat, by omega⟩
    exact add_rest W g gm L net b gw h (by omega) hn hgw

namespace law10
def r1 : Route10 := ⟨167772160, 8, 0⟩
def r2 : Route10 := ⟨0, 0, 167772169⟩
theorem add1 : addE [] r1 = 0 ∧ addL [] r1 = [r1] := ⟨by kernel_rfl, by kernel_rfl⟩
theorem add2 : addE [r1] r2 = 0 ∧ addL [r1] r2 = [r1, r2] := ⟨by kernel_rfl, by kernel_rfl⟩
theorem next1 : wayOf 167838211 (nextAt [r1, r2] 167838211 33) = 167838211 ∧ errOf (nextAt [r1, r2] 167838211 33) = 0 := ⟨by kernel_rfl, by kernel_rfl⟩
theorem next2 : wayOf 134744072 (nextAt [r1, r2] 134744072 33) = 167772169 ∧ errOf (nextAt [r1, r2] 134744072 33) = 0 := ⟨by kernel_rfl, by kernel_rfl⟩

theorem call1 (W : World) (g gm : Nat) (h : TabAt W g gm []) : Calls Try.prog 8 #[.pointer (some ⟨g, 0, none⟩), .agg #[.int .u32 167772160, .int .i64 8, .int .u32 0]] W fun e w' => e = .returned (.int .i64 0) ∧ TabAt w' g gm [r1] ∧ W.grownBy w' (some gm) :=
  (show Calls Try.prog 8 #[.pointer (some ⟨g, 0, none⟩), .agg #[.int .u32 167772160, .int .i64 8, .int .u32 0]] W (AddAns g gm [] r1 W) from add_any W g gm [] r1 h (by decide) (by decide)).mono fun e w' ⟨h1, h2, h3⟩ => ⟨by rw [h1, add1.1]; rfl, by rw [add1.2] at h2; exact h2, h3⟩
theorem call2 (W : World) (g gm : Nat) (h : TabAt W g gm [r1]) : Calls Try.prog 8 #[.pointer (some ⟨g, 0, none⟩), .agg #[.int .u32 0, .int .i64 0, .int .u32 167772169]] W fun e w' => e = .returned (.int .i64 0) ∧ TabAt w' g gm [r1, r2] ∧ W.grownBy w' (some gm) :=
  (show Calls Try.prog 8 #[.pointer (some ⟨g, 0, none⟩), .agg #[.int .u32 0, .int .i64 0, .int .u32 167772169]] W (AddAns g gm [r1] r2 W) from add_any W g gm [r1] r2 h (by decide) (by decide)).mono fun e w' ⟨h1, h2, h3⟩ => ⟨by rw [h1, add2.1]; rfl, by rw [add2.2] at h2; exact h2, h3⟩
theorem ncall1 (W : World) (g gm : Nat) (h : TabAt W g gm [r1, r2]) : Calls Try.prog 12 #[.pointer (some ⟨g, 0, none⟩), .int .u32 167838211] W fun e w' => e = .returned (.tuple #[.int .u32 167838211, .int .i64 0]) ∧ Below W.heap.size W w' :=
  (show Calls Try.prog 12 #[.pointer (some ⟨g, 0, none⟩), .int .u32 167838211] W (NextAns [r1, r2] 167838211 W) from next_any W g gm [r1, r2] 167838211 h (by decide)).mono fun e w' ⟨h1, h2⟩ => ⟨by rw [h1, next1.1, next1.2]; rfl, h2⟩
theorem ncall2 (W : World) (g gm : Nat) (h : TabAt W g gm [r1, r2]) : Calls Try.prog 12 #[.pointer (some ⟨g, 0, none⟩), .int .u32 134744072] W fun e w' => e = .returned (.tuple #[.int .u32 167772169, .int .i64 0]) ∧ Below W.heap.size W w' :=
  (show Calls Try.prog 12 #[.pointer (some ⟨g, 0, none⟩), .int .u32 134744072] W (NextAns [r1, r2] 134744072 W) from next_any W g gm [r1, r2] 134744072 h (by decide)).mono fun e w' ⟨h1, h2⟩ => ⟨by rw [h1, next2.1, next2.2]; rfl, h2⟩

set_option maxRecDepth 100000 in
set_option maxHeartbeats 1000000 in
theorem alive_any (w : World) : Calls Try.prog 15 #[] w fun e w' => e = .returned (.bool true) ∧ Below w.heap.size w w' := by
  go_enter Try.func15, Try.ntmps15
  go_wp2_with fail
  refine (newTable_any _).mono ?_
  rintro e W1 ⟨g, gm, rfl, hg, hgm, T, b⟩
  have T1 := Lib.hid T
  have B1 := Lib.hid b
  have HG := Lib.hid hg
  have HM := Lib.hid hgm
  clear T b hg hgm
  go_wp2_with fail
  refine (call1 _ g gm T1.out).mono ?_
  rintro e W2 ⟨rfl, T, b⟩
  have T2 := Lib.hid T
  have B2 := Lib.hid (B1.out.grown b B1.out.size (fun k e => by cases e; exact HM.out))
  clear T b B1 T1
  go_wp2_with fail
  refine (num_any _ _).mono ?_
  rintro e w' ⟨rfl, rfl⟩
  go_wp2_with fail
  refine (call2 _ g gm T2.out).mono ?_
  rintro e W3 ⟨rfl, T, b⟩
  have T3 := Lib.hid T
  have B3 := Lib.hid (B2.out.grown b B2.out.size (fun k e => by cases e; exact HM.out))
  clear T b B2 T2
  go_wp2_with fail
  refine (num_any _ _).mono ?_
  rintro e w' ⟨rfl, rfl⟩
  go_wp2_with fail
  refine (ncall1 _ g gm T3.out).mono ?_
  rintro e W4 ⟨rfl, b⟩
  have T4 := Lib.hid (T3.out.below b)
  have B4 := Lib.hid (B3.out.trans (b.mono B3.out.size))
  clear b B3 T3
  go_wp2_with fail
  refine (ncall2 _ g gm T4.out).mono ?_
  rintro e W5 ⟨rfl, b⟩
  have B5 := Lib.hid (B4.out.trans (b.mono B4.out.size))
  clear b B4 T4
  go_wp2_with fail
  refine (num_any _ _).mono ?_
  rintro e w' ⟨rfl, rfl⟩
  go_wp2_with fail
  refine (num_any _ _).mono ?_
  rintro e w' ⟨rfl, rfl⟩
  go_wp2
  go_ret
  exact ⟨rfl, B5.out⟩
end law10
end Go.Proofs.Ytinlacdngojlaaa
