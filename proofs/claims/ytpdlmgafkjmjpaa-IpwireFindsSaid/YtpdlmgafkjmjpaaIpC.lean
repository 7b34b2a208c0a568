/- What ipwire.Check and fragmentOf tell. -/
import Derived.Test.YtpdlmgafkjmjpaaIpMath
namespace Go.Proofs.Ytpdlmgafkjmjpaa
open Go.RowKit

/-- A packet as a value. -/
abbrev ipV (tos id : Nat) (df mf : Bool) (off : Int) (ttl proto src dst : Nat) (oa : Option Addr) (on oc : Nat) (da : Option Addr) (dn dc : Nat) : Array Value :=
  #[.int .u8 tos, .int .u16 id, .bool df, .bool mf, .int .i64 off, .int .u8 ttl, .int .u8 proto, .int .u32 src, .int .u32 dst, .slice oa on oc, .slice da dn dc]

/-- May it be a packet? -/
abbrev IpMay (off : Int) (on dn : Nat) : Prop := (0 ≤ off ∧ off ≤ 65528 ∧ off % 8 = 0) ∧ (on ≤ 40 ∧ on % 4 = 0) ∧ dn + on ≤ 65515

set_option maxRecDepth 100000 in
set_option maxHeartbeats 1000000 in
theorem check_ok (tos id : Nat) (df mf : Bool) (off : Int) (ttl proto src dst : Nat) (oa : Option Addr) (on oc : Nat) (da : Option Addr) (dn dc : Nat) (w : World) (h : IpMay off on dn) :
    Calls Try.prog 56 #[.agg (ipV tos id df mf off ttl proto src dst oa on oc da dn dc)] w fun e w' => e = .returned (.int .i64 0) ∧ Below w.heap.size w w' := by
  obtain ⟨⟨h0, h1, h2⟩, ⟨h3, h4⟩, h5⟩ := h
  have bw := (Below.refl _ w).alloc (Nat.le_refl _) (.cells (ipV tos id df mf off ttl proto src dst oa on oc da dn dc) 27)
  have e2 : (off % 8 != 0) = false := by rw [bne_eq_false_iff_eq]; exact h2
  have e4 : ((on : Int) % 4 != 0) = false := by rw [bne_eq_false_iff_eq]; omega
  have e5 : (dn : Int) ≤ 65515 - (on : Int) := by omega
  have e3 : (on : Int) ≤ 40 := by omega
  clear h2 h4 h5 h3
  go_enter Try.func56, Try.ntmps56
  go_wp2
  go_ret
  exact ⟨rfl, bw⟩

/-- What is told of none. -/
def CheckBad (w : World) (e : Ending) (w' : World) : Prop := ∃ n : Int, n ≠ 0 ∧ e = .returned (.int .i64 n) ∧ Below w.heap.size w w'

set_option maxRecDepth 100000 in
set_option maxHeartbeats 2000000 in
theorem check_bad (tos id : Nat) (df mf : Bool) (off : Int) (ttl proto src dst : Nat) (oa : Option Addr) (on oc : Nat) (da : Option Addr) (dn dc : Nat) (w : World) (_ : dn ≤ 9223372036854775807) (h : ¬ IpMay off on dn) :
    Calls Try.prog 56 #[.agg (ipV tos id df mf off ttl proto src dst oa on oc da dn dc)] w (CheckBad w) := by
  have bw := (Below.refl _ w).alloc (Nat.le_refl _) (.cells (ipV tos id df mf off ttl proto src dst oa on oc da dn dc) 27)
  by_cases h0 : off < 0
  · clear h
    go_enter Try.func56, Try.ntmps56
    go_wp2
    go_ret
    exact ⟨91, by decide, rfl, bw⟩
  · by_cases h1 : 65528 < off
    · clear h
      go_enter Try.func56, Try.ntmps56
      go_wp2
      go_ret
      exact ⟨91, by decide, rfl, bw⟩
    · by_cases h2 : off % 8 = 0
      · have e2 : (off % 8 != 0) = false := by rw [bne_eq_false_iff_eq]; exact h2
        by_cases h3 : (on : Int) ≤ 40
        · by_cases h4 : (on : Int) % 4 = 0
          · have e4 : ((on : Int) % 4 != 0) = false := by rw [bne_eq_false_iff_eq]; exact h4
            have e5 : 65515 - (on : Int) < (dn : Int) := by omega
            clear h h2 h4
            go_enter Try.func56, Try.ntmps56
            go_wp2
            go_ret
            exact ⟨5, by decide, rfl, bw⟩
          · have e4 : ((on : Int) % 4 != 0) = true := by rw [bne_iff_ne]; exact h4
            clear h h2 h4
            go_enter Try.func56, Try.ntmps56
            go_wp2
            go_ret
            exact ⟨42, by decide, rfl, bw⟩
        · have e3 : (40 : Int) < (on : Int) := by omega
          clear h h2 h3
          go_enter Try.func56, Try.ntmps56
          go_wp2
          go_ret
          exact ⟨42, by decide, rfl, bw⟩
      · have e2 : (off % 8 != 0) = true := by rw [bne_iff_ne]; exact h2
        clear h h2
        go_enter Try.func56, Try.ntmps56
        go_wp2
        go_ret
        exact ⟨91, by decide, rfl, bw⟩

set_option maxRecDepth 100000 in
set_option maxHeartbeats 1000000 in
theorem frag_any (tos id : Nat) (df mf : Bool) (off : Nat) (ttl proto src dst : Nat) (oa : Option Addr) (on oc : Nat) (da : Option Addr) (dn dc : Nat) (w : World) (h : off ≤ 65528) :
    Calls Try.prog 58 #[.agg (ipV tos id df mf off ttl proto src dst oa on oc da dn dc)] w fun e w' => e = .returned (.int .u64 (ipFw off df mf : Nat)) ∧ Below w.heap.size w w' := by
  have bw := (Below.refl _ w).alloc (Nat.le_refl _) (.cells (ipV tos id df mf off ttl proto src dst oa on oc da dn dc) 27)
  have hx : off / 8 < 8192 := by omega
  have e1 : (off : Int) / 8 = ((off / 8 : Nat) : Int) := rfl
  have e2 : IntKind.u64.wrap ((off / 8 : Nat) : Int) = ((off / 8 : Nat) : Int) := IntWalk.u64_in _ (by omega)
  have o1 := or_df (off / 8) (by omega)
  have o2 := or_mf (off / 8) (by omega)
  have o3 := or_dfmf (off / 8) (by omega)
  have f1 : ipFw off true true = off / 8 + 16384 + 8192 := rfl
  have f2 : ipFw off true false = off / 8 + 16384 := rfl
  have f3 : ipFw off false true = off / 8 + 8192 := rfl
  have f4 : ipFw off false false = off / 8 := rfl
  have F1 := Lib.hid f1
  have F2 := Lib.hid f2
  have F3 := Lib.hid f3
  have F4 := Lib.hid f4
  clear f1 f2 f3 f4
  have hoff := Lib.hid h
  clear h
  generalize off / 8 = x at *
  cases df <;> cases mf
  all_goals
    first | rw [F1.out] | rw [F2.out] | rw [F3.out] | rw [F4.out]
    clear F1 F2 F3 F4
    go_enter Try.func58, Try.ntmps58
    go_wp2
    go_ret
    exact ⟨rfl, bw⟩
end Go.Proofs.Ytpdlmgafkjmjpaa
