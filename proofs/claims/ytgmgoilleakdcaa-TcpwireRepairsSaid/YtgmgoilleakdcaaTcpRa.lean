/- Tcpwire's document: word, fits, one option. -/
import Derived.Test.YtgmgoilleakdcaaTcpAll
import Derived.Test.YtgmgoilleakdcaaGNum
import Derived.Deep.RegionLaw
import Derived.Deep.RegionWith
import Derived.StillTailTactics
namespace Go.Proofs.Ytgmgoilleakdcaa
open Go.RowKit

/-- Results of which the first lies in a box: a segment; alone, or with a number. -/
theorem results_tcp1 {fn : Func} {i : Nat} (hr : fn.results = #[.cell i 27]) (tmps : Array Value) (w : World) (g : Nat) (cs : Array Value) (h6 : tmps.getD i undef = .pointer (some ⟨g, 0, none⟩)) (hb : TcpAt w g cs) (hs : cs.size = 16) :
    (results fn tmps).run Try.prog w = .ok (.agg cs) w := by
  have hl := run_loadVar_mid (P := Try.prog) w g 0 27 cs.toList _ hb.range Try.underlying27 rfl (by rw [tcp_size]; simp [hs])
  rw [Array.getD_eq_getD_getElem?] at h6
  rw [Array.toArray_toList] at hl
  simp [results, hr, h6, asAddr, hl]
theorem results_tcp2 {fn : Func} {i j : Nat} (hr : fn.results = #[.cell i 27, .tmp j]) (tmps : Array Value) (w : World) (g : Nat) (cs : Array Value) (v : Value) (h6 : tmps.getD i undef = .pointer (some ⟨g, 0, none⟩)) (h7 : tmps.getD j undef = v) (hb : TcpAt w g cs) (hs : cs.size = 16) :
    (results fn tmps).run Try.prog w = .ok (.tuple #[.agg cs, v]) w := by
  have hl := run_loadVar_mid (P := Try.prog) w g 0 27 cs.toList _ hb.range Try.underlying27 rfl (by rw [tcp_size]; simp [hs])
  rw [Array.getD_eq_getD_getElem?] at h6 h7
  rw [Array.toArray_toList] at hl
  simp [results, hr, h6, h7, asAddr, hl]
set_option maxHeartbeats 400000 in
theorem rword_any (a : Option Addr) (xs : List Nat) (cap : Nat) (w : World) (h : Bts w a xs) (hl : xs.length ≤ 4) :
    Calls Try.prog 34 #[.slice a xs.length cap] w fun e w' => e = .returned (.int .u32 (Mt.numOf xs : Nat)) ∧ w = w' := by
  have hn := Lib.hid (number_any a xs cap w h (by omega))
  have hb : Mt.numOf xs < 4294967296 := by
    have h1 := Mt.numOf_lt xs h.1
    have h2 : 256 ^ xs.length ≤ 256 ^ 4 := Nat.pow_le_pow_right (by decide) hl
    omega
  obtain ⟨v, hv⟩ : ∃ v, Mt.numOf xs = v := ⟨_, rfl⟩
  rw [hv] at hn hb ⊢
  have W : IntKind.u32.wrap (v : Int) = (v : Int) := by rw [IntKind.wrap_u32]; omega
  clear h hv
  go_enter Try.func34, Try.ntmps34
  go_wp2_with (first | (go_at_call 45; refine hn.out.mono ?_; rintro e w' ⟨rfl, rfl⟩) | fail)
  go_ret
  exact ⟨rfl, rfl⟩
set_option maxHeartbeats 1000000 in
theorem rfits_any (k n : Nat) (w : World) : Calls Try.prog 46 #[.int .u8 (k : Nat), .int .i64 (n : Nat)] w fun e w' => e = .returned (.bool (tcpFits k n)) ∧ w = w' := by
  unfold tcpFits
  by_cases k2 : k = 2
  case pos =>
    subst k2
    rw [if_pos rfl, ← beq_nat n 4]
    go_enter Try.func46, Try.ntmps46
    go_wp2
    go_ret
    exact ⟨rfl, rfl⟩
  case neg =>
  have q2 : ((k : Int) == 2) = false := by rw [beq_eq_false_iff_ne]; omega
  rw [if_neg k2]
  by_cases k3 : k = 3
  case pos =>
    subst k3
    rw [if_pos rfl, ← beq_nat n 3]
    go_enter Try.func46, Try.ntmps46
    go_wp2
    go_ret
    exact ⟨rfl, rfl⟩
  case neg =>
  have q3 : ((k : Int) == 3) = false := by rw [beq_eq_false_iff_ne]; omega
  rw [if_neg k3]
  by_cases k4 : k = 4
  case pos =>
    subst k4
    rw [if_pos rfl, ← beq_nat n 2]
    go_enter Try.func46, Try.ntmps46
    go_wp2
    go_ret
    exact ⟨rfl, rfl⟩
  case neg =>
  have q4 : ((k : Int) == 4) = false := by rw [beq_eq_false_iff_ne]; omega
  rw [if_neg k4]
  by_cases k8 : k = 8
  case pos =>
    subst k8
    rw [if_pos rfl, ← beq_nat n 10]
    go_enter Try.func46, Try.ntmps46
    go_wp2
    go_ret
    exact ⟨rfl, rfl⟩
  case neg =>
  have q8 : ((k : Int) == 8) = false := by rw [beq_eq_false_iff_ne]; omega
  rw [if_neg k8]
  by_cases k5 : k = 5
  case pos =>
    subst k5
    rw [if_pos rfl]
    by_cases n10 : n = 10
    case pos =>
      subst n10
      go_enter Try.func46, Try.ntmps46
      go_wp2
      go_ret
      exact ⟨rfl, rfl⟩
    case neg =>
    have m10 : ((n : Int) == 10) = false := by rw [beq_eq_false_iff_ne]; omega
    by_cases n18 : n = 18
    case pos =>
      subst n18
      go_enter Try.func46, Try.ntmps46
      go_wp2
      go_ret
      exact ⟨rfl, rfl⟩
    case neg =>
    have m18 : ((n : Int) == 18) = false := by rw [beq_eq_false_iff_ne]; omega
    by_cases n26 : n = 26
    case pos =>
      subst n26
      go_enter Try.func46, Try.ntmps46
      go_wp2
      go_ret
      exact ⟨rfl, rfl⟩
    case neg =>
    have m26 : ((n : Int) == 26) = false := by rw [beq_eq_false_iff_ne]; omega
    have p10 : (n == 10) = false := by rw [beq_eq_false_iff_ne]; exact n10
    have p18 : (n == 18) = false := by rw [beq_eq_false_iff_ne]; exact n18
    have p26 : (n == 26) = false := by rw [beq_eq_false_iff_ne]; exact n26
    rw [p10, p18, p26, ← beq_nat n 34]
    simp only [Bool.false_or]
    clear p10 p18 p26 n10 n18 n26
    go_enter Try.func46, Try.ntmps46
    go_wp2
    go_ret
    exact ⟨rfl, rfl⟩
  case neg =>
  have q5 : ((k : Int) == 5) = false := by rw [beq_eq_false_iff_ne]; omega
  rw [if_neg k5]
  go_enter Try.func46, Try.ntmps46
  go_wp2
  go_ret
  exact ⟨rfl, rfl⟩
end Go.Proofs.Ytgmgoilleakdcaa
