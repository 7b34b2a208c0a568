/- An ARP's first eight octets compared as an array. -/
import Derived.Test.YtdiomelldhkibaaGBts
import Derived.DeepKeys
namespace Go.Proofs.Ytdiomelldhkibaa
open Go.RowKit

theorem wf_u8 (x : Nat) (h : x < 256) : (Lit.int .u8 (x : Nat)).wf = true := by
  simp [Lit.wf, IntKind.min, IntKind.max, IntKind.signed, IntKind.bits]
  omega

theorem lit_u8 (x : Nat) (h : x < 256) : Try.prog.keyLits 2 5 [.int .u8 x] = some [.int .u8 x] := by
  unfold Program.keyLits
  rw [Try.underlying5]
  simp [wf_u8 x h]

theorem lits_8 (x0 x1 x2 x3 x4 x5 x6 x7 : Nat) (h0 : x0 < 256) (h1 : x1 < 256) (h2 : x2 < 256) (h3 : x3 < 256) (h4 : x4 < 256) (h5 : x5 < 256) (h6 : x6 < 256) (h7 : x7 < 256) :
    Try.prog.keyLits 3 92 [.int .u8 x0, .int .u8 x1, .int .u8 x2, .int .u8 x3, .int .u8 x4, .int .u8 x5, .int .u8 x6, .int .u8 x7] = some [.int .u8 x0, .int .u8 x1, .int .u8 x2, .int .u8 x3, .int .u8 x4, .int .u8 x5, .int .u8 x6, .int .u8 x7] := by
  have c1 : Try.prog.cellsOf 5 = 1 := by kernel_rfl
  have c8 : Try.prog.cellsOf 92 = 8 := by kernel_rfl
  unfold Program.keyLits
  rw [Try.underlying92]
  simp [c1, c8, lit_u8, h0, h1, h2, h3, h4, h5, h6, h7, show List.range 8 = [0, 1, 2, 3, 4, 5, 6, 7] from rfl]

theorem arp_eq (x0 x1 x2 x3 x4 x5 x6 x7 : Nat) (h0 : x0 < 256) (h1 : x1 < 256) (h2 : x2 < 256) (h3 : x3 < 256) (h4 : x4 < 256) (h5 : x5 < 256) (h6 : x6 < 256) (h7 : x7 < 256) : ∃ E : Bool, (∀ W : World, Sem.run Try.prog (Op.equalIn 10000 92 (.agg #[.int .u8 x0, .int .u8 x1, .int .u8 x2, .int .u8 x3, .int .u8 x4, .int .u8 x5, .int .u8 x6, .int .u8 x7]) (.agg #[.int .u8 0, .int .u8 1, .int .u8 8, .int .u8 0, .int .u8 6, .int .u8 4, .int .u8 0, .int .u8 x7])) W = .ok E W) ∧ (E = true ↔ x0 = 0 ∧ x1 = 1 ∧ x2 = 8 ∧ x3 = 0 ∧ x4 = 6 ∧ x5 = 4 ∧ x6 = 0) := by
  have hk : Try.prog.keyTypeAt 2 92 = true := by kernel_rfl
  refine ⟨decide (x0 = 0 ∧ x1 = 1 ∧ x2 = 8 ∧ x3 = 0 ∧ x4 = 6 ∧ x5 = 4 ∧ x6 = 0), fun W => ?_, by rw [decide_eq_true_iff]⟩
  obtain ⟨r, hr, hiff⟩ := run_equalIn_deep 9998 2 92 hk W 3 3 (.agg #[.int .u8 x0, .int .u8 x1, .int .u8 x2, .int .u8 x3, .int .u8 x4, .int .u8 x5, .int .u8 x6, .int .u8 x7]) (.agg #[.int .u8 0, .int .u8 1, .int .u8 8, .int .u8 0, .int .u8 6, .int .u8 4, .int .u8 0, .int .u8 x7])
    [.int .u8 x0, .int .u8 x1, .int .u8 x2, .int .u8 x3, .int .u8 x4, .int .u8 x5, .int .u8 x6, .int .u8 x7] [.int .u8 0, .int .u8 1, .int .u8 8, .int .u8 0, .int .u8 6, .int .u8 4, .int .u8 0, .int .u8 x7] (by kernel_rfl) (by kernel_rfl) (lits_8 x0 x1 x2 x3 x4 x5 x6 x7 h0 h1 h2 h3 h4 h5 h6 h7) (lits_8 0 1 8 0 6 4 0 x7 (by omega) (by omega) (by omega) (by omega) (by omega) (by omega) (by omega) h7)
  have e : r = decide (x0 = 0 ∧ x1 = 1 ∧ x2 = 8 ∧ x3 = 0 ∧ x4 = 6 ∧ x5 = 4 ∧ x6 = 0) := by
    rw [Bool.eq_iff_iff, hiff, decide_eq_true_iff]
    simp
    omega
  rw [← e]
  exact hr
end Go.Proofs.Ytdiomelldhkibaa
