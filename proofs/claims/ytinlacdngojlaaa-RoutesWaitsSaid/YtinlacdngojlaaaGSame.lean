/- Two lists of octets compared; a copy. -/
import Derived.Test.YtinlacdngojlaaaGBts
import Derived.WalkSpells
import Derived.WalkLawsBesides
import Derived.PlainAid
import Derived.WalkSmall
import Derived.Deep.AppendSrc
import Derived.LoopN
namespace Go.Proofs.Ytinlacdngojlaaa
open Go.RowKit

/-- Two rows of octets compared. -/
def SameAns (xs ys : List Nat) (w : World) (e : Ending) (w' : World) : Prop := e = .returned (.bool (decide (xs = ys))) ∧ Below w.heap.size w w'

set_option maxHeartbeats 400000 in
theorem same_any (a c : Option Addr) (xs ys : List Nat) (cap dap : Nat) (w : World) (hx : Bts w a xs) (hy : Bts w c ys) (hxl : xs.length ≤ 9223372036854775807) (hyl : ys.length ≤ 9223372036854775807) :
    Calls Try.prog 28 #[.slice a xs.length cap, .slice c ys.length dap] w (SameAns xs ys w) := by
  by_cases hl : xs.length = ys.length
  · have hl1 : ((xs.length : Int) == (ys.length : Int)) = true := by rw [beq_iff_eq]; omega
    have hl2 : ((xs.length : Int) != (ys.length : Int)) = false := by rw [bne_eq_false_iff_eq]; omega
    have Hl := Lib.hid hl; clear hl
    have Hx := Lib.hid hx; clear hx
    have Hy := Lib.hid hy; clear hy
    go_enter Try.func28, Try.ntmps28
    go_wp2
    go_loopw [5] (fun i wr => ∃ k : Nat, k ≤ xs.length ∧ i = .int .i64 k ∧ xs.take k = ys.take k ∧ ∃ q, wr = w.drewN q) (fun i _ => xs.length - (intOf i).toNat)
    case atStart => exact ⟨0, by omega, rfl, rfl, 0, rfl⟩
    case round =>
      obtain ⟨k, hk, rfl, htk, q, rfl⟩ := hrel
      have Htk := Lib.hid htk; clear htk
      by_cases hlt : k < xs.length
      · have hlt2 : k < ys.length := by have := Hl.out; omega
        obtain ⟨b, off, rfl, hb, hcx⟩ : ∃ b off, a = some ⟨b, off, none⟩ ∧ b < w.heap.size ∧ ∀ i, i < xs.length → w.cell? ⟨b, off + i, none⟩ = some (.int .u8 (xs.getD i 0 : Nat)) := by
          rcases Hx.out.2 with h | h
          · subst h; simp at hlt
          · exact h
        obtain ⟨b2, off2, rfl, hb2, hcy⟩ : ∃ b off, c = some ⟨b, off, none⟩ ∧ b < w.heap.size ∧ ∀ i, i < ys.length → w.cell? ⟨b, off + i, none⟩ = some (.int .u8 (ys.getD i 0 : Nat)) := by
          rcases Hy.out.2 with h | h
          · subst h; simp at hlt2
          · exact h
        have g1 := hcx k hlt
        have g2 := hcy k hlt2
        have h1 := Mt.take_snoc xs k hlt
        have h2 := Mt.take_snoc ys k hlt2
        generalize xs.getD k 0 = x at g1 h1
        generalize ys.getD k 0 = y at g2 h2
        have H1 := Lib.hid h1; clear h1
        have H2 := Lib.hid h2; clear h2
        clear hcx hcy Hx Hy
        have i1 : (k : Int) < (xs.length : Int) := by omega
        have i2 : (k : Int) < (ys.length : Int) := by omega
        by_cases hxy : x = y
        · subst hxy
          go_wp2
          go_quiet (fail)
          go_wp2
          go_roundw
          case rel => exact ⟨k + 1, by omega, by go_num, by rw [H1.out, H2.out, Htk.out], _, rfl⟩
          case measure => simp [intOf]; omega
        · have hne1 : ((x : Int) != (y : Int)) = true := by rw [bne_iff_ne]; omega
          go_wp2
          go_quiet (fail)
          go_wp2
          go_ret
          refine ⟨?_, below_drewN (below_drewN (Below.refl _ _) _) _⟩
          have hno : ¬ xs = ys := by
            intro h
            subst h
            have h12 := H1.out.symm.trans H2.out
            have := List.append_cancel_left h12
            simp at this
            exact hxy this
          rw [decide_eq_false hno]; rfl
      · obtain rfl : k = xs.length := by omega
        go_wp2
        go_ret
        refine ⟨?_, below_drewN (Below.refl _ _) _⟩
        have hyes : xs = ys := by
          have h := Htk.out
          rw [List.take_length, Hl.out, List.take_length] at h
          exact h
        rw [decide_eq_true hyes]; rfl
  · have hl2 : ((xs.length : Int) != (ys.length : Int)) = true := by rw [bne_iff_ne]; omega
    have Hl := Lib.hid hl; clear hl
    clear hx hy
    go_enter Try.func28, Try.ntmps28
    go_wp2
    go_ret
    refine ⟨?_, Below.refl _ _⟩
    have hno : ¬ xs = ys := fun h => Hl.out (by rw [h])
    rw [decide_eq_false hno]; rfl
end Go.Proofs.Ytinlacdngojlaaa
