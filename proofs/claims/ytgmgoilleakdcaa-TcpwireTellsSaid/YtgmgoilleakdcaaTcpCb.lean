/- What tcpwire.Check tells of a segment that may not be, ahead of its options. -/
import Derived.Test.YtgmgoilleakdcaaTcpO
namespace Go.Proofs.Ytgmgoilleakdcaa
open Go.RowKit

/-- A number out of its range, a number without its mark, or too many blocks. -/
def TcpNot (mss : Int) (hs : Bool) (sc : Int) (bn : Nat) (ht : Bool) (tv te : Nat) : Prop :=
  mss < 0 ∨ 65535 < mss ∨ sc < 0 ∨ 255 < sc ∨ (hs = false ∧ sc ≠ 0) ∨ (ht = false ∧ (tv ≠ 0 ∨ te ≠ 0)) ∨ 4 < bn

set_option maxRecDepth 100000 in
set_option maxHeartbeats 4000000 in
theorem tcheck_not (sp dp sq ak fl wn ur : Nat) (mss : Int) (hs : Bool) (sc : Int) (sk : Bool) (ba : Option Addr) (bn bc : Nat) (ht : Bool) (tv te : Nat) (da : Option Addr) (dn dc : Nat) (w : World) (h : TcpNot mss hs sc bn ht tv te) :
    Calls Try.prog 15 #[.agg (tcpV sp dp sq ak fl wn ur mss hs sc sk ba bn bc ht tv te da dn dc)] w fun e w' => (∃ n : Int, n ≠ 0 ∧ e = .returned (.int .i64 n)) ∧ Below w.heap.size w w' := by
  have bw := (Below.refl _ w).alloc (Nat.le_refl _) (.cells (tcpV sp dp sq ak fl wn ur mss hs sc sk ba bn bc ht tv te da dn dc) 27)
  unfold tcpV at *
  by_cases h1 : mss < 0
  · clear h
    go_enter Try.func15, Try.ntmps15
    go_wp2
    go_ret
    exact ⟨⟨4, by decide, rfl⟩, bw⟩
  · by_cases h2 : 65535 < mss
    · clear h
      go_enter Try.func15, Try.ntmps15
      go_wp2
      go_ret
      exact ⟨⟨4, by decide, rfl⟩, bw⟩
    · by_cases h3 : sc < 0
      · clear h
        go_enter Try.func15, Try.ntmps15
        go_wp2
        go_ret
        exact ⟨⟨4, by decide, rfl⟩, bw⟩
      · by_cases h4 : 255 < sc
        · clear h
          go_enter Try.func15, Try.ntmps15
          go_wp2
          go_ret
          exact ⟨⟨4, by decide, rfl⟩, bw⟩
        · have h' : (hs = false ∧ sc ≠ 0) ∨ (ht = false ∧ (tv ≠ 0 ∨ te ≠ 0)) ∨ 4 < bn := by
            rcases h with h | h | h | h | h
            · exact absurd h h1
            · exact absurd h h2
            · exact absurd h h3
            · exact absurd h h4
            · exact h
          clear h
          cases e5 : (!hs && sc != 0) with
          | true =>
            simp at e5
            obtain ⟨rfl, e5⟩ := e5
            have e5' : (sc != 0) = true := by rw [bne_iff_ne]; exact e5
            clear h' e5
            go_enter Try.func15, Try.ntmps15
            go_wp2
            go_ret
            exact ⟨⟨4, by decide, rfl⟩, bw⟩
          | false =>
            have hsc : hs = true ∨ (hs = false ∧ sc = 0) := by
              cases hs with
              | true => exact .inl rfl
              | false => exact .inr ⟨rfl, by simpa using e5⟩
            have hr : (ht = false ∧ tv ≠ 0) ∨ (ht = false ∧ tv = 0 ∧ te ≠ 0) ∨ (4 < bn ∧ ht = true) ∨ (4 < bn ∧ ht = false ∧ tv = 0 ∧ te = 0) := by
              rcases h' with ⟨rfl, h⟩ | ⟨rfl, h⟩ | h
              · rcases hsc with h0 | ⟨_, h0⟩
                · cases h0
                · exact absurd h0 h
              · by_cases h0 : tv = 0
                · exact .inr (.inl ⟨rfl, h0, h.resolve_left (fun q => q h0)⟩)
                · exact .inl ⟨rfl, h0⟩
              · cases ht with
                | true => exact .inr (.inr (.inl ⟨h, rfl⟩))
                | false =>
                  by_cases h0 : tv = 0
                  · by_cases h9 : te = 0
                    · exact .inr (.inr (.inr ⟨h, rfl, h0, h9⟩))
                    · exact .inr (.inl ⟨rfl, h0, h9⟩)
                  · exact .inl ⟨rfl, h0⟩
            clear h' e5
            rcases hsc with rfl | ⟨rfl, rfl⟩
            · rcases hr with ⟨rfl, q⟩ | ⟨rfl, rfl, q⟩ | ⟨q, rfl⟩ | ⟨q, rfl, rfl, rfl⟩
              · have q2 : ((tv : Int) != 0) = true := by rw [bne_iff_ne]; omega
                clear q
                go_enter Try.func15, Try.ntmps15
                go_wp2
                go_ret
                exact ⟨⟨4, by decide, rfl⟩, bw⟩
              · have q2 : ((te : Int) != 0) = true := by rw [bne_iff_ne]; omega
                clear q
                go_enter Try.func15, Try.ntmps15
                go_wp2
                go_ret
                exact ⟨⟨4, by decide, rfl⟩, bw⟩
              · have q2 : (4 : Int) < (bn : Int) := by omega
                clear q
                go_enter Try.func15, Try.ntmps15
                go_wp2
                go_ret
                exact ⟨⟨3, by decide, rfl⟩, bw⟩
              · have q2 : (4 : Int) < (bn : Int) := by omega
                clear q
                go_enter Try.func15, Try.ntmps15
                go_wp2
                go_ret
                exact ⟨⟨3, by decide, rfl⟩, bw⟩
            · rcases hr with ⟨rfl, q⟩ | ⟨rfl, rfl, q⟩ | ⟨q, rfl⟩ | ⟨q, rfl, rfl, rfl⟩
              · have q2 : ((tv : Int) != 0) = true := by rw [bne_iff_ne]; omega
                clear q
                go_enter Try.func15, Try.ntmps15
                go_wp2
                go_ret
                exact ⟨⟨4, by decide, rfl⟩, bw⟩
              · have q2 : ((te : Int) != 0) = true := by rw [bne_iff_ne]; omega
                clear q
                go_enter Try.func15, Try.ntmps15
                go_wp2
                go_ret
                exact ⟨⟨4, by decide, rfl⟩, bw⟩
              · have q2 : (4 : Int) < (bn : Int) := by omega
                clear q
                go_enter Try.func15, Try.ntmps15
                go_wp2
                go_ret
                exact ⟨⟨3, by decide, rfl⟩, bw⟩
              · have q2 : (4 : Int) < (bn : Int) := by omega
                clear q
                go_enter Try.func15, Try.ntmps15
                go_wp2
                go_ret
                exact ⟨⟨3, by decide, rfl⟩, bw⟩
end Go.Proofs.Ytgmgoilleakdcaa
