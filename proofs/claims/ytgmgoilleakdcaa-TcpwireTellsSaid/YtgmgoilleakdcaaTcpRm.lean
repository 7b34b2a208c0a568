/- What Check tells of a segment that may not be, ahead of its options: the code 4 of a number, 3 of too many blocks; the program's and the document's. -/
import Derived.Test.YtgmgoilleakdcaaTcpO
namespace Go.Proofs.Ytgmgoilleakdcaa
open Go.RowKit

/-- A number out of its range, or a number without its mark. -/
def TcpNot4 (mss : Int) (hs : Bool) (sc : Int) (ht : Bool) (tv te : Nat) : Prop :=
  mss < 0 ∨ 65535 < mss ∨ sc < 0 ∨ 255 < sc ∨ (hs = false ∧ sc ≠ 0) ∨ (ht = false ∧ (tv ≠ 0 ∨ te ≠ 0))

set_option maxRecDepth 100000 in
set_option maxHeartbeats 4000000 in
theorem tcheck_n4 (sp dp sq ak fl wn ur : Nat) (mss : Int) (hs : Bool) (sc : Int) (sk : Bool) (ba : Option Addr) (bn bc : Nat) (ht : Bool) (tv te : Nat) (da : Option Addr) (dn dc : Nat) (w : World) (h : TcpNot4 mss hs sc ht tv te) :
    Calls Try.prog 15 #[.agg (tcpV sp dp sq ak fl wn ur mss hs sc sk ba bn bc ht tv te da dn dc)] w fun e w' => e = .returned (.int .i64 4) ∧ Below w.heap.size w w' := by
  have bw := (Below.refl _ w).alloc (Nat.le_refl _) (.cells (tcpV sp dp sq ak fl wn ur mss hs sc sk ba bn bc ht tv te da dn dc) 27)
  unfold tcpV at *
  by_cases h1 : mss < 0
  · clear h
    go_enter Try.func15, Try.ntmps15
    go_wp2
    go_ret
    exact ⟨rfl, bw⟩
  by_cases h2 : 65535 < mss
  · clear h
    go_enter Try.func15, Try.ntmps15
    go_wp2
    go_ret
    exact ⟨rfl, bw⟩
  by_cases h3 : sc < 0
  · clear h
    go_enter Try.func15, Try.ntmps15
    go_wp2
    go_ret
    exact ⟨rfl, bw⟩
  by_cases h4 : 255 < sc
  · clear h
    go_enter Try.func15, Try.ntmps15
    go_wp2
    go_ret
    exact ⟨rfl, bw⟩
  have h' : (hs = false ∧ sc ≠ 0) ∨ (ht = false ∧ (tv ≠ 0 ∨ te ≠ 0)) := by
    rcases h with h | h | h | h | h
    · exact absurd h h1
    · exact absurd h h2
    · exact absurd h h3
    · exact absurd h h4
    · exact h
  clear h
  by_cases h5 : hs = false ∧ sc ≠ 0
  · obtain ⟨rfl, e5⟩ := h5
    have e5' : (sc != 0) = true := by rw [bne_iff_ne]; exact e5
    clear h' e5
    go_enter Try.func15, Try.ntmps15
    go_wp2
    go_ret
    exact ⟨rfl, bw⟩
  have hsc : hs = true ∨ (hs = false ∧ sc = 0) := by
    cases hs with
    | true => exact .inl rfl
    | false => exact .inr ⟨rfl, by by_cases z : sc = 0; exact z; exact absurd ⟨rfl, z⟩ h5⟩
  obtain ⟨rfl, h6⟩ := h'.resolve_left h5
  clear h' h5
  by_cases h7 : tv = 0
  · subst h7
    have q2 : ((te : Int) != 0) = true := by rw [bne_iff_ne]; have := h6.resolve_left (fun q => q rfl); omega
    clear h6
    rcases hsc with rfl | ⟨rfl, rfl⟩
    all_goals
      go_enter Try.func15, Try.ntmps15
      go_wp2
      go_ret
      exact ⟨rfl, bw⟩
  · have q2 : ((tv : Int) != 0) = true := by rw [bne_iff_ne]; omega
    clear h6 h7
    rcases hsc with rfl | ⟨rfl, rfl⟩
    all_goals
      go_enter Try.func15, Try.ntmps15
      go_wp2
      go_ret
      exact ⟨rfl, bw⟩
set_option maxRecDepth 100000 in
set_option maxHeartbeats 4000000 in
theorem tcheck_n3 (sp dp sq ak fl wn ur : Nat) (mss : Int) (hs : Bool) (sc : Int) (sk : Bool) (ba : Option Addr) (bn bc : Nat) (ht : Bool) (tv te : Nat) (da : Option Addr) (dn dc : Nat) (w : World) (h : ¬ TcpNot4 mss hs sc ht tv te) (hb : 4 < bn) :
    Calls Try.prog 15 #[.agg (tcpV sp dp sq ak fl wn ur mss hs sc sk ba bn bc ht tv te da dn dc)] w fun e w' => e = .returned (.int .i64 3) ∧ Below w.heap.size w w' := by
  have bw := (Below.refl _ w).alloc (Nat.le_refl _) (.cells (tcpV sp dp sq ak fl wn ur mss hs sc sk ba bn bc ht tv te da dn dc) 27)
  unfold tcpV at *
  have n1 : ¬ mss < 0 := fun q => h (.inl q)
  have n2 : ¬ 65535 < mss := fun q => h (.inr (.inl q))
  have n3 : ¬ sc < 0 := fun q => h (.inr (.inr (.inl q)))
  have n4 : ¬ 255 < sc := fun q => h (.inr (.inr (.inr (.inl q))))
  have hsc : hs = true ∨ (hs = false ∧ sc = 0) := by
    cases hs with
    | true => exact .inl rfl
    | false => exact .inr ⟨rfl, by by_cases z : sc = 0; exact z; exact absurd (.inr (.inr (.inr (.inr (.inl ⟨rfl, z⟩))))) h⟩
  have hts : ht = true ∨ (ht = false ∧ tv = 0 ∧ te = 0) := by
    cases ht with
    | true => exact .inl rfl
    | false =>
      refine .inr ⟨rfl, ?_, ?_⟩
      · by_cases z : tv = 0
        · exact z
        · exact absurd (.inr (.inr (.inr (.inr (.inr ⟨rfl, .inl z⟩))))) h
      · by_cases z : te = 0
        · exact z
        · exact absurd (.inr (.inr (.inr (.inr (.inr ⟨rfl, .inr z⟩))))) h
  have q2 : (4 : Int) < (bn : Int) := by omega
  clear h hb
  rcases hsc with rfl | ⟨rfl, rfl⟩ <;> rcases hts with rfl | ⟨rfl, rfl, rfl⟩
  all_goals
    go_enter Try.func15, Try.ntmps15
    go_wp2
    go_ret
    exact ⟨rfl, bw⟩
set_option maxRecDepth 100000 in
set_option maxHeartbeats 4000000 in
theorem rcheck_n4 (sp dp sq ak fl wn ur : Nat) (mss : Int) (hs : Bool) (sc : Int) (sk : Bool) (ba : Option Addr) (bn bc : Nat) (ht : Bool) (tv te : Nat) (da : Option Addr) (dn dc : Nat) (w : World) (h : TcpNot4 mss hs sc ht tv te) :
    Calls Try.prog 16 #[.agg (tcpV sp dp sq ak fl wn ur mss hs sc sk ba bn bc ht tv te da dn dc)] w fun e w' => e = .returned (.int .i64 4) ∧ Below w.heap.size w w' := by
  have bw := (Below.refl _ w).alloc (Nat.le_refl _) (.cells (tcpV sp dp sq ak fl wn ur mss hs sc sk ba bn bc ht tv te da dn dc) 27)
  unfold tcpV at *
  by_cases h1 : mss < 0
  · clear h
    go_enter Try.func16, Try.ntmps16
    go_wp2
    go_ret
    exact ⟨rfl, bw⟩
  by_cases h2 : 65535 < mss
  · clear h
    go_enter Try.func16, Try.ntmps16
    go_wp2
    go_ret
    exact ⟨rfl, bw⟩
  by_cases h3 : sc < 0
  · clear h
    go_enter Try.func16, Try.ntmps16
    go_wp2
    go_ret
    exact ⟨rfl, bw⟩
  by_cases h4 : 255 < sc
  · clear h
    go_enter Try.func16, Try.ntmps16
    go_wp2
    go_ret
    exact ⟨rfl, bw⟩
  have h' : (hs = false ∧ sc ≠ 0) ∨ (ht = false ∧ (tv ≠ 0 ∨ te ≠ 0)) := by
    rcases h with h | h | h | h | h
    · exact absurd h h1
    · exact absurd h h2
    · exact absurd h h3
    · exact absurd h h4
    · exact h
  clear h
  by_cases h5 : hs = false ∧ sc ≠ 0
  · obtain ⟨rfl, e5⟩ := h5
    have e5' : (sc != 0) = true := by rw [bne_iff_ne]; exact e5
    clear h' e5
    go_enter Try.func16, Try.ntmps16
    go_wp2
    go_ret
    exact ⟨rfl, bw⟩
  have hsc : hs = true ∨ (hs = false ∧ sc = 0) := by
    cases hs with
    | true => exact .inl rfl
    | false => exact .inr ⟨rfl, by by_cases z : sc = 0; exact z; exact absurd ⟨rfl, z⟩ h5⟩
  obtain ⟨rfl, h6⟩ := h'.resolve_left h5
  clear h' h5
  by_cases h7 : tv = 0
  · subst h7
    have q2 : ((te : Int) != 0) = true := by rw [bne_iff_ne]; have := h6.resolve_left (fun q => q rfl); omega
    clear h6
    rcases hsc with rfl | ⟨rfl, rfl⟩
    all_goals
      go_enter Try.func16, Try.ntmps16
      go_wp2
      go_ret
      exact ⟨rfl, bw⟩
  · have q2 : ((tv : Int) != 0) = true := by rw [bne_iff_ne]; omega
    clear h6 h7
    rcases hsc with rfl | ⟨rfl, rfl⟩
    all_goals
      go_enter Try.func16, Try.ntmps16
      go_wp2
      go_ret
      exact ⟨rfl, bw⟩
set_option maxRecDepth 100000 in
set_option maxHeartbeats 4000000 in
theorem rcheck_n3 (sp dp sq ak fl wn ur : Nat) (mss : Int) (hs : Bool) (sc : Int) (sk : Bool) (ba : Option Addr) (bn bc : Nat) (ht : Bool) (tv te : Nat) (da : Option Addr) (dn dc : Nat) (w : World) (h : ¬ TcpNot4 mss hs sc ht tv te) (hb : 4 < bn) :
    Calls Try.prog 16 #[.agg (tcpV sp dp sq ak fl wn ur mss hs sc sk ba bn bc ht tv te da dn dc)] w fun e w' => e = .returned (.int .i64 3) ∧ Below w.heap.size w w' := by
  have bw := (Below.refl _ w).alloc (Nat.le_refl _) (.cells (tcpV sp dp sq ak fl wn ur mss hs sc sk ba bn bc ht tv te da dn dc) 27)
  unfold tcpV at *
  have n1 : ¬ mss < 0 := fun q => h (.inl q)
  have n2 : ¬ 65535 < mss := fun q => h (.inr (.inl q))
  have n3 : ¬ sc < 0 := fun q => h (.inr (.inr (.inl q)))
  have n4 : ¬ 255 < sc := fun q => h (.inr (.inr (.inr (.inl q))))
  have hsc : hs = true ∨ (hs = false ∧ sc = 0) := by
    cases hs with
    | true => exact .inl rfl
    | false => exact .inr ⟨rfl, by by_cases z : sc = 0; exact z; exact absurd (.inr (.inr (.inr (.inr (.inl ⟨rfl, z⟩))))) h⟩
  have hts : ht = true ∨ (ht = false ∧ tv = 0 ∧ te = 0) := by
    cases ht with
    | true => exact .inl rfl
    | false =>
      refine .inr ⟨rfl, ?_, ?_⟩
      · by_cases z : tv = 0
        · exact z
        · exact absurd (.inr (.inr (.inr (.inr (.inr ⟨rfl, .inl z⟩))))) h
      · by_cases z : te = 0
        · exact z
        · exact absurd (.inr (.inr (.inr (.inr (.inr ⟨rfl, .inr z⟩))))) h
  have q2 : (4 : Int) < (bn : Int) := by omega
  clear h hb
  rcases hsc with rfl | ⟨rfl, rfl⟩ <;> rcases hts with rfl | ⟨rfl, rfl, rfl⟩
  all_goals
    go_enter Try.func16, Try.ntmps16
    go_wp2
    go_ret
    exact ⟨rfl, bw⟩
end Go.Proofs.Ytgmgoilleakdcaa
