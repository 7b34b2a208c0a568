/- Octets laid by hand with options: what Parse reads. -/
import Derived.Test.YtgmgoilleakdcaaTcpAll
import Derived.Test.YtgmgoilleakdcaaTcpOp
namespace Go.Proofs.Ytgmgoilleakdcaa
open Go.RowKit

theorem bts_take {w : World} {a : Option Addr} {xs : List Nat} (h : Bts w a xs) (m : Nat) : Bts w a (xs.take m) := by
  refine ⟨fun x hx => h.1 x (List.mem_of_mem_take hx), ?_⟩
  rcases h.2 with h0 | ⟨b, off, e, hb, hc⟩
  · subst h0; exact .inl (by simp)
  · refine .inr ⟨b, off, e, hb, fun i hi => ?_⟩
    rw [List.length_take] at hi
    rw [hc i (by omega)]
    have h9 : i < m := by omega
    simp [h9]
theorem rep_set (X : Nat) (O : List Nat) : ((List.replicate 20 0).set 12 X ++ O) = 0 :: 0 :: 0 :: 0 :: 0 :: 0 :: 0 :: 0 :: 0 :: 0 :: 0 :: 0 :: X :: 0 :: 0 :: 0 :: 0 :: 0 :: 0 :: 0 :: O := rfl
/-- What Parse reads of them. -/
theorem op_read (O : List Nat) (hO : ∀ x ∈ O, x < 256) (hl : O.length ≤ 28) (h4 : O.length % 4 = 0) (X : Nat) (hX : X = (5 + O.length / 4) * 16) (s : TOpt) (hs : tOpts (O.length + 1) O [] tOpt0 = some s) (C : Nat) (hC : C = 65535 - tcpSum ((List.replicate 20 0).set 12 X ++ O) 1 2) (H : List Nat) (hH : H = ((((List.replicate 20 0).set 12 X ++ O).set 16 (C / 256)).set 17 (C % 256))) :
    TcpOk H 1 2 ∧ tRead H = some s ∧ H.drop (tHd H) = [] ∧ H.length = 20 + O.length ∧ (∀ x ∈ H, x < 256) := by
  have hX2 : X < 256 := by omega
  have hx : ∀ x ∈ (List.replicate 20 0).set 12 X ++ O, x < 256 := by
    intro x hx
    rcases List.mem_append.1 hx with h | h
    · rcases List.mem_or_eq_of_mem_set h with h | h
      · have := (List.mem_replicate.1 h).2; omega
      · omega
    · exact hO x h
  have hfix := tcp_fix _ hx (by simp) rfl rfl 1 2 (by decide) (by decide) C hC
  rw [← hH] at hfix
  have hC2 : C ≤ 65535 := by rw [hC]; omega
  have hHx : ∀ x ∈ H, x < 256 := by rw [hH]; exact Mt.set_lt _ (Mt.set_lt _ hx 16 _ (by omega)) 17 _ (by omega)
  have hHe : H = 0 :: 0 :: 0 :: 0 :: 0 :: 0 :: 0 :: 0 :: 0 :: 0 :: 0 :: 0 :: X :: 0 :: 0 :: 0 :: (C / 256) :: (C % 256) :: 0 :: 0 :: O := by rw [hH, rep_set]; rfl
  have hlen : H.length = 20 + O.length := by rw [hHe]; simp only [List.length_cons]; omega
  have h12 : H.getD 12 0 = X := by rw [hHe]; rfl
  have hhd : tHd H = 20 + O.length := by unfold tHd; rw [h12, hX]; omega
  have hos : tOs H = O := by
    unfold tOs
    rw [hhd, Nat.add_sub_cancel_left]
    unfold seg
    rw [hHe]
    show (O : List Nat).take O.length = O
    exact List.take_length
  refine ⟨⟨by omega, by omega, by omega, by omega, hfix⟩, ?_, ?_, hlen, hHx⟩
  · unfold tRead; rw [hos]; exact hs
  · rw [hhd, ← hlen]; exact List.drop_length
end Go.Proofs.Ytgmgoilleakdcaa
