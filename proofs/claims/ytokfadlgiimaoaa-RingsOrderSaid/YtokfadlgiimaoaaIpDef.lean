/- When octets are a packet's, and what is read of them. -/
import Derived.Test.YtokfadlgiimaoaaIpMath
import Derived.Test.YtokfadlgiimaoaaSumC
import Derived.Test.YtokfadlgiimaoaaGSeg
namespace Go.Proofs.Ytokfadlgiimaoaa
open Go.RowKit

def ipHead (xs : List Nat) : Nat := 4 * (xs.getD 0 0 % 16)
def ipTot (xs : List Nat) : Nat := Mt.numOf (seg xs 2 2)
def ipFr (xs : List Nat) : Nat := Mt.numOf (seg xs 6 2)
def ipDf (xs : List Nat) : Bool := ((ipFr xs &&& 16384 : Nat) : Int) != 0
def ipMf (xs : List Nat) : Bool := ((ipFr xs &&& 8192 : Nat) : Int) != 0
def ipOff (xs : List Nat) : Nat := 8 * (ipFr xs % 8192)
def ipOs (xs : List Nat) : List Nat := seg xs 20 (ipHead xs - 20)
def ipDs (xs : List Nat) : List Nat := seg xs (ipHead xs) (ipTot xs - ipHead xs)
abbrev IpLen (xs : List Nat) : Prop := 20 ≤ ipHead xs ∧ ipHead xs ≤ xs.length ∧ ipHead xs ≤ ipTot xs ∧ ipTot xs ≤ xs.length
/-- Are they a packet's octets? -/
abbrev IpPok (xs : List Nat) : Prop := 20 ≤ xs.length ∧ xs.getD 0 0 / 16 = 4 ∧ IpLen xs ∧ Mt.sumO (xs.take (ipHead xs)) = 65535

theorem seg_num_lt (xs : List Nat) (hx : ∀ x ∈ xs, x < 256) (i n : Nat) (hl : i + n ≤ xs.length) : Mt.numOf (seg xs i n) < 256 ^ n := by
  have h := Mt.numOf_lt (seg xs i n) (seg_lt hx i n)
  rwa [seg_length _ _ _ hl] at h

/-- A checksum in its place makes the sum right. -/
theorem sum_mid (P R : List Nat) (hP : ∀ x ∈ P, x < 256) (hR : ∀ x ∈ R, x < 256) (he : P.length % 2 = 0) (C : Nat) (hC : C = 65535 - Mt.sumO (P ++ Mt.octs 0 2 ++ R)) : Mt.sumO (P ++ Mt.octs C 2 ++ R) = 65535 := by
  have key : ∀ c, c < 65536 → Mt.sumO (P ++ Mt.octs c 2 ++ R) = Mt.norm (Mt.wt true P + (c + Mt.wt true R)) := by
    intro c hc
    have hall : ∀ x ∈ P ++ Mt.octs c 2 ++ R, x < 256 := by
      intro x hx
      rcases List.mem_append.1 hx with h | h
      · rcases List.mem_append.1 h with h | h
        · exact hP x h
        · exact octs_lt c 2 x h
      · exact hR x h
    rw [Mt.sumO_norm _ hall, List.append_assoc, Mt.wt_append_even _ _ _ he]
    have e2 : Mt.octs c 2 = [c / 256, c % 256] := by
      have h1 : c / 256 % 256 = c / 256 := by omega
      simp [Mt.octs, List.range_succ, h1]
    rw [e2]
    show Mt.norm (Mt.wt true P + Mt.wt true (c / 256 :: c % 256 :: R)) = _
    rw [Mt.wt_two]
    congr 1
    omega
  have h0 := key 0 (by omega)
  rw [h0] at hC
  have hl := Mt.norm_le (Mt.wt true P + (0 + Mt.wt true R))
  rw [key C (by omega), Mt.norm_full]
  have hmod := Mt.norm_mod (Mt.wt true P + (0 + Mt.wt true R))
  have hz := Mt.norm_zero (Mt.wt true P + (0 + Mt.wt true R))
  generalize Mt.norm (Mt.wt true P + (0 + Mt.wt true R)) = m at *
  omega
end Go.Proofs.Ytokfadlgiimaoaa
