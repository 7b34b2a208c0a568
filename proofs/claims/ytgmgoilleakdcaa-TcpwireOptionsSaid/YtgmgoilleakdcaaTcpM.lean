/- The sum of a segment; an octet turned is told. -/
import Derived.Test.YtgmgoilleakdcaaTcpB
import Derived.Test.YtgmgoilleakdcaaGSegs
namespace Go.Proofs.Ytgmgoilleakdcaa
open Go.RowKit

theorem tcpSum_norm (xs : List Nat) (hx : ∀ x ∈ xs, x < 256) (src dst : Nat) (hs : src < 4294967296) (hd : dst < 4294967296) : tcpSum xs src dst = Mt.norm (Mt.wt true xs + Mt.tot (psW src dst 6 (xs.length : Nat))) := by
  unfold tcpSum
  rw [Mt.addw_norm _ _ (Mt.sumO_le xs hx) (Mt.tot_le _ (psW_le src dst 6 _ hs hd (by omega))), Mt.sumO_norm xs hx, Mt.norm_add_left]

/-- The checksum makes the sum whole. -/
theorem tcpO_sum (sp dp sq ak fl wn ur mss : Nat) (hs : Bool) (sc : Nat) (sk : Bool) (bs : List (Nat × Nat)) (ht : Bool) (tv te : Nat) (ds : List Nat) (src dst : Nat) (hl : (laidO mss hs sc sk bs ht tv te).length ≤ 40) (hf : fl < 256) (hsc : sc < 256) (hb : bs.length ≤ 4) (hdx : ∀ x ∈ ds, x < 256) (hsrc : src < 4294967296) (hdst : dst < 4294967296) :
    tcpSum (tcpO sp dp sq ak fl wn ur mss hs sc sk bs ht tv te ds src dst) src dst = 65535 := by
  have h0 := tcpW_lt sp dp sq ak fl wn 0 ur mss hs sc sk bs ht tv te ds hl hf hsc hb hdx
  obtain ⟨C, hC⟩ : ∃ C, 65535 - tcpSum (tcpW sp dp sq ak fl wn 0 ur mss hs sc sk bs ht tv te ds) src dst = C := ⟨_, rfl⟩
  have hC1 : C < 65536 := by omega
  have h1 := tcpW_lt sp dp sq ak fl wn C ur mss hs sc sk bs ht tv te ds hl hf hsc hb hdx
  unfold tcpO
  rw [hC]
  rw [tcpSum_norm _ h0 src dst hsrc hdst] at hC
  rw [tcpSum_norm _ h1 src dst hsrc hdst]
  rw [tcpW_len] at hC ⊢
  have e : ∀ c, c < 65536 → Mt.wt true (tcpW sp dp sq ak fl wn c ur mss hs sc sk bs ht tv te ds) = c + Mt.wt true (tcpW sp dp sq ak fl wn 0 ur mss hs sc sk bs ht tv te ds) := by
    intro c hc
    obtain ⟨P, R, he, p⟩ : ∃ P R : List Nat, P.length % 2 = 0 ∧ ∀ c, c < 65536 → tcpW sp dp sq ak fl wn c ur mss hs sc sk bs ht tv te ds = P ++ [c / 256, c % 256] ++ R := by
      refine ⟨Mt.octs sp 2 ++ Mt.octs dp 2 ++ Mt.octs sq 4 ++ Mt.octs ak 4 ++ [(20 + (laidO mss hs sc sk bs ht tv te).length) / 4 * 16, fl] ++ Mt.octs wn 2, Mt.octs ur 2 ++ laidO mss hs sc sk bs ht tv te ++ ds, by simp [Mt.octs_length], fun c hc => ?_⟩
      unfold tcpW tcpHd
      rw [octs2 c hc]
      simp only [List.append_assoc]
    rw [p c hc, p 0 (by omega), wt_mid2 P R _ _ he, wt_mid2 P R _ _ he]
    omega
  rw [e C hC1]
  generalize Mt.wt true (tcpW sp dp sq ak fl wn 0 ur mss hs sc sk bs ht tv te ds) = T at hC
  generalize Mt.tot (psW src dst 6 ((20 + (laidO mss hs sc sk bs ht tv te).length + ds.length : Nat) : Int)) = P at hC ⊢
  rw [Mt.norm_full]
  have q1 := Mt.norm_le (T + P)
  have q2 := Mt.norm_mod (T + P)
  have q3 := Mt.norm_zero (T + P)
  omega

/-- An octet turned into another one is told. -/
theorem tcp_told (xs : List Nat) (hx : ∀ x ∈ xs, x < 256) (src dst : Nat) (hs : src < 4294967296) (hd : dst < 4294967296) (h : tcpSum xs src dst = 65535) (i v : Nat) (hi : i < xs.length) (hv : v < 256) (hne : v ≠ xs.getD i 0) : tcpSum (xs.set i v) src dst ≠ 65535 := by
  have h1 := Mt.set_lt xs hx i v hv
  have ho := Mt.getD_lt xs hx i
  rw [tcpSum_norm _ hx src dst hs hd, Mt.norm_full] at h
  intro h2
  rw [tcpSum_norm _ h1 src dst hs hd, Mt.norm_full, List.length_set] at h2
  have hw := Mt.wt_set xs i v true hi
  generalize xs.getD i 0 = o at hw ho hne
  rcases Mt.wat_is i true with hq | hq
  · rw [hq] at hw; omega
  · rw [hq] at hw; omega
end Go.Proofs.Ytgmgoilleakdcaa
