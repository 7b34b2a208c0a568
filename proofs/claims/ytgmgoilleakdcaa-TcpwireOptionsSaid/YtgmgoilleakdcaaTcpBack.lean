/- A segment's octets are read back. -/
import Derived.Test.YtgmgoilleakdcaaTcpAll
import Derived.Test.YtgmgoilleakdcaaTcpOm
namespace Go.Proofs.Ytgmgoilleakdcaa
open Go.RowKit

theorem getD_app (P T : List Nat) (x i : Nat) (hP : P.length = i) : (P ++ x :: T).getD i 0 = x := by
  subst hP
  rw [List.getD_eq_getElem?_getD, List.getElem?_append_right (Nat.le_refl _), Nat.sub_self]
  rfl

theorem laid_four (mss : Nat) (hs : Bool) (sc : Nat) (sk : Bool) (bs : List (Nat × Nat)) (ht : Bool) (tv te : Nat) : (laidO mss hs sc sk bs ht tv te).length % 4 = 0 := by
  have h1 : (oMss mss).length % 4 = 0 := by unfold oMss; split <;> simp [Mt.octs_length]
  have h2 : (oScale hs sc).length % 4 = 0 := by unfold oScale; split <;> simp
  have h3 : (oSok sk).length % 4 = 0 := by unfold oSok; split <;> simp
  have h4 : (oTs ht tv te).length % 4 = 0 := by unfold oTs; split <;> simp [Mt.octs_length]
  have h5 : (oHead bs.length).length % 4 = 0 := by unfold oHead; split <;> simp
  have h6 := blk_len bs
  simp only [laidO, List.length_append]
  omega

/-- What is read of a segment's octets. -/
theorem tcp_back (sp dp sq ak fl wn ur mss : Nat) (hs : Bool) (sc : Nat) (sk : Bool) (bs : List (Nat × Nat)) (ht : Bool) (tv te : Nat) (ds : List Nat) (src dst : Nat) (hm : TcpMay mss hs sc sk bs ht tv te ds.length) (hsp : sp < 65536) (hdp : dp < 65536) (hsq : sq < 4294967296) (hak : ak < 4294967296) (hfl : fl < 256) (hwn : wn < 65536) (hur : ur < 65536) (htv : tv < 4294967296) (hte : te < 4294967296) (hsrc : src < 4294967296) (hdst : dst < 4294967296) (hbs : ∀ p ∈ bs, p.1 < 4294967296 ∧ p.2 < 4294967296) (hdx : ∀ x ∈ ds, x < 256) (R : List Nat) (hR : tcpO sp dp sq ak fl wn ur mss hs sc sk bs ht tv te ds src dst = R) :
    TcpOk R src dst ∧ tHd R = 20 + (laidO mss hs sc sk bs ht tv te).length ∧ tRead R = some ⟨mss, hs, sc, sk, bs, ht, tv, te⟩ ∧ R.drop (tHd R) = ds ∧ R.length = 20 + (laidO mss hs sc sk bs ht tv te).length + ds.length ∧ (∀ x ∈ R, x < 256) ∧ ∀ d v s, tP R d v s = pC sp dp sq ak fl wn ur d v s := by
  obtain ⟨m1, m2, m3, m4, m5, m6, m7⟩ := hm
  have hsum := tcpO_sum sp dp sq ak fl wn ur mss hs sc sk bs ht tv te ds src dst m6 hfl m2 m5 hdx hsrc hdst
  have hsy := says_laid mss hs sc sk bs ht tv te m1 htv hte m3 m4 m5 hbs
  have h4 := laid_four mss hs sc sk bs ht tv te
  have hlt := fun C => tcpW_lt sp dp sq ak fl wn C ur mss hs sc sk bs ht tv te ds m6 hfl m2 m5 hdx
  rw [hR] at hsum
  unfold tcpO at hR
  generalize 65535 - tcpSum (tcpW sp dp sq ak fl wn 0 ur mss hs sc sk bs ht tv te ds) src dst = C at hR
  have hRl : R.length = 20 + (laidO mss hs sc sk bs ht tv te).length + ds.length := by rw [← hR, tcpW_len]
  have hRx : ∀ x ∈ R, x < 256 := by rw [← hR]; exact hlt C
  generalize hL : laidO mss hs sc sk bs ht tv te = L at *
  have e : R = Mt.octs sp 2 ++ (Mt.octs dp 2 ++ (Mt.octs sq 4 ++ (Mt.octs ak 4 ++ ((20 + L.length) / 4 * 16 :: fl :: (Mt.octs wn 2 ++ (Mt.octs C 2 ++ (Mt.octs ur 2 ++ (L ++ ds)))))))) := by
    rw [← hR]
    unfold tcpW tcpHd
    rw [hL]
    simp only [List.append_assoc, List.cons_append, List.nil_append]
  have f0 : Mt.numOf (seg R 0 2) = sp := by
    rw [e]
    exact seg_num [] (Mt.octs dp 2 ++ (Mt.octs sq 4 ++ (Mt.octs ak 4 ++ ((20 + L.length) / 4 * 16 :: fl :: (Mt.octs wn 2 ++ (Mt.octs C 2 ++ (Mt.octs ur 2 ++ (L ++ ds)))))))) sp 0 2 rfl (by simpa using hsp)
  have f1 : Mt.numOf (seg R 2 2) = dp := by
    have h := seg_num (Mt.octs sp 2) (Mt.octs sq 4 ++ (Mt.octs ak 4 ++ ((20 + L.length) / 4 * 16 :: fl :: (Mt.octs wn 2 ++ (Mt.octs C 2 ++ (Mt.octs ur 2 ++ (L ++ ds))))))) dp 2 2 (by simp [Mt.octs_length]) (by simpa using hdp)
    rw [e]; simpa only [List.append_assoc, List.cons_append, List.nil_append] using h
  have f2 : Mt.numOf (seg R 4 4) = sq := by
    have h := seg_num (Mt.octs sp 2 ++ Mt.octs dp 2) (Mt.octs ak 4 ++ ((20 + L.length) / 4 * 16 :: fl :: (Mt.octs wn 2 ++ (Mt.octs C 2 ++ (Mt.octs ur 2 ++ (L ++ ds)))))) sq 4 4 (by simp [Mt.octs_length]) (by simpa using hsq)
    rw [e]; simpa only [List.append_assoc, List.cons_append, List.nil_append] using h
  have f3 : Mt.numOf (seg R 8 4) = ak := by
    have h := seg_num (Mt.octs sp 2 ++ Mt.octs dp 2 ++ Mt.octs sq 4) ((20 + L.length) / 4 * 16 :: fl :: (Mt.octs wn 2 ++ (Mt.octs C 2 ++ (Mt.octs ur 2 ++ (L ++ ds))))) ak 8 4 (by simp [Mt.octs_length]) (by simpa using hak)
    rw [e]; simpa only [List.append_assoc, List.cons_append, List.nil_append] using h
  have f4 : R.getD 12 0 = (20 + L.length) / 4 * 16 := by
    have h := getD_app (Mt.octs sp 2 ++ Mt.octs dp 2 ++ Mt.octs sq 4 ++ Mt.octs ak 4) (fl :: (Mt.octs wn 2 ++ (Mt.octs C 2 ++ (Mt.octs ur 2 ++ (L ++ ds))))) ((20 + L.length) / 4 * 16) 12 (by simp [Mt.octs_length])
    rw [e]; simpa only [List.append_assoc, List.cons_append, List.nil_append] using h
  have f5 : R.getD 13 0 = fl := by
    have h := getD_app (Mt.octs sp 2 ++ Mt.octs dp 2 ++ Mt.octs sq 4 ++ Mt.octs ak 4 ++ [(20 + L.length) / 4 * 16]) (Mt.octs wn 2 ++ (Mt.octs C 2 ++ (Mt.octs ur 2 ++ (L ++ ds)))) fl 13 (by simp [Mt.octs_length])
    rw [e]; simpa only [List.append_assoc, List.cons_append, List.nil_append] using h
  have f6 : Mt.numOf (seg R 14 2) = wn := by
    have h := seg_num (Mt.octs sp 2 ++ Mt.octs dp 2 ++ Mt.octs sq 4 ++ Mt.octs ak 4 ++ [(20 + L.length) / 4 * 16, fl]) (Mt.octs C 2 ++ (Mt.octs ur 2 ++ (L ++ ds))) wn 14 2 (by simp [Mt.octs_length]) (by simpa using hwn)
    rw [e]; simpa only [List.append_assoc, List.cons_append, List.nil_append] using h
  have f7 : Mt.numOf (seg R 18 2) = ur := by
    have h := seg_num (Mt.octs sp 2 ++ Mt.octs dp 2 ++ Mt.octs sq 4 ++ Mt.octs ak 4 ++ [(20 + L.length) / 4 * 16, fl] ++ Mt.octs wn 2 ++ Mt.octs C 2) (L ++ ds) ur 18 2 (by simp [Mt.octs_length]) (by simpa using hur)
    rw [e]; simpa only [List.append_assoc, List.cons_append, List.nil_append] using h
  have hh : tHd R = 20 + L.length := by unfold tHd; rw [f4]; omega
  have e2 : R = (Mt.octs sp 2 ++ Mt.octs dp 2 ++ Mt.octs sq 4 ++ Mt.octs ak 4 ++ [(20 + L.length) / 4 * 16, fl] ++ Mt.octs wn 2 ++ Mt.octs C 2 ++ Mt.octs ur 2) ++ L ++ ds := by
    rw [← hR]; unfold tcpW tcpHd; rw [hL]
  have ho : tOs R = L := by
    have h := seg_app (Mt.octs sp 2 ++ Mt.octs dp 2 ++ Mt.octs sq 4 ++ Mt.octs ak 4 ++ [(20 + L.length) / 4 * 16, fl] ++ Mt.octs wn 2 ++ Mt.octs C 2 ++ Mt.octs ur 2) L ds 20 L.length (by simp [Mt.octs_length]) rfl
    unfold tOs
    rw [hh, Nat.add_sub_cancel_left]
    rw [← e2] at h
    exact h
  refine ⟨⟨by omega, by omega, by omega, by omega, hsum⟩, hh, ?_, ?_, hRl, hRx, fun d v s => ?_⟩
  · unfold tRead
    rw [ho]
    exact hsy L.length (Nat.le_refl _)
  · have h : List.drop (20 + L.length) ((Mt.octs sp 2 ++ Mt.octs dp 2 ++ Mt.octs sq 4 ++ Mt.octs ak 4 ++ [(20 + L.length) / 4 * 16, fl] ++ Mt.octs wn 2 ++ Mt.octs C 2 ++ Mt.octs ur 2) ++ L ++ ds) = ds := List.drop_left' (by simp [Mt.octs_length]; omega)
    rw [hh]
    rw [← e2] at h
    exact h
  · unfold tP
    rw [f0, f1, f2, f3, f5, f6, f7]
end Go.Proofs.Ytgmgoilleakdcaa
