/- Packets are read back from their octets, whatever stands behind: plain facts. -/
import Derived.Test.YtpdlmgafkjmjpaaIpDef
namespace Go.Proofs.Ytpdlmgafkjmjpaa
open Go.RowKit

theorem getD_at (P R : List Nat) (x i : Nat) (h : P.length = i) : (P ++ [x] ++ R).getD i 0 = x := by
  subst h
  rw [List.append_assoc, List.getD_eq_getElem?_getD, List.getElem?_append_right (Nat.le_refl _), Nat.sub_self]
  rfl

theorem ipFw_back (off : Nat) (df mf : Bool) (h : off ≤ 65528) (h8 : off % 8 = 0) : ipFw off df mf < 65536 ∧ ((((ipFw off df mf &&& 16384 : Nat) : Int) != 0) = df) ∧ ((((ipFw off df mf &&& 8192 : Nat) : Int) != 0) = mf) ∧ 8 * (ipFw off df mf % 8192) = off := by
  have hx : off / 8 < 8192 := by omega
  have e1 := fun x : Nat => nat_bit 14 x
  have e2 := fun x : Nat => nat_bit 13 x
  have p1 : (2 : Nat) ^ 14 = 16384 := by decide
  have p2 : (2 : Nat) ^ 13 = 8192 := by decide
  rw [p1] at e1
  rw [p2] at e2
  unfold ipFw
  obtain ⟨x, hxe⟩ : ∃ x, off / 8 = x := ⟨_, rfl⟩
  have ho : off = 8 * x := by omega
  rw [hxe] at hx ⊢
  cases df <;> cases mf <;> simp only [if_true, if_false, Bool.false_eq_true] <;> rw [e1, e2]
  · refine ⟨by omega, ?_, ?_, by omega⟩
    · rw [bne_eq_false_iff_eq]; omega
    · rw [bne_eq_false_iff_eq]; omega
  · refine ⟨by omega, ?_, ?_, by omega⟩
    · rw [bne_eq_false_iff_eq]; omega
    · rw [bne_iff_ne]; omega
  · refine ⟨by omega, ?_, ?_, by omega⟩
    · rw [bne_iff_ne]; omega
    · rw [bne_eq_false_iff_eq]; omega
  · refine ⟨by omega, ?_, ?_, by omega⟩
    · rw [bne_iff_ne]; omega
    · rw [bne_iff_ne]; omega

theorem ipHd_lt (n tos len id fw ttl proto c src dst : Nat) (h1 : n < 256) (h2 : tos < 256) (h3 : ttl < 256) (h4 : proto < 256) : ∀ x ∈ ipHd n tos len id fw ttl proto c src dst, x < 256 := by
  intro x hx
  unfold ipHd at hx
  simp only [List.mem_append, List.mem_cons, List.not_mem_nil, or_false] at hx
  rcases hx with ((((((( h | h) | h) | h) | h) | h) | h) | h) | h
  all_goals first | exact octs_lt _ _ x h | omega

/-- What is read of a packet's octets. -/
structure IpBackF (tos id : Nat) (df mf : Bool) (off ttl proto src dst : Nat) (os ds xs : List Nat) : Prop where
  ok : IpPok xs
  tos : xs.getD 1 0 = tos
  id : Mt.numOf (seg xs 4 2) = id
  df : ipDf xs = df
  mf : ipMf xs = mf
  off : ipOff xs = off
  ttl : xs.getD 8 0 = ttl
  proto : xs.getD 9 0 = proto
  src : Mt.numOf (seg xs 12 4) = src
  dst : Mt.numOf (seg xs 16 4) = dst
  os : ipOs xs = os
  ds : ipDs xs = ds

theorem ip_back (tos id : Nat) (df mf : Bool) (off ttl proto src dst : Nat) (os ds more : List Nat) (hm : IpMay off os.length ds.length) (htos : tos < 256) (hid : id < 65536) (httl : ttl < 256) (hproto : proto < 256) (hsrc : src < 4294967296) (hdst : dst < 4294967296) (ho : ∀ x ∈ os, x < 256) :
    IpBackF tos id df mf off ttl proto src dst os ds (ipO tos id df mf off ttl proto src dst os ds ++ more) := by
  have h1 := hm.1
  have h2 := hm.2.1
  have h3 := hm.2.2
  obtain ⟨f0, f1, f2, f3⟩ := ipFw_back off df mf (by omega) (by omega)
  have hC : ipC tos id df mf off ttl proto src dst os ds.length < 65536 := by unfold ipC; exact Nat.lt_of_le_of_lt (Nat.sub_le _ _) (by decide)
  have hCe : ipC tos id df mf off ttl proto src dst os ds.length = 65535 - Mt.sumO (ipHd (69 + os.length / 4) tos (20 + os.length + ds.length) id (ipFw off df mf) ttl proto 0 src dst ++ os) := rfl
  have hO : ipO tos id df mf off ttl proto src dst os ds = ipHd (69 + os.length / 4) tos (20 + os.length + ds.length) id (ipFw off df mf) ttl proto (ipC tos id df mf off ttl proto src dst os ds.length) src dst ++ os ++ ds := rfl
  have hxl := ipO_len tos id df mf off ttl proto src dst os ds
  rw [hO] at hxl
  rw [hO]
  generalize ipC tos id df mf off ttl proto src dst os ds.length = C at *
  generalize ipFw off df mf = fw at *
  obtain ⟨n, hn⟩ : ∃ n, 69 + os.length / 4 = n := ⟨_, rfl⟩
  obtain ⟨N, hN⟩ : ∃ N, 20 + os.length + ds.length = N := ⟨_, rfl⟩
  rw [hn, hN] at hCe hxl ⊢
  have n256 : n < 256 := by omega
  have N16 : N < 65536 := by omega
  obtain ⟨hd, hhd⟩ : ∃ L, ipHd n tos N id fw ttl proto C src dst = L := ⟨_, rfl⟩
  have hdl : hd.length = 20 := by rw [← hhd, ipHd_len]
  obtain ⟨xs, hxs⟩ : ∃ xs, hd ++ os ++ ds ++ more = xs := ⟨_, rfl⟩
  have lx : xs.length = N + more.length := by rw [← hxs]; simp [hdl]; omega
  have b2 : (65536 : Nat) = 256 ^ 2 := by decide
  have b4 : (4294967296 : Nat) = 256 ^ 4 := by decide
  have g0 : xs.getD 0 0 = n := by rw [← hxs, ← hhd]; rfl
  have g1 : xs.getD 1 0 = tos := by rw [← hxs, ← hhd]; rfl
  have sT : Mt.numOf (seg xs 2 2) = N := by
    have h := seg_num [n, tos] (Mt.octs id 2 ++ Mt.octs fw 2 ++ [ttl, proto] ++ Mt.octs C 2 ++ Mt.octs src 4 ++ Mt.octs dst 4 ++ os ++ ds ++ more) N 2 2 rfl (by omega)
    rw [← hxs, ← hhd]; simpa [ipHd, List.append_assoc] using h
  have sI : Mt.numOf (seg xs 4 2) = id := by
    have h := seg_num ([n, tos] ++ Mt.octs N 2) (Mt.octs fw 2 ++ [ttl, proto] ++ Mt.octs C 2 ++ Mt.octs src 4 ++ Mt.octs dst 4 ++ os ++ ds ++ more) id 4 2 (by simp [Mt.octs_length]) (by omega)
    rw [← hxs, ← hhd]; simpa [ipHd, List.append_assoc] using h
  have sF : Mt.numOf (seg xs 6 2) = fw := by
    have h := seg_num ([n, tos] ++ Mt.octs N 2 ++ Mt.octs id 2) ([ttl, proto] ++ Mt.octs C 2 ++ Mt.octs src 4 ++ Mt.octs dst 4 ++ os ++ ds ++ more) fw 6 2 (by simp [Mt.octs_length]) (by omega)
    rw [← hxs, ← hhd]; simpa [ipHd, List.append_assoc] using h
  have sS : Mt.numOf (seg xs 12 4) = src := by
    have h := seg_num ([n, tos] ++ Mt.octs N 2 ++ Mt.octs id 2 ++ Mt.octs fw 2 ++ [ttl, proto] ++ Mt.octs C 2) (Mt.octs dst 4 ++ os ++ ds ++ more) src 12 4 (by simp [Mt.octs_length]) (by omega)
    rw [← hxs, ← hhd]; simpa [ipHd, List.append_assoc] using h
  have sD : Mt.numOf (seg xs 16 4) = dst := by
    have h := seg_num ([n, tos] ++ Mt.octs N 2 ++ Mt.octs id 2 ++ Mt.octs fw 2 ++ [ttl, proto] ++ Mt.octs C 2 ++ Mt.octs src 4) (os ++ ds ++ more) dst 16 4 (by simp [Mt.octs_length]) (by omega)
    rw [← hxs, ← hhd]; simpa [ipHd, List.append_assoc] using h
  have g8 : xs.getD 8 0 = ttl := by
    have h := getD_at ([n, tos] ++ Mt.octs N 2 ++ Mt.octs id 2 ++ Mt.octs fw 2) ([proto] ++ Mt.octs C 2 ++ Mt.octs src 4 ++ Mt.octs dst 4 ++ os ++ ds ++ more) ttl 8 (by simp [Mt.octs_length])
    rw [← hxs, ← hhd]; simpa [ipHd, List.append_assoc] using h
  have g9 : xs.getD 9 0 = proto := by
    have h := getD_at ([n, tos] ++ Mt.octs N 2 ++ Mt.octs id 2 ++ Mt.octs fw 2 ++ [ttl]) (Mt.octs C 2 ++ Mt.octs src 4 ++ Mt.octs dst 4 ++ os ++ ds ++ more) proto 9 (by simp [Mt.octs_length])
    rw [← hxs, ← hhd]; simpa [ipHd, List.append_assoc] using h
  have hhead : ipHead xs = 20 + os.length := by unfold ipHead; rw [g0]; omega
  have htot : ipTot xs = N := sT
  have htk : xs.take (20 + os.length) = hd ++ os := by
    rw [← hxs, List.append_assoc (hd ++ os)]
    exact List.take_left' (by rw [List.length_append, hdl])
  have hP : ∀ x ∈ [n, tos] ++ Mt.octs N 2 ++ Mt.octs id 2 ++ Mt.octs fw 2 ++ [ttl, proto], x < 256 := by
    intro x hx
    refine ipHd_lt n tos N id fw ttl proto 0 src dst n256 htos httl hproto x ?_
    unfold ipHd
    exact List.mem_append_left _ (List.mem_append_left _ (List.mem_append_left _ hx))
  have hR : ∀ x ∈ Mt.octs src 4 ++ Mt.octs dst 4 ++ os, x < 256 := by
    intro x hx
    rcases List.mem_append.1 hx with h | h
    · rcases List.mem_append.1 h with h | h
      · exact octs_lt _ _ x h
      · exact octs_lt _ _ x h
    · exact ho x h
  have hsum : Mt.sumO (hd ++ os) = 65535 := by
    have h := sum_mid _ _ hP hR (by simp [Mt.octs_length]) C (by rw [hCe]; congr 2)
    rw [← hhd, ← h]
    congr 1
  have hos : ipOs xs = os := by
    unfold ipOs
    rw [hhead, show 20 + os.length - 20 = os.length by omega, ← hxs, List.append_assoc (hd ++ os)]
    exact seg_app hd os (ds ++ more) 20 os.length hdl rfl
  have hds : ipDs xs = ds := by
    unfold ipDs
    rw [hhead, htot, show N - (20 + os.length) = ds.length by omega, ← hxs]
    exact seg_app (hd ++ os) ds more (20 + os.length) ds.length (by rw [List.length_append, hdl]) rfl
  rw [hhd, hxs]
  exact ⟨⟨by omega, by rw [g0]; omega, ⟨by omega, by omega, by omega, by omega⟩, by rw [hhead, htk]; exact hsum⟩, g1, sI, by unfold ipDf ipFr; rw [sF]; exact f1, by unfold ipMf ipFr; rw [sF]; exact f2, by unfold ipOff ipFr; rw [sF]; exact f3, g8, g9, sS, sD, hos, hds⟩
end Go.Proofs.Ytpdlmgafkjmjpaa
