/- The options as they are laid are read back. -/
import Derived.Test.YtgmgoilleakdcaaTcpWk
import Derived.Test.YtgmgoilleakdcaaTcpM
import Derived.Test.YtgmgoilleakdcaaGSeg
namespace Go.Proofs.Ytgmgoilleakdcaa
open Go.RowKit

/-- These options say that. -/
def Says (xs ks : List Nat) (s res : TOpt) : Prop := ∀ f, xs.length ≤ f → tOpts (f + 1) xs ks s = some res

theorem says_nil (ks : List Nat) (s : TOpt) : Says [] ks s s := fun f _ => by rw [tOpts_succ]; rfl

theorem says_pass {r ks : List Nat} {s res : TOpt} (h : Says r ks s res) : Says (1 :: r) ks s res := fun f hf => by
  obtain ⟨f', rfl⟩ : ∃ f', f = f' + 1 := ⟨f - 1, by simp at hf; omega⟩
  rw [tOpts_succ, if_neg (by simp), if_neg (by simp), if_pos (by simp)]
  exact h f' (by simpa using hf)

theorem says_opt {k n : Nat} {body r ks : List Nat} {s res : TOpt} (hk : 2 ≤ k) (hn : n = body.length + 2) (hf : tcpFits k n = true) (hks : k ∉ ks) (h : Says r (ks ++ [k]) (setO s k body) res) : Says (k :: n :: (body ++ r)) ks s res := fun f hl => by
  have hlen : (k :: n :: (body ++ r)).length = body.length + r.length + 2 := by simp
  obtain ⟨f', rfl⟩ : ∃ f', f = f' + 1 := ⟨f - 1, by rw [hlen] at hl; omega⟩
  have g0 : (k :: n :: (body ++ r)).getD 0 0 = k := rfl
  have g1 : (k :: n :: (body ++ r)).getD 1 0 = n := rfl
  have hd : (k :: n :: (body ++ r)).drop n = r := by
    subst hn
    show (body ++ r).drop body.length = r
    exact List.drop_left
  have hsg : seg (k :: n :: (body ++ r)) 2 (n - 2) = body := by
    subst hn
    show (body ++ r).take (body.length + 2 - 2) = body
    rw [Nat.add_sub_cancel]
    exact List.take_left
  rw [tOpts_succ, g0, g1, hd, hsg, hlen, if_neg (by omega), if_neg (by omega), if_neg (by omega), if_neg (by omega), if_neg (by rw [hf]; simp; omega), if_neg hks]
  exact h f' (by rw [hlen] at hl; omega)

theorem numOf2 (m : Nat) (h : m < 65536) : Mt.numOf (Mt.octs m 2) = m := numOf_octs 2 m (by simpa using h)
theorem numOf4 (m : Nat) (h : m < 4294967296) : Mt.numOf (Mt.octs m 4) = m := numOf_octs 4 m (by simpa using h)

theorem flat_drop : ∀ (bs : List (Nat × Nat)) (i : Nat), (bs.map oBlk).flatten.drop (8 * i) = ((bs.drop i).map oBlk).flatten
  | bs, 0 => rfl
  | [], i + 1 => by simp
  | p :: bs, i + 1 => by
    rw [List.map_cons, List.flatten_cons, List.drop_succ_cons, ← flat_drop bs i, show 8 * (i + 1) = (oBlk p).length + 8 * i by simp [oBlk, Mt.octs_length]; omega, ← List.drop_drop, List.drop_left]

theorem blkOf_flat (bs : List (Nat × Nat)) (hb : ∀ p ∈ bs, p.1 < 4294967296 ∧ p.2 < 4294967296) : blkOf ((bs.map oBlk).flatten) = bs := by
  have hlt := oBlks_lt bs
  have hl := blk_len bs
  unfold blkOf
  rw [hl, Nat.mul_div_cancel_left _ (by omega)]
  apply List.ext_getElem
  · simp [tbL_length]
  · intro i h1 h2
    have hp := hb bs[i] (List.getElem_mem h2)
    have hdr : (bs.map oBlk).flatten.drop (8 * i) = oBlk bs[i] ++ ((bs.drop (i + 1)).map oBlk).flatten := by
      rw [flat_drop, List.drop_eq_getElem_cons h2, List.map_cons, List.flatten_cons]
    have s1 : seg ((bs.map oBlk).flatten) (8 * i) 4 = Mt.octs bs[i].1 4 := by
      unfold seg
      rw [hdr, oBlk, List.append_assoc]
      exact List.take_left' (Mt.octs_length _ _)
    have s2 : seg ((bs.map oBlk).flatten) (8 * i + 4) 4 = Mt.octs bs[i].2 4 := by
      unfold seg
      rw [← List.drop_drop, hdr, oBlk, List.append_assoc, List.drop_left' (Mt.octs_length _ _)]
      exact List.take_left' (Mt.octs_length _ _)
    have hv := tbO_val ((bs.map oBlk).flatten) hlt i (by rw [hl]; omega)
    rw [s1, s2, numOf4 _ hp.1, numOf4 _ hp.2] at hv
    simpa [tbL] using hv

def kIf (c : Bool) (ks : List Nat) (k : Nat) : List Nat := if c = true then ks ++ [k] else ks
theorem kIf_nin {c : Bool} {ks : List Nat} {k j : Nat} (h : j ∉ ks) (hne : j ≠ k) : j ∉ kIf c ks k := by
  unfold kIf
  split
  · simp [h, hne]
  · exact h

theorem says_mss {m : Nat} (hm : m < 65536) {r ks : List Nat} {s res : TOpt} (hks : 2 ∉ ks) (h : Says r (kIf (m != 0) ks 2) (if m = 0 then s else { s with mss := m }) res) : Says (oMss m ++ r) ks s res := by
  unfold oMss
  by_cases h0 : m = 0
  · subst h0
    exact h
  · rw [if_neg h0]
    rw [if_neg h0] at h
    have e : kIf (m != 0) ks 2 = ks ++ [2] := by unfold kIf; rw [if_pos (by rw [bne_iff_ne]; exact h0)]
    rw [e] at h
    show Says (2 :: 4 :: (Mt.octs m 2 ++ r)) ks s res
    refine says_opt (by omega) (by rw [Mt.octs_length]) rfl hks ?_
    have e2 : setO s 2 (Mt.octs m 2) = { s with mss := m } := by
      show { s with mss := Mt.numOf (Mt.octs m 2) } = _
      rw [numOf2 m hm]
    rw [e2]
    exact h

theorem says_scale {hs : Bool} {sc : Nat} {r ks : List Nat} {s res : TOpt} (hks : 3 ∉ ks) (h : Says r (kIf hs ks 3) (if hs = true then { s with hs := true, sc := sc } else s) res) : Says (oScale hs sc ++ r) ks s res := by
  cases hs with
  | false => exact h
  | true =>
    show Says (1 :: 3 :: 3 :: ([sc] ++ r)) ks s res
    exact says_pass (says_opt (by omega) rfl rfl hks h)

theorem says_sok {sk : Bool} {r ks : List Nat} {s res : TOpt} (hks : 4 ∉ ks) (h : Says r (kIf sk ks 4) (if sk = true then { s with sk := true } else s) res) : Says (oSok sk ++ r) ks s res := by
  cases sk with
  | false => exact h
  | true =>
    show Says (1 :: 1 :: 4 :: 2 :: ([] ++ r)) ks s res
    exact says_pass (says_pass (says_opt (by omega) rfl rfl hks h))

theorem says_ts {ht : Bool} {tv te : Nat} (htv : tv < 4294967296) (hte : te < 4294967296) {r ks : List Nat} {s res : TOpt} (hks : 8 ∉ ks) (h : Says r (kIf ht ks 8) (if ht = true then { s with ht := true, tv := tv, te := te } else s) res) : Says (oTs ht tv te ++ r) ks s res := by
  cases ht with
  | false => exact h
  | true =>
    have e : oTs true tv te ++ r = 1 :: 1 :: 8 :: 10 :: ((Mt.octs tv 4 ++ Mt.octs te 4) ++ r) := by
      show ([1, 1, 8, 10] ++ Mt.octs tv 4 ++ Mt.octs te 4) ++ r = _
      simp
    rw [e]
    refine says_pass (says_pass (says_opt (by omega) (by simp [Mt.octs_length]) rfl hks ?_))
    have s1 : seg (Mt.octs tv 4 ++ Mt.octs te 4) 0 4 = Mt.octs tv 4 := by unfold seg; exact List.take_left' (Mt.octs_length _ _)
    have s2 : seg (Mt.octs tv 4 ++ Mt.octs te 4) 4 4 = Mt.octs te 4 := by
      unfold seg
      rw [List.drop_left' (Mt.octs_length _ _)]
      exact List.take_of_length_le (by rw [Mt.octs_length]; exact Nat.le_refl _)
    have e2 : setO s 8 (Mt.octs tv 4 ++ Mt.octs te 4) = { s with ht := true, tv := tv, te := te } := by
      show { s with ht := true, tv := Mt.numOf (seg (Mt.octs tv 4 ++ Mt.octs te 4) 0 4), te := Mt.numOf (seg (Mt.octs tv 4 ++ Mt.octs te 4) 4 4) } = _
      rw [s1, s2, numOf4 _ htv, numOf4 _ hte]
    rw [e2]
    exact h

theorem says_blk {bs : List (Nat × Nat)} (hb : ∀ p ∈ bs, p.1 < 4294967296 ∧ p.2 < 4294967296) (h4 : bs.length ≤ 4) {ks : List Nat} {s : TOpt} (hks : 5 ∉ ks) (h0 : s.bs = []) : Says (oHead bs.length ++ (bs.map oBlk).flatten) ks s { s with bs := bs } := by
  cases hbs : bs with
  | nil =>
    have e : ({ s with bs := [] } : TOpt) = s := by cases s; simp at h0; subst h0; rfl
    rw [e]
    exact says_nil ks s
  | cons p t =>
    rw [← hbs]
    have hn : bs.length ≠ 0 := by rw [hbs]; simp
    have e : oHead bs.length ++ (bs.map oBlk).flatten = 1 :: 1 :: 5 :: (2 + 8 * bs.length) :: ((bs.map oBlk).flatten ++ []) := by
      unfold oHead
      rw [if_neg hn]
      simp
    have hl := blk_len bs
    rw [e]
    refine says_pass (says_pass (says_opt (by omega) (by rw [hl]; omega) ?_ hks ?_))
    · obtain h | h | h | h : bs.length = 1 ∨ bs.length = 2 ∨ bs.length = 3 ∨ bs.length = 4 := by omega
      all_goals rw [h]; rfl
    · have e2 : setO s 5 ((bs.map oBlk).flatten) = { s with bs := bs } := by
        show { s with bs := s.bs ++ blkOf ((bs.map oBlk).flatten) } = _
        rw [h0, blkOf_flat bs hb, List.nil_append]
      rw [e2]
      exact says_nil _ _

/-- **The options as they are laid say what they are.** -/
theorem says_laid (mss : Nat) (hs : Bool) (sc : Nat) (sk : Bool) (bs : List (Nat × Nat)) (ht : Bool) (tv te : Nat) (hm : mss < 65536) (htv : tv < 4294967296) (hte : te < 4294967296) (hs0 : hs = false → sc = 0) (ht0 : ht = false → tv = 0 ∧ te = 0) (h4 : bs.length ≤ 4) (hb : ∀ p ∈ bs, p.1 < 4294967296 ∧ p.2 < 4294967296) :
    Says (laidO mss hs sc sk bs ht tv te) [] tOpt0 ⟨mss, hs, sc, sk, bs, ht, tv, te⟩ := by
  unfold laidO
  rw [List.append_assoc, List.append_assoc, List.append_assoc, List.append_assoc]
  refine says_mss hm (by simp) ?_
  refine says_scale (kIf_nin (by simp) (by omega)) ?_
  refine says_sok (kIf_nin (kIf_nin (by simp) (by omega)) (by omega)) ?_
  refine says_ts htv hte (kIf_nin (kIf_nin (kIf_nin (by simp) (by omega)) (by omega)) (by omega)) ?_
  have h := fun s (h0 : s.bs = []) => says_blk hb h4 (s := s) (ks := kIf ht (kIf sk (kIf hs (kIf (mss != 0) [] 2) 3) 4) 8) (kIf_nin (kIf_nin (kIf_nin (kIf_nin (by simp) (by omega)) (by omega)) (by omega)) (by omega)) h0
  by_cases m0 : mss = 0
  · subst m0
    cases hs with
    | false =>
      obtain rfl := hs0 rfl
      cases sk <;> cases ht
      · obtain ⟨rfl, rfl⟩ := ht0 rfl
        exact h _ rfl
      · exact h _ rfl
      · obtain ⟨rfl, rfl⟩ := ht0 rfl
        exact h _ rfl
      · exact h _ rfl
    | true =>
      cases sk <;> cases ht
      · obtain ⟨rfl, rfl⟩ := ht0 rfl
        exact h _ rfl
      · exact h _ rfl
      · obtain ⟨rfl, rfl⟩ := ht0 rfl
        exact h _ rfl
      · exact h _ rfl
  · rw [if_neg m0]
    cases hs with
    | false =>
      obtain rfl := hs0 rfl
      cases sk <;> cases ht
      · obtain ⟨rfl, rfl⟩ := ht0 rfl
        exact h _ rfl
      · exact h _ rfl
      · obtain ⟨rfl, rfl⟩ := ht0 rfl
        exact h _ rfl
      · exact h _ rfl
    | true =>
      cases sk <;> cases ht
      · obtain ⟨rfl, rfl⟩ := ht0 rfl
        exact h _ rfl
      · exact h _ rfl
      · obtain ⟨rfl, rfl⟩ := ht0 rfl
        exact h _ rfl
      · exact h _ rfl
end Go.Proofs.Ytgmgoilleakdcaa
