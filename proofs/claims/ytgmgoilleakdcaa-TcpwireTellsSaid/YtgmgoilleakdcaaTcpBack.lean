/- Parts of lists of octets, written out; a word in the midst of a sum. -/
import Derived.Test.YtgmgoilleakdcaaGBts
import Derived.Test.YtgmgoilleakdcaaSumMath
import Derived.Test.YtgmgoilleakdcaaTcpB
import Derived.Test.YtgmgoilleakdcaaTcpWk
import Derived.Test.YtgmgoilleakdcaaTcpAll
namespace Go.Proofs.Ytgmgoilleakdcaa
open Go.RowKit

theorem seg2 (xs : List Nat) (i : Nat) (hi : i + 2 ≤ xs.length) : seg xs i 2 = [xs.getD i 0, xs.getD (i + 1) 0] := by
  unfold seg
  apply List.ext_getElem
  · simp; omega
  · intro j h1 h2
    simp at h2
    obtain rfl | rfl : j = 0 ∨ j = 1 := by omega
    all_goals simp [List.getD_eq_getElem?_getD, List.getElem?_eq_getElem (show i < xs.length by omega), List.getElem?_eq_getElem (show i + 1 < xs.length by omega)]

theorem seg4' (xs : List Nat) (i : Nat) (hi : i + 4 ≤ xs.length) : seg xs i 4 = [xs.getD i 0, xs.getD (i + 1) 0, xs.getD (i + 2) 0, xs.getD (i + 3) 0] := by
  unfold seg
  apply List.ext_getElem
  · simp; omega
  · intro j h1 h2
    simp at h2
    obtain rfl | rfl | rfl | rfl : j = 0 ∨ j = 1 ∨ j = 2 ∨ j = 3 := by omega
    all_goals simp [List.getD_eq_getElem?_getD, List.getElem?_eq_getElem (show i < xs.length by omega), List.getElem?_eq_getElem (show i + 1 < xs.length by omega), List.getElem?_eq_getElem (show i + 2 < xs.length by omega), List.getElem?_eq_getElem (show i + 3 < xs.length by omega)]

theorem octs2 (n : Nat) (h : n < 65536) : Mt.octs n 2 = [n / 256, n % 256] := by
  have h1 : n / 256 % 256 = n / 256 := by omega
  simp [Mt.octs, List.range_succ, h1]

theorem octs4 (n : Nat) (h : n < 4294967296) : Mt.octs n 4 = [n / 16777216, n / 65536 % 256, n / 256 % 256, n % 256] := by
  have h1 : n / 16777216 % 256 = n / 16777216 := by omega
  simp [Mt.octs, List.range_succ, h1]

theorem wt_mid2 (P R : List Nat) (x y : Nat) (he : P.length % 2 = 0) : Mt.wt true (P ++ [x, y] ++ R) = Mt.wt true P + (x * 256 + y + Mt.wt true R) := by
  rw [List.append_assoc, Mt.wt_append_even _ _ _ he]
  show _ + Mt.wt true (x :: y :: R) = _
  rw [Mt.wt_two]

end Go.Proofs.Ytgmgoilleakdcaa

namespace Go.Proofs.Ytgmgoilleakdcaa
open Go.RowKit

theorem tcpSum_norm (xs : List Nat) (hx : ∀ x ∈ xs, x < 256) (src dst : Nat) (hs : src < 4294967296) (hd : dst < 4294967296) : tcpSum xs src dst = Mt.norm (Mt.wt true xs + Mt.tot (psW src dst 6 (xs.length : Nat))) := by
  unfold tcpSum
  rw [Mt.addw_norm _ _ (Mt.sumO_le xs hx) (Mt.tot_le _ (psW_le src dst 6 _ hs hd (by omega))), Mt.sumO_norm xs hx, Mt.norm_add_left]

/-- The checksum makes the sum whole. -/
theorem tcpO_sum (sp dp sq ak fl wn ur mss : Nat) (hs : Bool) (sc : Nat) (sk : Bool) (bs : List (Nat × Nat)) (ht : Bool) (tv te : Nat) (ds : List Nat) (src dst : Nat) (hl : (laidO mss hs sc sk bs ht tv te).length ≤ 40) (hf : fl < 256) (hsc : sc < 256) (hb : bs.length ≤ 4) (hdx : ∀ x ∈ ds, x < 256) (hsrc : src < 4294967296) (hdst : dst < 4294967296) :
    tcpSum (tcpO sp dp sq ak fl wn ur mss hs sc sk bs ht tv te ds src dst) src dst = 65535 := by
  have h0 := tcpW_lt sp dp sq ak fl wn 0 ur mss hs sc sk bs ht tv te ds hl hf hsc hb hdx
  obtain ⟨C, hC⟩ : ∃ C, 65535 - tcpSum (tcpW sp dp sq ak fl wn 0 ur mss hs sc sk bs ht tv te ds) src dst = C := ⟨_, rfl⟩
  have hC1 : C < 65536 := by omega
  have h1 := tcpW_lt sp dp sq ak fl wn C ur mss hs sc sk bs ht tv te ds hl hf hsc hb hdx
  unfold tcpO
  rw [hC]
  rw [tcpSum_norm _ h0 src dst hsrc hdst] at hC
  rw [tcpSum_norm _ h1 src dst hsrc hdst]
  rw [tcpW_len] at hC ⊢
  have e : ∀ c, c < 65536 → Mt.wt true (tcpW sp dp sq ak fl wn c ur mss hs sc sk bs ht tv te ds) = c + Mt.wt true (tcpW sp dp sq ak fl wn 0 ur mss hs sc sk bs ht tv te ds) := by
    intro c hc
    obtain ⟨P, R, he, p⟩ : ∃ P R : List Nat, P.length % 2 = 0 ∧ ∀ c, c < 65536 → tcpW sp dp sq ak fl wn c ur mss hs sc sk bs ht tv te ds = P ++ [c / 256, c % 256] ++ R := by
      refine ⟨Mt.octs sp 2 ++ Mt.octs dp 2 ++ Mt.octs sq 4 ++ Mt.octs ak 4 ++ [(20 + (laidO mss hs sc sk bs ht tv te).length) / 4 * 16, fl] ++ Mt.octs wn 2, Mt.octs ur 2 ++ laidO mss hs sc sk bs ht tv te ++ ds, by simp [Mt.octs_length], fun c hc => ?_⟩
      unfold tcpW tcpHd
      rw [octs2 c hc]
      simp only [List.append_assoc]
    rw [p c hc, p 0 (by omega), wt_mid2 P R _ _ he, wt_mid2 P R _ _ he]
    omega
  rw [e C hC1]
  generalize Mt.wt true (tcpW sp dp sq ak fl wn 0 ur mss hs sc sk bs ht tv te ds) = T at hC
  generalize Mt.tot (psW src dst 6 ((20 + (laidO mss hs sc sk bs ht tv te).length + ds.length : Nat) : Int)) = P at hC ⊢
  rw [Mt.norm_full]
  have q1 := Mt.norm_le (T + P)
  have q2 := Mt.norm_mod (T + P)
  have q3 := Mt.norm_zero (T + P)
  omega

/-- An octet turned into another one is told. -/
theorem tcp_told (xs : List Nat) (hx : ∀ x ∈ xs, x < 256) (src dst : Nat) (hs : src < 4294967296) (hd : dst < 4294967296) (h : tcpSum xs src dst = 65535) (i v : Nat) (hi : i < xs.length) (hv : v < 256) (hne : v ≠ xs.getD i 0) : tcpSum (xs.set i v) src dst ≠ 65535 := by
  have h1 := Mt.set_lt xs hx i v hv
  have ho := Mt.getD_lt xs hx i
  rw [tcpSum_norm _ hx src dst hs hd, Mt.norm_full] at h
  intro h2
  rw [tcpSum_norm _ h1 src dst hs hd, Mt.norm_full, List.length_set] at h2
  have hw := Mt.wt_set xs i v true hi
  generalize xs.getD i 0 = o at hw ho hne
  rcases Mt.wat_is i true with hq | hq
  · rw [hq] at hw; omega
  · rw [hq] at hw; omega
end Go.Proofs.Ytgmgoilleakdcaa

namespace Go.Proofs.Ytgmgoilleakdcaa
open Go.RowKit

theorem snoc_ind {P : List Nat → Prop} (h0 : P []) (h1 : ∀ xs x, P xs → P (xs ++ [x])) (xs : List Nat) : P xs := by
  have key : ∀ ys : List Nat, P ys.reverse := by
    intro ys
    induction ys with
    | nil => exact h0
    | cons y ys ih => rw [List.reverse_cons]; exact h1 _ _ ih
  have h := key xs.reverse
  rwa [List.reverse_reverse] at h

theorem numOf_append (xs ys : List Nat) : Mt.numOf (xs ++ ys) = Mt.numOf xs * 256 ^ ys.length + Mt.numOf ys := by
  induction ys using snoc_ind with
  | h0 => simp [Mt.numOf]
  | h1 ys y ih =>
    rw [← List.append_assoc, Mt.numOf_snoc, ih, Mt.numOf_snoc, List.length_append, List.length_singleton, Nat.pow_succ, Nat.add_mul, Nat.mul_assoc]
    omega

theorem octs_succ (n k : Nat) : Mt.octs n (k + 1) = Mt.octs (n / 256) k ++ [n % 256] := by
  unfold Mt.octs
  rw [List.range_succ, List.map_append]
  congr 1
  · apply List.map_congr_left
    intro i hi
    have hi := List.mem_range.1 hi
    rw [show k + 1 - 1 - i = (k - 1 - i) + 1 by omega, Nat.pow_succ, Nat.mul_comm, ← Nat.div_div_eq_div_mul]
  · simp

theorem numOf_octs (k : Nat) : ∀ n, n < 256 ^ k → Mt.numOf (Mt.octs n k) = n := by
  induction k with
  | zero => intro n h; simp at h; subst h; rfl
  | succ k ih =>
    intro n h
    rw [octs_succ, Mt.numOf_snoc, ih (n / 256) (by rw [Nat.pow_succ] at h; omega)]
    omega

theorem octs_numOf (xs : List Nat) (h : ∀ x ∈ xs, x < 256) : Mt.octs (Mt.numOf xs) xs.length = xs := by
  induction xs using snoc_ind with
  | h0 => rfl
  | h1 xs x ih =>
    have hx := h x (by simp)
    rw [List.length_append, List.length_singleton, octs_succ, Mt.numOf_snoc, show (Mt.numOf xs * 256 + x) / 256 = Mt.numOf xs by omega, show (Mt.numOf xs * 256 + x) % 256 = x by omega, ih (fun y hy => h y (by simp [hy]))]

theorem seg_app (P Q R : List Nat) (i n : Nat) (hP : P.length = i) (hQ : Q.length = n) : seg (P ++ Q ++ R) i n = Q := by
  subst hP; subst hQ
  unfold seg
  rw [List.append_assoc, List.drop_left, List.take_left]

theorem seg_num (P R : List Nat) (v i n : Nat) (hP : P.length = i) (hv : v < 256 ^ n) : Mt.numOf (seg (P ++ Mt.octs v n ++ R) i n) = v := by
  rw [seg_app P _ R i n hP (Mt.octs_length v n), numOf_octs n v hv]

/-- A list in parts. -/
theorem seg_split (xs : List Nat) (i n : Nat) (_ : i + n ≤ xs.length) : xs.drop i = seg xs i n ++ xs.drop (i + n) := by
  unfold seg
  rw [← List.drop_drop, List.take_append_drop]

theorem octs_seg (xs : List Nat) (h : ∀ x ∈ xs, x < 256) (i n : Nat) (hl : i + n ≤ xs.length) : Mt.octs (Mt.numOf (seg xs i n)) n = seg xs i n := by
  have h2 := octs_numOf (seg xs i n) (seg_lt h i n)
  rwa [seg_length xs i n hl] at h2

end Go.Proofs.Ytgmgoilleakdcaa

namespace Go.Proofs.Ytgmgoilleakdcaa
open Go.RowKit

/-- These options say that. -/
def Says (xs ks : List Nat) (s res : TOpt) : Prop := ∀ f, xs.length ≤ f → tOpts (f + 1) xs ks s = some res

theorem says_nil (ks : List Nat) (s : TOpt) : Says [] ks s s := fun f _ => by rw [tOpts_succ]; rfl

theorem says_pass {r ks : List Nat} {s res : TOpt} (h : Says r ks s res) : Says (1 :: r) ks s res := fun f hf => by
  obtain ⟨f', rfl⟩ : ∃ f', f = f' + 1 := ⟨f - 1, by simp at hf; omega⟩
  rw [tOpts_succ, if_neg (by simp), if_neg (by simp), if_pos (by simp)]
  exact h f' (by simpa using hf)

theorem says_opt {k n : Nat} {body r ks : List Nat} {s res : TOpt} (hk : 2 ≤ k) (hn : n = body.length + 2) (hf : tcpFits k n = true) (hks : k ∉ ks) (h : Says r (ks ++ [k]) (setO s k body) res) : Says (k :: n :: (body ++ r)) ks s res := fun f hl => by
  have hlen : (k :: n :: (body ++ r)).length = body.length + r.length + 2 := by simp
  obtain ⟨f', rfl⟩ : ∃ f', f = f' + 1 := ⟨f - 1, by rw [hlen] at hl; omega⟩
  have g0 : (k :: n :: (body ++ r)).getD 0 0 = k := rfl
  have g1 : (k :: n :: (body ++ r)).getD 1 0 = n := rfl
  have hd : (k :: n :: (body ++ r)).drop n = r := by
    subst hn
    show (body ++ r).drop body.length = r
    exact List.drop_left
  have hsg : seg (k :: n :: (body ++ r)) 2 (n - 2) = body := by
    subst hn
    show (body ++ r).take (body.length + 2 - 2) = body
    rw [Nat.add_sub_cancel]
    exact List.take_left
  rw [tOpts_succ, g0, g1, hd, hsg, hlen, if_neg (by omega), if_neg (by omega), if_neg (by omega), if_neg (by omega), if_neg (by rw [hf]; simp; omega), if_neg hks]
  exact h f' (by rw [hlen] at hl; omega)

theorem numOf2 (m : Nat) (h : m < 65536) : Mt.numOf (Mt.octs m 2) = m := numOf_octs 2 m (by simpa using h)
theorem numOf4 (m : Nat) (h : m < 4294967296) : Mt.numOf (Mt.octs m 4) = m := numOf_octs 4 m (by simpa using h)

theorem flat_drop : ∀ (bs : List (Nat × Nat)) (i : Nat), (bs.map oBlk).flatten.drop (8 * i) = ((bs.drop i).map oBlk).flatten
  | bs, 0 => rfl
  | [], i + 1 => by simp
  | p :: bs, i + 1 => by
    rw [List.map_cons, List.flatten_cons, List.drop_succ_cons, ← flat_drop bs i, show 8 * (i + 1) = (oBlk p).length + 8 * i by simp [oBlk, Mt.octs_length]; omega, ← List.drop_drop, List.drop_left]

theorem blkOf_flat (bs : List (Nat × Nat)) (hb : ∀ p ∈ bs, p.1 < 4294967296 ∧ p.2 < 4294967296) : blkOf ((bs.map oBlk).flatten) = bs := by
  have hlt := oBlks_lt bs
  have hl := blk_len bs
  unfold blkOf
  rw [hl, Nat.mul_div_cancel_left _ (by omega)]
  apply List.ext_getElem
  · simp [tbL_length]
  · intro i h1 h2
    have hp := hb bs[i] (List.getElem_mem h2)
    have hdr : (bs.map oBlk).flatten.drop (8 * i) = oBlk bs[i] ++ ((bs.drop (i + 1)).map oBlk).flatten := by
      rw [flat_drop, List.drop_eq_getElem_cons h2, List.map_cons, List.flatten_cons]
    have s1 : seg ((bs.map oBlk).flatten) (8 * i) 4 = Mt.octs bs[i].1 4 := by
      unfold seg
      rw [hdr, oBlk, List.append_assoc]
      exact List.take_left' (Mt.octs_length _ _)
    have s2 : seg ((bs.map oBlk).flatten) (8 * i + 4) 4 = Mt.octs bs[i].2 4 := by
      unfold seg
      rw [← List.drop_drop, hdr, oBlk, List.append_assoc, List.drop_left' (Mt.octs_length _ _)]
      exact List.take_left' (Mt.octs_length _ _)
    have hv := tbO_val ((bs.map oBlk).flatten) hlt i (by rw [hl]; omega)
    rw [s1, s2, numOf4 _ hp.1, numOf4 _ hp.2] at hv
    simpa [tbL] using hv

def kIf (c : Bool) (ks : List Nat) (k : Nat) : List Nat := if c = true then ks ++ [k] else ks
theorem kIf_nin {c : Bool} {ks : List Nat} {k j : Nat} (h : j ∉ ks) (hne : j ≠ k) : j ∉ kIf c ks k := by
  unfold kIf
  split
  · simp [h, hne]
  · exact h

theorem says_mss {m : Nat} (hm : m < 65536) {r ks : List Nat} {s res : TOpt} (hks : 2 ∉ ks) (h : Says r (kIf (m != 0) ks 2) (if m = 0 then s else { s with mss := m }) res) : Says (oMss m ++ r) ks s res := by
  unfold oMss
  by_cases h0 : m = 0
  · subst h0
    exact h
  · rw [if_neg h0]
    rw [if_neg h0] at h
    have e : kIf (m != 0) ks 2 = ks ++ [2] := by unfold kIf; rw [if_pos (by rw [bne_iff_ne]; exact h0)]
    rw [e] at h
    show Says (2 :: 4 :: (Mt.octs m 2 ++ r)) ks s res
    refine says_opt (by omega) (by rw [Mt.octs_length]) rfl hks ?_
    have e2 : setO s 2 (Mt.octs m 2) = { s with mss := m } := by
      show { s with mss := Mt.numOf (Mt.octs m 2) } = _
      rw [numOf2 m hm]
    rw [e2]
    exact h

theorem says_scale {hs : Bool} {sc : Nat} {r ks : List Nat} {s res : TOpt} (hks : 3 ∉ ks) (h : Says r (kIf hs ks 3) (if hs = true then { s with hs := true, sc := sc } else s) res) : Says (oScale hs sc ++ r) ks s res := by
  cases hs with
  | false => exact h
  | true =>
    show Says (1 :: 3 :: 3 :: ([sc] ++ r)) ks s res
    exact says_pass (says_opt (by omega) rfl rfl hks h)

theorem says_sok {sk : Bool} {r ks : List Nat} {s res : TOpt} (hks : 4 ∉ ks) (h : Says r (kIf sk ks 4) (if sk = true then { s with sk := true } else s) res) : Says (oSok sk ++ r) ks s res := by
  cases sk with
  | false => exact h
  | true =>
    show Says (1 :: 1 :: 4 :: 2 :: ([] ++ r)) ks s res
    exact says_pass (says_pass (says_opt (by omega) rfl rfl hks h))

theorem says_ts {ht : Bool} {tv te : Nat} (htv : tv < 4294967296) (hte : te < 4294967296) {r ks : List Nat} {s res : TOpt} (hks : 8 ∉ ks) (h : Says r (kIf ht ks 8) (if ht = true then { s with ht := true, tv := tv, te := te } else s) res) : Says (oTs ht tv te ++ r) ks s res := by
  cases ht with
  | false => exact h
  | true =>
    have e : oTs true tv te ++ r = 1 :: 1 :: 8 :: 10 :: ((Mt.octs tv 4 ++ Mt.octs te 4) ++ r) := by
      show ([1, 1, 8, 10] ++ Mt.octs tv 4 ++ Mt.octs te 4) ++ r = _
      simp
    rw [e]
    refine says_pass (says_pass (says_opt (by omega) (by simp [Mt.octs_length]) rfl hks ?_))
    have s1 : seg (Mt.octs tv 4 ++ Mt.octs te 4) 0 4 = Mt.octs tv 4 := by unfold seg; exact List.take_left' (Mt.octs_length _ _)
    have s2 : seg (Mt.octs tv 4 ++ Mt.octs te 4) 4 4 = Mt.octs te 4 := by
      unfold seg
      rw [List.drop_left' (Mt.octs_length _ _)]
      exact List.take_of_length_le (by rw [Mt.octs_length]; exact Nat.le_refl _)
    have e2 : setO s 8 (Mt.octs tv 4 ++ Mt.octs te 4) = { s with ht := true, tv := tv, te := te } := by
      show { s with ht := true, tv := Mt.numOf (seg (Mt.octs tv 4 ++ Mt.octs te 4) 0 4), te := Mt.numOf (seg (Mt.octs tv 4 ++ Mt.octs te 4) 4 4) } = _
      rw [s1, s2, numOf4 _ htv, numOf4 _ hte]
    rw [e2]
    exact h

theorem says_blk {bs : List (Nat × Nat)} (hb : ∀ p ∈ bs, p.1 < 4294967296 ∧ p.2 < 4294967296) (h4 : bs.length ≤ 4) {ks : List Nat} {s : TOpt} (hks : 5 ∉ ks) (h0 : s.bs = []) : Says (oHead bs.length ++ (bs.map oBlk).flatten) ks s { s with bs := bs } := by
  cases hbs : bs with
  | nil =>
    have e : ({ s with bs := [] } : TOpt) = s := by cases s; simp at h0; subst h0; rfl
    rw [e]
    exact says_nil ks s
  | cons p t =>
    rw [← hbs]
    have hn : bs.length ≠ 0 := by rw [hbs]; simp
    have e : oHead bs.length ++ (bs.map oBlk).flatten = 1 :: 1 :: 5 :: (2 + 8 * bs.length) :: ((bs.map oBlk).flatten ++ []) := by
      unfold oHead
      rw [if_neg hn]
      simp
    have hl := blk_len bs
    rw [e]
    refine says_pass (says_pass (says_opt (by omega) (by rw [hl]; omega) ?_ hks ?_))
    · obtain h | h | h | h : bs.length = 1 ∨ bs.length = 2 ∨ bs.length = 3 ∨ bs.length = 4 := by omega
      all_goals rw [h]; rfl
    · have e2 : setO s 5 ((bs.map oBlk).flatten) = { s with bs := bs } := by
        show { s with bs := s.bs ++ blkOf ((bs.map oBlk).flatten) } = _
        rw [h0, blkOf_flat bs hb, List.nil_append]
      rw [e2]
      exact says_nil _ _

/-- **The options as they are laid say what they are.** -/
theorem says_laid (mss : Nat) (hs : Bool) (sc : Nat) (sk : Bool) (bs : List (Nat × Nat)) (ht : Bool) (tv te : Nat) (hm : mss < 65536) (htv : tv < 4294967296) (hte : te < 4294967296) (hs0 : hs = false → sc = 0) (ht0 : ht = false → tv = 0 ∧ te = 0) (h4 : bs.length ≤ 4) (hb : ∀ p ∈ bs, p.1 < 4294967296 ∧ p.2 < 4294967296) :
    Says (laidO mss hs sc sk bs ht tv te) [] tOpt0 ⟨mss, hs, sc, sk, bs, ht, tv, te⟩ := by
  unfold laidO
  rw [List.append_assoc, List.append_assoc, List.append_assoc, List.append_assoc]
  refine says_mss hm (by simp) ?_
  refine says_scale (kIf_nin (by simp) (by omega)) ?_
  refine says_sok (kIf_nin (kIf_nin (by simp) (by omega)) (by omega)) ?_
  refine says_ts htv hte (kIf_nin (kIf_nin (kIf_nin (by simp) (by omega)) (by omega)) (by omega)) ?_
  have h := fun s (h0 : s.bs = []) => says_blk hb h4 (s := s) (ks := kIf ht (kIf sk (kIf hs (kIf (mss != 0) [] 2) 3) 4) 8) (kIf_nin (kIf_nin (kIf_nin (kIf_nin (by simp) (by omega)) (by omega)) (by omega)) (by omega)) h0
  by_cases m0 : mss = 0
  · subst m0
    cases hs with
    | false =>
      obtain rfl := hs0 rfl
      cases sk <;> cases ht
      · obtain ⟨rfl, rfl⟩ := ht0 rfl
        exact h _ rfl
      · exact h _ rfl
      · obtain ⟨rfl, rfl⟩ := ht0 rfl
        exact h _ rfl
      · exact h _ rfl
    | true =>
      cases sk <;> cases ht
      · obtain ⟨rfl, rfl⟩ := ht0 rfl
        exact h _ rfl
      · exact h _ rfl
      · obtain ⟨rfl, rfl⟩ := ht0 rfl
        exact h _ rfl
      · exact h _ rfl
  · rw [if_neg m0]
    cases hs with
    | false =>
      obtain rfl := hs0 rfl
      cases sk <;> cases ht
      · obtain ⟨rfl, rfl⟩ := ht0 rfl
        exact h _ rfl
      · exact h _ rfl
      · obtain ⟨rfl, rfl⟩ := ht0 rfl
        exact h _ rfl
      · exact h _ rfl
    | true =>
      cases sk <;> cases ht
      · obtain ⟨rfl, rfl⟩ := ht0 rfl
        exact h _ rfl
      · exact h _ rfl
      · obtain ⟨rfl, rfl⟩ := ht0 rfl
        exact h _ rfl
      · exact h _ rfl
end Go.Proofs.Ytgmgoilleakdcaa

namespace Go.Proofs.Ytgmgoilleakdcaa
open Go.RowKit

theorem getD_app (P T : List Nat) (x i : Nat) (hP : P.length = i) : (P ++ x :: T).getD i 0 = x := by
  subst hP
  rw [List.getD_eq_getElem?_getD, List.getElem?_append_right (Nat.le_refl _), Nat.sub_self]
  rfl

theorem laid_four (mss : Nat) (hs : Bool) (sc : Nat) (sk : Bool) (bs : List (Nat × Nat)) (ht : Bool) (tv te : Nat) : (laidO mss hs sc sk bs ht tv te).length % 4 = 0 := by
  have h1 : (oMss mss).length % 4 = 0 := by unfold oMss; split <;> simp [Mt.octs_length]
  have h2 : (oScale hs sc).length % 4 = 0 := by unfold oScale; split <;> simp
  have h3 : (oSok sk).length % 4 = 0 := by unfold oSok; split <;> simp
  have h4 : (oTs ht tv te).length % 4 = 0 := by unfold oTs; split <;> simp [Mt.octs_length]
  have h5 : (oHead bs.length).length % 4 = 0 := by unfold oHead; split <;> simp
  have h6 := blk_len bs
  simp only [laidO, List.length_append]
  omega

/-- What is read of a segment's octets. -/
theorem tcp_back (sp dp sq ak fl wn ur mss : Nat) (hs : Bool) (sc : Nat) (sk : Bool) (bs : List (Nat × Nat)) (ht : Bool) (tv te : Nat) (ds : List Nat) (src dst : Nat) (hm : TcpMay mss hs sc sk bs ht tv te ds.length) (hsp : sp < 65536) (hdp : dp < 65536) (hsq : sq < 4294967296) (hak : ak < 4294967296) (hfl : fl < 256) (hwn : wn < 65536) (hur : ur < 65536) (htv : tv < 4294967296) (hte : te < 4294967296) (hsrc : src < 4294967296) (hdst : dst < 4294967296) (hbs : ∀ p ∈ bs, p.1 < 4294967296 ∧ p.2 < 4294967296) (hdx : ∀ x ∈ ds, x < 256) (R : List Nat) (hR : tcpO sp dp sq ak fl wn ur mss hs sc sk bs ht tv te ds src dst = R) :
    TcpOk R src dst ∧ tHd R = 20 + (laidO mss hs sc sk bs ht tv te).length ∧ tRead R = some ⟨mss, hs, sc, sk, bs, ht, tv, te⟩ ∧ R.drop (tHd R) = ds ∧ R.length = 20 + (laidO mss hs sc sk bs ht tv te).length + ds.length ∧ (∀ x ∈ R, x < 256) ∧ ∀ d v s, tP R d v s = pC sp dp sq ak fl wn ur d v s := by
  obtain ⟨m1, m2, m3, m4, m5, m6, m7⟩ := hm
  have hsum := tcpO_sum sp dp sq ak fl wn ur mss hs sc sk bs ht tv te ds src dst m6 hfl m2 m5 hdx hsrc hdst
  have hsy := says_laid mss hs sc sk bs ht tv te m1 htv hte m3 m4 m5 hbs
  have h4 := laid_four mss hs sc sk bs ht tv te
  have hlt := fun C => tcpW_lt sp dp sq ak fl wn C ur mss hs sc sk bs ht tv te ds m6 hfl m2 m5 hdx
  rw [hR] at hsum
  unfold tcpO at hR
  generalize 65535 - tcpSum (tcpW sp dp sq ak fl wn 0 ur mss hs sc sk bs ht tv te ds) src dst = C at hR
  have hRl : R.length = 20 + (laidO mss hs sc sk bs ht tv te).length + ds.length := by rw [← hR, tcpW_len]
  have hRx : ∀ x ∈ R, x < 256 := by rw [← hR]; exact hlt C
  generalize hL : laidO mss hs sc sk bs ht tv te = L at *
  have e : R = Mt.octs sp 2 ++ (Mt.octs dp 2 ++ (Mt.octs sq 4 ++ (Mt.octs ak 4 ++ ((20 + L.length) / 4 * 16 :: fl :: (Mt.octs wn 2 ++ (Mt.octs C 2 ++ (Mt.octs ur 2 ++ (L ++ ds)))))))) := by
    rw [← hR]
    unfold tcpW tcpHd
    rw [hL]
    simp only [List.append_assoc, List.cons_append, List.nil_append]
  have f0 : Mt.numOf (seg R 0 2) = sp := by
    rw [e]
    exact seg_num [] (Mt.octs dp 2 ++ (Mt.octs sq 4 ++ (Mt.octs ak 4 ++ ((20 + L.length) / 4 * 16 :: fl :: (Mt.octs wn 2 ++ (Mt.octs C 2 ++ (Mt.octs ur 2 ++ (L ++ ds)))))))) sp 0 2 rfl (by simpa using hsp)
  have f1 : Mt.numOf (seg R 2 2) = dp := by
    have h := seg_num (Mt.octs sp 2) (Mt.octs sq 4 ++ (Mt.octs ak 4 ++ ((20 + L.length) / 4 * 16 :: fl :: (Mt.octs wn 2 ++ (Mt.octs C 2 ++ (Mt.octs ur 2 ++ (L ++ ds))))))) dp 2 2 (by simp [Mt.octs_length]) (by simpa using hdp)
    rw [e]; simpa only [List.append_assoc, List.cons_append, List.nil_append] using h
  have f2 : Mt.numOf (seg R 4 4) = sq := by
    have h := seg_num (Mt.octs sp 2 ++ Mt.octs dp 2) (Mt.octs ak 4 ++ ((20 + L.length) / 4 * 16 :: fl :: (Mt.octs wn 2 ++ (Mt.octs C 2 ++ (Mt.octs ur 2 ++ (L ++ ds)))))) sq 4 4 (by simp [Mt.octs_length]) (by simpa using hsq)
    rw [e]; simpa only [List.append_assoc, List.cons_append, List.nil_append] using h
  have f3 : Mt.numOf (seg R 8 4) = ak := by
    have h := seg_num (Mt.octs sp 2 ++ Mt.octs dp 2 ++ Mt.octs sq 4) ((20 + L.length) / 4 * 16 :: fl :: (Mt.octs wn 2 ++ (Mt.octs C 2 ++ (Mt.octs ur 2 ++ (L ++ ds))))) ak 8 4 (by simp [Mt.octs_length]) (by simpa using hak)
    rw [e]; simpa only [List.append_assoc, List.cons_append, List.nil_append] using h
  have f4 : R.getD 12 0 = (20 + L.length) / 4 * 16 := by
    have h := getD_app (Mt.octs sp 2 ++ Mt.octs dp 2 ++ Mt.octs sq 4 ++ Mt.octs ak 4) (fl :: (Mt.octs wn 2 ++ (Mt.octs C 2 ++ (Mt.octs ur 2 ++ (L ++ ds))))) ((20 + L.length) / 4 * 16) 12 (by simp [Mt.octs_length])
    rw [e]; simpa only [List.append_assoc, List.cons_append, List.nil_append] using h
  have f5 : R.getD 13 0 = fl := by
    have h := getD_app (Mt.octs sp 2 ++ Mt.octs dp 2 ++ Mt.octs sq 4 ++ Mt.octs ak 4 ++ [(20 + L.length) / 4 * 16]) (Mt.octs wn 2 ++ (Mt.octs C 2 ++ (Mt.octs ur 2 ++ (L ++ ds)))) fl 13 (by simp [Mt.octs_length])
    rw [e]; simpa only [List.append_assoc, List.cons_append, List.nil_append] using h
  have f6 : Mt.numOf (seg R 14 2) = wn := by
    have h := seg_num (Mt.octs sp 2 ++ Mt.octs dp 2 ++ Mt.octs sq 4 ++ Mt.octs ak 4 ++ [(20 + L.length) / 4 * 16, fl]) (Mt.octs C 2 ++ (Mt.octs ur 2 ++ (L ++ ds))) wn 14 2 (by simp [Mt.octs_length]) (by simpa using hwn)
    rw [e]; simpa only [List.append_assoc, List.cons_append, List.nil_append] using h
  have f7 : Mt.numOf (seg R 18 2) = ur := by
    have h := seg_num (Mt.octs sp 2 ++ Mt.octs dp 2 ++ Mt.octs sq 4 ++ Mt.octs ak 4 ++ [(20 + L.length) / 4 * 16, fl] ++ Mt.octs wn 2 ++ Mt.octs C 2) (L ++ ds) ur 18 2 (by simp [Mt.octs_length]) (by simpa using hur)
    rw [e]; simpa only [List.append_assoc, List.cons_append, List.nil_append] using h
  have hh : tHd R = 20 + L.length := by unfold tHd; rw [f4]; omega
  have e2 : R = (Mt.octs sp 2 ++ Mt.octs dp 2 ++ Mt.octs sq 4 ++ Mt.octs ak 4 ++ [(20 + L.length) / 4 * 16, fl] ++ Mt.octs wn 2 ++ Mt.octs C 2 ++ Mt.octs ur 2) ++ L ++ ds := by
    rw [← hR]; unfold tcpW tcpHd; rw [hL]
  have ho : tOs R = L := by
    have h := seg_app (Mt.octs sp 2 ++ Mt.octs dp 2 ++ Mt.octs sq 4 ++ Mt.octs ak 4 ++ [(20 + L.length) / 4 * 16, fl] ++ Mt.octs wn 2 ++ Mt.octs C 2 ++ Mt.octs ur 2) L ds 20 L.length (by simp [Mt.octs_length]) rfl
    unfold tOs
    rw [hh, Nat.add_sub_cancel_left]
    rw [← e2] at h
    exact h
  refine ⟨⟨by omega, by omega, by omega, by omega, hsum⟩, hh, ?_, ?_, hRl, hRx, fun d v s => ?_⟩
  · unfold tRead
    rw [ho]
    exact hsy L.length (Nat.le_refl _)
  · have h : List.drop (20 + L.length) ((Mt.octs sp 2 ++ Mt.octs dp 2 ++ Mt.octs sq 4 ++ Mt.octs ak 4 ++ [(20 + L.length) / 4 * 16, fl] ++ Mt.octs wn 2 ++ Mt.octs C 2 ++ Mt.octs ur 2) ++ L ++ ds) = ds := List.drop_left' (by simp [Mt.octs_length]; omega)
    rw [hh]
    rw [← e2] at h
    exact h
  · unfold tP
    rw [f0, f1, f2, f3, f5, f6, f7]
end Go.Proofs.Ytgmgoilleakdcaa
