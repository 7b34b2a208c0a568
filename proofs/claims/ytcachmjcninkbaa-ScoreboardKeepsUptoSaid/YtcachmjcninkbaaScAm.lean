/- Scoreboard: what follows of an acknowledgement: the mathematics. -/
import Derived.Test.YtcachmjcninkbaaScTg
namespace Go.Proofs.Ytcachmjcninkbaa

theorem pl_subA {u a x : Nat} (_hu : u < 4294967296) (ha : a < 4294967296) (_hx : x < 4294967296) (h : pl u a ≤ pl u x) : pl a x = pl u x - pl u a := by
  unfold pl at *; omega
theorem blk_pl {u a k : Nat} (hu : u < 4294967296) (ha : a < 4294967296) (hk : k < 4294967296) (h : pl u a ≤ k) : pl a ((u + k) % 4294967296) = k - pl u a := by
  rw [pl_subA hu ha (Nat.mod_lt _ (by decide)) (by rw [pl_back hu hk]; exact h), pl_back hu hk]
def sh (k : Nat) (l : List (Nat × Nat)) : List (Nat × Nat) := l.map fun y => (y.1 - k, y.2 - k)
theorem sps_sh {u a : Nat} (hu : u < 4294967296) (ha : a < 4294967296) {l : List (Nat × Nat)} (h : ∀ y ∈ l, pl u a ≤ y.1 ∧ pl u a ≤ y.2 ∧ y.1 < 4294967296 ∧ y.2 < 4294967296) : sps a (l.map (blkU u)) = sh (pl u a) l := by
  unfold sps sh
  rw [List.map_map]
  apply List.map_congr_left
  intro y hy
  obtain ⟨h1, h2, h3, h4⟩ := h y hy
  show (pl a ((u + y.1) % 4294967296), pl a ((u + y.2) % 4294967296)) = _
  rw [blk_pl hu ha h3 h1, blk_pl hu ha h4 h2]
theorem oct_sh (k : Nat) : ∀ {l : List (Nat × Nat)}, (∀ y ∈ l, k ≤ y.1 ∧ k ≤ y.2) → oct (sh k l) = oct l
  | [], _ => rfl
  | y :: l, h => by
    have h1 := h y (by simp)
    have ih := oct_sh k (l := l) (fun z hz => h z (List.mem_cons_of_mem _ hz))
    show oct ((y.1 - k, y.2 - k) :: sh k l) = _
    simp only [oct, ih]
    omega
theorem okL_sh {sent k : Nat} {l : List (Nat × Nat)} (h : okL sent k l = true) : okL (sent - k) 0 (sh k l) = true := by
  obtain ⟨⟨h1, h2⟩, h3⟩ := (okL_apt l k).1 h
  refine (okL_apt _ 0).2 ⟨⟨?_, ?_⟩, ?_⟩
  · unfold sh
    rw [List.pairwise_map]
    refine h1.imp_of_mem (fun {x y} hx hy hxy => ?_)
    have := h3 x hx; have := h3 y hy
    show x.2 - k < y.1 - k
    omega
  · intro z hz
    obtain ⟨y, hy, rfl⟩ := List.mem_map.1 hz
    have := h3 y hy
    show y.1 - k ≤ y.2 - k
    omega
  · intro z hz
    obtain ⟨y, hy, rfl⟩ := List.mem_map.1 hz
    have := h3 y hy
    refine ⟨?_, ?_, ?_⟩
    · show y.1 - k < y.2 - k; omega
    · show y.2 - k ≤ sent - k; omega
    · show 0 < y.1 - k; omega
theorem fr_ok {una st ua : Nat} {fs : List (Nat × Nat)} (hu : una < 4294967296) (hs : st ≤ 1073741824) (hf : small2 fs) : ∀ y ∈ frS una st ua fs, ua < y.1 ∧ y.1 < y.2 ∧ y.2 ≤ st := by
  intro y hy
  unfold frS sps at hy
  obtain ⟨b, hb, rfl⟩ := List.mem_map.1 hy
  obtain ⟨hbf, hc⟩ := List.mem_filter.1 hb
  unfold cntB at hc
  simp only [Bool.and_eq_true, decide_eq_true_eq] at hc
  obtain ⟨c1, c2, c3⟩ := hc
  obtain ⟨b1, b2⟩ := hf b hbf
  have e : pl una b.2 = pl una b.1 + pl b.1 b.2 := by
    unfold pl at *; omega
  refine ⟨c2, ?_, ?_⟩
  · show pl una b.1 < pl una b.2; omega
  · show pl una b.2 ≤ st; omega
theorem left_ok {st ua : Nat} {be : List (Nat × Nat)} (h : okL st 0 be = true) : okL st ua (left ua be) = true := by
  obtain ⟨⟨h1, h2⟩, h3⟩ := (okL_apt be 0).1 h
  refine (okL_apt _ ua).2 ⟨⟨h1.filter _, fun x hx => h2 x (List.mem_filter.1 hx).1⟩, fun x hx => ?_⟩
  obtain ⟨m1, m2⟩ := List.mem_filter.1 hx
  have := h3 x m1
  simp only [dl, Bool.not_eq_true', decide_eq_false_iff_not] at m2
  exact ⟨this.1, this.2.1, by omega⟩
/-- The blocks that an acknowledgement leaves. -/
theorem af_ok {st ua : Nat} {be fr s1 : List (Nat × Nat)} (hb : okL st 0 be = true) (hf : ∀ y ∈ fr, ua < y.1 ∧ y.1 < y.2 ∧ y.2 ≤ st) (hp : s1.Perm (left ua be ++ fr)) (hr : rising s1) : okL st ua (tog s1) = true ∧ ∀ p, cov (left ua be) p = true → cov (tog s1) p = true := by
  obtain ⟨_, h3⟩ := (okL_apt _ ua).1 (left_ok (ua := ua) hb)
  have hall : ∀ x ∈ s1, ua < x.1 ∧ x.1 < x.2 ∧ x.2 ≤ st := by
    intro x hx
    rcases List.mem_append.1 (hp.mem_iff.1 hx) with h | h
    · have := h3 x h; exact ⟨this.2.2, this.1, this.2.1⟩
    · exact hf x h
  have hm := mi_tog hr (fun x hx => by have := hall x hx; omega)
  have hne := tog_ne (fun x hx => (hall x hx).2.1)
  refine ⟨(okL_apt _ ua).2 ⟨hm.apt, fun y hy => ?_⟩, fun p hc => ?_⟩
  · obtain ⟨q, hq, e1⟩ := hm.low y hy
    obtain ⟨r, hr2, e2⟩ := hm.high y hy
    have h1 := hall q hq
    have h2 := hall r hr2
    exact ⟨hne y hy, by omega, by omega⟩
  · rw [hm.cov]
    unfold cov at *
    obtain ⟨x, hx, hxp⟩ := List.any_eq_true.1 hc
    exact List.any_eq_true.2 ⟨x, hp.mem_iff.2 (List.mem_append_left _ hx), hxp⟩
structure AF (una nxt high : Nat) (bs : List (Nat × Nat)) (ack : Nat) (l : List (Nat × Nat)) (n : Int) : Prop where
  le : pl una ack ≤ pl una nxt
  ok : ∃ af, okL (pl una nxt) (pl una ack) af = true ∧ af.length ≤ 1024 ∧ (∀ p, cov (left (pl una ack) (sps una bs)) p = true → cov af p = true) ∧ l = af.map (blkU una) ∧
    ∃ s2 : List (Nat × Nat), s2.Perm (sps una bs ++ af ++ [(0, pl una ack)]) ∧ rising s2 ∧ n = oct (tog s2) - oct (sps una bs)
theorem ack_af {una nxt high : Nat} {bs : List (Nat × Nat)} {ack : Nat} {fs : List (Nat × Nat)} {u x hh : Nat} {l : List (Nat × Nat)} {n : Int} (hu : una < 4294967296) (hf : small2 fs) (h : AckIs una nxt high bs ack fs 0 u x hh l n) :
    okS una nxt high bs = true ∧ u = ack ∧ x = nxt ∧ hh = (una + max (pl una high) (pl una ack)) % 4294967296 ∧ AF una nxt high bs ack l n := by
  rcases h with ⟨_, h, _⟩ | ⟨_, _, h, _⟩ | ⟨hk, hle, _, e1, e2, e3, s1, s2, af, hp1, hr1, haf, hp2, hr2, hl, hn⟩
  · omega
  · omega
  · obtain ⟨k1, k2, k3, k4⟩ := okS_iff.1 hk
    have h1 := af_ok k4 (fr_ok hu k1 hf) hp1 hr1
    refine ⟨hk, e1, e2, e3, hle, af, ?_, ?_, ?_, hl, s2, hp2, hr2, hn⟩
    · rw [haf]; split
      · exact h1.1
      · exact left_ok k4
    · rw [haf]; split
      · assumption
      · exact Nat.le_trans (left_le _ _) (by rw [sps_len]; exact k3)
    · rw [haf]; split
      · exact h1.2
      · exact fun _ h => h
/-- The state that follows may be. -/
theorem ack_next {una nxt high : Nat} {bs : List (Nat × Nat)} {ack : Nat} {fs : List (Nat × Nat)} {u x hh : Nat} {l : List (Nat × Nat)} {n : Int} (hu : una < 4294967296) (hx : nxt < 4294967296) (ha : ack < 4294967296) (hf : small2 fs) (h : AckIs una nxt high bs ack fs 0 u x hh l n) : okS u x hh l = true := by
  obtain ⟨hk, rfl, rfl, rfl, hle, af, hok, hlen, _, rfl, _⟩ := ack_af hu hf h
  obtain ⟨k1, k2, k3, k4⟩ := okS_iff.1 hk
  obtain ⟨_, h3⟩ := (okL_apt _ _).1 hok
  have hpx := pl_subA hu ha hx hle
  have hm : max (pl una high) (pl una u) < 4294967296 := by omega
  have hph := blk_pl (k := max (pl una high) (pl una u)) hu ha hm (by omega)
  refine okS_iff.2 ⟨by omega, ?_, by rw [List.length_map]; exact hlen, ?_⟩
  · rw [hph, hpx]; omega
  · rw [hpx, sps_sh hu ha (fun y hy => by have := h3 y hy; omega)]
    exact okL_sh hok
/-- What came newly. -/
theorem ack_sum {una nxt high : Nat} {bs : List (Nat × Nat)} {ack : Nat} {fs : List (Nat × Nat)} {u x hh : Nat} {l : List (Nat × Nat)} {n : Int} (hu : una < 4294967296) (ha : ack < 4294967296) (hf : small2 fs) (h : AckIs una nxt high bs ack fs 0 u x hh l n)
    (hin : ∀ y ∈ sps una bs, ¬ (y.1 ≤ pl una ack ∧ pl una ack < y.2)) : n = (pl una ack : Int) + oct (sps ack l) - oct (sps una bs) ∧ 0 ≤ n ∧ (pl una ack = pl una nxt → l = []) := by
  obtain ⟨hk, rfl, rfl, rfl, hle, af, hok, hlen, hcv, rfl, s2, hp2, hr2, hn⟩ := ack_af hu hf h
  obtain ⟨k1, k2, k3, k4⟩ := okS_iff.1 hk
  obtain ⟨hapt, h3⟩ := (okL_apt _ _).1 hok
  obtain ⟨bapt, b3⟩ := (okL_apt _ _).1 k4
  generalize hbe : sps una bs = be at *
  generalize hst : pl una x = st at *
  have hsp := sps_sh hu ha (l := af) (fun y hy => by have := h3 y hy; omega)
  generalize hua : pl una u = ua at *
  have hall : ∀ z ∈ s2, z.1 ≤ z.2 ∧ z.2 ≤ st := by
    intro z hz
    rcases List.mem_append.1 (hp2.mem_iff.1 hz) with h | h
    · rcases List.mem_append.1 h with h | h
      · have := b3 z h; omega
      · have := h3 z h; omega
    · simp at h; subst h; exact ⟨Nat.zero_le _, hle⟩
  have hm := mi_tog hr2 (fun z hz => (hall z hz).1)
  have hcov : ∀ p, cov (tog s2) p = (cov be p || cov af p || decide (p < ua)) := by
    intro p
    rw [hm.cov, show cov s2 p = cov (be ++ af ++ [(0, ua)]) p from by unfold cov; rw [Bool.eq_iff_iff, List.any_eq_true, List.any_eq_true]; exact ⟨fun ⟨x, hx, h⟩ => ⟨x, hp2.mem_iff.1 hx, h⟩, fun ⟨x, hx, h⟩ => ⟨x, hp2.mem_iff.2 hx, h⟩⟩, cov_app, cov_app, cov_one]
    simp
  have ho2 := oct_cnt (n := st) hm.apt (fun y hy => by obtain ⟨q, hq, e⟩ := hm.high y hy; have := hall q hq; omega)
  have hoa := oct_cnt (n := st) hapt (fun y hy => (h3 y hy).2.1)
  have hob := oct_cnt (n := st) bapt (fun y hy => (b3 y hy).2.1)
  have hsub : ∀ p, cov be p = true → (decide (p < ua) || cov af p) = true := by
    intro p hc
    unfold cov at hc
    obtain ⟨z, hz, hzp⟩ := List.any_eq_true.1 hc
    simp only [Bool.and_eq_true, decide_eq_true_eq] at hzp
    by_cases hl : z.1 ≤ ua
    · have := hin z hz
      have hp : p < ua := by omega
      simp [hp]
    · have : cov af p = true := hcv p (by
        unfold cov
        exact List.any_eq_true.2 ⟨z, List.mem_filter.2 ⟨hz, by simp [dl, hl]⟩, by simp only [Bool.and_eq_true, decide_eq_true_eq]; exact hzp⟩)
      rw [this]; simp
  have hcnt : cnt st (cov (tog s2)) = ua + cnt st (cov af) := by
    have e1 : cnt st (cov (tog s2)) = cnt st (fun p => (decide (0 ≤ p) && decide (p < ua)) || cov af p) := cnt_congr st (fun p _ => by
      rw [hcov, Bool.eq_iff_iff]
      constructor
      · intro h
        simp only [Bool.or_eq_true, decide_eq_true_eq] at h
        rcases h with (h | h) | h
        · have := hsub p h; simpa using this
        · simp [h]
        · simp [h]
      · intro h
        simp only [Bool.or_eq_true, Bool.and_eq_true, decide_eq_true_eq] at h ⊢
        rcases h with h | h
        · exact .inr h.2
        · exact .inl (.inr h))
    rw [e1, cnt_or, cnt_in]
    · omega
    · intro p _ ⟨hp, hc⟩
      simp only [Bool.and_eq_true, decide_eq_true_eq] at hp
      unfold cov at hc
      obtain ⟨z, hz, hzp⟩ := List.any_eq_true.1 hc
      simp only [Bool.and_eq_true, decide_eq_true_eq] at hzp
      have := h3 z hz
      omega
  have hmono : cnt st (cov be) ≤ cnt st (cov (tog s2)) := cnt_mono st (fun p _ hc => by rw [hcov, hc]; rfl)
  have hosh : oct (sps u (af.map (blkU una))) = oct af := by rw [hsp]; exact oct_sh ua (fun y hy => by have := h3 y hy; omega)
  refine ⟨?_, ?_, fun e => ?_⟩
  · rw [hosh, hoa, hn, ho2, hcnt]; omega
  · rw [hn, ho2, hob]; omega
  · have : af = [] := by
      cases af with
      | nil => rfl
      | cons z l => have := h3 z (by simp); omega
    rw [this]; rfl
end Go.Proofs.Ytcachmjcninkbaa
