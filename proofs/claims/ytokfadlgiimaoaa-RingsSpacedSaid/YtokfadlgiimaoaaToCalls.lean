/- What toeplitz's Hash, Shard and Check answer. -/
import Derived.Test.YtokfadlgiimaoaaToHash
import Derived.Test.YtokfadlgiimaoaaGInts
namespace Go.Proofs.Ytokfadlgiimaoaa
open Go.RowKit

/-- The error of Hash, and its answer. -/
def thE (ks xs : List Nat) : Int := if ks.length = 40 ∧ xs.length ≤ 36 then 0 else 3
def thV (ks xs : List Nat) : Nat := if ks.length = 40 ∧ xs.length ≤ 36 then th ks xs (8 * xs.length) else 0

theorem thE_ok {ks xs : List Nat} (h : ks.length = 40) (h2 : xs.length ≤ 36) : thE ks xs = 0 := if_pos ⟨h, h2⟩
theorem thV_ok {ks xs : List Nat} (h : ks.length = 40) (h2 : xs.length ≤ 36) : thV ks xs = th ks xs (8 * xs.length) := if_pos ⟨h, h2⟩
theorem thE_no {ks xs : List Nat} (h : ¬ (ks.length = 40 ∧ xs.length ≤ 36)) : thE ks xs = 3 := if_neg h
theorem thV_no {ks xs : List Nat} (h : ¬ (ks.length = 40 ∧ xs.length ≤ 36)) : thV ks xs = 0 := if_neg h
theorem thV_lt (ks xs : List Nat) : thV ks xs < 4294967296 := by unfold thV; split; exact th_lt _ _ _; omega

/-- May all numbers of a table be? -/
def tsIn (ts : List Int) : Bool := (List.range 128).all fun i => decide (0 ≤ ts.getD i 0 ∧ ts.getD i 0 < 16)
/-- A table's error. -/
def ctE (ts : List Int) : Int := if ts.length = 128 then (if tsIn ts = true then 0 else 4) else 3

theorem tsIn_iff (ts : List Int) : tsIn ts = true ↔ ∀ i, i < 128 → 0 ≤ ts.getD i 0 ∧ ts.getD i 0 < 16 := by
  unfold tsIn
  simp only [List.all_eq_true, List.mem_range, decide_eq_true_eq]
theorem ctE_len {ts : List Int} (h : ts.length ≠ 128) : ctE ts = 3 := if_neg h
theorem ctE_bad {ts : List Int} (h : ts.length = 128) (k : Nat) (hk : k < 128) (hb : ¬ (0 ≤ ts.getD k 0 ∧ ts.getD k 0 < 16)) : ctE ts = 4 := by
  unfold ctE
  rw [if_pos h, if_neg (fun hh => hb ((tsIn_iff ts).1 hh k hk))]
theorem ctE_ok {ts : List Int} (h : ts.length = 128) (hb : ∀ i, i < 128 → 0 ≤ ts.getD i 0 ∧ ts.getD i 0 < 16) : ctE ts = 0 := by
  unfold ctE
  rw [if_pos h, if_pos ((tsIn_iff ts).2 hb)]
theorem ctE_zero {ts : List Int} (h : ctE ts = 0) : ts.length = 128 ∧ ∀ i, i < 128 → 0 ≤ ts.getD i 0 ∧ ts.getD i 0 < 16 := by
  unfold ctE at h
  split at h
  · next hl =>
    split at h
    · next hi => exact ⟨hl, (tsIn_iff ts).1 hi⟩
    · cases h
  · cases h

/-- The error of Check. -/
def ckE (ks : List Nat) (ts : List Int) : Int := if ks.length = 40 then ctE ts else 3
/-- The answer of Shard. -/
def shV (ts : List Int) (h : Nat) : Int := if ctE ts = 0 then ts.getD (h % 128) 0 else 0

theorem Its.isSome {w : World} {a : Option Addr} {ts : List Int} (h : Its w a ts) (hx : 0 < ts.length) : ∃ b off, a = some ⟨b, off, none⟩ ∧ b < w.heap.size ∧ ∀ i, i < ts.length → w.cell? ⟨b, off + i, none⟩ = some (.int .i64 (ts.getD i 0)) := by
  rcases h.2 with rfl | h
  · simp at hx
  · exact h

set_option maxRecDepth 100000 in
set_option maxHeartbeats 1000000 in
theorem hash_all (ka : Option Addr) (ks : List Nat) (kc : Nat) (a : Option Addr) (xs : List Nat) (cap : Nat) (w : World) (hk : Bts w ka ks) (hx : Bts w a xs) (hkc : ks.length ≤ kc) (hkm : kc ≤ 9223372036854775807) (hxm : xs.length ≤ 9223372036854775807) :
    Calls Try.prog 42 #[.slice ka ks.length kc, .slice a xs.length cap] w fun e w' => e = .returned (.tuple #[.int .u32 (thV ks xs : Nat), .int .i64 (thE ks xs)]) ∧ Below w.heap.size w w' := by
  by_cases h40 : ks.length = 40
  · by_cases h36 : xs.length ≤ 36
    · rw [thE_ok h40 h36, thV_ok h40 h36]
      obtain ⟨b, off, rfl, _, _⟩ := hk.isSome (by omega)
      have hw := wordsOf_any b off kc ks w hk h40 (by omega) hkm
      have hh := fun W hb => hash_any a xs cap ks W (hx.below (w' := W) hb) h36
      have HW := Lib.hid hw
      have HH := Lib.hid hh
      rw [h40]
      clear hw hh hk hx h40
      have hl : (xs.length : Int) ≤ 36 := by omega
      go_enter Try.func42, Try.ntmps42
      go_wp2_with fail
      refine HW.out.mono ?_
      rintro e w1 ⟨rfl, b1⟩
      go_wp2_with fail
      refine (HH.out _ b1).mono ?_
      rintro e w2 ⟨rfl, b2⟩
      have q := b1.trans (b2.mono b1.size)
      go_wp2
      go_ret2
      exact ⟨rfl, q⟩
    · rw [thE_no (by omega), thV_no (by omega)]
      rw [h40]
      have hl : ¬ (xs.length : Int) ≤ 36 := by omega
      clear hk hx h40
      go_enter Try.func42, Try.ntmps42
      go_wp2
      go_ret2
      exact ⟨rfl, Below.refl _ _⟩
  · rw [thE_no (by omega), thV_no (by omega)]
    have hl : ((ks.length : Int) == 40) = false := by rw [beq_eq_false_iff_ne]; omega
    have hl2 : ((ks.length : Int) != 40) = true := by rw [bne_iff_ne]; omega
    clear hk hx
    go_enter Try.func42, Try.ntmps42
    go_wp2
    go_ret2
    exact ⟨rfl, Below.refl _ _⟩

set_option maxHeartbeats 400000 in
theorem isShard_any (n : Int) (w : World) : Calls Try.prog 61 #[.int .i64 n] w fun e w' => e = .returned (.bool (decide (0 ≤ n ∧ n < 16))) ∧ w = w' := by
  by_cases h1 : 0 ≤ n <;> by_cases h2 : n < 16
  all_goals
    go_enter Try.func61, Try.ntmps61
    go_wp2
    go_ret
    exact ⟨by simp [h1, h2], rfl⟩

set_option maxRecDepth 100000 in
set_option maxHeartbeats 1000000 in
theorem checkTable_any (a : Option Addr) (ts : List Int) (cap : Nat) (w : World) (hx : Its w a ts) (_ : ts.length ≤ 9223372036854775807) :
    Calls Try.prog 51 #[.slice a ts.length cap] w fun e w' => e = .returned (.int .i64 (ctE ts)) ∧ w = w' := by
  by_cases h : ts.length = 128
  · have bad := fun k hk => ctE_bad (ts := ts) h k hk
    have ok := ctE_ok (ts := ts) h
    obtain ⟨b, off, rfl, hb, hc⟩ := hx.isSome (by omega)
    have HB := Lib.hid bad
    have HO := Lib.hid ok
    have HC := Lib.hid hc
    obtain ⟨e, he⟩ : ∃ e, ctE ts = e := ⟨_, rfl⟩
    rw [h] at HC ⊢
    rw [he] at HB HO ⊢
    clear hx bad ok hc h he
    go_enter Try.func51, Try.ntmps51
    go_wp2
    go_loop [10, 4] (fun i _ => ∃ k : Nat, k ≤ 128 ∧ i = .int .i64 k ∧ ∀ j, j < k → 0 ≤ ts.getD j 0 ∧ ts.getD j 0 < 16) (fun i _ => 128 - (intOf i).toNat)
    case atStart => exact ⟨0, by omega, rfl, fun j hj => by omega⟩
    case round =>
      obtain ⟨k, hk, rfl, hall⟩ := hrel
      have HA := Lib.hid hall
      clear hall
      by_cases hlt : k < 128
      · have hc := HC.out k hlt
        have bad := HB.out k hlt
        have more : (0 ≤ ts.getD k 0 ∧ ts.getD k 0 < 16) → ∀ j, j < k + 1 → 0 ≤ ts.getD j 0 ∧ ts.getD j 0 < 16 := fun h j hj => by
          by_cases e : j = k
          · subst e; exact h
          · exact HA.out j (by omega)
        have HM := Lib.hid more
        have HBd := Lib.hid bad
        clear more bad
        obtain ⟨t, ht⟩ : ∃ t, ts.getD k 0 = t := ⟨_, rfl⟩
        rw [ht] at hc HM HBd
        clear ht
        have S := isShard_any t w
        by_cases hin : 0 ≤ t ∧ t < 16
        · rw [decide_eq_true hin] at S
          have HS := Lib.hid S
          have HI := Lib.hid hin
          clear S hin
          go_wp2_with fail
          refine HS.out.mono ?_
          rintro e w' ⟨rfl, rfl⟩
          go_wp2
          go_round
          case rel => exact ⟨k + 1, by omega, by go_num, HM.out HI.out⟩
          case measure => simp [intOf]; omega
        · rw [decide_eq_false hin] at S
          have HS := Lib.hid S
          have he := HBd.out hin
          have HE := Lib.hid he
          clear S hin HBd he
          go_wp2_with fail
          refine HS.out.mono ?_
          rintro e w' ⟨rfl, rfl⟩
          go_wp2
          go_ret
          exact ⟨by rw [HE.out]; rfl, rfl⟩
      · obtain rfl : k = 128 := by omega
        have he := HO.out HA.out
        have HE := Lib.hid he
        clear he HO HB HC HA
        go_wp2
        go_ret
        exact ⟨by rw [HE.out]; rfl, rfl⟩
  · rw [ctE_len h]
    have hl2 : ((ts.length : Int) != 128) = true := by rw [bne_iff_ne]; omega
    have hl3 : ((ts.length : Int) == 128) = false := by rw [beq_eq_false_iff_ne]; omega
    clear hx
    go_enter Try.func51, Try.ntmps51
    go_wp2
    go_ret
    exact ⟨rfl, rfl⟩

set_option maxRecDepth 100000 in
set_option maxHeartbeats 1000000 in
theorem checkT_any (ka : Option Addr) (ks : List Nat) (kc : Nat) (a : Option Addr) (ts : List Int) (cap : Nat) (w : World) (hx : Its w a ts) (hl : ts.length ≤ 9223372036854775807) :
    Calls Try.prog 37 #[.slice ka ks.length kc, .slice a ts.length cap] w fun e w' => e = .returned (.int .i64 (ckE ks ts)) ∧ w = w' := by
  have hc := checkTable_any a ts cap w hx hl
  have HC := Lib.hid hc
  by_cases h : ks.length = 40
  · have he : ckE ks ts = ctE ts := if_pos h
    rw [he, h]
    clear hc hx he h hl
    go_enter Try.func37, Try.ntmps37
    go_wp2_with fail
    refine HC.out.mono ?_
    rintro e w' ⟨rfl, rfl⟩
    go_wp2
    go_ret
    exact ⟨rfl, rfl⟩
  · have he : ckE ks ts = 3 := if_neg h
    rw [he]
    have hl2 : ((ks.length : Int) != 40) = true := by rw [bne_iff_ne]; omega
    have hl3 : ((ks.length : Int) == 40) = false := by rw [beq_eq_false_iff_ne]; omega
    clear hc hx he h hl HC
    go_enter Try.func37, Try.ntmps37
    go_wp2
    go_ret
    exact ⟨rfl, rfl⟩

set_option maxRecDepth 100000 in
set_option maxHeartbeats 1000000 in
theorem shard_any (a : Option Addr) (ts : List Int) (cap h : Nat) (w : World) (hx : Its w a ts) (hl : ts.length ≤ 9223372036854775807) (hh : h < 4294967296) :
    Calls Try.prog 44 #[.slice a ts.length cap, .int .u32 h] w fun e w' => e = .returned (.tuple #[.int .i64 (shV ts h), .int .i64 (ctE ts)]) ∧ w = w' := by
  have hc := checkTable_any a ts cap w hx hl
  by_cases h0 : ctE ts = 0
  · have he : shV ts h = ts.getD (h % 128) 0 := if_pos h0
    have h128 := (ctE_zero h0).1
    obtain ⟨b, off, rfl, _, hcell⟩ := hx.isSome (by omega)
    have hc1 := hcell (h % 128) (by omega)
    rw [he]
    rw [h0] at hc ⊢
    rw [h128] at hc ⊢
    have HC := Lib.hid hc
    obtain ⟨m, hm⟩ : ∃ m, h % 128 = m := ⟨_, rfl⟩
    have hm1 : (h : Int) % 128 = (m : Int) := by omega
    have hm2 : m < 128 := by omega
    rw [hm] at hc1 ⊢
    generalize ts.getD m 0 = t at hc1 ⊢
    clear hc hx he h0 h128 hl hcell hm
    go_enter Try.func44, Try.ntmps44
    go_wp2_with fail
    refine HC.out.mono ?_
    rintro e w' ⟨rfl, rfl⟩
    go_wp2
    go_ret2
    exact ⟨rfl, rfl⟩
  · have he : shV ts h = 0 := if_neg h0
    rw [he]
    have HC := Lib.hid hc
    generalize ctE ts = er at h0 HC ⊢
    have n1 : (er != 0) = true := by rw [bne_iff_ne]; exact h0
    have n2 : (er == 0) = false := by rw [beq_eq_false_iff_ne]; exact h0
    clear hc hx he hl
    go_enter Try.func44, Try.ntmps44
    go_wp2_with fail
    refine HC.out.mono ?_
    rintro e w' ⟨rfl, rfl⟩
    go_wp2
    go_ret2
    exact ⟨rfl, rfl⟩
end Go.Proofs.Ytokfadlgiimaoaa
