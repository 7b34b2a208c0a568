/- Toeplitz's hash, tables and tuples by the document's own answer. -/
import Derived.Test.YtokfadlgiimaoaaToCalls
import Derived.Test.YtokfadlgiimaoaaGCopied
import Derived.Test.YtokfadlgiimaoaaGAppend
namespace Go.Proofs.Ytokfadlgiimaoaa
open Go.RowKit

theorem u32_and_one (n : Nat) (h : n < 4294967296) : bits .and .u32 (n : Int) 1 = ((n % 2 : Nat) : Int) := by
  rw [show (1 : Int) = ((1 : Nat) : Int) from rfl, u32_and_nat n 1 h (by omega), Nat.and_one_is_mod]

set_option maxRecDepth 100000 in
set_option maxHeartbeats 1000000 in
/-- One bit. -/
theorem refbit_any (a : Option Addr) (xs : List Nat) (cap p : Nat) (w : World) (hx : Bts w a xs) (hp : p < 8 * xs.length) (hl : xs.length ≤ 40) :
    Calls Try.prog 49 #[.slice a xs.length cap, .int .i64 p] w fun e w' => e = .returned (.int .u32 (tbit xs p : Nat)) ∧ w = w' := by
  obtain ⟨b, off, rfl, hb, hcell⟩ := hx.isSome (by omega)
  obtain ⟨i, hi⟩ : ∃ i, p / 8 = i := ⟨_, rfl⟩
  obtain ⟨s, hs⟩ : ∃ s, p % 8 = s := ⟨_, rfl⟩
  have hil : i < xs.length := by omega
  have hc := hcell i hil
  have hx1 := hx.1 _ (Mt.getD_mem xs i hil)
  have ht : tbit xs p = xs.getD i 0 / 2 ^ (7 - s) % 2 := by unfold tbit; rw [hi, hs]
  rw [ht]
  generalize xs.getD i 0 = x at hc hx1 ⊢
  have hs8 : s < 8 := by omega
  have hd : (p : Int) / 8 = (i : Int) := by omega
  have hm : (p : Int) % 8 = (s : Int) := by omega
  have hd2 : (p : Int).tdiv 8 = (i : Int) := by rw [Int.tdiv_eq_ediv_of_nonneg (by omega)]; exact hd
  have hm2 : (p : Int).tmod 8 = (s : Int) := by rw [Int.tmod_eq_emod_of_nonneg (by omega)]; exact hm
  have hle : x / 2 ^ (7 - s) < 256 := Nat.lt_of_le_of_lt (Nat.div_le_self _ _) hx1
  have e1 : (x : Int) / 2 ^ (7 - s) = ((x / 2 ^ (7 - s) : Nat) : Int) := by simp
  generalize x / 2 ^ (7 - s) = y at e1 hle ⊢
  have ha := u32_and_one y (by omega)
  have n1 : ¬ ((7 : Int) - (s : Int) < 0) := by omega
  have i1 : (i : Int) < (xs.length : Int) := by omega
  have hw : IntKind.u32.wrap (y : Int) = (y : Int) := by rw [IntKind.wrap_u32]; omega
  clear hx hcell ht hi hs hp
  go_enter Try.func49, Try.ntmps49
  go_wp2
  go_ret
  exact ⟨rfl, rfl⟩

set_option maxRecDepth 100000 in
set_option maxHeartbeats 1000000 in
theorem refhash_ok (ka : Option Addr) (ks : List Nat) (kc : Nat) (a : Option Addr) (xs : List Nat) (cap : Nat) (w : World) (hk : Bts w ka ks) (hx : Bts w a xs) (h40 : ks.length = 40) (h36 : xs.length ≤ 36) :
    Calls Try.prog 29 #[.slice ka ks.length kc, .slice a xs.length cap] w fun e w' => e = .returned (.tuple #[.int .u32 (th ks xs (8 * xs.length) : Nat), .int .i64 0]) ∧ Below w.heap.size w w' := by
  have hkb := fun p W hp hb => refbit_any ka ks kc p W (hk.below (w' := W) hb) hp (by omega)
  have hxb := fun p W hp hb => refbit_any a xs cap p W (hx.below (w' := W) hb) hp (by omega)
  rw [h40] at hkb ⊢
  have KB := Lib.hid hkb
  have XB := Lib.hid hxb
  have hl : (xs.length : Int) ≤ 36 := by omega
  clear hkb hxb hk hx h40
  go_enter Try.func29, Try.ntmps29
  go_wp2
  go_loop [6, 7, 8, 9] (fun h i _ _ => ∃ k : Nat, k ≤ 8 * xs.length ∧ i = .int .i64 k ∧ h = .int .u32 (th ks xs k : Nat)) (fun _ i _ _ => 8 * xs.length - (intOf i).toNat)
  case atStart => exact ⟨0, by omega, rfl, rfl⟩
  case round =>
    obtain ⟨k, hk, rfl, rfl⟩ := hrel
    by_cases hlt : k < 8 * xs.length
    · have hc : (k : Int) < 8 * (xs.length : Int) := by omega
      have hB := XB.out k w hlt (Below.refl _ _)
      have hth : th ks xs (k + 1) = if tbit xs k = 1 then th ks xs k ^^^ tw ks k 32 else th ks xs k := rfl
      have htl := tbit_lt xs k
      have l1 := th_lt ks xs k
      have l2 := tw_lt ks k 32
      generalize tbit xs k = t at hB hth htl
      obtain rfl | rfl : t = 0 ∨ t = 1 := by omega
      · have ht : th ks xs (k + 1) = th ks xs k := hth
        have HT := Lib.hid ht
        have HB := Lib.hid hB
        clear ht hth hB
        generalize th ks xs k = s0 at HT l1 ⊢
        go_wp2_with fail
        refine HB.out.mono ?_
        rintro e w' ⟨rfl, rfl⟩
        go_wp2
        go_round
        case rel => exact ⟨k + 1, by omega, by go_num, by rw [HT.out]⟩
        case measure => simp [intOf]; omega
      · have ht : th ks xs (k + 1) = th ks xs k ^^^ tw ks k 32 := hth
        have HT := Lib.hid ht
        have HB := Lib.hid hB
        clear ht hth hB
        generalize th ks xs k = s0 at HT l1 ⊢
        go_wp2_with fail
        refine HB.out.mono ?_
        rintro e w' ⟨rfl, rfl⟩
        go_wp2_with fail
        go_loop [8, 9] (fun v j => ∃ m : Nat, m ≤ 32 ∧ j = .int .i64 m ∧ v = .int .u32 (tw ks k m : Nat)) (fun _ j => 32 - (intOf j).toNat)
        case atStart => exact ⟨0, by omega, rfl, rfl⟩
        case round =>
          obtain ⟨m, hm, rfl, rfl⟩ := hrel
          by_cases hm2 : m < 32
          · have hK := KB.out (k + m) w (by omega) (Below.refl _ _)
            rw [show ((k + m : Nat) : Int) = (k : Int) + (m : Int) by omega] at hK
            have htw : tw ks k (m + 1) = tw ks k m * 2 + tbit ks (k + m) := rfl
            have lm := tw_lt ks k (m + 1)
            have lp : 2 ^ (m + 1) ≤ 2 ^ 32 := Nat.pow_le_pow_right (by omega) (by omega)
            have hb2 := tbit_lt ks (k + m)
            generalize tbit ks (k + m) = t at hK htw hb2
            have hor := or_add (tw ks k m) t 1 (by omega)
            rw [Nat.pow_one, ← htw] at hor
            have lq : tw ks k m * 2 < 4294967296 := by omega
            have lr : tw ks k (m + 1) < 4294967296 := by omega
            have hsh : (tw ks k m : Int) * 2 % 4294967296 = ((tw ks k m * 2 : Nat) : Int) := by omega
            have hor2 := u32_or_nat (tw ks k m * 2) t lq (by omega)
            rw [hor] at hor2
            have HTW := Lib.hid htw
            have HK := Lib.hid hK
            clear htw hK hor lm lp
            generalize tw ks k m * 2 = u at hsh hor2 lq
            generalize tw ks k m = v0 at hsh ⊢
            go_wp2_with fail
            refine HK.out.mono ?_
            rintro e w' ⟨rfl, rfl⟩
            go_wp2
            go_round
            case rel => exact ⟨m + 1, by omega, by go_num, rfl⟩
            case measure => simp [intOf]; omega
          · obtain rfl : m = 32 := by omega
            have hxr := u32_xor_nat s0 (tw ks k 32) l1 l2
            generalize tw ks k 32 = v0 at hxr HT l2 ⊢
            go_wp2
            go_round
            case rel => exact ⟨k + 1, by omega, by go_num, by rw [HT.out]⟩
            case measure => simp [intOf]; omega
    · obtain rfl : k = 8 * xs.length := by omega
      have hc : ¬ (((8 * xs.length : Nat) : Int) < 8 * (xs.length : Int)) := by omega
      go_wp2
      go_ret2
      exact ⟨rfl, Below.refl _ _⟩

set_option maxRecDepth 100000 in
set_option maxHeartbeats 1000000 in
theorem refhash_all (ka : Option Addr) (ks : List Nat) (kc : Nat) (a : Option Addr) (xs : List Nat) (cap : Nat) (w : World) (hk : Bts w ka ks) (hx : Bts w a xs) :
    Calls Try.prog 29 #[.slice ka ks.length kc, .slice a xs.length cap] w fun e w' => e = .returned (.tuple #[.int .u32 (thV ks xs : Nat), .int .i64 (thE ks xs)]) ∧ Below w.heap.size w w' := by
  by_cases h40 : ks.length = 40
  · by_cases h36 : xs.length ≤ 36
    · rw [thE_ok h40 h36, thV_ok h40 h36]
      exact refhash_ok ka ks kc a xs cap w hk hx h40 h36
    · rw [thE_no (by omega), thV_no (by omega)]
      rw [h40]
      have hl : ¬ (xs.length : Int) ≤ 36 := by omega
      clear hk hx h40
      go_enter Try.func29, Try.ntmps29
      go_wp2
      go_ret2
      exact ⟨rfl, Below.refl _ _⟩
  · rw [thE_no (by omega), thV_no (by omega)]
    have hl : ((ks.length : Int) == 40) = false := by rw [beq_eq_false_iff_ne]; omega
    have hl2 : ((ks.length : Int) != 40) = true := by rw [bne_iff_ne]; omega
    clear hk hx
    go_enter Try.func29, Try.ntmps29
    go_wp2
    go_ret2
    exact ⟨rfl, Below.refl _ _⟩

set_option maxRecDepth 100000 in
set_option maxHeartbeats 1000000 in
theorem refct_any (a : Option Addr) (ts : List Int) (cap : Nat) (w : World) (hx : Its w a ts) (_ : ts.length ≤ 9223372036854775807) :
    Calls Try.prog 59 #[.slice a ts.length cap] w fun e w' => e = .returned (.int .i64 (ctE ts)) ∧ Below w.heap.size w w' := by
  by_cases h : ts.length = 128
  · have bad := fun k hk => ctE_bad (ts := ts) h k hk
    have ok := ctE_ok (ts := ts) h
    obtain ⟨b, off, rfl, hb, hc⟩ := hx.isSome (by omega)
    have HB := Lib.hid bad
    have HO := Lib.hid ok
    have HC := Lib.hid hc
    obtain ⟨e, he⟩ : ∃ e, ctE ts = e := ⟨_, rfl⟩
    rw [h] at HC ⊢
    rw [he] at HB HO ⊢
    clear hx bad ok hc h he
    go_enter Try.func59, Try.ntmps59
    go_wp2
    go_loop [3] (fun i => ∃ k : Nat, k ≤ 128 ∧ i = .int .i64 k ∧ ∀ j, j < k → 0 ≤ ts.getD j 0 ∧ ts.getD j 0 < 16) (fun i => 128 - (intOf i).toNat)
    case atStart => exact ⟨0, by omega, rfl, fun j hj => by omega⟩
    case round =>
      obtain ⟨k, hk, rfl, hall⟩ := hrel
      have HA := Lib.hid hall
      clear hall
      by_cases hlt : k < 128
      · have hc := HC.out k hlt
        have bad := HB.out k hlt
        have more : (0 ≤ ts.getD k 0 ∧ ts.getD k 0 < 16) → ∀ j, j < k + 1 → 0 ≤ ts.getD j 0 ∧ ts.getD j 0 < 16 := fun h j hj => by
          by_cases e : j = k
          · subst e; exact h
          · exact HA.out j (by omega)
        have HM := Lib.hid more
        have HBd := Lib.hid bad
        clear more bad
        obtain ⟨t, ht⟩ : ∃ t, ts.getD k 0 = t := ⟨_, rfl⟩
        rw [ht] at hc HM HBd
        clear ht
        by_cases h0 : t < 0
        · have he := HBd.out (by omega)
          have HE := Lib.hid he
          clear HBd he
          go_wp2
          go_ret
          exact ⟨by rw [HE.out]; rfl, Below.refl _ _⟩
        · by_cases h16 : t < 16
          · have hin := HM.out ⟨by omega, h16⟩
            have HI := Lib.hid hin
            clear hin
            go_wp2
            go_round
            case rel => exact ⟨k + 1, by omega, by go_num, HI.out⟩
            case measure => simp [intOf]; omega
          · have he := HBd.out (by omega)
            have HE := Lib.hid he
            clear HBd he
            go_wp2
            go_ret
            exact ⟨by rw [HE.out]; rfl, Below.refl _ _⟩
      · obtain rfl : k = 128 := by omega
        have he := HO.out HA.out
        have HE := Lib.hid he
        clear he HO HB HC HA
        go_wp2
        go_ret
        exact ⟨by rw [HE.out]; rfl, Below.refl _ _⟩
  · rw [ctE_len h]
    have hl2 : ((ts.length : Int) != 128) = true := by rw [bne_iff_ne]; omega
    have hl3 : ((ts.length : Int) == 128) = false := by rw [beq_eq_false_iff_ne]; omega
    clear hx
    go_enter Try.func59, Try.ntmps59
    go_wp2
    go_ret
    exact ⟨rfl, Below.refl _ _⟩

set_option maxRecDepth 100000 in
set_option maxHeartbeats 1000000 in
theorem reftuple_any (src dst sp dp : Nat) (h1 : src < 4294967296) (h2 : dst < 4294967296) (h3 : sp < 65536) (h4 : dp < 65536) (w : World) :
    Calls Try.prog 30 #[.int .u32 src, .int .u32 dst, .int .u16 sp, .int .u16 dp] w fun e w' => ∃ g cap, e = .returned (.slice (some ⟨g, 0, none⟩) 12 cap) ∧ OwnSl w.heap.size (some ⟨g, 0, none⟩) (tup src dst sp dp) cap w' ∧ Below w.heap.size w w' := by
  go_enter Try.func30, Try.ntmps30
  go_wp2_with fail
  refine (oct4_sl src _).mono ?_
  rintro e w1 ⟨rfl, O, b1⟩
  have O1 := Lib.hid O
  clear O
  go_wp2_with fail
  refine (oct4_sl dst _).mono ?_
  rintro e w2 ⟨rfl, O, b2⟩
  have O2 := Lib.hid O.bts
  have P1 := Lib.hid (O1.out.below b2)
  have q2 := b1.trans (b2.mono b1.size)
  have s2 := q2.size
  clear O O1
  go_wp2_with (at_builtin; refine wpList_append_bts rfl _ _ rfl w.heap.size P1.out O2.out (fun h => by cases h) rfl rfl (by simp [Mt.octs_length]) s2 ?_; intro a3 c3 w3 Z b3; obtain ⟨L3, hL3⟩ : ∃ L3, Mt.octs src 4 ++ Mt.octs dst 4 = L3 := ⟨_, rfl⟩; rw [hL3] at Z; have O3 := Lib.hid Z; have E3 := Lib.hid hL3; rw [hL3]; have q3 := q2.trans b3; clear Z hL3 P1 O2 b3)
  have l3 : L3.length = 8 := by rw [← E3.out]; simp [Mt.octs_length]
  have L3l := Lib.hid l3
  clear l3
  refine (oct2_sl sp _).mono ?_
  rintro e w4 ⟨rfl, O, b4⟩
  have O4 := Lib.hid O.bts
  have P3 := Lib.hid (O3.out.below b4)
  have q4 := q3.trans (b4.mono q3.size)
  have s4 := q4.size
  clear O O3
  go_wp2_with (at_builtin; refine wpList_append_bts rfl _ _ rfl w.heap.size P3.out O4.out (fun h => by cases h) rfl rfl (by rw [L3l.out]; simp [Mt.octs_length]) s4 ?_; intro a5 c5 w5 Z b5; obtain ⟨L5, hL5⟩ : ∃ L5, L3 ++ Mt.octs sp 2 = L5 := ⟨_, rfl⟩; rw [hL5] at Z; have O5 := Lib.hid Z; have E5 := Lib.hid hL5; rw [hL5]; have q5 := q4.trans b5; clear Z hL5 P3 O4 b5)
  have l5 : L5.length = 10 := by rw [← E5.out, List.length_append, L3l.out]; simp [Mt.octs_length]
  have L5l := Lib.hid l5
  clear l5
  refine (oct2_sl dp _).mono ?_
  rintro e w6 ⟨rfl, O, b6⟩
  have O6 := Lib.hid O.bts
  have P5 := Lib.hid (O5.out.below b6)
  have q6 := q5.trans (b6.mono q5.size)
  have s6 := q6.size
  clear O O5
  go_wp2_with (at_builtin; refine wpList_append_bts rfl _ _ rfl w.heap.size P5.out O6.out (fun h => by cases h) rfl rfl (by rw [L5l.out]; simp [Mt.octs_length]) s6 ?_; intro a7 c7 w7 Z b7; obtain ⟨L7, hL7⟩ : ∃ L7, L5 ++ Mt.octs dp 2 = L7 := ⟨_, rfl⟩; rw [hL7] at Z; have O7 := Lib.hid Z; have E7 := Lib.hid hL7; rw [hL7]; have q7 := q6.trans b7; clear Z hL7 P5 O6 b7)
  have hfin : L7 = tup src dst sp dp := by rw [← E7.out, ← E5.out, ← E3.out]; rfl
  subst hfin
  obtain ⟨g, rfl, _, _⟩ := O7.out.isSome (by rw [tup_len]; omega)
  have hl7 := tup_len src dst sp dp
  rw [hl7]
  go_ret
  exact ⟨g, c7, rfl, O7.out, q7⟩
end Go.Proofs.Ytokfadlgiimaoaa

namespace Go.Proofs.Ytokfadlgiimaoaa
open Go.RowKit

set_option maxRecDepth 100000 in
set_option maxHeartbeats 1000000 in
theorem refck_any (ka : Option Addr) (ks : List Nat) (kc : Nat) (a : Option Addr) (ts : List Int) (cap : Nat) (w : World) (hx : Its w a ts) (hl : ts.length ≤ 9223372036854775807) :
    Calls Try.prog 45 #[.slice ka ks.length kc, .slice a ts.length cap] w fun e w' => e = .returned (.int .i64 (ckE ks ts)) ∧ Below w.heap.size w w' := by
  have hc := refct_any a ts cap w hx hl
  have HC := Lib.hid hc
  by_cases h : ks.length = 40
  · have he : ckE ks ts = ctE ts := if_pos h
    rw [he, h]
    clear hc hx he h hl
    go_enter Try.func45, Try.ntmps45
    go_wp2_with fail
    refine HC.out.mono ?_
    rintro e w' ⟨rfl, b⟩
    go_wp2
    go_ret
    exact ⟨rfl, b⟩
  · have he : ckE ks ts = 3 := if_neg h
    rw [he]
    have hl2 : ((ks.length : Int) != 40) = true := by rw [bne_iff_ne]; omega
    have hl3 : ((ks.length : Int) == 40) = false := by rw [beq_eq_false_iff_ne]; omega
    clear hc hx he h hl HC
    go_enter Try.func45, Try.ntmps45
    go_wp2
    go_ret
    exact ⟨rfl, Below.refl _ _⟩

end Go.Proofs.Ytokfadlgiimaoaa
