/- The document's Check of a card's settings, and its Steer. -/
import Derived.Test.YtokfadlgiimaoaaRgU
import Derived.Test.YtokfadlgiimaoaaRgK
import Derived.Test.YtokfadlgiimaoaaToRefP
import Derived.Test.YtokfadlgiimaoaaEthAll
import Derived.Test.YtokfadlgiimaoaaRgE
namespace Go.Proofs.Ytokfadlgiimaoaa
open Go.RowKit Go.Sort

set_option maxRecDepth 100000 in
set_option maxHeartbeats 1000000 in
theorem rcheck_any8 (ka : Option Addr) (ks : List Nat) (kc : Nat) (ta : Option Addr) (ts : List Int) (tc : Nat) (sz ev : Int) (w : World) (ht : Its w ta ts) (hl : ts.length ≤ 9223372036854775807) :
    Calls Try.prog 26 #[.agg #[.slice ka ks.length kc, .slice ta ts.length tc, .int .i64 sz, .int .i64 ev]] w fun e w' => e = .returned (.int .i64 (chkE ks ts sz ev)) ∧ Below w.heap.size w w' := by
  have bw := (Below.refl w.heap.size w).alloc (Nat.le_refl _) (.cells #[.slice ka ks.length kc, .slice ta ts.length tc, .int .i64 sz, .int .i64 ev] 25)
  have HC := Lib.hid (refck_any ka ks kc ta ts tc _ (ht.below bw) hl)
  have K0 := Lib.hid (blk_new w (.cells #[.slice ka ks.length kc, .slice ta ts.length tc, .int .i64 sz, .int .i64 ev] 25))
  have hz0 : Hid (w.heap.size < (w.alloc (.cells #[.slice ka ks.length kc, .slice ta ts.length tc, .int .i64 sz, .int .i64 ev] 25)).heap.size) := Lib.hid (by rw [World.size_alloc]; exact Nat.lt_succ_self _)
  have BW := Lib.hid bw
  clear ht bw
  unfold chkE
  generalize ckE ks ts = c at HC ⊢
  by_cases h0 : c = 0
  · subst h0
    rw [if_pos rfl]
    by_cases i1 : sz < 1
    · rw [if_pos (.inl i1)]
      go_enter Try.func26, Try.ntmps26
      go_wp2_with (first
        | (go_at_call 45; refine HC.out.mono ?_; rintro e V1 ⟨rfl, b⟩; have E1 := Lib.hid (BW.out.trans (b.mono BW.out.size)); have K1 := Lib.hid ((b.block _ hz0.out).trans K0.out); clear b; have c2 := blk_cell K1.out 2; have c3 := blk_cell K1.out 3)
        | fail)
      go_ret
      exact ⟨rfl, E1.out⟩
    · by_cases i2 : 4096 < sz
      · rw [if_pos (.inr (.inl i2))]
        go_enter Try.func26, Try.ntmps26
        go_wp2_with (first
          | (go_at_call 45; refine HC.out.mono ?_; rintro e V1 ⟨rfl, b⟩; have E1 := Lib.hid (BW.out.trans (b.mono BW.out.size)); have K1 := Lib.hid ((b.block _ hz0.out).trans K0.out); clear b; have c2 := blk_cell K1.out 2; have c3 := blk_cell K1.out 3)
          | fail)
        go_ret
        exact ⟨rfl, E1.out⟩
      · by_cases i3 : ev < 1
        · rw [if_pos (.inr (.inr (.inl i3)))]
          go_enter Try.func26, Try.ntmps26
          go_wp2_with (first
            | (go_at_call 45; refine HC.out.mono ?_; rintro e V1 ⟨rfl, b⟩; have E1 := Lib.hid (BW.out.trans (b.mono BW.out.size)); have K1 := Lib.hid ((b.block _ hz0.out).trans K0.out); clear b; have c2 := blk_cell K1.out 2; have c3 := blk_cell K1.out 3)
            | fail)
          go_ret
          exact ⟨rfl, E1.out⟩
        · by_cases i4 : 1048576 < ev
          · rw [if_pos (.inr (.inr (.inr i4)))]
            go_enter Try.func26, Try.ntmps26
            go_wp2_with (first
              | (go_at_call 45; refine HC.out.mono ?_; rintro e V1 ⟨rfl, b⟩; have E1 := Lib.hid (BW.out.trans (b.mono BW.out.size)); have K1 := Lib.hid ((b.block _ hz0.out).trans K0.out); clear b; have c2 := blk_cell K1.out 2; have c3 := blk_cell K1.out 3)
              | fail)
            go_ret
            exact ⟨rfl, E1.out⟩
          · rw [if_neg (by omega)]
            go_enter Try.func26, Try.ntmps26
            go_wp2_with (first
              | (go_at_call 45; refine HC.out.mono ?_; rintro e V1 ⟨rfl, b⟩; have E1 := Lib.hid (BW.out.trans (b.mono BW.out.size)); have K1 := Lib.hid ((b.block _ hz0.out).trans K0.out); clear b; have c2 := blk_cell K1.out 2; have c3 := blk_cell K1.out 3)
              | fail)
            go_ret
            exact ⟨rfl, E1.out⟩
  · rw [if_neg h0]
    have e1 : (c != 0) = true := by rw [bne_iff_ne]; exact h0
    go_enter Try.func26, Try.ntmps26
    go_wp2_with (first
      | (go_at_call 45; refine HC.out.mono ?_; rintro e V1 ⟨rfl, b⟩; have E1 := Lib.hid (BW.out.trans (b.mono BW.out.size)); have K1 := Lib.hid ((b.block _ hz0.out).trans K0.out); clear b; have c2 := blk_cell K1.out 2; have c3 := blk_cell K1.out 3)
      | fail)
    go_ret
    exact ⟨rfl, E1.out⟩

set_option maxRecDepth 100000 in
set_option maxHeartbeats 1000000 in
theorem rst_conf (ka : Option Addr) (ks : List Nat) (kc : Nat) (ta : Option Addr) (ts : List Int) (tc : Nat) (sz ev : Int) (a : Option Addr) (ys : List Nat) (cap : Nat) (w : World) (ht : Its w ta ts) (htl : ts.length ≤ 9223372036854775807) (hchk : chkE ks ts sz ev ≠ 0) :
    Calls Try.prog 9 #[.agg #[.slice ka ks.length kc, .slice ta ts.length tc, .int .i64 sz, .int .i64 ev], .slice a ys.length cap] w fun e w' => e = .returned (.tuple #[.int .i64 0, .int .i64 (chkE ks ts sz ev)]) ∧ Below w.heap.size w w' := by
  have bw := (Below.refl w.heap.size w).alloc (Nat.le_refl _) (.cells #[.slice ka ks.length kc, .slice ta ts.length tc, .int .i64 sz, .int .i64 ev] 25)
  have HC := Lib.hid (rcheck_any8 ka ks kc ta ts tc sz ev _ (ht.below bw) htl)
  have BW := Lib.hid bw
  clear ht bw
  generalize chkE ks ts sz ev = c at HC hchk ⊢
  have e1 : (c != 0) = true := by rw [bne_iff_ne]; exact hchk
  go_enter Try.func9, Try.ntmps9
  go_wp2_with (first
    | (go_at_call 26; refine HC.out.mono ?_; rintro e V1 ⟨rfl, b⟩; have E1 := Lib.hid (BW.out.trans (b.mono BW.out.size)); clear b)
    | fail)
  go_ret2
  exact ⟨rfl, E1.out⟩

set_option maxRecDepth 100000 in
set_option maxHeartbeats 1000000 in
theorem rst_err (ka : Option Addr) (ks : List Nat) (kc : Nat) (ta : Option Addr) (ts : List Int) (tc : Nat) (sz ev : Int) (a : Option Addr) (ys : List Nat) (cap : Nat) (w : World) (ht : Its w ta ts) (htl : ts.length ≤ 9223372036854775807) (hchk : chkE ks ts sz ev = 0) (hy : Bts w a ys) (hc : ys.length ≤ cap) (hm : cap ≤ maxLen) (hl : ys.length ≤ 140737488351232) (h : ethPE ys ≠ 0) :
    Calls Try.prog 9 #[.agg #[.slice ka ks.length kc, .slice ta ts.length tc, .int .i64 sz, .int .i64 ev], .slice a ys.length cap] w fun e w' => e = .returned (.tuple #[.int .i64 0, .int .i64 0]) ∧ Below w.heap.size w w' := by
  have ba := (Below.refl w.heap.size w).alloc (Nat.le_refl _) (.cells #[.slice ka ks.length kc, .slice ta ts.length tc, .int .i64 sz, .int .i64 ev] 25)
  have HC := Lib.hid (rcheck_any8 ka ks kc ta ts tc sz ev _ (ht.below ba) htl)
  rw [hchk] at HC
  have BA := Lib.hid ba
  have CB := Lib.hid (blk_new w (.cells #[.slice ka ks.length kc, .slice ta ts.length tc, .int .i64 sz, .int .i64 ev] 25))
  have hcz : Hid (w.heap.size < (w.alloc (.cells #[.slice ka ks.length kc, .slice ta ts.length tc, .int .i64 sz, .int .i64 ev] 25)).heap.size) := Lib.hid (by rw [World.size_alloc]; exact Nat.lt_succ_self _)
  have HT := Lib.hid ht
  have HE := Lib.hid (fun W (h : Below w.heap.size w W) => refethP_all a ys cap W (hy.below h) hc hm (by omega))
  have e1 : (ethPE ys != 0) = true := by rw [bne_iff_ne]; exact h
  clear hy hc hm ht ba hchk
  go_enter Try.func9, Try.ntmps9
  go_upto_region 5 with (first
    | (go_at_call 26; refine HC.out.mono ?_; rintro e V0 ⟨rfl, b⟩; have E0 := Lib.hid (BA.out.trans (b.mono BA.out.size)); have CB0 := Lib.hid ((b.block _ hcz.out).trans CB.out); have cz0 := Lib.hid (Nat.lt_of_lt_of_le hcz.out b.size); clear b)
    | (go_at_call 27; refine (HE.out _ E0.out).mono ?_; rintro e V1 ⟨a1, c1, rfl, O, b⟩; have O1 := Lib.hid O; have E1 := Lib.hid (E0.out.trans (b.mono E0.out.size)); have CB1 := Lib.hid ((b.block _ cz0.out).trans CB0.out); have cz1 := Lib.hid (Nat.lt_of_lt_of_le cz0.out b.size); clear O b)
    | fail)
  have b2 := (Below.refl V1.heap.size V1).alloc (Nat.le_refl _) (.cells #[.int .u64 (ethPD ys : Nat), .int .u64 (ethPS ys : Nat), .int .i64 (ethPT ys : Nat), .slice a1 (ethPds ys).length c1] 66)
  have K2 := Lib.hid (blk_new V1 (.cells #[.int .u64 (ethPD ys : Nat), .int .u64 (ethPS ys : Nat), .int .i64 (ethPT ys : Nat), .slice a1 (ethPds ys).length c1] 66))
  have O2 := Lib.hid (O1.out.below b2)
  have E2 := Lib.hid (E1.out.trans (b2.mono E1.out.size))
  have CB2 := Lib.hid ((b2.block _ cz1.out).trans CB1.out)
  have cz2 := Lib.hid (Nat.lt_of_lt_of_le cz1.out b2.size)
  clear b2 O1 E1 E0 CB CB0 CB1 cz0 cz1 hcz HC BA HE
  generalize V1.alloc (.cells #[.int .u64 (ethPD ys : Nat), .int .u64 (ethPS ys : Nat), .int .i64 (ethPT ys : Nat), .slice a1 (ethPds ys).length c1] 66) = V2 at K2 O2 E2 CB2 cz2 ⊢
  generalize V1.heap.size = p at K2 ⊢
  have k2 := blk_cell K2.out 2
  have k3 := blk_cell K2.out 3
  go_wp2
  go_ret2
  exact ⟨rfl, E2.out⟩

set_option maxRecDepth 100000 in
set_option maxHeartbeats 1000000 in
theorem rst_type (ka : Option Addr) (ks : List Nat) (kc : Nat) (ta : Option Addr) (ts : List Int) (tc : Nat) (sz ev : Int) (a : Option Addr) (ys : List Nat) (cap : Nat) (w : World) (ht : Its w ta ts) (htl : ts.length ≤ 9223372036854775807) (hchk : chkE ks ts sz ev = 0) (hy : Bts w a ys) (hc : ys.length ≤ cap) (hm : cap ≤ maxLen) (hl : ys.length ≤ 140737488351232) (h0 : ethPE ys = 0) (h : ethPT ys ≠ 2048) :
    Calls Try.prog 9 #[.agg #[.slice ka ks.length kc, .slice ta ts.length tc, .int .i64 sz, .int .i64 ev], .slice a ys.length cap] w fun e w' => e = .returned (.tuple #[.int .i64 0, .int .i64 0]) ∧ Below w.heap.size w w' := by
  have ba := (Below.refl w.heap.size w).alloc (Nat.le_refl _) (.cells #[.slice ka ks.length kc, .slice ta ts.length tc, .int .i64 sz, .int .i64 ev] 25)
  have HC := Lib.hid (rcheck_any8 ka ks kc ta ts tc sz ev _ (ht.below ba) htl)
  rw [hchk] at HC
  have BA := Lib.hid ba
  have CB := Lib.hid (blk_new w (.cells #[.slice ka ks.length kc, .slice ta ts.length tc, .int .i64 sz, .int .i64 ev] 25))
  have hcz : Hid (w.heap.size < (w.alloc (.cells #[.slice ka ks.length kc, .slice ta ts.length tc, .int .i64 sz, .int .i64 ev] 25)).heap.size) := Lib.hid (by rw [World.size_alloc]; exact Nat.lt_succ_self _)
  have HT := Lib.hid ht
  have HE := Lib.hid (fun W (h : Below w.heap.size w W) => refethP_all a ys cap W (hy.below h) hc hm (by omega))
  have e1 : ((ethPT ys : Int) != 2048) = true := by rw [bne_iff_ne]; omega
  have e2 : (ethPE ys != 0) = false := by rw [h0]; rfl
  clear hy hc hm ht ba hchk
  go_enter Try.func9, Try.ntmps9
  go_upto_region 5 with (first
    | (go_at_call 26; refine HC.out.mono ?_; rintro e V0 ⟨rfl, b⟩; have E0 := Lib.hid (BA.out.trans (b.mono BA.out.size)); have CB0 := Lib.hid ((b.block _ hcz.out).trans CB.out); have cz0 := Lib.hid (Nat.lt_of_lt_of_le hcz.out b.size); clear b)
    | (go_at_call 27; refine (HE.out _ E0.out).mono ?_; rintro e V1 ⟨a1, c1, rfl, O, b⟩; have O1 := Lib.hid O; have E1 := Lib.hid (E0.out.trans (b.mono E0.out.size)); have CB1 := Lib.hid ((b.block _ cz0.out).trans CB0.out); have cz1 := Lib.hid (Nat.lt_of_lt_of_le cz0.out b.size); clear O b)
    | fail)
  have b2 := (Below.refl V1.heap.size V1).alloc (Nat.le_refl _) (.cells #[.int .u64 (ethPD ys : Nat), .int .u64 (ethPS ys : Nat), .int .i64 (ethPT ys : Nat), .slice a1 (ethPds ys).length c1] 66)
  have K2 := Lib.hid (blk_new V1 (.cells #[.int .u64 (ethPD ys : Nat), .int .u64 (ethPS ys : Nat), .int .i64 (ethPT ys : Nat), .slice a1 (ethPds ys).length c1] 66))
  have O2 := Lib.hid (O1.out.below b2)
  have E2 := Lib.hid (E1.out.trans (b2.mono E1.out.size))
  have CB2 := Lib.hid ((b2.block _ cz1.out).trans CB1.out)
  have cz2 := Lib.hid (Nat.lt_of_lt_of_le cz1.out b2.size)
  clear b2 O1 E1 E0 CB CB0 CB1 cz0 cz1 hcz HC BA HE
  generalize V1.alloc (.cells #[.int .u64 (ethPD ys : Nat), .int .u64 (ethPS ys : Nat), .int .i64 (ethPT ys : Nat), .slice a1 (ethPds ys).length c1] 66) = V2 at K2 O2 E2 CB2 cz2 ⊢
  generalize V1.heap.size = p at K2 ⊢
  have k2 := blk_cell K2.out 2
  have k3 := blk_cell K2.out 3
  go_wp2
  go_ret2
  exact ⟨rfl, E2.out⟩

set_option maxRecDepth 100000 in
set_option maxHeartbeats 1000000 in
theorem rst_noip (ka : Option Addr) (ks : List Nat) (kc : Nat) (ta : Option Addr) (ts : List Int) (tc : Nat) (sz ev : Int) (a : Option Addr) (ys : List Nat) (cap : Nat) (w : World) (ht : Its w ta ts) (htl : ts.length ≤ 9223372036854775807) (hchk : chkE ks ts sz ev = 0) (hy : Bts w a ys) (hc : ys.length ≤ cap) (hm : cap ≤ maxLen) (hl : ys.length ≤ 140737488351232) (h0 : ethPE ys = 0) (h : ethPT ys = 2048) (hb : ¬ IpPok (ethPds ys)) :
    Calls Try.prog 9 #[.agg #[.slice ka ks.length kc, .slice ta ts.length tc, .int .i64 sz, .int .i64 ev], .slice a ys.length cap] w fun e w' => e = .returned (.tuple #[.int .i64 0, .int .i64 0]) ∧ Below w.heap.size w w' := by
  have ba := (Below.refl w.heap.size w).alloc (Nat.le_refl _) (.cells #[.slice ka ks.length kc, .slice ta ts.length tc, .int .i64 sz, .int .i64 ev] 25)
  have HC := Lib.hid (rcheck_any8 ka ks kc ta ts tc sz ev _ (ht.below ba) htl)
  rw [hchk] at HC
  have BA := Lib.hid ba
  have CB := Lib.hid (blk_new w (.cells #[.slice ka ks.length kc, .slice ta ts.length tc, .int .i64 sz, .int .i64 ev] 25))
  have hcz : Hid (w.heap.size < (w.alloc (.cells #[.slice ka ks.length kc, .slice ta ts.length tc, .int .i64 sz, .int .i64 ev] 25)).heap.size) := Lib.hid (by rw [World.size_alloc]; exact Nat.lt_succ_self _)
  have HT := Lib.hid ht
  have HE := Lib.hid (fun W (h : Below w.heap.size w W) => refethP_all a ys cap W (hy.below h) hc hm (by omega))
  have e1 : ((ethPT ys : Int) != 2048) = false := by rw [h]; rfl
  have e2 : (ethPE ys != 0) = false := by rw [h0]; rfl
  have HB := Lib.hid hb
  clear hb h0 h
  clear hy hc hm ht ba hchk
  go_enter Try.func9, Try.ntmps9
  go_upto_region 5 with (first
    | (go_at_call 26; refine HC.out.mono ?_; rintro e V0 ⟨rfl, b⟩; have E0 := Lib.hid (BA.out.trans (b.mono BA.out.size)); have CB0 := Lib.hid ((b.block _ hcz.out).trans CB.out); have cz0 := Lib.hid (Nat.lt_of_lt_of_le hcz.out b.size); clear b)
    | (go_at_call 27; refine (HE.out _ E0.out).mono ?_; rintro e V1 ⟨a1, c1, rfl, O, b⟩; have O1 := Lib.hid O; have E1 := Lib.hid (E0.out.trans (b.mono E0.out.size)); have CB1 := Lib.hid ((b.block _ cz0.out).trans CB0.out); have cz1 := Lib.hid (Nat.lt_of_lt_of_le cz0.out b.size); clear O b)
    | fail)
  have b2 := (Below.refl V1.heap.size V1).alloc (Nat.le_refl _) (.cells #[.int .u64 (ethPD ys : Nat), .int .u64 (ethPS ys : Nat), .int .i64 (ethPT ys : Nat), .slice a1 (ethPds ys).length c1] 66)
  have K2 := Lib.hid (blk_new V1 (.cells #[.int .u64 (ethPD ys : Nat), .int .u64 (ethPS ys : Nat), .int .i64 (ethPT ys : Nat), .slice a1 (ethPds ys).length c1] 66))
  have O2 := Lib.hid (O1.out.below b2)
  have E2 := Lib.hid (E1.out.trans (b2.mono E1.out.size))
  have CB2 := Lib.hid ((b2.block _ cz1.out).trans CB1.out)
  have cz2 := Lib.hid (Nat.lt_of_lt_of_le cz1.out b2.size)
  clear b2 O1 E1 E0 CB CB0 CB1 cz0 cz1 hcz HC BA HE
  generalize V1.alloc (.cells #[.int .u64 (ethPD ys : Nat), .int .u64 (ethPS ys : Nat), .int .i64 (ethPT ys : Nat), .slice a1 (ethPds ys).length c1] 66) = V2 at K2 O2 E2 CB2 cz2 ⊢
  generalize V1.heap.size = p at K2 ⊢
  have k2 := blk_cell K2.out 2
  have k3 := blk_cell K2.out 3
  have HI := Lib.hid (refip_bad a1 (ethPds ys) c1 V2 O2.out.bts O2.out.capLe.1 HB.out)
  go_upto_region 8 with (first
    | (go_at_call 28; refine HI.out.mono ?_; rintro e V3 ⟨n, hn, rfl, b⟩; have E3 := Lib.hid (E2.out.trans (b.mono E2.out.size)); have HNN := Lib.hid hn; clear b hn)
    | fail)
  have E4 := Lib.hid (E3.out.alloc E3.out.size (.cells #[.int .u8 0, .int .u16 0, .bool false, .bool false, .int .i64 0, .int .u8 0, .int .u8 0, .int .u32 0, .int .u32 0, .slice none 0 0, .slice none 0 0] 72))
  have e5 : (n != 0) = true := by rw [bne_iff_ne]; exact HNN.out
  generalize V3.alloc (.cells #[.int .u8 0, .int .u16 0, .bool false, .bool false, .int .i64 0, .int .u8 0, .int .u8 0, .int .u32 0, .int .u32 0, .slice none 0 0, .slice none 0 0] 72) = V4 at E4 ⊢
  go_wp2
  go_ret2
  exact ⟨rfl, E4.out⟩

set_option maxRecDepth 100000 in
set_option maxHeartbeats 1000000 in
theorem rst_bad (ka : Option Addr) (ks : List Nat) (kc : Nat) (ta : Option Addr) (ts : List Int) (tc : Nat) (sz ev : Int) (a : Option Addr) (ys : List Nat) (cap : Nat) (w : World) (ht : Its w ta ts) (htl : ts.length ≤ 9223372036854775807) (hchk : chkE ks ts sz ev = 0) (hy : Bts w a ys) (hc : ys.length ≤ cap) (hm : cap ≤ maxLen) (hl : ys.length ≤ 140737488351232) (tos : Nat) (mf : Bool) (off ttl pr src dst on : Nat) (ds : List Nat) (h0 : ethPE ys = 0) (h : ethPT ys = 2048) (hI : ∀ W a1 c1, Bts W a1 (ethPds ys) → (ethPds ys).length ≤ c1 → Calls Try.prog 28 #[.slice a1 (ethPds ys).length c1] W fun e w' => ∃ (idn : Int) (df : Bool) (oa : Option Addr) (oc : Nat) (da : Option Addr) (dc : Nat), e = .returned (.tuple #[.agg #[.int .u8 (tos : Nat), .int .u16 idn, .bool df, .bool mf, .int .i64 (off : Nat), .int .u8 (ttl : Nat), .int .u8 (pr : Nat), .int .u32 (src : Nat), .int .u32 (dst : Nat), .slice oa on oc, .slice da ds.length dc], .int .i64 0]) ∧ OwnSl W.heap.size da ds dc w' ∧ Below W.heap.size W w') (hbad : pr ≠ 6 ∨ off ≠ 0 ∨ mf = true ∨ ds.length < 4) :
    Calls Try.prog 9 #[.agg #[.slice ka ks.length kc, .slice ta ts.length tc, .int .i64 sz, .int .i64 ev], .slice a ys.length cap] w fun e w' => e = .returned (.tuple #[.int .i64 0, .int .i64 0]) ∧ Below w.heap.size w w' := by
  have ba := (Below.refl w.heap.size w).alloc (Nat.le_refl _) (.cells #[.slice ka ks.length kc, .slice ta ts.length tc, .int .i64 sz, .int .i64 ev] 25)
  have HC := Lib.hid (rcheck_any8 ka ks kc ta ts tc sz ev _ (ht.below ba) htl)
  rw [hchk] at HC
  have BA := Lib.hid ba
  have CB := Lib.hid (blk_new w (.cells #[.slice ka ks.length kc, .slice ta ts.length tc, .int .i64 sz, .int .i64 ev] 25))
  have hcz : Hid (w.heap.size < (w.alloc (.cells #[.slice ka ks.length kc, .slice ta ts.length tc, .int .i64 sz, .int .i64 ev] 25)).heap.size) := Lib.hid (by rw [World.size_alloc]; exact Nat.lt_succ_self _)
  have HT := Lib.hid ht
  have HE := Lib.hid (fun W (h : Below w.heap.size w W) => refethP_all a ys cap W (hy.below h) hc hm (by omega))
  have e1 : ((ethPT ys : Int) != 2048) = false := by rw [h]; rfl
  have e2 : (ethPE ys != 0) = false := by rw [h0]; rfl
  have HIP := Lib.hid hI
  clear h0 h hI
  clear hy hc hm ht ba hchk
  go_enter Try.func9, Try.ntmps9
  go_upto_region 5 with (first
    | (go_at_call 26; refine HC.out.mono ?_; rintro e V0 ⟨rfl, b⟩; have E0 := Lib.hid (BA.out.trans (b.mono BA.out.size)); have CB0 := Lib.hid ((b.block _ hcz.out).trans CB.out); have cz0 := Lib.hid (Nat.lt_of_lt_of_le hcz.out b.size); clear b)
    | (go_at_call 27; refine (HE.out _ E0.out).mono ?_; rintro e V1 ⟨a1, c1, rfl, O, b⟩; have O1 := Lib.hid O; have E1 := Lib.hid (E0.out.trans (b.mono E0.out.size)); have CB1 := Lib.hid ((b.block _ cz0.out).trans CB0.out); have cz1 := Lib.hid (Nat.lt_of_lt_of_le cz0.out b.size); clear O b)
    | fail)
  have b2 := (Below.refl V1.heap.size V1).alloc (Nat.le_refl _) (.cells #[.int .u64 (ethPD ys : Nat), .int .u64 (ethPS ys : Nat), .int .i64 (ethPT ys : Nat), .slice a1 (ethPds ys).length c1] 66)
  have K2 := Lib.hid (blk_new V1 (.cells #[.int .u64 (ethPD ys : Nat), .int .u64 (ethPS ys : Nat), .int .i64 (ethPT ys : Nat), .slice a1 (ethPds ys).length c1] 66))
  have O2 := Lib.hid (O1.out.below b2)
  have E2 := Lib.hid (E1.out.trans (b2.mono E1.out.size))
  have CB2 := Lib.hid ((b2.block _ cz1.out).trans CB1.out)
  have cz2 := Lib.hid (Nat.lt_of_lt_of_le cz1.out b2.size)
  clear b2 O1 E1 E0 CB CB0 CB1 cz0 cz1 hcz HC BA HE
  generalize V1.alloc (.cells #[.int .u64 (ethPD ys : Nat), .int .u64 (ethPS ys : Nat), .int .i64 (ethPT ys : Nat), .slice a1 (ethPds ys).length c1] 66) = V2 at K2 O2 E2 CB2 cz2 ⊢
  generalize V1.heap.size = p at K2 ⊢
  have k2 := blk_cell K2.out 2
  have k3 := blk_cell K2.out 3
  have HI := Lib.hid (HIP.out V2 a1 c1 O2.out.bts O2.out.capLe.1)
  go_upto_region 8 with (first
    | (go_at_call 28; refine HI.out.mono ?_; rintro e V3 ⟨idn, df, oa, oc, da, dc, rfl, O, b⟩; have O3 := Lib.hid O; have E3 := Lib.hid (E2.out.trans (b.mono E2.out.size)); have CB3 := Lib.hid ((b.block _ cz2.out).trans CB2.out); have cz3 := Lib.hid (Nat.lt_of_lt_of_le cz2.out b.size); clear O b)
    | fail)
  have b4 := (Below.refl V3.heap.size V3).alloc (Nat.le_refl _) (.cells #[.int .u8 (tos : Nat), .int .u16 idn, .bool df, .bool mf, .int .i64 (off : Nat), .int .u8 (ttl : Nat), .int .u8 (pr : Nat), .int .u32 (src : Nat), .int .u32 (dst : Nat), .slice oa on oc, .slice da ds.length dc] 72)
  have P4 := Lib.hid (blk_new V3 (.cells #[.int .u8 (tos : Nat), .int .u16 idn, .bool df, .bool mf, .int .i64 (off : Nat), .int .u8 (ttl : Nat), .int .u8 (pr : Nat), .int .u32 (src : Nat), .int .u32 (dst : Nat), .slice oa on oc, .slice da ds.length dc] 72))
  have O4 := Lib.hid (O3.out.below b4)
  have E4 := Lib.hid (E3.out.trans (b4.mono E3.out.size))
  have CB4 := Lib.hid ((b4.block _ cz3.out).trans CB3.out)
  clear b4 O3 E3 CB2 CB3 cz2 cz3
  generalize V3.alloc (.cells #[.int .u8 (tos : Nat), .int .u16 idn, .bool df, .bool mf, .int .i64 (off : Nat), .int .u8 (ttl : Nat), .int .u8 (pr : Nat), .int .u32 (src : Nat), .int .u32 (dst : Nat), .slice oa on oc, .slice da ds.length dc] 72) = V4 at P4 O4 E4 CB4 ⊢
  generalize V3.heap.size = pb at P4 ⊢
  have p3 := blk_cell P4.out 3
  have p4 := blk_cell P4.out 4
  have p6 := blk_cell P4.out 6
  have p10 := blk_cell P4.out 10
  by_cases q1 : pr = 6
  case neg =>
    have g1 : ((pr : Int) != 6) = true := by rw [bne_iff_ne]; omega
    clear q1 hbad
    go_wp2
    go_ret2
    exact ⟨rfl, E4.out⟩
  case pos =>
    have g1 : ((pr : Int) != 6) = false := by rw [q1]; rfl
    by_cases q2 : off = 0
    case neg =>
      have g2 : ((off : Int) != 0) = true := by rw [bne_iff_ne]; omega
      clear q1 q2 hbad
      go_wp2
      go_ret2
      exact ⟨rfl, E4.out⟩
    case pos =>
      have g2 : ((off : Int) != 0) = false := by rw [q2]; rfl
      cases mf with
      | true =>
        clear q1 q2 hbad
        go_wp2
        go_ret2
        exact ⟨rfl, E4.out⟩
      | false =>
        have g3 : (ds.length : Int) < 4 := by
          rcases hbad with h | h | h | h
          · exact absurd q1 h
          · exact absurd q2 h
          · cases h
          · omega
        clear q1 q2 hbad
        go_wp2
        go_ret2
        exact ⟨rfl, E4.out⟩
end Go.Proofs.Ytokfadlgiimaoaa

namespace Go.Proofs.Ytokfadlgiimaoaa
open Go.RowKit Go.Sort
theorem dat_below {V W : World} {db dof d0 d1 d2 d3 : Nat} (h : V.cell? ⟨db, dof, none⟩ = some (.int .u8 (d0 : Nat)) ∧ V.cell? ⟨db, dof + 1, none⟩ = some (.int .u8 (d1 : Nat)) ∧ V.cell? ⟨db, dof + 2, none⟩ = some (.int .u8 (d2 : Nat)) ∧ V.cell? ⟨db, dof + 3, none⟩ = some (.int .u8 (d3 : Nat))) (hl : db < V.heap.size) (b : Below V.heap.size V W) :
    W.cell? ⟨db, dof, none⟩ = some (.int .u8 (d0 : Nat)) ∧ W.cell? ⟨db, dof + 1, none⟩ = some (.int .u8 (d1 : Nat)) ∧ W.cell? ⟨db, dof + 2, none⟩ = some (.int .u8 (d2 : Nat)) ∧ W.cell? ⟨db, dof + 3, none⟩ = some (.int .u8 (d3 : Nat)) :=
  ⟨(b.cell (p := ⟨db, dof, none⟩) hl).trans h.1, (b.cell (p := ⟨db, dof + 1, none⟩) hl).trans h.2.1, (b.cell (p := ⟨db, dof + 2, none⟩) hl).trans h.2.2.1, (b.cell (p := ⟨db, dof + 3, none⟩) hl).trans h.2.2.2⟩

set_option maxRecDepth 100000 in
set_option maxHeartbeats 1000000 in
theorem rst_good (ka : Option Addr) (ks : List Nat) (kc : Nat) (ta : Option Addr) (ts : List Int) (tc : Nat) (sz ev : Int) (a : Option Addr) (ys : List Nat) (cap : Nat) (w : World) (ht : Its w ta ts) (htl : ts.length ≤ 9223372036854775807) (hchk : chkE ks ts sz ev = 0) (hy : Bts w a ys) (hc : ys.length ≤ cap) (hm : cap ≤ maxLen) (hl : ys.length ≤ 140737488351232) (tos ttl src dst on : Nat) (ds : List Nat) (h0 : ethPE ys = 0) (h : ethPT ys = 2048) (hI : ∀ W a1 c1, Bts W a1 (ethPds ys) → (ethPds ys).length ≤ c1 → Calls Try.prog 28 #[.slice a1 (ethPds ys).length c1] W fun e w' => ∃ (idn : Int) (df : Bool) (oa : Option Addr) (oc : Nat) (da : Option Addr) (dc : Nat), e = .returned (.tuple #[.agg #[.int .u8 (tos : Nat), .int .u16 idn, .bool df, .bool false, .int .i64 0, .int .u8 (ttl : Nat), .int .u8 6, .int .u32 (src : Nat), .int .u32 (dst : Nat), .slice oa on oc, .slice da ds.length dc], .int .i64 0]) ∧ OwnSl W.heap.size da ds dc w' ∧ Below W.heap.size W w') (hd4 : 4 ≤ ds.length) (hsrc : src < 4294967296) (hdst : dst < 4294967296) (hk : Bts w ka ks) (hct : ctE ts = 0) :
    Calls Try.prog 9 #[.agg #[.slice ka ks.length kc, .slice ta ts.length tc, .int .i64 sz, .int .i64 ev], .slice a ys.length cap] w fun e w' => e = .returned (.tuple #[.int .i64 (shV ts (thV ks (tup src dst (Mt.numOf (seg ds 0 2)) (Mt.numOf (seg ds 2 2))))), .int .i64 0]) ∧ Below w.heap.size w w' := by
  have ba := (Below.refl w.heap.size w).alloc (Nat.le_refl _) (.cells #[.slice ka ks.length kc, .slice ta ts.length tc, .int .i64 sz, .int .i64 ev] 25)
  have HC := Lib.hid (rcheck_any8 ka ks kc ta ts tc sz ev _ (ht.below ba) htl)
  rw [hchk] at HC
  have BA := Lib.hid ba
  have CB := Lib.hid (blk_new w (.cells #[.slice ka ks.length kc, .slice ta ts.length tc, .int .i64 sz, .int .i64 ev] 25))
  have hcz : Hid (w.heap.size < (w.alloc (.cells #[.slice ka ks.length kc, .slice ta ts.length tc, .int .i64 sz, .int .i64 ev] 25)).heap.size) := Lib.hid (by rw [World.size_alloc]; exact Nat.lt_succ_self _)
  have HT := Lib.hid ht
  have HE := Lib.hid (fun W (h : Below w.heap.size w W) => refethP_all a ys cap W (hy.below h) hc hm (by omega))
  have e1 : ((ethPT ys : Int) != 2048) = false := by rw [h]; rfl
  have e2 : (ethPE ys != 0) = false := by rw [h0]; rfl
  have HIP := Lib.hid hI
  clear h0 h hI
  have HKB := Lib.hid hk
  have HTL := Lib.hid htl
  have HD4 := Lib.hid hd4
  have HSD := Lib.hid (And.intro hsrc hdst)
  have HCT := Lib.hid hct
  clear hk htl hd4 hsrc hdst hct
  clear hy hc hm ht ba hchk
  go_enter Try.func9, Try.ntmps9
  go_upto_region 5 with (first
    | (go_at_call 26; refine HC.out.mono ?_; rintro e V0 ⟨rfl, b⟩; have E0 := Lib.hid (BA.out.trans (b.mono BA.out.size)); have CB0 := Lib.hid ((b.block _ hcz.out).trans CB.out); have cz0 := Lib.hid (Nat.lt_of_lt_of_le hcz.out b.size); clear b)
    | (go_at_call 27; refine (HE.out _ E0.out).mono ?_; rintro e V1 ⟨a1, c1, rfl, O, b⟩; have O1 := Lib.hid O; have E1 := Lib.hid (E0.out.trans (b.mono E0.out.size)); have CB1 := Lib.hid ((b.block _ cz0.out).trans CB0.out); have cz1 := Lib.hid (Nat.lt_of_lt_of_le cz0.out b.size); clear O b)
    | fail)
  have b2 := (Below.refl V1.heap.size V1).alloc (Nat.le_refl _) (.cells #[.int .u64 (ethPD ys : Nat), .int .u64 (ethPS ys : Nat), .int .i64 (ethPT ys : Nat), .slice a1 (ethPds ys).length c1] 66)
  have K2 := Lib.hid (blk_new V1 (.cells #[.int .u64 (ethPD ys : Nat), .int .u64 (ethPS ys : Nat), .int .i64 (ethPT ys : Nat), .slice a1 (ethPds ys).length c1] 66))
  have O2 := Lib.hid (O1.out.below b2)
  have E2 := Lib.hid (E1.out.trans (b2.mono E1.out.size))
  have CB2 := Lib.hid ((b2.block _ cz1.out).trans CB1.out)
  have cz2 := Lib.hid (Nat.lt_of_lt_of_le cz1.out b2.size)
  clear b2 O1 E1 E0 CB CB0 CB1 cz0 cz1 hcz HC BA HE
  generalize V1.alloc (.cells #[.int .u64 (ethPD ys : Nat), .int .u64 (ethPS ys : Nat), .int .i64 (ethPT ys : Nat), .slice a1 (ethPds ys).length c1] 66) = V2 at K2 O2 E2 CB2 cz2 ⊢
  generalize V1.heap.size = p at K2 ⊢
  have k2 := blk_cell K2.out 2
  have k3 := blk_cell K2.out 3
  have HI := Lib.hid (HIP.out V2 a1 c1 O2.out.bts O2.out.capLe.1)
  go_upto_region 8 with (first
    | (go_at_call 28; refine HI.out.mono ?_; rintro e V3 ⟨idn, df, oa, oc, da, dc, rfl, O, b⟩; have O3 := Lib.hid O; have E3 := Lib.hid (E2.out.trans (b.mono E2.out.size)); have CB3 := Lib.hid ((b.block _ cz2.out).trans CB2.out); have cz3 := Lib.hid (Nat.lt_of_lt_of_le cz2.out b.size); clear O b)
    | fail)
  have b4 := (Below.refl V3.heap.size V3).alloc (Nat.le_refl _) (.cells #[.int .u8 (tos : Nat), .int .u16 idn, .bool df, .bool false, .int .i64 0, .int .u8 (ttl : Nat), .int .u8 6, .int .u32 (src : Nat), .int .u32 (dst : Nat), .slice oa on oc, .slice da ds.length dc] 72)
  have P4 := Lib.hid (blk_new V3 (.cells #[.int .u8 (tos : Nat), .int .u16 idn, .bool df, .bool false, .int .i64 0, .int .u8 (ttl : Nat), .int .u8 6, .int .u32 (src : Nat), .int .u32 (dst : Nat), .slice oa on oc, .slice da ds.length dc] 72))
  have O4 := Lib.hid (O3.out.below b4)
  have E4 := Lib.hid (E3.out.trans (b4.mono E3.out.size))
  have CB4 := Lib.hid ((b4.block _ cz3.out).trans CB3.out)
  clear b4 O3 E3 CB2 CB3 cz2 cz3
  generalize V3.alloc (.cells #[.int .u8 (tos : Nat), .int .u16 idn, .bool df, .bool false, .int .i64 0, .int .u8 (ttl : Nat), .int .u8 6, .int .u32 (src : Nat), .int .u32 (dst : Nat), .slice oa on oc, .slice da ds.length dc] 72) = V4 at P4 O4 E4 CB4 ⊢
  generalize V3.heap.size = pb at P4 ⊢
  have p3 := blk_cell P4.out 3
  have p4 := blk_cell P4.out 4
  have p6 := blk_cell P4.out 6
  have p10 := blk_cell P4.out 10
  have g3 : ¬ (ds.length : Int) < 4 := by have := HD4.out; omega
  have g3n : ¬ ds.length < 4 := by have := HD4.out; omega
  have g3d : decide ((ds.length : Int) < 4) = false := decide_eq_false g3
  have g3e : decide (ds.length < 4) = false := decide_eq_false g3n
  go_upto_region 10 with fail
  obtain ⟨db, dof, rfl, hdb, hdc⟩ := O4.out.bts.isSome (by have := HD4.out; omega)
  have D := (Below.refl V4.heap.size V4).drew
  obtain ⟨d0, e0⟩ : ∃ z, ds.getD 0 0 = z := ⟨_, rfl⟩
  obtain ⟨d1, e1x⟩ : ∃ z, ds.getD 1 0 = z := ⟨_, rfl⟩
  obtain ⟨d2, e2x⟩ : ∃ z, ds.getD 2 0 = z := ⟨_, rfl⟩
  obtain ⟨d3, e3x⟩ : ∃ z, ds.getD 3 0 = z := ⟨_, rfl⟩
  have D5 : Hid (V4.drew.cell? ⟨db, dof, none⟩ = some (.int .u8 (d0 : Nat)) ∧ V4.drew.cell? ⟨db, dof + 1, none⟩ = some (.int .u8 (d1 : Nat)) ∧ V4.drew.cell? ⟨db, dof + 2, none⟩ = some (.int .u8 (d2 : Nat)) ∧ V4.drew.cell? ⟨db, dof + 3, none⟩ = some (.int .u8 (d3 : Nat))) := Lib.hid (by
    rw [← e0, ← e1x, ← e2x, ← e3x]
    have h4 := HD4.out
    exact ⟨hdc 0 (by omega), hdc 1 (by omega), hdc 2 (by omega), hdc 3 (by omega)⟩)
  have dlt : Hid (db < V4.drew.heap.size) := Lib.hid hdb
  have hx := O4.out.bts.1
  have h4 := HD4.out
  have l0 : d0 < 256 := by rw [← e0]; exact hx _ (Mt.getD_mem ds 0 (by omega))
  have l1 : d1 < 256 := by rw [← e1x]; exact hx _ (Mt.getD_mem ds 1 (by omega))
  have l2 : d2 < 256 := by rw [← e2x]; exact hx _ (Mt.getD_mem ds 2 (by omega))
  have l3 : d3 < 256 := by rw [← e3x]; exact hx _ (Mt.getD_mem ds 3 (by omega))
  obtain ⟨p0, s0⟩ : ∃ p, Mt.numOf (seg ds 0 2) = p := ⟨_, rfl⟩
  obtain ⟨p2, s2⟩ : ∃ p, Mt.numOf (seg ds 2 2) = p := ⟨_, rfl⟩
  have hp0 : d0 * 256 + d1 = p0 := by rw [← s0, ← e0, ← e1x]; exact (seg_two ds 0 (by omega)).symm
  have hp2 : d2 * 256 + d3 = p2 := by rw [← s2, ← e2x, ← e3x]; exact (seg_two ds 2 (by omega)).symm
  have EE0 := Lib.hid s0
  have EE2 := Lib.hid s2
  have HTU := Lib.hid (reftuple_any src dst p0 p2 HSD.out.1 HSD.out.2 (by omega) (by omega) V4.drew)
  clear e0 e1x e2x e3x s0 s2 hdc hdb hx p3 p4 p6 p10 k2 k3 g3 g3n g3d g3e
  have P5 := Lib.hid ((D.block pb (blk_lt P4.out)).trans P4.out)
  have B5 := Lib.hid ((D.block w.heap.size (blk_lt CB4.out)).trans CB4.out)
  have O5 := Lib.hid (O4.out.below D)
  have E5 := Lib.hid (E4.out.trans (D.mono E4.out.size))
  have K5 := Lib.hid (HKB.out.below E5.out)
  clear D P4 CB4 O4 E4
  have m0 : (0 : Int) < (ds.length : Int) := by omega
  have m0n : 0 < ds.length := by omega
  have m1 : (1 : Int) < (ds.length : Int) := by omega
  have m2 : (2 : Int) < (ds.length : Int) := by omega
  have m3 : (3 : Int) < (ds.length : Int) := by omega
  have W0 : IntKind.i64.wrap (d0 : Int) = (d0 : Int) := w_i64 (by omega) (by omega)
  have W1 : IntKind.i64.wrap (d1 : Int) = (d1 : Int) := w_i64 (by omega) (by omega)
  have W2 : IntKind.i64.wrap (d2 : Int) = (d2 : Int) := w_i64 (by omega) (by omega)
  have W3 : IntKind.i64.wrap (d3 : Int) = (d3 : Int) := w_i64 (by omega) (by omega)
  have W4 : IntKind.i64.wrap ((d0 : Int) * 256) = (d0 : Int) * 256 := w_i64 (by omega) (by omega)
  have W5 : IntKind.i64.wrap ((d2 : Int) * 256) = (d2 : Int) * 256 := w_i64 (by omega) (by omega)
  have W6 : IntKind.u16.wrap (p0 : Int) = (p0 : Int) := IntWalk.u16_in _ (by omega)
  have W7 : IntKind.u16.wrap (p2 : Int) = (p2 : Int) := IntWalk.u16_in _ (by omega)
  have W8 : bits .or .i64 ((d0 : Int) * 256) (d1 : Int) = (p0 : Int) := or_two d0 d1 p0 l0 l1 hp0
  have W9 : bits .or .i64 ((d2 : Int) * 256) (d3 : Int) = (p2 : Int) := or_two d2 d3 p2 l2 l3 hp2
  clear h4 l0 l1 l2 l3 hp0 hp2
  go_cut [11] from 58 (fun (v : Value) wx => v = .int .u32 (thV ks (tup src dst p0 p2) : Nat) ∧ Below V4.drew.heap.size V4.drew wx)
  case first =>
    refine wp_region_held_drew (S := fun W' => (W'.heap[w.heap.size]? = some (.cells #[.slice ka ks.length kc, .slice ta ts.length tc, .int .i64 sz, .int .i64 ev] 25 (0, 0)) ∧ W'.heap[pb]? = some (.cells #[.int .u8 (tos : Nat), .int .u16 idn, .bool df, .bool false, .int .i64 0, .int .u8 (ttl : Nat), .int .u8 6, .int .u32 (src : Nat), .int .u32 (dst : Nat), .slice oa on oc, .slice (some ⟨db, dof, none⟩) ds.length dc] 72 (0, 0))) ∧ W'.cell? ⟨db, dof, none⟩ = some (.int .u8 (d0 : Nat)) ∧ W'.cell? ⟨db, dof + 1, none⟩ = some (.int .u8 (d1 : Nat)) ∧ W'.cell? ⟨db, dof + 2, none⟩ = some (.int .u8 (d2 : Nat)) ∧ W'.cell? ⟨db, dof + 3, none⟩ = some (.int .u8 (d3 : Nat))) (by kernel_rfl) ⟨⟨B5.out, P5.out⟩, D5.out⟩ (fun hHeld => ?_)
    refine wpAnyH_take (i := 0) (oi := _) (v := ?_) rfl (by kernel_rfl) (by kernel_rfl) (by kernel_rfl) (fun _ _ _ h => h) (Or.inl ⟨by rfl, ?_⟩) (by assumption) ?_
    rotate_left
    · intro w5 hSw
      clear hSw
      go_simp
      all_goals with_reducible rfl
    (try simp only [List.getElem_toArray]); (try simp only [List.getElem_cons_succ]); (try simp only [List.getElem_cons_zero]); try simp only [Act.put, List.setIfInBounds_toArray, List.set_cons_zero, List.set_cons_succ]
    refine wpAnyH_take (i := 1) (oi := _) (v := ?_) rfl (by kernel_rfl) (by kernel_rfl) (by kernel_rfl) (fun _ _ _ h => h) (Or.inl ⟨by rfl, ?_⟩) (by assumption) ?_
    rotate_left
    · intro w5 hSw
      have c5 := blk_cell hSw.1.1 0
      clear hSw
      go_simp
      all_goals with_reducible rfl
    (try simp only [List.getElem_toArray]); (try simp only [List.getElem_cons_succ]); (try simp only [List.getElem_cons_zero]); try simp only [Act.put, List.setIfInBounds_toArray, List.set_cons_zero, List.set_cons_succ]
    refine wpAnyH_take (i := 2) (oi := _) (v := ?_) rfl (by kernel_rfl) (by kernel_rfl) (by kernel_rfl) (fun _ _ _ h => h) (Or.inl ⟨by rfl, ?_⟩) (by assumption) ?_
    rotate_left
    · intro w5 hSw
      clear hSw
      go_simp
      all_goals with_reducible rfl
    (try simp only [List.getElem_toArray]); (try simp only [List.getElem_cons_succ]); (try simp only [List.getElem_cons_zero]); try simp only [Act.put, List.setIfInBounds_toArray, List.set_cons_zero, List.set_cons_succ]
    refine wpAnyH_take (i := 3) (oi := _) (v := ?_) rfl (by kernel_rfl) (by kernel_rfl) (by kernel_rfl) (fun _ _ _ h => h) (Or.inl ⟨by rfl, ?_⟩) (by assumption) ?_
    rotate_left
    · intro w5 hSw
      have c5 := blk_cell hSw.1.2 7
      clear hSw
      go_simp
      all_goals with_reducible rfl
    (try simp only [List.getElem_toArray]); (try simp only [List.getElem_cons_succ]); (try simp only [List.getElem_cons_zero]); try simp only [Act.put, List.setIfInBounds_toArray, List.set_cons_zero, List.set_cons_succ]
    refine wpAnyH_take (i := 4) (oi := _) (v := ?_) rfl (by kernel_rfl) (by kernel_rfl) (by kernel_rfl) (fun _ _ _ h => h) (Or.inl ⟨by rfl, ?_⟩) (by assumption) ?_
    rotate_left
    · intro w5 hSw
      clear hSw
      go_simp
      all_goals with_reducible rfl
    (try simp only [List.getElem_toArray]); (try simp only [List.getElem_cons_succ]); (try simp only [List.getElem_cons_zero]); try simp only [Act.put, List.setIfInBounds_toArray, List.set_cons_zero, List.set_cons_succ]
    refine wpAnyH_take (i := 5) (oi := _) (v := ?_) rfl (by kernel_rfl) (by kernel_rfl) (by kernel_rfl) (fun _ _ _ h => h) (Or.inl ⟨by rfl, ?_⟩) (by assumption) ?_
    rotate_left
    · intro w5 hSw
      have c5 := blk_cell hSw.1.2 8
      clear hSw
      go_simp
      all_goals with_reducible rfl
    (try simp only [List.getElem_toArray]); (try simp only [List.getElem_cons_succ]); (try simp only [List.getElem_cons_zero]); try simp only [Act.put, List.setIfInBounds_toArray, List.set_cons_zero, List.set_cons_succ]
    refine wpAnyH_take (i := 6) (oi := _) (v := ?_) rfl (by kernel_rfl) (by kernel_rfl) (by kernel_rfl) (fun _ _ _ h => h) (Or.inl ⟨by rfl, ?_⟩) (by assumption) ?_
    rotate_left
    · intro w5 hSw
      clear hSw
      go_simp
      all_goals with_reducible rfl
    (try simp only [List.getElem_toArray]); (try simp only [List.getElem_cons_succ]); (try simp only [List.getElem_cons_zero]); try simp only [Act.put, List.setIfInBounds_toArray, List.set_cons_zero, List.set_cons_succ]
    refine wpAnyH_take (i := 7) (oi := _) (v := ?_) rfl (by kernel_rfl) (by kernel_rfl) (by kernel_rfl) (fun _ _ _ h => h) (Or.inl ⟨by rfl, ?_⟩) (by assumption) ?_
    rotate_left
    · intro w5 hSw
      have c5 := blk_cell hSw.1.2 10
      clear hSw
      go_simp
      all_goals with_reducible rfl
    (try simp only [List.getElem_toArray]); (try simp only [List.getElem_cons_succ]); (try simp only [List.getElem_cons_zero]); try simp only [Act.put, List.setIfInBounds_toArray, List.set_cons_zero, List.set_cons_succ]
    refine wpAnyH_take (i := 8) (oi := _) (v := ?_) rfl (by kernel_rfl) (by kernel_rfl) (by kernel_rfl) (fun _ _ _ h => h) (Or.inl ⟨by rfl, ?_⟩) (by assumption) ?_
    rotate_left
    · intro w5 hSw
      clear hSw
      go_simp
      all_goals with_reducible rfl
    (try simp only [List.getElem_toArray]); (try simp only [List.getElem_cons_succ]); (try simp only [List.getElem_cons_zero]); try simp only [Act.put, List.setIfInBounds_toArray, List.set_cons_zero, List.set_cons_succ]
    refine wpAnyH_take (i := 9) (oi := _) (v := ?_) rfl (by kernel_rfl) (by kernel_rfl) (by kernel_rfl) (fun _ _ _ h => h) (Or.inl ⟨by rfl, ?_⟩) (by assumption) ?_
    rotate_left
    · intro w5 hSw
      have c5 := hSw.2.1
      clear hSw
      go_simp
      all_goals with_reducible rfl
    (try simp only [List.getElem_toArray]); (try simp only [List.getElem_cons_succ]); (try simp only [List.getElem_cons_zero]); try simp only [Act.put, List.setIfInBounds_toArray, List.set_cons_zero, List.set_cons_succ]
    refine wpAnyH_take (i := 10) (oi := _) (v := ?_) rfl (by kernel_rfl) (by kernel_rfl) (by kernel_rfl) (fun _ _ _ h => h) (Or.inl ⟨by rfl, ?_⟩) (by assumption) ?_
    rotate_left
    · intro w5 hSw
      clear hSw
      go_simp
      all_goals with_reducible rfl
    (try simp only [List.getElem_toArray]); (try simp only [List.getElem_cons_succ]); (try simp only [List.getElem_cons_zero]); try simp only [Act.put, List.setIfInBounds_toArray, List.set_cons_zero, List.set_cons_succ]
    refine wpAnyH_take (i := 11) (oi := _) (v := ?_) rfl (by kernel_rfl) (by kernel_rfl) (by kernel_rfl) (fun _ _ _ h => h) (Or.inl ⟨by rfl, ?_⟩) (by assumption) ?_
    rotate_left
    · intro w5 hSw
      clear hSw
      go_simp
      all_goals with_reducible rfl
    (try simp only [List.getElem_toArray]); (try simp only [List.getElem_cons_succ]); (try simp only [List.getElem_cons_zero]); try simp only [Act.put, List.setIfInBounds_toArray, List.set_cons_zero, List.set_cons_succ]
    refine wpAnyH_take (i := 12) (oi := _) (v := ?_) rfl (by kernel_rfl) (by kernel_rfl) (by kernel_rfl) (fun _ _ _ h => h) (Or.inl ⟨by rfl, ?_⟩) (by assumption) ?_
    rotate_left
    · intro w5 hSw
      clear hSw
      go_simp
      all_goals with_reducible rfl
    (try simp only [List.getElem_toArray]); (try simp only [List.getElem_cons_succ]); (try simp only [List.getElem_cons_zero]); try simp only [Act.put, List.setIfInBounds_toArray, List.set_cons_zero, List.set_cons_succ]
    refine wpAnyH_take (i := 13) (oi := _) (v := ?_) rfl (by kernel_rfl) (by kernel_rfl) (by kernel_rfl) (fun _ _ _ h => h) (Or.inl ⟨by rfl, ?_⟩) (by assumption) ?_
    rotate_left
    · intro w5 hSw
      have c5 := blk_cell hSw.1.2 10
      clear hSw
      go_simp
      all_goals with_reducible rfl
    (try simp only [List.getElem_toArray]); (try simp only [List.getElem_cons_succ]); (try simp only [List.getElem_cons_zero]); try simp only [Act.put, List.setIfInBounds_toArray, List.set_cons_zero, List.set_cons_succ]
    refine wpAnyH_take (i := 14) (oi := _) (v := ?_) rfl (by kernel_rfl) (by kernel_rfl) (by kernel_rfl) (fun _ _ _ h => h) (Or.inl ⟨by rfl, ?_⟩) (by assumption) ?_
    rotate_left
    · intro w5 hSw
      clear hSw
      go_simp
      all_goals with_reducible rfl
    (try simp only [List.getElem_toArray]); (try simp only [List.getElem_cons_succ]); (try simp only [List.getElem_cons_zero]); try simp only [Act.put, List.setIfInBounds_toArray, List.set_cons_zero, List.set_cons_succ]
    refine wpAnyH_take (i := 15) (oi := _) (v := ?_) rfl (by kernel_rfl) (by kernel_rfl) (by kernel_rfl) (fun _ _ _ h => h) (Or.inl ⟨by rfl, ?_⟩) (by assumption) ?_
    rotate_left
    · intro w5 hSw
      have c5 := hSw.2.2.1
      clear hSw
      go_simp
      all_goals with_reducible rfl
    (try simp only [List.getElem_toArray]); (try simp only [List.getElem_cons_succ]); (try simp only [List.getElem_cons_zero]); try simp only [Act.put, List.setIfInBounds_toArray, List.set_cons_zero, List.set_cons_succ]
    refine wpAnyH_take (i := 16) (oi := _) (v := ?_) rfl (by kernel_rfl) (by kernel_rfl) (by kernel_rfl) (fun _ _ _ h => h) (Or.inl ⟨by rfl, ?_⟩) (by assumption) ?_
    rotate_left
    · intro w5 hSw
      clear hSw
      go_simp
      all_goals with_reducible rfl
    (try simp only [List.getElem_toArray]); (try simp only [List.getElem_cons_succ]); (try simp only [List.getElem_cons_zero]); try simp only [Act.put, List.setIfInBounds_toArray, List.set_cons_zero, List.set_cons_succ]
    refine wpAnyH_take (i := 17) (oi := _) (v := ?_) rfl (by kernel_rfl) (by kernel_rfl) (by kernel_rfl) (fun _ _ _ h => h) (Or.inl ⟨by rfl, ?_⟩) (by assumption) ?_
    rotate_left
    · intro w5 hSw
      clear hSw
      go_simp
      all_goals with_reducible rfl
    (try simp only [List.getElem_toArray]); (try simp only [List.getElem_cons_succ]); (try simp only [List.getElem_cons_zero]); try simp only [Act.put, List.setIfInBounds_toArray, List.set_cons_zero, List.set_cons_succ]
    refine wpAnyH_take (i := 18) (oi := _) (v := ?_) rfl (by kernel_rfl) (by kernel_rfl) (by kernel_rfl) (fun _ _ _ h => h) (Or.inl ⟨by rfl, ?_⟩) (by assumption) ?_
    rotate_left
    · intro w5 hSw
      clear hSw
      go_simp
      all_goals with_reducible rfl
    (try simp only [List.getElem_toArray]); (try simp only [List.getElem_cons_succ]); (try simp only [List.getElem_cons_zero]); try simp only [Act.put, List.setIfInBounds_toArray, List.set_cons_zero, List.set_cons_succ]
    refine wpAnyH_take (i := 19) (oi := _) (v := ?_) rfl (by kernel_rfl) (by kernel_rfl) (by kernel_rfl) (fun _ _ _ h => h) (Or.inl ⟨by rfl, ?_⟩) (by assumption) ?_
    rotate_left
    · intro w5 hSw
      clear hSw
      go_simp
      all_goals with_reducible rfl
    (try simp only [List.getElem_toArray]); (try simp only [List.getElem_cons_succ]); (try simp only [List.getElem_cons_zero]); try simp only [Act.put, List.setIfInBounds_toArray, List.set_cons_zero, List.set_cons_succ]
    refine wpAnyH_take (i := 20) (oi := _) (v := ?_) rfl (by kernel_rfl) (by kernel_rfl) (by kernel_rfl) (fun _ _ _ h => h) (Or.inl ⟨by rfl, ?_⟩) (by assumption) ?_
    rotate_left
    · intro w5 hSw
      have c5 := blk_cell hSw.1.2 10
      clear hSw
      go_simp
      all_goals with_reducible rfl
    (try simp only [List.getElem_toArray]); (try simp only [List.getElem_cons_succ]); (try simp only [List.getElem_cons_zero]); try simp only [Act.put, List.setIfInBounds_toArray, List.set_cons_zero, List.set_cons_succ]
    refine wpAnyH_take (i := 21) (oi := _) (v := ?_) rfl (by kernel_rfl) (by kernel_rfl) (by kernel_rfl) (fun _ _ _ h => h) (Or.inl ⟨by rfl, ?_⟩) (by assumption) ?_
    rotate_left
    · intro w5 hSw
      clear hSw
      go_simp
      all_goals with_reducible rfl
    (try simp only [List.getElem_toArray]); (try simp only [List.getElem_cons_succ]); (try simp only [List.getElem_cons_zero]); try simp only [Act.put, List.setIfInBounds_toArray, List.set_cons_zero, List.set_cons_succ]
    refine wpAnyH_take (i := 22) (oi := _) (v := ?_) rfl (by kernel_rfl) (by kernel_rfl) (by kernel_rfl) (fun _ _ _ h => h) (Or.inl ⟨by rfl, ?_⟩) (by assumption) ?_
    rotate_left
    · intro w5 hSw
      have c5 := hSw.2.2.2.1
      clear hSw
      go_simp
      all_goals with_reducible rfl
    (try simp only [List.getElem_toArray]); (try simp only [List.getElem_cons_succ]); (try simp only [List.getElem_cons_zero]); try simp only [Act.put, List.setIfInBounds_toArray, List.set_cons_zero, List.set_cons_succ]
    refine wpAnyH_take (i := 23) (oi := _) (v := ?_) rfl (by kernel_rfl) (by kernel_rfl) (by kernel_rfl) (fun _ _ _ h => h) (Or.inl ⟨by rfl, ?_⟩) (by assumption) ?_
    rotate_left
    · intro w5 hSw
      clear hSw
      go_simp
      all_goals with_reducible rfl
    (try simp only [List.getElem_toArray]); (try simp only [List.getElem_cons_succ]); (try simp only [List.getElem_cons_zero]); try simp only [Act.put, List.setIfInBounds_toArray, List.set_cons_zero, List.set_cons_succ]
    refine wpAnyH_take (i := 24) (oi := _) (v := ?_) rfl (by kernel_rfl) (by kernel_rfl) (by kernel_rfl) (fun _ _ _ h => h) (Or.inl ⟨by rfl, ?_⟩) (by assumption) ?_
    rotate_left
    · intro w5 hSw
      clear hSw
      go_simp
      all_goals with_reducible rfl
    (try simp only [List.getElem_toArray]); (try simp only [List.getElem_cons_succ]); (try simp only [List.getElem_cons_zero]); try simp only [Act.put, List.setIfInBounds_toArray, List.set_cons_zero, List.set_cons_succ]
    refine wpAnyH_take (i := 25) (oi := _) (v := ?_) rfl (by kernel_rfl) (by kernel_rfl) (by kernel_rfl) (fun _ _ _ h => h) (Or.inl ⟨by rfl, ?_⟩) (by assumption) ?_
    rotate_left
    · intro w5 hSw
      clear hSw
      go_simp
      all_goals with_reducible rfl
    (try simp only [List.getElem_toArray]); (try simp only [List.getElem_cons_succ]); (try simp only [List.getElem_cons_zero]); try simp only [Act.put, List.setIfInBounds_toArray, List.set_cons_zero, List.set_cons_succ]
    refine wpAnyH_take (i := 26) (oi := _) (v := ?_) rfl (by kernel_rfl) (by kernel_rfl) (by kernel_rfl) (fun _ _ _ h => h) (Or.inl ⟨by rfl, ?_⟩) (by assumption) ?_
    rotate_left
    · intro w5 hSw
      have c5 := blk_cell hSw.1.2 10
      clear hSw
      go_simp
      all_goals with_reducible rfl
    (try simp only [List.getElem_toArray]); (try simp only [List.getElem_cons_succ]); (try simp only [List.getElem_cons_zero]); try simp only [Act.put, List.setIfInBounds_toArray, List.set_cons_zero, List.set_cons_succ]
    refine wpAnyH_take (i := 27) (oi := _) (v := ?_) rfl (by kernel_rfl) (by kernel_rfl) (by kernel_rfl) (fun _ _ _ h => h) (Or.inl ⟨by rfl, ?_⟩) (by assumption) ?_
    rotate_left
    · intro w5 hSw
      clear hSw
      go_simp
      all_goals with_reducible rfl
    (try simp only [List.getElem_toArray]); (try simp only [List.getElem_cons_succ]); (try simp only [List.getElem_cons_zero]); try simp only [Act.put, List.setIfInBounds_toArray, List.set_cons_zero, List.set_cons_succ]
    refine wpAnyH_take (i := 28) (oi := _) (v := ?_) rfl (by kernel_rfl) (by kernel_rfl) (by kernel_rfl) (fun _ _ _ h => h) (Or.inl ⟨by rfl, ?_⟩) (by assumption) ?_
    rotate_left
    · intro w5 hSw
      have c5 := hSw.2.2.2.2
      clear hSw
      go_simp
      all_goals with_reducible rfl
    (try simp only [List.getElem_toArray]); (try simp only [List.getElem_cons_succ]); (try simp only [List.getElem_cons_zero]); try simp only [Act.put, List.setIfInBounds_toArray, List.set_cons_zero, List.set_cons_succ]
    refine wpAnyH_take (i := 29) (oi := _) (v := ?_) rfl (by kernel_rfl) (by kernel_rfl) (by kernel_rfl) (fun _ _ _ h => h) (Or.inl ⟨by rfl, ?_⟩) (by assumption) ?_
    rotate_left
    · intro w5 hSw
      clear hSw
      go_simp
      all_goals with_reducible rfl
    (try simp only [List.getElem_toArray]); (try simp only [List.getElem_cons_succ]); (try simp only [List.getElem_cons_zero]); try simp only [Act.put, List.setIfInBounds_toArray, List.set_cons_zero, List.set_cons_succ]
    refine wpAnyH_take (i := 30) (oi := _) (v := ?_) rfl (by kernel_rfl) (by kernel_rfl) (by kernel_rfl) (fun _ _ _ h => h) (Or.inl ⟨by rfl, ?_⟩) (by assumption) ?_
    rotate_left
    · intro w5 hSw
      clear hSw
      go_simp
      all_goals with_reducible rfl
    (try simp only [List.getElem_toArray]); (try simp only [List.getElem_cons_succ]); (try simp only [List.getElem_cons_zero]); try simp only [Act.put, List.setIfInBounds_toArray, List.set_cons_zero, List.set_cons_succ]
    refine wpAnyH_take (i := 31) (oi := _) (v := ?_) rfl (by kernel_rfl) (by kernel_rfl) (by kernel_rfl) (fun _ _ _ h => h) (Or.inl ⟨by rfl, ?_⟩) (by assumption) ?_
    rotate_left
    · intro w5 hSw
      clear hSw
      go_simp
      all_goals with_reducible rfl
    (try simp only [List.getElem_toArray]); (try simp only [List.getElem_cons_succ]); (try simp only [List.getElem_cons_zero]); try simp only [Act.put, List.setIfInBounds_toArray, List.set_cons_zero, List.set_cons_succ]
    clear W0 W1 W2 W3 W4 W5 W6 W7 W8 W9 m0 m0n m1 m2 m3
    refine wpAnyH_ready (rs := [32]) (by kernel_rfl) (by simp) ?_
    refine (AllReadyH.cons (o := _) rfl (fun K hK => ?_) AllReadyH.nil)
    · (try simp only [List.getElem_toArray]); (try simp only [List.getElem_cons_succ]); (try simp only [List.getElem_cons_zero])
      go_simp
      go_at_call 30
      refine HTU.out.mono ?_
      rintro e V6 ⟨tg, tcp, rfl, O, b⟩
      try dsimp only
      have O6 := Lib.hid O
      have E6 := Lib.hid b
      have B6 := Lib.hid ((b.block _ (blk_lt B5.out)).trans B5.out)
      have P6 := Lib.hid ((b.block _ (blk_lt P5.out)).trans P5.out)
      have D6 := Lib.hid (dat_below D5.out (dlt.out) b)
      have K6 := Lib.hid (K5.out.below b)
      have dlt6 := Lib.hid (Nat.lt_of_lt_of_le dlt.out b.size)
      clear O b
      refine hK.out _ _ ?_ (fun hHeld => ?_)
      · exact ⟨⟨B6.out, P6.out⟩, D6.out⟩
      clear hK K
      (try simp only [List.getElem_toArray]); (try simp only [List.getElem_cons_succ]); (try simp only [List.getElem_cons_zero]); try simp only [Act.put, List.setIfInBounds_toArray, List.set_cons_zero, List.set_cons_succ]
      refine wpAnyH_ready (rs := [33]) (by kernel_rfl) (by simp) ?_
      refine (AllReadyH.cons (o := _) rfl (fun K hK => ?_) AllReadyH.nil)
      · (try simp only [List.getElem_toArray]); (try simp only [List.getElem_cons_succ]); (try simp only [List.getElem_cons_zero])
        go_simp
        go_at_call 29
        have hX := refhash_all ka ks kc (some ⟨tg, 0, none⟩) (tup src dst p0 p2) tcp V6 K6.out O6.out.bts
        rw [tup_len] at hX
        refine hX.mono ?_
        rintro e V7 ⟨rfl, b⟩
        try dsimp only
        have E7 := Lib.hid (E6.out.trans (b.mono E6.out.size))
        have B7 := Lib.hid ((b.block _ (blk_lt B6.out)).trans B6.out)
        have P7 := Lib.hid ((b.block _ (blk_lt P6.out)).trans P6.out)
        have D7 := Lib.hid (dat_below D6.out dlt6.out b)
        clear b
        refine hK.out _ _ ?_ (fun hHeld => ?_)
        · exact ⟨⟨B7.out, P7.out⟩, D7.out⟩
        clear hK K
        (try simp only [List.getElem_toArray]); (try simp only [List.getElem_cons_succ]); (try simp only [List.getElem_cons_zero]); try simp only [Act.put, List.setIfInBounds_toArray, List.set_cons_zero, List.set_cons_succ]
        refine wpAnyH_take (i := 34) (oi := _) (v := ?_) rfl (by kernel_rfl) (by kernel_rfl) (by kernel_rfl) (fun _ _ _ h => h) (Or.inl ⟨by rfl, ?_⟩) (by assumption) ?_
        rotate_left
        · intro w5 hSw
          clear hSw
          go_simp
          all_goals with_reducible rfl
        (try simp only [List.getElem_toArray]); (try simp only [List.getElem_cons_succ]); (try simp only [List.getElem_cons_zero]); try simp only [Act.put, List.setIfInBounds_toArray, List.set_cons_zero, List.set_cons_succ]
        refine wpAnyH_take (i := 35) (oi := _) (v := ?_) rfl (by kernel_rfl) (by kernel_rfl) (by kernel_rfl) (fun _ _ _ h => h) (Or.inl ⟨by rfl, ?_⟩) (by assumption) ?_
        rotate_left
        · intro w5 hSw
          clear hSw
          go_simp
          all_goals with_reducible rfl
        (try simp only [List.getElem_toArray]); (try simp only [List.getElem_cons_succ]); (try simp only [List.getElem_cons_zero]); try simp only [Act.put, List.setIfInBounds_toArray, List.set_cons_zero, List.set_cons_succ]
        refine wpAnyH_take (i := 36) (oi := _) (v := ?_) rfl (by kernel_rfl) (by kernel_rfl) (by kernel_rfl) (fun _ _ _ h => h) (Or.inl ⟨by rfl, ?_⟩) (by assumption) ?_
        rotate_left
        · intro w5 hSw
          clear hSw
          go_simp
          all_goals with_reducible rfl
        (try simp only [List.getElem_toArray]); (try simp only [List.getElem_cons_succ]); (try simp only [List.getElem_cons_zero]); try simp only [Act.put, List.setIfInBounds_toArray, List.set_cons_zero, List.set_cons_succ]
        refine wpAnyH_take (i := 37) (oi := _) (v := ?_) rfl (by kernel_rfl) (by kernel_rfl) (by kernel_rfl) (fun _ _ _ h => h) (Or.inl ⟨by rfl, ?_⟩) (by assumption) ?_
        rotate_left
        · intro w5 hSw
          clear hSw
          go_simp
          all_goals with_reducible rfl
        (try simp only [List.getElem_toArray]); (try simp only [List.getElem_cons_succ]); (try simp only [List.getElem_cons_zero]); try simp only [Act.put, List.setIfInBounds_toArray, List.set_cons_zero, List.set_cons_succ]
        refine wpAnyH_take (i := 38) (oi := _) (v := ?_) rfl (by kernel_rfl) (by kernel_rfl) (by kernel_rfl) (fun _ _ _ h => h) (Or.inl ⟨by rfl, ?_⟩) (by assumption) ?_
        rotate_left
        · intro w5 hSw
          clear hSw
          go_simp
          all_goals with_reducible rfl
        (try simp only [List.getElem_toArray]); (try simp only [List.getElem_cons_succ]); (try simp only [List.getElem_cons_zero]); try simp only [Act.put, List.setIfInBounds_toArray, List.set_cons_zero, List.set_cons_succ]
        refine wpAnyH_done (by kernel_rfl) ?_ _
        go_wp2_with fail
        go_meet
        exact ⟨rfl, E7.out⟩
  case rest =>
    obtain ⟨rfl, b⟩ := hcut
    have B6 := Lib.hid ((b.block w.heap.size (blk_lt B5.out)).trans B5.out)
    have E6 := Lib.hid (E5.out.trans (b.mono E5.out.size))
    have T6 := Lib.hid (HT.out.below E6.out)
    have b1 := blk_cell B6.out 1
    have hlt := thV_lt ks (tup src dst p0 p2)
    obtain ⟨hh, hhe⟩ : ∃ z, thV ks (tup src dst p0 p2) = z := ⟨_, rfl⟩
    rw [hhe] at hlt ⊢
    have HHE := Lib.hid hhe
    clear b hhe W0 W1 W2 W3 W4 W5 W6 W7 W8 W9 m0 m0n m1 m2 m3
    have h128 := (ctE_zero HCT.out).1
    obtain ⟨m, hm⟩ : ∃ m, hh % 128 = m := ⟨_, rfl⟩
    have hm1 : (hh : Int) % 128 = (m : Int) := by omega
    have hm2 : m < 128 := by omega
    obtain ⟨tb, tof, rfl, _, hcell⟩ := T6.out.isSome (by omega)
    have hc1 := hcell m (by omega)
    obtain ⟨t, htv⟩ : ∃ t, ts.getD m 0 = t := ⟨_, rfl⟩
    rw [htv] at hc1
    have HV : Hid (shV ts hh = t) := Lib.hid (by unfold shV; rw [if_pos HCT.out, hm, htv])
    have hml : (m : Int) < (ts.length : Int) := by omega
    clear hcell htv hm h128
    go_wp2
    go_ret2
    exact ⟨by rw [EE0.out, EE2.out, HHE.out, HV.out]; rfl, E6.out⟩
end Go.Proofs.Ytokfadlgiimaoaa

namespace Go.Proofs.Ytokfadlgiimaoaa
open Go.RowKit Go.Sort

set_option maxRecDepth 100000 in
set_option maxHeartbeats 1000000 in
theorem steer_bad (ka : Option Addr) (ks : List Nat) (kc : Nat) (ta : Option Addr) (ts : List Int) (tc : Nat) (sz ev : Int) (f : Value) (w : World) (ht : Its w ta ts) (hl : ts.length ≤ 9223372036854775807) (hc : chkE ks ts sz ev ≠ 0) :
    Calls Try.prog 7 #[.agg #[.slice ka ks.length kc, .slice ta ts.length tc, .int .i64 sz, .int .i64 ev], f] w fun e w' => e = .returned (.tuple #[.int .i64 0, .int .i64 (chkE ks ts sz ev)]) ∧ Below w.heap.size w w' := by
  have bw := (Below.refl w.heap.size w).alloc (Nat.le_refl _) (.cells #[.slice ka ks.length kc, .slice ta ts.length tc, .int .i64 sz, .int .i64 ev] 29)
  have HC := Lib.hid (check_any8 ka ks kc ta ts tc sz ev _ (ht.below bw) hl)
  have BW := Lib.hid bw
  clear ht bw
  generalize chkE ks ts sz ev = c at HC hc ⊢
  have e1 : (c != 0) = true := by rw [bne_iff_ne]; exact hc
  have e2 : (c == 0) = false := by rw [beq_eq_false_iff_ne]; exact hc
  go_enter Try.func7, Try.ntmps7
  go_wp2_with (first
    | (go_at_call 23; refine HC.out.mono ?_; rintro e V1 ⟨rfl, b⟩; have E1 := Lib.hid (BW.out.trans (b.mono BW.out.size)); clear b)
    | fail)
  go_ret2
  exact ⟨rfl, E1.out⟩

set_option maxRecDepth 100000 in
set_option maxHeartbeats 1000000 in
theorem steer_ok (ka : Option Addr) (ks : List Nat) (kc : Nat) (ta : Option Addr) (ts : List Int) (tc : Nat) (sz ev : Int) (a : Option Addr) (ys : List Nat) (cap q : Nat) (w : World) (hk : Bts w ka ks) (hkc : ks.length ≤ kc) (hkm : kc ≤ 9223372036854775807) (ht : Its w ta ts) (hl : ts.length ≤ 9223372036854775807) (hc : chkE ks ts sz ev = 0) (hy : Bts w a ys) (hyc : ys.length ≤ cap) (hym : cap ≤ maxLen) (hQ : QOf ks ts ys q) :
    Calls Try.prog 7 #[.agg #[.slice ka ks.length kc, .slice ta ts.length tc, .int .i64 sz, .int .i64 ev], .slice a ys.length cap] w fun e w' => e = .returned (.tuple #[.int .i64 (q : Nat), .int .i64 0]) ∧ Below w.heap.size w w' := by
  have bw := (Below.refl w.heap.size w).alloc (Nat.le_refl _) (.cells #[.slice ka ks.length kc, .slice ta ts.length tc, .int .i64 sz, .int .i64 ev] 29)
  have HC := Lib.hid (check_any8 ka ks kc ta ts tc sz ev _ (ht.below bw) hl)
  rw [hc] at HC
  have K0 := Lib.hid (blk_new w (.cells #[.slice ka ks.length kc, .slice ta ts.length tc, .int .i64 sz, .int .i64 ev] 29))
  have hz0 : Hid (w.heap.size < (w.alloc (.cells #[.slice ka ks.length kc, .slice ta ts.length tc, .int .i64 sz, .int .i64 ev] 29)).heap.size) := Lib.hid (by rw [World.size_alloc]; exact Nat.lt_succ_self _)
  have BW := Lib.hid bw
  have HK := Lib.hid hk
  have HT := Lib.hid ht
  have HY := Lib.hid hy
  have HQ := Lib.hid hQ
  have HN := Lib.hid (And.intro hkc (And.intro hkm (And.intro hyc hym)))
  clear hk ht bw hy hc hQ hkc hkm hyc hym hl
  go_enter Try.func7, Try.ntmps7
  go_upto_region 2 with (first
    | (go_at_call 23; refine HC.out.mono ?_; rintro e V1 ⟨rfl, b⟩; have E1 := Lib.hid (BW.out.trans (b.mono BW.out.size)); have K1 := Lib.hid ((b.block _ hz0.out).trans K0.out); clear b)
    | fail)
  have c0 := blk_cell K1.out 0
  have c1 := blk_cell K1.out 1
  have c2 := blk_cell K1.out 2
  have c3 := blk_cell K1.out 3
  have HX := Lib.hid (HQ.out ka kc ta tc sz ev a cap V1 (HK.out.below E1.out) HN.out.1 HN.out.2.1 (HT.out.below E1.out) (HY.out.below E1.out) HN.out.2.2.1 HN.out.2.2.2)
  go_wp2_with (first
    | (go_at_call 24; refine HX.out.mono ?_; rintro e V2 ⟨rfl, b⟩; have E2 := Lib.hid (E1.out.trans (b.mono E1.out.size)); clear b)
    | fail)
  go_ret2
  exact ⟨rfl, E2.out⟩
end Go.Proofs.Ytokfadlgiimaoaa

namespace Go.Proofs.Ytokfadlgiimaoaa
open Go.RowKit Go.Sort

/-- The document's Steer tells this queue. -/
def RSt (ks : List Nat) (ts : List Int) (ys : List Nat) (q : Nat) : Prop :=
  ∀ (ka : Option Addr) (kc : Nat) (ta : Option Addr) (tc : Nat) (sz ev : Int) (a : Option Addr) (cap : Nat) (W : World), Bts W ka ks → Its W ta ts → chkE ks ts sz ev = 0 → Bts W a ys → ys.length ≤ cap → cap ≤ maxLen →
    Calls Try.prog 9 #[.agg #[.slice ka ks.length kc, .slice ta ts.length tc, .int .i64 sz, .int .i64 ev], .slice a ys.length cap] W fun e w' => e = .returned (.tuple #[.int .i64 (q : Nat), .int .i64 0]) ∧ Below W.heap.size W w'

theorem both_any (ks : List Nat) (ts : List Int) (ys : List Nat) (ht : ctE ts = 0) (hl : ys.length ≤ 140737488351232) (hy : ∀ y ∈ ys, y < 256) : ∃ q : Nat, q < 16 ∧ QOf ks ts ys q ∧ RSt ks ts ys q := by
  have htl : ts.length ≤ 9223372036854775807 := by have := (ctE_zero ht).1; omega
  by_cases h0 : ethPE ys = 0
  case neg => exact ⟨0, by omega, (fun ka kc ta tc sz ev a cap W _ _ _ _ hb hc hm => qof_err ka ks kc ta ts tc sz ev a ys cap W hb hc hm hl h0), fun ka kc ta tc sz ev a cap W _ hta hch hb hc hm => rst_err ka ks kc ta ts tc sz ev a ys cap W hta htl hch hb hc hm hl h0⟩
  by_cases h1 : ethPT ys = 2048
  case neg => exact ⟨0, by omega, (fun ka kc ta tc sz ev a cap W _ _ _ _ hb hc hm => qof_type ka ks kc ta ts tc sz ev a ys cap W hb hc hm hl h0 h1), fun ka kc ta tc sz ev a cap W _ hta hch hb hc hm => rst_type ka ks kc ta ts tc sz ev a ys cap W hta htl hch hb hc hm hl h0 h1⟩
  by_cases h2 : IpPok (ethPds ys)
  case neg => exact ⟨0, by omega, (fun ka kc ta tc sz ev a cap W _ _ _ _ hb hc hm => qof_noip ka ks kc ta ts tc sz ev a ys cap W hb hc hm hl h0 h1 h2), fun ka kc ta tc sz ev a cap W _ hta hch hb hc hm => rst_noip ka ks kc ta ts tc sz ev a ys cap W hta htl hch hb hc hm hl h0 h1 h2⟩
  have hdl : (ethPds ys).length ≤ 65535 := by
    unfold ethPds; split
    · rw [List.length_drop]; omega
    · simp
  have hdx : ∀ x ∈ ethPds ys, x < 256 := by
    unfold ethPds; split
    · exact fun x hx => hy x (List.mem_of_mem_drop hx)
    · exact fun x hx => by cases hx
  have hip : ∀ W a1 c1, Bts W a1 (ethPds ys) → (ethPds ys).length ≤ c1 → c1 ≤ maxLen → Calls Try.prog 39 #[.slice a1 (ethPds ys).length c1] W fun e w' => ∃ oa oc da dc, e = .returned (.tuple #[.agg (ipV ((ethPds ys).getD 1 0) (Mt.numOf (seg (ethPds ys) 4 2)) (ipDf (ethPds ys)) (ipMf (ethPds ys)) (ipOff (ethPds ys) : Nat) ((ethPds ys).getD 8 0) ((ethPds ys).getD 9 0) (Mt.numOf (seg (ethPds ys) 12 4)) (Mt.numOf (seg (ethPds ys) 16 4)) oa (ipOs (ethPds ys)).length oc da (ipDs (ethPds ys)).length dc), .int .i64 0]) ∧ OwnSl W.heap.size da (ipDs (ethPds ys)) dc w' ∧ Below W.heap.size W w' := fun W a1 c1 hb hc hm => by
    refine (ipP_ok a1 (ethPds ys) c1 W hb hc hm (by omega) h2).mono ?_
    rintro e w' ⟨oa, oc, da, dc, rfl, _, h3, h4⟩
    exact ⟨oa, oc, da, dc, rfl, h3.mono (Nat.le_succ _), h4⟩
  have hir : ∀ W a1 c1, Bts W a1 (ethPds ys) → (ethPds ys).length ≤ c1 → Calls Try.prog 28 #[.slice a1 (ethPds ys).length c1] W fun e w' => ∃ (idn : Int) (df : Bool) (oa : Option Addr) (oc : Nat) (da : Option Addr) (dc : Nat), e = .returned (.tuple #[.agg #[.int .u8 ((ethPds ys).getD 1 0 : Nat), .int .u16 idn, .bool df, .bool (ipMf (ethPds ys)), .int .i64 (ipOff (ethPds ys) : Nat), .int .u8 ((ethPds ys).getD 8 0 : Nat), .int .u8 ((ethPds ys).getD 9 0 : Nat), .int .u32 (Mt.numOf (seg (ethPds ys) 12 4) : Nat), .int .u32 (Mt.numOf (seg (ethPds ys) 16 4) : Nat), .slice oa (ipOs (ethPds ys)).length oc, .slice da (ipDs (ethPds ys)).length dc], .int .i64 0]) ∧ OwnSl W.heap.size da (ipDs (ethPds ys)) dc w' ∧ Below W.heap.size W w' := fun W a1 c1 hb hc => by
    refine (refip_ok a1 (ethPds ys) c1 W hb hc h2).mono ?_
    rintro e w' ⟨idn, df, oa, oc, da, dc, rfl, h3, h4⟩
    exact ⟨idn, df, oa, oc, da, dc, by rw [show ipOff (ethPds ys) = ipFr (ethPds ys) % 8192 * 8 from Nat.mul_comm _ _]; rfl, h3, h4⟩
  have hs : Mt.numOf (seg (ethPds ys) 12 4) < 4294967296 := seg_num_lt _ hdx 12 4 (by have := h2.1; omega)
  have hd : Mt.numOf (seg (ethPds ys) 16 4) < 4294967296 := seg_num_lt _ hdx 16 4 (by have := h2.1; omega)
  unfold ipV at hip
  generalize (ethPds ys).getD 1 0 = tos at hip hir
  generalize Mt.numOf (seg (ethPds ys) 4 2) = idn at hip
  generalize ipDf (ethPds ys) = df at hip
  generalize ipMf (ethPds ys) = mf at hip hir
  generalize ipOff (ethPds ys) = off at hip hir
  generalize (ethPds ys).getD 8 0 = ttl at hip hir
  generalize (ethPds ys).getD 9 0 = pr at hip hir
  generalize Mt.numOf (seg (ethPds ys) 12 4) = src at hip hir hs
  generalize Mt.numOf (seg (ethPds ys) 16 4) = dst at hip hir hd
  generalize (ipOs (ethPds ys)).length = on at hip hir
  generalize ipDs (ethPds ys) = ds at hip hir
  by_cases hbad : pr ≠ 6 ∨ off ≠ 0 ∨ mf = true ∨ ds.length < 4
  · exact ⟨0, by omega, (fun ka kc ta tc sz ev a cap W _ _ _ _ hb hc hm => qof_bad ka ks kc ta ts tc sz ev a ys cap W hb hc hm hl tos idn df mf off ttl pr src dst on ds h0 h1 hip hbad), fun ka kc ta tc sz ev a cap W _ hta hch hb hc hm => rst_bad ka ks kc ta ts tc sz ev a ys cap W hta htl hch hb hc hm hl tos mf off ttl pr src dst on ds h0 h1 hir hbad⟩
  · obtain rfl : pr = 6 := by omega
    obtain rfl : off = 0 := by omega
    obtain rfl : mf = false := by
      cases mf with
      | false => rfl
      | true => exact absurd (.inr (.inr (.inl rfl))) hbad
    have h4 : 4 ≤ ds.length := by omega
    have hr := sh_range ht (thV ks (tup src dst (Mt.numOf (seg ds 0 2)) (Mt.numOf (seg ds 2 2))))
    refine ⟨(shV ts (thV ks (tup src dst (Mt.numOf (seg ds 0 2)) (Mt.numOf (seg ds 2 2))))).toNat, by omega, (fun ka kc ta tc sz ev a cap W hk hkc hkm htb hb hc hm => ?_), fun ka kc ta tc sz ev a cap W hk htb hch hb hc hm => ?_⟩
    · refine (qof_good ka ks kc ta ts tc sz ev a ys cap W hb hc hm hl tos idn df ttl src dst on ds h0 h1 hip h4 hs hd hk hkc hkm htb htl).mono ?_
      rintro e w' ⟨rfl, b⟩
      exact ⟨by rw [Int.toNat_of_nonneg hr.1], b⟩
    · refine (rst_good ka ks kc ta ts tc sz ev a ys cap W htb htl hch hb hc hm hl tos ttl src dst on ds h0 h1 hir h4 hs hd hk ht).mono ?_
      rintro e w' ⟨rfl, b⟩
      exact ⟨by rw [Int.toNat_of_nonneg hr.1], b⟩
end Go.Proofs.Ytokfadlgiimaoaa
