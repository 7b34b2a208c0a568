/- Which queue a frame comes to: one of sixteen, the same at every world. -/
import Derived.Test.YtokfadlgiimaoaaRgG
import Derived.Test.YtokfadlgiimaoaaEthAll
import Derived.Test.YtokfadlgiimaoaaIpAll
import Derived.Test.YtokfadlgiimaoaaToCalls
import Derived.Test.YtokfadlgiimaoaaToPut
import Derived.Test.YtokfadlgiimaoaaGPut
namespace Go.Proofs.Ytokfadlgiimaoaa
open Go.RowKit Go.Sort

set_option maxRecDepth 100000 in
set_option maxHeartbeats 1000000 in
theorem port_any (pb i : Nat) (cs : Array Value) (db dof dc : Nat) (ds : List Nat) (w : World) (hp : w.heap[pb]? = some (.cells cs 72 (0, 0))) (h10 : cs[10]? = some (.slice (some ⟨db, dof, none⟩) ds.length dc)) (hd : Bts w (some ⟨db, dof, none⟩) ds) (hc : ds.length ≤ dc) (hi : i + 2 ≤ ds.length) (hil : i ≤ 2) :
    Calls Try.prog 40 #[.int .i64 (i : Nat), .pointer (some ⟨pb, 0, none⟩)] w fun e w' => e = .returned (.int .u16 (Mt.numOf (seg ds i 2) : Nat)) ∧ w' = w := by
  have c10 := (blk_cell hp 10).trans h10
  have hs := hd.segOf i 2 hi
  have hn : Mt.numOf (seg ds i 2) < 65536 := seg_num_lt ds hd.1 i 2 hi
  have hsl := seg_length ds i 2 hi
  have hg : ∀ c, Calls Try.prog 41 #[.slice (some ⟨db, dof + i, none⟩) 2 c] w fun e w' => e = .returned (.tuple #[.int .u64 (Mt.numOf (seg ds i 2) : Nat), .int .i64 0]) ∧ w = w' := fun c => by
    have h := get_ok (some ⟨db, dof + i, none⟩) (seg ds i 2) c w hs (by omega) (by omega)
    rwa [hsl] at h
  have HG := Lib.hid hg
  generalize Mt.numOf (seg ds i 2) = v at hn HG ⊢
  have W1 : IntKind.i64.wrap ((i : Int) + 2) = (i : Int) + 2 := IntWalk.i64_in _ ⟨by omega, by omega⟩
  have W2 : IntKind.u16.wrap (v : Int) = (v : Int) := IntWalk.u16_in _ (by omega)
  have i1 : (i : Int) ≤ (i : Int) + 2 := by omega
  have i2 : (i : Int) + 2 ≤ (dc : Int) := by omega
  have i3 : (i : Int) + 2 - (i : Int) = 2 := by omega
  have i4 : (0 : Int) ≤ (i : Int) := by omega
  have i5 : ¬ dc = i := by omega
  have i6 : i < dc := by omega
  clear hp h10 hd hs hsl hg hi hc
  go_enter Try.func40, Try.ntmps40
  go_wp2_with (first
    | (go_at_call 41; refine (HG.out _).mono ?_; rintro e w' ⟨rfl, rfl⟩)
    | fail)
  go_ret
  exact ⟨rfl, rfl⟩

set_option maxRecDepth 100000 in
set_option maxHeartbeats 1000000 in
theorem qof_err (ka : Option Addr) (ks : List Nat) (kc : Nat) (ta : Option Addr) (ts : List Int) (tc : Nat) (sz ev : Int) (a : Option Addr) (ys : List Nat) (cap : Nat) (w : World) (hy : Bts w a ys) (hc : ys.length ≤ cap) (hm : cap ≤ maxLen) (hl : ys.length ≤ 140737488351232) (h : ethPE ys ≠ 0) :
    Calls Try.prog 24 #[.agg #[.slice ka ks.length kc, .slice ta ts.length tc, .int .i64 sz, .int .i64 ev], .slice a ys.length cap] w fun e w' => e = .returned (.int .i64 0) ∧ Below w.heap.size w w' := by
  have ba := Lib.hid ((Below.refl w.heap.size w).alloc (Nat.le_refl _) (.cells #[.slice ka ks.length kc, .slice ta ts.length tc, .int .i64 sz, .int .i64 ev] 29))
  have HE := Lib.hid (ethP_all a ys cap _ (hy.below ba.out) hc hm (by omega))
  have e1 : (ethPE ys != 0) = true := by rw [bne_iff_ne]; exact h
  clear hy hc hm
  go_enter Try.func24, Try.ntmps24
  go_upto_region 2 with (first
    | (go_at_call 38; refine HE.out.mono ?_; rintro e V1 ⟨a1, c1, rfl, O, b⟩; have O1 := Lib.hid O; have E1 := Lib.hid (ba.out.trans (b.mono ba.out.size)); clear O b)
    | fail)
  have b2 := (Below.refl V1.heap.size V1).alloc (Nat.le_refl _) (.cells #[.int .u64 (ethPD ys : Nat), .int .u64 (ethPS ys : Nat), .int .i64 (ethPT ys : Nat), .slice a1 (ethPds ys).length c1] 66)
  have K2 := Lib.hid (blk_new V1 (.cells #[.int .u64 (ethPD ys : Nat), .int .u64 (ethPS ys : Nat), .int .i64 (ethPT ys : Nat), .slice a1 (ethPds ys).length c1] 66))
  have O2 := Lib.hid (O1.out.below b2)
  have E2 := Lib.hid (E1.out.trans (b2.mono E1.out.size))
  clear b2 O1 E1
  generalize V1.alloc (.cells #[.int .u64 (ethPD ys : Nat), .int .u64 (ethPS ys : Nat), .int .i64 (ethPT ys : Nat), .slice a1 (ethPds ys).length c1] 66) = V2 at K2 O2 E2 ⊢
  generalize V1.heap.size = p at K2 ⊢
  have k2 := blk_cell K2.out 2
  have k3 := blk_cell K2.out 3
  go_wp2
  go_ret
  exact ⟨rfl, E2.out⟩

set_option maxRecDepth 100000 in
set_option maxHeartbeats 1000000 in
theorem qof_type (ka : Option Addr) (ks : List Nat) (kc : Nat) (ta : Option Addr) (ts : List Int) (tc : Nat) (sz ev : Int) (a : Option Addr) (ys : List Nat) (cap : Nat) (w : World) (hy : Bts w a ys) (hc : ys.length ≤ cap) (hm : cap ≤ maxLen) (hl : ys.length ≤ 140737488351232) (h0 : ethPE ys = 0) (h : ethPT ys ≠ 2048) :
    Calls Try.prog 24 #[.agg #[.slice ka ks.length kc, .slice ta ts.length tc, .int .i64 sz, .int .i64 ev], .slice a ys.length cap] w fun e w' => e = .returned (.int .i64 0) ∧ Below w.heap.size w w' := by
  have ba := Lib.hid ((Below.refl w.heap.size w).alloc (Nat.le_refl _) (.cells #[.slice ka ks.length kc, .slice ta ts.length tc, .int .i64 sz, .int .i64 ev] 29))
  have HE := Lib.hid (ethP_all a ys cap _ (hy.below ba.out) hc hm (by omega))
  have e1 : ((ethPT ys : Int) != 2048) = true := by rw [bne_iff_ne]; omega
  have e2 : (ethPE ys != 0) = false := by rw [h0]; rfl
  clear hy hc hm
  go_enter Try.func24, Try.ntmps24
  go_upto_region 2 with (first
    | (go_at_call 38; refine HE.out.mono ?_; rintro e V1 ⟨a1, c1, rfl, O, b⟩; have O1 := Lib.hid O; have E1 := Lib.hid (ba.out.trans (b.mono ba.out.size)); clear O b)
    | fail)
  have b2 := (Below.refl V1.heap.size V1).alloc (Nat.le_refl _) (.cells #[.int .u64 (ethPD ys : Nat), .int .u64 (ethPS ys : Nat), .int .i64 (ethPT ys : Nat), .slice a1 (ethPds ys).length c1] 66)
  have K2 := Lib.hid (blk_new V1 (.cells #[.int .u64 (ethPD ys : Nat), .int .u64 (ethPS ys : Nat), .int .i64 (ethPT ys : Nat), .slice a1 (ethPds ys).length c1] 66))
  have O2 := Lib.hid (O1.out.below b2)
  have E2 := Lib.hid (E1.out.trans (b2.mono E1.out.size))
  clear b2 O1 E1
  generalize V1.alloc (.cells #[.int .u64 (ethPD ys : Nat), .int .u64 (ethPS ys : Nat), .int .i64 (ethPT ys : Nat), .slice a1 (ethPds ys).length c1] 66) = V2 at K2 O2 E2 ⊢
  generalize V1.heap.size = p at K2 ⊢
  have k2 := blk_cell K2.out 2
  have k3 := blk_cell K2.out 3
  go_wp2
  go_ret
  exact ⟨rfl, E2.out⟩

set_option maxRecDepth 100000 in
set_option maxHeartbeats 1000000 in
theorem qof_noip (ka : Option Addr) (ks : List Nat) (kc : Nat) (ta : Option Addr) (ts : List Int) (tc : Nat) (sz ev : Int) (a : Option Addr) (ys : List Nat) (cap : Nat) (w : World) (hy : Bts w a ys) (hc : ys.length ≤ cap) (hm : cap ≤ maxLen) (hl : ys.length ≤ 140737488351232) (h0 : ethPE ys = 0) (h : ethPT ys = 2048) (hb : ¬ IpPok (ethPds ys)) :
    Calls Try.prog 24 #[.agg #[.slice ka ks.length kc, .slice ta ts.length tc, .int .i64 sz, .int .i64 ev], .slice a ys.length cap] w fun e w' => e = .returned (.int .i64 0) ∧ Below w.heap.size w w' := by
  have ba := Lib.hid ((Below.refl w.heap.size w).alloc (Nat.le_refl _) (.cells #[.slice ka ks.length kc, .slice ta ts.length tc, .int .i64 sz, .int .i64 ev] 29))
  have HE := Lib.hid (ethP_all a ys cap _ (hy.below ba.out) hc hm (by omega))
  have e1 : ((ethPT ys : Int) != 2048) = false := by rw [h]; rfl
  have e2 : (ethPE ys != 0) = false := by rw [h0]; rfl
  have hdl : (ethPds ys).length ≤ 65535 := by unfold ethPds; split
                                              · rw [List.length_drop]; omega
                                              · simp
  have HDL := Lib.hid hdl
  have HB := Lib.hid hb
  clear hdl hb h0 h
  clear hy hc hm
  go_enter Try.func24, Try.ntmps24
  go_upto_region 2 with (first
    | (go_at_call 38; refine HE.out.mono ?_; rintro e V1 ⟨a1, c1, rfl, O, b⟩; have O1 := Lib.hid O; have E1 := Lib.hid (ba.out.trans (b.mono ba.out.size)); clear O b)
    | fail)
  have b2 := (Below.refl V1.heap.size V1).alloc (Nat.le_refl _) (.cells #[.int .u64 (ethPD ys : Nat), .int .u64 (ethPS ys : Nat), .int .i64 (ethPT ys : Nat), .slice a1 (ethPds ys).length c1] 66)
  have K2 := Lib.hid (blk_new V1 (.cells #[.int .u64 (ethPD ys : Nat), .int .u64 (ethPS ys : Nat), .int .i64 (ethPT ys : Nat), .slice a1 (ethPds ys).length c1] 66))
  have O2 := Lib.hid (O1.out.below b2)
  have E2 := Lib.hid (E1.out.trans (b2.mono E1.out.size))
  clear b2 O1 E1
  generalize V1.alloc (.cells #[.int .u64 (ethPD ys : Nat), .int .u64 (ethPS ys : Nat), .int .i64 (ethPT ys : Nat), .slice a1 (ethPds ys).length c1] 66) = V2 at K2 O2 E2 ⊢
  generalize V1.heap.size = p at K2 ⊢
  have k2 := blk_cell K2.out 2
  have k3 := blk_cell K2.out 3
  have HI := Lib.hid (ipP_bad a1 (ethPds ys) c1 V2 O2.out.bts O2.out.capLe.1 O2.out.capLe.2 (by have := HDL.out; omega) HB.out)
  go_upto_region 5 with (first
    | (go_at_call 39; refine HI.out.mono ?_; rintro e V3 ⟨n, hn, rfl, b⟩; have E3 := Lib.hid (E2.out.trans (b.mono E2.out.size)); have HNN := Lib.hid hn; clear b hn)
    | fail)
  have E4 := Lib.hid (E3.out.alloc E3.out.size (.cells #[.int .u8 0, .int .u16 0, .bool false, .bool false, .int .i64 0, .int .u8 0, .int .u8 0, .int .u32 0, .int .u32 0, .slice none 0 0, .slice none 0 0] 72))
  have e5 : (n != 0) = true := by rw [bne_iff_ne]; exact HNN.out
  generalize V3.alloc (.cells #[.int .u8 0, .int .u16 0, .bool false, .bool false, .int .i64 0, .int .u8 0, .int .u8 0, .int .u32 0, .int .u32 0, .slice none 0 0, .slice none 0 0] 72) = V4 at E4 ⊢
  go_wp2
  go_ret
  exact ⟨rfl, E4.out⟩

set_option maxRecDepth 100000 in
set_option maxHeartbeats 1000000 in
theorem qof_bad (ka : Option Addr) (ks : List Nat) (kc : Nat) (ta : Option Addr) (ts : List Int) (tc : Nat) (sz ev : Int) (a : Option Addr) (ys : List Nat) (cap : Nat) (w : World) (hy : Bts w a ys) (hc : ys.length ≤ cap) (hm : cap ≤ maxLen) (hl : ys.length ≤ 140737488351232) (tos idn : Nat) (df mf : Bool) (off ttl pr src dst on : Nat) (ds : List Nat) (h0 : ethPE ys = 0) (h : ethPT ys = 2048) (hI : ∀ W a1 c1, Bts W a1 (ethPds ys) → (ethPds ys).length ≤ c1 → c1 ≤ maxLen → Calls Try.prog 39 #[.slice a1 (ethPds ys).length c1] W fun e w' => ∃ oa oc da dc, e = .returned (.tuple #[.agg #[.int .u8 (tos : Nat), .int .u16 (idn : Nat), .bool df, .bool mf, .int .i64 (off : Nat), .int .u8 (ttl : Nat), .int .u8 (pr : Nat), .int .u32 (src : Nat), .int .u32 (dst : Nat), .slice oa on oc, .slice da ds.length dc], .int .i64 0]) ∧ OwnSl W.heap.size da ds dc w' ∧ Below W.heap.size W w') (hbad : pr ≠ 6 ∨ off ≠ 0 ∨ mf = true ∨ ds.length < 4) :
    Calls Try.prog 24 #[.agg #[.slice ka ks.length kc, .slice ta ts.length tc, .int .i64 sz, .int .i64 ev], .slice a ys.length cap] w fun e w' => e = .returned (.int .i64 0) ∧ Below w.heap.size w w' := by
  have ba := Lib.hid ((Below.refl w.heap.size w).alloc (Nat.le_refl _) (.cells #[.slice ka ks.length kc, .slice ta ts.length tc, .int .i64 sz, .int .i64 ev] 29))
  have HE := Lib.hid (ethP_all a ys cap _ (hy.below ba.out) hc hm (by omega))
  have e1 : ((ethPT ys : Int) != 2048) = false := by rw [h]; rfl
  have e2 : (ethPE ys != 0) = false := by rw [h0]; rfl
  have HIP := Lib.hid hI
  clear h0 h hI
  clear hy hc hm
  go_enter Try.func24, Try.ntmps24
  go_upto_region 2 with (first
    | (go_at_call 38; refine HE.out.mono ?_; rintro e V1 ⟨a1, c1, rfl, O, b⟩; have O1 := Lib.hid O; have E1 := Lib.hid (ba.out.trans (b.mono ba.out.size)); clear O b)
    | fail)
  have b2 := (Below.refl V1.heap.size V1).alloc (Nat.le_refl _) (.cells #[.int .u64 (ethPD ys : Nat), .int .u64 (ethPS ys : Nat), .int .i64 (ethPT ys : Nat), .slice a1 (ethPds ys).length c1] 66)
  have K2 := Lib.hid (blk_new V1 (.cells #[.int .u64 (ethPD ys : Nat), .int .u64 (ethPS ys : Nat), .int .i64 (ethPT ys : Nat), .slice a1 (ethPds ys).length c1] 66))
  have O2 := Lib.hid (O1.out.below b2)
  have E2 := Lib.hid (E1.out.trans (b2.mono E1.out.size))
  clear b2 O1 E1
  generalize V1.alloc (.cells #[.int .u64 (ethPD ys : Nat), .int .u64 (ethPS ys : Nat), .int .i64 (ethPT ys : Nat), .slice a1 (ethPds ys).length c1] 66) = V2 at K2 O2 E2 ⊢
  generalize V1.heap.size = p at K2 ⊢
  have k2 := blk_cell K2.out 2
  have k3 := blk_cell K2.out 3
  have HI := Lib.hid (HIP.out V2 a1 c1 O2.out.bts O2.out.capLe.1 O2.out.capLe.2)
  go_upto_region 5 with (first
    | (go_at_call 39; refine HI.out.mono ?_; rintro e V3 ⟨oa, oc, da, dc, rfl, O, b⟩; have O3 := Lib.hid O; have E3 := Lib.hid (E2.out.trans (b.mono E2.out.size)); have C3 := Lib.hid (True.intro); clear O b)
    | fail)
  have b4 := (Below.refl V3.heap.size V3).alloc (Nat.le_refl _) (.cells #[.int .u8 (tos : Nat), .int .u16 (idn : Nat), .bool df, .bool mf, .int .i64 (off : Nat), .int .u8 (ttl : Nat), .int .u8 (pr : Nat), .int .u32 (src : Nat), .int .u32 (dst : Nat), .slice oa on oc, .slice da ds.length dc] 72)
  have P4 := Lib.hid (blk_new V3 (.cells #[.int .u8 (tos : Nat), .int .u16 (idn : Nat), .bool df, .bool mf, .int .i64 (off : Nat), .int .u8 (ttl : Nat), .int .u8 (pr : Nat), .int .u32 (src : Nat), .int .u32 (dst : Nat), .slice oa on oc, .slice da ds.length dc] 72))
  have O4 := Lib.hid (O3.out.below b4)
  have E4 := Lib.hid (E3.out.trans (b4.mono E3.out.size))
  have C4 := Lib.hid (True.intro)
  clear b4 O3 E3 C3
  generalize V3.alloc (.cells #[.int .u8 (tos : Nat), .int .u16 (idn : Nat), .bool df, .bool mf, .int .i64 (off : Nat), .int .u8 (ttl : Nat), .int .u8 (pr : Nat), .int .u32 (src : Nat), .int .u32 (dst : Nat), .slice oa on oc, .slice da ds.length dc] 72) = V4 at P4 O4 E4 C4 ⊢
  generalize V3.heap.size = pb at P4 ⊢
  have p3 := blk_cell P4.out 3
  have p4 := blk_cell P4.out 4
  have p6 := blk_cell P4.out 6
  have p10 := blk_cell P4.out 10
  by_cases q1 : pr = 6
  case neg =>
    have g1 : ((pr : Int) != 6) = true := by rw [bne_iff_ne]; omega
    clear q1 hbad
    go_wp2
    go_ret
    exact ⟨rfl, E4.out⟩
  case pos =>
    have g1 : ((pr : Int) != 6) = false := by rw [q1]; rfl
    by_cases q2 : off = 0
    case neg =>
      have g2 : ((off : Int) != 0) = true := by rw [bne_iff_ne]; omega
      clear q1 q2 hbad
      go_wp2
      go_ret
      exact ⟨rfl, E4.out⟩
    case pos =>
      have g2 : ((off : Int) != 0) = false := by rw [q2]; rfl
      cases mf with
      | true =>
        clear q1 q2 hbad
        go_wp2
        go_ret
        exact ⟨rfl, E4.out⟩
      | false =>
        have g3 : (ds.length : Int) < 4 := by
          rcases hbad with h | h | h | h
          · exact absurd q1 h
          · exact absurd q2 h
          · cases h
          · omega
        clear q1 q2 hbad
        go_wp2
        go_ret
        exact ⟨rfl, E4.out⟩

set_option maxRecDepth 100000 in
set_option maxHeartbeats 1000000 in
theorem qof_good (ka : Option Addr) (ks : List Nat) (kc : Nat) (ta : Option Addr) (ts : List Int) (tc : Nat) (sz ev : Int) (a : Option Addr) (ys : List Nat) (cap : Nat) (w : World) (hy : Bts w a ys) (hc : ys.length ≤ cap) (hm : cap ≤ maxLen) (hl : ys.length ≤ 140737488351232) (tos idn : Nat) (df : Bool) (ttl src dst on : Nat) (ds : List Nat) (h0 : ethPE ys = 0) (h : ethPT ys = 2048) (hI : ∀ W a1 c1, Bts W a1 (ethPds ys) → (ethPds ys).length ≤ c1 → c1 ≤ maxLen → Calls Try.prog 39 #[.slice a1 (ethPds ys).length c1] W fun e w' => ∃ oa oc da dc, e = .returned (.tuple #[.agg #[.int .u8 (tos : Nat), .int .u16 (idn : Nat), .bool df, .bool false, .int .i64 0, .int .u8 (ttl : Nat), .int .u8 6, .int .u32 (src : Nat), .int .u32 (dst : Nat), .slice oa on oc, .slice da ds.length dc], .int .i64 0]) ∧ OwnSl W.heap.size da ds dc w' ∧ Below W.heap.size W w') (hd4 : 4 ≤ ds.length) (hsrc : src < 4294967296) (hdst : dst < 4294967296) (hk : Bts w ka ks) (hkc : ks.length ≤ kc) (hkm : kc ≤ 9223372036854775807) (ht : Its w ta ts) (htl : ts.length ≤ 9223372036854775807) :
    Calls Try.prog 24 #[.agg #[.slice ka ks.length kc, .slice ta ts.length tc, .int .i64 sz, .int .i64 ev], .slice a ys.length cap] w fun e w' => e = .returned (.int .i64 (shV ts (thV ks (tup src dst (Mt.numOf (seg ds 0 2)) (Mt.numOf (seg ds 2 2)))))) ∧ Below w.heap.size w w' := by
  have ba := Lib.hid ((Below.refl w.heap.size w).alloc (Nat.le_refl _) (.cells #[.slice ka ks.length kc, .slice ta ts.length tc, .int .i64 sz, .int .i64 ev] 29))
  have HE := Lib.hid (ethP_all a ys cap _ (hy.below ba.out) hc hm (by omega))
  have e1 : ((ethPT ys : Int) != 2048) = false := by rw [h]; rfl
  have e2 : (ethPE ys != 0) = false := by rw [h0]; rfl
  have HIP := Lib.hid hI
  clear h0 h hI
  have HKB := Lib.hid (hk.below ba.out)
  have HTB := Lib.hid (ht.below ba.out)
  have HKC := Lib.hid (And.intro hkc hkm)
  have HTL := Lib.hid htl
  have HD4 := Lib.hid hd4
  have HSD := Lib.hid (And.intro hsrc hdst)
  have CB := Lib.hid (blk_new w (.cells #[.slice ka ks.length kc, .slice ta ts.length tc, .int .i64 sz, .int .i64 ev] 29))
  have hcz : Hid (w.heap.size < (w.alloc (.cells #[.slice ka ks.length kc, .slice ta ts.length tc, .int .i64 sz, .int .i64 ev] 29)).heap.size) := Lib.hid (by rw [World.size_alloc]; exact Nat.lt_succ_self _)
  clear hk ht hkc hkm htl hd4 hsrc hdst
  clear hy hc hm
  go_enter Try.func24, Try.ntmps24
  go_upto_region 2 with (first
    | (go_at_call 38; refine HE.out.mono ?_; rintro e V1 ⟨a1, c1, rfl, O, b⟩; have O1 := Lib.hid O; have E1 := Lib.hid (ba.out.trans (b.mono ba.out.size)); have CB1 := Lib.hid ((b.block _ hcz.out).trans CB.out); have KB1 := Lib.hid (HKB.out.below b); have TB1 := Lib.hid (HTB.out.below b); have cz1 := Lib.hid (Nat.lt_of_lt_of_le hcz.out b.size); clear O b)
    | fail)
  have b2 := (Below.refl V1.heap.size V1).alloc (Nat.le_refl _) (.cells #[.int .u64 (ethPD ys : Nat), .int .u64 (ethPS ys : Nat), .int .i64 (ethPT ys : Nat), .slice a1 (ethPds ys).length c1] 66)
  have K2 := Lib.hid (blk_new V1 (.cells #[.int .u64 (ethPD ys : Nat), .int .u64 (ethPS ys : Nat), .int .i64 (ethPT ys : Nat), .slice a1 (ethPds ys).length c1] 66))
  have O2 := Lib.hid (O1.out.below b2)
  have E2 := Lib.hid (E1.out.trans (b2.mono E1.out.size))
  have CB2 := Lib.hid ((b2.block _ cz1.out).trans CB1.out)
  have KB2 := Lib.hid (KB1.out.below b2)
  have TB2 := Lib.hid (TB1.out.below b2)
  have cz2 := Lib.hid (Nat.lt_of_lt_of_le cz1.out b2.size)
  clear b2 O1 E1 CB CB1 KB1 TB1 cz1 HKB HTB hcz
  generalize V1.alloc (.cells #[.int .u64 (ethPD ys : Nat), .int .u64 (ethPS ys : Nat), .int .i64 (ethPT ys : Nat), .slice a1 (ethPds ys).length c1] 66) = V2 at K2 O2 E2 CB2 KB2 TB2 cz2 ⊢
  generalize V1.heap.size = p at K2 ⊢
  have k2 := blk_cell K2.out 2
  have k3 := blk_cell K2.out 3
  have HI := Lib.hid (HIP.out V2 a1 c1 O2.out.bts O2.out.capLe.1 O2.out.capLe.2)
  go_upto_region 5 with (first
    | (go_at_call 39; refine HI.out.mono ?_; rintro e V3 ⟨oa, oc, da, dc, rfl, O, b⟩; have O3 := Lib.hid O; have E3 := Lib.hid (E2.out.trans (b.mono E2.out.size)); have CB3 := Lib.hid ((b.block _ cz2.out).trans CB2.out); have KB3 := Lib.hid (KB2.out.below b); have TB3 := Lib.hid (TB2.out.below b); have cz3 := Lib.hid (Nat.lt_of_lt_of_le cz2.out b.size); clear O b)
    | fail)
  have b4 := (Below.refl V3.heap.size V3).alloc (Nat.le_refl _) (.cells #[.int .u8 (tos : Nat), .int .u16 (idn : Nat), .bool df, .bool false, .int .i64 0, .int .u8 (ttl : Nat), .int .u8 6, .int .u32 (src : Nat), .int .u32 (dst : Nat), .slice oa on oc, .slice da ds.length dc] 72)
  have P4 := Lib.hid (blk_new V3 (.cells #[.int .u8 (tos : Nat), .int .u16 (idn : Nat), .bool df, .bool false, .int .i64 0, .int .u8 (ttl : Nat), .int .u8 6, .int .u32 (src : Nat), .int .u32 (dst : Nat), .slice oa on oc, .slice da ds.length dc] 72))
  have O4 := Lib.hid (O3.out.below b4)
  have E4 := Lib.hid (E3.out.trans (b4.mono E3.out.size))
  have CB4 := Lib.hid ((b4.block _ cz3.out).trans CB3.out)
  have KB4 := Lib.hid (KB3.out.below b4)
  have TB4 := Lib.hid (TB3.out.below b4)
  clear b4 O3 E3 CB2 CB3 KB2 KB3 TB2 TB3 cz2 cz3
  generalize V3.alloc (.cells #[.int .u8 (tos : Nat), .int .u16 (idn : Nat), .bool df, .bool false, .int .i64 0, .int .u8 (ttl : Nat), .int .u8 6, .int .u32 (src : Nat), .int .u32 (dst : Nat), .slice oa on oc, .slice da ds.length dc] 72) = V4 at P4 O4 E4 CB4 KB4 TB4 ⊢
  generalize V3.heap.size = pb at P4 ⊢
  have p3 := blk_cell P4.out 3
  have p4 := blk_cell P4.out 4
  have p6 := blk_cell P4.out 6
  have p10 := blk_cell P4.out 10
  have g3 : ¬ (ds.length : Int) < 4 := by have := HD4.out; omega
  go_upto_region 8 with fail
  obtain ⟨db, dof, rfl, _, _⟩ := O4.out.bts.isSome (by have := HD4.out; omega)
  clear p3 p4 p6 p10 k2 k3 g3
  have D := (Below.refl V4.heap.size V4).drew
  have P5 := Lib.hid ((D.block pb (blk_lt P4.out)).trans P4.out)
  have B5 := Lib.hid ((D.block w.heap.size (blk_lt CB4.out)).trans CB4.out)
  have O5 := Lib.hid (O4.out.below D)
  have K5 := Lib.hid (KB4.out.below D)
  have T5 := Lib.hid (TB4.out.below D)
  have E5 := Lib.hid (E4.out.trans (D.mono E4.out.size))
  clear D P4 CB4 O4 KB4 TB4 E4
  have HP0 := Lib.hid (port_any pb 0 _ db dof dc ds V4.drew P5.out rfl O5.out.bts O5.out.capLe.1 (by have := HD4.out; omega) (by omega))
  have HP2 := Lib.hid (port_any pb 2 _ db dof dc ds V4.drew P5.out rfl O5.out.bts O5.out.capLe.1 (by have := HD4.out; omega) (by omega))
  have hp0 : Mt.numOf (seg ds 0 2) < 65536 := seg_num_lt ds O5.out.bts.1 0 2 (by have := HD4.out; omega)
  have hp2 : Mt.numOf (seg ds 2 2) < 65536 := seg_num_lt ds O5.out.bts.1 2 2 (by have := HD4.out; omega)
  obtain ⟨p0, e0⟩ : ∃ p, Mt.numOf (seg ds 0 2) = p := ⟨_, rfl⟩
  obtain ⟨p2, e2x⟩ : ∃ p, Mt.numOf (seg ds 2 2) = p := ⟨_, rfl⟩
  rw [e0] at HP0 hp0
  rw [e2x] at HP2 hp2
  have EE0 := Lib.hid e0
  have EE2 := Lib.hid e2x
  clear e0 e2x
  have HTU := Lib.hid (tuple_any src dst p0 p2 HSD.out.1 HSD.out.2 hp0 hp2 V4.drew)
  go_cut [9] from 54 (fun (v : Value) wx => v = .int .u32 (thV ks (tup src dst p0 p2) : Nat) ∧ Below V4.drew.heap.size V4.drew wx)
  case first =>
    refine wp_region_held_drew (S := fun W => W.heap[w.heap.size]? = some (.cells #[.slice ka ks.length kc, .slice ta ts.length tc, .int .i64 sz, .int .i64 ev] 29 (0, 0)) ∧ W.heap[pb]? = some (.cells #[.int .u8 (tos : Nat), .int .u16 (idn : Nat), .bool df, .bool false, .int .i64 0, .int .u8 (ttl : Nat), .int .u8 6, .int .u32 (src : Nat), .int .u32 (dst : Nat), .slice oa on oc, .slice (some ⟨db, dof, none⟩) ds.length dc] 72 (0, 0))) (by kernel_rfl) ⟨B5.out, P5.out⟩ (fun hHeld => ?_)
    refine wpAnyH_take (i := 0) (oi := _) (v := ?_) rfl (by kernel_rfl) (by kernel_rfl) (by kernel_rfl) (fun _ _ _ h => h) (Or.inl ⟨by rfl, ?_⟩) (by assumption) ?_
    rotate_left
    · intro w5 hSw
      clear hSw
      go_simp
      all_goals with_reducible rfl
    (try simp only [List.getElem_toArray]); (try simp only [List.getElem_cons_succ]); (try simp only [List.getElem_cons_zero]); try simp only [Act.put, List.setIfInBounds_toArray, List.set_cons_zero, List.set_cons_succ]
    refine wpAnyH_take (i := 1) (oi := _) (v := ?_) rfl (by kernel_rfl) (by kernel_rfl) (by kernel_rfl) (fun _ _ _ h => h) (Or.inl ⟨by rfl, ?_⟩) (by assumption) ?_
    rotate_left
    · intro w5 hSw
      have c5 := blk_cell (show w5.heap[w.heap.size]? = _ ∧ w5.heap[pb]? = _ from hSw).1 0
      clear hSw
      go_simp
      all_goals with_reducible rfl
    (try simp only [List.getElem_toArray]); (try simp only [List.getElem_cons_succ]); (try simp only [List.getElem_cons_zero]); try simp only [Act.put, List.setIfInBounds_toArray, List.set_cons_zero, List.set_cons_succ]
    refine wpAnyH_take (i := 2) (oi := _) (v := ?_) rfl (by kernel_rfl) (by kernel_rfl) (by kernel_rfl) (fun _ _ _ h => h) (Or.inl ⟨by rfl, ?_⟩) (by assumption) ?_
    rotate_left
    · intro w5 hSw
      clear hSw
      go_simp
      all_goals with_reducible rfl
    (try simp only [List.getElem_toArray]); (try simp only [List.getElem_cons_succ]); (try simp only [List.getElem_cons_zero]); try simp only [Act.put, List.setIfInBounds_toArray, List.set_cons_zero, List.set_cons_succ]
    refine wpAnyH_take (i := 3) (oi := _) (v := ?_) rfl (by kernel_rfl) (by kernel_rfl) (by kernel_rfl) (fun _ _ _ h => h) (Or.inl ⟨by rfl, ?_⟩) (by assumption) ?_
    rotate_left
    · intro w5 hSw
      have c5 := blk_cell (show w5.heap[w.heap.size]? = _ ∧ w5.heap[pb]? = _ from hSw).2 7
      clear hSw
      go_simp
      all_goals with_reducible rfl
    (try simp only [List.getElem_toArray]); (try simp only [List.getElem_cons_succ]); (try simp only [List.getElem_cons_zero]); try simp only [Act.put, List.setIfInBounds_toArray, List.set_cons_zero, List.set_cons_succ]
    refine wpAnyH_take (i := 4) (oi := _) (v := ?_) rfl (by kernel_rfl) (by kernel_rfl) (by kernel_rfl) (fun _ _ _ h => h) (Or.inl ⟨by rfl, ?_⟩) (by assumption) ?_
    rotate_left
    · intro w5 hSw
      clear hSw
      go_simp
      all_goals with_reducible rfl
    (try simp only [List.getElem_toArray]); (try simp only [List.getElem_cons_succ]); (try simp only [List.getElem_cons_zero]); try simp only [Act.put, List.setIfInBounds_toArray, List.set_cons_zero, List.set_cons_succ]
    refine wpAnyH_take (i := 5) (oi := _) (v := ?_) rfl (by kernel_rfl) (by kernel_rfl) (by kernel_rfl) (fun _ _ _ h => h) (Or.inl ⟨by rfl, ?_⟩) (by assumption) ?_
    rotate_left
    · intro w5 hSw
      have c5 := blk_cell (show w5.heap[w.heap.size]? = _ ∧ w5.heap[pb]? = _ from hSw).2 8
      clear hSw
      go_simp
      all_goals with_reducible rfl
    (try simp only [List.getElem_toArray]); (try simp only [List.getElem_cons_succ]); (try simp only [List.getElem_cons_zero]); try simp only [Act.put, List.setIfInBounds_toArray, List.set_cons_zero, List.set_cons_succ]
    refine wpAnyH_take (i := 6) (oi := _) (v := ?_) rfl (by kernel_rfl) (by kernel_rfl) (by kernel_rfl) (fun _ _ _ h => h) (Or.inl ⟨by rfl, ?_⟩) (by assumption) ?_
    rotate_left
    · intro w5 hSw
      clear hSw
      go_simp
      all_goals with_reducible rfl
    (try simp only [List.getElem_toArray]); (try simp only [List.getElem_cons_succ]); (try simp only [List.getElem_cons_zero]); try simp only [Act.put, List.setIfInBounds_toArray, List.set_cons_zero, List.set_cons_succ]
    refine wpAnyH_take (i := 8) (oi := _) (v := ?_) rfl (by kernel_rfl) (by kernel_rfl) (by kernel_rfl) (fun _ _ _ h => h) (Or.inl ⟨by rfl, ?_⟩) (by assumption) ?_
    rotate_left
    · intro w5 hSw
      clear hSw
      go_simp
      all_goals with_reducible rfl
    (try simp only [List.getElem_toArray]); (try simp only [List.getElem_cons_succ]); (try simp only [List.getElem_cons_zero]); try simp only [Act.put, List.setIfInBounds_toArray, List.set_cons_zero, List.set_cons_succ]
    refine wpAnyH_ready (rs := [7]) (by kernel_rfl) (by simp) ?_
    refine (AllReadyH.cons (o := _) rfl (fun K hK => ?_) AllReadyH.nil)
    · (try simp only [List.getElem_toArray]); (try simp only [List.getElem_cons_succ]); (try simp only [List.getElem_cons_zero])
      go_simp
      go_at_call 40
      refine HP0.out.mono ?_
      rintro e w' ⟨rfl, rfl⟩
      try dsimp only
      refine hK.out _ _ ?_ (fun hHeld => ?_)
      · exact ⟨B5.out, P5.out⟩
      clear hK K
      (try simp only [List.getElem_toArray]); (try simp only [List.getElem_cons_succ]); (try simp only [List.getElem_cons_zero]); try simp only [Act.put, List.setIfInBounds_toArray, List.set_cons_zero, List.set_cons_succ]
      refine wpAnyH_ready (rs := [9]) (by kernel_rfl) (by simp) ?_
      refine (AllReadyH.cons (o := _) rfl (fun K hK => ?_) AllReadyH.nil)
      · (try simp only [List.getElem_toArray]); (try simp only [List.getElem_cons_succ]); (try simp only [List.getElem_cons_zero])
        go_simp
        go_at_call 40
        refine HP2.out.mono ?_
        rintro e w' ⟨rfl, rfl⟩
        try dsimp only
        refine hK.out _ _ ?_ (fun hHeld => ?_)
        · exact ⟨B5.out, P5.out⟩
        clear hK K
        (try simp only [List.getElem_toArray]); (try simp only [List.getElem_cons_succ]); (try simp only [List.getElem_cons_zero]); try simp only [Act.put, List.setIfInBounds_toArray, List.set_cons_zero, List.set_cons_succ]
        refine wpAnyH_ready (rs := [10]) (by kernel_rfl) (by simp) ?_
        refine (AllReadyH.cons (o := _) rfl (fun K hK => ?_) AllReadyH.nil)
        · (try simp only [List.getElem_toArray]); (try simp only [List.getElem_cons_succ]); (try simp only [List.getElem_cons_zero])
          go_simp
          go_at_call 43
          refine HTU.out.mono ?_
          rintro e V6 ⟨tg, tcp, rfl, O, b⟩
          try dsimp only
          have O6 := Lib.hid O
          have E6 := Lib.hid b
          have B6 := Lib.hid ((b.block _ (blk_lt B5.out)).trans B5.out)
          have P6 := Lib.hid ((b.block _ (blk_lt P5.out)).trans P5.out)
          have K6 := Lib.hid (K5.out.below b)
          clear O b
          refine hK.out _ _ ?_ (fun hHeld => ?_)
          · exact ⟨B6.out, P6.out⟩
          clear hK K
          (try simp only [List.getElem_toArray]); (try simp only [List.getElem_cons_succ]); (try simp only [List.getElem_cons_zero]); try simp only [Act.put, List.setIfInBounds_toArray, List.set_cons_zero, List.set_cons_succ]
          refine wpAnyH_ready (rs := [11]) (by kernel_rfl) (by simp) ?_
          refine (AllReadyH.cons (o := _) rfl (fun K hK => ?_) AllReadyH.nil)
          · (try simp only [List.getElem_toArray]); (try simp only [List.getElem_cons_succ]); (try simp only [List.getElem_cons_zero])
            go_simp
            go_at_call 42
            have hX := hash_all ka ks kc (some ⟨tg, 0, none⟩) (tup src dst p0 p2) tcp V6 K6.out O6.out.bts HKC.out.1 HKC.out.2 (by rw [tup_len]; omega)
            rw [tup_len] at hX
            refine hX.mono ?_
            rintro e V7 ⟨rfl, b⟩
            try dsimp only
            have E7 := Lib.hid (E6.out.trans (b.mono E6.out.size))
            have B7 := Lib.hid ((b.block _ (blk_lt B6.out)).trans B6.out)
            have P7 := Lib.hid ((b.block _ (blk_lt P6.out)).trans P6.out)
            clear b
            refine hK.out _ _ ?_ (fun hHeld => ?_)
            · exact ⟨B7.out, P7.out⟩
            clear hK K
            (try simp only [List.getElem_toArray]); (try simp only [List.getElem_cons_succ]); (try simp only [List.getElem_cons_zero]); try simp only [Act.put, List.setIfInBounds_toArray, List.set_cons_zero, List.set_cons_succ]
            refine wpAnyH_take (i := 12) (oi := _) (v := ?_) rfl (by kernel_rfl) (by kernel_rfl) (by kernel_rfl) (fun _ _ _ h => h) (Or.inl ⟨by rfl, ?_⟩) (by assumption) ?_
            rotate_left
            · intro w5 hSw
              clear hSw
              go_simp
              all_goals with_reducible rfl
            (try simp only [List.getElem_toArray]); (try simp only [List.getElem_cons_succ]); (try simp only [List.getElem_cons_zero]); try simp only [Act.put, List.setIfInBounds_toArray, List.set_cons_zero, List.set_cons_succ]
            refine wpAnyH_take (i := 13) (oi := _) (v := ?_) rfl (by kernel_rfl) (by kernel_rfl) (by kernel_rfl) (fun _ _ _ h => h) (Or.inl ⟨by rfl, ?_⟩) (by assumption) ?_
            rotate_left
            · intro w5 hSw
              clear hSw
              go_simp
              all_goals with_reducible rfl
            (try simp only [List.getElem_toArray]); (try simp only [List.getElem_cons_succ]); (try simp only [List.getElem_cons_zero]); try simp only [Act.put, List.setIfInBounds_toArray, List.set_cons_zero, List.set_cons_succ]
            refine wpAnyH_take (i := 14) (oi := _) (v := ?_) rfl (by kernel_rfl) (by kernel_rfl) (by kernel_rfl) (fun _ _ _ h => h) (Or.inl ⟨by rfl, ?_⟩) (by assumption) ?_
            rotate_left
            · intro w5 hSw
              clear hSw
              go_simp
              all_goals with_reducible rfl
            (try simp only [List.getElem_toArray]); (try simp only [List.getElem_cons_succ]); (try simp only [List.getElem_cons_zero]); try simp only [Act.put, List.setIfInBounds_toArray, List.set_cons_zero, List.set_cons_succ]
            refine wpAnyH_take (i := 15) (oi := _) (v := ?_) rfl (by kernel_rfl) (by kernel_rfl) (by kernel_rfl) (fun _ _ _ h => h) (Or.inl ⟨by rfl, ?_⟩) (by assumption) ?_
            rotate_left
            · intro w5 hSw
              clear hSw
              go_simp
              all_goals with_reducible rfl
            (try simp only [List.getElem_toArray]); (try simp only [List.getElem_cons_succ]); (try simp only [List.getElem_cons_zero]); try simp only [Act.put, List.setIfInBounds_toArray, List.set_cons_zero, List.set_cons_succ]
            refine wpAnyH_take (i := 16) (oi := _) (v := ?_) rfl (by kernel_rfl) (by kernel_rfl) (by kernel_rfl) (fun _ _ _ h => h) (Or.inl ⟨by rfl, ?_⟩) (by assumption) ?_
            rotate_left
            · intro w5 hSw
              clear hSw
              go_simp
              all_goals with_reducible rfl
            (try simp only [List.getElem_toArray]); (try simp only [List.getElem_cons_succ]); (try simp only [List.getElem_cons_zero]); try simp only [Act.put, List.setIfInBounds_toArray, List.set_cons_zero, List.set_cons_succ]
            refine wpAnyH_done (by kernel_rfl) ?_ _
            go_wp2_with fail
            go_meet
            exact ⟨rfl, E7.out⟩
  case rest =>
    obtain ⟨rfl, b⟩ := hcut
    have B6 := Lib.hid ((b.block w.heap.size (blk_lt B5.out)).trans B5.out)
    have T6 := Lib.hid (T5.out.below b)
    have E6 := Lib.hid (E5.out.trans (b.mono E5.out.size))
    have HSH := Lib.hid (shard_any ta ts tc (thV ks (tup src dst p0 p2)) wc T6.out HTL.out (thV_lt _ _))
    have b1 := blk_cell B6.out 1
    clear b
    go_wp2_with (first
      | (go_at_call 44; refine HSH.out.mono ?_; rintro e w' ⟨rfl, rfl⟩)
      | fail)
    go_ret
    exact ⟨by rw [EE0.out, EE2.out]; rfl, E6.out⟩
end Go.Proofs.Ytokfadlgiimaoaa

namespace Go.Proofs.Ytokfadlgiimaoaa
open Go.RowKit Go.Sort

theorem sh_range {ts : List Int} (h : ctE ts = 0) (x : Nat) : 0 ≤ shV ts x ∧ shV ts x < 16 := by
  have he : shV ts x = ts.getD (x % 128) 0 := if_pos h
  rw [he]
  exact (ctE_zero h).2 _ (Nat.mod_lt _ (by omega))

/-- A queue that a frame comes to. -/
def QOf (ks : List Nat) (ts : List Int) (ys : List Nat) (q : Nat) : Prop :=
  ∀ (ka : Option Addr) (kc : Nat) (ta : Option Addr) (tc : Nat) (sz ev : Int) (a : Option Addr) (cap : Nat) (W : World), Bts W ka ks → ks.length ≤ kc → kc ≤ 9223372036854775807 → Its W ta ts → Bts W a ys → ys.length ≤ cap → cap ≤ maxLen →
    Calls Try.prog 24 #[.agg #[.slice ka ks.length kc, .slice ta ts.length tc, .int .i64 sz, .int .i64 ev], .slice a ys.length cap] W fun e w' => e = .returned (.int .i64 (q : Nat)) ∧ Below W.heap.size W w'

theorem qof_any (ks : List Nat) (ts : List Int) (ys : List Nat) (ht : ctE ts = 0) (hl : ys.length ≤ 140737488351232) (hy : ∀ y ∈ ys, y < 256) : ∃ q : Nat, q < 16 ∧ QOf ks ts ys q := by
  have htl : ts.length ≤ 9223372036854775807 := by have := (ctE_zero ht).1; omega
  by_cases h0 : ethPE ys = 0
  case neg => exact ⟨0, by omega, fun ka kc ta tc sz ev a cap W _ _ _ _ hb hc hm => qof_err ka ks kc ta ts tc sz ev a ys cap W hb hc hm hl h0⟩
  by_cases h1 : ethPT ys = 2048
  case neg => exact ⟨0, by omega, fun ka kc ta tc sz ev a cap W _ _ _ _ hb hc hm => qof_type ka ks kc ta ts tc sz ev a ys cap W hb hc hm hl h0 h1⟩
  by_cases h2 : IpPok (ethPds ys)
  case neg => exact ⟨0, by omega, fun ka kc ta tc sz ev a cap W _ _ _ _ hb hc hm => qof_noip ka ks kc ta ts tc sz ev a ys cap W hb hc hm hl h0 h1 h2⟩
  have hdl : (ethPds ys).length ≤ 65535 := by
    unfold ethPds; split
    · rw [List.length_drop]; omega
    · simp
  have hdx : ∀ x ∈ ethPds ys, x < 256 := by
    unfold ethPds; split
    · exact fun x hx => hy x (List.mem_of_mem_drop hx)
    · exact fun x hx => by cases hx
  have hip : ∀ W a1 c1, Bts W a1 (ethPds ys) → (ethPds ys).length ≤ c1 → c1 ≤ maxLen → Calls Try.prog 39 #[.slice a1 (ethPds ys).length c1] W fun e w' => ∃ oa oc da dc, e = .returned (.tuple #[.agg (ipV ((ethPds ys).getD 1 0) (Mt.numOf (seg (ethPds ys) 4 2)) (ipDf (ethPds ys)) (ipMf (ethPds ys)) (ipOff (ethPds ys) : Nat) ((ethPds ys).getD 8 0) ((ethPds ys).getD 9 0) (Mt.numOf (seg (ethPds ys) 12 4)) (Mt.numOf (seg (ethPds ys) 16 4)) oa (ipOs (ethPds ys)).length oc da (ipDs (ethPds ys)).length dc), .int .i64 0]) ∧ OwnSl W.heap.size da (ipDs (ethPds ys)) dc w' ∧ Below W.heap.size W w' := fun W a1 c1 hb hc hm => by
    refine (ipP_ok a1 (ethPds ys) c1 W hb hc hm (by omega) h2).mono ?_
    rintro e w' ⟨oa, oc, da, dc, rfl, _, h3, h4⟩
    exact ⟨oa, oc, da, dc, rfl, h3.mono (Nat.le_succ _), h4⟩
  have hs : Mt.numOf (seg (ethPds ys) 12 4) < 4294967296 := seg_num_lt _ hdx 12 4 (by have := h2.1; omega)
  have hd : Mt.numOf (seg (ethPds ys) 16 4) < 4294967296 := seg_num_lt _ hdx 16 4 (by have := h2.1; omega)
  unfold ipV at hip
  generalize (ethPds ys).getD 1 0 = tos at hip
  generalize Mt.numOf (seg (ethPds ys) 4 2) = idn at hip
  generalize ipDf (ethPds ys) = df at hip
  generalize ipMf (ethPds ys) = mf at hip
  generalize ipOff (ethPds ys) = off at hip
  generalize (ethPds ys).getD 8 0 = ttl at hip
  generalize (ethPds ys).getD 9 0 = pr at hip
  generalize Mt.numOf (seg (ethPds ys) 12 4) = src at hip hs
  generalize Mt.numOf (seg (ethPds ys) 16 4) = dst at hip hd
  generalize (ipOs (ethPds ys)).length = on at hip
  generalize ipDs (ethPds ys) = ds at hip
  by_cases hbad : pr ≠ 6 ∨ off ≠ 0 ∨ mf = true ∨ ds.length < 4
  · exact ⟨0, by omega, fun ka kc ta tc sz ev a cap W _ _ _ _ hb hc hm => qof_bad ka ks kc ta ts tc sz ev a ys cap W hb hc hm hl tos idn df mf off ttl pr src dst on ds h0 h1 hip hbad⟩
  · obtain rfl : pr = 6 := by omega
    obtain rfl : off = 0 := by omega
    obtain rfl : mf = false := by
      cases mf with
      | false => rfl
      | true => exact absurd (.inr (.inr (.inl rfl))) hbad
    have h4 : 4 ≤ ds.length := by omega
    have hr := sh_range ht (thV ks (tup src dst (Mt.numOf (seg ds 0 2)) (Mt.numOf (seg ds 2 2))))
    refine ⟨(shV ts (thV ks (tup src dst (Mt.numOf (seg ds 0 2)) (Mt.numOf (seg ds 2 2))))).toNat, by omega, fun ka kc ta tc sz ev a cap W hk hkc hkm htb hb hc hm => ?_⟩
    refine (qof_good ka ks kc ta ts tc sz ev a ys cap W hb hc hm hl tos idn df ttl src dst on ds h0 h1 hip h4 hs hd hk hkc hkm htb htl).mono ?_
    rintro e w' ⟨rfl, b⟩
    exact ⟨by rw [Int.toNat_of_nonneg hr.1], b⟩
end Go.Proofs.Ytokfadlgiimaoaa
