/- Scoreboard: the states that follow; what a block is told to be. -/
import Derived.Test.YtcachmjcninkbaaScAm
import Derived.Test.YtcachmjcninkbaaScOw
import Derived.Test.YtcachmjcninkbaaScX
namespace Go.Proofs.Ytcachmjcninkbaa
open Go.RowKit

set_option maxRecDepth 100000 in
set_option maxHeartbeats 2000000 in
theorem present_own (una nxt high : Nat) (a : Option Addr) (bs : List (Nat × Nat)) (c : Nat) (y : Nat) (w : World) (hu : una < 4294967296) (h : Sts 2 BC Tr w a bs) (hn : a = none → c = 0) (hlen : bs.length ≤ 35184372088832) :
    Calls Try.prog 21 #[.agg #[.int .u32 (una : Nat), .int .u32 (nxt : Nat), .int .u32 (high : Nat), .slice a bs.length c], .int .u32 (y : Nat)] w fun e w' => FOwn w.heap.size (reE una nxt high bs y) una nxt y bs e w' ∧ Below w.heap.size w w' := by
  have HL := Lib.hid h
  have HPN := Lib.hid (fun V => place_any una nxt high a bs.length c nxt V hu)
  have HPH := Lib.hid (fun V => place_any una nxt high a bs.length c high V hu)
  have HPY := Lib.hid (fun V => place_any una nxt high a bs.length c y V hu)
  go_enter Try.func21, Try.ntmps21
  go_upto_region 1 with fail
  obtain ⟨x1, x2, x3, x4⟩ := two_b w (.cells #[.int .u32 (una : Nat), .int .u32 (nxt : Nat), .int .u32 (high : Nat), .slice a bs.length c] 26) (.cells #[.int .u32 0, .int .u32 0, .int .u32 0, .slice none 0 0] 26)
  have S0 := Lib.hid x1
  have Z0 := Lib.hid x2
  have Q0 := Lib.hid x4
  clear x1 x2 x3 x4 h
  generalize (w.alloc (.cells #[.int .u32 (una : Nat), .int .u32 (nxt : Nat), .int .u32 (high : Nat), .slice a bs.length c] 26)).alloc (.cells #[.int .u32 0, .int .u32 0, .int .u32 0, .slice none 0 0] 26) = V0 at S0 Z0 Q0 ⊢
  have c0 := blk_cell S0.out 0
  have c1 := blk_cell S0.out 1
  have c2 := blk_cell S0.out 2
  have c3 := blk_cell S0.out 3
  obtain ⟨E0, hE0⟩ : ∃ E, chkE una nxt high bs = E := ⟨_, rfl⟩
  have HE0 := Lib.hid hE0
  clear hE0
  go_wp2_with fail
  refine (check_all una nxt high a bs c V0 hu (Sts.belowT HL.out Q0.out) hlen).mono ?_
  rintro e V1 ⟨rfl, hB⟩
  rw [HE0.out]
  have S1 := Lib.hid ((hB.block _ (blk_lt S0.out)).trans S0.out)
  have Z1 := Lib.hid ((hB.block _ (blk_lt Z0.out)).trans Z0.out)
  have Q1 := Lib.hid (Q0.out.trans (hB.mono Q0.out.size))
  clear hB c0 c1 c2 c3 S0 Z0 Q0
  by_cases hk : okS una nxt high bs = true
  case neg =>
    have hE : E0 = 171 := by rw [← HE0.out]; unfold chkE; rw [if_neg hk]
    have HER : Hid (reE una nxt high bs y = 171) := Lib.hid (by unfold reE; rw [if_neg hk])
    subst hE
    have hz := blk_lt Z1.out
    go_wp2_with (first
      | ((with_reducible show wpList _ _ _ _ _ _); refine wpList_store_blk rowPS (t := 26) (w := V1) rfl (.tmp 4) (.tmp 12) rfl (w.heap.size + 1) #[.int .u32 0, .int .u32 0, .int .u32 0, .slice none 0 0] #[.int .u32 0, .int .u32 0, .int .u32 0, .slice none 0 0] rfl rfl Z1.out rfl rfl (by simp [Value.oneCell']) ?_; intro V7 hb7 hg7; have ZB7 := Lib.hid hb7; have Q7 := Lib.hid (Q1.out.grown hg7 (by have := Q1.out.size; omega) (fun k e => by have := Option.some.inj e; omega)); clear hb7 hg7)
      | fail)
    refine bodyPost_ret (results_ct rowPS rfl _ _ (w.heap.size + 1) _ (.int .i64 171) rfl rfl ZB7.out rfl) rfl ⟨?_, Q7.out⟩
    rw [HER.out]
    exact fown_bad (by decide) _ _ _ _ _ _
  case pos =>
    have hE : E0 = 0 := by rw [← HE0.out]; unfold chkE; rw [if_pos hk]
    subst hE
    obtain ⟨k1, k2, k3, _⟩ := okS_iff.1 hk
    obtain ⟨st, hst⟩ : ∃ z, pl una nxt = z := ⟨_, rfl⟩
    obtain ⟨hi, hhi⟩ : ∃ z, pl una high = z := ⟨_, rfl⟩
    obtain ⟨at', hat⟩ : ∃ z, pl una y = z := ⟨_, rfl⟩
    have HEE : Hid (reE una nxt high bs y = if hi ≤ at' ∧ at' ≤ st then 0 else 151) := Lib.hid (by unfold reE; rw [if_pos hk, hst, hhi, hat])
    rw [hst] at HPN
    rw [hhi] at HPH
    rw [hat] at HPY
    clear hk hst hhi hat
    have c0 := blk_cell S1.out 0
    have c1 := blk_cell S1.out 1
    have c2 := blk_cell S1.out 2
    have c3 := blk_cell S1.out 3
    go_wp2_with fail
    refine (HPY.out V1).mono ?_
    rintro e V2 ⟨rfl, hB⟩
    have S2 := Lib.hid ((hB.block _ (blk_lt S1.out)).trans S1.out)
    have Z2 := Lib.hid ((hB.block _ (blk_lt Z1.out)).trans Z1.out)
    have Q2 := Lib.hid (Q1.out.trans (hB.mono Q1.out.size))
    clear hB c0 c1 c2 c3 S1 Z1 Q1
    have c0 := blk_cell S2.out 0
    have c1 := blk_cell S2.out 1
    have c2 := blk_cell S2.out 2
    have c3 := blk_cell S2.out 3
    go_wp2_with fail
    refine (HPH.out V2).mono ?_
    rintro e V3a ⟨rfl, hB⟩
    have S3a := Lib.hid ((hB.block _ (blk_lt S2.out)).trans S2.out)
    have Z3a := Lib.hid ((hB.block _ (blk_lt Z2.out)).trans Z2.out)
    have Q3a := Lib.hid (Q2.out.trans (hB.mono Q2.out.size))
    clear hB c0 c1 c2 c3 S2 Z2 Q2
    by_cases n0 : at' < hi
    case pos =>
      have d1 : (at' : Int) < (hi : Int) := by omega
      have HER : Hid (reE una nxt high bs y = 151) := Lib.hid (by rw [HEE.out, if_neg (by omega)])
      have hz := blk_lt Z3a.out
      go_wp2_with (first
        | ((with_reducible show wpList _ _ _ _ _ _); refine wpList_store_blk rowPS (t := 26) (w := V3a) rfl (.tmp 4) (.tmp 31) rfl (w.heap.size + 1) #[.int .u32 0, .int .u32 0, .int .u32 0, .slice none 0 0] #[.int .u32 0, .int .u32 0, .int .u32 0, .slice none 0 0] rfl rfl Z3a.out rfl rfl (by simp [Value.oneCell']) ?_; intro V7 hb7 hg7; have ZB7 := Lib.hid hb7; have Q7 := Lib.hid (Q3a.out.grown hg7 (by have := Q3a.out.size; omega) (fun k e => by have := Option.some.inj e; omega)); clear hb7 hg7)
        | fail)
      refine bodyPost_ret (results_ct rowPS rfl _ _ (w.heap.size + 1) _ (.int .i64 151) rfl rfl ZB7.out rfl) rfl ⟨?_, Q7.out⟩
      rw [HER.out]
      exact fown_bad (by decide) _ _ _ _ _ _
    case neg =>
    have d1 : ¬ ((at' : Int) < (hi : Int)) := by omega
    have c0 := blk_cell S3a.out 0
    have c1 := blk_cell S3a.out 1
    have c2 := blk_cell S3a.out 2
    have c3 := blk_cell S3a.out 3
    go_wp2_with fail
    refine (HPN.out V3a).mono ?_
    rintro e V4a ⟨rfl, hB⟩
    have S4a := Lib.hid ((hB.block _ (blk_lt S3a.out)).trans S3a.out)
    have Z4a := Lib.hid ((hB.block _ (blk_lt Z3a.out)).trans Z3a.out)
    have Q4a := Lib.hid (Q3a.out.trans (hB.mono Q3a.out.size))
    clear hB c0 c1 c2 c3 S3a Z3a Q3a
    by_cases n1 : st < at'
    case pos =>
      have d2 : (st : Int) < (at' : Int) := by omega
      have HER : Hid (reE una nxt high bs y = 151) := Lib.hid (by rw [HEE.out, if_neg (by omega)])
      have hz := blk_lt Z4a.out
      go_wp2_with (first
        | ((with_reducible show wpList _ _ _ _ _ _); refine wpList_store_blk rowPS (t := 26) (w := V4a) rfl (.tmp 4) (.tmp 31) rfl (w.heap.size + 1) #[.int .u32 0, .int .u32 0, .int .u32 0, .slice none 0 0] #[.int .u32 0, .int .u32 0, .int .u32 0, .slice none 0 0] rfl rfl Z4a.out rfl rfl (by simp [Value.oneCell']) ?_; intro V7 hb7 hg7; have ZB7 := Lib.hid hb7; have Q7 := Lib.hid (Q4a.out.grown hg7 (by have := Q4a.out.size; omega) (fun k e => by have := Option.some.inj e; omega)); clear hb7 hg7)
        | fail)
      refine bodyPost_ret (results_ct rowPS rfl _ _ (w.heap.size + 1) _ (.int .i64 151) rfl rfl ZB7.out rfl) rfl ⟨?_, Q7.out⟩
      rw [HER.out]
      exact fown_bad (by decide) _ _ _ _ _ _
    case neg =>
    have d2 : ¬ ((st : Int) < (at' : Int)) := by omega
    have HER : Hid (reE una nxt high bs y = 0) := Lib.hid (by rw [HEE.out, if_pos (by omega)])
    clear HEE
    have c0 := blk_cell S4a.out 0
    have c1 := blk_cell S4a.out 1
    have c2 := blk_cell S4a.out 2
    have c3 := blk_cell S4a.out 3
    have f2 := blk_free S4a.out 2
    have hz := blk_lt Z4a.out
    go_upto_region 8 with fail
    have SF := blk_set S4a.out 2 (.int .u32 (y : Nat))
    simp only [List.setIfInBounds_toArray, List.set_cons_zero, List.set_cons_succ] at SF
    have GF := gr_set V4a w.heap.size 2 (.int .u32 (y : Nat))
    have S3 := Lib.hid SF
    have Z3 := Lib.hid ((GF.block _ (blk_lt Z4a.out) (fun e => by have := Option.some.inj e; omega)).trans Z4a.out)
    have Q3 := Lib.hid (Q4a.out.grown GF (by have := Q4a.out.size; omega) (fun k e => by have := Option.some.inj e; omega))
    have hz3 : w.heap.size + 1 < (V4a.setCell ⟨w.heap.size, 2, none⟩ (.int .u32 (y : Nat))).heap.size := blk_lt Z3.out
    clear SF GF c0 c1 c2 c3 f2 hz
    generalize V4a.setCell ⟨w.heap.size, 2, none⟩ (.int .u32 (y : Nat)) = V3 at S3 Z3 Q3 hz3 ⊢
    have c3 := blk_cell S3.out 3
    go_wp2_with fail
    refine (clone_blk a bs c V3 (Sts.belowT HL.out Q3.out) hn (by omega)).mono ?_
    rintro e V4 ⟨⟨a5, c5, rfl, hO⟩, hB⟩
    have S4 := Lib.hid ((hB.block _ (blk_lt S3.out)).trans S3.out)
    have Z4 := Lib.hid ((hB.block _ (blk_lt Z3.out)).trans Z3.out)
    have Q4 := Lib.hid (Q3.out.trans (hB.mono Q3.out.size))
    have O4 := Lib.hid hO
    clear hB hO c3
    have c0 := blk_cell S4.out 0
    have c1 := blk_cell S4.out 1
    have c2 := blk_cell S4.out 2
    have c3 := blk_cell S4.out 3
    have f3 := blk_free S4.out 3
    go_upto_region 9 with fail
    have SF := blk_set S4.out 3 (.slice a5 bs.length c5)
    simp only [List.setIfInBounds_toArray, List.set_cons_zero, List.set_cons_succ] at SF
    have GF := gr_set V4 w.heap.size 3 (.slice a5 bs.length c5)
    have S5 := Lib.hid SF
    have Z5 := Lib.hid ((GF.block _ (blk_lt Z4.out) (fun e => by have := Option.some.inj e; omega)).trans Z4.out)
    have Q5 := Lib.hid (Q4.out.grown GF (by have := Q4.out.size; omega) (fun k e => by have := Option.some.inj e; omega))
    have O5 := Lib.hid (O4.out.grown GF (fun g e => by intro e2; have h1 := (O4.out.ownB g (by rw [e]; rfl)).1; have := Option.some.inj e2; omega))
    clear SF GF c0 c1 c2 c3 f3
    generalize V4.setCell ⟨w.heap.size, 3, none⟩ (.slice a5 bs.length c5) = V5 at S5 Z5 Q5 O5 ⊢
    have c0 := blk_cell S5.out 0
    have c1 := blk_cell S5.out 1
    have c2 := blk_cell S5.out 2
    have c3 := blk_cell S5.out 3
    have hz5 := blk_lt Z5.out
    go_wp2_with (first
      | ((with_reducible show wpList _ _ _ _ _ _); refine wpList_store_blk rowPS (t := 26) (w := V5) rfl (.tmp 4) (.tmp 38) rfl (w.heap.size + 1) #[.int .u32 0, .int .u32 0, .int .u32 0, .slice none 0 0] #[.int .u32 (una : Nat), .int .u32 (nxt : Nat), .int .u32 (y : Nat), .slice a5 bs.length c5] rfl rfl Z5.out rfl rfl (by simp [Value.oneCell']) ?_; intro V7 hb7 hg7; have ZB7 := Lib.hid hb7; have Q7 := Lib.hid (Q5.out.grown hg7 (by have := Q5.out.size; omega) (fun k e => by have := Option.some.inj e; omega)); have O7 := Lib.hid (O5.out.grown hg7 (fun g e => by intro e2; have h1 := (O5.out.ownB g (by rw [e]; rfl)).1; have := Option.some.inj e2; omega)); clear hb7 hg7)
      | fail)
    refine bodyPost_ret (results_ct rowPS rfl _ _ (w.heap.size + 1) _ (.int .i64 0) rfl rfl ZB7.out rfl) rfl ⟨?_, Q7.out⟩
    rw [HER.out]
    exact fown_ok una nxt y bs (O7.out.mono (by first | exact Q3.out.size | exact Q2.out.size | exact Q4.out.size | exact Q5.out.size))

set_option maxRecDepth 100000 in
set_option maxHeartbeats 1000000 in
theorem ptimeout_own (una nxt high : Nat) (a : Option Addr) (bs : List (Nat × Nat)) (c : Nat) (w : World) (hu : una < 4294967296) (h : Sts 2 BC Tr w a bs) (hlen : bs.length ≤ 35184372088832) :
    Calls Try.prog 23 #[.agg #[.int .u32 (una : Nat), .int .u32 (nxt : Nat), .int .u32 (high : Nat), .slice a bs.length c]] w fun e w' => FOwn w.heap.size (chkE una nxt high bs) una nxt una [] e w' ∧ Below w.heap.size w w' := by
  have HL := Lib.hid h
  go_enter Try.func23, Try.ntmps23
  go_upto_region 1 with fail
  obtain ⟨x1, x2, x3, x4⟩ := two_b w (.cells #[.int .u32 (una : Nat), .int .u32 (nxt : Nat), .int .u32 (high : Nat), .slice a bs.length c] 26) (.cells #[.int .u32 0, .int .u32 0, .int .u32 0, .slice none 0 0] 26)
  have S0 := Lib.hid x1
  have Z0 := Lib.hid x2
  have Q0 := Lib.hid x4
  clear x1 x2 x3 x4 h
  generalize (w.alloc (.cells #[.int .u32 (una : Nat), .int .u32 (nxt : Nat), .int .u32 (high : Nat), .slice a bs.length c] 26)).alloc (.cells #[.int .u32 0, .int .u32 0, .int .u32 0, .slice none 0 0] 26) = V0 at S0 Z0 Q0 ⊢
  have c0 := blk_cell S0.out 0
  have c1 := blk_cell S0.out 1
  have c2 := blk_cell S0.out 2
  have c3 := blk_cell S0.out 3
  obtain ⟨E0, hE0⟩ : ∃ E, chkE una nxt high bs = E := ⟨_, rfl⟩
  have HE0 := Lib.hid hE0
  clear hE0
  go_wp2_with fail
  refine (check_all una nxt high a bs c V0 hu (Sts.belowT HL.out Q0.out) hlen).mono ?_
  rintro e V1 ⟨rfl, hB⟩
  rw [HE0.out]
  have S1 := Lib.hid ((hB.block _ (blk_lt S0.out)).trans S0.out)
  have Z1 := Lib.hid ((hB.block _ (blk_lt Z0.out)).trans Z0.out)
  have Q1 := Lib.hid (Q0.out.trans (hB.mono Q0.out.size))
  clear hB c0 c1 c2 c3 S0 Z0 Q0
  by_cases hk : okS una nxt high bs = true
  case neg =>
    have hE : E0 = 171 := by rw [← HE0.out]; unfold chkE; rw [if_neg hk]
    subst hE
    have HER := HE0
    have hz := blk_lt Z1.out
    go_wp2_with (first
      | ((with_reducible show wpList _ _ _ _ _ _); refine wpList_store_blk rowPS (t := 26) (w := V1) rfl (.tmp 2) (.tmp 9) rfl (w.heap.size + 1) #[.int .u32 0, .int .u32 0, .int .u32 0, .slice none 0 0] #[.int .u32 0, .int .u32 0, .int .u32 0, .slice none 0 0] rfl rfl Z1.out rfl rfl (by simp [Value.oneCell']) ?_; intro V7 hb7 hg7; have ZB7 := Lib.hid hb7; have Q7 := Lib.hid (Q1.out.grown hg7 (by have := Q1.out.size; omega) (fun k e => by have := Option.some.inj e; omega)); clear hb7 hg7)
      | fail)
    refine bodyPost_ret (results_ct rowPS rfl _ _ (w.heap.size + 1) _ (.int .i64 171) rfl rfl ZB7.out rfl) rfl ⟨?_, Q7.out⟩
    rw [HER.out]
    exact fown_bad (by decide) _ _ _ _ _ _
  case pos =>
    have hE : E0 = 0 := by rw [← HE0.out]; unfold chkE; rw [if_pos hk]
    subst hE
    have c0 := blk_cell S1.out 0
    have c1 := blk_cell S1.out 1
    have c2 := blk_cell S1.out 2
    have c3 := blk_cell S1.out 3
    have f2 := blk_free S1.out 2
    have f3 := blk_free S1.out 3
    have SF := blk_set (blk_set S1.out 2 (.int .u32 (una : Nat))) 3 (.slice none 0 0)
    simp only [List.setIfInBounds_toArray, List.set_cons_zero, List.set_cons_succ] at SF
    have GF := gr_trans (gr_set V1 w.heap.size 2 (.int .u32 (una : Nat))) (gr_set _ w.heap.size 3 (.slice none 0 0))
    have S2 := Lib.hid SF
    have Z2 := Lib.hid ((GF.block _ (blk_lt Z1.out) (fun e => by have := Option.some.inj e; omega)).trans Z1.out)
    have Q2 := Lib.hid (Q1.out.grown GF (by have := Q1.out.size; omega) (fun k e => by have := Option.some.inj e; omega))
    clear SF GF
    go_upto_region 6 with fail
    generalize (V1.setCell ⟨w.heap.size, 2, none⟩ (.int .u32 (una : Nat))).setCell ⟨w.heap.size, 3, none⟩ (.slice none 0 0) = V2 at S2 Z2 Q2 ⊢
    clear c0 c1 c2 c3 f2 f3
    have c0 := blk_cell S2.out 0
    have c1 := blk_cell S2.out 1
    have c2 := blk_cell S2.out 2
    have c3 := blk_cell S2.out 3
    have hz := blk_lt Z2.out
    go_wp2_with (first
      | ((with_reducible show wpList _ _ _ _ _ _); refine wpList_store_blk rowPS (t := 26) (w := V2) rfl (.tmp 2) (.tmp 15) rfl (w.heap.size + 1) #[.int .u32 0, .int .u32 0, .int .u32 0, .slice none 0 0] #[.int .u32 (una : Nat), .int .u32 (nxt : Nat), .int .u32 (una : Nat), .slice none 0 0] rfl rfl Z2.out rfl rfl (by simp [Value.oneCell']) ?_; intro V7 hb7 hg7; have ZB7 := Lib.hid hb7; have Q7 := Lib.hid (Q2.out.grown hg7 (by have := Q2.out.size; omega) (fun k e => by have := Option.some.inj e; omega)); clear hb7 hg7)
      | fail)
    refine bodyPost_ret (results_ct rowPS rfl _ _ (w.heap.size + 1) _ (.int .i64 0) rfl rfl ZB7.out rfl) rfl ⟨?_, Q7.out⟩
    rw [HE0.out]
    exact fown_ok una nxt una [] (ownR_nil _ _ _ _ _)

theorem okL_more {sent sent' : Nat} (hs : sent ≤ sent') : ∀ (l : List (Nat × Nat)) (e : Nat), okL sent e l = true → okL sent' e l = true
  | [], _, _ => rfl
  | x :: l, e, h => by
    obtain ⟨h1, h2, h3, h4⟩ := okL_cons.1 h
    exact okL_cons.2 ⟨h1, h2, by omega, okL_more hs l x.2 h4⟩
theorem sent_next {una nxt high : Nat} {bs : List (Nat × Nat)} {n : Int} (h : snE una nxt high bs n = 0) : okS una ((nxt + n.toNat) % 4294967296) high bs = true := by
  unfold snE at h
  by_cases hk : okS una nxt high bs = true
  · rw [if_pos hk] at h
    by_cases hn : 0 ≤ n ∧ n ≤ 1073741824 - (pl una nxt : Int)
    · obtain ⟨k1, k2, k3, k4⟩ := okS_iff.1 hk
      have e : pl una ((nxt + n.toNat) % 4294967296) = pl una nxt + n.toNat := by unfold pl at *; omega
      refine okS_iff.2 ⟨by rw [e]; omega, by rw [e]; omega, k3, ?_⟩
      rw [e]; exact okL_more (by omega) _ _ k4
    · rw [if_neg hn] at h; omega
  · rw [if_neg hk] at h; omega
theorem resent_next {una nxt high : Nat} {bs : List (Nat × Nat)} {y : Nat} (h : reE una nxt high bs y = 0) : okS una nxt y bs = true := by
  unfold reE at h
  by_cases hk : okS una nxt high bs = true
  · rw [if_pos hk] at h
    by_cases hn : pl una high ≤ pl una y ∧ pl una y ≤ pl una nxt
    · obtain ⟨k1, k2, k3, k4⟩ := okS_iff.1 hk
      exact okS_iff.2 ⟨k1, hn.2, k3, k4⟩
    · rw [if_neg hn] at h; omega
  · rw [if_neg hk] at h; omega
theorem timeout_next {una nxt high : Nat} {bs : List (Nat × Nat)} (hu : una < 4294967296) (h : okS una nxt high bs = true) : okS una nxt una [] = true := by
  obtain ⟨k1, k2, k3, k4⟩ := okS_iff.1 h
  exact okS_iff.2 ⟨k1, by rw [pl_self hu]; omega, by simp, rfl⟩
theorem ck_zero {una nxt high : Nat} {bs : List (Nat × Nat)} {mss : Int} (h : okS una nxt high bs = true) (hm : 1 ≤ mss ∧ mss ≤ 65535) : ckE una nxt high bs mss = 0 := by
  unfold ckE; rw [if_pos h, if_pos hm]
/-- A block's own first octet is in no hole. -/
theorem no_hole {st : Nat} {x : Nat × Nat} : ∀ (l : List (Nat × Nat)) (e : Nat), okL st e l = true → l.length ≤ 1024 → x ∈ l → ∀ h ∈ hol st e l, lostF x.1 h = false
  | [], _, _, _, hx, _, _ => by cases hx
  | y :: l, e, hk, hl, hx, h, hh => by
    obtain ⟨h1, h2, h3, h4⟩ := okL_cons.1 hk
    simp only [List.length_cons] at hl
    obtain ⟨hap, hbd⟩ := (okL_apt l y.2).1 h4
    simp only [hol, List.mem_cons] at hh
    unfold lostF
    rcases hh with rfl | hh
    · rcases List.mem_cons.1 hx with rfl | hx
      · simp
      · have := hbd x hx
        rw [Bool.and_eq_false_iff]; right
        exact decide_eq_false (show ¬ x.1 < y.1 by omega)
    · rcases List.mem_cons.1 hx with rfl | hx
      · have := hol_ok l x.2 h4 h3 (by omega) h hh
        rw [Bool.and_eq_false_iff]; left
        exact decide_eq_false (by omega)
      · have := no_hole l y.2 h4 (by omega) hx h hh
        unfold lostF at this; exact this
theorem block_kept {una nxt high : Nat} {bs : List (Nat × Nat)} {mss : Int} {x : Nat × Nat} (h : okS una nxt high bs = true) (hm : 1 ≤ mss ∧ mss ≤ 65535) (hx : x ∈ bs) : loB una nxt high bs mss x.1 = false ∧ loE una nxt high bs mss x.1 = 0 := by
  obtain ⟨k1, k2, k3, k4⟩ := okS_iff.1 h
  have hxs : (pl una x.1, pl una x.2) ∈ sps una bs := List.mem_map.2 ⟨x, hx, rfl⟩
  have hb := ((okL_apt _ 0).1 k4).2 _ hxs
  have hlt : pl una x.1 < pl una nxt := by
    have h1 : pl una x.1 < pl una x.2 := hb.1
    have h2 : pl una x.2 ≤ pl una nxt := hb.2.1
    omega
  have hno := no_hole (x := (pl una x.1, pl una x.2)) _ 0 k4 (by rw [sps_len]; exact k3) hxs
  constructor
  · unfold loB
    rw [if_pos ⟨ck_zero h hm, hlt⟩]
    unfold lsB
    rw [List.find?_eq_none.2 (fun z hz => by rw [hno z hz]; simp)]
    rfl
  · unfold loE
    rw [if_pos (ck_zero h hm), if_pos hlt]
/-- What is told to be sent again. -/
theorem next_told {una nxt high : Nat} {bs : List (Nat × Nat)} {mss : Int} {rs : Bool} {z : Nat × Nat} (h : okS una nxt high bs = true) (hm : 1 ≤ mss ∧ mss ≤ 65535) (hz : nxO una nxt high bs mss rs = some z) :
    pl una high ≤ z.1 ∧ z.1 < z.2 ∧ z.2 ≤ pl una nxt ∧ insB (sps una bs) z.1 z.2 = false := by
  obtain ⟨k1, k2, k3, k4⟩ := okS_iff.1 h
  unfold nxO at hz
  rw [if_pos (ck_zero h hm), Option.map_eq_some_iff] at hz
  obtain ⟨g, hg, rfl⟩ := hz
  have hi := (next_is mss (pl una high) rs (sps una bs) 0 k4).2 g hg
  have hb := hol_ok _ 0 k4 (Nat.zero_le _) (by rw [sps_len]; exact k3) g (List.mem_of_find?_eq_some hg)
  have h1 := hi.room
  refine ⟨?_, ?_, ?_, hi.alone _ ?_⟩
  · show pl una high ≤ max g.l (pl una high); omega
  · show max g.l (pl una high) < min (max g.l (pl una high) + mss.toNat) g.r; omega
  · show min (max g.l (pl una high) + mss.toNat) g.r ≤ _; omega
  · show min (max g.l (pl una high) + mss.toNat) g.r ≤ g.r; omega
end Go.Proofs.Ytcachmjcninkbaa
