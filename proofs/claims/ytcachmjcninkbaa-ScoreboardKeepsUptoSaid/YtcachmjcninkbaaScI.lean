/- Scoreboard: Sent, Resent, on both sides. -/
import Derived.Test.YtcachmjcninkbaaScW
namespace Go.Proofs.Ytcachmjcninkbaa
open Go.RowKit

theorem pl_in {u h x y : Nat} (hh : h < 4294967296) (h1 : pl u h ≤ pl u x) : pl h y ≤ pl h x ↔ (pl u h ≤ pl u y ∧ pl u y ≤ pl u x) := by
  unfold pl at *; omega
def snE (una nxt high : Nat) (bs : List (Nat × Nat)) (n : Int) : Int := if okS una nxt high bs = true then (if 0 ≤ n ∧ n ≤ 1073741824 - (pl una nxt : Int) then 0 else 4) else 171
def reE (una nxt high : Nat) (bs : List (Nat × Nat)) (y : Nat) : Int := if okS una nxt high bs = true then (if pl una high ≤ pl una y ∧ pl una y ≤ pl una nxt then 0 else 151) else 171

set_option maxRecDepth 100000 in
set_option maxHeartbeats 2000000 in
theorem psent_any (una nxt high : Nat) (a : Option Addr) (bs : List (Nat × Nat)) (c : Nat) (n : Int) (w : World) (hu : una < 4294967296) (h : Sts 2 BC Tr w a bs) (hn : a = none → c = 0) (hlen : bs.length ≤ 35184372088832) :
    Calls Try.prog 19 #[.agg #[.int .u32 (una : Nat), .int .u32 (nxt : Nat), .int .u32 (high : Nat), .slice a bs.length c], .int .i64 n] w fun e w' => FOut (snE una nxt high bs n) una ((nxt + n.toNat) % 4294967296) high bs e w' ∧ Below w.heap.size w w' := by
  have HL := Lib.hid h
  have HPN := Lib.hid (fun V => place_any una nxt high a bs.length c nxt V hu)
  go_enter Try.func19, Try.ntmps19
  go_upto_region 1 with fail
  obtain ⟨x1, x2, x3, x4⟩ := two_b w (.cells #[.int .u32 (una : Nat), .int .u32 (nxt : Nat), .int .u32 (high : Nat), .slice a bs.length c] 26) (.cells #[.int .u32 0, .int .u32 0, .int .u32 0, .slice none 0 0] 26)
  have S0 := Lib.hid x1
  have Z0 := Lib.hid x2
  have Q0 := Lib.hid x4
  clear x1 x2 x3 x4 h
  generalize (w.alloc (.cells #[.int .u32 (una : Nat), .int .u32 (nxt : Nat), .int .u32 (high : Nat), .slice a bs.length c] 26)).alloc (.cells #[.int .u32 0, .int .u32 0, .int .u32 0, .slice none 0 0] 26) = V0 at S0 Z0 Q0 ⊢
  have c0 := blk_cell S0.out 0
  have c1 := blk_cell S0.out 1
  have c2 := blk_cell S0.out 2
  have c3 := blk_cell S0.out 3
  obtain ⟨E0, hE0⟩ : ∃ E, chkE una nxt high bs = E := ⟨_, rfl⟩
  have HE0 := Lib.hid hE0
  clear hE0
  go_wp2_with fail
  refine (check_all una nxt high a bs c V0 hu (Sts.belowT HL.out Q0.out) hlen).mono ?_
  rintro e V1 ⟨rfl, hB⟩
  rw [HE0.out]
  have S1 := Lib.hid ((hB.block _ (blk_lt S0.out)).trans S0.out)
  have Z1 := Lib.hid ((hB.block _ (blk_lt Z0.out)).trans Z0.out)
  have Q1 := Lib.hid (Q0.out.trans (hB.mono Q0.out.size))
  clear hB c0 c1 c2 c3 S0 Z0 Q0
  by_cases hk : okS una nxt high bs = true
  case neg =>
    have hE : E0 = 171 := by rw [← HE0.out]; unfold chkE; rw [if_neg hk]
    have HER : Hid (snE una nxt high bs n = 171) := Lib.hid (by unfold snE; rw [if_neg hk])
    subst hE
    have hz := blk_lt Z1.out
    go_wp2_with (first
      | ((with_reducible show wpList _ _ _ _ _ _); refine wpList_store_blk rowPS (t := 26) (w := V1) rfl (.tmp 4) (.tmp 11) rfl (w.heap.size + 1) #[.int .u32 0, .int .u32 0, .int .u32 0, .slice none 0 0] #[.int .u32 0, .int .u32 0, .int .u32 0, .slice none 0 0] rfl rfl Z1.out rfl rfl (by simp [Value.oneCell']) ?_; intro V7 hb7 hg7; have ZB7 := Lib.hid hb7; have Q7 := Lib.hid (Q1.out.grown hg7 (by have := Q1.out.size; omega) (fun k e => by have := Option.some.inj e; omega)); clear hb7 hg7)
      | fail)
    refine bodyPost_ret (results_ct rowPS rfl _ _ (w.heap.size + 1) _ (.int .i64 171) rfl rfl ZB7.out rfl) rfl ⟨?_, Q7.out⟩
    rw [HER.out]
    exact fout_bad (by decide) _ _ _ _ _
  case pos =>
    have hE : E0 = 0 := by rw [← HE0.out]; unfold chkE; rw [if_pos hk]
    subst hE
    obtain ⟨k1, k2, k3, _⟩ := okS_iff.1 hk
    obtain ⟨st, hst⟩ : ∃ z, pl una nxt = z := ⟨_, rfl⟩
    have HEE : Hid (snE una nxt high bs n = if 0 ≤ n ∧ n ≤ 1073741824 - (st : Int) then 0 else 4) := Lib.hid (by unfold snE; rw [if_pos hk, hst])
    rw [hst] at k1 HPN
    clear hk hst
    by_cases n0 : n < 0
    case pos =>
      have HER : Hid (snE una nxt high bs n = 4) := Lib.hid (by rw [HEE.out, if_neg (by omega)])
      have hz := blk_lt Z1.out
      go_wp2_with (first
        | ((with_reducible show wpList _ _ _ _ _ _); refine wpList_store_blk rowPS (t := 26) (w := V1) rfl (.tmp 4) (.tmp 24) rfl (w.heap.size + 1) #[.int .u32 0, .int .u32 0, .int .u32 0, .slice none 0 0] #[.int .u32 0, .int .u32 0, .int .u32 0, .slice none 0 0] rfl rfl Z1.out rfl rfl (by simp [Value.oneCell']) ?_; intro V7 hb7 hg7; have ZB7 := Lib.hid hb7; have Q7 := Lib.hid (Q1.out.grown hg7 (by have := Q1.out.size; omega) (fun k e => by have := Option.some.inj e; omega)); clear hb7 hg7)
        | fail)
      refine bodyPost_ret (results_ct rowPS rfl _ _ (w.heap.size + 1) _ (.int .i64 4) rfl rfl ZB7.out rfl) rfl ⟨?_, Q7.out⟩
      rw [HER.out]
      exact fout_bad (by decide) _ _ _ _ _
    case neg =>
    have c0 := blk_cell S1.out 0
    have c1 := blk_cell S1.out 1
    have c2 := blk_cell S1.out 2
    have c3 := blk_cell S1.out 3
    go_wp2_with fail
    refine (HPN.out V1).mono ?_
    rintro e V2 ⟨rfl, hB⟩
    have S2 := Lib.hid ((hB.block _ (blk_lt S1.out)).trans S1.out)
    have Z2 := Lib.hid ((hB.block _ (blk_lt Z1.out)).trans Z1.out)
    have Q2 := Lib.hid (Q1.out.trans (hB.mono Q1.out.size))
    clear hB c0 c1 c2 c3 S1 Z1 Q1
    have w1 : IntKind.i64.wrap (1073741824 - (st : Int)) = 1073741824 - (st : Int) := IntWalk.i64_in _ ⟨by omega, by omega⟩
    by_cases n1 : 1073741824 - (st : Int) < n
    case pos =>
      have HER : Hid (snE una nxt high bs n = 4) := Lib.hid (by rw [HEE.out, if_neg (by omega)])
      have hz := blk_lt Z2.out
      go_wp2_with (first
        | ((with_reducible show wpList _ _ _ _ _ _); refine wpList_store_blk rowPS (t := 26) (w := V2) rfl (.tmp 4) (.tmp 24) rfl (w.heap.size + 1) #[.int .u32 0, .int .u32 0, .int .u32 0, .slice none 0 0] #[.int .u32 0, .int .u32 0, .int .u32 0, .slice none 0 0] rfl rfl Z2.out rfl rfl (by simp [Value.oneCell']) ?_; intro V7 hb7 hg7; have ZB7 := Lib.hid hb7; have Q7 := Lib.hid (Q2.out.grown hg7 (by have := Q2.out.size; omega) (fun k e => by have := Option.some.inj e; omega)); clear hb7 hg7)
        | fail)
      refine bodyPost_ret (results_ct rowPS rfl _ _ (w.heap.size + 1) _ (.int .i64 4) rfl rfl ZB7.out rfl) rfl ⟨?_, Q7.out⟩
      rw [HER.out]
      exact fout_bad (by decide) _ _ _ _ _
    case neg =>
    have HER : Hid (snE una nxt high bs n = 0) := Lib.hid (by rw [HEE.out, if_pos (by omega)])
    have w2 : IntKind.u32.wrap n = n := by rw [IntKind.wrap_u32]; omega
    obtain ⟨X, hX⟩ : ∃ z, (nxt + n.toNat) % 4294967296 = z := ⟨_, rfl⟩
    have w3 : IntKind.u32.wrap ((nxt : Int) + n) = (X : Int) := by rw [IntKind.wrap_u32]; omega
    have HX := Lib.hid hX
    clear hX HEE
    have c0 := blk_cell S2.out 0
    have c1 := blk_cell S2.out 1
    have c2 := blk_cell S2.out 2
    have c3 := blk_cell S2.out 3
    have f1 := blk_free S2.out 1
    have hz := blk_lt Z2.out
    go_upto_region 7 with fail
    have SF := blk_set S2.out 1 (.int .u32 (X : Nat))
    simp only [List.setIfInBounds_toArray, List.set_cons_zero, List.set_cons_succ] at SF
    have GF := gr_set V2 w.heap.size 1 (.int .u32 (X : Nat))
    have S3 := Lib.hid SF
    have Z3 := Lib.hid ((GF.block _ (blk_lt Z2.out) (fun e => by have := Option.some.inj e; omega)).trans Z2.out)
    have Q3 := Lib.hid (Q2.out.grown GF (by have := Q2.out.size; omega) (fun k e => by have := Option.some.inj e; omega))
    have hz3 : w.heap.size + 1 < (V2.setCell ⟨w.heap.size, 1, none⟩ (.int .u32 (X : Nat))).heap.size := blk_lt Z3.out
    clear SF GF c0 c1 c2 c3 f1 hz
    generalize V2.setCell ⟨w.heap.size, 1, none⟩ (.int .u32 (X : Nat)) = V3 at S3 Z3 Q3 hz3 ⊢
    have c3 := blk_cell S3.out 3
    go_wp2_with fail
    refine (clone_blk a bs c V3 (Sts.belowT HL.out Q3.out) hn (by omega)).mono ?_
    rintro e V4 ⟨⟨a5, c5, rfl, hO⟩, hB⟩
    have S4 := Lib.hid ((hB.block _ (blk_lt S3.out)).trans S3.out)
    have Z4 := Lib.hid ((hB.block _ (blk_lt Z3.out)).trans Z3.out)
    have Q4 := Lib.hid (Q3.out.trans (hB.mono Q3.out.size))
    have O4 := Lib.hid hO
    clear hB hO c3
    have c0 := blk_cell S4.out 0
    have c1 := blk_cell S4.out 1
    have c2 := blk_cell S4.out 2
    have c3 := blk_cell S4.out 3
    have f3 := blk_free S4.out 3
    go_upto_region 8 with fail
    have SF := blk_set S4.out 3 (.slice a5 bs.length c5)
    simp only [List.setIfInBounds_toArray, List.set_cons_zero, List.set_cons_succ] at SF
    have GF := gr_set V4 w.heap.size 3 (.slice a5 bs.length c5)
    have S5 := Lib.hid SF
    have Z5 := Lib.hid ((GF.block _ (blk_lt Z4.out) (fun e => by have := Option.some.inj e; omega)).trans Z4.out)
    have Q5 := Lib.hid (Q4.out.grown GF (by have := Q4.out.size; omega) (fun k e => by have := Option.some.inj e; omega))
    have O5 := Lib.hid (O4.out.grown GF (fun g e => by intro e2; have h1 := (O4.out.ownB g (by rw [e]; rfl)).1; have := Option.some.inj e2; omega))
    clear SF GF c0 c1 c2 c3 f3
    generalize V4.setCell ⟨w.heap.size, 3, none⟩ (.slice a5 bs.length c5) = V5 at S5 Z5 Q5 O5 ⊢
    have c0 := blk_cell S5.out 0
    have c1 := blk_cell S5.out 1
    have c2 := blk_cell S5.out 2
    have c3 := blk_cell S5.out 3
    have hz5 := blk_lt Z5.out
    go_wp2_with (first
      | ((with_reducible show wpList _ _ _ _ _ _); refine wpList_store_blk rowPS (t := 26) (w := V5) rfl (.tmp 4) (.tmp 35) rfl (w.heap.size + 1) #[.int .u32 0, .int .u32 0, .int .u32 0, .slice none 0 0] #[.int .u32 (una : Nat), .int .u32 (X : Nat), .int .u32 (high : Nat), .slice a5 bs.length c5] rfl rfl Z5.out rfl rfl (by simp [Value.oneCell']) ?_; intro V7 hb7 hg7; have ZB7 := Lib.hid hb7; have Q7 := Lib.hid (Q5.out.grown hg7 (by have := Q5.out.size; omega) (fun k e => by have := Option.some.inj e; omega)); have O7 := Lib.hid (O5.out.grown hg7 (fun g e => by intro e2; have h1 := (O5.out.ownB g (by rw [e]; rfl)).1; have := Option.some.inj e2; omega)); clear hb7 hg7)
      | fail)
    refine bodyPost_ret (results_ct rowPS rfl _ _ (w.heap.size + 1) _ (.int .i64 0) rfl rfl ZB7.out rfl) rfl ⟨?_, Q7.out⟩
    rw [HER.out, HX.out]
    exact fout_ok una X high bs (O7.out.sts encB)

set_option maxRecDepth 100000 in
set_option maxHeartbeats 2000000 in
theorem rsent_any (una nxt high : Nat) (a : Option Addr) (bs : List (Nat × Nat)) (c : Nat) (n : Int) (w : World) (hu : una < 4294967296) (h : Sts 2 BC Tr w a bs) (hn : a = none → c = 0) (hlen : bs.length ≤ 35184372088832) :
    Calls Try.prog 20 #[.agg #[.int .u32 (una : Nat), .int .u32 (nxt : Nat), .int .u32 (high : Nat), .slice a bs.length c], .int .i64 n] w fun e w' => FOut (snE una nxt high bs n) una ((nxt + n.toNat) % 4294967296) high bs e w' ∧ Below w.heap.size w w' := by
  have HL := Lib.hid h
  have HPN := Lib.hid (fun V => rsize_any una nxt high a bs.length c V hu)
  go_enter Try.func20, Try.ntmps20
  go_upto_region 1 with fail
  obtain ⟨x1, x2, x3, x4⟩ := two_b w (.cells #[.int .u32 (una : Nat), .int .u32 (nxt : Nat), .int .u32 (high : Nat), .slice a bs.length c] 25) (.cells #[.int .u32 0, .int .u32 0, .int .u32 0, .slice none 0 0] 25)
  have S0 := Lib.hid x1
  have Z0 := Lib.hid x2
  have Q0 := Lib.hid x4
  clear x1 x2 x3 x4 h
  generalize (w.alloc (.cells #[.int .u32 (una : Nat), .int .u32 (nxt : Nat), .int .u32 (high : Nat), .slice a bs.length c] 25)).alloc (.cells #[.int .u32 0, .int .u32 0, .int .u32 0, .slice none 0 0] 25) = V0 at S0 Z0 Q0 ⊢
  have c0 := blk_cell S0.out 0
  have c1 := blk_cell S0.out 1
  have c2 := blk_cell S0.out 2
  have c3 := blk_cell S0.out 3
  obtain ⟨E0, hE0⟩ : ∃ E, chkE una nxt high bs = E := ⟨_, rfl⟩
  have HE0 := Lib.hid hE0
  clear hE0
  go_wp2_with fail
  refine (rcheck_any una nxt high a bs c V0 hu (Sts.belowT HL.out Q0.out) hlen).mono ?_
  rintro e V1 ⟨rfl, hB⟩
  rw [HE0.out]
  have S1 := Lib.hid ((hB.block _ (blk_lt S0.out)).trans S0.out)
  have Z1 := Lib.hid ((hB.block _ (blk_lt Z0.out)).trans Z0.out)
  have Q1 := Lib.hid (Q0.out.trans (hB.mono Q0.out.size))
  clear hB c0 c1 c2 c3 S0 Z0 Q0
  by_cases hk : okS una nxt high bs = true
  case neg =>
    have hE : E0 = 171 := by rw [← HE0.out]; unfold chkE; rw [if_neg hk]
    have HER : Hid (snE una nxt high bs n = 171) := Lib.hid (by unfold snE; rw [if_neg hk])
    subst hE
    have hz := blk_lt Z1.out
    go_wp2_with (first
      | ((with_reducible show wpList _ _ _ _ _ _); refine wpList_store_blk rowRS (t := 25) (w := V1) rfl (.tmp 4) (.tmp 10) rfl (w.heap.size + 1) #[.int .u32 0, .int .u32 0, .int .u32 0, .slice none 0 0] #[.int .u32 0, .int .u32 0, .int .u32 0, .slice none 0 0] rfl rfl Z1.out rfl rfl (by simp [Value.oneCell']) ?_; intro V7 hb7 hg7; have ZB7 := Lib.hid hb7; have Q7 := Lib.hid (Q1.out.grown hg7 (by have := Q1.out.size; omega) (fun k e => by have := Option.some.inj e; omega)); clear hb7 hg7)
      | fail)
    refine bodyPost_ret (results_ct rowRS rfl _ _ (w.heap.size + 1) _ (.int .i64 171) rfl rfl ZB7.out rfl) rfl ⟨?_, Q7.out⟩
    rw [HER.out]
    exact fout_bad (by decide) _ _ _ _ _
  case pos =>
    have hE : E0 = 0 := by rw [← HE0.out]; unfold chkE; rw [if_pos hk]
    subst hE
    obtain ⟨k1, k2, k3, _⟩ := okS_iff.1 hk
    obtain ⟨st, hst⟩ : ∃ z, pl una nxt = z := ⟨_, rfl⟩
    have HEE : Hid (snE una nxt high bs n = if 0 ≤ n ∧ n ≤ 1073741824 - (st : Int) then 0 else 4) := Lib.hid (by unfold snE; rw [if_pos hk, hst])
    rw [hst] at k1 HPN
    clear hk hst
    by_cases n0 : n < 0
    case pos =>
      have HER : Hid (snE una nxt high bs n = 4) := Lib.hid (by rw [HEE.out, if_neg (by omega)])
      have hz := blk_lt Z1.out
      go_wp2_with (first
        | ((with_reducible show wpList _ _ _ _ _ _); refine wpList_store_blk rowRS (t := 25) (w := V1) rfl (.tmp 4) (.tmp 21) rfl (w.heap.size + 1) #[.int .u32 0, .int .u32 0, .int .u32 0, .slice none 0 0] #[.int .u32 0, .int .u32 0, .int .u32 0, .slice none 0 0] rfl rfl Z1.out rfl rfl (by simp [Value.oneCell']) ?_; intro V7 hb7 hg7; have ZB7 := Lib.hid hb7; have Q7 := Lib.hid (Q1.out.grown hg7 (by have := Q1.out.size; omega) (fun k e => by have := Option.some.inj e; omega)); clear hb7 hg7)
        | fail)
      refine bodyPost_ret (results_ct rowRS rfl _ _ (w.heap.size + 1) _ (.int .i64 4) rfl rfl ZB7.out rfl) rfl ⟨?_, Q7.out⟩
      rw [HER.out]
      exact fout_bad (by decide) _ _ _ _ _
    case neg =>
    have c0 := blk_cell S1.out 0
    have c1 := blk_cell S1.out 1
    have c2 := blk_cell S1.out 2
    have c3 := blk_cell S1.out 3
    go_wp2_with fail
    refine (HPN.out V1).mono ?_
    rintro e V2 ⟨rfl, hB⟩
    have S2 := Lib.hid ((hB.block _ (blk_lt S1.out)).trans S1.out)
    have Z2 := Lib.hid ((hB.block _ (blk_lt Z1.out)).trans Z1.out)
    have Q2 := Lib.hid (Q1.out.trans (hB.mono Q1.out.size))
    clear hB c0 c1 c2 c3 S1 Z1 Q1
    have w1 : IntKind.i64.wrap (1073741824 - (st : Int)) = 1073741824 - (st : Int) := IntWalk.i64_in _ ⟨by omega, by omega⟩
    by_cases n1 : 1073741824 - (st : Int) < n
    case pos =>
      have HER : Hid (snE una nxt high bs n = 4) := Lib.hid (by rw [HEE.out, if_neg (by omega)])
      have hz := blk_lt Z2.out
      go_wp2_with (first
        | ((with_reducible show wpList _ _ _ _ _ _); refine wpList_store_blk rowRS (t := 25) (w := V2) rfl (.tmp 4) (.tmp 21) rfl (w.heap.size + 1) #[.int .u32 0, .int .u32 0, .int .u32 0, .slice none 0 0] #[.int .u32 0, .int .u32 0, .int .u32 0, .slice none 0 0] rfl rfl Z2.out rfl rfl (by simp [Value.oneCell']) ?_; intro V7 hb7 hg7; have ZB7 := Lib.hid hb7; have Q7 := Lib.hid (Q2.out.grown hg7 (by have := Q2.out.size; omega) (fun k e => by have := Option.some.inj e; omega)); clear hb7 hg7)
        | fail)
      refine bodyPost_ret (results_ct rowRS rfl _ _ (w.heap.size + 1) _ (.int .i64 4) rfl rfl ZB7.out rfl) rfl ⟨?_, Q7.out⟩
      rw [HER.out]
      exact fout_bad (by decide) _ _ _ _ _
    case neg =>
    have HER : Hid (snE una nxt high bs n = 0) := Lib.hid (by rw [HEE.out, if_pos (by omega)])
    have w2 : IntKind.u32.wrap n = n := by rw [IntKind.wrap_u32]; omega
    obtain ⟨X, hX⟩ : ∃ z, (nxt + n.toNat) % 4294967296 = z := ⟨_, rfl⟩
    have w3 : IntKind.u32.wrap ((nxt : Int) + n) = (X : Int) := by rw [IntKind.wrap_u32]; omega
    have HX := Lib.hid hX
    clear hX HEE
    have c0 := blk_cell S2.out 0
    have c1 := blk_cell S2.out 1
    have c2 := blk_cell S2.out 2
    have c3 := blk_cell S2.out 3
    go_upto_region 5 with fail
    go_cut [] (fun (W : World) => ∃ (a5 : Option Addr) (c5 : Nat), W.heap[w.heap.size]? = some (.cells #[.int .u32 (una : Nat), .int .u32 (nxt : Nat), .int .u32 (high : Nat), .slice a5 bs.length c5] 25 (0, 0)) ∧ W.heap[w.heap.size + 1]? = some (.cells #[.int .u32 0, .int .u32 0, .int .u32 0, .slice none 0 0] 25 (0, 0)) ∧ Below w.heap.size w W ∧ OwnR 38 2 BC V2.heap.size a5 bs c5 W)
    case first =>
      go_wp2_with fail
      refine (own_any una nxt high a bs c V2 (Sts.belowT HL.out Q2.out) hn (by omega)).mono ?_
      rintro e V3 ⟨⟨a5, c5, rfl, hO⟩, hB⟩
      have S3 := Lib.hid ((hB.block _ (blk_lt S2.out)).trans S2.out)
      have Z3 := Lib.hid ((hB.block _ (blk_lt Z2.out)).trans Z2.out)
      have hz := blk_lt Z2.out
      have Q3 := Lib.hid (Q2.out.trans (hB.mono Q2.out.size))
      have O3 := Lib.hid hO
      clear hB hO c0 c1 c2 c3
      go_wp2_with (first
        | ((with_reducible show wpList _ _ _ _ _ _); refine wpList_store_blk rowRS (t := 25) (w := V3) rfl (.tmp 2) (.tmp 23) rfl (w.heap.size) #[.int .u32 (una : Nat), .int .u32 (nxt : Nat), .int .u32 (high : Nat), .slice a bs.length c] #[.int .u32 (una : Nat), .int .u32 (nxt : Nat), .int .u32 (high : Nat), .slice a5 bs.length c5] rfl rfl S3.out rfl rfl (by simp [Value.oneCell']) ?_; intro V7 hb7 hg7; have ZB7 := Lib.hid hb7; have Q7 := Lib.hid (Q3.out.grown hg7 (by have := Q3.out.size; omega) (fun k e => by have := Option.some.inj e; omega)); have Z7 := Lib.hid ((hg7.block _ (blk_lt Z3.out) (fun e => by have := Option.some.inj e; omega)).trans Z3.out); have O7 := Lib.hid (O3.out.grown hg7 (fun g e => by intro e2; have h1 := (O3.out.ownB g (by rw [e]; rfl)).1; have := Option.some.inj e2; omega)); clear hb7 hg7)
        | fail)
      go_meet
      exact ⟨a5, c5, ZB7.out, Z7.out, Q7.out, O7.out⟩
    case rest =>
    have hz := blk_lt Z2.out
    obtain ⟨a5, c5, hS, hZ, hQ, hO⟩ := hcut
    obtain ⟨V4, hVV⟩ : ∃ V, V = wc := ⟨_, rfl⟩
    subst hVV
    have S4 := Lib.hid hS
    have Z4 := Lib.hid hZ
    have Q4 := Lib.hid hQ
    have O4 := Lib.hid hO
    clear hS hZ hQ hO c0 c1 c2 c3
    have c0 := blk_cell S4.out 0
    have c1 := blk_cell S4.out 1
    have c2 := blk_cell S4.out 2
    have c3 := blk_cell S4.out 3
    have f1 := blk_free S4.out 1
    go_upto_region 7 with fail
    have SF := blk_set S4.out 1 (.int .u32 (X : Nat))
    simp only [List.setIfInBounds_toArray, List.set_cons_zero, List.set_cons_succ] at SF
    have GF := gr_set V4 w.heap.size 1 (.int .u32 (X : Nat))
    have S5 := Lib.hid SF
    have Z5 := Lib.hid ((GF.block _ (blk_lt Z4.out) (fun e => by have := Option.some.inj e; omega)).trans Z4.out)
    have Q5 := Lib.hid (Q4.out.grown GF (by have := Q4.out.size; omega) (fun k e => by have := Option.some.inj e; omega))
    have O5 := Lib.hid (O4.out.grown GF (fun g e => by intro e2; have h1 := (O4.out.ownB g (by rw [e]; rfl)).1; have := Option.some.inj e2; omega))
    clear SF GF c0 c1 c2 c3 f1
    generalize V4.setCell ⟨w.heap.size, 1, none⟩ (.int .u32 (X : Nat)) = V5 at S5 Z5 Q5 O5 ⊢
    have c0 := blk_cell S5.out 0
    have c1 := blk_cell S5.out 1
    have c2 := blk_cell S5.out 2
    have c3 := blk_cell S5.out 3
    have hz5 := blk_lt Z5.out
    go_wp2_with (first
      | ((with_reducible show wpList _ _ _ _ _ _); refine wpList_store_blk rowRS (t := 25) (w := V5) rfl (.tmp 4) (.tmp 30) rfl (w.heap.size + 1) #[.int .u32 0, .int .u32 0, .int .u32 0, .slice none 0 0] #[.int .u32 (una : Nat), .int .u32 (X : Nat), .int .u32 (high : Nat), .slice a5 bs.length c5] rfl rfl Z5.out rfl rfl (by simp [Value.oneCell']) ?_; intro V7 hb7 hg7; have ZB7 := Lib.hid hb7; have Q7 := Lib.hid (Q5.out.grown hg7 (by have := Q5.out.size; omega) (fun k e => by have := Option.some.inj e; omega)); have O7 := Lib.hid (O5.out.grown hg7 (fun g e => by intro e2; have h1 := (O5.out.ownB g (by rw [e]; rfl)).1; have := Option.some.inj e2; omega)); clear hb7 hg7)
      | fail)
    refine bodyPost_ret (results_ct rowRS rfl _ _ (w.heap.size + 1) _ (.int .i64 0) rfl rfl ZB7.out rfl) rfl ⟨?_, Q7.out⟩
    rw [HER.out, HX.out]
    exact fout_ok una X high bs (O7.out.sts encB)

set_option maxRecDepth 100000 in
set_option maxHeartbeats 2000000 in
theorem present_any (una nxt high : Nat) (a : Option Addr) (bs : List (Nat × Nat)) (c : Nat) (y : Nat) (w : World) (hu : una < 4294967296) (h : Sts 2 BC Tr w a bs) (hn : a = none → c = 0) (hlen : bs.length ≤ 35184372088832) :
    Calls Try.prog 21 #[.agg #[.int .u32 (una : Nat), .int .u32 (nxt : Nat), .int .u32 (high : Nat), .slice a bs.length c], .int .u32 (y : Nat)] w fun e w' => FOut (reE una nxt high bs y) una nxt y bs e w' ∧ Below w.heap.size w w' := by
  have HL := Lib.hid h
  have HPN := Lib.hid (fun V => place_any una nxt high a bs.length c nxt V hu)
  have HPH := Lib.hid (fun V => place_any una nxt high a bs.length c high V hu)
  have HPY := Lib.hid (fun V => place_any una nxt high a bs.length c y V hu)
  go_enter Try.func21, Try.ntmps21
  go_upto_region 1 with fail
  obtain ⟨x1, x2, x3, x4⟩ := two_b w (.cells #[.int .u32 (una : Nat), .int .u32 (nxt : Nat), .int .u32 (high : Nat), .slice a bs.length c] 26) (.cells #[.int .u32 0, .int .u32 0, .int .u32 0, .slice none 0 0] 26)
  have S0 := Lib.hid x1
  have Z0 := Lib.hid x2
  have Q0 := Lib.hid x4
  clear x1 x2 x3 x4 h
  generalize (w.alloc (.cells #[.int .u32 (una : Nat), .int .u32 (nxt : Nat), .int .u32 (high : Nat), .slice a bs.length c] 26)).alloc (.cells #[.int .u32 0, .int .u32 0, .int .u32 0, .slice none 0 0] 26) = V0 at S0 Z0 Q0 ⊢
  have c0 := blk_cell S0.out 0
  have c1 := blk_cell S0.out 1
  have c2 := blk_cell S0.out 2
  have c3 := blk_cell S0.out 3
  obtain ⟨E0, hE0⟩ : ∃ E, chkE una nxt high bs = E := ⟨_, rfl⟩
  have HE0 := Lib.hid hE0
  clear hE0
  go_wp2_with fail
  refine (check_all una nxt high a bs c V0 hu (Sts.belowT HL.out Q0.out) hlen).mono ?_
  rintro e V1 ⟨rfl, hB⟩
  rw [HE0.out]
  have S1 := Lib.hid ((hB.block _ (blk_lt S0.out)).trans S0.out)
  have Z1 := Lib.hid ((hB.block _ (blk_lt Z0.out)).trans Z0.out)
  have Q1 := Lib.hid (Q0.out.trans (hB.mono Q0.out.size))
  clear hB c0 c1 c2 c3 S0 Z0 Q0
  by_cases hk : okS una nxt high bs = true
  case neg =>
    have hE : E0 = 171 := by rw [← HE0.out]; unfold chkE; rw [if_neg hk]
    have HER : Hid (reE una nxt high bs y = 171) := Lib.hid (by unfold reE; rw [if_neg hk])
    subst hE
    have hz := blk_lt Z1.out
    go_wp2_with (first
      | ((with_reducible show wpList _ _ _ _ _ _); refine wpList_store_blk rowPS (t := 26) (w := V1) rfl (.tmp 4) (.tmp 12) rfl (w.heap.size + 1) #[.int .u32 0, .int .u32 0, .int .u32 0, .slice none 0 0] #[.int .u32 0, .int .u32 0, .int .u32 0, .slice none 0 0] rfl rfl Z1.out rfl rfl (by simp [Value.oneCell']) ?_; intro V7 hb7 hg7; have ZB7 := Lib.hid hb7; have Q7 := Lib.hid (Q1.out.grown hg7 (by have := Q1.out.size; omega) (fun k e => by have := Option.some.inj e; omega)); clear hb7 hg7)
      | fail)
    refine bodyPost_ret (results_ct rowPS rfl _ _ (w.heap.size + 1) _ (.int .i64 171) rfl rfl ZB7.out rfl) rfl ⟨?_, Q7.out⟩
    rw [HER.out]
    exact fout_bad (by decide) _ _ _ _ _
  case pos =>
    have hE : E0 = 0 := by rw [← HE0.out]; unfold chkE; rw [if_pos hk]
    subst hE
    obtain ⟨k1, k2, k3, _⟩ := okS_iff.1 hk
    obtain ⟨st, hst⟩ : ∃ z, pl una nxt = z := ⟨_, rfl⟩
    obtain ⟨hi, hhi⟩ : ∃ z, pl una high = z := ⟨_, rfl⟩
    obtain ⟨at', hat⟩ : ∃ z, pl una y = z := ⟨_, rfl⟩
    have HEE : Hid (reE una nxt high bs y = if hi ≤ at' ∧ at' ≤ st then 0 else 151) := Lib.hid (by unfold reE; rw [if_pos hk, hst, hhi, hat])
    rw [hst] at HPN
    rw [hhi] at HPH
    rw [hat] at HPY
    clear hk hst hhi hat
    have c0 := blk_cell S1.out 0
    have c1 := blk_cell S1.out 1
    have c2 := blk_cell S1.out 2
    have c3 := blk_cell S1.out 3
    go_wp2_with fail
    refine (HPY.out V1).mono ?_
    rintro e V2 ⟨rfl, hB⟩
    have S2 := Lib.hid ((hB.block _ (blk_lt S1.out)).trans S1.out)
    have Z2 := Lib.hid ((hB.block _ (blk_lt Z1.out)).trans Z1.out)
    have Q2 := Lib.hid (Q1.out.trans (hB.mono Q1.out.size))
    clear hB c0 c1 c2 c3 S1 Z1 Q1
    have c0 := blk_cell S2.out 0
    have c1 := blk_cell S2.out 1
    have c2 := blk_cell S2.out 2
    have c3 := blk_cell S2.out 3
    go_wp2_with fail
    refine (HPH.out V2).mono ?_
    rintro e V3a ⟨rfl, hB⟩
    have S3a := Lib.hid ((hB.block _ (blk_lt S2.out)).trans S2.out)
    have Z3a := Lib.hid ((hB.block _ (blk_lt Z2.out)).trans Z2.out)
    have Q3a := Lib.hid (Q2.out.trans (hB.mono Q2.out.size))
    clear hB c0 c1 c2 c3 S2 Z2 Q2
    by_cases n0 : at' < hi
    case pos =>
      have d1 : (at' : Int) < (hi : Int) := by omega
      have HER : Hid (reE una nxt high bs y = 151) := Lib.hid (by rw [HEE.out, if_neg (by omega)])
      have hz := blk_lt Z3a.out
      go_wp2_with (first
        | ((with_reducible show wpList _ _ _ _ _ _); refine wpList_store_blk rowPS (t := 26) (w := V3a) rfl (.tmp 4) (.tmp 31) rfl (w.heap.size + 1) #[.int .u32 0, .int .u32 0, .int .u32 0, .slice none 0 0] #[.int .u32 0, .int .u32 0, .int .u32 0, .slice none 0 0] rfl rfl Z3a.out rfl rfl (by simp [Value.oneCell']) ?_; intro V7 hb7 hg7; have ZB7 := Lib.hid hb7; have Q7 := Lib.hid (Q3a.out.grown hg7 (by have := Q3a.out.size; omega) (fun k e => by have := Option.some.inj e; omega)); clear hb7 hg7)
        | fail)
      refine bodyPost_ret (results_ct rowPS rfl _ _ (w.heap.size + 1) _ (.int .i64 151) rfl rfl ZB7.out rfl) rfl ⟨?_, Q7.out⟩
      rw [HER.out]
      exact fout_bad (by decide) _ _ _ _ _
    case neg =>
    have d1 : ¬ ((at' : Int) < (hi : Int)) := by omega
    have c0 := blk_cell S3a.out 0
    have c1 := blk_cell S3a.out 1
    have c2 := blk_cell S3a.out 2
    have c3 := blk_cell S3a.out 3
    go_wp2_with fail
    refine (HPN.out V3a).mono ?_
    rintro e V4a ⟨rfl, hB⟩
    have S4a := Lib.hid ((hB.block _ (blk_lt S3a.out)).trans S3a.out)
    have Z4a := Lib.hid ((hB.block _ (blk_lt Z3a.out)).trans Z3a.out)
    have Q4a := Lib.hid (Q3a.out.trans (hB.mono Q3a.out.size))
    clear hB c0 c1 c2 c3 S3a Z3a Q3a
    by_cases n1 : st < at'
    case pos =>
      have d2 : (st : Int) < (at' : Int) := by omega
      have HER : Hid (reE una nxt high bs y = 151) := Lib.hid (by rw [HEE.out, if_neg (by omega)])
      have hz := blk_lt Z4a.out
      go_wp2_with (first
        | ((with_reducible show wpList _ _ _ _ _ _); refine wpList_store_blk rowPS (t := 26) (w := V4a) rfl (.tmp 4) (.tmp 31) rfl (w.heap.size + 1) #[.int .u32 0, .int .u32 0, .int .u32 0, .slice none 0 0] #[.int .u32 0, .int .u32 0, .int .u32 0, .slice none 0 0] rfl rfl Z4a.out rfl rfl (by simp [Value.oneCell']) ?_; intro V7 hb7 hg7; have ZB7 := Lib.hid hb7; have Q7 := Lib.hid (Q4a.out.grown hg7 (by have := Q4a.out.size; omega) (fun k e => by have := Option.some.inj e; omega)); clear hb7 hg7)
        | fail)
      refine bodyPost_ret (results_ct rowPS rfl _ _ (w.heap.size + 1) _ (.int .i64 151) rfl rfl ZB7.out rfl) rfl ⟨?_, Q7.out⟩
      rw [HER.out]
      exact fout_bad (by decide) _ _ _ _ _
    case neg =>
    have d2 : ¬ ((st : Int) < (at' : Int)) := by omega
    have HER : Hid (reE una nxt high bs y = 0) := Lib.hid (by rw [HEE.out, if_pos (by omega)])
    clear HEE
    have c0 := blk_cell S4a.out 0
    have c1 := blk_cell S4a.out 1
    have c2 := blk_cell S4a.out 2
    have c3 := blk_cell S4a.out 3
    have f2 := blk_free S4a.out 2
    have hz := blk_lt Z4a.out
    go_upto_region 8 with fail
    have SF := blk_set S4a.out 2 (.int .u32 (y : Nat))
    simp only [List.setIfInBounds_toArray, List.set_cons_zero, List.set_cons_succ] at SF
    have GF := gr_set V4a w.heap.size 2 (.int .u32 (y : Nat))
    have S3 := Lib.hid SF
    have Z3 := Lib.hid ((GF.block _ (blk_lt Z4a.out) (fun e => by have := Option.some.inj e; omega)).trans Z4a.out)
    have Q3 := Lib.hid (Q4a.out.grown GF (by have := Q4a.out.size; omega) (fun k e => by have := Option.some.inj e; omega))
    have hz3 : w.heap.size + 1 < (V4a.setCell ⟨w.heap.size, 2, none⟩ (.int .u32 (y : Nat))).heap.size := blk_lt Z3.out
    clear SF GF c0 c1 c2 c3 f2 hz
    generalize V4a.setCell ⟨w.heap.size, 2, none⟩ (.int .u32 (y : Nat)) = V3 at S3 Z3 Q3 hz3 ⊢
    have c3 := blk_cell S3.out 3
    go_wp2_with fail
    refine (clone_blk a bs c V3 (Sts.belowT HL.out Q3.out) hn (by omega)).mono ?_
    rintro e V4 ⟨⟨a5, c5, rfl, hO⟩, hB⟩
    have S4 := Lib.hid ((hB.block _ (blk_lt S3.out)).trans S3.out)
    have Z4 := Lib.hid ((hB.block _ (blk_lt Z3.out)).trans Z3.out)
    have Q4 := Lib.hid (Q3.out.trans (hB.mono Q3.out.size))
    have O4 := Lib.hid hO
    clear hB hO c3
    have c0 := blk_cell S4.out 0
    have c1 := blk_cell S4.out 1
    have c2 := blk_cell S4.out 2
    have c3 := blk_cell S4.out 3
    have f3 := blk_free S4.out 3
    go_upto_region 9 with fail
    have SF := blk_set S4.out 3 (.slice a5 bs.length c5)
    simp only [List.setIfInBounds_toArray, List.set_cons_zero, List.set_cons_succ] at SF
    have GF := gr_set V4 w.heap.size 3 (.slice a5 bs.length c5)
    have S5 := Lib.hid SF
    have Z5 := Lib.hid ((GF.block _ (blk_lt Z4.out) (fun e => by have := Option.some.inj e; omega)).trans Z4.out)
    have Q5 := Lib.hid (Q4.out.grown GF (by have := Q4.out.size; omega) (fun k e => by have := Option.some.inj e; omega))
    have O5 := Lib.hid (O4.out.grown GF (fun g e => by intro e2; have h1 := (O4.out.ownB g (by rw [e]; rfl)).1; have := Option.some.inj e2; omega))
    clear SF GF c0 c1 c2 c3 f3
    generalize V4.setCell ⟨w.heap.size, 3, none⟩ (.slice a5 bs.length c5) = V5 at S5 Z5 Q5 O5 ⊢
    have c0 := blk_cell S5.out 0
    have c1 := blk_cell S5.out 1
    have c2 := blk_cell S5.out 2
    have c3 := blk_cell S5.out 3
    have hz5 := blk_lt Z5.out
    go_wp2_with (first
      | ((with_reducible show wpList _ _ _ _ _ _); refine wpList_store_blk rowPS (t := 26) (w := V5) rfl (.tmp 4) (.tmp 38) rfl (w.heap.size + 1) #[.int .u32 0, .int .u32 0, .int .u32 0, .slice none 0 0] #[.int .u32 (una : Nat), .int .u32 (nxt : Nat), .int .u32 (y : Nat), .slice a5 bs.length c5] rfl rfl Z5.out rfl rfl (by simp [Value.oneCell']) ?_; intro V7 hb7 hg7; have ZB7 := Lib.hid hb7; have Q7 := Lib.hid (Q5.out.grown hg7 (by have := Q5.out.size; omega) (fun k e => by have := Option.some.inj e; omega)); have O7 := Lib.hid (O5.out.grown hg7 (fun g e => by intro e2; have h1 := (O5.out.ownB g (by rw [e]; rfl)).1; have := Option.some.inj e2; omega)); clear hb7 hg7)
      | fail)
    refine bodyPost_ret (results_ct rowPS rfl _ _ (w.heap.size + 1) _ (.int .i64 0) rfl rfl ZB7.out rfl) rfl ⟨?_, Q7.out⟩
    rw [HER.out]
    exact fout_ok una nxt y bs (O7.out.sts encB)

set_option maxRecDepth 100000 in
set_option maxHeartbeats 2000000 in
theorem rresent_any (una nxt high : Nat) (a : Option Addr) (bs : List (Nat × Nat)) (c : Nat) (y : Nat) (w : World) (hu : una < 4294967296) (h : Sts 2 BC Tr w a bs) (hn : a = none → c = 0) (hh : high < 4294967296) (hlen : bs.length ≤ 35184372088832) :
    Calls Try.prog 22 #[.agg #[.int .u32 (una : Nat), .int .u32 (nxt : Nat), .int .u32 (high : Nat), .slice a bs.length c], .int .u32 (y : Nat)] w fun e w' => FOut (reE una nxt high bs y) una nxt y bs e w' ∧ Below w.heap.size w w' := by
  have HL := Lib.hid h
  have wy := pl_wrap (x := y) hh
  have wn := pl_wrap (x := nxt) hh
  have wy2 := u32_i64 (pl_lt high y)
  have wn2 := u32_i64 (pl_lt high nxt)
  go_enter Try.func22, Try.ntmps22
  go_upto_region 1 with fail
  obtain ⟨x1, x2, x3, x4⟩ := two_b w (.cells #[.int .u32 (una : Nat), .int .u32 (nxt : Nat), .int .u32 (high : Nat), .slice a bs.length c] 25) (.cells #[.int .u32 0, .int .u32 0, .int .u32 0, .slice none 0 0] 25)
  have S0 := Lib.hid x1
  have Z0 := Lib.hid x2
  have Q0 := Lib.hid x4
  clear x1 x2 x3 x4 h
  generalize (w.alloc (.cells #[.int .u32 (una : Nat), .int .u32 (nxt : Nat), .int .u32 (high : Nat), .slice a bs.length c] 25)).alloc (.cells #[.int .u32 0, .int .u32 0, .int .u32 0, .slice none 0 0] 25) = V0 at S0 Z0 Q0 ⊢
  have c0 := blk_cell S0.out 0
  have c1 := blk_cell S0.out 1
  have c2 := blk_cell S0.out 2
  have c3 := blk_cell S0.out 3
  obtain ⟨E0, hE0⟩ : ∃ E, chkE una nxt high bs = E := ⟨_, rfl⟩
  have HE0 := Lib.hid hE0
  clear hE0
  go_wp2_with fail
  refine (rcheck_any una nxt high a bs c V0 hu (Sts.belowT HL.out Q0.out) hlen).mono ?_
  rintro e V1 ⟨rfl, hB⟩
  rw [HE0.out]
  have S1 := Lib.hid ((hB.block _ (blk_lt S0.out)).trans S0.out)
  have Z1 := Lib.hid ((hB.block _ (blk_lt Z0.out)).trans Z0.out)
  have Q1 := Lib.hid (Q0.out.trans (hB.mono Q0.out.size))
  clear hB c0 c1 c2 c3 S0 Z0 Q0
  by_cases hk : okS una nxt high bs = true
  case neg =>
    have hE : E0 = 171 := by rw [← HE0.out]; unfold chkE; rw [if_neg hk]
    have HER : Hid (reE una nxt high bs y = 171) := Lib.hid (by unfold reE; rw [if_neg hk])
    subst hE
    have hz := blk_lt Z1.out
    go_wp2_with (first
      | ((with_reducible show wpList _ _ _ _ _ _); refine wpList_store_blk rowRS (t := 25) (w := V1) rfl (.tmp 4) (.tmp 10) rfl (w.heap.size + 1) #[.int .u32 0, .int .u32 0, .int .u32 0, .slice none 0 0] #[.int .u32 0, .int .u32 0, .int .u32 0, .slice none 0 0] rfl rfl Z1.out rfl rfl (by simp [Value.oneCell']) ?_; intro V7 hb7 hg7; have ZB7 := Lib.hid hb7; have Q7 := Lib.hid (Q1.out.grown hg7 (by have := Q1.out.size; omega) (fun k e => by have := Option.some.inj e; omega)); clear hb7 hg7)
      | fail)
    refine bodyPost_ret (results_ct rowRS rfl _ _ (w.heap.size + 1) _ (.int .i64 171) rfl rfl ZB7.out rfl) rfl ⟨?_, Q7.out⟩
    rw [HER.out]
    exact fout_bad (by decide) _ _ _ _ _
  case pos =>
    have hE : E0 = 0 := by rw [← HE0.out]; unfold chkE; rw [if_pos hk]
    subst hE
    obtain ⟨k1, k2, k3, _⟩ := okS_iff.1 hk
    have hin := pl_in (u := una) (y := y) hh k2
    have HEE : Hid (reE una nxt high bs y = if pl una high ≤ pl una y ∧ pl una y ≤ pl una nxt then 0 else 151) := Lib.hid (by unfold reE; rw [if_pos hk])
    obtain ⟨q1, hq1⟩ : ∃ z, pl high y = z := ⟨_, rfl⟩
    obtain ⟨q2, hq2⟩ : ∃ z, pl high nxt = z := ⟨_, rfl⟩
    rw [hq1] at wy wy2 hin
    rw [hq2] at wn wn2 hin
    have HIN := Lib.hid hin
    clear hk hq1 hq2 hin k1 k2
    have c0 := blk_cell S1.out 0
    have c1 := blk_cell S1.out 1
    have c2 := blk_cell S1.out 2
    have c3 := blk_cell S1.out 3
    by_cases n0 : q2 < q1
    case pos =>
      have d1 : (q2 : Int) < (q1 : Int) := by omega
      have HER : Hid (reE una nxt high bs y = 151) := Lib.hid (by rw [HEE.out, if_neg (fun h => by have := HIN.out.2 h; omega)])
      have hz := blk_lt Z1.out
      go_wp2_with (first
        | ((with_reducible show wpList _ _ _ _ _ _); refine wpList_store_blk rowRS (t := 25) (w := V1) rfl (.tmp 4) (.tmp 24) rfl (w.heap.size + 1) #[.int .u32 0, .int .u32 0, .int .u32 0, .slice none 0 0] #[.int .u32 0, .int .u32 0, .int .u32 0, .slice none 0 0] rfl rfl Z1.out rfl rfl (by simp [Value.oneCell']) ?_; intro V7 hb7 hg7; have ZB7 := Lib.hid hb7; have Q7 := Lib.hid (Q1.out.grown hg7 (by have := Q1.out.size; omega) (fun k e => by have := Option.some.inj e; omega)); clear hb7 hg7)
        | fail)
      refine bodyPost_ret (results_ct rowRS rfl _ _ (w.heap.size + 1) _ (.int .i64 151) rfl rfl ZB7.out rfl) rfl ⟨?_, Q7.out⟩
      rw [HER.out]
      exact fout_bad (by decide) _ _ _ _ _
    case neg =>
    have d1 : ¬ ((q2 : Int) < (q1 : Int)) := by omega
    have HER : Hid (reE una nxt high bs y = 0) := Lib.hid (by rw [HEE.out, if_pos (HIN.out.1 (by omega))])
    clear HEE HIN c0 c1 c2 c3
    have c0 := blk_cell S1.out 0
    have c1 := blk_cell S1.out 1
    have c2 := blk_cell S1.out 2
    have c3 := blk_cell S1.out 3
    go_upto_region 5 with fail
    go_cut [] (fun (W : World) => ∃ (a5 : Option Addr) (c5 : Nat), W.heap[w.heap.size]? = some (.cells #[.int .u32 (una : Nat), .int .u32 (nxt : Nat), .int .u32 (high : Nat), .slice a5 bs.length c5] 25 (0, 0)) ∧ W.heap[w.heap.size + 1]? = some (.cells #[.int .u32 0, .int .u32 0, .int .u32 0, .slice none 0 0] 25 (0, 0)) ∧ Below w.heap.size w W ∧ OwnR 38 2 BC V1.heap.size a5 bs c5 W)
    case first =>
      go_wp2_with fail
      refine (own_any una nxt high a bs c V1 (Sts.belowT HL.out Q1.out) hn (by omega)).mono ?_
      rintro e V3 ⟨⟨a5, c5, rfl, hO⟩, hB⟩
      have S3 := Lib.hid ((hB.block _ (blk_lt S1.out)).trans S1.out)
      have Z3 := Lib.hid ((hB.block _ (blk_lt Z1.out)).trans Z1.out)
      have hz := blk_lt Z1.out
      have Q3 := Lib.hid (Q1.out.trans (hB.mono Q1.out.size))
      have O3 := Lib.hid hO
      clear hB hO c0 c1 c2 c3
      go_wp2_with (first
        | ((with_reducible show wpList _ _ _ _ _ _); refine wpList_store_blk rowRS (t := 25) (w := V3) rfl (.tmp 2) (.tmp 26) rfl (w.heap.size) #[.int .u32 (una : Nat), .int .u32 (nxt : Nat), .int .u32 (high : Nat), .slice a bs.length c] #[.int .u32 (una : Nat), .int .u32 (nxt : Nat), .int .u32 (high : Nat), .slice a5 bs.length c5] rfl rfl S3.out rfl rfl (by simp [Value.oneCell']) ?_; intro V7 hb7 hg7; have ZB7 := Lib.hid hb7; have Q7 := Lib.hid (Q3.out.grown hg7 (by have := Q3.out.size; omega) (fun k e => by have := Option.some.inj e; omega)); have Z7 := Lib.hid ((hg7.block _ (blk_lt Z3.out) (fun e => by have := Option.some.inj e; omega)).trans Z3.out); have O7 := Lib.hid (O3.out.grown hg7 (fun g e => by intro e2; have h1 := (O3.out.ownB g (by rw [e]; rfl)).1; have := Option.some.inj e2; omega)); clear hb7 hg7)
        | fail)
      go_meet
      exact ⟨a5, c5, ZB7.out, Z7.out, Q7.out, O7.out⟩
    case rest =>
    have hz := blk_lt Z1.out
    obtain ⟨a5, c5, hS, hZ, hQ, hO⟩ := hcut
    obtain ⟨V4, hVV⟩ : ∃ V, V = wc := ⟨_, rfl⟩
    subst hVV
    have S4 := Lib.hid hS
    have Z4 := Lib.hid hZ
    have Q4 := Lib.hid hQ
    have O4 := Lib.hid hO
    clear hS hZ hQ hO c0 c1 c2 c3
    have c0 := blk_cell S4.out 0
    have c1 := blk_cell S4.out 1
    have c2 := blk_cell S4.out 2
    have c3 := blk_cell S4.out 3
    have f2 := blk_free S4.out 2
    go_upto_region 7 with fail
    have SF := blk_set S4.out 2 (.int .u32 (y : Nat))
    simp only [List.setIfInBounds_toArray, List.set_cons_zero, List.set_cons_succ] at SF
    have GF := gr_set V4 w.heap.size 2 (.int .u32 (y : Nat))
    have S5 := Lib.hid SF
    have Z5 := Lib.hid ((GF.block _ (blk_lt Z4.out) (fun e => by have := Option.some.inj e; omega)).trans Z4.out)
    have Q5 := Lib.hid (Q4.out.grown GF (by have := Q4.out.size; omega) (fun k e => by have := Option.some.inj e; omega))
    have O5 := Lib.hid (O4.out.grown GF (fun g e => by intro e2; have h1 := (O4.out.ownB g (by rw [e]; rfl)).1; have := Option.some.inj e2; omega))
    clear SF GF c0 c1 c2 c3 f2
    generalize V4.setCell ⟨w.heap.size, 2, none⟩ (.int .u32 (y : Nat)) = V5 at S5 Z5 Q5 O5 ⊢
    have c0 := blk_cell S5.out 0
    have c1 := blk_cell S5.out 1
    have c2 := blk_cell S5.out 2
    have c3 := blk_cell S5.out 3
    have hz5 := blk_lt Z5.out
    go_wp2_with (first
      | ((with_reducible show wpList _ _ _ _ _ _); refine wpList_store_blk rowRS (t := 25) (w := V5) rfl (.tmp 4) (.tmp 29) rfl (w.heap.size + 1) #[.int .u32 0, .int .u32 0, .int .u32 0, .slice none 0 0] #[.int .u32 (una : Nat), .int .u32 (nxt : Nat), .int .u32 (y : Nat), .slice a5 bs.length c5] rfl rfl Z5.out rfl rfl (by simp [Value.oneCell']) ?_; intro V7 hb7 hg7; have ZB7 := Lib.hid hb7; have Q7 := Lib.hid (Q5.out.grown hg7 (by have := Q5.out.size; omega) (fun k e => by have := Option.some.inj e; omega)); have O7 := Lib.hid (O5.out.grown hg7 (fun g e => by intro e2; have h1 := (O5.out.ownB g (by rw [e]; rfl)).1; have := Option.some.inj e2; omega)); clear hb7 hg7)
      | fail)
    refine bodyPost_ret (results_ct rowRS rfl _ _ (w.heap.size + 1) _ (.int .i64 0) rfl rfl ZB7.out rfl) rfl ⟨?_, Q7.out⟩
    rw [HER.out]
    exact fout_ok una nxt y bs (O7.out.sts encB)
end Go.Proofs.Ytcachmjcninkbaa
