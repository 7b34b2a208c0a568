/- Scoreboard: Sent, whose list is one's own; copies of blocks; a block stored. -/
import Derived.Test.YtcachmjcninkbaaScAk
import Derived.Test.YtcachmjcninkbaaGSameBlkA
namespace Go.Proofs.Ytcachmjcninkbaa
open Go.RowKit

def FOwn (B : Nat) (E : Int) (u x h : Nat) (l : List (Nat × Nat)) (e : Ending) (w' : World) : Prop := ∃ a' c', e = .returned (.tuple #[.agg #[.int .u32 (oU E u : Nat), .int .u32 (oU E x : Nat), .int .u32 (oU E h : Nat), .slice a' (oL E l).length c'], .int .i64 E]) ∧ OwnR 38 2 BC B a' (oL E l) c' w'
theorem fown_bad {E : Int} (h : E ≠ 0) (B u x hh : Nat) (l : List (Nat × Nat)) (w' : World) : FOwn B E u x hh l (.returned (.tuple #[.agg #[.int .u32 0, .int .u32 0, .int .u32 0, .slice none 0 0], .int .i64 E])) w' := by
  refine ⟨none, 0, ?_, ?_⟩
  · rw [oU1 h, oU1 h, oU1 h, oL1 h]; rfl
  · rw [oL1 h]; exact ownR_nil _ _ _ _ _
theorem fown_ok {B : Nat} (u x hh : Nat) (l : List (Nat × Nat)) {a' : Option Addr} {c' : Nat} {w' : World} (h : OwnR 38 2 BC B a' l c' w') : FOwn B 0 u x hh l (.returned (.tuple #[.agg #[.int .u32 (u : Nat), .int .u32 (x : Nat), .int .u32 (hh : Nat), .slice a' l.length c'], .int .i64 0])) w' := by
  refine ⟨a', c', ?_, ?_⟩
  · rw [oU0 rfl, oU0 rfl, oU0 rfl, oL0 rfl]
  · rw [oL0 rfl]; exact h

set_option maxRecDepth 100000 in
set_option maxHeartbeats 2000000 in
theorem psent_own (una nxt high : Nat) (a : Option Addr) (bs : List (Nat × Nat)) (c : Nat) (n : Int) (w : World) (hu : una < 4294967296) (h : Sts 2 BC Tr w a bs) (hn : a = none → c = 0) (hlen : bs.length ≤ 35184372088832) :
    Calls Try.prog 19 #[.agg #[.int .u32 (una : Nat), .int .u32 (nxt : Nat), .int .u32 (high : Nat), .slice a bs.length c], .int .i64 n] w fun e w' => FOwn w.heap.size (snE una nxt high bs n) una ((nxt + n.toNat) % 4294967296) high bs e w' ∧ Below w.heap.size w w' := by
  have HL := Lib.hid h
  have HPN := Lib.hid (fun V => place_any una nxt high a bs.length c nxt V hu)
  go_enter Try.func19, Try.ntmps19
  go_upto_region 1 with fail
  obtain ⟨x1, x2, x3, x4⟩ := two_b w (.cells #[.int .u32 (una : Nat), .int .u32 (nxt : Nat), .int .u32 (high : Nat), .slice a bs.length c] 26) (.cells #[.int .u32 0, .int .u32 0, .int .u32 0, .slice none 0 0] 26)
  have S0 := Lib.hid x1
  have Z0 := Lib.hid x2
  have Q0 := Lib.hid x4
  clear x1 x2 x3 x4 h
  generalize (w.alloc (.cells #[.int .u32 (una : Nat), .int .u32 (nxt : Nat), .int .u32 (high : Nat), .slice a bs.length c] 26)).alloc (.cells #[.int .u32 0, .int .u32 0, .int .u32 0, .slice none 0 0] 26) = V0 at S0 Z0 Q0 ⊢
  have c0 := blk_cell S0.out 0
  have c1 := blk_cell S0.out 1
  have c2 := blk_cell S0.out 2
  have c3 := blk_cell S0.out 3
  obtain ⟨E0, hE0⟩ : ∃ E, chkE una nxt high bs = E := ⟨_, rfl⟩
  have HE0 := Lib.hid hE0
  clear hE0
  go_wp2_with fail
  refine (check_all una nxt high a bs c V0 hu (Sts.belowT HL.out Q0.out) hlen).mono ?_
  rintro e V1 ⟨rfl, hB⟩
  rw [HE0.out]
  have S1 := Lib.hid ((hB.block _ (blk_lt S0.out)).trans S0.out)
  have Z1 := Lib.hid ((hB.block _ (blk_lt Z0.out)).trans Z0.out)
  have Q1 := Lib.hid (Q0.out.trans (hB.mono Q0.out.size))
  clear hB c0 c1 c2 c3 S0 Z0 Q0
  by_cases hk : okS una nxt high bs = true
  case neg =>
    have hE : E0 = 171 := by rw [← HE0.out]; unfold chkE; rw [if_neg hk]
    have HER : Hid (snE una nxt high bs n = 171) := Lib.hid (by unfold snE; rw [if_neg hk])
    subst hE
    have hz := blk_lt Z1.out
    go_wp2_with (first
      | ((with_reducible show wpList _ _ _ _ _ _); refine wpList_store_blk rowPS (t := 26) (w := V1) rfl (.tmp 4) (.tmp 11) rfl (w.heap.size + 1) #[.int .u32 0, .int .u32 0, .int .u32 0, .slice none 0 0] #[.int .u32 0, .int .u32 0, .int .u32 0, .slice none 0 0] rfl rfl Z1.out rfl rfl (by simp [Value.oneCell']) ?_; intro V7 hb7 hg7; have ZB7 := Lib.hid hb7; have Q7 := Lib.hid (Q1.out.grown hg7 (by have := Q1.out.size; omega) (fun k e => by have := Option.some.inj e; omega)); clear hb7 hg7)
      | fail)
    refine bodyPost_ret (results_ct rowPS rfl _ _ (w.heap.size + 1) _ (.int .i64 171) rfl rfl ZB7.out rfl) rfl ⟨?_, Q7.out⟩
    rw [HER.out]
    exact fown_bad (by decide) _ _ _ _ _ _
  case pos =>
    have hE : E0 = 0 := by rw [← HE0.out]; unfold chkE; rw [if_pos hk]
    subst hE
    obtain ⟨k1, k2, k3, _⟩ := okS_iff.1 hk
    obtain ⟨st, hst⟩ : ∃ z, pl una nxt = z := ⟨_, rfl⟩
    have HEE : Hid (snE una nxt high bs n = if 0 ≤ n ∧ n ≤ 1073741824 - (st : Int) then 0 else 4) := Lib.hid (by unfold snE; rw [if_pos hk, hst])
    rw [hst] at k1 HPN
    clear hk hst
    by_cases n0 : n < 0
    case pos =>
      have HER : Hid (snE una nxt high bs n = 4) := Lib.hid (by rw [HEE.out, if_neg (by omega)])
      have hz := blk_lt Z1.out
      go_wp2_with (first
        | ((with_reducible show wpList _ _ _ _ _ _); refine wpList_store_blk rowPS (t := 26) (w := V1) rfl (.tmp 4) (.tmp 24) rfl (w.heap.size + 1) #[.int .u32 0, .int .u32 0, .int .u32 0, .slice none 0 0] #[.int .u32 0, .int .u32 0, .int .u32 0, .slice none 0 0] rfl rfl Z1.out rfl rfl (by simp [Value.oneCell']) ?_; intro V7 hb7 hg7; have ZB7 := Lib.hid hb7; have Q7 := Lib.hid (Q1.out.grown hg7 (by have := Q1.out.size; omega) (fun k e => by have := Option.some.inj e; omega)); clear hb7 hg7)
        | fail)
      refine bodyPost_ret (results_ct rowPS rfl _ _ (w.heap.size + 1) _ (.int .i64 4) rfl rfl ZB7.out rfl) rfl ⟨?_, Q7.out⟩
      rw [HER.out]
      exact fown_bad (by decide) _ _ _ _ _ _
    case neg =>
    have c0 := blk_cell S1.out 0
    have c1 := blk_cell S1.out 1
    have c2 := blk_cell S1.out 2
    have c3 := blk_cell S1.out 3
    go_wp2_with fail
    refine (HPN.out V1).mono ?_
    rintro e V2 ⟨rfl, hB⟩
    have S2 := Lib.hid ((hB.block _ (blk_lt S1.out)).trans S1.out)
    have Z2 := Lib.hid ((hB.block _ (blk_lt Z1.out)).trans Z1.out)
    have Q2 := Lib.hid (Q1.out.trans (hB.mono Q1.out.size))
    clear hB c0 c1 c2 c3 S1 Z1 Q1
    have w1 : IntKind.i64.wrap (1073741824 - (st : Int)) = 1073741824 - (st : Int) := IntWalk.i64_in _ ⟨by omega, by omega⟩
    by_cases n1 : 1073741824 - (st : Int) < n
    case pos =>
      have HER : Hid (snE una nxt high bs n = 4) := Lib.hid (by rw [HEE.out, if_neg (by omega)])
      have hz := blk_lt Z2.out
      go_wp2_with (first
        | ((with_reducible show wpList _ _ _ _ _ _); refine wpList_store_blk rowPS (t := 26) (w := V2) rfl (.tmp 4) (.tmp 24) rfl (w.heap.size + 1) #[.int .u32 0, .int .u32 0, .int .u32 0, .slice none 0 0] #[.int .u32 0, .int .u32 0, .int .u32 0, .slice none 0 0] rfl rfl Z2.out rfl rfl (by simp [Value.oneCell']) ?_; intro V7 hb7 hg7; have ZB7 := Lib.hid hb7; have Q7 := Lib.hid (Q2.out.grown hg7 (by have := Q2.out.size; omega) (fun k e => by have := Option.some.inj e; omega)); clear hb7 hg7)
        | fail)
      refine bodyPost_ret (results_ct rowPS rfl _ _ (w.heap.size + 1) _ (.int .i64 4) rfl rfl ZB7.out rfl) rfl ⟨?_, Q7.out⟩
      rw [HER.out]
      exact fown_bad (by decide) _ _ _ _ _ _
    case neg =>
    have HER : Hid (snE una nxt high bs n = 0) := Lib.hid (by rw [HEE.out, if_pos (by omega)])
    have w2 : IntKind.u32.wrap n = n := by rw [IntKind.wrap_u32]; omega
    obtain ⟨X, hX⟩ : ∃ z, (nxt + n.toNat) % 4294967296 = z := ⟨_, rfl⟩
    have w3 : IntKind.u32.wrap ((nxt : Int) + n) = (X : Int) := by rw [IntKind.wrap_u32]; omega
    have HX := Lib.hid hX
    clear hX HEE
    have c0 := blk_cell S2.out 0
    have c1 := blk_cell S2.out 1
    have c2 := blk_cell S2.out 2
    have c3 := blk_cell S2.out 3
    have f1 := blk_free S2.out 1
    have hz := blk_lt Z2.out
    go_upto_region 7 with fail
    have SF := blk_set S2.out 1 (.int .u32 (X : Nat))
    simp only [List.setIfInBounds_toArray, List.set_cons_zero, List.set_cons_succ] at SF
    have GF := gr_set V2 w.heap.size 1 (.int .u32 (X : Nat))
    have S3 := Lib.hid SF
    have Z3 := Lib.hid ((GF.block _ (blk_lt Z2.out) (fun e => by have := Option.some.inj e; omega)).trans Z2.out)
    have Q3 := Lib.hid (Q2.out.grown GF (by have := Q2.out.size; omega) (fun k e => by have := Option.some.inj e; omega))
    have hz3 : w.heap.size + 1 < (V2.setCell ⟨w.heap.size, 1, none⟩ (.int .u32 (X : Nat))).heap.size := blk_lt Z3.out
    clear SF GF c0 c1 c2 c3 f1 hz
    generalize V2.setCell ⟨w.heap.size, 1, none⟩ (.int .u32 (X : Nat)) = V3 at S3 Z3 Q3 hz3 ⊢
    have c3 := blk_cell S3.out 3
    go_wp2_with fail
    refine (clone_blk a bs c V3 (Sts.belowT HL.out Q3.out) hn (by omega)).mono ?_
    rintro e V4 ⟨⟨a5, c5, rfl, hO⟩, hB⟩
    have S4 := Lib.hid ((hB.block _ (blk_lt S3.out)).trans S3.out)
    have Z4 := Lib.hid ((hB.block _ (blk_lt Z3.out)).trans Z3.out)
    have Q4 := Lib.hid (Q3.out.trans (hB.mono Q3.out.size))
    have O4 := Lib.hid hO
    clear hB hO c3
    have c0 := blk_cell S4.out 0
    have c1 := blk_cell S4.out 1
    have c2 := blk_cell S4.out 2
    have c3 := blk_cell S4.out 3
    have f3 := blk_free S4.out 3
    go_upto_region 8 with fail
    have SF := blk_set S4.out 3 (.slice a5 bs.length c5)
    simp only [List.setIfInBounds_toArray, List.set_cons_zero, List.set_cons_succ] at SF
    have GF := gr_set V4 w.heap.size 3 (.slice a5 bs.length c5)
    have S5 := Lib.hid SF
    have Z5 := Lib.hid ((GF.block _ (blk_lt Z4.out) (fun e => by have := Option.some.inj e; omega)).trans Z4.out)
    have Q5 := Lib.hid (Q4.out.grown GF (by have := Q4.out.size; omega) (fun k e => by have := Option.some.inj e; omega))
    have O5 := Lib.hid (O4.out.grown GF (fun g e => by intro e2; have h1 := (O4.out.ownB g (by rw [e]; rfl)).1; have := Option.some.inj e2; omega))
    clear SF GF c0 c1 c2 c3 f3
    generalize V4.setCell ⟨w.heap.size, 3, none⟩ (.slice a5 bs.length c5) = V5 at S5 Z5 Q5 O5 ⊢
    have c0 := blk_cell S5.out 0
    have c1 := blk_cell S5.out 1
    have c2 := blk_cell S5.out 2
    have c3 := blk_cell S5.out 3
    have hz5 := blk_lt Z5.out
    go_wp2_with (first
      | ((with_reducible show wpList _ _ _ _ _ _); refine wpList_store_blk rowPS (t := 26) (w := V5) rfl (.tmp 4) (.tmp 35) rfl (w.heap.size + 1) #[.int .u32 0, .int .u32 0, .int .u32 0, .slice none 0 0] #[.int .u32 (una : Nat), .int .u32 (X : Nat), .int .u32 (high : Nat), .slice a5 bs.length c5] rfl rfl Z5.out rfl rfl (by simp [Value.oneCell']) ?_; intro V7 hb7 hg7; have ZB7 := Lib.hid hb7; have Q7 := Lib.hid (Q5.out.grown hg7 (by have := Q5.out.size; omega) (fun k e => by have := Option.some.inj e; omega)); have O7 := Lib.hid (O5.out.grown hg7 (fun g e => by intro e2; have h1 := (O5.out.ownB g (by rw [e]; rfl)).1; have := Option.some.inj e2; omega)); clear hb7 hg7)
      | fail)
    refine bodyPost_ret (results_ct rowPS rfl _ _ (w.heap.size + 1) _ (.int .i64 0) rfl rfl ZB7.out rfl) rfl ⟨?_, Q7.out⟩
    rw [HER.out, HX.out]
    exact fown_ok una X high bs (O7.out.mono (Nat.le_trans Q3.out.size (Nat.le_refl _)))

theorem flat_setB (xs : List (Nat × Nat)) (i : Nat) (p : Nat × Nat) (hi : i < xs.length) : ((xs.flatMap BC).set (i * 2) (.int .u32 (p.1 : Nat))).set (i * 2 + 1) (.int .u32 (p.2 : Nat)) = (xs.set i p).flatMap BC := by
  induction xs generalizing i with
  | nil => simp at hi
  | cons y ys ih =>
    cases i with
    | zero => simp [List.flatMap_cons, BC]
    | succ i =>
      have h := ih i (by simpa using hi)
      have e1 : (i + 1) * 2 = i * 2 + 1 + 1 := by omega
      have e2 : i * 2 + 1 + 1 + 1 = i * 2 + 1 + 1 + 1 := rfl
      rw [List.set_cons_succ, List.flatMap_cons, List.flatMap_cons, ← h, e1]
      simp [BC]
theorem OwnR.setB {e : TypeId} {B g cap : Nat} {xs : List (Nat × Nat)} {w : World} (h : OwnR e 2 BC B (some ⟨g, 0, none⟩) xs cap w) (i : Nat) (p : Nat × Nat) (hi : i < xs.length) :
    OwnR e 2 BC B (some ⟨g, 0, none⟩) (xs.set i p) cap ((w.setCell ⟨g, i * 2, none⟩ (.int .u32 (p.1 : Nat))).setCell ⟨g, i * 2 + 1, none⟩ (.int .u32 (p.2 : Nat))) ∧ w.grownBy ((w.setCell ⟨g, i * 2, none⟩ (.int .u32 (p.1 : Nat))).setCell ⟨g, i * 2 + 1, none⟩ (.int .u32 (p.2 : Nat))) (some g) := by
  rcases h with ⟨h, _⟩ | ⟨g', e', hB, hr⟩
  · cases h
  · cases e'
    have h1 := hr.stored (i * 2) (.int .u32 (p.1 : Nat))
    have h2 := h1.1.stored (i * 2 + 1) (.int .u32 (p.2 : Nat))
    rw [flat_setB xs i p hi] at h2
    refine ⟨.inr ⟨g, rfl, hB, ?_⟩, gr_trans h1.2 h2.2⟩
    rw [List.length_set]; exact h2.1
theorem OwnR.frozenB {e : TypeId} {B g cap : Nat} {xs : List (Nat × Nat)} {w : World} (h : OwnR e 2 BC B (some ⟨g, 0, none⟩) xs cap w) (i : Nat) : w.frozen? ⟨g, i, none⟩ = false := by
  rcases h with ⟨h, _⟩ | ⟨g', e', hB, hr⟩
  · cases h
  · cases e'; exact hr.frozenAt i
set_option maxHeartbeats 400000 in
theorem copy_bl (a : Option Addr) (l : List (Nat × Nat)) (cap : Nat) (w : World) (h : Sts 2 BC Tr w a l) (hl : l.length ≤ 4194304) (hn : a = none → cap = 0) :
    Calls Try.prog 30 #[.slice a l.length cap] w fun e w' => (∃ a' c', e = .returned (.slice a' l.length c') ∧ OwnR 38 2 BC w.heap.size a' l c' w') ∧ Below w.heap.size w w' := by
  go_enter Try.func30, Try.ntmps30
  go_wp2_with (first
    | ((with_reducible show wpList _ _ _ _ _ _); refine wpList_append_r (w := w) (t := 23) (e := 38) (z := .agg #[.int .u32 0, .int .u32 0]) (m := 2) (bz := 8) (cells := BC) (xs := ([] : List (Nat × Nat))) (ys := l) (cap := 0) (dap := cap) (n := l.length) (a := none) (b := a) rfl elemBk encB _ _ rfl w.heap.size rfl ?_ ?_ ?_ ?_ ?_ ?_ ?_ ?_ ?_; exact ownR_nil _ _ _ _ _; exact h; exact hn; rfl; rfl; (simp only [List.length_nil]; omega); (unfold maxLen; simp only [List.length_nil]; omega); exact Nat.le_refl _; intro a5 c5 V5 O5 b5 g5)
    | fail)
  go_ret
  rw [List.nil_append] at O5
  exact ⟨⟨a5, c5, rfl, O5⟩, b5⟩
theorem ack_small {una nxt high : Nat} {bs : List (Nat × Nat)} {ack : Nat} {fs : List (Nat × Nat)} {E : Int} {u x hh : Nat} {l : List (Nat × Nat)} {n : Int} (h : AckIs una nxt high bs ack fs E u x hh l n) : small2 l := by
  rcases h with ⟨_, _, _, _, _, rfl, _⟩ | ⟨_, _, _, _, _, _, rfl, _⟩ | ⟨_, _, _, _, _, _, s1, s2, af, _, _, _, _, _, rfl, _⟩
  · intro _ h; cases h
  · intro _ h; cases h
  · intro y hy
    obtain ⟨z, _, rfl⟩ := List.mem_map.1 hy
    exact ⟨Nat.mod_lt _ (by decide), Nat.mod_lt _ (by decide)⟩
theorem ack_len {una nxt high : Nat} {bs : List (Nat × Nat)} {ack : Nat} {fs : List (Nat × Nat)} {E : Int} {u x hh : Nat} {l : List (Nat × Nat)} {n : Int} (h : AckIs una nxt high bs ack fs E u x hh l n) : l.length ≤ 1024 := by
  rcases h with ⟨_, _, _, _, _, rfl, _⟩ | ⟨_, _, _, _, _, _, rfl, _⟩ | ⟨hk, _, _, _, _, _, s1, s2, af, _, _, haf, _, _, rfl, _⟩
  · simp
  · simp
  · rw [List.length_map, haf]
    obtain ⟨_, _, k3, _⟩ := okS_iff.1 hk
    split
    · assumption
    · exact Nat.le_trans (left_le _ _) (by rw [sps_len]; exact k3)
end Go.Proofs.Ytcachmjcninkbaa
