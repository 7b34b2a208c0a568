/- Scoreboard: Sent, Resent, Timeout, on both sides. -/
import Derived.Test.YtcachmjcninkbaaScT
import Derived.Lib.SliceRun
namespace Go.Proofs.Ytcachmjcninkbaa
open Go.RowKit

set_option maxRecDepth 100000 in
set_option maxHeartbeats 1000000 in
theorem clone_blk (a : Option Addr) (l : List (Nat × Nat)) (cap : Nat) (w : World) (h : Sts 2 BC Tr w a l) (hn : a = none → cap = 0) (hl : l.length ≤ 1000000) :
    Calls Try.prog 47 #[.slice a l.length cap] w fun e w' => (∃ a' c', e = .returned (.slice a' l.length c') ∧ OwnR 38 2 BC w.heap.size a' l c' w') ∧ Below w.heap.size w w' := by
  cases a with
  | none =>
    obtain rfl : l = [] := by rcases h.2 with h | ⟨_, _, h, _⟩
                              · exact h
                              · cases h
    obtain rfl := hn rfl
    clear h hn hl
    have hEq : ∀ W, (binOp .eql 23 (.slice none 0 0) (.slice none 0 0)).run Try.prog W = .ok (.bool true) W := fun W => Lib.run_eql_slice_nil W _ _ none 0 0 0 0 elemBk.und
    go_enter Try.func47, Try.ntmps47
    go_wp2
    go_ret
    exact ⟨⟨none, 0, rfl, ownR_nil _ _ _ _ _⟩, Below.refl _ _⟩
  | some ad =>
    have bal : ∀ (W : World) (o : Obj), Below W.heap.size W (W.alloc o) := fun W o => (Below.refl W.heap.size W).alloc (Nat.le_refl _) o
    have HL := Lib.hid h
    clear h hn
    have hEq : ∀ W, (binOp .eql 23 (.slice (some ad) l.length cap) (.slice none 0 0)).run Try.prog W = .ok (.bool false) W := fun W => Lib.run_eql_slice_nil W _ _ (some ad) l.length cap 0 0 elemBk.und
    go_enter Try.func47, Try.ntmps47
    go_wp2_with (first
      | (refine wpList_append_r (t := 23) (e := 38) (z := .agg #[.int .u32 0, .int .u32 0]) (m := 2) (bz := 8) (cells := BC) (xs := ([] : List (Nat × Nat))) (ys := l) (cap := 0) (a := some ⟨w.heap.size, 0, none⟩) (b := some ad) (dap := cap) (n := l.length) rfl elemBk encB (.tmp 5) (.tmp 6) rfl w.heap.size rfl ?_ ?_ ?_ ?_ ?_ ?_ ?_ ?_ ?_; exact ownR_new encB 38 w [] (by simp); exact HL.out.belowT (bal w _); (intro e; cases e); rfl; rfl; (simp only [List.length_nil]; omega); (unfold maxLen; simp only [List.length_nil]; omega); exact (bal w (.cells #[] 38)).size; intro a2 c2 W1 O1 b1 g1; have O2 := Lib.hid O1; have Q2 := Lib.hid ((bal w (.cells #[] 38)).trans b1); clear O1 b1 g1)
      | fail)
    go_ret
    exact ⟨⟨a2, c2, rfl, O2.out⟩, Q2.out⟩

/-- What follows: nothing, where it is refused. -/
def oU (E : Int) (u : Nat) : Nat := if E = 0 then u else 0
def oL (E : Int) (l : List (Nat × Nat)) : List (Nat × Nat) := if E = 0 then l else []
theorem oU0 {E : Int} (h : E = 0) (u : Nat) : oU E u = u := by unfold oU; rw [if_pos h]
theorem oL0 {E : Int} (h : E = 0) (l : List (Nat × Nat)) : oL E l = l := by unfold oL; rw [if_pos h]
theorem oU1 {E : Int} (h : E ≠ 0) (u : Nat) : oU E u = 0 := by unfold oU; rw [if_neg h]
theorem oL1 {E : Int} (h : E ≠ 0) (l : List (Nat × Nat)) : oL E l = [] := by unfold oL; rw [if_neg h]
def FOut (E : Int) (u x h : Nat) (l : List (Nat × Nat)) (e : Ending) (w' : World) : Prop := ∃ a' c', e = .returned (.tuple #[.agg #[.int .u32 (oU E u : Nat), .int .u32 (oU E x : Nat), .int .u32 (oU E h : Nat), .slice a' (oL E l).length c'], .int .i64 E]) ∧ Sts 2 BC Tr w' a' (oL E l)
theorem fout_bad {E : Int} (h : E ≠ 0) (u x hh : Nat) (l : List (Nat × Nat)) (w' : World) : FOut E u x hh l (.returned (.tuple #[.agg #[.int .u32 0, .int .u32 0, .int .u32 0, .slice none 0 0], .int .i64 E])) w' := by
  refine ⟨none, 0, ?_, ?_⟩
  · rw [oU1 h, oU1 h, oU1 h, oL1 h]; rfl
  · rw [oL1 h]; exact ⟨fun _ _ => trivial, .inl rfl⟩
theorem fout_ok (u x hh : Nat) (l : List (Nat × Nat)) {a' : Option Addr} {c' : Nat} {w' : World} (h : Sts 2 BC Tr w' a' l) : FOut 0 u x hh l (.returned (.tuple #[.agg #[.int .u32 (u : Nat), .int .u32 (x : Nat), .int .u32 (hh : Nat), .slice a' l.length c'], .int .i64 0])) w' := by
  refine ⟨a', c', ?_, ?_⟩
  · rw [oU0 rfl, oU0 rfl, oU0 rfl, oL0 rfl]
  · rw [oL0 rfl]; exact h

set_option maxRecDepth 100000 in
set_option maxHeartbeats 1000000 in
theorem ptimeout_any (una nxt high : Nat) (a : Option Addr) (bs : List (Nat × Nat)) (c : Nat) (w : World) (hu : una < 4294967296) (h : Sts 2 BC Tr w a bs) (hlen : bs.length ≤ 35184372088832) :
    Calls Try.prog 23 #[.agg #[.int .u32 (una : Nat), .int .u32 (nxt : Nat), .int .u32 (high : Nat), .slice a bs.length c]] w fun e w' => FOut (chkE una nxt high bs) una nxt una [] e w' ∧ Below w.heap.size w w' := by
  have HL := Lib.hid h
  go_enter Try.func23, Try.ntmps23
  go_upto_region 1 with fail
  obtain ⟨x1, x2, x3, x4⟩ := two_b w (.cells #[.int .u32 (una : Nat), .int .u32 (nxt : Nat), .int .u32 (high : Nat), .slice a bs.length c] 26) (.cells #[.int .u32 0, .int .u32 0, .int .u32 0, .slice none 0 0] 26)
  have S0 := Lib.hid x1
  have Z0 := Lib.hid x2
  have Q0 := Lib.hid x4
  clear x1 x2 x3 x4 h
  generalize (w.alloc (.cells #[.int .u32 (una : Nat), .int .u32 (nxt : Nat), .int .u32 (high : Nat), .slice a bs.length c] 26)).alloc (.cells #[.int .u32 0, .int .u32 0, .int .u32 0, .slice none 0 0] 26) = V0 at S0 Z0 Q0 ⊢
  have c0 := blk_cell S0.out 0
  have c1 := blk_cell S0.out 1
  have c2 := blk_cell S0.out 2
  have c3 := blk_cell S0.out 3
  obtain ⟨E0, hE0⟩ : ∃ E, chkE una nxt high bs = E := ⟨_, rfl⟩
  have HE0 := Lib.hid hE0
  clear hE0
  go_wp2_with fail
  refine (check_all una nxt high a bs c V0 hu (Sts.belowT HL.out Q0.out) hlen).mono ?_
  rintro e V1 ⟨rfl, hB⟩
  rw [HE0.out]
  have S1 := Lib.hid ((hB.block _ (blk_lt S0.out)).trans S0.out)
  have Z1 := Lib.hid ((hB.block _ (blk_lt Z0.out)).trans Z0.out)
  have Q1 := Lib.hid (Q0.out.trans (hB.mono Q0.out.size))
  clear hB c0 c1 c2 c3 S0 Z0 Q0
  by_cases hk : okS una nxt high bs = true
  case neg =>
    have hE : E0 = 171 := by rw [← HE0.out]; unfold chkE; rw [if_neg hk]
    subst hE
    have HER := HE0
    have hz := blk_lt Z1.out
    go_wp2_with (first
      | ((with_reducible show wpList _ _ _ _ _ _); refine wpList_store_blk rowPS (t := 26) (w := V1) rfl (.tmp 2) (.tmp 9) rfl (w.heap.size + 1) #[.int .u32 0, .int .u32 0, .int .u32 0, .slice none 0 0] #[.int .u32 0, .int .u32 0, .int .u32 0, .slice none 0 0] rfl rfl Z1.out rfl rfl (by simp [Value.oneCell']) ?_; intro V7 hb7 hg7; have ZB7 := Lib.hid hb7; have Q7 := Lib.hid (Q1.out.grown hg7 (by have := Q1.out.size; omega) (fun k e => by have := Option.some.inj e; omega)); clear hb7 hg7)
      | fail)
    refine bodyPost_ret (results_ct rowPS rfl _ _ (w.heap.size + 1) _ (.int .i64 171) rfl rfl ZB7.out rfl) rfl ⟨?_, Q7.out⟩
    rw [HER.out]
    exact fout_bad (by decide) _ _ _ _ _
  case pos =>
    have hE : E0 = 0 := by rw [← HE0.out]; unfold chkE; rw [if_pos hk]
    subst hE
    have c0 := blk_cell S1.out 0
    have c1 := blk_cell S1.out 1
    have c2 := blk_cell S1.out 2
    have c3 := blk_cell S1.out 3
    have f2 := blk_free S1.out 2
    have f3 := blk_free S1.out 3
    have SF := blk_set (blk_set S1.out 2 (.int .u32 (una : Nat))) 3 (.slice none 0 0)
    simp only [List.setIfInBounds_toArray, List.set_cons_zero, List.set_cons_succ] at SF
    have GF := gr_trans (gr_set V1 w.heap.size 2 (.int .u32 (una : Nat))) (gr_set _ w.heap.size 3 (.slice none 0 0))
    have S2 := Lib.hid SF
    have Z2 := Lib.hid ((GF.block _ (blk_lt Z1.out) (fun e => by have := Option.some.inj e; omega)).trans Z1.out)
    have Q2 := Lib.hid (Q1.out.grown GF (by have := Q1.out.size; omega) (fun k e => by have := Option.some.inj e; omega))
    clear SF GF
    go_upto_region 6 with fail
    generalize (V1.setCell ⟨w.heap.size, 2, none⟩ (.int .u32 (una : Nat))).setCell ⟨w.heap.size, 3, none⟩ (.slice none 0 0) = V2 at S2 Z2 Q2 ⊢
    clear c0 c1 c2 c3 f2 f3
    have c0 := blk_cell S2.out 0
    have c1 := blk_cell S2.out 1
    have c2 := blk_cell S2.out 2
    have c3 := blk_cell S2.out 3
    have hz := blk_lt Z2.out
    go_wp2_with (first
      | ((with_reducible show wpList _ _ _ _ _ _); refine wpList_store_blk rowPS (t := 26) (w := V2) rfl (.tmp 2) (.tmp 15) rfl (w.heap.size + 1) #[.int .u32 0, .int .u32 0, .int .u32 0, .slice none 0 0] #[.int .u32 (una : Nat), .int .u32 (nxt : Nat), .int .u32 (una : Nat), .slice none 0 0] rfl rfl Z2.out rfl rfl (by simp [Value.oneCell']) ?_; intro V7 hb7 hg7; have ZB7 := Lib.hid hb7; have Q7 := Lib.hid (Q2.out.grown hg7 (by have := Q2.out.size; omega) (fun k e => by have := Option.some.inj e; omega)); clear hb7 hg7)
      | fail)
    refine bodyPost_ret (results_ct rowPS rfl _ _ (w.heap.size + 1) _ (.int .i64 0) rfl rfl ZB7.out rfl) rfl ⟨?_, Q7.out⟩
    rw [HE0.out]
    exact fout_ok una nxt una [] ⟨fun _ _ => trivial, .inl rfl⟩

set_option maxRecDepth 100000 in
set_option maxHeartbeats 1000000 in
theorem rtimeout_any (una nxt high : Nat) (a : Option Addr) (bs : List (Nat × Nat)) (c : Nat) (w : World) (hu : una < 4294967296) (h : Sts 2 BC Tr w a bs) (hlen : bs.length ≤ 35184372088832) :
    Calls Try.prog 24 #[.agg #[.int .u32 (una : Nat), .int .u32 (nxt : Nat), .int .u32 (high : Nat), .slice a bs.length c]] w fun e w' => FOut (chkE una nxt high bs) una nxt una [] e w' ∧ Below w.heap.size w w' := by
  have HL := Lib.hid h
  go_enter Try.func24, Try.ntmps24
  go_upto_region 1 with fail
  obtain ⟨x1, x2, x3, x4⟩ := two_b w (.cells #[.int .u32 (una : Nat), .int .u32 (nxt : Nat), .int .u32 (high : Nat), .slice a bs.length c] 25) (.cells #[.int .u32 0, .int .u32 0, .int .u32 0, .slice none 0 0] 25)
  have S0 := Lib.hid x1
  have Z0 := Lib.hid x2
  have Q0 := Lib.hid x4
  clear x1 x2 x3 x4 h
  generalize (w.alloc (.cells #[.int .u32 (una : Nat), .int .u32 (nxt : Nat), .int .u32 (high : Nat), .slice a bs.length c] 25)).alloc (.cells #[.int .u32 0, .int .u32 0, .int .u32 0, .slice none 0 0] 25) = V0 at S0 Z0 Q0 ⊢
  have c0 := blk_cell S0.out 0
  have c1 := blk_cell S0.out 1
  have c2 := blk_cell S0.out 2
  have c3 := blk_cell S0.out 3
  obtain ⟨E0, hE0⟩ : ∃ E, chkE una nxt high bs = E := ⟨_, rfl⟩
  have HE0 := Lib.hid hE0
  clear hE0
  go_wp2_with fail
  refine (rcheck_any una nxt high a bs c V0 hu (Sts.belowT HL.out Q0.out) hlen).mono ?_
  rintro e V1 ⟨rfl, hB⟩
  rw [HE0.out]
  have S1 := Lib.hid ((hB.block _ (blk_lt S0.out)).trans S0.out)
  have Z1 := Lib.hid ((hB.block _ (blk_lt Z0.out)).trans Z0.out)
  have Q1 := Lib.hid (Q0.out.trans (hB.mono Q0.out.size))
  clear hB c0 c1 c2 c3 S0 Z0 Q0
  by_cases hk : okS una nxt high bs = true
  case neg =>
    have hE : E0 = 171 := by rw [← HE0.out]; unfold chkE; rw [if_neg hk]
    subst hE
    have HER := HE0
    have hz := blk_lt Z1.out
    go_wp2_with (first
      | ((with_reducible show wpList _ _ _ _ _ _); refine wpList_store_blk rowRS (t := 25) (w := V1) rfl (.tmp 2) (.tmp 7) rfl (w.heap.size + 1) #[.int .u32 0, .int .u32 0, .int .u32 0, .slice none 0 0] #[.int .u32 0, .int .u32 0, .int .u32 0, .slice none 0 0] rfl rfl Z1.out rfl rfl (by simp [Value.oneCell']) ?_; intro V7 hb7 hg7; have ZB7 := Lib.hid hb7; have Q7 := Lib.hid (Q1.out.grown hg7 (by have := Q1.out.size; omega) (fun k e => by have := Option.some.inj e; omega)); clear hb7 hg7)
      | fail)
    refine bodyPost_ret (results_ct rowRS rfl _ _ (w.heap.size + 1) _ (.int .i64 171) rfl rfl ZB7.out rfl) rfl ⟨?_, Q7.out⟩
    rw [HER.out]
    exact fout_bad (by decide) _ _ _ _ _
  case pos =>
    have hE : E0 = 0 := by rw [← HE0.out]; unfold chkE; rw [if_pos hk]
    subst hE
    have c0 := blk_cell S1.out 0
    have c1 := blk_cell S1.out 1
    have c2 := blk_cell S1.out 2
    have c3 := blk_cell S1.out 3
    have f2 := blk_free S1.out 2
    have f3 := blk_free S1.out 3
    have SF := blk_set (blk_set S1.out 2 (.int .u32 (una : Nat))) 3 (.slice none 0 0)
    simp only [List.setIfInBounds_toArray, List.set_cons_zero, List.set_cons_succ] at SF
    have GF := gr_trans (gr_set V1 w.heap.size 2 (.int .u32 (una : Nat))) (gr_set _ w.heap.size 3 (.slice none 0 0))
    have S2 := Lib.hid SF
    have Z2 := Lib.hid ((GF.block _ (blk_lt Z1.out) (fun e => by have := Option.some.inj e; omega)).trans Z1.out)
    have Q2 := Lib.hid (Q1.out.grown GF (by have := Q1.out.size; omega) (fun k e => by have := Option.some.inj e; omega))
    clear SF GF
    go_upto_region 4 with fail
    generalize (V1.setCell ⟨w.heap.size, 2, none⟩ (.int .u32 (una : Nat))).setCell ⟨w.heap.size, 3, none⟩ (.slice none 0 0) = V2 at S2 Z2 Q2 ⊢
    clear c0 c1 c2 c3 f2 f3
    have c0 := blk_cell S2.out 0
    have c1 := blk_cell S2.out 1
    have c2 := blk_cell S2.out 2
    have c3 := blk_cell S2.out 3
    have hz := blk_lt Z2.out
    go_wp2_with (first
      | ((with_reducible show wpList _ _ _ _ _ _); refine wpList_store_blk rowRS (t := 25) (w := V2) rfl (.tmp 2) (.tmp 12) rfl (w.heap.size + 1) #[.int .u32 0, .int .u32 0, .int .u32 0, .slice none 0 0] #[.int .u32 (una : Nat), .int .u32 (nxt : Nat), .int .u32 (una : Nat), .slice none 0 0] rfl rfl Z2.out rfl rfl (by simp [Value.oneCell']) ?_; intro V7 hb7 hg7; have ZB7 := Lib.hid hb7; have Q7 := Lib.hid (Q2.out.grown hg7 (by have := Q2.out.size; omega) (fun k e => by have := Option.some.inj e; omega)); clear hb7 hg7)
      | fail)
    refine bodyPost_ret (results_ct rowRS rfl _ _ (w.heap.size + 1) _ (.int .i64 0) rfl rfl ZB7.out rfl) rfl ⟨?_, Q7.out⟩
    rw [HE0.out]
    exact fout_ok una nxt una [] ⟨fun _ _ => trivial, .inl rfl⟩
end Go.Proofs.Ytcachmjcninkbaa
