/- Scoreboard: a state of one's own; the page's example. -/
import Derived.Test.YtcachmjcninkbaaScN
import Derived.Test.YtcachmjcninkbaaGBlkA
namespace Go.Proofs.Ytcachmjcninkbaa
open Go.RowKit

theorem blk_sts {w : World} {a : Option Addr} {bs : List (Nat × Nat)} (h : Blk w a bs) : Sts 2 BC Tr w a bs := by
  refine ⟨fun _ _ => trivial, ?_⟩
  rcases h.2 with h0 | ⟨b, off, rfl, hb, hc⟩
  · exact .inl h0
  · refine .inr ⟨b, off, rfl, hb, fun i r hr j v hv => ?_⟩
    have hi := (List.getElem?_eq_some_iff.1 hr).1
    have h1 := hc i hi
    rw [List.getD_eq_getElem?_getD, hr] at h1
    rw [Nat.mul_comm i 2]
    have hj : j < 2 := (List.getElem?_eq_some_iff.1 hv).1
    rcases j with _ | _ | j
    · cases hv; exact h1.1
    · cases hv; exact h1.2
    · omega
theorem rowRS : Row 25 4 := ⟨⟨_, Try.underlying25, rfl⟩, by kernel_rfl⟩
theorem rowPS : Row 26 4 := ⟨⟨_, Try.underlying26, rfl⟩, by kernel_rfl⟩
theorem num_any (n : Int) (w : World) : Calls Try.prog 16 #[.int .i64 n] w fun e w' => e = .returned (.int .i64 n) ∧ w = w' := by
  go_enter Try.func16, Try.ntmps16
  go_wp2
  go_ret
  exact ⟨rfl, rfl⟩

set_option maxRecDepth 100000 in
set_option maxHeartbeats 1000000 in
theorem own_any (una nxt high : Nat) (a : Option Addr) (bs : List (Nat × Nat)) (c : Nat) (w : World) (h : Sts 2 BC Tr w a bs) (hn : a = none → c = 0) (hl : bs.length ≤ 17592186043904) :
    Calls Try.prog 32 #[.agg #[.int .u32 (una : Nat), .int .u32 (nxt : Nat), .int .u32 (high : Nat), .slice a bs.length c]] w fun e w' => (∃ a' c', e = .returned (.agg #[.int .u32 (una : Nat), .int .u32 (nxt : Nat), .int .u32 (high : Nat), .slice a' bs.length c']) ∧ OwnR 38 2 BC w.heap.size a' bs c' w') ∧ Below w.heap.size w w' := by
  have HL := Lib.hid h
  have HN := Lib.hid hn
  clear h hn
  go_enter Try.func32, Try.ntmps32
  go_upto_region 2 with fail
  obtain ⟨x1, x2, x3, x4⟩ := two_b w (.cells #[.int .u32 (una : Nat), .int .u32 (nxt : Nat), .int .u32 (high : Nat), .slice a bs.length c] 25) (.cells #[.int .u32 0, .int .u32 0, .int .u32 0, .slice none 0 0] 25)
  have S0 := Lib.hid x1
  have Z0 := Lib.hid x2
  have Q0 := Lib.hid x4
  have hz0 : w.heap.size + 2 ≤ ((w.alloc (.cells #[.int .u32 (una : Nat), .int .u32 (nxt : Nat), .int .u32 (high : Nat), .slice a bs.length c] 25)).alloc (.cells #[.int .u32 0, .int .u32 0, .int .u32 0, .slice none 0 0] 25)).heap.size := by rw [x3]; omega
  clear x1 x2 x3 x4
  generalize (w.alloc (.cells #[.int .u32 (una : Nat), .int .u32 (nxt : Nat), .int .u32 (high : Nat), .slice a bs.length c] 25)).alloc (.cells #[.int .u32 0, .int .u32 0, .int .u32 0, .slice none 0 0] 25) = V0 at S0 Z0 Q0 hz0 ⊢
  have L0 := Lib.hid (Sts.belowT HL.out Q0.out)
  have c3 := blk_cell S0.out 3
  go_wp2_with (first
    | ((with_reducible show wpList _ _ _ _ _ _); refine wpList_append_r (w := V0) (t := 23) (e := 38) (z := .agg #[.int .u32 0, .int .u32 0]) (m := 2) (bz := 8) (cells := BC) (xs := ([] : List (Nat × Nat))) (ys := bs) (cap := 0) (dap := c) (n := bs.length) (a := none) (b := a) rfl elemBk encB (.tmp 4) (.tmp 6) rfl (w.heap.size + 2) rfl ?_ ?_ ?_ ?_ ?_ ?_ ?_ ?_ ?_; exact ownR_nil _ _ _ _ _; exact L0.out; exact HN.out; rfl; rfl; (simp only [List.length_nil]; omega); (unfold maxLen; simp only [List.length_nil]; omega); exact hz0; intro a5 c5 V5 O5 b5 g5; have O5h := Lib.hid (show OwnR 38 2 BC (w.heap.size + 2) a5 bs c5 V5 from O5); have S5 := Lib.hid ((b5.block _ (by omega)).trans S0.out); have Z5 := Lib.hid ((b5.block _ (by omega)).trans Z0.out); have Q5 := Lib.hid (Q0.out.trans (b5.mono (by omega))); have SF := blk_set S5.out 3 (.slice a5 bs.length c5); simp only [List.setIfInBounds_toArray, List.set_cons_zero, List.set_cons_succ] at SF; have GF := gr_set V5 w.heap.size 3 (.slice a5 bs.length c5); have Z6 := Lib.hid ((GF.block _ (blk_lt Z5.out) (fun e => by have := Option.some.inj e; omega)).trans Z5.out); have Q6 := Lib.hid (Q5.out.grown GF (by have := Q5.out.size; omega) (fun k e => by have := Option.some.inj e; omega)); have O6 := Lib.hid (O5h.out.grown GF (fun g e => by intro e2; have h1 := (O5h.out.ownB g (by rw [e]; rfl)).1; have := Option.some.inj e2; omega)); have f3 := blk_free S5.out 3; have c0 := blk_cell S5.out 0; have c1 := blk_cell S5.out 1; have c2 := blk_cell S5.out 2; have c3 := blk_cell S5.out 3; clear O5 b5 g5 SF GF)
    | ((with_reducible show wpList _ _ _ _ _ _); refine wpList_store_blk rowRS (t := 25) (w := V5.setCell ⟨w.heap.size, 3, none⟩ (.slice a5 bs.length c5)) rfl (.tmp 2) (.tmp 9) rfl (w.heap.size + 1) #[.int .u32 0, .int .u32 0, .int .u32 0, .slice none 0 0] #[.int .u32 (una : Nat), .int .u32 (nxt : Nat), .int .u32 (high : Nat), .slice a5 bs.length c5] rfl rfl Z6.out rfl rfl (by simp [Value.oneCell']) ?_; intro V7 hb7 hg7; have ZB7 := Lib.hid hb7; have Q7 := Lib.hid (Q6.out.grown hg7 (by have := Q6.out.size; omega) (fun k e => by have := Option.some.inj e; omega)); have O7 := Lib.hid (O6.out.grown hg7 (fun g e => by intro e2; have h1 := (O6.out.ownB g (by rw [e]; rfl)).1; have := Option.some.inj e2; omega)); clear hb7 hg7)
    | fail)
  refine bodyPost_ret (results_c rowRS rfl _ _ (w.heap.size + 1) _ rfl ZB7.out rfl) rfl ⟨⟨a5, c5, rfl, O7.out.mono (by omega)⟩, Q7.out⟩

set_option maxRecDepth 100000 in
set_option maxHeartbeats 1000000 in
theorem given_any (una nxt high : Nat) (a : Option Addr) (bs : List (Nat × Nat)) (c : Nat) (w : World) (h : Sts 2 BC Tr w a bs) (hn : a = none → c = 0) (hl : bs.length ≤ 17592186043904) :
    Calls Try.prog 9 #[.agg #[.int .u32 (una : Nat), .int .u32 (nxt : Nat), .int .u32 (high : Nat), .slice a bs.length c]] w fun e w' => (∃ a' c', e = .returned (.agg #[.int .u32 (una : Nat), .int .u32 (nxt : Nat), .int .u32 (high : Nat), .slice a' bs.length c']) ∧ OwnR 38 2 BC w.heap.size a' bs c' w') ∧ Below w.heap.size w w' := by
  have HL := Lib.hid h
  have HN := Lib.hid hn
  clear h hn
  go_enter Try.func9, Try.ntmps9
  go_upto_region 1 with fail
  obtain ⟨x1, x2, x3, x4⟩ := two_b w (.cells #[.int .u32 (una : Nat), .int .u32 (nxt : Nat), .int .u32 (high : Nat), .slice a bs.length c] 25) (.cells #[.int .u32 0, .int .u32 0, .int .u32 0, .slice none 0 0] 26)
  have S0 := Lib.hid x1
  have Z0 := Lib.hid x2
  have Q0 := Lib.hid x4
  clear x1 x2 x3 x4
  generalize (w.alloc (.cells #[.int .u32 (una : Nat), .int .u32 (nxt : Nat), .int .u32 (high : Nat), .slice a bs.length c] 25)).alloc (.cells #[.int .u32 0, .int .u32 0, .int .u32 0, .slice none 0 0] 26) = V0 at S0 Z0 Q0 ⊢
  have c0 := blk_cell S0.out 0
  have c1 := blk_cell S0.out 1
  have c2 := blk_cell S0.out 2
  have c3 := blk_cell S0.out 3
  go_wp2_with fail
  refine (own_any una nxt high a bs c V0 (Sts.belowT HL.out Q0.out) HN.out hl).mono ?_
  rintro e V1 ⟨⟨a', c', rfl, hO⟩, hB⟩
  have O1 := Lib.hid (hO.mono Q0.out.size)
  have Z1 := Lib.hid ((hB.block _ (blk_lt Z0.out)).trans Z0.out)
  have Q1 := Lib.hid (Q0.out.trans (hB.mono Q0.out.size))
  have O1b := Lib.hid (hO.ownB)
  have hz := blk_lt Z0.out
  clear hO hB c0 c1 c2 c3
  go_wp2_with (first
    | ((with_reducible show wpList _ _ _ _ _ _); refine wpList_store_blk rowPS (t := 26) (w := V1) rfl (.tmp 2) (.tmp 4) rfl (w.heap.size + 1) #[.int .u32 0, .int .u32 0, .int .u32 0, .slice none 0 0] #[.int .u32 (una : Nat), .int .u32 (nxt : Nat), .int .u32 (high : Nat), .slice a' bs.length c'] rfl rfl Z1.out rfl rfl (by simp [Value.oneCell']) ?_; intro V7 hb7 hg7; have ZB7 := Lib.hid hb7; have Q7 := Lib.hid (Q1.out.grown hg7 (by have := Q1.out.size; omega) (fun k e => by have := Option.some.inj e; omega)); have O7 := Lib.hid (O1.out.grown hg7 (fun g e => by intro e2; have h1 := (O1b.out g (by rw [e]; rfl)).1; have := Option.some.inj e2; omega)); clear hb7 hg7)
    | fail)
  refine bodyPost_ret (results_c rowPS rfl _ _ (w.heap.size + 1) _ rfl ZB7.out rfl) rfl ⟨⟨a', c', rfl, O7.out⟩, Q7.out⟩

/-- What Pipe answers. -/
def ppO (una nxt high : Nat) (bs : List (Nat × Nat)) (mss : Int) : Int := if ckE una nxt high bs mss = 0 then pipeS mss (pl una high) (hol (pl una nxt) 0 (sps una bs)) else 0
theorem ck_ok {una nxt high : Nat} {bs : List (Nat × Nat)} {mss : Int} (h : ckE una nxt high bs mss = 0) : okS una nxt high bs = true ∧ 1 ≤ mss ∧ mss ≤ 65535 := by
  unfold ckE at h
  by_cases hk : okS una nxt high bs = true
  · rw [if_pos hk] at h
    by_cases hm : 1 ≤ mss ∧ mss ≤ 65535
    · exact ⟨hk, hm⟩
    · rw [if_neg hm] at h; cases h
  · rw [if_neg hk] at h; cases h
theorem pipe_any (una nxt high : Nat) (a : Option Addr) (bs : List (Nat × Nat)) (c : Nat) (mss : Int) (w : World) (hu : una < 4294967296) (h : Sts 2 BC Tr w a bs) (hlen : bs.length ≤ 35184372088832) :
    Calls Try.prog 12 #[.agg #[.int .u32 (una : Nat), .int .u32 (nxt : Nat), .int .u32 (high : Nat), .slice a bs.length c], .int .i64 mss] w fun e w' => e = .returned (.tuple #[.int .i64 (ppO una nxt high bs mss), .int .i64 (ckE una nxt high bs mss)]) ∧ Below w.heap.size w w' := by
  by_cases h0 : ckE una nxt high bs mss = 0
  · obtain ⟨h1, h2⟩ := ck_ok h0
    have := pipe_ok una nxt high a bs c mss w hu h hlen h1 h2
    unfold ppO
    rw [if_pos h0, h0]
    exact this
  · have := pipe_bad una nxt high a bs c mss w hu h hlen h0
    unfold ppO
    rw [if_neg h0]
    exact this
abbrev exB : List (Nat × Nat) := [(10, 20), (30, 40), (45, 50)]
theorem ex_ck : ckE 0 50 0 exB 10 = 0 := by decide +kernel
theorem ex_pp : ppO 0 50 0 exB 10 = 15 := by decide +kernel
theorem ex_nx : nxO 0 50 0 exB 10 false = some (0, 10) := by decide +kernel
set_option maxRecDepth 100000 in
set_option maxHeartbeats 1000000 in
theorem alive_any (w : World) : Calls Try.prog 26 #[] w fun e w' => e = .returned (.bool true) ∧ Below w.heap.size w w' := by
  have HP := Lib.hid (fun V (h : Sts 2 BC Tr V (some ⟨w.heap.size, 0, none⟩) exB) => pipe_any 0 50 0 (some ⟨w.heap.size, 0, none⟩) exB 3 10 V (by omega) h (by decide))
  have HX := Lib.hid (fun V (h : Sts 2 BC Tr V (some ⟨w.heap.size, 0, none⟩) exB) => next_any 0 50 0 (some ⟨w.heap.size, 0, none⟩) exB 3 10 false V (by omega) h (by decide))
  unfold nxE at HX
  rw [ex_ck, ex_pp] at HP
  rw [ex_ck, ex_nx] at HX
  go_enter Try.func26, Try.ntmps26
  go_upto_region 2 with fail
  have hb1 := (Below.refl w.heap.size w).alloc (Nat.le_refl _) (.cells #[.int .u32 10, .int .u32 20, .int .u32 30, .int .u32 40, .int .u32 45, .int .u32 50] 38)
  have L0 : Sts 2 BC Tr (w.alloc (.cells #[.int .u32 10, .int .u32 20, .int .u32 30, .int .u32 40, .int .u32 45, .int .u32 50] 38)) (some ⟨w.heap.size, 0, none⟩) exB := sts_new encB w exB 38 (0, 0)
  obtain ⟨x1, x2, x3, x4⟩ := two_b w (.cells #[.int .u32 10, .int .u32 20, .int .u32 30, .int .u32 40, .int .u32 45, .int .u32 50] 38) (.cells #[.int .u32 0, .int .u32 50, .int .u32 0, .slice (some ⟨w.heap.size, 0, none⟩) 3 3] 26)
  have S0 := Lib.hid x2
  have Q0 := Lib.hid x4
  have L1 := Lib.hid (Sts.belowT L0 ((Below.refl _ _).alloc (Nat.le_refl _) (.cells #[.int .u32 0, .int .u32 50, .int .u32 0, .slice (some ⟨w.heap.size, 0, none⟩) 3 3] 26)))
  clear hb1 L0 x1 x2 x3 x4
  generalize (w.alloc (.cells #[.int .u32 10, .int .u32 20, .int .u32 30, .int .u32 40, .int .u32 45, .int .u32 50] 38)).alloc (.cells #[.int .u32 0, .int .u32 50, .int .u32 0, .slice (some ⟨w.heap.size, 0, none⟩) 3 3] 26) = V0 at S0 Q0 L1 ⊢
  have c0 := blk_cell S0.out 0
  have c1 := blk_cell S0.out 1
  have c2 := blk_cell S0.out 2
  have c3 := blk_cell S0.out 3
  go_wp2_with fail
  refine (HP.out V0 L1.out).mono ?_
  rintro e V1 ⟨rfl, hB⟩
  have S1 := Lib.hid ((hB.block _ (blk_lt S0.out)).trans S0.out)
  have L2 := Lib.hid (Sts.belowT L1.out hB)
  have Q1 := Lib.hid (Q0.out.trans (hB.mono Q0.out.size))
  clear hB c0 c1 c2 c3
  have c0 := blk_cell S1.out 0
  have c1 := blk_cell S1.out 1
  have c2 := blk_cell S1.out 2
  have c3 := blk_cell S1.out 3
  go_wp2_with fail
  refine (HX.out V1 L2.out).mono ?_
  rintro e V2 ⟨rfl, hB⟩
  have Q2 := Lib.hid (Q1.out.trans (hB.mono Q1.out.size))
  clear hB c0 c1 c2 c3
  unfold nxB
  dsimp only
  go_wp2_with fail
  refine (num_any _ _).mono ?_
  rintro e w' ⟨rfl, rfl⟩
  go_wp2_with fail
  refine (num_any _ _).mono ?_
  rintro e w' ⟨rfl, rfl⟩
  go_wp2
  go_ret
  exact ⟨rfl, Q2.out.alloc Q2.out.size _⟩
end Go.Proofs.Ytcachmjcninkbaa
