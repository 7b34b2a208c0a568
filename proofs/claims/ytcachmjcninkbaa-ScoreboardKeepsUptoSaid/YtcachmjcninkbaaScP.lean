/- Scoreboard: the pipe. -/
import Derived.Test.YtcachmjcninkbaaScG
namespace Go.Proofs.Ytcachmjcninkbaa
open Go.RowKit Go.Shelf

attribute [local go_sem] Oper.semAt_some
theorem two_b (w : World) (a b : Obj) : ((w.alloc a).alloc b).heap[w.heap.size]? = some a ∧ ((w.alloc a).alloc b).heap[w.heap.size + 1]? = some b ∧ ((w.alloc a).alloc b).heap.size = w.heap.size + 1 + 1 ∧ Below w.heap.size w ((w.alloc a).alloc b) := by
  have b1 := (Below.refl w.heap.size w).alloc (Nat.le_refl _) a
  refine ⟨?_, ?_, ?_, b1.alloc b1.size b⟩
  · show ((w.heap.push a).push b)[w.heap.size]? = some a
    (repeat rw [Array.getElem?_push]); simp only [Array.size_push]; (repeat (first | rw [if_pos (by omega)] | rw [if_neg (by omega)] | rw [if_pos trivial]))
  · show ((w.heap.push a).push b)[w.heap.size + 1]? = some b
    (repeat rw [Array.getElem?_push]); simp only [Array.size_push]; (repeat (first | rw [if_pos (by omega)] | rw [if_neg (by omega)] | rw [if_pos trivial]))
  · show ((w.heap.push a).push b).size = _
    simp

set_option maxRecDepth 100000 in
set_option maxHeartbeats 1000000 in
theorem pipe_bad (una nxt high : Nat) (a : Option Addr) (bs : List (Nat × Nat)) (c : Nat) (mss : Int) (w : World) (hu : una < 4294967296) (h : Sts 2 BC Tr w a bs) (hlen : bs.length ≤ 35184372088832) (hne : ckE una nxt high bs mss ≠ 0) :
    Calls Try.prog 12 #[.agg #[.int .u32 (una : Nat), .int .u32 (nxt : Nat), .int .u32 (high : Nat), .slice a bs.length c], .int .i64 mss] w fun e w' => e = .returned (.tuple #[.int .i64 0, .int .i64 (ckE una nxt high bs mss)]) ∧ Below w.heap.size w w' := by
  have HL := Lib.hid h
  clear h
  obtain ⟨E, hE⟩ : ∃ E, ckE una nxt high bs mss = E := ⟨_, rfl⟩
  have HE := Lib.hid hE
  rw [hE] at hne ⊢
  go_enter Try.func12, Try.ntmps12
  go_upto_region 1 with fail
  obtain ⟨x1, x2, x3, x4⟩ := two_b w (.cells #[.int .u32 (una : Nat), .int .u32 (nxt : Nat), .int .u32 (high : Nat), .slice a bs.length c] 26) (.cells #[.int .i64 mss] 3)
  have S0 := Lib.hid x1
  have M0 := Lib.hid x2
  have Q0 := Lib.hid x4
  clear x1 x2 x3 x4 hE
  generalize (w.alloc (.cells #[.int .u32 (una : Nat), .int .u32 (nxt : Nat), .int .u32 (high : Nat), .slice a bs.length c] 26)).alloc (.cells #[.int .i64 mss] 3) = V0 at S0 M0 Q0 ⊢
  have c0 := blk_cell S0.out 0
  have c1 := blk_cell S0.out 1
  have c2 := blk_cell S0.out 2
  have c3 := blk_cell S0.out 3
  have m0 := blk_cell M0.out 0
  go_wp2_with fail
  refine (check_mss una nxt high a bs c mss V0 hu (Sts.belowT HL.out Q0.out) hlen).mono ?_
  rintro e V1 ⟨rfl, hB⟩
  rw [HE.out]
  have Q1 := Lib.hid (Q0.out.trans (hB.mono Q0.out.size))
  clear hB c0 c1 c2 c3 m0
  go_wp2
  go_ret2
  exact ⟨rfl, Q1.out⟩

structure PI (w : World) (q : Nat) (sv : Array Value) (mss : Int) (hi : Nat) (v : Int) (W : World) : Prop where
  s : W.heap[w.heap.size]? = some (.cells sv 26 (0, 0))
  m : W.heap[w.heap.size + 1]? = some (.cells #[.int .i64 mss] 3 (0, 0))
  h : W.heap[q]? = some (.cells #[.int .i64 (hi : Nat)] 3 (0, 0))
  p : W.heap[q + 1]? = some (.cells #[.int .i64 v] 3 (0, 0))
  low : Below w.heap.size w W
theorem PI.below {w A C : World} {q : Nat} {sv : Array Value} {mss : Int} {hi : Nat} {v : Int} {B : Nat} (h : PI w q sv mss hi v A) (hb : Below B A C) (hq : q + 1 < B) (hw : w.heap.size + 1 < B) : PI w q sv mss hi v C :=
  ⟨(hb.block _ (by omega)).trans h.s, (hb.block _ (by omega)).trans h.m, (hb.block _ (by omega)).trans h.h, (hb.block _ (by omega)).trans h.p, h.low.trans (hb.mono (by omega))⟩

theorem PI.store {w A C : World} {q : Nat} {sv : Array Value} {mss : Int} {hi : Nat} {v v' : Int} (h : PI w q sv mss hi v A) (hg : A.grownBy C (some (q + 1))) (hp : C.heap[q + 1]? = some (.cells #[.int .i64 v'] 3 (0, 0))) (hw : w.heap.size + 1 < q) : PI w q sv mss hi v' C :=
  ⟨(hg.block _ (blk_lt h.s) (fun e => by have := Option.some.inj e; omega)).trans h.s, (hg.block _ (blk_lt h.m) (fun e => by have := Option.some.inj e; omega)).trans h.m, (hg.block _ (blk_lt h.h) (fun e => by have := Option.some.inj e; omega)).trans h.h, hp, h.low.grown hg (by have := h.low.size; omega) (fun k e => by have := Option.some.inj e; omega)⟩

set_option maxRecDepth 100000 in
set_option maxHeartbeats 4000000 in
theorem pipe_ok (una nxt high : Nat) (a : Option Addr) (bs : List (Nat × Nat)) (c : Nat) (mss : Int) (w : World) (hu : una < 4294967296) (h : Sts 2 BC Tr w a bs) (hlen : bs.length ≤ 35184372088832) (hok : okS una nxt high bs = true) (hm : 1 ≤ mss ∧ mss ≤ 65535) :
    Calls Try.prog 12 #[.agg #[.int .u32 (una : Nat), .int .u32 (nxt : Nat), .int .u32 (high : Nat), .slice a bs.length c], .int .i64 mss] w fun e w' => e = .returned (.tuple #[.int .i64 (pipeS mss (pl una high) (hol (pl una nxt) 0 (sps una bs))), .int .i64 0]) ∧ Below w.heap.size w w' := by
  have HL := Lib.hid h
  have HOK := Lib.hid hok
  have hck : ckE una nxt high bs mss = 0 := by unfold ckE; rw [if_pos hok, if_pos hm]
  have HCK := Lib.hid hck
  obtain ⟨hs1, hs2, hs3, hs4⟩ := okS_iff.1 hok
  obtain ⟨st, hst⟩ : ∃ z, pl una nxt = z := ⟨_, rfl⟩
  obtain ⟨hi, hhi⟩ : ∃ z, pl una high = z := ⟨_, rfl⟩
  obtain ⟨hs, hhs⟩ : ∃ z, hol st 0 (sps una bs) = z := ⟨_, rfl⟩
  rw [hst] at hs1 hs2 hs4
  rw [hhi] at hs2
  have HIT := Lib.hid (holes_gives una nxt high a bs c hu hok)
  rw [hst, hhs] at HIT
  rw [hst, hhi, hhs]
  have HBD := Lib.hid (fun k => pipe_part mss hi (sps una bs) hs4 (by rw [sps_len]; exact hs3) hs1 k)
  rw [hhs] at HBD
  have HHO := Lib.hid (hol_ok (sps una bs) 0 hs4 (Nat.zero_le _) (by rw [sps_len]; exact hs3))
  rw [hhs] at HHO
  have HHI := Lib.hid hhi
  clear h hok hck hhi hst hhs hs4
  refine (callsIn_wide (n := 5)).1 ?_
  refine callsIn_of_wp_marks Try.func12 rfl trivial ?_ rfl
  simp only [Try.ntmps12, List.size_toArray, List.length_cons, List.length_nil, Nat.reduceAdd, Nat.reduceSub, Array.replicate_succ, Array.replicate_zero, List.push_toArray, List.append_toArray, List.nil_append, List.cons_append]
  obtain ⟨x1, x2, x3, x4⟩ := two_b w (.cells #[.int .u32 (una : Nat), .int .u32 (nxt : Nat), .int .u32 (high : Nat), .slice a bs.length c] 26) (.cells #[.int .i64 mss] 3)
  have S0 := Lib.hid x1
  have M0 := Lib.hid x2
  have Q0 := Lib.hid x4
  have c0 := blk_cell x1 0
  have c1 := blk_cell x1 1
  have c2 := blk_cell x1 2
  have c3 := blk_cell x1 3
  have m0 := blk_cell x2 0
  clear x1 x2 x3 x4
  gi_wp2_with (fail)
  generalize (w.alloc (.cells #[.int .u32 (una : Nat), .int .u32 (nxt : Nat), .int .u32 (high : Nat), .slice a bs.length c] 26)).alloc (.cells #[.int .i64 mss] 3) = V0 at S0 M0 Q0 c0 c1 c2 c3 m0 ⊢
  refine ⟨trivial, ?_⟩
  refine (callsIn_wide.2 (check_mss una nxt high a bs c mss V0 hu (Sts.belowT HL.out Q0.out) hlen)).mono ?_
  rintro e V1 ⟨rfl, hB⟩
  rw [HCK.out]
  have S1 := Lib.hid ((hB.block _ (blk_lt S0.out)).trans S0.out)
  have M1 := Lib.hid ((hB.block _ (blk_lt M0.out)).trans M0.out)
  have Q1 := Lib.hid (Q0.out.trans (hB.mono Q0.out.size))
  clear hB c0 c1 c2 c3 m0 S0 M0 Q0
  have c0 := blk_cell S1.out 0
  have c1 := blk_cell S1.out 1
  have c2 := blk_cell S1.out 2
  have c3 := blk_cell S1.out 3
  gi_wp2_with (fail)
  refine ⟨trivial, ?_⟩
  refine (callsIn_wide.2 (place_any una nxt high a bs.length c high V1 hu)).mono ?_
  rintro e V2 ⟨rfl, hB⟩
  rw [HHI.out]
  have S2 := Lib.hid ((hB.block _ (blk_lt S1.out)).trans S1.out)
  have M2 := Lib.hid ((hB.block _ (blk_lt M1.out)).trans M1.out)
  have Q2 := Lib.hid (Q1.out.trans (hB.mono Q1.out.size))
  have hw2 : w.heap.size + 1 < V2.heap.size := blk_lt M2.out
  clear hB c0 c1 c2 c3 S1 M1 Q1
  obtain ⟨x1, x2, x3, x4⟩ := two_b V2 (.cells #[.int .i64 (hi : Nat)] 3) (.cells #[.int .i64 0] 3)
  have I3 : Hid (PI w V2.heap.size #[.int .u32 (una : Nat), .int .u32 (nxt : Nat), .int .u32 (high : Nat), .slice a bs.length c] mss hi 0 ((V2.alloc (.cells #[.int .i64 (hi : Nat)] 3)).alloc (.cells #[.int .i64 0] 3))) := Lib.hid ⟨(x4.block _ (by omega)).trans S2.out, (x4.block _ hw2).trans M2.out, x1, x2, Q2.out.trans (x4.mono Q2.out.size)⟩
  have hz3 := x3
  have c0 := (blk_cell ((x4.block _ (show w.heap.size < V2.heap.size by omega)).trans S2.out) 0)
  have c1 := (blk_cell ((x4.block _ (show w.heap.size < V2.heap.size by omega)).trans S2.out) 1)
  have c2 := (blk_cell ((x4.block _ (show w.heap.size < V2.heap.size by omega)).trans S2.out) 2)
  have c3 := (blk_cell ((x4.block _ (show w.heap.size < V2.heap.size by omega)).trans S2.out) 3)
  clear x1 x2 x3 x4
  gi_wp2_with (fail)
  obtain ⟨q, hq⟩ : ∃ q, V2.heap.size = q := ⟨_, rfl⟩
  generalize (V2.alloc (.cells #[.int .i64 (hi : Nat)] 3)).alloc (.cells #[.int .i64 0] 3) = V3 at I3 hz3 c0 c1 c2 c3 ⊢
  rw [hq] at I3 hz3 hw2 ⊢
  clear hq
  have HI3 := Lib.hid I3.out
  refine wpIn_range_gives rfl (by omega) (gf := 42) (rb := #[.agg #[.int .u32 (una : Nat), .int .u32 (nxt : Nat), .int .u32 (high : Nat), .slice a bs.length c]]) rfl trivial (enters_of Try.func42 (by kernel_rfl) rfl) HIT.out rfl
    (fun k W => PI w q #[.int .u32 (una : Nat), .int .u32 (nxt : Nat), .int .u32 (high : Nat), .slice a bs.length c] mss hi (pipeS mss hi (hs.take k)) W) (fun _ => False)
    (fun k A C h hb => h.below hb (by omega) (by omega)) (fun A C h _ => h) I3.out (fun W hb => Sts.belowT HL.out (I3.out.low.trans (hb.mono (by have := I3.out.low.size; omega))))
    (fun x b => { tmps := #[.agg #[.int .u32 (una : Nat), .int .u32 (nxt : Nat), .int .u32 (high : Nat), .slice a bs.length c], .int .i64 mss, .pointer (some ⟨w.heap.size, 0, none⟩), .pointer (some ⟨w.heap.size + 1, 0, none⟩), .int .i64 0, .int .i64 0, .int .i64 0, .pointer (some ⟨q, 0, none⟩), .pointer (some ⟨q + 1, 0, none⟩), .pointer (some ⟨b, 0, none⟩), .agg #[.int .u32 (una : Nat), .int .u32 (nxt : Nat), .int .u32 (high : Nat), .slice a bs.length c], .int .i64 mss, .int .i64 0, .int .i64 0, .bool false, undef, .agg #[.int .u32 (una : Nat), .int .u32 (nxt : Nat), .int .u32 (high : Nat), .slice a bs.length c], .pointer (some ⟨w.heap.size, 2, none⟩), .int .u32 (high : Nat), .int .i64 (hi : Nat), .agg #[.int .u32 (una : Nat), .int .u32 (nxt : Nat), .int .u32 (high : Nat), .slice a bs.length c], .func (.func 42) #[.agg #[.int .u32 (una : Nat), .int .u32 (nxt : Nat), .int .u32 (high : Nat), .slice a bs.length c]] #[], .agg #[.int .i64 (x.l : Nat), .int .i64 (x.r : Nat), .int .i64 (x.b : Nat), .int .i64 x.o], undef, undef, undef, undef, undef, undef, undef, undef, undef, undef, undef, undef, undef, undef, undef, undef, undef, undef, undef, undef, undef, undef, undef, undef, undef, undef], defers := [] })
    (fun x => .cells #[.int .i64 (x.l : Nat), .int .i64 (x.r : Nat), .int .i64 (x.b : Nat), .int .i64 x.o] 78) ?assign ?body ?done ?stop
  case assign =>
    intro l x W K hK
    unfold encH
    gi_wp2
    exact hK
  case body =>
    intro l k x W b hx hI hb hbx
    obtain ⟨hl, hr, hb', ho⟩ := x
    have hbd := HHO.out _ (List.mem_of_getElem? hx)
    dsimp only at hbd
    obtain ⟨g1, g2, g3, g4, g5, g6⟩ := hbd
    have hv := HBD.out k
    have hnx : pipeS mss hi (hs.take (k + 1)) = pipeS mss hi (hs.take k) + holeV mss hi ⟨hl, hr, hb', ho⟩ := by rw [List.take_add_one, hx]; exact pipeS_snoc _ _ _ _
    obtain ⟨v, hv2⟩ : ∃ z, pipeS mss hi (hs.take k) = z := ⟨_, rfl⟩
    have hI2 : PI w q #[.int .u32 (una : Nat), .int .u32 (nxt : Nat), .int .u32 (high : Nat), .slice a bs.length c] mss hi v W := by rw [← hv2]; exact hI
    rw [hv2] at hv hnx
    have I4 := Lib.hid hI2
    have X4 := Lib.hid hbx
    have HNX := Lib.hid hnx
    obtain ⟨v0, v1⟩ := hv
    have hlr : (hl : Int) ≤ (hr : Int) := by omega
    have hrs : (hr : Int) ≤ 1073741824 := by omega
    have hhs : (hi : Int) ≤ 1073741824 := by omega
    have hbW : b < W.heap.size := blk_lt hbx
    have hqW : q + 1 < W.heap.size := blk_lt hI2.p
    obtain ⟨mm, hmm⟩ : ∃ z, max (min (hr : Int) (hi : Int) - (hl : Int)) 0 = z := ⟨_, rfl⟩
    have hm0 : 0 ≤ mm ∧ mm ≤ 1073741824 := by omega
    obtain ⟨m0, m1⟩ := hm0
    have x0 := blk_cell X4.out 0
    have x1 := blk_cell X4.out 1
    have x2 := blk_cell X4.out 2
    have x3 := blk_cell X4.out 3
    have y0 := blk_cell I4.out.m 0
    obtain ⟨lb, hlb⟩ : ∃ z, lostB mss ⟨hl, hr, hb', ho⟩ = z := ⟨_, rfl⟩
    have HLB := Lib.hid hlb
    have HMM := Lib.hid hmm
    clear hI hbx hx hI2 hnx hv2 hlb g1 g2 g3 g4 g5 g6
    gi_wp2_with (fail)
    refine ⟨trivial, ?_⟩
    refine (CallsIn.inRound l (callsIn_wide.2 (lost_any hl hr hb' ho mss W hm))).mono ?_
    rintro e W2 ⟨rfl, hB⟩
    rw [HLB.out]
    have I5 := Lib.hid (I4.out.below hB hqW (by have := I4.out.low.size; omega))
    have X5 := Lib.hid ((hB.block _ hbW).trans X4.out)
    have ST5 := Lib.hid (Stays.of_below (B := V3.heap.size) hB)
    clear hB I4 X4 x0 x1 x2 x3 y0
    have x0 := blk_cell X5.out 0
    have x1 := blk_cell X5.out 1
    have h0 := blk_cell I5.out.h 0
    have p0 := blk_cell I5.out.p 0
    have pf := blk_free I5.out.p 0
    have hq2 : q + 1 < W2.heap.size := blk_lt I5.out.p
    have hmx : max (min (hr : Int) (hi : Int) - (hl : Int)) 0 = mm := HMM.out
    cases lb
    case false =>
      have hvv : pipeS mss hi (hs.take (k + 1)) = v + ((hr : Int) - (hl : Int)) + mm := by rw [HNX.out]; unfold holeV; rw [HLB.out, HMM.out]; simp; omega
      have HVV := Lib.hid hvv
      clear hvv
      gi_wp2_with (fail)
      refine ⟨ST5.out.trans ((Stays.set W2 0 _ (by omega)).trans (Stays.set _ 0 _ (by omega))), ?_⟩
      show PI w q _ mss hi (pipeS mss hi (hs.take (k + 1))) _
      rw [HVV.out]
      have hgr := gr_trans (gr_set W2 (q + 1) 0 (.int .i64 (v + ((hr : Int) - (hl : Int))))) (gr_set _ (q + 1) 0 (.int .i64 (v + ((hr : Int) - (hl : Int)) + mm)))
      have hp := blk_set (blk_set I5.out.p 0 (.int .i64 (v + ((hr : Int) - (hl : Int))))) 0 (.int .i64 (v + ((hr : Int) - (hl : Int)) + mm))
      exact I5.out.store hgr hp hw2
    case true =>
      have hvv : pipeS mss hi (hs.take (k + 1)) = v + mm := by rw [HNX.out]; unfold holeV; rw [HLB.out, HMM.out]; simp
      have HVV := Lib.hid hvv
      clear hvv
      gi_wp2_with (fail)
      refine ⟨ST5.out.trans (Stays.set W2 0 _ (by omega)), ?_⟩
      show PI w q _ mss hi (pipeS mss hi (hs.take (k + 1))) _
      rw [HVV.out]
      exact I5.out.store (gr_set W2 (q + 1) 0 (.int .i64 (v + mm))) (blk_set I5.out.p 0 (.int .i64 (v + mm))) hw2
  case done =>
    intro D W hD hI hK
    rw [List.take_length] at hI
    have p0 := blk_cell hI.p 0
    have I6 := Lib.hid hI
    clear hI
    gi_wp2
    refine ⟨by simp, .inl ⟨_, _, rfl, run_takeDeferred hK, ?_⟩⟩
    have hend := I6.out.low.trans (put_low W D w.heap.size (.deferred none) (by omega) (blk_lt hK))
    refine ⟨.tuple #[.int .i64 (pipeS mss hi hs), .int .i64 0], ?_, rfl, hend⟩
    clear hend
    simp only [results, Try.f12]
    go_simp
  case stop =>
    intro D W _ h _
    exact h.elim
end Go.Proofs.Ytcachmjcninkbaa
