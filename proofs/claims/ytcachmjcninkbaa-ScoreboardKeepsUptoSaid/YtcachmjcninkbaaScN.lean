/- Scoreboard: what to send again next. -/
import Derived.Test.YtcachmjcninkbaaScF
namespace Go.Proofs.Ytcachmjcninkbaa
open Go.RowKit

def nextF (mss : Int) (hi : Nat) (rs : Bool) (h : Hole) : Bool := decide (hi < h.r) && (decide (0 < h.b) && (rs || lostB mss h))
set_option maxRecDepth 100000 in
set_option maxHeartbeats 1000000 in
theorem next1_any (p0 p1 p2 hi : Nat) (rs : Bool) (mss : Int) (h : Hole) (w : World) (h0 : w.heap[p0]? = some (.cells #[.int .i64 (hi : Nat)] 3 (0, 0))) (h1 : w.heap[p1]? = some (.cells #[.bool rs] 4 (0, 0))) (h2 : w.heap[p2]? = some (.cells #[.int .i64 mss] 3 (0, 0))) (hm : 1 ≤ mss ∧ mss ≤ 65535) :
    Calls Try.prog 44 #[encH h, .pointer (some ⟨p0, 0, none⟩), .pointer (some ⟨p1, 0, none⟩), .pointer (some ⟨p2, 0, none⟩)] w fun e w' => e = .returned (.bool (nextF mss hi rs h)) ∧ Below w.heap.size w w' := by
  obtain ⟨hl, hr, hb, ho⟩ := h
  unfold encH
  dsimp only
  have hb1 := (Below.refl w.heap.size w).alloc (Nat.le_refl _) (.cells #[.int .i64 (hl : Nat), .int .i64 (hr : Nat), .int .i64 (hb : Nat), .int .i64 ho] 78)
  have S0 := Lib.hid (blk_new w (.cells #[.int .i64 (hl : Nat), .int .i64 (hr : Nat), .int .i64 (hb : Nat), .int .i64 ho] 78))
  have Q0 := Lib.hid hb1
  have A0 := Lib.hid ((hb1.block _ (blk_lt h0)).trans h0)
  have A1 := Lib.hid ((hb1.block _ (blk_lt h1)).trans h1)
  have A2 := Lib.hid ((hb1.block _ (blk_lt h2)).trans h2)
  clear hb1 h0 h1 h2
  go_enter Try.func44, Try.ntmps44
  go_upto_region 1 with fail
  generalize w.alloc (.cells #[.int .i64 (hl : Nat), .int .i64 (hr : Nat), .int .i64 (hb : Nat), .int .i64 ho] 78) = V0 at S0 Q0 A0 A1 A2 ⊢
  have c0 := blk_cell S0.out 0
  have c1 := blk_cell S0.out 1
  have c2 := blk_cell S0.out 2
  have c3 := blk_cell S0.out 3
  have a0 := blk_cell A0.out 0
  have a1 := blk_cell A1.out 0
  have a2 := blk_cell A2.out 0
  by_cases k1 : hi < hr
  case neg =>
    have HE : Hid (nextF mss hi rs ⟨hl, hr, hb, ho⟩ = false) := Lib.hid (by unfold nextF; simp only [decide_eq_false k1]; rfl)
    have d1 : ¬ ((hi : Int) < (hr : Int)) := by omega
    clear k1
    go_wp2
    go_ret
    exact ⟨by rw [HE.out]; rfl, Q0.out⟩
  case pos =>
  have d1 : (hi : Int) < (hr : Int) := by omega
  by_cases k2 : 0 < hb
  case neg =>
    have HE : Hid (nextF mss hi rs ⟨hl, hr, hb, ho⟩ = false) := Lib.hid (by unfold nextF; simp only [decide_eq_true k1, decide_eq_false k2]; rfl)
    have d2 : ¬ ((0 : Int) < (hb : Int)) := by omega
    clear k1 k2
    go_wp2
    go_ret
    exact ⟨by rw [HE.out]; rfl, Q0.out⟩
  case pos =>
  have d2 : (0 : Int) < (hb : Int) := by omega
  cases rs
  case true =>
    have HE : Hid (nextF mss hi true ⟨hl, hr, hb, ho⟩ = true) := Lib.hid (by unfold nextF; simp only [decide_eq_true k1, decide_eq_true k2]; rfl)
    clear k1 k2
    go_wp2
    go_ret
    exact ⟨by rw [HE.out]; rfl, Q0.out⟩
  case false =>
    have HE : Hid (nextF mss hi false ⟨hl, hr, hb, ho⟩ = lostB mss ⟨hl, hr, hb, ho⟩) := Lib.hid (by unfold nextF; simp only [decide_eq_true k1, decide_eq_true k2]; rfl)
    clear k1 k2
    go_wp2_with fail
    refine (lost_any hl hr hb ho mss V0 hm).mono ?_
    rintro e V1 ⟨rfl, hB⟩
    have Q1 := Lib.hid (Q0.out.trans (hB.mono Q0.out.size))
    clear hB
    go_wp2
    go_ret
    exact ⟨by rw [HE.out]; rfl, Q1.out⟩

set_option maxRecDepth 100000 in
set_option maxHeartbeats 1000000 in
theorem block_any (una nxt high : Nat) (a : Option Addr) (n c l r : Nat) (w : World) (hl : l < 4294967296) (hr : r < 4294967296) :
    Calls Try.prog 45 #[.agg #[.int .u32 (una : Nat), .int .u32 (nxt : Nat), .int .u32 (high : Nat), .slice a n c], .agg #[.int .i64 (l : Nat), .int .i64 (r : Nat)]] w fun e w' => e = .returned (.agg #[.int .u32 (((una + l) % 4294967296 : Nat) : Int), .int .u32 (((una + r) % 4294967296 : Nat) : Int)]) ∧ Below w.heap.size w w' := by
  have w1 : IntKind.u32.wrap ((l : Nat) : Int) = (l : Int) := by rw [IntKind.wrap_u32]; omega
  have w2 : IntKind.u32.wrap ((r : Nat) : Int) = (r : Int) := by rw [IntKind.wrap_u32]; omega
  have w3 := pl_add (u := una) (k := l)
  have w4 := pl_add (u := una) (k := r)
  obtain ⟨x, hx⟩ : ∃ x, (una + l) % 4294967296 = x := ⟨_, rfl⟩
  obtain ⟨y, hy⟩ : ∃ y, (una + r) % 4294967296 = y := ⟨_, rfl⟩
  rw [hx] at w3 ⊢
  rw [hy] at w4 ⊢
  clear hx hy hl hr
  obtain ⟨x1, x2, x3, x4, x5⟩ := three w (.cells #[.int .u32 (una : Nat), .int .u32 (nxt : Nat), .int .u32 (high : Nat), .slice a n c] 26) (.cells #[.int .i64 (l : Nat), .int .i64 (r : Nat)] 76) (.cells #[.int .u32 0, .int .u32 0] 38)
  have S0 := Lib.hid x1
  have B0 := Lib.hid x2
  have Z0 := Lib.hid x3
  have Q0 := Lib.hid x5
  clear x1 x2 x3 x4 x5
  go_enter Try.func45, Try.ntmps45
  go_upto_region 1 with fail
  generalize ((w.alloc (.cells #[.int .u32 (una : Nat), .int .u32 (nxt : Nat), .int .u32 (high : Nat), .slice a n c] 26)).alloc (.cells #[.int .i64 (l : Nat), .int .i64 (r : Nat)] 76)).alloc (.cells #[.int .u32 0, .int .u32 0] 38) = V0 at S0 B0 Z0 Q0 ⊢
  have c0 := blk_cell S0.out 0
  have b0 := blk_cell B0.out 0
  have b1 := blk_cell B0.out 1
  have hz := blk_lt Z0.out
  go_wp2_with (first
    | ((with_reducible show wpList _ _ _ _ _ _); refine wpList_store_blk rowBk (t := 38) rfl (.tmp 4) (.tmp 17) rfl (w.heap.size + 1 + 1) #[.int .u32 0, .int .u32 0] #[.int .u32 (x : Nat), .int .u32 (y : Nat)] rfl rfl Z0.out rfl rfl (by simp [Value.oneCell']) ?_; intro V5 hb5 hg5; have ZB5 := Lib.hid hb5; have Q5 := Lib.hid (Q0.out.grown hg5 (by have := Q0.out.size; omega) (fun k e => by have := Option.some.inj e; omega)); clear hb5 hg5)
    | fail)
  refine bodyPost_ret (results_c rowBk rfl _ _ (w.heap.size + 1 + 1) _ rfl ZB5.out rfl) rfl ⟨rfl, ?_⟩
  exact Q5.out

/-- What Next answers. -/
def nxE (una nxt high : Nat) (bs : List (Nat × Nat)) (mss : Int) : Int := ckE una nxt high bs mss
def nxO (una nxt high : Nat) (bs : List (Nat × Nat)) (mss : Int) (rs : Bool) : Option (Nat × Nat) :=
  if ckE una nxt high bs mss = 0 then ((hol (pl una nxt) 0 (sps una bs)).find? (nextF mss (pl una high) rs)).map fun h => (max h.l (pl una high), min (max h.l (pl una high) + mss.toNat) h.r) else none
def nxB (una : Nat) : Option (Nat × Nat) → Array Value
  | none => #[.int .u32 0, .int .u32 0]
  | some x => #[.int .u32 (((una + x.1) % 4294967296 : Nat) : Int), .int .u32 (((una + x.2) % 4294967296 : Nat) : Int)]
theorem results_ctt {fn : Func} {i j k : Nat} {T t : TypeId} {n : Nat} (R : Row T n) (hr : fn.results = #[.cell i T, .tmp j, .tmp k]) (tmps : Array Value) (w : World) (g : Nat) (cs : Array Value) (u v : Value) (hi : tmps.getD i undef = .pointer (some ⟨g, 0, none⟩)) (hj : tmps.getD j undef = u) (hk : tmps.getD k undef = v) (hb : w.heap[g]? = some (.cells cs t (0, 0))) (hs : cs.size = n) :
    (results fn tmps).run Try.prog w = .ok (.tuple #[.agg cs, u, v]) w := by
  have h1 := run_blk R hb hs
  rw [Array.getD_eq_getD_getElem?] at hi hj hk
  simp [results, hr, hi, hj, hk, asAddr, h1]

set_option maxRecDepth 100000 in
set_option maxHeartbeats 2000000 in
theorem next_any (una nxt high : Nat) (a : Option Addr) (bs : List (Nat × Nat)) (c : Nat) (mss : Int) (rs : Bool) (w : World) (hu : una < 4294967296) (h : Sts 2 BC Tr w a bs) (hlen : bs.length ≤ 35184372088832) :
    Calls Try.prog 14 #[.agg #[.int .u32 (una : Nat), .int .u32 (nxt : Nat), .int .u32 (high : Nat), .slice a bs.length c], .int .i64 mss, .bool rs] w fun e w' => e = .returned (.tuple #[.agg (nxB una (nxO una nxt high bs mss rs)), .bool (nxO una nxt high bs mss rs).isSome, .int .i64 (nxE una nxt high bs mss)]) ∧ Below w.heap.size w w' := by
  have HL := Lib.hid h
  clear h
  obtain ⟨E, hE⟩ : ∃ E, ckE una nxt high bs mss = E := ⟨_, rfl⟩
  have HE := Lib.hid hE
  clear hE
  go_enter Try.func14, Try.ntmps14
  go_upto_region 1 with fail
  obtain ⟨x1, x2, x3, x4, x5, x6⟩ := four_b w (.cells #[.int .u32 (una : Nat), .int .u32 (nxt : Nat), .int .u32 (high : Nat), .slice a bs.length c] 26) (.cells #[.int .i64 mss] 3) (.cells #[.bool rs] 4) (.cells #[.int .u32 0, .int .u32 0] 38)
  have S0 := Lib.hid x1
  have M0 := Lib.hid x2
  have R0 := Lib.hid x3
  have Z0 := Lib.hid x4
  have Q0 := Lib.hid x6
  clear x1 x2 x3 x4 x5 x6
  generalize (((w.alloc (.cells #[.int .u32 (una : Nat), .int .u32 (nxt : Nat), .int .u32 (high : Nat), .slice a bs.length c] 26)).alloc (.cells #[.int .i64 mss] 3)).alloc (.cells #[.bool rs] 4)).alloc (.cells #[.int .u32 0, .int .u32 0] 38) = V0 at S0 M0 R0 Z0 Q0 ⊢
  have c0 := blk_cell S0.out 0
  have c1 := blk_cell S0.out 1
  have c2 := blk_cell S0.out 2
  have c3 := blk_cell S0.out 3
  have m0 := blk_cell M0.out 0
  go_wp2_with fail
  refine (check_mss una nxt high a bs c mss V0 hu (Sts.belowT HL.out Q0.out) hlen).mono ?_
  rintro e V1 ⟨rfl, hB⟩
  rw [HE.out]
  have S1 := Lib.hid ((hB.block _ (blk_lt S0.out)).trans S0.out)
  have M1 := Lib.hid ((hB.block _ (blk_lt M0.out)).trans M0.out)
  have R1 := Lib.hid ((hB.block _ (blk_lt R0.out)).trans R0.out)
  have Z1 := Lib.hid ((hB.block _ (blk_lt Z0.out)).trans Z0.out)
  have Q1 := Lib.hid (Q0.out.trans (hB.mono Q0.out.size))
  clear hB c0 c1 c2 c3 m0 S0 M0 R0 Z0 Q0
  by_cases h0 : E = 0
  case neg =>
    have HNO : Hid (nxO una nxt high bs mss rs = none) := Lib.hid (by unfold nxO; rw [HE.out, if_neg h0])
    have hz := blk_lt Z1.out
    go_wp2_with (first
      | ((with_reducible show wpList _ _ _ _ _ _); refine wpList_store_blk rowBk (t := 38) rfl (.tmp 6) (.tmp 19) rfl (w.heap.size + 1 + 1 + 1) #[.int .u32 0, .int .u32 0] #[.int .u32 0, .int .u32 0] rfl rfl Z1.out rfl rfl (by simp [Value.oneCell']) ?_; intro V5 hb5 hg5; have ZB5 := Lib.hid hb5; have Q5 := Lib.hid (Q1.out.grown hg5 (by have := Q1.out.size; omega) (fun k e => by have := Option.some.inj e; omega)); clear hb5 hg5)
      | fail)
    refine bodyPost_ret (results_ctt rowBk rfl _ _ (w.heap.size + 1 + 1 + 1) _ (.bool false) (.int .i64 E) rfl rfl rfl ZB5.out rfl) rfl ⟨?_, Q5.out⟩
    rw [HNO.out]
    show _ = Ending.returned (.tuple #[_, _, .int .i64 (ckE una nxt high bs mss)])
    rw [HE.out]; rfl
  case pos =>
  subst h0
  have hck := HE.out
  have hok : okS una nxt high bs = true := by
    by_cases hk : okS una nxt high bs = true
    · exact hk
    · unfold ckE at hck; rw [if_neg hk] at hck; cases hck
  have hm : 1 ≤ mss ∧ mss ≤ 65535 := by
    by_cases hk : 1 ≤ mss ∧ mss ≤ 65535
    · exact hk
    · unfold ckE at hck; rw [if_pos hok, if_neg hk] at hck; cases hck
  obtain ⟨hs1, hs2, hs3, hs4⟩ := okS_iff.1 hok
  have HHO := Lib.hid (hol_ok (sps una bs) 0 hs4 (Nat.zero_le _) (by rw [sps_len]; exact hs3))
  obtain ⟨hi, hhi⟩ : ∃ z, pl una high = z := ⟨_, rfl⟩
  have HHI := Lib.hid hhi
  have hi1 : hi ≤ 1073741824 := by omega
  obtain ⟨m1, m2⟩ := hm
  have HOK := Lib.hid hok
  have HNO : Hid (nxO una nxt high bs mss rs = ((hol (pl una nxt) 0 (sps una bs)).find? (nextF mss hi rs)).map fun h => (max h.l hi, min (max h.l hi + mss.toNat) h.r)) := Lib.hid (by unfold nxO; rw [hck, if_pos rfl, hhi])
  have HST : Hid (pl una nxt ≤ 1073741824) := Lib.hid hs1
  clear hck hok hs1 hs2 hs3 hs4 hhi
  have c0 := blk_cell S1.out 0
  have c1 := blk_cell S1.out 1
  have c2 := blk_cell S1.out 2
  have c3 := blk_cell S1.out 3
  go_wp2_with fail
  refine (place_any una nxt high a bs.length c high V1 hu).mono ?_
  rintro e V2 ⟨rfl, hB⟩
  rw [HHI.out]
  have S2 := Lib.hid ((hB.block _ (blk_lt S1.out)).trans S1.out)
  have M2 := Lib.hid ((hB.block _ (blk_lt M1.out)).trans M1.out)
  have R2 := Lib.hid ((hB.block _ (blk_lt R1.out)).trans R1.out)
  have Z2 := Lib.hid ((hB.block _ (blk_lt Z1.out)).trans Z1.out)
  have Q2 := Lib.hid (Q1.out.trans (hB.mono Q1.out.size))
  clear hB c0 c1 c2 c3 S1 M1 R1 Z1 Q1
  have hb3 := (Below.refl V2.heap.size V2).alloc (Nat.le_refl _) (.cells #[.int .i64 (hi : Nat)] 3)
  have H3 := Lib.hid (blk_new V2 (.cells #[.int .i64 (hi : Nat)] 3))
  have S3 := Lib.hid ((hb3.block _ (blk_lt S2.out)).trans S2.out)
  have M3 := Lib.hid ((hb3.block _ (blk_lt M2.out)).trans M2.out)
  have R3 := Lib.hid ((hb3.block _ (blk_lt R2.out)).trans R2.out)
  have Z3 := Lib.hid ((hb3.block _ (blk_lt Z2.out)).trans Z2.out)
  have Q3 := Lib.hid (Q2.out.trans (hb3.mono Q2.out.size))
  clear hb3 S2 M2 R2 Z2 Q2
  go_upto_region 5 with fail
  obtain ⟨q, hq⟩ : ∃ q, V2.heap.size = q := ⟨_, rfl⟩
  generalize V2.alloc (.cells #[.int .i64 (hi : Nat)] 3) = V3 at H3 S3 M3 R3 Z3 Q3 ⊢
  rw [hq] at H3 ⊢
  clear hq
  have c0 := blk_cell S3.out 0
  have c1 := blk_cell S3.out 1
  have c2 := blk_cell S3.out 2
  have c3 := blk_cell S3.out 3
  go_wp2_with fail
  refine (find_next (nextF mss hi rs) q (w.heap.size + 1 + 1) (w.heap.size + 1) una nxt high a bs c V3 hu (Sts.belowT HL.out Q3.out) HOK.out ?_).mono ?_
  · intro h _ W hW
    exact next1_any q (w.heap.size + 1 + 1) (w.heap.size + 1) hi rs mss h W ((hW.block _ (blk_lt H3.out)).trans H3.out) ((hW.block _ (blk_lt R3.out)).trans R3.out) ((hW.block _ (blk_lt M3.out)).trans M3.out) ⟨m1, m2⟩
  rintro e V4 ⟨rfl, hB⟩
  have S4 := Lib.hid ((hB.block _ (blk_lt S3.out)).trans S3.out)
  have M4 := Lib.hid ((hB.block _ (blk_lt M3.out)).trans M3.out)
  have H4 := Lib.hid ((hB.block _ (blk_lt H3.out)).trans H3.out)
  have Z4 := Lib.hid ((hB.block _ (blk_lt Z3.out)).trans Z3.out)
  have Q4 := Lib.hid (Q3.out.trans (hB.mono Q3.out.size))
  clear hB c0 c1 c2 c3 S3 M3 R3 Z3 H3 Q3
  obtain ⟨fo, hfo⟩ : ∃ z, (hol (pl una nxt) 0 (sps una bs)).find? (nextF mss hi rs) = z := ⟨_, rfl⟩
  rw [hfo] at HNO ⊢
  cases fo with
  | none =>
    have HNN : Hid (nxO una nxt high bs mss rs = none) := Lib.hid HNO.out
    unfold findC
    have hb5 := (Below.refl V4.heap.size V4).alloc (Nat.le_refl _) (.cells #[.int .i64 0, .int .i64 0, .int .i64 0, .int .i64 0] 78)
    have Z5 := Lib.hid ((hb5.block _ (blk_lt Z4.out)).trans Z4.out)
    have Q5 := Lib.hid (Q4.out.trans (hb5.mono Q4.out.size))
    have hz := blk_lt Z5.out
    clear hb5 hfo HNO
    go_wp2_with (first
      | ((with_reducible show wpList _ _ _ _ _ _); refine wpList_store_blk rowBk (t := 38) (w := V4.alloc (.cells #[.int .i64 0, .int .i64 0, .int .i64 0, .int .i64 0] 78)) rfl (.tmp 6) (.tmp 33) rfl (w.heap.size + 1 + 1 + 1) #[.int .u32 0, .int .u32 0] #[.int .u32 0, .int .u32 0] rfl rfl Z5.out rfl rfl (by simp [Value.oneCell']) ?_; intro V6 hb6 hg6; have ZB6 := Lib.hid hb6; have Q6 := Lib.hid (Q5.out.grown hg6 (by have := Q5.out.size; omega) (fun k e => by have := Option.some.inj e; omega)); clear hb6 hg6)
      | fail)
    refine bodyPost_ret (results_ctt rowBk rfl _ _ (w.heap.size + 1 + 1 + 1) _ (.bool false) (.int .i64 0) rfl rfl rfl ZB6.out rfl) rfl ⟨?_, Q6.out⟩
    rw [HNN.out]
    show _ = Ending.returned (.tuple #[_, _, .int .i64 (ckE una nxt high bs mss)])
    rw [HE.out]; rfl
  | some h =>
    have hmem := List.mem_of_find?_eq_some hfo
    have hhb := HHO.out h hmem
    obtain ⟨hl, hr, hb, ho⟩ := h
    dsimp only at hhb
    obtain ⟨_, g2, g3, _, _, _⟩ := hhb
    have hr1 : hr ≤ 1073741824 := by have := HST.out; omega
    obtain ⟨l2, hl2⟩ : ∃ z, max hl hi = z := ⟨_, rfl⟩
    have hl2b : l2 ≤ 1073741824 := by omega
    have e1 : max (hl : Int) (hi : Int) = (l2 : Int) := by omega
    obtain ⟨r2, hr2⟩ : ∃ z, min (l2 + mss.toNat) hr = z := ⟨_, rfl⟩
    have e2 : min ((l2 : Int) + mss) (hr : Int) = (r2 : Int) := by omega
    have hr2b : r2 ≤ 1073741824 := by omega
    have HNN : Hid (nxO una nxt high bs mss rs = some (l2, r2)) := Lib.hid (by rw [HNO.out, ← hr2, ← hl2]; rfl)
    unfold findC
    dsimp only
    have hb5 := (Below.refl V4.heap.size V4).alloc (Nat.le_refl _) (.cells #[.int .i64 (hl : Nat), .int .i64 (hr : Nat), .int .i64 (hb : Nat), .int .i64 ho] 78)
    have X5 := Lib.hid (blk_new V4 (.cells #[.int .i64 (hl : Nat), .int .i64 (hr : Nat), .int .i64 (hb : Nat), .int .i64 ho] 78))
    have S5 := Lib.hid ((hb5.block _ (blk_lt S4.out)).trans S4.out)
    have M5 := Lib.hid ((hb5.block _ (blk_lt M4.out)).trans M4.out)
    have H5 := Lib.hid ((hb5.block _ (blk_lt H4.out)).trans H4.out)
    have Z5 := Lib.hid ((hb5.block _ (blk_lt Z4.out)).trans Z4.out)
    have Q5 := Lib.hid (Q4.out.trans (hb5.mono Q4.out.size))
    clear hb5 hfo HNO hmem S4 M4 H4 Z4 Q4 hl2 hr2 g2 g3
    go_upto_region 8 with fail
    generalize V4.alloc (.cells #[.int .i64 (hl : Nat), .int .i64 (hr : Nat), .int .i64 (hb : Nat), .int .i64 ho] 78) = V5 at X5 S5 M5 H5 Z5 Q5 ⊢
    have x0 := blk_cell X5.out 0
    have x1 := blk_cell X5.out 1
    have h0 := blk_cell H5.out 0
    have m0 := blk_cell M5.out 0
    have c0 := blk_cell S5.out 0
    have c1 := blk_cell S5.out 1
    have c2 := blk_cell S5.out 2
    have c3 := blk_cell S5.out 3
    go_wp2_with fail
    refine (block_any una nxt high a bs.length c l2 r2 V5 (by omega) (by omega)).mono ?_
    rintro e V6 ⟨rfl, hB⟩
    have Z6 := Lib.hid ((hB.block _ (blk_lt Z5.out)).trans Z5.out)
    have Q6 := Lib.hid (Q5.out.trans (hB.mono Q5.out.size))
    have hz := blk_lt Z6.out
    clear hB
    go_wp2_with (first
      | ((with_reducible show wpList _ _ _ _ _ _); refine wpList_store_blk rowBk (t := 38) (w := V6) rfl (.tmp 6) (.tmp 49) rfl (w.heap.size + 1 + 1 + 1) #[.int .u32 0, .int .u32 0] #[.int .u32 (((una + l2) % 4294967296 : Nat) : Int), .int .u32 (((una + r2) % 4294967296 : Nat) : Int)] rfl rfl Z6.out rfl rfl (by simp [Value.oneCell']) ?_; intro V7 hb7 hg7; have ZB7 := Lib.hid hb7; have Q7 := Lib.hid (Q6.out.grown hg7 (by have := Q6.out.size; omega) (fun k e => by have := Option.some.inj e; omega)); clear hb7 hg7)
      | fail)
    refine bodyPost_ret (results_ctt rowBk rfl _ _ (w.heap.size + 1 + 1 + 1) _ (.bool true) (.int .i64 0) rfl rfl rfl ZB7.out rfl) rfl ⟨?_, Q7.out⟩
    rw [HNN.out]
    show _ = Ending.returned (.tuple #[_, _, .int .i64 (ckE una nxt high bs mss)])
    rw [HE.out]; rfl
end Go.Proofs.Ytcachmjcninkbaa
