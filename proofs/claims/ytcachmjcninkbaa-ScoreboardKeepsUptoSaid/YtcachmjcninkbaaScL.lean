/- Scoreboard: is an octet lost; does a block meet another. -/
import Derived.Test.YtcachmjcninkbaaScE
import Derived.Test.YtcachmjcninkbaaScA
namespace Go.Proofs.Ytcachmjcninkbaa
open Go.RowKit

def lostF (p : Nat) (h : Hole) : Bool := decide (h.l ≤ p) && decide (p < h.r)
set_option maxRecDepth 100000 in
set_option maxHeartbeats 1000000 in
theorem lost1_any (p0 p : Nat) (h : Hole) (w : World) (h0 : w.heap[p0]? = some (.cells #[.int .i64 (p : Nat)] 3 (0, 0))) :
    Calls Try.prog 36 #[encH h, .pointer (some ⟨p0, 0, none⟩)] w fun e w' => e = .returned (.bool (lostF p h)) ∧ Below w.heap.size w w' := by
  obtain ⟨hl, hr, hb, ho⟩ := h
  unfold encH
  dsimp only
  have hb1 := (Below.refl w.heap.size w).alloc (Nat.le_refl _) (.cells #[.int .i64 (hl : Nat), .int .i64 (hr : Nat), .int .i64 (hb : Nat), .int .i64 ho] 78)
  have S0 := Lib.hid (blk_new w (.cells #[.int .i64 (hl : Nat), .int .i64 (hr : Nat), .int .i64 (hb : Nat), .int .i64 ho] 78))
  have Q0 := Lib.hid hb1
  have A0 := Lib.hid ((hb1.block _ (blk_lt h0)).trans h0)
  clear hb1 h0
  go_enter Try.func36, Try.ntmps36
  go_upto_region 1 with fail
  generalize w.alloc (.cells #[.int .i64 (hl : Nat), .int .i64 (hr : Nat), .int .i64 (hb : Nat), .int .i64 ho] 78) = V0 at S0 Q0 A0 ⊢
  have c0 := blk_cell S0.out 0
  have c1 := blk_cell S0.out 1
  have a0 := blk_cell A0.out 0
  by_cases k1 : hl ≤ p
  case neg =>
    have HE : Hid (lostF p ⟨hl, hr, hb, ho⟩ = false) := Lib.hid (by unfold lostF; simp only [decide_eq_false k1]; rfl)
    have d1 : ¬ ((hl : Int) ≤ (p : Int)) := by omega
    clear k1
    go_wp2
    go_ret
    exact ⟨by rw [HE.out]; rfl, Q0.out⟩
  case pos =>
  have d1 : (hl : Int) ≤ (p : Int) := by omega
  by_cases k2 : p < hr
  case neg =>
    have HE : Hid (lostF p ⟨hl, hr, hb, ho⟩ = false) := Lib.hid (by unfold lostF; simp only [decide_eq_true k1, decide_eq_false k2]; rfl)
    have d2 : ¬ ((p : Int) < (hr : Int)) := by omega
    clear k1 k2
    go_wp2
    go_ret
    exact ⟨by rw [HE.out]; rfl, Q0.out⟩
  case pos =>
    have HE : Hid (lostF p ⟨hl, hr, hb, ho⟩ = true) := Lib.hid (by unfold lostF; simp only [decide_eq_true k1, decide_eq_true k2]; rfl)
    have d2 : (p : Int) < (hr : Int) := by omega
    clear k1 k2
    go_wp2
    go_ret
    exact ⟨by rw [HE.out]; rfl, Q0.out⟩

/-- Is the octet at a place lost? -/
def lsO (mss : Int) : Option Hole → Bool
  | none => false
  | some h => lostB mss h
def lsB (mss : Int) (p : Nat) (hs : List Hole) : Bool := lsO mss (hs.find? (lostF p))
set_option maxRecDepth 100000 in
set_option maxHeartbeats 2000000 in
theorem lost_ok (una nxt high : Nat) (a : Option Addr) (bs : List (Nat × Nat)) (c : Nat) (mss : Int) (y : Nat) (w : World) (hu : una < 4294967296) (h : Sts 2 BC Tr w a bs) (hlen : bs.length ≤ 35184372088832) (hck : ckE una nxt high bs mss = 0) (hy : pl una y < pl una nxt) :
    Calls Try.prog 10 #[.agg #[.int .u32 (una : Nat), .int .u32 (nxt : Nat), .int .u32 (high : Nat), .slice a bs.length c], .int .i64 mss, .int .u32 (y : Nat)] w fun e w' => e = .returned (.tuple #[.bool (lsB mss (pl una y) (hol (pl una nxt) 0 (sps una bs))), .int .i64 0]) ∧ Below w.heap.size w w' := by
  have HL := Lib.hid h
  obtain ⟨hok, hm⟩ := ck_ok hck
  have HOK := Lib.hid hok
  have HCK := Lib.hid hck
  have HPX := Lib.hid (fun V => place_any una nxt high a bs.length c y V hu)
  have HPN := Lib.hid (fun V => place_any una nxt high a bs.length c nxt V hu)
  have HFN := Lib.hid (fun q V (hP : Sts 2 BC Tr V a bs) hf => find_lost (lostF (pl una y)) q una nxt high a bs c V hu hP hok hf)
  obtain ⟨p, hp⟩ : ∃ z, pl una y = z := ⟨_, rfl⟩
  obtain ⟨st, hst⟩ : ∃ z, pl una nxt = z := ⟨_, rfl⟩
  rw [hp] at HPX HFN hy ⊢
  rw [hst] at HPN HFN hy ⊢
  clear h hok hck hp hst
  go_enter Try.func10, Try.ntmps10
  go_upto_region 1 with fail
  have S0 := Lib.hid (blk_new w (.cells #[.int .u32 (una : Nat), .int .u32 (nxt : Nat), .int .u32 (high : Nat), .slice a bs.length c] 26))
  have Q0 := Lib.hid ((Below.refl w.heap.size w).alloc (Nat.le_refl _) (.cells #[.int .u32 (una : Nat), .int .u32 (nxt : Nat), .int .u32 (high : Nat), .slice a bs.length c] 26))
  generalize w.alloc (.cells #[.int .u32 (una : Nat), .int .u32 (nxt : Nat), .int .u32 (high : Nat), .slice a bs.length c] 26) = V0 at S0 Q0 ⊢
  have c0 := blk_cell S0.out 0
  have c1 := blk_cell S0.out 1
  have c2 := blk_cell S0.out 2
  have c3 := blk_cell S0.out 3
  go_wp2_with fail
  refine (check_mss una nxt high a bs c mss V0 hu (Sts.belowT HL.out Q0.out) hlen).mono ?_
  rintro e V1 ⟨rfl, hB⟩
  rw [HCK.out]
  have S1 := Lib.hid ((hB.block _ (blk_lt S0.out)).trans S0.out)
  have Q1 := Lib.hid (Q0.out.trans (hB.mono Q0.out.size))
  clear hB c0 c1 c2 c3 S0 Q0
  have c0 := blk_cell S1.out 0
  have c1 := blk_cell S1.out 1
  have c2 := blk_cell S1.out 2
  have c3 := blk_cell S1.out 3
  go_wp2_with fail
  refine (HPX.out V1).mono ?_
  rintro e V2 ⟨rfl, hB⟩
  have hb3 := (Below.refl V2.heap.size V2).alloc (Nat.le_refl _) (.cells #[.int .i64 (p : Nat)] 3)
  have H3 := Lib.hid (blk_new V2 (.cells #[.int .i64 (p : Nat)] 3))
  have S3 := Lib.hid ((hb3.block _ (Nat.lt_of_lt_of_le (blk_lt S1.out) hB.size)).trans ((hB.block _ (blk_lt S1.out)).trans S1.out))
  have Q3 := Lib.hid ((Q1.out.trans (hB.mono Q1.out.size)).trans (hb3.mono (Nat.le_trans Q1.out.size hB.size)))
  clear hB hb3 c0 c1 c2 c3 S1 Q1
  go_upto_region 5 with fail
  obtain ⟨q, hq⟩ : ∃ q, V2.heap.size = q := ⟨_, rfl⟩
  generalize V2.alloc (.cells #[.int .i64 (p : Nat)] 3) = V3 at H3 S3 Q3 ⊢
  rw [hq] at H3 ⊢
  clear hq
  go_cut [26] (fun (bv : Value) (wx : World) => bv = .bool false ∧ Below V3.heap.size V3 wx)
  case first =>
    have d1 : ¬ ((st : Int) ≤ (p : Int)) := by omega
    refine wp_region_held_drew (S := fun W => Below V3.heap.size V3 W) (by kernel_rfl) (Below.refl _ _).drew (fun hHeld => ?_)
    refine wpAnyH_take (i := 0) (oi := _) (v := ?_) rfl (by kernel_rfl) (by kernel_rfl) (by kernel_rfl) (fun _ _ _ h => h) (Or.inl ⟨by rfl, ?_⟩) (by assumption) ?_
    rotate_left
    · intro w5 hSw
      have hB : Below V3.heap.size V3 w5 := hSw
      clear hSw
      have c0 := blk_cell ((hB.block _ (blk_lt H3.out)).trans H3.out) 0
      clear hB
      go_simp
      all_goals with_reducible rfl
    (try simp only [List.getElem_toArray]); (try simp only [List.getElem_cons_succ]); (try simp only [List.getElem_cons_zero]); try simp only [Act.put, List.setIfInBounds_toArray, List.set_cons_zero, List.set_cons_succ]
    refine wpAnyH_take (i := 1) (oi := _) (v := ?_) rfl (by kernel_rfl) (by kernel_rfl) (by kernel_rfl) (fun _ _ _ h => h) (Or.inl ⟨by rfl, ?_⟩) (by assumption) ?_
    rotate_left
    · intro w5 hSw
      have hB : Below V3.heap.size V3 w5 := hSw
      clear hSw
      have c0 := blk_cell ((hB.block _ (blk_lt S3.out)).trans S3.out) 0
      have c1 := blk_cell ((hB.block _ (blk_lt S3.out)).trans S3.out) 1
      have c2 := blk_cell ((hB.block _ (blk_lt S3.out)).trans S3.out) 2
      have c3 := blk_cell ((hB.block _ (blk_lt S3.out)).trans S3.out) 3
      clear hB
      go_simp
      all_goals with_reducible rfl
    (try simp only [List.getElem_toArray]); (try simp only [List.getElem_cons_succ]); (try simp only [List.getElem_cons_zero]); try simp only [Act.put, List.setIfInBounds_toArray, List.set_cons_zero, List.set_cons_succ]
    refine wpAnyH_take (i := 2) (oi := _) (v := ?_) rfl (by kernel_rfl) (by kernel_rfl) (by kernel_rfl) (fun _ _ _ h => h) (Or.inl ⟨by rfl, ?_⟩) (by assumption) ?_
    rotate_left
    · intro w5 hSw
      clear hSw
      go_simp
      all_goals with_reducible rfl
    (try simp only [List.getElem_toArray]); (try simp only [List.getElem_cons_succ]); (try simp only [List.getElem_cons_zero]); try simp only [Act.put, List.setIfInBounds_toArray, List.set_cons_zero, List.set_cons_succ]
    refine wpAnyH_take (i := 3) (oi := _) (v := ?_) rfl (by kernel_rfl) (by kernel_rfl) (by kernel_rfl) (fun _ _ _ h => h) (Or.inl ⟨by rfl, ?_⟩) (by assumption) ?_
    rotate_left
    · intro w5 hSw
      have hB : Below V3.heap.size V3 w5 := hSw
      clear hSw
      have c0 := blk_cell ((hB.block _ (blk_lt S3.out)).trans S3.out) 0
      have c1 := blk_cell ((hB.block _ (blk_lt S3.out)).trans S3.out) 1
      have c2 := blk_cell ((hB.block _ (blk_lt S3.out)).trans S3.out) 2
      have c3 := blk_cell ((hB.block _ (blk_lt S3.out)).trans S3.out) 3
      clear hB
      go_simp
      all_goals with_reducible rfl
    (try simp only [List.getElem_toArray]); (try simp only [List.getElem_cons_succ]); (try simp only [List.getElem_cons_zero]); try simp only [Act.put, List.setIfInBounds_toArray, List.set_cons_zero, List.set_cons_succ]
    refine wpAnyH_ready (rs := [4]) (by kernel_rfl) (by simp) ?_
    refine (AllReadyH.cons (o := _) rfl (fun K hK => ?_) AllReadyH.nil)
    · (try simp only [List.getElem_toArray]); (try simp only [List.getElem_cons_succ]); (try simp only [List.getElem_cons_zero])
      go_simp
      go_at_call 34
      (with_reducible refine (HPN.out _).mono ?_)
      rintro e5 W2 ⟨rfl, hb⟩
      have HB2 := Lib.hid ((show Below V3.heap.size V3 _ from hHeld).trans (hb.mono (show Below V3.heap.size V3 _ from hHeld).size))
      clear hb
      try dsimp only
      refine hK.out _ _ ?_ (fun hHeld => ?_)
      · exact HB2.out
      clear hK K
      (try simp only [List.getElem_toArray]); (try simp only [List.getElem_cons_succ]); (try simp only [List.getElem_cons_zero]); try simp only [Act.put, List.setIfInBounds_toArray, List.set_cons_zero, List.set_cons_succ]
      refine wpAnyH_take (i := 5) (oi := _) (v := ?_) rfl (by kernel_rfl) (by kernel_rfl) (by kernel_rfl) (fun _ _ _ h => h) (Or.inl ⟨by rfl, ?_⟩) (by assumption) ?_
      rotate_left
      · intro w5 hSw
        clear hSw
        go_simp
        all_goals with_reducible rfl
      (try simp only [List.getElem_toArray]); (try simp only [List.getElem_cons_succ]); (try simp only [List.getElem_cons_zero]); try simp only [Act.put, List.setIfInBounds_toArray, List.set_cons_zero, List.set_cons_succ]
      refine wpAnyH_done (by kernel_rfl) ?_ _
      go_wp2_with fail
      go_meet
      exact ⟨by first | rfl | (simp only [Value.bool.injEq]; done) | (simp; done), HB2.out⟩
  case rest =>
  obtain ⟨rfl, hB⟩ := hcut
  obtain ⟨V4, hVV⟩ : ∃ V, V = wc := ⟨_, rfl⟩
  subst hVV
  have S4 := Lib.hid ((hB.block _ (blk_lt S3.out)).trans S3.out)
  have H4 := Lib.hid ((hB.block _ (blk_lt H3.out)).trans H3.out)
  have Q4 := Lib.hid (Q3.out.trans (hB.mono Q3.out.size))
  clear hB S3 H3 Q3
  have c0 := blk_cell S4.out 0
  have c1 := blk_cell S4.out 1
  have c2 := blk_cell S4.out 2
  have c3 := blk_cell S4.out 3
  go_wp2_with fail
  refine (HFN.out q V4 (Sts.belowT HL.out Q4.out) ?_).mono ?_
  · intro h _ W hW
    exact lost1_any q p h W ((hW.block _ (blk_lt H4.out)).trans H4.out)
  rintro e V5 ⟨rfl, hB⟩
  have Q5 := Lib.hid (Q4.out.trans (hB.mono Q4.out.size))
  clear hB c0 c1 c2 c3
  obtain ⟨fo, hfo⟩ : ∃ z, (hol st 0 (sps una bs)).find? (lostF p) = z := ⟨_, rfl⟩
  have HLS : Hid (lsB mss p (hol st 0 (sps una bs)) = lsO mss fo) := Lib.hid (by unfold lsB; rw [hfo])
  rw [hfo]
  clear hfo
  cases fo with
  | none =>
    unfold findC
    have HL2 : Hid (lsB mss p (hol st 0 (sps una bs)) = false) := Lib.hid HLS.out
    clear HLS
    go_wp2
    go_ret2
    exact ⟨by rw [HL2.out]; rfl, Q5.out.alloc Q5.out.size _⟩
  | some h =>
    obtain ⟨hl, hr, hb, ho⟩ := h
    have HL2 : Hid (lsB mss p (hol st 0 (sps una bs)) = lostB mss ⟨hl, hr, hb, ho⟩) := Lib.hid HLS.out
    clear HLS
    unfold findC
    dsimp only
    have X5 := Lib.hid (blk_new V5 (.cells #[.int .i64 (hl : Nat), .int .i64 (hr : Nat), .int .i64 (hb : Nat), .int .i64 ho] 78))
    have Q6 := Lib.hid (Q5.out.alloc Q5.out.size (.cells #[.int .i64 (hl : Nat), .int .i64 (hr : Nat), .int .i64 (hb : Nat), .int .i64 ho] 78))
    go_upto_region 8 with fail
    generalize V5.alloc (.cells #[.int .i64 (hl : Nat), .int .i64 (hr : Nat), .int .i64 (hb : Nat), .int .i64 ho] 78) = V6 at X5 Q6 ⊢
    have x0 := blk_cell X5.out 0
    have x1 := blk_cell X5.out 1
    have x2 := blk_cell X5.out 2
    have x3 := blk_cell X5.out 3
    go_wp2_with fail
    refine (lost_any hl hr hb ho mss V6 hm).mono ?_
    rintro e V7 ⟨rfl, hB⟩
    have Q7 := Lib.hid (Q6.out.trans (hB.mono Q6.out.size))
    clear hB
    go_wp2
    go_ret2
    exact ⟨by rw [HL2.out]; rfl, Q7.out⟩

/-- Does a block that reaches from p to q meet one of these? -/
def insB (l : List (Nat × Nat)) (p q : Nat) : Bool := l.any fun x => decide (p < x.2) && decide (x.1 < q)
theorem insB_snoc (l : List (Nat × Nat)) (x : Nat × Nat) (p q : Nat) : insB (l ++ [x]) p q = (insB l p q || (decide (p < x.2) && decide (x.1 < q))) := by
  unfold insB; rw [List.any_append]; simp
set_option maxRecDepth 100000 in
set_option maxHeartbeats 2000000 in
theorem inside_any (una nxt high : Nat) (a : Option Addr) (bs : List (Nat × Nat)) (c y z : Nat) (w : World) (hu : una < 4294967296) (h : Sts 2 BC Tr w a bs) (hlen : bs.length ≤ 1024) :
    Calls Try.prog 29 #[.agg #[.int .u32 (una : Nat), .int .u32 (nxt : Nat), .int .u32 (high : Nat), .slice a bs.length c], .agg #[.int .u32 (y : Nat), .int .u32 (z : Nat)]] w fun e w' => e = .returned (.bool (insB (sps una bs) (pl una y) (pl una z))) ∧ Below w.heap.size w w' := by
  have HL := Lib.hid h
  clear h
  have w1 := pl_wrap (x := y) hu
  have w2 := pl_wrap (x := z) hu
  obtain ⟨p, hp⟩ : ∃ t, pl una y = t := ⟨_, rfl⟩
  obtain ⟨q, hq⟩ : ∃ t, pl una z = t := ⟨_, rfl⟩
  rw [hp] at w1 ⊢
  rw [hq] at w2 ⊢
  clear hp hq
  go_enter Try.func29, Try.ntmps29
  go_upto_region 1 with fail
  obtain ⟨x1, x2, x3, x4⟩ := two_b w (.cells #[.int .u32 (una : Nat), .int .u32 (nxt : Nat), .int .u32 (high : Nat), .slice a bs.length c] 26) (.cells #[.int .u32 (y : Nat), .int .u32 (z : Nat)] 38)
  have S0 := Lib.hid x1
  have B0 := Lib.hid x2
  have Q0 := Lib.hid x4
  clear x1 x2 x3 x4
  generalize (w.alloc (.cells #[.int .u32 (una : Nat), .int .u32 (nxt : Nat), .int .u32 (high : Nat), .slice a bs.length c] 26)).alloc (.cells #[.int .u32 (y : Nat), .int .u32 (z : Nat)] 38) = V0 at S0 B0 Q0 ⊢
  go_wp2_with fail
  go_loopw [5] (fun iv wr => ∃ i : Nat, i ≤ bs.length ∧ iv = .int .i64 i ∧ Hid (insB (sps una (bs.take i)) p q = false) ∧ Below V0.heap.size V0 wr) (fun iv _ => bs.length - (intOf iv).toNat)
  case atStart => exact ⟨0, by omega, rfl, Lib.hid rfl, Below.refl _ _⟩
  case round =>
    obtain ⟨i, hi, rfl, HI, hq0⟩ := hrel
    have BR := Lib.hid hq0
    clear hq0
    have SR := Lib.hid ((BR.out.block _ (blk_lt S0.out)).trans S0.out)
    have TR0 := Lib.hid ((BR.out.block _ (blk_lt B0.out)).trans B0.out)
    have QR := Lib.hid (Q0.out.trans (BR.out.mono Q0.out.size))
    have c0 := blk_cell SR.out 0
    have c3 := blk_cell SR.out 3
    have b0 := blk_cell TR0.out 0
    have b1 := blk_cell TR0.out 1
    by_cases hlt : i < bs.length
    case neg =>
      obtain rfl : i = bs.length := by omega
      have HE : Hid (insB (sps una bs) p q = false) := Lib.hid (by have := HI.out; rwa [List.take_length] at this)
      clear hlt
      go_wp2
      go_ret
      exact ⟨by rw [HE.out]; rfl, QR.out⟩
    case pos =>
      have i1 : (i : Int) < (bs.length : Int) := by omega
      obtain ⟨x, hx⟩ : ∃ x, bs[i]? = some x := ⟨_, List.getElem?_eq_getElem hlt⟩
      obtain ⟨g, o, rfl, _, _⟩ := HL.out.isSomeT (by omega)
      obtain ⟨hg, p0, p1⟩ := b_at HL.out hx
      have m0 := (QR.out.cell (p := ⟨g, o + i * 2, none⟩) hg).trans p0
      have m1 := (QR.out.cell (p := ⟨g, o + i * 2 + 1, none⟩) hg).trans p1
      have w3 := pl_wrap (x := x.1) hu
      have w4 := pl_wrap (x := x.2) hu
      have hnx : insB (sps una (bs.take (i + 1))) p q = (decide (p < pl una x.2) && decide (pl una x.1 < q)) := by
        have e : sps una (bs.take (i + 1)) = sps una (bs.take i) ++ [(pl una x.1, pl una x.2)] := by rw [List.take_add_one, hx]; simp [sps]
        rw [e, insB_snoc, HI.out]; rfl
      have hwh : (decide (p < pl una x.2) && decide (pl una x.1 < q)) = true → insB (sps una bs) p q = true := by
        intro ht
        have e : sps una bs = sps una (bs.take (i + 1)) ++ sps una (bs.drop (i + 1)) := by unfold sps; rw [← List.map_append, List.take_append_drop]
        rw [e]; unfold insB at hnx ⊢; rw [List.any_append, hnx, ht]; rfl
      obtain ⟨xl, hxl⟩ : ∃ t, pl una x.1 = t := ⟨_, rfl⟩
      obtain ⟨xr, hxr⟩ : ∃ t, pl una x.2 = t := ⟨_, rfl⟩
      rw [hxl] at w3 hnx hwh
      rw [hxr] at w4 hnx hwh
      have HNX := Lib.hid hnx
      have HWH := Lib.hid hwh
      clear p0 p1 hx hnx hwh hxl hxr
      by_cases k1 : p < xr
      case neg =>
        have d1 : decide (p < xr) = false := decide_eq_false k1
        have HN2 : Hid (insB (sps una (bs.take (i + 1))) p q = false) := Lib.hid (by rw [HNX.out, decide_eq_false k1]; rfl)
        clear k1
        go_wp2_with fail
        go_quiet (fail)
        have B6 := Lib.hid (below_drewN BR.out nq)
        go_wp2_with fail
        go_roundw
        case rel => exact ⟨i + 1, by omega, by go_num, HN2, B6.out⟩
        case measure => simp [intOf]; omega
      case pos =>
      have d1 : decide (p < xr) = true := decide_eq_true k1
      by_cases k2 : xl < q
      case neg =>
        have d2 : decide (xl < q) = false := decide_eq_false k2
        have HN2 : Hid (insB (sps una (bs.take (i + 1))) p q = false) := Lib.hid (by rw [HNX.out, decide_eq_false k2]; simp)
        clear k1 k2
        go_wp2_with fail
        go_quiet (fail)
        have B6 := Lib.hid (below_drewN BR.out nq)
        go_wp2_with fail
        go_roundw
        case rel => exact ⟨i + 1, by omega, by go_num, HN2, B6.out⟩
        case measure => simp [intOf]; omega
      case pos =>
        have d2 : decide (xl < q) = true := decide_eq_true k2
        have HE : Hid (insB (sps una bs) p q = true) := Lib.hid (HWH.out (by rw [decide_eq_true k1, decide_eq_true k2]; rfl))
        clear k1 k2
        go_wp2_with fail
        go_quiet (fail)
        have B6 := Lib.hid (below_drewN QR.out nq)
        go_wp2
        go_ret
        exact ⟨by rw [HE.out]; rfl, B6.out⟩
end Go.Proofs.Ytcachmjcninkbaa
