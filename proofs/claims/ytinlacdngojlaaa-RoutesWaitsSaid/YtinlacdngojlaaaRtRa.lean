/- Routes: the document's table: how it lies; Add. -/
import Derived.Test.YtinlacdngojlaaaRtDropP
import Derived.Test.YtinlacdngojlaaaGTurns
namespace Go.Proofs.Ytinlacdngojlaaa
open Go.RowKit Go.Maps Go.Proofs.Ytinlacdngojlaaa.Rt Go.Sort Go.BigFrame

theorem encR : Enc 3 Route10.cells := ⟨fun _ => rfl, fun x u hu => by
  simp only [Route10.cells, List.mem_cons, List.not_mem_nil, or_false] at hu
  rcases hu with rfl | rfl | rfl <;> rfl, by decide⟩
theorem elemR : Elem 26 31 (.agg #[.int .u32 0, .int .i64 0, .int .u32 0]) 3 24 := ⟨Try.underlying26, by kernel_rfl, rfl, by decide⟩
theorem r_at {w : World} {b off : Nat} {l : List Route10} (h : Sts 3 Route10.cells Tr w (some ⟨b, off, none⟩) l) {i : Nat} {p : Route10} (hi : l[i]? = some p) : b < w.heap.size ∧ w.cell? ⟨b, off + i * 3, none⟩ = some (.int .u32 (p.net : Nat)) ∧ w.cell? ⟨b, off + i * 3 + 1, none⟩ = some (.int .i64 p.bits) ∧ w.cell? ⟨b, off + i * 3 + 2, none⟩ = some (.int .u32 (p.gw : Nat)) := by
  obtain ⟨b', off', e, hb, h2⟩ := h.isSomeT (by have := (List.getElem?_eq_some_iff.1 hi).1; omega)
  cases e
  exact ⟨hb, h2 i p hi 0 _ rfl, h2 i p hi 1 _ rfl, h2 i p hi 2 _ rfl⟩
/-- The document's table in block gt, its routes in a row of its own. -/
structure RTab (B gt : Nat) (p : Option Addr) (L : List Route10) (k : Nat) (W : World) : Prop where
  blk : W.heap[gt]? = some (.cells #[.slice p L.length k] 28 (0, 0))
  own : OwnR 31 3 Route10.cells B p L k W
  lt : gt < B
def rowS (gt : Nat) (p : Option Addr) (n k : Nat) (q : Nat) : Prop := q = gt ∨ (Value.slice p n k).ownBlock = some q
theorem RTab.below {B gt : Nat} {p : Option Addr} {L : List Route10} {k : Nat} {W W' : World} (h : RTab B gt p L k W) (hb : Below W.heap.size W W') : RTab B gt p L k W' := ⟨(hb.block _ (blk_lt h.blk)).trans h.blk, h.own.below hb, h.lt⟩
theorem rlook_take {L : List Route10} {n : Nat} {b : Int} (h : ∀ r ∈ L, ¬ (r.net = n ∧ r.bits = b)) : rlook L n b = none := rlook_none h
theorem rlook_hit {L : List Route10} {i : Nat} {r : Route10} (h : L[i]? = some r) : rlook L r.net r.bits ≠ none := by
  intro hn
  unfold rlook at hn
  rw [Option.map_eq_none_iff, List.find?_eq_none] at hn
  have := hn r (List.mem_of_getElem? h)
  simp at this
def RAns (B gt : Nat) (p : Option Addr) (L : List Route10) (k : Nat) (W : World) (E : Nat) (L' : List Route10) (e : Ending) (w' : World) : Prop :=
  e = .returned (.int .i64 (E : Nat)) ∧ (∃ p' k', RTab B gt p' L' k' w') ∧ Turns (rowS gt p L.length k) W w'
set_option maxRecDepth 100000 in
set_option maxHeartbeats 2000000 in
theorem radd_any (B gt : Nat) (p : Option Addr) (L : List Route10) (k : Nat) (net : Nat) (bits : Int) (gw : Nat) (W : World) (h : RTab B gt p L k W) (hB : B ≤ W.heap.size) (hn : net < 4294967296) (hL : L.length ≤ 256) :
    Calls Try.prog 9 #[.pointer (some ⟨gt, 0, none⟩), .agg #[.int .u32 (net : Nat), .int .i64 bits, .int .u32 (gw : Nat)]] W (RAns B gt p L k W (addE L ⟨net, bits, gw⟩) (addL L ⟨net, bits, gw⟩)) := by
  have HT := Lib.hid h
  have hgt := blk_lt h.blk
  clear h
  go_enter Try.func9, Try.ntmps9
  go_upto_region 1 with fail
  have b0 := (Below.refl W.heap.size W).alloc (Nat.le_refl _) (.cells #[.int .u32 (net : Nat), .int .i64 bits, .int .u32 (gw : Nat)] 31)
  have X0 := Lib.hid (blk_new W (.cells #[.int .u32 (net : Nat), .int .i64 bits, .int .u32 (gw : Nat)] 31))
  have T0 := Lib.hid (HT.out.below b0)
  have Q0 := Lib.hid b0
  have hgx : W.heap.size < (W.alloc (.cells #[.int .u32 (net : Nat), .int .i64 bits, .int .u32 (gw : Nat)] 31)).heap.size := by simp
  clear b0
  obtain ⟨gx, hgx2⟩ : ∃ q, W.heap.size = q := ⟨_, rfl⟩
  generalize W.alloc (.cells #[.int .u32 (net : Nat), .int .i64 bits, .int .u32 (gw : Nat)] 31) = V0 at X0 T0 Q0 hgx ⊢
  rw [hgx2] at X0 hgx ⊢
  have HGX := Lib.hid hgx2
  clear hgx2
  have x0 := blk_cell X0.out 0
  have x1 := blk_cell X0.out 1
  have x2 := blk_cell X0.out 2
  by_cases hr : bits < 0 ∨ 32 < bits
  case pos =>
    have HE : Hid (addE L ⟨net, bits, gw⟩ = 4) := Lib.hid (by unfold addE; rw [if_pos hr])
    rcases hr with hr | hr
    case' inl => have i1 : decide (bits < 0) = true := decide_eq_true hr
    case' inr =>
      have i1 : decide (bits < 0) = false := decide_eq_false (by omega)
      have i2 : decide (bits > 32) = true := decide_eq_true hr
    all_goals
      go_wp2
      go_ret
      exact ⟨by rw [HE.out]; rfl, ⟨p, k, by rw [addL, if_neg (by rw [HE.out]; decide)]; exact T0.out⟩, .of_below _ Q0.out⟩
  case neg =>
  obtain ⟨b, rfl⟩ : ∃ b : Nat, bits = b := ⟨bits.toNat, by omega⟩
  have hb : b ≤ 32 := by omega
  have i1 : decide ((b : Int) < 0) = false := decide_eq_false (by omega)
  have i2 : decide ((b : Int) > 32) = false := decide_eq_false (by omega)
  have e1 : (b : Int).toNat = b := by omega
  have HNR := Lib.hid hr
  have PL := fun V => lead_any net b V hn hb
  obtain ⟨pn, hpn⟩ : ∃ z, pre net b = z := ⟨_, rfl⟩
  rw [hpn] at PL
  have HPL := Lib.hid PL
  have HPN := Lib.hid hpn
  clear hr PL hpn
  go_upto_region 3 with fail
  by_cases hp : pn = net
  case neg =>
    have v1 : ((pn : Int) != (net : Int)) = true := by rw [bne_iff_ne]; omega
    have v2 : ¬ ((pn : Int) = (net : Int)) := by omega
    have v3 : ((pn : Int) == (net : Int)) = false := by rw [beq_eq_false_iff_ne]; omega
    have HE : Hid (addE L ⟨net, b, gw⟩ = 1) := Lib.hid (by unfold addE; rw [if_neg HNR.out]; dsimp only; rw [e1, HPN.out, if_pos hp])
    clear hp
    have qx0 := cell_regrown (show V0.cell? ⟨gx, 0, none⟩ = some (.int .u32 (net : Nat)) from x0)
    have qx1 := cell_regrown (show V0.cell? ⟨gx, 1, none⟩ = some (.int .i64 (b : Nat)) from x1)
    have qx2 := cell_regrown (show V0.cell? ⟨gx, 2, none⟩ = some (.int .u32 (gw : Nat)) from x2)
    have cL : ∀ d os, Calls Try.prog 23 #[.int .u32 (net : Nat), .int .i64 (b : Nat)] (grow (redrawn V0 d) os) fun e w'' => e = .returned (.int .u32 (pn : Nat)) ∧ ∃ p : Regrown, w'' = grow (redrawn V0 p.d) p.os := fun d os => Calls.regrown_of ((HPL.out _).mono fun _ _ h => ⟨h.1, h.2 ▸ Below.refl _ _⟩)
    refine wp_region_quiet_below (by kernel_rfl) (by kernel_rfl) ?_
    repeat (go_big_quiet_step (first | (go_at_call 23; exact cL _ _)))
    refine wpQuiet_nil ?_
    intro _ hw'
    obtain ⟨⟨dq, osq⟩, hw''⟩ := hw'
    subst hw''
    have hB := below_regrown V0 dq osq
    clear qx0 qx1 qx2 cL
    dsimp only
    generalize grow (redrawn V0 dq) osq = V1 at hB ⊢
    have hB' := hB
    clear hB
    go_wp2
    go_ret
    exact ⟨by rw [HE.out]; rfl, ⟨p, k, by rw [addL, if_neg (by rw [HE.out]; decide)]; exact T0.out.below hB'⟩, .of_below _ (Q0.out.trans (hB'.mono Q0.out.size))⟩
  case pos =>
  subst hp
  have v1 : ((pn : Int) != (pn : Int)) = false := by simp
  have HEE : Hid (addE L ⟨pn, b, gw⟩ = if rlook L pn b ≠ none then 6 else if 256 ≤ L.length then 81 else 0) := Lib.hid (by unfold addE; rw [if_neg HNR.out]; dsimp only; rw [e1, HPN.out, if_neg (by simp)])
  have qx0 := cell_regrown (show V0.cell? ⟨gx, 0, none⟩ = some (.int .u32 (pn : Nat)) from x0)
  have qx1 := cell_regrown (show V0.cell? ⟨gx, 1, none⟩ = some (.int .i64 (b : Nat)) from x1)
  have qx2 := cell_regrown (show V0.cell? ⟨gx, 2, none⟩ = some (.int .u32 (gw : Nat)) from x2)
  have cL : ∀ d os, Calls Try.prog 23 #[.int .u32 (pn : Nat), .int .i64 (b : Nat)] (grow (redrawn V0 d) os) fun e w'' => e = .returned (.int .u32 (pn : Nat)) ∧ ∃ p : Regrown, w'' = grow (redrawn V0 p.d) p.os := fun d os => Calls.regrown_of ((HPL.out _).mono fun _ _ h => ⟨h.1, h.2 ▸ Below.refl _ _⟩)
  refine wp_region_quiet_below (by kernel_rfl) (by kernel_rfl) ?_
  repeat (go_big_quiet_step (first | (go_at_call 23; exact cL _ _)))
  refine wpQuiet_nil ?_
  intro _ hw'
  obtain ⟨⟨dq, osq⟩, hw''⟩ := hw'
  subst hw''
  have hB := below_regrown V0 dq osq
  clear qx0 qx1 qx2 cL
  dsimp only
  generalize grow (redrawn V0 dq) osq = V1 at hB ⊢
  have hB' := hB
  clear hB
  have X1 := Lib.hid ((hB'.block _ (blk_lt X0.out)).trans X0.out)
  have T1 := Lib.hid (T0.out.below hB')
  have Q1 := Lib.hid (Q0.out.trans (hB'.mono Q0.out.size))
  clear hB' x0 x1 x2 X0 T0 Q0
  go_wp2_with fail
  have HROW := Lib.hid (fun q (e : (Value.slice p L.length k).ownBlock = some q) => (HT.out.own.ownB q e).2)
  rw [HGX.out] at HROW
  go_loopw [5] (fun iv wr => ∃ i : Nat, i ≤ L.length ∧ iv = .int .i64 i ∧ Hid (∀ r ∈ L.take i, ¬ (r.net = pn ∧ r.bits = (b : Int))) ∧ Below V1.heap.size V1 wr) (fun iv _ => L.length - (intOf iv).toNat)
  case atStart => exact ⟨0, by omega, rfl, Lib.hid (fun r hr => by simp at hr), Below.refl _ _⟩
  case round =>
    obtain ⟨i, hi, rfl, HNO, hq⟩ := hrel
    have X2 := Lib.hid ((hq.block _ (blk_lt X1.out)).trans X1.out)
    have T2 := Lib.hid (T1.out.below hq)
    have B2 := Lib.hid hq
    have Q2 := Lib.hid (Q1.out.trans (hq.mono Q1.out.size))
    clear hq
    have t0 := blk_cell T2.out.blk 0
    have x0 := blk_cell X2.out 0
    have x1 := blk_cell X2.out 1
    have x2 := blk_cell X2.out 2
    by_cases hlt : i < L.length
    case neg =>
      obtain rfl : i = L.length := by omega
      have j1 : ¬ ((L.length : Int) < (L.length : Int)) := by omega
      have hno := HNO.out
      rw [List.take_length] at hno
      have hlk := rlook_take hno
      clear hno HNO
      by_cases hf : 256 ≤ L.length
      case pos =>
        have j2 : (256 : Int) ≤ (L.length : Int) := by omega
        have HE : Hid (addE L ⟨pn, b, gw⟩ = 81) := Lib.hid (by rw [HEE.out, if_neg (by simp [hlk]), if_pos hf])
        clear hlk
        go_wp2
        go_ret
        exact ⟨by rw [HE.out]; rfl, ⟨p, k, by rw [addL, if_neg (by rw [HE.out]; decide)]; exact T2.out⟩, .of_below _ Q2.out⟩
      case neg =>
        have j2 : ¬ ((256 : Int) ≤ (L.length : Int)) := by omega
        have HE : Hid (addE L ⟨pn, b, gw⟩ = 0) := Lib.hid (by rw [HEE.out, if_neg (by simp [hlk]), if_neg hf])
        clear hlk
        go_upto_region 12 with fail
        clear t0 x0 x1 x2
        refine wp_region_until (S := fun W' => (W'.heap[gt]? = some (.cells #[.slice p L.length k] 28 (0, 0)) ∧ W'.heap[gx]? = some (.cells #[.int .u32 (pn : Nat), .int .i64 (b : Nat), .int .u32 (gw : Nat)] 31 (0, 0)))) 10 (by kernel_rfl) ⟨blk_drew T2.out.blk, blk_drew X2.out⟩ (fun hHeld => ?_)
        refine wpAnyU_take (i := 0) (oi := _) (v := ?_) rfl (by kernel_rfl) (by kernel_rfl) (by kernel_rfl) (by kernel_rfl) (fun _ _ _ h => h) (Or.inl ⟨by rfl, ?_⟩) (by assumption) ?_
        rotate_left
        · intro w5 hSw
          clear hSw
          go_simp
          all_goals with_reducible rfl
        (try simp only [List.getElem_toArray]); (try simp only [List.getElem_cons_succ]); (try simp only [List.getElem_cons_zero]); try simp only [Act.put, List.setIfInBounds_toArray, List.set_cons_zero, List.set_cons_succ]
        refine wpAnyU_take (i := 1) (oi := _) (v := ?_) rfl (by kernel_rfl) (by kernel_rfl) (by kernel_rfl) (by kernel_rfl) (fun _ _ _ h => h) (Or.inl ⟨by rfl, ?_⟩) (by assumption) ?_
        rotate_left
        · intro w5 hSw
          clear hSw
          go_simp
          all_goals with_reducible rfl
        (try simp only [List.getElem_toArray]); (try simp only [List.getElem_cons_succ]); (try simp only [List.getElem_cons_zero]); try simp only [Act.put, List.setIfInBounds_toArray, List.set_cons_zero, List.set_cons_succ]
        refine wpAnyU_take (i := 2) (oi := _) (v := ?_) rfl (by kernel_rfl) (by kernel_rfl) (by kernel_rfl) (by kernel_rfl) (fun _ _ _ h => h) (Or.inl ⟨by rfl, ?_⟩) (by assumption) ?_
        rotate_left
        · intro w5 hSw
          clear hSw
          go_simp
          all_goals with_reducible rfl
        (try simp only [List.getElem_toArray]); (try simp only [List.getElem_cons_succ]); (try simp only [List.getElem_cons_zero]); try simp only [Act.put, List.setIfInBounds_toArray, List.set_cons_zero, List.set_cons_succ]
        refine wpAnyU_take (i := 3) (oi := _) (v := ?_) rfl (by kernel_rfl) (by kernel_rfl) (by kernel_rfl) (by kernel_rfl) (fun _ _ _ h => h) (Or.inl ⟨by rfl, ?_⟩) (by assumption) ?_
        rotate_left
        · intro w5 hSw
          clear hSw
          go_simp
          all_goals with_reducible rfl
        (try simp only [List.getElem_toArray]); (try simp only [List.getElem_cons_succ]); (try simp only [List.getElem_cons_zero]); try simp only [Act.put, List.setIfInBounds_toArray, List.set_cons_zero, List.set_cons_succ]
        refine wpAnyU_take (i := 4) (oi := _) (v := ?_) rfl (by kernel_rfl) (by kernel_rfl) (by kernel_rfl) (by kernel_rfl) (fun _ _ _ h => h) (Or.inl ⟨by rfl, ?_⟩) (by assumption) ?_
        rotate_left
        · intro w5 hSw
          have t0 := blk_cell hSw.1 0
          clear hSw
          go_simp
          all_goals with_reducible rfl
        (try simp only [List.getElem_toArray]); (try simp only [List.getElem_cons_succ]); (try simp only [List.getElem_cons_zero]); try simp only [Act.put, List.setIfInBounds_toArray, List.set_cons_zero, List.set_cons_succ]
        refine wpAnyU_take (i := 5) (oi := _) (v := ?_) rfl (by kernel_rfl) (by kernel_rfl) (by kernel_rfl) (by kernel_rfl) (fun _ _ _ h => h) (Or.inl ⟨by rfl, ?_⟩) (by assumption) ?_
        rotate_left
        · intro w5 hSw
          have x0 := blk_cell hSw.2 0
          have x1 := blk_cell hSw.2 1
          have x2 := blk_cell hSw.2 2
          clear hSw
          go_simp
          all_goals with_reducible rfl
        (try simp only [List.getElem_toArray]); (try simp only [List.getElem_cons_succ]); (try simp only [List.getElem_cons_zero]); try simp only [Act.put, List.setIfInBounds_toArray, List.set_cons_zero, List.set_cons_succ]
        obtain ⟨V3, hV3⟩ : ∃ V, wr.drew = V := ⟨_, rfl⟩
        have O3 : Hid (OwnR 31 3 Route10.cells B p L k V3) := Lib.hid (hV3 ▸ T2.out.own.below (Below.refl wr.heap.size wr).drew)
        have Q3 : Hid (Below W.heap.size W V3) := Lib.hid (hV3 ▸ Q2.out.drew)
        rw [hV3] at hHeld ⊢
        clear hV3
        have BAL := Lib.hid ((Below.refl V3.heap.size V3).alloc (Nat.le_refl _) (.cells #[.int .u32 (pn : Nat), .int .i64 (b : Nat), .int .u32 (gw : Nat)] 31))
        refine wpAnyU_one (i := 6) (by kernel_rfl) rfl (fun K hK => ?_)
        (try simp only [List.getElem_toArray]); (try simp only [List.getElem_cons_succ]); (try simp only [List.getElem_cons_zero])
        go_simp
        refine hK.out _ _ ⟨(BAL.out.block _ (blk_lt hHeld.1)).trans hHeld.1, (BAL.out.block _ (blk_lt hHeld.2)).trans hHeld.2⟩ (fun hHeld => ?_)
        clear hK K
        (try simp only [List.getElem_toArray]); (try simp only [List.getElem_cons_succ]); (try simp only [List.getElem_cons_zero]); try simp only [Act.put, List.setIfInBounds_toArray, List.set_cons_zero, List.set_cons_succ]
        have hq3 := Q3.out.size
        have hb3 := BAL.out.size
        have hgt2 : gt < B := HT.out.lt
        refine wpAnyU_one (i := 7) (by kernel_rfl) rfl (fun K hK => ?_)
        (try simp only [List.getElem_toArray]); (try simp only [List.getElem_cons_succ]); (try simp only [List.getElem_cons_zero])
        refine step_append_r (act := ⟨_, _⟩) (w := V3.alloc (.cells #[.int .u32 (pn : Nat), .int .i64 (b : Nat), .int .u32 (gw : Nat)] 31)) (t := 26) (e := 31) (z := .agg #[.int .u32 0, .int .i64 0, .int .u32 0]) (m := 3) (bz := 24) (cells := Route10.cells) (xs := L) (ys := [⟨pn, b, gw⟩]) (cap := k) (dap := 1) (n := 1) (a := p) (b := some ⟨V3.heap.size, 0, none⟩) ?_ elemR encR (.tmp 65) (.tmp 67) ?_ B ?_ (O3.out.below BAL.out) (sts_new encR V3 [⟨pn, b, gw⟩] 31 (0, 0)) (fun e => by cases e) ?_ ?_ (by simp only [List.length_cons, List.length_nil]; omega) (by unfold maxLen; simp only [List.length_cons, List.length_nil]; omega) (by omega) ?_
        · rfl
        · rfl
        · rfl
        · rfl
        · rfl
        intro a5 c5 V5 O5 b5 g5
        have O5h := Lib.hid O5
        have B5h := Lib.hid b5
        have G5h := Lib.hid g5
        clear O5 b5 g5
        refine hK.out _ _ ⟨(B5h.out.block _ hgt2).trans hHeld.1, (G5h.out.block gx (blk_lt hHeld.2) (fun e => by have h1 := (T2.out.own.ownB gx e.symm).2; have h2 := (T1.out.own.ownB gx e.symm).1; have h3 := HROW.out gx e.symm; omega)).trans hHeld.2⟩ (fun hHeld => ?_)
        clear hK K
        try simp only [Act.put, List.setIfInBounds_toArray, List.set_cons_zero, List.set_cons_succ]
        generalize hL2 : L ++ [(⟨pn, b, gw⟩ : Route10)] = L2 at O5h ⊢
        refine wpAnyU_one (i := 8) (by kernel_rfl) rfl (fun K hK => ?_)
        (try simp only [List.getElem_toArray]); (try simp only [List.getElem_cons_succ]); (try simp only [List.getElem_cons_zero])
        go_simp
        refine hK.out _ _ hHeld (fun hHeld => ?_)
        clear hK K
        try simp only [Act.put, List.setIfInBounds_toArray, List.set_cons_zero, List.set_cons_succ]
        refine wpAnyU_take (i := 9) (oi := _) (v := ?_) rfl (by kernel_rfl) (by kernel_rfl) (by kernel_rfl) (by kernel_rfl) (fun _ _ _ h => h) (Or.inl ⟨by rfl, ?_⟩) (by assumption) ?_
        rotate_left
        · intro w5 hSw
          clear hSw
          go_simp
          all_goals with_reducible rfl
        (try simp only [List.getElem_toArray]); (try simp only [List.getElem_cons_succ]); (try simp only [List.getElem_cons_zero]); try simp only [Act.put, List.setIfInBounds_toArray, List.set_cons_zero, List.set_cons_succ]
        have t0 := blk_cell hHeld.1 0
        have f0 := blk_free hHeld.1 0
        have SF := blk_set hHeld.1 0 (.slice a5 L2.length c5)
        simp only [List.setIfInBounds_toArray, List.set_cons_zero] at SF
        have GF := gr_set V5 gt 0 (.slice a5 L2.length c5)
        refine wpAnyU_last (by kernel_rfl) rfl (fun K hK => ?_)
        (try simp only [List.getElem_toArray]); (try simp only [List.getElem_cons_succ]); (try simp only [List.getElem_cons_zero])
        go_simp
        refine hK.out _ _ ?_
        clear hK K
        (try simp only [List.getElem_toArray]); (try simp only [List.getElem_cons_succ]); (try simp only [List.getElem_cons_zero]); try simp only [Act.put, List.setIfInBounds_toArray, List.set_cons_zero, List.set_cons_succ]
        refine wpAnyU_done (by kernel_rfl) ?_ _
        have SF2 := Lib.hid SF
        have GF2 := Lib.hid GF
        have HL2 := Lib.hid hL2
        clear SF GF t0 f0 hL2
        go_wp2
        go_ret
        refine ⟨by rw [HE.out]; rfl, ⟨a5, c5, ?_⟩, ?_⟩
        · rw [addL, if_pos HE.out, HL2.out]
          exact ⟨SF2.out, O5h.out.grown GF2.out (fun g e e2 => by have h1 := (O5h.out.ownB g (by rw [e]; rfl)).1; have := Option.some.inj e2; omega), HT.out.lt⟩
        · have t1 : Turns (rowS gt p L.length k) W (V3.alloc (.cells #[.int .u32 (pn : Nat), .int .i64 (b : Nat), .int .u32 (gw : Nat)] 31)) := .of_below _ (Q3.out.trans (BAL.out.mono Q3.out.size))
          exact (t1.trans (.of_grown (fun q e => .inr e) G5h.out)).grown (.inl rfl) GF2.out
    case pos =>
      have j1 : (i : Int) < (L.length : Int) := by omega
      obtain ⟨y, hy⟩ : ∃ y, L[i]? = some y := ⟨_, List.getElem?_eq_getElem hlt⟩
      obtain ⟨g7, rfl, hg7, _⟩ := T2.out.own.isSome (by omega)
      obtain ⟨_, m0, m1, m2⟩ := r_at (T2.out.own.sts encR) hy
      rw [Nat.zero_add] at m0 m1 m2
      by_cases h1 : y.net = pn
      case neg =>
        have v4 : ((y.net : Int) == (pn : Int)) = false := by rw [beq_eq_false_iff_ne]; omega
        have v5 : ¬ ((y.net : Int) = (pn : Int)) := by omega
        have HN2 : Hid (∀ r ∈ L.take (i + 1), ¬ (r.net = pn ∧ r.bits = (b : Int))) := Lib.hid (fun r hr => by
          rw [List.take_add_one, hy] at hr
          rcases List.mem_append.1 hr with hr | hr
          · exact HNO.out r hr
          · simp at hr; subst hr; exact fun hh => h1 hh.1)
        clear h1 hy
        go_wp2_with fail
        go_quiet (fail)
        go_wp2_with fail
        go_roundw
        case rel => exact ⟨i + 1, by omega, by go_num, HN2, below_drewN B2.out _⟩
        case measure => simp [intOf]; omega
      case pos =>
      have v4 : ((y.net : Int) == (pn : Int)) = true := by rw [h1]; simp
      have v5 : ((y.net : Int) = (pn : Int)) := by omega
      by_cases h2 : y.bits = (b : Int)
      case neg =>
        have v6 : (y.bits == (b : Int)) = false := by rw [beq_eq_false_iff_ne]; exact h2
        have HN2 : Hid (∀ r ∈ L.take (i + 1), ¬ (r.net = pn ∧ r.bits = (b : Int))) := Lib.hid (fun r hr => by
          rw [List.take_add_one, hy] at hr
          rcases List.mem_append.1 hr with hr | hr
          · exact HNO.out r hr
          · simp at hr; subst hr; exact fun hh => h2 hh.2)
        clear h1 h2 v5 hy
        go_wp2_with fail
        go_quiet (fail)
        go_wp2_with fail
        go_roundw
        case rel => exact ⟨i + 1, by omega, by go_num, HN2, below_drewN B2.out _⟩
        case measure => simp [intOf]; omega
      case pos =>
      have v6 : (y.bits == (b : Int)) = true := by rw [h2]; simp
      have HE : Hid (addE L ⟨pn, b, gw⟩ = 6) := Lib.hid (by rw [HEE.out, if_pos]; rw [← h1, ← h2]; exact rlook_hit hy)
      clear h1 h2 v5 hy
      go_wp2_with fail
      go_quiet (fail)
      go_wp2
      go_ret
      exact ⟨by rw [HE.out]; rfl, ⟨some ⟨g7, 0, none⟩, k, by rw [addL, if_neg (by rw [HE.out]; decide)]; exact T2.out.below (below_drewN (Below.refl _ _) _)⟩, .of_below _ (below_drewN Q2.out _)⟩
end Go.Proofs.Ytinlacdngojlaaa
