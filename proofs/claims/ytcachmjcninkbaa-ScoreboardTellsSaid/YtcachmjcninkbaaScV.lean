/- The document's scoreboard: Next. -/
import Derived.Test.YtcachmjcninkbaaScZ
import Derived.Lib.MinMax
namespace Go.Proofs.Ytcachmjcninkbaa
open Go.RowKit Go.Sort Go.BigFrame

set_option maxRecDepth 100000 in
set_option maxHeartbeats 4000000 in
theorem rnext_any (una nxt high : Nat) (a : Option Addr) (bs : List (Nat × Nat)) (c : Nat) (mss : Int) (rs : Bool) (w : World) (hu : una < 4294967296) (hx : nxt < 4294967296) (hh : high < 4294967296) (h : Sts 2 BC Tr w a bs) (hv : small2 bs) (hlen : bs.length ≤ 35184372088832) :
    Calls Try.prog 15 #[.agg #[.int .u32 (una : Nat), .int .u32 (nxt : Nat), .int .u32 (high : Nat), .slice a bs.length c], .int .i64 mss, .bool rs] w fun e w' => e = .returned (.tuple #[.agg (nxB una (nxO una nxt high bs mss rs)), .bool (nxO una nxt high bs mss rs).isSome, .int .i64 (nxE una nxt high bs mss)]) ∧ Below w.heap.size w w' := by
  have HL := Lib.hid h
  have HV := Lib.hid hv
  have wh := pl_wrap (x := high) hu
  obtain ⟨E, hE⟩ : ∃ E, ckE una nxt high bs mss = E := ⟨_, rfl⟩
  have HE := Lib.hid hE
  clear h hv hE
  go_enter Try.func15, Try.ntmps15
  go_upto_region 1 with fail
  obtain ⟨x1, x2, x3, x4⟩ := two_b w (.cells #[.int .u32 (una : Nat), .int .u32 (nxt : Nat), .int .u32 (high : Nat), .slice a bs.length c] 25) (.cells #[.int .u32 0, .int .u32 0] 38)
  have S0 := Lib.hid x1
  have Z0 := Lib.hid x2
  have Q0 := Lib.hid x4
  clear x1 x2 x3 x4
  generalize (w.alloc (.cells #[.int .u32 (una : Nat), .int .u32 (nxt : Nat), .int .u32 (high : Nat), .slice a bs.length c] 25)).alloc (.cells #[.int .u32 0, .int .u32 0] 38) = V0 at S0 Z0 Q0 ⊢
  have c0 := blk_cell S0.out 0
  have c1 := blk_cell S0.out 1
  have c2 := blk_cell S0.out 2
  have c3 := blk_cell S0.out 3
  go_wp2_with fail
  refine (rckm_any una nxt high a bs c mss V0 hu (Sts.belowT HL.out Q0.out) hlen).mono ?_
  rintro e V1 ⟨rfl, hB⟩
  rw [HE.out]
  have S1 := Lib.hid ((hB.block _ (blk_lt S0.out)).trans S0.out)
  have Z1 := Lib.hid ((hB.block _ (blk_lt Z0.out)).trans Z0.out)
  have Q1 := Lib.hid (Q0.out.trans (hB.mono Q0.out.size))
  clear hB c0 c1 c2 c3 S0 Z0 Q0
  by_cases h0 : E = 0
  case neg =>
    have HNO : Hid (nxO una nxt high bs mss rs = none) := Lib.hid (by unfold nxO; rw [HE.out, if_neg h0])
    have hz := blk_lt Z1.out
    go_wp2_with (first
      | ((with_reducible show wpList _ _ _ _ _ _); refine wpList_store_blk rowBk (t := 38) (w := V1) rfl (.tmp 6) (.tmp 19) rfl (w.heap.size + 1) #[.int .u32 0, .int .u32 0] #[.int .u32 0, .int .u32 0] rfl rfl Z1.out rfl rfl (by simp [Value.oneCell']) ?_; intro V7 hb7 hg7; have ZB7 := Lib.hid hb7; have Q7 := Lib.hid (Q1.out.grown hg7 (by have := Q1.out.size; omega) (fun k e => by have := Option.some.inj e; omega)); clear hb7 hg7)
      | fail)
    refine bodyPost_ret (results_ctt rowBk rfl _ _ (w.heap.size + 1) _ (.bool false) (.int .i64 E) rfl rfl rfl ZB7.out rfl) rfl ⟨?_, Q7.out⟩
    rw [HNO.out]
    show _ = Ending.returned (.tuple #[_, _, .int .i64 (ckE una nxt high bs mss)])
    rw [HE.out]; rfl
  case pos =>
  subst h0
  obtain ⟨hok, hm⟩ := ck_ok HE.out
  obtain ⟨m1, m2⟩ := id hm
  obtain ⟨k1, k2, k3, k4⟩ := okS_iff.1 hok
  have HOK := Lib.hid k4
  obtain ⟨hi, hhi⟩ : ∃ z, pl una high = z := ⟨_, rfl⟩
  obtain ⟨hs, hhs⟩ : ∃ z, hol (pl una nxt) 0 (sps una bs) = z := ⟨_, rfl⟩
  obtain ⟨fo, hfo⟩ : ∃ z, hs.find? (nextF mss hi rs) = z := ⟨_, rfl⟩
  have HNO : Hid (nxO una nxt high bs mss rs = fo.map fun h => (max h.l hi, min (max h.l hi + mss.toNat) h.r)) := Lib.hid (by unfold nxO; rw [HE.out, if_pos rfl, hhi, hhs, hfo])
  obtain ⟨gs, hgs⟩ : ∃ z, gapsB nxt una bs = z := ⟨_, rfl⟩
  obtain ⟨hgl1, hgl2⟩ := gaps_len nxt una bs
  rw [hgs] at hgl1 hgl2
  have HGS : Hid (∀ x ∈ gs, x.1 < 4294967296 ∧ x.2 < 4294967296) := Lib.hid (fun x hxm => by
    rw [← hgs] at hxm
    exact gaps_small hx bs una hu HV.out x hxm)
  have HGET : Hid (∀ i, i < bs.length → ∃ h x, hs[i]? = some h ∧ h ∈ hs ∧ 0 < h.b ∧ gs[i]? = some x ∧ pl una x.1 = h.l ∧ pl una x.2 = h.r ∧ h.l < h.r ∧ h.r ≤ pl una nxt) := Lib.hid (fun i hi9 => by
    obtain ⟨h, a1, a2, a3, a4, a5⟩ := hol_get (sps una bs) 0 i HOK.out (by rw [sps_len]; exact hi9)
    rw [← pl_self hu, ← sps_gaps hu hx bs una hu HV.out, hgs] at a3
    obtain ⟨x, b1, b2⟩ : ∃ x, gs[i]? = some x ∧ (pl una x.1, pl una x.2) = (h.l, h.r) := by
      unfold sps at a3
      rw [List.getElem?_map] at a3
      cases hg : gs[i]? with
      | none => rw [hg] at a3; cases a3
      | some x => rw [hg] at a3; exact ⟨x, rfl, Option.some.inj a3⟩
    rw [hhs] at a1
    exact ⟨h, x, a1, List.mem_of_getElem? a1, a2, b1, congrArg Prod.fst b2, congrArg Prod.snd b2, a4, a5⟩)
  have HLAST : Hid ((hs.drop bs.length).find? (nextF mss hi rs) = none) := Lib.hid (by
    rw [← hhs, ← sps_len una bs]; exact next_last mss hi rs _ 0)
  have hhi2 : pl una high = hi := hhi
  rw [hhi] at k2 wh
  have HSS : Hid (hol (pl una nxt) 0 (sps una bs) = hs) := Lib.hid hhs
  have HFO := Lib.hid hfo
  have HH := Lib.hid hgs
  have HHI := Lib.hid hhi
  obtain ⟨st, hst⟩ : ∃ z, pl una nxt = z := ⟨_, rfl⟩
  rw [hst] at k1 k2 HGET HOK HSS
  clear hok k4 hhi hhi2 hhs hfo hgs hst
  have c0 := blk_cell S1.out 0
  have c1 := blk_cell S1.out 1
  have c2 := blk_cell S1.out 2
  have c3 := blk_cell S1.out 3
  go_wp2_with fail
  refine (rholes_any una nxt high a bs c V1 (Sts.belowT HL.out Q1.out) k3).mono ?_
  rintro e V2 ⟨⟨a', c', rfl, hO⟩, hB⟩
  rw [HH.out] at hO ⊢
  have S2 := Lib.hid ((hB.block _ (blk_lt S1.out)).trans S1.out)
  have Z2 := Lib.hid ((hB.block _ (blk_lt Z1.out)).trans Z1.out)
  have L2 := Lib.hid (hO.sts encB)
  have Q2 := Lib.hid (Q1.out.trans (hB.mono Q1.out.size))
  clear hB hO c0 c1 c2 c3 S1 Z1 Q1
  go_wp2_with fail
  go_loopw [11] (fun iv wr => ∃ i : Nat, i ≤ bs.length ∧ iv = .int .i64 i ∧ Hid ((hs.drop i).find? (nextF mss hi rs) = fo) ∧ Below V2.heap.size V2 wr) (fun iv _ => bs.length - (intOf iv).toNat)
  case atStart => exact ⟨0, by omega, rfl, Lib.hid HFO.out, Below.refl _ _⟩
  case round =>
    obtain ⟨i, hi9, rfl, HN, hq0⟩ := hrel
    have BR := Lib.hid hq0
    clear hq0
    have SR := Lib.hid ((BR.out.block _ (blk_lt S2.out)).trans S2.out)
    have c0 := blk_cell SR.out 0
    have c1 := blk_cell SR.out 1
    have c2 := blk_cell SR.out 2
    have c3 := blk_cell SR.out 3
    by_cases hlt : i < bs.length
    case neg =>
      obtain rfl : i = bs.length := by omega
      have HNN : Hid (nxO una nxt high bs mss rs = none) := Lib.hid (by
        have h1 := HN.out
        rw [HLAST.out] at h1
        rw [HNO.out, ← h1]; rfl)
      have ZR := Lib.hid ((BR.out.block _ (blk_lt Z2.out)).trans Z2.out)
      have QR := Lib.hid (Q2.out.trans (BR.out.mono Q2.out.size))
      have hz := blk_lt ZR.out
      have i2 : ¬ ((bs.length : Int) < (bs.length : Int)) := by omega
      by_cases hgg : bs.length < gs.length
      · have i1 : (bs.length : Int) < (gs.length : Int) := by omega
        go_wp2_with (first
          | ((with_reducible show wpList _ _ _ _ _ _); refine wpList_store_blk rowBk (t := 38) (w := wr) rfl (.tmp 6) (.tmp 93) rfl (w.heap.size + 1) #[.int .u32 0, .int .u32 0] #[.int .u32 0, .int .u32 0] rfl rfl ZR.out rfl rfl (by simp [Value.oneCell']) ?_; intro V7 hb7 hg7; have ZB7 := Lib.hid hb7; have Q7 := Lib.hid (QR.out.grown hg7 (by have := QR.out.size; omega) (fun k e => by have := Option.some.inj e; omega)); clear hb7 hg7)
          | fail)
        refine bodyPost_ret (results_ctt rowBk rfl _ _ (w.heap.size + 1) _ (.bool false) (.int .i64 0) rfl rfl rfl ZB7.out rfl) rfl ⟨?_, Q7.out⟩
        rw [HNN.out]
        show _ = Ending.returned (.tuple #[_, _, .int .i64 (ckE una nxt high bs mss)])
        rw [HE.out]; rfl
      · have i1 : ¬ ((bs.length : Int) < (gs.length : Int)) := by omega
        go_wp2_with (first
          | ((with_reducible show wpList _ _ _ _ _ _); refine wpList_store_blk rowBk (t := 38) (w := wr) rfl (.tmp 6) (.tmp 93) rfl (w.heap.size + 1) #[.int .u32 0, .int .u32 0] #[.int .u32 0, .int .u32 0] rfl rfl ZR.out rfl rfl (by simp [Value.oneCell']) ?_; intro V7 hb7 hg7; have ZB7 := Lib.hid hb7; have Q7 := Lib.hid (QR.out.grown hg7 (by have := QR.out.size; omega) (fun k e => by have := Option.some.inj e; omega)); clear hb7 hg7)
          | fail)
        refine bodyPost_ret (results_ctt rowBk rfl _ _ (w.heap.size + 1) _ (.bool false) (.int .i64 0) rfl rfl rfl ZB7.out rfl) rfl ⟨?_, Q7.out⟩
        rw [HNN.out]
        show _ = Ending.returned (.tuple #[_, _, .int .i64 (ckE una nxt high bs mss)])
        rw [HE.out]; rfl
    case pos =>
      have i1 : (i : Int) < (gs.length : Int) := by omega
      have i2 : (i : Int) < (bs.length : Int) := by omega
      obtain ⟨h, x, hg1, hg2, hg3, hxg, hp0, hq0, hpq, hqs⟩ := HGET.out i hlt
      obtain ⟨g, o, rfl, _, _⟩ := L2.out.isSomeT (by omega)
      obtain ⟨hg, p0, p1⟩ := b_at L2.out hxg
      have n0 := (BR.out.cell (p := ⟨g, o + i * 2, none⟩) hg).trans p0
      have n1 := (BR.out.cell (p := ⟨g, o + i * 2 + 1, none⟩) hg).trans p1
      obtain ⟨hx1, hx2⟩ := HGS.out x (List.mem_of_getElem? hxg)
      have w3 := pl_wrap (x := x.1) hu
      have w4 := pl_wrap (x := x.2) hu
      obtain ⟨p, hp⟩ : ∃ t, pl una x.1 = t := ⟨_, rfl⟩
      obtain ⟨q, hq⟩ : ∃ t, pl una x.2 = t := ⟨_, rfl⟩
      have HPP := Lib.hid hp
      have HPQ := Lib.hid hq
      rw [hp] at w3 hp0
      rw [hq] at w4 hq0
      have HPL : Hid (h.l = p) := Lib.hid hp0.symm
      have HRQ : Hid (h.r = q) := Lib.hid hq0.symm
      have HMEM : Hid (h ∈ hol st 0 (sps una bs)) := Lib.hid (by rw [HSS.out]; exact hg2)
      have HB0 := Lib.hid hg3
      have HFD : Hid ((if nextF mss hi rs h = true then some h else (hs.drop (i + 1)).find? (nextF mss hi rs)) = fo) := Lib.hid (by rw [← find_drop hg1]; exact HN.out)
      rw [← hp0, ← hq0] at hpq
      rw [← hq0] at hqs
      have LS5 := Lib.hid (Sts.belowT HL.out (Q2.out.trans (BR.out.mono Q2.out.size)))
      clear p0 p1 hxg hg1 hg2 hg3 hp hq hp0 hq0 HN
      by_cases hph : p < hi
      case pos =>
        have d1 : decide (p < hi) = true := decide_eq_true hph
        have hF := hh
        have hFm := HHI.out
        by_cases hmq : hi < q
        case neg =>
          have d3 : decide (q ≤ hi) = true := decide_eq_true (by omega)
          have d4 : decide ((q : Int) ≤ (hi : Int)) = true := decide_eq_true (by omega)
          have HN2 : Hid ((hs.drop (i + 1)).find? (nextF mss hi rs) = fo) := Lib.hid (by
            have h1 := HFD.out
            rw [if_neg (by unfold nextF; rw [HRQ.out, decide_eq_false (show ¬ hi < q by omega)]; simp)] at h1
            exact h1)
          clear hmq
          go_upto_region 11 with fail
          have qc0 := cell_regrown (show wr.cell? ⟨w.heap.size, 0, none⟩ = some (.int .u32 (una : Nat)) from c0)
          have qc1 := cell_regrown (show wr.cell? ⟨w.heap.size, 1, none⟩ = some (.int .u32 (nxt : Nat)) from c1)
          have qc2 := cell_regrown (show wr.cell? ⟨w.heap.size, 2, none⟩ = some (.int .u32 (high : Nat)) from c2)
          have qc3 := cell_regrown (show wr.cell? ⟨w.heap.size, 3, none⟩ = some (.slice a bs.length c) from c3)
          have qn0 := cell_regrown (show wr.cell? ⟨g, o + i * 2, none⟩ = some (.int .u32 (x.1 : Nat)) from n0)
          have qn1 := cell_regrown (show wr.cell? ⟨g, o + i * 2 + 1, none⟩ = some (.int .u32 (x.2 : Nat)) from n1)
          refine wp_region_quiet_below (by kernel_rfl) (by kernel_rfl) ?_
          repeat (go_big_quiet_step (first | fail))
          refine wpQuiet_nil ?_
          intro _ hw'
          obtain ⟨⟨dq, osq⟩, hw''⟩ := hw'
          subst hw''
          have hB := below_regrown wr dq osq
          clear qc0 qc1 qc2 qc3 qn0 qn1
          dsimp only
          generalize grow (redrawn wr dq) osq = V6 at hB ⊢
          have B6 := Lib.hid (BR.out.trans (hB.mono BR.out.size))
          clear hB n0 n1 c0 c1 c2 c3 BR SR LS5
          go_wp2_with fail
          go_roundw
          case rel => exact ⟨i + 1, by omega, by go_num, HN2, B6.out⟩
          case measure => simp [intOf]; omega
        case pos =>
        have d3 : decide (q ≤ hi) = false := decide_eq_false (by omega)
        have d4 : decide ((q : Int) ≤ (hi : Int)) = false := decide_eq_false (by omega)
        have hmx : max h.l hi = hi := by have := HPL.out; omega
        have hsub : pl high x.2 = q - hi := by
          have h1 := pl_sub (u := una) (a := high) (b := x.2) hF (by rw [hFm, HPQ.out]; exact hmq)
          rw [hFm, HPQ.out] at h1; exact h1
        have hFi : (una + hi) % 4294967296 = high := by rw [← hFm]; exact pl_inv hu hF
        have hlost : lostP mss hi (sps una bs) = lostB mss h := lostP_hol mss HOK.out (Nat.zero_le _) (by omega) HMEM.out (by have := HPL.out; omega) (.inl (by rw [HRQ.out]; exact hmq))
        obtain ⟨lb, hlb⟩ : ∃ z, lostP mss hi (sps una bs) = z := ⟨_, rfl⟩
        have HRL := Lib.hid (fun V (hS : Sts 2 BC Tr V a bs) => rlost_any una nxt high a bs c high mss V hu hS HV.out k3 hm k1 HOK.out)
        rw [hFm, hlb] at HRL
        rw [hlb] at hlost
        have HNF : Hid (nextF mss hi rs h = (rs || lb)) := Lib.hid (by unfold nextF; rw [HRQ.out, decide_eq_true (show hi < q by omega), decide_eq_true HB0.out, ← hlost]; rfl)
        clear hlb hlost
        rcases Bool.eq_false_or_eq_true rs with hr | hr
        case inl =>
          subst hr
          have HFS : Hid (fo = some h) := Lib.hid (by
            have h1 := HFD.out
            rw [if_pos (by rw [HNF.out]; rfl)] at h1
            exact h1.symm)
          clear HNF
          go_upto_region 11 with fail
          have qc0 := cell_regrown (show wr.cell? ⟨w.heap.size, 0, none⟩ = some (.int .u32 (una : Nat)) from c0)
          have qc1 := cell_regrown (show wr.cell? ⟨w.heap.size, 1, none⟩ = some (.int .u32 (nxt : Nat)) from c1)
          have qc2 := cell_regrown (show wr.cell? ⟨w.heap.size, 2, none⟩ = some (.int .u32 (high : Nat)) from c2)
          have qc3 := cell_regrown (show wr.cell? ⟨w.heap.size, 3, none⟩ = some (.slice a bs.length c) from c3)
          have qn0 := cell_regrown (show wr.cell? ⟨g, o + i * 2, none⟩ = some (.int .u32 (x.1 : Nat)) from n0)
          have qn1 := cell_regrown (show wr.cell? ⟨g, o + i * 2 + 1, none⟩ = some (.int .u32 (x.2 : Nat)) from n1)
          refine wp_region_quiet_below (by kernel_rfl) (by kernel_rfl) ?_
          repeat (go_big_quiet_step (first | fail))
          refine wpQuiet_nil ?_
          intro _ hw'
          obtain ⟨⟨dq, osq⟩, hw''⟩ := hw'
          subst hw''
          have hB := below_regrown wr dq osq
          clear qc0 qc1 qc2 qc3 qn0 qn1
          dsimp only
          generalize grow (redrawn wr dq) osq = V6 at hB ⊢
          have B6 := Lib.hid (BR.out.trans (hB.mono BR.out.size))
          have n1' := (hB.cell (p := ⟨g, o + i * 2 + 1, none⟩) (Nat.lt_of_lt_of_le hg BR.out.size)).trans n1
          clear hB n0 n1 c0 c1 c2 c3 BR SR LS5
          have hmn : IntKind.u32.wrap ((x.2 : Int) - (high : Int)) = ((q - hi : Nat) : Int) := by rw [pl_wrap (x := x.2) hF, hsub]
          obtain ⟨k, hk⟩ : ∃ t, q - hi = t := ⟨_, rfl⟩
          rw [hk] at hmn
          have w9 := u32_i64 (show k < 4294967296 by omega)
          obtain ⟨n, hn⟩ : ∃ t, min mss.toNat k = t := ⟨_, rfl⟩
          have hmin : min mss (k : Int) = (n : Int) := by omega
          have w10 : IntKind.u32.wrap (n : Int) = (n : Int) := by rw [IntKind.wrap_u32]; omega
          obtain ⟨r2, hr2⟩ : ∃ t, min (hi + mss.toNat) q = t := ⟨_, rfl⟩
          have hr3 : r2 = hi + n := by omega
          obtain ⟨R2, hR2⟩ : ∃ t, (una + r2) % 4294967296 = t := ⟨_, rfl⟩
          have w11 : IntKind.u32.wrap ((high : Int) + (n : Int)) = (R2 : Int) := by rw [IntKind.wrap_u32]; omega
          have HVS : Hid (nxB una (nxO una nxt high bs mss true) = #[.int .u32 (high : Nat), .int .u32 (R2 : Nat)]) := Lib.hid (by
            rw [HNO.out, HFS.out]
            show (#[.int .u32 (((una + max h.l hi) % 4294967296 : Nat) : Int), .int .u32 (((una + min (max h.l hi + mss.toNat) h.r) % 4294967296 : Nat) : Int)] : Array Value) = _
            rw [hmx, HRQ.out, hr2, hR2, hFi])
          have HIS : Hid ((nxO una nxt high bs mss true).isSome = true) := Lib.hid (by rw [HNO.out, HFS.out]; rfl)
          have S6 := Lib.hid ((B6.out.block _ (blk_lt S2.out)).trans S2.out)
          have Z6 := Lib.hid ((B6.out.block _ (blk_lt Z2.out)).trans Z2.out)
          have Q6 := Lib.hid (Q2.out.trans (B6.out.mono Q2.out.size))
          have hz := blk_lt Z6.out
          clear hk hn hr2 hr3 hR2 hmx hFi hsub HFS HRQ
          have c0 := blk_cell S6.out 0
          have c3 := blk_cell S6.out 3
          go_wp2_with (first
            | ((with_reducible show wpList _ _ _ _ _ _); refine wpList_store_blk rowBk (t := 38) (w := V6) rfl (.tmp 6) (.tmp 92) rfl (w.heap.size + 1) #[.int .u32 0, .int .u32 0] #[.int .u32 (high : Nat), .int .u32 (R2 : Nat)] rfl rfl Z6.out rfl rfl (by simp [Value.oneCell']) ?_; intro V7 hb7 hg7; have ZB7 := Lib.hid hb7; have Q7 := Lib.hid (Q6.out.grown hg7 (by have := Q6.out.size; omega) (fun k e => by have := Option.some.inj e; omega)); clear hb7 hg7)
            | fail)
          refine bodyPost_ret (results_ctt rowBk rfl _ _ (w.heap.size + 1) _ (.bool true) (.int .i64 0) rfl rfl rfl ZB7.out rfl) rfl ⟨?_, Q7.out⟩
          rw [HVS.out, HIS.out]
          show _ = Ending.returned (.tuple #[_, _, .int .i64 (ckE una nxt high bs mss)])
          rw [HE.out]
        case inr =>
          subst hr
          cases lb
          case true =>
            have HFS : Hid (fo = some h) := Lib.hid (by
              have h1 := HFD.out
              rw [if_pos (by rw [HNF.out]; rfl)] at h1
              exact h1.symm)
            clear HNF
            go_upto_region 11 with fail
            have qc0 := cell_regrown (show wr.cell? ⟨w.heap.size, 0, none⟩ = some (.int .u32 (una : Nat)) from c0)
            have qc1 := cell_regrown (show wr.cell? ⟨w.heap.size, 1, none⟩ = some (.int .u32 (nxt : Nat)) from c1)
            have qc2 := cell_regrown (show wr.cell? ⟨w.heap.size, 2, none⟩ = some (.int .u32 (high : Nat)) from c2)
            have qc3 := cell_regrown (show wr.cell? ⟨w.heap.size, 3, none⟩ = some (.slice a bs.length c) from c3)
            have qn0 := cell_regrown (show wr.cell? ⟨g, o + i * 2, none⟩ = some (.int .u32 (x.1 : Nat)) from n0)
            have qn1 := cell_regrown (show wr.cell? ⟨g, o + i * 2 + 1, none⟩ = some (.int .u32 (x.2 : Nat)) from n1)
            have cS : ∀ d os, Calls Try.prog 41 #[.agg #[.int .u32 (una : Nat), .int .u32 (nxt : Nat), .int .u32 (high : Nat), .slice a bs.length c], .int .i64 mss, .int .u32 (high : Nat)] (grow (redrawn wr d) os) fun e w'' => e = .returned (.bool true) ∧ ∃ p : Regrown, w'' = grow (redrawn wr p.d) p.os := fun d os => Calls.regrown_of (HRL.out _ (Sts.belowT LS5.out (below_regrown wr d os)))
            refine wp_region_quiet_below (by kernel_rfl) (by kernel_rfl) ?_
            repeat (go_big_quiet_step (first | (go_at_call 41; exact cS _ _)))
            refine wpQuiet_nil ?_
            intro _ hw'
            obtain ⟨⟨dq, osq⟩, hw''⟩ := hw'
            subst hw''
            have hB := below_regrown wr dq osq
            clear qc0 qc1 qc2 qc3 qn0 qn1 cS
            dsimp only
            generalize grow (redrawn wr dq) osq = V6 at hB ⊢
            have B6 := Lib.hid (BR.out.trans (hB.mono BR.out.size))
            have n1' := (hB.cell (p := ⟨g, o + i * 2 + 1, none⟩) (Nat.lt_of_lt_of_le hg BR.out.size)).trans n1
            clear hB n0 n1 c0 c1 c2 c3 BR SR LS5
            have hmn : IntKind.u32.wrap ((x.2 : Int) - (high : Int)) = ((q - hi : Nat) : Int) := by rw [pl_wrap (x := x.2) hF, hsub]
            obtain ⟨k, hk⟩ : ∃ t, q - hi = t := ⟨_, rfl⟩
            rw [hk] at hmn
            have w9 := u32_i64 (show k < 4294967296 by omega)
            obtain ⟨n, hn⟩ : ∃ t, min mss.toNat k = t := ⟨_, rfl⟩
            have hmin : min mss (k : Int) = (n : Int) := by omega
            have w10 : IntKind.u32.wrap (n : Int) = (n : Int) := by rw [IntKind.wrap_u32]; omega
            obtain ⟨r2, hr2⟩ : ∃ t, min (hi + mss.toNat) q = t := ⟨_, rfl⟩
            have hr3 : r2 = hi + n := by omega
            obtain ⟨R2, hR2⟩ : ∃ t, (una + r2) % 4294967296 = t := ⟨_, rfl⟩
            have w11 : IntKind.u32.wrap ((high : Int) + (n : Int)) = (R2 : Int) := by rw [IntKind.wrap_u32]; omega
            have HVS : Hid (nxB una (nxO una nxt high bs mss false) = #[.int .u32 (high : Nat), .int .u32 (R2 : Nat)]) := Lib.hid (by
              rw [HNO.out, HFS.out]
              show (#[.int .u32 (((una + max h.l hi) % 4294967296 : Nat) : Int), .int .u32 (((una + min (max h.l hi + mss.toNat) h.r) % 4294967296 : Nat) : Int)] : Array Value) = _
              rw [hmx, HRQ.out, hr2, hR2, hFi])
            have HIS : Hid ((nxO una nxt high bs mss false).isSome = true) := Lib.hid (by rw [HNO.out, HFS.out]; rfl)
            have S6 := Lib.hid ((B6.out.block _ (blk_lt S2.out)).trans S2.out)
            have Z6 := Lib.hid ((B6.out.block _ (blk_lt Z2.out)).trans Z2.out)
            have Q6 := Lib.hid (Q2.out.trans (B6.out.mono Q2.out.size))
            have hz := blk_lt Z6.out
            clear hk hn hr2 hr3 hR2 hmx hFi hsub HFS HRQ
            have c0 := blk_cell S6.out 0
            have c3 := blk_cell S6.out 3
            go_wp2_with (first
              | ((with_reducible show wpList _ _ _ _ _ _); refine wpList_store_blk rowBk (t := 38) (w := V6) rfl (.tmp 6) (.tmp 92) rfl (w.heap.size + 1) #[.int .u32 0, .int .u32 0] #[.int .u32 (high : Nat), .int .u32 (R2 : Nat)] rfl rfl Z6.out rfl rfl (by simp [Value.oneCell']) ?_; intro V7 hb7 hg7; have ZB7 := Lib.hid hb7; have Q7 := Lib.hid (Q6.out.grown hg7 (by have := Q6.out.size; omega) (fun k e => by have := Option.some.inj e; omega)); clear hb7 hg7)
              | fail)
            refine bodyPost_ret (results_ctt rowBk rfl _ _ (w.heap.size + 1) _ (.bool true) (.int .i64 0) rfl rfl rfl ZB7.out rfl) rfl ⟨?_, Q7.out⟩
            rw [HVS.out, HIS.out]
            show _ = Ending.returned (.tuple #[_, _, .int .i64 (ckE una nxt high bs mss)])
            rw [HE.out]
          case false =>
            have HN2 : Hid ((hs.drop (i + 1)).find? (nextF mss hi false) = fo) := Lib.hid (by
              have h1 := HFD.out
              rw [if_neg (by rw [HNF.out]; simp)] at h1
              exact h1)
            clear HNF
            go_upto_region 11 with fail
            have qc0 := cell_regrown (show wr.cell? ⟨w.heap.size, 0, none⟩ = some (.int .u32 (una : Nat)) from c0)
            have qc1 := cell_regrown (show wr.cell? ⟨w.heap.size, 1, none⟩ = some (.int .u32 (nxt : Nat)) from c1)
            have qc2 := cell_regrown (show wr.cell? ⟨w.heap.size, 2, none⟩ = some (.int .u32 (high : Nat)) from c2)
            have qc3 := cell_regrown (show wr.cell? ⟨w.heap.size, 3, none⟩ = some (.slice a bs.length c) from c3)
            have qn0 := cell_regrown (show wr.cell? ⟨g, o + i * 2, none⟩ = some (.int .u32 (x.1 : Nat)) from n0)
            have qn1 := cell_regrown (show wr.cell? ⟨g, o + i * 2 + 1, none⟩ = some (.int .u32 (x.2 : Nat)) from n1)
            have cS : ∀ d os, Calls Try.prog 41 #[.agg #[.int .u32 (una : Nat), .int .u32 (nxt : Nat), .int .u32 (high : Nat), .slice a bs.length c], .int .i64 mss, .int .u32 (high : Nat)] (grow (redrawn wr d) os) fun e w'' => e = .returned (.bool false) ∧ ∃ p : Regrown, w'' = grow (redrawn wr p.d) p.os := fun d os => Calls.regrown_of (HRL.out _ (Sts.belowT LS5.out (below_regrown wr d os)))
            refine wp_region_quiet_below (by kernel_rfl) (by kernel_rfl) ?_
            repeat (go_big_quiet_step (first | (go_at_call 41; exact cS _ _)))
            refine wpQuiet_nil ?_
            intro _ hw'
            obtain ⟨⟨dq, osq⟩, hw''⟩ := hw'
            subst hw''
            have hB := below_regrown wr dq osq
            clear qc0 qc1 qc2 qc3 qn0 qn1 cS
            dsimp only
            generalize grow (redrawn wr dq) osq = V6 at hB ⊢
            have B6 := Lib.hid (BR.out.trans (hB.mono BR.out.size))
            clear hB n0 n1 c0 c1 c2 c3 BR SR LS5
            go_wp2_with fail
            go_roundw
            case rel => exact ⟨i + 1, by omega, by go_num, HN2, B6.out⟩
            case measure => simp [intOf]; omega
      case neg =>
        have d1 : decide (p < hi) = false := decide_eq_false hph
        have hF := hx1
        have hFm := HPP.out
        by_cases hmq : p < q
        case neg =>
          have d3 : decide (q ≤ p) = true := decide_eq_true (by omega)
          have d4 : decide ((q : Int) ≤ (p : Int)) = true := decide_eq_true (by omega)
          have HN2 : Hid ((hs.drop (i + 1)).find? (nextF mss hi rs) = fo) := Lib.hid (by
            have h1 := HFD.out
            rw [if_neg (by unfold nextF; rw [HRQ.out, decide_eq_false (show ¬ hi < q by omega)]; simp)] at h1
            exact h1)
          clear hmq
          go_upto_region 11 with fail
          have qc0 := cell_regrown (show wr.cell? ⟨w.heap.size, 0, none⟩ = some (.int .u32 (una : Nat)) from c0)
          have qc1 := cell_regrown (show wr.cell? ⟨w.heap.size, 1, none⟩ = some (.int .u32 (nxt : Nat)) from c1)
          have qc2 := cell_regrown (show wr.cell? ⟨w.heap.size, 2, none⟩ = some (.int .u32 (high : Nat)) from c2)
          have qc3 := cell_regrown (show wr.cell? ⟨w.heap.size, 3, none⟩ = some (.slice a bs.length c) from c3)
          have qn0 := cell_regrown (show wr.cell? ⟨g, o + i * 2, none⟩ = some (.int .u32 (x.1 : Nat)) from n0)
          have qn1 := cell_regrown (show wr.cell? ⟨g, o + i * 2 + 1, none⟩ = some (.int .u32 (x.2 : Nat)) from n1)
          refine wp_region_quiet_below (by kernel_rfl) (by kernel_rfl) ?_
          repeat (go_big_quiet_step (first | fail))
          refine wpQuiet_nil ?_
          intro _ hw'
          obtain ⟨⟨dq, osq⟩, hw''⟩ := hw'
          subst hw''
          have hB := below_regrown wr dq osq
          clear qc0 qc1 qc2 qc3 qn0 qn1
          dsimp only
          generalize grow (redrawn wr dq) osq = V6 at hB ⊢
          have B6 := Lib.hid (BR.out.trans (hB.mono BR.out.size))
          clear hB n0 n1 c0 c1 c2 c3 BR SR LS5
          go_wp2_with fail
          go_roundw
          case rel => exact ⟨i + 1, by omega, by go_num, HN2, B6.out⟩
          case measure => simp [intOf]; omega
        case pos =>
        have d3 : decide (q ≤ p) = false := decide_eq_false (by omega)
        have d4 : decide ((q : Int) ≤ (p : Int)) = false := decide_eq_false (by omega)
        have hmx : max h.l hi = p := by have := HPL.out; omega
        have hsub : pl x.1 x.2 = q - p := by
          have h1 := pl_sub (u := una) (a := x.1) (b := x.2) hF (by rw [hFm, HPQ.out]; exact hmq)
          rw [hFm, HPQ.out] at h1; exact h1
        have hFi : (una + p) % 4294967296 = x.1 := by rw [← hFm]; exact pl_inv hu hF
        have hlost : lostP mss p (sps una bs) = lostB mss h := lostP_hol mss HOK.out (Nat.zero_le _) (by omega) HMEM.out (by have := HPL.out; omega) (.inl (by rw [HRQ.out]; exact hmq))
        obtain ⟨lb, hlb⟩ : ∃ z, lostP mss p (sps una bs) = z := ⟨_, rfl⟩
        have HRL := Lib.hid (fun V (hS : Sts 2 BC Tr V a bs) => rlost_any una nxt high a bs c x.1 mss V hu hS HV.out k3 hm k1 HOK.out)
        rw [hFm, hlb] at HRL
        rw [hlb] at hlost
        have HNF : Hid (nextF mss hi rs h = (rs || lb)) := Lib.hid (by unfold nextF; rw [HRQ.out, decide_eq_true (show hi < q by omega), decide_eq_true HB0.out, ← hlost]; rfl)
        clear hlb hlost
        rcases Bool.eq_false_or_eq_true rs with hr | hr
        case inl =>
          subst hr
          have HFS : Hid (fo = some h) := Lib.hid (by
            have h1 := HFD.out
            rw [if_pos (by rw [HNF.out]; rfl)] at h1
            exact h1.symm)
          clear HNF
          go_upto_region 11 with fail
          have qc0 := cell_regrown (show wr.cell? ⟨w.heap.size, 0, none⟩ = some (.int .u32 (una : Nat)) from c0)
          have qc1 := cell_regrown (show wr.cell? ⟨w.heap.size, 1, none⟩ = some (.int .u32 (nxt : Nat)) from c1)
          have qc2 := cell_regrown (show wr.cell? ⟨w.heap.size, 2, none⟩ = some (.int .u32 (high : Nat)) from c2)
          have qc3 := cell_regrown (show wr.cell? ⟨w.heap.size, 3, none⟩ = some (.slice a bs.length c) from c3)
          have qn0 := cell_regrown (show wr.cell? ⟨g, o + i * 2, none⟩ = some (.int .u32 (x.1 : Nat)) from n0)
          have qn1 := cell_regrown (show wr.cell? ⟨g, o + i * 2 + 1, none⟩ = some (.int .u32 (x.2 : Nat)) from n1)
          refine wp_region_quiet_below (by kernel_rfl) (by kernel_rfl) ?_
          repeat (go_big_quiet_step (first | fail))
          refine wpQuiet_nil ?_
          intro _ hw'
          obtain ⟨⟨dq, osq⟩, hw''⟩ := hw'
          subst hw''
          have hB := below_regrown wr dq osq
          clear qc0 qc1 qc2 qc3 qn0 qn1
          dsimp only
          generalize grow (redrawn wr dq) osq = V6 at hB ⊢
          have B6 := Lib.hid (BR.out.trans (hB.mono BR.out.size))
          have n1' := (hB.cell (p := ⟨g, o + i * 2 + 1, none⟩) (Nat.lt_of_lt_of_le hg BR.out.size)).trans n1
          clear hB n0 n1 c0 c1 c2 c3 BR SR LS5
          have hmn : IntKind.u32.wrap ((x.2 : Int) - (x.1 : Int)) = ((q - p : Nat) : Int) := by rw [pl_wrap (x := x.2) hF, hsub]
          obtain ⟨k, hk⟩ : ∃ t, q - p = t := ⟨_, rfl⟩
          rw [hk] at hmn
          have w9 := u32_i64 (show k < 4294967296 by omega)
          obtain ⟨n, hn⟩ : ∃ t, min mss.toNat k = t := ⟨_, rfl⟩
          have hmin : min mss (k : Int) = (n : Int) := by omega
          have w10 : IntKind.u32.wrap (n : Int) = (n : Int) := by rw [IntKind.wrap_u32]; omega
          obtain ⟨r2, hr2⟩ : ∃ t, min (p + mss.toNat) q = t := ⟨_, rfl⟩
          have hr3 : r2 = p + n := by omega
          obtain ⟨R2, hR2⟩ : ∃ t, (una + r2) % 4294967296 = t := ⟨_, rfl⟩
          have w11 : IntKind.u32.wrap ((x.1 : Int) + (n : Int)) = (R2 : Int) := by rw [IntKind.wrap_u32]; omega
          have HVS : Hid (nxB una (nxO una nxt high bs mss true) = #[.int .u32 (x.1 : Nat), .int .u32 (R2 : Nat)]) := Lib.hid (by
            rw [HNO.out, HFS.out]
            show (#[.int .u32 (((una + max h.l hi) % 4294967296 : Nat) : Int), .int .u32 (((una + min (max h.l hi + mss.toNat) h.r) % 4294967296 : Nat) : Int)] : Array Value) = _
            rw [hmx, HRQ.out, hr2, hR2, hFi])
          have HIS : Hid ((nxO una nxt high bs mss true).isSome = true) := Lib.hid (by rw [HNO.out, HFS.out]; rfl)
          have S6 := Lib.hid ((B6.out.block _ (blk_lt S2.out)).trans S2.out)
          have Z6 := Lib.hid ((B6.out.block _ (blk_lt Z2.out)).trans Z2.out)
          have Q6 := Lib.hid (Q2.out.trans (B6.out.mono Q2.out.size))
          have hz := blk_lt Z6.out
          clear hk hn hr2 hr3 hR2 hmx hFi hsub HFS HRQ
          have c0 := blk_cell S6.out 0
          have c3 := blk_cell S6.out 3
          go_wp2_with (first
            | ((with_reducible show wpList _ _ _ _ _ _); refine wpList_store_blk rowBk (t := 38) (w := V6) rfl (.tmp 6) (.tmp 92) rfl (w.heap.size + 1) #[.int .u32 0, .int .u32 0] #[.int .u32 (x.1 : Nat), .int .u32 (R2 : Nat)] rfl rfl Z6.out rfl rfl (by simp [Value.oneCell']) ?_; intro V7 hb7 hg7; have ZB7 := Lib.hid hb7; have Q7 := Lib.hid (Q6.out.grown hg7 (by have := Q6.out.size; omega) (fun k e => by have := Option.some.inj e; omega)); clear hb7 hg7)
            | fail)
          refine bodyPost_ret (results_ctt rowBk rfl _ _ (w.heap.size + 1) _ (.bool true) (.int .i64 0) rfl rfl rfl ZB7.out rfl) rfl ⟨?_, Q7.out⟩
          rw [HVS.out, HIS.out]
          show _ = Ending.returned (.tuple #[_, _, .int .i64 (ckE una nxt high bs mss)])
          rw [HE.out]
        case inr =>
          subst hr
          cases lb
          case true =>
            have HFS : Hid (fo = some h) := Lib.hid (by
              have h1 := HFD.out
              rw [if_pos (by rw [HNF.out]; rfl)] at h1
              exact h1.symm)
            clear HNF
            go_upto_region 11 with fail
            have qc0 := cell_regrown (show wr.cell? ⟨w.heap.size, 0, none⟩ = some (.int .u32 (una : Nat)) from c0)
            have qc1 := cell_regrown (show wr.cell? ⟨w.heap.size, 1, none⟩ = some (.int .u32 (nxt : Nat)) from c1)
            have qc2 := cell_regrown (show wr.cell? ⟨w.heap.size, 2, none⟩ = some (.int .u32 (high : Nat)) from c2)
            have qc3 := cell_regrown (show wr.cell? ⟨w.heap.size, 3, none⟩ = some (.slice a bs.length c) from c3)
            have qn0 := cell_regrown (show wr.cell? ⟨g, o + i * 2, none⟩ = some (.int .u32 (x.1 : Nat)) from n0)
            have qn1 := cell_regrown (show wr.cell? ⟨g, o + i * 2 + 1, none⟩ = some (.int .u32 (x.2 : Nat)) from n1)
            have cS : ∀ d os, Calls Try.prog 41 #[.agg #[.int .u32 (una : Nat), .int .u32 (nxt : Nat), .int .u32 (high : Nat), .slice a bs.length c], .int .i64 mss, .int .u32 (x.1 : Nat)] (grow (redrawn wr d) os) fun e w'' => e = .returned (.bool true) ∧ ∃ p : Regrown, w'' = grow (redrawn wr p.d) p.os := fun d os => Calls.regrown_of (HRL.out _ (Sts.belowT LS5.out (below_regrown wr d os)))
            refine wp_region_quiet_below (by kernel_rfl) (by kernel_rfl) ?_
            repeat (go_big_quiet_step (first | (go_at_call 41; exact cS _ _)))
            refine wpQuiet_nil ?_
            intro _ hw'
            obtain ⟨⟨dq, osq⟩, hw''⟩ := hw'
            subst hw''
            have hB := below_regrown wr dq osq
            clear qc0 qc1 qc2 qc3 qn0 qn1 cS
            dsimp only
            generalize grow (redrawn wr dq) osq = V6 at hB ⊢
            have B6 := Lib.hid (BR.out.trans (hB.mono BR.out.size))
            have n1' := (hB.cell (p := ⟨g, o + i * 2 + 1, none⟩) (Nat.lt_of_lt_of_le hg BR.out.size)).trans n1
            clear hB n0 n1 c0 c1 c2 c3 BR SR LS5
            have hmn : IntKind.u32.wrap ((x.2 : Int) - (x.1 : Int)) = ((q - p : Nat) : Int) := by rw [pl_wrap (x := x.2) hF, hsub]
            obtain ⟨k, hk⟩ : ∃ t, q - p = t := ⟨_, rfl⟩
            rw [hk] at hmn
            have w9 := u32_i64 (show k < 4294967296 by omega)
            obtain ⟨n, hn⟩ : ∃ t, min mss.toNat k = t := ⟨_, rfl⟩
            have hmin : min mss (k : Int) = (n : Int) := by omega
            have w10 : IntKind.u32.wrap (n : Int) = (n : Int) := by rw [IntKind.wrap_u32]; omega
            obtain ⟨r2, hr2⟩ : ∃ t, min (p + mss.toNat) q = t := ⟨_, rfl⟩
            have hr3 : r2 = p + n := by omega
            obtain ⟨R2, hR2⟩ : ∃ t, (una + r2) % 4294967296 = t := ⟨_, rfl⟩
            have w11 : IntKind.u32.wrap ((x.1 : Int) + (n : Int)) = (R2 : Int) := by rw [IntKind.wrap_u32]; omega
            have HVS : Hid (nxB una (nxO una nxt high bs mss false) = #[.int .u32 (x.1 : Nat), .int .u32 (R2 : Nat)]) := Lib.hid (by
              rw [HNO.out, HFS.out]
              show (#[.int .u32 (((una + max h.l hi) % 4294967296 : Nat) : Int), .int .u32 (((una + min (max h.l hi + mss.toNat) h.r) % 4294967296 : Nat) : Int)] : Array Value) = _
              rw [hmx, HRQ.out, hr2, hR2, hFi])
            have HIS : Hid ((nxO una nxt high bs mss false).isSome = true) := Lib.hid (by rw [HNO.out, HFS.out]; rfl)
            have S6 := Lib.hid ((B6.out.block _ (blk_lt S2.out)).trans S2.out)
            have Z6 := Lib.hid ((B6.out.block _ (blk_lt Z2.out)).trans Z2.out)
            have Q6 := Lib.hid (Q2.out.trans (B6.out.mono Q2.out.size))
            have hz := blk_lt Z6.out
            clear hk hn hr2 hr3 hR2 hmx hFi hsub HFS HRQ
            have c0 := blk_cell S6.out 0
            have c3 := blk_cell S6.out 3
            go_wp2_with (first
              | ((with_reducible show wpList _ _ _ _ _ _); refine wpList_store_blk rowBk (t := 38) (w := V6) rfl (.tmp 6) (.tmp 92) rfl (w.heap.size + 1) #[.int .u32 0, .int .u32 0] #[.int .u32 (x.1 : Nat), .int .u32 (R2 : Nat)] rfl rfl Z6.out rfl rfl (by simp [Value.oneCell']) ?_; intro V7 hb7 hg7; have ZB7 := Lib.hid hb7; have Q7 := Lib.hid (Q6.out.grown hg7 (by have := Q6.out.size; omega) (fun k e => by have := Option.some.inj e; omega)); clear hb7 hg7)
              | fail)
            refine bodyPost_ret (results_ctt rowBk rfl _ _ (w.heap.size + 1) _ (.bool true) (.int .i64 0) rfl rfl rfl ZB7.out rfl) rfl ⟨?_, Q7.out⟩
            rw [HVS.out, HIS.out]
            show _ = Ending.returned (.tuple #[_, _, .int .i64 (ckE una nxt high bs mss)])
            rw [HE.out]
          case false =>
            have HN2 : Hid ((hs.drop (i + 1)).find? (nextF mss hi false) = fo) := Lib.hid (by
              have h1 := HFD.out
              rw [if_neg (by rw [HNF.out]; simp)] at h1
              exact h1)
            clear HNF
            go_upto_region 11 with fail
            have qc0 := cell_regrown (show wr.cell? ⟨w.heap.size, 0, none⟩ = some (.int .u32 (una : Nat)) from c0)
            have qc1 := cell_regrown (show wr.cell? ⟨w.heap.size, 1, none⟩ = some (.int .u32 (nxt : Nat)) from c1)
            have qc2 := cell_regrown (show wr.cell? ⟨w.heap.size, 2, none⟩ = some (.int .u32 (high : Nat)) from c2)
            have qc3 := cell_regrown (show wr.cell? ⟨w.heap.size, 3, none⟩ = some (.slice a bs.length c) from c3)
            have qn0 := cell_regrown (show wr.cell? ⟨g, o + i * 2, none⟩ = some (.int .u32 (x.1 : Nat)) from n0)
            have qn1 := cell_regrown (show wr.cell? ⟨g, o + i * 2 + 1, none⟩ = some (.int .u32 (x.2 : Nat)) from n1)
            have cS : ∀ d os, Calls Try.prog 41 #[.agg #[.int .u32 (una : Nat), .int .u32 (nxt : Nat), .int .u32 (high : Nat), .slice a bs.length c], .int .i64 mss, .int .u32 (x.1 : Nat)] (grow (redrawn wr d) os) fun e w'' => e = .returned (.bool false) ∧ ∃ p : Regrown, w'' = grow (redrawn wr p.d) p.os := fun d os => Calls.regrown_of (HRL.out _ (Sts.belowT LS5.out (below_regrown wr d os)))
            refine wp_region_quiet_below (by kernel_rfl) (by kernel_rfl) ?_
            repeat (go_big_quiet_step (first | (go_at_call 41; exact cS _ _)))
            refine wpQuiet_nil ?_
            intro _ hw'
            obtain ⟨⟨dq, osq⟩, hw''⟩ := hw'
            subst hw''
            have hB := below_regrown wr dq osq
            clear qc0 qc1 qc2 qc3 qn0 qn1 cS
            dsimp only
            generalize grow (redrawn wr dq) osq = V6 at hB ⊢
            have B6 := Lib.hid (BR.out.trans (hB.mono BR.out.size))
            clear hB n0 n1 c0 c1 c2 c3 BR SR LS5
            go_wp2_with fail
            go_roundw
            case rel => exact ⟨i + 1, by omega, by go_num, HN2, B6.out⟩
            case measure => simp [intOf]; omega
end Go.Proofs.Ytcachmjcninkbaa
