/- The document's scoreboard: Pipe. -/
import Derived.Test.YtcachmjcninkbaaScZ
import Derived.Lib.MinMax
namespace Go.Proofs.Ytcachmjcninkbaa
open Go.RowKit Go.Sort Go.BigFrame

theorem gV_bd {mss : Int} {hi p q st : Nat} {sp : List (Nat × Nat)} (h1 : p < q) (h2 : q ≤ st) (h3 : st ≤ 1073741824) : 0 ≤ gV mss hi sp (p, q) ∧ gV mss hi sp (p, q) ≤ 2147483648 := by
  unfold gV
  split <;> (constructor <;> omega)
set_option maxRecDepth 100000 in
set_option maxHeartbeats 2000000 in
theorem rpipe_any (una nxt high : Nat) (a : Option Addr) (bs : List (Nat × Nat)) (c : Nat) (mss : Int) (w : World) (hu : una < 4294967296) (hx : nxt < 4294967296) (h : Sts 2 BC Tr w a bs) (hv : small2 bs) (hlen : bs.length ≤ 35184372088832) :
    Calls Try.prog 13 #[.agg #[.int .u32 (una : Nat), .int .u32 (nxt : Nat), .int .u32 (high : Nat), .slice a bs.length c], .int .i64 mss] w fun e w' => e = .returned (.tuple #[.int .i64 (ppO una nxt high bs mss), .int .i64 (ckE una nxt high bs mss)]) ∧ Below w.heap.size w w' := by
  have HL := Lib.hid h
  have HV := Lib.hid hv
  have wh := pl_wrap (x := high) hu
  have wh2 := u32_i64 (pl_lt una high)
  obtain ⟨E, hE⟩ : ∃ E, ckE una nxt high bs mss = E := ⟨_, rfl⟩
  have HE := Lib.hid hE
  have HPP : Hid (ppO una nxt high bs mss = if E = 0 then pipeS mss (pl una high) (hol (pl una nxt) 0 (sps una bs)) else 0) := Lib.hid (by unfold ppO; rw [hE])
  clear h hv hE
  go_enter Try.func13, Try.ntmps13
  go_upto_region 1 with fail
  have S0 := Lib.hid (blk_new w (.cells #[.int .u32 (una : Nat), .int .u32 (nxt : Nat), .int .u32 (high : Nat), .slice a bs.length c] 25))
  have Q0 := Lib.hid ((Below.refl w.heap.size w).alloc (Nat.le_refl _) (.cells #[.int .u32 (una : Nat), .int .u32 (nxt : Nat), .int .u32 (high : Nat), .slice a bs.length c] 25))
  generalize w.alloc (.cells #[.int .u32 (una : Nat), .int .u32 (nxt : Nat), .int .u32 (high : Nat), .slice a bs.length c] 25) = V0 at S0 Q0 ⊢
  have c0 := blk_cell S0.out 0
  have c1 := blk_cell S0.out 1
  have c2 := blk_cell S0.out 2
  have c3 := blk_cell S0.out 3
  go_wp2_with fail
  refine (rckm_any una nxt high a bs c mss V0 hu (Sts.belowT HL.out Q0.out) hlen).mono ?_
  rintro e V1 ⟨rfl, hB⟩
  rw [HE.out]
  have S1 := Lib.hid ((hB.block _ (blk_lt S0.out)).trans S0.out)
  have Q1 := Lib.hid (Q0.out.trans (hB.mono Q0.out.size))
  clear hB c0 c1 c2 c3 S0 Q0
  by_cases h0 : E = 0
  case neg =>
    have HP2 : Hid (ppO una nxt high bs mss = 0) := Lib.hid (by rw [HPP.out, if_neg h0])
    clear HPP
    go_wp2
    go_ret2
    exact ⟨by rw [HP2.out, HE.out]; rfl, Q1.out⟩
  case pos =>
  subst h0
  obtain ⟨hok, hm⟩ := ck_ok HE.out
  obtain ⟨k1, k2, k3, k4⟩ := okS_iff.1 hok
  have HP2 : Hid (ppO una nxt high bs mss = pipeG mss (pl una high) (sps una bs) (sps una (gapsB nxt una bs))) := Lib.hid (by rw [HPP.out, if_pos rfl, pipe_both mss _ hu hx HV.out k4])
  have HOK := Lib.hid k4
  obtain ⟨gs, hgs⟩ : ∃ z, gapsB nxt una bs = z := ⟨_, rfl⟩
  have HGS : Hid (∀ x ∈ gs, x.1 < 4294967296 ∧ pl una x.1 < pl una x.2 ∧ pl una x.2 ≤ pl una nxt) := Lib.hid (fun x hxm => by
    rw [← hgs] at hxm
    have h1 := gaps_small hx bs una hu HV.out x hxm
    have h2 : (pl una x.1, pl una x.2) ∈ sps una (gapsB nxt una bs) := List.mem_map.2 ⟨x, hxm, rfl⟩
    rw [sps_gaps hu hx bs una hu HV.out, pl_self hu] at h2
    have h3 := gapS_lt _ 0 HOK.out (Nat.zero_le _) _ h2
    exact ⟨h1.1, h3.1, h3.2⟩)
  have hgl : gs.length ≤ 1025 := by have := (gaps_len nxt una bs).1; rw [hgs] at this; omega
  rw [hgs] at HP2
  obtain ⟨st, hst⟩ : ∃ z, pl una nxt = z := ⟨_, rfl⟩
  obtain ⟨hi, hhi⟩ : ∃ z, pl una high = z := ⟨_, rfl⟩
  rw [hst] at k1 k2 HGS HOK
  rw [hhi] at k2 wh wh2 HP2
  have HH := Lib.hid hgs
  clear hok k4 HPP hst hhi hgs
  have c0 := blk_cell S1.out 0
  have c1 := blk_cell S1.out 1
  have c2 := blk_cell S1.out 2
  have c3 := blk_cell S1.out 3
  go_wp2_with fail
  refine (rholes_any una nxt high a bs c V1 (Sts.belowT HL.out Q1.out) k3).mono ?_
  rintro e V2 ⟨⟨a', c', rfl, hO⟩, hB⟩
  rw [HH.out] at hO ⊢
  have S2 := Lib.hid ((hB.block _ (blk_lt S1.out)).trans S1.out)
  have L2 := Lib.hid (hO.sts encB)
  have Q2 := Lib.hid (Q1.out.trans (hB.mono Q1.out.size))
  clear hB hO c0 c1 c2 c3 S1 Q1
  go_wp2_with fail
  go_loopw [7, 9] (fun nv iv wr => ∃ (i : Nat) (N : Int), i ≤ gs.length ∧ iv = .int .i64 i ∧ nv = .int .i64 N ∧ 0 ≤ N ∧ N ≤ (i : Int) * 2147483648 ∧ Hid (pipeG mss hi (sps una bs) (sps una (gs.take i)) = N) ∧ Below V2.heap.size V2 wr) (fun _ iv _ => gs.length - (intOf iv).toNat)
  case atStart => exact ⟨0, 0, by omega, rfl, rfl, by omega, by omega, Lib.hid rfl, Below.refl _ _⟩
  case round =>
    obtain ⟨i, N, hi9, rfl, rfl, n0, n1, HN, hq0⟩ := hrel
    have BR := Lib.hid hq0
    clear hq0
    by_cases hlt : i < gs.length
    case neg =>
      obtain rfl : i = gs.length := by omega
      have HN2 : Hid (ppO una nxt high bs mss = N) := Lib.hid (by have := HN.out; rw [List.take_length] at this; rw [HP2.out, this])
      clear hlt
      go_wp2
      go_ret2
      exact ⟨by rw [HN2.out, HE.out]; rfl, Q2.out.trans (BR.out.mono Q2.out.size)⟩
    case pos =>
      have i1 : (i : Int) < (gs.length : Int) := by omega
      obtain ⟨x, hxg⟩ : ∃ x, gs[i]? = some x := ⟨_, List.getElem?_eq_getElem hlt⟩
      obtain ⟨g, o, rfl, _, _⟩ := L2.out.isSomeT (by omega)
      obtain ⟨hg, p0, p1⟩ := b_at L2.out hxg
      have m0 := (BR.out.cell (p := ⟨g, o + i * 2, none⟩) hg).trans p0
      have m1 := (BR.out.cell (p := ⟨g, o + i * 2 + 1, none⟩) hg).trans p1
      obtain ⟨hx1, hlr, hrs⟩ := HGS.out x (List.mem_of_getElem? hxg)
      have w3 := pl_wrap (x := x.2) hx1
      have w4 := pl_wrap (x := x.1) hu
      have hsub := pl_sub hx1 hlr
      have e : sps una (gs.take (i + 1)) = sps una (gs.take i) ++ [(pl una x.1, pl una x.2)] := by rw [List.take_add_one, hxg]; simp [sps]
      obtain ⟨p, hp⟩ : ∃ t, pl una x.1 = t := ⟨_, rfl⟩
      obtain ⟨q, hq⟩ : ∃ t, pl una x.2 = t := ⟨_, rfl⟩
      rw [hsub] at w3
      rw [hp, hq] at e w3
      rw [hp] at w4 hlr
      rw [hq] at hlr hrs
      have hn2 : pipeG mss hi (sps una bs) (sps una (gs.take (i + 1))) = N + gV mss hi (sps una bs) (p, q) := by rw [e, pipeG_snoc, HN.out]
      obtain ⟨gb1, gb2⟩ := gV_bd (mss := mss) (hi := hi) (sp := sps una bs) hlr hrs k1
      obtain ⟨k, hk⟩ : ∃ t, q - p = t := ⟨_, rfl⟩
      rw [hk] at w3
      have hgv : gV mss hi (sps una bs) (p, q) = (if lostP mss p (sps una bs) = true then 0 else (k : Int)) + max 0 (min (k : Int) ((hi : Int) - (p : Int))) := by
        unfold gV
        have e1 : ((q : Int) - (p : Int)) = (k : Int) := by omega
        rw [e1]
      have w5 := u32_i64 (show k < 4294967296 by omega)
      have w6 := u32_i64 (show p < 4294967296 by omega)
      have w7 : IntKind.i64.wrap ((hi : Int) - (p : Int)) = (hi : Int) - (p : Int) := IntWalk.i64_in _ ⟨by omega, by omega⟩
      obtain ⟨mm, hmm⟩ : ∃ z, max 0 (min (k : Int) ((hi : Int) - (p : Int))) = z := ⟨_, rfl⟩
      have hmb : 0 ≤ mm ∧ mm ≤ 1073741824 := by omega
      obtain ⟨mm0, mm1⟩ := hmb
      have hkb : (k : Int) ≤ 1073741824 := by omega
      rw [hgv, hmm] at hn2
      rw [hgv, hmm] at gb1 gb2
      obtain ⟨lb, hlb⟩ : ∃ z, lostP mss p (sps una bs) = z := ⟨_, rfl⟩
      rw [hlb] at hn2 gb1 gb2
      have HRL := Lib.hid (fun V (hS : Sts 2 BC Tr V a bs) => rlost_any una nxt high a bs c x.1 mss V hu hS HV.out k3 hm k1 HOK.out)
      rw [hp, hlb] at HRL
      have HN2 := Lib.hid hn2
      have GB := Lib.hid gb2
      have HMM := Lib.hid hmm
      clear p0 p1 hxg e hsub hn2 hgv gb1 gb2 hlb hlr hrs hp hq hk hmm
      go_wp2_with fail
      go_quiet (fail)
      have B5 := Lib.hid (below_drewN BR.out nq)
      have n2 : (wr.drewN nq).cell? ⟨g, o + i * 2, none⟩ = some (.int .u32 (x.1 : Nat)) := m0
      clear m0 m1 BR
      generalize wr.drewN nq = V5 at B5 n2 ⊢
      have S5 := Lib.hid ((B5.out.block _ (blk_lt S2.out)).trans S2.out)
      have LS5 := Lib.hid (Sts.belowT HL.out (Q2.out.trans (B5.out.mono Q2.out.size)))
      have c0 := blk_cell S5.out 0
      have c1 := blk_cell S5.out 1
      have c2 := blk_cell S5.out 2
      have c3 := blk_cell S5.out 3
      go_upto_region 10 with fail
      have qc0 := cell_regrown (show V5.cell? ⟨w.heap.size, 0, none⟩ = some (.int .u32 (una : Nat)) from c0)
      have qc1 := cell_regrown (show V5.cell? ⟨w.heap.size, 1, none⟩ = some (.int .u32 (nxt : Nat)) from c1)
      have qc2 := cell_regrown (show V5.cell? ⟨w.heap.size, 2, none⟩ = some (.int .u32 (high : Nat)) from c2)
      have qc3 := cell_regrown (show V5.cell? ⟨w.heap.size, 3, none⟩ = some (.slice a bs.length c) from c3)
      have qn2 := cell_regrown (show V5.cell? ⟨g, o + i * 2, none⟩ = some (.int .u32 (x.1 : Nat)) from n2)
      have cS : ∀ d os, Calls Try.prog 41 #[.agg #[.int .u32 (una : Nat), .int .u32 (nxt : Nat), .int .u32 (high : Nat), .slice a bs.length c], .int .i64 mss, .int .u32 (x.1 : Nat)] (grow (redrawn V5 d) os) fun e w'' => e = .returned (.bool lb) ∧ ∃ p : Regrown, w'' = grow (redrawn V5 p.d) p.os := fun d os => Calls.regrown_of (HRL.out _ (Sts.belowT LS5.out (below_regrown V5 d os)))
      refine wp_region_quiet_below (by kernel_rfl) (by kernel_rfl) ?_
      repeat (go_big_quiet_step (first | (go_at_call 41; exact cS _ _)))
      refine wpQuiet_nil ?_
      intro _ hw'
      obtain ⟨⟨dq, osq⟩, hw''⟩ := hw'
      subst hw''
      have hB := below_regrown V5 dq osq
      clear qc0 qc1 qc2 qc3 qn2 cS
      dsimp only
      generalize grow (redrawn V5 dq) osq = V6 at hB ⊢
      have B6 := Lib.hid (B5.out.trans (hB.mono B5.out.size))
      have S6 := Lib.hid ((hB.block _ (blk_lt S5.out)).trans S5.out)
      have n3 := (hB.cell (p := ⟨g, o + i * 2, none⟩) (Nat.lt_of_lt_of_le hg B5.out.size)).trans n2
      clear hB n2 c0 c1 c2 c3 B5 S5 LS5
      have c0 := blk_cell S6.out 0
      have c1 := blk_cell S6.out 1
      have c2 := blk_cell S6.out 2
      have c3 := blk_cell S6.out 3
      have hmx : max 0 (min (k : Int) ((hi : Int) - (p : Int))) = mm := HMM.out
      cases lb
      case true =>
        have HN3 : Hid (pipeG mss hi (sps una bs) (sps una (gs.take (i + 1))) = N + mm) := Lib.hid (by rw [HN2.out, if_pos rfl]; omega)
        clear HN2 GB
        go_wp2_with fail
        go_quiet (fail)
        have B7 := Lib.hid (below_drewN B6.out nq)
        go_wp2_with fail
        go_roundw
        case rel => exact ⟨i + 1, N + mm, by omega, by go_num, by go_num, by omega, by omega, HN3, B7.out⟩
        case measure => simp [intOf]; omega
      case false =>
        have HN3 : Hid (pipeG mss hi (sps una bs) (sps una (gs.take (i + 1))) = N + (k : Int) + mm) := Lib.hid (by rw [HN2.out, if_neg (by decide)]; omega)
        have gb3 := GB.out
        rw [if_neg (by decide)] at gb3
        clear HN2 GB
        go_wp2_with fail
        go_quiet (fail)
        have B7 := Lib.hid (below_drewN B6.out nq)
        go_wp2_with fail
        go_roundw
        case rel => exact ⟨i + 1, N + (k : Int) + mm, by omega, by go_num, by go_num, by omega, by omega, HN3, B7.out⟩
        case measure => simp [intOf]; omega
end Go.Proofs.Ytcachmjcninkbaa
