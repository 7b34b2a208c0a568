/- Scoreboard: octets of spans, what may be, what is lost. -/
import Derived.Test.YtcachmjcninkbaaScC
namespace Go.Proofs.Ytcachmjcninkbaa
open Go.RowKit

theorem small_take {l : List (Nat × Nat)} (h : small l) (i : Nat) : small (l.take i) := fun x hx => h x (List.mem_of_mem_take hx)
set_option maxRecDepth 100000 in
set_option maxHeartbeats 1000000 in
theorem octetsOf_any (a : Option Addr) (l : List (Nat × Nat)) (cap : Nat) (w : World) (h : Sts 2 SC Tr w a l) (hv : small l) (hl : l.length ≤ 1024) :
    Calls Try.prog 55 #[.slice a l.length cap] w fun e w' => e = .returned (.int .i64 (oct l)) ∧ Below w.heap.size w w' := by
  have HL := Lib.hid h
  have HV := Lib.hid hv
  clear h hv
  go_enter Try.func55, Try.ntmps55
  go_wp2_with fail
  go_loopw [3, 8] (fun sv iv wr => ∃ i : Nat, i ≤ l.length ∧ Hid (sv = .int .i64 (oct (l.take i))) ∧ iv = .int .i64 i ∧ Below w.heap.size w wr) (fun _ iv _ => l.length - (intOf iv).toNat)
  case atStart => exact ⟨0, by omega, Lib.hid rfl, rfl, Below.refl _ _⟩
  case round =>
    obtain ⟨i, hi, hsv, rfl, hq⟩ := hrel
    have QR := Lib.hid hq
    clear hq
    by_cases hlt : i < l.length
    case neg =>
      obtain rfl : i = l.length := by omega
      have h1 := hsv.out
      rw [List.take_length] at h1
      subst h1
      clear hsv
      go_wp2
      go_ret
      exact ⟨rfl, QR.out⟩
    case pos =>
      have i1 : (i : Int) < (l.length : Int) := by omega
      obtain ⟨x, hx⟩ : ∃ x, l[i]? = some x := ⟨_, List.getElem?_eq_getElem hlt⟩
      obtain ⟨g, o, rfl, _, _⟩ := HL.out.isSomeT (by omega)
      obtain ⟨hg, p0, p1⟩ := s_at HL.out hx
      have m0 := (QR.out.cell (p := ⟨g, o + i * 2, none⟩) hg).trans p0
      have m1 := (QR.out.cell (p := ⟨g, o + i * 2 + 1, none⟩) hg).trans p1
      have hb := oct_bd (small_take HV.out i)
      have hz := HV.out x (List.mem_of_getElem? hx)
      have hlen : ((l.take i).length : Int) ≤ 1024 := by rw [List.length_take]; omega
      have hn : oct (l.take (i + 1)) = oct (l.take i) + ((x.2 : Int) - (x.1 : Int)) := by rw [List.take_add_one, hx]; exact oct_snoc _ _
      have h1 := hsv.out
      obtain ⟨S, hS⟩ : ∃ S, oct (l.take i) = S := ⟨_, rfl⟩
      rw [hS] at hb hn h1
      have HN := Lib.hid hn
      have hb1 : -4398046511104 ≤ S ∧ S ≤ 4398046511104 := by omega
      obtain ⟨b1, b2⟩ := hb1
      obtain ⟨z1, z2⟩ := hz
      subst h1
      clear hS hn hb hsv hlen p0 p1 hx
      go_wp2_with fail
      go_roundw
      case rel => exact ⟨i + 1, by omega, Lib.hid (by rw [HN.out]), by go_num, by (repeat' (first | (with_reducible exact QR.out) | (with_reducible refine Below.alloc ?_ ?_ _) | (with_reducible refine Below.setCell ?_ ?_ _) | (with_reducible refine Below.drew ?_) | (with_reducible refine below_drewN ?_ _) | (have h9 := QR.out.size; omega) | (have h9 := QR.out.size; simp; omega)))⟩
      case measure => simp [intOf]; omega

set_option maxRecDepth 100000 in
set_option maxHeartbeats 2000000 in
theorem check_all (una nxt high : Nat) (a : Option Addr) (bs : List (Nat × Nat)) (c : Nat) (w : World) (hu : una < 4294967296) (h : Sts 2 BC Tr w a bs) (hlen : bs.length ≤ 35184372088832) :
    Calls Try.prog 17 #[.agg #[.int .u32 (una : Nat), .int .u32 (nxt : Nat), .int .u32 (high : Nat), .slice a bs.length c]] w fun e w' => e = .returned (.int .i64 (chkE una nxt high bs)) ∧ Below w.heap.size w w' := by
  have HL := Lib.hid h
  clear h
  go_enter Try.func17, Try.ntmps17
  go_upto_region 1 with fail
  have Q0 := Lib.hid ((Below.refl w.heap.size w).alloc (Nat.le_refl _) (.cells #[.int .u32 (una : Nat), .int .u32 (nxt : Nat), .int .u32 (high : Nat), .slice a bs.length c] 26))
  have S0 := Lib.hid (blk_new w (.cells #[.int .u32 (una : Nat), .int .u32 (nxt : Nat), .int .u32 (high : Nat), .slice a bs.length c] 26))
  generalize w.alloc (.cells #[.int .u32 (una : Nat), .int .u32 (nxt : Nat), .int .u32 (high : Nat), .slice a bs.length c] 26) = V0 at Q0 S0 ⊢
  have c0 := blk_cell S0.out 0
  have c1 := blk_cell S0.out 1
  have c2 := blk_cell S0.out 2
  have c3 := blk_cell S0.out 3
  go_wp2_with fail
  refine (place_any una nxt high a bs.length c nxt V0 hu).mono ?_
  rintro e V1 ⟨rfl, hBV1⟩
  have S1 := Lib.hid ((hBV1.block _ (blk_lt S0.out)).trans S0.out)
  have Q1 := Lib.hid (Q0.out.trans (hBV1.mono Q0.out.size))
  clear hBV1 c0 c1 c2 c3 S0 Q0
  obtain ⟨st, hst⟩ : ∃ z, pl una nxt = z := ⟨_, rfl⟩
  obtain ⟨hi, hhi⟩ : ∃ z, pl una high = z := ⟨_, rfl⟩
  have HST := Lib.hid hst
  have HHI := Lib.hid hhi
  have hlt1 : st < 4294967296 := by rw [← hst]; exact pl_lt _ _
  rw [hst]
  have hun : chkE una nxt high bs = if (decide (st ≤ 1073741824) && (decide (hi ≤ st) && (decide (bs.length ≤ 1024) && okL st 0 (sps una bs)))) = true then 0 else 171 := by unfold chkE okS; rw [hst, hhi]
  have HUN := Lib.hid hun
  clear hst hhi hun
  by_cases h1 : st ≤ 1073741824
  case neg =>
    have hE : chkE una nxt high bs = 171 := by rw [HUN.out, decide_eq_false h1]; rfl
    have k1 : (1073741824 : Int) < (st : Int) := by omega
    have HE := Lib.hid hE
    clear h1 hE
    go_wp2
    go_ret
    exact ⟨by rw [HE.out]; rfl, Q1.out⟩
  case pos =>
  have k1 : ¬ ((1073741824 : Int) < (st : Int)) := by omega
  have c0 := blk_cell S1.out 0
  have c1 := blk_cell S1.out 1
  have c2 := blk_cell S1.out 2
  have c3 := blk_cell S1.out 3
  go_wp2_with fail
  refine (place_any una nxt high a bs.length c high V1 hu).mono ?_
  rintro e V2 ⟨rfl, hBV2⟩
  have S2 := Lib.hid ((hBV2.block _ (blk_lt S1.out)).trans S1.out)
  have Q2 := Lib.hid (Q1.out.trans (hBV2.mono Q1.out.size))
  clear hBV2 c0 c1 c2 c3 S1 Q1
  rw [HHI.out]
  by_cases h2 : hi ≤ st
  case neg =>
    have hE : chkE una nxt high bs = 171 := by rw [HUN.out, decide_eq_false h2]; simp
    have k2 : (st : Int) < (hi : Int) := by omega
    have HE := Lib.hid hE
    clear h2 hE
    go_wp2
    go_ret
    exact ⟨by rw [HE.out]; rfl, Q2.out⟩
  case pos =>
  have k2 : ¬ ((st : Int) < (hi : Int)) := by omega
  have c3 := blk_cell S2.out 3
  by_cases h3 : bs.length ≤ 1024
  case neg =>
    have hE : chkE una nxt high bs = 171 := by rw [HUN.out, decide_eq_false h3]; simp
    have k3 : (1024 : Int) < (bs.length : Int) := by omega
    have HE := Lib.hid hE
    clear h3 hE
    go_wp2
    go_ret
    exact ⟨by rw [HE.out]; rfl, Q2.out⟩
  case pos =>
  have k3 : ¬ ((1024 : Int) < (bs.length : Int)) := by omega
  have HE : Hid (chkE una nxt high bs = if okL st 0 (sps una bs) = true then 0 else 171) := Lib.hid (by rw [HUN.out, decide_eq_true h1, decide_eq_true h2, decide_eq_true h3]; simp)
  go_wp2_with fail
  clear c3 k1 k2 k3 h1 h2
  go_loopw [4, 31] (fun ev iv wr => ∃ (i e : Nat), i ≤ bs.length ∧ e < 4294967296 ∧ iv = .int .i64 i ∧ ev = .int .i64 e ∧ Hid (okL st 0 (sps una bs) = okL st e ((sps una bs).drop i)) ∧ wr.heap[w.heap.size]? = some (.cells #[.int .u32 (una : Nat), .int .u32 (nxt : Nat), .int .u32 (high : Nat), .slice a bs.length c] 26 (0, 0)) ∧ Below w.heap.size w wr) (fun _ iv _ => bs.length - (intOf iv).toNat)
  case atStart => exact ⟨0, 0, by omega, by omega, rfl, rfl, Lib.hid rfl, S2.out, Q2.out⟩
  case round =>
    obtain ⟨i, e, hi2, he, rfl, rfl, HK, hS, hq⟩ := hrel
    have SR := Lib.hid hS
    have QR := Lib.hid hq
    have hgr := blk_lt hS
    clear hS hq S2 Q2
    by_cases hlt : i < bs.length
    case neg =>
      obtain rfl : i = bs.length := by omega
      have hE : chkE una nxt high bs = 0 := by rw [HE.out, HK.out, List.drop_of_length_le (by rw [sps_len]; omega)]; rfl
      have HE2 := Lib.hid hE
      clear hE
      go_wp2
      go_ret
      exact ⟨by rw [HE2.out]; rfl, QR.out⟩
    case pos =>
      have i1 : (i : Int) < (bs.length : Int) := by omega
      obtain ⟨x, hx⟩ : ∃ x, bs[i]? = some x := ⟨_, List.getElem?_eq_getElem hlt⟩
      obtain ⟨g, o, rfl, _, _⟩ := HL.out.isSomeT (by omega)
      obtain ⟨hg, p0, p1⟩ := b_at HL.out hx
      have m0 := (QR.out.cell (p := ⟨g, o + i * 2, none⟩) hg).trans p0
      have m1 := (QR.out.cell (p := ⟨g, o + i * 2 + 1, none⟩) hg).trans p1
      have hdr : (sps una bs).drop i = (pl una x.1, pl una x.2) :: (sps una bs).drop (i + 1) := by
        rw [List.drop_eq_getElem_cons (by rw [sps_len]; exact hlt)]
        congr 1
        simp only [sps, List.getElem_map]
        rw [(List.getElem?_eq_some_iff.1 hx).2]
      obtain ⟨xl, hxl⟩ : ∃ z, pl una x.1 = z := ⟨_, rfl⟩
      obtain ⟨xr, hxr⟩ : ∃ z, pl una x.2 = z := ⟨_, rfl⟩
      have hl1 : xl < 4294967296 := by rw [← hxl]; exact pl_lt _ _
      have hr1 : xr < 4294967296 := by rw [← hxr]; exact pl_lt _ _
      rw [hxl, hxr] at hdr
      have HK2 : Hid (okL st 0 (sps una bs) = (decide (e < xl) && (decide (xl < xr) && (decide (xr ≤ st) && okL st xr ((sps una bs).drop (i + 1)))))) := Lib.hid (by rw [HK.out, hdr]; rfl)
      have HXL := Lib.hid hxl
      have HXR := Lib.hid hxr
      clear p0 p1 hx hdr hxl hxr
      go_upto_region 8 with fail
      have hb1 := (Below.refl wr.heap.size wr).alloc (Nat.le_refl _) (.cells #[.int .u32 (x.1 : Nat), .int .u32 (x.2 : Nat)] 38)
      have X1 := Lib.hid (blk_new wr (.cells #[.int .u32 (x.1 : Nat), .int .u32 (x.2 : Nat)] 38))
      have S1 := Lib.hid ((hb1.block _ hgr).trans SR.out)
      have Q1 := Lib.hid (QR.out.trans (hb1.mono QR.out.size))
      clear hb1 m0 m1 SR QR
      generalize wr.alloc (.cells #[.int .u32 (x.1 : Nat), .int .u32 (x.2 : Nat)] 38) = V3 at X1 S1 Q1 ⊢
      have c0 := blk_cell S1.out 0
      have c1 := blk_cell S1.out 1
      have c2 := blk_cell S1.out 2
      have c3 := blk_cell S1.out 3
      have k0 := blk_cell X1.out 0
      have k1 := blk_cell X1.out 1
      go_wp2_with fail
      refine (spanOf_any una nxt high (some ⟨g, o, none⟩) bs.length c x.1 x.2 V3 hu).mono ?_
      rintro e5 V4 ⟨rfl, hB4⟩
      rw [HXL.out, HXR.out]
      have S4 := Lib.hid ((hB4.block _ (blk_lt S1.out)).trans S1.out)
      have Q4 := Lib.hid (Q1.out.trans (hB4.mono Q1.out.size))
      clear hB4 c0 c1 c2 c3 k0 k1 S1 Q1 X1
      go_upto_region 9 with fail
      have hb1 := (Below.refl V4.heap.size V4).alloc (Nat.le_refl _) (.cells #[.int .i64 (xl : Nat), .int .i64 (xr : Nat)] 76)
      have X5 := Lib.hid (blk_new V4 (.cells #[.int .i64 (xl : Nat), .int .i64 (xr : Nat)] 76))
      have S5 := Lib.hid ((hb1.block _ (blk_lt S4.out)).trans S4.out)
      have Q5 := Lib.hid (Q4.out.trans (hb1.mono Q4.out.size))
      clear hb1 S4 Q4
      generalize V4.alloc (.cells #[.int .i64 (xl : Nat), .int .i64 (xr : Nat)] 76) = V5 at X5 S5 Q5 ⊢
      have x0 := blk_cell X5.out 0
      have x1 := blk_cell X5.out 1
      by_cases g1 : e < xl
      case neg =>
        have hE : chkE una nxt high bs = 171 := by rw [HE.out, HK2.out, decide_eq_false g1]; rfl
        have d1 : (xl : Int) ≤ (e : Int) := by omega
        have HE2 := Lib.hid hE
        clear hE g1
        go_wp2
        go_ret
        exact ⟨by rw [HE2.out]; rfl, Q5.out⟩
      case pos =>
      have d1 : ¬ ((xl : Int) ≤ (e : Int)) := by omega
      by_cases g2 : xl < xr
      case neg =>
        have hE : chkE una nxt high bs = 171 := by rw [HE.out, HK2.out, decide_eq_false g2]; simp
        have d2 : (xr : Int) ≤ (xl : Int) := by omega
        have HE2 := Lib.hid hE
        clear hE g1 g2
        go_wp2
        go_ret
        exact ⟨by rw [HE2.out]; rfl, Q5.out⟩
      case pos =>
      have d2 : ¬ ((xr : Int) ≤ (xl : Int)) := by omega
      by_cases g3 : xr ≤ st
      case neg =>
        have hE : chkE una nxt high bs = 171 := by rw [HE.out, HK2.out, decide_eq_false g3]; simp
        have d3 : (st : Int) < (xr : Int) := by omega
        have HE2 := Lib.hid hE
        clear hE g1 g2 g3
        go_wp2
        go_ret
        exact ⟨by rw [HE2.out]; rfl, Q5.out⟩
      case pos =>
      have d3 : ¬ ((st : Int) < (xr : Int)) := by omega
      have HK3 : Hid (okL st 0 (sps una bs) = okL st xr ((sps una bs).drop (i + 1))) := Lib.hid (by rw [HK2.out, decide_eq_true g1, decide_eq_true g2, decide_eq_true g3]; rfl)
      clear g1 g2 g3 HK2
      go_wp2_with fail
      go_roundw
      case rel =>
        refine ⟨_, _, _, _, _, ⟨i + 1, by omega, xr, hr1, ?_, rfl, HK3, S5.out, Q5.out⟩, rfl, rfl, rfl, rfl, rfl⟩
        go_num
      case measure => simp [intOf]; omega

def ckE (una nxt high : Nat) (bs : List (Nat × Nat)) (mss : Int) : Int := if okS una nxt high bs = true then (if 1 ≤ mss ∧ mss ≤ 65535 then 0 else 4) else 171
set_option maxRecDepth 100000 in
set_option maxHeartbeats 1000000 in
theorem check_mss (una nxt high : Nat) (a : Option Addr) (bs : List (Nat × Nat)) (c : Nat) (mss : Int) (w : World) (hu : una < 4294967296) (h : Sts 2 BC Tr w a bs) (hlen : bs.length ≤ 35184372088832) :
    Calls Try.prog 33 #[.agg #[.int .u32 (una : Nat), .int .u32 (nxt : Nat), .int .u32 (high : Nat), .slice a bs.length c], .int .i64 mss] w fun e w' => e = .returned (.int .i64 (ckE una nxt high bs mss)) ∧ Below w.heap.size w w' := by
  have HL := Lib.hid h
  clear h
  go_enter Try.func33, Try.ntmps33
  go_upto_region 1 with fail
  have Q0 := Lib.hid ((Below.refl w.heap.size w).alloc (Nat.le_refl _) (.cells #[.int .u32 (una : Nat), .int .u32 (nxt : Nat), .int .u32 (high : Nat), .slice a bs.length c] 26))
  have S0 := Lib.hid (blk_new w (.cells #[.int .u32 (una : Nat), .int .u32 (nxt : Nat), .int .u32 (high : Nat), .slice a bs.length c] 26))
  generalize w.alloc (.cells #[.int .u32 (una : Nat), .int .u32 (nxt : Nat), .int .u32 (high : Nat), .slice a bs.length c] 26) = V0 at Q0 S0 ⊢
  have c0 := blk_cell S0.out 0
  have c1 := blk_cell S0.out 1
  have c2 := blk_cell S0.out 2
  have c3 := blk_cell S0.out 3
  obtain ⟨E, hE⟩ : ∃ E, chkE una nxt high bs = E := ⟨_, rfl⟩
  have HE := Lib.hid hE
  go_wp2_with fail
  refine (check_all una nxt high a bs c V0 hu (Sts.belowT HL.out Q0.out) hlen).mono ?_
  rintro e V1 ⟨rfl, hB⟩
  rw [HE.out]
  have Q1 := Lib.hid (Q0.out.trans (hB.mono Q0.out.size))
  clear hB hE c0 c1 c2 c3
  by_cases hk : okS una nxt high bs = true
  case neg =>
    have h1 : E = 171 := by rw [← HE.out]; unfold chkE; rw [if_neg hk]
    have h2 : ckE una nxt high bs mss = 171 := by unfold ckE; rw [if_neg hk]
    subst h1
    have H2 := Lib.hid h2
    clear h2 hk
    go_wp2
    go_ret
    exact ⟨by rw [H2.out]; rfl, Q1.out⟩
  case pos =>
    have h1 : E = 0 := by rw [← HE.out]; unfold chkE; rw [if_pos hk]
    have h2 : ckE una nxt high bs mss = if 1 ≤ mss ∧ mss ≤ 65535 then 0 else 4 := by unfold ckE; rw [if_pos hk]
    subst h1
    have H2 := Lib.hid h2
    clear h2 hk
    by_cases m1 : 1 ≤ mss
    case neg =>
      have k1 : mss < 1 := by omega
      have H3 : Hid (ckE una nxt high bs mss = 4) := Lib.hid (by rw [H2.out, if_neg (fun h => m1 h.1)])
      clear m1
      go_wp2
      go_ret
      exact ⟨by rw [H3.out]; rfl, Q1.out⟩
    case pos =>
      have k1 : ¬ mss < 1 := by omega
      by_cases m2 : mss ≤ 65535
      case neg =>
        have k2 : 65535 < mss := by omega
        have H3 : Hid (ckE una nxt high bs mss = 4) := Lib.hid (by rw [H2.out, if_neg (fun h => m2 h.2)])
        clear m1 m2
        go_wp2
        go_ret
        exact ⟨by rw [H3.out]; rfl, Q1.out⟩
      case pos =>
        have k2 : ¬ 65535 < mss := by omega
        have H3 : Hid (ckE una nxt high bs mss = 0) := Lib.hid (by rw [H2.out, if_pos ⟨m1, m2⟩])
        clear m1 m2
        go_wp2
        go_ret
        exact ⟨by rw [H3.out]; rfl, Q1.out⟩
set_option maxRecDepth 100000 in
set_option maxHeartbeats 1000000 in
theorem lost_any (hl hr hb : Nat) (ho mss : Int) (w : World) (hm : 1 ≤ mss ∧ mss ≤ 65535) :
    Calls Try.prog 37 #[.agg #[.int .i64 (hl : Nat), .int .i64 (hr : Nat), .int .i64 (hb : Nat), .int .i64 ho], .int .i64 mss] w fun e w' => e = .returned (.bool (lostB mss ⟨hl, hr, hb, ho⟩)) ∧ Below w.heap.size w w' := by
  obtain ⟨m1, m2⟩ := hm
  have Q := Lib.hid ((Below.refl w.heap.size w).alloc (Nat.le_refl _) (.cells #[.int .i64 (hl : Nat), .int .i64 (hr : Nat), .int .i64 (hb : Nat), .int .i64 ho] 78))
  by_cases h1 : (3 : Int) ≤ (hb : Int)
  · have HL : Hid (lostB mss ⟨hl, hr, hb, ho⟩ = true) := Lib.hid (by unfold lostB; rw [decide_eq_true h1]; rfl)
    go_enter Try.func37, Try.ntmps37
    go_wp2
    go_ret
    exact ⟨by rw [HL.out]; rfl, Q.out⟩
  · have d1 := decide_eq_false h1
    by_cases h2 : 2 * mss < ho
    · have HL : Hid (lostB mss ⟨hl, hr, hb, ho⟩ = true) := Lib.hid (by unfold lostB; rw [decide_eq_true h2]; simp)
      go_enter Try.func37, Try.ntmps37
      go_wp2
      go_ret
      exact ⟨by rw [HL.out]; rfl, Q.out⟩
    · have HL : Hid (lostB mss ⟨hl, hr, hb, ho⟩ = false) := Lib.hid (by unfold lostB; simp only [d1, decide_eq_false h2]; rfl)
      clear d1
      go_enter Try.func37, Try.ntmps37
      go_wp2
      go_ret
      exact ⟨by rw [HL.out]; rfl, Q.out⟩
end Go.Proofs.Ytcachmjcninkbaa
