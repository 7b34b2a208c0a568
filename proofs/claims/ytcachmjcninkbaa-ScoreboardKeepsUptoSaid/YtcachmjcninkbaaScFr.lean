/- Scoreboard: the blocks that count. -/
import Derived.Test.YtcachmjcninkbaaScDg
import Derived.Test.YtcachmjcninkbaaScW
import Derived.Lib.QuietBelow
import Derived.BigQuiet
import Derived.RegionTactic
import Derived.Deep.RegionHeld3
namespace Go.Proofs.Ytcachmjcninkbaa
open Go.RowKit Go.Sort Go.BigFrame

def cntB (una st ua : Nat) (b : Nat × Nat) : Bool := decide (0 < pl b.1 b.2) && (decide (ua < pl una b.1) && decide (pl una b.1 + pl b.1 b.2 ≤ st))
def frS (una st ua : Nat) (l : List (Nat × Nat)) : List (Nat × Nat) := sps una (l.filter (cntB una st ua))
theorem frS_snoc (una st ua : Nat) (l : List (Nat × Nat)) (b : Nat × Nat) : frS una st ua (l ++ [b]) = if cntB una st ua b = true then frS una st ua l ++ [(pl una b.1, pl una b.2)] else frS una st ua l := by
  unfold frS sps
  rw [List.filter_append]
  cases h : cntB una st ua b <;> simp [h]
theorem frS_len (una st ua : Nat) (l : List (Nat × Nat)) : (frS una st ua l).length ≤ l.length := by
  unfold frS; rw [sps_len]; exact List.length_filter_le _ _
set_option maxRecDepth 100000 in
set_option maxHeartbeats 4000000 in
theorem fresh_any (una nxt high : Nat) (a : Option Addr) (bs : List (Nat × Nat)) (c ua : Nat) (a2 : Option Addr) (fs : List (Nat × Nat)) (d : Nat) (w : World) (hu : una < 4294967296) (hua : ua < 4294967296) (h : Sts 2 BC Tr w a2 fs) (hv : small2 fs) (hl : fs.length ≤ 4398046511104) :
    Calls Try.prog 54 #[.agg #[.int .u32 (una : Nat), .int .u32 (nxt : Nat), .int .u32 (high : Nat), .slice a bs.length c], .int .i64 ua, .slice a2 fs.length d] w fun e w' => (∃ a' c', e = .returned (.slice a' (frS una (pl una nxt) ua fs).length c') ∧ OwnR 76 2 SC w.heap.size a' (frS una (pl una nxt) ua fs) c' w') ∧ Below w.heap.size w w' := by
  have HL := Lib.hid h
  have HV := Lib.hid hv
  have HPN := Lib.hid (fun V => place_any una nxt high a bs.length c nxt V hu)
  obtain ⟨st, hst⟩ : ∃ z, pl una nxt = z := ⟨_, rfl⟩
  have hlt1 : st < 4294967296 := by rw [← hst]; exact pl_lt _ _
  rw [hst] at HPN ⊢
  clear h hv hst
  go_enter Try.func54, Try.ntmps54
  go_upto_region 1 with fail
  have Q0 := Lib.hid ((Below.refl w.heap.size w).alloc (Nat.le_refl _) (.cells #[.int .u32 (una : Nat), .int .u32 (nxt : Nat), .int .u32 (high : Nat), .slice a bs.length c] 26))
  have S0 := Lib.hid (blk_new w (.cells #[.int .u32 (una : Nat), .int .u32 (nxt : Nat), .int .u32 (high : Nat), .slice a bs.length c] 26))
  have hz0 : w.heap.size < (w.alloc (.cells #[.int .u32 (una : Nat), .int .u32 (nxt : Nat), .int .u32 (high : Nat), .slice a bs.length c] 26)).heap.size := by simp
  generalize w.alloc (.cells #[.int .u32 (una : Nat), .int .u32 (nxt : Nat), .int .u32 (high : Nat), .slice a bs.length c] 26) = V0 at Q0 S0 hz0 ⊢
  go_wp2_with fail
  go_loopw [7, 14] (fun sv iv wr => ∃ (i : Nat) (p : Option Addr) (k : Nat), i ≤ fs.length ∧ iv = .int .i64 i ∧ sv = .slice p (frS una st ua (fs.take i)).length k ∧ OwnR 76 2 SC (w.heap.size + 1) p (frS una st ua (fs.take i)) k wr ∧ wr.heap[w.heap.size]? = some (.cells #[.int .u32 (una : Nat), .int .u32 (nxt : Nat), .int .u32 (high : Nat), .slice a bs.length c] 26 (0, 0)) ∧ Below w.heap.size w wr) (fun _ iv _ => fs.length - (intOf iv).toNat)
  case atStart => exact ⟨0, none, 0, by omega, rfl, rfl, ownR_nil _ _ _ _ _, S0.out, Q0.out⟩
  case round =>
    obtain ⟨i, p, k, hi, rfl, rfl, hO, hS, hq⟩ := hrel
    have OR := Lib.hid hO
    have SR := Lib.hid hS
    have QR := Lib.hid hq
    have hgr := blk_lt hS
    clear hO hS hq Q0 S0
    by_cases hlt : i < fs.length
    case neg =>
      obtain rfl : i = fs.length := by omega
      rw [List.take_length] at OR ⊢
      go_wp2
      go_ret
      exact ⟨⟨p, k, rfl, OR.out.mono (by omega)⟩, QR.out⟩
    case pos =>
      have i1 : (i : Int) < (fs.length : Int) := by omega
      obtain ⟨x, hx⟩ : ∃ x, fs[i]? = some x := ⟨_, List.getElem?_eq_getElem hlt⟩
      obtain ⟨g, o, rfl, _, _⟩ := HL.out.isSomeT (by omega)
      obtain ⟨hg, p0, p1⟩ := b_at HL.out hx
      have m0 := (QR.out.cell (p := ⟨g, o + i * 2, none⟩) hg).trans p0
      have m1 := (QR.out.cell (p := ⟨g, o + i * 2 + 1, none⟩) hg).trans p1
      have hx1 := (HV.out x (List.mem_of_getElem? hx)).1
      have htk : fs.take (i + 1) = fs.take i ++ [x] := by rw [List.take_add_one, hx]; rfl
      have HNX : Hid (frS una st ua (fs.take (i + 1)) = if cntB una st ua x = true then frS una st ua (fs.take i) ++ [(pl una x.1, pl una x.2)] else frS una st ua (fs.take i)) := Lib.hid (by rw [htk, frS_snoc])
      have hln : (frS una st ua (fs.take i)).length ≤ 4398046511104 := Nat.le_trans (frS_len _ _ _ _) (by rw [List.length_take]; omega)
      have w1 := pl_wrap (x := x.2) hx1
      have w2 := u32_i64 (pl_lt x.1 x.2)
      have hsz1 := pl_lt x.1 x.2
      have hxl1 := pl_lt una x.1
      have HSO := Lib.hid (fun V => spanOf_any una nxt high a bs.length c x.1 x.2 V hu)
      have HCN : Hid (cntB una st ua x = (decide (0 < pl x.1 x.2) && (decide (ua < pl una x.1) && decide (pl una x.1 + pl x.1 x.2 ≤ st)))) := Lib.hid rfl
      obtain ⟨sz, hsz⟩ : ∃ z, pl x.1 x.2 = z := ⟨_, rfl⟩
      obtain ⟨xl, hxl⟩ : ∃ z, pl una x.1 = z := ⟨_, rfl⟩
      obtain ⟨xr, hxr⟩ : ∃ z, pl una x.2 = z := ⟨_, rfl⟩
      rw [hsz] at w1 w2 hsz1 HCN
      rw [hxl] at hxl1 HCN HSO HNX
      rw [hxr] at HSO HNX
      clear p0 p1 hx htk hsz hxl hxr
      go_upto_region 5 with fail
      have hb1 := (Below.refl wr.heap.size wr).alloc (Nat.le_refl _) (.cells #[.int .u32 (x.1 : Nat), .int .u32 (x.2 : Nat)] 38)
      have P_0 := Lib.hid (blk_new wr (.cells #[.int .u32 (x.1 : Nat), .int .u32 (x.2 : Nat)] 38))
      have S_0 := Lib.hid ((hb1.block _ hgr).trans SR.out)
      have O1 := Lib.hid (OR.out.below hb1)
      have Q1 := Lib.hid (QR.out.trans (hb1.mono QR.out.size))
      clear hb1 m0 m1 SR OR QR
      obtain ⟨gp, hgp⟩ : ∃ q, wr.heap.size = q := ⟨_, rfl⟩
      generalize wr.alloc (.cells #[.int .u32 (x.1 : Nat), .int .u32 (x.2 : Nat)] 38) = V1 at P_0 S_0 O1 Q1 ⊢
      rw [hgp] at P_0 ⊢
      clear hgp
      have Sz_0 := blk_lt S_0.out
      have Pz_0 := blk_lt P_0.out
      have q_0 := Below.refl V1.heap.size V1
      have y := ((Below.refl V1.heap.size V1).alloc (Nat.le_refl _) (.cells #[.int .i64 0, .int .i64 0] 76)).drew
      have SY := Lib.hid ((y.block _ Sz_0).trans S_0.out)
      have SYz := Nat.lt_of_lt_of_le Sz_0 y.size
      have SN : Hid (V1.heap.size ≠ w.heap.size) := Lib.hid (Nat.ne_of_gt Sz_0)
      have PY := Lib.hid ((y.block _ Pz_0).trans P_0.out)
      have PYz := Nat.lt_of_lt_of_le Pz_0 y.size
      have PN : Hid (V1.heap.size ≠ gp) := Lib.hid (Nat.ne_of_gt Pz_0)
      have XY := Lib.hid (blk_new V1 (.cells #[.int .i64 0, .int .i64 0] 76))
      have cjD : Hid (V1.drew.cell? ⟨w.heap.size, 0, none⟩ = some (.int .u32 (una : Nat)) ∧ V1.drew.cell? ⟨w.heap.size, 1, none⟩ = some (.int .u32 (nxt : Nat)) ∧ V1.drew.cell? ⟨w.heap.size, 2, none⟩ = some (.int .u32 (high : Nat)) ∧ V1.drew.cell? ⟨w.heap.size, 3, none⟩ = some (.slice a bs.length c) ∧ V1.drew.cell? ⟨gp, 0, none⟩ = some (.int .u32 (x.1 : Nat)) ∧ V1.drew.cell? ⟨gp, 1, none⟩ = some (.int .u32 (x.2 : Nat))) := Lib.hid ⟨blk_cell S_0.out 0, blk_cell S_0.out 1, blk_cell S_0.out 2, blk_cell S_0.out 3, blk_cell P_0.out 0, blk_cell P_0.out 1⟩
      have cjY : Hid ((V1.alloc (.cells #[.int .i64 0, .int .i64 0] 76)).drew.cell? ⟨w.heap.size, 0, none⟩ = some (.int .u32 (una : Nat)) ∧ (V1.alloc (.cells #[.int .i64 0, .int .i64 0] 76)).drew.cell? ⟨w.heap.size, 1, none⟩ = some (.int .u32 (nxt : Nat)) ∧ (V1.alloc (.cells #[.int .i64 0, .int .i64 0] 76)).drew.cell? ⟨w.heap.size, 2, none⟩ = some (.int .u32 (high : Nat)) ∧ (V1.alloc (.cells #[.int .i64 0, .int .i64 0] 76)).drew.cell? ⟨w.heap.size, 3, none⟩ = some (.slice a bs.length c) ∧ (V1.alloc (.cells #[.int .i64 0, .int .i64 0] 76)).drew.cell? ⟨gp, 0, none⟩ = some (.int .u32 (x.1 : Nat)) ∧ (V1.alloc (.cells #[.int .i64 0, .int .i64 0] 76)).drew.cell? ⟨gp, 1, none⟩ = some (.int .u32 (x.2 : Nat))) := Lib.hid ⟨blk_cell SY.out 0, blk_cell SY.out 1, blk_cell SY.out 2, blk_cell SY.out 3, blk_cell PY.out 0, blk_cell PY.out 1⟩
      have qD := Lib.hid q_0.drew
      have qY := Lib.hid (q_0.trans (y.mono q_0.size))
      have HVL : Hid (V1.heap.size ≤ V1.heap.size) := Lib.hid q_0.size
      clear y
      go_wp2_with fail
      go_cut [10, 11] (fun (pt pe : Value) (wx : World) => BoxCut V1 (fun W' : World => W'.heap[w.heap.size]? = some (.cells #[.int .u32 (una : Nat), .int .u32 (nxt : Nat), .int .u32 (high : Nat), .slice a bs.length c] 26 (0, 0)) ∧ W'.heap[gp]? = some (.cells #[.int .u32 (x.1 : Nat), .int .u32 (x.2 : Nat)] 38 (0, 0))) #[.int .i64 (xl : Nat), .int .i64 (xr : Nat)] 76 (.int .i64 (sz : Nat)) V1 pt pe wx)
      case first =>
        go_region_held3 (fun W' => W'.cell? ⟨w.heap.size, 0, none⟩ = some (.int .u32 (una : Nat)) ∧ W'.cell? ⟨w.heap.size, 1, none⟩ = some (.int .u32 (nxt : Nat)) ∧ W'.cell? ⟨w.heap.size, 2, none⟩ = some (.int .u32 (high : Nat)) ∧ W'.cell? ⟨w.heap.size, 3, none⟩ = some (.slice a bs.length c) ∧ W'.cell? ⟨gp, 0, none⟩ = some (.int .u32 (x.1 : Nat)) ∧ W'.cell? ⟨gp, 1, none⟩ = some (.int .u32 (x.2 : Nat))) (first | (with_reducible exact cjD.out) | (with_reducible exact cjY.out) | (with_reducible exact cjW.out) | (with_reducible exact cjA.out _) | (with_reducible exact cjX.out) | go_keep) (first
          | (go_at_call 46; (with_reducible refine (HSO.out (V1.drew)).mono ?_); rintro e WX ⟨rfl, b⟩; have S1 := Lib.hid ((b.block _ Sz_0).trans S_0.out); have Sz1 := Nat.lt_of_lt_of_le Sz_0 b.size; have P1 := Lib.hid ((b.block _ Pz_0).trans P_0.out); have Pz1 := Nat.lt_of_lt_of_le Pz_0 b.size; have cjW : Hid (WX.cell? ⟨w.heap.size, 0, none⟩ = some (.int .u32 (una : Nat)) ∧ WX.cell? ⟨w.heap.size, 1, none⟩ = some (.int .u32 (nxt : Nat)) ∧ WX.cell? ⟨w.heap.size, 2, none⟩ = some (.int .u32 (high : Nat)) ∧ WX.cell? ⟨w.heap.size, 3, none⟩ = some (.slice a bs.length c) ∧ WX.cell? ⟨gp, 0, none⟩ = some (.int .u32 (x.1 : Nat)) ∧ WX.cell? ⟨gp, 1, none⟩ = some (.int .u32 (x.2 : Nat))) := Lib.hid ⟨blk_cell S1.out 0, blk_cell S1.out 1, blk_cell S1.out 2, blk_cell S1.out 3, blk_cell P1.out 0, blk_cell P1.out 1⟩; have QW := Lib.hid (qD.out.trans (b.mono qD.out.size)); have VL1 := Lib.hid b.size; have cjA : Hid (∀ o : Obj, (WX.alloc o).cell? ⟨w.heap.size, 0, none⟩ = some (.int .u32 (una : Nat)) ∧ (WX.alloc o).cell? ⟨w.heap.size, 1, none⟩ = some (.int .u32 (nxt : Nat)) ∧ (WX.alloc o).cell? ⟨w.heap.size, 2, none⟩ = some (.int .u32 (high : Nat)) ∧ (WX.alloc o).cell? ⟨w.heap.size, 3, none⟩ = some (.slice a bs.length c) ∧ (WX.alloc o).cell? ⟨gp, 0, none⟩ = some (.int .u32 (x.1 : Nat)) ∧ (WX.alloc o).cell? ⟨gp, 1, none⟩ = some (.int .u32 (x.2 : Nat))) := Lib.hid (fun o => by have ya := (Below.refl WX.heap.size WX).alloc (Nat.le_refl _) o; exact ⟨blk_cell ((ya.block _ Sz1).trans S1.out) 0, blk_cell ((ya.block _ Sz1).trans S1.out) 1, blk_cell ((ya.block _ Sz1).trans S1.out) 2, blk_cell ((ya.block _ Sz1).trans S1.out) 3, blk_cell ((ya.block _ Pz1).trans P1.out) 0, blk_cell ((ya.block _ Pz1).trans P1.out) 1⟩); clear b)
          | (go_at_call 46; (with_reducible refine (HSO.out ((V1.alloc (.cells #[.int .i64 0, .int .i64 0] 76)).drew)).mono ?_); rintro e WX ⟨rfl, b⟩; have S1 := Lib.hid ((b.block _ SYz).trans SY.out); have P1 := Lib.hid ((b.block _ PYz).trans PY.out); have X1 := Lib.hid ((b.block V1.heap.size (by simp)).trans XY.out); have cjW : Hid (WX.cell? ⟨w.heap.size, 0, none⟩ = some (.int .u32 (una : Nat)) ∧ WX.cell? ⟨w.heap.size, 1, none⟩ = some (.int .u32 (nxt : Nat)) ∧ WX.cell? ⟨w.heap.size, 2, none⟩ = some (.int .u32 (high : Nat)) ∧ WX.cell? ⟨w.heap.size, 3, none⟩ = some (.slice a bs.length c) ∧ WX.cell? ⟨gp, 0, none⟩ = some (.int .u32 (x.1 : Nat)) ∧ WX.cell? ⟨gp, 1, none⟩ = some (.int .u32 (x.2 : Nat))) := Lib.hid ⟨blk_cell S1.out 0, blk_cell S1.out 1, blk_cell S1.out 2, blk_cell S1.out 3, blk_cell P1.out 0, blk_cell P1.out 1⟩; have QW := Lib.hid (qY.out.trans (b.mono qY.out.size)); have x0 := blk_free X1.out 0; have y0 := blk_cell X1.out 0; have x1 := blk_free X1.out 1; have y1 := blk_cell X1.out 1; have cjX : Hid (((WX.setCell ⟨V1.heap.size, 0, none⟩ (.int .i64 (xl : Nat))).setCell ⟨V1.heap.size, 1, none⟩ (.int .i64 (xr : Nat))).cell? ⟨w.heap.size, 0, none⟩ = some (.int .u32 (una : Nat)) ∧ ((WX.setCell ⟨V1.heap.size, 0, none⟩ (.int .i64 (xl : Nat))).setCell ⟨V1.heap.size, 1, none⟩ (.int .i64 (xr : Nat))).cell? ⟨w.heap.size, 1, none⟩ = some (.int .u32 (nxt : Nat)) ∧ ((WX.setCell ⟨V1.heap.size, 0, none⟩ (.int .i64 (xl : Nat))).setCell ⟨V1.heap.size, 1, none⟩ (.int .i64 (xr : Nat))).cell? ⟨w.heap.size, 2, none⟩ = some (.int .u32 (high : Nat)) ∧ ((WX.setCell ⟨V1.heap.size, 0, none⟩ (.int .i64 (xl : Nat))).setCell ⟨V1.heap.size, 1, none⟩ (.int .i64 (xr : Nat))).cell? ⟨w.heap.size, 3, none⟩ = some (.slice a bs.length c) ∧ ((WX.setCell ⟨V1.heap.size, 0, none⟩ (.int .i64 (xl : Nat))).setCell ⟨V1.heap.size, 1, none⟩ (.int .i64 (xr : Nat))).cell? ⟨gp, 0, none⟩ = some (.int .u32 (x.1 : Nat)) ∧ ((WX.setCell ⟨V1.heap.size, 0, none⟩ (.int .i64 (xl : Nat))).setCell ⟨V1.heap.size, 1, none⟩ (.int .i64 (xr : Nat))).cell? ⟨gp, 1, none⟩ = some (.int .u32 (x.2 : Nat))) := Lib.hid ⟨blk_cell (blk_other (i := 1) (blk_other (i := 0) S1.out SN.out (.int .i64 (xl : Nat))) SN.out (.int .i64 (xr : Nat))) 0, blk_cell (blk_other (i := 1) (blk_other (i := 0) S1.out SN.out (.int .i64 (xl : Nat))) SN.out (.int .i64 (xr : Nat))) 1, blk_cell (blk_other (i := 1) (blk_other (i := 0) S1.out SN.out (.int .i64 (xl : Nat))) SN.out (.int .i64 (xr : Nat))) 2, blk_cell (blk_other (i := 1) (blk_other (i := 0) S1.out SN.out (.int .i64 (xl : Nat))) SN.out (.int .i64 (xr : Nat))) 3, blk_cell (blk_other (i := 1) (blk_other (i := 0) P1.out PN.out (.int .i64 (xl : Nat))) PN.out (.int .i64 (xr : Nat))) 0, blk_cell (blk_other (i := 1) (blk_other (i := 0) P1.out PN.out (.int .i64 (xl : Nat))) PN.out (.int .i64 (xr : Nat))) 1⟩; clear b))
        all_goals
          go_wp2_with fail
          go_meet
          first
          | (have ya := (Below.refl WX.heap.size WX).alloc (Nat.le_refl _) (.cells #[.int .i64 (xl : Nat), .int .i64 (xr : Nat)] 76); exact ⟨_, rfl, rfl, ⟨(ya.block _ Sz1).trans S1.out, (ya.block _ Pz1).trans P1.out⟩, blk_new WX _, VL1.out, QW.out.alloc QW.out.size _⟩)
          | exact ⟨_, rfl, rfl, ⟨(blk_other (i := 1) (blk_other (i := 0) S1.out SN.out (.int .i64 (xl : Nat))) SN.out (.int .i64 (xr : Nat))), (blk_other (i := 1) (blk_other (i := 0) P1.out PN.out (.int .i64 (xl : Nat))) PN.out (.int .i64 (xr : Nat)))⟩, (blk_set (blk_set X1.out 0 (.int .i64 (xl : Nat))) 1 (.int .i64 (xr : Nat))), Nat.le_refl _, ((QW.out.setCell (p := ⟨V1.heap.size, 0, none⟩) HVL.out (.int .i64 (xl : Nat))).setCell (p := ⟨V1.heap.size, 1, none⟩) HVL.out (.int .i64 (xr : Nat)))⟩
      case rest =>
        obtain ⟨gt, rfl, rfl, ⟨kS, kP⟩, kNew, gle, hq⟩ := hcut
        clear S_0 SY P_0 PY XY cjD cjY qD qY q_0
        have q_0 := hq
        have Sz_0 := blk_lt kS
        have Sne : gt ≠ w.heap.size := by have := SN.out; have := Sz_0; omega
        have Sne2 := Sne.symm
        have Pz_0 := blk_lt kP
        have Pne : gt ≠ gp := by have := PN.out; have := Pz_0; omega
        have Pne2 := Pne.symm
        have gz := blk_lt kNew
        have S_0 := Lib.hid (kS)
        have Sc0_0 := blk_cell S_0.out 0
        have Sc1_0 := blk_cell S_0.out 1
        have Sc2_0 := blk_cell S_0.out 2
        have Sc3_0 := blk_cell S_0.out 3
        have P_0 := Lib.hid (kP)
        have Pc0_0 := blk_cell P_0.out 0
        have Pc1_0 := blk_cell P_0.out 1
        clear kS kP hq
        obtain ⟨V2, hVV⟩ : ∃ V, V = wc := ⟨_, rfl⟩
        subst hVV
        have O2 := Lib.hid (O1.out.below q_0)
        have Q2 := Lib.hid (Q1.out.trans (q_0.mono Q1.out.size))
        have X2 := Lib.hid kNew
        have S2 := S_0
        clear q_0 O1 Q1 kNew P_0 Sc0_0 Sc1_0 Sc2_0 Sc3_0 Pc0_0 Pc1_0 S_0
        have x0 := blk_cell X2.out 0
        have x1 := blk_cell X2.out 1
        have c0 := blk_cell S2.out 0
        have c1 := blk_cell S2.out 1
        have c2 := blk_cell S2.out 2
        have c3 := blk_cell S2.out 3
        go_upto_region 6 with fail
        by_cases g1 : 0 < sz
        case neg =>
          have d1 : decide ((0 : Int) < (sz : Int)) = false := decide_eq_false (by omega)
          have d2 : decide (0 < sz) = false := decide_eq_false g1
          have HN2 : Hid (frS una st ua (fs.take (i + 1)) = frS una st ua (fs.take i)) := Lib.hid (by rw [HNX.out, if_neg (by rw [HCN.out, d2]; simp)])
          clear g1 HNX HCN
          have qx0 := cell_regrown (show V2.cell? ⟨gt, 0, none⟩ = some (.int .i64 (xl : Nat)) from x0)
          have qx1 := cell_regrown (show V2.cell? ⟨gt, 1, none⟩ = some (.int .i64 (xr : Nat)) from x1)
          have qc0 := cell_regrown (show V2.cell? ⟨w.heap.size, 0, none⟩ = some (.int .u32 (una : Nat)) from c0)
          have qc1 := cell_regrown (show V2.cell? ⟨w.heap.size, 1, none⟩ = some (.int .u32 (nxt : Nat)) from c1)
          have qc2 := cell_regrown (show V2.cell? ⟨w.heap.size, 2, none⟩ = some (.int .u32 (high : Nat)) from c2)
          have qc3 := cell_regrown (show V2.cell? ⟨w.heap.size, 3, none⟩ = some (.slice a bs.length c) from c3)
          refine wp_region_quiet_below (by kernel_rfl) (by kernel_rfl) ?_
          repeat (go_big_quiet_step (first | fail))
          refine wpQuiet_nil ?_
          intro _ hw'
          obtain ⟨⟨dq, osq⟩, hw''⟩ := hw'
          subst hw''
          have hB := below_regrown V2 dq osq
          clear qx0 qx1 qc0 qc1 qc2 qc3
          dsimp only
          generalize grow (redrawn V2 dq) osq = V3 at hB ⊢
          have O3 := Lib.hid (O2.out.below hB)
          have S3 := Lib.hid ((hB.block _ (blk_lt S2.out)).trans S2.out)
          have Q3 := Lib.hid (Q2.out.trans (hB.mono Q2.out.size))
          clear hB x0 x1 c0 c1 c2 c3 O2 S2 Q2 X2
          go_wp2_with fail
          go_roundw
          case rel => exact ⟨i + 1, p, k, by omega, by go_num, by rw [HN2.out], by rw [HN2.out]; exact O3.out, S3.out, Q3.out⟩
          case measure => simp [intOf]; omega
        case pos =>
        have d1 : (0 : Int) < (sz : Int) := by omega
        have d1' : decide ((0 : Int) < (sz : Int)) = true := decide_eq_true (by omega)
        by_cases g2 : ua < xl
        case neg =>
          have d3 : decide ((ua : Int) < (xl : Int)) = false := decide_eq_false (by omega)
          have d4 : decide (ua < xl) = false := decide_eq_false g2
          have HN2 : Hid (frS una st ua (fs.take (i + 1)) = frS una st ua (fs.take i)) := Lib.hid (by rw [HNX.out, if_neg (by rw [HCN.out, d4]; simp)])
          clear g2 HNX HCN
          have qx0 := cell_regrown (show V2.cell? ⟨gt, 0, none⟩ = some (.int .i64 (xl : Nat)) from x0)
          have qx1 := cell_regrown (show V2.cell? ⟨gt, 1, none⟩ = some (.int .i64 (xr : Nat)) from x1)
          have qc0 := cell_regrown (show V2.cell? ⟨w.heap.size, 0, none⟩ = some (.int .u32 (una : Nat)) from c0)
          have qc1 := cell_regrown (show V2.cell? ⟨w.heap.size, 1, none⟩ = some (.int .u32 (nxt : Nat)) from c1)
          have qc2 := cell_regrown (show V2.cell? ⟨w.heap.size, 2, none⟩ = some (.int .u32 (high : Nat)) from c2)
          have qc3 := cell_regrown (show V2.cell? ⟨w.heap.size, 3, none⟩ = some (.slice a bs.length c) from c3)
          refine wp_region_quiet_below (by kernel_rfl) (by kernel_rfl) ?_
          repeat (go_big_quiet_step (first | fail))
          refine wpQuiet_nil ?_
          intro _ hw'
          obtain ⟨⟨dq, osq⟩, hw''⟩ := hw'
          subst hw''
          have hB := below_regrown V2 dq osq
          clear qx0 qx1 qc0 qc1 qc2 qc3
          dsimp only
          generalize grow (redrawn V2 dq) osq = V3 at hB ⊢
          have O3 := Lib.hid (O2.out.below hB)
          have S3 := Lib.hid ((hB.block _ (blk_lt S2.out)).trans S2.out)
          have Q3 := Lib.hid (Q2.out.trans (hB.mono Q2.out.size))
          clear hB x0 x1 c0 c1 c2 c3 O2 S2 Q2 X2
          go_wp2_with fail
          go_roundw
          case rel => exact ⟨i + 1, p, k, by omega, by go_num, by rw [HN2.out], by rw [HN2.out]; exact O3.out, S3.out, Q3.out⟩
          case measure => simp [intOf]; omega
        case pos =>
        have d3 : decide ((ua : Int) < (xl : Int)) = true := decide_eq_true (by omega)
        have d4 : decide (ua < xl) = true := decide_eq_true g2
        have w5 : IntKind.i64.wrap ((xl : Int) + (sz : Int)) = (xl : Int) + (sz : Int) := IntWalk.i64_in _ ⟨by omega, by omega⟩
        by_cases g3 : xl + sz ≤ st
        case neg =>
          have d5 : decide ((xl : Int) + (sz : Int) ≤ (st : Int)) = false := decide_eq_false (by omega)
          have d6 : decide (xl + sz ≤ st) = false := decide_eq_false g3
          have HN2 : Hid (frS una st ua (fs.take (i + 1)) = frS una st ua (fs.take i)) := Lib.hid (by rw [HNX.out, if_neg (by rw [HCN.out, d6]; simp)])
          clear g3 HNX HCN
          have qx0 := cell_regrown (show V2.cell? ⟨gt, 0, none⟩ = some (.int .i64 (xl : Nat)) from x0)
          have qx1 := cell_regrown (show V2.cell? ⟨gt, 1, none⟩ = some (.int .i64 (xr : Nat)) from x1)
          have qc0 := cell_regrown (show V2.cell? ⟨w.heap.size, 0, none⟩ = some (.int .u32 (una : Nat)) from c0)
          have qc1 := cell_regrown (show V2.cell? ⟨w.heap.size, 1, none⟩ = some (.int .u32 (nxt : Nat)) from c1)
          have qc2 := cell_regrown (show V2.cell? ⟨w.heap.size, 2, none⟩ = some (.int .u32 (high : Nat)) from c2)
          have qc3 := cell_regrown (show V2.cell? ⟨w.heap.size, 3, none⟩ = some (.slice a bs.length c) from c3)
          have cS : ∀ d os, Calls Try.prog 34 #[.agg #[.int .u32 (una : Nat), .int .u32 (nxt : Nat), .int .u32 (high : Nat), .slice a bs.length c], .int .u32 (nxt : Nat)] (grow (redrawn V2 d) os) fun e w'' => e = .returned (.int .i64 (st : Nat)) ∧ ∃ p : Regrown, w'' = grow (redrawn V2 p.d) p.os := fun d os => Calls.regrown_of (HPN.out _)
          refine wp_region_quiet_below (by kernel_rfl) (by kernel_rfl) ?_
          repeat (go_big_quiet_step (first | (go_at_call 34; exact cS _ _)))
          refine wpQuiet_nil ?_
          intro _ hw'
          obtain ⟨⟨dq, osq⟩, hw''⟩ := hw'
          subst hw''
          have hB := below_regrown V2 dq osq
          clear qx0 qx1 qc0 qc1 qc2 qc3 cS
          dsimp only
          generalize grow (redrawn V2 dq) osq = V3 at hB ⊢
          have O3 := Lib.hid (O2.out.below hB)
          have S3 := Lib.hid ((hB.block _ (blk_lt S2.out)).trans S2.out)
          have Q3 := Lib.hid (Q2.out.trans (hB.mono Q2.out.size))
          clear hB x0 x1 c0 c1 c2 c3 O2 S2 Q2 X2
          go_wp2_with fail
          go_roundw
          case rel => exact ⟨i + 1, p, k, by omega, by go_num, by rw [HN2.out], by rw [HN2.out]; exact O3.out, S3.out, Q3.out⟩
          case measure => simp [intOf]; omega
        case pos =>
        have d5 : decide ((xl : Int) + (sz : Int) ≤ (st : Int)) = true := decide_eq_true (by omega)
        have d6 : decide (xl + sz ≤ st) = true := decide_eq_true g3
        have HN2 : Hid (frS una st ua (fs.take (i + 1)) = frS una st ua (fs.take i) ++ [(xl, xr)]) := Lib.hid (by rw [HNX.out, if_pos (by rw [HCN.out, d4, d6, decide_eq_true g1]; rfl)])
        clear HNX HCN
        have qx0 := cell_regrown (show V2.cell? ⟨gt, 0, none⟩ = some (.int .i64 (xl : Nat)) from x0)
        have qx1 := cell_regrown (show V2.cell? ⟨gt, 1, none⟩ = some (.int .i64 (xr : Nat)) from x1)
        have qc0 := cell_regrown (show V2.cell? ⟨w.heap.size, 0, none⟩ = some (.int .u32 (una : Nat)) from c0)
        have qc1 := cell_regrown (show V2.cell? ⟨w.heap.size, 1, none⟩ = some (.int .u32 (nxt : Nat)) from c1)
        have qc2 := cell_regrown (show V2.cell? ⟨w.heap.size, 2, none⟩ = some (.int .u32 (high : Nat)) from c2)
        have qc3 := cell_regrown (show V2.cell? ⟨w.heap.size, 3, none⟩ = some (.slice a bs.length c) from c3)
        have cS : ∀ d os, Calls Try.prog 34 #[.agg #[.int .u32 (una : Nat), .int .u32 (nxt : Nat), .int .u32 (high : Nat), .slice a bs.length c], .int .u32 (nxt : Nat)] (grow (redrawn V2 d) os) fun e w'' => e = .returned (.int .i64 (st : Nat)) ∧ ∃ p : Regrown, w'' = grow (redrawn V2 p.d) p.os := fun d os => Calls.regrown_of (HPN.out _)
        refine wp_region_quiet_below (by kernel_rfl) (by kernel_rfl) ?_
        repeat (go_big_quiet_step (first | (go_at_call 34; exact cS _ _)))
        refine wpQuiet_nil ?_
        intro _ hw'
        obtain ⟨⟨dq, osq⟩, hw''⟩ := hw'
        subst hw''
        have hB := below_regrown V2 dq osq
        clear qx0 qx1 qc0 qc1 qc2 qc3 cS
        dsimp only
        generalize grow (redrawn V2 dq) osq = V3 at hB ⊢
        have O3 := Lib.hid (O2.out.below hB)
        have S3 := Lib.hid ((hB.block _ (blk_lt S2.out)).trans S2.out)
        have X3 := Lib.hid ((hB.block _ (blk_lt X2.out)).trans X2.out)
        have Q3 := Lib.hid (Q2.out.trans (hB.mono Q2.out.size))
        clear hB x0 x1 c0 c1 c2 c3 O2 S2 Q2 X2
        have x0 := blk_cell X3.out 0
        have x1 := blk_cell X3.out 1
        have hw3 := blk_lt S3.out
        have BAL := Lib.hid ((Below.refl V3.heap.size V3).alloc (Nat.le_refl _) (.cells #[.int .i64 (xl : Nat), .int .i64 (xr : Nat)] 76))
        go_wp2_with (first
          | ((with_reducible show wpList _ _ _ _ _ _); refine wpList_append_r (w := V3.alloc (.cells #[.int .i64 (xl : Nat), .int .i64 (xr : Nat)] 76)) (t := 90) (e := 76) (z := .agg #[.int .i64 0, .int .i64 0]) (m := 2) (bz := 16) (cells := SC) (xs := frS una st ua (fs.take i)) (ys := [(xl, xr)]) (cap := k) (dap := 1) (n := 1) (a := p) (b := some ⟨V3.heap.size, 0, none⟩) rfl elemS encS (.tmp 46) (.tmp 48) rfl (w.heap.size + 1) rfl ?_ ?_ ?_ ?_ ?_ ?_ ?_ ?_ ?_; exact O3.out.below BAL.out; exact sts_new encS V3 [(xl, xr)] 76 (0, 0); (intro e; cases e); rfl; rfl; (simp only [List.length_cons, List.length_nil]; omega); (unfold maxLen; simp only [List.length_cons, List.length_nil]; omega); (have := BAL.out.size; omega); intro a5 c5 V5 O5 b5 g5; have O5h := Lib.hid O5; have B5h := Lib.hid b5; have S5 := Lib.hid ((b5.block _ (by omega)).trans ((BAL.out.block _ hw3).trans S3.out)); clear O5 b5 g5)
          | fail)
        go_roundw
        case rel => exact ⟨i + 1, a5, c5, by omega, by go_num, by rw [HN2.out]; (first | rfl | (rw [List.length_append]; rfl)), by rw [HN2.out]; exact O5h.out, S5.out, (Q3.out.trans (BAL.out.mono Q3.out.size)).trans (B5h.out.mono (by omega))⟩
        case measure => simp [intOf]; omega
end Go.Proofs.Ytcachmjcninkbaa
