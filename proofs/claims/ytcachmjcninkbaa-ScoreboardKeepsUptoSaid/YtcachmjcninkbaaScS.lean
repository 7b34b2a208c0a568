/- The document's scoreboard: has, lost, check, Lost. -/
import Derived.Test.YtcachmjcninkbaaScR
import Derived.Test.YtcachmjcninkbaaScY
namespace Go.Proofs.Ytcachmjcninkbaa
open Go.RowKit Go.Sort Go.BigFrame

set_option maxRecDepth 100000 in
set_option maxHeartbeats 2000000 in
theorem rhas_any (una nxt high : Nat) (a : Option Addr) (bs : List (Nat × Nat)) (c y : Nat) (w : World) (h : Sts 2 BC Tr w a bs) (hv : small2 bs) (hlen : bs.length ≤ 1024) {st : Nat} (hk : okL st 0 (sps una bs) = true) :
    Calls Try.prog 40 #[.agg #[.int .u32 (una : Nat), .int .u32 (nxt : Nat), .int .u32 (high : Nat), .slice a bs.length c], .int .u32 (y : Nat)] w fun e w' => e = .returned (.bool (hasB (pl una y) (sps una bs))) ∧ Below w.heap.size w w' := by
  have HL := Lib.hid h
  have HV := Lib.hid hv
  have HOK := Lib.hid (okL_mem _ _ hk)
  obtain ⟨p, hp⟩ : ∃ t, pl una y = t := ⟨_, rfl⟩
  have HP := Lib.hid hp
  rw [hp]
  clear h hv hk hp
  go_enter Try.func40, Try.ntmps40
  go_upto_region 1 with fail
  have S0 := Lib.hid (blk_new w (.cells #[.int .u32 (una : Nat), .int .u32 (nxt : Nat), .int .u32 (high : Nat), .slice a bs.length c] 25))
  have Q0 := Lib.hid ((Below.refl w.heap.size w).alloc (Nat.le_refl _) (.cells #[.int .u32 (una : Nat), .int .u32 (nxt : Nat), .int .u32 (high : Nat), .slice a bs.length c] 25))
  generalize w.alloc (.cells #[.int .u32 (una : Nat), .int .u32 (nxt : Nat), .int .u32 (high : Nat), .slice a bs.length c] 25) = V0 at S0 Q0 ⊢
  go_wp2_with fail
  go_loopw [5] (fun iv wr => ∃ i : Nat, i ≤ bs.length ∧ iv = .int .i64 i ∧ Hid (hasB p (sps una (bs.take i)) = false) ∧ Below V0.heap.size V0 wr) (fun iv _ => bs.length - (intOf iv).toNat)
  case atStart => exact ⟨0, by omega, rfl, Lib.hid rfl, Below.refl _ _⟩
  case round =>
    obtain ⟨i, hi, rfl, HI, hq0⟩ := hrel
    have BR := Lib.hid hq0
    clear hq0
    have SR := Lib.hid ((BR.out.block _ (blk_lt S0.out)).trans S0.out)
    have QR := Lib.hid (Q0.out.trans (BR.out.mono Q0.out.size))
    have c0 := blk_cell SR.out 0
    have c3 := blk_cell SR.out 3
    by_cases hlt : i < bs.length
    case neg =>
      obtain rfl : i = bs.length := by omega
      have HE : Hid (hasB p (sps una bs) = false) := Lib.hid (by have := HI.out; rwa [List.take_length] at this)
      clear hlt
      go_wp2
      go_ret
      exact ⟨by rw [HE.out]; rfl, QR.out⟩
    case pos =>
      have i1 : (i : Int) < (bs.length : Int) := by omega
      obtain ⟨x, hx⟩ : ∃ x, bs[i]? = some x := ⟨_, List.getElem?_eq_getElem hlt⟩
      obtain ⟨g, o, rfl, _, _⟩ := HL.out.isSomeT (by omega)
      obtain ⟨hg, p0, p1⟩ := b_at HL.out hx
      have m0 := (QR.out.cell (p := ⟨g, o + i * 2, none⟩) hg).trans p0
      have m1 := (QR.out.cell (p := ⟨g, o + i * 2 + 1, none⟩) hg).trans p1
      have hx1 := (HV.out x (List.mem_of_getElem? hx)).1
      have w3 := pl_wrap (x := y) hx1
      have w4 := pl_wrap (x := x.2) hx1
      have hmem : (pl una x.1, pl una x.2) ∈ sps una bs := List.mem_map.2 ⟨x, List.mem_of_getElem? hx, rfl⟩
      have hlr : pl una x.1 < pl una x.2 := (HOK.out _ hmem).2.1
      have hiff := has_pl (y := y) hx1 hlr
      rw [HP.out] at hiff
      have hnx : hasB p (sps una (bs.take (i + 1))) = (decide (pl una x.1 ≤ p) && decide (p < pl una x.2)) := by
        have e : sps una (bs.take (i + 1)) = sps una (bs.take i) ++ [(pl una x.1, pl una x.2)] := by rw [List.take_add_one, hx]; simp [sps]
        rw [e, hasB_snoc, HI.out]; rfl
      have hwh : hasB p (sps una (bs.take (i + 1))) = true → hasB p (sps una bs) = true := by
        intro ht
        have e : sps una bs = sps una (bs.take (i + 1)) ++ sps una (bs.drop (i + 1)) := by unfold sps; rw [← List.map_append, List.take_append_drop]
        rw [e]; unfold hasB at ht ⊢; rw [List.any_append, ht]; rfl
      obtain ⟨k1, hk1⟩ : ∃ t, pl x.1 y = t := ⟨_, rfl⟩
      obtain ⟨k2, hk2⟩ : ∃ t, pl x.1 x.2 = t := ⟨_, rfl⟩
      rw [hk1] at w3 hiff
      rw [hk2] at w4 hiff
      have HNX := Lib.hid hnx
      have HWH := Lib.hid hwh
      have HIF := Lib.hid hiff
      clear p0 p1 hx hnx hwh hiff hk1 hk2 hlr hmem
      by_cases g1 : k1 < k2
      case neg =>
        have d1 : decide (k1 < k2) = false := decide_eq_false g1
        have HN2 : Hid (hasB p (sps una (bs.take (i + 1))) = false) := Lib.hid (by
          rw [HNX.out]
          by_cases z1 : pl una x.1 ≤ p
          · rw [decide_eq_false (fun z2 => g1 (HIF.out.2 ⟨z1, z2⟩))]; simp
          · rw [decide_eq_false z1]; rfl)
        clear g1 HIF
        go_wp2_with fail
        go_quiet (fail)
        have B6 := Lib.hid (below_drewN BR.out nq)
        go_wp2_with fail
        go_roundw
        case rel => exact ⟨i + 1, by omega, by go_num, HN2, B6.out⟩
        case measure => simp [intOf]; omega
      case pos =>
        have d1 : decide (k1 < k2) = true := decide_eq_true g1
        have HE : Hid (hasB p (sps una bs) = true) := Lib.hid (HWH.out (by
          obtain ⟨z1, z2⟩ := HIF.out.1 g1
          rw [HNX.out, decide_eq_true z1, decide_eq_true z2]; rfl))
        clear g1 HIF
        go_wp2_with fail
        go_quiet (fail)
        have B6 := Lib.hid (below_drewN QR.out nq)
        go_wp2
        go_ret
        exact ⟨by rw [HE.out]; rfl, B6.out⟩

theorem aftO_bd {st : Nat} {p : Nat} {l : List (Nat × Nat)} (h : ∀ x ∈ l, x.2 ≤ st) : aftN p l ≤ l.length ∧ aftO p l ≤ l.length * st := by
  induction l with
  | nil => simp [aftN, aftO]
  | cons x l ih =>
    obtain ⟨h1, h2⟩ := ih (fun y hy => h y (List.mem_cons_of_mem _ hy))
    have h3 := h x List.mem_cons_self
    simp only [aftN, aftO, List.length_cons, Nat.add_mul, Nat.one_mul]
    constructor
    · split <;> omega
    · split <;> omega
set_option maxRecDepth 100000 in
set_option maxHeartbeats 2000000 in
theorem rlost_any (una nxt high : Nat) (a : Option Addr) (bs : List (Nat × Nat)) (c y : Nat) (mss : Int) (w : World) (hu : una < 4294967296) (h : Sts 2 BC Tr w a bs) (hv : small2 bs) (hlen : bs.length ≤ 1024) (hm : 1 ≤ mss ∧ mss ≤ 65535) {st : Nat} (hst : st ≤ 1073741824) (hk : okL st 0 (sps una bs) = true) :
    Calls Try.prog 41 #[.agg #[.int .u32 (una : Nat), .int .u32 (nxt : Nat), .int .u32 (high : Nat), .slice a bs.length c], .int .i64 mss, .int .u32 (y : Nat)] w fun e w' => e = .returned (.bool (lostP mss (pl una y) (sps una bs))) ∧ Below w.heap.size w w' := by
  have HL := Lib.hid h
  have HV := Lib.hid hv
  have HOK := Lib.hid (okL_mem _ _ hk)
  have wy := pl_wrap (x := y) hu
  obtain ⟨p, hp⟩ : ∃ t, pl una y = t := ⟨_, rfl⟩
  rw [hp] at wy ⊢
  have HBD : ∀ i, i ≤ bs.length → aftN p (sps una (bs.take i)) ≤ i ∧ aftO p (sps una (bs.take i)) ≤ 1024 * 1073741824 := fun i hi => by
    have h1 := aftO_bd (st := st) (p := p) (l := sps una (bs.take i)) (fun x hx => by
      obtain ⟨b, hb, rfl⟩ := List.mem_map.1 hx
      exact (HOK.out _ (List.mem_map.2 ⟨b, List.mem_of_mem_take hb, rfl⟩)).2.2)
    have h2 : (sps una (bs.take i)).length = i := by rw [sps_len, List.length_take]; omega
    rw [h2] at h1
    exact ⟨h1.1, Nat.le_trans h1.2 (Nat.mul_le_mul (by omega) hst)⟩
  have HB := Lib.hid HBD
  clear h hv hk hp HBD
  obtain ⟨m1, m2⟩ := hm
  go_enter Try.func41, Try.ntmps41
  go_upto_region 1 with fail
  have S0 := Lib.hid (blk_new w (.cells #[.int .u32 (una : Nat), .int .u32 (nxt : Nat), .int .u32 (high : Nat), .slice a bs.length c] 25))
  have Q0 := Lib.hid ((Below.refl w.heap.size w).alloc (Nat.le_refl _) (.cells #[.int .u32 (una : Nat), .int .u32 (nxt : Nat), .int .u32 (high : Nat), .slice a bs.length c] 25))
  generalize w.alloc (.cells #[.int .u32 (una : Nat), .int .u32 (nxt : Nat), .int .u32 (high : Nat), .slice a bs.length c] 25) = V0 at S0 Q0 ⊢
  go_wp2_with fail
  go_loopw [7, 8, 9] (fun nv ov iv wr => ∃ i N O : Nat, i ≤ bs.length ∧ iv = .int .i64 i ∧ nv = .int .i64 N ∧ ov = .int .i64 O ∧ Hid (aftN p (sps una (bs.take i)) = N) ∧ Hid (aftO p (sps una (bs.take i)) = O) ∧ Below V0.heap.size V0 wr) (fun _ _ iv _ => bs.length - (intOf iv).toNat)
  case atStart => exact ⟨0, 0, 0, by omega, rfl, rfl, rfl, Lib.hid rfl, Lib.hid rfl, Below.refl _ _⟩
  case round =>
    obtain ⟨i, N, O, hi, rfl, rfl, rfl, HN, HO, hq0⟩ := hrel
    have BR := Lib.hid hq0
    clear hq0
    have SR := Lib.hid ((BR.out.block _ (blk_lt S0.out)).trans S0.out)
    have QR := Lib.hid (Q0.out.trans (BR.out.mono Q0.out.size))
    have c0 := blk_cell SR.out 0
    have c3 := blk_cell SR.out 3
    have hb := HB.out i hi
    rw [HN.out, HO.out] at hb
    obtain ⟨hb1, hb2⟩ := hb
    by_cases hlt : i < bs.length
    case neg =>
      obtain rfl : i = bs.length := by omega
      have HE : Hid (lostP mss p (sps una bs) = (decide (3 ≤ N) || decide (2 * mss < (O : Int)))) := Lib.hid (by
        have h1 := HN.out; have h2 := HO.out
        rw [List.take_length] at h1 h2
        unfold lostP; rw [h1, h2])
      clear hlt
      by_cases g1 : 3 ≤ N
      · have d1 : (3 : Int) ≤ (N : Int) := by omega
        have HE2 : Hid (lostP mss p (sps una bs) = true) := Lib.hid (by rw [HE.out, decide_eq_true g1]; rfl)
        clear HE
        go_wp2
        go_ret
        exact ⟨by rw [HE2.out]; rfl, QR.out⟩
      · have d1 : ¬ ((3 : Int) ≤ (N : Int)) := by omega
        by_cases g2 : 2 * mss < (O : Int)
        · have HE2 : Hid (lostP mss p (sps una bs) = true) := Lib.hid (by rw [HE.out, decide_eq_true g2]; simp)
          clear HE
          go_wp2
          go_ret
          exact ⟨by rw [HE2.out]; rfl, QR.out⟩
        · have HE2 : Hid (lostP mss p (sps una bs) = false) := Lib.hid (by rw [HE.out, decide_eq_false g1, decide_eq_false g2]; rfl)
          clear HE
          go_wp2
          go_ret
          exact ⟨by rw [HE2.out]; rfl, QR.out⟩
    case pos =>
      have i1 : (i : Int) < (bs.length : Int) := by omega
      obtain ⟨x, hx⟩ : ∃ x, bs[i]? = some x := ⟨_, List.getElem?_eq_getElem hlt⟩
      obtain ⟨g, o, rfl, _, _⟩ := HL.out.isSomeT (by omega)
      obtain ⟨hg, p0, p1⟩ := b_at HL.out hx
      have m0 := (QR.out.cell (p := ⟨g, o + i * 2, none⟩) hg).trans p0
      have m1' := (QR.out.cell (p := ⟨g, o + i * 2 + 1, none⟩) hg).trans p1
      have hx1 := (HV.out x (List.mem_of_getElem? hx)).1
      have w3 := pl_wrap (x := x.1) hu
      have w4 := pl_wrap (x := x.2) hx1
      have hmem : (pl una x.1, pl una x.2) ∈ sps una bs := List.mem_map.2 ⟨x, List.mem_of_getElem? hx, rfl⟩
      have hlr : pl una x.1 < pl una x.2 := (HOK.out _ hmem).2.1
      have hrs : pl una x.2 ≤ st := (HOK.out _ hmem).2.2
      have hsub := pl_sub hx1 hlr
      have e : sps una (bs.take (i + 1)) = sps una (bs.take i) ++ [(pl una x.1, pl una x.2)] := by rw [List.take_add_one, hx]; simp [sps]
      obtain ⟨xl, hxl⟩ : ∃ t, pl una x.1 = t := ⟨_, rfl⟩
      obtain ⟨xr, hxr⟩ : ∃ t, pl una x.2 = t := ⟨_, rfl⟩
      rw [hxl, hxr] at e hsub hlr
      rw [hxl] at w3
      rw [hxr] at hrs
      rw [hsub] at w4
      have hn2 : aftN p (sps una (bs.take (i + 1))) = N + (if p < xl then 1 else 0) := by rw [e, aftN_snoc, HN.out]
      have ho2 : aftO p (sps una (bs.take (i + 1))) = O + (if p < xl then xr - xl else 0) := by rw [e, aftO_snoc, HO.out]
      obtain ⟨d, hd⟩ : ∃ t, xr - xl = t := ⟨_, rfl⟩
      rw [hd] at w4 ho2
      have hd1 : d ≤ 1073741824 := by omega
      have w5 := u32_i64 (show d < 4294967296 by omega)
      have HN2 := Lib.hid hn2
      have HO2 := Lib.hid ho2
      clear p0 p1 hx e hsub hlr hmem hxl hxr hn2 ho2 hrs hd
      by_cases g1 : p < xl
      case neg =>
        have d1 : decide (p < xl) = false := decide_eq_false g1
        have HN3 := Lib.hid (show aftN p (sps una (bs.take (i + 1))) = N by rw [HN2.out, if_neg g1]; rfl)
        have HO3 := Lib.hid (show aftO p (sps una (bs.take (i + 1))) = O by rw [HO2.out, if_neg g1]; rfl)
        clear g1 HN2 HO2
        go_wp2_with fail
        go_quiet (fail)
        have B6 := Lib.hid (below_drewN BR.out nq)
        go_wp2_with fail
        go_roundw
        case rel => exact ⟨i + 1, N, O, by omega, by go_num, rfl, rfl, HN3, HO3, B6.out⟩
        case measure => simp [intOf]; omega
      case pos =>
        have d1 : decide (p < xl) = true := decide_eq_true g1
        have HN3 := Lib.hid (show aftN p (sps una (bs.take (i + 1))) = N + 1 by rw [HN2.out, if_pos g1])
        have HO3 := Lib.hid (show aftO p (sps una (bs.take (i + 1))) = O + d by rw [HO2.out, if_pos g1])
        clear g1 HN2 HO2
        go_wp2_with fail
        go_quiet (fail)
        have B5 := Lib.hid (below_drewN BR.out nq)
        have S5 := Lib.hid (blk_drewN SR.out nq)
        have n0 : (wr.drewN nq).cell? ⟨g, o + i * 2, none⟩ = some (.int .u32 (x.1 : Nat)) := m0
        have n1 : (wr.drewN nq).cell? ⟨g, o + i * 2 + 1, none⟩ = some (.int .u32 (x.2 : Nat)) := m1'
        clear m0 m1' c0 c3
        generalize wr.drewN nq = V5 at B5 S5 n0 n1 ⊢
        have c0 := blk_cell S5.out 0
        have c3 := blk_cell S5.out 3
        go_wp2_with fail
        go_quiet (fail)
        have B6 := Lib.hid (below_drewN B5.out nq)
        go_wp2_with fail
        go_roundw
        case rel => exact ⟨i + 1, N + 1, O + d, by omega, by go_num, by go_num, by go_num, HN3, HO3, B6.out⟩
        case measure => simp [intOf]; omega
end Go.Proofs.Ytcachmjcninkbaa
