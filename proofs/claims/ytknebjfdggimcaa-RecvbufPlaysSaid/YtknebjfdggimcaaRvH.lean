/- Recvbuf: join, where octets become ready; join by one word. -/
import Derived.Test.YtknebjfdggimcaaRvG
namespace Go.Proofs.Ytknebjfdggimcaa
open Go.RowKit Go.Proofs.Ytknebjfdggimcaa.Rv

set_option maxRecDepth 100000 in
set_option maxHeartbeats 2000000 in
theorem join_nz (B g G n st rd nx ct pc : Nat) (pa : Option Addr) (ps : List Pt) (l r : Nat) (w : World) (hB : w.heap[g]? = some (.cells #[.slice (some ⟨G, 0, none⟩) n n, .int .i64 (st : Nat), .int .i64 (rd : Nat), .int .u32 (nx : Nat), .slice pa ps.length pc, .int .i64 (ct : Nat)] 70 (0, 0))) (O : OwnR 87 3 PC B pa ps pc w) (hpg : pa ≠ some ⟨g, 0, none⟩) (hBw : B ≤ w.heap.size) (hn : n ≤ 1048576) (hrd : rd ≤ n) (hr : r ≤ 1048576) (hlr : l ≤ r) (hps : ∀ p ∈ ps, p.2.1 ≤ 1048576) (hpl : ps.length ≤ 2000) (hct : ct ≤ 4611686018427387904) (hM : pM ps l r = []) (hL : lo ps l r = 0) (hC : ∀ p ∈ pC ps l r, hi ps l r ≤ p.1 ∧ p.1 ≤ p.2.1) (hA : pA ps l = []) :
    Calls Try.prog 33 #[.pointer (some ⟨g, 0, none⟩), .agg #[.int .i64 (l : Nat), .int .i64 (r : Nat)], .int .i64 ((pA ps l).length : Nat), .int .i64 (((pA ps l).length + (pM ps l r).length : Nat) : Int)] w fun e w' => e = .returned (.int .i64 ((hi ps l r : Nat) : Int)) ∧ ∃ pa' pc', w'.heap[g]? = some (.cells #[.slice (some ⟨G, 0, none⟩) n n, .int .i64 (st : Nat), .int .i64 ((rd + hi ps l r : Nat) : Int), .int .u32 (((nx + hi ps l r) % 4294967296 : Nat) : Int), .slice pa' ((pA ps l ++ pC ps l r).map fun p => (p.1 - hi ps l r, p.2.1 - hi ps l r, p.2.2)).length pc', .int .i64 (ct : Nat)] 70 (0, 0)) ∧ OwnR 87 3 PC B pa' ((pA ps l ++ pC ps l r).map fun p => (p.1 - hi ps l r, p.2.1 - hi ps l r, p.2.2)) pc' w' ∧ Turns (JS g pa) w w' ∧ (∀ k, pa' = some ⟨k, 0, none⟩ → pa = some ⟨k, 0, none⟩ ∨ w.heap.size ≤ k) := by
  have hu := And.intro hn (And.intro hrd (And.intro hlr (And.intro hps (And.intro hBw hct))))
  clear hu
  have hlo : lo ps l r = l := by unfold lo; rw [hM]
  have hhiE : hi ps l r = r := by unfold hi; rw [hM]; rfl
  have hM0 : (pM ps l r).length = 0 := by rw [hM]; rfl
  have hEl := pM_len ps l r
  have hTA := take_pA ps l
  have hDC := drop_pC ps l r
  generalize hLe : lo ps l r = L at hL hlo ⊢
  generalize hHe : hi ps l r = H at hhiE hC ⊢
  obtain ⟨FF, hFF⟩ : ∃ z, (pA ps l).length = z := ⟨_, rfl⟩
  obtain ⟨E, hE⟩ : ∃ z, FF + (pM ps l r).length = z := ⟨_, rfl⟩
  rw [hFF] at hEl hTA hDC ⊢
  rw [hE] at hEl hDC ⊢
  generalize hPA : pA ps l = PA at hTA hA ⊢
  generalize hPC : pC ps l r = PCC at hDC hC ⊢
  obtain rfl : FF = E := by omega
  subst hlo
  subst hhiE
  have hHb : H ≤ 1048576 := hr
  clear hM0 hM
  have HB := Lib.hid hB
  have HO := Lib.hid O
  have HTA := Lib.hid hTA
  have HDC := Lib.hid hDC
  have gz := blk_lt hB
  clear hB O hTA hDC hLe hHe hFF hE hPA hPC
  subst hA
  have d2 : ¬ ((0 : Int) < (L : Int)) := by omega
  clear hL
  rw [List.nil_append] at ⊢
  obtain ⟨rdH, hrdH⟩ : ∃ z, rd + H = z := ⟨_, rfl⟩
  obtain ⟨nxH, hnxH⟩ : ∃ z, (nx + H) % 4294967296 = z := ⟨_, rfl⟩
  rw [hrdH, hnxH]
  have HCC := Lib.hid hC
  have HTN : Hid (ps.take FF = []) := Lib.hid HTA.out
  have HNX := Lib.hid hnxH
  obtain ⟨fs, hfs⟩ : ∃ fs : Pt → Pt, fs = fun p => (p.1 - H, p.2.1 - H, p.2.2) := ⟨_, rfl⟩
  rw [← hfs]
  have HFS := Lib.hid hfs
  obtain ⟨QS, hQS⟩ : ∃ z, PCC.map fs = z := ⟨_, rfl⟩
  rw [hQS]
  have HQS := Lib.hid hQS
  clear hC hfs hQS hnxH HTA
  go_enter Try.func33, Try.ntmps33
  go_upto_region 1 with fail
  have S0 := Lib.hid (blk_new w (.cells #[.int .i64 (L : Nat), .int .i64 (H : Nat)] 75))
  have q0 := (Below.refl w.heap.size w).alloc (Nat.le_refl _) (.cells #[.int .i64 (L : Nat), .int .i64 (H : Nat)] 75)
  have Q0 := Lib.hid q0
  have B0 := Lib.hid ((q0.block _ gz).trans HB.out)
  have O0 := Lib.hid (HO.out.below q0)
  clear q0
  generalize w.alloc (.cells #[.int .i64 (L : Nat), .int .i64 (H : Nat)] 75) = V0 at S0 Q0 B0 O0 ⊢
  have d1 : ¬ ((FF : Int) < (FF : Int)) := by omega
  go_upto_region 4 with fail
  have S4 := S0
  have B4 := B0
  have O4 := O0
  have Q4 := Q0
  clear S0 B0 O0 Q0
  obtain ⟨V4, hV4⟩ : ∃ V, V0 = V := ⟨_, rfl⟩
  subst hV4
  have x0 := blk_cell S4.out 0
  have c4 := blk_cell B4.out 4
  have f4 := blk_free B4.out 4
  have HDL := Lib.hid (delete_pt B pa ps pc FF FF V0 O4.out (by omega) hEl)
  have hdl2 := HDL.out
  rw [HTN.out, HDC.out, List.nil_append] at hdl2
  have HDQ := Lib.hid hdl2
  clear hdl2 HDL
  have hq4 := Q4.out.size
  go_upto_region 9 with (first
    | (go_at_call 40; refine HDQ.out.mono ?_; rintro e8 V8 ⟨rfl, o8, g8⟩; have O8 := Lib.hid o8; have G8 := Lib.hid g8; clear o8 g8; have B8 := Lib.hid ((G8.out.block _ (blk_lt B4.out) (fun e => hpg (O4.out.ownEq g e.symm))).trans B4.out); have S8 := Lib.hid ((G8.out.block _ (blk_lt S4.out) (fun e => by have h9 := HO.out.ltB _ (O4.out.ownEq _ e.symm); omega)).trans S4.out); have t4 := blk_cell B8.out 4; have q4 := blk_free B8.out 4)
    | fail)
  have s9 := blk_set B8.out 4 (.slice pa PCC.length pc)
  simp only [List.setIfInBounds_toArray, List.set_cons_zero, List.set_cons_succ] at s9
  have B9 := Lib.hid s9
  have g9 := gr_set V8 g 4 (.slice pa PCC.length pc)
  have S9 := Lib.hid ((g9.block _ (blk_lt S8.out) (fun e => by have := Option.some.inj e; omega)).trans S8.out)
  have O9 := Lib.hid (O8.out.grown g9 (fun g' e e2 => by have e3 := Option.some.inj e2; subst e3; exact hpg e))
  have T9 := Lib.hid (((Turns.of_below (JS g pa) Q4.out).trans (.of_grown (fun k e => .inr (O4.out.ownEq k e)) G8.out)).grown (.inl rfl) g9)
  clear s9 g9 x0 c4 f4 t4 q4 B4 S4 O4 Q4 O8 G8 B8 S8
  generalize V8.setCell ⟨g, 4, none⟩ (.slice pa PCC.length pc) = V9 at B9 S9 O9 T9 ⊢
  have c4 := blk_cell B9.out 4
  go_wp2_with fail
  clear c4
  have hPL : PCC.length ≤ 2000 := by rw [← HDC.out, List.length_drop]; omega
  go_loopw [82] (fun iv wr => ∃ i : Nat, i ≤ PCC.length ∧ iv = .int .i64 i ∧ OwnR 87 3 PC B pa ((PCC.take i).map fs ++ PCC.drop i) pc wr ∧ Turns (JS g pa) V9 wr ∧ wr.heap[g]? = V9.heap[g]? ∧ wr.heap[w.heap.size]? = V9.heap[w.heap.size]?) (fun iv _ => PCC.length - (intOf iv).toNat)
  case atStart => exact ⟨0, by omega, rfl, by rw [List.take_zero, List.map_nil, List.nil_append, List.drop_zero]; exact O9.out, Turns.refl _ _, rfl, rfl⟩
  case round =>
    obtain ⟨i, hi, rfl, oR, tR, eg, es⟩ := hrel
    have OR := Lib.hid oR
    have TR := Lib.hid tR
    have BR := Lib.hid (eg.trans B9.out)
    have SR := Lib.hid (es.trans S9.out)
    clear oR tR eg es
    have hlen : ((PCC.take i).map fs ++ PCC.drop i).length = PCC.length := by rw [List.length_append, List.length_map, List.length_take, List.length_drop]; omega
    by_cases hlt : i < PCC.length
    case pos =>
      obtain ⟨x, hx⟩ : ∃ x, PCC[i]? = some x := ⟨_, List.getElem?_eq_getElem hlt⟩
      have hxH := HCC.out x (List.mem_of_getElem? hx)
      have hxb := hps x (by rw [← HDC.out] at hx; exact List.mem_of_mem_drop (List.mem_of_getElem? hx))
      have HAT := Lib.hid (map_at fs PCC i x hx)
      have HST := Lib.hid (map_step fs PCC i x hx)
      have hfx : fs x = (x.1 - H, x.2.1 - H, x.2.2) := by rw [HFS.out]
      have HFX := Lib.hid hfx
      have HLN := Lib.hid hlen
      generalize (PCC.take i).map fs ++ PCC.drop i = cur at OR HAT HST HLN
      clear hlen hfx hx
      have i1 : (i : Int) < (PCC.length : Int) := by omega
      have Wi : IntKind.i64.wrap ((i : Int) + 1) = ((i + 1 : Nat) : Int) := by rw [IntWalk.i64_in _ ⟨by omega, by omega⟩]; omega
      obtain ⟨gp, hpa, _, _⟩ := OR.out.isSome (by rw [HLN.out]; omega)
      first | subst hpa | cases hpa
      obtain ⟨_, m0, m1, m2⟩ := pt_at (OR.out.sts encP) HAT.out
      simp only [Nat.zero_add] at m0 m1 m2
      have W1 : IntKind.i64.wrap ((x.1 : Int) - (H : Int)) = ((x.1 - H : Nat) : Int) := by rw [IntWalk.i64_in _ ⟨by omega, by omega⟩]; omega
      have W2 : IntKind.i64.wrap ((x.2.1 : Int) - (H : Int)) = ((x.2.1 - H : Nat) : Int) := by rw [IntWalk.i64_in _ ⟨by omega, by omega⟩]; omega
      have c4 := blk_cell BR.out 4
      have x1 := blk_cell SR.out 1
      go_upto_region 12 with fail
      go_still_tail 15, (by kernel_rfl)
      change wpList _ _ _ _ _ wr.drew
      have OD := Lib.hid (OR.out.below (Below.refl _ _).drew)
      have TD := Lib.hid TR.out.drew
      have BD := Lib.hid (blk_drew BR.out)
      have SD := Lib.hid (blk_drew SR.out)
      clear m0 m1 m2 c4 x1 OR TR BR SR
      generalize wr.drew = V2 at OD TD BD SD ⊢
      have f0 := OD.out.frozenP (i * 3)
      obtain ⟨_, m0, m1, m2⟩ := pt_at (OD.out.sts encP) HAT.out
      simp only [Nat.zero_add] at m0 m1 m2
      have S5 := OD.out.setP i 0 x (x.1 - H, x.2) (.int .i64 ((x.1 - H : Nat) : Int)) HAT.out (by omega) rfl
      rw [Nat.add_zero] at S5
      have O5 := Lib.hid S5.1
      have G5 := Lib.hid S5.2
      clear S5
      go_upto_region 13 with fail
      have hgpB : gp < w.heap.size := HO.out.ltB gp rfl
      have hgpg : gp ≠ g := fun e => hpg (by rw [e])
      have B5 := Lib.hid ((G5.out.block _ (blk_lt BD.out) (fun e => hgpg (Option.some.inj e).symm)).trans BD.out)
      have S5 := Lib.hid ((G5.out.block _ (blk_lt SD.out) (fun e => by have := Option.some.inj e; omega)).trans SD.out)
      have T5 := Lib.hid (TD.out.grown (.inr rfl) G5.out)
      clear f0 m0 m1 m2 OD TD BD SD
      generalize V2.setCell ⟨gp, i * 3, none⟩ (.int .i64 ((x.1 - H : Nat) : Int)) = V5 at O5 G5 B5 S5 T5 ⊢
      clear G5
      have hat5 : (cur.set i (x.1 - H, x.2))[i]? = some (x.1 - H, x.2) := by rw [List.getElem?_set_self (by rw [HLN.out]; exact hlt)]
      obtain ⟨_, m0, m1, m2⟩ := pt_at (O5.out.sts encP) hat5
      simp only [Nat.zero_add] at m0 m1 m2
      have c4 := blk_cell B5.out 4
      have x1 := blk_cell S5.out 1
      go_still_tail 15, (by kernel_rfl)
      change wpList _ _ _ _ _ V5.drew
      have OE := Lib.hid (O5.out.below (Below.refl _ _).drew)
      have TE := Lib.hid T5.out.drew
      have BE := Lib.hid (blk_drew B5.out)
      have SE := Lib.hid (blk_drew S5.out)
      clear m0 m1 m2 c4 x1 O5 T5 B5 S5
      generalize V5.drew = V6 at OE TE BE SE ⊢
      have f1 := OE.out.frozenP (i * 3 + 1)
      obtain ⟨_, m0, m1, m2⟩ := pt_at (OE.out.sts encP) hat5
      simp only [Nat.zero_add] at m0 m1 m2
      have S7 := OE.out.setP i 1 (x.1 - H, x.2) (x.1 - H, x.2.1 - H, x.2.2) (.int .i64 ((x.2.1 - H : Nat) : Int)) hat5 (by omega) rfl
      rw [List.set_set, ← HFX.out, HST.out] at S7
      have O7 := Lib.hid S7.1
      have G7 := Lib.hid S7.2
      clear S7
      go_wp2_with fail
      have B7 := Lib.hid ((G7.out.block _ (blk_lt BE.out) (fun e => hgpg (Option.some.inj e).symm)).trans BE.out)
      have S7 := Lib.hid ((G7.out.block _ (blk_lt SE.out) (fun e => by have := Option.some.inj e; omega)).trans SE.out)
      have T7 := Lib.hid (TE.out.grown (.inr rfl) G7.out)
      go_roundw
      case rel => exact ⟨i + 1, by omega, by go_num, O7.out, T7.out, B7.out.trans B9.out.symm, S7.out.trans S9.out.symm⟩
      case measure => simp [intOf]; omega
    case neg =>
      obtain rfl : i = PCC.length := by omega
      have i1 : ¬ ((PCC.length : Int) < (PCC.length : Int)) := by omega
      rw [List.take_length, List.drop_length, List.append_nil, HQS.out] at OR hlen
      have HLN := Lib.hid hlen
      clear hlen hlt
      have W1 : IntKind.i64.wrap ((rd : Int) + (H : Int)) = (rdH : Int) := by rw [IntWalk.i64_in _ ⟨by omega, by omega⟩]; omega
      have W3 : IntKind.u32.wrap (H : Int) = (H : Int) := by rw [IntKind.wrap_u32]; omega
      have W2 : IntKind.u32.wrap ((nx : Int) + (H : Int)) = (nxH : Int) := by rw [IntKind.wrap_u32, ← HNX.out]; omega
      have c2 := blk_cell BR.out 2
      have x1 := blk_cell SR.out 1
      go_upto_region 15 with fail
      go_still_tail 9, (by kernel_rfl)
      change wpList _ _ _ _ _ wr.drew
      have OD := Lib.hid (OR.out.below (Below.refl _ _).drew)
      have TD := Lib.hid TR.out.drew
      have BD := Lib.hid (blk_drew BR.out)
      have SD := Lib.hid (blk_drew SR.out)
      clear c2 x1 OR TR BR SR
      generalize wr.drew = V2 at OD TD BD SD ⊢
      have c2 := blk_cell BD.out 2
      have f2 := blk_free BD.out 2
      have s5 := blk_set BD.out 2 (.int .i64 (rdH : Nat))
      simp only [List.setIfInBounds_toArray, List.set_cons_zero, List.set_cons_succ] at s5
      have B5 := Lib.hid s5
      have g5 := gr_set V2 g 2 (.int .i64 (rdH : Nat))
      have S5 := Lib.hid ((g5.block _ (blk_lt SD.out) (fun e => by have := Option.some.inj e; omega)).trans SD.out)
      have O5 := Lib.hid (OD.out.grown g5 (fun g' e e2 => by have e3 := Option.some.inj e2; subst e3; exact hpg e))
      have T5 := Lib.hid (TD.out.grown (.inl rfl) g5)
      clear s5 g5
      go_upto_region 16 with fail
      clear c2 f2 OD TD BD SD
      generalize V2.setCell ⟨g, 2, none⟩ (.int .i64 (rdH : Nat)) = V5 at B5 S5 O5 T5 ⊢
      have c3 := blk_cell B5.out 3
      have x1 := blk_cell S5.out 1
      go_still_tail 10, (by kernel_rfl)
      change wpList _ _ _ _ _ V5.drew
      have OE := Lib.hid (O5.out.below (Below.refl _ _).drew)
      have TE := Lib.hid T5.out.drew
      have BE := Lib.hid (blk_drew B5.out)
      have SE := Lib.hid (blk_drew S5.out)
      clear c3 x1 O5 T5 B5 S5
      generalize V5.drew = V6 at OE TE BE SE ⊢
      have c3 := blk_cell BE.out 3
      have f3 := blk_free BE.out 3
      have s7 := blk_set BE.out 3 (.int .u32 (nxH : Nat))
      simp only [List.setIfInBounds_toArray, List.set_cons_zero, List.set_cons_succ] at s7
      have B7 := Lib.hid s7
      have g7 := gr_set V6 g 3 (.int .u32 (nxH : Nat))
      have S7 := Lib.hid ((g7.block _ (blk_lt SE.out) (fun e => by have := Option.some.inj e; omega)).trans SE.out)
      have O7 := Lib.hid (OE.out.grown g7 (fun g' e e2 => by have e3 := Option.some.inj e2; subst e3; exact hpg e))
      have T7 := Lib.hid (TE.out.grown (.inl rfl) g7)
      clear s7 g7
      go_upto_region 17 with fail
      clear c3 f3 OE TE BE SE
      generalize V6.setCell ⟨g, 3, none⟩ (.int .u32 (nxH : Nat)) = V7 at B7 S7 O7 T7 ⊢
      have x1 := blk_cell S7.out 1
      go_wp2
      go_ret
      refine ⟨rfl, pa, pc, ?_, O7.out, T9.out.trans T7.out, fun k e => .inl (by first | exact e | (cases e; rfl))⟩
      rw [HLN.out]; exact B7.out
set_option maxRecDepth 100000 in
set_option maxHeartbeats 2000000 in
theorem join_mz (B g G n st rd nx ct pc : Nat) (pa : Option Addr) (ps : List Pt) (l r : Nat) (w : World) (hB : w.heap[g]? = some (.cells #[.slice (some ⟨G, 0, none⟩) n n, .int .i64 (st : Nat), .int .i64 (rd : Nat), .int .u32 (nx : Nat), .slice pa ps.length pc, .int .i64 (ct : Nat)] 70 (0, 0))) (O : OwnR 87 3 PC B pa ps pc w) (hpg : pa ≠ some ⟨g, 0, none⟩) (hBw : B ≤ w.heap.size) (hn : n ≤ 1048576) (hrd : rd ≤ n) (hr : r ≤ 1048576) (hlr : l ≤ r) (hps : ∀ p ∈ ps, p.2.1 ≤ 1048576) (hpl : ps.length ≤ 2000) (hct : ct ≤ 4611686018427387904) (hM : pM ps l r ≠ []) (hL : lo ps l r = 0) (hC : ∀ p ∈ pC ps l r, hi ps l r ≤ p.1 ∧ p.1 ≤ p.2.1) (hA : pA ps l = []) :
    Calls Try.prog 33 #[.pointer (some ⟨g, 0, none⟩), .agg #[.int .i64 (l : Nat), .int .i64 (r : Nat)], .int .i64 ((pA ps l).length : Nat), .int .i64 (((pA ps l).length + (pM ps l r).length : Nat) : Int)] w fun e w' => e = .returned (.int .i64 ((hi ps l r : Nat) : Int)) ∧ ∃ pa' pc', w'.heap[g]? = some (.cells #[.slice (some ⟨G, 0, none⟩) n n, .int .i64 (st : Nat), .int .i64 ((rd + hi ps l r : Nat) : Int), .int .u32 (((nx + hi ps l r) % 4294967296 : Nat) : Int), .slice pa' ((pA ps l ++ pC ps l r).map fun p => (p.1 - hi ps l r, p.2.1 - hi ps l r, p.2.2)).length pc', .int .i64 (ct : Nat)] 70 (0, 0)) ∧ OwnR 87 3 PC B pa' ((pA ps l ++ pC ps l r).map fun p => (p.1 - hi ps l r, p.2.1 - hi ps l r, p.2.2)) pc' w' ∧ Turns (JS g pa) w w' ∧ (∀ k, pa' = some ⟨k, 0, none⟩ → pa = some ⟨k, 0, none⟩ ∨ w.heap.size ≤ k) := by
  have hu := And.intro hn (And.intro hrd (And.intro hlr (And.intro hps (And.intro hBw hct))))
  clear hu
  obtain ⟨x, hx, hlo⟩ := pM_head hM
  obtain ⟨y, hy, hhiE⟩ := pM_last hM
  have hMl : 0 < (pM ps l r).length := List.length_pos_iff.2 hM
  have hEl := pM_len ps l r
  have hTA := take_pA ps l
  have hDC := drop_pC ps l r
  generalize hLe : lo ps l r = L at hL hlo ⊢
  generalize hHe : hi ps l r = H at hhiE hC ⊢
  obtain ⟨FF, hFF⟩ : ∃ z, (pA ps l).length = z := ⟨_, rfl⟩
  obtain ⟨E, hE⟩ : ∃ z, FF + (pM ps l r).length = z := ⟨_, rfl⟩
  rw [hFF] at hEl hTA hDC hx hy ⊢
  rw [hE] at hEl hDC hy ⊢
  generalize hPA : pA ps l = PA at hTA hA ⊢
  generalize hPC : pC ps l r = PCC at hDC hC ⊢
  have hx2 := hps x (List.mem_of_getElem? hx)
  have hy2 := hps y (List.mem_of_getElem? hy)
  have hFE : FF < E := by omega
  have HX := Lib.hid hx
  have HY := Lib.hid hy
  have hmin : min (l : Int) (x.1 : Int) = (L : Int) := by omega
  have hmax : max (r : Int) (y.2.1 : Int) = (H : Int) := by omega
  have HMIN := Lib.hid hmin
  have HMAX := Lib.hid hmax
  have hHb : H ≤ 1048576 := by omega
  clear hx hy hlo hhiE hMl hM hmin hmax
  have HB := Lib.hid hB
  have HO := Lib.hid O
  have HTA := Lib.hid hTA
  have HDC := Lib.hid hDC
  have gz := blk_lt hB
  clear hB O hTA hDC hLe hHe hFF hE hPA hPC
  subst hA
  have d2 : ¬ ((0 : Int) < (L : Int)) := by omega
  clear hL
  rw [List.nil_append] at ⊢
  obtain ⟨rdH, hrdH⟩ : ∃ z, rd + H = z := ⟨_, rfl⟩
  obtain ⟨nxH, hnxH⟩ : ∃ z, (nx + H) % 4294967296 = z := ⟨_, rfl⟩
  rw [hrdH, hnxH]
  have HCC := Lib.hid hC
  have HTN : Hid (ps.take FF = []) := Lib.hid HTA.out
  have HNX := Lib.hid hnxH
  obtain ⟨fs, hfs⟩ : ∃ fs : Pt → Pt, fs = fun p => (p.1 - H, p.2.1 - H, p.2.2) := ⟨_, rfl⟩
  rw [← hfs]
  have HFS := Lib.hid hfs
  obtain ⟨QS, hQS⟩ : ∃ z, PCC.map fs = z := ⟨_, rfl⟩
  rw [hQS]
  have HQS := Lib.hid hQS
  clear hC hfs hQS hnxH HTA
  go_enter Try.func33, Try.ntmps33
  go_upto_region 1 with fail
  have S0 := Lib.hid (blk_new w (.cells #[.int .i64 (l : Nat), .int .i64 (r : Nat)] 75))
  have q0 := (Below.refl w.heap.size w).alloc (Nat.le_refl _) (.cells #[.int .i64 (l : Nat), .int .i64 (r : Nat)] 75)
  have Q0 := Lib.hid q0
  have B0 := Lib.hid ((q0.block _ gz).trans HB.out)
  have O0 := Lib.hid (HO.out.below q0)
  clear q0
  generalize w.alloc (.cells #[.int .i64 (l : Nat), .int .i64 (r : Nat)] 75) = V0 at S0 Q0 B0 O0 ⊢
  have d1 : (FF : Int) < (E : Int) := by omega
  have i0 : (FF : Int) < (ps.length : Int) := by omega
  obtain ⟨gp, hpa, _, _⟩ := O0.out.isSome (by omega)
  subst hpa
  obtain ⟨_, m0, m1, m2⟩ := pt_at (O0.out.sts encP) HX.out
  simp only [Nat.zero_add] at m0 m1 m2
  have hmin : min (l : Int) (x.1 : Int) = (L : Int) := HMIN.out
  have c4 := blk_cell B0.out 4
  have x0 := blk_cell S0.out 0
  go_upto_region 2 with fail
  go_still_tail 13, (by kernel_rfl)
  change wpList _ _ _ _ _ V0.drew
  have S1 := Lib.hid (blk_drew S0.out)
  have B1 := Lib.hid (blk_drew B0.out)
  have O1 := Lib.hid (O0.out.below (Below.refl _ _).drew)
  have Q1 := Lib.hid Q0.out.drew
  clear m0 m1 m2 c4 x0 S0 B0 O0 Q0 hmin
  generalize V0.drew = V1 at S1 B1 O1 Q1 ⊢
  have f0 := blk_free S1.out 0
  have x0 := blk_cell S1.out 0
  have s2 := blk_set S1.out 0 (.int .i64 (L : Nat))
  simp only [List.setIfInBounds_toArray, List.set_cons_zero] at s2
  have S2 := Lib.hid s2
  have g2 := gr_set V1 w.heap.size 0 (.int .i64 (L : Nat))
  have G2 := Lib.hid g2
  clear s2 g2 S1
  go_upto_region 3 with fail
  have B2 := Lib.hid ((G2.out.block _ (blk_lt B1.out) (fun e => by have := Option.some.inj e; omega)).trans B1.out)
  have hgpw : gp < w.heap.size := (HO.out.ltB gp rfl)
  have O2 := Lib.hid (O1.out.grown G2.out (fun g' e e2 => by have e3 := Option.some.inj e2; cases e; omega))
  have Q2 := Lib.hid (Q1.out.grown G2.out Q1.out.size (fun k e => by cases e; exact Nat.le_refl _))
  clear f0 x0 B1 O1 Q1
  generalize V1.setCell ⟨w.heap.size, 0, none⟩ (.int .i64 (L : Nat)) = V2 at S2 G2 B2 O2 Q2 ⊢
  clear G2
  obtain ⟨_, m0, m1, m2⟩ := pt_at (O2.out.sts encP) HY.out
  simp only [Nat.zero_add] at m0 m1 m2
  have hmax : max (r : Int) (y.2.1 : Int) = (H : Int) := HMAX.out
  have c4 := blk_cell B2.out 4
  have x1 := blk_cell S2.out 1
  have W0 : IntKind.i64.wrap ((E : Int) - 1) = ((E - 1 : Nat) : Int) := by rw [IntWalk.i64_in _ ⟨by omega, by omega⟩]; omega
  obtain ⟨E1, hE1⟩ : ∃ z, E - 1 = z := ⟨_, rfl⟩
  rw [hE1] at W0 m0 m1 m2
  have i1 : (E1 : Int) < (ps.length : Int) := by omega
  go_still_tail 14, (by kernel_rfl)
  change wpList _ _ _ _ _ V2.drew
  have S3 := Lib.hid (blk_drew S2.out)
  have B3 := Lib.hid (blk_drew B2.out)
  have O3 := Lib.hid (O2.out.below (Below.refl _ _).drew)
  have Q3 := Lib.hid Q2.out.drew
  clear m0 m1 m2 c4 x1 S2 B2 O2 Q2 hmax
  generalize V2.drew = V3 at S3 B3 O3 Q3 ⊢
  have f1 := blk_free S3.out 1
  have x1 := blk_cell S3.out 1
  have s4 := blk_set S3.out 1 (.int .i64 (H : Nat))
  simp only [List.setIfInBounds_toArray, List.set_cons_zero, List.set_cons_succ] at s4
  have S4 := Lib.hid s4
  have g4 := gr_set V3 w.heap.size 1 (.int .i64 (H : Nat))
  have G4 := Lib.hid g4
  clear s4 g4 S3
  go_upto_region 4 with fail
  have B4 := Lib.hid ((G4.out.block _ (blk_lt B3.out) (fun e => by have := Option.some.inj e; omega)).trans B3.out)
  have O4 := Lib.hid (O3.out.grown G4.out (fun g' e e2 => by have e3 := Option.some.inj e2; cases e; omega))
  have Q4 := Lib.hid (Q3.out.grown G4.out Q3.out.size (fun k e => by cases e; exact Nat.le_refl _))
  clear f1 x1 B3 O3 Q3
  generalize V3.setCell ⟨w.heap.size, 1, none⟩ (.int .i64 (H : Nat)) = V4 at S4 G4 B4 O4 Q4 ⊢
  clear G4
  have x0 := blk_cell S4.out 0
  have c4 := blk_cell B4.out 4
  have f4 := blk_free B4.out 4
  have HDL := Lib.hid (delete_pt B (some ⟨gp, 0, none⟩) ps pc FF E V4 O4.out (by omega) hEl)
  have hdl2 := HDL.out
  rw [HTN.out, HDC.out, List.nil_append] at hdl2
  have HDQ := Lib.hid hdl2
  clear hdl2 HDL
  have hq4 := Q4.out.size
  go_upto_region 9 with (first
    | (go_at_call 40; refine HDQ.out.mono ?_; rintro e8 V8 ⟨rfl, o8, g8⟩; have O8 := Lib.hid o8; have G8 := Lib.hid g8; clear o8 g8; have B8 := Lib.hid ((G8.out.block _ (blk_lt B4.out) (fun e => hpg (O4.out.ownEq g e.symm))).trans B4.out); have S8 := Lib.hid ((G8.out.block _ (blk_lt S4.out) (fun e => by have h9 := HO.out.ltB _ (O4.out.ownEq _ e.symm); omega)).trans S4.out); have t4 := blk_cell B8.out 4; have q4 := blk_free B8.out 4)
    | fail)
  have s9 := blk_set B8.out 4 (.slice (some ⟨gp, 0, none⟩) PCC.length pc)
  simp only [List.setIfInBounds_toArray, List.set_cons_zero, List.set_cons_succ] at s9
  have B9 := Lib.hid s9
  have g9 := gr_set V8 g 4 (.slice (some ⟨gp, 0, none⟩) PCC.length pc)
  have S9 := Lib.hid ((g9.block _ (blk_lt S8.out) (fun e => by have := Option.some.inj e; omega)).trans S8.out)
  have O9 := Lib.hid (O8.out.grown g9 (fun g' e e2 => by have e3 := Option.some.inj e2; subst e3; exact hpg e))
  have T9 := Lib.hid (((Turns.of_below (JS g (some ⟨gp, 0, none⟩)) Q4.out).trans (.of_grown (fun k e => .inr (O4.out.ownEq k e)) G8.out)).grown (.inl rfl) g9)
  clear s9 g9 x0 c4 f4 t4 q4 B4 S4 O4 Q4 O8 G8 B8 S8
  generalize V8.setCell ⟨g, 4, none⟩ (.slice (some ⟨gp, 0, none⟩) PCC.length pc) = V9 at B9 S9 O9 T9 ⊢
  have c4 := blk_cell B9.out 4
  go_wp2_with fail
  clear c4
  have hPL : PCC.length ≤ 2000 := by rw [← HDC.out, List.length_drop]; omega
  go_loopw [82] (fun iv wr => ∃ i : Nat, i ≤ PCC.length ∧ iv = .int .i64 i ∧ OwnR 87 3 PC B (some ⟨gp, 0, none⟩) ((PCC.take i).map fs ++ PCC.drop i) pc wr ∧ Turns (JS g (some ⟨gp, 0, none⟩)) V9 wr ∧ wr.heap[g]? = V9.heap[g]? ∧ wr.heap[w.heap.size]? = V9.heap[w.heap.size]?) (fun iv _ => PCC.length - (intOf iv).toNat)
  case atStart => exact ⟨0, by omega, rfl, by rw [List.take_zero, List.map_nil, List.nil_append, List.drop_zero]; exact O9.out, Turns.refl _ _, rfl, rfl⟩
  case round =>
    obtain ⟨i, hi, rfl, oR, tR, eg, es⟩ := hrel
    have OR := Lib.hid oR
    have TR := Lib.hid tR
    have BR := Lib.hid (eg.trans B9.out)
    have SR := Lib.hid (es.trans S9.out)
    clear oR tR eg es
    have hlen : ((PCC.take i).map fs ++ PCC.drop i).length = PCC.length := by rw [List.length_append, List.length_map, List.length_take, List.length_drop]; omega
    by_cases hlt : i < PCC.length
    case pos =>
      obtain ⟨x, hx⟩ : ∃ x, PCC[i]? = some x := ⟨_, List.getElem?_eq_getElem hlt⟩
      have hxH := HCC.out x (List.mem_of_getElem? hx)
      have hxb := hps x (by rw [← HDC.out] at hx; exact List.mem_of_mem_drop (List.mem_of_getElem? hx))
      have HAT := Lib.hid (map_at fs PCC i x hx)
      have HST := Lib.hid (map_step fs PCC i x hx)
      have hfx : fs x = (x.1 - H, x.2.1 - H, x.2.2) := by rw [HFS.out]
      have HFX := Lib.hid hfx
      have HLN := Lib.hid hlen
      generalize (PCC.take i).map fs ++ PCC.drop i = cur at OR HAT HST HLN
      clear hlen hfx hx
      have i1 : (i : Int) < (PCC.length : Int) := by omega
      have Wi : IntKind.i64.wrap ((i : Int) + 1) = ((i + 1 : Nat) : Int) := by rw [IntWalk.i64_in _ ⟨by omega, by omega⟩]; omega
      obtain ⟨gp, hpa, _, _⟩ := OR.out.isSome (by rw [HLN.out]; omega)
      first | subst hpa | cases hpa
      obtain ⟨_, m0, m1, m2⟩ := pt_at (OR.out.sts encP) HAT.out
      simp only [Nat.zero_add] at m0 m1 m2
      have W1 : IntKind.i64.wrap ((x.1 : Int) - (H : Int)) = ((x.1 - H : Nat) : Int) := by rw [IntWalk.i64_in _ ⟨by omega, by omega⟩]; omega
      have W2 : IntKind.i64.wrap ((x.2.1 : Int) - (H : Int)) = ((x.2.1 - H : Nat) : Int) := by rw [IntWalk.i64_in _ ⟨by omega, by omega⟩]; omega
      have c4 := blk_cell BR.out 4
      have x1 := blk_cell SR.out 1
      go_upto_region 12 with fail
      go_still_tail 15, (by kernel_rfl)
      change wpList _ _ _ _ _ wr.drew
      have OD := Lib.hid (OR.out.below (Below.refl _ _).drew)
      have TD := Lib.hid TR.out.drew
      have BD := Lib.hid (blk_drew BR.out)
      have SD := Lib.hid (blk_drew SR.out)
      clear m0 m1 m2 c4 x1 OR TR BR SR
      generalize wr.drew = V2 at OD TD BD SD ⊢
      have f0 := OD.out.frozenP (i * 3)
      obtain ⟨_, m0, m1, m2⟩ := pt_at (OD.out.sts encP) HAT.out
      simp only [Nat.zero_add] at m0 m1 m2
      have S5 := OD.out.setP i 0 x (x.1 - H, x.2) (.int .i64 ((x.1 - H : Nat) : Int)) HAT.out (by omega) rfl
      rw [Nat.add_zero] at S5
      have O5 := Lib.hid S5.1
      have G5 := Lib.hid S5.2
      clear S5
      go_upto_region 13 with fail
      have hgpB : gp < w.heap.size := HO.out.ltB gp rfl
      have hgpg : gp ≠ g := fun e => hpg (by rw [e])
      have B5 := Lib.hid ((G5.out.block _ (blk_lt BD.out) (fun e => hgpg (Option.some.inj e).symm)).trans BD.out)
      have S5 := Lib.hid ((G5.out.block _ (blk_lt SD.out) (fun e => by have := Option.some.inj e; omega)).trans SD.out)
      have T5 := Lib.hid (TD.out.grown (.inr rfl) G5.out)
      clear f0 m0 m1 m2 OD TD BD SD
      generalize V2.setCell ⟨gp, i * 3, none⟩ (.int .i64 ((x.1 - H : Nat) : Int)) = V5 at O5 G5 B5 S5 T5 ⊢
      clear G5
      have hat5 : (cur.set i (x.1 - H, x.2))[i]? = some (x.1 - H, x.2) := by rw [List.getElem?_set_self (by rw [HLN.out]; exact hlt)]
      obtain ⟨_, m0, m1, m2⟩ := pt_at (O5.out.sts encP) hat5
      simp only [Nat.zero_add] at m0 m1 m2
      have c4 := blk_cell B5.out 4
      have x1 := blk_cell S5.out 1
      go_still_tail 15, (by kernel_rfl)
      change wpList _ _ _ _ _ V5.drew
      have OE := Lib.hid (O5.out.below (Below.refl _ _).drew)
      have TE := Lib.hid T5.out.drew
      have BE := Lib.hid (blk_drew B5.out)
      have SE := Lib.hid (blk_drew S5.out)
      clear m0 m1 m2 c4 x1 O5 T5 B5 S5
      generalize V5.drew = V6 at OE TE BE SE ⊢
      have f1 := OE.out.frozenP (i * 3 + 1)
      obtain ⟨_, m0, m1, m2⟩ := pt_at (OE.out.sts encP) hat5
      simp only [Nat.zero_add] at m0 m1 m2
      have S7 := OE.out.setP i 1 (x.1 - H, x.2) (x.1 - H, x.2.1 - H, x.2.2) (.int .i64 ((x.2.1 - H : Nat) : Int)) hat5 (by omega) rfl
      rw [List.set_set, ← HFX.out, HST.out] at S7
      have O7 := Lib.hid S7.1
      have G7 := Lib.hid S7.2
      clear S7
      go_wp2_with fail
      have B7 := Lib.hid ((G7.out.block _ (blk_lt BE.out) (fun e => hgpg (Option.some.inj e).symm)).trans BE.out)
      have S7 := Lib.hid ((G7.out.block _ (blk_lt SE.out) (fun e => by have := Option.some.inj e; omega)).trans SE.out)
      have T7 := Lib.hid (TE.out.grown (.inr rfl) G7.out)
      go_roundw
      case rel => exact ⟨i + 1, by omega, by go_num, O7.out, T7.out, B7.out.trans B9.out.symm, S7.out.trans S9.out.symm⟩
      case measure => simp [intOf]; omega
    case neg =>
      obtain rfl : i = PCC.length := by omega
      have i1 : ¬ ((PCC.length : Int) < (PCC.length : Int)) := by omega
      rw [List.take_length, List.drop_length, List.append_nil, HQS.out] at OR hlen
      have HLN := Lib.hid hlen
      clear hlen hlt
      have W1 : IntKind.i64.wrap ((rd : Int) + (H : Int)) = (rdH : Int) := by rw [IntWalk.i64_in _ ⟨by omega, by omega⟩]; omega
      have W3 : IntKind.u32.wrap (H : Int) = (H : Int) := by rw [IntKind.wrap_u32]; omega
      have W2 : IntKind.u32.wrap ((nx : Int) + (H : Int)) = (nxH : Int) := by rw [IntKind.wrap_u32, ← HNX.out]; omega
      have c2 := blk_cell BR.out 2
      have x1 := blk_cell SR.out 1
      go_upto_region 15 with fail
      go_still_tail 9, (by kernel_rfl)
      change wpList _ _ _ _ _ wr.drew
      have OD := Lib.hid (OR.out.below (Below.refl _ _).drew)
      have TD := Lib.hid TR.out.drew
      have BD := Lib.hid (blk_drew BR.out)
      have SD := Lib.hid (blk_drew SR.out)
      clear c2 x1 OR TR BR SR
      generalize wr.drew = V2 at OD TD BD SD ⊢
      have c2 := blk_cell BD.out 2
      have f2 := blk_free BD.out 2
      have s5 := blk_set BD.out 2 (.int .i64 (rdH : Nat))
      simp only [List.setIfInBounds_toArray, List.set_cons_zero, List.set_cons_succ] at s5
      have B5 := Lib.hid s5
      have g5 := gr_set V2 g 2 (.int .i64 (rdH : Nat))
      have S5 := Lib.hid ((g5.block _ (blk_lt SD.out) (fun e => by have := Option.some.inj e; omega)).trans SD.out)
      have O5 := Lib.hid (OD.out.grown g5 (fun g' e e2 => by have e3 := Option.some.inj e2; subst e3; exact hpg e))
      have T5 := Lib.hid (TD.out.grown (.inl rfl) g5)
      clear s5 g5
      go_upto_region 16 with fail
      clear c2 f2 OD TD BD SD
      generalize V2.setCell ⟨g, 2, none⟩ (.int .i64 (rdH : Nat)) = V5 at B5 S5 O5 T5 ⊢
      have c3 := blk_cell B5.out 3
      have x1 := blk_cell S5.out 1
      go_still_tail 10, (by kernel_rfl)
      change wpList _ _ _ _ _ V5.drew
      have OE := Lib.hid (O5.out.below (Below.refl _ _).drew)
      have TE := Lib.hid T5.out.drew
      have BE := Lib.hid (blk_drew B5.out)
      have SE := Lib.hid (blk_drew S5.out)
      clear c3 x1 O5 T5 B5 S5
      generalize V5.drew = V6 at OE TE BE SE ⊢
      have c3 := blk_cell BE.out 3
      have f3 := blk_free BE.out 3
      have s7 := blk_set BE.out 3 (.int .u32 (nxH : Nat))
      simp only [List.setIfInBounds_toArray, List.set_cons_zero, List.set_cons_succ] at s7
      have B7 := Lib.hid s7
      have g7 := gr_set V6 g 3 (.int .u32 (nxH : Nat))
      have S7 := Lib.hid ((g7.block _ (blk_lt SE.out) (fun e => by have := Option.some.inj e; omega)).trans SE.out)
      have O7 := Lib.hid (OE.out.grown g7 (fun g' e e2 => by have e3 := Option.some.inj e2; subst e3; exact hpg e))
      have T7 := Lib.hid (TE.out.grown (.inl rfl) g7)
      clear s7 g7
      go_upto_region 17 with fail
      clear c3 f3 OE TE BE SE
      generalize V6.setCell ⟨g, 3, none⟩ (.int .u32 (nxH : Nat)) = V7 at B7 S7 O7 T7 ⊢
      have x1 := blk_cell S7.out 1
      go_wp2
      go_ret
      refine ⟨rfl, (some ⟨gp, 0, none⟩), pc, ?_, O7.out, T9.out.trans T7.out, fun k e => .inl (by first | exact e | (cases e; rfl))⟩
      rw [HLN.out]; exact B7.out
end Go.Proofs.Ytknebjfdggimcaa
