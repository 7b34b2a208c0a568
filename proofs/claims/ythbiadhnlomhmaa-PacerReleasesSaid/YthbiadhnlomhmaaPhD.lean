/- A heap of packets that wait: down from its first. -/
import Derived.Test.YthbiadhnlomhmaaPhC
import Derived.Deep.DeepCutAuto
namespace Go.Proofs.Ythbiadhnlomhmaa
open Go.RowKit Go.Proofs.Ythbiadhnlomhmaa.Ph

set_option maxRecDepth 100000 in
set_option maxHeartbeats 2000000 in
theorem down_ok (D : Nat → Int) (hm : ∀ i j, i ≤ j → D i ≤ D j) (B p o g : Nat) (cs : Array Value) (t : TypeId) (xs : List Nat) (cap n : Nat) (w : World) (hb : w.heap[p]? = some (.cells cs t (0, 0))) (hcs : cs[o]? = some (.slice (some ⟨g, 0, none⟩) xs.length cap)) (hpg : p ≠ g) (h : OwnR 51 3 (PKC D) B (some ⟨g, 0, none⟩) xs cap w) (hn : n ≤ xs.length) (hl : xs.length ≤ 4096) (hx : HeapX n 0 xs) :
    Calls Try.prog 15 #[hP p o, .int .i64 0, .int .i64 (n : Nat)] w fun e w' => (∃ b, e = .returned (.bool b)) ∧ (∃ ys, OwnR 51 3 (PKC D) B (some ⟨g, 0, none⟩) ys cap w' ∧ Heap n ys ∧ ys.Perm xs ∧ ∀ k, n ≤ k → at0 ys k = at0 xs k) ∧ w.grownBy w' (some g) := by
  go_enter Try.func15, Try.ntmps15
  go_wp2
  go_loopw [7] (fun iv wr => ∃ (i : Nat) (ys : List Nat), i ≤ n ∧ iv = .int .i64 i ∧ OwnR 51 3 (PKC D) B (some ⟨g, 0, none⟩) ys cap wr ∧ HeapX n i ys ∧ ys.Perm xs ∧ (∀ k, n ≤ k → at0 ys k = at0 xs k) ∧ w.grownBy wr (some g)) (fun iv _ => n - (intOf iv).toNat)
  case atStart => exact ⟨0, xs, by omega, rfl, h, hx, List.Perm.refl _, fun _ _ => rfl, World.grownBy.refl w _⟩
  case round =>
    obtain ⟨i, ys, hin, rfl, h1, h2, h3, h4, h5⟩ := hrel
    have OR := Lib.hid h1
    have HX := Lib.hid h2
    have HPM := Lib.hid h3
    have HSM := Lib.hid h4
    have GR := Lib.hid h5
    have HLEN := Lib.hid h3.length_eq
    have hyl : ys.length = xs.length := h3.length_eq
    clear h1 h2 h3 h4 h5
    have W1 : IntKind.i64.wrap (2 * (i : Int)) = 2 * (i : Int) := IntWalk.i64_in _ ⟨by omega, by omega⟩
    have W2 : IntKind.i64.wrap (2 * (i : Int) + 1) = 2 * (i : Int) + 1 := IntWalk.i64_in _ ⟨by omega, by omega⟩
    by_cases hA : n ≤ 2 * i + 1
    · have i1 : (n : Int) ≤ 2 * (i : Int) + 1 := by omega
      have HST := Lib.hid (HX.out.stop (fun k h0 hk hp => absurd hk (by omega)))
      go_wp2
      go_ret
      exact ⟨⟨_, rfl⟩, ⟨ys, OR.out, HST.out, HPM.out, HSM.out⟩, GR.out⟩
    · obtain ⟨j1, hj1⟩ : ∃ j, 2 * i + 1 = j := ⟨_, rfl⟩
      obtain ⟨j2, hj2⟩ : ∃ j, j1 + 1 = j := ⟨_, rfl⟩
      have e1 : 2 * (i : Int) + 1 = (j1 : Int) := by omega
      have W2 : IntKind.i64.wrap (2 * (i : Int) + 1) = (j1 : Int) := W2.trans e1
      have i1 : ¬ (n : Int) ≤ (j1 : Int) := by omega
      have i2 : ¬ (j1 : Int) < 0 := by omega
      have W3 : IntKind.i64.wrap ((j1 : Int) + 1) = (j2 : Int) := by rw [IntWalk.i64_in _ ⟨by omega, by omega⟩]; omega
      by_cases hB : j2 < n
      · have i3 : (j2 : Int) < (n : Int) := by omega
        have i3d : decide ((j2 : Int) < (n : Int)) = true := decide_eq_true i3
        have i3e : decide (j2 < n) = true := decide_eq_true hB
        have hcV := (GR.out.block p (blk_lt hb) (fun e => hpg (Option.some.inj e))).trans hb
        have HM1 := fun K => m_less K wr p o (.slice (some ⟨g, 0, none⟩) xs.length cap) ((blk_cell hcV o).trans hcs)
        have HL1 := Lib.hid (less_any D hm (some ⟨g, 0, none⟩) ys cap j2 j1 wr (OR.out.sts (encP D)) (by omega) (by omega))
        rw [hyl] at HL1
        by_cases hC : at0 ys j2 < at0 ys j1
        · rw [decide_eq_true hC] at HL1
          have HMIN : Hid (∀ k, 0 < k → k < n → (k - 1) / 2 = i → at0 ys j2 ≤ at0 ys k) := Lib.hid (fun k h0 hk hp => by
            rcases (show k = j1 ∨ k = j2 by omega) with rfl | rfl <;> omega)
          clear hC hcV
          go_upto_region 8 with (first
            | (go_at_call 33; refine HL1.out.mono ?_; rintro e V1 ⟨rfl, b⟩; have O1 := Lib.hid (OR.out.below b); have G1 := Lib.hid (gr_trans GR.out (gr_below b _)); clear b)
            | fail)
          clear HM1 HL1 W1 W2 W3
          have hcV := (G1.out.block p (blk_lt hb) (fun e => hpg (Option.some.inj e))).trans hb
          have HM2 := fun K => m_less K V1 p o (.slice (some ⟨g, 0, none⟩) xs.length cap) ((blk_cell hcV o).trans hcs)
          have HL2 := Lib.hid (less_any D hm (some ⟨g, 0, none⟩) ys cap j2 i V1 (O1.out.sts (encP D)) (by omega) (by omega))
          rw [hyl] at HL2
          have JL := Lib.hid (show j2 < ys.length by omega)
          by_cases hlt : at0 ys j2 < at0 ys i
          · rw [decide_eq_true hlt] at HL2
            have HX2 := Lib.hid (HX.out.step (by omega) ⟨by omega, by omega, by omega⟩ HMIN.out hlt)
            have IL := Lib.hid (show i < ys.length by omega)
            have JI := Lib.hid (show j2 < n ∧ i < j2 by omega)
            clear hlt
            go_upto_region 9 with (first
              | (go_at_call 33; refine HL2.out.mono ?_; rintro e V2 ⟨rfl, b⟩; have O2 := Lib.hid (O1.out.below b); have G2 := Lib.hid (gr_trans G1.out (gr_below b _)); clear b)
              | fail)
            clear hcV HM2 HL2
            have hcV2 := (G2.out.block p (blk_lt hb) (fun e => hpg (Option.some.inj e))).trans hb
            have HM3 := fun K => m_swap K V2 p o (.slice (some ⟨g, 0, none⟩) xs.length cap) ((blk_cell hcV2 o).trans hcs)
            have HS := Lib.hid (swap_any D B g ys cap i j2 V2 O2.out IL.out JL.out)
            rw [hyl] at HS
            go_wp2_with (first
              | (go_at_call 34; refine HS.out.mono ?_; rintro e V3 ⟨rfl, o3, g3⟩; have O3 := Lib.hid o3; have G3 := Lib.hid (gr_trans G2.out g3); clear o3 g3)
              | fail)
            go_roundw
            case rel => exact ⟨j2, sw ys i j2, by have := JI.out; omega, by go_num, O3.out, HX2.out, (sw_perm IL.out JL.out).trans HPM.out, fun k hk => by rw [sw_at IL.out JL.out, if_neg (by have := JI.out; omega), if_neg (by have := JI.out; omega)]; exact HSM.out k hk, G3.out⟩
            case measure => have := JI.out; simp [intOf]; omega
          · rw [decide_eq_false hlt] at HL2
            have HST := Lib.hid (HX.out.stop (fun k h0 hk hp => Nat.le_trans (by omega) (HMIN.out k h0 hk hp)))
            clear hlt
            go_wp2_with (first
              | (go_at_call 33; refine HL2.out.mono ?_; rintro e V2 ⟨rfl, b⟩; have O2 := Lib.hid (O1.out.below b); have G2 := Lib.hid (gr_trans G1.out (gr_below b _)); clear b)
              | fail)
            go_ret
            exact ⟨⟨_, rfl⟩, ⟨ys, O2.out, HST.out, HPM.out, HSM.out⟩, G2.out⟩
        · rw [decide_eq_false hC] at HL1
          have HMIN : Hid (∀ k, 0 < k → k < n → (k - 1) / 2 = i → at0 ys j1 ≤ at0 ys k) := Lib.hid (fun k h0 hk hp => by
            rcases (show k = j1 ∨ k = j2 by omega) with rfl | rfl <;> omega)
          clear hC hcV
          go_upto_region 8 with (first
            | (go_at_call 33; refine HL1.out.mono ?_; rintro e V1 ⟨rfl, b⟩; have O1 := Lib.hid (OR.out.below b); have G1 := Lib.hid (gr_trans GR.out (gr_below b _)); clear b)
            | fail)
          clear HM1 HL1 W1 W2 W3
          have hcV := (G1.out.block p (blk_lt hb) (fun e => hpg (Option.some.inj e))).trans hb
          have HM2 := fun K => m_less K V1 p o (.slice (some ⟨g, 0, none⟩) xs.length cap) ((blk_cell hcV o).trans hcs)
          have HL2 := Lib.hid (less_any D hm (some ⟨g, 0, none⟩) ys cap j1 i V1 (O1.out.sts (encP D)) (by omega) (by omega))
          rw [hyl] at HL2
          have JL := Lib.hid (show j1 < ys.length by omega)
          by_cases hlt : at0 ys j1 < at0 ys i
          · rw [decide_eq_true hlt] at HL2
            have HX2 := Lib.hid (HX.out.step (by omega) ⟨by omega, by omega, by omega⟩ HMIN.out hlt)
            have IL := Lib.hid (show i < ys.length by omega)
            have JI := Lib.hid (show j1 < n ∧ i < j1 by omega)
            clear hlt
            go_upto_region 9 with (first
              | (go_at_call 33; refine HL2.out.mono ?_; rintro e V2 ⟨rfl, b⟩; have O2 := Lib.hid (O1.out.below b); have G2 := Lib.hid (gr_trans G1.out (gr_below b _)); clear b)
              | fail)
            clear hcV HM2 HL2
            have hcV2 := (G2.out.block p (blk_lt hb) (fun e => hpg (Option.some.inj e))).trans hb
            have HM3 := fun K => m_swap K V2 p o (.slice (some ⟨g, 0, none⟩) xs.length cap) ((blk_cell hcV2 o).trans hcs)
            have HS := Lib.hid (swap_any D B g ys cap i j1 V2 O2.out IL.out JL.out)
            rw [hyl] at HS
            go_wp2_with (first
              | (go_at_call 34; refine HS.out.mono ?_; rintro e V3 ⟨rfl, o3, g3⟩; have O3 := Lib.hid o3; have G3 := Lib.hid (gr_trans G2.out g3); clear o3 g3)
              | fail)
            go_roundw
            case rel => exact ⟨j1, sw ys i j1, by have := JI.out; omega, by go_num, O3.out, HX2.out, (sw_perm IL.out JL.out).trans HPM.out, fun k hk => by rw [sw_at IL.out JL.out, if_neg (by have := JI.out; omega), if_neg (by have := JI.out; omega)]; exact HSM.out k hk, G3.out⟩
            case measure => have := JI.out; simp [intOf]; omega
          · rw [decide_eq_false hlt] at HL2
            have HST := Lib.hid (HX.out.stop (fun k h0 hk hp => Nat.le_trans (by omega) (HMIN.out k h0 hk hp)))
            clear hlt
            go_wp2_with (first
              | (go_at_call 33; refine HL2.out.mono ?_; rintro e V2 ⟨rfl, b⟩; have O2 := Lib.hid (O1.out.below b); have G2 := Lib.hid (gr_trans G1.out (gr_below b _)); clear b)
              | fail)
            go_ret
            exact ⟨⟨_, rfl⟩, ⟨ys, O2.out, HST.out, HPM.out, HSM.out⟩, G2.out⟩
      · have i3 : ¬ (j2 : Int) < (n : Int) := by omega
        have i3d : decide ((j2 : Int) < (n : Int)) = false := decide_eq_false i3
        have i3e : decide (j2 < n) = false := decide_eq_false hB
        have HMIN : Hid (∀ k, 0 < k → k < n → (k - 1) / 2 = i → at0 ys j1 ≤ at0 ys k) := Lib.hid (fun k h0 hk hp => by
          obtain rfl : k = j1 := by omega
          exact Nat.le_refl _)
        go_upto_region 8 with fail
        clear W1 W2 W3
        have hcV := (GR.out.block p (blk_lt hb) (fun e => hpg (Option.some.inj e))).trans hb
        have HM2 := fun K => m_less K wr p o (.slice (some ⟨g, 0, none⟩) xs.length cap) ((blk_cell hcV o).trans hcs)
        have HL2 := Lib.hid (less_any D hm (some ⟨g, 0, none⟩) ys cap j1 i wr (OR.out.sts (encP D)) (by omega) (by omega))
        rw [hyl] at HL2
        have JL := Lib.hid (show j1 < ys.length by omega)
        by_cases hlt : at0 ys j1 < at0 ys i
        · rw [decide_eq_true hlt] at HL2
          have HX2 := Lib.hid (HX.out.step (by omega) ⟨by omega, by omega, by omega⟩ HMIN.out hlt)
          have IL := Lib.hid (show i < ys.length by omega)
          have JI := Lib.hid (show j1 < n ∧ i < j1 by omega)
          clear hlt
          go_upto_region 9 with (first
            | (go_at_call 33; refine HL2.out.mono ?_; rintro e V2 ⟨rfl, b⟩; have O2 := Lib.hid (OR.out.below b); have G2 := Lib.hid (gr_trans GR.out (gr_below b _)); clear b)
            | fail)
          clear hcV HM2 HL2
          have hcV2 := (G2.out.block p (blk_lt hb) (fun e => hpg (Option.some.inj e))).trans hb
          have HM3 := fun K => m_swap K V2 p o (.slice (some ⟨g, 0, none⟩) xs.length cap) ((blk_cell hcV2 o).trans hcs)
          have HS := Lib.hid (swap_any D B g ys cap i j1 V2 O2.out IL.out JL.out)
          rw [hyl] at HS
          go_wp2_with (first
            | (go_at_call 34; refine HS.out.mono ?_; rintro e V3 ⟨rfl, o3, g3⟩; have O3 := Lib.hid o3; have G3 := Lib.hid (gr_trans G2.out g3); clear o3 g3)
            | fail)
          go_roundw
          case rel => exact ⟨j1, sw ys i j1, by have := JI.out; omega, by go_num, O3.out, HX2.out, (sw_perm IL.out JL.out).trans HPM.out, fun k hk => by rw [sw_at IL.out JL.out, if_neg (by have := JI.out; omega), if_neg (by have := JI.out; omega)]; exact HSM.out k hk, G3.out⟩
          case measure => have := JI.out; simp [intOf]; omega
        · rw [decide_eq_false hlt] at HL2
          have HST := Lib.hid (HX.out.stop (fun k h0 hk hp => Nat.le_trans (by omega) (HMIN.out k h0 hk hp)))
          clear hlt
          go_wp2_with (first
            | (go_at_call 33; refine HL2.out.mono ?_; rintro e V2 ⟨rfl, b⟩; have O2 := Lib.hid (OR.out.below b); have G2 := Lib.hid (gr_trans GR.out (gr_below b _)); clear b)
            | fail)
          go_ret
          exact ⟨⟨_, rfl⟩, ⟨ys, O2.out, HST.out, HPM.out, HSM.out⟩, G2.out⟩
end Go.Proofs.Ythbiadhnlomhmaa
