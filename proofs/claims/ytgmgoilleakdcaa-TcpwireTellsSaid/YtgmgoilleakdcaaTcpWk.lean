/- tcpwire.walk: goes through options from the left. -/
import Derived.Test.YtgmgoilleakdcaaTcpCl
namespace Go.Proofs.Ytgmgoilleakdcaa
open Go.RowKit Go.Maps

/-- What options say, read from the left; ks: the kinds that were seen. -/
def tOpts : Nat → List Nat → List Nat → TOpt → Option TOpt
  | 0, _, _, _ => none
  | f + 1, xs, ks, s =>
    if xs.length = 0 then some s else if xs.getD 0 0 = 0 then some s else if xs.getD 0 0 = 1 then tOpts f (xs.drop 1) ks s else if xs.length < 2 then none
    else if xs.getD 1 0 < 2 ∨ xs.length < xs.getD 1 0 ∨ tcpFits (xs.getD 0 0) (xs.getD 1 0) = false then none
    else tOpts f (xs.drop (xs.getD 1 0)) (ks ++ [xs.getD 0 0]) (if xs.getD 0 0 ∈ ks then s else setO s (xs.getD 0 0) (seg xs 2 (xs.getD 1 0 - 2)))

theorem tOpts_succ (f : Nat) (xs ks : List Nat) (s : TOpt) : tOpts (f + 1) xs ks s =
    if xs.length = 0 then some s else if xs.getD 0 0 = 0 then some s else if xs.getD 0 0 = 1 then tOpts f (xs.drop 1) ks s else if xs.length < 2 then none
    else if xs.getD 1 0 < 2 ∨ xs.length < xs.getD 1 0 ∨ tcpFits (xs.getD 0 0) (xs.getD 1 0) = false then none
    else tOpts f (xs.drop (xs.getD 1 0)) (ks ++ [xs.getD 0 0]) (if xs.getD 0 0 ∈ ks then s else setO s (xs.getD 0 0) (seg xs 2 (xs.getD 1 0 - 2))) := rfl

def lenV : Value → Nat
  | .slice _ n _ => n
  | _ => 0

theorem PInv.drew {w0 : World} {gq gm gs sp dp sq ak fl wn ur : Nat} {d : Value} {H0 : World → Prop} (hH : ∀ W W', H0 W → Kept2 W W' gm gs → H0 W') {ks : List Nat} {s : TOpt} {W : World} (h : PInv w0 gq gm gs sp dp sq ak fl wn ur d H0 ks s W) : PInv w0 gq gm gs sp dp sq ak fl wn ur d H0 ks s W.drew := by
  obtain ⟨⟨h1, D, h2, h3⟩, ⟨v, h4, h5, h6⟩, h7, h8⟩ := h
  exact ⟨⟨h1, D, h2.drew, h3⟩, ⟨v, h4, h5.drew, h6⟩, h7.drew, hH _ _ h8 (Kept2.one (grown_drew W (some gm)))⟩

/-- What stands behind a place, in a slice cut there. -/
theorem Bts.cut {w : World} {b off : Nat} {xs : List Nat} (h : Bts w (some ⟨b, off, none⟩) xs) (i : Nat) (hi : i ≤ xs.length) (ad : Option Addr) (ha : i < xs.length → ad = some ⟨b, off + i, none⟩) : Bts w ad (xs.drop i) := by
  by_cases hlt : i < xs.length
  · rw [ha hlt]; exact h.rest i hi
  · rw [List.drop_eq_nil_of_le (by omega)]; exact Bts.nil w ad

set_option maxRecDepth 100000 in
set_option maxHeartbeats 4000000 in
theorem walk_any (w0 : World) (gq gm gs sp dp sq ak fl wn ur : Nat) (d : Value) (H0 : World → Prop) (hH : ∀ W W', H0 W → Kept2 W W' gm gs → H0 W') (s0 : TOpt) (a : Option Addr) (xs : List Nat) (c : Nat) (W : World)
    (hI : PInv w0 gq gm gs sp dp sq ak fl wn ur d H0 [] s0 W) (hq : w0.heap.size ≤ gq) (hm : w0.heap.size ≤ gm) (hgs : w0.heap.size ≤ gs) (hqs : gq ≠ gs)
    (hx : Bts w0 a xs) (hc : xs.length ≤ c) (hl : xs.length ≤ 65535) :
    Calls Try.prog 31 #[.slice a xs.length c, .func (.func 32) #[] #[.pointer (some ⟨gq, 0, none⟩), .pointer (some ⟨gs, 0, none⟩)]] W fun e w' =>
      ∃ ks s, PInv w0 gq gm gs sp dp sq ak fl wn ur d H0 ks s w' ∧ ((tOpts (xs.length + 1) xs [] s0 = some s ∧ e = .returned (.int .i64 0)) ∨ (tOpts (xs.length + 1) xs [] s0 = none ∧ e = .returned (.int .i64 51))) := by
  obtain ⟨R, hR⟩ : ∃ R, tOpts (xs.length + 1) xs [] s0 = R := ⟨_, rfl⟩
  rw [hR]
  have HI := Lib.hid hI
  have HX := Lib.hid hx
  have HR := Lib.hid hR
  have HHH := Lib.hid hH
  have HXL := Lib.hid hl
  clear hI hx hR hH
  go_enter Try.func31, Try.ntmps31
  go_wp2
  go_loopw [0, 5, 6] (fun b _ _ wr => ∃ (ad : Option Addr) (ys : List Nat) (cp : Nat) (ks : List Nat) (s : TOpt) (f : Nat), b = .slice ad ys.length cp ∧ ys.length ≤ cp ∧ Bts w0 ad ys ∧ ys.length ≤ f ∧ ks.length + ys.length ≤ xs.length ∧ tOpts (f + 1) ys ks s = R ∧ PInv w0 gq gm gs sp dp sq ak fl wn ur d H0 ks s wr) (fun b _ _ _ => lenV b)
  case atStart => exact ⟨a, xs, c, [], s0, xs.length, rfl, hc, HX.out, Nat.le_refl _, by simp, HR.out, HI.out⟩
  case round =>
    obtain ⟨ad, ys, cp, ks, s, f, rfl, hcp, hy, hf, hkl, hr, hi⟩ := hrel
    clear HX HI HR hc hl
    by_cases h0 : ys.length = 0
    · have hRs : R = some s := by rw [← hr, tOpts_succ, if_pos h0]
      have HRS := Lib.hid hRs
      have HII := Lib.hid hi
      have l0 : (ys.length : Int) = 0 := by omega
      clear hr hi hy hRs
      go_wp2
      go_ret
      exact ⟨ks, s, HII.out, .inl ⟨HRS.out, rfl⟩⟩
    · have hbd := hi.2.2.1
      have hyr := hy.below hbd
      obtain ⟨b, off, rfl, hb, hcx⟩ := hyr.isSome (by omega)
      obtain ⟨b', off', he, hb0, _⟩ := hy.isSome (by omega)
      obtain ⟨rfl, rfl⟩ : b = b' ∧ off = off' := by injection he with he; injection he with h1 h2; exact ⟨h1, h2⟩
      have c0 := hcx 0 (by omega)
      rw [Nat.add_zero] at c0
      have b0 : ys.getD 0 0 < 256 := Mt.getD_lt ys hy.1 0
      have i0 : (0 : Int) < (ys.length : Int) := by omega
      obtain ⟨x0, hx0⟩ : ∃ x0, ys.getD 0 0 = x0 := ⟨_, rfl⟩
      rw [hx0] at c0 b0
      have HY := Lib.hid hy
      have HII := Lib.hid hi
      have HF := Lib.hid hf
      have HK := Lib.hid hkl
      have HB0 := Lib.hid hb0
      have h0' : ¬ ys.length = 0 := h0
      by_cases e0 : x0 = 0
      · have hRs : R = some s := by rw [← hr, tOpts_succ, if_neg h0', if_pos (hx0.trans e0)]
        have HRS := Lib.hid hRs
        have j0 : ((x0 : Int) != 0) = false := by rw [bne_eq_false_iff_eq]; omega
        clear hr hi hy hRs hcx hyr hbd hf hkl
        go_wp2
        go_ret
        exact ⟨ks, s, HII.out, .inl ⟨HRS.out, rfl⟩⟩
      · have j0 : ((x0 : Int) != 0) = true := by rw [bne_iff_ne]; omega
        by_cases e1 : x0 = 1
        · have hRs : tOpts f (ys.drop 1) ks s = R := by rw [← hr, tOpts_succ, hx0, if_neg h0', if_neg e0, if_pos e1]
          have HRS := Lib.hid hRs
          have j1 : ((x0 : Int) == 1) = true := by rw [beq_iff_eq]; omega
          have i1 : (1 : Int) ≤ (ys.length : Int) := by omega
          have i2 : (1 : Int) ≤ (cp : Int) := by omega
          have hdl : ys.length - 1 = (ys.drop 1).length := by rw [List.length_drop]
          clear hr hi hy hRs hcx hyr hbd hf hkl e0 e1 h0' hx0 he
          by_cases z1 : cp = 1
          · have l1 : ys.length = 1 := by omega
            have HL1 := Lib.hid l1
            subst z1
            rw [l1] at i0 i1 ⊢
            clear l1 hdl hcp i2 h0
            go_wp2
            go_roundw
            case rel =>
              obtain ⟨f', rfl⟩ : ∃ f', f = f' + 1 := ⟨f - 1, by have := HF.out; have := HL1.out; omega⟩
              refine ⟨some ⟨b, off, none⟩, ys.drop 1, 0, ks, s, f', by rw [List.length_drop, HL1.out], by rw [List.length_drop, HL1.out]; exact Nat.le_refl _, HY.out.cut 1 (Nat.le_of_eq HL1.out.symm) _ (fun h => by rw [HL1.out] at h; omega), by rw [List.length_drop, HL1.out]; omega, by rw [List.length_drop]; have := HK.out; omega, HRS.out, HII.out⟩
            case measure => simp [lenV]
          · have HDL := Lib.hid hdl
            have HCP := Lib.hid hcp
            have HLP := Lib.hid (show 1 ≤ ys.length by omega)
            clear hdl hcp h0
            go_wp2
            go_roundw
            case rel =>
              obtain ⟨f', rfl⟩ : ∃ f', f = f' + 1 := ⟨f - 1, by have := HF.out; have := HLP.out; omega⟩
              refine ⟨some ⟨b, off + 1, none⟩, ys.drop 1, cp - 1, ks, s, f', by rw [HDL.out], by rw [List.length_drop]; have := HCP.out; omega, HY.out.cut 1 HLP.out _ (fun _ => rfl), by rw [List.length_drop]; have := HF.out; omega, by rw [List.length_drop]; have := HK.out; omega, HRS.out, HII.out⟩
            case measure => simp [lenV]; have := HLP.out; omega
        · have j1 : ((x0 : Int) == 1) = false := by rw [beq_eq_false_iff_ne]; omega
          by_cases h2 : ys.length < 2
          · have hRs : R = none := by rw [← hr, tOpts_succ, hx0, if_neg h0', if_neg e0, if_neg e1, if_pos h2]
            have HRS := Lib.hid hRs
            have i2 : (ys.length : Int) < 2 := by omega
            clear hr hi hy hRs hcx hyr hbd hf hkl e0 e1 h0' hx0 he h2 h0
            go_wp2
            go_ret
            exact ⟨ks, s, HII.out, .inr ⟨HRS.out, rfl⟩⟩
          · have c1 := hcx 1 (by omega)
            have b1 : ys.getD 1 0 < 256 := Mt.getD_lt ys hy.1 1
            obtain ⟨x1, hx1⟩ : ∃ x1, ys.getD 1 0 = x1 := ⟨_, rfl⟩
            rw [hx1] at c1 b1
            have i2 : ¬ (ys.length : Int) < 2 := by omega
            have i1 : (1 : Int) < (ys.length : Int) := by omega
            have y1 : IntKind.i64.wrap (x1 : Int) = (x1 : Int) := IntWalk.i64_in _ (by omega)
            have hr2 : (if x1 < 2 ∨ ys.length < x1 ∨ tcpFits x0 x1 = false then none else tOpts f (ys.drop x1) (ks ++ [x0]) (if x0 ∈ ks then s else setO s x0 (seg ys 2 (x1 - 2)))) = R := by
              rw [← hr, tOpts_succ, hx0, hx1, if_neg h0', if_neg e0, if_neg e1, if_neg h2]
            have HR2 := Lib.hid hr2
            have HLP := Lib.hid (show 2 ≤ ys.length by omega)
            have HCP := Lib.hid hcp
            clear hr hr2 hi hy hcx hyr hbd hf hkl e0 e1 h0' hx0 hx1 he h2 h0 hcp
            by_cases g2 : x1 < 2
            · have t2 : (x1 : Int) < 2 := by omega
              have HRS := Lib.hid (HR2.out.symm.trans (if_pos (.inl g2)))
              clear g2
              go_wp2_with fail
              go_region_held3 (fun W => W.cell? ⟨b, off, none⟩ = some (.int .u8 x0) ∧ W.cell? ⟨b, off + 1, none⟩ = some (.int .u8 x1)) (first | go_keep) (first | fail)
              go_wp2
              go_ret
              exact ⟨ks, s, HII.out.drew HHH.out, .inr ⟨HRS.out, rfl⟩⟩
            · have t2 : ¬ (x1 : Int) < 2 := by omega
              by_cases g3 : ys.length < x1
              · have t3 : (ys.length : Int) < (x1 : Int) := by omega
                have HRS := Lib.hid (HR2.out.symm.trans (if_pos (.inr (.inl g3))))
                clear g3 g2
                go_wp2_with fail
                go_region_held3 (fun W => W.cell? ⟨b, off, none⟩ = some (.int .u8 x0) ∧ W.cell? ⟨b, off + 1, none⟩ = some (.int .u8 x1)) (first | go_keep) (first | fail)
                go_wp2
                go_ret
                exact ⟨ks, s, HII.out.drew HHH.out, .inr ⟨HRS.out, rfl⟩⟩
              · have t3 : ¬ (ys.length : Int) < (x1 : Int) := by omega
                have hfit := fun W => fits_any x0 x1 b0 b1 (by omega) W
                cases hft : tcpFits x0 x1 with
                | false =>
                  have HRS := Lib.hid (HR2.out.symm.trans (if_pos (.inr (.inr hft))))
                  rw [hft] at hfit
                  have HFT := Lib.hid hfit
                  clear g3 g2 hfit hft
                  go_wp2_with fail
                  go_region_held3 (fun W => W.cell? ⟨b, off, none⟩ = some (.int .u8 x0) ∧ W.cell? ⟨b, off + 1, none⟩ = some (.int .u8 x1)) (first | go_keep) (first | fail)
                  go_wp2_with fail
                  refine (HFT.out _).mono ?_
                  rintro e w' ⟨rfl, rfl⟩
                  go_wp2
                  go_ret
                  exact ⟨ks, s, HII.out.drew HHH.out, .inr ⟨HRS.out, rfl⟩⟩
                | true =>
                  have hn : ¬ (x1 < 2 ∨ ys.length < x1 ∨ tcpFits x0 x1 = false) := by rw [hft]; simp; omega
                  have hRs := HR2.out
                  rw [if_neg hn] at hRs
                  rw [hft] at hfit
                  have hsl : (seg ys 2 (x1 - 2)).length = x1 - 2 := seg_length ys 2 (x1 - 2) (by omega)
                  obtain ⟨x2, hx2⟩ : ∃ x2, x1 - 2 = x2 := ⟨_, rfl⟩
                  have hft2 : tcpFits x0 ((seg ys 2 (x1 - 2)).length + 2) = true := by rw [hsl, show x1 - 2 + 2 = x1 by omega]; exact hft
                  have hbs : ∀ ad, (0 < x1 - 2 → ad = some ⟨b, off + 2, none⟩) → Bts w0 ad (seg ys 2 (x1 - 2)) := fun ad h => by
                    by_cases h0 : 0 < x1 - 2
                    · rw [h h0]; exact HY.out.segOf 2 (x1 - 2) (by omega)
                    · have : seg ys 2 (x1 - 2) = [] := List.eq_nil_of_length_eq_zero (by rw [hsl]; omega)
                      rw [this]; exact Bts.nil _ _
                  have hcl := fun ad c2 (h1 : 0 < x1 - 2 → ad = some ⟨b, off + 2, none⟩) (h2 : x1 - 2 ≤ c2) => parse1_any w0 gq gm gs x0 sp dp sq ak fl wn ur d H0 HHH.out ks s ad (seg ys 2 (x1 - 2)) c2 wr.drew (HII.out.drew HHH.out) (by have := HK.out; have := HXL.out; omega) hq hm hgs hqs (hbs ad h1) (fun h p e => by rw [hsl] at h; rw [h1 h] at e; cases e; exact HB0.out) b0 hft2 (by rw [hsl]; exact h2)
                  rw [hsl, hx2] at hcl
                  rw [hx2] at hRs
                  have HCL := Lib.hid hcl
                  have HRS := Lib.hid hRs
                  have HFT := Lib.hid hfit
                  have HG := Lib.hid (And.intro g2 g3)
                  have HX2 := Lib.hid hx2
                  have k0 : (2 : Int) ≤ (x1 : Int) := by omega
                  have k1 : (x1 : Int) ≤ (cp : Int) := by have := HCP.out; omega
                  have k2 : (x1 : Int) ≤ (ys.length : Int) := by omega
                  have k3 : (2 : Int) ≤ (cp : Int) := by omega
                  clear hn hfit hft hRs hsl hft2 hbs hcl g2 g3
                  by_cases z2 : cp = 2
                  · have hl2 : ys.length = 2 := by have := HCP.out; have := HLP.out; omega
                    obtain rfl : x1 = 2 := by omega
                    obtain rfl : x2 = 0 := by have := HX2.out; omega
                    have HL2 := Lib.hid hl2
                    subst z2
                    rw [hl2] at i0 i1 i2 k2 t3 ⊢
                    clear hl2
                    go_wp2_with fail
                    go_region_held3 (fun W => W.cell? ⟨b, off, none⟩ = some (.int .u8 x0) ∧ W.cell? ⟨b, off + 1, none⟩ = some (.int .u8 2)) (first | go_keep) (first | fail)
                    go_wp2_with fail
                    refine (HFT.out _).mono ?_
                    rintro e w' ⟨rfl, rfl⟩
                    go_wp2_with fail
                    refine (HCL.out _ _ (fun h => absurd h (by omega)) (Nat.zero_le _)).mono ?_
                    rintro e V ⟨rfl, hi2⟩
                    have HI2 := Lib.hid hi2
                    clear hi2
                    go_wp2
                    go_roundw
                    case rel =>
                      obtain ⟨f', rfl⟩ : ∃ f', f = f' + 1 := ⟨f - 1, by have := HF.out; have := HLP.out; omega⟩
                      refine ⟨some ⟨b, off, none⟩, ys.drop 2, 0, ks ++ [x0], _, f', by rw [List.length_drop, HL2.out], by rw [List.length_drop, HL2.out]; exact Nat.le_refl _, HY.out.cut 2 (Nat.le_of_eq HL2.out.symm) _ (fun h => by rw [HL2.out] at h; omega), by rw [List.length_drop, HL2.out]; omega, by rw [List.length_drop, HL2.out, List.length_append]; have := HK.out; rw [HL2.out] at this; simp; omega, HRS.out, HI2.out⟩
                    case measure => simp [lenV]; try omega
                  · by_cases z1 : cp = x1
                    · have hl1 : ys.length = x1 := by have := HCP.out; omega
                      subst z1
                      have HL1 := Lib.hid hl1
                      have HQ2 := Lib.hid (show 2 ≤ cp by omega)
                      rw [hl1] at i0 i1 i2 k2 t3 ⊢
                      clear hl1
                      go_wp2_with fail
                      go_region_held3 (fun W => W.cell? ⟨b, off, none⟩ = some (.int .u8 x0) ∧ W.cell? ⟨b, off + 1, none⟩ = some (.int .u8 cp)) (first | go_keep) (first | fail)
                      go_wp2_with fail
                      refine (HFT.out _).mono ?_
                      rintro e w' ⟨rfl, rfl⟩
                      go_wp2_with fail
                      refine (HCL.out _ _ (fun _ => rfl) (by have := HX2.out; omega)).mono ?_
                      rintro e V ⟨rfl, hi2⟩
                      have HI2 := Lib.hid hi2
                      clear hi2
                      go_wp2
                      go_roundw
                      case rel =>
                        obtain ⟨f', rfl⟩ : ∃ f', f = f' + 1 := ⟨f - 1, by have := HF.out; have := HLP.out; omega⟩
                        refine ⟨some ⟨b, off, none⟩, ys.drop cp, 0, ks ++ [x0], _, f', by rw [List.length_drop, HL1.out, Nat.sub_self], by rw [List.length_drop, HL1.out, Nat.sub_self]; exact Nat.le_refl _, HY.out.cut cp (Nat.le_of_eq HL1.out.symm) _ (fun h => by rw [HL1.out] at h; omega), by rw [List.length_drop, HL1.out]; omega, by rw [List.length_drop, HL1.out, List.length_append]; have := HK.out; rw [HL1.out] at this; have := HQ2.out; simp; omega, HRS.out, HI2.out⟩
                      case measure => simp [lenV]; try omega
                    · have HQ2 := Lib.hid (show 2 ≤ x1 ∧ x1 ≤ ys.length ∧ x1 ≤ cp by omega)
                      go_wp2_with fail
                      go_region_held3 (fun W => W.cell? ⟨b, off, none⟩ = some (.int .u8 x0) ∧ W.cell? ⟨b, off + 1, none⟩ = some (.int .u8 x1)) (first | go_keep) (first | fail)
                      go_wp2_with fail
                      refine (HFT.out _).mono ?_
                      rintro e w' ⟨rfl, rfl⟩
                      go_wp2_with fail
                      refine (HCL.out _ _ (fun _ => rfl) (by have := HX2.out; omega)).mono ?_
                      rintro e V ⟨rfl, hi2⟩
                      have HI2 := Lib.hid hi2
                      clear hi2
                      go_wp2
                      go_roundw
                      case rel =>
                        obtain ⟨f', rfl⟩ : ∃ f', f = f' + 1 := ⟨f - 1, by have := HF.out; have := HLP.out; omega⟩
                        refine ⟨some ⟨b, off + x1, none⟩, ys.drop x1, cp - x1, ks ++ [x0], _, f', by rw [List.length_drop], by rw [List.length_drop]; have := HCP.out; omega, HY.out.cut x1 HQ2.out.2.1 _ (fun _ => rfl), by rw [List.length_drop]; have := HF.out; have := HQ2.out; omega, by rw [List.length_drop, List.length_append]; have := HK.out; have := HQ2.out; simp; omega, HRS.out, HI2.out⟩
                      case measure => simp [lenV]; try omega
end Go.Proofs.Ytgmgoilleakdcaa
