/- What ipwire.Parse gives: packets. -/
import Derived.Test.YtokfadlgiimaoaaIpP0
import Derived.Deep.RegionHeld3
namespace Go.Proofs.Ytokfadlgiimaoaa
open Go.RowKit

set_option maxRecDepth 100000 in
set_option maxHeartbeats 8000000 in
theorem ipP_core (b off : Nat) (xs : List Nat) (cap : Nat) (w : World) (x0 h4 hd T x1 x8 x9 id fr v1 v2 rr ofv src dst : Nat) (df mf : Bool) (os ds : List Nat) (hb : b < w.heap.size) (hl20 : 20 ≤ xs.length) (hc : xs.length ≤ cap) (hm : cap ≤ 9223372036854775807) (hlm : xs.length ≤ 281474976710656)
    (c0 : w.cell? ⟨b, off, none⟩ = some (.int .u8 (x0 : Nat))) (hx0 : x0 < 256) (hv : x0 / 16 = 4) (hh4 : x0 % 16 = h4) (hhd : 4 * h4 = hd) (hT : T < 65536)
    (c1 : w.cell? ⟨b, off + 1, none⟩ = some (.int .u8 (x1 : Nat))) (c8 : w.cell? ⟨b, off + 8, none⟩ = some (.int .u8 (x8 : Nat))) (c9 : w.cell? ⟨b, off + 9, none⟩ = some (.int .u8 (x9 : Nat)))
    (nT : ∀ c W, Below w.heap.size w W → Calls Try.prog 53 #[.slice (some ⟨b, off + 2, none⟩) 2 c] W fun e w' => e = .returned (.int .u64 (T : Nat)) ∧ W = w')
    (nF : ∀ c W, Below w.heap.size w W → Calls Try.prog 53 #[.slice (some ⟨b, off + 6, none⟩) 2 c] W fun e w' => e = .returned (.int .u64 (fr : Nat)) ∧ W = w')
    (nI : ∀ c W, Below w.heap.size w W → Calls Try.prog 53 #[.slice (some ⟨b, off + 4, none⟩) 2 c] W fun e w' => e = .returned (.int .u64 (id : Nat)) ∧ W = w')
    (nS : ∀ c W, Below w.heap.size w W → Calls Try.prog 53 #[.slice (some ⟨b, off + 12, none⟩) 4 c] W fun e w' => e = .returned (.int .u64 (src : Nat)) ∧ W = w')
    (nD : ∀ c W, Below w.heap.size w W → Calls Try.prog 53 #[.slice (some ⟨b, off + 16, none⟩) 4 c] W fun e w' => e = .returned (.int .u64 (dst : Nat)) ∧ W = w')
    (hfr : fr < 65536) (hid : id < 65536) (hsrc : src < 4294967296) (hdst : dst < 4294967296) (hv1 : fr &&& 16384 = v1) (hv2 : fr &&& 8192 = v2) (hdf : ((v1 : Int) != 0) = df) (hmf : ((v2 : Int) != 0) = mf) (hrr : fr % 8192 = rr) (hofv : 8 * rr = ofv)
    (hok : 20 ≤ hd ∧ hd ≤ xs.length ∧ hd ≤ T ∧ T ≤ xs.length) (hright : ∀ c W, Below w.heap.size w W → Calls Try.prog 54 #[.slice (some ⟨b, off, none⟩) hd c] W fun e w' => e = .returned (.bool true) ∧ Below W.heap.size W w')
    (hos : Bts w (some ⟨b, off + 20, none⟩) os) (hosl : os.length = hd - 20) (hds : Bts w (some ⟨b, off + hd, none⟩) ds) (hdsl : ds.length = T - hd) :
    Calls Try.prog 39 #[.slice (some ⟨b, off, none⟩) xs.length cap] w fun e w' => ∃ oa oc da dc, e = .returned (.tuple #[.agg #[.int .u8 x1, .int .u16 id, .bool df, .bool mf, .int .i64 ofv, .int .u8 x8, .int .u8 x9, .int .u32 src, .int .u32 dst, .slice oa os.length oc, .slice da ds.length dc], .int .i64 0]) ∧ OwnSl (w.heap.size + 1) oa os oc w' ∧ OwnSl (w.heap.size + 1) da ds dc w' ∧ Below w.heap.size w w' := by
  have xv : ((x0 : Int) / 16 != 4) = false := by rw [bne_eq_false_iff_eq]; omega
  have xa : bits .and .u8 (x0 : Int) (15 : Int) = (h4 : Int) := by
    have h := u8_and_nat x0 15 hx0 (by omega)
    rw [nat_mask4, hh4] at h
    exact h
  have xw : IntKind.i64.wrap (h4 : Int) = (h4 : Int) := IntWalk.i64_in _ (by omega)
  have xh : (4 : Int) * (h4 : Int) = (hd : Int) := by omega
  have xT : IntKind.i64.wrap (T : Int) = (T : Int) := IntWalk.i64_in _ (by omega)
  have m0 : (0 : Int) < (xs.length : Int) := by omega
  have i20 : (20 : Int) ≤ (xs.length : Int) := by omega
  have k4 : (4 : Int) ≤ (cap : Int) := by omega
  have k2 : (2 : Int) ≤ (cap : Int) := by omega
  have z2 : ¬ cap = 2 := by omega
  have nb : b ≠ w.heap.size := by omega
  have NT := Lib.hid nT
  have bn := blk_new w (.cells #[.int .u8 0, .int .u16 0, .bool false, .bool false, .int .i64 0, .int .u8 0, .int .u8 0, .int .u32 0, .int .u32 0, .slice none 0 0, .slice none 0 0] 72)
  have bw := (Below.refl _ w).alloc (Nat.le_refl _) (.cells #[.int .u8 0, .int .u16 0, .bool false, .bool false, .int .i64 0, .int .u8 0, .int .u8 0, .int .u32 0, .int .u32 0, .slice none 0 0, .slice none 0 0] 72)
  obtain ⟨q1, q2, q3, q4⟩ := hok
  have q1' : (20 : Int) ≤ (hd : Int) := by omega
  have q2' : (hd : Int) ≤ (xs.length : Int) := by omega
  have q3' : (hd : Int) ≤ (T : Int) := by omega
  have q4' : (T : Int) ≤ (xs.length : Int) := by omega
  have q5' : (hd : Int) ≤ (cap : Int) := by omega
  have q6' : (T : Int) ≤ (cap : Int) := by omega
  have yfr : IntKind.i64.wrap (fr : Int) = (fr : Int) := IntWalk.i64_in _ (by omega)
  have yid : IntKind.u16.wrap (id : Int) = (id : Int) := IntWalk.u16_in _ (by omega)
  have ysrc : IntKind.u32.wrap (src : Int) = (src : Int) := IntWalk.u32_in _ (by omega)
  have ydst : IntKind.u32.wrap (dst : Int) = (dst : Int) := IntWalk.u32_in _ (by omega)
  have yv1 : bits .and .i64 (fr : Int) (16384 : Int) = (v1 : Int) := by have h := i64_and_nat fr 16384 hfr (by omega); rw [hv1] at h; exact h
  have yv2 : bits .and .i64 (fr : Int) (8192 : Int) = (v2 : Int) := by have h := i64_and_nat fr 8192 hfr (by omega); rw [hv2] at h; exact h
  have yrr : (fr : Int).tmod 8192 = (rr : Int) := by
    have h : (fr : Int).tmod 8192 = ((fr % 8192 : Nat) : Int) := rfl
    rw [h, hrr]
  have yrr2 : (fr : Int) % 8192 = (rr : Int) := by omega
  have yof : (8 : Int) * (rr : Int) = (ofv : Int) := by omega
  have yofw : IntKind.i64.wrap (ofv : Int) = (ofv : Int) := IntWalk.i64_in _ (by omega)
  have i6 : (6 : Int) ≤ (cap : Int) := by omega
  have i8 : (8 : Int) ≤ (cap : Int) := by omega
  have i12 : (12 : Int) ≤ (cap : Int) := by omega
  have i16 : (16 : Int) ≤ (cap : Int) := by omega
  have k20 : (20 : Int) ≤ (cap : Int) := by omega
  have m1 : (1 : Int) < (xs.length : Int) := by omega
  have m8 : (8 : Int) < (xs.length : Int) := by omega
  have m9 : (9 : Int) < (xs.length : Int) := by omega
  have z4 : ¬ cap = 4 := by omega
  have z6 : ¬ cap = 6 := by omega
  have z12 : ¬ cap = 12 := by omega
  have z16 : ¬ cap = 16 := by omega
  have HR := Lib.hid hright
  have BN := Lib.hid bn
  have NF := Lib.hid nF
  have NI := Lib.hid nI
  have NS := Lib.hid nS
  have ND := Lib.hid nD
  have fo : ∀ W ad n c, Below w.heap.size w W → n = os.length → (os = [] ∨ ad = ⟨b, off + 20, none⟩) → Calls Try.prog 55 #[.slice (some ad) n c] W fun e w' => ∃ a' cap', e = .returned (.slice a' os.length cap') ∧ OwnSl W.heap.size a' os cap' w' ∧ Below W.heap.size W w' := fun W ad n c h hn had => by
    subst hn
    refine fresh_one (some ad) os c W ?_ (by omega) (fun h => by cases h)
    rcases had with h0 | rfl
    · rw [h0]; exact Bts.nil _ _
    · exact hos.below h
  have fd : ∀ W ad n c, Below w.heap.size w W → n = ds.length → (ds = [] ∨ ad = ⟨b, off + hd, none⟩) → Calls Try.prog 55 #[.slice (some ad) n c] W fun e w' => ∃ a' cap', e = .returned (.slice a' ds.length cap') ∧ OwnSl W.heap.size a' ds cap' w' ∧ Below W.heap.size W w' := fun W ad n c h hn had => by
    subst hn
    refine fresh_one (some ad) ds c W ?_ (by omega) (fun h => by cases h)
    rcases had with h0 | rfl
    · rw [h0]; exact Bts.nil _ _
    · exact hds.below h
  have hbsz : b < (w.alloc (.cells #[.int .u8 0, .int .u16 0, .bool false, .bool false, .int .i64 0, .int .u8 0, .int .u8 0, .int .u32 0, .int .u32 0, .slice none 0 0, .slice none 0 0] 72)).heap.size := by rw [World.size_alloc]; omega
  have C0 := Lib.hid (And.intro c1 (And.intro c8 c9))
  have hln := Lib.hid (And.intro hosl hdsl)
  by_cases h20 : cap = 20
  case' pos =>
    have ho0 : os = [] := List.eq_nil_of_length_eq_zero (by omega)
    have hd0 : ds = [] := List.eq_nil_of_length_eq_zero (by omega)
    have FO := Lib.hid (fun W ad h => fo W ad 0 0 h (by rw [ho0]; rfl) (.inl ho0))
    have FD := Lib.hid (fun W ad h => fd W ad 0 0 h (by rw [hd0]; rfl) (.inl hd0))
    obtain rfl : hd = 20 := by omega
    obtain rfl : T = 20 := by omega
    subst h20
    clear ho0 hd0
  case' neg =>
    by_cases hhc : cap = hd
    case' pos =>
      have hd0 : ds = [] := List.eq_nil_of_length_eq_zero (by omega)
      have FO := Lib.hid (fun W h => fo W _ (hd - 20) (hd - 20) h hosl.symm (.inr rfl))
      have FD := Lib.hid (fun W ad h => fd W ad 0 0 h (by rw [hd0]; rfl) (.inl hd0))
      obtain rfl : T = hd := by omega
      subst hhc
      clear hd0
    case' neg =>
      have FO := Lib.hid (fun W h => fo W _ (hd - 20) (cap - 20) h hosl.symm (.inr rfl))
      have FD := Lib.hid (fun W h => fd W _ (T - hd) (cap - hd) h hdsl.symm (.inr rfl))
  all_goals
    clear nT nF nI nS nD hv hh4 hhd hx0 hright q1 q2 q3 q4 hv1 hv2 hrr hofv hos hds hosl hdsl fo fd c1 c8 c9
    go_enter Try.func39, Try.ntmps39
    go_wp2_with fail
    refine (NT.out _ _ bw).mono ?_
    rintro e w' ⟨rfl, rfl⟩
    go_wp2_with fail
    refine (HR.out _ _ bw).mono ?_
    rintro e V ⟨rfl, b1⟩
    have R1 := Lib.hid ((b1.block w.heap.size (by rw [World.size_alloc]; omega)).trans BN.out)
    have q := bw.trans (b1.mono bw.size)
    have hV : w.heap.size < V.heap.size := (Array.getElem?_eq_some_iff.1 R1.out).1
    clear b1 bn BN bw hbsz
    go_wp2_with fail
    refine (NF.out _ _ q).mono ?_
    rintro e w' ⟨rfl, rfl⟩
    have g1 := (q.cell (p := ⟨b, off + 1, none⟩) hb).trans C0.out.1
    have g8 := (q.cell (p := ⟨b, off + 8, none⟩) hb).trans C0.out.2.1
    have g9 := (q.cell (p := ⟨b, off + 9, none⟩) hb).trans C0.out.2.2
    go_wp2_with fail
    go_region_held3 (fun W => (W.cell? ⟨b, off + 1, none⟩ = some (.int .u8 x1) ∧ W.cell? ⟨b, off + 8, none⟩ = some (.int .u8 x8) ∧ W.cell? ⟨b, off + 9, none⟩ = some (.int .u8 x9))) (first | go_keep | (simp only [set_ne nb]; exact ⟨u1, u8, u9⟩)) (first
      | (go_at_call 53; (with_reducible refine (NI.out _ _ q.drew).mono ?_); rintro e w' ⟨rfl, rfl⟩)
      | (go_at_call 53; (with_reducible refine (NS.out _ _ q.drew).mono ?_); rintro e w' ⟨rfl, rfl⟩)
      | (go_at_call 53; (with_reducible refine (ND.out _ _ q.drew).mono ?_); rintro e w' ⟨rfl, rfl⟩)
      | (go_at_call 55; have q2 := QF.out; (first | (with_reducible refine (FD.out _ q2).mono ?_) | (with_reducible refine (FD.out _ _ q2).mono ?_)); rintro e V2 ⟨da, dc, rfl, O, bb⟩; have l1 := (q2.trans (bb.mono q2.size)); have u1 := (l1.cell (p := ⟨b, off + 1, none⟩) hb).trans C0.out.1; have u8 := (l1.cell (p := ⟨b, off + 8, none⟩) hb).trans C0.out.2.1; have u9 := (l1.cell (p := ⟨b, off + 9, none⟩) hb).trans C0.out.2.2; have QG := Lib.hid l1; have k := (bb.block w.heap.size zF).trans KF.out; have KG := Lib.hid k; have r0 := blk_cell k 0; have t0 := blk_free k 0; have r1 := blk_cell k 1; have t1 := blk_free k 1; have r2 := blk_cell k 2; have t2 := blk_free k 2; have r3 := blk_cell k 3; have t3 := blk_free k 3; have r4 := blk_cell k 4; have t4 := blk_free k 4; have r5 := blk_cell k 5; have t5 := blk_free k 5; have r6 := blk_cell k 6; have t6 := blk_free k 6; have r7 := blk_cell k 7; have t7 := blk_free k 7; have r8 := blk_cell k 8; have t8 := blk_free k 8; have r9 := blk_cell k 9; have t9 := blk_free k 9; have r10 := blk_cell k 10; have t10 := blk_free k 10; have OG := Lib.hid (O.mono zF); have OF := Lib.hid ((OF.out.below bb)); clear O bb k q2 l1)
      | (go_at_call 55; (first | (with_reducible refine (FO.out _ q.drew).mono ?_) | (with_reducible refine (FO.out _ _ q.drew).mono ?_)); rintro e V1 ⟨oa, oc, rfl, O, bb⟩; have l1 := (q.drew.trans (bb.mono q.drew.size)); have u1 := (l1.cell (p := ⟨b, off + 1, none⟩) hb).trans C0.out.1; have u8 := (l1.cell (p := ⟨b, off + 8, none⟩) hb).trans C0.out.2.1; have u9 := (l1.cell (p := ⟨b, off + 9, none⟩) hb).trans C0.out.2.2; have QF := Lib.hid l1; have k := (bb.block w.heap.size hV).trans (show V.drew.heap[w.heap.size]? = _ from R1.out); have KF := Lib.hid k; have zF : w.heap.size < V1.heap.size := (Array.getElem?_eq_some_iff.1 k).1; have OF := Lib.hid (O.mono (show w.heap.size + 1 ≤ V.drew.heap.size from hV)); clear O bb k l1))
    go_wp2
    have F := blk_set (blk_set (blk_set (blk_set (blk_set (blk_set (blk_set (blk_set (blk_set (blk_set (blk_set KG.out 0 (.int .u8 x1)) 1 (.int .u16 id)) 2 (.bool df)) 3 (.bool mf)) 4 (.int .i64 ofv)) 5 (.int .u8 x8)) 6 (.int .u8 x9)) 7 (.int .u32 src)) 8 (.int .u32 dst)) 9 (.slice oa os.length oc)) 10 (.slice da ds.length dc)
    have Q := ((((((((((QG.out.setCell (p := ⟨w.heap.size, 0, none⟩) (Nat.le_refl _) (.int .u8 x1)).setCell (p := ⟨w.heap.size, 1, none⟩) (Nat.le_refl _) (.int .u16 id)).setCell (p := ⟨w.heap.size, 2, none⟩) (Nat.le_refl _) (.bool df)).setCell (p := ⟨w.heap.size, 3, none⟩) (Nat.le_refl _) (.bool mf)).setCell (p := ⟨w.heap.size, 4, none⟩) (Nat.le_refl _) (.int .i64 ofv)).setCell (p := ⟨w.heap.size, 5, none⟩) (Nat.le_refl _) (.int .u8 x8)).setCell (p := ⟨w.heap.size, 6, none⟩) (Nat.le_refl _) (.int .u8 x9)).setCell (p := ⟨w.heap.size, 7, none⟩) (Nat.le_refl _) (.int .u32 src)).setCell (p := ⟨w.heap.size, 8, none⟩) (Nat.le_refl _) (.int .u32 dst)).setCell (p := ⟨w.heap.size, 9, none⟩) (Nat.le_refl _) (.slice oa os.length oc)).setCell (p := ⟨w.heap.size, 10, none⟩) (Nat.le_refl _) (.slice da ds.length dc)
    have PO := ((((((((((OF.out.setOther (i := 0) (v := .int .u8 x1) (Nat.lt_succ_self _)).setOther (i := 1) (v := .int .u16 id) (Nat.lt_succ_self _)).setOther (i := 2) (v := .bool df) (Nat.lt_succ_self _)).setOther (i := 3) (v := .bool mf) (Nat.lt_succ_self _)).setOther (i := 4) (v := .int .i64 ofv) (Nat.lt_succ_self _)).setOther (i := 5) (v := .int .u8 x8) (Nat.lt_succ_self _)).setOther (i := 6) (v := .int .u8 x9) (Nat.lt_succ_self _)).setOther (i := 7) (v := .int .u32 src) (Nat.lt_succ_self _)).setOther (i := 8) (v := .int .u32 dst) (Nat.lt_succ_self _)).setOther (i := 9) (v := .slice oa os.length oc) (Nat.lt_succ_self _)).setOther (i := 10) (v := .slice da ds.length dc) (Nat.lt_succ_self _)
    have PD := ((((((((((OG.out.setOther (i := 0) (v := .int .u8 x1) (Nat.lt_succ_self _)).setOther (i := 1) (v := .int .u16 id) (Nat.lt_succ_self _)).setOther (i := 2) (v := .bool df) (Nat.lt_succ_self _)).setOther (i := 3) (v := .bool mf) (Nat.lt_succ_self _)).setOther (i := 4) (v := .int .i64 ofv) (Nat.lt_succ_self _)).setOther (i := 5) (v := .int .u8 x8) (Nat.lt_succ_self _)).setOther (i := 6) (v := .int .u8 x9) (Nat.lt_succ_self _)).setOther (i := 7) (v := .int .u32 src) (Nat.lt_succ_self _)).setOther (i := 8) (v := .int .u32 dst) (Nat.lt_succ_self _)).setOther (i := 9) (v := .slice oa os.length oc) (Nat.lt_succ_self _)).setOther (i := 10) (v := .slice da ds.length dc) (Nat.lt_succ_self _)
    have HPO := Lib.hid PO
    have HPD := Lib.hid PD
    have HQ := Lib.hid Q
    have f0 := blk_cell F 0
    have f1 := blk_cell F 1
    have f2 := blk_cell F 2
    have f3 := blk_cell F 3
    have f4 := blk_cell F 4
    have f5 := blk_cell F 5
    have f6 := blk_cell F 6
    have f7 := blk_cell F 7
    have f8 := blk_cell F 8
    have f9 := blk_cell F 9
    have f10 := blk_cell F 10
    clear PO PD Q OF OG QG KG KF QF
    exact bodyPost_ret (v := .tuple #[.agg #[.int .u8 x1, .int .u16 id, .bool df, .bool mf, .int .i64 ofv, .int .u8 x8, .int .u8 x9, .int .u32 src, .int .u32 dst, .slice oa os.length oc, .slice da ds.length dc], .int .i64 0]) (by simp [results, Try.results39, go_sem, f0, f1, f2, f3, f4, f5, f6, f7, f8, f9, f10]) rfl ⟨oa, oc, da, dc, rfl, HPO.out, HPD.out, HQ.out⟩
end Go.Proofs.Ytokfadlgiimaoaa
