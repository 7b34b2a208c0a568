/- What ipwire.Build gives. -/
import Derived.Test.YtpdlmgafkjmjpaaIpC
import Derived.Test.YtpdlmgafkjmjpaaSum
import Derived.Deep.RegionHeld3
namespace Go.Proofs.Ytpdlmgafkjmjpaa
open Go.RowKit

set_option maxRecDepth 100000 in
set_option maxHeartbeats 8000000 in
theorem ipB_core (tos id : Nat) (df mf : Bool) (off ttl proto src dst : Nat) (oa : Option Addr) (os : List Nat) (oc : Nat) (da : Option Addr) (ds : List Nat) (dc : Nat) (w : World) (H N q n fw C : Nat) (A : Nat → List Nat) (hL : IpLists n tos N id fw ttl proto src dst C os ds N H A) (hH : H = 20 + os.length) (hN : N = H + ds.length) (hNu : N ≤ 65535) (hHu : H ≤ 60) (hq : H / 4 = q) (q16 : q < 16) (hn : n = 64 + q) (hfw : fw < 65536) (hC : C < 65536)
    (hck : ∀ W, Calls Try.prog 56 #[.agg (ipV tos id df mf off ttl proto src dst oa os.length oc da ds.length dc)] W fun e w' => e = .returned (.int .i64 0) ∧ Below W.heap.size W w')
    (hfr : ∀ W, Calls Try.prog 58 #[.agg (ipV tos id df mf off ttl proto src dst oa os.length oc da ds.length dc)] W fun e w' => e = .returned (.int .u64 (fw : Nat)) ∧ Below W.heap.size W w')
    (hsum : ∀ g c W, Bts W (some ⟨g, 0, none⟩) ((A 11).take H) → Calls Try.prog 59 #[.slice (some ⟨g, 0, none⟩) H c] W fun e W' => e = .returned (.int .u16 (C : Nat)) ∧ Below W.heap.size W W')
    (htos : tos < 256) (hid : id < 65536) (httl : ttl < 256) (hproto : proto < 256) (hsrc : src < 4294967296) (hdst : dst < 4294967296) (hx : Bts w oa os) (hy : Bts w da ds) :
    Calls Try.prog 19 #[.agg (ipV tos id df mf off ttl proto src dst oa os.length oc da ds.length dc)] w fun e w' => ∃ g cap', e = .returned (.tuple #[.slice (some ⟨g, 0, none⟩) N cap', .int .i64 0]) ∧ OwnSl (w.heap.size + 1) (some ⟨g, 0, none⟩) (A 12) cap' w' ∧ Below w.heap.size w w' := by
  have HL := Lib.hid hL
  have Hck := Lib.hid hck
  have Hfr := Lib.hid hfr
  have Hsum := Lib.hid hsum
  have X0 := Lib.hid hx
  have Y0 := Lib.hid hy
  have xH : (20 : Int) + (os.length : Int) = ((H : Nat) : Int) := by omega
  have xN : (H : Int) + (ds.length : Int) = ((N : Nat) : Int) := by omega
  have HH := Lib.hid (And.intro xH (And.intro xN (And.intro hH hN)))
  have xq : (H : Int) / 4 = (q : Int) := by omega
  have xq8 : IntKind.u8.wrap (q : Int) = (q : Int) := IntWalk.u8_in _ (by omega)
  have xn : bits .or .u8 (64 : Int) (q : Int) = (n : Int) := by rw [or_hi q q16, hn]
  have xNw : IntKind.u64.wrap (N : Int) = (N : Int) := IntWalk.u64_in _ (by omega)
  have xid : IntKind.u64.wrap (id : Int) = (id : Int) := IntWalk.u64_in _ (by omega)
  have xsrc : IntKind.u64.wrap (src : Int) = (src : Int) := IntWalk.u64_in _ (by omega)
  have xdst : IntKind.u64.wrap (dst : Int) = (dst : Int) := IntWalk.u64_in _ (by omega)
  have xC : IntKind.u64.wrap (C : Int) = (C : Int) := IntWalk.u64_in _ (by omega)
  have b2 : ∀ v : Nat, v < 65536 → v < 18446744073709551616 ∧ v < 256 ^ 2 := fun v h => ⟨by omega, by simpa using h⟩
  have b4 : ∀ v : Nat, v < 4294967296 → v < 18446744073709551616 ∧ v < 256 ^ 4 := fun v h => ⟨by omega, by simpa using h⟩
  have pN := Lib.hid (b2 N (by omega))
  have pid := Lib.hid (b2 id (by omega))
  have pfw := Lib.hid (b2 fw hfw)
  have pC := Lib.hid (b2 C hC)
  have psrc := Lib.hid (b4 src hsrc)
  have pdst := Lib.hid (b4 dst hdst)
  clear b2 b4
  have n256 : n < 256 := by omega
  have hHN : H ≤ N := by omega
  have h20 : 20 ≤ H := by omega
  have hos := Lib.hid (show 20 + os.length ≤ N by omega)
  have hds := Lib.hid (show H + ds.length ≤ N by omega)
  clear hL hck hfr hsum hx hy hH hN hq hn q16 xH xN
  have i2 : (2 : Int) ≤ (N : Int) := by omega
  have i4 : (4 : Int) ≤ (N : Int) := by omega
  have i6 : (6 : Int) ≤ (N : Int) := by omega
  have i8 : (8 : Int) ≤ (N : Int) := by omega
  have i10 : (10 : Int) ≤ (N : Int) := by omega
  have i12 : (12 : Int) ≤ (N : Int) := by omega
  have i16 : (16 : Int) ≤ (N : Int) := by omega
  have i20 : (20 : Int) ≤ (N : Int) := by omega
  have iH : (H : Int) ≤ (N : Int) := by omega
  have m0 : (0 : Int) < (N : Int) := by omega
  have m1 : (1 : Int) < (N : Int) := by omega
  have m8 : (8 : Int) < (N : Int) := by omega
  have m9 : (9 : Int) < (N : Int) := by omega
  have z2 : ¬ N = 2 := by omega
  have z4 : ¬ N = 4 := by omega
  have z6 : ¬ N = 6 := by omega
  have z10 : ¬ N = 10 := by omega
  have z12 : ¬ N = 12 := by omega
  have z16 : ¬ N = 16 := by omega
  have bn := blk_new w (.cells (ipV tos id df mf off ttl proto src dst oa os.length oc da ds.length dc) 27)
  have hsz : (w.alloc (.cells (ipV tos id df mf off ttl proto src dst oa os.length oc da ds.length dc) 27)).heap.size = w.heap.size + 1 := by rw [World.size_alloc]
  have bw := (Below.refl _ w).alloc (Nat.le_refl _) (.cells (ipV tos id df mf off ttl proto src dst oa os.length oc da ds.length dc) 27)
  obtain ⟨i0, hi, hz0, hz1, hz2⟩ := info_parts info5
  have Hz := Lib.hid hz2
  have K0 := Lib.hid bn
  have HS := Lib.hid hsz
  clear bn hsz
  have ne1 : w.heap.size + 1 ≠ w.heap.size := by omega
  have ne2 : w.heap.size ≠ w.heap.size + 1 := by omega
  have HN := Lib.hid ne2
  have xHw := Lib.hid HH.out.1
  have xNx := Lib.hid HH.out.2.1
  go_enter Try.func19, Try.ntmps19
  go_wp2_with fail
  refine (Hck.out _).mono ?_
  rintro e V0 ⟨rfl, b0⟩
  have k := (b0.block w.heap.size (by rw [HS.out]; exact Nat.lt_succ_self _)).trans K0.out
  have r9 := blk_cell k 9
  have r10 := blk_cell k 10
  have K1 := Lib.hid k
  have Q1 := Lib.hid (bw.trans (b0.mono bw.size))
  have S1 : w.heap.size + 1 ≤ V0.heap.size := by have h := b0.size; rw [HS.out] at h; exact h
  clear k b0 bw K0 HS Hck
  have xH := xHw.out
  have xN := xNx.out
  
  have nG : V0.heap.size ≠ w.heap.size := by omega
  have nG2 : w.heap.size ≠ V0.heap.size := by omega
  go_wp2_with (at_make; refine wpList_make_full _ rfl _ _ 22 rfl (w.heap.size + 1) 5 i0 (.int .u8 0) 1 Try.underlying22 hi hz0 hz1 .i64 .i64 _ _ N rfl rfl rfl rfl (by rw [Hz.out]; omega) (by unfold maxLen; omega) S1 ?_; intro V1 hown hgrow; have b := (Below.refl (w.heap.size + 1) _).grown hgrow S1 (fun k e => by cases e); have k := (b.block w.heap.size (Nat.lt_succ_self _)).trans K1.out; have K2 := Lib.hid k; have r0 := blk_cell k 0; have Q2 := Lib.hid (Q1.out.trans (b.mono (Nat.le_succ _))); have O := own_made hown S1; rw [HL.out.e0] at O; have O2 := Lib.hid O; have d0 := O.cellAt 0 (by rw [HL.out.l 0 (by omega)]; omega); have f0 := O.frozenAt 0; have d1 := O.cellAt 1 (by rw [HL.out.l 0 (by omega)]; omega); have f1 := O.frozenAt 1; clear k b O hown hgrow)
  have O := (O2.out.store 0 n n256).store 1 tos htos
  rw [HL.out.e1, HL.out.e2] at O
  have O3 := Lib.hid O
  have k := blk_other (blk_other K2.out nG (.int .u8 n) (i := 0)) nG (.int .u8 tos) (i := 1)
  have K3 := Lib.hid k
  have Q3 := Lib.hid ((Q2.out.setCell (p := ⟨V0.heap.size, 0, none⟩) (by show w.heap.size ≤ V0.heap.size; omega) (.int .u8 n)).setCell (p := ⟨V0.heap.size, 1, none⟩) (by show w.heap.size ≤ V0.heap.size; omega) (.int .u8 tos))
  clear O k O2 K2 Q2 d0 d1 f0 f1 r0 K1 Q1
  generalize (V1.setCell ⟨V0.heap.size, 0, none⟩ (.int .u8 n)).setCell ⟨V0.heap.size, 1, none⟩ (.int .u8 tos) = V3 at O3 K3 Q3 ⊢
  refine (lay_ipwire (w.heap.size + 1) V0.heap.size 2 N N 2 (N - 2) (A 2) V3 O3.out (by omega) (by omega) pN.out.1 pN.out.2 (by rw [HL.out.l 2 (by omega)]; omega)).mono ?_
  rintro e V4 ⟨⟨sv, rfl⟩, O, g⟩
  have b := O3.out.belowOf g
  rw [HL.out.e3] at O
  have O4 := Lib.hid O
  have k := (b.block w.heap.size (Nat.lt_succ_self _)).trans K3.out
  have r1 := blk_cell k 1
  have K4 := Lib.hid k
  have Q4 := Lib.hid (Q3.out.trans (b.mono (Nat.le_succ _)))
  clear O k b g O3 K3 Q3
  go_wp2_with fail
  
  go_region_held3 (fun W => W.cell? ⟨w.heap.size, 1, none⟩ = some (.int .u16 id)) (first | go_keep) (first
    | (go_at_call 57; (with_reducible refine (layd_ipwire (w.heap.size + 1) V0.heap.size 4 N id 2 (N - 4) (A 3) (A 4) V4 O4.out (by omega) (by omega) pid.out.1 pid.out.2 (by rw [HL.out.l 3 (by omega)]; omega) HL.out.e4).mono ?_); rintro e V5 ⟨⟨sv4, rfl⟩, O, b⟩; have O5 := Lib.hid O; have k := (b.block w.heap.size (Nat.lt_succ_self _)).trans K4.out; have K5 := Lib.hid k; have u := blk_cell k 1; have r0 := blk_cell k 0; have r1 := blk_cell k 1; have r2 := blk_cell k 2; have r3 := blk_cell k 3; have r4 := blk_cell k 4; have r5 := blk_cell k 5; have r6 := blk_cell k 6; have r7 := blk_cell k 7; have r8 := blk_cell k 8; have r9 := blk_cell k 9; have r10 := blk_cell k 10; have Q5 := Lib.hid (Q4.out.trans (b.mono (Nat.le_succ _))); clear k b O))
  clear O4 K4 Q4 u
  go_wp2_with fail
  go_region_held3 (fun W => (W.cell? ⟨w.heap.size, 0, none⟩ = some (.int .u8 tos) ∧ W.cell? ⟨w.heap.size, 1, none⟩ = some (.int .u16 id) ∧ W.cell? ⟨w.heap.size, 2, none⟩ = some (.bool df) ∧ W.cell? ⟨w.heap.size, 3, none⟩ = some (.bool mf) ∧ W.cell? ⟨w.heap.size, 4, none⟩ = some (.int .i64 off) ∧ W.cell? ⟨w.heap.size, 5, none⟩ = some (.int .u8 ttl) ∧ W.cell? ⟨w.heap.size, 6, none⟩ = some (.int .u8 proto) ∧ W.cell? ⟨w.heap.size, 7, none⟩ = some (.int .u32 src) ∧ W.cell? ⟨w.heap.size, 8, none⟩ = some (.int .u32 dst) ∧ W.cell? ⟨w.heap.size, 9, none⟩ = some (.slice oa os.length oc) ∧ W.cell? ⟨w.heap.size, 10, none⟩ = some (.slice da ds.length dc))) (first | go_keep) (first
    | (go_at_call 58; (with_reducible refine (Hfr.out V5.drew).mono ?_); rintro e V6 ⟨rfl, b⟩; have O6 := Lib.hid ((O5.out.below (Below.refl _ _).drew).below b); have k := (b.block w.heap.size (show w.heap.size < V5.heap.size from (Array.getElem?_eq_some_iff.1 K5.out).1)).trans (show V5.drew.heap[w.heap.size]? = _ from K5.out); have K6 := Lib.hid k; have u0 := blk_cell k 0; have u1 := blk_cell k 1; have u2 := blk_cell k 2; have u3 := blk_cell k 3; have u4 := blk_cell k 4; have u5 := blk_cell k 5; have u6 := blk_cell k 6; have u7 := blk_cell k 7; have u8 := blk_cell k 8; have u9 := blk_cell k 9; have u10 := blk_cell k 10; have Q6 := Lib.hid (Q5.out.drew.trans (b.mono Q5.out.size)); clear k b)
    | (go_at_call 57; (with_reducible refine (lay_ipwire (w.heap.size + 1) V0.heap.size 6 N fw 2 (N - 6) (A 4) V6 O6.out (by omega) (by omega) pfw.out.1 pfw.out.2 (by rw [HL.out.l 4 (by omega)]; omega)).mono ?_); rintro e V7 ⟨⟨sv6, rfl⟩, O, g⟩; have b := O6.out.belowOf g; rw [HL.out.e5] at O; have O7 := Lib.hid O; have k := (b.block w.heap.size (Nat.lt_succ_self _)).trans K6.out; have K7 := Lib.hid k; have u0 := blk_cell k 0; have u1 := blk_cell k 1; have u2 := blk_cell k 2; have u3 := blk_cell k 3; have u4 := blk_cell k 4; have u5 := blk_cell k 5; have u6 := blk_cell k 6; have u7 := blk_cell k 7; have u8 := blk_cell k 8; have u9 := blk_cell k 9; have u10 := blk_cell k 10; have Q7 := Lib.hid (Q6.out.trans (b.mono (Nat.le_succ _))); clear k b g O))
  
  clear O5 K5 Q5 O6 K6 Q6
  have d8 := O7.out.cellAt 8 (by rw [HL.out.l 5 (by omega)]; omega)
  have f8 := O7.out.frozenAt 8
  have d9 := O7.out.cellAt 9 (by rw [HL.out.l 5 (by omega)]; omega)
  have f9 := O7.out.frozenAt 9
  go_wp2_with fail
  have O := (O7.out.store 8 ttl httl).store 9 proto hproto
  rw [HL.out.e6, HL.out.e7] at O
  have O8 := Lib.hid O
  have k := blk_other (blk_other K7.out nG (.int .u8 ttl) (i := 8)) nG (.int .u8 proto) (i := 9)
  have K8 := Lib.hid k
  have Q8 := Lib.hid ((Q7.out.setCell (p := ⟨V0.heap.size, 8, none⟩) (by show w.heap.size ≤ V0.heap.size; omega) (.int .u8 ttl)).setCell (p := ⟨V0.heap.size, 9, none⟩) (by show w.heap.size ≤ V0.heap.size; omega) (.int .u8 proto))
  clear O k O7 K7 Q7 d8 d9 f8 f9 u0 u1 u2 u3 u4 u5 u6 u7 u8 u9 u10
  generalize (V7.setCell ⟨V0.heap.size, 8, none⟩ (.int .u8 ttl)).setCell ⟨V0.heap.size, 9, none⟩ (.int .u8 proto) = V8 at O8 K8 Q8 ⊢
  have r7 := blk_cell K8.out 7
  
  go_region_held3 (fun W => W.cell? ⟨w.heap.size, 7, none⟩ = some (.int .u32 src)) (first | go_keep) (first
    | (go_at_call 57; (with_reducible refine (layd_ipwire (w.heap.size + 1) V0.heap.size 12 N src 4 (N - 12) (A 7) (A 8) V8 O8.out (by omega) (by omega) psrc.out.1 psrc.out.2 (by rw [HL.out.l 7 (by omega)]; omega) HL.out.e8).mono ?_); rintro e V9 ⟨⟨sv8, rfl⟩, O, b⟩; have O9 := Lib.hid O; have k := (b.block w.heap.size (Nat.lt_succ_self _)).trans K8.out; have K9 := Lib.hid k; have u := blk_cell k 7; have r8 := blk_cell k 8; have r9 := blk_cell k 9; have r10 := blk_cell k 10; have Q9 := Lib.hid (Q8.out.trans (b.mono (Nat.le_succ _))); clear k b O))
  clear O8 K8 Q8 u
  go_wp2_with fail
  go_region_held3 (fun W => W.cell? ⟨w.heap.size, 8, none⟩ = some (.int .u32 dst)) (first | go_keep) (first
    | (go_at_call 57; (with_reducible refine (layd_ipwire (w.heap.size + 1) V0.heap.size 16 N dst 4 (N - 16) (A 8) (A 9) V9 O9.out (by omega) (by omega) pdst.out.1 pdst.out.2 (by rw [HL.out.l 8 (by omega)]; omega) HL.out.e9).mono ?_); rintro e V10 ⟨⟨sv9, rfl⟩, O, b⟩; have O10 := Lib.hid O; have k := (b.block w.heap.size (Nat.lt_succ_self _)).trans K9.out; have K10 := Lib.hid k; have u := blk_cell k 8; have r9 := blk_cell k 9; have r10 := blk_cell k 10; have Q10 := Lib.hid (Q9.out.trans (b.mono (Nat.le_succ _))); clear k b O))
  clear O9 K9 Q9 u

  have X10 := Lib.hid ((X0.out.below Q10.out).below (Below.refl _ _).drew)
  have O10d := Lib.hid (O10.out.below (Below.refl _ _).drew)
  have hle : os.length ≤ N - 20 := by have := hos.out; omega
  have hfit : 20 + os.length ≤ (A 9).length := by rw [HL.out.l 9 (by omega)]; have := hos.out; omega
  have hfit2 : H + ds.length ≤ (A 10).length := by rw [HL.out.l 10 (by omega)]; have := hds.out; omega
  have hle2 : ds.length ≤ N - H := by have := hds.out; omega
  by_cases h20' : N = 20
  case' pos =>
    have ho0 : Hid (os.length = 0) := Lib.hid (by have := hos.out; omega)
    have hd0 : Hid (ds.length = 0) := Lib.hid (by have := hds.out; omega)
    obtain rfl : H = 20 := by omega
    subst h20'
  case' neg =>
    by_cases hH' : N = H
    case' pos =>
      have hd0 : Hid (ds.length = 0) := Lib.hid (by have := hds.out; omega)
      subst hH'
  all_goals
    go_wp2_with fail
    go_region_held3 (fun W => W.cell? ⟨w.heap.size, 9, none⟩ = some (.slice oa os.length oc)) (first | go_keep) (first
      | (refine step_copy_bts rfl _ _ rfl (w.heap.size + 1) V0.heap.size 20 _ _ _ rfl rfl rfl hle O10d.out X10.out (by first | exact (fun h => absurd ho0.out (Nat.ne_of_gt h)) | exact (fun _ => rfl)) hfit ?_; intro V11 O g; have b := O10d.out.belowOf g; rw [HL.out.e10] at O; have O11 := Lib.hid O; have k := (b.block w.heap.size (Nat.lt_succ_self _)).trans K10.out; have K11 := Lib.hid k; have u9 := blk_cell k 9; have r10 := blk_cell k 10; have Q11 := Lib.hid (Q10.out.drew.trans (b.mono (Nat.le_succ _))); clear k b g O))
    have Y11 := Lib.hid ((Y0.out.below Q11.out).below (Below.refl _ _).drew)
    have O11d := Lib.hid (O11.out.below (Below.refl _ _).drew)
    go_wp2_with fail
    go_region_held3 (fun W => W.cell? ⟨w.heap.size, 10, none⟩ = some (.slice da ds.length dc)) (first | go_keep) (first
      | (refine step_copy_bts rfl _ _ rfl (w.heap.size + 1) V0.heap.size _ _ _ _ rfl rfl rfl (by first | exact hle2 | (rw [hd0.out]; exact Nat.zero_le _)) O11d.out Y11.out (by first | exact (fun h => absurd hd0.out (Nat.ne_of_gt h)) | exact (fun _ => rfl)) hfit2 ?_; intro V12 O g; have b := O11d.out.belowOf g; rw [HL.out.e11] at O; have O12 := Lib.hid O; have k := (b.block w.heap.size (Nat.lt_succ_self _)).trans K11.out; have u10 := blk_cell k 10; have Q12 := Lib.hid (Q11.out.drew.trans (b.mono (Nat.le_succ _))); clear k b g O))
    go_wp2_with fail
  
    have HB12 : Hid (∀ m, m ≤ (A 11).length → Bts V12.drew (some ⟨V0.heap.size, 0, none⟩) ((A 11).take m)) := Lib.hid (fun m hm => ((O12.out.bts).segOf 0 m (by omega)).below (Below.refl _ _).drew)
    go_region_held3 (fun _ => True) (first | trivial | go_keep) (first
      | (go_at_call 59; (with_reducible refine (Hsum.out _ _ _ (HB12.out _ (by rw [HL.out.l 11 (by omega)]; omega))).mono ?_); rintro e V13 ⟨rfl, b⟩; have O13 := Lib.hid ((O12.out.below (Below.refl _ _).drew).below b); have Q13 := Lib.hid (Q12.out.drew.trans (b.mono Q12.out.size)); clear b)
      | (go_at_call 57; (with_reducible refine (lay_ipwire (w.heap.size + 1) V0.heap.size 10 _ C 2 _ (A 11) V13 O13.out (by omega) (by omega) pC.out.1 pC.out.2 (by rw [HL.out.l 11 (by omega)]; omega)).mono ?_); rintro e V14 ⟨⟨sv14, rfl⟩, O, g⟩; have b := O13.out.belowOf g; rw [HL.out.e12] at O; have O14 := Lib.hid O; have Q14 := Lib.hid (Q13.out.trans (b.mono (Nat.le_succ _))); clear b g O))
    go_wp2
    go_ret2
    exact ⟨_, _, rfl, O14.out, Q14.out⟩
theorem ipB_ok (tos id : Nat) (df mf : Bool) (off ttl proto src dst : Nat) (oa : Option Addr) (os : List Nat) (oc : Nat) (da : Option Addr) (ds : List Nat) (dc : Nat) (w : World) (hm : IpMay off os.length ds.length) (htos : tos < 256) (hid : id < 65536) (httl : ttl < 256) (hproto : proto < 256) (hsrc : src < 4294967296) (hdst : dst < 4294967296) (hx : Bts w oa os) (hy : Bts w da ds) :
    Calls Try.prog 19 #[.agg (ipV tos id df mf off ttl proto src dst oa os.length oc da ds.length dc)] w fun e w' => ∃ g cap', e = .returned (.tuple #[.slice (some ⟨g, 0, none⟩) (20 + os.length + ds.length) cap', .int .i64 0]) ∧ OwnSl (w.heap.size + 1) (some ⟨g, 0, none⟩) (ipO tos id df mf off ttl proto src dst os ds) cap' w' ∧ Below w.heap.size w w' := by
  have h1 := hm.1
  have h2 := hm.2.1
  have h3 := hm.2.2
  have hfw : ipFw off df mf < 65536 := by
    have h : off / 8 ≤ 8191 := by omega
    unfold ipFw
    generalize off / 8 = x at h ⊢
    cases df <;> cases mf <;> simp <;> omega
  have hC : ipC tos id df mf off ttl proto src dst os ds.length < 65536 := by unfold ipC; exact Nat.lt_of_le_of_lt (Nat.sub_le _ _) (by decide)
  obtain ⟨A, hL⟩ := ip_lists (69 + os.length / 4) tos (20 + os.length + ds.length) id (ipFw off df mf) ttl proto src dst (ipC tos id df mf off ttl proto src dst os ds.length) os ds (20 + os.length + ds.length) (20 + os.length) rfl rfl
  have hfin : A 12 = ipO tos id df mf off ttl proto src dst os ds := hL.fin
  have h := ipB_core tos id df mf off ttl proto src dst oa os oc da ds dc w (20 + os.length) (20 + os.length + ds.length) ((20 + os.length) / 4) (69 + os.length / 4) (ipFw off df mf) (ipC tos id df mf off ttl proto src dst os ds.length) A hL rfl rfl (by omega) (by omega) rfl (by omega) (by omega) hfw hC
    (fun W => check_ok tos id df mf off ttl proto src dst oa os.length oc da ds.length dc W hm) (fun W => frag_any tos id df mf off ttl proto src dst oa os.length oc da ds.length dc W (by omega))
    (fun g c W hb => by
      have hl : ((A 11).take (20 + os.length)).length = 20 + os.length := by rw [hL.mid, List.length_append, ipHd_len]
      have h := check_any (some ⟨g, 0, none⟩) ((A 11).take (20 + os.length)) c W hb (by omega)
      rw [hl, hL.mid] at h
      exact h)
    htos hid httl hproto hsrc hdst hx hy
  rw [hfin] at h
  exact h

/-- What Build tells of what may not be a packet. -/
def IpBad (w : World) (e : Ending) (w' : World) : Prop := ∃ n : Int, n ≠ 0 ∧ e = .returned (.tuple #[.slice none 0 0, .int .i64 n]) ∧ Below w.heap.size w w'

set_option maxRecDepth 100000 in
set_option maxHeartbeats 1000000 in
theorem ipB_bad (tos id : Nat) (df mf : Bool) (off : Int) (ttl proto src dst : Nat) (oa : Option Addr) (on oc : Nat) (da : Option Addr) (dn dc : Nat) (w : World) (hd : dn ≤ 9223372036854775807) (hm : ¬ IpMay off on dn) :
    Calls Try.prog 19 #[.agg (ipV tos id df mf off ttl proto src dst oa on oc da dn dc)] w (IpBad w) := by
  have hck := fun W => check_bad tos id df mf off ttl proto src dst oa on oc da dn dc W hd hm
  have Hck := Lib.hid hck
  have bw := (Below.refl _ w).alloc (Nat.le_refl _) (.cells (ipV tos id df mf off ttl proto src dst oa on oc da dn dc) 27)
  clear hck hm
  go_enter Try.func19, Try.ntmps19
  go_wp2_with fail
  refine (Hck.out _).mono ?_
  rintro e V ⟨n, hn, rfl, b⟩
  have e1 : (n != 0) = true := by rw [bne_iff_ne]; exact hn
  have q := bw.trans (b.mono bw.size)
  have HN := Lib.hid hn
  clear hn Hck b
  go_wp2
  go_ret2
  exact ⟨n, HN.out, rfl, q⟩
end Go.Proofs.Ytpdlmgafkjmjpaa
