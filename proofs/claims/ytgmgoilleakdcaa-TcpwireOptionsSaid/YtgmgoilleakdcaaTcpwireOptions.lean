/- For every kind, body, two numbers and tail: options of other kinds are passed; of several of one kind the first counts; what stands behind the end of the options is not looked at. No condition. -/
import Derived.Test.YtgmgoilleakdcaaRows
import Derived.Test.YtgmgoilleakdcaaTcpOq
import Derived.Test.YtgmgoilleakdcaaAlive5
import Derived.Test.YtgmgoilleakdcaaSumRf
import Derived.Test.YtgmgoilleakdcaaGAppend
import Derived.Test.YtgmgoilleakdcaaGFrame
import Derived.Test.YtgmgoilleakdcaaGAgg
import Derived.Deep.DeepCutAuto
import Derived.RegionTactic
import Derived.Deep.RegionHeld3
import Derived.ProofKit
import Derived.OpenShut
import Derived.ChangeOld
import Derived.SizedLaws
namespace Go.Proofs.Ytgmgoilleakdcaa.tcpwireOptions
open Go.ChangeShapes Go.WideShapes Go.ChangeAt Go.RowKit Go.Deep Go.Proofs.Ytgmgoilleakdcaa.law5

set_option maxRecDepth 100000 in
set_option maxHeartbeats 4000000 in
theorem walk (kd : Nat) (ba : Option Addr) (bd : List Nat) (bc : Nat) (a b : Nat) (ta : Option Addr) (tl : List Nat) (tc : Nat) (w : World) (hk : kd < 256) (hb : Bts w ba bd) (hbn : ba = none → bc = 0) (hbc : bd.length ≤ bc ∧ bc ≤ maxLen) (hbl : bd.length ≤ 140737488351232) (ha : a < 65536) (hb2 : b < 65536) (ht : Bts w ta tl) (htn : ta = none → tc = 0) (htc : tl.length ≤ tc ∧ tc ≤ maxLen) (htl : tl.length ≤ 140737488351232) :
    Calls Try.prog 5 #[.int .u8 (kd : Nat), .slice ba bd.length bc, .int .u16 (a : Nat), .int .u16 (b : Nat), .slice ta tl.length tc] w fun e w' => e = .returned (.bool true) ∧ Below w.heap.size w w' := by
  have HB := Lib.hid hb
  have HBN := Lib.hid hbn
  have HBC := Lib.hid hbc
  have HT := Lib.hid ht
  have HTN := Lib.hid htn
  have HTC := Lib.hid htc
  have hml : maxLen = 9223372036854775807 := by rfl
  have h1c := hbc.1
  have h2c := htc.1
  have h1d := hbc.2
  have h2d := htc.2
  clear hb hbn hbc ht htn htc
  go_enter Try.func5, Try.ntmps5
  go_upto_region 3 with (first
    | (go_at_call 19; refine (alive_any _).mono ?_; rintro e V1 ⟨rfl, b1⟩; have Q1 := Lib.hid b1; clear b1)
    | fail)
  go_cut [23] (fun (v : Value) (wx : World) => v = .bool (decide (kd ≤ 5 ∨ kd = 8)) ∧ V1 = wx)
  case first =>
    by_cases k5 : kd ≤ 5
    case pos =>
      have j5 : (kd : Int) ≤ 5 := by omega
      have j6 : decide (kd ≤ 5 ∨ kd = 8) = true := decide_eq_true (.inl k5)
      go_wp2_with fail
      go_meet
      exact ⟨by rw [j6], rfl⟩
    case neg =>
      have j5 : ¬ ((kd : Int) ≤ 5) := by omega
      by_cases k8 : kd = 8
      case pos =>
        have j8 : ((kd : Int) == 8) = true := by rw [beq_iff_eq]; omega
        have j6 : decide (kd ≤ 5 ∨ kd = 8) = true := decide_eq_true (.inr k8)
        clear k8
        go_wp2_with fail
        go_meet
        exact ⟨by rw [j6], rfl⟩
      case neg =>
        have j8 : ((kd : Int) == 8) = false := by rw [beq_eq_false_iff_ne]; omega
        have j6 : decide (kd ≤ 5 ∨ kd = 8) = false := decide_eq_false (by omega)
        go_wp2_with fail
        go_meet
        exact ⟨by rw [j6], rfl⟩
  case rest =>
  obtain ⟨rfl, rfl⟩ := hcut
  rename_i hsw
  refine hsw _ _ ?_
  obtain ⟨ke, hke⟩ : ∃ z, (if kd ≤ 5 ∨ kd = 8 then 200 else kd) = z := ⟨_, rfl⟩
  have hke2 : ke = 6 ∨ ke = 7 ∨ 9 ≤ ke := by rw [← hke]; split <;> omega
  have hke3 : ke < 256 := by rw [← hke]; split <;> omega
  go_cut [0] (fun (v : Value) (wx : World) => v = .int .u8 (ke : Nat) ∧ V1 = wx)
  case first =>
    by_cases k5 : kd ≤ 5 ∨ kd = 8
    case pos =>
      rw [if_pos k5] at hke
      have j6 : decide (kd ≤ 5 ∨ kd = 8) = true := decide_eq_true k5
      rw [j6]
      subst hke
      clear j6 k5
      go_wp2_with fail
      go_meet
      exact ⟨rfl, rfl⟩
    case neg =>
      rw [if_neg k5] at hke
      have j6 : decide (kd ≤ 5 ∨ kd = 8) = false := decide_eq_false k5
      rw [j6]
      subst hke
      clear j6 k5
      go_wp2_with fail
      go_meet
      exact ⟨rfl, rfl⟩
  case rest =>
  obtain ⟨rfl, rfl⟩ := hcut
  clear hke hk
  obtain ⟨m, hm⟩ : ∃ m, min bd.length 8 = m := ⟨_, rfl⟩
  have hmin : min (bd.length : Int) 8 = (m : Int) := by omega
  have hmin2 : (if (8 : Int) < (bd.length : Int) then (8 : Int) else (bd.length : Int)) = (m : Int) := by split <;> omega
  have m1 : ¬ ((bc : Int) < (m : Int)) := by omega
  have m2 : (m : Int) ≤ (bc : Int) := by omega
  have m3 : m ≤ 8 := by omega
  have W2 : IntKind.i64.wrap (2 + (m : Int)) = ((2 + m : Nat) : Int) := by rw [IntWalk.i64_in _ ⟨by omega, by omega⟩]; omega
  obtain ⟨m9, hm9⟩ : ∃ z, 2 + m = z := ⟨_, rfl⟩
  rw [hm9] at W2
  have hm9b : m9 ≤ 10 := by omega
  have W3 : IntKind.u8.wrap (m9 : Int) = (m9 : Int) := IntWalk.u8_in _ (by omega)
  obtain ⟨bm, hbm⟩ : ∃ z, bd.take m = z := ⟨_, rfl⟩
  have hbml : bm.length = m := by rw [← hbm, List.length_take]; omega
  have BM : Hid (Bts w ba bm) := Lib.hid (by rw [← hbm]; exact bts_take HB.out m)
  have HML := Lib.hid hbml
  have HM9 := Lib.hid hm9
  clear hm hbm hm9 hbml
  have BB1 := Lib.hid (BM.out.below Q1.out)
  have hs1 := Q1.out.size
  have NS1 := Lib.hid (own_new V1 [ke, m9] (by intro x hx; simp at hx; rcases hx with rfl | rfl <;> omega) (by simp [hml]))
  have O2 := Lib.hid (NS1.out.mono (Nat.le_trans (Nat.le_refl _) hs1))
  have BB2 := Lib.hid (BB1.out.below ((Below.refl V1.heap.size V1).alloc (Nat.le_refl _) (.cells #[.int .u8 (ke : Nat), .int .u8 (m9 : Nat)] 5)))
  have Q2 := Lib.hid (Q1.out.trans (((Below.refl V1.heap.size V1).alloc (Nat.le_refl _) (.cells #[.int .u8 (ke : Nat), .int .u8 (m9 : Nat)] 5)).mono hs1))
  obtain ⟨o1, ho1⟩ : ∃ z, [ke, m9] ++ bm = z := ⟨_, rfl⟩
  have HO1 := Lib.hid ho1
  have hl1 : Hid (([ke, m9] : List Nat).length + bm.length ≤ 140737488355328) := Lib.hid (by rw [HML.out]; show 2 + m ≤ _; omega)
  obtain ⟨bl, hbl2⟩ : ∃ z, bm.length = z := ⟨_, rfl⟩
  clear ho1 hbl2
  go_upto_region 7 with (first
    | (at_builtin; refine wpList_append_bts (w := V1.alloc (.cells #[.int .u8 (ke : Nat), .int .u8 (m9 : Nat)] 5)) ?_ (.tmp 34) (.tmp 35) ?_ w.heap.size (xs := [ke, m9]) (ys := bm) (cap := 2) (dap := bc) (a := some ⟨V1.heap.size, 0, none⟩) (b := ba) O2.out BB2.out HBN.out ?_ ?_ hl1.out (by have := Q2.out.size; omega) ?_; rfl; rfl; rfl; (rw [HML.out]; rfl); intro oa oc V2 o b9; rw [HO1.out] at o ⊢; have O3 := Lib.hid o; have Q3 := Lib.hid (Q2.out.trans b9); clear o b9)
    | fail)
  obtain ⟨L9, hL9⟩ : ∃ z : List Nat, z = [2, 4, a / 256, a % 256, 2, 4, b / 256, b % 256, 0] := ⟨_, rfl⟩
  have hL9l : L9.length = 9 := by rw [hL9]; rfl
  have hL9b : ∀ x ∈ L9, x < 256 := by rw [hL9]; intro x hx; simp at hx; rcases hx with rfl | rfl | rfl | rfl | rfl | rfl | rfl | rfl | rfl <;> omega
  have bA2 := (Below.refl V2.heap.size V2).alloc (Nat.le_refl _) (.cells #[.int .u8 2, .int .u8 4, .int .u8 ((a : Int) / 256), .int .u8 ((a : Int) % 256), .int .u8 2, .int .u8 4, .int .u8 ((b : Int) / 256), .int .u8 ((b : Int) % 256), .int .u8 0] 5)
  have NS2 : Hid (Bts (V2.alloc (.cells #[.int .u8 2, .int .u8 4, .int .u8 ((a : Int) / 256), .int .u8 ((a : Int) % 256), .int .u8 2, .int .u8 4, .int .u8 ((b : Int) / 256), .int .u8 ((b : Int) % 256), .int .u8 0] 5)) (some ⟨V2.heap.size, 0, none⟩) L9) := Lib.hid (by subst hL9; exact (own_new V2 [2, 4, a / 256, a % 256, 2, 4, b / 256, b % 256, 0] hL9b (by simp [hml])).bts)
  have O4 := Lib.hid (O3.out.below bA2)
  have Q4 := Lib.hid (Q3.out.trans (bA2.mono Q3.out.size))
  obtain ⟨o2, ho2⟩ : ∃ z, o1 ++ L9 = z := ⟨_, rfl⟩
  have HO2 := Lib.hid ho2
  have HL9 := Lib.hid hL9
  have HL9L := Lib.hid hL9l
  have hol1 : o1.length = 2 + m := by rw [← HO1.out, List.length_append, HML.out]; rfl
  have HOL1 := Lib.hid hol1
  have hl2 : Hid (o1.length + L9.length ≤ 140737488355328) := Lib.hid (by rw [hol1, hL9l]; omega)
  have hsz4 := Lib.hid (Nat.le_trans (Nat.le_refl _) Q4.out.size)
  clear ho2 hL9 hL9l bA2 hol1 hL9b
  go_upto_region 8 with (first
    | (at_builtin; refine wpList_append_bts (w := V2.alloc (.cells #[.int .u8 2, .int .u8 4, .int .u8 ((a : Int) / 256), .int .u8 ((a : Int) % 256), .int .u8 2, .int .u8 4, .int .u8 ((b : Int) / 256), .int .u8 ((b : Int) % 256), .int .u8 0] 5)) ?_ (.tmp 37) (.tmp 48) ?_ w.heap.size (xs := o1) (ys := L9) (cap := oc) (dap := 9) (a := oa) (b := some ⟨V2.heap.size, 0, none⟩) O4.out NS2.out (by intro e; cases e) ?_ ?_ hl2.out hsz4.out ?_; rfl; rfl; rfl; (rw [HL9L.out]; rfl); intro oa2 oc2 V3 o b9; rw [HO2.out] at o ⊢; have O5 := Lib.hid o; have Q5 := Lib.hid (Q4.out.trans b9); clear o b9)
    | fail)
  obtain ⟨mt, hmt⟩ : ∃ z, min tl.length 8 = z := ⟨_, rfl⟩
  have tmin : min (tl.length : Int) 8 = (mt : Int) := by omega
  have tmin2 : (if (8 : Int) < (tl.length : Int) then (8 : Int) else (tl.length : Int)) = (mt : Int) := by split <;> omega
  have t1 : ¬ ((tc : Int) < (mt : Int)) := by omega
  have t2 : (mt : Int) ≤ (tc : Int) := by omega
  have t3 : mt ≤ 8 := by omega
  obtain ⟨tm, htm⟩ : ∃ z, tl.take mt = z := ⟨_, rfl⟩
  have html : tm.length = mt := by rw [← htm, List.length_take]; omega
  have TM : Hid (Bts V3 ta tm) := Lib.hid (by rw [← htm]; exact (bts_take HT.out mt).below Q5.out)
  have HTML := Lib.hid html
  obtain ⟨o3, ho3⟩ : ∃ z, o2 ++ tm = z := ⟨_, rfl⟩
  have HO3 := Lib.hid ho3
  have hol2 : o2.length = 11 + m := by rw [← HO2.out, List.length_append, HL9L.out, HOL1.out]; omega
  have HOL2 := Lib.hid hol2
  have hl3 : Hid (o2.length + tm.length ≤ 140737488355328) := Lib.hid (by rw [hol2, html]; omega)
  have hsz5 := Lib.hid Q5.out.size
  clear hmt htm html ho3 hol2
  go_upto_region 9 with (first
    | (at_builtin; refine wpList_append_bts (w := V3) ?_ (.tmp 50) (.tmp 55) ?_ w.heap.size (xs := o2) (ys := tm) (cap := oc2) (dap := tc) (a := oa2) (b := ta) O5.out TM.out HTN.out ?_ ?_ hl3.out hsz5.out ?_; rfl; rfl; rfl; (rw [HTML.out]; rfl); intro oa3 oc3 V4 o b9; rw [HO3.out] at o ⊢; have O6 := Lib.hid o; have Q6 := Lib.hid (Q5.out.trans b9); clear o b9)
    | fail)
  have hol3 : o3.length = 11 + m + mt := by rw [← HO3.out, List.length_append, HOL2.out, HTML.out]
  have HOL3 := Lib.hid hol3
  obtain ⟨l3, hl3e⟩ : ∃ z, o3.length = z := ⟨_, rfl⟩
  have hl3b : l3 ≤ 27 := by rw [← hl3e, hol3]; omega
  have HL3 := Lib.hid hl3e
  clear hol3 hl3e
  go_wp2_with fail
  go_loopw [11] (fun v wr => ∃ (ol : List Nat) (a7 : Option Addr) (c7 : Nat), v = .slice a7 ol.length c7 ∧ ol.length ≤ 28 ∧ (∃ j, ol = o3 ++ List.replicate j 7) ∧ OwnSl w.heap.size a7 ol c7 wr ∧ Below w.heap.size w wr) (fun v _ => 28 - lenV v)
  case atStart => exact ⟨o3, oa3, oc3, rfl, by rw [HL3.out]; omega, ⟨0, by simp⟩, O6.out, Q6.out⟩
  case round =>
    obtain ⟨ol, a7, c7, rfl, hol, ⟨j, hj⟩, hO, hq⟩ := hrel
    have O7 := Lib.hid hO
    have Q7 := Lib.hid hq
    have HJ := Lib.hid hj
    clear hO hq hj
    obtain ⟨n, hn⟩ : ∃ z, ol.length = z := ⟨_, rfl⟩
    have HN := Lib.hid hn
    rw [hn] at hol
    rw [hn]
    clear hn
    obtain ⟨r4, hr4⟩ : ∃ z, n % 4 = z := ⟨_, rfl⟩
    have hrm : (n : Int).tmod 4 = (r4 : Int) := by rw [Int.tmod_eq_emod_of_nonneg (by omega)]; omega
    have hrw : IntKind.i64.wrap (r4 : Int) = (r4 : Int) := IntWalk.i64_in _ ⟨by omega, by omega⟩
    by_cases h0 : r4 = 0
    case neg =>
      have k0 : ((r4 : Int) == 0) = false := by rw [beq_eq_false_iff_ne]; omega
      have k1 : ((r4 : Int) != 0) = true := by simp; omega
      have bA := (Below.refl wr.heap.size wr).alloc (Nat.le_refl _) (.cells #[.int .u8 7] 5)
      have NS : Hid (Bts (wr.alloc (.cells #[.int .u8 7] 5)) (some ⟨wr.heap.size, 0, none⟩) [7]) := Lib.hid ((own_new wr [7] (by intro x hx; simp at hx; omega) (by simp [hml])).bts)
      have O8 := Lib.hid (O7.out.below bA)
      have Q8 := Lib.hid (Q7.out.trans (bA.mono Q7.out.size))
      have hl4 : Hid (ol.length + [7].length ≤ 140737488355328) := Lib.hid (by rw [HN.out, List.length_singleton]; omega)
      have hs8 := Lib.hid (Nat.le_trans (Nat.le_refl _) Q8.out.size)
      have H28 := Lib.hid (show n + 1 ≤ 28 by omega)
      clear bA hr4
      go_wp2_with (first
        | (at_builtin; refine wpList_append_bts (w := wr.alloc (.cells #[.int .u8 7] 5)) ?_ (.tmp 61) (.tmp 62) ?_ w.heap.size (xs := ol) (ys := [7]) (cap := c7) (dap := 1) (a := a7) (b := some ⟨wr.heap.size, 0, none⟩) O8.out NS.out (by intro e; cases e) ?_ ?_ hl4.out hs8.out ?_; rfl; rfl; (rw [HN.out]; rfl); rfl; intro a9 c9 W9 o b9; have O9 := Lib.hid o; have Q9 := Lib.hid (Q8.out.trans b9); clear o b9)
        | fail)
      go_roundw
      case rel => exact ⟨ol ++ [7], a9, c9, by first | rfl | simp, by rw [List.length_append, HN.out]; exact H28.out, ⟨j + 1, by rw [HJ.out, List.append_assoc, ← List.replicate_succ']⟩, O9.out, Q9.out⟩
      case measure => have := H28.out; simp [lenV, HN.out]; omega
    case pos =>
      subst h0
      obtain ⟨i0, hi, hz0, hz1, hz2⟩ := info_parts info5
      have Hz := Lib.hid hz2
      clear hz2
      go_upto_region 12 with (first
        | (at_make; refine wpList_make_full _ rfl _ _ 25 rfl w.heap.size 5 i0 (.int .u8 0) 1 Try.underlying25 hi hz0 hz1 .i64 .i64 _ _ 20 rfl rfl rfl rfl (by rw [Hz.out]; omega) (by rw [hml]; omega) Q7.out.size ?_; intro W1 hown hgrow; have O8 := Lib.hid (own_made hown Q7.out.size); have bg := (Below.refl wr.heap.size wr).grown hgrow (Nat.le_refl _) (fun k e => by cases e); have O7b := Lib.hid (O7.out.below bg); have Q8 := Lib.hid (Q7.out.trans (bg.mono Q7.out.size)); have BG := Lib.hid bg; clear hown hgrow bg)
        | fail)
      obtain ⟨gh, hgh⟩ : ∃ z, wr.heap.size = z := ⟨_, rfl⟩
      have hne : a7 ≠ some ⟨gh, 0, none⟩ := fun e => (by have := O7.out.blkLt gh e; omega)
      rw [hgh] at O8
      rw [hgh]
      have f12 := O8.out.frozenAt 12
      have hq4 : (n : Int).tdiv 4 = ((n / 4 : Nat) : Int) := by rw [Int.tdiv_eq_ediv_of_nonneg (by omega)]; omega
      obtain ⟨q4, hq4e⟩ : ∃ z, n / 4 = z := ⟨_, rfl⟩
      rw [hq4e] at hq4
      have hq7 : q4 ≤ 7 := by omega
      have W5 : IntKind.i64.wrap (q4 : Int) = (q4 : Int) := IntWalk.i64_in _ ⟨by omega, by omega⟩
      have W6 : IntKind.i64.wrap (5 + (q4 : Int)) = 5 + (q4 : Int) := IntWalk.i64_in _ ⟨by omega, by omega⟩
      have W7 : IntKind.u8.wrap (5 + (q4 : Int)) = 5 + (q4 : Int) := IntWalk.u8_in _ (by omega)
      have c12 := O8.out.cellAt 12 (by rw [List.length_replicate]; omega)
      rw [show (List.replicate 20 0).getD 12 0 = 0 from rfl] at c12
      obtain ⟨X, hX⟩ : ∃ z, (5 + q4) * 16 = z := ⟨_, rfl⟩
      have hXi : (5 + (q4 : Int)) * 16 = (X : Int) := by omega
      have hX8 : X < 256 := by omega
      have HX := Lib.hid hX
      have HG := Lib.hid hgh
      clear hgh hX
      go_upto_region 13 with fail
      have O9 := Lib.hid (O8.out.store 12 X hX8)
      have bX : Below wr.heap.size wr (W1.setCell ⟨gh, 12, none⟩ (.int .u8 (X : Nat))) := BG.out.setCell (p := ⟨gh, 12, none⟩) (by rw [HG.out]; exact Nat.le_refl _) _
      have Y9 := Lib.hid (O7.out.bts.below bX)
      have Q9 := Lib.hid (Q7.out.trans (bX.mono Q7.out.size))
      clear f12 c12 bX O8 O7b Q8
      generalize W1.setCell ⟨gh, 12, none⟩ (.int .u8 (X : Nat)) = V9 at O9 Y9 Q9 ⊢
      have N9 := Lib.hid O7.out.nilcap
      obtain ⟨hd0, hhd0⟩ : ∃ z, (List.replicate 20 0).set 12 X = z := ⟨_, rfl⟩
      rw [hhd0] at O9
      have hhl : hd0.length = 20 := by rw [← hhd0]; rfl
      have HHL := Lib.hid hhl
      have HHD := Lib.hid hhd0
      obtain ⟨h1, hh1⟩ : ∃ z, hd0 ++ ol = z := ⟨_, rfl⟩
      have HH1 := Lib.hid hh1
      have hl9 : Hid (hd0.length + ol.length ≤ 140737488355328) := Lib.hid (by rw [hhl, HN.out]; omega)
      have hs9 := Lib.hid Q9.out.size
      clear hhd0 hhl hh1
      go_upto_region 14 with (first
        | (at_builtin; refine wpList_append_bts (w := V9) ?_ (.tmp 73) (.tmp 74) ?_ w.heap.size (xs := hd0) (ys := ol) (cap := 20) (dap := c7) (a := some ⟨gh, 0, none⟩) (b := a7) O9.out Y9.out N9.out ?_ ?_ hl9.out hs9.out ?_; rfl; rfl; (rw [HHL.out]; rfl); (rw [HN.out]; rfl); intro ha hc V10 o b9; rw [HH1.out] at o ⊢; have O10 := Lib.hid o; have Q10 := Lib.hid (Q9.out.trans b9); clear o b9)
        | fail)
      have hh1l : h1.length = 20 + n := by rw [← HH1.out, List.length_append, HHL.out, HN.out]
      obtain ⟨hl, hhl⟩ : ∃ z, h1.length = z := ⟨_, rfl⟩
      have hhln : hl = 20 + n := by omega
      have HHLE := Lib.hid hhl
      rw [hhl]
      obtain ⟨C, hC⟩ : ∃ z, 65535 - tcpSum h1 1 2 = z := ⟨_, rfl⟩
      have HC := Lib.hid hC
      have hP := psum_pos5 1 2 (h1.length : Nat) (by decide) (by decide)
      have hS1 := Mt.sumO_le h1 O10.out.1
      have hC2 : C ≤ 65535 := by omega
      have hCs : tcpSum h1 1 2 + C = 65535 := by
        have := tcpSum_le h1 O10.out.1 1 2 (by decide) (by decide)
        omega
      have RS := Lib.hid (refsum_any ha h1 hc V10 O10.out.bts (by omega))
      rw [hhl] at RS
      obtain ⟨sm, hsm⟩ : ∃ z, Mt.sumO h1 = z := ⟨_, rfl⟩
      have RP : Hid (∀ W, Calls Try.prog 22 #[.int .u32 1, .int .u32 2, .int .u8 6, .int .i64 (hl : Nat)] W fun e w' => e = .returned (.int .u16 (Mt.tot (psW 1 2 6 (hl : Nat)) : Nat)) ∧ Below W.heap.size W w') := Lib.hid (fun W => refpseudo_any 1 2 6 (hl : Nat) (by decide) (by decide) (by decide) W)
      obtain ⟨pm, hpm⟩ : ∃ z, Mt.tot (psW 1 2 6 (hl : Nat)) = z := ⟨_, rfl⟩
      have hts : tcpSum h1 1 2 = Mt.addw sm pm := by unfold tcpSum; rw [hhl, hsm, hpm]
      rw [hsm] at RS hS1
      rw [hpm] at RP
      rw [hhl, hpm] at hP
      have RA := Lib.hid (refadd_any sm pm hS1 hP.2)
      rw [← hts] at RA
      obtain ⟨ts, hts2⟩ : ∃ z, tcpSum h1 1 2 = z := ⟨_, rfl⟩
      rw [hts2] at RA hCs
      have WC : IntKind.u16.wrap (65535 - (ts : Int)) = (C : Int) := by rw [show (65535 : Int) - (ts : Int) = (C : Int) from by omega]; exact IntWalk.u16_in _ (by omega)
      have HHLN := Lib.hid hhln
      have HCS := Lib.hid hCs
      have HTS := Lib.hid hts2
      clear hC hP hS1 hsm hpm hts hts2 hhl hh1l hhln hCs
      go_upto_region 15 with (first
        | (go_at_call 21; with_reducible refine RS.out.mono ?_; rintro e w' ⟨rfl, rfl⟩)
        | (go_at_call 22; with_reducible refine (RP.out _).mono ?_; rintro e V11 ⟨rfl, b⟩; have O11 := Lib.hid (O10.out.below b); have Q11 := Lib.hid (Q10.out.trans (b.mono Q10.out.size)); clear b)
        | (go_at_call 20; with_reducible refine (RA.out _).mono ?_; rintro e w' ⟨rfl, rfl⟩)
        | fail)
      obtain ⟨gq, ha1, hgB⟩ : ∃ g, ha = some ⟨g, 0, none⟩ ∧ w.heap.size ≤ g := by
        obtain ⟨g, e, h1, _⟩ := O11.out.isSome (by rw [HHLE.out, HHLN.out]; omega)
        exact ⟨g, e, h1⟩
      subst ha1
      have hln1 : 20 ≤ hl := by rw [HHLN.out]; omega
      have hl28 : hl ≤ 48 := by rw [HHLN.out]; omega
      have y16 : (16 : Int) < (hl : Int) := by omega
      have y17 : (17 : Int) < (hl : Int) := by omega
      have c16 := O11.out.cellAt 16 (by rw [HHLE.out]; omega)
      have f16 := O11.out.frozenAt 16
      have c17 := O11.out.cellAt 17 (by rw [HHLE.out]; omega)
      have f17 := O11.out.frozenAt 17
      have C1 : ((C / 256 : Nat) : Int) = (C : Int) / 256 := by omega
      have C2 : ((C % 256 : Nat) : Int) = (C : Int) % 256 := by omega
      have HC1 := Lib.hid C1
      have HC2 := Lib.hid C2
      clear C1 C2
      go_upto_region 16 with fail
      obtain ⟨HH, hHH⟩ : ∃ z, (h1.set 16 (C / 256)).set 17 (C % 256) = z := ⟨_, rfl⟩
      have hol3 : ol = oL ke m bm a b (tm ++ List.replicate j 7) := by
        rw [HJ.out, ← HO3.out, ← HO2.out, ← HO1.out, HL9.out]
        unfold oL
        rw [HM9.out]
        simp
      have hops : tOpts (ol.length + 1) ol [] tOpt0 = some { tOpt0 with mss := a } := by
        rw [hol3]
        refine opts_read ke m bm a b _ HML.out hke2 _ ?_
        unfold oL; simp; omega
      obtain ⟨k1, k2, k3, k4, k5⟩ := op_read ol O7.out.1 (by rw [HN.out]; exact hol) (by rw [HN.out]; exact hr4) X (by rw [HN.out, hq4e]; exact HX.out.symm) _ hops C (by rw [HHD.out, HH1.out]; exact HC.out.symm) HH (by rw [HHD.out, HH1.out]; exact hHH.symm)
      have hHl : HH.length = hl := by rw [k4, HHLN.out, HN.out]
      have O12 := Lib.hid ((O11.out.store 16 (C / 256) (by omega)).store 17 (C % 256) (by omega))
      rw [hHH, HC1.out, HC2.out] at O12
      have hhc := O12.out.capLe
      have PC : Hid (∀ W, Bts W (some ⟨gq, 0, none⟩) HH → Calls Try.prog 10 #[.slice (some ⟨gq, 0, none⟩) hl hc, .int .u32 1, .int .u32 2] W fun e w' => ∃ (n1 n2 n3 n4 n5 n6 n7 : Nat) (xa : Option Addr) (xc : Nat) (da : Option Addr) (dc : Nat), e = .returned (.tuple #[.agg #[.int .u16 n1, .int .u16 n2, .int .u32 n3, .int .u32 n4, .int .u8 n5, .int .u16 n6, .int .u16 n7, .int .i64 (a : Nat), .bool false, .int .i64 0, .bool false, .slice xa 0 xc, .bool false, .int .u32 0, .int .u32 0, .slice da 0 dc], .int .i64 0]) ∧ Below W.heap.size W w') := Lib.hid (fun W hx => (by
        have h := tcpP_read (some ⟨gq, 0, none⟩) HH hc 1 2 W hx hhc.1 (by decide) (by decide) k1
        rw [hHl] at h
        refine h.mono ?_
        rintro e w' ⟨hb, ⟨h0, _⟩ | ⟨s, v, da, dc, h0, rfl, hO, hr⟩⟩
        · rw [k2] at h0; cases h0
        · rw [k2] at h0
          cases h0
          obtain ⟨xa, xc, rfl, _⟩ := OwnBlk.of_row (B := W.heap.size) (bs := []) (fun x h => absurd h List.not_mem_nil) hr
          rw [k3]
          exact ⟨_, _, _, _, _, _, _, xa, xc, da, dc, rfl, hb⟩))
      have Q12 : Hid (Below w.heap.size w ((V11.setCell ⟨gq, 16, none⟩ (.int .u8 ((C : Int) / 256))).setCell ⟨gq, 17, none⟩ (.int .u8 ((C : Int) % 256)))) := Lib.hid ((Q11.out.setCell (p := ⟨gq, 16, none⟩) hgB _).setCell (p := ⟨gq, 17, none⟩) hgB _)
      clear c16 f16 c17 f17 hHH hol3 hops k1 k2 k3 k4 k5 hHl hhc
      generalize (V11.setCell ⟨gq, 16, none⟩ (.int .u8 ((C : Int) / 256))).setCell ⟨gq, 17, none⟩ (.int .u8 ((C : Int) % 256)) = V12 at O12 Q12 ⊢
      go_upto_region 17 with (first
        | (go_at_call 10; with_reducible refine (PC.out _ O12.out.bts).mono ?_; rintro e V13 ⟨n1, n2, n3, n4, n5, n6, n7, xa, xc, da, dc, rfl, b⟩; have Q13 := Lib.hid (Q12.out.trans (b.mono Q12.out.size)); clear b)
        | fail)
      have KB := Lib.hid (blk_new V13 (.cells #[.int .u16 n1, .int .u16 n2, .int .u32 n3, .int .u32 n4, .int .u8 n5, .int .u16 n6, .int .u16 n7, .int .i64 (a : Nat), .bool false, .int .i64 0, .bool false, .slice xa 0 xc, .bool false, .int .u32 0, .int .u32 0, .slice da 0 dc] 27))
      have QF := Lib.hid (Q13.out.trans (((Below.refl V13.heap.size V13).alloc (Nat.le_refl _) (.cells #[.int .u16 n1, .int .u16 n2, .int .u32 n3, .int .u32 n4, .int .u8 n5, .int .u16 n6, .int .u16 n7, .int .i64 (a : Nat), .bool false, .int .i64 0, .bool false, .slice xa 0 xc, .bool false, .int .u32 0, .int .u32 0, .slice da 0 dc] 27)).mono Q13.out.size))
      have d7 := blk_cell KB.out 7
      have d8 := blk_cell KB.out 8
      have d10 := blk_cell KB.out 10
      have d11 := blk_cell KB.out 11
      have d12 := blk_cell KB.out 12
      have d15 := blk_cell KB.out 15
      have WA : IntKind.i64.wrap (a : Int) = (a : Int) := IntWalk.i64_in _ ⟨by omega, by omega⟩
      have ee : ((a : Int) == (a : Int)) = true := beq_self_eq_true _
      generalize V13.alloc (.cells #[.int .u16 n1, .int .u16 n2, .int .u32 n3, .int .u32 n4, .int .u8 n5, .int .u16 n6, .int .u16 n7, .int .i64 (a : Nat), .bool false, .int .i64 0, .bool false, .slice xa 0 xc, .bool false, .int .u32 0, .int .u32 0, .slice da 0 dc] 27) = VF at d7 d8 d10 d11 d12 d15 KB QF ⊢
      clear hXi hq4 W5 W6 W7 WC hrm hrw W2 W3
      go_wp2_with (first
        | (go_at_call 13; with_reducible refine (num_any _ _).mono ?_; rintro e w' ⟨rfl, rfl⟩)
        | fail)
      all_goals
        go_ret
        exact ⟨rfl, QF.out⟩

theorem own : ownKnob Try.prog.godebug = none := by kernel_rfl
theorem laidOut : laidOutB Try.prog = true := by kernel_rfl

set_option maxRecDepth 100000 in
set_option maxHeartbeats 2000000 in
theorem lifted (os : Os) (started : os.Started) (H : Type) (enc : TypeId × Value → H) :
    ReturnsInHanded {} Try.checked os 5 .any (Rows.tcpwireOptionsSpec.pre6 enc Try.prog Try.f5 Rows.tcpwireOptionsRow.domain false) (Rows.tcpwireOptionsSpec.post enc Try.prog Try.f5 false true false false) := by
  refine returnsInHanded_of_change_sized (C := Try.checked) own started (by kernel_rfl) Try.func5
    (ChangeSpec.witness6 (enc := enc) (C := Try.checked) false ⟨#[], #[.int .u8 0, .slice none 0 0, .int .u16 0, .int .u16 0, .slice none 0 0], []⟩ 8 (by kernel_rfl) (by kernel_rfl) (by kernel_rfl) (by kernel_rfl)) ?_
  intro W base args ds gs before hval0 hW hcnd hsz0 _
  have hval : ∀ (j : Nat) t v, Try.f5.params[j]? = some t → args[j]? = some v → Value.okWide Try.prog W .any base t v := hval0
  have hsz : (DataW.weightsEach Try.prog (Try.f5.params.toList ++ Rows.tcpwireOptionsSpec.plain.varTypes Try.prog) (ds ++ gs)).all (· ≤ reachBytes) = true := hsz0
  have hW' := hW
  obtain ⟨p, q, hA0, hV, rfl, hfz, hnd⟩ := hW
  have hA : DataW.TrodAll enc Try.prog W 0 (fun _ => true) true Try.f5.params.toList args.toList ds p := hA0
  rw [Try.params5] at hA hval hsz
  obtain ⟨v0, vs0, d0, ds0, p0, q0, hargs, rfl, rfl, h0, r0⟩ := trodAll_cons hA
  obtain ⟨v1, vs1, d1, ds1, p1, q1, rfl, rfl, rfl, h1, r1⟩ := trodAll_cons r0
  obtain ⟨v2, vs2, d2, ds2, p2, q2, rfl, rfl, rfl, h2, r2⟩ := trodAll_cons r1
  obtain ⟨v3, vs3, d3, ds3, p3, q3, rfl, rfl, rfl, h3, r3⟩ := trodAll_cons r2
  obtain ⟨v4, vs4, d4, ds4, p4, q4, rfl, rfl, rfl, h4, r4⟩ := trodAll_cons r3
  obtain ⟨rfl, rfl, rfl⟩ := trodAll_nil r4
  obtain rfl : args = #[v0, v1, v2, v3, v4] := by cases args; simp_all
  obtain ⟨rfl, rfl⟩ := trodVars_none hV
  obtain ⟨a0, rfl, rfl, rfl, w0⟩ := open_int Try.underlying5 (hval 0 5 v0 rfl rfl) h0
  obtain ⟨a1, len1, cap1, rfl⟩ := okWide_slice Try.underlying25 (hval 1 25 v1 rfl rfl)
  have k1 := h1
  have lt1 : ∀ x ∈ p1, x.block < W.heap.size := by obtain ⟨m, hm⟩ := k1; exact DataW.trod_lt m _ _ _ hm
  obtain ⟨a2, rfl, rfl, rfl, w2⟩ := open_int Try.underlying22 (hval 2 22 v2 rfl rfl) h2
  obtain ⟨a3, rfl, rfl, rfl, w3⟩ := open_int Try.underlying22 (hval 3 22 v3 rfl rfl) h3
  obtain ⟨a4, len4, cap4, rfl⟩ := okWide_slice Try.underlying25 (hval 4 25 v4 rfl rfl)
  have k4 := h4
  have lt4 : ∀ x ∈ p4, x.block < W.heap.size := by obtain ⟨m, hm⟩ := k4; exact DataW.trod_lt m _ _ _ hm
  obtain ⟨xs1, hxl1, hbt1, hcap1, hlc1, hre1⟩ : ∃ xs : List Nat, xs.length = len1 ∧ Bts W a1 xs ∧ (a1 = none → cap1 = 0) ∧ (xs.length ≤ cap1 ∧ cap1 ≤ maxLen) ∧ xs.length ≤ 140737488351232 := by
    obtain ⟨fuel, hf⟩ := h1
    rcases open_ints Try.underlying25 Try.underlying5 (by kernel_rfl) hf with ⟨hcs, _⟩ | ⟨x, l, c, zs, hcs, _, hl, hm, hz, hd, hcell, hwz⟩
    · simp [Value.cells] at hcs
      obtain ⟨rfl, rfl, rfl⟩ := hcs
      exact ⟨[], rfl, ⟨(fun x h => by cases h), .inl rfl⟩, fun _ => rfl, ⟨Nat.le_refl _, Nat.zero_le _⟩, by simp⟩
    · simp [Value.cells] at hcs
      obtain ⟨rfl, rfl, rfl⟩ := hcs
      have hz' : zs.length = cap1 := by simpa using hz
      obtain ⟨xs, h1, h2⟩ := bts_of_ints hl hz' hcell hwz
      have hd' := (Prod.mk.inj hd).1
      have hw := sized_slice hsz (j := 1) (t := 25) (e := 5) rfl (by rw [hd']; rfl) Try.underlying25
      rw [bytes5] at hw
      simp only [lits, List.length_map, List.length_take, List.length_drop, reachBytes] at hw
      exact ⟨xs, h1, h2, (fun h => by cases h), ⟨by omega, hm⟩, by omega⟩
  obtain ⟨xs4, hxl4, hbt4, hcap4, hlc4, hre4⟩ : ∃ xs : List Nat, xs.length = len4 ∧ Bts W a4 xs ∧ (a4 = none → cap4 = 0) ∧ (xs.length ≤ cap4 ∧ cap4 ≤ maxLen) ∧ xs.length ≤ 140737488351232 := by
    obtain ⟨fuel, hf⟩ := h4
    rcases open_ints Try.underlying25 Try.underlying5 (by kernel_rfl) hf with ⟨hcs, _⟩ | ⟨x, l, c, zs, hcs, _, hl, hm, hz, hd, hcell, hwz⟩
    · simp [Value.cells] at hcs
      obtain ⟨rfl, rfl, rfl⟩ := hcs
      exact ⟨[], rfl, ⟨(fun x h => by cases h), .inl rfl⟩, fun _ => rfl, ⟨Nat.le_refl _, Nat.zero_le _⟩, by simp⟩
    · simp [Value.cells] at hcs
      obtain ⟨rfl, rfl, rfl⟩ := hcs
      have hz' : zs.length = cap4 := by simpa using hz
      obtain ⟨xs, h1, h2⟩ := bts_of_ints hl hz' hcell hwz
      have hd' := (Prod.mk.inj hd).1
      have hw := sized_slice hsz (j := 4) (t := 25) (e := 5) rfl (by rw [hd']; rfl) Try.underlying25
      rw [bytes5] at hw
      simp only [lits, List.length_map, List.length_take, List.length_drop, reachBytes] at hw
      exact ⟨xs, h1, h2, (fun h => by cases h), ⟨by omega, hm⟩, by omega⟩
  clear hA0 hval0 hsz hsz0
  obtain ⟨n0, rfl, hn0⟩ := nat_of_u8 w0
  subst hxl1
  obtain ⟨n2, rfl, hn2⟩ := nat_of_u16 w2
  obtain ⟨n3, rfl, hn3⟩ := nat_of_u16 w3
  subst hxl4
  refine (walk n0 a1 xs1 cap1 n2 n3 a4 xs4 cap4 W hn0 hbt1 hcap1 hlc1 hre1 hn2 hn3 hbt4 hcap4 hlc4 hre4).mono fun e W' ⟨he, bel⟩ => ?_
  subst he
  exact ⟨_, rfl, _, _, _, [], _, [], hW', trodAll_mk1 (shut_bool Try.underlying4 _), (trodAll_cons_mk (shut_int Try.underlying5 w0) (trodAll_cons_mk (Below.trod laidOut (by kernel_rfl) (of_decide_eq_true (by kernel_rfl)) k1 bel lt1) (trodAll_cons_mk (shut_int Try.underlying22 w2) (trodAll_cons_mk (shut_int Try.underlying22 w3) (trodAll_cons_mk (Below.trod laidOut (by kernel_rfl) (of_decide_eq_true (by kernel_rfl)) k4 bel lt4) trodAll_mk0))))), rfl, bel.frame _, fun h => by cases h⟩

theorem over : Rows.tcpwireOptionsRow.holds Try.pinned (OpenSpec.ofChange Rows.tcpwireOptionsSpec) :=
  OpenClaim.holds_of_wide 5 Try.f5 rfl rfl rfl rfl rfl rfl rfl ⟨rfl, rfl, rfl, rfl, rfl⟩ rfl rfl rfl rfl rfl (by kernel_rfl) Try.func5 (by kernel_rfl)
    (of_decide_eq_true (by kernel_rfl)) (by unfold Func.isWrapper; first | (rw [if_pos (by decide +kernel)]; kernel_rfl) | (rw [if_neg (by decide +kernel)]; exact ⟨rfl, rfl⟩))
    (fun os started H enc _ => lifted os started H enc)

end Go.Proofs.Ytgmgoilleakdcaa.tcpwireOptions
namespace Go.Proofs.Ytgmgoilleakdcaa
/-- The statement. -/
theorem tcpwireOptions_holds : Rows.TcpwireOptionsSaid := tcpwireOptions.over
#print axioms tcpwireOptions_holds
end Go.Proofs.Ytgmgoilleakdcaa
