/- For every number, list of numbers and list of blocks: what came newly, all together, is what is acknowledged. No condition. -/
import Derived.Test.YtcachmjcninkbaaRows
import Derived.Test.YtcachmjcninkbaaScAm
import Derived.Test.YtcachmjcninkbaaScOw
import Derived.Test.YtcachmjcninkbaaGBk
import Derived.Test.YtcachmjcninkbaaQInts
import Derived.Test.YtcachmjcninkbaaGAgg
import Derived.Deep.DeepCutAuto
import Derived.RegionTactic
import Derived.Deep.RegionHeld3
import Derived.BigQuiet
import Derived.Lib.QuietBelow
import Derived.ProofKit
import Derived.OpenShut
import Derived.ChangeOld
import Derived.SizedLaws
namespace Go.Proofs.Ytcachmjcninkbaa.scoreboardCounts
open Go.ChangeShapes Go.WideShapes Go.ChangeAt Go.RowKit Go.Deep Go.Proofs.Ytcachmjcninkbaa Go.Sort Go.BigFrame

theorem bk_sts {w : World} {a : Option Addr} {xs : List Bk} (h : Sts 2 Bk.cells Bk.ok w a xs) : Sts 2 BC Tr w a (xs.map fun r => (r.left, r.right)) ∧ small2 (xs.map fun r => (r.left, r.right)) := by
  refine ⟨⟨fun _ _ => trivial, ?_⟩, ?_⟩
  · rcases h.2 with h0 | ⟨b, off, e, hb, hc⟩
    · left; rw [h0]; rfl
    · right
      refine ⟨b, off, e, hb, fun i r hr j v hv => ?_⟩
      rw [List.getElem?_map, Option.map_eq_some_iff] at hr
      obtain ⟨q, hq, rfl⟩ := hr
      exact hc i q hq j v hv
  · intro x hx
    obtain ⟨r, hr, rfl⟩ := List.mem_map.1 hx
    exact h.1 r hr
set_option maxHeartbeats 400000 in
theorem new_any (x : Nat) (w : World) : Calls Try.prog 27 #[.int .u32 (x : Nat)] w fun e w' => e = .returned (.agg #[.int .u32 (x : Nat), .int .u32 (x : Nat), .int .u32 (x : Nat), .slice none 0 0]) ∧ Below w.heap.size w w' := by
  have Q0 := Lib.hid ((Below.refl w.heap.size w).alloc (Nat.le_refl _) (.cells #[.int .u32 0, .int .u32 0, .int .u32 0, .slice none 0 0] 26))
  have Z0 := Lib.hid (blk_new w (.cells #[.int .u32 0, .int .u32 0, .int .u32 0, .slice none 0 0] 26))
  go_enter Try.func27, Try.ntmps27
  go_upto_region 1 with fail
  generalize w.alloc (.cells #[.int .u32 0, .int .u32 0, .int .u32 0, .slice none 0 0] 26) = V0 at Q0 Z0 ⊢
  go_wp2_with (first
    | ((with_reducible show wpList _ _ _ _ _ _); refine wpList_store_blk rowPS (t := 26) (w := V0) rfl (.tmp 2) (.tmp 6) rfl w.heap.size #[.int .u32 0, .int .u32 0, .int .u32 0, .slice none 0 0] #[.int .u32 (x : Nat), .int .u32 (x : Nat), .int .u32 (x : Nat), .slice none 0 0] rfl rfl Z0.out rfl rfl (by simp [Value.oneCell']) ?_; intro V7 hb7 hg7; have ZB7 := Lib.hid hb7; have Q7 := Lib.hid (Q0.out.grown hg7 Q0.out.size (fun k e => by have := Option.some.inj e; omega)); clear hb7 hg7)
    | fail)
  refine bodyPost_ret (results_c rowPS rfl _ _ w.heap.size _ rfl ZB7.out rfl) rfl ⟨rfl, Q7.out⟩
theorem sn_seven (m : Nat) (hm : m ≤ 3000) : snE 7 7 7 [] (m : Int) = 0 := by
  have hk : okS 7 7 7 [] = true := by decide +kernel
  have hp : pl 7 7 = 0 := by decide +kernel
  unfold snE; rw [if_pos hk, hp, if_pos ⟨by omega, by omega⟩]
theorem ok_seven (m : Nat) (hm : m ≤ 3000) : okS 7 (7 + m) 7 [] = true := by
  have h1 : pl 7 (7 + m) = m := by unfold pl; omega
  have h2 : pl 7 7 = 0 := by decide +kernel
  refine okS_iff.2 ⟨by rw [h1]; omega, by rw [h1, h2]; omega, by simp, rfl⟩
theorem pl7 {K m : Nat} (hK : K ≤ m) (hm : m ≤ 3000) : pl (7 + K) (7 + m) = m - K := by unfold pl; omega
/-- The place of a number, from 7 on. -/
theorem pl_seven {K m y : Nat} (hm : K ≤ m) (h3 : m ≤ 3000) (h : pl (7 + K) y ≤ m - K) : pl 7 y = K + pl (7 + K) y := by unfold pl at *; omega
set_option maxRecDepth 100000 in
set_option maxHeartbeats 4000000 in
theorem walk (n : Int) (a1 : Option Addr) (ks : List Int) (c1 : Nat) (a2 : Option Addr) (xs : List Bk) (c2 : Nat) (w : World) (_n_l : -9223372036854775808 ≤ n) (_n_h : n ≤ 9223372036854775807) (hks : Its w a1 ks) (_hn1 : a1 = none → c1 = 0) (hl1 : ks.length ≤ 17592186043904) (hxs : Sts 2 Bk.cells Bk.ok w a2 xs) (_hn2 : a2 = none → c2 = 0) (hl2 : xs.length ≤ 17592186043904) :
    Calls Try.prog 6 #[.int .i64 n, .slice a1 ks.length c1, .slice a2 xs.length c2] w fun e w' => e = .returned (.bool true) ∧ Below w.heap.size w w' := by
  obtain ⟨hf, hfs⟩ := bk_sts hxs
  obtain ⟨fs, hfq⟩ : ∃ z, xs.map (fun r => (r.left, r.right)) = z := ⟨_, rfl⟩
  have hfl : xs.length = fs.length := by rw [← hfq, List.length_map]
  rw [hfq] at hf hfs
  rw [hfl] at hl2 ⊢
  have HK := Lib.hid hks
  have HF := Lib.hid hf
  have HFS := Lib.hid hfs
  have t1 := Int.tmod_lt_of_pos n (show (0 : Int) < 3000 by decide)
  have t2 := Int.lt_tmod_of_pos n (show (0 : Int) < 3000 by decide)
  obtain ⟨r, hr⟩ : ∃ r : Nat, (n.tmod 3000 + 3000) % 3000 = (r : Int) := ⟨((n.tmod 3000 + 3000) % 3000).toNat, by omega⟩
  have hrt : (n.tmod 3000 + 3000).tmod 3000 = (r : Int) := by rw [Int.tmod_eq_emod_of_nonneg (by omega)]; exact hr
  have hr3 : r < 3000 := by omega
  obtain ⟨m, hm⟩ : ∃ m : Nat, 1 + r = m := ⟨_, rfl⟩
  have hm3 : m ≤ 3000 := by omega
  have hm1 : 1 ≤ m := by omega
  have hmi : (1 : Int) + (r : Int) = (m : Int) := by omega
  have PSent := fun V => psent_own 7 7 7 none [] 0 (m : Int) V (by decide) (Sts.nil V none) (fun _ => rfl) (by simp)
  unfold FOwn at PSent
  rw [sn_seven m hm3] at PSent
  simp only [oU0 rfl, oL0 rfl] at PSent
  obtain ⟨X7, hX7⟩ : ∃ z, 7 + m = z := ⟨_, rfl⟩
  have e7 : (7 + (m : Int).toNat) % 4294967296 = X7 := by omega
  rw [e7] at PSent
  have HPS := Lib.hid PSent
  have HX7 := Lib.hid hX7
  have hX7b : X7 < 4294967296 := by omega
  clear hks hxs hfq hf hfs hfl PSent e7 hm hX7
  go_enter Try.func6, Try.ntmps6
  go_wp2_with fail
  refine (alive_any w).mono ?_
  rintro e V1 ⟨rfl, hB⟩
  have Q1 := Lib.hid hB
  clear hB
  go_wp2_with fail
  refine (new_any 7 V1).mono ?_
  rintro e V2 ⟨rfl, hB⟩
  have Q2 := Lib.hid (Q1.out.trans (hB.mono Q1.out.size))
  clear hB
  go_wp2_with fail
  refine (HPS.out V2).mono ?_
  rintro e V3 ⟨⟨a', c', rfl, hO⟩, hB⟩
  have O3 := Lib.hid hO
  have Q3 := Lib.hid (Q2.out.trans (hB.mono Q2.out.size))
  clear hO hB t1 t2 hr hrt hmi Q1 Q2
  go_upto_region 5 with fail
  have hb1 := (Below.refl V3.heap.size V3).alloc (Nat.le_refl _) (.cells #[.int .u32 (7 : Nat), .int .u32 (X7 : Nat), .int .u32 (7 : Nat), .slice a' ([] : List (Nat × Nat)).length c'] 26)
  have S4 := Lib.hid (blk_new V3 (.cells #[.int .u32 (7 : Nat), .int .u32 (X7 : Nat), .int .u32 (7 : Nat), .slice a' ([] : List (Nat × Nat)).length c'] 26))
  have O4 := Lib.hid (O3.out.below hb1)
  have Q4 := Lib.hid (Q3.out.trans (hb1.mono Q3.out.size))
  have hsz : V3.heap.size < (V3.alloc (.cells #[.int .u32 (7 : Nat), .int .u32 (X7 : Nat), .int .u32 (7 : Nat), .slice a' ([] : List (Nat × Nat)).length c'] 26)).heap.size := by simp
  have hgw := Q3.out.size
  have hag := Lib.hid (fun q (e : (Value.slice a' ([] : List (Nat × Nat)).length c').ownBlock = some q) => (O3.out.ownB q e).2)
  clear O3 Q3 hb1
  obtain ⟨gs, hgs⟩ : ∃ q, V3.heap.size = q := ⟨_, rfl⟩
  generalize V3.alloc (.cells #[.int .u32 (7 : Nat), .int .u32 (X7 : Nat), .int .u32 (7 : Nat), .slice a' ([] : List (Nat × Nat)).length c'] 26) = V4 at S4 O4 Q4 hsz ⊢
  rw [hgs] at S4 hsz hgw hag ⊢
  clear hgs
  go_wp2_with fail
  refine (num_any _ _).mono ?_
  rintro e w' ⟨rfl, rfl⟩
  go_wp2_with fail
  go_loopw [9, 11] (fun sv iv wr => ∃ (i K U : Nat) (sm : Int) (hh : Nat) (l : List (Nat × Nat)) (p : Option Addr) (k : Nat), i ≤ 40 ∧ iv = .int .i64 i ∧ sv = .int .i64 sm ∧ K ≤ m ∧ i ≤ ks.length + 1 ∧ hh < 4294967296 ∧ U = 7 + K ∧ Hid (okS U X7 hh l = true) ∧ Hid (small2 l) ∧ Hid (sm = (K : Int) + oct (sps U l)) ∧ Hid ((ks.length < i ∨ 40 ≤ i) → K = m ∧ l = []) ∧ wr.heap[gs]? = some (.cells #[.int .u32 (U : Nat), .int .u32 (X7 : Nat), .int .u32 (hh : Nat), .slice p l.length k] 26 (0, 0)) ∧ OwnR 38 2 BC 0 p l k wr ∧ Hid (∀ q, (Value.slice p l.length k).ownBlock = some q → q ≠ gs) ∧ Below w.heap.size w wr) (fun _ iv _ => 41 - (intOf iv).toNat)
  case atStart => exact ⟨0, 0, 7, 0, 7, [], a', c', by omega, rfl, rfl, by omega, by omega, by decide, rfl, Lib.hid (by rw [← HX7.out]; exact ok_seven m hm3), Lib.hid (fun _ h => by cases h), Lib.hid rfl, Lib.hid (fun h => by omega), S4.out, O4.out.mono (Nat.zero_le _), Lib.hid (fun q e => by have := hag.out q e; omega), Q4.out⟩
  case round =>
    obtain ⟨i, K, U, sm, hh, l, p, k, hi40, rfl, rfl, hKm, hik, hhb, hU, HOK, HSL, HSM, HD, hS, hO, HPG, hq⟩ := hrel
    have SR := Lib.hid hS
    have OR := Lib.hid hO
    have QR := Lib.hid hq
    have HU := Lib.hid hU
    have hgr := blk_lt hS
    have hUb : U < 4294967296 := by omega
    clear hS hO hq hU S4 O4 Q4
    by_cases hc1 : i ≤ ks.length
    case neg =>
      have i1 : ¬ ((i : Int) ≤ (ks.length : Int)) := by omega
      obtain ⟨hK, hl0⟩ := HD.out (.inl (by omega))
      have hsm : sm = (m : Int) := by rw [HSM.out, hK, hl0]; simp [sps, oct]
      have hux : U = X7 := by rw [HU.out, hK, HX7.out]
      subst hsm
      have s0 : wr.cell? ⟨gs, 0, none⟩ = some (.int .u32 (X7 : Nat)) := by rw [← hux]; exact blk_cell SR.out 0
      have s1 : wr.cell? ⟨gs, 1, none⟩ = some (.int .u32 (X7 : Nat)) := blk_cell SR.out 1
      clear hK hl0 hux
      go_wp2
      go_ret
      exact ⟨rfl, QR.out⟩
    case pos =>
    have i1 : (i : Int) ≤ (ks.length : Int) := by omega
    by_cases hc2 : i < 40
    case neg =>
      have i2 : ¬ ((i : Int) < 40) := by omega
      obtain ⟨hK, hl0⟩ := HD.out (.inr (by omega))
      have hsm : sm = (m : Int) := by rw [HSM.out, hK, hl0]; simp [sps, oct]
      have hux : U = X7 := by rw [HU.out, hK, HX7.out]
      subst hsm
      have s0 : wr.cell? ⟨gs, 0, none⟩ = some (.int .u32 (X7 : Nat)) := by rw [← hux]; exact blk_cell SR.out 0
      have s1 : wr.cell? ⟨gs, 1, none⟩ = some (.int .u32 (X7 : Nat)) := blk_cell SR.out 1
      clear hK hl0 hux
      go_wp2
      go_ret
      exact ⟨rfl, QR.out⟩
    case pos =>
    have i2 : (i : Int) < 40 := by omega
    obtain ⟨ok1, ok2, ok3, ok4⟩ := okS_iff.1 HOK.out
    have hplx : pl U X7 = m - K := by rw [HU.out, ← HX7.out]; exact pl7 hKm hm3
    rw [hplx] at ok4
    have HOL := Lib.hid ok4
    have hob := oct_ok (sps U l) 0 ok4 (Nat.zero_le _)
    have HPX := Lib.hid hplx
    clear ok1 ok2 ok4 hplx
    go_upto_region 12 with fail
    go_cut [54] (fun (v : Value) (wx : World) => ∃ cb : Bool, v = .bool cb ∧ Hid (cb = true ↔ (i < ks.length ∧ i < 39)) ∧ wr = wx)
    case first =>
      by_cases j1 : i < ks.length
      case neg =>
        have j3 : ¬ ((i : Int) < (ks.length : Int)) := by omega
        go_wp2_with fail
        go_meet
        exact ⟨false, rfl, Lib.hid (by simp; omega), rfl⟩
      case pos =>
        have j3 : (i : Int) < (ks.length : Int) := by omega
        by_cases j2 : i < 39
        case neg =>
          have j4 : ¬ ((i : Int) < 39) := by omega
          go_wp2_with fail
          go_meet
          exact ⟨false, rfl, Lib.hid (by simp; omega), rfl⟩
        case pos =>
          have j4 : (i : Int) < 39 := by omega
          go_wp2_with fail
          go_meet
          exact ⟨true, rfl, Lib.hid (by simp; omega), rfl⟩
    case rest =>
    obtain ⟨cb, rfl, HCB, hV⟩ := hcut
    subst hV
    go_upto_if 54 with fail
    go_cut [10] (fun (v : Value) (wx : World) => ∃ y : Nat, v = .int .i64 (y : Nat) ∧ K ≤ y ∧ Hid (¬ (i < ks.length ∧ i < 39) → m ≤ y) ∧ y ≤ 4000 ∧ Below wr.heap.size wr wx)
    case first =>
      cases cb
      case false =>
        go_wp2_with fail
        go_meet
        exact ⟨m, rfl, hKm, Lib.hid (fun _ => Nat.le_refl _), by omega, Below.refl _ _⟩
      case true =>
        obtain ⟨j1, j2⟩ := HCB.out.1 rfl
        have j3 : (i : Int) < (ks.length : Int) := by omega
        obtain ⟨b1, o1, rfl, hb1, hc1'⟩ : ∃ b off, a1 = some ⟨b, off, none⟩ ∧ b < w.heap.size ∧ ∀ i, i < ks.length → w.cell? ⟨b, off + i, none⟩ = some (.int .i64 (ks.getD i 0)) := by
          rcases HK.out.2 with h | h
          · rw [h] at j1; simp at j1
          · exact h
        have n0 := (QR.out.cell (p := ⟨b1, o1 + i, none⟩) hb1).trans (hc1' i j1)
        obtain ⟨z, hz⟩ : ∃ z, ks.getD i 0 = z := ⟨_, rfl⟩
        rw [hz] at n0
        have t1 := Int.tmod_lt_of_pos z (show (0 : Int) < 50 by decide)
        have t2 := Int.lt_tmod_of_pos z (show (0 : Int) < 50 by decide)
        obtain ⟨r2, hr2⟩ : ∃ r2 : Nat, (z.tmod 50 + 50) % 50 = (r2 : Int) := ⟨((z.tmod 50 + 50) % 50).toNat, by omega⟩
        have hrt2 : (z.tmod 50 + 50).tmod 50 = (r2 : Int) := by rw [Int.tmod_eq_emod_of_nonneg (by omega)]; exact hr2
        have hr50 : r2 < 50 := by omega
        have w1 : IntKind.i64.wrap (z.tmod 50) = z.tmod 50 := IntWalk.i64_in _ ⟨by omega, by omega⟩
        have w2 : IntKind.i64.wrap (z.tmod 50 + 50) = z.tmod 50 + 50 := IntWalk.i64_in _ ⟨by omega, by omega⟩
        have w3 : IntKind.i64.wrap (r2 : Int) = (r2 : Int) := IntWalk.i64_in _ ⟨by omega, by omega⟩
        have w4 : IntKind.i64.wrap ((K : Int) + (r2 : Int)) = ((K + r2 : Nat) : Int) := by rw [IntWalk.i64_in _ ⟨by omega, by omega⟩]; omega
        have w5 : IntKind.u32.wrap ((U : Int) - 7) = (K : Int) := by rw [IntKind.wrap_u32, HU.out]; omega
        have w6 : IntKind.i64.wrap (K : Int) = (K : Int) := IntWalk.i64_in _ ⟨by omega, by omega⟩
        have d5 : ¬ ((50 : Int) = 0) := by decide
        have d6 : ((50 : Int) == 0) = false := by decide
        have u0 := blk_cell SR.out 0
        generalize hK2 : K + r2 = Kr at w4
        clear hr2 hz hc1'
        go_wp2_with fail
        go_quiet (fail)
        go_wp2_with fail
        go_meet
        exact ⟨Kr, rfl, by omega, Lib.hid (fun h => absurd ⟨j1, j2⟩ h), by omega, below_drewN (Below.refl _ _) nq⟩
    case rest =>
    obtain ⟨y0, rfl, hy0, HY0, hy4, hB0⟩ := hcut
    obtain ⟨V5, hVV⟩ : ∃ V, V = wc := ⟨_, rfl⟩
    subst hVV
    obtain ⟨y1, hy1⟩ : ∃ z, min y0 m = z := ⟨_, rfl⟩
    have e1 : min (y0 : Int) (m : Int) = (y1 : Int) := by omega
    have hy1K : K ≤ y1 := by omega
    have hy1m : y1 ≤ m := by omega
    have HY1 : Hid (¬ (i < ks.length ∧ i < 39) → y1 = m) := Lib.hid (fun h => by have := HY0.out h; omega)
    have S5 := Lib.hid ((hB0.block _ hgr).trans SR.out)
    have O5 := Lib.hid (OR.out.below hB0)
    have Q5 := Lib.hid (QR.out.trans (hB0.mono QR.out.size))
    clear hB0 SR OR QR HY0 HCB hy1
    go_upto_if 73 with fail
    go_cut [12] (fun (v : Value) (wx : World) => ∃ (fl : List (Nat × Nat)) (a7 : Option Addr) (c7 : Nat), v = .slice a7 fl.length c7 ∧ Sts 2 BC Tr wx a7 fl ∧ Hid (small2 fl) ∧ fl.length ≤ 1 ∧ Below V5.heap.size V5 wx)
    case first =>
      by_cases j1 : i < fs.length
      case neg =>
        have j3 : ¬ ((i : Int) < (fs.length : Int)) := by omega
        have j5 : decide ((i : Int) < (fs.length : Int)) = false := decide_eq_false j3
        have j6 : decide (i < fs.length) = false := decide_eq_false j1
        go_wp2_with fail
        go_meet
        exact ⟨[], none, 0, rfl, Sts.nil _ _, Lib.hid (fun _ h => by cases h), by simp, Below.refl _ _⟩
      case pos =>
        have j3 : (i : Int) < (fs.length : Int) := by omega
        have j5 : decide ((i : Int) < (fs.length : Int)) = true := decide_eq_true j3
        have j6 : decide (i < fs.length) = true := decide_eq_true j1
        obtain ⟨x, hx⟩ : ∃ x, fs[i]? = some x := ⟨_, List.getElem?_eq_getElem j1⟩
        obtain ⟨g7, o7, rfl, _, _⟩ := HF.out.isSomeT (by omega)
        obtain ⟨hg, p0, p1⟩ := b_at HF.out hx
        have m0 := (Q5.out.cell (p := ⟨g7, o7 + i * 2, none⟩) hg).trans p0
        have m1 := (Q5.out.cell (p := ⟨g7, o7 + i * 2 + 1, none⟩) hg).trans p1
        obtain ⟨hx1, hx2⟩ := HFS.out x (List.mem_of_getElem? hx)
        obtain ⟨xl, hxl⟩ : ∃ z, x.1 = z := ⟨_, rfl⟩
        obtain ⟨xr, hxr⟩ : ∃ z, x.2 = z := ⟨_, rfl⟩
        rw [hxl] at m0 hx1
        rw [hxr] at m1 hx2
        clear hx p0 p1 hxl hxr
        have BB := Lib.hid ((Below.refl V5.heap.size V5).alloc (Nat.le_refl _) (.cells #[.int .u32 (xl : Nat), .int .u32 (xr : Nat)] 38))
        have X6 := Lib.hid (blk_new V5 (.cells #[.int .u32 (xl : Nat), .int .u32 (xr : Nat)] 38))
        go_upto_region 18 with fail
        generalize V5.alloc (.cells #[.int .u32 (xl : Nat), .int .u32 (xr : Nat)] 38) = V6 at BB X6 ⊢
        have x0 := blk_cell X6.out 0
        have x1 := blk_cell X6.out 1
        obtain ⟨q0, hq0⟩ : ∃ z, 7 + xl % 3000 = z := ⟨_, rfl⟩
        obtain ⟨q1, hq1⟩ : ∃ z, 7 + xr % 3000 = z := ⟨_, rfl⟩
        have e2 : (7 : Int) + (xl : Int) % 3000 = (q0 : Int) := by omega
        have e3 : (7 : Int) + (xr : Int) % 3000 = (q1 : Int) := by omega
        have e4 : IntKind.u32.wrap ((7 : Int) + (xl : Int) % 3000) = (q0 : Int) := by rw [IntKind.wrap_u32]; omega
        have e5 : IntKind.u32.wrap ((7 : Int) + (xr : Int) % 3000) = (q1 : Int) := by rw [IntKind.wrap_u32]; omega
        have e6 : IntKind.u32.wrap ((xl : Int) % 3000) = (xl : Int) % 3000 := by rw [IntKind.wrap_u32]; omega
        have e7 : IntKind.u32.wrap ((xr : Int) % 3000) = (xr : Int) % 3000 := by rw [IntKind.wrap_u32]; omega
        have hq0b : q0 < 4294967296 := by omega
        have hq1b : q1 < 4294967296 := by omega
        clear hq0 hq1
        go_wp2_with fail
        go_meet
        exact ⟨[(q0, q1)], _, 1, rfl, sts_new encB V6 [(q0, q1)] 38 (0, 0), Lib.hid (fun z hz => by simp at hz; subst hz; exact ⟨hq0b, hq1b⟩), by simp, BB.out.trans ((Below.refl V6.heap.size V6).alloc (Nat.le_refl _) _ |>.mono BB.out.size)⟩
    case rest =>
    obtain ⟨fl, a7, c7, rfl, hF, HFL, hfl1, hB0⟩ := hcut
    obtain ⟨V6, hVV⟩ : ∃ V, V = wc := ⟨_, rfl⟩
    subst hVV
    have F6 := Lib.hid hF
    have S6 := Lib.hid ((hB0.block _ (blk_lt S5.out)).trans S5.out)
    have O6 := Lib.hid (O5.out.below hB0)
    have Q6 := Lib.hid (Q5.out.trans (hB0.mono Q5.out.size))
    clear hF hB0 S5 O5 Q5 e1
    go_wp2_with fail
    go_loopw [14, 10] (fun kv yv wr => ∃ (j y : Nat), j ≤ l.length ∧ kv = .int .i64 j ∧ yv = .int .i64 (y : Nat) ∧ K ≤ y ∧ y ≤ m ∧ Hid (y1 = m → y = m) ∧ Hid (∀ t x, t < j → (sps U l)[t]? = some x → ¬ (x.1 ≤ y - K ∧ y - K < x.2)) ∧ Below V6.heap.size V6 wr) (fun kv _ _ => l.length - (intOf kv).toNat)
    case atStart => exact ⟨0, y1, by omega, rfl, rfl, hy1K, hy1m, Lib.hid id, Lib.hid (fun t x h => by omega), Below.refl _ _⟩
    case round =>
      obtain ⟨j, y, hj, rfl, rfl, hyK, hym, HYM, HIN, hq⟩ := hrel
      have S7 := Lib.hid ((hq.block _ (blk_lt S6.out)).trans S6.out)
      have O7 := Lib.hid (O6.out.below hq)
      have F7 := Lib.hid (Sts.belowT F6.out hq)
      have B7 := Lib.hid hq
      have Q7 := Lib.hid (Q6.out.trans (hq.mono Q6.out.size))
      clear hq
      have s0 := blk_cell S7.out 0
      have s1 := blk_cell S7.out 1
      have s2 := blk_cell S7.out 2
      have s3 := blk_cell S7.out 3
      by_cases hlt : j < l.length
      case pos =>
        have j1 : (j : Int) < (l.length : Int) := by omega
        obtain ⟨x, hx⟩ : ∃ x, l[j]? = some x := ⟨_, List.getElem?_eq_getElem hlt⟩
        have hsx : (sps U l)[j]? = some (pl U x.1, pl U x.2) := by unfold sps; rw [List.getElem?_map, hx]; rfl
        obtain ⟨hxa, hxb, _⟩ := ((okL_apt _ 0).1 HOL.out).2 _ (List.mem_of_getElem? hsx)
        obtain ⟨g7, o7, rfl, _, _⟩ := (O7.out.sts encB).isSomeT (by omega)
        obtain ⟨hg, m0, m1⟩ := b_at (O7.out.sts encB) hx
        obtain ⟨hx1, hx2⟩ := HSL.out x (List.mem_of_getElem? hx)
        have hpa := pl_seven (y := x.1) hKm hm3 (by rw [← HU.out]; exact Nat.le_trans (Nat.le_of_lt hxa) hxb)
        have hpb := pl_seven (y := x.2) hKm hm3 (by rw [← HU.out]; exact hxb)
        rw [← HU.out] at hpa hpb
        have w1 := pl_wrap (u := 7) (x := x.1) (by decide)
        have w2 := pl_wrap (u := 7) (x := x.2) (by decide)
        have w3 := u32_i64 (pl_lt 7 x.1)
        have w4 := u32_i64 (pl_lt 7 x.2)
        obtain ⟨av, hav⟩ : ∃ z, pl 7 x.1 = z := ⟨_, rfl⟩
        obtain ⟨bv, hbv⟩ : ∃ z, pl 7 x.2 = z := ⟨_, rfl⟩
        rw [hav] at w1 w3 hpa
        rw [hbv] at w2 w4 hpb
        obtain ⟨pa, hpa2⟩ : ∃ z, pl U x.1 = z := ⟨_, rfl⟩
        obtain ⟨pb, hpb2⟩ : ∃ z, pl U x.2 = z := ⟨_, rfl⟩
        have hxa' : pa < pb := by rw [← hpa2, ← hpb2]; exact hxa
        have hxb' : pb ≤ m - K := by rw [← hpb2]; exact hxb
        rw [hpa2] at hpa
        rw [hpb2] at hpb
        rw [hpa2, hpb2] at hsx
        have HSX := Lib.hid hsx
        have HAB := Lib.hid (show ∀ t x, t < j → (sps U l)[t]? = some x → x.2 < pa from fun t z ht hz => by
          have hp := ((okL_apt _ 0).1 HOL.out).1.1
          obtain ⟨h1, h2⟩ := List.getElem?_eq_some_iff.1 hz
          obtain ⟨h3, h4⟩ := List.getElem?_eq_some_iff.1 HSX.out
          have := (List.pairwise_iff_getElem.1 hp) t j h1 h3 ht
          rw [h2, h4] at this
          exact this)
        obtain ⟨xa, hxq⟩ : ∃ z, x.1 = z := ⟨_, rfl⟩
        obtain ⟨xb, hxq2⟩ : ∃ z, x.2 = z := ⟨_, rfl⟩
        rw [hxq] at m0 w1
        rw [hxq2] at m1 w2
        have w5 : ((xa : Int) - 7) % 4294967296 = (av : Int) := by rw [← IntKind.wrap_u32]; exact w1
        have w6 : ((xb : Int) - 7) % 4294967296 = (bv : Int) := by rw [← IntKind.wrap_u32]; exact w2
        have HPA := Lib.hid hpa
        have HPB := Lib.hid hpb
        clear hpa hpb hx hsx hxa hxb hpa2 hpb2 hav hbv hxq hxq2 hx1 hx2
        go_wp2_with fail
        go_quiet (fail)
        have B8 := Lib.hid (below_drewN B7.out nq)
        clear s0 s1 s2 s3 m0 m1 S7 O7 F7 B7 Q7 w1 w2 w3 w4 w5 w6
        generalize wr.drewN nq = V8 at B8 ⊢
        by_cases h1 : av ≤ y
        case neg =>
          have k1 : ¬ ((av : Int) ≤ (y : Int)) := by omega
          have hpa := HPA.out
          have hpb := HPB.out
          have HN2 : Hid (∀ t x, t < j + 1 → (sps U l)[t]? = some x → ¬ (x.1 ≤ y - K ∧ y - K < x.2)) := Lib.hid (fun t z ht hz => by
            by_cases e : t = j
            · subst e; rw [HSX.out] at hz; cases hz
              show ¬ (pa ≤ y - K ∧ y - K < pb); omega
            · exact HIN.out t z (by omega) hz)
          clear hpa hpb
          go_wp2_with fail
          go_roundw
          case rel => exact ⟨j + 1, y, by omega, by go_num, rfl, hyK, hym, HYM, HN2, B8.out⟩
          case measure => simp [intOf]; omega
        case pos =>
        have k1 : ((av : Int) ≤ (y : Int)) := by omega
        by_cases h2 : y < bv
        case neg =>
          have k2 : ¬ ((y : Int) < (bv : Int)) := by omega
          have hpa := HPA.out
          have hpb := HPB.out
          have HN2 : Hid (∀ t x, t < j + 1 → (sps U l)[t]? = some x → ¬ (x.1 ≤ y - K ∧ y - K < x.2)) := Lib.hid (fun t z ht hz => by
            by_cases e : t = j
            · subst e; rw [HSX.out] at hz; cases hz
              show ¬ (pa ≤ y - K ∧ y - K < pb); omega
            · exact HIN.out t z (by omega) hz)
          clear hpa hpb
          go_wp2_with fail
          go_roundw
          case rel => exact ⟨j + 1, y, by omega, by go_num, rfl, hyK, hym, HYM, HN2, B8.out⟩
          case measure => simp [intOf]; omega
        case pos =>
        have k2 : ((y : Int) < (bv : Int)) := by omega
        have hpa := HPA.out
        have hpb := HPB.out
        have HN2 : Hid (∀ t x, t < j + 1 → (sps U l)[t]? = some x → ¬ (x.1 ≤ bv - K ∧ bv - K < x.2)) := Lib.hid (fun t z ht hz => by
          by_cases e : t = j
          · subst e; rw [HSX.out] at hz; cases hz
            show ¬ (pa ≤ bv - K ∧ bv - K < pb); omega
          · have := HAB.out t z (by omega) hz; omega)
        have hb1 : K ≤ bv := by omega
        have hb2 : bv ≤ m := by omega
        have HYM2 : Hid (y1 = m → bv = m) := Lib.hid (fun h => by have := HYM.out h; omega)
        clear hpa hpb
        go_wp2_with fail
        go_roundw
        case rel => exact ⟨j + 1, bv, by omega, by go_num, rfl, hb1, hb2, HYM2, HN2, B8.out⟩
        case measure => simp [intOf]; omega
      case neg =>
        obtain rfl : j = l.length := by omega
        have j1 : ¬ ((l.length : Int) < (l.length : Int)) := by omega
        obtain ⟨ack, hack⟩ : ∃ z, 7 + y = z := ⟨_, rfl⟩
        have w1 : IntKind.u32.wrap (y : Int) = (y : Int) := by rw [IntKind.wrap_u32]; omega
        have w2 : IntKind.u32.wrap ((7 : Int) + (y : Int)) = (ack : Int) := by rw [IntKind.wrap_u32]; omega
        have hpa : pl U ack = y - K := by rw [HU.out, ← hack]; exact pl7 hyK (by omega)
        have HACK := Lib.hid hack
        have HPA := Lib.hid hpa
        have hackb : ack < 4294967296 := by omega
        have PAC := Lib.hid (ack_any U X7 hh p l k ack a7 fl c7 wr hUb hX7b (O7.out.sts encB) (by omega) F7.out HFL.out (by omega))
        have HIN2 : Hid (∀ z ∈ sps U l, ¬ (z.1 ≤ pl U ack ∧ pl U ack < z.2)) := Lib.hid (fun z hz => by
          obtain ⟨t, ht⟩ := List.getElem?_of_mem hz
          have hlt : t < l.length := by have := (List.getElem?_eq_some_iff.1 ht).1; rwa [sps_len] at this
          rw [HPA.out]; exact HIN.out t z hlt ht)
        clear hack hpa HIN
        go_wp2_with fail
        refine PAC.out.mono ?_
        rintro e W1 ⟨⟨E, u8, x8, h8, l8, n8, a8, c8, rfl, hAI, hO⟩, hB⟩
        have hE : E = 0 := by
          rcases hAI with ⟨h, _⟩ | ⟨_, h, _⟩ | ⟨_, _, h, _⟩
          · exact absurd HOK.out h
          · rw [HPA.out, HPX.out] at h; omega
          · exact h
        subst hE
        obtain ⟨_, hu8, hx8, hh8, _⟩ := ack_af hUb HFL.out hAI
        have hu8 := hu8.symm
        have hx8 := hx8.symm
        subst hu8
        subst hx8
        have hn8 := ack_sum hUb hackb HFL.out hAI HIN2.out
        have HN8 := Lib.hid hn8
        have HOK8 := Lib.hid (ack_next hUb hX7b hackb HFL.out hAI)
        have HSL8 := Lib.hid (ack_small hAI)
        have hl8 := ack_len hAI
        have h8b : h8 < 4294967296 := by rw [hh8]; exact Nat.mod_lt _ (by decide)
        have hn8p : 0 ≤ n8 := hn8.2.1
        have hpy : pl ack X7 = m - y := by rw [← HACK.out, ← HX7.out]; exact pl7 hym hm3
        obtain ⟨_, _, _, ok8⟩ := okS_iff.1 HOK8.out
        rw [hpy] at ok8
        have hob8 := oct_ok (sps ack l8) 0 ok8 (Nat.zero_le _)
        have hn8a := hn8.1
        rw [HPA.out] at hn8a
        have hsm0 := HSM.out
        have hsma : 0 ≤ sm ∧ sm ≤ 3000 := by omega
        have hn8b : n8 ≤ 3000 := by omega
        obtain ⟨hsm1, hsm2⟩ := hsma
        have HSN : Hid (sm + n8 = (y : Int) + oct (sps ack l8)) := Lib.hid (by omega)
        have HD8 : Hid ((ks.length < i + 1 ∨ 40 ≤ i + 1) → y = m ∧ l8 = []) := Lib.hid (fun h => by
          have h1 := HYM.out (HY1.out (by omega))
          exact ⟨h1, HN8.out.2.2 (by rw [HPA.out, HPX.out, h1])⟩)
        clear hAI hh8 hn8 PAC hpy ok8 hob8 hn8a hsm0
        have hgs7 : gs < wr.heap.size := blk_lt S7.out
        have S9 := Lib.hid ((hB.block _ (blk_lt S7.out)).trans S7.out)
        have Q9 := Lib.hid (Q7.out.trans (hB.mono Q7.out.size))
        have HPG9 := Lib.hid (fun q (e : (Value.slice a8 l8.length c8).ownBlock = some q) => show q ≠ gs by have := (hO.ownB q e).1; omega)
        go_upto_region 26 with fail
        have hb1 := (Below.refl W1.heap.size W1).alloc (Nat.le_refl _) (.cells #[.int .u32 (ack : Nat), .int .u32 (X7 : Nat), .int .u32 (h8 : Nat), .slice a8 l8.length c8] 26)
        have T10 := Lib.hid (blk_new W1 (.cells #[.int .u32 (ack : Nat), .int .u32 (X7 : Nat), .int .u32 (h8 : Nat), .slice a8 l8.length c8] 26))
        have S10 := Lib.hid ((hb1.block _ (blk_lt S9.out)).trans S9.out)
        have O10 := Lib.hid (hO.below hb1)
        have Q10 := Lib.hid (Q9.out.trans (hb1.mono Q9.out.size))
        clear hB hO hb1 s0 s1 s2 s3 S7 O7 F7 B7 Q7 S9 Q9
        obtain ⟨gT, hgT⟩ : ∃ q, W1.heap.size = q := ⟨_, rfl⟩
        generalize W1.alloc (.cells #[.int .u32 (ack : Nat), .int .u32 (X7 : Nat), .int .u32 (h8 : Nat), .slice a8 l8.length c8] 26) = W2 at T10 S10 O10 Q10 ⊢
        rw [hgT] at T10 ⊢
        clear hgT
        go_wp2_with fail
        refine (num_any _ _).mono ?_
        rintro e w' ⟨rfl, rfl⟩
        have k1 : ¬ (n8 < 0) := by omega
        have t0 := blk_cell T10.out 0
        have t1' := blk_cell T10.out 1
        have t2' := blk_cell T10.out 2
        have t3 := blk_cell T10.out 3
        have hgz := Q10.out.size
        go_wp2_with (first
          | ((with_reducible show wpList _ _ _ _ _ _); refine wpList_store_blk rowPS (t := 26) (w := W2) rfl (.tmp 7) (.tmp 137) rfl gs #[.int .u32 (U : Nat), .int .u32 (X7 : Nat), .int .u32 (hh : Nat), .slice p l.length k] #[.int .u32 (ack : Nat), .int .u32 (X7 : Nat), .int .u32 (h8 : Nat), .slice a8 l8.length c8] rfl rfl S10.out rfl rfl (by simp [Value.oneCell']) ?_; intro V9 hb9 hg9; have SB9 := Lib.hid hb9; have O11 := Lib.hid (O10.out.grown hg9 (fun q e e2 => HPG9.out q (by rw [e]; rfl) (Option.some.inj e2))); have Q11 := Lib.hid (Q10.out.grown hg9 hgz (fun q e => by have := Option.some.inj e; omega)); clear hb9 hg9)
          | fail)
        go_roundw
        case rel => exact ⟨i + 1, y, ack, sm + n8, h8, l8, a8, c8, by omega, by go_num, rfl, hym, by omega, h8b, HACK.out.symm, HOK8, HSL8, HSN, HD8, SB9.out, O11.out.mono (Nat.zero_le _), HPG9, Q11.out⟩
        case measure => simp [intOf]; omega

theorem own : ownKnob Try.prog.godebug = none := by kernel_rfl
theorem laidOut : laidOutB Try.prog = true := by kernel_rfl

set_option maxRecDepth 100000 in
set_option maxHeartbeats 2000000 in
theorem lifted (os : Os) (started : os.Started) (H : Type) (enc : TypeId × Value → H) :
    ReturnsInHanded {} Try.checked os 6 .any (Rows.scoreboardCountsSpec.pre6 enc Try.prog Try.f6 Rows.scoreboardCountsRow.domain false) (Rows.scoreboardCountsSpec.post enc Try.prog Try.f6 false true false false) := by
  refine returnsInHanded_of_change_sized (C := Try.checked) own started (by kernel_rfl) Try.func6
    (ChangeSpec.witness6 (enc := enc) (C := Try.checked) false ⟨#[], #[.int .i64 0, .slice none 0 0, .slice none 0 0], []⟩ 8 (by kernel_rfl) (by kernel_rfl) (by kernel_rfl) (by kernel_rfl)) ?_
  intro W base args ds gs before hval0 hW hcnd hsz0 _
  have hval : ∀ (j : Nat) t v, Try.f6.params[j]? = some t → args[j]? = some v → Value.okWide Try.prog W .any base t v := hval0
  have hsz : (DataW.weightsEach Try.prog (Try.f6.params.toList ++ Rows.scoreboardCountsSpec.plain.varTypes Try.prog) (ds ++ gs)).all (· ≤ reachBytes) = true := hsz0
  have hW' := hW
  obtain ⟨p, q, hA0, hV, rfl, hfz, hnd⟩ := hW
  have hA : DataW.TrodAll enc Try.prog W 0 (fun _ => true) true Try.f6.params.toList args.toList ds p := hA0
  rw [Try.params6] at hA hval hsz
  obtain ⟨v0, vs0, d0, ds0, p0, q0, hargs, rfl, rfl, h0, r0⟩ := trodAll_cons hA
  obtain ⟨v1, vs1, d1, ds1, p1, q1, rfl, rfl, rfl, h1, r1⟩ := trodAll_cons r0
  obtain ⟨v2, vs2, d2, ds2, p2, q2, rfl, rfl, rfl, h2, r2⟩ := trodAll_cons r1
  obtain ⟨rfl, rfl, rfl⟩ := trodAll_nil r2
  obtain rfl : args = #[v0, v1, v2] := by cases args; simp_all
  obtain ⟨rfl, rfl⟩ := trodVars_none hV
  obtain ⟨a0, rfl, rfl, rfl, w0⟩ := open_int Try.underlying3 (hval 0 3 v0 rfl rfl) h0
  obtain ⟨a1, len1, cap1, rfl⟩ := okWide_slice Try.underlying66 (hval 1 66 v1 rfl rfl)
  have k1 := h1
  have lt1 : ∀ x ∈ p1, x.block < W.heap.size := by obtain ⟨m, hm⟩ := k1; exact DataW.trod_lt m _ _ _ hm
  obtain ⟨a2, len2, cap2, rfl⟩ := okWide_slice Try.underlying23 (hval 2 23 v2 rfl rfl)
  have k2 := h2
  have lt2 : ∀ x ∈ p2, x.block < W.heap.size := by obtain ⟨m, hm⟩ := k2; exact DataW.trod_lt m _ _ _ hm
  obtain ⟨xs1, hxl1, hbt1, hcap1, hre1⟩ : ∃ xs : List Int, xs.length = len1 ∧ Its W a1 xs ∧ (a1 = none → cap1 = 0) ∧ xs.length ≤ 17592186043904 := by
    obtain ⟨fuel, hf⟩ := h1
    rcases open_ints Try.underlying66 Try.underlying3 (by kernel_rfl) hf with ⟨hcs, _⟩ | ⟨x, l, c, zs, hcs, _, hl, hm, hz, hd, hcell, hwz⟩
    · simp [Value.cells] at hcs
      obtain ⟨rfl, rfl, rfl⟩ := hcs
      exact ⟨[], rfl, ⟨(fun x h => by cases h), .inl rfl⟩, fun _ => rfl, by simp⟩
    · simp [Value.cells] at hcs
      obtain ⟨rfl, rfl, rfl⟩ := hcs
      have hz' : zs.length = cap1 := by simpa using hz
      obtain ⟨xs, h1, h2⟩ := its_of_ints hl hz' hcell hwz
      have hd' := (Prod.mk.inj hd).1
      have hw := sized_slice hsz (j := 1) (t := 66) (e := 3) rfl (by rw [hd']; rfl) Try.underlying66
      rw [bytes8] at hw
      simp only [lits, List.length_map, List.length_take, List.length_drop, reachBytes] at hw
      exact ⟨xs, h1, h2, (fun h => by cases h), by omega⟩
  obtain ⟨xs2, hxl2, hbt2, hcap2, hre2⟩ : ∃ xs : List Bk, xs.length = len2 ∧ Sts 2 Bk.cells Bk.ok W a2 xs ∧ (a2 = none → cap2 = 0) ∧ xs.length ≤ 17592186043904 := by
    obtain ⟨fuel, hf⟩ := h2
    obtain ⟨x, rs, c, hv, hs, hnc, hlc, hq⟩ := open_Bks (c := .slice a2 len2 cap2) hf
    simp only [Value.slice.injEq] at hv
    obtain ⟨rfl, rfl, rfl⟩ := hv
    have hw := sts_reach Try.underlying23 hq (fun n hn => by simpa using List.all_eq_true.1 hsz _ (DataW.weights_mem_each (j := 2) (t := 23) rfl rfl n hn))
    rw [show Try.prog.bytesOf 38 = 8 from by kernel_rfl] at hw
    simp only [reachBytes] at hw
    exact ⟨rs, rfl, hs, hnc, by omega⟩
  clear hA0 hval0 hsz hsz0
  obtain ⟨lo0, hi0⟩ := bounds_i64 w0
  subst hxl1
  subst hxl2
  refine (walk a0 a1 xs1 cap1 a2 xs2 cap2 W lo0 hi0 hbt1 hcap1 hre1 hbt2 hcap2 hre2).mono fun e W' ⟨he, bel⟩ => ?_
  subst he
  exact ⟨_, rfl, _, _, _, [], _, [], hW', trodAll_mk1 (shut_bool Try.underlying4 _), (trodAll_cons_mk (shut_int Try.underlying3 w0) (trodAll_cons_mk (Below.trod laidOut (by kernel_rfl) (of_decide_eq_true (by kernel_rfl)) k1 bel lt1) (trodAll_cons_mk (Below.trod laidOut (by kernel_rfl) (of_decide_eq_true (by kernel_rfl)) k2 bel lt2) trodAll_mk0))), rfl, bel.frame _, fun h => by cases h⟩

theorem over : Rows.scoreboardCountsRow.holds Try.pinned (OpenSpec.ofChange Rows.scoreboardCountsSpec) :=
  OpenClaim.holds_of_wide 6 Try.f6 rfl rfl rfl rfl rfl rfl rfl ⟨rfl, rfl, rfl, rfl, rfl⟩ rfl rfl rfl rfl rfl (by kernel_rfl) Try.func6 (by kernel_rfl)
    (of_decide_eq_true (by kernel_rfl)) (by unfold Func.isWrapper; first | (rw [if_pos (by decide +kernel)]; kernel_rfl) | (rw [if_neg (by decide +kernel)]; exact ⟨rfl, rfl⟩))
    (fun os started H enc _ => lifted os started H enc)

end Go.Proofs.Ytcachmjcninkbaa.scoreboardCounts
namespace Go.Proofs.Ytcachmjcninkbaa
/-- The statement. -/
theorem scoreboardCounts_holds : Rows.ScoreboardCountsSaid := scoreboardCounts.over
#print axioms scoreboardCounts_holds
end Go.Proofs.Ytcachmjcninkbaa
