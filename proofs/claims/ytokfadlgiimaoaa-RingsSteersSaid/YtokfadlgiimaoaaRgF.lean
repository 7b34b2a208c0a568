/- New: a card of settings that may be; none of others. -/
import Derived.Test.YtokfadlgiimaoaaRgE
namespace Go.Proofs.Ytokfadlgiimaoaa
open Go.RowKit Go.Sort

set_option maxRecDepth 100000 in
set_option maxHeartbeats 1000000 in
theorem new_bad (ka : Option Addr) (ks : List Nat) (kc : Nat) (ta : Option Addr) (ts : List Int) (tc : Nat) (sz ev : Int) (w : World) (ht : Its w ta ts) (hl : ts.length ≤ 9223372036854775807) (hc : chkE ks ts sz ev ≠ 0) :
    Calls Try.prog 12 #[.agg #[.slice ka ks.length kc, .slice ta ts.length tc, .int .i64 sz, .int .i64 ev]] w fun e w' => e = .returned (.tuple #[.pointer none, .int .i64 (chkE ks ts sz ev)]) ∧ Below w.heap.size w w' := by
  have bw := (Below.refl w.heap.size w).alloc (Nat.le_refl _) (.cells #[.slice ka ks.length kc, .slice ta ts.length tc, .int .i64 sz, .int .i64 ev] 29)
  have HC := Lib.hid (check_any8 ka ks kc ta ts tc sz ev _ (ht.below bw) hl)
  have BW := Lib.hid bw
  clear ht bw
  generalize chkE ks ts sz ev = c at HC hc ⊢
  have e1 : (c != 0) = true := by rw [bne_iff_ne]; exact hc
  have e2 : (c == 0) = false := by rw [beq_eq_false_iff_ne]; exact hc
  go_enter Try.func12, Try.ntmps12
  go_wp2_with (first
    | (go_at_call 23; refine HC.out.mono ?_; rintro e V1 ⟨rfl, b⟩; have E1 := Lib.hid (BW.out.trans (b.mono BW.out.size)); clear b)
    | fail)
  go_ret2
  exact ⟨rfl, E1.out⟩

theorem zero_rings : ∀ j, j < 16 → Try.zeroCells57[4 + 4 * j + 1]? = some (.slice none 0 0) ∧ Try.zeroCells57[4 + 4 * j + 2]? = some (.int .i64 0) ∧ Try.zeroCells57[4 + 4 * j + 3]? = some (.int .i64 0)
  | 0, _ => ⟨rfl, rfl, rfl⟩
  | 1, _ => ⟨rfl, rfl, rfl⟩
  | 2, _ => ⟨rfl, rfl, rfl⟩
  | 3, _ => ⟨rfl, rfl, rfl⟩
  | 4, _ => ⟨rfl, rfl, rfl⟩
  | 5, _ => ⟨rfl, rfl, rfl⟩
  | 6, _ => ⟨rfl, rfl, rfl⟩
  | 7, _ => ⟨rfl, rfl, rfl⟩
  | 8, _ => ⟨rfl, rfl, rfl⟩
  | 9, _ => ⟨rfl, rfl, rfl⟩
  | 10, _ => ⟨rfl, rfl, rfl⟩
  | 11, _ => ⟨rfl, rfl, rfl⟩
  | 12, _ => ⟨rfl, rfl, rfl⟩
  | 13, _ => ⟨rfl, rfl, rfl⟩
  | 14, _ => ⟨rfl, rfl, rfl⟩
  | 15, _ => ⟨rfl, rfl, rfl⟩
  | n + 16, h => absurd h (by omega)
/-- A card's cells ahead of the rings' sizes. -/
structure Base (b : Array Value) (k t : Value) (sz ev : Int) : Prop where
  size : b.size = 74
  c0 : b[0]? = some k
  c1 : b[1]? = some t
  c2 : b[2]? = some (.int .i64 sz)
  c3 : b[3]? = some (.int .i64 ev)
  c68 : b[68]? = some (.int .i64 sz)
  c69 : b[69]? = some (.slice none 0 0)
  c70 : b[70]? = some (.int .i64 0)
  c71 : b[71]? = some (.int .i64 0)
  c72 : b[72]? = some (.int .i64 0)
  c73 : b[73]? = some (.int .i64 0)
  ring : ∀ j, j < 16 → b[4 + 4 * j + 1]? = some (.slice none 0 0) ∧ b[4 + 4 * j + 2]? = some (.int .i64 0) ∧ b[4 + 4 * j + 3]? = some (.int .i64 0)
theorem zero_size : Try.zeroCells57.size = 74 := by kernel_rfl
set_option maxRecDepth 100000 in
theorem base_ok (k t : Value) (sz ev : Int) (b : Array Value) (h : ((((((((Try.zeroCells57.setIfInBounds 0 k).setIfInBounds 1 t).setIfInBounds 2 (.int .i64 sz)).setIfInBounds 3 (.int .i64 ev)).setIfInBounds 68 (.int .i64 sz)).setIfInBounds 69 (.slice none 0 0)).setIfInBounds 70 (.int .i64 0)).setIfInBounds 71 (.int .i64 0)) = b) : Base b k t sz ev := by
  subst h
  refine ⟨by simp only [Array.size_setIfInBounds]; exact zero_size, by rw [Array.getElem?_setIfInBounds_ne (by omega), Array.getElem?_setIfInBounds_ne (by omega), Array.getElem?_setIfInBounds_ne (by omega), Array.getElem?_setIfInBounds_ne (by omega), Array.getElem?_setIfInBounds_ne (by omega), Array.getElem?_setIfInBounds_ne (by omega), Array.getElem?_setIfInBounds_ne (by omega), Array.getElem?_setIfInBounds_self_of_lt (by (try simp only [Array.size_setIfInBounds]); rw [zero_size]; omega)], by rw [Array.getElem?_setIfInBounds_ne (by omega), Array.getElem?_setIfInBounds_ne (by omega), Array.getElem?_setIfInBounds_ne (by omega), Array.getElem?_setIfInBounds_ne (by omega), Array.getElem?_setIfInBounds_ne (by omega), Array.getElem?_setIfInBounds_ne (by omega), Array.getElem?_setIfInBounds_self_of_lt (by (try simp only [Array.size_setIfInBounds]); rw [zero_size]; omega)], by rw [Array.getElem?_setIfInBounds_ne (by omega), Array.getElem?_setIfInBounds_ne (by omega), Array.getElem?_setIfInBounds_ne (by omega), Array.getElem?_setIfInBounds_ne (by omega), Array.getElem?_setIfInBounds_ne (by omega), Array.getElem?_setIfInBounds_self_of_lt (by (try simp only [Array.size_setIfInBounds]); rw [zero_size]; omega)], by rw [Array.getElem?_setIfInBounds_ne (by omega), Array.getElem?_setIfInBounds_ne (by omega), Array.getElem?_setIfInBounds_ne (by omega), Array.getElem?_setIfInBounds_ne (by omega), Array.getElem?_setIfInBounds_self_of_lt (by (try simp only [Array.size_setIfInBounds]); rw [zero_size]; omega)], by rw [Array.getElem?_setIfInBounds_ne (by omega), Array.getElem?_setIfInBounds_ne (by omega), Array.getElem?_setIfInBounds_ne (by omega), Array.getElem?_setIfInBounds_self_of_lt (by (try simp only [Array.size_setIfInBounds]); rw [zero_size]; omega)], by rw [Array.getElem?_setIfInBounds_ne (by omega), Array.getElem?_setIfInBounds_ne (by omega), Array.getElem?_setIfInBounds_self_of_lt (by (try simp only [Array.size_setIfInBounds]); rw [zero_size]; omega)], by rw [Array.getElem?_setIfInBounds_ne (by omega), Array.getElem?_setIfInBounds_self_of_lt (by (try simp only [Array.size_setIfInBounds]); rw [zero_size]; omega)], by rw [Array.getElem?_setIfInBounds_self_of_lt (by (try simp only [Array.size_setIfInBounds]); rw [zero_size]; omega)], by rw [Array.getElem?_setIfInBounds_ne (by omega), Array.getElem?_setIfInBounds_ne (by omega), Array.getElem?_setIfInBounds_ne (by omega), Array.getElem?_setIfInBounds_ne (by omega), Array.getElem?_setIfInBounds_ne (by omega), Array.getElem?_setIfInBounds_ne (by omega), Array.getElem?_setIfInBounds_ne (by omega), Array.getElem?_setIfInBounds_ne (by omega)]; rfl, by rw [Array.getElem?_setIfInBounds_ne (by omega), Array.getElem?_setIfInBounds_ne (by omega), Array.getElem?_setIfInBounds_ne (by omega), Array.getElem?_setIfInBounds_ne (by omega), Array.getElem?_setIfInBounds_ne (by omega), Array.getElem?_setIfInBounds_ne (by omega), Array.getElem?_setIfInBounds_ne (by omega), Array.getElem?_setIfInBounds_ne (by omega)]; rfl, fun j hj => ?_⟩
  have hn : ∀ n, 4 ≤ n ∧ n < 68 → (((((((((Try.zeroCells57.setIfInBounds 0 k).setIfInBounds 1 t).setIfInBounds 2 (.int .i64 sz)).setIfInBounds 3 (.int .i64 ev)).setIfInBounds 68 (.int .i64 sz)).setIfInBounds 69 (.slice none 0 0)).setIfInBounds 70 (.int .i64 0)).setIfInBounds 71 (.int .i64 0)))[n]? = Try.zeroCells57[n]? := fun n h => by
    rw [Array.getElem?_setIfInBounds_ne (by omega), Array.getElem?_setIfInBounds_ne (by omega), Array.getElem?_setIfInBounds_ne (by omega), Array.getElem?_setIfInBounds_ne (by omega), Array.getElem?_setIfInBounds_ne (by omega), Array.getElem?_setIfInBounds_ne (by omega), Array.getElem?_setIfInBounds_ne (by omega), Array.getElem?_setIfInBounds_ne (by omega)]
  rw [hn _ (by omega), hn _ (by omega), hn _ (by omega)]
  exact zero_rings j hj

set_option maxRecDepth 100000 in
set_option maxHeartbeats 4000000 in
theorem new_okF (ka : Option Addr) (ks : List Nat) (kc : Nat) (ta : Option Addr) (ts : List Int) (tc : Nat) (sz : Nat) (ev : Int) (w : World) (hk : Bts w ka ks) (hkn : ka = none → kc = 0) (ht : Its w ta ts) (htn : ta = none → tc = 0) (hl : ks.length = 40) (htl : ts.length = 128) (hz : 1 ≤ sz ∧ sz ≤ 4096) (hc : chkE ks ts sz ev = 0) :
    Calls Try.prog 12 #[.agg #[.slice ka ks.length kc, .slice ta ts.length tc, .int .i64 (sz : Nat), .int .i64 ev]] w fun e w' => (∃ g K own, e = .returned (.tuple #[.pointer (some ⟨g, 0, none⟩), .int .i64 0]) ∧ CardS w' g w.heap.size sz ev 0 0 K (fun _ => []) own ∧ (∀ b, own b → w.heap.size ≤ b) ∧ K.ks = ks ∧ K.ts = ts ∧ ks.length ≤ K.kc ∧ K.kc ≤ 9223372036854775807 ∧ (∀ b off, K.ka = some ⟨b, off, none⟩ → w.heap.size ≤ b) ∧ ∀ b off, K.ta = some ⟨b, off, none⟩ → w.heap.size ≤ b) ∧ Below w.heap.size w w' := by
  have bw := (Below.refl w.heap.size w).alloc (Nat.le_refl _) (.cells #[.slice ka ks.length kc, .slice ta ts.length tc, .int .i64 (sz : Nat), .int .i64 ev] 29)
  have HC := Lib.hid (check_any8 ka ks kc ta ts tc sz ev _ (ht.below bw) (by omega))
  rw [hc] at HC
  have BW := Lib.hid bw
  have K0 := Lib.hid (blk_new w (.cells #[.slice ka ks.length kc, .slice ta ts.length tc, .int .i64 (sz : Nat), .int .i64 ev] 29))
  have hz0 : Hid (w.heap.size < (w.alloc (.cells #[.slice ka ks.length kc, .slice ta ts.length tc, .int .i64 (sz : Nat), .int .i64 ev] 29)).heap.size) := Lib.hid (by rw [World.size_alloc]; exact Nat.lt_succ_self _)
  have HK := Lib.hid hk
  have HT := Lib.hid ht
  have HKN := Lib.hid hkn
  have HTN := Lib.hid htn
  have HL := Lib.hid hl
  have HTL := Lib.hid htl
  have HZ := Lib.hid hz
  clear hk hkn ht htn hl htl hz hc bw
  go_enter Try.func12, Try.ntmps12
  go_upto_region 4 with (first
    | (go_at_call 23; refine HC.out.mono ?_; rintro e V1 ⟨rfl, b⟩; have E1 := Lib.hid (BW.out.trans (b.mono BW.out.size)); have K1 := Lib.hid ((b.block _ hz0.out).trans K0.out); have z1 := Nat.lt_of_lt_of_le hz0.out b.size; clear b)
    | fail)
  have c0 := blk_cell K1.out 0
  have f0 := blk_free K1.out 0
  have HCB := Lib.hid (clone_bytes ka ks kc V1 (HK.out.below E1.out) HKN.out (by rw [HL.out]; omega))
  go_upto_region 5 with (first
    | (go_at_call 31; refine HCB.out.mono ?_; rintro e V2 ⟨⟨a1, c1, rfl, O⟩, b⟩; have O2 := Lib.hid O; have E2 := Lib.hid (E1.out.trans (b.mono E1.out.size)); have K2 := Lib.hid ((b.block _ z1).trans K1.out); have z2 := Nat.lt_of_lt_of_le z1 b.size; clear O b c0 f0; have c0 := blk_cell K2.out 0; have f0 := blk_free K2.out 0)
    | fail)
  have g3 := Lib.hid (gset V2 w.heap.size 0 (.slice a1 ks.length c1))
  have K3 : Hid ((V2.setCell ⟨w.heap.size, 0, none⟩ (.slice a1 ks.length c1)).heap[w.heap.size]? = some (.cells #[.slice a1 ks.length c1, .slice ta ts.length tc, .int .i64 (sz : Nat), .int .i64 ev] 29 (0, 0))) := Lib.hid (blk_set K2.out 0 (.slice a1 ks.length c1))
  have O3 := Lib.hid (O2.out.kept g3.out z1)
  have E3 := Lib.hid (E2.out.grown g3.out E2.out.size (fun k e => by cases e; exact Nat.le_refl _))
  have z3 := Nat.lt_of_lt_of_le z2 g3.out.size
  have HZ12 : Hid (w.heap.size < V1.heap.size) := Lib.hid z1
  clear c0 f0 K1 K2 O2 E1 E2 g3 z2
  generalize V2.setCell ⟨w.heap.size, 0, none⟩ (.slice a1 ks.length c1) = V3 at K3 O3 E3 z3 ⊢
  have HO3 := Lib.hid (O3.out.fresh (W := V1) (Nat.le_refl _))
  have c1' := blk_cell K3.out 1
  have f1' := blk_free K3.out 1
  have HCI := Lib.hid (clone_ints ta ts tc V3 (HT.out.below E3.out) HTN.out (by rw [HTL.out]; omega))
  go_upto_region 6 with (first
    | (go_at_call 32; refine HCI.out.mono ?_; rintro e V4 ⟨⟨a2, c2, rfl, O⟩, b⟩; have P4 := Lib.hid O; have O4 := Lib.hid (O3.out.below b); have E4 := Lib.hid (E3.out.trans (b.mono E3.out.size)); have K4 := Lib.hid ((b.block _ z3).trans K3.out); have z4 := Nat.lt_of_lt_of_le z3 b.size; clear O b c1' f1'; have c1' := blk_cell K4.out 1; have f1' := blk_free K4.out 1)
    | fail)
  have g5 := Lib.hid (gset V4 w.heap.size 1 (.slice a2 ts.length c2))
  have K5 : Hid ((V4.setCell ⟨w.heap.size, 1, none⟩ (.slice a2 ts.length c2)).heap[w.heap.size]? = some (.cells #[.slice a1 ks.length c1, .slice a2 ts.length c2, .int .i64 (sz : Nat), .int .i64 ev] 29 (0, 0))) := Lib.hid (blk_set K4.out 1 (.slice a2 ts.length c2))
  have O5 := Lib.hid (O4.out.kept g5.out HZ12.out)
  have P5 := Lib.hid (P4.out.grown g5.out (fun g e e2 => by
    have h1 := (P4.out.ownB g (by rw [e]; rfl)).1
    have h2 := Option.some.inj e2
    omega))
  have E5 := Lib.hid (E4.out.grown g5.out E4.out.size (fun k e => by cases e; exact Nat.le_refl _))
  have z5 := Nat.lt_of_lt_of_le z4 g5.out.size
  have HZ34 : Hid (w.heap.size < V3.heap.size) := Lib.hid z3
  clear c1' f1' K3 K4 O3 O4 P4 E3 E4 g5 z3 z4
  generalize V4.setCell ⟨w.heap.size, 1, none⟩ (.slice a2 ts.length c2) = V5 at K5 O5 P5 E5 z5 ⊢
  have c0 := blk_cell K5.out 0
  have c1' := blk_cell K5.out 1
  have c2' := blk_cell K5.out 2
  have c3' := blk_cell K5.out 3
  go_upto_region 7 with fail
  clear c0 c1' c2' c3'
  obtain ⟨base, hbase⟩ : ∃ b, ((((((((Try.zeroCells57.setIfInBounds 0 (.slice a1 ks.length c1)).setIfInBounds 1 (.slice a2 ts.length c2)).setIfInBounds 2 (.int .i64 (sz : Nat))).setIfInBounds 3 (.int .i64 ev)).setIfInBounds 68 (.int .i64 (sz : Nat))).setIfInBounds 69 (.slice none 0 0)).setIfInBounds 70 (.int .i64 0)).setIfInBounds 71 (.int .i64 0)) = b := ⟨_, rfl⟩
  have HBase := Lib.hid (base_ok (.slice a1 ks.length c1) (.slice a2 ts.length c2) (sz : Nat) ev base hbase)
  change Code.wp _ _ _ _ (V5.alloc (.cells ((((((((Try.zeroCells57.setIfInBounds 0 (.slice a1 ks.length c1)).setIfInBounds 1 (.slice a2 ts.length c2)).setIfInBounds 2 (.int .i64 (sz : Nat))).setIfInBounds 3 (.int .i64 ev)).setIfInBounds 68 (.int .i64 (sz : Nat))).setIfInBounds 69 (.slice none 0 0)).setIfInBounds 70 (.int .i64 0)).setIfInBounds 71 (.int .i64 0)) 57))
  rw [hbase]
  clear hbase
  have ba := (Below.refl V5.heap.size V5).alloc (Nat.le_refl _) (.cells base 57)
  have G6 := Lib.hid (blk_new V5 (.cells base 57))
  have K6 := Lib.hid ((ba.block _ z5).trans K5.out)
  have O6 := Lib.hid (O5.out.below ba)
  have P6 := Lib.hid (P5.out.below ba)
  have E6 := Lib.hid (E5.out.trans (ba.mono E5.out.size))
  have hGz : Hid (w.heap.size < V5.heap.size) := Lib.hid z5
  have hOG : Hid (∀ b off, a1 = some ⟨b, off, none⟩ → V1.heap.size ≤ b ∧ b < V5.heap.size) := Lib.hid (O5.out.fresh (W := V1) (Nat.le_refl _))
  have hPG : Hid (∀ b off, a2 = some ⟨b, off, none⟩ → V3.heap.size ≤ b ∧ b < V5.heap.size) := Lib.hid (fun b off e => by
    rcases P5.out with ⟨h, _⟩ | ⟨g, h, hB, hr⟩
    · rw [h] at e; cases e
    · rw [h] at e; cases e; exact ⟨hB, (hr.lt _ rfl).2⟩)
  clear ba K5 O5 P5 E5 z5
  generalize V5.alloc (.cells base 57) = V6 at G6 K6 O6 P6 E6 ⊢
  generalize V5.heap.size = G at G6 hGz hOG hPG ⊢
  go_wp2
  go_loopw [6, 26] (fun _ iv wr => ∃ k : Nat, k ≤ 16 ∧ iv = .int .i64 k ∧ ∃ cs : Array Value, wr.heap[G]? = some (.cells cs 57 (0, 0)) ∧ cs.size = 74 ∧ (∀ n, cs[n]? = if n % 4 = 0 ∧ 4 ≤ n ∧ n < 4 + 4 * k then some (.int .i64 (sz : Nat)) else base[n]?) ∧ V6.grownBy wr (some G)) (fun _ iv _ => 16 - (intOf iv).toNat)
  case atStart => exact ⟨0, by omega, rfl, base, G6.out, HBase.out.size, fun n => by rw [if_neg (by omega)], World.grownBy.refl V6 _⟩
  case round =>
    obtain ⟨k, hk, rfl, cs, hg, hcs, hcell, hgr⟩ := hrel
    have HG := Lib.hid hg
    have HCS := Lib.hid hcs
    have HCE := Lib.hid hcell
    have HGR := Lib.hid hgr
    clear hg hcs hcell hgr
    by_cases hlt : k < 16
    · have i1 : (k : Int) < 16 := by omega
      have i0 : ¬ (k : Int) < 0 := by omega
      have K7 := Lib.hid ((HGR.out.block _ (blk_lt K6.out) (fun e => by have := Option.some.inj e; have := hGz.out; omega)).trans K6.out)
      have b2 := blk_cell K7.out 2
      obtain ⟨ov, hov⟩ : ∃ v, cs[4 + k * 4]? = some v := by
        have : 4 + k * 4 < cs.size := by rw [HCS.out]; omega
        exact ⟨_, Array.getElem?_eq_getElem this⟩
      have HOV := Lib.hid hov
      clear hov
      go_upto_region 10 with fail
      refine wp_region_quiet_tail [0, 1, 2, 3, 4, 5, 6, 7] 8 [] [_, _, _, _, _, _, _, _] [_] (by kernel_rfl) rfl rfl rfl (by kernel_rfl) ?_
      (try simp only [List.getElem_toArray]); (try simp only [List.getElem_cons_succ]); (try simp only [List.getElem_cons_zero])
      have q2 := cell_regrown b2
      repeat (go_big_quiet_step (fail))
      refine wpQuiet_nil ?_
      intro _ hw'
      obtain ⟨⟨dq, osq⟩, hw''⟩ := hw'
      subst hw''
      have D := below_regrown wr dq osq
      clear q2 b2
      dsimp only
      have G7 := Lib.hid ((D.block G (blk_lt HG.out)).trans HG.out)
      have E7 := Lib.hid (gtrans HGR.out (below_grown D (some G)))
      clear D HG HGR K7
      generalize grow (redrawn wr dq) osq = V7 at G7 E7 ⊢
      have cc := (blk_cell G7.out (4 + k * 4)).trans HOV.out
      have ff := blk_free G7.out (4 + k * 4)
      have W1 : IntKind.i64.wrap ((k : Int) + 1) = (k : Int) + 1 := IntWalk.i64_in _ ⟨by omega, by omega⟩
      have G8 := Lib.hid (blk_set G7.out (4 + k * 4) (.int .i64 (sz : Nat)))
      have E8 := Lib.hid (gtrans E7.out (gset V7 G (4 + k * 4) (.int .i64 (sz : Nat))))
      go_wp2
      go_roundw
      case rel =>
        refine ⟨k + 1, by omega, by go_num, _, G8.out, by rw [Array.size_setIfInBounds]; exact HCS.out, fun n => ?_, E8.out⟩
        by_cases e : n = 4 + k * 4
        · subst e
          rw [Array.getElem?_setIfInBounds_self_of_lt (by rw [HCS.out]; omega), if_pos (by omega)]
        · rw [Array.getElem?_setIfInBounds_ne (fun e2 => e e2.symm), HCE.out n]
          by_cases e2 : n % 4 = 0 ∧ 4 ≤ n ∧ n < 4 + 4 * k
          · rw [if_pos e2, if_pos (by omega)]
          · rw [if_neg e2, if_neg (by omega)]
      case measure => simp [intOf]; omega
    · obtain rfl : k = 16 := by omega
      have x1 : ∀ n, n % 4 ≠ 0 ∨ n < 4 ∨ 68 ≤ n → cs[n]? = base[n]? := fun n h => by rw [HCE.out n, if_neg (by omega)]
      have x2 : ∀ n, n % 4 = 0 → 4 ≤ n → n < 68 → cs[n]? = some (.int .i64 (sz : Nat)) := fun n h1 h2 h3 => by rw [HCE.out n, if_pos (by omega)]
      have hB := HBase.out
      have hzz := HZ.out
      have hGw := hGz.out
      have oth : ∀ b, b < V6.heap.size → b < G → wr.heap[b]? = V6.heap[b]? := fun b hb hlt => HGR.out.block b hb (fun e => by have := Option.some.inj e; omega)
      have hk1 : Bts wr a1 ks := bts_keep O6.out.bts HGR.out.size fun b off e hb => oth b hb (hOG.out b off e).2
      have hk2 : Its wr a2 ts := its_keep (P6.out.its HT.out.1) HGR.out.size fun b off e hb => oth b hb (hPG.out b off e).2
      have hl6 := blk_lt G6.out
      have hcard : CardS wr G w.heap.size sz ev 0 0 ⟨a1, ks, c1, a2, ts, c2⟩ (fun _ => []) (fun b => b = G) := by
        refine ⟨cs, fun _ => ⟨none, 0, [], 0, []⟩, ⟨⟨HG.out, HCS.out, Nat.le_of_lt hGw, hzz, fun j hj => ?_, fun j hj => rfl, (fun j hj k hk => by cases hk), (fun j hj x hx => by cases hx)⟩, (x1 0 (by omega)).trans hB.c0, (x1 1 (by omega)).trans hB.c1, (x1 2 (by omega)).trans hB.c2, (x1 3 (by omega)).trans hB.c3, (x1 72 (by omega)).trans hB.c72, (x1 73 (by omega)).trans hB.c73, hk1, hk2, fun b off e => ?_, fun b off e => ?_⟩, fun b => ⟨fun h => .inl h, fun h => ?_⟩⟩
        · by_cases hj16 : j < 16
          · obtain ⟨r1, r2, r3⟩ := hB.ring j hj16
            exact ⟨x2 _ (by omega) (by omega) (by omega), (x1 _ (by omega)).trans r1, (x1 _ (by omega)).trans r2, (x1 _ (by omega)).trans r3, Nat.zero_le _, by show 0 < sz; omega, .inl ⟨rfl, rfl, rfl, rfl, rfl⟩⟩
          · obtain rfl : j = 16 := by omega
            exact ⟨(x1 68 (by omega)).trans hB.c68, (x1 69 (by omega)).trans hB.c69, (x1 70 (by omega)).trans hB.c70, (x1 71 (by omega)).trans hB.c71, Nat.zero_le _, by show 0 < sz; omega, .inl ⟨rfl, rfl, rfl, rfl, rfl⟩⟩
        · have h1 := (hOG.out b off e).2
          have h2 := HGR.out.size
          refine ⟨by omega, fun h3 => ?_⟩
          rcases h3 with h3 | ⟨i, _, h3⟩
          · omega
          · cases h3
        · have h1 := (hPG.out b off e).2
          have h2 := HGR.out.size
          refine ⟨by omega, fun h3 => ?_⟩
          rcases h3 with h3 | ⟨i, _, h3⟩
          · omega
          · cases h3
        · rcases h with h | ⟨i, _, h⟩
          · exact h
          · cases h
      have hW : Below w.heap.size w wr := E6.out.grown HGR.out E6.out.size (fun k e => by cases e; exact Nat.le_of_lt hGw)
      have hcap := O6.out.capLe
      have HF := Lib.hid (And.intro hcard (And.intro hW hcap))
      have HGw := Lib.hid hGw
      clear hcard hW hcap hk1 hk2 oth hGw hzz hB x1 x2 hl6
      go_wp2
      go_ret2
      obtain ⟨f1, f2, f3, f4⟩ := HF.out
      exact ⟨⟨G, ⟨a1, ks, c1, a2, ts, c2⟩, fun b => b = G, rfl, f1, fun b hb => by rw [hb]; exact Nat.le_of_lt HGw.out, rfl, rfl, f3, f4, (fun b off e => Nat.le_trans (Nat.le_of_lt HZ12.out) (hOG.out b off e).1), fun b off e => Nat.le_trans (Nat.le_of_lt HZ34.out) (hPG.out b off e).1⟩, f2⟩
theorem new_ok (ka : Option Addr) (ks : List Nat) (kc : Nat) (ta : Option Addr) (ts : List Int) (tc : Nat) (sz : Nat) (ev : Int) (w : World) (hk : Bts w ka ks) (hkn : ka = none → kc = 0) (ht : Its w ta ts) (htn : ta = none → tc = 0) (hl : ks.length = 40) (htl : ts.length = 128) (hz : 1 ≤ sz ∧ sz ≤ 4096) (hc : chkE ks ts sz ev = 0) :
    Calls Try.prog 12 #[.agg #[.slice ka ks.length kc, .slice ta ts.length tc, .int .i64 (sz : Nat), .int .i64 ev]] w fun e w' => (∃ g K own, e = .returned (.tuple #[.pointer (some ⟨g, 0, none⟩), .int .i64 0]) ∧ CardS w' g w.heap.size sz ev 0 0 K (fun _ => []) own ∧ (∀ b, own b → w.heap.size ≤ b) ∧ K.ks = ks ∧ K.ts = ts ∧ ks.length ≤ K.kc ∧ K.kc ≤ 9223372036854775807) ∧ Below w.heap.size w w' := by
  refine (new_okF ka ks kc ta ts tc sz ev w hk hkn ht htn hl htl hz hc).mono ?_
  rintro e w' ⟨⟨g, K, own, h1, h2, h3, h4, h5, h6, h7, _⟩, h8⟩
  exact ⟨⟨g, K, own, h1, h2, h3, h4, h5, h6, h7⟩, h8⟩
end Go.Proofs.Ytokfadlgiimaoaa
