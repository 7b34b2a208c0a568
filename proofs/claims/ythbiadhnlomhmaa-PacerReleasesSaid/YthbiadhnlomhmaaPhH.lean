/- The pacer: Release. -/
import Derived.Test.YthbiadhnlomhmaaPhG
namespace Go.Proofs.Ythbiadhnlomhmaa
open Go.RowKit Go.Proofs.Ythbiadhnlomhmaa.Ph Go.Proofs.Ythbiadhnlomhmaa.Pc

/-- Packets by their numbers, told in order. -/
def told (t m : Nat) : List Int := (List.range' t m).map fun (i : Nat) => (i : Int)
theorem told_len (t m : Nat) : (told t m).length = m := by simp [told]
theorem told_succ (t m : Nat) : told t (m + 1) = told t m ++ [((t + m : Nat) : Int)] := by
  unfold told
  rw [List.range'_concat]; simp
theorem OwnR.keepLow {α : Type} {e : TypeId} {m : Nat} {cells : α → List Value} {B n cap : Nat} {a : Option Addr} {xs : List α} {w w' : World} (h : OwnR e m cells B a xs cap w) (hb : Below n w w') (hl : ∀ g, a = some ⟨g, 0, none⟩ → g < n) : OwnR e m cells B a xs cap w' :=
  h.keepRow fun g _ ha ho => (hb.block g (hl g ha)).trans ho

/-- What Release tells, and leaves. -/
def PRel (D : Nat → Int) (B p : Nat) (nx ct : Int) (a : Option Addr) (cap t k : Nat) (u : Int) (w : World) (e : Ending) (w' : World) : Prop := ∃ (m : Nat) (oa : Option Addr) (oc : Nat) (zs : List Nat), m ≤ k ∧ (∀ i, i < m → D (t + i) ≤ u) ∧ (m = k ∨ u < D (t + m)) ∧ e = .returned (.tuple #[.slice oa m oc, .int .i64 0]) ∧ OwnR 3 1 IC w.heap.size oa (told t m) oc w' ∧ w'.heap[p]? = some (.cells #[.bool true, .int .i64 nx, .int .i64 u, .int .i64 ct, .slice a zs.length cap] 47 (0, 0)) ∧ OwnR 51 3 (PKC D) B a zs cap w' ∧ Heap zs.length zs ∧ zs.Perm (List.range' (t + m) (k - m)) ∧ Turns (fun b => b = p ∨ a = some ⟨b, 0, none⟩) w w'

/-- What only makes or turns memory above what was there. -/
theorem Turns.low {S : Nat → Prop} {W w w' : World} (ht : Turns S W w) (h : Below W.heap.size w w') : Turns S W w' := ⟨h.os.trans ht.os, h.tape.trans ht.tape, h.output.trans ht.output, Nat.le_trans ht.size h.size, fun k hk hs => (h.block k hk).trans (ht.block k hk hs)⟩

set_option maxRecDepth 100000 in
set_option maxHeartbeats 2000000 in
theorem prel_ok (D : Nat → Int) (hm : ∀ i j, i ≤ j → D i ≤ D j) (B p : Nat) (nx nw ct : Int) (a : Option Addr) (xs : List Nat) (cap t k : Nat) (u : Int) (w : World) (hb : w.heap[p]? = some (.cells #[.bool true, .int .i64 nx, .int .i64 nw, .int .i64 ct, .slice a xs.length cap] 47 (0, 0))) (hp : p < B) (h : OwnR 51 3 (PKC D) B a xs cap w) (hk : t + k ≤ 4096) (hh : Heap xs.length xs) (hpm : xs.Perm (List.range' t k)) (hu : nw ≤ u ∧ u ≤ 1099511627776) :
    Calls Try.prog 10 #[.pointer (some ⟨p, 0, none⟩), .int .i64 u] w (PRel D B p nx ct a cap t k u w) := by
  have c0 := blk_cell hb 0
  have c2 := blk_cell hb 2
  have f2 := blk_free hb 2
  have i1 : ¬ u < nw := by omega
  have i2 : ¬ (1099511627776 : Int) < u := by omega
  have hpw : p < w.heap.size := blk_lt hb
  have hlg : ∀ g, a = some ⟨g, 0, none⟩ → g < w.heap.size ∧ B ≤ g := fun g e => ⟨h.ltB g e, (h.ownB g (by rw [e]; rfl)).1⟩
  have S1 := Lib.hid (blk_set hb 2 (.int .i64 u))
  have G1 := Lib.hid (gr_set w p 2 (.int .i64 u))
  have HU := Lib.hid hu
  have O1 := Lib.hid (h.grown G1.out (fun g e e2 => by have := (hlg g e).2; have := Option.some.inj e2; omega))
  have T1 : Hid (Turns (fun b => b = p ∨ a = some ⟨b, 0, none⟩) w (w.setCell ⟨p, 2, none⟩ (.int .i64 u))) := Lib.hid (.of_grown (fun k e => .inl (Option.some.inj e).symm) G1.out)
  have HH := Lib.hid hh
  have HPM := Lib.hid hpm
  clear hb h hh hpm hu
  go_enter Try.func10, Try.ntmps10
  go_upto_region 6 with fail
  clear c0 c2 f2 i1 i2
  generalize hW0 : w.setCell ⟨p, 2, none⟩ (.int .i64 u) = W0 at S1 G1 O1 T1 ⊢
  clear hW0 G1
  go_wp2
  go_loopw [6] (fun ov wr => ∃ (m : Nat) (oa : Option Addr) (oc : Nat) (zs : List Nat), m ≤ k ∧ ov = .slice oa m oc ∧ (∀ i, i < m → D (t + i) ≤ u) ∧ OwnR 3 1 IC w.heap.size oa (told t m) oc wr ∧ wr.heap[p]? = some (.cells #[.bool true, .int .i64 nx, .int .i64 u, .int .i64 ct, .slice a zs.length cap] 47 (0, 0)) ∧ OwnR 51 3 (PKC D) B a zs cap wr ∧ Heap zs.length zs ∧ zs.Perm (List.range' (t + m) (k - m)) ∧ Turns (fun b => b = p ∨ a = some ⟨b, 0, none⟩) w wr) (fun ov _ => k - (match ov with | .slice _ n _ => n | _ => 0))
  case atStart => exact ⟨0, none, 0, xs, by omega, rfl, (fun i hi => absurd hi (by omega)), ownR_nil _ _ _ _ _, S1.out, O1.out, HH.out, HPM.out, T1.out⟩
  case round =>
    clear S1 O1 T1 HH HPM
    obtain ⟨m, oa, oc, zs, hmk, rfl, h1, h2, h3, h4, h5, h6, h7⟩ := hrel
    have HD := Lib.hid h1
    have OO := Lib.hid h2
    have HB := Lib.hid h3
    have OZ := Lib.hid h4
    have HH := Lib.hid h5
    have HP := Lib.hid h6
    have TT := Lib.hid h7
    have c4 := blk_cell h3 4
    have hzl : zs.length = k - m := by rw [h6.length_eq, List.length_range']
    clear h1 h2 h3 h4 h5 h6 h7
    by_cases hz : m < k
    · have hzp : 0 < zs.length := by omega
      have hx0 : at0 zs 0 = t + m := root_is (n := k - m - 1) HH.out (by rw [show k - m - 1 + 1 = k - m by omega]; exact HP.out)
      obtain ⟨g, ga, hgB, _⟩ := OZ.out.isSome hzp
      have HLG := Lib.hid (hlg g ga)
      subst ga
      obtain ⟨b5, o5, e5, _, t0, t1, t2⟩ := pkt_at (OZ.out.sts (encP D)) hzp
      cases e5
      rw [hx0] at t1
      simp only [Nat.zero_mul, Nat.add_zero, Nat.zero_add] at t1
      have i1 : (0 : Int) < (zs.length : Int) := by omega
      have i1d : decide ((0 : Int) < (zs.length : Int)) = true := decide_eq_true i1
      have i1e : decide (0 < zs.length) = true := decide_eq_true hzp
      have HZL := Lib.hid hzl
      have HX0 := Lib.hid hx0
      clear t0 t2 hzl hx0
      obtain ⟨x, hx⟩ : ∃ x, t + m = x := ⟨_, rfl⟩
      rw [hx] at t1 HX0
      have HXE := Lib.hid hx
      clear hx
      by_cases hd : D x ≤ u
      · have ta : ∀ w1 : World, (Instr.typeAssert (.iface 51 (.agg #[.int .i64 (x : Nat), .int .i64 (D x), .int .i64 (x : Nat)])) 20 51 false).run Try.prog w1 = .ok (.agg #[.int .i64 (x : Nat), .int .i64 (D x), .int .i64 (x : Nat)]) w1 := fun w1 => by kernel_rfl
        have tf : ∀ w1 : World, (Instr.field 51 (.agg #[.int .i64 (x : Nat), .int .i64 (D x), .int .i64 (x : Nat)]) 0).run Try.prog w1 = .ok (.int .i64 (x : Nat)) w1 := fun w1 => by kernel_rfl
        have hheap : Heap (k - m - 1 + 1) zs := by rw [show k - m - 1 + 1 = zs.length by have := HZL.out; omega]; exact HH.out
        have hpop := hpop_ok D hm B p 4 g #[.bool true, .int .i64 nx, .int .i64 u, .int .i64 ct, .slice (some ⟨g, 0, none⟩) zs.length cap] 47 zs cap (k - m - 1) wr HB.out rfl hp OZ.out (by have := HZL.out; omega) (by have := HZL.out; omega) hheap
        rw [HX0.out] at hpop
        have HPOP := Lib.hid hpop
        have hd1 : decide (D x ≤ u) = true := decide_eq_true hd
        have HDM := Lib.hid hd
        have HMK := Lib.hid hz
        clear hpop hd hz hheap
        go_upto_region 8 with fail
        clear c4 t1 i1 i1d i1e hd1
        have hbw : w.heap.size ≤ wr.heap.size := TT.out.size
        have hlen : (told t m).length = m := told_len t m
        go_wp2_with (first
          | (go_at_call 13; refine HPOP.out.mono ?_; rintro e V1 ⟨rfl, ⟨zs2, hb1, o1, l1, hh1, p1⟩, t1⟩; have HB1 := Lib.hid hb1; have OZ1 := Lib.hid o1; have L1 := Lib.hid l1; have HH1 := Lib.hid hh1; have P1 := Lib.hid p1; have T1 := Lib.hid t1; have OO1 := Lib.hid (OO.out.turned t1 (fun g2 e2 => by have h1 := (OO.out.ownB g2 (by rw [e2]; rfl)).1; have h2 := HLG.out.1; rintro (rfl | rfl) <;> omega)); have BA := Lib.hid ((Below.refl V1.heap.size V1).alloc (Nat.le_refl _) (.cells #[.int .i64 (x : Nat)] 3)); have hs1 := t1.size; clear hb1 o1 l1 hh1 p1 t1)
          | ((with_reducible show wpList _ _ _ _ _ _); refine wpList_append_rA rfl elemI encI (.tmp 47) (.tmp 55) rfl w.heap.size (a := oa) (xs := told t m) (ys := [(x : Int)]) (cap := oc) (dap := 1) (n := 1) rfl (OO1.out.below BA.out) (sts_new encI V1 [(x : Int)] 3 (0, 0)) (by rw [hlen]; rfl) rfl (by rw [hlen]; simp only [List.length_cons, List.length_nil]; omega) (by rw [hlen]; unfold maxLen; simp only [List.length_cons, List.length_nil]; omega) (by have := BA.out.size; omega) ?_; intro a5 c5 V5 o5 b5 g5 at5; have O5 := Lib.hid o5; have B5 := Lib.hid b5; clear o5 b5 g5 at5)
          | fail)
        have hl5 : (told t m ++ [(x : Int)]).length = m + 1 := by rw [List.length_append, hlen]; rfl
        go_roundw
        case rel =>
          have hlow : ∀ g2, (some ⟨g, 0, none⟩ : Option Addr) = some ⟨g2, 0, none⟩ → g2 < w.heap.size := fun g2 e2 => by cases e2; exact HLG.out.1
          have OZ5 := (OZ1.out.below BA.out).keepLow B5.out hlow
          have HB5 := (B5.out.block p hpw).trans ((BA.out.block p (blk_lt HB1.out)).trans HB1.out)
          have hzp2 : zs2.length = k - m - 1 := L1.out
          refine ⟨m + 1, a5, c5, zs2, by have := HMK.out; omega, rfl, fun i hi => ?_, by rw [told_succ, HXE.out]; exact O5.out, by rw [hzp2]; exact HB5, OZ5, by rw [hzp2]; exact HH1.out, ?_, ?_⟩
          · by_cases e : i = m
            · rw [e, HXE.out]; exact HDM.out
            · exact HD.out i (by omega)
          · have h2 := P1.out.trans HP.out
            rw [show k - m = (k - m - 1) + 1 by have := HMK.out; omega, List.range'_succ, HXE.out] at h2
            have h3 := ((List.perm_append_singleton x zs2).symm.trans h2).cons_inv
            rw [show t + (m + 1) = x + 1 by have := HXE.out; omega, show k - (m + 1) = k - m - 1 by omega]
            exact h3
          · exact ((TT.out.trans (T1.out.mono fun b e => e.imp id (fun e2 => by rw [e2]))).andBelow BA.out).low B5.out
        case measure => have := HMK.out; show k - (m + 1) < k - m; omega
      · have hd1 : decide (D x ≤ u) = false := decide_eq_false hd
        have hd2 := Lib.hid (show u < D x by omega)
        clear hd
        go_wp2
        go_ret2
        exact ⟨m, oa, oc, zs, hmk, HD.out, .inr (by rw [HXE.out]; exact hd2.out), rfl, OO.out, HB.out, OZ.out, HH.out, HP.out, TT.out⟩
    · have i1 : ¬ (0 : Int) < (zs.length : Int) := by omega
      have i1n : ¬ 0 < zs.length := by omega
      have i1d : decide ((0 : Int) < (zs.length : Int)) = false := decide_eq_false i1
      have i1e : decide (0 < zs.length) = false := decide_eq_false i1n
      have hmk2 : m = k := by omega
      have HMK := Lib.hid hmk2
      clear hz hzl hmk2 i1n
      go_wp2
      go_ret2
      exact ⟨m, oa, oc, zs, hmk, HD.out, .inl HMK.out, rfl, OO.out, HB.out, OZ.out, HH.out, HP.out, TT.out⟩
end Go.Proofs.Ythbiadhnlomhmaa
