/- Parse's own function on an option: of several of one kind the first counts. -/
import Derived.Test.YtgmgoilleakdcaaTcpPd
namespace Go.Proofs.Ytgmgoilleakdcaa
open Go.RowKit Go.Maps

theorem zeroInt (w : World) : (zeroValue 3).run Try.prog w = .ok (.int .i64 0) w := by kernel_rfl

theorem lit_inj {a b : Int} (h : (DataW.lit (.int .i64 a) : DataW Unit) = .lit (.int .i64 b)) : a = b := by injection h with h; injection h

theorem map_not_row {W : World} {P : Program} {kt t : TypeId} {R : Value → Option (DataW Unit × List MemPlace)} {gm n base size k : Nat} {D : DataW Unit} {v : Value} {xs : List Value} (h : W.ownsMap P kt R gm n D) (hr : W.ownsRow base t size v k xs) : v.ownBlock = none ∨ v.ownBlock ≠ some gm := by
  rcases hr.2 with ⟨rfl, _⟩ | ⟨g, cap, cur, rfl, _, hgb, _⟩
  · exact .inl rfl
  · refine .inr fun e' => ?_
    obtain rfl : g = gm := by simpa [Value.ownBlock] using e'
    obtain ⟨es, cl, h1, _⟩ := h
    have := h1.symm.trans hgb
    cases this

/-- The kinds that were seen: how often each. -/
def SeenAt (W : World) (gq gm : Nat) (ks : List Nat) : Prop :=
  W.heap[gq]? = some (.cells #[.map (some gm)] 59 (0, 0)) ∧ ∃ D : DataW Unit, W.ownsMap Try.prog 5 (plainElem Try.prog 3) gm ks.length D ∧ ∀ k : Nat, k < 256 → D.atKey (.int .u8 k) (.lit (.int .i64 0)) = .lit (.int .i64 (ks.count k))

/-- Between two options. -/
def PInv (w0 : World) (gq gm gs sp dp sq ak fl wn ur : Nat) (d : Value) (H0 : World → Prop) (ks : List Nat) (s : TOpt) (W : World) : Prop :=
  SeenAt W gq gm ks ∧ (∃ v, TcpAt W gs (pC sp dp sq ak fl wn ur d v s) ∧ W.ownsRow w0.heap.size 68 2 v s.bs.length (blkCells s.bs) ∧ (5 ∉ ks → s.bs = [] ∧ v = .slice none 0 0)) ∧ Below w0.heap.size w0 W ∧ H0 W

/-- What turns while an option is read: the segment, the map, new blocks. -/
def Kept2 (W W' : World) (g g' : Nat) : Prop := W'.os = W.os ∧ W'.tape = W.tape ∧ W'.output = W.output ∧ W.heap.size ≤ W'.heap.size ∧ ∀ j, j < W.heap.size → j ≠ g → j ≠ g' → W'.heap[j]? = W.heap[j]?

theorem Kept2.of {W W' W2 : World} {g g' : Nat} (h : W.grownBy W' (some g)) (k : W'.grownBy W2 (some g')) : Kept2 W W2 g g' :=
  ⟨k.os.trans h.os, k.tape.trans h.tape, k.output.trans h.output, Nat.le_trans h.size k.size, fun j hj h1 h2 =>
    (k.block j (Nat.lt_of_lt_of_le hj h.size) (fun e => h2 (Option.some.inj e))).trans (h.block j hj (fun e => h1 (Option.some.inj e)))⟩
theorem Kept2.one {W W' : World} {g g' : Nat} (h : W.grownBy W' (some g)) : Kept2 W W' g g' :=
  ⟨h.os, h.tape, h.output, h.size, fun j hj h1 _ => h.block j hj (fun e => h1 (Option.some.inj e))⟩
theorem Kept2.below {W W' : World} {g g' B : Nat} (h : Kept2 W W' g g') (h1 : B ≤ g) (h2 : B ≤ g') (hB : B ≤ W.heap.size) : Below B W W' :=
  ⟨h.1, h.2.1, h.2.2.1, h.2.2.2.1, fun j hj => h.2.2.2.2 j (by omega) (by omega) (by omega)⟩

set_option maxRecDepth 100000 in
set_option maxHeartbeats 2000000 in
theorem parse1_any (w0 : World) (gq gm gs k sp dp sq ak fl wn ur : Nat) (d : Value) (H0 : World → Prop) (hH : ∀ W W', H0 W → Kept2 W W' gm gs → H0 W') (ks : List Nat) (s : TOpt) (a : Option Addr) (ys : List Nat) (c : Nat) (W : World)
    (hI : PInv w0 gq gm gs sp dp sq ak fl wn ur d H0 ks s W) (hks : ks.length ≤ 65535) (hq : w0.heap.size ≤ gq) (hm : w0.heap.size ≤ gm) (hgs : w0.heap.size ≤ gs) (hqs : gq ≠ gs)
    (hx : Bts w0 a ys) (ha : 0 < ys.length → ∀ p, a = some p → p.block < w0.heap.size) (hk : k < 256) (hf : tcpFits k (ys.length + 2) = true) (hc : ys.length ≤ c) :
    Calls Try.prog 32 #[.int .u8 k, .slice a ys.length c, .pointer (some ⟨gq, 0, none⟩), .pointer (some ⟨gs, 0, none⟩)] W fun e w' => e = .returned (.tuple #[]) ∧ PInv w0 gq gm gs sp dp sq ak fl wn ur d H0 (ks ++ [k]) (if k ∈ ks then s else setO s k ys) w' := by
  obtain ⟨⟨hbq, D, hD, hat⟩, ⟨v, hv, hr, h5⟩, hb, hh⟩ := hI
  have cq := blk_cell hbq 0
  have hkm : keyOf Try.prog 5 (.int .u8 (k : Int)) = some (.int .u8 (k : Int)) := keyOf_int_mk Try.underlying5 (by simp [Lit.wf, IntKind.min, IntKind.max, IntKind.signed, IntKind.bits]; omega)
  have hcnt : ks.count k ≤ ks.length := List.count_le_length
  have hne1 : gs ≠ gm := by
    rintro rfl
    obtain ⟨es, cl, h1, _⟩ := hD
    have := (show W.heap[gs]? = _ from hv).symm.trans h1
    cases this
  have hne2 : gq ≠ gm := by
    rintro rfl
    obtain ⟨es, cl, h1, _⟩ := hD
    have := hbq.symm.trans h1
    cases this
  obtain ⟨n, hn⟩ : ∃ n, ks.count k = n := ⟨_, rfl⟩
  have hk0 := hat k hk
  rw [hn] at hk0 hcnt
  obtain ⟨m, hm1⟩ : ∃ m, n + 1 = m := ⟨_, rfl⟩
  have e1 : (n : Int) + 1 = (m : Int) := by omega
  have e2 : IntKind.i64.wrap (m : Int) = (m : Int) := IntWalk.i64_in _ (by omega)
  have hwf : (Lit.int .i64 (m : Int)).wf = true := by simp [Lit.wf, IntKind.min, IntKind.max, IntKind.signed, IntKind.bits]; omega
  have hmap := hD.isMap
  have hatp : ∀ j : Nat, j < 256 → (D.put (.int .u8 (k : Int)) (.lit (.int .i64 (m : Int)))).atKey (.int .u8 j) (.lit (.int .i64 0)) = .lit (.int .i64 ((ks ++ [k]).count j)) := by
    intro j hj
    rw [List.count_append, List.count_singleton]
    by_cases hjk : j = k
    · subst hjk
      rw [atKey_put_same hmap (by trivial)]
      rw [hn]; simp [← hm1]
    · have hne : (Lit.int .u8 (j : Int)) ≠ (Lit.int .u8 (k : Int)) := by intro e; injection e with _ e; omega
      rw [atKey_put_other hne, hat j hj]
      simp [show (k == j) = false from by rw [beq_eq_false_iff_ne]; omega]
  have hk1 : (D.put (.int .u8 (k : Int)) (.lit (.int .i64 (m : Int)))).atKey (.int .u8 (k : Int)) (.lit (.int .i64 0)) = .lit (.int .i64 (m : Int)) := atKey_put_same hmap (by trivial) _ _
  have HQ := Lib.hid hbq
  have HD := Lib.hid hD
  have HK0 := Lib.hid hk0
  have HK1 := Lib.hid hk1
  have HAT := Lib.hid hatp
  have HV := Lib.hid hv
  have HR := Lib.hid hr
  have HB := Lib.hid hb
  have HH := Lib.hid hh
  have HX := Lib.hid hx
  have HWF := Lib.hid hwf
  have HKM := Lib.hid hkm
  have HKS := Lib.hid hks
  have HC := Lib.hid hc
  have HF := Lib.hid hf
  have hgl : gs < W.heap.size := (Array.getElem?_eq_some_iff.1 hv).1
  have hql : gq < W.heap.size := (Array.getElem?_eq_some_iff.1 hbq).1
  have hwl := hb.size
  by_cases hn0 : n = 0
  · have hin : k ∉ ks := List.count_eq_zero.1 (hn.trans hn0)
    have hm2 : m = 1 := by omega
    subst hm2
    clear hm1 hn0 hn hcnt hbq hD hk0 hk1 hatp hv hr hb hh hx hwf hkm hat hmap hks hc hf
    go_enter Try.func32, Try.ntmps32
    go_wp2_with (first
      | (at_lookup; refine wpList_lookup_own_int _ rfl (.tmp 6) (.tmp 7) 59 rfl 5 3 .i64 (int_keyed Try.underlying5) Try.underlying59 Try.underlying3 (zeroInt _) gm ks.length D rfl HD.out _ _ rfl HKM.out ?_; intro c1 hat1 _; obtain rfl := lit_inj (hat1.symm.trans HK0.out); clear hat1)
      | (at_mapUpdate; refine wpList_mapUpdate_own _ rfl _ _ _ 59 rfl 5 3 (int_keyed Try.underlying5) Try.underlying59 _ gm ks.length D rfl HD.out (by have := HKS.out; unfold maxLen; omega) _ _ _ rfl rfl HKM.out _ [] (plainElem_int Try.underlying3 HWF.out) ?_; intro W1 hown hgrow; have HO := Lib.hid hown; have HG := Lib.hid hgrow; have cq1 := blk_cell ((hgrow.block gq hql (fun e => hne2 (Option.some.inj e))).trans HQ.out) 0; clear hown hgrow)
      | (at_lookup; refine wpList_lookup_own_int _ rfl (.tmp 10) (.tmp 11) 59 rfl 5 3 .i64 (int_keyed Try.underlying5) Try.underlying59 Try.underlying3 (zeroInt _) gm (ks.length + 1) _ rfl HO.out _ _ rfl HKM.out ?_; intro c2 hat2 _; obtain rfl := lit_inj (hat2.symm.trans HK1.out); clear hat2))
    have hv1 := (HG.out.block gs hgl (fun e => hne1 (Option.some.inj e))).trans HV.out
    have hr1 := HR.out.kept HG.out (map_not_row HD.out HR.out)
    have hs1 := HG.out.size
    refine (set_any w0.heap.size w0.heap.size gs k sp dp sq ak fl wn ur d v s a ys c W1 hv1 hr1 (by omega) (fun e => by subst e; exact h5 hin) (fun W' h => HX.out.below ((HB.out.trans (Below.grown (Below.refl _ _) HG.out hwl (fun j e => by cases e; exact hm))).trans h)) hgs (fun h p hp => by have := ha h p hp; omega) hk HF.out HC.out).mono ?_
    rintro e w' ⟨rfl, v', h1, h2, h3, h4⟩
    have K := Kept2.of HG.out h3
    have H1 : Hid (PInv w0 gq gm gs sp dp sq ak fl wn ur d H0 (ks ++ [k]) (setO s k ys) w') := Lib.hid (by
      refine ⟨⟨(h3.block gq (Nat.lt_of_lt_of_le hql hs1) (fun e => hqs (Option.some.inj e))).trans ((HG.out.block gq hql (fun e => hne2 (Option.some.inj e))).trans HQ.out), _, (by rw [List.length_append]; exact HO.out.kept h3 (fun e => hne1 (Option.some.inj e).symm)), HAT.out⟩, ⟨v', h1, h2, fun h => ?_⟩, HB.out.trans (K.below hm hgs hwl), hH _ _ HH.out K⟩
      have hk5 : k ≠ 5 := fun e => h (by rw [e]; simp)
      obtain ⟨rfl, hbs⟩ := h4 hk5
      rw [hbs]
      exact h5 (fun e => h (List.mem_append_left _ e)))
    clear h1 h2 h3 h4 K hv1 hr1 cq1 cq
    go_wp2
    go_end0
    exact ⟨rfl, H1.out⟩
  · have hin : k ∈ ks := by
      by_cases h : k ∈ ks
      · exact h
      · exact absurd (hn.symm.trans (List.count_eq_zero.2 h)) hn0
    have i1 : ((m : Int) == 1) = false := by rw [beq_eq_false_iff_ne]; omega
    clear hm1 hn0 hn hcnt hbq hD hk0 hk1 hatp hv hr hb hh hx hwf hkm hat hmap hks hc hf
    go_enter Try.func32, Try.ntmps32
    go_wp2_with (first
      | (at_lookup; refine wpList_lookup_own_int _ rfl (.tmp 6) (.tmp 7) 59 rfl 5 3 .i64 (int_keyed Try.underlying5) Try.underlying59 Try.underlying3 (zeroInt _) gm ks.length D rfl HD.out _ _ rfl HKM.out ?_; intro c1 hat1 _; obtain rfl := lit_inj (hat1.symm.trans HK0.out); clear hat1)
      | (at_mapUpdate; refine wpList_mapUpdate_own _ rfl _ _ _ 59 rfl 5 3 (int_keyed Try.underlying5) Try.underlying59 _ gm ks.length D rfl HD.out (by have := HKS.out; unfold maxLen; omega) _ _ _ rfl rfl HKM.out _ [] (plainElem_int Try.underlying3 HWF.out) ?_; intro W1 hown hgrow; have HO := Lib.hid hown; have HG := Lib.hid hgrow; have cq1 := blk_cell ((hgrow.block gq hql (fun e => hne2 (Option.some.inj e))).trans HQ.out) 0; clear hown hgrow)
      | (at_lookup; refine wpList_lookup_own_int _ rfl (.tmp 10) (.tmp 11) 59 rfl 5 3 .i64 (int_keyed Try.underlying5) Try.underlying59 Try.underlying3 (zeroInt _) gm (ks.length + 1) _ rfl HO.out _ _ rfl HKM.out ?_; intro c2 hat2 _; obtain rfl := lit_inj (hat2.symm.trans HK1.out); clear hat2))
    have K : Kept2 W W1 gm gs := Kept2.one HG.out
    have H1 : Hid (PInv w0 gq gm gs sp dp sq ak fl wn ur d H0 (ks ++ [k]) s W1) := Lib.hid (by
      refine ⟨⟨(HG.out.block gq hql (fun e => hne2 (Option.some.inj e))).trans HQ.out, _, (by rw [List.length_append]; exact HO.out), HAT.out⟩, ⟨v, (HG.out.block gs hgl (fun e => hne1 (Option.some.inj e))).trans HV.out, HR.out.kept HG.out (map_not_row HD.out HR.out), fun h => h5 (fun e => h (List.mem_append_left _ e))⟩, HB.out.trans (K.below hm hgs hwl), hH _ _ HH.out K⟩)
    clear K cq1 cq
    go_end0
    exact ⟨rfl, H1.out⟩
end Go.Proofs.Ytgmgoilleakdcaa
