/- Routes: adding a route to a table. -/
import Derived.Test.YtinlacdngojlaaaRtTab
namespace Go.Proofs.Ytinlacdngojlaaa
open Go.RowKit Go.Maps Go.Proofs.Ytinlacdngojlaaa.Rt

theorem grown_of_below {w w' : World} (h : Below w.heap.size w w') (row : Option Nat) : w.grownBy w' row := ⟨h.os, h.tape, h.output, h.size, fun k hk _ => h.block k hk⟩
theorem grown_trans {w w' w'' : World} {row : Option Nat} (h : w.grownBy w' row) (h' : w'.grownBy w'' row) : w.grownBy w'' row :=
  ⟨h'.os.trans h.os, h'.tape.trans h.tape, h'.output.trans h.output, Nat.le_trans h.size h'.size, fun k hk hne => (h'.block k (Nat.lt_of_lt_of_le hk h.size) hne).trans (h.block k hk hne)⟩

def AddAns (g gm : Nat) (L : List Route10) (r : Route10) (w : World) (e : Ending) (w' : World) : Prop := e = .returned (.int .i64 (addE L r : Nat)) ∧ TabAt w' g gm (addL L r) ∧ w.grownBy w' (some gm)

theorem add_same {g gm : Nat} {L : List Route10} {r : Route10} {w w' : World} {n : Nat} (h : TabAt w g gm L) (hb : Below w.heap.size w w') (hn : addE L r = n) (h0 : 0 < n) : AddAns g gm L r w (.returned (.int .i64 (n : Nat))) w' :=
  ⟨by rw [hn], by rw [addL, if_neg (by omega)]; exact h.below hb, grown_of_below hb _⟩

set_option maxRecDepth 100000 in
set_option maxHeartbeats 1000000 in
theorem add_range (W : World) (g gm : Nat) (L : List Route10) (r : Route10) (h : TabAt W g gm L) (hr : r.bits < 0 ∨ 32 < r.bits) :
    Calls Try.prog 8 #[.pointer (some ⟨g, 0, none⟩), .agg #[.int .u32 (r.net : Nat), .int .i64 r.bits, .int .u32 (r.gw : Nat)]] W (AddAns g gm L r W) := by
  have he : addE L r = 4 := by unfold addE; rw [if_pos hr]
  have HE := Lib.hid he
  have HT := Lib.hid h
  have HB := Lib.hid h.1
  have hl := (Array.getElem?_eq_some_iff.1 h.1).1
  have KB := Lib.hid ((Below.heap_alloc W (.cells #[.int .u32 (r.net : Nat), .int .i64 r.bits, .int .u32 (r.gw : Nat)] 37) g hl).trans HB.out)
  clear h he
  obtain ⟨net, bits, gw⟩ := r
  dsimp only at *
  rcases hr with hr | hr
  case' inl => have i1 : decide (bits < 0) = true := decide_eq_true hr
  case' inr =>
    have i1 : decide (bits < 0) = false := decide_eq_false (by omega)
    have i2 : decide (bits > 32) = true := decide_eq_true hr
  all_goals
    go_enter Try.func8, Try.ntmps8
    go_wp2_with fail
    refine (made_any _ g gm KB.out).mono ?_
    rintro e w' ⟨rfl, rfl⟩
    go_wp2
    go_ret
    exact add_same (n := 4) HT.out ((Below.refl _ _).alloc (Nat.le_refl _) _) HE.out (by decide)

set_option maxRecDepth 100000 in
set_option maxHeartbeats 2000000 in
theorem add_rest (W : World) (g gm : Nat) (L : List Route10) (net b gw : Nat) (h : TabAt W g gm L) (hb : b ≤ 32) (hn : net < 4294967296) (hgw : gw < 4294967296) :
    Calls Try.prog 8 #[.pointer (some ⟨g, 0, none⟩), .agg #[.int .u32 (net : Nat), .int .i64 (b : Nat), .int .u32 (gw : Nat)]] W (AddAns g gm L ⟨net, b, gw⟩ W) := by
  have e1 : (b : Int).toNat = b := by omega
  have hno : ¬ ((b : Int) < 0 ∨ 32 < (b : Int)) := by omega
  have HT := Lib.hid h
  have HB := Lib.hid h.1
  have hl := (Array.getElem?_eq_some_iff.1 h.1).1
  have b0 := (Below.refl W.heap.size W).alloc (Nat.le_refl _) (.cells #[.int .u32 (net : Nat), .int .i64 (b : Nat), .int .u32 (gw : Nat)] 37)
  have KT := Lib.hid (h.below b0)
  have B0 := Lib.hid b0
  have i1 : decide ((b : Int) < 0) = false := decide_eq_false (by omega)
  have i2 : decide ((b : Int) > 32) = false := decide_eq_false (by omega)
  obtain ⟨pn, hpn⟩ : ∃ pn, pre net b = pn := ⟨_, rfl⟩
  have HP : Hid (∀ w, Calls Try.prog 22 #[.int .u32 (net : Nat), .int .i64 (b : Nat)] w fun e w' => e = .returned (.agg #[.int .u32 (pn : Nat), .int .i64 (b : Nat)]) ∧ Below w.heap.size w w') := Lib.hid (fun w => hpn ▸ prefix_any net b w hn hb)
  have HPN := Lib.hid hpn
  have HNO := Lib.hid hno
  have E1 := Lib.hid e1
  clear h hpn hno e1 b0
  by_cases hpe : pn = net
  · subst hpe
    cases hlk : rlook L pn b
    case some gw0 =>
      have HE : Hid (addE L ⟨pn, b, gw⟩ = 6) := Lib.hid (by unfold addE; rw [if_neg HNO.out]; dsimp only; rw [E1.out, HPN.out, if_neg (by simp), if_pos (by rw [hlk]; simp)])
      have HL := Lib.hid hlk
      clear hlk
      go_enter Try.func8, Try.ntmps8
      go_wp2_with fail
      refine (made_any _ g gm KT.out.1).mono ?_
      rintro e w' ⟨rfl, rfl⟩
      go_wp2_with fail
      refine (HP.out _).mono ?_
      rintro e W1 ⟨rfl, b1⟩
      have T1 := Lib.hid (KT.out.below b1)
      have c0 := blk_cell T1.out.1 0
      have R1 := (b1.block W.heap.size (by simp)).trans (blk_new W (.cells #[.int .u32 (pn : Nat), .int .i64 (b : Nat), .int .u32 (gw : Nat)] 37))
      have rc0 := blk_cell R1 0
      have rc2 := blk_cell R1 2
      have HR1 := Lib.hid R1
      clear R1
      have z1 : W.heap.size < W1.heap.size := by have := b1.size; simp at this; omega
      have zg : g < W1.heap.size := by omega
      have B1 := Lib.hid b1
      clear b1
      go_wp2
      have bX : Below W1.heap.size W1 (W1.alloc (.cells #[.int .u32 (pn : Nat), .int .i64 (b : Nat)] 67)) := (Below.refl _ _).alloc (Nat.le_refl _) _
      have TX := Lib.hid (T1.out.below bX)
      have RX := Lib.hid ((bX.block W.heap.size z1).trans HR1.out)
      have PX := Lib.hid (blk_new W1 (.cells #[.int .u32 (pn : Nat), .int .i64 (b : Nat)] 67))
      have BX := Lib.hid (B1.out.trans (bX.mono B1.out.size))
      have zX := bX.size
      clear bX c0 rc0 rc2 HR1 T1 B1
      generalize W1.alloc (.cells #[.int .u32 (pn : Nat), .int .i64 (b : Nat)] 67) = X at TX RX PX BX zX ⊢
      have c0 := blk_cell TX.out.1 0
      have p0 := blk_cell PX.out 0
      have p1 := blk_cell PX.out 1
      have LK : ∀ q, (Instr.lookup 63 (.map (some gm)) (.agg #[.int .u32 (pn : Nat), .int .i64 (b : Nat)]) true).run Try.prog (X.drewN q) = .ok (.tuple #[.int .u32 (gw0 : Nat), .bool true]) (X.drewN q) := fun q => tab_hit (TX.out.below (below_drewN (Below.refl _ _) q)) hn (by omega) (by omega) HL.out
      go_quiet (fail)
      go_wp2
      go_ret
      exact add_same (n := 6) HT.out (below_drewN (B0.out.trans (BX.out.mono B0.out.size)) _) HE.out (by decide)
    case none =>
      have HL := Lib.hid hlk
      by_cases hlen : 256 ≤ L.length
      · have HE : Hid (addE L ⟨pn, b, gw⟩ = 81) := Lib.hid (by unfold addE; rw [if_neg HNO.out]; dsimp only; rw [E1.out, HPN.out, if_neg (by simp), if_neg (by rw [hlk]; simp), if_pos hlen])
        clear hlk
        go_enter Try.func8, Try.ntmps8
        go_wp2_with fail
        refine (made_any _ g gm KT.out.1).mono ?_
        rintro e w' ⟨rfl, rfl⟩
        go_wp2_with fail
        refine (HP.out _).mono ?_
        rintro e W1 ⟨rfl, b1⟩
        have T1 := Lib.hid (KT.out.below b1)
        have c0 := blk_cell T1.out.1 0
        have R1 := (b1.block W.heap.size (by simp)).trans (blk_new W (.cells #[.int .u32 (pn : Nat), .int .i64 (b : Nat), .int .u32 (gw : Nat)] 37))
        have rc0 := blk_cell R1 0
        have rc2 := blk_cell R1 2
        have HR1 := Lib.hid R1
        clear R1
        have z1 : W.heap.size < W1.heap.size := by have := b1.size; simp at this; omega
        have zg : g < W1.heap.size := by omega
        have B1 := Lib.hid b1
        clear b1
        go_wp2
        have bX : Below W1.heap.size W1 (W1.alloc (.cells #[.int .u32 (pn : Nat), .int .i64 (b : Nat)] 67)) := (Below.refl _ _).alloc (Nat.le_refl _) _
        have TX := Lib.hid (T1.out.below bX)
        have RX := Lib.hid ((bX.block W.heap.size z1).trans HR1.out)
        have PX := Lib.hid (blk_new W1 (.cells #[.int .u32 (pn : Nat), .int .i64 (b : Nat)] 67))
        have BX := Lib.hid (B1.out.trans (bX.mono B1.out.size))
        have zX := bX.size
        clear bX c0 rc0 rc2 HR1 T1 B1
        generalize W1.alloc (.cells #[.int .u32 (pn : Nat), .int .i64 (b : Nat)] 67) = X at TX RX PX BX zX ⊢
        have c0 := blk_cell TX.out.1 0
        have p0 := blk_cell PX.out 0
        have p1 := blk_cell PX.out 1
        have LK : ∀ q, (Instr.lookup 63 (.map (some gm)) (.agg #[.int .u32 (pn : Nat), .int .i64 (b : Nat)]) true).run Try.prog (X.drewN q) = .ok (.tuple #[.int .u32 0, .bool false]) (X.drewN q) := fun q => tab_miss (TX.out.below (below_drewN (Below.refl _ _) q)) hn (by omega) (by omega) HL.out
        go_quiet (fail)
        clear LK
        have bq := below_drewN (Below.refl X.heap.size X) nq
        have TQ := Lib.hid (TX.out.below bq)
        have RQ := Lib.hid ((bq.block W.heap.size (by omega)).trans RX.out)
        have PQ := Lib.hid ((bq.block W1.heap.size (Array.getElem?_eq_some_iff.1 PX.out).1).trans PX.out)
        have BQ := Lib.hid (BX.out.trans (bq.mono BX.out.size))
        clear bq c0 p0 p1 TX RX PX BX
        generalize X.drewN nq = Y at TQ RQ PQ BQ ⊢
        have c0 := blk_cell TQ.out.1 0
        have p0 := blk_cell PQ.out 0
        have p1 := blk_cell PQ.out 1
        have rc2 := blk_cell RQ.out 2
        obtain ⟨_, hG, D, hD, hTD⟩ := TQ.out
        have HG := Lib.hid hG
        have HD := Lib.hid hD
        have HTD := Lib.hid hTD
        clear hG hD hTD
        go_wp2_with (at_len; refine wpList_len_own _ rfl _ 63 rfl 67 29 Try.underlying63 (plainElem Try.prog 29) gm L.length D rfl HD.out ?_; rw [HTD.out.1])
        go_ret
        exact add_same (n := 81) HT.out (B0.out.trans (BQ.out.mono B0.out.size)) HE.out (by decide)
      · have HE : Hid (addE L ⟨pn, b, gw⟩ = 0) := Lib.hid (addE_zero.2 ⟨⟨by dsimp only; omega, by dsimp only; omega⟩, by dsimp only; rw [E1.out, HPN.out], hlk, by omega⟩)
        clear hlk
        go_enter Try.func8, Try.ntmps8
        go_wp2_with fail
        refine (made_any _ g gm KT.out.1).mono ?_
        rintro e w' ⟨rfl, rfl⟩
        go_wp2_with fail
        refine (HP.out _).mono ?_
        rintro e W1 ⟨rfl, b1⟩
        have T1 := Lib.hid (KT.out.below b1)
        have c0 := blk_cell T1.out.1 0
        have R1 := (b1.block W.heap.size (by simp)).trans (blk_new W (.cells #[.int .u32 (pn : Nat), .int .i64 (b : Nat), .int .u32 (gw : Nat)] 37))
        have rc0 := blk_cell R1 0
        have rc2 := blk_cell R1 2
        have HR1 := Lib.hid R1
        clear R1
        have z1 : W.heap.size < W1.heap.size := by have := b1.size; simp at this; omega
        have zg : g < W1.heap.size := by omega
        have B1 := Lib.hid b1
        clear b1
        go_wp2
        have bX : Below W1.heap.size W1 (W1.alloc (.cells #[.int .u32 (pn : Nat), .int .i64 (b : Nat)] 67)) := (Below.refl _ _).alloc (Nat.le_refl _) _
        have TX := Lib.hid (T1.out.below bX)
        have RX := Lib.hid ((bX.block W.heap.size z1).trans HR1.out)
        have PX := Lib.hid (blk_new W1 (.cells #[.int .u32 (pn : Nat), .int .i64 (b : Nat)] 67))
        have BX := Lib.hid (B1.out.trans (bX.mono B1.out.size))
        have zX := bX.size
        clear bX c0 rc0 rc2 HR1 T1 B1
        generalize W1.alloc (.cells #[.int .u32 (pn : Nat), .int .i64 (b : Nat)] 67) = X at TX RX PX BX zX ⊢
        have c0 := blk_cell TX.out.1 0
        have p0 := blk_cell PX.out 0
        have p1 := blk_cell PX.out 1
        have LK : ∀ q, (Instr.lookup 63 (.map (some gm)) (.agg #[.int .u32 (pn : Nat), .int .i64 (b : Nat)]) true).run Try.prog (X.drewN q) = .ok (.tuple #[.int .u32 0, .bool false]) (X.drewN q) := fun q => tab_miss (TX.out.below (below_drewN (Below.refl _ _) q)) hn (by omega) (by omega) HL.out
        go_quiet (fail)
        clear LK
        have bq := below_drewN (Below.refl X.heap.size X) nq
        have TQ := Lib.hid (TX.out.below bq)
        have RQ := Lib.hid ((bq.block W.heap.size (by omega)).trans RX.out)
        have PQ := Lib.hid ((bq.block W1.heap.size (Array.getElem?_eq_some_iff.1 PX.out).1).trans PX.out)
        have BQ := Lib.hid (BX.out.trans (bq.mono BX.out.size))
        clear bq c0 p0 p1 TX RX PX BX
        generalize X.drewN nq = Y at TQ RQ PQ BQ ⊢
        have c0 := blk_cell TQ.out.1 0
        have p0 := blk_cell PQ.out 0
        have p1 := blk_cell PQ.out 1
        have rc2 := blk_cell RQ.out 2
        obtain ⟨_, hG, D, hD, hTD⟩ := TQ.out
        have HG := Lib.hid hG
        have HD := Lib.hid hD
        have HTD := Lib.hid hTD
        clear hG hD hTD
        go_wp2_with (at_len; refine wpList_len_own _ rfl _ 63 rfl 67 29 Try.underlying63 (plainElem Try.prog 29) gm L.length D rfl HD.out ?_; rw [HTD.out.1])
        go_still_tail 7, (by kernel_rfl)
        change wpList _ _ _ _ _ Y.drew
        have HGW : Hid ((Lit.int .u32 (gw : Int)).wf = true) := Lib.hid (by simp [Lit.wf, IntKind.min, IntKind.max, IntKind.signed, IntKind.bits]; omega)
        have HK := Lib.hid (rt_key pn b hn (by omega) (by omega))
        have HLN : Hid (L.length < maxLen) := Lib.hid (by unfold maxLen; omega)
        go_wp2_with (at_mapUpdate; refine wpList_mapUpdate_own _ rfl _ _ _ 63 rfl 67 29 rt_law Try.underlying63 _ gm L.length D rfl HD.out.drew HLN.out _ _ _ rfl rfl HK.out _ [] (plainElem_int Try.underlying29 HGW.out) ?_; intro Z hown hgrow; have HO := Lib.hid hown; have HZ := Lib.hid hgrow; clear hown hgrow)
        go_ret
        have by0 := BQ.out.size
        simp at by0
        have hgz : W.grownBy Z (some gm) := grown_trans (grown_of_below (B0.out.trans (BQ.out.mono B0.out.size)) (some gm)) (grown_trans (grown_of_below (Below.refl Y.heap.size Y).drew (some gm)) HZ.out)
        have hne : g ≠ gm := HT.out.ne
        exact ⟨by rw [HE.out]; rfl, by
          rw [addL, if_pos HE.out]
          exact ⟨(HZ.out.block g (by show g < Y.heap.size; omega) (fun e => hne (Option.some.inj e))).trans TQ.out.1, rgood_snoc HG.out hn (by dsimp only; omega) hgw HL.out, _, by rw [List.length_append]; exact HO.out, tabD_put HTD.out (HD.out.tidy rt_law) ⟨pn, b, gw⟩ hn (by dsimp only; omega) (by dsimp only; omega) HL.out⟩, hgz⟩
  · have i3 : ((pn : Int) != (net : Int)) = true := by rw [bne_iff_ne]; omega
    have HE : Hid (addE L ⟨net, b, gw⟩ = 1) := Lib.hid (by unfold addE; rw [if_neg HNO.out]; dsimp only; rw [E1.out, HPN.out, if_pos hpe])
    go_enter Try.func8, Try.ntmps8
    go_wp2_with fail
    refine (made_any _ g gm KT.out.1).mono ?_
    rintro e w' ⟨rfl, rfl⟩
    go_wp2_with fail
    refine (HP.out _).mono ?_
    rintro e W1 ⟨rfl, b1⟩
    have T1 := Lib.hid (KT.out.below b1)
    have c0 := blk_cell T1.out.1 0
    have R1 := (b1.block W.heap.size (by simp)).trans (blk_new W (.cells #[.int .u32 (net : Nat), .int .i64 (b : Nat), .int .u32 (gw : Nat)] 37))
    have rc0 := blk_cell R1 0
    have rc2 := blk_cell R1 2
    have HR1 := Lib.hid R1
    clear R1
    have z1 : W.heap.size < W1.heap.size := by have := b1.size; simp at this; omega
    have zg : g < W1.heap.size := by omega
    have B1 := Lib.hid b1
    clear b1
    go_wp2
    go_ret
    exact add_same (n := 1) HT.out (B0.out.trans ((B1.out.mono B0.out.size).alloc (by omega) _)) HE.out (by decide)
end Go.Proofs.Ytinlacdngojlaaa
