/- A copy of a struct with two lists. -/
import Derived.Test.YtgmgoilleakdcaaGPlain
import Derived.Test.YtgmgoilleakdcaaGSameBlocks
import Derived.Deep.RegionWith
import Derived.Deep.DeepCutAuto
import Derived.Test.YtgmgoilleakdcaaTcpRg
import Derived.Deep.RegionHeld3
namespace Go.Proofs.Ytgmgoilleakdcaa
open Go.RowKit

/-- What the region leaves. -/
def copyTcp_cut (v0 : Nat) (v1 : Nat) (v2 : Nat) (v3 : Nat) (v4 : Nat) (v5 : Nat) (v6 : Nat) (v7 : Int) (v8 : Bool) (v9 : Int) (v10 : Bool) (_a : Option Addr) (xs : List (Nat × Nat)) (_cap : Nat) (v12 : Bool) (v13 : Nat) (v14 : Nat) (_b : Option Addr) (ys : List Nat) (_dap : Nat) (w wx : World) : Prop := ∃ a' cap' b' dap', wx.heap[w.heap.size]? = some (.cells #[.int .u16 v0, .int .u16 v1, .int .u32 v2, .int .u32 v3, .int .u8 v4, .int .u16 v5, .int .u16 v6, .int .i64 v7, .bool v8, .int .i64 v9, .bool v10, .slice a' xs.length cap', .bool v12, .int .u32 v13, .int .u32 v14, .slice b' ys.length dap'] 27 (0, 0)) ∧ wx.heap[w.heap.size + 1]? = some (.cells #[.int .u16 0, .int .u16 0, .int .u32 0, .int .u32 0, .int .u8 0, .int .u16 0, .int .u16 0, .int .i64 0, .bool false, .int .i64 0, .bool false, .slice none 0 0, .bool false, .int .u32 0, .int .u32 0, .slice none 0 0] 27 (0, 0)) ∧ OwnBlk (w.heap.size + 2) wx a' xs cap' ∧ OwnSl (w.heap.size + 2) b' ys dap' wx ∧ Below w.heap.size w wx

set_option maxRecDepth 100000 in
set_option maxHeartbeats 4000000 in
theorem copyTcp_one (v0 : Nat) (v1 : Nat) (v2 : Nat) (v3 : Nat) (v4 : Nat) (v5 : Nat) (v6 : Nat) (v7 : Int) (v8 : Bool) (v9 : Int) (v10 : Bool) (a : Option Addr) (xs : List (Nat × Nat)) (cap : Nat) (v12 : Bool) (v13 : Nat) (v14 : Nat) (b : Option Addr) (ys : List Nat) (dap : Nat) (w : World) (hx : Blk w a xs) (hy : Bts w b ys) (hc : a = none → cap = 0) (hd : b = none → dap = 0) (hl : xs.length ≤ 17592186044416) (hm : ys.length ≤ 140737488355328) :
    Calls Try.prog 7 #[.agg #[.int .u16 v0, .int .u16 v1, .int .u32 v2, .int .u32 v3, .int .u8 v4, .int .u16 v5, .int .u16 v6, .int .i64 v7, .bool v8, .int .i64 v9, .bool v10, .slice a xs.length cap, .bool v12, .int .u32 v13, .int .u32 v14, .slice b ys.length dap]] w fun e w' =>
      ∃ a' cap' b' dap', e = .returned (.agg #[.int .u16 v0, .int .u16 v1, .int .u32 v2, .int .u32 v3, .int .u8 v4, .int .u16 v5, .int .u16 v6, .int .i64 v7, .bool v8, .int .i64 v9, .bool v10, .slice a' xs.length cap', .bool v12, .int .u32 v13, .int .u32 v14, .slice b' ys.length dap']) ∧ OwnBlk w.heap.size w' a' xs cap' ∧ OwnSl w.heap.size b' ys dap' w' ∧ Below w.heap.size w w' := by
  have X0 := Lib.hid hx
  have Y0 := Lib.hid hy
  have HC := Lib.hid hc
  have HD := Lib.hid hd
  clear hx hy hc hd
  go_enter Try.func7, Try.ntmps7
  go_upto_region 1 with fail
  have hb0 := (((Below.refl _ (w.alloc (.cells #[.int .u16 v0, .int .u16 v1, .int .u32 v2, .int .u32 v3, .int .u8 v4, .int .u16 v5, .int .u16 v6, .int .i64 v7, .bool v8, .int .i64 v9, .bool v10, .slice a xs.length cap, .bool v12, .int .u32 v13, .int .u32 v14, .slice b ys.length dap] 27))).alloc (Nat.le_refl _) (.cells #[.int .u16 0, .int .u16 0, .int .u32 0, .int .u32 0, .int .u8 0, .int .u16 0, .int .u16 0, .int .i64 0, .bool false, .int .i64 0, .bool false, .slice none 0 0, .bool false, .int .u32 0, .int .u32 0, .slice none 0 0] 27)).block w.heap.size (by rw [World.size_alloc]; omega)).trans (blk_new w (.cells #[.int .u16 v0, .int .u16 v1, .int .u32 v2, .int .u32 v3, .int .u8 v4, .int .u16 v5, .int .u16 v6, .int .i64 v7, .bool v8, .int .i64 v9, .bool v10, .slice a xs.length cap, .bool v12, .int .u32 v13, .int .u32 v14, .slice b ys.length dap] 27))
  have hr0 := blk_new (w.alloc (.cells #[.int .u16 v0, .int .u16 v1, .int .u32 v2, .int .u32 v3, .int .u8 v4, .int .u16 v5, .int .u16 v6, .int .i64 v7, .bool v8, .int .i64 v9, .bool v10, .slice a xs.length cap, .bool v12, .int .u32 v13, .int .u32 v14, .slice b ys.length dap] 27)) (.cells #[.int .u16 0, .int .u16 0, .int .u32 0, .int .u32 0, .int .u8 0, .int .u16 0, .int .u16 0, .int .i64 0, .bool false, .int .i64 0, .bool false, .slice none 0 0, .bool false, .int .u32 0, .int .u32 0, .slice none 0 0] 27)
  have hsz : w.heap.size + 1 < ((w.alloc (.cells #[.int .u16 v0, .int .u16 v1, .int .u32 v2, .int .u32 v3, .int .u8 v4, .int .u16 v5, .int .u16 v6, .int .i64 v7, .bool v8, .int .i64 v9, .bool v10, .slice a xs.length cap, .bool v12, .int .u32 v13, .int .u32 v14, .slice b ys.length dap] 27)).alloc (.cells #[.int .u16 0, .int .u16 0, .int .u32 0, .int .u32 0, .int .u8 0, .int .u16 0, .int .u16 0, .int .i64 0, .bool false, .int .i64 0, .bool false, .slice none 0 0, .bool false, .int .u32 0, .int .u32 0, .slice none 0 0] 27)).heap.size := by rw [World.size_alloc, World.size_alloc]; omega
  have bw := ((Below.refl _ w).alloc (Nat.le_refl _) (.cells #[.int .u16 v0, .int .u16 v1, .int .u32 v2, .int .u32 v3, .int .u8 v4, .int .u16 v5, .int .u16 v6, .int .i64 v7, .bool v8, .int .i64 v9, .bool v10, .slice a xs.length cap, .bool v12, .int .u32 v13, .int .u32 v14, .slice b ys.length dap] 27)).alloc (by rw [World.size_alloc]; omega) (.cells #[.int .u16 0, .int .u16 0, .int .u32 0, .int .u32 0, .int .u8 0, .int .u16 0, .int .u16 0, .int .i64 0, .bool false, .int .i64 0, .bool false, .slice none 0 0, .bool false, .int .u32 0, .int .u32 0, .slice none 0 0] 27)
  rw [World.size_alloc] at hr0
  generalize (w.alloc (.cells #[.int .u16 v0, .int .u16 v1, .int .u32 v2, .int .u32 v3, .int .u8 v4, .int .u16 v5, .int .u16 v6, .int .i64 v7, .bool v8, .int .i64 v9, .bool v10, .slice a xs.length cap, .bool v12, .int .u32 v13, .int .u32 v14, .slice b ys.length dap] 27)).alloc (.cells #[.int .u16 0, .int .u16 0, .int .u32 0, .int .u32 0, .int .u8 0, .int .u16 0, .int .u16 0, .int .i64 0, .bool false, .int .i64 0, .bool false, .slice none 0 0, .bool false, .int .u32 0, .int .u32 0, .slice none 0 0] 27) = W0 at hb0 hr0 hsz bw ⊢
  have K0 := Lib.hid hb0
  have R0 := Lib.hid hr0
  have g1 := blk_cell hb0 11
  have g2 := blk_cell hb0 15
  have hlt : w.heap.size < W0.heap.size := by omega
  have X1 := Lib.hid (X0.out.below bw.drew)
  have Y1 := Lib.hid (Y0.out.below bw.drew)
  clear hb0 hr0
  go_cut [] (fun wx => copyTcp_cut v0 v1 v2 v3 v4 v5 v6 v7 v8 v9 v10 a xs cap v12 v13 v14 b ys dap w wx)
  case first =>
    go_region_with (first
      | (go_at_call 23; (with_reducible refine (copyBlocks_one a xs cap W0.drew X1.out hl HC.out).mono ?_); rintro e w1 ⟨a', cap', rfl, O, b1⟩; have k1 := (b1.block w.heap.size hlt).trans K0.out; have K1 := Lib.hid k1; have h2 := blk_cell k1 15; have R1 := Lib.hid ((b1.block (w.heap.size + 1) hsz).trans R0.out); have O1 := Lib.hid O; have Y2 := Lib.hid (Y1.out.below b1); have s1 := Nat.lt_of_lt_of_le hlt b1.size; have z1 := Nat.lt_of_lt_of_le hsz b1.size; have q1 := Lib.hid (bw.drew.trans (b1.mono (Nat.le_of_lt hlt))); clear k1 O b1)
      | (go_at_call 6; (with_reducible refine (copy_one b ys dap w1 Y2.out hm HD.out).mono ?_); rintro e w2 ⟨b', dap', rfl, O, b2⟩; have k2 := (b2.block w.heap.size s1).trans K1.out; have K2 := Lib.hid k2; have m1 := blk_cell k2 11; have m2 := blk_cell k2 15; have n1 := blk_free k2 11; have n2 := blk_free k2 15; have R2 := Lib.hid ((b2.block (w.heap.size + 1) z1).trans R1.out); have P2 := Lib.hid (O.mono z1); have O2 := Lib.hid ((O1.out.below b2).mono hsz); have s2 := Nat.lt_of_lt_of_le s1 b2.size; have q2 := Lib.hid (q1.out.trans (b2.mono q1.out.size)); clear k2 O b2))
    all_goals
      have KK := blk_set (blk_set K2.out 11 (.slice a' xs.length cap')) 15 (.slice b' ys.length dap')
      have RR := blk_other (blk_other R2.out (g' := w.heap.size) (i := 11) (by omega) (.slice a' xs.length cap')) (g' := w.heap.size) (i := 15) (by omega) (.slice b' ys.length dap')
      have QQ := (q2.out.setCell (p := ⟨w.heap.size, 11, none⟩) (Nat.le_refl _) (.slice a' xs.length cap')).setCell (p := ⟨w.heap.size, 15, none⟩) (Nat.le_refl _) (.slice b' ys.length dap')
      have OO := ((O2.out.setOther (i := 11) (v := .slice a' xs.length cap') (Nat.lt_succ_of_lt (Nat.lt_succ_self w.heap.size))).setOther (i := 15) (v := .slice b' ys.length dap') (Nat.lt_succ_of_lt (Nat.lt_succ_self w.heap.size)))
      have PP := ((P2.out.setOther (i := 11) (v := .slice a' xs.length cap') (Nat.lt_succ_of_lt (Nat.lt_succ_self w.heap.size))).setOther (i := 15) (v := .slice b' ys.length dap') (Nat.lt_succ_of_lt (Nat.lt_succ_self w.heap.size)))
      have CUT := Lib.hid (⟨a', cap', b', dap', KK, RR, OO, PP, QQ⟩ : copyTcp_cut v0 v1 v2 v3 v4 v5 v6 v7 v8 v9 v10 a xs cap v12 v13 v14 b ys dap w ((w2.setCell ⟨w.heap.size, 11, none⟩ (.slice a' xs.length cap')).setCell ⟨w.heap.size, 15, none⟩ (.slice b' ys.length dap')))
      clear KK RR QQ OO PP K2 R2 O2 P2 q2 K0 K1 R0 R1 O1 X0 Y0 X1 Y1 Y2 q1 bw
      go_wp2_with fail
      go_meet
      exact CUT.out
  case rest =>
    obtain ⟨a', cap', b', dap', KK, RR, OO, PP, QQ⟩ := hcut
    have HR := Lib.hid RR
    have HQ := Lib.hid QQ
    have HOO := Lib.hid OO
    have HPP := Lib.hid PP
    have uA := blk_cell KK 0
    have rA := blk_cell RR 0
    have tA := blk_free RR 0
    have uB := blk_cell KK 1
    have rB := blk_cell RR 1
    have tB := blk_free RR 1
    have uC := blk_cell KK 2
    have rC := blk_cell RR 2
    have tC := blk_free RR 2
    have uD := blk_cell KK 3
    have rD := blk_cell RR 3
    have tD := blk_free RR 3
    have uE := blk_cell KK 4
    have rE := blk_cell RR 4
    have tE := blk_free RR 4
    have uF := blk_cell KK 5
    have rF := blk_cell RR 5
    have tF := blk_free RR 5
    have uG := blk_cell KK 6
    have rG := blk_cell RR 6
    have tG := blk_free RR 6
    have uH := blk_cell KK 7
    have rH := blk_cell RR 7
    have tH := blk_free RR 7
    have uI := blk_cell KK 8
    have rI := blk_cell RR 8
    have tI := blk_free RR 8
    have uJ := blk_cell KK 9
    have rJ := blk_cell RR 9
    have tJ := blk_free RR 9
    have uK := blk_cell KK 10
    have rK := blk_cell RR 10
    have tK := blk_free RR 10
    have uL := blk_cell KK 11
    have rL := blk_cell RR 11
    have tL := blk_free RR 11
    have uM := blk_cell KK 12
    have rM := blk_cell RR 12
    have tM := blk_free RR 12
    have uN := blk_cell KK 13
    have rN := blk_cell RR 13
    have tN := blk_free RR 13
    have uO := blk_cell KK 14
    have rO := blk_cell RR 14
    have tO := blk_free RR 14
    have uP := blk_cell KK 15
    have rP := blk_cell RR 15
    have tP := blk_free RR 15
    have zz := (Array.getElem?_eq_some_iff.1 RR).1
    clear KK RR QQ OO PP g1 g2 K0 R0 X0 Y0 X1 Y1 bw
    go_wp2
    have F := (blk_set (blk_set (blk_set (blk_set (blk_set (blk_set (blk_set (blk_set (blk_set (blk_set (blk_set (blk_set (blk_set (blk_set (blk_set (blk_set HR.out 0 (.int .u16 v0)) 1 (.int .u16 v1)) 2 (.int .u32 v2)) 3 (.int .u32 v3)) 4 (.int .u8 v4)) 5 (.int .u16 v5)) 6 (.int .u16 v6)) 7 (.int .i64 v7)) 8 (.bool v8)) 9 (.int .i64 v9)) 10 (.bool v10)) 11 (.slice a' xs.length cap')) 12 (.bool v12)) 13 (.int .u32 v13)) 14 (.int .u32 v14)) 15 (.slice b' ys.length dap'))
    have Q := ((((((((((((((((HQ.out.setCell (p := ⟨w.heap.size + 1, 0, none⟩) (Nat.le_succ _) (.int .u16 v0)).setCell (p := ⟨w.heap.size + 1, 1, none⟩) (Nat.le_succ _) (.int .u16 v1)).setCell (p := ⟨w.heap.size + 1, 2, none⟩) (Nat.le_succ _) (.int .u32 v2)).setCell (p := ⟨w.heap.size + 1, 3, none⟩) (Nat.le_succ _) (.int .u32 v3)).setCell (p := ⟨w.heap.size + 1, 4, none⟩) (Nat.le_succ _) (.int .u8 v4)).setCell (p := ⟨w.heap.size + 1, 5, none⟩) (Nat.le_succ _) (.int .u16 v5)).setCell (p := ⟨w.heap.size + 1, 6, none⟩) (Nat.le_succ _) (.int .u16 v6)).setCell (p := ⟨w.heap.size + 1, 7, none⟩) (Nat.le_succ _) (.int .i64 v7)).setCell (p := ⟨w.heap.size + 1, 8, none⟩) (Nat.le_succ _) (.bool v8)).setCell (p := ⟨w.heap.size + 1, 9, none⟩) (Nat.le_succ _) (.int .i64 v9)).setCell (p := ⟨w.heap.size + 1, 10, none⟩) (Nat.le_succ _) (.bool v10)).setCell (p := ⟨w.heap.size + 1, 11, none⟩) (Nat.le_succ _) (.slice a' xs.length cap')).setCell (p := ⟨w.heap.size + 1, 12, none⟩) (Nat.le_succ _) (.bool v12)).setCell (p := ⟨w.heap.size + 1, 13, none⟩) (Nat.le_succ _) (.int .u32 v13)).setCell (p := ⟨w.heap.size + 1, 14, none⟩) (Nat.le_succ _) (.int .u32 v14)).setCell (p := ⟨w.heap.size + 1, 15, none⟩) (Nat.le_succ _) (.slice b' ys.length dap'))
    have OF := ((((((((((((((((HOO.out.setOther (i := 0) (v := .int .u16 v0) (Nat.lt_succ_self _)).setOther (i := 1) (v := .int .u16 v1) (Nat.lt_succ_self _)).setOther (i := 2) (v := .int .u32 v2) (Nat.lt_succ_self _)).setOther (i := 3) (v := .int .u32 v3) (Nat.lt_succ_self _)).setOther (i := 4) (v := .int .u8 v4) (Nat.lt_succ_self _)).setOther (i := 5) (v := .int .u16 v5) (Nat.lt_succ_self _)).setOther (i := 6) (v := .int .u16 v6) (Nat.lt_succ_self _)).setOther (i := 7) (v := .int .i64 v7) (Nat.lt_succ_self _)).setOther (i := 8) (v := .bool v8) (Nat.lt_succ_self _)).setOther (i := 9) (v := .int .i64 v9) (Nat.lt_succ_self _)).setOther (i := 10) (v := .bool v10) (Nat.lt_succ_self _)).setOther (i := 11) (v := .slice a' xs.length cap') (Nat.lt_succ_self _)).setOther (i := 12) (v := .bool v12) (Nat.lt_succ_self _)).setOther (i := 13) (v := .int .u32 v13) (Nat.lt_succ_self _)).setOther (i := 14) (v := .int .u32 v14) (Nat.lt_succ_self _)).setOther (i := 15) (v := .slice b' ys.length dap') (Nat.lt_succ_self _))
    have PF := ((((((((((((((((HPP.out.setOther (i := 0) (v := .int .u16 v0) (Nat.lt_succ_self _)).setOther (i := 1) (v := .int .u16 v1) (Nat.lt_succ_self _)).setOther (i := 2) (v := .int .u32 v2) (Nat.lt_succ_self _)).setOther (i := 3) (v := .int .u32 v3) (Nat.lt_succ_self _)).setOther (i := 4) (v := .int .u8 v4) (Nat.lt_succ_self _)).setOther (i := 5) (v := .int .u16 v5) (Nat.lt_succ_self _)).setOther (i := 6) (v := .int .u16 v6) (Nat.lt_succ_self _)).setOther (i := 7) (v := .int .i64 v7) (Nat.lt_succ_self _)).setOther (i := 8) (v := .bool v8) (Nat.lt_succ_self _)).setOther (i := 9) (v := .int .i64 v9) (Nat.lt_succ_self _)).setOther (i := 10) (v := .bool v10) (Nat.lt_succ_self _)).setOther (i := 11) (v := .slice a' xs.length cap') (Nat.lt_succ_self _)).setOther (i := 12) (v := .bool v12) (Nat.lt_succ_self _)).setOther (i := 13) (v := .int .u32 v13) (Nat.lt_succ_self _)).setOther (i := 14) (v := .int .u32 v14) (Nat.lt_succ_self _)).setOther (i := 15) (v := .slice b' ys.length dap') (Nat.lt_succ_self _))
    have fA := blk_cell F 0
    have fB := blk_cell F 1
    have fC := blk_cell F 2
    have fD := blk_cell F 3
    have fE := blk_cell F 4
    have fF := blk_cell F 5
    have fG := blk_cell F 6
    have fH := blk_cell F 7
    have fI := blk_cell F 8
    have fJ := blk_cell F 9
    have fK := blk_cell F 10
    have fL := blk_cell F 11
    have fM := blk_cell F 12
    have fN := blk_cell F 13
    have fO := blk_cell F 14
    have fP := blk_cell F 15
    exact bodyPost_ret (v := .agg #[.int .u16 v0, .int .u16 v1, .int .u32 v2, .int .u32 v3, .int .u8 v4, .int .u16 v5, .int .u16 v6, .int .i64 v7, .bool v8, .int .i64 v9, .bool v10, .slice a' xs.length cap', .bool v12, .int .u32 v13, .int .u32 v14, .slice b' ys.length dap']) (by simp [results, Try.results7, go_sem, fA, fB, fC, fD, fE, fF, fG, fH, fI, fJ, fK, fL, fM, fN, fO, fP]) rfl ⟨a', cap', b', dap', rfl, OF.mono (Nat.le_add_right _ 2), PF.mono (Nat.le_add_right _ 2), Q⟩
end Go.Proofs.Ytgmgoilleakdcaa

namespace Go.Proofs.Ytgmgoilleakdcaa
open Go.RowKit

theorem yieldsIf_tcp {ops : Array Oper} {S : World → Prop} {op : Oper} {a : Act} (hw : Region.wanted op (yielded ops a.tmps) = true) (x : Operand) (ho : op.op = .load 27 x)
    (g : Nat) (hx : a.eval x = .pointer (some ⟨g, 0, none⟩)) (cs : Array Value) (hS : ∀ w, S w → TcpAt w g cs) (hs : cs.size = 16) : YieldsIf Try.prog ops S op (.agg cs) a := by
  have h := yieldsIf_load_mid (P := Try.prog) (ops := ops) (S := S) (op := op) (a := a) hw 27 x ho g 0 hx cs.toList _ (fun w h => (hS w h).range) Try.underlying27 rfl (by rw [tcp_size]; simp [hs])
  simpa using h

theorem wpList_load_tcpG {ops : Array Oper} {rest : List Oper} {op : Oper} {a : Act} {w : World} {Q : Exit → Act → World → Prop} (hw : Region.wanted op (yielded ops a.tmps) = true) (x : Operand) (ho : op.op = .load 27 x)
    (g : Nat) (hx : a.eval x = .pointer (some ⟨g, 0, none⟩)) (cs : Array Value) (hb : TcpAt w g cs) (hs : cs.size = 16)
    (h : wpList Try.prog ops Q rest (a.put op.dst (.agg cs)) w) : wpList Try.prog ops Q (op :: rest) a w :=
  wpList_step fun K hK => by
    rw [if_pos hw]
    exact wp_load_mid 27 x ho g 0 hx cs.toList _ hb.range Try.underlying27 rfl (by rw [tcp_size]; simp [hs]) (by simpa using hK _ _ h)

theorem OwnBlk.kept {B g cap : Nat} {a : Option Addr} {bs : List (Nat × Nat)} {w w' : World} (h : OwnBlk B w a bs cap) (hg : w.grownBy w' (some g)) (hlt : g < B) : OwnBlk B w' a bs cap := by
  refine ⟨⟨h.1.1, ?_⟩, h.2⟩
  rcases h.1.2 with h0 | ⟨b, off, e, hb, hc⟩
  · exact .inl h0
  · right
    have hne : b ≠ g := by
      rcases h.2 with ⟨e2, _⟩ | ⟨g2, e2, hg2⟩
      · rw [e] at e2; cases e2
      · rw [e] at e2
        have e3 := congrArg (fun x => x.block) (Option.some.inj e2)
        dsimp only at e3
        omega
    have hblk := hg.block b hb (fun e => hne (Option.some.inj e))
    exact ⟨b, off, e, Nat.lt_of_lt_of_le hb hg.size, fun i hi => ⟨(World.cell?_of_block hblk).trans (hc i hi).1, (World.cell?_of_block hblk).trans (hc i hi).2⟩⟩
end Go.Proofs.Ytgmgoilleakdcaa
