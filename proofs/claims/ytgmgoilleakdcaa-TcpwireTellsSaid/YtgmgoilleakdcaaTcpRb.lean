/- Tcpwire's document: word, fits, one option. -/
import Derived.Test.YtgmgoilleakdcaaTcpAll
import Derived.Test.YtgmgoilleakdcaaGNum
import Derived.Deep.RegionLaw
import Derived.Deep.RegionWith
import Derived.StillTailTactics
import Derived.Test.YtgmgoilleakdcaaGTailQ
import Derived.BigQuiet
namespace Go.Proofs.Ytgmgoilleakdcaa
open Go.RowKit

/-- Results of which the first lies in a box: a segment; alone, or with a number. -/
theorem results_tcp1 {fn : Func} {i : Nat} (hr : fn.results = #[.cell i 27]) (tmps : Array Value) (w : World) (g : Nat) (cs : Array Value) (h6 : tmps.getD i undef = .pointer (some ⟨g, 0, none⟩)) (hb : TcpAt w g cs) (hs : cs.size = 16) :
    (results fn tmps).run Try.prog w = .ok (.agg cs) w := by
  have hl := run_loadVar_mid (P := Try.prog) w g 0 27 cs.toList _ hb.range Try.underlying27 rfl (by rw [tcp_size]; simp [hs])
  rw [Array.getD_eq_getD_getElem?] at h6
  rw [Array.toArray_toList] at hl
  simp [results, hr, h6, asAddr, hl]
theorem results_tcp2 {fn : Func} {i j : Nat} (hr : fn.results = #[.cell i 27, .tmp j]) (tmps : Array Value) (w : World) (g : Nat) (cs : Array Value) (v : Value) (h6 : tmps.getD i undef = .pointer (some ⟨g, 0, none⟩)) (h7 : tmps.getD j undef = v) (hb : TcpAt w g cs) (hs : cs.size = 16) :
    (results fn tmps).run Try.prog w = .ok (.tuple #[.agg cs, v]) w := by
  have hl := run_loadVar_mid (P := Try.prog) w g 0 27 cs.toList _ hb.range Try.underlying27 rfl (by rw [tcp_size]; simp [hs])
  rw [Array.getD_eq_getD_getElem?] at h6 h7
  rw [Array.toArray_toList] at hl
  simp [results, hr, h6, h7, asAddr, hl]
set_option maxHeartbeats 400000 in
theorem rword_any (a : Option Addr) (xs : List Nat) (cap : Nat) (w : World) (h : Bts w a xs) (hl : xs.length ≤ 4) :
    Calls Try.prog 34 #[.slice a xs.length cap] w fun e w' => e = .returned (.int .u32 (Mt.numOf xs : Nat)) ∧ w = w' := by
  have hn := Lib.hid (number_any a xs cap w h (by omega))
  have hb : Mt.numOf xs < 4294967296 := by
    have h1 := Mt.numOf_lt xs h.1
    have h2 : 256 ^ xs.length ≤ 256 ^ 4 := Nat.pow_le_pow_right (by decide) hl
    omega
  obtain ⟨v, hv⟩ : ∃ v, Mt.numOf xs = v := ⟨_, rfl⟩
  rw [hv] at hn hb ⊢
  have W : IntKind.u32.wrap (v : Int) = (v : Int) := by rw [IntKind.wrap_u32]; omega
  clear h hv
  go_enter Try.func34, Try.ntmps34
  go_wp2_with (first | (go_at_call 45; refine hn.out.mono ?_; rintro e w' ⟨rfl, rfl⟩) | fail)
  go_ret
  exact ⟨rfl, rfl⟩
set_option maxHeartbeats 1000000 in
theorem rfits_any (k n : Nat) (w : World) : Calls Try.prog 46 #[.int .u8 (k : Nat), .int .i64 (n : Nat)] w fun e w' => e = .returned (.bool (tcpFits k n)) ∧ w = w' := by
  unfold tcpFits
  by_cases k2 : k = 2
  case pos =>
    subst k2
    rw [if_pos rfl, ← beq_nat n 4]
    go_enter Try.func46, Try.ntmps46
    go_wp2
    go_ret
    exact ⟨rfl, rfl⟩
  case neg =>
  have q2 : ((k : Int) == 2) = false := by rw [beq_eq_false_iff_ne]; omega
  rw [if_neg k2]
  by_cases k3 : k = 3
  case pos =>
    subst k3
    rw [if_pos rfl, ← beq_nat n 3]
    go_enter Try.func46, Try.ntmps46
    go_wp2
    go_ret
    exact ⟨rfl, rfl⟩
  case neg =>
  have q3 : ((k : Int) == 3) = false := by rw [beq_eq_false_iff_ne]; omega
  rw [if_neg k3]
  by_cases k4 : k = 4
  case pos =>
    subst k4
    rw [if_pos rfl, ← beq_nat n 2]
    go_enter Try.func46, Try.ntmps46
    go_wp2
    go_ret
    exact ⟨rfl, rfl⟩
  case neg =>
  have q4 : ((k : Int) == 4) = false := by rw [beq_eq_false_iff_ne]; omega
  rw [if_neg k4]
  by_cases k8 : k = 8
  case pos =>
    subst k8
    rw [if_pos rfl, ← beq_nat n 10]
    go_enter Try.func46, Try.ntmps46
    go_wp2
    go_ret
    exact ⟨rfl, rfl⟩
  case neg =>
  have q8 : ((k : Int) == 8) = false := by rw [beq_eq_false_iff_ne]; omega
  rw [if_neg k8]
  by_cases k5 : k = 5
  case pos =>
    subst k5
    rw [if_pos rfl]
    by_cases n10 : n = 10
    case pos =>
      subst n10
      go_enter Try.func46, Try.ntmps46
      go_wp2
      go_ret
      exact ⟨rfl, rfl⟩
    case neg =>
    have m10 : ((n : Int) == 10) = false := by rw [beq_eq_false_iff_ne]; omega
    by_cases n18 : n = 18
    case pos =>
      subst n18
      go_enter Try.func46, Try.ntmps46
      go_wp2
      go_ret
      exact ⟨rfl, rfl⟩
    case neg =>
    have m18 : ((n : Int) == 18) = false := by rw [beq_eq_false_iff_ne]; omega
    by_cases n26 : n = 26
    case pos =>
      subst n26
      go_enter Try.func46, Try.ntmps46
      go_wp2
      go_ret
      exact ⟨rfl, rfl⟩
    case neg =>
    have m26 : ((n : Int) == 26) = false := by rw [beq_eq_false_iff_ne]; omega
    have p10 : (n == 10) = false := by rw [beq_eq_false_iff_ne]; exact n10
    have p18 : (n == 18) = false := by rw [beq_eq_false_iff_ne]; exact n18
    have p26 : (n == 26) = false := by rw [beq_eq_false_iff_ne]; exact n26
    rw [p10, p18, p26, ← beq_nat n 34]
    simp only [Bool.false_or]
    clear p10 p18 p26 n10 n18 n26
    go_enter Try.func46, Try.ntmps46
    go_wp2
    go_ret
    exact ⟨rfl, rfl⟩
  case neg =>
  have q5 : ((k : Int) == 5) = false := by rw [beq_eq_false_iff_ne]; omega
  rw [if_neg k5]
  go_enter Try.func46, Try.ntmps46
  go_wp2
  go_ret
  exact ⟨rfl, rfl⟩
end Go.Proofs.Ytgmgoilleakdcaa

namespace Go.Proofs.Ytgmgoilleakdcaa
open Go.RowKit Go.Sort Go.BigFrame

set_option maxRecDepth 100000 in
set_option maxHeartbeats 2000000 in
theorem rone_scale (sp dp sq ak fl wn ur mss : Nat) (hs : Bool) (sc : Nat) (sk : Bool) (va : Option Addr) (vn vc : Nat) (ht : Bool) (tv te : Nat) (da : Option Addr) (dn dc : Nat) (a : Option Addr) (ys : List Nat) (c : Nat) (w : World) (hx : Bts w a ys) (hl : ys.length = 1) :
    Calls Try.prog 47 #[.agg #[.int .u16 (sp : Nat), .int .u16 (dp : Nat), .int .u32 (sq : Nat), .int .u32 (ak : Nat), .int .u8 (fl : Nat), .int .u16 (wn : Nat), .int .u16 (ur : Nat), .int .i64 (mss : Nat), .bool hs, .int .i64 (sc : Nat), .bool sk, .slice va vn vc, .bool ht, .int .u32 (tv : Nat), .int .u32 (te : Nat), .slice da dn dc], .int .u8 3, .slice a ys.length c] w fun e w' => e = .returned (.agg #[.int .u16 (sp : Nat), .int .u16 (dp : Nat), .int .u32 (sq : Nat), .int .u32 (ak : Nat), .int .u8 (fl : Nat), .int .u16 (wn : Nat), .int .u16 (ur : Nat), .int .i64 (mss : Nat), .bool true, .int .i64 (ys.getD 0 0 : Nat), .bool sk, .slice va vn vc, .bool ht, .int .u32 (tv : Nat), .int .u32 (te : Nat), .slice da dn dc]) ∧ Below w.heap.size w w' := by
  obtain ⟨gs, hgs⟩ : ∃ z, w.heap.size = z := ⟨_, rfl⟩
  have hs1 : (w.alloc (.cells #[.int .u16 (sp : Nat), .int .u16 (dp : Nat), .int .u32 (sq : Nat), .int .u32 (ak : Nat), .int .u8 (fl : Nat), .int .u16 (wn : Nat), .int .u16 (ur : Nat), .int .i64 (mss : Nat), .bool hs, .int .i64 (sc : Nat), .bool sk, .slice va vn vc, .bool ht, .int .u32 (tv : Nat), .int .u32 (te : Nat), .slice da dn dc] 27)).heap.size = gs + 1 := by simp [hgs]
  have b1 := (Below.refl w.heap.size w).alloc (Nat.le_refl _) (.cells #[.int .u16 (sp : Nat), .int .u16 (dp : Nat), .int .u32 (sq : Nat), .int .u32 (ak : Nat), .int .u8 (fl : Nat), .int .u16 (wn : Nat), .int .u16 (ur : Nat), .int .i64 (mss : Nat), .bool hs, .int .i64 (sc : Nat), .bool sk, .slice va vn vc, .bool ht, .int .u32 (tv : Nat), .int .u32 (te : Nat), .slice da dn dc] 27)
  have k1 := blk_new w (.cells #[.int .u16 (sp : Nat), .int .u16 (dp : Nat), .int .u32 (sq : Nat), .int .u32 (ak : Nat), .int .u8 (fl : Nat), .int .u16 (wn : Nat), .int .u16 (ur : Nat), .int .i64 (mss : Nat), .bool hs, .int .i64 (sc : Nat), .bool sk, .slice va vn vc, .bool ht, .int .u32 (tv : Nat), .int .u32 (te : Nat), .slice da dn dc] 27)
  have b2 := (Below.refl (w.alloc (.cells #[.int .u16 (sp : Nat), .int .u16 (dp : Nat), .int .u32 (sq : Nat), .int .u32 (ak : Nat), .int .u8 (fl : Nat), .int .u16 (wn : Nat), .int .u16 (ur : Nat), .int .i64 (mss : Nat), .bool hs, .int .i64 (sc : Nat), .bool sk, .slice va vn vc, .bool ht, .int .u32 (tv : Nat), .int .u32 (te : Nat), .slice da dn dc] 27)).heap.size (w.alloc (.cells #[.int .u16 (sp : Nat), .int .u16 (dp : Nat), .int .u32 (sq : Nat), .int .u32 (ak : Nat), .int .u8 (fl : Nat), .int .u16 (wn : Nat), .int .u16 (ur : Nat), .int .i64 (mss : Nat), .bool hs, .int .i64 (sc : Nat), .bool sk, .slice va vn vc, .bool ht, .int .u32 (tv : Nat), .int .u32 (te : Nat), .slice da dn dc] 27))).alloc (Nat.le_refl _) (.cells #[.int .u16 0, .int .u16 0, .int .u32 0, .int .u32 0, .int .u8 0, .int .u16 0, .int .u16 0, .int .i64 0, .bool false, .int .i64 0, .bool false, .slice none 0 0, .bool false, .int .u32 0, .int .u32 0, .slice none 0 0] 27)
  have k2 := blk_new (w.alloc (.cells #[.int .u16 (sp : Nat), .int .u16 (dp : Nat), .int .u32 (sq : Nat), .int .u32 (ak : Nat), .int .u8 (fl : Nat), .int .u16 (wn : Nat), .int .u16 (ur : Nat), .int .i64 (mss : Nat), .bool hs, .int .i64 (sc : Nat), .bool sk, .slice va vn vc, .bool ht, .int .u32 (tv : Nat), .int .u32 (te : Nat), .slice da dn dc] 27)) (.cells #[.int .u16 0, .int .u16 0, .int .u32 0, .int .u32 0, .int .u8 0, .int .u16 0, .int .u16 0, .int .i64 0, .bool false, .int .i64 0, .bool false, .slice none 0 0, .bool false, .int .u32 0, .int .u32 0, .slice none 0 0] 27)
  have k1' := (b2.block _ (Array.getElem?_eq_some_iff.1 k1).1).trans k1
  rw [hs1] at k2
  rw [hgs] at k1'
  have Q0 := Lib.hid (b1.trans (b2.mono b1.size))
  have K1 := Lib.hid k1'
  have K2 := Lib.hid k2
  have X0 := Lib.hid (hx.below Q0.out)
  have hx0 := Lib.hid hx
  clear hx b1 b2 k1 k1' k2
  obtain ⟨v, hv⟩ : ∃ v, ys.getD 0 0 = v := ⟨_, rfl⟩
  rw [hv]
  have HV := Lib.hid hv
  clear hv
  go_enter Try.func47, Try.ntmps47
  go_upto_region 1 with fail
  generalize (w.alloc (.cells #[.int .u16 (sp : Nat), .int .u16 (dp : Nat), .int .u32 (sq : Nat), .int .u32 (ak : Nat), .int .u8 (fl : Nat), .int .u16 (wn : Nat), .int .u16 (ur : Nat), .int .i64 (mss : Nat), .bool hs, .int .i64 (sc : Nat), .bool sk, .slice va vn vc, .bool ht, .int .u32 (tv : Nat), .int .u32 (te : Nat), .slice da dn dc] 27)).alloc (.cells #[.int .u16 0, .int .u16 0, .int .u32 0, .int .u32 0, .int .u8 0, .int .u16 0, .int .u16 0, .int .i64 0, .bool false, .int .i64 0, .bool false, .slice none 0 0, .bool false, .int .u32 0, .int .u32 0, .slice none 0 0] 27) = V0 at K1 K2 Q0 X0 ⊢
  have ht1 : Hid (TcpAt V0 gs #[.int .u16 (sp : Nat), .int .u16 (dp : Nat), .int .u32 (sq : Nat), .int .u32 (ak : Nat), .int .u8 (fl : Nat), .int .u16 (wn : Nat), .int .u16 (ur : Nat), .int .i64 (mss : Nat), .bool hs, .int .i64 (sc : Nat), .bool sk, .slice va vn vc, .bool ht, .int .u32 (tv : Nat), .int .u32 (te : Nat), .slice da dn dc]) := Lib.hid K1.out
  have ht2 : Hid (TcpAt V0 (gs + 1) #[.int .u16 0, .int .u16 0, .int .u32 0, .int .u32 0, .int .u8 0, .int .u16 0, .int .u16 0, .int .i64 0, .bool false, .int .i64 0, .bool false, .slice none 0 0, .bool false, .int .u32 0, .int .u32 0, .slice none 0 0]) := Lib.hid K2.out
  have HGS := Lib.hid hgs
  clear K1 K2 hs1 hgs
  obtain ⟨bb, bo, rfl, hbl, hbc⟩ := X0.out.isSome (by omega)
  have c0 := hbc 0 (by omega)
  rw [Nat.add_zero, HV.out] at c0
  have hv8 : v < 256 := by rw [← HV.out]; exact Mt.getD_lt ys X0.out.1 0
  have W : IntKind.i64.wrap (v : Int) = (v : Int) := IntWalk.i64_in _ ⟨by omega, by omega⟩
  have i0 : (0 : Int) < (ys.length : Int) := by omega
  have htd : Hid (TcpAt V0.drew gs #[.int .u16 (sp : Nat), .int .u16 (dp : Nat), .int .u32 (sq : Nat), .int .u32 (ak : Nat), .int .u8 (fl : Nat), .int .u16 (wn : Nat), .int .u16 (ur : Nat), .int .i64 (mss : Nat), .bool hs, .int .i64 (sc : Nat), .bool sk, .slice va vn vc, .bool ht, .int .u32 (tv : Nat), .int .u32 (te : Nat), .slice da dn dc]) := Lib.hid ht1.out
  have c8 := blk_cell (htd.out) 8
  have f8 := blk_free (htd.out) 8
  have c9 := blk_cell (htd.out) 9
  have f9 := blk_free (htd.out) 9
  have hs8 := blk_set ht1.out 8 (.bool true)
  have c9b : (V0.setCell ⟨gs, 8, none⟩ (.bool true)).drew.cell? ⟨gs, 9, none⟩ = some (.int .i64 (sc : Nat)) := blk_cell hs8 9
  have f9b : (V0.setCell ⟨gs, 8, none⟩ (.bool true)).drew.frozen? ⟨gs, 9, none⟩ = false := blk_free hs8 9
  have c0' : V0.drew.cell? ⟨bb, bo, none⟩ = some (.int .u8 (v : Nat)) := c0
  have hneb : bb ≠ gs := fun e => (by
    obtain ⟨b2, o2, e2, h2, _⟩ := hx0.out.isSome (by omega)
    injection e2 with e2; injection e2 with e2 e3
    have := HGS.out; omega)
  clear hbc hl
  go_upto_region 5 with fail
  go_region
  clear c8 f8 c9 f9 c9b f9b c0 c0' hs8 htd
  have s8 := blk_set (ht1.out) 8 (.bool true)
  have g8 := grown_set (V0) gs 8 (.bool true)
  have s9 := blk_set (s8) 9 (.int .i64 (v : Nat))
  have g9 := grown_set ((V0).setCell ⟨gs, 8, none⟩ (.bool true)) gs 9 (.int .i64 (v : Nat))
  have HT1 : Hid (TcpAt (((V0).setCell ⟨gs, 8, none⟩ (.bool true)).setCell ⟨gs, 9, none⟩ (.int .i64 (v : Nat))) gs #[.int .u16 (sp : Nat), .int .u16 (dp : Nat), .int .u32 (sq : Nat), .int .u32 (ak : Nat), .int .u8 (fl : Nat), .int .u16 (wn : Nat), .int .u16 (ur : Nat), .int .i64 (mss : Nat), .bool true, .int .i64 (v : Nat), .bool sk, .slice va vn vc, .bool ht, .int .u32 (tv : Nat), .int .u32 (te : Nat), .slice da dn dc]) := Lib.hid s9
  have gA := (g8).trans g9
  have HT2 : Hid (TcpAt (((V0).setCell ⟨gs, 8, none⟩ (.bool true)).setCell ⟨gs, 9, none⟩ (.int .i64 (v : Nat))) (gs + 1) #[.int .u16 0, .int .u16 0, .int .u32 0, .int .u32 0, .int .u8 0, .int .u16 0, .int .u16 0, .int .i64 0, .bool false, .int .i64 0, .bool false, .slice none 0 0, .bool false, .int .u32 0, .int .u32 0, .slice none 0 0]) := Lib.hid ((gA.block (gs + 1) (Array.getElem?_eq_some_iff.1 ht2.out).1 (fun e => by have := Option.some.inj e; omega)).trans ht2.out)
  have Q1 := Lib.hid (Q0.out.grown gA Q0.out.size (fun k e => by cases e; have := HGS.out; omega))
  clear s8 g8 s9 g9 gA ht1 ht2 Q0
  generalize ((V0).setCell ⟨gs, 8, none⟩ (.bool true)).setCell ⟨gs, 9, none⟩ (.int .i64 (v : Nat)) = V1 at HT1 HT2 Q1 ⊢
  have HD1 : Hid (TcpAt V1.drew gs #[.int .u16 (sp : Nat), .int .u16 (dp : Nat), .int .u32 (sq : Nat), .int .u32 (ak : Nat), .int .u8 (fl : Nat), .int .u16 (wn : Nat), .int .u16 (ur : Nat), .int .i64 (mss : Nat), .bool true, .int .i64 (v : Nat), .bool sk, .slice va vn vc, .bool ht, .int .u32 (tv : Nat), .int .u32 (te : Nat), .slice da dn dc]) := Lib.hid HT1.out
  have HD2 : Hid (TcpAt V1.drew (gs + 1) #[.int .u16 0, .int .u16 0, .int .u32 0, .int .u32 0, .int .u8 0, .int .u16 0, .int .u16 0, .int .i64 0, .bool false, .int .i64 0, .bool false, .slice none 0 0, .bool false, .int .u32 0, .int .u32 0, .slice none 0 0]) := Lib.hid HT2.out
  have QD := Lib.hid Q1.out.drew
  go_wp2_with (first
    | ((with_reducible show wpList _ _ _ _ _ _); refine wpList_load_tcp rfl (.tmp 3) rfl gs rfl _ HD1.out rfl ?_)
    | ((with_reducible show wpList _ _ _ _ _ _); refine wpList_store_tcp rfl (.tmp 6) (.tmp 64) rfl (gs + 1) _ #[.int .u16 (sp : Nat), .int .u16 (dp : Nat), .int .u32 (sq : Nat), .int .u32 (ak : Nat), .int .u8 (fl : Nat), .int .u16 (wn : Nat), .int .u16 (ur : Nat), .int .i64 (mss : Nat), .bool true, .int .i64 (v : Nat), .bool sk, .slice va vn vc, .bool ht, .int .u32 (tv : Nat), .int .u32 (te : Nat), .slice da dn dc] rfl rfl HD2.out rfl rfl (by simp [Value.oneCell']) ?_; intro VE hs2 hg2; have K2 := Lib.hid hs2; have G2 := Lib.hid hg2; clear hs2 hg2)
    | fail)
  exact bodyPost_ret (results_tcp1 rfl _ _ (gs + 1) _ rfl K2.out rfl) rfl ⟨rfl, QD.out.grown G2.out QD.out.size (fun j e => by cases e; have := HGS.out; omega)⟩
set_option maxRecDepth 100000 in
set_option maxHeartbeats 2000000 in
theorem rone_other (sp dp sq ak fl wn ur mss : Nat) (hs : Bool) (sc : Nat) (sk : Bool) (va : Option Addr) (vn vc : Nat) (ht : Bool) (tv te : Nat) (da : Option Addr) (dn dc : Nat) (a : Option Addr) (ys : List Nat) (c : Nat) (w : World) (hx : Bts w a ys) (k : Nat) (hk : k ≠ 2 ∧ k ≠ 3 ∧ k ≠ 4 ∧ k ≠ 8 ∧ k ≠ 5) :
    Calls Try.prog 47 #[.agg #[.int .u16 (sp : Nat), .int .u16 (dp : Nat), .int .u32 (sq : Nat), .int .u32 (ak : Nat), .int .u8 (fl : Nat), .int .u16 (wn : Nat), .int .u16 (ur : Nat), .int .i64 (mss : Nat), .bool hs, .int .i64 (sc : Nat), .bool sk, .slice va vn vc, .bool ht, .int .u32 (tv : Nat), .int .u32 (te : Nat), .slice da dn dc], .int .u8 (k : Nat), .slice a ys.length c] w fun e w' => e = .returned (.agg #[.int .u16 (sp : Nat), .int .u16 (dp : Nat), .int .u32 (sq : Nat), .int .u32 (ak : Nat), .int .u8 (fl : Nat), .int .u16 (wn : Nat), .int .u16 (ur : Nat), .int .i64 (mss : Nat), .bool hs, .int .i64 (sc : Nat), .bool sk, .slice va vn vc, .bool ht, .int .u32 (tv : Nat), .int .u32 (te : Nat), .slice da dn dc]) ∧ Below w.heap.size w w' := by
  obtain ⟨gs, hgs⟩ : ∃ z, w.heap.size = z := ⟨_, rfl⟩
  have hs1 : (w.alloc (.cells #[.int .u16 (sp : Nat), .int .u16 (dp : Nat), .int .u32 (sq : Nat), .int .u32 (ak : Nat), .int .u8 (fl : Nat), .int .u16 (wn : Nat), .int .u16 (ur : Nat), .int .i64 (mss : Nat), .bool hs, .int .i64 (sc : Nat), .bool sk, .slice va vn vc, .bool ht, .int .u32 (tv : Nat), .int .u32 (te : Nat), .slice da dn dc] 27)).heap.size = gs + 1 := by simp [hgs]
  have b1 := (Below.refl w.heap.size w).alloc (Nat.le_refl _) (.cells #[.int .u16 (sp : Nat), .int .u16 (dp : Nat), .int .u32 (sq : Nat), .int .u32 (ak : Nat), .int .u8 (fl : Nat), .int .u16 (wn : Nat), .int .u16 (ur : Nat), .int .i64 (mss : Nat), .bool hs, .int .i64 (sc : Nat), .bool sk, .slice va vn vc, .bool ht, .int .u32 (tv : Nat), .int .u32 (te : Nat), .slice da dn dc] 27)
  have k1 := blk_new w (.cells #[.int .u16 (sp : Nat), .int .u16 (dp : Nat), .int .u32 (sq : Nat), .int .u32 (ak : Nat), .int .u8 (fl : Nat), .int .u16 (wn : Nat), .int .u16 (ur : Nat), .int .i64 (mss : Nat), .bool hs, .int .i64 (sc : Nat), .bool sk, .slice va vn vc, .bool ht, .int .u32 (tv : Nat), .int .u32 (te : Nat), .slice da dn dc] 27)
  have b2 := (Below.refl (w.alloc (.cells #[.int .u16 (sp : Nat), .int .u16 (dp : Nat), .int .u32 (sq : Nat), .int .u32 (ak : Nat), .int .u8 (fl : Nat), .int .u16 (wn : Nat), .int .u16 (ur : Nat), .int .i64 (mss : Nat), .bool hs, .int .i64 (sc : Nat), .bool sk, .slice va vn vc, .bool ht, .int .u32 (tv : Nat), .int .u32 (te : Nat), .slice da dn dc] 27)).heap.size (w.alloc (.cells #[.int .u16 (sp : Nat), .int .u16 (dp : Nat), .int .u32 (sq : Nat), .int .u32 (ak : Nat), .int .u8 (fl : Nat), .int .u16 (wn : Nat), .int .u16 (ur : Nat), .int .i64 (mss : Nat), .bool hs, .int .i64 (sc : Nat), .bool sk, .slice va vn vc, .bool ht, .int .u32 (tv : Nat), .int .u32 (te : Nat), .slice da dn dc] 27))).alloc (Nat.le_refl _) (.cells #[.int .u16 0, .int .u16 0, .int .u32 0, .int .u32 0, .int .u8 0, .int .u16 0, .int .u16 0, .int .i64 0, .bool false, .int .i64 0, .bool false, .slice none 0 0, .bool false, .int .u32 0, .int .u32 0, .slice none 0 0] 27)
  have k2 := blk_new (w.alloc (.cells #[.int .u16 (sp : Nat), .int .u16 (dp : Nat), .int .u32 (sq : Nat), .int .u32 (ak : Nat), .int .u8 (fl : Nat), .int .u16 (wn : Nat), .int .u16 (ur : Nat), .int .i64 (mss : Nat), .bool hs, .int .i64 (sc : Nat), .bool sk, .slice va vn vc, .bool ht, .int .u32 (tv : Nat), .int .u32 (te : Nat), .slice da dn dc] 27)) (.cells #[.int .u16 0, .int .u16 0, .int .u32 0, .int .u32 0, .int .u8 0, .int .u16 0, .int .u16 0, .int .i64 0, .bool false, .int .i64 0, .bool false, .slice none 0 0, .bool false, .int .u32 0, .int .u32 0, .slice none 0 0] 27)
  have k1' := (b2.block _ (Array.getElem?_eq_some_iff.1 k1).1).trans k1
  rw [hs1] at k2
  rw [hgs] at k1'
  have Q0 := Lib.hid (b1.trans (b2.mono b1.size))
  have K1 := Lib.hid k1'
  have K2 := Lib.hid k2
  have X0 := Lib.hid (hx.below Q0.out)
  have hx0 := Lib.hid hx
  clear hx b1 b2 k1 k1' k2
  have q2 : ((k : Int) == 2) = false := by rw [beq_eq_false_iff_ne]; omega
  have q3 : ((k : Int) == 3) = false := by rw [beq_eq_false_iff_ne]; omega
  have q4 : ((k : Int) == 4) = false := by rw [beq_eq_false_iff_ne]; omega
  have q8 : ((k : Int) == 8) = false := by rw [beq_eq_false_iff_ne]; omega
  have q5 : ((k : Int) == 5) = false := by rw [beq_eq_false_iff_ne]; omega
  go_enter Try.func47, Try.ntmps47
  go_upto_region 1 with fail
  generalize (w.alloc (.cells #[.int .u16 (sp : Nat), .int .u16 (dp : Nat), .int .u32 (sq : Nat), .int .u32 (ak : Nat), .int .u8 (fl : Nat), .int .u16 (wn : Nat), .int .u16 (ur : Nat), .int .i64 (mss : Nat), .bool hs, .int .i64 (sc : Nat), .bool sk, .slice va vn vc, .bool ht, .int .u32 (tv : Nat), .int .u32 (te : Nat), .slice da dn dc] 27)).alloc (.cells #[.int .u16 0, .int .u16 0, .int .u32 0, .int .u32 0, .int .u8 0, .int .u16 0, .int .u16 0, .int .i64 0, .bool false, .int .i64 0, .bool false, .slice none 0 0, .bool false, .int .u32 0, .int .u32 0, .slice none 0 0] 27) = V0 at K1 K2 Q0 X0 ⊢
  have ht1 : Hid (TcpAt V0 gs #[.int .u16 (sp : Nat), .int .u16 (dp : Nat), .int .u32 (sq : Nat), .int .u32 (ak : Nat), .int .u8 (fl : Nat), .int .u16 (wn : Nat), .int .u16 (ur : Nat), .int .i64 (mss : Nat), .bool hs, .int .i64 (sc : Nat), .bool sk, .slice va vn vc, .bool ht, .int .u32 (tv : Nat), .int .u32 (te : Nat), .slice da dn dc]) := Lib.hid K1.out
  have ht2 : Hid (TcpAt V0 (gs + 1) #[.int .u16 0, .int .u16 0, .int .u32 0, .int .u32 0, .int .u8 0, .int .u16 0, .int .u16 0, .int .i64 0, .bool false, .int .i64 0, .bool false, .slice none 0 0, .bool false, .int .u32 0, .int .u32 0, .slice none 0 0]) := Lib.hid K2.out
  have HGS := Lib.hid hgs
  clear K1 K2 hs1 hgs
  go_wp2_with (first
    | ((with_reducible show wpList _ _ _ _ _ _); refine wpList_load_tcp rfl (.tmp 3) rfl gs rfl _ ht1.out rfl ?_)
    | ((with_reducible show wpList _ _ _ _ _ _); refine wpList_store_tcp rfl (.tmp 6) (.tmp 64) rfl (gs + 1) _ #[.int .u16 (sp : Nat), .int .u16 (dp : Nat), .int .u32 (sq : Nat), .int .u32 (ak : Nat), .int .u8 (fl : Nat), .int .u16 (wn : Nat), .int .u16 (ur : Nat), .int .i64 (mss : Nat), .bool hs, .int .i64 (sc : Nat), .bool sk, .slice va vn vc, .bool ht, .int .u32 (tv : Nat), .int .u32 (te : Nat), .slice da dn dc] rfl rfl ht2.out rfl rfl (by simp [Value.oneCell']) ?_; intro VE hs2 hg2; have K2 := Lib.hid hs2; have G2 := Lib.hid hg2; clear hs2 hg2)
    | fail)
  exact bodyPost_ret (results_tcp1 rfl _ _ (gs + 1) _ rfl K2.out rfl) rfl ⟨rfl, Q0.out.grown G2.out Q0.out.size (fun j e => by cases e; have := HGS.out; omega)⟩
set_option maxRecDepth 100000 in
set_option maxHeartbeats 2000000 in
theorem rone_mss (sp dp sq ak fl wn ur mss : Nat) (hs : Bool) (sc : Nat) (sk : Bool) (va : Option Addr) (vn vc : Nat) (ht : Bool) (tv te : Nat) (da : Option Addr) (dn dc : Nat) (a : Option Addr) (ys : List Nat) (c : Nat) (w : World) (hx : Bts w a ys) (hl : ys.length = 2) :
    Calls Try.prog 47 #[.agg #[.int .u16 (sp : Nat), .int .u16 (dp : Nat), .int .u32 (sq : Nat), .int .u32 (ak : Nat), .int .u8 (fl : Nat), .int .u16 (wn : Nat), .int .u16 (ur : Nat), .int .i64 (mss : Nat), .bool hs, .int .i64 (sc : Nat), .bool sk, .slice va vn vc, .bool ht, .int .u32 (tv : Nat), .int .u32 (te : Nat), .slice da dn dc], .int .u8 2, .slice a ys.length c] w fun e w' => e = .returned (.agg #[.int .u16 (sp : Nat), .int .u16 (dp : Nat), .int .u32 (sq : Nat), .int .u32 (ak : Nat), .int .u8 (fl : Nat), .int .u16 (wn : Nat), .int .u16 (ur : Nat), .int .i64 (Mt.numOf ys : Nat), .bool hs, .int .i64 (sc : Nat), .bool sk, .slice va vn vc, .bool ht, .int .u32 (tv : Nat), .int .u32 (te : Nat), .slice da dn dc]) ∧ Below w.heap.size w w' := by
  obtain ⟨gs, hgs⟩ : ∃ z, w.heap.size = z := ⟨_, rfl⟩
  have hs1 : (w.alloc (.cells #[.int .u16 (sp : Nat), .int .u16 (dp : Nat), .int .u32 (sq : Nat), .int .u32 (ak : Nat), .int .u8 (fl : Nat), .int .u16 (wn : Nat), .int .u16 (ur : Nat), .int .i64 (mss : Nat), .bool hs, .int .i64 (sc : Nat), .bool sk, .slice va vn vc, .bool ht, .int .u32 (tv : Nat), .int .u32 (te : Nat), .slice da dn dc] 27)).heap.size = gs + 1 := by simp [hgs]
  have b1 := (Below.refl w.heap.size w).alloc (Nat.le_refl _) (.cells #[.int .u16 (sp : Nat), .int .u16 (dp : Nat), .int .u32 (sq : Nat), .int .u32 (ak : Nat), .int .u8 (fl : Nat), .int .u16 (wn : Nat), .int .u16 (ur : Nat), .int .i64 (mss : Nat), .bool hs, .int .i64 (sc : Nat), .bool sk, .slice va vn vc, .bool ht, .int .u32 (tv : Nat), .int .u32 (te : Nat), .slice da dn dc] 27)
  have k1 := blk_new w (.cells #[.int .u16 (sp : Nat), .int .u16 (dp : Nat), .int .u32 (sq : Nat), .int .u32 (ak : Nat), .int .u8 (fl : Nat), .int .u16 (wn : Nat), .int .u16 (ur : Nat), .int .i64 (mss : Nat), .bool hs, .int .i64 (sc : Nat), .bool sk, .slice va vn vc, .bool ht, .int .u32 (tv : Nat), .int .u32 (te : Nat), .slice da dn dc] 27)
  have b2 := (Below.refl (w.alloc (.cells #[.int .u16 (sp : Nat), .int .u16 (dp : Nat), .int .u32 (sq : Nat), .int .u32 (ak : Nat), .int .u8 (fl : Nat), .int .u16 (wn : Nat), .int .u16 (ur : Nat), .int .i64 (mss : Nat), .bool hs, .int .i64 (sc : Nat), .bool sk, .slice va vn vc, .bool ht, .int .u32 (tv : Nat), .int .u32 (te : Nat), .slice da dn dc] 27)).heap.size (w.alloc (.cells #[.int .u16 (sp : Nat), .int .u16 (dp : Nat), .int .u32 (sq : Nat), .int .u32 (ak : Nat), .int .u8 (fl : Nat), .int .u16 (wn : Nat), .int .u16 (ur : Nat), .int .i64 (mss : Nat), .bool hs, .int .i64 (sc : Nat), .bool sk, .slice va vn vc, .bool ht, .int .u32 (tv : Nat), .int .u32 (te : Nat), .slice da dn dc] 27))).alloc (Nat.le_refl _) (.cells #[.int .u16 0, .int .u16 0, .int .u32 0, .int .u32 0, .int .u8 0, .int .u16 0, .int .u16 0, .int .i64 0, .bool false, .int .i64 0, .bool false, .slice none 0 0, .bool false, .int .u32 0, .int .u32 0, .slice none 0 0] 27)
  have k2 := blk_new (w.alloc (.cells #[.int .u16 (sp : Nat), .int .u16 (dp : Nat), .int .u32 (sq : Nat), .int .u32 (ak : Nat), .int .u8 (fl : Nat), .int .u16 (wn : Nat), .int .u16 (ur : Nat), .int .i64 (mss : Nat), .bool hs, .int .i64 (sc : Nat), .bool sk, .slice va vn vc, .bool ht, .int .u32 (tv : Nat), .int .u32 (te : Nat), .slice da dn dc] 27)) (.cells #[.int .u16 0, .int .u16 0, .int .u32 0, .int .u32 0, .int .u8 0, .int .u16 0, .int .u16 0, .int .i64 0, .bool false, .int .i64 0, .bool false, .slice none 0 0, .bool false, .int .u32 0, .int .u32 0, .slice none 0 0] 27)
  have k1' := (b2.block _ (Array.getElem?_eq_some_iff.1 k1).1).trans k1
  rw [hs1] at k2
  rw [hgs] at k1'
  have Q0 := Lib.hid (b1.trans (b2.mono b1.size))
  have K1 := Lib.hid k1'
  have K2 := Lib.hid k2
  have X0 := Lib.hid (hx.below Q0.out)
  have hx0 := Lib.hid hx
  clear hx b1 b2 k1 k1' k2
  obtain ⟨v, hv⟩ : ∃ v, Mt.numOf ys = v := ⟨_, rfl⟩
  rw [hv]
  have HV := Lib.hid hv
  clear hv
  go_enter Try.func47, Try.ntmps47
  go_upto_region 1 with fail
  generalize (w.alloc (.cells #[.int .u16 (sp : Nat), .int .u16 (dp : Nat), .int .u32 (sq : Nat), .int .u32 (ak : Nat), .int .u8 (fl : Nat), .int .u16 (wn : Nat), .int .u16 (ur : Nat), .int .i64 (mss : Nat), .bool hs, .int .i64 (sc : Nat), .bool sk, .slice va vn vc, .bool ht, .int .u32 (tv : Nat), .int .u32 (te : Nat), .slice da dn dc] 27)).alloc (.cells #[.int .u16 0, .int .u16 0, .int .u32 0, .int .u32 0, .int .u8 0, .int .u16 0, .int .u16 0, .int .i64 0, .bool false, .int .i64 0, .bool false, .slice none 0 0, .bool false, .int .u32 0, .int .u32 0, .slice none 0 0] 27) = V0 at K1 K2 Q0 X0 ⊢
  have ht1 : Hid (TcpAt V0 gs #[.int .u16 (sp : Nat), .int .u16 (dp : Nat), .int .u32 (sq : Nat), .int .u32 (ak : Nat), .int .u8 (fl : Nat), .int .u16 (wn : Nat), .int .u16 (ur : Nat), .int .i64 (mss : Nat), .bool hs, .int .i64 (sc : Nat), .bool sk, .slice va vn vc, .bool ht, .int .u32 (tv : Nat), .int .u32 (te : Nat), .slice da dn dc]) := Lib.hid K1.out
  have ht2 : Hid (TcpAt V0 (gs + 1) #[.int .u16 0, .int .u16 0, .int .u32 0, .int .u32 0, .int .u8 0, .int .u16 0, .int .u16 0, .int .i64 0, .bool false, .int .i64 0, .bool false, .slice none 0 0, .bool false, .int .u32 0, .int .u32 0, .slice none 0 0]) := Lib.hid K2.out
  have HGS := Lib.hid hgs
  clear K1 K2 hs1 hgs
  have hn := Lib.hid (number_any a ys c V0 X0.out (by omega))
  have hb : Mt.numOf ys < 65536 := by
    have h := Mt.numOf_lt ys X0.out.1
    rw [hl] at h
    simpa using h
  rw [HV.out] at hn hb
  have W : IntKind.i64.wrap (v : Int) = (v : Int) := IntWalk.i64_in _ ⟨by omega, by omega⟩
  have c7 := blk_cell ht1.out 7
  have f7 := blk_free ht1.out 7
  clear hl
  go_upto_region 15 with (first | (go_at_call 45; refine hn.out.mono ?_; rintro e w' ⟨rfl, rfl⟩) | fail)
  have s7 := blk_set (ht1.out) 7 (.int .i64 (v : Nat))
  have g7 := grown_set (V0) gs 7 (.int .i64 (v : Nat))
  have HT1 : Hid (TcpAt ((V0).setCell ⟨gs, 7, none⟩ (.int .i64 (v : Nat))) gs #[.int .u16 (sp : Nat), .int .u16 (dp : Nat), .int .u32 (sq : Nat), .int .u32 (ak : Nat), .int .u8 (fl : Nat), .int .u16 (wn : Nat), .int .u16 (ur : Nat), .int .i64 (v : Nat), .bool hs, .int .i64 (sc : Nat), .bool sk, .slice va vn vc, .bool ht, .int .u32 (tv : Nat), .int .u32 (te : Nat), .slice da dn dc]) := Lib.hid s7
  have gA := g7
  have HT2 : Hid (TcpAt ((V0).setCell ⟨gs, 7, none⟩ (.int .i64 (v : Nat))) (gs + 1) #[.int .u16 0, .int .u16 0, .int .u32 0, .int .u32 0, .int .u8 0, .int .u16 0, .int .u16 0, .int .i64 0, .bool false, .int .i64 0, .bool false, .slice none 0 0, .bool false, .int .u32 0, .int .u32 0, .slice none 0 0]) := Lib.hid ((gA.block (gs + 1) (Array.getElem?_eq_some_iff.1 ht2.out).1 (fun e => by have := Option.some.inj e; omega)).trans ht2.out)
  have Q1 := Lib.hid (Q0.out.grown gA Q0.out.size (fun k e => by cases e; have := HGS.out; omega))
  clear s7 g7 gA ht1 ht2 Q0
  generalize (V0).setCell ⟨gs, 7, none⟩ (.int .i64 (v : Nat)) = V1 at HT1 HT2 Q1 ⊢
  go_wp2_with (first
    | ((with_reducible show wpList _ _ _ _ _ _); refine wpList_load_tcp rfl (.tmp 3) rfl gs rfl _ HT1.out rfl ?_)
    | ((with_reducible show wpList _ _ _ _ _ _); refine wpList_store_tcp rfl (.tmp 6) (.tmp 64) rfl (gs + 1) _ #[.int .u16 (sp : Nat), .int .u16 (dp : Nat), .int .u32 (sq : Nat), .int .u32 (ak : Nat), .int .u8 (fl : Nat), .int .u16 (wn : Nat), .int .u16 (ur : Nat), .int .i64 (v : Nat), .bool hs, .int .i64 (sc : Nat), .bool sk, .slice va vn vc, .bool ht, .int .u32 (tv : Nat), .int .u32 (te : Nat), .slice da dn dc] rfl rfl HT2.out rfl rfl (by simp [Value.oneCell']) ?_; intro VE hs2 hg2; have K2 := Lib.hid hs2; have G2 := Lib.hid hg2; clear hs2 hg2)
    | fail)
  exact bodyPost_ret (results_tcp1 rfl _ _ (gs + 1) _ rfl K2.out rfl) rfl ⟨rfl, Q1.out.grown G2.out Q1.out.size (fun j e => by cases e; have := HGS.out; omega)⟩
set_option maxRecDepth 100000 in
set_option maxHeartbeats 2000000 in
theorem rone_sackok (sp dp sq ak fl wn ur mss : Nat) (hs : Bool) (sc : Nat) (sk : Bool) (va : Option Addr) (vn vc : Nat) (ht : Bool) (tv te : Nat) (da : Option Addr) (dn dc : Nat) (a : Option Addr) (ys : List Nat) (c : Nat) (w : World) (hx : Bts w a ys) :
    Calls Try.prog 47 #[.agg #[.int .u16 (sp : Nat), .int .u16 (dp : Nat), .int .u32 (sq : Nat), .int .u32 (ak : Nat), .int .u8 (fl : Nat), .int .u16 (wn : Nat), .int .u16 (ur : Nat), .int .i64 (mss : Nat), .bool hs, .int .i64 (sc : Nat), .bool sk, .slice va vn vc, .bool ht, .int .u32 (tv : Nat), .int .u32 (te : Nat), .slice da dn dc], .int .u8 4, .slice a ys.length c] w fun e w' => e = .returned (.agg #[.int .u16 (sp : Nat), .int .u16 (dp : Nat), .int .u32 (sq : Nat), .int .u32 (ak : Nat), .int .u8 (fl : Nat), .int .u16 (wn : Nat), .int .u16 (ur : Nat), .int .i64 (mss : Nat), .bool hs, .int .i64 (sc : Nat), .bool true, .slice va vn vc, .bool ht, .int .u32 (tv : Nat), .int .u32 (te : Nat), .slice da dn dc]) ∧ Below w.heap.size w w' := by
  obtain ⟨gs, hgs⟩ : ∃ z, w.heap.size = z := ⟨_, rfl⟩
  have hs1 : (w.alloc (.cells #[.int .u16 (sp : Nat), .int .u16 (dp : Nat), .int .u32 (sq : Nat), .int .u32 (ak : Nat), .int .u8 (fl : Nat), .int .u16 (wn : Nat), .int .u16 (ur : Nat), .int .i64 (mss : Nat), .bool hs, .int .i64 (sc : Nat), .bool sk, .slice va vn vc, .bool ht, .int .u32 (tv : Nat), .int .u32 (te : Nat), .slice da dn dc] 27)).heap.size = gs + 1 := by simp [hgs]
  have b1 := (Below.refl w.heap.size w).alloc (Nat.le_refl _) (.cells #[.int .u16 (sp : Nat), .int .u16 (dp : Nat), .int .u32 (sq : Nat), .int .u32 (ak : Nat), .int .u8 (fl : Nat), .int .u16 (wn : Nat), .int .u16 (ur : Nat), .int .i64 (mss : Nat), .bool hs, .int .i64 (sc : Nat), .bool sk, .slice va vn vc, .bool ht, .int .u32 (tv : Nat), .int .u32 (te : Nat), .slice da dn dc] 27)
  have k1 := blk_new w (.cells #[.int .u16 (sp : Nat), .int .u16 (dp : Nat), .int .u32 (sq : Nat), .int .u32 (ak : Nat), .int .u8 (fl : Nat), .int .u16 (wn : Nat), .int .u16 (ur : Nat), .int .i64 (mss : Nat), .bool hs, .int .i64 (sc : Nat), .bool sk, .slice va vn vc, .bool ht, .int .u32 (tv : Nat), .int .u32 (te : Nat), .slice da dn dc] 27)
  have b2 := (Below.refl (w.alloc (.cells #[.int .u16 (sp : Nat), .int .u16 (dp : Nat), .int .u32 (sq : Nat), .int .u32 (ak : Nat), .int .u8 (fl : Nat), .int .u16 (wn : Nat), .int .u16 (ur : Nat), .int .i64 (mss : Nat), .bool hs, .int .i64 (sc : Nat), .bool sk, .slice va vn vc, .bool ht, .int .u32 (tv : Nat), .int .u32 (te : Nat), .slice da dn dc] 27)).heap.size (w.alloc (.cells #[.int .u16 (sp : Nat), .int .u16 (dp : Nat), .int .u32 (sq : Nat), .int .u32 (ak : Nat), .int .u8 (fl : Nat), .int .u16 (wn : Nat), .int .u16 (ur : Nat), .int .i64 (mss : Nat), .bool hs, .int .i64 (sc : Nat), .bool sk, .slice va vn vc, .bool ht, .int .u32 (tv : Nat), .int .u32 (te : Nat), .slice da dn dc] 27))).alloc (Nat.le_refl _) (.cells #[.int .u16 0, .int .u16 0, .int .u32 0, .int .u32 0, .int .u8 0, .int .u16 0, .int .u16 0, .int .i64 0, .bool false, .int .i64 0, .bool false, .slice none 0 0, .bool false, .int .u32 0, .int .u32 0, .slice none 0 0] 27)
  have k2 := blk_new (w.alloc (.cells #[.int .u16 (sp : Nat), .int .u16 (dp : Nat), .int .u32 (sq : Nat), .int .u32 (ak : Nat), .int .u8 (fl : Nat), .int .u16 (wn : Nat), .int .u16 (ur : Nat), .int .i64 (mss : Nat), .bool hs, .int .i64 (sc : Nat), .bool sk, .slice va vn vc, .bool ht, .int .u32 (tv : Nat), .int .u32 (te : Nat), .slice da dn dc] 27)) (.cells #[.int .u16 0, .int .u16 0, .int .u32 0, .int .u32 0, .int .u8 0, .int .u16 0, .int .u16 0, .int .i64 0, .bool false, .int .i64 0, .bool false, .slice none 0 0, .bool false, .int .u32 0, .int .u32 0, .slice none 0 0] 27)
  have k1' := (b2.block _ (Array.getElem?_eq_some_iff.1 k1).1).trans k1
  rw [hs1] at k2
  rw [hgs] at k1'
  have Q0 := Lib.hid (b1.trans (b2.mono b1.size))
  have K1 := Lib.hid k1'
  have K2 := Lib.hid k2
  have X0 := Lib.hid (hx.below Q0.out)
  have hx0 := Lib.hid hx
  clear hx b1 b2 k1 k1' k2
  go_enter Try.func47, Try.ntmps47
  go_upto_region 1 with fail
  generalize (w.alloc (.cells #[.int .u16 (sp : Nat), .int .u16 (dp : Nat), .int .u32 (sq : Nat), .int .u32 (ak : Nat), .int .u8 (fl : Nat), .int .u16 (wn : Nat), .int .u16 (ur : Nat), .int .i64 (mss : Nat), .bool hs, .int .i64 (sc : Nat), .bool sk, .slice va vn vc, .bool ht, .int .u32 (tv : Nat), .int .u32 (te : Nat), .slice da dn dc] 27)).alloc (.cells #[.int .u16 0, .int .u16 0, .int .u32 0, .int .u32 0, .int .u8 0, .int .u16 0, .int .u16 0, .int .i64 0, .bool false, .int .i64 0, .bool false, .slice none 0 0, .bool false, .int .u32 0, .int .u32 0, .slice none 0 0] 27) = V0 at K1 K2 Q0 X0 ⊢
  have ht1 : Hid (TcpAt V0 gs #[.int .u16 (sp : Nat), .int .u16 (dp : Nat), .int .u32 (sq : Nat), .int .u32 (ak : Nat), .int .u8 (fl : Nat), .int .u16 (wn : Nat), .int .u16 (ur : Nat), .int .i64 (mss : Nat), .bool hs, .int .i64 (sc : Nat), .bool sk, .slice va vn vc, .bool ht, .int .u32 (tv : Nat), .int .u32 (te : Nat), .slice da dn dc]) := Lib.hid K1.out
  have ht2 : Hid (TcpAt V0 (gs + 1) #[.int .u16 0, .int .u16 0, .int .u32 0, .int .u32 0, .int .u8 0, .int .u16 0, .int .u16 0, .int .i64 0, .bool false, .int .i64 0, .bool false, .slice none 0 0, .bool false, .int .u32 0, .int .u32 0, .slice none 0 0]) := Lib.hid K2.out
  have HGS := Lib.hid hgs
  clear K1 K2 hs1 hgs
  have c10 := blk_cell ht1.out 10
  have f10 := blk_free ht1.out 10
  go_upto_region 15 with fail
  have s10 := blk_set (ht1.out) 10 (.bool true)
  have g10 := grown_set (V0) gs 10 (.bool true)
  have HT1 : Hid (TcpAt ((V0).setCell ⟨gs, 10, none⟩ (.bool true)) gs #[.int .u16 (sp : Nat), .int .u16 (dp : Nat), .int .u32 (sq : Nat), .int .u32 (ak : Nat), .int .u8 (fl : Nat), .int .u16 (wn : Nat), .int .u16 (ur : Nat), .int .i64 (mss : Nat), .bool hs, .int .i64 (sc : Nat), .bool true, .slice va vn vc, .bool ht, .int .u32 (tv : Nat), .int .u32 (te : Nat), .slice da dn dc]) := Lib.hid s10
  have gA := g10
  have HT2 : Hid (TcpAt ((V0).setCell ⟨gs, 10, none⟩ (.bool true)) (gs + 1) #[.int .u16 0, .int .u16 0, .int .u32 0, .int .u32 0, .int .u8 0, .int .u16 0, .int .u16 0, .int .i64 0, .bool false, .int .i64 0, .bool false, .slice none 0 0, .bool false, .int .u32 0, .int .u32 0, .slice none 0 0]) := Lib.hid ((gA.block (gs + 1) (Array.getElem?_eq_some_iff.1 ht2.out).1 (fun e => by have := Option.some.inj e; omega)).trans ht2.out)
  have Q1 := Lib.hid (Q0.out.grown gA Q0.out.size (fun k e => by cases e; have := HGS.out; omega))
  clear s10 g10 gA ht1 ht2 Q0
  generalize (V0).setCell ⟨gs, 10, none⟩ (.bool true) = V1 at HT1 HT2 Q1 ⊢
  go_wp2_with (first
    | ((with_reducible show wpList _ _ _ _ _ _); refine wpList_load_tcp rfl (.tmp 3) rfl gs rfl _ HT1.out rfl ?_)
    | ((with_reducible show wpList _ _ _ _ _ _); refine wpList_store_tcp rfl (.tmp 6) (.tmp 64) rfl (gs + 1) _ #[.int .u16 (sp : Nat), .int .u16 (dp : Nat), .int .u32 (sq : Nat), .int .u32 (ak : Nat), .int .u8 (fl : Nat), .int .u16 (wn : Nat), .int .u16 (ur : Nat), .int .i64 (mss : Nat), .bool hs, .int .i64 (sc : Nat), .bool true, .slice va vn vc, .bool ht, .int .u32 (tv : Nat), .int .u32 (te : Nat), .slice da dn dc] rfl rfl HT2.out rfl rfl (by simp [Value.oneCell']) ?_; intro VE hs2 hg2; have K2 := Lib.hid hs2; have G2 := Lib.hid hg2; clear hs2 hg2)
    | fail)
  exact bodyPost_ret (results_tcp1 rfl _ _ (gs + 1) _ rfl K2.out rfl) rfl ⟨rfl, Q1.out.grown G2.out Q1.out.size (fun j e => by cases e; have := HGS.out; omega)⟩
set_option maxRecDepth 100000 in
set_option maxHeartbeats 2000000 in
theorem rone_ts (sp dp sq ak fl wn ur mss : Nat) (hs : Bool) (sc : Nat) (sk : Bool) (va : Option Addr) (vn vc : Nat) (ht : Bool) (tv te : Nat) (da : Option Addr) (dn dc : Nat) (a : Option Addr) (ys : List Nat) (c : Nat) (w : World) (hx : Bts w a ys) (hl : ys.length = 8) (hc : ys.length ≤ c) :
    Calls Try.prog 47 #[.agg #[.int .u16 (sp : Nat), .int .u16 (dp : Nat), .int .u32 (sq : Nat), .int .u32 (ak : Nat), .int .u8 (fl : Nat), .int .u16 (wn : Nat), .int .u16 (ur : Nat), .int .i64 (mss : Nat), .bool hs, .int .i64 (sc : Nat), .bool sk, .slice va vn vc, .bool ht, .int .u32 (tv : Nat), .int .u32 (te : Nat), .slice da dn dc], .int .u8 8, .slice a ys.length c] w fun e w' => e = .returned (.agg #[.int .u16 (sp : Nat), .int .u16 (dp : Nat), .int .u32 (sq : Nat), .int .u32 (ak : Nat), .int .u8 (fl : Nat), .int .u16 (wn : Nat), .int .u16 (ur : Nat), .int .i64 (mss : Nat), .bool hs, .int .i64 (sc : Nat), .bool sk, .slice va vn vc, .bool true, .int .u32 (Mt.numOf (seg ys 0 4) : Nat), .int .u32 (Mt.numOf (seg ys 4 4) : Nat), .slice da dn dc]) ∧ Below w.heap.size w w' := by
  obtain ⟨gs, hgs⟩ : ∃ z, w.heap.size = z := ⟨_, rfl⟩
  have hs1 : (w.alloc (.cells #[.int .u16 (sp : Nat), .int .u16 (dp : Nat), .int .u32 (sq : Nat), .int .u32 (ak : Nat), .int .u8 (fl : Nat), .int .u16 (wn : Nat), .int .u16 (ur : Nat), .int .i64 (mss : Nat), .bool hs, .int .i64 (sc : Nat), .bool sk, .slice va vn vc, .bool ht, .int .u32 (tv : Nat), .int .u32 (te : Nat), .slice da dn dc] 27)).heap.size = gs + 1 := by simp [hgs]
  have b1 := (Below.refl w.heap.size w).alloc (Nat.le_refl _) (.cells #[.int .u16 (sp : Nat), .int .u16 (dp : Nat), .int .u32 (sq : Nat), .int .u32 (ak : Nat), .int .u8 (fl : Nat), .int .u16 (wn : Nat), .int .u16 (ur : Nat), .int .i64 (mss : Nat), .bool hs, .int .i64 (sc : Nat), .bool sk, .slice va vn vc, .bool ht, .int .u32 (tv : Nat), .int .u32 (te : Nat), .slice da dn dc] 27)
  have k1 := blk_new w (.cells #[.int .u16 (sp : Nat), .int .u16 (dp : Nat), .int .u32 (sq : Nat), .int .u32 (ak : Nat), .int .u8 (fl : Nat), .int .u16 (wn : Nat), .int .u16 (ur : Nat), .int .i64 (mss : Nat), .bool hs, .int .i64 (sc : Nat), .bool sk, .slice va vn vc, .bool ht, .int .u32 (tv : Nat), .int .u32 (te : Nat), .slice da dn dc] 27)
  have b2 := (Below.refl (w.alloc (.cells #[.int .u16 (sp : Nat), .int .u16 (dp : Nat), .int .u32 (sq : Nat), .int .u32 (ak : Nat), .int .u8 (fl : Nat), .int .u16 (wn : Nat), .int .u16 (ur : Nat), .int .i64 (mss : Nat), .bool hs, .int .i64 (sc : Nat), .bool sk, .slice va vn vc, .bool ht, .int .u32 (tv : Nat), .int .u32 (te : Nat), .slice da dn dc] 27)).heap.size (w.alloc (.cells #[.int .u16 (sp : Nat), .int .u16 (dp : Nat), .int .u32 (sq : Nat), .int .u32 (ak : Nat), .int .u8 (fl : Nat), .int .u16 (wn : Nat), .int .u16 (ur : Nat), .int .i64 (mss : Nat), .bool hs, .int .i64 (sc : Nat), .bool sk, .slice va vn vc, .bool ht, .int .u32 (tv : Nat), .int .u32 (te : Nat), .slice da dn dc] 27))).alloc (Nat.le_refl _) (.cells #[.int .u16 0, .int .u16 0, .int .u32 0, .int .u32 0, .int .u8 0, .int .u16 0, .int .u16 0, .int .i64 0, .bool false, .int .i64 0, .bool false, .slice none 0 0, .bool false, .int .u32 0, .int .u32 0, .slice none 0 0] 27)
  have k2 := blk_new (w.alloc (.cells #[.int .u16 (sp : Nat), .int .u16 (dp : Nat), .int .u32 (sq : Nat), .int .u32 (ak : Nat), .int .u8 (fl : Nat), .int .u16 (wn : Nat), .int .u16 (ur : Nat), .int .i64 (mss : Nat), .bool hs, .int .i64 (sc : Nat), .bool sk, .slice va vn vc, .bool ht, .int .u32 (tv : Nat), .int .u32 (te : Nat), .slice da dn dc] 27)) (.cells #[.int .u16 0, .int .u16 0, .int .u32 0, .int .u32 0, .int .u8 0, .int .u16 0, .int .u16 0, .int .i64 0, .bool false, .int .i64 0, .bool false, .slice none 0 0, .bool false, .int .u32 0, .int .u32 0, .slice none 0 0] 27)
  have k1' := (b2.block _ (Array.getElem?_eq_some_iff.1 k1).1).trans k1
  rw [hs1] at k2
  rw [hgs] at k1'
  have Q0 := Lib.hid (b1.trans (b2.mono b1.size))
  have K1 := Lib.hid k1'
  have K2 := Lib.hid k2
  have X0 := Lib.hid (hx.below Q0.out)
  have hx0 := Lib.hid hx
  clear hx b1 b2 k1 k1' k2
  obtain ⟨v1, hv1⟩ : ∃ v, Mt.numOf (seg ys 0 4) = v := ⟨_, rfl⟩
  obtain ⟨v2, hv2⟩ : ∃ v, Mt.numOf (seg ys 4 4) = v := ⟨_, rfl⟩
  rw [hv1, hv2]
  have HV1 := Lib.hid hv1
  have HV2 := Lib.hid hv2
  clear hv1 hv2
  go_enter Try.func47, Try.ntmps47
  go_upto_region 1 with fail
  generalize (w.alloc (.cells #[.int .u16 (sp : Nat), .int .u16 (dp : Nat), .int .u32 (sq : Nat), .int .u32 (ak : Nat), .int .u8 (fl : Nat), .int .u16 (wn : Nat), .int .u16 (ur : Nat), .int .i64 (mss : Nat), .bool hs, .int .i64 (sc : Nat), .bool sk, .slice va vn vc, .bool ht, .int .u32 (tv : Nat), .int .u32 (te : Nat), .slice da dn dc] 27)).alloc (.cells #[.int .u16 0, .int .u16 0, .int .u32 0, .int .u32 0, .int .u8 0, .int .u16 0, .int .u16 0, .int .i64 0, .bool false, .int .i64 0, .bool false, .slice none 0 0, .bool false, .int .u32 0, .int .u32 0, .slice none 0 0] 27) = V0 at K1 K2 Q0 X0 ⊢
  have ht1 : Hid (TcpAt V0 gs #[.int .u16 (sp : Nat), .int .u16 (dp : Nat), .int .u32 (sq : Nat), .int .u32 (ak : Nat), .int .u8 (fl : Nat), .int .u16 (wn : Nat), .int .u16 (ur : Nat), .int .i64 (mss : Nat), .bool hs, .int .i64 (sc : Nat), .bool sk, .slice va vn vc, .bool ht, .int .u32 (tv : Nat), .int .u32 (te : Nat), .slice da dn dc]) := Lib.hid K1.out
  have ht2 : Hid (TcpAt V0 (gs + 1) #[.int .u16 0, .int .u16 0, .int .u32 0, .int .u32 0, .int .u8 0, .int .u16 0, .int .u16 0, .int .i64 0, .bool false, .int .i64 0, .bool false, .slice none 0 0, .bool false, .int .u32 0, .int .u32 0, .slice none 0 0]) := Lib.hid K2.out
  have HGS := Lib.hid hgs
  clear K1 K2 hs1 hgs
  obtain ⟨bb, bo, rfl, hbl, _⟩ := X0.out.isSome (by omega)
  have e4 : ¬ ((c : Int) < 4) := by omega
  have e5 : ¬ (c = 4) := by omega
  have e6 : ¬ ((ys.length : Int) < 4) := by omega
  have e7 : ys.length - 4 = 4 := by omega
  have e8 : (4 : Int) ≤ (ys.length : Int) := by omega
  have s1 := X0.out.segOf 0 4 (by omega)
  have s2 := X0.out.segOf 4 4 (by omega)
  have l1 : (seg ys 0 4).length = 4 := seg_length ys 0 4 (by omega)
  have l2 : (seg ys 4 4).length = 4 := seg_length ys 4 4 (by omega)
  rw [Nat.add_zero] at s1
  have n1 : Hid (∀ W, Below V0.heap.size V0 W → Calls Try.prog 34 #[.slice (some ⟨bb, bo, none⟩) 4 c] W fun e w' => e = .returned (.int .u32 (v1 : Nat)) ∧ W = w') := Lib.hid (fun W hb => (by
    have h := rword_any (some ⟨bb, bo, none⟩) (seg ys 0 4) c W (s1.below hb) (by omega)
    rw [l1, HV1.out] at h; exact h))
  have n2 : Hid (∀ W, Below V0.heap.size V0 W → Calls Try.prog 34 #[.slice (some ⟨bb, bo + 4, none⟩) 4 (c - 4)] W fun e w' => e = .returned (.int .u32 (v2 : Nat)) ∧ W = w') := Lib.hid (fun W hb => (by
    have h := rword_any (some ⟨bb, bo + 4, none⟩) (seg ys 4 4) (c - 4) W (s2.below hb) (by omega)
    rw [l2, HV2.out] at h; exact h))
  have hl8 := Lib.hid hl
  have BD := Lib.hid ((Below.refl V0.heap.size V0).drew)
  have htd : Hid (TcpAt V0.drew gs #[.int .u16 (sp : Nat), .int .u16 (dp : Nat), .int .u32 (sq : Nat), .int .u32 (ak : Nat), .int .u8 (fl : Nat), .int .u16 (wn : Nat), .int .u16 (ur : Nat), .int .i64 (mss : Nat), .bool hs, .int .i64 (sc : Nat), .bool sk, .slice va vn vc, .bool ht, .int .u32 (tv : Nat), .int .u32 (te : Nat), .slice da dn dc]) := Lib.hid ht1.out
  have c12 := blk_cell (htd.out) 12
  have f12 := blk_free (htd.out) 12
  have c13 := blk_cell (htd.out) 13
  have f13 := blk_free (htd.out) 13
  have c14 := blk_cell (htd.out) 14
  have f14 := blk_free (htd.out) 14
  clear s1 s2 l1 l2
  go_upto_region 9 with fail
  rw [hl]
  clear hl
  refine wp_region_quiet_tail [0, 1, 2, 3, 4, 5, 6] 7 [8, 9, 10, 11] [_, _, _, _, _, _, _] [_, _, _, _, _] (by kernel_rfl) rfl rfl rfl (by kernel_rfl) ?_
  (try simp only [List.getElem_toArray]); (try simp only [List.getElem_cons_succ]); (try simp only [List.getElem_cons_zero])
  have cA : ∀ d os, Calls Try.prog 34 #[.slice (some ⟨bb, bo, none⟩) 4 c] (grow (redrawn V0 d) os) fun e w'' => e = .returned (.int .u32 (v1 : Nat)) ∧ ∃ p : Regrown, w'' = grow (redrawn V0 p.d) p.os := fun d os => Calls.regrown_of ((n1.out _ (below_regrown V0 d os)).mono (fun _ _ h => ⟨h.1, by rw [← h.2]; exact Below.refl _ _⟩))
  have cB : ∀ d os, Calls Try.prog 34 #[.slice (some ⟨bb, bo + 4, none⟩) 4 (c - 4)] (grow (redrawn V0 d) os) fun e w'' => e = .returned (.int .u32 (v2 : Nat)) ∧ ∃ p : Regrown, w'' = grow (redrawn V0 p.d) p.os := fun d os => Calls.regrown_of ((n2.out _ (below_regrown V0 d os)).mono (fun _ _ h => ⟨h.1, by rw [← h.2]; exact Below.refl _ _⟩))
  repeat (go_big_quiet_step (first | (go_at_call 34; exact cA _ _) | (go_at_call 34; exact cB _ _)))
  refine wpQuiet_nil ?_
  intro _ hw'
  obtain ⟨⟨dq, osq⟩, hw''⟩ := hw'
  subst hw''
  have hB := below_regrown V0 dq osq
  clear cA cB
  dsimp only
  have ht1v : Hid (TcpAt (grow (redrawn V0 dq) osq) gs #[.int .u16 (sp : Nat), .int .u16 (dp : Nat), .int .u32 (sq : Nat), .int .u32 (ak : Nat), .int .u8 (fl : Nat), .int .u16 (wn : Nat), .int .u16 (ur : Nat), .int .i64 (mss : Nat), .bool hs, .int .i64 (sc : Nat), .bool sk, .slice va vn vc, .bool ht, .int .u32 (tv : Nat), .int .u32 (te : Nat), .slice da dn dc]) := Lib.hid ((hB.block gs (Array.getElem?_eq_some_iff.1 ht1.out).1).trans ht1.out)
  have ht2v : Hid (TcpAt (grow (redrawn V0 dq) osq) (gs + 1) #[.int .u16 0, .int .u16 0, .int .u32 0, .int .u32 0, .int .u8 0, .int .u16 0, .int .u16 0, .int .i64 0, .bool false, .int .i64 0, .bool false, .slice none 0 0, .bool false, .int .u32 0, .int .u32 0, .slice none 0 0]) := Lib.hid ((hB.block (gs + 1) (Array.getElem?_eq_some_iff.1 ht2.out).1).trans ht2.out)
  have Q0v := Lib.hid (Q0.out.trans (hB.mono Q0.out.size))
  generalize grow (redrawn V0 dq) osq = VQ at hB ht1v ht2v Q0v ⊢
  clear ht1 ht2 Q0 htd c12 f12 c13 f13 c14 f14 n1 n2 BD
  have ht1 := ht1v
  have ht2 := ht2v
  have Q0 := Q0v
  clear ht1v ht2v Q0v
  have c12 := blk_cell ht1.out 12
  have f12 := blk_free ht1.out 12
  have c13 := blk_cell ht1.out 13
  have f13 := blk_free ht1.out 13
  have c14 := blk_cell ht1.out 14
  have f14 := blk_free ht1.out 14
  go_upto_region 15 with fail
  clear c12 f12 c13 f13 c14 f14
  have s12 := blk_set (ht1.out) 12 (.bool true)
  have g12 := grown_set (VQ) gs 12 (.bool true)
  have s13 := blk_set (s12) 13 (.int .u32 (v1 : Nat))
  have g13 := grown_set ((VQ).setCell ⟨gs, 12, none⟩ (.bool true)) gs 13 (.int .u32 (v1 : Nat))
  have s14 := blk_set (s13) 14 (.int .u32 (v2 : Nat))
  have g14 := grown_set (((VQ).setCell ⟨gs, 12, none⟩ (.bool true)).setCell ⟨gs, 13, none⟩ (.int .u32 (v1 : Nat))) gs 14 (.int .u32 (v2 : Nat))
  have HT1 : Hid (TcpAt ((((VQ).setCell ⟨gs, 12, none⟩ (.bool true)).setCell ⟨gs, 13, none⟩ (.int .u32 (v1 : Nat))).setCell ⟨gs, 14, none⟩ (.int .u32 (v2 : Nat))) gs #[.int .u16 (sp : Nat), .int .u16 (dp : Nat), .int .u32 (sq : Nat), .int .u32 (ak : Nat), .int .u8 (fl : Nat), .int .u16 (wn : Nat), .int .u16 (ur : Nat), .int .i64 (mss : Nat), .bool hs, .int .i64 (sc : Nat), .bool sk, .slice va vn vc, .bool true, .int .u32 (v1 : Nat), .int .u32 (v2 : Nat), .slice da dn dc]) := Lib.hid s14
  have gA := ((g12).trans g13).trans g14
  have HT2 : Hid (TcpAt ((((VQ).setCell ⟨gs, 12, none⟩ (.bool true)).setCell ⟨gs, 13, none⟩ (.int .u32 (v1 : Nat))).setCell ⟨gs, 14, none⟩ (.int .u32 (v2 : Nat))) (gs + 1) #[.int .u16 0, .int .u16 0, .int .u32 0, .int .u32 0, .int .u8 0, .int .u16 0, .int .u16 0, .int .i64 0, .bool false, .int .i64 0, .bool false, .slice none 0 0, .bool false, .int .u32 0, .int .u32 0, .slice none 0 0]) := Lib.hid ((gA.block (gs + 1) (Array.getElem?_eq_some_iff.1 ht2.out).1 (fun e => by have := Option.some.inj e; omega)).trans ht2.out)
  have Q1 := Lib.hid (Q0.out.grown gA Q0.out.size (fun k e => by cases e; have := HGS.out; omega))
  clear s12 g12 s13 g13 s14 g14 gA ht1 ht2 Q0
  generalize (((VQ).setCell ⟨gs, 12, none⟩ (.bool true)).setCell ⟨gs, 13, none⟩ (.int .u32 (v1 : Nat))).setCell ⟨gs, 14, none⟩ (.int .u32 (v2 : Nat)) = V1 at HT1 HT2 Q1 ⊢
  go_wp2_with (first
    | ((with_reducible show wpList _ _ _ _ _ _); refine wpList_load_tcp rfl (.tmp 3) rfl gs rfl _ HT1.out rfl ?_)
    | ((with_reducible show wpList _ _ _ _ _ _); refine wpList_store_tcp rfl (.tmp 6) (.tmp 64) rfl (gs + 1) _ #[.int .u16 (sp : Nat), .int .u16 (dp : Nat), .int .u32 (sq : Nat), .int .u32 (ak : Nat), .int .u8 (fl : Nat), .int .u16 (wn : Nat), .int .u16 (ur : Nat), .int .i64 (mss : Nat), .bool hs, .int .i64 (sc : Nat), .bool sk, .slice va vn vc, .bool true, .int .u32 (v1 : Nat), .int .u32 (v2 : Nat), .slice da dn dc] rfl rfl HT2.out rfl rfl (by simp [Value.oneCell']) ?_; intro VE hs2 hg2; have K2 := Lib.hid hs2; have G2 := Lib.hid hg2; clear hs2 hg2)
    | fail)
  exact bodyPost_ret (results_tcp1 rfl _ _ (gs + 1) _ rfl K2.out rfl) rfl ⟨rfl, Q1.out.grown G2.out Q1.out.size (fun j e => by cases e; have := HGS.out; omega)⟩
end Go.Proofs.Ytgmgoilleakdcaa
