/- tcpwire.set: what an option says is put into a segment. -/
import Derived.Test.YtgmgoilleakdcaaTcpO
import Derived.Deep.RegionHeld3
namespace Go.Proofs.Ytgmgoilleakdcaa
open Go.RowKit

/-- The segment behind the pointer: a block of its own, known whole. -/
abbrev TcpAt (W : World) (gs : Nat) (cs : Array Value) : Prop := W.heap[gs]? = some (.cells cs 27 (0, 0))

theorem grown_set (W : World) (g i : Nat) (v : Value) : W.grownBy (W.setCell ⟨g, i, none⟩ v) (some g) :=
  ⟨rfl, rfl, rfl, by show _ ≤ (W.heap.modify g _).size; simp, fun k _ hne => Below.heap_setCell _ _ _ _ (fun e => hne (by rw [e]))⟩

theorem set_ne2 {W : World} {b g o i : Nat} {v : Value} (h : b ≠ g) : (W.setCell ⟨g, i, none⟩ v).cell? ⟨b, o, none⟩ = W.cell? ⟨b, o, none⟩ :=
  World.cell?_of_block (Below.heap_setCell _ _ _ _ h)

theorem grown_drew (W : World) (r : Option Nat) : W.grownBy W.drew r := ⟨rfl, rfl, rfl, Nat.le_refl _, fun _ _ _ => rfl⟩

set_option maxRecDepth 100000 in
set_option maxHeartbeats 1000000 in
theorem set_mss (gs : Nat) (cs : Array Value) (a : Option Addr) (ys : List Nat) (c : Nat) (W : World) (hg : TcpAt W gs cs) (hs : cs.size = 16) (hx : Bts W a ys) (hl : ys.length = 2) :
    Calls Try.prog 33 #[.pointer (some ⟨gs, 0, none⟩), .int .u8 2, .slice a ys.length c] W fun e w' => e = .returned (.tuple #[]) ∧ TcpAt w' gs (cs.setIfInBounds 7 (.int .i64 (Mt.numOf ys : Nat))) ∧ W.grownBy w' (some gs) := by
  have hlt : gs < W.heap.size := (Array.getElem?_eq_some_iff.1 hg).1
  have ne : gs ≠ W.heap.size := by omega
  have ne' : W.heap.size ≠ gs := by omega
  have kb := blk_new W (.cells #[.pointer (some ⟨gs, 0, none⟩)] 62)
  have kg := (Below.heap_alloc W (.cells #[.pointer (some ⟨gs, 0, none⟩)] 62) gs hlt).trans hg
  have x := hx.below ((Below.refl _ W).alloc (Nat.le_refl _) (.cells #[.pointer (some ⟨gs, 0, none⟩)] 62))
  have gg := World.grownBy_alloc W (.cells #[.pointer (some ⟨gs, 0, none⟩)] 62) (some gs)
  have p0 := blk_cell kb 0
  obtain ⟨v7, h7⟩ : ∃ v, cs[7]? = some v := ⟨_, Array.getElem?_eq_getElem (by omega)⟩
  have c7 := (blk_cell kg 7).trans h7
  have f7 := blk_free kg 7
  have hn := pnum_tcpwire a ys c _ (x.below (Below.refl _ _).drew) (by omega) (by omega)
  rw [hl] at hn ⊢
  have HN := Lib.hid hn
  have KG := Lib.hid kg
  have GG := Lib.hid gg
  have hv : Mt.numOf ys < 65536 := by
    have h := Mt.numOf_lt ys hx.1
    rw [hl] at h
    simpa using h
  have y : IntKind.i64.wrap (Mt.numOf ys : Int) = (Mt.numOf ys : Int) := IntWalk.i64_in _ (by omega)
  generalize Mt.numOf ys = v at HN y
  clear hn kg gg x hx kb h7 hs
  go_enter Try.func33, Try.ntmps33
  go_wp2_with fail
  generalize W.alloc (.cells #[.pointer (some ⟨gs, 0, none⟩)] 62) = V at p0 c7 f7 KG GG HN ⊢
  go_region_held3 (fun W' => W'.cell? ⟨W.heap.size, 0, none⟩ = some (.pointer (some ⟨gs, 0, none⟩))) (first | go_keep) (first
    | (go_at_call 30; (with_reducible refine HN.out.mono ?_); rintro e w' ⟨rfl, rfl⟩))
  go_wp2
  have F := blk_set KG.out 7 (.int .i64 v)
  go_end0
  exact ⟨rfl, F, (GG.out.trans (grown_set _ _ _ _)).trans (grown_drew _ _)⟩

set_option maxRecDepth 100000 in
set_option maxHeartbeats 1000000 in
theorem set_sok (gs : Nat) (cs : Array Value) (a : Option Addr) (ys : List Nat) (c : Nat) (W : World) (hg : TcpAt W gs cs) (hs : cs.size = 16) (hx : Bts W a ys) (hl : ys.length = 0) :
    Calls Try.prog 33 #[.pointer (some ⟨gs, 0, none⟩), .int .u8 4, .slice a ys.length c] W fun e w' => e = .returned (.tuple #[]) ∧ TcpAt w' gs (cs.setIfInBounds 10 (.bool true)) ∧ W.grownBy w' (some gs) := by
  have hlt : gs < W.heap.size := (Array.getElem?_eq_some_iff.1 hg).1
  have ne : gs ≠ W.heap.size := by omega
  have ne' : W.heap.size ≠ gs := by omega
  have kb := blk_new W (.cells #[.pointer (some ⟨gs, 0, none⟩)] 62)
  have kg := (Below.heap_alloc W (.cells #[.pointer (some ⟨gs, 0, none⟩)] 62) gs hlt).trans hg
  have x := hx.below ((Below.refl _ W).alloc (Nat.le_refl _) (.cells #[.pointer (some ⟨gs, 0, none⟩)] 62))
  have gg := World.grownBy_alloc W (.cells #[.pointer (some ⟨gs, 0, none⟩)] 62) (some gs)
  have p0 := blk_cell kb 0
  obtain ⟨v10, h10⟩ : ∃ v, cs[10]? = some v := ⟨_, Array.getElem?_eq_getElem (by omega)⟩
  have c10 := (blk_cell kg 10).trans h10
  have f10 := blk_free kg 10
  rw [hl]
  have KG := Lib.hid kg
  have GG := Lib.hid gg
  clear kg gg x hx kb h10 hs hl
  go_enter Try.func33, Try.ntmps33
  go_upto_if 8 with (fail)
  generalize W.alloc (.cells #[.pointer (some ⟨gs, 0, none⟩)] 62) = V at p0 c10 f10 KG GG ⊢
  go_wp2
  have F := blk_set KG.out 10 (.bool true)
  go_end0
  exact ⟨rfl, F, GG.out.trans (grown_set _ _ _ _)⟩

set_option maxRecDepth 100000 in
set_option maxHeartbeats 1000000 in
theorem set_scale (gs : Nat) (cs : Array Value) (a : Option Addr) (ys : List Nat) (c : Nat) (W : World) (hg : TcpAt W gs cs) (hs : cs.size = 16) (hx : Bts W a ys) (hl : ys.length = 1) (hag : ∀ p, a = some p → p.block ≠ gs) :
    Calls Try.prog 33 #[.pointer (some ⟨gs, 0, none⟩), .int .u8 3, .slice a ys.length c] W fun e w' => e = .returned (.tuple #[]) ∧ TcpAt w' gs ((cs.setIfInBounds 8 (.bool true)).setIfInBounds 9 (.int .i64 (ys.getD 0 0 : Nat))) ∧ W.grownBy w' (some gs) := by
  have hlt : gs < W.heap.size := (Array.getElem?_eq_some_iff.1 hg).1
  have ne : gs ≠ W.heap.size := by omega
  have ne' : W.heap.size ≠ gs := by omega
  have kb := blk_new W (.cells #[.pointer (some ⟨gs, 0, none⟩)] 62)
  have kg := (Below.heap_alloc W (.cells #[.pointer (some ⟨gs, 0, none⟩)] 62) gs hlt).trans hg
  have x := hx.below ((Below.refl _ W).alloc (Nat.le_refl _) (.cells #[.pointer (some ⟨gs, 0, none⟩)] 62))
  have gg := World.grownBy_alloc W (.cells #[.pointer (some ⟨gs, 0, none⟩)] 62) (some gs)
  have p0 := blk_cell kb 0
  obtain ⟨v8, h8⟩ : ∃ v, cs[8]? = some v := ⟨_, Array.getElem?_eq_getElem (by omega)⟩
  have c8 := (blk_cell kg 8).trans h8
  have f8 := blk_free kg 8
  obtain ⟨v9, h9⟩ : ∃ v, cs[9]? = some v := ⟨_, Array.getElem?_eq_getElem (by omega)⟩
  have c9 := (blk_cell kg 9).trans h9
  have f9 := blk_free kg 9
  obtain ⟨b, off, rfl, hb, hcx⟩ := hx.isSome (by omega)
  have g0 := hcx 0 (by omega)
  rw [Nat.add_zero] at g0
  have g0 := (((Below.refl _ W).alloc (Nat.le_refl _) (.cells #[.pointer (some ⟨gs, 0, none⟩)] 62)).cell (p := ⟨b, off, none⟩) hb).trans g0
  have hy0 : ys.getD 0 0 < 256 := Mt.getD_lt ys hx.1 0
  rw [hl]
  generalize ys.getD 0 0 = v at g0 hy0 ⊢
  have hbne : b ≠ gs := hag _ rfl
  have hbne' : gs ≠ b := fun e => hbne e.symm
  have KG := Lib.hid kg
  have GG := Lib.hid gg
  have y : IntKind.i64.wrap (v : Int) = (v : Int) := IntWalk.i64_in _ (by omega)
  clear kg gg x hx kb h8 hs hcx
  go_enter Try.func33, Try.ntmps33
  go_upto_if 8 with (fail)
  generalize W.alloc (.cells #[.pointer (some ⟨gs, 0, none⟩)] 62) = V at p0 c8 f8 c9 f9 KG GG g0 ⊢
  have hbn : b ≠ W.heap.size := by omega
  go_wp2_with fail
  have F := blk_set KG.out 8 (.bool true)
  have g0' := (set_ne2 (i := 8) (v := .bool true) hbne).trans g0
  have p0' := (set_ne2 (i := 8) (v := .bool true) ne').trans p0
  have KF := Lib.hid F
  have GF := Lib.hid (GG.out.trans (grown_set V gs 8 (.bool true)))
  have c9' := (blk_cell F 9).trans ((Array.getElem?_setIfInBounds_ne (by decide)).trans h9)
  have f9' := blk_free F 9
  generalize V.setCell ⟨gs, 8, none⟩ (.bool true) = V2 at g0' p0' KF GF c9' f9' ⊢
  clear F c8 f8 c9 f9 KG GG g0 p0
  go_region_held3 (fun W' => W'.cell? ⟨W.heap.size, 0, none⟩ = some (.pointer (some ⟨gs, 0, none⟩)) ∧ W'.cell? ⟨b, off, none⟩ = some (.int .u8 (v : Nat))) (first | go_keep) (first | fail)
  go_wp2
  have F := blk_set KF.out 9 (.int .i64 v)
  go_end0
  exact ⟨rfl, F, (GF.out.trans (grown_set _ _ _ _)).trans (grown_drew _ _)⟩

set_option maxRecDepth 100000 in
set_option maxHeartbeats 1000000 in
theorem set_ts (gs : Nat) (cs : Array Value) (a : Option Addr) (ys : List Nat) (c : Nat) (W : World) (hg : TcpAt W gs cs) (hs : cs.size = 16) (hx : Bts W a ys) (hl : ys.length = 8) (hc : 8 ≤ c) (hag : ∀ p, a = some p → p.block ≠ gs) :
    Calls Try.prog 33 #[.pointer (some ⟨gs, 0, none⟩), .int .u8 8, .slice a ys.length c] W fun e w' => e = .returned (.tuple #[]) ∧ TcpAt w' gs (((cs.setIfInBounds 12 (.bool true)).setIfInBounds 13 (.int .u32 (Mt.numOf (seg ys 0 4) : Nat))).setIfInBounds 14 (.int .u32 (Mt.numOf (seg ys 4 4) : Nat))) ∧ W.grownBy w' (some gs) := by
  have hlt : gs < W.heap.size := (Array.getElem?_eq_some_iff.1 hg).1
  have ne : gs ≠ W.heap.size := by omega
  have ne' : W.heap.size ≠ gs := by omega
  have kb := blk_new W (.cells #[.pointer (some ⟨gs, 0, none⟩)] 62)
  have kg := (Below.heap_alloc W (.cells #[.pointer (some ⟨gs, 0, none⟩)] 62) gs hlt).trans hg
  have x := hx.below ((Below.refl _ W).alloc (Nat.le_refl _) (.cells #[.pointer (some ⟨gs, 0, none⟩)] 62))
  have gg := World.grownBy_alloc W (.cells #[.pointer (some ⟨gs, 0, none⟩)] 62) (some gs)
  have p0 := blk_cell kb 0
  obtain ⟨v12, h12⟩ : ∃ v, cs[12]? = some v := ⟨_, Array.getElem?_eq_getElem (by omega)⟩
  have c12 := (blk_cell kg 12).trans h12
  have f12 := blk_free kg 12
  obtain ⟨v13, h13⟩ : ∃ v, cs[13]? = some v := ⟨_, Array.getElem?_eq_getElem (by omega)⟩
  have c13 := (blk_cell kg 13).trans h13
  have f13 := blk_free kg 13
  obtain ⟨v14, h14⟩ : ∃ v, cs[14]? = some v := ⟨_, Array.getElem?_eq_getElem (by omega)⟩
  have c14 := (blk_cell kg 14).trans h14
  have f14 := blk_free kg 14
  obtain ⟨b, off, rfl, hb, _⟩ := hx.isSome (by omega)
  have l1 := seg_length ys 0 4 (by omega)
  have l2 := seg_length ys 4 4 (by omega)
  have x1 := hx.segOf 0 4 (by omega)
  have x2 := hx.segOf 4 4 (by omega)
  have v1 := Mt.numOf_lt (seg ys 0 4) (seg_lt hx.1 0 4)
  have v2 := Mt.numOf_lt (seg ys 4 4) (seg_lt hx.1 4 4)
  rw [l1] at v1
  rw [l2] at v2
  have n1 := fun V c2 (h : Bts V (some ⟨b, off, none⟩) (seg ys 0 4)) => pnum_tcpwire (some ⟨b, off, none⟩) (seg ys 0 4) c2 V h (by omega) (by omega)
  have n2 := fun V c2 (h : Bts V (some ⟨b, off + 4, none⟩) (seg ys 4 4)) => pnum_tcpwire (some ⟨b, off + 4, none⟩) (seg ys 4 4) c2 V h (by omega) (by omega)
  rw [l1] at n1
  rw [l2] at n2
  have N1 := Lib.hid n1
  have N2 := Lib.hid n2
  have X1 := Lib.hid x1
  have X2 := Lib.hid x2
  rw [hl]
  have y1 : IntKind.u32.wrap (Mt.numOf (seg ys 0 4) : Int) = (Mt.numOf (seg ys 0 4) : Int) := IntWalk.u32_in _ (by omega)
  have y2 : IntKind.u32.wrap (Mt.numOf (seg ys 4 4) : Int) = (Mt.numOf (seg ys 4 4) : Int) := IntWalk.u32_in _ (by omega)
  generalize Mt.numOf (seg ys 0 4) = v at N1 y1 v1
  generalize Mt.numOf (seg ys 4 4) = u at N2 y2 v2
  have hbne : b ≠ gs := hag _ rfl
  have z4 : ¬ c = 4 := by omega
  have i4 : (4 : Int) ≤ (c : Int) := by omega
  have KG := Lib.hid kg
  have GG := Lib.hid gg
  have H13 := Lib.hid h13
  have H14 := Lib.hid h14
  clear kg gg x hx kb h12 h13 h14 hs n1 n2 x1 x2 l1 l2 v1 v2 hc
  go_enter Try.func33, Try.ntmps33
  go_upto_if 8 with (fail)
  generalize W.alloc (.cells #[.pointer (some ⟨gs, 0, none⟩)] 62) = V at p0 c12 f12 c13 f13 c14 f14 KG GG ⊢
  go_wp2_with fail
  have F := blk_set KG.out 12 (.bool true)
  have p0' := (set_ne2 (i := 12) (v := .bool true) ne').trans p0
  have KF := Lib.hid F
  have GF := Lib.hid (GG.out.trans (grown_set V gs 12 (.bool true)))
  have c13' := (blk_cell F 13).trans ((Array.getElem?_setIfInBounds_ne (by decide)).trans H13.out)
  have f13' := blk_free F 13
  have Y1 := Lib.hid (((X1.out.grown GF.out hbne).below (Below.refl _ _).drew))
  generalize V.setCell ⟨gs, 12, none⟩ (.bool true) = V2 at p0' KF GF c13' f13' Y1 ⊢
  clear F c12 f12 c13 f13 c14 f14 KG GG p0
  go_region_held3 (fun W' => W'.cell? ⟨W.heap.size, 0, none⟩ = some (.pointer (some ⟨gs, 0, none⟩))) (first | go_keep) (first
    | (go_at_call 30; (with_reducible refine (N1.out _ _ Y1.out).mono ?_); rintro e w' ⟨rfl, rfl⟩))
  go_wp2_with fail
  have F := blk_set KF.out 13 (.int .u32 v)
  have p0 := (set_ne2 (i := 13) (v := .int .u32 v) ne').trans p0'
  have KH := Lib.hid F
  have GH := Lib.hid ((GF.out.trans (grown_set V2 gs 13 (.int .u32 v))).trans (grown_drew _ _))
  have c14' := (blk_cell F 14).trans ((Array.getElem?_setIfInBounds_ne (by decide)).trans ((Array.getElem?_setIfInBounds_ne (by decide)).trans H14.out))
  have f14' := blk_free F 14
  have Y2 := Lib.hid ((X2.out.grown GH.out hbne).below (Below.refl _ _).drew)
  have p0d : (V2.setCell ⟨gs, 13, none⟩ (.int .u32 v)).drew.cell? ⟨W.heap.size, 0, none⟩ = some (.pointer (some ⟨gs, 0, none⟩)) := p0
  have KD : Hid ((V2.setCell ⟨gs, 13, none⟩ (.int .u32 v)).drew.heap[gs]? = _) := KH
  have c14d : (V2.setCell ⟨gs, 13, none⟩ (.int .u32 v)).drew.cell? ⟨gs, 14, none⟩ = some v14 := c14'
  have f14d : (V2.setCell ⟨gs, 13, none⟩ (.int .u32 v)).drew.frozen? ⟨gs, 14, none⟩ = false := f14'
  clear p0 KH c14' f14' F
  generalize (V2.setCell ⟨gs, 13, none⟩ (.int .u32 v)).drew = V3 at p0d KD GH c14d f14d Y2 ⊢
  go_region_held3 (fun W' => W'.cell? ⟨W.heap.size, 0, none⟩ = some (.pointer (some ⟨gs, 0, none⟩))) (first | go_keep) (first
    | (go_at_call 30; (with_reducible refine (N2.out _ _ Y2.out).mono ?_); rintro e w' ⟨rfl, rfl⟩))
  go_wp2
  have F := blk_set KD.out 14 (.int .u32 u)
  go_end0
  exact ⟨rfl, F, (GH.out.trans (grown_set _ _ _ _)).trans (grown_drew _ _)⟩

set_option maxRecDepth 100000 in
set_option maxHeartbeats 1000000 in
theorem set_other (gs k : Nat) (cs : Array Value) (a : Option Addr) (n c : Nat) (W : World) (hg : TcpAt W gs cs) (hk : k ≠ 2 ∧ k ≠ 3 ∧ k ≠ 4 ∧ k ≠ 8 ∧ k ≠ 5) :
    Calls Try.prog 33 #[.pointer (some ⟨gs, 0, none⟩), .int .u8 k, .slice a n c] W fun e w' => e = .returned (.tuple #[]) ∧ TcpAt w' gs cs ∧ W.grownBy w' (some gs) := by
  have hlt : gs < W.heap.size := (Array.getElem?_eq_some_iff.1 hg).1
  have kg := Lib.hid ((Below.heap_alloc W (.cells #[.pointer (some ⟨gs, 0, none⟩)] 62) gs hlt).trans hg)
  have gg := Lib.hid (World.grownBy_alloc W (.cells #[.pointer (some ⟨gs, 0, none⟩)] 62) (some gs))
  have i2 : ((k : Int) == 2) = false := by rw [beq_eq_false_iff_ne]; omega
  have i3 : ((k : Int) == 3) = false := by rw [beq_eq_false_iff_ne]; omega
  have i4 : ((k : Int) == 4) = false := by rw [beq_eq_false_iff_ne]; omega
  have i5 : ((k : Int) == 5) = false := by rw [beq_eq_false_iff_ne]; omega
  have i8 : ((k : Int) == 8) = false := by rw [beq_eq_false_iff_ne]; omega
  clear hk
  go_enter Try.func33, Try.ntmps33
  go_wp2
  go_end0
  exact ⟨rfl, kg.out, gg.out⟩

end Go.Proofs.Ytgmgoilleakdcaa
