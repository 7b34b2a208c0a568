/- Two values that are one are told to be one. -/
import Derived.Test.YtgmgoilleakdcaaGPlain
import Derived.Test.YtgmgoilleakdcaaGSameBlocks
import Derived.Test.YtgmgoilleakdcaaTcpO
import Derived.Test.YtgmgoilleakdcaaTcpBack
namespace Go.Proofs.Ytgmgoilleakdcaa
open Go.RowKit

set_option maxRecDepth 100000 in
set_option maxHeartbeats 2000000 in
theorem sameTcp_one (v0 : Nat) (v1 : Nat) (v2 : Nat) (v3 : Nat) (v4 : Nat) (v5 : Nat) (v6 : Nat) (v7 : Int) (v8 : Bool) (v9 : Int) (v10 : Bool) (a11 c11 : Option Addr) (bs11 : List (Nat × Nat)) (cap11 dap11 : Nat) (v12 : Bool) (v13 : Nat) (v14 : Nat) (a15 c15 : Option Addr) (xs15 : List Nat) (cap15 dap15 : Nat) (w : World) (hx11 : Blk w a11 bs11) (hy11 : Blk w c11 bs11) (hl11 : bs11.length ≤ 17592186044416) (hx15 : Bts w a15 xs15) (hy15 : Bts w c15 xs15) (hl15 : xs15.length ≤ 140737488355328) :
    Calls Try.prog 14 #[.agg #[.int .u16 v0, .int .u16 v1, .int .u32 v2, .int .u32 v3, .int .u8 v4, .int .u16 v5, .int .u16 v6, .int .i64 v7, .bool v8, .int .i64 v9, .bool v10, .slice a11 bs11.length cap11, .bool v12, .int .u32 v13, .int .u32 v14, .slice a15 xs15.length cap15], .agg #[.int .u16 v0, .int .u16 v1, .int .u32 v2, .int .u32 v3, .int .u8 v4, .int .u16 v5, .int .u16 v6, .int .i64 v7, .bool v8, .int .i64 v9, .bool v10, .slice c11 bs11.length dap11, .bool v12, .int .u32 v13, .int .u32 v14, .slice c15 xs15.length dap15]] w fun e w' => e = .returned (.bool true) ∧ Below w.heap.size w w' := by
  have e0 : ((v0 : Int) == (v0 : Int)) = true := by simp
  have f0 : ((v0 : Int) != (v0 : Int)) = false := by simp
  have e1 : ((v1 : Int) == (v1 : Int)) = true := by simp
  have f1 : ((v1 : Int) != (v1 : Int)) = false := by simp
  have e2 : ((v2 : Int) == (v2 : Int)) = true := by simp
  have f2 : ((v2 : Int) != (v2 : Int)) = false := by simp
  have e3 : ((v3 : Int) == (v3 : Int)) = true := by simp
  have f3 : ((v3 : Int) != (v3 : Int)) = false := by simp
  have e4 : ((v4 : Int) == (v4 : Int)) = true := by simp
  have f4 : ((v4 : Int) != (v4 : Int)) = false := by simp
  have e5 : ((v5 : Int) == (v5 : Int)) = true := by simp
  have f5 : ((v5 : Int) != (v5 : Int)) = false := by simp
  have e6 : ((v6 : Int) == (v6 : Int)) = true := by simp
  have f6 : ((v6 : Int) != (v6 : Int)) = false := by simp
  have e7 : (v7 == v7) = true := by simp
  have f7 : (v7 != v7) = false := by simp
  have e8 : (v8 == v8) = true := by simp
  have e9 : (v9 == v9) = true := by simp
  have f9 : (v9 != v9) = false := by simp
  have e10 : (v10 == v10) = true := by simp
  have e12 : (v12 == v12) = true := by simp
  have e13 : ((v13 : Int) == (v13 : Int)) = true := by simp
  have f13 : ((v13 : Int) != (v13 : Int)) = false := by simp
  have e14 : ((v14 : Int) == (v14 : Int)) = true := by simp
  have f14 : ((v14 : Int) != (v14 : Int)) = false := by simp
  have q0 := ((Below.refl _ w).alloc (Nat.le_refl _) (.cells #[.int .u16 v0, .int .u16 v1, .int .u32 v2, .int .u32 v3, .int .u8 v4, .int .u16 v5, .int .u16 v6, .int .i64 v7, .bool v8, .int .i64 v9, .bool v10, .slice a11 bs11.length cap11, .bool v12, .int .u32 v13, .int .u32 v14, .slice a15 xs15.length cap15] 27)).alloc (by simp) (.cells #[.int .u16 v0, .int .u16 v1, .int .u32 v2, .int .u32 v3, .int .u8 v4, .int .u16 v5, .int .u16 v6, .int .i64 v7, .bool v8, .int .i64 v9, .bool v10, .slice c11 bs11.length dap11, .bool v12, .int .u32 v13, .int .u32 v14, .slice c15 xs15.length dap15] 27)
  have X11_0 := Lib.hid (hx11.below q0)
  have Y11_0 := Lib.hid (hy11.below q0)
  clear hx11 hy11
  have X15_0 := Lib.hid (hx15.below q0)
  have Y15_0 := Lib.hid (hy15.below q0)
  clear hx15 hy15
  go_enter Try.func14, Try.ntmps14
  go_wp2_with fail
  refine (sameBlocks_one a11 c11 bs11 bs11 cap11 dap11 _ X11_0.out Y11_0.out hl11 hl11 rfl).mono ?_
  rintro e w1 ⟨rfl, b1⟩
  have g1_12_a : w1.cell? ⟨w.heap.size, 12, none⟩ = some (.bool v12) := (b1.cell (p := ⟨w.heap.size, 12, none⟩) (by show _ < _; simp only [World.size_alloc]; omega)).trans (by rw [World.cell?_alloc_past _ _ _ (by simp), World.cell?_alloc_new]; rfl)
  have g1_12_b : w1.cell? ⟨w.heap.size + 1, 12, none⟩ = some (.bool v12) := (b1.cell (p := ⟨w.heap.size + 1, 12, none⟩) (by show _ < _; simp only [World.size_alloc]; omega)).trans (by rw [World.cell?_alloc_at _ _ _ _ (by simp)]; rfl)
  have g1_13_a : w1.cell? ⟨w.heap.size, 13, none⟩ = some (.int .u32 v13) := (b1.cell (p := ⟨w.heap.size, 13, none⟩) (by show _ < _; simp only [World.size_alloc]; omega)).trans (by rw [World.cell?_alloc_past _ _ _ (by simp), World.cell?_alloc_new]; rfl)
  have g1_13_b : w1.cell? ⟨w.heap.size + 1, 13, none⟩ = some (.int .u32 v13) := (b1.cell (p := ⟨w.heap.size + 1, 13, none⟩) (by show _ < _; simp only [World.size_alloc]; omega)).trans (by rw [World.cell?_alloc_at _ _ _ _ (by simp)]; rfl)
  have g1_14_a : w1.cell? ⟨w.heap.size, 14, none⟩ = some (.int .u32 v14) := (b1.cell (p := ⟨w.heap.size, 14, none⟩) (by show _ < _; simp only [World.size_alloc]; omega)).trans (by rw [World.cell?_alloc_past _ _ _ (by simp), World.cell?_alloc_new]; rfl)
  have g1_14_b : w1.cell? ⟨w.heap.size + 1, 14, none⟩ = some (.int .u32 v14) := (b1.cell (p := ⟨w.heap.size + 1, 14, none⟩) (by show _ < _; simp only [World.size_alloc]; omega)).trans (by rw [World.cell?_alloc_at _ _ _ _ (by simp)]; rfl)
  have g1_15_a : w1.cell? ⟨w.heap.size, 15, none⟩ = some (.slice a15 xs15.length cap15) := (b1.cell (p := ⟨w.heap.size, 15, none⟩) (by show _ < _; simp only [World.size_alloc]; omega)).trans (by rw [World.cell?_alloc_past _ _ _ (by simp), World.cell?_alloc_new]; rfl)
  have g1_15_b : w1.cell? ⟨w.heap.size + 1, 15, none⟩ = some (.slice c15 xs15.length dap15) := (b1.cell (p := ⟨w.heap.size + 1, 15, none⟩) (by show _ < _; simp only [World.size_alloc]; omega)).trans (by rw [World.cell?_alloc_at _ _ _ _ (by simp)]; rfl)
  have z1 : w.heap.size + 1 < w1.heap.size := by have := b1.size; simp at this; omega
  have q1 := q0.trans (b1.mono q0.size)
  have X15_1 := Lib.hid (X15_0.out.below b1)
  have Y15_1 := Lib.hid (Y15_0.out.below b1)
  clear X11_0 Y11_0 X15_0 Y15_0 b1 q0  
  go_wp2_with fail
  refine (same_one a15 c15 xs15 xs15 cap15 dap15 _ X15_1.out Y15_1.out hl15 hl15 rfl).mono ?_
  rintro e w2 ⟨rfl, b2⟩
  have q2 := q1.trans (b2.mono q1.size)
  clear X15_1 Y15_1 b2 q1 g1_12_a g1_12_b g1_13_a g1_13_b g1_14_a g1_14_b g1_15_a g1_15_b z1
  go_wp2
  go_ret
  exact ⟨rfl, q2⟩
end Go.Proofs.Ytgmgoilleakdcaa

namespace Go.Proofs.Ytgmgoilleakdcaa
open Go.RowKit

set_option maxRecDepth 100000 in
set_option maxHeartbeats 1000000 in
theorem tlength_any (sp dp sq ak fl wn ur mss : Nat) (hs : Bool) (sc : Nat) (sk : Bool) (ba : Option Addr) (bn bc : Nat) (ht : Bool) (tv te : Nat) (da : Option Addr) (dn dc : Nat) (w : World) (hd : dn ≤ 70368744177664) :
    Calls Try.prog 17 #[.agg (tcpV sp dp sq ak fl wn ur mss hs sc sk ba bn bc ht tv te da dn dc)] w fun e w' => e = .returned (.int .i64 ((dn : Int) + (if (bits .and .u8 (fl : Int) 2 != 0) = true then 1 else 0) + (if (bits .and .u8 (fl : Int) 1 != 0) = true then 1 else 0))) ∧ Below w.heap.size w w' := by
  have bw := (Below.refl _ w).alloc (Nat.le_refl _) (.cells (tcpV sp dp sq ak fl wn ur mss hs sc sk ba bn bc ht tv te da dn dc) 27)
  unfold tcpV at *
  go_enter Try.func17, Try.ntmps17
  cases h2 : (bits .and .u8 (fl : Int) 2 != 0) <;> cases h1 : (bits .and .u8 (fl : Int) 1 != 0)
  all_goals
    go_wp2
    go_ret
    exact ⟨by simp, bw⟩
end Go.Proofs.Ytgmgoilleakdcaa

namespace Go.Proofs.Ytgmgoilleakdcaa
open Go.RowKit

theorem OwnBlk.of_row {B : Nat} {v : Value} {bs : List (Nat × Nat)} {w : World} (hb : ∀ p ∈ bs, p.1 < 4294967296 ∧ p.2 < 4294967296) (h : w.ownsRow B 68 2 v bs.length (blkCells bs)) : ∃ a cap, v = .slice a bs.length cap ∧ OwnBlk B w a bs cap := by
  rcases h.2 with ⟨rfl, h0⟩ | ⟨g, cap, cur, rfl, hB, h2, h3, h4, h5, h6⟩
  · obtain rfl : bs = [] := List.eq_nil_of_length_eq_zero h0
    exact ⟨none, 0, rfl, ⟨hb, .inl rfl⟩, .inl ⟨rfl, rfl⟩⟩
  · have hlt : g < w.heap.size := (Array.getElem?_eq_some_iff.1 h2).1
    have hc : ∀ j, j < bs.length * 2 → w.cell? ⟨g, 0 + j, none⟩ = (blkCells bs)[j]? := fun j hj => by
      rw [Nat.zero_add, blk_cell h2, ← h6, List.getElem?_take_of_lt hj]
      simp
    refine ⟨some ⟨g, 0, none⟩, cap, rfl, ⟨hb, .inr ⟨g, 0, rfl, hlt, fun i hi => ?_⟩⟩, .inr ⟨g, rfl, hB⟩⟩
    have hg := blkCells_get bs i hi
    rw [Nat.add_assoc, hc _ (by omega), hc _ (by omega)]
    exact hg

/-- Parse gives back what Build laid. -/
theorem tcpP_ok (sp dp sq ak fl wn ur mss : Nat) (hs : Bool) (sc : Nat) (sk : Bool) (bs : List (Nat × Nat)) (ht : Bool) (tv te : Nat) (ds : List Nat) (src dst : Nat) (hm : TcpMay mss hs sc sk bs ht tv te ds.length) (hsp : sp < 65536) (hdp : dp < 65536) (hsq : sq < 4294967296) (hak : ak < 4294967296) (hfl : fl < 256) (hwn : wn < 65536) (hur : ur < 65536) (htv : tv < 4294967296) (hte : te < 4294967296) (hsrc : src < 4294967296) (hdst : dst < 4294967296) (hbs : ∀ p ∈ bs, p.1 < 4294967296 ∧ p.2 < 4294967296) (hdx : ∀ x ∈ ds, x < 256) (R : List Nat) (hR : tcpO sp dp sq ak fl wn ur mss hs sc sk bs ht tv te ds src dst = R) (a : Option Addr) (cap : Nat) (w : World) (hx : Bts w a R) (hc : R.length ≤ cap) :
    Calls Try.prog 10 #[.slice a R.length cap, .int .u32 src, .int .u32 dst] w fun e w' => ∃ ba bc da dc, e = .returned (.tuple #[.agg (tcpV sp dp sq ak fl wn ur mss hs sc sk ba bs.length bc ht tv te da ds.length dc), .int .i64 0]) ∧ OwnBlk w.heap.size w' ba bs bc ∧ OwnSl (w.heap.size + 1) da ds dc w' ∧ Below w.heap.size w w' := by
  obtain ⟨hok, _, hrd, hd, _, _, hP⟩ := tcp_back sp dp sq ak fl wn ur mss hs sc sk bs ht tv te ds src dst hm hsp hdp hsq hak hfl hwn hur htv hte hsrc hdst hbs hdx R hR
  refine (tcpP_read a R cap src dst w hx hc hsrc hdst hok).mono ?_
  rintro e w' ⟨hb, ⟨h, _⟩ | ⟨s, v, da, dc, h, rfl, hO, hr⟩⟩
  · rw [hrd] at h; cases h
  · rw [hrd] at h
    cases h
    rw [hd] at hO ⊢
    obtain ⟨ba, bc, rfl, hB⟩ := OwnBlk.of_row (B := w.heap.size) hbs hr
    refine ⟨ba, bc, da, dc, ?_, hB, hO, hb⟩
    rw [hP]
    rfl

/-- SameTcp of a segment and what was read of it. -/
theorem sameTcpV (sp dp sq ak fl wn ur mss : Nat) (hs : Bool) (sc : Nat) (sk : Bool) (bs : List (Nat × Nat)) (ht : Bool) (tv te : Nat) (ds : List Nat) (a1 a2 b1 b2 : Option Addr) (c1 c2 d1 d2 : Nat) (w : World) (h1 : Blk w a1 bs) (h2 : Blk w a2 bs) (hl : bs.length ≤ 17592186044416) (h3 : Bts w b1 ds) (h4 : Bts w b2 ds) (hl2 : ds.length ≤ 140737488355328) :
    Calls Try.prog 14 #[.agg (tcpV sp dp sq ak fl wn ur mss hs sc sk a1 bs.length c1 ht tv te b1 ds.length d1), .agg (tcpV sp dp sq ak fl wn ur mss hs sc sk a2 bs.length c2 ht tv te b2 ds.length d2)] w fun e w' => e = .returned (.bool true) ∧ Below w.heap.size w w' :=
  sameTcp_one sp dp sq ak fl wn ur mss hs sc sk a1 a2 bs c1 c2 ht tv te b1 b2 ds d1 d2 w h1 h2 hl h3 h4 hl2
end Go.Proofs.Ytgmgoilleakdcaa
