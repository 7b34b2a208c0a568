/- Pacer: Depart, on both sides; the page's example. -/
import Derived.Test.YthbiadhnlomhmaaGBase
import Derived.Lib.MinMax
import Derived.ProofKit
import Derived.Deep.RegionWith
namespace Go.Proofs.Ythbiadhnlomhmaa.Pc
structure Sm {α : Type} (a b : α) : Prop where
  eq : a = b
/-- What may be: a packet's size, its rate, quantum and tick, the state. -/
def DV (x z r q v : Int) : Prop := (1 ≤ z ∧ z ≤ 65535) ∧ (1 ≤ r ∧ r ≤ 1073741824) ∧ (0 ≤ q ∧ q ≤ 1048576) ∧ (0 ≤ v ∧ v ≤ 1099511627776) ∧ (0 ≤ x ∧ x ≤ 1099511627776)
instance (x z r q v : Int) : Decidable (DV x z r q v) := by unfold DV; infer_instance
def cost (z r : Int) : Int := (z * 1024 + r - 1) / r
def base (x r q v : Int) : Int := max x (v - q * 1024 / r)
def dE (x z r q v : Int) : Int := if DV x z r q v then 0 else 4
def dN (x z r q v : Int) : Int := if DV x z r q v then min (base x r q v + cost z r) 1099511627776 else 0
def dT (x z r q v : Int) : Int := if DV x z r q v then max (base x r q v) v else 0
theorem dv_bd {x z r q v : Int} (h : DV x z r q v) : (0 ≤ cost z r ∧ cost z r ≤ 1140849663) ∧ (0 ≤ q * 1024 / r ∧ q * 1024 / r ≤ 1073741824) := by
  obtain ⟨⟨z0, z1⟩, ⟨r0, r1⟩, ⟨q0, q1⟩, _, _⟩ := h
  have a0 : 0 ≤ cost z r := Int.ediv_nonneg (by omega) (by omega)
  have a1 : cost z r ≤ z * 1024 + r - 1 := Int.ediv_le_self _ (by omega)
  have b0 : 0 ≤ q * 1024 / r := Int.ediv_nonneg (by omega) (by omega)
  have b1 : q * 1024 / r ≤ q * 1024 := Int.ediv_le_self _ (by omega)
  exact ⟨⟨a0, by omega⟩, ⟨b0, by omega⟩⟩
end Go.Proofs.Ythbiadhnlomhmaa.Pc
namespace Go.Proofs.Ythbiadhnlomhmaa
open Go.RowKit Go.Proofs.Ythbiadhnlomhmaa.Pc

theorem blk_alloc {W : World} {g : Nat} {o : Obj} (h : W.heap[g]? = some o) (o2 : Obj) : (W.alloc o2).heap[g]? = some o :=
  (((Below.refl W.heap.size W).alloc (Nat.le_refl _) o2).block g (blk_lt h)).trans h
set_option maxRecDepth 100000 in
set_option maxHeartbeats 4000000 in
theorem depart_ok (x z r q v : Int) (w : World) (h : DV x z r q v) :
    Calls Try.prog 6 #[.agg #[.int .i64 x], .int .i64 z, .int .i64 r, .int .i64 q, .int .i64 v] w fun e w' => e = .returned (.tuple #[.agg #[.int .i64 (min (base x r q v + cost z r) 1099511627776)], .int .i64 (max (base x r q v) v), .int .i64 0]) ∧ Below w.heap.size w w' := by
  obtain ⟨hc, hs⟩ := dv_bd h
  have hn : base x r q v = max x (v - q * 1024 / r) := rfl
  obtain ⟨C, hC⟩ : ∃ C, cost z r = C := ⟨_, rfl⟩
  obtain ⟨S, hS⟩ : ∃ S, q * 1024 / r = S := ⟨_, rfl⟩
  rw [hn, hC, hS]
  rw [hC] at hc
  rw [hS] at hs
  have HC := Lib.hid hc
  have HSL := Lib.hid hs
  have HFA : Hid ((z * 1024 + r - 1) / r = C) := Lib.hid hC
  have HFB : Hid (q * 1024 / r = S) := Lib.hid hS
  have H0 := Lib.hid h.1
  have H1 := Lib.hid h.2.1
  have H2 := Lib.hid h.2.2.1
  have H3 := Lib.hid h.2.2.2.1
  have H4 := Lib.hid h.2.2.2.2
  clear h hc hs hn hC hS
  have q_0 := Below.refl w.heap.size w
  go_enter Try.func6, Try.ntmps6
  go_wp2_with fail
  have b : Below w.heap.size w (((w.alloc (.cells #[.int .i64 x] 25)).alloc (.cells #[.int .i64 0] 25)).alloc (.cells #[.int .i64 z, .int .i64 1, .int .i64 65535, .int .i64 r, .int .i64 1, .int .i64 1073741824, .int .i64 q, .int .i64 0, .int .i64 1048576, .int .i64 v, .int .i64 0, .int .i64 1099511627776, .int .i64 x, .int .i64 0, .int .i64 1099511627776] 43)) := ((((Below.refl _ w).alloc (Nat.le_refl _) (.cells #[.int .i64 x] 25)).alloc (by simp only [World.size_alloc]; omega) (.cells #[.int .i64 0] 25)).alloc (by simp only [World.size_alloc]; omega) (.cells #[.int .i64 z, .int .i64 1, .int .i64 65535, .int .i64 r, .int .i64 1, .int .i64 1073741824, .int .i64 q, .int .i64 0, .int .i64 1048576, .int .i64 v, .int .i64 0, .int .i64 1099511627776, .int .i64 x, .int .i64 0, .int .i64 1099511627776] 43))
  have nb0 := blk_new w (.cells #[.int .i64 x] 25)
  have nb0 := (Below.heap_alloc (w.alloc (.cells #[.int .i64 x] 25)) (.cells #[.int .i64 0] 25) (w.heap.size) (by simp only [World.size_alloc]; omega)).trans nb0
  have nb0 := (Below.heap_alloc ((w.alloc (.cells #[.int .i64 x] 25)).alloc (.cells #[.int .i64 0] 25)) (.cells #[.int .i64 z, .int .i64 1, .int .i64 65535, .int .i64 r, .int .i64 1, .int .i64 1073741824, .int .i64 q, .int .i64 0, .int .i64 1048576, .int .i64 v, .int .i64 0, .int .i64 1099511627776, .int .i64 x, .int .i64 0, .int .i64 1099511627776] 43) (w.heap.size) (by simp only [World.size_alloc]; omega)).trans nb0
  have nz0 : w.heap.size < (((w.alloc (.cells #[.int .i64 x] 25)).alloc (.cells #[.int .i64 0] 25)).alloc (.cells #[.int .i64 z, .int .i64 1, .int .i64 65535, .int .i64 r, .int .i64 1, .int .i64 1073741824, .int .i64 q, .int .i64 0, .int .i64 1048576, .int .i64 v, .int .i64 0, .int .i64 1099511627776, .int .i64 x, .int .i64 0, .int .i64 1099511627776] 43)).heap.size := by simp only [World.size_alloc]; omega
  have nb1 := blk_new (w.alloc (.cells #[.int .i64 x] 25)) (.cells #[.int .i64 0] 25)
  simp only [World.size_alloc] at nb1
  have nb1 := (Below.heap_alloc ((w.alloc (.cells #[.int .i64 x] 25)).alloc (.cells #[.int .i64 0] 25)) (.cells #[.int .i64 z, .int .i64 1, .int .i64 65535, .int .i64 r, .int .i64 1, .int .i64 1073741824, .int .i64 q, .int .i64 0, .int .i64 1048576, .int .i64 v, .int .i64 0, .int .i64 1099511627776, .int .i64 x, .int .i64 0, .int .i64 1099511627776] 43) (w.heap.size + 1) (by simp only [World.size_alloc]; omega)).trans nb1
  have nz1 : w.heap.size + 1 < (((w.alloc (.cells #[.int .i64 x] 25)).alloc (.cells #[.int .i64 0] 25)).alloc (.cells #[.int .i64 z, .int .i64 1, .int .i64 65535, .int .i64 r, .int .i64 1, .int .i64 1073741824, .int .i64 q, .int .i64 0, .int .i64 1048576, .int .i64 v, .int .i64 0, .int .i64 1099511627776, .int .i64 x, .int .i64 0, .int .i64 1099511627776] 43)).heap.size := by simp only [World.size_alloc]; omega
  have q_1 := q_0.trans (b.mono q_0.size)
  clear q_0
  clear b
  have S_1 := Lib.hid nb0
  have Sz_1 := nz0
  clear nb0 nz0
  have Sc0_1 := blk_cell S_1.out 0
  have R_1 := Lib.hid nb1
  have Rz_1 := nz1
  clear nb1 nz1
  have Rc0_1 := blk_cell R_1.out 0
  generalize (((w.alloc (.cells #[.int .i64 x] 25)).alloc (.cells #[.int .i64 0] 25)).alloc (.cells #[.int .i64 z, .int .i64 1, .int .i64 65535, .int .i64 r, .int .i64 1, .int .i64 1073741824, .int .i64 q, .int .i64 0, .int .i64 1048576, .int .i64 v, .int .i64 0, .int .i64 1099511627776, .int .i64 x, .int .i64 0, .int .i64 1099511627776] 43)) = V1 at q_1 S_1 Sz_1 Sc0_1 R_1 Rz_1 Rc0_1 ⊢
  go_loopw [32] (fun ii wr => ∃ k : Nat, k ≤ 5 ∧ ii = .int .i64 k ∧ wr.heap[w.heap.size]? = some (.cells #[.int .i64 x] 25 (0, 0)) ∧ wr.heap[w.heap.size + 1]? = some (.cells #[.int .i64 0] 25 (0, 0)) ∧ Below w.heap.size w wr) (fun ii _ => 5 - (intOf ii).toNat)
  case atStart => exact ⟨0, by omega, rfl, S_1.out, R_1.out, q_1⟩
  case round =>
    obtain ⟨k, hk, rfl, hS, hR, hq⟩ := hrel
    clear S_1 R_1 q_1 Sz_1 Rz_1 Sc0_1 Rc0_1
    have HS := Lib.hid hS
    have HR := Lib.hid hR
    have HQ := Lib.hid hq
    have sc := blk_cell hS 0
    have rc := blk_cell hR 0
    have rf := blk_free hR 0
    have sl := blk_lt hS
    have rl := blk_lt hR
    clear hS hR hq
    obtain rfl | rfl | rfl | rfl | rfl | rfl : k = 0 ∨ k = 1 ∨ k = 2 ∨ k = 3 ∨ k = 4 ∨ k = 5 := by omega
    · have hx0 : ∀ W, (Instr.index 43 (.agg #[.int .i64 z, .int .i64 1, .int .i64 65535, .int .i64 r, .int .i64 1, .int .i64 1073741824, .int .i64 q, .int .i64 0, .int .i64 1048576, .int .i64 v, .int .i64 0, .int .i64 1099511627776, .int .i64 x, .int .i64 0, .int .i64 1099511627776]) (.int .i64 0)).run Try.prog W = .ok (.agg #[.int .i64 z, .int .i64 1, .int .i64 65535]) W := fun W => by simp [Instr.index, run_underlying Try.underlying43, asIntOf, go_sem]
      obtain ⟨b0, b1⟩ := H0.out
      go_wp2_with fail
      go_roundw
      case rel => exact ⟨1, by omega, by go_num, blk_alloc HS.out _, blk_alloc HR.out _, HQ.out.alloc HQ.out.size _⟩
      case measure => simp [intOf]
    · have hx1 : ∀ W, (Instr.index 43 (.agg #[.int .i64 z, .int .i64 1, .int .i64 65535, .int .i64 r, .int .i64 1, .int .i64 1073741824, .int .i64 q, .int .i64 0, .int .i64 1048576, .int .i64 v, .int .i64 0, .int .i64 1099511627776, .int .i64 x, .int .i64 0, .int .i64 1099511627776]) (.int .i64 1)).run Try.prog W = .ok (.agg #[.int .i64 r, .int .i64 1, .int .i64 1073741824]) W := fun W => by simp [Instr.index, run_underlying Try.underlying43, asIntOf, go_sem]
      obtain ⟨b0, b1⟩ := H1.out
      go_wp2_with fail
      go_roundw
      case rel => exact ⟨2, by omega, by go_num, blk_alloc HS.out _, blk_alloc HR.out _, HQ.out.alloc HQ.out.size _⟩
      case measure => simp [intOf]
    · have hx2 : ∀ W, (Instr.index 43 (.agg #[.int .i64 z, .int .i64 1, .int .i64 65535, .int .i64 r, .int .i64 1, .int .i64 1073741824, .int .i64 q, .int .i64 0, .int .i64 1048576, .int .i64 v, .int .i64 0, .int .i64 1099511627776, .int .i64 x, .int .i64 0, .int .i64 1099511627776]) (.int .i64 2)).run Try.prog W = .ok (.agg #[.int .i64 q, .int .i64 0, .int .i64 1048576]) W := fun W => by simp [Instr.index, run_underlying Try.underlying43, asIntOf, go_sem]
      obtain ⟨b0, b1⟩ := H2.out
      go_wp2_with fail
      go_roundw
      case rel => exact ⟨3, by omega, by go_num, blk_alloc HS.out _, blk_alloc HR.out _, HQ.out.alloc HQ.out.size _⟩
      case measure => simp [intOf]
    · have hx3 : ∀ W, (Instr.index 43 (.agg #[.int .i64 z, .int .i64 1, .int .i64 65535, .int .i64 r, .int .i64 1, .int .i64 1073741824, .int .i64 q, .int .i64 0, .int .i64 1048576, .int .i64 v, .int .i64 0, .int .i64 1099511627776, .int .i64 x, .int .i64 0, .int .i64 1099511627776]) (.int .i64 3)).run Try.prog W = .ok (.agg #[.int .i64 v, .int .i64 0, .int .i64 1099511627776]) W := fun W => by simp [Instr.index, run_underlying Try.underlying43, asIntOf, go_sem]
      obtain ⟨b0, b1⟩ := H3.out
      go_wp2_with fail
      go_roundw
      case rel => exact ⟨4, by omega, by go_num, blk_alloc HS.out _, blk_alloc HR.out _, HQ.out.alloc HQ.out.size _⟩
      case measure => simp [intOf]
    · have hx4 : ∀ W, (Instr.index 43 (.agg #[.int .i64 z, .int .i64 1, .int .i64 65535, .int .i64 r, .int .i64 1, .int .i64 1073741824, .int .i64 q, .int .i64 0, .int .i64 1048576, .int .i64 v, .int .i64 0, .int .i64 1099511627776, .int .i64 x, .int .i64 0, .int .i64 1099511627776]) (.int .i64 4)).run Try.prog W = .ok (.agg #[.int .i64 x, .int .i64 0, .int .i64 1099511627776]) W := fun W => by simp [Instr.index, run_underlying Try.underlying43, asIntOf, go_sem]
      obtain ⟨b0, b1⟩ := H4.out
      go_wp2_with fail
      go_roundw
      case rel => exact ⟨5, by omega, by go_num, blk_alloc HS.out _, blk_alloc HR.out _, HQ.out.alloc HQ.out.size _⟩
      case measure => simp [intOf]
    · have fa := HFA.out
      have fb := HFB.out
      obtain ⟨c0, c1⟩ := HC.out
      obtain ⟨s0, s1⟩ := HSL.out
      obtain ⟨z0, z1⟩ := H0.out
      obtain ⟨r0, r1⟩ := H1.out
      obtain ⟨q0, q1⟩ := H2.out
      obtain ⟨v0, v1⟩ := H3.out
      obtain ⟨x0, x1⟩ := H4.out
      have fz : ¬ r = 0 := by omega
      have fzb : (r == 0) = false := by rw [beq_eq_false_iff_ne]; omega
      go_wp2
      refine bodyPost_ret (v := .tuple #[.agg #[.int .i64 (min (max x (v - S) + C) 1099511627776)], .int .i64 (max (max x (v - S)) v), .int .i64 0]) (by simp [results, Try.results6, go_sem, *]) rfl ⟨rfl, ?_⟩
      have Q1 := HQ
      (repeat' (first | (with_reducible exact Q1.out) | (with_reducible exact Below.refl _ _) | (with_reducible refine Below.alloc ?_ ?_ _) | (with_reducible refine Below.setCell ?_ ?_ _) | (with_reducible refine Below.drew ?_) | (with_reducible refine below_drewN ?_ _) | omega | (dsimp only; omega) | (simp; done) | (simp; omega)))

set_option maxRecDepth 100000 in
set_option maxHeartbeats 4000000 in
theorem depart_no (x z r q v : Int) (w : World) (h : ¬ DV x z r q v) :
    Calls Try.prog 6 #[.agg #[.int .i64 x], .int .i64 z, .int .i64 r, .int .i64 q, .int .i64 v] w fun e w' => e = .returned (.tuple #[.agg #[.int .i64 0], .int .i64 0, .int .i64 4]) ∧ Below w.heap.size w w' := by
  have HB := Lib.hid h
  clear h
  have q_0 := Below.refl w.heap.size w
  go_enter Try.func6, Try.ntmps6
  go_wp2_with fail
  have b : Below w.heap.size w (((w.alloc (.cells #[.int .i64 x] 25)).alloc (.cells #[.int .i64 0] 25)).alloc (.cells #[.int .i64 z, .int .i64 1, .int .i64 65535, .int .i64 r, .int .i64 1, .int .i64 1073741824, .int .i64 q, .int .i64 0, .int .i64 1048576, .int .i64 v, .int .i64 0, .int .i64 1099511627776, .int .i64 x, .int .i64 0, .int .i64 1099511627776] 43)) := ((((Below.refl _ w).alloc (Nat.le_refl _) (.cells #[.int .i64 x] 25)).alloc (by simp only [World.size_alloc]; omega) (.cells #[.int .i64 0] 25)).alloc (by simp only [World.size_alloc]; omega) (.cells #[.int .i64 z, .int .i64 1, .int .i64 65535, .int .i64 r, .int .i64 1, .int .i64 1073741824, .int .i64 q, .int .i64 0, .int .i64 1048576, .int .i64 v, .int .i64 0, .int .i64 1099511627776, .int .i64 x, .int .i64 0, .int .i64 1099511627776] 43))
  have nb0 := blk_new w (.cells #[.int .i64 x] 25)
  have nb0 := (Below.heap_alloc (w.alloc (.cells #[.int .i64 x] 25)) (.cells #[.int .i64 0] 25) (w.heap.size) (by simp only [World.size_alloc]; omega)).trans nb0
  have nb0 := (Below.heap_alloc ((w.alloc (.cells #[.int .i64 x] 25)).alloc (.cells #[.int .i64 0] 25)) (.cells #[.int .i64 z, .int .i64 1, .int .i64 65535, .int .i64 r, .int .i64 1, .int .i64 1073741824, .int .i64 q, .int .i64 0, .int .i64 1048576, .int .i64 v, .int .i64 0, .int .i64 1099511627776, .int .i64 x, .int .i64 0, .int .i64 1099511627776] 43) (w.heap.size) (by simp only [World.size_alloc]; omega)).trans nb0
  have nz0 : w.heap.size < (((w.alloc (.cells #[.int .i64 x] 25)).alloc (.cells #[.int .i64 0] 25)).alloc (.cells #[.int .i64 z, .int .i64 1, .int .i64 65535, .int .i64 r, .int .i64 1, .int .i64 1073741824, .int .i64 q, .int .i64 0, .int .i64 1048576, .int .i64 v, .int .i64 0, .int .i64 1099511627776, .int .i64 x, .int .i64 0, .int .i64 1099511627776] 43)).heap.size := by simp only [World.size_alloc]; omega
  have nb1 := blk_new (w.alloc (.cells #[.int .i64 x] 25)) (.cells #[.int .i64 0] 25)
  simp only [World.size_alloc] at nb1
  have nb1 := (Below.heap_alloc ((w.alloc (.cells #[.int .i64 x] 25)).alloc (.cells #[.int .i64 0] 25)) (.cells #[.int .i64 z, .int .i64 1, .int .i64 65535, .int .i64 r, .int .i64 1, .int .i64 1073741824, .int .i64 q, .int .i64 0, .int .i64 1048576, .int .i64 v, .int .i64 0, .int .i64 1099511627776, .int .i64 x, .int .i64 0, .int .i64 1099511627776] 43) (w.heap.size + 1) (by simp only [World.size_alloc]; omega)).trans nb1
  have nz1 : w.heap.size + 1 < (((w.alloc (.cells #[.int .i64 x] 25)).alloc (.cells #[.int .i64 0] 25)).alloc (.cells #[.int .i64 z, .int .i64 1, .int .i64 65535, .int .i64 r, .int .i64 1, .int .i64 1073741824, .int .i64 q, .int .i64 0, .int .i64 1048576, .int .i64 v, .int .i64 0, .int .i64 1099511627776, .int .i64 x, .int .i64 0, .int .i64 1099511627776] 43)).heap.size := by simp only [World.size_alloc]; omega
  have q_1 := q_0.trans (b.mono q_0.size)
  clear q_0
  clear b
  have S_1 := Lib.hid nb0
  have Sz_1 := nz0
  clear nb0 nz0
  have Sc0_1 := blk_cell S_1.out 0
  have R_1 := Lib.hid nb1
  have Rz_1 := nz1
  clear nb1 nz1
  have Rc0_1 := blk_cell R_1.out 0
  generalize (((w.alloc (.cells #[.int .i64 x] 25)).alloc (.cells #[.int .i64 0] 25)).alloc (.cells #[.int .i64 z, .int .i64 1, .int .i64 65535, .int .i64 r, .int .i64 1, .int .i64 1073741824, .int .i64 q, .int .i64 0, .int .i64 1048576, .int .i64 v, .int .i64 0, .int .i64 1099511627776, .int .i64 x, .int .i64 0, .int .i64 1099511627776] 43)) = V1 at q_1 S_1 Sz_1 Sc0_1 R_1 Rz_1 Rc0_1 ⊢
  go_loopw [32] (fun ii wr => ∃ k : Nat, k ≤ 5 ∧ ii = .int .i64 k ∧ wr.heap[w.heap.size]? = some (.cells #[.int .i64 x] 25 (0, 0)) ∧ wr.heap[w.heap.size + 1]? = some (.cells #[.int .i64 0] 25 (0, 0)) ∧ Below w.heap.size w wr ∧ (0 < k → 1 ≤ z ∧ z ≤ 65535) ∧ (1 < k → 1 ≤ r ∧ r ≤ 1073741824) ∧ (2 < k → 0 ≤ q ∧ q ≤ 1048576) ∧ (3 < k → 0 ≤ v ∧ v ≤ 1099511627776) ∧ (4 < k → 0 ≤ x ∧ x ≤ 1099511627776)) (fun ii _ => 5 - (intOf ii).toNat)
  case atStart => exact ⟨0, by omega, rfl, S_1.out, R_1.out, q_1, fun hc => absurd hc (by omega), fun hc => absurd hc (by omega), fun hc => absurd hc (by omega), fun hc => absurd hc (by omega), fun hc => absurd hc (by omega)⟩
  case round =>
    obtain ⟨k, hk, rfl, hS, hR, hq, i0, i1, i2, i3, i4⟩ := hrel
    clear S_1 R_1 q_1 Sz_1 Rz_1 Sc0_1 Rc0_1
    have HS := Lib.hid hS
    have HR := Lib.hid hR
    have HQ := Lib.hid hq
    have sc := blk_cell hS 0
    have rc := blk_cell hR 0
    have rf := blk_free hR 0
    have sl := blk_lt hS
    have rl := blk_lt hR
    clear hS hR hq
    obtain rfl | rfl | rfl | rfl | rfl | rfl : k = 0 ∨ k = 1 ∨ k = 2 ∨ k = 3 ∨ k = 4 ∨ k = 5 := by omega
    · clear i0 i1 i2 i3 i4
      have hx0 : ∀ W, (Instr.index 43 (.agg #[.int .i64 z, .int .i64 1, .int .i64 65535, .int .i64 r, .int .i64 1, .int .i64 1073741824, .int .i64 q, .int .i64 0, .int .i64 1048576, .int .i64 v, .int .i64 0, .int .i64 1099511627776, .int .i64 x, .int .i64 0, .int .i64 1099511627776]) (.int .i64 0)).run Try.prog W = .ok (.agg #[.int .i64 z, .int .i64 1, .int .i64 65535]) W := fun W => by simp [Instr.index, run_underlying Try.underlying43, asIntOf, go_sem]
      by_cases hb : 1 ≤ z ∧ z ≤ 65535
      · have HB0 := Lib.hid hb
        obtain ⟨b0, b1⟩ := hb
        go_wp2_with fail
        go_roundw
        case rel => exact ⟨1, by omega, by go_num, blk_alloc HS.out _, blk_alloc HR.out _, HQ.out.alloc HQ.out.size _, fun _ => HB0.out, fun hc => absurd hc (by omega), fun hc => absurd hc (by omega), fun hc => absurd hc (by omega), fun hc => absurd hc (by omega)⟩
        case measure => simp [intOf]
      · by_cases h1 : z < 1
        · clear hb
          go_wp2_with fail
          refine bodyPost_ret (v := .tuple #[.agg #[.int .i64 0], .int .i64 0, .int .i64 4]) (by simp [results, Try.results6, go_sem, *]) rfl ⟨rfl, ?_⟩
          have Q1 := HQ
          (repeat' (first | (with_reducible exact Q1.out) | (with_reducible exact Below.refl _ _) | (with_reducible refine Below.alloc ?_ ?_ _) | (with_reducible refine Below.setCell ?_ ?_ _) | (with_reducible refine Below.drew ?_) | (with_reducible refine below_drewN ?_ _) | omega | (dsimp only; omega) | (simp; done) | (simp; omega)))
        · have h2 : 65535 < z := by omega
          clear hb
          go_wp2_with fail
          refine bodyPost_ret (v := .tuple #[.agg #[.int .i64 0], .int .i64 0, .int .i64 4]) (by simp [results, Try.results6, go_sem, *]) rfl ⟨rfl, ?_⟩
          have Q1 := HQ
          (repeat' (first | (with_reducible exact Q1.out) | (with_reducible exact Below.refl _ _) | (with_reducible refine Below.alloc ?_ ?_ _) | (with_reducible refine Below.setCell ?_ ?_ _) | (with_reducible refine Below.drew ?_) | (with_reducible refine below_drewN ?_ _) | omega | (dsimp only; omega) | (simp; done) | (simp; omega)))
    · have HB0 := Lib.hid (i0 (by omega))
      clear i0 i1 i2 i3 i4
      have hx1 : ∀ W, (Instr.index 43 (.agg #[.int .i64 z, .int .i64 1, .int .i64 65535, .int .i64 r, .int .i64 1, .int .i64 1073741824, .int .i64 q, .int .i64 0, .int .i64 1048576, .int .i64 v, .int .i64 0, .int .i64 1099511627776, .int .i64 x, .int .i64 0, .int .i64 1099511627776]) (.int .i64 1)).run Try.prog W = .ok (.agg #[.int .i64 r, .int .i64 1, .int .i64 1073741824]) W := fun W => by simp [Instr.index, run_underlying Try.underlying43, asIntOf, go_sem]
      by_cases hb : 1 ≤ r ∧ r ≤ 1073741824
      · have HB1 := Lib.hid hb
        obtain ⟨b0, b1⟩ := hb
        go_wp2_with fail
        go_roundw
        case rel => exact ⟨2, by omega, by go_num, blk_alloc HS.out _, blk_alloc HR.out _, HQ.out.alloc HQ.out.size _, fun _ => HB0.out, fun _ => HB1.out, fun hc => absurd hc (by omega), fun hc => absurd hc (by omega), fun hc => absurd hc (by omega)⟩
        case measure => simp [intOf]
      · by_cases h1 : r < 1
        · clear hb
          go_wp2_with fail
          refine bodyPost_ret (v := .tuple #[.agg #[.int .i64 0], .int .i64 0, .int .i64 4]) (by simp [results, Try.results6, go_sem, *]) rfl ⟨rfl, ?_⟩
          have Q1 := HQ
          (repeat' (first | (with_reducible exact Q1.out) | (with_reducible exact Below.refl _ _) | (with_reducible refine Below.alloc ?_ ?_ _) | (with_reducible refine Below.setCell ?_ ?_ _) | (with_reducible refine Below.drew ?_) | (with_reducible refine below_drewN ?_ _) | omega | (dsimp only; omega) | (simp; done) | (simp; omega)))
        · have h2 : 1073741824 < r := by omega
          clear hb
          go_wp2_with fail
          refine bodyPost_ret (v := .tuple #[.agg #[.int .i64 0], .int .i64 0, .int .i64 4]) (by simp [results, Try.results6, go_sem, *]) rfl ⟨rfl, ?_⟩
          have Q1 := HQ
          (repeat' (first | (with_reducible exact Q1.out) | (with_reducible exact Below.refl _ _) | (with_reducible refine Below.alloc ?_ ?_ _) | (with_reducible refine Below.setCell ?_ ?_ _) | (with_reducible refine Below.drew ?_) | (with_reducible refine below_drewN ?_ _) | omega | (dsimp only; omega) | (simp; done) | (simp; omega)))
    · have HB0 := Lib.hid (i0 (by omega))
      have HB1 := Lib.hid (i1 (by omega))
      clear i0 i1 i2 i3 i4
      have hx2 : ∀ W, (Instr.index 43 (.agg #[.int .i64 z, .int .i64 1, .int .i64 65535, .int .i64 r, .int .i64 1, .int .i64 1073741824, .int .i64 q, .int .i64 0, .int .i64 1048576, .int .i64 v, .int .i64 0, .int .i64 1099511627776, .int .i64 x, .int .i64 0, .int .i64 1099511627776]) (.int .i64 2)).run Try.prog W = .ok (.agg #[.int .i64 q, .int .i64 0, .int .i64 1048576]) W := fun W => by simp [Instr.index, run_underlying Try.underlying43, asIntOf, go_sem]
      by_cases hb : 0 ≤ q ∧ q ≤ 1048576
      · have HB2 := Lib.hid hb
        obtain ⟨b0, b1⟩ := hb
        go_wp2_with fail
        go_roundw
        case rel => exact ⟨3, by omega, by go_num, blk_alloc HS.out _, blk_alloc HR.out _, HQ.out.alloc HQ.out.size _, fun _ => HB0.out, fun _ => HB1.out, fun _ => HB2.out, fun hc => absurd hc (by omega), fun hc => absurd hc (by omega)⟩
        case measure => simp [intOf]
      · by_cases h1 : q < 0
        · clear hb
          go_wp2_with fail
          refine bodyPost_ret (v := .tuple #[.agg #[.int .i64 0], .int .i64 0, .int .i64 4]) (by simp [results, Try.results6, go_sem, *]) rfl ⟨rfl, ?_⟩
          have Q1 := HQ
          (repeat' (first | (with_reducible exact Q1.out) | (with_reducible exact Below.refl _ _) | (with_reducible refine Below.alloc ?_ ?_ _) | (with_reducible refine Below.setCell ?_ ?_ _) | (with_reducible refine Below.drew ?_) | (with_reducible refine below_drewN ?_ _) | omega | (dsimp only; omega) | (simp; done) | (simp; omega)))
        · have h2 : 1048576 < q := by omega
          clear hb
          go_wp2_with fail
          refine bodyPost_ret (v := .tuple #[.agg #[.int .i64 0], .int .i64 0, .int .i64 4]) (by simp [results, Try.results6, go_sem, *]) rfl ⟨rfl, ?_⟩
          have Q1 := HQ
          (repeat' (first | (with_reducible exact Q1.out) | (with_reducible exact Below.refl _ _) | (with_reducible refine Below.alloc ?_ ?_ _) | (with_reducible refine Below.setCell ?_ ?_ _) | (with_reducible refine Below.drew ?_) | (with_reducible refine below_drewN ?_ _) | omega | (dsimp only; omega) | (simp; done) | (simp; omega)))
    · have HB0 := Lib.hid (i0 (by omega))
      have HB1 := Lib.hid (i1 (by omega))
      have HB2 := Lib.hid (i2 (by omega))
      clear i0 i1 i2 i3 i4
      have hx3 : ∀ W, (Instr.index 43 (.agg #[.int .i64 z, .int .i64 1, .int .i64 65535, .int .i64 r, .int .i64 1, .int .i64 1073741824, .int .i64 q, .int .i64 0, .int .i64 1048576, .int .i64 v, .int .i64 0, .int .i64 1099511627776, .int .i64 x, .int .i64 0, .int .i64 1099511627776]) (.int .i64 3)).run Try.prog W = .ok (.agg #[.int .i64 v, .int .i64 0, .int .i64 1099511627776]) W := fun W => by simp [Instr.index, run_underlying Try.underlying43, asIntOf, go_sem]
      by_cases hb : 0 ≤ v ∧ v ≤ 1099511627776
      · have HB3 := Lib.hid hb
        obtain ⟨b0, b1⟩ := hb
        go_wp2_with fail
        go_roundw
        case rel => exact ⟨4, by omega, by go_num, blk_alloc HS.out _, blk_alloc HR.out _, HQ.out.alloc HQ.out.size _, fun _ => HB0.out, fun _ => HB1.out, fun _ => HB2.out, fun _ => HB3.out, fun hc => absurd hc (by omega)⟩
        case measure => simp [intOf]
      · by_cases h1 : v < 0
        · clear hb
          go_wp2_with fail
          refine bodyPost_ret (v := .tuple #[.agg #[.int .i64 0], .int .i64 0, .int .i64 4]) (by simp [results, Try.results6, go_sem, *]) rfl ⟨rfl, ?_⟩
          have Q1 := HQ
          (repeat' (first | (with_reducible exact Q1.out) | (with_reducible exact Below.refl _ _) | (with_reducible refine Below.alloc ?_ ?_ _) | (with_reducible refine Below.setCell ?_ ?_ _) | (with_reducible refine Below.drew ?_) | (with_reducible refine below_drewN ?_ _) | omega | (dsimp only; omega) | (simp; done) | (simp; omega)))
        · have h2 : 1099511627776 < v := by omega
          clear hb
          go_wp2_with fail
          refine bodyPost_ret (v := .tuple #[.agg #[.int .i64 0], .int .i64 0, .int .i64 4]) (by simp [results, Try.results6, go_sem, *]) rfl ⟨rfl, ?_⟩
          have Q1 := HQ
          (repeat' (first | (with_reducible exact Q1.out) | (with_reducible exact Below.refl _ _) | (with_reducible refine Below.alloc ?_ ?_ _) | (with_reducible refine Below.setCell ?_ ?_ _) | (with_reducible refine Below.drew ?_) | (with_reducible refine below_drewN ?_ _) | omega | (dsimp only; omega) | (simp; done) | (simp; omega)))
    · have HB0 := Lib.hid (i0 (by omega))
      have HB1 := Lib.hid (i1 (by omega))
      have HB2 := Lib.hid (i2 (by omega))
      have HB3 := Lib.hid (i3 (by omega))
      clear i0 i1 i2 i3 i4
      have hx4 : ∀ W, (Instr.index 43 (.agg #[.int .i64 z, .int .i64 1, .int .i64 65535, .int .i64 r, .int .i64 1, .int .i64 1073741824, .int .i64 q, .int .i64 0, .int .i64 1048576, .int .i64 v, .int .i64 0, .int .i64 1099511627776, .int .i64 x, .int .i64 0, .int .i64 1099511627776]) (.int .i64 4)).run Try.prog W = .ok (.agg #[.int .i64 x, .int .i64 0, .int .i64 1099511627776]) W := fun W => by simp [Instr.index, run_underlying Try.underlying43, asIntOf, go_sem]
      by_cases hb : 0 ≤ x ∧ x ≤ 1099511627776
      · have HB4 := Lib.hid hb
        obtain ⟨b0, b1⟩ := hb
        go_wp2_with fail
        go_roundw
        case rel => exact ⟨5, by omega, by go_num, blk_alloc HS.out _, blk_alloc HR.out _, HQ.out.alloc HQ.out.size _, fun _ => HB0.out, fun _ => HB1.out, fun _ => HB2.out, fun _ => HB3.out, fun _ => HB4.out⟩
        case measure => simp [intOf]
      · by_cases h1 : x < 0
        · clear hb
          go_wp2_with fail
          refine bodyPost_ret (v := .tuple #[.agg #[.int .i64 0], .int .i64 0, .int .i64 4]) (by simp [results, Try.results6, go_sem, *]) rfl ⟨rfl, ?_⟩
          have Q1 := HQ
          (repeat' (first | (with_reducible exact Q1.out) | (with_reducible exact Below.refl _ _) | (with_reducible refine Below.alloc ?_ ?_ _) | (with_reducible refine Below.setCell ?_ ?_ _) | (with_reducible refine Below.drew ?_) | (with_reducible refine below_drewN ?_ _) | omega | (dsimp only; omega) | (simp; done) | (simp; omega)))
        · have h2 : 1099511627776 < x := by omega
          clear hb
          go_wp2_with fail
          refine bodyPost_ret (v := .tuple #[.agg #[.int .i64 0], .int .i64 0, .int .i64 4]) (by simp [results, Try.results6, go_sem, *]) rfl ⟨rfl, ?_⟩
          have Q1 := HQ
          (repeat' (first | (with_reducible exact Q1.out) | (with_reducible exact Below.refl _ _) | (with_reducible refine Below.alloc ?_ ?_ _) | (with_reducible refine Below.setCell ?_ ?_ _) | (with_reducible refine Below.drew ?_) | (with_reducible refine below_drewN ?_ _) | omega | (dsimp only; omega) | (simp; done) | (simp; omega)))
    · exact absurd (show DV x z r q v from ⟨i0 (by omega), i1 (by omega), i2 (by omega), i3 (by omega), i4 (by omega)⟩) HB.out

theorem pdepart (x z r q v N T E : Int) (hE : dE x z r q v = E) (hN : dN x z r q v = N) (hT : dT x z r q v = T) (w : World) : Calls Try.prog 6 #[.agg #[.int .i64 x], .int .i64 z, .int .i64 r, .int .i64 q, .int .i64 v] w fun e w' => e = .returned (.tuple #[.agg #[.int .i64 N], .int .i64 T, .int .i64 E]) ∧ Below w.heap.size w w' := by
  subst hE hN hT
  by_cases h : DV x z r q v
  · rw [show dE x z r q v = 0 from if_pos h, show dN x z r q v = _ from if_pos h, show dT x z r q v = _ from if_pos h]; exact depart_ok x z r q v w h
  · rw [show dE x z r q v = 4 from if_neg h, show dN x z r q v = 0 from if_neg h, show dT x z r q v = 0 from if_neg h]; exact depart_no x z r q v w h
theorem num_any (n : Int) (w : World) : Calls Try.prog 7 #[.int .i64 n] w fun e w' => e = .returned (.int .i64 n) ∧ w = w' := by
  go_enter Try.func7, Try.ntmps7
  go_wp2
  go_ret
  exact ⟨rfl, rfl⟩
set_option maxHeartbeats 400000 in
theorem pnew_ok (w : World) : Calls Try.prog 8 #[] w fun e w' => e = .returned (.pointer (some ⟨w.heap.size, 0, none⟩)) ∧ w' = w.alloc (.cells #[.bool true, .int .i64 0, .int .i64 0, .int .i64 0, .slice none 0 0] 47) := by
  go_enter Try.func8, Try.ntmps8
  go_wp2
  go_ret
  exact ⟨rfl, rfl⟩
set_option maxHeartbeats 400000 in
theorem plen_ok (g : Nat) (w : World) (h : w.heap[g]? = some (.cells #[.bool true, .int .i64 0, .int .i64 0, .int .i64 0, .slice none 0 0] 47 (0, 0))) : Calls Try.prog 11 #[.pointer (some ⟨g, 0, none⟩)] w fun e w' => e = .returned (.int .i64 0) ∧ w = w' := by
  have c4 := blk_cell h 4
  go_enter Try.func11, Try.ntmps11
  go_wp2
  go_ret
  exact ⟨rfl, rfl⟩
theorem ex_dep : dE 0 100 1024 0 50 = 0 ∧ dN 0 100 1024 0 50 = 150 ∧ dT 0 100 1024 0 50 = 50 ∧ dE 150 100 1024 0 50 = 0 ∧ dN 150 100 1024 0 50 = 250 ∧ dT 150 100 1024 0 50 = 150 := by decide +kernel
set_option maxRecDepth 100000 in
set_option maxHeartbeats 2000000 in
theorem alive_any  (w : World)  :
    Calls Try.prog 5 #[] w fun e w' => e = .returned (.bool true) ∧ Below w.heap.size w w' := by
  have q_0 := Below.refl w.heap.size w
  go_enter Try.func5, Try.ntmps5
  go_wp2_with fail
  refine (pdepart 0 100 1024 0 50 150 50 0 ex_dep.1 ex_dep.2.1 ex_dep.2.2.1 _).mono ?_
  rintro e V1 ⟨rfl, b⟩
  have q_1 := q_0.trans (b.mono q_0.size)
  clear q_0
  clear b
  go_wp2_with fail
  have b : Below V1.heap.size V1 (V1.alloc (.cells #[.int .i64 150] 25)) := ((Below.refl _ V1).alloc (Nat.le_refl _) (.cells #[.int .i64 150] 25))
  have nb0 := blk_new V1 (.cells #[.int .i64 150] 25)
  have nz0 : V1.heap.size < (V1.alloc (.cells #[.int .i64 150] 25)).heap.size := by simp only [World.size_alloc]; omega
  have q_2 := q_1.trans (b.mono q_1.size)
  clear q_1
  clear b
  have A_2 := Lib.hid nb0
  have Az_2 := nz0
  clear nb0 nz0
  have Ac0_2 := blk_cell A_2.out 0
  generalize (V1.alloc (.cells #[.int .i64 150] 25)) = V2 at q_2 A_2 Az_2 Ac0_2 ⊢
  refine (pdepart 150 100 1024 0 50 250 150 0 ex_dep.2.2.2.1 ex_dep.2.2.2.2.1 ex_dep.2.2.2.2.2 _).mono ?_
  rintro e V3 ⟨rfl, b⟩
  have A_3 := Lib.hid ((b.block _ Az_2).trans A_2.out)
  have Az_3 := Nat.lt_of_lt_of_le Az_2 b.size
  have Ac0_3 := blk_cell A_3.out 0
  have q_3 := q_2.trans (b.mono q_2.size)
  clear A_2 Az_2 Ac0_2 q_2
  clear b
  go_wp2_with fail
  have b : Below V3.heap.size V3 (V3.alloc (.cells #[.int .i64 250] 25)) := ((Below.refl _ V3).alloc (Nat.le_refl _) (.cells #[.int .i64 250] 25))
  have nb0 := blk_new V3 (.cells #[.int .i64 250] 25)
  have nz0 : V3.heap.size < (V3.alloc (.cells #[.int .i64 250] 25)).heap.size := by simp only [World.size_alloc]; omega
  have A_4 := Lib.hid ((b.block _ Az_3).trans A_3.out)
  have Az_4 := Nat.lt_of_lt_of_le Az_3 b.size
  have Ac0_4 := blk_cell A_4.out 0
  have q_4 := q_3.trans (b.mono q_3.size)
  clear A_3 Az_3 Ac0_3 q_3
  clear b
  have B_4 := Lib.hid nb0
  have Bz_4 := nz0
  clear nb0 nz0
  have Bc0_4 := blk_cell B_4.out 0
  generalize (V3.alloc (.cells #[.int .i64 250] 25)) = V4 at q_4 A_4 Az_4 Ac0_4 B_4 Bz_4 Bc0_4 ⊢
  refine (pnew_ok _).mono ?_
  rintro e w' ⟨rfl, rfl⟩
  have b : Below V4.heap.size V4 (V4.alloc (.cells #[.bool true, .int .i64 0, .int .i64 0, .int .i64 0, .slice none 0 0] 47)) := ((Below.refl _ V4).alloc (Nat.le_refl _) (.cells #[.bool true, .int .i64 0, .int .i64 0, .int .i64 0, .slice none 0 0] 47))
  have nb0 := blk_new V4 (.cells #[.bool true, .int .i64 0, .int .i64 0, .int .i64 0, .slice none 0 0] 47)
  have nz0 : V4.heap.size < (V4.alloc (.cells #[.bool true, .int .i64 0, .int .i64 0, .int .i64 0, .slice none 0 0] 47)).heap.size := by simp only [World.size_alloc]; omega
  have A_5 := Lib.hid ((b.block _ Az_4).trans A_4.out)
  have Az_5 := Nat.lt_of_lt_of_le Az_4 b.size
  have Ac0_5 := blk_cell A_5.out 0
  have B_5 := Lib.hid ((b.block _ Bz_4).trans B_4.out)
  have Bz_5 := Nat.lt_of_lt_of_le Bz_4 b.size
  have Bc0_5 := blk_cell B_5.out 0
  have q_5 := q_4.trans (b.mono q_4.size)
  clear A_4 Az_4 Ac0_4 B_4 Bz_4 Bc0_4 q_4
  clear b
  have P_5 := Lib.hid nb0
  have Pz_5 := nz0
  clear nb0 nz0
  generalize (V4.alloc (.cells #[.bool true, .int .i64 0, .int .i64 0, .int .i64 0, .slice none 0 0] 47)) = V5 at q_5 A_5 Az_5 Ac0_5 B_5 Bz_5 Bc0_5 P_5 Pz_5 ⊢
  go_wp2_with fail
  refine (num_any _ _).mono ?_
  rintro e w' ⟨rfl, rfl⟩
  go_wp2_with fail
  refine (num_any _ _).mono ?_
  rintro e w' ⟨rfl, rfl⟩
  go_wp2_with fail
  refine (plen_ok _ _ P_5.out).mono ?_
  rintro e w' ⟨rfl, rfl⟩
  go_wp2
  go_ret
  exact ⟨rfl, q_5⟩

end Go.Proofs.Ythbiadhnlomhmaa
