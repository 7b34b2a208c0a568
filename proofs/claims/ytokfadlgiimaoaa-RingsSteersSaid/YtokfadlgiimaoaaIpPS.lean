/- What ipwire.Parse gives: a checksum that is not right. -/
import Derived.Test.YtokfadlgiimaoaaIpP0
import Derived.Deep.RegionHeld3
namespace Go.Proofs.Ytokfadlgiimaoaa
open Go.RowKit

set_option maxRecDepth 100000 in
set_option maxHeartbeats 4000000 in
theorem ipP_sum (b off : Nat) (xs : List Nat) (cap : Nat) (w : World) (x0 h4 hd T : Nat) (hb : b < w.heap.size) (hl20 : 20 ≤ xs.length) (hc : xs.length ≤ cap) (hm : cap ≤ 9223372036854775807) (hlm : xs.length ≤ 281474976710656)
    (c0 : w.cell? ⟨b, off, none⟩ = some (.int .u8 (x0 : Nat))) (hx0 : x0 < 256) (hv : x0 / 16 = 4) (hh4 : x0 % 16 = h4) (hhd : 4 * h4 = hd) (hT : T < 65536)
    (nT : ∀ c W, Below w.heap.size w W → Calls Try.prog 53 #[.slice (some ⟨b, off + 2, none⟩) 2 c] W fun e w' => e = .returned (.int .u64 (T : Nat)) ∧ W = w') (hok : 20 ≤ hd ∧ hd ≤ xs.length ∧ hd ≤ T ∧ T ≤ xs.length) (hright : ∀ c W, Below w.heap.size w W → Calls Try.prog 54 #[.slice (some ⟨b, off, none⟩) hd c] W fun e w' => e = .returned (.bool false) ∧ Below W.heap.size W w') :
    Calls Try.prog 39 #[.slice (some ⟨b, off, none⟩) xs.length cap] w (IpPBad w) := by
  have xv : ((x0 : Int) / 16 != 4) = false := by rw [bne_eq_false_iff_eq]; omega
  have xa : bits .and .u8 (x0 : Int) (15 : Int) = (h4 : Int) := by
    have h := u8_and_nat x0 15 hx0 (by omega)
    rw [nat_mask4, hh4] at h
    exact h
  have xw : IntKind.i64.wrap (h4 : Int) = (h4 : Int) := IntWalk.i64_in _ (by omega)
  have xh : (4 : Int) * (h4 : Int) = (hd : Int) := by omega
  have xT : IntKind.i64.wrap (T : Int) = (T : Int) := IntWalk.i64_in _ (by omega)
  have m0 : (0 : Int) < (xs.length : Int) := by omega
  have i20 : (20 : Int) ≤ (xs.length : Int) := by omega
  have k4 : (4 : Int) ≤ (cap : Int) := by omega
  have k2 : (2 : Int) ≤ (cap : Int) := by omega
  have z2 : ¬ cap = 2 := by omega
  have nb : b ≠ w.heap.size := by omega
  have NT := Lib.hid nT
  have bn := blk_new w (.cells #[.int .u8 0, .int .u16 0, .bool false, .bool false, .int .i64 0, .int .u8 0, .int .u8 0, .int .u32 0, .int .u32 0, .slice none 0 0, .slice none 0 0] 72)
  have bw := (Below.refl _ w).alloc (Nat.le_refl _) (.cells #[.int .u8 0, .int .u16 0, .bool false, .bool false, .int .i64 0, .int .u8 0, .int .u8 0, .int .u32 0, .int .u32 0, .slice none 0 0, .slice none 0 0] 72)
  obtain ⟨q1, q2, q3, q4⟩ := hok
  have q1' : (20 : Int) ≤ (hd : Int) := by omega
  have q2' : (hd : Int) ≤ (xs.length : Int) := by omega
  have q3' : (hd : Int) ≤ (T : Int) := by omega
  have q4' : (T : Int) ≤ (xs.length : Int) := by omega
  have q5' : (hd : Int) ≤ (cap : Int) := by omega
  have HR := Lib.hid hright
  have BN := Lib.hid bn
  clear nT hv hh4 hhd hx0 hright q1 q2 q3 q4
  go_enter Try.func39, Try.ntmps39
  go_wp2_with fail
  refine (NT.out _ _ bw).mono ?_
  rintro e w' ⟨rfl, rfl⟩
  go_wp2_with fail
  refine (HR.out _ _ bw).mono ?_
  rintro e V ⟨rfl, b1⟩
  have R1 := Lib.hid ((b1.block w.heap.size (by rw [World.size_alloc]; omega)).trans BN.out)
  have q := bw.trans (b1.mono bw.size)
  clear b1 bn
  have r0 := blk_cell R1.out 0
  have t0 := blk_free R1.out 0
  have r1 := blk_cell R1.out 1
  have t1 := blk_free R1.out 1
  have r2 := blk_cell R1.out 2
  have t2 := blk_free R1.out 2
  have r3 := blk_cell R1.out 3
  have t3 := blk_free R1.out 3
  have r4 := blk_cell R1.out 4
  have t4 := blk_free R1.out 4
  have r5 := blk_cell R1.out 5
  have t5 := blk_free R1.out 5
  have r6 := blk_cell R1.out 6
  have t6 := blk_free R1.out 6
  have r7 := blk_cell R1.out 7
  have t7 := blk_free R1.out 7
  have r8 := blk_cell R1.out 8
  have t8 := blk_free R1.out 8
  have r9 := blk_cell R1.out 9
  have t9 := blk_free R1.out 9
  have r10 := blk_cell R1.out 10
  have t10 := blk_free R1.out 10
  go_wp2
  have F := blk_set (blk_set (blk_set (blk_set (blk_set (blk_set (blk_set (blk_set (blk_set (blk_set (blk_set R1.out 0 (.int .u8 0)) 1 (.int .u16 0)) 2 (.bool false)) 3 (.bool false)) 4 (.int .i64 0)) 5 (.int .u8 0)) 6 (.int .u8 0)) 7 (.int .u32 0)) 8 (.int .u32 0)) 9 (.slice none 0 0)) 10 (.slice none 0 0)
  have Q := ((((((((((q.setCell (p := ⟨w.heap.size, 0, none⟩) (Nat.le_refl _) (.int .u8 0)).setCell (p := ⟨w.heap.size, 1, none⟩) (Nat.le_refl _) (.int .u16 0)).setCell (p := ⟨w.heap.size, 2, none⟩) (Nat.le_refl _) (.bool false)).setCell (p := ⟨w.heap.size, 3, none⟩) (Nat.le_refl _) (.bool false)).setCell (p := ⟨w.heap.size, 4, none⟩) (Nat.le_refl _) (.int .i64 0)).setCell (p := ⟨w.heap.size, 5, none⟩) (Nat.le_refl _) (.int .u8 0)).setCell (p := ⟨w.heap.size, 6, none⟩) (Nat.le_refl _) (.int .u8 0)).setCell (p := ⟨w.heap.size, 7, none⟩) (Nat.le_refl _) (.int .u32 0)).setCell (p := ⟨w.heap.size, 8, none⟩) (Nat.le_refl _) (.int .u32 0)).setCell (p := ⟨w.heap.size, 9, none⟩) (Nat.le_refl _) (.slice none 0 0)).setCell (p := ⟨w.heap.size, 10, none⟩) (Nat.le_refl _) (.slice none 0 0)
  have f0 := blk_cell F 0
  have f1 := blk_cell F 1
  have f2 := blk_cell F 2
  have f3 := blk_cell F 3
  have f4 := blk_cell F 4
  have f5 := blk_cell F 5
  have f6 := blk_cell F 6
  have f7 := blk_cell F 7
  have f8 := blk_cell F 8
  have f9 := blk_cell F 9
  have f10 := blk_cell F 10
  exact bodyPost_ret (v := .tuple #[.agg #[.int .u8 0, .int .u16 0, .bool false, .bool false, .int .i64 0, .int .u8 0, .int .u8 0, .int .u32 0, .int .u32 0, .slice none 0 0, .slice none 0 0], .int .i64 21]) (by simp [results, Try.results39, go_sem, f0, f1, f2, f3, f4, f5, f6, f7, f8, f9, f10]) rfl ⟨21, by decide, rfl, Q⟩
end Go.Proofs.Ytokfadlgiimaoaa
