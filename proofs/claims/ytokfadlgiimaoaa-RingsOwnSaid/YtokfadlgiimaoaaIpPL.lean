/- What ipwire.Parse gives: lengths that may not be. -/
import Derived.Test.YtokfadlgiimaoaaIpP0
import Derived.Deep.RegionHeld3
namespace Go.Proofs.Ytokfadlgiimaoaa
open Go.RowKit

set_option maxRecDepth 100000 in
set_option maxHeartbeats 4000000 in
theorem ipP_len_a (b off : Nat) (xs : List Nat) (cap : Nat) (w : World) (x0 h4 hd T : Nat) (hb : b < w.heap.size) (hl20 : 20 ≤ xs.length) (hc : xs.length ≤ cap) (hm : cap ≤ 9223372036854775807) (hlm : xs.length ≤ 281474976710656)
    (c0 : w.cell? ⟨b, off, none⟩ = some (.int .u8 (x0 : Nat))) (hx0 : x0 < 256) (hv : x0 / 16 = 4) (hh4 : x0 % 16 = h4) (hhd : 4 * h4 = hd) (hT : T < 65536)
    (nT : ∀ c W, Below w.heap.size w W → Calls Try.prog 53 #[.slice (some ⟨b, off + 2, none⟩) 2 c] W fun e w' => e = .returned (.int .u64 (T : Nat)) ∧ W = w') (q1 : (hd : Int) < 20) :
    Calls Try.prog 39 #[.slice (some ⟨b, off, none⟩) xs.length cap] w (IpPBad w) := by
  have xv : ((x0 : Int) / 16 != 4) = false := by rw [bne_eq_false_iff_eq]; omega
  have xa : bits .and .u8 (x0 : Int) (15 : Int) = (h4 : Int) := by
    have h := u8_and_nat x0 15 hx0 (by omega)
    rw [nat_mask4, hh4] at h
    exact h
  have xw : IntKind.i64.wrap (h4 : Int) = (h4 : Int) := IntWalk.i64_in _ (by omega)
  have xh : (4 : Int) * (h4 : Int) = (hd : Int) := by omega
  have xT : IntKind.i64.wrap (T : Int) = (T : Int) := IntWalk.i64_in _ (by omega)
  have m0 : (0 : Int) < (xs.length : Int) := by omega
  have i20 : (20 : Int) ≤ (xs.length : Int) := by omega
  have k4 : (4 : Int) ≤ (cap : Int) := by omega
  have k2 : (2 : Int) ≤ (cap : Int) := by omega
  have z2 : ¬ cap = 2 := by omega
  have nb : b ≠ w.heap.size := by omega
  have NT := Lib.hid nT
  have bn := blk_new w (.cells #[.int .u8 0, .int .u16 0, .bool false, .bool false, .int .i64 0, .int .u8 0, .int .u8 0, .int .u32 0, .int .u32 0, .slice none 0 0, .slice none 0 0] 72)
  have bw := (Below.refl _ w).alloc (Nat.le_refl _) (.cells #[.int .u8 0, .int .u16 0, .bool false, .bool false, .int .i64 0, .int .u8 0, .int .u8 0, .int .u32 0, .int .u32 0, .slice none 0 0, .slice none 0 0] 72)
  have hd60 : hd ≤ 60 := by omega
  clear nT hv hh4 hhd hx0 bn
  go_enter Try.func39, Try.ntmps39
  go_wp2_with fail
  refine (NT.out _ _ bw).mono ?_
  rintro e w' ⟨rfl, rfl⟩
  clear xw xa xv xh
  go_wp2
  exact bodyPost_ret (v := .tuple #[.agg #[.int .u8 0, .int .u16 0, .bool false, .bool false, .int .i64 0, .int .u8 0, .int .u8 0, .int .u32 0, .int .u32 0, .slice none 0 0, .slice none 0 0], .int .i64 42]) (by simp [results, Try.results39, go_sem]) rfl ⟨42, by decide, rfl, (Below.refl _ _).alloc (Nat.le_refl _) _⟩

set_option maxRecDepth 100000 in
set_option maxHeartbeats 4000000 in
theorem ipP_len_b (b off : Nat) (xs : List Nat) (cap : Nat) (w : World) (x0 h4 hd T : Nat) (hb : b < w.heap.size) (hl20 : 20 ≤ xs.length) (hc : xs.length ≤ cap) (hm : cap ≤ 9223372036854775807) (hlm : xs.length ≤ 281474976710656)
    (c0 : w.cell? ⟨b, off, none⟩ = some (.int .u8 (x0 : Nat))) (hx0 : x0 < 256) (hv : x0 / 16 = 4) (hh4 : x0 % 16 = h4) (hhd : 4 * h4 = hd) (hT : T < 65536)
    (nT : ∀ c W, Below w.heap.size w W → Calls Try.prog 53 #[.slice (some ⟨b, off + 2, none⟩) 2 c] W fun e w' => e = .returned (.int .u64 (T : Nat)) ∧ W = w') (q1 : (20 : Int) ≤ (hd : Int)) (q2 : (xs.length : Int) < (hd : Int)) :
    Calls Try.prog 39 #[.slice (some ⟨b, off, none⟩) xs.length cap] w (IpPBad w) := by
  have xv : ((x0 : Int) / 16 != 4) = false := by rw [bne_eq_false_iff_eq]; omega
  have xa : bits .and .u8 (x0 : Int) (15 : Int) = (h4 : Int) := by
    have h := u8_and_nat x0 15 hx0 (by omega)
    rw [nat_mask4, hh4] at h
    exact h
  have xw : IntKind.i64.wrap (h4 : Int) = (h4 : Int) := IntWalk.i64_in _ (by omega)
  have xh : (4 : Int) * (h4 : Int) = (hd : Int) := by omega
  have xT : IntKind.i64.wrap (T : Int) = (T : Int) := IntWalk.i64_in _ (by omega)
  have m0 : (0 : Int) < (xs.length : Int) := by omega
  have i20 : (20 : Int) ≤ (xs.length : Int) := by omega
  have k4 : (4 : Int) ≤ (cap : Int) := by omega
  have k2 : (2 : Int) ≤ (cap : Int) := by omega
  have z2 : ¬ cap = 2 := by omega
  have nb : b ≠ w.heap.size := by omega
  have NT := Lib.hid nT
  have bn := blk_new w (.cells #[.int .u8 0, .int .u16 0, .bool false, .bool false, .int .i64 0, .int .u8 0, .int .u8 0, .int .u32 0, .int .u32 0, .slice none 0 0, .slice none 0 0] 72)
  have bw := (Below.refl _ w).alloc (Nat.le_refl _) (.cells #[.int .u8 0, .int .u16 0, .bool false, .bool false, .int .i64 0, .int .u8 0, .int .u8 0, .int .u32 0, .int .u32 0, .slice none 0 0, .slice none 0 0] 72)
  have hd60 : hd ≤ 60 := by omega
  clear nT hv hh4 hhd hx0 bn
  go_enter Try.func39, Try.ntmps39
  go_wp2_with fail
  refine (NT.out _ _ bw).mono ?_
  rintro e w' ⟨rfl, rfl⟩
  clear xw xa xv xh
  go_wp2
  exact bodyPost_ret (v := .tuple #[.agg #[.int .u8 0, .int .u16 0, .bool false, .bool false, .int .i64 0, .int .u8 0, .int .u8 0, .int .u32 0, .int .u32 0, .slice none 0 0, .slice none 0 0], .int .i64 42]) (by simp [results, Try.results39, go_sem]) rfl ⟨42, by decide, rfl, (Below.refl _ _).alloc (Nat.le_refl _) _⟩

set_option maxRecDepth 100000 in
set_option maxHeartbeats 4000000 in
theorem ipP_len_c (b off : Nat) (xs : List Nat) (cap : Nat) (w : World) (x0 h4 hd T : Nat) (hb : b < w.heap.size) (hl20 : 20 ≤ xs.length) (hc : xs.length ≤ cap) (hm : cap ≤ 9223372036854775807) (hlm : xs.length ≤ 281474976710656)
    (c0 : w.cell? ⟨b, off, none⟩ = some (.int .u8 (x0 : Nat))) (hx0 : x0 < 256) (hv : x0 / 16 = 4) (hh4 : x0 % 16 = h4) (hhd : 4 * h4 = hd) (hT : T < 65536)
    (nT : ∀ c W, Below w.heap.size w W → Calls Try.prog 53 #[.slice (some ⟨b, off + 2, none⟩) 2 c] W fun e w' => e = .returned (.int .u64 (T : Nat)) ∧ W = w') (q1 : (20 : Int) ≤ (hd : Int)) (q2 : (hd : Int) ≤ (xs.length : Int)) (q3 : (T : Int) < (hd : Int)) :
    Calls Try.prog 39 #[.slice (some ⟨b, off, none⟩) xs.length cap] w (IpPBad w) := by
  have xv : ((x0 : Int) / 16 != 4) = false := by rw [bne_eq_false_iff_eq]; omega
  have xa : bits .and .u8 (x0 : Int) (15 : Int) = (h4 : Int) := by
    have h := u8_and_nat x0 15 hx0 (by omega)
    rw [nat_mask4, hh4] at h
    exact h
  have xw : IntKind.i64.wrap (h4 : Int) = (h4 : Int) := IntWalk.i64_in _ (by omega)
  have xh : (4 : Int) * (h4 : Int) = (hd : Int) := by omega
  have xT : IntKind.i64.wrap (T : Int) = (T : Int) := IntWalk.i64_in _ (by omega)
  have m0 : (0 : Int) < (xs.length : Int) := by omega
  have i20 : (20 : Int) ≤ (xs.length : Int) := by omega
  have k4 : (4 : Int) ≤ (cap : Int) := by omega
  have k2 : (2 : Int) ≤ (cap : Int) := by omega
  have z2 : ¬ cap = 2 := by omega
  have nb : b ≠ w.heap.size := by omega
  have NT := Lib.hid nT
  have bn := blk_new w (.cells #[.int .u8 0, .int .u16 0, .bool false, .bool false, .int .i64 0, .int .u8 0, .int .u8 0, .int .u32 0, .int .u32 0, .slice none 0 0, .slice none 0 0] 72)
  have bw := (Below.refl _ w).alloc (Nat.le_refl _) (.cells #[.int .u8 0, .int .u16 0, .bool false, .bool false, .int .i64 0, .int .u8 0, .int .u8 0, .int .u32 0, .int .u32 0, .slice none 0 0, .slice none 0 0] 72)
  have hd60 : hd ≤ 60 := by omega
  clear nT hv hh4 hhd hx0 bn
  go_enter Try.func39, Try.ntmps39
  go_wp2_with fail
  refine (NT.out _ _ bw).mono ?_
  rintro e w' ⟨rfl, rfl⟩
  clear xw xa xv xh
  go_wp2
  exact bodyPost_ret (v := .tuple #[.agg #[.int .u8 0, .int .u16 0, .bool false, .bool false, .int .i64 0, .int .u8 0, .int .u8 0, .int .u32 0, .int .u32 0, .slice none 0 0, .slice none 0 0], .int .i64 42]) (by simp [results, Try.results39, go_sem]) rfl ⟨42, by decide, rfl, (Below.refl _ _).alloc (Nat.le_refl _) _⟩

set_option maxRecDepth 100000 in
set_option maxHeartbeats 4000000 in
theorem ipP_len_d (b off : Nat) (xs : List Nat) (cap : Nat) (w : World) (x0 h4 hd T : Nat) (hb : b < w.heap.size) (hl20 : 20 ≤ xs.length) (hc : xs.length ≤ cap) (hm : cap ≤ 9223372036854775807) (hlm : xs.length ≤ 281474976710656)
    (c0 : w.cell? ⟨b, off, none⟩ = some (.int .u8 (x0 : Nat))) (hx0 : x0 < 256) (hv : x0 / 16 = 4) (hh4 : x0 % 16 = h4) (hhd : 4 * h4 = hd) (hT : T < 65536)
    (nT : ∀ c W, Below w.heap.size w W → Calls Try.prog 53 #[.slice (some ⟨b, off + 2, none⟩) 2 c] W fun e w' => e = .returned (.int .u64 (T : Nat)) ∧ W = w') (q1 : (20 : Int) ≤ (hd : Int)) (q2 : (hd : Int) ≤ (xs.length : Int)) (q3 : (hd : Int) ≤ (T : Int)) (q4 : (xs.length : Int) < (T : Int)) :
    Calls Try.prog 39 #[.slice (some ⟨b, off, none⟩) xs.length cap] w (IpPBad w) := by
  have xv : ((x0 : Int) / 16 != 4) = false := by rw [bne_eq_false_iff_eq]; omega
  have xa : bits .and .u8 (x0 : Int) (15 : Int) = (h4 : Int) := by
    have h := u8_and_nat x0 15 hx0 (by omega)
    rw [nat_mask4, hh4] at h
    exact h
  have xw : IntKind.i64.wrap (h4 : Int) = (h4 : Int) := IntWalk.i64_in _ (by omega)
  have xh : (4 : Int) * (h4 : Int) = (hd : Int) := by omega
  have xT : IntKind.i64.wrap (T : Int) = (T : Int) := IntWalk.i64_in _ (by omega)
  have m0 : (0 : Int) < (xs.length : Int) := by omega
  have i20 : (20 : Int) ≤ (xs.length : Int) := by omega
  have k4 : (4 : Int) ≤ (cap : Int) := by omega
  have k2 : (2 : Int) ≤ (cap : Int) := by omega
  have z2 : ¬ cap = 2 := by omega
  have nb : b ≠ w.heap.size := by omega
  have NT := Lib.hid nT
  have bn := blk_new w (.cells #[.int .u8 0, .int .u16 0, .bool false, .bool false, .int .i64 0, .int .u8 0, .int .u8 0, .int .u32 0, .int .u32 0, .slice none 0 0, .slice none 0 0] 72)
  have bw := (Below.refl _ w).alloc (Nat.le_refl _) (.cells #[.int .u8 0, .int .u16 0, .bool false, .bool false, .int .i64 0, .int .u8 0, .int .u8 0, .int .u32 0, .int .u32 0, .slice none 0 0, .slice none 0 0] 72)
  have hd60 : hd ≤ 60 := by omega
  clear nT hv hh4 hhd hx0 bn
  go_enter Try.func39, Try.ntmps39
  go_wp2_with fail
  refine (NT.out _ _ bw).mono ?_
  rintro e w' ⟨rfl, rfl⟩
  clear xw xa xv xh
  go_wp2
  exact bodyPost_ret (v := .tuple #[.agg #[.int .u8 0, .int .u16 0, .bool false, .bool false, .int .i64 0, .int .u8 0, .int .u8 0, .int .u32 0, .int .u32 0, .slice none 0 0, .slice none 0 0], .int .i64 42]) (by simp [results, Try.results39, go_sem]) rfl ⟨42, by decide, rfl, (Below.refl _ _).alloc (Nat.le_refl _) _⟩

theorem ipP_length (b off : Nat) (xs : List Nat) (cap : Nat) (w : World) (x0 h4 hd T : Nat) (hb : b < w.heap.size) (hl20 : 20 ≤ xs.length) (hc : xs.length ≤ cap) (hm : cap ≤ 9223372036854775807) (hlm : xs.length ≤ 281474976710656)
    (c0 : w.cell? ⟨b, off, none⟩ = some (.int .u8 (x0 : Nat))) (hx0 : x0 < 256) (hv : x0 / 16 = 4) (hh4 : x0 % 16 = h4) (hhd : 4 * h4 = hd) (hT : T < 65536)
    (nT : ∀ c W, Below w.heap.size w W → Calls Try.prog 53 #[.slice (some ⟨b, off + 2, none⟩) 2 c] W fun e w' => e = .returned (.int .u64 (T : Nat)) ∧ W = w') (hbad : ¬ (20 ≤ hd ∧ hd ≤ xs.length ∧ hd ≤ T ∧ T ≤ xs.length)) :
    Calls Try.prog 39 #[.slice (some ⟨b, off, none⟩) xs.length cap] w (IpPBad w) := by
  by_cases q1 : (hd : Int) < 20
  · exact ipP_len_a b off xs cap w x0 h4 hd T hb hl20 hc hm hlm c0 hx0 hv hh4 hhd hT nT q1
  · by_cases q2 : (xs.length : Int) < (hd : Int)
    · exact ipP_len_b b off xs cap w x0 h4 hd T hb hl20 hc hm hlm c0 hx0 hv hh4 hhd hT nT (by omega) q2
    · by_cases q3 : (T : Int) < (hd : Int)
      · exact ipP_len_c b off xs cap w x0 h4 hd T hb hl20 hc hm hlm c0 hx0 hv hh4 hhd hT nT (by omega) (by omega) q3
      · exact ipP_len_d b off xs cap w x0 h4 hd T hb hl20 hc hm hlm c0 hx0 hv hh4 hhd hT nT (by omega) (by omega) (by omega) (by omega)
end Go.Proofs.Ytokfadlgiimaoaa
