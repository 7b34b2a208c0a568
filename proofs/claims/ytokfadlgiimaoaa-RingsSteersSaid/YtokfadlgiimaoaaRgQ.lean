/- What the document's own answers of checksum give: sums, and those of addresses. -/
import Derived.Test.YtokfadlgiimaoaaSumC
import Derived.Test.YtokfadlgiimaoaaGCopied
import Derived.RangeFuncBox
import Derived.Test.YtokfadlgiimaoaaRgE
import Derived.Test.YtokfadlgiimaoaaIpDef
import Derived.Deep.MidRow
namespace Go.Proofs.Ytokfadlgiimaoaa
open Go.RowKit

set_option maxHeartbeats 400000 in
theorem refadd_any (a b : Nat) (ha : a ≤ 65535) (hb : b ≤ 65535) (w : World) :
    Calls Try.prog 65 #[.int .u16 a, .int .u16 b] w fun e w' => e = .returned (.int .u16 (Mt.addw a b : Nat)) ∧ w = w' := by
  by_cases hbig : 65535 < a + b
  · have e : Mt.addw a b = a + b - 65535 := by unfold Mt.addw; rw [if_pos hbig]
    have e2 : ((a + b - 65535 : Nat) : Int) = (a : Int) + b - 65535 := by omega
    rw [e, e2]
    clear e e2
    go_enter Try.func65, Try.ntmps65
    go_wp2
    go_ret
    exact ⟨rfl, rfl⟩
  · have e : Mt.addw a b = a + b := by unfold Mt.addw; rw [if_neg hbig]
    rw [e]
    clear e
    go_enter Try.func65, Try.ntmps65
    go_wp2
    go_ret
    exact ⟨rfl, rfl⟩

set_option maxHeartbeats 1000000 in
theorem refsum_any (a : Option Addr) (xs : List Nat) (cap : Nat) (w : World) (h : Bts w a xs) (hl : xs.length ≤ 140737488355328) :
    Calls Try.prog 60 #[.slice a xs.length cap] w fun e w' => e = .returned (.int .u16 (Mt.sumO xs : Nat)) ∧ w = w' := by
  obtain ⟨h1, h2⟩ := h
  have H2 := Lib.hid h2; clear h2
  have H1 := Lib.hid h1; clear h1
  go_enter Try.func60, Try.ntmps60
  go_wp2
  go_loop [3, 4, 5] (fun n i _ => ∃ j : Nat, j ≤ Mt.nw xs ∧ i = .int .i64 (2 * j : Nat) ∧ n = .int .u16 (Mt.tot ((Mt.wl xs).take j) : Nat)) (fun _ i _ => xs.length + 1 - (intOf i).toNat)
  case atStart => exact ⟨0, by omega, rfl, rfl⟩
  case round =>
    obtain ⟨j, hj, rfl, rfl⟩ := hrel
    have hm := Mt.tot_le ((Mt.wl xs).take j) (fun y hy => Mt.wl_le xs H1.out y (List.mem_of_mem_take hy))
    by_cases hlt : 2 * j < xs.length
    · obtain ⟨b, off, rfl, hb, hc⟩ : ∃ b off, a = some ⟨b, off, none⟩ ∧ b < w.heap.size ∧ ∀ i, i < xs.length → w.cell? ⟨b, off + i, none⟩ = some (.int .u8 (xs.getD i 0 : Nat)) := by
        rcases H2.out with h | h
        · subst h; simp at hlt
        · exact h
      have hc1 := hc _ hlt
      have hx1 := Mt.getD_lt xs H1.out (2 * j)
      have hjn : j < Mt.nw xs := by unfold Mt.nw; omega
      have htk := Mt.tot_snoc ((Mt.wl xs).take j) (Mt.wd xs j)
      rw [← Mt.wl_take xs j hjn] at htk
      obtain ⟨m, hme⟩ : ∃ m, Mt.tot ((Mt.wl xs).take j) = m := ⟨_, rfl⟩
      rw [hme] at hm htk ⊢
      have hwd : Mt.wd xs j = xs.getD (2 * j) 0 * 256 + xs.getD (2 * j + 1) 0 := rfl
      rw [hwd] at htk
      clear hwd
      have Htk := Lib.hid htk; clear htk hme
      by_cases h2 : 2 * j + 1 < xs.length
      · have hc2 := hc _ h2
        have hx2 := Mt.getD_lt xs H1.out (2 * j + 1)
        generalize xs.getD (2 * j) 0 = h at hc1 hx1 Htk
        generalize xs.getD (2 * j + 1) 0 = lo at hc2 hx2 Htk
        have hor := or_low16 h lo hx1 hx2
        have hv : h * 256 + lo ≤ 65535 := by omega
        generalize h * 256 + lo = v at Htk hor hv
        have HA := Lib.hid (refadd_any m v hm hv w)
        clear hc
        go_wp2_with fail
        refine HA.out.mono ?_; rintro e w' ⟨rfl, rfl⟩
        go_wp2
        go_round
        case rel => exact ⟨j + 1, by omega, by go_num, by rw [Htk.out]⟩
        case measure => simp [intOf]; omega
      · have e0 : xs.getD (2 * j + 1) 0 = 0 := by rw [List.getD_eq_getElem?_getD, List.getElem?_eq_none (by omega)]; rfl
        rw [e0] at Htk
        generalize xs.getD (2 * j) 0 = h at hc1 hx1 Htk
        have hA := refadd_any m (h * 256 + 0) hm (by omega) w
        rw [show ((h * 256 + 0 : Nat) : Int) = (h : Int) * 256 by omega] at hA
        have HA := Lib.hid hA
        clear hc e0 hA
        go_wp2_with fail
        refine HA.out.mono ?_; rintro e w' ⟨rfl, rfl⟩
        go_wp2
        go_round
        case rel => exact ⟨j + 1, by omega, by go_num, by rw [Htk.out, Nat.add_zero]⟩
        case measure => simp [intOf]; omega
    · obtain rfl : j = Mt.nw xs := by unfold Mt.nw at hj ⊢; omega
      have hs : Mt.tot ((Mt.wl xs).take (Mt.nw xs)) = Mt.sumO xs := by unfold Mt.sumO; rw [List.take_of_length_le (by rw [Mt.wl_length]; exact Nat.le_refl _)]
      rw [hs]
      clear hs
      go_wp2
      go_ret
      exact ⟨rfl, rfl⟩

theorem and_low16 (n : Int) : bits .and .i64 n 65535 = n % 65536 := by
  show IntKind.i64.wrap ((BitVec.ofInt 64 n &&& BitVec.ofInt 64 65535).toNat : Int) = _
  have e1 : (BitVec.ofInt 64 (65535 : Int)).toNat = 2 ^ 16 - 1 := by decide
  have e2 : (BitVec.ofInt 64 n).toNat = (n % 18446744073709551616).toNat := by rw [BitVec.toNat_ofInt]; rfl
  rw [BitVec.toNat_and, e1, e2, Nat.and_two_pow_sub_one_eq_mod]
  rw [IntWalk.i64_in _ (by omega)]
  omega

/-- The octets of Pseudo's text. -/
def psO (s d p : Nat) (n : Nat) : List Nat := Mt.octs s 4 ++ Mt.octs d 4 ++ [0, p] ++ Mt.octs n 2

theorem two_octs (q : Nat) (h : q < 65536) : q / 256 % 256 * 256 + q % 256 = q := by omega

theorem two_lt (p : Nat) (hp : p < 256) : ∀ x ∈ [0, p], x < 256 := by intro x hx; simp at hx; omega

theorem low_octs (s : Nat) : s / 256 % 256 * 256 + s % 256 = s % 65536 := by omega

theorem psO_sum (s d p : Nat) (n : Int) (hs : s < 4294967296) (hd : d < 4294967296) : Mt.sumO (psO s d p (n % 65536).toNat) = Mt.tot (psW s d p n) := by
  have hm : (n % 65536).toNat < 65536 := by omega
  have s1 : s / 65536 < 65536 := by omega
  have d1 : d / 65536 < 65536 := by omega
  unfold psW
  generalize (n % 65536).toNat = m at hm ⊢
  have e : psO s d p m = [s / (65536 * 256) % 256, s / 65536 % 256, s / 256 % 256, s / 1 % 256, d / (65536 * 256) % 256, d / 65536 % 256, d / 256 % 256, d / 1 % 256, 0, p, m / 256 % 256, m / 1 % 256] := rfl
  unfold Mt.sumO
  rw [e]
  have w0 : Mt.wl [] = [] := rfl
  simp only [Mt.wl_two, w0, Nat.div_one, ← Nat.div_div_eq_div_mul]
  have a5 : 0 * 256 + p = p := by omega
  rw [two_octs _ s1, two_octs _ d1, two_octs _ hm, low_octs s, low_octs d, a5]

theorem oct_own (n k : Nat) (hk : k ≤ 8) (w : World) : Calls Try.prog 50 #[.int .u64 n, .int .i64 k] w fun e w' => e = .returned (.slice (some ⟨w.heap.size, 0, none⟩) k k) ∧ w'.ownsRow w.heap.size 5 1 (.slice (some ⟨w.heap.size, 0, none⟩) k k) k ((Mt.octs n k).map fun x => Value.int .u8 (x : Nat)) ∧ Bts w' (some ⟨w.heap.size, 0, none⟩) (Mt.octs n k) ∧ Below w.heap.size w w' := by
  refine (octets_any n k hk w).mono ?_
  rintro e w' ⟨rfl, hr, hb⟩
  refine ⟨rfl, hr, ?_, hb⟩
  exact row_bts (B := w.heap.size) (cap := k) (by rw [Mt.octs_length]; exact hr) (octs_lt n k)

end Go.Proofs.Ytokfadlgiimaoaa

namespace Go.Proofs.Ytokfadlgiimaoaa
open Go.RowKit
set_option maxHeartbeats 400000 in
theorem refright_any (a : Option Addr) (xs : List Nat) (cap : Nat) (w : World) (hx : Bts w a xs) (hl : xs.length ≤ 140737488355328) :
    Calls Try.prog 48 #[.slice a xs.length cap] w fun e w' => e = .returned (.bool (decide (Mt.sumO xs = 65535))) ∧ w = w' := by
  have Hs := Lib.hid (refsum_any a xs cap w hx hl)
  obtain ⟨t, ht⟩ : ∃ t, decide (Mt.sumO xs = 65535) = t := ⟨_, rfl⟩
  have ht2 : ((Mt.sumO xs : Int) == 65535) = t := by
    rw [← ht, Bool.eq_iff_iff, beq_iff_eq, decide_eq_true_iff]; omega
  rw [ht]
  clear ht hx
  generalize Mt.sumO xs = r at Hs ht2
  go_enter Try.func48, Try.ntmps48
  go_wp2_with fail
  refine Hs.out.mono ?_; rintro e w' ⟨rfl, rfl⟩
  go_wp2
  go_ret
  exact ⟨rfl, rfl⟩
end Go.Proofs.Ytokfadlgiimaoaa

namespace Go.Proofs.Ytokfadlgiimaoaa
open Go.RowKit Go.Sort

theorem ip_size8 : (Try.prog.info? 72).map (·.size) = some 11 := by kernel_rfl
theorem ip_range {W : World} {g : Nat} {cs : Array Value} {t : TypeId} (h : W.heap[g]? = some (.cells cs t (0, 0))) : W.rangeAt g 0 cs.toList := fun j v hj => by
  rw [Nat.zero_add, blk_cell h j]; simpa using hj
theorem results_ip8 {fn : Func} {i k : Nat} (hr : fn.results = #[.cell i 72, .tmp k]) (tmps : Array Value) (w : World) (g : Nat) (cs : Array Value) (v : Value) (h6 : tmps.getD i undef = .pointer (some ⟨g, 0, none⟩)) (h7 : tmps.getD k undef = v) (hb : w.heap[g]? = some (.cells cs 72 (0, 0))) (hs : cs.size = 11) :
    (results fn tmps).run Try.prog w = .ok (.tuple #[.agg cs, v]) w := by
  have hl := run_loadVar_mid (P := Try.prog) w g 0 72 cs.toList _ (ip_range hb) Try.underlying72 rfl (by rw [ip_size8]; simp [hs])
  rw [Array.getD_eq_getD_getElem?] at h6 h7
  rw [Array.toArray_toList] at hl
  simp [results, hr, h6, h7, asAddr, hl]

/-- What the document's reader tells of octets that are no packet. -/
def RIpBad (w : World) (e : Ending) (w' : World) : Prop := ∃ n : Int, n ≠ 0 ∧ e = .returned (.tuple #[.agg #[.int .u8 0, .int .u16 0, .bool false, .bool false, .int .i64 0, .int .u8 0, .int .u8 0, .int .u32 0, .int .u32 0, .slice none 0 0, .slice none 0 0], .int .i64 n]) ∧ Below w.heap.size w w'

set_option maxRecDepth 100000 in
set_option maxHeartbeats 1000000 in
theorem refip_short (a : Option Addr) (xs : List Nat) (cap : Nat) (w : World) (hl : xs.length < 20) :
    Calls Try.prog 28 #[.slice a xs.length cap] w (RIpBad w) := by
  have i1 : (xs.length : Int) < 20 := by omega
  have ba := Lib.hid ((Below.refl w.heap.size w).alloc (Nat.le_refl _) (.cells #[.int .u8 0, .int .u16 0, .bool false, .bool false, .int .i64 0, .int .u8 0, .int .u8 0, .int .u32 0, .int .u32 0, .slice none 0 0, .slice none 0 0] 72))
  go_enter Try.func28, Try.ntmps28
  go_wp2

  refine bodyPost_ret (results_ip8 rfl _ _ w.heap.size _ _ rfl rfl (blk_new w _) rfl) rfl ?_
  exact ⟨8, by decide, rfl, ba.out⟩

set_option maxRecDepth 100000 in
set_option maxHeartbeats 1000000 in
theorem refip_version (b off : Nat) (xs : List Nat) (cap : Nat) (w : World) (x0 x2 x3 : Nat) (hb : b < w.heap.size) (hl20 : 20 ≤ xs.length) (c0 : w.cell? ⟨b, off, none⟩ = some (.int .u8 (x0 : Nat))) (c2 : w.cell? ⟨b, off + 2, none⟩ = some (.int .u8 (x2 : Nat))) (c3 : w.cell? ⟨b, off + 3, none⟩ = some (.int .u8 (x3 : Nat))) (h0 : x0 < 256) (h2 : x2 < 256) (hv : x0 / 16 ≠ 4) :
    Calls Try.prog 28 #[.slice (some ⟨b, off, none⟩) xs.length cap] w (RIpBad w) := by
  have e1 : ((x0 : Int) / 16 != 4) = true := by rw [bne_iff_ne]; omega
  have m0 : (0 : Int) < (xs.length : Int) := by omega
  have m2 : (2 : Int) < (xs.length : Int) := by omega
  have m3 : (3 : Int) < (xs.length : Int) := by omega
  have i20 : ¬ (xs.length : Int) < 20 := by omega
  have W2 : IntKind.i64.wrap ((x2 : Int) * 256) = (x2 : Int) * 256 := IntWalk.i64_in _ ⟨by omega, by omega⟩
  have nb : b ≠ w.heap.size := by omega
  have ba := (Below.refl w.heap.size w).alloc (Nat.le_refl _) (.cells #[.int .u8 0, .int .u16 0, .bool false, .bool false, .int .i64 0, .int .u8 0, .int .u8 0, .int .u32 0, .int .u32 0, .slice none 0 0, .slice none 0 0] 72)
  have c0 := (ba.cell (p := ⟨b, off, none⟩) hb).trans c0
  have c2 := (ba.cell (p := ⟨b, off + 2, none⟩) hb).trans c2
  have c3 := (ba.cell (p := ⟨b, off + 3, none⟩) hb).trans c3
  have R1 := Lib.hid (blk_new w (.cells #[.int .u8 0, .int .u16 0, .bool false, .bool false, .int .i64 0, .int .u8 0, .int .u8 0, .int .u32 0, .int .u32 0, .slice none 0 0, .slice none 0 0] 72))
  have BA := Lib.hid ba
  clear hv hl20 ba
  go_enter Try.func28, Try.ntmps28
  go_upto_region 3 with fail
  generalize w.alloc (.cells #[.int .u8 0, .int .u16 0, .bool false, .bool false, .int .i64 0, .int .u8 0, .int .u8 0, .int .u32 0, .int .u32 0, .slice none 0 0, .slice none 0 0] 72) = V1 at c0 c2 c3 R1 BA ⊢
  go_upto_region 4 with fail
  go_quiet (fail)
  have D := below_drewN (Below.refl V1.heap.size V1) nq
  have R2 := Lib.hid ((D.block w.heap.size (blk_lt R1.out)).trans R1.out)
  have E2 := Lib.hid (BA.out.trans (D.mono BA.out.size))
  have d0 := (D.cell (p := ⟨b, off, none⟩) (Nat.lt_of_lt_of_le hb BA.out.size)).trans c0
  clear D R1 BA c0 c2 c3
  generalize V1.drewN nq = V2 at R2 E2 d0 ⊢
  have g0 := blk_cell R2.out 0
  have f0 := blk_free R2.out 0
  have g1 := blk_cell R2.out 1
  have f1 := blk_free R2.out 1
  have g2 := blk_cell R2.out 2
  have f2 := blk_free R2.out 2
  have g3 := blk_cell R2.out 3
  have f3 := blk_free R2.out 3
  have g4 := blk_cell R2.out 4
  have f4 := blk_free R2.out 4
  have g5 := blk_cell R2.out 5
  have f5 := blk_free R2.out 5
  have g6 := blk_cell R2.out 6
  have f6 := blk_free R2.out 6
  have g7 := blk_cell R2.out 7
  have f7 := blk_free R2.out 7
  have g8 := blk_cell R2.out 8
  have f8 := blk_free R2.out 8
  have g9 := blk_cell R2.out 9
  have f9 := blk_free R2.out 9
  have g10 := blk_cell R2.out 10
  have f10 := blk_free R2.out 10
  go_wp2
  refine bodyPost_ret (results_ip8 rfl _ _ w.heap.size _ _ rfl rfl (show _ = some (Obj.cells #[.int .u8 0, .int .u16 0, .bool false, .bool false, .int .i64 0, .int .u8 0, .int .u8 0, .int .u32 0, .int .u32 0, .slice none 0 0, .slice none 0 0] _ _) from (blk_set (blk_set (blk_set (blk_set (blk_set (blk_set (blk_set (blk_set (blk_set (blk_set (blk_set R2.out 0 _) 1 _) 2 _) 3 _) 4 _) 5 _) 6 _) 7 _) 8 _) 9 _) 10 _)) rfl) rfl ?_
  exact ⟨41, by decide, rfl, by
    (repeat' (first | (with_reducible exact E2.out) | (with_reducible refine Below.setCell ?_ ?_ _) | exact Nat.le_refl _))⟩
end Go.Proofs.Ytokfadlgiimaoaa

namespace Go.Proofs.Ytokfadlgiimaoaa
open Go.RowKit Go.Sort
theorem ofInt_nat64 (n : Nat) (h : n < 65536) : (BitVec.ofInt 64 (n : Int)).toNat = n := by
  rw [BitVec.ofInt_natCast, BitVec.toNat_ofNat]; exact Nat.mod_eq_of_lt (Nat.lt_trans h (by decide))
theorem or_two (x y T : Nat) (hx : x < 256) (hy : y < 256) (h : x * 256 + y = T) : bits .or .i64 ((x : Int) * 256) (y : Int) = (T : Int) := by
  have e : (x : Int) * 256 = ((x * 256 : Nat) : Int) := by omega
  have hj : x * 256 ||| y = T := by
    rw [← h, show x * 256 = x <<< 8 by rw [Nat.shiftLeft_eq]]
    exact (Nat.shiftLeft_add_eq_or_of_lt (by omega) x).symm
  rw [e]
  show IntKind.i64.wrap ((BitVec.ofInt 64 ((x * 256 : Nat) : Int) ||| BitVec.ofInt 64 (y : Int)).toNat : Int) = _
  rw [BitVec.toNat_or, ofInt_nat64 _ (by omega), ofInt_nat64 _ (by omega), hj]
  exact IntWalk.i64_in _ ⟨by omega, by omega⟩
end Go.Proofs.Ytokfadlgiimaoaa

namespace Go.Proofs.Ytokfadlgiimaoaa
open Go.RowKit Go.Sort

set_option maxRecDepth 100000 in
set_option maxHeartbeats 1000000 in
theorem refip_len_a (b off : Nat) (xs : List Nat) (cap : Nat) (w : World) (x0 x2 x3 hd T : Nat) (hb : b < w.heap.size) (hl20 : 20 ≤ xs.length) (c0 : w.cell? ⟨b, off, none⟩ = some (.int .u8 (x0 : Nat))) (c2 : w.cell? ⟨b, off + 2, none⟩ = some (.int .u8 (x2 : Nat))) (c3 : w.cell? ⟨b, off + 3, none⟩ = some (.int .u8 (x3 : Nat))) (h0 : x0 < 256) (h2 : x2 < 256) (h3 : x3 < 256) (hv : x0 / 16 = 4) (hhd : x0 % 16 * 4 = hd) (hT : x2 * 256 + x3 = T) (hbad : hd < 20) :
    Calls Try.prog 28 #[.slice (some ⟨b, off, none⟩) xs.length cap] w (RIpBad w) := by
  have e1 : ((x0 : Int) / 16 != 4) = false := by rw [bne_eq_false_iff_eq]; omega
  have m0 : (0 : Int) < (xs.length : Int) := by omega
  have m2 : (2 : Int) < (xs.length : Int) := by omega
  have m3 : (3 : Int) < (xs.length : Int) := by omega
  have i20 : ¬ (xs.length : Int) < 20 := by omega
  have W2 : IntKind.i64.wrap ((x2 : Int) * 256) = (x2 : Int) * 256 := IntWalk.i64_in _ ⟨by omega, by omega⟩
  have W3 : wrap64 (x3 : Int) = (x3 : Int) := IntWalk.wrap64_in _ (by omega)
  have W4 : bits .or .i64 ((x2 : Int) * 256) (x3 : Int) = (T : Int) := or_two x2 x3 T h2 h3 hT
  have W5 : (x0 : Int) % 16 * 4 = (hd : Int) := by omega
  have HBD := Lib.hid hbad
  have nb : b ≠ w.heap.size := by omega
  have ba := (Below.refl w.heap.size w).alloc (Nat.le_refl _) (.cells #[.int .u8 0, .int .u16 0, .bool false, .bool false, .int .i64 0, .int .u8 0, .int .u8 0, .int .u32 0, .int .u32 0, .slice none 0 0, .slice none 0 0] 72)
  have c0 := (ba.cell (p := ⟨b, off, none⟩) hb).trans c0
  have c2 := (ba.cell (p := ⟨b, off + 2, none⟩) hb).trans c2
  have c3 := (ba.cell (p := ⟨b, off + 3, none⟩) hb).trans c3
  have R1 := Lib.hid (blk_new w (.cells #[.int .u8 0, .int .u16 0, .bool false, .bool false, .int .i64 0, .int .u8 0, .int .u8 0, .int .u32 0, .int .u32 0, .slice none 0 0, .slice none 0 0] 72))
  have BA := Lib.hid ba
  clear hv hl20 ba hhd hT hbad
  go_enter Try.func28, Try.ntmps28
  go_upto_region 3 with fail
  generalize w.alloc (.cells #[.int .u8 0, .int .u16 0, .bool false, .bool false, .int .i64 0, .int .u8 0, .int .u8 0, .int .u32 0, .int .u32 0, .slice none 0 0, .slice none 0 0] 72) = V1 at c0 c2 c3 R1 BA ⊢
  go_upto_region 4 with fail
  go_cut [5] from 9 (fun (v : Value) wx => v = .int .i64 (T : Nat) ∧ Below V1.heap.size V1 wx)
  case first =>
    go_quiet (fail)
    go_wp2_with fail
    go_meet
    exact ⟨by first | rfl | (rw [W3, W4]), below_drewN (Below.refl _ _) nq⟩
  case rest =>
    obtain ⟨rfl, D⟩ := hcut
    have R2 := Lib.hid ((D.block w.heap.size (blk_lt R1.out)).trans R1.out)
    have E2 := Lib.hid (BA.out.trans (D.mono BA.out.size))
    have d0 := (D.cell (p := ⟨b, off, none⟩) (Nat.lt_of_lt_of_le hb BA.out.size)).trans c0
    clear D R1 BA c0 c2 c3 W2 W3 W4
    go_upto_region 7 with fail
    have hbad := HBD.out
    have q1 : (hd : Int) < 20 := by omega
    have q1n : hd < 20 := by omega
    have q1d : decide ((hd : Int) < 20) = true := decide_eq_true q1
    have q1e : decide (hd < 20) = true := decide_eq_true q1n

    clear hbad
    go_cut [36] from 30 (fun (v : Value) wx => v = .bool true ∧ wx = wc)
    case first =>
      go_wp2_with fail
      go_meet
      exact ⟨rfl, rfl⟩
    case rest =>
      obtain ⟨rfl, rfl⟩ := hcut
      have g0 := blk_cell R2.out 0
      have f0 := blk_free R2.out 0
      have g1 := blk_cell R2.out 1
      have f1 := blk_free R2.out 1
      have g2 := blk_cell R2.out 2
      have f2 := blk_free R2.out 2
      have g3 := blk_cell R2.out 3
      have f3 := blk_free R2.out 3
      have g4 := blk_cell R2.out 4
      have f4 := blk_free R2.out 4
      have g5 := blk_cell R2.out 5
      have f5 := blk_free R2.out 5
      have g6 := blk_cell R2.out 6
      have f6 := blk_free R2.out 6
      have g7 := blk_cell R2.out 7
      have f7 := blk_free R2.out 7
      have g8 := blk_cell R2.out 8
      have f8 := blk_free R2.out 8
      have g9 := blk_cell R2.out 9
      have f9 := blk_free R2.out 9
      have g10 := blk_cell R2.out 10
      have f10 := blk_free R2.out 10
      go_wp2
      refine bodyPost_ret (results_ip8 rfl _ _ w.heap.size _ _ rfl rfl (show _ = some (Obj.cells #[.int .u8 0, .int .u16 0, .bool false, .bool false, .int .i64 0, .int .u8 0, .int .u8 0, .int .u32 0, .int .u32 0, .slice none 0 0, .slice none 0 0] _ _) from (blk_set (blk_set (blk_set (blk_set (blk_set (blk_set (blk_set (blk_set (blk_set (blk_set (blk_set R2.out 0 _) 1 _) 2 _) 3 _) 4 _) 5 _) 6 _) 7 _) 8 _) 9 _) 10 _)) rfl) rfl ?_
      exact ⟨42, by decide, rfl, by
        (repeat' (first | (with_reducible exact E2.out) | (with_reducible refine Below.setCell ?_ ?_ _) | exact Nat.le_refl _))⟩

set_option maxRecDepth 100000 in
set_option maxHeartbeats 1000000 in
theorem refip_len_b (b off : Nat) (xs : List Nat) (cap : Nat) (w : World) (x0 x2 x3 hd T : Nat) (hb : b < w.heap.size) (hl20 : 20 ≤ xs.length) (c0 : w.cell? ⟨b, off, none⟩ = some (.int .u8 (x0 : Nat))) (c2 : w.cell? ⟨b, off + 2, none⟩ = some (.int .u8 (x2 : Nat))) (c3 : w.cell? ⟨b, off + 3, none⟩ = some (.int .u8 (x3 : Nat))) (h0 : x0 < 256) (h2 : x2 < 256) (h3 : x3 < 256) (hv : x0 / 16 = 4) (hhd : x0 % 16 * 4 = hd) (hT : x2 * 256 + x3 = T) (hg : 20 ≤ hd) (hbad : xs.length < hd) :
    Calls Try.prog 28 #[.slice (some ⟨b, off, none⟩) xs.length cap] w (RIpBad w) := by
  have e1 : ((x0 : Int) / 16 != 4) = false := by rw [bne_eq_false_iff_eq]; omega
  have m0 : (0 : Int) < (xs.length : Int) := by omega
  have m2 : (2 : Int) < (xs.length : Int) := by omega
  have m3 : (3 : Int) < (xs.length : Int) := by omega
  have i20 : ¬ (xs.length : Int) < 20 := by omega
  have W2 : IntKind.i64.wrap ((x2 : Int) * 256) = (x2 : Int) * 256 := IntWalk.i64_in _ ⟨by omega, by omega⟩
  have W3 : wrap64 (x3 : Int) = (x3 : Int) := IntWalk.wrap64_in _ (by omega)
  have W4 : bits .or .i64 ((x2 : Int) * 256) (x3 : Int) = (T : Int) := or_two x2 x3 T h2 h3 hT
  have W5 : (x0 : Int) % 16 * 4 = (hd : Int) := by omega
  have HBD := Lib.hid hbad
  have HG := Lib.hid hg
  have nb : b ≠ w.heap.size := by omega
  have ba := (Below.refl w.heap.size w).alloc (Nat.le_refl _) (.cells #[.int .u8 0, .int .u16 0, .bool false, .bool false, .int .i64 0, .int .u8 0, .int .u8 0, .int .u32 0, .int .u32 0, .slice none 0 0, .slice none 0 0] 72)
  have c0 := (ba.cell (p := ⟨b, off, none⟩) hb).trans c0
  have c2 := (ba.cell (p := ⟨b, off + 2, none⟩) hb).trans c2
  have c3 := (ba.cell (p := ⟨b, off + 3, none⟩) hb).trans c3
  have R1 := Lib.hid (blk_new w (.cells #[.int .u8 0, .int .u16 0, .bool false, .bool false, .int .i64 0, .int .u8 0, .int .u8 0, .int .u32 0, .int .u32 0, .slice none 0 0, .slice none 0 0] 72))
  have BA := Lib.hid ba
  clear hv hl20 ba hhd hT hbad hg
  go_enter Try.func28, Try.ntmps28
  go_upto_region 3 with fail
  generalize w.alloc (.cells #[.int .u8 0, .int .u16 0, .bool false, .bool false, .int .i64 0, .int .u8 0, .int .u8 0, .int .u32 0, .int .u32 0, .slice none 0 0, .slice none 0 0] 72) = V1 at c0 c2 c3 R1 BA ⊢
  go_upto_region 4 with fail
  go_cut [5] from 9 (fun (v : Value) wx => v = .int .i64 (T : Nat) ∧ Below V1.heap.size V1 wx)
  case first =>
    go_quiet (fail)
    go_wp2_with fail
    go_meet
    exact ⟨by first | rfl | (rw [W3, W4]), below_drewN (Below.refl _ _) nq⟩
  case rest =>
    obtain ⟨rfl, D⟩ := hcut
    have R2 := Lib.hid ((D.block w.heap.size (blk_lt R1.out)).trans R1.out)
    have E2 := Lib.hid (BA.out.trans (D.mono BA.out.size))
    have d0 := (D.cell (p := ⟨b, off, none⟩) (Nat.lt_of_lt_of_le hb BA.out.size)).trans c0
    clear D R1 BA c0 c2 c3 W2 W3 W4
    go_upto_region 7 with fail
    have hbad := HBD.out
    have hg := HG.out
    have q1 : ¬ (hd : Int) < 20 := by omega
    have q1n : ¬ hd < 20 := by omega
    have q1d : decide ((hd : Int) < 20) = false := decide_eq_false q1
    have q1e : decide (hd < 20) = false := decide_eq_false q1n
    have q2 : (xs.length : Int) < (hd : Int) := by omega
    have q2n : xs.length < hd := by omega
    have q2d : decide ((xs.length : Int) < (hd : Int)) = true := decide_eq_true q2
    have q2e : decide (xs.length < hd) = true := decide_eq_true q2n

    clear hbad hg
    go_cut [36] from 30 (fun (v : Value) wx => v = .bool true ∧ wx = wc)
    case first =>
      go_wp2_with fail
      go_meet
      exact ⟨rfl, rfl⟩
    case rest =>
      obtain ⟨rfl, rfl⟩ := hcut
      have g0 := blk_cell R2.out 0
      have f0 := blk_free R2.out 0
      have g1 := blk_cell R2.out 1
      have f1 := blk_free R2.out 1
      have g2 := blk_cell R2.out 2
      have f2 := blk_free R2.out 2
      have g3 := blk_cell R2.out 3
      have f3 := blk_free R2.out 3
      have g4 := blk_cell R2.out 4
      have f4 := blk_free R2.out 4
      have g5 := blk_cell R2.out 5
      have f5 := blk_free R2.out 5
      have g6 := blk_cell R2.out 6
      have f6 := blk_free R2.out 6
      have g7 := blk_cell R2.out 7
      have f7 := blk_free R2.out 7
      have g8 := blk_cell R2.out 8
      have f8 := blk_free R2.out 8
      have g9 := blk_cell R2.out 9
      have f9 := blk_free R2.out 9
      have g10 := blk_cell R2.out 10
      have f10 := blk_free R2.out 10
      go_wp2
      refine bodyPost_ret (results_ip8 rfl _ _ w.heap.size _ _ rfl rfl (show _ = some (Obj.cells #[.int .u8 0, .int .u16 0, .bool false, .bool false, .int .i64 0, .int .u8 0, .int .u8 0, .int .u32 0, .int .u32 0, .slice none 0 0, .slice none 0 0] _ _) from (blk_set (blk_set (blk_set (blk_set (blk_set (blk_set (blk_set (blk_set (blk_set (blk_set (blk_set R2.out 0 _) 1 _) 2 _) 3 _) 4 _) 5 _) 6 _) 7 _) 8 _) 9 _) 10 _)) rfl) rfl ?_
      exact ⟨42, by decide, rfl, by
        (repeat' (first | (with_reducible exact E2.out) | (with_reducible refine Below.setCell ?_ ?_ _) | exact Nat.le_refl _))⟩

set_option maxRecDepth 100000 in
set_option maxHeartbeats 1000000 in
theorem refip_len_c (b off : Nat) (xs : List Nat) (cap : Nat) (w : World) (x0 x2 x3 hd T : Nat) (hb : b < w.heap.size) (hl20 : 20 ≤ xs.length) (c0 : w.cell? ⟨b, off, none⟩ = some (.int .u8 (x0 : Nat))) (c2 : w.cell? ⟨b, off + 2, none⟩ = some (.int .u8 (x2 : Nat))) (c3 : w.cell? ⟨b, off + 3, none⟩ = some (.int .u8 (x3 : Nat))) (h0 : x0 < 256) (h2 : x2 < 256) (h3 : x3 < 256) (hv : x0 / 16 = 4) (hhd : x0 % 16 * 4 = hd) (hT : x2 * 256 + x3 = T) (hg : 20 ≤ hd ∧ hd ≤ xs.length) (hbad : T < hd) :
    Calls Try.prog 28 #[.slice (some ⟨b, off, none⟩) xs.length cap] w (RIpBad w) := by
  have e1 : ((x0 : Int) / 16 != 4) = false := by rw [bne_eq_false_iff_eq]; omega
  have m0 : (0 : Int) < (xs.length : Int) := by omega
  have m2 : (2 : Int) < (xs.length : Int) := by omega
  have m3 : (3 : Int) < (xs.length : Int) := by omega
  have i20 : ¬ (xs.length : Int) < 20 := by omega
  have W2 : IntKind.i64.wrap ((x2 : Int) * 256) = (x2 : Int) * 256 := IntWalk.i64_in _ ⟨by omega, by omega⟩
  have W3 : wrap64 (x3 : Int) = (x3 : Int) := IntWalk.wrap64_in _ (by omega)
  have W4 : bits .or .i64 ((x2 : Int) * 256) (x3 : Int) = (T : Int) := or_two x2 x3 T h2 h3 hT
  have W5 : (x0 : Int) % 16 * 4 = (hd : Int) := by omega
  have HBD := Lib.hid hbad
  have HG := Lib.hid hg
  have nb : b ≠ w.heap.size := by omega
  have ba := (Below.refl w.heap.size w).alloc (Nat.le_refl _) (.cells #[.int .u8 0, .int .u16 0, .bool false, .bool false, .int .i64 0, .int .u8 0, .int .u8 0, .int .u32 0, .int .u32 0, .slice none 0 0, .slice none 0 0] 72)
  have c0 := (ba.cell (p := ⟨b, off, none⟩) hb).trans c0
  have c2 := (ba.cell (p := ⟨b, off + 2, none⟩) hb).trans c2
  have c3 := (ba.cell (p := ⟨b, off + 3, none⟩) hb).trans c3
  have R1 := Lib.hid (blk_new w (.cells #[.int .u8 0, .int .u16 0, .bool false, .bool false, .int .i64 0, .int .u8 0, .int .u8 0, .int .u32 0, .int .u32 0, .slice none 0 0, .slice none 0 0] 72))
  have BA := Lib.hid ba
  clear hv hl20 ba hhd hT hbad hg
  go_enter Try.func28, Try.ntmps28
  go_upto_region 3 with fail
  generalize w.alloc (.cells #[.int .u8 0, .int .u16 0, .bool false, .bool false, .int .i64 0, .int .u8 0, .int .u8 0, .int .u32 0, .int .u32 0, .slice none 0 0, .slice none 0 0] 72) = V1 at c0 c2 c3 R1 BA ⊢
  go_upto_region 4 with fail
  go_cut [5] from 9 (fun (v : Value) wx => v = .int .i64 (T : Nat) ∧ Below V1.heap.size V1 wx)
  case first =>
    go_quiet (fail)
    go_wp2_with fail
    go_meet
    exact ⟨by first | rfl | (rw [W3, W4]), below_drewN (Below.refl _ _) nq⟩
  case rest =>
    obtain ⟨rfl, D⟩ := hcut
    have R2 := Lib.hid ((D.block w.heap.size (blk_lt R1.out)).trans R1.out)
    have E2 := Lib.hid (BA.out.trans (D.mono BA.out.size))
    have d0 := (D.cell (p := ⟨b, off, none⟩) (Nat.lt_of_lt_of_le hb BA.out.size)).trans c0
    clear D R1 BA c0 c2 c3 W2 W3 W4
    go_upto_region 7 with fail
    have hbad := HBD.out
    have hg := HG.out
    have q1 : ¬ (hd : Int) < 20 := by omega
    have q1n : ¬ hd < 20 := by omega
    have q1d : decide ((hd : Int) < 20) = false := decide_eq_false q1
    have q1e : decide (hd < 20) = false := decide_eq_false q1n
    have q2 : ¬ (xs.length : Int) < (hd : Int) := by omega
    have q2n : ¬ xs.length < hd := by omega
    have q2d : decide ((xs.length : Int) < (hd : Int)) = false := decide_eq_false q2
    have q2e : decide (xs.length < hd) = false := decide_eq_false q2n
    have q3 : (T : Int) < (hd : Int) := by omega
    have q3n : T < hd := by omega
    have q3d : decide ((T : Int) < (hd : Int)) = true := decide_eq_true q3
    have q3e : decide (T < hd) = true := decide_eq_true q3n

    clear hbad hg
    go_cut [36] from 30 (fun (v : Value) wx => v = .bool true ∧ wx = wc)
    case first =>
      go_wp2_with fail
      go_meet
      exact ⟨rfl, rfl⟩
    case rest =>
      obtain ⟨rfl, rfl⟩ := hcut
      have g0 := blk_cell R2.out 0
      have f0 := blk_free R2.out 0
      have g1 := blk_cell R2.out 1
      have f1 := blk_free R2.out 1
      have g2 := blk_cell R2.out 2
      have f2 := blk_free R2.out 2
      have g3 := blk_cell R2.out 3
      have f3 := blk_free R2.out 3
      have g4 := blk_cell R2.out 4
      have f4 := blk_free R2.out 4
      have g5 := blk_cell R2.out 5
      have f5 := blk_free R2.out 5
      have g6 := blk_cell R2.out 6
      have f6 := blk_free R2.out 6
      have g7 := blk_cell R2.out 7
      have f7 := blk_free R2.out 7
      have g8 := blk_cell R2.out 8
      have f8 := blk_free R2.out 8
      have g9 := blk_cell R2.out 9
      have f9 := blk_free R2.out 9
      have g10 := blk_cell R2.out 10
      have f10 := blk_free R2.out 10
      go_wp2
      refine bodyPost_ret (results_ip8 rfl _ _ w.heap.size _ _ rfl rfl (show _ = some (Obj.cells #[.int .u8 0, .int .u16 0, .bool false, .bool false, .int .i64 0, .int .u8 0, .int .u8 0, .int .u32 0, .int .u32 0, .slice none 0 0, .slice none 0 0] _ _) from (blk_set (blk_set (blk_set (blk_set (blk_set (blk_set (blk_set (blk_set (blk_set (blk_set (blk_set R2.out 0 _) 1 _) 2 _) 3 _) 4 _) 5 _) 6 _) 7 _) 8 _) 9 _) 10 _)) rfl) rfl ?_
      exact ⟨42, by decide, rfl, by
        (repeat' (first | (with_reducible exact E2.out) | (with_reducible refine Below.setCell ?_ ?_ _) | exact Nat.le_refl _))⟩

set_option maxRecDepth 100000 in
set_option maxHeartbeats 1000000 in
theorem refip_len_d (b off : Nat) (xs : List Nat) (cap : Nat) (w : World) (x0 x2 x3 hd T : Nat) (hb : b < w.heap.size) (hl20 : 20 ≤ xs.length) (c0 : w.cell? ⟨b, off, none⟩ = some (.int .u8 (x0 : Nat))) (c2 : w.cell? ⟨b, off + 2, none⟩ = some (.int .u8 (x2 : Nat))) (c3 : w.cell? ⟨b, off + 3, none⟩ = some (.int .u8 (x3 : Nat))) (h0 : x0 < 256) (h2 : x2 < 256) (h3 : x3 < 256) (hv : x0 / 16 = 4) (hhd : x0 % 16 * 4 = hd) (hT : x2 * 256 + x3 = T) (hg : 20 ≤ hd ∧ hd ≤ xs.length ∧ hd ≤ T) (hbad : xs.length < T) :
    Calls Try.prog 28 #[.slice (some ⟨b, off, none⟩) xs.length cap] w (RIpBad w) := by
  have e1 : ((x0 : Int) / 16 != 4) = false := by rw [bne_eq_false_iff_eq]; omega
  have m0 : (0 : Int) < (xs.length : Int) := by omega
  have m2 : (2 : Int) < (xs.length : Int) := by omega
  have m3 : (3 : Int) < (xs.length : Int) := by omega
  have i20 : ¬ (xs.length : Int) < 20 := by omega
  have W2 : IntKind.i64.wrap ((x2 : Int) * 256) = (x2 : Int) * 256 := IntWalk.i64_in _ ⟨by omega, by omega⟩
  have W3 : wrap64 (x3 : Int) = (x3 : Int) := IntWalk.wrap64_in _ (by omega)
  have W4 : bits .or .i64 ((x2 : Int) * 256) (x3 : Int) = (T : Int) := or_two x2 x3 T h2 h3 hT
  have W5 : (x0 : Int) % 16 * 4 = (hd : Int) := by omega
  have HBD := Lib.hid hbad
  have HG := Lib.hid hg
  have nb : b ≠ w.heap.size := by omega
  have ba := (Below.refl w.heap.size w).alloc (Nat.le_refl _) (.cells #[.int .u8 0, .int .u16 0, .bool false, .bool false, .int .i64 0, .int .u8 0, .int .u8 0, .int .u32 0, .int .u32 0, .slice none 0 0, .slice none 0 0] 72)
  have c0 := (ba.cell (p := ⟨b, off, none⟩) hb).trans c0
  have c2 := (ba.cell (p := ⟨b, off + 2, none⟩) hb).trans c2
  have c3 := (ba.cell (p := ⟨b, off + 3, none⟩) hb).trans c3
  have R1 := Lib.hid (blk_new w (.cells #[.int .u8 0, .int .u16 0, .bool false, .bool false, .int .i64 0, .int .u8 0, .int .u8 0, .int .u32 0, .int .u32 0, .slice none 0 0, .slice none 0 0] 72))
  have BA := Lib.hid ba
  clear hv hl20 ba hhd hT hbad hg
  go_enter Try.func28, Try.ntmps28
  go_upto_region 3 with fail
  generalize w.alloc (.cells #[.int .u8 0, .int .u16 0, .bool false, .bool false, .int .i64 0, .int .u8 0, .int .u8 0, .int .u32 0, .int .u32 0, .slice none 0 0, .slice none 0 0] 72) = V1 at c0 c2 c3 R1 BA ⊢
  go_upto_region 4 with fail
  go_cut [5] from 9 (fun (v : Value) wx => v = .int .i64 (T : Nat) ∧ Below V1.heap.size V1 wx)
  case first =>
    go_quiet (fail)
    go_wp2_with fail
    go_meet
    exact ⟨by first | rfl | (rw [W3, W4]), below_drewN (Below.refl _ _) nq⟩
  case rest =>
    obtain ⟨rfl, D⟩ := hcut
    have R2 := Lib.hid ((D.block w.heap.size (blk_lt R1.out)).trans R1.out)
    have E2 := Lib.hid (BA.out.trans (D.mono BA.out.size))
    have d0 := (D.cell (p := ⟨b, off, none⟩) (Nat.lt_of_lt_of_le hb BA.out.size)).trans c0
    clear D R1 BA c0 c2 c3 W2 W3 W4
    go_upto_region 7 with fail
    have hbad := HBD.out
    have hg := HG.out
    have q1 : ¬ (hd : Int) < 20 := by omega
    have q1n : ¬ hd < 20 := by omega
    have q1d : decide ((hd : Int) < 20) = false := decide_eq_false q1
    have q1e : decide (hd < 20) = false := decide_eq_false q1n
    have q2 : ¬ (xs.length : Int) < (hd : Int) := by omega
    have q2n : ¬ xs.length < hd := by omega
    have q2d : decide ((xs.length : Int) < (hd : Int)) = false := decide_eq_false q2
    have q2e : decide (xs.length < hd) = false := decide_eq_false q2n
    have q3 : ¬ (T : Int) < (hd : Int) := by omega
    have q3n : ¬ T < hd := by omega
    have q3d : decide ((T : Int) < (hd : Int)) = false := decide_eq_false q3
    have q3e : decide (T < hd) = false := decide_eq_false q3n
    have q4 : (xs.length : Int) < (T : Int) := by omega
    have q4n : xs.length < T := by omega
    have q4d : decide ((xs.length : Int) < (T : Int)) = true := decide_eq_true q4
    have q4e : decide (xs.length < T) = true := decide_eq_true q4n

    clear hbad hg
    go_cut [36] from 30 (fun (v : Value) wx => v = .bool true ∧ wx = wc)
    case first =>
      go_wp2_with fail
      go_meet
      exact ⟨rfl, rfl⟩
    case rest =>
      obtain ⟨rfl, rfl⟩ := hcut
      have g0 := blk_cell R2.out 0
      have f0 := blk_free R2.out 0
      have g1 := blk_cell R2.out 1
      have f1 := blk_free R2.out 1
      have g2 := blk_cell R2.out 2
      have f2 := blk_free R2.out 2
      have g3 := blk_cell R2.out 3
      have f3 := blk_free R2.out 3
      have g4 := blk_cell R2.out 4
      have f4 := blk_free R2.out 4
      have g5 := blk_cell R2.out 5
      have f5 := blk_free R2.out 5
      have g6 := blk_cell R2.out 6
      have f6 := blk_free R2.out 6
      have g7 := blk_cell R2.out 7
      have f7 := blk_free R2.out 7
      have g8 := blk_cell R2.out 8
      have f8 := blk_free R2.out 8
      have g9 := blk_cell R2.out 9
      have f9 := blk_free R2.out 9
      have g10 := blk_cell R2.out 10
      have f10 := blk_free R2.out 10
      go_wp2
      refine bodyPost_ret (results_ip8 rfl _ _ w.heap.size _ _ rfl rfl (show _ = some (Obj.cells #[.int .u8 0, .int .u16 0, .bool false, .bool false, .int .i64 0, .int .u8 0, .int .u8 0, .int .u32 0, .int .u32 0, .slice none 0 0, .slice none 0 0] _ _) from (blk_set (blk_set (blk_set (blk_set (blk_set (blk_set (blk_set (blk_set (blk_set (blk_set (blk_set R2.out 0 _) 1 _) 2 _) 3 _) 4 _) 5 _) 6 _) 7 _) 8 _) 9 _) 10 _)) rfl) rfl ?_
      exact ⟨42, by decide, rfl, by
        (repeat' (first | (with_reducible exact E2.out) | (with_reducible refine Below.setCell ?_ ?_ _) | exact Nat.le_refl _))⟩

theorem refip_length (b off : Nat) (xs : List Nat) (cap : Nat) (w : World) (x0 x2 x3 hd T : Nat) (hb : b < w.heap.size) (hl20 : 20 ≤ xs.length) (c0 : w.cell? ⟨b, off, none⟩ = some (.int .u8 (x0 : Nat))) (c2 : w.cell? ⟨b, off + 2, none⟩ = some (.int .u8 (x2 : Nat))) (c3 : w.cell? ⟨b, off + 3, none⟩ = some (.int .u8 (x3 : Nat))) (h0 : x0 < 256) (h2 : x2 < 256) (h3 : x3 < 256) (hv : x0 / 16 = 4) (hhd : x0 % 16 * 4 = hd) (hT : x2 * 256 + x3 = T) (hbad : ¬ (20 ≤ hd ∧ hd ≤ xs.length ∧ hd ≤ T ∧ T ≤ xs.length)) :
    Calls Try.prog 28 #[.slice (some ⟨b, off, none⟩) xs.length cap] w (RIpBad w) := by
  by_cases q1 : hd < 20
  · exact refip_len_a b off xs cap w x0 x2 x3 hd T hb hl20 c0 c2 c3 h0 h2 h3 hv hhd hT q1
  · by_cases q2 : xs.length < hd
    · exact refip_len_b b off xs cap w x0 x2 x3 hd T hb hl20 c0 c2 c3 h0 h2 h3 hv hhd hT (by omega) q2
    · by_cases q3 : T < hd
      · exact refip_len_c b off xs cap w x0 x2 x3 hd T hb hl20 c0 c2 c3 h0 h2 h3 hv hhd hT ⟨by omega, by omega⟩ q3
      · exact refip_len_d b off xs cap w x0 x2 x3 hd T hb hl20 c0 c2 c3 h0 h2 h3 hv hhd hT ⟨by omega, by omega, by omega⟩ (by omega)
end Go.Proofs.Ytokfadlgiimaoaa
