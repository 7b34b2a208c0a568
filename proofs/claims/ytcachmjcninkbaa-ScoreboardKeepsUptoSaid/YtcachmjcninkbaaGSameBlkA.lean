/- Two lists of blocks that are one are told to be one; two states. -/
import Derived.Test.YtcachmjcninkbaaScA
namespace Go.Proofs.Ytcachmjcninkbaa
open Go.RowKit

set_option maxHeartbeats 1000000 in
theorem sameBlocks_one (a c : Option Addr) (bs cs : List (Nat × Nat)) (cap dap : Nat) (w : World) (hx : Blk w a bs) (hy : Blk w c cs) (hl : bs.length ≤ 17592186044416) (_ : cs.length ≤ 17592186044416) (he : bs = cs) :
    Calls Try.prog 31 #[.slice a bs.length cap, .slice c cs.length dap] w fun e w' => e = .returned (.bool true) ∧ Below w.heap.size w w' := by
  subst he
  have Hx := Lib.hid hx; clear hx
  have Hy := Lib.hid hy; clear hy
  have hl1 : ((bs.length : Int) != (bs.length : Int)) = false := by simp
  go_enter Try.func31, Try.ntmps31
  go_wp2
  go_loopw [5] (fun i wr => ∃ k : Nat, k ≤ bs.length ∧ i = .int .i64 k ∧ ∃ q, wr = w.drewN q) (fun i _ => bs.length - (intOf i).toNat)
  case atStart => exact ⟨0, by omega, rfl, 0, rfl⟩
  case round =>
    obtain ⟨k, hk, rfl, q, rfl⟩ := hrel
    by_cases hlt : k < bs.length
    · obtain ⟨b, off, rfl, hb, hcx⟩ : ∃ b off, a = some ⟨b, off, none⟩ ∧ b < w.heap.size ∧ ∀ i, i < bs.length → w.cell? ⟨b, off + 2 * i, none⟩ = some (.int .u32 ((bs.getD i (0, 0)).1 : Nat)) ∧ w.cell? ⟨b, off + 2 * i + 1, none⟩ = some (.int .u32 ((bs.getD i (0, 0)).2 : Nat)) := by
        rcases Hx.out.2 with h | h
        · subst h; simp at hlt
        · exact h
      obtain ⟨b2, off2, rfl, hb2, hcy⟩ : ∃ b off, c = some ⟨b, off, none⟩ ∧ b < w.heap.size ∧ ∀ i, i < bs.length → w.cell? ⟨b, off + 2 * i, none⟩ = some (.int .u32 ((bs.getD i (0, 0)).1 : Nat)) ∧ w.cell? ⟨b, off + 2 * i + 1, none⟩ = some (.int .u32 ((bs.getD i (0, 0)).2 : Nat)) := by
        rcases Hy.out.2 with h | h
        · subst h; simp at hlt
        · exact h
      obtain ⟨g1, g2⟩ := hcx k hlt
      obtain ⟨g3, g4⟩ := hcy k hlt
      generalize (bs.getD k (0, 0)).1 = x1 at g1 g3
      generalize (bs.getD k (0, 0)).2 = x2 at g2 g4
      rw [Nat.mul_comm 2 k] at g1 g2 g3 g4
      clear hcx hcy Hx Hy
      have i1 : (k : Int) < (bs.length : Int) := by omega
      have e1 : ((x1 : Int) == (x1 : Int)) = true := by simp
      have e2 : ((x2 : Int) == (x2 : Int)) = true := by simp
      go_wp2
      go_quiet (fail)
      go_wp2
      go_roundw
      case rel => exact ⟨k + 1, by omega, by go_num, _, rfl⟩
      case measure => simp [intOf]; omega
    · obtain rfl : k = bs.length := by omega
      go_wp2
      go_ret
      exact ⟨rfl, below_drewN (Below.refl _ _) _⟩

theorem sts_blk {w : World} {a : Option Addr} {bs : List (Nat × Nat)} (h : Sts 2 BC Tr w a bs) (hv : small2 bs) : Blk w a bs := by
  refine ⟨hv, ?_⟩
  rcases h.2 with h0 | ⟨b, off, rfl, hb, hc⟩
  · exact .inl h0
  · refine .inr ⟨b, off, rfl, hb, fun i hi => ?_⟩
    have h1 := hc i bs[i] (List.getElem?_eq_getElem hi)
    have h2 : bs.getD i (0, 0) = bs[i] := by rw [List.getD_eq_getElem?_getD, List.getElem?_eq_getElem hi]; rfl
    rw [h2, Nat.mul_comm 2 i]
    exact ⟨h1 0 _ rfl, h1 1 _ rfl⟩
set_option maxRecDepth 100000 in
set_option maxHeartbeats 1000000 in
theorem same_any (u x h : Nat) (a b : Option Addr) (l : List (Nat × Nat)) (c d : Nat) (w : World) (ha : Sts 2 BC Tr w a l) (hb : Sts 2 BC Tr w b l) (hv : small2 l) (hl : l.length ≤ 17592186044416) :
    Calls Try.prog 25 #[.agg #[.int .u32 (u : Nat), .int .u32 (x : Nat), .int .u32 (h : Nat), .slice a l.length c], .agg #[.int .u32 (u : Nat), .int .u32 (x : Nat), .int .u32 (h : Nat), .slice b l.length d]] w fun e w' => e = .returned (.bool true) ∧ Below w.heap.size w w' := by
  have HA := Lib.hid (sts_blk ha hv)
  have HB := Lib.hid (sts_blk hb hv)
  clear ha hb hv
  go_enter Try.func25, Try.ntmps25
  go_upto_region 1 with fail
  obtain ⟨x1, x2, x3, x4⟩ := two_b w (.cells #[.int .u32 (u : Nat), .int .u32 (x : Nat), .int .u32 (h : Nat), .slice a l.length c] 26) (.cells #[.int .u32 (u : Nat), .int .u32 (x : Nat), .int .u32 (h : Nat), .slice b l.length d] 25)
  have S0 := Lib.hid x1
  have Z0 := Lib.hid x2
  have Q0 := Lib.hid x4
  clear x1 x2 x3 x4
  generalize (w.alloc (.cells #[.int .u32 (u : Nat), .int .u32 (x : Nat), .int .u32 (h : Nat), .slice a l.length c] 26)).alloc (.cells #[.int .u32 (u : Nat), .int .u32 (x : Nat), .int .u32 (h : Nat), .slice b l.length d] 25) = V0 at S0 Z0 Q0 ⊢
  have c0 := blk_cell S0.out 0
  have c1 := blk_cell S0.out 1
  have c2 := blk_cell S0.out 2
  have c3 := blk_cell S0.out 3
  have z0 := blk_cell Z0.out 0
  have z1 := blk_cell Z0.out 1
  have z2 := blk_cell Z0.out 2
  have z3 := blk_cell Z0.out 3
  go_wp2_with fail
  refine (sameBlocks_one a b l l c d V0 (HA.out.below Q0.out) (HB.out.below Q0.out) hl hl rfl).mono ?_
  rintro e V1 ⟨rfl, hB⟩
  have Q1 := Lib.hid (Q0.out.trans (hB.mono Q0.out.size))
  clear hB
  go_wp2
  go_ret
  exact ⟨rfl, Q1.out⟩
end Go.Proofs.Ytcachmjcninkbaa
