/- Two lists of blocks that are one are told to be one (over OwnR's blocks). -/
import Derived.Test.YtknebjfdggimcaaRvT
import Derived.Test.YtknebjfdggimcaaGBlkA
namespace Go.Proofs.Ytknebjfdggimcaa
open Go.RowKit

set_option maxHeartbeats 1000000 in
theorem sameBlocks_one (a c : Option Addr) (bs cs : List (Nat × Nat)) (cap dap : Nat) (w : World) (hx : Blk w a bs) (hy : Blk w c cs) (hl : bs.length ≤ 17592186044416) (_ : cs.length ≤ 17592186044416) (he : bs = cs) :
    Calls Try.prog 23 #[.slice a bs.length cap, .slice c cs.length dap] w fun e w' => e = .returned (.bool true) ∧ Below w.heap.size w w' := by
  subst he
  have Hx := Lib.hid hx; clear hx
  have Hy := Lib.hid hy; clear hy
  have hl1 : ((bs.length : Int) != (bs.length : Int)) = false := by simp
  go_enter Try.func23, Try.ntmps23
  go_wp2
  go_loopw [5] (fun i wr => ∃ k : Nat, k ≤ bs.length ∧ i = .int .i64 k ∧ ∃ q, wr = w.drewN q) (fun i _ => bs.length - (intOf i).toNat)
  case atStart => exact ⟨0, by omega, rfl, 0, rfl⟩
  case round =>
    obtain ⟨k, hk, rfl, q, rfl⟩ := hrel
    by_cases hlt : k < bs.length
    · obtain ⟨b, off, rfl, hb, hcx⟩ : ∃ b off, a = some ⟨b, off, none⟩ ∧ b < w.heap.size ∧ ∀ i, i < bs.length → w.cell? ⟨b, off + 2 * i, none⟩ = some (.int .u32 ((bs.getD i (0, 0)).1 : Nat)) ∧ w.cell? ⟨b, off + 2 * i + 1, none⟩ = some (.int .u32 ((bs.getD i (0, 0)).2 : Nat)) := by
        rcases Hx.out.2 with h | h
        · subst h; simp at hlt
        · exact h
      obtain ⟨b2, off2, rfl, hb2, hcy⟩ : ∃ b off, c = some ⟨b, off, none⟩ ∧ b < w.heap.size ∧ ∀ i, i < bs.length → w.cell? ⟨b, off + 2 * i, none⟩ = some (.int .u32 ((bs.getD i (0, 0)).1 : Nat)) ∧ w.cell? ⟨b, off + 2 * i + 1, none⟩ = some (.int .u32 ((bs.getD i (0, 0)).2 : Nat)) := by
        rcases Hy.out.2 with h | h
        · subst h; simp at hlt
        · exact h
      obtain ⟨g1, g2⟩ := hcx k hlt
      obtain ⟨g3, g4⟩ := hcy k hlt
      generalize (bs.getD k (0, 0)).1 = x1 at g1 g3
      generalize (bs.getD k (0, 0)).2 = x2 at g2 g4
      rw [Nat.mul_comm 2 k] at g1 g2 g3 g4
      clear hcx hcy Hx Hy
      have i1 : (k : Int) < (bs.length : Int) := by omega
      have e1 : ((x1 : Int) == (x1 : Int)) = true := by simp
      have e2 : ((x2 : Int) == (x2 : Int)) = true := by simp
      go_wp2
      go_quiet (fail)
      go_wp2
      go_roundw
      case rel => exact ⟨k + 1, by omega, by go_num, _, rfl⟩
      case measure => simp [intOf]; omega
    · obtain rfl : k = bs.length := by omega
      go_wp2
      go_ret
      exact ⟨rfl, below_drewN (Below.refl _ _) _⟩

def small2 (l : List (Nat × Nat)) : Prop := ∀ x ∈ l, x.1 < 4294967296 ∧ x.2 < 4294967296
theorem sts_blk {w : World} {a : Option Addr} {bs : List (Nat × Nat)} (h : Sts 2 BC Tr w a bs) (hv : small2 bs) : Blk w a bs := by
  refine ⟨hv, ?_⟩
  rcases h.2 with h0 | ⟨b, off, rfl, hb, hc⟩
  · exact .inl h0
  · refine .inr ⟨b, off, rfl, hb, fun i hi => ?_⟩
    have h1 := hc i bs[i] (List.getElem?_eq_getElem hi)
    have h2 : bs.getD i (0, 0) = bs[i] := by rw [List.getD_eq_getElem?_getD, List.getElem?_eq_getElem hi]; rfl
    rw [h2, Nat.mul_comm 2 i]
    exact ⟨h1 0 _ rfl, h1 1 _ rfl⟩
end Go.Proofs.Ytknebjfdggimcaa
