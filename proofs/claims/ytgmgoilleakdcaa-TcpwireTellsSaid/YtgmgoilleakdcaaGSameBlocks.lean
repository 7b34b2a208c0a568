/- Two lists of blocks that are one are told to be one; a copy. -/
import Derived.Test.YtgmgoilleakdcaaGBlocks
import Derived.Test.YtgmgoilleakdcaaGPlain
namespace Go.Proofs.Ytgmgoilleakdcaa
open Go.RowKit

set_option maxHeartbeats 1000000 in
theorem sameBlocks_one (a c : Option Addr) (bs cs : List (Nat × Nat)) (cap dap : Nat) (w : World) (hx : Blk w a bs) (hy : Blk w c cs) (hl : bs.length ≤ 17592186044416) (_ : cs.length ≤ 17592186044416) (he : bs = cs) :
    Calls Try.prog 37 #[.slice a bs.length cap, .slice c cs.length dap] w fun e w' => e = .returned (.bool true) ∧ Below w.heap.size w w' := by
  subst he
  have Hx := Lib.hid hx; clear hx
  have Hy := Lib.hid hy; clear hy
  have hl1 : ((bs.length : Int) != (bs.length : Int)) = false := by simp
  go_enter Try.func37, Try.ntmps37
  go_wp2
  go_loopw [5] (fun i wr => ∃ k : Nat, k ≤ bs.length ∧ i = .int .i64 k ∧ ∃ q, wr = w.drewN q) (fun i _ => bs.length - (intOf i).toNat)
  case atStart => exact ⟨0, by omega, rfl, 0, rfl⟩
  case round =>
    obtain ⟨k, hk, rfl, q, rfl⟩ := hrel
    by_cases hlt : k < bs.length
    · obtain ⟨b, off, rfl, hb, hcx⟩ : ∃ b off, a = some ⟨b, off, none⟩ ∧ b < w.heap.size ∧ ∀ i, i < bs.length → w.cell? ⟨b, off + 2 * i, none⟩ = some (.int .u32 ((bs.getD i (0, 0)).1 : Nat)) ∧ w.cell? ⟨b, off + 2 * i + 1, none⟩ = some (.int .u32 ((bs.getD i (0, 0)).2 : Nat)) := by
        rcases Hx.out.2 with h | h
        · subst h; simp at hlt
        · exact h
      obtain ⟨b2, off2, rfl, hb2, hcy⟩ : ∃ b off, c = some ⟨b, off, none⟩ ∧ b < w.heap.size ∧ ∀ i, i < bs.length → w.cell? ⟨b, off + 2 * i, none⟩ = some (.int .u32 ((bs.getD i (0, 0)).1 : Nat)) ∧ w.cell? ⟨b, off + 2 * i + 1, none⟩ = some (.int .u32 ((bs.getD i (0, 0)).2 : Nat)) := by
        rcases Hy.out.2 with h | h
        · subst h; simp at hlt
        · exact h
      obtain ⟨g1, g2⟩ := hcx k hlt
      obtain ⟨g3, g4⟩ := hcy k hlt
      generalize (bs.getD k (0, 0)).1 = x1 at g1 g3
      generalize (bs.getD k (0, 0)).2 = x2 at g2 g4
      rw [Nat.mul_comm 2 k] at g1 g2 g3 g4
      clear hcx hcy Hx Hy
      have i1 : (k : Int) < (bs.length : Int) := by omega
      have e1 : ((x1 : Int) == (x1 : Int)) = true := by simp
      have e2 : ((x2 : Int) == (x2 : Int)) = true := by simp
      go_wp2
      go_quiet (fail)
      go_wp2
      go_roundw
      case rel => exact ⟨k + 1, by omega, by go_num, _, rfl⟩
      case measure => simp [intOf]; omega
    · obtain rfl : k = bs.length := by omega
      go_wp2
      go_ret
      exact ⟨rfl, below_drewN (Below.refl _ _) _⟩

/-- What blocks lie as. -/
def blkCells (bs : List (Nat × Nat)) : List Value := bs.flatMap fun p => [.int .u32 (p.1 : Nat), .int .u32 (p.2 : Nat)]

theorem blkCells_length (bs : List (Nat × Nat)) : (blkCells bs).length = bs.length * 2 := by
  induction bs with
  | nil => rfl
  | cons p bs ih => unfold blkCells at ih ⊢; rw [List.flatMap_cons, List.length_append, ih, List.length_cons, List.length_cons, List.length_cons]; simp; omega

theorem blkCells_get : ∀ (bs : List (Nat × Nat)) (i : Nat), i < bs.length → (blkCells bs)[2 * i]? = some (.int .u32 ((bs.getD i (0, 0)).1 : Nat)) ∧ (blkCells bs)[2 * i + 1]? = some (.int .u32 ((bs.getD i (0, 0)).2 : Nat))
  | [], i, h => by simp at h
  | p :: bs, 0, _ => ⟨rfl, rfl⟩
  | p :: bs, i + 1, h => by
    have ih := blkCells_get bs i (by simpa using h)
    rw [show 2 * (i + 1) = 2 * i + 1 + 1 by omega, show 2 * i + 1 + 1 + 1 = (2 * i + 1) + 1 + 1 by omega]
    exact ih

theorem info84 : (Try.prog.info? 68).map (fun i => (i.zero, i.size, i.bytes)) = some (some (.agg #[.int .u32 0, .int .u32 0]), 2, 8) := by kernel_rfl

theorem Blk.src {w : World} {ad : Addr} {bs : List (Nat × Nat)} (h : Blk w (some ad) bs) : ∀ j u, (blkCells bs)[j]? = some u → w.cell? (ad.add j) = some u := by
  intro j u hj
  rcases h.2 with h | ⟨b, off, h, hb, hc⟩
  · subst h; simp [blkCells] at hj
  · cases h
    have hjl : j < bs.length * 2 := by rw [← blkCells_length]; exact (List.getElem?_eq_some_iff.1 hj).1
    rw [Go.WideShapes.add_plain, ← hj]
    have hg := blkCells_get bs (j / 2) (by omega)
    have hc2 := hc (j / 2) (by omega)
    rcases Nat.mod_two_eq_zero_or_one j with hm | hm
    · have e : 2 * (j / 2) = j := by omega
      rw [e] at hg hc2
      rw [hg.1, hc2.1]
    · have e : 2 * (j / 2) + 1 = j := by omega
      have e2 : off + 2 * (j / 2) + 1 = off + j := by omega
      rw [e] at hg
      rw [e2] at hc2
      rw [hg.2, hc2.2]

/-- Blocks in a row of one's own, or none. -/
def OwnBlk (B : Nat) (w : World) (a : Option Addr) (bs : List (Nat × Nat)) (cap : Nat) : Prop := Blk w a bs ∧ ((a = none ∧ cap = 0) ∨ ∃ g, a = some ⟨g, 0, none⟩ ∧ B ≤ g)

theorem OwnBlk.below {B cap : Nat} {w w' : World} {a : Option Addr} {bs : List (Nat × Nat)} (h : OwnBlk B w a bs cap) (hb : Below w.heap.size w w') : OwnBlk B w' a bs cap := ⟨h.1.below hb, h.2⟩
theorem OwnBlk.mono {B B' cap : Nat} {w : World} {a : Option Addr} {bs : List (Nat × Nat)} (h : OwnBlk B w a bs cap) (hb : B' ≤ B) : OwnBlk B' w a bs cap := ⟨h.1, h.2.imp id fun ⟨g, e, hg⟩ => ⟨g, e, Nat.le_trans hb hg⟩⟩
theorem OwnBlk.nilcap {B cap : Nat} {w : World} {a : Option Addr} {bs : List (Nat × Nat)} (h : OwnBlk B w a bs cap) : a = none → cap = 0 := fun e => by
  rcases h.2 with h | ⟨g, h, _⟩
  · exact h.2
  · rw [h] at e; cases e
theorem OwnBlk.setOther {B cap g i : Nat} {w : World} {a : Option Addr} {bs : List (Nat × Nat)} {v : Value} (h : OwnBlk B w a bs cap) (hlt : g < B) : OwnBlk B (w.setCell ⟨g, i, none⟩ v) a bs cap := by
  refine ⟨⟨h.1.1, ?_⟩, h.2⟩
  rcases h.1.2 with h0 | ⟨b, off, ha, hb, hc⟩
  · exact .inl h0
  · right
    have hne : b ≠ g := by
      rcases h.2 with ⟨h2, _⟩ | ⟨g', h2, hg⟩
      · rw [ha] at h2; cases h2
      · rw [ha] at h2; cases h2; omega
    have hk : (w.setCell ⟨g, i, none⟩ v).heap[b]? = w.heap[b]? := Below.heap_setCell _ _ _ _ hne
    exact ⟨b, off, ha, by simpa using hb, fun j hj => ⟨(World.cell?_of_block hk).trans (hc j hj).1, (World.cell?_of_block hk).trans (hc j hj).2⟩⟩

set_option maxHeartbeats 400000 in
theorem copyBlocks_one (a : Option Addr) (bs : List (Nat × Nat)) (cap : Nat) (w : World) (hx : Blk w a bs) (hl : bs.length ≤ 17592186044416) (hn : a = none → cap = 0) :
    Calls Try.prog 23 #[.slice a bs.length cap] w fun e w' => ∃ a' cap', e = .returned (.slice a' bs.length cap') ∧ OwnBlk w.heap.size w' a' bs cap' ∧ Below w.heap.size w w' := by
  obtain ⟨i0, hi, hz0, hz1, hz2⟩ := info_parts info84
  go_enter Try.func23, Try.ntmps23
  cases a with
  | none =>
    obtain rfl : bs = [] := by
      rcases hx.2 with h | ⟨b, off, h, _⟩
      · exact h
      · cases h
    obtain rfl := hn rfl
    go_wp2
    go_ret
    exact ⟨none, 0, rfl, ⟨⟨hx.1, .inl rfl⟩, .inl ⟨rfl, rfl⟩⟩, Below.refl _ _⟩
  | some ad =>
    have Hc := Lib.hid hx.src
    have Hx := Lib.hid hx.1
    clear hx
    go_wp2_with (at_builtin; refine wpList_append_own _ rfl _ _ 24 rfl w.heap.size 68 i0 (.agg #[.int .u32 0, .int .u32 0]) 2 8 Try.underlying24 hi hz0 hz1 hz2 rfl (by decide) _ _ _ rfl (World.ownsRow_nil _ _ _ _) ad bs.length cap (blkCells bs) rfl (blkCells_length bs) Hc.out (by intro u hu; unfold blkCells at hu; obtain ⟨p, _, hp⟩ := List.mem_flatMap.1 hu; simp at hp; rcases hp with rfl | rfl <;> rfl) (by unfold maxLen; omega) (by omega) (Nat.le_refl _) ?_; intro v' w1 hown hgrow _)
    go_ret
    have hb : Below w.heap.size w w1 := (Below.refl _ _).grown hgrow (Nat.le_refl _) (fun k e => by cases e)
    rw [List.nil_append, Nat.zero_add] at hown
    rcases hown.2 with ⟨rfl, h0⟩ | ⟨g, cap', cur, rfl, hB, h2⟩
    · obtain rfl : bs = [] := List.eq_nil_of_length_eq_zero h0
      exact ⟨none, 0, rfl, ⟨⟨Hx.out, .inl rfl⟩, .inl ⟨rfl, rfl⟩⟩, hb⟩
    · refine ⟨some ⟨g, 0, none⟩, cap', rfl, ⟨⟨Hx.out, .inr ⟨g, 0, rfl, (hown.lt g rfl).2, fun i hi => ?_⟩⟩, .inr ⟨g, rfl, hB⟩⟩, hb⟩
      have hg := blkCells_get bs i hi
      rw [Nat.zero_add, hown.cellAt (2 * i) (by omega), hown.cellAt (2 * i + 1) (by omega)]
      exact hg
end Go.Proofs.Ytgmgoilleakdcaa
