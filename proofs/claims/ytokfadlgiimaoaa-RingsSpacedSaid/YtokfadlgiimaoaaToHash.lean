/- Toeplitz's hash: a key's words, 32 bits from any place on, and the hash of octets. -/
import Derived.Test.YtokfadlgiimaoaaGPut
import Derived.Test.YtokfadlgiimaoaaToMath
import Derived.WalkSpells
import Derived.WalkLawsBesides
import Derived.PlainAid
import Derived.WalkSmall
import Derived.LoopN
namespace Go.Proofs.Ytokfadlgiimaoaa
open Go.RowKit

/-- A key's words. -/
def toW (ks : List Nat) : Array Value := #[.int .u32 (tw ks 0 32 : Nat), .int .u32 (tw ks 32 32 : Nat), .int .u32 (tw ks 64 32 : Nat), .int .u32 (tw ks 96 32 : Nat), .int .u32 (tw ks 128 32 : Nat), .int .u32 (tw ks 160 32 : Nat), .int .u32 (tw ks 192 32 : Nat), .int .u32 (tw ks 224 32 : Nat), .int .u32 (tw ks 256 32 : Nat), .int .u32 (tw ks 288 32 : Nat)]

theorem toW_get (ks : List Nat) (i : Nat) (hi : i < 10) : (toW ks)[i]? = some (.int .u32 (tw ks (32 * i) 32 : Nat)) := by
  obtain rfl | rfl | rfl | rfl | rfl | rfl | rfl | rfl | rfl | rfl : i = 0 ∨ i = 1 ∨ i = 2 ∨ i = 3 ∨ i = 4 ∨ i = 5 ∨ i = 6 ∨ i = 7 ∨ i = 8 ∨ i = 9 := by omega
  all_goals rfl

theorem u32_or (x y : Nat) (hx : x < 4294967296) (hy : y < 4294967296) : bits .or .u32 (x : Int) (y : Int) = ((x ||| y : Nat) : Int) := u32_or_nat x y hx hy

set_option maxRecDepth 100000 in
set_option maxHeartbeats 1000000 in
theorem from_any (ks : List Nat) (p : Nat) (hp : p < 288) (w : World) :
    Calls Try.prog 63 #[.agg (toW ks), .int .i64 p] w fun e w' => e = .returned (.int .u32 (tw ks p 32 : Nat)) ∧ Below w.heap.size w w' := by
  obtain ⟨i, hi⟩ : ∃ i, p / 32 = i := ⟨_, rfl⟩
  obtain ⟨s, hs⟩ : ∃ s, p % 32 = s := ⟨_, rfl⟩
  have hi9 : i < 9 := by omega
  have hs32 : s < 32 := by omega
  have hd : (p : Int) / 32 = (i : Int) := by omega
  have hm : (p : Int) % 32 = (s : Int) := by omega
  have c1 : (w.alloc (.cells (toW ks) 100)).cell? ⟨w.heap.size, i, none⟩ = some (.int .u32 (tw ks (32 * i) 32 : Nat)) := by rw [World.cell?_alloc_new]; exact toW_get ks i (by omega)
  have c2 : (w.alloc (.cells (toW ks) 100)).cell? ⟨w.heap.size, i + 1, none⟩ = some (.int .u32 (tw ks (32 * (i + 1)) 32 : Nat)) := by rw [World.cell?_alloc_new]; exact toW_get ks (i + 1) (by omega)
  have b := (Below.refl w.heap.size w).alloc (Nat.le_refl _) (.cells (toW ks) 100)
  have key := tw_two ks i s hs32
  rw [show 32 * i + s = p by omega] at key
  have lA := tw_lt ks (32 * i) 32
  have lB := tw_lt ks (32 * (i + 1)) 32
  go_enter Try.func63, Try.ntmps63
  go_wp2_with fail
  generalize w.alloc (.cells (toW ks) 100) = W at c1 c2 b ⊢
  generalize tw ks (32 * i) 32 = A at c1 key lA
  generalize tw ks (32 * (i + 1)) 32 = B at c2 key lB
  have e1 : (A : Int) * 2 ^ s % 4294967296 = ((A * 2 ^ s % 2 ^ 32 : Nat) : Int) := by simp
  have e2 : (B : Int) / 2 ^ (32 - s) = ((B / 2 ^ (32 - s) : Nat) : Int) := by simp
  have lC : A * 2 ^ s % 2 ^ 32 < 4294967296 := Nat.mod_lt _ (by decide)
  have lD : B / 2 ^ (32 - s) < 4294967296 := Nat.lt_of_le_of_lt (Nat.div_le_self _ _) lB
  have e3 := u32_or _ _ lC lD
  rw [key] at e3
  generalize A * 2 ^ s % 2 ^ 32 = C at e1 e3
  generalize B / 2 ^ (32 - s) = D at e2 e3
  clear key lA lB lC lD hi hs hp
  have n1 : ¬ ((s : Int) < 0) := by omega
  have n2 : ¬ (32 - (s : Int) < 0) := by omega
  simp only [hm]
  go_quiet (fail)
  go_wp2
  go_ret
  exact ⟨rfl, below_drewN b _⟩

/-- The words of the first k places, zeros behind. -/
def toWk (ks : List Nat) (k : Nat) : List Value := (List.range 10).map fun j => .int .u32 ((if j < k then tw ks (32 * j) 32 else 0 : Nat) : Int)

theorem toWk_set (ks : List Nat) (k : Nat) (hk : k < 10) : (toWk ks k).set k (.int .u32 (tw ks (32 * k) 32 : Nat)) = toWk ks (k + 1) := by
  apply List.ext_getElem
  · simp [toWk]
  · intro i h1 h2
    rw [List.getElem_set]
    simp only [toWk, List.getElem_map, List.getElem_range]
    split
    · subst k; rw [if_pos (by omega)]
    · by_cases h : i < k
      · rw [if_pos h, if_pos (by omega)]
      · rw [if_neg h, if_neg (by omega)]

theorem blk_word {W : World} {g : Nat} {ks : List Nat} {t : TypeId} (k : Nat) (h : W.heap[g]? = some (.cells (toWk ks k).toArray t (0, 0))) (hk : k < 10) :
    (W.setCell ⟨g, k, none⟩ (.int .u32 (tw ks (32 * k) 32 : Nat))).heap[g]? = some (.cells (toWk ks (k + 1)).toArray t (0, 0)) := by
  rw [blk_set h k]
  rw [← toWk_set ks k hk]
  simp

theorem toWk_all (ks : List Nat) : (toWk ks 10).toArray = toW ks := rfl

set_option maxRecDepth 100000 in
set_option maxHeartbeats 1000000 in
theorem wordsOf_any (b off cap : Nat) (ks : List Nat) (w : World) (hx : Bts w (some ⟨b, off, none⟩) ks) (hl : ks.length = 40) (hc : 40 ≤ cap) (hm : cap ≤ 9223372036854775807) :
    Calls Try.prog 56 #[.slice (some ⟨b, off, none⟩) 40 cap] w fun e w' => e = .returned (.agg (toW ks)) ∧ Below w.heap.size w w' := by
  have g : ∀ k c W, k < 10 → Below w.heap.size w W → Calls Try.prog 41 #[.slice (some ⟨b, off + k * 4, none⟩) 4 c] W fun e w' => e = .returned (.tuple #[.int .u64 (tw ks (32 * k) 32 : Nat), .int .i64 0]) ∧ W = w' := fun k c W hk hb => by
    have hs : seg ks (k * 4) 4 = [ks.getD (4 * k) 0, ks.getD (4 * k + 1) 0, ks.getD (4 * k + 2) 0, ks.getD (4 * k + 3) 0] := by
      rw [Nat.mul_comm k 4]; exact seg4 ks (4 * k) (by omega)
    have h1 := get_ok (some ⟨b, off + k * 4, none⟩) (seg ks (k * 4) 4) c W ((hx.below hb).segOf (k * 4) 4 (by omega)) (by rw [hs]; simp) (by rw [hs]; simp)
    rw [seg_length _ _ _ (by omega), hs, tw_word ks hx.1 k (by omega)] at h1
    exact h1
  have G := Lib.hid g
  clear hx g
  have b1 := ((Below.refl w.heap.size w).alloc (Nat.le_refl _) (.cells (toWk ks 0).toArray 100)).alloc (by simp) (.cells (toWk ks 0).toArray 100)
  have k0 := blk_new (w.alloc (.cells (toWk ks 0).toArray 100)) (.cells (toWk ks 0).toArray 100)
  have s0 : w.heap.size + 1 < ((w.alloc (.cells (toWk ks 0).toArray 100)).alloc (.cells (toWk ks 0).toArray 100)).heap.size := by simp
  have k1 := (Below.heap_alloc (w.alloc (.cells (toWk ks 0).toArray 100)) (.cells (toWk ks 0).toArray 100) w.heap.size (by simp)).trans (blk_new w (.cells (toWk ks 0).toArray 100))
  rw [World.size_alloc] at k0
  go_enter Try.func56, Try.ntmps56
  go_wp2_with fail
  have hz : (#[Value.int IntKind.u32 0, Value.int IntKind.u32 0, Value.int IntKind.u32 0, Value.int IntKind.u32 0, Value.int IntKind.u32 0, Value.int IntKind.u32 0, Value.int IntKind.u32 0, Value.int IntKind.u32 0, Value.int IntKind.u32 0, Value.int IntKind.u32 0] : Array Value) = (toWk ks 0).toArray := rfl
  rw [hz]
  generalize (w.alloc (.cells (toWk ks 0).toArray 100)).alloc (.cells (toWk ks 0).toArray 100) = W0 at b1 k0 k1 s0 ⊢
  go_loopw [7, 4, 5, 6] (fun c _ _ _ wr => ∃ k : Nat, k ≤ 10 ∧ c = .int .i64 k ∧ wr.heap[w.heap.size + 1]? = some (.cells (toWk ks k).toArray 100 (0, 0)) ∧ wr.heap[w.heap.size]? = some (.cells (toWk ks 0).toArray 100 (0, 0)) ∧ w.heap.size + 1 < wr.heap.size ∧ Below w.heap.size w wr) (fun c _ _ _ _ => 10 - (intOf c).toNat)
  case atStart => exact ⟨0, by omega, rfl, k0, k1, s0, b1⟩
  case round =>
    obtain ⟨k, hk, rfl, kB, kA, hs, hb⟩ := hrel
    have KB := Lib.hid kB
    have KA := Lib.hid kA
    clear kA kB k0 k1 s0 b1
    by_cases hlt : k < 10
    · have hG := fun c => G.out k c wr hlt hb
      have hcB : wr.cell? ⟨w.heap.size + 1, k, none⟩ = some (.int .u32 0) := by
        rw [blk_cell KB.out k]
        simp [toWk, hlt]
      have hfB := blk_free KB.out k
      have hset := blk_set KB.out k (.int .u32 (tw ks (32 * k) 32 : Nat))
      have hoth := blk_other KA.out (g' := w.heap.size + 1) (i := k) (by omega) (.int .u32 (tw ks (32 * k) 32 : Nat))
      have hbs := hb.setCell (p := ⟨w.heap.size + 1, k, none⟩) (Nat.le_succ _) (.int .u32 (tw ks (32 * k) 32 : Nat))
      have hsz : (wr.setCell ⟨w.heap.size + 1, k, none⟩ (.int .u32 (tw ks (32 * k) 32 : Nat))).heap.size = wr.heap.size := by simp
      have e : ((toWk ks k).toArray.setIfInBounds k (.int .u32 (tw ks (32 * k) 32 : Nat))) = (toWk ks (k + 1)).toArray := by
        rw [← toWk_set ks k hlt]; simp
      rw [e] at hset
      have hwr : IntKind.u32.wrap ((tw ks (32 * k) 32 : Nat) : Int) = ((tw ks (32 * k) 32 : Nat) : Int) := by
        rw [IntKind.wrap_u32]; have := tw_lt ks (32 * k) 32; omega
      have HG := Lib.hid hG
      have HS := Lib.hid hset
      have HT := Lib.hid hoth
      clear hG hset hoth e G KA KB
      generalize tw ks (32 * k) 32 = v at hwr HG HS HT hbs hsz
      have e4 : (k + 1) * 4 - k * 4 = 4 := by omega
      go_wp2_with fail
      rw [e4]
      refine (HG.out _).mono ?_
      rintro e w' ⟨rfl, rfl⟩
      go_wp2
      go_roundw
      case rel => exact ⟨k + 1, by omega, by go_num, HS.out, HT.out, by rw [hsz]; exact hs, hbs⟩
      case measure => simp [intOf]; omega
    · obtain rfl : k = 10 := by omega
      have hA := KA.out
      have hB := KB.out
      rw [toWk_all] at hB
      have cB0 : wr.cell? ⟨w.heap.size + 1, 0, none⟩ = some (.int .u32 (tw ks 0 32 : Nat)) := by rw [blk_cell hB 0]; rfl
      have cA0 : wr.cell? ⟨w.heap.size, 0, none⟩ = some (.int .u32 0) := by rw [blk_cell hA 0]; rfl
      have fA0 := blk_free hA 0
      have cB1 : wr.cell? ⟨w.heap.size + 1, 1, none⟩ = some (.int .u32 (tw ks 32 32 : Nat)) := by rw [blk_cell hB 1]; rfl
      have cA1 : wr.cell? ⟨w.heap.size, 1, none⟩ = some (.int .u32 0) := by rw [blk_cell hA 1]; rfl
      have fA1 := blk_free hA 1
      have cB2 : wr.cell? ⟨w.heap.size + 1, 2, none⟩ = some (.int .u32 (tw ks 64 32 : Nat)) := by rw [blk_cell hB 2]; rfl
      have cA2 : wr.cell? ⟨w.heap.size, 2, none⟩ = some (.int .u32 0) := by rw [blk_cell hA 2]; rfl
      have fA2 := blk_free hA 2
      have cB3 : wr.cell? ⟨w.heap.size + 1, 3, none⟩ = some (.int .u32 (tw ks 96 32 : Nat)) := by rw [blk_cell hB 3]; rfl
      have cA3 : wr.cell? ⟨w.heap.size, 3, none⟩ = some (.int .u32 0) := by rw [blk_cell hA 3]; rfl
      have fA3 := blk_free hA 3
      have cB4 : wr.cell? ⟨w.heap.size + 1, 4, none⟩ = some (.int .u32 (tw ks 128 32 : Nat)) := by rw [blk_cell hB 4]; rfl
      have cA4 : wr.cell? ⟨w.heap.size, 4, none⟩ = some (.int .u32 0) := by rw [blk_cell hA 4]; rfl
      have fA4 := blk_free hA 4
      have cB5 : wr.cell? ⟨w.heap.size + 1, 5, none⟩ = some (.int .u32 (tw ks 160 32 : Nat)) := by rw [blk_cell hB 5]; rfl
      have cA5 : wr.cell? ⟨w.heap.size, 5, none⟩ = some (.int .u32 0) := by rw [blk_cell hA 5]; rfl
      have fA5 := blk_free hA 5
      have cB6 : wr.cell? ⟨w.heap.size + 1, 6, none⟩ = some (.int .u32 (tw ks 192 32 : Nat)) := by rw [blk_cell hB 6]; rfl
      have cA6 : wr.cell? ⟨w.heap.size, 6, none⟩ = some (.int .u32 0) := by rw [blk_cell hA 6]; rfl
      have fA6 := blk_free hA 6
      have cB7 : wr.cell? ⟨w.heap.size + 1, 7, none⟩ = some (.int .u32 (tw ks 224 32 : Nat)) := by rw [blk_cell hB 7]; rfl
      have cA7 : wr.cell? ⟨w.heap.size, 7, none⟩ = some (.int .u32 0) := by rw [blk_cell hA 7]; rfl
      have fA7 := blk_free hA 7
      have cB8 : wr.cell? ⟨w.heap.size + 1, 8, none⟩ = some (.int .u32 (tw ks 256 32 : Nat)) := by rw [blk_cell hB 8]; rfl
      have cA8 : wr.cell? ⟨w.heap.size, 8, none⟩ = some (.int .u32 0) := by rw [blk_cell hA 8]; rfl
      have fA8 := blk_free hA 8
      have cB9 : wr.cell? ⟨w.heap.size + 1, 9, none⟩ = some (.int .u32 (tw ks 288 32 : Nat)) := by rw [blk_cell hB 9]; rfl
      have cA9 : wr.cell? ⟨w.heap.size, 9, none⟩ = some (.int .u32 0) := by rw [blk_cell hA 9]; rfl
      have fA9 := blk_free hA 9
      have hb9 := Lib.hid (((((((((((hb).setCell (p := ⟨w.heap.size, 0, none⟩) (Nat.le_refl _) (.int .u32 (tw ks 0 32 : Nat))).setCell (p := ⟨w.heap.size, 1, none⟩) (Nat.le_refl _) (.int .u32 (tw ks 32 32 : Nat))).setCell (p := ⟨w.heap.size, 2, none⟩) (Nat.le_refl _) (.int .u32 (tw ks 64 32 : Nat))).setCell (p := ⟨w.heap.size, 3, none⟩) (Nat.le_refl _) (.int .u32 (tw ks 96 32 : Nat))).setCell (p := ⟨w.heap.size, 4, none⟩) (Nat.le_refl _) (.int .u32 (tw ks 128 32 : Nat))).setCell (p := ⟨w.heap.size, 5, none⟩) (Nat.le_refl _) (.int .u32 (tw ks 160 32 : Nat))).setCell (p := ⟨w.heap.size, 6, none⟩) (Nat.le_refl _) (.int .u32 (tw ks 192 32 : Nat))).setCell (p := ⟨w.heap.size, 7, none⟩) (Nat.le_refl _) (.int .u32 (tw ks 224 32 : Nat))).setCell (p := ⟨w.heap.size, 8, none⟩) (Nat.le_refl _) (.int .u32 (tw ks 256 32 : Nat))).setCell (p := ⟨w.heap.size, 9, none⟩) (Nat.le_refl _) (.int .u32 (tw ks 288 32 : Nat)))
      have s1 := blk_word 0 hA (by omega)
      have s2 := blk_word 1 s1 (by omega)
      have s3 := blk_word 2 s2 (by omega)
      have s4 := blk_word 3 s3 (by omega)
      have s5 := blk_word 4 s4 (by omega)
      have s6 := blk_word 5 s5 (by omega)
      have s7 := blk_word 6 s6 (by omega)
      have s8 := blk_word 7 s7 (by omega)
      have s9 := blk_word 8 s8 (by omega)
      have s10 := blk_word 9 s9 (by omega)
      simp only [Nat.reduceMul, Nat.reduceAdd] at s10
      rw [toWk_all] at s10
      have hA9 := Lib.hid s10
      clear s1 s2 s3 s4 s5 s6 s7 s8 s9 s10
      clear hA hB KA KB hb G hz
      go_wp2_with fail
      generalize ((((((((((wr.setCell ⟨w.heap.size, 0, none⟩ (.int .u32 (tw ks 0 32 : Nat))).setCell ⟨w.heap.size, 1, none⟩ (.int .u32 (tw ks 32 32 : Nat))).setCell ⟨w.heap.size, 2, none⟩ (.int .u32 (tw ks 64 32 : Nat))).setCell ⟨w.heap.size, 3, none⟩ (.int .u32 (tw ks 96 32 : Nat))).setCell ⟨w.heap.size, 4, none⟩ (.int .u32 (tw ks 128 32 : Nat))).setCell ⟨w.heap.size, 5, none⟩ (.int .u32 (tw ks 160 32 : Nat))).setCell ⟨w.heap.size, 6, none⟩ (.int .u32 (tw ks 192 32 : Nat))).setCell ⟨w.heap.size, 7, none⟩ (.int .u32 (tw ks 224 32 : Nat))).setCell ⟨w.heap.size, 8, none⟩ (.int .u32 (tw ks 256 32 : Nat))).setCell ⟨w.heap.size, 9, none⟩ (.int .u32 (tw ks 288 32 : Nat))) = W9 at hb9 hA9 ⊢
      have r := hA9.out
      have r0 : W9.cell? ⟨w.heap.size, 0, none⟩ = some (.int .u32 (tw ks 0 32 : Nat)) := by rw [blk_cell r 0]; rfl
      have r1 : W9.cell? ⟨w.heap.size, 1, none⟩ = some (.int .u32 (tw ks 32 32 : Nat)) := by rw [blk_cell r 1]; rfl
      have r2 : W9.cell? ⟨w.heap.size, 2, none⟩ = some (.int .u32 (tw ks 64 32 : Nat)) := by rw [blk_cell r 2]; rfl
      have r3 : W9.cell? ⟨w.heap.size, 3, none⟩ = some (.int .u32 (tw ks 96 32 : Nat)) := by rw [blk_cell r 3]; rfl
      have r4 : W9.cell? ⟨w.heap.size, 4, none⟩ = some (.int .u32 (tw ks 128 32 : Nat)) := by rw [blk_cell r 4]; rfl
      have r5 : W9.cell? ⟨w.heap.size, 5, none⟩ = some (.int .u32 (tw ks 160 32 : Nat)) := by rw [blk_cell r 5]; rfl
      have r6 : W9.cell? ⟨w.heap.size, 6, none⟩ = some (.int .u32 (tw ks 192 32 : Nat)) := by rw [blk_cell r 6]; rfl
      have r7 : W9.cell? ⟨w.heap.size, 7, none⟩ = some (.int .u32 (tw ks 224 32 : Nat)) := by rw [blk_cell r 7]; rfl
      have r8 : W9.cell? ⟨w.heap.size, 8, none⟩ = some (.int .u32 (tw ks 256 32 : Nat)) := by rw [blk_cell r 8]; rfl
      have r9 : W9.cell? ⟨w.heap.size, 9, none⟩ = some (.int .u32 (tw ks 288 32 : Nat)) := by rw [blk_cell r 9]; rfl
      clear r
      clear hA9
      refine bodyPost_ret_by (v := .agg (toW ks)) ?_ rfl ⟨rfl, hb9.out⟩
      unfold toW
      simp only [results, Try.f56]
      go_simp

set_option maxRecDepth 100000 in
set_option maxHeartbeats 1000000 in
theorem hash_any (a : Option Addr) (xs : List Nat) (cap : Nat) (ks : List Nat) (w : World) (hx : Bts w a xs) (hl : xs.length ≤ 36) :
    Calls Try.prog 57 #[.agg (toW ks), .slice a xs.length cap] w fun e w' => e = .returned (.int .u32 (th ks xs (8 * xs.length) : Nat)) ∧ Below w.heap.size w w' := by
  have k0 := blk_new w (.cells (toW ks) 100)
  have b0 := (Below.refl w.heap.size w).alloc (Nat.le_refl _) (.cells (toW ks) 100)
  have sz : w.heap.size < (w.alloc (.cells (toW ks) 100)).heap.size := by simp
  have X0 := Lib.hid (hx.below b0)
  clear hx
  go_enter Try.func57, Try.ntmps57
  go_wp2_with fail
  generalize w.alloc (.cells (toW ks) 100) = W0 at k0 b0 sz X0 ⊢
  have K0 := Lib.hid k0
  clear k0
  go_loopw [5, 11, 6, 7, 8] (fun s i _ _ _ wr => ∃ k : Nat, k ≤ xs.length ∧ i = .int .i64 k ∧ s = .int .u32 (th ks xs (8 * k) : Nat) ∧ Below W0.heap.size W0 wr) (fun _ i _ _ _ _ => xs.length - (intOf i).toNat)
  case atStart => exact ⟨0, by omega, rfl, rfl, Below.refl _ _⟩
  case round =>
    obtain ⟨k, hk, rfl, rfl, hb⟩ := hrel
    by_cases hlt : k < xs.length
    · obtain ⟨b, off, rfl, hbl, hcell⟩ := (X0.out.below hb).isSome (by omega)
      have hc := hcell k hlt
      have hx1 := X0.out.1 _ (Mt.getD_mem xs k hlt)
      have tb := fun j hj => tbit_at xs k j hj
      generalize xs.getD k 0 = x at hc hx1 tb
      have TB := Lib.hid tb
      clear hcell tb
      go_wp2_with fail
      go_loopw [5, 16, 8] (fun s i _ w2 => ∃ j : Nat, j ≤ 8 ∧ i = .int .i64 j ∧ s = .int .u32 (th ks xs (8 * k + j) : Nat) ∧ Below W0.heap.size W0 w2) (fun _ i _ _ => 8 - (intOf i).toNat)
      case atStart => exact ⟨0, by omega, rfl, rfl, hb⟩
      case round =>
        obtain ⟨j, hj, rfl, rfl, hb2⟩ := hrel
        by_cases hj8 : j < 8
        · have E0 := TB.out j hj8
          have E1 := bit_test x j hx1 hj8
          rw [← E0] at E1
          have E2 : (x : Int) * 2 ^ j % 256 / 128 = ((tbit xs (8 * k + j) : Nat) : Int) := by rw [← E1]; simp
          have nj : ¬ ((j : Int) < 0) := by omega
          have hth : th ks xs (8 * k + (j + 1)) = if tbit xs (8 * k + j) = 1 then th ks xs (8 * k + j) ^^^ tw ks (8 * k + j) 32 else th ks xs (8 * k + j) := rfl
          have l1 := th_lt ks xs (8 * k + j)
          have l2 := tw_lt ks (8 * k + j) 32
          have htl := tbit_lt xs (8 * k + j)
          have F : ∀ W, Calls Try.prog 63 #[.agg (toW ks), .int .i64 ((k : Int) * 8 + (j : Int))] W fun e w' => e = .returned (.int .u32 (tw ks (8 * k + j) 32 : Nat)) ∧ Below W.heap.size W w' := fun W => by
            have h := from_any ks (8 * k + j) (by omega) W
            rwa [show ((8 * k + j : Nat) : Int) = (k : Int) * 8 + (j : Int) by omega] at h
          have HF := Lib.hid F
          have HT := Lib.hid hth
          have k2 := (hb2.block _ sz).trans K0.out
          have r0 : wr.cell? ⟨w.heap.size, 0, none⟩ = some (.int .u32 (tw ks 0 32 : Nat)) := by rw [blk_cell k2 0]; rfl
          have r1 : wr.cell? ⟨w.heap.size, 1, none⟩ = some (.int .u32 (tw ks 32 32 : Nat)) := by rw [blk_cell k2 1]; rfl
          have r2 : wr.cell? ⟨w.heap.size, 2, none⟩ = some (.int .u32 (tw ks 64 32 : Nat)) := by rw [blk_cell k2 2]; rfl
          have r3 : wr.cell? ⟨w.heap.size, 3, none⟩ = some (.int .u32 (tw ks 96 32 : Nat)) := by rw [blk_cell k2 3]; rfl
          have r4 : wr.cell? ⟨w.heap.size, 4, none⟩ = some (.int .u32 (tw ks 128 32 : Nat)) := by rw [blk_cell k2 4]; rfl
          have r5 : wr.cell? ⟨w.heap.size, 5, none⟩ = some (.int .u32 (tw ks 160 32 : Nat)) := by rw [blk_cell k2 5]; rfl
          have r6 : wr.cell? ⟨w.heap.size, 6, none⟩ = some (.int .u32 (tw ks 192 32 : Nat)) := by rw [blk_cell k2 6]; rfl
          have r7 : wr.cell? ⟨w.heap.size, 7, none⟩ = some (.int .u32 (tw ks 224 32 : Nat)) := by rw [blk_cell k2 7]; rfl
          have r8 : wr.cell? ⟨w.heap.size, 8, none⟩ = some (.int .u32 (tw ks 256 32 : Nat)) := by rw [blk_cell k2 8]; rfl
          have r9 : wr.cell? ⟨w.heap.size, 9, none⟩ = some (.int .u32 (tw ks 288 32 : Nat)) := by rw [blk_cell k2 9]; rfl
          clear F hth k2 E0 E1
          generalize tbit xs (8 * k + j) = t at E2 htl HT
          obtain ⟨s0, hs0⟩ : ∃ s0, th ks xs (8 * k + j) = s0 := ⟨_, rfl⟩
          rw [hs0] at HT l1 ⊢
          generalize tw ks (8 * k + j) 32 = t0 at HF HT l2
          obtain rfl | rfl : t = 0 ∨ t = 1 := by omega
          · have ht : th ks xs (8 * k + (j + 1)) = s0 := HT.out
            have Ht := Lib.hid ht
            clear ht HT HF hs0 r0 r1 r2 r3 r4 r5 r6 r7 r8 r9
            go_wp2
            go_roundw
            case rel => exact ⟨j + 1, by omega, by go_num, by rw [Ht.out], hb2⟩
            case measure => simp [intOf]; omega
          · have ht : th ks xs (8 * k + (j + 1)) = s0 ^^^ t0 := HT.out
            have Ht := Lib.hid ht
            have hxr := u32_xor_nat s0 t0 l1 l2
            clear ht HT hs0
            go_wp2_with fail
            refine (HF.out _).mono ?_
            rintro e w3 ⟨rfl, b3⟩
            have hb3 := hb2.trans (b3.mono hb2.size)
            clear r0 r1 r2 r3 r4 r5 r6 r7 r8 r9 HF
            go_wp2
            go_roundw
            case rel => exact ⟨j + 1, by omega, by go_num, by rw [Ht.out], hb3⟩
            case measure => simp [intOf]; omega
        · obtain rfl : j = 8 := by omega
          go_wp2
          go_roundw
          case rel => exact ⟨k + 1, by omega, by go_num, rfl, hb2⟩
          case measure => simp [intOf]; omega
    · obtain rfl : k = xs.length := by omega
      go_wp2
      go_ret
      exact ⟨rfl, b0.trans (hb.mono b0.size)⟩
end Go.Proofs.Ytokfadlgiimaoaa
