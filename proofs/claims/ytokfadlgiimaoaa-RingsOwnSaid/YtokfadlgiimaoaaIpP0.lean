/- What ipwire.Parse gives. -/
import Derived.Test.YtokfadlgiimaoaaSumC
import Derived.Test.YtokfadlgiimaoaaGCopied
import Derived.Deep.RegionHeld3
namespace Go.Proofs.Ytokfadlgiimaoaa
open Go.RowKit

set_option maxHeartbeats 400000 in
theorem fresh_one (a : Option Addr) (xs : List Nat) (cap : Nat) (w : World) (hx : Bts w a xs) (hxl : xs.length ≤ 140737488355328) (hn : a = none → cap = 0) :
    Calls Try.prog 55 #[.slice a xs.length cap] w fun e w' => ∃ a' cap', e = .returned (.slice a' xs.length cap') ∧ OwnSl w.heap.size a' xs cap' w' ∧ Below w.heap.size w w' := by
  obtain ⟨i0, hi, hz0, hz1, hz2⟩ := info_parts info5
  go_enter Try.func55, Try.ntmps55
  cases a with
  | none =>
    obtain rfl : xs = [] := by
      rcases hx.2 with h | ⟨b, off, h, _⟩
      · exact h
      · cases h
    obtain rfl := hn rfl
    go_wp2
    go_ret
    exact ⟨none, 0, rfl, ⟨hx.1, .inl ⟨rfl, rfl, rfl⟩⟩, Below.refl _ _⟩
  | some ad =>
    have Hc := Lib.hid hx.src
    have Hx := Lib.hid hx.1
    clear hx
    go_wp2_with (at_builtin; refine wpList_append_own _ rfl _ _ 22 rfl w.heap.size 5 i0 (.int .u8 0) 1 1 Try.underlying22 hi hz0 hz1 hz2 rfl (by decide) _ _ _ rfl (World.ownsRow_nil _ _ _ _) ad xs.length cap (xs.map fun x => Value.int .u8 ((x : Nat) : Int)) rfl (by simp) Hc.out (by simp [Value.oneCell']) (by unfold maxLen; omega) (by omega) (Nat.le_refl _) ?_; intro v' w1 hown hgrow _)
    go_ret
    obtain ⟨a', cap', rfl, O⟩ := OwnSl.of_row (xs := xs) Hx.out (by simpa using hown)
    exact ⟨a', cap', rfl, O, (Below.refl _ _).grown hgrow (Nat.le_refl _) (fun k e => by cases e)⟩


theorem i64_and_nat (a b : Nat) (ha : a < 65536) (hb : b < 65536) : bits .and .i64 (a : Int) (b : Int) = ((a &&& b : Nat) : Int) := by
  have hx : a &&& b < 2 ^ 16 := Nat.and_lt_two_pow _ (by omega)
  show IntKind.i64.wrap ((BitVec.ofInt 64 (a : Int) &&& BitVec.ofInt 64 (b : Int)).toNat : Int) = _
  rw [BitVec.toNat_and, ofInt_u64 a (by omega), ofInt_u64 b (by omega)]
  exact IntWalk.i64_in _ (by omega)

theorem set_ne {W : World} {b g o i : Nat} {v : Value} (h : b ≠ g) : (W.setCell ⟨g, i, none⟩ v).cell? ⟨b, o, none⟩ = W.cell? ⟨b, o, none⟩ :=
  World.cell?_setCell_other W _ _ v (by intro e; cases e; exact h rfl)

/-- What is told of octets that are no packet. -/
def IpPBad (w : World) (e : Ending) (w' : World) : Prop := ∃ n : Int, n ≠ 0 ∧ e = .returned (.tuple #[.agg #[.int .u8 0, .int .u16 0, .bool false, .bool false, .int .i64 0, .int .u8 0, .int .u8 0, .int .u32 0, .int .u32 0, .slice none 0 0, .slice none 0 0], .int .i64 n]) ∧ Below w.heap.size w w'

set_option maxRecDepth 100000 in
set_option maxHeartbeats 1000000 in
theorem ipP_short (a : Option Addr) (xs : List Nat) (cap : Nat) (w : World) (hl : xs.length < 20) :
    Calls Try.prog 39 #[.slice a xs.length cap] w (IpPBad w) := by
  go_enter Try.func39, Try.ntmps39
  go_wp2
  exact bodyPost_ret (v := .tuple #[.agg #[.int .u8 0, .int .u16 0, .bool false, .bool false, .int .i64 0, .int .u8 0, .int .u8 0, .int .u32 0, .int .u32 0, .slice none 0 0, .slice none 0 0], .int .i64 8]) (by simp [results, Try.results39, go_sem]) rfl ⟨8, by decide, rfl, (Below.refl _ _).alloc (Nat.le_refl _) _⟩

set_option maxRecDepth 100000 in
set_option maxHeartbeats 2000000 in
theorem ipP_version (b off : Nat) (xs : List Nat) (cap : Nat) (w : World) (x0 : Nat) (hb : b < w.heap.size) (hl20 : 20 ≤ xs.length) (c0 : w.cell? ⟨b, off, none⟩ = some (.int .u8 (x0 : Nat))) (_ : x0 < 256) (hv : x0 / 16 ≠ 4) :
    Calls Try.prog 39 #[.slice (some ⟨b, off, none⟩) xs.length cap] w (IpPBad w) := by
  have e1 : ((x0 : Int) / 16 != 4) = true := by rw [bne_iff_ne]; omega
  have m0 : (0 : Int) < (xs.length : Int) := by omega
  have i20 : (20 : Int) ≤ (xs.length : Int) := by omega
  have nb : b ≠ w.heap.size := by omega
  clear hv hl20
  go_enter Try.func39, Try.ntmps39
  go_wp2
  exact bodyPost_ret (v := .tuple #[.agg #[.int .u8 0, .int .u16 0, .bool false, .bool false, .int .i64 0, .int .u8 0, .int .u8 0, .int .u32 0, .int .u32 0, .slice none 0 0, .slice none 0 0], .int .i64 41]) (by simp [results, Try.results39, go_sem]) rfl ⟨41, by decide, rfl, (Below.refl _ _).alloc (Nat.le_refl _) _⟩
end Go.Proofs.Ytokfadlgiimaoaa
