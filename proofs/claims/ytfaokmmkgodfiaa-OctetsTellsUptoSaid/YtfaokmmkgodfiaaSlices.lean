/- The contracts of Put, Unhex, CopyBytes, SameBytes and Spoil in one form: a slice of one's own that reads as a list of octets. -/
import Derived.Test.YtfaokmmkgodfiaaAlive
namespace Go.Proofs.Ytfaokmmkgodfiaa
open Go.RowKit

/-- A slice, nil or in a row of its own from block B on, that reads as these octets. -/
def OwnSl (B : Nat) (a : Option Addr) (xs : List Nat) (cap : Nat) (w : World) : Prop :=
  (∀ x ∈ xs, x < 256) ∧ ((a = none ∧ xs = [] ∧ cap = 0) ∨ (∃ g, a = some ⟨g, 0, none⟩ ∧ B ≤ g ∧ w.ownsRow B 5 1 (.slice (some ⟨g, 0, none⟩) xs.length cap) xs.length (xs.map fun x => Value.int .u8 (x : Nat))))

theorem OwnSl.bts {B : Nat} {a : Option Addr} {xs : List Nat} {cap : Nat} {w : World} (h : OwnSl B a xs cap w) : Bts w a xs := by
  obtain ⟨hx, ⟨_, rfl, _⟩ | ⟨g, rfl, _, hr⟩⟩ := h
  · exact ⟨hx, .inl rfl⟩
  · exact row_bts hr hx

theorem OwnSl.below {B : Nat} {a : Option Addr} {xs : List Nat} {cap : Nat} {w w' : World} (h : OwnSl B a xs cap w) (hb : Below w.heap.size w w') : OwnSl B a xs cap w' := by
  obtain ⟨hx, ⟨ha, he, hc⟩ | ⟨g, ha, hB, hr⟩⟩ := h
  · exact ⟨hx, .inl ⟨ha, he, hc⟩⟩
  · refine ⟨hx, .inr ⟨g, ha, hB, hr.1, ?_⟩⟩
    rcases hr.2 with h0 | ⟨g', cap', cur, e, h1, h2, h3⟩
    · exact .inl h0
    · have hlt : g' < w.heap.size := (Array.getElem?_eq_some_iff.1 h2).1
      exact .inr ⟨g', cap', cur, e, h1, (hb.block g' hlt).trans h2, h3⟩

theorem OwnSl.mono {B B' : Nat} {a : Option Addr} {xs : List Nat} {cap : Nat} {w : World} (h : OwnSl B a xs cap w) (hb : B' ≤ B) : OwnSl B' a xs cap w := by
  obtain ⟨hx, h0 | ⟨g, ha, hB, hr⟩⟩ := h
  · exact ⟨hx, .inl h0⟩
  · refine ⟨hx, .inr ⟨g, ha, by omega, hr.1, ?_⟩⟩
    rcases hr.2 with h0 | ⟨g', cap', cur, e, h1, h2⟩
    · exact .inl h0
    · exact .inr ⟨g', cap', cur, e, by omega, h2⟩

theorem OwnSl.nilcap {B : Nat} {a : Option Addr} {xs : List Nat} {cap : Nat} {w : World} (h : OwnSl B a xs cap w) : a = none → cap = 0 := by
  obtain ⟨_, ⟨_, _, h⟩ | ⟨g, ha, _⟩⟩ := h
  · exact fun _ => h
  · intro h; rw [ha] at h; cases h

/-- Is n a number of so many octets? -/
def fits (n : Nat) (size : Int) : Prop := ∃ k : Nat, size = k ∧ 1 ≤ k ∧ k ≤ 8 ∧ n < 256 ^ k

open Classical in
/-- Put's octets, and its error number. -/
noncomputable def putL (n : Nat) (size : Int) : List Nat := if fits n size then Mt.octs n size.toNat else []
open Classical in
noncomputable def putE (n : Nat) (size : Int) : Int := if fits n size then 0 else 4

theorem put_one (n : Nat) (size : Int) (hn : n < 18446744073709551616) (hs0 : -9223372036854775808 ≤ size) (hs1 : size ≤ 9223372036854775807) (w : World) :
    Calls Try.prog 7 #[.int .u64 n, .int .i64 size] w fun e w' => ∃ a cap, e = .returned (.tuple #[.slice a (putL n size).length cap, .int .i64 (putE n size)]) ∧ OwnSl w.heap.size a (putL n size) cap w' ∧ Below w.heap.size w w' := by
  refine (put_any n size hn hs0 hs1 w).mono ?_
  rintro e w' (⟨k, rfl, h1, h2, h3, g, cap, hg, rfl, hrow, hb⟩ | ⟨hno, rfl, rfl⟩)
  · have hf : fits n (k : Int) := ⟨k, rfl, h1, h2, h3⟩
    have e1 : putL n (k : Int) = Mt.octs n k := by unfold putL; rw [if_pos hf]; rfl
    have e2 : putE n (k : Int) = 0 := by unfold putE; rw [if_pos hf]
    have e3 : (Mt.octs n k).length = k := Mt.octs_length n k
    refine ⟨some ⟨g, 0, none⟩, cap, ?_, ⟨?_, .inr ⟨g, rfl, hg, ?_⟩⟩, hb⟩
    · rw [e1, e2, e3]
    · rw [e1]; exact octs_lt n k
    · rw [e1, e3]; exact hrow
  · have hf : ¬ fits n size := hno
    have e1 : putL n size = [] := by unfold putL; rw [if_neg hf]
    have e2 : putE n size = 4 := by unfold putE; rw [if_neg hf]
    refine ⟨none, 0, ?_, ⟨?_, .inl ⟨rfl, e1, rfl⟩⟩, Below.refl _ _⟩
    · rw [e1, e2]; rfl
    · rw [e1]; intro x hx; cases hx

/-- All bytes of a text are hexadecimal digits. -/
def allHex (s : ByteArray) : Prop := ∀ j, j < s.size → (nib (byteAt s j)).isSome = true

/-- The place of the first byte that is none, behind so many. -/
def firstBad (s : ByteArray) : Nat → Nat → Nat
  | 0, k => k
  | f + 1, k => if (nib (byteAt s k)).isSome then firstBad s f (k + 1) else k

theorem firstBad_is (s : ByteArray) : ∀ (f k m : Nat), k ≤ m → m < k + f → (∀ j, k ≤ j → j < m → (nib (byteAt s j)).isSome = true) → nib (byteAt s m) = none → firstBad s f k = m := by
  intro f
  induction f with
  | zero => intro k m h1 h2; omega
  | succ f ih =>
    intro k m h1 h2 h3 h4
    unfold firstBad
    by_cases e : k = m
    · subst e; rw [h4]; simp
    · rw [if_pos (h3 k (Nat.le_refl _) (by omega))]
      exact ih (k + 1) m (by omega) (by omega) (fun j hj1 hj2 => h3 j (by omega) hj2) h4

open Classical in
/-- Unhex's octets, its error number, its place. -/
noncomputable def unhexL (s : ByteArray) : List Nat := if allHex s ∧ s.size % 2 = 0 then unhexed s else []
open Classical in
noncomputable def unhexE (s : ByteArray) : Int := if allHex s then (if s.size % 2 = 0 then 0 else 3) else 11
open Classical in
noncomputable def unhexP (s : ByteArray) : Nat := if allHex s then s.size else firstBad s s.size 0

theorem unhexed_lt (s : ByteArray) (h : allHex s) : ∀ x ∈ unhexed s, x < 256 := by
  intro x hx
  unfold unhexed at hx
  obtain ⟨i, hi, rfl⟩ := List.mem_map.1 hx
  have hi' := List.mem_range.1 hi
  obtain ⟨a, ha⟩ : ∃ a, nib (byteAt s (2 * i)) = some a := Option.isSome_iff_exists.1 (h _ (by omega))
  obtain ⟨b, hb⟩ : ∃ b, nib (byteAt s (2 * i + 1)) = some b := Option.isSome_iff_exists.1 (h _ (by omega))
  have h1 := nib_lt ha
  have h2 := nib_lt hb
  rw [ha, hb]
  simp only [Option.getD_some]
  omega

theorem unhexed_length (s : ByteArray) : (unhexed s).length = s.size / 2 := by simp [unhexed]

theorem unhex_one (s : ByteArray) (hs : s.size ≤ 281474976710656) (w : World) :
    Calls Try.prog 13 #[.string s] w fun e w' => ∃ a cap, e = .returned (.tuple #[.slice a (unhexL s).length cap, .int .i64 (unhexE s), .int .i64 (unhexP s)]) ∧ OwnSl w.heap.size a (unhexL s) cap w' ∧ Below w.heap.size w w' := by
  refine (unhex_any s w hs).mono ?_
  rintro e w' (⟨k, hk, hall, hn, rfl, rfl⟩ | ⟨hall, ⟨hodd, rfl, rfl⟩ | ⟨hev, rfl, hrow, hb⟩⟩)
  · have hno : ¬ allHex s := fun h => by have := h k hk; rw [hn] at this; cases this
    have e1 : unhexL s = [] := by unfold unhexL; rw [if_neg (fun h => hno h.1)]
    have e2 : unhexE s = 11 := by unfold unhexE; rw [if_neg hno]
    have e3 : unhexP s = k := by unfold unhexP; rw [if_neg hno]; exact firstBad_is s s.size 0 k (by omega) (by omega) (fun j _ h => hall j h) hn
    refine ⟨none, 0, by rw [e1, e2, e3]; rfl, ⟨?_, .inl ⟨rfl, e1, rfl⟩⟩, Below.refl _ _⟩
    rw [e1]; intro x hx; cases hx
  · have hyes : allHex s := hall
    have e1 : unhexL s = [] := by unfold unhexL; rw [if_neg (fun h => by omega)]
    have e2 : unhexE s = 3 := by unfold unhexE; rw [if_pos hyes, if_neg (by omega)]
    have e3 : unhexP s = s.size := by unfold unhexP; rw [if_pos hyes]
    refine ⟨none, 0, by rw [e1, e2, e3]; rfl, ⟨?_, .inl ⟨rfl, e1, rfl⟩⟩, Below.refl _ _⟩
    rw [e1]; intro x hx; cases hx
  · have hyes : allHex s := hall
    have e1 : unhexL s = unhexed s := by unfold unhexL; rw [if_pos ⟨hyes, hev⟩]
    have e2 : unhexE s = 0 := by unfold unhexE; rw [if_pos hyes, if_pos hev]
    have e3 : unhexP s = s.size := by unfold unhexP; rw [if_pos hyes]
    have e4 := unhexed_length s
    refine ⟨some ⟨w.heap.size, 0, none⟩, s.size / 2, by rw [e1, e2, e3, e4], ⟨?_, .inr ⟨w.heap.size, rfl, Nat.le_refl _, ?_⟩⟩, hb⟩
    · rw [e1]; exact unhexed_lt s hyes
    · rw [e1, e4]; exact hrow

theorem copy_one (a : Option Addr) (xs : List Nat) (cap : Nat) (w : World) (hx : Bts w a xs) (hxl : xs.length ≤ 140737488355328) (hn : a = none → cap = 0) :
    Calls Try.prog 6 #[.slice a xs.length cap] w fun e w' => ∃ a' cap', e = .returned (.slice a' xs.length cap') ∧ OwnSl w.heap.size a' xs cap' w' ∧ Below w.heap.size w w' := by
  refine (copy_any a xs cap w hx hxl hn).mono ?_
  rintro e w' ⟨v, rfl, hrow, hb⟩
  rcases hrow.2 with ⟨rfl, h0⟩ | ⟨g, cap', cur, rfl, hB, h2⟩
  · obtain rfl : xs = [] := List.eq_nil_of_length_eq_zero h0
    exact ⟨none, 0, rfl, ⟨hx.1, .inl ⟨rfl, rfl, rfl⟩⟩, hb⟩
  · exact ⟨some ⟨g, 0, none⟩, cap', rfl, ⟨hx.1, .inr ⟨g, rfl, hB, hrow⟩⟩, hb⟩

/-- A row that lies from a later block on lies on where an elder block is turned. -/
theorem OwnSl.kept {B g : Nat} {a : Option Addr} {xs : List Nat} {cap : Nat} {w w' : World} (h : OwnSl B a xs cap w) (hg : w.grownBy w' (some g)) (hlt : g < B) : OwnSl B a xs cap w' := by
  obtain ⟨hx, h0 | ⟨b, rfl, hB, hr⟩⟩ := h
  · exact ⟨hx, .inl h0⟩
  · exact ⟨hx, .inr ⟨b, rfl, hB, hr.kept hg (.inr (by simp [Value.ownBlock]; omega))⟩⟩

theorem spoil_one (B B' : Nat) (a : Option Addr) (xs : List Nat) (cap : Nat) (w : World) (h : OwnSl B a xs cap w) (hB' : ∀ g, a = some ⟨g, 0, none⟩ → g < B') (hxl : xs.length ≤ 140737488355328) :
    Calls Try.prog 22 #[.slice a xs.length cap] w fun e w' => (∃ v, e = .returned v) ∧ Below B w w' ∧ ∀ a' ys dap, OwnSl B' a' ys dap w → OwnSl B' a' ys dap w' := by
  obtain ⟨hx, ⟨rfl, rfl, rfl⟩ | ⟨g, rfl, hB, hr⟩⟩ := h
  · refine (spoil_nil w).mono ?_
    rintro e w' ⟨hv, rfl⟩
    exact ⟨hv, Below.refl _ _, fun _ _ _ h => h⟩
  · refine (spoil_row B g cap xs hx (by omega) w hB hr).mono ?_
    rintro e w' ⟨hv, hb, hg⟩
    exact ⟨hv, hb, fun _ _ _ h => h.kept hg (hB' g rfl)⟩

theorem same_one (a c : Option Addr) (xs ys : List Nat) (cap dap : Nat) (w : World) (hx : Bts w a xs) (hy : Bts w c ys) (hxl : xs.length ≤ 140737488355328) (hyl : ys.length ≤ 140737488355328) (hxy : xs = ys) :
    Calls Try.prog 15 #[.slice a xs.length cap, .slice c ys.length dap] w fun e w' => e = .returned (.bool true) ∧ Below w.heap.size w w' := by
  refine (same_any a c xs ys cap dap w hx hy (by omega) (by omega)).mono ?_
  rintro e w' ⟨rfl, hb⟩
  rw [decide_eq_true hxy]
  exact ⟨rfl, hb⟩
end Go.Proofs.Ytfaokmmkgodfiaa
