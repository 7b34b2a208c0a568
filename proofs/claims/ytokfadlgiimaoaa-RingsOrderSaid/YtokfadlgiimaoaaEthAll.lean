/- What the document's own Build of ether gives. -/
import Derived.Test.YtokfadlgiimaoaaGCopied
import Derived.Test.YtokfadlgiimaoaaGAppend
import Derived.Deep.RegionHeld3
import Derived.Test.YtokfadlgiimaoaaGPut
import Derived.LoopN
import Derived.Test.YtokfadlgiimaoaaGPlain
import Derived.Test.YtokfadlgiimaoaaGBts
import Derived.DeepKeys
import Derived.Deep.RegionWith
import Derived.Deep.QuietTactic
import Derived.BigQuiet
import Derived.Laws.Cover3
import Derived.Test.YtokfadlgiimaoaaEthP
import Derived.Test.YtokfadlgiimaoaaRefEther
namespace Go.Proofs.Ytokfadlgiimaoaa
open Go.RowKit

/-- A frame's octets. -/
def ethO (d s t : Nat) (xs : List Nat) : List Nat := Mt.octs d 6 ++ Mt.octs s 6 ++ Mt.octs t 2 ++ xs

end Go.Proofs.Ytokfadlgiimaoaa

namespace Go.Proofs.Ytokfadlgiimaoaa
open Go.RowKit

theorem eth_splices (d s t : Nat) (xs : List Nat) (N : Nat) (hN : N = 14 + xs.length) : splice (splice (splice (splice (List.replicate N 0) 0 (Mt.octs d 6)) 6 (Mt.octs s 6)) 12 (Mt.octs t 2)) 14 xs = ethO d s t xs := by
  have e0 : splice (List.replicate N 0) 0 (Mt.octs d 6) = Mt.octs d 6 ++ (List.replicate N 0).drop 6 := by
    have h := splice_app [] (List.replicate N 0) (Mt.octs d 6) 0 rfl
    rwa [Mt.octs_length, List.nil_append, List.nil_append] at h
  rw [e0, splice_app _ _ _ 6 (Mt.octs_length d 6), Mt.octs_length, List.drop_drop, splice_app _ _ _ 12 (by simp [Mt.octs_length]), Mt.octs_length, List.drop_drop, splice_app _ _ _ 14 (by simp [Mt.octs_length]), List.drop_drop, List.drop_eq_nil_of_le (by rw [List.length_replicate]; omega), List.append_nil]
  rfl

theorem eth_len (d s t : Nat) (xs : List Nat) : (ethO d s t xs).length = 14 + xs.length := by
  unfold ethO; simp [Mt.octs_length]; omega

end Go.Proofs.Ytokfadlgiimaoaa

namespace Go.Proofs.Ytokfadlgiimaoaa
open Go.RowKit

theorem lt_alloc {n : Nat} {W : World} (h : n < W.heap.size) (o : Obj) : n + 1 ≤ (W.alloc o).heap.size := by rw [World.size_alloc]; omega

/-- An ARP's first seven octets. -/
def arpHead : List Nat := [0, 1, 8, 0, 6, 4, 0]

/-- An ARP's octets. -/
def arpO (op m1 i1 m2 i2 : Nat) : List Nat := arpHead ++ [op] ++ Mt.octs m1 6 ++ Mt.octs i1 4 ++ Mt.octs m2 6 ++ Mt.octs i2 4

end Go.Proofs.Ytokfadlgiimaoaa

namespace Go.Proofs.Ytokfadlgiimaoaa
open Go.RowKit
theorem arp_splices (op m1 i1 m2 i2 : Nat) : splice (splice (splice (splice (splice (List.replicate 28 0) 0 (arpHead ++ [op])) 8 (Mt.octs m1 6)) 14 (Mt.octs i1 4)) 18 (Mt.octs m2 6)) 24 (Mt.octs i2 4) = arpO op m1 i1 m2 i2 := by
  have e0 : splice (List.replicate 28 0) 0 (arpHead ++ [op]) = (arpHead ++ [op]) ++ (List.replicate 28 0).drop 8 := by
    have h := splice_app [] (List.replicate 28 0) (arpHead ++ [op]) 0 rfl
    rwa [List.nil_append, List.nil_append] at h
  rw [e0, splice_app _ _ _ 8 rfl, Mt.octs_length, List.drop_drop, splice_app _ _ _ 14 (by simp [Mt.octs_length, arpHead]), Mt.octs_length, List.drop_drop, splice_app _ _ _ 18 (by simp [Mt.octs_length, arpHead]), Mt.octs_length, List.drop_drop, splice_app _ _ _ 24 (by simp [Mt.octs_length, arpHead]), Mt.octs_length, List.drop_drop]
  rfl

end Go.Proofs.Ytokfadlgiimaoaa

namespace Go.Proofs.Ytokfadlgiimaoaa
open Go.RowKit

/-- An ARP's parts in octets. -/
abbrev arpM1 (xs : List Nat) : Nat := Mt.numOf (seg xs 8 6)
abbrev arpI1 (xs : List Nat) : Nat := Mt.numOf (seg xs 14 4)
abbrev arpM2 (xs : List Nat) : Nat := Mt.numOf (seg xs 18 6)
abbrev arpI2 (xs : List Nat) : Nat := Mt.numOf (seg xs 24 4)

/-- Do they begin as an ARP does? -/
def arpBegins (xs : List Nat) : Prop := ∀ j, j < 7 → xs.getD j 0 = arpHead.getD j 0

abbrev arpZero : Value := .tuple #[.agg #[.int .i64 0, .int .u64 0, .int .u32 0, .int .u64 0, .int .u32 0], .int .i64 31]

/-- What ParseArp answers where there are octets enough. -/
def ArpAns (xs : List Nat) (w : World) (e : Ending) (w' : World) : Prop :=
  ((arpBegins xs ∧ (xs.getD 7 0 = 1 ∨ xs.getD 7 0 = 2)) ∧ e = .returned (.tuple #[.agg #[.int .i64 (xs.getD 7 0 : Nat), .int .u64 (arpM1 xs : Nat), .int .u32 (arpI1 xs : Nat), .int .u64 (arpM2 xs : Nat), .int .u32 (arpI2 xs : Nat)], .int .i64 0]) ∧ Below w.heap.size w w') ∨
  (¬ (arpBegins xs ∧ (xs.getD 7 0 = 1 ∨ xs.getD 7 0 = 2)) ∧ e = .returned arpZero ∧ Below w.heap.size w w')

end Go.Proofs.Ytokfadlgiimaoaa

namespace Go.Proofs.Ytokfadlgiimaoaa
open Go.RowKit

theorem wf_u8 (x : Nat) (h : x < 256) : (Lit.int .u8 (x : Nat)).wf = true := by
  simp [Lit.wf, IntKind.min, IntKind.max, IntKind.signed, IntKind.bits]
  omega

theorem lit_u8 (x : Nat) (h : x < 256) : Try.prog.keyLits 2 5 [.int .u8 x] = some [.int .u8 x] := by
  unfold Program.keyLits
  rw [Try.underlying5]
  simp [wf_u8 x h]

end Go.Proofs.Ytokfadlgiimaoaa

namespace Go.Proofs.Ytokfadlgiimaoaa
open Go.RowKit
theorem arpBegins_iff (xs : List Nat) : arpBegins xs ↔ xs.getD 0 0 = 0 ∧ xs.getD 1 0 = 1 ∧ xs.getD 2 0 = 8 ∧ xs.getD 3 0 = 0 ∧ xs.getD 4 0 = 6 ∧ xs.getD 5 0 = 4 ∧ xs.getD 6 0 = 0 := by
  constructor
  · intro h
    exact ⟨h 0 (by omega), h 1 (by omega), h 2 (by omega), h 3 (by omega), h 4 (by omega), h 5 (by omega), h 6 (by omega)⟩
  · rintro ⟨h0, h1, h2, h3, h4, h5, h6⟩ j hj
    match j, hj with
    | 0, _ => exact h0
    | 1, _ => exact h1
    | 2, _ => exact h2
    | 3, _ => exact h3
    | 4, _ => exact h4
    | 5, _ => exact h5
    | 6, _ => exact h6

end Go.Proofs.Ytokfadlgiimaoaa

namespace Go.Proofs.Ytokfadlgiimaoaa
open Go.RowKit

/-- May it be a frame? -/
abbrev EthMay (d s : Nat) (t : Int) : Prop := d ≤ 281474976710655 ∧ s ≤ 281474976710655 ∧ 0 ≤ t ∧ t ≤ 65535
/-- What Build tells beside the octets, and the octets. -/
def ethBE (d s : Nat) (t : Int) (n : Nat) : Int := if EthMay d s t then (if n ≤ 65521 then 0 else 5) else 4
def ethBR (d s : Nat) (t : Int) (xs : List Nat) : List Nat := if EthMay d s t ∧ xs.length ≤ 65521 then ethO d s t.toNat xs else []

def EthBAns (d s : Nat) (t : Int) (xs : List Nat) (w : World) (e : Ending) (w' : World) : Prop :=
  ∃ a' cap', e = .returned (.tuple #[.slice a' (ethBR d s t xs).length cap', .int .i64 (ethBE d s t xs.length)]) ∧ OwnSl w.heap.size a' (ethBR d s t xs) cap' w' ∧ Below w.heap.size w w'

theorem eth_all_of {f : Nat} (d s : Nat) (t : Int) (a : Option Addr) (xs : List Nat) (cap : Nat) (w : World)
    (hok : ∀ t' : Nat, t = t' → EthMay d s t → xs.length ≤ 65521 → Calls Try.prog f #[.agg #[.int .u64 d, .int .u64 s, .int .i64 t', .slice a xs.length cap]] w fun e w' => ∃ a' cap', e = .returned (.tuple #[.slice a' (ethO d s t' xs).length cap', .int .i64 0]) ∧ OwnSl w.heap.size a' (ethO d s t' xs) cap' w' ∧ Below w.heap.size w w')
    (hra : ¬ EthMay d s t → Calls Try.prog f #[.agg #[.int .u64 d, .int .u64 s, .int .i64 t, .slice a xs.length cap]] w fun e w' => e = .returned (.tuple #[.slice none 0 0, .int .i64 4]) ∧ Below w.heap.size w w')
    (hlo : EthMay d s t → 65521 < xs.length → Calls Try.prog f #[.agg #[.int .u64 d, .int .u64 s, .int .i64 t, .slice a xs.length cap]] w fun e w' => e = .returned (.tuple #[.slice none 0 0, .int .i64 5]) ∧ Below w.heap.size w w') :
    Calls Try.prog f #[.agg #[.int .u64 d, .int .u64 s, .int .i64 t, .slice a xs.length cap]] w (EthBAns d s t xs w) := by
  unfold EthBAns ethBR ethBE
  by_cases h1 : EthMay d s t
  · by_cases h2 : xs.length ≤ 65521
    · rw [if_pos ⟨h1, h2⟩, if_pos h1, if_pos h2]
      obtain ⟨t', rfl⟩ : ∃ t' : Nat, t = t' := ⟨t.toNat, by omega⟩
      exact hok t' rfl h1 h2
    · rw [if_neg (fun h => h2 h.2), if_pos h1, if_neg h2]
      exact (hlo h1 (by omega)).mono fun e w' h => ⟨none, 0, h.1, own_nil _ _, h.2⟩
  · rw [if_neg (fun h => h1 h.1), if_neg h1]
    exact (hra h1).mono fun e w' h => ⟨none, 0, h.1, own_nil _ _, h.2⟩

/-- The same of ARP. -/
def arpBE (op : Int) (m1 m2 : Nat) : Int := if op = 1 ∨ op = 2 then (if m1 ≤ 281474976710655 ∧ m2 ≤ 281474976710655 then 0 else 4) else 31
def arpBR (op : Int) (m1 i1 m2 i2 : Nat) : List Nat := if (op = 1 ∨ op = 2) ∧ m1 ≤ 281474976710655 ∧ m2 ≤ 281474976710655 then arpO op.toNat m1 i1 m2 i2 else []

def ArpBAns (op : Int) (m1 i1 m2 i2 : Nat) (w : World) (e : Ending) (w' : World) : Prop :=
  ∃ a' cap', e = .returned (.tuple #[.slice a' (arpBR op m1 i1 m2 i2).length cap', .int .i64 (arpBE op m1 m2)]) ∧ OwnSl w.heap.size a' (arpBR op m1 i1 m2 i2) cap' w' ∧ Below w.heap.size w w'

theorem arp_all_of {f : Nat} (op : Int) (m1 i1 m2 i2 : Nat) (w : World)
    (hok : ∀ o : Nat, op = o → (o = 1 ∨ o = 2) → m1 ≤ 281474976710655 → m2 ≤ 281474976710655 → Calls Try.prog f #[.agg #[.int .i64 o, .int .u64 m1, .int .u32 i1, .int .u64 m2, .int .u32 i2]] w fun e w' => ∃ a' cap', e = .returned (.tuple #[.slice a' (arpO o m1 i1 m2 i2).length cap', .int .i64 0]) ∧ OwnSl w.heap.size a' (arpO o m1 i1 m2 i2) cap' w' ∧ Below w.heap.size w w')
    (hop : op ≠ 1 → op ≠ 2 → Calls Try.prog f #[.agg #[.int .i64 op, .int .u64 m1, .int .u32 i1, .int .u64 m2, .int .u32 i2]] w fun e w' => e = .returned (.tuple #[.slice none 0 0, .int .i64 31]) ∧ Below w.heap.size w w')
    (hmac : ∀ o : Nat, op = o → (o = 1 ∨ o = 2) → (281474976710655 < m1 ∨ 281474976710655 < m2) → Calls Try.prog f #[.agg #[.int .i64 o, .int .u64 m1, .int .u32 i1, .int .u64 m2, .int .u32 i2]] w fun e w' => e = .returned (.tuple #[.slice none 0 0, .int .i64 4]) ∧ Below w.heap.size w w') :
    Calls Try.prog f #[.agg #[.int .i64 op, .int .u64 m1, .int .u32 i1, .int .u64 m2, .int .u32 i2]] w (ArpBAns op m1 i1 m2 i2 w) := by
  unfold ArpBAns arpBR arpBE
  by_cases h1 : op = 1 ∨ op = 2
  · obtain ⟨o, rfl⟩ : ∃ o : Nat, op = o := ⟨op.toNat, by omega⟩
    have ho : o = 1 ∨ o = 2 := by omega
    by_cases h2 : m1 ≤ 281474976710655 ∧ m2 ≤ 281474976710655
    · rw [if_pos ⟨h1, h2⟩, if_pos h1, if_pos h2]
      exact hok o rfl ho h2.1 h2.2
    · rw [if_neg (fun h => h2 h.2), if_pos h1, if_neg h2]
      exact (hmac o rfl ho (by omega)).mono fun e w' h => ⟨none, 0, h.1, own_nil _ _, h.2⟩
  · rw [if_neg (fun h => h1 h.1), if_neg h1]
    exact (hop (fun h => h1 (.inl h)) (fun h => h1 (.inr h))).mono fun e w' h => ⟨none, 0, h.1, own_nil _ _, h.2⟩

/-- What Parse tells. -/
def ethPE (xs : List Nat) : Int := if xs.length < 14 then 8 else if 65535 < xs.length then 5 else 0
abbrev EthPok (xs : List Nat) : Prop := 14 ≤ xs.length ∧ xs.length ≤ 65535
def ethPD (xs : List Nat) : Nat := if EthPok xs then ethD xs else 0
def ethPS (xs : List Nat) : Nat := if EthPok xs then ethS xs else 0
def ethPT (xs : List Nat) : Nat := if EthPok xs then ethT xs else 0
def ethPds (xs : List Nat) : List Nat := if EthPok xs then xs.drop 14 else []

def EthPAns (xs : List Nat) (w : World) (e : Ending) (w' : World) : Prop :=
  ∃ a' cap', e = .returned (.tuple #[.agg #[.int .u64 (ethPD xs : Nat), .int .u64 (ethPS xs : Nat), .int .i64 (ethPT xs : Nat), .slice a' (ethPds xs).length cap'], .int .i64 (ethPE xs)]) ∧ OwnSl w.heap.size a' (ethPds xs) cap' w' ∧ Below w.heap.size w w'

theorem ethP_all_of {f : Nat} (a : Option Addr) (xs : List Nat) (cap : Nat) (w : World)
    (hsh : xs.length < 14 → Calls Try.prog f #[.slice a xs.length cap] w fun e w' => e = .returned (.tuple #[.agg #[.int .u64 0, .int .u64 0, .int .i64 0, .slice none 0 0], .int .i64 8]) ∧ Below w.heap.size w w')
    (hlo : 65535 < xs.length → Calls Try.prog f #[.slice a xs.length cap] w fun e w' => e = .returned (.tuple #[.agg #[.int .u64 0, .int .u64 0, .int .i64 0, .slice none 0 0], .int .i64 5]) ∧ Below w.heap.size w w')
    (hok : 14 ≤ xs.length → xs.length ≤ 65535 → Calls Try.prog f #[.slice a xs.length cap] w fun e w' => ∃ a' cap', e = .returned (.tuple #[.agg #[.int .u64 (ethD xs : Nat), .int .u64 (ethS xs : Nat), .int .i64 (ethT xs : Nat), .slice a' (xs.drop 14).length cap'], .int .i64 0]) ∧ OwnSl w.heap.size a' (xs.drop 14) cap' w' ∧ Below w.heap.size w w') :
    Calls Try.prog f #[.slice a xs.length cap] w (EthPAns xs w) := by
  unfold EthPAns ethPE ethPD ethPS ethPT ethPds
  by_cases h1 : xs.length < 14
  · have hn : ¬ EthPok xs := by omega
    simp only [if_pos h1, if_neg hn]
    exact (hsh h1).mono fun e w' h => ⟨none, 0, h.1, own_nil _ _, h.2⟩
  · by_cases h2 : 65535 < xs.length
    · have hn : ¬ EthPok xs := by omega
      simp only [if_neg h1, if_pos h2, if_neg hn]
      exact (hlo h2).mono fun e w' h => ⟨none, 0, h.1, own_nil _ _, h.2⟩
    · have hn : EthPok xs := by omega
      simp only [if_neg h1, if_neg h2, if_pos hn]
      exact hok hn.1 hn.2

theorem ethP_all (a : Option Addr) (xs : List Nat) (cap : Nat) (w : World) (hx : Bts w a xs) (hc : xs.length ≤ cap) (hm : cap ≤ maxLen) (hl : xs.length ≤ 140737488355328) :
    Calls Try.prog 38 #[.slice a xs.length cap] w (EthPAns xs w) :=
  ethP_all_of a xs cap w (fun h => eth_short a xs cap w h) (fun h => eth_long a xs cap w h hl) (fun h1 h2 => eth_ok a xs cap w hx hc hm h1 h2)

theorem refethP_all (a : Option Addr) (xs : List Nat) (cap : Nat) (w : World) (hx : Bts w a xs) (hc : xs.length ≤ cap) (hm : cap ≤ maxLen) (hl : xs.length ≤ 140737488355328) :
    Calls Try.prog 27 #[.slice a xs.length cap] w (EthPAns xs w) :=
  ethP_all_of a xs cap w (fun h => refeth_short a xs cap w h) (fun h => refeth_long a xs cap w h hl) (fun h1 h2 => refeth_ok a xs cap w hx hc hm h1 h2)

/-- What ParseArp tells. -/
instance (xs : List Nat) : Decidable (arpBegins xs) := by unfold arpBegins; infer_instance
abbrev ArpPok (xs : List Nat) : Prop := 28 ≤ xs.length ∧ arpBegins xs ∧ (xs.getD 7 0 = 1 ∨ xs.getD 7 0 = 2)
def arpPE (xs : List Nat) : Int := if xs.length < 28 then 8 else if ArpPok xs then 0 else 31
def arpPop (xs : List Nat) : Nat := if ArpPok xs then xs.getD 7 0 else 0
def arpP1 (xs : List Nat) : Nat := if ArpPok xs then arpM1 xs else 0
def arpP2 (xs : List Nat) : Nat := if ArpPok xs then arpI1 xs else 0
def arpP3 (xs : List Nat) : Nat := if ArpPok xs then arpM2 xs else 0
def arpP4 (xs : List Nat) : Nat := if ArpPok xs then arpI2 xs else 0

def ArpPAns (xs : List Nat) (w : World) (e : Ending) (w' : World) : Prop :=
  e = .returned (.tuple #[.agg #[.int .i64 (arpPop xs : Nat), .int .u64 (arpP1 xs : Nat), .int .u32 (arpP2 xs : Nat), .int .u64 (arpP3 xs : Nat), .int .u32 (arpP4 xs : Nat)], .int .i64 (arpPE xs)]) ∧ Below w.heap.size w w'

theorem arpP_all_of {f : Nat} (a : Option Addr) (xs : List Nat) (cap : Nat) (w : World)
    (hsh : xs.length < 28 → Calls Try.prog f #[.slice a xs.length cap] w fun e w' => e = .returned (.tuple #[.agg #[.int .i64 0, .int .u64 0, .int .u32 0, .int .u64 0, .int .u32 0], .int .i64 8]) ∧ Below w.heap.size w w')
    (hok : 28 ≤ xs.length → Calls Try.prog f #[.slice a xs.length cap] w (ArpAns xs w)) :
    Calls Try.prog f #[.slice a xs.length cap] w (ArpPAns xs w) := by
  unfold ArpPAns arpPE arpPop arpP1 arpP2 arpP3 arpP4
  by_cases h1 : xs.length < 28
  · have hn : ¬ ArpPok xs := fun h => by have := h.1; omega
    simp only [if_pos h1, if_neg hn]
    exact hsh h1
  · refine (hok (by omega)).mono ?_
    rintro e w' (⟨hc, he, hb⟩ | ⟨hc, he, hb⟩)
    · have hn : ArpPok xs := ⟨by omega, hc⟩
      simp only [if_neg h1, if_pos hn]
      exact ⟨he, hb⟩
    · have hn : ¬ ArpPok xs := fun h => hc h.2
      simp only [if_neg h1, if_neg hn]
      exact ⟨he, hb⟩

end Go.Proofs.Ytokfadlgiimaoaa
