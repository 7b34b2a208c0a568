/- What ether's calls and the document's own answers give, every way in one form. -/
import Derived.Test.YtdiomelldhkibaaEthP
import Derived.Test.YtdiomelldhkibaaEthB
import Derived.Test.YtdiomelldhkibaaArpB
import Derived.Test.YtdiomelldhkibaaArpP
import Derived.Test.YtdiomelldhkibaaRefEther
import Derived.Test.YtdiomelldhkibaaRefEtherB
import Derived.Test.YtdiomelldhkibaaRefArp
import Derived.Test.YtdiomelldhkibaaRefArpP
import Derived.Test.YtdiomelldhkibaaGAppend
namespace Go.Proofs.Ytdiomelldhkibaa
open Go.RowKit

/-- May it be a frame? -/
abbrev EthMay (d s : Nat) (t : Int) : Prop := d ≤ 281474976710655 ∧ s ≤ 281474976710655 ∧ 0 ≤ t ∧ t ≤ 65535
/-- What Build tells beside the octets, and the octets. -/
def ethBE (d s : Nat) (t : Int) (n : Nat) : Int := if EthMay d s t then (if n ≤ 65521 then 0 else 5) else 4
def ethBR (d s : Nat) (t : Int) (xs : List Nat) : List Nat := if EthMay d s t ∧ xs.length ≤ 65521 then ethO d s t.toNat xs else []

def EthBAns (d s : Nat) (t : Int) (xs : List Nat) (w : World) (e : Ending) (w' : World) : Prop :=
  ∃ a' cap', e = .returned (.tuple #[.slice a' (ethBR d s t xs).length cap', .int .i64 (ethBE d s t xs.length)]) ∧ OwnSl w.heap.size a' (ethBR d s t xs) cap' w' ∧ Below w.heap.size w w'

theorem eth_all_of {f : Nat} (d s : Nat) (t : Int) (a : Option Addr) (xs : List Nat) (cap : Nat) (w : World)
    (hok : ∀ t' : Nat, t = t' → EthMay d s t → xs.length ≤ 65521 → Calls Try.prog f #[.agg #[.int .u64 d, .int .u64 s, .int .i64 t', .slice a xs.length cap]] w fun e w' => ∃ a' cap', e = .returned (.tuple #[.slice a' (ethO d s t' xs).length cap', .int .i64 0]) ∧ OwnSl w.heap.size a' (ethO d s t' xs) cap' w' ∧ Below w.heap.size w w')
    (hra : ¬ EthMay d s t → Calls Try.prog f #[.agg #[.int .u64 d, .int .u64 s, .int .i64 t, .slice a xs.length cap]] w fun e w' => e = .returned (.tuple #[.slice none 0 0, .int .i64 4]) ∧ Below w.heap.size w w')
    (hlo : EthMay d s t → 65521 < xs.length → Calls Try.prog f #[.agg #[.int .u64 d, .int .u64 s, .int .i64 t, .slice a xs.length cap]] w fun e w' => e = .returned (.tuple #[.slice none 0 0, .int .i64 5]) ∧ Below w.heap.size w w') :
    Calls Try.prog f #[.agg #[.int .u64 d, .int .u64 s, .int .i64 t, .slice a xs.length cap]] w (EthBAns d s t xs w) := by
  unfold EthBAns ethBR ethBE
  by_cases h1 : EthMay d s t
  · by_cases h2 : xs.length ≤ 65521
    · rw [if_pos ⟨h1, h2⟩, if_pos h1, if_pos h2]
      obtain ⟨t', rfl⟩ : ∃ t' : Nat, t = t' := ⟨t.toNat, by omega⟩
      exact hok t' rfl h1 h2
    · rw [if_neg (fun h => h2 h.2), if_pos h1, if_neg h2]
      exact (hlo h1 (by omega)).mono fun e w' h => ⟨none, 0, h.1, own_nil _ _, h.2⟩
  · rw [if_neg (fun h => h1 h.1), if_neg h1]
    exact (hra h1).mono fun e w' h => ⟨none, 0, h.1, own_nil _ _, h.2⟩

theorem ethB_all (d s : Nat) (t : Int) (a : Option Addr) (xs : List Nat) (cap : Nat) (w : World) (hx : Bts w a xs) :
    Calls Try.prog 17 #[.agg #[.int .u64 d, .int .u64 s, .int .i64 t, .slice a xs.length cap]] w (EthBAns d s t xs w) :=
  eth_all_of d s t a xs cap w (fun t' ht h h2 => by subst ht; exact ethB_ok d s t' a xs cap w h.1 h.2.1 (by omega) hx h2) (fun h => ethB_range d s t a xs.length cap w (by omega)) (fun h h2 => ethB_long d s t a xs.length cap w h.1 h.2.1 h.2.2.1 h.2.2.2 h2)

theorem refethB_all (d s : Nat) (t : Int) (a : Option Addr) (xs : List Nat) (cap : Nat) (w : World) (hx : Bts w a xs) (hcap : a = none → cap = 0) :
    Calls Try.prog 18 #[.agg #[.int .u64 d, .int .u64 s, .int .i64 t, .slice a xs.length cap]] w (EthBAns d s t xs w) :=
  eth_all_of d s t a xs cap w (fun t' ht h h2 => by subst ht; exact refethB_ok d s t' a xs cap w h.1 h.2.1 (by omega) hx hcap h2) (fun h => refethB_range d s t a xs.length cap w (by omega)) (fun h h2 => refethB_long d s t a xs.length cap w h.1 h.2.1 h.2.2.1 h.2.2.2 h2)

/-- The same of ARP. -/
def arpBE (op : Int) (m1 m2 : Nat) : Int := if op = 1 ∨ op = 2 then (if m1 ≤ 281474976710655 ∧ m2 ≤ 281474976710655 then 0 else 4) else 31
def arpBR (op : Int) (m1 i1 m2 i2 : Nat) : List Nat := if (op = 1 ∨ op = 2) ∧ m1 ≤ 281474976710655 ∧ m2 ≤ 281474976710655 then arpO op.toNat m1 i1 m2 i2 else []

def ArpBAns (op : Int) (m1 i1 m2 i2 : Nat) (w : World) (e : Ending) (w' : World) : Prop :=
  ∃ a' cap', e = .returned (.tuple #[.slice a' (arpBR op m1 i1 m2 i2).length cap', .int .i64 (arpBE op m1 m2)]) ∧ OwnSl w.heap.size a' (arpBR op m1 i1 m2 i2) cap' w' ∧ Below w.heap.size w w'

theorem arp_all_of {f : Nat} (op : Int) (m1 i1 m2 i2 : Nat) (w : World)
    (hok : ∀ o : Nat, op = o → (o = 1 ∨ o = 2) → m1 ≤ 281474976710655 → m2 ≤ 281474976710655 → Calls Try.prog f #[.agg #[.int .i64 o, .int .u64 m1, .int .u32 i1, .int .u64 m2, .int .u32 i2]] w fun e w' => ∃ a' cap', e = .returned (.tuple #[.slice a' (arpO o m1 i1 m2 i2).length cap', .int .i64 0]) ∧ OwnSl w.heap.size a' (arpO o m1 i1 m2 i2) cap' w' ∧ Below w.heap.size w w')
    (hop : op ≠ 1 → op ≠ 2 → Calls Try.prog f #[.agg #[.int .i64 op, .int .u64 m1, .int .u32 i1, .int .u64 m2, .int .u32 i2]] w fun e w' => e = .returned (.tuple #[.slice none 0 0, .int .i64 31]) ∧ Below w.heap.size w w')
    (hmac : ∀ o : Nat, op = o → (o = 1 ∨ o = 2) → (281474976710655 < m1 ∨ 281474976710655 < m2) → Calls Try.prog f #[.agg #[.int .i64 o, .int .u64 m1, .int .u32 i1, .int .u64 m2, .int .u32 i2]] w fun e w' => e = .returned (.tuple #[.slice none 0 0, .int .i64 4]) ∧ Below w.heap.size w w') :
    Calls Try.prog f #[.agg #[.int .i64 op, .int .u64 m1, .int .u32 i1, .int .u64 m2, .int .u32 i2]] w (ArpBAns op m1 i1 m2 i2 w) := by
  unfold ArpBAns arpBR arpBE
  by_cases h1 : op = 1 ∨ op = 2
  · obtain ⟨o, rfl⟩ : ∃ o : Nat, op = o := ⟨op.toNat, by omega⟩
    have ho : o = 1 ∨ o = 2 := by omega
    by_cases h2 : m1 ≤ 281474976710655 ∧ m2 ≤ 281474976710655
    · rw [if_pos ⟨h1, h2⟩, if_pos h1, if_pos h2]
      exact hok o rfl ho h2.1 h2.2
    · rw [if_neg (fun h => h2 h.2), if_pos h1, if_neg h2]
      exact (hmac o rfl ho (by omega)).mono fun e w' h => ⟨none, 0, h.1, own_nil _ _, h.2⟩
  · rw [if_neg (fun h => h1 h.1), if_neg h1]
    exact (hop (fun h => h1 (.inl h)) (fun h => h1 (.inr h))).mono fun e w' h => ⟨none, 0, h.1, own_nil _ _, h.2⟩

theorem arpB_all (op : Int) (m1 i1 m2 i2 : Nat) (w : World) (hi1 : i1 < 4294967296) (hi2 : i2 < 4294967296) :
    Calls Try.prog 19 #[.agg #[.int .i64 op, .int .u64 m1, .int .u32 i1, .int .u64 m2, .int .u32 i2]] w (ArpBAns op m1 i1 m2 i2 w) :=
  arp_all_of op m1 i1 m2 i2 w (fun o _ ho h1 h2 => arpB_ok o m1 i1 m2 i2 w ho h1 h2 hi1 hi2) (fun h1 h2 => arpB_op op m1 i1 m2 i2 w h1 h2) (fun o _ ho h => arpB_mac o m1 i1 m2 i2 w ho h)

theorem refarpB_all (op : Int) (m1 i1 m2 i2 : Nat) (w : World) (hi1 : i1 < 4294967296) (hi2 : i2 < 4294967296) :
    Calls Try.prog 20 #[.agg #[.int .i64 op, .int .u64 m1, .int .u32 i1, .int .u64 m2, .int .u32 i2]] w (ArpBAns op m1 i1 m2 i2 w) :=
  arp_all_of op m1 i1 m2 i2 w (fun o _ ho h1 h2 => refarpB_ok o m1 i1 m2 i2 w ho h1 h2 hi1 hi2) (fun h1 h2 => refarpB_op op m1 i1 m2 i2 w h1 h2) (fun o _ ho h => refarpB_mac o m1 i1 m2 i2 w ho h)

/-- What Parse tells. -/
def ethPE (xs : List Nat) : Int := if xs.length < 14 then 8 else if 65535 < xs.length then 5 else 0
abbrev EthPok (xs : List Nat) : Prop := 14 ≤ xs.length ∧ xs.length ≤ 65535
def ethPD (xs : List Nat) : Nat := if EthPok xs then ethD xs else 0
def ethPS (xs : List Nat) : Nat := if EthPok xs then ethS xs else 0
def ethPT (xs : List Nat) : Nat := if EthPok xs then ethT xs else 0
def ethPds (xs : List Nat) : List Nat := if EthPok xs then xs.drop 14 else []

def EthPAns (xs : List Nat) (w : World) (e : Ending) (w' : World) : Prop :=
  ∃ a' cap', e = .returned (.tuple #[.agg #[.int .u64 (ethPD xs : Nat), .int .u64 (ethPS xs : Nat), .int .i64 (ethPT xs : Nat), .slice a' (ethPds xs).length cap'], .int .i64 (ethPE xs)]) ∧ OwnSl w.heap.size a' (ethPds xs) cap' w' ∧ Below w.heap.size w w'

theorem ethP_all_of {f : Nat} (a : Option Addr) (xs : List Nat) (cap : Nat) (w : World)
    (hsh : xs.length < 14 → Calls Try.prog f #[.slice a xs.length cap] w fun e w' => e = .returned (.tuple #[.agg #[.int .u64 0, .int .u64 0, .int .i64 0, .slice none 0 0], .int .i64 8]) ∧ Below w.heap.size w w')
    (hlo : 65535 < xs.length → Calls Try.prog f #[.slice a xs.length cap] w fun e w' => e = .returned (.tuple #[.agg #[.int .u64 0, .int .u64 0, .int .i64 0, .slice none 0 0], .int .i64 5]) ∧ Below w.heap.size w w')
    (hok : 14 ≤ xs.length → xs.length ≤ 65535 → Calls Try.prog f #[.slice a xs.length cap] w fun e w' => ∃ a' cap', e = .returned (.tuple #[.agg #[.int .u64 (ethD xs : Nat), .int .u64 (ethS xs : Nat), .int .i64 (ethT xs : Nat), .slice a' (xs.drop 14).length cap'], .int .i64 0]) ∧ OwnSl w.heap.size a' (xs.drop 14) cap' w' ∧ Below w.heap.size w w') :
    Calls Try.prog f #[.slice a xs.length cap] w (EthPAns xs w) := by
  unfold EthPAns ethPE ethPD ethPS ethPT ethPds
  by_cases h1 : xs.length < 14
  · have hn : ¬ EthPok xs := by omega
    simp only [if_pos h1, if_neg hn]
    exact (hsh h1).mono fun e w' h => ⟨none, 0, h.1, own_nil _ _, h.2⟩
  · by_cases h2 : 65535 < xs.length
    · have hn : ¬ EthPok xs := by omega
      simp only [if_neg h1, if_pos h2, if_neg hn]
      exact (hlo h2).mono fun e w' h => ⟨none, 0, h.1, own_nil _ _, h.2⟩
    · have hn : EthPok xs := by omega
      simp only [if_neg h1, if_neg h2, if_pos hn]
      exact hok hn.1 hn.2

theorem ethP_all (a : Option Addr) (xs : List Nat) (cap : Nat) (w : World) (hx : Bts w a xs) (hc : xs.length ≤ cap) (hm : cap ≤ maxLen) (hl : xs.length ≤ 140737488355328) :
    Calls Try.prog 21 #[.slice a xs.length cap] w (EthPAns xs w) :=
  ethP_all_of a xs cap w (fun h => eth_short a xs cap w h) (fun h => eth_long a xs cap w h hl) (fun h1 h2 => eth_ok a xs cap w hx hc hm h1 h2)

theorem refethP_all (a : Option Addr) (xs : List Nat) (cap : Nat) (w : World) (hx : Bts w a xs) (hc : xs.length ≤ cap) (hm : cap ≤ maxLen) (hl : xs.length ≤ 140737488355328) :
    Calls Try.prog 22 #[.slice a xs.length cap] w (EthPAns xs w) :=
  ethP_all_of a xs cap w (fun h => refeth_short a xs cap w h) (fun h => refeth_long a xs cap w h hl) (fun h1 h2 => refeth_ok a xs cap w hx hc hm h1 h2)

/-- What ParseArp tells. -/
instance (xs : List Nat) : Decidable (arpBegins xs) := by unfold arpBegins; infer_instance
abbrev ArpPok (xs : List Nat) : Prop := 28 ≤ xs.length ∧ arpBegins xs ∧ (xs.getD 7 0 = 1 ∨ xs.getD 7 0 = 2)
def arpPE (xs : List Nat) : Int := if xs.length < 28 then 8 else if ArpPok xs then 0 else 31
def arpPop (xs : List Nat) : Nat := if ArpPok xs then xs.getD 7 0 else 0
def arpP1 (xs : List Nat) : Nat := if ArpPok xs then arpM1 xs else 0
def arpP2 (xs : List Nat) : Nat := if ArpPok xs then arpI1 xs else 0
def arpP3 (xs : List Nat) : Nat := if ArpPok xs then arpM2 xs else 0
def arpP4 (xs : List Nat) : Nat := if ArpPok xs then arpI2 xs else 0

def ArpPAns (xs : List Nat) (w : World) (e : Ending) (w' : World) : Prop :=
  e = .returned (.tuple #[.agg #[.int .i64 (arpPop xs : Nat), .int .u64 (arpP1 xs : Nat), .int .u32 (arpP2 xs : Nat), .int .u64 (arpP3 xs : Nat), .int .u32 (arpP4 xs : Nat)], .int .i64 (arpPE xs)]) ∧ Below w.heap.size w w'

theorem arpP_all_of {f : Nat} (a : Option Addr) (xs : List Nat) (cap : Nat) (w : World)
    (hsh : xs.length < 28 → Calls Try.prog f #[.slice a xs.length cap] w fun e w' => e = .returned (.tuple #[.agg #[.int .i64 0, .int .u64 0, .int .u32 0, .int .u64 0, .int .u32 0], .int .i64 8]) ∧ Below w.heap.size w w')
    (hok : 28 ≤ xs.length → Calls Try.prog f #[.slice a xs.length cap] w (ArpAns xs w)) :
    Calls Try.prog f #[.slice a xs.length cap] w (ArpPAns xs w) := by
  unfold ArpPAns arpPE arpPop arpP1 arpP2 arpP3 arpP4
  by_cases h1 : xs.length < 28
  · have hn : ¬ ArpPok xs := fun h => by have := h.1; omega
    simp only [if_pos h1, if_neg hn]
    exact hsh h1
  · refine (hok (by omega)).mono ?_
    rintro e w' (⟨hc, he, hb⟩ | ⟨hc, he, hb⟩)
    · have hn : ArpPok xs := ⟨by omega, hc⟩
      simp only [if_neg h1, if_pos hn]
      exact ⟨he, hb⟩
    · have hn : ¬ ArpPok xs := fun h => hc h.2
      simp only [if_neg h1, if_neg hn]
      exact ⟨he, hb⟩

theorem arpP_all (a : Option Addr) (xs : List Nat) (cap : Nat) (w : World) (hx : Bts w a xs) (hc : xs.length ≤ cap) (hm : cap ≤ maxLen) (hl : xs.length ≤ 140737488355328) :
    Calls Try.prog 23 #[.slice a xs.length cap] w (ArpPAns xs w) :=
  arpP_all_of a xs cap w (fun h => arp_short a xs cap w h) (fun h => arp_any a xs cap w hx hc hm h hl)

theorem refarpP_all (a : Option Addr) (xs : List Nat) (cap : Nat) (w : World) (hx : Bts w a xs) (hc : xs.length ≤ cap) (hm : cap ≤ maxLen) (hl : xs.length ≤ 140737488355328) :
    Calls Try.prog 24 #[.slice a xs.length cap] w (ArpPAns xs w) :=
  arpP_all_of a xs cap w (fun h => refarp_short a xs cap w h) (fun h => refarp_any a xs cap w hx hc hm h hl)
end Go.Proofs.Ytdiomelldhkibaa
