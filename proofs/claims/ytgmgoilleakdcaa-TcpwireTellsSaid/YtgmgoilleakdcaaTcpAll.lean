/- What tcpwire.Parse gives, of any octets. -/
import Derived.Test.YtgmgoilleakdcaaTcpPc
namespace Go.Proofs.Ytgmgoilleakdcaa
open Go.RowKit

/-- How long a segment's head says it is. -/
def tHd (xs : List Nat) : Nat := 4 * (xs.getD 12 0 / 16)
/-- The octets of its options. -/
def tOs (xs : List Nat) : List Nat := seg xs 20 (tHd xs - 20)
def tRead (xs : List Nat) : Option TOpt := tOpts ((tOs xs).length + 1) (tOs xs) [] tOpt0

/-- Is it a segment that came from src to dst, but for its options? -/
def TcpOk (xs : List Nat) (src dst : Nat) : Prop := 20 ≤ xs.length ∧ xs.length ≤ 65535 ∧ 20 ≤ tHd xs ∧ tHd xs ≤ xs.length ∧ tcpSum xs src dst = 65535

/-- What Parse reads. -/
def tP (xs : List Nat) (d v : Value) (s : TOpt) : Array Value :=
  pC (Mt.numOf (seg xs 0 2)) (Mt.numOf (seg xs 2 2)) (Mt.numOf (seg xs 4 4)) (Mt.numOf (seg xs 8 4)) (xs.getD 13 0) (Mt.numOf (seg xs 14 2)) (Mt.numOf (seg xs 18 2)) d v s

theorem num_at {w : World} {b off : Nat} {xs : List Nat} (hx : Bts w (some ⟨b, off, none⟩) xs) (i n : Nat) (hn : 1 ≤ n) (hn8 : n ≤ 8) (hi : i + n ≤ xs.length) (c : Nat) (W : World) (h : Below w.heap.size w W) :
    Calls Try.prog 30 #[.slice (some ⟨b, off + i, none⟩) n c] W fun e w' => e = .returned (.int .u64 (Mt.numOf (seg xs i n) : Nat)) ∧ W = w' := by
  have hl := seg_length xs i n hi
  have hp := pnum_tcpwire (some ⟨b, off + i, none⟩) (seg xs i n) c W ((hx.segOf i n hi).below h) (by omega) (by omega)
  rw [hl] at hp
  exact hp

theorem num_bd {xs : List Nat} (hx : ∀ x ∈ xs, x < 256) (i n : Nat) (hi : i + n ≤ xs.length) : Mt.numOf (seg xs i n) < 256 ^ n := by
  have h := Mt.numOf_lt (seg xs i n) (seg_lt hx i n)
  rw [seg_length xs i n hi] at h
  exact h

theorem tcpP_read (a : Option Addr) (xs : List Nat) (cap src dst : Nat) (w : World) (hx : Bts w a xs) (hc : xs.length ≤ cap) (hs : src < 4294967296) (hd : dst < 4294967296) (hok : TcpOk xs src dst) :
    Calls Try.prog 10 #[.slice a xs.length cap, .int .u32 src, .int .u32 dst] w fun e w' => Below w.heap.size w w' ∧ ((tRead xs = none ∧ e = .returned (.tuple #[.agg tcpZ, .int .i64 51])) ∨
      (∃ s v da dc, tRead xs = some s ∧ e = .returned (.tuple #[.agg (tP xs (.slice da (xs.drop (tHd xs)).length dc) v s), .int .i64 0]) ∧ OwnSl (w.heap.size + 1) da (xs.drop (tHd xs)) dc w' ∧ w'.ownsRow w.heap.size 68 2 v s.bs.length (blkCells s.bs))) := by
  obtain ⟨h1, h2, h3, h4, h5⟩ := hok
  obtain ⟨b, off, rfl, hb, hcx⟩ := hx.isSome (by omega)
  have hsum : ∀ W, Below w.heap.size w W → Calls Try.prog 26 #[.slice (some ⟨b, off, none⟩) xs.length cap, .int .u32 src, .int .u32 dst] W fun e W' => e = .returned (.int .u16 65535) ∧ Below W.heap.size W W' := fun W h => by
    have q := tsum_any (some ⟨b, off, none⟩) xs cap src dst W (hx.below h) (by omega) hs hd
    rw [h5] at q
    exact q
  exact tcpP_core b off xs cap src dst w (xs.getD 12 0) (xs.getD 13 0) (xs.getD 12 0 / 16) (tHd xs) (Mt.numOf (seg xs 0 2)) (Mt.numOf (seg xs 2 2)) (Mt.numOf (seg xs 4 4)) (Mt.numOf (seg xs 8 4)) (Mt.numOf (seg xs 14 2)) (Mt.numOf (seg xs 18 2)) hb h1 h2 hc (hcx 12 (by omega)) (hcx 13 (by omega)) (Mt.getD_lt xs hx.1 12) rfl rfl h3 h4 hsum
    (num_at hx 0 2 (by omega) (by omega) (by omega)) (num_bd hx.1 0 2 (by omega)) (num_at hx 2 2 (by omega) (by omega) (by omega)) (num_bd hx.1 2 2 (by omega)) (num_at hx 4 4 (by omega) (by omega) (by omega)) (num_bd hx.1 4 4 (by omega)) (num_at hx 8 4 (by omega) (by omega) (by omega)) (num_bd hx.1 8 4 (by omega)) (num_at hx 14 2 (by omega) (by omega) (by omega)) (num_bd hx.1 14 2 (by omega)) (num_at hx 18 2 (by omega) (by omega) (by omega)) (num_bd hx.1 18 2 (by omega))
    (xs.drop (tHd xs)) (tOs xs) (hx.rest (tHd xs) h4) (by rw [List.length_drop]) (hx.segOf 20 (tHd xs - 20) (by omega)) (seg_length xs 20 (tHd xs - 20) (by omega))

/-- What is told of octets that are no segment. -/
def TcpNone (w : World) (e : Ending) (w' : World) : Prop := (∃ n : Int, n ≠ 0 ∧ e = .returned (.tuple #[.agg tcpZ, .int .i64 n])) ∧ Below w.heap.size w w'

theorem tcpP_none (a : Option Addr) (xs : List Nat) (cap src dst : Nat) (w : World) (hx : Bts w a xs) (hs : src < 4294967296) (hd : dst < 4294967296) (hl : xs.length ≤ 140737488355328) (hok : ¬ TcpOk xs src dst) :
    Calls Try.prog 10 #[.slice a xs.length cap, .int .u32 src, .int .u32 dst] w (TcpNone w) := by
  by_cases h1 : xs.length < 20
  · exact (tcpP_short a xs cap src dst w h1).mono fun e w' h => ⟨⟨8, by decide, h.1⟩, h.2⟩
  · by_cases h2 : 65535 < xs.length
    · exact (tcpP_long a xs cap src dst w h2).mono fun e w' h => ⟨⟨5, by decide, h.1⟩, h.2⟩
    · obtain ⟨b, off, rfl, hb, hcx⟩ := hx.isSome (by omega)
      by_cases h3 : tHd xs < 20 ∨ xs.length < tHd xs
      · exact (tcpP_head b off xs cap src dst w (xs.getD 12 0) (xs.getD 12 0 / 16) (tHd xs) hb (by omega) (by omega) (hcx 12 (by omega)) (Mt.getD_lt xs hx.1 12) rfl rfl h3).mono fun e w' h => ⟨⟨42, by decide, h.1⟩, h.2⟩
      · have h5 : tcpSum xs src dst ≠ 65535 := fun h => hok ⟨by omega, by omega, by omega, by omega, h⟩
        exact (tcpP_sum b off xs cap src dst w (xs.getD 12 0) (xs.getD 12 0 / 16) (tHd xs) (tcpSum xs src dst) hb (by omega) (by omega) (hcx 12 (by omega)) (Mt.getD_lt xs hx.1 12) rfl rfl (by omega) (by omega) (fun W h => tsum_any (some ⟨b, off, none⟩) xs cap src dst W (hx.below h) (by omega) hs hd) h5).mono fun e w' h => ⟨⟨21, by decide, h.1⟩, h.2⟩
end Go.Proofs.Ytgmgoilleakdcaa
