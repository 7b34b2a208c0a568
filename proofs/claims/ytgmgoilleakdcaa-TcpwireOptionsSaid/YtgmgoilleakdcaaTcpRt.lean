/- What tcpwire.Build lays, tcpwire.Parse reads. -/
import Derived.Test.YtgmgoilleakdcaaTcpBack
import Derived.Test.YtgmgoilleakdcaaGSameTcp
import Derived.Test.YtgmgoilleakdcaaTcpL
namespace Go.Proofs.Ytgmgoilleakdcaa
open Go.RowKit

theorem OwnBlk.of_row {B : Nat} {v : Value} {bs : List (Nat × Nat)} {w : World} (hb : ∀ p ∈ bs, p.1 < 4294967296 ∧ p.2 < 4294967296) (h : w.ownsRow B 68 2 v bs.length (blkCells bs)) : ∃ a cap, v = .slice a bs.length cap ∧ OwnBlk B w a bs cap := by
  rcases h.2 with ⟨rfl, h0⟩ | ⟨g, cap, cur, rfl, hB, h2, h3, h4, h5, h6⟩
  · obtain rfl : bs = [] := List.eq_nil_of_length_eq_zero h0
    exact ⟨none, 0, rfl, ⟨hb, .inl rfl⟩, .inl ⟨rfl, rfl⟩⟩
  · have hlt : g < w.heap.size := (Array.getElem?_eq_some_iff.1 h2).1
    have hc : ∀ j, j < bs.length * 2 → w.cell? ⟨g, 0 + j, none⟩ = (blkCells bs)[j]? := fun j hj => by
      rw [Nat.zero_add, blk_cell h2, ← h6, List.getElem?_take_of_lt hj]
      simp
    refine ⟨some ⟨g, 0, none⟩, cap, rfl, ⟨hb, .inr ⟨g, 0, rfl, hlt, fun i hi => ?_⟩⟩, .inr ⟨g, rfl, hB⟩⟩
    have hg := blkCells_get bs i hi
    rw [Nat.add_assoc, hc _ (by omega), hc _ (by omega)]
    exact hg

/-- Parse gives back what Build laid. -/
theorem tcpP_ok (sp dp sq ak fl wn ur mss : Nat) (hs : Bool) (sc : Nat) (sk : Bool) (bs : List (Nat × Nat)) (ht : Bool) (tv te : Nat) (ds : List Nat) (src dst : Nat) (hm : TcpMay mss hs sc sk bs ht tv te ds.length) (hsp : sp < 65536) (hdp : dp < 65536) (hsq : sq < 4294967296) (hak : ak < 4294967296) (hfl : fl < 256) (hwn : wn < 65536) (hur : ur < 65536) (htv : tv < 4294967296) (hte : te < 4294967296) (hsrc : src < 4294967296) (hdst : dst < 4294967296) (hbs : ∀ p ∈ bs, p.1 < 4294967296 ∧ p.2 < 4294967296) (hdx : ∀ x ∈ ds, x < 256) (R : List Nat) (hR : tcpO sp dp sq ak fl wn ur mss hs sc sk bs ht tv te ds src dst = R) (a : Option Addr) (cap : Nat) (w : World) (hx : Bts w a R) (hc : R.length ≤ cap) :
    Calls Try.prog 10 #[.slice a R.length cap, .int .u32 src, .int .u32 dst] w fun e w' => ∃ ba bc da dc, e = .returned (.tuple #[.agg (tcpV sp dp sq ak fl wn ur mss hs sc sk ba bs.length bc ht tv te da ds.length dc), .int .i64 0]) ∧ OwnBlk w.heap.size w' ba bs bc ∧ OwnSl (w.heap.size + 1) da ds dc w' ∧ Below w.heap.size w w' := by
  obtain ⟨hok, _, hrd, hd, _, _, hP⟩ := tcp_back sp dp sq ak fl wn ur mss hs sc sk bs ht tv te ds src dst hm hsp hdp hsq hak hfl hwn hur htv hte hsrc hdst hbs hdx R hR
  refine (tcpP_read a R cap src dst w hx hc hsrc hdst hok).mono ?_
  rintro e w' ⟨hb, ⟨h, _⟩ | ⟨s, v, da, dc, h, rfl, hO, hr⟩⟩
  · rw [hrd] at h; cases h
  · rw [hrd] at h
    cases h
    rw [hd] at hO ⊢
    obtain ⟨ba, bc, rfl, hB⟩ := OwnBlk.of_row (B := w.heap.size) hbs hr
    refine ⟨ba, bc, da, dc, ?_, hB, hO, hb⟩
    rw [hP]
    rfl

/-- SameTcp of a segment and what was read of it. -/
theorem sameTcpV (sp dp sq ak fl wn ur mss : Nat) (hs : Bool) (sc : Nat) (sk : Bool) (bs : List (Nat × Nat)) (ht : Bool) (tv te : Nat) (ds : List Nat) (a1 a2 b1 b2 : Option Addr) (c1 c2 d1 d2 : Nat) (w : World) (h1 : Blk w a1 bs) (h2 : Blk w a2 bs) (hl : bs.length ≤ 17592186044416) (h3 : Bts w b1 ds) (h4 : Bts w b2 ds) (hl2 : ds.length ≤ 140737488355328) :
    Calls Try.prog 14 #[.agg (tcpV sp dp sq ak fl wn ur mss hs sc sk a1 bs.length c1 ht tv te b1 ds.length d1), .agg (tcpV sp dp sq ak fl wn ur mss hs sc sk a2 bs.length c2 ht tv te b2 ds.length d2)] w fun e w' => e = .returned (.bool true) ∧ Below w.heap.size w w' :=
  sameTcp_one sp dp sq ak fl wn ur mss hs sc sk a1 a2 bs c1 c2 ht tv te b1 b2 ds d1 d2 w h1 h2 hl h3 h4 hl2
end Go.Proofs.Ytgmgoilleakdcaa
