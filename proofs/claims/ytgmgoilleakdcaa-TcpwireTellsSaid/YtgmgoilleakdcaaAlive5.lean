/- What the document's Parse gives, of any octets. -/
import Derived.Test.YtgmgoilleakdcaaTcpRg
import Derived.Test.YtgmgoilleakdcaaTcpAll
import Derived.Test.YtgmgoilleakdcaaTcpRt
import Derived.Test.YtgmgoilleakdcaaTcpO
namespace Go.Proofs.Ytgmgoilleakdcaa
open Go.RowKit

theorem rnum_at {w : World} {b off : Nat} {xs : List Nat} (hx : Bts w (some ⟨b, off, none⟩) xs) (i n : Nat) (hn : 1 ≤ n) (hn8 : n ≤ 4) (hi : i + n ≤ xs.length) (c : Nat) (W : World) (h : Below w.heap.size w W) :
    Calls Try.prog 34 #[.slice (some ⟨b, off + i, none⟩) n c] W fun e w' => e = .returned (.int .u32 (Mt.numOf (seg xs i n) : Nat)) ∧ W = w' := by
  have hl := seg_length xs i n hi
  have hp := rword_any (some ⟨b, off + i, none⟩) (seg xs i n) c W ((hx.segOf i n hi).below h) (by omega)
  rw [hl] at hp
  exact hp

theorem rtcpP_read (a : Option Addr) (xs : List Nat) (cap src dst : Nat) (w : World) (hx : Bts w a xs) (hc : xs.length ≤ cap) (hs : src < 4294967296) (hd : dst < 4294967296) (hok : TcpOk xs src dst) :
    Calls Try.prog 11 #[.slice a xs.length cap, .int .u32 src, .int .u32 dst] w fun e w' => Below w.heap.size w w' ∧ ((tRead xs = none ∧ e = .returned (.tuple #[.agg tcpZ, .int .i64 51])) ∨
      RtcpO w.heap.size (Mt.numOf (seg xs 0 2)) (Mt.numOf (seg xs 2 2)) (Mt.numOf (seg xs 4 4)) (Mt.numOf (seg xs 8 4)) (xs.getD 13 0) (Mt.numOf (seg xs 14 2)) (Mt.numOf (seg xs 18 2)) (xs.drop (tHd xs)) (tOs xs) e w') := by
  obtain ⟨h1, h2, h3, h4, h5⟩ := hok
  obtain ⟨b, off, rfl, hb, hcx⟩ := hx.isSome (by omega)
  have hsum : ∀ W, Below w.heap.size w W → Calls Try.prog 29 #[.slice (some ⟨b, off, none⟩) xs.length cap, .int .u32 src, .int .u32 dst] W fun e W' => e = .returned (.int .u16 65535) ∧ Below W.heap.size W W' := fun W h => by
    have q := rwhole_any (some ⟨b, off, none⟩) xs cap src dst W (hx.below h) (by omega) hs hd
    rw [h5] at q
    exact q
  exact rtcpP_core b off xs cap src dst w (xs.getD 12 0) (xs.getD 13 0) (xs.getD 12 0 / 16) (tHd xs) (Mt.numOf (seg xs 0 2)) (Mt.numOf (seg xs 2 2)) (Mt.numOf (seg xs 4 4)) (Mt.numOf (seg xs 8 4)) (Mt.numOf (seg xs 14 2)) (Mt.numOf (seg xs 18 2)) hb h1 h2 hc (hcx 12 (by omega)) (hcx 13 (by omega)) (Mt.getD_lt xs hx.1 12) rfl rfl h3 h4 hsum
    (rnum_at hx 0 2 (by omega) (by omega) (by omega)) (num_bd hx.1 0 2 (by omega)) (rnum_at hx 2 2 (by omega) (by omega) (by omega)) (num_bd hx.1 2 2 (by omega)) (rnum_at hx 4 4 (by omega) (by omega) (by omega)) (num_bd hx.1 4 4 (by omega)) (rnum_at hx 8 4 (by omega) (by omega) (by omega)) (num_bd hx.1 8 4 (by omega)) (rnum_at hx 14 2 (by omega) (by omega) (by omega)) (num_bd hx.1 14 2 (by omega)) (rnum_at hx 18 2 (by omega) (by omega) (by omega)) (num_bd hx.1 18 2 (by omega))
    (xs.drop (tHd xs)) (tOs xs) (hx.rest (tHd xs) h4) (by rw [List.length_drop]) (hx.segOf 20 (tHd xs - 20) (by omega)) (seg_length xs 20 (tHd xs - 20) (by omega))

theorem rtcpP_none (a : Option Addr) (xs : List Nat) (cap src dst : Nat) (w : World) (hx : Bts w a xs) (hs : src < 4294967296) (hd : dst < 4294967296) (hl : xs.length ≤ 140737488355328) (hok : ¬ TcpOk xs src dst) :
    Calls Try.prog 11 #[.slice a xs.length cap, .int .u32 src, .int .u32 dst] w (TcpNone w) := by
  by_cases h1 : xs.length < 20
  · exact (rtcpP_short a xs cap src dst w h1).mono fun e w' h => ⟨⟨8, by decide, h.1⟩, h.2⟩
  · by_cases h2 : 65535 < xs.length
    · exact (rtcpP_long a xs cap src dst w h2).mono fun e w' h => ⟨⟨5, by decide, h.1⟩, h.2⟩
    · obtain ⟨b, off, rfl, hb, hcx⟩ := hx.isSome (by omega)
      by_cases h3 : tHd xs < 20 ∨ xs.length < tHd xs
      · exact (rtcpP_head b off xs cap src dst w (xs.getD 12 0) (xs.getD 12 0 / 16) (tHd xs) hb (by omega) (by omega) (hcx 12 (by omega)) (Mt.getD_lt xs hx.1 12) rfl rfl h3).mono fun e w' h => ⟨⟨42, by decide, h.1⟩, h.2⟩
      · have h5 : tcpSum xs src dst ≠ 65535 := fun h => hok ⟨by omega, by omega, by omega, by omega, h⟩
        exact (rtcpP_sum b off xs cap src dst w (xs.getD 12 0) (xs.getD 12 0 / 16) (tHd xs) (tcpSum xs src dst) hb (by omega) (by omega) (hcx 12 (by omega)) (Mt.getD_lt xs hx.1 12) rfl rfl (by omega) (by omega) (fun W h => rwhole_any (some ⟨b, off, none⟩) xs cap src dst W (hx.below h) (by omega) hs hd) h5).mono fun e w' h => ⟨⟨21, by decide, h.1⟩, h.2⟩
end Go.Proofs.Ytgmgoilleakdcaa

namespace Go.Proofs.Ytgmgoilleakdcaa
open Go.RowKit

def BsLt (bs : List (Nat × Nat)) : Prop := ∀ p ∈ bs, p.1 < 4294967296 ∧ p.2 < 4294967296
theorem blkOf_lt (ys : List Nat) : BsLt (blkOf ys) := fun p hp => by
  unfold blkOf at hp
  rw [List.mem_map] at hp
  obtain ⟨x, _, rfl⟩ := hp
  exact x.2
theorem blkOf_len (ys : List Nat) : (blkOf ys).length = ys.length / 8 := by unfold blkOf; rw [List.length_map, tbL_length]
theorem setO_bs (s : TOpt) (k : Nat) (ys : List Nat) (hs : BsLt s.bs) : BsLt (setO s k ys).bs ∧ (setO s k ys).bs.length ≤ s.bs.length + ys.length := by
  unfold setO
  split
  · exact ⟨hs, by dsimp only; omega⟩
  split
  · exact ⟨hs, by dsimp only; omega⟩
  split
  · exact ⟨hs, by dsimp only; omega⟩
  split
  · exact ⟨hs, by dsimp only; omega⟩
  split
  · refine ⟨fun p hp => ?_, ?_⟩
    · rcases List.mem_append.1 hp with h | h
      · exact hs p h
      · exact blkOf_lt ys p h
    · show (s.bs ++ blkOf ys).length ≤ _
      rw [List.length_append, blkOf_len]; omega
  · exact ⟨hs, by omega⟩
theorem tOpts_bs : ∀ (f : Nat) (xs ks : List Nat) (s r : TOpt), BsLt s.bs → tOpts f xs ks s = some r → BsLt r.bs ∧ r.bs.length ≤ s.bs.length + xs.length
  | 0, xs, ks, s, r, _, h => by cases h
  | f + 1, xs, ks, s, r, hs, h => by
    rw [tOpts_succ] at h
    by_cases h0 : xs.length = 0
    · rw [if_pos h0] at h; cases h; exact ⟨hs, by omega⟩
    rw [if_neg h0] at h
    by_cases h1 : xs.getD 0 0 = 0
    · rw [if_pos h1] at h; cases h; exact ⟨hs, by omega⟩
    rw [if_neg h1] at h
    by_cases h2 : xs.getD 0 0 = 1
    · rw [if_pos h2] at h
      have q := tOpts_bs f (xs.drop 1) ks s r hs h
      exact ⟨q.1, by have := q.2; rw [List.length_drop] at this; omega⟩
    rw [if_neg h2] at h
    by_cases h3 : xs.length < 2
    · rw [if_pos h3] at h; cases h
    rw [if_neg h3] at h
    by_cases h4 : xs.getD 1 0 < 2 ∨ xs.length < xs.getD 1 0 ∨ tcpFits (xs.getD 0 0) (xs.getD 1 0) = false
    · rw [if_pos h4] at h; cases h
    rw [if_neg h4] at h
    have h5 : 2 ≤ xs.getD 1 0 ∧ xs.getD 1 0 ≤ xs.length := by
      refine ⟨?_, ?_⟩
      · by_cases hh : xs.getD 1 0 < 2
        · exact absurd (.inl hh) h4
        · omega
      · by_cases hh : xs.length < xs.getD 1 0
        · exact absurd (.inr (.inl hh)) h4
        · omega
    have hl : (seg xs 2 (xs.getD 1 0 - 2)).length = xs.getD 1 0 - 2 := seg_length xs 2 _ (by omega)
    by_cases h6 : xs.getD 0 0 ∈ ks
    · rw [if_pos h6] at h
      have q := tOpts_bs f (xs.drop (xs.getD 1 0)) _ s r hs h
      exact ⟨q.1, by have := q.2; rw [List.length_drop] at this; omega⟩
    · rw [if_neg h6] at h
      have z := setO_bs s (xs.getD 0 0) (seg xs 2 (xs.getD 1 0 - 2)) hs
      have q := tOpts_bs f (xs.drop (xs.getD 1 0)) _ _ r z.1 h
      exact ⟨q.1, by have := q.2; have := z.2; rw [List.length_drop] at *; omega⟩

/-- What Parse gives in words of what it read: the fields, the slices that hold them, the error. -/
def Reads (sp dp sq ak fl wn ur : Nat) (s : TOpt) (ds : List Nat) (er : Int) (W : World) (e : Ending) (w' : World) : Prop :=
  ∃ da dc va vc, e = .returned (.tuple #[.agg (tcpV sp dp sq ak fl wn ur s.mss s.hs s.sc s.sk va s.bs.length vc s.ht s.tv s.te da ds.length dc), .int .i64 er]) ∧ Below W.heap.size W w' ∧ Bts w' da ds ∧ Blk w' va s.bs

theorem BC5_cells (bs : List (Nat × Nat)) : bs.flatMap BC5 = blkCells bs := rfl

theorem OwnBlk.of_rowV {B cap : Nat} {a : Option Addr} {bs : List (Nat × Nat)} {w : World} (hb : BsLt bs) (h : w.ownsRow B 68 2 (.slice a bs.length cap) bs.length (blkCells bs)) : Blk w a bs := by
  obtain ⟨a', cap', e, h1⟩ := OwnBlk.of_row hb h
  cases e
  exact h1.1

theorem both_parse (HH : List Nat) (src dst : Nat) (hx : ∀ x ∈ HH, x < 256) (h20 : 20 ≤ HH.length) (h65 : HH.length ≤ 65535) (hs : src < 4294967296) (hd : dst < 4294967296) (hsum : tcpSum HH src dst = 65535) :
    ∃ (sp dp sq ak fl wn ur : Nat) (s : TOpt) (ds : List Nat) (er : Int), er ≠ 21 ∧ s.bs.length ≤ 65535 ∧ ds.length ≤ 65535 ∧ 
      (∀ a cap W, Bts W a HH → HH.length ≤ cap → Calls Try.prog 10 #[.slice a HH.length cap, .int .u32 src, .int .u32 dst] W (Reads sp dp sq ak fl wn ur s ds er W)) ∧
      (∀ a cap W, Bts W a HH → HH.length ≤ cap → Calls Try.prog 11 #[.slice a HH.length cap, .int .u32 src, .int .u32 dst] W (Reads sp dp sq ak fl wn ur s ds er W)) := by
  have zero : ∀ (er : Int) (W w' : World) (e : Ending), Below W.heap.size W w' → e = .returned (.tuple #[.agg tcpZ, .int .i64 er]) → Reads 0 0 0 0 0 0 0 tOpt0 [] er W e w' := fun er W w' e hb he =>
    ⟨none, 0, none, 0, he, hb, Bts.nil _ _, ⟨fun p h => (by cases h), .inl rfl⟩⟩
  by_cases h3 : tHd HH < 20 ∨ HH.length < tHd HH
  · refine ⟨0, 0, 0, 0, 0, 0, 0, tOpt0, [], 42, by decide, by decide, by decide, fun a cap W hB hc => ?_, fun a cap W hB hc => ?_⟩
    · obtain ⟨b, off, rfl, hb, hcx⟩ := hB.isSome (by omega)
      exact (tcpP_head b off HH cap src dst W (HH.getD 12 0) (HH.getD 12 0 / 16) (tHd HH) hb (by omega) (by omega) (hcx 12 (by omega)) (Mt.getD_lt HH hx 12) rfl rfl h3).mono fun e w' h => zero 42 W w' e h.2 h.1
    · obtain ⟨b, off, rfl, hb, hcx⟩ := hB.isSome (by omega)
      exact (rtcpP_head b off HH cap src dst W (HH.getD 12 0) (HH.getD 12 0 / 16) (tHd HH) hb (by omega) (by omega) (hcx 12 (by omega)) (Mt.getD_lt HH hx 12) rfl rfl h3).mono fun e w' h => zero 42 W w' e h.2 h.1
  · have hok : TcpOk HH src dst := ⟨h20, h65, by omega, by omega, hsum⟩
    cases hr : tRead HH with
    | none =>
      refine ⟨0, 0, 0, 0, 0, 0, 0, tOpt0, [], 51, by decide, by decide, by decide, fun a cap W hB hc => ?_, fun a cap W hB hc => ?_⟩
      · refine (tcpP_read a HH cap src dst W hB hc hs hd hok).mono ?_
        rintro e w' ⟨hb, ⟨_, he⟩ | ⟨s, v, da, dc, h, _⟩⟩
        · exact zero 51 W w' e hb he
        · rw [hr] at h; cases h
      · refine (rtcpP_read a HH cap src dst W hB hc hs hd hok).mono ?_
        rintro e w' ⟨hb, ⟨_, he⟩ | ⟨s, va, vc, da, dc, h, _⟩⟩
        · exact zero 51 W w' e hb he
        · have h' : tRead HH = some s := h
          rw [hr] at h'; cases h'
    | some s =>
      have hbs := tOpts_bs _ (tOs HH) [] tOpt0 s (fun p h => by cases h) hr
      have hol : (tOs HH).length ≤ 65535 := by
        unfold tOs seg; rw [List.length_take, List.length_drop]; omega
      have hb0 : tOpt0.bs.length = 0 := rfl
      refine ⟨Mt.numOf (seg HH 0 2), Mt.numOf (seg HH 2 2), Mt.numOf (seg HH 4 4), Mt.numOf (seg HH 8 4), HH.getD 13 0, Mt.numOf (seg HH 14 2), Mt.numOf (seg HH 18 2), s, HH.drop (tHd HH), 0, by decide, by have := hbs.2; omega, by rw [List.length_drop]; omega, fun a cap W hB hc => ?_, fun a cap W hB hc => ?_⟩
      · refine (tcpP_read a HH cap src dst W hB hc hs hd hok).mono ?_
        rintro e w' ⟨hb, ⟨h, _⟩ | ⟨s', v, da, dc, h, rfl, hO, hR⟩⟩
        · rw [hr] at h; cases h
        · rw [hr] at h; cases h
          obtain ⟨va, vc, rfl, hB'⟩ := OwnBlk.of_row (B := W.heap.size) hbs.1 hR
          exact ⟨da, dc, va, vc, rfl, hb, hO.bts, hB'.1⟩
      · refine (rtcpP_read a HH cap src dst W hB hc hs hd hok).mono ?_
        rintro e w' ⟨hb, ⟨h, _⟩ | ⟨s', va, vc, da, dc, h, rfl, hO, hR⟩⟩
        · have h' : tRead HH = none := h
          rw [hr] at h'; cases h'
        · have h' : tRead HH = some s' := h
          rw [hr] at h'; cases h'
          exact ⟨da, dc, va, vc, rfl, hb, hO.bts, OwnBlk.of_rowV hbs.1 hR.rowAny⟩
end Go.Proofs.Ytgmgoilleakdcaa

namespace Go.Proofs.Ytgmgoilleakdcaa
open Go.RowKit

/-- Both Parses, whatever the octets are. -/
theorem any_parse (HH : List Nat) (src dst : Nat) (hx : ∀ x ∈ HH, x < 256) (hl : HH.length ≤ 140737488355328) (hs : src < 4294967296) (hd : dst < 4294967296) :
    ∃ (sp dp sq ak fl wn ur : Nat) (s : TOpt) (ds : List Nat) (er : Int), s.bs.length ≤ 65535 ∧ ds.length ≤ 65535 ∧
      (∀ a cap W, Bts W a HH → HH.length ≤ cap → Calls Try.prog 10 #[.slice a HH.length cap, .int .u32 src, .int .u32 dst] W (Reads sp dp sq ak fl wn ur s ds er W)) ∧
      (∀ a cap W, Bts W a HH → HH.length ≤ cap → Calls Try.prog 11 #[.slice a HH.length cap, .int .u32 src, .int .u32 dst] W (Reads sp dp sq ak fl wn ur s ds er W)) := by
  have zero : ∀ (er : Int) (W w' : World) (e : Ending), e = .returned (.tuple #[.agg tcpZ, .int .i64 er]) ∧ Below W.heap.size W w' → Reads 0 0 0 0 0 0 0 tOpt0 [] er W e w' := fun er W w' e h =>
    ⟨none, 0, none, 0, h.1, h.2, Bts.nil _ _, ⟨fun p h => (by cases h), .inl rfl⟩⟩
  by_cases h1 : HH.length < 20
  · exact ⟨0, 0, 0, 0, 0, 0, 0, tOpt0, [], 8, by decide, by decide, fun a cap W _ _ => (tcpP_short a HH cap src dst W h1).mono fun e w' h => zero 8 W w' e h, fun a cap W _ _ => (rtcpP_short a HH cap src dst W h1).mono fun e w' h => zero 8 W w' e h⟩
  by_cases h2 : 65535 < HH.length
  · exact ⟨0, 0, 0, 0, 0, 0, 0, tOpt0, [], 5, by decide, by decide, fun a cap W _ _ => (tcpP_long a HH cap src dst W h2).mono fun e w' h => zero 5 W w' e h, fun a cap W _ _ => (rtcpP_long a HH cap src dst W h2).mono fun e w' h => zero 5 W w' e h⟩
  by_cases h5 : tcpSum HH src dst = 65535
  · obtain ⟨sp, dp, sq, ak, fl, wn, ur, s, ds, er, _, h6, h7, p1, p2⟩ := both_parse HH src dst hx (by omega) (by omega) hs hd h5
    exact ⟨sp, dp, sq, ak, fl, wn, ur, s, ds, er, h6, h7, p1, p2⟩
  by_cases h3 : tHd HH < 20 ∨ HH.length < tHd HH
  · refine ⟨0, 0, 0, 0, 0, 0, 0, tOpt0, [], 42, by decide, by decide, fun a cap W hB hc => ?_, fun a cap W hB hc => ?_⟩
    · obtain ⟨b, off, rfl, hb, hcx⟩ := hB.isSome (by omega)
      exact (tcpP_head b off HH cap src dst W (HH.getD 12 0) (HH.getD 12 0 / 16) (tHd HH) hb (by omega) (by omega) (hcx 12 (by omega)) (Mt.getD_lt HH hx 12) rfl rfl h3).mono fun e w' h => zero 42 W w' e h
    · obtain ⟨b, off, rfl, hb, hcx⟩ := hB.isSome (by omega)
      exact (rtcpP_head b off HH cap src dst W (HH.getD 12 0) (HH.getD 12 0 / 16) (tHd HH) hb (by omega) (by omega) (hcx 12 (by omega)) (Mt.getD_lt HH hx 12) rfl rfl h3).mono fun e w' h => zero 42 W w' e h
  · refine ⟨0, 0, 0, 0, 0, 0, 0, tOpt0, [], 21, by decide, by decide, fun a cap W hB hc => ?_, fun a cap W hB hc => ?_⟩
    · obtain ⟨b, off, rfl, hb, hcx⟩ := hB.isSome (by omega)
      exact (tcpP_sum b off HH cap src dst W (HH.getD 12 0) (HH.getD 12 0 / 16) (tHd HH) (tcpSum HH src dst) hb (by omega) (by omega) (hcx 12 (by omega)) (Mt.getD_lt HH hx 12) rfl rfl (by omega) (by omega) (fun W' h => tsum_any (some ⟨b, off, none⟩) HH cap src dst W' (hB.below h) (by omega) hs hd) h5).mono fun e w' h => zero 21 W w' e h
    · obtain ⟨b, off, rfl, hb, hcx⟩ := hB.isSome (by omega)
      exact (rtcpP_sum b off HH cap src dst W (HH.getD 12 0) (HH.getD 12 0 / 16) (tHd HH) (tcpSum HH src dst) hb (by omega) (by omega) (hcx 12 (by omega)) (Mt.getD_lt HH hx 12) rfl rfl (by omega) (by omega) (fun W' h => rwhole_any (some ⟨b, off, none⟩) HH cap src dst W' (hB.below h) (by omega) hs hd) h5).mono fun e w' h => zero 21 W w' e h
end Go.Proofs.Ytgmgoilleakdcaa

namespace Go.Proofs.Ytgmgoilleakdcaa
open Go.RowKit

set_option maxRecDepth 100000 in
set_option maxHeartbeats 1000000 in
theorem tlengthI_any (sp dp sq ak fl wn ur : Nat) (mss : Int) (hs : Bool) (sc : Int) (sk : Bool) (ba : Option Addr) (bn bc : Nat) (ht : Bool) (tv te : Nat) (da : Option Addr) (dn dc : Nat) (w : World) (hd : dn ≤ 140737488355328) :
    Calls Try.prog 17 #[.agg (tcpV sp dp sq ak fl wn ur mss hs sc sk ba bn bc ht tv te da dn dc)] w fun e w' => e = .returned (.int .i64 ((dn : Int) + (if (bits .and .u8 (fl : Int) 2 != 0) = true then 1 else 0) + (if (bits .and .u8 (fl : Int) 1 != 0) = true then 1 else 0))) ∧ Below w.heap.size w w' := by
  have bw := (Below.refl _ w).alloc (Nat.le_refl _) (.cells (tcpV sp dp sq ak fl wn ur mss hs sc sk ba bn bc ht tv te da dn dc) 27)
  unfold tcpV at *
  go_enter Try.func17, Try.ntmps17
  cases h2 : (bits .and .u8 (fl : Int) 2 != 0) <;> cases h1 : (bits .and .u8 (fl : Int) 1 != 0)
  all_goals
    go_wp2
    go_ret
    exact ⟨by simp, bw⟩

set_option maxRecDepth 100000 in
set_option maxHeartbeats 1000000 in
theorem rlength_any (sp dp sq ak fl wn ur : Nat) (mss : Int) (hs : Bool) (sc : Int) (sk : Bool) (ba : Option Addr) (bn bc : Nat) (ht : Bool) (tv te : Nat) (da : Option Addr) (dn dc : Nat) (w : World) (hd : dn ≤ 140737488355328) :
    Calls Try.prog 18 #[.agg (tcpV sp dp sq ak fl wn ur mss hs sc sk ba bn bc ht tv te da dn dc)] w fun e w' => e = .returned (.int .i64 ((dn : Int) + (if (bits .and .u8 (fl : Int) 2 != 0) = true then 1 else 0) + (if (bits .and .u8 (fl : Int) 1 != 0) = true then 1 else 0))) ∧ Below w.heap.size w w' := by
  have bw := (Below.refl _ w).alloc (Nat.le_refl _) (.cells (tcpV sp dp sq ak fl wn ur mss hs sc sk ba bn bc ht tv te da dn dc) 27)
  unfold tcpV at *
  go_enter Try.func18, Try.ntmps18
  cases h2 : (bits .and .u8 (fl : Int) 2 != 0) <;> cases h1 : (bits .and .u8 (fl : Int) 1 != 0)
  all_goals
    go_wp2
    go_ret
    exact ⟨by simp, bw⟩
end Go.Proofs.Ytgmgoilleakdcaa

namespace Go.Proofs.Ytgmgoilleakdcaa.law5
open Go.RowKit

theorem num_any (e : Int) (w : World) : Calls Try.prog 13 #[.int .i64 e] w fun r w' => r = .returned (.int .i64 e) ∧ w = w' := by
  go_enter Try.func13, Try.ntmps13
  go_wp2
  go_ret
  exact ⟨rfl, rfl⟩

set_option maxRecDepth 100000 in
set_option maxHeartbeats 2000000 in
theorem alive_any (w : World) : Calls Try.prog 19 #[] w fun e w' => e = .returned (.bool true) ∧ Below w.heap.size w w' := by
  have q_0 := Below.refl w.heap.size w
  obtain ⟨L, hL⟩ : ∃ L, tcpO 0 0 0 0 2 0 0 1460 true 7 true [] true 0 0 [] 1 2 = L := ⟨_, rfl⟩
  have hm : TcpMay 1460 true 7 true [] true 0 0 ([] : List Nat).length := by
    refine ⟨?_, ?_, ?_, ?_, ?_, ?_, ?_⟩ <;> decide
  have hl : 20 + (laidO 1460 true 7 true [] true 0 0).length + ([] : List Nat).length = 44 := by decide
  have hLl : L.length = 44 := by rw [← hL]; unfold tcpO; rw [tcpW_len]; exact hl
  have hbs : ∀ p ∈ ([] : List (Nat × Nat)), p.1 < 4294967296 ∧ p.2 < 4294967296 := fun p h => by cases h
  have hdx : ∀ x ∈ ([] : List Nat), x < 256 := fun p h => by cases h
  have c1 : ∀ W : World, Calls Try.prog 8 #[.agg #[.int .u16 0, .int .u16 0, .int .u32 0, .int .u32 0, .int .u8 2, .int .u16 0, .int .u16 0, .int .i64 1460, .bool true, .int .i64 7, .bool true, .slice none 0 0, .bool true, .int .u32 0, .int .u32 0, .slice none 0 0], .int .u32 1, .int .u32 2] W fun e w' => ∃ a' cap', e = .returned (.tuple #[.slice (some ⟨a', 0, none⟩) 44 cap', .int .i64 0]) ∧ OwnSl (W.heap.size + 1) (some ⟨a', 0, none⟩) L cap' w' ∧ Below W.heap.size W w' := fun W => by
    have h1 := tcpB_ok 0 0 0 0 2 0 0 1460 true 7 true none [] 0 true 0 0 none [] 0 1 2 W hm (by decide) (by decide) (by decide) (by decide) (by decide) (by decide) (by decide) (by decide) (by decide) (by decide) (by decide) (Bts.nil _ _) (fun _ => rfl) ⟨hbs, .inl rfl⟩
    rw [hl, hL] at h1
    exact h1
  have c2 : ∀ W g c, OwnSl (W.heap.size + 1) (some ⟨g, 0, none⟩) L c W ∨ Bts W (some ⟨g, 0, none⟩) L → L.length ≤ c → Calls Try.prog 10 #[.slice (some ⟨g, 0, none⟩) 44 c, .int .u32 1, .int .u32 2] W fun e w' => ∃ ba bc da dc, e = .returned (.tuple #[.agg #[.int .u16 0, .int .u16 0, .int .u32 0, .int .u32 0, .int .u8 2, .int .u16 0, .int .u16 0, .int .i64 1460, .bool true, .int .i64 7, .bool true, .slice ba 0 bc, .bool true, .int .u32 0, .int .u32 0, .slice da 0 dc], .int .i64 0]) ∧ OwnBlk W.heap.size w' ba [] bc ∧ OwnSl (W.heap.size + 1) da [] dc w' ∧ Below W.heap.size W w' := fun W g c h hc => by
    have hbt : Bts W (some ⟨g, 0, none⟩) L := h.elim (fun h => h.bts) id
    have h1 := tcpP_ok 0 0 0 0 2 0 0 1460 true 7 true [] true 0 0 [] 1 2 hm (by decide) (by decide) (by decide) (by decide) (by decide) (by decide) (by decide) (by decide) (by decide) (by decide) (by decide) hbs hdx L hL (some ⟨g, 0, none⟩) c W hbt hc
    rw [hLl] at h1
    exact h1
  have c3 : ∀ (ba : Option Addr) (bc : Nat) (da : Option Addr) (dc : Nat) (W : World), Blk W ba [] → Bts W da [] → Calls Try.prog 14 #[.agg #[.int .u16 0, .int .u16 0, .int .u32 0, .int .u32 0, .int .u8 2, .int .u16 0, .int .u16 0, .int .i64 1460, .bool true, .int .i64 7, .bool true, .slice ba 0 bc, .bool true, .int .u32 0, .int .u32 0, .slice da 0 dc], .agg #[.int .u16 0, .int .u16 0, .int .u32 0, .int .u32 0, .int .u8 2, .int .u16 0, .int .u16 0, .int .i64 1460, .bool true, .int .i64 7, .bool true, .slice none 0 0, .bool true, .int .u32 0, .int .u32 0, .slice none 0 0]] W fun e w' => e = .returned (.bool true) ∧ Below W.heap.size W w' := fun ba bc da dc W h1 h2 =>
    sameTcpV 0 0 0 0 2 0 0 1460 true 7 true [] true 0 0 [] ba none da none bc 0 dc 0 W h1 ⟨hbs, .inl rfl⟩ (by decide) h2 (Bts.nil _ _) (by decide)
  have c4 : ∀ W : World, Calls Try.prog 17 #[.agg #[.int .u16 0, .int .u16 0, .int .u32 0, .int .u32 0, .int .u8 2, .int .u16 0, .int .u16 0, .int .i64 1460, .bool true, .int .i64 7, .bool true, .slice none 0 0, .bool true, .int .u32 0, .int .u32 0, .slice none 0 0]] W fun e w' => e = .returned (.int .i64 1) ∧ Below W.heap.size W w' := fun W =>
    tlength_any 0 0 0 0 2 0 0 1460 true 7 true none 0 0 true 0 0 none 0 0 W (by decide)
  have C1 := Lib.hid c1
  have C2 := Lib.hid c2
  have C3 := Lib.hid c3
  have C4 := Lib.hid c4
  clear c1 c2 c3 c4 hm hl hbs hdx hL
  go_enter Try.func19, Try.ntmps19
  have KN := Lib.hid (blk_new w (.cells #[.int .u16 0, .int .u16 0, .int .u32 0, .int .u32 0, .int .u8 0, .int .u16 0, .int .u16 0, .int .i64 0, .bool false, .int .i64 0, .bool false, .slice none 0 0, .bool false, .int .u32 0, .int .u32 0, .slice none 0 0] 27))
  have QN := Lib.hid ((Below.refl w.heap.size w).alloc (Nat.le_refl _) (.cells #[.int .u16 0, .int .u16 0, .int .u32 0, .int .u32 0, .int .u8 0, .int .u16 0, .int .u16 0, .int .i64 0, .bool false, .int .i64 0, .bool false, .slice none 0 0, .bool false, .int .u32 0, .int .u32 0, .slice none 0 0] 27))
  go_wp2_with ((with_reducible show wpList _ _ _ _ _ _); refine wpList_store_tcp rfl (.tmp 1) (.tmp 6) rfl w.heap.size _ _ rfl rfl KN.out rfl rfl (by simp [Value.oneCell']) ?_; intro V1 hs2 hg2; have b := QN.out.grown hg2 QN.out.size (fun j e => by cases e; exact Nat.le_refl _); have q_1 := q_0.trans (b.mono q_0.size); clear q_0; have K_1 := Lib.hid hs2; have Kz_1 : w.heap.size < V1.heap.size := (Array.getElem?_eq_some_iff.1 hs2).1; have Kc0_1 := blk_cell K_1.out 0; have Kc1_1 := blk_cell K_1.out 1; have Kc2_1 := blk_cell K_1.out 2; have Kc3_1 := blk_cell K_1.out 3; have Kc4_1 := blk_cell K_1.out 4; have Kc5_1 := blk_cell K_1.out 5; have Kc6_1 := blk_cell K_1.out 6; have Kc7_1 := blk_cell K_1.out 7; have Kc8_1 := blk_cell K_1.out 8; have Kc9_1 := blk_cell K_1.out 9; have Kc10_1 := blk_cell K_1.out 10; have Kc11_1 := blk_cell K_1.out 11; have Kc12_1 := blk_cell K_1.out 12; have Kc13_1 := blk_cell K_1.out 13; have Kc14_1 := blk_cell K_1.out 14; have Kc15_1 := blk_cell K_1.out 15; clear hs2 hg2 b)
  clear KN QN
  refine (C1.out _).mono ?_
  rintro e V2 ⟨a1, k1, rfl, O, b⟩
  have K_2 := Lib.hid ((b.block _ Kz_1).trans K_1.out)
  have Kz_2 := Nat.lt_of_lt_of_le Kz_1 b.size
  have Kc0_2 := blk_cell K_2.out 0
  have Kc1_2 := blk_cell K_2.out 1
  have Kc2_2 := blk_cell K_2.out 2
  have Kc3_2 := blk_cell K_2.out 3
  have Kc4_2 := blk_cell K_2.out 4
  have Kc5_2 := blk_cell K_2.out 5
  have Kc6_2 := blk_cell K_2.out 6
  have Kc7_2 := blk_cell K_2.out 7
  have Kc8_2 := blk_cell K_2.out 8
  have Kc9_2 := blk_cell K_2.out 9
  have Kc10_2 := blk_cell K_2.out 10
  have Kc11_2 := blk_cell K_2.out 11
  have Kc12_2 := blk_cell K_2.out 12
  have Kc13_2 := blk_cell K_2.out 13
  have Kc14_2 := blk_cell K_2.out 14
  have Kc15_2 := blk_cell K_2.out 15
  have q_2 := q_1.trans (b.mono q_1.size)
  clear K_1 Kz_1 Kc0_1 Kc1_1 Kc2_1 Kc3_1 Kc4_1 Kc5_1 Kc6_1 Kc7_1 Kc8_1 Kc9_1 Kc10_1 Kc11_1 Kc12_1 Kc13_1 Kc14_1 Kc15_1 q_1
  have P_2 := Lib.hid (O)
  clear b
  clear O C1
  have pc := P_2.out.capLe
  go_wp2_with fail
  refine (C2.out _ _ _ (.inr P_2.out.bts) pc.1).mono ?_
  rintro e V3 ⟨ba, bc, da, dc, rfl, OB, O, b⟩
  have K_3 := Lib.hid ((b.block _ Kz_2).trans K_2.out)
  have Kz_3 := Nat.lt_of_lt_of_le Kz_2 b.size
  have Kc0_3 := blk_cell K_3.out 0
  have Kc1_3 := blk_cell K_3.out 1
  have Kc2_3 := blk_cell K_3.out 2
  have Kc3_3 := blk_cell K_3.out 3
  have Kc4_3 := blk_cell K_3.out 4
  have Kc5_3 := blk_cell K_3.out 5
  have Kc6_3 := blk_cell K_3.out 6
  have Kc7_3 := blk_cell K_3.out 7
  have Kc8_3 := blk_cell K_3.out 8
  have Kc9_3 := blk_cell K_3.out 9
  have Kc10_3 := blk_cell K_3.out 10
  have Kc11_3 := blk_cell K_3.out 11
  have Kc12_3 := blk_cell K_3.out 12
  have Kc13_3 := blk_cell K_3.out 13
  have Kc14_3 := blk_cell K_3.out 14
  have Kc15_3 := blk_cell K_3.out 15
  have P_3 := Lib.hid (P_2.out.below b)
  have q_3 := q_2.trans (b.mono q_2.size)
  clear K_2 Kz_2 Kc0_2 Kc1_2 Kc2_2 Kc3_2 Kc4_2 Kc5_2 Kc6_2 Kc7_2 Kc8_2 Kc9_2 Kc10_2 Kc11_2 Kc12_2 Kc13_2 Kc14_2 Kc15_2 P_2 q_2
  have D_3 := Lib.hid (O)
  have B_3 := Lib.hid (OB.1)
  clear b
  clear O OB C2
  have KN := Lib.hid (blk_new V3 (.cells #[.int .u16 0, .int .u16 0, .int .u32 0, .int .u32 0, .int .u8 0, .int .u16 0, .int .u16 0, .int .i64 0, .bool false, .int .i64 0, .bool false, .slice none 0 0, .bool false, .int .u32 0, .int .u32 0, .slice none 0 0] 27))
  have QN := Lib.hid ((Below.refl V3.heap.size V3).alloc (Nat.le_refl _) (.cells #[.int .u16 0, .int .u16 0, .int .u32 0, .int .u32 0, .int .u8 0, .int .u16 0, .int .u16 0, .int .i64 0, .bool false, .int .i64 0, .bool false, .slice none 0 0, .bool false, .int .u32 0, .int .u32 0, .slice none 0 0] 27))
  go_wp2_with ((with_reducible show wpList _ _ _ _ _ _); refine wpList_store_tcp rfl (.tmp 4) (.tmp 15) rfl V3.heap.size _ _ rfl rfl KN.out rfl rfl (by simp [Value.oneCell']) ?_; intro V4 hs2 hg2; have b := QN.out.grown hg2 QN.out.size (fun j e => by cases e; exact Nat.le_refl _); have K_4 := Lib.hid ((b.block _ Kz_3).trans K_3.out); have Kz_4 := Nat.lt_of_lt_of_le Kz_3 b.size; have Kc0_4 := blk_cell K_4.out 0; have Kc1_4 := blk_cell K_4.out 1; have Kc2_4 := blk_cell K_4.out 2; have Kc3_4 := blk_cell K_4.out 3; have Kc4_4 := blk_cell K_4.out 4; have Kc5_4 := blk_cell K_4.out 5; have Kc6_4 := blk_cell K_4.out 6; have Kc7_4 := blk_cell K_4.out 7; have Kc8_4 := blk_cell K_4.out 8; have Kc9_4 := blk_cell K_4.out 9; have Kc10_4 := blk_cell K_4.out 10; have Kc11_4 := blk_cell K_4.out 11; have Kc12_4 := blk_cell K_4.out 12; have Kc13_4 := blk_cell K_4.out 13; have Kc14_4 := blk_cell K_4.out 14; have Kc15_4 := blk_cell K_4.out 15; have P_4 := Lib.hid (P_3.out.below b); have D_4 := Lib.hid (D_3.out.below b); have B_4 := Lib.hid (B_3.out.below b); have q_4 := q_3.trans (b.mono q_3.size); clear K_3 Kz_3 Kc0_3 Kc1_3 Kc2_3 Kc3_3 Kc4_3 Kc5_3 Kc6_3 Kc7_3 Kc8_3 Kc9_3 Kc10_3 Kc11_3 Kc12_3 Kc13_3 Kc14_3 Kc15_3 P_3 D_3 B_3 q_3; have S_4 := Lib.hid hs2; have Sz_4 : V3.heap.size < V4.heap.size := (Array.getElem?_eq_some_iff.1 hs2).1; have Sc0_4 := blk_cell S_4.out 0; have Sc1_4 := blk_cell S_4.out 1; have Sc2_4 := blk_cell S_4.out 2; have Sc3_4 := blk_cell S_4.out 3; have Sc4_4 := blk_cell S_4.out 4; have Sc5_4 := blk_cell S_4.out 5; have Sc6_4 := blk_cell S_4.out 6; have Sc7_4 := blk_cell S_4.out 7; have Sc8_4 := blk_cell S_4.out 8; have Sc9_4 := blk_cell S_4.out 9; have Sc10_4 := blk_cell S_4.out 10; have Sc11_4 := blk_cell S_4.out 11; have Sc12_4 := blk_cell S_4.out 12; have Sc13_4 := blk_cell S_4.out 13; have Sc14_4 := blk_cell S_4.out 14; have Sc15_4 := blk_cell S_4.out 15; clear hs2 hg2 b)
  clear KN QN
  refine (num_any _ _).mono ?_
  rintro e w' ⟨rfl, rfl⟩
  go_wp2_with fail
  refine (num_any _ _).mono ?_
  rintro e w' ⟨rfl, rfl⟩
  go_wp2_with fail
  refine (C3.out _ _ _ _ _ B_4.out D_4.out.bts).mono ?_
  rintro e V5 ⟨rfl, b⟩
  have K_5 := Lib.hid ((b.block _ Kz_4).trans K_4.out)
  have Kz_5 := Nat.lt_of_lt_of_le Kz_4 b.size
  have Kc0_5 := blk_cell K_5.out 0
  have Kc1_5 := blk_cell K_5.out 1
  have Kc2_5 := blk_cell K_5.out 2
  have Kc3_5 := blk_cell K_5.out 3
  have Kc4_5 := blk_cell K_5.out 4
  have Kc5_5 := blk_cell K_5.out 5
  have Kc6_5 := blk_cell K_5.out 6
  have Kc7_5 := blk_cell K_5.out 7
  have Kc8_5 := blk_cell K_5.out 8
  have Kc9_5 := blk_cell K_5.out 9
  have Kc10_5 := blk_cell K_5.out 10
  have Kc11_5 := blk_cell K_5.out 11
  have Kc12_5 := blk_cell K_5.out 12
  have Kc13_5 := blk_cell K_5.out 13
  have Kc14_5 := blk_cell K_5.out 14
  have Kc15_5 := blk_cell K_5.out 15
  have P_5 := Lib.hid (P_4.out.below b)
  have S_5 := Lib.hid ((b.block _ Sz_4).trans S_4.out)
  have Sz_5 := Nat.lt_of_lt_of_le Sz_4 b.size
  have Sc0_5 := blk_cell S_5.out 0
  have Sc1_5 := blk_cell S_5.out 1
  have Sc2_5 := blk_cell S_5.out 2
  have Sc3_5 := blk_cell S_5.out 3
  have Sc4_5 := blk_cell S_5.out 4
  have Sc5_5 := blk_cell S_5.out 5
  have Sc6_5 := blk_cell S_5.out 6
  have Sc7_5 := blk_cell S_5.out 7
  have Sc8_5 := blk_cell S_5.out 8
  have Sc9_5 := blk_cell S_5.out 9
  have Sc10_5 := blk_cell S_5.out 10
  have Sc11_5 := blk_cell S_5.out 11
  have Sc12_5 := blk_cell S_5.out 12
  have Sc13_5 := blk_cell S_5.out 13
  have Sc14_5 := blk_cell S_5.out 14
  have Sc15_5 := blk_cell S_5.out 15
  have q_5 := q_4.trans (b.mono q_4.size)
  clear K_4 Kz_4 Kc0_4 Kc1_4 Kc2_4 Kc3_4 Kc4_4 Kc5_4 Kc6_4 Kc7_4 Kc8_4 Kc9_4 Kc10_4 Kc11_4 Kc12_4 Kc13_4 Kc14_4 Kc15_4 P_4 D_4 B_4 S_4 Sz_4 Sc0_4 Sc1_4 Sc2_4 Sc3_4 Sc4_4 Sc5_4 Sc6_4 Sc7_4 Sc8_4 Sc9_4 Sc10_4 Sc11_4 Sc12_4 Sc13_4 Sc14_4 Sc15_4 q_4
  clear b
  go_wp2_with fail
  refine (C4.out _).mono ?_
  rintro e V6 ⟨rfl, b⟩
  have K_6 := Lib.hid ((b.block _ Kz_5).trans K_5.out)
  have Kz_6 := Nat.lt_of_lt_of_le Kz_5 b.size
  have Kc0_6 := blk_cell K_6.out 0
  have Kc1_6 := blk_cell K_6.out 1
  have Kc2_6 := blk_cell K_6.out 2
  have Kc3_6 := blk_cell K_6.out 3
  have Kc4_6 := blk_cell K_6.out 4
  have Kc5_6 := blk_cell K_6.out 5
  have Kc6_6 := blk_cell K_6.out 6
  have Kc7_6 := blk_cell K_6.out 7
  have Kc8_6 := blk_cell K_6.out 8
  have Kc9_6 := blk_cell K_6.out 9
  have Kc10_6 := blk_cell K_6.out 10
  have Kc11_6 := blk_cell K_6.out 11
  have Kc12_6 := blk_cell K_6.out 12
  have Kc13_6 := blk_cell K_6.out 13
  have Kc14_6 := blk_cell K_6.out 14
  have Kc15_6 := blk_cell K_6.out 15
  have P_6 := Lib.hid (P_5.out.below b)
  have S_6 := Lib.hid ((b.block _ Sz_5).trans S_5.out)
  have Sz_6 := Nat.lt_of_lt_of_le Sz_5 b.size
  have Sc0_6 := blk_cell S_6.out 0
  have Sc1_6 := blk_cell S_6.out 1
  have Sc2_6 := blk_cell S_6.out 2
  have Sc3_6 := blk_cell S_6.out 3
  have Sc4_6 := blk_cell S_6.out 4
  have Sc5_6 := blk_cell S_6.out 5
  have Sc6_6 := blk_cell S_6.out 6
  have Sc7_6 := blk_cell S_6.out 7
  have Sc8_6 := blk_cell S_6.out 8
  have Sc9_6 := blk_cell S_6.out 9
  have Sc10_6 := blk_cell S_6.out 10
  have Sc11_6 := blk_cell S_6.out 11
  have Sc12_6 := blk_cell S_6.out 12
  have Sc13_6 := blk_cell S_6.out 13
  have Sc14_6 := blk_cell S_6.out 14
  have Sc15_6 := blk_cell S_6.out 15
  have q_6 := q_5.trans (b.mono q_5.size)
  clear K_5 Kz_5 Kc0_5 Kc1_5 Kc2_5 Kc3_5 Kc4_5 Kc5_5 Kc6_5 Kc7_5 Kc8_5 Kc9_5 Kc10_5 Kc11_5 Kc12_5 Kc13_5 Kc14_5 Kc15_5 P_5 S_5 Sz_5 Sc0_5 Sc1_5 Sc2_5 Sc3_5 Sc4_5 Sc5_5 Sc6_5 Sc7_5 Sc8_5 Sc9_5 Sc10_5 Sc11_5 Sc12_5 Sc13_5 Sc14_5 Sc15_5 q_5
  clear b
  go_wp2
  go_ret
  exact ⟨rfl, q_6⟩
end Go.Proofs.Ytgmgoilleakdcaa.law5
