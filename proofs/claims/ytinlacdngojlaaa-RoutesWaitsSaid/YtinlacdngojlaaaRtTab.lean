/- Routes: a table's calls. -/
import Derived.Test.YtinlacdngojlaaaRtKey
import Derived.Test.YtinlacdngojlaaaGBase
import Derived.WalkSpells
import Derived.WalkLawsBesides
import Derived.Deep.RegionHeld3
import Derived.StillTailTactics
import Derived.Laws.ShiftsVarLaws
import Derived.Deep.DeepCutAuto
namespace Go.Proofs.Ytinlacdngojlaaa
open Go.RowKit Go.Maps Go.Proofs.Ytinlacdngojlaaa.Rt

theorem shr_ones : ∀ b, b < 33 → 4294967295 / 2 ^ b = 2 ^ (32 - b) - 1 := by decide +kernel

theorem andNot_pre (ip b : Nat) (hip : ip < 4294967296) (hb : b ≤ 32) : bits .andNot .u32 (ip : Int) ((4294967295 : Int) / 2 ^ b) = ((pre ip b : Nat) : Int) := by
  have e : ((4294967295 : Int) / 2 ^ b) = ((2 ^ (32 - b) - 1 : Nat) : Int) := by
    rw [← shr_ones b (by omega)]
    simp
  have hp := pow_le32 (32 - b) (by omega)
  rw [e, u32_andNot_nat ip _ hip (by omega)]
  congr 1
  rw [show 4294967295 - (2 ^ (32 - b) - 1) = 4294967296 - 2 ^ (32 - b) by omega]
  exact and_pre ip (32 - b) hip (by omega)

set_option maxRecDepth 100000 in
set_option maxHeartbeats 400000 in
theorem prefix_any (ip b : Nat) (w : World) (hip : ip < 4294967296) (hb : b ≤ 32) :
    Calls Try.prog 22 #[.int .u32 (ip : Nat), .int .i64 (b : Nat)] w fun e w' => e = .returned (.agg #[.int .u32 (pre ip b : Nat), .int .i64 (b : Nat)]) ∧ Below w.heap.size w w' := by
  have e := andNot_pre ip b hip hb
  go_enter Try.func22, Try.ntmps22
  go_wp2
  exact bodyPost_ret (v := .agg #[.int .u32 (pre ip b : Nat), .int .i64 (b : Nat)]) (by simp [results, Try.results22, go_sem]) rfl ⟨rfl, (Below.refl _ _).alloc (Nat.le_refl _) _⟩

set_option maxRecDepth 100000 in
set_option maxHeartbeats 400000 in
theorem made_any (w : World) (g gm : Nat) (h : w.heap[g]? = some (.cells #[.map (some gm)] 65 (0, 0))) :
    Calls Try.prog 21 #[.pointer (some ⟨g, 0, none⟩)] w fun e w' => e = .returned (.bool true) ∧ w = w' := by
  have c0 := blk_cell h 0
  have qT : ∀ (w : World) (r : Option Nat), (binOp .neq 63 (.map r) (.map none)).run Try.prog w = .ok (.bool (!r.isNone)) w := fun w r => run_neq_map_nil w _ _ _ r Try.underlying63
  clear h
  go_enter Try.func21, Try.ntmps21
  go_wp2
  go_ret
  exact ⟨rfl, rfl⟩

theorem num_any (n : Int) (w : World) : Calls Try.prog 7 #[.int .i64 n] w fun e w' => e = .returned (.int .i64 n) ∧ w = w' := by
  go_enter Try.func7, Try.ntmps7
  go_wp2
  go_ret
  exact ⟨rfl, rfl⟩

def NewAns (w : World) (e : Ending) (w' : World) : Prop := ∃ g gm, e = .returned (.pointer (some ⟨g, 0, none⟩)) ∧ w.heap.size ≤ g ∧ w.heap.size ≤ gm ∧ TabAt w' g gm [] ∧ Below w.heap.size w w'
set_option maxRecDepth 100000 in
set_option maxHeartbeats 400000 in
theorem newTable_any (w : World) : Calls Try.prog 6 #[] w (NewAns w) := by
  have hmm := @run_makeMap Try.prog
  go_enter Try.func6, Try.ntmps6
  go_wp2
  go_ret
  have h1 := World.ownsMap_made (H := Unit) w Try.prog 67 (plainElem Try.prog 29)
  have h2 := h1.alloc (.cells #[.map (some w.heap.size)] 65)
  refine ⟨w.heap.size + 1, w.heap.size, rfl, by omega, Nat.le_refl _, ⟨?_, rgood_nil, _, h2, tabD_nil⟩, ((Below.refl _ _).alloc (Nat.le_refl _) _).alloc (by simp) _⟩
  have := blk_new (w.alloc (.map #[] 0)) (.cells #[.map (some w.heap.size)] 65)
  simpa using this

theorem TabAt.below {W W' : World} {g gm : Nat} {L : List Route10} (h : TabAt W g gm L) (hb : Below W.heap.size W W') : TabAt W' g gm L := by
  obtain ⟨h1, hG, D, ⟨es, cl, h2, hr⟩, hT⟩ := h
  exact ⟨(hb.block g (Array.getElem?_eq_some_iff.1 h1).1).trans h1, hG, D, ⟨es, cl, (hb.block gm (Array.getElem?_eq_some_iff.1 h2).1).trans h2, hr⟩, hT⟩

theorem tab_hit {W : World} {g gm : Nat} {L : List Route10} (h : TabAt W g gm L) {n gw : Nat} {b : Int} (hn : n < 4294967296) (h1 : -9223372036854775808 ≤ b) (h2 : b ≤ 9223372036854775807) (hl : rlook L n b = some gw) :
    (Instr.lookup 63 (.map (some gm)) (.agg #[.int .u32 (n : Nat), .int .i64 b]) true).run Try.prog W = .ok (.tuple #[.int .u32 (gw : Nat), .bool true]) W := by
  obtain ⟨_, _, D, hD, hT⟩ := h
  obtain ⟨v, ps, hrun, hv⟩ := hD.look_ok rt_law Try.underlying63 (rt_zero W) (plainElem_int Try.underlying29 (by decide)) (rt_key n b hn h1 h2)
  obtain ⟨e1, e2⟩ := hT.2 n b hn h1 h2
  obtain ⟨c, rfl, hc, _⟩ := plainElem_int_inv Try.underlying29 hv
  have := lit_inj32 ((congrArg Prod.fst hc).symm.trans (e2 gw hl))
  subst this
  rw [hrun, e1, hl]
  rfl

theorem tab_miss {W : World} {g gm : Nat} {L : List Route10} (h : TabAt W g gm L) {n : Nat} {b : Int} (hn : n < 4294967296) (h1 : -9223372036854775808 ≤ b) (h2 : b ≤ 9223372036854775807) (hl : rlook L n b = none) :
    (Instr.lookup 63 (.map (some gm)) (.agg #[.int .u32 (n : Nat), .int .i64 b]) true).run Try.prog W = .ok (.tuple #[.int .u32 0, .bool false]) W := by
  obtain ⟨_, _, D, hD, hT⟩ := h
  obtain ⟨v, ps, hrun, hv⟩ := hD.look_ok rt_law Try.underlying63 (rt_zero W) (plainElem_int Try.underlying29 (by decide)) (rt_key n b hn h1 h2)
  obtain ⟨e1, _⟩ := hT.2 n b hn h1 h2
  have e3 : Maps.has D (rtKey n b) = false := by rw [e1, hl]; rfl
  rw [atKey_of_not_has e3] at hv
  obtain ⟨c, rfl, hc, _⟩ := plainElem_int_inv Try.underlying29 hv
  have := lit_inj32 (congrArg Prod.fst hc)
  subst this
  rw [hrun, e3]

def NextAns (L : List Route10) (ip : Nat) (w : World) (e : Ending) (w' : World) : Prop := e = .returned (.tuple #[.int .u32 (wayOf ip (nextAt L ip 33) : Nat), .int .i64 (errOf (nextAt L ip 33) : Nat)]) ∧ Below w.heap.size w w'

set_option maxRecDepth 100000 in
set_option maxHeartbeats 1000000 in
theorem next_any (W : World) (g gm : Nat) (L : List Route10) (ip : Nat) (h : TabAt W g gm L) (hip : ip < 4294967296) :
    Calls Try.prog 12 #[.pointer (some ⟨g, 0, none⟩), .int .u32 (ip : Nat)] W (NextAns L ip W) := by
  have HT := Lib.hid h
  have HB := Lib.hid h.1
  clear h
  go_enter Try.func12, Try.ntmps12
  go_wp2_with fail
  refine (made_any _ g gm HB.out).mono ?_
  rintro e w' ⟨rfl, rfl⟩
  go_wp2
  go_loopw [6] (fun i wr => ∃ z : Int, -1 ≤ z ∧ z ≤ 32 ∧ i = .int .i64 z ∧ nextAt L ip 33 = nextAt L ip (z + 1).toNat ∧ Below W.heap.size W wr) (fun i _ => (intOf i + 1).toNat)
  case atStart => exact ⟨32, by omega, by omega, rfl, rfl, Below.refl _ _⟩
  case round =>
    obtain ⟨z, hz1, hz2, rfl, hnx, hb⟩ := hrel
    obtain ⟨w0, rfl⟩ : ∃ w0, w0 = wr := ⟨_, rfl⟩
    by_cases hz : 0 ≤ z
    · obtain ⟨k, rfl⟩ : ∃ k : Nat, z = k := ⟨z.toNat, by omega⟩
      have hk : k ≤ 32 := by omega
      have HN : Hid (nextAt L ip 33 = nextAt L ip (k + 1)) := Lib.hid (by rw [hnx]; congr 1)
      have hT := HT.out.below hb
      have c0 := blk_cell hT.1 0
      have HTw := Lib.hid hT
      have HBw := Lib.hid hb
      have hpl := pre_le ip k
      have hp : pre ip k < 4294967296 := by omega
      clear hnx hb hT hpl
      cases hl : rlook L (pre ip k) k
      case none =>
        have HL := Lib.hid hl
        clear hl
        go_wp2
        go_region_held3 (fun W' => W'.cell? ⟨g, 0, none⟩ = some (.map (some gm))) (first | go_keep) (first
          | (go_at_call 22; (with_reducible refine (prefix_any ip k _ hip hk).mono ?_); rintro e W1 ⟨rfl, b1⟩; have T1 := (HTw.out.below (Below.refl _ _).drew).below b1; have L1 := tab_miss T1 hp (by omega) (by omega) HL.out; have k1 := blk_cell T1.1 0; have B1 := Lib.hid b1; have HT1 := Lib.hid T1; clear b1 T1))
        have HQ : Hid (Below W.heap.size W W1) := Lib.hid ((HBw.out.trans ((Below.refl _ _).drew.trans (B1.out.mono HBw.out.size))))
        clear L1 k1
        go_wp2
        go_roundw
        case rel => exact ⟨(k : Int) - 1, by omega, by omega, by go_num, by rw [HN.out, show ((k : Int) - 1 + 1).toNat = k by omega]; simp only [nextAt, HL.out], HQ.out⟩
        case measure => simp [intOf]
      case some gw =>
        have HL := Lib.hid hl
        clear hl
        have HA : Hid (nextAt L ip 33 = some gw) := Lib.hid (by rw [HN.out]; unfold nextAt; rw [HL.out])
        by_cases hg0 : gw = 0
        case' pos => subst hg0
        case' neg => have i1 : ((gw : Int) == 0) = false := by rw [beq_eq_false_iff_ne]; omega
        all_goals
          go_wp2
          go_region_held3 (fun W' => W'.cell? ⟨g, 0, none⟩ = some (.map (some gm))) (first | go_keep) (first
            | (go_at_call 22; (with_reducible refine (prefix_any ip k _ hip hk).mono ?_); rintro e W1 ⟨rfl, b1⟩; have T1 := (HTw.out.below (Below.refl _ _).drew).below b1; have L1 := tab_hit T1 hp (by omega) (by omega) HL.out; have k1 := blk_cell T1.1 0; have B1 := Lib.hid b1; have HT1 := Lib.hid T1; clear b1 T1))
          have HQ : Hid (Below W.heap.size W W1) := Lib.hid ((HBw.out.trans ((Below.refl _ _).drew.trans (B1.out.mono HBw.out.size))))
          clear L1 k1
          go_wp2
          go_ret2
          refine ⟨?_, HQ.out⟩
          rw [HA.out]
          simp [wayOf, errOf, *]
    · obtain rfl : z = -1 := by omega
      have HA : Hid (nextAt L ip 33 = none) := Lib.hid hnx
      have HQ := Lib.hid hb
      clear hnx hb
      go_wp2
      go_ret2
      refine ⟨?_, HQ.out⟩
      rw [HA.out]
      rfl
end Go.Proofs.Ytinlacdngojlaaa
