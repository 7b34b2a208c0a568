/- Bbr: the state, and Check of one that may be. -/
import Derived.Test.YtokoogohdfepiaaBbQ
import Derived.Test.YtokoogohdfepiaaBbX
namespace Go.Proofs.Ytokoogohdfepiaa
open Go.RowKit

/-- A state: its list lies at ra, of the capacity rc. -/
structure Bs where
  phase : Int
  ra : Option Addr
  rl : List Pair23
  rc : Nat
  hasRtt : Bool
  rtt : Int
  rttAt : Int
  full : Bool
  fullRate : Int
  fullRounds : Int
  cycle : Int
  cycleAt : Int
  til : Int
  round : Int
abbrev Bs.agg (s : Bs) : Value := .agg #[.int .i64 s.phase, .slice s.ra s.rl.length s.rc, .bool s.hasRtt, .int .i64 s.rtt, .int .i64 s.rttAt, .bool s.full, .int .i64 s.fullRate, .int .i64 s.fullRounds, .int .i64 s.cycle, .int .i64 s.cycleAt, .int .i64 s.til, .int .i64 s.round]
/-- A state that may be. -/
structure SV (s : Bs) : Prop where
  phase : 0 ≤ s.phase ∧ s.phase ≤ 3
  cycle : 0 ≤ s.cycle ∧ s.cycle ≤ 7
  rates : FV s.rl
  rtt : 0 ≤ s.rtt ∧ s.rtt ≤ 1073741824
  rttAt : 0 ≤ s.rttAt ∧ s.rttAt ≤ 1099511627776
  fullRate : 0 ≤ s.fullRate ∧ s.fullRate ≤ 1099511627776
  fullRounds : 0 ≤ s.fullRounds ∧ s.fullRounds ≤ 1099511627776
  cycleAt : 0 ≤ s.cycleAt ∧ s.cycleAt ≤ 1099511627776
  til : 0 ≤ s.til ∧ s.til ≤ 1099511627776
  round : 0 ≤ s.round ∧ s.round ≤ 1099511627776
theorem inR6 {lo hi a b c d e f : Int} (h : InR lo hi [a, b, c, d, e]) (h2 : InR lo hi [f]) : InR lo hi [a, b, c, d, e, f] := by
  have e1 : InR lo hi ([a, b, c, d, e] ++ [f]) := by
    intro n hn
    rcases List.mem_append.1 hn with h1 | h1
    · exact h n h1
    · exact h2 n h1
  exact e1

set_option maxRecDepth 100000 in
set_option maxHeartbeats 1000000 in
theorem chk_ok (s : Bs) (w : World) (hv : SV s) (h : Sts 2 PC Tr w s.ra s.rl) :
    Calls Try.prog 18 #[.agg #[.int .i64 s.phase, .slice s.ra s.rl.length s.rc, .bool s.hasRtt, .int .i64 s.rtt, .int .i64 s.rttAt, .bool s.full, .int .i64 s.fullRate, .int .i64 s.fullRounds, .int .i64 s.cycle, .int .i64 s.cycleAt, .int .i64 s.til, .int .i64 s.round]] w fun e w' => e = .returned (.int .i64 0) ∧ Below w.heap.size w w' := by
  have HL := Lib.hid h
  have HV := Lib.hid hv.rates
  have hl : s.rl.length ≤ 10 := hv.rates.1
  have H0 : Hid (InR 0 3 [s.phase]) := Lib.hid (inR1.2 hv.phase)
  have H1 : Hid (InR 0 7 [s.cycle]) := Lib.hid (inR1.2 hv.cycle)
  have H2 : Hid (InR 0 1073741824 [s.rtt]) := Lib.hid (inR1.2 hv.rtt)
  have H3 : Hid (InR 0 1099511627776 [s.rttAt, s.fullRate, s.fullRounds, s.cycleAt, s.til, s.round]) := Lib.hid (inR6 (inR5.2 ⟨hv.rttAt, hv.fullRate, hv.fullRounds, hv.cycleAt, hv.til⟩) (inR1.2 hv.round))
  clear hv h
  go_enter Try.func18, Try.ntmps18
  go_wp2_with fail
  have ba := (Below.refl w.heap.size w).alloc (Nat.le_refl _) (.cells #[.int .i64 s.phase, .slice s.ra s.rl.length s.rc, .bool s.hasRtt, .int .i64 s.rtt, .int .i64 s.rttAt, .bool s.full, .int .i64 s.fullRate, .int .i64 s.fullRounds, .int .i64 s.cycle, .int .i64 s.cycleAt, .int .i64 s.til, .int .i64 s.round] 40)
  have XB := Lib.hid (blk_new w (.cells #[.int .i64 s.phase, .slice s.ra s.rl.length s.rc, .bool s.hasRtt, .int .i64 s.rtt, .int .i64 s.rttAt, .bool s.full, .int .i64 s.fullRate, .int .i64 s.fullRounds, .int .i64 s.cycle, .int .i64 s.cycleAt, .int .i64 s.til, .int .i64 s.round] 40))
  have L1 := Lib.hid (HL.out.belowT ba)
  have Q1 := Lib.hid ba
  have hsz : w.heap.size < (w.alloc (.cells #[.int .i64 s.phase, .slice s.ra s.rl.length s.rc, .bool s.hasRtt, .int .i64 s.rtt, .int .i64 s.rttAt, .bool s.full, .int .i64 s.fullRate, .int .i64 s.fullRounds, .int .i64 s.cycle, .int .i64 s.cycleAt, .int .i64 s.til, .int .i64 s.round] 40)).heap.size := by simp
  clear ba HL
  refine (wn_yes 0 3 [s.phase] _ _ _ _ _ _ rfl rfl (by first | simp | rfl) (by simp) H0.out).mono ?_
  rintro e w' ⟨rfl, rfl⟩
  generalize w.alloc (.cells #[.int .i64 s.phase, .slice s.ra s.rl.length s.rc, .bool s.hasRtt, .int .i64 s.rtt, .int .i64 s.rttAt, .bool s.full, .int .i64 s.fullRate, .int .i64 s.fullRounds, .int .i64 s.cycle, .int .i64 s.cycleAt, .int .i64 s.til, .int .i64 s.round] 40) = V1 at XB L1 Q1 hsz ⊢
  have b1 := (Below.refl V1.heap.size V1).alloc (Nat.le_refl _) (.cells (List.map (fun x => Value.int .i64 x) [s.phase]).toArray 3)
  have X2 := Lib.hid ((b1.block _ hsz).trans XB.out)
  have x8 := blk_cell X2.out 8
  simp only [List.map_cons, List.map_nil] at b1 X2 x8 ⊢
  go_wp2_with fail
  refine (wn_yes 0 7 [s.cycle] _ _ _ _ _ _ rfl rfl (by first | simp | rfl) (by simp) H1.out).mono ?_
  rintro e w' ⟨rfl, rfl⟩
  have b2 := b1.alloc b1.size (.cells (List.map (fun x => Value.int .i64 x) [s.cycle]).toArray 3)
  simp only [List.map_cons, List.map_nil] at b2 ⊢
  clear x8 X2
  generalize (V1.alloc (.cells [Value.int .i64 s.phase].toArray 3)).alloc (.cells [Value.int .i64 s.cycle].toArray 3) = V3 at b2 ⊢
  have X3 := Lib.hid ((b2.block _ hsz).trans XB.out)
  have L3 := Lib.hid (L1.out.belowT b2)
  have Q3 := Lib.hid (Q1.out.trans (b2.mono Q1.out.size))
  have hs3 := Nat.lt_of_lt_of_le hsz b2.size
  have x1 := blk_cell X3.out 1
  clear b1 b2 XB L1 Q1
  go_wp2_with fail
  refine (isFilter_b true s.ra s.rl s.rc _ L3.out (by omega) ⟨fun _ => HV.out, fun _ => rfl⟩).mono ?_
  rintro e V4 ⟨rfl, b⟩
  have X4 := Lib.hid ((b.block _ hs3).trans X3.out)
  have Q4 := Lib.hid (Q3.out.trans (b.mono Q3.out.size))
  have hs4 := Nat.lt_of_lt_of_le hs3 b.size
  have x3 := blk_cell X4.out 3
  clear b X3 L3 Q3 x1
  go_wp2_with fail
  refine (wn_yes 0 1073741824 [s.rtt] _ _ _ _ _ _ rfl rfl (by first | simp | rfl) (by simp) H2.out).mono ?_
  rintro e w' ⟨rfl, rfl⟩
  have b5 := (Below.refl V4.heap.size V4).alloc (Nat.le_refl _) (.cells (List.map (fun x => Value.int .i64 x) [s.rtt]).toArray 3)
  simp only [List.map_cons, List.map_nil] at b5 ⊢
  generalize V4.alloc (.cells [Value.int .i64 s.rtt].toArray 3) = V5 at b5 ⊢
  have X5 := Lib.hid ((b5.block _ hs4).trans X4.out)
  have Q5 := Lib.hid (Q4.out.trans (b5.mono Q4.out.size))
  have y4 := blk_cell X5.out 4
  have y6 := blk_cell X5.out 6
  have y7 := blk_cell X5.out 7
  have y9 := blk_cell X5.out 9
  have y10 := blk_cell X5.out 10
  have y11 := blk_cell X5.out 11
  clear b5 X4 Q4 x3
  go_wp2_with fail
  refine (wn_yes 0 1099511627776 [s.rttAt, s.fullRate, s.fullRounds, s.cycleAt, s.til, s.round] _ _ _ _ _ _ rfl rfl (by first | simp | rfl) (by simp) H3.out).mono ?_
  rintro e w' ⟨rfl, rfl⟩
  go_wp2
  go_ret
  exact ⟨rfl, Q5.out.alloc Q5.out.size _⟩
end Go.Proofs.Ytokoogohdfepiaa
