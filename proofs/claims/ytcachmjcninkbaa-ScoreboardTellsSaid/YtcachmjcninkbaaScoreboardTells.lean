/- For every state, segment's size, octet, number and flag: what the program answers is the page's. No condition. -/
import Derived.Test.YtcachmjcninkbaaRows
import Derived.Test.YtcachmjcninkbaaScI
import Derived.Test.YtcachmjcninkbaaScV
import Derived.Test.YtcachmjcninkbaaScQ
import Derived.Test.YtcachmjcninkbaaGSameBlkA
import Derived.Test.YtcachmjcninkbaaGAgg
import Derived.Deep.DeepCutAuto
import Derived.RegionTactic
import Derived.Deep.RegionHeld3
import Derived.BigQuiet
import Derived.Lib.QuietBelow
import Derived.ProofKit
import Derived.OpenShut
import Derived.ChangeOld
import Derived.SizedLaws
namespace Go.Proofs.Ytcachmjcninkbaa.scoreboardTells
open Go.ChangeShapes Go.WideShapes Go.ChangeAt Go.RowKit Go.Deep Go.Proofs.Ytcachmjcninkbaa Go.Sort Go.BigFrame

theorem nxB_is (una : Nat) (o : Option (Nat × Nat)) : ∃ b0 b1 : Nat, nxB una o = #[.int .u32 (b0 : Nat), .int .u32 (b1 : Nat)] := by
  cases o with
  | none => exact ⟨0, 0, rfl⟩
  | some x => exact ⟨_, _, rfl⟩
theorem own_cap {e : TypeId} {m B c : Nat} {cells : Nat × Nat → List Value} {a : Option Addr} {l : List (Nat × Nat)} {w : World} (h : OwnR e m cells B a l c w) : a = none → c = 0 := by
  intro ha
  rcases h with ⟨_, _, h⟩ | ⟨g, h, _⟩
  · exact h
  · rw [ha] at h; cases h
theorem oL_small (E : Int) {l : List (Nat × Nat)} (h : small2 l) : small2 (oL E l) := by
  unfold oL; split
  · exact h
  · intro _ h; cases h
theorem oL_len (E : Int) (l : List (Nat × Nat)) : (oL E l).length ≤ l.length := by
  unfold oL; split <;> simp
set_option maxRecDepth 100000 in
set_option maxHeartbeats 4000000 in
theorem walk (una nxt high : Nat) (a : Option Addr) (bs : List (Nat × Nat)) (c : Nat) (mss : Int) (seq : Nat) (n : Int) (rs : Bool) (w : World) (hu : una < 4294967296) (hx : nxt < 4294967296) (hh : high < 4294967296) (hbk : Blk w a bs) (hn : a = none → c = 0) (_hlc : bs.length ≤ c ∧ c ≤ maxLen) (hl : bs.length ≤ 17592186043904) (_mss_l : -9223372036854775808 ≤ mss) (_mss_h : mss ≤ 9223372036854775807) (_hseq : seq < 4294967296) (_n_l : -9223372036854775808 ≤ n) (_n_h : n ≤ 9223372036854775807) :
    Calls Try.prog 3 #[.agg #[.int .u32 (una : Nat), .int .u32 (nxt : Nat), .int .u32 (high : Nat), .slice a bs.length c], .int .i64 mss, .int .u32 (seq : Nat), .int .i64 n, .bool rs] w fun e w' => e = .returned (.bool true) ∧ Below w.heap.size w w' := by
  have HL := Lib.hid (blk_sts hbk)
  have HV := Lib.hid (show small2 bs from hbk.1)
  have HN := Lib.hid hn
  have hl2 : bs.length ≤ 35184372088832 := by omega
  obtain ⟨Ec, hEc⟩ : ∃ z, chkE una nxt high bs = z := ⟨_, rfl⟩
  obtain ⟨lb, hlb⟩ : ∃ z, loB una nxt high bs mss seq = z := ⟨_, rfl⟩
  obtain ⟨le, hle⟩ : ∃ z, loE una nxt high bs mss seq = z := ⟨_, rfl⟩
  obtain ⟨pp, hpp⟩ : ∃ z, ppO una nxt high bs mss = z := ⟨_, rfl⟩
  obtain ⟨Em, hEm⟩ : ∃ z, ckE una nxt high bs mss = z := ⟨_, rfl⟩
  obtain ⟨nb, hnb⟩ : ∃ z, (nxO una nxt high bs mss rs).isSome = z := ⟨_, rfl⟩
  obtain ⟨b0, b1, hbb⟩ := nxB_is una (nxO una nxt high bs mss rs)
  have PLost := fun a' c' V (h : Sts 2 BC Tr V a' bs) => plost_any una nxt high a' bs c' mss seq V hu h hl2
  have RLost := fun a' c' V (h : Sts 2 BC Tr V a' bs) => rLost_any una nxt high a' bs c' mss seq V hu h HV.out hl2
  have PPipe := fun a' c' V (h : Sts 2 BC Tr V a' bs) => pipe_any una nxt high a' bs c' mss V hu h hl2
  have RPipe := fun a' c' V (h : Sts 2 BC Tr V a' bs) => rpipe_any una nxt high a' bs c' mss V hu hx h HV.out hl2
  have PNext := fun a' c' V (h : Sts 2 BC Tr V a' bs) => next_any una nxt high a' bs c' mss rs V hu h hl2
  have RNext := fun a' c' V (h : Sts 2 BC Tr V a' bs) => rnext_any una nxt high a' bs c' mss rs V hu hx hh h HV.out hl2
  have PCk := fun a' c' V (h : Sts 2 BC Tr V a' bs) => check_all una nxt high a' bs c' V hu h hl2
  have RCk := fun a' c' V (h : Sts 2 BC Tr V a' bs) => rcheck_any una nxt high a' bs c' V hu h hl2
  have PSent := fun a' c' V (h : Sts 2 BC Tr V a' bs) hn => psent_any una nxt high a' bs c' n V hu h hn hl2
  have RSent := fun a' c' V (h : Sts 2 BC Tr V a' bs) hn => rsent_any una nxt high a' bs c' n V hu h hn hl2
  have PRes := fun a' c' V (h : Sts 2 BC Tr V a' bs) hn => present_any una nxt high a' bs c' seq V hu h hn hl2
  have RRes := fun a' c' V (h : Sts 2 BC Tr V a' bs) hn => rresent_any una nxt high a' bs c' seq V hu h hn hh hl2
  have PTim := fun a' c' V (h : Sts 2 BC Tr V a' bs) => ptimeout_any una nxt high a' bs c' V hu h hl2
  have RTim := fun a' c' V (h : Sts 2 BC Tr V a' bs) => rtimeout_any una nxt high a' bs c' V hu h hl2
  unfold nxE at PNext RNext
  unfold FOut at PSent RSent PRes RRes PTim RTim
  rw [hEc] at PCk RCk PTim RTim
  rw [hlb, hle] at PLost RLost
  rw [hpp, hEm] at PPipe RPipe
  rw [hnb, hbb, hEm] at PNext RNext
  clear hlb hle hpp hnb hbb hEm hEc
  obtain ⟨Es, hEs⟩ : ∃ z, snE una nxt high bs n = z := ⟨_, rfl⟩
  rw [hEs] at PSent RSent
  clear hEs
  have hsl : small2 (oL Es bs) := oL_small _ HV.out
  have hsn : (oL Es bs).length ≤ 17592186044416 := Nat.le_trans (oL_len _ _) (by omega)
  obtain ⟨su, hsu⟩ : ∃ z, oU Es una = z := ⟨_, rfl⟩
  obtain ⟨sx, hsx⟩ : ∃ z, oU Es ((nxt + n.toNat) % 4294967296) = z := ⟨_, rfl⟩
  obtain ⟨sh, hsh⟩ : ∃ z, oU Es high = z := ⟨_, rfl⟩
  obtain ⟨sl, hsq⟩ : ∃ z, oL Es bs = z := ⟨_, rfl⟩
  rw [hsq] at hsl hsn PSent RSent
  rw [hsu] at PSent RSent
  rw [hsx] at PSent RSent
  rw [hsh] at PSent RSent
  have Hsl := Lib.hid hsl
  clear hsq hsl hsu hsx hsh
  obtain ⟨Er, hEr⟩ : ∃ z, reE una nxt high bs seq = z := ⟨_, rfl⟩
  rw [hEr] at PRes RRes
  clear hEr
  have hrl : small2 (oL Er bs) := oL_small _ HV.out
  have hrn : (oL Er bs).length ≤ 17592186044416 := Nat.le_trans (oL_len _ _) (by omega)
  obtain ⟨ru, hru⟩ : ∃ z, oU Er una = z := ⟨_, rfl⟩
  obtain ⟨rx, hrx⟩ : ∃ z, oU Er nxt = z := ⟨_, rfl⟩
  obtain ⟨rh, hrh⟩ : ∃ z, oU Er seq = z := ⟨_, rfl⟩
  obtain ⟨rl, hrq⟩ : ∃ z, oL Er bs = z := ⟨_, rfl⟩
  rw [hrq] at hrl hrn PRes RRes
  rw [hru] at PRes RRes
  rw [hrx] at PRes RRes
  rw [hrh] at PRes RRes
  have Hrl := Lib.hid hrl
  clear hrq hrl hru hrx hrh
  have htl : small2 (oL Ec ([] : List (Nat × Nat))) := oL_small _ (fun _ h => by cases h)
  have htn : (oL Ec ([] : List (Nat × Nat))).length ≤ 17592186044416 := Nat.le_trans (oL_len _ _) (by simp)
  obtain ⟨tu, htu⟩ : ∃ z, oU Ec una = z := ⟨_, rfl⟩
  obtain ⟨tx, htx⟩ : ∃ z, oU Ec nxt = z := ⟨_, rfl⟩
  obtain ⟨tl, htq⟩ : ∃ z, oL Ec ([] : List (Nat × Nat)) = z := ⟨_, rfl⟩
  rw [htq] at htl htn PTim RTim
  rw [htu] at PTim RTim
  rw [htx] at PTim RTim
  have Htl := Lib.hid htl
  clear htq htl htu htx
  have HPLost := Lib.hid PLost
  have HRLost := Lib.hid RLost
  have HPPipe := Lib.hid PPipe
  have HRPipe := Lib.hid RPipe
  have HPNext := Lib.hid PNext
  have HRNext := Lib.hid RNext
  have HPCk := Lib.hid PCk
  have HRCk := Lib.hid RCk
  have HPSent := Lib.hid PSent
  have HRSent := Lib.hid RSent
  have HPRes := Lib.hid PRes
  have HRRes := Lib.hid RRes
  have HPTim := Lib.hid PTim
  have HRTim := Lib.hid RTim
  clear hbk hn PLost RLost PPipe RPipe PNext RNext PCk RCk PSent RSent PRes RRes PTim RTim
  go_enter Try.func3, Try.ntmps3
  go_upto_region 1 with fail
  have S0 := Lib.hid (blk_new w (.cells #[.int .u32 (una : Nat), .int .u32 (nxt : Nat), .int .u32 (high : Nat), .slice a bs.length c] 25))
  have Q0 := Lib.hid ((Below.refl w.heap.size w).alloc (Nat.le_refl _) (.cells #[.int .u32 (una : Nat), .int .u32 (nxt : Nat), .int .u32 (high : Nat), .slice a bs.length c] 25))
  generalize w.alloc (.cells #[.int .u32 (una : Nat), .int .u32 (nxt : Nat), .int .u32 (high : Nat), .slice a bs.length c] 25) = V0 at S0 Q0 ⊢
  have L0 := Lib.hid (Sts.belowT HL.out Q0.out)
  have c0 := blk_cell S0.out 0
  have c1 := blk_cell S0.out 1
  have c2 := blk_cell S0.out 2
  have c3 := blk_cell S0.out 3
  go_wp2_with fail
  refine (given_any una nxt high a bs c V0 L0.out HN.out hl).mono ?_
  rintro e V1 ⟨⟨a', c', rfl, hO⟩, hB⟩
  have HN2 := Lib.hid (own_cap hO)
  have S1 := Lib.hid ((hB.block _ (blk_lt S0.out)).trans S0.out)
  have L1 := Lib.hid (Sts.belowT L0.out hB)
  have Q1 := Lib.hid (Q0.out.trans (hB.mono Q0.out.size))
  have X1 := Lib.hid (hO.sts encB)
  clear hB S0 L0 Q0 c0 c1 c2 c3
  clear hO
  have hb9 := (Below.refl V1.heap.size V1).alloc (Nat.le_refl _) (.cells #[.int .u32 (una : Nat), .int .u32 (nxt : Nat), .int .u32 (high : Nat), .slice a' bs.length c'] 26)
  have B2 := Lib.hid (blk_new V1 (.cells #[.int .u32 (una : Nat), .int .u32 (nxt : Nat), .int .u32 (high : Nat), .slice a' bs.length c'] 26))
  have S2 := Lib.hid ((hb9.block _ (blk_lt S1.out)).trans S1.out)
  have L2 := Lib.hid (Sts.belowT L1.out hb9)
  have X2 := Lib.hid (Sts.belowT X1.out hb9)
  have Q2 := Lib.hid (Q1.out.trans (hb9.mono Q1.out.size))
  clear hb9 S1 L1 X1 Q1
  go_upto_region 2 with fail
  obtain ⟨gx, hgx⟩ : ∃ q, V1.heap.size = q := ⟨_, rfl⟩
  generalize V1.alloc (.cells #[.int .u32 (una : Nat), .int .u32 (nxt : Nat), .int .u32 (high : Nat), .slice a' bs.length c'] 26) = V2 at S2 L2 X2 B2 Q2 ⊢
  rw [hgx] at B2 ⊢
  clear hgx
  have x0 := blk_cell B2.out 0
  have x1 := blk_cell B2.out 1
  have x2 := blk_cell B2.out 2
  have x3 := blk_cell B2.out 3
  go_wp2_with fail
  refine (HPLost.out a' c' V2 X2.out).mono ?_
  rintro e V3 ⟨rfl, hB⟩
  have S3 := Lib.hid ((hB.block _ (blk_lt S2.out)).trans S2.out)
  have B3 := Lib.hid ((hB.block _ (blk_lt B2.out)).trans B2.out)
  have L3 := Lib.hid (Sts.belowT L2.out hB)
  have X3 := Lib.hid (Sts.belowT X2.out hB)
  have Q3 := Lib.hid (Q2.out.trans (hB.mono Q2.out.size))
  clear hB S2 B2 L2 X2 Q2 x0 x1 x2 x3
  have c0 := blk_cell S3.out 0
  have c1 := blk_cell S3.out 1
  have c2 := blk_cell S3.out 2
  have c3 := blk_cell S3.out 3
  go_wp2_with fail
  refine (HRLost.out a c V3 L3.out).mono ?_
  rintro e V4 ⟨rfl, hB⟩
  have S4 := Lib.hid ((hB.block _ (blk_lt S3.out)).trans S3.out)
  have B4 := Lib.hid ((hB.block _ (blk_lt B3.out)).trans B3.out)
  have L4 := Lib.hid (Sts.belowT L3.out hB)
  have X4 := Lib.hid (Sts.belowT X3.out hB)
  have Q4 := Lib.hid (Q3.out.trans (hB.mono Q3.out.size))
  clear hB S3 B3 L3 X3 Q3 c0 c1 c2 c3
  have x0 := blk_cell B4.out 0
  have x1 := blk_cell B4.out 1
  have x2 := blk_cell B4.out 2
  have x3 := blk_cell B4.out 3
  go_wp2_with fail
  refine (HPPipe.out a' c' V4 X4.out).mono ?_
  rintro e V5 ⟨rfl, hB⟩
  have S5 := Lib.hid ((hB.block _ (blk_lt S4.out)).trans S4.out)
  have B5 := Lib.hid ((hB.block _ (blk_lt B4.out)).trans B4.out)
  have L5 := Lib.hid (Sts.belowT L4.out hB)
  have X5 := Lib.hid (Sts.belowT X4.out hB)
  have Q5 := Lib.hid (Q4.out.trans (hB.mono Q4.out.size))
  clear hB S4 B4 L4 X4 Q4 x0 x1 x2 x3
  have c0 := blk_cell S5.out 0
  have c1 := blk_cell S5.out 1
  have c2 := blk_cell S5.out 2
  have c3 := blk_cell S5.out 3
  go_wp2_with fail
  refine (HRPipe.out a c V5 L5.out).mono ?_
  rintro e V6 ⟨rfl, hB⟩
  have S6 := Lib.hid ((hB.block _ (blk_lt S5.out)).trans S5.out)
  have B6 := Lib.hid ((hB.block _ (blk_lt B5.out)).trans B5.out)
  have L6 := Lib.hid (Sts.belowT L5.out hB)
  have X6 := Lib.hid (Sts.belowT X5.out hB)
  have Q6 := Lib.hid (Q5.out.trans (hB.mono Q5.out.size))
  clear hB S5 B5 L5 X5 Q5 c0 c1 c2 c3
  have x0 := blk_cell B6.out 0
  have x1 := blk_cell B6.out 1
  have x2 := blk_cell B6.out 2
  have x3 := blk_cell B6.out 3
  go_wp2_with fail
  refine (HPNext.out a' c' V6 X6.out).mono ?_
  rintro e V7 ⟨rfl, hB⟩
  have S7 := Lib.hid ((hB.block _ (blk_lt S6.out)).trans S6.out)
  have B7 := Lib.hid ((hB.block _ (blk_lt B6.out)).trans B6.out)
  have L7 := Lib.hid (Sts.belowT L6.out hB)
  have X7 := Lib.hid (Sts.belowT X6.out hB)
  have Q7 := Lib.hid (Q6.out.trans (hB.mono Q6.out.size))
  clear hB S6 B6 L6 X6 Q6 x0 x1 x2 x3
  have hb9 := (Below.refl V7.heap.size V7).alloc (Nat.le_refl _) (.cells #[.int .u32 (b0 : Nat), .int .u32 (b1 : Nat)] 38)
  have Y8 := Lib.hid (blk_new V7 (.cells #[.int .u32 (b0 : Nat), .int .u32 (b1 : Nat)] 38))
  have S8 := Lib.hid ((hb9.block _ (blk_lt S7.out)).trans S7.out)
  have B8 := Lib.hid ((hb9.block _ (blk_lt B7.out)).trans B7.out)
  have L8 := Lib.hid (Sts.belowT L7.out hb9)
  have X8 := Lib.hid (Sts.belowT X7.out hb9)
  have Q8 := Lib.hid (Q7.out.trans (hb9.mono Q7.out.size))
  clear hb9 S7 B7 L7 X7 Q7
  go_upto_region 7 with fail
  obtain ⟨gy, hgy⟩ : ∃ q, V7.heap.size = q := ⟨_, rfl⟩
  generalize V7.alloc (.cells #[.int .u32 (b0 : Nat), .int .u32 (b1 : Nat)] 38) = V8 at S8 B8 L8 X8 Y8 Q8 ⊢
  rw [hgy] at Y8 ⊢
  clear hgy
  have c0 := blk_cell S8.out 0
  have c1 := blk_cell S8.out 1
  have c2 := blk_cell S8.out 2
  have c3 := blk_cell S8.out 3
  go_wp2_with fail
  refine (HRNext.out a c V8 L8.out).mono ?_
  rintro e V9 ⟨rfl, hB⟩
  have S9 := Lib.hid ((hB.block _ (blk_lt S8.out)).trans S8.out)
  have B9 := Lib.hid ((hB.block _ (blk_lt B8.out)).trans B8.out)
  have Y9 := Lib.hid ((hB.block _ (blk_lt Y8.out)).trans Y8.out)
  have L9 := Lib.hid (Sts.belowT L8.out hB)
  have X9 := Lib.hid (Sts.belowT X8.out hB)
  have Q9 := Lib.hid (Q8.out.trans (hB.mono Q8.out.size))
  clear hB S8 B8 Y8 L8 X8 Q8 c0 c1 c2 c3
  have hb9 := (Below.refl V9.heap.size V9).alloc (Nat.le_refl _) (.cells #[.int .u32 (b0 : Nat), .int .u32 (b1 : Nat)] 38)
  have Z10 := Lib.hid (blk_new V9 (.cells #[.int .u32 (b0 : Nat), .int .u32 (b1 : Nat)] 38))
  have S10 := Lib.hid ((hb9.block _ (blk_lt S9.out)).trans S9.out)
  have B10 := Lib.hid ((hb9.block _ (blk_lt B9.out)).trans B9.out)
  have Y10 := Lib.hid ((hb9.block _ (blk_lt Y9.out)).trans Y9.out)
  have L10 := Lib.hid (Sts.belowT L9.out hb9)
  have X10 := Lib.hid (Sts.belowT X9.out hb9)
  have Q10 := Lib.hid (Q9.out.trans (hb9.mono Q9.out.size))
  clear hb9 S9 B9 Y9 L9 X9 Q9
  go_upto_region 8 with fail
  obtain ⟨gz, hgz⟩ : ∃ q, V9.heap.size = q := ⟨_, rfl⟩
  generalize V9.alloc (.cells #[.int .u32 (b0 : Nat), .int .u32 (b1 : Nat)] 38) = V10 at S10 B10 Y10 L10 X10 Z10 Q10 ⊢
  rw [hgz] at Z10 ⊢
  clear hgz
  have c0 := blk_cell S10.out 0
  have c1 := blk_cell S10.out 1
  have c2 := blk_cell S10.out 2
  have c3 := blk_cell S10.out 3
  have x0 := blk_cell B10.out 0
  have x1 := blk_cell B10.out 1
  have x2 := blk_cell B10.out 2
  have x3 := blk_cell B10.out 3
  have y0 := blk_cell Y10.out 0
  have y1 := blk_cell Y10.out 1
  have z0 := blk_cell Z10.out 0
  have z1 := blk_cell Z10.out 1
  have qc0 := cell_regrown (show V10.cell? ⟨w.heap.size, 0, none⟩ = some (.int .u32 (una : Nat)) from c0)
  have qc1 := cell_regrown (show V10.cell? ⟨w.heap.size, 1, none⟩ = some (.int .u32 (nxt : Nat)) from c1)
  have qc2 := cell_regrown (show V10.cell? ⟨w.heap.size, 2, none⟩ = some (.int .u32 (high : Nat)) from c2)
  have qc3 := cell_regrown (show V10.cell? ⟨w.heap.size, 3, none⟩ = some (.slice a bs.length c) from c3)
  have qx0 := cell_regrown (show V10.cell? ⟨gx, 0, none⟩ = some (.int .u32 (una : Nat)) from x0)
  have qx1 := cell_regrown (show V10.cell? ⟨gx, 1, none⟩ = some (.int .u32 (nxt : Nat)) from x1)
  have qx2 := cell_regrown (show V10.cell? ⟨gx, 2, none⟩ = some (.int .u32 (high : Nat)) from x2)
  have qx3 := cell_regrown (show V10.cell? ⟨gx, 3, none⟩ = some (.slice a' bs.length c') from x3)
  have qy0 := cell_regrown (show V10.cell? ⟨gy, 0, none⟩ = some (.int .u32 (b0 : Nat)) from y0)
  have qy1 := cell_regrown (show V10.cell? ⟨gy, 1, none⟩ = some (.int .u32 (b1 : Nat)) from y1)
  have qz0 := cell_regrown (show V10.cell? ⟨gz, 0, none⟩ = some (.int .u32 (b0 : Nat)) from z0)
  have qz1 := cell_regrown (show V10.cell? ⟨gz, 1, none⟩ = some (.int .u32 (b1 : Nat)) from z1)
  have cP : ∀ d os, Calls Try.prog 17 #[.agg #[.int .u32 (una : Nat), .int .u32 (nxt : Nat), .int .u32 (high : Nat), .slice a' bs.length c']] (grow (redrawn V10 d) os) fun e w'' => e = .returned (.int .i64 Ec) ∧ ∃ p : Regrown, w'' = grow (redrawn V10 p.d) p.os := fun d os => Calls.regrown_of (HPCk.out a' c' _ (Sts.belowT X10.out (below_regrown V10 d os)))
  have cR : ∀ d os, Calls Try.prog 18 #[.agg #[.int .u32 (una : Nat), .int .u32 (nxt : Nat), .int .u32 (high : Nat), .slice a bs.length c]] (grow (redrawn V10 d) os) fun e w'' => e = .returned (.int .i64 Ec) ∧ ∃ p : Regrown, w'' = grow (redrawn V10 p.d) p.os := fun d os => Calls.regrown_of (HRCk.out a c _ (Sts.belowT L10.out (below_regrown V10 d os)))
  have cnEc : ∀ d os, Calls Try.prog 16 #[.int .i64 Ec] (grow (redrawn V10 d) os) fun e w'' => e = .returned (.int .i64 Ec) ∧ ∃ p : Regrown, w'' = grow (redrawn V10 p.d) p.os := fun d os => Calls.regrown_of ((num_any Ec _).mono fun _ _ h => ⟨h.1, h.2 ▸ Below.refl _ _⟩)
  have cnle : ∀ d os, Calls Try.prog 16 #[.int .i64 le] (grow (redrawn V10 d) os) fun e w'' => e = .returned (.int .i64 le) ∧ ∃ p : Regrown, w'' = grow (redrawn V10 p.d) p.os := fun d os => Calls.regrown_of ((num_any le _).mono fun _ _ h => ⟨h.1, h.2 ▸ Below.refl _ _⟩)
  have cnEm : ∀ d os, Calls Try.prog 16 #[.int .i64 Em] (grow (redrawn V10 d) os) fun e w'' => e = .returned (.int .i64 Em) ∧ ∃ p : Regrown, w'' = grow (redrawn V10 p.d) p.os := fun d os => Calls.regrown_of ((num_any Em _).mono fun _ _ h => ⟨h.1, h.2 ▸ Below.refl _ _⟩)
  refine wp_region_quiet_below (by kernel_rfl) (by kernel_rfl) ?_
  repeat (go_big_quiet_step (first | (go_at_call 17; exact cP _ _) | (go_at_call 18; exact cR _ _) | (go_at_call 16; exact cnEc _ _) | (go_at_call 16; exact cnle _ _) | (go_at_call 16; exact cnEm _ _)))
  refine wpQuiet_nil ?_
  intro _ hw'
  obtain ⟨⟨dq, osq⟩, hw''⟩ := hw'
  subst hw''
  have hB := below_regrown V10 dq osq
  clear qc0 qc1 qc2 qc3 qx0 qx1 qx2 qx3 qy0 qy1 qz0 qz1 cP cR cnEc cnle cnEm
  dsimp only
  generalize grow (redrawn V10 dq) osq = V11 at hB ⊢
  have S11 := Lib.hid ((hB.block _ (blk_lt S10.out)).trans S10.out)
  have B11 := Lib.hid ((hB.block _ (blk_lt B10.out)).trans B10.out)
  have Y11 := Lib.hid ((hB.block _ (blk_lt Y10.out)).trans Y10.out)
  have Z11 := Lib.hid ((hB.block _ (blk_lt Z10.out)).trans Z10.out)
  have L11 := Lib.hid (Sts.belowT L10.out hB)
  have X11 := Lib.hid (Sts.belowT X10.out hB)
  have Q11 := Lib.hid (Q10.out.trans (hB.mono Q10.out.size))
  clear hB S10 B10 Y10 Z10 L10 X10 Q10 c0 c1 c2 c3 x0 x1 x2 x3 y0 y1 z0 z1
  have x0 := blk_cell B11.out 0
  have x1 := blk_cell B11.out 1
  have x2 := blk_cell B11.out 2
  have x3 := blk_cell B11.out 3
  go_wp2_with fail
  refine (HPSent.out a' c' V11 X11.out HN2.out).mono ?_
  rintro e V12 ⟨⟨a1s, c1s, rfl, hS⟩, hB⟩
  have S12 := Lib.hid ((hB.block _ (blk_lt S11.out)).trans S11.out)
  have B12 := Lib.hid ((hB.block _ (blk_lt B11.out)).trans B11.out)
  have Y12 := Lib.hid ((hB.block _ (blk_lt Y11.out)).trans Y11.out)
  have Z12 := Lib.hid ((hB.block _ (blk_lt Z11.out)).trans Z11.out)
  have L12 := Lib.hid (Sts.belowT L11.out hB)
  have X12 := Lib.hid (Sts.belowT X11.out hB)
  have Q12 := Lib.hid (Q11.out.trans (hB.mono Q11.out.size))
  have Td12 := Lib.hid (hS)
  clear hB S11 B11 Y11 Z11 L11 X11 Q11 x0 x1 x2 x3
  clear hS
  have hb9 := (Below.refl V12.heap.size V12).alloc (Nat.le_refl _) (.cells #[.int .u32 (su : Nat), .int .u32 (sx : Nat), .int .u32 (sh : Nat), .slice a1s sl.length c1s] 26)
  have D113 := Lib.hid (blk_new V12 (.cells #[.int .u32 (su : Nat), .int .u32 (sx : Nat), .int .u32 (sh : Nat), .slice a1s sl.length c1s] 26))
  have S13 := Lib.hid ((hb9.block _ (blk_lt S12.out)).trans S12.out)
  have B13 := Lib.hid ((hb9.block _ (blk_lt B12.out)).trans B12.out)
  have Y13 := Lib.hid ((hb9.block _ (blk_lt Y12.out)).trans Y12.out)
  have Z13 := Lib.hid ((hb9.block _ (blk_lt Z12.out)).trans Z12.out)
  have L13 := Lib.hid (Sts.belowT L12.out hb9)
  have X13 := Lib.hid (Sts.belowT X12.out hb9)
  have Td13 := Lib.hid (Sts.belowT Td12.out hb9)
  have Q13 := Lib.hid (Q12.out.trans (hb9.mono Q12.out.size))
  clear hb9 S12 B12 Y12 Z12 L12 X12 Td12 Q12
  go_upto_region 11 with fail
  obtain ⟨g1, hg1⟩ : ∃ q, V12.heap.size = q := ⟨_, rfl⟩
  generalize V12.alloc (.cells #[.int .u32 (su : Nat), .int .u32 (sx : Nat), .int .u32 (sh : Nat), .slice a1s sl.length c1s] 26) = V13 at S13 B13 Y13 Z13 L13 X13 Td13 D113 Q13 ⊢
  rw [hg1] at D113 ⊢
  clear hg1
  have c0 := blk_cell S13.out 0
  have c1 := blk_cell S13.out 1
  have c2 := blk_cell S13.out 2
  have c3 := blk_cell S13.out 3
  go_wp2_with fail
  refine (HRSent.out a c V13 L13.out HN.out).mono ?_
  rintro e V14 ⟨⟨a2s, c2s, rfl, hS⟩, hB⟩
  have S14 := Lib.hid ((hB.block _ (blk_lt S13.out)).trans S13.out)
  have B14 := Lib.hid ((hB.block _ (blk_lt B13.out)).trans B13.out)
  have Y14 := Lib.hid ((hB.block _ (blk_lt Y13.out)).trans Y13.out)
  have Z14 := Lib.hid ((hB.block _ (blk_lt Z13.out)).trans Z13.out)
  have D114 := Lib.hid ((hB.block _ (blk_lt D113.out)).trans D113.out)
  have L14 := Lib.hid (Sts.belowT L13.out hB)
  have X14 := Lib.hid (Sts.belowT X13.out hB)
  have Td14 := Lib.hid (Sts.belowT Td13.out hB)
  have Q14 := Lib.hid (Q13.out.trans (hB.mono Q13.out.size))
  have Tf14 := Lib.hid (hS)
  clear hB S13 B13 Y13 Z13 D113 L13 X13 Td13 Q13 c0 c1 c2 c3
  clear hS
  have hb9 := (Below.refl V14.heap.size V14).alloc (Nat.le_refl _) (.cells #[.int .u32 (su : Nat), .int .u32 (sx : Nat), .int .u32 (sh : Nat), .slice a2s sl.length c2s] 25)
  have D215 := Lib.hid (blk_new V14 (.cells #[.int .u32 (su : Nat), .int .u32 (sx : Nat), .int .u32 (sh : Nat), .slice a2s sl.length c2s] 25))
  have S15 := Lib.hid ((hb9.block _ (blk_lt S14.out)).trans S14.out)
  have B15 := Lib.hid ((hb9.block _ (blk_lt B14.out)).trans B14.out)
  have Y15 := Lib.hid ((hb9.block _ (blk_lt Y14.out)).trans Y14.out)
  have Z15 := Lib.hid ((hb9.block _ (blk_lt Z14.out)).trans Z14.out)
  have D115 := Lib.hid ((hb9.block _ (blk_lt D114.out)).trans D114.out)
  have L15 := Lib.hid (Sts.belowT L14.out hb9)
  have X15 := Lib.hid (Sts.belowT X14.out hb9)
  have Td15 := Lib.hid (Sts.belowT Td14.out hb9)
  have Tf15 := Lib.hid (Sts.belowT Tf14.out hb9)
  have Q15 := Lib.hid (Q14.out.trans (hb9.mono Q14.out.size))
  clear hb9 S14 B14 Y14 Z14 D114 L14 X14 Td14 Tf14 Q14
  go_upto_region 12 with fail
  obtain ⟨g2, hg2⟩ : ∃ q, V14.heap.size = q := ⟨_, rfl⟩
  generalize V14.alloc (.cells #[.int .u32 (su : Nat), .int .u32 (sx : Nat), .int .u32 (sh : Nat), .slice a2s sl.length c2s] 25) = V15 at S15 B15 Y15 Z15 D115 L15 X15 Td15 Tf15 D215 Q15 ⊢
  rw [hg2] at D215 ⊢
  clear hg2
  have x0 := blk_cell B15.out 0
  have x1 := blk_cell B15.out 1
  have x2 := blk_cell B15.out 2
  have x3 := blk_cell B15.out 3
  go_wp2_with fail
  refine (HPRes.out a' c' V15 X15.out HN2.out).mono ?_
  rintro e V16 ⟨⟨a1r, c1r, rfl, hS⟩, hB⟩
  have S16 := Lib.hid ((hB.block _ (blk_lt S15.out)).trans S15.out)
  have B16 := Lib.hid ((hB.block _ (blk_lt B15.out)).trans B15.out)
  have Y16 := Lib.hid ((hB.block _ (blk_lt Y15.out)).trans Y15.out)
  have Z16 := Lib.hid ((hB.block _ (blk_lt Z15.out)).trans Z15.out)
  have D116 := Lib.hid ((hB.block _ (blk_lt D115.out)).trans D115.out)
  have D216 := Lib.hid ((hB.block _ (blk_lt D215.out)).trans D215.out)
  have L16 := Lib.hid (Sts.belowT L15.out hB)
  have X16 := Lib.hid (Sts.belowT X15.out hB)
  have Td16 := Lib.hid (Sts.belowT Td15.out hB)
  have Tf16 := Lib.hid (Sts.belowT Tf15.out hB)
  have Q16 := Lib.hid (Q15.out.trans (hB.mono Q15.out.size))
  have Ti16 := Lib.hid (hS)
  clear hB S15 B15 Y15 Z15 D115 D215 L15 X15 Td15 Tf15 Q15 x0 x1 x2 x3
  clear hS
  have hb9 := (Below.refl V16.heap.size V16).alloc (Nat.le_refl _) (.cells #[.int .u32 (ru : Nat), .int .u32 (rx : Nat), .int .u32 (rh : Nat), .slice a1r rl.length c1r] 26)
  have D317 := Lib.hid (blk_new V16 (.cells #[.int .u32 (ru : Nat), .int .u32 (rx : Nat), .int .u32 (rh : Nat), .slice a1r rl.length c1r] 26))
  have S17 := Lib.hid ((hb9.block _ (blk_lt S16.out)).trans S16.out)
  have B17 := Lib.hid ((hb9.block _ (blk_lt B16.out)).trans B16.out)
  have Y17 := Lib.hid ((hb9.block _ (blk_lt Y16.out)).trans Y16.out)
  have Z17 := Lib.hid ((hb9.block _ (blk_lt Z16.out)).trans Z16.out)
  have D117 := Lib.hid ((hb9.block _ (blk_lt D116.out)).trans D116.out)
  have D217 := Lib.hid ((hb9.block _ (blk_lt D216.out)).trans D216.out)
  have L17 := Lib.hid (Sts.belowT L16.out hb9)
  have X17 := Lib.hid (Sts.belowT X16.out hb9)
  have Td17 := Lib.hid (Sts.belowT Td16.out hb9)
  have Tf17 := Lib.hid (Sts.belowT Tf16.out hb9)
  have Ti17 := Lib.hid (Sts.belowT Ti16.out hb9)
  have Q17 := Lib.hid (Q16.out.trans (hb9.mono Q16.out.size))
  clear hb9 S16 B16 Y16 Z16 D116 D216 L16 X16 Td16 Tf16 Ti16 Q16
  go_upto_region 13 with fail
  obtain ⟨g3, hg3⟩ : ∃ q, V16.heap.size = q := ⟨_, rfl⟩
  generalize V16.alloc (.cells #[.int .u32 (ru : Nat), .int .u32 (rx : Nat), .int .u32 (rh : Nat), .slice a1r rl.length c1r] 26) = V17 at S17 B17 Y17 Z17 D117 D217 L17 X17 Td17 Tf17 Ti17 D317 Q17 ⊢
  rw [hg3] at D317 ⊢
  clear hg3
  have c0 := blk_cell S17.out 0
  have c1 := blk_cell S17.out 1
  have c2 := blk_cell S17.out 2
  have c3 := blk_cell S17.out 3
  go_wp2_with fail
  refine (HRRes.out a c V17 L17.out HN.out).mono ?_
  rintro e V18 ⟨⟨a2r, c2r, rfl, hS⟩, hB⟩
  have S18 := Lib.hid ((hB.block _ (blk_lt S17.out)).trans S17.out)
  have B18 := Lib.hid ((hB.block _ (blk_lt B17.out)).trans B17.out)
  have Y18 := Lib.hid ((hB.block _ (blk_lt Y17.out)).trans Y17.out)
  have Z18 := Lib.hid ((hB.block _ (blk_lt Z17.out)).trans Z17.out)
  have D118 := Lib.hid ((hB.block _ (blk_lt D117.out)).trans D117.out)
  have D218 := Lib.hid ((hB.block _ (blk_lt D217.out)).trans D217.out)
  have D318 := Lib.hid ((hB.block _ (blk_lt D317.out)).trans D317.out)
  have L18 := Lib.hid (Sts.belowT L17.out hB)
  have X18 := Lib.hid (Sts.belowT X17.out hB)
  have Td18 := Lib.hid (Sts.belowT Td17.out hB)
  have Tf18 := Lib.hid (Sts.belowT Tf17.out hB)
  have Ti18 := Lib.hid (Sts.belowT Ti17.out hB)
  have Q18 := Lib.hid (Q17.out.trans (hB.mono Q17.out.size))
  have Tj18 := Lib.hid (hS)
  clear hB S17 B17 Y17 Z17 D117 D217 D317 L17 X17 Td17 Tf17 Ti17 Q17 c0 c1 c2 c3
  clear hS
  have hb9 := (Below.refl V18.heap.size V18).alloc (Nat.le_refl _) (.cells #[.int .u32 (ru : Nat), .int .u32 (rx : Nat), .int .u32 (rh : Nat), .slice a2r rl.length c2r] 25)
  have D419 := Lib.hid (blk_new V18 (.cells #[.int .u32 (ru : Nat), .int .u32 (rx : Nat), .int .u32 (rh : Nat), .slice a2r rl.length c2r] 25))
  have S19 := Lib.hid ((hb9.block _ (blk_lt S18.out)).trans S18.out)
  have B19 := Lib.hid ((hb9.block _ (blk_lt B18.out)).trans B18.out)
  have Y19 := Lib.hid ((hb9.block _ (blk_lt Y18.out)).trans Y18.out)
  have Z19 := Lib.hid ((hb9.block _ (blk_lt Z18.out)).trans Z18.out)
  have D119 := Lib.hid ((hb9.block _ (blk_lt D118.out)).trans D118.out)
  have D219 := Lib.hid ((hb9.block _ (blk_lt D218.out)).trans D218.out)
  have D319 := Lib.hid ((hb9.block _ (blk_lt D318.out)).trans D318.out)
  have L19 := Lib.hid (Sts.belowT L18.out hb9)
  have X19 := Lib.hid (Sts.belowT X18.out hb9)
  have Td19 := Lib.hid (Sts.belowT Td18.out hb9)
  have Tf19 := Lib.hid (Sts.belowT Tf18.out hb9)
  have Ti19 := Lib.hid (Sts.belowT Ti18.out hb9)
  have Tj19 := Lib.hid (Sts.belowT Tj18.out hb9)
  have Q19 := Lib.hid (Q18.out.trans (hb9.mono Q18.out.size))
  clear hb9 S18 B18 Y18 Z18 D118 D218 D318 L18 X18 Td18 Tf18 Ti18 Tj18 Q18
  go_upto_region 14 with fail
  obtain ⟨g4, hg4⟩ : ∃ q, V18.heap.size = q := ⟨_, rfl⟩
  generalize V18.alloc (.cells #[.int .u32 (ru : Nat), .int .u32 (rx : Nat), .int .u32 (rh : Nat), .slice a2r rl.length c2r] 25) = V19 at S19 B19 Y19 Z19 D119 D219 D319 L19 X19 Td19 Tf19 Ti19 Tj19 D419 Q19 ⊢
  rw [hg4] at D419 ⊢
  clear hg4
  have x0 := blk_cell B19.out 0
  have x1 := blk_cell B19.out 1
  have x2 := blk_cell B19.out 2
  have x3 := blk_cell B19.out 3
  go_wp2_with fail
  refine (HPTim.out a' c' V19 X19.out).mono ?_
  rintro e V20 ⟨⟨a1t, c1t, rfl, hS⟩, hB⟩
  have S20 := Lib.hid ((hB.block _ (blk_lt S19.out)).trans S19.out)
  have B20 := Lib.hid ((hB.block _ (blk_lt B19.out)).trans B19.out)
  have Y20 := Lib.hid ((hB.block _ (blk_lt Y19.out)).trans Y19.out)
  have Z20 := Lib.hid ((hB.block _ (blk_lt Z19.out)).trans Z19.out)
  have D120 := Lib.hid ((hB.block _ (blk_lt D119.out)).trans D119.out)
  have D220 := Lib.hid ((hB.block _ (blk_lt D219.out)).trans D219.out)
  have D320 := Lib.hid ((hB.block _ (blk_lt D319.out)).trans D319.out)
  have D420 := Lib.hid ((hB.block _ (blk_lt D419.out)).trans D419.out)
  have L20 := Lib.hid (Sts.belowT L19.out hB)
  have X20 := Lib.hid (Sts.belowT X19.out hB)
  have Td20 := Lib.hid (Sts.belowT Td19.out hB)
  have Tf20 := Lib.hid (Sts.belowT Tf19.out hB)
  have Ti20 := Lib.hid (Sts.belowT Ti19.out hB)
  have Tj20 := Lib.hid (Sts.belowT Tj19.out hB)
  have Q20 := Lib.hid (Q19.out.trans (hB.mono Q19.out.size))
  have Tk20 := Lib.hid (hS)
  clear hB S19 B19 Y19 Z19 D119 D219 D319 D419 L19 X19 Td19 Tf19 Ti19 Tj19 Q19 x0 x1 x2 x3
  clear hS
  have hb9 := (Below.refl V20.heap.size V20).alloc (Nat.le_refl _) (.cells #[.int .u32 (tu : Nat), .int .u32 (tx : Nat), .int .u32 (tu : Nat), .slice a1t tl.length c1t] 26)
  have D521 := Lib.hid (blk_new V20 (.cells #[.int .u32 (tu : Nat), .int .u32 (tx : Nat), .int .u32 (tu : Nat), .slice a1t tl.length c1t] 26))
  have S21 := Lib.hid ((hb9.block _ (blk_lt S20.out)).trans S20.out)
  have B21 := Lib.hid ((hb9.block _ (blk_lt B20.out)).trans B20.out)
  have Y21 := Lib.hid ((hb9.block _ (blk_lt Y20.out)).trans Y20.out)
  have Z21 := Lib.hid ((hb9.block _ (blk_lt Z20.out)).trans Z20.out)
  have D121 := Lib.hid ((hb9.block _ (blk_lt D120.out)).trans D120.out)
  have D221 := Lib.hid ((hb9.block _ (blk_lt D220.out)).trans D220.out)
  have D321 := Lib.hid ((hb9.block _ (blk_lt D320.out)).trans D320.out)
  have D421 := Lib.hid ((hb9.block _ (blk_lt D420.out)).trans D420.out)
  have L21 := Lib.hid (Sts.belowT L20.out hb9)
  have X21 := Lib.hid (Sts.belowT X20.out hb9)
  have Td21 := Lib.hid (Sts.belowT Td20.out hb9)
  have Tf21 := Lib.hid (Sts.belowT Tf20.out hb9)
  have Ti21 := Lib.hid (Sts.belowT Ti20.out hb9)
  have Tj21 := Lib.hid (Sts.belowT Tj20.out hb9)
  have Tk21 := Lib.hid (Sts.belowT Tk20.out hb9)
  have Q21 := Lib.hid (Q20.out.trans (hb9.mono Q20.out.size))
  clear hb9 S20 B20 Y20 Z20 D120 D220 D320 D420 L20 X20 Td20 Tf20 Ti20 Tj20 Tk20 Q20
  go_upto_region 15 with fail
  obtain ⟨g5, hg5⟩ : ∃ q, V20.heap.size = q := ⟨_, rfl⟩
  generalize V20.alloc (.cells #[.int .u32 (tu : Nat), .int .u32 (tx : Nat), .int .u32 (tu : Nat), .slice a1t tl.length c1t] 26) = V21 at S21 B21 Y21 Z21 D121 D221 D321 D421 L21 X21 Td21 Tf21 Ti21 Tj21 Tk21 D521 Q21 ⊢
  rw [hg5] at D521 ⊢
  clear hg5
  have c0 := blk_cell S21.out 0
  have c1 := blk_cell S21.out 1
  have c2 := blk_cell S21.out 2
  have c3 := blk_cell S21.out 3
  go_wp2_with fail
  refine (HRTim.out a c V21 L21.out).mono ?_
  rintro e V22 ⟨⟨a2t, c2t, rfl, hS⟩, hB⟩
  have S22 := Lib.hid ((hB.block _ (blk_lt S21.out)).trans S21.out)
  have B22 := Lib.hid ((hB.block _ (blk_lt B21.out)).trans B21.out)
  have Y22 := Lib.hid ((hB.block _ (blk_lt Y21.out)).trans Y21.out)
  have Z22 := Lib.hid ((hB.block _ (blk_lt Z21.out)).trans Z21.out)
  have D122 := Lib.hid ((hB.block _ (blk_lt D121.out)).trans D121.out)
  have D222 := Lib.hid ((hB.block _ (blk_lt D221.out)).trans D221.out)
  have D322 := Lib.hid ((hB.block _ (blk_lt D321.out)).trans D321.out)
  have D422 := Lib.hid ((hB.block _ (blk_lt D421.out)).trans D421.out)
  have D522 := Lib.hid ((hB.block _ (blk_lt D521.out)).trans D521.out)
  have L22 := Lib.hid (Sts.belowT L21.out hB)
  have X22 := Lib.hid (Sts.belowT X21.out hB)
  have Td22 := Lib.hid (Sts.belowT Td21.out hB)
  have Tf22 := Lib.hid (Sts.belowT Tf21.out hB)
  have Ti22 := Lib.hid (Sts.belowT Ti21.out hB)
  have Tj22 := Lib.hid (Sts.belowT Tj21.out hB)
  have Tk22 := Lib.hid (Sts.belowT Tk21.out hB)
  have Q22 := Lib.hid (Q21.out.trans (hB.mono Q21.out.size))
  have To22 := Lib.hid (hS)
  clear hB S21 B21 Y21 Z21 D121 D221 D321 D421 D521 L21 X21 Td21 Tf21 Ti21 Tj21 Tk21 Q21 c0 c1 c2 c3
  clear hS
  have hb9 := (Below.refl V22.heap.size V22).alloc (Nat.le_refl _) (.cells #[.int .u32 (tu : Nat), .int .u32 (tx : Nat), .int .u32 (tu : Nat), .slice a2t tl.length c2t] 25)
  have D623 := Lib.hid (blk_new V22 (.cells #[.int .u32 (tu : Nat), .int .u32 (tx : Nat), .int .u32 (tu : Nat), .slice a2t tl.length c2t] 25))
  have S23 := Lib.hid ((hb9.block _ (blk_lt S22.out)).trans S22.out)
  have B23 := Lib.hid ((hb9.block _ (blk_lt B22.out)).trans B22.out)
  have Y23 := Lib.hid ((hb9.block _ (blk_lt Y22.out)).trans Y22.out)
  have Z23 := Lib.hid ((hb9.block _ (blk_lt Z22.out)).trans Z22.out)
  have D123 := Lib.hid ((hb9.block _ (blk_lt D122.out)).trans D122.out)
  have D223 := Lib.hid ((hb9.block _ (blk_lt D222.out)).trans D222.out)
  have D323 := Lib.hid ((hb9.block _ (blk_lt D322.out)).trans D322.out)
  have D423 := Lib.hid ((hb9.block _ (blk_lt D422.out)).trans D422.out)
  have D523 := Lib.hid ((hb9.block _ (blk_lt D522.out)).trans D522.out)
  have L23 := Lib.hid (Sts.belowT L22.out hb9)
  have X23 := Lib.hid (Sts.belowT X22.out hb9)
  have Td23 := Lib.hid (Sts.belowT Td22.out hb9)
  have Tf23 := Lib.hid (Sts.belowT Tf22.out hb9)
  have Ti23 := Lib.hid (Sts.belowT Ti22.out hb9)
  have Tj23 := Lib.hid (Sts.belowT Tj22.out hb9)
  have Tk23 := Lib.hid (Sts.belowT Tk22.out hb9)
  have To23 := Lib.hid (Sts.belowT To22.out hb9)
  have Q23 := Lib.hid (Q22.out.trans (hb9.mono Q22.out.size))
  clear hb9 S22 B22 Y22 Z22 D122 D222 D322 D422 D522 L22 X22 Td22 Tf22 Ti22 Tj22 Tk22 To22 Q22
  go_upto_region 16 with fail
  obtain ⟨g6, hg6⟩ : ∃ q, V22.heap.size = q := ⟨_, rfl⟩
  generalize V22.alloc (.cells #[.int .u32 (tu : Nat), .int .u32 (tx : Nat), .int .u32 (tu : Nat), .slice a2t tl.length c2t] 25) = V23 at S23 B23 Y23 Z23 D123 D223 D323 D423 D523 L23 X23 Td23 Tf23 Ti23 Tj23 Tk23 To23 D623 Q23 ⊢
  rw [hg6] at D623 ⊢
  clear hg6
  have d0 := blk_cell D123.out 0
  have d1 := blk_cell D123.out 1
  have d2 := blk_cell D123.out 2
  have d3 := blk_cell D123.out 3
  have f0 := blk_cell D223.out 0
  have f1 := blk_cell D223.out 1
  have f2 := blk_cell D223.out 2
  have f3 := blk_cell D223.out 3
  go_wp2_with fail
  refine (same_any su sx sh a1s a2s sl c1s c2s V23 Td23.out Tf23.out Hsl.out hsn).mono ?_
  rintro e V24 ⟨rfl, hB⟩
  have S24 := Lib.hid ((hB.block _ (blk_lt S23.out)).trans S23.out)
  have B24 := Lib.hid ((hB.block _ (blk_lt B23.out)).trans B23.out)
  have Y24 := Lib.hid ((hB.block _ (blk_lt Y23.out)).trans Y23.out)
  have Z24 := Lib.hid ((hB.block _ (blk_lt Z23.out)).trans Z23.out)
  have D124 := Lib.hid ((hB.block _ (blk_lt D123.out)).trans D123.out)
  have D224 := Lib.hid ((hB.block _ (blk_lt D223.out)).trans D223.out)
  have D324 := Lib.hid ((hB.block _ (blk_lt D323.out)).trans D323.out)
  have D424 := Lib.hid ((hB.block _ (blk_lt D423.out)).trans D423.out)
  have D524 := Lib.hid ((hB.block _ (blk_lt D523.out)).trans D523.out)
  have D624 := Lib.hid ((hB.block _ (blk_lt D623.out)).trans D623.out)
  have L24 := Lib.hid (Sts.belowT L23.out hB)
  have X24 := Lib.hid (Sts.belowT X23.out hB)
  have Td24 := Lib.hid (Sts.belowT Td23.out hB)
  have Tf24 := Lib.hid (Sts.belowT Tf23.out hB)
  have Ti24 := Lib.hid (Sts.belowT Ti23.out hB)
  have Tj24 := Lib.hid (Sts.belowT Tj23.out hB)
  have Tk24 := Lib.hid (Sts.belowT Tk23.out hB)
  have To24 := Lib.hid (Sts.belowT To23.out hB)
  have Q24 := Lib.hid (Q23.out.trans (hB.mono Q23.out.size))
  clear hB S23 B23 Y23 Z23 D123 D223 D323 D423 D523 D623 L23 X23 Td23 Tf23 Ti23 Tj23 Tk23 To23 Q23 d0 d1 d2 d3 f0 f1 f2 f3
  go_wp2_with fail
  refine (num_any _ _).mono ?_
  rintro e w' ⟨rfl, rfl⟩
  have i0 := blk_cell D324.out 0
  have i1 := blk_cell D324.out 1
  have i2 := blk_cell D324.out 2
  have i3 := blk_cell D324.out 3
  have j0 := blk_cell D424.out 0
  have j1 := blk_cell D424.out 1
  have j2 := blk_cell D424.out 2
  have j3 := blk_cell D424.out 3
  go_wp2_with fail
  refine (same_any ru rx rh a1r a2r rl c1r c2r V24 Ti24.out Tj24.out Hrl.out hrn).mono ?_
  rintro e V25 ⟨rfl, hB⟩
  have S25 := Lib.hid ((hB.block _ (blk_lt S24.out)).trans S24.out)
  have B25 := Lib.hid ((hB.block _ (blk_lt B24.out)).trans B24.out)
  have Y25 := Lib.hid ((hB.block _ (blk_lt Y24.out)).trans Y24.out)
  have Z25 := Lib.hid ((hB.block _ (blk_lt Z24.out)).trans Z24.out)
  have D125 := Lib.hid ((hB.block _ (blk_lt D124.out)).trans D124.out)
  have D225 := Lib.hid ((hB.block _ (blk_lt D224.out)).trans D224.out)
  have D325 := Lib.hid ((hB.block _ (blk_lt D324.out)).trans D324.out)
  have D425 := Lib.hid ((hB.block _ (blk_lt D424.out)).trans D424.out)
  have D525 := Lib.hid ((hB.block _ (blk_lt D524.out)).trans D524.out)
  have D625 := Lib.hid ((hB.block _ (blk_lt D624.out)).trans D624.out)
  have L25 := Lib.hid (Sts.belowT L24.out hB)
  have X25 := Lib.hid (Sts.belowT X24.out hB)
  have Td25 := Lib.hid (Sts.belowT Td24.out hB)
  have Tf25 := Lib.hid (Sts.belowT Tf24.out hB)
  have Ti25 := Lib.hid (Sts.belowT Ti24.out hB)
  have Tj25 := Lib.hid (Sts.belowT Tj24.out hB)
  have Tk25 := Lib.hid (Sts.belowT Tk24.out hB)
  have To25 := Lib.hid (Sts.belowT To24.out hB)
  have Q25 := Lib.hid (Q24.out.trans (hB.mono Q24.out.size))
  clear hB S24 B24 Y24 Z24 D124 D224 D324 D424 D524 D624 L24 X24 Td24 Tf24 Ti24 Tj24 Tk24 To24 Q24 i0 i1 i2 i3 j0 j1 j2 j3
  go_wp2_with fail
  refine (num_any _ _).mono ?_
  rintro e w' ⟨rfl, rfl⟩
  have k0 := blk_cell D525.out 0
  have k1 := blk_cell D525.out 1
  have k2 := blk_cell D525.out 2
  have k3 := blk_cell D525.out 3
  have o0 := blk_cell D625.out 0
  have o1 := blk_cell D625.out 1
  have o2 := blk_cell D625.out 2
  have o3 := blk_cell D625.out 3
  go_wp2_with fail
  refine (same_any tu tx tu a1t a2t tl c1t c2t V25 Tk25.out To25.out Htl.out htn).mono ?_
  rintro e V26 ⟨rfl, hB⟩
  have S26 := Lib.hid ((hB.block _ (blk_lt S25.out)).trans S25.out)
  have B26 := Lib.hid ((hB.block _ (blk_lt B25.out)).trans B25.out)
  have Y26 := Lib.hid ((hB.block _ (blk_lt Y25.out)).trans Y25.out)
  have Z26 := Lib.hid ((hB.block _ (blk_lt Z25.out)).trans Z25.out)
  have D126 := Lib.hid ((hB.block _ (blk_lt D125.out)).trans D125.out)
  have D226 := Lib.hid ((hB.block _ (blk_lt D225.out)).trans D225.out)
  have D326 := Lib.hid ((hB.block _ (blk_lt D325.out)).trans D325.out)
  have D426 := Lib.hid ((hB.block _ (blk_lt D425.out)).trans D425.out)
  have D526 := Lib.hid ((hB.block _ (blk_lt D525.out)).trans D525.out)
  have D626 := Lib.hid ((hB.block _ (blk_lt D625.out)).trans D625.out)
  have L26 := Lib.hid (Sts.belowT L25.out hB)
  have X26 := Lib.hid (Sts.belowT X25.out hB)
  have Td26 := Lib.hid (Sts.belowT Td25.out hB)
  have Tf26 := Lib.hid (Sts.belowT Tf25.out hB)
  have Ti26 := Lib.hid (Sts.belowT Ti25.out hB)
  have Tj26 := Lib.hid (Sts.belowT Tj25.out hB)
  have Tk26 := Lib.hid (Sts.belowT Tk25.out hB)
  have To26 := Lib.hid (Sts.belowT To25.out hB)
  have Q26 := Lib.hid (Q25.out.trans (hB.mono Q25.out.size))
  clear hB S25 B25 Y25 Z25 D125 D225 D325 D425 D525 D625 L25 X25 Td25 Tf25 Ti25 Tj25 Tk25 To25 Q25 k0 k1 k2 k3 o0 o1 o2 o3
  go_wp2_with fail
  refine (num_any _ _).mono ?_
  rintro e w' ⟨rfl, rfl⟩
  have x0 := blk_cell B26.out 0
  have x1 := blk_cell B26.out 1
  have x2 := blk_cell B26.out 2
  have x3 := blk_cell B26.out 3
  have c0 := blk_cell S26.out 0
  have c1 := blk_cell S26.out 1
  have c2 := blk_cell S26.out 2
  have c3 := blk_cell S26.out 3
  go_wp2_with fail
  refine (same_any una nxt high a' a bs c' c V26 X26.out L26.out HV.out (by omega)).mono ?_
  rintro e V27 ⟨rfl, hB⟩
  have S27 := Lib.hid ((hB.block _ (blk_lt S26.out)).trans S26.out)
  have B27 := Lib.hid ((hB.block _ (blk_lt B26.out)).trans B26.out)
  have Y27 := Lib.hid ((hB.block _ (blk_lt Y26.out)).trans Y26.out)
  have Z27 := Lib.hid ((hB.block _ (blk_lt Z26.out)).trans Z26.out)
  have D127 := Lib.hid ((hB.block _ (blk_lt D126.out)).trans D126.out)
  have D227 := Lib.hid ((hB.block _ (blk_lt D226.out)).trans D226.out)
  have D327 := Lib.hid ((hB.block _ (blk_lt D326.out)).trans D326.out)
  have D427 := Lib.hid ((hB.block _ (blk_lt D426.out)).trans D426.out)
  have D527 := Lib.hid ((hB.block _ (blk_lt D526.out)).trans D526.out)
  have D627 := Lib.hid ((hB.block _ (blk_lt D626.out)).trans D626.out)
  have L27 := Lib.hid (Sts.belowT L26.out hB)
  have X27 := Lib.hid (Sts.belowT X26.out hB)
  have Td27 := Lib.hid (Sts.belowT Td26.out hB)
  have Tf27 := Lib.hid (Sts.belowT Tf26.out hB)
  have Ti27 := Lib.hid (Sts.belowT Ti26.out hB)
  have Tj27 := Lib.hid (Sts.belowT Tj26.out hB)
  have Tk27 := Lib.hid (Sts.belowT Tk26.out hB)
  have To27 := Lib.hid (Sts.belowT To26.out hB)
  have Q27 := Lib.hid (Q26.out.trans (hB.mono Q26.out.size))
  clear hB S26 B26 Y26 Z26 D126 D226 D326 D426 D526 D626 L26 X26 Td26 Tf26 Ti26 Tj26 Tk26 To26 Q26 x0 x1 x2 x3 c0 c1 c2 c3
  go_wp2_with fail
  refine (alive_any V27).mono ?_
  rintro e V28 ⟨rfl, hB⟩
  have S28 := Lib.hid ((hB.block _ (blk_lt S27.out)).trans S27.out)
  have B28 := Lib.hid ((hB.block _ (blk_lt B27.out)).trans B27.out)
  have Y28 := Lib.hid ((hB.block _ (blk_lt Y27.out)).trans Y27.out)
  have Z28 := Lib.hid ((hB.block _ (blk_lt Z27.out)).trans Z27.out)
  have D128 := Lib.hid ((hB.block _ (blk_lt D127.out)).trans D127.out)
  have D228 := Lib.hid ((hB.block _ (blk_lt D227.out)).trans D227.out)
  have D328 := Lib.hid ((hB.block _ (blk_lt D327.out)).trans D327.out)
  have D428 := Lib.hid ((hB.block _ (blk_lt D427.out)).trans D427.out)
  have D528 := Lib.hid ((hB.block _ (blk_lt D527.out)).trans D527.out)
  have D628 := Lib.hid ((hB.block _ (blk_lt D627.out)).trans D627.out)
  have L28 := Lib.hid (Sts.belowT L27.out hB)
  have X28 := Lib.hid (Sts.belowT X27.out hB)
  have Td28 := Lib.hid (Sts.belowT Td27.out hB)
  have Tf28 := Lib.hid (Sts.belowT Tf27.out hB)
  have Ti28 := Lib.hid (Sts.belowT Ti27.out hB)
  have Tj28 := Lib.hid (Sts.belowT Tj27.out hB)
  have Tk28 := Lib.hid (Sts.belowT Tk27.out hB)
  have To28 := Lib.hid (Sts.belowT To27.out hB)
  have Q28 := Lib.hid (Q27.out.trans (hB.mono Q27.out.size))
  clear hB S27 B27 Y27 Z27 D127 D227 D327 D427 D527 D627 L27 X27 Td27 Tf27 Ti27 Tj27 Tk27 To27 Q27
  go_wp2
  go_ret
  exact ⟨rfl, Q28.out⟩

theorem of_len4 {α : Type} (l : List α) (h : l.length = 4) : ∃ x0 x1 x2 x3, l = [x0, x1, x2, x3] := by
  match l, h with
  | [x0, x1, x2, x3], _ => exact ⟨x0, x1, x2, x3, rfl⟩
theorem own : ownKnob Try.prog.godebug = none := by kernel_rfl
theorem laidOut : laidOutB Try.prog = true := by kernel_rfl

set_option maxRecDepth 100000 in
set_option maxHeartbeats 2000000 in
theorem lifted (os : Os) (started : os.Started) (H : Type) (enc : TypeId × Value → H) :
    ReturnsInHanded {} Try.checked os 3 .any (Rows.scoreboardTellsSpec.pre6 enc Try.prog Try.f3 Rows.scoreboardTellsRow.domain false) (Rows.scoreboardTellsSpec.post enc Try.prog Try.f3 false true false false) := by
  refine returnsInHanded_of_change_sized (C := Try.checked) own started (by kernel_rfl) Try.func3
    (ChangeSpec.witness6 (enc := enc) (C := Try.checked) false ⟨#[], #[.agg #[.int .u32 0, .int .u32 0, .int .u32 0, .slice none 0 0], .int .i64 0, .int .u32 0, .int .i64 0, .bool false], []⟩ 8 (by kernel_rfl) (by kernel_rfl) (by kernel_rfl) (by kernel_rfl)) ?_
  intro W base args ds gs before hval0 hW hcnd hsz0 _
  have hval : ∀ (j : Nat) t v, Try.f3.params[j]? = some t → args[j]? = some v → Value.okWide Try.prog W .any base t v := hval0
  have hsz : (DataW.weightsEach Try.prog (Try.f3.params.toList ++ Rows.scoreboardTellsSpec.plain.varTypes Try.prog) (ds ++ gs)).all (· ≤ reachBytes) = true := hsz0
  have hW' := hW
  obtain ⟨p, q, hA0, hV, rfl, hfz, hnd⟩ := hW
  have hA : DataW.TrodAll enc Try.prog W 0 (fun _ => true) true Try.f3.params.toList args.toList ds p := hA0
  rw [Try.params3] at hA hval hsz
  obtain ⟨v0, vs0, d0, ds0, p0, q0, hargs, rfl, rfl, h0, r0⟩ := trodAll_cons hA
  obtain ⟨v1, vs1, d1, ds1, p1, q1, rfl, rfl, rfl, h1, r1⟩ := trodAll_cons r0
  obtain ⟨v2, vs2, d2, ds2, p2, q2, rfl, rfl, rfl, h2, r2⟩ := trodAll_cons r1
  obtain ⟨v3, vs3, d3, ds3, p3, q3, rfl, rfl, rfl, h3, r3⟩ := trodAll_cons r2
  obtain ⟨v4, vs4, d4, ds4, p4, q4, rfl, rfl, rfl, h4, r4⟩ := trodAll_cons r3
  obtain ⟨rfl, rfl, rfl⟩ := trodAll_nil r4
  obtain rfl : args = #[v0, v1, v2, v3, v4] := by cases args; simp_all
  obtain ⟨rfl, rfl⟩ := trodVars_none hV
  have k0 := h0
  have lt0 : ∀ x ∈ p0, x.block < W.heap.size := by obtain ⟨m, hm⟩ := k0; exact DataW.trod_lt m _ _ _ hm
  obtain ⟨vs0', ys0', m0, rfl, lv0, ly0, hd0, F0⟩ := open_agg Try.underlying25 (by kernel_rfl) (by kernel_rfl) (hval 0 25 v0 rfl rfl) h0
  obtain ⟨c0_0, c0_1, c0_2, c0_3, rfl⟩ := of_len4 _ lv0
  obtain ⟨y0_0, y0_1, y0_2, y0_3, rfl⟩ := of_len4 _ ly0
  simp only [List.map_cons, List.map_nil] at hd0
  obtain ⟨_, _, e, g, t0_0⟩ := F0 0 _ rfl
  obtain rfl := Option.some.inj e; obtain rfl := Option.some.inj g; clear e g
  obtain ⟨z0_0, e, _, w0_0⟩ := DataW.trod_int Try.underlying22 t0_0
  obtain rfl := (List.cons.inj e).1; clear e
  obtain ⟨n0_0, rfl, hn0_0⟩ := nat_of_u32 w0_0
  obtain ⟨_, _, e, g, t0_1⟩ := F0 1 _ rfl
  obtain rfl := Option.some.inj e; obtain rfl := Option.some.inj g; clear e g
  obtain ⟨z0_1, e, _, w0_1⟩ := DataW.trod_int Try.underlying22 t0_1
  obtain rfl := (List.cons.inj e).1; clear e
  obtain ⟨n0_1, rfl, hn0_1⟩ := nat_of_u32 w0_1
  obtain ⟨_, _, e, g, t0_2⟩ := F0 2 _ rfl
  obtain rfl := Option.some.inj e; obtain rfl := Option.some.inj g; clear e g
  obtain ⟨z0_2, e, _, w0_2⟩ := DataW.trod_int Try.underlying22 t0_2
  obtain rfl := (List.cons.inj e).1; clear e
  obtain ⟨n0_2, rfl, hn0_2⟩ := nat_of_u32 w0_2
  obtain ⟨_, _, e, g, t0_3⟩ := F0 3 _ rfl
  obtain rfl := Option.some.inj e; obtain rfl := Option.some.inj g; clear e g
  obtain ⟨a0_3, bs0_3, cap0_3, rfl, hbk0_3, hcap0_3, hlc0_3, hq0_3⟩ := open_blocks t0_3
  obtain ⟨a1, rfl, rfl, rfl, w1⟩ := open_int Try.underlying3 (hval 1 3 v1 rfl rfl) h1
  obtain ⟨a2, rfl, rfl, rfl, w2⟩ := open_int Try.underlying22 (hval 2 22 v2 rfl rfl) h2
  obtain ⟨a3, rfl, rfl, rfl, w3⟩ := open_int Try.underlying3 (hval 3 3 v3 rfl rfl) h3
  obtain ⟨a4, rfl, rfl, rfl⟩ := open_bool Try.underlying4 (hval 4 4 v4 rfl rfl) h4
  have hre0_3 : bs0_3.length ≤ 17592186043904 := blocks_reach hq0_3 (sized_field hsz (j := 0) (i := 3) (t := 25) rfl (by rw [hd0]; rfl) Try.underlying25 rfl rfl)
  clear hA0 hval0 hsz hsz0
  obtain ⟨lo1, hi1⟩ := bounds_i64 w1
  obtain ⟨n2, rfl, hn2⟩ := nat_of_u32 w2
  obtain ⟨lo3, hi3⟩ := bounds_i64 w3
  refine (walk n0_0 n0_1 n0_2 a0_3 bs0_3 cap0_3 a1 n2 a3 a4 W hn0_0 hn0_1 hn0_2 hbk0_3 hcap0_3 hlc0_3 hre0_3 lo1 hi1 hn2 lo3 hi3).mono fun e W' ⟨he, bel⟩ => ?_
  subst he
  exact ⟨_, rfl, _, _, _, [], _, [], hW', trodAll_mk1 (shut_bool Try.underlying4 _), (trodAll_cons_mk (Below.trod laidOut (by kernel_rfl) (of_decide_eq_true (by kernel_rfl)) k0 bel lt0) (trodAll_cons_mk (shut_int Try.underlying3 w1) (trodAll_cons_mk (shut_int Try.underlying22 w2) (trodAll_cons_mk (shut_int Try.underlying3 w3) (trodAll_cons_mk (shut_bool Try.underlying4 _) trodAll_mk0))))), rfl, bel.frame _, fun h => by cases h⟩

theorem over : Rows.scoreboardTellsRow.holds Try.pinned (OpenSpec.ofChange Rows.scoreboardTellsSpec) :=
  OpenClaim.holds_of_wide 3 Try.f3 rfl rfl rfl rfl rfl rfl rfl ⟨rfl, rfl, rfl, rfl, rfl⟩ rfl rfl rfl rfl rfl (by kernel_rfl) Try.func3 (by kernel_rfl)
    (of_decide_eq_true (by kernel_rfl)) (by unfold Func.isWrapper; first | (rw [if_pos (by decide +kernel)]; kernel_rfl) | (rw [if_neg (by decide +kernel)]; exact ⟨rfl, rfl⟩))
    (fun os started H enc _ => lifted os started H enc)

end Go.Proofs.Ytcachmjcninkbaa.scoreboardTells
namespace Go.Proofs.Ytcachmjcninkbaa
/-- The statement. -/
theorem scoreboardTells_holds : Rows.ScoreboardTellsSaid := scoreboardTells.over
#print axioms scoreboardTells_holds
end Go.Proofs.Ytcachmjcninkbaa
