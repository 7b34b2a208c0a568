/- The blocks that stand one behind the other in an option: handed out by a function. -/
import Derived.RangeFuncNested
import Derived.RangeFuncBound
import Derived.RangeFuncCalls
import Derived.RangeFuncLeaves
import Derived.RangeFuncBox
import Derived.Shelf.Abstract
import Derived.Shelf.RegionOpen
import Derived.WalkKit
import Derived.OwnWalkIn
import Derived.TacticsInMore
import Derived.LoopNIn
import Derived.LoopIn
import Derived.Maps.AppendAt
import Derived.Lib.Hide
import Derived.Sort.CutIn
import Derived.Deep.RegionHeld3
import Derived.Test.YtgmgoilleakdcaaTcpSt
namespace Go.Proofs.Ytgmgoilleakdcaa
open Go.RowKit Go.Shelf

attribute [local go_sem] Oper.semAt_some

/-- A block. -/
abbrev TB := { p : Nat × Nat // p.1 < 4294967296 ∧ p.2 < 4294967296 }
/-- Block number i of an option's body. -/
def tbO (ys : List Nat) (i : Nat) : TB := ⟨(Mt.numOf (seg ys (8 * i) 4) % 4294967296, Mt.numOf (seg ys (8 * i + 4) 4) % 4294967296), Nat.mod_lt _ (by omega), Nat.mod_lt _ (by omega)⟩
def tbL (ys : List Nat) (n : Nat) : List TB := (List.range n).map (tbO ys)
theorem tbL_length (ys : List Nat) (n : Nat) : (tbL ys n).length = n := by simp [tbL]
theorem tbL_take (ys : List Nat) (n j : Nat) (h : j < n) : (tbL ys n).take (j + 1) = (tbL ys n).take j ++ [tbO ys j] := by
  rw [List.take_succ_eq_append_getElem (by rw [tbL_length]; exact h)]
  congr 2
  simp [tbL]
theorem tbO_val (ys : List Nat) (hy : ∀ y ∈ ys, y < 256) (i : Nat) (h : 8 * i + 8 ≤ ys.length) : (tbO ys i).1 = (Mt.numOf (seg ys (8 * i) 4), Mt.numOf (seg ys (8 * i + 4) 4)) := by
  have l1 := Mt.numOf_lt (seg ys (8 * i) 4) (seg_lt hy _ _)
  have l2 := Mt.numOf_lt (seg ys (8 * i + 4) 4) (seg_lt hy _ _)
  rw [seg_length ys (8 * i) 4 (by omega)] at l1
  rw [seg_length ys (8 * i + 4) 4 (by omega)] at l2
  unfold tbO
  simp only
  rw [Nat.mod_eq_of_lt (by simpa using l1), Nat.mod_eq_of_lt (by simpa using l2)]

set_option maxRecDepth 100000 in
set_option maxHeartbeats 1000000 in
/-- The iterator hands out the blocks, in their order. -/
theorem blocks1_in (m : Nat) (hm : 1 ≤ m) (l n₀ B n : Nat) (a : Option Addr) (ys : List Nat) (cap : Nat) (hl : ys.length = 8 * n) (hn4 : n ≤ 4) (hcp : ys.length ≤ cap) (J Jx : List TB → World → Prop)
    (hY : ∀ pre x W, J pre W → pre.length < n → YieldAt Fence.wide (m - 1) Try.prog l #[.agg #[.int .u32 (x.1.1 : Nat), .int .u32 (x.1.2 : Nat)]] W fun e W' =>
      (e = .returned (.bool true) ∧ J (pre ++ [x]) W' ∧ KeepB n₀ B W W') ∨ (e = .returned (.bool false) ∧ Jx (pre ++ [x]) W'))
    (W : World) (h1 : W.cell? ⟨B, 0, none⟩ = some (.slice a ys.length cap)) (hx : ∀ W', Below n₀ W W' → Bts W' a ys) (hJd : ∀ pre W, J pre W → J pre W.drew) (h0 : J [] W) :
    CallsIn Fence.wide m Try.prog 51 #[.func (.yield l) #[] #[], .pointer (some ⟨B, 0, none⟩)] W fun e W' => (∃ v, e = .returned v) ∧
      ((∃ zs, zs = tbL ys n ∧ J zs W') ∨ (∃ pre, pre <+: tbL ys n ∧ Jx pre W')) := by
  refine callsIn_of_wp Try.func51 rfl trivial ?_ rfl
  simp only [Try.ntmps51, List.size_toArray, List.length_cons, List.length_nil, Nat.reduceAdd, Nat.reduceSub, Array.replicate_succ, Array.replicate_zero, List.push_toArray, List.append_toArray, List.nil_append, List.cons_append]
  have H0 := Lib.hid h0; clear h0
  have Hx := Lib.hid hx
  have h256 : Hid (∀ y ∈ ys, y < 256) := Lib.hid (hx W (Below.refl _ _)).1
  clear hx
  gi_wp2
  gi_loopw [3, 4, 5] (fun i _ _ wr => ∃ j p : Nat, j ≤ n ∧ 8 * j = p ∧ i = .int .i64 (p : Nat) ∧ J ((tbL ys n).take j) wr ∧ KeepB n₀ B W wr) (fun i _ _ _ => ys.length + 8 - (intOf i).toNat)
  case atStart => exact ⟨0, 0, by omega, rfl, rfl, H0.out, KeepB.refl _ _ _⟩
  case round =>
    obtain ⟨j, p, hj, hp, rfl, hJs, hk⟩ := hrel
    have g1 : wr.cell? ⟨B, 0, none⟩ = some (.slice a ys.length cap) := hk.cell.trans h1
    by_cases hlt : j < n
    · have htk := tbL_take ys n j hlt
      have hpl : ((tbL ys n).take j).length < n := by rw [List.length_take]; omega
      obtain ⟨fn, tmps, assign, body, hy, hR⟩ := hY _ (tbO ys j) wr.drew (hJd _ _ hJs) hpl
      rw [← htk] at hR
      rw [tbO_val ys h256.out j (by omega)] at hy
      simp only at hy
      rw [hp] at hy
      have hX := Hx.out wr hk.2
      obtain ⟨b, off, rfl, hb, _⟩ := hX.isSome (by omega)
      have l1 := seg_length ys (p) 4 (by omega)
      have l2 := seg_length ys (p + 4) 4 (by omega)
      have x1 := hX.segOf (p) 4 (by omega)
      have x2 := hX.segOf (p + 4) 4 (by omega)
      have v1 := Mt.numOf_lt (seg ys (p) 4) (seg_lt h256.out _ 4)
      have v2 := Mt.numOf_lt (seg ys (p + 4) 4) (seg_lt h256.out _ 4)
      rw [l1] at v1
      rw [l2] at v2
      have n1 := fun c2 => pnum_tcpwire (some ⟨b, off + p, none⟩) (seg ys (p) 4) c2 wr.drew (x1.below (Below.refl _ _).drew) (by omega) (by omega)
      have n2 := fun c2 => pnum_tcpwire (some ⟨b, off + (p + 4), none⟩) (seg ys (p + 4) 4) c2 wr.drew (x2.below (Below.refl _ _).drew) (by omega) (by omega)
      rw [l1] at n1
      rw [l2] at n2
      have N1 := Lib.hid n1
      have N2 := Lib.hid n2
      have y1 : IntKind.u32.wrap (Mt.numOf (seg ys (p) 4) : Int) = (Mt.numOf (seg ys (p) 4) : Int) := IntWalk.u32_in _ (by omega)
      have y2 : IntKind.u32.wrap (Mt.numOf (seg ys (p + 4) 4) : Int) = (Mt.numOf (seg ys (p + 4) 4) : Int) := IntWalk.u32_in _ (by omega)
      generalize Mt.numOf (seg ys (p) 4) = v at N1 y1 v1 hy
      generalize Mt.numOf (seg ys (p + 4) 4) = u at N2 y2 v2 hy
      have HR := Lib.hid hR; clear hR
      have HJ := Lib.hid hJs; clear hJs htk
      have HL := Lib.hid hl
      have HLT := Lib.hid hlt
      have i1 : (p : Int) < (ys.length : Int) := by omega
      obtain ⟨q, hq⟩ : ∃ q, p + 4 = q := ⟨_, rfl⟩
      obtain ⟨r, hr⟩ : ∃ r, p + 8 = r := ⟨_, rfl⟩
      have e4 : (p : Int) + 4 = (q : Int) := by omega
      have e8 : (p : Int) + 8 = (r : Int) := by omega
      have j1 : (p : Int) ≤ (q : Int) := by omega
      have j2 : (q : Int) ≤ (r : Int) := by omega
      have i4 : (q : Int) ≤ (cap : Int) := by omega
      have i8 : (r : Int) ≤ (cap : Int) := by omega
      have z0 : ¬ cap = p := by omega
      have z4 : ¬ cap = q := by omega
      have d1 : q - p = 4 := by omega
      have d2 : r - q = 4 := by omega
      rw [hq] at N2
      rw [← d1] at N1
      rw [← d2] at N2
      have w4 : IntKind.i64.wrap (q : Int) = (q : Int) := IntWalk.i64_in _ (by omega)
      have w8 : IntKind.i64.wrap (r : Int) = (r : Int) := IntWalk.i64_in _ (by omega)
      have k0 : (0 : Int) ≤ (p : Int) := by omega
      have k1 : (0 : Int) ≤ (q : Int) := by omega
      have k2 : (0 : Int) ≤ (r : Int) := by omega
      have k3 : (p : Int) ≤ (cap : Int) := by omega
      have HQ := Lib.hid (And.intro hq hr)
      have q40 : q ≤ 40 := by omega
      have r40 : r ≤ 40 := by omega
      have HP := Lib.hid hp
      have p32 : p ≤ 32 := by omega
      clear d1 d2 hq hr hp hlt hl hcp hj hpl hY H0 n1 n2 x1 x2 hX v1 v2 l1 l2
      gi_wp2_with (fail)
      gi_cut [4, 5] from 6 (fun (v1 v2 : Value) Wc => v1 = .int .u64 (v : Nat) ∧ v2 = .int .u64 (u : Nat) ∧ Wc = wr.drew)
      case first =>
        refine wpIn_wide.2 ?_
        go_region_held3 (fun W' => W'.cell? ⟨B, 0, none⟩ = some (.slice (some ⟨b, off, none⟩) ys.length cap)) (first | go_keep) (first
          | (go_at_call 30; (with_reducible refine (N1.out _).mono ?_); rintro e w' ⟨rfl, rfl⟩)
          | (go_at_call 30; (with_reducible refine (N2.out _).mono ?_); rintro e w' ⟨rfl, rfl⟩))
        gi_wp2
        gi_meet
        case rel => exact ⟨rfl, rfl, rfl⟩
      case rest =>
        obtain ⟨rfl, rfl, rfl⟩ := hcut
        gi_wp2
        refine HR.out.mono ?_
        rintro e W3 (⟨rfl, hJ3, hk3⟩ | ⟨rfl, hJx3⟩)
        · have HJ3 := Lib.hid hJ3; clear hJ3
          have hkk : KeepB n₀ B W W3 := KeepB.trans (show KeepB n₀ B W wr.drew from ⟨hk.1, hk.2.trans (Below.refl _ _).drew⟩) hk3
          gi_wp2
          go_roundw
          case rel => exact ⟨j + 1, r, HLT.out, by have := HP.out; have := HQ.out; omega, by go_num, HJ3.out, hkk⟩
          case measure => have := HP.out; have := HQ.out; have := HL.out; have := HLT.out; simp [intOf]; omega
        · have HJ3 := Lib.hid hJx3; clear hJx3
          gi_wp2
          refine bodyPost_ret (results_none rfl _ _ _) rfl ?_
          exact ⟨⟨_, rfl⟩, .inr ⟨_, List.take_prefix _ _, HJ3.out⟩⟩
    · obtain rfl : j = n := by omega
      rw [List.take_of_length_le (by rw [tbL_length]; exact Nat.le_refl _)] at hJs
      have HJ := Lib.hid hJs; clear hJs
      have i1 : ¬ (p : Int) < (ys.length : Int) := by omega
      gi_wp2
      go_end0
      exact ⟨⟨_, rfl⟩, .inl HJ.out⟩

set_option maxHeartbeats 1000000 in
/-- 'blocks': its argument is boxed; the function value captures the box. -/
theorem blocks_any (m : Nat) (a : Option Addr) (len cap : Nat) (w : World) :
    CallsIn Fence.wide m Try.prog 44 #[.slice a len cap] w fun e w' =>
      e = .returned (.func (.func 51) #[] #[.pointer (some ⟨w.heap.size, 0, none⟩)]) ∧ w' = w.alloc (.cells #[.slice a len cap] 25) := by
  refine callsIn_of_wp Try.func44 rfl trivial ?_ rfl
  simp only [Try.ntmps44, List.size_toArray, List.length_cons, List.length_nil, Nat.reduceAdd, Nat.reduceSub, Array.replicate_succ, Array.replicate_zero, List.push_toArray, List.append_toArray, List.nil_append, List.cons_append]
  gi_wp2
  go_ret
  exact ⟨rfl, rfl⟩

theorem blocks_stops (m : Nat) (hm : 1 ≤ m) (n₀ B n : Nat) (a : Option Addr) (ys : List Nat) (cap : Nat) (hl : ys.length = 8 * n) (hn4 : n ≤ 4) (hcp : ys.length ≤ cap) (w : World) (hn : n₀ ≤ w.heap.size) (hB : B < w.heap.size)
    (h1 : w.cell? ⟨B, 0, none⟩ = some (.slice a ys.length cap)) (hx : ∀ W', Below n₀ w W' → Bts W' a ys) :
    SeqStopsK Fence.wide m Try.prog 51 #[.pointer (some ⟨B, 0, none⟩)] (fun x : TB => #[Value.agg #[.int .u32 (x.1.1 : Nat), .int .u32 (x.1.2 : Nat)]]) (KeepB n₀ B) (fun zs => zs = tbL ys n) (fun pre => pre <+: tbL ys n) n w := fun l J Jx W hW hJ _ hY h0 =>
  blocks1_in m hm l n₀ B n a ys cap hl hn4 hcp J Jx hY W ((hW.cell (p := ⟨B, 0, none⟩) hB).trans h1) (fun W' h => hx W' ((hW.mono hn).trans h)) (fun pre W h => hJ pre W W.drew none h (grown_drew W none) (fun r e => by cases e)) h0
end Go.Proofs.Ytgmgoilleakdcaa
