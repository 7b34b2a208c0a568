/- 'digits' hands out the lowest figures of a number, the highest of them first, to whatever loop ranges over it. -/
import Derived.RangeFuncNested
import Derived.RangeFuncBound
import Derived.RangeFuncCalls
import Derived.RangeFuncLeaves
import Derived.RangeFuncBox
import Derived.Shelf.Abstract
import Derived.Shelf.RegionOpen
import Derived.WalkKit
import Derived.OwnWalkIn
import Derived.TacticsInMore
import Derived.LoopNIn
import Derived.LoopIn
import Derived.Maps.AppendAt
import Derived.Lib.Hide
import Derived.Test.YtfaokmmkgodfiaaLeaves
namespace Go.Proofs.Ytfaokmmkgodfiaa
open Go.RowKit Go.Shelf

attribute [local go_sem] Oper.semAt_some

/-- The unit of a loop's round: the power that stands for the figures still to come. -/
def unitOf (b r : Nat) : Nat := if r = 0 then 0 else b ^ (r - 1)

/-- The three boxes that the iterator reads lie as they lay. -/
def Keep3 (B : Nat) (A C : World) : Prop := ∀ i, i ≤ 2 → C.heap[B + i]? = A.heap[B + i]?
theorem Keep3.refl (B : Nat) (A : World) : Keep3 B A A := fun _ _ => rfl
theorem Keep3.trans {B : Nat} {A C D : World} (h : Keep3 B A C) (k : Keep3 B C D) : Keep3 B A D := fun i hi => (k i hi).trans (h i hi)
theorem Keep3.drew {B : Nat} {A C : World} (h : Keep3 B A C) : Keep3 B A C.drew := h
theorem Keep3.cell {B : Nat} {A C : World} (h : Keep3 B A C) (i : Nat) (hi : i ≤ 2) : C.cell? ⟨B + i, 0, none⟩ = A.cell? ⟨B + i, 0, none⟩ := World.cell?_of_block (h i hi)
theorem Keep3.put {B : Nat} {w : World} (hB : B + 2 < w.heap.size) (W : World) (l : Nat) (o o' : Obj) (hl : w.heap.size ≤ l) (_ : W.heap[l]? = some o) (_ : o.isCells = false) (_ : o.isWalk = false) : Keep3 B W (W.putObj l o') :=
  fun i hi => World.putObj_heap_other (by omega)
theorem Keep3.of_boxed {B : Nat} {A C : World} {t0 t1 t2 : TypeId} {v0 v1 v2 : Value} (a0 : Boxed A B t0 v0) (a1 : Boxed A (B + 1) t1 v1) (a2 : Boxed A (B + 2) t2 v2) (c0 : Boxed C B t0 v0) (c1 : Boxed C (B + 1) t1 v1) (c2 : Boxed C (B + 2) t2 v2) : Keep3 B A C := fun i hi => by
  match i, hi with
  | 0, _ => exact Eq.trans c0 (Eq.symm a0)
  | 1, _ => exact Eq.trans c1 (Eq.symm a1)
  | 2, _ => exact Eq.trans c2 (Eq.symm a2)

theorem fig_all : ∀ d : Fin 16, (({ data := #[48, 49, 50, 51, 52, 53, 54, 55, 56, 57, 97, 98, 99, 100, 101, 102] } : ByteArray)[d.1]'(d.2)).toNat = (Mt.figO d.1).1 := by decide +kernel

theorem unit_mul (b j : Nat) (h : b ^ (j + 1) < 18446744073709551616) : IntKind.u64.wrap ((unitOf b (j + 1) : Int) * (b : Int)) = (unitOf b (j + 1 + 1) : Int) := by
  have e : unitOf b (j + 1) * b = unitOf b (j + 1 + 1) := by simp [unitOf, Nat.pow_succ]
  rw [← Int.natCast_mul, e]
  refine u64_id _ ?_
  simpa [unitOf] using h

set_option maxRecDepth 100000 in
set_option maxHeartbeats 1000000 in
theorem digits1_in (m : Nat) (hm : 1 ≤ m) (l B n b c : Nat) (hb : 2 ≤ b) (hb' : b ≤ 16) (hn : n < 18446744073709551616) (hc1 : 1 ≤ c) (hcu : b ^ (c - 1) < 18446744073709551616) (hc2 : c ≤ 64) (J Jx : List Mt.Oct → World → Prop)
    (hJd : ∀ pre W, J pre W → J pre W.drew)
    (hY : ∀ pre x W, J pre W → pre.length < c → YieldAt Fence.wide (m - 1) Try.prog l #[.int .u8 (x.1 : Nat)] W fun e W' =>
      (e = .returned (.bool true) ∧ J (pre ++ [x]) W' ∧ Keep3 B W W') ∨ (e = .returned (.bool false) ∧ Jx (pre ++ [x]) W'))
    (W : World) (h1 : W.cell? ⟨B, 0, none⟩ = some (.int .u64 n)) (h2 : W.cell? ⟨B + 1, 0, none⟩ = some (.int .u64 b)) (h3 : W.cell? ⟨B + 2, 0, none⟩ = some (.int .i64 c)) (h0 : J [] W) :
    CallsIn Fence.wide m Try.prog 31 #[.func (.yield l) #[] #[], .pointer (some ⟨B + 2, 0, none⟩), .pointer (some ⟨B + 1, 0, none⟩), .pointer (some ⟨B, 0, none⟩)] W fun e W' => (∃ v, e = .returned v) ∧
      ((∃ ys, ys = Mt.digs b n c ∧ J ys W') ∨ (∃ pre, pre <+: Mt.digs b n c ∧ Jx pre W')) := by
  have hmx : Try.prog.follows .mixedOrders = true := by kernel_rfl
  refine callsIn_of_wp Try.func31 rfl trivial ?_ rfl
  simp only [Try.ntmps31, List.size_toArray, List.length_cons, List.length_nil, Nat.reduceAdd, Nat.reduceSub, Array.replicate_succ, Array.replicate_zero, List.push_toArray, List.append_toArray, List.nil_append, List.cons_append]
  have H0 := Lib.hid h0; clear h0
  gi_wp2
  gi_loop [5, 8] (fun u k => ∃ j : Nat, j ≤ c - 1 ∧ k = .int .i64 j ∧ u = .int .u64 (unitOf b (j + 1) : Nat)) (fun _ k => c - (intOf k).toNat)
  case atStart => exact ⟨0, by omega, rfl, rfl⟩
  case round =>
    obtain ⟨j, hj, rfl, rfl⟩ := hrel
    by_cases hlt : j < c - 1
    · have hp : b ^ (j + 1) < 18446744073709551616 := Nat.lt_of_le_of_lt (Nat.pow_le_pow_right (by omega) (by omega)) hcu
      have hq := unit_mul b j hp
      have Hq := Lib.hid hq; clear hq
      gi_wp2
      go_round
      case rel => exact ⟨j + 1, by omega, by go_num, by rw [Hq.out]⟩
      case measure => simp [intOf]; omega
    · obtain rfl : c = j + 1 := by omega
      gi_wp2
      gi_loopw [5] (fun u wr => ∃ r : Nat, r ≤ j + 1 ∧ u = .int .u64 (unitOf b r : Nat) ∧ J ((Mt.digs b n (j + 1)).take (j + 1 - r)) wr ∧ Keep3 B W wr) (fun u _ => (intOf u).toNat)
      case atStart => exact ⟨j + 1, Nat.le_refl _, rfl, by rw [Nat.sub_self]; exact H0.out, Keep3.refl _ _⟩
      case round =>
        obtain ⟨r, hr, rfl, hJs, hbe⟩ := hrel
        have g1 : wr.cell? ⟨B, 0, none⟩ = some (.int .u64 n) := (hbe.cell 0 (by omega)).trans h1
        have g2 : wr.cell? ⟨B + 1, 0, none⟩ = some (.int .u64 b) := (hbe.cell 1 (by omega)).trans h2
        cases r with
        | zero =>
          have hu : unitOf b 0 = 0 := rfl
          rw [hu]
          rw [Nat.sub_zero, List.take_of_length_le (by rw [Mt.digs_length]; exact Nat.le_refl _)] at hJs
          have HJ := Lib.hid hJs; clear hJs
          gi_wp2
          go_end0
          exact ⟨⟨_, rfl⟩, .inl ⟨_, rfl, HJ.out⟩⟩
        | succ r =>
          have hup : 1 ≤ unitOf b (r + 1) := Nat.pow_pos (by omega)
          have hul : unitOf b (r + 1) < 18446744073709551616 := Nat.lt_of_le_of_lt (Nat.pow_le_pow_right (by omega) (by omega)) hcu
          have hsn := Mt.digs_take_succ b n (j + 1) r hr
          have hpl : ((Mt.digs b n (j + 1)).take (j + 1 - (r + 1))).length < j + 1 := by rw [List.length_take]; omega
          obtain ⟨fn, tmps, assign, body, hy, hR⟩ := hY _ (Mt.figO (n / b ^ r % b)) wr.drew (hJd _ _ hJs) hpl
          rw [← hsn] at hR
          have hR2 : RoundIn Fence.wide (m - 1) Try.prog l fn tmps assign body wr.drew fun e W' => ∃ t : Bool, e = .returned (.bool t) ∧ Hid ((t = true → J ((Mt.digs b n (j + 1)).take (j + 1 - r)) W' ∧ Keep3 B wr.drew W') ∧ (t = false → Jx ((Mt.digs b n (j + 1)).take (j + 1 - r)) W')) := by
            refine hR.mono ?_
            rintro e W' (⟨rfl, h1, h2⟩ | ⟨rfl, h1⟩)
            · exact ⟨true, rfl, ⟨fun _ => ⟨h1, h2⟩, (fun h => by cases h)⟩⟩
            · exact ⟨false, rfl, ⟨(fun h => by cases h), fun _ => h1⟩⟩
          have HR := Lib.hid hR2; clear hR hR2; clear H0
          have HJ := Lib.hid hJs; clear hJs hsn
          obtain ⟨u, hu⟩ : ∃ u, unitOf b (r + 1) = u := ⟨_, rfl⟩
          rw [hu] at hup hul ⊢
          obtain ⟨q, hq⟩ : ∃ q, n / u = q := ⟨_, rfl⟩
          obtain ⟨d, hd⟩ : ∃ d, q % b = d := ⟨_, rfl⟩
          have hdb : d < b := by rw [← hd]; exact Nat.mod_lt _ (by omega)
          have hd16 : d < 16 := by omega
          have e1 : IntKind.u64.wrap ((n : Int) / (u : Int)) = (q : Int) := by rw [← hq]; exact u64_div n u hn
          have e2 : IntKind.u64.wrap ((q : Int) % (b : Int)) = (d : Int) := by rw [← hd, ← Int.natCast_emod]; exact u64_id _ (by omega)
          have e3 : (q : Int) % (b : Int) = (d : Int) := by rw [← hd, ← Int.natCast_emod]
          have hub : ((u : Int) == 0) = false := by rw [beq_eq_false_iff_ne]; omega
          have hbb : ((b : Int) == 0) = false := by rw [beq_eq_false_iff_ne]; omega
          have ed : n / b ^ r % b = d := by rw [← hd, ← hq, ← hu]; rfl
          rw [ed] at hy
          have hf : ∀ h, (({ data := #[48, 49, 50, 51, 52, 53, 54, 55, 56, 57, 97, 98, 99, 100, 101, 102] } : ByteArray)[d]'h).toNat = (Mt.figO d).1 := fun h => fig_all ⟨d, hd16⟩
          have hun : u / b < u := Nat.div_lt_self (by omega) (by omega)
          have hub' : u / b = unitOf b r := by
            rw [← hu]
            cases r with
            | zero => simp [unitOf]; omega
            | succ r =>
              show b ^ (r + 1) / b = b ^ r
              rw [Nat.pow_succ, Nat.mul_div_cancel _ (by omega)]
          obtain ⟨u2, hu2⟩ : ∃ u2, unitOf b r = u2 := ⟨_, rfl⟩
          rw [hu2] at hub'
          have e4 : IntKind.u64.wrap ((u : Int) / (b : Int)) = (u2 : Int) := by rw [u64_div u b hul, hub']
          rw [hub'] at hun
          have Hu2 := Lib.hid hu2
          clear hu hq hd ed hub' hu2
          gi_wp2
          clear hY hJd h1 h2 h3 hdb hup hul hn hpl
          gi_region_with_o ((with_reducible refine RoundIn.mono HR.out ?_); rintro e W3 ⟨t, rfl, h3⟩)
          all_goals
            clear hf
            cases t with
            | true =>
              obtain ⟨hJ3, hk3⟩ := h3.1 rfl
              have g3 := (hk3.cell 1 (by omega)).trans (show wr.drew.cell? ⟨B + 1, 0, none⟩ = _ from g2)
              have HJ3 := Lib.hid hJ3; clear hJ3
              gi_wp2
              go_roundw
              case rel => exact ⟨r, by omega, by rw [Hu2.out], HJ3.out, (hbe.drew).trans hk3⟩
              case measure => simp [intOf]; omega
            | false =>
              have hJx3 := h3.2 rfl
              have HJ3 := Lib.hid hJx3; clear hJx3
              gi_wp2
              refine bodyPost_ret (results_none rfl _ _ _) rfl ?_
              exact ⟨⟨_, rfl⟩, .inr ⟨_, List.take_prefix _ _, HJ3.out⟩⟩

set_option maxHeartbeats 1000000 in
/-- 'digits': its three arguments are boxed; the function value captures the boxes. -/
theorem digits_any (m n b c : Nat) (w : World) :
    CallsIn Fence.wide m Try.prog 29 #[.int .u64 n, .int .u64 b, .int .i64 c] w fun e w' =>
      e = .returned (.func (.func 31) #[] #[.pointer (some ⟨w.heap.size + 1 + 1, 0, none⟩), .pointer (some ⟨w.heap.size + 1, 0, none⟩), .pointer (some ⟨w.heap.size, 0, none⟩)]) ∧
      w' = ((w.alloc (.cells #[.int .u64 n] 22)).alloc (.cells #[.int .u64 b] 22)).alloc (.cells #[.int .i64 c] 3) := by
  refine callsIn_of_wp Try.func29 rfl trivial ?_ rfl
  simp only [Try.ntmps29, List.size_toArray, List.length_cons, List.length_nil, Nat.reduceAdd, Nat.reduceSub, Array.replicate_succ, Array.replicate_zero, List.push_toArray, List.append_toArray, List.nil_append, List.cons_append]
  gi_wp2
  go_ret
  exact ⟨rfl, rfl⟩

/-- What 'digits' answers hands out the figures, all of them, in their order; or a part of them, where a round has said 'no more'. -/
theorem digits_stops (m : Nat) (hm : 1 ≤ m) (B n b c : Nat) (hb : 2 ≤ b) (hb' : b ≤ 16) (hn : n < 18446744073709551616) (hc1 : 1 ≤ c) (hcu : b ^ (c - 1) < 18446744073709551616) (hc2 : c ≤ 64) (w : World) (hB : B + 2 < w.heap.size)
    (h1 : w.cell? ⟨B, 0, none⟩ = some (.int .u64 n)) (h2 : w.cell? ⟨B + 1, 0, none⟩ = some (.int .u64 b)) (h3 : w.cell? ⟨B + 2, 0, none⟩ = some (.int .i64 c)) :
    SeqStopsK Fence.wide m Try.prog 31 #[.pointer (some ⟨B + 2, 0, none⟩), .pointer (some ⟨B + 1, 0, none⟩), .pointer (some ⟨B, 0, none⟩)] (fun x : Mt.Oct => #[Value.int .u8 (x.1 : Nat)]) (Keep3 B) (fun ys => ys = Mt.digs b n c) (fun pre => pre <+: Mt.digs b n c) c w := fun l J Jx W hW hJ _ hY h0 =>
  digits1_in m hm l B n b c hb hb' hn hc1 hcu hc2 J Jx (fun s X h => hJ s X X.drew none h ⟨rfl, rfl, rfl, Nat.le_refl _, fun _ _ _ => rfl⟩ (fun r e => by cases e)) hY W
    ((hW.cell (p := ⟨B, 0, none⟩) (by show B < _; omega)).trans h1) ((hW.cell (p := ⟨B + 1, 0, none⟩) (by show B + 1 < _; omega)).trans h2) ((hW.cell (p := ⟨B + 2, 0, none⟩) (by show B + 2 < _; omega)).trans h3) h0

end Go.Proofs.Ytfaokmmkgodfiaa
