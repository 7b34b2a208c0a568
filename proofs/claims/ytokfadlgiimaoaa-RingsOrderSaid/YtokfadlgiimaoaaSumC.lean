/- What ipwire.Check and fragmentOf tell. -/
import Derived.Test.YtokfadlgiimaoaaIpMath
import Derived.RangeFuncNested
import Derived.RangeFuncBound
import Derived.RangeFuncCalls
import Derived.RangeFuncLeaves
import Derived.RangeFuncBox
import Derived.Shelf.Abstract
import Derived.Shelf.RegionOpen
import Derived.WalkKit
import Derived.OwnWalkIn
import Derived.TacticsInMore
import Derived.LoopNIn
import Derived.LoopIn
import Derived.Maps.AppendAt
import Derived.Lib.Hide
import Derived.Test.YtokfadlgiimaoaaGBts
import Derived.Test.YtokfadlgiimaoaaSumMath
namespace Go.Proofs.Ytokfadlgiimaoaa
open Go.RowKit

/-- A packet as a value. -/
abbrev ipV (tos id : Nat) (df mf : Bool) (off : Int) (ttl proto src dst : Nat) (oa : Option Addr) (on oc : Nat) (da : Option Addr) (dn dc : Nat) : Array Value :=
  #[.int .u8 tos, .int .u16 id, .bool df, .bool mf, .int .i64 off, .int .u8 ttl, .int .u8 proto, .int .u32 src, .int .u32 dst, .slice oa on oc, .slice da dn dc]

/-- May it be a packet? -/
abbrev IpMay (off : Int) (on dn : Nat) : Prop := (0 ≤ off ∧ off ≤ 65528 ∧ off % 8 = 0) ∧ (on ≤ 40 ∧ on % 4 = 0) ∧ dn + on ≤ 65515

/-- What is told of none. -/
def CheckBad (w : World) (e : Ending) (w' : World) : Prop := ∃ n : Int, n ≠ 0 ∧ e = .returned (.int .i64 n) ∧ Below w.heap.size w w'

end Go.Proofs.Ytokfadlgiimaoaa

namespace Go.Proofs.Ytokfadlgiimaoaa
open Go.RowKit Go.Shelf

attribute [local go_sem] Oper.semAt_some

set_option maxHeartbeats 400000 in
/-- 'total' adds words from the left. -/
theorem total_any (g : Nat) (xs : List Nat) (n cap : Nat) (w : World) (hn : xs.length = n) (hn' : n ≤ 9223372036854775807) (hx : ∀ x ∈ xs, x ≤ 65535) (hc : ∀ i, i < n → w.cell? ⟨g, i, none⟩ = some (.int .u16 (xs.getD i 0 : Nat))) :
    Calls Try.prog 67 #[.slice (some ⟨g, 0, none⟩) n cap] w fun e w' => e = .returned (.int .u16 (Mt.tot xs : Nat)) ∧ w = w' := by
  have Hc := Lib.hid hc; clear hc
  have Hx := Lib.hid hx; clear hx
  have Hn := Lib.hid hn; clear hn
  go_enter Try.func67, Try.ntmps67
  go_wp2
  go_loop [3, 8, 5] (fun s i _ => ∃ k : Nat, k ≤ n ∧ i = .int .i64 k ∧ s = .int .u32 (Mt.tot (xs.take k) : Nat)) (fun _ i _ => n - (intOf i).toNat)
  case atStart => exact ⟨0, by omega, rfl, rfl⟩
  case round =>
    obtain ⟨k, hk, rfl, rfl⟩ := hrel
    have hm := Mt.tot_le (xs.take k) (fun y hy => Hx.out y (List.mem_of_mem_take hy))
    obtain ⟨m, hme⟩ : ∃ m, Mt.tot (xs.take k) = m := ⟨_, rfl⟩
    rw [hme] at hm ⊢
    by_cases hkl : k < n
    · have hkx : k < xs.length := by have := Hn.out; omega
      have hsn := Mt.tot_snoc (xs.take k) (xs.getD k 0)
      rw [← Mt.take_snoc xs k hkx, hme] at hsn
      have hx1 := Hx.out _ (Mt.getD_mem xs k hkx)
      have hcell := Hc.out k hkl
      generalize xs.getD k 0 = x at hcell hx1 hsn
      have Hsn := Lib.hid hsn; clear hsn hme hkx
      by_cases hbig : 65535 < m + x
      · have e : Mt.addw m x = m + x - 65535 := by unfold Mt.addw; rw [if_pos hbig]
        have He := Lib.hid e; clear e
        go_wp2
        go_round
        case rel => exact ⟨k + 1, by omega, by go_num, by rw [Hsn.out, He.out]; go_num⟩
        case measure => simp [intOf]; omega
      · have e : Mt.addw m x = m + x := by unfold Mt.addw; rw [if_neg hbig]
        have He := Lib.hid e; clear e
        go_wp2
        go_round
        case rel => exact ⟨k + 1, by omega, by go_num, by rw [Hsn.out, He.out]; go_num⟩
        case measure => simp [intOf]; omega
    · obtain rfl : k = n := by omega
      have hall : Mt.tot xs = m := by rw [← hme, List.take_of_length_le (by have := Hn.out; omega)]
      have Hall := Lib.hid hall; clear hall hme
      go_wp2
      go_ret
      exact ⟨by rw [Hall.out]; rfl, rfl⟩

/-- The cells of a list that was built on the spot. -/
theorem cells_new (w : World) (vs : List Value) (t : TypeId) (xs : List Nat) (h : vs = xs.map (fun x => Value.int .u16 (x : Nat))) : ∀ i, i < xs.length → (w.alloc (.cells vs.toArray t)).cell? ⟨w.heap.size, i, none⟩ = some (.int .u16 (xs.getD i 0 : Nat)) := by
  intro i hi
  subst h
  rw [World.cell?_alloc_new]
  simp [List.getD_eq_getElem?_getD, List.getElem?_eq_getElem hi]

theorem xor_full (c : Nat) (h : c ≤ 65535) : bits .xor .u16 IntKind.u16.max (c : Int) = ((65535 - c : Nat) : Int) := by
  have e : IntKind.u16.max = ((65535 : Nat) : Int) := rfl
  rw [e, u16_xor_nat 65535 c (by omega) (by omega)]
  have h1 := congrArg BitVec.toNat (BitVec.allOnes_xor (x := BitVec.ofNat 16 c))
  rw [BitVec.toNat_xor, BitVec.toNat_not, BitVec.toNat_allOnes, BitVec.toNat_ofNat, Nat.mod_eq_of_lt (by omega)] at h1
  have h2 : 65535 ^^^ c = 65535 - c := by simpa using h1
  rw [h2]

/-- The words that go into Pseudo. -/
abbrev psW (s d p : Nat) (n : Int) : List Nat := [s / 65536, s % 65536, d / 65536, d % 65536, p, (n % 65536).toNat]

/-- A word. -/
abbrev Wrd := { x : Nat // x < 65536 }

/-- A word, as it is handed out. -/
def wrdO (xs : List Nat) (j : Nat) : Wrd := ⟨Mt.wd xs j % 65536, Nat.mod_lt _ (by omega)⟩

/-- The words, as they are handed out. -/
def wlO (xs : List Nat) : List Wrd := (List.range (Mt.nw xs)).map (wrdO xs)

theorem wlO_length (xs : List Nat) : (wlO xs).length = Mt.nw xs := by simp [wlO]
theorem wlO_val (xs : List Nat) (h : ∀ x ∈ xs, x < 256) : (wlO xs).map (·.1) = Mt.wl xs := by
  unfold wlO Mt.wl
  rw [List.map_map]
  refine List.map_congr_left fun j _ => ?_
  exact Nat.mod_eq_of_lt (Mt.wd_lt xs h j)
theorem wlO_take (xs : List Nat) (j : Nat) (h : j < Mt.nw xs) : (wlO xs).take (j + 1) = (wlO xs).take j ++ [wrdO xs j] := by
  rw [List.take_succ_eq_append_getElem (by rw [wlO_length]; exact h)]
  congr 2
  simp [wlO]

/-- The box that the iterator reads lies as it lay, and so does all that lay before. -/
def KeepB (n₀ B : Nat) (A C : World) : Prop := C.heap[B]? = A.heap[B]? ∧ Below n₀ A C
theorem KeepB.refl (n₀ B : Nat) (A : World) : KeepB n₀ B A A := ⟨rfl, Below.refl _ _⟩
theorem KeepB.trans {n₀ B : Nat} {A C D : World} (h : KeepB n₀ B A C) (k : KeepB n₀ B C D) : KeepB n₀ B A D := ⟨k.1.trans h.1, h.2.trans k.2⟩
theorem KeepB.cell {n₀ B : Nat} {A C : World} (h : KeepB n₀ B A C) : C.cell? ⟨B, 0, none⟩ = A.cell? ⟨B, 0, none⟩ := World.cell?_of_block h.1
theorem KeepB.put {n₀ B : Nat} {w : World} (hB : B < w.heap.size) (hn : n₀ ≤ w.heap.size) (W : World) (l : Nat) (o o' : Obj) (hl : w.heap.size ≤ l) (ho : W.heap[l]? = some o) (h1 : o.isCells = false) (h2 : o.isWalk = false) : KeepB n₀ B W (W.putObj l o') :=
  ⟨World.putObj_heap_other (by omega), belowK_b hn W l o o' hl ho h1 h2⟩

theorem or_low16 (m x : Nat) (hm : m < 256) (hx : x < 256) : bits .or .u16 ((m : Int) * 256) (x : Int) = ((m * 256 + x : Nat) : Int) := by
  rw [show (m : Int) * 256 = ((m * 256 : Nat) : Int) by omega, u16_or_nat _ _ (by omega) (by omega)]
  have h := Nat.shiftLeft_add_eq_or_of_lt (i := 8) (b := x) (by omega) m
  rw [Nat.shiftLeft_eq] at h
  rw [← h]

set_option maxRecDepth 100000 in
set_option maxHeartbeats 1000000 in
/-- The iterator hands out the words, in their order. -/
theorem words1_in (m : Nat) (hm : 1 ≤ m) (l n₀ B : Nat) (a : Option Addr) (xs : List Nat) (cap : Nat) (hl : xs.length ≤ 140737488355328) (J Jx : List Wrd → World → Prop)
    (hY : ∀ pre x W, J pre W → pre.length < Mt.nw xs → YieldAt Fence.wide (m - 1) Try.prog l #[.int .u16 (x.1 : Nat)] W fun e W' =>
      (e = .returned (.bool true) ∧ J (pre ++ [x]) W' ∧ KeepB n₀ B W W') ∨ (e = .returned (.bool false) ∧ Jx (pre ++ [x]) W'))
    (W : World) (h1 : W.cell? ⟨B, 0, none⟩ = some (.slice a xs.length cap)) (hx : ∀ x ∈ xs, x < 256) (h2 : xs = [] ∨ ∃ b off, a = some ⟨b, off, none⟩ ∧ b < n₀ ∧ ∀ i, i < xs.length → W.cell? ⟨b, off + i, none⟩ = some (.int .u8 (xs.getD i 0 : Nat))) (h0 : J [] W) :
    CallsIn Fence.wide m Try.prog 69 #[.func (.yield l) #[] #[], .pointer (some ⟨B, 0, none⟩)] W fun e W' => (∃ v, e = .returned v) ∧
      ((∃ ys, ys = wlO xs ∧ J ys W') ∨ (∃ pre, pre <+: wlO xs ∧ Jx pre W')) := by
  refine callsIn_of_wp Try.func69 rfl trivial ?_ rfl
  simp only [Try.ntmps69, List.size_toArray, List.length_cons, List.length_nil, Nat.reduceAdd, Nat.reduceSub, Array.replicate_succ, Array.replicate_zero, List.push_toArray, List.append_toArray, List.nil_append, List.cons_append]
  have H0 := Lib.hid h0; clear h0
  have H2 := Lib.hid h2; clear h2
  have Hx := Lib.hid hx; clear hx
  gi_wp2
  gi_loopw [3] (fun i wr => ∃ j : Nat, j ≤ Mt.nw xs ∧ i = .int .i64 (2 * j : Nat) ∧ J ((wlO xs).take j) wr ∧ KeepB n₀ B W wr) (fun i _ => xs.length + 1 - (intOf i).toNat)
  case atStart => exact ⟨0, by omega, rfl, H0.out, KeepB.refl _ _ _⟩
  case round =>
    obtain ⟨j, hj, rfl, hJs, hk⟩ := hrel
    have g1 : wr.cell? ⟨B, 0, none⟩ = some (.slice a xs.length cap) := hk.cell.trans h1
    by_cases hlt : 2 * j < xs.length
    · obtain ⟨b, off, rfl, hb, hc⟩ : ∃ b off, a = some ⟨b, off, none⟩ ∧ b < n₀ ∧ ∀ i, i < xs.length → W.cell? ⟨b, off + i, none⟩ = some (.int .u8 (xs.getD i 0 : Nat)) := by
        rcases H2.out with h | h
        · subst h; simp at hlt
        · exact h
      have hc1 := (hk.2.cell (p := ⟨b, off + 2 * j, none⟩) hb).trans (hc _ hlt)
      have hx1 := Mt.getD_lt xs Hx.out (2 * j)
      have hjn : j < Mt.nw xs := by unfold Mt.nw; omega
      have htk := wlO_take xs j hjn
      have hpl : ((wlO xs).take j).length < Mt.nw xs := by rw [List.length_take]; omega
      obtain ⟨fn, tmps, assign, body, hy, hR⟩ := hY _ (wrdO xs j) wr hJs hpl
      rw [← htk] at hR
      have hv : (wrdO xs j).1 = xs.getD (2 * j) 0 * 256 + xs.getD (2 * j + 1) 0 := Nat.mod_eq_of_lt (Mt.wd_lt xs Hx.out j)
      rw [hv] at hy
      clear hv
      have HR := Lib.hid hR; clear hR
      have HJ := Lib.hid hJs; clear hJs htk
      clear hY H0
      by_cases h2 : 2 * j + 1 < xs.length
      · have hc2 := (hk.2.cell (p := ⟨b, off + (2 * j + 1), none⟩) hb).trans (hc _ h2)
        have hx2 := Mt.getD_lt xs Hx.out (2 * j + 1)
        generalize xs.getD (2 * j) 0 = h at hc1 hx1 hy
        generalize xs.getD (2 * j + 1) 0 = lo at hc2 hx2 hy
        have hor := or_low16 h lo hx1 hx2
        generalize h * 256 + lo = v at hy hor
        clear hc
        gi_wp2
        refine HR.out.mono ?_
        rintro e W3 (⟨rfl, hJ3, hk3⟩ | ⟨rfl, hJx3⟩)
        · have HJ3 := Lib.hid hJ3; clear hJ3
          gi_wp2
          go_roundw
          case rel => exact ⟨j + 1, by omega, by go_num, HJ3.out, hk.trans hk3⟩
          case measure => simp [intOf]; omega
        · have HJ3 := Lib.hid hJx3; clear hJx3
          gi_wp2
          refine bodyPost_ret (results_none rfl _ _ _) rfl ?_
          exact ⟨⟨_, rfl⟩, .inr ⟨_, List.take_prefix _ _, HJ3.out⟩⟩
      · have e0 : xs.getD (2 * j + 1) 0 = 0 := by rw [List.getD_eq_getElem?_getD, List.getElem?_eq_none (by omega)]; rfl
        rw [e0] at hy
        generalize xs.getD (2 * j) 0 = h at hc1 hx1 hy
        rw [show ((h * 256 + 0 : Nat) : Int) = (h : Int) * 256 by omega] at hy
        clear hc e0
        gi_wp2
        refine HR.out.mono ?_
        rintro e W3 (⟨rfl, hJ3, hk3⟩ | ⟨rfl, hJx3⟩)
        · have HJ3 := Lib.hid hJ3; clear hJ3
          gi_wp2
          go_roundw
          case rel => exact ⟨j + 1, by omega, by go_num, HJ3.out, hk.trans hk3⟩
          case measure => simp [intOf]; omega
        · have HJ3 := Lib.hid hJx3; clear hJx3
          gi_wp2
          refine bodyPost_ret (results_none rfl _ _ _) rfl ?_
          exact ⟨⟨_, rfl⟩, .inr ⟨_, List.take_prefix _ _, HJ3.out⟩⟩
    · obtain rfl : j = Mt.nw xs := by unfold Mt.nw at hj ⊢; omega
      rw [List.take_of_length_le (by rw [wlO_length]; exact Nat.le_refl _)] at hJs
      have HJ := Lib.hid hJs; clear hJs
      gi_wp2
      go_end0
      exact ⟨⟨_, rfl⟩, .inl ⟨_, rfl, HJ.out⟩⟩

set_option maxHeartbeats 1000000 in
/-- 'words': its argument is boxed; the function value captures the box. -/
theorem words_any (m : Nat) (a : Option Addr) (len cap : Nat) (w : World) :
    CallsIn Fence.wide m Try.prog 66 #[.slice a len cap] w fun e w' =>
      e = .returned (.func (.func 69) #[] #[.pointer (some ⟨w.heap.size, 0, none⟩)]) ∧ w' = w.alloc (.cells #[.slice a len cap] 22) := by
  refine callsIn_of_wp Try.func66 rfl trivial ?_ rfl
  simp only [Try.ntmps66, List.size_toArray, List.length_cons, List.length_nil, Nat.reduceAdd, Nat.reduceSub, Array.replicate_succ, Array.replicate_zero, List.push_toArray, List.append_toArray, List.nil_append, List.cons_append]
  gi_wp2
  go_ret
  exact ⟨rfl, rfl⟩

theorem words_stops (m : Nat) (hm : 1 ≤ m) (n₀ B : Nat) (a : Option Addr) (xs : List Nat) (cap : Nat) (hl : xs.length ≤ 140737488355328) (w : World) (hn : n₀ ≤ w.heap.size) (hB : B < w.heap.size)
    (h1 : w.cell? ⟨B, 0, none⟩ = some (.slice a xs.length cap)) (hx : ∀ x ∈ xs, x < 256) (h2 : xs = [] ∨ ∃ b off, a = some ⟨b, off, none⟩ ∧ b < n₀ ∧ ∀ i, i < xs.length → w.cell? ⟨b, off + i, none⟩ = some (.int .u8 (xs.getD i 0 : Nat))) :
    SeqStopsK Fence.wide m Try.prog 69 #[.pointer (some ⟨B, 0, none⟩)] (fun x : Wrd => #[Value.int .u16 (x.1 : Nat)]) (KeepB n₀ B) (fun ys => ys = wlO xs) (fun pre => pre <+: wlO xs) (Mt.nw xs) w := fun l J Jx W hW _ _ hY h0 =>
  words1_in m hm l n₀ B a xs cap hl J Jx hY W
    ((hW.cell (p := ⟨B, 0, none⟩) hB).trans h1) hx (h2.imp id fun ⟨b, off, ha, hb, hc⟩ => ⟨b, off, ha, hb, fun i hi => (hW.cell (p := ⟨b, off + i, none⟩) (Nat.lt_of_lt_of_le hb hn)).trans (hc i hi)⟩) h0
/-- Between two rounds: the box of 'sum' holds the words so far; the iterator's box lies as it lay. -/
def SumI (w : World) (O B : Nat) (a : Option Addr) (len cap : Nat) (pre : List Wrd) (W : World) : Prop :=
  (Boxed W O 69 (.int .u16 (Mt.tot (pre.map (·.1)) : Nat)) ∧ Boxed W B 22 (.slice a len cap)) ∧ Below w.heap.size w W

theorem SumI.own (w : World) (O B H : Nat) (a : Option Addr) (len cap : Nat) (hH : w.heap.size ≤ H) : OwnFrom H (fun pre W => SumI w O B a len cap pre W) :=
  OwnFrom.and (OwnFrom.and (Own.from (boxed_own _ _ _) _) (Own.from (boxed_own _ _ _) _)) (ownFrom_below (Nat.le_refl _) hH)

theorem tot_wrd (pre : List Wrd) : Mt.tot (pre.map (·.1)) ≤ 65535 := Mt.tot_le _ (fun x hx => by
  obtain ⟨y, _, rfl⟩ := List.mem_map.1 hx
  have := y.2
  omega)

set_option maxRecDepth 100000 in
set_option maxHeartbeats 1000000 in
theorem sum_any (a : Option Addr) (xs : List Nat) (cap : Nat) (w : World) (hx : Bts w a xs) (hl : xs.length ≤ 140737488355328) :
    Calls Try.prog 62 #[.slice a xs.length cap] w fun e W' => e = .returned (.int .u16 (Mt.sumO xs : Nat)) ∧ Below w.heap.size w W' := by
  have Hx := Lib.hid hx; clear hx
  refine (callsIn_wide (n := 5)).1 ?_
  refine callsIn_of_wp_marks Try.func62 rfl trivial ?_ rfl
  simp only [Try.ntmps62, List.size_toArray, List.length_cons, List.length_nil, Nat.reduceAdd, Nat.reduceSub, Array.replicate_succ, Array.replicate_zero, List.push_toArray, List.append_toArray, List.nil_append, List.cons_append]
  gi_wp2_with (refine ⟨trivial, ?_⟩; gi_at_call 66; refine (words_any _ _ _ _ _).mono ?_; rintro e w' ⟨rfl, rfl⟩)
  have hbo := (Boxed.new w 69 (.int .u16 0)).alloc (.cells #[.slice a xs.length cap] 22)
  have hbb := Boxed.new (w.alloc (.cells #[.int .u16 0] 69)) 22 (.slice a xs.length cap)
  rw [World.size_alloc] at hbb
  have hbw : Below w.heap.size w ((w.alloc (.cells #[.int .u16 0] 69)).alloc (.cells #[.slice a xs.length cap] 22)) := ((Below.refl _ _).alloc (Nat.le_refl _) _).alloc (by simp) _
  have hx3 : xs = [] ∨ ∃ b off, a = some ⟨b, off, none⟩ ∧ b < w.heap.size ∧ ∀ i, i < xs.length → ((w.alloc (.cells #[.int .u16 0] 69)).alloc (.cells #[.slice a xs.length cap] 22)).cell? ⟨b, off + i, none⟩ = some (.int .u8 (xs.getD i 0 : Nat)) :=
    Hx.out.2.imp id fun ⟨b, off, ha, hb, hc⟩ => ⟨b, off, ha, hb, fun i hi => (hbw.cell (p := ⟨b, off + i, none⟩) hb).trans (hc i hi)⟩
  refine wpIn_rangeFunc_ownG rfl (by omega) (gf := 69) (lb := #[.pointer (some ⟨w.heap.size + 1, 0, none⟩)]) rfl trivial (enters_of Try.func69 (by kernel_rfl) rfl)
    (words_stops 4 (by omega) w.heap.size (w.heap.size + 1) a xs cap hl _ (by simp; omega) (by simp) hbb.cell Hx.out.1 hx3) (fun h k => KeepB.trans h k) (KeepB.put (by simp) (by simp; omega)) (Below.refl _ _) (fun _ => rfl)
    (fun pre W => SumI w w.heap.size (w.heap.size + 1) a xs.length cap pre W)
    (fun _ _ _ => False)
    (SumI.own w w.heap.size (w.heap.size + 1) _ a xs.length cap (by simp; omega))
    (fun _ _ _ _ _ hs _ _ => hs)
    ⟨⟨hbo, hbb⟩, hbw⟩
    (fun x => { tmps := #[.slice a xs.length cap, undef, .int .u16 0, .pointer (some ⟨w.heap.size, 0, none⟩), .int .u16 (x.1 : Nat), .slice a xs.length cap, .func (.func 69) #[] #[.pointer (some ⟨w.heap.size + 1, 0, none⟩)], .int .u16 (x.1 : Nat), undef, undef, undef, undef, undef], defers := [] }) ?assign ?body ?done ?stop
  case assign =>
    intro l x W K hK
    gi_wp2
    exact hK
  case body =>
    rintro l pre x W ⟨⟨hO, hB⟩, hb⟩ hlt
    clear hbo hbb hbw hx3 hlt
    have hT := tot_wrd pre
    have hx1 := x.2
    have hsn : Mt.tot ((pre ++ [x]).map (·.1)) = Mt.addw (Mt.tot (pre.map (·.1))) x.1 := by rw [List.map_append]; exact Mt.tot_snoc _ _
    obtain ⟨T, hTe⟩ : ∃ T, Mt.tot (pre.map (·.1)) = T := ⟨_, rfl⟩
    rw [hTe] at hO hT hsn
    have ht := total_any W.heap.size [T, x.1] 2 2 (W.alloc (.cells #[.int .u16 T, .int .u16 (x.1 : Nat)] 69)) rfl (by omega) (by intro y hy; simp at hy; omega) (cells_new W [.int .u16 T, .int .u16 (x.1 : Nat)] 69 [T, x.1] rfl)
    rw [Mt.tot_two T x.1 hT, ← hsn] at ht
    obtain ⟨R, hRe⟩ : ∃ R, Mt.tot ((pre ++ [x]).map (·.1)) = R := ⟨_, rfl⟩
    rw [hRe] at ht
    have Ht := Lib.hid ht; clear ht
    have Hre := Lib.hid hRe; clear hRe hsn hTe
    have hc := hO.cell
    have hf := hO.frozen
    have hOl := hO.lt
    gi_wp2_with (refine ⟨trivial, ?_⟩; gi_at_call 67; refine (CallsIn.inRound l (callsIn_wide.2 Ht.out)).mono ?_; rintro e w' ⟨rfl, rfl⟩)
    have hO2 := (hO.set (.int .u16 R)).alloc (.cells #[.int .u16 T, .int .u16 (x.1 : Nat)] 69)
    have hB2 := (hB.other (B' := w.heap.size) (by omega) (.int .u16 R)).alloc (.cells #[.int .u16 T, .int .u16 (x.1 : Nat)] 69)
    have hbx : Below w.heap.size W ((W.setCell ⟨w.heap.size, 0, none⟩ (.int .u16 R)).alloc (.cells #[.int .u16 T, .int .u16 (x.1 : Nat)] 69)) := ((Below.refl _ _).setCell (p := ⟨w.heap.size, 0, none⟩) (Nat.le_refl _) _).alloc (by have := hb.size; simp; omega) _
    refine ⟨((KeepsOthers.setCell _ _ _).trans (KeepsOthers.alloc _ _)).from _, ⟨hB2.trans (Eq.symm hB), hbx⟩, ⟨⟨?_, hB2⟩, hb.trans hbx⟩⟩
    rw [Hre.out]; exact hO2
  case done =>
    rintro D ys W hD rfl ⟨⟨hO, hB⟩, hb⟩ hK
    clear hbo hbb hbw hx3
    have hc := hO.cell
    rw [wlO_val xs Hx.out.1] at hc
    clear hO hB
    gi_wp2
    refine ⟨by simp, .inl ⟨_, _, rfl, run_takeDeferred hK, ?_⟩⟩
    exact ⟨_, results_tmp rfl _ _ _, rfl, hb.trans (belowK_b (w := w) (Nat.le_refl _) W D _ _ (by simp at hD; omega) hK rfl rfl)⟩
  case stop =>
    rintro D c pre W _ _ h _
    exact h.elim
end Go.Proofs.Ytokfadlgiimaoaa

namespace Go.Proofs.Ytokfadlgiimaoaa
open Go.RowKit
set_option maxHeartbeats 400000 in
theorem right_any (a : Option Addr) (xs : List Nat) (cap : Nat) (w : World) (hx : Bts w a xs) (hl : xs.length ≤ 140737488355328) :
    Calls Try.prog 54 #[.slice a xs.length cap] w fun e W' => e = .returned (.bool (decide (Mt.sumO xs = 65535))) ∧ Below w.heap.size w W' := by
  have Hs := Lib.hid (sum_any a xs cap w hx hl)
  obtain ⟨t, ht⟩ : ∃ t, decide (Mt.sumO xs = 65535) = t := ⟨_, rfl⟩
  have ht2 : ((Mt.sumO xs : Int) == 65535) = t := by
    rw [← ht, Bool.eq_iff_iff, beq_iff_eq, decide_eq_true_iff]; omega
  rw [ht]
  clear ht hx
  generalize Mt.sumO xs = r at Hs ht2
  go_enter Try.func54, Try.ntmps54
  go_wp2_with fail
  refine Hs.out.mono ?_; rintro e w' ⟨rfl, hb⟩
  go_wp2
  go_ret
  exact ⟨rfl, hb⟩
end Go.Proofs.Ytokfadlgiimaoaa
