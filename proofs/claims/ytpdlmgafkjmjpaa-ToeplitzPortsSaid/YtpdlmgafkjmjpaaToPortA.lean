/- Ports handed out by a function; which of them comes to a shard. -/
import Derived.RangeFuncNested
import Derived.RangeFuncBound
import Derived.RangeFuncCalls
import Derived.RangeFuncLeaves
import Derived.RangeFuncBox
import Derived.Shelf.Abstract
import Derived.Shelf.RegionOpen
import Derived.WalkKit
import Derived.OwnWalkIn
import Derived.TacticsInMore
import Derived.LoopNIn
import Derived.LoopIn
import Derived.Maps.AppendAt
import Derived.Lib.Hide
import Derived.Sort.CutIn
import Derived.Test.YtpdlmgafkjmjpaaToCalls
import Derived.Test.YtpdlmgafkjmjpaaToPut
namespace Go.Proofs.Ytpdlmgafkjmjpaa
open Go.RowKit Go.Shelf

attribute [local go_sem] Oper.semAt_some

/-- A port. -/
abbrev Prt := { x : Nat // x < 65536 }
/-- Port number j, as it is handed out. -/
def prtO (frm j : Nat) : Prt := ⟨tport frm j % 65536, Nat.mod_lt _ (by omega)⟩
def prL (frm : Nat) : List Prt := (List.range 32768).map (prtO frm)
theorem prL_length (frm : Nat) : (prL frm).length = 32768 := by simp [prL]
set_option maxRecDepth 100000 in
theorem prL_take (frm j : Nat) (h : j < 32768) : (prL frm).take (j + 1) = (prL frm).take j ++ [prtO frm j] := by
  rw [List.take_succ_eq_append_getElem (by rw [prL_length]; exact h)]
  congr 2
  simp [prL]
theorem tport_lt (frm j : Nat) : 32768 ≤ tport frm j ∧ tport frm j < 65536 := by unfold tport; omega
theorem prtO_val (frm j : Nat) : (prtO frm j).1 = tport frm j := Nat.mod_eq_of_lt (tport_lt frm j).2

/-- Do the answers at that port come to that shard? -/
def hitp (ks : List Nat) (ts : List Int) (loc rem rp : Nat) (shard : Int) (x : Nat) : Bool := ts.getD (th ks (tup rem loc rp x) 96 % 128) 0 == shard

/-- The box that the iterator reads lies as it lay, and so does all that lay before. -/
def KeepP (n₀ B : Nat) (A C : World) : Prop := C.heap[B]? = A.heap[B]? ∧ Below n₀ A C
theorem KeepP.refl (n₀ B : Nat) (A : World) : KeepP n₀ B A A := ⟨rfl, Below.refl _ _⟩
theorem KeepP.trans {n₀ B : Nat} {A C D : World} (h : KeepP n₀ B A C) (k : KeepP n₀ B C D) : KeepP n₀ B A D := ⟨k.1.trans h.1, h.2.trans k.2⟩
theorem KeepP.cell {n₀ B : Nat} {A C : World} (h : KeepP n₀ B A C) : C.cell? ⟨B, 0, none⟩ = A.cell? ⟨B, 0, none⟩ := World.cell?_of_block h.1
theorem KeepP.put {n₀ B : Nat} {w : World} (hB : B < w.heap.size) (hn : n₀ ≤ w.heap.size) (W : World) (l : Nat) (o o' : Obj) (hl : w.heap.size ≤ l) (ho : W.heap[l]? = some o) (h1 : o.isCells = false) (h2 : o.isWalk = false) : KeepP n₀ B W (W.putObj l o') :=
  ⟨World.putObj_heap_other (by omega), belowK_b hn W l o o' hl ho h1 h2⟩

set_option maxRecDepth 100000 in
set_option maxHeartbeats 1000000 in
/-- The iterator hands out the ports, in their order. -/
theorem ports1_in (m : Nat) (hm : 1 ≤ m) (l n₀ B frm : Nat) (hf : 32768 ≤ frm) (hf2 : frm < 65536) (J Jx : List Prt → World → Prop)
    (hY : ∀ pre x W, J pre W → pre.length < 32768 → YieldAt Fence.wide (m - 1) Try.prog l #[.int .u16 (x.1 : Nat)] W fun e W' =>
      (e = .returned (.bool true) ∧ J (pre ++ [x]) W' ∧ KeepP n₀ B W W') ∨ (e = .returned (.bool false) ∧ Jx (pre ++ [x]) W'))
    (W : World) (h1 : W.cell? ⟨B, 0, none⟩ = some (.int .u16 (frm : Nat))) (h0 : J [] W) :
    CallsIn Fence.wide m Try.prog 98 #[.func (.yield l) #[] #[], .pointer (some ⟨B, 0, none⟩)] W fun e W' => (∃ v, e = .returned v) ∧
      ((∃ ys, ys = prL frm ∧ J ys W') ∨ (∃ pre, pre <+: prL frm ∧ Jx pre W')) := by
  refine callsIn_of_wp Try.func98 rfl trivial ?_ rfl
  simp only [Try.ntmps98, List.size_toArray, List.length_cons, List.length_nil, Nat.reduceAdd, Nat.reduceSub, Array.replicate_succ, Array.replicate_zero, List.push_toArray, List.append_toArray, List.nil_append, List.cons_append]
  have H0 := Lib.hid h0; clear h0
  gi_wp2
  gi_loopw [3, 4] (fun _ c wr => ∃ j : Nat, j ≤ 32768 ∧ c = .int .i64 j ∧ J ((prL frm).take j) wr ∧ KeepP n₀ B W wr) (fun _ c _ => 32768 - (intOf c).toNat)
  case atStart => exact ⟨0, by omega, rfl, H0.out, KeepP.refl _ _ _⟩
  case round =>
    obtain ⟨j, hj, rfl, hJs, hk⟩ := hrel
    have g1 : wr.cell? ⟨B, 0, none⟩ = some (.int .u16 (frm : Nat)) := hk.cell.trans h1
    by_cases hlt : j < 32768
    · have htk := prL_take frm j hlt
      have hpl : ((prL frm).take j).length < 32768 := by rw [List.length_take]; omega
      obtain ⟨fn, tmps, assign, body, hy, hR⟩ := hY _ (prtO frm j) wr hJs hpl
      rw [← htk] at hR
      rw [prtO_val] at hy
      obtain ⟨v, hv⟩ : ∃ v, tport frm j = v := ⟨_, rfl⟩
      have hvl := tport_lt frm j
      rw [hv] at hy hvl
      obtain ⟨f0, hf0⟩ : ∃ f0, frm - 32768 = f0 := ⟨_, rfl⟩
      obtain ⟨g0, hg0⟩ : ∃ g0, f0 + j = g0 := ⟨_, rfl⟩
      obtain ⟨v0, hv0⟩ : ∃ v0, g0 % 32768 = v0 := ⟨_, rfl⟩
      have hvv : 32768 + v0 = v := by rw [← hv, ← hv0, ← hg0, ← hf0]; rfl
      have e1 : (frm : Int) - 32768 = (f0 : Int) := by omega
      have e2 : (f0 : Int) + (j : Int) = (g0 : Int) := by omega
      have e5 : (g0 : Int) % 32768 = (v0 : Int) := by omega
      have e6 : (g0 : Int).tmod 32768 = (v0 : Int) := by rw [Int.tmod_eq_emod_of_nonneg (by omega)]; exact e5
      have e3 : (32768 : Int) + (v0 : Int) = (v : Int) := by omega
      have b1 : g0 < 65536 := by omega
      have b2 : v < 65536 := hvl.2
      have e4 : IntKind.u16.wrap (v : Int) = (v : Int) := by rw [IntKind.wrap_u16]; omega
      have HR := Lib.hid hR; clear hR
      have HJ := Lib.hid hJs; clear hJs htk hpl
      have j1 : (j : Int) < 32768 := by omega
      have HL := Lib.hid hlt
      clear hY H0 hv hvl hf hf2 hf0 hg0 hv0 hvv hlt hj
      gi_wp2
      refine HR.out.mono ?_
      rintro e W3 (⟨rfl, hJ3, hk3⟩ | ⟨rfl, hJx3⟩)
      · have HJ3 := Lib.hid hJ3; clear hJ3
        gi_wp2
        go_roundw
        case rel => exact ⟨j + 1, HL.out, by go_num, HJ3.out, hk.trans hk3⟩
        case measure => have := HL.out; simp [intOf]; omega
      · have HJ3 := Lib.hid hJx3; clear hJx3
        gi_wp2
        refine bodyPost_ret (results_none rfl _ _ _) rfl ?_
        exact ⟨⟨_, rfl⟩, .inr ⟨_, List.take_prefix _ _, HJ3.out⟩⟩
    · obtain rfl : j = 32768 := by omega
      rw [List.take_of_length_le (by rw [prL_length]; exact Nat.le_refl _)] at hJs
      have HJ := Lib.hid hJs; clear hJs
      gi_wp2
      go_end0
      exact ⟨⟨_, rfl⟩, .inl ⟨_, rfl, HJ.out⟩⟩

set_option maxHeartbeats 1000000 in
theorem ports_any (m frm : Nat) (w : World) :
    CallsIn Fence.wide m Try.prog 84 #[.int .u16 frm] w fun e w' =>
      e = .returned (.func (.func 98) #[] #[.pointer (some ⟨w.heap.size, 0, none⟩)]) ∧ w' = w.alloc (.cells #[.int .u16 frm] 24) := by
  refine callsIn_of_wp Try.func84 rfl trivial ?_ rfl
  simp only [Try.ntmps84, List.size_toArray, List.length_cons, List.length_nil, Nat.reduceAdd, Nat.reduceSub, Array.replicate_succ, Array.replicate_zero, List.push_toArray, List.append_toArray, List.nil_append, List.cons_append]
  gi_wp2
  go_ret
  exact ⟨rfl, rfl⟩

theorem ports_stops (m : Nat) (hm : 1 ≤ m) (n₀ B frm : Nat) (hf : 32768 ≤ frm) (hf2 : frm < 65536) (w : World) (_ : n₀ ≤ w.heap.size) (hB : B < w.heap.size) (h1 : w.cell? ⟨B, 0, none⟩ = some (.int .u16 (frm : Nat))) :
    SeqStopsK Fence.wide m Try.prog 98 #[.pointer (some ⟨B, 0, none⟩)] (fun x : Prt => #[Value.int .u16 (x.1 : Nat)]) (KeepP n₀ B) (fun ys => ys = prL frm) (fun pre => pre <+: prL frm) 32768 w := fun l J Jx W hW _ _ hY h0 =>
  ports1_in m hm l n₀ B frm hf hf2 J Jx hY W ((hW.cell (p := ⟨B, 0, none⟩) hB).trans h1) h0

/-- The last of the ports that came. -/
def lastP (pre : List Prt) : Nat := (pre.getLast?.map (·.1)).getD 0
theorem lastP_snoc (pre : List Prt) (x : Prt) : lastP (pre ++ [x]) = x.1 := by simp [lastP]

/-- Which of the ports comes to the shard: the first, if any. -/
def portF (h : Nat → Bool) (frm : Nat) (n : Nat) : Option Nat := firstAt (fun i => h (tport frm i)) n
def portV (o : Option Nat) (frm : Nat) : Nat := match o with
  | some k => tport frm k
  | none => 0
def portE (o : Option Nat) : Int := match o with
  | some _ => 0
  | none => 71

theorem pre_at {α : Type} (f : Nat → α) (n : Nat) (p0 : List α) (x : α) (h : p0 ++ [x] <+: (List.range n).map f) : p0.length < n ∧ x = f p0.length ∧ ∀ j, j < p0.length → p0[j]? = some (f j) := by
  obtain ⟨r, hr⟩ := h
  have at_ : ∀ j : Nat, (p0 ++ [x] ++ r)[j]? = ((List.range n).map f)[j]? := fun j => by rw [hr]
  have hlen : p0.length < n := by
    have := congrArg List.length hr
    simp at this
    omega
  have hx := at_ p0.length
  rw [List.append_assoc, List.getElem?_append_right (Nat.le_refl _), Nat.sub_self, List.getElem?_map, List.getElem?_range hlen] at hx
  refine ⟨hlen, by simpa using hx, fun j hj => ?_⟩
  have hy := at_ j
  rw [List.append_assoc, List.getElem?_append_left hj, List.getElem?_map, List.getElem?_range (by omega)] at hy
  simpa using hy

theorem port_some (h : Nat → Bool) (frm n : Nat) (p0 : List Prt) (x : Prt) (hp : p0 ++ [x] <+: (List.range n).map (prtO frm)) (hno : ∀ y ∈ p0, h y.1 = false) (hit : h x.1 = true) : portF h frm n = some p0.length ∧ tport frm p0.length = x.1 := by
  obtain ⟨h1, h2, h3⟩ := pre_at _ _ _ _ hp
  have hx : tport frm p0.length = x.1 := by rw [h2, prtO_val]
  refine ⟨firstAt_some _ n _ (fun j hj => ?_) (by show h _ = true; rw [hx]; exact hit) h1, hx⟩
  have := hno _ (List.mem_of_getElem? (h3 j hj))
  rwa [prtO_val] at this

theorem port_none (h : Nat → Bool) (frm n : Nat) (hno : ∀ y ∈ (List.range n).map (prtO frm), h y.1 = false) : portF h frm n = none := by
  refine firstAt_none _ n (fun j hj => ?_)
  have := hno (prtO frm j) (List.mem_map.2 ⟨j, List.mem_range.2 hj, rfl⟩)
  rwa [prtO_val] at this

/-- Between two rounds: no port came to the shard; all that lay ahead lies as it lay. -/
def PortI (W1 : World) (h : Nat → Bool) (pre : List Prt) (W : World) : Prop := (∀ y ∈ pre, h y.1 = false) ∧ Below W1.heap.size W1 W
theorem PortI.own (W1 : World) (h : Nat → Bool) : OwnFrom W1.heap.size (fun pre W => PortI W1 h pre W) :=
  OwnFrom.and (fun _ _ _ _ h _ _ => h) (ownFrom_below (Nat.le_refl _) (Nat.le_refl _))

/-- A round has left: the last port came to the shard, and stands in the results' boxes. -/
def PortX (w : World) (B5 B6 : Nat) (h : Nat → Bool) (c : Code) (pre : List Prt) (W : World) : Prop :=
  (c = .ret ∧ ∃ p0 x, pre = p0 ++ [x] ∧ (∀ y ∈ p0, h y.1 = false) ∧ h x.1 = true) ∧ (Boxed W B5 24 (.int .u16 (lastP pre : Nat)) ∧ (Boxed W B6 28 (.int .i64 0) ∧ Below w.heap.size w W))
theorem PortX.own (w : World) (B5 B6 H : Nat) (h : Nat → Bool) (c : Code) (hH : w.heap.size ≤ H) : OwnFrom H (fun pre W => PortX w B5 B6 h c pre W) :=
  OwnFrom.and (fun _ _ _ _ h _ _ => h) (OwnFrom.and (Own.from (boxed_own _ _ _) _) (OwnFrom.and (Own.from (boxed_own _ _ _) _) (ownFrom_below (Nat.le_refl _) hH)))

/-- The words' ten cells. -/
def Ten (W : World) (n : Nat) (ks : List Nat) : Prop :=
      (W.cell? ⟨n, 0, none⟩ = some (.int .u32 (tw ks 0 32 : Nat))) ∧
      (W.cell? ⟨n, 1, none⟩ = some (.int .u32 (tw ks 32 32 : Nat))) ∧
      (W.cell? ⟨n, 2, none⟩ = some (.int .u32 (tw ks 64 32 : Nat))) ∧
      (W.cell? ⟨n, 3, none⟩ = some (.int .u32 (tw ks 96 32 : Nat))) ∧
      (W.cell? ⟨n, 4, none⟩ = some (.int .u32 (tw ks 128 32 : Nat))) ∧
      (W.cell? ⟨n, 5, none⟩ = some (.int .u32 (tw ks 160 32 : Nat))) ∧
      (W.cell? ⟨n, 6, none⟩ = some (.int .u32 (tw ks 192 32 : Nat))) ∧
      (W.cell? ⟨n, 7, none⟩ = some (.int .u32 (tw ks 224 32 : Nat))) ∧
      (W.cell? ⟨n, 8, none⟩ = some (.int .u32 (tw ks 256 32 : Nat))) ∧
      (W.cell? ⟨n, 9, none⟩ = some (.int .u32 (tw ks 288 32 : Nat)))

theorem ten_of {W : World} {n : Nat} {ks : List Nat} {t : TypeId} (h : W.heap[n]? = some (.cells (toW ks) t (0, 0))) : Ten W n ks :=
  ⟨(blk_cell h 0).trans rfl, (blk_cell h 1).trans rfl, (blk_cell h 2).trans rfl, (blk_cell h 3).trans rfl, (blk_cell h 4).trans rfl, (blk_cell h 5).trans rfl, (blk_cell h 6).trans rfl, (blk_cell h 7).trans rfl, (blk_cell h 8).trans rfl, (blk_cell h 9).trans rfl⟩

end Go.Proofs.Ytpdlmgafkjmjpaa
