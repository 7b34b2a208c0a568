/- 'copy' into a list of one's own. -/
import Derived.Test.YtokfadlgiimaoaaGBts
import Derived.Laws.CopyOwn
import Derived.Test.YtokfadlgiimaoaaGPut
import Derived.Test.YtokfadlgiimaoaaGAppend
import Derived.WalkSpells
import Derived.WalkLawsBesides
import Derived.PlainAid
import Derived.WalkSmall
import Derived.LoopN
import Derived.Deep.AppendSrc
namespace Go.Proofs.Ytokfadlgiimaoaa
open Go.RowKit

theorem size5 : (Try.prog.info? 5).map (·.size) = some 1 := by kernel_rfl

theorem splice_map {α β : Type} (f : α → β) (L : List α) (off : Nat) (cs : List α) : (splice L off cs).map f = splice (L.map f) off (cs.map f) := by
  simp [splice, List.map_take, List.map_drop]

theorem splice_lt {xs ys : List Nat} {off : Nat} (hx : ∀ x ∈ xs, x < 256) (hy : ∀ y ∈ ys, y < 256) : ∀ z ∈ splice xs off ys, z < 256 := by
  intro z hz
  unfold splice at hz
  rcases List.mem_append.1 hz with h | h
  · exact hx z (List.mem_of_mem_take h)
  · rcases List.mem_append.1 h with h | h
    · exact hy z h
    · exact hx z (List.mem_of_mem_drop h)

theorem splice_take {α : Type} (L M : List α) (off : Nat) (cs : List α) (n : Nat) (hM : M.take n = L) (hL : L.length = n) (h : off + cs.length ≤ n) : (splice M off cs).take n = splice L off cs := by
  subst hM
  have hn : n ≤ M.length := by rw [List.length_take] at hL; omega
  have e1 : min off M.length = off := by omega
  have e2 : min n off = min off n := Nat.min_comm _ _
  have e3 : n - off - cs.length = n - (off + cs.length) := by omega
  unfold splice
  rw [List.take_append, List.take_append, List.take_take, List.length_take, e1, List.take_of_length_le (l := cs) (by omega), List.take_take, List.drop_take, e2, e3]

/-- A list of one's own, seen as its block. -/
theorem OwnSl.blk {B g cap : Nat} {xs : List Nat} {w : World} (h : OwnSl B (some ⟨g, 0, none⟩) xs cap w) : ∃ cur : List Value, w.heap[g]? = some (.cells cur.toArray 5 (0, 0)) ∧ cur.length = cap ∧ cur.take xs.length = xs.map (fun x => Value.int .u8 (x : Nat)) := by
  rcases h.row.2.2 with ⟨h0, _⟩ | ⟨g', cap', cur, e, _, h2, h3, h4, h5, h6⟩
  · cases h0
  · cases e
    exact ⟨cur.toList, by simpa using h2, by simpa using h5, by simpa using h6⟩

/-- A row of one's own turned by a copy. -/
theorem OwnSl.copied {B g off cap : Nat} {xs ys : List Nat} {w : World} {cur : List Value} (O : OwnSl B (some ⟨g, 0, none⟩) xs cap w) (hy : ∀ y ∈ ys, y < 256) (hg : w.heap[g]? = some (.cells cur.toArray 5 (0, 0))) (hcl : cur.length = cap) (hct : cur.take xs.length = xs.map (fun x => Value.int .u8 (x : Nat))) (hfit : off + ys.length ≤ xs.length) :
    OwnSl B (some ⟨g, 0, none⟩) (splice xs off ys) cap (w.setRow g (cur.toArray.toList.take off ++ ((ys.map fun y => Value.int .u8 (y : Nat)) ++ cur.toArray.toList.drop (off + (ys.map fun y => Value.int .u8 (y : Nat)).length))).toArray) ∧ w.grownBy (w.setRow g (cur.toArray.toList.take off ++ ((ys.map fun y => Value.int .u8 (y : Nat)) ++ cur.toArray.toList.drop (off + (ys.map fun y => Value.int .u8 (y : Nat)).length))).toArray) (some g) := by
  have hcap := O.capLe
  have hl : (splice xs off ys).length = xs.length := length_splice _ _ _ hfit
  refine ⟨⟨splice_lt O.1 hy, .inr ⟨g, rfl, O.row.1, ?_, .inr ⟨g, cap, (splice cur off (ys.map fun y => Value.int .u8 (y : Nat))).toArray, by rw [hl], O.row.1, ?_, by rw [hl]; exact hcap.1, hcap.2, ?_, ?_⟩⟩⟩, ⟨rfl, rfl, rfl, by simp [World.setRow], fun k _ hk => setRow_other w g k _ (fun e => hk (by rw [e]))⟩⟩
  · rw [List.length_map, Nat.mul_one]
  · have h := setRow_heap w g cur.toArray (cur.toArray.toList.take off ++ ((ys.map fun y => Value.int .u8 (y : Nat)) ++ cur.toArray.toList.drop (off + (ys.map fun y => Value.int .u8 (y : Nat)).length))).toArray 5 (0, 0) hg
    rw [h]; rfl
  · rw [List.size_toArray, length_splice _ _ _ (by rw [List.length_map]; omega), Nat.mul_one, hcl]
  · show ((splice cur off _)).take _ = _
    rw [Nat.mul_one, hl, splice_map]
    exact splice_take _ _ _ _ _ hct (by rw [List.length_map]) (by rw [List.length_map]; exact hfit)

/-- 'copy': as many octets as the source has go over; there is room for them. -/
theorem wp_copy_bts {w : World} {o : Oper} {act : Act} {K : Act → World → Prop} {Q : Exit → Act → World → Prop} (d s : Operand)
    (ho : o.op = .call { callee := .builtin .copy, args := #[d, s], argTypes := #[22, 22] }) (B g off dLen dCap cap : Nat) {b : Option Addr} {dp : Option Addr} {xs ys : List Nat} {sLen sCap : Nat}
    (hd : act.eval d = .slice dp dLen dCap) (hs : act.eval s = .slice b sLen sCap) (hsl : sLen = ys.length) (hle : ys.length ≤ dLen) (O : OwnSl B (some ⟨g, 0, none⟩) xs cap w) (Y : Bts w b ys) (hdp : 0 < ys.length → dp = some ⟨g, off, none⟩) (hfit : off + ys.length ≤ xs.length)
    (h : ∀ w', OwnSl B (some ⟨g, 0, none⟩) (splice xs off ys) cap w' → w.grownBy w' (some g) → K (act.put o.dst (goInt ys.length)) w') : Oper.wp Try.prog o act w K Q := by
  subst hsl
  obtain ⟨cur, hg, hcl, hct⟩ := O.blk
  by_cases h0 : ys.length = 0
  · obtain rfl : ys = [] := List.eq_nil_of_length_eq_zero h0
    have hrun := run_copy_none (P := Try.prog) w 22 22 o.type 5 dp b dLen dCap 0 sCap Try.underlying22 size5 (Nat.zero_min _)
    unfold Oper.wp
    simp [execOp, ho, resolve, invoke, builtin, hd, hs, hrun, Result.andThen]
    exact h w (by simpa [splice] using O) ⟨rfl, rfl, rfl, Nat.le_refl _, fun _ _ _ => rfl⟩
  · obtain ⟨b', off', e, _, _⟩ := Y.isSome (by omega)
    subst e
    obtain rfl := hdp (by omega)
    have hc := O.copied Y.1 hg hcl hct hfit
    have hrun := run_copy_row (P := Try.prog) w 22 22 o.type 5 g off dLen dCap _ ys.length sCap cur.toArray 5 (ys.map fun y => Value.int .u8 (y : Nat)) Try.underlying22 size5 hg (by rw [List.length_map]; exact (Nat.min_eq_left hle).symm) Y.src (by rw [List.length_map, List.size_toArray]; have := O.capLe; omega) (by simp [Value.oneCell'])
    have h2 := h _ hc.1 hc.2
    unfold Oper.wp
    simp only [execOp, ho, resolve, invoke, builtin] at hrun ⊢
    simp [hd, hs, hrun, Result.andThen] at h2 ⊢
    exact h2

theorem wpList_copy_bts {w : World} {ops : Array Oper} {rest : List Oper} {o : Oper} {act : Act} {Q : Exit → Act → World → Prop} (hgd : o.guard = none) (d s : Operand)
    (ho : o.op = .call { callee := .builtin .copy, args := #[d, s], argTypes := #[22, 22] }) (B g off dLen dCap cap : Nat) {b : Option Addr} {dp : Option Addr} {xs ys : List Nat} {sLen sCap : Nat}
    (hd : act.eval d = .slice dp dLen dCap) (hs : act.eval s = .slice b sLen sCap) (hsl : sLen = ys.length) (hle : ys.length ≤ dLen) (O : OwnSl B (some ⟨g, 0, none⟩) xs cap w) (Y : Bts w b ys) (hdp : 0 < ys.length → dp = some ⟨g, off, none⟩) (hfit : off + ys.length ≤ xs.length)
    (h : ∀ w', OwnSl B (some ⟨g, 0, none⟩) (splice xs off ys) cap w' → w.grownBy w' (some g) → wpList Try.prog ops Q rest (act.put o.dst (goInt ys.length)) w') : wpList Try.prog ops Q (o :: rest) act w :=
  wpList_plain hgd fun _ hK => wp_copy_bts d s ho B g off dLen dCap cap hd hs hsl hle O Y hdp hfit fun w' h1 h2 => hK _ _ (h w' h1 h2)

/-- The same at a step of a region that draws its order. -/
theorem step_copy_bts {w : World} {ops : Array Oper} {o : Oper} {act : Act} {K : Act → World → Prop} {Q : Exit → Act → World → Prop} {E : Prop} (hgd : o.guard = none) (d s : Operand)
    (ho : o.op = .call { callee := .builtin .copy, args := #[d, s], argTypes := #[22, 22] }) (B g off dLen dCap cap : Nat) {b : Option Addr} {dp : Option Addr} {xs ys : List Nat} {sLen sCap : Nat}
    (hd : act.eval d = .slice dp dLen dCap) (hs : act.eval s = .slice b sLen sCap) (hsl : sLen = ys.length) (hle : ys.length ≤ dLen) (O : OwnSl B (some ⟨g, 0, none⟩) xs cap w) (Y : Bts w b ys) (hdp : 0 < ys.length → dp = some ⟨g, off, none⟩) (hfit : off + ys.length ≤ xs.length)
    (h : ∀ w', OwnSl B (some ⟨g, 0, none⟩) (splice xs off ys) cap w' → w.grownBy w' (some g) → K (act.put o.dst (goInt ys.length)) w') : if Region.wanted o (yielded ops act.tmps) = true then Oper.wp Try.prog o act w K Q else E := by
  have hw : Region.wanted o (yielded ops act.tmps) = true := by simp [Region.wanted, hgd]
  rw [if_pos hw]
  exact wp_copy_bts d s ho B g off dLen dCap cap hd hs hsl hle O Y hdp hfit h

/-- What is behind a copy, below a row of one's own. -/
theorem OwnSl.belowOf {B g cap : Nat} {xs : List Nat} {w w' : World} (O : OwnSl B (some ⟨g, 0, none⟩) xs cap w) (h : w.grownBy w' (some g)) : Below B w w' :=
  (Below.refl _ _).grown h (Nat.le_trans O.row.1 (Nat.le_of_lt (O.row.2.lt g rfl).2)) (fun k e => by cases e; exact O.row.1)

theorem grown_block {w w' : World} {g k : Nat} {o : Obj} (h : w.grownBy w' (some g)) (hk : w.heap[k]? = some o) (hne : k ≠ g) : w'.heap[k]? = some o :=
  (h.block k (Array.getElem?_eq_some_iff.1 hk).1 (fun e => hne (Option.some.inj e))).trans hk

theorem grown_of_below {w w' w2 : World} {g : Nat} (h : Below w.heap.size w w') (h2 : w'.grownBy w2 (some g)) : w.grownBy w2 (some g) :=
  ⟨h2.os.trans h.os, h2.tape.trans h.tape, h2.output.trans h.output, Nat.le_trans h.size h2.size, fun k hk hne => (h2.block k (Nat.lt_of_lt_of_le hk h.size) hne).trans (h.block k hk)⟩

/-- Octets that lie elsewhere lie on. -/
theorem Bts.grown {w w' : World} {b off g : Nat} {xs : List Nat} (h : Bts w (some ⟨b, off, none⟩) xs) (hg : w.grownBy w' (some g)) (hne : b ≠ g) : Bts w' (some ⟨b, off, none⟩) xs := by
  refine ⟨h.1, ?_⟩
  rcases h.2 with h0 | ⟨b', off', e, hlt, hc⟩
  · exact .inl h0
  · cases e
    exact .inr ⟨b, off, rfl, Nat.lt_of_lt_of_le hlt hg.size, fun i hi => hg.cell (hc i hi) (fun e => hne (Option.some.inj e))⟩

theorem splice_app {α : Type} (P R cs : List α) (off : Nat) (hP : P.length = off) : splice (P ++ R) off cs = P ++ cs ++ R.drop cs.length := by
  subst hP
  unfold splice
  rw [List.take_left, ← List.drop_drop, List.drop_left, List.append_assoc]
/-- A list that 'make' made. -/
theorem own_made {B g n : Nat} {w : World} (h : w.ownsRow B 5 1 (.slice (some ⟨g, 0, none⟩) n n) n (madeCells (Value.int .u8 0).cells (n * 1)).toList) (hB : B ≤ g) : OwnSl B (some ⟨g, 0, none⟩) (List.replicate n 0) n w := by
  refine ⟨fun x hx => ?_, .inr ⟨g, rfl, hB, ?_⟩⟩
  · obtain ⟨_, rfl⟩ := List.mem_replicate.1 hx; omega
  · rw [List.length_replicate, List.map_replicate]
    rw [made_list _ rfl, Nat.mul_one] at h
    exact h
end Go.Proofs.Ytokfadlgiimaoaa

namespace Go.Proofs.Ytokfadlgiimaoaa
open Go.RowKit

set_option maxRecDepth 100000 in
set_option maxHeartbeats 400000 in
/-- 'number': of one octet to eight. -/
theorem pnum_ether (a : Option Addr) (xs : List Nat) (cap : Nat) (w : World) (h : Bts w a xs) (hlo : 1 ≤ xs.length) (hhi : xs.length ≤ 8) :
    Calls Try.prog 52 #[.slice a xs.length cap] w fun e w' => e = .returned (.int .u64 (Mt.numOf xs : Nat)) ∧ w = w' := by
  have Hg := Lib.hid (get_ok a xs cap w h hlo hhi)
  clear h hlo hhi
  go_enter Try.func52, Try.ntmps52
  go_wp2_with fail
  refine Hg.out.mono ?_
  rintro e w' ⟨rfl, rfl⟩
  go_wp2
  go_ret
  exact ⟨rfl, rfl⟩

end Go.Proofs.Ytokfadlgiimaoaa

namespace Go.Proofs.Ytokfadlgiimaoaa
open Go.RowKit

set_option maxHeartbeats 400000 in
theorem octets_any (n k : Nat) (hk : k ≤ 8) (w : World) :
    Calls Try.prog 50 #[.int .u64 n, .int .i64 k] w fun e w' => e = .returned (.slice (some ⟨w.heap.size, 0, none⟩) k k) ∧ w'.ownsRow w.heap.size 5 1 (.slice (some ⟨w.heap.size, 0, none⟩) k k) k ((Mt.octs n k).map fun x => Value.int .u8 (x : Nat)) ∧ Below w.heap.size w w' := by
  obtain ⟨i0, hi, hz0, hz1, hz2⟩ := info_parts info5
  have Hz := Lib.hid hz2
  go_enter Try.func50, Try.ntmps50
  go_wp2_with (at_make; refine wpList_make_full _ rfl _ _ 22 rfl w.heap.size 5 i0 (.int .u8 0) 1 Try.underlying22 hi hz0 hz1 .i64 .i64 _ _ k rfl rfl rfl rfl (by rw [Hz.out]; omega) (by unfold maxLen; omega) (Nat.le_refl _) ?_; intro w1 hown hgrow)
  go_loopw [0, 6] (fun m i wr => ∃ j : Nat, j ≤ k ∧ i = .int .i64 ((k : Int) - 1 - j) ∧ m = .int .u64 ((n / 256 ^ j : Nat)) ∧ wr.ownsRow w.heap.size 5 1 (.slice (some ⟨w.heap.size, 0, none⟩) k k) k ((Mt.part n k j).map (fun x => Value.int .u8 (x : Nat))) ∧ Below w.heap.size w wr) (fun _ i _ => (intOf i + 1).toNat)
  case atStart =>
    refine ⟨0, by omega, by simp, by simp, ?_, (Below.refl _ _).grown hgrow (Nat.le_refl _) (fun k e => by cases e)⟩
    rw [Mt.part_zero, List.map_replicate]
    rw [made_list _ rfl, Nat.mul_one] at hown
    exact hown
  case round =>
    obtain ⟨j, hj, rfl, rfl, hro, hbe⟩ := hrel
    clear hown hgrow
    have hle : n / 256 ^ j ≤ n := Nat.div_le_self _ _
    by_cases hlt : j < k
    · have hfz := hro.frozenAt (k - 1 - j)
      have hca : wr.cell? ⟨w.heap.size, k - 1 - j, none⟩ = some (.int .u8 ((Mt.part n k j).getD (k - 1 - j) 0 : Nat)) := by
        rw [hro.cellAt (k - 1 - j) (by omega)]
        have hl : k - 1 - j < (Mt.part n k j).length := by rw [Mt.part_length]; omega
        rw [List.getElem?_map, List.getD_eq_getElem?_getD, List.getElem?_eq_getElem hl]
        rfl
      generalize (Mt.part n k j).getD (k - 1 - j) 0 = old at hca
      have hst := hro.stored (k - 1 - j) (.int .u8 ((n / 256 ^ j % 256 : Nat) : Int))
      rw [Mt.map_set, Mt.part_set n k j hlt] at hst
      have Hst := Lib.hid hst; clear hst hro
      have hdd : n / 256 ^ (j + 1) = n / 256 ^ j / 256 := by rw [Nat.pow_succ, Nat.div_div_eq_div_mul]
      obtain ⟨m, hm⟩ : ∃ m, n / 256 ^ j = m := ⟨_, rfl⟩
      rw [hm] at hle hdd Hst ⊢
      have Hdd := Lib.hid hdd; clear hdd hm
      obtain ⟨i, hi2⟩ : ∃ i : Nat, (k : Int) - 1 - j = i := ⟨k - 1 - j, by omega⟩
      have hi3 : k - 1 - j = i := by omega
      rw [hi2]
      rw [hi3] at hca hfz Hst
      have Hi2 := Lib.hid hi2; clear hi2 hi3
      have hik : i < k := by have := Hi2.out; omega
      go_wp2
      go_roundw
      case rel => exact ⟨j + 1, by omega, congrArg (Value.int .i64) (by have := Hi2.out; omega), by rw [Hdd.out]; rfl, Hst.out.1, hbe.setCell (p := ⟨w.heap.size, i, none⟩) (Nat.le_refl _) _⟩
      case measure => simp [intOf]
    · obtain rfl : j = k := by omega
      rw [Mt.part_all] at hro
      have Hr2 := Lib.hid hro; clear hro
      obtain ⟨m, hm⟩ : ∃ m, n / 256 ^ j = m := ⟨_, rfl⟩
      rw [hm] at hle ⊢
      clear hm
      have e : (j : Int) - 1 - j = -1 := by omega
      rw [e]
      go_wp2
      go_ret
      exact ⟨rfl, Hr2.out, hbe⟩


theorem oct_sl (n k : Nat) (hk : k ≤ 8) (w : World) : Calls Try.prog 50 #[.int .u64 n, .int .i64 k] w fun e w' => e = .returned (.slice (some ⟨w.heap.size, 0, none⟩) k k) ∧ OwnSl w.heap.size (some ⟨w.heap.size, 0, none⟩) (Mt.octs n k) k w' ∧ Below w.heap.size w w' := by
  refine (octets_any n k hk w).mono ?_
  rintro e w' ⟨rfl, hr, hb⟩
  refine ⟨rfl, ⟨octs_lt n k, .inr ⟨_, rfl, Nat.le_refl _, ?_⟩⟩, hb⟩
  rw [Mt.octs_length]; exact hr
theorem oct2_sl (n : Nat) (w : World) : Calls Try.prog 50 #[.int .u64 n, .int .i64 2] w fun e w' => e = .returned (.slice (some ⟨w.heap.size, 0, none⟩) 2 2) ∧ OwnSl w.heap.size (some ⟨w.heap.size, 0, none⟩) (Mt.octs n 2) 2 w' ∧ Below w.heap.size w w' := oct_sl n 2 (by omega) w

theorem oct4_sl (n : Nat) (w : World) : Calls Try.prog 50 #[.int .u64 n, .int .i64 4] w fun e w' => e = .returned (.slice (some ⟨w.heap.size, 0, none⟩) 4 4) ∧ OwnSl w.heap.size (some ⟨w.heap.size, 0, none⟩) (Mt.octs n 4) 4 w' ∧ Below w.heap.size w w' := oct_sl n 4 (by omega) w

theorem oct6_sl (n : Nat) (w : World) : Calls Try.prog 50 #[.int .u64 n, .int .i64 6] w fun e w' => e = .returned (.slice (some ⟨w.heap.size, 0, none⟩) 6 6) ∧ OwnSl w.heap.size (some ⟨w.heap.size, 0, none⟩) (Mt.octs n 6) 6 w' ∧ Below w.heap.size w w' := oct_sl n 6 (by omega) w
end Go.Proofs.Ytokfadlgiimaoaa

namespace Go.Proofs.Ytokfadlgiimaoaa
open Go.RowKit

set_option maxHeartbeats 400000 in
theorem copied_one (a : Option Addr) (xs : List Nat) (cap : Nat) (w : World) (hx : Bts w a xs) (hxl : xs.length ≤ 140737488355328) (hn : a = none → cap = 0) :
    Calls Try.prog 47 #[.slice a xs.length cap] w fun e w' => ∃ a' cap', e = .returned (.slice a' xs.length cap') ∧ OwnSl w.heap.size a' xs cap' w' ∧ Below w.heap.size w w' := by
  obtain ⟨i0, hi, hz0, hz1, hz2⟩ := info_parts info5
  go_enter Try.func47, Try.ntmps47
  cases a with
  | none =>
    obtain rfl : xs = [] := by
      rcases hx.2 with h | ⟨b, off, h, _⟩
      · exact h
      · cases h
    obtain rfl := hn rfl
    go_wp2
    go_ret
    exact ⟨none, 0, rfl, ⟨hx.1, .inl ⟨rfl, rfl, rfl⟩⟩, Below.refl _ _⟩
  | some ad =>
    have Hc := Lib.hid hx.src
    have Hx := Lib.hid hx.1
    clear hx
    go_wp2_with (at_builtin; refine wpList_append_own _ rfl _ _ 22 rfl w.heap.size 5 i0 (.int .u8 0) 1 1 Try.underlying22 hi hz0 hz1 hz2 rfl (by decide) _ _ _ rfl (World.ownsRow_nil _ _ _ _) ad xs.length cap (xs.map fun x => Value.int .u8 ((x : Nat) : Int)) rfl (by simp) Hc.out (by simp [Value.oneCell']) (by unfold maxLen; omega) (by omega) (Nat.le_refl _) ?_; intro v' w1 hown hgrow _)
    go_ret
    obtain ⟨a', cap', rfl, O⟩ := OwnSl.of_row (xs := xs) Hx.out (by simpa using hown)
    exact ⟨a', cap', rfl, O, (Below.refl _ _).grown hgrow (Nat.le_refl _) (fun k e => by cases e)⟩

end Go.Proofs.Ytokfadlgiimaoaa
