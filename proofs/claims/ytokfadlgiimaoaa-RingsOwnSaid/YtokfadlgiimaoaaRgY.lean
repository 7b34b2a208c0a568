/- Cards that no call made: what each method answers; the statement's own check of it. -/
import Derived.Test.YtokfadlgiimaoaaRgH
import Derived.Test.YtokfadlgiimaoaaGBts
import Derived.WalkSpells
import Derived.WalkLawsBesides
import Derived.PlainAid
import Derived.WalkSmall
import Derived.LoopN
import Derived.Test.YtokfadlgiimaoaaRgS
import Derived.Test.YtokfadlgiimaoaaRgX
import Derived.Test.YtokfadlgiimaoaaRgI
import Derived.Test.YtokfadlgiimaoaaRgF
namespace Go.Proofs.Ytokfadlgiimaoaa
open Go.RowKit Go.Sort

/-- A pointer that is told not to be a card's. -/
def NoCard (p : Value) (w : World) : Prop := Calls Try.prog 33 #[p] w fun e w' => e = .returned (.bool false) ∧ w = w'
set_option maxRecDepth 100000 in
theorem no_nil (w : World) : NoCard (.pointer none) w := by
  unfold NoCard
  go_enter Try.func33, Try.ntmps33
  go_wp2
  go_ret
  exact ⟨rfl, rfl⟩
set_option maxRecDepth 100000 in
theorem no_zero (g : Nat) (cs : Array Value) (t : TypeId) (w : World) (hg : w.heap[g]? = some (.cells cs t (0, 0))) (h2 : cs[2]? = some (.int .i64 0)) : NoCard (.pointer (some ⟨g, 0, none⟩)) w := by
  have c2 := (blk_cell hg 2).trans h2
  unfold NoCard
  clear hg h2
  go_enter Try.func33, Try.ntmps33
  go_wp2
  go_ret
  exact ⟨rfl, rfl⟩
set_option maxRecDepth 100000 in
theorem no_has (p : Value) (q : Int) (w : World) (h : NoCard p w) : Calls Try.prog 35 #[p, .int .i64 q] w fun e w' => e = .returned (.bool false) ∧ w = w' := by
  have HM := Lib.hid h
  clear h
  go_enter Try.func35, Try.ntmps35
  go_wp2_with (first
    | (go_at_call 33; refine (show Calls _ _ _ _ _ from HM.out).mono ?_; rintro e w' ⟨rfl, rfl⟩)
    | fail)
  go_ret
  exact ⟨rfl, rfl⟩
set_option maxRecDepth 100000 in
theorem no_recv (p : Value) (w : World) (h : NoCard p w) : Calls Try.prog 13 #[p, .slice none 0 0] w fun e w' => e = .returned (.tuple #[.int .i64 0, .int .i64 2]) ∧ w = w' := by
  have HM := Lib.hid h
  clear h
  go_enter Try.func13, Try.ntmps13
  go_wp2_with (first
    | (go_at_call 33; refine (show Calls _ _ _ _ _ from HM.out).mono ?_; rintro e w' ⟨rfl, rfl⟩)
    | fail)
  go_ret2
  exact ⟨rfl, rfl⟩
set_option maxRecDepth 100000 in
theorem no_take (p : Value) (w : World) (h : NoCard p w) : Calls Try.prog 15 #[p, .int .i64 0] w fun e w' => e = .returned (.tuple #[.slice none 0 0, .bool false]) ∧ w = w' := by
  have HM := Lib.hid (no_has p 0 w h)
  clear h
  go_enter Try.func15, Try.ntmps15
  go_wp2_with (first
    | (go_at_call 35; refine (show Calls _ _ _ _ _ from HM.out).mono ?_; rintro e w' ⟨rfl, rfl⟩)
    | fail)
  go_ret2
  exact ⟨rfl, rfl⟩
set_option maxRecDepth 100000 in
theorem no_emit (p : Value) (w : World) (h : NoCard p w) : Calls Try.prog 18 #[p, .int .i64 0] w fun e w' => e = .returned (.tuple #[.slice none 0 0, .bool false, .int .i64 2]) ∧ w = w' := by
  have HM := Lib.hid h
  clear h
  go_enter Try.func18, Try.ntmps18
  go_wp2_with (first
    | (go_at_call 33; refine (show Calls _ _ _ _ _ from HM.out).mono ?_; rintro e w' ⟨rfl, rfl⟩)
    | fail)
  go_ret3
  exact ⟨rfl, rfl⟩
set_option maxRecDepth 100000 in
theorem no_send (p : Value) (w : World) (h : NoCard p w) : Calls Try.prog 17 #[p, .slice none 0 0] w fun e w' => e = .returned (.int .i64 2) ∧ w = w' := by
  have HM := Lib.hid h
  clear h
  go_enter Try.func17, Try.ntmps17
  go_wp2_with (first
    | (go_at_call 33; refine (show Calls _ _ _ _ _ from HM.out).mono ?_; rintro e w' ⟨rfl, rfl⟩)
    | fail)
  go_ret
  exact ⟨rfl, rfl⟩
set_option maxRecDepth 100000 in
theorem no_len (p : Value) (w : World) (h : NoCard p w) : Calls Try.prog 14 #[p, .int .i64 0] w fun e w' => e = .returned (.int .i64 0) ∧ w = w' := by
  have HM := Lib.hid (no_has p 0 w h)
  clear h
  go_enter Try.func14, Try.ntmps14
  go_wp2_with (first
    | (go_at_call 35; refine (show Calls _ _ _ _ _ from HM.out).mono ?_; rintro e w' ⟨rfl, rfl⟩)
    | fail)
  go_ret
  exact ⟨rfl, rfl⟩
set_option maxRecDepth 100000 in
theorem no_wait (p : Value) (w : World) (h : NoCard p w) : Calls Try.prog 19 #[p] w fun e w' => e = .returned (.int .i64 0) ∧ w = w' := by
  have HM := Lib.hid h
  clear h
  go_enter Try.func19, Try.ntmps19
  go_wp2_with (first
    | (go_at_call 33; refine (show Calls _ _ _ _ _ from HM.out).mono ?_; rintro e w' ⟨rfl, rfl⟩)
    | fail)
  go_ret
  exact ⟨rfl, rfl⟩
set_option maxRecDepth 100000 in
set_option maxHeartbeats 1000000 in
theorem nothing_any (p : Value) (w : World) (h : NoCard p w) : Calls Try.prog 20 #[p] w fun e w' => e = .returned (.bool true) ∧ w = w' := by
  have H1 := Lib.hid (no_recv p w h)
  have H2 := Lib.hid (no_take p w h)
  have H3 := Lib.hid (no_emit p w h)
  have H4 := Lib.hid (no_send p w h)
  have H5 := Lib.hid (no_len p w h)
  have H6 := Lib.hid (no_wait p w h)
  clear h
  go_enter Try.func20, Try.ntmps20
  go_wp2_with (first
    | (go_at_call 13; refine H1.out.mono ?_; rintro e w' ⟨rfl, rfl⟩)
    | (go_at_call 15; refine H2.out.mono ?_; rintro e w' ⟨rfl, rfl⟩)
    | (go_at_call 18; refine H3.out.mono ?_; rintro e w' ⟨rfl, rfl⟩)
    | (go_at_call 17; refine H4.out.mono ?_; rintro e w' ⟨rfl, rfl⟩)
    | (go_at_call 14; refine H5.out.mono ?_; rintro e w' ⟨rfl, rfl⟩)
    | (go_at_call 19; refine H6.out.mono ?_; rintro e w' ⟨rfl, rfl⟩)
    | (go_at_call 10; refine (num_any _ _).mono ?_; rintro e w' ⟨rfl, rfl⟩)
    | fail)
  go_ret
  exact ⟨rfl, rfl⟩
end Go.Proofs.Ytokfadlgiimaoaa

namespace Go.Proofs.Ytokfadlgiimaoaa
open Go.RowKit

/-- Only blocks from B on and below C are turned, of those that were there. -/
structure Btw (B C : Nat) (w w' : World) : Prop where
  os : w'.os = w.os
  tape : w'.tape = w.tape
  output : w'.output = w.output
  size : w.heap.size ≤ w'.heap.size
  block : ∀ k, k < w.heap.size → (k < B ∨ C ≤ k) → w'.heap[k]? = w.heap[k]?

theorem Btw.below {B C : Nat} {w w' : World} (h : Btw B C w w') (hB : B ≤ w.heap.size) : Below B w w' :=
  ⟨h.os, h.tape, h.output, h.size, fun k hk => h.block k (by omega) (.inl hk)⟩

theorem OwnSl.btw {B C D : Nat} {a : Option Addr} {xs : List Nat} {cap : Nat} {w w' : World} (O : OwnSl D a xs cap w) (hC : C ≤ D) (h : Btw B C w w') : OwnSl D a xs cap w' := by
  obtain ⟨hx, h0 | ⟨g, rfl, hD, hr⟩⟩ := O
  · exact ⟨hx, .inl h0⟩
  · refine ⟨hx, .inr ⟨g, rfl, hD, hr.1, ?_⟩⟩
    rcases hr.2 with h0 | ⟨g', cap', cur, e, h1, h2, h3⟩
    · exact .inl h0
    · have hlt : g' < w.heap.size := (Array.getElem?_eq_some_iff.1 h2).1
      exact .inr ⟨g', cap', cur, e, h1, (h.block g' hlt (.inr (by omega))).trans h2, h3⟩

theorem OwnSl.blkLt {B : Nat} {a : Option Addr} {xs : List Nat} {cap : Nat} {w : World} (h : OwnSl B a xs cap w) : ∀ g, a = some ⟨g, 0, none⟩ → g < w.heap.size := by
  intro g e
  subst e
  exact (h.row.2.lt g rfl).2

/-- A list below what is turned lies on. -/
theorem OwnSl.under {B C D : Nat} {a : Option Addr} {xs : List Nat} {cap : Nat} {w w' : World} (O : OwnSl D a xs cap w) (hB : ∀ g, a = some ⟨g, 0, none⟩ → g < B) (h : Btw B C w w') : OwnSl D a xs cap w' := by
  obtain ⟨hx, h0 | ⟨g, rfl, hD, hr⟩⟩ := O
  · exact ⟨hx, .inl h0⟩
  · refine ⟨hx, .inr ⟨g, rfl, hD, hr.1, ?_⟩⟩
    rcases hr.2 with h0 | ⟨g', cap', cur, e, h1, h2, h3⟩
    · exact .inl h0
    · have hlt : g' < w.heap.size := (Array.getElem?_eq_some_iff.1 h2).1
      have hg : g' < B := by
        have e1 : g = g' := by injection e with e1; injection e1 with e1; injection e1
        exact e1 ▸ hB g rfl
      exact .inr ⟨g', cap', cur, e, h1, (h.block g' hlt (.inl hg)).trans h2, h3⟩
end Go.Proofs.Ytokfadlgiimaoaa

namespace Go.Proofs.Ytokfadlgiimaoaa
open Go.RowKit

set_option maxHeartbeats 400000 in
theorem spoil_nil (w : World) : Calls Try.prog 21 #[.slice none 0 0] w fun e w' => (∃ v, e = .returned v) ∧ w = w' := by
  go_enter Try.func21, Try.ntmps21
  go_wp2
  refine wp_loop_rounds 1 ?_
  rw [rounds_succ]
  go_wp2
  go_end0
  exact ⟨⟨_, rfl⟩, rfl⟩

set_option maxHeartbeats 400000 in
/-- Spoil turns a row of one's own, and nothing else. -/
theorem spoil_row (B g cap : Nat) (xs : List Nat) (hx : ∀ x ∈ xs, x < 256) (hl : xs.length ≤ 9223372036854775807) (w : World) (hB : B ≤ g)
    (h : w.ownsRow B 5 1 (.slice (some ⟨g, 0, none⟩) xs.length cap) xs.length (xs.map fun x => Value.int .u8 (x : Nat))) :
    Calls Try.prog 21 #[.slice (some ⟨g, 0, none⟩) xs.length cap] w fun e w' => (∃ v, e = .returned v) ∧ Below B w w' ∧ w.grownBy w' (some g) := by
  obtain ⟨n, hn⟩ : ∃ n, xs.length = n := ⟨_, rfl⟩
  rw [hn] at h hl ⊢
  go_enter Try.func21, Try.ntmps21
  have Hh : Hid (∃ ys : List Nat, ys.length = n ∧ (∀ y ∈ ys, y < 256) ∧ w.ownsRow B 5 1 (.slice (some ⟨g, 0, none⟩) n cap) n (ys.map fun x => Value.int .u8 (x : Nat))) := Lib.hid ⟨xs, hn, hx, h⟩
  clear h hx hn
  go_wp2
  go_loopw [2] (fun i wr => ∃ k : Nat, k ≤ n ∧ i = .int .i64 k ∧ (∃ ys : List Nat, ys.length = n ∧ (∀ y ∈ ys, y < 256) ∧ wr.ownsRow B 5 1 (.slice (some ⟨g, 0, none⟩) n cap) n (ys.map fun x => Value.int .u8 (x : Nat))) ∧ Below B w wr ∧ w.grownBy wr (some g)) (fun i _ => n - (intOf i).toNat)
  case atStart => exact ⟨0, by omega, rfl, Hh.out, Below.refl _ _, ⟨rfl, rfl, rfl, Nat.le_refl _, fun _ _ _ => rfl⟩⟩
  case round =>
    obtain ⟨k, hk, rfl, ⟨ys, hyn, hy, hro⟩, hbe, hgr⟩ := hrel
    clear Hh
    by_cases hlt : k < n
    · have hky : k < ys.length := by omega
      have hca : wr.cell? ⟨g, k, none⟩ = some (.int .u8 (ys.getD k 0 : Nat)) := by
        rw [hro.cellAt k (by omega), List.getElem?_map, List.getD_eq_getElem?_getD, List.getElem?_eq_getElem hky]
        rfl
      have hfz := hro.frozenAt k
      have hlt2 := hy _ (Mt.getD_mem ys k hky)
      generalize ys.getD k 0 = x at hca hlt2
      have hxr : bits .xor .u8 (x : Int) 85 = ((x ^^^ 85 : Nat) : Int) := u8_xor_nat x 85 hlt2 (by omega)
      have hx2 : x ^^^ 85 < 256 := Nat.xor_lt_two_pow (n := 8) (by omega) (by omega)
      have hst := hro.stored k (.int .u8 ((x ^^^ 85 : Nat) : Int))
      rw [Mt.map_set (fun x : Nat => Value.int .u8 (x : Int)) ys k (x ^^^ 85)] at hst
      have hy2 : ∀ y ∈ ys.set k (x ^^^ 85), y < 256 := fun y h => by
        rcases List.mem_or_eq_of_mem_set h with h | h
        · exact hy y h
        · rw [h]; exact hx2
      have hyn2 : (ys.set k (x ^^^ 85)).length = n := by rw [List.length_set]; exact hyn
      have hgr2 := hgr.trans hst.2
      have Hgr2 := Lib.hid hgr2
      have Hst := Lib.hid (And.intro hst.1 (And.intro hy2 hyn2))
      generalize x ^^^ 85 = z at hxr Hst hx2 Hgr2
      clear hst hro hy hyn hyn2 hy2 hky hgr hgr2
      go_wp2
      go_roundw
      case rel => exact ⟨k + 1, by omega, by go_num, ⟨_, Hst.out.2.2, Hst.out.2.1, Hst.out.1⟩, hbe.setCell (p := ⟨g, k, none⟩) hB _, Hgr2.out⟩
      case measure => simp [intOf]; omega
    · have Hgr := Lib.hid hgr
      clear hro hy hyn hgr
      go_wp2
      go_end0
      exact ⟨⟨_, rfl⟩, hbe, Hgr.out⟩

theorem spoil_one (B B' : Nat) (a : Option Addr) (xs : List Nat) (cap : Nat) (w : World) (h : OwnSl B a xs cap w) (hB' : ∀ g, a = some ⟨g, 0, none⟩ → g < B') (hxl : xs.length ≤ 140737488355328) :
    Calls Try.prog 21 #[.slice a xs.length cap] w fun e w' => (∃ v, e = .returned v) ∧ Below B w w' ∧ ∀ a' ys dap, OwnSl B' a' ys dap w → OwnSl B' a' ys dap w' := by
  obtain ⟨hx, ⟨rfl, rfl, rfl⟩ | ⟨g, rfl, hB, hr⟩⟩ := h
  · refine (spoil_nil w).mono ?_
    rintro e w' ⟨hv, rfl⟩
    exact ⟨hv, Below.refl _ _, fun _ _ _ h => h⟩
  · refine (spoil_row B g cap xs hx (by omega) w hB hr).mono ?_
    rintro e w' ⟨hv, hb, hg⟩
    exact ⟨hv, hb, fun _ _ _ h => h.kept hg (hB' g rfl)⟩


/-- Spoil on a list of one's own, nil or not. -/
theorem spoil_own (B C cap : Nat) (a : Option Addr) (xs : List Nat) (hl : xs.length ≤ 9223372036854775807) (w : World) (O : OwnSl B a xs cap w) (hC : ∀ g, a = some ⟨g, 0, none⟩ → g < C) :
    Calls Try.prog 21 #[.slice a xs.length cap] w fun e w' => (∃ v, e = .returned v) ∧ Btw B C w w' := by
  obtain ⟨hx, ⟨rfl, rfl, rfl⟩ | ⟨g, rfl, hB, hr⟩⟩ := O
  · refine (spoil_nil w).mono ?_
    rintro e w' ⟨h, rfl⟩
    exact ⟨h, rfl, rfl, rfl, Nat.le_refl _, fun _ _ _ => rfl⟩
  · refine (spoil_row B g cap xs hx hl w hB hr).mono ?_
    rintro e w' ⟨h, _, hg⟩
    have hgC := hC g rfl
    exact ⟨h, hg.os, hg.tape, hg.output, hg.size, fun k hk h2 => hg.block k hk (fun e => by have := Option.some.inj e; omega)⟩

end Go.Proofs.Ytokfadlgiimaoaa

namespace Go.Proofs.Ytokfadlgiimaoaa
open Go.RowKit Go.Sort

theorem row_blk {w : World} {B : Nat} {e : TypeId} {m g n cap : Nat} {xs : List Value} (h : w.ownsRow B e m (.slice (some ⟨g, 0, none⟩) n cap) n xs) (hm : 0 < m) : ∃ cur, w.heap[g]? = some (.cells cur e (0, 0)) ∧ n ≤ cur.size := by
  rcases h.2 with ⟨h0, _⟩ | ⟨g', cap', cur, e', h1, h2, h3, h4, h5, h6⟩
  · cases h0
  · cases e'
    refine ⟨cur, h2, ?_⟩
    rw [h5]
    exact Nat.le_trans h3 (Nat.le_mul_of_pos_right _ hm)
/-- A row of ints lies in no block of octets. -/
theorem its_apart {w : World} {B : Nat} {ka ta : Option Addr} {ks : List Nat} {ts : List Int} {kc tc : Nat} (O : OwnSl B ka ks kc w) (P : OwnR 3 1 IC B ta ts tc w) : ∀ g, ka = some ⟨g, 0, none⟩ → ta ≠ some ⟨g, 0, none⟩ := by
  intro g e1 e2
  subst e1; subst e2
  obtain ⟨c1, h1, _⟩ := row_blk O.row.2 (by decide)
  obtain ⟨c2, h2, _⟩ := row_blk P.rowAny (by decide)
  rw [h1] at h2
  have := Option.some.inj h2
  injection this with _ h3 _
  exact absurd h3 (by decide)
theorem OwnSl.stay {W W' : World} {D : Nat} {a : Option Addr} {xs : List Nat} {cap : Nat} {own : Nat → Prop} (O : OwnSl D a xs cap W) (h : Stay W W' own) (hn : ∀ g, a = some ⟨g, 0, none⟩ → ¬ own g) : OwnSl D a xs cap W' := by
  obtain ⟨hx, ⟨ha, he, hc⟩ | ⟨g, ha, hB, hr⟩⟩ := O
  · exact ⟨hx, .inl ⟨ha, he, hc⟩⟩
  · refine ⟨hx, .inr ⟨g, ha, hB, hr.1, ?_⟩⟩
    rcases hr.2 with h0 | ⟨g', cap', cur, e, h1, h2, h3⟩
    · exact .inl h0
    · have e2 := e
      simp only [Value.slice.injEq, Option.some.injEq, Addr.mk.injEq] at e2
      obtain ⟨⟨rfl, _, _⟩, _, _⟩ := e2
      exact .inr ⟨g, cap', cur, e, h1, (h.2 g (blk_lt h2) (hn g ha)).trans h2, h3⟩
theorem Btw.turns {B C : Nat} {W W' : World} (h : Btw B C W W') : Turns (fun b => B ≤ b ∧ b < C) W W' :=
  ⟨h.os, h.tape, h.output, h.size, fun k hk hn => h.block k hk (by omega)⟩
end Go.Proofs.Ytokfadlgiimaoaa
