/- A list of octets spoilt. -/
import Derived.Test.YtknebjfdggimcaaGBts
import Derived.WalkSpells
import Derived.WalkLawsBesides
import Derived.PlainAid
import Derived.WalkSmall
import Derived.LoopN
namespace Go.Proofs.Ytknebjfdggimcaa
open Go.RowKit

set_option maxHeartbeats 400000 in
theorem spoil_nil (w : World) : Calls Try.prog 13 #[.slice none 0 0] w fun e w' => (∃ v, e = .returned v) ∧ w = w' := by
  go_enter Try.func13, Try.ntmps13
  go_wp2
  refine wp_loop_rounds 1 ?_
  rw [rounds_succ]
  go_wp2
  go_end0
  exact ⟨⟨_, rfl⟩, rfl⟩

set_option maxHeartbeats 400000 in
/-- Spoil turns a row of one's own, and nothing else. -/
theorem spoil_row (B g cap : Nat) (xs : List Nat) (hx : ∀ x ∈ xs, x < 256) (hl : xs.length ≤ 9223372036854775807) (w : World) (hB : B ≤ g)
    (h : w.ownsRow B 5 1 (.slice (some ⟨g, 0, none⟩) xs.length cap) xs.length (xs.map fun x => Value.int .u8 (x : Nat))) :
    Calls Try.prog 13 #[.slice (some ⟨g, 0, none⟩) xs.length cap] w fun e w' => (∃ v, e = .returned v) ∧ Below B w w' ∧ w.grownBy w' (some g) := by
  obtain ⟨n, hn⟩ : ∃ n, xs.length = n := ⟨_, rfl⟩
  rw [hn] at h hl ⊢
  go_enter Try.func13, Try.ntmps13
  have Hh : Hid (∃ ys : List Nat, ys.length = n ∧ (∀ y ∈ ys, y < 256) ∧ w.ownsRow B 5 1 (.slice (some ⟨g, 0, none⟩) n cap) n (ys.map fun x => Value.int .u8 (x : Nat))) := Lib.hid ⟨xs, hn, hx, h⟩
  clear h hx hn
  go_wp2
  go_loopw [2] (fun i wr => ∃ k : Nat, k ≤ n ∧ i = .int .i64 k ∧ (∃ ys : List Nat, ys.length = n ∧ (∀ y ∈ ys, y < 256) ∧ wr.ownsRow B 5 1 (.slice (some ⟨g, 0, none⟩) n cap) n (ys.map fun x => Value.int .u8 (x : Nat))) ∧ Below B w wr ∧ w.grownBy wr (some g)) (fun i _ => n - (intOf i).toNat)
  case atStart => exact ⟨0, by omega, rfl, Hh.out, Below.refl _ _, ⟨rfl, rfl, rfl, Nat.le_refl _, fun _ _ _ => rfl⟩⟩
  case round =>
    obtain ⟨k, hk, rfl, ⟨ys, hyn, hy, hro⟩, hbe, hgr⟩ := hrel
    clear Hh
    by_cases hlt : k < n
    · have hky : k < ys.length := by omega
      have hca : wr.cell? ⟨g, k, none⟩ = some (.int .u8 (ys.getD k 0 : Nat)) := by
        rw [hro.cellAt k (by omega), List.getElem?_map, List.getD_eq_getElem?_getD, List.getElem?_eq_getElem hky]
        rfl
      have hfz := hro.frozenAt k
      have hlt2 := hy _ (Mt.getD_mem ys k hky)
      generalize ys.getD k 0 = x at hca hlt2
      have hxr : bits .xor .u8 (x : Int) 85 = ((x ^^^ 85 : Nat) : Int) := u8_xor_nat x 85 hlt2 (by omega)
      have hx2 : x ^^^ 85 < 256 := Nat.xor_lt_two_pow (n := 8) (by omega) (by omega)
      have hst := hro.stored k (.int .u8 ((x ^^^ 85 : Nat) : Int))
      rw [Mt.map_set (fun x : Nat => Value.int .u8 (x : Int)) ys k (x ^^^ 85)] at hst
      have hy2 : ∀ y ∈ ys.set k (x ^^^ 85), y < 256 := fun y h => by
        rcases List.mem_or_eq_of_mem_set h with h | h
        · exact hy y h
        · rw [h]; exact hx2
      have hyn2 : (ys.set k (x ^^^ 85)).length = n := by rw [List.length_set]; exact hyn
      have hgr2 := hgr.trans hst.2
      have Hgr2 := Lib.hid hgr2
      have Hst := Lib.hid (And.intro hst.1 (And.intro hy2 hyn2))
      generalize x ^^^ 85 = z at hxr Hst hx2 Hgr2
      clear hst hro hy hyn hyn2 hy2 hky hgr hgr2
      go_wp2
      go_roundw
      case rel => exact ⟨k + 1, by omega, by go_num, ⟨_, Hst.out.2.2, Hst.out.2.1, Hst.out.1⟩, hbe.setCell (p := ⟨g, k, none⟩) hB _, Hgr2.out⟩
      case measure => simp [intOf]; omega
    · have Hgr := Lib.hid hgr
      clear hro hy hyn hgr
      go_wp2
      go_end0
      exact ⟨⟨_, rfl⟩, hbe, Hgr.out⟩

theorem spoil_one (B B' : Nat) (a : Option Addr) (xs : List Nat) (cap : Nat) (w : World) (h : OwnSl B a xs cap w) (hB' : ∀ g, a = some ⟨g, 0, none⟩ → g < B') (hxl : xs.length ≤ 140737488355328) :
    Calls Try.prog 13 #[.slice a xs.length cap] w fun e w' => (∃ v, e = .returned v) ∧ Below B w w' ∧ ∀ a' ys dap, OwnSl B' a' ys dap w → OwnSl B' a' ys dap w' := by
  obtain ⟨hx, ⟨rfl, rfl, rfl⟩ | ⟨g, rfl, hB, hr⟩⟩ := h
  · refine (spoil_nil w).mono ?_
    rintro e w' ⟨hv, rfl⟩
    exact ⟨hv, Below.refl _ _, fun _ _ _ h => h⟩
  · refine (spoil_row B g cap xs hx (by omega) w hB hr).mono ?_
    rintro e w' ⟨hv, hb, hg⟩
    exact ⟨hv, hb, fun _ _ _ h => h.kept hg (hB' g rfl)⟩


/-- Only blocks from B on and below C are turned, of those that were there. -/
structure Btw (B C : Nat) (w w' : World) : Prop where
  os : w'.os = w.os
  tape : w'.tape = w.tape
  output : w'.output = w.output
  size : w.heap.size ≤ w'.heap.size
  block : ∀ k, k < w.heap.size → (k < B ∨ C ≤ k) → w'.heap[k]? = w.heap[k]?

theorem Btw.below {B C : Nat} {w w' : World} (h : Btw B C w w') (hB : B ≤ w.heap.size) : Below B w w' :=
  ⟨h.os, h.tape, h.output, h.size, fun k hk => h.block k (by omega) (.inl hk)⟩

theorem OwnSl.btw {B C D : Nat} {a : Option Addr} {xs : List Nat} {cap : Nat} {w w' : World} (O : OwnSl D a xs cap w) (hC : C ≤ D) (h : Btw B C w w') : OwnSl D a xs cap w' := by
  obtain ⟨hx, h0 | ⟨g, rfl, hD, hr⟩⟩ := O
  · exact ⟨hx, .inl h0⟩
  · refine ⟨hx, .inr ⟨g, rfl, hD, hr.1, ?_⟩⟩
    rcases hr.2 with h0 | ⟨g', cap', cur, e, h1, h2, h3⟩
    · exact .inl h0
    · have hlt : g' < w.heap.size := (Array.getElem?_eq_some_iff.1 h2).1
      exact .inr ⟨g', cap', cur, e, h1, (h.block g' hlt (.inr (by omega))).trans h2, h3⟩

/-- Spoil on a list of one's own, nil or not. -/
theorem spoil_own (B C cap : Nat) (a : Option Addr) (xs : List Nat) (hl : xs.length ≤ 9223372036854775807) (w : World) (O : OwnSl B a xs cap w) (hC : ∀ g, a = some ⟨g, 0, none⟩ → g < C) :
    Calls Try.prog 13 #[.slice a xs.length cap] w fun e w' => (∃ v, e = .returned v) ∧ Btw B C w w' := by
  obtain ⟨hx, ⟨rfl, rfl, rfl⟩ | ⟨g, rfl, hB, hr⟩⟩ := O
  · refine (spoil_nil w).mono ?_
    rintro e w' ⟨h, rfl⟩
    exact ⟨h, rfl, rfl, rfl, Nat.le_refl _, fun _ _ _ => rfl⟩
  · refine (spoil_row B g cap xs hx hl w hB hr).mono ?_
    rintro e w' ⟨h, _, hg⟩
    have hgC := hC g rfl
    exact ⟨h, hg.os, hg.tape, hg.output, hg.size, fun k hk h2 => hg.block k hk (fun e => by have := Option.some.inj e; omega)⟩

theorem OwnSl.blkLt {B : Nat} {a : Option Addr} {xs : List Nat} {cap : Nat} {w : World} (h : OwnSl B a xs cap w) : ∀ g, a = some ⟨g, 0, none⟩ → g < w.heap.size := by
  intro g e
  subst e
  exact (h.row.2.lt g rfl).2

/-- A list below what is turned lies on. -/
theorem OwnSl.under {B C D : Nat} {a : Option Addr} {xs : List Nat} {cap : Nat} {w w' : World} (O : OwnSl D a xs cap w) (hB : ∀ g, a = some ⟨g, 0, none⟩ → g < B) (h : Btw B C w w') : OwnSl D a xs cap w' := by
  obtain ⟨hx, h0 | ⟨g, rfl, hD, hr⟩⟩ := O
  · exact ⟨hx, .inl h0⟩
  · refine ⟨hx, .inr ⟨g, rfl, hD, hr.1, ?_⟩⟩
    rcases hr.2 with h0 | ⟨g', cap', cur, e, h1, h2, h3⟩
    · exact .inl h0
    · have hlt : g' < w.heap.size := (Array.getElem?_eq_some_iff.1 h2).1
      have hg : g' < B := by
        have e1 : g = g' := by injection e with e1; injection e1 with e1; injection e1
        exact e1 ▸ hB g rfl
      exact .inr ⟨g', cap', cur, e, h1, (h.block g' hlt (.inl hg)).trans h2, h3⟩
end Go.Proofs.Ytknebjfdggimcaa
