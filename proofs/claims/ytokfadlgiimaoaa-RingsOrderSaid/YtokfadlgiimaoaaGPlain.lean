/- Two lists of octets compared; a copy. -/
import Derived.Test.YtokfadlgiimaoaaGBts
import Derived.WalkSpells
import Derived.WalkLawsBesides
import Derived.PlainAid
import Derived.WalkSmall
import Derived.Deep.AppendSrc
import Derived.LoopN
namespace Go.Proofs.Ytokfadlgiimaoaa
open Go.RowKit

/-- Two rows of octets compared. -/
def SameAns (xs ys : List Nat) (w : World) (e : Ending) (w' : World) : Prop := e = .returned (.bool (decide (xs = ys))) ∧ Below w.heap.size w w'

set_option maxHeartbeats 400000 in
theorem same_any (a c : Option Addr) (xs ys : List Nat) (cap dap : Nat) (w : World) (hx : Bts w a xs) (hy : Bts w c ys) (hxl : xs.length ≤ 9223372036854775807) (hyl : ys.length ≤ 9223372036854775807) :
    Calls Try.prog 16 #[.slice a xs.length cap, .slice c ys.length dap] w (SameAns xs ys w) := by
  by_cases hl : xs.length = ys.length
  · have hl1 : ((xs.length : Int) == (ys.length : Int)) = true := by rw [beq_iff_eq]; omega
    have hl2 : ((xs.length : Int) != (ys.length : Int)) = false := by rw [bne_eq_false_iff_eq]; omega
    have Hl := Lib.hid hl; clear hl
    have Hx := Lib.hid hx; clear hx
    have Hy := Lib.hid hy; clear hy
    go_enter Try.func16, Try.ntmps16
    go_wp2
    go_loopw [5] (fun i wr => ∃ k : Nat, k ≤ xs.length ∧ i = .int .i64 k ∧ xs.take k = ys.take k ∧ ∃ q, wr = w.drewN q) (fun i _ => xs.length - (intOf i).toNat)
    case atStart => exact ⟨0, by omega, rfl, rfl, 0, rfl⟩
    case round =>
      obtain ⟨k, hk, rfl, htk, q, rfl⟩ := hrel
      have Htk := Lib.hid htk; clear htk
      by_cases hlt : k < xs.length
      · have hlt2 : k < ys.length := by have := Hl.out; omega
        obtain ⟨b, off, rfl, hb, hcx⟩ : ∃ b off, a = some ⟨b, off, none⟩ ∧ b < w.heap.size ∧ ∀ i, i < xs.length → w.cell? ⟨b, off + i, none⟩ = some (.int .u8 (xs.getD i 0 : Nat)) := by
          rcases Hx.out.2 with h | h
          · subst h; simp at hlt
          · exact h
        obtain ⟨b2, off2, rfl, hb2, hcy⟩ : ∃ b off, c = some ⟨b, off, none⟩ ∧ b < w.heap.size ∧ ∀ i, i < ys.length → w.cell? ⟨b, off + i, none⟩ = some (.int .u8 (ys.getD i 0 : Nat)) := by
          rcases Hy.out.2 with h | h
          · subst h; simp at hlt2
          · exact h
        have g1 := hcx k hlt
        have g2 := hcy k hlt2
        have h1 := Mt.take_snoc xs k hlt
        have h2 := Mt.take_snoc ys k hlt2
        generalize xs.getD k 0 = x at g1 h1
        generalize ys.getD k 0 = y at g2 h2
        have H1 := Lib.hid h1; clear h1
        have H2 := Lib.hid h2; clear h2
        clear hcx hcy Hx Hy
        have i1 : (k : Int) < (xs.length : Int) := by omega
        have i2 : (k : Int) < (ys.length : Int) := by omega
        by_cases hxy : x = y
        · subst hxy
          go_wp2
          go_quiet (fail)
          go_wp2
          go_roundw
          case rel => exact ⟨k + 1, by omega, by go_num, by rw [H1.out, H2.out, Htk.out], _, rfl⟩
          case measure => simp [intOf]; omega
        · have hne1 : ((x : Int) != (y : Int)) = true := by rw [bne_iff_ne]; omega
          go_wp2
          go_quiet (fail)
          go_wp2
          go_ret
          refine ⟨?_, below_drewN (below_drewN (Below.refl _ _) _) _⟩
          have hno : ¬ xs = ys := by
            intro h
            subst h
            have h12 := H1.out.symm.trans H2.out
            have := List.append_cancel_left h12
            simp at this
            exact hxy this
          rw [decide_eq_false hno]; rfl
      · obtain rfl : k = xs.length := by omega
        go_wp2
        go_ret
        refine ⟨?_, below_drewN (Below.refl _ _) _⟩
        have hyes : xs = ys := by
          have h := Htk.out
          rw [List.take_length, Hl.out, List.take_length] at h
          exact h
        rw [decide_eq_true hyes]; rfl
  · have hl2 : ((xs.length : Int) != (ys.length : Int)) = true := by rw [bne_iff_ne]; omega
    have Hl := Lib.hid hl; clear hl
    clear hx hy
    go_enter Try.func16, Try.ntmps16
    go_wp2
    go_ret
    refine ⟨?_, Below.refl _ _⟩
    have hno : ¬ xs = ys := fun h => Hl.out (by rw [h])
    rw [decide_eq_false hno]; rfl

/-- A copy: the same octets in a row of one's own. -/
def CopyAns (xs : List Nat) (w : World) (e : Ending) (w' : World) : Prop :=
  ∃ v, e = .returned v ∧ w'.ownsRow w.heap.size 5 1 v xs.length (xs.map fun x => Value.int .u8 (x : Nat)) ∧ Below w.heap.size w w'

set_option maxHeartbeats 400000 in
theorem copy_any (a : Option Addr) (xs : List Nat) (cap : Nat) (w : World) (hx : Bts w a xs) (hxl : xs.length ≤ 140737488355328) (hn : a = none → cap = 0) :
    Calls Try.prog 22 #[.slice a xs.length cap] w (CopyAns xs w) := by
  obtain ⟨i0, hi, hz0, hz1, hz2⟩ := info_parts info5
  go_enter Try.func22, Try.ntmps22
  cases a with
  | none =>
    obtain rfl : xs = [] := by
      rcases hx.2 with h | ⟨b, off, h, _⟩
      · exact h
      · cases h
    obtain rfl := hn rfl
    go_wp2
    go_ret
    exact ⟨_, rfl, World.ownsRow_nil _ _ _ _, Below.refl _ _⟩
  | some ad =>
    have hcell : ∀ j u, (xs.map fun x => Value.int .u8 ((x : Nat) : Int))[j]? = some u → w.cell? (ad.add j) = some u := by
      intro j u hj
      rcases hx.2 with h | ⟨b, off, h, hb, hc⟩
      · subst h; simp at hj
      · cases h
        have hjl : j < xs.length := by simpa using (List.getElem?_eq_some_iff.1 hj).1
        have e : (⟨b, off, none⟩ : Addr).add j = ⟨b, off + j, none⟩ := by unfold Addr.add; split <;> simp_all
        rw [e, hc j hjl, ← hj]
        simp [List.getD_eq_getElem?_getD, List.getElem?_eq_getElem hjl]
    have Hc := Lib.hid hcell; clear hcell
    go_wp2_with (at_builtin; refine wpList_append_own _ rfl _ _ 22 rfl w.heap.size 5 i0 (.int .u8 0) 1 1 Try.underlying22 hi hz0 hz1 hz2 rfl (by decide) _ _ _ rfl (World.ownsRow_nil _ _ _ _) ad xs.length cap (xs.map fun x => Value.int .u8 ((x : Nat) : Int)) rfl (by simp) Hc.out (by simp [Value.oneCell']) (by unfold maxLen; omega) (by omega) (Nat.le_refl _) ?_; intro v' w1 hown hgrow _)
    go_ret
    refine ⟨_, rfl, ?_, (Below.refl _ _).grown hgrow (Nat.le_refl _) (fun k e => by cases e)⟩
    simpa using hown

theorem copy_one (a : Option Addr) (xs : List Nat) (cap : Nat) (w : World) (hx : Bts w a xs) (hxl : xs.length ≤ 140737488355328) (hn : a = none → cap = 0) :
    Calls Try.prog 22 #[.slice a xs.length cap] w fun e w' => ∃ a' cap', e = .returned (.slice a' xs.length cap') ∧ OwnSl w.heap.size a' xs cap' w' ∧ Below w.heap.size w w' := by
  refine (copy_any a xs cap w hx hxl hn).mono ?_
  rintro e w' ⟨v, rfl, hrow, hb⟩
  rcases hrow.2 with ⟨rfl, h0⟩ | ⟨g, cap', cur, rfl, hB, h2⟩
  · obtain rfl : xs = [] := List.eq_nil_of_length_eq_zero h0
    exact ⟨none, 0, rfl, ⟨hx.1, .inl ⟨rfl, rfl, rfl⟩⟩, hb⟩
  · exact ⟨some ⟨g, 0, none⟩, cap', rfl, ⟨hx.1, .inr ⟨g, rfl, hB, hrow⟩⟩, hb⟩

theorem same_one (a c : Option Addr) (xs ys : List Nat) (cap dap : Nat) (w : World) (hx : Bts w a xs) (hy : Bts w c ys) (hxl : xs.length ≤ 140737488355328) (hyl : ys.length ≤ 140737488355328) (hxy : xs = ys) :
    Calls Try.prog 16 #[.slice a xs.length cap, .slice c ys.length dap] w fun e w' => e = .returned (.bool true) ∧ Below w.heap.size w w' := by
  refine (same_any a c xs ys cap dap w hx hy (by omega) (by omega)).mono ?_
  rintro e w' ⟨rfl, hb⟩
  rw [decide_eq_true hxy]
  exact ⟨rfl, hb⟩

end Go.Proofs.Ytokfadlgiimaoaa
