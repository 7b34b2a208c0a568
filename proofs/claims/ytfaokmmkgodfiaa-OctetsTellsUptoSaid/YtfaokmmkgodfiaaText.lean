/- The small functions on texts and octets: a prefix cut, two lists compared, a copy, a spoilt list. -/
import Derived.Test.YtfaokmmkgodfiaaBytes
import Derived.WalkSpells
import Derived.WalkLawsBesides
import Derived.PlainAid
import Derived.WalkSmall
import Derived.Deep.AppendSrc
import Derived.LoopN
namespace Go.Proofs.Ytfaokmmkgodfiaa
open Go.RowKit

/-- Two rows of octets compared. -/
def SameAns (xs ys : List Nat) (w : World) (e : Ending) (w' : World) : Prop := e = .returned (.bool (decide (xs = ys))) ∧ Below w.heap.size w w'

set_option maxHeartbeats 400000 in
theorem same_any (a c : Option Addr) (xs ys : List Nat) (cap dap : Nat) (w : World) (hx : Bts w a xs) (hy : Bts w c ys) (hxl : xs.length ≤ 9223372036854775807) (hyl : ys.length ≤ 9223372036854775807) :
    Calls Try.prog 15 #[.slice a xs.length cap, .slice c ys.length dap] w (SameAns xs ys w) := by
  by_cases hl : xs.length = ys.length
  · have hl1 : ((xs.length : Int) == (ys.length : Int)) = true := by rw [beq_iff_eq]; omega
    have hl2 : ((xs.length : Int) != (ys.length : Int)) = false := by rw [bne_eq_false_iff_eq]; omega
    have Hl := Lib.hid hl; clear hl
    have Hx := Lib.hid hx; clear hx
    have Hy := Lib.hid hy; clear hy
    go_enter Try.func15, Try.ntmps15
    go_wp2
    go_loopw [5] (fun i wr => ∃ k : Nat, k ≤ xs.length ∧ i = .int .i64 k ∧ xs.take k = ys.take k ∧ ∃ q, wr = w.drewN q) (fun i _ => xs.length - (intOf i).toNat)
    case atStart => exact ⟨0, by omega, rfl, rfl, 0, rfl⟩
    case round =>
      obtain ⟨k, hk, rfl, htk, q, rfl⟩ := hrel
      have Htk := Lib.hid htk; clear htk
      by_cases hlt : k < xs.length
      · have hlt2 : k < ys.length := by have := Hl.out; omega
        obtain ⟨b, off, rfl, hb, hcx⟩ : ∃ b off, a = some ⟨b, off, none⟩ ∧ b < w.heap.size ∧ ∀ i, i < xs.length → w.cell? ⟨b, off + i, none⟩ = some (.int .u8 (xs.getD i 0 : Nat)) := by
          rcases Hx.out.2 with h | h
          · subst h; simp at hlt
          · exact h
        obtain ⟨b2, off2, rfl, hb2, hcy⟩ : ∃ b off, c = some ⟨b, off, none⟩ ∧ b < w.heap.size ∧ ∀ i, i < ys.length → w.cell? ⟨b, off + i, none⟩ = some (.int .u8 (ys.getD i 0 : Nat)) := by
          rcases Hy.out.2 with h | h
          · subst h; simp at hlt2
          · exact h
        have g1 := hcx k hlt
        have g2 := hcy k hlt2
        have h1 := Mt.take_snoc xs k hlt
        have h2 := Mt.take_snoc ys k hlt2
        generalize xs.getD k 0 = x at g1 h1
        generalize ys.getD k 0 = y at g2 h2
        have H1 := Lib.hid h1; clear h1
        have H2 := Lib.hid h2; clear h2
        clear hcx hcy Hx Hy
        have i1 : (k : Int) < (xs.length : Int) := by omega
        have i2 : (k : Int) < (ys.length : Int) := by omega
        by_cases hxy : x = y
        · subst hxy
          go_wp2
          go_quiet (fail)
          go_wp2
          go_roundw
          case rel => exact ⟨k + 1, by omega, by go_num, by rw [H1.out, H2.out, Htk.out], _, rfl⟩
          case measure => simp [intOf]; omega
        · have hne1 : ((x : Int) != (y : Int)) = true := by rw [bne_iff_ne]; omega
          go_wp2
          go_quiet (fail)
          go_wp2
          go_ret
          refine ⟨?_, below_drewN (below_drewN (Below.refl _ _) _) _⟩
          have hno : ¬ xs = ys := by
            intro h
            subst h
            have h12 := H1.out.symm.trans H2.out
            have := List.append_cancel_left h12
            simp at this
            exact hxy this
          rw [decide_eq_false hno]; rfl
      · obtain rfl : k = xs.length := by omega
        go_wp2
        go_ret
        refine ⟨?_, below_drewN (Below.refl _ _) _⟩
        have hyes : xs = ys := by
          have h := Htk.out
          rw [List.take_length, Hl.out, List.take_length] at h
          exact h
        rw [decide_eq_true hyes]; rfl
  · have hl2 : ((xs.length : Int) != (ys.length : Int)) = true := by rw [bne_iff_ne]; omega
    have Hl := Lib.hid hl; clear hl
    clear hx hy
    go_enter Try.func15, Try.ntmps15
    go_wp2
    go_ret
    refine ⟨?_, Below.refl _ _⟩
    have hno : ¬ xs = ys := fun h => Hl.out (by rw [h])
    rw [decide_eq_false hno]; rfl

/-- Does a text begin with a minus sign? -/
def hasMinus (s : ByteArray) : Bool := (s.extract 0 1).toList == [45]

theorem hasMinus_none (s : ByteArray) (h : ¬ 1 ≤ s.size) : hasMinus s = false := by
  obtain rfl : s = ByteArray.empty := by
    apply ByteArray.ext
    have : s.data.size = 0 := by have : s.data.size = s.size := rfl; omega
    exact Array.eq_empty_of_size_eq_zero this
  decide +kernel

set_option maxHeartbeats 400000 in
theorem hasPrefix_any (s : ByteArray) (w : World) (hs : s.size ≤ 9223372036854775807) :
    Calls Try.prog 32 #[.string s, .string { data := #[45] }] w fun e w' => e = .returned (.bool (hasMinus s)) ∧ w = w' := by
  by_cases h0 : 1 ≤ s.size
  · go_enter Try.func32, Try.ntmps32
    go_wp2
    go_ret
    exact ⟨rfl, rfl⟩
  · have hm := hasMinus_none s h0
    have Hm := Lib.hid hm; clear hm
    go_enter Try.func32, Try.ntmps32
    go_wp2
    go_ret
    exact ⟨by rw [Hm.out]; rfl, rfl⟩

/-- What is left behind the sign. -/
def restOf (s : ByteArray) : ByteArray := if hasMinus s = true then s.extract 1 s.size else s

set_option maxHeartbeats 400000 in
theorem cutPrefix_any (s : ByteArray) (w : World) (hs : s.size ≤ 9223372036854775807) :
    Calls Try.prog 30 #[.string s, .string { data := #[45] }] w fun e w' => e = .returned (.tuple #[.string (restOf s), .bool (hasMinus s)]) ∧ w = w' := by
  obtain ⟨t, ht⟩ : ∃ t, hasMinus s = t := ⟨_, rfl⟩
  cases t with
  | true =>
    have h1 : 1 ≤ s.size := by
      rcases Nat.lt_or_ge s.size 1 with h | h
      · rw [hasMinus_none s (by omega)] at ht; cases ht
      · exact h
    have hr : restOf s = s.extract 1 s.size := by unfold restOf; rw [if_pos ht]
    rw [hr]; clear hr
    have hp := hasPrefix_any s w hs
    rw [ht] at hp ⊢
    have Hp := Lib.hid hp; clear hp ht
    go_enter Try.func30, Try.ntmps30
    go_wp2_with (go_at_call 32; refine Hp.out.mono ?_; rintro e w' ⟨rfl, rfl⟩)
    go_ret2
    exact ⟨rfl, rfl⟩
  | false =>
    have hr : restOf s = s := by unfold restOf; rw [if_neg (by rw [ht]; simp)]
    rw [hr]; clear hr
    have hp := hasPrefix_any s w hs
    rw [ht] at hp ⊢
    have Hp := Lib.hid hp; clear hp ht
    go_enter Try.func30, Try.ntmps30
    go_wp2_with (go_at_call 32; refine Hp.out.mono ?_; rintro e w' ⟨rfl, rfl⟩)
    go_ret2
    exact ⟨rfl, rfl⟩

set_option maxHeartbeats 400000 in
theorem cutPrefix_two (s : ByteArray) (w : World) (hs : s.size ≤ 9223372036854775807) :
    Calls Try.prog 26 #[.string s, .string { data := #[45] }] w fun e w' => e = .returned (.tuple #[.string (restOf s), .bool (hasMinus s)]) ∧ w = w' := by
  go_enter Try.func26, Try.ntmps26
  go_wp2_with (go_at_call 30; refine (cutPrefix_any s _ hs).mono ?_; rintro e w' ⟨rfl, rfl⟩)
  go_ret2
  exact ⟨rfl, rfl⟩

/-- A copy: the same octets in a row of one's own. -/
def CopyAns (xs : List Nat) (w : World) (e : Ending) (w' : World) : Prop :=
  ∃ v, e = .returned v ∧ w'.ownsRow w.heap.size 5 1 v xs.length (xs.map fun x => Value.int .u8 (x : Nat)) ∧ Below w.heap.size w w'

set_option maxHeartbeats 400000 in
theorem copy_any (a : Option Addr) (xs : List Nat) (cap : Nat) (w : World) (hx : Bts w a xs) (hxl : xs.length ≤ 140737488355328) (hn : a = none → cap = 0) :
    Calls Try.prog 6 #[.slice a xs.length cap] w (CopyAns xs w) := by
  obtain ⟨i0, hi, hz0, hz1, hz2⟩ := info_parts info5
  go_enter Try.func6, Try.ntmps6
  cases a with
  | none =>
    obtain rfl : xs = [] := by
      rcases hx.2 with h | ⟨b, off, h, _⟩
      · exact h
      · cases h
    obtain rfl := hn rfl
    go_wp2
    go_ret
    exact ⟨_, rfl, World.ownsRow_nil _ _ _ _, Below.refl _ _⟩
  | some ad =>
    have hcell : ∀ j u, (xs.map fun x => Value.int .u8 ((x : Nat) : Int))[j]? = some u → w.cell? (ad.add j) = some u := by
      intro j u hj
      rcases hx.2 with h | ⟨b, off, h, hb, hc⟩
      · subst h; simp at hj
      · cases h
        have hjl : j < xs.length := by simpa using (List.getElem?_eq_some_iff.1 hj).1
        have e : (⟨b, off, none⟩ : Addr).add j = ⟨b, off + j, none⟩ := by unfold Addr.add; split <;> simp_all
        rw [e, hc j hjl, ← hj]
        simp [List.getD_eq_getElem?_getD, List.getElem?_eq_getElem hjl]
    have Hc := Lib.hid hcell; clear hcell
    go_wp2_with (at_builtin; refine wpList_append_own _ rfl _ _ 23 rfl w.heap.size 5 i0 (.int .u8 0) 1 1 Try.underlying23 hi hz0 hz1 hz2 rfl (by decide) _ _ _ rfl (World.ownsRow_nil _ _ _ _) ad xs.length cap (xs.map fun x => Value.int .u8 ((x : Nat) : Int)) rfl (by simp) Hc.out (by simp [Value.oneCell']) (by unfold maxLen; omega) (by omega) (Nat.le_refl _) ?_; intro v' w1 hown hgrow _)
    go_ret
    refine ⟨_, rfl, ?_, (Below.refl _ _).grown hgrow (Nat.le_refl _) (fun k e => by cases e)⟩
    simpa using hown

set_option maxHeartbeats 400000 in
theorem spoil_nil (w : World) : Calls Try.prog 22 #[.slice none 0 0] w fun e w' => (∃ v, e = .returned v) ∧ w = w' := by
  go_enter Try.func22, Try.ntmps22
  go_wp2
  refine wp_loop_rounds 1 ?_
  rw [rounds_succ]
  go_wp2
  go_end0
  exact ⟨⟨_, rfl⟩, rfl⟩

set_option maxHeartbeats 400000 in
/-- Spoil turns a row of one's own, and nothing else. -/
theorem spoil_row (B g cap : Nat) (xs : List Nat) (hx : ∀ x ∈ xs, x < 256) (hl : xs.length ≤ 9223372036854775807) (w : World) (hB : B ≤ g)
    (h : w.ownsRow B 5 1 (.slice (some ⟨g, 0, none⟩) xs.length cap) xs.length (xs.map fun x => Value.int .u8 (x : Nat))) :
    Calls Try.prog 22 #[.slice (some ⟨g, 0, none⟩) xs.length cap] w fun e w' => (∃ v, e = .returned v) ∧ Below B w w' ∧ w.grownBy w' (some g) := by
  obtain ⟨n, hn⟩ : ∃ n, xs.length = n := ⟨_, rfl⟩
  rw [hn] at h hl ⊢
  go_enter Try.func22, Try.ntmps22
  have Hh : Hid (∃ ys : List Nat, ys.length = n ∧ (∀ y ∈ ys, y < 256) ∧ w.ownsRow B 5 1 (.slice (some ⟨g, 0, none⟩) n cap) n (ys.map fun x => Value.int .u8 (x : Nat))) := Lib.hid ⟨xs, hn, hx, h⟩
  clear h hx hn
  go_wp2
  go_loopw [2] (fun i wr => ∃ k : Nat, k ≤ n ∧ i = .int .i64 k ∧ (∃ ys : List Nat, ys.length = n ∧ (∀ y ∈ ys, y < 256) ∧ wr.ownsRow B 5 1 (.slice (some ⟨g, 0, none⟩) n cap) n (ys.map fun x => Value.int .u8 (x : Nat))) ∧ Below B w wr ∧ w.grownBy wr (some g)) (fun i _ => n - (intOf i).toNat)
  case atStart => exact ⟨0, by omega, rfl, Hh.out, Below.refl _ _, ⟨rfl, rfl, rfl, Nat.le_refl _, fun _ _ _ => rfl⟩⟩
  case round =>
    obtain ⟨k, hk, rfl, ⟨ys, hyn, hy, hro⟩, hbe, hgr⟩ := hrel
    clear Hh
    by_cases hlt : k < n
    · have hky : k < ys.length := by omega
      have hca : wr.cell? ⟨g, k, none⟩ = some (.int .u8 (ys.getD k 0 : Nat)) := by
        rw [hro.cellAt k (by omega), List.getElem?_map, List.getD_eq_getElem?_getD, List.getElem?_eq_getElem hky]
        rfl
      have hfz := hro.frozenAt k
      have hlt2 := hy _ (Mt.getD_mem ys k hky)
      generalize ys.getD k 0 = x at hca hlt2
      have hxr : bits .xor .u8 (x : Int) 85 = ((x ^^^ 85 : Nat) : Int) := u8_xor_nat x 85 hlt2 (by omega)
      have hx2 : x ^^^ 85 < 256 := Nat.xor_lt_two_pow (n := 8) (by omega) (by omega)
      have hst := hro.stored k (.int .u8 ((x ^^^ 85 : Nat) : Int))
      rw [Mt.map_set (fun x : Nat => Value.int .u8 (x : Int)) ys k (x ^^^ 85)] at hst
      have hy2 : ∀ y ∈ ys.set k (x ^^^ 85), y < 256 := fun y h => by
        rcases List.mem_or_eq_of_mem_set h with h | h
        · exact hy y h
        · rw [h]; exact hx2
      have hyn2 : (ys.set k (x ^^^ 85)).length = n := by rw [List.length_set]; exact hyn
      have hgr2 := hgr.trans hst.2
      have Hgr2 := Lib.hid hgr2
      have Hst := Lib.hid (And.intro hst.1 (And.intro hy2 hyn2))
      generalize x ^^^ 85 = z at hxr Hst hx2 Hgr2
      clear hst hro hy hyn hyn2 hy2 hky hgr hgr2
      go_wp2
      go_roundw
      case rel => exact ⟨k + 1, by omega, by go_num, ⟨_, Hst.out.2.2, Hst.out.2.1, Hst.out.1⟩, hbe.setCell (p := ⟨g, k, none⟩) hB _, Hgr2.out⟩
      case measure => simp [intOf]; omega
    · have Hgr := Lib.hid hgr
      clear hro hy hyn hgr
      go_wp2
      go_end0
      exact ⟨⟨_, rfl⟩, hbe, Hgr.out⟩

end Go.Proofs.Ytfaokmmkgodfiaa
