/- slices.Clone of octets and of ints; what Check of a card's settings tells. -/
import Derived.Test.YtokfadlgiimaoaaRgC
import Derived.Test.YtokfadlgiimaoaaGAppend
import Derived.Test.YtokfadlgiimaoaaGOwnA
import Derived.Test.YtokfadlgiimaoaaToCalls
namespace Go.Proofs.Ytokfadlgiimaoaa
open Go.RowKit Go.Sort

/-- A slice whose block was made meanwhile. -/
def Fresh (W W' : World) (a : Option Addr) : Prop := ∀ b off, a = some ⟨b, off, none⟩ → W.heap.size ≤ b ∧ b < W'.heap.size
theorem OwnSl.fresh {W W' : World} {B : Nat} {a : Option Addr} {ys : List Nat} {c : Nat} (O : OwnSl B a ys c W') (hB : W.heap.size ≤ B) : Fresh W W' a := fun b off e => by
  obtain ⟨_, ⟨h1, _⟩ | ⟨g', h1, h2, hr⟩⟩ := O
  · rw [h1] at e; cases e
  · rw [h1] at e; cases e; exact ⟨Nat.le_trans hB h2, (hr.lt _ rfl).2⟩

set_option maxRecDepth 100000 in
set_option maxHeartbeats 1000000 in
theorem clone_bytes (a : Option Addr) (ys : List Nat) (cap : Nat) (w : World) (h : Bts w a ys) (hn : a = none → cap = 0) (hl : ys.length ≤ 140737488351232) :
    Calls Try.prog 31 #[.slice a ys.length cap] w fun e w' => (∃ a' c', e = .returned (.slice a' ys.length c') ∧ OwnSl w.heap.size a' ys c' w') ∧ Below w.heap.size w w' := by
  cases a with
  | none =>
    obtain rfl : ys = [] := by rcases h.2 with h | ⟨_, _, h, _⟩
                               · exact h
                               · cases h
    obtain rfl := hn rfl
    clear h hn hl
    have hEq : ∀ W, (binOp .eql 22 (.slice none 0 0) (.slice none 0 0)).run Try.prog W = .ok (.bool true) W := fun W => Lib.run_eql_slice_nil W _ _ none 0 0 0 0 Try.underlying22
    go_enter Try.func31, Try.ntmps31
    go_wp2
    go_ret
    exact ⟨⟨none, 0, rfl, own_nil _ _⟩, Below.refl _ _⟩
  | some ad =>
    have HL := Lib.hid (h.below ((Below.refl w.heap.size w).alloc (Nat.le_refl _) (.cells #[] 5)))
    have HN := Lib.hid (own_new w [] (by simp) (by simp))
    have ba := Lib.hid ((Below.refl w.heap.size w).alloc (Nat.le_refl _) (.cells #[] 5))
    clear h hn
    have hEq : ∀ W, (binOp .eql 22 (.slice (some ad) ys.length cap) (.slice none 0 0)).run Try.prog W = .ok (.bool false) W := fun W => Lib.run_eql_slice_nil W _ _ (some ad) ys.length cap 0 0 Try.underlying22
    go_enter Try.func31, Try.ntmps31
    go_wp2_with (first
      | (at_builtin; refine wpList_append_bts rfl (.tmp 5) (.tmp 6) rfl w.heap.size HN.out HL.out (fun e => by cases e) rfl rfl (by simp; omega) ba.out.size ?_; intro a2 c2 W1 O b; have O2 := Lib.hid O; have E2 := Lib.hid (ba.out.trans b); clear O b)
      | fail)
    go_ret
    exact ⟨⟨a2, c2, rfl, O2.out⟩, E2.out⟩

theorem Its.sts {w : World} {a : Option Addr} {ts : List Int} (h : Its w a ts) : Sts 1 IC Tr w a ts := by
  refine ⟨fun _ _ => trivial, ?_⟩
  rcases h.2 with h0 | ⟨b, off, e, hb, hc⟩
  · exact .inl h0
  · refine .inr ⟨b, off, e, hb, fun i r hi j v hj => ?_⟩
    have hil := (List.getElem?_eq_some_iff.1 hi).1
    obtain ⟨rfl, rfl⟩ : j = 0 ∧ v = .int .i64 r := by
      cases j with
      | zero => exact ⟨rfl, by simpa [IC] using hj.symm⟩
      | succ j => simp [IC] at hj
    rw [Nat.mul_one, Nat.add_zero, hc i hil, List.getD_eq_getElem?_getD, hi]; rfl
theorem OwnR.its {B : Nat} {a : Option Addr} {ts : List Int} {c : Nat} {w : World} (h : OwnR 3 1 IC B a ts c w) (hr : ∀ t ∈ ts, -9223372036854775808 ≤ t ∧ t ≤ 9223372036854775807) : Its w a ts := by
  refine ⟨hr, ?_⟩
  cases ts with
  | nil => exact .inl rfl
  | cons t ts =>
    obtain ⟨g, rfl, hg⟩ := h.isSome (by simp)
    exact .inr ⟨g, 0, rfl, hg.2, fun i hi => by rw [Nat.zero_add]; exact h.cellI i hi⟩

set_option maxRecDepth 100000 in
set_option maxHeartbeats 1000000 in
theorem clone_ints (a : Option Addr) (ts : List Int) (cap : Nat) (w : World) (h : Its w a ts) (hn : a = none → cap = 0) (hl : ts.length ≤ 1000000) :
    Calls Try.prog 32 #[.slice a ts.length cap] w fun e w' => (∃ a' c', e = .returned (.slice a' ts.length c') ∧ OwnR 3 1 IC w.heap.size a' ts c' w') ∧ Below w.heap.size w w' := by
  cases a with
  | none =>
    obtain rfl : ts = [] := by rcases h.2 with h | ⟨_, _, h, _⟩
                               · exact h
                               · cases h
    obtain rfl := hn rfl
    clear h hn hl
    have hEq : ∀ W, (binOp .eql 23 (.slice none 0 0) (.slice none 0 0)).run Try.prog W = .ok (.bool true) W := fun W => Lib.run_eql_slice_nil W _ _ none 0 0 0 0 Try.underlying23
    go_enter Try.func32, Try.ntmps32
    go_wp2
    go_ret
    exact ⟨⟨none, 0, rfl, ownR_nil _ _ _ _ _⟩, Below.refl _ _⟩
  | some ad =>
    have bal : ∀ (W : World) (o : Obj), Below W.heap.size W (W.alloc o) := fun W o => (Below.refl W.heap.size W).alloc (Nat.le_refl _) o
    have HL := Lib.hid h.sts
    clear h hn
    have hEq : ∀ W, (binOp .eql 23 (.slice (some ad) ts.length cap) (.slice none 0 0)).run Try.prog W = .ok (.bool false) W := fun W => Lib.run_eql_slice_nil W _ _ (some ad) ts.length cap 0 0 Try.underlying23
    go_enter Try.func32, Try.ntmps32
    go_wp2_with (first
      | (refine wpList_append_r (t := 23) (e := 3) (z := .int .i64 0) (m := 1) (bz := 8) (cells := IC) (xs := ([] : List Int)) (ys := ts) (cap := 0) (a := some ⟨w.heap.size, 0, none⟩) (b := some ad) (dap := cap) (n := ts.length) rfl elemI encI (.tmp 5) (.tmp 6) rfl w.heap.size rfl ?_ ?_ ?_ ?_ ?_ ?_ ?_ ?_ ?_; exact ownR_new encI 3 w [] (by simp); exact HL.out.belowT (bal w _); (intro e; cases e); rfl; rfl; (simp only [List.length_nil]; omega); (unfold maxLen; simp only [List.length_nil]; omega); exact (bal w (.cells #[] 3)).size; intro a2 c2 W1 O1 b1 g1; have O2 := Lib.hid O1; have Q2 := Lib.hid ((bal w (.cells #[] 3)).trans b1); clear O1 b1 g1)
      | fail)
    go_ret
    exact ⟨⟨a2, c2, rfl, O2.out⟩, Q2.out⟩

/-- What Check tells. -/
def chkE (ks : List Nat) (ts : List Int) (sz ev : Int) : Int := if ckE ks ts = 0 then (if sz < 1 ∨ 4096 < sz ∨ ev < 1 ∨ 1048576 < ev then 121 else 0) else ckE ks ts
set_option maxRecDepth 100000 in
set_option maxHeartbeats 2000000 in
theorem check_any8 (ka : Option Addr) (ks : List Nat) (kc : Nat) (ta : Option Addr) (ts : List Int) (tc : Nat) (sz ev : Int) (w : World) (ht : Its w ta ts) (hl : ts.length ≤ 9223372036854775807) :
    Calls Try.prog 23 #[.agg #[.slice ka ks.length kc, .slice ta ts.length tc, .int .i64 sz, .int .i64 ev]] w fun e w' => e = .returned (.int .i64 (chkE ks ts sz ev)) ∧ Below w.heap.size w w' := by
  have bw := (Below.refl w.heap.size w).alloc (Nat.le_refl _) (.cells #[.slice ka ks.length kc, .slice ta ts.length tc, .int .i64 sz, .int .i64 ev] 29)
  have HC := Lib.hid (checkT_any ka ks kc ta ts tc _ (ht.below bw) hl)
  have BW := Lib.hid bw
  clear ht bw
  unfold chkE
  generalize ckE ks ts = c at HC ⊢
  by_cases h0 : c = 0
  · subst h0
    rw [if_pos rfl]
    by_cases i1 : sz < 1
    · rw [if_pos (.inl i1)]
      go_enter Try.func23, Try.ntmps23
      go_wp2_with (first
        | (go_at_call 37; refine HC.out.mono ?_; rintro e w' ⟨rfl, rfl⟩)
        | fail)
      go_ret
      exact ⟨rfl, BW.out⟩
    · by_cases i2 : 4096 < sz
      · rw [if_pos (.inr (.inl i2))]
        go_enter Try.func23, Try.ntmps23
        go_wp2_with (first
          | (go_at_call 37; refine HC.out.mono ?_; rintro e w' ⟨rfl, rfl⟩)
          | fail)
        go_ret
        exact ⟨rfl, BW.out⟩
      · by_cases i3 : ev < 1
        · rw [if_pos (.inr (.inr (.inl i3)))]
          go_enter Try.func23, Try.ntmps23
          go_wp2_with (first
            | (go_at_call 37; refine HC.out.mono ?_; rintro e w' ⟨rfl, rfl⟩)
            | fail)
          go_ret
          exact ⟨rfl, BW.out⟩
        · by_cases i4 : 1048576 < ev
          · rw [if_pos (.inr (.inr (.inr i4)))]
            go_enter Try.func23, Try.ntmps23
            go_wp2_with (first
              | (go_at_call 37; refine HC.out.mono ?_; rintro e w' ⟨rfl, rfl⟩)
              | fail)
            go_ret
            exact ⟨rfl, BW.out⟩
          · rw [if_neg (by omega)]
            go_enter Try.func23, Try.ntmps23
            go_wp2_with (first
              | (go_at_call 37; refine HC.out.mono ?_; rintro e w' ⟨rfl, rfl⟩)
              | fail)
            go_ret
            exact ⟨rfl, BW.out⟩
  · rw [if_neg h0]
    have e1 : (c != 0) = true := by rw [bne_iff_ne]; exact h0
    go_enter Try.func23, Try.ntmps23
    go_wp2_with (first
      | (go_at_call 37; refine HC.out.mono ?_; rintro e w' ⟨rfl, rfl⟩)
      | fail)
    go_ret
    exact ⟨rfl, BW.out⟩
end Go.Proofs.Ytokfadlgiimaoaa
