/- A range over a function that keeps its own state in memory of its own; the function is a bound method. -/
import Derived.RangeFuncNested
import Derived.RangeFuncBound
import Derived.RangeFuncCalls
import Derived.RangeFuncLeaves
import Derived.RangeFuncBox
import Derived.Shelf.Abstract
import Derived.Shelf.RegionOpen
import Derived.WalkKit
import Derived.OwnWalkIn
import Derived.TacticsInMore
import Derived.LoopNIn
import Derived.LoopIn
import Derived.Lib.Hide
import Derived.Test.YtcachmjcninkbaaGBase
namespace Go.Proofs.Ytcachmjcninkbaa
open Go.RowKit Go.Shelf
variable {F : Fence} {n : Nat} {P : Program}

/-- Blocks from B on stay as they are. -/
def Stays (B : Nat) (A C : World) : Prop := A.heap.size ≤ C.heap.size ∧ ∀ k, B ≤ k → k < A.heap.size → C.heap[k]? = A.heap[k]?
theorem Stays.refl (B : Nat) (A : World) : Stays B A A := ⟨Nat.le_refl _, fun _ _ _ => rfl⟩
theorem Stays.trans {B : Nat} {A C D : World} (h : Stays B A C) (k : Stays B C D) : Stays B A D := ⟨Nat.le_trans h.1 k.1, fun j hj hl => (k.2 j hj (Nat.lt_of_lt_of_le hl h.1)).trans (h.2 j hj hl)⟩
theorem Stays.of_below {B : Nat} {A C : World} (h : Below A.heap.size A C) : Stays B A C := ⟨h.size, fun k _ hl => h.block k hl⟩
theorem Stays.set {B g : Nat} (W : World) (i : Nat) (v : Value) (hg : g < B) : Stays B W (W.setCell ⟨g, i, none⟩ v) :=
  ⟨(gr_set W g i v).size, fun k hk hl => (gr_set W g i v).block k hl (fun e => by have := Option.some.inj e; omega)⟩

/-- What such a function owes: it hands out these things, one by one, whatever its caller keeps below. -/
def Gives {α : Type} (F : Fence) (n : Nat) (P : Program) (gf : Nat) (rb : Array Value) (enc : α → Value) (hs : List α) (Pre : World → Prop) : Prop :=
  ∀ (l : Nat) (J : Nat → World → Prop) (Jx : World → Prop) (W : World),
    (∀ k A C, J k A → Below W.heap.size A C → J k C) → (∀ A C, Jx A → Below W.heap.size A C → Jx C) →
    (∀ k x W1, hs[k]? = some x → J k W1 → W.heap.size ≤ W1.heap.size → YieldAt F (n - 1) P l #[enc x] W1 fun e W' =>
      (e = .returned (.bool true) ∧ J (k + 1) W' ∧ Stays W.heap.size W1 W') ∨ (e = .returned (.bool false) ∧ Jx W')) →
    Pre W → J 0 W → CallsIn F n P gf (rb ++ #[.func (.yield l) #[] #[]]) W fun e W' => (∃ v, e = .returned v) ∧ (J hs.length W' ∨ Jx W')

/-- How a round may be left. -/
def roundEnd (B : Nat) (I : Nat → World → Prop) (Ix : World → Prop) (k : Nat) (W : World) : Exit → Act → World → Prop
  | .normal, _, W' => Stays B W W' ∧ I (k + 1) W'
  | .ret, _, W' => Stays B W W' ∧ Ix W'
  | .exit _, _, _ => False
  | .goto _, _, _ => False
  | .panic _, _, _ => False
  | .outgrown, _, _ => False

theorem put_low (W : World) (l B : Nat) (o : Obj) (h : B ≤ l) (hl : l < W.heap.size) : Below B W (W.putObj l o) :=
  (Below.refl B W).grown (grownBy_putObj' W l o) (by omega) (fun k e => by have := Option.some.inj e; omega)

theorem wpIn_range_gives {α : Type} {g : Operand} {ps : Array Tmp} {assign body : Code} {Q : Exit → Act → World → Prop} {a : Act} {w : World}
    (hro : F.round = none) (h1 : 1 ≤ n) {gf : Nat} {rb : Array Value} (hg : a.eval g = .func (.func gf) rb #[]) (hFg : F.fn gf) (eg : ∀ args w, (callFunc gf args).run P w = .ok (.enter gf args) w)
    {enc : α → Value} {hs : List α} {Pre : World → Prop} (hit : Gives F (n - 1) P gf rb enc hs Pre) (hps : ps.size = 1)
    (I : Nat → World → Prop) (Ix : World → Prop) (hI : ∀ k A C, I k A → Below w.heap.size A C → I k C) (hIx : ∀ A C, Ix A → Below w.heap.size A C → Ix C) (h0 : I 0 w) (hpre : ∀ W, Below w.heap.size w W → Pre W)
    (asn : α → Nat → Act) (obj : α → Obj)
    (hassign : ∀ (l : Nat) (x : α) (W : World) (K : Act → World → Prop), K (asn x W.heap.size) (W.alloc (obj x)) →
      assign.wpIn (F.inRound l) (n - 1 - 1) P (Exit.then K (fun _ _ _ => False)) { tmps := (ps.zip #[enc x]).foldl (fun t (p, v) => t.setIfInBounds p v) a.tmps, defers := [] } W)
    (hbody : ∀ (l k : Nat) (x : α) (W : World) (b : Nat), hs[k]? = some x → I k W → w.heap.size + 2 ≤ b → W.heap[b]? = some (obj x) → body.wpIn (F.inRound l) (n - 1 - 1) P (roundEnd w.heap.size I Ix k W) (asn x b) W)
    (hdone : ∀ (D : Nat) (W : World), w.heap.size ≤ D → I hs.length W → W.heap[D]? = some (.deferred (some [])) → Q .normal { a with defers := { target := .collected D, args := #[] } :: a.defers } W)
    (hstop : ∀ (D : Nat) (W : World), w.heap.size ≤ D → Ix W → W.heap[D]? = some (.deferred (some [])) → Code.ret.wpIn F n P Q { a with defers := { target := .collected D, args := #[] } :: a.defers } W) :
    (Code.rangeFunc g ps assign body).wpIn F n P Q a w := by
  refine wpIn_rangeFunc fun fn hfn => ?_
  rw [hro]
  obtain ⟨B, hB⟩ : ∃ B, w.heap.size = B := ⟨_, rfl⟩
  let rc : LoopState → Option Code → Loop := fun st pe => { state := st, pending := pe, fn := fn, tmps := a.tmps, params := ps, assign := assign, body := body, defers := w.heap.size }
  let W0 := (w.alloc (.deferred (some []))).alloc (.loop (rc .ready none))
  have hs0 : W0.heap.size = B + 2 := by show ((w.alloc _).alloc _).heap.size = _; simp [hB]
  have hw0 : Below B w W0 := ((Below.refl B w).alloc (by omega) _).alloc (by simp; omega) _
  have rec0 : W0.heap[B + 1]? = some (.loop (rc .ready none)) := by
    have h := World.alloc_heap_new (w.alloc (.deferred (some []))) (.loop (rc .ready none))
    rw [World.size_alloc, hB] at h; exact h
  have def0 : W0.heap[B]? = some (.deferred (some [])) := by
    have h := World.alloc_heap_new w (.deferred (some []))
    rw [hB] at h
    exact (Below.heap_alloc _ _ _ (by simp [hB])).trans h
  refine ⟨B + 1, [{ target := .collected B, args := #[] }], W0, { target := .fn (.func gf) #[], args := rb ++ #[.func (.yield (B + 1)) #[] #[]] }, W0, gf, rb ++ #[.func (.yield (B + 1)) #[] #[]], W0, ?_, ?_, ?_, ?_, fun _ => h1, ?_⟩
  · have h := run_enterLoop_outer (P := P) (w := w) fn a.tmps ps assign body
    rw [hB] at h
    rw [h]
    show _ = Result.ok _ ((w.alloc _).alloc (.loop { state := .ready, pending := none, fn := fn, tmps := a.tmps, params := ps, assign := assign, body := body, defers := w.heap.size }))
    rw [hB]
  · simp only [resolve, hg]
    simp [go_sem]
  · intro f' hf'
    simp [Target.leads] at hf'
    subst hf'; exact hFg
  · simp [invoke, go_sem, eg]
  have hrd : ∀ (W : World) (k : Nat) (x : α), hs[k]? = some x → I k W → W.heap[B + 1]? = some (.loop (rc .ready none)) → W.heap[B]? = some (.deferred (some [])) →
      YieldAt F (n - 1 - 1) P (B + 1) #[enc x] W fun e W' =>
        (e = .returned (.bool true) ∧ (I (k + 1) W' ∧ W'.heap[B + 1]? = some (.loop (rc .ready none)) ∧ W'.heap[B]? = some (.deferred (some []))) ∧ Stays (B + 2) W W') ∨
        (e = .returned (.bool false) ∧ Ix W' ∧ W'.heap[B + 1]? = some (.loop (rc .done (some .ret))) ∧ W'.heap[B]? = some (.deferred (some []))) := by
    intro W k x hx hi hl hd
    have hlt := blk_lt hl
    refine ⟨fn, _, assign, body, run_yield hl (by show 1 = ps.size; rw [hps]), roundIn_of_wpIn hfn (hassign _ x W _ ?_)⟩
    have hl1 : (W.alloc (obj x)).heap[B + 1]? = some (.loop (rc .ready none)) := (Below.heap_alloc _ _ _ hlt).trans hl
    have hlt1 := blk_lt hl1
    refine ⟨_, run_beginRound hl1 rfl, ?_⟩
    let V := (W.alloc (obj x)).putObj (B + 1) (.loop (rc .busy none))
    have hV : Below w.heap.size W V := (((Below.refl _ W).alloc (by omega) _).trans (put_low _ _ _ _ (by omega) hlt1))
    have hVb : V.heap[W.heap.size]? = some (obj x) := (World.putObj_heap_other (by omega)).trans (World.alloc_heap_new W (obj x))
    have hVl : V.heap[B + 1]? = some (.loop (rc .busy none)) := World.putObj_heap_same hlt1
    have hVd : V.heap[B]? = some (.deferred (some [])) := (World.putObj_heap_other (by omega)).trans ((Below.heap_alloc _ _ _ (by omega)).trans hd)
    have hVs : V.heap.size = W.heap.size + 1 := by show (World.putObj _ _ _).heap.size = _; simp
    have hVo : ∀ j, B + 2 ≤ j → j < W.heap.size → V.heap[j]? = W.heap[j]? := fun j h1 h2 => (World.putObj_heap_other (by omega)).trans (Below.heap_alloc _ _ _ h2)
    have hend : ∀ (jump : Option Code) (C : World), Stays B V C → (Instr.endRound (B + 1) jump).run P C = .ok (.bool jump.isNone) (C.putObj (B + 1) (.loop { rc .busy none with state := if jump.isNone then .ready else .done, pending := jump })) ∧ B + 1 < C.heap.size ∧ C.heap[B]? = some (.deferred (some [])) := by
      intro jump C hC
      have h3 : C.heap[B + 1]? = some (.loop (rc .busy none)) := (hC.2 (B + 1) (by omega) (by omega)).trans hVl
      exact ⟨run_endRound jump h3, blk_lt h3, (hC.2 B (by omega) (by omega)).trans hVd⟩
    refine wpIn_mono (hbody _ k x V W.heap.size hx (hI k W V hi hV) (by omega) hVb) ?_
    intro e a3 C hp
    cases e with
    | normal =>
      obtain ⟨hC, hi3⟩ := hp
      rw [hB] at hC
      obtain ⟨r1, r2, r3⟩ := hend none C hC
      refine ⟨_, _, r1, .inl ⟨rfl, ⟨hI _ C _ hi3 (put_low _ _ _ _ (by omega) r2), World.putObj_heap_same r2, (World.putObj_heap_other (by omega)).trans r3⟩, by have := hC.1; simp; omega, fun j h4 h5 => ?_⟩⟩
      exact (World.putObj_heap_other (by omega)).trans ((hC.2 j (by omega) (by omega)).trans (hVo j h4 h5))
    | ret =>
      obtain ⟨hC, hi3⟩ := hp
      rw [hB] at hC
      obtain ⟨r1, r2, r3⟩ := hend (some .ret) C hC
      exact ⟨_, _, r1, .inr ⟨rfl, hIx C _ hi3 (put_low _ _ _ _ (by omega) r2), World.putObj_heap_same r2, (World.putObj_heap_other (by omega)).trans r3⟩⟩
    | exit _ => exact hp.elim
    | goto _ => exact hp.elim
    | panic _ => exact hp.elim
    | outgrown => exact hp.elim
  have ab : ∀ {o p : Obj} {A C : World}, A.heap[B + 1]? = some o ∧ A.heap[B]? = some p → Below W0.heap.size A C → C.heap[B + 1]? = some o ∧ C.heap[B]? = some p := fun h hb => ⟨(hb.block _ (by omega)).trans h.1, (hb.block _ (by omega)).trans h.2⟩
  have mn : ∀ {A C : World}, Below W0.heap.size A C → Below w.heap.size A C := fun hb => hb.mono (by omega)
  refine (hit (B + 1) (fun k W => I k W ∧ W.heap[B + 1]? = some (.loop (rc .ready none)) ∧ W.heap[B]? = some (.deferred (some []))) (fun W => Ix W ∧ W.heap[B + 1]? = some (.loop (rc .done (some .ret))) ∧ W.heap[B]? = some (.deferred (some []))) W0
    (fun k A C h hb => ⟨hI k A C h.1 (mn hb), ab h.2 hb⟩) (fun A C h hb => ⟨hIx A C h.1 (mn hb), ab h.2 hb⟩) ?_ (hpre W0 (by rw [hB]; exact hw0)) ⟨hI 0 w W0 h0 (by rw [hB]; exact hw0), rec0, def0⟩).mono ?_
  · intro k x W1 hx hJ _
    rw [hs0]
    exact hrd W1 k x hx hJ.1 hJ.2.1 hJ.2.2
  · rintro e C ⟨⟨v, rfl⟩, ⟨hi, hl, hd⟩ | ⟨hi, hl, hd⟩⟩
    · refine ⟨none, _, run_endLoop hl (by intro e; cases e), ?_⟩
      exact hdone B _ (by omega) (hI _ C _ hi (put_low _ _ _ _ (by omega) (blk_lt hl))) ((World.putObj_heap_other (by omega)).trans hd)
    · refine ⟨some .ret, _, run_endLoop hl (by intro e; cases e), ?_⟩
      exact hstop B _ (by omega) (hIx C _ hi (put_low _ _ _ _ (by omega) (blk_lt hl))) ((World.putObj_heap_other (by omega)).trans hd)
end Go.Proofs.Ytcachmjcninkbaa
