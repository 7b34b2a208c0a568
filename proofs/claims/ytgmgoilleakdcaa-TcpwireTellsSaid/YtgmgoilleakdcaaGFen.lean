/- A region that draws its order, inside a fence (the round of a loop over a function): by the laws that know no fence, where none of its operations calls a function. -/
import Derived.Test.YtgmgoilleakdcaaGBts
import Derived.OrdersIn
import Derived.Shelf.RegionOpen
import Derived.Deep.RegionHeld3
namespace Go.Proofs.Ytgmgoilleakdcaa
open Go.RowKit

/-- What yields, if anything, a value. -/
def OutV (s : Sem Next) : Prop := ∀ (P : Program) (w : World) (m : Next) (w' : World), s.run P w = .ok m w' → (∃ v, m = .value v) ∨ m = .skip

theorem OutV.pureV (v : Value) : OutV (pure (.value v)) := fun P w m w' h => by
  rw [Sem.run_pure] at h
  injection h with h1 h2
  exact .inl ⟨v, h1.symm⟩
theorem OutV.pureS : OutV (pure .skip) := fun P w m w' h => by
  rw [Sem.run_pure] at h
  injection h with h1 h2
  exact .inr h1.symm
theorem OutV.bind {α : Type} {x : Sem α} {f : α → Sem Next} (h : ∀ v, OutV (f v)) : OutV (x >>= f) := fun P w m w' e => by
  rw [Sem.run_bind] at e
  cases hx : x.run P w with
  | ok v w1 => rw [hx, Result.andThen_ok] at e; exact h v P w1 m w' e
  | halt v w1 => rw [hx] at e; simp [Result.andThen] at e

theorem OutV.goPanic (v : Value) : OutV (Go.goPanic v) := fun P w m w' h => by simp [go_sem] at h
theorem OutV.rt : OutV (runtimePanic .nilDeref) := OutV.bind fun _ => OutV.goPanic _
/-- An operation that yields a value, or nothing, and calls nobody. -/
def Calm (P : Program) (o : Oper) : Prop := (∀ c, o.op ≠ .defer c) ∧ ∀ (ρ : Operand → Value), (∀ w, o.about P w ρ = none) ∧ OutV (execOp ρ o)

theorem calm_load {P : Program} {dst : Option Tmp} {t ty : TypeId} {a : Operand} {pos : String} {after : Array Edge} {g : Option (Nat × Bool)} : Calm P { dst, op := .load t a, type := ty, pos, after, guard := g } :=
  ⟨fun c h => (by cases h), fun ρ => ⟨fun w => rfl, OutV.bind fun v => OutV.pureV v⟩⟩
theorem calm_move {P : Program} {dst : Option Tmp} {ty : TypeId} {a : Operand} {pos : String} {after : Array Edge} {g : Option (Nat × Bool)} : Calm P { dst, op := .move a, type := ty, pos, after, guard := g } :=
  ⟨fun c h => (by cases h), fun ρ => ⟨fun w => rfl, OutV.pureV _⟩⟩
theorem calm_assign {P : Program} {dst : Option Tmp} {ty : TypeId} {a : Operand} {pos : String} {after : Array Edge} {g : Option (Nat × Bool)} : Calm P { dst, op := .assign a, type := ty, pos, after, guard := g } :=
  ⟨fun c h => (by cases h), fun ρ => ⟨fun w => rfl, OutV.pureV _⟩⟩
theorem calm_fieldAddr {P : Program} {dst : Option Tmp} {t ty : TypeId} {a : Operand} {k : Nat} {pos : String} {after : Array Edge} {g : Option (Nat × Bool)} : Calm P { dst, op := .fieldAddr t a k, type := ty, pos, after, guard := g } :=
  ⟨fun c h => (by cases h), fun ρ => ⟨fun w => rfl, OutV.bind fun v => OutV.pureV v⟩⟩
theorem calm_indexAddr {P : Program} {dst : Option Tmp} {t ty : TypeId} {a b : Operand} {pos : String} {after : Array Edge} {g : Option (Nat × Bool)} : Calm P { dst, op := .indexAddr t a b, type := ty, pos, after, guard := g } :=
  ⟨fun c h => (by cases h), fun ρ => ⟨fun w => rfl, OutV.bind fun v => OutV.pureV v⟩⟩
theorem calm_buildSlice {P : Program} {dst : Option Tmp} {t ty : TypeId} {k : Nat} {ps : Array (Nat × Operand)} {pos : String} {after : Array Edge} {g : Option (Nat × Bool)} : Calm P { dst, op := .buildSlice t k ps, type := ty, pos, after, guard := g } :=
  ⟨fun c h => (by cases h), fun ρ => ⟨fun w => rfl, OutV.bind fun v => OutV.pureV v⟩⟩
theorem calm_store {P : Program} {dst : Option Tmp} {t ty : TypeId} {a x : Operand} {pos : String} {after : Array Edge} {g : Option (Nat × Bool)} : Calm P { dst, op := .store t a x, type := ty, pos, after, guard := g } :=
  ⟨fun c h => (by cases h), fun ρ => ⟨fun w => rfl, OutV.bind fun _ => OutV.pureS⟩⟩
theorem calm_append {P : Program} {dst : Option Tmp} {ty : TypeId} {xs : Array Operand} {ts : Array TypeId} {pos : String} {after : Array Edge} {g : Option (Nat × Bool)} : Calm P { dst, op := .call { callee := .builtin .append, args := xs, argTypes := ts }, type := ty, pos, after, guard := g } :=
  ⟨fun c h => (by cases h), fun ρ => ⟨fun w => rfl, by rw [BigFrame.execOp_builtin, BigFrame.builtin_append]; exact OutV.bind fun v => OutV.pureV v⟩⟩
theorem calm_nilCheck {P : Program} {dst : Option Tmp} {ty : TypeId} {a : Operand} {pos : String} {after : Array Edge} {g : Option (Nat × Bool)} : Calm P { dst, op := .nilCheck a, type := ty, pos, after, guard := g } :=
  ⟨fun c h => (by cases h), fun ρ => ⟨fun w => rfl, by
    unfold execOp
    simp only
    split
    · exact OutV.rt
    · exact OutV.rt
    · exact OutV.rt
    · split
      · exact OutV.rt
      · refine OutV.bind fun p => OutV.bind fun b => ?_
        split
        · exact OutV.bind fun _ => OutV.pureV _
        · exact OutV.pureV _
      · exact OutV.pureV _
    · exact OutV.pureV _⟩⟩

theorem opIn_of {F : Fence} {n : Nat} {P : Program} {o : Oper} {a : Act} {w : World} {K : Act → World → Prop} {Q : Exit → Act → World → Prop} (hc : Calm P o) (h : o.wp P a w K Q) : o.wpIn F n P a w K Q := by
  have hs : o.semAt F.round a.eval = execOp a.eval o := Oper.semAt_eq _ _ _ hc.1
  have hv := (hc.2 a.eval).2 P w
  refine ⟨fun f hf => (by rw [(hc.2 a.eval).1 w] at hf; cases hf), ?_⟩
  rw [hs]
  unfold Oper.wp at h
  generalize (execOp a.eval o).run P w = r at h hv ⊢
  cases r with
  | ok m w' =>
    rcases hv m w' rfl with ⟨v, rfl⟩ | rfl
    · exact h
    · exact h
  | halt x w' => cases x <;> exact h

theorem wpAnyIn_of {F : Fence} {n : Nat} {P : Program} {ops : Array Oper} {Q : Exit → Act → World → Prop} {md : Region.Mode} (hc : ∀ o ∈ ops.toList, Calm P o) (hlo : ¬ LetsOut Q) : ∀ (fuel : Nat) (listed : Array Bool) (a : Act) (w : World), wpAny P md ops Q fuel listed a w → wpAnyIn F n P md ops Q fuel listed a w
  | 0, _, _, _, h => h
  | fuel + 1, listed, a, w, h => ⟨h.1, fun i hi => by
    have h1 := wpOp_mono (fun a' w' h' => wpAnyIn_of (F := F) (n := n) hc hlo fuel (listed.setIfInBounds i true) a' w' h') (h.2 i hi)
    unfold wpOp at h1
    unfold wpOpIn
    cases ho : ops[i]? with
    | none => rw [ho] at h1; exact h1
    | some o =>
      rw [ho] at h1
      simp only at h1 ⊢
      have hco : Calm P o := hc o (Array.mem_toList_iff.2 (Array.mem_of_getElem? ho))
      split
      · rename_i hw
        rw [if_pos hw] at h1
        rcases h1 with h1 | h1
        · exact opIn_of hco h1
        · exact absurd h1.2 hlo
      · rename_i hw
        rw [if_neg hw] at h1
        exact ⟨fun f hf => (by rw [(hco.2 a.eval).1 w] at hf; cases hf), h1⟩⟩

/-- An append of which the run is known, as a step of a region that draws. -/
theorem step_append_run {P : Program} {w w' : World} {ops : Array Oper} {o : Oper} {act : Act} {K : Act → World → Prop} {Q : Exit → Act → World → Prop} {E : Prop} {t ty : TypeId} {v x y : Value} (hgd : o.guard = none) (s r : Operand)
    (ho : o.op = .call { callee := .builtin .append, args := #[s, r], argTypes := #[t, t] }) (hs : act.eval s = x) (hr : act.eval r = y) (hty : o.type = ty) (hrun : (Builtin.append_ #[t, t] ty #[x, y]).run P w = .ok v w')
    (h : K (act.put o.dst v) w') : if Region.wanted o (yielded ops act.tmps) = true then Oper.wp P o act w K Q else E := by
  rw [if_pos (by simp [Region.wanted, hgd])]
  subst hty
  unfold Oper.wp
  simp [execOp, ho, resolve, invoke, builtin, hs, hr, hrun, Result.andThen]
  exact h

/-- **A region that draws, in a fence, by what holds of it without one.** -/
theorem wpIn_region_calm {F : Fence} {n : Nat} {P : Program} {ops : Array Oper} {Q : Exit → Act → World → Prop} {S : World → Prop} {id : Nat} {a : Act} {w : World} (hm : P.follows .mixedOrders = true) (hc : ∀ o ∈ ops.toList, Calm P o) (hlo : ¬ LetsOut Q) (hS : S w.drew)
    (h : S w.drew → wpAnyH P .any ops Q S ops.size (Array.replicate ops.size false) a w.drew) : (Code.region id ops true).wpIn F n P Q a w :=
  wpIn_region_any hm (wpAnyIn_of hc hlo _ _ _ _ (wpAny_of_held _ _ _ _ (h hS)))
end Go.Proofs.Ytgmgoilleakdcaa
