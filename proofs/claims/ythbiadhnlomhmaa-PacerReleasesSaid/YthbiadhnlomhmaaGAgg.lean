/- How an argument that is a struct is read: its fields, each of one cell. -/
import Derived.Test.YthbiadhnlomhmaaProg
import Derived.WalkKit
import Derived.Lib.Hide
import Derived.Below
import Derived.ProofKit
import Derived.OpenShut
import Derived.SizedLaws
import Derived.Deep.Fields
import Derived.ChangeArms
namespace Go.Proofs.Ythbiadhnlomhmaa
open Go.ChangeShapes Go.WideShapes Go.ChangeAt Go.RowKit Go.Deep

section
variable {H : Type} {enc : TypeId × Value → H} {P : Program} {w : World} {base : Nat} {spare : Nat → Bool} {held : Bool}

/-- A struct of fields of one cell each, by value, opened: its cells, and how each reads. -/
theorem open_agg {r : Reach} {b0 : Nat} {t : TypeId} {fs : Array Field} {v : Value} {d : DataW H} {p : List MemPlace} (hs : P.underlying t = some (.struct fs)) (hone : oneCellFields P fs = true) (hC : P.cellsOf t = fs.size)
    (hv : Value.okWide P w r b0 t v) (h : DataW.Trod enc P w base spare held t v d p) :
    ∃ (vs : List Value) (ys : List (DataW H × List MemPlace)) (n : Nat), v = .agg vs.toArray ∧ vs.length = fs.size ∧ ys.length = fs.size ∧ d = .agg (ys.map (·.1)) ∧
      ∀ (i : Nat) (f : Field), fs[i]? = some f → ∃ c y, vs[i]? = some c ∧ ys[i]? = some y ∧ DataW.trod enc P w base spare held n f.type [c] = some y := by
  obtain ⟨cs, rfl, hsz⟩ := okWide_struct hs hv
  obtain ⟨fuel, hf⟩ := h
  obtain ⟨xs, n, _, hx, hl, hlen, hfl⟩ := DataW.trod_struct hs hf
  simp only [Prod.mk.injEq] at hx
  refine ⟨cs.toList, xs, n, by simp, by rw [Array.length_toList, hsz, hC], hlen, hx.1, fun i f hi => ?_⟩
  obtain ⟨o, k⟩ := hone_of hone i f hi
  have hlt : i < fs.size := (Array.getElem?_eq_some_iff.1 hi).1
  have h1 : i < cs.toList.length := by rw [Array.length_toList, hsz, hC]; exact hlt
  have h2 : i < xs.length := by omega
  refine ⟨cs.toList[i], xs[i], by rw [List.getElem?_eq_getElem h1], by rw [List.getElem?_eq_getElem h2], ?_⟩
  have h3 := hfl i f hi
  rw [o, k, List.getElem?_eq_getElem h2] at h3
  rw [← h3]
  congr 1
  show [cs.toList[i]] = ((Value.agg cs).cells.toList.drop i).take 1
  have e : (Value.agg cs).cells = cs := rfl
  rw [e, List.drop_eq_getElem_cons h1]
  rfl

/-- What a field of an argument weighs is within the reach. -/
theorem sized_field {ts : List TypeId} {ds : List (DataW H)} (h : (DataW.weightsEach P ts ds).all (· ≤ reachBytes) = true) {j i : Nat} {t : TypeId} {fs : Array Field} {f : Field} {parts : List (DataW H)} {d : DataW H}
    (ht : ts[j]? = some t) (hd : ds[j]? = some (.agg parts)) (hu : P.underlying t = some (.struct fs)) (hf : fs[i]? = some f) (hp : parts[i]? = some d) : ∀ n ∈ d.weights P f.type, n ≤ reachBytes := by
  intro n hn
  have hm : n ∈ (DataW.agg parts).weights P t := by
    simp only [DataW.weights, hu]
    exact DataW.weights_mem_each (j := i) (t := f.type) (by simpa using congrArg (Option.map Field.type) hf) hp n hn
  have := List.all_eq_true.1 h _ (DataW.weights_mem_each ht hd n hm)
  simpa using this
end

end Go.Proofs.Ythbiadhnlomhmaa
