/- A list of ints in a field of a struct that is handed in. -/
import Derived.Test.YtokfadlgiimaoaaGInts
import Derived.Test.YtokfadlgiimaoaaRgS
import Derived.Test.YtokfadlgiimaoaaGAgg
import Derived.ProofKit
import Derived.OpenShut
import Derived.ChangeOld
import Derived.SizedLaws
namespace Go.Proofs.Ytokfadlgiimaoaa
open Go.ChangeShapes Go.WideShapes Go.ChangeAt Go.RowKit Go.Deep

/-- A list of ints in a field: its ints; what it reads as. -/
theorem open_intsF {H : Type} {enc : TypeId × Value → H} {W : World} {base fuel : Nat} {held : Bool} {c : Value} {y : DataW H × List MemPlace} (h : DataW.trod enc Try.prog W base (fun _ => true) held fuel 23 [c] = some y) :
    ∃ (a : Option Addr) (ts : List Int) (cap : Nat), c = .slice a ts.length cap ∧ Its W a ts ∧ (a = none → cap = 0) ∧ (ts.length ≤ cap ∧ cap ≤ maxLen) ∧
      ((y.1 = .nil ∧ ts = []) ∨ ∃ zs ws : List Int, y.1 = .slice (lits .i64 zs) (lits .i64 ws) ∧ ts.length = zs.length) := by
  rcases open_ints Try.underlying23 Try.underlying3 (by kernel_rfl) h with ⟨hcs, hy⟩ | ⟨x, l, cap, zs, hcs, _, hl, hm, hz, hd, hcell, hwz⟩
  · simp only [List.cons.injEq, and_true] at hcs
    subst hcs
    exact ⟨none, [], 0, rfl, ⟨(fun x h => by cases h), .inl rfl⟩, fun _ => rfl, ⟨Nat.le_refl _, Nat.zero_le _⟩, .inl ⟨by rw [hy], rfl⟩⟩
  · simp only [List.cons.injEq, and_true] at hcs
    subst hcs
    have hz' : zs.length = cap := by simpa using hz
    obtain ⟨ts, h1, h2⟩ := its_of_ints hl hz' hcell hwz
    subst h1
    exact ⟨some x, ts, cap, rfl, h2, (fun h => by cases h), ⟨hl, hm⟩, .inr ⟨zs.take ts.length, zs.drop ts.length, by rw [hd], by rw [List.length_take]; omega⟩⟩

/-- Its bound. -/
theorem ints_reach {H : Type} {d : DataW H} {ts : List Int} (h : (d = .nil ∧ ts = []) ∨ ∃ zs ws : List Int, d = .slice (lits .i64 zs) (lits .i64 ws) ∧ ts.length = zs.length) (hw : ∀ n ∈ d.weights Try.prog 23, n ≤ reachBytes) : ts.length ≤ 17592186043904 := by
  rcases h with ⟨_, rfl⟩ | ⟨zs, ws, rfl, hl⟩
  · simp
  · have := hw ((zs.length + ws.length) * Try.prog.bytesOf 3) (by simp [DataW.weights, Try.underlying23, lits])
    rw [show Try.prog.bytesOf 3 = 8 from by kernel_rfl] at this
    simp only [reachBytes] at this
    omega
end Go.Proofs.Ytokfadlgiimaoaa
