/- How an argument that is a struct is read: its fields, each of one cell; a list of octets among them; their bounds. -/
import Derived.Test.YtokfadlgiimaoaaGFrame
import Derived.Test.YtokfadlgiimaoaaGAgg
import Derived.Deep.Fields
import Derived.ChangeArms
namespace Go.Proofs.Ytokfadlgiimaoaa
open Go.ChangeShapes Go.WideShapes Go.ChangeAt Go.RowKit Go.Deep

/-- A list of octets in a field: its octets; what it reads as. -/
theorem open_bytes {H : Type} {enc : TypeId × Value → H} {W : World} {base fuel : Nat} {held : Bool} {c : Value} {y : DataW H × List MemPlace} (h : DataW.trod enc Try.prog W base (fun _ => true) held fuel 22 [c] = some y) :
    ∃ (a : Option Addr) (xs : List Nat) (cap : Nat), c = .slice a xs.length cap ∧ Bts W a xs ∧ (a = none → cap = 0) ∧ (xs.length ≤ cap ∧ cap ≤ maxLen) ∧
      ((y.1 = .nil ∧ xs = []) ∨ ∃ zs ws : List Int, y.1 = .slice (lits .u8 zs) (lits .u8 ws) ∧ xs.length = zs.length) := by
  rcases open_ints Try.underlying22 Try.underlying5 (by kernel_rfl) h with ⟨hcs, hy⟩ | ⟨x, l, cap, zs, hcs, _, hl, hm, hz, hd, hcell, hwz⟩
  · simp only [List.cons.injEq, and_true] at hcs
    subst hcs
    exact ⟨none, [], 0, rfl, ⟨(fun x h => by cases h), .inl rfl⟩, fun _ => rfl, ⟨Nat.le_refl _, Nat.zero_le _⟩, .inl ⟨by rw [hy], rfl⟩⟩
  · simp only [List.cons.injEq, and_true] at hcs
    subst hcs
    have hz' : zs.length = cap := by simpa using hz
    obtain ⟨xs, h1, h2⟩ := bts_of_ints hl hz' hcell hwz
    subst h1
    exact ⟨some x, xs, cap, rfl, h2, (fun h => by cases h), ⟨hl, hm⟩, .inr ⟨zs.take xs.length, zs.drop xs.length, by rw [hd], by rw [List.length_take]; omega⟩⟩

/-- Its bound. -/
theorem bytes_reach {H : Type} {d : DataW H} {xs : List Nat} (h : (d = .nil ∧ xs = []) ∨ ∃ zs ws : List Int, d = .slice (lits .u8 zs) (lits .u8 ws) ∧ xs.length = zs.length) (hw : ∀ n ∈ d.weights Try.prog 22, n ≤ reachBytes) : xs.length ≤ 140737488351232 := by
  rcases h with ⟨_, rfl⟩ | ⟨zs, ws, rfl, hl⟩
  · simp
  · have := hw ((zs.length + ws.length) * Try.prog.bytesOf 5) (by simp [DataW.weights, Try.underlying22, lits])
    rw [bytes5] at this
    simp only [reachBytes] at this
    omega

end Go.Proofs.Ytokfadlgiimaoaa
