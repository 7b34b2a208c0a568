/- Scoreboard: together of a list of one's own. -/
import Derived.Test.YtcachmjcninkbaaScSq
import Derived.Test.YtcachmjcninkbaaScNo
namespace Go.Proofs.Ytcachmjcninkbaa
open Go.RowKit
theorem small_perm {l m : List (Nat × Nat)} (h : m.Perm l) (hs : small l) : small m := fun x hx => hs x (h.mem_iff.1 hx)
theorem together_any (B : Nat) (a : Option Addr) (l : List (Nat × Nat)) (cap : Nat) (w : World) (h : OwnR 76 2 SC B a l cap w) (hv : small l) (hl : l.length ≤ 4398046511104) (hBw : B ≤ w.heap.size) :
    Calls Try.prog 52 #[.slice a l.length cap] w fun e w' => ∃ sl, sl.Perm l ∧ rising sl ∧ (∃ a' c', e = .returned (.slice a' (tog sl).length c') ∧ OwnR 76 2 SC w.heap.size a' (tog sl) c' w') ∧ Below B w w' := by
  cases a with
  | none =>
    have h0 : l = [] := by
      rcases h with ⟨_, h, _⟩ | ⟨g, e, _⟩
      · exact h
      · cases e
    have hc := h.nilcap rfl
    subst h0 hc
    have hS := sort_nil (.func (.func 58) #[] #[]) w
    refine (together_of B none [] [] 0 w rfl (fun x hx => by cases hx) hl hBw (hS.mono ?_)).mono ?_
    · rintro e w' ⟨rfl, rfl⟩
      exact ⟨rfl, h, Below.refl _ _⟩
    · rintro e w' ⟨h1, h2⟩
      exact ⟨[], .refl _, List.Pairwise.nil, h1, h2⟩
  | some ad =>
    obtain ⟨g, rfl, hBg, hg⟩ : ∃ g, ad = ⟨g, 0, none⟩ ∧ B ≤ g ∧ g < w.heap.size := by
      rcases h with ⟨e, _⟩ | ⟨g, e, hB, hr⟩
      · cases e
      · cases e; exact ⟨g, rfl, hB, (hr.lt g rfl).2⟩
    obtain ⟨sl, hp, hr, hS⟩ := sort_sp B g l cap w h hl hBg hg
    refine (together_of B _ l sl cap w hp.length_eq (small_perm hp hv) hl hBw hS).mono ?_
    rintro e w' ⟨h1, h2⟩
    exact ⟨sl, hp, hr, h1, h2⟩
end Go.Proofs.Ytcachmjcninkbaa
