/- Scoreboard: places, spans, holes: the mathematics. -/
import Derived.Test.YtcachmjcninkbaaGBase
namespace Go.Proofs.Ytcachmjcninkbaa

/-- The place of a number, counted from another one. -/
def pl (u x : Nat) : Nat := (x + (4294967296 - u)) % 4294967296
theorem pl_lt (u x : Nat) : pl u x < 4294967296 := Nat.mod_lt _ (by omega)
theorem pl_wrap {u x : Nat} (hu : u < 4294967296) : IntKind.u32.wrap ((x : Int) - (u : Int)) = (pl u x : Int) := by
  rw [IntKind.wrap_u32]; unfold pl; omega
theorem pl_self {u : Nat} (hu : u < 4294967296) : pl u u = 0 := by unfold pl; omega
theorem pl_zero {u x : Nat} (hu : u < 4294967296) (hx : x < 4294967296) (h : pl u x = 0) : x = u := by unfold pl at h; omega
theorem pl_add {u k : Nat} : IntKind.u32.wrap ((u : Int) + (k : Int)) = (((u + k) % 4294967296 : Nat) : Int) := by
  rw [IntKind.wrap_u32]; omega
theorem pl_back {u k : Nat} (hu : u < 4294967296) (hk : k < 4294967296) : pl u ((u + k) % 4294967296) = k := by unfold pl; omega
/-- Spans of blocks. -/
def sps (u : Nat) (bs : List (Nat × Nat)) : List (Nat × Nat) := bs.map fun b => (pl u b.1, pl u b.2)
theorem sps_len (u : Nat) (bs : List (Nat × Nat)) : (sps u bs).length = bs.length := by simp [sps]
/-- Rising, from e on, up to sent; none is empty, none touches another. -/
def okL (sent : Nat) : Nat → List (Nat × Nat) → Bool
  | _, [] => true
  | e, x :: l => decide (e < x.1) && (decide (x.1 < x.2) && (decide (x.2 ≤ sent) && okL sent x.2 l))
def okS (una nxt high : Nat) (bs : List (Nat × Nat)) : Bool := decide (pl una nxt ≤ 1073741824) && (decide (pl una high ≤ pl una nxt) && (decide (bs.length ≤ 1024) && okL (pl una nxt) 0 (sps una bs)))
def chkE (una nxt high : Nat) (bs : List (Nat × Nat)) : Int := if okS una nxt high bs = true then 0 else 171
theorem okL_cons {sent e : Nat} {x : Nat × Nat} {l : List (Nat × Nat)} : okL sent e (x :: l) = true ↔ (e < x.1 ∧ x.1 < x.2 ∧ x.2 ≤ sent ∧ okL sent x.2 l = true) := by simp [okL]
theorem okS_iff {una nxt high : Nat} {bs : List (Nat × Nat)} : okS una nxt high bs = true ↔ (pl una nxt ≤ 1073741824 ∧ pl una high ≤ pl una nxt ∧ bs.length ≤ 1024 ∧ okL (pl una nxt) 0 (sps una bs) = true) := by simp [okS]
/-- The octets of spans. -/
def oct : List (Nat × Nat) → Int
  | [] => 0
  | x :: l => ((x.2 : Int) - (x.1 : Int)) + oct l
theorem oct_snoc (l : List (Nat × Nat)) (x : Nat × Nat) : oct (l ++ [x]) = oct l + ((x.2 : Int) - (x.1 : Int)) := by
  induction l with
  | nil => simp [oct]
  | cons y l ih => simp only [List.cons_append, oct, ih]; omega
theorem oct_ok {sent : Nat} : ∀ (l : List (Nat × Nat)) (e : Nat), okL sent e l = true → e ≤ sent → 0 ≤ oct l ∧ oct l + (e : Int) ≤ (sent : Int)
  | [], e, _, he => ⟨Int.le_refl _, by simp only [oct]; omega⟩
  | x :: l, e, h, he => by
    obtain ⟨h1, h2, h3, h4⟩ := okL_cons.1 h
    have := oct_ok l x.2 h4 h3
    simp only [oct]
    omega
/-- Any spans whose numbers are places. -/
def small (l : List (Nat × Nat)) : Prop := ∀ x ∈ l, x.1 < 4294967296 ∧ x.2 < 4294967296
theorem sps_small (u : Nat) (bs : List (Nat × Nat)) : small (sps u bs) := by
  intro x hx
  obtain ⟨b, _, rfl⟩ := List.mem_map.1 hx
  exact ⟨pl_lt _ _, pl_lt _ _⟩
theorem oct_bd {l : List (Nat × Nat)} (h : small l) : -(4294967296 * (l.length : Int)) ≤ oct l ∧ oct l ≤ 4294967296 * (l.length : Int) := by
  induction l with
  | nil => simp [oct]
  | cons x l ih =>
    have h1 := h x List.mem_cons_self
    have h2 := ih (fun y hy => h y (List.mem_cons_of_mem _ hy))
    simp only [oct, List.length_cons]
    omega
/-- A hole: from, up to, how many blocks begin behind it, how many octets these have. -/
structure Hole where
  l : Nat
  r : Nat
  b : Nat
  o : Int
def hol (sent : Nat) : Nat → List (Nat × Nat) → List Hole
  | e, [] => [⟨e, sent, 0, 0⟩]
  | e, x :: l => ⟨e, x.1, l.length + 1, oct (x :: l)⟩ :: hol sent x.2 l
theorem hol_len (sent : Nat) : ∀ (l : List (Nat × Nat)) (e : Nat), (hol sent e l).length = l.length + 1
  | [], _ => rfl
  | x :: l, e => by simp only [hol, List.length_cons, hol_len sent l]
theorem drop_get {α : Type} {l t : List α} {k : Nat} {x : α} (h : l.drop k = x :: t) : l[k]? = some x ∧ l.drop (k + 1) = t := by
  constructor
  · have := congrArg (fun z => z[0]?) h
    simpa [List.getElem?_drop] using this
  · have := congrArg (List.drop 1) h
    simpa [List.drop_drop] using this
def lostB (mss : Int) (h : Hole) : Bool := decide (3 ≤ (h.b : Int)) || decide (2 * mss < h.o)
def holeV (mss : Int) (high : Nat) (h : Hole) : Int := (if lostB mss h = true then 0 else (h.r : Int) - (h.l : Int)) + max (min (h.r : Int) (high : Int) - (h.l : Int)) 0
def pipeS (mss : Int) (high : Nat) : List Hole → Int
  | [] => 0
  | h :: l => holeV mss high h + pipeS mss high l
theorem pipeS_snoc (mss : Int) (high : Nat) (l : List Hole) (h : Hole) : pipeS mss high (l ++ [h]) = pipeS mss high l + holeV mss high h := by
  induction l with
  | nil => simp [pipeS]
  | cons y l ih => simp only [List.cons_append, pipeS, ih]; omega
/-- Holes of a state that may be: rising, within sent. -/
theorem hol_ok {sent : Nat} : ∀ (l : List (Nat × Nat)) (e : Nat), okL sent e l = true → e ≤ sent → l.length ≤ 1024 → ∀ h ∈ hol sent e l, e ≤ h.l ∧ h.l ≤ h.r ∧ h.r ≤ sent ∧ h.b ≤ 1025 ∧ 0 ≤ h.o ∧ h.o ≤ (sent : Int)
  | [], e, _, he, _, h, hh => by
    simp only [hol, List.mem_singleton] at hh
    subst hh
    exact ⟨Nat.le_refl _, he, Nat.le_refl _, by show (0 : Nat) ≤ 1025; omega, Int.le_refl _, by show (0 : Int) ≤ (sent : Int); omega⟩
  | x :: l, e, hk, he, hl, h, hh => by
    obtain ⟨h1, h2, h3, h4⟩ := okL_cons.1 hk
    simp only [hol, List.mem_cons] at hh
    simp only [List.length_cons] at hl
    rcases hh with rfl | hh
    · have := oct_ok (x :: l) e hk he
      exact ⟨Nat.le_refl _, by show e ≤ x.1; omega, by show x.1 ≤ sent; omega, by show l.length + 1 ≤ 1025; omega, this.1, by show oct (x :: l) ≤ _; omega⟩
    · have := hol_ok l x.2 h4 h3 (by omega) h hh
      exact ⟨by omega, this.2⟩
/-- The pipe of rising holes: at most twice what is on its way. -/
theorem pipe_bd {sent : Nat} (mss : Int) (high : Nat) : ∀ (l : List (Nat × Nat)) (e : Nat), okL sent e l = true → e ≤ sent → 0 ≤ pipeS mss high (hol sent e l) ∧ pipeS mss high (hol sent e l) ≤ 2 * ((sent : Int) - (e : Int))
  | [], e, _, he => by
    simp only [hol, pipeS, holeV]
    split <;> omega
  | x :: l, e, hk, he => by
    obtain ⟨h1, h2, h3, h4⟩ := okL_cons.1 hk
    have := pipe_bd mss high l x.2 h4 h3
    simp only [hol, pipeS, holeV]
    split <;> omega
theorem pipe_none (mss : Int) (sent high : Nat) (hm : 1 ≤ mss) (hh : high ≤ sent) : pipeS mss high (hol sent 0 []) = (sent : Int) + (high : Int) := by
  have hL : lostB mss ⟨0, sent, 0, 0⟩ = false := by simp [lostB]; omega
  simp only [hol, pipeS, holeV, hL]
  simp
  omega
/-- A part of the holes: bounds. -/
theorem pipe_part {sent : Nat} (mss : Int) (high : Nat) (l : List (Nat × Nat)) (hk : okL sent 0 l = true) (hl : l.length ≤ 1024) (hs : sent ≤ 1073741824) (k : Nat) : 0 ≤ pipeS mss high ((hol sent 0 l).take k) ∧ pipeS mss high ((hol sent 0 l).take k) ≤ 2147483648 * 1025 := by
  have hb : ∀ h ∈ hol sent 0 l, 0 ≤ holeV mss high h ∧ holeV mss high h ≤ 2147483648 := by
    intro h hh
    have := hol_ok l 0 hk (Nat.zero_le _) hl h hh
    unfold holeV
    split <;> omega
  have key : ∀ (xs : List Hole), (∀ h ∈ xs, 0 ≤ holeV mss high h ∧ holeV mss high h ≤ 2147483648) → 0 ≤ pipeS mss high xs ∧ pipeS mss high xs ≤ 2147483648 * (xs.length : Int) := by
    intro xs
    induction xs with
    | nil => intro _; simp [pipeS]
    | cons y xs ih =>
      intro h
      have h1 := h y List.mem_cons_self
      have h2 := ih (fun z hz => h z (List.mem_cons_of_mem _ hz))
      simp only [pipeS, List.length_cons]
      omega
  have h3 := key _ (fun h hh => hb h (List.mem_of_mem_take (i := k) hh))
  have h4 : ((hol sent 0 l).take k).length ≤ 1025 := by rw [List.length_take, hol_len]; omega
  omega
end Go.Proofs.Ytcachmjcninkbaa
