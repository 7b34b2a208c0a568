/- Plain facts on routes: the first bits of an address; a list of routes, and what is found in it. -/
import Derived.Test.YtinlacdngojlaaaGStep10
namespace Go.Proofs.Ytinlacdngojlaaa.Rt

/-- The first bits of an address. -/
def pre (x b : Nat) : Nat := x / 2 ^ (32 - b) * 2 ^ (32 - b)

theorem and_pre (x k : Nat) (hx : x < 4294967296) (hk : k ≤ 32) : x &&& (4294967296 - 2 ^ k) = x / 2 ^ k * 2 ^ k := by
  have e : 4294967296 - 2 ^ k = (2 ^ (32 - k) - 1) * 2 ^ k := by
    rw [Nat.sub_mul, ← Nat.pow_add, Nat.sub_add_cancel hk, Nat.one_mul]
  rw [e]
  apply Nat.eq_of_testBit_eq
  intro i
  rw [Nat.testBit_and, Nat.testBit_mul_two_pow, Nat.testBit_mul_two_pow, Nat.testBit_two_pow_sub_one]
  by_cases hi : k ≤ i
  · rw [Nat.testBit_div_two_pow]
    have e2 : i - k + k = i := by omega
    simp only [hi, decide_true, Bool.true_and, e2]
    by_cases h32 : i < 32
    · simp [show i - k < 32 - k by omega]
    · have hp : 2 ^ 32 ≤ 2 ^ i := Nat.pow_le_pow_right (by decide) (by omega)
      have : x.testBit i = false := Nat.testBit_lt_two_pow (Nat.lt_of_lt_of_le hx hp)
      simp [this]
  · simp [hi]

theorem pow_le32 (k : Nat) (hk : k ≤ 32) : 1 ≤ 2 ^ k ∧ 2 ^ k ≤ 4294967296 :=
  ⟨Nat.pow_pos (by omega), Nat.le_trans (Nat.pow_le_pow_right (by omega) hk) (Nat.le_refl _)⟩

theorem pre_le (x b : Nat) : pre x b ≤ x := Nat.div_mul_le_self _ _

/-- The gateway of a net, by a list. -/
def rlook (l : List Route10) (n : Nat) (b : Int) : Option Nat := (l.find? fun r => r.net == n && r.bits == b).map (·.gw)

theorem rlook_nil (n : Nat) (b : Int) : rlook [] n b = none := rfl

theorem rlook_snoc (l : List Route10) (r : Route10) (h : rlook l r.net r.bits = none) (n : Nat) (b : Int) : rlook (l ++ [r]) n b = if n = r.net ∧ b = r.bits then some r.gw else rlook l n b := by
  unfold rlook at h ⊢
  rw [List.find?_append]
  split
  · rename_i hc
    obtain ⟨rfl, rfl⟩ := hc
    rw [Option.map_eq_none_iff] at h
    rw [h]
    simp
  · rename_i hc
    have : (r.net == n && r.bits == b) = false := by
      rw [Bool.and_eq_false_iff]
      by_cases h1 : n = r.net
      · right
        have h2 : ¬ b = r.bits := fun e => hc ⟨h1, e⟩
        simpa using fun e => h2 e.symm
      · left
        simpa using fun e => h1 e.symm
    simp [this]

theorem rlook_mem {l : List Route10} {n g : Nat} {b : Int} (h : rlook l n b = some g) : ∃ r ∈ l, r.net = n ∧ r.bits = b ∧ r.gw = g := by
  unfold rlook at h
  rw [Option.map_eq_some_iff] at h
  obtain ⟨r, hr, rfl⟩ := h
  have h1 := List.find?_some hr
  simp only [Bool.and_eq_true, beq_iff_eq] at h1
  exact ⟨r, List.mem_of_find?_eq_some hr, h1.1, h1.2, rfl⟩

theorem rlook_none {l : List Route10} {n : Nat} {b : Int} (h : ∀ r ∈ l, ¬ (r.net = n ∧ r.bits = b)) : rlook l n b = none := by
  unfold rlook
  rw [Option.map_eq_none_iff, List.find?_eq_none]
  intro r hr
  have := h r hr
  simp only [Bool.and_eq_true, beq_iff_eq]
  exact this

/-- Routes that may stand in one table. -/
def RGood (l : List Route10) : Prop := ∀ r ∈ l, r.net < 4294967296 ∧ (0 ≤ r.bits ∧ r.bits ≤ 32) ∧ r.gw < 4294967296 ∧ rlook l r.net r.bits = some r.gw

theorem rgood_nil : RGood [] := fun r h => by cases h

theorem rgood_snoc {l : List Route10} (h : RGood l) {r : Route10} (h1 : r.net < 4294967296) (h2 : 0 ≤ r.bits ∧ r.bits ≤ 32) (h3 : r.gw < 4294967296) (h4 : rlook l r.net r.bits = none) : RGood (l ++ [r]) := by
  intro x hx
  rcases List.mem_append.1 hx with hx | hx
  · obtain ⟨a1, a2, a3, a4⟩ := h x hx
    refine ⟨a1, a2, a3, ?_⟩
    rw [rlook_snoc l r h4, if_neg]
    · exact a4
    · rintro ⟨e1, e2⟩
      rw [e1, e2, h4] at a4
      cases a4
  · obtain rfl := List.mem_singleton.1 hx
    exact ⟨h1, h2, h3, by rw [rlook_snoc l x h4, if_pos ⟨rfl, rfl⟩]⟩

/-- What adding a route answers. -/
def addE (l : List Route10) (r : Route10) : Nat :=
  if r.bits < 0 ∨ 32 < r.bits then 4 else if pre r.net r.bits.toNat ≠ r.net then 1 else if rlook l r.net r.bits ≠ none then 6 else if 256 ≤ l.length then 81 else 0
/-- The routes behind it. -/
def addL (l : List Route10) (r : Route10) : List Route10 := if addE l r = 0 then l ++ [r] else l

theorem addE_zero {l : List Route10} {r : Route10} : addE l r = 0 ↔ (0 ≤ r.bits ∧ r.bits ≤ 32) ∧ pre r.net r.bits.toNat = r.net ∧ rlook l r.net r.bits = none ∧ l.length < 256 := by
  unfold addE
  by_cases h1 : r.bits < 0 ∨ 32 < r.bits
  · rw [if_pos h1]
    constructor
    · intro h; omega
    · rintro ⟨h, _⟩; omega
  · rw [if_neg h1]
    by_cases h2 : pre r.net r.bits.toNat = r.net
    · rw [if_neg (by simpa using h2)]
      by_cases h3 : rlook l r.net r.bits = none
      · rw [if_neg (by simpa using h3)]
        by_cases h4 : 256 ≤ l.length
        · rw [if_pos h4]
          constructor
          · intro h; omega
          · rintro ⟨_, _, _, h⟩; omega
        · rw [if_neg h4]
          exact ⟨fun _ => ⟨by omega, h2, h3, by omega⟩, fun _ => rfl⟩
      · rw [if_pos (by simpa using h3)]
        constructor
        · intro h; omega
        · rintro ⟨_, _, h, _⟩; exact absurd h h3
    · rw [if_pos (by simpa using h2)]
      constructor
      · intro h; omega
      · rintro ⟨_, h, _⟩; exact absurd h h2

theorem rgood_add {l : List Route10} (h : RGood l) {r : Route10} (h1 : r.net < 4294967296) (h3 : r.gw < 4294967296) : RGood (addL l r) := by
  unfold addL
  by_cases e : addE l r = 0
  · rw [if_pos e]
    obtain ⟨a, b, c, d⟩ := addE_zero.1 e
    exact rgood_snoc h h1 a h3 c
  · rw [if_neg e]; exact h

theorem addL_length (l : List Route10) (r : Route10) : (addL l r).length ≤ l.length + 1 := by
  unfold addL; split <;> simp

/-- The gateway by the narrowest net of fewer than k bits. -/
def nextAt (l : List Route10) (ip : Nat) : Nat → Option Nat
  | 0 => none
  | k + 1 => match rlook l (pre ip k) k with
    | some g => some g
    | none => nextAt l ip k

theorem nextAt_none (l : List Route10) (ip : Nat) (h : ∀ r ∈ l, ¬ (pre ip r.bits.toNat = r.net)) : ∀ k, nextAt l ip k = none
  | 0 => rfl
  | k + 1 => by
    have : rlook l (pre ip k) k = none := rlook_none fun r hr => by
      rintro ⟨e1, e2⟩
      exact h r hr (by rw [e2, e1]; rfl)
    unfold nextAt
    rw [this]
    exact nextAt_none l ip h k

theorem nextAt_best {l : List Route10} (hg : RGood l) (ip : Nat) (r : Route10) (hr : r ∈ l) (hp : pre ip r.bits.toNat = r.net) (hb : ∀ x ∈ l, pre ip x.bits.toNat = x.net → x.bits ≤ r.bits) : ∀ k : Nat, r.bits < k → nextAt l ip k = some r.gw
  | 0, h => by have := (hg r hr).2.1; omega
  | k + 1, h => by
    obtain ⟨_, hb2, _, hl⟩ := hg r hr
    by_cases e : r.bits = k
    · have e2 : rlook l (pre ip k) k = some r.gw := by
        have : r.bits.toNat = k := by omega
        rw [this] at hp
        rw [hp, ← e]; exact hl
      unfold nextAt
      rw [e2]
    · have : rlook l (pre ip k) k = none := rlook_none fun x hx => by
        rintro ⟨e1, e2⟩
        have := hb x hx (by rw [e2, e1]; rfl)
        omega
      unfold nextAt
      rw [this]
      exact nextAt_best hg ip r hr hp hb k (by omega)

/-- The longest one so far. -/
def Best (l : List Route10) (ip : Nat) (best : Int) (way : Nat) (any : Bool) : Prop :=
  (any = false ∧ best = -1 ∧ way = 0 ∧ ∀ r ∈ l, ¬ (pre ip r.bits.toNat = r.net)) ∨
  (any = true ∧ ∃ r ∈ l, pre ip r.bits.toNat = r.net ∧ best = r.bits ∧ way = (if r.gw = 0 then ip else r.gw) ∧ ∀ x ∈ l, pre ip x.bits.toNat = x.net → x.bits ≤ r.bits)

theorem best_nil (ip : Nat) : Best [] ip (-1) 0 false := .inl ⟨rfl, rfl, rfl, fun r h => by cases h⟩

theorem best_bounds {l : List Route10} (hg : RGood l) {ip : Nat} {best : Int} {way : Nat} {any : Bool} (h : Best l ip best way any) : -1 ≤ best ∧ best ≤ 32 := by
  rcases h with ⟨_, rfl, _⟩ | ⟨_, r, hr, _, rfl, _⟩
  · omega
  · have := (hg r hr).2.1; omega

theorem best_skip {l : List Route10} {ip : Nat} {best : Int} {way : Nat} {any : Bool} (h : Best l ip best way any) (r : Route10) (hr : 0 ≤ r.bits) (hn : ¬ (pre ip r.bits.toNat = r.net ∧ best < r.bits)) : Best (l ++ [r]) ip best way any := by
  rcases h with ⟨h1, rfl, h2, h3⟩ | ⟨h1, x, hx, h2, rfl, h4, h5⟩
  · refine .inl ⟨h1, rfl, h2, fun y hy => ?_⟩
    rcases List.mem_append.1 hy with hy | hy
    · exact h3 y hy
    · obtain rfl := List.mem_singleton.1 hy
      exact fun e => hn ⟨e, by omega⟩
  · refine .inr ⟨h1, x, List.mem_append_left _ hx, h2, rfl, h4, fun y hy hp => ?_⟩
    rcases List.mem_append.1 hy with hy | hy
    · exact h5 y hy hp
    · obtain rfl := List.mem_singleton.1 hy
      have : ¬ x.bits < y.bits := fun e => hn ⟨hp, e⟩
      omega

theorem best_take {l : List Route10} {ip : Nat} {best : Int} {way : Nat} {any : Bool} (h : Best l ip best way any) (r : Route10) (hp : pre ip r.bits.toNat = r.net) (hb : best < r.bits) : Best (l ++ [r]) ip r.bits (if r.gw = 0 then ip else r.gw) true := by
  refine .inr ⟨rfl, r, by simp, hp, rfl, rfl, fun y hy hq => ?_⟩
  rcases List.mem_append.1 hy with hy | hy
  · rcases h with ⟨_, _, _, h3⟩ | ⟨_, x, hx, _, rfl, _, h5⟩
    · exact absurd hq (h3 y hy)
    · have := h5 y hy hq; omega
  · obtain rfl := List.mem_singleton.1 hy; omega

/-- What asking the way answers, of a gateway. -/
def wayOf (ip : Nat) : Option Nat → Nat
  | none => 0
  | some g => if g = 0 then ip else g
def errOf : Option Nat → Nat
  | none => 101
  | some _ => 0

theorem best_next {l : List Route10} (hg : RGood l) {ip : Nat} {best : Int} {way : Nat} {any : Bool} (h : Best l ip best way any) : (any = false ∧ errOf (nextAt l ip 33) = 101 ∧ wayOf ip (nextAt l ip 33) = 0) ∨ (any = true ∧ errOf (nextAt l ip 33) = 0 ∧ wayOf ip (nextAt l ip 33) = way) := by
  rcases h with ⟨h1, _, _, h3⟩ | ⟨h1, r, hr, h2, _, h4, h5⟩
  · left; rw [nextAt_none l ip h3]; exact ⟨h1, rfl, rfl⟩
  · right; rw [nextAt_best hg ip r hr h2 h5 33 (by have := (hg r hr).2.1; omega)]
    exact ⟨h1, rfl, h4.symm⟩
end Go.Proofs.Ytinlacdngojlaaa.Rt
