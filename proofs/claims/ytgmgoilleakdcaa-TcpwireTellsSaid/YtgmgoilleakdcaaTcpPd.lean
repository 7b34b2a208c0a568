/- What the options of a segment say: as lists; 'set' of any option. -/
import Derived.Test.YtgmgoilleakdcaaTcpSk
import Derived.Maps.OwnOps
import Derived.Maps.Views
import Derived.Maps.OwnSet
namespace Go.Proofs.Ytgmgoilleakdcaa
open Go.RowKit Go.Maps

/-- What the options say. -/
structure TOpt where
  mss : Nat
  hs : Bool
  sc : Nat
  sk : Bool
  bs : List (Nat × Nat)
  ht : Bool
  tv : Nat
  te : Nat

def tOpt0 : TOpt := ⟨0, false, 0, false, [], false, 0, 0⟩

/-- The blocks in an option's body. -/
def blkOf (ys : List Nat) : List (Nat × Nat) := (tbL ys (ys.length / 8)).map (·.1)

/-- What an option of that kind says. -/
def setO (s : TOpt) (k : Nat) (ys : List Nat) : TOpt :=
  if k = 2 then { s with mss := Mt.numOf ys } else if k = 3 then { s with hs := true, sc := ys.getD 0 0 } else if k = 4 then { s with sk := true }
  else if k = 8 then { s with ht := true, tv := Mt.numOf (seg ys 0 4), te := Mt.numOf (seg ys 4 4) } else if k = 5 then { s with bs := s.bs ++ blkOf ys } else s

/-- The fields of a segment that is being read. -/
def pC (sp dp sq ak fl wn ur : Nat) (d v : Value) (s : TOpt) : Array Value :=
  #[.int .u16 sp, .int .u16 dp, .int .u32 sq, .int .u32 ak, .int .u8 fl, .int .u16 wn, .int .u16 ur, .int .i64 s.mss, .bool s.hs, .int .i64 s.sc, .bool s.sk, v, .bool s.ht, .int .u32 s.tv, .int .u32 s.te, d]

theorem ownsRow_base {W : World} {B B' size k : Nat} {t : TypeId} {v : Value} {xs : List Value} (h : W.ownsRow B t size v k xs) (hB : B' ≤ B) : W.ownsRow B' t size v k xs := by
  refine ⟨h.1, ?_⟩
  rcases h.2 with h0 | ⟨g, cap, cur, e, h1, h2⟩
  · exact .inl h0
  · exact .inr ⟨g, cap, cur, e, Nat.le_trans hB h1, h2⟩

theorem set_any (B n₀ gs k sp dp sq ak fl wn ur : Nat) (d v : Value) (s : TOpt) (a : Option Addr) (ys : List Nat) (c : Nat) (W : World) (hg : TcpAt W gs (pC sp dp sq ak fl wn ur d v s)) (hr : W.ownsRow B 68 2 v s.bs.length (blkCells s.bs)) (hB : B ≤ W.heap.size)
    (h5 : k = 5 → s.bs = [] ∧ v = .slice none 0 0) (hx : ∀ W', Below n₀ W W' → Bts W' a ys) (hgs : n₀ ≤ gs) (ha : 0 < ys.length → ∀ p, a = some p → p.block ≠ gs) (hk : k < 256) (hf : tcpFits k (ys.length + 2) = true) (hc : ys.length ≤ c) :
    Calls Try.prog 33 #[.pointer (some ⟨gs, 0, none⟩), .int .u8 k, .slice a ys.length c] W fun e w' => e = .returned (.tuple #[]) ∧ ∃ v', TcpAt w' gs (pC sp dp sq ak fl wn ur d v' (setO s k ys)) ∧ w'.ownsRow B 68 2 v' (setO s k ys).bs.length (blkCells (setO s k ys).bs) ∧ W.grownBy w' (some gs) ∧ (k ≠ 5 → v' = v ∧ (setO s k ys).bs = s.bs) := by
  have hs : (pC sp dp sq ak fl wn ur d v s).size = 16 := rfl
  have hx0 := hx W (Below.refl _ _)
  have keep : ∀ w', W.grownBy w' (some gs) → w'.ownsRow B 68 2 v s.bs.length (blkCells s.bs) := fun w' h => hr.kept h (.inr (tcp_not_row hg hr).symm)
  by_cases k2 : k = 2
  · subst k2
    have hl : ys.length = 2 := by simp [tcpFits] at hf; exact hf
    refine (set_mss gs _ a ys c W hg hs hx0 hl).mono ?_
    rintro e w' ⟨rfl, h1, h2⟩
    exact ⟨rfl, v, h1, keep w' h2, h2, fun _ => ⟨rfl, rfl⟩⟩
  · by_cases k3 : k = 3
    · subst k3
      have hl : ys.length = 1 := by simp [tcpFits] at hf; exact hf
      refine (set_scale gs _ a ys c W hg hs hx0 hl (ha (by omega))).mono ?_
      rintro e w' ⟨rfl, h1, h2⟩
      exact ⟨rfl, v, h1, keep w' h2, h2, fun _ => ⟨rfl, rfl⟩⟩
    · by_cases k4 : k = 4
      · subst k4
        have hl : ys.length = 0 := by simp [tcpFits] at hf; rw [hf]; rfl
        refine (set_sok gs _ a ys c W hg hs hx0 hl).mono ?_
        rintro e w' ⟨rfl, h1, h2⟩
        exact ⟨rfl, v, h1, keep w' h2, h2, fun _ => ⟨rfl, rfl⟩⟩
      · by_cases k8 : k = 8
        · subst k8
          have hl : ys.length = 8 := by simp [tcpFits] at hf; exact hf
          refine (set_ts gs _ a ys c W hg hs hx0 hl (by omega) (ha (by omega))).mono ?_
          rintro e w' ⟨rfl, h1, h2⟩
          exact ⟨rfl, v, h1, keep w' h2, h2, fun _ => ⟨rfl, rfl⟩⟩
        · by_cases k5 : k = 5
          · subst k5
            obtain ⟨hb0, rfl⟩ := h5 rfl
            have hl : ys.length = 8 ∨ ys.length = 16 ∨ ys.length = 24 ∨ ys.length = 32 := by
              simp [tcpFits] at hf; omega
            obtain ⟨n, hn, hn4, hnl⟩ : ∃ n, ys.length = 8 * n ∧ n ≤ 4 ∧ ys.length / 8 = n := ⟨ys.length / 8, by omega, by omega, rfl⟩
            refine (set_sacks n₀ gs n _ a ys c W hg hs rfl hx hn hn4 hc hgs).mono ?_
            rintro e w' ⟨rfl, v', h1, h2, h3⟩
            have hbs : (setO s 5 ys).bs = (tbL ys n).map (·.1) := by
              show s.bs ++ blkOf ys = _
              rw [hb0, List.nil_append, blkOf, hnl]
            refine ⟨rfl, v', h1, ?_, h3, fun h => absurd rfl h⟩
            rw [hbs, List.length_map, tbL_length]
            exact ownsRow_base h2 hB
          · have e : setO s k ys = s := by unfold setO; rw [if_neg k2, if_neg k3, if_neg k4, if_neg k8, if_neg k5]
            refine (set_other gs k _ a ys.length c W hg ⟨k2, k3, k4, k8, k5⟩).mono ?_
            rintro e' w' ⟨rfl, h1, h2⟩
            rw [e]
            exact ⟨rfl, v, h1, keep w' h2, h2, fun _ => ⟨rfl, rfl⟩⟩
end Go.Proofs.Ytgmgoilleakdcaa
