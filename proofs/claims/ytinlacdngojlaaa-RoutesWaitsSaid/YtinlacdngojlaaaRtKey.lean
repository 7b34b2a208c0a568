/- Routes: the key of a net, and what a table's map holds. -/
import Derived.Test.YtinlacdngojlaaaRtMath
import Derived.Maps.OwnSet
import Derived.Maps.Views
import Derived.DeepKeys4
namespace Go.Proofs.Ytinlacdngojlaaa
open Go.RowKit Go.Maps Go.Proofs.Ytinlacdngojlaaa.Rt

theorem rt_laid : laidOutB Try.prog = true := by kernel_rfl
theorem rt_wide : (match Try.prog.underlying 67 with | some (.array _ _) | some (.struct _) => true | _ => false) = true := by rw [Try.underlying67]
theorem rt_law : Keyed Try.prog 67 := Keyed.of_law (deep_law_laid rt_laid (m := 3) (by omega) (of_decide_eq_true (by kernel_rfl)) (by kernel_rfl) rt_wide)

/-- The key of a net. -/
def rtKey (n : Nat) (b : Int) : Lit := .string (keyBytes [.int .u32 (n : Nat), .int .i64 b])

theorem rt_key (n : Nat) (b : Int) (hn : n < 4294967296) (h1 : -9223372036854775808 ≤ b) (h2 : b ≤ 9223372036854775807) : keyOf Try.prog 67 (.agg #[.int .u32 (n : Nat), .int .i64 b]) = some (rtKey n b) := by
  have wa : (Lit.int .u32 (n : Int)).wf = true := by simp [Lit.wf, IntKind.min, IntKind.max, IntKind.signed, IntKind.bits]; omega
  have wb : (Lit.int .i64 b).wf = true := by simp [Lit.wf, IntKind.min, IntKind.max, IntKind.signed, IntKind.bits]; omega
  have hkt : Try.prog.keyType 67 = true := by kernel_rfl
  have hc : Try.prog.cellsOf 67 = 2 := by kernel_rfl
  have c1 : Try.prog.cellsOf 29 = 1 := by kernel_rfl
  have c2 : Try.prog.cellsOf 3 = 1 := by kernel_rfl
  have hsz : ∃ m, Try.prog.types.size = m + 1 := ⟨Try.prog.types.size - 1, by have : 0 < Try.prog.types.size := of_decide_eq_true (by kernel_rfl); omega⟩
  obtain ⟨m, hm⟩ := hsz
  unfold keyOf
  simp only [Try.underlying67]
  rw [if_pos (by simp [hkt, Value.formed, Try.underlying67, hc]), hm]
  unfold Program.keyLits
  simp only [Try.underlying67, Value.cells]
  rw [if_pos ⟨by rw [hc]; rfl, by kernel_rfl⟩]
  simp [c1, c2, Program.keyLits, Try.underlying29, Try.underlying3, wa, wb, rtKey]

theorem rtKey_inj {n n' : Nat} {b b' : Int} (hn : n < 4294967296) (h1 : -9223372036854775808 ≤ b) (h2 : b ≤ 9223372036854775807) (hn' : n' < 4294967296) (h1' : -9223372036854775808 ≤ b') (h2' : b' ≤ 9223372036854775807) (h : rtKey n b = rtKey n' b') : n = n' ∧ b = b' := by
  have := rt_law.inj (rt_key n b hn h1 h2) (h ▸ rt_key n' b' hn' h1' h2')
  simp at this
  exact ⟨by omega, this.2⟩

theorem rt_zero (w : World) : (zeroValue 29).run Try.prog w = .ok (.int .u32 0) w := by kernel_rfl

theorem lit_inj32 {a b : Int} (h : (DataW.lit (.int .u32 a) : DataW Unit) = .lit (.int .u32 b)) : a = b := by injection h with h; injection h

/-- A map reads as many entries as it has. -/
theorem tight {H : Type} {P : Program} {k : TypeId} {R : Value → Option (DataW H × List MemPlace)} {w : World} {b n : Nat} {D : DataW H} (h : w.ownsMap P k R b n D) : w.ownsMap P k R b (Maps.size D) D := by
  obtain ⟨es, clock, hb, F, hs, rfl⟩ := h
  exact ⟨es, clock, hb, F, by simp [Maps.size, length_sorted], rfl⟩

/-- What a map holds, by a list of routes. -/
def TabD (D : DataW Unit) (L : List Route10) : Prop :=
  Maps.size D = L.length ∧ ∀ (n : Nat) (b : Int), n < 4294967296 → -9223372036854775808 ≤ b → b ≤ 9223372036854775807 → Maps.has D (rtKey n b) = (rlook L n b).isSome ∧ ∀ g : Nat, rlook L n b = some g → D.atKey (rtKey n b) (.lit (.int .u32 0)) = .lit (.int .u32 (g : Nat))

theorem tabD_nil : TabD (.map []) [] := ⟨rfl, fun n b _ _ _ => ⟨rfl, fun g h => by cases h⟩⟩

theorem rtKey_isKey (n : Nat) (b : Int) (hn : n < 4294967296) (h1 : -9223372036854775808 ≤ b) (h2 : b ≤ 9223372036854775807) : WideAt.IsKeyLit (rtKey n b) := rt_law.key (rt_key n b hn h1 h2)

theorem tabD_put {D : DataW Unit} {L : List Route10} (h : TabD D L) (hD : Tidy D) (r : Route10) (hn : r.net < 4294967296) (h1 : -9223372036854775808 ≤ r.bits) (h2 : r.bits ≤ 9223372036854775807) (hl : rlook L r.net r.bits = none) : TabD (D.put (rtKey r.net r.bits) (.lit (.int .u32 (r.gw : Nat)))) (L ++ [r]) := by
  have hk := rtKey_isKey r.net r.bits hn h1 h2
  have hno : Maps.has D (rtKey r.net r.bits) = false := by rw [(h.2 _ _ hn h1 h2).1, hl]; rfl
  refine ⟨?_, fun n b hn' h1' h2' => ?_⟩
  · rw [size_put hD]
    simp [hno, h.1]
  · rw [rlook_snoc L r hl]
    by_cases e : n = r.net ∧ b = r.bits
    · obtain ⟨rfl, rfl⟩ := e
      rw [if_pos ⟨rfl, rfl⟩, has_put_same hD.isMap hk]
      refine ⟨rfl, fun g hg => ?_⟩
      obtain rfl := Option.some.inj hg
      exact atKey_put_same hD.isMap hk _ _
    · have hne : rtKey n b ≠ rtKey r.net r.bits := fun he => e (rtKey_inj hn' h1' h2' hn h1 h2 he)
      rw [if_neg e, has_put_other hne]
      refine ⟨(h.2 n b hn' h1' h2').1, fun g hg => ?_⟩
      rw [atKey_put_other hne]
      exact (h.2 n b hn' h1' h2').2 g hg

/-- A table in block g, its map in block gm. -/
def TabAt (W : World) (g gm : Nat) (L : List Route10) : Prop :=
  W.heap[g]? = some (.cells #[.map (some gm)] 65 (0, 0)) ∧ RGood L ∧ ∃ D : DataW Unit, W.ownsMap Try.prog 67 (plainElem Try.prog 29) gm L.length D ∧ TabD D L

theorem TabAt.kept {W W' : World} {g gm : Nat} {L : List Route10} {row : Option Nat} (h : TabAt W g gm L) (hg : W.grownBy W' row) (h1 : some g ≠ row) (h2 : some gm ≠ row) : TabAt W' g gm L := by
  obtain ⟨hb, hG, D, hD, hT⟩ := h
  exact ⟨(hg.block g (Array.getElem?_eq_some_iff.1 hb).1 h1).trans hb, hG, D, hD.kept hg h2, hT⟩

theorem TabAt.ne {W : World} {g gm : Nat} {L : List Route10} (h : TabAt W g gm L) : g ≠ gm := by
  obtain ⟨hb, _, D, ⟨es, cl, h1, _⟩, _⟩ := h
  rintro rfl
  have := hb.symm.trans h1
  cases this
end Go.Proofs.Ytinlacdngojlaaa
