/- .. and lists of octets. -/
import Derived.Test.YtokfadlgiimaoaaGTurns
import Derived.Test.YtokfadlgiimaoaaGBts
import Derived.ProofKit
import Derived.OpenShut
import Derived.SizedLaws
import Derived.Test.YtokfadlgiimaoaaGAgg
import Derived.Deep.Fields
import Derived.ChangeArms
import Derived.Test.YtokfadlgiimaoaaGSts
import Derived.Test.YtokfadlgiimaoaaGOwnA
import Derived.Test.YtokfadlgiimaoaaRgL
import Derived.Test.YtokfadlgiimaoaaRgK
namespace Go.Proofs.Ytokfadlgiimaoaa
open Go.RowKit
variable {S : Nat → Prop} {w w' : World}
theorem OwnSl.turned {B : Nat} {a : Option Addr} {xs : List Nat} {cap : Nat} (O : OwnSl B a xs cap w) (h : Turns S w w') (hS : ∀ g, a = some ⟨g, 0, none⟩ → ¬ S g) : OwnSl B a xs cap w' := by
  obtain ⟨hx, ⟨ha, he, hc⟩ | ⟨g, ha, hB, hr⟩⟩ := O
  · exact ⟨hx, .inl ⟨ha, he, hc⟩⟩
  · refine ⟨hx, .inr ⟨g, ha, hB, hr.1, ?_⟩⟩
    rcases hr.2 with h0 | ⟨g', cap', cur, e, h1, h2, h3⟩
    · exact .inl h0
    · have e2 := e
      simp only [Value.slice.injEq, Option.some.injEq, Addr.mk.injEq] at e2
      obtain ⟨⟨rfl, _, _⟩, _, _⟩ := e2
      exact .inr ⟨g, cap', cur, e, h1, h.blk h2 (hS g ha), h3⟩
theorem Bts.turned {a : Option Addr} {xs : List Nat} (Y : Bts w a xs) (h : Turns S w w') (hS : ∀ b o, a = some ⟨b, o, none⟩ → ¬ S b) : Bts w' a xs := by
  refine ⟨Y.1, ?_⟩
  rcases Y.2 with h0 | ⟨b, off, e, hb, hc⟩
  · exact .inl h0
  · refine .inr ⟨b, off, e, Nat.lt_of_lt_of_le hb h.size, fun i hi => ?_⟩
    have hbl := h.block b hb (hS b off e)
    rw [← hc i hi]
    simp only [World.cell?, hbl]
end Go.Proofs.Ytokfadlgiimaoaa

namespace Go.Proofs.Ytokfadlgiimaoaa
open Go.ChangeShapes Go.WideShapes Go.ChangeAt Go.RowKit

theorem bytes5 : Try.prog.bytesOf 5 = 1 := by kernel_rfl

/-- Cells of numbers that fit an octet read as octets. -/
theorem bts_of_ints {w : World} {x : Addr} {len cap : Nat} {zs : List Int} (hl : len ≤ cap) (hz : zs.length = cap) (hcell : ∀ i, i < zs.length → w.cell? (x.add i) = some (.int .u8 (zs.getD i 0))) (hwz : ∀ n ∈ zs, (Lit.int .u8 n).wf = true) :
    ∃ xs : List Nat, xs.length = len ∧ Bts w (some x) xs := by
  refine ⟨(zs.take len).map Int.toNat, by rw [List.length_map, List.length_take]; omega, ?_, ?_⟩
  · intro y hy
    obtain ⟨n, hn, rfl⟩ := List.mem_map.1 hy
    have := bounds_u8 (hwz n (List.mem_of_mem_take hn))
    omega
  · by_cases h0 : len = 0
    · left; subst h0; rfl
    · right
      obtain ⟨b, off, rfl, hc⟩ := ints_at hcell (by omega)
      have hlt : b < w.heap.size := World.block_lt_of_cell? _ _ (hc 0 (by omega))
      refine ⟨b, off, rfl, hlt, fun i hi => ?_⟩
      have hil : i < len := by rw [List.length_map, List.length_take] at hi; omega
      have hiz : i < zs.length := by omega
      rw [hc i hiz]
      have e : zs.getD i 0 = zs[i] := by rw [List.getD_eq_getElem?_getD, List.getElem?_eq_getElem hiz]; rfl
      have hb := bounds_u8 (hwz zs[i] (List.getElem_mem hiz))
      have e2 : ((zs.take len).map Int.toNat).getD i 0 = zs[i].toNat := by
        rw [List.getD_eq_getElem?_getD, List.getElem?_map, List.getElem?_take_of_lt hil, List.getElem?_eq_getElem hiz]
        rfl
      rw [e, e2]
      congr 2
      omega

theorem nat_of_u64 {a : Int} (h : (Lit.int .u64 a).wf = true) : ∃ n : Nat, a = n ∧ n < 18446744073709551616 := by
  have hb := bounds_u64 h
  exact ⟨a.toNat, by omega, by omega⟩

theorem nat_of_u32 {a : Int} (h : (Lit.int .u32 a).wf = true) : ∃ n : Nat, a = n ∧ n < 4294967296 := by
  have hb := bounds_u32 h
  exact ⟨a.toNat, by omega, by omega⟩

theorem nat_of_u16 {a : Int} (h : (Lit.int .u16 a).wf = true) : ∃ n : Nat, a = n ∧ n < 65536 := by
  have hb := bounds_u16 h
  exact ⟨a.toNat, by omega, by omega⟩

theorem nat_of_u8 {a : Int} (h : (Lit.int .u8 a).wf = true) : ∃ n : Nat, a = n ∧ n < 256 := by
  have hb := bounds_u8 h
  exact ⟨a.toNat, by omega, by omega⟩

end Go.Proofs.Ytokfadlgiimaoaa

namespace Go.Proofs.Ytokfadlgiimaoaa
open Go.ChangeShapes Go.WideShapes Go.ChangeAt Go.RowKit Go.Deep

/-- A list of octets in a field: its octets; what it reads as. -/
theorem open_bytes {H : Type} {enc : TypeId × Value → H} {W : World} {base fuel : Nat} {held : Bool} {c : Value} {y : DataW H × List MemPlace} (h : DataW.trod enc Try.prog W base (fun _ => true) held fuel 22 [c] = some y) :
    ∃ (a : Option Addr) (xs : List Nat) (cap : Nat), c = .slice a xs.length cap ∧ Bts W a xs ∧ (a = none → cap = 0) ∧ (xs.length ≤ cap ∧ cap ≤ maxLen) ∧
      ((y.1 = .nil ∧ xs = []) ∨ ∃ zs ws : List Int, y.1 = .slice (lits .u8 zs) (lits .u8 ws) ∧ xs.length = zs.length) := by
  rcases open_ints Try.underlying22 Try.underlying5 (by kernel_rfl) h with ⟨hcs, hy⟩ | ⟨x, l, cap, zs, hcs, _, hl, hm, hz, hd, hcell, hwz⟩
  · simp only [List.cons.injEq, and_true] at hcs
    subst hcs
    exact ⟨none, [], 0, rfl, ⟨(fun x h => by cases h), .inl rfl⟩, fun _ => rfl, ⟨Nat.le_refl _, Nat.zero_le _⟩, .inl ⟨by rw [hy], rfl⟩⟩
  · simp only [List.cons.injEq, and_true] at hcs
    subst hcs
    have hz' : zs.length = cap := by simpa using hz
    obtain ⟨xs, h1, h2⟩ := bts_of_ints hl hz' hcell hwz
    subst h1
    exact ⟨some x, xs, cap, rfl, h2, (fun h => by cases h), ⟨hl, hm⟩, .inr ⟨zs.take xs.length, zs.drop xs.length, by rw [hd], by rw [List.length_take]; omega⟩⟩

/-- Its bound. -/
theorem bytes_reach {H : Type} {d : DataW H} {xs : List Nat} (h : (d = .nil ∧ xs = []) ∨ ∃ zs ws : List Int, d = .slice (lits .u8 zs) (lits .u8 ws) ∧ xs.length = zs.length) (hw : ∀ n ∈ d.weights Try.prog 22, n ≤ reachBytes) : xs.length ≤ 140737488351232 := by
  rcases h with ⟨_, rfl⟩ | ⟨zs, ws, rfl, hl⟩
  · simp
  · have := hw ((zs.length + ws.length) * Try.prog.bytesOf 5) (by simp [DataW.weights, Try.underlying22, lits])
    rw [bytes5] at this
    simp only [reachBytes] at this
    omega

end Go.Proofs.Ytokfadlgiimaoaa

namespace Go.Proofs.Ytokfadlgiimaoaa
open Go.ChangeShapes Go.WideShapes Go.ChangeAt Go.RowKit Go.Deep

/-- A list of octets in one cell. -/
structure Txt where
  a : Option Addr
  xs : List Nat
  c : Nat
def Txt.cells (r : Txt) : List Value := [.slice r.a r.xs.length r.c]
def Txt.ok (w : World) (r : Txt) : Prop := Bts w r.a r.xs ∧ (r.a = none → r.c = 0) ∧ r.xs.length ≤ r.c ∧ r.c ≤ maxLen
theorem Txt.okBelow {w w' : World} {r : Txt} (h : r.ok w) (hb : Below w.heap.size w w') : r.ok w' := ⟨h.1.below hb, h.2⟩
theorem Txt.size : Try.prog.cellsOf 22 = 1 := by kernel_rfl
theorem Txt.each {H : Type} {enc : TypeId × Value → H} {W : World} {base : Nat} {held : Bool} (n : Nat) (cs : List Value) (x : DataW H × List MemPlace) (h : DataW.trod enc Try.prog W base (fun _ => true) held n 22 cs = some x) (hl : cs.length = 1) : ∃ r : Txt, r.ok W ∧ cs = r.cells := by
  obtain ⟨u0, rfl⟩ := of_l1 cs hl
  obtain ⟨a, xs, c, rfl, p, q, s, _⟩ := open_bytes h
  exact ⟨⟨a, xs, c⟩, ⟨p, q, s⟩, rfl⟩
theorem open_Txts {H : Type} {enc : TypeId × Value → H} {W : World} {base fuel : Nat} {held : Bool} {c : Value} {y : DataW H × List MemPlace} (h : DataW.trod enc Try.prog W base (fun _ => true) held fuel 36 [c] = some y) :
    ∃ (a : Option Addr) (rs : List Txt) (cap : Nat), c = .slice a rs.length cap ∧ Sts 1 Txt.cells Txt.ok W a rs ∧ (a = none → cap = 0) ∧ (rs.length ≤ cap ∧ cap ≤ maxLen) ∧ ((y.1 = .nil ∧ rs = []) ∨ ∃ es ws : List (DataW H), y.1 = .slice es ws ∧ rs.length = es.length) :=
  open_sts Try.underlying36 Txt.size (by omega) Txt.each h
theorem Sts.txtBelow {w w' : World} {a : Option Addr} {rs : List Txt} (h : Sts 1 Txt.cells Txt.ok w a rs) (hb : Below w.heap.size w w') : Sts 1 Txt.cells Txt.ok w' a rs := Sts.below (fun _ hr => Txt.okBelow hr hb) h hb
end Go.Proofs.Ytokfadlgiimaoaa

namespace Go.Proofs.Ytokfadlgiimaoaa
open Go.RowKit
section
variable {α : Type} {m : Nat} {cells : α → List Value} {w : World}
theorem step_append_rA {ops : Array Oper} {o : Oper} {act : Act} {K : Act → World → Prop} {Q : Exit → Act → World → Prop} {E0 : Prop} {t e : TypeId} {z : Value} {bz : Nat} (hgd : o.guard = none) (L : Elem t e z m bz) (E : Enc m cells) (s x : Operand)
    (ho : o.op = .call { callee := .builtin .append, args := #[s, x], argTypes := #[t, t] }) (B : Nat) {a : Option Addr} {ad : Addr} {xs ys : List α} {cap dap n : Nat} (hn : n = ys.length)
    (O : OwnR e m cells B a xs cap w) (Y : Sts m cells Tr w (some ad) ys) (hs : act.eval s = .slice a xs.length cap) (hx : act.eval x = .slice (some ad) n dap)
    (hlen : (xs.length + ys.length) * bz ≤ 140737488355328) (hml : xs.length + ys.length ≤ maxLen) (hB : B ≤ w.heap.size)
    (h : ∀ a' cap' w', OwnR e m cells B a' (xs ++ ys) cap' w' → Below B w w' → w.grownBy w' (Value.slice a xs.length cap).ownBlock → (∀ g, a' = some ⟨g, 0, none⟩ → a = some ⟨g, 0, none⟩ ∨ g = w.heap.size) → K (act.put o.dst (.slice a' (xs ++ ys).length cap')) w') : if Region.wanted o (yielded ops act.tmps) = true then Oper.wp Try.prog o act w K Q else E0 := by
  have hw : Region.wanted o (yielded ops act.tmps) = true := by simp [Region.wanted, hgd]
  rw [if_pos hw]
  subst hn
  obtain ⟨i0, hi, hz0, hz1, hz2⟩ := info_parts L.inf
  obtain ⟨v', w', hr, hown, hgrow, _, hat⟩ := run_append_own_at (P := Try.prog) w B t o.type e i0 z m bz L.und hi hz0 hz1 hz2 L.zs L.pos _ _ _ O.rowAny ad ys.length dap (ys.flatMap cells) (flat_len E ys) (Y.srcF E) (flat_one E ys) hml hlen hB
  unfold Oper.wp execOp
  simp only [ho, resolve, invoke, builtin, Sem.run_bind, Sem.run_pure, Result.andThen_ok, List.map_toArray, List.map_cons, List.map_nil, hs, hx, hr]
  rw [← List.flatMap_append, ← List.length_append] at hown
  obtain ⟨a', cap', rfl, O'⟩ := OwnR.of_row hown
  refine h a' cap' w' O' ((Below.refl _ _).grown hgrow hB (fun k e => (O.ownB k e).1)) hgrow ?_
  intro g hg
  subst hg
  rcases hat with h1 | h1
  · left
    rcases O with ⟨rfl, _, _⟩ | ⟨g2, rfl, _, _⟩
    · cases h1
    · have e : some g = some g2 := h1
      rw [Option.some.inj e]
  · right
    have e : some g = some w.heap.size := h1
    exact Option.some.inj e
end
theorem encT : Enc 1 Txt.cells := ⟨fun _ => rfl, fun x u hu => by
  simp only [Txt.cells, List.mem_cons, List.not_mem_nil, or_false] at hu
  subst hu; rfl, by decide⟩
theorem elemT : Elem 36 22 (.slice none 0 0) 1 24 := ⟨Try.underlying36, by kernel_rfl, rfl, by decide⟩
end Go.Proofs.Ytokfadlgiimaoaa

namespace Go.Proofs.Ytokfadlgiimaoaa
open Go.RowKit Go.Sort

section
variable {W W' : World} {g B sz : Nat} {ev now free : Int} {K : Keys} {fs fs' : Nat → List Fr} {own own' S : Nat → Prop}
theorem CardS.turned (h : CardS W g B sz ev now free K fs own) (ht : Turns S W W') (h1 : ∀ b, own b → ¬ S b) (h2 : ∀ b off, K.ka = some ⟨b, off, none⟩ → ¬ S b) (h3 : ∀ b off, K.ta = some ⟨b, off, none⟩ → ¬ S b)
    (h4 : ∀ j, j < 17 → ∀ x ∈ fs j, ∀ b off, x.1.1 = some ⟨b, off, none⟩ → ¬ S b) : CardS W' g B sz ev now free K fs own := by
  obtain ⟨cs, rs, h, ho⟩ := h
  have hg : ¬ S g := h1 g ((ho g).2 (.inl rfl))
  have hr : ∀ j, j < 17 → ∀ k, (rs j).b = some k → ¬ S k := fun j hj k hk => h1 k ((ho k).2 (.inr ⟨j, hj, hk⟩))
  refine ⟨cs, rs, ⟨⟨ht.blk h.R.blk hg, h.R.len, h.R.bg, h.R.szl, fun j hj => (h.R.ring j hj).keep (fun _ _ _ => rfl) (fun k hk ob hb => ht.blk hb (hr j hj k hk)), h.R.que, h.R.ne, fun j hj x hx => ?_⟩, h.c0, h.c1, h.c2, h.c3, h.c72, h.c73, ?_⟩, ho⟩
  · obtain ⟨f1, f2, f3, f4⟩ := h.R.fr j hj x hx
    exact ⟨f1.turned ht (h4 j hj x hx), f2, f3, fun b off e => ⟨Nat.lt_of_lt_of_le (f4 b off e).1 ht.size, (f4 b off e).2⟩⟩
  · obtain ⟨k1, k2, k3, k4⟩ := h.keys
    exact ⟨k1.turned ht h2, its_keep k2 ht.size fun b off e hb => ht.block b hb (h3 b off e), fun b off e => ⟨Nat.lt_of_lt_of_le (k3 b off e).1 ht.size, (k3 b off e).2⟩, fun b off e => ⟨Nat.lt_of_lt_of_le (k4 b off e).1 ht.size, (k4 b off e).2⟩⟩
theorem CardS.lenLe (h : CardS W g B sz ev now free K fs own) {q : Nat} (hq : q < 17) : (fs q).length ≤ sz ∧ 1 ≤ sz ∧ sz ≤ 4096 := by
  obtain ⟨cs, rs, h, _⟩ := h
  have h5 := (h.R.ring q hq).2.2.2.2.1
  rw [h.R.que q hq, List.length_map] at h5
  exact ⟨h5, h.R.szl⟩
theorem CardS.ownLt (h : CardS W g B sz ev now free K fs own) {b : Nat} (hb : own b) : b < W.heap.size ∧ B ≤ b := by
  obtain ⟨cs, rs, h, ho⟩ := h
  rcases (ho b).1 hb with rfl | ⟨i, hi, h1⟩
  · exact ⟨blk_lt h.R.blk, h.R.bg⟩
  · exact (h.R.ring i hi).lt h1
theorem CardS.frLt (h : CardS W g B sz ev now free K fs own) {q : Nat} (hq : q < 17) {x : Fr} (hx : x ∈ fs q) {b off : Nat} (e : x.1.1 = some ⟨b, off, none⟩) : b < W.heap.size := by
  obtain ⟨cs, rs, h, ho⟩ := h
  exact ((h.R.fr q hq x hx).2.2.2 b off e).1
theorem CardS.keyLt (h : CardS W g B sz ev now free K fs own) : (∀ b off, K.ka = some ⟨b, off, none⟩ → b < W.heap.size) ∧ ∀ b off, K.ta = some ⟨b, off, none⟩ → b < W.heap.size := by
  obtain ⟨cs, rs, h, ho⟩ := h
  exact ⟨fun b off e => (h.keys.2.2.1 b off e).1, fun b off e => (h.keys.2.2.2 b off e).1⟩
end

/-- A list of frames that were handed in. -/
structure Ls where
  a : Option Addr
  xs : List Txt
  c : Nat

structure RO (W : World) (g B sz : Nat) (ev : Int) (K : Keys) (fs : Nat → List Fr) (own : Nat → Prop) (d C : Nat) (L : Nat → Ls) (frs : List Txt) : Prop where
  card : CardS W g B sz ev 0 0 K fs own
  blk : ∃ cs, W.heap[d]? = some (.cells cs 40 (0, 0)) ∧ cs.size = 16 ∧ ∀ q, q < 16 → cs[q]? = some (.slice (L q).a (L q).xs.length (L q).c)
  row : ∀ q, q < 16 → OwnR 22 1 Txt.cells C (L q).a (L q).xs (L q).c W
  dis : ∀ q, q < 16 → ∀ k, (L q).a = some ⟨k, 0, none⟩ → k ≠ d ∧ ¬ own k ∧ ∀ p, p < 16 → p ≠ q → (L p).a ≠ some ⟨k, 0, none⟩
  od : ¬ own d
  Cd : C ≤ d
  BC : B ≤ C
  key : (∀ b off, K.ka = some ⟨b, off, none⟩ → b < C) ∧ ∀ b off, K.ta = some ⟨b, off, none⟩ → b < C
  fr : ∀ j, j < 17 → ∀ x ∈ fs j, ∀ b off, x.1.1 = some ⟨b, off, none⟩ → b ≠ d ∧ ∀ q, q < 16 → (L q).a ≠ some ⟨b, 0, none⟩
  mem : ∀ q, q < 16 → ∀ r ∈ (L q).xs, r ∈ frs

section
variable {W W' : World} {g B sz d C : Nat} {ev : Int} {K : Keys} {fs fs' : Nat → List Fr} {own own' : Nat → Prop} {L : Nat → Ls} {frs : List Txt}
theorem RO.lt (h : RO W g B sz ev K fs own d C L frs) : d < W.heap.size := by
  obtain ⟨cs, hb, _⟩ := h.blk
  exact blk_lt hb
/-- What calls of the card's leave. -/
theorem RO.step (h : RO W g B sz ev K fs own d C L frs) (hc : CardS W' g B sz ev 0 0 K fs' own') (hs : Stay W W' own) (ho : ∀ b, own' b → own b ∨ W.heap.size ≤ b)
    (hf : ∀ j, j < 17 → ∀ x ∈ fs' j, x ∈ fs j ∨ ∀ b off, x.1.1 = some ⟨b, off, none⟩ → W.heap.size ≤ b) : RO W' g B sz ev K fs' own' d C L frs := by
  have hd := h.lt
  have no : ∀ b, b < W.heap.size → ¬ own b → ¬ own' b := fun b hb hn h1 => by
    rcases ho b h1 with h2 | h2
    · exact hn h2
    · omega
  refine ⟨hc, ?_, fun q hq => (h.row q hq).keepRow fun k o ha hb => (hs.2 k (blk_lt hb) (h.dis q hq k ha).2.1).trans hb, fun q hq k ha => ?_, no d hd h.od, h.Cd, h.BC, h.key, fun j hj x hx b off e => ?_, h.mem⟩
  · obtain ⟨cs, hb, h1⟩ := h.blk
    exact ⟨cs, (hs.2 d hd h.od).trans hb, h1⟩
  · obtain ⟨h1, h2, h3⟩ := h.dis q hq k ha
    exact ⟨h1, no k ((h.row q hq).ltB k ha) h2, h3⟩
  · rcases hf j hj x hx with h1 | h1
    · exact h.fr j hj x h1 b off e
    · have h2 := h1 b off e
      exact ⟨by omega, fun q hq ha => by have := (h.row q hq).ltB b ha; omega⟩
theorem RO.below (h : RO W g B sz ev K fs own d C L frs) (hb : Below W.heap.size W W') : RO W' g B sz ev K fs own d C L frs :=
  h.step (h.card.below hb) (Stay.of_below _ hb) (fun _ h => .inl h) (fun _ _ _ h => .inl h)
/-- .. and an append to one of the lists. -/
theorem RO.app (h : RO W g B sz ev K fs own d C L frs) {q : Nat} (hq : q < 16) (t : Txt) (htm : t ∈ frs) {V : World} (hT : Turns (fun k => (L q).a = some ⟨k, 0, none⟩) W V) {a' : Option Addr} {c' n : Nat}
    (O : OwnR 22 1 Txt.cells C a' ((L q).xs ++ [t]) c' V) (hA : ∀ k, a' = some ⟨k, 0, none⟩ → (L q).a = some ⟨k, 0, none⟩ ∨ W.heap.size ≤ k) (hn : n = ((L q).xs ++ [t]).length) :
    RO (V.setCell ⟨d, q, none⟩ (.slice a' n c')) g B sz ev K fs own d C (upd L q ⟨a', (L q).xs ++ [t], c'⟩) frs ∧ Below C W (V.setCell ⟨d, q, none⟩ (.slice a' n c')) := by
  subst hn
  have hd := h.lt
  have hg := gr_set V d q (.slice a' ((L q).xs ++ [t]).length c')
  have TT : Turns (fun k => k = d ∨ (L q).a = some ⟨k, 0, none⟩) W (V.setCell ⟨d, q, none⟩ (.slice a' ((L q).xs ++ [t]).length c')) := (hT.mono fun _ h => .inr h).grown (.inl rfl) hg
  have cq : ∀ k, (L q).a = some ⟨k, 0, none⟩ → C ≤ k := fun k e => ((h.row q hq).ownB k (by rw [e]; rfl)).1
  have hak : ∀ k, a' = some ⟨k, 0, none⟩ → k ≠ d := fun k e => by
    rcases hA k e with h1 | h1
    · exact (h.dis q hq k h1).1
    · omega
  refine ⟨⟨h.card.turned TT (fun b hb hs => ?_) (fun b off e hs => ?_) (fun b off e hs => ?_) (fun j hj x hx b off e hs => ?_), ?_, fun p hp => ?_, fun p hp k e => ?_, h.od, h.Cd, h.BC, h.key, fun j hj x hx b off e => ?_, fun p hp r hr => ?_⟩, TT.below (Nat.le_of_lt (Nat.lt_of_le_of_lt h.Cd hd)) (fun k hs => ?_)⟩
  · rcases hs with rfl | hs
    · exact h.od hb
    · exact (h.dis q hq b hs).2.1 hb
  · have h1 := h.key.1 b off e
    have h2 := h.Cd
    rcases hs with rfl | hs
    · omega
    · have := cq b hs; omega
  · have h1 := h.key.2 b off e
    have h2 := h.Cd
    rcases hs with rfl | hs
    · omega
    · have := cq b hs; omega
  · obtain ⟨h1, h2⟩ := h.fr j hj x hx b off e
    rcases hs with rfl | hs
    · exact h1 rfl
    · exact h2 q hq hs
  · obtain ⟨cs, hb, hcs, hc⟩ := h.blk
    refine ⟨cs.setIfInBounds q (.slice a' ((L q).xs ++ [t]).length c'), blk_set (hT.blk hb (fun e => (h.dis q hq d e).1 rfl)) q _, by rw [Array.size_setIfInBounds]; exact hcs, fun p hp => ?_⟩
    by_cases e : p = q
    · subst e
      rw [Array.getElem?_setIfInBounds_self_of_lt (by omega), upd_at]
    · rw [Array.getElem?_setIfInBounds_ne (fun e2 => e e2.symm), upd_ne _ _ e]
      exact hc p hp
  · by_cases e : p = q
    · subst e
      rw [upd_at]
      exact O.grown hg (fun k e2 e3 => hak k e2 (Option.some.inj e3))
    · rw [upd_ne _ _ e]
      refine (h.row p hp).turned TT fun k e2 hs => ?_
      obtain ⟨h1, _, h3⟩ := h.dis p hp k e2
      rcases hs with rfl | hs
      · exact h1 rfl
      · exact h3 q hq (fun e3 => e e3.symm) hs
  · by_cases ep : p = q
    · subst ep
      rw [upd_at] at e
      refine ⟨hak k e, ?_⟩
      rcases hA k e with h1 | h1
      · obtain ⟨_, h2, h3⟩ := h.dis p hp k h1
        exact ⟨h2, fun r hr hne => by rw [upd_ne _ _ hne]; exact h3 r hr hne⟩
      · exact ⟨fun h2 => by have := (h.card.ownLt h2).1; omega, fun r hr hne => by
          rw [upd_ne _ _ hne]
          intro e2
          have := (h.row r hr).ltB k e2; omega⟩
    · rw [upd_ne _ _ ep] at e
      obtain ⟨h1, h2, h3⟩ := h.dis p hp k e
      refine ⟨h1, h2, fun r hr hne => ?_⟩
      by_cases er : r = q
      · subst er
        rw [upd_at]
        intro e2
        rcases hA k e2 with h4 | h4
        · exact h3 r hr hne h4
        · have := (h.row p hp).ltB k e; omega
      · rw [upd_ne _ _ er]; exact h3 r hr hne
  · obtain ⟨h1, h2⟩ := h.fr j hj x hx b off e
    refine ⟨h1, fun p hp => ?_⟩
    by_cases ep : p = q
    · subst ep
      rw [upd_at]
      intro e2
      rcases hA b e2 with h4 | h4
      · exact h2 p hp h4
      · have := h.card.frLt hj hx e; omega
    · rw [upd_ne _ _ ep]; exact h2 p hp
  · by_cases ep : p = q
    · subst ep
      rw [upd_at] at hr
      rcases List.mem_append.1 hr with h1 | h1
      · exact h.mem p hp r h1
      · obtain rfl := List.mem_singleton.1 h1
        exact htm
    · rw [upd_ne _ _ ep] at hr; exact h.mem p hp r hr
  · have h2 := h.Cd
    rcases hs with rfl | hs
    · exact h2
    · exact cq k hs
/-- The lists are what lies in the rings. -/
def Eq8 (fs : Nat → List Fr) (L : Nat → Ls) : Prop := ∀ q, q < 16 → (fs q).map Prod.snd = (L q).xs.map Txt.xs
theorem Eq8.put (h : Eq8 fs L) {q : Nat} {x : Fr} {t : Txt} {a' : Option Addr} {c' : Nat} (hx : x.2 = t.xs) : Eq8 (upd fs q (fs q ++ [x])) (upd L q ⟨a', (L q).xs ++ [t], c'⟩) := by
  intro p hp
  by_cases e : p = q
  · subst e
    rw [upd_at, upd_at, List.map_append, List.map_append, h p hp]
    simp [hx]
  · rw [upd_ne _ _ e, upd_ne _ _ e]; exact h p hp
theorem mem_put {q j : Nat} {x y : Fr} (h : y ∈ upd fs q (fs q ++ [x]) j) : y ∈ fs j ∨ y = x := by
  by_cases e : j = q
  · subst e
    rw [upd_at] at h
    rcases List.mem_append.1 h with h1 | h1
    · exact .inl h1
    · exact .inr (List.mem_singleton.1 h1)
  · rw [upd_ne _ _ e] at h; exact .inl h
theorem mem_tail {q j : Nat} {x y : Fr} {l : List Fr} (hl : fs q = x :: l) (h : y ∈ upd fs q l j) : y ∈ fs j := by
  by_cases e : j = q
  · subst e
    rw [upd_at] at h
    rw [hl]; exact List.mem_cons_of_mem _ h
  · rw [upd_ne _ _ e] at h; exact h
theorem RO.recv (h : RO W g B sz ev K fs own d C L frs) {q : Nat} {x : Fr} (hx : ∀ b off, x.1.1 = some ⟨b, off, none⟩ → W.heap.size ≤ b) (hc : CardS W' g B sz ev 0 0 K (upd fs q (fs q ++ [x])) own') (hs : Stay W W' own) (ho : ∀ b, own' b → own b ∨ W.heap.size ≤ b) : RO W' g B sz ev K (upd fs q (fs q ++ [x])) own' d C L frs :=
  h.step hc hs ho fun _ _ _ hy => (mem_put hy).imp id (fun e => by rw [e]; exact hx)
theorem RO.taken (h : RO W g B sz ev K fs own d C L frs) {q : Nat} {x : Fr} {l : List Fr} (hl : fs q = x :: l) (hc : CardS W' g B sz ev 0 0 K (upd fs q l) own') (hs : Stay W W' own) (ho : ∀ b, own' b → own b ∨ W.heap.size ≤ b) : RO W' g B sz ev K (upd fs q l) own' d C L frs :=
  h.step hc hs ho fun _ _ _ hy => .inl (mem_tail hl hy)
/-- The cell of a queue's list, and of a frame in it. -/
theorem RO.cell (h : RO W g B sz ev K fs own d C L frs) {q : Nat} (hq : q < 16) : W.cell? ⟨d, q, none⟩ = some (.slice (L q).a (L q).xs.length (L q).c) := by
  obtain ⟨cs, hb, _, hc⟩ := h.blk
  exact (blk_cell hb q).trans (hc q hq)
theorem RO.frame (h : RO W g B sz ev K fs own d C L frs) {q i : Nat} (hq : q < 16) {t : Txt} (hi : (L q).xs[i]? = some t) : ∃ k, (L q).a = some ⟨k, 0, none⟩ ∧ k < W.heap.size ∧ W.cell? ⟨k, i, none⟩ = some (.slice t.a t.xs.length t.c) := by
  have hlt : i < (L q).xs.length := (List.getElem?_eq_some_iff.1 hi).1
  obtain ⟨k, e, _, hk⟩ := (h.row q hq).isSome (by omega)
  refine ⟨k, e, hk, ?_⟩
  obtain ⟨b, off, e2, _, hc⟩ := ((h.row q hq).sts encT).isSomeT (by omega)
  rw [e] at e2; cases e2
  have := hc i t hi 0 _ rfl
  rw [Nat.zero_add, Nat.mul_one, Nat.add_zero] at this
  exact this
end
end Go.Proofs.Ytokfadlgiimaoaa
