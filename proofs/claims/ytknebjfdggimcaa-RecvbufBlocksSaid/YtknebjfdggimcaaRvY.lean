/- Recvbuf: numbers of a statement's pieces. -/
import Derived.Test.YtknebjfdggimcaaRvX
import Derived.Test.YtknebjfdggimcaaGPiece16
namespace Go.Proofs.Ytknebjfdggimcaa
open Go.RowKit Go.Proofs.Ytknebjfdggimcaa.Rv

/-- A number brought into [0, L). -/
theorem tmod_in (p : Int) (L : Nat) (h0 : 0 < L) (hL : L ≤ 1000000) : ∃ (r1 r2 : Int) (x : Nat), p.tmod L = r1 ∧ IntKind.i64.wrap r1 = r1 ∧ IntKind.i64.wrap (r1 + L) = r2 ∧ r2.tmod L = (x : Int) ∧ IntKind.i64.wrap (x : Int) = (x : Int) ∧ x < L := by
  have h1 : (p.tmod L).natAbs < L := by
    rw [Int.natAbs_tmod]
    exact Nat.mod_lt _ h0
  obtain ⟨r1, hr1⟩ : ∃ r, p.tmod L = r := ⟨_, rfl⟩
  rw [hr1] at h1
  have hb : -(L : Int) < r1 ∧ r1 < (L : Int) := by omega
  refine ⟨r1, r1 + L, ((r1 + L).tmod L).toNat, hr1, IntWalk.i64_in _ ⟨by omega, by omega⟩, IntWalk.i64_in _ ⟨by omega, by omega⟩, ?_, ?_, ?_⟩
  · rw [Int.toNat_of_nonneg (Int.tmod_nonneg _ (by omega))]
  · have h2 := Int.tmod_lt_of_pos (r1 + L) (show (0 : Int) < L by omega)
    have h3 := Int.tmod_nonneg (L : Int) (show 0 ≤ r1 + L by omega)
    exact IntWalk.i64_in _ ⟨by omega, by omega⟩
  · have h2 := Int.tmod_lt_of_pos (r1 + L) (show (0 : Int) < L by omega)
    omega
theorem piece_at {w : World} {b off : Nat} {l : List Piece16} (h : Sts 2 Piece16.cells Piece16.ok w (some ⟨b, off, none⟩) l) {i : Nat} {p : Piece16} (hi : l[i]? = some p) : b < w.heap.size ∧ w.cell? ⟨b, off + i * 2, none⟩ = some (.int .i64 p.pos) ∧ w.cell? ⟨b, off + i * 2 + 1, none⟩ = some (.int .i64 p.n) := by
  obtain ⟨b', o', e, hb, hc⟩ := h.weak.isSomeT (by have := (List.getElem?_eq_some_iff.1 hi).1; omega)
  cases e
  exact ⟨hb, by have := hc i p hi 0 _ rfl; simpa using this, hc i p hi 1 _ rfl⟩
theorem bts_sub {w : World} {a : Option Addr} {T : List Nat} (h : Bts w a T) (x n c : Nat) (hc : T.length ≤ c) (hn : a = none → c = 0) : Bts w (if c = x then a else Option.map (fun y : Addr => y.add x) a) ((T.drop x).take n) ∧ ((if c = x then a else Option.map (fun y : Addr => y.add x) a) = none → c - x = 0) ∧ (∀ b o, (if c = x then a else Option.map (fun y : Addr => y.add x) a) = some ⟨b, o, none⟩ → (T.drop x).take n ≠ [] → b < w.heap.size) := by
  by_cases hne : (T.drop x).take n = []
  · rw [hne]
    refine ⟨⟨fun z hz => absurd hz List.not_mem_nil, .inl rfl⟩, fun e => ?_, fun b o _ h => absurd rfl h⟩
    by_cases hcx : c = x
    · omega
    · rw [if_neg hcx] at e
      cases a with
      | none => have := hn rfl; omega
      | some ad => cases e
  · have hlt : x < T.length := by
      rcases Nat.lt_or_ge x T.length with h | h
      · exact h
      · rw [List.drop_eq_nil_of_le h, List.take_nil] at hne; exact absurd rfl hne
    obtain ⟨b, o, rfl⟩ := h.addr (by intro e; rw [e] at hlt; simp at hlt)
    rw [if_neg (by omega)]
    have e : Option.map (fun y : Addr => y.add x) (some ⟨b, o, none⟩) = some ⟨b, o + x, none⟩ := by simp [Addr.add]
    rw [e]
    refine ⟨(h.drop x).take n, (fun e => by cases e), fun b' o' e _ => ?_⟩
    cases e
    rcases h.2 with h0 | ⟨b2, o2, e2, hb2, _⟩
    · rw [h0] at hlt; simp at hlt
    · cases e2; exact hb2
theorem OA.ord_lt {B g G gc L fi : Nat} {T : List Nat} {cm cw : List Bool} {R i : Nat} {s : St} {pa : Option Addr} {pc : Nat} {qa : Option Addr} {qc : Nat} {w0 w : World} (_h : OA B g G gc L fi T cm cw R i s pa pc qa qc w0 w) (hT : ∀ x ∈ T, x < 256) : ∀ x ∈ T.take R, x < 256 := fun x hx => hT x (List.mem_of_mem_take hx)
end Go.Proofs.Ytknebjfdggimcaa
