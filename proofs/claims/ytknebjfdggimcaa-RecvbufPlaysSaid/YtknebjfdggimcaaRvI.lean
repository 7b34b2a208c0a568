/- Recvbuf: a buffer as it lies; join by one word; pieces of Insert. -/
import Derived.Test.YtknebjfdggimcaaRvH
import Derived.Test.YtknebjfdggimcaaGTurnsB
namespace Go.Proofs.Ytknebjfdggimcaa
open Go.RowKit Go.Proofs.Ytknebjfdggimcaa.Rv

def bcs (G : Nat) (pa : Option Addr) (pc : Nat) (s : St) : Array Value := #[.slice (some ⟨G, 0, none⟩) s.sz s.sz, .int .i64 (s.start : Nat), .int .i64 (s.ready : Nat), .int .u32 (s.next : Nat), .slice pa s.parts.length pc, .int .i64 (s.count : Nat)]
/-- A buffer in block g, its ring in G, its parts at pa. -/
structure RvAt (B g G : Nat) (pa : Option Addr) (pc : Nat) (s : St) (w : World) : Prop where
  blk : w.heap[g]? = some (.cells (bcs G pa pc s) 70 (0, 0))
  ring : OwnSl B (some ⟨G, 0, none⟩) s.ring s.sz w
  own : OwnR 87 3 PC B pa s.parts pc w
  gG : g ≠ G
  pg : pa ≠ some ⟨g, 0, none⟩
  pG : pa ≠ some ⟨G, 0, none⟩
  Bg : B ≤ g
theorem join_ok (B g G pc : Nat) (pa : Option Addr) (s : St) (l r : Nat) (w : World) (K : Ok s) (hw : r ≤ win s) (hlr : l ≤ r) (R : RvAt B g G pa pc s w) (hB : B ≤ w.heap.size) (hG : G < w.heap.size) :
    Calls Try.prog 33 #[.pointer (some ⟨g, 0, none⟩), .agg #[.int .i64 (l : Nat), .int .i64 (r : Nat)], .int .i64 ((pA s.parts l).length : Nat), .int .i64 (((pA s.parts l).length + (pM s.parts l r).length : Nat) : Int)] w fun e w' =>
      e = .returned (.int .i64 ((joinF s l r).2 : Nat)) ∧ ∃ pa' pc', RvAt B g G pa' pc' (joinF s l r).1 w' ∧ Turns (JS g pa) w w' ∧ (∀ k, pa' = some ⟨k, 0, none⟩ → pa = some ⟨k, 0, none⟩ ∨ w.heap.size ≤ k) := by
  have hwin : win s = s.sz - s.ready := rfl
  have hsz := K.sz1
  have hps : ∀ p ∈ s.parts, p.2.1 ≤ 1048576 := fun p hp => by have := (K.wf.2 p hp).2.2; omega
  have hpl : s.parts.length ≤ 2000 := by have := K.pl; omega
  have M := mid_of K.wf l r
  have C := cut_of K.wf l r
  have key : ∀ (T : St) (k : Nat) (pa' : Option Addr) (pc' : Nat) (w' : World), T.sz = s.sz → T.ring = s.ring → w'.heap[g]? = some (.cells (bcs G pa' pc' T) 70 (0, 0)) → OwnR 87 3 PC B pa' T.parts pc' w' → Turns (JS g pa) w w' → (∀ k, pa' = some ⟨k, 0, none⟩ → pa = some ⟨k, 0, none⟩ ∨ w.heap.size ≤ k) →
      RvAt B g G pa' pc' T w' := by
    intro T k pa' pc' w' h1 h2 h3 h4 h5 h6
    refine ⟨h3, ?_, h4, R.gG, ?_, ?_, R.Bg⟩
    · rw [h1, h2]
      have hrow := R.ring
      obtain ⟨hx, h0 | ⟨b, e, hB, hr⟩⟩ := hrow
      · exact absurd h0.1 (by intro e; cases e)
      · cases e
        refine ⟨hx, .inr ⟨_, rfl, hB, hr.1, ?_⟩⟩
        rcases hr.2 with h0 | ⟨g', cap', cur, e', h7, h8, h9⟩
        · exact .inl h0
        · have e2 := e'
          simp only [Value.slice.injEq, Option.some.injEq, Addr.mk.injEq] at e2
          obtain ⟨⟨rfl, _, _⟩, _, _⟩ := e2
          exact .inr ⟨_, cap', cur, e', h7, h5.blk h8 (by rintro (h | h); exact R.gG h.symm; exact R.pG h), h9⟩
    · intro e
      rcases h6 g e with h | h
      · exact R.pg h
      · have := blk_lt R.blk; omega
    · intro e
      rcases h6 G e with h | h
      · exact R.pG h
      · omega
  unfold joinF
  by_cases hM : pM s.parts l r = []
  · by_cases hL : 0 < lo s.parts l r
    · rw [if_pos hL]
      refine (join_np B g G s.sz s.start s.ready s.next s.count pc pa s.parts l r w R.blk R.own R.pg hB hsz K.rd (by omega) hlr hps hpl K.ct hM hL).mono ?_
      rintro e w' ⟨rfl, pa', pc', h1, h2, h3, h4⟩
      exact ⟨rfl, pa', pc', key { s with parts := _, count := _ } 0 pa' pc' w' rfl rfl h1 h2 h3 h4, h3, h4⟩
    · rw [if_neg hL]
      have hl0 := M.lo0 (by omega)
      refine (join_nz B g G s.sz s.start s.ready s.next s.count pc pa s.parts l r w R.blk R.own R.pg hB hsz K.rd (by omega) hlr hps hpl K.ct hM (by omega) (fun p hp => ⟨Nat.le_of_lt (M.chi p hp), Nat.le_of_lt (K.wf.2 p (by rw [p_eq s.parts l r]; exact List.mem_append_right _ (List.mem_append_right _ hp))).2.1⟩) ?_).mono ?_
      · cases h : pA s.parts l with
        | nil => rfl
        | cons p t => have := C.a p (by rw [h]; exact List.mem_cons_self); omega
      · rintro e w' ⟨rfl, pa', pc', h1, h2, h3, h4⟩
        exact ⟨rfl, pa', pc', key { s with parts := _, ready := _, next := _ } 0 pa' pc' w' rfl rfl h1 h2 h3 h4, h3, h4⟩
  · by_cases hL : 0 < lo s.parts l r
    · rw [if_pos hL]
      refine (join_mp B g G s.sz s.start s.ready s.next s.count pc pa s.parts l r w R.blk R.own R.pg hB hsz K.rd (by omega) hlr hps hpl K.ct hM hL).mono ?_
      rintro e w' ⟨rfl, pa', pc', h1, h2, h3, h4⟩
      exact ⟨rfl, pa', pc', key { s with parts := _, count := _ } 0 pa' pc' w' rfl rfl h1 h2 h3 h4, h3, h4⟩
    · rw [if_neg hL]
      have hl0 := M.lo0 (by omega)
      refine (join_mz B g G s.sz s.start s.ready s.next s.count pc pa s.parts l r w R.blk R.own R.pg hB hsz K.rd (by omega) hlr hps hpl K.ct hM (by omega) (fun p hp => ⟨Nat.le_of_lt (M.chi p hp), Nat.le_of_lt (K.wf.2 p (by rw [p_eq s.parts l r]; exact List.mem_append_right _ (List.mem_append_right _ hp))).2.1⟩) ?_).mono ?_
      · cases h : pA s.parts l with
        | nil => rfl
        | cons p t => have := C.a p (by rw [h]; exact List.mem_cons_self); omega
      · rintro e w' ⟨rfl, pa', pc', h1, h2, h3, h4⟩
        exact ⟨rfl, pa', pc', key { s with parts := _, ready := _, next := _ } 0 pa' pc' w' rfl rfl h1 h2 h3 h4, h3, h4⟩
/-- clip by one word. -/
theorem clip_ok (B g G pc : Nat) (pa : Option Addr) (s : St) (q : Nat) (a : Option Addr) (dc : Nat) (ds : List Nat) (w : World) (K : Ok s) (R : RvAt B g G pa pc s w) (X : Bts w a ds) (hdc : ds.length ≤ dc) (hdn : a = none → dc = 0) (hq : q < 4294967296) :
    Calls Try.prog 29 #[.pointer (some ⟨g, 0, none⟩), .int .u32 (q : Nat), .slice a ds.length dc] w fun e w' => ∃ a' c', e = .returned (.tuple #[.int .i64 ((clipL s q : Nat) : Int), .slice a' (clipD s q ds).length c']) ∧ SlOf w' a a' c' (clipD s q ds) ∧ Below w.heap.size w w' := by
  have hw : s.ready + win s = s.sz := by have := K.rd; unfold win; omega
  unfold clipL clipD
  by_cases h : win s ≤ dist q s.next
  · rw [if_pos h, if_pos h]
    exact clip_out g G s.sz s.start s.ready s.next pa s.parts.length pc s.count q a dc ds w R.blk X hdc hdn (win s) hw K.sz1 hq K.nx h
  · rw [if_neg h, if_neg h]
    exact clip_in g G s.sz s.start s.ready s.next pa s.parts.length pc s.count q a dc ds w R.blk X hdc hdn (win s) hw K.sz1 hq K.nx (by omega)
/-- A part of a slice of parts. -/
theorem sts_sub {w : World} {pa : Option Addr} {ps : List Pt} (h : Sts 3 PC Tr w pa ps) (i k c : Nat) (hc : ps.length ≤ c) : Sts 3 PC Tr w (if c = i then pa else Option.map (fun x : Addr => x.add (i * 3)) pa) ((ps.drop i).take k) := by
  by_cases hne : (ps.drop i).take k = []
  · rw [hne]; exact Sts.nil _ _
  · have hlt : i < ps.length := by
      rcases Nat.lt_or_ge i ps.length with h | h
      · exact h
      · rw [List.drop_eq_nil_of_le h, List.take_nil] at hne; exact absurd rfl hne
    obtain ⟨b, o, rfl, hb, hc2⟩ := h.isSomeT (by omega)
    rw [if_neg (by omega)]
    refine ⟨fun _ _ => trivial, .inr ⟨b, o + i * 3, by simp [Addr.add], hb, fun j x hj u v hv => ?_⟩⟩
    rw [List.getElem?_take] at hj
    split at hj
    · rw [List.getElem?_drop] at hj
      have := hc2 (i + j) x hj u v hv
      rw [show o + i * 3 + j * 3 + u = o + (i + j) * 3 + u by omega]; exact this
    · cases hj
theorem pM_sub (ps : List Pt) (l r : Nat) : pM ps l r = (ps.drop (pA ps l).length).take (pM ps l r).length := by
  rw [← pR_drop]
  have e : pR ps l = pM ps l r ++ pC ps l r := by unfold pM pC; rw [List.takeWhile_append_dropWhile]
  have h : (pR ps l).take (pM ps l r).length = (pM ps l r ++ pC ps l r).take (pM ps l r).length := by rw [← e]
  rw [h, List.take_left]
theorem layAll_step (n st rd l : Nat) (d : List Nat) : ∀ (gs : List (Nat × Nat)) (i : Nat) (x : Nat × Nat) (r : List Nat), gs[i]? = some x → layAll n st rd l d (gs.take (i + 1)) r = layF (layAll n st rd l d (gs.take i) r) n ((st + rd + x.1) % n) ((d.drop (x.1 - l)).take (x.2 - x.1))
  | [], _, _, _, h => by cases h
  | g :: gs, 0, x, r, h => by cases h; rfl
  | g :: gs, i + 1, x, r, h => by
    rw [List.take_succ_cons, List.take_succ_cons]
    exact layAll_step n st rd l d gs i x _ h
/-- A gap's cells. -/
theorem s_at {w : World} {g o i : Nat} {xs : List (Nat × Nat)} {x : Nat × Nat} (h : Sts 2 SC Tr w (some ⟨g, o, none⟩) xs) (hi : xs[i]? = some x) :
    g < w.heap.size ∧ w.cell? ⟨g, o + i * 2, none⟩ = some (.int .i64 (x.1 : Nat)) ∧ w.cell? ⟨g, o + i * 2 + 1, none⟩ = some (.int .i64 (x.2 : Nat)) := by
  obtain ⟨b, off, e, hb, h2⟩ := h.isSomeT (by have := (List.getElem?_eq_some_iff.1 hi).1; omega)
  cases e
  exact ⟨hb, by have := h2 i x hi 0 _ rfl; simpa using this, h2 i x hi 1 _ rfl⟩
end Go.Proofs.Ytknebjfdggimcaa
