/- Sendbuf: what the ring holds; the buffer's calls by one word. -/
import Derived.Test.YtfdaenogefodhaaSbO
import Derived.Test.YtfdaenogefodhaaSbA
namespace Go.Proofs.Ytfdaenogefodhaa.Sb
open Go.RowKit Go.Proofs.Ytfdaenogefodhaa
theorem mod2 {st i n : Nat} (h : st < n) (hi : i ≤ n) : ((st + i) % n = st + i ∧ st + i < n) ∨ ((st + i) % n = st + i - n ∧ n ≤ st + i) := by
  by_cases hc : st + i < n
  · exact .inl ⟨Nat.mod_eq_of_lt hc, hc⟩
  · refine .inr ⟨?_, by omega⟩
    rw [Nat.mod_eq_sub_mod (by omega), Nat.mod_eq_of_lt (by omega)]
theorem splice_lenA {α : Type} (xs ys : List α) (off : Nat) (h : off + ys.length ≤ xs.length) : (splice xs off ys).length = xs.length := by
  unfold splice; simp only [List.length_append, List.length_take, List.length_drop]; omega
theorem splice_getD (xs ys : List Nat) (off i : Nat) (h : off + ys.length ≤ xs.length) : (splice xs off ys).getD i 0 = if off ≤ i ∧ i < off + ys.length then ys.getD (i - off) 0 else xs.getD i 0 := by
  unfold splice
  simp only [List.getD_eq_getElem?_getD]
  by_cases h1 : i < off
  · rw [if_neg (by omega), List.getElem?_append_left (by rw [List.length_take]; omega), List.getElem?_take_of_lt h1]
  · have e1 : (xs.take off).length = off := by rw [List.length_take]; omega
    rw [List.getElem?_append_right (by omega), e1]
    by_cases h2 : i < off + ys.length
    · rw [if_pos (by omega), List.getElem?_append_left (by omega)]
    · rw [if_neg (by omega), List.getElem?_append_right (by omega), List.getElem?_drop]
      congr 2; omega
theorem getD_take (xs : List Nat) (k i : Nat) (h : i < k) : (xs.take k).getD i 0 = xs.getD i 0 := by
  simp only [List.getD_eq_getElem?_getD, List.getElem?_take_of_lt h]
theorem getD_drop (xs : List Nat) (k i : Nat) : (xs.drop k).getD i 0 = xs.getD (k + i) 0 := by
  simp only [List.getD_eq_getElem?_getD, List.getElem?_drop]
theorem getD_app (xs ys : List Nat) (i : Nat) : (xs ++ ys).getD i 0 = if i < xs.length then xs.getD i 0 else ys.getD (i - xs.length) 0 := by
  simp only [List.getD_eq_getElem?_getD]
  split
  · rw [List.getElem?_append_left (by assumption)]
  · rw [List.getElem?_append_right (by omega)]
theorem ext_getD {xs ys : List Nat} (hl : xs.length = ys.length) (h : ∀ i, i < xs.length → xs.getD i 0 = ys.getD i 0) : xs = ys := by
  apply List.ext_getElem hl
  intro i h1 h2
  have := h i h1
  simpa [List.getD_eq_getElem?_getD, List.getElem?_eq_getElem h1, List.getElem?_eq_getElem h2] using this

/-- What the ring holds, from place st on. -/
structure Holds (n st : Nat) (rs xs : List Nat) : Prop where
  len : rs.length = n
  fit : xs.length ≤ n
  pos : st < n
  at_ : ∀ i, i < xs.length → rs.getD ((st + i) % n) 0 = xs.getD i 0

theorem Holds.nil {n : Nat} {rs : List Nat} (hl : rs.length = n) (h : 0 < n) : Holds n 0 rs [] := ⟨hl, by simp, h, fun i hi => by simp at hi⟩

theorem Holds.wrote {n st m p : Nat} {rs xs ds : List Nat} (h : Holds n st rs xs) (hm : min ds.length (n - xs.length) = m) (hp : (st + xs.length) % n = p) : Holds n st (Sb.wr rs ds n m p) (xs ++ ds.take m) := by
  obtain ⟨hl, hf, hs, ha⟩ := h
  have hA : (ds.take m).length = m := by rw [List.length_take]; omega
  have hpn : p < n := by rw [← hp]; exact Nat.mod_lt _ (by omega)
  obtain ⟨A, hAe⟩ : ∃ A, ds.take m = A := ⟨_, rfl⟩
  unfold Sb.wr
  rw [hAe] at hA ⊢
  have l1 : (A.take (n - p)).length = min (n - p) m := by rw [List.length_take, hA]
  have l2 : (A.drop (min (n - p) m)).length = m - min (n - p) m := by rw [List.length_drop, hA]
  have h1 : p + (A.take (n - p)).length ≤ rs.length := by omega
  have hmod := mod2 hs hf
  have h2 : 0 + (A.drop (min (n - p) m)).length ≤ (splice rs p (A.take (n - p))).length := by rw [splice_lenA _ _ _ h1]; omega
  refine ⟨by rw [splice_lenA _ _ _ h2, splice_lenA _ _ _ h1, hl], by rw [List.length_append]; omega, hs, fun i hi => ?_⟩
  rw [List.length_append, hA] at hi
  rw [splice_getD _ _ _ _ h2, splice_getD _ _ _ _ h1, getD_app, l1, l2, getD_drop]
  have hi2 := mod2 hs (show i ≤ n by omega)
  by_cases hix : i < xs.length
  · rw [if_pos hix, ← ha i hix, if_neg (by omega), if_neg (by omega)]
  · rw [if_neg hix]
    by_cases hw : 0 ≤ (st + i) % n ∧ (st + i) % n < 0 + (m - min (n - p) m)
    · rw [if_pos hw]
      congr 1; omega
    · rw [if_neg hw, if_pos (by omega), getD_take _ _ _ (by omega)]
      congr 1; omega

theorem Holds.cut {n st m p ah : Nat} {rs xs : List Nat} (h : Holds n st rs xs) (hm : ah + m ≤ xs.length) (hp : (st + ah) % n = p) : Sb.cut rs n p m = (xs.drop ah).take m := by
  obtain ⟨hl, hf, hs, ha⟩ := h
  have hpn : p < n := by rw [← hp]; exact Nat.mod_lt _ (by omega)
  unfold Sb.cut
  have l0 : (List.replicate m 0).length = m := List.length_replicate
  have l1 : ((rs.drop p).take m).length = min m (n - p) := by rw [List.length_take, List.length_drop, hl]
  have l2 : (rs.take (m - min m (n - p))).length = m - min m (n - p) := by rw [List.length_take, hl]; omega
  have h1 : 0 + ((rs.drop p).take m).length ≤ (List.replicate m 0).length := by omega
  have h2 : min m (n - p) + (rs.take (m - min m (n - p))).length ≤ (splice (List.replicate m 0) 0 ((rs.drop p).take m)).length := by rw [splice_lenA _ _ _ h1]; omega
  have hlen : (splice (splice (List.replicate m 0) 0 ((rs.drop p).take m)) (min m (n - p)) (rs.take (m - min m (n - p)))).length = m := by rw [splice_lenA _ _ _ h2, splice_lenA _ _ _ h1, l0]
  apply ext_getD
  · rw [hlen, List.length_take, List.length_drop]; omega
  · intro i hi
    rw [hlen] at hi
    have hp2 := mod2 hs (show ah ≤ n by omega)
    have hi2 := mod2 hs (show ah + i ≤ n by omega)
    rw [splice_getD _ _ _ _ h2, splice_getD _ _ _ _ h1, l1, l2, getD_take _ _ _ hi, getD_drop, ← ha (ah + i) (by omega)]
    by_cases hk : min m (n - p) ≤ i ∧ i < min m (n - p) + (m - min m (n - p))
    · rw [if_pos hk, getD_take _ _ _ (by omega)]
      congr 1; omega
    · rw [if_neg hk, if_pos (by omega), getD_take _ _ _ (by omega), getD_drop]
      congr 1; omega

theorem Holds.acked {n st p ah : Nat} {rs xs : List Nat} (h : Holds n st rs xs) (hm : ah ≤ xs.length) (hp : (st + ah) % n = p) : Holds n p rs (xs.drop ah) := by
  obtain ⟨hl, hf, hs, ha⟩ := h
  have hp2 := mod2 hs (show ah ≤ n by omega)
  refine ⟨hl, by rw [List.length_drop]; omega, by rw [← hp]; exact Nat.mod_lt _ (by omega), fun i hi => ?_⟩
  rw [List.length_drop] at hi
  rw [getD_drop, ← ha (ah + i) (by omega)]
  have hi2 := mod2 hs (show ah + i ≤ n by omega)
  congr 1
  have : (p + i) % n = (st + (ah + i)) % n := by rw [← hp, Nat.mod_add_mod, Nat.add_assoc]
  exact this
end Go.Proofs.Ytfdaenogefodhaa.Sb
namespace Go.Proofs.Ytfdaenogefodhaa
open Go.RowKit Go.Proofs.Ytfdaenogefodhaa.Sb

/-- A buffer at block g, its ring at G, of n octets: what it holds is xs. -/
def BufAt (B g G n : Nat) (un : Int) (xs : List Nat) (w : World) : Prop :=
  ∃ st rs, w.heap[g]? = some (.cells #[.slice (some ⟨G, 0, none⟩) n n, .int .i64 (st : Nat), .int .i64 (xs.length : Nat), .int .u32 un] 62 (0, 0)) ∧ OwnSl B (some ⟨G, 0, none⟩) rs n w ∧ Holds n st rs xs
structure BufOk (B g G n : Nat) : Prop where
  bg : B ≤ g
  ne : g ≠ G
  n0 : 1 ≤ n
  n1 : n ≤ 1048576
theorem BufAt.below {B g G n : Nat} {un : Int} {xs : List Nat} {w w' : World} (h : BufAt B g G n un xs w) (hb : Below w.heap.size w w') : BufAt B g G n un xs w' := by
  obtain ⟨st, rs, hB, hO, hH⟩ := h
  exact ⟨st, rs, (hb.block g (blk_lt hB)).trans hB, hO.below hb, hH⟩
theorem BufAt.fit {B g G n : Nat} {un : Int} {xs : List Nat} {w : World} (h : BufAt B g G n un xs w) : xs.length ≤ n := by
  obtain ⟨st, rs, _, _, hH⟩ := h; exact hH.fit
theorem BufAt.blt {B g G n : Nat} {un : Int} {xs : List Nat} {w : World} (h : BufAt B g G n un xs w) : g < w.heap.size := by
  obtain ⟨st, rs, hB, _, _⟩ := h; exact blk_lt hB
theorem una_at {B g G n : Nat} {un : Int} {xs : List Nat} (w : World) (h : BufAt B g G n un xs w) : Calls Try.prog 26 #[.pointer (some ⟨g, 0, none⟩)] w fun e w' => e = .returned (.int .u32 un) ∧ w = w' := by
  obtain ⟨st, rs, hB, _, _⟩ := h; exact una_ok g G n _ _ un w hB
theorem end_at {B g G n : Nat} {un y : Int} {xs : List Nat} (w : World) (h : BufAt B g G n un xs w) (hy : (un + (xs.length : Int) % 4294967296) % 4294967296 = y) : Calls Try.prog 27 #[.pointer (some ⟨g, 0, none⟩)] w fun e w' => e = .returned (.int .u32 y) ∧ Below w.heap.size w w' := by
  obtain ⟨st, rs, hB, _, _⟩ := h; exact end_ok g G n _ _ un y w hB hy
theorem room_at {B g G n : Nat} {un : Int} {xs : List Nat} (w : World) (K : BufOk B g G n) (h : BufAt B g G n un xs w) : Calls Try.prog 29 #[.pointer (some ⟨g, 0, none⟩)] w fun e w' => e = .returned (.int .i64 ((n : Int) - (xs.length : Int))) ∧ Below w.heap.size w w' := by
  obtain ⟨st, rs, hB, _, hH⟩ := h
  have := hH.fit
  exact room_ok g G n _ _ un w hB K.n1 (by omega) (by omega)

set_option maxRecDepth 100000 in
set_option maxHeartbeats 1000000 in
theorem write_full (g G n : Nat) (st ct un : Int) (a : Option Addr) (dl c : Nat) (w : World) (hB : w.heap[g]? = some (.cells #[.slice (some ⟨G, 0, none⟩) n n, .int .i64 st, .int .i64 ct, .int .u32 un] 62 (0, 0))) (hn1 : n ≤ 1048576) (hct : ct = n) (hd : 0 < dl) : Calls Try.prog 18 #[.pointer (some ⟨g, 0, none⟩), .slice a dl c] w fun e w' => e = .returned (.tuple #[.int .i64 0, .int .i64 251]) ∧ Below w.heap.size w w' := by
  have HB := Lib.hid hB
  have hl0 : ((dl : Int) == 0) = false := by rw [beq_eq_false_iff_ne]; omega
  have hm : min (dl : Int) ((n : Int) - ct) = 0 := by omega
  clear hB
  go_enter Try.func18, Try.ntmps18
  go_wp2_with fail
  refine (made_yes g G n st ct un _ HB.out).mono ?_
  rintro e w' ⟨rfl, rfl⟩
  go_wp2_with fail
  refine (room_ok g G n st ct un _ HB.out hn1 (by omega) (by omega)).mono ?_
  rintro e V1 ⟨rfl, b⟩
  have Q1 := Lib.hid b
  clear b
  go_wp2
  go_ret2
  exact ⟨rfl, Q1.out⟩

/-- Write, by one word. -/
theorem write_at {B g G n dc N E : Nat} {un : Int} {xs ds : List Nat} {a : Option Addr} (w : World) (K : BufOk B g G n) (h : BufAt B g G n un xs w) (X : Bts w a ds) (hX : ∀ b o, a = some ⟨b, o, none⟩ → 0 < ds.length → b ≠ G) (hdl : ds.length ≤ 9223372036854775807) (hdc : ds.length ≤ dc) (hN : min ds.length (n - xs.length) = N) (hE : (if ds.length = 0 then 0 else if N = 0 then 251 else 0) = E) :
    Calls Try.prog 18 #[.pointer (some ⟨g, 0, none⟩), .slice a ds.length dc] w fun e w' => e = .returned (.tuple #[.int .i64 (N : Nat), .int .i64 (E : Nat)]) ∧ BufAt B g G n un (xs ++ ds.take N) w' ∧ Turns (fun k => k = g ∨ k = G) w w' := by
  obtain ⟨st, rs, hB, hO, hH⟩ := h
  have hf := hH.fit
  by_cases h0 : ds.length = 0
  · obtain rfl : ds = [] := List.eq_nil_of_length_eq_zero h0
    rw [if_pos h0] at hE
    subst hE
    obtain rfl : N = 0 := by simp at hN; omega
    refine (write_none g G n st xs.length un a dc w hB).mono ?_
    rintro e w' ⟨rfl, rfl⟩
    refine ⟨rfl, ⟨st, rs, by simpa using hB, hO, by simpa using hH⟩, Turns.refl _ _⟩
  · rw [if_neg h0] at hE
    by_cases hN0 : N = 0
    · rw [if_pos hN0] at hE
      subst hE hN0
      refine (write_full g G n st xs.length un a ds.length dc w hB K.n1 (by omega) (by omega)).mono ?_
      rintro e w' ⟨rfl, b⟩
      refine ⟨rfl, BufAt.below ⟨st, rs, by simpa using hB, hO, by simpa using hH⟩ b, Turns.of_below _ b⟩
    · rw [if_neg hN0] at hE
      subst hE
      obtain ⟨db, off, rfl, _, _⟩ := X.isSome (by omega)
      refine (write_okT B g G n st xs.length N ((st + xs.length) % n) un rs ds db off dc w hB hO hH.len X (hX db off rfl (by omega)) K.bg K.ne K.n0 K.n1 hH.pos hf hdl hdc hN (by omega) rfl).mono ?_
      rintro e w' ⟨rfl, h1, h2, _, b⟩
      refine ⟨rfl, ⟨st, _, ?_, h2, hH.wrote hN rfl⟩, b⟩
      rw [List.length_append, List.length_take, show min N ds.length = N by omega]
      exact h1

/-- Ack, by one word. -/
theorem ack_at {B g G n d : Nat} {un q : Int} {xs : List Nat} (w : World) (K : BufOk B g G n) (h : BufAt B g G n un xs w) (hd : df q un = d) (hle : d ≤ xs.length) :
    Calls Try.prog 24 #[.pointer (some ⟨g, 0, none⟩), .int .u32 q] w fun e w' => e = .returned (.tuple #[.int .i64 (d : Nat), .int .i64 0]) ∧ BufAt B g G n q (xs.drop d) w' ∧ Turns (fun k => k = g ∨ k = G) w w' := by
  obtain ⟨st, rs, hB, hO, hH⟩ := h
  have hf := hH.fit
  have hs := hH.pos
  have k1 := K.n1
  refine (ack_ok g G n st xs.length un q d ((((st + d) % n : Nat)) : Int) w hB K.n0 K.n1 (by omega) (by omega) (by omega) (by omega) hd (by omega) (by rw [← Int.natCast_add, ← Int.natCast_emod])).mono ?_
  rintro e w' ⟨rfl, h1, hG⟩
  refine ⟨rfl, ⟨(st + d) % n, rs, ?_, hO.far hG K.ne, hH.acked hle rfl⟩, (Turns.refl _ _).grown (.inl rfl) hG⟩
  rw [List.length_drop, show ((xs.length - d : Nat) : Int) = (xs.length : Int) - (d : Int) by omega]
  exact h1
theorem ack_no {B g G n : Nat} {un q d : Int} {xs : List Nat} (w : World) (K : BufOk B g G n) (h : BufAt B g G n un xs w) (hd : df q un = d) (hle : ¬ d ≤ xs.length) :
    Calls Try.prog 24 #[.pointer (some ⟨g, 0, none⟩), .int .u32 q] w fun e w' => e = .returned (.tuple #[.int .i64 0, .int .i64 151]) ∧ BufAt B g G n un xs w' ∧ Turns (fun k => k = g ∨ k = G) w w' := by
  obtain ⟨st, rs, hB, hO, hH⟩ := h
  refine (ack_seq g G n st xs.length un q d w hB hd hle).mono ?_
  rintro e w' ⟨rfl, h1, hG⟩
  exact ⟨rfl, ⟨st, rs, h1, hO.far hG K.ne, hH⟩, (Turns.refl _ _).grown (.inl rfl) hG⟩

/-- Slice, by one word. -/
theorem slice_at {B g G n m : Nat} {un q k : Int} {d : Nat} {xs : List Nat} (w : World) (K : BufOk B g G n) (h : BufAt B g G n un xs w) (hk : 0 ≤ k) (hd : df q un = d) (hle : d ≤ xs.length) (hm : min k ((xs.length : Int) - (d : Int)) = (m : Int)) :
    Calls Try.prog 21 #[.pointer (some ⟨g, 0, none⟩), .int .u32 q, .int .i64 k] w fun e w' => (∃ a, e = .returned (.tuple #[.slice a m m, .int .i64 0]) ∧ OwnSl w.heap.size a ((xs.drop d).take m) m w') ∧ Below w.heap.size w w' := by
  obtain ⟨st, rs, hB, hO, hH⟩ := h
  have hf := hH.fit
  refine (slice_ok B g G n st xs.length d m ((st + d) % n) un q k rs w hB hO hH.len K.n0 K.n1 hH.pos hf hd hle hk hm rfl).mono ?_
  rintro e w' ⟨⟨a, rfl, ho⟩, b⟩
  rw [hH.cut (by omega) rfl] at ho
  exact ⟨⟨a, rfl, ho⟩, b⟩
end Go.Proofs.Ytfdaenogefodhaa
