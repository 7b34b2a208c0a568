/- Recvbuf: Insert by one word; New, Read. -/
import Derived.Test.YtknebjfdggimcaaRvK
namespace Go.Proofs.Ytknebjfdggimcaa
open Go.RowKit Go.Proofs.Ytknebjfdggimcaa.Rv

set_option maxRecDepth 100000 in
set_option maxHeartbeats 1000000 in
theorem ins_long (g G pc : Nat) (pa : Option Addr) (s : St) (q : Nat) (a : Option Addr) (dc : Nat) (ds : List Nat) (w : World) (hB : w.heap[g]? = some (.cells (bcs G pa pc s) 70 (0, 0))) (hl5 : 65535 < ds.length) :
    Calls Try.prog 11 #[.pointer (some ⟨g, 0, none⟩), .int .u32 (q : Nat), .slice a ds.length dc] w fun e w' => e = .returned (.tuple #[.int .i64 0, .int .i64 5]) ∧ w = w' := by
  have d5 : (65535 : Int) < (ds.length : Int) := by omega
  unfold bcs at hB
  have HB := Lib.hid hB
  clear hB hl5
  go_enter Try.func11, Try.ntmps11
  go_wp2_with (first
    | (go_at_call 28; refine (made_yes g G s.sz s.start s.ready s.next pa s.parts.length pc s.count _ HB.out).mono ?_; rintro e w' ⟨rfl, rfl⟩)
    | fail)
  go_ret2
  exact ⟨rfl, rfl⟩
/-- Insert by one word. -/
theorem insert_ok (B g G pc : Nat) (pa : Option Addr) (s : St) (q : Nat) (a : Option Addr) (dc : Nat) (ds : List Nat) (w : World) (K : Ok s) (R : RvAt B g G pa pc s w) (X : Bts w a ds) (hdc : ds.length ≤ dc) (hdn : a = none → dc = 0) (hq : q < 4294967296) (hB : B ≤ w.heap.size) (hG : G < w.heap.size) (hX : ∀ b o, a = some ⟨b, o, none⟩ → ds ≠ [] → b ≠ g ∧ b ≠ G) :
    Calls Try.prog 11 #[.pointer (some ⟨g, 0, none⟩), .int .u32 (q : Nat), .slice a ds.length dc] w fun e w' => e = .returned (.tuple #[.int .i64 ((insF s q ds).2.1 : Nat), .int .i64 ((insF s q ds).2.2 : Nat)]) ∧ ∃ pa' pc', RvAt B g G pa' pc' (insF s q ds).1 w' ∧ Turns (IS g G pa) w w' ∧ (∀ k, pa' = some ⟨k, 0, none⟩ → pa = some ⟨k, 0, none⟩ ∨ w.heap.size ≤ k) := by
  unfold insF
  by_cases h5 : 65535 < ds.length
  · rw [if_pos h5]
    refine (ins_long g G pc pa s q a dc ds w R.blk h5).mono ?_
    rintro e w' ⟨rfl, rfl⟩
    exact ⟨rfl, pa, pc, R, Turns.refl _ _, fun k e => .inl e⟩
  · rw [if_neg h5]
    unfold inF
    dsimp only
    by_cases hg : gapsF (clipL s q) (pM s.parts (clipL s q) (clipL s q + (clipD s q ds).length)) (clipL s q + (clipD s q ds).length) = []
    · rw [if_pos hg]
      exact ins_none B g G pc pa s q a dc ds w K R X hdc hdn hq hB hG hX (by omega) hg
    · rw [if_neg hg]
      by_cases h8 : 0 < clipL s q ∧ pM s.parts (clipL s q) (clipL s q + (clipD s q ds).length) = [] ∧ 1024 ≤ s.parts.length
      · rw [if_pos h8]
        exact ins_full B g G pc pa s q a dc ds w K R X hdc hdn hq hB hG hX (by omega) hg h8
      · rw [if_neg h8]
        exact ins_main B g G pc pa s q a dc ds w K R X hdc hdn hq hB hG hX (by omega) hg h8

/-- A buffer just made. -/
def newF (n nx : Nat) : St := ⟨n, List.replicate n 0, 0, 0, nx, [], 0⟩
theorem new_okF {n nx : Nat} (h0 : 1 ≤ n) (h1 : n ≤ 1048576) (h2 : nx < 4294967296) : Ok (newF n nx) :=
  ⟨by show 0 < n; omega, h1, List.length_replicate, by show 0 < n; omega, Nat.zero_le _, h2, ⟨List.Pairwise.nil, fun p hp => absurd hp List.not_mem_nil⟩, Nat.zero_le _, Nat.zero_le _⟩
set_option maxRecDepth 100000 in
set_option maxHeartbeats 1000000 in
theorem new_ok (n nx : Nat) (w : World) (h0 : 1 ≤ n) (h1 : n ≤ 1048576) :
    Calls Try.prog 7 #[.int .i64 (n : Nat), .int .u32 (nx : Nat)] w fun e w' => ∃ g, e = .returned (.tuple #[.pointer (some ⟨g, 0, none⟩), .int .i64 0]) ∧ w.heap.size < g ∧ g < w'.heap.size ∧ RvAt w.heap.size g w.heap.size none 0 (newF n nx) w' ∧ Below w.heap.size w w' := by
  obtain ⟨i0, hi, hz0, hz1, hz2⟩ := info_parts info5
  have Hz := Lib.hid hz2
  have i1 : (1 : Int) ≤ (n : Int) := by omega
  have i2 : (n : Int) ≤ 1048576 := by omega
  go_enter Try.func7, Try.ntmps7
  go_wp2_with (at_make; refine wpList_make_full _ rfl _ _ 32 rfl w.heap.size 5 i0 (.int .u8 0) 1 Try.underlying32 hi hz0 hz1 .i64 .i64 _ _ n rfl rfl rfl rfl (by rw [Hz.out]; omega) (by unfold maxLen; omega) (Nat.le_refl _) ?_; intro w1 hown hgrow; have b := Lib.hid ((Below.refl w.heap.size w).grown hgrow (Nat.le_refl _) (fun k e => by cases e)); have O := Lib.hid (own_made hown (Nat.le_refl _)); clear hown hgrow)
  go_ret2
  have hz : w.heap.size < w1.heap.size := by
    rcases O.out.bts.2 with h3 | ⟨b', o', e2, hb2, _⟩
    · have := congrArg List.length h3; simp at this; omega
    · injection e2 with e2; injection e2 with e3; omega
  exact ⟨w1.heap.size, rfl, hz, by simp, ⟨blk_new w1 _, O.out.below ((Below.refl w1.heap.size w1).alloc (Nat.le_refl _) _), ownR_nil _ _ _ _ _, by omega, (fun e => by cases e), (fun e => by cases e), Nat.le_of_lt hz⟩, b.out.alloc b.out.size _⟩

/-- m octets of the ring, from place p on. -/
def cutF (rs : List Nat) (n p m : Nat) : List Nat := spl (spl (List.replicate m 0) 0 ((rs.drop p).take m)) (min m (n - p)) (rs.take (m - min m (n - p)))
theorem cutF_len {rs : List Nat} {n p m : Nat} (hl : rs.length = n) : (cutF rs n p m).length = m := by
  unfold cutF
  have h1 : (spl (List.replicate m 0) 0 ((rs.drop p).take m)).length = m := by
    rw [Rv.spl_len, List.length_replicate]; rw [List.length_replicate, List.length_take, List.length_drop]; omega
  rw [Rv.spl_len, h1]; rw [h1, List.length_take]; omega
theorem cutF_get {rs : List Nat} {n p m : Nat} (hl : rs.length = n) (hp : p < n) (hm : m ≤ n) (v : Nat) (hv : v < m) : (cutF rs n p m).getD v 0 = octF rs n p v := by
  unfold cutF octF
  have hf : 0 + ((rs.drop p).take m).length ≤ (List.replicate m 0).length := by rw [List.length_replicate, List.length_take, List.length_drop]; omega
  have h1 : (spl (List.replicate m 0) 0 ((rs.drop p).take m)).length = m := by rw [Rv.spl_len hf, List.length_replicate]
  rw [spl_get (by rw [h1, List.length_take]; omega), spl_get hf]
  simp only [List.length_take, List.length_drop]
  by_cases hw : p + v < n
  · rw [if_neg (by omega), if_pos (by omega), Nat.mod_eq_of_lt hw, getD_take _ _ _ (by omega), getD_drop]; congr 1
  · have e : (p + v) % n = p + v - n := by rw [Nat.mod_eq_sub_mod (by omega), Nat.mod_eq_of_lt (by omega)]
    rw [e, if_pos (by omega), getD_take _ _ _ (by omega)]; congr 1; omega
def readF (s : St) (m : Nat) : St := { s with start := (s.start + m) % s.sz, ready := s.ready - m }
theorem read_okF {s : St} (K : Ok s) {m : Nat} (_hm : m ≤ s.ready) : Ok (readF s m) :=
  ⟨K.sz0, K.sz1, K.rl, Nat.mod_lt _ K.sz0, by show s.ready - m ≤ s.sz; have := K.rd; omega, K.nx, ⟨K.wf.1, fun p hp => by have h := K.wf.2 p hp; have hw : win s = s.sz - s.ready := rfl; refine ⟨h.1, h.2.1, ?_⟩; show p.2.1 ≤ s.sz - (s.ready - m); omega⟩, K.pl, K.ct⟩
set_option maxRecDepth 100000 in
set_option maxHeartbeats 2000000 in
theorem read_ok (B g G n st rd nx m pl pc ct : Nat) (pa : Option Addr) (k : Int) (rs : List Nat) (w : World) (hB : w.heap[g]? = some (.cells #[.slice (some ⟨G, 0, none⟩) n n, .int .i64 (st : Nat), .int .i64 (rd : Nat), .int .u32 (nx : Nat), .slice pa pl pc, .int .i64 (ct : Nat)] 70 (0, 0)))
    (O : OwnSl B (some ⟨G, 0, none⟩) rs n w) (hrl : rs.length = n) (h0 : 1 ≤ n) (hn : n ≤ 1048576) (hst : st < n) (hrd : rd ≤ n) (hG : G < w.heap.size) (hk : 0 ≤ k) (hm : min k (rd : Int) = (m : Int)) :
    Calls Try.prog 14 #[.pointer (some ⟨g, 0, none⟩), .int .i64 k] w fun e w' => (∃ a, e = .returned (.tuple #[.slice a m m, .int .i64 0]) ∧ OwnSl w.heap.size a (cutF rs n st m) m w') ∧ w'.heap[g]? = some (.cells #[.slice (some ⟨G, 0, none⟩) n n, .int .i64 ((st + m) % n : Nat), .int .i64 (rd - m : Nat), .int .u32 (nx : Nat), .slice pa pl pc, .int .i64 (ct : Nat)] 70 (0, 0)) ∧ w.grownBy w' (some g) := by
  obtain ⟨i0, hi, hz0, hz1, hz2⟩ := info_parts info5
  have Hz := Lib.hid hz2
  have B0 := Lib.hid hB
  have c2 := blk_cell hB 2
  have gz := blk_lt hB
  have R0 := Lib.hid O.bts
  have hmr : m ≤ rd := by omega
  have dk : ¬ (k < 0) := by omega
  obtain ⟨st2, hst2⟩ : ∃ z, (st + m) % n = z := ⟨_, rfl⟩
  obtain ⟨rd2, hrd2⟩ : ∃ z, rd - m = z := ⟨_, rfl⟩
  rw [hst2, hrd2]
  have W1 : IntKind.i64.wrap ((st : Int) + (m : Int)) = ((st + m : Nat) : Int) := by rw [IntWalk.i64_in _ ⟨by omega, by omega⟩]; omega
  obtain ⟨sm, hsm⟩ : ∃ z, st + m = z := ⟨_, rfl⟩
  rw [hsm] at W1 hst2
  have hst2n : st2 < n := by rw [← hst2]; exact Nat.mod_lt _ (by omega)
  have W3 : IntKind.i64.wrap ((sm : Int).tmod n) = (st2 : Int) := by rw [Int.tmod_eq_emod_of_nonneg (by omega), ← Int.natCast_emod, hst2]; exact IntWalk.i64_in _ ⟨by omega, by omega⟩
  have e1 : (sm : Int) % (n : Int) = (st2 : Int) := by rw [← Int.natCast_emod, hst2]
  have e2 : (sm : Int).tmod n = (st2 : Int) := by rw [Int.tmod_eq_emod_of_nonneg (by omega), e1]
  have e1n : sm % n = st2 := hst2
  have W4 : IntKind.i64.wrap (st2 : Int) = (st2 : Int) := IntWalk.i64_in _ ⟨by omega, by omega⟩
  have W5 : IntKind.i64.wrap ((rd : Int) - (m : Int)) = (rd2 : Int) := by rw [IntWalk.i64_in _ ⟨by omega, by omega⟩]; omega
  have fz : ¬ (n : Int) = 0 := by omega
  have fzb : ((n : Int) == 0) = false := by rw [beq_eq_false_iff_ne]; omega
  have fnz : ¬ n = 0 := by omega
  have m0 : (0 : Int) ≤ (m : Int) := by omega
  have hmn : m ≤ n := by omega
  clear hB O hst2 hrd2
  go_enter Try.func14, Try.ntmps14
  go_upto_region 6 with (first
    | (go_at_call 28; refine (made_yes g G n st rd nx pa pl pc ct _ B0.out).mono ?_; rintro e w' ⟨rfl, rfl⟩)
    | (at_make; refine wpList_make_full _ rfl _ _ 32 rfl w.heap.size 5 i0 (.int .u8 0) 1 Try.underlying32 hi hz0 hz1 .i64 .i64 _ _ m rfl rfl rfl rfl (by rw [Hz.out]; omega) (by unfold maxLen; omega) (Nat.le_refl _) ?_; intro V2 hown hgrow; have b := ((Below.refl w.heap.size w).grown hgrow (Nat.le_refl _) (fun k e => by cases e)); have B2 := Lib.hid ((b.block _ gz).trans B0.out); have R2 := Lib.hid (R0.out.below b); have Q2 := Lib.hid b; have gz2 := Nat.lt_of_lt_of_le gz b.size; have O2 := Lib.hid (own_made hown (Nat.le_refl _)); clear hown hgrow b c2)
    | fail)
  have B3 : Hid (V2.drew.heap[g]? = some (.cells #[.slice (some ⟨G, 0, none⟩) n n, .int .i64 (st : Nat), .int .i64 (rd : Nat), .int .u32 (nx : Nat), .slice pa pl pc, .int .i64 (ct : Nat)] 70 (0, 0))) := Lib.hid (blk_drew B2.out)
  have R3 := Lib.hid (R2.out.below (Below.refl _ _).drew)
  have O3 := Lib.hid (O2.out.below (Below.refl _ _).drew)
  have Q3 := Lib.hid Q2.out.drew
  have c0 := blk_cell B3.out 0
  have c1 := blk_cell B3.out 1
  have hgn : w.heap.size ≠ g := by omega
  have hGn : G ≠ w.heap.size := by omega
  clear B2 R2 O2 Q2
  have hys : ∃ ys, (rs.drop st).take m = ys := ⟨_, rfl⟩
  obtain ⟨ys, hys⟩ := hys
  have hyl : ys.length = min m (n - st) := by rw [← hys, List.length_take, List.length_drop, hrl]
  obtain ⟨l, hl⟩ : ∃ z, min m (n - st) = z := ⟨_, rfl⟩
  rw [hl] at hyl
  have hrd3 : (rs.drop st).length = n - st := by rw [List.length_drop, hrl]
  have hfit : 0 + ys.length ≤ (List.replicate m 0).length := by rw [List.length_replicate]; omega
  have hs1 : (st : Int) ≤ (n : Int) := by omega
  have hs2 : ¬ (n = st) := by omega
  have HS2 := Lib.hid hs2
  have R4d : Hid (Bts V2.drew (if n = st then some ⟨G, 0, none⟩ else some ⟨G, st, none⟩) (rs.drop st)) := Lib.hid (by rw [if_neg hs2]; have h := R3.out.drop st; rw [Nat.zero_add] at h; exact h)
  clear hs2
  go_region_held3 (fun W => W.cell? ⟨g, 0, none⟩ = some (.slice (some ⟨G, 0, none⟩) n n) ∧ W.cell? ⟨g, 1, none⟩ = some (.int .i64 (st : Nat))) (first | exact ⟨c0, c1⟩ | (with_reducible exact KS.out) | go_keep) (first
    | (refine step_copy_cut rfl _ _ rfl w.heap.size w.heap.size 0 m _ m rfl rfl hrd3.symm hys O3.out R4d.out (fun _ => rfl) hfit ?_; intro V5 Z bg; have B5 := Lib.hid (grown_block bg B3.out (Ne.symm hgn)); have R5 := Lib.hid (R3.out.grown bg hGn); have O5 := Lib.hid Z; have Q5 := Lib.hid (Q3.out.trans (O3.out.belowOf bg)); have KS : Hid (V5.cell? ⟨g, 0, none⟩ = some (.slice (some ⟨G, 0, none⟩) n n) ∧ V5.cell? ⟨g, 1, none⟩ = some (.int .i64 (st : Nat))) := Lib.hid ⟨blk_cell B5.out 0, blk_cell B5.out 1⟩; clear Z bg))
  have hsl : (splice (List.replicate m 0) 0 ys).length = m := by rw [length_splice _ _ _ hfit, List.length_replicate]
  have hy2 : ∃ y2, rs.take (m - l) = y2 := ⟨_, rfl⟩
  obtain ⟨y2, hy2⟩ := hy2
  have hyl2 : y2.length = m - l := by rw [← hy2, List.length_take, hrl]; omega
  have hfit2 : l + y2.length ≤ (splice (List.replicate m 0) 0 ys).length := by omega
  have O6 := Lib.hid (O5.out.below (Below.refl _ _).drew)
  have R6 := Lib.hid (R5.out.below (Below.refl _ _).drew)
  have Q6 := Lib.hid Q5.out.drew
  have c6 := blk_cell (blk_drew B5.out) 0
  have s2 : (l : Int) ≤ (m : Int) := by omega
  have hcut : splice (splice (List.replicate m 0) 0 ys) l y2 = cutF rs n st m := by unfold cutF; rw [hys, hl, hy2]; rfl
  have HCUT := Lib.hid hcut
  clear hcut c0 c1 KS hsl
  go_wp2_with fail
  go_region_held3 (fun W => W.cell? ⟨g, 0, none⟩ = some (.slice (some ⟨G, 0, none⟩) n n)) (first | go_keep) (first
    | (refine step_copy_cut rfl _ _ rfl w.heap.size w.heap.size l (m - l) _ m rfl rfl hrl.symm hy2 O6.out R6.out (fun h => by first | rfl | (rw [if_neg (by omega)]) | (simp; omega)) hfit2 ?_; intro V7 Z bg; have B7 := Lib.hid (grown_block bg (blk_drew B5.out) (Ne.symm hgn)); have O7 := Lib.hid Z; have Q7 := Lib.hid (Q6.out.trans (O6.out.belowOf bg)); have u7 := blk_cell B7.out 0; clear Z bg))
  all_goals
    have u1 := blk_cell B7.out 1
    go_upto_region 8 with fail
    go_still_tail 16, (by kernel_rfl)
    change wpList _ _ _ _ _ V7.drew
    have B8 := Lib.hid (blk_drew B7.out)
    have O8 := Lib.hid (O7.out.below (Below.refl _ _).drew)
    have Q8 := Lib.hid Q7.out.drew
    clear u7 u1 c6 B7 O7 Q7
    generalize V7.drew = V8 at B8 O8 Q8 ⊢
    have t1 := blk_cell B8.out 1
    have f1 := blk_free B8.out 1
    have s9 := blk_set B8.out 1 (.int .i64 (st2 : Nat))
    simp only [List.setIfInBounds_toArray, List.set_cons_zero, List.set_cons_succ] at s9
    have B9 := Lib.hid s9
    have g9 := gr_set V8 g 1 (.int .i64 (st2 : Nat))
    have O9 := Lib.hid (O8.out.far g9 (Ne.symm hgn))
    have G9 := Lib.hid (gr_trans (gr_below Q8.out (some g)) g9)
    clear s9 g9
    go_upto_region 9 with fail
    clear t1 f1 B8 O8 Q8
    generalize V8.setCell ⟨g, 1, none⟩ (.int .i64 (st2 : Nat)) = V9 at B9 O9 G9 ⊢
    have t2 := blk_cell B9.out 2
    have f2 := blk_free B9.out 2
    have s10 := blk_set B9.out 2 (.int .i64 (rd2 : Nat))
    simp only [List.setIfInBounds_toArray, List.set_cons_zero, List.set_cons_succ] at s10
    have B10 := Lib.hid s10
    have g10 := gr_set V9 g 2 (.int .i64 (rd2 : Nat))
    have O10 := Lib.hid (O9.out.far g10 (Ne.symm hgn))
    have G10 := Lib.hid (gr_trans G9.out g10)
    clear s10 g10
    go_wp2
    all_goals
      go_ret2
      refine ⟨⟨_, rfl, ?_⟩, B10.out, G10.out⟩
      first
      | (rw [← HCUT.out]; exact O10.out)
      | (obtain rfl : m = l := by first | assumption | omega
         rw [← HCUT.out]; exact O10.out)
/-- Read, of a buffer as it lies. -/
theorem read_at (B g G pc m : Nat) (pa : Option Addr) (s : St) (k : Int) (w : World) (K : Ok s) (R : RvAt B g G pa pc s w) (hG : G < w.heap.size) (hk : 0 ≤ k) (hm : min k (s.ready : Int) = (m : Int)) :
    Calls Try.prog 14 #[.pointer (some ⟨g, 0, none⟩), .int .i64 k] w fun e w' => (∃ a, e = .returned (.tuple #[.slice a m m, .int .i64 0]) ∧ OwnSl w.heap.size a (cutF s.ring s.sz s.start m) m w') ∧ RvAt B g G pa pc (readF s m) w' ∧ w.grownBy w' (some g) := by
  refine (read_ok B g G s.sz s.start s.ready s.next m s.parts.length pc s.count pa k s.ring w R.blk R.ring K.rl K.sz0 K.sz1 K.st K.rd hG hk hm).mono ?_
  rintro e w' ⟨h1, h2, h3⟩
  exact ⟨h1, ⟨h2, R.ring.far h3 R.gG, R.own.grown h3 (fun g' e1 e2 => by have := Option.some.inj e2; subst this; exact R.pg e1), R.gG, R.pg, R.pG, R.Bg⟩, h3⟩
end Go.Proofs.Ytknebjfdggimcaa
