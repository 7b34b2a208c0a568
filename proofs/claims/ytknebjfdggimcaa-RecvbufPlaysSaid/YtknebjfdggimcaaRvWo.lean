/- Recvbuf: the document's Insert by one word; both buffers side by side. -/
import Derived.Test.YtknebjfdggimcaaRvWi
import Derived.Test.YtknebjfdggimcaaRvWj
import Derived.Test.YtknebjfdggimcaaRvWk
import Derived.Test.YtknebjfdggimcaaRvWm
import Derived.Test.YtknebjfdggimcaaRvWg
import Derived.Test.YtknebjfdggimcaaGSpoil
namespace Go.Proofs.Ytknebjfdggimcaa.Rv
theorem mg_of {s : St} {w : DSt} {Z : List ZP} (K : Ok s) (R : Rel s w Z) (l : Nat) (d : List Nat) (hw : l + d.length ≤ win s) (hA : Adds w.parts l d) :
    lowF w.parts l d ≤ highF w.parts l d ∧ highF w.parts l d ≤ 1048576 ∧ (∀ j, lowF w.parts l d ≤ j → j < highF w.parts l d → atF w.parts j = none → l ≤ j ∧ j < l + d.length) ∧
    ∃ p t, mergF w.parts l d (w.turn + 1) = p :: t ∧ t.length ≤ 2000 ∧ (p.1 = 0 → (0 < p.2.1.length ∧ p.2.1.length ≤ 1048576) ∧ ∀ x ∈ t, p.2.1.length ≤ x.1 ∧ x.1 ≤ 1048576 ∧ 0 < x.2.1.length) := by
  have M := mid_of K.wf l (l + d.length)
  obtain ⟨e1, e2⟩ := rel_lh K R l d
  have hs := K.sz1
  have hwin : win s = s.sz - s.ready := rfl
  have hb : ∀ p ∈ s.parts, p.2.1 ≤ win s := fun p hp => (K.wf.2 p hp).2.2
  have hhi := M.hib (win s) hw hb
  have hd0 : 0 < d.length := by obtain ⟨i, hi, _⟩ := hA; omega
  have ml := M.ll
  have mr := M.rr
  have eA : pA s.parts l = (zA Z l).map pS := by rw [R.hs, zA_map]
  have eC : pC s.parts l (l + d.length) = (zC Z l (l + d.length)).map pS := by rw [R.hs, zC_map]
  have ez := z_eq Z l (l + d.length)
  have hmA : ∀ z ∈ zA Z l, z ∈ Z := fun z hz => by rw [ez]; exact List.mem_append_left _ hz
  have hmC : ∀ z ∈ zC Z l (l + d.length), z ∈ Z := fun z hz => by rw [ez]; exact List.mem_append_right _ (List.mem_append_right _ hz)
  have hWf : ∀ z ∈ Z, 0 < z.l ∧ z.l < z.r ∧ z.r ≤ win s := fun z hz => K.wf.2 (pS z) (by rw [R.hs]; exact List.mem_map_of_mem hz)
  have hZl : Z.length ≤ 1024 := by have := K.pl; rw [R.hs, List.length_map] at this; exact this
  rw [e1, e2]
  refine ⟨by omega, by omega, ?_, ?_⟩
  · intro j h1 h2 h3
    rw [rel_at R] at h3
    rcases M.cov j h1 h2 with h4 | h4
    · exact h4
    · exact absurd ((cov_split s.parts l (l + d.length) j).2 (.inr (.inl h4))) h3
  · rw [merg_is K R l d (w.turn + 1)]
    have hAl : (zA Z l).length + (zC Z l (l + d.length)).length ≤ Z.length := by
      have := congrArg List.length ez
      rw [List.length_append, List.length_append] at this
      omega
    cases hzA : zA Z l with
    | cons z t =>
      refine ⟨_, _, rfl, ?_, ?_⟩
      · rw [hzA, List.length_cons] at hAl
        show (t.map pW ++ _ :: _).length ≤ 2000
        rw [List.length_append, List.length_cons, List.length_map, List.length_map]
        omega
      · intro h0
        have h1 := hWf z (hmA z (by rw [hzA]; exact List.mem_cons_self))
        have h2 : z.l = 0 := h0
        omega
    | nil =>
      refine ⟨_, _, rfl, ?_, ?_⟩
      · rw [List.length_map]; omega
      · intro h0
        have h1 : lo s.parts l (l + d.length) = 0 := h0
        have hl := mB_len w.parts l d (lo s.parts l (l + d.length)) (hi s.parts l (l + d.length))
        show (0 < (mB _ _ _ _ _).length ∧ (mB _ _ _ _ _).length ≤ _) ∧ _
        refine ⟨by rw [hl]; omega, fun x hx => ?_⟩
        obtain ⟨z, hz, rfl⟩ := List.mem_map.1 hx
        have h3 := M.chi (pS z) (by rw [eC]; exact List.mem_map_of_mem hz)
        have h4 : (pS z).1 = z.l := rfl
        have h5 := hWf z (hmC z hz)
        have h6 := R.hl z (hmC z hz)
        show (mB _ _ _ _ _).length ≤ z.l ∧ z.l ≤ _ ∧ 0 < z.b.length
        rw [hl]
        omega
end Go.Proofs.Ytknebjfdggimcaa.Rv
namespace Go.Proofs.Ytknebjfdggimcaa
open Go.RowKit Go.Proofs.Ytknebjfdggimcaa.Rv
variable {Q : Nat → Prop} {C g rc pc : Nat} {ra pa : Option Addr} {ps : List DP} {s : DSt}
theorem dn_of {s0 : St} {Z : List ZP} (K : Ok s0) (Rl : Rel s0 s Z) (ht : s.turn ≤ 4611686018427387904) (hm : ps.map dpt = s.parts) : DN s ps := by
  have hWf : ∀ z ∈ Z, 0 < z.l ∧ z.l < z.r ∧ z.r ≤ win s0 := fun z hz => K.wf.2 (pS z) (by rw [Rl.hs]; exact List.mem_map_of_mem hz)
  have hZl : Z.length ≤ 1024 := by have := K.pl; rw [Rl.hs, List.length_map] at this; exact this
  have hrl : s.ready.length = s0.ready := by rw [Rl.rd, List.length_map, List.length_range]
  have hpl : ps.length = Z.length := by rw [← List.length_map (f := dpt), hm, Rl.hw, List.length_map]
  have hs := K.sz1
  have hwin : win s0 = s0.sz - s0.ready := rfl
  refine ⟨by rw [Rl.sz]; exact hs, by rw [hrl, Rl.sz]; exact K.rd, by rw [Rl.nx]; exact K.nx, ht, by omega, fun p hp => ?_⟩
  have h1 : dpt p ∈ s.parts := by rw [← hm]; exact List.mem_map_of_mem hp
  rw [Rl.hw] at h1
  obtain ⟨z, hz, e⟩ := List.mem_map.1 h1
  have e1 : z.l = p.1 := congrArg (·.1) e
  have e2 : z.b = p.2.1.2.1 := congrArg (·.2.1) e
  have h2 := hWf z hz
  have h3 := Rl.hl z hz
  rw [← e1, ← e2]
  omega
theorem min_cut {y n k : Nat} (h : 0 < min k (n - min y n)) : y < n ∧ 0 < k := by omega
open Classical in
set_option maxHeartbeats 1000000 in
theorem rins_ok {s0 : St} {Z : List ZP} (K : Ok s0) (Rl : Rel s0 s Z) (ht : s.turn ≤ 4611686018427387904) (w : World) (h : DA C Q g ra rc pa pc ps s w) (hRl : ∀ k, Q k → k < w.heap.size) (hC : C ≤ w.heap.size) (q : Nat) (hq : q < 4294967296) (da : Option Addr) (dc : Nat) (ds : List Nat) (hdl : ds.length ≤ 65535) (hdc : ds.length ≤ dc) (hX : Bts w da ds) :
    Calls Try.prog 12 #[.pointer (some ⟨g, 0, none⟩), .int .u32 (q : Nat), .slice da ds.length dc] w fun e w' => e = .returned (.tuple #[.int .i64 ((dIn s (clipL s0 q) (clipD s0 q ds)).2.1 : Nat), .int .i64 ((dIn s (clipL s0 q) (clipD s0 q ds)).2.2 : Nat)]) ∧ (∃ ra' rc' pa' pc' ps', DA C (fun k => Q k ∨ w.heap.size ≤ k) g ra' rc' pa' pc' ps' (dIn s (clipL s0 q) (clipD s0 q ds)).1 w') ∧ Turns Q w w' := by
  have N := dn_of K Rl ht h.map
  have hrl : s.ready.length = s0.ready := by rw [Rl.rd, List.length_map, List.length_range]
  have hwn : s.sz - s.ready.length = win s0 := by rw [Rl.sz, hrl]; rfl
  obtain ⟨c1, c2, c3⟩ := clip_is s0 q ds hq K hdl
  rw [← Rl.nx] at c1 c2 c3
  have hle := clip_le s0 q ds
  have hsame : ∀ w', Below w.heap.size w w' → (∃ ra' rc' pa' pc' ps', DA C (fun k => Q k ∨ w.heap.size ≤ k) g ra' rc' pa' pc' ps' s w') ∧ Turns Q w w' := fun w' hb => ⟨⟨ra, rc, pa, pc, ps, (h.below hb).mono fun k hk => .inl hk⟩, Turns.of_below _ hb⟩
  have hnone : ∀ l d, ¬ Adds s.parts l d → dIn s l d = (s, 0, 0) := fun l d hn => by unfold dIn; rw [if_neg hn]
  by_cases hAd : Adds s.parts (clipL s0 q) (clipD s0 q ds)
  case neg =>
    rw [hnone _ _ hAd]
    by_cases h1 : dist q s.next < win s0
    · obtain ⟨e1, e2⟩ := c1 h1
      refine (rins_a0 w h N q hq da dc ds hdl hdc hX (by rw [hwn]; exact h1) _ rfl _ (by rw [hwn, ← e2]) (by rw [← e1]; exact hAd)).mono ?_
      rintro e w' ⟨rfl, hb⟩
      exact ⟨rfl, hsame w' hb⟩
    · by_cases h2 : dist q s.next < 2147483648
      · refine (rins_past w h N q hq da dc ds hdl ⟨by rw [hwn]; exact Nat.le_of_not_lt h1, h2⟩).mono ?_
        rintro e w' ⟨rfl, hb⟩
        exact ⟨rfl, hsame w' hb⟩
      · obtain ⟨e1, e2⟩ := c3 (Nat.le_of_not_lt h2)
        by_cases h3 : ds.length ≤ 4294967296 - dist q s.next ∨ s.sz - s.ready.length = 0
        · refine (rins_behind0 w h N q hq da dc ds hdl hdc (Nat.le_of_not_lt h2) h3).mono ?_
          rintro e w' ⟨rfl, hb⟩
          exact ⟨rfl, hsame w' hb⟩
        · have h4 := not_or.1 h3
          refine (rins_b0 w h N q hq da dc ds hdl hdc hX (Nat.le_of_not_lt h2) (Nat.lt_of_not_le h4.1) (Nat.pos_of_ne_zero h4.2) 0 rfl _ (by rw [hwn, ← e2]) (by rw [← e1]; exact hAd)).mono ?_
          rintro e w' ⟨rfl, hb⟩
          exact ⟨rfl, hsame w' hb⟩
  case pos =>
    obtain ⟨hlh, hh2, hcv, p, t, hM, htl, hp0⟩ := mg_of K Rl _ _ hle hAd
    have hd0 : 0 < (clipD s0 q ds).length := by obtain ⟨i, hi, _⟩ := hAd; omega
    have hdi : dIn s (clipL s0 q) (clipD s0 q ds) = if 1024 < (if p.1 = 0 then t.length else t.length + 1) then (s, 0, 81) else if 0 < p.1 then ({ s with parts := p :: t, turn := s.turn + 1 }, 0, 0) else ({ s with parts := t.map fun x => (x.1 - p.2.1.length, x.2), turn := s.turn + 1, ready := s.ready ++ p.2.1, next := (s.next + p.2.1.length) % 4294967296 }, p.2.1.length, 0) := by
      unfold dIn; rw [if_pos hAd, hM]
    rw [hdi]
    by_cases h1 : dist q s.next < win s0
    · obtain ⟨e1, e2⟩ := c1 h1
      rw [e1] at hAd hlh hh2 hcv hM
      have hd := e2
      rw [← hwn] at hd
      by_cases hf : 1024 < (if p.1 = 0 then t.length else t.length + 1)
      · rw [if_pos hf]
        refine (rins_a1 w h N q hq da dc ds hdl hdc hX (by rw [hwn]; exact h1) _ rfl _ hd.symm hAd hlh hh2 hcv p t hM htl hf).mono ?_
        rintro e w' ⟨rfl, hb⟩
        exact ⟨rfl, hsame w' hb⟩
      · rw [if_neg hf]
        by_cases hp : 0 < p.1
        · rw [if_pos hp]
          rw [if_neg (by omega)] at hf
          refine (rins_a2 w h N q hq da dc ds hdl hdc hX hRl hC (by rw [hwn]; exact h1) _ rfl _ hd.symm hAd hlh hh2 hcv p t hM hf hp).mono ?_
          rintro e w' ⟨rfl, ⟨pa', pc', ps', hD⟩, hT⟩
          exact ⟨rfl, ⟨ra, rc, pa', pc', ps', hD⟩, hT⟩
        · rw [if_neg hp]
          have hpz : p.1 = 0 := by omega
          rw [if_pos hpz] at hf
          exact rins_a3 w h N q hq da dc ds hdl hdc hX hRl hC (by rw [hwn]; exact h1) _ rfl _ hd.symm hAd hlh hh2 hcv p t hM hf hpz (hp0 hpz).1 (hp0 hpz).2
    · by_cases h2 : dist q s.next < 2147483648
      · rw [c2 (Nat.le_of_not_lt h1) h2] at hd0; exact absurd hd0 (by simp)
      · obtain ⟨e1, e2⟩ := c3 (Nat.le_of_not_lt h2)
        rw [e1] at hAd hlh hh2 hcv hM
        have hd := e2
        rw [← hwn] at hd
        have hm0 : 4294967296 - dist q s.next < ds.length ∧ 0 < s.sz - s.ready.length := by
          rw [hd, List.length_take, List.length_drop] at hd0
          exact min_cut hd0
        by_cases hf : 1024 < (if p.1 = 0 then t.length else t.length + 1)
        · rw [if_pos hf]
          refine (rins_b1 w h N q hq da dc ds hdl hdc hX (Nat.le_of_not_lt h2) hm0.1 hm0.2 0 rfl _ hd.symm hAd hlh hh2 hcv p t hM htl hf).mono ?_
          rintro e w' ⟨rfl, hb⟩
          exact ⟨rfl, hsame w' hb⟩
        · rw [if_neg hf]
          by_cases hp : 0 < p.1
          · rw [if_pos hp]
            rw [if_neg (by omega)] at hf
            refine (rins_b2 w h N q hq da dc ds hdl hdc hX hRl hC (Nat.le_of_not_lt h2) hm0.1 hm0.2 0 rfl _ hd.symm hAd hlh hh2 hcv p t hM hf hp).mono ?_
            rintro e w' ⟨rfl, ⟨pa', pc', ps', hD⟩, hT⟩
            exact ⟨rfl, ⟨ra, rc, pa', pc', ps', hD⟩, hT⟩
          · rw [if_neg hp]
            have hpz : p.1 = 0 := by omega
            rw [if_pos hpz] at hf
            exact rins_b3 w h N q hq da dc ds hdl hdc hX hRl hC (Nat.le_of_not_lt h2) hm0.1 hm0.2 0 rfl _ hd.symm hAd hlh hh2 hcv p t hM hf hpz (hp0 hpz).1 (hp0 hpz).2
end Go.Proofs.Ytknebjfdggimcaa

namespace Go.Proofs.Ytknebjfdggimcaa
open Go.RowKit Go.Proofs.Ytknebjfdggimcaa.Rv

theorem Btw.turns {B C : Nat} {w w' : World} (h : Btw B C w w') : Turns (fun k => B ≤ k ∧ k < C) w w' := ⟨h.os, h.tape, h.output, h.size, fun k hk hs => h.block k hk (by
  by_cases h1 : k < B
  · exact .inl h1
  · exact .inr (by by_cases h2 : k < C
                   · exact absurd ⟨Nat.le_of_not_lt h1, h2⟩ hs
                   · omega))⟩
theorem bts_turnedN {S : Nat → Prop} {w w' : World} {a : Option Addr} {xs : List Nat} (Y : Bts w a xs) (h : Turns S w w') (hS : ∀ b o, a = some ⟨b, o, none⟩ → 0 < xs.length → ¬ S b) : Bts w' a xs := by
  by_cases h0 : 0 < xs.length
  · exact Y.turned h (fun b o e => hS b o e h0)
  · obtain rfl : xs = [] := List.eq_nil_of_length_eq_zero (by omega)
    exact Bts.nil _ _
theorem in_okF {s : St} (K : Ok s) {l : Nat} {d : List Nat} (hw : l + d.length ≤ win s) (hc : s.count + 1 ≤ 4611686018427387904) : Ok (inF s l d).1 ∧ (inF s l d).1.count ≤ s.count + 1 := by
  by_cases h : (inF s l d).2.2 = 0
  · have I := in_spec K hw h
    have k := I.ok
    exact ⟨⟨k.sz0, k.sz1, k.rl, k.st, k.rd, k.nx, k.wf, k.pl, Nat.le_trans I.ct hc⟩, I.ct⟩
  · have e : (inF s l d).1 = s := by
      unfold inF at h ⊢
      simp only at h ⊢
      split
      · rfl
      · rename_i h1
        rw [if_neg h1] at h
        split
        · rfl
        · rename_i h2
          rw [if_neg h2] at h
          exact absurd rfl h
    rw [e]; exact ⟨K, by omega⟩
open Classical in
theorem dIn_turn (w : DSt) (l : Nat) (d : List Nat) : (dIn w l d).1.turn ≤ w.turn + 1 := by
  unfold dIn
  repeat' split
  all_goals first | exact Nat.le_succ w.turn | exact Nat.le_refl (w.turn + 1)

set_option maxRecDepth 100000 in
set_option maxHeartbeats 1000000 in
theorem grow_more (g G n st rd nx : Nat) (pa : Option Addr) (pl pc ct : Nat) (k : Int) (w : World) (hB : w.heap[g]? = some (.cells #[.slice (some ⟨G, 0, none⟩) n n, .int .i64 (st : Nat), .int .i64 (rd : Nat), .int .u32 (nx : Nat), .slice pa pl pc, .int .i64 (ct : Nat)] 70 (0, 0))) (hn : n ≤ 1048576) (hk : 1048576 < k) : Calls Try.prog 17 #[.pointer (some ⟨g, 0, none⟩), .int .i64 k] w fun e w' => e = .returned (.int .i64 4) ∧ w = w' := by
  have HB := Lib.hid hB
  have c0 := blk_cell hB 0
  have h1 : ¬ (k < (n : Int)) := by omega
  clear hB
  go_enter Try.func17, Try.ntmps17
  go_wp2_with (first | (go_at_call 28; refine (made_yes g G n st rd nx pa pl pc ct _ HB.out).mono ?_; rintro e w' ⟨rfl, rfl⟩) | fail)
  go_ret
  exact ⟨rfl, rfl⟩
set_option maxHeartbeats 400000 in
theorem new_no (sz : Int) (un : Int) (w : World) (h : ¬ (1 ≤ sz ∧ sz ≤ 1048576)) :
    Calls Try.prog 7 #[.int .i64 sz, .int .u32 un] w fun e w' => e = .returned (.tuple #[.pointer none, .int .i64 4]) ∧ w = w' := by
  by_cases h1 : sz < 1
  case pos =>
    clear h
    go_enter Try.func7, Try.ntmps7
    go_wp2
    go_ret2
    exact ⟨rfl, rfl⟩
  case neg =>
    have h2 : 1048576 < sz := by omega
    clear h
    go_enter Try.func7, Try.ntmps7
    go_wp2
    go_ret2
    exact ⟨rfl, rfl⟩

/-- Where both buffers lie, and what they hold. -/
structure JD where
  G : Nat
  pa : Option Addr
  pc : Nat
  s0 : St
  ra : Option Addr
  rc : Nat
  qa : Option Addr
  qc : Nat
  ps : List DP
  s : DSt
  R : Nat → Prop
  Z : List ZP
/-- Both agree. -/
structure J (B g gb i : Nat) (d : JD) (W : World) : Prop where
  ok : Ok d.s0
  rel : Rel d.s0 d.s d.Z
  ct : d.s0.count ≤ i
  tn : d.s.turn ≤ i
  rv : RvAt B g d.G d.pa d.pc d.s0 W
  da : DA B d.R gb d.ra d.rc d.qa d.qc d.ps d.s W
  sep : ∀ k, d.R k → k < W.heap.size ∧ B ≤ k ∧ ¬ IS g d.G d.pa k
  Gl : d.G < W.heap.size
  GB : B ≤ d.G
/-- The blocks of both. -/
def MB (g : Nat) (d : JD) (k : Nat) : Prop := IS g d.G d.pa k ∨ d.R k
variable {B g gb i : Nat} {d : JD} {W W' : World}
theorem J.mine (h : J B g gb i d W) : ∀ k, MB g d k → k < W.heap.size ∧ B ≤ k := by
  rintro k ((rfl | rfl | e) | e)
  · exact ⟨blk_lt h.rv.blk, h.rv.Bg⟩
  · exact ⟨h.Gl, h.GB⟩
  · have := h.rv.own.ltB k e; have h2 := h.rv.own.ownB k (by rw [e]; rfl); exact ⟨this, h2.1⟩
  · have := h.sep k e; exact ⟨this.1, this.2.1⟩
theorem J.next (h : J B g gb i d W) : J B g gb (i + 1) d W := ⟨h.ok, h.rel, by have := h.ct; omega, by have := h.tn; omega, h.rv, h.da, h.sep, h.Gl, h.GB⟩
theorem rv_turned {S : Nat → Prop} {G pc : Nat} {pa : Option Addr} {s : St} (h : RvAt B g G pa pc s W) (ht : Turns S W W') (hS : ∀ k, IS g G pa k → ¬ S k) : RvAt B g G pa pc s W' :=
  ⟨ht.blk h.blk (hS g (.inl rfl)), h.ring.turned ht (fun k e => by cases e; exact hS _ (.inr (.inl rfl))), h.own.turned ht (fun k e => hS k (.inr (.inr e))), h.gG, h.pg, h.pG, h.Bg⟩
theorem J.turned {S : Nat → Prop} (h : J B g gb i d W) (ht : Turns S W W') (hS : ∀ k, MB g d k → ¬ S k) : J B g gb i d W' :=
  ⟨h.ok, h.rel, h.ct, h.tn, rv_turned h.rv ht (fun k hk => hS k (.inl hk)), h.da.turned ht (fun k hk => hS k (.inr hk)), fun k hk => by have := h.sep k hk; have := ht.size; exact ⟨by omega, by omega, (h.sep k hk).2.2⟩, Nat.lt_of_lt_of_le h.Gl ht.size, h.GB⟩
theorem J.below (h : J B g gb i d W) (hb : Below W.heap.size W W') : J B g gb i d W' :=
  h.turned (S := fun k => W.heap.size ≤ k) ⟨hb.os, hb.tape, hb.output, hb.size, fun k hk _ => hb.block k hk⟩ (fun k hk => by have := h.mine k hk; omega)
/-- Behind a call on both. -/
def JS2 (B g gb i : Nat) (d : JD) (W W' : World) : Prop := ∃ d', J B g gb i d' W' ∧ Turns (MB g d) W W' ∧ ∀ k, MB g d' k → MB g d k ∨ W.heap.size ≤ k
theorem da_cut {R : Nat → Prop} {C gb rc pc : Nat} {ra pa : Option Addr} {ps : List DP} {s : DSt} (h : DA C R gb ra rc pa pc ps s W) (hp : ∀ p ∈ ps, 0 < p.2.1.2.1.length) : DA C (fun k => R k ∧ k < W.heap.size) gb ra rc pa pc ps s W :=
  ⟨h.blk, h.rdy, h.own, h.oct, h.map, h.gr, h.gp, h.rp, h.go, ⟨h.ig, blk_lt h.blk⟩, fun k o e => ⟨h.ir k o e, (h.rdy.geB k o e).2⟩, fun k e => ⟨h.ip k e, h.own.ltB k e⟩, fun p hpm k o fr e => ⟨h.io p hpm k o fr e, by
    obtain ⟨b, off, e2, hb, _⟩ := (h.oct p hpm).isSome (hp p hpm)
    rw [e] at e2
    injection e2 with e2
    injection e2 with e2
    omega⟩⟩
/-- A program's call, then the document's: the two put together. -/
theorem j_make3 {s1 : St} {t1 : DSt} {Z1 : List ZP} {G1 pc1 : Nat} {pa1 : Option Addr} {W1 W2 : World} (h : J B g gb i d W) (K1 : Ok s1) (R1 : Rel s1 t1 Z1) (hc : s1.count ≤ i + 1) (ht : t1.turn ≤ i + 1) (hi : i + 1 ≤ 4611686018427387904)
    (rv : RvAt B g G1 pa1 pc1 s1 W1) (T1 : Turns (IS g d.G d.pa) W W1) (hpa : ∀ k, IS g G1 pa1 k → IS g d.G d.pa k ∨ W.heap.size ≤ k) (hG : G1 < W1.heap.size) (hGB : B ≤ G1)
    (da : ∃ ra' rc' pa' pc' ps', DA B (fun k => d.R k ∨ W1.heap.size ≤ k) gb ra' rc' pa' pc' ps' t1 W2) (T2 : Turns d.R W1 W2) : ∃ d', J B g gb (i + 1) d' W2 ∧ Turns (MB g d) W W2 ∧ ∀ k, MB g d' k → IS g G1 pa1 k ∨ d.R k ∨ W1.heap.size ≤ k := by
  obtain ⟨ra', rc', pa', pc', ps', hD⟩ := da
  have N := dn_of K1 R1 (by omega) hD.map
  have hsz := T1.size
  have hB : B ≤ W.heap.size := by have := h.mine g (.inl (.inl rfl)); omega
  have mineP : ∀ k, IS g G1 pa1 k → k < W1.heap.size := by
    rintro k (rfl | rfl | e)
    · exact blk_lt rv.blk
    · exact hG
    · exact rv.own.ltB k e
  have hsepR : ∀ k, d.R k ∨ W1.heap.size ≤ k → B ≤ k ∧ ¬ IS g G1 pa1 k := by
    rintro k (hk | hk)
    · have h1 := h.sep k hk
      refine ⟨h1.2.1, fun h2 => ?_⟩
      rcases hpa k h2 with h3 | h3
      · exact h1.2.2 h3
      · omega
    · exact ⟨by omega, fun h2 => by have := mineP k h2; omega⟩
  refine ⟨⟨G1, pa1, pc1, s1, ra', rc', pa', pc', ps', t1, fun k => (d.R k ∨ W1.heap.size ≤ k) ∧ k < W2.heap.size, Z1⟩, ⟨K1, R1, hc, ht, rv_turned rv T2 (fun k hk hr => (hsepR k (.inl hr)).2 hk), da_cut hD (fun p hp => (N.pb p hp).1), fun k hk => ⟨hk.2, (hsepR k hk.1).1, (hsepR k hk.1).2⟩, Nat.lt_of_lt_of_le hG T2.size, hGB⟩, (T1.mono (fun k hk => .inl hk)).trans (T2.mono (fun k hk => .inr hk)), ?_⟩
  rintro k (hk | hk)
  · exact .inl hk
  · exact .inr hk.1
theorem j_make {s1 : St} {t1 : DSt} {Z1 : List ZP} {G1 pc1 : Nat} {pa1 : Option Addr} {W1 W2 : World} (h : J B g gb i d W) (K1 : Ok s1) (R1 : Rel s1 t1 Z1) (hc : s1.count ≤ i + 1) (ht : t1.turn ≤ i + 1) (hi : i + 1 ≤ 4611686018427387904)
    (rv : RvAt B g G1 pa1 pc1 s1 W1) (T1 : Turns (IS g d.G d.pa) W W1) (hpa : ∀ k, IS g G1 pa1 k → IS g d.G d.pa k ∨ W.heap.size ≤ k) (hG : G1 < W1.heap.size) (hGB : B ≤ G1)
    (da : ∃ ra' rc' pa' pc' ps', DA B (fun k => d.R k ∨ W1.heap.size ≤ k) gb ra' rc' pa' pc' ps' t1 W2) (T2 : Turns d.R W1 W2) : JS2 B g gb (i + 1) d W W2 := by
  obtain ⟨d', h1, h2, h3⟩ := j_make3 h K1 R1 hc ht hi rv T1 hpa hG hGB da T2
  refine ⟨d', h1, h2, fun k hk => ?_⟩
  rcases h3 k hk with h4 | h4 | h4
  · rcases hpa k h4 with h5 | h5
    · exact .inl (.inl h5)
    · exact .inr h5
  · exact .inl (.inr h4)
  · exact .inr (Nat.le_trans T1.size h4)
/-- Insert on both. -/
theorem j_ins (h : J B g gb i d W) (hi : i + 1 ≤ 4611686018427387904) (q : Nat) (hq : q < 4294967296) (oa : Option Addr) (oc : Nat) (da : Option Addr) (dc : Nat) (ds : List Nat) (X : Bts W oa ds) (hoc : ds.length ≤ oc) (hon : oa = none → oc = 0) (hX : ∀ b o, oa = some ⟨b, o, none⟩ → ds ≠ [] → ¬ IS g d.G d.pa b) (hdc : ds.length ≤ dc) (hY : Bts W da ds) (hYB : ∀ b o, da = some ⟨b, o, none⟩ → 0 < ds.length → b < B) :
    ∃ kk er : Nat, Calls Try.prog 11 #[.pointer (some ⟨g, 0, none⟩), .int .u32 (q : Nat), .slice oa ds.length oc] W fun e W1 => e = .returned (.tuple #[.int .i64 (kk : Nat), .int .i64 (er : Nat)]) ∧ Turns (IS g d.G d.pa) W W1 ∧
      Calls Try.prog 12 #[.pointer (some ⟨gb, 0, none⟩), .int .u32 (q : Nat), .slice da ds.length dc] W1 fun e W2 => e = .returned (.tuple #[.int .i64 (kk : Nat), .int .i64 (er : Nat)]) ∧ JS2 B g gb (i + 1) d W W2 := by
  have hB : B ≤ W.heap.size := by have := h.mine g (.inl (.inl rfl)); omega
  refine ⟨(insF d.s0 q ds).2.1, (insF d.s0 q ds).2.2, (insert_ok B g d.G d.pc d.pa d.s0 q oa oc ds W h.ok h.rv X hoc hon hq hB h.Gl (fun b o e hne => ⟨fun e2 => hX b o e hne (.inl e2), fun e2 => hX b o e hne (.inr (.inl e2))⟩)).mono ?_⟩
  rintro e W1 ⟨rfl, pa', pc', hrv, hT, hpa⟩
  refine ⟨rfl, hT, ?_⟩
  have hpa2 : ∀ k, IS g d.G pa' k → IS g d.G d.pa k ∨ W.heap.size ≤ k := by
    rintro k (e | e | e)
    · exact .inl (.inl e)
    · exact .inl (.inr (.inl e))
    · rcases hpa k e with h1 | h1
      · exact .inl (.inr (.inr h1))
      · exact .inr h1
  have hDA := h.da.turned hT (fun k hk h2 => (h.sep k hk).2.2 h2)
  have hYB2 : ∀ b o, da = some ⟨b, o, none⟩ → 0 < ds.length → ¬ IS g d.G d.pa b := fun b o e hl h2 => by have := hYB b o e hl; have := h.mine b (.inl h2); omega
  by_cases h5 : 65535 < ds.length
  · have e1 : insF d.s0 q ds = (d.s0, 0, 5) := by unfold insF; rw [if_pos h5]
    rw [e1] at hrv ⊢
    refine (rins_long W1 q da dc ds h5).mono ?_
    rintro e W2 ⟨rfl, rfl⟩
    exact ⟨rfl, j_make h h.ok h.rel (by have := h.ct; omega) (by have := h.tn; omega) hi hrv hT hpa2 (Nat.lt_of_lt_of_le h.Gl hT.size) h.GB ⟨_, _, _, _, _, hDA.mono fun k hk => .inl hk⟩ (Turns.refl _ _)⟩
  · have e1 : insF d.s0 q ds = inF d.s0 (clipL d.s0 q) (clipD d.s0 q ds) := by unfold insF; rw [if_neg h5]
    have hle := clip_le d.s0 q ds
    obtain ⟨e2, Z1, R1⟩ := rel_in h.ok h.rel (clipL d.s0 q) (clipD d.s0 q ds) hle
    obtain ⟨K1, C1⟩ := in_okF h.ok hle (by have := h.ct; omega)
    rw [e1] at hrv ⊢
    rw [e2]
    refine (rins_ok h.ok h.rel (by have := h.tn; omega) W1 hDA (fun k hk => Nat.lt_of_lt_of_le (h.sep k hk).1 hT.size) (Nat.le_trans hB hT.size) q hq da dc ds (by omega) hdc (bts_turnedN hY hT hYB2)).mono ?_
    rintro e W2 ⟨rfl, hD, hT2⟩
    exact ⟨rfl, j_make h K1 R1 (by have := h.ct; omega) (Nat.le_trans (dIn_turn _ _ _) (by have := h.tn; omega)) hi hrv hT hpa2 (Nat.lt_of_lt_of_le h.Gl hT.size) h.GB hD hT2⟩
/-- Read on both. -/
theorem j_read (h : J B g gb i d W) (hi : i + 1 ≤ 4611686018427387904) (k : Int) :
    ∃ (ys : List Nat) (er : Nat), ys.length ≤ 1048576 ∧ Calls Try.prog 14 #[.pointer (some ⟨g, 0, none⟩), .int .i64 k] W fun e W1 => ∃ a c, e = .returned (.tuple #[.slice a ys.length c, .int .i64 (er : Nat)]) ∧ Turns (IS g d.G d.pa) W W1 ∧ OwnSl W.heap.size a ys c W1 ∧
      Calls Try.prog 15 #[.pointer (some ⟨gb, 0, none⟩), .int .i64 k] W1 fun e W2 => ∃ a2 c2, e = .returned (.tuple #[.slice a2 ys.length c2, .int .i64 (er : Nat)]) ∧ OwnSl W.heap.size a ys c W2 ∧ Bts W2 a2 ys ∧ W1.heap.size ≤ W2.heap.size ∧ ∃ d', J B g gb (i + 1) d' W2 ∧ Turns (MB g d) W W2 ∧ ∀ k, MB g d' k → MB g d k ∨ W1.heap.size ≤ k := by
  have hpa2 : ∀ k, IS g d.G d.pa k → IS g d.G d.pa k ∨ W.heap.size ≤ k := fun k hk => .inl hk
  by_cases hk : k < 0
  · refine ⟨[], 4, by simp, (read_neg g d.G d.s0.sz d.s0.start d.s0.ready d.s0.next d.pa d.s0.parts.length d.pc d.s0.count k W h.rv.blk hk).mono ?_⟩
    rintro e W1 ⟨rfl, rfl⟩
    refine ⟨none, 0, rfl, Turns.refl _ _, own_nil _ _, (rread_no k W hk).mono ?_⟩
    rintro e W2 ⟨rfl, rfl⟩
    exact ⟨none, 0, rfl, own_nil _ _, Bts.nil _ _, Nat.le_refl _, d, h.next, Turns.refl _ _, fun k hk => .inl hk⟩
  · have hrl : d.s.ready.length = d.s0.ready := by rw [h.rel.rd, List.length_map, List.length_range]
    obtain ⟨m, hm⟩ : ∃ m : Nat, min k (d.s0.ready : Int) = (m : Int) := ⟨(min k (d.s0.ready : Int)).toNat, by omega⟩
    have hmr : m ≤ d.s0.ready := by omega
    have hcut := rel_cut h.ok h.rel hmr
    have hcl := cutF_len (n := d.s0.sz) (p := d.s0.start) (m := m) h.ok.rl
    have hrd := h.ok.rd
    have hs1 := h.ok.sz1
    refine ⟨cutF d.s0.ring d.s0.sz d.s0.start m, 0, by rw [hcl]; omega, ?_⟩
    rw [hcl]
    refine (read_at B g d.G d.pc m d.pa d.s0 k W h.ok h.rv h.Gl (by omega) hm).mono ?_
    rintro e W1 ⟨⟨a, rfl, hO⟩, hrv, hg⟩
    have hT : Turns (IS g d.G d.pa) W W1 := Turns.of_grown (fun z e => by cases e; exact .inl rfl) hg
    refine ⟨a, m, rfl, hT, hO, ?_⟩
    have hDA := h.da.turned hT (fun k hk h2 => (h.sep k hk).2.2 h2)
    refine (rread_at W1 hDA k m (by omega) (by rw [hrl]; exact hm)).mono ?_
    rintro e W2 ⟨⟨a2, c2, rfl, hY⟩, ⟨ra', rc', hD⟩, hT2⟩
    refine ⟨a2, c2, rfl, hO.turned hT2 (fun z e h2 => ?_), by rw [hcut]; exact hY, hT2.size, ?_⟩
    · have h3 := (h.sep z h2).1
      have h4 := hO.ownB z (by rw [e]; rfl)
      omega
    · obtain ⟨d', h1, h2, h3⟩ := j_make3 h (read_okF h.ok hmr) (rel_read h.rel hmr) (by have h3 : (readF d.s0 m).count = d.s0.count := rfl; have := h.ct; omega) (by have h3 : (dRead d.s m).turn = d.s.turn := rfl; have := h.tn; omega) hi hrv hT hpa2 (Nat.lt_of_lt_of_le h.Gl hT.size) h.GB ⟨_, _, _, _, _, hD.mono fun k hk => .inl hk⟩ hT2
      refine ⟨d', h1, h2, fun k hk => ?_⟩
      rcases h3 k hk with h4 | h4 | h4
      · exact .inl (.inl h4)
      · exact .inl (.inr h4)
      · exact .inr h4
/-- Grow on both. -/
theorem j_grow (h : J B g gb i d W) (hi : i + 1 ≤ 4611686018427387904) (k : Int) :
    ∃ er : Nat, Calls Try.prog 17 #[.pointer (some ⟨g, 0, none⟩), .int .i64 k] W fun e W1 => e = .returned (.int .i64 (er : Nat)) ∧ Turns (IS g d.G d.pa) W W1 ∧
      Calls Try.prog 18 #[.pointer (some ⟨gb, 0, none⟩), .int .i64 k] W1 fun e W2 => e = .returned (.int .i64 (er : Nat)) ∧ JS2 B g gb (i + 1) d W W2 := by
  have hB : B ≤ W.heap.size := by have := h.mine g (.inl (.inl rfl)); omega
  have hs1 := h.ok.sz1
  by_cases hk : (d.s0.sz : Int) ≤ k ∧ k ≤ 1048576
  · obtain ⟨m, rfl⟩ : ∃ m : Nat, k = m := ⟨k.toNat, by omega⟩
    refine ⟨0, (grow_at B g d.G d.pc m d.pa d.s0 W h.ok h.rv hB h.Gl (by omega) (by omega)).mono ?_⟩
    rintro e W1 ⟨rfl, hrv, hg⟩
    have hT : Turns (IS g d.G d.pa) W W1 := Turns.of_grown (fun z e => by cases e; exact .inl rfl) hg
    refine ⟨rfl, hT, ?_⟩
    have hDA := h.da.turned hT (fun k hk h2 => (h.sep k hk).2.2 h2)
    refine (rgrow_at W1 hDA m (by rw [h.rel.sz]; omega) (by omega)).mono ?_
    rintro e W2 ⟨rfl, hD, hT2⟩
    refine ⟨rfl, j_make h (grow_okF h.ok (by omega) (by omega)) (rel_grow h.ok h.rel (by omega)) (by have h3 : (growF d.s0 m).count = d.s0.count := rfl; have := h.ct; omega) (by have h3 : (dGrow d.s m).turn = d.s.turn := rfl; have := h.tn; omega) hi hrv hT ?_ ?_ hB ⟨_, _, _, _, _, hD.mono fun k hk => .inl hk⟩ hT2⟩
    · rintro z (e | e | e)
      · exact .inl (.inl e)
      · exact .inr (by omega)
      · exact .inl (.inr (.inr e))
    · exact (hrv.ring.row.2.lt _ rfl).2
  · have h4 : Calls Try.prog 17 #[.pointer (some ⟨g, 0, none⟩), .int .i64 k] W fun e w' => e = .returned (.int .i64 4) ∧ W = w' := by
      by_cases h1 : k < (d.s0.sz : Int)
      · exact grow_less g d.G d.s0.sz d.s0.start d.s0.ready d.s0.next d.pa d.s0.parts.length d.pc d.s0.count k W h.rv.blk h1
      · exact grow_more g d.G d.s0.sz d.s0.start d.s0.ready d.s0.next d.pa d.s0.parts.length d.pc d.s0.count k W h.rv.blk hs1 (by omega)
    refine ⟨4, h4.mono ?_⟩
    rintro e W1 ⟨rfl, rfl⟩
    refine ⟨rfl, Turns.refl _ _, (rgrow_no W h.da k (by rw [h.rel.sz]; exact hk)).mono ?_⟩
    rintro e W2 ⟨rfl, rfl⟩
    exact ⟨rfl, d, h.next, Turns.refl _ _, fun k hk => .inl hk⟩
/-- What both tell. -/
theorem j_next (h : J B g gb i d W) : Calls Try.prog 19 #[.pointer (some ⟨g, 0, none⟩)] W fun e w' => e = .returned (.int .u32 (d.s.next : Nat)) ∧ W = w' := by
  rw [h.rel.nx]
  exact next_ok g d.G d.s0.sz d.s0.start d.s0.ready d.s0.next d.pa d.s0.parts.length d.pc d.s0.count W h.rv.blk
theorem j_ready (h : J B g gb i d W) : Calls Try.prog 20 #[.pointer (some ⟨g, 0, none⟩)] W fun e w' => e = .returned (.int .i64 (d.s.ready.length : Nat)) ∧ W = w' := by
  have hrl : d.s.ready.length = d.s0.ready := by rw [h.rel.rd, List.length_map, List.length_range]
  rw [hrl]
  exact ready_ok g d.G d.s0.sz d.s0.start d.s0.ready d.s0.next d.pa d.s0.parts.length d.pc d.s0.count W h.rv.blk
theorem j_window (h : J B g gb i d W) : Calls Try.prog 21 #[.pointer (some ⟨g, 0, none⟩)] W fun e w' => e = .returned (.int .i64 (d.s.sz - d.s.ready.length : Nat)) ∧ Below W.heap.size W w' := by
  have hrl : d.s.ready.length = d.s0.ready := by rw [h.rel.rd, List.length_map, List.length_range]
  rw [hrl, h.rel.sz]
  have := h.ok.rd
  exact window_ok g d.G d.s0.sz d.s0.start d.s0.ready d.s0.next d.pa d.s0.parts.length d.pc d.s0.count W h.rv.blk _ (by omega) h.ok.sz1
theorem j_window2 (h : J B g gb i d W) : Calls Try.prog 22 #[.pointer (some ⟨gb, 0, none⟩)] W fun e w' => e = .returned (.int .i64 (d.s.sz - d.s.ready.length : Nat)) ∧ Below W.heap.size W w' := by
  have hrl : d.s.ready.length = d.s0.ready := by rw [h.rel.rd, List.length_map, List.length_range]
  exact rwindow_at W h.da (by rw [h.rel.sz]; exact h.ok.sz1) (by rw [hrl, h.rel.sz]; exact h.ok.rd)
theorem bksD_small (s : DSt) : small2 (bksD s) := by
  intro x hx
  obtain ⟨p, _, rfl⟩ := List.mem_map.1 hx
  exact ⟨Nat.mod_lt _ (by decide), Nat.mod_lt _ (by decide)⟩
theorem picksF_len : ∀ (n : Nat) (l : List DPt) (last : Nat), (picksF n l last).length ≤ n
  | 0, _, _ => by rw [picksF]; exact Nat.le_refl _
  | n + 1, l, last => by
    rw [picksF]
    split
    · exact Nat.zero_le _
    · rename_i p _
      rw [List.length_cons]
      have := picksF_len n l p.2.2
      omega
theorem bksD_len (s : DSt) : (bksD s).length ≤ 4 := by unfold bksD; rw [List.length_map]; exact picksF_len _ _ _
theorem j_blocks (h : J B g gb i d W) : Calls Try.prog 24 #[.pointer (some ⟨g, 0, none⟩)] W fun e w' => ∃ a c, e = .returned (.slice a (bksD d.s).length c) ∧ Blk w' a (bksD d.s) ∧ Below W.heap.size W w' := by
  obtain ⟨sl, hp, hr, hc⟩ := blocks_ok B g d.G d.pc d.pa d.s0 W h.ok h.rv
  have e : bks d.s0 sl = bksD d.s := rel_bks h.rel hp hr
  rw [e] at hc
  refine hc.mono ?_
  rintro e w' ⟨a, c, rfl, hO, hb⟩
  exact ⟨a, c, rfl, sts_blk (hO.sts encB) (bksD_small _), hb⟩
theorem j_blocks2 (h : J B g gb i d W) (hi : i ≤ 4611686018427387904) : Calls Try.prog 25 #[.pointer (some ⟨gb, 0, none⟩)] W fun e w' => ∃ a c, e = .returned (.slice a (bksD d.s).length c) ∧ Blk w' a (bksD d.s) ∧ Below W.heap.size W w' := by
  have N := dn_of h.ok h.rel (by have := h.tn; omega) h.da.map
  refine (rblocks_ok W h.da N ?_).mono ?_
  · intro p hp
    have h1 : dpt p ∈ d.s.parts := by rw [← h.da.map]; exact List.mem_map_of_mem hp
    rw [h.rel.hw] at h1
    obtain ⟨z, hz, e⟩ := List.mem_map.1 h1
    have e1 : z.wh = p.2.2 := congrArg (·.2.2) e
    rw [← e1]
    exact (h.rel.ha z hz).2
  · rintro e w' ⟨a, c, rfl, hO, hb⟩
    exact ⟨a, c, rfl, sts_blk (hO.sts encB) (bksD_small _), hb⟩
end Go.Proofs.Ytknebjfdggimcaa
