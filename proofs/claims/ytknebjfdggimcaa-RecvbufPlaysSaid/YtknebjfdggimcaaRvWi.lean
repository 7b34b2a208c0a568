/- Recvbuf: the document's Insert: octets that make others ready. -/
import Derived.Test.YtknebjfdggimcaaRvWf
namespace Go.Proofs.Ytknebjfdggimcaa
open Go.RowKit Go.Proofs.Ytknebjfdggimcaa.Rv

variable {R : Nat → Prop} {C g rc pc : Nat} {ra pa : Option Addr} {ps : List DP} {s : DSt}

/-- A part, k octets nearer. -/
def shD (k : Nat) (x : DP) : DP := (x.1 - k, x.2)
theorem turns_low {S : Nat → Prop} {w w' : World} (h : Turns (fun z => S z ∨ w.heap.size ≤ z) w w') : Turns S w w' := ⟨h.os, h.tape, h.output, h.size, fun k hk hs => h.block k hk (fun e => e.elim hs (fun h2 => by omega))⟩
set_option maxRecDepth 100000 in
set_option maxHeartbeats 2000000 in
theorem rins_a3 (w : World) (h : DA C R g ra rc pa pc ps s w) (N : DN s ps) (q : Nat) (hq : q < 4294967296) (da : Option Addr) (dc : Nat) (ds : List Nat) (hdl : ds.length ≤ 65535) (hdc : ds.length ≤ dc) (hX : Bts w da ds) (hRl : ∀ k, R k → k < w.heap.size) (hC : C ≤ w.heap.size) (hA : dist q s.next < s.sz - s.ready.length) (l : Nat) (hl : dist q s.next = l) (d : List Nat) (hd : ds.take (s.sz - s.ready.length - l) = d) (hN : Adds s.parts l d) (hlh : lowF s.parts l d ≤ highF s.parts l d) (hh2 : highF s.parts l d ≤ 1048576) (hcv : ∀ j, lowF s.parts l d ≤ j → j < highF s.parts l d → atF s.parts j = none → l ≤ j ∧ j < l + d.length) (p : DPt) (t : List DPt) (hM : mergF s.parts l d (s.turn + 1) = p :: t) (hf : ¬ 1024 < t.length) (hp : p.1 = 0) (hpb : 0 < p.2.1.length ∧ p.2.1.length ≤ 1048576) (hsh : ∀ x ∈ t, p.2.1.length ≤ x.1 ∧ x.1 ≤ 1048576 ∧ 0 < x.2.1.length) :
    Calls Try.prog 12 #[.pointer (some ⟨g, 0, none⟩), .int .u32 (q : Nat), .slice da ds.length dc] w fun e w' => e = .returned (.tuple #[.int .i64 (p.2.1.length : Nat), .int .i64 0]) ∧ (∃ ra' rc' pa' pc' ps', DA C (fun k => R k ∨ w.heap.size ≤ k) g ra' rc' pa' pc' ps' { s with parts := t.map fun x => (x.1 - p.2.1.length, x.2), turn := s.turn + 1, ready := s.ready ++ p.2.1, next := (s.next + p.2.1.length) % 4294967296 } w') ∧ Turns R w w' := by
  have HAD := Lib.hid (And.intro hN (And.intro hlh (And.intro hh2 hcv)))
  have HM := Lib.hid hM
  clear hN hlh hh2 hcv hM
  have HF := hf
  have htl : t.length ≤ 2000 := by omega
  clear hf
  have HRL := Lib.hid hRl
  have HCC := Lib.hid hC
  have HSH := Lib.hid hsh
  have HP0 := Lib.hid hp
  have HPB := Lib.hid hpb
  clear hRl hC hsh hp hpb
  obtain ⟨x, hx⟩ : ∃ z, dist q s.next = z := ⟨_, rfl⟩
  have nx := N.nx
  have W1 : IntKind.u32.wrap ((q : Int) - (s.next : Int)) = (x : Int) := by rw [IntKind.wrap_u32]; unfold dist at hx; omega
  rw [hx] at hA hl
  have k0 : ¬ ((65535 : Int) < (ds.length : Int)) := by omega
  have c1 := blk_cell h.blk 1
  have HA := Lib.hid h
  obtain ⟨wn, hwn⟩ : ∃ z, s.sz - s.ready.length = z := ⟨_, rfl⟩
  have n1 := N.sz
  have n2 := N.rd
  clear h
  obtain rfl : x = l := hl
  have W2 : IntKind.i32.wrap (x : Int) = (x : Int) := by rw [IntKind.wrap_i32]; omega
  have W3 : IntKind.i64.wrap (x : Int) = (x : Int) := IntWalk.i64_in _ ⟨by omega, by omega⟩
  have k1 : ¬ ((x : Int) < 0) := by omega
  rw [hwn] at hA hd
  have k2 : ¬ ((wn : Int) ≤ (x : Int)) := by omega
  obtain ⟨z, hz⟩ : ∃ z, wn - x = z := ⟨_, rfl⟩
  rw [hz] at hd
  obtain ⟨m, hm⟩ : ∃ m, min ds.length z = m := ⟨_, rfl⟩
  have W5 : IntKind.i64.wrap ((wn : Int) - (x : Int)) = (z : Int) := by rw [IntWalk.i64_in _ ⟨by omega, by omega⟩]; omega
  have hmin : min (ds.length : Int) (z : Int) = (m : Int) := by omega
  have k3 : ¬ ((dc : Int) < (m : Int)) := by omega
  have k4 : (m : Int) ≤ (dc : Int) := by omega
  have hdm : d.length = m := by rw [← hd, List.length_take]; omega
  have hXd : Bts w da d := by rw [← hd]; exact hX.take z
  have hk : x + d.length ≤ 1048576 := by omega
  have HW := Lib.hid hwn
  have HX := Lib.hid hXd
  have HD := Lib.hid hdm
  clear hX hXd hd hz hm hdm hx hwn
  go_enter Try.func12, Try.ntmps12
  go_upto_region 13 with (first
    | (go_at_call 22; refine (rwindow_at w HA.out N.sz N.rd).mono ?_; rintro e V1 ⟨rfl, b⟩; have Q1 := Lib.hid b; rw [HW.out]; clear b)
    | (go_at_call 22; refine (rwindow_at V1 (HA.out.below Q1.out) N.sz N.rd).mono ?_; rintro e V2 ⟨rfl, b⟩; have Q2 := Lib.hid (Q1.out.trans (b.mono Q1.out.size)); rw [HW.out]; clear b)
    | fail)
  have Q3 := Lib.hid (Q2.out.drew)
  have A3 := Lib.hid (HA.out.below Q3.out)
  have X3 := Lib.hid (HX.out.below Q3.out)
  have c3 := blk_cell A3.out.blk 3
  have c4 := blk_cell A3.out.blk 4
  have WT : IntKind.i64.wrap ((s.turn : Int) + 1) = ((s.turn + 1 : Nat) : Int) := by have := N.tn; rw [IntWalk.i64_in _ ⟨by omega, by omega⟩]; omega
  clear c1 Q1
  go_region_held3 (fun W => W.cell? ⟨g, 3, none⟩ = some (.slice pa ps.length pc) ∧ W.cell? ⟨g, 4, none⟩ = some (.int .i64 (s.turn : Nat))) (first | exact ⟨c3, c4⟩ | (with_reducible exact KS.out) | go_keep) (first
    | (go_at_call 34; refine (rmerged_yes _ A3.out N x m da dc d X3.out HD.out hk HAD.out.1 HAD.out.2.1 HAD.out.2.2.1 HAD.out.2.2.2 p t HM.out).mono ?_; rintro e V4 ⟨ga, gc, P, T, rfl, hP, hT, hO, hB, hG, b4⟩; have KS : Hid (V4.cell? ⟨g, 3, none⟩ = some (.slice pa ps.length pc) ∧ V4.cell? ⟨g, 4, none⟩ = some (.int .i64 (s.turn : Nat))) := Lib.hid ⟨(b4.cell (p := ⟨g, 3, none⟩) (blk_lt A3.out.blk)).trans c3, (b4.cell (p := ⟨g, 4, none⟩) (blk_lt A3.out.blk)).trans c4⟩; have HPT := Lib.hid (And.intro hP hT); have O4 := Lib.hid hO; have B4 := Lib.hid (And.intro hB hG); have Q4 := Lib.hid (Q3.out.trans (b4.mono Q3.out.size)); have A4 := Lib.hid (A3.out.below b4); have HS4 := Lib.hid b4.size; clear hP hT hO hB hG; clear b4))
  obtain ⟨po, pl2, pt⟩ := P
  obtain ⟨pbb, pbs, pbc⟩ := pl2
  obtain rfl : (po, pbs, pt) = p := HPT.out.1
  have hTl : T.length = t.length := by rw [← HPT.out.2, List.length_map]
  rw [← hTl] at HF htl
  obtain ⟨nl, hnl⟩ : ∃ z, T.length + 1 = z := ⟨_, rfl⟩
  rw [hnl]
  obtain ⟨tl, htl2⟩ : ∃ z, T.length = z := ⟨_, rfl⟩
  rw [htl2] at hnl htl HF
  have HTL := Lib.hid (And.intro hTl htl2)
  have n01 : 0 < nl := by omega
  have n02 : (0 : Int) < (nl : Int) := by omega
  obtain ⟨gs, hgs, hgc⟩ := O4.out.cells3
  have m0 := blk_cell hgs 0
  rw [show gs[0]? = some (.int .i64 (po : Nat)) from hgc 0 _ rfl 0 _ rfl] at m0
  have GS := Lib.hid hgs
  have GC := Lib.hid hgc
  have WN : IntKind.i64.wrap ((nl : Int) - 1) = (tl : Int) := by rw [IntWalk.i64_in _ ⟨by omega, by omega⟩]; omega
  clear hTl htl2 hgs hgc KS c3 c4
  obtain rfl : po = 0 := HP0.out
  have b0 : (((0 : Nat) : Int) == 0) = true := rfl
  have b1 : ¬ ((1024 : Int) < (tl : Int)) := by omega
  have b2 : ¬ ((0 : Int) < ((0 : Nat) : Int)) := by omega
  have hkk1 : 0 < pbs.length := HPB.out.1
  have hkk2 : pbs.length ≤ 1048576 := HPB.out.2
  have HSH2 : Hid (∀ x ∈ T, pbs.length ≤ x.1 ∧ x.1 ≤ 1048576 ∧ 0 < x.2.1.2.1.length) := Lib.hid (fun x hx => HSH.out (dpt x) (by rw [← HPT.out.2]; exact List.mem_map_of_mem hx))
  clear HF HP0 HPB HSH
  have gA := blk_lt A3.out.blk
  have hgaV : V2.drew.heap.size ≤ ga := (O4.out.ownB ga rfl).1
  have hne : ga ≠ g := by omega
  have c4 := blk_cell A4.out.blk 4
  have f4 := blk_free A4.out.blk 4
  go_upto_region 22 with fail
  have g5 := gr_set V4 g 4 (.int .i64 ((s.turn : Int) + 1))
  have S5 := Lib.hid (blk_set A4.out.blk 4 (.int .i64 ((s.turn : Int) + 1)))
  have GS5 := Lib.hid ((g5.block ga (blk_lt GS.out) (fun e => hne (Option.some.inj e))).trans GS.out)
  have T5 := Lib.hid (Turns.of_grown (S := fun z => z = g) (fun z e => by cases e; rfl) g5)
  clear c4 f4 m0 g5
  generalize V4.setCell ⟨g, 4, none⟩ (.int .i64 ((s.turn : Int) + 1)) = V5 at S5 GS5 T5 ⊢
  have c3 := blk_cell S5.out 3
  have f3 := blk_free S5.out 3
  go_upto_region 23 with fail
  have g6 := gr_set V5 g 3 (.slice (some ⟨ga, 0, none⟩) nl gc)
  have S6 := Lib.hid (blk_set S5.out 3 (.slice (some ⟨ga, 0, none⟩) nl gc))
  have GS6 := Lib.hid ((g6.block ga (blk_lt GS5.out) (fun e => hne (Option.some.inj e))).trans GS5.out)
  have T6 := Lib.hid (T5.out.trans (Turns.of_grown (S := fun z => z = g) (fun z e => by cases e; rfl) g6))
  clear c3 f3 g6
  generalize V5.setCell ⟨g, 3, none⟩ (.slice (some ⟨ga, 0, none⟩) nl gc) = V6 at S6 GS6 T6 ⊢
  have m0 := blk_cell GS6.out 0
  rw [show gs[0]? = some (.int .i64 ((0 : Nat) : Int)) from GC.out 0 _ rfl 0 _ rfl] at m0
  clear S5 GS5 T5
  obtain ⟨kk, hkk⟩ : ∃ z, pbs.length = z := ⟨_, rfl⟩
  have m1 := blk_cell GS6.out 1
  rw [show gs[1]? = some (.slice pbb pbs.length pbc) from GC.out 0 _ rfl 1 _ rfl] at m1
  rw [hkk] at m1 hkk1 hkk2 HSH2
  have HKK := Lib.hid hkk
  clear hkk
  go_upto_region 26 with fail
  have hsz := Q3.out.size
  have hsV : V2.drew.heap.size ≤ V6.drew.heap.size := Nat.le_trans HS4.out (by have := T6.out.size; simp; omega)
  have hTR : Hid (Turns R w V6) := Lib.hid (((Turns.of_below _ Q4.out).trans T6.out).mono (fun z e => e ▸ A4.out.ig))
  have O6 := Lib.hid ((A4.out.rdy.turned T6.out (fun z o e => A4.out.gr z o e)).below (Below.refl V6.heap.size V6).drew)
  have XB := Lib.hid (((B4.out.1 _ List.mem_cons_self).turned T6.out (fun z o e => by
    rcases B4.out.2 _ List.mem_cons_self z o none e with ⟨y, hy, e2⟩ | ⟨h1, h2⟩
    · exact (A4.out.go y hy z o none e2).1
    · omega)).below (Below.refl V6.heap.size V6).drew)
  have HOC : Hid (∀ x ∈ T, ∀ k o fr, x.2.1.1 = some ⟨k, o, fr⟩ → (R k ∨ w.heap.size ≤ k) ∧ k ≠ g ∧ k ≠ ga ∧ k < V6.drew.heap.size ∧ ∀ o', ra ≠ some ⟨k, o', none⟩) := Lib.hid (fun x hx k o fr e => by
    have hnn := (HSH2.out x hx).2.2
    obtain ⟨b, off, e2, hb, _⟩ := (B4.out.1 x (List.mem_cons_of_mem _ hx)).isSome hnn
    have hkb : k = b := by rw [e] at e2; injection e2 with e2; injection e2
    have hV6 : V4.heap.size ≤ V6.drew.heap.size := by have := T6.out.size; simp; omega
    rcases B4.out.2 x (List.mem_cons_of_mem _ hx) k o fr e with ⟨y, hy, e2⟩ | ⟨h1, h2⟩
    · have h3 := A4.out.go y hy k o fr e2
      have h4 := A4.out.io y hy k o fr e2
      have h5 := HRL.out k h4
      exact ⟨.inl h4, h3.1, by omega, by omega, h3.2.2⟩
    · exact ⟨.inr (by omega), by omega, h2, by omega, fun o' e3 => by have := HRL.out k (A4.out.ir k o' e3); omega⟩)
  have HB6 : Hid (∀ x ∈ T, Bts V6.drew x.2.1.1 x.2.1.2.1) := Lib.hid (fun x hx => ((B4.out.1 x (List.mem_cons_of_mem _ hx)).turned T6.out (fun z o e => (HOC.out x hx z o none e).2.1)).below (Below.refl V6.heap.size V6).drew)
  obtain ⟨zs, hzs⟩ : ∃ z, s.ready ++ pbs = z := ⟨_, rfl⟩
  have HZS := Lib.hid hzs
  have hdn : pbb = none → pbc = 0 := fun e => by
    rcases XB.out.2 with h0 | ⟨b, off, e2, _⟩
    · have e3 : pbs = [] := h0
      have := HKK.out; rw [e3] at this; simp at this; omega
    · have e3 : pbb = some ⟨b, off, none⟩ := e2
      rw [e] at e3; cases e3
  have HGT : Hid (∀ W', Turns (fun k => ∃ o, ra = some ⟨k, o, none⟩) V6.drew W' → W'.heap[g]? = some (.cells #[.int .i64 (s.sz : Nat), .int .u32 (s.next : Nat), .slice ra s.ready.length rc, .slice (some ⟨ga, 0, none⟩) nl gc, .int .i64 ((s.turn : Int) + 1)] 51 (0, 0)) ∧ W'.heap[ga]? = some (.cells gs 84 (0, 0))) := Lib.hid (fun W' ht => ⟨ht.blk (blk_drew S6.out) (fun ⟨o, e⟩ => A4.out.gr g o e rfl), ht.blk (blk_drew GS6.out) (fun ⟨o, e⟩ => by have := HRL.out ga (A4.out.ir ga o e); omega)⟩)
  have b2c := blk_cell (blk_drew S6.out) 2
  have m1d := blk_cell (blk_drew GS6.out) 1
  rw [show gs[1]? = some (.slice pbb pbs.length pbc) from GC.out 0 _ rfl 1 _ rfl, HKK.out] at m1d
  have hlen : s.ready.length + pbs.length ≤ 140737488355328 := by rw [HKK.out]; omega
  have hC6 : C ≤ V6.drew.heap.size := Nat.le_trans HCC.out (Nat.le_trans hsz hsV)
  have HDN := Lib.hid hdn
  clear hzs hdn m0 m1
  go_region_law (refine step_append_tail rfl (.tmp 105) (.tmp 109) rfl C HKK.out.symm HZS.out O6.out XB.out HDN.out (by simp [Act.eval]) (by simp [Act.eval]) hlen hC6 ?_; intro a7 c7 V7 O7 T7 AT; have AT7 := Lib.hid AT; have B7 := Lib.hid (HGT.out V7 T7); have O7h := Lib.hid O7; have T7h := Lib.hid T7; have u2 := blk_cell B7.out.1 2; have uf := blk_free B7.out.1 2; clear O7 T7 AT)
  all_goals
    have O8 := Lib.hid (O7h.out.turned (Turns.of_grown (S := fun z => z = g) (fun z e => by cases e; rfl) (gr_set V7 g 2 (.slice a7 zs.length c7))) (fun z o e e2 => by
      rcases AT7.out z o e with ⟨o', e'⟩ | h2
      · exact A4.out.gr z o' e' e2
      · have := blk_lt (blk_drew S6.out); omega))
    have S8 : Hid ((V7.setCell ⟨g, 2, none⟩ (.slice a7 zs.length c7)).heap[g]? = some (.cells #[.int .i64 (s.sz : Nat), .int .u32 (s.next : Nat), .slice a7 zs.length c7, .slice (some ⟨ga, 0, none⟩) nl gc, .int .i64 ((s.turn : Int) + 1)] 51 (0, 0))) := Lib.hid (blk_set B7.out.1 2 (.slice a7 zs.length c7))
    have GS8 := Lib.hid (((gr_set V7 g 2 (.slice a7 zs.length c7)).block ga (blk_lt B7.out.2) (fun e => hne (Option.some.inj e))).trans B7.out.2)
    have T8 := Lib.hid (Turns.trans (T7h.out.mono (fun z h => (Or.inr h : z = g ∨ ∃ o, ra = some ⟨z, o, none⟩))) (Turns.of_grown (S := fun z => z = g ∨ ∃ o, ra = some ⟨z, o, none⟩) (fun z e => by cases e; exact .inl rfl) (gr_set V7 g 2 (.slice a7 zs.length c7))))
    clear u2 uf B7 O7h T7h
    generalize V7.setCell ⟨g, 2, none⟩ (.slice a7 zs.length c7) = V8 at O8 S8 GS8 T8 ⊢
    obtain ⟨nx2, hnx2⟩ : ∃ z, (s.next + kk) % 4294967296 = z := ⟨_, rfl⟩
    have WU : IntKind.u32.wrap (kk : Int) = (kk : Int) := by rw [IntKind.wrap_u32]; omega
    have WX : IntKind.u32.wrap ((s.next : Int) + (kk : Int)) = (nx2 : Int) := by rw [IntKind.wrap_u32]; omega
    have HNX := Lib.hid hnx2
    clear hnx2
    have c1 := blk_cell S8.out 1
    have f1 := blk_free S8.out 1
    go_upto_region 28 with fail
    have S9 : Hid ((V8.setCell ⟨g, 1, none⟩ (.int .u32 (nx2 : Nat))).heap[g]? = some (.cells #[.int .i64 (s.sz : Nat), .int .u32 (nx2 : Nat), .slice a7 zs.length c7, .slice (some ⟨ga, 0, none⟩) nl gc, .int .i64 ((s.turn : Int) + 1)] 51 (0, 0))) := Lib.hid (blk_set S8.out 1 (.int .u32 (nx2 : Nat)))
    have GS9 := Lib.hid (((gr_set V8 g 1 (.int .u32 (nx2 : Nat))).block ga (blk_lt GS8.out) (fun e => hne (Option.some.inj e))).trans GS8.out)
    have TT9 := Turns.of_grown (S := fun z => z = g) (fun z e => by cases e; rfl) (gr_set V8 g 1 (.int .u32 (nx2 : Nat)))
    have T9 := Lib.hid (Turns.trans T8.out (TT9.mono (fun z h => (Or.inl h : z = g ∨ ∃ o, ra = some ⟨z, o, none⟩))))
    have hrg : ∀ z o, a7 = some ⟨z, o, none⟩ → ¬ z = g ∧ ¬ z = ga := fun z o e => by
      rcases AT7.out z o e with ⟨o', e'⟩ | h2
      · exact ⟨A4.out.gr z o' e', fun e2 => by have := HRL.out z (A4.out.ir z o' e'); omega⟩
      · have := blk_lt (blk_drew S6.out); have := blk_lt (blk_drew GS6.out); exact ⟨by omega, by omega⟩
    have HRG := Lib.hid hrg
    have O9 := Lib.hid (O8.out.turned TT9 (fun z o e => (HRG.out z o e).1))
    clear c1 f1 S8 GS8 T8 O8 TT9 hrg
    generalize V8.setCell ⟨g, 1, none⟩ (.int .u32 (nx2 : Nat)) = V9 at O9 S9 GS9 T9 ⊢
    have c3 := blk_cell S9.out 3
    have f3 := blk_free S9.out 3
    go_upto_region 29 with fail
    have S10 : Hid ((V9.setCell ⟨g, 3, none⟩ (.slice none 0 0)).heap[g]? = some (.cells #[.int .i64 (s.sz : Nat), .int .u32 (nx2 : Nat), .slice a7 zs.length c7, .slice none 0 0, .int .i64 ((s.turn : Int) + 1)] 51 (0, 0))) := Lib.hid (blk_set S9.out 3 (.slice none 0 0))
    have GS10 := Lib.hid (((gr_set V9 g 3 (.slice none 0 0)).block ga (blk_lt GS9.out) (fun e => hne (Option.some.inj e))).trans GS9.out)
    have TT10 := Turns.of_grown (S := fun z => z = g) (fun z e => by cases e; rfl) (gr_set V9 g 3 (.slice none 0 0))
    have T10 := Lib.hid (Turns.trans T9.out (TT10.mono (fun z h => (Or.inl h : z = g ∨ ∃ o, ra = some ⟨z, o, none⟩))))
    have O10 := Lib.hid (O9.out.turned TT10 (fun z o e => (HRG.out z o e).1))
    clear c3 f3 S9 GS9 T9 O9 TT10
    generalize V9.setCell ⟨g, 3, none⟩ (.slice none 0 0) = V10 at O10 S10 GS10 T10 ⊢
    obtain ⟨M0, hM0⟩ : ∃ M0, V10.heap.size = M0 := ⟨_, rfl⟩
    have hgM : g < M0 := by rw [← hM0]; exact blk_lt S10.out
    have hgaM : ga < M0 := by rw [← hM0]; exact blk_lt GS10.out
    have HM := Lib.hid hM0
    have HSD : Hid (∀ i x, T[i]? = some x → (T.take (i + 1)).map (shD kk) = (T.take i).map (shD kk) ++ [shD kk x]) := Lib.hid (fun i x hx => by rw [List.take_add_one, hx, List.map_append]; rfl)
    clear hM0
    go_wp2_with fail
    go_loopw [14] (fun i14 wr => ∃ (i i1 : Nat) (b2 : Option Addr) (q2 : Nat) (cs : Array Value), i1 = i + 1 ∧ i ≤ tl ∧ i14 = .int .i64 (i1 : Nat) ∧ OwnR 84 3 DC M0 b2 ((T.take i).map (shD kk)) q2 wr ∧ wr.heap[g]? = some (.cells #[.int .i64 (s.sz : Nat), .int .u32 (nx2 : Nat), .slice a7 zs.length c7, .slice b2 ((T.take i).map (shD kk)).length q2, .int .i64 ((s.turn : Int) + 1)] 51 (0, 0)) ∧ wr.heap[ga]? = some (.cells cs 84 (0, 0)) ∧ (∀ j x, i ≤ j → T[j]? = some x → ∀ t v, (DC x)[t]? = some v → cs[(j + 1) * 3 + t]? = some v) ∧ Turns (fun z => z = g ∨ z = ga) V10 wr) (fun i14 _ => nl - (intOf i14).toNat)
    case atStart => exact ⟨0, 1, none, 0, gs, rfl, by omega, rfl, ownR_nil _ _ _ _ _, S10.out, GS10.out, fun j x _ hx t v hv => GC.out (j + 1) x (by rw [List.getElem?_cons_succ]; exact hx) t v hv, Turns.refl _ _⟩
    case round =>
      obtain ⟨i, i1, b2, q2, cs, hi1, hi, rfl, hO, hS, hG2, hC2, hT2⟩ := hrel
      have OR := Lib.hid hO
      have SR := Lib.hid hS
      have GR := Lib.hid hG2
      have CR := Lib.hid hC2
      have CR0 := Lib.hid hC2
      have TR := Lib.hid hT2
      clear hO hS hG2 hC2 hT2
      have htk : ((T.take i).map (shD kk)).length = i := by rw [List.length_map, List.length_take, HTL.out.2]; omega
      obtain ⟨nw, hnw⟩ : ∃ z, (T.take i).map (shD kk) = z := ⟨_, rfl⟩
      rw [hnw] at OR SR htk
      have HNW := Lib.hid hnw
      have HI1 := Lib.hid hi1
      have htl3 : tl + 1 = nl := by omega
      have HT3 := Lib.hid htl3
      clear hnw hi1 htl3
      by_cases hlt : i1 < nl
      case neg =>
        have htk2 : T.take i = T := List.take_of_length_le (by have := HTL.out; have := HI1.out; have := HT3.out; omega)
        have j2 : decide ((i1 : Int) < (nl : Int)) = false := decide_eq_false (by omega)
        have j1 : ¬ ((i1 : Int) < (nl : Int)) := by omega
        rw [htk2] at HNW
        have HTP := Lib.hid (And.intro hsV hsz)
        clear htk2
        go_wp2
        go_ret2
        have hMw : M0 ≤ wr.heap.size := by rw [← HM.out]; exact TR.out.size
        have hT10s := T10.out.size
        rw [HM.out] at hT10s
        have hTT : Turns (fun z => R z ∨ w.heap.size ≤ z) w wr := (((hTR.out.mono (fun z h => Or.inl h)).drew).trans (T10.out.mono (fun z h => by rcases h with rfl | ⟨o, e⟩; exact .inl A4.out.ig; exact .inl (A4.out.ir z o e)))).trans (TR.out.mono (fun z h => by rcases h with rfl | rfl; exact .inl A4.out.ig; exact .inr (by omega)))
        have hne7 : ∀ x ∈ T, ∀ k o fr, x.2.1.1 = some ⟨k, o, fr⟩ → ∀ o', a7 ≠ some ⟨k, o', none⟩ := fun x hx k o fr e o' e2 => by
          have h1 := HOC.out x hx k o fr e
          rcases AT7.out k o' e2 with ⟨o3, e3⟩ | h2
          · exact h1.2.2.2.2 o3 e3
          · omega
        have hmm : ∀ x ∈ T.map (shD kk), ∃ y ∈ T, x.2 = y.2 := fun x hx => by obtain ⟨y, hy, rfl⟩ := List.mem_map.1 hx; exact ⟨y, hy, rfl⟩
        have hOR := OR.out
        have hSR := SR.out
        rw [← HNW.out] at hOR
        have hlen : i = (T.map (shD kk)).length := by rw [List.length_map]; have := HTL.out; have := HI1.out; have := HT3.out; omega
        refine ⟨by rw [HKK.out]; rfl, ⟨a7, c7, b2, q2, T.map (shD kk), ⟨?_, ?_, hOR.mono (by have := HCC.out; have := T10.out.size; omega), fun x hx => ?_, ?_, fun z o e => (HRG.out z o e).1, fun e => (by have := hOR.ownB g (by rw [e]; rfl); omega), fun z o e e2 => (by have h1 := (O10.out.geB z o e).2; rw [HM.out] at h1; have := hOR.ownB z (by rw [e2]; rfl); omega), fun x hx z o fr e => ?_, .inl A4.out.ig, fun z o e => ?_, fun z e => .inr (by have := hOR.ownB z (by rw [e]; rfl); have := T10.out.size; omega), fun x hx z o fr e => ?_⟩⟩, turns_low hTT⟩
        · show wr.heap[g]? = some (Obj.cells #[Value.int .i64 (s.sz : Nat), Value.int .u32 ((s.next + pbs.length) % 4294967296 : Nat), Value.slice a7 (s.ready ++ pbs).length c7, Value.slice b2 (T.map (shD kk)).length q2, Value.int .i64 (s.turn + 1 : Nat)] 51 (0, 0))
          rw [HKK.out, HNX.out, HZS.out, HNW.out]
          exact SR.out
        · show OwnT C a7 (s.ready ++ pbs) c7 wr
          rw [HZS.out]
          exact O10.out.turned TR.out (fun z o e h => by have := HRG.out z o e; rcases h with h | h; exact this.1 h; exact this.2 h)
        · obtain ⟨y, hy, e2⟩ := hmm x hx
          rw [e2]
          refine ((HB6.out y hy).turned T10.out (fun z o e h => ?_)).turned TR.out (fun z o e h => ?_)
          · have h1 := HOC.out y hy z o none e
            rcases h with h | ⟨o', h⟩
            · exact h1.2.1 h
            · exact h1.2.2.2.2 o' h
          · have h1 := HOC.out y hy z o none e
            rcases h with h | h
            · exact h1.2.1 h
            · exact h1.2.2.1 h
        · show (T.map (shD kk)).map dpt = t.map _
          rw [← HPT.out.2, List.map_map, List.map_map]
          apply List.map_congr_left
          intro y _
          show (y.1 - kk, _, _) = (y.1 - pbs.length, _, _)
          rw [HKK.out]; rfl
        · obtain ⟨y, hy, e2⟩ := hmm x hx
          rw [e2] at e
          have h1 := HOC.out y hy z o fr e
          exact ⟨h1.2.1, fun e3 => (by have := hOR.ownB z (by rw [e3]; rfl); omega), hne7 y hy z o fr e⟩
        · rcases AT7.out z o e with ⟨o3, e3⟩ | h2
          · exact .inl (A4.out.ir z o3 e3)
          · exact .inr (by have := HTP.out; omega)
        · obtain ⟨y, hy, e2⟩ := hmm x hx
          rw [e2] at e
          exact (HOC.out y hy z o fr e).1
      case pos =>
        have hilt : i < T.length := by have := HTL.out; have := HI1.out; have := HT3.out; omega
        obtain ⟨x, hx⟩ : ∃ x, T[i]? = some x := ⟨_, List.getElem?_eq_getElem hilt⟩
        have hsx := HSH2.out x (List.mem_of_getElem? hx)
        obtain ⟨xo, hxo⟩ : ∃ z, x.1 - kk = z := ⟨_, rfl⟩
        have d0 := CR.out i x (Nat.le_refl _) hx 0 _ rfl
        have d1 := CR.out i x (Nat.le_refl _) hx 1 _ rfl
        have d2 := CR.out i x (Nat.le_refl _) hx 2 _ rfl
        rw [← HI1.out] at d0 d1 d2
        have m0 := (blk_cell GR.out (i1 * 3)).trans d0
        have f0 := blk_free GR.out (i1 * 3)
        have WX2 : IntKind.i64.wrap ((x.1 : Int) - (kk : Int)) = (xo : Int) := by rw [IntWalk.i64_in _ ⟨by omega, by omega⟩]; omega
        have j1 : (i1 : Int) < (nl : Int) := by omega
        have j2 : decide ((i1 : Int) < (nl : Int)) = true := decide_eq_true j1
        have j3 : ¬ ((i1 : Int) < 0) := by omega
        have Wi : IntKind.i64.wrap ((i1 : Int) + 1) = ((i1 + 1 : Nat) : Int) := by rw [IntWalk.i64_in _ ⟨by omega, by omega⟩]; omega
        have hyy : shD kk x = (xo, x.2) := by unfold shD; rw [hxo]
        have HSS := HSD.out i x hx
        rw [HNW.out, hyy] at HSS
        have HST := Lib.hid HSS
        have DD := Lib.hid (And.intro d1 d2)
        clear HSS d0 d1 d2 hx hyy hxo
        go_upto_region 33 with fail
        have hMw : M0 ≤ wr.heap.size := by rw [← HM.out]; exact TR.out.size
        have gG := gr_set wr ga (i1 * 3) (.int .i64 (xo : Nat))
        have G11 := Lib.hid (blk_set GR.out (i1 * 3) (.int .i64 (xo : Nat)))
        have S11 := Lib.hid ((gG.block g (blk_lt SR.out) (fun e => hne (Option.some.inj e).symm)).trans SR.out)
        have T11 := Lib.hid (TR.out.trans (Turns.of_grown (S := fun z => z = g ∨ z = ga) (fun z e => by cases e; exact .inr rfl) gG))
        have O11 := Lib.hid (OR.out.grown gG (fun g' e1 e2 => by have h6 := Option.some.inj e2; have := (OR.out.ownB g' (by rw [e1]; rfl)).1; omega))
        have hsl : i1 * 3 < cs.size := by
          by_cases hq9 : i1 * 3 < cs.size
          · exact hq9
          · have h5 := DD.out.1; rw [Array.getElem?_eq_none (by omega)] at h5; cases h5
        have n0 : (wr.setCell ⟨ga, i1 * 3, none⟩ (.int .i64 (xo : Nat))).drew.cell? ⟨ga, i1 * 3, none⟩ = some (.int .i64 (xo : Nat)) := by rw [blk_cell (blk_drew G11.out)]; rw [Array.getElem?_setIfInBounds_self_of_lt hsl]
        have n1 : (wr.setCell ⟨ga, i1 * 3, none⟩ (.int .i64 (xo : Nat))).drew.cell? ⟨ga, i1 * 3 + 1, none⟩ = some (.slice x.2.1.1 x.2.1.2.1.length x.2.1.2.2) := by rw [blk_cell (blk_drew G11.out), Array.getElem?_setIfInBounds_ne (by omega)]; exact DD.out.1
        have n2 : (wr.setCell ⟨ga, i1 * 3, none⟩ (.int .i64 (xo : Nat))).drew.cell? ⟨ga, i1 * 3 + 2, none⟩ = some (.int .i64 (x.2.2 : Nat)) := by rw [blk_cell (blk_drew G11.out), Array.getElem?_setIfInBounds_ne (by omega)]; exact DD.out.2
        clear m0 f0 gG TR GR SR OR DD
        have hM11 : M0 ≤ (wr.setCell ⟨ga, i1 * 3, none⟩ (.int .i64 (xo : Nat))).heap.size := by simpa using hMw
        generalize wr.setCell ⟨ga, i1 * 3, none⟩ (.int .i64 (xo : Nat)) = V11 at G11 S11 T11 O11 n0 n1 n2 hM11 ⊢
        have c3 := blk_cell (blk_drew S11.out) 3
        obtain ⟨W1, hW1⟩ : ∃ W, (V11.alloc (.cells #[.int .i64 (xo : Nat), .slice x.2.1.1 x.2.1.2.1.length x.2.1.2.2, .int .i64 (x.2.2 : Nat)] 84)).drew = W := ⟨_, rfl⟩
        have BA : Hid (Below V11.heap.size V11 W1) := Lib.hid (by rw [← hW1]; exact ((Below.refl V11.heap.size V11).alloc (Nat.le_refl _) _).drew)
        have O12 := Lib.hid (O11.out.below BA.out)
        have NS : Hid (Sts 3 DC Tr W1 (some ⟨V11.heap.size, 0, none⟩) [((xo, x.2) : DP)]) := Lib.hid (by rw [← hW1]; exact sts_new encD V11 [((xo, x.2) : DP)] 84 (0, 0))
        have SW := Lib.hid ((BA.out.block _ (blk_lt S11.out)).trans S11.out)
        have c3w := blk_cell SW.out 3
        obtain ⟨nw2, hnw2⟩ : ∃ z, nw ++ [((xo, x.2) : DP)] = z := ⟨_, rfl⟩
        have HNW2 := Lib.hid hnw2
        clear hnw2
        have hl1 : Hid ((nw.length + [((xo, x.2) : DP)].length) * 40 ≤ 140737488355328) := Lib.hid (by rw [List.length_singleton, htk]; omega)
        have hl2 : Hid (nw.length + [((xo, x.2) : DP)].length ≤ maxLen) := Lib.hid (by unfold maxLen; rw [List.length_singleton, htk]; omega)
        have hl3 := Lib.hid (Nat.le_trans hM11 BA.out.size)
        have HTK := Lib.hid htk
        have HGB : Hid (∀ W, W1.grownBy W (Value.slice b2 nw.length q2).ownBlock → W.heap[g]? = some (.cells #[.int .i64 (s.sz : Nat), .int .u32 (nx2 : Nat), .slice a7 zs.length c7, .slice b2 nw.length q2, .int .i64 ((s.turn : Int) + 1)] 51 (0, 0)) ∧ W.heap[ga]? = some (.cells (cs.setIfInBounds (i1 * 3) (.int .i64 (xo : Nat))) 84 (0, 0)) ∧ Turns (fun z => z = g ∨ z = ga ∨ M0 ≤ z) V11 W) := Lib.hid (fun W hg => by
          have h1 := (BA.out.block _ (blk_lt S11.out)).trans S11.out
          have h2 := (BA.out.block _ (blk_lt G11.out)).trans G11.out
          refine ⟨(hg.block g (blk_lt h1) (fun e => by have := (O12.out.ownB g e.symm).1; omega)).trans h1, (hg.block ga (blk_lt h2) (fun e => by have := (O12.out.ownB ga e.symm).1; omega)).trans h2, (Turns.of_below _ BA.out).trans (Turns.of_grown (fun z e => .inr (.inr (O12.out.ownB z e).1)) hg)⟩)
        clear htk
        go_region_law (refine step_append_r (w := W1) (t := 49) (e := 84) (z := .agg #[.int .i64 0, .slice none 0 0, .int .i64 0]) (m := 3) (bz := 40) (cells := DC) (xs := nw) (ys := [((xo, x.2) : DP)]) (cap := q2) (dap := 1) (n := 1) (a := b2) rfl elemD encD (.tmp 147) (.tmp 152) rfl M0 rfl O12.out NS.out (by intro e; cases e) (by simp [Act.eval]) (by simp [Act.eval]) hl1.out hl2.out hl3.out ?_; intro a5 c5 W2 o5 b5 g5; rw [HNW2.out] at o5 ⊢; have O5 := Lib.hid o5; have K5 := Lib.hid (HGB.out W2 g5); have u3 := blk_cell K5.out.1 3; have v3 := blk_free K5.out.1 3; clear o5 b5 g5)
        all_goals
          have g9 := gr_set W2 g 3 (.slice a5 nw2.length c5)
          have S9 : Hid ((W2.setCell ⟨g, 3, none⟩ (.slice a5 nw2.length c5)).heap[g]? = some (.cells #[.int .i64 (s.sz : Nat), .int .u32 (nx2 : Nat), .slice a7 zs.length c7, .slice a5 nw2.length c5, .int .i64 ((s.turn : Int) + 1)] 51 (0, 0))) := Lib.hid (blk_set K5.out.1 3 (.slice a5 nw2.length c5))
          have G9 := Lib.hid ((g9.block ga (blk_lt K5.out.2.1) (fun e => hne (Option.some.inj e))).trans K5.out.2.1)
          have O9 := Lib.hid (O5.out.grown g9 (fun g' e1 e2 => by have h6 := Option.some.inj e2; have := (O5.out.ownB g' (by rw [e1]; rfl)).1; omega))
          have T9 : Hid (Turns (fun z => z = g ∨ z = ga) V10 (W2.setCell ⟨g, 3, none⟩ (.slice a5 nw2.length c5))) := Lib.hid (by
            refine turns_low (w := V10) ?_
            rw [HM.out]
            exact ((T11.out.mono (fun z h => Or.inl h)).trans (K5.out.2.2.mono (fun z h => by rcases h with h | h | h; exact .inl (.inl h); exact .inl (.inr h); exact .inr h))).trans (Turns.of_grown (fun z e => by cases e; exact .inl (.inl rfl)) g9))
          go_wp2_with fail
          go_roundw
          case rel =>
            refine ⟨i + 1, i1 + 1, a5, c5, _, by rw [HI1.out], by have := HI1.out; have := HT3.out; omega, by go_num, ?_, ?_, G9.out, ?_, T9.out⟩
            · rw [HST.out, HNW2.out]; exact O9.out
            · rw [HST.out, HNW2.out]; exact S9.out
            · intro j y hj hy t v hv
              have h9 := CR0.out j y (by omega) hy t v hv
              rw [Array.getElem?_setIfInBounds_ne (by have := HI1.out; omega)]
              exact h9
          case measure => simp [intOf]; omega
end Go.Proofs.Ytknebjfdggimcaa
