/- Recvbuf: the document's Insert: octets that are there already; too many parts; octets ahead of a gap. -/
import Derived.Test.YtknebjfdggimcaaRvWf
namespace Go.Proofs.Ytknebjfdggimcaa
open Go.RowKit Go.Proofs.Ytknebjfdggimcaa.Rv

variable {R : Nat → Prop} {C g rc pc : Nat} {ra pa : Option Addr} {ps : List DP} {s : DSt}

set_option maxRecDepth 100000 in
set_option maxHeartbeats 2000000 in
theorem rins_a0 (w : World) (h : DA C R g ra rc pa pc ps s w) (N : DN s ps) (q : Nat) (hq : q < 4294967296) (da : Option Addr) (dc : Nat) (ds : List Nat) (hdl : ds.length ≤ 65535) (hdc : ds.length ≤ dc) (hX : Bts w da ds) (hA : dist q s.next < s.sz - s.ready.length) (l : Nat) (hl : dist q s.next = l) (d : List Nat) (hd : ds.take (s.sz - s.ready.length - l) = d) (hN : ¬ Adds s.parts l d) :
    Calls Try.prog 12 #[.pointer (some ⟨g, 0, none⟩), .int .u32 (q : Nat), .slice da ds.length dc] w fun e w' => e = .returned (.tuple #[.int .i64 0, .int .i64 0]) ∧ Below w.heap.size w w' := by
  have HAD := Lib.hid hN
  clear hN
  obtain ⟨x, hx⟩ : ∃ z, dist q s.next = z := ⟨_, rfl⟩
  have nx := N.nx
  have W1 : IntKind.u32.wrap ((q : Int) - (s.next : Int)) = (x : Int) := by rw [IntKind.wrap_u32]; unfold dist at hx; omega
  rw [hx] at hA hl
  have k0 : ¬ ((65535 : Int) < (ds.length : Int)) := by omega
  have c1 := blk_cell h.blk 1
  have HA := Lib.hid h
  obtain ⟨wn, hwn⟩ : ∃ z, s.sz - s.ready.length = z := ⟨_, rfl⟩
  have n1 := N.sz
  have n2 := N.rd
  clear h
  obtain rfl : x = l := hl
  have W2 : IntKind.i32.wrap (x : Int) = (x : Int) := by rw [IntKind.wrap_i32]; omega
  have W3 : IntKind.i64.wrap (x : Int) = (x : Int) := IntWalk.i64_in _ ⟨by omega, by omega⟩
  have k1 : ¬ ((x : Int) < 0) := by omega
  rw [hwn] at hA hd
  have k2 : ¬ ((wn : Int) ≤ (x : Int)) := by omega
  obtain ⟨z, hz⟩ : ∃ z, wn - x = z := ⟨_, rfl⟩
  rw [hz] at hd
  obtain ⟨m, hm⟩ : ∃ m, min ds.length z = m := ⟨_, rfl⟩
  have W5 : IntKind.i64.wrap ((wn : Int) - (x : Int)) = (z : Int) := by rw [IntWalk.i64_in _ ⟨by omega, by omega⟩]; omega
  have hmin : min (ds.length : Int) (z : Int) = (m : Int) := by omega
  have k3 : ¬ ((dc : Int) < (m : Int)) := by omega
  have k4 : (m : Int) ≤ (dc : Int) := by omega
  have hdm : d.length = m := by rw [← hd, List.length_take]; omega
  have hXd : Bts w da d := by rw [← hd]; exact hX.take z
  have hk : x + d.length ≤ 1048576 := by omega
  have HW := Lib.hid hwn
  have HX := Lib.hid hXd
  have HD := Lib.hid hdm
  clear hX hXd hd hz hm hdm hx hwn
  go_enter Try.func12, Try.ntmps12
  go_upto_region 13 with (first
    | (go_at_call 22; refine (rwindow_at w HA.out N.sz N.rd).mono ?_; rintro e V1 ⟨rfl, b⟩; have Q1 := Lib.hid b; rw [HW.out]; clear b)
    | (go_at_call 22; refine (rwindow_at V1 (HA.out.below Q1.out) N.sz N.rd).mono ?_; rintro e V2 ⟨rfl, b⟩; have Q2 := Lib.hid (Q1.out.trans (b.mono Q1.out.size)); rw [HW.out]; clear b)
    | fail)
  have Q3 := Lib.hid (Q2.out.drew)
  have A3 := Lib.hid (HA.out.below Q3.out)
  have X3 := Lib.hid (HX.out.below Q3.out)
  have c3 := blk_cell A3.out.blk 3
  have c4 := blk_cell A3.out.blk 4
  have WT : IntKind.i64.wrap ((s.turn : Int) + 1) = ((s.turn + 1 : Nat) : Int) := by have := N.tn; rw [IntWalk.i64_in _ ⟨by omega, by omega⟩]; omega
  clear c1 Q1
  go_region_held3 (fun W => W.cell? ⟨g, 3, none⟩ = some (.slice pa ps.length pc) ∧ W.cell? ⟨g, 4, none⟩ = some (.int .i64 (s.turn : Nat))) (first | exact ⟨c3, c4⟩ | (with_reducible exact KS.out) | go_keep) (first
    | (go_at_call 34; refine (rmerged_no _ A3.out N x m da dc d HD.out hk HAD.out).mono ?_; rintro e V4 ⟨rfl, b4⟩; have KS : Hid (V4.cell? ⟨g, 3, none⟩ = some (.slice pa ps.length pc) ∧ V4.cell? ⟨g, 4, none⟩ = some (.int .i64 (s.turn : Nat))) := Lib.hid ⟨(b4.cell (p := ⟨g, 3, none⟩) (blk_lt A3.out.blk)).trans c3, (b4.cell (p := ⟨g, 4, none⟩) (blk_lt A3.out.blk)).trans c4⟩; have Q4 := Lib.hid (Q3.out.trans (b4.mono Q3.out.size)); clear b4))
  go_wp2
  go_ret2
  exact ⟨rfl, Q4.out⟩
set_option maxRecDepth 100000 in
set_option maxHeartbeats 2000000 in
theorem rins_a1 (w : World) (h : DA C R g ra rc pa pc ps s w) (N : DN s ps) (q : Nat) (hq : q < 4294967296) (da : Option Addr) (dc : Nat) (ds : List Nat) (hdl : ds.length ≤ 65535) (hdc : ds.length ≤ dc) (hX : Bts w da ds) (hA : dist q s.next < s.sz - s.ready.length) (l : Nat) (hl : dist q s.next = l) (d : List Nat) (hd : ds.take (s.sz - s.ready.length - l) = d) (hN : Adds s.parts l d) (hlh : lowF s.parts l d ≤ highF s.parts l d) (hh2 : highF s.parts l d ≤ 1048576) (hcv : ∀ j, lowF s.parts l d ≤ j → j < highF s.parts l d → atF s.parts j = none → l ≤ j ∧ j < l + d.length) (p : DPt) (t : List DPt) (hM : mergF s.parts l d (s.turn + 1) = p :: t) (htl : t.length ≤ 2000) (hf : 1024 < if p.1 = 0 then t.length else t.length + 1) :
    Calls Try.prog 12 #[.pointer (some ⟨g, 0, none⟩), .int .u32 (q : Nat), .slice da ds.length dc] w fun e w' => e = .returned (.tuple #[.int .i64 0, .int .i64 81]) ∧ Below w.heap.size w w' := by
  have HAD := Lib.hid (And.intro hN (And.intro hlh (And.intro hh2 hcv)))
  have HM := Lib.hid hM
  clear hN hlh hh2 hcv hM
  have HF := hf
  clear hf
  obtain ⟨x, hx⟩ : ∃ z, dist q s.next = z := ⟨_, rfl⟩
  have nx := N.nx
  have W1 : IntKind.u32.wrap ((q : Int) - (s.next : Int)) = (x : Int) := by rw [IntKind.wrap_u32]; unfold dist at hx; omega
  rw [hx] at hA hl
  have k0 : ¬ ((65535 : Int) < (ds.length : Int)) := by omega
  have c1 := blk_cell h.blk 1
  have HA := Lib.hid h
  obtain ⟨wn, hwn⟩ : ∃ z, s.sz - s.ready.length = z := ⟨_, rfl⟩
  have n1 := N.sz
  have n2 := N.rd
  clear h
  obtain rfl : x = l := hl
  have W2 : IntKind.i32.wrap (x : Int) = (x : Int) := by rw [IntKind.wrap_i32]; omega
  have W3 : IntKind.i64.wrap (x : Int) = (x : Int) := IntWalk.i64_in _ ⟨by omega, by omega⟩
  have k1 : ¬ ((x : Int) < 0) := by omega
  rw [hwn] at hA hd
  have k2 : ¬ ((wn : Int) ≤ (x : Int)) := by omega
  obtain ⟨z, hz⟩ : ∃ z, wn - x = z := ⟨_, rfl⟩
  rw [hz] at hd
  obtain ⟨m, hm⟩ : ∃ m, min ds.length z = m := ⟨_, rfl⟩
  have W5 : IntKind.i64.wrap ((wn : Int) - (x : Int)) = (z : Int) := by rw [IntWalk.i64_in _ ⟨by omega, by omega⟩]; omega
  have hmin : min (ds.length : Int) (z : Int) = (m : Int) := by omega
  have k3 : ¬ ((dc : Int) < (m : Int)) := by omega
  have k4 : (m : Int) ≤ (dc : Int) := by omega
  have hdm : d.length = m := by rw [← hd, List.length_take]; omega
  have hXd : Bts w da d := by rw [← hd]; exact hX.take z
  have hk : x + d.length ≤ 1048576 := by omega
  have HW := Lib.hid hwn
  have HX := Lib.hid hXd
  have HD := Lib.hid hdm
  clear hX hXd hd hz hm hdm hx hwn
  go_enter Try.func12, Try.ntmps12
  go_upto_region 13 with (first
    | (go_at_call 22; refine (rwindow_at w HA.out N.sz N.rd).mono ?_; rintro e V1 ⟨rfl, b⟩; have Q1 := Lib.hid b; rw [HW.out]; clear b)
    | (go_at_call 22; refine (rwindow_at V1 (HA.out.below Q1.out) N.sz N.rd).mono ?_; rintro e V2 ⟨rfl, b⟩; have Q2 := Lib.hid (Q1.out.trans (b.mono Q1.out.size)); rw [HW.out]; clear b)
    | fail)
  have Q3 := Lib.hid (Q2.out.drew)
  have A3 := Lib.hid (HA.out.below Q3.out)
  have X3 := Lib.hid (HX.out.below Q3.out)
  have c3 := blk_cell A3.out.blk 3
  have c4 := blk_cell A3.out.blk 4
  have WT : IntKind.i64.wrap ((s.turn : Int) + 1) = ((s.turn + 1 : Nat) : Int) := by have := N.tn; rw [IntWalk.i64_in _ ⟨by omega, by omega⟩]; omega
  clear c1 Q1
  go_region_held3 (fun W => W.cell? ⟨g, 3, none⟩ = some (.slice pa ps.length pc) ∧ W.cell? ⟨g, 4, none⟩ = some (.int .i64 (s.turn : Nat))) (first | exact ⟨c3, c4⟩ | (with_reducible exact KS.out) | go_keep) (first
    | (go_at_call 34; refine (rmerged_yes _ A3.out N x m da dc d X3.out HD.out hk HAD.out.1 HAD.out.2.1 HAD.out.2.2.1 HAD.out.2.2.2 p t HM.out).mono ?_; rintro e V4 ⟨ga, gc, P, T, rfl, hP, hT, hO, hB, hG, b4⟩; have KS : Hid (V4.cell? ⟨g, 3, none⟩ = some (.slice pa ps.length pc) ∧ V4.cell? ⟨g, 4, none⟩ = some (.int .i64 (s.turn : Nat))) := Lib.hid ⟨(b4.cell (p := ⟨g, 3, none⟩) (blk_lt A3.out.blk)).trans c3, (b4.cell (p := ⟨g, 4, none⟩) (blk_lt A3.out.blk)).trans c4⟩; have HPT := Lib.hid (And.intro hP hT); have O4 := Lib.hid hO; have B4 := Lib.hid (And.intro hB hG); have Q4 := Lib.hid (Q3.out.trans (b4.mono Q3.out.size)); have A4 := Lib.hid (A3.out.below b4); have HS4 := Lib.hid b4.size; clear hP hT hO hB hG; clear b4))
  obtain ⟨po, pl2, pt⟩ := P
  obtain ⟨pbb, pbs, pbc⟩ := pl2
  obtain rfl : (po, pbs, pt) = p := HPT.out.1
  have hTl : T.length = t.length := by rw [← HPT.out.2, List.length_map]
  rw [← hTl] at HF htl
  obtain ⟨nl, hnl⟩ : ∃ z, T.length + 1 = z := ⟨_, rfl⟩
  rw [hnl]
  obtain ⟨tl, htl2⟩ : ∃ z, T.length = z := ⟨_, rfl⟩
  rw [htl2] at hnl htl HF
  have HTL := Lib.hid (And.intro hTl htl2)
  have n01 : 0 < nl := by omega
  have n02 : (0 : Int) < (nl : Int) := by omega
  obtain ⟨gs, hgs, hgc⟩ := O4.out.cells3
  have m0 := blk_cell hgs 0
  rw [show gs[0]? = some (.int .i64 (po : Nat)) from hgc 0 _ rfl 0 _ rfl] at m0
  have GS := Lib.hid hgs
  have GC := Lib.hid hgc
  have WN : IntKind.i64.wrap ((nl : Int) - 1) = (tl : Int) := by rw [IntWalk.i64_in _ ⟨by omega, by omega⟩]; omega
  clear hTl htl2 hgs hgc KS c3 c4
  by_cases hp0 : po = 0
  case pos =>
    rw [if_pos hp0] at HF
    have b0 : ((po : Int) == 0) = true := by rw [beq_iff_eq]; omega
    have b1 : (1024 : Int) < (tl : Int) := by omega
    clear HF hp0
    go_wp2
    go_ret2
    exact ⟨rfl, Q4.out⟩
  case neg =>
    rw [if_neg hp0] at HF
    have b0 : ((po : Int) == 0) = false := by rw [beq_eq_false_iff_ne]; omega
    have b1 : (1024 : Int) < (nl : Int) := by omega
    clear HF hp0
    go_wp2
    go_ret2
    exact ⟨rfl, Q4.out⟩
set_option maxRecDepth 100000 in
set_option maxHeartbeats 2000000 in
theorem rins_a2 (w : World) (h : DA C R g ra rc pa pc ps s w) (N : DN s ps) (q : Nat) (hq : q < 4294967296) (da : Option Addr) (dc : Nat) (ds : List Nat) (hdl : ds.length ≤ 65535) (hdc : ds.length ≤ dc) (hX : Bts w da ds) (hRl : ∀ k, R k → k < w.heap.size) (hC : C ≤ w.heap.size) (hA : dist q s.next < s.sz - s.ready.length) (l : Nat) (hl : dist q s.next = l) (d : List Nat) (hd : ds.take (s.sz - s.ready.length - l) = d) (hN : Adds s.parts l d) (hlh : lowF s.parts l d ≤ highF s.parts l d) (hh2 : highF s.parts l d ≤ 1048576) (hcv : ∀ j, lowF s.parts l d ≤ j → j < highF s.parts l d → atF s.parts j = none → l ≤ j ∧ j < l + d.length) (p : DPt) (t : List DPt) (hM : mergF s.parts l d (s.turn + 1) = p :: t) (hf : ¬ 1024 < t.length + 1) (hp : 0 < p.1) :
    Calls Try.prog 12 #[.pointer (some ⟨g, 0, none⟩), .int .u32 (q : Nat), .slice da ds.length dc] w fun e w' => e = .returned (.tuple #[.int .i64 0, .int .i64 0]) ∧ (∃ pa' pc' ps', DA C (fun k => R k ∨ w.heap.size ≤ k) g ra rc pa' pc' ps' { s with parts := p :: t, turn := s.turn + 1 } w') ∧ Turns R w w' := by
  have HAD := Lib.hid (And.intro hN (And.intro hlh (And.intro hh2 hcv)))
  have HM := Lib.hid hM
  clear hN hlh hh2 hcv hM
  have HF := hf
  have htl : t.length ≤ 2000 := by omega
  clear hf
  have HRL := Lib.hid hRl
  have HCC := Lib.hid hC
  clear hRl hC
  obtain ⟨x, hx⟩ : ∃ z, dist q s.next = z := ⟨_, rfl⟩
  have nx := N.nx
  have W1 : IntKind.u32.wrap ((q : Int) - (s.next : Int)) = (x : Int) := by rw [IntKind.wrap_u32]; unfold dist at hx; omega
  rw [hx] at hA hl
  have k0 : ¬ ((65535 : Int) < (ds.length : Int)) := by omega
  have c1 := blk_cell h.blk 1
  have HA := Lib.hid h
  obtain ⟨wn, hwn⟩ : ∃ z, s.sz - s.ready.length = z := ⟨_, rfl⟩
  have n1 := N.sz
  have n2 := N.rd
  clear h
  obtain rfl : x = l := hl
  have W2 : IntKind.i32.wrap (x : Int) = (x : Int) := by rw [IntKind.wrap_i32]; omega
  have W3 : IntKind.i64.wrap (x : Int) = (x : Int) := IntWalk.i64_in _ ⟨by omega, by omega⟩
  have k1 : ¬ ((x : Int) < 0) := by omega
  rw [hwn] at hA hd
  have k2 : ¬ ((wn : Int) ≤ (x : Int)) := by omega
  obtain ⟨z, hz⟩ : ∃ z, wn - x = z := ⟨_, rfl⟩
  rw [hz] at hd
  obtain ⟨m, hm⟩ : ∃ m, min ds.length z = m := ⟨_, rfl⟩
  have W5 : IntKind.i64.wrap ((wn : Int) - (x : Int)) = (z : Int) := by rw [IntWalk.i64_in _ ⟨by omega, by omega⟩]; omega
  have hmin : min (ds.length : Int) (z : Int) = (m : Int) := by omega
  have k3 : ¬ ((dc : Int) < (m : Int)) := by omega
  have k4 : (m : Int) ≤ (dc : Int) := by omega
  have hdm : d.length = m := by rw [← hd, List.length_take]; omega
  have hXd : Bts w da d := by rw [← hd]; exact hX.take z
  have hk : x + d.length ≤ 1048576 := by omega
  have HW := Lib.hid hwn
  have HX := Lib.hid hXd
  have HD := Lib.hid hdm
  clear hX hXd hd hz hm hdm hx hwn
  go_enter Try.func12, Try.ntmps12
  go_upto_region 13 with (first
    | (go_at_call 22; refine (rwindow_at w HA.out N.sz N.rd).mono ?_; rintro e V1 ⟨rfl, b⟩; have Q1 := Lib.hid b; rw [HW.out]; clear b)
    | (go_at_call 22; refine (rwindow_at V1 (HA.out.below Q1.out) N.sz N.rd).mono ?_; rintro e V2 ⟨rfl, b⟩; have Q2 := Lib.hid (Q1.out.trans (b.mono Q1.out.size)); rw [HW.out]; clear b)
    | fail)
  have Q3 := Lib.hid (Q2.out.drew)
  have A3 := Lib.hid (HA.out.below Q3.out)
  have X3 := Lib.hid (HX.out.below Q3.out)
  have c3 := blk_cell A3.out.blk 3
  have c4 := blk_cell A3.out.blk 4
  have WT : IntKind.i64.wrap ((s.turn : Int) + 1) = ((s.turn + 1 : Nat) : Int) := by have := N.tn; rw [IntWalk.i64_in _ ⟨by omega, by omega⟩]; omega
  clear c1 Q1
  go_region_held3 (fun W => W.cell? ⟨g, 3, none⟩ = some (.slice pa ps.length pc) ∧ W.cell? ⟨g, 4, none⟩ = some (.int .i64 (s.turn : Nat))) (first | exact ⟨c3, c4⟩ | (with_reducible exact KS.out) | go_keep) (first
    | (go_at_call 34; refine (rmerged_yes _ A3.out N x m da dc d X3.out HD.out hk HAD.out.1 HAD.out.2.1 HAD.out.2.2.1 HAD.out.2.2.2 p t HM.out).mono ?_; rintro e V4 ⟨ga, gc, P, T, rfl, hP, hT, hO, hB, hG, b4⟩; have KS : Hid (V4.cell? ⟨g, 3, none⟩ = some (.slice pa ps.length pc) ∧ V4.cell? ⟨g, 4, none⟩ = some (.int .i64 (s.turn : Nat))) := Lib.hid ⟨(b4.cell (p := ⟨g, 3, none⟩) (blk_lt A3.out.blk)).trans c3, (b4.cell (p := ⟨g, 4, none⟩) (blk_lt A3.out.blk)).trans c4⟩; have HPT := Lib.hid (And.intro hP hT); have O4 := Lib.hid hO; have B4 := Lib.hid (And.intro hB hG); have Q4 := Lib.hid (Q3.out.trans (b4.mono Q3.out.size)); have A4 := Lib.hid (A3.out.below b4); have HS4 := Lib.hid b4.size; clear hP hT hO hB hG; clear b4))
  obtain ⟨po, pl2, pt⟩ := P
  obtain ⟨pbb, pbs, pbc⟩ := pl2
  obtain rfl : (po, pbs, pt) = p := HPT.out.1
  have hTl : T.length = t.length := by rw [← HPT.out.2, List.length_map]
  rw [← hTl] at HF htl
  obtain ⟨nl, hnl⟩ : ∃ z, T.length + 1 = z := ⟨_, rfl⟩
  rw [hnl]
  obtain ⟨tl, htl2⟩ : ∃ z, T.length = z := ⟨_, rfl⟩
  rw [htl2] at hnl htl HF
  have HTL := Lib.hid (And.intro hTl htl2)
  have n01 : 0 < nl := by omega
  have n02 : (0 : Int) < (nl : Int) := by omega
  obtain ⟨gs, hgs, hgc⟩ := O4.out.cells3
  have m0 := blk_cell hgs 0
  rw [show gs[0]? = some (.int .i64 (po : Nat)) from hgc 0 _ rfl 0 _ rfl] at m0
  have GS := Lib.hid hgs
  have GC := Lib.hid hgc
  have WN : IntKind.i64.wrap ((nl : Int) - 1) = (tl : Int) := by rw [IntWalk.i64_in _ ⟨by omega, by omega⟩]; omega
  clear hTl htl2 hgs hgc KS c3 c4
  have hp1 : 0 < po := hp
  have b0 : ((po : Int) == 0) = false := by rw [beq_eq_false_iff_ne]; omega
  have b1 : ¬ ((1024 : Int) < (nl : Int)) := by omega
  have b2 : (0 : Int) < (po : Int) := by omega
  clear HF hp
  have gA := blk_lt A3.out.blk
  have hgaV : V2.drew.heap.size ≤ ga := (O4.out.ownB ga rfl).1
  have hne : ga ≠ g := by omega
  have c4 := blk_cell A4.out.blk 4
  have f4 := blk_free A4.out.blk 4
  go_upto_region 22 with fail
  have g5 := gr_set V4 g 4 (.int .i64 ((s.turn : Int) + 1))
  have S5 := Lib.hid (blk_set A4.out.blk 4 (.int .i64 ((s.turn : Int) + 1)))
  have GS5 := Lib.hid ((g5.block ga (blk_lt GS.out) (fun e => hne (Option.some.inj e))).trans GS.out)
  have T5 := Lib.hid (Turns.of_grown (S := fun z => z = g) (fun z e => by cases e; rfl) g5)
  clear c4 f4 m0 g5
  generalize V4.setCell ⟨g, 4, none⟩ (.int .i64 ((s.turn : Int) + 1)) = V5 at S5 GS5 T5 ⊢
  have c3 := blk_cell S5.out 3
  have f3 := blk_free S5.out 3
  go_upto_region 23 with fail
  have g6 := gr_set V5 g 3 (.slice (some ⟨ga, 0, none⟩) nl gc)
  have S6 := Lib.hid (blk_set S5.out 3 (.slice (some ⟨ga, 0, none⟩) nl gc))
  have GS6 := Lib.hid ((g6.block ga (blk_lt GS5.out) (fun e => hne (Option.some.inj e))).trans GS5.out)
  have T6 := Lib.hid (T5.out.trans (Turns.of_grown (S := fun z => z = g) (fun z e => by cases e; rfl) g6))
  clear c3 f3 g6
  generalize V5.setCell ⟨g, 3, none⟩ (.slice (some ⟨ga, 0, none⟩) nl gc) = V6 at S6 GS6 T6 ⊢
  have m0 := blk_cell GS6.out 0
  rw [show gs[0]? = some (.int .i64 (po : Nat)) from GC.out 0 _ rfl 0 _ rfl] at m0
  clear S5 GS5 T5
  go_wp2
  go_ret2
  have hsz := Q3.out.size
  have hTg : ∀ k, R k → ¬ k = ga := fun k hk => by have := HRL.out k hk; omega
  have hO6 := O4.out.turned T6.out (fun z e => by cases e; exact hne)
  refine ⟨rfl, ⟨some ⟨ga, 0, none⟩, gc, (po, (pbb, pbs, pbc), pt) :: T, ⟨?_, A4.out.rdy.turned T6.out (fun z o e => A4.out.gr z o e), hO6.mono (Nat.le_trans HCC.out hsz), fun x hx => (B4.out.1 x hx).turned T6.out (fun z o e => ?_), ?_, A4.out.gr, (fun e => by cases e; exact hne rfl), (fun z o e => (by have := HRL.out z (A4.out.ir z o e); intro e2; cases e2; omega)), fun x hx z o fr e => ?_, .inl A4.out.ig, fun z o e => .inl (A4.out.ir z o e), (fun z e => by cases e; exact .inr (by omega)), fun x hx z o fr e => ?_⟩⟩, ?_⟩
  · have e1 : nl = ((po, (pbb, pbs, pbc), pt) :: T).length := by rw [List.length_cons]; have := HTL.out; omega
    rw [← e1]; exact S6.out
  · rcases B4.out.2 x hx z o none e with ⟨y, hy, e2⟩ | ⟨h1, h2⟩
    · exact (A4.out.go y hy z o none e2).1
    · omega
  · show dpt _ :: T.map dpt = _
    rw [HPT.out.2]; rfl
  · rcases B4.out.2 x hx z o fr e with ⟨y, hy, e2⟩ | ⟨h1, h2⟩
    · have h3 := A4.out.go y hy z o fr e2
      have h4 := HRL.out z (A4.out.io y hy z o fr e2)
      exact ⟨h3.1, (fun e => by cases e; omega), h3.2.2⟩
    · exact ⟨by omega, (fun e => by cases e; exact h2 rfl), fun o' e3 => by have := HRL.out z (A4.out.ir z o' e3); omega⟩
  · rcases B4.out.2 x hx z o fr e with ⟨y, hy, e2⟩ | ⟨h1, h2⟩
    · exact .inl (A4.out.io y hy z o fr e2)
    · exact .inr (by omega)
  · exact ((Turns.of_below _ Q4.out).trans T6.out).mono (fun z e => e ▸ A4.out.ig)
end Go.Proofs.Ytknebjfdggimcaa

namespace Go.Proofs.Ytknebjfdggimcaa
open Go.RowKit Go.Proofs.Ytknebjfdggimcaa.Rv

variable {R : Nat → Prop} {C g rc pc : Nat} {ra pa : Option Addr} {ps : List DP} {s : DSt}

set_option maxRecDepth 100000 in
set_option maxHeartbeats 2000000 in
theorem rins_b0 (w : World) (h : DA C R g ra rc pa pc ps s w) (N : DN s ps) (q : Nat) (hq : q < 4294967296) (da : Option Addr) (dc : Nat) (ds : List Nat) (hdl : ds.length ≤ 65535) (hdc : ds.length ≤ dc) (hX : Bts w da ds) (hA : 2147483648 ≤ dist q s.next) (hm0 : 4294967296 - dist q s.next < ds.length) (hw0 : 0 < s.sz - s.ready.length) (l : Nat) (hl : l = 0) (d : List Nat) (hd : (ds.drop (min (4294967296 - dist q s.next) ds.length)).take (s.sz - s.ready.length) = d) (hN : ¬ Adds s.parts l d) :
    Calls Try.prog 12 #[.pointer (some ⟨g, 0, none⟩), .int .u32 (q : Nat), .slice da ds.length dc] w fun e w' => e = .returned (.tuple #[.int .i64 0, .int .i64 0]) ∧ Below w.heap.size w w' := by
  have HAD := Lib.hid hN
  clear hN
  subst hl
  obtain ⟨x, hx⟩ : ∃ z, dist q s.next = z := ⟨_, rfl⟩
  have nx := N.nx
  have W1 : IntKind.u32.wrap ((q : Int) - (s.next : Int)) = (x : Int) := by rw [IntKind.wrap_u32]; unfold dist at hx; omega
  rw [hx] at hA
  have k0 : ¬ ((65535 : Int) < (ds.length : Int)) := by omega
  have c1 := blk_cell h.blk 1
  have HA := Lib.hid h
  obtain ⟨wn, hwn⟩ : ∃ z, s.sz - s.ready.length = z := ⟨_, rfl⟩
  have n1 := N.sz
  have n2 := N.rd
  clear h
  obtain ⟨y, hy⟩ : ∃ y, 4294967296 - x = y := ⟨_, rfl⟩
  have hxb : x < 4294967296 := by rw [← hx]; exact Nat.mod_lt _ (by decide)
  have W2 : IntKind.i32.wrap (x : Int) = -(y : Int) := by rw [IntKind.wrap_i32]; omega
  have W3 : IntKind.i64.wrap (-(y : Int)) = -(y : Int) := IntWalk.i64_in _ ⟨by omega, by omega⟩
  have W4 : IntKind.i64.wrap (y : Int) = (y : Int) := IntWalk.i64_in _ ⟨by omega, by omega⟩
  have k1 : -(y : Int) < 0 := by omega
  have k1' : 0 < y := by omega
  have k1'' : (0 : Int) < (y : Int) := by omega
  obtain ⟨k, hk⟩ : ∃ k, min y ds.length = k := ⟨_, rfl⟩
  have hmin : min (y : Int) (ds.length : Int) = (k : Int) := by omega
  have k2 : ¬ ((dc : Int) < (k : Int)) := by omega
  have k3 : ¬ ((ds.length : Int) < (k : Int)) := by omega
  have k4 : (k : Int) ≤ (ds.length : Int) := by omega
  have k5 : (k : Int) ≤ (dc : Int) := by omega
  obtain ⟨m1, hm1⟩ : ∃ m, ds.length - k = m := ⟨_, rfl⟩
  rw [hx, hy] at hm0
  rw [hwn] at hw0
  rw [hx, hy, hk, hwn] at hd
  have k6 : ((m1 : Int) == 0) = false := by rw [beq_eq_false_iff_ne]; omega
  have k7 : ¬ ((wn : Int) ≤ 0) := by omega
  have k8 : ¬ (dc = k) := by omega
  have W5 : IntKind.i64.wrap (wn : Int) = (wn : Int) := IntWalk.i64_in _ ⟨by omega, by omega⟩
  obtain ⟨m, hm⟩ : ∃ m, min m1 wn = m := ⟨_, rfl⟩
  have hmin2 : min (m1 : Int) (wn : Int) = (m : Int) := by omega
  obtain ⟨xc, hxc⟩ : ∃ z, dc - k = z := ⟨_, rfl⟩
  obtain ⟨xa, hxa⟩ : ∃ z, Option.map (fun y : Addr => y.add k) da = z := ⟨_, rfl⟩
  have k9 : ¬ ((xc : Int) < (m : Int)) := by omega
  have k10 : (m : Int) ≤ (xc : Int) := by omega
  have hdm : d.length = m := by rw [← hd, List.length_take, List.length_drop]; omega
  have hXd : Bts w xa d := by
    rw [← hd, ← hxa]
    refine Bts.take ?_ wn
    obtain ⟨b, off, e, hb, hc2⟩ := hX.isSome (by omega)
    subst e
    have e : Option.map (fun x : Addr => x.add k) (some ⟨b, off, none⟩) = some ⟨b, off + k, none⟩ := by simp only [Option.map_some]; unfold Addr.add; split <;> simp_all
    rw [e]; exact hX.drop k
  have hkd : 0 + d.length ≤ 1048576 := by omega
  have HW := Lib.hid hwn
  have HX := Lib.hid hXd
  have HD := Lib.hid hdm
  clear hX hXd hd hm hdm hx hwn hk hy
  have hk := hkd
  clear hkd
  go_enter Try.func12, Try.ntmps12
  go_upto_region 13 with (first
    | (go_at_call 22; refine (rwindow_at w HA.out N.sz N.rd).mono ?_; rintro e V1 ⟨rfl, b⟩; have Q1 := Lib.hid b; rw [HW.out]; clear b)
    | (go_at_call 22; refine (rwindow_at V1 (HA.out.below Q1.out) N.sz N.rd).mono ?_; rintro e V2 ⟨rfl, b⟩; have Q2 := Lib.hid (Q1.out.trans (b.mono Q1.out.size)); rw [HW.out]; clear b)
    | fail)
  have Q3 := Lib.hid (Q2.out.drew)
  have A3 := Lib.hid (HA.out.below Q3.out)
  have X3 := Lib.hid (HX.out.below Q3.out)
  have c3 := blk_cell A3.out.blk 3
  have c4 := blk_cell A3.out.blk 4
  have WT : IntKind.i64.wrap ((s.turn : Int) + 1) = ((s.turn + 1 : Nat) : Int) := by have := N.tn; rw [IntWalk.i64_in _ ⟨by omega, by omega⟩]; omega
  clear c1 Q1
  go_region_held3 (fun W => W.cell? ⟨g, 3, none⟩ = some (.slice pa ps.length pc) ∧ W.cell? ⟨g, 4, none⟩ = some (.int .i64 (s.turn : Nat))) (first | exact ⟨c3, c4⟩ | (with_reducible exact KS.out) | go_keep) (first
    | (go_at_call 34; refine (rmerged_no _ A3.out N 0 m xa xc d HD.out hk HAD.out).mono ?_; rintro e V4 ⟨rfl, b4⟩; have KS : Hid (V4.cell? ⟨g, 3, none⟩ = some (.slice pa ps.length pc) ∧ V4.cell? ⟨g, 4, none⟩ = some (.int .i64 (s.turn : Nat))) := Lib.hid ⟨(b4.cell (p := ⟨g, 3, none⟩) (blk_lt A3.out.blk)).trans c3, (b4.cell (p := ⟨g, 4, none⟩) (blk_lt A3.out.blk)).trans c4⟩; have Q4 := Lib.hid (Q3.out.trans (b4.mono Q3.out.size)); clear b4))
  go_wp2
  go_ret2
  exact ⟨rfl, Q4.out⟩
set_option maxRecDepth 100000 in
set_option maxHeartbeats 2000000 in
theorem rins_b1 (w : World) (h : DA C R g ra rc pa pc ps s w) (N : DN s ps) (q : Nat) (hq : q < 4294967296) (da : Option Addr) (dc : Nat) (ds : List Nat) (hdl : ds.length ≤ 65535) (hdc : ds.length ≤ dc) (hX : Bts w da ds) (hA : 2147483648 ≤ dist q s.next) (hm0 : 4294967296 - dist q s.next < ds.length) (hw0 : 0 < s.sz - s.ready.length) (l : Nat) (hl : l = 0) (d : List Nat) (hd : (ds.drop (min (4294967296 - dist q s.next) ds.length)).take (s.sz - s.ready.length) = d) (hN : Adds s.parts l d) (hlh : lowF s.parts l d ≤ highF s.parts l d) (hh2 : highF s.parts l d ≤ 1048576) (hcv : ∀ j, lowF s.parts l d ≤ j → j < highF s.parts l d → atF s.parts j = none → l ≤ j ∧ j < l + d.length) (p : DPt) (t : List DPt) (hM : mergF s.parts l d (s.turn + 1) = p :: t) (htl : t.length ≤ 2000) (hf : 1024 < if p.1 = 0 then t.length else t.length + 1) :
    Calls Try.prog 12 #[.pointer (some ⟨g, 0, none⟩), .int .u32 (q : Nat), .slice da ds.length dc] w fun e w' => e = .returned (.tuple #[.int .i64 0, .int .i64 81]) ∧ Below w.heap.size w w' := by
  have HAD := Lib.hid (And.intro hN (And.intro hlh (And.intro hh2 hcv)))
  have HM := Lib.hid hM
  clear hN hlh hh2 hcv hM
  have HF := hf
  clear hf
  subst hl
  obtain ⟨x, hx⟩ : ∃ z, dist q s.next = z := ⟨_, rfl⟩
  have nx := N.nx
  have W1 : IntKind.u32.wrap ((q : Int) - (s.next : Int)) = (x : Int) := by rw [IntKind.wrap_u32]; unfold dist at hx; omega
  rw [hx] at hA
  have k0 : ¬ ((65535 : Int) < (ds.length : Int)) := by omega
  have c1 := blk_cell h.blk 1
  have HA := Lib.hid h
  obtain ⟨wn, hwn⟩ : ∃ z, s.sz - s.ready.length = z := ⟨_, rfl⟩
  have n1 := N.sz
  have n2 := N.rd
  clear h
  obtain ⟨y, hy⟩ : ∃ y, 4294967296 - x = y := ⟨_, rfl⟩
  have hxb : x < 4294967296 := by rw [← hx]; exact Nat.mod_lt _ (by decide)
  have W2 : IntKind.i32.wrap (x : Int) = -(y : Int) := by rw [IntKind.wrap_i32]; omega
  have W3 : IntKind.i64.wrap (-(y : Int)) = -(y : Int) := IntWalk.i64_in _ ⟨by omega, by omega⟩
  have W4 : IntKind.i64.wrap (y : Int) = (y : Int) := IntWalk.i64_in _ ⟨by omega, by omega⟩
  have k1 : -(y : Int) < 0 := by omega
  have k1' : 0 < y := by omega
  have k1'' : (0 : Int) < (y : Int) := by omega
  obtain ⟨k, hk⟩ : ∃ k, min y ds.length = k := ⟨_, rfl⟩
  have hmin : min (y : Int) (ds.length : Int) = (k : Int) := by omega
  have k2 : ¬ ((dc : Int) < (k : Int)) := by omega
  have k3 : ¬ ((ds.length : Int) < (k : Int)) := by omega
  have k4 : (k : Int) ≤ (ds.length : Int) := by omega
  have k5 : (k : Int) ≤ (dc : Int) := by omega
  obtain ⟨m1, hm1⟩ : ∃ m, ds.length - k = m := ⟨_, rfl⟩
  rw [hx, hy] at hm0
  rw [hwn] at hw0
  rw [hx, hy, hk, hwn] at hd
  have k6 : ((m1 : Int) == 0) = false := by rw [beq_eq_false_iff_ne]; omega
  have k7 : ¬ ((wn : Int) ≤ 0) := by omega
  have k8 : ¬ (dc = k) := by omega
  have W5 : IntKind.i64.wrap (wn : Int) = (wn : Int) := IntWalk.i64_in _ ⟨by omega, by omega⟩
  obtain ⟨m, hm⟩ : ∃ m, min m1 wn = m := ⟨_, rfl⟩
  have hmin2 : min (m1 : Int) (wn : Int) = (m : Int) := by omega
  obtain ⟨xc, hxc⟩ : ∃ z, dc - k = z := ⟨_, rfl⟩
  obtain ⟨xa, hxa⟩ : ∃ z, Option.map (fun y : Addr => y.add k) da = z := ⟨_, rfl⟩
  have k9 : ¬ ((xc : Int) < (m : Int)) := by omega
  have k10 : (m : Int) ≤ (xc : Int) := by omega
  have hdm : d.length = m := by rw [← hd, List.length_take, List.length_drop]; omega
  have hXd : Bts w xa d := by
    rw [← hd, ← hxa]
    refine Bts.take ?_ wn
    obtain ⟨b, off, e, hb, hc2⟩ := hX.isSome (by omega)
    subst e
    have e : Option.map (fun x : Addr => x.add k) (some ⟨b, off, none⟩) = some ⟨b, off + k, none⟩ := by simp only [Option.map_some]; unfold Addr.add; split <;> simp_all
    rw [e]; exact hX.drop k
  have hkd : 0 + d.length ≤ 1048576 := by omega
  have HW := Lib.hid hwn
  have HX := Lib.hid hXd
  have HD := Lib.hid hdm
  clear hX hXd hd hm hdm hx hwn hk hy
  have hk := hkd
  clear hkd
  go_enter Try.func12, Try.ntmps12
  go_upto_region 13 with (first
    | (go_at_call 22; refine (rwindow_at w HA.out N.sz N.rd).mono ?_; rintro e V1 ⟨rfl, b⟩; have Q1 := Lib.hid b; rw [HW.out]; clear b)
    | (go_at_call 22; refine (rwindow_at V1 (HA.out.below Q1.out) N.sz N.rd).mono ?_; rintro e V2 ⟨rfl, b⟩; have Q2 := Lib.hid (Q1.out.trans (b.mono Q1.out.size)); rw [HW.out]; clear b)
    | fail)
  have Q3 := Lib.hid (Q2.out.drew)
  have A3 := Lib.hid (HA.out.below Q3.out)
  have X3 := Lib.hid (HX.out.below Q3.out)
  have c3 := blk_cell A3.out.blk 3
  have c4 := blk_cell A3.out.blk 4
  have WT : IntKind.i64.wrap ((s.turn : Int) + 1) = ((s.turn + 1 : Nat) : Int) := by have := N.tn; rw [IntWalk.i64_in _ ⟨by omega, by omega⟩]; omega
  clear c1 Q1
  go_region_held3 (fun W => W.cell? ⟨g, 3, none⟩ = some (.slice pa ps.length pc) ∧ W.cell? ⟨g, 4, none⟩ = some (.int .i64 (s.turn : Nat))) (first | exact ⟨c3, c4⟩ | (with_reducible exact KS.out) | go_keep) (first
    | (go_at_call 34; refine (rmerged_yes _ A3.out N 0 m xa xc d X3.out HD.out hk HAD.out.1 HAD.out.2.1 HAD.out.2.2.1 HAD.out.2.2.2 p t HM.out).mono ?_; rintro e V4 ⟨ga, gc, P, T, rfl, hP, hT, hO, hB, hG, b4⟩; have KS : Hid (V4.cell? ⟨g, 3, none⟩ = some (.slice pa ps.length pc) ∧ V4.cell? ⟨g, 4, none⟩ = some (.int .i64 (s.turn : Nat))) := Lib.hid ⟨(b4.cell (p := ⟨g, 3, none⟩) (blk_lt A3.out.blk)).trans c3, (b4.cell (p := ⟨g, 4, none⟩) (blk_lt A3.out.blk)).trans c4⟩; have HPT := Lib.hid (And.intro hP hT); have O4 := Lib.hid hO; have B4 := Lib.hid (And.intro hB hG); have Q4 := Lib.hid (Q3.out.trans (b4.mono Q3.out.size)); have A4 := Lib.hid (A3.out.below b4); have HS4 := Lib.hid b4.size; clear hP hT hO hB hG; clear b4))
  obtain ⟨po, pl2, pt⟩ := P
  obtain ⟨pbb, pbs, pbc⟩ := pl2
  obtain rfl : (po, pbs, pt) = p := HPT.out.1
  have hTl : T.length = t.length := by rw [← HPT.out.2, List.length_map]
  rw [← hTl] at HF htl
  obtain ⟨nl, hnl⟩ : ∃ z, T.length + 1 = z := ⟨_, rfl⟩
  rw [hnl]
  obtain ⟨tl, htl2⟩ : ∃ z, T.length = z := ⟨_, rfl⟩
  rw [htl2] at hnl htl HF
  have HTL := Lib.hid (And.intro hTl htl2)
  have n01 : 0 < nl := by omega
  have n02 : (0 : Int) < (nl : Int) := by omega
  obtain ⟨gs, hgs, hgc⟩ := O4.out.cells3
  have m0 := blk_cell hgs 0
  rw [show gs[0]? = some (.int .i64 (po : Nat)) from hgc 0 _ rfl 0 _ rfl] at m0
  have GS := Lib.hid hgs
  have GC := Lib.hid hgc
  have WN : IntKind.i64.wrap ((nl : Int) - 1) = (tl : Int) := by rw [IntWalk.i64_in _ ⟨by omega, by omega⟩]; omega
  clear hTl htl2 hgs hgc KS c3 c4
  by_cases hp0 : po = 0
  case pos =>
    rw [if_pos hp0] at HF
    have b0 : ((po : Int) == 0) = true := by rw [beq_iff_eq]; omega
    have b1 : (1024 : Int) < (tl : Int) := by omega
    clear HF hp0
    go_wp2
    go_ret2
    exact ⟨rfl, Q4.out⟩
  case neg =>
    rw [if_neg hp0] at HF
    have b0 : ((po : Int) == 0) = false := by rw [beq_eq_false_iff_ne]; omega
    have b1 : (1024 : Int) < (nl : Int) := by omega
    clear HF hp0
    go_wp2
    go_ret2
    exact ⟨rfl, Q4.out⟩
set_option maxRecDepth 100000 in
set_option maxHeartbeats 2000000 in
theorem rins_b2 (w : World) (h : DA C R g ra rc pa pc ps s w) (N : DN s ps) (q : Nat) (hq : q < 4294967296) (da : Option Addr) (dc : Nat) (ds : List Nat) (hdl : ds.length ≤ 65535) (hdc : ds.length ≤ dc) (hX : Bts w da ds) (hRl : ∀ k, R k → k < w.heap.size) (hC : C ≤ w.heap.size) (hA : 2147483648 ≤ dist q s.next) (hm0 : 4294967296 - dist q s.next < ds.length) (hw0 : 0 < s.sz - s.ready.length) (l : Nat) (hl : l = 0) (d : List Nat) (hd : (ds.drop (min (4294967296 - dist q s.next) ds.length)).take (s.sz - s.ready.length) = d) (hN : Adds s.parts l d) (hlh : lowF s.parts l d ≤ highF s.parts l d) (hh2 : highF s.parts l d ≤ 1048576) (hcv : ∀ j, lowF s.parts l d ≤ j → j < highF s.parts l d → atF s.parts j = none → l ≤ j ∧ j < l + d.length) (p : DPt) (t : List DPt) (hM : mergF s.parts l d (s.turn + 1) = p :: t) (hf : ¬ 1024 < t.length + 1) (hp : 0 < p.1) :
    Calls Try.prog 12 #[.pointer (some ⟨g, 0, none⟩), .int .u32 (q : Nat), .slice da ds.length dc] w fun e w' => e = .returned (.tuple #[.int .i64 0, .int .i64 0]) ∧ (∃ pa' pc' ps', DA C (fun k => R k ∨ w.heap.size ≤ k) g ra rc pa' pc' ps' { s with parts := p :: t, turn := s.turn + 1 } w') ∧ Turns R w w' := by
  have HAD := Lib.hid (And.intro hN (And.intro hlh (And.intro hh2 hcv)))
  have HM := Lib.hid hM
  clear hN hlh hh2 hcv hM
  have HF := hf
  have htl : t.length ≤ 2000 := by omega
  clear hf
  have HRL := Lib.hid hRl
  have HCC := Lib.hid hC
  clear hRl hC
  subst hl
  obtain ⟨x, hx⟩ : ∃ z, dist q s.next = z := ⟨_, rfl⟩
  have nx := N.nx
  have W1 : IntKind.u32.wrap ((q : Int) - (s.next : Int)) = (x : Int) := by rw [IntKind.wrap_u32]; unfold dist at hx; omega
  rw [hx] at hA
  have k0 : ¬ ((65535 : Int) < (ds.length : Int)) := by omega
  have c1 := blk_cell h.blk 1
  have HA := Lib.hid h
  obtain ⟨wn, hwn⟩ : ∃ z, s.sz - s.ready.length = z := ⟨_, rfl⟩
  have n1 := N.sz
  have n2 := N.rd
  clear h
  obtain ⟨y, hy⟩ : ∃ y, 4294967296 - x = y := ⟨_, rfl⟩
  have hxb : x < 4294967296 := by rw [← hx]; exact Nat.mod_lt _ (by decide)
  have W2 : IntKind.i32.wrap (x : Int) = -(y : Int) := by rw [IntKind.wrap_i32]; omega
  have W3 : IntKind.i64.wrap (-(y : Int)) = -(y : Int) := IntWalk.i64_in _ ⟨by omega, by omega⟩
  have W4 : IntKind.i64.wrap (y : Int) = (y : Int) := IntWalk.i64_in _ ⟨by omega, by omega⟩
  have k1 : -(y : Int) < 0 := by omega
  have k1' : 0 < y := by omega
  have k1'' : (0 : Int) < (y : Int) := by omega
  obtain ⟨k, hk⟩ : ∃ k, min y ds.length = k := ⟨_, rfl⟩
  have hmin : min (y : Int) (ds.length : Int) = (k : Int) := by omega
  have k2 : ¬ ((dc : Int) < (k : Int)) := by omega
  have k3 : ¬ ((ds.length : Int) < (k : Int)) := by omega
  have k4 : (k : Int) ≤ (ds.length : Int) := by omega
  have k5 : (k : Int) ≤ (dc : Int) := by omega
  obtain ⟨m1, hm1⟩ : ∃ m, ds.length - k = m := ⟨_, rfl⟩
  rw [hx, hy] at hm0
  rw [hwn] at hw0
  rw [hx, hy, hk, hwn] at hd
  have k6 : ((m1 : Int) == 0) = false := by rw [beq_eq_false_iff_ne]; omega
  have k7 : ¬ ((wn : Int) ≤ 0) := by omega
  have k8 : ¬ (dc = k) := by omega
  have W5 : IntKind.i64.wrap (wn : Int) = (wn : Int) := IntWalk.i64_in _ ⟨by omega, by omega⟩
  obtain ⟨m, hm⟩ : ∃ m, min m1 wn = m := ⟨_, rfl⟩
  have hmin2 : min (m1 : Int) (wn : Int) = (m : Int) := by omega
  obtain ⟨xc, hxc⟩ : ∃ z, dc - k = z := ⟨_, rfl⟩
  obtain ⟨xa, hxa⟩ : ∃ z, Option.map (fun y : Addr => y.add k) da = z := ⟨_, rfl⟩
  have k9 : ¬ ((xc : Int) < (m : Int)) := by omega
  have k10 : (m : Int) ≤ (xc : Int) := by omega
  have hdm : d.length = m := by rw [← hd, List.length_take, List.length_drop]; omega
  have hXd : Bts w xa d := by
    rw [← hd, ← hxa]
    refine Bts.take ?_ wn
    obtain ⟨b, off, e, hb, hc2⟩ := hX.isSome (by omega)
    subst e
    have e : Option.map (fun x : Addr => x.add k) (some ⟨b, off, none⟩) = some ⟨b, off + k, none⟩ := by simp only [Option.map_some]; unfold Addr.add; split <;> simp_all
    rw [e]; exact hX.drop k
  have hkd : 0 + d.length ≤ 1048576 := by omega
  have HW := Lib.hid hwn
  have HX := Lib.hid hXd
  have HD := Lib.hid hdm
  clear hX hXd hd hm hdm hx hwn hk hy
  have hk := hkd
  clear hkd
  go_enter Try.func12, Try.ntmps12
  go_upto_region 13 with (first
    | (go_at_call 22; refine (rwindow_at w HA.out N.sz N.rd).mono ?_; rintro e V1 ⟨rfl, b⟩; have Q1 := Lib.hid b; rw [HW.out]; clear b)
    | (go_at_call 22; refine (rwindow_at V1 (HA.out.below Q1.out) N.sz N.rd).mono ?_; rintro e V2 ⟨rfl, b⟩; have Q2 := Lib.hid (Q1.out.trans (b.mono Q1.out.size)); rw [HW.out]; clear b)
    | fail)
  have Q3 := Lib.hid (Q2.out.drew)
  have A3 := Lib.hid (HA.out.below Q3.out)
  have X3 := Lib.hid (HX.out.below Q3.out)
  have c3 := blk_cell A3.out.blk 3
  have c4 := blk_cell A3.out.blk 4
  have WT : IntKind.i64.wrap ((s.turn : Int) + 1) = ((s.turn + 1 : Nat) : Int) := by have := N.tn; rw [IntWalk.i64_in _ ⟨by omega, by omega⟩]; omega
  clear c1 Q1
  go_region_held3 (fun W => W.cell? ⟨g, 3, none⟩ = some (.slice pa ps.length pc) ∧ W.cell? ⟨g, 4, none⟩ = some (.int .i64 (s.turn : Nat))) (first | exact ⟨c3, c4⟩ | (with_reducible exact KS.out) | go_keep) (first
    | (go_at_call 34; refine (rmerged_yes _ A3.out N 0 m xa xc d X3.out HD.out hk HAD.out.1 HAD.out.2.1 HAD.out.2.2.1 HAD.out.2.2.2 p t HM.out).mono ?_; rintro e V4 ⟨ga, gc, P, T, rfl, hP, hT, hO, hB, hG, b4⟩; have KS : Hid (V4.cell? ⟨g, 3, none⟩ = some (.slice pa ps.length pc) ∧ V4.cell? ⟨g, 4, none⟩ = some (.int .i64 (s.turn : Nat))) := Lib.hid ⟨(b4.cell (p := ⟨g, 3, none⟩) (blk_lt A3.out.blk)).trans c3, (b4.cell (p := ⟨g, 4, none⟩) (blk_lt A3.out.blk)).trans c4⟩; have HPT := Lib.hid (And.intro hP hT); have O4 := Lib.hid hO; have B4 := Lib.hid (And.intro hB hG); have Q4 := Lib.hid (Q3.out.trans (b4.mono Q3.out.size)); have A4 := Lib.hid (A3.out.below b4); have HS4 := Lib.hid b4.size; clear hP hT hO hB hG; clear b4))
  obtain ⟨po, pl2, pt⟩ := P
  obtain ⟨pbb, pbs, pbc⟩ := pl2
  obtain rfl : (po, pbs, pt) = p := HPT.out.1
  have hTl : T.length = t.length := by rw [← HPT.out.2, List.length_map]
  rw [← hTl] at HF htl
  obtain ⟨nl, hnl⟩ : ∃ z, T.length + 1 = z := ⟨_, rfl⟩
  rw [hnl]
  obtain ⟨tl, htl2⟩ : ∃ z, T.length = z := ⟨_, rfl⟩
  rw [htl2] at hnl htl HF
  have HTL := Lib.hid (And.intro hTl htl2)
  have n01 : 0 < nl := by omega
  have n02 : (0 : Int) < (nl : Int) := by omega
  obtain ⟨gs, hgs, hgc⟩ := O4.out.cells3
  have m0 := blk_cell hgs 0
  rw [show gs[0]? = some (.int .i64 (po : Nat)) from hgc 0 _ rfl 0 _ rfl] at m0
  have GS := Lib.hid hgs
  have GC := Lib.hid hgc
  have WN : IntKind.i64.wrap ((nl : Int) - 1) = (tl : Int) := by rw [IntWalk.i64_in _ ⟨by omega, by omega⟩]; omega
  clear hTl htl2 hgs hgc KS c3 c4
  have hp1 : 0 < po := hp
  have b0 : ((po : Int) == 0) = false := by rw [beq_eq_false_iff_ne]; omega
  have b1 : ¬ ((1024 : Int) < (nl : Int)) := by omega
  have b2 : (0 : Int) < (po : Int) := by omega
  clear HF hp
  have gA := blk_lt A3.out.blk
  have hgaV : V2.drew.heap.size ≤ ga := (O4.out.ownB ga rfl).1
  have hne : ga ≠ g := by omega
  have c4 := blk_cell A4.out.blk 4
  have f4 := blk_free A4.out.blk 4
  go_upto_region 22 with fail
  have g5 := gr_set V4 g 4 (.int .i64 ((s.turn : Int) + 1))
  have S5 := Lib.hid (blk_set A4.out.blk 4 (.int .i64 ((s.turn : Int) + 1)))
  have GS5 := Lib.hid ((g5.block ga (blk_lt GS.out) (fun e => hne (Option.some.inj e))).trans GS.out)
  have T5 := Lib.hid (Turns.of_grown (S := fun z => z = g) (fun z e => by cases e; rfl) g5)
  clear c4 f4 m0 g5
  generalize V4.setCell ⟨g, 4, none⟩ (.int .i64 ((s.turn : Int) + 1)) = V5 at S5 GS5 T5 ⊢
  have c3 := blk_cell S5.out 3
  have f3 := blk_free S5.out 3
  go_upto_region 23 with fail
  have g6 := gr_set V5 g 3 (.slice (some ⟨ga, 0, none⟩) nl gc)
  have S6 := Lib.hid (blk_set S5.out 3 (.slice (some ⟨ga, 0, none⟩) nl gc))
  have GS6 := Lib.hid ((g6.block ga (blk_lt GS5.out) (fun e => hne (Option.some.inj e))).trans GS5.out)
  have T6 := Lib.hid (T5.out.trans (Turns.of_grown (S := fun z => z = g) (fun z e => by cases e; rfl) g6))
  clear c3 f3 g6
  generalize V5.setCell ⟨g, 3, none⟩ (.slice (some ⟨ga, 0, none⟩) nl gc) = V6 at S6 GS6 T6 ⊢
  have m0 := blk_cell GS6.out 0
  rw [show gs[0]? = some (.int .i64 (po : Nat)) from GC.out 0 _ rfl 0 _ rfl] at m0
  clear S5 GS5 T5
  go_wp2
  go_ret2
  have hsz := Q3.out.size
  have hTg : ∀ k, R k → ¬ k = ga := fun k hk => by have := HRL.out k hk; omega
  have hO6 := O4.out.turned T6.out (fun z e => by cases e; exact hne)
  refine ⟨rfl, ⟨some ⟨ga, 0, none⟩, gc, (po, (pbb, pbs, pbc), pt) :: T, ⟨?_, A4.out.rdy.turned T6.out (fun z o e => A4.out.gr z o e), hO6.mono (Nat.le_trans HCC.out hsz), fun x hx => (B4.out.1 x hx).turned T6.out (fun z o e => ?_), ?_, A4.out.gr, (fun e => by cases e; exact hne rfl), (fun z o e => (by have := HRL.out z (A4.out.ir z o e); intro e2; cases e2; omega)), fun x hx z o fr e => ?_, .inl A4.out.ig, fun z o e => .inl (A4.out.ir z o e), (fun z e => by cases e; exact .inr (by omega)), fun x hx z o fr e => ?_⟩⟩, ?_⟩
  · have e1 : nl = ((po, (pbb, pbs, pbc), pt) :: T).length := by rw [List.length_cons]; have := HTL.out; omega
    rw [← e1]; exact S6.out
  · rcases B4.out.2 x hx z o none e with ⟨y, hy, e2⟩ | ⟨h1, h2⟩
    · exact (A4.out.go y hy z o none e2).1
    · omega
  · show dpt _ :: T.map dpt = _
    rw [HPT.out.2]; rfl
  · rcases B4.out.2 x hx z o fr e with ⟨y, hy, e2⟩ | ⟨h1, h2⟩
    · have h3 := A4.out.go y hy z o fr e2
      have h4 := HRL.out z (A4.out.io y hy z o fr e2)
      exact ⟨h3.1, (fun e => by cases e; omega), h3.2.2⟩
    · exact ⟨by omega, (fun e => by cases e; exact h2 rfl), fun o' e3 => by have := HRL.out z (A4.out.ir z o' e3); omega⟩
  · rcases B4.out.2 x hx z o fr e with ⟨y, hy, e2⟩ | ⟨h1, h2⟩
    · exact .inl (A4.out.io y hy z o fr e2)
    · exact .inr (by omega)
  · exact ((Turns.of_below _ Q4.out).trans T6.out).mono (fun z e => e ▸ A4.out.ig)
end Go.Proofs.Ytknebjfdggimcaa
