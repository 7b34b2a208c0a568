/- Recvbuf: Insert. -/
import Derived.Test.YtknebjfdggimcaaRvI
namespace Go.Proofs.Ytknebjfdggimcaa
open Go.RowKit Go.Proofs.Ytknebjfdggimcaa.Rv

/-- What an Insert turns. -/
def IS (g G : Nat) (pa : Option Addr) (k : Nat) : Prop := k = g ∨ k = G ∨ pa = some ⟨k, 0, none⟩
set_option maxRecDepth 100000 in
set_option maxHeartbeats 2000000 in
theorem ins_none (B g G pc : Nat) (pa : Option Addr) (s : St) (q : Nat) (a : Option Addr) (dc : Nat) (ds : List Nat) (w : World) (K : Ok s) (R : RvAt B g G pa pc s w) (X : Bts w a ds) (hdc : ds.length ≤ dc) (hdn : a = none → dc = 0) (hq : q < 4294967296) (hB : B ≤ w.heap.size) (hG : G < w.heap.size) (hX : ∀ b o, a = some ⟨b, o, none⟩ → ds ≠ [] → b ≠ g ∧ b ≠ G) (hl5 : ds.length ≤ 65535) (hg : gapsF (clipL s q) (pM s.parts (clipL s q) (clipL s q + (clipD s q ds).length)) (clipL s q + (clipD s q ds).length) = []) :
    Calls Try.prog 11 #[.pointer (some ⟨g, 0, none⟩), .int .u32 (q : Nat), .slice a ds.length dc] w fun e w' => e = .returned (.tuple #[.int .i64 0, .int .i64 0]) ∧ ∃ pa' pc', RvAt B g G pa' pc' s w' ∧ Turns (IS g G pa) w w' ∧ (∀ k, pa' = some ⟨k, 0, none⟩ → pa = some ⟨k, 0, none⟩ ∨ w.heap.size ≤ k) := by
  have hu := And.intro hB (And.intro hG hX)
  clear hu
  have RB : ∀ W, Below w.heap.size w W → RvAt B g G pa pc s W := fun W b => ⟨(b.block _ (blk_lt R.blk)).trans R.blk, R.ring.below b, R.own.below b, R.gG, R.pg, R.pG, R.Bg⟩
  have hsz := K.sz1
  have hwb := clip_le s q ds
  have hrdn := K.rd
  have hwin : win s = s.sz - s.ready := rfl
  have hlen := hl5
  have CLIP := clip_ok B g G pc pa s q a dc ds w K R X hdc hdn hq
  generalize hl : clipL s q = l at CLIP hwb hg 
  generalize hD : clipD s q ds = D at CLIP hwb hg
  obtain ⟨r, hr⟩ : ∃ r, l + D.length = r := ⟨_, rfl⟩
  rw [hr] at hwb hg
  have HR := Lib.hid R
  have HCL := Lib.hid CLIP
  have HDR := Lib.hid hr
  have gz := blk_lt R.blk
  have hpl : s.parts.length ≤ 1024 := K.pl
  have hFE := pM_len s.parts l r
  have HSUB := Lib.hid (pM_sub s.parts l r)
  obtain ⟨FF, hFF⟩ : ∃ z, (pA s.parts l).length = z := ⟨_, rfl⟩
  obtain ⟨E, hE⟩ : ∃ z, FF + (pM s.parts l r).length = z := ⟨_, rfl⟩
  rw [hFF] at hFE HSUB
  rw [hE] at hFE
  have HFF := Lib.hid hFF
  have HE := Lib.hid hE
  obtain ⟨gs, hgs⟩ : ∃ z, gapsF l (pM s.parts l r) r = z := ⟨_, rfl⟩
  have HGS := Lib.hid hgs
  rw [hgs] at hg
  clear R CLIP hFF hE hgs hl hD
  have d5 : ¬ ((65535 : Int) < (ds.length : Int)) := by omega
  have hr0 := HR.out.blk
  unfold bcs at hr0
  have c4w := Lib.hid hr0
  clear hr0 hlen
  go_enter Try.func11, Try.ntmps11
  go_upto_region 6 with (first
    | (go_at_call 28; refine (made_yes g G s.sz s.start s.ready s.next pa s.parts.length pc s.count _ c4w.out).mono ?_; rintro e w' ⟨rfl, rfl⟩)
    | (go_at_call 29; refine HCL.out.mono ?_; rintro e V1 ⟨a1, c1, rfl, sl1, b1⟩; have SL := Lib.hid sl1; have Q1 := Lib.hid b1; clear sl1 b1)
    | fail)
  have Wl : IntKind.i64.wrap ((l : Int) + (D.length : Int)) = (r : Int) := by have := HDR.out; rw [IntWalk.i64_in _ ⟨by omega, by omega⟩]; omega
  go_upto_region 7 with fail
  have S2 := Lib.hid (blk_new V1 (.cells #[.int .i64 (l : Nat), .int .i64 (r : Nat)] 75))
  have b2 := (Below.refl V1.heap.size V1).alloc (Nat.le_refl _) (.cells #[.int .i64 (l : Nat), .int .i64 (r : Nat)] 75)
  have SL2 := Lib.hid (SL.out.below b2)
  have Q2 := Lib.hid (Q1.out.trans (b2.mono Q1.out.size))
  have hz1 := Q1.out.size
  obtain ⟨bx, hbx⟩ : ∃ z, V1.heap.size = z := ⟨_, rfl⟩
  generalize V1.alloc (.cells #[.int .i64 (l : Nat), .int .i64 (r : Nat)] 75) = V2 at S2 SL2 Q2 ⊢
  rw [hbx] at S2 hz1 ⊢
  clear b2 SL hbx Q1
  have B2 := Lib.hid ((Q2.out.block _ gz).trans c4w.out)
  have O2 := Lib.hid (HR.out.own.below Q2.out)
  have TC := Lib.hid (touched_ok g G s.sz s.start s.ready s.next pa s.parts.length pc s.count s.parts l r V2 B2.out (O2.out.sts encP) rfl (by omega))
  have tc2 := TC.out
  rw [HFF.out, HE.out] at tc2
  have TC2 := Lib.hid tc2
  have x0 := blk_cell S2.out 0
  have x1 := blk_cell S2.out 1
  clear tc2 TC
  go_upto_region 8 with (first
    | (go_at_call 30; refine TC2.out.mono ?_; rintro e V3 ⟨rfl, b3⟩; have Q3 := Lib.hid b3; clear b3)
    | fail)
  have bD : Below V2.heap.size V2 V3.drew := Q3.out.drew
  have S3 := Lib.hid ((bD.block _ (blk_lt S2.out)).trans S2.out)
  have B3 := Lib.hid ((bD.block _ (blk_lt B2.out)).trans B2.out)
  have SL3 := Lib.hid (SL2.out.below bD)
  have O3 := Lib.hid (O2.out.below bD)
  have Q3' := Lib.hid (Q2.out.trans (bD.mono Q2.out.size))
  clear x0 x1 S2 B2 SL2 O2 Q2 Q3 TC2 bD
  have c4 := blk_cell B3.out 4
  have x0 := blk_cell S3.out 0
  have x1 := blk_cell S3.out 1
  have hcap := O3.out.capLe
  obtain ⟨a2, ha2⟩ : ∃ z, (if pc = FF then pa else Option.map (fun x : Addr => x.add (FF * 3)) pa) = z := ⟨_, rfl⟩
  have hsub := sts_sub (O3.out.sts encP) FF (pM s.parts l r).length pc hcap.1
  rw [ha2, ← HSUB.out] at hsub
  have hml : (pM s.parts l r).length = E - FF := by have := HE.out; omega
  have gp := gapsOf_ok l r a2 (pM s.parts l r) (pc - FF) V3.drew hsub (by omega)
  rw [hml, HGS.out] at gp
  have GP := Lib.hid gp
  have e1 : (FF : Int) ≤ (E : Int) := by have := HE.out; omega
  have e2 : (E : Int) ≤ (pc : Int) := by omega
  clear hsub gp hml
  go_region_held3 (fun W => W.cell? ⟨g, 4, none⟩ = some (.slice pa s.parts.length pc) ∧ W.cell? ⟨bx, 0, none⟩ = some (.int .i64 (l : Nat)) ∧ W.cell? ⟨bx, 1, none⟩ = some (.int .i64 (r : Nat))) (first | exact ⟨c4, x0, x1⟩ | (with_reducible exact KS.out) | go_keep) (first
    | (go_at_call 31; refine GP.out.mono ?_; rintro e V4 ⟨ga, gc, rfl, og, b4⟩; have OG := Lib.hid og; have Q4 := Lib.hid b4; have KS : Hid (V4.cell? ⟨g, 4, none⟩ = some (.slice pa s.parts.length pc) ∧ V4.cell? ⟨bx, 0, none⟩ = some (.int .i64 (l : Nat)) ∧ V4.cell? ⟨bx, 1, none⟩ = some (.int .i64 (r : Nat))) := Lib.hid ⟨(b4.cell (p := ⟨g, 4, none⟩) (blk_lt B3.out)).trans c4, (b4.cell (p := ⟨bx, 0, none⟩) (blk_lt S3.out)).trans x0, (b4.cell (p := ⟨bx, 1, none⟩) (blk_lt S3.out)).trans x1⟩; clear og b4))
  have S4 := Lib.hid ((Q4.out.block _ (blk_lt S3.out)).trans S3.out)
  have B4 := Lib.hid ((Q4.out.block _ (blk_lt B3.out)).trans B3.out)
  have SL4 := Lib.hid (SL3.out.below Q4.out)
  have Q4' := Lib.hid (Q3'.out.trans (Q4.out.mono Q3'.out.size))
  have hV3 := Q3'.out.size
  clear c4 x0 x1 S3 B3 SL3 O3 GP KS
  subst hg
  go_wp2
  go_ret2
  exact ⟨rfl, pa, pc, RB _ Q4'.out, Turns.of_below _ Q4'.out, fun k e => .inl e⟩
set_option maxRecDepth 100000 in
set_option maxHeartbeats 2000000 in
theorem ins_full (B g G pc : Nat) (pa : Option Addr) (s : St) (q : Nat) (a : Option Addr) (dc : Nat) (ds : List Nat) (w : World) (K : Ok s) (R : RvAt B g G pa pc s w) (X : Bts w a ds) (hdc : ds.length ≤ dc) (hdn : a = none → dc = 0) (hq : q < 4294967296) (hB : B ≤ w.heap.size) (hG : G < w.heap.size) (hX : ∀ b o, a = some ⟨b, o, none⟩ → ds ≠ [] → b ≠ g ∧ b ≠ G) (hl5 : ds.length ≤ 65535) (hg : ¬ gapsF (clipL s q) (pM s.parts (clipL s q) (clipL s q + (clipD s q ds).length)) (clipL s q + (clipD s q ds).length) = []) (h8 : 0 < clipL s q ∧ pM s.parts (clipL s q) (clipL s q + (clipD s q ds).length) = [] ∧ 1024 ≤ s.parts.length) :
    Calls Try.prog 11 #[.pointer (some ⟨g, 0, none⟩), .int .u32 (q : Nat), .slice a ds.length dc] w fun e w' => e = .returned (.tuple #[.int .i64 0, .int .i64 81]) ∧ ∃ pa' pc', RvAt B g G pa' pc' s w' ∧ Turns (IS g G pa) w w' ∧ (∀ k, pa' = some ⟨k, 0, none⟩ → pa = some ⟨k, 0, none⟩ ∨ w.heap.size ≤ k) := by
  have hu := And.intro hB (And.intro hG hX)
  clear hu
  have RB : ∀ W, Below w.heap.size w W → RvAt B g G pa pc s W := fun W b => ⟨(b.block _ (blk_lt R.blk)).trans R.blk, R.ring.below b, R.own.below b, R.gG, R.pg, R.pG, R.Bg⟩
  have hsz := K.sz1
  have hwb := clip_le s q ds
  have hrdn := K.rd
  have hwin : win s = s.sz - s.ready := rfl
  have hlen := hl5
  have CLIP := clip_ok B g G pc pa s q a dc ds w K R X hdc hdn hq
  generalize hl : clipL s q = l at CLIP hwb hg h8
  generalize hD : clipD s q ds = D at CLIP hwb hg h8
  obtain ⟨r, hr⟩ : ∃ r, l + D.length = r := ⟨_, rfl⟩
  rw [hr] at hwb hg h8
  have HR := Lib.hid R
  have HCL := Lib.hid CLIP
  have HDR := Lib.hid hr
  have gz := blk_lt R.blk
  have hpl : s.parts.length ≤ 1024 := K.pl
  have hFE := pM_len s.parts l r
  have HSUB := Lib.hid (pM_sub s.parts l r)
  obtain ⟨FF, hFF⟩ : ∃ z, (pA s.parts l).length = z := ⟨_, rfl⟩
  obtain ⟨E, hE⟩ : ∃ z, FF + (pM s.parts l r).length = z := ⟨_, rfl⟩
  rw [hFF] at hFE HSUB
  rw [hE] at hFE
  have HFF := Lib.hid hFF
  have HE := Lib.hid hE
  obtain ⟨gs, hgs⟩ : ∃ z, gapsF l (pM s.parts l r) r = z := ⟨_, rfl⟩
  have HGS := Lib.hid hgs
  rw [hgs] at hg
  clear R CLIP hFF hE hgs hl hD
  have d5 : ¬ ((65535 : Int) < (ds.length : Int)) := by omega
  have hr0 := HR.out.blk
  unfold bcs at hr0
  have c4w := Lib.hid hr0
  clear hr0 hlen
  go_enter Try.func11, Try.ntmps11
  go_upto_region 6 with (first
    | (go_at_call 28; refine (made_yes g G s.sz s.start s.ready s.next pa s.parts.length pc s.count _ c4w.out).mono ?_; rintro e w' ⟨rfl, rfl⟩)
    | (go_at_call 29; refine HCL.out.mono ?_; rintro e V1 ⟨a1, c1, rfl, sl1, b1⟩; have SL := Lib.hid sl1; have Q1 := Lib.hid b1; clear sl1 b1)
    | fail)
  have Wl : IntKind.i64.wrap ((l : Int) + (D.length : Int)) = (r : Int) := by have := HDR.out; rw [IntWalk.i64_in _ ⟨by omega, by omega⟩]; omega
  go_upto_region 7 with fail
  have S2 := Lib.hid (blk_new V1 (.cells #[.int .i64 (l : Nat), .int .i64 (r : Nat)] 75))
  have b2 := (Below.refl V1.heap.size V1).alloc (Nat.le_refl _) (.cells #[.int .i64 (l : Nat), .int .i64 (r : Nat)] 75)
  have SL2 := Lib.hid (SL.out.below b2)
  have Q2 := Lib.hid (Q1.out.trans (b2.mono Q1.out.size))
  have hz1 := Q1.out.size
  obtain ⟨bx, hbx⟩ : ∃ z, V1.heap.size = z := ⟨_, rfl⟩
  generalize V1.alloc (.cells #[.int .i64 (l : Nat), .int .i64 (r : Nat)] 75) = V2 at S2 SL2 Q2 ⊢
  rw [hbx] at S2 hz1 ⊢
  clear b2 SL hbx Q1
  have B2 := Lib.hid ((Q2.out.block _ gz).trans c4w.out)
  have O2 := Lib.hid (HR.out.own.below Q2.out)
  have TC := Lib.hid (touched_ok g G s.sz s.start s.ready s.next pa s.parts.length pc s.count s.parts l r V2 B2.out (O2.out.sts encP) rfl (by omega))
  have tc2 := TC.out
  rw [HFF.out, HE.out] at tc2
  have TC2 := Lib.hid tc2
  have x0 := blk_cell S2.out 0
  have x1 := blk_cell S2.out 1
  clear tc2 TC
  go_upto_region 8 with (first
    | (go_at_call 30; refine TC2.out.mono ?_; rintro e V3 ⟨rfl, b3⟩; have Q3 := Lib.hid b3; clear b3)
    | fail)
  have bD : Below V2.heap.size V2 V3.drew := Q3.out.drew
  have S3 := Lib.hid ((bD.block _ (blk_lt S2.out)).trans S2.out)
  have B3 := Lib.hid ((bD.block _ (blk_lt B2.out)).trans B2.out)
  have SL3 := Lib.hid (SL2.out.below bD)
  have O3 := Lib.hid (O2.out.below bD)
  have Q3' := Lib.hid (Q2.out.trans (bD.mono Q2.out.size))
  clear x0 x1 S2 B2 SL2 O2 Q2 Q3 TC2 bD
  have c4 := blk_cell B3.out 4
  have x0 := blk_cell S3.out 0
  have x1 := blk_cell S3.out 1
  have hcap := O3.out.capLe
  obtain ⟨a2, ha2⟩ : ∃ z, (if pc = FF then pa else Option.map (fun x : Addr => x.add (FF * 3)) pa) = z := ⟨_, rfl⟩
  have hsub := sts_sub (O3.out.sts encP) FF (pM s.parts l r).length pc hcap.1
  rw [ha2, ← HSUB.out] at hsub
  have hml : (pM s.parts l r).length = E - FF := by have := HE.out; omega
  have gp := gapsOf_ok l r a2 (pM s.parts l r) (pc - FF) V3.drew hsub (by omega)
  rw [hml, HGS.out] at gp
  have GP := Lib.hid gp
  have e1 : (FF : Int) ≤ (E : Int) := by have := HE.out; omega
  have e2 : (E : Int) ≤ (pc : Int) := by omega
  clear hsub gp hml
  go_region_held3 (fun W => W.cell? ⟨g, 4, none⟩ = some (.slice pa s.parts.length pc) ∧ W.cell? ⟨bx, 0, none⟩ = some (.int .i64 (l : Nat)) ∧ W.cell? ⟨bx, 1, none⟩ = some (.int .i64 (r : Nat))) (first | exact ⟨c4, x0, x1⟩ | (with_reducible exact KS.out) | go_keep) (first
    | (go_at_call 31; refine GP.out.mono ?_; rintro e V4 ⟨ga, gc, rfl, og, b4⟩; have OG := Lib.hid og; have Q4 := Lib.hid b4; have KS : Hid (V4.cell? ⟨g, 4, none⟩ = some (.slice pa s.parts.length pc) ∧ V4.cell? ⟨bx, 0, none⟩ = some (.int .i64 (l : Nat)) ∧ V4.cell? ⟨bx, 1, none⟩ = some (.int .i64 (r : Nat))) := Lib.hid ⟨(b4.cell (p := ⟨g, 4, none⟩) (blk_lt B3.out)).trans c4, (b4.cell (p := ⟨bx, 0, none⟩) (blk_lt S3.out)).trans x0, (b4.cell (p := ⟨bx, 1, none⟩) (blk_lt S3.out)).trans x1⟩; clear og b4))
  have S4 := Lib.hid ((Q4.out.block _ (blk_lt S3.out)).trans S3.out)
  have B4 := Lib.hid ((Q4.out.block _ (blk_lt B3.out)).trans B3.out)
  have SL4 := Lib.hid (SL3.out.below Q4.out)
  have Q4' := Lib.hid (Q3'.out.trans (Q4.out.mono Q3'.out.size))
  have hV3 := Q3'.out.size
  clear c4 x0 x1 S3 B3 SL3 O3 GP KS
  obtain ⟨k8, k9, k10⟩ := h8
  have kE : FF = E := by have := HE.out; rw [k9] at this; simpa using this
  have hgl : ¬ ((gs.length : Int) = 0) := by
    intro h; exact hg (List.eq_nil_of_length_eq_zero (by omega))
  have hgl2 : ((gs.length : Int) == 0) = false := by rw [beq_eq_false_iff_ne]; exact hgl
  have hgl3 : ¬ gs = [] := hg
  have m1 : (0 : Int) < (l : Int) := by omega
  have m3 : (1024 : Int) ≤ (s.parts.length : Int) := by omega
  have c4 := blk_cell B4.out 4
  subst kE
  go_wp2
  go_ret2
  exact ⟨rfl, pa, pc, RB _ Q4'.out, Turns.of_below _ Q4'.out, fun k e => .inl e⟩
end Go.Proofs.Ytknebjfdggimcaa
