/- Recvbuf: Insert, where it keeps octets. -/
import Derived.Test.YtknebjfdggimcaaRvJ
namespace Go.Proofs.Ytknebjfdggimcaa
open Go.RowKit Go.Proofs.Ytknebjfdggimcaa.Rv

theorem gs_ne {gs : List (Nat × Nat)} {l r : Nat} {D : List Nat} (h : 0 < gs.length) (hr : l + D.length = r) (hg : ∀ x ∈ gs, l ≤ x.1 ∧ x.1 < x.2 ∧ x.2 ≤ r) : D ≠ [] := by
  intro e
  have h1 := hg gs[0] (List.getElem_mem h)
  rw [e, List.length_nil] at hr
  omega
theorem clipD_ne (s : St) (q : Nat) {ds : List Nat} (h : clipD s q ds ≠ []) : ds ≠ [] := by
  intro e
  apply h
  unfold clipD
  split <;> simp [e]
set_option maxRecDepth 100000 in
set_option maxHeartbeats 2000000 in
theorem ins_main (B g G pc : Nat) (pa : Option Addr) (s : St) (q : Nat) (a : Option Addr) (dc : Nat) (ds : List Nat) (w : World) (K : Ok s) (R : RvAt B g G pa pc s w) (X : Bts w a ds) (hdc : ds.length ≤ dc) (hdn : a = none → dc = 0) (hq : q < 4294967296) (hB : B ≤ w.heap.size) (hG : G < w.heap.size) (hX : ∀ b o, a = some ⟨b, o, none⟩ → ds ≠ [] → b ≠ g ∧ b ≠ G) (hl5 : ds.length ≤ 65535) (hg : ¬ gapsF (clipL s q) (pM s.parts (clipL s q) (clipL s q + (clipD s q ds).length)) (clipL s q + (clipD s q ds).length) = []) (h8 : ¬ (0 < clipL s q ∧ pM s.parts (clipL s q) (clipL s q + (clipD s q ds).length) = [] ∧ 1024 ≤ s.parts.length)) :
    Calls Try.prog 11 #[.pointer (some ⟨g, 0, none⟩), .int .u32 (q : Nat), .slice a ds.length dc] w fun e w' => e = .returned (.tuple #[.int .i64 (((joinF { s with ring := layAll s.sz s.start s.ready (clipL s q) (clipD s q ds) (gapsF (clipL s q) (pM s.parts (clipL s q) (clipL s q + (clipD s q ds).length)) (clipL s q + (clipD s q ds).length)) s.ring } (clipL s q) (clipL s q + (clipD s q ds).length)).2 : Nat) : Int), .int .i64 0]) ∧ ∃ pa' pc', RvAt B g G pa' pc' (joinF { s with ring := layAll s.sz s.start s.ready (clipL s q) (clipD s q ds) (gapsF (clipL s q) (pM s.parts (clipL s q) (clipL s q + (clipD s q ds).length)) (clipL s q + (clipD s q ds).length)) s.ring } (clipL s q) (clipL s q + (clipD s q ds).length)).1 w' ∧ Turns (IS g G pa) w w' ∧ (∀ k, pa' = some ⟨k, 0, none⟩ → pa = some ⟨k, 0, none⟩ ∨ w.heap.size ≤ k) := by
  have RB : ∀ W, Below w.heap.size w W → RvAt B g G pa pc s W := fun W b => ⟨(b.block _ (blk_lt R.blk)).trans R.blk, R.ring.below b, R.own.below b, R.gG, R.pg, R.pG, R.Bg⟩
  have hwf := K.wf
  have hcut0 := cut_of K.wf (clipL s q) (clipL s q + (clipD s q ds).length)
  have hgin := gaps_in (ps := pM s.parts (clipL s q) (clipL s q + (clipD s q ds).length)) (a := clipL s q) (r := clipL s q + (clipD s q ds).length) (fun p hp => (hcut0.m p hp).2)
  clear hcut0 hwf
  have hsz := K.sz1
  have hwb := clip_le s q ds
  have hrdn := K.rd
  have hwin : win s = s.sz - s.ready := rfl
  have hlen := hl5
  have CLIP := clip_ok B g G pc pa s q a dc ds w K R X hdc hdn hq
  generalize hl : clipL s q = l at CLIP hwb hg h8 hgin ⊢
  generalize hD : clipD s q ds = D at CLIP hwb hg h8 hgin ⊢
  obtain ⟨r, hr⟩ : ∃ r, l + D.length = r := ⟨_, rfl⟩
  rw [hr] at hwb hg h8 hgin ⊢
  have HR := Lib.hid R
  have HCL := Lib.hid CLIP
  have HDR := Lib.hid hr
  have gz := blk_lt R.blk
  have hpl : s.parts.length ≤ 1024 := K.pl
  have hFE := pM_len s.parts l r
  have HSUB := Lib.hid (pM_sub s.parts l r)
  obtain ⟨FF, hFF⟩ : ∃ z, (pA s.parts l).length = z := ⟨_, rfl⟩
  obtain ⟨E, hE⟩ : ∃ z, FF + (pM s.parts l r).length = z := ⟨_, rfl⟩
  rw [hFF] at hFE HSUB
  rw [hE] at hFE
  have HFF := Lib.hid hFF
  have HE := Lib.hid hE
  obtain ⟨gs, hgs⟩ : ∃ z, gapsF l (pM s.parts l r) r = z := ⟨_, rfl⟩
  have HGS := Lib.hid hgs
  have HDD := Lib.hid hD
  rw [hgs] at hg hgin ⊢
  obtain ⟨J, hJ⟩ : ∃ J, (joinF { s with ring := layAll s.sz s.start s.ready l D gs s.ring } l r) = J := ⟨_, rfl⟩
  rw [hJ]
  have HJE := Lib.hid hJ
  clear hJ
  clear R CLIP hFF hE hgs hl hD
  have d5 : ¬ ((65535 : Int) < (ds.length : Int)) := by omega
  have hr0 := HR.out.blk
  unfold bcs at hr0
  have c4w := Lib.hid hr0
  clear hr0 hlen
  go_enter Try.func11, Try.ntmps11
  go_upto_region 6 with (first
    | (go_at_call 28; refine (made_yes g G s.sz s.start s.ready s.next pa s.parts.length pc s.count _ c4w.out).mono ?_; rintro e w' ⟨rfl, rfl⟩)
    | (go_at_call 29; refine HCL.out.mono ?_; rintro e V1 ⟨a1, c1, rfl, sl1, b1⟩; have SL := Lib.hid sl1; have Q1 := Lib.hid b1; clear sl1 b1)
    | fail)
  have Wl : IntKind.i64.wrap ((l : Int) + (D.length : Int)) = (r : Int) := by have := HDR.out; rw [IntWalk.i64_in _ ⟨by omega, by omega⟩]; omega
  go_upto_region 7 with fail
  have S2 := Lib.hid (blk_new V1 (.cells #[.int .i64 (l : Nat), .int .i64 (r : Nat)] 75))
  have b2 := (Below.refl V1.heap.size V1).alloc (Nat.le_refl _) (.cells #[.int .i64 (l : Nat), .int .i64 (r : Nat)] 75)
  have SL2 := Lib.hid (SL.out.below b2)
  have Q2 := Lib.hid (Q1.out.trans (b2.mono Q1.out.size))
  have hz1 := Q1.out.size
  obtain ⟨bx, hbx⟩ : ∃ z, V1.heap.size = z := ⟨_, rfl⟩
  generalize V1.alloc (.cells #[.int .i64 (l : Nat), .int .i64 (r : Nat)] 75) = V2 at S2 SL2 Q2 ⊢
  rw [hbx] at S2 hz1 ⊢
  clear b2 SL hbx Q1
  have B2 := Lib.hid ((Q2.out.block _ gz).trans c4w.out)
  have O2 := Lib.hid (HR.out.own.below Q2.out)
  have TC := Lib.hid (touched_ok g G s.sz s.start s.ready s.next pa s.parts.length pc s.count s.parts l r V2 B2.out (O2.out.sts encP) rfl (by omega))
  have tc2 := TC.out
  rw [HFF.out, HE.out] at tc2
  have TC2 := Lib.hid tc2
  have x0 := blk_cell S2.out 0
  have x1 := blk_cell S2.out 1
  clear tc2 TC
  go_upto_region 8 with (first
    | (go_at_call 30; refine TC2.out.mono ?_; rintro e V3 ⟨rfl, b3⟩; have Q3 := Lib.hid b3; clear b3)
    | fail)
  have bD : Below V2.heap.size V2 V3.drew := Q3.out.drew
  have S3 := Lib.hid ((bD.block _ (blk_lt S2.out)).trans S2.out)
  have B3 := Lib.hid ((bD.block _ (blk_lt B2.out)).trans B2.out)
  have SL3 := Lib.hid (SL2.out.below bD)
  have O3 := Lib.hid (O2.out.below bD)
  have Q3' := Lib.hid (Q2.out.trans (bD.mono Q2.out.size))
  clear x0 x1 S2 B2 SL2 O2 Q2 Q3 TC2 bD
  have c4 := blk_cell B3.out 4
  have x0 := blk_cell S3.out 0
  have x1 := blk_cell S3.out 1
  have hcap := O3.out.capLe
  obtain ⟨a2, ha2⟩ : ∃ z, (if pc = FF then pa else Option.map (fun x : Addr => x.add (FF * 3)) pa) = z := ⟨_, rfl⟩
  have hsub := sts_sub (O3.out.sts encP) FF (pM s.parts l r).length pc hcap.1
  rw [ha2, ← HSUB.out] at hsub
  have hml : (pM s.parts l r).length = E - FF := by have := HE.out; omega
  have gp := gapsOf_ok l r a2 (pM s.parts l r) (pc - FF) V3.drew hsub (by omega)
  rw [hml, HGS.out] at gp
  have GP := Lib.hid gp
  have e1 : (FF : Int) ≤ (E : Int) := by have := HE.out; omega
  have e2 : (E : Int) ≤ (pc : Int) := by omega
  clear hsub gp hml
  go_region_held3 (fun W => W.cell? ⟨g, 4, none⟩ = some (.slice pa s.parts.length pc) ∧ W.cell? ⟨bx, 0, none⟩ = some (.int .i64 (l : Nat)) ∧ W.cell? ⟨bx, 1, none⟩ = some (.int .i64 (r : Nat))) (first | exact ⟨c4, x0, x1⟩ | (with_reducible exact KS.out) | go_keep) (first
    | (go_at_call 31; refine GP.out.mono ?_; rintro e V4 ⟨ga, gc, rfl, og, b4⟩; have OG := Lib.hid og; have Q4 := Lib.hid b4; have KS : Hid (V4.cell? ⟨g, 4, none⟩ = some (.slice pa s.parts.length pc) ∧ V4.cell? ⟨bx, 0, none⟩ = some (.int .i64 (l : Nat)) ∧ V4.cell? ⟨bx, 1, none⟩ = some (.int .i64 (r : Nat))) := Lib.hid ⟨(b4.cell (p := ⟨g, 4, none⟩) (blk_lt B3.out)).trans c4, (b4.cell (p := ⟨bx, 0, none⟩) (blk_lt S3.out)).trans x0, (b4.cell (p := ⟨bx, 1, none⟩) (blk_lt S3.out)).trans x1⟩; clear og b4))
  have S4 := Lib.hid ((Q4.out.block _ (blk_lt S3.out)).trans S3.out)
  have B4 := Lib.hid ((Q4.out.block _ (blk_lt B3.out)).trans B3.out)
  have SL4 := Lib.hid (SL3.out.below Q4.out)
  have Q4' := Lib.hid (Q3'.out.trans (Q4.out.mono Q3'.out.size))
  have hV3 := Q3'.out.size
  clear c4 x0 x1 S3 B3 SL3 O3 GP KS
  have HGI := Lib.hid hgin
  clear hgin
  have hgl : ¬ ((gs.length : Int) = 0) := by
    intro h; exact hg (List.eq_nil_of_length_eq_zero (by omega))
  have hgl2 : ((gs.length : Int) == 0) = false := by rw [beq_eq_false_iff_ne]; exact hgl
  have hgl3 : ¬ gs = [] := hg
  have h3 : l = 0 ∨ FF ≠ E ∨ s.parts.length < 1024 := by
    by_cases hl0 : l = 0
    · exact .inl hl0
    · by_cases hfe : FF = E
      · right; right
        have hE2 := HE.out
        have hM0 : pM s.parts l r = [] := List.eq_nil_of_length_eq_zero (by omega)
        rcases Nat.lt_or_ge s.parts.length 1024 with h | h
        · exact h
        · exact absurd ⟨by omega, hM0, h⟩ h8
      · exact .inr (.inl hfe)
  clear h8
  have c4 := blk_cell B4.out 4
  go_upto_region 11 with fail
  have HG3 := Lib.hid hgl3
  clear hgl hgl2 hgl3 hg
  go_cut [66] (fun (cv : Value) (wx : World) => cv = .bool false ∧ V4 = wx)
  case first =>
    rcases h3 with h3 | h3 | h3
    · have m1 : ¬ ((0 : Int) < (l : Int)) := by omega
      clear h3
      go_wp2_with fail
      go_meet
      exact ⟨rfl, rfl⟩
    · have m1 : ¬ ((FF : Int) = (E : Int)) := by omega
      have m2 : ((FF : Int) == (E : Int)) = false := by rw [beq_eq_false_iff_ne]; exact m1
      by_cases hl0 : (0 : Int) < (l : Int)
      · go_wp2_with fail
        go_meet
        exact ⟨rfl, rfl⟩
      · go_wp2_with fail
        go_meet
        exact ⟨rfl, rfl⟩
    · have m1 : ¬ ((1024 : Int) ≤ (s.parts.length : Int)) := by omega
      have m4 : decide ((1024 : Int) ≤ (s.parts.length : Int)) = false := decide_eq_false m1
      by_cases hl0 : (0 : Int) < (l : Int)
      · by_cases hfe : FF = E
        · have m5 : ((FF : Int) == (E : Int)) = true := by rw [beq_iff_eq]; omega
          subst hfe
          go_wp2_with fail
          go_meet
          exact ⟨rfl, rfl⟩
        · have m1 : ¬ ((FF : Int) = (E : Int)) := by omega
          have m2 : ((FF : Int) == (E : Int)) = false := by rw [beq_eq_false_iff_ne]; exact m1
          go_wp2_with fail
          go_meet
          exact ⟨rfl, rfl⟩
      · go_wp2_with fail
        go_meet
        exact ⟨rfl, rfl⟩
  case rest =>
  obtain ⟨rfl, rfl⟩ := hcut
  clear c4 h3
  have hg0 : 0 < gs.length := List.length_pos_iff.2 HG3.out
  have hD0 : D ≠ [] := gs_ne hg0 HDR.out HGI.out
  obtain ⟨db, o0, o1, ha, ha1⟩ := SL4.out.2.2.2 hD0
  have hds0 : ds ≠ [] := clipD_ne s q (by rw [HDD.out]; exact hD0)
  have hdbx := hX db o0 ha hds0
  subst ha1
  have hGw : G < V4.heap.size := Nat.lt_of_lt_of_le hG Q4'.out.size
  have hgaG : ∀ k, ga = some ⟨k, 0, none⟩ → k ≠ G := fun k e => by
    have h1 := (OG.out.ownB k (by rw [e]; rfl)).1
    omega
  have hbxG : bx ≠ G := by omega
  have RV := RB _ Q4'.out
  have HRV := Lib.hid RV
  have hrl : ∀ j, (layAll s.sz s.start s.ready l D (gs.take j) s.ring).length = s.sz := fun j => layAll_len K.sz0 K.rl (fun x hx => by have := HGI.out x (List.mem_of_mem_take hx); omega)
  have HRL := Lib.hid hrl
  clear RV hrl hds0 hD0
  go_wp2_with fail
  go_loopw [69] (fun iv wr => ∃ i : Nat, i ≤ gs.length ∧ iv = .int .i64 i ∧ OwnSl B (some ⟨G, 0, none⟩) (layAll s.sz s.start s.ready l D (gs.take i) s.ring) s.sz wr ∧ Turns (fun k => k = G) V4 wr) (fun iv _ => gs.length - (intOf iv).toNat)
  case atStart => exact ⟨0, by omega, rfl, HRV.out.ring, Turns.refl _ _⟩
  case round =>
    obtain ⟨i, hi, rfl, oR, tR⟩ := hrel
    have OR := Lib.hid oR
    have TR := Lib.hid tR
    have BR := Lib.hid (tR.blk HRV.out.blk HRV.out.gG)
    have SR := Lib.hid (tR.blk S4.out hbxG)
    have hszr := tR.size
    clear oR tR
    by_cases hlt : i < gs.length
    case pos =>
      obtain ⟨x, hx⟩ : ∃ x, gs[i]? = some x := ⟨_, List.getElem?_eq_getElem hlt⟩
      have hxb := HGI.out x (List.mem_of_getElem? hx)
      have HST := Lib.hid (layAll_step s.sz s.start s.ready l D gs i x s.ring hx)
      have hrli := HRL.out i
      generalize layAll s.sz s.start s.ready l D (gs.take i) s.ring = ring at OR HST hrli
      obtain ⟨gq, hga, _, _⟩ := OG.out.isSome hg0
      have hgq := hgaG gq hga
      have hst := (OG.out.sts encS)
      rw [hga] at hst
      obtain ⟨_, m0, m1⟩ := s_at (hst.turned TR.out (fun b o e => by cases e; exact hgq)) hx
      simp only [Nat.zero_add] at m0 m1
      have i1 : (i : Int) < (gs.length : Int) := by omega
      obtain ⟨k1, hk1⟩ : ∃ z, x.1 - l = z := ⟨_, rfl⟩
      obtain ⟨k2, hk2⟩ : ∃ z, x.2 - l = z := ⟨_, rfl⟩
      have hDl := HDR.out
      have hc1 := SL4.out.2.1
      have hgcap := OG.out.capLe
      have hml : maxLen = 9223372036854775807 := by rfl
      have Wi : IntKind.i64.wrap ((i : Int) + 1) = ((i + 1 : Nat) : Int) := by rw [IntWalk.i64_in _ ⟨by omega, by omega⟩]; omega
      have W1 : IntKind.i64.wrap ((x.1 : Int) - (l : Int)) = (k1 : Int) := by rw [IntWalk.i64_in _ ⟨by omega, by omega⟩]; omega
      have W2 : IntKind.i64.wrap ((x.2 : Int) - (l : Int)) = (k2 : Int) := by rw [IntWalk.i64_in _ ⟨by omega, by omega⟩]; omega
      have hga2 := Lib.hid hga
      have t1 : (k1 : Int) ≤ (k2 : Int) := by omega
      have t2 : (k2 : Int) ≤ (c1 : Int) := by omega
      have t3 : ¬ (c1 = k1) := by omega
      have t4 : k1 < k2 := by omega
      have t5 : k2 - k1 = x.2 - x.1 := by omega
      have t6 : k2 ≤ D.length := by omega
      have HT5 := Lib.hid t5
      have HK1 := Lib.hid hk1
      have HDL := Lib.hid hDl
      clear hx hDl hk1 hk2 t5 hgcap hml
      subst hga
      go_upto_region 16 with fail
      have XB := Lib.hid (blk_new wr (.cells #[.int .i64 (x.1 : Nat), .int .i64 (x.2 : Nat)] 75))
      have bA := (Below.refl wr.heap.size wr).alloc (Nat.le_refl _) (.cells #[.int .i64 (x.1 : Nat), .int .i64 (x.2 : Nat)] 75)
      have bD : Below wr.heap.size wr (wr.alloc (.cells #[.int .i64 (x.1 : Nat), .int .i64 (x.2 : Nat)] 75)).drew := bA.drew
      have hbl : wr.heap.size < (wr.alloc (.cells #[.int .i64 (x.1 : Nat), .int .i64 (x.2 : Nat)] 75)).heap.size := blk_lt XB.out
      have X5 := Lib.hid (blk_drew XB.out)
      have T5 := Lib.hid (TR.out.andBelow bD)
      have O5 := Lib.hid (OR.out.below bD)
      have B5 := Lib.hid ((bD.block _ (blk_lt BR.out)).trans BR.out)
      have D5 := Lib.hid ((SL4.out.1.turned T5.out (fun b o e => by cases e; exact hdbx.2)).drop k1 |>.take (k2 - k1))
      have x0 := blk_cell XB.out 0
      have x1 := blk_cell XB.out 1
      have LY := Lib.hid (lay_ok B g G s.sz s.start s.ready s.next pa s.parts.length pc s.count x.1 ((s.start + s.ready + x.1) % s.sz) (k2 - k1) ring ((D.drop k1).take (k2 - k1)) db (o1 + k1) (c1 - k1) (wr.alloc (.cells #[.int .i64 (x.1 : Nat), .int .i64 (x.2 : Nat)] 75)).drew B5.out O5.out hrli D5.out hdbx.2 HRV.out.gG K.sz0 hsz K.st (by omega) rfl (by rw [List.length_take, List.length_drop]; omega) (by omega) (by omega))
      clear m0 m1 bA bD XB
      generalize wr.alloc (.cells #[.int .i64 (x.1 : Nat), .int .i64 (x.2 : Nat)] 75) = V5 at X5 T5 O5 B5 D5 x0 x1 LY hbl ⊢
      have y0 := blk_cell X5.out 0
      have y1 := blk_cell X5.out 1
      go_region_held3 (fun W => W.cell? ⟨wr.heap.size, 0, none⟩ = some (.int .i64 (x.1 : Nat)) ∧ W.cell? ⟨wr.heap.size, 1, none⟩ = some (.int .i64 (x.2 : Nat))) (first | exact ⟨y0, y1⟩ | (with_reducible exact KS.out) | go_keep) (first
        | (go_at_call 32; refine LY.out.mono ?_; rintro e V6 ⟨rfl, o6, g6⟩; have O6 := Lib.hid o6; have G6 := Lib.hid g6; have X6 := (g6.block _ (blk_lt X5.out) (fun e => by have := Option.some.inj e; omega)).trans X5.out; have KS : Hid (V6.cell? ⟨wr.heap.size, 0, none⟩ = some (.int .i64 (x.1 : Nat)) ∧ V6.cell? ⟨wr.heap.size, 1, none⟩ = some (.int .i64 (x.2 : Nat))) := Lib.hid ⟨blk_cell X6 0, blk_cell X6 1⟩; clear o6 g6 X6))
      go_wp2_with fail
      go_roundw
      case rel => exact ⟨i + 1, by omega, by go_num, by rw [HST.out, ← HT5.out, HK1.out]; exact O6.out, T5.out.grown rfl G6.out⟩
      case measure => simp [intOf]; omega
    case neg =>
      obtain rfl : i = gs.length := by omega
      have i1 : ¬ ((gs.length : Int) < (gs.length : Int)) := by omega
      rw [List.take_length] at OR
      have hrl := HRL.out gs.length
      rw [List.take_length] at hrl
      have RN : RvAt B g G pa pc { s with ring := layAll s.sz s.start s.ready l D gs s.ring } wr := ⟨BR.out, OR.out, HRV.out.own.turned TR.out (fun k e h => HRV.out.pG (by rw [e, h])), HRV.out.gG, HRV.out.pg, HRV.out.pG, HRV.out.Bg⟩
      have KN : Ok { s with ring := layAll s.sz s.start s.ready l D gs s.ring } := ⟨K.sz0, K.sz1, hrl, K.st, K.rd, K.nx, K.wf, K.pl, K.ct⟩
      have jn := join_ok B g G pc pa { s with ring := layAll s.sz s.start s.ready l D gs s.ring } l r wr KN hwb (by have := HDR.out; omega) RN (Nat.le_trans hB (Nat.le_trans Q4'.out.size hszr)) (by omega)
      rw [show ({ s with ring := layAll s.sz s.start s.ready l D gs s.ring } : St).parts = s.parts from rfl, HFF.out, HE.out] at jn
      rw [HJE.out] at jn
      have HJ := Lib.hid jn
      clear jn RN KN hrl
      have x0 := blk_cell SR.out 0
      have x1 := blk_cell SR.out 1
      go_wp2_with (first
        | (go_at_call 33; refine HJ.out.mono ?_; rintro e V9 ⟨rfl, pa9, pc9, r9, t9, d9⟩; have R9 := Lib.hid r9; have T9 := Lib.hid t9; have D9 := Lib.hid d9; clear r9 t9 d9)
        | fail)
      go_ret2
      refine ⟨rfl, pa9, pc9, R9.out, ((Turns.of_below (IS g G pa) Q4'.out).trans (TR.out.mono (fun k e => .inr (.inl e)))).trans (T9.out.mono (fun k e => e.elim .inl (fun h => .inr (.inr h)))), fun k e => (D9.out k e).imp id (fun h => by have := Q4'.out.size; omega)⟩
end Go.Proofs.Ytknebjfdggimcaa
