/- Recvbuf: gapsOf. -/
import Derived.Test.YtknebjfdggimcaaRvE
namespace Go.Proofs.Ytknebjfdggimcaa
open Go.RowKit Go.Proofs.Ytknebjfdggimcaa.Rv

/-- A place from l to r. -/
def SC (p : Nat × Nat) : List Value := [.int .i64 (p.1 : Nat), .int .i64 (p.2 : Nat)]
theorem encS : Enc 2 SC := ⟨fun _ => rfl, fun x u hu => by
  simp only [SC, List.mem_cons, List.not_mem_nil, or_false] at hu
  rcases hu with rfl | rfl <;> rfl, by decide⟩
theorem elemS : Elem 77 75 (.agg #[.int .i64 0, .int .i64 0]) 2 16 := ⟨Try.underlying77, by kernel_rfl, rfl, by decide⟩
/-- The gaps ahead of a part. -/
def gapR : Nat → List Pt → List (Nat × Nat)
  | _, [] => []
  | a, p :: ps => (if a < p.1 then [(a, p.1)] else []) ++ gapR (max a p.2.1) ps
def atR : Nat → List Pt → Nat
  | a, [] => a
  | a, p :: ps => atR (max a p.2.1) ps
theorem gaps_split : ∀ (a : Nat) (ps : List Pt) (r : Nat), gapsF a ps r = gapR a ps ++ (if atR a ps < r then [(atR a ps, r)] else [])
  | a, [], r => by rw [gapsF, gapR, atR, List.nil_append]
  | a, p :: ps, r => by rw [gapsF, gapR, atR, gaps_split, List.append_assoc]
theorem gapR_succ : ∀ (a : Nat) (ps : List Pt) (i : Nat) (x : Pt), ps[i]? = some x → gapR a (ps.take (i + 1)) = gapR a (ps.take i) ++ (if atR a (ps.take i) < x.1 then [(atR a (ps.take i), x.1)] else []) ∧ atR a (ps.take (i + 1)) = max (atR a (ps.take i)) x.2.1
  | a, [], i, x, h => by cases h
  | a, p :: ps, 0, x, h => by cases h; simp [gapR, atR]
  | a, p :: ps, i + 1, x, h => by
    have ih := gapR_succ (max a p.2.1) ps i x h
    rw [List.take_succ_cons, List.take_succ_cons, gapR, gapR, atR, atR, ih.1, List.append_assoc]
    exact ⟨rfl, ih.2⟩
theorem gapR_len : ∀ (a : Nat) (ps : List Pt), (gapR a ps).length ≤ ps.length
  | a, [] => by simp [gapR]
  | a, p :: ps => by
    have ih := gapR_len (max a p.2.1) ps
    rw [gapR, List.length_append, List.length_cons]
    split <;> simp <;> omega
set_option maxRecDepth 100000 in
set_option maxHeartbeats 1000000 in
theorem gapsOf_ok (l r : Nat) (a : Option Addr) (ps : List Pt) (c : Nat) (w : World) (h : Sts 3 PC Tr w a ps) (hl : ps.length ≤ 2000) :
    Calls Try.prog 31 #[.agg #[.int .i64 (l : Nat), .int .i64 (r : Nat)], .slice a ps.length c] w fun e w' => ∃ a' c', e = .returned (.slice a' (gapsF l ps r).length c') ∧ OwnR 75 2 SC w.heap.size a' (gapsF l ps r) c' w' ∧ Below w.heap.size w w' := by
  have HL := Lib.hid h
  obtain ⟨gf, hgf⟩ : ∃ z, gapsF l ps r = z := ⟨_, rfl⟩
  have HGS := Lib.hid (hgf.symm.trans (gaps_split l ps r))
  rw [hgf]
  clear hgf
  have HGR := Lib.hid (gapR_len l ps)
  clear h
  go_enter Try.func31, Try.ntmps31
  go_upto_region 2 with fail
  have S0 := Lib.hid (blk_new w (.cells #[.int .i64 (l : Nat), .int .i64 (r : Nat)] 75))
  have Q0 := Lib.hid ((Below.refl w.heap.size w).alloc (Nat.le_refl _) (.cells #[.int .i64 (l : Nat), .int .i64 (r : Nat)] 75))
  have hz0 : (w.alloc (.cells #[.int .i64 (l : Nat), .int .i64 (r : Nat)] 75)).heap.size = w.heap.size + 1 := by simp
  generalize w.alloc (.cells #[.int .i64 (l : Nat), .int .i64 (r : Nat)] 75) = V0 at S0 Q0 hz0 ⊢
  have d0 := blk_cell S0.out 0
  go_wp2_with fail
  go_loopw [5, 6, 13] (fun gv av iv wr => ∃ (i : Nat) (p : Option Addr) (d : Nat), i ≤ ps.length ∧ iv = .int .i64 i ∧ av = .int .i64 (atR l (ps.take i) : Nat) ∧ gv = .slice p (gapR l (ps.take i)).length d ∧ OwnR 75 2 SC V0.heap.size p (gapR l (ps.take i)) d wr ∧ Below V0.heap.size V0 wr) (fun _ _ iv _ => ps.length - (intOf iv).toNat)
  case atStart => exact ⟨0, none, 0, by omega, rfl, rfl, rfl, ownR_nil _ _ _ _ _, Below.refl _ _⟩
  case round =>
    obtain ⟨i, p, d, hi, rfl, rfl, rfl, hO, hq0⟩ := hrel
    have BR := Lib.hid hq0
    have OR := Lib.hid hO
    clear hq0 hO
    have SR := Lib.hid ((BR.out.block _ (blk_lt S0.out)).trans S0.out)
    have QR := Lib.hid (Q0.out.trans (BR.out.mono Q0.out.size))
    by_cases hlt : i < ps.length
    case pos =>
      have i1 : (i : Int) < (ps.length : Int) := by omega
      obtain ⟨x, hx⟩ : ∃ x, ps[i]? = some x := ⟨_, List.getElem?_eq_getElem hlt⟩
      obtain ⟨g, o, rfl, _, _⟩ := HL.out.isSomeT (by omega)
      obtain ⟨hg, p0, p1, p2⟩ := pt_at HL.out hx
      have m0 := (QR.out.cell (p := ⟨g, o + i * 3, none⟩) hg).trans p0
      have m1 := (QR.out.cell (p := ⟨g, o + i * 3 + 1, none⟩) hg).trans p1
      have m2 := (QR.out.cell (p := ⟨g, o + i * 3 + 2, none⟩) hg).trans p2
      have hs := gapR_succ l ps i x hx
      have hln := gapR_len l (ps.take i)
      have hln2 : (ps.take i).length = i := by rw [List.length_take]; omega
      obtain ⟨at', hat⟩ : ∃ z, atR l (ps.take i) = z := ⟨_, rfl⟩
      obtain ⟨gl, hgl⟩ : ∃ z, gapR l (ps.take i) = z := ⟨_, rfl⟩
      rw [hat] at hs
      rw [hgl] at hs hln OR
      have HS1 := Lib.hid hs.1
      have HS2 := Lib.hid hs.2
      have hgll : gl.length ≤ 2000 := by omega
      have W : IntKind.i64.wrap ((i : Int) + 1) = ((i + 1 : Nat) : Int) := by rw [IntWalk.i64_in _ ⟨by omega, by omega⟩]; omega
      have hmx : max (at' : Int) (x.2.1 : Int) = ((max at' x.2.1 : Nat) : Int) := by omega
      rw [hat, hgl]
      clear p0 p1 p2 hx hs hln hln2 hat hgl
      go_upto_region 6 with fail
      have X2 := Lib.hid (blk_new wr (.cells #[.int .i64 (x.1 : Nat), .int .i64 (x.2.1 : Nat), .int .i64 (x.2.2 : Nat)] 87))
      have b2 := (Below.refl wr.heap.size wr).alloc (Nat.le_refl _) (.cells #[.int .i64 (x.1 : Nat), .int .i64 (x.2.1 : Nat), .int .i64 (x.2.2 : Nat)] 87)
      have B2 := Lib.hid b2
      have hz2 : (wr.alloc (.cells #[.int .i64 (x.1 : Nat), .int .i64 (x.2.1 : Nat), .int .i64 (x.2.2 : Nat)] 87)).heap.size = wr.heap.size + 1 := by simp
      have S2 := Lib.hid ((b2.block _ (blk_lt SR.out)).trans SR.out)
      have O2 := Lib.hid (OR.out.below b2)
      have OB := Lib.hid (OR.out.ownB)
      clear b2 m0 m1 m2
      generalize wr.alloc (.cells #[.int .i64 (x.1 : Nat), .int .i64 (x.2.1 : Nat), .int .i64 (x.2.2 : Nat)] 87) = V2 at X2 B2 hz2 S2 O2 ⊢
      have HZ2 := Lib.hid hz2
      have hVW : V0.heap.size ≤ V2.heap.size := by have := BR.out.size; omega
      clear hz2
      have x0 := blk_cell X2.out 0
      have x1 := blk_cell X2.out 1
      have hszw := Lib.hid BR.out.size
      by_cases hc : at' < x.1
      case pos =>
        have d1 : (at' : Int) < (x.1 : Int) := by omega
        have HN : Hid (gapR l (ps.take (i + 1)) = gl ++ [(at', x.1)]) := Lib.hid (by rw [HS1.out, if_pos hc])
        have NS := Lib.hid (sts_new encS V2 [(at', x.1)] 75 (0, 0))
        have O3 := Lib.hid (O2.out.below ((Below.refl V2.heap.size V2).alloc (Nat.le_refl _) (.cells #[.int .i64 (at' : Nat), .int .i64 (x.1 : Nat)] 75)))
        have X3 := Lib.hid ((((Below.refl V2.heap.size V2).alloc (Nat.le_refl _) (.cells #[.int .i64 (at' : Nat), .int .i64 (x.1 : Nat)] 75)).block _ (blk_lt X2.out)).trans X2.out)
        have hl1 : (gl.length + [(at', x.1)].length) * 16 ≤ 140737488355328 := by rw [List.length_singleton]; omega
        have hl2 : gl.length + [(at', x.1)].length ≤ maxLen := by unfold maxLen; rw [List.length_singleton]; omega
        have hB3 : V0.heap.size ≤ (V2.alloc (.cells #[.int .i64 (at' : Nat), .int .i64 (x.1 : Nat)] 75)).heap.size := by simp; omega
        have HL1 := Lib.hid hl1
        have HL2 := Lib.hid hl2
        have HB3 := Lib.hid hB3
        have hneX : ∀ k, (Value.slice p gl.length d).ownBlock = some k → k ≠ wr.heap.size := fun k hk => by have := (OB.out k hk).2; omega
        clear hl1 hl2 hB3
        go_upto_region 8 with (first
          | (at_builtin; refine wpList_append_r (w := V2.alloc (.cells #[.int .i64 (at' : Nat), .int .i64 (x.1 : Nat)] 75)) (t := 77) (e := 75) (z := .agg #[.int .i64 0, .int .i64 0]) (m := 2) (bz := 16) (cells := SC) (xs := gl) (ys := [(at', x.1)]) (cap := d) (a := p) (b := some ⟨V2.heap.size, 0, none⟩) (dap := 1) (n := 1) ?_ elemS encS (.tmp 22) (.tmp 28) ?_ V0.heap.size ?_ O3.out NS.out ?_ ?_ ?_ HL1.out HL2.out HB3.out ?_; rfl; rfl; rfl; (intro e; cases e); rfl; rfl; intro a2 c2 W1 O4 b4 g4; have O5 := Lib.hid O4; have G5 := Lib.hid g4; have B5 := Lib.hid b4; clear O4 b4 g4)
          | fail)
        have X5 := Lib.hid ((G5.out.block _ (blk_lt X3.out) (fun e => hneX _ e.symm rfl)).trans X3.out)
        have y1 := blk_cell X5.out 1
        have Q5 : Hid (Below V0.heap.size V0 W1) := Lib.hid (((BR.out.trans (B2.out.mono hszw.out)).alloc hVW _).trans B5.out)
        clear x0 x1 d1 hneX
        go_wp2_with fail
        go_roundw
        case rel => exact ⟨i + 1, a2, c2, by omega, by go_num, by rw [HS2.out], by rw [HN.out, List.length_append]; rfl, by rw [HN.out]; exact O5.out, Q5.out⟩
        case measure => simp [intOf]; omega
      case neg =>
        have d1 : ¬ ((at' : Int) < (x.1 : Int)) := by omega
        have HN : Hid (gapR l (ps.take (i + 1)) = gl) := Lib.hid (by rw [HS1.out, if_neg hc, List.append_nil])
        have Q5 : Hid (Below V0.heap.size V0 V2) := Lib.hid (BR.out.trans (B2.out.mono hszw.out))
        go_wp2_with fail
        go_roundw
        case rel => exact ⟨i + 1, p, d, by omega, by go_num, by rw [HS2.out], by rw [HN.out], by rw [HN.out]; exact O2.out, Q5.out⟩
        case measure => simp [intOf]; omega
    case neg =>
      obtain rfl : i = ps.length := by omega
      have i1 : ¬ ((ps.length : Int) < (ps.length : Int)) := by omega
      rw [List.take_length] at OR ⊢
      obtain ⟨at', hat⟩ : ∃ z, atR l ps = z := ⟨_, rfl⟩
      obtain ⟨gl, hgl⟩ : ∃ z, gapR l ps = z := ⟨_, rfl⟩
      have hgs := HGS.out
      have hgr := HGR.out
      rw [hat, hgl] at hgs
      rw [hgl] at hgr OR
      rw [hat, hgl]
      have HG := Lib.hid hgs
      have hgll : gl.length ≤ 2000 := by omega
      have x1 := blk_cell SR.out 1
      clear hgs hgr hat hgl
      by_cases hc : at' < r
      case pos =>
        have d1 : (at' : Int) < (r : Int) := by omega
        have NS := Lib.hid (sts_new encS wr [(at', r)] 75 (0, 0))
        have O3 := Lib.hid (OR.out.below ((Below.refl wr.heap.size wr).alloc (Nat.le_refl _) (.cells #[.int .i64 (at' : Nat), .int .i64 (r : Nat)] 75)))
        have hl1 : (gl.length + [(at', r)].length) * 16 ≤ 140737488355328 := by rw [List.length_singleton]; omega
        have hl2 : gl.length + [(at', r)].length ≤ maxLen := by unfold maxLen; rw [List.length_singleton]; omega
        have hB3 : V0.heap.size ≤ (wr.alloc (.cells #[.int .i64 (at' : Nat), .int .i64 (r : Nat)] 75)).heap.size := by have := BR.out.size; simp; omega
        have HL1 := Lib.hid hl1
        have HL2 := Lib.hid hl2
        have HB3 := Lib.hid hB3
        obtain ⟨out, hout⟩ : ∃ z, gl ++ [(at', r)] = z := ⟨_, rfl⟩
        have HOUT := Lib.hid hout
        have HGF : Hid (gf = out) := Lib.hid (by rw [HG.out, if_pos hc, hout])
        clear hl1 hl2 hB3 hout hc
        go_wp2_with (first
          | (at_builtin; refine wpList_append_r (w := wr.alloc (.cells #[.int .i64 (at' : Nat), .int .i64 (r : Nat)] 75)) (t := 77) (e := 75) (z := .agg #[.int .i64 0, .int .i64 0]) (m := 2) (bz := 16) (cells := SC) (xs := gl) (ys := [(at', r)]) (cap := d) (a := p) (b := some ⟨wr.heap.size, 0, none⟩) (dap := 1) (n := 1) ?_ elemS encS (.tmp 40) (.tmp 45) ?_ V0.heap.size ?_ O3.out NS.out ?_ ?_ ?_ HL1.out HL2.out HB3.out ?_; rfl; rfl; rfl; (intro e; cases e); rfl; rfl; intro a2 c2 W1 O4 b4 g4; rw [HOUT.out] at O4 ⊢; have O5 := Lib.hid O4; have B5 := Lib.hid b4; clear O4 b4 g4)
          | fail)
        go_ret
        exact ⟨a2, c2, by rw [HGF.out]; rfl, by rw [HGF.out]; exact O5.out.mono Q0.out.size, (QR.out.alloc QR.out.size _).trans (B5.out.mono Q0.out.size)⟩
      case neg =>
        have d1 : ¬ ((at' : Int) < (r : Int)) := by omega
        have HGF : Hid (gf = gl) := Lib.hid (by rw [HG.out, if_neg hc, List.append_nil])
        clear hc
        go_wp2
        go_ret
        exact ⟨p, d, by rw [HGF.out]; rfl, by rw [HGF.out]; exact OR.out.mono Q0.out.size, QR.out⟩
end Go.Proofs.Ytknebjfdggimcaa
