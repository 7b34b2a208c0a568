/- Recvbuf: the document's merged, where one was added. -/
import Derived.Test.YtknebjfdggimcaaRvWd
import Derived.Test.YtknebjfdggimcaaRvV
namespace Go.Proofs.Ytknebjfdggimcaa
open Go.RowKit Go.Proofs.Ytknebjfdggimcaa.Rv

def addsB (l : List DPt) (off : Nat) : Nat → Bool
  | 0 => false
  | i + 1 => addsB l off i || !(atF l (off + i)).isSome
theorem addsB_is (l : List DPt) (off : Nat) : ∀ i, addsB l off i = true ↔ ∃ j, j < i ∧ atF l (off + j) = none
  | 0 => by simp [addsB]
  | i + 1 => by
    rw [addsB, Bool.or_eq_true, addsB_is l off i]
    constructor
    · rintro (⟨j, hj, h⟩ | h)
      · exact ⟨j, by omega, h⟩
      · exact ⟨i, by omega, by cases e : atF l (off + i) <;> simp_all⟩
    · rintro ⟨j, hj, h⟩
      by_cases e : j = i
      · subst e; exact .inr (by rw [h]; rfl)
      · exact .inl ⟨j, by omega, h⟩
/-- The first j octets of the merged part. -/
def obF (l : List DPt) (off : Nat) (d : List Nat) (lw j : Nat) : List Nat := (List.range j).map fun t => octD l off d (lw + t)
theorem obF_len (l : List DPt) (off : Nat) (d : List Nat) (lw j : Nat) : (obF l off d lw j).length = j := by unfold obF; rw [List.length_map, List.length_range]
theorem obF_step (l : List DPt) (off : Nat) (d : List Nat) (lw j : Nat) : obF l off d lw (j + 1) = obF l off d lw j ++ [octD l off d (lw + j)] := by
  unfold obF; rw [List.range_succ, List.map_append]; rfl
theorem atF_lt : ∀ {l : List DPt} {j c : Nat}, atF l j = some c → (∀ p ∈ l, ∀ x ∈ p.2.1, x < 256) → c < 256
  | [], _, _, h, _ => by simp [atF] at h
  | p :: ps, j, c, h, hb => by
    rw [atF] at h
    by_cases hc : p.1 ≤ j ∧ j < dend p
    · rw [if_pos hc] at h
      have e := Option.some.inj h
      have h2 : j - p.1 < p.2.1.length := by have := hc.2; unfold dend at this; omega
      rw [List.getD_eq_getElem?_getD, List.getElem?_eq_getElem h2] at e
      have e2 : p.2.1[j - p.1] = c := e
      rw [← e2]
      exact hb p List.mem_cons_self _ (List.getElem_mem h2)
    · rw [if_neg hc] at h
      exact atF_lt h fun q hq => hb q (List.mem_cons_of_mem _ hq)
theorem octD_lt {l : List DPt} {off : Nat} {d : List Nat} (hl : ∀ p ∈ l, ∀ x ∈ p.2.1, x < 256) (hd : ∀ x ∈ d, x < 256) (j : Nat) : octD l off d j < 256 := by
  unfold octD
  cases e : atF l j with
  | some c => exact atF_lt e hl
  | none =>
    show d.getD (j - off) 0 < 256
    by_cases h : j - off < d.length
    · rw [List.getD_eq_getElem?_getD, List.getElem?_eq_getElem h]; exact hd _ (List.getElem_mem h)
    · rw [List.getD_eq_getElem?_getD, List.getElem?_eq_none (by omega)]; decide
theorem obF_lt {l : List DPt} {off : Nat} {d : List Nat} (hl : ∀ p ∈ l, ∀ x ∈ p.2.1, x < 256) (hd : ∀ x ∈ d, x < 256) (lw j : Nat) : ∀ x ∈ obF l off d lw j, x < 256 := by
  intro x hx
  unfold obF at hx
  obtain ⟨t, _, rfl⟩ := List.mem_map.1 hx
  exact octD_lt hl hd _
theorem outN_len {lw hh : Nat} {q : DP} {ps : List DP} : ∀ i, (outN lw hh q ps i).1.length ≤ 2 * i := by
  intro i
  induction i with
  | zero => unfold outN; rw [List.take_zero, outF]; simp
  | succ i ih =>
    cases h : ps[i]? with
    | none =>
      have : outN lw hh q ps (i + 1) = outN lw hh q ps i := by unfold outN; rw [List.take_add_one, h]; simp
      rw [this]; omega
    | some y =>
      rw [outN_step h]
      split
      · omega
      · split <;> simp <;> omega
/-- low and high behind i parts. -/
def lhN (off r : Nat) (ps : List DP) (i : Nat) : Nat × Nat := lhF off r ((ps.take i).map fun p => asP (dpt p)) (off, r)
theorem lhN_step {off r : Nat} {ps : List DP} {i : Nat} {x : DP} (h : ps[i]? = some x) :
    lhN off r ps (i + 1) = if x.1 ≤ r ∧ off ≤ x.1 + x.2.1.2.1.length then (min (lhN off r ps i).1 x.1, max (lhN off r ps i).2 (x.1 + x.2.1.2.1.length)) else lhN off r ps i := by
  unfold lhN
  rw [List.take_add_one, h, Option.toList_some, List.map_append, lhF_app, List.map_cons, List.map_nil, lhF, lhF]
  rfl
theorem lhN_all (off : Nat) (d : List Nat) (ps : List DP) : lowF (ps.map dpt) off d = (lhN off (off + d.length) ps ps.length).1 ∧ highF (ps.map dpt) off d = (lhN off (off + d.length) ps ps.length).2 := by
  unfold lowF highF lhN
  rw [List.take_length, List.map_map]; exact ⟨rfl, rfl⟩

/-- The part that merged makes. -/
def qD (ps : List DP) (off : Nat) (d : List Nat) (turn : Nat) (b : Option Addr) (bc : Nat) : DP := (lowF (ps.map dpt) off d, (b, mB (ps.map dpt) off d (lowF (ps.map dpt) off d) (highF (ps.map dpt) off d), bc), turn)
theorem qD_new (ps : List DP) (off : Nat) (d : List Nat) (turn : Nat) (b : Option Addr) (bc : Nat) : dpt (qD ps off d turn b bc) = newP (ps.map dpt) off d turn := rfl
set_option maxRecDepth 100000 in
set_option maxHeartbeats 1000000 in
theorem merged_yes (a : Option Addr) (ac : Nat) (ps : List DP) (off : Nat) (da : Option Addr) (dc : Nat) (d : List Nat) (turn : Nat) (w : World) (h : Sts 3 DC DG w a ps) (hX : Bts w da d) (hn : ps.length ≤ 100000) (hk : off + d.length ≤ 4294967296) (hb : ∀ p ∈ ps, p.1 + p.2.1.2.1.length ≤ 4294967296) (hA : Adds (ps.map dpt) off d) (hlh : lowF (ps.map dpt) off d ≤ highF (ps.map dpt) off d) (hh2 : highF (ps.map dpt) off d ≤ 2000000) (hcv : ∀ j, lowF (ps.map dpt) off d ≤ j → j < highF (ps.map dpt) off d → atF (ps.map dpt) j = none → off ≤ j ∧ j < off + d.length) :
    Calls Try.prog 34 #[.slice a ps.length ac, .int .i64 (off : Nat), .slice da d.length dc, .int .i64 (turn : Nat)] w fun e w' => ∃ (a' : Option Addr) (c' : Nat) (b : Option Addr) (bc : Nat), e = .returned (.tuple #[.slice a' (outD (lowF (ps.map dpt) off d) (highF (ps.map dpt) off d) (qD ps off d turn b bc) ps).length c', .bool true]) ∧ OwnR 84 3 DC w.heap.size a' (outD (lowF (ps.map dpt) off d) (highF (ps.map dpt) off d) (qD ps off d turn b bc) ps) c' w' ∧ Bts w' b (qD ps off d turn b bc).2.1.2.1 ∧ (∀ g o fr, b = some ⟨g, o, fr⟩ → w.heap.size ≤ g ∧ a' ≠ some ⟨g, 0, none⟩) ∧ Below w.heap.size w w' := by
  have HL := Lib.hid h
  have HX := Lib.hid hX
  have HB := Lib.hid hb
  have HA := Lib.hid (show addsB (ps.map dpt) off d.length = true from (addsB_is _ _ _).2 hA)
  have HCV := Lib.hid hcv
  clear h hb hA hX hcv
  go_enter Try.func34, Try.ntmps34
  go_wp2_with fail
  go_loopw [10, 11] (fun i10 i11 wr => ∃ i : Nat, i ≤ d.length ∧ i10 = .bool (addsB (ps.map dpt) off i) ∧ i11 = .int .i64 i ∧ Below w.heap.size w wr) (fun _ i11 _ => d.length - (intOf i11).toNat)
  case atStart => exact ⟨0, by omega, rfl, rfl, Below.refl _ _⟩
  case round =>
    obtain ⟨i, hi, rfl, rfl, hq⟩ := hrel
    have QR := Lib.hid hq
    clear hq
    by_cases hlt : i < d.length
    case pos =>
      have k1' : (i : Int) < (d.length : Int) := by omega
      have k1 : decide ((i : Int) < (d.length : Int)) = true := decide_eq_true k1'
      have W0 : IntKind.i64.wrap ((off : Int) + (i : Int)) = ((off + i : Nat) : Int) := by rw [IntWalk.i64_in _ ⟨by omega, by omega⟩]; omega
      have W : IntKind.i64.wrap ((i : Int) + 1) = ((i + 1 : Nat) : Int) := by rw [IntWalk.i64_in _ ⟨by omega, by omega⟩]; omega
      have hstep : addsB (ps.map dpt) off (i + 1) = (addsB (ps.map dpt) off i || !(atF (ps.map dpt) (off + i)).isSome) := rfl
      have HS := Lib.hid hstep
      clear hstep
      cases hab : addsB (ps.map dpt) off i <;> cases his : (atF (ps.map dpt) (off + i)).isSome
      all_goals
        have HI := Lib.hid his
        have HAB := Lib.hid hab
        clear his hab
        go_wp2_with (first
          | (go_at_call 41; refine (at_ok a ac ps (off + i) _ (dsts_below HL.out QR.out) hn (by omega) HB.out).mono ?_; rintro e V3 ⟨rfl, hB⟩; rw [HI.out]; have B6 := Lib.hid (QR.out.trans (hB.mono QR.out.size)); clear hB)
          | fail)
        go_roundw
        case rel => exact ⟨i + 1, by omega, by rw [HS.out, HAB.out, HI.out]; rfl, by go_num, B6.out⟩
        case measure => simp [intOf]; omega
    case neg =>
      obtain rfl : i = d.length := by omega
      have k1 : decide ((d.length : Int) < (d.length : Int)) = false := decide_eq_false (by omega)
      rw [HA.out]
      go_upto_region 10 with fail
      have S0 := Lib.hid (blk_new wr (.cells #[.int .i64 (off : Nat), .slice none 0 0, .int .i64 (turn : Nat)] 84))
      have Q0 := Lib.hid (QR.out.trans (((Below.refl wr.heap.size wr).alloc (Nat.le_refl _) (.cells #[.int .i64 (off : Nat), .slice none 0 0, .int .i64 (turn : Nat)] 84)).mono QR.out.size))
      have hsz := QR.out.size
      obtain ⟨P, hP⟩ : ∃ P, wr.heap.size = P := ⟨_, rfl⟩
      rw [hP] at S0 hsz ⊢
      generalize wr.alloc (.cells #[.int .i64 (off : Nat), .slice none 0 0, .int .i64 (turn : Nat)] 84) = V0 at S0 Q0 ⊢
      have HP := Lib.hid hP
      clear QR hP k1
      obtain ⟨r, hr⟩ : ∃ z, off + d.length = z := ⟨_, rfl⟩
      have WR : IntKind.i64.wrap ((off : Int) + (d.length : Int)) = (r : Int) := by rw [IntWalk.i64_in _ ⟨by omega, by omega⟩]; omega
      have HR := Lib.hid hr
      clear hr
      go_wp2_with fail
      go_loopw [15, 16, 18] (fun i15 i16 i18 wq => ∃ i : Nat, i ≤ ps.length ∧ i15 = .int .i64 ((lhN off r ps i).1 : Nat) ∧ i16 = .int .i64 ((lhN off r ps i).2 : Nat) ∧ i18 = .int .i64 i ∧ Below V0.heap.size V0 wq) (fun _ _ i18 _ => ps.length - (intOf i18).toNat)
      case atStart => exact ⟨0, by omega, rfl, rfl, rfl, Below.refl _ _⟩
      case round =>
        obtain ⟨i, hi, rfl, rfl, rfl, hq⟩ := hrel
        have BR := Lib.hid hq
        have QR := Lib.hid (Q0.out.trans (hq.mono Q0.out.size))
        clear hq
        obtain ⟨lw, hlw⟩ : ∃ z, (lhN off r ps i).1 = z := ⟨_, rfl⟩
        obtain ⟨hh, hhh⟩ : ∃ z, (lhN off r ps i).2 = z := ⟨_, rfl⟩
        rw [hlw, hhh]
        by_cases hlt : i < ps.length
        case pos =>
          obtain ⟨x, hx⟩ : ∃ x, ps[i]? = some x := ⟨_, List.getElem?_eq_getElem hlt⟩
          obtain ⟨gp, op, rfl, hg, p0, p1, p2, _⟩ := dp_at HL.out hx
          have hbx := HB.out x (List.mem_of_getElem? hx)
          have m0 := (QR.out.cell (p := ⟨gp, op + i * 3, none⟩) hg).trans p0
          have m1 := (QR.out.cell (p := ⟨gp, op + i * 3 + 1, none⟩) hg).trans p1
          have k1' : (i : Int) < (ps.length : Int) := by omega
          have k1 : decide ((i : Int) < (ps.length : Int)) = true := decide_eq_true k1'
          have k3 : decide (i < ps.length) = true := decide_eq_true hlt
          have hst := lhN_step (off := off) (r := r) hx
          obtain ⟨en, hen⟩ : ∃ z, x.1 + x.2.1.2.1.length = z := ⟨_, rfl⟩
          have W0 : IntKind.i64.wrap ((x.1 : Int) + (x.2.1.2.1.length : Int)) = (en : Int) := by rw [IntWalk.i64_in _ ⟨by omega, by omega⟩]; omega
          have W : IntKind.i64.wrap ((i : Int) + 1) = ((i + 1 : Nat) : Int) := by rw [IntWalk.i64_in _ ⟨by omega, by omega⟩]; omega
          rw [hen, hlw, hhh] at hst
          have HST := Lib.hid hst
          have HLW := Lib.hid hlw
          have HHH := Lib.hid hhh
          clear hst hlw hhh hen hx p0 p1 p2
          obtain ⟨mn, hmn⟩ : ∃ z, min lw x.1 = z := ⟨_, rfl⟩
          obtain ⟨mx, hmx⟩ : ∃ z, max hh en = z := ⟨_, rfl⟩
          have Wmn : min (lw : Int) (x.1 : Int) = (mn : Int) := by omega
          have Wmx : max (hh : Int) (en : Int) = (mx : Int) := by omega
          rw [hmn, hmx] at HST
          clear hmn hmx
          by_cases hc1 : x.1 ≤ r
          case neg =>
            have k2' : ¬ ((x.1 : Int) ≤ (r : Int)) := by omega
            have k2 : decide ((x.1 : Int) ≤ (r : Int)) = false := decide_eq_false k2'
            have k4 : decide (x.1 ≤ r) = false := decide_eq_false hc1
            go_wp2_with fail
            go_quiet (fail)
            have B6 := Lib.hid (below_drewN BR.out nq)
            go_wp2_with fail
            go_roundw
            case rel => exact ⟨i + 1, by omega, by rw [HST.out, if_neg (fun hh => hc1 hh.1), HLW.out], by rw [HST.out, if_neg (fun hh => hc1 hh.1), HHH.out], by go_num, B6.out⟩
            case measure => simp [intOf]; omega
          case pos =>
          have k2' : (x.1 : Int) ≤ (r : Int) := by omega
          have k2 : decide ((x.1 : Int) ≤ (r : Int)) = true := decide_eq_true k2'
          have k4 : decide (x.1 ≤ r) = true := decide_eq_true hc1
          by_cases hc2 : off ≤ en
          case neg =>
            have k5' : ¬ ((off : Int) ≤ (en : Int)) := by omega
            have k5 : decide ((off : Int) ≤ (en : Int)) = false := decide_eq_false k5'
            have k6 : decide (off ≤ en) = false := decide_eq_false hc2
            go_wp2_with fail
            go_quiet (fail)
            have B6 := Lib.hid (below_drewN BR.out nq)
            go_wp2_with fail
            go_roundw
            case rel => exact ⟨i + 1, by omega, by rw [HST.out, if_neg (fun hh => hc2 hh.2), HLW.out], by rw [HST.out, if_neg (fun hh => hc2 hh.2), HHH.out], by go_num, B6.out⟩
            case measure => simp [intOf]; omega
          case pos =>
            have k5' : (off : Int) ≤ (en : Int) := by omega
            have k5 : decide ((off : Int) ≤ (en : Int)) = true := decide_eq_true k5'
            have k6 : decide (off ≤ en) = true := decide_eq_true hc2
            go_wp2_with fail
            go_quiet (fail)
            have B6 := Lib.hid (below_drewN BR.out nq)
            go_wp2_with fail
            go_roundw
            case rel => exact ⟨i + 1, by omega, by rw [HST.out, if_pos ⟨hc1, hc2⟩], by rw [HST.out, if_pos ⟨hc1, hc2⟩], by go_num, B6.out⟩
            case measure => simp [intOf]; omega
        case neg =>
          obtain rfl : i = ps.length := by omega
          have k1 : decide ((ps.length : Int) < (ps.length : Int)) = false := decide_eq_false (by omega)
          obtain ⟨eL, eH⟩ := lhN_all off d ps
          rw [HR.out, hlw] at eL
          rw [HR.out, hhh] at eH
          rw [eL, eH] at hlh HCV
          rw [eH] at hh2
          have HLW := Lib.hid eL
          have HHH := Lib.hid eH
          clear eL eH hlw hhh
          have S1 := Lib.hid ((BR.out.block _ (blk_lt S0.out)).trans S0.out)
          have t0 := blk_cell S1.out 0
          have f0 := blk_free S1.out 0
          have s9 := blk_set S1.out 0 (.int .i64 (lw : Nat))
          simp only [List.setIfInBounds_toArray, List.set_cons_zero] at s9
          have S2 := Lib.hid s9
          have Q2 := Lib.hid (QR.out.grown (gr_set wr P 0 (.int .i64 (lw : Nat))) QR.out.size (fun k e => by cases e; exact hsz))
          clear s9 S1
          go_upto_region 19 with fail
          generalize wr.setCell ⟨P, 0, none⟩ (.int .i64 (lw : Nat)) = V1 at S2 Q2 ⊢
          clear t0 f0 k1 BR QR Q0 S0
          go_wp2_with fail
          go_loopw [20] (fun i20 wq => ∃ (j : Nat) (pb : Option Addr) (pc : Nat), lw + j ≤ hh ∧ i20 = .int .i64 (lw + j : Nat) ∧ OwnR 5 1 U8C (P + 1) pb (obF (ps.map dpt) off d lw j) pc wq ∧ wq.heap[P]? = some (.cells #[.int .i64 (lw : Nat), .slice pb (obF (ps.map dpt) off d lw j).length pc, .int .i64 (turn : Nat)] 84 (0, 0)) ∧ Below w.heap.size w wq) (fun i20 _ => hh - (intOf i20).toNat)
          case atStart => exact ⟨0, none, 0, by omega, rfl, .inl ⟨rfl, rfl, rfl⟩, S2.out, Q2.out⟩
          case round =>
            obtain ⟨j, pb, pc, hj, rfl, hO, hS, hq⟩ := hrel
            have SR := Lib.hid hS
            have OR := Lib.hid hO
            have QR := Lib.hid hq
            obtain ⟨c, hc⟩ : ∃ c, octD (ps.map dpt) off d (lw + j) = c := ⟨_, rfl⟩
            have hstep := obF_step (ps.map dpt) off d lw j
            have hol := obF_len (ps.map dpt) off d lw j
            obtain ⟨os, hos⟩ : ∃ z, obF (ps.map dpt) off d lw j = z := ⟨_, rfl⟩
            obtain ⟨os2, hos2⟩ : ∃ z, os ++ [c] = z := ⟨_, rfl⟩
            rw [hos] at SR OR hstep hol
            rw [hc, hos2] at hstep
            obtain ⟨t, ht⟩ : ∃ t, lw + j = t := ⟨_, rfl⟩
            rw [ht] at hc hj ⊢
            have HN := Lib.hid hos2
            have HST := Lib.hid hstep
            have HOS := Lib.hid hos
            have HT := Lib.hid ht
            have HL1 : Hid ((os.length + [c].length) * 1 ≤ 140737488355328) := Lib.hid (by rw [hol, List.length_singleton]; omega)
            have HL2 : Hid (os.length + [c].length ≤ maxLen) := Lib.hid (by unfold maxLen; rw [hol, List.length_singleton]; omega)
            have HOL := Lib.hid hol
            have htl : lw ≤ t := by omega
            clear hS hO hq hos2 hstep hos ht hol
            by_cases hlt : t < hh
            case pos =>
              have k1' : (t : Int) < (hh : Int) := by omega
              have k1 : decide ((t : Int) < (hh : Int)) = true := decide_eq_true k1'
              have k3 : decide (t < hh) = true := decide_eq_true hlt
              have W : IntKind.i64.wrap ((t : Int) + 1) = ((t + 1 : Nat) : Int) := by rw [IntWalk.i64_in _ ⟨by omega, by omega⟩]; omega
              cases hat : atF (ps.map dpt) t with
              | some c' =>
                obtain rfl : c' = c := by unfold octD at hc; rw [hat] at hc; exact hc
                have HAT := Lib.hid hat
                clear hat hc
                go_upto_region 23 with (first
                  | (go_at_call 41; refine (at_ok a ac ps t _ (dsts_below HL.out QR.out) hn (by omega) HB.out).mono ?_; rintro e V3 ⟨rfl, hB⟩; rw [HAT.out]; simp only [Option.getD_some, Option.isSome_some])
                  | fail)
                have S3 := Lib.hid ((hB.block _ (blk_lt SR.out)).trans SR.out)
                have Q3 := Lib.hid (QR.out.trans (hB.mono QR.out.size))
                have O3 := Lib.hid (OR.out.below hB)
                have R3 := Lib.hid (HX.out.below (QR.out.trans (hB.mono QR.out.size)))
                have NS := Lib.hid (sts_new encU V3 [c'] 5 (0, 0))
                have O4 := Lib.hid (O3.out.below ((Below.refl V3.heap.size V3).alloc (Nat.le_refl _) (.cells #[.int .u8 (c' : Nat)] 5)))
                have S4 := Lib.hid ((((Below.refl V3.heap.size V3).alloc (Nat.le_refl _) (.cells #[.int .u8 (c' : Nat)] 5)).block _ (blk_lt S3.out)).trans S3.out)
                have Q4 := Lib.hid (Q3.out.trans (((Below.refl V3.heap.size V3).alloc (Nat.le_refl _) (.cells #[.int .u8 (c' : Nat)] 5)).mono Q3.out.size))
                have hPV := blk_lt S3.out
                have HB3 : Hid (P + 1 ≤ (V3.alloc (.cells #[.int .u8 (c' : Nat)] 5)).heap.size) := Lib.hid (by simp; omega)
                have c0 := blk_cell S3.out 1
                clear hB
                go_wp2_with (first
                  | (at_builtin; refine wpList_append_rA (w := V3.alloc (.cells #[.int .u8 (c' : Nat)] 5)) (t := 32) (e := 5) (z := .int .u8 0) (m := 1) (bz := 1) (cells := U8C) (xs := os) (ys := [c']) (cap := pc) (a := pb) (ad := ⟨V3.heap.size, 0, none⟩) (dap := 1) (n := 1) ?_ elemU encU (.tmp 121) (.tmp 123) ?_ (P + 1) ?_ O4.out NS.out ?_ ?_ HL1.out HL2.out HB3.out ?_; rfl; rfl; rfl; rfl; rfl; intro a2 c2 W1 O5 b5 g5 _; rw [HN.out] at O5 ⊢; have S5 := Lib.hid ((b5.block _ (Nat.lt_succ_self P)).trans S4.out); have Q5 := Lib.hid (Q4.out.trans (b5.mono (Nat.le_succ_of_le hsz))); have t1 := blk_cell S5.out 1; have f1 := blk_free S5.out 1; have s9 := blk_set S5.out 1 (.slice a2 os2.length c2); simp only [List.setIfInBounds_toArray, List.set_cons_zero, List.set_cons_succ] at s9; have S6 := Lib.hid s9; have g6 := gr_set W1 P 1 (.slice a2 os2.length c2); have O6 := Lib.hid (O5.grown g6 (fun g' e1 e2 => by have h6 := Option.some.inj e2; have := (O5.ownB g' (by rw [e1]; rfl)).1; omega)); have Q6 := Lib.hid (Q5.out.grown g6 Q5.out.size (fun k e => by cases e; exact hsz)); clear O5 b5 g5 s9 g6)
                  | fail)
                go_roundw
                case rel => exact ⟨j + 1, a2, c2, by have := HT.out; omega, by have := HT.out; go_num, by rw [HST.out]; exact O6.out, by rw [HST.out]; exact S6.out, Q6.out⟩
                case measure => simp [intOf]; omega
              | none =>
                have hrg := HCV.out t htl hlt hat
                have hc2 : d.getD (t - off) 0 = c := by unfold octD at hc; rw [hat] at hc; exact hc
                have HAT := Lib.hid hat
                clear hat hc
                obtain ⟨jj, hjj⟩ : ∃ z, t - off = z := ⟨_, rfl⟩
                rw [hjj] at hc2
                have hjl : jj < d.length := by omega
                have hjl' : (jj : Int) < (d.length : Int) := by omega
                have hjd : decide ((jj : Int) < (d.length : Int)) = true := decide_eq_true hjl'
                have hjn : ¬ ((jj : Int) < 0) := by omega
                have WJ : IntKind.i64.wrap ((t : Int) - (off : Int)) = (jj : Int) := by rw [IntWalk.i64_in _ ⟨by omega, by omega⟩]; omega
                obtain ⟨bb, bo, rfl, hbl, hbc⟩ := HX.out.isSome (by omega)
                have p3 := hbc jj hjl
                rw [hc2] at p3
                have P3 := Lib.hid p3
                clear hjj hbc hc2 p3 hrg
                go_upto_region 23 with (first
                  | (go_at_call 41; refine (at_ok a ac ps t _ (dsts_below HL.out QR.out) hn (by omega) HB.out).mono ?_; rintro e V3 ⟨rfl, hB⟩; rw [HAT.out]; simp only [Option.getD_none, Option.isSome_none])
                  | fail)
                have S3 := Lib.hid ((hB.block _ (blk_lt SR.out)).trans SR.out)
                have Q3 := Lib.hid (QR.out.trans (hB.mono QR.out.size))
                have O3 := Lib.hid (OR.out.below hB)
                have R3 := Lib.hid (HX.out.below (QR.out.trans (hB.mono QR.out.size)))
                have NS := Lib.hid (sts_new encU V3 [c] 5 (0, 0))
                have O4 := Lib.hid (O3.out.below ((Below.refl V3.heap.size V3).alloc (Nat.le_refl _) (.cells #[.int .u8 (c : Nat)] 5)))
                have S4 := Lib.hid ((((Below.refl V3.heap.size V3).alloc (Nat.le_refl _) (.cells #[.int .u8 (c : Nat)] 5)).block _ (blk_lt S3.out)).trans S3.out)
                have Q4 := Lib.hid (Q3.out.trans (((Below.refl V3.heap.size V3).alloc (Nat.le_refl _) (.cells #[.int .u8 (c : Nat)] 5)).mono Q3.out.size))
                have hPV := blk_lt S3.out
                have HB3 : Hid (P + 1 ≤ (V3.alloc (.cells #[.int .u8 (c : Nat)] 5)).heap.size) := Lib.hid (by simp; omega)
                have c0 := blk_cell S3.out 1
                clear hB
                have m3 := (Q3.out.cell (p := ⟨bb, bo + jj, none⟩) hbl).trans P3.out
                go_wp2_with (first
                  | (at_builtin; refine wpList_append_rA (w := V3.alloc (.cells #[.int .u8 (c : Nat)] 5)) (t := 32) (e := 5) (z := .int .u8 0) (m := 1) (bz := 1) (cells := U8C) (xs := os) (ys := [c]) (cap := pc) (a := pb) (ad := ⟨V3.heap.size, 0, none⟩) (dap := 1) (n := 1) ?_ elemU encU (.tmp 121) (.tmp 123) ?_ (P + 1) ?_ O4.out NS.out ?_ ?_ HL1.out HL2.out HB3.out ?_; rfl; rfl; rfl; rfl; rfl; intro a2 c2 W1 O5 b5 g5 _; rw [HN.out] at O5 ⊢; have S5 := Lib.hid ((b5.block _ (Nat.lt_succ_self P)).trans S4.out); have Q5 := Lib.hid (Q4.out.trans (b5.mono (Nat.le_succ_of_le hsz))); have t1 := blk_cell S5.out 1; have f1 := blk_free S5.out 1; have s9 := blk_set S5.out 1 (.slice a2 os2.length c2); simp only [List.setIfInBounds_toArray, List.set_cons_zero, List.set_cons_succ] at s9; have S6 := Lib.hid s9; have g6 := gr_set W1 P 1 (.slice a2 os2.length c2); have O6 := Lib.hid (O5.grown g6 (fun g' e1 e2 => by have h6 := Option.some.inj e2; have := (O5.ownB g' (by rw [e1]; rfl)).1; omega)); have Q6 := Lib.hid (Q5.out.grown g6 Q5.out.size (fun k e => by cases e; exact hsz)); clear O5 b5 g5 s9 g6)
                  | fail)
                go_roundw
                case rel => exact ⟨j + 1, a2, c2, by have := HT.out; omega, by have := HT.out; go_num, by rw [HST.out]; exact O6.out, by rw [HST.out]; exact S6.out, Q6.out⟩
                case measure => simp [intOf]; omega
            case neg =>
              obtain rfl : t = hh := by omega
              obtain ⟨U0, hU0⟩ : ∃ U, U = wr := ⟨_, rfl⟩
              subst hU0
              have k1 : decide ((t : Int) < (t : Int)) = false := decide_eq_false (by omega)
              have hlt8 : ∀ y ∈ os, y < 256 := by
                rw [← HOS.out]
                refine obF_lt ?_ HX.out.1 _ _
                intro p hp
                obtain ⟨x, hx, rfl⟩ := List.mem_map.1 hp
                exact (HL.out.1 x hx).1
              have HBo := Lib.hid (sts_bts hlt8 (OR.out.sts encU))
              have HMB : Hid (mB (ps.map dpt) off d lw t = os) := Lib.hid (by rw [← HOS.out]; unfold mB obF; rw [show t - lw = j from by have := HT.out; omega])
              have HPB : Hid (∀ g o fr, pb = some ⟨g, o, fr⟩ → w.heap.size ≤ g ∧ g < U0.heap.size) := Lib.hid (by intro g o fr e; rcases OR.out with ⟨h0, _⟩ | ⟨g2, h0, h1, _⟩; (rw [h0] at e; cases e); (rw [h0] at e; cases e; exact ⟨by omega, OR.out.ltB _ h0⟩))
              obtain ⟨q, hq⟩ : ∃ q : DP, q = (lw, (pb, os, pc), turn) := ⟨_, rfl⟩
              have HQ := Lib.hid hq
              obtain ⟨M0, hM0⟩ : ∃ M0, U0.heap.size = M0 := ⟨_, rfl⟩
              have hPM : P < M0 := by rw [← hM0]; exact blk_lt SR.out
              have B0 := Lib.hid (Below.refl U0.heap.size U0)
              rw [hM0] at B0
              have HM := Lib.hid hM0
              clear hq hlt8 hM0 hc HST HN HL1 HL2
              go_wp2_with fail
              go_loopw [17, 23, 24] (fun i17 i23 i24 wq => ∃ (i : Nat) (oa : Option Addr) (oc : Nat), i ≤ ps.length ∧ i17 = .slice oa (outN lw t q ps i).1.length oc ∧ i23 = .bool (outN lw t q ps i).2 ∧ i24 = .int .i64 i ∧ OwnR 84 3 DC M0 oa (outN lw t q ps i).1 oc wq ∧ Below M0 U0 wq) (fun _ _ i24 _ => ps.length - (intOf i24).toNat)
              case atStart => exact ⟨0, none, 0, by omega, rfl, rfl, rfl, ownR_nil _ _ _ _ _, B0.out⟩
              case round =>
                obtain ⟨i, oa, oc, hi, rfl, rfl, rfl, hO, hB⟩ := hrel
                have OA := Lib.hid hO
                have BA := Lib.hid hB
                have hsz : M0 ≤ wr.heap.size := by rw [← HM.out]; exact hB.size
                have hol := outN_len (lw := lw) (hh := t) (q := q) (ps := ps) i
                have hBw : Below U0.heap.size U0 wr := by rw [HM.out]; exact hB
                have QA := Lib.hid (QR.out.trans (hBw.mono QR.out.size))
                have SA := Lib.hid ((hBw.block _ (blk_lt SR.out)).trans SR.out)
                clear hO hB hBw
                by_cases hlt : i < ps.length
                case pos =>
                  obtain ⟨x, hx⟩ : ∃ x, ps[i]? = some x := ⟨_, List.getElem?_eq_getElem hlt⟩
                  obtain ⟨gp, op, rfl, hg, p0, p1, p2, _⟩ := dp_at HL.out hx
                  have hst := outN_step (lw := lw) (hh := t) (q := q) hx
                  obtain ⟨ol, hoo⟩ : ∃ z, (outN lw t q ps i).1 = z := ⟨_, rfl⟩
                  obtain ⟨ob, hob⟩ : ∃ z, (outN lw t q ps i).2 = z := ⟨_, rfl⟩
                  rw [hoo] at OA hol hst ⊢
                  rw [hob] at hst ⊢
                  have m0 := (QA.out.cell (p := ⟨gp, op + i * 3, none⟩) hg).trans p0
                  have m1 := (QA.out.cell (p := ⟨gp, op + i * 3 + 1, none⟩) hg).trans p1
                  have m2 := (QA.out.cell (p := ⟨gp, op + i * 3 + 2, none⟩) hg).trans p2
                  have k1' : (i : Int) < (ps.length : Int) := by omega
                  have k1 : decide ((i : Int) < (ps.length : Int)) = true := decide_eq_true k1'
                  have k3 : decide (i < ps.length) = true := decide_eq_true hlt
                  have W : IntKind.i64.wrap ((i : Int) + 1) = ((i + 1 : Nat) : Int) := by rw [IntWalk.i64_in _ ⟨by omega, by omega⟩]; omega
                  have HST := Lib.hid hst
                  have HOO := Lib.hid hoo
                  have HOB := Lib.hid hob
                  have MM := Lib.hid (And.intro p0 (And.intro p1 p2))
                  clear hst hoo hob p0 p1 p2
                  have HPN : Hid (∀ W : World, Sts 3 DC Tr (W.alloc (.cells #[.int .i64 (lw : Nat), .slice pb os.length pc, .int .i64 (turn : Nat)] 84)) (some ⟨W.heap.size, 0, none⟩) [q]) := Lib.hid (fun W => by rw [HQ.out]; exact sts_new encD W [(lw, (pb, os, pc), turn)] 84 (0, 0))
                  have HXN : Hid (∀ W : World, Sts 3 DC Tr (W.alloc (.cells #[.int .i64 (x.1 : Nat), .slice x.2.1.1 x.2.1.2.1.length x.2.1.2.2, .int .i64 (x.2.2 : Nat)] 84)) (some ⟨W.heap.size, 0, none⟩) [x]) := Lib.hid (fun W => sts_new encD W [x] 84 (0, 0))
                  have BAL : ∀ (W : World) (o : Obj), Below W.heap.size W (W.alloc o) := fun W o => (Below.refl W.heap.size W).alloc (Nat.le_refl _) o
                  have HSA : ∀ (W : World) (o : Obj), M0 ≤ W.heap.size → M0 ≤ (W.alloc o).heap.size := fun W o h => by simp; omega
                  have HBL := Lib.hid BAL
                  have HSL := Lib.hid HSA
                  clear BAL HSA
                  have L1 : Hid ((ol.length + [x].length) * 40 ≤ 140737488355328) := Lib.hid (by rw [List.length_singleton]; omega)
                  have L2 : Hid (ol.length + [x].length ≤ maxLen) := Lib.hid (by unfold maxLen; rw [List.length_singleton]; omega)
                  have L3 : Hid ((ol.length + [q].length) * 40 ≤ 140737488355328) := Lib.hid (by rw [List.length_singleton]; omega)
                  have L4 : Hid (ol.length + [q].length ≤ maxLen) := Lib.hid (by unfold maxLen; rw [List.length_singleton]; omega)
                  have L5 : Hid (((ol ++ [q]).length + [x].length) * 40 ≤ 140737488355328) := Lib.hid (by rw [List.length_singleton, List.length_append, List.length_singleton]; omega)
                  have L6 : Hid ((ol ++ [q]).length + [x].length ≤ maxLen) := Lib.hid (by unfold maxLen; rw [List.length_singleton, List.length_append, List.length_singleton]; omega)
                  by_cases hc1 : lw ≤ x.1
                  case neg =>
                    have k2' : ¬ ((lw : Int) ≤ (x.1 : Int)) := by omega
                    have k2 : decide ((lw : Int) ≤ (x.1 : Int)) = false := decide_eq_false k2'
                    have k4 : decide (lw ≤ x.1) = false := decide_eq_false hc1
                    have k5' : ¬ ((lw : Int) < (x.1 : Int)) := by omega
                    have k5 : decide ((lw : Int) < (x.1 : Int)) = false := decide_eq_false k5'
                    have k6 : decide (lw < x.1) = false := decide_eq_false (by omega)
                    go_wp2_with (first
                      | (at_builtin; refine wpList_append_r (w := wr.alloc (.cells #[.int .i64 (x.1 : Nat), .slice x.2.1.1 x.2.1.2.1.length x.2.1.2.2, .int .i64 (x.2.2 : Nat)] 84)) (t := 49) (e := 84) (z := .agg #[.int .i64 0, .slice none 0 0, .int .i64 0]) (m := 3) (bz := 40) (cells := DC) (xs := ol) (ys := [x]) (cap := oc) (a := oa) (b := some ⟨wr.heap.size, 0, none⟩) (dap := 1) (n := 1) ?_ elemD encD (.tmp 163) (.tmp 168) ?_ M0 ?_ (OA.out.below (HBL.out _ _)) (HXN.out _) (fun e => by cases e) ?_ ?_ L1.out L2.out (HSL.out _ _ hsz) ?_; rfl; rfl; rfl; rfl; rfl; intro a5 c5 W1 O5 b5 _; have O6 := Lib.hid O5; have B6 := Lib.hid ((BA.out.trans ((HBL.out wr _).mono hsz)).trans b5); clear O5 b5)
                      | fail)
                    go_roundw
                    case rel => exact ⟨i + 1, a5, c5, by omega, by rw [HST.out, if_neg (fun hh => hc1 hh.1), if_neg (fun hh => hc1 (Nat.le_of_lt hh.1))]; simp, by rw [HST.out, if_neg (fun hh => hc1 hh.1), if_neg (fun hh => hc1 (Nat.le_of_lt hh.1))], by go_num, by rw [HST.out, if_neg (fun hh => hc1 hh.1), if_neg (fun hh => hc1 (Nat.le_of_lt hh.1))]; exact O6.out, B6.out⟩
                    case measure => simp [intOf]; omega
                  case pos =>
                    have k2' : (lw : Int) ≤ (x.1 : Int) := by omega
                    have k2 : decide ((lw : Int) ≤ (x.1 : Int)) = true := decide_eq_true k2'
                    have k4 : decide (lw ≤ x.1) = true := decide_eq_true hc1
                    by_cases hc2 : x.1 < t
                    case pos =>
                      have k5' : (x.1 : Int) < (t : Int) := by omega
                      have k5 : decide ((x.1 : Int) < (t : Int)) = true := decide_eq_true k5'
                      have k6 : decide (x.1 < t) = true := decide_eq_true hc2
                      go_wp2_with fail
                      go_roundw
                      case rel => exact ⟨i + 1, oa, oc, by omega, by rw [HST.out, if_pos ⟨hc1, hc2⟩, HOO.out], by rw [HST.out, if_pos ⟨hc1, hc2⟩, HOB.out], by go_num, by rw [HST.out, if_pos ⟨hc1, hc2⟩, HOO.out]; exact OA.out, BA.out⟩
                      case measure => simp [intOf]; omega
                    case neg =>
                    have k5' : ¬ ((x.1 : Int) < (t : Int)) := by omega
                    have k5 : decide ((x.1 : Int) < (t : Int)) = false := decide_eq_false k5'
                    have k6 : decide (x.1 < t) = false := decide_eq_false hc2
                    by_cases hc3 : lw < x.1
                    case neg =>
                      have k7' : ¬ ((lw : Int) < (x.1 : Int)) := by omega
                      have k7 : decide ((lw : Int) < (x.1 : Int)) = false := decide_eq_false k7'
                      have k8 : decide (lw < x.1) = false := decide_eq_false hc3
                      go_wp2_with (first
                        | (at_builtin; refine wpList_append_r (w := wr.alloc (.cells #[.int .i64 (x.1 : Nat), .slice x.2.1.1 x.2.1.2.1.length x.2.1.2.2, .int .i64 (x.2.2 : Nat)] 84)) (t := 49) (e := 84) (z := .agg #[.int .i64 0, .slice none 0 0, .int .i64 0]) (m := 3) (bz := 40) (cells := DC) (xs := ol) (ys := [x]) (cap := oc) (a := oa) (b := some ⟨wr.heap.size, 0, none⟩) (dap := 1) (n := 1) ?_ elemD encD (.tmp 163) (.tmp 168) ?_ M0 ?_ (OA.out.below (HBL.out _ _)) (HXN.out _) (fun e => by cases e) ?_ ?_ L1.out L2.out (HSL.out _ _ hsz) ?_; rfl; rfl; rfl; rfl; rfl; intro a5 c5 W1 O5 b5 _; have O6 := Lib.hid O5; have B6 := Lib.hid ((BA.out.trans ((HBL.out wr _).mono hsz)).trans b5); clear O5 b5)
                        | fail)
                      go_roundw
                      case rel => exact ⟨i + 1, a5, c5, by omega, by rw [HST.out, if_neg (fun hh => hc2 hh.2), if_neg (fun hh => hc3 hh.1)]; simp, by rw [HST.out, if_neg (fun hh => hc2 hh.2), if_neg (fun hh => hc3 hh.1)], by go_num, by rw [HST.out, if_neg (fun hh => hc2 hh.2), if_neg (fun hh => hc3 hh.1)]; exact O6.out, B6.out⟩
                      case measure => simp [intOf]; omega
                    case pos =>
                      have k7' : (lw : Int) < (x.1 : Int) := by omega
                      have k7 : decide ((lw : Int) < (x.1 : Int)) = true := decide_eq_true k7'
                      have k8 : decide (lw < x.1) = true := decide_eq_true hc3
                      cases ob with
                      | true =>
                        go_wp2_with (first
                          | (at_builtin; refine wpList_append_r (w := wr.alloc (.cells #[.int .i64 (x.1 : Nat), .slice x.2.1.1 x.2.1.2.1.length x.2.1.2.2, .int .i64 (x.2.2 : Nat)] 84)) (t := 49) (e := 84) (z := .agg #[.int .i64 0, .slice none 0 0, .int .i64 0]) (m := 3) (bz := 40) (cells := DC) (xs := ol) (ys := [x]) (cap := oc) (a := oa) (b := some ⟨wr.heap.size, 0, none⟩) (dap := 1) (n := 1) ?_ elemD encD (.tmp 163) (.tmp 168) ?_ M0 ?_ (OA.out.below (HBL.out _ _)) (HXN.out _) (fun e => by cases e) ?_ ?_ L1.out L2.out (HSL.out _ _ hsz) ?_; rfl; rfl; rfl; rfl; rfl; intro a5 c5 W1 O5 b5 _; have O6 := Lib.hid O5; have B6 := Lib.hid ((BA.out.trans ((HBL.out wr _).mono hsz)).trans b5); clear O5 b5)
                          | fail)
                        go_roundw
                        case rel => exact ⟨i + 1, a5, c5, by omega, by rw [HST.out, if_neg (fun hh => hc2 hh.2), if_neg (fun hh => Bool.noConfusion hh.2)]; simp, by rw [HST.out, if_neg (fun hh => hc2 hh.2), if_neg (fun hh => Bool.noConfusion hh.2)], by go_num, by rw [HST.out, if_neg (fun hh => hc2 hh.2), if_neg (fun hh => Bool.noConfusion hh.2)]; exact O6.out, B6.out⟩
                        case measure => simp [intOf]; omega
                      | false =>
                        have MQ : Hid (∀ W : World, Below M0 U0 W → W.cell? ⟨gp, op + i * 3, none⟩ = some (.int .i64 (x.1 : Nat)) ∧ W.cell? ⟨gp, op + i * 3 + 1, none⟩ = some (.slice x.2.1.1 x.2.1.2.1.length x.2.1.2.2) ∧ W.cell? ⟨gp, op + i * 3 + 2, none⟩ = some (.int .i64 (x.2.2 : Nat))) := Lib.hid (fun W hB => by
                          have hBw : Below U0.heap.size U0 W := by rw [HM.out]; exact hB
                          have b := QR.out.trans (hBw.mono QR.out.size)
                          exact ⟨(b.cell (p := ⟨gp, op + i * 3, none⟩) hg).trans MM.out.1, (b.cell (p := ⟨gp, op + i * 3 + 1, none⟩) hg).trans MM.out.2.1, (b.cell (p := ⟨gp, op + i * 3 + 2, none⟩) hg).trans MM.out.2.2⟩)
                        have c0 := blk_cell SA.out 0
                        have c1 := blk_cell SA.out 1
                        have c2 := blk_cell SA.out 2
                        obtain ⟨o2, ho2⟩ : ∃ o2, ol ++ [q] = o2 := ⟨_, rfl⟩
                        have hl2 : o2.length = ol.length + 1 := by rw [← ho2]; simp
                        rw [ho2] at L5 L6
                        have HO2 := Lib.hid ho2
                        have HL2 := Lib.hid hl2
                        clear ho2 hl2
                        go_wp2_with (first
                          | (at_builtin; refine wpList_append_r (w := wr.alloc (.cells #[.int .i64 (lw : Nat), .slice pb os.length pc, .int .i64 (turn : Nat)] 84)) (t := 49) (e := 84) (z := .agg #[.int .i64 0, .slice none 0 0, .int .i64 0]) (m := 3) (bz := 40) (cells := DC) (xs := ol) (ys := [q]) (cap := oc) (a := oa) (b := some ⟨wr.heap.size, 0, none⟩) (dap := 1) (n := 1) ?_ elemD encD (.tmp 159) (.tmp 161) ?_ M0 ?_ (OA.out.below (HBL.out _ _)) (HPN.out _) (fun e => by cases e) ?_ ?_ L3.out L4.out (HSL.out _ _ hsz) ?_; rfl; rfl; rfl; rfl; rfl; intro a5 c5 W1 O5 b5 _; rw [HO2.out] at O5 ⊢; have O6 := Lib.hid O5; have B6 := Lib.hid ((BA.out.trans ((HBL.out wr _).mono hsz)).trans b5); have hs6 : M0 ≤ W1.heap.size := Nat.le_trans (HSL.out wr (.cells #[.int .i64 (lw : Nat), .slice pb os.length pc, .int .i64 (turn : Nat)] 84) hsz) b5.size; have Q6 := Lib.hid (MQ.out W1 B6.out); have m3 := Q6.out.1; have m4 := Q6.out.2.1; have m5 := Q6.out.2.2; clear O5 b5 m0 m1 m2)
                          | (at_builtin; refine wpList_append_r (w := W1.alloc (.cells #[.int .i64 (x.1 : Nat), .slice x.2.1.1 x.2.1.2.1.length x.2.1.2.2, .int .i64 (x.2.2 : Nat)] 84)) (t := 49) (e := 84) (z := .agg #[.int .i64 0, .slice none 0 0, .int .i64 0]) (m := 3) (bz := 40) (cells := DC) (xs := o2) (ys := [x]) (cap := c5) (a := a5) (b := some ⟨W1.heap.size, 0, none⟩) (dap := 1) (n := 1) ?_ elemD encD (.tmp 163) (.tmp 168) ?_ M0 ?_ (O6.out.below (HBL.out _ _)) (HXN.out _) (fun e => by cases e) ?_ ?_ L5.out L6.out (HSL.out _ _ hs6) ?_; rfl; rfl; rfl; rfl; rfl; intro a7 c7 W2 O7 b7 _; have O8 := Lib.hid O7; have B8 := Lib.hid ((B6.out.trans ((HBL.out W1 _).mono hs6)).trans b7); clear O7 b7)
                          | fail)
                        go_roundw
                        case rel => exact ⟨i + 1, a7, c7, by omega, by rw [HST.out, if_neg (fun hh => hc2 hh.2), if_pos ⟨hc3, rfl⟩]; simp [← HO2.out], by rw [HST.out, if_neg (fun hh => hc2 hh.2), if_pos ⟨hc3, rfl⟩], by go_num, by rw [HST.out, if_neg (fun hh => hc2 hh.2), if_pos ⟨hc3, rfl⟩]; show OwnR _ 3 DC M0 a7 (ol ++ [q] ++ [x]) c7 _; rw [HO2.out]; exact O8.out, B8.out⟩
                        case measure => simp [intOf]; omega
                case neg =>
                  obtain rfl : i = ps.length := by omega
                  have k1 : decide ((ps.length : Int) < (ps.length : Int)) = false := decide_eq_false (by omega)
                  have HOD : Hid (outD lw t q ps = if (outN lw t q ps ps.length).2 then (outN lw t q ps ps.length).1 else (outN lw t q ps ps.length).1 ++ [q]) := Lib.hid rfl
                  obtain ⟨ol, hoo⟩ : ∃ z, (outN lw t q ps ps.length).1 = z := ⟨_, rfl⟩
                  obtain ⟨ob, hob⟩ : ∃ z, (outN lw t q ps ps.length).2 = z := ⟨_, rfl⟩
                  rw [hoo] at OA hol HOD ⊢
                  rw [hob] at HOD ⊢
                  have HPN : Hid (∀ W : World, Sts 3 DC Tr (W.alloc (.cells #[.int .i64 (lw : Nat), .slice pb os.length pc, .int .i64 (turn : Nat)] 84)) (some ⟨W.heap.size, 0, none⟩) [q]) := Lib.hid (fun W => by rw [HQ.out]; exact sts_new encD W [(lw, (pb, os, pc), turn)] 84 (0, 0))
                  have BAL : ∀ (W : World) (o : Obj), Below W.heap.size W (W.alloc o) := fun W o => (Below.refl W.heap.size W).alloc (Nat.le_refl _) o
                  have HSA : ∀ (W : World) (o : Obj), M0 ≤ W.heap.size → M0 ≤ (W.alloc o).heap.size := fun W o h => by simp; omega
                  have HBL := Lib.hid BAL
                  have HSL := Lib.hid HSA
                  clear BAL HSA hoo hob
                  have HWM : Hid (w.heap.size ≤ M0) := Lib.hid (by omega)
                  have HFIN : Hid (∀ (W : World) (ax : Option Addr) (cx : Nat), OwnR 84 3 DC M0 ax (outD lw t q ps) cx W → Below M0 U0 W → ∃ (a' : Option Addr) (c' : Nat) (b : Option Addr) (bc : Nat), (Ending.returned (.tuple #[.slice ax (outD lw t q ps).length cx, .bool true])) = .returned (.tuple #[.slice a' (outD (lowF (ps.map dpt) off d) (highF (ps.map dpt) off d) (qD ps off d turn b bc) ps).length c', .bool true]) ∧ OwnR 84 3 DC w.heap.size a' (outD (lowF (ps.map dpt) off d) (highF (ps.map dpt) off d) (qD ps off d turn b bc) ps) c' W ∧ Bts W b (qD ps off d turn b bc).2.1.2.1 ∧ (∀ g o fr, b = some ⟨g, o, fr⟩ → w.heap.size ≤ g ∧ a' ≠ some ⟨g, 0, none⟩) ∧ Below w.heap.size w W) := Lib.hid (fun W ax cx hO hB => by
                    have hBw : Below U0.heap.size U0 W := by rw [HM.out]; exact hB
                    have eq : qD ps off d turn pb pc = q := by rw [HQ.out]; unfold qD; rw [HLW.out, HHH.out, HMB.out]
                    refine ⟨ax, cx, pb, pc, ?_⟩
                    rw [eq, HLW.out, HHH.out]
                    refine ⟨rfl, hO.mono HWM.out, ?_, fun z o fr e => ⟨(HPB.out z o fr e).1, fun e2 => (by have h7 := (HPB.out z o fr e).2; rw [HM.out] at h7; have h8 := hO.ownB z (by rw [e2]; rfl); omega)⟩, QR.out.trans (hBw.mono QR.out.size)⟩
                    rw [HQ.out]
                    exact HBo.out.below hBw)
                  cases ob with
                  | true =>
                    rw [if_pos rfl] at HOD
                    go_wp2_with fail
                    go_ret2
                    rw [← HOD.out]
                    refine HFIN.out _ oa oc ?_ BA.out
                    rw [HOD.out]; exact OA.out
                  | false =>
                    rw [if_neg Bool.false_ne_true] at HOD
                    obtain ⟨o2, ho2⟩ : ∃ o2, ol ++ [q] = o2 := ⟨_, rfl⟩
                    rw [ho2] at HOD
                    have L3 : Hid ((ol.length + [q].length) * 40 ≤ 140737488355328) := Lib.hid (by rw [List.length_singleton]; omega)
                    have L4 : Hid (ol.length + [q].length ≤ maxLen) := Lib.hid (by unfold maxLen; rw [List.length_singleton]; omega)
                    have HO2 := Lib.hid ho2
                    clear ho2
                    have c0 := blk_cell SA.out 0
                    have c1 := blk_cell SA.out 1
                    have c2 := blk_cell SA.out 2
                    go_wp2_with (first
                      | (at_builtin; refine wpList_append_r (w := wr.alloc (.cells #[.int .i64 (lw : Nat), .slice pb os.length pc, .int .i64 (turn : Nat)] 84)) (t := 49) (e := 84) (z := .agg #[.int .i64 0, .slice none 0 0, .int .i64 0]) (m := 3) (bz := 40) (cells := DC) (xs := ol) (ys := [q]) (cap := oc) (a := oa) (b := some ⟨wr.heap.size, 0, none⟩) (dap := 1) (n := 1) ?_ elemD encD (.tmp 172) (.tmp 174) ?_ M0 ?_ (OA.out.below (HBL.out _ _)) (HPN.out _) (fun e => by cases e) ?_ ?_ L3.out L4.out (HSL.out _ _ hsz) ?_; rfl; rfl; rfl; rfl; rfl; intro a5 c5 W1 O5 b5 _; rw [HO2.out] at O5 ⊢; have O6 := Lib.hid O5; have B6 := Lib.hid ((BA.out.trans ((HBL.out wr _).mono hsz)).trans b5); clear O5 b5)
                      | fail)
                    go_ret2
                    rw [← HOD.out]
                    refine HFIN.out _ a5 c5 ?_ B6.out
                    rw [HOD.out]; exact O6.out
end Go.Proofs.Ytknebjfdggimcaa
