/- Recvbuf: the document's Blocks. -/
import Derived.Test.YtknebjfdggimcaaRvWf
import Derived.Test.YtknebjfdggimcaaRvSb
namespace Go.Proofs.Ytknebjfdggimcaa
open Go.RowKit Go.Proofs.Ytknebjfdggimcaa.Rv

variable {R : Nat → Prop} {C g rc pc : Nat} {ra pa : Option Addr} {ps : List DP} {s : DSt}
theorem bestF_app (last : Nat) : ∀ (l m : List DPt) (b : Option DPt), bestF last (l ++ m) b = bestF last m (bestF last l b)
  | [], _, _ => rfl
  | p :: l, m, b => by rw [List.cons_append, bestF, bestF, bestF_app]
/-- The best so far, behind i parts. -/
def bestN (last : Nat) (ps : List DP) (i : Nat) : Option DPt := bestF last ((ps.take i).map dpt) none
theorem bestN_step {last : Nat} {ps : List DP} {i : Nat} {x : DP} (h : ps[i]? = some x) : bestN last ps (i + 1) = if x.2.2 < last ∧ later (bestN last ps i) (dpt x) = true then some (dpt x) else bestN last ps i := by
  unfold bestN
  rw [List.take_add_one, h, Option.toList_some, List.map_append, bestF_app, List.map_cons, List.map_nil, bestF, bestF]; rfl
/-- What the slot says of it. -/
def BestV (last : Nat) (ps : List DP) (i : Nat) (v : Int) : Prop := (bestN last ps i = none ∧ v = -1) ∨ ∃ (b : Nat) (pb : DP), v = (b : Int) ∧ ps[b]? = some pb ∧ bestN last ps i = some (dpt pb)
theorem bestF_lt (last : Nat) : ∀ (l : List DPt) (b : Option DPt) (p : DPt), (∀ x, b = some x → x.2.2 < last) → bestF last l b = some p → p.2.2 < last
  | [], b, p, hb, h => hb p h
  | x :: l, b, p, hb, h => by
    rw [bestF] at h
    refine bestF_lt last l _ p ?_ h
    intro y hy
    split at hy
    · rename_i hc; cases hy; exact hc.1
    · exact hb y hy
/-- A part as a block. -/
def bkd (nx : Nat) (p : DPt) : Nat × Nat := ((nx + p.1) % 4294967296, (nx + (p.1 + p.2.1.length)) % 4294967296)
def bksD (s : DSt) : List (Nat × Nat) := (picksF 4 s.parts (s.turn + 1)).map (bkd s.next)

set_option maxRecDepth 100000 in
set_option maxHeartbeats 4000000 in
theorem rblocks_ok (w : World) (h : DA C R g ra rc pa pc ps s w) (N : DN s ps) (hw : ∀ p ∈ ps, p.2.2 ≤ s.turn) :
    Calls Try.prog 25 #[.pointer (some ⟨g, 0, none⟩)] w fun e w' => ∃ a c, e = .returned (.slice a (bksD s).length c) ∧ OwnR 65 2 BC w.heap.size a (bksD s) c w' ∧ Below w.heap.size w w' := by
  have H := Lib.hid h
  have HWH := Lib.hid hw
  have ntn := N.tn
  have nnx := N.nx
  have npl := N.pl
  have c4 := blk_cell h.blk 4
  obtain ⟨l0, hl0⟩ : ∃ z, s.turn + 1 = z := ⟨_, rfl⟩
  have WT : IntKind.i64.wrap ((s.turn : Int) + 1) = (l0 : Int) := by rw [IntWalk.i64_in _ ⟨by omega, by omega⟩]; omega
  obtain ⟨pl, hpl⟩ : ∃ z, picksF 4 s.parts (s.turn + 1) = z := ⟨_, rfl⟩
  have hbk : bksD s = pl.map (bkd s.next) := by unfold bksD; rw [hpl]
  rw [hl0] at hpl
  rw [← h.map] at hpl
  have HPL := Lib.hid hpl
  have hl0b : l0 ≤ 4611686018427387905 := by omega
  obtain ⟨nx, hnx⟩ : ∃ z, s.next = z := ⟨_, rfl⟩
  rw [hnx] at hbk nnx
  rw [hbk]
  have HTN := Lib.hid hl0
  have HNX := Lib.hid hnx
  clear h hw hpl hbk hl0 ntn hnx
  go_enter Try.func25, Try.ntmps25
  go_wp2_with fail
  clear c4 WT
  go_loopw [3, 4] (fun i3 i4 wr => ∃ (n last : Nat) (dn : List DPt) (oa : Option Addr) (oc : Nat), n ≤ 4 ∧ dn.length = n ∧ last ≤ l0 ∧ i3 = .slice oa n oc ∧ i4 = .int .i64 (last : Nat) ∧ pl = dn ++ picksF (4 - n) (ps.map dpt) last ∧ OwnR 65 2 BC w.heap.size oa (dn.map (bkd nx)) oc wr ∧ Below w.heap.size w wr) (fun _ i4 _ => (intOf i4).toNat)
  case atStart => exact ⟨0, l0, [], none, 0, by omega, rfl, by omega, rfl, rfl, HPL.out.symm, ownR_nil _ _ _ _ _, Below.refl _ _⟩
  case round =>
    obtain ⟨n, last, dn, oa, oc, hn4, hdn, hl1, rfl, rfl, hp, hO, hq⟩ := hrel
    obtain ⟨U0, hU0⟩ : ∃ U, U = wr := ⟨_, rfl⟩
    subst hU0
    have HP := Lib.hid hp
    have HDN := Lib.hid hdn
    have OR := Lib.hid hO
    have QR := Lib.hid hq
    clear hp hdn hO hq
    by_cases hlt : n < 4
    case neg =>
      obtain rfl : n = 4 := by omega
      have k1 : ¬ (((4 : Nat) : Int) < 4) := by omega
      have e1 : pl = dn := by rw [HP.out]; show dn ++ picksF 0 _ _ = dn; rw [picksF, List.append_nil]
      have E1 := Lib.hid e1
      have hml : (pl.map (bkd nx)).length = 4 := by rw [List.length_map, e1, HDN.out]
      rw [← E1.out] at OR
      clear e1
      go_wp2
      go_ret
      exact ⟨oa, oc, rfl, OR.out, QR.out⟩
    case pos =>
      have k1' : (n : Int) < 4 := by omega
      have k1 : decide ((n : Int) < 4) = true := decide_eq_true k1'
      have c3 := blk_cell ((QR.out.block _ (blk_lt H.out.blk)).trans H.out.blk) 3
      go_wp2_with fail
      clear c3
      go_loopw [5, 6] (fun i5 i6 wq => ∃ (i : Nat) (v : Int), i ≤ ps.length ∧ i5 = .int .i64 v ∧ i6 = .int .i64 i ∧ BestV last ps i v ∧ Below U0.heap.size U0 wq) (fun _ i6 _ => ps.length - (intOf i6).toNat)
      case atStart => exact ⟨0, -1, by omega, rfl, rfl, .inl ⟨rfl, rfl⟩, Below.refl _ _⟩
      case round =>
        obtain ⟨i, v, hi, rfl, rfl, hv, hB⟩ := hrel
        have HV := Lib.hid hv
        have BR := Lib.hid hB
        have QW := Lib.hid (QR.out.trans (hB.mono QR.out.size))
        have SR := Lib.hid ((QW.out.block _ (blk_lt H.out.blk)).trans H.out.blk)
        have c3 := blk_cell SR.out 3
        clear hv hB
        by_cases hlt2 : i < ps.length
        case pos =>
          obtain ⟨x, hx⟩ : ∃ x, ps[i]? = some x := ⟨_, List.getElem?_eq_getElem hlt2⟩
          obtain ⟨gp, op, hpa, hg, p0, p1, p2, _⟩ := dp_at (⟨H.out.oct, (H.out.own.sts encD).2⟩ : Sts 3 DC DG w pa ps) hx
          rw [hpa] at c3 SR
          have m2 := (QW.out.cell (p := ⟨gp, op + i * 3 + 2, none⟩) hg).trans p2
          have k2' : (i : Int) < (ps.length : Int) := by omega
          have k2 : decide ((i : Int) < (ps.length : Int)) = true := decide_eq_true k2'
          have k3 : decide (i < ps.length) = true := decide_eq_true hlt2
          have W : IntKind.i64.wrap ((i : Int) + 1) = ((i + 1 : Nat) : Int) := by rw [IntWalk.i64_in _ ⟨by omega, by omega⟩]; omega
          have HST := Lib.hid (bestN_step (last := last) hx)
          have HXX := Lib.hid hx
          have HPA := Lib.hid hpa
          clear p0 p1 p2 hx hpa
          by_cases hc1 : x.2.2 < last
          case neg =>
            have k4' : ¬ ((x.2.2 : Int) < (last : Int)) := by omega
            have k4 : decide ((x.2.2 : Int) < (last : Int)) = false := decide_eq_false k4'
            have k5 : decide (x.2.2 < last) = false := decide_eq_false hc1
            have HE : Hid (bestN last ps (i + 1) = bestN last ps i) := Lib.hid (by rw [HST.out, if_neg (fun hh => hc1 hh.1)])
            go_wp2_with fail
            go_quiet (fail)
            have B6 := Lib.hid (below_drewN BR.out nq)
            go_wp2_with fail
            go_roundw
            case rel => exact ⟨i + 1, v, by omega, rfl, by go_num, (by rcases HV.out with ⟨hb, hv⟩ | ⟨b, pb, hv, hpb, hb⟩; exact .inl ⟨by rw [HE.out]; exact hb, hv⟩; exact .inr ⟨b, pb, hv, hpb, by rw [HE.out]; exact hb⟩), B6.out⟩
            case measure => simp [intOf]; omega
          case pos =>
            have k4' : (x.2.2 : Int) < (last : Int) := by omega
            have k4 : decide ((x.2.2 : Int) < (last : Int)) = true := decide_eq_true k4'
            have k5 : decide (x.2.2 < last) = true := decide_eq_true hc1
            rcases HV.out with ⟨hb, rfl⟩ | ⟨b, pb, rfl, hpb, hb⟩
            · have HE : Hid (bestN last ps (i + 1) = some (dpt x)) := Lib.hid (by rw [HST.out, hb, if_pos ⟨hc1, rfl⟩])
              clear hb
              go_wp2_with fail
              go_quiet (fail)
              have B6 := Lib.hid (below_drewN BR.out nq)
              go_wp2_with fail
              go_roundw
              case rel => exact ⟨i + 1, (i : Int), by omega, rfl, by go_num, .inr ⟨i, x, rfl, HXX.out, HE.out⟩, B6.out⟩
              case measure => simp [intOf]; omega
            · obtain ⟨gp2, op2, hpa2, hg2, q0, q1, q2, _⟩ := dp_at (⟨H.out.oct, (H.out.own.sts encD).2⟩ : Sts 3 DC DG w pa ps) hpb
              rw [HPA.out] at hpa2
              cases hpa2
              have m3 := (QW.out.cell (p := ⟨gp, op + b * 3 + 2, none⟩) hg).trans q2
              have hbl := (List.getElem?_eq_some_iff.1 hpb).1
              have j1 : (b : Int) < (ps.length : Int) := by omega
              have j2 : decide ((b : Int) < (ps.length : Int)) = true := decide_eq_true j1
              have j3 : decide (b < ps.length) = true := decide_eq_true hbl
              have j4 : ¬ ((b : Int) < 0) := by omega
              have j5 : decide ((b : Int) < 0) = false := decide_eq_false j4
              have HPB := Lib.hid hpb
              have HB := Lib.hid hb
              clear q0 q1 q2 hpb hb hg2
              by_cases hc2 : pb.2.2 < x.2.2
              case pos =>
                have k6' : (pb.2.2 : Int) < (x.2.2 : Int) := by omega
                have k6 : decide ((pb.2.2 : Int) < (x.2.2 : Int)) = true := decide_eq_true k6'
                have k7 : decide (pb.2.2 < x.2.2) = true := decide_eq_true hc2
                have HE : Hid (bestN last ps (i + 1) = some (dpt x)) := Lib.hid (by rw [HST.out, HB.out, if_pos ⟨hc1, decide_eq_true hc2⟩])
                go_wp2_with fail
                go_quiet (fail)
                have B6 := Lib.hid (below_drewN BR.out nq)
                go_wp2_with fail
                go_roundw
                case rel => exact ⟨i + 1, (i : Int), by omega, rfl, by go_num, .inr ⟨i, x, rfl, HXX.out, HE.out⟩, B6.out⟩
                case measure => simp [intOf]; omega
              case neg =>
                have k6' : ¬ ((pb.2.2 : Int) < (x.2.2 : Int)) := by omega
                have k6 : decide ((pb.2.2 : Int) < (x.2.2 : Int)) = false := decide_eq_false k6'
                have k7 : decide (pb.2.2 < x.2.2) = false := decide_eq_false hc2
                have HE : Hid (bestN last ps (i + 1) = bestN last ps i) := Lib.hid (by rw [HST.out, HB.out, if_neg (fun hh => hc2 (of_decide_eq_true hh.2))])
                go_wp2_with fail
                go_quiet (fail)
                have B6 := Lib.hid (below_drewN BR.out nq)
                go_wp2_with fail
                go_roundw
                case rel => exact ⟨i + 1, (b : Int), by omega, rfl, by go_num, .inr ⟨b, pb, rfl, HPB.out, by rw [HE.out]; exact HB.out⟩, B6.out⟩
                case measure => simp [intOf]; omega
        case neg =>
          obtain rfl : i = ps.length := by omega
          have k2 : decide ((ps.length : Int) < (ps.length : Int)) = false := decide_eq_false (by omega)
          have hbn : bestN last ps ps.length = bestF last (ps.map dpt) none := by unfold bestN; rw [List.take_length]
          obtain ⟨r, hr⟩ : ∃ r, 4 - n = r + 1 := ⟨3 - n, by omega⟩
          rcases HV.out with ⟨hb, rfl⟩ | ⟨b, pb, rfl, hpb, hb⟩
          · have e1 : pl = dn := by rw [HP.out, hr, picksF, ← hbn, hb]; simp
            have E1 := Lib.hid e1
            clear e1 hb hbn hr
            go_wp2_with fail
            go_ret
            have hml : (pl.map (bkd nx)).length = n := by rw [List.length_map, E1.out, HDN.out]
            refine ⟨oa, oc, by rw [hml]; rfl, ?_, QW.out⟩
            rw [E1.out]; exact OR.out.below BR.out
          · obtain ⟨gp, op, hpa, hg, p0, p1, p2, _⟩ := dp_at (⟨H.out.oct, (H.out.own.sts encD).2⟩ : Sts 3 DC DG w pa ps) hpb
            rw [hpa] at c3 SR
            have m0 := (QW.out.cell (p := ⟨gp, op + b * 3, none⟩) hg).trans p0
            have m1 := (QW.out.cell (p := ⟨gp, op + b * 3 + 1, none⟩) hg).trans p1
            have m2 := (QW.out.cell (p := ⟨gp, op + b * 3 + 2, none⟩) hg).trans p2
            have hbl := (List.getElem?_eq_some_iff.1 hpb).1
            have j1 : (b : Int) < (ps.length : Int) := by omega
            have j2 : decide ((b : Int) < (ps.length : Int)) = true := decide_eq_true j1
            have j3 : decide (b < ps.length) = true := decide_eq_true hbl
            have j4 : ¬ ((b : Int) < 0) := by omega
            have hpbb := N.pb pb (List.mem_of_getElem? hpb)
            rw [hbn] at hb
            have hlt4 := bestF_lt last _ none _ (fun x e => by cases e) hb
            have hlt5 : pb.2.2 < last := hlt4
            have hpk : pl = (dn ++ [dpt pb]) ++ picksF (4 - (n + 1)) (ps.map dpt) pb.2.2 := by
              rw [HP.out, hr, picksF, hb, show 4 - (n + 1) = r from by omega]
              show dn ++ (dpt pb :: picksF r (ps.map dpt) pb.2.2) = _
              rw [List.append_assoc]; rfl
            have HPK := Lib.hid hpk
            obtain ⟨xl, hxl⟩ : ∃ z, (nx + pb.1) % 4294967296 = z := ⟨_, rfl⟩
            obtain ⟨en, hen⟩ : ∃ z, pb.1 + pb.2.1.2.1.length = z := ⟨_, rfl⟩
            rw [hen] at hpbb
            obtain ⟨xr, hxr⟩ : ∃ z, (nx + en) % 4294967296 = z := ⟨_, rfl⟩
            have HBK : Hid (bkd nx (dpt pb) = (xl, xr)) := Lib.hid (by unfold bkd dpt; rw [hxl]; show (xl, (nx + (pb.1 + pb.2.1.2.1.length)) % 4294967296) = _; rw [hen, hxr])
            have W1 : IntKind.u32.wrap (pb.1 : Int) = (pb.1 : Int) := by rw [IntKind.wrap_u32]; omega
            have W2 : IntKind.u32.wrap (en : Int) = (en : Int) := by rw [IntKind.wrap_u32]; omega
            have W3 : IntKind.u32.wrap ((nx : Int) + (pb.1 : Int)) = (xl : Int) := by rw [IntKind.wrap_u32]; omega
            have W4 : IntKind.u32.wrap ((nx : Int) + (en : Int)) = (xr : Int) := by rw [IntKind.wrap_u32]; omega
            have W5 : IntKind.i64.wrap ((pb.1 : Int) + (pb.2.1.2.1.length : Int)) = (en : Int) := by rw [IntWalk.i64_in _ ⟨by omega, by omega⟩]; omega
            have hmp : (dn ++ [dpt pb]).map (bkd nx) = dn.map (bkd nx) ++ [(xl, xr)] := by rw [List.map_append, List.map_cons, List.map_nil, HBK.out]
            have HMP := Lib.hid hmp
            have hol : (dn.map (bkd nx)).length = n := by rw [List.length_map, HDN.out]
            obtain ⟨out, hout⟩ : ∃ z, dn.map (bkd nx) = z := ⟨_, rfl⟩
            rw [hout] at OR HMP hol
            have HOL := Lib.hid hol
            clear p0 p1 p2 hxl hxr hen hmp hol hout hb hlt4 hbn hpb hpk hr
            go_upto_region 13 with fail
            have X2 := Lib.hid (blk_new wr (.cells #[.int .i64 (pb.1 : Nat), .slice pb.2.1.1 pb.2.1.2.1.length pb.2.1.2.2, .int .i64 (pb.2.2 : Nat)] 84))
            have bA := (Below.refl wr.heap.size wr).alloc (Nat.le_refl _) (.cells #[.int .i64 (pb.1 : Nat), .slice pb.2.1.1 pb.2.1.2.1.length pb.2.1.2.2, .int .i64 (pb.2.2 : Nat)] 84)
            have bD : Below wr.heap.size wr (wr.alloc (.cells #[.int .i64 (pb.1 : Nat), .slice pb.2.1.1 pb.2.1.2.1.length pb.2.1.2.2, .int .i64 (pb.2.2 : Nat)] 84)).drew := bA.drew
            have O3 := Lib.hid ((OR.out.below BR.out).below bD)
            have OB := Lib.hid ((OR.out.below BR.out).ownB)
            have GR := Lib.hid ((bD.block _ (blk_lt SR.out)).trans SR.out)
            have X3 := Lib.hid (blk_drew X2.out)
            have QD := Lib.hid (QW.out.trans (bD.mono QW.out.size))
            have hVW := Lib.hid (Nat.le_trans QW.out.size bD.size)
            clear m0 m1 m2 bA bD c3
            generalize wr.alloc (.cells #[.int .i64 (pb.1 : Nat), .slice pb.2.1.1 pb.2.1.2.1.length pb.2.1.2.2, .int .i64 (pb.2.2 : Nat)] 84) = V3 at X2 O3 GR X3 QD hVW ⊢
            have n1 := blk_cell GR.out 1
            rw [show (#[Value.int .i64 (s.sz : Nat), Value.int .u32 (s.next : Nat), Value.slice ra s.ready.length rc, Value.slice (some ⟨gp, op, none⟩) ps.length pc, Value.int .i64 (s.turn : Nat)] : Array Value)[1]? = some (.int .u32 (nx : Nat)) from by rw [← HNX.out]; rfl] at n1
            have x0 := blk_cell X3.out 0
            have x1 := blk_cell X3.out 1
            have BAL := Lib.hid ((Below.refl V3.drew.heap.size V3.drew).alloc (Nat.le_refl _) (.cells #[.int .u32 (xl : Nat), .int .u32 (xr : Nat)] 65))
            have NS := Lib.hid (sts_new encB V3.drew [(xl, xr)] 65 (0, 0))
            have O4 := Lib.hid (O3.out.below BAL.out)
            have hl1 : (out.length + [(xl, xr)].length) * 8 ≤ 140737488355328 := by rw [List.length_singleton, HOL.out]; omega
            have hl2 : out.length + [(xl, xr)].length ≤ maxLen := by unfold maxLen; rw [List.length_singleton, HOL.out]; omega
            have HL1 := Lib.hid hl1
            have HL2 := Lib.hid hl2
            have hvb := Lib.hid (Nat.le_trans hVW.out BAL.out.size)
            obtain ⟨bx, hbx⟩ : ∃ z, wr.heap.size = z := ⟨_, rfl⟩
            rw [hbx] at X3 x0 x1 OB
            rw [hbx]
            obtain rfl : out.length = n := HOL.out
            clear hl1 hl2 hbx
            go_region_held3 (fun W => W.cell? ⟨g, 1, none⟩ = some (.int .u32 (nx : Nat)) ∧ W.cell? ⟨bx, 0, none⟩ = some (.int .i64 (pb.1 : Nat)) ∧ W.cell? ⟨bx, 1, none⟩ = some (.slice pb.2.1.1 pb.2.1.2.1.length pb.2.1.2.2)) (first | exact ⟨n1, x0, x1⟩ | (with_reducible exact KS.out) | exact ⟨(BAL.out.cell (p := ⟨g, 1, none⟩) (blk_lt GR.out)).trans n1, (BAL.out.cell (p := ⟨bx, 0, none⟩) (blk_lt X3.out)).trans x0, (BAL.out.cell (p := ⟨bx, 1, none⟩) (blk_lt X3.out)).trans x1⟩ | go_keep) (first
              | (refine step_append_r (act := ⟨_, _⟩) (w := V3.drew.alloc (.cells #[.int .u32 (xl : Nat), .int .u32 (xr : Nat)] 65)) (t := 54) (e := 65) (z := .agg #[.int .u32 0, .int .u32 0]) (m := 2) (bz := 8) (cells := BC) (xs := out) (ys := [(xl, xr)]) (cap := oc) (a := oa) (b := some ⟨V3.drew.heap.size, 0, none⟩) (dap := 1) (n := 1) rfl elemBk encB (.tmp 70) (.tmp 92) rfl w.heap.size ?_ O4.out NS.out ?_ ?_ ?_ HL1.out HL2.out hvb.out ?_; rfl; (intro e; cases e); rfl; rfl; intro a5 c5 V5 o5 b5 g5; have O5 := Lib.hid o5; have B5 := Lib.hid b5; have KS : Hid (V5.cell? ⟨g, 1, none⟩ = some (.int .u32 (nx : Nat)) ∧ V5.cell? ⟨bx, 0, none⟩ = some (.int .i64 (pb.1 : Nat)) ∧ V5.cell? ⟨bx, 1, none⟩ = some (.slice pb.2.1.1 pb.2.1.2.1.length pb.2.1.2.2)) := Lib.hid (by
                  have k1 := (BAL.out.block _ (blk_lt GR.out)).trans GR.out
                  have k2 := (BAL.out.block _ (blk_lt X3.out)).trans X3.out
                  have k3 := (g5.block _ (blk_lt k1) (fun e => by have := (OB.out g e.symm); have := blk_lt H.out.blk; omega)).trans k1
                  have k4 := (g5.block _ (blk_lt k2) (fun e => by have := (OB.out bx e.symm).2; omega)).trans k2
                  have h1 := blk_cell k3 1
                  rw [show (#[Value.int .i64 (s.sz : Nat), Value.int .u32 (s.next : Nat), Value.slice ra s.ready.length rc, Value.slice (some ⟨gp, op, none⟩) ps.length pc, Value.int .i64 (s.turn : Nat)] : Array Value)[1]? = some (.int .u32 (nx : Nat)) from by rw [← HNX.out]; rfl] at h1
                  exact ⟨h1, blk_cell k4 0, blk_cell k4 1⟩); clear o5 b5 g5))
            have Q5 : Hid (Below w.heap.size w V5) := Lib.hid ((QD.out.trans (BAL.out.mono hVW.out)).trans B5.out)
            go_wp2_with fail
            go_roundw
            case rel => exact ⟨out.length + 1, pb.2.2, dn ++ [dpt pb], a5, c5, by omega, by rw [List.length_append, HDN.out]; rfl, by omega, by first | rfl | simp, rfl, HPK.out, by rw [HMP.out]; exact O5.out, Q5.out⟩
            case measure => simp [intOf]; omega
end Go.Proofs.Ytknebjfdggimcaa
