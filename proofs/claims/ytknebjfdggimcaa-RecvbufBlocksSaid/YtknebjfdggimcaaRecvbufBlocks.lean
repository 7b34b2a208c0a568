/- For every text, first number and pieces of it: what a block tells is there, what lies beside it is not; at most four. No condition. -/
import Derived.Test.YtknebjfdggimcaaRows
import Derived.Test.YtknebjfdggimcaaRvZ
import Derived.Test.YtknebjfdggimcaaGFrame
import Derived.Test.YtknebjfdggimcaaGAgg
import Derived.Deep.DeepCutAuto
import Derived.RegionTactic
import Derived.Deep.RegionHeld3
import Derived.ProofKit
import Derived.OpenShut
import Derived.ChangeOld
import Derived.SizedLaws
namespace Go.Proofs.Ytknebjfdggimcaa.recvbufBlocks
open Go.ChangeShapes Go.WideShapes Go.ChangeAt Go.RowKit Go.Deep Go.Proofs.Ytknebjfdggimcaa.Rv

set_option maxRecDepth 100000 in
set_option maxHeartbeats 4000000 in
theorem walk (ta : Option Addr) (T : List Nat) (tc : Nat) (first : Nat) (pp : Option Addr) (pcs : List Piece16) (ppc : Nat) (w : World) (hx : Bts w ta T) (hn : ta = none → tc = 0) (hcap : T.length ≤ tc ∧ tc ≤ maxLen) (hl : T.length ≤ 140737488351232) (hf : first < 4294967296) (hp : Sts 2 Piece16.cells Piece16.ok w pp pcs) (_hpn : pp = none → ppc = 0) (hpl : pcs.length ≤ 8796093021952) :
    Calls Try.prog 5 #[.slice ta T.length tc, .int .u32 (first : Nat), .slice pp pcs.length ppc] w fun e w' => e = .returned (.bool true) ∧ Below w.heap.size w w' := by
  have HX := Lib.hid hx
  have HP := Lib.hid hp
  have HN := Lib.hid hn
  have HC := Lib.hid hcap.1
  have HC2 := Lib.hid hcap.2
  have hml : maxLen = 9223372036854775807 := by rfl
  obtain ⟨L2, hL2⟩ : ∃ z, T.length + 2 = z := ⟨_, rfl⟩
  have HL2 := Lib.hid hL2
  clear hL2
  have Hz := Lib.hid infoT
  clear hx hp hn _hpn hcap
  obtain ⟨i0, hi, hz0, hz1, hz2⟩ := info_parts Hz.out
  have HZ2 := Lib.hid hz2
  clear Hz
  go_enter Try.func5, Try.ntmps5
  go_upto_region 4 with (first
    | (go_at_call 26; refine (alive_any _).mono ?_; rintro e V1 ⟨rfl, b⟩; have Q1 := Lib.hid b; clear b)
    | (go_at_call 7; refine (new_ok 65536 first _ (by decide) (by decide)).mono ?_; rintro e V2 ⟨g, rfl, hgl, hgv, r2, b2⟩; have R2 := Lib.hid r2; have Q2 := Lib.hid (Q1.out.trans (b2.mono Q1.out.size)); clear r2 b2)
    | fail)
  obtain ⟨G, hG⟩ : ∃ z, V1.heap.size = z := ⟨_, rfl⟩
  rw [hG] at R2 hgl
  have hs1 := Q1.out.size
  rw [hG] at hs1
  have hs2 := Q2.out.size
  clear hG Q1
  by_cases hT : T.length ≤ 5000
  case neg =>
    have d1 : (5000 : Int) < (T.length : Int) := by omega
    go_wp2_with (first
      | (go_at_call 9; refine (num_any _ _).mono ?_; rintro e w' ⟨rfl, rfl⟩)
      | fail)
    go_ret
    exact ⟨rfl, Q2.out⟩
  case pos =>
  have d1 : ¬ ((5000 : Int) < (T.length : Int)) := by omega
  have WL2 : IntKind.i64.wrap ((T.length : Int) + 2) = (L2 : Int) := by have := HL2.out; rw [IntWalk.i64_in _ ⟨by omega, by omega⟩]; omega
  have hL2b : L2 ≤ 6000 := by have := HL2.out; omega
  go_upto_region 7 with (first
    | (go_at_call 9; refine (num_any _ _).mono ?_; rintro e w' ⟨rfl, rfl⟩)
    | (at_make; refine wpList_make_full _ rfl _ _ 60 rfl V2.heap.size 4 i0 (.bool false) 1 Try.underlying60 hi hz0 hz1 .i64 .i64 _ _ L2 rfl rfl rfl rfl (by rw [HZ2.out]; omega) (by omega) (Nat.le_refl _) ?_; intro V3 hown hgrow; have C3 := Lib.hid (ownT_made hown (Nat.le_refl _)); have b3 := (Below.refl V2.heap.size V2).grown hgrow (Nat.le_refl _) (fun k e => by cases e); have R3 := Lib.hid (R2.out.below b3); have Q3 := Lib.hid (Q2.out.trans (b3.mono hs2)); have hs3 := b3.size; clear hown hgrow b3)
    | fail)
  obtain ⟨gc, hgc⟩ : ∃ z, V2.heap.size = z := ⟨_, rfl⟩
  rw [hgc] at C3 hgv hs2 hs3
  rw [hgc]
  rw [← HL2.out, rep_two, HL2.out] at C3
  have I3 : Hid (OA w.heap.size g G gc L2 first T (List.replicate T.length false) (List.replicate T.length false ++ [false, false]) 0 0 (newF 65536 first) none 0 none 0 w V3) := Lib.hid ⟨ord_new hf, R3.out.mono (by omega), ownR_nil _ _ _ _ _, C3.out.mono (by omega), (fun e => by cases e), (fun e => by cases e), (fun e => by cases e), (fun k e => by cases e), (fun e => by cases e), by omega, by omega, by have := C3.out.ltB gc rfl; omega, by have := C3.out.ltB gc rfl; omega, Q3.out⟩
  clear hgc C3 R2 R3 Q2 Q3
  go_wp2_with fail
  go_loopw [10] (fun iv wr => ∃ (i : Nat) (cm : List Bool) (s : St) (pa : Option Addr) (pc : Nat), i ≤ pcs.length ∧ i ≤ 1000 ∧ iv = .int .i64 i ∧ OA w.heap.size g G gc L2 first T cm (cm ++ [false, false]) 0 i s pa pc none 0 w wr) (fun iv _ => pcs.length - (intOf iv).toNat)
  case atStart => exact ⟨0, _, _, none, 0, by omega, by omega, rfl, I3.out⟩
  case round =>
    obtain ⟨i, cm, s, pa, pc, hip, hi1, rfl, hA⟩ := hrel
    have A := Lib.hid hA
    clear hA
    by_cases hgo : i < pcs.length ∧ i < 1000 ∧ 0 < T.length
    case neg =>
      have h3 : ¬ i < pcs.length ∨ ¬ i < 1000 ∨ ¬ 0 < T.length := by omega
      clear hgo
      go_upto_region 8 with fail
      go_cut [56] (fun (cv : Value) (wx : World) => cv = .bool false ∧ wr = wx)
      case first =>
        by_cases k1 : (i : Int) < (pcs.length : Int)
        · by_cases k2 : (i : Int) < 1000
          · have k3 : ¬ ((0 : Int) < (T.length : Int)) := by omega
            have k4 : decide (0 < T.length) = false := decide_eq_false (by omega)
            clear h3
            go_wp2_with fail
            go_meet
            exact ⟨by first | rfl | rw [k4], rfl⟩
          · clear h3
            go_wp2_with fail
            go_meet
            exact ⟨rfl, rfl⟩
        · clear h3
          go_wp2_with fail
          go_meet
          exact ⟨rfl, rfl⟩
      case rest =>
      obtain ⟨rfl, rfl⟩ := hcut
      clear h3
      go_wp2_with fail
      go_ret
      exact ⟨rfl, A.out.low⟩
    case pos =>
      obtain ⟨k1, k2, k3⟩ := hgo
      have j1 : (i : Int) < (pcs.length : Int) := by omega
      have j2 : (i : Int) < 1000 := by omega
      have j3 : (0 : Int) < (T.length : Int) := by omega
      obtain ⟨x, hxi⟩ : ∃ x, pcs[i]? = some x := ⟨_, List.getElem?_eq_getElem k1⟩
      have hps := HP.out
      obtain ⟨pb, po, hpp, _, _⟩ := hps.weak.isSomeT (by omega)
      rw [hpp] at hps
      obtain ⟨hpb, p0, p1⟩ := piece_at hps hxi
      have hpv := hps.1 x (List.mem_of_getElem? hxi)
      subst hpp
      have hlow := A.out.low
      have m0 := (hlow.cell (p := ⟨pb, po + i * 2, none⟩) hpb).trans p0
      have m1 := (hlow.cell (p := ⟨pb, po + i * 2 + 1, none⟩) hpb).trans p1
      obtain ⟨r1, r2, xa, t1, t2, t3, t4, t5, hxa⟩ := tmod_in x.pos T.length k3 (by omega)
      obtain ⟨u1, u2, y, v1, v2, v3, v4, v5, hy⟩ := tmod_in x.n 200 (by decide) (by decide)
      replace v1 : x.n.tmod 200 = u1 := v1
      replace v3 : IntKind.i64.wrap (u1 + 200) = u2 := v3
      replace v4 : u2.tmod 200 = (y : Int) := v4
      obtain ⟨n, hnn⟩ : ∃ n, min y (T.length - xa) = n := ⟨_, rfl⟩
      have W1 : IntKind.i64.wrap ((T.length : Int) - (xa : Int)) = ((T.length - xa : Nat) : Int) := by rw [IntWalk.i64_in _ ⟨by omega, by omega⟩]; omega
      obtain ⟨lx, hlx⟩ : ∃ z, T.length - xa = z := ⟨_, rfl⟩
      rw [hlx] at W1 hnn
      have hmin : min (y : Int) (lx : Int) = (n : Int) := by omega
      have hxn : xa + n ≤ T.length := by omega
      obtain ⟨xe, hxe⟩ : ∃ z, xa + n = z := ⟨_, rfl⟩
      have W2 : IntKind.i64.wrap ((xa : Int) + (n : Int)) = (xe : Int) := by rw [IntWalk.i64_in _ ⟨by omega, by omega⟩]; omega
      have W3 : IntKind.u32.wrap (xa : Int) = (xa : Int) := by rw [IntKind.wrap_u32]; omega
      obtain ⟨sq, hsq⟩ : ∃ z, (first + xa) % 4294967296 = z := ⟨_, rfl⟩
      have W4 : IntKind.u32.wrap ((first : Int) + (xa : Int)) = (sq : Int) := by rw [IntKind.wrap_u32]; omega
      have hcT := HC.out
      have hbs := bts_sub HX.out xa n tc hcT HN.out
      obtain ⟨ta2, hta2⟩ : ∃ z, (if tc = xa then ta else Option.map (fun y : Addr => y.add xa) ta) = z := ⟨_, rfl⟩
      rw [hta2] at hbs
      have hdl : ((T.drop xa).take n).length = n := by rw [List.length_take, List.length_drop]; omega
      have hOI := ord_ins A.out.ord hT k2 hxn
      rw [hsq] at hOI
      have hsqb : sq < 4294967296 := by omega
      have IN := insert_ok w.heap.size g G pc pa s sq ta2 (tc - xa) ((T.drop xa).take n) wr A.out.ord.ok A.out.rv (hbs.1.below hlow) (by rw [hdl]; omega) hbs.2.1 hsqb A.out.Bl A.out.Gl (fun b o e hne => by have := hbs.2.2 b o e hne; exact ⟨by omega, by omega⟩)
      rw [hdl] at IN
      generalize insF s sq ((T.drop xa).take n) = J at IN hOI
      obtain ⟨s2, kk, er⟩ := J
      dsimp only at IN hOI
      obtain ⟨her, hO2⟩ := hOI
      subst her
      have HIN := Lib.hid IN
      have HO2 := Lib.hid hO2
      have hxen : xe - xa = n := by omega
      have e1 : (xa : Int) ≤ (xe : Int) := by omega
      have e2 : (xe : Int) ≤ (tc : Int) := by omega
      have HXE := Lib.hid hxe
      have HSQ := Lib.hid hsq
      have HTL := Lib.hid hxn
      have HXA := Lib.hid hxa
      clear IN hO2 hbs hdl hlow p0 p1 hxe hsq hnn hlx hcT hxi
      go_upto_region 13 with (first
        | (go_at_call 11; (with_reducible refine HIN.out.mono ?_); rintro e V4 ⟨rfl, p4, c4, r4, q4, z4⟩; have A4 := Lib.hid (A.out.ins HO2.out r4 q4 z4 (by omega) (by omega)); clear r4 q4 z4)
        | fail)
      clear m0 m1 HIN HO2
      go_wp2_with fail
      go_loopw [13] (fun kv wr2 => ∃ j : Nat, j ≤ n ∧ kv = .int .i64 ((xa + j : Nat) : Int) ∧ OA w.heap.size g G gc L2 first T (cmF cm xa n) (cmF (cm ++ [false, false]) xa j) 0 (i + 1) s2 p4 c4 none 0 w wr2) (fun kv _ => xa + n - (intOf kv).toNat)
      case atStart => exact ⟨0, by omega, rfl, by rw [cmF_zero]; exact A4.out⟩
      case round =>
        obtain ⟨j, hj, rfl, hA⟩ := hrel
        have A5 := Lib.hid hA
        clear hA
        have hcl := A.out.ord.cl
        have hclf : (cm ++ [false, false]).length = L2 := by rw [List.length_append, hcl, ← HL2.out]; rfl
        obtain ⟨xj, hxj⟩ : ∃ z, xa + j = z := ⟨_, rfl⟩
        rw [hxj]
        by_cases hlt : j < n
        case pos =>
          have hl2 := HL2.out
          have f1 : (xj : Int) < (xe : Int) := by have := HXE.out; omega
          have hlen : (cmF (cm ++ [false, false]) xa j).length = L2 := by rw [cmF_len (by omega)]; exact hclf
          have hxl : xj < (cmF (cm ++ [false, false]) xa j).length := by rw [hlen]; omega
          obtain ⟨cc, cf⟩ := A5.out.came.cellT xj hxl
          have f2 : (xj : Int) < (L2 : Int) := by rw [hlen] at hxl; omega
          have Wj : IntKind.i64.wrap ((xj : Int) + 1) = ((xj + 1 : Nat) : Int) := by rw [IntWalk.i64_in _ ⟨by omega, by omega⟩]; omega
          have A6 := A5.out.set xj hxl (by omega)
          rw [← hxj, cmF_succ (by omega)] at A6
          rw [hxj] at A6
          have A7 := Lib.hid A6
          have hxj1 : xj + 1 = xa + (j + 1) := by omega
          have HXJ := Lib.hid hxj1
          clear A6 hlen hxl hcl hxj1 hclf hl2
          go_wp2_with fail
          go_roundw
          case rel => exact ⟨j + 1, by omega, by first | rfl | (rw [← HXJ.out]; go_num), A7.out⟩
          case measure => simp [intOf]; omega
        case neg =>
          obtain rfl : j = n := by omega
          have f1 : ¬ ((xj : Int) < (xe : Int)) := by have := HXE.out; omega
          have Wi : IntKind.i64.wrap ((i : Int) + 1) = ((i + 1 : Nat) : Int) := by rw [IntWalk.i64_in _ ⟨by omega, by omega⟩]; omega
          obtain ⟨sl, hpm, _, hbl⟩ := blocks_ok w.heap.size g G c4 p4 s2 wr A5.out.ord.ok A5.out.rv
          obtain ⟨hb4, hbk⟩ := ord_bks A5.out.ord hpm
          generalize bks s2 sl = bl at hbl hb4 hbk
          have HBL := Lib.hid hbl
          have HBK := Lib.hid hbk
          have A8 := A5.out
          rw [cmF_app (by omega)] at A8
          have HA8 := Lib.hid A8
          have hcl9 : (cmF cm xa j).length = T.length := by rw [cmF_len (by omega)]; exact hcl
          have HCL9 := Lib.hid hcl9
          have hget : ∀ k, xa ≤ k → k < xa + j → (cmF cm xa j).getD k false = true := fun k h1 h2 => by rw [cmF_get (by omega), if_pos ⟨h1, h2⟩]
          have HGET := Lib.hid hget
          clear hxj hcl hclf hbl hbk A8 A5 A4 hcl9 hget hpm
          go_upto_region 18 with (first
            | (go_at_call 24; refine HBL.out.mono ?_; rintro e V5 ⟨ba, bc, rfl, ob, b5⟩; have OB := Lib.hid ob; have A9 := Lib.hid (HA8.out.below b5); clear ob b5)
            | fail)
          go_wp2_with fail
          go_loopw [15] (fun jv wr3 => ∃ j2 : Nat, j2 ≤ bl.length ∧ jv = .int .i64 (j2 : Nat) ∧ Below V5.heap.size V5 wr3) (fun jv _ => bl.length - (intOf jv).toNat)
          case atStart => exact ⟨0, by omega, rfl, Below.refl _ _⟩
          case round =>
            obtain ⟨j2, hj2, rfl, hq⟩ := hrel
            have BQ := Lib.hid hq
            clear hq
            have A10 := Lib.hid (A9.out.below BQ.out)
            by_cases hlt2 : j2 < bl.length
            case neg =>
              obtain rfl : j2 = bl.length := by omega
              have g1 : ¬ ((bl.length : Int) < (bl.length : Int)) := by omega
              have g2 : ¬ ((4 : Int) < (bl.length : Int)) := by omega
              clear hlt2
              go_wp2_with fail
              go_roundw
              case rel => exact ⟨i + 1, _, s2, p4, c4, by omega, by omega, by go_num, A10.out⟩
              case measure => simp [intOf]; omega
            case pos =>
              have g1 : (j2 : Int) < (bl.length : Int) := by omega
              obtain ⟨b, hb⟩ : ∃ b, bl[j2]? = some b := ⟨_, List.getElem?_eq_getElem hlt2⟩
              obtain ⟨bx, by', y1, y2, y3, y4, y5, y6, y7, y8⟩ := HBK.out j2 b hb
              obtain ⟨qb, hqb, hqB, hql⟩ := OB.out.isSome (by omega)
              subst hqb
              obtain ⟨_, e0, e1'⟩ := blk_at2 (OB.out.sts encB) hb
              simp only [Nat.zero_add] at e0 e1'
              have n0 := (BQ.out.cell (p := ⟨qb, j2 * 2, none⟩) hql).trans e0
              have n1 := (BQ.out.cell (p := ⟨qb, j2 * 2 + 1, none⟩) hql).trans e1'
              have Wx : IntKind.u32.wrap ((b.1 : Int) - (first : Int)) = (bx : Int) := by rw [IntKind.wrap_u32, y7]; omega
              have Wy : IntKind.u32.wrap ((b.2 : Int) - (first : Int)) = (by' : Int) := by rw [IntKind.wrap_u32, y8]; omega
              have Wx2 : IntKind.i64.wrap (bx : Int) = (bx : Int) := IntWalk.i64_in _ ⟨by omega, by omega⟩
              have Wy2 : IntKind.i64.wrap (by' : Int) = (by' : Int) := IntWalk.i64_in _ ⟨by omega, by omega⟩
              have Wx1 : IntKind.i64.wrap ((bx : Int) - 1) = ((bx - 1 : Nat) : Int) := by rw [IntWalk.i64_in _ ⟨by omega, by omega⟩]; omega
              obtain ⟨bx1, hbx1⟩ : ∃ z, bx - 1 = z := ⟨_, rfl⟩
              rw [hbx1] at Wx1 y4
              have hl2 := HL2.out
              have hcln : (cmF cm xa j ++ [false, false]).length = L2 := by rw [List.length_append, HCL9.out, ← hl2]; rfl
              have l1 : ¬ ((bx : Int) < 1) := by omega
              have l2 : ¬ ((by' : Int) ≤ (bx : Int)) := by omega
              have l3 : ¬ ((T.length : Int) < (by' : Int)) := by omega
              have l4 : (bx1 : Int) < (L2 : Int) := by omega
              have l5 : (by' : Int) < (L2 : Int) := by omega
              have Y5 := Lib.hid y5
              have Y6 := Lib.hid y6
              have Y4 := Lib.hid y4
              have Wj2 : IntKind.i64.wrap ((j2 : Int) + 1) = ((j2 + 1 : Nat) : Int) := by rw [IntWalk.i64_in _ ⟨by omega, by omega⟩]; omega
              have HCN := Lib.hid hcln
              clear e0 e1' hb y4 y5 y6 y7 y8 hcln
              go_upto_region 21 with fail
              go_quiet (fail)
              have BQ2 := Lib.hid (below_drewN BQ.out nq)
              have A11 := Lib.hid (A10.out.below (below_drewN (Below.refl _ _) nq))
              clear n0 n1 A10
              generalize wr.drewN nq = V7 at BQ2 A11 ⊢
              obtain ⟨c1, _⟩ := A11.out.came.cellT bx1 (by rw [HCN.out]; omega)
              rw [getD_ff, Y4.out] at c1
              obtain ⟨c2, _⟩ := A11.out.came.cellT by' (by rw [HCN.out]; omega)
              rw [getD_ff, Y5.out] at c2
              go_upto_region 24 with fail
              clear c1 c2 l1 l2 l3
              go_wp2_with fail
              go_loopw [18] (fun kv wr4 => ∃ k : Nat, bx ≤ k ∧ k ≤ by' ∧ kv = .int .i64 (k : Nat) ∧ V7 = wr4) (fun kv _ => by' - (intOf kv).toNat)
              case atStart => exact ⟨bx, Nat.le_refl _, by omega, rfl, rfl⟩
              case round =>
                obtain ⟨k, hk1, hk2, rfl, rfl⟩ := hrel
                by_cases hkl : k < by'
                case pos =>
                  have o1 : (k : Int) < (by' : Int) := by omega
                  have o2 : (k : Int) < (L2 : Int) := by omega
                  obtain ⟨c1, _⟩ := A11.out.came.cellT k (by rw [HCN.out]; omega)
                  rw [getD_ff, Y6.out k hk1 hkl] at c1
                  have Wk : IntKind.i64.wrap ((k : Int) + 1) = ((k + 1 : Nat) : Int) := by rw [IntWalk.i64_in _ ⟨by omega, by omega⟩]; omega
                  go_wp2_with fail
                  go_roundw
                  case rel => exact ⟨k + 1, by omega, by omega, by go_num, by first | rfl | trivial⟩
                  case measure => simp [intOf]; omega
                case neg =>
                  obtain rfl : k = by' := by omega
                  have o1 : ¬ ((k : Int) < (k : Int)) := by omega
                  have hno : ¬ (xa ≤ k ∧ k < xa + j) := fun h => by
                    have h1 := HGET.out k h.1 h.2
                    rw [Y5.out] at h1; cases h1
                  clear hkl
                  go_upto_region 29 with fail
                  go_cut [192] (fun (cv : Value) (wx : World) => cv = .bool false ∧ V7 = wx)
                  case first =>
                    have hxe := HXE.out
                    have hor : ¬ ((xa : Int) < (k : Int)) ∨ ¬ ((k : Int) < (xe : Int)) := by omega
                    by_cases z1 : (0 : Int) < (j : Int)
                    · by_cases z2 : j2 = 0
                      · subst z2
                        by_cases z3 : (bx : Int) ≤ (xa : Int)
                        · by_cases z4 : (xa : Int) < (k : Int)
                          · have z5 : ¬ ((k : Int) < (xe : Int)) := by omega
                            clear hor hxe hno
                            go_wp2_with fail
                            go_meet
                            exact ⟨rfl, rfl⟩
                          · clear hor hxe hno
                            go_wp2_with fail
                            go_meet
                            exact ⟨rfl, rfl⟩
                        · clear hor hxe hno
                          go_wp2_with fail
                          go_meet
                          exact ⟨rfl, rfl⟩
                      · have z3 : ¬ ((j2 : Int) = 0) := by omega
                        have z4 : ((j2 : Int) == 0) = false := by rw [beq_eq_false_iff_ne]; exact z3
                        clear hor hxe hno
                        go_wp2_with fail
                        go_meet
                        exact ⟨rfl, rfl⟩
                    · clear hor hxe hno
                      go_wp2_with fail
                      go_meet
                      exact ⟨rfl, rfl⟩
                  case rest =>
                  obtain ⟨rfl, rfl⟩ := hcut
                  go_wp2_with fail
                  go_roundw
                  case rel => exact ⟨j2 + 1, by omega, by go_num, BQ2.out⟩
                  case measure => simp [intOf]; omega

theorem own : ownKnob Try.prog.godebug = none := by kernel_rfl
theorem laidOut : laidOutB Try.prog = true := by kernel_rfl

set_option maxRecDepth 100000 in
set_option maxHeartbeats 2000000 in
theorem lifted (os : Os) (started : os.Started) (H : Type) (enc : TypeId × Value → H) :
    ReturnsInHanded {} Try.checked os 5 .any (Rows.recvbufBlocksSpec.pre6 enc Try.prog Try.f5 Rows.recvbufBlocksRow.domain false) (Rows.recvbufBlocksSpec.post enc Try.prog Try.f5 false true false false) := by
  refine returnsInHanded_of_change_sized (C := Try.checked) own started (by kernel_rfl) Try.func5
    (ChangeSpec.witness6 (enc := enc) (C := Try.checked) false ⟨#[], #[.slice none 0 0, .int .u32 0, .slice none 0 0], []⟩ 8 (by kernel_rfl) (by kernel_rfl) (by kernel_rfl) (by kernel_rfl)) ?_
  intro W base args ds gs before hval0 hW hcnd hsz0 _
  have hval : ∀ (j : Nat) t v, Try.f5.params[j]? = some t → args[j]? = some v → Value.okWide Try.prog W .any base t v := hval0
  have hsz : (DataW.weightsEach Try.prog (Try.f5.params.toList ++ Rows.recvbufBlocksSpec.plain.varTypes Try.prog) (ds ++ gs)).all (· ≤ reachBytes) = true := hsz0
  have hW' := hW
  obtain ⟨p, q, hA0, hV, rfl, hfz, hnd⟩ := hW
  have hA : DataW.TrodAll enc Try.prog W 0 (fun _ => true) true Try.f5.params.toList args.toList ds p := hA0
  rw [Try.params5] at hA hval hsz
  obtain ⟨v0, vs0, d0, ds0, p0, q0, hargs, rfl, rfl, h0, r0⟩ := trodAll_cons hA
  obtain ⟨v1, vs1, d1, ds1, p1, q1, rfl, rfl, rfl, h1, r1⟩ := trodAll_cons r0
  obtain ⟨v2, vs2, d2, ds2, p2, q2, rfl, rfl, rfl, h2, r2⟩ := trodAll_cons r1
  obtain ⟨rfl, rfl, rfl⟩ := trodAll_nil r2
  obtain rfl : args = #[v0, v1, v2] := by cases args; simp_all
  obtain ⟨rfl, rfl⟩ := trodVars_none hV
  obtain ⟨a0, len0, cap0, rfl⟩ := okWide_slice Try.underlying32 (hval 0 32 v0 rfl rfl)
  have k0 := h0
  have lt0 : ∀ x ∈ p0, x.block < W.heap.size := by obtain ⟨m, hm⟩ := k0; exact DataW.trod_lt m _ _ _ hm
  obtain ⟨a1, rfl, rfl, rfl, w1⟩ := open_int Try.underlying22 (hval 1 22 v1 rfl rfl) h1
  obtain ⟨a2, len2, cap2, rfl⟩ := okWide_slice Try.underlying58 (hval 2 58 v2 rfl rfl)
  have k2 := h2
  have lt2 : ∀ x ∈ p2, x.block < W.heap.size := by obtain ⟨m, hm⟩ := k2; exact DataW.trod_lt m _ _ _ hm
  obtain ⟨xs0, hxl0, hbt0, hcap0, hlc0, hre0⟩ : ∃ xs : List Nat, xs.length = len0 ∧ Bts W a0 xs ∧ (a0 = none → cap0 = 0) ∧ (xs.length ≤ cap0 ∧ cap0 ≤ maxLen) ∧ xs.length ≤ 140737488351232 := by
    obtain ⟨fuel, hf⟩ := h0
    rcases open_ints Try.underlying32 Try.underlying5 (by kernel_rfl) hf with ⟨hcs, _⟩ | ⟨x, l, c, zs, hcs, _, hl, hm, hz, hd, hcell, hwz⟩
    · simp [Value.cells] at hcs
      obtain ⟨rfl, rfl, rfl⟩ := hcs
      exact ⟨[], rfl, ⟨(fun x h => by cases h), .inl rfl⟩, fun _ => rfl, ⟨Nat.le_refl _, Nat.zero_le _⟩, by simp⟩
    · simp [Value.cells] at hcs
      obtain ⟨rfl, rfl, rfl⟩ := hcs
      have hz' : zs.length = cap0 := by simpa using hz
      obtain ⟨xs, h1, h2⟩ := bts_of_ints hl hz' hcell hwz
      have hd' := (Prod.mk.inj hd).1
      have hw := sized_slice hsz (j := 0) (t := 32) (e := 5) rfl (by rw [hd']; rfl) Try.underlying32
      rw [bytes5] at hw
      simp only [lits, List.length_map, List.length_take, List.length_drop, reachBytes] at hw
      exact ⟨xs, h1, h2, (fun h => by cases h), ⟨by omega, hm⟩, by omega⟩
  obtain ⟨xs2, hxl2, hbt2, hcap2, hre2⟩ : ∃ xs : List Piece16, xs.length = len2 ∧ Sts 2 Piece16.cells Piece16.ok W a2 xs ∧ (a2 = none → cap2 = 0) ∧ xs.length ≤ 8796093021952 := by
    obtain ⟨fuel, hf⟩ := h2
    obtain ⟨x, rs, c, hv, hs, hnc, hlc, hq⟩ := open_Piece16s (c := .slice a2 len2 cap2) hf
    simp only [Value.slice.injEq] at hv
    obtain ⟨rfl, rfl, rfl⟩ := hv
    have hw := sts_reach Try.underlying58 hq (fun n hn => by simpa using List.all_eq_true.1 hsz _ (DataW.weights_mem_each (j := 2) (t := 58) rfl rfl n hn))
    rw [show Try.prog.bytesOf 62 = 16 from by kernel_rfl] at hw
    simp only [reachBytes] at hw
    exact ⟨rs, rfl, hs, hnc, by omega⟩
  clear hA0 hval0 hsz hsz0
  subst hxl0
  obtain ⟨n1, rfl, hn1⟩ := nat_of_u32 w1
  subst hxl2
  refine (walk a0 xs0 cap0 n1 a2 xs2 cap2 W hbt0 hcap0 hlc0 hre0 hn1 hbt2 hcap2 hre2).mono fun e W' ⟨he, bel⟩ => ?_
  subst he
  exact ⟨_, rfl, _, _, _, [], _, [], hW', trodAll_mk1 (shut_bool Try.underlying4 _), (trodAll_cons_mk (Below.trod laidOut (by kernel_rfl) (of_decide_eq_true (by kernel_rfl)) k0 bel lt0) (trodAll_cons_mk (shut_int Try.underlying22 w1) (trodAll_cons_mk (Below.trod laidOut (by kernel_rfl) (of_decide_eq_true (by kernel_rfl)) k2 bel lt2) trodAll_mk0))), rfl, bel.frame _, fun h => by cases h⟩

theorem over : Rows.recvbufBlocksRow.holds Try.pinned (OpenSpec.ofChange Rows.recvbufBlocksSpec) :=
  OpenClaim.holds_of_wide 5 Try.f5 rfl rfl rfl rfl rfl rfl rfl ⟨rfl, rfl, rfl, rfl, rfl⟩ rfl rfl rfl rfl rfl (by kernel_rfl) Try.func5 (by kernel_rfl)
    (of_decide_eq_true (by kernel_rfl)) (by unfold Func.isWrapper; first | (rw [if_pos (by decide +kernel)]; kernel_rfl) | (rw [if_neg (by decide +kernel)]; exact ⟨rfl, rfl⟩))
    (fun os started H enc _ => lifted os started H enc)

end Go.Proofs.Ytknebjfdggimcaa.recvbufBlocks
namespace Go.Proofs.Ytknebjfdggimcaa
/-- The statement. -/
theorem recvbufBlocks_holds : Rows.RecvbufBlocksSaid := recvbufBlocks.over
#print axioms recvbufBlocks_holds
end Go.Proofs.Ytknebjfdggimcaa
