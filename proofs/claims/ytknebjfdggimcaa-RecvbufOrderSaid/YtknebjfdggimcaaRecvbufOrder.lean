/- For every text, first number, pieces of it and reads: what is read is the text, from its beginning on, as far as it came without a gap. No condition. -/
import Derived.Test.YtknebjfdggimcaaRows
import Derived.Test.YtknebjfdggimcaaRvY
import Derived.Test.YtknebjfdggimcaaQInts
import Derived.Test.YtknebjfdggimcaaGFrame
import Derived.Test.YtknebjfdggimcaaGAgg
import Derived.Deep.DeepCutAuto
import Derived.RegionTactic
import Derived.Deep.RegionHeld3
import Derived.ProofKit
import Derived.OpenShut
import Derived.ChangeOld
import Derived.SizedLaws
namespace Go.Proofs.Ytknebjfdggimcaa.recvbufOrder
open Go.ChangeShapes Go.WideShapes Go.ChangeAt Go.RowKit Go.Deep Go.Proofs.Ytknebjfdggimcaa.Rv

set_option maxRecDepth 100000 in
set_option maxHeartbeats 4000000 in
theorem walk (ta : Option Addr) (T : List Nat) (tc : Nat) (first : Nat) (pp : Option Addr) (pcs : List Piece16) (ppc : Nat) (ra : Option Addr) (rds : List Int) (rc : Nat) (w : World) (hx : Bts w ta T) (hn : ta = none → tc = 0) (hcap : T.length ≤ tc ∧ tc ≤ maxLen) (hl : T.length ≤ 140737488351232) (hf : first < 4294967296) (hp : Sts 2 Piece16.cells Piece16.ok w pp pcs) (_hpn : pp = none → ppc = 0) (hpl : pcs.length ≤ 8796093021952) (hr : Its w ra rds) (_hrn : ra = none → rc = 0) (_hrl : rds.length ≤ 17592186043904) :
    Calls Try.prog 4 #[.slice ta T.length tc, .int .u32 (first : Nat), .slice pp pcs.length ppc, .slice ra rds.length rc] w fun e w' => e = .returned (.bool true) ∧ Below w.heap.size w w' := by
  have HX := Lib.hid hx
  have HP := Lib.hid hp
  have HR := Lib.hid hr
  have HN := Lib.hid hn
  have HC := Lib.hid hcap.1
  have HC2 := Lib.hid hcap.2
  have hml : maxLen = 9223372036854775807 := by rfl
  have Hz := Lib.hid infoT
  clear hx hp hr hn _hpn _hrn hcap
  obtain ⟨i0, hi, hz0, hz1, hz2⟩ := info_parts Hz.out
  have HZ2 := Lib.hid hz2
  clear Hz
  go_enter Try.func4, Try.ntmps4
  go_upto_region 4 with (first
    | (go_at_call 26; refine (alive_any _).mono ?_; rintro e V1 ⟨rfl, b⟩; have Q1 := Lib.hid b; clear b)
    | (go_at_call 7; refine (new_ok 65536 first _ (by decide) (by decide)).mono ?_; rintro e V2 ⟨g, rfl, hgl, hgv, r2, b2⟩; have R2 := Lib.hid r2; have Q2 := Lib.hid (Q1.out.trans (b2.mono Q1.out.size)); clear r2 b2)
    | fail)
  obtain ⟨G, hG⟩ : ∃ z, V1.heap.size = z := ⟨_, rfl⟩
  rw [hG] at R2 hgl
  have hs1 := Q1.out.size
  rw [hG] at hs1
  have hs2 := Q2.out.size
  clear hG Q1
  by_cases hT : T.length ≤ 5000
  case neg =>
    have d1 : (5000 : Int) < (T.length : Int) := by omega
    go_wp2_with (first
      | (go_at_call 9; refine (num_any _ _).mono ?_; rintro e w' ⟨rfl, rfl⟩)
      | fail)
    go_ret
    exact ⟨rfl, Q2.out⟩
  case pos =>
  have d1 : ¬ ((5000 : Int) < (T.length : Int)) := by omega
  go_upto_region 7 with (first
    | (go_at_call 9; refine (num_any _ _).mono ?_; rintro e w' ⟨rfl, rfl⟩)
    | (at_make; refine wpList_make_full _ rfl _ _ 60 rfl V2.heap.size 4 i0 (.bool false) 1 Try.underlying60 hi hz0 hz1 .i64 .i64 _ _ T.length rfl rfl rfl rfl (by rw [HZ2.out]; omega) (by omega) (Nat.le_refl _) ?_; intro V3 hown hgrow; have C3 := Lib.hid (ownT_made hown (Nat.le_refl _)); have b3 := (Below.refl V2.heap.size V2).grown hgrow (Nat.le_refl _) (fun k e => by cases e); have R3 := Lib.hid (R2.out.below b3); have Q3 := Lib.hid (Q2.out.trans (b3.mono hs2)); have hs3 := b3.size; clear hown hgrow b3)
    | fail)
  obtain ⟨gc, hgc⟩ : ∃ z, V2.heap.size = z := ⟨_, rfl⟩
  rw [hgc] at C3 hgv hs2 hs3
  rw [hgc]
  have I3 : Hid (OA w.heap.size g G gc T.length first T (List.replicate T.length false) (List.replicate T.length false) 0 0 (newF 65536 first) none 0 none 0 w V3) := Lib.hid ⟨ord_new hf, R3.out.mono (by omega), ownR_nil _ _ _ _ _, C3.out.mono (by omega), (fun e => by cases e), (fun e => by cases e), (fun e => by cases e), (fun k e => by cases e), (fun e => by cases e), by omega, by omega, by have := C3.out.ltB gc rfl; omega, by have := C3.out.ltB gc rfl; omega, Q3.out⟩
  clear hgc C3 R2 R3 Q2 Q3
  go_wp2_with fail
  go_loopw [12, 13] (fun gv iv wr => ∃ (i : Nat) (cm : List Bool) (R : Nat) (s : St) (pa : Option Addr) (pc : Nat) (qa : Option Addr) (qc : Nat), i ≤ pcs.length ∧ i ≤ 1000 ∧ iv = .int .i64 i ∧ gv = .slice qa (T.take R).length qc ∧ OA w.heap.size g G gc T.length first T cm cm R i s pa pc qa qc w wr) (fun _ iv _ => pcs.length - (intOf iv).toNat)
  case atStart => exact ⟨0, _, 0, _, none, 0, none, 0, by omega, by omega, rfl, rfl, I3.out⟩
  case round =>
    obtain ⟨i, cm, R, s, pa, pc, qa, qc, hip, hi1, rfl, rfl, hA⟩ := hrel
    have A := Lib.hid hA
    clear hA
    obtain ⟨gt, hgt⟩ : ∃ z, T.take R = z := ⟨_, rfl⟩
    rw [hgt]
    have HGT := Lib.hid hgt
    clear hgt
    by_cases hgo : i < pcs.length ∧ i < 1000 ∧ 0 < T.length
    case neg =>
      have h3 : ¬ i < pcs.length ∨ ¬ i < 1000 ∨ ¬ 0 < T.length := by omega
      clear hgo
      go_upto_region 9 with fail
      go_cut [60] (fun (cv : Value) (wx : World) => cv = .bool false ∧ wr = wx)
      case first =>
        by_cases k1 : (i : Int) < (pcs.length : Int)
        · by_cases k2 : (i : Int) < 1000
          · have k3 : ¬ ((0 : Int) < (T.length : Int)) := by omega
            have k4 : decide (0 < T.length) = false := decide_eq_false (by omega)
            clear h3
            go_wp2_with fail
            go_meet
            exact ⟨by first | rfl | rw [k4], rfl⟩
          · clear h3
            go_wp2_with fail
            go_meet
            exact ⟨rfl, rfl⟩
        · clear h3
          go_wp2_with fail
          go_meet
          exact ⟨rfl, rfl⟩
      case rest =>
      obtain ⟨rfl, rfl⟩ := hcut
      clear h3
      have hK := A.out.ord.hK
      obtain ⟨m, hm⟩ : ∃ z, s.ready = z := ⟨_, rfl⟩
      have hmr : m ≤ s.ready := by omega
      have RD := Lib.hid (read_at w.heap.size g G pc m pa s (T.length : Int) wr A.out.ord.ok A.out.rv A.out.Gl (by omega) (by omega))
      have HO6 := Lib.hid (ord_read A.out.ord hT hmr (read_okF A.out.ord.ok hmr))
      have HOUT := Lib.hid (ord_out A.out.ord hT hmr)
      have HOL := Lib.hid (ord_hole A.out.ord)
      have hcl6 : (cutF s.ring s.sz s.start m).length = m := cutF_len A.out.ord.ok.rl
      have hnxs : (readF s m).next = s.next := rfl
      have HNX := Lib.hid (hnxs.trans A.out.ord.nx)
      generalize cutF s.ring s.sz s.start m = out at RD HOUT hcl6
      generalize readF s m = s6 at RD HO6 HNX
      obtain ⟨K, hKe⟩ : ∃ z, R + m = z := ⟨_, rfl⟩
      rw [hm, hKe] at HOL HNX hK
      rw [hKe] at HO6 HOUT
      have HCL := Lib.hid hcl6
      have HK := Lib.hid hK
      have HKE := Lib.hid hKe
      clear hcl6 hm hmr hK hnxs hKe
      go_upto_region 26 with (first
        | (go_at_call 14; refine RD.out.mono ?_; rintro e V6 ⟨⟨xo, rfl, ox⟩, r6, g6⟩; have OX := Lib.hid ox; have R6 := Lib.hid r6; have G6 := Lib.hid g6; clear ox r6 g6)
        | fail)
      have OG := A.out.read (m := m) G6.out (by omega) (by rw [HKE.out]; exact HO6.out)
      have HOG := Lib.hid OG.1
      have Y6 := Lib.hid (bts_sts OX.out.bts)
      have hxo : xo = none → m = 0 := fun e => by rcases OX.out.2 with ⟨_, h1, h2⟩ | ⟨q, h1, _⟩; exact h2; rw [h1] at e; cases e
      have hlt6 : (T.take R).length + out.length ≤ 1000000 := by rw [HCL.out, List.length_take]; have := HK.out; have := HKE.out; omega
      have HL6 := Lib.hid hlt6
      have hB6 : w.heap.size ≤ V6.heap.size := Nat.le_trans A.out.Bl G6.out.size
      clear OG hlt6
      rw [HGT.out] at HOG HL6 HOUT
      obtain ⟨gn, hgn⟩ : ∃ z, T.take K = z := ⟨_, rfl⟩
      rw [hgn] at HOUT
      have HGN := Lib.hid hgn
      clear hgn
      go_upto_region 27 with (first
        | (at_builtin; refine wpList_append_rB (w := V6) (a := qa) (b := xo) (xs := gt) (ys := out) (cap := qc) (dap := m) (n := m) ?_ (.tmp 148) (.tmp 149) ?_ w.heap.size HCL.out.symm HOG.out Y6.out hxo ?_ ?_ HL6.out hB6 ?_; rfl; rfl; rfl; rfl; intro q7 d7 V7 o7 b7 g7 t7; rw [HOUT.out] at o7 ⊢; have A7 := Lib.hid (A.out.got2 (m := m) (by rw [HKE.out]; exact HO6.out) R6.out G6.out (by omega) (by rw [HKE.out, HGN.out]; exact o7) (by rw [HGT.out]; exact g7) t7); clear o7 b7 g7 t7)
        | fail)
      rw [HKE.out] at A7
      go_wp2_with fail
      go_loopw [23] (fun kv wr2 => ∃ k : Nat, k ≤ K ∧ kv = .int .i64 (k : Nat) ∧ V7 = wr2) (fun kv _ => K - (intOf kv).toNat)
      case atStart => exact ⟨0, by omega, rfl, rfl⟩
      case round =>
        obtain ⟨k, hk, rfl, rfl⟩ := hrel
        have hKT := HK.out
        have hcl7 := A7.out.ord.cl
        by_cases hlt : k < K
        case pos =>
          have f1 : (k : Int) < (T.length : Int) := by omega
          obtain ⟨cc, cf⟩ := A7.out.came.cellT k (by omega)
          rw [HOL.out.1 k hlt] at cc
          have Wk : IntKind.i64.wrap ((k : Int) + 1) = ((k + 1 : Nat) : Int) := by rw [IntWalk.i64_in _ ⟨by omega, by omega⟩]; omega
          clear hcl7 hKT
          go_wp2_with fail
          go_roundw
          case rel => exact ⟨k + 1, by omega, by go_num, by first | rfl | trivial⟩
          case measure => simp [intOf]; omega
        case neg =>
          obtain rfl : k = K := by omega
          clear hlt hk
          have hB7 := sts_bts (A7.out.ord_lt HX.out.1) (A7.out.got.sts encU)
          have hX7 : Bts V7 ta (T.take k) := (HX.out.below A7.out.low).take k
          have SM := Lib.hid (same_one q7 ta (T.take k) (T.take k) d7 tc V7 hB7 hX7 (by rw [List.length_take]; omega) (by rw [List.length_take]; omega) rfl)
          have htk : (T.take k).length = k := by rw [List.length_take]; omega
          have hgnl : gn.length = k := by rw [← HGN.out]; exact htk
          have sm2 := SM.out
          rw [htk] at sm2
          have SM2 := Lib.hid sm2
          have HGL := Lib.hid hgnl
          have W3 : IntKind.u32.wrap (k : Int) = (k : Int) := by rw [IntKind.wrap_u32]; omega
          obtain ⟨nx, hnx⟩ : ∃ z, (first + k) % 4294967296 = z := ⟨_, rfl⟩
          have W4 : IntKind.u32.wrap ((first : Int) + (k : Int)) = (nx : Int) := by rw [IntKind.wrap_u32]; omega
          have c1 : (k : Int) ≤ (tc : Int) := by have := HC.out; omega
          have hb7 := A7.out.rv.blk
          unfold bcs at hb7
          rw [HNX.out, hnx] at hb7
          have HB7 := Lib.hid hb7
          have HGNL := Lib.hid hgnl
          clear SM sm2 htk hb7 hnx hB7 hX7
          rcases Nat.lt_or_ge k T.length with hkT | hkT
          · have f1 : (k : Int) < (T.length : Int) := by omega
            obtain ⟨cc, cf⟩ := A7.out.came.cellT k (by omega)
            rw [HOL.out.2 hkT] at cc
            clear hcl7
            go_wp2_with (first
              | (go_at_call 16; refine SM2.out.mono ?_; rintro e V8 ⟨rfl, b8⟩; have B8 := Lib.hid b8; have HB8 := Lib.hid ((b8.block _ (blk_lt HB7.out)).trans HB7.out); clear b8)
              | (go_at_call 19; refine (next_ok g G s6.sz s6.start s6.ready nx pa s6.parts.length pc s6.count _ HB8.out).mono ?_; rintro e w' ⟨rfl, rfl⟩)
              | fail)
            go_ret
            exact ⟨rfl, A7.out.low.trans (B8.out.mono A7.out.Bl)⟩
          · have f1 : ¬ ((k : Int) < (T.length : Int)) := by omega
            clear hcl7
            go_wp2_with (first
              | (go_at_call 16; refine SM2.out.mono ?_; rintro e V8 ⟨rfl, b8⟩; have B8 := Lib.hid b8; have HB8 := Lib.hid ((b8.block _ (blk_lt HB7.out)).trans HB7.out); clear b8)
              | (go_at_call 19; refine (next_ok g G s6.sz s6.start s6.ready nx pa s6.parts.length pc s6.count _ HB8.out).mono ?_; rintro e w' ⟨rfl, rfl⟩)
              | fail)
            go_ret
            exact ⟨rfl, A7.out.low.trans (B8.out.mono A7.out.Bl)⟩
    case pos =>
      obtain ⟨k1, k2, k3⟩ := hgo
      have j1 : (i : Int) < (pcs.length : Int) := by omega
      have j2 : (i : Int) < 1000 := by omega
      have j3 : (0 : Int) < (T.length : Int) := by omega
      obtain ⟨x, hxi⟩ : ∃ x, pcs[i]? = some x := ⟨_, List.getElem?_eq_getElem k1⟩
      have hps := HP.out
      obtain ⟨pb, po, hpp, _, _⟩ := hps.weak.isSomeT (by omega)
      rw [hpp] at hps
      obtain ⟨hpb, p0, p1⟩ := piece_at hps hxi
      have hpv := hps.1 x (List.mem_of_getElem? hxi)
      subst hpp
      have hlow := A.out.low
      have m0 := (hlow.cell (p := ⟨pb, po + i * 2, none⟩) hpb).trans p0
      have m1 := (hlow.cell (p := ⟨pb, po + i * 2 + 1, none⟩) hpb).trans p1
      obtain ⟨r1, r2, xa, t1, t2, t3, t4, t5, hxa⟩ := tmod_in x.pos T.length k3 (by omega)
      obtain ⟨u1, u2, y, v1, v2, v3, v4, v5, hy⟩ := tmod_in x.n 600 (by decide) (by decide)
      replace v1 : x.n.tmod 600 = u1 := v1
      replace v3 : IntKind.i64.wrap (u1 + 600) = u2 := v3
      replace v4 : u2.tmod 600 = (y : Int) := v4
      obtain ⟨n, hnn⟩ : ∃ n, min y (T.length - xa) = n := ⟨_, rfl⟩
      have W1 : IntKind.i64.wrap ((T.length : Int) - (xa : Int)) = ((T.length - xa : Nat) : Int) := by rw [IntWalk.i64_in _ ⟨by omega, by omega⟩]; omega
      obtain ⟨lx, hlx⟩ : ∃ z, T.length - xa = z := ⟨_, rfl⟩
      rw [hlx] at W1 hnn
      have hmin : min (y : Int) (lx : Int) = (n : Int) := by omega
      have hxn : xa + n ≤ T.length := by omega
      obtain ⟨xe, hxe⟩ : ∃ z, xa + n = z := ⟨_, rfl⟩
      have W2 : IntKind.i64.wrap ((xa : Int) + (n : Int)) = (xe : Int) := by rw [IntWalk.i64_in _ ⟨by omega, by omega⟩]; omega
      have W3 : IntKind.u32.wrap (xa : Int) = (xa : Int) := by rw [IntKind.wrap_u32]; omega
      obtain ⟨sq, hsq⟩ : ∃ z, (first + xa) % 4294967296 = z := ⟨_, rfl⟩
      have W4 : IntKind.u32.wrap ((first : Int) + (xa : Int)) = (sq : Int) := by rw [IntKind.wrap_u32]; omega
      have hcT := HC.out
      have hbs := bts_sub HX.out xa n tc hcT HN.out
      obtain ⟨ta2, hta2⟩ : ∃ z, (if tc = xa then ta else Option.map (fun y : Addr => y.add xa) ta) = z := ⟨_, rfl⟩
      rw [hta2] at hbs
      have hdl : ((T.drop xa).take n).length = n := by rw [List.length_take, List.length_drop]; omega
      have hOI := ord_ins A.out.ord hT k2 hxn
      rw [hsq] at hOI
      have hsqb : sq < 4294967296 := by omega
      have IN := insert_ok w.heap.size g G pc pa s sq ta2 (tc - xa) ((T.drop xa).take n) wr A.out.ord.ok A.out.rv (hbs.1.below hlow) (by rw [hdl]; omega) hbs.2.1 hsqb A.out.Bl A.out.Gl (fun b o e hne => by have := hbs.2.2 b o e hne; exact ⟨by omega, by omega⟩)
      rw [hdl] at IN
      generalize insF s sq ((T.drop xa).take n) = J at IN hOI
      obtain ⟨s2, kk, er⟩ := J
      dsimp only at IN hOI
      obtain ⟨her, hO2⟩ := hOI
      subst her
      have HIN := Lib.hid IN
      have HO2 := Lib.hid hO2
      have hxen : xe - xa = n := by omega
      have e1 : (xa : Int) ≤ (xe : Int) := by omega
      have e2 : (xe : Int) ≤ (tc : Int) := by omega
      have HXE := Lib.hid hxe
      have HSQ := Lib.hid hsq
      have HTL := Lib.hid hxn
      have HXA := Lib.hid hxa
      clear IN hO2 hbs hdl hlow p0 p1 hxe hsq hnn hlx hcT hxi
      go_upto_region 14 with (first
        | (go_at_call 11; (with_reducible refine HIN.out.mono ?_); rintro e V4 ⟨rfl, p4, c4, r4, q4, z4⟩; have A4 := Lib.hid (A.out.ins HO2.out r4 q4 z4 (by omega) (by omega)); clear r4 q4 z4)
        | fail)
      clear m0 m1 HIN HO2
      go_upto_region 16 with (first
        | (go_at_call 9; refine (num_any _ _).mono ?_; rintro e w' ⟨rfl, rfl⟩)
        | fail)
      go_wp2_with fail
      go_loopw [18] (fun kv wr2 => ∃ j : Nat, j ≤ n ∧ kv = .int .i64 ((xa + j : Nat) : Int) ∧ OA w.heap.size g G gc T.length first T (cmF cm xa n) (cmF cm xa j) R (i + 1) s2 p4 c4 qa qc w wr2) (fun kv _ => xa + n - (intOf kv).toNat)
      case atStart => exact ⟨0, by omega, rfl, by rw [cmF_zero]; exact A4.out⟩
      case round =>
        obtain ⟨j, hj, rfl, hA⟩ := hrel
        have A5 := Lib.hid hA
        clear hA
        have hcl := A.out.ord.cl
        obtain ⟨xj, hxj⟩ : ∃ z, xa + j = z := ⟨_, rfl⟩
        rw [hxj]
        by_cases hlt : j < n
        case pos =>
          have f1 : (xj : Int) < (xe : Int) := by have := HXE.out; omega
          have hlen : (cmF cm xa j).length = T.length := by rw [cmF_len (by omega)]; exact hcl
          have hxl : xj < (cmF cm xa j).length := by rw [hlen]; omega
          obtain ⟨cc, cf⟩ := A5.out.came.cellT xj hxl
          have f2 : (xj : Int) < (T.length : Int) := by rw [hlen] at hxl; omega
          have Wj : IntKind.i64.wrap ((xj : Int) + 1) = ((xj + 1 : Nat) : Int) := by rw [IntWalk.i64_in _ ⟨by omega, by omega⟩]; omega
          have A6 := A5.out.set xj hxl (by omega)
          rw [← hxj, cmF_succ (by omega)] at A6
          rw [hxj] at A6
          have A7 := Lib.hid A6
          have hxj1 : xj + 1 = xa + (j + 1) := by omega
          have HXJ := Lib.hid hxj1
          clear A6 hlen hxl hcl hxj1
          go_wp2_with fail
          go_roundw
          case rel => exact ⟨j + 1, by omega, by first | rfl | (rw [← HXJ.out]; go_num), A7.out⟩
          case measure => simp [intOf]; omega
        case neg =>
          obtain rfl : j = n := by omega
          have f1 : ¬ ((xj : Int) < (xe : Int)) := by have := HXE.out; omega
          have Wi : IntKind.i64.wrap ((i : Int) + 1) = ((i + 1 : Nat) : Int) := by rw [IntWalk.i64_in _ ⟨by omega, by omega⟩]; omega
          clear hxj hcl
          by_cases hrd : i < rds.length
          case neg =>
            have f2 : ¬ ((i : Int) < (rds.length : Int)) := by omega
            go_wp2_with fail
            go_roundw
            case rel => exact ⟨i + 1, _, R, s2, p4, c4, qa, qc, by omega, by omega, by go_num, by rw [HGT.out], A5.out⟩
            case measure => simp [intOf]; omega
          case pos =>
            have f2 : (i : Int) < (rds.length : Int) := by omega
            obtain ⟨rb, ro, hra, hrb, hrc⟩ : ∃ b off, ra = some ⟨b, off, none⟩ ∧ b < w.heap.size ∧ ∀ i, i < rds.length → w.cell? ⟨b, off + i, none⟩ = some (.int .i64 (rds.getD i 0)) := by
              rcases HR.out.2 with h | h
              · rw [h] at hrd; simp at hrd
              · exact h
            subst hra
            have n0 := (A5.out.low.cell (p := ⟨rb, ro + i, none⟩) hrb).trans (hrc i hrd)
            generalize rds.getD i 0 = rv at n0
            obtain ⟨a1, a2, ry, s1, s3, s4, s5, s6, hry⟩ := tmod_in rv 300 (by decide) (by decide)
            replace s1 : rv.tmod 300 = a1 := s1
            replace s4 : IntKind.i64.wrap (a1 + 300) = a2 := s4
            replace s5 : a2.tmod 300 = (ry : Int) := s5
            have hK5 := A5.out.ord.hK
            obtain ⟨m, hm⟩ : ∃ z, min ry s2.ready = z := ⟨_, rfl⟩
            have hmr : m ≤ s2.ready := by omega
            have RD := Lib.hid (read_at w.heap.size g G c4 m p4 s2 (ry : Int) wr A5.out.ord.ok A5.out.rv A5.out.Gl (by omega) (by omega))
            have HO6 := Lib.hid (ord_read A5.out.ord hT hmr (read_okF A5.out.ord.ok hmr))
            have HOUT := Lib.hid (ord_out A5.out.ord hT hmr)
            have hcl6 : (cutF s2.ring s2.sz s2.start m).length = m := cutF_len A5.out.ord.ok.rl
            generalize cutF s2.ring s2.sz s2.start m = out at RD HOUT hcl6
            generalize readF s2 m = s6 at RD HO6
            have HCL := Lib.hid hcl6
            have hMR := Lib.hid hmr
            have HK5 := Lib.hid hK5
            clear hcl6 hm hmr hrc hK5
            go_upto_region 22 with (first
              | (go_at_call 14; refine RD.out.mono ?_; rintro e V6 ⟨⟨xo, rfl, ox⟩, r6, g6⟩; have OX := Lib.hid ox; have R6 := Lib.hid r6; have G6 := Lib.hid g6; clear ox r6 g6)
              | fail)
            clear n0
            have OG := A5.out.read (m := m) G6.out (by omega) HO6.out
            have HOG := Lib.hid OG.1
            have Y6 := Lib.hid (bts_sts OX.out.bts)
            have hxo : xo = none → m = 0 := fun e => by rcases OX.out.2 with ⟨_, h1, h2⟩ | ⟨q, h1, _⟩; exact h2; rw [h1] at e; cases e
            have hlt6 : (T.take R).length + out.length ≤ 1000000 := by rw [HCL.out, List.length_take]; have := HK5.out; have := hMR.out; omega
            have HL6 := Lib.hid hlt6
            have hB6 : w.heap.size ≤ V6.heap.size := Nat.le_trans A5.out.Bl G6.out.size
            clear OG hlt6
            rw [HGT.out] at HOG HL6 HOUT
            obtain ⟨gn, hgn⟩ : ∃ z, T.take (R + m) = z := ⟨_, rfl⟩
            rw [hgn] at HOUT
            have HGN := Lib.hid hgn
            clear hgn
            go_upto_region 10 with (first
              | (go_at_call 9; refine (num_any _ _).mono ?_; rintro e w' ⟨rfl, rfl⟩)
              | (at_builtin; refine wpList_append_rB (w := V6) (a := qa) (b := xo) (xs := gt) (ys := out) (cap := qc) (dap := m) (n := m) ?_ (.tmp 138) (.tmp 139) ?_ w.heap.size HCL.out.symm HOG.out Y6.out hxo ?_ ?_ HL6.out hB6 ?_; rfl; rfl; rfl; rfl; intro q7 d7 V7 o7 b7 g7 t7; rw [HOUT.out] at o7 ⊢; have A7 := Lib.hid (A5.out.got2 HO6.out R6.out G6.out (by omega) (by rw [HGN.out]; exact o7) (by rw [HGT.out]; exact g7) t7); clear o7 b7 g7 t7)
              | fail)
            go_wp2_with fail
            go_roundw
            case rel => exact ⟨i + 1, _, R + m, s6, p4, c4, q7, d7, by omega, by omega, by go_num, by rw [HGN.out], A7.out⟩
            case measure => simp [intOf]; omega

theorem own : ownKnob Try.prog.godebug = none := by kernel_rfl
theorem laidOut : laidOutB Try.prog = true := by kernel_rfl

set_option maxRecDepth 100000 in
set_option maxHeartbeats 2000000 in
theorem lifted (os : Os) (started : os.Started) (H : Type) (enc : TypeId × Value → H) :
    ReturnsInHanded {} Try.checked os 4 .any (Rows.recvbufOrderSpec.pre6 enc Try.prog Try.f4 Rows.recvbufOrderRow.domain false) (Rows.recvbufOrderSpec.post enc Try.prog Try.f4 false true false false) := by
  refine returnsInHanded_of_change_sized (C := Try.checked) own started (by kernel_rfl) Try.func4
    (ChangeSpec.witness6 (enc := enc) (C := Try.checked) false ⟨#[], #[.slice none 0 0, .int .u32 0, .slice none 0 0, .slice none 0 0], []⟩ 8 (by kernel_rfl) (by kernel_rfl) (by kernel_rfl) (by kernel_rfl)) ?_
  intro W base args ds gs before hval0 hW hcnd hsz0 _
  have hval : ∀ (j : Nat) t v, Try.f4.params[j]? = some t → args[j]? = some v → Value.okWide Try.prog W .any base t v := hval0
  have hsz : (DataW.weightsEach Try.prog (Try.f4.params.toList ++ Rows.recvbufOrderSpec.plain.varTypes Try.prog) (ds ++ gs)).all (· ≤ reachBytes) = true := hsz0
  have hW' := hW
  obtain ⟨p, q, hA0, hV, rfl, hfz, hnd⟩ := hW
  have hA : DataW.TrodAll enc Try.prog W 0 (fun _ => true) true Try.f4.params.toList args.toList ds p := hA0
  rw [Try.params4] at hA hval hsz
  obtain ⟨v0, vs0, d0, ds0, p0, q0, hargs, rfl, rfl, h0, r0⟩ := trodAll_cons hA
  obtain ⟨v1, vs1, d1, ds1, p1, q1, rfl, rfl, rfl, h1, r1⟩ := trodAll_cons r0
  obtain ⟨v2, vs2, d2, ds2, p2, q2, rfl, rfl, rfl, h2, r2⟩ := trodAll_cons r1
  obtain ⟨v3, vs3, d3, ds3, p3, q3, rfl, rfl, rfl, h3, r3⟩ := trodAll_cons r2
  obtain ⟨rfl, rfl, rfl⟩ := trodAll_nil r3
  obtain rfl : args = #[v0, v1, v2, v3] := by cases args; simp_all
  obtain ⟨rfl, rfl⟩ := trodVars_none hV
  obtain ⟨a0, len0, cap0, rfl⟩ := okWide_slice Try.underlying32 (hval 0 32 v0 rfl rfl)
  have k0 := h0
  have lt0 : ∀ x ∈ p0, x.block < W.heap.size := by obtain ⟨m, hm⟩ := k0; exact DataW.trod_lt m _ _ _ hm
  obtain ⟨a1, rfl, rfl, rfl, w1⟩ := open_int Try.underlying22 (hval 1 22 v1 rfl rfl) h1
  obtain ⟨a2, len2, cap2, rfl⟩ := okWide_slice Try.underlying58 (hval 2 58 v2 rfl rfl)
  have k2 := h2
  have lt2 : ∀ x ∈ p2, x.block < W.heap.size := by obtain ⟨m, hm⟩ := k2; exact DataW.trod_lt m _ _ _ hm
  obtain ⟨a3, len3, cap3, rfl⟩ := okWide_slice Try.underlying59 (hval 3 59 v3 rfl rfl)
  have k3 := h3
  have lt3 : ∀ x ∈ p3, x.block < W.heap.size := by obtain ⟨m, hm⟩ := k3; exact DataW.trod_lt m _ _ _ hm
  obtain ⟨xs0, hxl0, hbt0, hcap0, hlc0, hre0⟩ : ∃ xs : List Nat, xs.length = len0 ∧ Bts W a0 xs ∧ (a0 = none → cap0 = 0) ∧ (xs.length ≤ cap0 ∧ cap0 ≤ maxLen) ∧ xs.length ≤ 140737488351232 := by
    obtain ⟨fuel, hf⟩ := h0
    rcases open_ints Try.underlying32 Try.underlying5 (by kernel_rfl) hf with ⟨hcs, _⟩ | ⟨x, l, c, zs, hcs, _, hl, hm, hz, hd, hcell, hwz⟩
    · simp [Value.cells] at hcs
      obtain ⟨rfl, rfl, rfl⟩ := hcs
      exact ⟨[], rfl, ⟨(fun x h => by cases h), .inl rfl⟩, fun _ => rfl, ⟨Nat.le_refl _, Nat.zero_le _⟩, by simp⟩
    · simp [Value.cells] at hcs
      obtain ⟨rfl, rfl, rfl⟩ := hcs
      have hz' : zs.length = cap0 := by simpa using hz
      obtain ⟨xs, h1, h2⟩ := bts_of_ints hl hz' hcell hwz
      have hd' := (Prod.mk.inj hd).1
      have hw := sized_slice hsz (j := 0) (t := 32) (e := 5) rfl (by rw [hd']; rfl) Try.underlying32
      rw [bytes5] at hw
      simp only [lits, List.length_map, List.length_take, List.length_drop, reachBytes] at hw
      exact ⟨xs, h1, h2, (fun h => by cases h), ⟨by omega, hm⟩, by omega⟩
  obtain ⟨xs2, hxl2, hbt2, hcap2, hre2⟩ : ∃ xs : List Piece16, xs.length = len2 ∧ Sts 2 Piece16.cells Piece16.ok W a2 xs ∧ (a2 = none → cap2 = 0) ∧ xs.length ≤ 8796093021952 := by
    obtain ⟨fuel, hf⟩ := h2
    obtain ⟨x, rs, c, hv, hs, hnc, hlc, hq⟩ := open_Piece16s (c := .slice a2 len2 cap2) hf
    simp only [Value.slice.injEq] at hv
    obtain ⟨rfl, rfl, rfl⟩ := hv
    have hw := sts_reach Try.underlying58 hq (fun n hn => by simpa using List.all_eq_true.1 hsz _ (DataW.weights_mem_each (j := 2) (t := 58) rfl rfl n hn))
    rw [show Try.prog.bytesOf 62 = 16 from by kernel_rfl] at hw
    simp only [reachBytes] at hw
    exact ⟨rs, rfl, hs, hnc, by omega⟩
  obtain ⟨xs3, hxl3, hbt3, hcap3, hre3⟩ : ∃ xs : List Int, xs.length = len3 ∧ Its W a3 xs ∧ (a3 = none → cap3 = 0) ∧ xs.length ≤ 17592186043904 := by
    obtain ⟨fuel, hf⟩ := h3
    rcases open_ints Try.underlying59 Try.underlying3 (by kernel_rfl) hf with ⟨hcs, _⟩ | ⟨x, l, c, zs, hcs, _, hl, hm, hz, hd, hcell, hwz⟩
    · simp [Value.cells] at hcs
      obtain ⟨rfl, rfl, rfl⟩ := hcs
      exact ⟨[], rfl, ⟨(fun x h => by cases h), .inl rfl⟩, fun _ => rfl, by simp⟩
    · simp [Value.cells] at hcs
      obtain ⟨rfl, rfl, rfl⟩ := hcs
      have hz' : zs.length = cap3 := by simpa using hz
      obtain ⟨xs, h1, h2⟩ := its_of_ints hl hz' hcell hwz
      have hd' := (Prod.mk.inj hd).1
      have hw := sized_slice hsz (j := 3) (t := 59) (e := 3) rfl (by rw [hd']; rfl) Try.underlying59
      rw [bytes8] at hw
      simp only [lits, List.length_map, List.length_take, List.length_drop, reachBytes] at hw
      exact ⟨xs, h1, h2, (fun h => by cases h), by omega⟩
  clear hA0 hval0 hsz hsz0
  subst hxl0
  obtain ⟨n1, rfl, hn1⟩ := nat_of_u32 w1
  subst hxl2
  subst hxl3
  refine (walk a0 xs0 cap0 n1 a2 xs2 cap2 a3 xs3 cap3 W hbt0 hcap0 hlc0 hre0 hn1 hbt2 hcap2 hre2 hbt3 hcap3 hre3).mono fun e W' ⟨he, bel⟩ => ?_
  subst he
  exact ⟨_, rfl, _, _, _, [], _, [], hW', trodAll_mk1 (shut_bool Try.underlying4 _), (trodAll_cons_mk (Below.trod laidOut (by kernel_rfl) (of_decide_eq_true (by kernel_rfl)) k0 bel lt0) (trodAll_cons_mk (shut_int Try.underlying22 w1) (trodAll_cons_mk (Below.trod laidOut (by kernel_rfl) (of_decide_eq_true (by kernel_rfl)) k2 bel lt2) (trodAll_cons_mk (Below.trod laidOut (by kernel_rfl) (of_decide_eq_true (by kernel_rfl)) k3 bel lt3) trodAll_mk0)))), rfl, bel.frame _, fun h => by cases h⟩

theorem over : Rows.recvbufOrderRow.holds Try.pinned (OpenSpec.ofChange Rows.recvbufOrderSpec) :=
  OpenClaim.holds_of_wide 4 Try.f4 rfl rfl rfl rfl rfl rfl rfl ⟨rfl, rfl, rfl, rfl, rfl⟩ rfl rfl rfl rfl rfl (by kernel_rfl) Try.func4 (by kernel_rfl)
    (of_decide_eq_true (by kernel_rfl)) (by unfold Func.isWrapper; first | (rw [if_pos (by decide +kernel)]; kernel_rfl) | (rw [if_neg (by decide +kernel)]; exact ⟨rfl, rfl⟩))
    (fun os started H enc _ => lifted os started H enc)

end Go.Proofs.Ytknebjfdggimcaa.recvbufOrder
namespace Go.Proofs.Ytknebjfdggimcaa
/-- The statement. -/
theorem recvbufOrder_holds : Rows.RecvbufOrderSaid := recvbufOrder.over
#print axioms recvbufOrder_holds
end Go.Proofs.Ytknebjfdggimcaa
