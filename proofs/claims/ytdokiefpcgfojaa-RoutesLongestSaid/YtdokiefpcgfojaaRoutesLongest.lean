/- For every list of routes and every address: where the address goes is by the one route that has the most of its bits, in whatever order the routes came. No condition. -/
import Derived.Test.YtdokiefpcgfojaaRows
import Derived.Test.YtdokiefpcgfojaaAlive10
import Derived.ProofKit
import Derived.OpenShut
import Derived.ChangeOld
import Derived.SizedLaws
namespace Go.Proofs.Ytdokiefpcgfojaa.routesLongest
open Go.ChangeShapes Go.WideShapes Go.ChangeAt Go.RowKit Go.Deep Go.Proofs.Ytdokiefpcgfojaa.law10 Go.Proofs.Ytdokiefpcgfojaa.Rt

theorem law_mask (ip b : Nat) (hip : ip < 4294967296) (hb : b ≤ 32) : bits .and .u64 (ip : Int) (IntKind.u64.wrap (4294967296 - IntKind.u64.wrap (2 ^ (32 - b)))) = ((pre ip b : Nat) : Int) := by
  have hp := pow_le32 (32 - b) (by omega)
  have e1 : ((2 : Int) ^ (32 - b)) = ((2 ^ (32 - b) : Nat) : Int) := by simp
  have e2 : IntKind.u64.wrap ((2 : Int) ^ (32 - b)) = ((2 ^ (32 - b) : Nat) : Int) := by rw [e1]; simp only [IntKind.wrap, IntKind.bits, IntKind.signed]; simp; omega
  have e3 : IntKind.u64.wrap (4294967296 - ((2 ^ (32 - b) : Nat) : Int)) = ((4294967296 - 2 ^ (32 - b) : Nat) : Int) := by simp only [IntKind.wrap, IntKind.bits, IntKind.signed]; simp; omega
  rw [e2, e3, u64_and_nat ip _ (by omega) (by omega)]
  congr 1
  exact and_pre ip (32 - b) hip (by omega)

theorem take0 {L : List Route10} {ip : Nat} {bz : Int} {wy : Nat} {an : Bool} {net b gw : Nat} (h : Best L ip bz wy an) (h1 : ((pre ip b : Nat) : Int) = (net : Int)) (h2 : bz < (b : Int)) (h3 : ((gw : Int) == 0) = true) : Best (L ++ [⟨net, b, gw⟩]) ip (b : Int) ip true := by
  have e : gw = 0 := by have := eq_of_beq h3; omega
  have := best_take h ⟨net, b, gw⟩ (by dsimp only; rw [show (b : Int).toNat = b by omega]; omega) h2
  rw [if_pos e] at this
  exact this
theorem takeN {L : List Route10} {ip : Nat} {bz : Int} {wy : Nat} {an : Bool} {net b gw : Nat} (h : Best L ip bz wy an) (h1 : ((pre ip b : Nat) : Int) = (net : Int)) (h2 : bz < (b : Int)) (h3 : ((gw : Int) == 0) = false) : Best (L ++ [⟨net, b, gw⟩]) ip (b : Int) gw true := by
  have e : gw ≠ 0 := by have := beq_eq_false_iff_ne.1 h3; omega
  have := best_take h ⟨net, b, gw⟩ (by dsimp only; rw [show (b : Int).toNat = b by omega]; omega) h2
  rw [if_neg e] at this
  exact this
theorem skip1 {L : List Route10} {ip : Nat} {bz : Int} {wy : Nat} {an : Bool} {net b gw : Nat} (h : Best L ip bz wy an) (h2 : (b : Int) ≤ bz) : Best (L ++ [⟨net, b, gw⟩]) ip bz wy an :=
  best_skip h ⟨net, b, gw⟩ (by dsimp only; omega) (by dsimp only; omega)
theorem skip2 {L : List Route10} {ip : Nat} {bz : Int} {wy : Nat} {an : Bool} {net b gw : Nat} (h : Best L ip bz wy an) (h1 : ¬ ((pre ip b : Nat) : Int) = (net : Int)) : Best (L ++ [⟨net, b, gw⟩]) ip bz wy an :=
  best_skip h ⟨net, b, gw⟩ (by dsimp only; omega) (by dsimp only; rw [show (b : Int).toNat = b by omega]; omega)

set_option maxRecDepth 100000 in
set_option maxHeartbeats 4000000 in
theorem walk (a : Option Addr) (rs : List Route10) (cap ip : Nat) (w : World) (hx : Sts 3 Route10.cells Route10.ok w a rs) (hre : rs.length ≤ 5864062014634) (hip : ip < 4294967296) :
    Calls Try.prog 4 #[.slice a rs.length cap, .int .u32 (ip : Nat)] w fun e w' => e = .returned (.bool true) ∧ Below w.heap.size w w' := by
  have HX := Lib.hid hx
  clear hx
  have hl1 : rs.length ≤ 9223372036854775807 := by omega
  go_enter Try.func4, Try.ntmps4
  go_wp2_with fail
  refine (alive_any _).mono ?_
  rintro e W1 ⟨rfl, b⟩
  have B1 := Lib.hid b
  clear b
  go_wp2_with fail
  refine (newTable_any _).mono ?_
  rintro e W2 ⟨g, gm, rfl, hg, hgm, T, b⟩
  have T2 := Lib.hid T
  have hs1 := B1.out.size
  have B2 := Lib.hid (B1.out.trans (b.mono B1.out.size))
  have HG : Hid (w.heap.size ≤ g) := Lib.hid (by omega)
  have HM : Hid (w.heap.size ≤ gm) := Lib.hid (by omega)
  clear T b hg hgm B1 hs1
  go_wp2
  go_loopw [6, 7, 8, 9] (fun best way any i wr => ∃ (k : Nat) (L : List Route10) (bz : Int) (wy : Nat) (an : Bool), k ≤ rs.length ∧ i = .int .i64 k ∧ best = .int .i64 bz ∧ way = .int .u32 (wy : Nat) ∧ any = .bool an ∧ Best L ip bz wy an ∧ TabAt wr g gm L ∧ Below w.heap.size w wr) (fun _ _ _ i _ => rs.length - (intOf i).toNat)
  case atStart => exact ⟨0, [], -1, 0, false, by omega, rfl, rfl, rfl, rfl, best_nil ip, T2.out, B2.out⟩
  case round =>
    obtain ⟨k, L, bz, wy, an, hk, rfl, rfl, rfl, rfl, hbest, hT, hB⟩ := hrel
    have HT := Lib.hid hT
    have HB := Lib.hid hB
    have HBest := Lib.hid hbest
    have hbb := best_bounds hT.2.1 hbest
    clear hT hB hbest T2 B2
    by_cases hlt : k < rs.length
    · obtain ⟨hok, bl, off, rfl, hbl, hc⟩ := HX.out.at (List.getElem?_eq_getElem hlt)
      have hg0 := HB.out.size
      obtain ⟨wo, rfl⟩ : ∃ wo : World, wo = wr := ⟨_, rfl⟩
      have c0 : wo.cell? ⟨bl, off + k * 3, none⟩ = _ := (HB.out.cell (p := ⟨bl, off + k * 3, none⟩) hbl).trans (hc 0 _ rfl)
      have c1 := (HB.out.cell (p := ⟨bl, off + k * 3 + 1, none⟩) hbl).trans (hc 1 _ rfl)
      have c2 := (HB.out.cell (p := ⟨bl, off + k * 3 + 2, none⟩) hbl).trans (hc 2 _ rfl)
      have HC := Lib.hid hc
      clear hc
      generalize rs[k] = r at hok c0 c1 c2 HC
      obtain ⟨hr1, hr2, hr3⟩ := hok
      have i1 : (k : Int) < (rs.length : Int) := by omega
      obtain ⟨EN, hEN⟩ : ∃ EN, addE L r = EN := ⟨_, rfl⟩
      by_cases h0 : EN = 0
      · subst h0
        obtain ⟨⟨hb1, hb2⟩, hpre, hlk, hll⟩ := addE_zero.1 hEN
        have HEN := Lib.hid hEN
        clear hEN
        obtain ⟨net, bits, gw⟩ := r
        dsimp only at *
        obtain ⟨b, rfl⟩ : ∃ b : Nat, bits = b := ⟨bits.toNat, by omega⟩
        have hb3 : b ≤ 32 := by omega
        have HPRE : Hid (pre net b = net) := Lib.hid hpre
        have HLK := Lib.hid hlk
        clear hpre hlk
        go_wp2_with fail
        refine (add_any _ g gm L ⟨net, b, gw⟩ HT.out hr1 hr3).mono ?_
        rintro e W3 ⟨rfl, T, G⟩
        have T3 := Lib.hid T
        have B3 := Lib.hid (HB.out.grown G HB.out.size (fun k e => by cases e; exact HM.out))
        have d0 : W3.cell? ⟨bl, off + k * 3, none⟩ = _ := (B3.out.cell (p := ⟨bl, off + k * 3, none⟩) hbl).trans (HC.out 0 _ rfl)
        have d1 := (B3.out.cell (p := ⟨bl, off + k * 3 + 1, none⟩) hbl).trans (HC.out 1 _ rfl)
        have d2 := (B3.out.cell (p := ⟨bl, off + k * 3 + 2, none⟩) hbl).trans (HC.out 2 _ rfl)
        clear T G c0 c1 c2 HC HT
        rw [HEN.out]
        go_wp2_with fail
        refine (num_any _ _).mono ?_
        rintro e w' ⟨rfl, rfl⟩
        have em := law_mask ip b hip hb3
        have TL : Hid (TabAt W3 g gm (L ++ [⟨net, b, gw⟩])) := Lib.hid (by have := T3.out; rw [addL, if_pos HEN.out] at this; exact this)
        clear T3
        go_wp2_with fail
        all_goals
          go_roundw
          case rel =>
            first
            | (have h1 : ((pre ip b : Nat) : Int) = (net : Int) := by assumption
               have h2 : bz < (b : Int) := by assumption
               have h3 : ((gw : Int) == 0) = true := by assumption
               exact ⟨k + 1, _, _, ip, true, by omega, by go_num, rfl, rfl, rfl, take0 HBest.out h1 h2 h3, TL.out, B3.out⟩)
            | (have h1 : ((pre ip b : Nat) : Int) = (net : Int) := by assumption
               have h2 : bz < (b : Int) := by assumption
               have h3 : ((gw : Int) == 0) = false := by assumption
               exact ⟨k + 1, _, _, gw, true, by omega, by go_num, rfl, rfl, rfl, takeN HBest.out h1 h2 h3, TL.out, B3.out⟩)
            | (have h2 : (b : Int) ≤ bz := by assumption
               exact ⟨k + 1, _, bz, wy, an, by omega, by go_num, rfl, rfl, rfl, skip1 HBest.out h2, TL.out, B3.out⟩)
            | (have h1 : ¬ ((pre ip b : Nat) : Int) = (net : Int) := by assumption
               exact ⟨k + 1, _, bz, wy, an, by omega, by go_num, rfl, rfl, rfl, skip2 HBest.out h1, TL.out, B3.out⟩)
          case measure => simp [intOf]; omega
      · have i2 : ((EN : Int) != 0) = true := by rw [bne_iff_ne]; omega
        have HEN := Lib.hid hEN
        have H0 := Lib.hid h0
        clear hEN h0
        go_wp2_with fail
        refine (add_any _ g gm L r HT.out hr1 hr3).mono ?_
        rintro e W3 ⟨rfl, T, G⟩
        have T3 : Hid (TabAt W3 g gm L) := Lib.hid (by have := T; rw [addL, if_neg (by rw [HEN.out]; exact H0.out)] at this; exact this)
        have B3 := Lib.hid (HB.out.grown G HB.out.size (fun k e => by cases e; exact HM.out))
        clear T G c0 c1 c2 HC HT
        rw [HEN.out]
        go_wp2_with fail
        refine (num_any _ _).mono ?_
        rintro e w' ⟨rfl, rfl⟩
        go_wp2_with fail
        go_roundw
        case rel => exact ⟨k + 1, L, bz, wy, an, by omega, by go_num, rfl, rfl, rfl, HBest.out, T3.out, B3.out⟩
        case measure => simp [intOf]; omega
    · obtain rfl : k = rs.length := by omega
      have hbn := best_next HT.out.2.1 HBest.out
      obtain ⟨wa, hwa⟩ : ∃ wa, wayOf ip (nextAt L ip 33) = wa := ⟨_, rfl⟩
      obtain ⟨er, her⟩ : ∃ er, errOf (nextAt L ip 33) = er := ⟨_, rfl⟩
      rw [hwa, her] at hbn
      have HWA := Lib.hid hwa
      have HER := Lib.hid her
      clear hwa her
      go_wp2_with fail
      refine (next_any _ g gm L ip HT.out hip).mono ?_
      rintro e W3 ⟨rfl, b3⟩
      have B3 := Lib.hid (HB.out.trans (b3.mono HB.out.size))
      clear b3
      rw [HWA.out, HER.out]
      rcases hbn with ⟨rfl, rfl, rfl⟩ | ⟨rfl, rfl, rfl⟩
      all_goals
        go_wp2_with fail
        refine (num_any _ _).mono ?_
        rintro e w' ⟨rfl, rfl⟩
        go_wp2_with fail
        go_ret
        exact ⟨rfl, B3.out⟩

theorem own : ownKnob Try.prog.godebug = none := by kernel_rfl
theorem laidOut : laidOutB Try.prog = true := by kernel_rfl

set_option maxRecDepth 100000 in
set_option maxHeartbeats 2000000 in
theorem lifted (os : Os) (started : os.Started) (H : Type) (enc : TypeId × Value → H) :
    ReturnsInHanded {} Try.checked os 4 .any (Rows.routesLongestSpec.pre6 enc Try.prog Try.f4 Rows.routesLongestRow.domain false) (Rows.routesLongestSpec.post enc Try.prog Try.f4 false true false false) := by
  refine returnsInHanded_of_change_sized (C := Try.checked) own started (by kernel_rfl) Try.func4
    (ChangeSpec.witness6 (enc := enc) (C := Try.checked) false ⟨#[], #[.slice none 0 0, .int .u32 0], []⟩ 8 (by kernel_rfl) (by kernel_rfl) (by kernel_rfl) (by kernel_rfl)) ?_
  intro W base args ds gs before hval0 hW hcnd hsz0 _
  have hval : ∀ (j : Nat) t v, Try.f4.params[j]? = some t → args[j]? = some v → Value.okWide Try.prog W .any base t v := hval0
  have hsz : (DataW.weightsEach Try.prog (Try.f4.params.toList ++ Rows.routesLongestSpec.plain.varTypes Try.prog) (ds ++ gs)).all (· ≤ reachBytes) = true := hsz0
  have hW' := hW
  obtain ⟨p, q, hA0, hV, rfl, hfz, hnd⟩ := hW
  have hA : DataW.TrodAll enc Try.prog W 0 (fun _ => true) true Try.f4.params.toList args.toList ds p := hA0
  rw [Try.params4] at hA hval hsz
  obtain ⟨v0, vs0, d0, ds0, p0, q0, hargs, rfl, rfl, h0, r0⟩ := trodAll_cons hA
  obtain ⟨v1, vs1, d1, ds1, p1, q1, rfl, rfl, rfl, h1, r1⟩ := trodAll_cons r0
  obtain ⟨rfl, rfl, rfl⟩ := trodAll_nil r1
  obtain rfl : args = #[v0, v1] := by cases args; simp_all
  obtain ⟨rfl, rfl⟩ := trodVars_none hV
  obtain ⟨a0, len0, cap0, rfl⟩ := okWide_slice Try.underlying26 (hval 0 26 v0 rfl rfl)
  have k0 := h0
  have lt0 : ∀ x ∈ p0, x.block < W.heap.size := by obtain ⟨m, hm⟩ := k0; exact DataW.trod_lt m _ _ _ hm
  obtain ⟨a1, rfl, rfl, rfl, w1⟩ := open_int Try.underlying29 (hval 1 29 v1 rfl rfl) h1
  obtain ⟨xs0, hxl0, hbt0, hre0⟩ : ∃ xs : List Route10, xs.length = len0 ∧ Sts 3 Route10.cells Route10.ok W a0 xs ∧ xs.length ≤ 5864062014634 := by
    obtain ⟨fuel, hf⟩ := h0
    obtain ⟨x, rs, c, hv, hs, _, _, hq⟩ := open_Route10s (c := .slice a0 len0 cap0) hf
    simp only [Value.slice.injEq] at hv
    obtain ⟨rfl, rfl, rfl⟩ := hv
    have hw := sts_reach Try.underlying26 hq (fun n hn => by simpa using List.all_eq_true.1 hsz _ (DataW.weights_mem_each (j := 0) (t := 26) rfl rfl n hn))
    rw [show Try.prog.bytesOf 31 = 24 from by kernel_rfl] at hw
    simp only [reachBytes] at hw
    exact ⟨rs, rfl, hs, by omega⟩
  clear hA0 hval0 hsz hsz0
  subst hxl0
  obtain ⟨n1, rfl, hn1⟩ := nat_of_u32 w1
  refine (walk a0 xs0 cap0 n1 W hbt0 hre0 hn1).mono fun e W' ⟨he, bel⟩ => ?_
  subst he
  exact ⟨_, rfl, _, _, _, [], _, [], hW', trodAll_mk1 (shut_bool Try.underlying4 _), (trodAll_cons_mk (Below.trod laidOut (by kernel_rfl) (of_decide_eq_true (by kernel_rfl)) k0 bel lt0) (trodAll_cons_mk (shut_int Try.underlying29 w1) trodAll_mk0)), rfl, bel.frame _, fun h => by cases h⟩

theorem over : Rows.routesLongestRow.holds Try.pinned (OpenSpec.ofChange Rows.routesLongestSpec) :=
  OpenClaim.holds_of_wide 4 Try.f4 rfl rfl rfl rfl rfl rfl rfl ⟨rfl, rfl, rfl, rfl, rfl⟩ rfl rfl rfl rfl rfl (by kernel_rfl) Try.func4 (by kernel_rfl)
    (of_decide_eq_true (by kernel_rfl)) (by unfold Func.isWrapper; first | (rw [if_pos (by decide +kernel)]; kernel_rfl) | (rw [if_neg (by decide +kernel)]; exact ⟨rfl, rfl⟩))
    (fun os started H enc _ => lifted os started H enc)

end Go.Proofs.Ytdokiefpcgfojaa.routesLongest
namespace Go.Proofs.Ytdokiefpcgfojaa
/-- The statement. -/
theorem routesLongest_holds : Rows.RoutesLongestSaid := routesLongest.over
#print axioms routesLongest_holds
end Go.Proofs.Ytdokiefpcgfojaa
