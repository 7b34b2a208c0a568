/- For every state, segment's size and flag: what is sent next is the first that neither came nor is in the air. No condition. -/
import Derived.Test.YtcachmjcninkbaaRows
import Derived.Test.YtcachmjcninkbaaScX
import Derived.Test.YtcachmjcninkbaaGAgg
import Derived.Deep.DeepCutAuto
import Derived.RegionTactic
import Derived.Deep.RegionHeld3
import Derived.BigQuiet
import Derived.ProofKit
import Derived.OpenShut
import Derived.ChangeOld
import Derived.SizedLaws
namespace Go.Proofs.Ytcachmjcninkbaa.scoreboardNext
open Go.ChangeShapes Go.WideShapes Go.ChangeAt Go.RowKit Go.Deep Go.Proofs.Ytcachmjcninkbaa

theorem not_passed {mss : Int} {hi : Nat} {rs : Bool} {e : Nat} {l : List (Nat × Nat)} {hs : List Hole} {h : Hole} (N : NextIs mss hi rs e l hs h) : ¬ passed mss rs l hs (max h.l hi) := by
  intro hp
  rcases hp with hp | ⟨h1, h2⟩
  · rw [N.free] at hp; cases hp
  · unfold lsB at h2
    rw [N.is] at h2
    have h3 : lostB mss h = false := h2
    rcases N.may with h4 | h4
    · rw [h1] at h4; cases h4
    · rw [h3] at h4; cases h4
set_option maxRecDepth 100000 in
set_option maxHeartbeats 4000000 in
theorem walk (una nxt high : Nat) (a : Option Addr) (bs : List (Nat × Nat)) (c : Nat) (mss : Int) (rs : Bool) (w : World) (hu : una < 4294967296) (_hx : nxt < 4294967296) (_hh : high < 4294967296) (hbk : Blk w a bs) (hn : a = none → c = 0) (_hlc : bs.length ≤ c ∧ c ≤ maxLen) (hl : bs.length ≤ 17592186043904) (_mss_l : -9223372036854775808 ≤ mss) (_mss_h : mss ≤ 9223372036854775807) :
    Calls Try.prog 8 #[.agg #[.int .u32 (una : Nat), .int .u32 (nxt : Nat), .int .u32 (high : Nat), .slice a bs.length c], .int .i64 mss, .bool rs] w fun e w' => e = .returned (.bool true) ∧ Below w.heap.size w w' := by
  have HL := Lib.hid (blk_sts hbk)
  have HN := Lib.hid hn
  have hun := pl_wrap (x := nxt) hu
  have hhn := pl_wrap (x := high) hu
  have hpl := pl_lt una nxt
  have hpl2 := pl_lt una high
  have HLO := Lib.hid (fun a' c' y V (h : Sts 2 BC Tr V a' bs) hck hy => lost_ok una nxt high a' bs c' mss y V hu h (by omega) hck hy)
  have HIN := Lib.hid (fun a' c' y z V (h : Sts 2 BC Tr V a' bs) hlen => inside_any una nxt high a' bs c' y z V hu h hlen)
  have HNX := Lib.hid (fun a' c' V (h : Sts 2 BC Tr V a' bs) => next_any una nxt high a' bs c' mss rs V hu h (by omega))
  unfold nxE at HNX
  obtain ⟨E, hE⟩ : ∃ E, ckE una nxt high bs mss = E := ⟨_, rfl⟩
  obtain ⟨no, hno⟩ : ∃ z, nxO una nxt high bs mss rs = z := ⟨_, rfl⟩
  rw [hE, hno] at HNX
  rw [hE] at HLO
  have HE := Lib.hid hE
  have HNO := Lib.hid hno
  obtain ⟨st, hst⟩ : ∃ z, pl una nxt = z := ⟨_, rfl⟩
  obtain ⟨hi, hhi⟩ : ∃ z, pl una high = z := ⟨_, rfl⟩
  obtain ⟨sp, hsp⟩ : ∃ z, sps una bs = z := ⟨_, rfl⟩
  have hsl : sp.length = bs.length := by rw [← hsp, sps_len]
  rw [hst, hsp] at HLO
  rw [hsp] at HIN
  rw [hst] at hun hpl
  rw [hhi] at hhn hpl2
  have hun2 := u32_i64 hpl
  have hhn2 := u32_i64 hpl2
  have HST := Lib.hid hst
  have HHI := Lib.hid hhi
  have HSP := Lib.hid hsp
  have HSL := Lib.hid hsl
  clear hbk hn hst hhi hsp hsl hE hno
  go_enter Try.func8, Try.ntmps8
  go_upto_region 1 with fail
  have S0 := Lib.hid (blk_new w (.cells #[.int .u32 (una : Nat), .int .u32 (nxt : Nat), .int .u32 (high : Nat), .slice a bs.length c] 25))
  have Q0 := Lib.hid ((Below.refl w.heap.size w).alloc (Nat.le_refl _) (.cells #[.int .u32 (una : Nat), .int .u32 (nxt : Nat), .int .u32 (high : Nat), .slice a bs.length c] 25))
  generalize w.alloc (.cells #[.int .u32 (una : Nat), .int .u32 (nxt : Nat), .int .u32 (high : Nat), .slice a bs.length c] 25) = V0 at S0 Q0 ⊢
  go_wp2_with fail
  refine (alive_any V0).mono ?_
  rintro e V1 ⟨rfl, hB⟩
  have S1 := Lib.hid ((hB.block _ (blk_lt S0.out)).trans S0.out)
  have Q1 := Lib.hid (Q0.out.trans (hB.mono Q0.out.size))
  clear hB
  have c0 := blk_cell S1.out 0
  have c1 := blk_cell S1.out 1
  have c2 := blk_cell S1.out 2
  have c3 := blk_cell S1.out 3
  go_wp2_with fail
  refine (given_any una nxt high a bs c V1 (Sts.belowT HL.out Q1.out) HN.out hl).mono ?_
  rintro e V2 ⟨⟨a', c', rfl, hO⟩, hB⟩
  have hb3 := (Below.refl V2.heap.size V2).alloc (Nat.le_refl _) (.cells #[.int .u32 (una : Nat), .int .u32 (nxt : Nat), .int .u32 (high : Nat), .slice a' bs.length c'] 26)
  have S2 := Lib.hid ((hb3.block _ (Nat.lt_of_lt_of_le (blk_lt S1.out) hB.size)).trans ((hB.block _ (blk_lt S1.out)).trans S1.out))
  have X2 := Lib.hid (blk_new V2 (.cells #[.int .u32 (una : Nat), .int .u32 (nxt : Nat), .int .u32 (high : Nat), .slice a' bs.length c'] 26))
  have L2 := Lib.hid (Sts.belowT (hO.sts encB) hb3)
  have Q2 := Lib.hid ((Q1.out.trans (hB.mono Q1.out.size)).trans (hb3.mono (Nat.le_trans Q1.out.size hB.size)))
  clear hB hO hb3 c0 c1 c2 c3
  go_upto_region 4 with fail
  obtain ⟨gx, hgx⟩ : ∃ q, V2.heap.size = q := ⟨_, rfl⟩
  generalize V2.alloc (.cells #[.int .u32 (una : Nat), .int .u32 (nxt : Nat), .int .u32 (high : Nat), .slice a' bs.length c'] 26) = V3 at S2 X2 L2 Q2 ⊢
  rw [hgx] at X2 ⊢
  clear hgx
  have x0 := blk_cell X2.out 0
  have x1 := blk_cell X2.out 1
  have x2 := blk_cell X2.out 2
  have x3 := blk_cell X2.out 3
  go_wp2_with fail
  refine (HNX.out a' c' V3 L2.out).mono ?_
  rintro e V4 ⟨rfl, hB⟩
  have S4 := Lib.hid ((hB.block _ (blk_lt S2.out)).trans S2.out)
  have X4 := Lib.hid ((hB.block _ (blk_lt X2.out)).trans X2.out)
  have L4 := Lib.hid (Sts.belowT L2.out hB)
  have Q4 := Lib.hid (Q2.out.trans (hB.mono Q2.out.size))
  clear hB x0 x1 x2 x3
  by_cases h0 : E = 0
  case neg =>
    have hnn : no = none := by rw [← HNO.out]; unfold nxO; rw [HE.out, if_neg h0]
    subst hnn
    unfold nxB
    dsimp only
    have B5 := Lib.hid (blk_new V4 (.cells #[.int .u32 0, .int .u32 0] 38))
    have Q5 := Lib.hid (Q4.out.alloc Q4.out.size (.cells #[.int .u32 0, .int .u32 0] 38))
    go_upto_region 5 with fail
    generalize V4.alloc (.cells #[.int .u32 0, .int .u32 0] 38) = V5 at B5 Q5 ⊢
    have b0 := blk_cell B5.out 0
    have b1 := blk_cell B5.out 1
    go_wp2_with fail
    refine (num_any _ _).mono ?_
    rintro e w' ⟨rfl, rfl⟩
    go_wp2_with fail
    refine (num_any _ _).mono ?_
    rintro e w' ⟨rfl, rfl⟩
    go_wp2
    go_ret
    exact ⟨rfl, Q5.out⟩
  case pos =>
  subst h0
  obtain ⟨hok, hm1, hm2⟩ := ck_ok HE.out
  obtain ⟨k1, k2, k3, k4⟩ := okS_iff.1 hok
  rw [HST.out, HSP.out] at k4
  rw [HST.out] at k1 k2
  rw [HHI.out] at k2
  obtain ⟨hs, hhs⟩ : ∃ z, hol st 0 sp = z := ⟨_, rfl⟩
  rw [hhs] at HLO
  have hA := next_is mss hi rs sp 0 k4
  rw [hhs] at hA
  obtain ⟨fo, hfo⟩ : ∃ z, hs.find? (nextF mss hi rs) = z := ⟨_, rfl⟩
  have hnf : no = fo.map fun h => (max h.l hi, min (max h.l hi + mss.toNat) h.r) := by rw [← HNO.out]; unfold nxO; rw [HE.out, if_pos rfl, HST.out, HSP.out, HHI.out, hhs, hfo]
  rw [hfo] at hA
  have hll := lastL_le k4
  obtain ⟨lst, hlst⟩ : ∃ z, lastL sp = z := ⟨_, rfl⟩
  have HLST := Lib.hid hlst
  rw [hlst] at hll
  have HLO2 := Lib.hid (fun a' c' y V (h : Sts 2 BC Tr V a' bs) hy => HLO.out a' c' y V h rfl hy)
  have HHB := Lib.hid (hol_ok sp 0 k4 (Nat.zero_le _) (by rw [HSL.out]; exact k3))
  rw [hhs] at HHB
  have HFO := Lib.hid hfo
  clear hok k4 hhs hfo hlst HLO HNO HNX HN
  cases fo with
  | none =>
    have HPA := Lib.hid (hA.1 rfl)
    simp only [Option.map_none] at hnf
    subst hnf
    clear hA
    unfold nxB
    dsimp only
    have hb5 := (Below.refl V4.heap.size V4).alloc (Nat.le_refl _) (.cells #[.int .u32 0, .int .u32 0] 38)
    have S5 := Lib.hid ((hb5.block _ (blk_lt S4.out)).trans S4.out)
    have X5 := Lib.hid ((hb5.block _ (blk_lt X4.out)).trans X4.out)
    have B5 := Lib.hid (blk_new V4 (.cells #[.int .u32 0, .int .u32 0] 38))
    have L5 := Lib.hid (Sts.belowT L4.out hb5)
    have Q5 := Lib.hid (Q4.out.trans (hb5.mono Q4.out.size))
    clear hb5 S4 X4 L4 Q4
    go_upto_region 5 with fail
    obtain ⟨gb, hgb⟩ : ∃ q, V4.heap.size = q := ⟨_, rfl⟩
    generalize V4.alloc (.cells #[.int .u32 0, .int .u32 0] 38) = V5 at S5 X5 B5 L5 Q5 ⊢
    rw [hgb] at B5 ⊢
    clear hgb
    have s0 := blk_cell S5.out 0
    have s1 := blk_cell S5.out 1
    have s2 := blk_cell S5.out 2
    have s3 := blk_cell S5.out 3
    by_cases h3 : 3000 < st
    case pos =>
      have k3' : (3000 : Int) < (st : Int) := by omega
      go_wp2_with fail
      refine (num_any _ _).mono ?_
      rintro e w' ⟨rfl, rfl⟩
      go_wp2_with fail
      refine (num_any _ _).mono ?_
      rintro e w' ⟨rfl, rfl⟩
      go_wp2
      go_ret
      exact ⟨rfl, Q5.out⟩
    case neg =>
    have k3' : ¬ ((3000 : Int) < (st : Int)) := by omega
    go_wp2_with fail
    refine (num_any _ _).mono ?_
    rintro e w' ⟨rfl, rfl⟩
    go_upto_if 56 with fail
    go_cut [11] (fun (lv : Value) (wx : World) => lv = .int .i64 (lst : Nat) ∧ ∃ n, wx = V5.drewN n)
    case first =>
      by_cases hb0 : 0 < bs.length
      case pos =>
        have d1 : (0 : Int) < (bs.length : Int) := by omega
        obtain ⟨nl, hnl⟩ : ∃ z, bs.length - 1 = z := ⟨_, rfl⟩
        have hnl2 : nl < bs.length := by omega
        obtain ⟨y, hy⟩ : ∃ y, bs[nl]? = some y := ⟨_, List.getElem?_eq_getElem hnl2⟩
        have hlast : pl una y.1 = lst := by
          have h9 := lastL_get sp (pl una y.1, pl una y.2) (by rw [HSL.out, hnl, ← HSP.out]; simp [sps, hy])
          rw [← HLST.out, h9]
        have e1 : IntKind.i64.wrap ((bs.length : Int) - 1) = (nl : Int) := by rw [IntWalk.i64_in _ ⟨by omega, by omega⟩]; omega
        have e2 := pl_wrap (x := y.1) hu
        rw [hlast] at e2
        have e3 : IntKind.i64.wrap (lst : Int) = (lst : Int) := u32_i64 (by omega)
        have e4 : (nl : Int) < (bs.length : Int) := by omega
        obtain ⟨g, o, rfl, _, _⟩ := HL.out.isSomeT hb0
        obtain ⟨hg, p0, _⟩ := b_at HL.out hy
        have m0 := (Q5.out.cell (p := ⟨g, o + nl * 2, none⟩) hg).trans p0
        clear p0 hy hnl hlast
        go_wp2_with fail
        go_quiet (fail)
        go_wp2_with fail
        go_meet
        exact ⟨rfl, _, rfl⟩
      case neg =>
        have hbe : bs = [] := List.eq_nil_of_length_eq_zero (by omega)
        have hl0 : lst = 0 := by
          rw [← HLST.out, ← HSP.out, hbe]; rfl
        have d1 : ¬ ((0 : Int) < (bs.length : Int)) := by omega
        clear hbe
        subst hl0
        go_wp2_with fail
        go_meet
        exact ⟨rfl, 0, rfl⟩
    case rest =>
    obtain ⟨rfl, nd, hV⟩ := hcut
    obtain ⟨V6, hVV⟩ : ∃ V, V = wc := ⟨_, rfl⟩
    subst hVV
    have S6 := Lib.hid (show V6.heap[w.heap.size]? = some (.cells #[.int .u32 (una : Nat), .int .u32 (nxt : Nat), .int .u32 (high : Nat), .slice a bs.length c] 25 (0, 0)) by rw [hV]; exact blk_drewN S5.out nd)
    have X6 := Lib.hid (show V6.heap[gx]? = some (.cells #[.int .u32 (una : Nat), .int .u32 (nxt : Nat), .int .u32 (high : Nat), .slice a' bs.length c'] 26 (0, 0)) by rw [hV]; exact blk_drewN X5.out nd)
    have B6 := Lib.hid (show V6.heap[gb]? = some (.cells #[.int .u32 0, .int .u32 0] 38 (0, 0)) by rw [hV]; exact blk_drewN B5.out nd)
    have L6 := Lib.hid (show Sts 2 BC Tr V6 a' bs by rw [hV]; exact Sts.belowT L5.out (below_drewN (Below.refl _ _) nd))
    have Q6 := Lib.hid (show Below w.heap.size w V6 by rw [hV]; exact below_drewN Q5.out nd)
    clear hV s0 s1 s2 s3 S5 X5 B5 L5 Q5
    have s0 := blk_cell S6.out 0
    have s2 := blk_cell S6.out 2
    go_wp2_with fail
    clear s0 s2
    have hst3 : st ≤ 3000 := by omega
    go_loopw [12] (fun iv wr => ∃ i : Nat, hi ≤ i ∧ i ≤ 3000 ∧ iv = .int .i64 i ∧ Hid (∀ j, hi ≤ j → j < i → passed mss rs sp hs j) ∧ Below V6.heap.size V6 wr) (fun iv _ => lst - (intOf iv).toNat)
    case atStart => exact ⟨hi, Nat.le_refl _, by omega, rfl, Lib.hid (fun j h1 h2 => by omega), Below.refl _ _⟩
    case round =>
      obtain ⟨i, hi1, hi2, rfl, HPJ, hq⟩ := hrel
      have BR := Lib.hid hq
      clear hq
      have QR := Lib.hid (Q6.out.trans (BR.out.mono Q6.out.size))
      by_cases hlt : i < lst
      case neg =>
        have d1 : ¬ ((i : Int) < (lst : Int)) := by omega
        go_wp2
        go_ret
        exact ⟨rfl, QR.out⟩
      case pos =>
        have d1 : (i : Int) < (lst : Int) := by omega
        have SR := Lib.hid ((BR.out.block _ (blk_lt S6.out)).trans S6.out)
        have s0 := blk_cell SR.out 0
        obtain ⟨A, hA⟩ : ∃ z, (una + i) % 4294967296 = z := ⟨_, rfl⟩
        obtain ⟨B, hB⟩ : ∃ z, (una + (i + 1)) % 4294967296 = z := ⟨_, rfl⟩
        have pA : pl una A = i := by rw [← hA]; exact pl_back hu (by omega)
        have pB : pl una B = i + 1 := by rw [← hB]; exact pl_back hu (by omega)
        have e1 : IntKind.u32.wrap (i : Int) = (i : Int) := by rw [IntKind.wrap_u32]; omega
        have e2 : IntKind.u32.wrap ((i : Int) + 1) = (i : Int) + 1 := by rw [IntKind.wrap_u32]; omega
        have e3 : IntKind.u32.wrap ((una : Int) + (i : Int)) = (A : Int) := by rw [IntKind.wrap_u32]; omega
        have e4 : IntKind.u32.wrap ((una : Int) + ((i : Int) + 1)) = (B : Int) := by rw [IntKind.wrap_u32]; omega
        have HLS := Lib.hid (fun V (h : Sts 2 BC Tr V a' bs) => HLO2.out a' c' A V h (by rw [pA]; omega))
        rw [pA] at HLS
        have HIS := Lib.hid (fun V (h : Sts 2 BC Tr V a' bs) => HIN.out a' c' A B V h k3)
        rw [pA, pB] at HIS
        obtain ⟨ib, hib⟩ : ∃ z, insB sp i (i + 1) = z := ⟨_, rfl⟩
        obtain ⟨ls, hls⟩ : ∃ z, lsB mss i hs = z := ⟨_, rfl⟩
        rw [hib] at HIS
        rw [hls] at HLS
        have HIB := Lib.hid hib
        have HLB := Lib.hid hls
        have HAA := Lib.hid hA
        clear hA hB pA pB hib hls
        go_upto_region 14 with fail
        have hb7 := (Below.refl wr.heap.size wr).alloc (Nat.le_refl _) (.cells #[.int .u32 (A : Nat), .int .u32 (B : Nat)] 38)
        have O7 := Lib.hid (blk_new wr (.cells #[.int .u32 (A : Nat), .int .u32 (B : Nat)] 38))
        have B7 := Lib.hid (BR.out.trans (hb7.mono BR.out.size))
        clear hb7 s0 e1 e2 e3 e4 SR BR QR
        obtain ⟨go, hgo⟩ : ∃ q, wr.heap.size = q := ⟨_, rfl⟩
        generalize wr.alloc (.cells #[.int .u32 (A : Nat), .int .u32 (B : Nat)] 38) = V7 at O7 B7 ⊢
        rw [hgo] at O7 ⊢
        clear hgo
        have X7 := Lib.hid ((B7.out.block _ (blk_lt X6.out)).trans X6.out)
        have x0 := blk_cell X7.out 0
        have x1 := blk_cell X7.out 1
        have x2 := blk_cell X7.out 2
        have x3 := blk_cell X7.out 3
        have o0 := blk_cell O7.out 0
        have o1 := blk_cell O7.out 1
        go_wp2_with fail
        refine (HLS.out V7 (Sts.belowT L6.out B7.out)).mono ?_
        rintro e V8 ⟨rfl, hB⟩
        have B8 := Lib.hid (B7.out.trans (hB.mono B7.out.size))
        have O8 := Lib.hid ((hB.block _ (blk_lt O7.out)).trans O7.out)
        have X8 := Lib.hid ((hB.block _ (blk_lt X7.out)).trans X7.out)
        clear hB x0 x1 x2 x3 o0 o1 X7 O7 B7
        go_wp2_with fail
        refine (num_any _ _).mono ?_
        rintro e w' ⟨rfl, rfl⟩
        have x0 := blk_cell X8.out 0
        have x1 := blk_cell X8.out 1
        have x2 := blk_cell X8.out 2
        have x3 := blk_cell X8.out 3
        have o0 := blk_cell O8.out 0
        have o1 := blk_cell O8.out 1
        go_wp2_with fail
        refine (HIS.out V8 (Sts.belowT L6.out B8.out)).mono ?_
        rintro e V9 ⟨rfl, hB⟩
        have B9 := Lib.hid (B8.out.trans (hB.mono B8.out.size))
        have O9 := Lib.hid ((hB.block _ (blk_lt O8.out)).trans O8.out)
        have X9 := Lib.hid ((hB.block _ (blk_lt X8.out)).trans X8.out)
        clear hB x0 x1 x2 x3 o0 o1 X8 O8 B8
        have HNP : Hid (passed mss rs sp hs i → ∀ j, hi ≤ j → j < i + 1 → passed mss rs sp hs j) := Lib.hid (fun hp j h1 h2 => by
          by_cases hj : j = i
          · subst hj; exact hp
          · exact HPJ.out j h1 (by omega))
        cases ib
        case true =>
          have HP2 := Lib.hid (HNP.out (.inl HIB.out))
          go_wp2_with fail
          go_roundw
          case rel => exact ⟨i + 1, by omega, by omega, by go_num, HP2, B9.out⟩
          case measure => simp [intOf]; omega
        case false =>
        have hgo : Hid ((rs = false ∧ ls = false) ∨ ¬ passed mss rs sp hs i) := Lib.hid (by
          by_cases hb : rs = false ∧ ls = false
          · exact .inl hb
          · right; intro hp
            rcases hp with hp | hp
            · rw [HIB.out] at hp; cases hp
            · rw [HLB.out] at hp; exact hb hp)
        rcases hgo.out with ⟨hr, hl9⟩ | hnp
        case inl =>
          have HP2 := Lib.hid (HNP.out (.inr ⟨hr, by rw [HLB.out]; exact hl9⟩))
          subst hl9
          clear hgo HLB HIB HNP
          subst hr
          go_wp2_with fail
          go_roundw
          case rel => exact ⟨i + 1, by omega, by omega, by go_num, HP2, B9.out⟩
          case measure => simp [intOf]; omega
        case inr =>
          exact absurd (HPA.out i (Nat.zero_le _) hi1 (by rw [HLST.out]; exact hlt)) hnp
  | some h =>
    have HNI := Lib.hid (hA.2 h rfl)
    simp only [Option.map_some] at hnf
    subst hnf
    have hmem := List.mem_of_find?_eq_some HFO.out
    have hhb := HHB.out h hmem
    clear hA hmem
    obtain ⟨l2, hl2⟩ : ∃ z, max h.l hi = z := ⟨_, rfl⟩
    obtain ⟨r2, hr2⟩ : ∃ z, min (l2 + mss.toNat) h.r = z := ⟨_, rfl⟩
    have hrm := HNI.out.room
    rw [hl2] at hrm ⊢
    rw [hr2]
    have hr3 : h.r ≤ st := hhb.2.2.1
    have g1 : l2 < r2 := by omega
    have g2 : r2 ≤ l2 + mss.toNat := by omega
    have g3 : r2 ≤ st := by omega
    have g4 : (r2 : Int) - (l2 : Int) = mss ∨ r2 = h.r := by omega
    have HRD := Lib.hid g4
    have HL2 := Lib.hid hl2
    obtain ⟨A2, hA2⟩ : ∃ z, (una + l2) % 4294967296 = z := ⟨_, rfl⟩
    obtain ⟨R2, hR2⟩ : ∃ z, (una + r2) % 4294967296 = z := ⟨_, rfl⟩
    have HA2 := Lib.hid hA2
    have HR2 := Lib.hid hR2
    have ev : IntKind.u32.wrap ((R2 : Int) - (A2 : Int)) = (((r2 - l2 : Nat)) : Int) := by rw [IntKind.wrap_u32]; omega
    obtain ⟨n, hnn⟩ : ∃ z, r2 - l2 = z := ⟨_, rfl⟩
    rw [hnn] at ev
    have ev2 : IntKind.i64.wrap (n : Int) = (n : Int) := u32_i64 (by omega)
    have n1 : ¬ ((n : Int) < 1) := by omega
    have n2 : ¬ (mss < (n : Int)) := by omega
    have HRD2 : Hid ((n : Int) = mss ∨ r2 = h.r) := Lib.hid (by rcases g4 with h | h; left; omega; right; exact h)
    have HAL : Hid (insB sp l2 r2 = false) := Lib.hid (by have h9 := HNI.out.alone r2 (by omega); rw [HL2.out] at h9; exact h9)
    have HNE : Hid (insB sp h.r (h.r + 1) = true) := Lib.hid HNI.out.next
    unfold nxB
    dsimp only
    rw [hA2, hR2]
    clear hl2 hr2 hrm hr3 g2 g4 hhb hA2 hR2 hnn
    have hb5 := (Below.refl V4.heap.size V4).alloc (Nat.le_refl _) (.cells #[.int .u32 (A2 : Nat), .int .u32 (R2 : Nat)] 38)
    have S5 := Lib.hid ((hb5.block _ (blk_lt S4.out)).trans S4.out)
    have X5 := Lib.hid ((hb5.block _ (blk_lt X4.out)).trans X4.out)
    have B5 := Lib.hid (blk_new V4 (.cells #[.int .u32 (A2 : Nat), .int .u32 (R2 : Nat)] 38))
    have L5 := Lib.hid (Sts.belowT L4.out hb5)
    have Q5 := Lib.hid (Q4.out.trans (hb5.mono Q4.out.size))
    clear hb5 S4 X4 L4 Q4
    go_upto_region 5 with fail
    obtain ⟨gb, hgb⟩ : ∃ q, V4.heap.size = q := ⟨_, rfl⟩
    generalize V4.alloc (.cells #[.int .u32 (A2 : Nat), .int .u32 (R2 : Nat)] 38) = V5 at S5 X5 B5 L5 Q5 ⊢
    rw [hgb] at B5 ⊢
    clear hgb
    have s0 := blk_cell S5.out 0
    have s1 := blk_cell S5.out 1
    have s2 := blk_cell S5.out 2
    have s3 := blk_cell S5.out 3
    by_cases h3 : 3000 < st
    case pos =>
      have k3' : (3000 : Int) < (st : Int) := by omega
      go_wp2_with fail
      refine (num_any _ _).mono ?_
      rintro e w' ⟨rfl, rfl⟩
      go_wp2_with fail
      refine (num_any _ _).mono ?_
      rintro e w' ⟨rfl, rfl⟩
      go_wp2
      go_ret
      exact ⟨rfl, Q5.out⟩
    case neg =>
    have k3' : ¬ ((3000 : Int) < (st : Int)) := by omega
    go_wp2_with fail
    refine (num_any _ _).mono ?_
    rintro e w' ⟨rfl, rfl⟩
    go_upto_if 56 with fail
    go_cut [11] (fun (lv : Value) (wx : World) => lv = .int .i64 (lst : Nat) ∧ ∃ n, wx = V5.drewN n)
    case first =>
      by_cases hb0 : 0 < bs.length
      case pos =>
        have d1 : (0 : Int) < (bs.length : Int) := by omega
        obtain ⟨nl, hnl⟩ : ∃ z, bs.length - 1 = z := ⟨_, rfl⟩
        have hnl2 : nl < bs.length := by omega
        obtain ⟨y, hy⟩ : ∃ y, bs[nl]? = some y := ⟨_, List.getElem?_eq_getElem hnl2⟩
        have hlast : pl una y.1 = lst := by
          have h9 := lastL_get sp (pl una y.1, pl una y.2) (by rw [HSL.out, hnl, ← HSP.out]; simp [sps, hy])
          rw [← HLST.out, h9]
        have e1 : IntKind.i64.wrap ((bs.length : Int) - 1) = (nl : Int) := by rw [IntWalk.i64_in _ ⟨by omega, by omega⟩]; omega
        have e2 := pl_wrap (x := y.1) hu
        rw [hlast] at e2
        have e3 : IntKind.i64.wrap (lst : Int) = (lst : Int) := u32_i64 (by omega)
        have e4 : (nl : Int) < (bs.length : Int) := by omega
        obtain ⟨g, o, rfl, _, _⟩ := HL.out.isSomeT hb0
        obtain ⟨hg, p0, _⟩ := b_at HL.out hy
        have m0 := (Q5.out.cell (p := ⟨g, o + nl * 2, none⟩) hg).trans p0
        clear p0 hy hnl hlast
        go_wp2_with fail
        go_quiet (fail)
        go_wp2_with fail
        go_meet
        exact ⟨rfl, _, rfl⟩
      case neg =>
        have hbe : bs = [] := List.eq_nil_of_length_eq_zero (by omega)
        have hl0 : lst = 0 := by
          rw [← HLST.out, ← HSP.out, hbe]; rfl
        have d1 : ¬ ((0 : Int) < (bs.length : Int)) := by omega
        clear hbe
        subst hl0
        go_wp2_with fail
        go_meet
        exact ⟨rfl, 0, rfl⟩
    case rest =>
    obtain ⟨rfl, nd, hV⟩ := hcut
    obtain ⟨V6, hVV⟩ : ∃ V, V = wc := ⟨_, rfl⟩
    subst hVV
    have S6 := Lib.hid (show V6.heap[w.heap.size]? = some (.cells #[.int .u32 (una : Nat), .int .u32 (nxt : Nat), .int .u32 (high : Nat), .slice a bs.length c] 25 (0, 0)) by rw [hV]; exact blk_drewN S5.out nd)
    have X6 := Lib.hid (show V6.heap[gx]? = some (.cells #[.int .u32 (una : Nat), .int .u32 (nxt : Nat), .int .u32 (high : Nat), .slice a' bs.length c'] 26 (0, 0)) by rw [hV]; exact blk_drewN X5.out nd)
    have B6 := Lib.hid (show V6.heap[gb]? = some (.cells #[.int .u32 (A2 : Nat), .int .u32 (R2 : Nat)] 38 (0, 0)) by rw [hV]; exact blk_drewN B5.out nd)
    have L6 := Lib.hid (show Sts 2 BC Tr V6 a' bs by rw [hV]; exact Sts.belowT L5.out (below_drewN (Below.refl _ _) nd))
    have Q6 := Lib.hid (show Below w.heap.size w V6 by rw [hV]; exact below_drewN Q5.out nd)
    clear hV s0 s1 s2 s3 S5 X5 B5 L5 Q5
    have s0 := blk_cell S6.out 0
    have s2 := blk_cell S6.out 2
    go_wp2_with fail
    clear s0 s2
    have hst3 : st ≤ 3000 := by omega
    go_loopw [12] (fun iv wr => ∃ i : Nat, hi ≤ i ∧ i ≤ 3000 ∧ iv = .int .i64 i ∧ Hid (∀ j, hi ≤ j → j < i → passed mss rs sp hs j) ∧ Below V6.heap.size V6 wr) (fun iv _ => lst - (intOf iv).toNat)
    case atStart => exact ⟨hi, Nat.le_refl _, by omega, rfl, Lib.hid (fun j h1 h2 => by omega), Below.refl _ _⟩
    case round =>
      obtain ⟨i, hi1, hi2, rfl, HPJ, hq⟩ := hrel
      have BR := Lib.hid hq
      clear hq
      have QR := Lib.hid (Q6.out.trans (BR.out.mono Q6.out.size))
      by_cases hlt : i < lst
      case neg =>
        have d1 : ¬ ((i : Int) < (lst : Int)) := by omega
        exfalso
        have hla := HNI.out.last
        rw [HL2.out, HLST.out] at hla
        have hnp := not_passed HNI.out
        rw [HL2.out] at hnp
        exact hnp (HPJ.out l2 (by have := HL2.out; omega) (by omega))
      case pos =>
        have d1 : (i : Int) < (lst : Int) := by omega
        have SR := Lib.hid ((BR.out.block _ (blk_lt S6.out)).trans S6.out)
        have s0 := blk_cell SR.out 0
        obtain ⟨A, hA⟩ : ∃ z, (una + i) % 4294967296 = z := ⟨_, rfl⟩
        obtain ⟨B, hB⟩ : ∃ z, (una + (i + 1)) % 4294967296 = z := ⟨_, rfl⟩
        have pA : pl una A = i := by rw [← hA]; exact pl_back hu (by omega)
        have pB : pl una B = i + 1 := by rw [← hB]; exact pl_back hu (by omega)
        have e1 : IntKind.u32.wrap (i : Int) = (i : Int) := by rw [IntKind.wrap_u32]; omega
        have e2 : IntKind.u32.wrap ((i : Int) + 1) = (i : Int) + 1 := by rw [IntKind.wrap_u32]; omega
        have e3 : IntKind.u32.wrap ((una : Int) + (i : Int)) = (A : Int) := by rw [IntKind.wrap_u32]; omega
        have e4 : IntKind.u32.wrap ((una : Int) + ((i : Int) + 1)) = (B : Int) := by rw [IntKind.wrap_u32]; omega
        have HLS := Lib.hid (fun V (h : Sts 2 BC Tr V a' bs) => HLO2.out a' c' A V h (by rw [pA]; omega))
        rw [pA] at HLS
        have HIS := Lib.hid (fun V (h : Sts 2 BC Tr V a' bs) => HIN.out a' c' A B V h k3)
        rw [pA, pB] at HIS
        obtain ⟨ib, hib⟩ : ∃ z, insB sp i (i + 1) = z := ⟨_, rfl⟩
        obtain ⟨ls, hls⟩ : ∃ z, lsB mss i hs = z := ⟨_, rfl⟩
        rw [hib] at HIS
        rw [hls] at HLS
        have HIB := Lib.hid hib
        have HLB := Lib.hid hls
        have HAA := Lib.hid hA
        clear hA hB pA pB hib hls
        go_upto_region 14 with fail
        have hb7 := (Below.refl wr.heap.size wr).alloc (Nat.le_refl _) (.cells #[.int .u32 (A : Nat), .int .u32 (B : Nat)] 38)
        have O7 := Lib.hid (blk_new wr (.cells #[.int .u32 (A : Nat), .int .u32 (B : Nat)] 38))
        have B7 := Lib.hid (BR.out.trans (hb7.mono BR.out.size))
        clear hb7 s0 e1 e2 e3 e4 SR BR QR
        obtain ⟨go, hgo⟩ : ∃ q, wr.heap.size = q := ⟨_, rfl⟩
        generalize wr.alloc (.cells #[.int .u32 (A : Nat), .int .u32 (B : Nat)] 38) = V7 at O7 B7 ⊢
        rw [hgo] at O7 ⊢
        clear hgo
        have X7 := Lib.hid ((B7.out.block _ (blk_lt X6.out)).trans X6.out)
        have x0 := blk_cell X7.out 0
        have x1 := blk_cell X7.out 1
        have x2 := blk_cell X7.out 2
        have x3 := blk_cell X7.out 3
        have o0 := blk_cell O7.out 0
        have o1 := blk_cell O7.out 1
        go_wp2_with fail
        refine (HLS.out V7 (Sts.belowT L6.out B7.out)).mono ?_
        rintro e V8 ⟨rfl, hB⟩
        have B8 := Lib.hid (B7.out.trans (hB.mono B7.out.size))
        have O8 := Lib.hid ((hB.block _ (blk_lt O7.out)).trans O7.out)
        have X8 := Lib.hid ((hB.block _ (blk_lt X7.out)).trans X7.out)
        clear hB x0 x1 x2 x3 o0 o1 X7 O7 B7
        go_wp2_with fail
        refine (num_any _ _).mono ?_
        rintro e w' ⟨rfl, rfl⟩
        have x0 := blk_cell X8.out 0
        have x1 := blk_cell X8.out 1
        have x2 := blk_cell X8.out 2
        have x3 := blk_cell X8.out 3
        have o0 := blk_cell O8.out 0
        have o1 := blk_cell O8.out 1
        go_wp2_with fail
        refine (HIS.out V8 (Sts.belowT L6.out B8.out)).mono ?_
        rintro e V9 ⟨rfl, hB⟩
        have B9 := Lib.hid (B8.out.trans (hB.mono B8.out.size))
        have O9 := Lib.hid ((hB.block _ (blk_lt O8.out)).trans O8.out)
        have X9 := Lib.hid ((hB.block _ (blk_lt X8.out)).trans X8.out)
        clear hB x0 x1 x2 x3 o0 o1 X8 O8 B8
        have HNP : Hid (passed mss rs sp hs i → ∀ j, hi ≤ j → j < i + 1 → passed mss rs sp hs j) := Lib.hid (fun hp j h1 h2 => by
          by_cases hj : j = i
          · subst hj; exact hp
          · exact HPJ.out j h1 (by omega))
        cases ib
        case true =>
          have HP2 := Lib.hid (HNP.out (.inl HIB.out))
          go_wp2_with fail
          go_roundw
          case rel => exact ⟨i + 1, by omega, by omega, by go_num, HP2, B9.out⟩
          case measure => simp [intOf]; omega
        case false =>
        have hgo : Hid ((rs = false ∧ ls = false) ∨ ¬ passed mss rs sp hs i) := Lib.hid (by
          by_cases hb : rs = false ∧ ls = false
          · exact .inl hb
          · right; intro hp
            rcases hp with hp | hp
            · rw [HIB.out] at hp; cases hp
            · rw [HLB.out] at hp; exact hb hp)
        rcases hgo.out with ⟨hr, hl9⟩ | hnp
        case inl =>
          have HP2 := Lib.hid (HNP.out (.inr ⟨hr, by rw [HLB.out]; exact hl9⟩))
          subst hl9
          clear hgo HLB HIB HNP
          subst hr
          go_wp2_with fail
          go_roundw
          case rel => exact ⟨i + 1, by omega, by omega, by go_num, HP2, B9.out⟩
          case measure => simp [intOf]; omega
        case inr =>
          have hil : i = l2 := by
            have hnp2 := not_passed HNI.out
            rw [HL2.out] at hnp2
            rcases Nat.lt_trichotomy i l2 with h9 | h9 | h9
            · exact absurd (HNI.out.past i (Nat.zero_le _) hi1 (by rw [HL2.out]; exact h9)) hnp
            · exact h9
            · exact absurd (HPJ.out l2 (by have := HL2.out; omega) h9) hnp2
          have hAA : A = A2 := by rw [← HAA.out, ← HA2.out, hil]
          subst hAA
          have hgg : Hid (rs = true ∨ (rs = false ∧ ls = true)) := Lib.hid (by
            rcases Bool.eq_false_or_eq_true rs with h | h
            · exact .inl h
            · rcases Bool.eq_false_or_eq_true ls with h2 | h2
              · exact .inr ⟨h, h2⟩
              · exact absurd (show passed mss rs sp hs i from .inr ⟨h, by rw [HLB.out]; exact h2⟩) hnp)
          have pA : pl una A = l2 := by rw [← HA2.out]; exact pl_back hu (by omega)
          have pR : pl una R2 = r2 := by rw [← HR2.out]; exact pl_back hu (by omega)
          have HI3 := Lib.hid (fun V (h : Sts 2 BC Tr V a' bs) => HIN.out a' c' A R2 V h k3)
          rw [pA, pR, HAL.out] at HI3
          obtain ⟨R3, hR3⟩ : ∃ z, (una + (r2 + 1)) % 4294967296 = z := ⟨_, rfl⟩
          have e5 : IntKind.u32.wrap ((R2 : Int) + 1) = (R3 : Int) := by have := HR2.out; rw [IntKind.wrap_u32]; omega
          have pR3 : pl una R3 = r2 + 1 := by rw [← hR3]; exact pl_back hu (by omega)
          have HI4 := Lib.hid (fun V (h : Sts 2 BC Tr V a' bs) => HIN.out a' c' R2 R3 V h k3)
          rw [pR, pR3] at HI4
          have BB9 := Lib.hid ((B9.out.block _ (blk_lt B6.out)).trans B6.out)
          have SS9 := Lib.hid ((B9.out.block _ (blk_lt S6.out)).trans S6.out)
          have Q9 := Lib.hid (Q6.out.trans (B9.out.mono Q6.out.size))
          have b0 := blk_cell BB9.out 0
          have b1 := blk_cell BB9.out 1
          have o0 := blk_cell O9.out 0
          have x0 := blk_cell X9.out 0
          have x1 := blk_cell X9.out 1
          have x2 := blk_cell X9.out 2
          have x3 := blk_cell X9.out 3
          clear hnp hil pA pR pR3 hR3 HPJ HNP HIB HLB hgo
          rcases hgg.out with hr | hr
          all_goals
            first
              | subst hr
              | (obtain ⟨hr0, hr1⟩ := hr; subst hr0; subst hr1)
            clear hgg
            go_wp2_with fail
            refine (HI3.out V9 (Sts.belowT L6.out B9.out)).mono ?_
            rintro e VA ⟨rfl, hB⟩
            have BA := Lib.hid (B9.out.trans (hB.mono B9.out.size))
            have QA := Lib.hid (Q9.out.trans (hB.mono Q9.out.size))
            have BBA := Lib.hid ((hB.block _ (blk_lt BB9.out)).trans BB9.out)
            have SSA := Lib.hid ((hB.block _ (blk_lt SS9.out)).trans SS9.out)
            have XA := Lib.hid ((hB.block _ (blk_lt X9.out)).trans X9.out)
            clear hB b0 b1 o0 x0 x1 x2 x3 BB9 SS9 X9 O9 B9 Q9
            have b1 := blk_cell BBA.out 1
            go_upto_region 22 with fail
            have hb9 := (Below.refl VA.heap.size VA).alloc (Nat.le_refl _) (.cells #[.int .u32 (R2 : Nat), .int .u32 (R3 : Nat)] 38)
            have EB := Lib.hid (blk_new VA (.cells #[.int .u32 (R2 : Nat), .int .u32 (R3 : Nat)] 38))
            have BZ := Lib.hid (BA.out.trans (hb9.mono BA.out.size))
            have QZ := Lib.hid (QA.out.trans (hb9.mono QA.out.size))
            have BBZ := Lib.hid ((hb9.block _ (blk_lt BBA.out)).trans BBA.out)
            have SSZ := Lib.hid ((hb9.block _ (blk_lt SSA.out)).trans SSA.out)
            have XZ := Lib.hid ((hb9.block _ (blk_lt XA.out)).trans XA.out)
            clear hb9 b1 BBA SSA XA BA QA e5
            obtain ⟨ge, hge⟩ : ∃ q, VA.heap.size = q := ⟨_, rfl⟩
            generalize VA.alloc (.cells #[.int .u32 (R2 : Nat), .int .u32 (R3 : Nat)] 38) = VZ at EB BZ QZ BBZ SSZ XZ ⊢
            rw [hge] at EB ⊢
            clear hge
            have b1 := blk_cell BBZ.out 1
            have s1 := blk_cell SSZ.out 1
            have x0 := blk_cell XZ.out 0
            have x1 := blk_cell XZ.out 1
            have x2 := blk_cell XZ.out 2
            have x3 := blk_cell XZ.out 3
            have z0 := blk_cell EB.out 0
            have z1 := blk_cell EB.out 1
            by_cases hm : (n : Int) = mss
            case pos =>
              have d3 : ((n : Int) == mss) = true := by rw [hm]; exact beq_self_eq_true _
              go_wp2_with fail
              go_ret
              exact ⟨rfl, QZ.out⟩
            case neg =>
              have hrr : r2 = h.r := by
                rcases HRD2.out with h9 | h9
                · exact absurd h9 hm
                · exact h9
              have hin : insB sp r2 (r2 + 1) = true := by rw [hrr]; exact HNE.out
              rw [hin] at HI4
              have d3 : ((n : Int) == mss) = false := by rw [beq_eq_false_iff_ne]; exact hm
              clear hrr hin
              by_cases hR : R2 = nxt
              case pos =>
                have d4 : (R2 : Int) = (nxt : Int) := by omega
                have d5 : ((R2 : Int) == (nxt : Int)) = true := by rw [d4]; exact beq_self_eq_true _
                go_wp2_with fail
                go_ret
                exact ⟨rfl, QZ.out⟩
              case neg =>
                have d4 : ¬ ((R2 : Int) = (nxt : Int)) := by omega
                have d5 : ((R2 : Int) == (nxt : Int)) = false := by rw [beq_eq_false_iff_ne]; exact d4
                go_wp2_with fail
                refine (HI4.out VZ (Sts.belowT L6.out BZ.out)).mono ?_
                rintro e VY ⟨rfl, hB⟩
                have QY := Lib.hid (QZ.out.trans (hB.mono QZ.out.size))
                clear hB b1 s1 x0 x1 x2 x3 z0 z1
                go_wp2
                go_ret
                exact ⟨rfl, QY.out⟩

theorem of_len4 {α : Type} (l : List α) (h : l.length = 4) : ∃ x0 x1 x2 x3, l = [x0, x1, x2, x3] := by
  match l, h with
  | [x0, x1, x2, x3], _ => exact ⟨x0, x1, x2, x3, rfl⟩
theorem own : ownKnob Try.prog.godebug = none := by kernel_rfl
theorem laidOut : laidOutB Try.prog = true := by kernel_rfl

set_option maxRecDepth 100000 in
set_option maxHeartbeats 2000000 in
theorem lifted (os : Os) (started : os.Started) (H : Type) (enc : TypeId × Value → H) :
    ReturnsInHanded {} Try.checked os 8 .any (Rows.scoreboardNextSpec.pre6 enc Try.prog Try.f8 Rows.scoreboardNextRow.domain false) (Rows.scoreboardNextSpec.post enc Try.prog Try.f8 false true false false) := by
  refine returnsInHanded_of_change_sized (C := Try.checked) own started (by kernel_rfl) Try.func8
    (ChangeSpec.witness6 (enc := enc) (C := Try.checked) false ⟨#[], #[.agg #[.int .u32 0, .int .u32 0, .int .u32 0, .slice none 0 0], .int .i64 0, .bool false], []⟩ 8 (by kernel_rfl) (by kernel_rfl) (by kernel_rfl) (by kernel_rfl)) ?_
  intro W base args ds gs before hval0 hW hcnd hsz0 _
  have hval : ∀ (j : Nat) t v, Try.f8.params[j]? = some t → args[j]? = some v → Value.okWide Try.prog W .any base t v := hval0
  have hsz : (DataW.weightsEach Try.prog (Try.f8.params.toList ++ Rows.scoreboardNextSpec.plain.varTypes Try.prog) (ds ++ gs)).all (· ≤ reachBytes) = true := hsz0
  have hW' := hW
  obtain ⟨p, q, hA0, hV, rfl, hfz, hnd⟩ := hW
  have hA : DataW.TrodAll enc Try.prog W 0 (fun _ => true) true Try.f8.params.toList args.toList ds p := hA0
  rw [Try.params8] at hA hval hsz
  obtain ⟨v0, vs0, d0, ds0, p0, q0, hargs, rfl, rfl, h0, r0⟩ := trodAll_cons hA
  obtain ⟨v1, vs1, d1, ds1, p1, q1, rfl, rfl, rfl, h1, r1⟩ := trodAll_cons r0
  obtain ⟨v2, vs2, d2, ds2, p2, q2, rfl, rfl, rfl, h2, r2⟩ := trodAll_cons r1
  obtain ⟨rfl, rfl, rfl⟩ := trodAll_nil r2
  obtain rfl : args = #[v0, v1, v2] := by cases args; simp_all
  obtain ⟨rfl, rfl⟩ := trodVars_none hV
  have k0 := h0
  have lt0 : ∀ x ∈ p0, x.block < W.heap.size := by obtain ⟨m, hm⟩ := k0; exact DataW.trod_lt m _ _ _ hm
  obtain ⟨vs0', ys0', m0, rfl, lv0, ly0, hd0, F0⟩ := open_agg Try.underlying25 (by kernel_rfl) (by kernel_rfl) (hval 0 25 v0 rfl rfl) h0
  obtain ⟨c0_0, c0_1, c0_2, c0_3, rfl⟩ := of_len4 _ lv0
  obtain ⟨y0_0, y0_1, y0_2, y0_3, rfl⟩ := of_len4 _ ly0
  simp only [List.map_cons, List.map_nil] at hd0
  obtain ⟨_, _, e, g, t0_0⟩ := F0 0 _ rfl
  obtain rfl := Option.some.inj e; obtain rfl := Option.some.inj g; clear e g
  obtain ⟨z0_0, e, _, w0_0⟩ := DataW.trod_int Try.underlying22 t0_0
  obtain rfl := (List.cons.inj e).1; clear e
  obtain ⟨n0_0, rfl, hn0_0⟩ := nat_of_u32 w0_0
  obtain ⟨_, _, e, g, t0_1⟩ := F0 1 _ rfl
  obtain rfl := Option.some.inj e; obtain rfl := Option.some.inj g; clear e g
  obtain ⟨z0_1, e, _, w0_1⟩ := DataW.trod_int Try.underlying22 t0_1
  obtain rfl := (List.cons.inj e).1; clear e
  obtain ⟨n0_1, rfl, hn0_1⟩ := nat_of_u32 w0_1
  obtain ⟨_, _, e, g, t0_2⟩ := F0 2 _ rfl
  obtain rfl := Option.some.inj e; obtain rfl := Option.some.inj g; clear e g
  obtain ⟨z0_2, e, _, w0_2⟩ := DataW.trod_int Try.underlying22 t0_2
  obtain rfl := (List.cons.inj e).1; clear e
  obtain ⟨n0_2, rfl, hn0_2⟩ := nat_of_u32 w0_2
  obtain ⟨_, _, e, g, t0_3⟩ := F0 3 _ rfl
  obtain rfl := Option.some.inj e; obtain rfl := Option.some.inj g; clear e g
  obtain ⟨a0_3, bs0_3, cap0_3, rfl, hbk0_3, hcap0_3, hlc0_3, hq0_3⟩ := open_blocks t0_3
  obtain ⟨a1, rfl, rfl, rfl, w1⟩ := open_int Try.underlying3 (hval 1 3 v1 rfl rfl) h1
  obtain ⟨a2, rfl, rfl, rfl⟩ := open_bool Try.underlying4 (hval 2 4 v2 rfl rfl) h2
  have hre0_3 : bs0_3.length ≤ 17592186043904 := blocks_reach hq0_3 (sized_field hsz (j := 0) (i := 3) (t := 25) rfl (by rw [hd0]; rfl) Try.underlying25 rfl rfl)
  clear hA0 hval0 hsz hsz0
  obtain ⟨lo1, hi1⟩ := bounds_i64 w1
  refine (walk n0_0 n0_1 n0_2 a0_3 bs0_3 cap0_3 a1 a2 W hn0_0 hn0_1 hn0_2 hbk0_3 hcap0_3 hlc0_3 hre0_3 lo1 hi1).mono fun e W' ⟨he, bel⟩ => ?_
  subst he
  exact ⟨_, rfl, _, _, _, [], _, [], hW', trodAll_mk1 (shut_bool Try.underlying4 _), (trodAll_cons_mk (Below.trod laidOut (by kernel_rfl) (of_decide_eq_true (by kernel_rfl)) k0 bel lt0) (trodAll_cons_mk (shut_int Try.underlying3 w1) (trodAll_cons_mk (shut_bool Try.underlying4 _) trodAll_mk0))), rfl, bel.frame _, fun h => by cases h⟩

theorem over : Rows.scoreboardNextRow.holds Try.pinned (OpenSpec.ofChange Rows.scoreboardNextSpec) :=
  OpenClaim.holds_of_wide 8 Try.f8 rfl rfl rfl rfl rfl rfl rfl ⟨rfl, rfl, rfl, rfl, rfl⟩ rfl rfl rfl rfl rfl (by kernel_rfl) Try.func8 (by kernel_rfl)
    (of_decide_eq_true (by kernel_rfl)) (by unfold Func.isWrapper; first | (rw [if_pos (by decide +kernel)]; kernel_rfl) | (rw [if_neg (by decide +kernel)]; exact ⟨rfl, rfl⟩))
    (fun os started H enc _ => lifted os started H enc)

end Go.Proofs.Ytcachmjcninkbaa.scoreboardNext
namespace Go.Proofs.Ytcachmjcninkbaa
/-- The statement. -/
theorem scoreboardNext_holds : Rows.ScoreboardNextSaid := scoreboardNext.over
#print axioms scoreboardNext_holds
end Go.Proofs.Ytcachmjcninkbaa
