/- The options of a segment, as they are laid. -/
import Derived.Test.YtgmgoilleakdcaaTcpS
import Derived.Test.YtgmgoilleakdcaaGAppend
import Derived.Test.YtgmgoilleakdcaaGBlocks
import Derived.Test.YtgmgoilleakdcaaNumTG
import Derived.Deep.DeepCutAuto
namespace Go.Proofs.Ytgmgoilleakdcaa
open Go.RowKit

/-- A segment's fields. -/
def tcpV (sp dp sq ak fl wn ur : Nat) (mss : Int) (hs : Bool) (sc : Int) (sk : Bool) (ba : Option Addr) (bn bc : Nat) (ht : Bool) (tv te : Nat) (da : Option Addr) (dn dc : Nat) : Array Value :=
  #[.int .u16 sp, .int .u16 dp, .int .u32 sq, .int .u32 ak, .int .u8 fl, .int .u16 wn, .int .u16 ur, .int .i64 mss, .bool hs, .int .i64 sc, .bool sk, .slice ba bn bc, .bool ht, .int .u32 tv, .int .u32 te, .slice da dn dc]

/-- The options, one by one. -/
def oMss (m : Nat) : List Nat := if m = 0 then [] else [2, 4] ++ Mt.octs m 2
def oScale (hs : Bool) (s : Nat) : List Nat := if hs = true then [1, 3, 3, s] else []
def oSok (sk : Bool) : List Nat := if sk = true then [1, 1, 4, 2] else []
def oTs (ht : Bool) (tv te : Nat) : List Nat := if ht = true then [1, 1, 8, 10] ++ Mt.octs tv 4 ++ Mt.octs te 4 else []
def oBlk (p : Nat × Nat) : List Nat := Mt.octs p.1 4 ++ Mt.octs p.2 4
def oHead (n : Nat) : List Nat := if n = 0 then [] else [1, 1, 5, 2 + 8 * n]

theorem take_blk (bs : List (Nat × Nat)) (k : Nat) (h : k < bs.length) : bs.take (k + 1) = bs.take k ++ [bs.getD k (0, 0)] := by
  rw [List.take_add_one, List.getD_eq_getElem?_getD, List.getElem?_eq_getElem h]; rfl

/-- All of them. -/
def laidO (mss : Nat) (hs : Bool) (sc : Nat) (sk : Bool) (bs : List (Nat × Nat)) (ht : Bool) (tv te : Nat) : List Nat := oMss mss ++ oScale hs sc ++ oSok sk ++ oTs ht tv te ++ oHead bs.length ++ (bs.map oBlk).flatten

theorem blk_len (bs : List (Nat × Nat)) : (bs.map oBlk).flatten.length = 8 * bs.length := by
  induction bs with
  | nil => rfl
  | cons p bs ih => rw [List.map_cons, List.flatten_cons, List.length_append, ih, List.length_cons]; simp [oBlk, Mt.octs_length]; omega

/-- What has been laid when some of the options are over; the segment's box lies as it lay. -/
def TcpOut (w : World) (bx : Array Value) (L : List Nat) (v : Value) (wx : World) : Prop :=
  ∃ a cap, v = .slice a L.length cap ∧ OwnSl (w.heap.size + 1) a L cap wx ∧ wx.heap[w.heap.size]? = some (.cells bx 27 (0, 0)) ∧ Below w.heap.size w wx ∧ w.heap.size + 1 ≤ wx.heap.size

set_option maxRecDepth 100000 in
set_option maxHeartbeats 4000000 in
theorem options_any (sp dp sq ak fl wn ur mss : Nat) (hs : Bool) (sc : Nat) (sk : Bool) (ba : Option Addr) (bs : List (Nat × Nat)) (bc : Nat) (ht : Bool) (tv te : Nat) (da : Option Addr) (dn dc : Nat) (w : World)
    (hm : mss < 65536) (hsc : sc < 256) (htv : tv < 4294967296) (hte : te < 4294967296) (hb4 : bs.length ≤ 4) (hx : Blk w ba bs) :
    Calls Try.prog 24 #[.agg (tcpV sp dp sq ak fl wn ur mss hs sc sk ba bs.length bc ht tv te da dn dc)] w fun e w' => (∃ a cap, e = .returned (.slice a (laidO mss hs sc sk bs ht tv te).length cap) ∧ OwnSl (w.heap.size + 1) a (laidO mss hs sc sk bs ht tv te) cap w') ∧ Below w.heap.size w w' := by
  obtain ⟨bx, hbx⟩ : ∃ bx, tcpV sp dp sq ak fl wn ur mss hs sc sk ba bs.length bc ht tv te da dn dc = bx := ⟨_, rfl⟩
  have bn := blk_new w (.cells (tcpV sp dp sq ak fl wn ur mss hs sc sk ba bs.length bc ht tv te da dn dc) 27)
  have hsz : w.heap.size + 1 ≤ (w.alloc (.cells (tcpV sp dp sq ak fl wn ur mss hs sc sk ba bs.length bc ht tv te da dn dc) 27)).heap.size := by rw [World.size_alloc]; exact Nat.le_refl _
  have bw := (Below.refl _ w).alloc (Nat.le_refl _) (.cells (tcpV sp dp sq ak fl wn ur mss hs sc sk ba bs.length bc ht tv te da dn dc) 27)
  have H0 : Hid (TcpOut w (tcpV sp dp sq ak fl wn ur mss hs sc sk ba bs.length bc ht tv te da dn dc) [] (.slice none 0 0) (w.alloc (.cells (tcpV sp dp sq ak fl wn ur mss hs sc sk ba bs.length bc ht tv te da dn dc) 27))) := Lib.hid ⟨none, 0, rfl, own_nil _ _, bn, bw, hsz⟩
  have g7 := blk_cell bn 7
  clear hbx hsz bw
  unfold tcpV at *
  go_enter Try.func24, Try.ntmps24
  go_upto_if 8 with (fail)
  generalize w.alloc (.cells #[.int .u16 sp, .int .u16 dp, .int .u32 sq, .int .u32 ak, .int .u8 fl, .int .u16 wn, .int .u16 ur, .int .i64 mss, .bool hs, .int .i64 sc, .bool sk, .slice ba bs.length bc, .bool ht, .int .u32 tv, .int .u32 te, .slice da dn dc] 27) = W0 at bn g7 H0 ⊢
  go_cut [3] (fun (v : Value) wx => TcpOut w #[.int .u16 sp, .int .u16 dp, .int .u32 sq, .int .u32 ak, .int .u8 fl, .int .u16 wn, .int .u16 ur, .int .i64 mss, .bool hs, .int .i64 sc, .bool sk, .slice ba bs.length bc, .bool ht, .int .u32 tv, .int .u32 te, .slice da dn dc] (oMss mss) v wx)
  case first =>
    by_cases h0 : mss = 0
    · have e : oMss mss = [] := if_pos h0
      have E := Lib.hid e
      clear e
      subst h0
      go_wp2
      go_meet
      case rel => rw [E.out]; exact H0.out
    · have e : oMss mss = [2, 4] ++ Mt.octs mss 2 := if_neg h0
      have E := Lib.hid e
      clear e
      have hne : ((mss : Int) != 0) = true := by rw [bne_iff_ne]; omega
      obtain ⟨a0, c0, e0, O, K, B, S⟩ := H0.out
      have Y := Lib.hid (bts_new W0 [2, 4] 5 (by decide))
      have ba := (Below.refl W0.heap.size W0).alloc (Nat.le_refl _) (.cells ([2, 4].map (fun x : Nat => Value.int .u8 (x : Nat))).toArray 5)
      have N0 := Lib.hid ((own_nil (w.heap.size + 1) W0).below ba)
      have B1 := Lib.hid (B.trans (ba.mono B.size))
      have K1 := Lib.hid ((ba.block _ (Nat.lt_of_succ_le S)).trans K)
      have S1 := Nat.le_trans S ba.size
      clear O K B S ba e0 H0
      go_wp2_with (at_builtin; refine wpList_append_bts rfl _ _ rfl (w.heap.size + 1) N0.out Y.out (fun h => by cases h) rfl rfl (by simp) S1 ?_; intro a1 c1 w1 Z b1; have K2 := Lib.hid ((b1.block _ (Nat.lt_succ_self _)).trans K1.out); have k7 := blk_cell K2.out 7; have S2 := Nat.le_trans S1 b1.size; have B2 := Lib.hid (B1.out.trans (b1.mono (Nat.le_succ _))); have Z1 := Lib.hid Z; clear Z b1 N0 Y K1 B1)
      refine (puts_tcpwire (w.heap.size + 1) c1 mss 2 a1 ([] ++ [2, 4]) w1 Z1.out (by omega) (by omega) (by omega) (by omega) S2 (by simp)).mono ?_
      rintro e w2 ⟨a2, c2, rfl, Z, b2⟩
      have K3 := Lib.hid ((b2.block _ (Nat.lt_succ_self _)).trans K2.out)
      have B3 := Lib.hid (B2.out.trans (b2.mono (Nat.le_succ _)))
      have S3 := Nat.le_trans S2 b2.size
      have Z2 := Lib.hid Z
      clear Z b2 Z1 K2 B2 k7 g7
      go_wp2
      go_meet
      case rel =>
        rw [E.out]
        exact ⟨a2, c2, rfl, Z2.out, K3.out, B3.out, S3⟩
  case rest =>
    have hscm : (sc : Int) % 256 = (sc : Int) := by omega
    obtain ⟨a, c, rfl, O, K, B, S⟩ := hcut
    have hLl : (oMss mss).length ≤ 4 := by unfold oMss; split <;> simp [Mt.octs_length]
    obtain ⟨M1, hM1⟩ : ∃ M1, oMss mss = M1 := ⟨_, rfl⟩
    rw [hM1] at O hLl ⊢
    have HM1 := Lib.hid hM1
    have HO := Lib.hid O
    have HK := Lib.hid K
    have HB := Lib.hid B
    clear O B hM1
    have g8 := blk_cell HK.out 8
    have g9 := blk_cell HK.out 9
    clear K
    go_upto_if 18 with (fail)
    go_cut [3] (fun (v : Value) wx => TcpOut w #[.int .u16 sp, .int .u16 dp, .int .u32 sq, .int .u32 ak, .int .u8 fl, .int .u16 wn, .int .u16 ur, .int .i64 mss, .bool hs, .int .i64 sc, .bool sk, .slice ba bs.length bc, .bool ht, .int .u32 tv, .int .u32 te, .slice da dn dc] (M1 ++ oScale hs sc) v wx)
    case first =>
      cases hs with
      | false =>
        go_wp2
        go_meet
        case rel =>
          show TcpOut w _ (M1 ++ []) _ _
          rw [List.append_nil]
          exact ⟨a, c, rfl, HO.out, HK.out, HB.out, S⟩
      | true =>
        have Y := Lib.hid (bts_new wc [1, 3, 3, sc] 5 (by intro x hx; simp at hx; omega))
        have ba' := (Below.refl wc.heap.size wc).alloc (Nat.le_refl _) (.cells ([1, 3, 3, sc].map (fun x : Nat => Value.int .u8 (x : Nat))).toArray 5)
        have N0 := Lib.hid (HO.out.below ba')
        have B1 := Lib.hid (HB.out.trans (ba'.mono HB.out.size))
        have K1 := Lib.hid ((ba'.block _ (Nat.lt_of_succ_le S)).trans HK.out)
        have S1 := Nat.le_trans S ba'.size
        clear ba' HO HB HK
        go_wp2_with (at_builtin; refine wpList_append_bts rfl _ _ rfl (w.heap.size + 1) N0.out Y.out (fun h => by cases h) rfl rfl (by simp; omega) S1 ?_; intro a1 c1 w1 Z b1; have K2 := Lib.hid ((b1.block _ (Nat.lt_succ_self _)).trans K1.out);  have S2 := Nat.le_trans S1 b1.size; have B2 := Lib.hid (B1.out.trans (b1.mono (Nat.le_succ _))); have Z1 := Lib.hid Z; clear Z b1 N0 Y K1 B1)
        go_meet
        case rel =>
          have e : M1 ++ oScale true sc = (M1 ++ [1, 3, 3, sc]) := by simp [oScale]
          rw [e]
          exact ⟨a1, c1, by first | rfl | simp, Z1.out, K2.out, B2.out, S2⟩
    case rest =>
      obtain ⟨a, c, rfl, O, K, B, S⟩ := hcut
      have hLl : (M1 ++ oScale hs sc).length ≤ 8 := by have hq : (oScale hs sc).length ≤ 4 := (by unfold oScale; split <;> simp); rw [List.length_append]; omega
      obtain ⟨M2, hM2⟩ : ∃ M2, M1 ++ oScale hs sc = M2 := ⟨_, rfl⟩
      rw [hM2] at O hLl ⊢
      have HM2 := Lib.hid hM2
      have HO := Lib.hid O
      have HK := Lib.hid K
      have HB := Lib.hid B
      clear O B hM2
      have g10 := blk_cell HK.out 10
      clear K
      go_upto_if 26 with (fail)
      go_cut [3] (fun (v : Value) wx => TcpOut w #[.int .u16 sp, .int .u16 dp, .int .u32 sq, .int .u32 ak, .int .u8 fl, .int .u16 wn, .int .u16 ur, .int .i64 mss, .bool hs, .int .i64 sc, .bool sk, .slice ba bs.length bc, .bool ht, .int .u32 tv, .int .u32 te, .slice da dn dc] (M2 ++ oSok sk) v wx)
      case first =>
        cases sk with
        | false =>
          go_wp2
          go_meet
          case rel =>
            show TcpOut w _ (M2 ++ []) _ _
            rw [List.append_nil]
            exact ⟨a, c, rfl, HO.out, HK.out, HB.out, S⟩
        | true =>
          have Y := Lib.hid (bts_new wc [1, 1, 4, 2] 5 (by intro x hx; simp at hx; omega))
          have ba' := (Below.refl wc.heap.size wc).alloc (Nat.le_refl _) (.cells ([1, 1, 4, 2].map (fun x : Nat => Value.int .u8 (x : Nat))).toArray 5)
          have N0 := Lib.hid (HO.out.below ba')
          have B1 := Lib.hid (HB.out.trans (ba'.mono HB.out.size))
          have K1 := Lib.hid ((ba'.block _ (Nat.lt_of_succ_le S)).trans HK.out)
          have S1 := Nat.le_trans S ba'.size
          clear ba' HO HB HK
          go_wp2_with (at_builtin; refine wpList_append_bts rfl _ _ rfl (w.heap.size + 1) N0.out Y.out (fun h => by cases h) rfl rfl (by simp; omega) S1 ?_; intro a1 c1 w1 Z b1; have K2 := Lib.hid ((b1.block _ (Nat.lt_succ_self _)).trans K1.out);  have S2 := Nat.le_trans S1 b1.size; have B2 := Lib.hid (B1.out.trans (b1.mono (Nat.le_succ _))); have Z1 := Lib.hid Z; clear Z b1 N0 Y K1 B1)
          go_meet
          case rel =>
            have e : M2 ++ oSok true = (M2 ++ [1, 1, 4, 2]) := by simp [oSok]
            rw [e]
            exact ⟨a1, c1, by first | rfl | simp, Z1.out, K2.out, B2.out, S2⟩
      case rest =>
        obtain ⟨a, c, rfl, O, K, B, S⟩ := hcut
        have hLl : (M2 ++ oSok sk).length ≤ 12 := by have hq : (oSok sk).length ≤ 4 := (by unfold oSok; split <;> simp); rw [List.length_append]; omega
        obtain ⟨M3, hM3⟩ : ∃ M3, M2 ++ oSok sk = M3 := ⟨_, rfl⟩
        rw [hM3] at O hLl ⊢
        have HM3 := Lib.hid hM3
        have HO := Lib.hid O
        have HK := Lib.hid K
        have HB := Lib.hid B
        clear O B hM3
        have g12 := blk_cell HK.out 12
        clear K
        go_upto_if 31 with (fail)
        go_cut [3] (fun (v : Value) wx => TcpOut w #[.int .u16 sp, .int .u16 dp, .int .u32 sq, .int .u32 ak, .int .u8 fl, .int .u16 wn, .int .u16 ur, .int .i64 mss, .bool hs, .int .i64 sc, .bool sk, .slice ba bs.length bc, .bool ht, .int .u32 tv, .int .u32 te, .slice da dn dc] (M3 ++ oTs ht tv te) v wx)
        case first =>
          cases ht with
          | false =>
            go_wp2
            go_meet
            case rel =>
              show TcpOut w _ (M3 ++ []) _ _
              rw [List.append_nil]
              exact ⟨a, c, rfl, HO.out, HK.out, HB.out, S⟩
          | true =>
            have Y := Lib.hid (bts_new wc [1, 1, 8, 10] 5 (by intro x hx; simp at hx; omega))
            have ba' := (Below.refl wc.heap.size wc).alloc (Nat.le_refl _) (.cells ([1, 1, 8, 10].map (fun x : Nat => Value.int .u8 (x : Nat))).toArray 5)
            have N0 := Lib.hid (HO.out.below ba')
            have B1 := Lib.hid (HB.out.trans (ba'.mono HB.out.size))
            have K1 := Lib.hid ((ba'.block _ (Nat.lt_of_succ_le S)).trans HK.out)
            have S1 := Nat.le_trans S ba'.size
            clear ba' HO HB HK
            go_wp2_with (at_builtin; refine wpList_append_bts rfl _ _ rfl (w.heap.size + 1) N0.out Y.out (fun h => by cases h) rfl rfl (by simp; omega) S1 ?_; intro a1 c1 w1 Z b1; have K2 := Lib.hid ((b1.block _ (Nat.lt_succ_self _)).trans K1.out); have k13 := blk_cell K2.out 13; have k14 := blk_cell K2.out 14;  have S2 := Nat.le_trans S1 b1.size; have B2 := Lib.hid (B1.out.trans (b1.mono (Nat.le_succ _))); have Z1 := Lib.hid Z; clear Z b1 N0 Y K1 B1)
            have P := puts_tcpwire (w.heap.size + 1) c1 tv 4 a1 (M3 ++ [1, 1, 8, 10]) w1 Z1.out (by omega) (by omega) (by omega) (by omega) S2 (by simp; omega)
            rw [show List.length (M3 ++ [1, 1, 8, 10]) = M3.length + 4 by simp] at P
            refine P.mono ?_
            rintro e w2 ⟨a2, c2, rfl, Z, b2⟩
            clear P
            obtain ⟨N1, hN1⟩ : ∃ N1, (M3 ++ [1, 1, 8, 10]) ++ Mt.octs tv 4 = N1 := ⟨_, rfl⟩
            rw [hN1] at Z ⊢
            have hNl : N1.length = M3.length + 8 := by rw [← hN1]; simp [Mt.octs_length]
            have HN1 := Lib.hid hN1
            have hNm : N1.length ≤ 70368744177664 := by omega
            have HNm := Lib.hid hNm
            clear hN1 hNl hNm
            have K3 := Lib.hid ((b2.block _ (Nat.lt_succ_self _)).trans K2.out)
            have B3 := Lib.hid (B2.out.trans (b2.mono (Nat.le_succ _)))
            have S3 := Nat.le_trans S2 b2.size
            have Z2 := Lib.hid Z
            have k14' := blk_cell K3.out 14
            clear Z b2 Z1 K2 B2 k13 k14
            go_wp2_with fail
            refine (puts_tcpwire (w.heap.size + 1) c2 te 4 a2 N1 w2 Z2.out (by omega) (by omega) (by omega) (by omega) S3 HNm.out).mono ?_
            rintro e w3 ⟨a3, c3, rfl, Z, b3⟩
            have K4 := Lib.hid ((b3.block _ (Nat.lt_succ_self _)).trans K3.out)
            have B4 := Lib.hid (B3.out.trans (b3.mono (Nat.le_succ _)))
            have S4 := Nat.le_trans S3 b3.size
            obtain ⟨N2, hN2⟩ : ∃ N2, N1 ++ Mt.octs te 4 = N2 := ⟨_, rfl⟩
            rw [hN2] at Z ⊢
            have HN2 := Lib.hid hN2
            have Z3 := Lib.hid Z
            clear Z b3 Z2 K3 B3 hN2
            go_wp2_with fail
            go_meet
            case rel =>
              have e : M3 ++ oTs true tv te = N2 := by rw [← HN2.out, ← HN1.out]; simp [oTs]
              rw [e]
              exact ⟨a3, c3, rfl, Z3.out, K4.out, B4.out, S4⟩
        case rest =>
          obtain ⟨a, c, rfl, O, K, B, S⟩ := hcut
          have hLl : (M3 ++ oTs ht tv te).length ≤ 24 := by have hq : (oTs ht tv te).length ≤ 12 := (by unfold oTs; split <;> simp [Mt.octs_length]); rw [List.length_append]; omega
          obtain ⟨M4, hM4⟩ : ∃ M4, M3 ++ oTs ht tv te = M4 := ⟨_, rfl⟩
          rw [hM4] at O hLl ⊢
          have HM4 := Lib.hid hM4
          have HO := Lib.hid O
          have HK := Lib.hid K
          have HB := Lib.hid B
          clear O B hM4
          have g11 := blk_cell HK.out 11
          clear K
          have hbb : ((2 + 8 * (bs.length : Int)) % 256 : Int) = ((2 + 8 * bs.length : Nat) : Int) := by omega
          go_upto_if 48 with (fail)
          go_cut [3] (fun (v : Value) wx => TcpOut w #[.int .u16 sp, .int .u16 dp, .int .u32 sq, .int .u32 ak, .int .u8 fl, .int .u16 wn, .int .u16 ur, .int .i64 mss, .bool hs, .int .i64 sc, .bool sk, .slice ba bs.length bc, .bool ht, .int .u32 tv, .int .u32 te, .slice da dn dc] (M4 ++ oHead bs.length) v wx)
          case first =>
            by_cases h0 : bs.length = 0
            · have e : oHead bs.length = [] := if_pos h0
              have E := Lib.hid e
              clear e
              go_wp2
              go_meet
              case rel =>
                rw [E.out, List.append_nil]
                exact ⟨a, c, rfl, HO.out, HK.out, HB.out, S⟩
            · have e : oHead bs.length = [1, 1, 5, 2 + 8 * bs.length] := if_neg h0
              have E := Lib.hid e
              clear e
              have Y := Lib.hid (bts_new wc [1, 1, 5, 2 + 8 * bs.length] 5 (by intro x hx; simp at hx; omega))
              have ba' := (Below.refl wc.heap.size wc).alloc (Nat.le_refl _) (.cells ([1, 1, 5, 2 + 8 * bs.length].map (fun x : Nat => Value.int .u8 (x : Nat))).toArray 5)
              have N0 := Lib.hid (HO.out.below ba')
              have B1 := Lib.hid (HB.out.trans (ba'.mono HB.out.size))
              have K1 := Lib.hid ((ba'.block _ (Nat.lt_of_succ_le S)).trans HK.out)
              have S1 := Nat.le_trans S ba'.size
              clear ba' HO HB HK
              go_wp2_with (at_builtin; refine wpList_append_bts rfl _ _ rfl (w.heap.size + 1) N0.out Y.out (fun h => by cases h) rfl rfl (by simp; omega) S1 ?_; intro a1 c1 w1 Z b1; have K2 := Lib.hid ((b1.block _ (Nat.lt_succ_self _)).trans K1.out);  have S2 := Nat.le_trans S1 b1.size; have B2 := Lib.hid (B1.out.trans (b1.mono (Nat.le_succ _))); have Z1 := Lib.hid Z; clear Z b1 N0 Y K1 B1)
              go_meet
              case rel =>
                rw [E.out]
                exact ⟨a1, c1, by first | rfl | simp, Z1.out, K2.out, B2.out, S2⟩
          case rest =>
            obtain ⟨a, c, rfl, O, K, B, S⟩ := hcut
            have hLl5 : (M4 ++ oHead bs.length).length ≤ 28 := by have hq : (oHead bs.length).length ≤ 4 := (by unfold oHead; split <;> simp); rw [List.length_append]; omega
            obtain ⟨M5, hM5⟩ : ∃ M5, M4 ++ oHead bs.length = M5 := ⟨_, rfl⟩
            rw [hM5] at O hLl5 ⊢
            have HM5 := Lib.hid hM5
            have HO := Lib.hid O
            have HK := Lib.hid K
            have HB := Lib.hid B
            clear O B hM5 hLl
            have g11 := blk_cell HK.out 11
            clear K
            go_wp2
            go_loopw [3, 61] (fun o i wr => ∃ k : Nat, k ≤ bs.length ∧ i = .int .i64 k ∧ TcpOut w #[.int .u16 sp, .int .u16 dp, .int .u32 sq, .int .u32 ak, .int .u8 fl, .int .u16 wn, .int .u16 ur, .int .i64 mss, .bool hs, .int .i64 sc, .bool sk, .slice ba bs.length bc, .bool ht, .int .u32 tv, .int .u32 te, .slice da dn dc] (M5 ++ ((bs.take k).map oBlk).flatten) o wr) (fun _ i _ => bs.length - (intOf i).toNat)
            case atStart => exact ⟨0, by omega, rfl, a, c, by simp, by simpa using HO.out, HK.out, HB.out, S⟩
            case round =>
              obtain ⟨k, hk, rfl, a2, c2, rfl, O, K, B, S'⟩ := hrel
              have HO2 := Lib.hid O
              have HK2 := Lib.hid K
              have HB2 := Lib.hid B
              have HX := hx.below B
              clear O K B HO HK HB g11
              have hml : (M5 ++ ((bs.take k).map oBlk).flatten).length ≤ 60 := by
                have hq : ((bs.take k).map oBlk).flatten.length ≤ 32 := by rw [blk_len, List.length_take]; omega
                rw [List.length_append]; omega
              obtain ⟨M6, hM6⟩ : ∃ M6, M5 ++ ((bs.take k).map oBlk).flatten = M6 := ⟨_, rfl⟩
              rw [hM6] at HO2 hml ⊢
              have HM6 := Lib.hid hM6
              clear hM6
              by_cases hlt : k < bs.length
              · obtain ⟨b, off, rfl, hb, hcx⟩ := HX.2.resolve_left (fun h => by subst h; simp at hlt)
                obtain ⟨g1, g2⟩ := hcx k hlt
                have hv := HX.1 (bs.getD k (0, 0)) (by rw [List.getD_eq_getElem?_getD, List.getElem?_eq_getElem hlt]; exact List.getElem_mem _)
                have ek := Lib.hid (take_blk bs k hlt)
                generalize bs.getD k (0, 0) = pr at g1 g2 hv ek
                obtain ⟨x1, x2⟩ := pr
                dsimp only at g1 g2 hv
                rw [Nat.mul_comm 2 k] at g1 g2
                clear hcx HX
                have i1 : (k : Int) < (bs.length : Int) := by omega
                have bo := (Below.refl wr.heap.size wr).alloc (Nat.le_refl _) (.cells #[.int .u32 (x1 : Nat), .int .u32 (x2 : Nat)] 68)
                have bx := blk_new wr (.cells #[.int .u32 (x1 : Nat), .int .u32 (x2 : Nat)] 68)
                have Hlt := Lib.hid (HO2.out.ltB)
                have HO3 := Lib.hid (HO2.out.below bo)
                have HK3 := Lib.hid ((bo.block _ (Nat.lt_of_succ_le S')).trans HK2.out)
                have HB3 := Lib.hid (HB2.out.trans (bo.mono HB2.out.size))
                have S3 := Nat.le_trans S' bo.size
                have bl : wr.heap.size < (wr.alloc (.cells #[.int .u32 (x1 : Nat), .int .u32 (x2 : Nat)] 68)).heap.size := by rw [World.size_alloc]; exact Nat.lt_succ_self _
                have BX := Lib.hid bx
                have BL := Lib.hid bl
                clear bo bx bl HO2 HK2 HB2
                go_wp2_with fail
                have P := putg_tcpwire (w.heap.size + 1) c2 x1 4 a2 M6 _ HO3.out (by omega) (by omega) (by omega) (by omega) S3 (by omega)
                refine P.mono ?_
                rintro e w2 ⟨a3, c3, rfl, Z, b2, gr⟩
                clear P
                obtain ⟨M7, hM7⟩ : ∃ M7, M6 ++ Mt.octs x1 4 = M7 := ⟨_, rfl⟩
                rw [hM7] at Z ⊢
                have hm7 : M7.length ≤ 64 := by rw [← hM7, List.length_append, Mt.octs_length]; omega
                have HM7 := Lib.hid hM7
                have BX2 := (gr.block _ BL.out (fun e => Nat.lt_irrefl _ (Hlt.out _ e.symm))).trans BX.out
                have gx := blk_cell BX2 1
                have HK4 := Lib.hid ((b2.block _ (Nat.lt_succ_self _)).trans HK3.out)
                have HB4 := Lib.hid (HB3.out.trans (b2.mono (Nat.le_succ _)))
                have S4 := Nat.le_trans S3 b2.size
                have Z2 := Lib.hid Z
                clear Z b2 gr hM7 BX2 BX BL Hlt HO3 HK3 HB3 g1 g2
                go_wp2_with fail
                refine (puts_tcpwire (w.heap.size + 1) c3 x2 4 a3 M7 w2 Z2.out (by omega) (by omega) (by omega) (by omega) S4 (by omega)).mono ?_
                rintro e w3 ⟨a4, c4, rfl, Z, b3⟩
                have HK5 := Lib.hid ((b3.block _ (Nat.lt_succ_self _)).trans HK4.out)
                have HB5 := Lib.hid (HB4.out.trans (b3.mono (Nat.le_succ _)))
                have S5 := Nat.le_trans S4 b3.size
                obtain ⟨M8, hM8⟩ : ∃ M8, M7 ++ Mt.octs x2 4 = M8 := ⟨_, rfl⟩
                rw [hM8] at Z ⊢
                have HM8 := Lib.hid hM8
                have Z3 := Lib.hid Z
                clear Z b3 hM8 gx Z2 HK4 HB4 hm7
                go_wp2_with fail
                go_roundw
                case rel =>
                  have e8 : M5 ++ ((bs.take (k + 1)).map oBlk).flatten = M8 := by rw [ek.out, ← HM8.out, ← HM7.out, ← HM6.out]; simp [oBlk]
                  exact ⟨k + 1, by omega, by go_num, a4, c4, by rw [e8], by rw [e8]; exact Z3.out, HK5.out, HB5.out, S5⟩
                case measure => simp [intOf]; omega
              · obtain rfl : k = bs.length := by omega
                clear HX
                go_wp2
                go_ret
                have e6 : laidO mss hs sc sk bs ht tv te = M6 := by rw [← HM6.out, ← HM5.out, ← HM4.out, ← HM3.out, ← HM2.out, ← HM1.out, List.take_length]; rfl
                rw [e6]
                exact ⟨⟨a2, c2, rfl, HO2.out⟩, HB2.out⟩
end Go.Proofs.Ytgmgoilleakdcaa
