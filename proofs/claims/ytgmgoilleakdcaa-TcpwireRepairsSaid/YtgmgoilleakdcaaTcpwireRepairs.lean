/- For any octets and two addresses: octets that are too few or too many are read as no segment; any others, with their checksum made right, are read as the document's reader reads them, and never for their sum are they turned away. No condition. -/
import Derived.Test.YtgmgoilleakdcaaRows
import Derived.Test.YtgmgoilleakdcaaAlive5
import Derived.Test.YtgmgoilleakdcaaSumRf
import Derived.Test.YtgmgoilleakdcaaGCopied
import Derived.Test.YtgmgoilleakdcaaGFrame
import Derived.Test.YtgmgoilleakdcaaGAgg
import Derived.Deep.DeepCutAuto
import Derived.RegionTactic
import Derived.Deep.RegionHeld3
import Derived.ProofKit
import Derived.OpenShut
import Derived.ChangeOld
import Derived.SizedLaws
namespace Go.Proofs.Ytgmgoilleakdcaa.tcpwireRepairs
open Go.ChangeShapes Go.WideShapes Go.ChangeAt Go.RowKit Go.Deep Go.Proofs.Ytgmgoilleakdcaa.law5

set_option maxRecDepth 100000 in
set_option maxHeartbeats 4000000 in
theorem walk (ba : Option Addr) (bd : List Nat) (bc : Nat) (src dst : Nat) (w : World) (hb : Bts w ba bd) (hbn : ba = none → bc = 0) (hbc : bd.length ≤ bc ∧ bc ≤ maxLen) (hbl : bd.length ≤ 140737488351232) (hs : src < 4294967296) (hd : dst < 4294967296) :
    Calls Try.prog 4 #[.slice ba bd.length bc, .int .u32 (src : Nat), .int .u32 (dst : Nat)] w fun e w' => e = .returned (.bool true) ∧ Below w.heap.size w w' := by
  have HB := Lib.hid hb
  have HBN := Lib.hid hbn
  have hml : maxLen = 9223372036854775807 := by rfl
  have h1c := hbc.1
  have h1d := hbc.2
  clear hb hbn hbc
  go_enter Try.func4, Try.ntmps4
  by_cases hbad : bd.length < 20 ∨ 65535 < bd.length
  case pos =>
    have NP : Hid (Calls Try.prog 10 #[.slice ba bd.length bc, .int .u32 (src : Nat), .int .u32 (dst : Nat)] w fun e w' => ∃ n : Int, n ≠ 0 ∧ e = .returned (.tuple #[.agg #[.int .u16 0, .int .u16 0, .int .u32 0, .int .u32 0, .int .u8 0, .int .u16 0, .int .u16 0, .int .i64 0, .bool false, .int .i64 0, .bool false, .slice none 0 0, .bool false, .int .u32 0, .int .u32 0, .slice none 0 0], .int .i64 n]) ∧ Below w.heap.size w w') := Lib.hid ((tcpP_none ba bd bc src dst w HB.out hs hd (by omega) (fun h => by have := h.1; have := h.2.1; omega)).mono (fun e w' h => ⟨h.1.choose, h.1.choose_spec.1, h.1.choose_spec.2, h.2⟩))
    have fin : ∀ (n : Int) (V : World), n ≠ 0 → Below w.heap.size w V → True := fun _ _ _ _ => trivial
    clear fin
    by_cases h20 : bd.length < 20
    case' pos => have i1 : (bd.length : Int) < 20 := by omega
    case' neg =>
      have i1 : ¬ (bd.length : Int) < 20 := by omega
      have i2 : (65535 : Int) < (bd.length : Int) := by omega
    all_goals
      go_upto_region 3 with (first
        | (go_at_call 10; with_reducible refine NP.out.mono ?_; rintro e V1 ⟨n, hn0, rfl, b⟩; have Q1 := Lib.hid b; have HN0 := Lib.hid hn0; clear b hn0)
        | fail)
      have en : (n != 0) = true := by rw [bne_iff_ne]; exact HN0.out
      have QF := Lib.hid (Q1.out.alloc Q1.out.size (.cells #[.int .u16 0, .int .u16 0, .int .u32 0, .int .u32 0, .int .u8 0, .int .u16 0, .int .u16 0, .int .i64 0, .bool false, .int .i64 0, .bool false, .slice none 0 0, .bool false, .int .u32 0, .int .u32 0, .slice none 0 0] 27))
      generalize V1.alloc (.cells #[.int .u16 0, .int .u16 0, .int .u32 0, .int .u32 0, .int .u8 0, .int .u16 0, .int .u16 0, .int .i64 0, .bool false, .int .i64 0, .bool false, .slice none 0 0, .bool false, .int .u32 0, .int .u32 0, .slice none 0 0] 27) = VF at QF ⊢
      go_wp2_with (first
        | (go_at_call 13; with_reducible refine (num_any _ _).mono ?_; rintro e w' ⟨rfl, rfl⟩)
        | (go_at_call 19; refine (alive_any _).mono ?_; rintro e V2 ⟨rfl, b2⟩; have Q2 := Lib.hid (QF.out.trans (b2.mono QF.out.size)); clear b2)
        | fail)
      go_ret
      exact ⟨rfl, Q2.out⟩
  case neg =>
    have hl20 : 20 ≤ bd.length := by omega
    have hl65 : bd.length ≤ 65535 := by omega
    have i1 : ¬ (bd.length : Int) < 20 := by omega
    have i2 : ¬ (65535 : Int) < (bd.length : Int) := by omega
    clear hbad
    go_upto_region 5 with (first
      | (go_at_call 6; (with_reducible refine (copy_one ba bd bc w HB.out (by omega) HBN.out).mono ?_); rintro e V1 ⟨oa, oc, rfl, O, b⟩; have O1 := Lib.hid O; have Q1 := Lib.hid b; clear O b)
      | fail)
    obtain ⟨g, rfl, hgB, _⟩ := O1.out.isSome (by omega)
    have y16 : (16 : Int) < (bd.length : Int) := by omega
    have y17 : (17 : Int) < (bd.length : Int) := by omega
    have c16 := O1.out.cellAt 16 (by omega)
    have f16 := O1.out.frozenAt 16
    have c17 := O1.out.cellAt 17 (by omega)
    have f17 := O1.out.frozenAt 17
    go_upto_region 6 with fail
    obtain ⟨h1, hh1⟩ : ∃ z, (bd.set 16 0).set 17 0 = z := ⟨_, rfl⟩
    have O2 : Hid (OwnSl w.heap.size (some ⟨g, 0, none⟩) h1 oc ((V1.setCell ⟨g, 16, none⟩ (.int .u8 0)).setCell ⟨g, 17, none⟩ (.int .u8 0))) := Lib.hid (by rw [← hh1]; exact (O1.out.store 16 0 (by omega)).store 17 0 (by omega))
    have Q2 : Hid (Below w.heap.size w ((V1.setCell ⟨g, 16, none⟩ (.int .u8 0)).setCell ⟨g, 17, none⟩ (.int .u8 0))) := Lib.hid ((Q1.out.setCell (p := ⟨g, 16, none⟩) hgB _).setCell (p := ⟨g, 17, none⟩) hgB _)
    have h1l : h1.length = bd.length := by rw [← hh1, List.length_set, List.length_set]
    have z16 : h1.getD 16 0 = 0 := by rw [← hh1]; simp [List.getD_eq_getElem?_getD, show 16 < bd.length from by omega]
    have z17 : h1.getD 17 0 = 0 := by rw [← hh1]; simp [List.getD_eq_getElem?_getD, show 17 < bd.length from by omega]
    have Z16 := Lib.hid z16
    have Z17 := Lib.hid z17
    clear c16 f16 c17 f17 z16 z17 hh1
    generalize (V1.setCell ⟨g, 16, none⟩ (.int .u8 0)).setCell ⟨g, 17, none⟩ (.int .u8 0) = V2 at O2 Q2 ⊢
    have h1b := O2.out.bts.1
    obtain ⟨C, hC⟩ : ∃ z, 65535 - tcpSum h1 src dst = z := ⟨_, rfl⟩
    have HC := Lib.hid hC
    have hP := psum_pos5 src dst (h1.length : Nat) hs hd
    have hS1 := Mt.sumO_le h1 h1b
    have hC2 : C ≤ 65535 := by omega
    have hCs : tcpSum h1 src dst + C = 65535 := by
      have := tcpSum_le h1 h1b src dst hs hd
      omega
    have RS := Lib.hid (refsum_any (some ⟨g, 0, none⟩) h1 oc V2 O2.out.bts (by omega))
    rw [h1l] at RS
    obtain ⟨sm, hsm⟩ : ∃ z, Mt.sumO h1 = z := ⟨_, rfl⟩
    have RP : Hid (∀ W, Calls Try.prog 22 #[.int .u32 (src : Nat), .int .u32 (dst : Nat), .int .u8 6, .int .i64 (bd.length : Nat)] W fun e w' => e = .returned (.int .u16 (Mt.tot (psW src dst 6 (bd.length : Nat)) : Nat)) ∧ Below W.heap.size W w') := Lib.hid (fun W => refpseudo_any src dst 6 (bd.length : Nat) hs hd (by decide) W)
    obtain ⟨pm, hpm⟩ : ∃ z, Mt.tot (psW src dst 6 (bd.length : Nat)) = z := ⟨_, rfl⟩
    have hts : tcpSum h1 src dst = Mt.addw sm pm := by unfold tcpSum; rw [h1l, hsm, hpm]
    rw [hsm] at RS hS1
    rw [hpm] at RP
    rw [h1l, hpm] at hP
    have RA := Lib.hid (refadd_any sm pm hS1 hP.2)
    rw [← hts] at RA
    obtain ⟨ts, hts2⟩ : ∃ z, tcpSum h1 src dst = z := ⟨_, rfl⟩
    rw [hts2] at RA hCs
    have WC : IntKind.u16.wrap (65535 - (ts : Int)) = (C : Int) := by rw [show (65535 : Int) - (ts : Int) = (C : Int) from by omega]; exact IntWalk.u16_in _ (by omega)
    have H1L := Lib.hid h1l
    have H1B := Lib.hid h1b
    clear hC hP hS1 hsm hpm hts hts2 h1l hCs h1b
    go_upto_region 7 with (first
      | (go_at_call 21; with_reducible refine RS.out.mono ?_; rintro e w' ⟨rfl, rfl⟩)
      | (go_at_call 22; with_reducible refine (RP.out _).mono ?_; rintro e V3 ⟨rfl, b⟩; have O3 := Lib.hid (O2.out.below b); have Q3 := Lib.hid (Q2.out.trans (b.mono Q2.out.size)); clear b)
      | (go_at_call 20; with_reducible refine (RA.out _).mono ?_; rintro e w' ⟨rfl, rfl⟩)
      | fail)
    have c16 := O3.out.cellAt 16 (by rw [H1L.out]; omega)
    have f16 := O3.out.frozenAt 16
    have c17 := O3.out.cellAt 17 (by rw [H1L.out]; omega)
    have f17 := O3.out.frozenAt 17
    have C1 : ((C / 256 : Nat) : Int) = (C : Int) / 256 := by omega
    have C2 : ((C % 256 : Nat) : Int) = (C : Int) % 256 := by omega
    have HC1 := Lib.hid C1
    have HC2 := Lib.hid C2
    clear C1 C2
    go_upto_region 8 with fail
    obtain ⟨HH, hHH⟩ : ∃ z, (h1.set 16 (C / 256)).set 17 (C % 256) = z := ⟨_, rfl⟩
    have O4 := Lib.hid ((O3.out.store 16 (C / 256) (by omega)).store 17 (C % 256) (by omega))
    rw [hHH, HC1.out, HC2.out] at O4
    have Q4 : Hid (Below w.heap.size w ((V3.setCell ⟨g, 16, none⟩ (.int .u8 ((C : Int) / 256))).setCell ⟨g, 17, none⟩ (.int .u8 ((C : Int) % 256)))) := Lib.hid ((Q3.out.setCell (p := ⟨g, 16, none⟩) hgB _).setCell (p := ⟨g, 17, none⟩) hgB _)
    have hfix : tcpSum HH src dst = 65535 := by rw [← hHH]; exact tcp_fix h1 H1B.out (by rw [H1L.out]; omega) Z16.out Z17.out src dst hs hd C HC.out.symm
    have hHl : HH.length = bd.length := by rw [← hHH, List.length_set, List.length_set, H1L.out]
    have hcap := O4.out.capLe.1
    obtain ⟨sp, dp, sq, ak, fl, wn, ur, s, ds, er, h21, hsl, hdl, P1, P2⟩ := both_parse HH src dst O4.out.bts.1 (by omega) (by omega) hs hd hfix
    rw [hHl] at P1 P2 hcap
    have PA : Hid (∀ W, Bts W (some ⟨g, 0, none⟩) HH → Calls Try.prog 10 #[.slice (some ⟨g, 0, none⟩) bd.length oc, .int .u32 (src : Nat), .int .u32 (dst : Nat)] W fun e w' => ∃ da1 dc1 va1 vc1, e = .returned (.tuple #[.agg #[.int .u16 (sp : Nat), .int .u16 (dp : Nat), .int .u32 (sq : Nat), .int .u32 (ak : Nat), .int .u8 (fl : Nat), .int .u16 (wn : Nat), .int .u16 (ur : Nat), .int .i64 (s.mss : Nat), .bool s.hs, .int .i64 (s.sc : Nat), .bool s.sk, .slice va1 s.bs.length vc1, .bool s.ht, .int .u32 (s.tv : Nat), .int .u32 (s.te : Nat), .slice da1 ds.length dc1], .int .i64 er]) ∧ Below W.heap.size W w' ∧ Bts w' da1 ds ∧ Blk w' va1 s.bs) := Lib.hid (fun W h => P1 _ oc W h hcap)
    have PB : Hid (∀ W, Bts W (some ⟨g, 0, none⟩) HH → Calls Try.prog 11 #[.slice (some ⟨g, 0, none⟩) bd.length oc, .int .u32 (src : Nat), .int .u32 (dst : Nat)] W fun e w' => ∃ da2 dc2 va2 vc2, e = .returned (.tuple #[.agg #[.int .u16 (sp : Nat), .int .u16 (dp : Nat), .int .u32 (sq : Nat), .int .u32 (ak : Nat), .int .u8 (fl : Nat), .int .u16 (wn : Nat), .int .u16 (ur : Nat), .int .i64 (s.mss : Nat), .bool s.hs, .int .i64 (s.sc : Nat), .bool s.sk, .slice va2 s.bs.length vc2, .bool s.ht, .int .u32 (s.tv : Nat), .int .u32 (s.te : Nat), .slice da2 ds.length dc2], .int .i64 er]) ∧ Below W.heap.size W w' ∧ Bts w' da2 ds ∧ Blk w' va2 s.bs) := Lib.hid (fun W h => P2 _ oc W h hcap)
    have e21 : (er != 21) = true := by rw [bne_iff_ne]; exact h21
    have ee : (er == er) = true := beq_self_eq_true _
    have HSL := Lib.hid hsl
    have HDL := Lib.hid hdl
    clear c16 f16 c17 f17 hHH hfix hHl hcap h21 hsl hdl P1 P2 WC hC2 y16 y17
    generalize (V3.setCell ⟨g, 16, none⟩ (.int .u8 ((C : Int) / 256))).setCell ⟨g, 17, none⟩ (.int .u8 ((C : Int) % 256)) = V4 at O4 Q4 ⊢
    go_upto_region 9 with (first
      | (go_at_call 10; with_reducible refine (PA.out _ O4.out.bts).mono ?_; rintro e V5 ⟨da1, dc1, va1, vc1, rfl, b, x1, x2⟩; have Q5 := Lib.hid (Q4.out.trans (b.mono Q4.out.size)); have O5 := Lib.hid (O4.out.below b); have D5 := Lib.hid x1; have B5 := Lib.hid x2; clear b x1 x2)
      | fail)
    have hz5 : Hid (V5.heap.size < (V5.alloc (.cells #[.int .u16 (sp : Nat), .int .u16 (dp : Nat), .int .u32 (sq : Nat), .int .u32 (ak : Nat), .int .u8 (fl : Nat), .int .u16 (wn : Nat), .int .u16 (ur : Nat), .int .i64 (s.mss : Nat), .bool s.hs, .int .i64 (s.sc : Nat), .bool s.sk, .slice va1 s.bs.length vc1, .bool s.ht, .int .u32 (s.tv : Nat), .int .u32 (s.te : Nat), .slice da1 ds.length dc1] 27)).heap.size) := Lib.hid (by rw [World.size_alloc]; exact Nat.lt_succ_self _)
    have K6 := Lib.hid (blk_new V5 (.cells #[.int .u16 (sp : Nat), .int .u16 (dp : Nat), .int .u32 (sq : Nat), .int .u32 (ak : Nat), .int .u8 (fl : Nat), .int .u16 (wn : Nat), .int .u16 (ur : Nat), .int .i64 (s.mss : Nat), .bool s.hs, .int .i64 (s.sc : Nat), .bool s.sk, .slice va1 s.bs.length vc1, .bool s.ht, .int .u32 (s.tv : Nat), .int .u32 (s.te : Nat), .slice da1 ds.length dc1] 27))
    have b6 := (Below.refl V5.heap.size V5).alloc (Nat.le_refl _) (.cells #[.int .u16 (sp : Nat), .int .u16 (dp : Nat), .int .u32 (sq : Nat), .int .u32 (ak : Nat), .int .u8 (fl : Nat), .int .u16 (wn : Nat), .int .u16 (ur : Nat), .int .i64 (s.mss : Nat), .bool s.hs, .int .i64 (s.sc : Nat), .bool s.sk, .slice va1 s.bs.length vc1, .bool s.ht, .int .u32 (s.tv : Nat), .int .u32 (s.te : Nat), .slice da1 ds.length dc1] 27)
    have Q6 := Lib.hid (Q5.out.trans (b6.mono Q5.out.size))
    have O6 := Lib.hid (O5.out.below b6)
    have D6 := Lib.hid (D5.out.below b6)
    have B6 := Lib.hid (B5.out.below b6)
    clear b6
    generalize V5.alloc (.cells #[.int .u16 (sp : Nat), .int .u16 (dp : Nat), .int .u32 (sq : Nat), .int .u32 (ak : Nat), .int .u8 (fl : Nat), .int .u16 (wn : Nat), .int .u16 (ur : Nat), .int .i64 (s.mss : Nat), .bool s.hs, .int .i64 (s.sc : Nat), .bool s.sk, .slice va1 s.bs.length vc1, .bool s.ht, .int .u32 (s.tv : Nat), .int .u32 (s.te : Nat), .slice da1 ds.length dc1] 27) = V6 at hz5 K6 Q6 O6 D6 B6 ⊢
    go_upto_region 10 with (first
      | (go_at_call 11; with_reducible refine (PB.out _ O6.out.bts).mono ?_; rintro e V7 ⟨da2, dc2, va2, vc2, rfl, b, x1, x2⟩; have Q7 := Lib.hid (Q6.out.trans (b.mono Q6.out.size)); have K7 := Lib.hid ((b.block _ hz5.out).trans K6.out); have D7 := Lib.hid (D6.out.below b); have B7 := Lib.hid (B6.out.below b); have E7 := Lib.hid x1; have F7 := Lib.hid x2; have hz7 := Lib.hid (Nat.lt_of_lt_of_le hz5.out b.size); clear b x1 x2)
      | fail)
    have L8 := Lib.hid (blk_new V7 (.cells #[.int .u16 (sp : Nat), .int .u16 (dp : Nat), .int .u32 (sq : Nat), .int .u32 (ak : Nat), .int .u8 (fl : Nat), .int .u16 (wn : Nat), .int .u16 (ur : Nat), .int .i64 (s.mss : Nat), .bool s.hs, .int .i64 (s.sc : Nat), .bool s.sk, .slice va2 s.bs.length vc2, .bool s.ht, .int .u32 (s.tv : Nat), .int .u32 (s.te : Nat), .slice da2 ds.length dc2] 27))
    have b8 := (Below.refl V7.heap.size V7).alloc (Nat.le_refl _) (.cells #[.int .u16 (sp : Nat), .int .u16 (dp : Nat), .int .u32 (sq : Nat), .int .u32 (ak : Nat), .int .u8 (fl : Nat), .int .u16 (wn : Nat), .int .u16 (ur : Nat), .int .i64 (s.mss : Nat), .bool s.hs, .int .i64 (s.sc : Nat), .bool s.sk, .slice va2 s.bs.length vc2, .bool s.ht, .int .u32 (s.tv : Nat), .int .u32 (s.te : Nat), .slice da2 ds.length dc2] 27)
    have K8 := Lib.hid ((b8.block _ hz7.out).trans K7.out)
    have Q8 := Lib.hid (Q7.out.trans (b8.mono Q7.out.size))
    have D8 := Lib.hid (D7.out.below b8)
    have B8 := Lib.hid (B7.out.below b8)
    have E8 := Lib.hid (E7.out.below b8)
    have F8 := Lib.hid (F7.out.below b8)
    clear b8
    generalize V7.alloc (.cells #[.int .u16 (sp : Nat), .int .u16 (dp : Nat), .int .u32 (sq : Nat), .int .u32 (ak : Nat), .int .u8 (fl : Nat), .int .u16 (wn : Nat), .int .u16 (ur : Nat), .int .i64 (s.mss : Nat), .bool s.hs, .int .i64 (s.sc : Nat), .bool s.sk, .slice va2 s.bs.length vc2, .bool s.ht, .int .u32 (s.tv : Nat), .int .u32 (s.te : Nat), .slice da2 ds.length dc2] 27) = V8 at L8 K8 Q8 D8 B8 E8 F8 ⊢
    have ST : Hid (Calls Try.prog 14 #[.agg #[.int .u16 (sp : Nat), .int .u16 (dp : Nat), .int .u32 (sq : Nat), .int .u32 (ak : Nat), .int .u8 (fl : Nat), .int .u16 (wn : Nat), .int .u16 (ur : Nat), .int .i64 (s.mss : Nat), .bool s.hs, .int .i64 (s.sc : Nat), .bool s.sk, .slice va1 s.bs.length vc1, .bool s.ht, .int .u32 (s.tv : Nat), .int .u32 (s.te : Nat), .slice da1 ds.length dc1], .agg #[.int .u16 (sp : Nat), .int .u16 (dp : Nat), .int .u32 (sq : Nat), .int .u32 (ak : Nat), .int .u8 (fl : Nat), .int .u16 (wn : Nat), .int .u16 (ur : Nat), .int .i64 (s.mss : Nat), .bool s.hs, .int .i64 (s.sc : Nat), .bool s.sk, .slice va2 s.bs.length vc2, .bool s.ht, .int .u32 (s.tv : Nat), .int .u32 (s.te : Nat), .slice da2 ds.length dc2]] V8 fun e w' => e = .returned (.bool true) ∧ Below V8.heap.size V8 w') := Lib.hid (sameTcpV sp dp sq ak fl wn ur s.mss s.hs s.sc s.sk s.bs s.ht s.tv s.te ds va1 va2 da1 da2 vc1 vc2 dc1 dc2 V8 B8.out F8.out (by have := HSL.out; omega) D8.out E8.out (by have := HDL.out; omega))
    go_wp2_with (first
      | ((with_reducible show wpList _ _ _ _ _ _); refine wpList_load_tcp rfl (.tmp 11) rfl V5.heap.size rfl _ K8.out rfl ?_)
      | ((with_reducible show wpList _ _ _ _ _ _); refine wpList_load_tcp rfl (.tmp 13) rfl V7.heap.size rfl _ L8.out rfl ?_)
      | (go_at_call 14; with_reducible refine ST.out.mono ?_; rintro e V9 ⟨rfl, b⟩; have Q9 := Lib.hid (Q8.out.trans (b.mono Q8.out.size)); clear b)
      | (go_at_call 13; with_reducible refine (num_any _ _).mono ?_; rintro e w' ⟨rfl, rfl⟩)
      | (go_at_call 19; refine (alive_any _).mono ?_; rintro e V10 ⟨rfl, b⟩; have Q10 := Lib.hid (Q9.out.trans (b.mono Q9.out.size)); clear b)
      | fail)
    all_goals
      go_ret
      exact ⟨rfl, Q10.out⟩

theorem own : ownKnob Try.prog.godebug = none := by kernel_rfl
theorem laidOut : laidOutB Try.prog = true := by kernel_rfl

set_option maxRecDepth 100000 in
set_option maxHeartbeats 2000000 in
theorem lifted (os : Os) (started : os.Started) (H : Type) (enc : TypeId × Value → H) :
    ReturnsInHanded {} Try.checked os 4 .any (Rows.tcpwireRepairsSpec.pre6 enc Try.prog Try.f4 Rows.tcpwireRepairsRow.domain false) (Rows.tcpwireRepairsSpec.post enc Try.prog Try.f4 false true false false) := by
  refine returnsInHanded_of_change_sized (C := Try.checked) own started (by kernel_rfl) Try.func4
    (ChangeSpec.witness6 (enc := enc) (C := Try.checked) false ⟨#[], #[.slice none 0 0, .int .u32 0, .int .u32 0], []⟩ 8 (by kernel_rfl) (by kernel_rfl) (by kernel_rfl) (by kernel_rfl)) ?_
  intro W base args ds gs before hval0 hW hcnd hsz0 _
  have hval : ∀ (j : Nat) t v, Try.f4.params[j]? = some t → args[j]? = some v → Value.okWide Try.prog W .any base t v := hval0
  have hsz : (DataW.weightsEach Try.prog (Try.f4.params.toList ++ Rows.tcpwireRepairsSpec.plain.varTypes Try.prog) (ds ++ gs)).all (· ≤ reachBytes) = true := hsz0
  have hW' := hW
  obtain ⟨p, q, hA0, hV, rfl, hfz, hnd⟩ := hW
  have hA : DataW.TrodAll enc Try.prog W 0 (fun _ => true) true Try.f4.params.toList args.toList ds p := hA0
  rw [Try.params4] at hA hval hsz
  obtain ⟨v0, vs0, d0, ds0, p0, q0, hargs, rfl, rfl, h0, r0⟩ := trodAll_cons hA
  obtain ⟨v1, vs1, d1, ds1, p1, q1, rfl, rfl, rfl, h1, r1⟩ := trodAll_cons r0
  obtain ⟨v2, vs2, d2, ds2, p2, q2, rfl, rfl, rfl, h2, r2⟩ := trodAll_cons r1
  obtain ⟨rfl, rfl, rfl⟩ := trodAll_nil r2
  obtain rfl : args = #[v0, v1, v2] := by cases args; simp_all
  obtain ⟨rfl, rfl⟩ := trodVars_none hV
  obtain ⟨a0, len0, cap0, rfl⟩ := okWide_slice Try.underlying25 (hval 0 25 v0 rfl rfl)
  have k0 := h0
  have lt0 : ∀ x ∈ p0, x.block < W.heap.size := by obtain ⟨m, hm⟩ := k0; exact DataW.trod_lt m _ _ _ hm
  obtain ⟨a1, rfl, rfl, rfl, w1⟩ := open_int Try.underlying23 (hval 1 23 v1 rfl rfl) h1
  obtain ⟨a2, rfl, rfl, rfl, w2⟩ := open_int Try.underlying23 (hval 2 23 v2 rfl rfl) h2
  obtain ⟨xs0, hxl0, hbt0, hcap0, hlc0, hre0⟩ : ∃ xs : List Nat, xs.length = len0 ∧ Bts W a0 xs ∧ (a0 = none → cap0 = 0) ∧ (xs.length ≤ cap0 ∧ cap0 ≤ maxLen) ∧ xs.length ≤ 140737488351232 := by
    obtain ⟨fuel, hf⟩ := h0
    rcases open_ints Try.underlying25 Try.underlying5 (by kernel_rfl) hf with ⟨hcs, _⟩ | ⟨x, l, c, zs, hcs, _, hl, hm, hz, hd, hcell, hwz⟩
    · simp [Value.cells] at hcs
      obtain ⟨rfl, rfl, rfl⟩ := hcs
      exact ⟨[], rfl, ⟨(fun x h => by cases h), .inl rfl⟩, fun _ => rfl, ⟨Nat.le_refl _, Nat.zero_le _⟩, by simp⟩
    · simp [Value.cells] at hcs
      obtain ⟨rfl, rfl, rfl⟩ := hcs
      have hz' : zs.length = cap0 := by simpa using hz
      obtain ⟨xs, h1, h2⟩ := bts_of_ints hl hz' hcell hwz
      have hd' := (Prod.mk.inj hd).1
      have hw := sized_slice hsz (j := 0) (t := 25) (e := 5) rfl (by rw [hd']; rfl) Try.underlying25
      rw [bytes5] at hw
      simp only [lits, List.length_map, List.length_take, List.length_drop, reachBytes] at hw
      exact ⟨xs, h1, h2, (fun h => by cases h), ⟨by omega, hm⟩, by omega⟩
  clear hA0 hval0 hsz hsz0
  subst hxl0
  obtain ⟨n1, rfl, hn1⟩ := nat_of_u32 w1
  obtain ⟨n2, rfl, hn2⟩ := nat_of_u32 w2
  refine (walk a0 xs0 cap0 n1 n2 W hbt0 hcap0 hlc0 hre0 hn1 hn2).mono fun e W' ⟨he, bel⟩ => ?_
  subst he
  exact ⟨_, rfl, _, _, _, [], _, [], hW', trodAll_mk1 (shut_bool Try.underlying4 _), (trodAll_cons_mk (Below.trod laidOut (by kernel_rfl) (of_decide_eq_true (by kernel_rfl)) k0 bel lt0) (trodAll_cons_mk (shut_int Try.underlying23 w1) (trodAll_cons_mk (shut_int Try.underlying23 w2) trodAll_mk0))), rfl, bel.frame _, fun h => by cases h⟩

theorem over : Rows.tcpwireRepairsRow.holds Try.pinned (OpenSpec.ofChange Rows.tcpwireRepairsSpec) :=
  OpenClaim.holds_of_wide 4 Try.f4 rfl rfl rfl rfl rfl rfl rfl ⟨rfl, rfl, rfl, rfl, rfl⟩ rfl rfl rfl rfl rfl (by kernel_rfl) Try.func4 (by kernel_rfl)
    (of_decide_eq_true (by kernel_rfl)) (by unfold Func.isWrapper; first | (rw [if_pos (by decide +kernel)]; kernel_rfl) | (rw [if_neg (by decide +kernel)]; exact ⟨rfl, rfl⟩))
    (fun os started H enc _ => lifted os started H enc)

end Go.Proofs.Ytgmgoilleakdcaa.tcpwireRepairs
namespace Go.Proofs.Ytgmgoilleakdcaa
/-- The statement. -/
theorem tcpwireRepairs_holds : Rows.TcpwireRepairsSaid := tcpwireRepairs.over
#print axioms tcpwireRepairs_holds
end Go.Proofs.Ytgmgoilleakdcaa
