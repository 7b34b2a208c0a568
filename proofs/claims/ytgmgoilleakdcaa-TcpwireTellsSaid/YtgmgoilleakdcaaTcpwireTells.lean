/- For every segment, every two addresses and any octets: the segment's octets, or why it may be none, the octets read as a segment, or why they are none, whether the segment may be, and how many numbers it takes, are as the document says; what is handed in stays. No condition. -/
import Derived.Test.YtgmgoilleakdcaaRows
import Derived.Test.YtgmgoilleakdcaaTcpRq
import Derived.Test.YtgmgoilleakdcaaAlive5
import Derived.Test.YtgmgoilleakdcaaTcpRr
import Derived.Test.YtgmgoilleakdcaaTcpRg
import Derived.Test.YtgmgoilleakdcaaGFrame
import Derived.Test.YtgmgoilleakdcaaGAgg
import Derived.Deep.DeepCutAuto
import Derived.RegionTactic
import Derived.Deep.RegionHeld3
import Derived.ProofKit
import Derived.OpenShut
import Derived.ChangeOld
import Derived.SizedLaws
namespace Go.Proofs.Ytgmgoilleakdcaa.tcpwireTells
open Go.ChangeShapes Go.WideShapes Go.ChangeAt Go.RowKit Go.Deep Go.Proofs.Ytgmgoilleakdcaa.law5

set_option linter.unusedSimpArgs false in
set_option maxRecDepth 100000 in
set_option maxHeartbeats 8000000 in
theorem walk (sp dp sq ak fl wn ur : Nat) (mss : Int) (hs : Bool) (sc : Int) (sk : Bool) (ba : Option Addr) (bs : List (Nat × Nat)) (bc : Nat) (ht : Bool) (tv te : Nat) (da : Option Addr) (ds : List Nat) (dc : Nat) (src dst : Nat) (ea : Option Addr) (es : List Nat) (ec : Nat) (w : World)
    (hsp : sp < 65536) (hdp : dp < 65536) (hsq : sq < 4294967296) (hak : ak < 4294967296) (hfl : fl < 256) (hwn : wn < 65536) (hur : ur < 65536) (_ : -9223372036854775808 ≤ mss) (_ : mss ≤ 9223372036854775807) (_ : -9223372036854775808 ≤ sc) (_ : sc ≤ 9223372036854775807) (hx : Blk w ba bs) (hbc : ba = none → bc = 0) (_ : bs.length ≤ bc ∧ bc ≤ maxLen) (hbl : bs.length ≤ 17592186043904) (htv : tv < 4294967296) (hte : te < 4294967296) (hy : Bts w da ds) (hdc : da = none → dc = 0) (_ : ds.length ≤ dc ∧ dc ≤ maxLen) (hdl : ds.length ≤ 140737488351232) (hsrc : src < 4294967296) (hdst : dst < 4294967296) (he : Bts w ea es) (hen : ea = none → ec = 0) (hec : es.length ≤ ec ∧ ec ≤ maxLen) (hel : es.length ≤ 140737488351232) :
    Calls Try.prog 3 #[.agg #[.int .u16 (sp : Nat), .int .u16 (dp : Nat), .int .u32 (sq : Nat), .int .u32 (ak : Nat), .int .u8 (fl : Nat), .int .u16 (wn : Nat), .int .u16 (ur : Nat), .int .i64 mss, .bool hs, .int .i64 sc, .bool sk, .slice ba bs.length bc, .bool ht, .int .u32 (tv : Nat), .int .u32 (te : Nat), .slice da ds.length dc], .int .u32 (src : Nat), .int .u32 (dst : Nat), .slice ea es.length ec] w fun e w' => e = .returned (.bool true) ∧ Below w.heap.size w w' := by
  have HBN := Lib.hid hen
  have h1c := hec.1
  have EC := Lib.hid hec
  obtain ⟨n, R, hR, C1, C2, B1, B2⟩ := build_any sp dp sq ak fl wn ur mss hs sc sk bs ht tv te ds src dst hsp hdp hsq hak hfl hwn hur htv hte hsrc hdst
  obtain ⟨p1, p2, p3, p4, p5, p6, p7, s, qs, er, hsl, hql, P1, P2⟩ := any_parse es src dst he.1 (by omega) hsrc hdst
  have CK : Hid (∀ ia ic ja jc W, Blk W ia bs → Calls Try.prog 15 #[.agg #[.int .u16 (sp : Nat), .int .u16 (dp : Nat), .int .u32 (sq : Nat), .int .u32 (ak : Nat), .int .u8 (fl : Nat), .int .u16 (wn : Nat), .int .u16 (ur : Nat), .int .i64 mss, .bool hs, .int .i64 sc, .bool sk, .slice ia bs.length ic, .bool ht, .int .u32 (tv : Nat), .int .u32 (te : Nat), .slice ja ds.length jc]] W fun e w' => e = .returned (.int .i64 n) ∧ Below W.heap.size W w') := Lib.hid C1
  have CR : Hid (∀ ia ic ja jc W, Blk W ia bs → Calls Try.prog 16 #[.agg #[.int .u16 (sp : Nat), .int .u16 (dp : Nat), .int .u32 (sq : Nat), .int .u32 (ak : Nat), .int .u8 (fl : Nat), .int .u16 (wn : Nat), .int .u16 (ur : Nat), .int .i64 mss, .bool hs, .int .i64 sc, .bool sk, .slice ia bs.length ic, .bool ht, .int .u32 (tv : Nat), .int .u32 (te : Nat), .slice ja ds.length jc]] W fun e w' => e = .returned (.int .i64 n) ∧ Below W.heap.size W w') := Lib.hid C2
  have BK : Hid (∀ ia ic ja jc W, Blk W ia bs → Bts W ja ds → (ja = none → jc = 0) → Calls Try.prog 8 #[.agg #[.int .u16 (sp : Nat), .int .u16 (dp : Nat), .int .u32 (sq : Nat), .int .u32 (ak : Nat), .int .u8 (fl : Nat), .int .u16 (wn : Nat), .int .u16 (ur : Nat), .int .i64 mss, .bool hs, .int .i64 sc, .bool sk, .slice ia bs.length ic, .bool ht, .int .u32 (tv : Nat), .int .u32 (te : Nat), .slice ja ds.length jc], .int .u32 (src : Nat), .int .u32 (dst : Nat)] W fun e w' => ∃ a c, e = .returned (.tuple #[.slice a R.length c, .int .i64 n]) ∧ Bts w' a R ∧ Below W.heap.size W w') := Lib.hid B1
  have BR : Hid (∀ ia ic ja jc W, Blk W ia bs → Bts W ja ds → (ja = none → jc = 0) → Calls Try.prog 9 #[.agg #[.int .u16 (sp : Nat), .int .u16 (dp : Nat), .int .u32 (sq : Nat), .int .u32 (ak : Nat), .int .u8 (fl : Nat), .int .u16 (wn : Nat), .int .u16 (ur : Nat), .int .i64 mss, .bool hs, .int .i64 sc, .bool sk, .slice ia bs.length ic, .bool ht, .int .u32 (tv : Nat), .int .u32 (te : Nat), .slice ja ds.length jc], .int .u32 (src : Nat), .int .u32 (dst : Nat)] W fun e w' => ∃ a c, e = .returned (.tuple #[.slice a R.length c, .int .i64 n]) ∧ Bts w' a R ∧ Below W.heap.size W w') := Lib.hid B2
  have PA : Hid (∀ a cap W, Bts W a es → es.length ≤ cap → Calls Try.prog 10 #[.slice a es.length cap, .int .u32 (src : Nat), .int .u32 (dst : Nat)] W fun e w' => ∃ da1 dc1 va1 vc1, e = .returned (.tuple #[.agg #[.int .u16 (p1 : Nat), .int .u16 (p2 : Nat), .int .u32 (p3 : Nat), .int .u32 (p4 : Nat), .int .u8 (p5 : Nat), .int .u16 (p6 : Nat), .int .u16 (p7 : Nat), .int .i64 (s.mss : Nat), .bool s.hs, .int .i64 (s.sc : Nat), .bool s.sk, .slice va1 s.bs.length vc1, .bool s.ht, .int .u32 (s.tv : Nat), .int .u32 (s.te : Nat), .slice da1 qs.length dc1], .int .i64 er]) ∧ Below W.heap.size W w' ∧ Bts w' da1 qs ∧ Blk w' va1 s.bs) := Lib.hid P1
  have PB : Hid (∀ a cap W, Bts W a es → es.length ≤ cap → Calls Try.prog 11 #[.slice a es.length cap, .int .u32 (src : Nat), .int .u32 (dst : Nat)] W fun e w' => ∃ da2 dc2 va2 vc2, e = .returned (.tuple #[.agg #[.int .u16 (p1 : Nat), .int .u16 (p2 : Nat), .int .u32 (p3 : Nat), .int .u32 (p4 : Nat), .int .u8 (p5 : Nat), .int .u16 (p6 : Nat), .int .u16 (p7 : Nat), .int .i64 (s.mss : Nat), .bool s.hs, .int .i64 (s.sc : Nat), .bool s.sk, .slice va2 s.bs.length vc2, .bool s.ht, .int .u32 (s.tv : Nat), .int .u32 (s.te : Nat), .slice da2 qs.length dc2], .int .i64 er]) ∧ Below W.heap.size W w' ∧ Bts w' da2 qs ∧ Blk w' va2 s.bs) := Lib.hid P2
  obtain ⟨ln, hln⟩ : ∃ z, ((ds.length : Int) + (if (bits .and .u8 (fl : Int) 2 != 0) = true then 1 else 0) + (if (bits .and .u8 (fl : Int) 1 != 0) = true then 1 else 0)) = z := ⟨_, rfl⟩
  have LK : Hid (∀ ia ic ja jc W, Calls Try.prog 17 #[.agg #[.int .u16 (sp : Nat), .int .u16 (dp : Nat), .int .u32 (sq : Nat), .int .u32 (ak : Nat), .int .u8 (fl : Nat), .int .u16 (wn : Nat), .int .u16 (ur : Nat), .int .i64 mss, .bool hs, .int .i64 sc, .bool sk, .slice ia bs.length ic, .bool ht, .int .u32 (tv : Nat), .int .u32 (te : Nat), .slice ja ds.length jc]] W fun e w' => e = .returned (.int .i64 ln) ∧ Below W.heap.size W w') := Lib.hid (fun ia ic ja jc W => by rw [← hln]; exact tlengthI_any sp dp sq ak fl wn ur mss hs sc sk ia bs.length ic ht tv te ja ds.length jc W (by omega))
  have LR : Hid (∀ ia ic ja jc W, Calls Try.prog 18 #[.agg #[.int .u16 (sp : Nat), .int .u16 (dp : Nat), .int .u32 (sq : Nat), .int .u32 (ak : Nat), .int .u8 (fl : Nat), .int .u16 (wn : Nat), .int .u16 (ur : Nat), .int .i64 mss, .bool hs, .int .i64 sc, .bool sk, .slice ia bs.length ic, .bool ht, .int .u32 (tv : Nat), .int .u32 (te : Nat), .slice ja ds.length jc]] W fun e w' => e = .returned (.int .i64 ln) ∧ Below W.heap.size W w') := Lib.hid (fun ia ic ja jc W => by rw [← hln]; exact rlength_any sp dp sq ak fl wn ur mss hs sc sk ia bs.length ic ht tv te ja ds.length jc W (by omega))
  have ST : Hid (∀ va1 va2 da1 da2 vc1 vc2 dc1 dc2 W, Blk W va1 s.bs → Blk W va2 s.bs → Bts W da1 qs → Bts W da2 qs → Calls Try.prog 14 #[.agg #[.int .u16 (p1 : Nat), .int .u16 (p2 : Nat), .int .u32 (p3 : Nat), .int .u32 (p4 : Nat), .int .u8 (p5 : Nat), .int .u16 (p6 : Nat), .int .u16 (p7 : Nat), .int .i64 (s.mss : Nat), .bool s.hs, .int .i64 (s.sc : Nat), .bool s.sk, .slice va1 s.bs.length vc1, .bool s.ht, .int .u32 (s.tv : Nat), .int .u32 (s.te : Nat), .slice da1 qs.length dc1], .agg #[.int .u16 (p1 : Nat), .int .u16 (p2 : Nat), .int .u32 (p3 : Nat), .int .u32 (p4 : Nat), .int .u8 (p5 : Nat), .int .u16 (p6 : Nat), .int .u16 (p7 : Nat), .int .i64 (s.mss : Nat), .bool s.hs, .int .i64 (s.sc : Nat), .bool s.sk, .slice va2 s.bs.length vc2, .bool s.ht, .int .u32 (s.tv : Nat), .int .u32 (s.te : Nat), .slice da2 qs.length dc2]] W fun e w' => e = .returned (.bool true) ∧ Below W.heap.size W w') := Lib.hid (fun va1 va2 da1 da2 vc1 vc2 dc1 dc2 W h1 h2 h3 h4 => sameTcpV p1 p2 p3 p4 p5 p6 p7 s.mss s.hs s.sc s.sk s.bs s.ht s.tv s.te qs va1 va2 da1 da2 vc1 vc2 dc1 dc2 W h1 h2 (by omega) h3 h4 (by omega))
  have SI : Hid (∀ ia ic ja jc W, Blk W ia bs → Blk W ba bs → Bts W ja ds → Bts W da ds → Calls Try.prog 14 #[.agg #[.int .u16 (sp : Nat), .int .u16 (dp : Nat), .int .u32 (sq : Nat), .int .u32 (ak : Nat), .int .u8 (fl : Nat), .int .u16 (wn : Nat), .int .u16 (ur : Nat), .int .i64 mss, .bool hs, .int .i64 sc, .bool sk, .slice ia bs.length ic, .bool ht, .int .u32 (tv : Nat), .int .u32 (te : Nat), .slice ja ds.length jc], .agg #[.int .u16 (sp : Nat), .int .u16 (dp : Nat), .int .u32 (sq : Nat), .int .u32 (ak : Nat), .int .u8 (fl : Nat), .int .u16 (wn : Nat), .int .u16 (ur : Nat), .int .i64 mss, .bool hs, .int .i64 sc, .bool sk, .slice ba bs.length bc, .bool ht, .int .u32 (tv : Nat), .int .u32 (te : Nat), .slice da ds.length dc]] W fun e w' => e = .returned (.bool true) ∧ Below W.heap.size W w') := Lib.hid (fun ia ic ja jc W h1 h2 h3 h4 => sameTcp_one sp dp sq ak fl wn ur mss hs sc sk ia ba bs ic bc ht tv te ja da ds jc dc W h1 h2 (by omega) h3 h4 (by omega))
  have e1 : (n != n) = false := by simp
  have e2 : (er != er) = false := by simp
  have e3 : (n == n) = true := beq_self_eq_true _
  have e4 : (ln == ln) = true := beq_self_eq_true _
  have HDC := Lib.hid hdc
  have HX := Lib.hid hx
  have HY := Lib.hid hy
  have HE := Lib.hid he
  have bw := (Below.refl _ w).alloc (Nat.le_refl _) (.cells #[.int .u16 (sp : Nat), .int .u16 (dp : Nat), .int .u32 (sq : Nat), .int .u32 (ak : Nat), .int .u8 (fl : Nat), .int .u16 (wn : Nat), .int .u16 (ur : Nat), .int .i64 mss, .bool hs, .int .i64 sc, .bool sk, .slice ba bs.length bc, .bool ht, .int .u32 (tv : Nat), .int .u32 (te : Nat), .slice da ds.length dc] 27)
  have HRL : Hid (R.length ≤ 140737488355328) := Lib.hid (by omega)
  have HEL : Hid (es.length ≤ 140737488355328) := Lib.hid (by omega)
  have K1 : Hid (TcpAt (w.alloc (.cells #[.int .u16 (sp : Nat), .int .u16 (dp : Nat), .int .u32 (sq : Nat), .int .u32 (ak : Nat), .int .u8 (fl : Nat), .int .u16 (wn : Nat), .int .u16 (ur : Nat), .int .i64 mss, .bool hs, .int .i64 sc, .bool sk, .slice ba bs.length bc, .bool ht, .int .u32 (tv : Nat), .int .u32 (te : Nat), .slice da ds.length dc] 27)) w.heap.size #[.int .u16 (sp : Nat), .int .u16 (dp : Nat), .int .u32 (sq : Nat), .int .u32 (ak : Nat), .int .u8 (fl : Nat), .int .u16 (wn : Nat), .int .u16 (ur : Nat), .int .i64 mss, .bool hs, .int .i64 sc, .bool sk, .slice ba bs.length bc, .bool ht, .int .u32 (tv : Nat), .int .u32 (te : Nat), .slice da ds.length dc]) := Lib.hid (blk_new w _)
  have hz1 : Hid (w.heap.size < (w.alloc (.cells #[.int .u16 (sp : Nat), .int .u16 (dp : Nat), .int .u32 (sq : Nat), .int .u32 (ak : Nat), .int .u8 (fl : Nat), .int .u16 (wn : Nat), .int .u16 (ur : Nat), .int .i64 mss, .bool hs, .int .i64 sc, .bool sk, .slice ba bs.length bc, .bool ht, .int .u32 (tv : Nat), .int .u32 (te : Nat), .slice da ds.length dc] 27)).heap.size) := Lib.hid (by rw [World.size_alloc]; exact Nat.lt_succ_self _)
  have Q1 := Lib.hid bw
  have HCB : Hid (∀ W, Below (w.alloc (.cells #[.int .u16 (sp : Nat), .int .u16 (dp : Nat), .int .u32 (sq : Nat), .int .u32 (ak : Nat), .int .u8 (fl : Nat), .int .u16 (wn : Nat), .int .u16 (ur : Nat), .int .i64 mss, .bool hs, .int .i64 sc, .bool sk, .slice ba bs.length bc, .bool ht, .int .u32 (tv : Nat), .int .u32 (te : Nat), .slice da ds.length dc] 27)).heap.size (w.alloc (.cells #[.int .u16 (sp : Nat), .int .u16 (dp : Nat), .int .u32 (sq : Nat), .int .u32 (ak : Nat), .int .u8 (fl : Nat), .int .u16 (wn : Nat), .int .u16 (ur : Nat), .int .i64 mss, .bool hs, .int .i64 sc, .bool sk, .slice ba bs.length bc, .bool ht, .int .u32 (tv : Nat), .int .u32 (te : Nat), .slice da ds.length dc] 27)) W → Calls Try.prog 6 #[.slice ea es.length ec] W fun e w' => ∃ oa oc, e = .returned (.slice oa es.length oc) ∧ OwnSl W.heap.size oa es oc w' ∧ Below W.heap.size W w') := Lib.hid (fun W hW => copy_one ea es ec W (he.below (bw.trans (hW.mono bw.size))) (by omega) hen)
  have HCT : Hid (∀ W, Below (w.alloc (.cells #[.int .u16 (sp : Nat), .int .u16 (dp : Nat), .int .u32 (sq : Nat), .int .u32 (ak : Nat), .int .u8 (fl : Nat), .int .u16 (wn : Nat), .int .u16 (ur : Nat), .int .i64 mss, .bool hs, .int .i64 sc, .bool sk, .slice ba bs.length bc, .bool ht, .int .u32 (tv : Nat), .int .u32 (te : Nat), .slice da ds.length dc] 27)).heap.size (w.alloc (.cells #[.int .u16 (sp : Nat), .int .u16 (dp : Nat), .int .u32 (sq : Nat), .int .u32 (ak : Nat), .int .u8 (fl : Nat), .int .u16 (wn : Nat), .int .u16 (ur : Nat), .int .i64 mss, .bool hs, .int .i64 sc, .bool sk, .slice ba bs.length bc, .bool ht, .int .u32 (tv : Nat), .int .u32 (te : Nat), .slice da ds.length dc] 27)) W → Calls Try.prog 7 #[.agg #[.int .u16 (sp : Nat), .int .u16 (dp : Nat), .int .u32 (sq : Nat), .int .u32 (ak : Nat), .int .u8 (fl : Nat), .int .u16 (wn : Nat), .int .u16 (ur : Nat), .int .i64 mss, .bool hs, .int .i64 sc, .bool sk, .slice ba bs.length bc, .bool ht, .int .u32 (tv : Nat), .int .u32 (te : Nat), .slice da ds.length dc]] W fun e w' => ∃ ia ic ja jc, e = .returned (.agg #[.int .u16 (sp : Nat), .int .u16 (dp : Nat), .int .u32 (sq : Nat), .int .u32 (ak : Nat), .int .u8 (fl : Nat), .int .u16 (wn : Nat), .int .u16 (ur : Nat), .int .i64 mss, .bool hs, .int .i64 sc, .bool sk, .slice ia bs.length ic, .bool ht, .int .u32 (tv : Nat), .int .u32 (te : Nat), .slice ja ds.length jc]) ∧ OwnBlk W.heap.size w' ia bs ic ∧ OwnSl W.heap.size ja ds jc w' ∧ Below W.heap.size W w') := Lib.hid (fun W hW => copyTcp_one sp dp sq ak fl wn ur mss hs sc sk ba bs bc ht tv te da ds dc W (hx.below (bw.trans (hW.mono bw.size))) (hy.below (bw.trans (hW.mono bw.size))) hbc hdc (by omega) (by omega))
  clear hen hec h1c hR C1 C2 B1 B2 hsl hql P1 P2 hln hdc hx hy he bw hsp hdp hsq hak hfl hwn hur htv hte hsrc hdst hbc
  go_enter Try.func3, Try.ntmps3
  go_upto_region 1 with fail
  generalize w.alloc (.cells #[.int .u16 (sp : Nat), .int .u16 (dp : Nat), .int .u32 (sq : Nat), .int .u32 (ak : Nat), .int .u8 (fl : Nat), .int .u16 (wn : Nat), .int .u16 (ur : Nat), .int .i64 mss, .bool hs, .int .i64 sc, .bool sk, .slice ba bs.length bc, .bool ht, .int .u32 (tv : Nat), .int .u32 (te : Nat), .slice da ds.length dc] 27) = V1 at K1 hz1 Q1 HCB HCT ⊢
  go_cut [9, 10] from 19 to 22 (fun (v9 v10 : Value) wx => ∃ oa oc g ia ic ja jc, v9 = .slice oa es.length oc ∧ v10 = .pointer (some ⟨g, 0, none⟩) ∧ V1.heap.size ≤ g ∧ TcpAt wx g #[.int .u16 (sp : Nat), .int .u16 (dp : Nat), .int .u32 (sq : Nat), .int .u32 (ak : Nat), .int .u8 (fl : Nat), .int .u16 (wn : Nat), .int .u16 (ur : Nat), .int .i64 mss, .bool hs, .int .i64 sc, .bool sk, .slice ia bs.length ic, .bool ht, .int .u32 (tv : Nat), .int .u32 (te : Nat), .slice ja ds.length jc] ∧ OwnSl V1.heap.size oa es oc wx ∧ OwnBlk V1.heap.size wx ia bs ic ∧ OwnSl V1.heap.size ja ds jc wx ∧ Below V1.heap.size V1 wx)
  case first =>
    refine wp_region_held_drew (S := fun W => Below V1.heap.size V1 W) (by kernel_rfl) (Below.refl V1.heap.size V1).drew (fun hHeld => ?_)
    refine wpAnyH_take (i := 0) (oi := _) (v := ?_) rfl (by kernel_rfl) (by kernel_rfl) (by kernel_rfl) (fun _ _ _ h => h) (Or.inl ⟨by rfl, ?_⟩) (by assumption) ?_
    rotate_left
    · intro w hSw
      try dsimp only at hSw
      go_simp
      all_goals with_reducible rfl
    (try simp only [List.getElem_toArray]); (try simp only [List.getElem_cons_succ]); (try simp only [List.getElem_cons_zero]); try simp only [Act.put, List.setIfInBounds_toArray, List.set_cons_zero, List.set_cons_succ]
    refine wpAnyH_take (i := 2) (oi := _) (v := .agg #[.int .u16 (sp : Nat), .int .u16 (dp : Nat), .int .u32 (sq : Nat), .int .u32 (ak : Nat), .int .u8 (fl : Nat), .int .u16 (wn : Nat), .int .u16 (ur : Nat), .int .i64 mss, .bool hs, .int .i64 sc, .bool sk, .slice ba bs.length bc, .bool ht, .int .u32 (tv : Nat), .int .u32 (te : Nat), .slice da ds.length dc]) rfl (by kernel_rfl) (by kernel_rfl) (by kernel_rfl) (fun _ _ _ h => h) (yieldsIf_tcp rfl (.tmp 4) rfl w.heap.size rfl _ (fun W hW => (show TcpAt W w.heap.size _ from ((show Below V1.heap.size V1 W from hW).block _ hz1.out).trans K1.out)) rfl) (by assumption) ?_
    (try simp only [List.getElem_toArray]); (try simp only [List.getElem_cons_succ]); (try simp only [List.getElem_cons_zero]); try simp only [Act.put, List.setIfInBounds_toArray, List.set_cons_zero, List.set_cons_succ]
    refine wpAnyH_ready (rs := [1, 4]) (by kernel_rfl) (by simp) ?_
    refine (AllReadyH.cons (o := _) rfl (fun K hK => ?_) (AllReadyH.cons (o := _) rfl (fun K hK => ?_) AllReadyH.nil))
    · (try simp only [List.getElem_toArray]); (try simp only [List.getElem_cons_succ]); (try simp only [List.getElem_cons_zero])
      go_simp
      go_at_call 6
      refine (HCB.out _ (show Below V1.heap.size V1 _ from hHeld)).mono ?_
      rintro e U0 ⟨oa, oc, rfl, O, b⟩
      try dsimp only
      have O1 := Lib.hid O
      have b1 := Lib.hid b
      have hHB0 := Lib.hid ((show Below V1.heap.size V1 _ from hHeld).trans (b.mono (show Below V1.heap.size V1 _ from hHeld).size))
      clear O b
      refine hK.out _ _ ?_ (fun hHeld => ?_)
      · exact hHB0.out
      clear hK K
      (try simp only [List.getElem_toArray]); (try simp only [List.getElem_cons_succ]); (try simp only [List.getElem_cons_zero]); try simp only [Act.put, List.setIfInBounds_toArray, List.set_cons_zero, List.set_cons_succ]
      refine wpAnyH_ready (rs := [3, 4]) (by kernel_rfl) (by simp) ?_
      refine (AllReadyH.cons (o := _) rfl (fun K hK => ?_) (AllReadyH.cons (o := _) rfl (fun K hK => ?_) AllReadyH.nil))
      · (try simp only [List.getElem_toArray]); (try simp only [List.getElem_cons_succ]); (try simp only [List.getElem_cons_zero])
        go_simp
        go_at_call 7
        refine (HCT.out _ (show Below V1.heap.size V1 _ from hHeld)).mono ?_
        rintro e X1 ⟨ia, ic, ja, jc, rfl, I, J, b⟩
        try dsimp only
        have I1 := Lib.hid I
        have J1 := Lib.hid J
        have b2 := Lib.hid b
        have hHB1 := Lib.hid ((show Below V1.heap.size V1 _ from hHeld).trans (b.mono (show Below V1.heap.size V1 _ from hHeld).size))
        clear I J b
        refine hK.out _ _ ?_ (fun hHeld => ?_)
        · exact hHB1.out
        clear hK K
        (try simp only [List.getElem_toArray]); (try simp only [List.getElem_cons_succ]); (try simp only [List.getElem_cons_zero]); try simp only [Act.put, List.setIfInBounds_toArray, List.set_cons_zero, List.set_cons_succ]
        refine wpAnyH_ready (rs := [4]) (by kernel_rfl) (by simp) ?_
        refine (AllReadyH.cons (o := _) rfl (fun K hK => ?_) AllReadyH.nil)
        · (try simp only [List.getElem_toArray]); (try simp only [List.getElem_cons_succ]); (try simp only [List.getElem_cons_zero])
          go_simp
          have hHB2 := Lib.hid ((show Below V1.heap.size V1 _ from hHeld).alloc (show Below V1.heap.size V1 _ from hHeld).size (.cells #[.int .u16 0, .int .u16 0, .int .u32 0, .int .u32 0, .int .u8 0, .int .u16 0, .int .u16 0, .int .i64 0, .bool false, .int .i64 0, .bool false, .slice none 0 0, .bool false, .int .u32 0, .int .u32 0, .slice none 0 0] 27))
          have bA := Lib.hid ((Below.refl X1.heap.size X1).alloc (Nat.le_refl _) (.cells #[.int .u16 0, .int .u16 0, .int .u32 0, .int .u32 0, .int .u8 0, .int .u16 0, .int .u16 0, .int .i64 0, .bool false, .int .i64 0, .bool false, .slice none 0 0, .bool false, .int .u32 0, .int .u32 0, .slice none 0 0] 27))
          refine hK.out _ _ ?_ (fun hHeld => ?_)
          · exact hHB2.out
          clear hK K
          (try simp only [List.getElem_toArray]); (try simp only [List.getElem_cons_succ]); (try simp only [List.getElem_cons_zero]); try simp only [Act.put, List.setIfInBounds_toArray, List.set_cons_zero, List.set_cons_succ]
          refine wpAnyH_take (i := 5) (oi := _) (v := ?_) rfl (by kernel_rfl) (by kernel_rfl) (by kernel_rfl) (fun _ _ _ h => h) (Or.inl ⟨by rfl, ?_⟩) (by assumption) ?_
          rotate_left
          · intro w hSw
            try dsimp only at hSw
            go_simp
            all_goals with_reducible rfl
          (try simp only [List.getElem_toArray]); (try simp only [List.getElem_cons_succ]); (try simp only [List.getElem_cons_zero]); try simp only [Act.put, List.setIfInBounds_toArray, List.set_cons_zero, List.set_cons_succ]
          refine wpAnyH_ready (rs := [6]) (by kernel_rfl) (by simp) ?_
          refine (AllReadyH.cons (o := _) rfl (fun K hK => ?_) AllReadyH.nil)
          · have Gz : Hid (TcpAt (X1.alloc (.cells #[.int .u16 0, .int .u16 0, .int .u32 0, .int .u32 0, .int .u8 0, .int .u16 0, .int .u16 0, .int .i64 0, .bool false, .int .i64 0, .bool false, .slice none 0 0, .bool false, .int .u32 0, .int .u32 0, .slice none 0 0] 27)) X1.heap.size #[.int .u16 0, .int .u16 0, .int .u32 0, .int .u32 0, .int .u8 0, .int .u16 0, .int .u16 0, .int .i64 0, .bool false, .int .i64 0, .bool false, .slice none 0 0, .bool false, .int .u32 0, .int .u32 0, .slice none 0 0]) := Lib.hid (blk_new X1 (.cells #[.int .u16 0, .int .u16 0, .int .u32 0, .int .u32 0, .int .u8 0, .int .u16 0, .int .u16 0, .int .i64 0, .bool false, .int .i64 0, .bool false, .slice none 0 0, .bool false, .int .u32 0, .int .u32 0, .slice none 0 0] 27))
            refine step_store_tcp rfl (.tmp 10) (.tmp 22) rfl X1.heap.size _ _ rfl rfl Gz.out rfl rfl (by simp [Value.oneCell']) ?_
            intro WF hT hg
            have BF : Hid (Below V1.heap.size V1 WF) := Lib.hid (hHB2.out.trans (((Below.refl V1.heap.size (X1.alloc (.cells #[.int .u16 0, .int .u16 0, .int .u32 0, .int .u32 0, .int .u8 0, .int .u16 0, .int .u16 0, .int .i64 0, .bool false, .int .i64 0, .bool false, .slice none 0 0, .bool false, .int .u32 0, .int .u32 0, .slice none 0 0] 27))).grown hg hHB2.out.size (fun k e => by cases e; exact (show V1.heap.size ≤ X1.heap.size from hHB1.out.size)))))
            have OF : Hid (OwnSl V1.heap.size oa es oc WF) := Lib.hid (((O1.out.below b2.out).below (bA.out.trans ((Below.refl _ _).grown hg bA.out.size (fun k e => by cases e; exact Nat.le_refl _)))).mono (show V1.heap.size ≤ _ from (Below.refl V1.heap.size V1).drew.size))
            have JF : Hid (OwnSl V1.heap.size ja ds jc WF) := Lib.hid ((J1.out.below (bA.out.trans ((Below.refl _ _).grown hg bA.out.size (fun k e => by cases e; exact Nat.le_refl _)))).mono hHB0.out.size)
            have IF : Hid (OwnBlk V1.heap.size WF ia bs ic) := Lib.hid ((I1.out.below (bA.out.trans ((Below.refl _ _).grown hg bA.out.size (fun k e => by cases e; exact Nat.le_refl _)))).mono hHB0.out.size)
            have TF := Lib.hid hT
            clear hT hg
            refine hK.out _ _ ?_ (fun hHeld => ?_)
            · exact BF.out
            clear hK K
            (try simp only [List.getElem_toArray]); (try simp only [List.getElem_cons_succ]); (try simp only [List.getElem_cons_zero]); try simp only [Act.put, List.setIfInBounds_toArray, List.set_cons_zero, List.set_cons_succ]
            refine wpAnyH_done (by kernel_rfl) ?_ _
            go_wp2_with fail
            go_meet
            exact ⟨oa, oc, X1.heap.size, ia, ic, ja, jc, rfl, rfl, (show V1.heap.size ≤ X1.heap.size from hHB1.out.size), TF.out, OF.out, IF.out, JF.out, BF.out⟩
      · (try simp only [List.getElem_toArray]); (try simp only [List.getElem_cons_succ]); (try simp only [List.getElem_cons_zero])
        go_simp
        have hHB1 := Lib.hid ((show Below V1.heap.size V1 _ from hHeld).alloc (show Below V1.heap.size V1 _ from hHeld).size (.cells #[.int .u16 0, .int .u16 0, .int .u32 0, .int .u32 0, .int .u8 0, .int .u16 0, .int .u16 0, .int .i64 0, .bool false, .int .i64 0, .bool false, .slice none 0 0, .bool false, .int .u32 0, .int .u32 0, .slice none 0 0] 27))
        have bA := Lib.hid ((Below.refl U0.heap.size U0).alloc (Nat.le_refl _) (.cells #[.int .u16 0, .int .u16 0, .int .u32 0, .int .u32 0, .int .u8 0, .int .u16 0, .int .u16 0, .int .i64 0, .bool false, .int .i64 0, .bool false, .slice none 0 0, .bool false, .int .u32 0, .int .u32 0, .slice none 0 0] 27))
        refine hK.out _ _ ?_ (fun hHeld => ?_)
        · exact hHB1.out
        clear hK K
        (try simp only [List.getElem_toArray]); (try simp only [List.getElem_cons_succ]); (try simp only [List.getElem_cons_zero]); try simp only [Act.put, List.setIfInBounds_toArray, List.set_cons_zero, List.set_cons_succ]
        refine wpAnyH_ready (rs := [3]) (by kernel_rfl) (by simp) ?_
        refine (AllReadyH.cons (o := _) rfl (fun K hK => ?_) AllReadyH.nil)
        · (try simp only [List.getElem_toArray]); (try simp only [List.getElem_cons_succ]); (try simp only [List.getElem_cons_zero])
          go_simp
          go_at_call 7
          refine (HCT.out _ (show Below V1.heap.size V1 _ from hHeld)).mono ?_
          rintro e X2 ⟨ia, ic, ja, jc, rfl, I, J, b⟩
          try dsimp only
          have I1 := Lib.hid I
          have J1 := Lib.hid J
          have b2 := Lib.hid b
          have hHB2 := Lib.hid ((show Below V1.heap.size V1 _ from hHeld).trans (b.mono (show Below V1.heap.size V1 _ from hHeld).size))
          clear I J b
          refine hK.out _ _ ?_ (fun hHeld => ?_)
          · exact hHB2.out
          clear hK K
          (try simp only [List.getElem_toArray]); (try simp only [List.getElem_cons_succ]); (try simp only [List.getElem_cons_zero]); try simp only [Act.put, List.setIfInBounds_toArray, List.set_cons_zero, List.set_cons_succ]
          refine wpAnyH_take (i := 5) (oi := _) (v := ?_) rfl (by kernel_rfl) (by kernel_rfl) (by kernel_rfl) (fun _ _ _ h => h) (Or.inl ⟨by rfl, ?_⟩) (by assumption) ?_
          rotate_left
          · intro w hSw
            try dsimp only at hSw
            go_simp
            all_goals with_reducible rfl
          (try simp only [List.getElem_toArray]); (try simp only [List.getElem_cons_succ]); (try simp only [List.getElem_cons_zero]); try simp only [Act.put, List.setIfInBounds_toArray, List.set_cons_zero, List.set_cons_succ]
          refine wpAnyH_ready (rs := [6]) (by kernel_rfl) (by simp) ?_
          refine (AllReadyH.cons (o := _) rfl (fun K hK => ?_) AllReadyH.nil)
          · have Gz : Hid (TcpAt X2 U0.heap.size #[.int .u16 0, .int .u16 0, .int .u32 0, .int .u32 0, .int .u8 0, .int .u16 0, .int .u16 0, .int .i64 0, .bool false, .int .i64 0, .bool false, .slice none 0 0, .bool false, .int .u32 0, .int .u32 0, .slice none 0 0]) := Lib.hid ((b2.out.block _ (show U0.heap.size < (U0.alloc (.cells #[.int .u16 0, .int .u16 0, .int .u32 0, .int .u32 0, .int .u8 0, .int .u16 0, .int .u16 0, .int .i64 0, .bool false, .int .i64 0, .bool false, .slice none 0 0, .bool false, .int .u32 0, .int .u32 0, .slice none 0 0] 27)).heap.size by rw [World.size_alloc]; exact Nat.lt_succ_self _)).trans (blk_new U0 (.cells #[.int .u16 0, .int .u16 0, .int .u32 0, .int .u32 0, .int .u8 0, .int .u16 0, .int .u16 0, .int .i64 0, .bool false, .int .i64 0, .bool false, .slice none 0 0, .bool false, .int .u32 0, .int .u32 0, .slice none 0 0] 27)))
            refine step_store_tcp rfl (.tmp 10) (.tmp 22) rfl U0.heap.size _ _ rfl rfl Gz.out rfl rfl (by simp [Value.oneCell']) ?_
            intro WF hT hg
            have BF : Hid (Below V1.heap.size V1 WF) := Lib.hid (hHB2.out.trans (((Below.refl V1.heap.size X2).grown hg hHB2.out.size (fun k e => by cases e; exact (show V1.heap.size ≤ U0.heap.size from hHB0.out.size)))))
            have OF : Hid (OwnSl V1.heap.size oa es oc WF) := Lib.hid ((O1.out.below (bA.out.trans (b2.out.mono bA.out.size) |>.trans ((Below.refl _ _).grown hg (Nat.le_trans bA.out.size b2.out.size) (fun k e => by cases e; exact Nat.le_refl _)))).mono (show V1.heap.size ≤ _ from (Below.refl V1.heap.size V1).drew.size))
            have JF : Hid (OwnSl V1.heap.size ja ds jc WF) := Lib.hid ((J1.out.kept hg (show U0.heap.size < (U0.alloc (.cells #[.int .u16 0, .int .u16 0, .int .u32 0, .int .u32 0, .int .u8 0, .int .u16 0, .int .u16 0, .int .i64 0, .bool false, .int .i64 0, .bool false, .slice none 0 0, .bool false, .int .u32 0, .int .u32 0, .slice none 0 0] 27)).heap.size by rw [World.size_alloc]; exact Nat.lt_succ_self _)).mono hHB1.out.size)
            have IF : Hid (OwnBlk V1.heap.size WF ia bs ic) := Lib.hid ((I1.out.kept hg (show U0.heap.size < (U0.alloc (.cells #[.int .u16 0, .int .u16 0, .int .u32 0, .int .u32 0, .int .u8 0, .int .u16 0, .int .u16 0, .int .i64 0, .bool false, .int .i64 0, .bool false, .slice none 0 0, .bool false, .int .u32 0, .int .u32 0, .slice none 0 0] 27)).heap.size by rw [World.size_alloc]; exact Nat.lt_succ_self _)).mono hHB1.out.size)
            have TF := Lib.hid hT
            clear hT hg
            refine hK.out _ _ ?_ (fun hHeld => ?_)
            · exact BF.out
            clear hK K
            (try simp only [List.getElem_toArray]); (try simp only [List.getElem_cons_succ]); (try simp only [List.getElem_cons_zero]); try simp only [Act.put, List.setIfInBounds_toArray, List.set_cons_zero, List.set_cons_succ]
            refine wpAnyH_done (by kernel_rfl) ?_ _
            go_wp2_with fail
            go_meet
            exact ⟨oa, oc, U0.heap.size, ia, ic, ja, jc, rfl, rfl, (show V1.heap.size ≤ U0.heap.size from hHB0.out.size), TF.out, OF.out, IF.out, JF.out, BF.out⟩
    · (try simp only [List.getElem_toArray]); (try simp only [List.getElem_cons_succ]); (try simp only [List.getElem_cons_zero])
      go_simp
      have hHB0 := Lib.hid ((show Below V1.heap.size V1 _ from hHeld).alloc (show Below V1.heap.size V1 _ from hHeld).size (.cells #[.int .u16 0, .int .u16 0, .int .u32 0, .int .u32 0, .int .u8 0, .int .u16 0, .int .u16 0, .int .i64 0, .bool false, .int .i64 0, .bool false, .slice none 0 0, .bool false, .int .u32 0, .int .u32 0, .slice none 0 0] 27))
      have bA := Lib.hid ((Below.refl V1.drew.heap.size V1.drew).alloc (Nat.le_refl _) (.cells #[.int .u16 0, .int .u16 0, .int .u32 0, .int .u32 0, .int .u8 0, .int .u16 0, .int .u16 0, .int .i64 0, .bool false, .int .i64 0, .bool false, .slice none 0 0, .bool false, .int .u32 0, .int .u32 0, .slice none 0 0] 27))
      refine hK.out _ _ ?_ (fun hHeld => ?_)
      · exact hHB0.out
      clear hK K
      (try simp only [List.getElem_toArray]); (try simp only [List.getElem_cons_succ]); (try simp only [List.getElem_cons_zero]); try simp only [Act.put, List.setIfInBounds_toArray, List.set_cons_zero, List.set_cons_succ]
      refine wpAnyH_ready (rs := [1]) (by kernel_rfl) (by simp) ?_
      refine (AllReadyH.cons (o := _) rfl (fun K hK => ?_) AllReadyH.nil)
      · (try simp only [List.getElem_toArray]); (try simp only [List.getElem_cons_succ]); (try simp only [List.getElem_cons_zero])
        go_simp
        go_at_call 6
        refine (HCB.out _ (show Below V1.heap.size V1 _ from hHeld)).mono ?_
        rintro e U1 ⟨oa, oc, rfl, O, b⟩
        try dsimp only
        have O1 := Lib.hid O
        have b1 := Lib.hid b
        have hHB1 := Lib.hid ((show Below V1.heap.size V1 _ from hHeld).trans (b.mono (show Below V1.heap.size V1 _ from hHeld).size))
        clear O b
        refine hK.out _ _ ?_ (fun hHeld => ?_)
        · exact hHB1.out
        clear hK K
        (try simp only [List.getElem_toArray]); (try simp only [List.getElem_cons_succ]); (try simp only [List.getElem_cons_zero]); try simp only [Act.put, List.setIfInBounds_toArray, List.set_cons_zero, List.set_cons_succ]
        refine wpAnyH_ready (rs := [3]) (by kernel_rfl) (by simp) ?_
        refine (AllReadyH.cons (o := _) rfl (fun K hK => ?_) AllReadyH.nil)
        · (try simp only [List.getElem_toArray]); (try simp only [List.getElem_cons_succ]); (try simp only [List.getElem_cons_zero])
          go_simp
          go_at_call 7
          refine (HCT.out _ (show Below V1.heap.size V1 _ from hHeld)).mono ?_
          rintro e X2 ⟨ia, ic, ja, jc, rfl, I, J, b⟩
          try dsimp only
          have I1 := Lib.hid I
          have J1 := Lib.hid J
          have b2 := Lib.hid b
          have hHB2 := Lib.hid ((show Below V1.heap.size V1 _ from hHeld).trans (b.mono (show Below V1.heap.size V1 _ from hHeld).size))
          clear I J b
          refine hK.out _ _ ?_ (fun hHeld => ?_)
          · exact hHB2.out
          clear hK K
          (try simp only [List.getElem_toArray]); (try simp only [List.getElem_cons_succ]); (try simp only [List.getElem_cons_zero]); try simp only [Act.put, List.setIfInBounds_toArray, List.set_cons_zero, List.set_cons_succ]
          refine wpAnyH_take (i := 5) (oi := _) (v := ?_) rfl (by kernel_rfl) (by kernel_rfl) (by kernel_rfl) (fun _ _ _ h => h) (Or.inl ⟨by rfl, ?_⟩) (by assumption) ?_
          rotate_left
          · intro w hSw
            try dsimp only at hSw
            go_simp
            all_goals with_reducible rfl
          (try simp only [List.getElem_toArray]); (try simp only [List.getElem_cons_succ]); (try simp only [List.getElem_cons_zero]); try simp only [Act.put, List.setIfInBounds_toArray, List.set_cons_zero, List.set_cons_succ]
          refine wpAnyH_ready (rs := [6]) (by kernel_rfl) (by simp) ?_
          refine (AllReadyH.cons (o := _) rfl (fun K hK => ?_) AllReadyH.nil)
          · have Gz : Hid (TcpAt X2 V1.drew.heap.size #[.int .u16 0, .int .u16 0, .int .u32 0, .int .u32 0, .int .u8 0, .int .u16 0, .int .u16 0, .int .i64 0, .bool false, .int .i64 0, .bool false, .slice none 0 0, .bool false, .int .u32 0, .int .u32 0, .slice none 0 0]) := Lib.hid ((b2.out.block _ (Nat.lt_of_lt_of_le (show V1.drew.heap.size < (V1.drew.alloc (.cells #[.int .u16 0, .int .u16 0, .int .u32 0, .int .u32 0, .int .u8 0, .int .u16 0, .int .u16 0, .int .i64 0, .bool false, .int .i64 0, .bool false, .slice none 0 0, .bool false, .int .u32 0, .int .u32 0, .slice none 0 0] 27)).heap.size by rw [World.size_alloc]; exact Nat.lt_succ_self _) b1.out.size)).trans ((b1.out.block _ (show V1.drew.heap.size < (V1.drew.alloc (.cells #[.int .u16 0, .int .u16 0, .int .u32 0, .int .u32 0, .int .u8 0, .int .u16 0, .int .u16 0, .int .i64 0, .bool false, .int .i64 0, .bool false, .slice none 0 0, .bool false, .int .u32 0, .int .u32 0, .slice none 0 0] 27)).heap.size by rw [World.size_alloc]; exact Nat.lt_succ_self _)).trans (blk_new V1.drew (.cells #[.int .u16 0, .int .u16 0, .int .u32 0, .int .u32 0, .int .u8 0, .int .u16 0, .int .u16 0, .int .i64 0, .bool false, .int .i64 0, .bool false, .slice none 0 0, .bool false, .int .u32 0, .int .u32 0, .slice none 0 0] 27))))
            refine step_store_tcp rfl (.tmp 10) (.tmp 22) rfl V1.drew.heap.size _ _ rfl rfl Gz.out rfl rfl (by simp [Value.oneCell']) ?_
            intro WF hT hg
            have BF : Hid (Below V1.heap.size V1 WF) := Lib.hid (hHB2.out.trans (((Below.refl V1.heap.size X2).grown hg hHB2.out.size (fun k e => by cases e; exact (show V1.heap.size ≤ V1.drew.heap.size from (Below.refl V1.heap.size V1).drew.size)))))
            have OF : Hid (OwnSl V1.heap.size oa es oc WF) := Lib.hid (((O1.out.below b2.out).kept hg (show V1.drew.heap.size < (V1.drew.alloc (.cells #[.int .u16 0, .int .u16 0, .int .u32 0, .int .u32 0, .int .u8 0, .int .u16 0, .int .u16 0, .int .i64 0, .bool false, .int .i64 0, .bool false, .slice none 0 0, .bool false, .int .u32 0, .int .u32 0, .slice none 0 0] 27)).heap.size by rw [World.size_alloc]; exact Nat.lt_succ_self _)).mono (show V1.heap.size ≤ _ from hHB0.out.size))
            have JF : Hid (OwnSl V1.heap.size ja ds jc WF) := Lib.hid ((J1.out.kept hg (Nat.lt_of_lt_of_le (show V1.drew.heap.size < (V1.drew.alloc (.cells #[.int .u16 0, .int .u16 0, .int .u32 0, .int .u32 0, .int .u8 0, .int .u16 0, .int .u16 0, .int .i64 0, .bool false, .int .i64 0, .bool false, .slice none 0 0, .bool false, .int .u32 0, .int .u32 0, .slice none 0 0] 27)).heap.size by rw [World.size_alloc]; exact Nat.lt_succ_self _) b1.out.size)).mono hHB1.out.size)
            have IF : Hid (OwnBlk V1.heap.size WF ia bs ic) := Lib.hid ((I1.out.kept hg (Nat.lt_of_lt_of_le (show V1.drew.heap.size < (V1.drew.alloc (.cells #[.int .u16 0, .int .u16 0, .int .u32 0, .int .u32 0, .int .u8 0, .int .u16 0, .int .u16 0, .int .i64 0, .bool false, .int .i64 0, .bool false, .slice none 0 0, .bool false, .int .u32 0, .int .u32 0, .slice none 0 0] 27)).heap.size by rw [World.size_alloc]; exact Nat.lt_succ_self _) b1.out.size)).mono hHB1.out.size)
            have TF := Lib.hid hT
            clear hT hg
            refine hK.out _ _ ?_ (fun hHeld => ?_)
            · exact BF.out
            clear hK K
            (try simp only [List.getElem_toArray]); (try simp only [List.getElem_cons_succ]); (try simp only [List.getElem_cons_zero]); try simp only [Act.put, List.setIfInBounds_toArray, List.set_cons_zero, List.set_cons_succ]
            refine wpAnyH_done (by kernel_rfl) ?_ _
            go_wp2_with fail
            go_meet
            exact ⟨oa, oc, V1.drew.heap.size, ia, ic, ja, jc, rfl, rfl, (show V1.heap.size ≤ V1.drew.heap.size from (Below.refl V1.heap.size V1).drew.size), TF.out, OF.out, IF.out, JF.out, BF.out⟩
  case rest =>
    obtain ⟨oa, oc, g, ia, ic, ja, jc, rfl, rfl, hgl, hT, hO, hI, hJ, hB⟩ := hcut
    have T2 := Lib.hid hT
    have O2 := Lib.hid hO
    have I2 := Lib.hid hI.1
    have J2 := Lib.hid hJ.bts
    have JN := Lib.hid hJ.nilcap
    have hg2 : g < wc.heap.size := (Array.getElem?_eq_some_iff.1 hT).1
    have K2 := Lib.hid ((hB.block _ hz1.out).trans K1.out)
    have hz2 := Nat.lt_of_lt_of_le hz1.out hB.size
    have Q2 := Lib.hid (Q1.out.trans (hB.mono Q1.out.size))
    have X2 := Lib.hid (HX.out.below Q2.out)
    have Y2 := Lib.hid (HY.out.below Q2.out)
    have E2 := Lib.hid (HE.out.below Q2.out)
    have OCL := Lib.hid hO.capLe.1
    have HZ2 := Lib.hid hz2
    have HG2 := Lib.hid hg2
    clear hT hO hI hJ hB K1 hz1 Q1 HX HY HE HCB HCT hz2 hg2 hgl
    go_upto_region 3 with (first
      | ((with_reducible show wpList _ _ _ _ _ _); refine wpList_load_tcp rfl (.tmp 10) rfl g rfl _ T2.out rfl ?_)
      | (go_at_call 8; with_reducible refine (BK.out ia ic ja jc _ I2.out J2.out JN.out).mono ?_; rintro e V3 ⟨xa, xc, rfl, x, b⟩; have XX3 := Lib.hid x; have T3 := Lib.hid ((b.block _ HG2.out).trans T2.out); have K3 := Lib.hid ((b.block _ HZ2.out).trans K2.out); have HG3 := Lib.hid (Nat.lt_of_lt_of_le HG2.out b.size); have HZ3 := Lib.hid (Nat.lt_of_lt_of_le HZ2.out b.size); have O3 := Lib.hid (O2.out.below b); have I3 := Lib.hid (I2.out.below b); have J3 := Lib.hid (J2.out.below b); have X3 := Lib.hid (X2.out.below b); have Y3 := Lib.hid (Y2.out.below b); have E3 := Lib.hid (E2.out.below b); have Q3 := Lib.hid (Q2.out.trans (b.mono Q2.out.size)); clear T2 K2 HG2 HZ2 O2 I2 J2 X2 Y2 E2 Q2; clear x b)
      | fail)
    go_upto_region 4 with (first
      | ((with_reducible show wpList _ _ _ _ _ _); refine wpList_load_tcp rfl (.tmp 4) rfl w.heap.size rfl _ K3.out rfl ?_)
      | (go_at_call 9; with_reducible refine (BR.out ba bc da dc _ X3.out Y3.out HDC.out).mono ?_; rintro e V4 ⟨ya, yc, rfl, x, b⟩; have YY4 := Lib.hid x; have XX4 := Lib.hid (XX3.out.below b); have T4 := Lib.hid ((b.block _ HG3.out).trans T3.out); have K4 := Lib.hid ((b.block _ HZ3.out).trans K3.out); have HG4 := Lib.hid (Nat.lt_of_lt_of_le HG3.out b.size); have HZ4 := Lib.hid (Nat.lt_of_lt_of_le HZ3.out b.size); have O4 := Lib.hid (O3.out.below b); have I4 := Lib.hid (I3.out.below b); have J4 := Lib.hid (J3.out.below b); have X4 := Lib.hid (X3.out.below b); have Y4 := Lib.hid (Y3.out.below b); have E4 := Lib.hid (E3.out.below b); have Q4 := Lib.hid (Q3.out.trans (b.mono Q3.out.size)); clear T3 K3 HG3 HZ3 O3 I3 J3 X3 Y3 E3 Q3; clear x b XX3)
      | fail)
    go_upto_region 5 with (first
      | (go_at_call 10; with_reducible refine (PA.out _ _ _ O4.out.bts OCL.out).mono ?_; rintro e V5 ⟨da1, dc1, va1, vc1, rfl, b, x1, x2⟩; have YY5 := Lib.hid (YY4.out.below b); have XX5 := Lib.hid (XX4.out.below b); have D5 := Lib.hid x1; have F5 := Lib.hid x2; have T5 := Lib.hid ((b.block _ HG4.out).trans T4.out); have K5 := Lib.hid ((b.block _ HZ4.out).trans K4.out); have HG5 := Lib.hid (Nat.lt_of_lt_of_le HG4.out b.size); have HZ5 := Lib.hid (Nat.lt_of_lt_of_le HZ4.out b.size); have O5 := Lib.hid (O4.out.below b); have I5 := Lib.hid (I4.out.below b); have J5 := Lib.hid (J4.out.below b); have X5 := Lib.hid (X4.out.below b); have Y5 := Lib.hid (Y4.out.below b); have E5 := Lib.hid (E4.out.below b); have Q5 := Lib.hid (Q4.out.trans (b.mono Q4.out.size)); clear T4 K4 HG4 HZ4 O4 I4 J4 X4 Y4 E4 Q4; clear b x1 x2 XX4 YY4)
      | fail)
    have U6 := Lib.hid (blk_new V5 (.cells #[.int .u16 (p1 : Nat), .int .u16 (p2 : Nat), .int .u32 (p3 : Nat), .int .u32 (p4 : Nat), .int .u8 (p5 : Nat), .int .u16 (p6 : Nat), .int .u16 (p7 : Nat), .int .i64 (s.mss : Nat), .bool s.hs, .int .i64 (s.sc : Nat), .bool s.sk, .slice va1 s.bs.length vc1, .bool s.ht, .int .u32 (s.tv : Nat), .int .u32 (s.te : Nat), .slice da1 qs.length dc1] 27))
    have hz6 : Hid (V5.heap.size < (V5.alloc (.cells #[.int .u16 (p1 : Nat), .int .u16 (p2 : Nat), .int .u32 (p3 : Nat), .int .u32 (p4 : Nat), .int .u8 (p5 : Nat), .int .u16 (p6 : Nat), .int .u16 (p7 : Nat), .int .i64 (s.mss : Nat), .bool s.hs, .int .i64 (s.sc : Nat), .bool s.sk, .slice va1 s.bs.length vc1, .bool s.ht, .int .u32 (s.tv : Nat), .int .u32 (s.te : Nat), .slice da1 qs.length dc1] 27)).heap.size) := Lib.hid (by rw [World.size_alloc]; exact Nat.lt_succ_self _)
    have b := (Below.refl V5.heap.size V5).alloc (Nat.le_refl _) (.cells #[.int .u16 (p1 : Nat), .int .u16 (p2 : Nat), .int .u32 (p3 : Nat), .int .u32 (p4 : Nat), .int .u8 (p5 : Nat), .int .u16 (p6 : Nat), .int .u16 (p7 : Nat), .int .i64 (s.mss : Nat), .bool s.hs, .int .i64 (s.sc : Nat), .bool s.sk, .slice va1 s.bs.length vc1, .bool s.ht, .int .u32 (s.tv : Nat), .int .u32 (s.te : Nat), .slice da1 qs.length dc1] 27)
    have YY6 := Lib.hid (YY5.out.below b)
    have XX6 := Lib.hid (XX5.out.below b)
    have D6 := Lib.hid (D5.out.below b)
    have F6 := Lib.hid (F5.out.below b)
    have T6 := Lib.hid ((b.block _ HG5.out).trans T5.out)
    have K6 := Lib.hid ((b.block _ HZ5.out).trans K5.out)
    have HG6 := Lib.hid (Nat.lt_of_lt_of_le HG5.out b.size)
    have HZ6 := Lib.hid (Nat.lt_of_lt_of_le HZ5.out b.size)
    have O6 := Lib.hid (O5.out.below b)
    have I6 := Lib.hid (I5.out.below b)
    have J6 := Lib.hid (J5.out.below b)
    have X6 := Lib.hid (X5.out.below b)
    have Y6 := Lib.hid (Y5.out.below b)
    have E6 := Lib.hid (E5.out.below b)
    have Q6 := Lib.hid (Q5.out.trans (b.mono Q5.out.size))
    clear T5 K5 HG5 HZ5 O5 I5 J5 X5 Y5 E5 Q5
    clear b YY5 XX5 D5 F5
    generalize V5.alloc (.cells #[.int .u16 (p1 : Nat), .int .u16 (p2 : Nat), .int .u32 (p3 : Nat), .int .u32 (p4 : Nat), .int .u8 (p5 : Nat), .int .u16 (p6 : Nat), .int .u16 (p7 : Nat), .int .i64 (s.mss : Nat), .bool s.hs, .int .i64 (s.sc : Nat), .bool s.sk, .slice va1 s.bs.length vc1, .bool s.ht, .int .u32 (s.tv : Nat), .int .u32 (s.te : Nat), .slice da1 qs.length dc1] 27) = V6 at U6 hz6 YY6 XX6 D6 F6 T6 K6 HG6 HZ6 O6 I6 J6 X6 Y6 E6 Q6 ⊢
    go_upto_region 6 with (first
      | (go_at_call 11; with_reducible refine (PB.out _ _ _ E6.out EC.out.1).mono ?_; rintro e V7 ⟨da2, dc2, va2, vc2, rfl, b, x1, x2⟩; have YY7 := Lib.hid (YY6.out.below b); have XX7 := Lib.hid (XX6.out.below b); have D7 := Lib.hid (D6.out.below b); have F7 := Lib.hid (F6.out.below b); have U7 := Lib.hid ((b.block _ hz6.out).trans U6.out); have hz7 := Lib.hid (Nat.lt_of_lt_of_le hz6.out b.size); have DD7 := Lib.hid x1; have FF7 := Lib.hid x2; have T7 := Lib.hid ((b.block _ HG6.out).trans T6.out); have K7 := Lib.hid ((b.block _ HZ6.out).trans K6.out); have HG7 := Lib.hid (Nat.lt_of_lt_of_le HG6.out b.size); have HZ7 := Lib.hid (Nat.lt_of_lt_of_le HZ6.out b.size); have O7 := Lib.hid (O6.out.below b); have I7 := Lib.hid (I6.out.below b); have J7 := Lib.hid (J6.out.below b); have X7 := Lib.hid (X6.out.below b); have Y7 := Lib.hid (Y6.out.below b); have E7 := Lib.hid (E6.out.below b); have Q7 := Lib.hid (Q6.out.trans (b.mono Q6.out.size)); clear T6 K6 HG6 HZ6 O6 I6 J6 X6 Y6 E6 Q6; clear b x1 x2 XX6 YY6 D6 F6 U6 hz6)
      | fail)
    have UU8 := Lib.hid (blk_new V7 (.cells #[.int .u16 (p1 : Nat), .int .u16 (p2 : Nat), .int .u32 (p3 : Nat), .int .u32 (p4 : Nat), .int .u8 (p5 : Nat), .int .u16 (p6 : Nat), .int .u16 (p7 : Nat), .int .i64 (s.mss : Nat), .bool s.hs, .int .i64 (s.sc : Nat), .bool s.sk, .slice va2 s.bs.length vc2, .bool s.ht, .int .u32 (s.tv : Nat), .int .u32 (s.te : Nat), .slice da2 qs.length dc2] 27))
    have hzz8 : Hid (V7.heap.size < (V7.alloc (.cells #[.int .u16 (p1 : Nat), .int .u16 (p2 : Nat), .int .u32 (p3 : Nat), .int .u32 (p4 : Nat), .int .u8 (p5 : Nat), .int .u16 (p6 : Nat), .int .u16 (p7 : Nat), .int .i64 (s.mss : Nat), .bool s.hs, .int .i64 (s.sc : Nat), .bool s.sk, .slice va2 s.bs.length vc2, .bool s.ht, .int .u32 (s.tv : Nat), .int .u32 (s.te : Nat), .slice da2 qs.length dc2] 27)).heap.size) := Lib.hid (by rw [World.size_alloc]; exact Nat.lt_succ_self _)
    have b := (Below.refl V7.heap.size V7).alloc (Nat.le_refl _) (.cells #[.int .u16 (p1 : Nat), .int .u16 (p2 : Nat), .int .u32 (p3 : Nat), .int .u32 (p4 : Nat), .int .u8 (p5 : Nat), .int .u16 (p6 : Nat), .int .u16 (p7 : Nat), .int .i64 (s.mss : Nat), .bool s.hs, .int .i64 (s.sc : Nat), .bool s.sk, .slice va2 s.bs.length vc2, .bool s.ht, .int .u32 (s.tv : Nat), .int .u32 (s.te : Nat), .slice da2 qs.length dc2] 27)
    have YY8 := Lib.hid (YY7.out.below b)
    have XX8 := Lib.hid (XX7.out.below b)
    have D8 := Lib.hid (D7.out.below b)
    have F8 := Lib.hid (F7.out.below b)
    have DD8 := Lib.hid (DD7.out.below b)
    have FF8 := Lib.hid (FF7.out.below b)
    have U8 := Lib.hid ((b.block _ hz7.out).trans U7.out)
    have hz8 := Lib.hid (Nat.lt_of_lt_of_le hz7.out b.size)
    have T8 := Lib.hid ((b.block _ HG7.out).trans T7.out)
    have K8 := Lib.hid ((b.block _ HZ7.out).trans K7.out)
    have HG8 := Lib.hid (Nat.lt_of_lt_of_le HG7.out b.size)
    have HZ8 := Lib.hid (Nat.lt_of_lt_of_le HZ7.out b.size)
    have O8 := Lib.hid (O7.out.below b)
    have I8 := Lib.hid (I7.out.below b)
    have J8 := Lib.hid (J7.out.below b)
    have X8 := Lib.hid (X7.out.below b)
    have Y8 := Lib.hid (Y7.out.below b)
    have E8 := Lib.hid (E7.out.below b)
    have Q8 := Lib.hid (Q7.out.trans (b.mono Q7.out.size))
    clear T7 K7 HG7 HZ7 O7 I7 J7 X7 Y7 E7 Q7
    clear b YY7 XX7 D7 F7 DD7 FF7 U7 hz7
    generalize V7.alloc (.cells #[.int .u16 (p1 : Nat), .int .u16 (p2 : Nat), .int .u32 (p3 : Nat), .int .u32 (p4 : Nat), .int .u8 (p5 : Nat), .int .u16 (p6 : Nat), .int .u16 (p7 : Nat), .int .i64 (s.mss : Nat), .bool s.hs, .int .i64 (s.sc : Nat), .bool s.sk, .slice va2 s.bs.length vc2, .bool s.ht, .int .u32 (s.tv : Nat), .int .u32 (s.te : Nat), .slice da2 qs.length dc2] 27) = V8 at UU8 hzz8 YY8 XX8 D8 F8 DD8 FF8 U8 hz8 T8 K8 HG8 HZ8 O8 I8 J8 X8 Y8 E8 Q8 ⊢
    go_upto_region 6 with fail
    go_cut [72] from 51 (fun (v : Value) (wx : World) => v = .bool false ∧ TcpAt wx g #[.int .u16 (sp : Nat), .int .u16 (dp : Nat), .int .u32 (sq : Nat), .int .u32 (ak : Nat), .int .u8 (fl : Nat), .int .u16 (wn : Nat), .int .u16 (ur : Nat), .int .i64 mss, .bool hs, .int .i64 sc, .bool sk, .slice ia bs.length ic, .bool ht, .int .u32 (tv : Nat), .int .u32 (te : Nat), .slice ja ds.length jc] ∧ TcpAt wx w.heap.size #[.int .u16 (sp : Nat), .int .u16 (dp : Nat), .int .u32 (sq : Nat), .int .u32 (ak : Nat), .int .u8 (fl : Nat), .int .u16 (wn : Nat), .int .u16 (ur : Nat), .int .i64 mss, .bool hs, .int .i64 sc, .bool sk, .slice ba bs.length bc, .bool ht, .int .u32 (tv : Nat), .int .u32 (te : Nat), .slice da ds.length dc] ∧ g < wx.heap.size ∧ w.heap.size < wx.heap.size ∧ Bts wx oa es ∧ Blk wx ia bs ∧ Bts wx ja ds ∧ Blk wx ba bs ∧ Bts wx da ds ∧ Bts wx ea es ∧ Below w.heap.size w wx)
    case first =>
      go_wp2_with (first
        | (go_at_call 12; with_reducible refine (same_one xa ya R R xc yc V8 XX8.out YY8.out HRL.out HRL.out rfl).mono ?_; rintro e V9 ⟨rfl, b⟩; have D9 := Lib.hid (D8.out.below b); have F9 := Lib.hid (F8.out.below b); have DD9 := Lib.hid (DD8.out.below b); have FF9 := Lib.hid (FF8.out.below b); have U9 := Lib.hid ((b.block _ hz8.out).trans U8.out); have UU9 := Lib.hid ((b.block _ hzz8.out).trans UU8.out); have T9 := Lib.hid ((b.block _ HG8.out).trans T8.out); have K9 := Lib.hid ((b.block _ HZ8.out).trans K8.out); have HG9 := Lib.hid (Nat.lt_of_lt_of_le HG8.out b.size); have HZ9 := Lib.hid (Nat.lt_of_lt_of_le HZ8.out b.size); have O9 := Lib.hid (O8.out.below b); have I9 := Lib.hid (I8.out.below b); have J9 := Lib.hid (J8.out.below b); have X9 := Lib.hid (X8.out.below b); have Y9 := Lib.hid (Y8.out.below b); have E9 := Lib.hid (E8.out.below b); have Q9 := Lib.hid (Q8.out.trans (b.mono Q8.out.size)); clear T8 K8 HG8 HZ8 O8 I8 J8 X8 Y8 E8 Q8; clear b XX8 YY8 D8 F8 DD8 FF8 U8 UU8 hz8 hzz8)
        | (go_at_call 13; with_reducible refine (num_any _ _).mono ?_; rintro e w' ⟨rfl, rfl⟩)
        | ((with_reducible show wpList _ _ _ _ _ _); refine wpList_load_tcpG (by kernel_rfl) (.tmp 15) rfl V5.heap.size rfl _ U9.out rfl ?_)
        | ((with_reducible show wpList _ _ _ _ _ _); refine wpList_load_tcpG (by kernel_rfl) (.tmp 17) rfl V7.heap.size rfl _ UU9.out rfl ?_)
        | (go_at_call 14; with_reducible refine (ST.out va1 va2 da1 da2 vc1 vc2 dc1 dc2 V9 F9.out FF9.out D9.out DD9.out).mono ?_; rintro e V10 ⟨rfl, b⟩; have T10 := Lib.hid ((b.block _ HG9.out).trans T9.out); have K10 := Lib.hid ((b.block _ HZ9.out).trans K9.out); have HG10 := Lib.hid (Nat.lt_of_lt_of_le HG9.out b.size); have HZ10 := Lib.hid (Nat.lt_of_lt_of_le HZ9.out b.size); have O10 := Lib.hid (O9.out.below b); have I10 := Lib.hid (I9.out.below b); have J10 := Lib.hid (J9.out.below b); have X10 := Lib.hid (X9.out.below b); have Y10 := Lib.hid (Y9.out.below b); have E10 := Lib.hid (E9.out.below b); have Q10 := Lib.hid (Q9.out.trans (b.mono Q9.out.size)); clear T9 K9 HG9 HZ9 O9 I9 J9 X9 Y9 E9 Q9; clear b D9 F9 DD9 FF9 U9 UU9)
        | fail)
      go_meet
      exact ⟨rfl, T10.out, K10.out, HG10.out, HZ10.out, O10.out.bts, I10.out, J10.out, X10.out, Y10.out, E10.out, Q10.out⟩
    case rest =>
      obtain ⟨rfl, T, K, HG, HZ, O, I, J, X, Y, E, Q⟩ := hcut
      have b := (Below.refl wc.heap.size wc).drew
      have T10 := Lib.hid T
      have K10 := Lib.hid K
      have HG10 := Lib.hid HG
      have HZ10 := Lib.hid HZ
      have O10 := Lib.hid O
      have I10 := Lib.hid I
      have J10 := Lib.hid J
      have X10 := Lib.hid X
      have Y10 := Lib.hid Y
      have E10 := Lib.hid E
      have Q10 := Lib.hid Q
      clear T K HG HZ O I J X Y E Q
      have T11 := Lib.hid ((b.block _ HG10.out).trans T10.out)
      have K11 := Lib.hid ((b.block _ HZ10.out).trans K10.out)
      have HG11 := Lib.hid (Nat.lt_of_lt_of_le HG10.out b.size)
      have HZ11 := Lib.hid (Nat.lt_of_lt_of_le HZ10.out b.size)
      have O11 := Lib.hid (O10.out.below b)
      have I11 := Lib.hid (I10.out.below b)
      have J11 := Lib.hid (J10.out.below b)
      have X11 := Lib.hid (X10.out.below b)
      have Y11 := Lib.hid (Y10.out.below b)
      have E11 := Lib.hid (E10.out.below b)
      have Q11 := Lib.hid (Q10.out.trans (b.mono Q10.out.size))
      clear T10 K10 HG10 HZ10 O10 I10 J10 X10 Y10 E10 Q10
      clear b T8 K8 HG8 HZ8 O8 I8 J8 X8 Y8 E8 Q8 XX8 YY8 D8 F8 DD8 FF8 U8 UU8 hz8 hzz8 PA PB BK BR ST e1 e2
      go_upto_region 8 with fail
      refine wp_region_held_drew (S := fun W => TcpAt W g #[.int .u16 (sp : Nat), .int .u16 (dp : Nat), .int .u32 (sq : Nat), .int .u32 (ak : Nat), .int .u8 (fl : Nat), .int .u16 (wn : Nat), .int .u16 (ur : Nat), .int .i64 mss, .bool hs, .int .i64 sc, .bool sk, .slice ia bs.length ic, .bool ht, .int .u32 (tv : Nat), .int .u32 (te : Nat), .slice ja ds.length jc] ∧ TcpAt W w.heap.size #[.int .u16 (sp : Nat), .int .u16 (dp : Nat), .int .u32 (sq : Nat), .int .u32 (ak : Nat), .int .u8 (fl : Nat), .int .u16 (wn : Nat), .int .u16 (ur : Nat), .int .i64 mss, .bool hs, .int .i64 sc, .bool sk, .slice ba bs.length bc, .bool ht, .int .u32 (tv : Nat), .int .u32 (te : Nat), .slice da ds.length dc]) (by kernel_rfl) ⟨T11.out, K11.out⟩ (fun hHeld => ?_)
      refine wpAnyH_take (i := 0) (oi := _) (v := .agg #[.int .u16 (sp : Nat), .int .u16 (dp : Nat), .int .u32 (sq : Nat), .int .u32 (ak : Nat), .int .u8 (fl : Nat), .int .u16 (wn : Nat), .int .u16 (ur : Nat), .int .i64 mss, .bool hs, .int .i64 sc, .bool sk, .slice ia bs.length ic, .bool ht, .int .u32 (tv : Nat), .int .u32 (te : Nat), .slice ja ds.length jc]) rfl (by kernel_rfl) (by kernel_rfl) (by kernel_rfl) (fun _ _ _ h => h) (yieldsIf_tcp rfl (.tmp 10) rfl g rfl _ (fun W hW => (show TcpAt W g _ ∧ TcpAt W w.heap.size _ from hW).1) rfl) (by assumption) ?_
      (try simp only [List.getElem_toArray]); (try simp only [List.getElem_cons_succ]); (try simp only [List.getElem_cons_zero]); try simp only [Act.put, List.setIfInBounds_toArray, List.set_cons_zero, List.set_cons_succ]
      refine wpAnyH_take (i := 3) (oi := _) (v := .agg #[.int .u16 (sp : Nat), .int .u16 (dp : Nat), .int .u32 (sq : Nat), .int .u32 (ak : Nat), .int .u8 (fl : Nat), .int .u16 (wn : Nat), .int .u16 (ur : Nat), .int .i64 mss, .bool hs, .int .i64 sc, .bool sk, .slice ba bs.length bc, .bool ht, .int .u32 (tv : Nat), .int .u32 (te : Nat), .slice da ds.length dc]) rfl (by kernel_rfl) (by kernel_rfl) (by kernel_rfl) (fun _ _ _ h => h) (yieldsIf_tcp rfl (.tmp 4) rfl w.heap.size rfl _ (fun W hW => (show TcpAt W g _ ∧ TcpAt W w.heap.size _ from hW).2) rfl) (by assumption) ?_
      (try simp only [List.getElem_toArray]); (try simp only [List.getElem_cons_succ]); (try simp only [List.getElem_cons_zero]); try simp only [Act.put, List.setIfInBounds_toArray, List.set_cons_zero, List.set_cons_succ]
      refine wpAnyH_ready (rs := [1]) (by kernel_rfl) (by simp) ?_
      refine (AllReadyH.cons (o := _) rfl (fun K hK => ?_) AllReadyH.nil)
      · (try simp only [List.getElem_toArray]); (try simp only [List.getElem_cons_succ]); (try simp only [List.getElem_cons_zero])
        go_simp
        go_at_call 15
        refine (CK.out ia ic ja jc _ I11.out).mono ?_
        rintro e V12 ⟨rfl, b⟩
        try dsimp only
        have T12 := Lib.hid ((b.block _ HG11.out).trans T11.out)
        have K12 := Lib.hid ((b.block _ HZ11.out).trans K11.out)
        have HG12 := Lib.hid (Nat.lt_of_lt_of_le HG11.out b.size)
        have HZ12 := Lib.hid (Nat.lt_of_lt_of_le HZ11.out b.size)
        have O12 := Lib.hid (O11.out.below b)
        have I12 := Lib.hid (I11.out.below b)
        have J12 := Lib.hid (J11.out.below b)
        have X12 := Lib.hid (X11.out.below b)
        have Y12 := Lib.hid (Y11.out.below b)
        have E12 := Lib.hid (E11.out.below b)
        have Q12 := Lib.hid (Q11.out.trans (b.mono Q11.out.size))
        clear T11 K11 HG11 HZ11 O11 I11 J11 X11 Y11 E11 Q11
        clear b
        refine hK.out _ _ ?_ (fun hHeld => ?_)
        · exact ⟨T12.out, K12.out⟩
        clear hK K
        (try simp only [List.getElem_toArray]); (try simp only [List.getElem_cons_succ]); (try simp only [List.getElem_cons_zero]); try simp only [Act.put, List.setIfInBounds_toArray, List.set_cons_zero, List.set_cons_succ]
        refine wpAnyH_ready (rs := [2]) (by kernel_rfl) (by simp) ?_
        refine (AllReadyH.cons (o := _) rfl (fun K hK => ?_) AllReadyH.nil)
        · (try simp only [List.getElem_toArray]); (try simp only [List.getElem_cons_succ]); (try simp only [List.getElem_cons_zero])
          go_simp
          go_at_call 13
          refine (num_any _ _).mono ?_
          rintro e w' ⟨rfl, rfl⟩
          try dsimp only
          refine hK.out _ _ ?_ (fun hHeld => ?_)
          · exact ⟨T12.out, K12.out⟩
          clear hK K
          (try simp only [List.getElem_toArray]); (try simp only [List.getElem_cons_succ]); (try simp only [List.getElem_cons_zero]); try simp only [Act.put, List.setIfInBounds_toArray, List.set_cons_zero, List.set_cons_succ]
          refine wpAnyH_ready (rs := [4]) (by kernel_rfl) (by simp) ?_
          refine (AllReadyH.cons (o := _) rfl (fun K hK => ?_) AllReadyH.nil)
          · (try simp only [List.getElem_toArray]); (try simp only [List.getElem_cons_succ]); (try simp only [List.getElem_cons_zero])
            go_simp
            go_at_call 16
            refine (CR.out ba bc da dc _ X12.out).mono ?_
            rintro e V13 ⟨rfl, b⟩
            try dsimp only
            have T13 := Lib.hid ((b.block _ HG12.out).trans T12.out)
            have K13 := Lib.hid ((b.block _ HZ12.out).trans K12.out)
            have HG13 := Lib.hid (Nat.lt_of_lt_of_le HG12.out b.size)
            have HZ13 := Lib.hid (Nat.lt_of_lt_of_le HZ12.out b.size)
            have O13 := Lib.hid (O12.out.below b)
            have I13 := Lib.hid (I12.out.below b)
            have J13 := Lib.hid (J12.out.below b)
            have X13 := Lib.hid (X12.out.below b)
            have Y13 := Lib.hid (Y12.out.below b)
            have E13 := Lib.hid (E12.out.below b)
            have Q13 := Lib.hid (Q12.out.trans (b.mono Q12.out.size))
            clear T12 K12 HG12 HZ12 O12 I12 J12 X12 Y12 E12 Q12
            clear b
            refine hK.out _ _ ?_ (fun hHeld => ?_)
            · exact ⟨T13.out, K13.out⟩
            clear hK K
            (try simp only [List.getElem_toArray]); (try simp only [List.getElem_cons_succ]); (try simp only [List.getElem_cons_zero]); try simp only [Act.put, List.setIfInBounds_toArray, List.set_cons_zero, List.set_cons_succ]
            refine wpAnyH_take (i := 5) (oi := _) (v := ?_) rfl (by kernel_rfl) (by kernel_rfl) (by kernel_rfl) (fun _ _ _ h => h) (Or.inl ⟨by rfl, ?_⟩) (by assumption) ?_
            rotate_left
            · intro w5 hSw
              clear hSw
              go_simp
              all_goals with_reducible rfl
            (try simp only [List.getElem_toArray]); (try simp only [List.getElem_cons_succ]); (try simp only [List.getElem_cons_zero]); try simp only [Act.put, List.setIfInBounds_toArray, List.set_cons_zero, List.set_cons_succ]
            refine wpAnyH_take (i := 6) (oi := _) (v := ?_) rfl (by kernel_rfl) (by kernel_rfl) (by kernel_rfl) (fun _ _ _ h => h) (Or.inl ⟨by rfl, ?_⟩) (by assumption) ?_
            rotate_left
            · intro w5 hSw
              clear hSw
              go_simp
              all_goals with_reducible rfl
            (try simp only [List.getElem_toArray]); (try simp only [List.getElem_cons_succ]); (try simp only [List.getElem_cons_zero]); try simp only [Act.put, List.setIfInBounds_toArray, List.set_cons_zero, List.set_cons_succ]
            refine wpAnyH_take (i := 7) (oi := _) (v := .agg #[.int .u16 (sp : Nat), .int .u16 (dp : Nat), .int .u32 (sq : Nat), .int .u32 (ak : Nat), .int .u8 (fl : Nat), .int .u16 (wn : Nat), .int .u16 (ur : Nat), .int .i64 mss, .bool hs, .int .i64 sc, .bool sk, .slice ia bs.length ic, .bool ht, .int .u32 (tv : Nat), .int .u32 (te : Nat), .slice ja ds.length jc]) rfl (by kernel_rfl) (by kernel_rfl) (by kernel_rfl) (fun _ _ _ h => h) (yieldsIf_tcp rfl (.tmp 10) rfl g rfl _ (fun W hW => (show TcpAt W g _ ∧ TcpAt W w.heap.size _ from hW).1) rfl) (by assumption) ?_
            (try simp only [List.getElem_toArray]); (try simp only [List.getElem_cons_succ]); (try simp only [List.getElem_cons_zero]); try simp only [Act.put, List.setIfInBounds_toArray, List.set_cons_zero, List.set_cons_succ]
            refine wpAnyH_take (i := 9) (oi := _) (v := .agg #[.int .u16 (sp : Nat), .int .u16 (dp : Nat), .int .u32 (sq : Nat), .int .u32 (ak : Nat), .int .u8 (fl : Nat), .int .u16 (wn : Nat), .int .u16 (ur : Nat), .int .i64 mss, .bool hs, .int .i64 sc, .bool sk, .slice ba bs.length bc, .bool ht, .int .u32 (tv : Nat), .int .u32 (te : Nat), .slice da ds.length dc]) rfl (by kernel_rfl) (by kernel_rfl) (by kernel_rfl) (fun _ _ _ h => h) (yieldsIf_tcp rfl (.tmp 4) rfl w.heap.size rfl _ (fun W hW => (show TcpAt W g _ ∧ TcpAt W w.heap.size _ from hW).2) rfl) (by assumption) ?_
            (try simp only [List.getElem_toArray]); (try simp only [List.getElem_cons_succ]); (try simp only [List.getElem_cons_zero]); try simp only [Act.put, List.setIfInBounds_toArray, List.set_cons_zero, List.set_cons_succ]
            refine wpAnyH_ready (rs := [8]) (by kernel_rfl) (by simp) ?_
            refine (AllReadyH.cons (o := _) rfl (fun K hK => ?_) AllReadyH.nil)
            · (try simp only [List.getElem_toArray]); (try simp only [List.getElem_cons_succ]); (try simp only [List.getElem_cons_zero])
              go_simp
              go_at_call 17
              refine (LK.out ia ic ja jc _).mono ?_
              rintro e V14 ⟨rfl, b⟩
              try dsimp only
              have T14 := Lib.hid ((b.block _ HG13.out).trans T13.out)
              have K14 := Lib.hid ((b.block _ HZ13.out).trans K13.out)
              have HG14 := Lib.hid (Nat.lt_of_lt_of_le HG13.out b.size)
              have HZ14 := Lib.hid (Nat.lt_of_lt_of_le HZ13.out b.size)
              have O14 := Lib.hid (O13.out.below b)
              have I14 := Lib.hid (I13.out.below b)
              have J14 := Lib.hid (J13.out.below b)
              have X14 := Lib.hid (X13.out.below b)
              have Y14 := Lib.hid (Y13.out.below b)
              have E14 := Lib.hid (E13.out.below b)
              have Q14 := Lib.hid (Q13.out.trans (b.mono Q13.out.size))
              clear T13 K13 HG13 HZ13 O13 I13 J13 X13 Y13 E13 Q13
              clear b
              refine hK.out _ _ ?_ (fun hHeld => ?_)
              · exact ⟨T14.out, K14.out⟩
              clear hK K
              (try simp only [List.getElem_toArray]); (try simp only [List.getElem_cons_succ]); (try simp only [List.getElem_cons_zero]); try simp only [Act.put, List.setIfInBounds_toArray, List.set_cons_zero, List.set_cons_succ]
              refine wpAnyH_ready (rs := [10]) (by kernel_rfl) (by simp) ?_
              refine (AllReadyH.cons (o := _) rfl (fun K hK => ?_) AllReadyH.nil)
              · (try simp only [List.getElem_toArray]); (try simp only [List.getElem_cons_succ]); (try simp only [List.getElem_cons_zero])
                go_simp
                go_at_call 18
                refine (LR.out ba bc da dc _).mono ?_
                rintro e V15 ⟨rfl, b⟩
                try dsimp only
                have T15 := Lib.hid ((b.block _ HG14.out).trans T14.out)
                have K15 := Lib.hid ((b.block _ HZ14.out).trans K14.out)
                have HG15 := Lib.hid (Nat.lt_of_lt_of_le HG14.out b.size)
                have HZ15 := Lib.hid (Nat.lt_of_lt_of_le HZ14.out b.size)
                have O15 := Lib.hid (O14.out.below b)
                have I15 := Lib.hid (I14.out.below b)
                have J15 := Lib.hid (J14.out.below b)
                have X15 := Lib.hid (X14.out.below b)
                have Y15 := Lib.hid (Y14.out.below b)
                have E15 := Lib.hid (E14.out.below b)
                have Q15 := Lib.hid (Q14.out.trans (b.mono Q14.out.size))
                clear T14 K14 HG14 HZ14 O14 I14 J14 X14 Y14 E14 Q14
                clear b
                refine hK.out _ _ ?_ (fun hHeld => ?_)
                · exact ⟨T15.out, K15.out⟩
                clear hK K
                (try simp only [List.getElem_toArray]); (try simp only [List.getElem_cons_succ]); (try simp only [List.getElem_cons_zero]); try simp only [Act.put, List.setIfInBounds_toArray, List.set_cons_zero, List.set_cons_succ]
                refine wpAnyH_take (i := 11) (oi := _) (v := ?_) rfl (by kernel_rfl) (by kernel_rfl) (by kernel_rfl) (fun _ _ _ h => h) (Or.inl ⟨by rfl, ?_⟩) (by assumption) ?_
                rotate_left
                · intro w5 hSw
                  clear hSw
                  go_simp
                  all_goals with_reducible rfl
                (try simp only [List.getElem_toArray]); (try simp only [List.getElem_cons_succ]); (try simp only [List.getElem_cons_zero]); try simp only [Act.put, List.setIfInBounds_toArray, List.set_cons_zero, List.set_cons_succ]
                refine wpAnyH_take (i := 12) (oi := _) (v := ?_) rfl (by kernel_rfl) (by kernel_rfl) (by kernel_rfl) (fun _ _ _ h => h) (Or.inl ⟨by rfl, ?_⟩) (by assumption) ?_
                rotate_left
                · intro w5 hSw
                  clear hSw
                  go_simp
                  all_goals with_reducible rfl
                (try simp only [List.getElem_toArray]); (try simp only [List.getElem_cons_succ]); (try simp only [List.getElem_cons_zero]); try simp only [Act.put, List.setIfInBounds_toArray, List.set_cons_zero, List.set_cons_succ]
                refine wpAnyH_take (i := 13) (oi := _) (v := ?_) rfl (by kernel_rfl) (by kernel_rfl) (by kernel_rfl) (fun _ _ _ h => h) (Or.inl ⟨by rfl, ?_⟩) (by assumption) ?_
                rotate_left
                · intro w5 hSw
                  clear hSw
                  go_simp
                  all_goals with_reducible rfl
                (try simp only [List.getElem_toArray]); (try simp only [List.getElem_cons_succ]); (try simp only [List.getElem_cons_zero]); try simp only [Act.put, List.setIfInBounds_toArray, List.set_cons_zero, List.set_cons_succ]
                refine wpAnyH_take (i := 14) (oi := _) (v := ?_) rfl (by kernel_rfl) (by kernel_rfl) (by kernel_rfl) (fun _ _ _ h => h) (Or.inl ⟨by rfl, ?_⟩) (by assumption) ?_
                rotate_left
                · intro w5 hSw
                  clear hSw
                  go_simp
                  all_goals with_reducible rfl
                (try simp only [List.getElem_toArray]); (try simp only [List.getElem_cons_succ]); (try simp only [List.getElem_cons_zero]); try simp only [Act.put, List.setIfInBounds_toArray, List.set_cons_zero, List.set_cons_succ]
                refine wpAnyH_take (i := 15) (oi := _) (v := ?_) rfl (by kernel_rfl) (by kernel_rfl) (by kernel_rfl) (fun _ _ _ h => h) (Or.inl ⟨by rfl, ?_⟩) (by assumption) ?_
                rotate_left
                · intro w5 hSw
                  clear hSw
                  go_simp
                  all_goals with_reducible rfl
                (try simp only [List.getElem_toArray]); (try simp only [List.getElem_cons_succ]); (try simp only [List.getElem_cons_zero]); try simp only [Act.put, List.setIfInBounds_toArray, List.set_cons_zero, List.set_cons_succ]
                refine wpAnyH_ready (rs := [16]) (by kernel_rfl) (by simp) ?_
                refine (AllReadyH.cons (o := _) rfl (fun K hK => ?_) AllReadyH.nil)
                · (try simp only [List.getElem_toArray]); (try simp only [List.getElem_cons_succ]); (try simp only [List.getElem_cons_zero])
                  go_simp
                  go_at_call 12
                  refine (same_one oa ea es es oc ec _ O15.out E15.out HEL.out HEL.out rfl).mono ?_
                  rintro e V16 ⟨rfl, b⟩
                  try dsimp only
                  have T16 := Lib.hid ((b.block _ HG15.out).trans T15.out)
                  have K16 := Lib.hid ((b.block _ HZ15.out).trans K15.out)
                  have HG16 := Lib.hid (Nat.lt_of_lt_of_le HG15.out b.size)
                  have HZ16 := Lib.hid (Nat.lt_of_lt_of_le HZ15.out b.size)
                  have O16 := Lib.hid (O15.out.below b)
                  have I16 := Lib.hid (I15.out.below b)
                  have J16 := Lib.hid (J15.out.below b)
                  have X16 := Lib.hid (X15.out.below b)
                  have Y16 := Lib.hid (Y15.out.below b)
                  have E16 := Lib.hid (E15.out.below b)
                  have Q16 := Lib.hid (Q15.out.trans (b.mono Q15.out.size))
                  clear T15 K15 HG15 HZ15 O15 I15 J15 X15 Y15 E15 Q15
                  clear b
                  refine hK.out _ _ ?_ (fun hHeld => ?_)
                  · exact ⟨T16.out, K16.out⟩
                  clear hK K
                  (try simp only [List.getElem_toArray]); (try simp only [List.getElem_cons_succ]); (try simp only [List.getElem_cons_zero]); try simp only [Act.put, List.setIfInBounds_toArray, List.set_cons_zero, List.set_cons_succ]
                  refine wpAnyH_take (i := 17) (oi := _) (v := ?_) rfl (by kernel_rfl) (by kernel_rfl) (by kernel_rfl) (fun _ _ _ h => h) (Or.inl ⟨by rfl, ?_⟩) (by assumption) ?_
                  rotate_left
                  · intro w5 hSw
                    clear hSw
                    go_simp
                    all_goals with_reducible rfl
                  (try simp only [List.getElem_toArray]); (try simp only [List.getElem_cons_succ]); (try simp only [List.getElem_cons_zero]); try simp only [Act.put, List.setIfInBounds_toArray, List.set_cons_zero, List.set_cons_succ]
                  refine wpAnyH_take (i := 18) (oi := _) (v := ?_) rfl (by kernel_rfl) (by kernel_rfl) (by kernel_rfl) (fun _ _ _ h => h) (Or.inl ⟨by rfl, ?_⟩) (by assumption) ?_
                  rotate_left
                  · intro w5 hSw
                    clear hSw
                    go_simp
                    all_goals with_reducible rfl
                  (try simp only [List.getElem_toArray]); (try simp only [List.getElem_cons_succ]); (try simp only [List.getElem_cons_zero]); try simp only [Act.put, List.setIfInBounds_toArray, List.set_cons_zero, List.set_cons_succ]
                  refine wpAnyH_take (i := 19) (oi := _) (v := .agg #[.int .u16 (sp : Nat), .int .u16 (dp : Nat), .int .u32 (sq : Nat), .int .u32 (ak : Nat), .int .u8 (fl : Nat), .int .u16 (wn : Nat), .int .u16 (ur : Nat), .int .i64 mss, .bool hs, .int .i64 sc, .bool sk, .slice ia bs.length ic, .bool ht, .int .u32 (tv : Nat), .int .u32 (te : Nat), .slice ja ds.length jc]) rfl (by kernel_rfl) (by kernel_rfl) (by kernel_rfl) (fun _ _ _ h => h) (yieldsIf_tcp rfl (.tmp 10) rfl g rfl _ (fun W hW => (show TcpAt W g _ ∧ TcpAt W w.heap.size _ from hW).1) rfl) (by assumption) ?_
                  (try simp only [List.getElem_toArray]); (try simp only [List.getElem_cons_succ]); (try simp only [List.getElem_cons_zero]); try simp only [Act.put, List.setIfInBounds_toArray, List.set_cons_zero, List.set_cons_succ]
                  refine wpAnyH_take (i := 20) (oi := _) (v := .agg #[.int .u16 (sp : Nat), .int .u16 (dp : Nat), .int .u32 (sq : Nat), .int .u32 (ak : Nat), .int .u8 (fl : Nat), .int .u16 (wn : Nat), .int .u16 (ur : Nat), .int .i64 mss, .bool hs, .int .i64 sc, .bool sk, .slice ba bs.length bc, .bool ht, .int .u32 (tv : Nat), .int .u32 (te : Nat), .slice da ds.length dc]) rfl (by kernel_rfl) (by kernel_rfl) (by kernel_rfl) (fun _ _ _ h => h) (yieldsIf_tcp rfl (.tmp 4) rfl w.heap.size rfl _ (fun W hW => (show TcpAt W g _ ∧ TcpAt W w.heap.size _ from hW).2) rfl) (by assumption) ?_
                  (try simp only [List.getElem_toArray]); (try simp only [List.getElem_cons_succ]); (try simp only [List.getElem_cons_zero]); try simp only [Act.put, List.setIfInBounds_toArray, List.set_cons_zero, List.set_cons_succ]
                  refine wpAnyH_ready (rs := [21]) (by kernel_rfl) (by simp) ?_
                  refine (AllReadyH.cons (o := _) rfl (fun K hK => ?_) AllReadyH.nil)
                  · (try simp only [List.getElem_toArray]); (try simp only [List.getElem_cons_succ]); (try simp only [List.getElem_cons_zero])
                    go_simp
                    go_at_call 14
                    refine (SI.out ia ic ja jc _ I16.out X16.out J16.out Y16.out).mono ?_
                    rintro e V17 ⟨rfl, b⟩
                    try dsimp only
                    have T17 := Lib.hid ((b.block _ HG16.out).trans T16.out)
                    have K17 := Lib.hid ((b.block _ HZ16.out).trans K16.out)
                    have HG17 := Lib.hid (Nat.lt_of_lt_of_le HG16.out b.size)
                    have HZ17 := Lib.hid (Nat.lt_of_lt_of_le HZ16.out b.size)
                    have O17 := Lib.hid (O16.out.below b)
                    have I17 := Lib.hid (I16.out.below b)
                    have J17 := Lib.hid (J16.out.below b)
                    have X17 := Lib.hid (X16.out.below b)
                    have Y17 := Lib.hid (Y16.out.below b)
                    have E17 := Lib.hid (E16.out.below b)
                    have Q17 := Lib.hid (Q16.out.trans (b.mono Q16.out.size))
                    clear T16 K16 HG16 HZ16 O16 I16 J16 X16 Y16 E16 Q16
                    clear b
                    refine hK.out _ _ ?_ (fun hHeld => ?_)
                    · exact ⟨T17.out, K17.out⟩
                    clear hK K
                    (try simp only [List.getElem_toArray]); (try simp only [List.getElem_cons_succ]); (try simp only [List.getElem_cons_zero]); try simp only [Act.put, List.setIfInBounds_toArray, List.set_cons_zero, List.set_cons_succ]
                    refine wpAnyH_take (i := 22) (oi := _) (v := ?_) rfl (by kernel_rfl) (by kernel_rfl) (by kernel_rfl) (fun _ _ _ h => h) (Or.inl ⟨by rfl, ?_⟩) (by assumption) ?_
                    rotate_left
                    · intro w5 hSw
                      clear hSw
                      go_simp
                      all_goals with_reducible rfl
                    (try simp only [List.getElem_toArray]); (try simp only [List.getElem_cons_succ]); (try simp only [List.getElem_cons_zero]); try simp only [Act.put, List.setIfInBounds_toArray, List.set_cons_zero, List.set_cons_succ]
                    refine wpAnyH_take (i := 23) (oi := _) (v := ?_) rfl (by kernel_rfl) (by kernel_rfl) (by kernel_rfl) (fun _ _ _ h => h) (Or.inl ⟨by rfl, ?_⟩) (by assumption) ?_
                    rotate_left
                    · intro w5 hSw
                      clear hSw
                      go_simp
                      all_goals with_reducible rfl
                    (try simp only [List.getElem_toArray]); (try simp only [List.getElem_cons_succ]); (try simp only [List.getElem_cons_zero]); try simp only [Act.put, List.setIfInBounds_toArray, List.set_cons_zero, List.set_cons_succ]
                    refine wpAnyH_ready (rs := [24]) (by kernel_rfl) (by simp) ?_
                    refine (AllReadyH.cons (o := _) rfl (fun K hK => ?_) AllReadyH.nil)
                    · (try simp only [List.getElem_toArray]); (try simp only [List.getElem_cons_succ]); (try simp only [List.getElem_cons_zero])
                      go_simp
                      go_at_call 19
                      refine (alive_any _).mono ?_
                      rintro e V18 ⟨rfl, b⟩
                      try dsimp only
                      have T18 := Lib.hid ((b.block _ HG17.out).trans T17.out)
                      have K18 := Lib.hid ((b.block _ HZ17.out).trans K17.out)
                      have HG18 := Lib.hid (Nat.lt_of_lt_of_le HG17.out b.size)
                      have HZ18 := Lib.hid (Nat.lt_of_lt_of_le HZ17.out b.size)
                      have O18 := Lib.hid (O17.out.below b)
                      have I18 := Lib.hid (I17.out.below b)
                      have J18 := Lib.hid (J17.out.below b)
                      have X18 := Lib.hid (X17.out.below b)
                      have Y18 := Lib.hid (Y17.out.below b)
                      have E18 := Lib.hid (E17.out.below b)
                      have Q18 := Lib.hid (Q17.out.trans (b.mono Q17.out.size))
                      clear T17 K17 HG17 HZ17 O17 I17 J17 X17 Y17 E17 Q17
                      clear b
                      refine hK.out _ _ ?_ (fun hHeld => ?_)
                      · exact ⟨T18.out, K18.out⟩
                      clear hK K
                      (try simp only [List.getElem_toArray]); (try simp only [List.getElem_cons_succ]); (try simp only [List.getElem_cons_zero]); try simp only [Act.put, List.setIfInBounds_toArray, List.set_cons_zero, List.set_cons_succ]
                      refine wpAnyH_take (i := 25) (oi := _) (v := ?_) rfl (by kernel_rfl) (by kernel_rfl) (by kernel_rfl) (fun _ _ _ h => h) (Or.inl ⟨by rfl, ?_⟩) (by assumption) ?_
                      rotate_left
                      · intro w5 hSw
                        clear hSw
                        go_simp
                        all_goals with_reducible rfl
                      (try simp only [List.getElem_toArray]); (try simp only [List.getElem_cons_succ]); (try simp only [List.getElem_cons_zero]); try simp only [Act.put, List.setIfInBounds_toArray, List.set_cons_zero, List.set_cons_succ]
                      refine wpAnyH_take (i := 26) (oi := _) (v := ?_) rfl (by kernel_rfl) (by kernel_rfl) (by kernel_rfl) (fun _ _ _ h => h) (Or.inl ⟨by rfl, ?_⟩) (by assumption) ?_
                      rotate_left
                      · intro w5 hSw
                        clear hSw
                        go_simp
                        all_goals with_reducible rfl
                      (try simp only [List.getElem_toArray]); (try simp only [List.getElem_cons_succ]); (try simp only [List.getElem_cons_zero]); try simp only [Act.put, List.setIfInBounds_toArray, List.set_cons_zero, List.set_cons_succ]
                      refine wpAnyH_done (by kernel_rfl) ?_ _
                      go_wp2
                      go_ret
                      exact ⟨rfl, Q18.out⟩

theorem of_len16 {α : Type} (l : List α) (h : l.length = 16) : ∃ x0 x1 x2 x3 x4 x5 x6 x7 x8 x9 x10 x11 x12 x13 x14 x15, l = [x0, x1, x2, x3, x4, x5, x6, x7, x8, x9, x10, x11, x12, x13, x14, x15] := by
  match l, h with
  | [x0, x1, x2, x3, x4, x5, x6, x7, x8, x9, x10, x11, x12, x13, x14, x15], _ => exact ⟨x0, x1, x2, x3, x4, x5, x6, x7, x8, x9, x10, x11, x12, x13, x14, x15, rfl⟩
theorem own : ownKnob Try.prog.godebug = none := by kernel_rfl
theorem laidOut : laidOutB Try.prog = true := by kernel_rfl

set_option maxRecDepth 100000 in
set_option maxHeartbeats 2000000 in
theorem lifted (os : Os) (started : os.Started) (H : Type) (enc : TypeId × Value → H) :
    ReturnsInHanded {} Try.checked os 3 .any (Rows.tcpwireTellsSpec.pre6 enc Try.prog Try.f3 Rows.tcpwireTellsRow.domain false) (Rows.tcpwireTellsSpec.post enc Try.prog Try.f3 false true false false) := by
  refine returnsInHanded_of_change_sized (C := Try.checked) own started (by kernel_rfl) Try.func3
    (ChangeSpec.witness6 (enc := enc) (C := Try.checked) false ⟨#[], #[.agg #[.int .u16 0, .int .u16 0, .int .u32 0, .int .u32 0, .int .u8 0, .int .u16 0, .int .u16 0, .int .i64 0, .bool false, .int .i64 0, .bool false, .slice none 0 0, .bool false, .int .u32 0, .int .u32 0, .slice none 0 0], .int .u32 0, .int .u32 0, .slice none 0 0], []⟩ 8 (by kernel_rfl) (by kernel_rfl) (by kernel_rfl) (by kernel_rfl)) ?_
  intro W base args ds gs before hval0 hW hcnd hsz0 _
  have hval : ∀ (j : Nat) t v, Try.f3.params[j]? = some t → args[j]? = some v → Value.okWide Try.prog W .any base t v := hval0
  have hsz : (DataW.weightsEach Try.prog (Try.f3.params.toList ++ Rows.tcpwireTellsSpec.plain.varTypes Try.prog) (ds ++ gs)).all (· ≤ reachBytes) = true := hsz0
  have hW' := hW
  obtain ⟨p, q, hA0, hV, rfl, hfz, hnd⟩ := hW
  have hA : DataW.TrodAll enc Try.prog W 0 (fun _ => true) true Try.f3.params.toList args.toList ds p := hA0
  rw [Try.params3] at hA hval hsz
  obtain ⟨v0, vs0, d0, ds0, p0, q0, hargs, rfl, rfl, h0, r0⟩ := trodAll_cons hA
  obtain ⟨v1, vs1, d1, ds1, p1, q1, rfl, rfl, rfl, h1, r1⟩ := trodAll_cons r0
  obtain ⟨v2, vs2, d2, ds2, p2, q2, rfl, rfl, rfl, h2, r2⟩ := trodAll_cons r1
  obtain ⟨v3, vs3, d3, ds3, p3, q3, rfl, rfl, rfl, h3, r3⟩ := trodAll_cons r2
  obtain ⟨rfl, rfl, rfl⟩ := trodAll_nil r3
  obtain rfl : args = #[v0, v1, v2, v3] := by cases args; simp_all
  obtain ⟨rfl, rfl⟩ := trodVars_none hV
  have k0 := h0
  have lt0 : ∀ x ∈ p0, x.block < W.heap.size := by obtain ⟨m, hm⟩ := k0; exact DataW.trod_lt m _ _ _ hm
  obtain ⟨vs0', ys0', m0, rfl, lv0, ly0, hd0, F0⟩ := open_agg Try.underlying27 (by kernel_rfl) (by kernel_rfl) (hval 0 27 v0 rfl rfl) h0
  obtain ⟨c0_0, c0_1, c0_2, c0_3, c0_4, c0_5, c0_6, c0_7, c0_8, c0_9, c0_10, c0_11, c0_12, c0_13, c0_14, c0_15, rfl⟩ := of_len16 _ lv0
  obtain ⟨y0_0, y0_1, y0_2, y0_3, y0_4, y0_5, y0_6, y0_7, y0_8, y0_9, y0_10, y0_11, y0_12, y0_13, y0_14, y0_15, rfl⟩ := of_len16 _ ly0
  simp only [List.map_cons, List.map_nil] at hd0
  obtain ⟨_, _, e, g, t0_0⟩ := F0 0 _ rfl
  obtain rfl := Option.some.inj e; obtain rfl := Option.some.inj g; clear e g
  obtain ⟨z0_0, e, _, w0_0⟩ := DataW.trod_int Try.underlying22 t0_0
  obtain rfl := (List.cons.inj e).1; clear e
  obtain ⟨n0_0, rfl, hn0_0⟩ := nat_of_u16 w0_0
  obtain ⟨_, _, e, g, t0_1⟩ := F0 1 _ rfl
  obtain rfl := Option.some.inj e; obtain rfl := Option.some.inj g; clear e g
  obtain ⟨z0_1, e, _, w0_1⟩ := DataW.trod_int Try.underlying22 t0_1
  obtain rfl := (List.cons.inj e).1; clear e
  obtain ⟨n0_1, rfl, hn0_1⟩ := nat_of_u16 w0_1
  obtain ⟨_, _, e, g, t0_2⟩ := F0 2 _ rfl
  obtain rfl := Option.some.inj e; obtain rfl := Option.some.inj g; clear e g
  obtain ⟨z0_2, e, _, w0_2⟩ := DataW.trod_int Try.underlying23 t0_2
  obtain rfl := (List.cons.inj e).1; clear e
  obtain ⟨n0_2, rfl, hn0_2⟩ := nat_of_u32 w0_2
  obtain ⟨_, _, e, g, t0_3⟩ := F0 3 _ rfl
  obtain rfl := Option.some.inj e; obtain rfl := Option.some.inj g; clear e g
  obtain ⟨z0_3, e, _, w0_3⟩ := DataW.trod_int Try.underlying23 t0_3
  obtain rfl := (List.cons.inj e).1; clear e
  obtain ⟨n0_3, rfl, hn0_3⟩ := nat_of_u32 w0_3
  obtain ⟨_, _, e, g, t0_4⟩ := F0 4 _ rfl
  obtain rfl := Option.some.inj e; obtain rfl := Option.some.inj g; clear e g
  obtain ⟨z0_4, e, _, w0_4⟩ := DataW.trod_int Try.underlying5 t0_4
  obtain rfl := (List.cons.inj e).1; clear e
  obtain ⟨n0_4, rfl, hn0_4⟩ := nat_of_u8 w0_4
  obtain ⟨_, _, e, g, t0_5⟩ := F0 5 _ rfl
  obtain rfl := Option.some.inj e; obtain rfl := Option.some.inj g; clear e g
  obtain ⟨z0_5, e, _, w0_5⟩ := DataW.trod_int Try.underlying22 t0_5
  obtain rfl := (List.cons.inj e).1; clear e
  obtain ⟨n0_5, rfl, hn0_5⟩ := nat_of_u16 w0_5
  obtain ⟨_, _, e, g, t0_6⟩ := F0 6 _ rfl
  obtain rfl := Option.some.inj e; obtain rfl := Option.some.inj g; clear e g
  obtain ⟨z0_6, e, _, w0_6⟩ := DataW.trod_int Try.underlying22 t0_6
  obtain rfl := (List.cons.inj e).1; clear e
  obtain ⟨n0_6, rfl, hn0_6⟩ := nat_of_u16 w0_6
  obtain ⟨_, _, e, g, t0_7⟩ := F0 7 _ rfl
  obtain rfl := Option.some.inj e; obtain rfl := Option.some.inj g; clear e g
  obtain ⟨z0_7, e, _, w0_7⟩ := DataW.trod_int Try.underlying3 t0_7
  obtain rfl := (List.cons.inj e).1; clear e
  obtain ⟨lo0_7, hi0_7⟩ := bounds_i64 w0_7
  obtain ⟨_, _, e, g, t0_8⟩ := F0 8 _ rfl
  obtain rfl := Option.some.inj e; obtain rfl := Option.some.inj g; clear e g
  obtain ⟨b0_8, e, _⟩ := DataW.trod_bool Try.underlying4 t0_8
  obtain rfl := (List.cons.inj e).1; clear e
  obtain ⟨_, _, e, g, t0_9⟩ := F0 9 _ rfl
  obtain rfl := Option.some.inj e; obtain rfl := Option.some.inj g; clear e g
  obtain ⟨z0_9, e, _, w0_9⟩ := DataW.trod_int Try.underlying3 t0_9
  obtain rfl := (List.cons.inj e).1; clear e
  obtain ⟨lo0_9, hi0_9⟩ := bounds_i64 w0_9
  obtain ⟨_, _, e, g, t0_10⟩ := F0 10 _ rfl
  obtain rfl := Option.some.inj e; obtain rfl := Option.some.inj g; clear e g
  obtain ⟨b0_10, e, _⟩ := DataW.trod_bool Try.underlying4 t0_10
  obtain rfl := (List.cons.inj e).1; clear e
  obtain ⟨_, _, e, g, t0_11⟩ := F0 11 _ rfl
  obtain rfl := Option.some.inj e; obtain rfl := Option.some.inj g; clear e g
  obtain ⟨a0_11, bs0_11, cap0_11, rfl, hbk0_11, hcap0_11, hlc0_11, hq0_11⟩ := open_blocks t0_11
  obtain ⟨_, _, e, g, t0_12⟩ := F0 12 _ rfl
  obtain rfl := Option.some.inj e; obtain rfl := Option.some.inj g; clear e g
  obtain ⟨b0_12, e, _⟩ := DataW.trod_bool Try.underlying4 t0_12
  obtain rfl := (List.cons.inj e).1; clear e
  obtain ⟨_, _, e, g, t0_13⟩ := F0 13 _ rfl
  obtain rfl := Option.some.inj e; obtain rfl := Option.some.inj g; clear e g
  obtain ⟨z0_13, e, _, w0_13⟩ := DataW.trod_int Try.underlying23 t0_13
  obtain rfl := (List.cons.inj e).1; clear e
  obtain ⟨n0_13, rfl, hn0_13⟩ := nat_of_u32 w0_13
  obtain ⟨_, _, e, g, t0_14⟩ := F0 14 _ rfl
  obtain rfl := Option.some.inj e; obtain rfl := Option.some.inj g; clear e g
  obtain ⟨z0_14, e, _, w0_14⟩ := DataW.trod_int Try.underlying23 t0_14
  obtain rfl := (List.cons.inj e).1; clear e
  obtain ⟨n0_14, rfl, hn0_14⟩ := nat_of_u32 w0_14
  obtain ⟨_, _, e, g, t0_15⟩ := F0 15 _ rfl
  obtain rfl := Option.some.inj e; obtain rfl := Option.some.inj g; clear e g
  obtain ⟨a0_15, xs0_15, cap0_15, rfl, hbt0_15, hcap0_15, hlc0_15, hq0_15⟩ := open_bytes t0_15
  obtain ⟨a1, rfl, rfl, rfl, w1⟩ := open_int Try.underlying23 (hval 1 23 v1 rfl rfl) h1
  obtain ⟨a2, rfl, rfl, rfl, w2⟩ := open_int Try.underlying23 (hval 2 23 v2 rfl rfl) h2
  obtain ⟨a3, len3, cap3, rfl⟩ := okWide_slice Try.underlying25 (hval 3 25 v3 rfl rfl)
  have k3 := h3
  have lt3 : ∀ x ∈ p3, x.block < W.heap.size := by obtain ⟨m, hm⟩ := k3; exact DataW.trod_lt m _ _ _ hm
  have hre0_11 : bs0_11.length ≤ 17592186043904 := blocks_reach hq0_11 (sized_field hsz (j := 0) (i := 11) (t := 27) rfl (by rw [hd0]; rfl) Try.underlying27 rfl rfl)
  have hre0_15 : xs0_15.length ≤ 140737488351232 := bytes_reach hq0_15 (sized_field hsz (j := 0) (i := 15) (t := 27) rfl (by rw [hd0]; rfl) Try.underlying27 rfl rfl)
  obtain ⟨xs3, hxl3, hbt3, hcap3, hlc3, hre3⟩ : ∃ xs : List Nat, xs.length = len3 ∧ Bts W a3 xs ∧ (a3 = none → cap3 = 0) ∧ (xs.length ≤ cap3 ∧ cap3 ≤ maxLen) ∧ xs.length ≤ 140737488351232 := by
    obtain ⟨fuel, hf⟩ := h3
    rcases open_ints Try.underlying25 Try.underlying5 (by kernel_rfl) hf with ⟨hcs, _⟩ | ⟨x, l, c, zs, hcs, _, hl, hm, hz, hd, hcell, hwz⟩
    · simp [Value.cells] at hcs
      obtain ⟨rfl, rfl, rfl⟩ := hcs
      exact ⟨[], rfl, ⟨(fun x h => by cases h), .inl rfl⟩, fun _ => rfl, ⟨Nat.le_refl _, Nat.zero_le _⟩, by simp⟩
    · simp [Value.cells] at hcs
      obtain ⟨rfl, rfl, rfl⟩ := hcs
      have hz' : zs.length = cap3 := by simpa using hz
      obtain ⟨xs, h1, h2⟩ := bts_of_ints hl hz' hcell hwz
      have hd' := (Prod.mk.inj hd).1
      have hw := sized_slice hsz (j := 3) (t := 25) (e := 5) rfl (by rw [hd']; rfl) Try.underlying25
      rw [bytes5] at hw
      simp only [lits, List.length_map, List.length_take, List.length_drop, reachBytes] at hw
      exact ⟨xs, h1, h2, (fun h => by cases h), ⟨by omega, hm⟩, by omega⟩
  clear hA0 hval0 hsz hsz0
  obtain ⟨n1, rfl, hn1⟩ := nat_of_u32 w1
  obtain ⟨n2, rfl, hn2⟩ := nat_of_u32 w2
  subst hxl3
  refine (walk n0_0 n0_1 n0_2 n0_3 n0_4 n0_5 n0_6 z0_7 b0_8 z0_9 b0_10 a0_11 bs0_11 cap0_11 b0_12 n0_13 n0_14 a0_15 xs0_15 cap0_15 n1 n2 a3 xs3 cap3 W hn0_0 hn0_1 hn0_2 hn0_3 hn0_4 hn0_5 hn0_6 lo0_7 hi0_7 lo0_9 hi0_9 hbk0_11 hcap0_11 hlc0_11 hre0_11 hn0_13 hn0_14 hbt0_15 hcap0_15 hlc0_15 hre0_15 hn1 hn2 hbt3 hcap3 hlc3 hre3).mono fun e W' ⟨he, bel⟩ => ?_
  subst he
  exact ⟨_, rfl, _, _, _, [], _, [], hW', trodAll_mk1 (shut_bool Try.underlying4 _), (trodAll_cons_mk (Below.trod laidOut (by kernel_rfl) (of_decide_eq_true (by kernel_rfl)) k0 bel lt0) (trodAll_cons_mk (shut_int Try.underlying23 w1) (trodAll_cons_mk (shut_int Try.underlying23 w2) (trodAll_cons_mk (Below.trod laidOut (by kernel_rfl) (of_decide_eq_true (by kernel_rfl)) k3 bel lt3) trodAll_mk0)))), rfl, bel.frame _, fun h => by cases h⟩

theorem over : Rows.tcpwireTellsRow.holds Try.pinned (OpenSpec.ofChange Rows.tcpwireTellsSpec) :=
  OpenClaim.holds_of_wide 3 Try.f3 rfl rfl rfl rfl rfl rfl rfl ⟨rfl, rfl, rfl, rfl, rfl⟩ rfl rfl rfl rfl rfl (by kernel_rfl) Try.func3 (by kernel_rfl)
    (of_decide_eq_true (by kernel_rfl)) (by unfold Func.isWrapper; first | (rw [if_pos (by decide +kernel)]; kernel_rfl) | (rw [if_neg (by decide +kernel)]; exact ⟨rfl, rfl⟩))
    (fun os started H enc _ => lifted os started H enc)

end Go.Proofs.Ytgmgoilleakdcaa.tcpwireTells
namespace Go.Proofs.Ytgmgoilleakdcaa
/-- The statement. -/
theorem tcpwireTells_holds : Rows.TcpwireTellsSaid := tcpwireTells.over
#print axioms tcpwireTells_holds
end Go.Proofs.Ytgmgoilleakdcaa
