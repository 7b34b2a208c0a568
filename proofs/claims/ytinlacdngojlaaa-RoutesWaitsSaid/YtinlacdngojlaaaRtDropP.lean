/- Routes: the program's Drop. -/
import Derived.Test.YtinlacdngojlaaaRtDrop
namespace Go.Proofs.Ytinlacdngojlaaa
open Go.RowKit Go.Maps Go.Proofs.Ytinlacdngojlaaa.Rt

def isR (n : Nat) (b : Int) (r : Route10) : Bool := r.net == n && r.bits == b
def dropE (L : List Route10) (n : Nat) (b : Int) : Nat := if rlook L n b = none then 71 else 0
def dropL (L : List Route10) (n : Nat) (b : Int) : List Route10 := L.eraseP (isR n b)
theorem isR_iff {n : Nat} {b : Int} {r : Route10} : isR n b r = true ↔ r.net = n ∧ r.bits = b := by unfold isR; simp
theorem drop_none {L : List Route10} {n : Nat} {b : Int} (h : rlook L n b = none) : dropL L n b = L := by
  unfold dropL
  rw [List.eraseP_of_forall_not]
  intro a ha hp
  unfold rlook at h
  rw [Option.map_eq_none_iff, List.find?_eq_none] at h
  exact h a ha hp
theorem drop_some {L : List Route10} {n : Nat} {b : Int} (h : rlook L n b ≠ none) : ∃ A r B, L = A ++ r :: B ∧ r.net = n ∧ r.bits = b ∧ dropL L n b = A ++ B ∧ ∀ x ∈ A, ¬ (x.net = n ∧ x.bits = b) := by
  obtain ⟨x, hx, h1, h2⟩ := rlook_some_mem h
  obtain ⟨r, A, B, hA, hr, hL, hE⟩ := List.exists_of_eraseP hx (isR_iff.2 ⟨h1, h2⟩)
  obtain ⟨e1, e2⟩ := isR_iff.1 hr
  exact ⟨A, r, B, hL, e1, e2, hE, fun y hy hh => hA y hy (isR_iff.2 hh)⟩
theorem uk_dropL {L : List Route10} (h : UK L) (n : Nat) (b : Int) : UK (dropL L n b) := by
  by_cases hn : rlook L n b = none
  · rw [drop_none hn]; exact h
  · obtain ⟨A, r, B, rfl, _, _, e, _⟩ := drop_some hn
    rw [e]; exact uk_drop h
def DropAns (g gm : Nat) (L : List Route10) (n : Nat) (b : Int) (w : World) (e : Ending) (w' : World) : Prop := e = .returned (.int .i64 (dropE L n b : Nat)) ∧ TabAt w' g gm (dropL L n b) ∧ w.grownBy w' (some gm)
set_option maxRecDepth 100000 in
set_option maxHeartbeats 1000000 in
theorem drop_any (W : World) (g gm : Nat) (L : List Route10) (n : Nat) (b : Int) (h : TabAt W g gm L) (hu : UK L) (hn : n < 4294967296) (h1 : -9223372036854775808 ≤ b) (h2 : b ≤ 9223372036854775807) :
    Calls Try.prog 10 #[.pointer (some ⟨g, 0, none⟩), .int .u32 (n : Nat), .int .i64 b] W (DropAns g gm L n b W) := by
  have HT := Lib.hid h
  have HU := Lib.hid hu
  clear h hu
  go_enter Try.func10, Try.ntmps10
  go_wp2_with fail
  refine (made_any _ g gm HT.out.1).mono ?_
  rintro e w' ⟨rfl, rfl⟩
  go_upto_region 4 with fail
  have b0 := (Below.refl W.heap.size W).alloc (Nat.le_refl _) (.cells #[.int .u32 (n : Nat), .int .i64 b] 67)
  have TX := Lib.hid (HT.out.below b0)
  have PX := Lib.hid (blk_new W (.cells #[.int .u32 (n : Nat), .int .i64 b] 67))
  have B0 := Lib.hid b0
  clear b0
  generalize W.alloc (.cells #[.int .u32 (n : Nat), .int .i64 b] 67) = X at TX PX B0 ⊢
  have c0 := blk_cell TX.out.1 0
  have p0 := blk_cell PX.out 0
  have p1 := blk_cell PX.out 1
  cases hlk : rlook L n b
  case none =>
    have LK : ∀ q, (Instr.lookup 63 (.map (some gm)) (.agg #[.int .u32 (n : Nat), .int .i64 b]) true).run Try.prog (X.drewN q) = .ok (.tuple #[.int .u32 0, .bool false]) (X.drewN q) := fun q => tab_miss (TX.out.below (below_drewN (Below.refl _ _) q)) hn h1 h2 hlk
    have HE : Hid (dropE L n b = 71) := Lib.hid (by unfold dropE; rw [if_pos hlk])
    have HD := Lib.hid (drop_none hlk)
    clear hlk
    go_quiet (fail)
    go_wp2
    go_ret
    exact ⟨by rw [HE.out]; rfl, by rw [HD.out]; exact TX.out.below (below_drewN (Below.refl _ _) _), grown_of_below (below_drewN B0.out _) _⟩
  case some gw =>
    have LK : ∀ q, (Instr.lookup 63 (.map (some gm)) (.agg #[.int .u32 (n : Nat), .int .i64 b]) true).run Try.prog (X.drewN q) = .ok (.tuple #[.int .u32 (gw : Nat), .bool true]) (X.drewN q) := fun q => tab_hit (TX.out.below (below_drewN (Below.refl _ _) q)) hn h1 h2 hlk
    have hno : rlook L n b ≠ none := by rw [hlk]; simp
    have HE : Hid (dropE L n b = 0) := Lib.hid (by unfold dropE; rw [if_neg hno])
    have HNO := Lib.hid hno
    clear hlk hno
    go_quiet (fail)
    clear LK
    have bq := below_drewN (Below.refl X.heap.size X) nq
    have TQ := Lib.hid (TX.out.below bq)
    have PQ := Lib.hid ((bq.block _ (blk_lt PX.out)).trans PX.out)
    have BQ := Lib.hid (B0.out.trans (bq.mono B0.out.size))
    clear bq c0 p0 p1 TX PX B0
    generalize X.drewN nq = Y at TQ PQ BQ ⊢
    have c0 := blk_cell TQ.out.1 0
    have p0 := blk_cell PQ.out 0
    have p1 := blk_cell PQ.out 1
    go_upto_region 7 with fail
    go_still_tail 5, (by kernel_rfl)
    change wpList _ _ _ _ _ Y.drew
    obtain ⟨_, hG, D, hD, hTD⟩ := TQ.out
    have HG := Lib.hid hG
    have HD := Lib.hid hD
    have HTD := Lib.hid hTD
    have HK := Lib.hid (rt_key n b hn h1 h2)
    clear hG hD hTD
    go_wp2_with (at_delete; refine wpList_delete_own _ rfl _ _ 63 67 rfl 29 rt_law Try.underlying63 (plainElem Try.prog 29) gm L.length D rfl HD.out.drew _ _ rfl HK.out ?_; intro Z hown hturn; have HO := Lib.hid hown; have HZ := Lib.hid hturn.grown; clear hown hturn)
    go_ret
    have hne : g ≠ gm := HT.out.ne
    have by0 := BQ.out.size
    have hgl := blk_lt TQ.out.1
    obtain ⟨A, r, B, hL, e1, e2, hd, _⟩ := drop_some HNO.out
    refine ⟨by rw [HE.out]; rfl, ?_, grown_trans (grown_of_below BQ.out (some gm)) (grown_trans (grown_of_below (Below.refl Y.heap.size Y).drew (some gm)) HZ.out)⟩
    have hu := HU.out
    rw [hd]
    rw [hL] at hu
    have hg2 := HG.out
    rw [hL] at hg2
    have htd := HTD.out
    rw [hL] at htd
    have ht2 := tabD_del htd (HD.out.tidy rt_law) (by rw [e1]; exact hn) (by rw [e2]; exact h1) (by rw [e2]; exact h2) hu
    rw [e1, e2] at ht2
    refine ⟨(HZ.out.block g hgl (fun e => hne (Option.some.inj e))).trans TQ.out.1, rgood_drop hg2 hu, _, ?_, ht2⟩
    have := tight HO.out
    rw [ht2.1] at this
    exact this
end Go.Proofs.Ytinlacdngojlaaa
