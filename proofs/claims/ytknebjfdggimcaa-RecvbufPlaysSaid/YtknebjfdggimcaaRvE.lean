/- Recvbuf: lay; gapsOf. -/
import Derived.Test.YtknebjfdggimcaaRvD
import Derived.Test.YtknebjfdggimcaaGStruct
namespace Go.Proofs.Ytknebjfdggimcaa
open Go.RowKit Go.Proofs.Ytknebjfdggimcaa.Rv

set_option maxRecDepth 100000 in
set_option maxHeartbeats 1000000 in
theorem lay_ok (B : Nat) (g G n st rd nx : Nat) (pa : Option Addr) (pl pc ct : Nat) (x p m : Nat) (rs ds : List Nat) (db doff dc : Nat) (w : World) (hB : w.heap[g]? = some (.cells #[.slice (some ⟨G, 0, none⟩) n n, .int .i64 (st : Nat), .int .i64 (rd : Nat), .int .u32 (nx : Nat), .slice pa pl pc, .int .i64 (ct : Nat)] 70 (0, 0))) (O : OwnSl B (some ⟨G, 0, none⟩) rs n w) (hrl : rs.length = n) (X : Bts w (some ⟨db, doff, none⟩) ds) (hX : db ≠ G) (hgG : g ≠ G)
    (h0 : 0 < n) (hn : n ≤ 1048576) (hst : st < n) (hrd : rd + x ≤ n) (hp : (st + rd + x) % n = p) (hm : ds.length = m) (hmn : m ≤ n) (hdc : m ≤ dc) :
    Calls Try.prog 32 #[.pointer (some ⟨g, 0, none⟩), .int .i64 (x : Nat), .slice (some ⟨db, doff, none⟩) m dc] w fun e w' => e = .returned (.tuple #[]) ∧ OwnSl B (some ⟨G, 0, none⟩) (layF rs n p ds) n w' ∧ w.grownBy w' (some G) := by
  have hpn : p < n := by rw [← hp]; exact Nat.mod_lt _ h0
  have c0 := blk_cell hB 0
  have c1 := blk_cell hB 1
  have c2 := blk_cell hB 2
  have W1 : IntKind.i64.wrap ((st : Int) + (rd : Int)) = ((st + rd : Nat) : Int) := by rw [IntWalk.i64_in _ ⟨by omega, by omega⟩]; omega
  have W2 : IntKind.i64.wrap (((st + rd : Nat) : Int) + (x : Int)) = ((st + rd + x : Nat) : Int) := by rw [IntWalk.i64_in _ ⟨by omega, by omega⟩]; omega
  obtain ⟨sr, hsr⟩ : ∃ z, st + rd = z := ⟨_, rfl⟩
  rw [hsr] at W1 W2 hp
  obtain ⟨srx, hsrx⟩ : ∃ z, sr + x = z := ⟨_, rfl⟩
  rw [hsrx] at W2 hp
  have W3 : IntKind.i64.wrap ((srx : Int).tmod n) = (p : Int) := by rw [Int.tmod_eq_emod_of_nonneg (by omega), ← Int.natCast_emod, hp]; exact IntWalk.i64_in _ ⟨by omega, by omega⟩
  have e1 : (srx : Int) % (n : Int) = (p : Int) := by rw [← Int.natCast_emod, hp]
  have e1n : srx % n = p := hp
  have e2 : (srx : Int).tmod n = (p : Int) := by rw [Int.tmod_eq_emod_of_nonneg (by omega), e1]
  have W4 : IntKind.i64.wrap (p : Int) = (p : Int) := IntWalk.i64_in _ ⟨by omega, by omega⟩
  have fz : ¬ (n : Int) = 0 := by omega
  have fzb : ((n : Int) == 0) = false := by rw [beq_eq_false_iff_ne]; omega
  have fnz : ¬ n = 0 := by omega
  have hnp : ¬ n = p := by omega
  have hpnI : (p : Int) ≤ (n : Int) := by omega
  have HO := Lib.hid O
  have HX := Lib.hid X
  have HB0 := Lib.hid hB
  have HM := Lib.hid hm
  have hf : p + (ds.take (n - p)).length ≤ rs.length := by rw [List.length_take]; omega
  obtain ⟨ys, hys⟩ : ∃ z, ds.take (n - p) = z := ⟨_, rfl⟩
  rw [hys] at hf
  obtain ⟨q, hq⟩ : ∃ z, min (n - p) m = z := ⟨_, rfl⟩
  have hyl : ys.length = q := by rw [← hys, List.length_take, hm, hq]
  have hqm : q ≤ m := by omega
  have HXd : ∀ V, Below w.heap.size w V → Bts V (some ⟨db, doff, none⟩) ds := fun V b => X.below b
  clear hB O X hm hp hsr hsrx
  go_enter Try.func32, Try.ntmps32
  go_wp2_with fail
  go_quiet (fail)
  have b1 : Below w.heap.size w (w.drewN nq) := below_drewN (Below.refl _ _) nq
  have HO1 := Lib.hid (HO.out.below b1)
  have HX1 := Lib.hid (HX.out.below b1)
  have HB1 := Lib.hid ((b1.block _ (blk_lt HB0.out)).trans HB0.out)
  have Q1 := Lib.hid b1
  clear b1 c0 c1 c2
  generalize w.drewN nq = V1 at HO1 HX1 HB1 Q1 ⊢
  have c0 := blk_cell HB1.out 0
  go_upto_region 2 with (first
    | (refine wpList_copy_cut (w := V1) ?_ (.tmp 30) (.tmp 31) ?_ B G p (n - p) (n - p) n (dp := some ⟨G, p, none⟩) (b := some ⟨db, doff, none⟩) (xs := rs) (zs := ds) (ys := ys) (sLen := m) (sCap := dc) ?_ ?_ HM.out.symm hys HO1.out HX1.out (fun _ => rfl) hf ?_; rfl; rfl; rfl; rfl; intro V2 Z bg; have O2 := Lib.hid Z; have G2 := Lib.hid bg; clear Z bg)
    | fail)
  have B2 := Lib.hid (grown_block G2.out HB1.out hgG)
  have X2 := Lib.hid ((HX1.out.grown G2.out hX).below (Below.refl _ _).drew)
  have XD : Hid (Bts V2.drew (if dc = q then some ⟨db, doff, none⟩ else some ⟨db, doff + q, none⟩) (ds.drop q)) := Lib.hid (by
    split
    · rw [List.drop_eq_nil_of_le (by rw [HM.out]; omega)]; exact ⟨fun x hx => absurd hx List.not_mem_nil, .inl rfl⟩
    · exact X2.out.drop q)
  have hdl2 : (ds.drop q).length = m - q := by rw [List.length_drop, HM.out]
  have hy2 : (ds.drop q).take n = ds.drop q := List.take_of_length_le (by omega)
  have O5 := Lib.hid (O2.out.below (Below.refl _ _).drew)
  have B5 : Hid (V2.drew.heap[g]? = some (.cells #[.slice (some ⟨G, 0, none⟩) n n, .int .i64 (st : Nat), .int .i64 (rd : Nat), .int .u32 (nx : Nat), .slice pa pl pc, .int .i64 (ct : Nat)] 70 (0, 0))) := Lib.hid (blk_drew B2.out)
  have hsl5 : (splice rs p ys).length = n := by rw [length_splice _ _ _ hf]; exact hrl
  have hfit2 : 0 + (ds.drop q).length ≤ (splice rs p ys).length := by omega
  have s3 : ¬ ((m : Int) < (q : Int)) := by omega
  have s4 : (q : Int) ≤ (m : Int) := by omega
  have HY := Lib.hid hyl
  have v0 := blk_cell B5.out 0
  have HY2 := Lib.hid hy2
  have HF2 := Lib.hid hfit2
  have HD2 := Lib.hid hdl2
  clear c0 B2 hyl hsl5 hy2 hfit2 hdl2
  go_region_held3 (fun W => W.cell? ⟨g, 0, none⟩ = some (.slice (some ⟨G, 0, none⟩) n n)) (first | go_keep) (first
    | (refine step_copy_cut rfl _ _ rfl B G 0 n _ n rfl rfl HD2.out.symm HY2.out O5.out XD.out (fun _ => rfl) HF2.out ?_; intro V6 Z bg; have O6 := Lib.hid Z; have G6 := Lib.hid bg; have B6 := Lib.hid (grown_block bg B5.out hgG); have u1 := blk_cell B6.out 0; clear Z bg))
  go_end0
  have he : splice (splice rs p ys) 0 (ds.drop q) = layF rs n p ds := by
    unfold layF; rw [hys, HM.out, hq]; rfl
  exact ⟨rfl, by rw [← he]; exact O6.out, gr_trans (gr_below Q1.out _) (gr_trans G2.out (gr_trans (gr_drew V2 _) G6.out))⟩
end Go.Proofs.Ytknebjfdggimcaa
