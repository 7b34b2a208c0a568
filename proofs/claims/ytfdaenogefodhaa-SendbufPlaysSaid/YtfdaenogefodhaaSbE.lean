/- Sendbuf: New, Slice. -/
import Derived.Test.YtfdaenogefodhaaSbW
namespace Go.Proofs.Ytfdaenogefodhaa
open Go.RowKit Go.Proofs.Ytfdaenogefodhaa.Sb

set_option maxHeartbeats 1000000 in
theorem new_ok (n : Nat) (un : Int) (w : World) (h0 : 1 ≤ n) (h1 : n ≤ 1048576) :
    Calls Try.prog 14 #[.int .i64 n, .int .u32 un] w fun e w' => (∃ g, e = .returned (.tuple #[.pointer (some ⟨g, 0, none⟩), .int .i64 0]) ∧ w.heap.size < g ∧ w'.heap[g]? = some (.cells #[.slice (some ⟨w.heap.size, 0, none⟩) n n, .int .i64 0, .int .i64 0, .int .u32 un] 62 (0, 0)) ∧ OwnSl w.heap.size (some ⟨w.heap.size, 0, none⟩) (List.replicate n 0) n w') ∧ Below w.heap.size w w' := by
  obtain ⟨i0, hi, hz0, hz1, hz2⟩ := info_parts info5
  have Hz := Lib.hid hz2
  have i1 : (1 : Int) ≤ (n : Int) := by omega
  have i2 : (n : Int) ≤ 1048576 := by omega
  go_enter Try.func14, Try.ntmps14
  go_wp2_with (at_make; refine wpList_make_full _ rfl _ _ 36 rfl w.heap.size 5 i0 (.int .u8 0) 1 Try.underlying36 hi hz0 hz1 .i64 .i64 _ _ n rfl rfl rfl rfl (by rw [Hz.out]; omega) (by unfold maxLen; omega) (Nat.le_refl _) ?_; intro w1 hown hgrow; have b := Lib.hid ((Below.refl w.heap.size w).grown hgrow (Nat.le_refl _) (fun k e => by cases e)); have O := Lib.hid (own_made hown (Nat.le_refl _)); clear hown hgrow)
  go_ret2
  have hz : w.heap.size < w1.heap.size := by
    rcases O.out.2 with ⟨e, _⟩ | ⟨g, e, _, hr⟩
    · cases e
    · have h2 := b.out.size
      obtain ⟨ad, e1⟩ : ∃ ad, (some (⟨w.heap.size, 0, none⟩ : Addr)) = some ad := ⟨_, rfl⟩
      have hb := O.out.bts
      rcases hb.2 with h3 | ⟨b', o', e2, hb2, _⟩
      · have := congrArg List.length h3; simp at this; omega
      · injection e2 with e2; injection e2 with e3; omega
  exact ⟨⟨w1.heap.size, rfl, hz, blk_new w1 _, O.out.below ((Below.refl w1.heap.size w1).alloc (Nat.le_refl _) _)⟩, b.out.alloc b.out.size _⟩
/-- m octets of the ring, from place p on. -/
def Sb.cut (rs : List Nat) (n p m : Nat) : List Nat := splice (splice (List.replicate m 0) 0 ((rs.drop p).take m)) (min m (n - p)) (rs.take (m - min m (n - p)))
set_option maxRecDepth 100000 in
set_option maxHeartbeats 1000000 in
theorem slice_ok (B g G n st ct ah m p : Nat) (un q k : Int) (rs : List Nat) (w : World) (hB : w.heap[g]? = some (.cells #[.slice (some ⟨G, 0, none⟩) n n, .int .i64 (st : Nat), .int .i64 (ct : Nat), .int .u32 un] 62 (0, 0))) (O : OwnSl B (some ⟨G, 0, none⟩) rs n w) (hrl : rs.length = n) (hn : 1 ≤ n) (hn1 : n ≤ 1048576) (hst : st < n) (hct : ct ≤ n) (hd : df q un = ah) (hah : ah ≤ ct) (hk : 0 ≤ k) (hm : min k ((ct : Int) - (ah : Int)) = (m : Int)) (hp : (st + ah) % n = p) :
    Calls Try.prog 21 #[.pointer (some ⟨g, 0, none⟩), .int .u32 q, .int .i64 k] w fun e w' => (∃ a, e = .returned (.tuple #[.slice a m m, .int .i64 0]) ∧ OwnSl w.heap.size a (Sb.cut rs n p m) m w') ∧ Below w.heap.size w w' := by
  obtain ⟨i0, hi, hz0, hz1, hz2⟩ := info_parts info5
  have Hz := Lib.hid hz2
  have B0 := Lib.hid hB
  have c0 := blk_cell hB 0
  have gz := blk_lt hB
  have R0 := Lib.hid O.bts
  have HD := Lib.hid hd
  have hpi : ((st : Int) + (ah : Int)) % (n : Int) = (p : Int) := by rw [← Int.natCast_add, ← Int.natCast_emod, hp]
  have HP := Lib.hid hpi
  have hpn : p < n := by rw [← hp]; exact Nat.mod_lt _ (by omega)
  have hle : (ah : Int) ≤ (ct : Int) := by omega
  have hG := O.row.2
  have hGlt : G < w.heap.size := by
    rcases O.bts.2 with h3 | ⟨b', o', e2, hb2, _⟩
    · have h4 : rs.length = 0 := by rw [h3]; rfl
      omega
    · injection e2 with e2; injection e2 with e3; omega
  clear hB O hp hpi hd hG
  go_enter Try.func21, Try.ntmps21
  go_wp2_with fail
  refine (made_yes g G n st ct un _ B0.out).mono ?_
  rintro e w' ⟨rfl, rfl⟩
  go_wp2_with fail
  refine (find_ok g G n st ct un q ah _ B0.out HD.out).mono ?_
  rintro e V1 ⟨rfl, b⟩
  have B1 := Lib.hid ((b.block _ gz).trans B0.out)
  have R1 := Lib.hid (R0.out.below b)
  have Q1 := Lib.hid b
  have gz1 := Nat.lt_of_lt_of_le gz b.size
  have Gz1 := Nat.lt_of_lt_of_le hGlt b.size
  clear b B0 R0 c0
  have c0 := blk_cell B1.out 0
  have c2 := blk_cell B1.out 2
  go_wp2_with (at_make; refine wpList_make_full _ rfl _ _ 36 rfl V1.heap.size 5 i0 (.int .u8 0) 1 Try.underlying36 hi hz0 hz1 .i64 .i64 _ _ m rfl rfl rfl rfl (by rw [Hz.out]; omega) (by unfold maxLen; omega) (Nat.le_refl _) ?_; intro V2 hown hgrow; have b := ((Below.refl V1.heap.size V1).grown hgrow (Nat.le_refl _) (fun k e => by cases e)); have B2 := Lib.hid ((b.block _ gz1).trans B1.out); have R2 := Lib.hid (R1.out.below b); have Q2 := Lib.hid (Q1.out.trans (b.mono Q1.out.size)); have gz2 := Nat.lt_of_lt_of_le gz1 b.size; have O2 := Lib.hid (own_made hown (Nat.le_refl _)); clear hown hgrow b B1 R1 c0 c2)
  have B3 : Hid (V2.drew.heap[g]? = some (.cells #[.slice (some ⟨G, 0, none⟩) n n, .int .i64 (st : Nat), .int .i64 (ct : Nat), .int .u32 un] 62 (0, 0))) := Lib.hid (blk_drew B2.out)
  have R3 := Lib.hid (R2.out.below (Below.refl _ _).drew)
  have O3 := Lib.hid (O2.out.below (Below.refl _ _).drew)
  have Q3 := Lib.hid Q2.out.drew
  have c0 := blk_cell B3.out 0
  have gz3 : g < V2.drew.heap.size := gz2
  have hgn : V1.heap.size ≠ g := by omega
  have hGn : G ≠ V1.heap.size := by omega
  clear B2 R2 O2 Q2 gz2
  have hys : ∃ ys, (rs.drop p).take m = ys := ⟨_, rfl⟩
  obtain ⟨ys, hys⟩ := hys
  have hyl : ys.length = min m (n - p) := by rw [← hys, List.length_take, List.length_drop, hrl]
  obtain ⟨l, hl⟩ : ∃ z, min m (n - p) = z := ⟨_, rfl⟩
  rw [hl] at hyl
  have hrd : (rs.drop p).length = n - p := by rw [List.length_drop, hrl]
  have hfit : 0 + ys.length ≤ (List.replicate m 0).length := by rw [List.length_replicate]; omega
  have hs1 : ¬ ((n : Int) < (p : Int)) := by omega
  go_wp2_with fail
  go_region_held3 (fun W => W.cell? ⟨g, 0, none⟩ = some (.slice (some ⟨G, 0, none⟩) n n)) (first | go_keep) (first
    | (go_at_call 32; (with_reducible refine (place_ok g G n st ct un ah p _ B3.out (by omega) (by omega) (by omega) (by omega) (by omega) (by omega) HP.out).mono ?_); rintro e V3 ⟨rfl, b⟩; have B4 := Lib.hid ((b.block _ gz3).trans B3.out); have R4 := Lib.hid (R3.out.below b); have R4d : Hid (Bts V3 (if n = p then some ⟨G, 0, none⟩ else some ⟨G, p, none⟩) (rs.drop p)) := Lib.hid (by rw [if_neg (show ¬ n = p by omega)]; have h := R4.out.drop p; rw [Nat.zero_add] at h; exact h); have O4 := Lib.hid (O3.out.below b); have Q4 := Lib.hid (Q3.out.trans (b.mono Q3.out.size)); have u0 := blk_cell B4.out 0; clear b)
    | (refine step_copy_cut rfl _ _ rfl V1.heap.size V1.heap.size 0 m _ m rfl rfl hrd.symm hys O4.out R4d.out (fun _ => rfl) hfit ?_; intro V5 Z bg; have B5 := Lib.hid (grown_block bg B4.out (Ne.symm hgn)); have R5 := Lib.hid (R4.out.grown bg hGn); have O5 := Lib.hid Z; have Q5 := Lib.hid ((Q4.out.mono (Nat.le_refl _)).trans ((O4.out.belowOf bg).mono Q1.out.size)); have u1 := blk_cell B5.out 0; clear Z bg))
  have hsl : (splice (List.replicate m 0) 0 ys).length = m := by rw [length_splice _ _ _ hfit, List.length_replicate]
  have hy2 : ∃ y2, rs.take (m - l) = y2 := ⟨_, rfl⟩
  obtain ⟨y2, hy2⟩ := hy2
  have hyl2 : y2.length = m - l := by rw [← hy2, List.length_take, hrl]; omega
  have hfit2 : l + y2.length ≤ (splice (List.replicate m 0) 0 ys).length := by omega
  have O6 := Lib.hid (O5.out.below (Below.refl _ _).drew)
  have R6 := Lib.hid (R5.out.below (Below.refl _ _).drew)
  have Q6 := Lib.hid Q5.out.drew
  have c6 := blk_cell (blk_drew B5.out) 0
  have s2 : ¬ ((m : Int) < (l : Int)) := by omega
  have hcut : splice (splice (List.replicate m 0) 0 ys) l y2 = Sb.cut rs n p m := by unfold Sb.cut; rw [hys, hl, hy2]
  go_wp2_with fail
  go_region_held3 (fun W => W.cell? ⟨g, 0, none⟩ = some (.slice (some ⟨G, 0, none⟩) n n)) (first | go_keep) (first
    | (refine step_copy_cut rfl _ _ rfl V1.heap.size V1.heap.size l (m - l) _ m rfl rfl hrl.symm hy2 O6.out R6.out (fun h => by first | rfl | (rw [if_neg (by omega)]) | (simp; omega)) hfit2 ?_; intro V7 Z bg; have B7 := Lib.hid (grown_block bg (blk_drew B5.out) (Ne.symm hgn)); have O7 := Lib.hid Z; have Q7 := Lib.hid (Q6.out.trans ((O6.out.belowOf bg).mono Q1.out.size)); have u7 := blk_cell B7.out 0; clear Z bg))
  go_wp2_with fail
  all_goals
    go_ret2
    refine ⟨⟨_, rfl, ?_⟩, Q7.out⟩
    first
    | (rw [← hcut]; exact O7.out.mono Q1.out.size)
    | (obtain rfl : m = l := by first | assumption | omega
       rw [← hcut]; exact O7.out.mono Q1.out.size)

end Go.Proofs.Ytfdaenogefodhaa
