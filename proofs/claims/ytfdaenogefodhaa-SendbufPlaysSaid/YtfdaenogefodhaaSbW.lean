/- Sendbuf: Write. -/
import Derived.Test.YtfdaenogefodhaaSbN
import Derived.Test.YtfdaenogefodhaaGCopyC
import Derived.Test.YtfdaenogefodhaaGTurnsB
import Derived.Deep.RegionHeld3
namespace Go.Proofs.Ytfdaenogefodhaa
open Go.RowKit Go.Proofs.Ytfdaenogefodhaa.Sb

/-- The ring behind a Write of m octets of ds, from place p on. -/
def Sb.wr (rs ds : List Nat) (n m p : Nat) : List Nat := splice (splice rs p ((ds.take m).take (n - p))) 0 ((ds.take m).drop (min (n - p) m))
theorem Bts.drop {w : World} {b off : Nat} {xs : List Nat} (h : Bts w (some ⟨b, off, none⟩) xs) (k : Nat) : Bts w (some ⟨b, off + k, none⟩) (xs.drop k) := by
  refine ⟨fun x hx => h.1 x (List.mem_of_mem_drop hx), ?_⟩
  rcases h.2 with h0 | ⟨b', off', e, hb, hc⟩
  · left; rw [h0]; exact List.drop_nil
  · obtain ⟨rfl, rfl⟩ : b = b' ∧ off = off' := by injection e with e; injection e with e1 e2; exact ⟨e1, e2⟩
    refine .inr ⟨b, off + k, rfl, hb, fun i hi => ?_⟩
    rw [List.length_drop] at hi
    rw [Nat.add_assoc, hc (k + i) (by omega)]
    congr 3
    simp [List.getD_eq_getElem?_getD]

theorem OwnSl.far {B g G : Nat} {xs : List Nat} {cap : Nat} {w w' : World} (h : OwnSl B (some ⟨G, 0, none⟩) xs cap w) (hg : w.grownBy w' (some g)) (hne : g ≠ G) : OwnSl B (some ⟨G, 0, none⟩) xs cap w' := by
  obtain ⟨hx, h0 | ⟨b, e, hB, hr⟩⟩ := h
  · exact ⟨hx, .inl h0⟩
  · cases e
    exact ⟨hx, .inr ⟨_, rfl, hB, hr.kept hg (.inr (by simp [Value.ownBlock]; omega))⟩⟩
set_option maxRecDepth 100000 in
set_option maxHeartbeats 1000000 in
theorem write_okT (B g G n st ct m p : Nat) (un : Int) (rs ds : List Nat) (db doff dc : Nat) (w : World) (hB : w.heap[g]? = some (.cells #[.slice (some ⟨G, 0, none⟩) n n, .int .i64 (st : Nat), .int .i64 (ct : Nat), .int .u32 un] 62 (0, 0))) (O : OwnSl B (some ⟨G, 0, none⟩) rs n w) (hrl : rs.length = n) (X : Bts w (some ⟨db, doff, none⟩) ds) (hX : db ≠ G) (hBg : B ≤ g) (hgG : g ≠ G) (hn : 1 ≤ n) (hn1 : n ≤ 1048576) (hst : st < n) (hct : ct ≤ n) (_hdl : ds.length ≤ 9223372036854775807) (hdc : ds.length ≤ dc) (hm : min ds.length (n - ct) = m) (hm1 : 0 < m) (hp : (st + ct) % n = p) :
    Calls Try.prog 18 #[.pointer (some ⟨g, 0, none⟩), .slice (some ⟨db, doff, none⟩) ds.length dc] w fun e w' => e = .returned (.tuple #[.int .i64 (m : Nat), .int .i64 0]) ∧ w'.heap[g]? = some (.cells #[.slice (some ⟨G, 0, none⟩) n n, .int .i64 (st : Nat), .int .i64 ((ct + m : Nat) : Int), .int .u32 un] 62 (0, 0)) ∧ OwnSl B (some ⟨G, 0, none⟩) (Sb.wr rs ds n m p) n w' ∧ Below B w w' ∧ Turns (fun k => k = g ∨ k = G) w w' := by
  have hB0 := Lib.hid hB
  have c0 := blk_cell hB 0
  have c1 := blk_cell hB 1
  have c2 := blk_cell hB 2
  have c3 := blk_cell hB 3
  have HO := Lib.hid O
  have HX := Lib.hid X
  have gz := blk_lt hB
  have hgz := gz
  have hmi : min (ds.length : Int) ((n : Int) - (ct : Int)) = (m : Int) := by omega
  have hpi : ((st : Int) + (ct : Int)) % (n : Int) = (p : Int) := by rw [← Int.natCast_add, ← Int.natCast_emod, hp]
  have HP := Lib.hid hpi
  have hpn : p < n := by rw [← hp]; exact Nat.mod_lt _ (by omega)
  have hl0 : ((ds.length : Int) == 0) = false := by rw [beq_eq_false_iff_ne]; omega
  have hm0 : ((m : Int) == 0) = false := by rw [beq_eq_false_iff_ne]; omega
  have Q0 := Lib.hid (Below.refl w.heap.size w)
  clear hB O X hp hpi
  go_enter Try.func18, Try.ntmps18
  go_wp2_with fail
  refine (made_yes g G n st ct un _ hB0.out).mono ?_
  rintro e w' ⟨rfl, rfl⟩
  go_wp2_with fail
  refine (room_ok g G n st ct un _ hB0.out (by omega) (by omega) (by omega)).mono ?_
  rintro e V1 ⟨rfl, b⟩
  have B1 := Lib.hid ((b.block _ gz).trans hB0.out)
  have O1 := Lib.hid (HO.out.below b)
  have X1 := Lib.hid (HX.out.below b)
  have Q1 := Lib.hid b
  have gz1 := Nat.lt_of_lt_of_le gz b.size
  clear b hB0 c0 c1 c2 c3 gz HO HX Q0
  have c0 := blk_cell B1.out 0
  have c1 := blk_cell B1.out 1
  have c2 := blk_cell B1.out 2
  have c3 := blk_cell B1.out 3
  go_wp2_with fail
  refine (place_ok g G n st ct un ct p _ B1.out (by omega) (by omega) (by omega) (by omega) (by omega) (by omega) HP.out).mono ?_
  rintro e V2 ⟨rfl, b⟩
  have B2 := Lib.hid ((b.block _ gz1).trans B1.out)
  have O2 := Lib.hid (O1.out.below b)
  have X2 := Lib.hid (X1.out.below b)
  have Q2 := Lib.hid (Q1.out.trans (b.mono Q1.out.size))
  have gz2 := Nat.lt_of_lt_of_le gz1 b.size
  clear b B1 c0 c1 c2 c3 gz1 O1 X1 Q1
  have c0 := blk_cell B2.out 0
  have f0 := blk_free B2.out 0
  have hml : (ds.take m).length = m := by rw [List.length_take]; omega
  obtain ⟨zs, hzs⟩ : ∃ z, ds.take m = z := ⟨_, rfl⟩
  rw [hzs] at hml
  obtain ⟨ys, hys⟩ : ∃ z, zs.take (n - p) = z := ⟨_, rfl⟩
  have hyl : ys.length = min (n - p) m := by rw [← hys, List.length_take, hml]
  obtain ⟨q, hq⟩ : ∃ z, min (n - p) m = z := ⟨_, rfl⟩
  rw [hq] at hyl
  have hqm : q ≤ m := by omega
  have X3 := Lib.hid ((X2.out.below (Below.refl _ _).drew).take m)
  rw [hzs] at X3
  have O3 := Lib.hid (O2.out.below (Below.refl _ _).drew)
  have B3 : Hid (V2.drew.heap[g]? = some (.cells #[.slice (some ⟨G, 0, none⟩) n n, .int .i64 (st : Nat), .int .i64 (ct : Nat), .int .u32 un] 62 (0, 0))) := Lib.hid (blk_drew B2.out)
  have hfit : p + ys.length ≤ rs.length := by omega
  have hs1 : ¬ ((n : Int) < (p : Int)) := by omega
  have hs2 : ¬ ((dc : Int) < (m : Int)) := by omega
  go_wp2_with fail
  go_region_held3 (fun W => W.cell? ⟨g, 0, none⟩ = some (.slice (some ⟨G, 0, none⟩) n n)) (first | go_keep) (first
    | (refine step_copy_cut rfl _ _ rfl B G p (n - p) _ n rfl rfl hml.symm hys O3.out X3.out (fun _ => by first | rfl | (simp; done) | (simp; omega)) hfit ?_; intro V4 Z bg; have B4 := Lib.hid (grown_block bg B3.out hgG); have O4 := Lib.hid Z; have G4 := Lib.hid bg; have u0 := blk_cell B4.out 0; clear Z bg))
  have Q4 := Lib.hid ((Q2.out.mono (Nat.le_trans hBg (Nat.le_of_lt hgz))).drew.trans (O3.out.belowOf G4.out))
  have X4 := Lib.hid ((X3.out.grown G4.out hX).below (Below.refl _ _).drew)
  have XD : Hid (Bts V4.drew (if dc = q then some ⟨db, doff, none⟩ else some ⟨db, doff + q, none⟩) (zs.drop q)) := Lib.hid (by
    split
    · rw [List.drop_eq_nil_of_le (by omega)]; exact ⟨fun x hx => absurd hx List.not_mem_nil, .inl rfl⟩
    · exact X4.out.drop q)
  have hdl2 : (zs.drop q).length = m - q := by rw [List.length_drop, hml]
  have hy2 : (zs.drop q).take n = zs.drop q := List.take_of_length_le (by omega)
  have O5 := Lib.hid (O4.out.below (Below.refl _ _).drew)
  have B5 : Hid (V4.drew.heap[g]? = some (.cells #[.slice (some ⟨G, 0, none⟩) n n, .int .i64 (st : Nat), .int .i64 (ct : Nat), .int .u32 un] 62 (0, 0))) := Lib.hid (blk_drew B4.out)
  have hsl5 : (splice rs p ys).length = n := by rw [length_splice _ _ _ hfit]; exact hrl
  have hfit2 : 0 + (zs.drop q).length ≤ (splice rs p ys).length := by omega
  have s3 : ¬ ((m : Int) < (q : Int)) := by omega
  clear O3 X3 B3 X2 O2 B2
  go_wp2_with fail
  go_region_held3 (fun W => W.cell? ⟨g, 0, none⟩ = some (.slice (some ⟨G, 0, none⟩) n n)) (first | go_keep) (first
    | (refine step_copy_cut rfl _ _ rfl B G 0 n _ n rfl rfl hdl2.symm hy2 O5.out XD.out (fun _ => rfl) hfit2 ?_; intro V6 Z bg; have B6 := Lib.hid (grown_block bg B5.out hgG); have O6 := Lib.hid Z; have Q6 := Lib.hid (Q4.out.drew.trans (O5.out.belowOf bg)); have G6 := Lib.hid bg; have u1 := blk_cell B6.out 0; clear Z bg))
  have v2 := blk_cell B6.out 2
  have f2 := blk_free B6.out 2
  have W3 : IntKind.i64.wrap ((ct : Int) + (m : Int)) = ((ct + m : Nat) : Int) := by rw [IntWalk.i64_in _ ⟨by omega, by omega⟩]; omega
  have he : splice (splice rs p ys) 0 (zs.drop q) = Sb.wr rs ds n m p := by unfold Sb.wr; rw [hzs, hys, hq]
  go_wp2_with fail
  all_goals
    go_ret2
    refine ⟨rfl, ?_, ?_, ?_, ((((((Turns.of_below _ Q2.out).drew).grown (.inr rfl) G4.out).drew).grown (.inr rfl) G6.out).set (.inl rfl) 2 _)⟩
    · exact (blk_set B6.out 2 _).trans (by first | rfl | (simp; done) | (simp; omega))
    · rw [← he]; exact O6.out.far (gr_set _ g 2 _) hgG
    · exact Q6.out.setCell (p := ⟨g, 2, none⟩) hBg _

theorem write_ok (B g G n st ct m p : Nat) (un : Int) (rs ds : List Nat) (db doff dc : Nat) (w : World) (hB : w.heap[g]? = some (.cells #[.slice (some ⟨G, 0, none⟩) n n, .int .i64 (st : Nat), .int .i64 (ct : Nat), .int .u32 un] 62 (0, 0))) (O : OwnSl B (some ⟨G, 0, none⟩) rs n w) (hrl : rs.length = n) (X : Bts w (some ⟨db, doff, none⟩) ds) (hX : db ≠ G) (hBg : B ≤ g) (hgG : g ≠ G) (hn : 1 ≤ n) (hn1 : n ≤ 1048576) (hst : st < n) (hct : ct ≤ n) (_hdl : ds.length ≤ 140737488355328) (hdc : ds.length ≤ dc) (hm : min ds.length (n - ct) = m) (hm1 : 0 < m) (hp : (st + ct) % n = p) :
    Calls Try.prog 18 #[.pointer (some ⟨g, 0, none⟩), .slice (some ⟨db, doff, none⟩) ds.length dc] w fun e w' => e = .returned (.tuple #[.int .i64 (m : Nat), .int .i64 0]) ∧ w'.heap[g]? = some (.cells #[.slice (some ⟨G, 0, none⟩) n n, .int .i64 (st : Nat), .int .i64 ((ct + m : Nat) : Int), .int .u32 un] 62 (0, 0)) ∧ OwnSl B (some ⟨G, 0, none⟩) (Sb.wr rs ds n m p) n w' ∧ Below B w w' :=
  (write_okT B g G n st ct m p un rs ds db doff dc w hB O hrl X hX hBg hgG hn hn1 hst hct (by omega) hdc hm hm1 hp).mono fun _ _ ⟨h1, h2, h3, h4, _⟩ => ⟨h1, h2, h3, h4⟩
end Go.Proofs.Ytfdaenogefodhaa
