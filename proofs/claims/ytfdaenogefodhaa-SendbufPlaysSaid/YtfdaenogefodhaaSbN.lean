/- Sendbuf: the order of numbers; what a buffer is asked; Ack. -/
import Derived.Test.YtfdaenogefodhaaGBase
import Derived.Lib.MinMax
import Derived.ProofKit
import Derived.StillTailTactics
namespace Go.Proofs.Ytfdaenogefodhaa.Sb
/-- The distance from b to a, modulo 2^32. -/
def df (a b : Int) : Int := (a - b) % 4294967296
theorem df_bd (a b : Int) : 0 ≤ df a b ∧ df a b < 4294967296 := by unfold df; omega
def UV (a : Int) : Prop := 0 ≤ a ∧ a < 4294967296
theorem df_wrap (a b : Int) : IntKind.u32.wrap (a - b) = df a b := by rw [IntKind.wrap_u32]; rfl
theorem df_same (a : Int) : df a a = 0 := by unfold df; omega
theorem df_shift {a b c : Int} : df (IntKind.u32.wrap (a + c)) (IntKind.u32.wrap (b + c)) = df a b := by
  rw [IntKind.wrap_u32, IntKind.wrap_u32]; unfold df; omega
theorem df_next (a : Int) : df a (IntKind.u32.wrap (a + 1)) = 4294967295 := by
  rw [IntKind.wrap_u32]; unfold df; omega
end Go.Proofs.Ytfdaenogefodhaa.Sb
namespace Go.Proofs.Ytfdaenogefodhaa
open Go.RowKit Go.Proofs.Ytfdaenogefodhaa.Sb

set_option maxHeartbeats 400000 in
theorem less_ok (a b d : Int) (w : World) (hd : df a b = d) :
    Calls Try.prog 7 #[.int .u32 a, .int .u32 b] w fun e w' => e = .returned (.bool (decide (2147483648 ≤ d))) ∧ w = w' := by
  have W := df_wrap a b
  rw [hd] at W
  go_enter Try.func7, Try.ntmps7
  go_wp2
  go_ret
  exact ⟨rfl, rfl⟩

set_option maxHeartbeats 400000 in
theorem within_ok (q l r d y : Int) (w : World) (hd : df q l = d) (hy : df r l = y) :
    Calls Try.prog 9 #[.int .u32 q, .int .u32 l, .int .u32 r] w fun e w' => e = .returned (.bool (decide (d < y))) ∧ w = w' := by
  have W := df_wrap q l
  rw [hd] at W
  have W2 := df_wrap r l
  rw [hy] at W2
  go_enter Try.func9, Try.ntmps9
  go_wp2
  go_ret
  exact ⟨rfl, rfl⟩

set_option maxHeartbeats 400000 in
theorem max_lt (a b d : Int) (w : World) (hd : df a b = d) (h : 2147483648 ≤ d) :
    Calls Try.prog 11 #[.int .u32 a, .int .u32 b] w fun e w' => e = .returned (.int .u32 b) ∧ w = w' := by
  go_enter Try.func11, Try.ntmps11
  go_wp2_with fail
  refine (less_ok a b d _ hd).mono ?_
  rintro e w' ⟨rfl, rfl⟩
  go_wp2
  go_ret
  exact ⟨rfl, rfl⟩

set_option maxHeartbeats 400000 in
theorem max_ge (a b d : Int) (w : World) (hd : df a b = d) (h : ¬ 2147483648 ≤ d) :
    Calls Try.prog 11 #[.int .u32 a, .int .u32 b] w fun e w' => e = .returned (.int .u32 a) ∧ w = w' := by
  go_enter Try.func11, Try.ntmps11
  go_wp2_with fail
  refine (less_ok a b d _ hd).mono ?_
  rintro e w' ⟨rfl, rfl⟩
  go_wp2
  go_ret
  exact ⟨rfl, rfl⟩

set_option maxHeartbeats 400000 in
theorem rless_ok (a b d : Int) (w : World) (hd : df a b = d) :
    Calls Try.prog 8 #[.int .u32 a, .int .u32 b] w fun e w' => e = .returned (.bool (decide (2147483648 ≤ d))) ∧ w = w' := by
  have W := df_wrap a b
  rw [hd] at W
  go_enter Try.func8, Try.ntmps8
  go_wp2
  go_ret
  exact ⟨rfl, rfl⟩

set_option maxHeartbeats 400000 in
theorem rwithin_ok (q l r d y : Int) (w : World) (hd : df q l = d) (hy : df r l = y) :
    Calls Try.prog 10 #[.int .u32 q, .int .u32 l, .int .u32 r] w fun e w' => e = .returned (.bool (decide (d < y))) ∧ w = w' := by
  have W := df_wrap q l
  rw [hd] at W
  have W2 := df_wrap r l
  rw [hy] at W2
  go_enter Try.func10, Try.ntmps10
  go_wp2
  go_ret
  exact ⟨rfl, rfl⟩

set_option maxHeartbeats 400000 in
theorem rmax_lt (a b d : Int) (w : World) (hd : df a b = d) (h : 2147483648 ≤ d) :
    Calls Try.prog 12 #[.int .u32 a, .int .u32 b] w fun e w' => e = .returned (.int .u32 b) ∧ w = w' := by
  go_enter Try.func12, Try.ntmps12
  go_wp2_with fail
  refine (rless_ok a b d _ hd).mono ?_
  rintro e w' ⟨rfl, rfl⟩
  go_wp2
  go_ret
  exact ⟨rfl, rfl⟩

set_option maxHeartbeats 400000 in
theorem rmax_ge (a b d : Int) (w : World) (hd : df a b = d) (h : ¬ 2147483648 ≤ d) :
    Calls Try.prog 12 #[.int .u32 a, .int .u32 b] w fun e w' => e = .returned (.int .u32 a) ∧ w = w' := by
  go_enter Try.func12, Try.ntmps12
  go_wp2_with fail
  refine (rless_ok a b d _ hd).mono ?_
  rintro e w' ⟨rfl, rfl⟩
  go_wp2
  go_ret
  exact ⟨rfl, rfl⟩

set_option maxRecDepth 100000 in
set_option maxHeartbeats 1000000 in
theorem made_yes (g G n : Nat) (st ct un : Int) (w : World) (hB : w.heap[g]? = some (.cells #[.slice (some ⟨G, 0, none⟩) n n, .int .i64 st, .int .i64 ct, .int .u32 un] 62 (0, 0)))  :
    Calls Try.prog 31 #[.pointer (some ⟨g, 0, none⟩)] w fun e w' => e = .returned (.bool true) ∧ w = w' := by
  have c0 := blk_cell hB 0
  have c1 := blk_cell hB 1
  have c2 := blk_cell hB 2
  have c3 := blk_cell hB 3
  go_enter Try.func31, Try.ntmps31
  go_wp2
  go_ret
  exact ⟨rfl, rfl⟩

set_option maxRecDepth 100000 in
set_option maxHeartbeats 1000000 in
theorem una_ok (g G n : Nat) (st ct un : Int) (w : World) (hB : w.heap[g]? = some (.cells #[.slice (some ⟨G, 0, none⟩) n n, .int .i64 st, .int .i64 ct, .int .u32 un] 62 (0, 0)))  :
    Calls Try.prog 26 #[.pointer (some ⟨g, 0, none⟩)] w fun e w' => e = .returned (.int .u32 un) ∧ w = w' := by
  have HB := Lib.hid hB
  have c0 := blk_cell hB 0
  have c1 := blk_cell hB 1
  have c2 := blk_cell hB 2
  have c3 := blk_cell hB 3
  clear hB
  go_enter Try.func26, Try.ntmps26
  go_wp2_with fail
  refine (made_yes g G n st ct un _ HB.out).mono ?_
  rintro e w' ⟨rfl, rfl⟩
  go_wp2
  go_ret
  exact ⟨rfl, rfl⟩

set_option maxRecDepth 100000 in
set_option maxHeartbeats 1000000 in
theorem room_ok (g G n : Nat) (st ct un : Int) (w : World) (hB : w.heap[g]? = some (.cells #[.slice (some ⟨G, 0, none⟩) n n, .int .i64 st, .int .i64 ct, .int .u32 un] 62 (0, 0))) (hn : n ≤ 1048576) (h0 : 0 ≤ ct) (h1 : ct ≤ n) :
    Calls Try.prog 29 #[.pointer (some ⟨g, 0, none⟩)] w fun e w' => e = .returned (.int .i64 ((n : Int) - ct)) ∧ Below w.heap.size w w' := by
  have HB := Lib.hid hB
  have c0 := blk_cell hB 0
  have c1 := blk_cell hB 1
  have c2 := blk_cell hB 2
  have c3 := blk_cell hB 3
  clear hB
  have W : IntKind.i64.wrap ((n : Int) - ct) = (n : Int) - ct := IntWalk.i64_in _ ⟨by omega, by omega⟩
  go_enter Try.func29, Try.ntmps29
  go_wp2_with fail
  refine (made_yes g G n st ct un _ HB.out).mono ?_
  rintro e w' ⟨rfl, rfl⟩
  go_wp2_with fail
  try go_quiet (fail)
  go_wp2
  go_ret
  refine ⟨rfl, ?_⟩
  (repeat' (first | (with_reducible exact Below.refl _ _) | (with_reducible refine Below.alloc ?_ ?_ _) | (with_reducible refine Below.setCell ?_ ?_ _) | (with_reducible refine Below.drew ?_) | (with_reducible refine below_drewN ?_ _) | omega | (dsimp only; omega) | (simp; done) | (simp; omega)))

set_option maxRecDepth 100000 in
set_option maxHeartbeats 1000000 in
theorem end_ok (g G n : Nat) (st ct un y : Int) (w : World) (hB : w.heap[g]? = some (.cells #[.slice (some ⟨G, 0, none⟩) n n, .int .i64 st, .int .i64 ct, .int .u32 un] 62 (0, 0))) (hy : (un + ct % 4294967296) % 4294967296 = y) :
    Calls Try.prog 27 #[.pointer (some ⟨g, 0, none⟩)] w fun e w' => e = .returned (.int .u32 y) ∧ Below w.heap.size w w' := by
  have HB := Lib.hid hB
  have c0 := blk_cell hB 0
  have c1 := blk_cell hB 1
  have c2 := blk_cell hB 2
  have c3 := blk_cell hB 3
  clear hB
  go_enter Try.func27, Try.ntmps27
  go_wp2_with fail
  refine (made_yes g G n st ct un _ HB.out).mono ?_
  rintro e w' ⟨rfl, rfl⟩
  go_wp2_with fail
  go_quiet (fail)
  go_wp2
  go_ret
  refine ⟨by rw [hy]; rfl, ?_⟩
  (repeat' (first | (with_reducible exact Below.refl _ _) | (with_reducible refine Below.alloc ?_ ?_ _) | (with_reducible refine Below.setCell ?_ ?_ _) | (with_reducible refine Below.drew ?_) | (with_reducible refine below_drewN ?_ _) | omega | (dsimp only; omega) | (simp; done) | (simp; omega)))

set_option maxRecDepth 100000 in
set_option maxHeartbeats 1000000 in
theorem find_ok (g G n : Nat) (st ct un q d : Int) (w : World) (hB : w.heap[g]? = some (.cells #[.slice (some ⟨G, 0, none⟩) n n, .int .i64 st, .int .i64 ct, .int .u32 un] 62 (0, 0))) (hd : df q un = d) :
    Calls Try.prog 33 #[.pointer (some ⟨g, 0, none⟩), .int .u32 q] w fun e w' => e = .returned (.tuple #[.int .i64 d, .bool (decide (d ≤ ct))]) ∧ Below w.heap.size w w' := by
  have c0 := blk_cell hB 0
  have c1 := blk_cell hB 1
  have c2 := blk_cell hB 2
  have c3 := blk_cell hB 3
  have W := df_wrap q un
  rw [hd] at W
  have hb := df_bd q un
  rw [hd] at hb
  obtain ⟨b0, b1⟩ := hb
  clear hB
  go_enter Try.func33, Try.ntmps33
  go_wp2_with fail
  go_quiet (fail)
  go_wp2
  go_ret2
  refine ⟨rfl, ?_⟩
  (repeat' (first | (with_reducible exact Below.refl _ _) | (with_reducible refine Below.alloc ?_ ?_ _) | (with_reducible refine Below.setCell ?_ ?_ _) | (with_reducible refine Below.drew ?_) | (with_reducible refine below_drewN ?_ _) | omega | (dsimp only; omega) | (simp; done) | (simp; omega)))

set_option maxRecDepth 100000 in
set_option maxHeartbeats 1000000 in
theorem place_ok (g G n : Nat) (st ct un k p : Int) (w : World) (hB : w.heap[g]? = some (.cells #[.slice (some ⟨G, 0, none⟩) n n, .int .i64 st, .int .i64 ct, .int .u32 un] 62 (0, 0))) (hn : 1 ≤ n) (hn1 : n ≤ 1048576) (h0 : 0 ≤ st) (h1 : st ≤ 1048576) (k0 : 0 ≤ k) (k1 : k ≤ 1048576) (hp : (st + k) % (n : Int) = p) :
    Calls Try.prog 32 #[.pointer (some ⟨g, 0, none⟩), .int .i64 k] w fun e w' => e = .returned (.int .i64 p) ∧ Below w.heap.size w w' := by
  have c0 := blk_cell hB 0
  have c1 := blk_cell hB 1
  have c2 := blk_cell hB 2
  have c3 := blk_cell hB 3
  have W : IntKind.i64.wrap (st + k) = st + k := IntWalk.i64_in _ ⟨by omega, by omega⟩
  have W2 : IntKind.i64.wrap ((st + k).tmod n) = p := by rw [Int.tmod_eq_emod_of_nonneg (by omega), hp]; exact IntWalk.i64_in _ ⟨by have := Int.emod_nonneg (st + k) (show (n : Int) ≠ 0 by omega); omega, by have := Int.emod_lt_of_pos (st + k) (show (0 : Int) < n by omega); omega⟩
  have fz : ¬ (n : Int) = 0 := by omega
  have fzb : ((n : Int) == 0) = false := by rw [beq_eq_false_iff_ne]; omega
  have e1 : (st + k) % (n : Int) = p := hp
  clear hB hp
  go_enter Try.func32, Try.ntmps32
  go_wp2_with fail
  go_quiet (fail)
  go_wp2
  go_ret
  refine ⟨by rw [e1]; rfl, ?_⟩
  (repeat' (first | (with_reducible exact Below.refl _ _) | (with_reducible refine Below.alloc ?_ ?_ _) | (with_reducible refine Below.setCell ?_ ?_ _) | (with_reducible refine Below.drew ?_) | (with_reducible refine below_drewN ?_ _) | omega | (dsimp only; omega) | (simp; done) | (simp; omega)))

set_option maxRecDepth 100000 in
set_option maxHeartbeats 1000000 in
theorem ack_ok (g G n : Nat) (st ct un q d p : Int) (w : World) (hS : w.heap[g]? = some (.cells #[.slice (some ⟨G, 0, none⟩) n n, .int .i64 st, .int .i64 ct, .int .u32 un] 62 (0, 0))) (hn : 1 ≤ n) (hn1 : n ≤ 1048576) (s0 : 0 ≤ st) (s1 : st ≤ 1048576) (t0 : 0 ≤ ct) (t1 : ct ≤ 1048576) (hd : df q un = d) (hle : d ≤ ct) (hp : (st + d) % (n : Int) = p) :
    Calls Try.prog 24 #[.pointer (some ⟨g, 0, none⟩), .int .u32 q] w fun e w' => e = .returned (.tuple #[.int .i64 d, .int .i64 0]) ∧ w'.heap[g]? = some (.cells #[.slice (some ⟨G, 0, none⟩) n n, .int .i64 p, .int .i64 (ct - d), .int .u32 q] 62 (0, 0)) ∧ w.grownBy w' (some g) := by
  have HD := Lib.hid hd
  have HP := Lib.hid hp
  have hb := df_bd q un
  rw [hd] at hb
  obtain ⟨b0, b1⟩ := hb
  clear hp
  go_enter Try.func24, Try.ntmps24
  have S_0 := Lib.hid hS
  clear hS
  have G_0 := Lib.hid (World.grownBy.refl w (some g))
  have Sc0 := blk_cell S_0.out 0
  have Sf0 := blk_free S_0.out 0
  have Sc1 := blk_cell S_0.out 1
  have Sf1 := blk_free S_0.out 1
  have Sc2 := blk_cell S_0.out 2
  have Sf2 := blk_free S_0.out 2
  have Sc3 := blk_cell S_0.out 3
  have Sf3 := blk_free S_0.out 3
  go_wp2_with fail
  refine (made_yes g G n st ct un _ S_0.out).mono ?_
  rintro e w' ⟨rfl, rfl⟩
  go_wp2_with fail
  refine (find_ok g G n st ct un q d _ S_0.out HD.out).mono ?_
  rintro e Y1 ⟨rfl, b⟩
  clear Sc0 Sf0 Sc1 Sf1 Sc2 Sf2 Sc3 Sf3
  have S_1 := Lib.hid ((b.block _ (blk_lt S_0.out)).trans S_0.out)
  have G_1 := Lib.hid (gr_trans G_0.out (gr_below b (some g)))
  clear b G_0 S_0
  have Sc0 := blk_cell S_1.out 0
  have Sf0 := blk_free S_1.out 0
  have Sc1 := blk_cell S_1.out 1
  have Sf1 := blk_free S_1.out 1
  have Sc2 := blk_cell S_1.out 2
  have Sf2 := blk_free S_1.out 2
  have Sc3 := blk_cell S_1.out 3
  have Sf3 := blk_free S_1.out 3
  go_wp2_with fail
  refine (place_ok g G n st ct un d p _ S_1.out hn hn1 s0 s1 b0 (by omega) HP.out).mono ?_
  rintro e Y2 ⟨rfl, b⟩
  clear Sc0 Sf0 Sc1 Sf1 Sc2 Sf2 Sc3 Sf3
  have S_2 := Lib.hid ((b.block _ (blk_lt S_1.out)).trans S_1.out)
  have G_2 := Lib.hid (gr_trans G_1.out (gr_below b (some g)))
  clear b G_1 S_1
  have Sc0 := blk_cell S_2.out 0
  have Sf0 := blk_free S_2.out 0
  have Sc1 := blk_cell S_2.out 1
  have Sf1 := blk_free S_2.out 1
  have Sc2 := blk_cell S_2.out 2
  have Sf2 := blk_free S_2.out 2
  have Sc3 := blk_cell S_2.out 3
  have Sf3 := blk_free S_2.out 3
  have W3 : IntKind.i64.wrap (ct - d) = ct - d := IntWalk.i64_in _ ⟨by omega, by omega⟩
  go_wp2_with fail
  clear Sc0 Sf0 Sc1 Sf1 Sc2 Sf2 Sc3 Sf3
  have S_3 : Hid ((Y2.setCell ⟨g, 1, none⟩ (.int .i64 p)).heap[g]? = some (.cells #[.slice (some ⟨G, 0, none⟩) n n, .int .i64 p, .int .i64 ct, .int .u32 un] 62 (0, 0))) := Lib.hid (blk_set S_2.out 1 (.int .i64 p))
  clear S_2
  have G_3 := Lib.hid (gr_trans G_2.out (gr_set Y2 g 1 (.int .i64 p)))
  clear G_2
  generalize Y2.setCell ⟨g, 1, none⟩ (.int .i64 p) = X3 at S_3 G_3 ⊢
  have Sc0 := blk_cell S_3.out 0
  have Sf0 := blk_free S_3.out 0
  have Sc1 := blk_cell S_3.out 1
  have Sf1 := blk_free S_3.out 1
  have Sc2 := blk_cell S_3.out 2
  have Sf2 := blk_free S_3.out 2
  have Sc3 := blk_cell S_3.out 3
  have Sf3 := blk_free S_3.out 3
  clear Sc0 Sf0 Sc1 Sf1 Sc2 Sf2 Sc3 Sf3
  have S_4 : Hid ((X3.setCell ⟨g, 2, none⟩ (.int .i64 (ct - d))).heap[g]? = some (.cells #[.slice (some ⟨G, 0, none⟩) n n, .int .i64 p, .int .i64 (ct - d), .int .u32 un] 62 (0, 0))) := Lib.hid (blk_set S_3.out 2 (.int .i64 (ct - d)))
  clear S_3
  have G_4 := Lib.hid (gr_trans G_3.out (gr_set X3 g 2 (.int .i64 (ct - d))))
  clear G_3
  generalize X3.setCell ⟨g, 2, none⟩ (.int .i64 (ct - d)) = X4 at S_4 G_4 ⊢
  have Sc0 := blk_cell S_4.out 0
  have Sf0 := blk_free S_4.out 0
  have Sc1 := blk_cell S_4.out 1
  have Sf1 := blk_free S_4.out 1
  have Sc2 := blk_cell S_4.out 2
  have Sf2 := blk_free S_4.out 2
  have Sc3 := blk_cell S_4.out 3
  have Sf3 := blk_free S_4.out 3
  clear Sc0 Sf0 Sc1 Sf1 Sc2 Sf2 Sc3 Sf3
  have S_5 : Hid ((X4.setCell ⟨g, 3, none⟩ (.int .u32 q)).heap[g]? = some (.cells #[.slice (some ⟨G, 0, none⟩) n n, .int .i64 p, .int .i64 (ct - d), .int .u32 q] 62 (0, 0))) := Lib.hid (blk_set S_4.out 3 (.int .u32 q))
  clear S_4
  have G_5 := Lib.hid (gr_trans G_4.out (gr_set X4 g 3 (.int .u32 q)))
  clear G_4
  generalize X4.setCell ⟨g, 3, none⟩ (.int .u32 q) = X5 at S_5 G_5 ⊢
  have Sc0 := blk_cell S_5.out 0
  have Sf0 := blk_free S_5.out 0
  have Sc1 := blk_cell S_5.out 1
  have Sf1 := blk_free S_5.out 1
  have Sc2 := blk_cell S_5.out 2
  have Sf2 := blk_free S_5.out 2
  have Sc3 := blk_cell S_5.out 3
  have Sf3 := blk_free S_5.out 3
  go_wp2
  go_ret2
  exact ⟨rfl, S_5.out, G_5.out⟩

set_option maxRecDepth 100000 in
set_option maxHeartbeats 1000000 in
theorem ack_seq (g G n : Nat) (st ct un q d : Int) (w : World) (hS : w.heap[g]? = some (.cells #[.slice (some ⟨G, 0, none⟩) n n, .int .i64 st, .int .i64 ct, .int .u32 un] 62 (0, 0))) (hd : df q un = d) (hle : ¬ d ≤ ct) :
    Calls Try.prog 24 #[.pointer (some ⟨g, 0, none⟩), .int .u32 q] w fun e w' => e = .returned (.tuple #[.int .i64 0, .int .i64 151]) ∧ w'.heap[g]? = some (.cells #[.slice (some ⟨G, 0, none⟩) n n, .int .i64 st, .int .i64 ct, .int .u32 un] 62 (0, 0)) ∧ w.grownBy w' (some g) := by
  have HD := Lib.hid hd
  have hdec : decide (d ≤ ct) = false := decide_eq_false hle
  go_enter Try.func24, Try.ntmps24
  have S_0 := Lib.hid hS
  clear hS
  have G_0 := Lib.hid (World.grownBy.refl w (some g))
  have Sc0 := blk_cell S_0.out 0
  have Sf0 := blk_free S_0.out 0
  have Sc1 := blk_cell S_0.out 1
  have Sf1 := blk_free S_0.out 1
  have Sc2 := blk_cell S_0.out 2
  have Sf2 := blk_free S_0.out 2
  have Sc3 := blk_cell S_0.out 3
  have Sf3 := blk_free S_0.out 3
  go_wp2_with fail
  refine (made_yes g G n st ct un _ S_0.out).mono ?_
  rintro e w' ⟨rfl, rfl⟩
  go_wp2_with fail
  refine (find_ok g G n st ct un q d _ S_0.out HD.out).mono ?_
  rintro e Y1 ⟨rfl, b⟩
  clear Sc0 Sf0 Sc1 Sf1 Sc2 Sf2 Sc3 Sf3
  have S_1 := Lib.hid ((b.block _ (blk_lt S_0.out)).trans S_0.out)
  have G_1 := Lib.hid (gr_trans G_0.out (gr_below b (some g)))
  clear b G_0 S_0
  have Sc0 := blk_cell S_1.out 0
  have Sf0 := blk_free S_1.out 0
  have Sc1 := blk_cell S_1.out 1
  have Sf1 := blk_free S_1.out 1
  have Sc2 := blk_cell S_1.out 2
  have Sf2 := blk_free S_1.out 2
  have Sc3 := blk_cell S_1.out 3
  have Sf3 := blk_free S_1.out 3
  go_wp2
  go_ret2
  exact ⟨rfl, S_1.out, G_1.out⟩

end Go.Proofs.Ytfdaenogefodhaa
