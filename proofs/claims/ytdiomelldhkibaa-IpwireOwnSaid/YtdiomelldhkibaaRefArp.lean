/- What the document's own answers on ARP give. -/
import Derived.Test.YtdiomelldhkibaaGOcts
import Derived.Test.YtdiomelldhkibaaGNum
import Derived.Test.YtdiomelldhkibaaGAppend
namespace Go.Proofs.Ytdiomelldhkibaa
open Go.RowKit

theorem lt_alloc {n : Nat} {W : World} (h : n < W.heap.size) (o : Obj) : n + 1 ≤ (W.alloc o).heap.size := by rw [World.size_alloc]; omega

/-- An ARP's first seven octets. -/
def arpHead : List Nat := [0, 1, 8, 0, 6, 4, 0]

/-- An ARP's octets. -/
def arpO (op m1 i1 m2 i2 : Nat) : List Nat := arpHead ++ [op] ++ Mt.octs m1 6 ++ Mt.octs i1 4 ++ Mt.octs m2 6 ++ Mt.octs i2 4

set_option maxHeartbeats 400000 in
theorem head_any (w : World) : Calls Try.prog 56 #[] w fun e w' => e = .returned (.slice (some ⟨w.heap.size, 0, none⟩) 7 7) ∧ OwnSl w.heap.size (some ⟨w.heap.size, 0, none⟩) arpHead 7 w' ∧ Below w.heap.size w w' := by
  have ho := Lib.hid (own_new w arpHead (by decide) (by unfold maxLen; simp [arpHead]))
  go_enter Try.func56, Try.ntmps56
  go_wp2
  go_ret
  exact ⟨rfl, ho.out, (Below.refl _ _).alloc (Nat.le_refl _) _⟩

set_option maxHeartbeats 2000000 in
theorem refarpB_ok1 (op m1 i1 m2 i2 : Nat) (w : World) (n1 : op ≤ 2) (o1 : ((op : Int) != 1) = false) (h1 : m1 ≤ 281474976710655) (h2 : m2 ≤ 281474976710655) (hi1 : i1 < 4294967296) (hi2 : i2 < 4294967296) :
    Calls Try.prog 20 #[.agg #[.int .i64 op, .int .u64 m1, .int .u32 i1, .int .u64 m2, .int .u32 i2]] w fun e w' => ∃ a' cap', e = .returned (.tuple #[.slice a' (arpO op m1 i1 m2 i2).length cap', .int .i64 0]) ∧ OwnSl w.heap.size a' (arpO op m1 i1 m2 i2) cap' w' ∧ Below w.heap.size w w' := by
  have bn := blk_new w (.cells #[.int .i64 op, .int .u64 m1, .int .u32 i1, .int .u64 m2, .int .u32 i2] 28)
  have hsz : w.heap.size < (w.alloc (.cells #[.int .i64 op, .int .u64 m1, .int .u32 i1, .int .u64 m2, .int .u32 i2] 28)).heap.size := by rw [World.size_alloc]; omega
  have bw := (Below.refl _ w).alloc (Nat.le_refl _) (.cells #[.int .i64 op, .int .u64 m1, .int .u32 i1, .int .u64 m2, .int .u32 i2] 28)
  have e1 : IntKind.u8.wrap (op : Int) = (op : Int) := IntWalk.u8_in _ (by omega)
  have hY := fun W => bts_new W [op] 5 (by intro x hx; simp at hx; omega)
  have hY2 : arpHead.length + [op].length ≤ 140737488355328 := by simp [arpHead]
  go_enter Try.func20, Try.ntmps20
  go_wp2_with fail
  generalize w.alloc (.cells #[.int .i64 op, .int .u64 m1, .int .u32 i1, .int .u64 m2, .int .u32 i2] 28) = W0 at bn hsz bw ⊢
  have K0 := Lib.hid bn
  have g0 := blk_cell bn 0
  have hszB : w.heap.size < (W0.alloc (.cells #[.int .u8 op] 5)).drew.heap.size := by show _ < (W0.alloc _).heap.size; rw [World.size_alloc]; exact Nat.lt_succ_of_lt hsz
  have K0B := Lib.hid ((((Below.refl _ W0).alloc (Nat.le_refl _) (.cells #[.int .u8 op] 5)).drew.block w.heap.size hsz).trans bn)
  have HB : Hid ((W0.alloc (.cells #[.int .u8 op] 5)).drew.heap.size = W0.heap.size + 1) := Lib.hid (by show (W0.alloc _).heap.size = _; rw [World.size_alloc])
  have bwB := (bw.alloc (Nat.le_of_lt hsz) (.cells #[.int .u8 op] 5)).drew
  have YB := Lib.hid ((hY W0).below (Below.refl _ _).drew)
  clear bn
  go_region_held3 (fun W => W.cell? ⟨w.heap.size, 0, none⟩ = some (.int .i64 op)) (first | go_keep) (first
    | (go_at_call 56; (with_reducible refine (head_any W0.drew).mono ?_); rintro e w1 ⟨rfl, O, b1⟩; have k1 := (b1.block w.heap.size hsz).trans K0.out; have K1 := Lib.hid k1; have g0 := blk_cell k1 0; have O1 := Lib.hid O; have s1 := Nat.lt_of_lt_of_le hsz b1.size; have q1 := Lib.hid (bw.drew.trans (b1.mono (Nat.le_of_lt hsz))); have OA := Lib.hid ((O.mono hsz).alloc (.cells #[.int .u8 op] 5)); have YA := Lib.hid (hY w1); have sA : w.heap.size + 1 ≤ (w1.alloc (.cells #[.int .u8 op] 5)).heap.size := lt_alloc s1 _; have qA := Lib.hid (q1.out.alloc q1.out.size (.cells #[.int .u8 op] 5)); have KA := Lib.hid ((((Below.refl _ w1).alloc (Nat.le_refl _) (.cells #[.int .u8 op] 5)).block w.heap.size s1).trans k1); clear k1 O b1)
    | (go_at_call 56; (with_reducible refine (head_any (W0.alloc (.cells #[.int .u8 op] 5)).drew).mono ?_); rintro e w1 ⟨rfl, O, b1⟩; have k1 := (b1.block w.heap.size hszB).trans K0B.out; have K1 := Lib.hid k1; have g0 := blk_cell k1 0; have s1 := Nat.lt_of_lt_of_le hszB b1.size; have OZ := O.mono hszB; rw [HB.out] at OZ; have OA := Lib.hid OZ; clear OZ; have YA := Lib.hid (YB.out.below b1); have sA : w.heap.size + 1 ≤ w1.heap.size := s1; have qA := Lib.hid (bwB.trans (b1.mono (Nat.le_of_lt hszB))); have KA := Lib.hid k1; clear k1 O b1)
    | (refine step_append_bts rfl _ _ rfl (w.heap.size + 1) OA.out YA.out (fun h => by cases h) rfl rfl hY2 sA ?_; intro a3 c3 w3 Z b3; have k3 := (b3.block w.heap.size (Nat.lt_succ_self _)).trans KA.out; have K3 := Lib.hid k3; have g3 := blk_cell k3 0; have g3' := blk_cell k3 1; have O3 := Lib.hid Z; have q3 := Lib.hid (qA.out.trans (b3.mono (Nat.le_succ _))); have s3 := Nat.le_trans sA b3.size; clear k3 Z b3))
  all_goals
    have z0 : Hid ((arpHead ++ [op]).length = 8) := Lib.hid rfl
    clear OA YA KA qA K0 K0B HB YB s1 sA
    go_wp2_with fail
    refine (oct6_sl m1 _).mono ?_
    rintro e u0 ⟨rfl, O, b⟩
    have lb0 : (arpHead ++ [op]).length + (Mt.octs m1 6).length ≤ 140737488355328 := by rw [z0.out, Mt.octs_length]; omega
    have lz0 : ((arpHead ++ [op]) ++ Mt.octs m1 6).length = 14 := by rw [List.length_append, z0.out, Mt.octs_length]
    have HZ0 := Lib.hid lz0; clear lz0
    have Y0 := Lib.hid O.bts
    have P0 := Lib.hid (O3.out.below b)
    have k := (b.block w.heap.size s3).trans K3.out
    have J0 := Lib.hid k
    have t0 := Nat.le_trans s3 b.size
    have r0 := Lib.hid (q3.out.trans (b.mono q3.out.size))
    clear O b k O3 K3 q3 s3
    go_wp2_with (at_builtin; refine wpList_append_bts rfl _ _ rfl (w.heap.size + 1) P0.out Y0.out (fun h => by cases h) rfl rfl lb0 t0 ?_; intro a0 c0 v0 Z b; have k := (b.block w.heap.size (Nat.lt_succ_self _)).trans J0.out; have N0 := Lib.hid k; have g0' := blk_cell k 2; have x0 := Lib.hid (r0.out.trans (b.mono (Nat.le_succ _))); have y0 := Nat.le_trans t0 b.size; obtain ⟨L1, hL⟩ : ∃ L1, arpHead ++ [op] ++ Mt.octs m1 6 = L1 := ⟨_, rfl⟩; have z1 : Hid (L1.length = 14) := Lib.hid ((congrArg List.length hL.symm).trans HZ0.out); clear lb0; rw [hL] at Z; rw [hL]; have E1 := Lib.hid hL; have R0 := Lib.hid Z; clear k Z b hL P0 Y0)
    go_wp2_with fail
    refine (oct4_sl i1 _).mono ?_
    rintro e u1 ⟨rfl, O, b⟩
    have lb1 : L1.length + (Mt.octs i1 4).length ≤ 140737488355328 := by rw [z1.out, Mt.octs_length]; omega
    have lz1 : (L1 ++ Mt.octs i1 4).length = 18 := by rw [List.length_append, z1.out, Mt.octs_length]
    have HZ1 := Lib.hid lz1; clear lz1
    have Y1 := Lib.hid O.bts
    have P1 := Lib.hid (R0.out.below b)
    have k := (b.block w.heap.size y0).trans N0.out
    have J1 := Lib.hid k
    have t1 := Nat.le_trans y0 b.size
    have r1 := Lib.hid (x0.out.trans (b.mono x0.out.size))
    clear O b k R0 N0 x0 y0
    go_wp2_with (at_builtin; refine wpList_append_bts rfl _ _ rfl (w.heap.size + 1) P1.out Y1.out (fun h => by cases h) rfl rfl lb1 t1 ?_; intro a1 c1 v1 Z b; have k := (b.block w.heap.size (Nat.lt_succ_self _)).trans J1.out; have N1 := Lib.hid k; have g1' := blk_cell k 3; have x1 := Lib.hid (r1.out.trans (b.mono (Nat.le_succ _))); have y1 := Nat.le_trans t1 b.size; obtain ⟨L2, hL⟩ : ∃ L2, L1 ++ Mt.octs i1 4 = L2 := ⟨_, rfl⟩; have z2 : Hid (L2.length = 18) := Lib.hid ((congrArg List.length hL.symm).trans HZ1.out); clear lb1; rw [hL] at Z; rw [hL]; have E2 := Lib.hid hL; have R1 := Lib.hid Z; clear k Z b hL P1 Y1)
    go_wp2_with fail
    refine (oct6_sl m2 _).mono ?_
    rintro e u2 ⟨rfl, O, b⟩
    have lb2 : L2.length + (Mt.octs m2 6).length ≤ 140737488355328 := by rw [z2.out, Mt.octs_length]; omega
    have lz2 : (L2 ++ Mt.octs m2 6).length = 24 := by rw [List.length_append, z2.out, Mt.octs_length]
    have HZ2 := Lib.hid lz2; clear lz2
    have Y2 := Lib.hid O.bts
    have P2 := Lib.hid (R1.out.below b)
    have k := (b.block w.heap.size y1).trans N1.out
    have J2 := Lib.hid k
    have t2 := Nat.le_trans y1 b.size
    have r2 := Lib.hid (x1.out.trans (b.mono x1.out.size))
    clear O b k R1 N1 x1 y1
    go_wp2_with (at_builtin; refine wpList_append_bts rfl _ _ rfl (w.heap.size + 1) P2.out Y2.out (fun h => by cases h) rfl rfl lb2 t2 ?_; intro a2 c2 v2 Z b; have k := (b.block w.heap.size (Nat.lt_succ_self _)).trans J2.out; have N2 := Lib.hid k; have g2' := blk_cell k 4; have x2 := Lib.hid (r2.out.trans (b.mono (Nat.le_succ _))); have y2 := Nat.le_trans t2 b.size; obtain ⟨L3, hL⟩ : ∃ L3, L2 ++ Mt.octs m2 6 = L3 := ⟨_, rfl⟩; have z3 : Hid (L3.length = 24) := Lib.hid ((congrArg List.length hL.symm).trans HZ2.out); clear lb2; rw [hL] at Z; rw [hL]; have E3 := Lib.hid hL; have R2 := Lib.hid Z; clear k Z b hL P2 Y2)
    go_wp2_with fail
    refine (oct4_sl i2 _).mono ?_
    rintro e u3 ⟨rfl, O, b⟩
    have lb3 : L3.length + (Mt.octs i2 4).length ≤ 140737488355328 := by rw [z3.out, Mt.octs_length]; omega
    have lz3 : (L3 ++ Mt.octs i2 4).length = 28 := by rw [List.length_append, z3.out, Mt.octs_length]
    have HZ3 := Lib.hid lz3; clear lz3
    have Y3 := Lib.hid O.bts
    have P3 := Lib.hid (R2.out.below b)
    have k := (b.block w.heap.size y2).trans N2.out
    have J3 := Lib.hid k
    have t3 := Nat.le_trans y2 b.size
    have r3 := Lib.hid (x2.out.trans (b.mono x2.out.size))
    clear O b k R2 N2 x2 y2
    go_wp2_with (at_builtin; refine wpList_append_bts rfl _ _ rfl (w.heap.size + 1) P3.out Y3.out (fun h => by cases h) rfl rfl lb3 t3 ?_; intro a3 c3 v3 Z b; have k := (b.block w.heap.size (Nat.lt_succ_self _)).trans J3.out; have N3 := Lib.hid k;  have x3 := Lib.hid (r3.out.trans (b.mono (Nat.le_succ _))); have y3 := Nat.le_trans t3 b.size; obtain ⟨L4, hL⟩ : ∃ L4, L3 ++ Mt.octs i2 4 = L4 := ⟨_, rfl⟩; have z4 : Hid (L4.length = 28) := Lib.hid ((congrArg List.length hL.symm).trans HZ3.out); clear lb3; rw [hL] at Z; rw [hL]; have E4 := Lib.hid hL; have R3 := Lib.hid Z; clear k Z b hL P3 Y3)
    have hfin : L4 = arpO op m1 i1 m2 i2 := by rw [← E4.out, ← E3.out, ← E2.out, ← E1.out]; rfl
    subst hfin
    go_ret2
    exact ⟨a3, c3, rfl, R3.out.mono (Nat.le_succ _), x3.out⟩

set_option maxHeartbeats 2000000 in
theorem refarpB_ok2 (op m1 i1 m2 i2 : Nat) (w : World) (n1 : op ≤ 2) (o1 : ((op : Int) != 1) = true) (o2 : ((op : Int) != 2) = false) (h1 : m1 ≤ 281474976710655) (h2 : m2 ≤ 281474976710655) (hi1 : i1 < 4294967296) (hi2 : i2 < 4294967296) :
    Calls Try.prog 20 #[.agg #[.int .i64 op, .int .u64 m1, .int .u32 i1, .int .u64 m2, .int .u32 i2]] w fun e w' => ∃ a' cap', e = .returned (.tuple #[.slice a' (arpO op m1 i1 m2 i2).length cap', .int .i64 0]) ∧ OwnSl w.heap.size a' (arpO op m1 i1 m2 i2) cap' w' ∧ Below w.heap.size w w' := by
  have bn := blk_new w (.cells #[.int .i64 op, .int .u64 m1, .int .u32 i1, .int .u64 m2, .int .u32 i2] 28)
  have hsz : w.heap.size < (w.alloc (.cells #[.int .i64 op, .int .u64 m1, .int .u32 i1, .int .u64 m2, .int .u32 i2] 28)).heap.size := by rw [World.size_alloc]; omega
  have bw := (Below.refl _ w).alloc (Nat.le_refl _) (.cells #[.int .i64 op, .int .u64 m1, .int .u32 i1, .int .u64 m2, .int .u32 i2] 28)
  have e1 : IntKind.u8.wrap (op : Int) = (op : Int) := IntWalk.u8_in _ (by omega)
  have hY := fun W => bts_new W [op] 5 (by intro x hx; simp at hx; omega)
  have hY2 : arpHead.length + [op].length ≤ 140737488355328 := by simp [arpHead]
  go_enter Try.func20, Try.ntmps20
  go_wp2_with fail
  generalize w.alloc (.cells #[.int .i64 op, .int .u64 m1, .int .u32 i1, .int .u64 m2, .int .u32 i2] 28) = W0 at bn hsz bw ⊢
  have K0 := Lib.hid bn
  have g0 := blk_cell bn 0
  have hszB : w.heap.size < (W0.alloc (.cells #[.int .u8 op] 5)).drew.heap.size := by show _ < (W0.alloc _).heap.size; rw [World.size_alloc]; exact Nat.lt_succ_of_lt hsz
  have K0B := Lib.hid ((((Below.refl _ W0).alloc (Nat.le_refl _) (.cells #[.int .u8 op] 5)).drew.block w.heap.size hsz).trans bn)
  have HB : Hid ((W0.alloc (.cells #[.int .u8 op] 5)).drew.heap.size = W0.heap.size + 1) := Lib.hid (by show (W0.alloc _).heap.size = _; rw [World.size_alloc])
  have bwB := (bw.alloc (Nat.le_of_lt hsz) (.cells #[.int .u8 op] 5)).drew
  have YB := Lib.hid ((hY W0).below (Below.refl _ _).drew)
  clear bn
  go_region_held3 (fun W => W.cell? ⟨w.heap.size, 0, none⟩ = some (.int .i64 op)) (first | go_keep) (first
    | (go_at_call 56; (with_reducible refine (head_any W0.drew).mono ?_); rintro e w1 ⟨rfl, O, b1⟩; have k1 := (b1.block w.heap.size hsz).trans K0.out; have K1 := Lib.hid k1; have g0 := blk_cell k1 0; have O1 := Lib.hid O; have s1 := Nat.lt_of_lt_of_le hsz b1.size; have q1 := Lib.hid (bw.drew.trans (b1.mono (Nat.le_of_lt hsz))); have OA := Lib.hid ((O.mono hsz).alloc (.cells #[.int .u8 op] 5)); have YA := Lib.hid (hY w1); have sA : w.heap.size + 1 ≤ (w1.alloc (.cells #[.int .u8 op] 5)).heap.size := lt_alloc s1 _; have qA := Lib.hid (q1.out.alloc q1.out.size (.cells #[.int .u8 op] 5)); have KA := Lib.hid ((((Below.refl _ w1).alloc (Nat.le_refl _) (.cells #[.int .u8 op] 5)).block w.heap.size s1).trans k1); clear k1 O b1)
    | (go_at_call 56; (with_reducible refine (head_any (W0.alloc (.cells #[.int .u8 op] 5)).drew).mono ?_); rintro e w1 ⟨rfl, O, b1⟩; have k1 := (b1.block w.heap.size hszB).trans K0B.out; have K1 := Lib.hid k1; have g0 := blk_cell k1 0; have s1 := Nat.lt_of_lt_of_le hszB b1.size; have OZ := O.mono hszB; rw [HB.out] at OZ; have OA := Lib.hid OZ; clear OZ; have YA := Lib.hid (YB.out.below b1); have sA : w.heap.size + 1 ≤ w1.heap.size := s1; have qA := Lib.hid (bwB.trans (b1.mono (Nat.le_of_lt hszB))); have KA := Lib.hid k1; clear k1 O b1)
    | (refine step_append_bts rfl _ _ rfl (w.heap.size + 1) OA.out YA.out (fun h => by cases h) rfl rfl hY2 sA ?_; intro a3 c3 w3 Z b3; have k3 := (b3.block w.heap.size (Nat.lt_succ_self _)).trans KA.out; have K3 := Lib.hid k3; have g3 := blk_cell k3 0; have g3' := blk_cell k3 1; have O3 := Lib.hid Z; have q3 := Lib.hid (qA.out.trans (b3.mono (Nat.le_succ _))); have s3 := Nat.le_trans sA b3.size; clear k3 Z b3))
  all_goals
    have z0 : Hid ((arpHead ++ [op]).length = 8) := Lib.hid rfl
    clear OA YA KA qA K0 K0B HB YB s1 sA
    go_wp2_with fail
    refine (oct6_sl m1 _).mono ?_
    rintro e u0 ⟨rfl, O, b⟩
    have lb0 : (arpHead ++ [op]).length + (Mt.octs m1 6).length ≤ 140737488355328 := by rw [z0.out, Mt.octs_length]; omega
    have lz0 : ((arpHead ++ [op]) ++ Mt.octs m1 6).length = 14 := by rw [List.length_append, z0.out, Mt.octs_length]
    have HZ0 := Lib.hid lz0; clear lz0
    have Y0 := Lib.hid O.bts
    have P0 := Lib.hid (O3.out.below b)
    have k := (b.block w.heap.size s3).trans K3.out
    have J0 := Lib.hid k
    have t0 := Nat.le_trans s3 b.size
    have r0 := Lib.hid (q3.out.trans (b.mono q3.out.size))
    clear O b k O3 K3 q3 s3
    go_wp2_with (at_builtin; refine wpList_append_bts rfl _ _ rfl (w.heap.size + 1) P0.out Y0.out (fun h => by cases h) rfl rfl lb0 t0 ?_; intro a0 c0 v0 Z b; have k := (b.block w.heap.size (Nat.lt_succ_self _)).trans J0.out; have N0 := Lib.hid k; have g0' := blk_cell k 2; have x0 := Lib.hid (r0.out.trans (b.mono (Nat.le_succ _))); have y0 := Nat.le_trans t0 b.size; obtain ⟨L1, hL⟩ : ∃ L1, arpHead ++ [op] ++ Mt.octs m1 6 = L1 := ⟨_, rfl⟩; have z1 : Hid (L1.length = 14) := Lib.hid ((congrArg List.length hL.symm).trans HZ0.out); clear lb0; rw [hL] at Z; rw [hL]; have E1 := Lib.hid hL; have R0 := Lib.hid Z; clear k Z b hL P0 Y0)
    go_wp2_with fail
    refine (oct4_sl i1 _).mono ?_
    rintro e u1 ⟨rfl, O, b⟩
    have lb1 : L1.length + (Mt.octs i1 4).length ≤ 140737488355328 := by rw [z1.out, Mt.octs_length]; omega
    have lz1 : (L1 ++ Mt.octs i1 4).length = 18 := by rw [List.length_append, z1.out, Mt.octs_length]
    have HZ1 := Lib.hid lz1; clear lz1
    have Y1 := Lib.hid O.bts
    have P1 := Lib.hid (R0.out.below b)
    have k := (b.block w.heap.size y0).trans N0.out
    have J1 := Lib.hid k
    have t1 := Nat.le_trans y0 b.size
    have r1 := Lib.hid (x0.out.trans (b.mono x0.out.size))
    clear O b k R0 N0 x0 y0
    go_wp2_with (at_builtin; refine wpList_append_bts rfl _ _ rfl (w.heap.size + 1) P1.out Y1.out (fun h => by cases h) rfl rfl lb1 t1 ?_; intro a1 c1 v1 Z b; have k := (b.block w.heap.size (Nat.lt_succ_self _)).trans J1.out; have N1 := Lib.hid k; have g1' := blk_cell k 3; have x1 := Lib.hid (r1.out.trans (b.mono (Nat.le_succ _))); have y1 := Nat.le_trans t1 b.size; obtain ⟨L2, hL⟩ : ∃ L2, L1 ++ Mt.octs i1 4 = L2 := ⟨_, rfl⟩; have z2 : Hid (L2.length = 18) := Lib.hid ((congrArg List.length hL.symm).trans HZ1.out); clear lb1; rw [hL] at Z; rw [hL]; have E2 := Lib.hid hL; have R1 := Lib.hid Z; clear k Z b hL P1 Y1)
    go_wp2_with fail
    refine (oct6_sl m2 _).mono ?_
    rintro e u2 ⟨rfl, O, b⟩
    have lb2 : L2.length + (Mt.octs m2 6).length ≤ 140737488355328 := by rw [z2.out, Mt.octs_length]; omega
    have lz2 : (L2 ++ Mt.octs m2 6).length = 24 := by rw [List.length_append, z2.out, Mt.octs_length]
    have HZ2 := Lib.hid lz2; clear lz2
    have Y2 := Lib.hid O.bts
    have P2 := Lib.hid (R1.out.below b)
    have k := (b.block w.heap.size y1).trans N1.out
    have J2 := Lib.hid k
    have t2 := Nat.le_trans y1 b.size
    have r2 := Lib.hid (x1.out.trans (b.mono x1.out.size))
    clear O b k R1 N1 x1 y1
    go_wp2_with (at_builtin; refine wpList_append_bts rfl _ _ rfl (w.heap.size + 1) P2.out Y2.out (fun h => by cases h) rfl rfl lb2 t2 ?_; intro a2 c2 v2 Z b; have k := (b.block w.heap.size (Nat.lt_succ_self _)).trans J2.out; have N2 := Lib.hid k; have g2' := blk_cell k 4; have x2 := Lib.hid (r2.out.trans (b.mono (Nat.le_succ _))); have y2 := Nat.le_trans t2 b.size; obtain ⟨L3, hL⟩ : ∃ L3, L2 ++ Mt.octs m2 6 = L3 := ⟨_, rfl⟩; have z3 : Hid (L3.length = 24) := Lib.hid ((congrArg List.length hL.symm).trans HZ2.out); clear lb2; rw [hL] at Z; rw [hL]; have E3 := Lib.hid hL; have R2 := Lib.hid Z; clear k Z b hL P2 Y2)
    go_wp2_with fail
    refine (oct4_sl i2 _).mono ?_
    rintro e u3 ⟨rfl, O, b⟩
    have lb3 : L3.length + (Mt.octs i2 4).length ≤ 140737488355328 := by rw [z3.out, Mt.octs_length]; omega
    have lz3 : (L3 ++ Mt.octs i2 4).length = 28 := by rw [List.length_append, z3.out, Mt.octs_length]
    have HZ3 := Lib.hid lz3; clear lz3
    have Y3 := Lib.hid O.bts
    have P3 := Lib.hid (R2.out.below b)
    have k := (b.block w.heap.size y2).trans N2.out
    have J3 := Lib.hid k
    have t3 := Nat.le_trans y2 b.size
    have r3 := Lib.hid (x2.out.trans (b.mono x2.out.size))
    clear O b k R2 N2 x2 y2
    go_wp2_with (at_builtin; refine wpList_append_bts rfl _ _ rfl (w.heap.size + 1) P3.out Y3.out (fun h => by cases h) rfl rfl lb3 t3 ?_; intro a3 c3 v3 Z b; have k := (b.block w.heap.size (Nat.lt_succ_self _)).trans J3.out; have N3 := Lib.hid k;  have x3 := Lib.hid (r3.out.trans (b.mono (Nat.le_succ _))); have y3 := Nat.le_trans t3 b.size; obtain ⟨L4, hL⟩ : ∃ L4, L3 ++ Mt.octs i2 4 = L4 := ⟨_, rfl⟩; have z4 : Hid (L4.length = 28) := Lib.hid ((congrArg List.length hL.symm).trans HZ3.out); clear lb3; rw [hL] at Z; rw [hL]; have E4 := Lib.hid hL; have R3 := Lib.hid Z; clear k Z b hL P3 Y3)
    have hfin : L4 = arpO op m1 i1 m2 i2 := by rw [← E4.out, ← E3.out, ← E2.out, ← E1.out]; rfl
    subst hfin
    go_ret2
    exact ⟨a3, c3, rfl, R3.out.mono (Nat.le_succ _), x3.out⟩

theorem refarpB_ok (op m1 i1 m2 i2 : Nat) (w : World) (ho : op = 1 ∨ op = 2) (h1 : m1 ≤ 281474976710655) (h2 : m2 ≤ 281474976710655) (hi1 : i1 < 4294967296) (hi2 : i2 < 4294967296) :
    Calls Try.prog 20 #[.agg #[.int .i64 op, .int .u64 m1, .int .u32 i1, .int .u64 m2, .int .u32 i2]] w fun e w' => ∃ a' cap', e = .returned (.tuple #[.slice a' (arpO op m1 i1 m2 i2).length cap', .int .i64 0]) ∧ OwnSl w.heap.size a' (arpO op m1 i1 m2 i2) cap' w' ∧ Below w.heap.size w w' := by
  rcases ho with rfl | rfl
  · exact refarpB_ok1 1 m1 i1 m2 i2 w (by omega) rfl h1 h2 hi1 hi2
  · exact refarpB_ok2 2 m1 i1 m2 i2 w (by omega) rfl rfl h1 h2 hi1 hi2

set_option maxHeartbeats 1000000 in
theorem refarpB_op (op : Int) (m1 i1 m2 i2 : Nat) (w : World) (h1 : op ≠ 1) (h2 : op ≠ 2) :
    Calls Try.prog 20 #[.agg #[.int .i64 op, .int .u64 m1, .int .u32 i1, .int .u64 m2, .int .u32 i2]] w fun e w' => e = .returned (.tuple #[.slice none 0 0, .int .i64 31]) ∧ Below w.heap.size w w' := by
  have o1 : (op != 1) = true := by rw [bne_iff_ne]; exact h1
  have o2 : (op != 2) = true := by rw [bne_iff_ne]; exact h2
  have bw := (Below.refl _ w).alloc (Nat.le_refl _) (.cells #[.int .i64 op, .int .u64 m1, .int .u32 i1, .int .u64 m2, .int .u32 i2] 28)
  clear h1 h2
  go_enter Try.func20, Try.ntmps20
  go_wp2
  go_ret2
  exact ⟨rfl, bw⟩

set_option maxHeartbeats 1000000 in
theorem refarpB_mac (op m1 i1 m2 i2 : Nat) (w : World) (ho : op = 1 ∨ op = 2) (h : 281474976710655 < m1 ∨ 281474976710655 < m2) :
    Calls Try.prog 20 #[.agg #[.int .i64 op, .int .u64 m1, .int .u32 i1, .int .u64 m2, .int .u32 i2]] w fun e w' => e = .returned (.tuple #[.slice none 0 0, .int .i64 4]) ∧ Below w.heap.size w w' := by
  have bw := (Below.refl _ w).alloc (Nat.le_refl _) (.cells #[.int .i64 op, .int .u64 m1, .int .u32 i1, .int .u64 m2, .int .u32 i2] 28)
  have key : ∀ (b1 b2 : Bool), ((op : Int) != 1) = b1 → ((op : Int) != 2) = b2 → (b1 && b2) = false → Calls Try.prog 20 #[.agg #[.int .i64 op, .int .u64 m1, .int .u32 i1, .int .u64 m2, .int .u32 i2]] w fun e w' => e = .returned (.tuple #[.slice none 0 0, .int .i64 4]) ∧ Below w.heap.size w w' := by
    intro b1 b2 o1 o2 hb
    clear ho
    by_cases h1 : 281474976710655 < m1
    · clear h
      cases b1 <;> cases b2 <;> first | (exfalso; simp at hb; done) | (clear hb; go_enter Try.func20, Try.ntmps20; go_wp2; go_ret2; exact ⟨rfl, bw⟩)
    · have h2 : 281474976710655 < m2 := by omega
      clear h
      cases b1 <;> cases b2 <;> first | (exfalso; simp at hb; done) | (clear hb; go_enter Try.func20, Try.ntmps20; go_wp2; go_ret2; exact ⟨rfl, bw⟩)
  rcases ho with rfl | rfl
  · exact key false true rfl rfl rfl
  · exact key true false rfl rfl rfl
end Go.Proofs.Ytdiomelldhkibaa
