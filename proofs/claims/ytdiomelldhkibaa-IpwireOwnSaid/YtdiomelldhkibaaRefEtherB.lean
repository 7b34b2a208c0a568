/- What the document's own Build of ether gives. -/
import Derived.Test.YtdiomelldhkibaaGOcts
import Derived.Test.YtdiomelldhkibaaGAppend
namespace Go.Proofs.Ytdiomelldhkibaa
open Go.RowKit

/-- A frame's octets. -/
def ethO (d s t : Nat) (xs : List Nat) : List Nat := Mt.octs d 6 ++ Mt.octs s 6 ++ Mt.octs t 2 ++ xs

set_option maxHeartbeats 2000000 in
theorem refethB_ok (d s t : Nat) (a : Option Addr) (xs : List Nat) (cap : Nat) (w : World) (hd : d ≤ 281474976710655) (hs : s ≤ 281474976710655) (ht : t ≤ 65535) (hx : Bts w a xs) (hcap : a = none → cap = 0) (hl : xs.length ≤ 65521) :
    Calls Try.prog 18 #[.agg #[.int .u64 d, .int .u64 s, .int .i64 t, .slice a xs.length cap]] w fun e w' => ∃ a' cap', e = .returned (.tuple #[.slice a' (ethO d s t xs).length cap', .int .i64 0]) ∧ OwnSl w.heap.size a' (ethO d s t xs) cap' w' ∧ Below w.heap.size w w' := by
  have X0 := Lib.hid hx
  have HC := Lib.hid hcap
  clear hx hcap
  have bn := blk_new w (.cells #[.int .u64 d, .int .u64 s, .int .i64 t, .slice a xs.length cap] 25)
  have hsz : w.heap.size < (w.alloc (.cells #[.int .u64 d, .int .u64 s, .int .i64 t, .slice a xs.length cap] 25)).heap.size := by rw [World.size_alloc]; omega
  have bw := (Below.refl _ w).alloc (Nat.le_refl _) (.cells #[.int .u64 d, .int .u64 s, .int .i64 t, .slice a xs.length cap] 25)
  go_enter Try.func18, Try.ntmps18
  go_wp2_with fail
  generalize w.alloc (.cells #[.int .u64 d, .int .u64 s, .int .i64 t, .slice a xs.length cap] 25) = W0 at bn hsz bw ⊢
  have K0 := Lib.hid bn
  have g0 := blk_cell bn 0
  have g1 := blk_cell bn 1
  clear bn
  go_region_held3 (fun W => W.cell? ⟨w.heap.size, 0, none⟩ = some (.int .u64 d) ∧ W.cell? ⟨w.heap.size, 1, none⟩ = some (.int .u64 s)) (first | go_keep) (first
    | (go_at_call 54; (with_reducible refine (oct6_sl d _).mono ?_); rintro e w1 ⟨rfl, O, b1⟩; have k1 := (b1.block w.heap.size hsz).trans K0.out; have K1 := Lib.hid k1; have g0 := blk_cell k1 0; have g1 := blk_cell k1 1; have O1 := Lib.hid O; have s1 := Nat.lt_of_lt_of_le hsz b1.size; have q1 := Lib.hid (bw.drew.trans (b1.mono (Nat.le_of_lt hsz))); clear k1 O b1)
    | (go_at_call 54; (with_reducible refine (oct6_sl s _).mono ?_); rintro e w2 ⟨rfl, O, b2⟩; have k2 := (b2.block w.heap.size s1).trans K1.out; have K2 := Lib.hid k2; have h0 := blk_cell k2 0; have h1 := blk_cell k2 1; have O2 := Lib.hid O.bts; have P1 := Lib.hid ((O1.out.below b2).mono hsz); have s2 := Nat.lt_of_lt_of_le s1 b2.size; have q2 := Lib.hid (q1.out.trans (b2.mono q1.out.size)); clear k2 O b2)
    | (refine step_append_bts (by rfl) _ _ (by rfl) (w.heap.size + 1) P1.out O2.out (fun h => by cases h) (by rfl) (by rfl) (by simp [Mt.octs_length]) s2 ?_; intro a3 c3 w3 Z b3; have k3 := (b3.block w.heap.size (Nat.lt_succ_self _)).trans K2.out; have K3 := Lib.hid k3; have i0 := blk_cell k3 0; have i1 := blk_cell k3 1; have i2 := blk_cell k3 2; have i3 := blk_cell k3 3; have s3 := Nat.le_trans s2 b3.size; have q3 := Lib.hid (q2.out.trans (b3.mono (Nat.le_succ _))); obtain ⟨L3, hL3⟩ : ∃ L3, Mt.octs d 6 ++ Mt.octs s 6 = L3 := ⟨_, rfl⟩; rw [hL3] at Z; have O3 := Lib.hid Z; have E3 := Lib.hid hL3; rw [hL3]; clear k3 Z b3 hL3))
  have l3 : L3.length = 12 := by rw [← E3.out]; simp [Mt.octs_length]
  have L3l := Lib.hid l3
  clear l3 g0 g1
  go_wp2_with fail
  refine (oct2_sl t _).mono ?_
  rintro e w4 ⟨rfl, O, b4⟩
  have O4 := Lib.hid O.bts
  have P3 := Lib.hid (O3.out.below b4)
  have k4 := (b4.block w.heap.size s3).trans K3.out
  have K4 := Lib.hid k4
  have j3 := blk_cell k4 3
  have s4 := Nat.le_trans s3 b4.size
  have q4 := q3.out.trans (b4.mono q3.out.size)
  clear O b4 O3 K3 k4
  go_wp2_with (first
    | (at_builtin; refine wpList_append_bts rfl _ _ rfl (w.heap.size + 1) P3.out O4.out (fun h => by cases h) rfl rfl (by rw [L3l.out]; simp [Mt.octs_length]) s4 ?_; intro a5 c5 w5 Z b5; have k5 := (b5.block w.heap.size (Nat.lt_succ_self _)).trans K4.out; have m3 := blk_cell k5 3; have q5 := q4.trans (b5.mono (Nat.le_succ _)); have s5 := Nat.le_trans s4 b5.size; have X5 := Lib.hid (X0.out.below q5); obtain ⟨L5, hL5⟩ : ∃ L5, L3 ++ Mt.octs t 2 = L5 := ⟨_, rfl⟩; rw [hL5] at Z; have O5 := Lib.hid Z; have E5 := Lib.hid hL5; rw [hL5]; have l5 : L5.length ≤ 14 := (by rw [← hL5, List.length_append, L3l.out]; simp [Mt.octs_length]); clear Z hL5 P3)
    | (at_builtin; refine wpList_append_bts rfl _ _ rfl (w.heap.size + 1) O5.out X5.out HC.out rfl rfl (by omega) s5 ?_; intro a6 c6 w6 Z b6; obtain ⟨L6, hL6⟩ : ∃ L6, L5 ++ xs = L6 := ⟨_, rfl⟩; rw [hL6] at Z; have O6 := Lib.hid Z; have E6 := Lib.hid hL6; rw [hL6]; have q6 := q5.trans (b6.mono (Nat.le_succ _)); clear Z hL6 O5))
  have hfin : L6 = ethO d s t xs := by rw [← E6.out, ← E5.out, ← E3.out]; rfl
  subst hfin
  go_ret2
  exact ⟨a6, c6, rfl, O6.out.mono (Nat.le_succ _), q6⟩

set_option maxHeartbeats 2000000 in
theorem refethB_range (d s : Nat) (t : Int) (a : Option Addr) (n cap : Nat) (w : World) (h : 281474976710655 < d ∨ 281474976710655 < s ∨ t < 0 ∨ 65535 < t) :
    Calls Try.prog 18 #[.agg #[.int .u64 d, .int .u64 s, .int .i64 t, .slice a n cap]] w fun e w' => e = .returned (.tuple #[.slice none 0 0, .int .i64 4]) ∧ Below w.heap.size w w' := by
  have bw := (Below.refl _ w).alloc (Nat.le_refl _) (.cells #[.int .u64 d, .int .u64 s, .int .i64 t, .slice a n cap] 25)
  by_cases h1 : 281474976710655 < d
  · clear h
    go_enter Try.func18, Try.ntmps18
    go_wp2
    go_ret2
    exact ⟨rfl, bw⟩
  · by_cases h2 : 281474976710655 < s
    · clear h
      go_enter Try.func18, Try.ntmps18
      go_wp2
      go_ret2
      exact ⟨rfl, bw⟩
    · by_cases h3 : t < 0
      · clear h
        go_enter Try.func18, Try.ntmps18
        go_wp2
        go_ret2
        exact ⟨rfl, bw⟩
      · have h4 : 65535 < t := by omega
        clear h
        go_enter Try.func18, Try.ntmps18
        go_wp2
        go_ret2
        exact ⟨rfl, bw⟩

set_option maxHeartbeats 2000000 in
theorem refethB_long (d s : Nat) (t : Int) (a : Option Addr) (n cap : Nat) (w : World) (hd : d ≤ 281474976710655) (hs : s ≤ 281474976710655) (ht0 : 0 ≤ t) (ht : t ≤ 65535) (hl : 65521 < n) :
    Calls Try.prog 18 #[.agg #[.int .u64 d, .int .u64 s, .int .i64 t, .slice a n cap]] w fun e w' => e = .returned (.tuple #[.slice none 0 0, .int .i64 5]) ∧ Below w.heap.size w w' := by
  have bw := (Below.refl _ w).alloc (Nat.le_refl _) (.cells #[.int .u64 d, .int .u64 s, .int .i64 t, .slice a n cap] 25)
  go_enter Try.func18, Try.ntmps18
  go_wp2
  go_ret2
  exact ⟨rfl, bw⟩
end Go.Proofs.Ytdiomelldhkibaa
