/- A number behind a list of one's own, as toeplitz lays it; a tuple of addresses and ports. -/
import Derived.Test.YtokfadlgiimaoaaGPut
import Derived.Test.YtokfadlgiimaoaaGAppend
import Derived.Test.YtokfadlgiimaoaaToCalls
namespace Go.Proofs.Ytokfadlgiimaoaa
open Go.RowKit

set_option maxRecDepth 100000 in
set_option maxHeartbeats 400000 in
/-- 'put': a number behind a list of one's own. -/
theorem puts_toeplitz (B cap n k : Nat) (a : Option Addr) (xs : List Nat) (w : World) (O : OwnSl B a xs cap w) (hlo : 1 ≤ k) (hhi : k ≤ 8) (hn : n < 18446744073709551616) (hnk : n < 256 ^ k) (hB : B ≤ w.heap.size) (hl : xs.length ≤ 70368744177664) :
    Calls Try.prog 58 #[.slice a xs.length cap, .int .u64 n, .int .i64 k] w fun e w' => ∃ a' cap', e = .returned (.slice a' (xs ++ Mt.octs n k).length cap') ∧ OwnSl B a' (xs ++ Mt.octs n k) cap' w' ∧ Below B w w' := by
  have hp := fun W => put_ok n k hlo hhi hn hnk W
  have ol : (Mt.octs n k).length = k := Mt.octs_length n k
  generalize Mt.octs n k = ys at hp ol ⊢
  subst ol
  have Hp := Lib.hid hp
  have HO := Lib.hid O
  clear hp O hnk
  go_enter Try.func58, Try.ntmps58
  go_wp2_with fail
  refine (Hp.out _).mono ?_
  rintro e w1 ⟨rfl, P, b1⟩
  have HP := Lib.hid P.bts
  have H1 := Lib.hid (HO.out.below b1)
  have q1 := Lib.hid (b1.mono hB)
  have hb1 := Nat.le_trans hB b1.size
  have hll : xs.length + ys.length ≤ 140737488355328 := by omega
  clear P b1 Hp HO
  go_wp2_with (at_builtin; refine wpList_append_bts rfl _ _ rfl B H1.out HP.out (fun h => by cases h) rfl rfl hll hb1 ?_; intro a2 c2 w2 Z b2; have HZ := Lib.hid Z; have q2 := Lib.hid (q1.out.trans b2); clear Z b2)
  go_ret
  exact ⟨a2, c2, by rw [List.length_append]; rfl, HZ.out, q2.out⟩

set_option maxRecDepth 100000 in
set_option maxHeartbeats 1000000 in
/-- 'Tuple'. -/
theorem tuple_any (src dst sp dp : Nat) (h1 : src < 4294967296) (h2 : dst < 4294967296) (h3 : sp < 65536) (h4 : dp < 65536) (w : World) :
    Calls Try.prog 43 #[.int .u32 src, .int .u32 dst, .int .u16 sp, .int .u16 dp] w fun e w' => ∃ g cap, e = .returned (.slice (some ⟨g, 0, none⟩) 12 cap) ∧ OwnSl w.heap.size (some ⟨g, 0, none⟩) (tup src dst sp dp) cap w' ∧ Below w.heap.size w w' := by
  have l1 := Mt.octs_length src 4
  have l2 := Mt.octs_length dst 4
  have l3 := Mt.octs_length sp 2
  have l4 := Mt.octs_length dp 2
  have p1 := fun W c => puts_toeplitz w.heap.size c src 4 none [] W
  have p2 := fun W c a => puts_toeplitz w.heap.size c dst 4 a ([] ++ Mt.octs src 4) W
  have p3 := fun W c a => puts_toeplitz w.heap.size c sp 2 a (([] ++ Mt.octs src 4) ++ Mt.octs dst 4) W
  have p4 := fun W c a => puts_toeplitz w.heap.size c dp 2 a ((([] ++ Mt.octs src 4) ++ Mt.octs dst 4) ++ Mt.octs sp 2) W
  have t : tup src dst sp dp = (([] ++ Mt.octs src 4 ++ Mt.octs dst 4) ++ Mt.octs sp 2) ++ Mt.octs dp 2 := rfl
  rw [t]
  simp only [List.length_append, List.length_nil, l1, l2, l3, l4, Nat.zero_add, Nat.reduceAdd] at p1 p2 p3 p4
  obtain ⟨L1, e1⟩ : ∃ L, [] ++ Mt.octs src 4 = L := ⟨_, rfl⟩
  rw [e1] at p1 p2 p3 p4 ⊢
  obtain ⟨L2, e2⟩ : ∃ L, L1 ++ Mt.octs dst 4 = L := ⟨_, rfl⟩
  rw [e2] at p2 p3 p4 ⊢
  obtain ⟨L3, e3⟩ : ∃ L, L2 ++ Mt.octs sp 2 = L := ⟨_, rfl⟩
  rw [e3] at p3 p4 ⊢
  obtain ⟨L4, e4⟩ : ∃ L, L3 ++ Mt.octs dp 2 = L := ⟨_, rfl⟩
  rw [e4] at p4 ⊢
  have hl4 : L4.length = 12 := by rw [← e4, ← e3, ← e2, ← e1]; simp [l1, l2, l3, l4]
  have P1 := Lib.hid p1
  have P2 := Lib.hid p2
  have P3 := Lib.hid p3
  have P4 := Lib.hid p4
  have Hl := Lib.hid hl4
  clear p1 p2 p3 p4 e1 e2 e3 e4 t hl4 l1 l2 l3 l4
  go_enter Try.func43, Try.ntmps43
  go_wp2_with fail
  refine (P1.out _ _ (own_nil _ _) (by omega) (by omega) (by omega) (by omega) (Nat.le_refl _) (by omega)).mono ?_
  rintro e w1 ⟨a1, c1, rfl, o1, b1⟩
  have O1 := Lib.hid o1; clear o1
  go_wp2_with fail
  refine (P2.out _ _ _ O1.out (by omega) (by omega) (by omega) (by omega) b1.size (by omega)).mono ?_
  rintro e w2 ⟨a2, c2, rfl, o2, b2⟩
  have O2 := Lib.hid o2; clear o2
  have q2 := b1.trans b2
  go_wp2_with fail
  refine (P3.out _ _ _ O2.out (by omega) (by omega) (by omega) (by omega) q2.size (by omega)).mono ?_
  rintro e w3 ⟨a3, c3, rfl, o3, b3⟩
  have O3 := Lib.hid o3; clear o3
  have q3 := q2.trans b3
  go_wp2_with fail
  refine (P4.out _ _ _ O3.out (by omega) (by omega) (by omega) (by omega) q3.size (by omega)).mono ?_
  rintro e w4 ⟨a4, c4, rfl, o4, b4⟩
  have O4 := Lib.hid o4; clear o4
  have q4 := q3.trans b4
  obtain ⟨g, rfl, hg1, hg2⟩ := O4.out.isSome (by rw [Hl.out]; omega)
  go_wp2
  go_ret
  exact ⟨g, c4, rfl, O4.out, q4⟩
end Go.Proofs.Ytokfadlgiimaoaa
