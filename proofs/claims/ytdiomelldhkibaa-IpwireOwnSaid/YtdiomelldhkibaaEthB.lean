/- What ether.Build gives. -/
import Derived.Test.YtdiomelldhkibaaNumE
import Derived.Test.YtdiomelldhkibaaRefEtherB
import Derived.Deep.RegionHeld3
namespace Go.Proofs.Ytdiomelldhkibaa
open Go.RowKit

theorem eth_splices (d s t : Nat) (xs : List Nat) (N : Nat) (hN : N = 14 + xs.length) : splice (splice (splice (splice (List.replicate N 0) 0 (Mt.octs d 6)) 6 (Mt.octs s 6)) 12 (Mt.octs t 2)) 14 xs = ethO d s t xs := by
  have e0 : splice (List.replicate N 0) 0 (Mt.octs d 6) = Mt.octs d 6 ++ (List.replicate N 0).drop 6 := by
    have h := splice_app [] (List.replicate N 0) (Mt.octs d 6) 0 rfl
    rwa [Mt.octs_length, List.nil_append, List.nil_append] at h
  rw [e0, splice_app _ _ _ 6 (Mt.octs_length d 6), Mt.octs_length, List.drop_drop, splice_app _ _ _ 12 (by simp [Mt.octs_length]), Mt.octs_length, List.drop_drop, splice_app _ _ _ 14 (by simp [Mt.octs_length]), List.drop_drop, List.drop_eq_nil_of_le (by rw [List.length_replicate]; omega), List.append_nil]
  rfl

theorem eth_len (d s t : Nat) (xs : List Nat) : (ethO d s t xs).length = 14 + xs.length := by
  unfold ethO; simp [Mt.octs_length]; omega

set_option maxRecDepth 100000 in
set_option maxHeartbeats 2000000 in
theorem ethB_ok (d s t : Nat) (a : Option Addr) (xs : List Nat) (cap : Nat) (w : World) (hd : d ≤ 281474976710655) (hs : s ≤ 281474976710655) (ht : t ≤ 65535) (hx : Bts w a xs) (hl : xs.length ≤ 65521) :
    Calls Try.prog 17 #[.agg #[.int .u64 d, .int .u64 s, .int .i64 t, .slice a xs.length cap]] w fun e w' => ∃ a' cap', e = .returned (.tuple #[.slice a' (ethO d s t xs).length cap', .int .i64 0]) ∧ OwnSl w.heap.size a' (ethO d s t xs) cap' w' ∧ Below w.heap.size w w' := by
  obtain ⟨N, hN⟩ : ∃ N, N = 14 + xs.length := ⟨_, rfl⟩
  have hNu : N ≤ 65535 := by omega
  have hN15 : (14 : Int) ≤ (N : Int) := by omega
  have hN6 : (6 : Int) ≤ (N : Int) := by omega
  have hN12 : (12 : Int) ≤ (N : Int) := by omega
  have hN12' : 12 ≤ N := by omega
  have hN14' : 14 ≤ N := by omega
  have hN6' : 6 ≤ N := by omega
  have n6 : ¬ N = 6 := by omega
  have n12 : ¬ N = 12 := by omega
  have hNi : (14 : Int) + (xs.length : Int) = ((N : Nat) : Int) := by omega
  have hfin := eth_splices d s t xs N hN
  have hlen := eth_len d s t xs
  rw [← hN] at hlen
  obtain ⟨R, hR⟩ : ∃ R, ethO d s t xs = R := ⟨_, rfl⟩
  obtain ⟨A1, h1⟩ : ∃ A, splice (List.replicate N 0) 0 (Mt.octs d 6) = A := ⟨_, rfl⟩
  have l1 : A1.length = N := by rw [← h1, length_splice _ _ _ (by simp [Mt.octs_length]; omega), List.length_replicate]
  obtain ⟨A2, h2⟩ : ∃ A, splice A1 6 (Mt.octs s 6) = A := ⟨_, rfl⟩
  have l2 : A2.length = N := by rw [← h2, length_splice _ _ _ (by simp [Mt.octs_length]; omega), l1]
  obtain ⟨A3, h3⟩ : ∃ A, splice A2 12 (Mt.octs t 2) = A := ⟨_, rfl⟩
  have l3 : A3.length = N := by rw [← h3, length_splice _ _ _ (by simp [Mt.octs_length]; omega), l2]
  rw [h1, h2, h3, hR] at hfin
  rw [hR] at hlen ⊢
  have c1 : ∀ W, OwnSl (w.heap.size + 1) (some ⟨w.heap.size + 1, 0, none⟩) (List.replicate N 0) N W → w.heap.size + 1 ≤ W.heap.size → Calls Try.prog 53 #[.slice (some ⟨w.heap.size + 1, 0, none⟩) 6 N, .int .u64 d] W.drew fun e w' => (∃ v, e = .returned v) ∧ OwnSl (w.heap.size + 1) (some ⟨w.heap.size + 1, 0, none⟩) A1 N w' ∧ Below (w.heap.size + 1) W w' := fun W O hW => layd_ether _ _ 0 N d 6 N _ _ W O (by omega) (by omega) (by omega) (Nat.lt_of_le_of_lt hd (by decide)) (by rw [List.length_replicate]; omega) h1
  have c2 : ∀ W, OwnSl (w.heap.size + 1) (some ⟨w.heap.size + 1, 0, none⟩) A1 N W → w.heap.size + 1 ≤ W.heap.size → Calls Try.prog 53 #[.slice (some ⟨w.heap.size + 1, 6, none⟩) 6 (N - 6), .int .u64 s] W.drew fun e w' => (∃ v, e = .returned v) ∧ OwnSl (w.heap.size + 1) (some ⟨w.heap.size + 1, 0, none⟩) A2 N w' ∧ Below (w.heap.size + 1) W w' := fun W O hW => layd_ether _ _ 6 N s 6 (N - 6) _ _ W O (by omega) (by omega) (by omega) (Nat.lt_of_le_of_lt hs (by decide)) (by rw [l1]; omega) h2
  have c3 : ∀ W, OwnSl (w.heap.size + 1) (some ⟨w.heap.size + 1, 0, none⟩) A2 N W → w.heap.size + 1 ≤ W.heap.size → Calls Try.prog 53 #[.slice (some ⟨w.heap.size + 1, 12, none⟩) 2 (N - 12), .int .u64 t] W.drew fun e w' => (∃ v, e = .returned v) ∧ OwnSl (w.heap.size + 1) (some ⟨w.heap.size + 1, 0, none⟩) A3 N w' ∧ Below (w.heap.size + 1) W w' := fun W O hW => layd_ether _ _ 12 N t 2 (N - 12) _ _ W O (by omega) (by omega) (by omega) (Nat.lt_of_le_of_lt ht (by decide)) (by rw [l2]; omega) h3
  have C1 := Lib.hid c1
  have C2 := Lib.hid c2
  have C3 := Lib.hid c3
  have Hfin := Lib.hid hfin
  have Hlen := Lib.hid hlen
  have HNi := Lib.hid hNi
  have HN := Lib.hid hN
  have L3 := Lib.hid l3
  have X0 := Lib.hid hx
  clear hx hfin hlen hR hN hNi c1 c2 c3 h1 h2 h3 l1 l2 l3
  have bn := blk_new w (.cells #[.int .u64 d, .int .u64 s, .int .i64 t, .slice a xs.length cap] 25)
  have hsz : (w.alloc (.cells #[.int .u64 d, .int .u64 s, .int .i64 t, .slice a xs.length cap] 25)).heap.size = w.heap.size + 1 := by rw [World.size_alloc]
  have bw := (Below.refl _ w).alloc (Nat.le_refl _) (.cells #[.int .u64 d, .int .u64 s, .int .i64 t, .slice a xs.length cap] 25)
  obtain ⟨i0, hi, hz0, hz1, hz2⟩ := info_parts info5
  have Hz := Lib.hid hz2
  have et : IntKind.u64.wrap (t : Int) = (t : Int) := IntWalk.u64_in _ (by omega)
  have K0 := Lib.hid bn
  have HS := Lib.hid hsz
  clear bn hsz
  go_enter Try.func17, Try.ntmps17
  go_wp2_with (at_make; refine wpList_make_full _ rfl _ _ 23 rfl (w.heap.size + 1) 5 i0 (.int .u8 0) 1 Try.underlying23 hi hz0 hz1 .i64 .i64 _ _ N rfl rfl HNi.out HNi.out (by rw [Hz.out]; omega) (by unfold maxLen; omega) (Nat.le_of_eq HS.out.symm) ?_; intro w1 hown hgrow; have b1 := (Below.refl (w.heap.size + 1) _).grown hgrow (Nat.le_of_eq HS.out.symm) (fun k e => by cases e))
  have O1 : Hid (OwnSl (w.heap.size + 1) (some ⟨w.heap.size + 1, 0, none⟩) (List.replicate N 0) N w1) := by rw [HS.out] at hown; exact Lib.hid (own_made hown (Nat.le_refl _))
  have K1 := Lib.hid ((b1.block w.heap.size (Nat.lt_succ_self _)).trans K0.out)
  have r1 := blk_cell K1.out 0
  have S1 : w.heap.size + 1 ≤ w1.heap.size := by have h1 := HS.out; have h2 := b1.size; omega
  have Q1 := Lib.hid (bw.trans (b1.mono (Nat.le_succ _)))
  clear hown hgrow b1 K0 bw
  go_wp2_with fail
  go_region_held3 (fun W => W.cell? ⟨w.heap.size, 0, none⟩ = some (.int .u64 d)) (first | go_keep) (first
    | (go_at_call 53; (with_reducible refine (C1.out _ O1.out S1).mono ?_); rintro e w2 ⟨⟨v1, rfl⟩, Z, b⟩; have k := (b.block w.heap.size (Nat.lt_succ_self _)).trans K1.out; have K2 := Lib.hid k; have O2 := Lib.hid Z; have S2 := Nat.le_trans S1 b.size; have Q2 := Lib.hid (Q1.out.trans (b.mono (Nat.le_succ _))); have r2 := blk_cell k 1; have u2 := blk_cell k 0; clear k Z b))
  clear O1 K1 Q1 C1
  go_wp2_with fail
  go_region_held3 (fun W => W.cell? ⟨w.heap.size, 1, none⟩ = some (.int .u64 s)) (first | go_keep) (first
    | (go_at_call 53; (with_reducible refine (C2.out _ O2.out S2).mono ?_); rintro e w3 ⟨⟨v2, rfl⟩, Z, b⟩; have k := (b.block w.heap.size (Nat.lt_succ_self _)).trans K2.out; have K3 := Lib.hid k; have O3 := Lib.hid Z; have S3 := Nat.le_trans S2 b.size; have Q3 := Lib.hid (Q2.out.trans (b.mono (Nat.le_succ _))); have r3 := blk_cell k 2; have u3 := blk_cell k 1; clear k Z b))
  clear O2 K2 Q2 C2
  go_wp2_with fail
  go_region_held3 (fun W => W.cell? ⟨w.heap.size, 2, none⟩ = some (.int .i64 t)) (first | go_keep) (first
    | (go_at_call 53; (with_reducible refine (C3.out _ O3.out S3).mono ?_); rintro e w4 ⟨⟨v3, rfl⟩, Z, b⟩; have k := (b.block w.heap.size (Nat.lt_succ_self _)).trans K3.out; have K4 := Lib.hid k; have O4 := Lib.hid Z; have S4 := Nat.le_trans S3 b.size; have Q4 := Lib.hid (Q3.out.trans (b.mono (Nat.le_succ _))); have r4 := blk_cell k 3; have u4 := blk_cell k 2; clear k Z b))
  clear O3 K3 Q3 C3
  have X4 := Lib.hid (X0.out.below Q4.out)
  have X5 := Lib.hid (X4.out.below (Below.refl _ _).drew)
  have O5 := Lib.hid (O4.out.below (Below.refl _ _).drew)
  have hle : xs.length ≤ N - 14 := by have := HN.out; omega
  have hfit : 14 + xs.length ≤ A3.length := by have := HN.out; have := L3.out; omega
  clear X0 X4 O4
  by_cases h0 : N = 14
  case' pos =>
    have hl0 : Hid (xs.length = 0) := Lib.hid (by omega)
    subst h0
  all_goals
    go_wp2_with fail
    go_region_held3 (fun W => W.cell? ⟨w.heap.size, 3, none⟩ = some (.slice a xs.length cap)) (first | go_keep) (first
      | (refine step_copy_bts rfl _ _ rfl (w.heap.size + 1) (w.heap.size + 1) 14 _ _ _ rfl rfl rfl hle O5.out X5.out (by first | exact (fun h => absurd hl0.out (Nat.ne_of_gt h)) | exact (fun _ => rfl)) hfit ?_; intro w5 Z bg; have b := O5.out.belowOf bg; have k := (b.block w.heap.size (Nat.lt_succ_self _)).trans K4.out; have u5 := blk_cell k 3; rw [Hfin.out] at Z; have O6 := Lib.hid Z; have Q6 := Lib.hid (Q4.out.drew.trans (b.mono (Nat.le_succ _))); clear k Z b bg))
    go_wp2
    go_ret2
    exact ⟨_, _, by rw [Hlen.out]; rfl, O6.out.mono (Nat.le_succ _), Q6.out⟩
set_option maxHeartbeats 2000000 in
theorem ethB_range (d s : Nat) (t : Int) (a : Option Addr) (n cap : Nat) (w : World) (h : 281474976710655 < d ∨ 281474976710655 < s ∨ t < 0 ∨ 65535 < t) :
    Calls Try.prog 17 #[.agg #[.int .u64 d, .int .u64 s, .int .i64 t, .slice a n cap]] w fun e w' => e = .returned (.tuple #[.slice none 0 0, .int .i64 4]) ∧ Below w.heap.size w w' := by
  have bw := (Below.refl _ w).alloc (Nat.le_refl _) (.cells #[.int .u64 d, .int .u64 s, .int .i64 t, .slice a n cap] 25)
  by_cases h1 : 281474976710655 < d
  · clear h
    go_enter Try.func17, Try.ntmps17
    go_wp2
    go_ret2
    exact ⟨rfl, bw⟩
  · by_cases h2 : 281474976710655 < s
    · clear h
      go_enter Try.func17, Try.ntmps17
      go_wp2
      go_ret2
      exact ⟨rfl, bw⟩
    · by_cases h3 : t < 0
      · clear h
        go_enter Try.func17, Try.ntmps17
        go_wp2
        go_ret2
        exact ⟨rfl, bw⟩
      · have h4 : 65535 < t := by omega
        clear h
        go_enter Try.func17, Try.ntmps17
        go_wp2
        go_ret2
        exact ⟨rfl, bw⟩

set_option maxHeartbeats 2000000 in
theorem ethB_long (d s : Nat) (t : Int) (a : Option Addr) (n cap : Nat) (w : World) (hd : d ≤ 281474976710655) (hs : s ≤ 281474976710655) (ht0 : 0 ≤ t) (ht : t ≤ 65535) (hl : 65521 < n) :
    Calls Try.prog 17 #[.agg #[.int .u64 d, .int .u64 s, .int .i64 t, .slice a n cap]] w fun e w' => e = .returned (.tuple #[.slice none 0 0, .int .i64 5]) ∧ Below w.heap.size w w' := by
  have bw := (Below.refl _ w).alloc (Nat.le_refl _) (.cells #[.int .u64 d, .int .u64 s, .int .i64 t, .slice a n cap] 25)
  go_enter Try.func17, Try.ntmps17
  go_wp2
  go_ret2
  exact ⟨rfl, bw⟩
end Go.Proofs.Ytdiomelldhkibaa
