/- Where no port is chosen. -/
import Derived.Test.YtpdlmgafkjmjpaaToPortR
namespace Go.Proofs.Ytpdlmgafkjmjpaa
open Go.RowKit Go.Shelf

attribute [local go_sem] Oper.semAt_some

set_option maxRecDepth 100000 in
set_option maxHeartbeats 1000000 in
theorem port_ck (ka : Option Addr) (ks : List Nat) (kc : Nat) (ta : Option Addr) (ts : List Int) (tc : Nat) (loc rem rp : Nat) (shard : Int) (frm : Nat) (w : World) (ht : Its w ta ts) (hl : ts.length ≤ 9223372036854775807) (hck : ckE ks ts ≠ 0) :
    Calls Try.prog 51 #[.slice ka ks.length kc, .slice ta ts.length tc, .int .u32 loc, .int .u32 rem, .int .u16 rp, .int .i64 shard, .int .u16 frm] w fun e w' => e = .returned (.tuple #[.int .u16 0, .int .i64 (ckE ks ts)]) ∧ Below w.heap.size w w' := by
  have hc := fun W hW => checkT_any ka ks kc ta ts tc W (ht.below (w' := W) hW) hl
  generalize ckE ks ts = er at hc hck ⊢
  have HC := Lib.hid hc
  have n1 : (er != 0) = true := by rw [bne_iff_ne]; exact hck
  have n2 : (er == 0) = false := by rw [beq_eq_false_iff_ne]; exact hck
  clear hc ht hl
  refine (callsIn_wide (n := 5)).1 ?_
  refine callsIn_of_wp_marks Try.func51 rfl trivial ?_ rfl
  simp only [Try.ntmps51, List.size_toArray, List.length_cons, List.length_nil, Nat.reduceAdd, Nat.reduceSub, Array.replicate_succ, Array.replicate_zero, List.push_toArray, List.append_toArray, List.nil_append, List.cons_append]
  gi_wp2_with (fail)
  refine ⟨trivial, ?_⟩
  refine (callsIn_wide.2 (HC.out _ ?_)).mono ?_
  · exact (((((((Below.refl _ _).alloc (Nat.le_refl _) _).alloc (by simp) _).alloc (by simp; omega) _).alloc (by simp; omega) _).alloc (by simp; omega) _).alloc (by simp; omega) _).alloc (by simp; omega) _
  rintro e w' ⟨rfl, rfl⟩
  gi_wp2
  refine ⟨.tuple #[.int .u16 0, .int .i64 er], ?_, rfl, (((((((Below.refl _ _).alloc (Nat.le_refl _) _).alloc (by simp) _).alloc (by simp; omega) _).alloc (by simp; omega) _).alloc (by simp; omega) _).alloc (by simp; omega) _).alloc (by simp; omega) _⟩
  simp only [results, Try.f51]
  go_simp

set_option maxRecDepth 100000 in
set_option maxHeartbeats 1000000 in
theorem port_in (ka : Option Addr) (ks : List Nat) (kc : Nat) (ta : Option Addr) (ts : List Int) (tc : Nat) (loc rem rp : Nat) (shard : Int) (frm : Nat) (w : World) (ht : Its w ta ts) (hl : ts.length ≤ 9223372036854775807) (hck : ckE ks ts = 0) (hin : ¬ PtIn shard frm) (hf2 : frm < 65536) :
    Calls Try.prog 51 #[.slice ka ks.length kc, .slice ta ts.length tc, .int .u32 loc, .int .u32 rem, .int .u16 rp, .int .i64 shard, .int .u16 frm] w fun e w' => e = .returned (.tuple #[.int .u16 0, .int .i64 4]) ∧ Below w.heap.size w w' := by
  have hc := fun W hW => checkT_any ka ks kc ta ts tc W (ht.below (w' := W) hW) hl
  have hS := fun W => isShard_any shard W
  rw [hck] at hc
  have HC := Lib.hid hc
  obtain ⟨fi, hfe⟩ : ∃ fi : Int, (frm : Int) = fi := ⟨_, rfl⟩
  by_cases h1 : 0 ≤ shard ∧ shard < 16
  · have h3 : fi < 32768 := by
      by_cases h3 : 32768 ≤ frm
      · exact absurd ⟨h1, h3⟩ hin
      · omega
    rw [hfe]
    rw [decide_eq_true h1] at hS
    have HS := Lib.hid hS
    clear hc hS ht hl hck hin hfe hf2 h1
    refine (callsIn_wide (n := 5)).1 ?_
    refine callsIn_of_wp_marks Try.func51 rfl trivial ?_ rfl
    simp only [Try.ntmps51, List.size_toArray, List.length_cons, List.length_nil, Nat.reduceAdd, Nat.reduceSub, Array.replicate_succ, Array.replicate_zero, List.push_toArray, List.append_toArray, List.nil_append, List.cons_append]
    gi_wp2_with (fail)
    refine ⟨trivial, ?_⟩
    refine (callsIn_wide.2 (HC.out _ ?_)).mono ?_
    · exact (((((((Below.refl _ _).alloc (Nat.le_refl _) _).alloc (by simp) _).alloc (by simp; omega) _).alloc (by simp; omega) _).alloc (by simp; omega) _).alloc (by simp; omega) _).alloc (by simp; omega) _
    rintro e w' ⟨rfl, rfl⟩
    gi_wp2_with (fail)
    refine ⟨trivial, ?_⟩
    refine (callsIn_wide.2 (HS.out _)).mono ?_
    rintro e w' ⟨rfl, rfl⟩
    gi_wp2
    refine ⟨.tuple #[.int .u16 0, .int .i64 4], ?_, rfl, (((((((Below.refl _ _).alloc (Nat.le_refl _) _).alloc (by simp) _).alloc (by simp; omega) _).alloc (by simp; omega) _).alloc (by simp; omega) _).alloc (by simp; omega) _).alloc (by simp; omega) _⟩
    simp only [results, Try.f51]
    go_simp
  · rw [hfe]
    rw [decide_eq_false h1] at hS
    have HS := Lib.hid hS
    clear hc hS ht hl hck hin hfe hf2 h1
    refine (callsIn_wide (n := 5)).1 ?_
    refine callsIn_of_wp_marks Try.func51 rfl trivial ?_ rfl
    simp only [Try.ntmps51, List.size_toArray, List.length_cons, List.length_nil, Nat.reduceAdd, Nat.reduceSub, Array.replicate_succ, Array.replicate_zero, List.push_toArray, List.append_toArray, List.nil_append, List.cons_append]
    gi_wp2_with (fail)
    refine ⟨trivial, ?_⟩
    refine (callsIn_wide.2 (HC.out _ ?_)).mono ?_
    · exact (((((((Below.refl _ _).alloc (Nat.le_refl _) _).alloc (by simp) _).alloc (by simp; omega) _).alloc (by simp; omega) _).alloc (by simp; omega) _).alloc (by simp; omega) _).alloc (by simp; omega) _
    rintro e w' ⟨rfl, rfl⟩
    gi_wp2_with (fail)
    refine ⟨trivial, ?_⟩
    refine (callsIn_wide.2 (HS.out _)).mono ?_
    rintro e w' ⟨rfl, rfl⟩
    gi_wp2
    refine ⟨.tuple #[.int .u16 0, .int .i64 4], ?_, rfl, (((((((Below.refl _ _).alloc (Nat.le_refl _) _).alloc (by simp) _).alloc (by simp; omega) _).alloc (by simp; omega) _).alloc (by simp; omega) _).alloc (by simp; omega) _).alloc (by simp; omega) _⟩
    simp only [results, Try.f51]
    go_simp
end Go.Proofs.Ytpdlmgafkjmjpaa
