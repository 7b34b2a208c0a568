/- The shard of a hash, by the document's own answer. -/
import Derived.Test.YtpdlmgafkjmjpaaToRef
namespace Go.Proofs.Ytpdlmgafkjmjpaa
open Go.RowKit

set_option maxRecDepth 100000 in
set_option maxHeartbeats 1000000 in
theorem refck_any (ka : Option Addr) (ks : List Nat) (kc : Nat) (a : Option Addr) (ts : List Int) (cap : Nat) (w : World) (hx : Its w a ts) (hl : ts.length ≤ 9223372036854775807) :
    Calls Try.prog 46 #[.slice ka ks.length kc, .slice a ts.length cap] w fun e w' => e = .returned (.int .i64 (ckE ks ts)) ∧ Below w.heap.size w w' := by
  have hc := refct_any a ts cap w hx hl
  have HC := Lib.hid hc
  by_cases h : ks.length = 40
  · have he : ckE ks ts = ctE ts := if_pos h
    rw [he, h]
    clear hc hx he h hl
    go_enter Try.func46, Try.ntmps46
    go_wp2_with fail
    refine HC.out.mono ?_
    rintro e w' ⟨rfl, b⟩
    go_wp2
    go_ret
    exact ⟨rfl, b⟩
  · have he : ckE ks ts = 3 := if_neg h
    rw [he]
    have hl2 : ((ks.length : Int) != 40) = true := by rw [bne_iff_ne]; omega
    have hl3 : ((ks.length : Int) == 40) = false := by rw [beq_eq_false_iff_ne]; omega
    clear hc hx he h hl HC
    go_enter Try.func46, Try.ntmps46
    go_wp2
    go_ret
    exact ⟨rfl, Below.refl _ _⟩

set_option maxRecDepth 100000 in
set_option maxHeartbeats 1000000 in
theorem refsh_any (a : Option Addr) (ts : List Int) (cap h : Nat) (w : World) (hx : Its w a ts) (hl : ts.length ≤ 9223372036854775807) (hh : h < 4294967296) :
    Calls Try.prog 43 #[.slice a ts.length cap, .int .u32 h] w fun e w' => e = .returned (.tuple #[.int .i64 (shV ts h), .int .i64 (ctE ts)]) ∧ Below w.heap.size w w' := by
  have hc := refct_any a ts cap w hx hl
  by_cases h0 : ctE ts = 0
  · have he : shV ts h = ts.getD (h % 128) 0 := if_pos h0
    have h128 := (ctE_zero h0).1
    have HX := Lib.hid hx
    rw [he]
    rw [h0] at hc ⊢
    rw [h128] at hc ⊢
    have HC := Lib.hid hc
    obtain ⟨m, hm⟩ : ∃ m, h % 128 = m := ⟨_, rfl⟩
    have hm1 : (h : Int) % 128 = (m : Int) := by omega
    have hm2 : m < 128 := by omega
    rw [hm]
    have H128 := Lib.hid h128
    clear hc hx he h0 h128 hl hm
    go_enter Try.func43, Try.ntmps43
    go_wp2_with fail
    refine HC.out.mono ?_
    rintro e w' ⟨rfl, b⟩
    obtain ⟨bl, off, rfl, _, hcell⟩ := (HX.out.below b).isSome (by have := H128.out; omega)
    have hc1 := hcell m (by have := H128.out; omega)
    obtain ⟨t, ht⟩ : ∃ t, ts.getD m 0 = t := ⟨_, rfl⟩
    rw [ht] at hc1
    have Ht := Lib.hid ht
    clear hcell ht
    go_wp2
    go_ret2
    exact ⟨by rw [Ht.out]; rfl, b⟩
  · have he : shV ts h = 0 := if_neg h0
    rw [he]
    have HC := Lib.hid hc
    generalize ctE ts = er at h0 HC ⊢
    have n1 : (er != 0) = true := by rw [bne_iff_ne]; exact h0
    have n2 : (er == 0) = false := by rw [beq_eq_false_iff_ne]; exact h0
    clear hc hx he hl
    go_enter Try.func43, Try.ntmps43
    go_wp2_with fail
    refine HC.out.mono ?_
    rintro e w' ⟨rfl, b⟩
    go_wp2
    go_ret2
    exact ⟨rfl, b⟩
end Go.Proofs.Ytpdlmgafkjmjpaa
