/- The port that is chosen, every way. -/
import Derived.Test.YtpdlmgafkjmjpaaToPort
import Derived.Test.YtpdlmgafkjmjpaaToPortB
namespace Go.Proofs.Ytpdlmgafkjmjpaa
open Go.RowKit

/-- The error of Port, and its answer. -/
def ptE (ks : List Nat) (ts : List Int) (shard : Int) (frm : Nat) (o : Option Nat) : Int := if ckE ks ts = 0 then (if PtIn shard frm then portE o else 4) else ckE ks ts
def ptV (ks : List Nat) (ts : List Int) (shard : Int) (frm : Nat) (o : Option Nat) : Nat := if ckE ks ts = 0 then (if PtIn shard frm then portV o frm else 0) else 0

theorem ckE_zero {ks : List Nat} {ts : List Int} (h : ckE ks ts = 0) : ks.length = 40 ∧ ctE ts = 0 := by
  unfold ckE at h
  split at h
  · next h40 => exact ⟨h40, h⟩
  · cases h

theorem port_all (ka : Option Addr) (ks : List Nat) (kc : Nat) (ta : Option Addr) (ts : List Int) (tc : Nat) (loc rem rp : Nat) (shard : Int) (frm : Nat) (w : World)
    (hk : Bts w ka ks) (hkc : ks.length ≤ kc) (hkm : kc ≤ 9223372036854775807) (ht : Its w ta ts) (hl : ts.length ≤ 9223372036854775807) (hf2 : frm < 65536)
    (hloc : loc < 4294967296) (hrem : rem < 4294967296) (hrp : rp < 65536) (o : Option Nat) (ho : portF (hitp ks ts loc rem rp shard) frm 32768 = o) :
    Calls Try.prog 51 #[.slice ka ks.length kc, .slice ta ts.length tc, .int .u32 loc, .int .u32 rem, .int .u16 rp, .int .i64 shard, .int .u16 frm] w fun e w' => e = .returned (.tuple #[.int .u16 (ptV ks ts shard frm o : Nat), .int .i64 (ptE ks ts shard frm o)]) ∧ Below w.heap.size w w' := by
  by_cases hck : ckE ks ts = 0
  · obtain ⟨h40, hct⟩ := ckE_zero hck
    by_cases hin : PtIn shard frm
    · have e1 : ptE ks ts shard frm o = portE o := by unfold ptE; rw [if_pos hck, if_pos hin]
      have e2 : ptV ks ts shard frm o = portV o frm := by unfold ptV; rw [if_pos hck, if_pos hin]
      rw [e1, e2]
      obtain ⟨b, off, rfl, _, _⟩ := hk.isSome (by omega)
      exact port_ok b off ks kc ta ts tc loc rem rp shard frm w hk h40 hkc hkm ht hl hct hin.1.1 hin.1.2 hin.2 hf2 hloc hrem hrp o ho
    · have e1 : ptE ks ts shard frm o = 4 := by unfold ptE; rw [if_pos hck, if_neg hin]
      have e2 : ptV ks ts shard frm o = 0 := by unfold ptV; rw [if_pos hck, if_neg hin]
      rw [e1, e2]
      exact port_in ka ks kc ta ts tc loc rem rp shard frm w ht hl hck hin hf2
  · have e1 : ptE ks ts shard frm o = ckE ks ts := by unfold ptE; rw [if_neg hck]
    have e2 : ptV ks ts shard frm o = 0 := by unfold ptV; rw [if_neg hck]
    rw [e1, e2]
    exact port_ck ka ks kc ta ts tc loc rem rp shard frm w ht hl hck

theorem refport_all (ka : Option Addr) (ks : List Nat) (kc : Nat) (ta : Option Addr) (ts : List Int) (tc : Nat) (loc rem rp : Nat) (shard : Int) (frm : Nat) (w : World)
    (hk : Bts w ka ks) (ht : Its w ta ts) (hl : ts.length ≤ 9223372036854775807) (hf2 : frm < 65536)
    (hloc : loc < 4294967296) (hrem : rem < 4294967296) (hrp : rp < 65536) (o : Option Nat) (ho : portF (hitp ks ts loc rem rp shard) frm 32768 = o) :
    Calls Try.prog 52 #[.slice ka ks.length kc, .slice ta ts.length tc, .int .u32 loc, .int .u32 rem, .int .u16 rp, .int .i64 shard, .int .u16 frm] w fun e w' => e = .returned (.tuple #[.int .u16 (ptV ks ts shard frm o : Nat), .int .i64 (ptE ks ts shard frm o)]) ∧ Below w.heap.size w w' := by
  by_cases hck : ckE ks ts = 0
  · obtain ⟨h40, hct⟩ := ckE_zero hck
    by_cases hin : PtIn shard frm
    · have e1 : ptE ks ts shard frm o = portE o := by unfold ptE; rw [if_pos hck, if_pos hin]
      have e2 : ptV ks ts shard frm o = portV o frm := by unfold ptV; rw [if_pos hck, if_pos hin]
      rw [e1, e2]
      exact refport_ok ka ks kc ta ts tc loc rem rp shard frm w hk h40 ht hl hct hin.1.1 hin.1.2 hin.2 hf2 hloc hrem hrp o ho
    · have e1 : ptE ks ts shard frm o = 4 := by unfold ptE; rw [if_pos hck, if_neg hin]
      have e2 : ptV ks ts shard frm o = 0 := by unfold ptV; rw [if_pos hck, if_neg hin]
      rw [e1, e2]
      exact refport_in ka ks kc ta ts tc loc rem rp shard frm w ht hl hck hin hf2
  · have e1 : ptE ks ts shard frm o = ckE ks ts := by unfold ptE; rw [if_neg hck]
    have e2 : ptV ks ts shard frm o = 0 := by unfold ptV; rw [if_neg hck]
    rw [e1, e2]
    exact refport_ck ka ks kc ta ts tc loc rem rp shard frm w ht hl hck

/-- What is chosen for a shard comes to it. -/
theorem pt_owns (ks : List Nat) (ts : List Int) (loc rem rp : Nat) (shard : Int) (frm : Nat) (o : Option Nat) (ho : portF (hitp ks ts loc rem rp shard) frm 32768 = o) (h : ptE ks ts shard frm o = 0) :
    ckE ks ts = 0 ∧ 32768 ≤ ptV ks ts shard frm o ∧ ptV ks ts shard frm o < 65536 ∧ ts.getD (th ks (tup rem loc rp (ptV ks ts shard frm o)) 96 % 128) 0 = shard := by
  have hck : ckE ks ts = 0 := by
    unfold ptE at h
    split at h
    · next hc => exact hc
    · exact h
  have hin : PtIn shard frm := by
    by_cases hin : PtIn shard frm
    · exact hin
    · unfold ptE at h
      rw [if_pos hck, if_neg hin] at h
      cases h
  have e2 : ptV ks ts shard frm o = portV o frm := by unfold ptV; rw [if_pos hck, if_pos hin]
  have e1 : ptE ks ts shard frm o = portE o := by unfold ptE; rw [if_pos hck, if_pos hin]
  rw [e1] at h
  cases o with
  | none => cases h
  | some k =>
    have hs := firstAt_spec _ _ _ ho
    have hl := tport_lt frm k
    rw [e2]
    refine ⟨hck, hl.1, hl.2, ?_⟩
    have h2 := hs.2
    unfold hitp at h2
    exact beq_iff_eq.1 h2

theorem pt_zero (ks : List Nat) (ts : List Int) (shard : Int) (frm : Nat) (o : Option Nat) (h : ptE ks ts shard frm o ≠ 0) : ptV ks ts shard frm o = 0 := by
  unfold ptE at h
  unfold ptV
  split
  · next hc =>
    rw [if_pos hc] at h
    split
    · next hin =>
      rw [if_pos hin] at h
      cases o with
      | none => rfl
      | some k => exact absurd rfl h
    · rfl
  · rfl

theorem ptV_lt (ks : List Nat) (ts : List Int) (shard : Int) (frm : Nat) (o : Option Nat) : ptV ks ts shard frm o < 65536 := by
  unfold ptV
  split
  · split
    · cases o with
      | none => show 0 < 65536; omega
      | some k => exact (tport_lt frm k).2
    · decide
  · decide
end Go.Proofs.Ytpdlmgafkjmjpaa
