/- ParseInt answers the number whose decimal form its text is, and else ErrDigit. -/
import Derived.Test.YtfaokmmkgodfiaaText
import Derived.Test.YtfaokmmkgodfiaaDecimal
namespace Go.Proofs.Ytfaokmmkgodfiaa
open Go.RowKit

/-- A text's figures as a number, whatever they are. -/
def figsI (l : List UInt8) : Int := l.foldl (fun n b => 10 * n + (b.toNat : Int) - 48) 0

theorem figsI_snoc (l : List UInt8) (b : UInt8) : figsI (l ++ [b]) = 10 * figsI l + (b.toNat : Int) - 48 := by simp [figsI]

/-- The number that ParseInt reckons ahead of its look at Decimal. -/
def parsed (s : ByteArray) : Int := wrap64 (if hasMinus s = true then - figsI (restOf s).data.toList else figsI (restOf s).data.toList)

/-- What ParseInt answers. -/
def ParseAns (s : ByteArray) (w : World) (e : Ending) (w' : World) : Prop :=
  e = (if strO (Mt.dec (parsed s)) = s then .returned (.tuple #[.int .i64 (parsed s), .int .i64 0]) else .returned (.tuple #[.int .i64 0, .int .i64 11])) ∧ Below w.heap.size w w'

theorem text_inj {a b : ByteArray} (h : a.toList = b.toList) : a = b := by
  rw [ByteArray.toList_eq, ByteArray.toList_eq] at h
  exact ByteArray.ext (Array.toList_inj.1 h)

theorem wrap_twice (x : Int) : wrap64 (wrap64 x) = wrap64 x := by unfold wrap64; omega
theorem wrap_neg (x : Int) : wrap64 (-wrap64 x) = wrap64 (-x) := by unfold wrap64; omega
theorem wrap_fold (x b : Int) : wrap64 (wrap64 (wrap64 (10 * wrap64 x) + b) - 48) = wrap64 (10 * x + b - 48) := by unfold wrap64; omega

theorem take_byte (s : ByteArray) (k : Nat) (h : k < s.size) : s.data.toList.take (k + 1) = s.data.toList.take k ++ [s[k]] := by
  rw [List.take_succ_eq_append_getElem (by simpa using h)]; rfl

theorem parsed_in (s : ByteArray) : -9223372036854775808 ≤ parsed s ∧ parsed s ≤ 9223372036854775807 := by
  unfold parsed
  generalize (if hasMinus s = true then - figsI (restOf s).data.toList else figsI (restOf s).data.toList) = x
  unfold wrap64
  omega

theorem rest_size (s : ByteArray) : (restOf s).size ≤ s.size := by
  unfold restOf
  split
  · simp
  · omega

set_option maxHeartbeats 1000000 in
theorem parse_any (s : ByteArray) (w : World) (hs : s.size ≤ 9223372036854775807) :
    Calls Try.prog 11 #[.string s] w (ParseAns s w) := by
  have hrs := rest_size s
  obtain ⟨hp1, hp2⟩ := parsed_in s
  have hpd : parsed s = wrap64 (if hasMinus s = true then - figsI (restOf s).data.toList else figsI (restOf s).data.toList) := rfl
  have hcut := cutPrefix_two s w hs
  obtain ⟨p, hp⟩ : ∃ p, parsed s = p := ⟨_, rfl⟩
  obtain ⟨r, hr⟩ : ∃ r, restOf s = r := ⟨_, rfl⟩
  obtain ⟨t, ht⟩ : ∃ t, hasMinus s = t := ⟨_, rfl⟩
  have goal : ∀ e w', (e = (if strO (Mt.dec p) = s then .returned (.tuple #[.int .i64 p, .int .i64 0]) else .returned (.tuple #[.int .i64 0, .int .i64 11])) ∧ Below w.heap.size w w') → ParseAns s w e w' := fun e w' h => by unfold ParseAns; rw [hp]; exact h
  rw [hp, hr, ht] at hpd
  rw [hr, ht] at hcut
  rw [hr] at hrs
  rw [hp] at hp1 hp2
  have hdec := decimal_any p hp1 hp2 w
  obtain ⟨d, hd⟩ : ∃ d, strO (Mt.dec p) = d := ⟨_, rfl⟩
  rw [hd] at hdec goal
  refine Calls.mono ?_ goal
  have Hpd := Lib.hid hpd
  have Hcut := Lib.hid hcut
  have Hdec := Lib.hid hdec
  clear goal hp hr ht hd hpd hcut hdec
  cases t with
  | true =>
    have hqp : p = wrap64 (-wrap64 (figsI r.data.toList)) := by
      have h := Hpd.out
      simp only [if_true] at h
      rw [h]; exact (wrap_neg _).symm
    have Hqp := Lib.hid hqp; clear hqp Hpd
    by_cases hds : d = s
    · subst hds
      go_enter Try.func11, Try.ntmps11
      go_wp2_with (go_at_call 26; refine Hcut.out.mono ?_; rintro e w' ⟨rfl, rfl⟩)
      go_loop [4, 15, 7] (fun n i _ => ∃ k : Nat, k ≤ r.size ∧ i = .int .i64 k ∧ n = .int .i64 (wrap64 (figsI (r.data.toList.take k)))) (fun _ i _ => r.size - (intOf i).toNat)
      case atStart => exact ⟨0, by omega, rfl, by simp [figsI, wrap64]⟩
      case round =>
        obtain ⟨k, hk, rfl, rfl⟩ := hrel
        by_cases hlt : k < r.size
        · have hb := (r[k]).toNat_lt
          have hsn := figsI_snoc (r.data.toList.take k) r[k]
          rw [← take_byte r k hlt] at hsn
          have Hsn := Lib.hid hsn; clear hsn
          go_wp2
          go_round
          case rel => exact ⟨k + 1, by omega, by go_num, by rw [Hsn.out, wrap_fold]⟩
          case measure => simp [intOf]; omega
        · obtain rfl : k = r.size := by omega
          have hqp := Hqp.out
          have htk : r.data.toList.take r.size = r.data.toList := List.take_of_length_le (by simp)
          rw [htk]; clear htk
          generalize wrap64 (figsI r.data.toList) = q at hqp
          have e1 := hqp.symm; clear hqp
          go_wp2_with (go_at_call 17; refine Hdec.out.mono ?_; rintro e w' ⟨rfl, hb⟩)
          go_ret2
          exact ⟨rfl, hb⟩
    · have hno1 : (d.toList == s.toList) = false := by
        rw [beq_eq_false_iff_ne]; exact fun h => hds (text_inj h)
      have Hds := Lib.hid hds; clear hds
      go_enter Try.func11, Try.ntmps11
      go_wp2_with (go_at_call 26; refine Hcut.out.mono ?_; rintro e w' ⟨rfl, rfl⟩)
      go_loop [4, 15, 7] (fun n i _ => ∃ k : Nat, k ≤ r.size ∧ i = .int .i64 k ∧ n = .int .i64 (wrap64 (figsI (r.data.toList.take k)))) (fun _ i _ => r.size - (intOf i).toNat)
      case atStart => exact ⟨0, by omega, rfl, by simp [figsI, wrap64]⟩
      case round =>
        obtain ⟨k, hk, rfl, rfl⟩ := hrel
        by_cases hlt : k < r.size
        · have hb := (r[k]).toNat_lt
          have hsn := figsI_snoc (r.data.toList.take k) r[k]
          rw [← take_byte r k hlt] at hsn
          have Hsn := Lib.hid hsn; clear hsn
          go_wp2
          go_round
          case rel => exact ⟨k + 1, by omega, by go_num, by rw [Hsn.out, wrap_fold]⟩
          case measure => simp [intOf]; omega
        · obtain rfl : k = r.size := by omega
          have hqp := Hqp.out
          have htk : r.data.toList.take r.size = r.data.toList := List.take_of_length_le (by simp)
          rw [htk]; clear htk
          generalize wrap64 (figsI r.data.toList) = q at hqp
          have e1 := hqp.symm; clear hqp
          go_wp2_with (go_at_call 17; refine Hdec.out.mono ?_; rintro e w' ⟨rfl, hb⟩)
          go_ret2
          exact ⟨rfl, hb⟩
  | false =>
    have hqp : p = wrap64 (figsI r.data.toList) := by
      have h := Hpd.out
      simp only [Bool.false_eq_true, if_false] at h
      exact h
    have Hqp := Lib.hid hqp; clear hqp Hpd
    by_cases hds : d = s
    · subst hds
      go_enter Try.func11, Try.ntmps11
      go_wp2_with (go_at_call 26; refine Hcut.out.mono ?_; rintro e w' ⟨rfl, rfl⟩)
      go_loop [4, 15, 7] (fun n i _ => ∃ k : Nat, k ≤ r.size ∧ i = .int .i64 k ∧ n = .int .i64 (wrap64 (figsI (r.data.toList.take k)))) (fun _ i _ => r.size - (intOf i).toNat)
      case atStart => exact ⟨0, by omega, rfl, by simp [figsI, wrap64]⟩
      case round =>
        obtain ⟨k, hk, rfl, rfl⟩ := hrel
        by_cases hlt : k < r.size
        · have hb := (r[k]).toNat_lt
          have hsn := figsI_snoc (r.data.toList.take k) r[k]
          rw [← take_byte r k hlt] at hsn
          have Hsn := Lib.hid hsn; clear hsn
          go_wp2
          go_round
          case rel => exact ⟨k + 1, by omega, by go_num, by rw [Hsn.out, wrap_fold]⟩
          case measure => simp [intOf]; omega
        · obtain rfl : k = r.size := by omega
          have hqp := Hqp.out
          have htk : r.data.toList.take r.size = r.data.toList := List.take_of_length_le (by simp)
          rw [htk]; clear htk
          generalize wrap64 (figsI r.data.toList) = q at hqp
          obtain rfl := hqp
          go_wp2_with (go_at_call 17; refine Hdec.out.mono ?_; rintro e w' ⟨rfl, hb⟩)
          go_ret2
          exact ⟨rfl, hb⟩
    · have hno1 : (d.toList == s.toList) = false := by
        rw [beq_eq_false_iff_ne]; exact fun h => hds (text_inj h)
      have Hds := Lib.hid hds; clear hds
      go_enter Try.func11, Try.ntmps11
      go_wp2_with (go_at_call 26; refine Hcut.out.mono ?_; rintro e w' ⟨rfl, rfl⟩)
      go_loop [4, 15, 7] (fun n i _ => ∃ k : Nat, k ≤ r.size ∧ i = .int .i64 k ∧ n = .int .i64 (wrap64 (figsI (r.data.toList.take k)))) (fun _ i _ => r.size - (intOf i).toNat)
      case atStart => exact ⟨0, by omega, rfl, by simp [figsI, wrap64]⟩
      case round =>
        obtain ⟨k, hk, rfl, rfl⟩ := hrel
        by_cases hlt : k < r.size
        · have hb := (r[k]).toNat_lt
          have hsn := figsI_snoc (r.data.toList.take k) r[k]
          rw [← take_byte r k hlt] at hsn
          have Hsn := Lib.hid hsn; clear hsn
          go_wp2
          go_round
          case rel => exact ⟨k + 1, by omega, by go_num, by rw [Hsn.out, wrap_fold]⟩
          case measure => simp [intOf]; omega
        · obtain rfl : k = r.size := by omega
          have hqp := Hqp.out
          have htk : r.data.toList.take r.size = r.data.toList := List.take_of_length_le (by simp)
          rw [htk]; clear htk
          generalize wrap64 (figsI r.data.toList) = q at hqp
          obtain rfl := hqp
          go_wp2_with (go_at_call 17; refine Hdec.out.mono ?_; rintro e w' ⟨rfl, hb⟩)
          go_ret2
          exact ⟨rfl, hb⟩
end Go.Proofs.Ytfaokmmkgodfiaa
