/- The walk of the document's ParseInt. -/
import Derived.Test.YtfaokmmkgodfiaaRefParse
namespace Go.Proofs.Ytfaokmmkgodfiaa
open Go.RowKit

set_option maxHeartbeats 2000000 in
theorem refparse_minus (s : ByteArray) (w : World) (hs : s.size ≤ 1048576) (hm : hasMinus s = true) :
    Calls Try.prog 12 #[.string s] w (ParseAns s w) := by
  have hform : Form s → (1 ≤ (restOf s).size ∧ (restOf s).size ≤ 19) ∧ (∀ i, i < (restOf s).size → 48 ≤ byteAt (restOf s) i ∧ byteAt (restOf s) i ≤ 57) ∧ natF (restOf s).data.toList = (parsed s).natAbs ∧ (hasMinus s = true ↔ parsed s < 0) := fun h => dec_form s (parsed s) (parsed_in s).1 (parsed_in s).2 h
  have hpin := parsed_in s
  have hsz := rest_size_minus s hm
  have hb0 := ((hasMinus_byte s).1 hm).2
  have hby : ∀ i, byteAt s (i + 1) = byteAt (restOf s) i := fun i => (rest_byte_minus s hm i).symm
  obtain ⟨r, hr⟩ : ∃ r, restOf s = r := ⟨_, rfl⟩
  obtain ⟨p, hp⟩ : ∃ p, parsed s = p := ⟨_, rfl⟩
  have hok : ∀ n, -9223372036854775808 ≤ n → n ≤ 9223372036854775807 → strO (Mt.dec n) = s → ∀ w', Below w.heap.size w w' → ParseAns s w (.returned (.tuple #[.int .i64 n, .int .i64 0])) w' := fun n h1 h2 h w' hb => ans_ok s n w w' h1 h2 h hb
  have hpf : Form s → strO (Mt.dec p) = s := fun h => by rw [← hp]; exact h
  rw [hr] at hsz hby
  rw [hr, hp] at hform
  rw [hp] at hpin
  obtain ⟨R, hR⟩ : ∃ R, r.size = R := ⟨_, rfl⟩
  rw [hR] at hsz hform
  have hsz1 : s.size ≤ R + 1 := by omega
  have hsz2 : R + 1 ≤ s.size := by omega
  have Hform := Lib.hid hform
  have Hok := Lib.hid hok
  have Hpf := Lib.hid hpf
  have HR := Lib.hid hR
  have Hm := Lib.hid hm
  have Hby := Lib.hid hby
  have Hpin := Lib.hid hpin
  clear hform hok hpf hR hr hp hm hby hpin hsz
  have b0 : ∀ h, (s[0]'h).toNat = 45 := fun h => by rw [byteAt_eq s 0 h]; exact hb0
  clear hb0
  by_cases hR1 : 1 ≤ R
  · by_cases hR2 : R ≤ 19
    · go_enter Try.func12, Try.ntmps12
      go_wp2
      go_loop [5, 6] (fun m i => ∃ k : Nat, k ≤ R ∧ i = .int .i64 ((k : Int) + 1) ∧ natF (r.data.toList.take k) < 10 ^ k ∧ m = .int .u64 (natF (r.data.toList.take k) : Nat)) (fun _ i => s.size - (intOf i).toNat)
      case atStart => exact ⟨0, by omega, by simp, by simp [natF], rfl⟩
      case round =>
        obtain ⟨k, hk, rfl, hmb, rfl⟩ := hrel
        clear b0
        obtain ⟨m, hm⟩ : ∃ m, natF (r.data.toList.take k) = m := ⟨_, rfl⟩
        rw [hm] at hmb ⊢
        by_cases hlt : k < R
        · obtain ⟨c, hc⟩ : ∃ c, byteAt r k = c := ⟨_, rfl⟩
          have hcs : ∀ h, (s[k + 1]'h).toNat = c := fun h => by rw [byteAt_eq s (k + 1) h, Hby.out k, hc]
          have hc256 : c < 256 := by rw [← hc]; exact byteAt_lt r k
          have hm18 : m < 1000000000000000000 := Nat.lt_of_lt_of_le hmb (Nat.le_trans (Nat.pow_le_pow_right (by omega) (show k ≤ 18 by omega)) (by decide))
          have hkr : k < r.size := by have := HR.out; omega
          have hsn := natF_snoc (r.data.toList.take k) r[k]
          rw [← take_byte r k hkr, hm, byteAt_eq r k hkr, hc] at hsn
          have Hsn := Lib.hid hsn
          have Hc := Lib.hid hc
          have Hmb := Lib.hid hmb
          clear hsn hm hc hmb
          by_cases hc1 : c < 48
          · go_wp2
            go_ret2
            exact ans_err s w _ (fun hF => by have := (Hform.out hF).2.1 k hlt; rw [Hc.out] at this; omega) (Below.refl _ _)
          · by_cases hc2 : 57 < c
            · go_wp2
              go_ret2
              exact ans_err s w _ (fun hF => by have := (Hform.out hF).2.1 k hlt; rw [Hc.out] at this; omega) (Below.refl _ _)
            · have hx : (m : Int) * 10 + ((c : Int) - 48) = ((10 * m + (c - 48) : Nat) : Int) := by omega
              go_wp2
              go_round
              case rel => exact ⟨k + 1, by omega, by go_num, by rw [Hsn.out, Nat.pow_succ]; have := Hmb.out; omega, congrArg (Value.int .u64) (by rw [Hsn.out]; omega)⟩
              case measure => simp [intOf]; omega
        · obtain rfl : k = R := by omega
          have hall : r.data.toList.take k = r.data.toList := List.take_of_length_le (by rw [← HR.out]; simp)
          rw [hall] at hm
          have hm19 : m < 10000000000000000000 := Nat.lt_of_lt_of_le hmb (Nat.le_trans (Nat.pow_le_pow_right (by omega) hR2) (by decide))
          have Hmv := Lib.hid hm
          clear hm hall hmb
          by_cases hm0 : 0 < m
          · by_cases hm2 : m ≤ 9223372036854775808
            · obtain ⟨n, hn⟩ : ∃ n : Int, -((m : Int) - 1) - 1 = n := ⟨_, rfl⟩
              have n1 : -9223372036854775808 ≤ n := by omega
              have n2 : n ≤ 9223372036854775807 := by omega
              have hdec := refdec_any n n1 n2 w
              have hans := Hok.out n n1 n2
              have hnp : Form s → n = p := fun hF => by
                have hv := (Hform.out hF).2.2.1
                have hp0 := (Hform.out hF).2.2.2.1 Hm.out
                rw [Hmv.out] at hv
                omega
              obtain ⟨d, hd⟩ : ∃ d, strO (Mt.dec n) = d := ⟨_, rfl⟩
              rw [hd] at hdec hans
              have hpd : Form s → d = s := fun hF => by rw [← hd, hnp hF]; exact Hpf.out hF
              have Hdec := Lib.hid hdec
              have Hans := Lib.hid hans
              have Hpd := Lib.hid hpd
              clear hdec hans hpd hd hnp
              by_cases hds : d = s
              · have hyes : (d.toList == s.toList) = true := by rw [hds]; simp
                have Hds := Lib.hid hds; clear hds
                go_wp2_with (go_at_call 18; refine Hdec.out.mono ?_; rintro e w' ⟨rfl, hb⟩)
                go_ret2
                exact Hans.out Hds.out _ hb
              · have hno1 : (d.toList == s.toList) = false := by
                  rw [beq_eq_false_iff_ne]; exact fun h => hds (text_inj h)
                have Hds := Lib.hid hds; clear hds
                go_wp2_with (go_at_call 18; refine Hdec.out.mono ?_; rintro e w' ⟨rfl, hb⟩)
                go_ret2
                exact ans_err s w _ (fun hF => Hds.out (Hpd.out hF)) hb
            · go_wp2
              go_ret2
              exact ans_err s w _ (fun hF => by have hv := (Hform.out hF).2.2.1; have := Hpin.out; rw [Hmv.out] at hv; omega) (Below.refl _ _)
          · go_wp2
            go_ret2
            exact ans_err s w _ (fun hF => by have hv := (Hform.out hF).2.2.1; have hp0 := (Hform.out hF).2.2.2.1 Hm.out; rw [Hmv.out] at hv; omega) (Below.refl _ _)
    · go_enter Try.func12, Try.ntmps12
      go_wp2
      go_ret2
      exact ans_err s w _ (fun hF => by have := (Hform.out hF).1; omega) (Below.refl _ _)
  · go_enter Try.func12, Try.ntmps12
    go_wp2
    go_ret2
    exact ans_err s w _ (fun hF => by have := (Hform.out hF).1; omega) (Below.refl _ _)

set_option maxRecDepth 100000 in
set_option maxHeartbeats 2000000 in
theorem refparse_plain (s : ByteArray) (w : World) (hs : s.size ≤ 1048576) (hm : ¬ hasMinus s = true) :
    Calls Try.prog 12 #[.string s] w (ParseAns s w) := by
  have hform : Form s → (1 ≤ (restOf s).size ∧ (restOf s).size ≤ 19) ∧ (∀ i, i < (restOf s).size → 48 ≤ byteAt (restOf s) i ∧ byteAt (restOf s) i ≤ 57) ∧ natF (restOf s).data.toList = (parsed s).natAbs ∧ (hasMinus s = true ↔ parsed s < 0) := fun h => dec_form s (parsed s) (parsed_in s).1 (parsed_in s).2 h
  have hpin := parsed_in s
  have hsz : (restOf s).size = s.size := by rw [rest_plain s hm]
  have hnb : ¬ (1 ≤ s.size ∧ byteAt s 0 = 45) := fun h => hm ((hasMinus_byte s).2 h)
  have hby : ∀ i, byteAt s i = byteAt (restOf s) i := fun i => by rw [rest_plain s hm]
  obtain ⟨r, hr⟩ : ∃ r, restOf s = r := ⟨_, rfl⟩
  obtain ⟨p, hp⟩ : ∃ p, parsed s = p := ⟨_, rfl⟩
  have hok : ∀ n, -9223372036854775808 ≤ n → n ≤ 9223372036854775807 → strO (Mt.dec n) = s → ∀ w', Below w.heap.size w w' → ParseAns s w (.returned (.tuple #[.int .i64 n, .int .i64 0])) w' := fun n h1 h2 h w' hb => ans_ok s n w w' h1 h2 h hb
  have hpf : Form s → strO (Mt.dec p) = s := fun h => by rw [← hp]; exact h
  rw [hr] at hsz hby
  rw [hr, hp] at hform
  rw [hp] at hpin
  obtain ⟨R, hR⟩ : ∃ R, r.size = R := ⟨_, rfl⟩
  rw [hR] at hsz hform
  have hsz1 : s.size ≤ R + 0 := by omega
  have hsz2 : R + 0 ≤ s.size := by omega
  have Hform := Lib.hid hform
  have Hok := Lib.hid hok
  have Hpf := Lib.hid hpf
  have HR := Lib.hid hR
  have Hm := Lib.hid hm
  have Hby := Lib.hid hby
  have Hpin := Lib.hid hpin
  clear hform hok hpf hR hr hp hm hby hpin hsz
  by_cases hz : 1 ≤ s.size
  · obtain ⟨c0, hc0⟩ : ∃ c0, byteAt s 0 = c0 := ⟨_, rfl⟩
    have hne : c0 ≠ 45 := fun h => hnb ⟨hz, by rw [hc0]; exact h⟩
    have b0 : ∀ h, (s[0]'h).toNat = c0 := fun h => by rw [byteAt_eq s 0 h]; exact hc0
    have b1 : ((c0 : Int) == 45) = false := by rw [beq_eq_false_iff_ne]; omega
    clear hnb hc0 hne
    by_cases hR1 : 1 ≤ R
    · by_cases hR2 : R ≤ 19
      · go_enter Try.func12, Try.ntmps12
        go_wp2
        go_loop [5, 6] (fun m i => ∃ k : Nat, k ≤ R ∧ i = .int .i64 k ∧ natF (r.data.toList.take k) < 10 ^ k ∧ m = .int .u64 (natF (r.data.toList.take k) : Nat)) (fun _ i => s.size - (intOf i).toNat)
        case atStart => exact ⟨0, by omega, rfl, by simp [natF], rfl⟩
        case round =>
          obtain ⟨k, hk, rfl, hmb, rfl⟩ := hrel
          clear b0
          obtain ⟨m, hm⟩ : ∃ m, natF (r.data.toList.take k) = m := ⟨_, rfl⟩
          rw [hm] at hmb ⊢
          by_cases hlt : k < R
          · obtain ⟨c, hc⟩ : ∃ c, byteAt r k = c := ⟨_, rfl⟩
            have hcs : ∀ h, (s[k]'h).toNat = c := fun h => by rw [byteAt_eq s (k) h, Hby.out k, hc]
            have hc256 : c < 256 := by rw [← hc]; exact byteAt_lt r k
            have hm18 : m < 1000000000000000000 := Nat.lt_of_lt_of_le hmb (Nat.le_trans (Nat.pow_le_pow_right (by omega) (show k ≤ 18 by omega)) (by decide))
            have hkr : k < r.size := by have := HR.out; omega
            have hsn := natF_snoc (r.data.toList.take k) r[k]
            rw [← take_byte r k hkr, hm, byteAt_eq r k hkr, hc] at hsn
            have Hsn := Lib.hid hsn
            have Hc := Lib.hid hc
            have Hmb := Lib.hid hmb
            clear hsn hm hc hmb
            by_cases hc1 : c < 48
            · go_wp2
              go_ret2
              exact ans_err s w _ (fun hF => by have := (Hform.out hF).2.1 k hlt; rw [Hc.out] at this; omega) (Below.refl _ _)
            · by_cases hc2 : 57 < c
              · go_wp2
                go_ret2
                exact ans_err s w _ (fun hF => by have := (Hform.out hF).2.1 k hlt; rw [Hc.out] at this; omega) (Below.refl _ _)
              · have hx : (m : Int) * 10 + ((c : Int) - 48) = ((10 * m + (c - 48) : Nat) : Int) := by omega
                go_wp2
                go_round
                case rel => exact ⟨k + 1, by omega, by go_num, by rw [Hsn.out, Nat.pow_succ]; have := Hmb.out; omega, congrArg (Value.int .u64) (by rw [Hsn.out]; omega)⟩
                case measure => simp [intOf]; omega
          · obtain rfl : k = R := by omega
            have hall : r.data.toList.take k = r.data.toList := List.take_of_length_le (by rw [← HR.out]; simp)
            rw [hall] at hm
            have hm19 : m < 10000000000000000000 := Nat.lt_of_lt_of_le hmb (Nat.le_trans (Nat.pow_le_pow_right (by omega) hR2) (by decide))
            have Hmv := Lib.hid hm
            clear hm hall hmb
            by_cases hm2 : (m : Int) ≤ 9223372036854775807
            · have n1 : -9223372036854775808 ≤ (m : Int) := by omega
              clear hm19
              have hq : decide ((9223372036854775808 : Int) ≤ (m : Int)) = false := by simp; omega
              have n2 : (m : Int) ≤ 9223372036854775807 := by omega
              have hdec := refdec_any (m : Int) n1 n2 w
              have hans := Hok.out (m : Int) n1 n2
              have hnp : Form s → (m : Int) = p := fun hF => by
                have hv := (Hform.out hF).2.2.1
                have hp0 : ¬ p < 0 := fun h => Hm.out ((Hform.out hF).2.2.2.2 h)
                rw [Hmv.out] at hv
                omega
              obtain ⟨d, hd⟩ : ∃ d, strO (Mt.dec (m : Int)) = d := ⟨_, rfl⟩
              rw [hd] at hdec hans
              have hpd : Form s → d = s := fun hF => by rw [← hd, hnp hF]; exact Hpf.out hF
              have Hdec := Lib.hid hdec
              have Hans := Lib.hid hans
              have Hpd := Lib.hid hpd
              clear hdec hans hpd hd hnp
              by_cases hds : d = s
              · have hyes : (d.toList == s.toList) = true := by rw [hds]; simp
                have Hds := Lib.hid hds; clear hds
                go_wp2_with (go_at_call 18; refine Hdec.out.mono ?_; rintro e w' ⟨rfl, hb⟩)
                go_ret2
                exact Hans.out Hds.out _ hb
              · have hno1 : (d.toList == s.toList) = false := by
                  rw [beq_eq_false_iff_ne]; exact fun h => hds (text_inj h)
                have Hds := Lib.hid hds; clear hds
                go_wp2_with (go_at_call 18; refine Hdec.out.mono ?_; rintro e w' ⟨rfl, hb⟩)
                go_ret2
                exact ans_err s w _ (fun hF => Hds.out (Hpd.out hF)) hb
            · have hq : decide ((9223372036854775808 : Int) ≤ (m : Int)) = true := by simp; omega
              have Hm2 := Lib.hid hm2
              clear hm2 hm19
              go_wp2
              go_ret2
              exact ans_err s w _ (fun hF => by have hv := (Hform.out hF).2.2.1; have := Hpin.out; have := Hm2.out; have hp0 : ¬ p < 0 := fun h => Hm.out ((Hform.out hF).2.2.2.2 h); rw [Hmv.out] at hv; omega) (Below.refl _ _)
      · go_enter Try.func12, Try.ntmps12
        go_wp2
        go_ret2
        exact ans_err s w _ (fun hF => by have := (Hform.out hF).1; omega) (Below.refl _ _)
    · omega
  · clear hnb
    go_enter Try.func12, Try.ntmps12
    go_wp2
    go_ret2
    exact ans_err s w _ (fun hF => by have := (Hform.out hF).1.1; omega) (Below.refl _ _)
end Go.Proofs.Ytfaokmmkgodfiaa
