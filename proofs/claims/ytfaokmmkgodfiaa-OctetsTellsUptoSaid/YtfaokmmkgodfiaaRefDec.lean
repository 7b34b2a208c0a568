/- The document's decimal form is the sign and the decimal figures. -/
import Derived.Test.YtfaokmmkgodfiaaDecimal
import Derived.Test.YtfaokmmkgodfiaaText
namespace Go.Proofs.Ytfaokmmkgodfiaa
open Go.RowKit

theorem strO_append (l r : List Mt.Oct) : strO (l ++ r) = strO l ++ strO r := by
  apply ByteArray.ext
  apply Array.toList_inj.1
  simp [strO, strOfNums]

/-- A text of one octet. -/
theorem run_one (w : World) (d : Nat) (hd : d < 10) :
    (convert 23 9 (.slice (some ⟨w.heap.size, 0, none⟩) 1 1)).run Try.prog (w.alloc (.cells #[.int .u8 (48 + (d : Int))] 5)) = .ok (.string (strO [Mt.figO d])) (w.alloc (.cells #[.int .u8 (48 + (d : Int))] 5)) := by
  have e : ((Mt.figO d).1 : Int) = 48 + (d : Int) := by
    unfold Mt.figO Mt.fig
    simp only
    rw [Nat.mod_eq_of_lt (by omega), if_pos hd]
    omega
  have h := run_convert_bytes_arg (P := Try.prog) (w.alloc (.cells #[.int .u8 (48 + (d : Int))] 5)) 23 5 Try.underlying23 Try.underlying5 w.heap.size 0 1 1 [48 + (d : Int)] rfl (fun i hi => ?_) 9 Try.underlying9
  · rw [h]; unfold strO; rw [List.map_cons, List.map_nil, e]
  · obtain rfl : i = 0 := by omega
    simp

set_option maxHeartbeats 1000000 in
theorem refdec_any (n : Int) (h1 : -9223372036854775808 ≤ n) (h2 : n ≤ 9223372036854775807) (w : World) :
    Calls Try.prog 18 #[.int .i64 n] w fun e W' => e = .returned (.string (strO (Mt.dec n))) ∧ Below w.heap.size w W' := by
  obtain ⟨m, hm⟩ : ∃ m, n.natAbs = m := ⟨_, rfl⟩
  have hm64 : m < 18446744073709551616 := by omega
  by_cases hneg : n < 0
  · have e0 : IntKind.u64.wrap n = n + 18446744073709551616 := by rw [IntKind.wrap_u64]; omega
    have e1 : IntKind.u64.wrap (-(n + 1) + 1) = (m : Int) := by rw [IntKind.wrap_u64]; omega
    have Hm := Lib.hid hm; clear hm
    go_enter Try.func18, Try.ntmps18
    go_wp2
    go_loopw [3, 4] (fun u t wr => ∃ k : Nat, (k = 0 ∨ 10 ^ k ≤ m) ∧ u = .int .u64 ((m / 10 ^ k : Nat)) ∧ t = .string (strO (Mt.digs 10 m k)) ∧ Below w.heap.size w wr) (fun u _ _ => (intOf u).toNat)
    case atStart => exact ⟨0, .inl rfl, by simp, rfl, Below.refl _ _⟩
    case round =>
      obtain ⟨k, hk, rfl, rfl, hbe⟩ := hrel
      obtain ⟨q, hq⟩ : ∃ q, m / 10 ^ k = q := ⟨_, rfl⟩
      obtain ⟨d, hd⟩ : ∃ d, q % 10 = d := ⟨_, rfl⟩
      obtain ⟨q2, hq2⟩ : ∃ q2, q / 10 = q2 := ⟨_, rfl⟩
      have hqm : q ≤ m := by rw [← hq]; exact Nat.div_le_self _ _
      have hd10 : d < 10 := by omega
      have hq22 : q2 ≤ q := by omega
      have hnext : m / 10 ^ (k + 1) = q2 := by rw [Nat.pow_succ, ← Nat.div_div_eq_div_mul, hq, hq2]
      have hstr : strO [Mt.figO d] ++ strO (Mt.digs 10 m k) = strO (Mt.digs 10 m (k + 1)) := by rw [← strO_append, Mt.digs, hq, hd]; rfl
      have x1 : (q : Int) % 10 = (d : Int) := by omega
      have x2 : (q : Int) / 10 = (q2 : Int) := by omega
      have hone := run_one wr d hd10
      have hB := hbe.size
      rw [hq]
      have Hk := Lib.hid hk
      have Hq := Lib.hid hq
      have Hd := Lib.hid hd
      have Hq2 := Lib.hid hq2
      have Hnext := Lib.hid hnext
      have Hstr := Lib.hid hstr
      have hSz : (strO (Mt.digs 10 m k)).size ≤ 64 := by
        have : k + 1 ≤ 64 := Mt.wid_le (b := 10) (n := m) (by omega) hm64 (hk.elim (fun h => .inl (by omega)) (fun h => .inr (by rw [Nat.add_sub_cancel]; exact h)))
        unfold strO
        rw [strOfNums_size, List.length_map, Mt.digs_length]
        omega
      have hTz : (strO [Mt.figO d]).size ≤ 1 := by
        unfold strO
        rw [strOfNums_size, List.length_map]
        simp
      generalize strO (Mt.digs 10 m k) = S at Hstr hSz
      generalize strO [Mt.figO d] = T at Hstr hone hTz
      clear hk hq hd hq2 hnext hstr
      by_cases h0 : q2 = 0
      · subst h0
        have hwid : Mt.IsWid 10 m (k + 1) := by
          refine ⟨by omega, ?_, ?_⟩
          · have := Hnext.out
            exact (Nat.div_eq_zero_iff.1 this).resolve_left (Nat.ne_of_gt (Nat.pow_pos (by omega)))
          · rcases Hk.out with h | h
            · left; omega
            · right; rw [Nat.add_sub_cancel]; exact h
        have hfin : { data := #[45] } ++ (T ++ S) = strO (Mt.dec n) := by
          rw [Hstr.out, Mt.dec, Mt.sgn, if_pos hneg, strO_append, Hm.out]
          have h := Mt.dec_of_wid h1 h2 (by rw [Hm.out]; exact hwid)
          rw [Hm.out] at h
          rw [h]
          rfl
        have Hfin := Lib.hid hfin
        clear hfin hwid
        go_wp2
        go_ret
        exact ⟨by rw [← Hfin.out]; rfl, hbe.alloc hB _⟩
      · have hb0 : ((q2 : Int) == 0) = false := by rw [beq_eq_false_iff_ne]; omega
        go_wp2
        go_roundw
        case rel => exact ⟨k + 1, .inr (by have := Hnext.out; have hp : 0 < 10 ^ (k + 1) := Nat.pow_pos (by omega); exact (Nat.one_le_div_iff hp).1 (by omega)), by rw [Hnext.out], by rw [Hstr.out], hbe.alloc hB _⟩
        case measure => have := Hq2.out; simp [intOf]; omega
  · obtain rfl : n = (m : Int) := by omega
    have e0 : IntKind.u64.wrap (m : Int) = (m : Int) := by rw [IntKind.wrap_u64]; omega
    have Hm := Lib.hid hm; clear hm
    go_enter Try.func18, Try.ntmps18
    go_wp2
    go_loopw [3, 4] (fun u t wr => ∃ k : Nat, (k = 0 ∨ 10 ^ k ≤ m) ∧ u = .int .u64 ((m / 10 ^ k : Nat)) ∧ t = .string (strO (Mt.digs 10 m k)) ∧ Below w.heap.size w wr) (fun u _ _ => (intOf u).toNat)
    case atStart => exact ⟨0, .inl rfl, by simp, rfl, Below.refl _ _⟩
    case round =>
      obtain ⟨k, hk, rfl, rfl, hbe⟩ := hrel
      obtain ⟨q, hq⟩ : ∃ q, m / 10 ^ k = q := ⟨_, rfl⟩
      obtain ⟨d, hd⟩ : ∃ d, q % 10 = d := ⟨_, rfl⟩
      obtain ⟨q2, hq2⟩ : ∃ q2, q / 10 = q2 := ⟨_, rfl⟩
      have hqm : q ≤ m := by rw [← hq]; exact Nat.div_le_self _ _
      have hd10 : d < 10 := by omega
      have hq22 : q2 ≤ q := by omega
      have hnext : m / 10 ^ (k + 1) = q2 := by rw [Nat.pow_succ, ← Nat.div_div_eq_div_mul, hq, hq2]
      have hstr : strO [Mt.figO d] ++ strO (Mt.digs 10 m k) = strO (Mt.digs 10 m (k + 1)) := by rw [← strO_append, Mt.digs, hq, hd]; rfl
      have x1 : (q : Int) % 10 = (d : Int) := by omega
      have x2 : (q : Int) / 10 = (q2 : Int) := by omega
      have hone := run_one wr d hd10
      have hB := hbe.size
      rw [hq]
      have Hk := Lib.hid hk
      have Hq := Lib.hid hq
      have Hd := Lib.hid hd
      have Hq2 := Lib.hid hq2
      have Hnext := Lib.hid hnext
      have Hstr := Lib.hid hstr
      have hSz : (strO (Mt.digs 10 m k)).size ≤ 64 := by
        have : k + 1 ≤ 64 := Mt.wid_le (b := 10) (n := m) (by omega) hm64 (hk.elim (fun h => .inl (by omega)) (fun h => .inr (by rw [Nat.add_sub_cancel]; exact h)))
        unfold strO
        rw [strOfNums_size, List.length_map, Mt.digs_length]
        omega
      have hTz : (strO [Mt.figO d]).size ≤ 1 := by
        unfold strO
        rw [strOfNums_size, List.length_map]
        simp
      generalize strO (Mt.digs 10 m k) = S at Hstr hSz
      generalize strO [Mt.figO d] = T at Hstr hone hTz
      clear hk hq hd hq2 hnext hstr
      by_cases h0 : q2 = 0
      · subst h0
        have hwid : Mt.IsWid 10 m (k + 1) := by
          refine ⟨by omega, ?_, ?_⟩
          · have := Hnext.out
            exact (Nat.div_eq_zero_iff.1 this).resolve_left (Nat.ne_of_gt (Nat.pow_pos (by omega)))
          · rcases Hk.out with h | h
            · left; omega
            · right; rw [Nat.add_sub_cancel]; exact h
        have hfin : T ++ S = strO (Mt.dec (m : Int)) := by
          rw [Hstr.out, Mt.dec, Mt.sgn, if_neg (by omega)]
          have h := Mt.dec_of_wid h1 h2 (by rw [Hm.out]; exact hwid)
          rw [Hm.out] at h
          rw [Hm.out, h]
          rfl
        have Hfin := Lib.hid hfin
        clear hfin hwid
        go_wp2
        go_ret
        exact ⟨by rw [← Hfin.out]; rfl, hbe.alloc hB _⟩
      · have hb0 : ((q2 : Int) == 0) = false := by rw [beq_eq_false_iff_ne]; omega
        go_wp2
        go_roundw
        case rel => exact ⟨k + 1, .inr (by have := Hnext.out; have hp : 0 < 10 ^ (k + 1) := Nat.pow_pos (by omega); exact (Nat.one_le_div_iff hp).1 (by omega)), by rw [Hnext.out], by rw [Hstr.out], hbe.alloc hB _⟩
        case measure => have := Hq2.out; simp [intOf]; omega
end Go.Proofs.Ytfaokmmkgodfiaa
