/- What the document's own answers of checksum give: sums, and those of addresses. -/
import Derived.Test.YtgmgoilleakdcaaSum
import Derived.Test.YtgmgoilleakdcaaGOcts
import Derived.RangeFuncBox
namespace Go.Proofs.Ytgmgoilleakdcaa
open Go.RowKit

set_option maxHeartbeats 400000 in
theorem refadd_any (a b : Nat) (ha : a ≤ 65535) (hb : b ≤ 65535) (w : World) :
    Calls Try.prog 20 #[.int .u16 a, .int .u16 b] w fun e w' => e = .returned (.int .u16 (Mt.addw a b : Nat)) ∧ w = w' := by
  by_cases hbig : 65535 < a + b
  · have e : Mt.addw a b = a + b - 65535 := by unfold Mt.addw; rw [if_pos hbig]
    have e2 : ((a + b - 65535 : Nat) : Int) = (a : Int) + b - 65535 := by omega
    rw [e, e2]
    clear e e2
    go_enter Try.func20, Try.ntmps20
    go_wp2
    go_ret
    exact ⟨rfl, rfl⟩
  · have e : Mt.addw a b = a + b := by unfold Mt.addw; rw [if_neg hbig]
    rw [e]
    clear e
    go_enter Try.func20, Try.ntmps20
    go_wp2
    go_ret
    exact ⟨rfl, rfl⟩

set_option maxHeartbeats 1000000 in
theorem refsum_any (a : Option Addr) (xs : List Nat) (cap : Nat) (w : World) (h : Bts w a xs) (hl : xs.length ≤ 140737488355328) :
    Calls Try.prog 21 #[.slice a xs.length cap] w fun e w' => e = .returned (.int .u16 (Mt.sumO xs : Nat)) ∧ w = w' := by
  obtain ⟨h1, h2⟩ := h
  have H2 := Lib.hid h2; clear h2
  have H1 := Lib.hid h1; clear h1
  go_enter Try.func21, Try.ntmps21
  go_wp2
  go_loop [3, 4, 5] (fun n i _ => ∃ j : Nat, j ≤ Mt.nw xs ∧ i = .int .i64 (2 * j : Nat) ∧ n = .int .u16 (Mt.tot ((Mt.wl xs).take j) : Nat)) (fun _ i _ => xs.length + 1 - (intOf i).toNat)
  case atStart => exact ⟨0, by omega, rfl, rfl⟩
  case round =>
    obtain ⟨j, hj, rfl, rfl⟩ := hrel
    have hm := Mt.tot_le ((Mt.wl xs).take j) (fun y hy => Mt.wl_le xs H1.out y (List.mem_of_mem_take hy))
    by_cases hlt : 2 * j < xs.length
    · obtain ⟨b, off, rfl, hb, hc⟩ : ∃ b off, a = some ⟨b, off, none⟩ ∧ b < w.heap.size ∧ ∀ i, i < xs.length → w.cell? ⟨b, off + i, none⟩ = some (.int .u8 (xs.getD i 0 : Nat)) := by
        rcases H2.out with h | h
        · subst h; simp at hlt
        · exact h
      have hc1 := hc _ hlt
      have hx1 := Mt.getD_lt xs H1.out (2 * j)
      have hjn : j < Mt.nw xs := by unfold Mt.nw; omega
      have htk := Mt.tot_snoc ((Mt.wl xs).take j) (Mt.wd xs j)
      rw [← Mt.wl_take xs j hjn] at htk
      obtain ⟨m, hme⟩ : ∃ m, Mt.tot ((Mt.wl xs).take j) = m := ⟨_, rfl⟩
      rw [hme] at hm htk ⊢
      have hwd : Mt.wd xs j = xs.getD (2 * j) 0 * 256 + xs.getD (2 * j + 1) 0 := rfl
      rw [hwd] at htk
      clear hwd
      have Htk := Lib.hid htk; clear htk hme
      by_cases h2 : 2 * j + 1 < xs.length
      · have hc2 := hc _ h2
        have hx2 := Mt.getD_lt xs H1.out (2 * j + 1)
        generalize xs.getD (2 * j) 0 = h at hc1 hx1 Htk
        generalize xs.getD (2 * j + 1) 0 = lo at hc2 hx2 Htk
        have hor := or_low16 h lo hx1 hx2
        have hv : h * 256 + lo ≤ 65535 := by omega
        generalize h * 256 + lo = v at Htk hor hv
        have HA := Lib.hid (refadd_any m v hm hv w)
        clear hc
        go_wp2_with fail
        refine HA.out.mono ?_; rintro e w' ⟨rfl, rfl⟩
        go_wp2
        go_round
        case rel => exact ⟨j + 1, by omega, by go_num, by rw [Htk.out]⟩
        case measure => simp [intOf]; omega
      · have e0 : xs.getD (2 * j + 1) 0 = 0 := by rw [List.getD_eq_getElem?_getD, List.getElem?_eq_none (by omega)]; rfl
        rw [e0] at Htk
        generalize xs.getD (2 * j) 0 = h at hc1 hx1 Htk
        have hA := refadd_any m (h * 256 + 0) hm (by omega) w
        rw [show ((h * 256 + 0 : Nat) : Int) = (h : Int) * 256 by omega] at hA
        have HA := Lib.hid hA
        clear hc e0 hA
        go_wp2_with fail
        refine HA.out.mono ?_; rintro e w' ⟨rfl, rfl⟩
        go_wp2
        go_round
        case rel => exact ⟨j + 1, by omega, by go_num, by rw [Htk.out, Nat.add_zero]⟩
        case measure => simp [intOf]; omega
    · obtain rfl : j = Mt.nw xs := by unfold Mt.nw at hj ⊢; omega
      have hs : Mt.tot ((Mt.wl xs).take (Mt.nw xs)) = Mt.sumO xs := by unfold Mt.sumO; rw [List.take_of_length_le (by rw [Mt.wl_length]; exact Nat.le_refl _)]
      rw [hs]
      clear hs
      go_wp2
      go_ret
      exact ⟨rfl, rfl⟩

theorem and_low16 (n : Int) : bits .and .i64 n 65535 = n % 65536 := by
  show IntKind.i64.wrap ((BitVec.ofInt 64 n &&& BitVec.ofInt 64 65535).toNat : Int) = _
  have e1 : (BitVec.ofInt 64 (65535 : Int)).toNat = 2 ^ 16 - 1 := by decide
  have e2 : (BitVec.ofInt 64 n).toNat = (n % 18446744073709551616).toNat := by rw [BitVec.toNat_ofInt]; rfl
  rw [BitVec.toNat_and, e1, e2, Nat.and_two_pow_sub_one_eq_mod]
  rw [IntWalk.i64_in _ (by omega)]
  omega

/-- The octets of Pseudo's text. -/
def psO (s d p : Nat) (n : Nat) : List Nat := Mt.octs s 4 ++ Mt.octs d 4 ++ [0, p] ++ Mt.octs n 2

theorem two_octs (q : Nat) (h : q < 65536) : q / 256 % 256 * 256 + q % 256 = q := by omega

theorem two_lt (p : Nat) (hp : p < 256) : ∀ x ∈ [0, p], x < 256 := by intro x hx; simp at hx; omega

theorem low_octs (s : Nat) : s / 256 % 256 * 256 + s % 256 = s % 65536 := by omega

theorem psO_sum (s d p : Nat) (n : Int) (hs : s < 4294967296) (hd : d < 4294967296) : Mt.sumO (psO s d p (n % 65536).toNat) = Mt.tot (psW s d p n) := by
  have hm : (n % 65536).toNat < 65536 := by omega
  have s1 : s / 65536 < 65536 := by omega
  have d1 : d / 65536 < 65536 := by omega
  unfold psW
  generalize (n % 65536).toNat = m at hm ⊢
  have e : psO s d p m = [s / (65536 * 256) % 256, s / 65536 % 256, s / 256 % 256, s / 1 % 256, d / (65536 * 256) % 256, d / 65536 % 256, d / 256 % 256, d / 1 % 256, 0, p, m / 256 % 256, m / 1 % 256] := rfl
  unfold Mt.sumO
  rw [e]
  have w0 : Mt.wl [] = [] := rfl
  simp only [Mt.wl_two, w0, Nat.div_one, ← Nat.div_div_eq_div_mul]
  have a5 : 0 * 256 + p = p := by omega
  rw [two_octs _ s1, two_octs _ d1, two_octs _ hm, low_octs s, low_octs d, a5]

theorem oct_own (n k : Nat) (hk : k ≤ 8) (w : World) : Calls Try.prog 28 #[.int .u64 n, .int .i64 k] w fun e w' => e = .returned (.slice (some ⟨w.heap.size, 0, none⟩) k k) ∧ w'.ownsRow w.heap.size 5 1 (.slice (some ⟨w.heap.size, 0, none⟩) k k) k ((Mt.octs n k).map fun x => Value.int .u8 (x : Nat)) ∧ Bts w' (some ⟨w.heap.size, 0, none⟩) (Mt.octs n k) ∧ Below w.heap.size w w' := by
  refine (octets_any n k hk w).mono ?_
  rintro e w' ⟨rfl, hr, hb⟩
  refine ⟨rfl, hr, ?_, hb⟩
  exact row_bts (B := w.heap.size) (cap := k) (by rw [Mt.octs_length]; exact hr) (octs_lt n k)

set_option maxHeartbeats 1000000 in
theorem refpseudo_any (s d p : Nat) (n : Int) (hs : s < 4294967296) (hd : d < 4294967296) (hp : p < 256) (w : World) :
    Calls Try.prog 22 #[.int .u32 s, .int .u32 d, .int .u8 p, .int .i64 n] w fun e w' => e = .returned (.int .u16 (Mt.tot (psW s d p n) : Nat)) ∧ Below w.heap.size w w' := by
  obtain ⟨i0, hi, hz0, hz1, hz2⟩ := info_parts info5
  rw [← psO_sum s d p n hs hd]
  have hn := and_low16 n
  have hm : n % 65536 = ((n % 65536).toNat : Int) := by omega
  have hml : (n % 65536).toNat < 65536 := by omega
  rw [hm] at hn
  clear hm
  generalize (n % 65536).toNat = m at hn hml ⊢
  go_enter Try.func22, Try.ntmps22
  obtain ⟨A, hA⟩ : ∃ A, Mt.octs s 4 = A := ⟨_, rfl⟩
  obtain ⟨D, hD⟩ : ∃ D, Mt.octs d 4 = D := ⟨_, rfl⟩
  obtain ⟨M, hM⟩ : ∃ M, Mt.octs m 2 = M := ⟨_, rfl⟩
  have lA : A.length = 4 := by rw [← hA, Mt.octs_length]
  have lD : D.length = 4 := by rw [← hD, Mt.octs_length]
  have lM : M.length = 2 := by rw [← hM, Mt.octs_length]
  have xA : ∀ x ∈ A, x < 256 := by rw [← hA]; exact octs_lt s 4
  have xD : ∀ x ∈ D, x < 256 := by rw [← hD]; exact octs_lt d 4
  have xM : ∀ x ∈ M, x < 256 := by rw [← hM]; exact octs_lt m 2
  have c1 := oct_own s 4 (by omega)
  have c2 := oct_own d 4 (by omega)
  have c3 := oct_own m 2 (by omega)
  have hP : psO s d p m = A ++ D ++ [0, p] ++ M := by unfold psO; rw [hA, hD, hM]
  rw [hA] at c1
  rw [hD] at c2
  rw [hM] at c3
  rw [hP]
  clear hA hD hM hP
  obtain ⟨R, hR⟩ : ∃ R, Mt.sumO (A ++ D ++ [0, p] ++ M) = R := ⟨_, rfl⟩
  rw [hR]
  have HR := Lib.hid hR; clear hR
  have C1 := Lib.hid c1
  have C2 := Lib.hid c2
  have C3 := Lib.hid c3
  have LA := Lib.hid lA
  have LD := Lib.hid lD
  have LM := Lib.hid lM
  have XX := Lib.hid (And.intro xA (And.intro xD xM))
  clear c1 c2 c3 lA lD lM xA xD xM
  go_wp2_with fail
  refine (C1.out _).mono ?_
  rintro e w1 ⟨rfl, r1, -, b1⟩
  have R1 := Lib.hid r1; clear r1
  go_wp2_with fail
  refine (C2.out _).mono ?_
  rintro e w2 ⟨rfl, -, s2, b2⟩
  have r1 := row_below R1.out b2
  have S2 := Lib.hid (Bts.src s2)
  have q2 := b1.trans (b2.mono b1.size)
  clear R1 s2 b1 b2
  go_wp2_with (first | (at_builtin; refine wpList_append_own _ rfl _ _ 25 rfl w.heap.size 5 i0 (.int .u8 0) 1 1 Try.underlying25 hi hz0 hz1 hz2 rfl (by decide) _ _ _ rfl r1 ⟨w1.heap.size, 0, none⟩ 4 4 (D.map fun x => Value.int .u8 ((x : Nat) : Int)) rfl (by rw [List.length_map, LD.out]) S2.out (by simp [Value.oneCell']) (by unfold maxLen; omega) (by omega) q2.size ?_; intro v' w3 hown hgrow _; obtain ⟨g, cap, rfl⟩ := ownsRow_succ (k := 7) hown; have HO := Lib.hid hown; have HG := Lib.hid hgrow; clear hown hgrow r1 S2; have q3 : Below w.heap.size w w3 := q2.grown HG.out q2.size (fun k e => by cases e; exact Nat.le_refl _); have hgB : w.heap.size ≤ g := (HO.out.lt g rfl).1; have r3 := HO.out.alloc (.cells #[.int .u8 0, .int .u8 p] 5); have S3 := Lib.hid (Bts.src (bts_new w3 [0, p] 5 (two_lt p hp))); have q3' := q3.alloc q3.size (.cells #[.int .u8 0, .int .u8 p] 5); clear HO HG q2) | (at_builtin; refine wpList_append_own _ rfl _ _ 25 rfl w.heap.size 5 i0 (.int .u8 0) 1 1 Try.underlying25 hi hz0 hz1 hz2 rfl (by decide) _ _ _ rfl r3 ⟨w3.heap.size, 0, none⟩ 2 2 [.int .u8 0, .int .u8 p] rfl rfl S3.out (by simp [Value.oneCell']) (by unfold maxLen; omega) (by omega) q3'.size ?_; intro v' w4 hown hgrow _; obtain ⟨g4, cap4, rfl⟩ := ownsRow_succ (k := 9) hown; have HO := Lib.hid hown; have HG := Lib.hid hgrow; clear hown hgrow r3 S3))
  have q4 : Below w.heap.size w w4 := q3'.grown HG.out q3'.size (fun k e => by cases e; exact hgB)
  have hgB4 : w.heap.size ≤ g4 := (HO.out.lt g4 rfl).1
  clear HG q3 q3' hgB
  refine (C3.out _).mono ?_
  rintro e w5 ⟨rfl, -, s5, b5⟩
  have r5 := row_below HO.out b5
  have S5 := Lib.hid (Bts.src s5)
  have q5 := q4.trans (b5.mono q4.size)
  clear HO s5 b5 q4
  go_wp2_with (at_builtin; refine wpList_append_own _ rfl _ _ 25 rfl w.heap.size 5 i0 (.int .u8 0) 1 1 Try.underlying25 hi hz0 hz1 hz2 rfl (by decide) _ _ _ rfl r5 ⟨w4.heap.size, 0, none⟩ 2 2 (M.map fun x => Value.int .u8 ((x : Nat) : Int)) rfl (by rw [List.length_map, LM.out]) S5.out (by simp [Value.oneCell']) (by unfold maxLen; omega) (by omega) q5.size ?_; intro v' w6 hown hgrow _; obtain ⟨g6, cap6, rfl⟩ := ownsRow_succ (k := 11) hown; have HO := Lib.hid hown; have HG := Lib.hid hgrow; clear hown hgrow r5 S5)
  have q6 : Below w.heap.size w w6 := q5.grown HG.out q5.size (fun k e => by cases e; exact hgB4)
  have hlen : (A ++ D ++ [0, p] ++ M).length = 12 := by simp only [List.length_append, LA.out, LD.out, LM.out]; rfl
  have hbt : Bts w6 (some ⟨g6, 0, none⟩) (A ++ D ++ [0, p] ++ M) := by
    refine row_bts (B := w.heap.size) (cap := cap6) ?_ ?_
    · rw [hlen]
      simp only [List.map_append, List.map_cons, List.map_nil]
      exact HO.out
    · intro x hx
      simp only [List.mem_append] at hx
      rcases hx with ((hx | hx) | hx) | hx
      · exact XX.out.1 x hx
      · exact XX.out.2.1 x hx
      · simp at hx; omega
      · exact XX.out.2.2 x hx
  have hsum := refsum_any (some ⟨g6, 0, none⟩) (A ++ D ++ [0, p] ++ M) cap6 w6 hbt (by rw [hlen]; omega)
  rw [hlen, HR.out] at hsum
  have HS := Lib.hid hsum
  clear hsum hbt hlen HO HG
  refine HS.out.mono ?_
  rintro e w' ⟨rfl, rfl⟩
  go_wp2
  go_ret
  exact ⟨rfl, q6⟩
end Go.Proofs.Ytgmgoilleakdcaa
