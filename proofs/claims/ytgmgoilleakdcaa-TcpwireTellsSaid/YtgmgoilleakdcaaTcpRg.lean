/- What the document's own answers of checksum give: sums, and those of addresses. -/
import Derived.Test.YtgmgoilleakdcaaSum
import Derived.Test.YtgmgoilleakdcaaGOcts
import Derived.RangeFuncBox
import Derived.Test.YtgmgoilleakdcaaTcpRe
import Derived.Test.YtgmgoilleakdcaaGBts
import Derived.WalkSpells
import Derived.WalkLawsBesides
import Derived.PlainAid
import Derived.WalkSmall
import Derived.Deep.AppendSrc
import Derived.LoopN
import Derived.Deep.RegionHeld3
import Derived.Deep.DeepCutAuto
namespace Go.Proofs.Ytgmgoilleakdcaa
open Go.RowKit

set_option maxHeartbeats 400000 in
theorem refadd_any (a b : Nat) (ha : a ≤ 65535) (hb : b ≤ 65535) (w : World) :
    Calls Try.prog 20 #[.int .u16 a, .int .u16 b] w fun e w' => e = .returned (.int .u16 (Mt.addw a b : Nat)) ∧ w = w' := by
  by_cases hbig : 65535 < a + b
  · have e : Mt.addw a b = a + b - 65535 := by unfold Mt.addw; rw [if_pos hbig]
    have e2 : ((a + b - 65535 : Nat) : Int) = (a : Int) + b - 65535 := by omega
    rw [e, e2]
    clear e e2
    go_enter Try.func20, Try.ntmps20
    go_wp2
    go_ret
    exact ⟨rfl, rfl⟩
  · have e : Mt.addw a b = a + b := by unfold Mt.addw; rw [if_neg hbig]
    rw [e]
    clear e
    go_enter Try.func20, Try.ntmps20
    go_wp2
    go_ret
    exact ⟨rfl, rfl⟩

set_option maxHeartbeats 1000000 in
theorem refsum_any (a : Option Addr) (xs : List Nat) (cap : Nat) (w : World) (h : Bts w a xs) (hl : xs.length ≤ 140737488355328) :
    Calls Try.prog 21 #[.slice a xs.length cap] w fun e w' => e = .returned (.int .u16 (Mt.sumO xs : Nat)) ∧ w = w' := by
  obtain ⟨h1, h2⟩ := h
  have H2 := Lib.hid h2; clear h2
  have H1 := Lib.hid h1; clear h1
  go_enter Try.func21, Try.ntmps21
  go_wp2
  go_loop [3, 4, 5] (fun n i _ => ∃ j : Nat, j ≤ Mt.nw xs ∧ i = .int .i64 (2 * j : Nat) ∧ n = .int .u16 (Mt.tot ((Mt.wl xs).take j) : Nat)) (fun _ i _ => xs.length + 1 - (intOf i).toNat)
  case atStart => exact ⟨0, by omega, rfl, rfl⟩
  case round =>
    obtain ⟨j, hj, rfl, rfl⟩ := hrel
    have hm := Mt.tot_le ((Mt.wl xs).take j) (fun y hy => Mt.wl_le xs H1.out y (List.mem_of_mem_take hy))
    by_cases hlt : 2 * j < xs.length
    · obtain ⟨b, off, rfl, hb, hc⟩ : ∃ b off, a = some ⟨b, off, none⟩ ∧ b < w.heap.size ∧ ∀ i, i < xs.length → w.cell? ⟨b, off + i, none⟩ = some (.int .u8 (xs.getD i 0 : Nat)) := by
        rcases H2.out with h | h
        · subst h; simp at hlt
        · exact h
      have hc1 := hc _ hlt
      have hx1 := Mt.getD_lt xs H1.out (2 * j)
      have hjn : j < Mt.nw xs := by unfold Mt.nw; omega
      have htk := Mt.tot_snoc ((Mt.wl xs).take j) (Mt.wd xs j)
      rw [← Mt.wl_take xs j hjn] at htk
      obtain ⟨m, hme⟩ : ∃ m, Mt.tot ((Mt.wl xs).take j) = m := ⟨_, rfl⟩
      rw [hme] at hm htk ⊢
      have hwd : Mt.wd xs j = xs.getD (2 * j) 0 * 256 + xs.getD (2 * j + 1) 0 := rfl
      rw [hwd] at htk
      clear hwd
      have Htk := Lib.hid htk; clear htk hme
      by_cases h2 : 2 * j + 1 < xs.length
      · have hc2 := hc _ h2
        have hx2 := Mt.getD_lt xs H1.out (2 * j + 1)
        generalize xs.getD (2 * j) 0 = h at hc1 hx1 Htk
        generalize xs.getD (2 * j + 1) 0 = lo at hc2 hx2 Htk
        have hor := or_low16 h lo hx1 hx2
        have hv : h * 256 + lo ≤ 65535 := by omega
        generalize h * 256 + lo = v at Htk hor hv
        have HA := Lib.hid (refadd_any m v hm hv w)
        clear hc
        go_wp2_with fail
        refine HA.out.mono ?_; rintro e w' ⟨rfl, rfl⟩
        go_wp2
        go_round
        case rel => exact ⟨j + 1, by omega, by go_num, by rw [Htk.out]⟩
        case measure => simp [intOf]; omega
      · have e0 : xs.getD (2 * j + 1) 0 = 0 := by rw [List.getD_eq_getElem?_getD, List.getElem?_eq_none (by omega)]; rfl
        rw [e0] at Htk
        generalize xs.getD (2 * j) 0 = h at hc1 hx1 Htk
        have hA := refadd_any m (h * 256 + 0) hm (by omega) w
        rw [show ((h * 256 + 0 : Nat) : Int) = (h : Int) * 256 by omega] at hA
        have HA := Lib.hid hA
        clear hc e0 hA
        go_wp2_with fail
        refine HA.out.mono ?_; rintro e w' ⟨rfl, rfl⟩
        go_wp2
        go_round
        case rel => exact ⟨j + 1, by omega, by go_num, by rw [Htk.out, Nat.add_zero]⟩
        case measure => simp [intOf]; omega
    · obtain rfl : j = Mt.nw xs := by unfold Mt.nw at hj ⊢; omega
      have hs : Mt.tot ((Mt.wl xs).take (Mt.nw xs)) = Mt.sumO xs := by unfold Mt.sumO; rw [List.take_of_length_le (by rw [Mt.wl_length]; exact Nat.le_refl _)]
      rw [hs]
      clear hs
      go_wp2
      go_ret
      exact ⟨rfl, rfl⟩

theorem and_low16 (n : Int) : bits .and .i64 n 65535 = n % 65536 := by
  show IntKind.i64.wrap ((BitVec.ofInt 64 n &&& BitVec.ofInt 64 65535).toNat : Int) = _
  have e1 : (BitVec.ofInt 64 (65535 : Int)).toNat = 2 ^ 16 - 1 := by decide
  have e2 : (BitVec.ofInt 64 n).toNat = (n % 18446744073709551616).toNat := by rw [BitVec.toNat_ofInt]; rfl
  rw [BitVec.toNat_and, e1, e2, Nat.and_two_pow_sub_one_eq_mod]
  rw [IntWalk.i64_in _ (by omega)]
  omega

/-- The octets of Pseudo's text. -/
def psO (s d p : Nat) (n : Nat) : List Nat := Mt.octs s 4 ++ Mt.octs d 4 ++ [0, p] ++ Mt.octs n 2

theorem two_octs (q : Nat) (h : q < 65536) : q / 256 % 256 * 256 + q % 256 = q := by omega

theorem two_lt (p : Nat) (hp : p < 256) : ∀ x ∈ [0, p], x < 256 := by intro x hx; simp at hx; omega

theorem low_octs (s : Nat) : s / 256 % 256 * 256 + s % 256 = s % 65536 := by omega

theorem psO_sum (s d p : Nat) (n : Int) (hs : s < 4294967296) (hd : d < 4294967296) : Mt.sumO (psO s d p (n % 65536).toNat) = Mt.tot (psW s d p n) := by
  have hm : (n % 65536).toNat < 65536 := by omega
  have s1 : s / 65536 < 65536 := by omega
  have d1 : d / 65536 < 65536 := by omega
  unfold psW
  generalize (n % 65536).toNat = m at hm ⊢
  have e : psO s d p m = [s / (65536 * 256) % 256, s / 65536 % 256, s / 256 % 256, s / 1 % 256, d / (65536 * 256) % 256, d / 65536 % 256, d / 256 % 256, d / 1 % 256, 0, p, m / 256 % 256, m / 1 % 256] := rfl
  unfold Mt.sumO
  rw [e]
  have w0 : Mt.wl [] = [] := rfl
  simp only [Mt.wl_two, w0, Nat.div_one, ← Nat.div_div_eq_div_mul]
  have a5 : 0 * 256 + p = p := by omega
  rw [two_octs _ s1, two_octs _ d1, two_octs _ hm, low_octs s, low_octs d, a5]

theorem oct_own (n k : Nat) (hk : k ≤ 8) (w : World) : Calls Try.prog 28 #[.int .u64 n, .int .i64 k] w fun e w' => e = .returned (.slice (some ⟨w.heap.size, 0, none⟩) k k) ∧ w'.ownsRow w.heap.size 5 1 (.slice (some ⟨w.heap.size, 0, none⟩) k k) k ((Mt.octs n k).map fun x => Value.int .u8 (x : Nat)) ∧ Bts w' (some ⟨w.heap.size, 0, none⟩) (Mt.octs n k) ∧ Below w.heap.size w w' := by
  refine (octets_any n k hk w).mono ?_
  rintro e w' ⟨rfl, hr, hb⟩
  refine ⟨rfl, hr, ?_, hb⟩
  exact row_bts (B := w.heap.size) (cap := k) (by rw [Mt.octs_length]; exact hr) (octs_lt n k)

set_option maxHeartbeats 1000000 in
theorem refpseudo_any (s d p : Nat) (n : Int) (hs : s < 4294967296) (hd : d < 4294967296) (hp : p < 256) (w : World) :
    Calls Try.prog 22 #[.int .u32 s, .int .u32 d, .int .u8 p, .int .i64 n] w fun e w' => e = .returned (.int .u16 (Mt.tot (psW s d p n) : Nat)) ∧ Below w.heap.size w w' := by
  obtain ⟨i0, hi, hz0, hz1, hz2⟩ := info_parts info5
  rw [← psO_sum s d p n hs hd]
  have hn := and_low16 n
  have hm : n % 65536 = ((n % 65536).toNat : Int) := by omega
  have hml : (n % 65536).toNat < 65536 := by omega
  rw [hm] at hn
  clear hm
  generalize (n % 65536).toNat = m at hn hml ⊢
  go_enter Try.func22, Try.ntmps22
  obtain ⟨A, hA⟩ : ∃ A, Mt.octs s 4 = A := ⟨_, rfl⟩
  obtain ⟨D, hD⟩ : ∃ D, Mt.octs d 4 = D := ⟨_, rfl⟩
  obtain ⟨M, hM⟩ : ∃ M, Mt.octs m 2 = M := ⟨_, rfl⟩
  have lA : A.length = 4 := by rw [← hA, Mt.octs_length]
  have lD : D.length = 4 := by rw [← hD, Mt.octs_length]
  have lM : M.length = 2 := by rw [← hM, Mt.octs_length]
  have xA : ∀ x ∈ A, x < 256 := by rw [← hA]; exact octs_lt s 4
  have xD : ∀ x ∈ D, x < 256 := by rw [← hD]; exact octs_lt d 4
  have xM : ∀ x ∈ M, x < 256 := by rw [← hM]; exact octs_lt m 2
  have c1 := oct_own s 4 (by omega)
  have c2 := oct_own d 4 (by omega)
  have c3 := oct_own m 2 (by omega)
  have hP : psO s d p m = A ++ D ++ [0, p] ++ M := by unfold psO; rw [hA, hD, hM]
  rw [hA] at c1
  rw [hD] at c2
  rw [hM] at c3
  rw [hP]
  clear hA hD hM hP
  obtain ⟨R, hR⟩ : ∃ R, Mt.sumO (A ++ D ++ [0, p] ++ M) = R := ⟨_, rfl⟩
  rw [hR]
  have HR := Lib.hid hR; clear hR
  have C1 := Lib.hid c1
  have C2 := Lib.hid c2
  have C3 := Lib.hid c3
  have LA := Lib.hid lA
  have LD := Lib.hid lD
  have LM := Lib.hid lM
  have XX := Lib.hid (And.intro xA (And.intro xD xM))
  clear c1 c2 c3 lA lD lM xA xD xM
  go_wp2_with fail
  refine (C1.out _).mono ?_
  rintro e w1 ⟨rfl, r1, -, b1⟩
  have R1 := Lib.hid r1; clear r1
  go_wp2_with fail
  refine (C2.out _).mono ?_
  rintro e w2 ⟨rfl, -, s2, b2⟩
  have r1 := row_below R1.out b2
  have S2 := Lib.hid (Bts.src s2)
  have q2 := b1.trans (b2.mono b1.size)
  clear R1 s2 b1 b2
  go_wp2_with (first | (at_builtin; refine wpList_append_own _ rfl _ _ 25 rfl w.heap.size 5 i0 (.int .u8 0) 1 1 Try.underlying25 hi hz0 hz1 hz2 rfl (by decide) _ _ _ rfl r1 ⟨w1.heap.size, 0, none⟩ 4 4 (D.map fun x => Value.int .u8 ((x : Nat) : Int)) rfl (by rw [List.length_map, LD.out]) S2.out (by simp [Value.oneCell']) (by unfold maxLen; omega) (by omega) q2.size ?_; intro v' w3 hown hgrow _; obtain ⟨g, cap, rfl⟩ := ownsRow_succ (k := 7) hown; have HO := Lib.hid hown; have HG := Lib.hid hgrow; clear hown hgrow r1 S2; have q3 : Below w.heap.size w w3 := q2.grown HG.out q2.size (fun k e => by cases e; exact Nat.le_refl _); have hgB : w.heap.size ≤ g := (HO.out.lt g rfl).1; have r3 := HO.out.alloc (.cells #[.int .u8 0, .int .u8 p] 5); have S3 := Lib.hid (Bts.src (bts_new w3 [0, p] 5 (two_lt p hp))); have q3' := q3.alloc q3.size (.cells #[.int .u8 0, .int .u8 p] 5); clear HO HG q2) | (at_builtin; refine wpList_append_own _ rfl _ _ 25 rfl w.heap.size 5 i0 (.int .u8 0) 1 1 Try.underlying25 hi hz0 hz1 hz2 rfl (by decide) _ _ _ rfl r3 ⟨w3.heap.size, 0, none⟩ 2 2 [.int .u8 0, .int .u8 p] rfl rfl S3.out (by simp [Value.oneCell']) (by unfold maxLen; omega) (by omega) q3'.size ?_; intro v' w4 hown hgrow _; obtain ⟨g4, cap4, rfl⟩ := ownsRow_succ (k := 9) hown; have HO := Lib.hid hown; have HG := Lib.hid hgrow; clear hown hgrow r3 S3))
  have q4 : Below w.heap.size w w4 := q3'.grown HG.out q3'.size (fun k e => by cases e; exact hgB)
  have hgB4 : w.heap.size ≤ g4 := (HO.out.lt g4 rfl).1
  clear HG q3 q3' hgB
  refine (C3.out _).mono ?_
  rintro e w5 ⟨rfl, -, s5, b5⟩
  have r5 := row_below HO.out b5
  have S5 := Lib.hid (Bts.src s5)
  have q5 := q4.trans (b5.mono q4.size)
  clear HO s5 b5 q4
  go_wp2_with (at_builtin; refine wpList_append_own _ rfl _ _ 25 rfl w.heap.size 5 i0 (.int .u8 0) 1 1 Try.underlying25 hi hz0 hz1 hz2 rfl (by decide) _ _ _ rfl r5 ⟨w4.heap.size, 0, none⟩ 2 2 (M.map fun x => Value.int .u8 ((x : Nat) : Int)) rfl (by rw [List.length_map, LM.out]) S5.out (by simp [Value.oneCell']) (by unfold maxLen; omega) (by omega) q5.size ?_; intro v' w6 hown hgrow _; obtain ⟨g6, cap6, rfl⟩ := ownsRow_succ (k := 11) hown; have HO := Lib.hid hown; have HG := Lib.hid hgrow; clear hown hgrow r5 S5)
  have q6 : Below w.heap.size w w6 := q5.grown HG.out q5.size (fun k e => by cases e; exact hgB4)
  have hlen : (A ++ D ++ [0, p] ++ M).length = 12 := by simp only [List.length_append, LA.out, LD.out, LM.out]; rfl
  have hbt : Bts w6 (some ⟨g6, 0, none⟩) (A ++ D ++ [0, p] ++ M) := by
    refine row_bts (B := w.heap.size) (cap := cap6) ?_ ?_
    · rw [hlen]
      simp only [List.map_append, List.map_cons, List.map_nil]
      exact HO.out
    · intro x hx
      simp only [List.mem_append] at hx
      rcases hx with ((hx | hx) | hx) | hx
      · exact XX.out.1 x hx
      · exact XX.out.2.1 x hx
      · simp at hx; omega
      · exact XX.out.2.2 x hx
  have hsum := refsum_any (some ⟨g6, 0, none⟩) (A ++ D ++ [0, p] ++ M) cap6 w6 hbt (by rw [hlen]; omega)
  rw [hlen, HR.out] at hsum
  have HS := Lib.hid hsum
  clear hsum hbt hlen HO HG
  refine HS.out.mono ?_
  rintro e w' ⟨rfl, rfl⟩
  go_wp2
  go_ret
  exact ⟨rfl, q6⟩
end Go.Proofs.Ytgmgoilleakdcaa

namespace Go.Proofs.Ytgmgoilleakdcaa
open Go.RowKit

set_option maxHeartbeats 1000000 in
theorem rwhole_any (a : Option Addr) (xs : List Nat) (cap src dst : Nat) (w : World) (h : Bts w a xs) (hl : xs.length ≤ 140737488355328) (hs : src < 4294967296) (hd : dst < 4294967296) :
    Calls Try.prog 29 #[.slice a xs.length cap, .int .u32 (src : Nat), .int .u32 (dst : Nat)] w fun e w' => e = .returned (.int .u16 (tcpSum xs src dst : Nat)) ∧ Below w.heap.size w w' := by
  have hS := Mt.sumO_le xs h.1
  have hP : Mt.tot (psW src dst 6 (xs.length : Nat)) ≤ 65535 := Mt.tot_le _ (psW_le src dst 6 _ hs hd (by omega))
  have RS := Lib.hid (refsum_any a xs cap w h hl)
  have RP : Hid (∀ W, Calls Try.prog 22 #[.int .u32 (src : Nat), .int .u32 (dst : Nat), .int .u8 6, .int .i64 (xs.length : Nat)] W fun e w' => e = .returned (.int .u16 (Mt.tot (psW src dst 6 (xs.length : Nat)) : Nat)) ∧ Below W.heap.size W w') := Lib.hid (fun W => refpseudo_any src dst 6 (xs.length : Nat) hs hd (by decide) W)
  have RA := Lib.hid (refadd_any _ _ hS hP)
  obtain ⟨ts, hts⟩ : ∃ z, tcpSum xs src dst = z := ⟨_, rfl⟩
  have hta : Mt.addw (Mt.sumO xs) (Mt.tot (psW src dst 6 (xs.length : Nat))) = ts := hts
  rw [hts]
  rw [hta] at RA
  obtain ⟨sm, hsm⟩ : ∃ z, Mt.sumO xs = z := ⟨_, rfl⟩
  obtain ⟨pm, hpm⟩ : ∃ z, Mt.tot (psW src dst 6 (xs.length : Nat)) = z := ⟨_, rfl⟩
  rw [hsm] at RS RA
  rw [hpm] at RP RA
  clear hta hts hsm hpm hS hP h
  go_enter Try.func29, Try.ntmps29
  go_wp2_with (first
    | (go_at_call 21; with_reducible refine RS.out.mono ?_; rintro e w' ⟨rfl, rfl⟩)
    | (go_at_call 22; with_reducible refine (RP.out _).mono ?_; rintro e V1 ⟨rfl, b⟩; have Q1 := Lib.hid b; clear b)
    | (go_at_call 20; with_reducible refine (RA.out _).mono ?_; rintro e w' ⟨rfl, rfl⟩)
    | fail)
  go_ret
  exact ⟨rfl, Q1.out⟩

set_option maxRecDepth 100000 in
set_option maxHeartbeats 1000000 in
theorem rtcpP_short (a : Option Addr) (xs : List Nat) (cap src dst : Nat) (w : World) (hl : xs.length < 20) :
    Calls Try.prog 11 #[.slice a xs.length cap, .int .u32 src, .int .u32 dst] w fun e w' => e = .returned (.tuple #[.agg tcpZ, .int .i64 8]) ∧ Below w.heap.size w w' := by
  have bw := (Below.refl _ w).alloc (Nat.le_refl _) (.cells tcpZ 27)
  have K := Lib.hid (blk_new w (.cells tcpZ 27))
  have Q := Lib.hid bw
  clear bw
  unfold tcpZ at K Q
  go_enter Try.func11, Try.ntmps11
  go_wp2_with ((with_reducible show wpList _ _ _ _ _ _); refine wpList_store_tcp rfl (.tmp 6) (.tmp 15) rfl w.heap.size _ _ rfl rfl K.out rfl rfl (by simp [Value.oneCell']) ?_; intro V2 hs2 hg2; have K2 := Lib.hid hs2; have Q2 := Lib.hid (Q.out.grown hg2 Q.out.size (fun j e => by cases e; exact Nat.le_refl _)); clear hs2 hg2)
  exact bodyPost_ret (results_tcp rfl _ _ w.heap.size _ _ rfl rfl K2.out rfl) rfl ⟨rfl, Q2.out⟩

set_option maxRecDepth 100000 in
set_option maxHeartbeats 1000000 in
theorem rtcpP_long (a : Option Addr) (xs : List Nat) (cap src dst : Nat) (w : World) (hl : 65535 < xs.length) :
    Calls Try.prog 11 #[.slice a xs.length cap, .int .u32 src, .int .u32 dst] w fun e w' => e = .returned (.tuple #[.agg tcpZ, .int .i64 5]) ∧ Below w.heap.size w w' := by
  have i1 : ¬ (xs.length : Int) < 20 := by omega
  have i2 : (65535 : Int) < (xs.length : Int) := by omega
  clear hl
  have bw := (Below.refl _ w).alloc (Nat.le_refl _) (.cells tcpZ 27)
  have K := Lib.hid (blk_new w (.cells tcpZ 27))
  have Q := Lib.hid bw
  clear bw
  unfold tcpZ at K Q
  go_enter Try.func11, Try.ntmps11
  go_wp2_with ((with_reducible show wpList _ _ _ _ _ _); refine wpList_store_tcp rfl (.tmp 6) (.tmp 20) rfl w.heap.size _ _ rfl rfl K.out rfl rfl (by simp [Value.oneCell']) ?_; intro V2 hs2 hg2; have K2 := Lib.hid hs2; have Q2 := Lib.hid (Q.out.grown hg2 Q.out.size (fun j e => by cases e; exact Nat.le_refl _)); clear hs2 hg2)
  exact bodyPost_ret (results_tcp rfl _ _ w.heap.size _ _ rfl rfl K2.out rfl) rfl ⟨rfl, Q2.out⟩

set_option maxRecDepth 100000 in
set_option maxHeartbeats 2000000 in
theorem rtcpP_head (b off : Nat) (xs : List Nat) (cap src dst : Nat) (w : World) (x12 q hd : Nat) (hb : b < w.heap.size) (hl20 : 20 ≤ xs.length) (hlm : xs.length ≤ 65535) (c12 : w.cell? ⟨b, off + 12, none⟩ = some (.int .u8 (x12 : Nat))) (hx : x12 < 256) (hq : x12 / 16 = q) (hhd : 4 * q = hd) (hbad : hd < 20 ∨ xs.length < hd) :
    Calls Try.prog 11 #[.slice (some ⟨b, off, none⟩) xs.length cap, .int .u32 src, .int .u32 dst] w fun e w' => e = .returned (.tuple #[.agg tcpZ, .int .i64 42]) ∧ Below w.heap.size w w' := by
  have i1 : ¬ (xs.length : Int) < 20 := by omega
  have i2 : ¬ (65535 : Int) < (xs.length : Int) := by omega
  have i12 : (12 : Int) < (xs.length : Int) := by omega
  have xq : (x12 : Int) / 16 = (q : Int) := by omega
  have xw : IntKind.i64.wrap (q : Int) = (q : Int) := IntWalk.i64_in _ (by omega)
  have xh : (q : Int) * 4 = (hd : Int) := by omega
  have xw2 : IntKind.i64.wrap (hd : Int) = (hd : Int) := IntWalk.i64_in _ (by omega)
  have nb : b ≠ w.heap.size := by omega
  by_cases h20 : hd < 20
  · have t1 : (hd : Int) < 20 := by omega
    clear hq hhd hbad h20 hl20 hlm hx
    have bw := (Below.refl _ w).alloc (Nat.le_refl _) (.cells tcpZ 27)
    have K := Lib.hid (blk_new w (.cells tcpZ 27))
    have Q := Lib.hid bw
    clear bw
    unfold tcpZ at K Q
    go_enter Try.func11, Try.ntmps11
    go_wp2_with ((with_reducible show wpList _ _ _ _ _ _); refine wpList_store_tcp rfl (.tmp 6) (.tmp 36) rfl w.heap.size _ _ rfl rfl K.out rfl rfl (by simp [Value.oneCell']) ?_; intro V2 hs2 hg2; have K2 := Lib.hid hs2; have Q2 := Lib.hid (Q.out.grown hg2 Q.out.size (fun j e => by cases e; exact Nat.le_refl _)); clear hs2 hg2)
    exact bodyPost_ret (results_tcp rfl _ _ w.heap.size _ _ rfl rfl K2.out rfl) rfl ⟨rfl, Q2.out⟩
  · have t1 : ¬ (hd : Int) < 20 := by omega
    have t2 : (xs.length : Int) < (hd : Int) := by omega
    clear hq hhd hbad h20 hl20 hlm hx
    have bw := (Below.refl _ w).alloc (Nat.le_refl _) (.cells tcpZ 27)
    have K := Lib.hid (blk_new w (.cells tcpZ 27))
    have Q := Lib.hid bw
    clear bw
    unfold tcpZ at K Q
    go_enter Try.func11, Try.ntmps11
    go_wp2_with ((with_reducible show wpList _ _ _ _ _ _); refine wpList_store_tcp rfl (.tmp 6) (.tmp 36) rfl w.heap.size _ _ rfl rfl K.out rfl rfl (by simp [Value.oneCell']) ?_; intro V2 hs2 hg2; have K2 := Lib.hid hs2; have Q2 := Lib.hid (Q.out.grown hg2 Q.out.size (fun j e => by cases e; exact Nat.le_refl _)); clear hs2 hg2)
    exact bodyPost_ret (results_tcp rfl _ _ w.heap.size _ _ rfl rfl K2.out rfl) rfl ⟨rfl, Q2.out⟩

set_option maxRecDepth 100000 in
set_option maxHeartbeats 4000000 in
theorem rtcpP_sum (b off : Nat) (xs : List Nat) (cap src dst : Nat) (w : World) (x12 q hd R : Nat) (hb : b < w.heap.size) (hl20 : 20 ≤ xs.length) (hlm : xs.length ≤ 65535) (c12 : w.cell? ⟨b, off + 12, none⟩ = some (.int .u8 (x12 : Nat))) (hx : x12 < 256) (hq : x12 / 16 = q) (hhd : 4 * q = hd) (h20 : 20 ≤ hd) (hle : hd ≤ xs.length)
    (hsum : ∀ W, Below w.heap.size w W → Calls Try.prog 29 #[.slice (some ⟨b, off, none⟩) xs.length cap, .int .u32 src, .int .u32 dst] W fun e W' => e = .returned (.int .u16 (R : Nat)) ∧ Below W.heap.size W W') (hR : R ≠ 65535) :
    Calls Try.prog 11 #[.slice (some ⟨b, off, none⟩) xs.length cap, .int .u32 src, .int .u32 dst] w fun e w' => e = .returned (.tuple #[.agg tcpZ, .int .i64 21]) ∧ Below w.heap.size w w' := by
  have i1 : ¬ (xs.length : Int) < 20 := by omega
  have i2 : ¬ (65535 : Int) < (xs.length : Int) := by omega
  have i12 : (12 : Int) < (xs.length : Int) := by omega
  have xq : (x12 : Int) / 16 = (q : Int) := by omega
  have xw : IntKind.i64.wrap (q : Int) = (q : Int) := IntWalk.i64_in _ (by omega)
  have xh : (q : Int) * 4 = (hd : Int) := by omega
  have xw2 : IntKind.i64.wrap (hd : Int) = (hd : Int) := IntWalk.i64_in _ (by omega)
  have nb : b ≠ w.heap.size := by omega
  have t1 : ¬ (hd : Int) < 20 := by omega
  have t2 : ¬ (xs.length : Int) < (hd : Int) := by omega
  have r1 : ((R : Int) != 65535) = true := by rw [bne_iff_ne]; omega
  have bn := blk_new w (.cells tcpZ 27)
  have bw := (Below.refl _ w).alloc (Nat.le_refl _) (.cells tcpZ 27)
  have HS := Lib.hid (hsum _ bw)
  have BN := Lib.hid bn
  have BW := Lib.hid bw
  have hsz : w.heap.size < (w.alloc (.cells tcpZ 27)).heap.size := by rw [World.size_alloc]; exact Nat.lt_succ_self _
  have HSZ := Lib.hid hsz
  clear hq hhd hle h20 hl20 hlm hx hsum hR bn bw hsz
  unfold tcpZ at HS BN BW HSZ
  go_enter Try.func11, Try.ntmps11
  go_wp2_with fail
  refine HS.out.mono ?_
  rintro e V ⟨rfl, b1⟩
  have K := Lib.hid ((b1.block w.heap.size HSZ.out).trans BN.out)
  have Q := Lib.hid (BW.out.trans (b1.mono (Nat.le_of_lt HSZ.out)))
  clear b1 BW BN HS HSZ
  go_wp2_with ((with_reducible show wpList _ _ _ _ _ _); refine wpList_store_tcp rfl (.tmp 6) (.tmp 43) rfl w.heap.size _ _ rfl rfl K.out rfl rfl (by simp [Value.oneCell']) ?_; intro V2 hs2 hg2; have K2 := Lib.hid hs2; have Q2 := Lib.hid (Q.out.grown hg2 Q.out.size (fun j e => by cases e; exact Nat.le_refl _)); clear hs2 hg2)
  exact bodyPost_ret (results_tcp rfl _ _ w.heap.size _ _ rfl rfl K2.out rfl) rfl ⟨rfl, Q2.out⟩
end Go.Proofs.Ytgmgoilleakdcaa

namespace Go.Proofs.Ytgmgoilleakdcaa
open Go.RowKit

set_option maxHeartbeats 400000 in
theorem copied_one (a : Option Addr) (xs : List Nat) (cap : Nat) (w : World) (hx : Bts w a xs) (hxl : xs.length ≤ 140737488355328) (hn : a = none → cap = 0) :
    Calls Try.prog 35 #[.slice a xs.length cap] w fun e w' => ∃ a' cap', e = .returned (.slice a' xs.length cap') ∧ OwnSl w.heap.size a' xs cap' w' ∧ Below w.heap.size w w' := by
  obtain ⟨i0, hi, hz0, hz1, hz2⟩ := info_parts info5
  go_enter Try.func35, Try.ntmps35
  cases a with
  | none =>
    obtain rfl : xs = [] := by
      rcases hx.2 with h | ⟨b, off, h, _⟩
      · exact h
      · cases h
    obtain rfl := hn rfl
    go_wp2
    go_ret
    exact ⟨none, 0, rfl, ⟨hx.1, .inl ⟨rfl, rfl, rfl⟩⟩, Below.refl _ _⟩
  | some ad =>
    have Hc := Lib.hid hx.src
    have Hx := Lib.hid hx.1
    clear hx
    go_wp2_with (at_builtin; refine wpList_append_own _ rfl _ _ 25 rfl w.heap.size 5 i0 (.int .u8 0) 1 1 Try.underlying25 hi hz0 hz1 hz2 rfl (by decide) _ _ _ rfl (World.ownsRow_nil _ _ _ _) ad xs.length cap (xs.map fun x => Value.int .u8 ((x : Nat) : Int)) rfl (by simp) Hc.out (by simp [Value.oneCell']) (by unfold maxLen; omega) (by omega) (Nat.le_refl _) ?_; intro v' w1 hown hgrow _)
    go_ret
    obtain ⟨a', cap', rfl, O⟩ := OwnSl.of_row (xs := xs) Hx.out (by simpa using hown)
    exact ⟨a', cap', rfl, O, (Below.refl _ _).grown hgrow (Nat.le_refl _) (fun k e => by cases e)⟩

end Go.Proofs.Ytgmgoilleakdcaa

namespace Go.Proofs.Ytgmgoilleakdcaa
open Go.RowKit Go.Maps

def RtcpO (B sp dp sq ak fl wn ur : Nat) (ds os : List Nat) (e : Ending) (w' : World) : Prop :=
  ∃ s va vc da dc, tOpts (os.length + 1) os [] tOpt0 = some s ∧ e = .returned (.tuple #[.agg (pC sp dp sq ak fl wn ur (.slice da ds.length dc) (.slice va s.bs.length vc) s), .int .i64 0]) ∧ OwnSl (B + 1) da ds dc w' ∧ OwnR 68 2 BC5 (B + 1) va s.bs vc w'
theorem Below.of_drew {W w' : World} (h : Below W.drew.heap.size W.drew w') : Below W.heap.size W w' := ((Below.refl _ W).drew).trans h
theorem step_load_tcp {ops : Array Oper} {op : Oper} {a : Act} {w : World} {K : Act → World → Prop} {Q : Exit → Act → World → Prop} {E : Prop} (hgd : op.guard = none) (x : Operand) (ho : op.op = .load 27 x)
    (g : Nat) (hx : a.eval x = .pointer (some ⟨g, 0, none⟩)) (cs : Array Value) (hb : TcpAt w g cs) (hs : cs.size = 16)
    (h : K (a.put op.dst (.agg cs)) w) : if Region.wanted op (yielded ops a.tmps) = true then Oper.wp Try.prog op a w K Q else E := by
  rw [if_pos (by simp [Region.wanted, hgd])]
  exact wp_load_mid 27 x ho g 0 hx cs.toList _ hb.range Try.underlying27 rfl (by rw [tcp_size]; simp [hs]) (by simpa using h)

set_option linter.unusedSimpArgs false in
set_option maxRecDepth 100000 in
set_option maxHeartbeats 8000000 in
theorem rtcpP_core (b off : Nat) (xs : List Nat) (cap src dst : Nat) (w : World) (x12 fl q hd sp dp sq ak wn ur : Nat) (hb : b < w.heap.size) (hl20 : 20 ≤ xs.length) (hlm : xs.length ≤ 65535) (hcp : xs.length ≤ cap) (c12 : w.cell? ⟨b, off + 12, none⟩ = some (.int .u8 (x12 : Nat))) (c13 : w.cell? ⟨b, off + 13, none⟩ = some (.int .u8 (fl : Nat))) (hx : x12 < 256) (hq : x12 / 16 = q) (hhd : 4 * q = hd) (h20 : 20 ≤ hd) (hle : hd ≤ xs.length)
    (hsum : ∀ W, Below w.heap.size w W → Calls Try.prog 29 #[.slice (some ⟨b, off, none⟩) xs.length cap, .int .u32 src, .int .u32 dst] W fun e W' => e = .returned (.int .u16 65535) ∧ Below W.heap.size W W')
    (nA : ∀ c W, Below w.heap.size w W → Calls Try.prog 34 #[.slice (some ⟨b, off, none⟩) 2 c] W fun e w' => e = .returned (.int .u32 (sp : Nat)) ∧ W = w') (hsp : sp < 65536)
    (nB : ∀ c W, Below w.heap.size w W → Calls Try.prog 34 #[.slice (some ⟨b, off + 2, none⟩) 2 c] W fun e w' => e = .returned (.int .u32 (dp : Nat)) ∧ W = w') (hdp : dp < 65536)
    (nC : ∀ c W, Below w.heap.size w W → Calls Try.prog 34 #[.slice (some ⟨b, off + 4, none⟩) 4 c] W fun e w' => e = .returned (.int .u32 (sq : Nat)) ∧ W = w') (hsq : sq < 4294967296)
    (nD : ∀ c W, Below w.heap.size w W → Calls Try.prog 34 #[.slice (some ⟨b, off + 8, none⟩) 4 c] W fun e w' => e = .returned (.int .u32 (ak : Nat)) ∧ W = w') (hak : ak < 4294967296)
    (nE : ∀ c W, Below w.heap.size w W → Calls Try.prog 34 #[.slice (some ⟨b, off + 14, none⟩) 2 c] W fun e w' => e = .returned (.int .u32 (wn : Nat)) ∧ W = w') (hwn : wn < 65536)
    (nF : ∀ c W, Below w.heap.size w W → Calls Try.prog 34 #[.slice (some ⟨b, off + 18, none⟩) 2 c] W fun e w' => e = .returned (.int .u32 (ur : Nat)) ∧ W = w') (hur : ur < 65536)
    (ds os : List Nat) (hds : Bts w (some ⟨b, off + hd, none⟩) ds) (hdl : ds.length = xs.length - hd) (hos : Bts w (some ⟨b, off + 20, none⟩) os) (hol : os.length = hd - 20) :
    Calls Try.prog 11 #[.slice (some ⟨b, off, none⟩) xs.length cap, .int .u32 src, .int .u32 dst] w fun e w' => Below w.heap.size w w' ∧ ((tOpts (os.length + 1) os [] tOpt0 = none ∧ e = .returned (.tuple #[.agg tcpZ, .int .i64 51])) ∨
      RtcpO w.heap.size sp dp sq ak fl wn ur ds os e w') := by
  have i1 : ¬ (xs.length : Int) < 20 := by omega
  have i2 : ¬ (65535 : Int) < (xs.length : Int) := by omega
  have i12 : (12 : Int) < (xs.length : Int) := by omega
  have i13 : (13 : Int) < (xs.length : Int) := by omega
  have xq : (x12 : Int) / 16 = (q : Int) := by omega
  have xw : IntKind.i64.wrap (q : Int) = (q : Int) := IntWalk.i64_in _ (by omega)
  have xh : (q : Int) * 4 = (hd : Int) := by omega
  have xw2 : IntKind.i64.wrap (hd : Int) = (hd : Int) := IntWalk.i64_in _ (by omega)
  have nb : b ≠ w.heap.size := by omega
  have t1 : ¬ (hd : Int) < 20 := by omega
  have t2 : ¬ (xs.length : Int) < (hd : Int) := by omega
  have ysp : IntKind.u16.wrap (sp : Int) = (sp : Int) := IntWalk.u16_in _ (by omega)
  have HnA := Lib.hid nA
  have ydp : IntKind.u16.wrap (dp : Int) = (dp : Int) := IntWalk.u16_in _ (by omega)
  have HnB := Lib.hid nB
  have ysq : IntKind.u32.wrap (sq : Int) = (sq : Int) := IntWalk.u32_in _ (by omega)
  have HnC := Lib.hid nC
  have yak : IntKind.u32.wrap (ak : Int) = (ak : Int) := IntWalk.u32_in _ (by omega)
  have HnD := Lib.hid nD
  have ywn : IntKind.u16.wrap (wn : Int) = (wn : Int) := IntWalk.u16_in _ (by omega)
  have HnE := Lib.hid nE
  have yur : IntKind.u16.wrap (ur : Int) = (ur : Int) := IntWalk.u16_in _ (by omega)
  have HnF := Lib.hid nF
  have k2 : (2 : Int) ≤ (cap : Int) := by omega
  have k4 : (4 : Int) ≤ (cap : Int) := by omega
  have k8 : (8 : Int) ≤ (cap : Int) := by omega
  have k12 : (12 : Int) ≤ (cap : Int) := by omega
  have k14 : (14 : Int) ≤ (cap : Int) := by omega
  have k16 : (16 : Int) ≤ (cap : Int) := by omega
  have k18 : (18 : Int) ≤ (cap : Int) := by omega
  have k20 : (20 : Int) ≤ (cap : Int) := by omega
  have z2 : ¬ cap = 2 := by omega
  have z4 : ¬ cap = 4 := by omega
  have z8 : ¬ cap = 8 := by omega
  have z14 : ¬ cap = 14 := by omega
  have z18 : ¬ cap = 18 := by omega
  have kh : (hd : Int) ≤ (cap : Int) := by omega
  have kl : (20 : Int) ≤ (hd : Int) := by omega
  have bn := blk_new w (.cells tcpZ 27)
  have bw := (Below.refl _ w).alloc (Nat.le_refl _) (.cells tcpZ 27)
  have HS := Lib.hid (hsum _ bw)
  have BN := Lib.hid bn
  have BW := Lib.hid bw
  have hsz : w.heap.size < (w.alloc (.cells tcpZ 27)).heap.size := by rw [World.size_alloc]; exact Nat.lt_succ_self _
  have HSZ := Lib.hid hsz
  have C13 := Lib.hid c13
  have HDS := Lib.hid hds
  have HDL := Lib.hid hdl
  have HOS := Lib.hid hos
  have HOL := Lib.hid hol
  have HCP := Lib.hid hcp
  have HHD := Lib.hid (And.intro h20 (And.intro hle hlm))
  clear hq hhd hle h20 hl20 hlm hx hsum bn bw hsz c13 hds hdl hos hol nA nB nC nD nE nF hsp hdp hsq hak hwn hur
  unfold tcpZ at HS BN BW HSZ
  go_enter Try.func11, Try.ntmps11
  go_wp2_with fail
  refine HS.out.mono ?_
  rintro e V ⟨rfl, b1⟩
  have K := Lib.hid ((b1.block w.heap.size HSZ.out).trans BN.out)
  have Q := Lib.hid (BW.out.trans (b1.mono (Nat.le_of_lt HSZ.out)))
  have hV : w.heap.size < V.heap.size := Nat.lt_of_lt_of_le HSZ.out b1.size
  clear b1 BW BN HS HSZ
  have c13 := (Q.out.cell (p := ⟨b, off + 13, none⟩) hb).trans C13.out
  have nV : b ≠ V.heap.size := by omega
  have gV := World.new_ne V ⟨b, off + 13, none⟩ c13
  have q0 := Lib.hid Q.out.drew
  have q1 := Lib.hid ((Q.out.alloc (Nat.le_of_lt hV) (.cells tcpZ 27)).drew)
  unfold tcpZ at q1
  have c13l0 := Lib.hid (show b < V.drew.heap.size from Nat.lt_trans hb hV)
  have c13l1 := Lib.hid (show b < (V.alloc (.cells tcpZ 27)).drew.heap.size by show b < (V.alloc _).heap.size; rw [World.size_alloc]; omega)
  unfold tcpZ at c13l1
  have hlen : ds.length ≤ 140737488355328 := by have := HDL.out; have := HHD.out; omega
  clear c12
  go_upto_region 10 with (fail)
  go_cut [9] from 11 (fun (v : Value) Wc => PcCut w sp dp sq ak fl wn ur ds v Wc)
  case first =>
    have hdz := HDL.out
    have hhz := HHD.out
    have c13d : V.drew.cell? ⟨b, off + 13, none⟩ = some (.int .u8 fl) := c13
    have c13a : (V.alloc (.cells #[.int .u16 0, .int .u16 0, .int .u32 0, .int .u32 0, .int .u8 0, .int .u16 0, .int .u16 0, .int .i64 0, .bool false, .int .i64 0, .bool false, .slice none 0 0, .bool false, .int .u32 0, .int .u32 0, .slice none 0 0] 27)).drew.cell? ⟨b, off + 13, none⟩ = some (.int .u8 fl) := (World.cell?_of_block (w := V) (Below.heap_alloc V _ b (Nat.lt_trans hb hV))).trans c13
    have lz1 := Lib.hid (show V.heap.size < (V.alloc (.cells #[.int .u16 0, .int .u16 0, .int .u32 0, .int .u32 0, .int .u8 0, .int .u16 0, .int .u16 0, .int .i64 0, .bool false, .int .i64 0, .bool false, .slice none 0 0, .bool false, .int .u32 0, .int .u32 0, .slice none 0 0] 27)).drew.heap.size by show V.heap.size < (V.alloc _).heap.size; rw [World.size_alloc]; exact Nat.lt_succ_self _)
    by_cases z : cap = hd
    case pos =>
      have hxl : xs.length = hd := by omega
      have HY : Hid (∀ W (ad : Option Addr), Below w.heap.size w W → ad = ad → Bts W ad ds) := Lib.hid (fun W ad _ _ => by rw [List.eq_nil_of_length_eq_zero (show ds.length = 0 by omega)]; exact Bts.nil _ _)
      have HMl : Hid (xs.length - hd = ds.length) := Lib.hid (by omega)
      have HCP2 : Hid (∀ c W, Below w.heap.size w W → Calls Try.prog 35 #[.slice (some ⟨b, off, none⟩) (xs.length - hd) c] W fun e w' => ∃ da dc, e = .returned (.slice da ds.length dc) ∧ OwnSl W.heap.size da ds dc w' ∧ Below W.heap.size W w') := Lib.hid (fun c W h => by rw [HMl.out]; exact copied_one _ ds c W (HY.out W _ h rfl) hlen (fun e => by cases e))
      subst z
      clear hxl hdz hhz hcp
      refine wp_region_held_drew (S := fun W => W.cell? ⟨b, off + 13, none⟩ = some (.int .u8 fl)) (by kernel_rfl) c13 (fun hHeld => ?_)
      refine wpAnyH_take (i := 0) (oi := _) (v := ?_) rfl (by kernel_rfl) (by kernel_rfl) (by kernel_rfl) (fun _ _ _ h => h) (Or.inl ⟨by rfl, ?_⟩) (by assumption) ?_
      rotate_left
      · intro w hSw
        try dsimp only at hSw
        go_simp
        all_goals with_reducible rfl
      (try simp only [List.getElem_toArray]); (try simp only [List.getElem_cons_succ]); (try simp only [List.getElem_cons_zero]); try simp only [Act.put, List.setIfInBounds_toArray, List.set_cons_zero, List.set_cons_succ]
      refine wpAnyH_take (i := 1) (oi := _) (v := ?_) rfl (by kernel_rfl) (by kernel_rfl) (by kernel_rfl) (fun _ _ _ h => h) (Or.inl ⟨by rfl, ?_⟩) (by assumption) ?_
      rotate_left
      · intro w hSw
        try dsimp only at hSw
        go_simp
        all_goals with_reducible rfl
      (try simp only [List.getElem_toArray]); (try simp only [List.getElem_cons_succ]); (try simp only [List.getElem_cons_zero]); try simp only [Act.put, List.setIfInBounds_toArray, List.set_cons_zero, List.set_cons_succ]
      refine wpAnyH_take (i := 4) (oi := _) (v := ?_) rfl (by kernel_rfl) (by kernel_rfl) (by kernel_rfl) (fun _ _ _ h => h) (Or.inl ⟨by rfl, ?_⟩) (by assumption) ?_
      rotate_left
      · intro w hSw
        try dsimp only at hSw
        go_simp
        all_goals with_reducible rfl
      (try simp only [List.getElem_toArray]); (try simp only [List.getElem_cons_succ]); (try simp only [List.getElem_cons_zero]); try simp only [Act.put, List.setIfInBounds_toArray, List.set_cons_zero, List.set_cons_succ]
      refine wpAnyH_take (i := 5) (oi := _) (v := ?_) rfl (by kernel_rfl) (by kernel_rfl) (by kernel_rfl) (fun _ _ _ h => h) (Or.inl ⟨by rfl, ?_⟩) (by assumption) ?_
      rotate_left
      · intro w hSw
        try dsimp only at hSw
        go_simp
        all_goals with_reducible rfl
      (try simp only [List.getElem_toArray]); (try simp only [List.getElem_cons_succ]); (try simp only [List.getElem_cons_zero]); try simp only [Act.put, List.setIfInBounds_toArray, List.set_cons_zero, List.set_cons_succ]
      refine wpAnyH_take (i := 8) (oi := _) (v := ?_) rfl (by kernel_rfl) (by kernel_rfl) (by kernel_rfl) (fun _ _ _ h => h) (Or.inl ⟨by rfl, ?_⟩) (by assumption) ?_
      rotate_left
      · intro w hSw
        try dsimp only at hSw
        go_simp
        all_goals with_reducible rfl
      (try simp only [List.getElem_toArray]); (try simp only [List.getElem_cons_succ]); (try simp only [List.getElem_cons_zero]); try simp only [Act.put, List.setIfInBounds_toArray, List.set_cons_zero, List.set_cons_succ]
      refine wpAnyH_take (i := 9) (oi := _) (v := ?_) rfl (by kernel_rfl) (by kernel_rfl) (by kernel_rfl) (fun _ _ _ h => h) (Or.inl ⟨by rfl, ?_⟩) (by assumption) ?_
      rotate_left
      · intro w hSw
        try dsimp only at hSw
        go_simp
        all_goals with_reducible rfl
      (try simp only [List.getElem_toArray]); (try simp only [List.getElem_cons_succ]); (try simp only [List.getElem_cons_zero]); try simp only [Act.put, List.setIfInBounds_toArray, List.set_cons_zero, List.set_cons_succ]
      refine wpAnyH_take (i := 11) (oi := _) (v := ?_) rfl (by kernel_rfl) (by kernel_rfl) (by kernel_rfl) (fun _ _ _ h => h) (Or.inl ⟨by rfl, ?_⟩) (by assumption) ?_
      rotate_left
      · intro w hSw
        try dsimp only at hSw
        go_simp
        all_goals with_reducible rfl
      (try simp only [List.getElem_toArray]); (try simp only [List.getElem_cons_succ]); (try simp only [List.getElem_cons_zero]); try simp only [Act.put, List.setIfInBounds_toArray, List.set_cons_zero, List.set_cons_succ]
      refine wpAnyH_take (i := 12) (oi := _) (v := ?_) rfl (by kernel_rfl) (by kernel_rfl) (by kernel_rfl) (fun _ _ _ h => h) (Or.inl ⟨by rfl, ?_⟩) (by assumption) ?_
      rotate_left
      · intro w hSw
        try dsimp only at hSw
        go_simp
        all_goals with_reducible rfl
      (try simp only [List.getElem_toArray]); (try simp only [List.getElem_cons_succ]); (try simp only [List.getElem_cons_zero]); try simp only [Act.put, List.setIfInBounds_toArray, List.set_cons_zero, List.set_cons_succ]
      refine wpAnyH_take (i := 14) (oi := _) (v := ?_) rfl (by kernel_rfl) (by kernel_rfl) (by kernel_rfl) (fun _ _ _ h => h) (Or.inl ⟨by rfl, ?_⟩) (by assumption) ?_
      rotate_left
      · intro w hSw
        try dsimp only at hSw
        go_simp
        all_goals with_reducible rfl
      (try simp only [List.getElem_toArray]); (try simp only [List.getElem_cons_succ]); (try simp only [List.getElem_cons_zero]); try simp only [Act.put, List.setIfInBounds_toArray, List.set_cons_zero, List.set_cons_succ]
      refine wpAnyH_take (i := 15) (oi := _) (v := ?_) rfl (by kernel_rfl) (by kernel_rfl) (by kernel_rfl) (fun _ _ _ h => h) (Or.inl ⟨by rfl, ?_⟩) (by assumption) ?_
      rotate_left
      · intro w hSw
        try dsimp only at hSw
        go_simp
        all_goals with_reducible rfl
      (try simp only [List.getElem_toArray]); (try simp only [List.getElem_cons_succ]); (try simp only [List.getElem_cons_zero]); try simp only [Act.put, List.setIfInBounds_toArray, List.set_cons_zero, List.set_cons_succ]
      refine wpAnyH_take (i := 16) (oi := _) (v := ?_) rfl (by kernel_rfl) (by kernel_rfl) (by kernel_rfl) (fun _ _ _ h => h) (Or.inl ⟨by rfl, ?_⟩) (by assumption) ?_
      rotate_left
      · intro w hSw
        try dsimp only at hSw
        go_simp
        all_goals with_reducible rfl
      (try simp only [List.getElem_toArray]); (try simp only [List.getElem_cons_succ]); (try simp only [List.getElem_cons_zero]); try simp only [Act.put, List.setIfInBounds_toArray, List.set_cons_zero, List.set_cons_succ]
      refine wpAnyH_take (i := 17) (oi := _) (v := ?_) rfl (by kernel_rfl) (by kernel_rfl) (by kernel_rfl) (fun _ _ _ h => h) (Or.inl ⟨by rfl, ?_⟩) (by assumption) ?_
      rotate_left
      · intro w hSw
        try dsimp only at hSw
        go_simp
        all_goals with_reducible rfl
      (try simp only [List.getElem_toArray]); (try simp only [List.getElem_cons_succ]); (try simp only [List.getElem_cons_zero]); try simp only [Act.put, List.setIfInBounds_toArray, List.set_cons_zero, List.set_cons_succ]
      refine wpAnyH_take (i := 18) (oi := _) (v := ?_) rfl (by kernel_rfl) (by kernel_rfl) (by kernel_rfl) (fun _ _ _ h => h) (Or.inl ⟨by rfl, ?_⟩) (by assumption) ?_
      rotate_left
      · intro w hSw
        try dsimp only at hSw
        go_simp
        all_goals with_reducible rfl
      (try simp only [List.getElem_toArray]); (try simp only [List.getElem_cons_succ]); (try simp only [List.getElem_cons_zero]); try simp only [Act.put, List.setIfInBounds_toArray, List.set_cons_zero, List.set_cons_succ]
      refine wpAnyH_take (i := 21) (oi := _) (v := ?_) rfl (by kernel_rfl) (by kernel_rfl) (by kernel_rfl) (fun _ _ _ h => h) (Or.inl ⟨by rfl, ?_⟩) (by assumption) ?_
      rotate_left
      · intro w hSw
        try dsimp only at hSw
        go_simp
        all_goals with_reducible rfl
      (try simp only [List.getElem_toArray]); (try simp only [List.getElem_cons_succ]); (try simp only [List.getElem_cons_zero]); try simp only [Act.put, List.setIfInBounds_toArray, List.set_cons_zero, List.set_cons_succ]
      refine wpAnyH_take (i := 22) (oi := _) (v := ?_) rfl (by kernel_rfl) (by kernel_rfl) (by kernel_rfl) (fun _ _ _ h => h) (Or.inl ⟨by rfl, ?_⟩) (by assumption) ?_
      rotate_left
      · intro w hSw
        try dsimp only at hSw
        go_simp
        all_goals with_reducible rfl
      (try simp only [List.getElem_toArray]); (try simp only [List.getElem_cons_succ]); (try simp only [List.getElem_cons_zero]); try simp only [Act.put, List.setIfInBounds_toArray, List.set_cons_zero, List.set_cons_succ]
      refine wpAnyH_take (i := 25) (oi := _) (v := ?_) rfl (by kernel_rfl) (by kernel_rfl) (by kernel_rfl) (fun _ _ _ h => h) (Or.inl ⟨by rfl, ?_⟩) (by assumption) ?_
      rotate_left
      · intro w hSw
        try dsimp only at hSw
        go_simp
        all_goals with_reducible rfl
      (try simp only [List.getElem_toArray]); (try simp only [List.getElem_cons_succ]); (try simp only [List.getElem_cons_zero]); try simp only [Act.put, List.setIfInBounds_toArray, List.set_cons_zero, List.set_cons_succ]
      refine wpAnyH_take (i := 26) (oi := _) (v := ?_) rfl (by kernel_rfl) (by kernel_rfl) (by kernel_rfl) (fun _ _ _ h => h) (Or.inl ⟨by rfl, ?_⟩) (by assumption) ?_
      rotate_left
      · intro w hSw
        try dsimp only at hSw
        go_simp
        all_goals with_reducible rfl
      (try simp only [List.getElem_toArray]); (try simp only [List.getElem_cons_succ]); (try simp only [List.getElem_cons_zero]); try simp only [Act.put, List.setIfInBounds_toArray, List.set_cons_zero, List.set_cons_succ]
      refine wpAnyH_take (i := 27) (oi := _) (v := ?_) rfl (by kernel_rfl) (by kernel_rfl) (by kernel_rfl) (fun _ _ _ h => h) (Or.inl ⟨by rfl, ?_⟩) (by assumption) ?_
      rotate_left
      · intro w hSw
        try dsimp only at hSw
        go_simp
        all_goals with_reducible rfl
      (try simp only [List.getElem_toArray]); (try simp only [List.getElem_cons_succ]); (try simp only [List.getElem_cons_zero]); try simp only [Act.put, List.setIfInBounds_toArray, List.set_cons_zero, List.set_cons_succ]
      refine wpAnyH_ready (rs := [2, 30]) (by kernel_rfl) (by simp) ?_
      refine (AllReadyH.cons (o := _) rfl (fun K hK => ?_) (AllReadyH.cons (o := _) rfl (fun K hK => ?_) AllReadyH.nil))
      · (try simp only [List.getElem_toArray]); (try simp only [List.getElem_cons_succ]); (try simp only [List.getElem_cons_zero])
        go_simp
        go_at_call 34
        (with_reducible refine (HnA.out _ _ (by first | exact q0.out | exact q1.out)).mono ?_)
        rintro e w' ⟨rfl, rfl⟩
        try dsimp only
        refine hK.out _ _ ?_ (fun hHeld => ?_)
        · first | exact c13 | exact c13z | exact c13a | exact c13b | go_keep
        clear hK K
        (try simp only [List.getElem_toArray]); (try simp only [List.getElem_cons_succ]); (try simp only [List.getElem_cons_zero]); try simp only [Act.put, List.setIfInBounds_toArray, List.set_cons_zero, List.set_cons_succ]
        refine wpAnyH_take (i := 3) (oi := _) (v := ?_) rfl (by kernel_rfl) (by kernel_rfl) (by kernel_rfl) (fun _ _ _ h => h) (Or.inl ⟨by rfl, ?_⟩) (by assumption) ?_
        rotate_left
        · intro w hSw
          try dsimp only at hSw
          go_simp
          all_goals with_reducible rfl
        (try simp only [List.getElem_toArray]); (try simp only [List.getElem_cons_succ]); (try simp only [List.getElem_cons_zero]); try simp only [Act.put, List.setIfInBounds_toArray, List.set_cons_zero, List.set_cons_succ]
        refine wpAnyH_ready (rs := [6, 30]) (by kernel_rfl) (by simp) ?_
        refine (AllReadyH.cons (o := _) rfl (fun K hK => ?_) (AllReadyH.cons (o := _) rfl (fun K hK => ?_) AllReadyH.nil))
        · (try simp only [List.getElem_toArray]); (try simp only [List.getElem_cons_succ]); (try simp only [List.getElem_cons_zero])
          go_simp
          go_at_call 34
          (with_reducible refine (HnB.out _ _ (by first | exact q0.out | exact q1.out)).mono ?_)
          rintro e w' ⟨rfl, rfl⟩
          try dsimp only
          refine hK.out _ _ ?_ (fun hHeld => ?_)
          · first | exact c13 | exact c13z | exact c13a | exact c13b | go_keep
          clear hK K
          (try simp only [List.getElem_toArray]); (try simp only [List.getElem_cons_succ]); (try simp only [List.getElem_cons_zero]); try simp only [Act.put, List.setIfInBounds_toArray, List.set_cons_zero, List.set_cons_succ]
          refine wpAnyH_take (i := 7) (oi := _) (v := ?_) rfl (by kernel_rfl) (by kernel_rfl) (by kernel_rfl) (fun _ _ _ h => h) (Or.inl ⟨by rfl, ?_⟩) (by assumption) ?_
          rotate_left
          · intro w hSw
            try dsimp only at hSw
            go_simp
            all_goals with_reducible rfl
          (try simp only [List.getElem_toArray]); (try simp only [List.getElem_cons_succ]); (try simp only [List.getElem_cons_zero]); try simp only [Act.put, List.setIfInBounds_toArray, List.set_cons_zero, List.set_cons_succ]
          refine wpAnyH_ready (rs := [10, 30]) (by kernel_rfl) (by simp) ?_
          refine (AllReadyH.cons (o := _) rfl (fun K hK => ?_) (AllReadyH.cons (o := _) rfl (fun K hK => ?_) AllReadyH.nil))
          · (try simp only [List.getElem_toArray]); (try simp only [List.getElem_cons_succ]); (try simp only [List.getElem_cons_zero])
            go_simp
            go_at_call 34
            (with_reducible refine (HnC.out _ _ (by first | exact q0.out | exact q1.out)).mono ?_)
            rintro e w' ⟨rfl, rfl⟩
            try dsimp only
            refine hK.out _ _ ?_ (fun hHeld => ?_)
            · first | exact c13 | exact c13z | exact c13a | exact c13b | go_keep
            clear hK K
            (try simp only [List.getElem_toArray]); (try simp only [List.getElem_cons_succ]); (try simp only [List.getElem_cons_zero]); try simp only [Act.put, List.setIfInBounds_toArray, List.set_cons_zero, List.set_cons_succ]
            refine wpAnyH_ready (rs := [13, 30]) (by kernel_rfl) (by simp) ?_
            refine (AllReadyH.cons (o := _) rfl (fun K hK => ?_) (AllReadyH.cons (o := _) rfl (fun K hK => ?_) AllReadyH.nil))
            · (try simp only [List.getElem_toArray]); (try simp only [List.getElem_cons_succ]); (try simp only [List.getElem_cons_zero])
              go_simp
              go_at_call 34
              (with_reducible refine (HnD.out _ _ (by first | exact q0.out | exact q1.out)).mono ?_)
              rintro e w' ⟨rfl, rfl⟩
              try dsimp only
              refine hK.out _ _ ?_ (fun hHeld => ?_)
              · first | exact c13 | exact c13z | exact c13a | exact c13b | go_keep
              clear hK K
              (try simp only [List.getElem_toArray]); (try simp only [List.getElem_cons_succ]); (try simp only [List.getElem_cons_zero]); try simp only [Act.put, List.setIfInBounds_toArray, List.set_cons_zero, List.set_cons_succ]
              refine wpAnyH_ready (rs := [19, 30]) (by kernel_rfl) (by simp) ?_
              refine (AllReadyH.cons (o := _) rfl (fun K hK => ?_) (AllReadyH.cons (o := _) rfl (fun K hK => ?_) AllReadyH.nil))
              · (try simp only [List.getElem_toArray]); (try simp only [List.getElem_cons_succ]); (try simp only [List.getElem_cons_zero])
                go_simp
                go_at_call 34
                (with_reducible refine (HnE.out _ _ (by first | exact q0.out | exact q1.out)).mono ?_)
                rintro e w' ⟨rfl, rfl⟩
                try dsimp only
                refine hK.out _ _ ?_ (fun hHeld => ?_)
                · first | exact c13 | exact c13z | exact c13a | exact c13b | go_keep
                clear hK K
                (try simp only [List.getElem_toArray]); (try simp only [List.getElem_cons_succ]); (try simp only [List.getElem_cons_zero]); try simp only [Act.put, List.setIfInBounds_toArray, List.set_cons_zero, List.set_cons_succ]
                refine wpAnyH_take (i := 20) (oi := _) (v := ?_) rfl (by kernel_rfl) (by kernel_rfl) (by kernel_rfl) (fun _ _ _ h => h) (Or.inl ⟨by rfl, ?_⟩) (by assumption) ?_
                rotate_left
                · intro w hSw
                  try dsimp only at hSw
                  go_simp
                  all_goals with_reducible rfl
                (try simp only [List.getElem_toArray]); (try simp only [List.getElem_cons_succ]); (try simp only [List.getElem_cons_zero]); try simp only [Act.put, List.setIfInBounds_toArray, List.set_cons_zero, List.set_cons_succ]
                refine wpAnyH_ready (rs := [23, 30]) (by kernel_rfl) (by simp) ?_
                refine (AllReadyH.cons (o := _) rfl (fun K hK => ?_) (AllReadyH.cons (o := _) rfl (fun K hK => ?_) AllReadyH.nil))
                · (try simp only [List.getElem_toArray]); (try simp only [List.getElem_cons_succ]); (try simp only [List.getElem_cons_zero])
                  go_simp
                  go_at_call 34
                  (with_reducible refine (HnF.out _ _ (by first | exact q0.out | exact q1.out)).mono ?_)
                  rintro e w' ⟨rfl, rfl⟩
                  try dsimp only
                  refine hK.out _ _ ?_ (fun hHeld => ?_)
                  · first | exact c13 | exact c13z | exact c13a | exact c13b | go_keep
                  clear hK K
                  (try simp only [List.getElem_toArray]); (try simp only [List.getElem_cons_succ]); (try simp only [List.getElem_cons_zero]); try simp only [Act.put, List.setIfInBounds_toArray, List.set_cons_zero, List.set_cons_succ]
                  refine wpAnyH_take (i := 24) (oi := _) (v := ?_) rfl (by kernel_rfl) (by kernel_rfl) (by kernel_rfl) (fun _ _ _ h => h) (Or.inl ⟨by rfl, ?_⟩) (by assumption) ?_
                  rotate_left
                  · intro w hSw
                    try dsimp only at hSw
                    go_simp
                    all_goals with_reducible rfl
                  (try simp only [List.getElem_toArray]); (try simp only [List.getElem_cons_succ]); (try simp only [List.getElem_cons_zero]); try simp only [Act.put, List.setIfInBounds_toArray, List.set_cons_zero, List.set_cons_succ]
                  refine wpAnyH_ready (rs := [28, 30]) (by kernel_rfl) (by simp) ?_
                  refine (AllReadyH.cons (o := _) rfl (fun K hK => ?_) (AllReadyH.cons (o := _) rfl (fun K hK => ?_) AllReadyH.nil))
                  · (try simp only [List.getElem_toArray]); (try simp only [List.getElem_cons_succ]); (try simp only [List.getElem_cons_zero])
                    go_simp
                    go_at_call 35
                    refine (HCP2.out _ _ (by first | exact q0.out | exact q1.out)).mono ?_
                    rintro e V2 ⟨da, dc, rfl, O, bb⟩
                    try dsimp only
                    have c13z := (bb.cell (p := ⟨b, off + 13, none⟩) c13l0.out).trans c13d
                    have hO := Lib.hid O
                    have hbb := Lib.hid bb
                    clear O bb
                    refine hK.out _ _ ?_ (fun hHeld => ?_)
                    · first | exact c13 | exact c13z | exact c13a | exact c13b | go_keep
                    clear hK K
                    (try simp only [List.getElem_toArray]); (try simp only [List.getElem_cons_succ]); (try simp only [List.getElem_cons_zero]); try simp only [Act.put, List.setIfInBounds_toArray, List.set_cons_zero, List.set_cons_succ]
                    refine wpAnyH_take (i := 29) (oi := _) (v := ?_) rfl (by kernel_rfl) (by kernel_rfl) (by kernel_rfl) (fun _ _ _ h => h) (Or.inl ⟨by rfl, ?_⟩) (by assumption) ?_
                    rotate_left
                    · intro w hSw
                      try dsimp only at hSw
                      go_simp
                      all_goals with_reducible rfl
                    (try simp only [List.getElem_toArray]); (try simp only [List.getElem_cons_succ]); (try simp only [List.getElem_cons_zero]); try simp only [Act.put, List.setIfInBounds_toArray, List.set_cons_zero, List.set_cons_succ]
                    refine wpAnyH_ready (rs := [30]) (by kernel_rfl) (by simp) ?_
                    refine (AllReadyH.cons (o := _) rfl (fun K hK => ?_) AllReadyH.nil)
                    · (try simp only [List.getElem_toArray]); (try simp only [List.getElem_cons_succ]); (try simp only [List.getElem_cons_zero])
                      go_simp
                      refine hK.out _ _ ?_ (fun hHeld => ?_)
                      · first | exact c13z | go_keep
                      clear hK K
                      (try simp only [List.getElem_toArray]); (try simp only [List.getElem_cons_succ]); (try simp only [List.getElem_cons_zero]); try simp only [Act.put, List.setIfInBounds_toArray, List.set_cons_zero, List.set_cons_succ]
                      have K2 := Lib.hid (blk_new V2 (.cells #[.int .u16 0, .int .u16 0, .int .u32 0, .int .u32 0, .int .u8 0, .int .u16 0, .int .u16 0, .int .i64 0, .bool false, .int .i64 0, .bool false, .slice none 0 0, .bool false, .int .u32 0, .int .u32 0, .slice none 0 0] 27))
                      refine wpAnyH_ready (rs := [31]) (by kernel_rfl) (by simp) ?_
                      refine (AllReadyH.cons (o := _) rfl (fun K hK => ?_) AllReadyH.nil)
                      · have c13w := (World.cell?_of_block (w := V2) (w' := V2.alloc (.cells #[.int .u16 0, .int .u16 0, .int .u32 0, .int .u32 0, .int .u8 0, .int .u16 0, .int .u16 0, .int .i64 0, .bool false, .int .i64 0, .bool false, .slice none 0 0, .bool false, .int .u32 0, .int .u32 0, .slice none 0 0] 27)) (Below.heap_alloc V2 _ b (by have := hbb.out.size; have := c13l0.out; omega))).trans c13z
                        refine step_store_tcp ?_ (.tmp 9) (.tmp 73) ?_ V2.heap.size _ (pC sp dp sq ak fl wn ur (.slice da ds.length dc) (.slice none 0 0) tOpt0) ?_ ?_ K2.out ?_ ?_ ?_ ?_
                        · rfl
                        · rfl
                        · rfl
                        · rfl
                        · rfl
                        · rfl
                        · simp [pC, Value.oneCell']
                        intro V5 h5 g5
                        have hs2 := Lib.hid h5
                        have hg2 := Lib.hid g5
                        have c13y := (World.cell?_of_block (w := (V2.alloc (.cells #[.int .u16 0, .int .u16 0, .int .u32 0, .int .u32 0, .int .u8 0, .int .u16 0, .int .u16 0, .int .i64 0, .bool false, .int .i64 0, .bool false, .slice none 0 0, .bool false, .int .u32 0, .int .u32 0, .slice none 0 0] 27))) (w' := V5) (g5.block b (by rw [World.size_alloc]; have := hbb.out.size; have := c13l0.out; omega) (fun e => (fun e => by have := hbb.out.size; have := c13l0.out; omega) (Option.some.inj e)))).trans c13w
                        clear h5 g5
                        refine hK.out _ _ ?_ (fun hHeld => ?_)
                        · exact c13y
                        clear hK K
                        refine wpAnyH_done (by kernel_rfl) ?_ _
                        go_wp2
                        go_meet
                        case rel => exact PcCut.two K.out Q.out hV hO.out hbb.out hs2.out hg2.out
                  · (try simp only [List.getElem_toArray]); (try simp only [List.getElem_cons_succ]); (try simp only [List.getElem_cons_zero])
                    go_simp
                    refine hK.out _ _ ?_ (fun hHeld => ?_)
                    · exact c13a
                    clear hK K
                    (try simp only [List.getElem_toArray]); (try simp only [List.getElem_cons_succ]); (try simp only [List.getElem_cons_zero]); try simp only [Act.put, List.setIfInBounds_toArray, List.set_cons_zero, List.set_cons_succ]
                    refine wpAnyH_ready (rs := [28]) (by kernel_rfl) (by simp) ?_
                    refine (AllReadyH.cons (o := _) rfl (fun K hK => ?_) AllReadyH.nil)
                    · (try simp only [List.getElem_toArray]); (try simp only [List.getElem_cons_succ]); (try simp only [List.getElem_cons_zero])
                      go_simp
                      go_at_call 35
                      refine (HCP2.out _ _ (by first | exact q0.out | exact q1.out)).mono ?_
                      rintro e V2 ⟨da, dc, rfl, O, bb⟩
                      try dsimp only
                      have c13z := (bb.cell (p := ⟨b, off + 13, none⟩) c13l1.out).trans c13a
                      have hO := Lib.hid O
                      have hbb := Lib.hid bb
                      clear O bb
                      refine hK.out _ _ ?_ (fun hHeld => ?_)
                      · first | exact c13 | exact c13z | exact c13a | exact c13b | go_keep
                      clear hK K
                      (try simp only [List.getElem_toArray]); (try simp only [List.getElem_cons_succ]); (try simp only [List.getElem_cons_zero]); try simp only [Act.put, List.setIfInBounds_toArray, List.set_cons_zero, List.set_cons_succ]
                      have K2 := Lib.hid ((hbb.out.block V.heap.size lz1.out).trans (blk_new V (.cells #[.int .u16 0, .int .u16 0, .int .u32 0, .int .u32 0, .int .u8 0, .int .u16 0, .int .u16 0, .int .i64 0, .bool false, .int .i64 0, .bool false, .slice none 0 0, .bool false, .int .u32 0, .int .u32 0, .slice none 0 0] 27)))
                      refine wpAnyH_take (i := 29) (oi := _) (v := ?_) rfl (by kernel_rfl) (by kernel_rfl) (by kernel_rfl) (fun _ _ _ h => h) (Or.inl ⟨by rfl, ?_⟩) (by assumption) ?_
                      rotate_left
                      · intro w hSw
                        try dsimp only at hSw
                        go_simp
                        all_goals with_reducible rfl
                      (try simp only [List.getElem_toArray]); (try simp only [List.getElem_cons_succ]); (try simp only [List.getElem_cons_zero]); try simp only [Act.put, List.setIfInBounds_toArray, List.set_cons_zero, List.set_cons_succ]
                      refine wpAnyH_ready (rs := [31]) (by kernel_rfl) (by simp) ?_
                      refine (AllReadyH.cons (o := _) rfl (fun K hK => ?_) AllReadyH.nil)
                      · refine step_store_tcp ?_ (.tmp 9) (.tmp 73) ?_ V.heap.size _ (pC sp dp sq ak fl wn ur (.slice da ds.length dc) (.slice none 0 0) tOpt0) ?_ ?_ K2.out ?_ ?_ ?_ ?_
                        · rfl
                        · rfl
                        · rfl
                        · rfl
                        · rfl
                        · rfl
                        · simp [pC, Value.oneCell']
                        intro V5 h5 g5
                        have hs2 := Lib.hid h5
                        have hg2 := Lib.hid g5
                        have c13y := (World.cell?_of_block (w := V2) (w' := V5) (g5.block b (by have := hbb.out.size; have := lz1.out; omega) (fun e => nV (Option.some.inj e)))).trans c13z
                        clear h5 g5
                        refine hK.out _ _ ?_ (fun hHeld => ?_)
                        · exact c13y
                        clear hK K
                        refine wpAnyH_done (by kernel_rfl) ?_ _
                        go_wp2
                        go_meet
                        case rel => exact PcCut.one K.out Q.out hV hO.out hbb.out hs2.out hg2.out
                · (try simp only [List.getElem_toArray]); (try simp only [List.getElem_cons_succ]); (try simp only [List.getElem_cons_zero])
                  go_simp
                  refine hK.out _ _ ?_ (fun hHeld => ?_)
                  · exact c13a
                  clear hK K
                  (try simp only [List.getElem_toArray]); (try simp only [List.getElem_cons_succ]); (try simp only [List.getElem_cons_zero]); try simp only [Act.put, List.setIfInBounds_toArray, List.set_cons_zero, List.set_cons_succ]
                  refine wpAnyH_ready (rs := [23]) (by kernel_rfl) (by simp) ?_
                  refine (AllReadyH.cons (o := _) rfl (fun K hK => ?_) AllReadyH.nil)
                  · (try simp only [List.getElem_toArray]); (try simp only [List.getElem_cons_succ]); (try simp only [List.getElem_cons_zero])
                    go_simp
                    go_at_call 34
                    (with_reducible refine (HnF.out _ _ (by first | exact q0.out | exact q1.out)).mono ?_)
                    rintro e w' ⟨rfl, rfl⟩
                    try dsimp only
                    refine hK.out _ _ ?_ (fun hHeld => ?_)
                    · first | exact c13 | exact c13z | exact c13a | exact c13b | go_keep
                    clear hK K
                    (try simp only [List.getElem_toArray]); (try simp only [List.getElem_cons_succ]); (try simp only [List.getElem_cons_zero]); try simp only [Act.put, List.setIfInBounds_toArray, List.set_cons_zero, List.set_cons_succ]
                    refine wpAnyH_take (i := 24) (oi := _) (v := ?_) rfl (by kernel_rfl) (by kernel_rfl) (by kernel_rfl) (fun _ _ _ h => h) (Or.inl ⟨by rfl, ?_⟩) (by assumption) ?_
                    rotate_left
                    · intro w hSw
                      try dsimp only at hSw
                      go_simp
                      all_goals with_reducible rfl
                    (try simp only [List.getElem_toArray]); (try simp only [List.getElem_cons_succ]); (try simp only [List.getElem_cons_zero]); try simp only [Act.put, List.setIfInBounds_toArray, List.set_cons_zero, List.set_cons_succ]
                    refine wpAnyH_ready (rs := [28]) (by kernel_rfl) (by simp) ?_
                    refine (AllReadyH.cons (o := _) rfl (fun K hK => ?_) AllReadyH.nil)
                    · (try simp only [List.getElem_toArray]); (try simp only [List.getElem_cons_succ]); (try simp only [List.getElem_cons_zero])
                      go_simp
                      go_at_call 35
                      refine (HCP2.out _ _ (by first | exact q0.out | exact q1.out)).mono ?_
                      rintro e V2 ⟨da, dc, rfl, O, bb⟩
                      try dsimp only
                      have c13z := (bb.cell (p := ⟨b, off + 13, none⟩) c13l1.out).trans c13a
                      have hO := Lib.hid O
                      have hbb := Lib.hid bb
                      clear O bb
                      refine hK.out _ _ ?_ (fun hHeld => ?_)
                      · first | exact c13 | exact c13z | exact c13a | exact c13b | go_keep
                      clear hK K
                      (try simp only [List.getElem_toArray]); (try simp only [List.getElem_cons_succ]); (try simp only [List.getElem_cons_zero]); try simp only [Act.put, List.setIfInBounds_toArray, List.set_cons_zero, List.set_cons_succ]
                      have K2 := Lib.hid ((hbb.out.block V.heap.size lz1.out).trans (blk_new V (.cells #[.int .u16 0, .int .u16 0, .int .u32 0, .int .u32 0, .int .u8 0, .int .u16 0, .int .u16 0, .int .i64 0, .bool false, .int .i64 0, .bool false, .slice none 0 0, .bool false, .int .u32 0, .int .u32 0, .slice none 0 0] 27)))
                      refine wpAnyH_take (i := 29) (oi := _) (v := ?_) rfl (by kernel_rfl) (by kernel_rfl) (by kernel_rfl) (fun _ _ _ h => h) (Or.inl ⟨by rfl, ?_⟩) (by assumption) ?_
                      rotate_left
                      · intro w hSw
                        try dsimp only at hSw
                        go_simp
                        all_goals with_reducible rfl
                      (try simp only [List.getElem_toArray]); (try simp only [List.getElem_cons_succ]); (try simp only [List.getElem_cons_zero]); try simp only [Act.put, List.setIfInBounds_toArray, List.set_cons_zero, List.set_cons_succ]
                      refine wpAnyH_ready (rs := [31]) (by kernel_rfl) (by simp) ?_
                      refine (AllReadyH.cons (o := _) rfl (fun K hK => ?_) AllReadyH.nil)
                      · refine step_store_tcp ?_ (.tmp 9) (.tmp 73) ?_ V.heap.size _ (pC sp dp sq ak fl wn ur (.slice da ds.length dc) (.slice none 0 0) tOpt0) ?_ ?_ K2.out ?_ ?_ ?_ ?_
                        · rfl
                        · rfl
                        · rfl
                        · rfl
                        · rfl
                        · rfl
                        · simp [pC, Value.oneCell']
                        intro V5 h5 g5
                        have hs2 := Lib.hid h5
                        have hg2 := Lib.hid g5
                        have c13y := (World.cell?_of_block (w := V2) (w' := V5) (g5.block b (by have := hbb.out.size; have := lz1.out; omega) (fun e => nV (Option.some.inj e)))).trans c13z
                        clear h5 g5
                        refine hK.out _ _ ?_ (fun hHeld => ?_)
                        · exact c13y
                        clear hK K
                        refine wpAnyH_done (by kernel_rfl) ?_ _
                        go_wp2
                        go_meet
                        case rel => exact PcCut.one K.out Q.out hV hO.out hbb.out hs2.out hg2.out
              · (try simp only [List.getElem_toArray]); (try simp only [List.getElem_cons_succ]); (try simp only [List.getElem_cons_zero])
                go_simp
                refine hK.out _ _ ?_ (fun hHeld => ?_)
                · exact c13a
                clear hK K
                (try simp only [List.getElem_toArray]); (try simp only [List.getElem_cons_succ]); (try simp only [List.getElem_cons_zero]); try simp only [Act.put, List.setIfInBounds_toArray, List.set_cons_zero, List.set_cons_succ]
                refine wpAnyH_ready (rs := [19]) (by kernel_rfl) (by simp) ?_
                refine (AllReadyH.cons (o := _) rfl (fun K hK => ?_) AllReadyH.nil)
                · (try simp only [List.getElem_toArray]); (try simp only [List.getElem_cons_succ]); (try simp only [List.getElem_cons_zero])
                  go_simp
                  go_at_call 34
                  (with_reducible refine (HnE.out _ _ (by first | exact q0.out | exact q1.out)).mono ?_)
                  rintro e w' ⟨rfl, rfl⟩
                  try dsimp only
                  refine hK.out _ _ ?_ (fun hHeld => ?_)
                  · first | exact c13 | exact c13z | exact c13a | exact c13b | go_keep
                  clear hK K
                  (try simp only [List.getElem_toArray]); (try simp only [List.getElem_cons_succ]); (try simp only [List.getElem_cons_zero]); try simp only [Act.put, List.setIfInBounds_toArray, List.set_cons_zero, List.set_cons_succ]
                  refine wpAnyH_take (i := 20) (oi := _) (v := ?_) rfl (by kernel_rfl) (by kernel_rfl) (by kernel_rfl) (fun _ _ _ h => h) (Or.inl ⟨by rfl, ?_⟩) (by assumption) ?_
                  rotate_left
                  · intro w hSw
                    try dsimp only at hSw
                    go_simp
                    all_goals with_reducible rfl
                  (try simp only [List.getElem_toArray]); (try simp only [List.getElem_cons_succ]); (try simp only [List.getElem_cons_zero]); try simp only [Act.put, List.setIfInBounds_toArray, List.set_cons_zero, List.set_cons_succ]
                  refine wpAnyH_ready (rs := [23]) (by kernel_rfl) (by simp) ?_
                  refine (AllReadyH.cons (o := _) rfl (fun K hK => ?_) AllReadyH.nil)
                  · (try simp only [List.getElem_toArray]); (try simp only [List.getElem_cons_succ]); (try simp only [List.getElem_cons_zero])
                    go_simp
                    go_at_call 34
                    (with_reducible refine (HnF.out _ _ (by first | exact q0.out | exact q1.out)).mono ?_)
                    rintro e w' ⟨rfl, rfl⟩
                    try dsimp only
                    refine hK.out _ _ ?_ (fun hHeld => ?_)
                    · first | exact c13 | exact c13z | exact c13a | exact c13b | go_keep
                    clear hK K
                    (try simp only [List.getElem_toArray]); (try simp only [List.getElem_cons_succ]); (try simp only [List.getElem_cons_zero]); try simp only [Act.put, List.setIfInBounds_toArray, List.set_cons_zero, List.set_cons_succ]
                    refine wpAnyH_take (i := 24) (oi := _) (v := ?_) rfl (by kernel_rfl) (by kernel_rfl) (by kernel_rfl) (fun _ _ _ h => h) (Or.inl ⟨by rfl, ?_⟩) (by assumption) ?_
                    rotate_left
                    · intro w hSw
                      try dsimp only at hSw
                      go_simp
                      all_goals with_reducible rfl
                    (try simp only [List.getElem_toArray]); (try simp only [List.getElem_cons_succ]); (try simp only [List.getElem_cons_zero]); try simp only [Act.put, List.setIfInBounds_toArray, List.set_cons_zero, List.set_cons_succ]
                    refine wpAnyH_ready (rs := [28]) (by kernel_rfl) (by simp) ?_
                    refine (AllReadyH.cons (o := _) rfl (fun K hK => ?_) AllReadyH.nil)
                    · (try simp only [List.getElem_toArray]); (try simp only [List.getElem_cons_succ]); (try simp only [List.getElem_cons_zero])
                      go_simp
                      go_at_call 35
                      refine (HCP2.out _ _ (by first | exact q0.out | exact q1.out)).mono ?_
                      rintro e V2 ⟨da, dc, rfl, O, bb⟩
                      try dsimp only
                      have c13z := (bb.cell (p := ⟨b, off + 13, none⟩) c13l1.out).trans c13a
                      have hO := Lib.hid O
                      have hbb := Lib.hid bb
                      clear O bb
                      refine hK.out _ _ ?_ (fun hHeld => ?_)
                      · first | exact c13 | exact c13z | exact c13a | exact c13b | go_keep
                      clear hK K
                      (try simp only [List.getElem_toArray]); (try simp only [List.getElem_cons_succ]); (try simp only [List.getElem_cons_zero]); try simp only [Act.put, List.setIfInBounds_toArray, List.set_cons_zero, List.set_cons_succ]
                      have K2 := Lib.hid ((hbb.out.block V.heap.size lz1.out).trans (blk_new V (.cells #[.int .u16 0, .int .u16 0, .int .u32 0, .int .u32 0, .int .u8 0, .int .u16 0, .int .u16 0, .int .i64 0, .bool false, .int .i64 0, .bool false, .slice none 0 0, .bool false, .int .u32 0, .int .u32 0, .slice none 0 0] 27)))
                      refine wpAnyH_take (i := 29) (oi := _) (v := ?_) rfl (by kernel_rfl) (by kernel_rfl) (by kernel_rfl) (fun _ _ _ h => h) (Or.inl ⟨by rfl, ?_⟩) (by assumption) ?_
                      rotate_left
                      · intro w hSw
                        try dsimp only at hSw
                        go_simp
                        all_goals with_reducible rfl
                      (try simp only [List.getElem_toArray]); (try simp only [List.getElem_cons_succ]); (try simp only [List.getElem_cons_zero]); try simp only [Act.put, List.setIfInBounds_toArray, List.set_cons_zero, List.set_cons_succ]
                      refine wpAnyH_ready (rs := [31]) (by kernel_rfl) (by simp) ?_
                      refine (AllReadyH.cons (o := _) rfl (fun K hK => ?_) AllReadyH.nil)
                      · refine step_store_tcp ?_ (.tmp 9) (.tmp 73) ?_ V.heap.size _ (pC sp dp sq ak fl wn ur (.slice da ds.length dc) (.slice none 0 0) tOpt0) ?_ ?_ K2.out ?_ ?_ ?_ ?_
                        · rfl
                        · rfl
                        · rfl
                        · rfl
                        · rfl
                        · rfl
                        · simp [pC, Value.oneCell']
                        intro V5 h5 g5
                        have hs2 := Lib.hid h5
                        have hg2 := Lib.hid g5
                        have c13y := (World.cell?_of_block (w := V2) (w' := V5) (g5.block b (by have := hbb.out.size; have := lz1.out; omega) (fun e => nV (Option.some.inj e)))).trans c13z
                        clear h5 g5
                        refine hK.out _ _ ?_ (fun hHeld => ?_)
                        · exact c13y
                        clear hK K
                        refine wpAnyH_done (by kernel_rfl) ?_ _
                        go_wp2
                        go_meet
                        case rel => exact PcCut.one K.out Q.out hV hO.out hbb.out hs2.out hg2.out
            · (try simp only [List.getElem_toArray]); (try simp only [List.getElem_cons_succ]); (try simp only [List.getElem_cons_zero])
              go_simp
              refine hK.out _ _ ?_ (fun hHeld => ?_)
              · exact c13a
              clear hK K
              (try simp only [List.getElem_toArray]); (try simp only [List.getElem_cons_succ]); (try simp only [List.getElem_cons_zero]); try simp only [Act.put, List.setIfInBounds_toArray, List.set_cons_zero, List.set_cons_succ]
              refine wpAnyH_ready (rs := [13]) (by kernel_rfl) (by simp) ?_
              refine (AllReadyH.cons (o := _) rfl (fun K hK => ?_) AllReadyH.nil)
              · (try simp only [List.getElem_toArray]); (try simp only [List.getElem_cons_succ]); (try simp only [List.getElem_cons_zero])
                go_simp
                go_at_call 34
                (with_reducible refine (HnD.out _ _ (by first | exact q0.out | exact q1.out)).mono ?_)
                rintro e w' ⟨rfl, rfl⟩
                try dsimp only
                refine hK.out _ _ ?_ (fun hHeld => ?_)
                · first | exact c13 | exact c13z | exact c13a | exact c13b | go_keep
                clear hK K
                (try simp only [List.getElem_toArray]); (try simp only [List.getElem_cons_succ]); (try simp only [List.getElem_cons_zero]); try simp only [Act.put, List.setIfInBounds_toArray, List.set_cons_zero, List.set_cons_succ]
                refine wpAnyH_ready (rs := [19]) (by kernel_rfl) (by simp) ?_
                refine (AllReadyH.cons (o := _) rfl (fun K hK => ?_) AllReadyH.nil)
                · (try simp only [List.getElem_toArray]); (try simp only [List.getElem_cons_succ]); (try simp only [List.getElem_cons_zero])
                  go_simp
                  go_at_call 34
                  (with_reducible refine (HnE.out _ _ (by first | exact q0.out | exact q1.out)).mono ?_)
                  rintro e w' ⟨rfl, rfl⟩
                  try dsimp only
                  refine hK.out _ _ ?_ (fun hHeld => ?_)
                  · first | exact c13 | exact c13z | exact c13a | exact c13b | go_keep
                  clear hK K
                  (try simp only [List.getElem_toArray]); (try simp only [List.getElem_cons_succ]); (try simp only [List.getElem_cons_zero]); try simp only [Act.put, List.setIfInBounds_toArray, List.set_cons_zero, List.set_cons_succ]
                  refine wpAnyH_take (i := 20) (oi := _) (v := ?_) rfl (by kernel_rfl) (by kernel_rfl) (by kernel_rfl) (fun _ _ _ h => h) (Or.inl ⟨by rfl, ?_⟩) (by assumption) ?_
                  rotate_left
                  · intro w hSw
                    try dsimp only at hSw
                    go_simp
                    all_goals with_reducible rfl
                  (try simp only [List.getElem_toArray]); (try simp only [List.getElem_cons_succ]); (try simp only [List.getElem_cons_zero]); try simp only [Act.put, List.setIfInBounds_toArray, List.set_cons_zero, List.set_cons_succ]
                  refine wpAnyH_ready (rs := [23]) (by kernel_rfl) (by simp) ?_
                  refine (AllReadyH.cons (o := _) rfl (fun K hK => ?_) AllReadyH.nil)
                  · (try simp only [List.getElem_toArray]); (try simp only [List.getElem_cons_succ]); (try simp only [List.getElem_cons_zero])
                    go_simp
                    go_at_call 34
                    (with_reducible refine (HnF.out _ _ (by first | exact q0.out | exact q1.out)).mono ?_)
                    rintro e w' ⟨rfl, rfl⟩
                    try dsimp only
                    refine hK.out _ _ ?_ (fun hHeld => ?_)
                    · first | exact c13 | exact c13z | exact c13a | exact c13b | go_keep
                    clear hK K
                    (try simp only [List.getElem_toArray]); (try simp only [List.getElem_cons_succ]); (try simp only [List.getElem_cons_zero]); try simp only [Act.put, List.setIfInBounds_toArray, List.set_cons_zero, List.set_cons_succ]
                    refine wpAnyH_take (i := 24) (oi := _) (v := ?_) rfl (by kernel_rfl) (by kernel_rfl) (by kernel_rfl) (fun _ _ _ h => h) (Or.inl ⟨by rfl, ?_⟩) (by assumption) ?_
                    rotate_left
                    · intro w hSw
                      try dsimp only at hSw
                      go_simp
                      all_goals with_reducible rfl
                    (try simp only [List.getElem_toArray]); (try simp only [List.getElem_cons_succ]); (try simp only [List.getElem_cons_zero]); try simp only [Act.put, List.setIfInBounds_toArray, List.set_cons_zero, List.set_cons_succ]
                    refine wpAnyH_ready (rs := [28]) (by kernel_rfl) (by simp) ?_
                    refine (AllReadyH.cons (o := _) rfl (fun K hK => ?_) AllReadyH.nil)
                    · (try simp only [List.getElem_toArray]); (try simp only [List.getElem_cons_succ]); (try simp only [List.getElem_cons_zero])
                      go_simp
                      go_at_call 35
                      refine (HCP2.out _ _ (by first | exact q0.out | exact q1.out)).mono ?_
                      rintro e V2 ⟨da, dc, rfl, O, bb⟩
                      try dsimp only
                      have c13z := (bb.cell (p := ⟨b, off + 13, none⟩) c13l1.out).trans c13a
                      have hO := Lib.hid O
                      have hbb := Lib.hid bb
                      clear O bb
                      refine hK.out _ _ ?_ (fun hHeld => ?_)
                      · first | exact c13 | exact c13z | exact c13a | exact c13b | go_keep
                      clear hK K
                      (try simp only [List.getElem_toArray]); (try simp only [List.getElem_cons_succ]); (try simp only [List.getElem_cons_zero]); try simp only [Act.put, List.setIfInBounds_toArray, List.set_cons_zero, List.set_cons_succ]
                      have K2 := Lib.hid ((hbb.out.block V.heap.size lz1.out).trans (blk_new V (.cells #[.int .u16 0, .int .u16 0, .int .u32 0, .int .u32 0, .int .u8 0, .int .u16 0, .int .u16 0, .int .i64 0, .bool false, .int .i64 0, .bool false, .slice none 0 0, .bool false, .int .u32 0, .int .u32 0, .slice none 0 0] 27)))
                      refine wpAnyH_take (i := 29) (oi := _) (v := ?_) rfl (by kernel_rfl) (by kernel_rfl) (by kernel_rfl) (fun _ _ _ h => h) (Or.inl ⟨by rfl, ?_⟩) (by assumption) ?_
                      rotate_left
                      · intro w hSw
                        try dsimp only at hSw
                        go_simp
                        all_goals with_reducible rfl
                      (try simp only [List.getElem_toArray]); (try simp only [List.getElem_cons_succ]); (try simp only [List.getElem_cons_zero]); try simp only [Act.put, List.setIfInBounds_toArray, List.set_cons_zero, List.set_cons_succ]
                      refine wpAnyH_ready (rs := [31]) (by kernel_rfl) (by simp) ?_
                      refine (AllReadyH.cons (o := _) rfl (fun K hK => ?_) AllReadyH.nil)
                      · refine step_store_tcp ?_ (.tmp 9) (.tmp 73) ?_ V.heap.size _ (pC sp dp sq ak fl wn ur (.slice da ds.length dc) (.slice none 0 0) tOpt0) ?_ ?_ K2.out ?_ ?_ ?_ ?_
                        · rfl
                        · rfl
                        · rfl
                        · rfl
                        · rfl
                        · rfl
                        · simp [pC, Value.oneCell']
                        intro V5 h5 g5
                        have hs2 := Lib.hid h5
                        have hg2 := Lib.hid g5
                        have c13y := (World.cell?_of_block (w := V2) (w' := V5) (g5.block b (by have := hbb.out.size; have := lz1.out; omega) (fun e => nV (Option.some.inj e)))).trans c13z
                        clear h5 g5
                        refine hK.out _ _ ?_ (fun hHeld => ?_)
                        · exact c13y
                        clear hK K
                        refine wpAnyH_done (by kernel_rfl) ?_ _
                        go_wp2
                        go_meet
                        case rel => exact PcCut.one K.out Q.out hV hO.out hbb.out hs2.out hg2.out
          · (try simp only [List.getElem_toArray]); (try simp only [List.getElem_cons_succ]); (try simp only [List.getElem_cons_zero])
            go_simp
            refine hK.out _ _ ?_ (fun hHeld => ?_)
            · exact c13a
            clear hK K
            (try simp only [List.getElem_toArray]); (try simp only [List.getElem_cons_succ]); (try simp only [List.getElem_cons_zero]); try simp only [Act.put, List.setIfInBounds_toArray, List.set_cons_zero, List.set_cons_succ]
            refine wpAnyH_ready (rs := [10]) (by kernel_rfl) (by simp) ?_
            refine (AllReadyH.cons (o := _) rfl (fun K hK => ?_) AllReadyH.nil)
            · (try simp only [List.getElem_toArray]); (try simp only [List.getElem_cons_succ]); (try simp only [List.getElem_cons_zero])
              go_simp
              go_at_call 34
              (with_reducible refine (HnC.out _ _ (by first | exact q0.out | exact q1.out)).mono ?_)
              rintro e w' ⟨rfl, rfl⟩
              try dsimp only
              refine hK.out _ _ ?_ (fun hHeld => ?_)
              · first | exact c13 | exact c13z | exact c13a | exact c13b | go_keep
              clear hK K
              (try simp only [List.getElem_toArray]); (try simp only [List.getElem_cons_succ]); (try simp only [List.getElem_cons_zero]); try simp only [Act.put, List.setIfInBounds_toArray, List.set_cons_zero, List.set_cons_succ]
              refine wpAnyH_ready (rs := [13]) (by kernel_rfl) (by simp) ?_
              refine (AllReadyH.cons (o := _) rfl (fun K hK => ?_) AllReadyH.nil)
              · (try simp only [List.getElem_toArray]); (try simp only [List.getElem_cons_succ]); (try simp only [List.getElem_cons_zero])
                go_simp
                go_at_call 34
                (with_reducible refine (HnD.out _ _ (by first | exact q0.out | exact q1.out)).mono ?_)
                rintro e w' ⟨rfl, rfl⟩
                try dsimp only
                refine hK.out _ _ ?_ (fun hHeld => ?_)
                · first | exact c13 | exact c13z | exact c13a | exact c13b | go_keep
                clear hK K
                (try simp only [List.getElem_toArray]); (try simp only [List.getElem_cons_succ]); (try simp only [List.getElem_cons_zero]); try simp only [Act.put, List.setIfInBounds_toArray, List.set_cons_zero, List.set_cons_succ]
                refine wpAnyH_ready (rs := [19]) (by kernel_rfl) (by simp) ?_
                refine (AllReadyH.cons (o := _) rfl (fun K hK => ?_) AllReadyH.nil)
                · (try simp only [List.getElem_toArray]); (try simp only [List.getElem_cons_succ]); (try simp only [List.getElem_cons_zero])
                  go_simp
                  go_at_call 34
                  (with_reducible refine (HnE.out _ _ (by first | exact q0.out | exact q1.out)).mono ?_)
                  rintro e w' ⟨rfl, rfl⟩
                  try dsimp only
                  refine hK.out _ _ ?_ (fun hHeld => ?_)
                  · first | exact c13 | exact c13z | exact c13a | exact c13b | go_keep
                  clear hK K
                  (try simp only [List.getElem_toArray]); (try simp only [List.getElem_cons_succ]); (try simp only [List.getElem_cons_zero]); try simp only [Act.put, List.setIfInBounds_toArray, List.set_cons_zero, List.set_cons_succ]
                  refine wpAnyH_take (i := 20) (oi := _) (v := ?_) rfl (by kernel_rfl) (by kernel_rfl) (by kernel_rfl) (fun _ _ _ h => h) (Or.inl ⟨by rfl, ?_⟩) (by assumption) ?_
                  rotate_left
                  · intro w hSw
                    try dsimp only at hSw
                    go_simp
                    all_goals with_reducible rfl
                  (try simp only [List.getElem_toArray]); (try simp only [List.getElem_cons_succ]); (try simp only [List.getElem_cons_zero]); try simp only [Act.put, List.setIfInBounds_toArray, List.set_cons_zero, List.set_cons_succ]
                  refine wpAnyH_ready (rs := [23]) (by kernel_rfl) (by simp) ?_
                  refine (AllReadyH.cons (o := _) rfl (fun K hK => ?_) AllReadyH.nil)
                  · (try simp only [List.getElem_toArray]); (try simp only [List.getElem_cons_succ]); (try simp only [List.getElem_cons_zero])
                    go_simp
                    go_at_call 34
                    (with_reducible refine (HnF.out _ _ (by first | exact q0.out | exact q1.out)).mono ?_)
                    rintro e w' ⟨rfl, rfl⟩
                    try dsimp only
                    refine hK.out _ _ ?_ (fun hHeld => ?_)
                    · first | exact c13 | exact c13z | exact c13a | exact c13b | go_keep
                    clear hK K
                    (try simp only [List.getElem_toArray]); (try simp only [List.getElem_cons_succ]); (try simp only [List.getElem_cons_zero]); try simp only [Act.put, List.setIfInBounds_toArray, List.set_cons_zero, List.set_cons_succ]
                    refine wpAnyH_take (i := 24) (oi := _) (v := ?_) rfl (by kernel_rfl) (by kernel_rfl) (by kernel_rfl) (fun _ _ _ h => h) (Or.inl ⟨by rfl, ?_⟩) (by assumption) ?_
                    rotate_left
                    · intro w hSw
                      try dsimp only at hSw
                      go_simp
                      all_goals with_reducible rfl
                    (try simp only [List.getElem_toArray]); (try simp only [List.getElem_cons_succ]); (try simp only [List.getElem_cons_zero]); try simp only [Act.put, List.setIfInBounds_toArray, List.set_cons_zero, List.set_cons_succ]
                    refine wpAnyH_ready (rs := [28]) (by kernel_rfl) (by simp) ?_
                    refine (AllReadyH.cons (o := _) rfl (fun K hK => ?_) AllReadyH.nil)
                    · (try simp only [List.getElem_toArray]); (try simp only [List.getElem_cons_succ]); (try simp only [List.getElem_cons_zero])
                      go_simp
                      go_at_call 35
                      refine (HCP2.out _ _ (by first | exact q0.out | exact q1.out)).mono ?_
                      rintro e V2 ⟨da, dc, rfl, O, bb⟩
                      try dsimp only
                      have c13z := (bb.cell (p := ⟨b, off + 13, none⟩) c13l1.out).trans c13a
                      have hO := Lib.hid O
                      have hbb := Lib.hid bb
                      clear O bb
                      refine hK.out _ _ ?_ (fun hHeld => ?_)
                      · first | exact c13 | exact c13z | exact c13a | exact c13b | go_keep
                      clear hK K
                      (try simp only [List.getElem_toArray]); (try simp only [List.getElem_cons_succ]); (try simp only [List.getElem_cons_zero]); try simp only [Act.put, List.setIfInBounds_toArray, List.set_cons_zero, List.set_cons_succ]
                      have K2 := Lib.hid ((hbb.out.block V.heap.size lz1.out).trans (blk_new V (.cells #[.int .u16 0, .int .u16 0, .int .u32 0, .int .u32 0, .int .u8 0, .int .u16 0, .int .u16 0, .int .i64 0, .bool false, .int .i64 0, .bool false, .slice none 0 0, .bool false, .int .u32 0, .int .u32 0, .slice none 0 0] 27)))
                      refine wpAnyH_take (i := 29) (oi := _) (v := ?_) rfl (by kernel_rfl) (by kernel_rfl) (by kernel_rfl) (fun _ _ _ h => h) (Or.inl ⟨by rfl, ?_⟩) (by assumption) ?_
                      rotate_left
                      · intro w hSw
                        try dsimp only at hSw
                        go_simp
                        all_goals with_reducible rfl
                      (try simp only [List.getElem_toArray]); (try simp only [List.getElem_cons_succ]); (try simp only [List.getElem_cons_zero]); try simp only [Act.put, List.setIfInBounds_toArray, List.set_cons_zero, List.set_cons_succ]
                      refine wpAnyH_ready (rs := [31]) (by kernel_rfl) (by simp) ?_
                      refine (AllReadyH.cons (o := _) rfl (fun K hK => ?_) AllReadyH.nil)
                      · refine step_store_tcp ?_ (.tmp 9) (.tmp 73) ?_ V.heap.size _ (pC sp dp sq ak fl wn ur (.slice da ds.length dc) (.slice none 0 0) tOpt0) ?_ ?_ K2.out ?_ ?_ ?_ ?_
                        · rfl
                        · rfl
                        · rfl
                        · rfl
                        · rfl
                        · rfl
                        · simp [pC, Value.oneCell']
                        intro V5 h5 g5
                        have hs2 := Lib.hid h5
                        have hg2 := Lib.hid g5
                        have c13y := (World.cell?_of_block (w := V2) (w' := V5) (g5.block b (by have := hbb.out.size; have := lz1.out; omega) (fun e => nV (Option.some.inj e)))).trans c13z
                        clear h5 g5
                        refine hK.out _ _ ?_ (fun hHeld => ?_)
                        · exact c13y
                        clear hK K
                        refine wpAnyH_done (by kernel_rfl) ?_ _
                        go_wp2
                        go_meet
                        case rel => exact PcCut.one K.out Q.out hV hO.out hbb.out hs2.out hg2.out
        · (try simp only [List.getElem_toArray]); (try simp only [List.getElem_cons_succ]); (try simp only [List.getElem_cons_zero])
          go_simp
          refine hK.out _ _ ?_ (fun hHeld => ?_)
          · exact c13a
          clear hK K
          (try simp only [List.getElem_toArray]); (try simp only [List.getElem_cons_succ]); (try simp only [List.getElem_cons_zero]); try simp only [Act.put, List.setIfInBounds_toArray, List.set_cons_zero, List.set_cons_succ]
          refine wpAnyH_ready (rs := [6]) (by kernel_rfl) (by simp) ?_
          refine (AllReadyH.cons (o := _) rfl (fun K hK => ?_) AllReadyH.nil)
          · (try simp only [List.getElem_toArray]); (try simp only [List.getElem_cons_succ]); (try simp only [List.getElem_cons_zero])
            go_simp
            go_at_call 34
            (with_reducible refine (HnB.out _ _ (by first | exact q0.out | exact q1.out)).mono ?_)
            rintro e w' ⟨rfl, rfl⟩
            try dsimp only
            refine hK.out _ _ ?_ (fun hHeld => ?_)
            · first | exact c13 | exact c13z | exact c13a | exact c13b | go_keep
            clear hK K
            (try simp only [List.getElem_toArray]); (try simp only [List.getElem_cons_succ]); (try simp only [List.getElem_cons_zero]); try simp only [Act.put, List.setIfInBounds_toArray, List.set_cons_zero, List.set_cons_succ]
            refine wpAnyH_take (i := 7) (oi := _) (v := ?_) rfl (by kernel_rfl) (by kernel_rfl) (by kernel_rfl) (fun _ _ _ h => h) (Or.inl ⟨by rfl, ?_⟩) (by assumption) ?_
            rotate_left
            · intro w hSw
              try dsimp only at hSw
              go_simp
              all_goals with_reducible rfl
            (try simp only [List.getElem_toArray]); (try simp only [List.getElem_cons_succ]); (try simp only [List.getElem_cons_zero]); try simp only [Act.put, List.setIfInBounds_toArray, List.set_cons_zero, List.set_cons_succ]
            refine wpAnyH_ready (rs := [10]) (by kernel_rfl) (by simp) ?_
            refine (AllReadyH.cons (o := _) rfl (fun K hK => ?_) AllReadyH.nil)
            · (try simp only [List.getElem_toArray]); (try simp only [List.getElem_cons_succ]); (try simp only [List.getElem_cons_zero])
              go_simp
              go_at_call 34
              (with_reducible refine (HnC.out _ _ (by first | exact q0.out | exact q1.out)).mono ?_)
              rintro e w' ⟨rfl, rfl⟩
              try dsimp only
              refine hK.out _ _ ?_ (fun hHeld => ?_)
              · first | exact c13 | exact c13z | exact c13a | exact c13b | go_keep
              clear hK K
              (try simp only [List.getElem_toArray]); (try simp only [List.getElem_cons_succ]); (try simp only [List.getElem_cons_zero]); try simp only [Act.put, List.setIfInBounds_toArray, List.set_cons_zero, List.set_cons_succ]
              refine wpAnyH_ready (rs := [13]) (by kernel_rfl) (by simp) ?_
              refine (AllReadyH.cons (o := _) rfl (fun K hK => ?_) AllReadyH.nil)
              · (try simp only [List.getElem_toArray]); (try simp only [List.getElem_cons_succ]); (try simp only [List.getElem_cons_zero])
                go_simp
                go_at_call 34
                (with_reducible refine (HnD.out _ _ (by first | exact q0.out | exact q1.out)).mono ?_)
                rintro e w' ⟨rfl, rfl⟩
                try dsimp only
                refine hK.out _ _ ?_ (fun hHeld => ?_)
                · first | exact c13 | exact c13z | exact c13a | exact c13b | go_keep
                clear hK K
                (try simp only [List.getElem_toArray]); (try simp only [List.getElem_cons_succ]); (try simp only [List.getElem_cons_zero]); try simp only [Act.put, List.setIfInBounds_toArray, List.set_cons_zero, List.set_cons_succ]
                refine wpAnyH_ready (rs := [19]) (by kernel_rfl) (by simp) ?_
                refine (AllReadyH.cons (o := _) rfl (fun K hK => ?_) AllReadyH.nil)
                · (try simp only [List.getElem_toArray]); (try simp only [List.getElem_cons_succ]); (try simp only [List.getElem_cons_zero])
                  go_simp
                  go_at_call 34
                  (with_reducible refine (HnE.out _ _ (by first | exact q0.out | exact q1.out)).mono ?_)
                  rintro e w' ⟨rfl, rfl⟩
                  try dsimp only
                  refine hK.out _ _ ?_ (fun hHeld => ?_)
                  · first | exact c13 | exact c13z | exact c13a | exact c13b | go_keep
                  clear hK K
                  (try simp only [List.getElem_toArray]); (try simp only [List.getElem_cons_succ]); (try simp only [List.getElem_cons_zero]); try simp only [Act.put, List.setIfInBounds_toArray, List.set_cons_zero, List.set_cons_succ]
                  refine wpAnyH_take (i := 20) (oi := _) (v := ?_) rfl (by kernel_rfl) (by kernel_rfl) (by kernel_rfl) (fun _ _ _ h => h) (Or.inl ⟨by rfl, ?_⟩) (by assumption) ?_
                  rotate_left
                  · intro w hSw
                    try dsimp only at hSw
                    go_simp
                    all_goals with_reducible rfl
                  (try simp only [List.getElem_toArray]); (try simp only [List.getElem_cons_succ]); (try simp only [List.getElem_cons_zero]); try simp only [Act.put, List.setIfInBounds_toArray, List.set_cons_zero, List.set_cons_succ]
                  refine wpAnyH_ready (rs := [23]) (by kernel_rfl) (by simp) ?_
                  refine (AllReadyH.cons (o := _) rfl (fun K hK => ?_) AllReadyH.nil)
                  · (try simp only [List.getElem_toArray]); (try simp only [List.getElem_cons_succ]); (try simp only [List.getElem_cons_zero])
                    go_simp
                    go_at_call 34
                    (with_reducible refine (HnF.out _ _ (by first | exact q0.out | exact q1.out)).mono ?_)
                    rintro e w' ⟨rfl, rfl⟩
                    try dsimp only
                    refine hK.out _ _ ?_ (fun hHeld => ?_)
                    · first | exact c13 | exact c13z | exact c13a | exact c13b | go_keep
                    clear hK K
                    (try simp only [List.getElem_toArray]); (try simp only [List.getElem_cons_succ]); (try simp only [List.getElem_cons_zero]); try simp only [Act.put, List.setIfInBounds_toArray, List.set_cons_zero, List.set_cons_succ]
                    refine wpAnyH_take (i := 24) (oi := _) (v := ?_) rfl (by kernel_rfl) (by kernel_rfl) (by kernel_rfl) (fun _ _ _ h => h) (Or.inl ⟨by rfl, ?_⟩) (by assumption) ?_
                    rotate_left
                    · intro w hSw
                      try dsimp only at hSw
                      go_simp
                      all_goals with_reducible rfl
                    (try simp only [List.getElem_toArray]); (try simp only [List.getElem_cons_succ]); (try simp only [List.getElem_cons_zero]); try simp only [Act.put, List.setIfInBounds_toArray, List.set_cons_zero, List.set_cons_succ]
                    refine wpAnyH_ready (rs := [28]) (by kernel_rfl) (by simp) ?_
                    refine (AllReadyH.cons (o := _) rfl (fun K hK => ?_) AllReadyH.nil)
                    · (try simp only [List.getElem_toArray]); (try simp only [List.getElem_cons_succ]); (try simp only [List.getElem_cons_zero])
                      go_simp
                      go_at_call 35
                      refine (HCP2.out _ _ (by first | exact q0.out | exact q1.out)).mono ?_
                      rintro e V2 ⟨da, dc, rfl, O, bb⟩
                      try dsimp only
                      have c13z := (bb.cell (p := ⟨b, off + 13, none⟩) c13l1.out).trans c13a
                      have hO := Lib.hid O
                      have hbb := Lib.hid bb
                      clear O bb
                      refine hK.out _ _ ?_ (fun hHeld => ?_)
                      · first | exact c13 | exact c13z | exact c13a | exact c13b | go_keep
                      clear hK K
                      (try simp only [List.getElem_toArray]); (try simp only [List.getElem_cons_succ]); (try simp only [List.getElem_cons_zero]); try simp only [Act.put, List.setIfInBounds_toArray, List.set_cons_zero, List.set_cons_succ]
                      have K2 := Lib.hid ((hbb.out.block V.heap.size lz1.out).trans (blk_new V (.cells #[.int .u16 0, .int .u16 0, .int .u32 0, .int .u32 0, .int .u8 0, .int .u16 0, .int .u16 0, .int .i64 0, .bool false, .int .i64 0, .bool false, .slice none 0 0, .bool false, .int .u32 0, .int .u32 0, .slice none 0 0] 27)))
                      refine wpAnyH_take (i := 29) (oi := _) (v := ?_) rfl (by kernel_rfl) (by kernel_rfl) (by kernel_rfl) (fun _ _ _ h => h) (Or.inl ⟨by rfl, ?_⟩) (by assumption) ?_
                      rotate_left
                      · intro w hSw
                        try dsimp only at hSw
                        go_simp
                        all_goals with_reducible rfl
                      (try simp only [List.getElem_toArray]); (try simp only [List.getElem_cons_succ]); (try simp only [List.getElem_cons_zero]); try simp only [Act.put, List.setIfInBounds_toArray, List.set_cons_zero, List.set_cons_succ]
                      refine wpAnyH_ready (rs := [31]) (by kernel_rfl) (by simp) ?_
                      refine (AllReadyH.cons (o := _) rfl (fun K hK => ?_) AllReadyH.nil)
                      · refine step_store_tcp ?_ (.tmp 9) (.tmp 73) ?_ V.heap.size _ (pC sp dp sq ak fl wn ur (.slice da ds.length dc) (.slice none 0 0) tOpt0) ?_ ?_ K2.out ?_ ?_ ?_ ?_
                        · rfl
                        · rfl
                        · rfl
                        · rfl
                        · rfl
                        · rfl
                        · simp [pC, Value.oneCell']
                        intro V5 h5 g5
                        have hs2 := Lib.hid h5
                        have hg2 := Lib.hid g5
                        have c13y := (World.cell?_of_block (w := V2) (w' := V5) (g5.block b (by have := hbb.out.size; have := lz1.out; omega) (fun e => nV (Option.some.inj e)))).trans c13z
                        clear h5 g5
                        refine hK.out _ _ ?_ (fun hHeld => ?_)
                        · exact c13y
                        clear hK K
                        refine wpAnyH_done (by kernel_rfl) ?_ _
                        go_wp2
                        go_meet
                        case rel => exact PcCut.one K.out Q.out hV hO.out hbb.out hs2.out hg2.out
      · (try simp only [List.getElem_toArray]); (try simp only [List.getElem_cons_succ]); (try simp only [List.getElem_cons_zero])
        go_simp
        refine hK.out _ _ ?_ (fun hHeld => ?_)
        · exact c13a
        clear hK K
        (try simp only [List.getElem_toArray]); (try simp only [List.getElem_cons_succ]); (try simp only [List.getElem_cons_zero]); try simp only [Act.put, List.setIfInBounds_toArray, List.set_cons_zero, List.set_cons_succ]
        refine wpAnyH_ready (rs := [2]) (by kernel_rfl) (by simp) ?_
        refine (AllReadyH.cons (o := _) rfl (fun K hK => ?_) AllReadyH.nil)
        · (try simp only [List.getElem_toArray]); (try simp only [List.getElem_cons_succ]); (try simp only [List.getElem_cons_zero])
          go_simp
          go_at_call 34
          (with_reducible refine (HnA.out _ _ (by first | exact q0.out | exact q1.out)).mono ?_)
          rintro e w' ⟨rfl, rfl⟩
          try dsimp only
          refine hK.out _ _ ?_ (fun hHeld => ?_)
          · first | exact c13 | exact c13z | exact c13a | exact c13b | go_keep
          clear hK K
          (try simp only [List.getElem_toArray]); (try simp only [List.getElem_cons_succ]); (try simp only [List.getElem_cons_zero]); try simp only [Act.put, List.setIfInBounds_toArray, List.set_cons_zero, List.set_cons_succ]
          refine wpAnyH_take (i := 3) (oi := _) (v := ?_) rfl (by kernel_rfl) (by kernel_rfl) (by kernel_rfl) (fun _ _ _ h => h) (Or.inl ⟨by rfl, ?_⟩) (by assumption) ?_
          rotate_left
          · intro w hSw
            try dsimp only at hSw
            go_simp
            all_goals with_reducible rfl
          (try simp only [List.getElem_toArray]); (try simp only [List.getElem_cons_succ]); (try simp only [List.getElem_cons_zero]); try simp only [Act.put, List.setIfInBounds_toArray, List.set_cons_zero, List.set_cons_succ]
          refine wpAnyH_ready (rs := [6]) (by kernel_rfl) (by simp) ?_
          refine (AllReadyH.cons (o := _) rfl (fun K hK => ?_) AllReadyH.nil)
          · (try simp only [List.getElem_toArray]); (try simp only [List.getElem_cons_succ]); (try simp only [List.getElem_cons_zero])
            go_simp
            go_at_call 34
            (with_reducible refine (HnB.out _ _ (by first | exact q0.out | exact q1.out)).mono ?_)
            rintro e w' ⟨rfl, rfl⟩
            try dsimp only
            refine hK.out _ _ ?_ (fun hHeld => ?_)
            · first | exact c13 | exact c13z | exact c13a | exact c13b | go_keep
            clear hK K
            (try simp only [List.getElem_toArray]); (try simp only [List.getElem_cons_succ]); (try simp only [List.getElem_cons_zero]); try simp only [Act.put, List.setIfInBounds_toArray, List.set_cons_zero, List.set_cons_succ]
            refine wpAnyH_take (i := 7) (oi := _) (v := ?_) rfl (by kernel_rfl) (by kernel_rfl) (by kernel_rfl) (fun _ _ _ h => h) (Or.inl ⟨by rfl, ?_⟩) (by assumption) ?_
            rotate_left
            · intro w hSw
              try dsimp only at hSw
              go_simp
              all_goals with_reducible rfl
            (try simp only [List.getElem_toArray]); (try simp only [List.getElem_cons_succ]); (try simp only [List.getElem_cons_zero]); try simp only [Act.put, List.setIfInBounds_toArray, List.set_cons_zero, List.set_cons_succ]
            refine wpAnyH_ready (rs := [10]) (by kernel_rfl) (by simp) ?_
            refine (AllReadyH.cons (o := _) rfl (fun K hK => ?_) AllReadyH.nil)
            · (try simp only [List.getElem_toArray]); (try simp only [List.getElem_cons_succ]); (try simp only [List.getElem_cons_zero])
              go_simp
              go_at_call 34
              (with_reducible refine (HnC.out _ _ (by first | exact q0.out | exact q1.out)).mono ?_)
              rintro e w' ⟨rfl, rfl⟩
              try dsimp only
              refine hK.out _ _ ?_ (fun hHeld => ?_)
              · first | exact c13 | exact c13z | exact c13a | exact c13b | go_keep
              clear hK K
              (try simp only [List.getElem_toArray]); (try simp only [List.getElem_cons_succ]); (try simp only [List.getElem_cons_zero]); try simp only [Act.put, List.setIfInBounds_toArray, List.set_cons_zero, List.set_cons_succ]
              refine wpAnyH_ready (rs := [13]) (by kernel_rfl) (by simp) ?_
              refine (AllReadyH.cons (o := _) rfl (fun K hK => ?_) AllReadyH.nil)
              · (try simp only [List.getElem_toArray]); (try simp only [List.getElem_cons_succ]); (try simp only [List.getElem_cons_zero])
                go_simp
                go_at_call 34
                (with_reducible refine (HnD.out _ _ (by first | exact q0.out | exact q1.out)).mono ?_)
                rintro e w' ⟨rfl, rfl⟩
                try dsimp only
                refine hK.out _ _ ?_ (fun hHeld => ?_)
                · first | exact c13 | exact c13z | exact c13a | exact c13b | go_keep
                clear hK K
                (try simp only [List.getElem_toArray]); (try simp only [List.getElem_cons_succ]); (try simp only [List.getElem_cons_zero]); try simp only [Act.put, List.setIfInBounds_toArray, List.set_cons_zero, List.set_cons_succ]
                refine wpAnyH_ready (rs := [19]) (by kernel_rfl) (by simp) ?_
                refine (AllReadyH.cons (o := _) rfl (fun K hK => ?_) AllReadyH.nil)
                · (try simp only [List.getElem_toArray]); (try simp only [List.getElem_cons_succ]); (try simp only [List.getElem_cons_zero])
                  go_simp
                  go_at_call 34
                  (with_reducible refine (HnE.out _ _ (by first | exact q0.out | exact q1.out)).mono ?_)
                  rintro e w' ⟨rfl, rfl⟩
                  try dsimp only
                  refine hK.out _ _ ?_ (fun hHeld => ?_)
                  · first | exact c13 | exact c13z | exact c13a | exact c13b | go_keep
                  clear hK K
                  (try simp only [List.getElem_toArray]); (try simp only [List.getElem_cons_succ]); (try simp only [List.getElem_cons_zero]); try simp only [Act.put, List.setIfInBounds_toArray, List.set_cons_zero, List.set_cons_succ]
                  refine wpAnyH_take (i := 20) (oi := _) (v := ?_) rfl (by kernel_rfl) (by kernel_rfl) (by kernel_rfl) (fun _ _ _ h => h) (Or.inl ⟨by rfl, ?_⟩) (by assumption) ?_
                  rotate_left
                  · intro w hSw
                    try dsimp only at hSw
                    go_simp
                    all_goals with_reducible rfl
                  (try simp only [List.getElem_toArray]); (try simp only [List.getElem_cons_succ]); (try simp only [List.getElem_cons_zero]); try simp only [Act.put, List.setIfInBounds_toArray, List.set_cons_zero, List.set_cons_succ]
                  refine wpAnyH_ready (rs := [23]) (by kernel_rfl) (by simp) ?_
                  refine (AllReadyH.cons (o := _) rfl (fun K hK => ?_) AllReadyH.nil)
                  · (try simp only [List.getElem_toArray]); (try simp only [List.getElem_cons_succ]); (try simp only [List.getElem_cons_zero])
                    go_simp
                    go_at_call 34
                    (with_reducible refine (HnF.out _ _ (by first | exact q0.out | exact q1.out)).mono ?_)
                    rintro e w' ⟨rfl, rfl⟩
                    try dsimp only
                    refine hK.out _ _ ?_ (fun hHeld => ?_)
                    · first | exact c13 | exact c13z | exact c13a | exact c13b | go_keep
                    clear hK K
                    (try simp only [List.getElem_toArray]); (try simp only [List.getElem_cons_succ]); (try simp only [List.getElem_cons_zero]); try simp only [Act.put, List.setIfInBounds_toArray, List.set_cons_zero, List.set_cons_succ]
                    refine wpAnyH_take (i := 24) (oi := _) (v := ?_) rfl (by kernel_rfl) (by kernel_rfl) (by kernel_rfl) (fun _ _ _ h => h) (Or.inl ⟨by rfl, ?_⟩) (by assumption) ?_
                    rotate_left
                    · intro w hSw
                      try dsimp only at hSw
                      go_simp
                      all_goals with_reducible rfl
                    (try simp only [List.getElem_toArray]); (try simp only [List.getElem_cons_succ]); (try simp only [List.getElem_cons_zero]); try simp only [Act.put, List.setIfInBounds_toArray, List.set_cons_zero, List.set_cons_succ]
                    refine wpAnyH_ready (rs := [28]) (by kernel_rfl) (by simp) ?_
                    refine (AllReadyH.cons (o := _) rfl (fun K hK => ?_) AllReadyH.nil)
                    · (try simp only [List.getElem_toArray]); (try simp only [List.getElem_cons_succ]); (try simp only [List.getElem_cons_zero])
                      go_simp
                      go_at_call 35
                      refine (HCP2.out _ _ (by first | exact q0.out | exact q1.out)).mono ?_
                      rintro e V2 ⟨da, dc, rfl, O, bb⟩
                      try dsimp only
                      have c13z := (bb.cell (p := ⟨b, off + 13, none⟩) c13l1.out).trans c13a
                      have hO := Lib.hid O
                      have hbb := Lib.hid bb
                      clear O bb
                      refine hK.out _ _ ?_ (fun hHeld => ?_)
                      · first | exact c13 | exact c13z | exact c13a | exact c13b | go_keep
                      clear hK K
                      (try simp only [List.getElem_toArray]); (try simp only [List.getElem_cons_succ]); (try simp only [List.getElem_cons_zero]); try simp only [Act.put, List.setIfInBounds_toArray, List.set_cons_zero, List.set_cons_succ]
                      have K2 := Lib.hid ((hbb.out.block V.heap.size lz1.out).trans (blk_new V (.cells #[.int .u16 0, .int .u16 0, .int .u32 0, .int .u32 0, .int .u8 0, .int .u16 0, .int .u16 0, .int .i64 0, .bool false, .int .i64 0, .bool false, .slice none 0 0, .bool false, .int .u32 0, .int .u32 0, .slice none 0 0] 27)))
                      refine wpAnyH_take (i := 29) (oi := _) (v := ?_) rfl (by kernel_rfl) (by kernel_rfl) (by kernel_rfl) (fun _ _ _ h => h) (Or.inl ⟨by rfl, ?_⟩) (by assumption) ?_
                      rotate_left
                      · intro w hSw
                        try dsimp only at hSw
                        go_simp
                        all_goals with_reducible rfl
                      (try simp only [List.getElem_toArray]); (try simp only [List.getElem_cons_succ]); (try simp only [List.getElem_cons_zero]); try simp only [Act.put, List.setIfInBounds_toArray, List.set_cons_zero, List.set_cons_succ]
                      refine wpAnyH_ready (rs := [31]) (by kernel_rfl) (by simp) ?_
                      refine (AllReadyH.cons (o := _) rfl (fun K hK => ?_) AllReadyH.nil)
                      · refine step_store_tcp ?_ (.tmp 9) (.tmp 73) ?_ V.heap.size _ (pC sp dp sq ak fl wn ur (.slice da ds.length dc) (.slice none 0 0) tOpt0) ?_ ?_ K2.out ?_ ?_ ?_ ?_
                        · rfl
                        · rfl
                        · rfl
                        · rfl
                        · rfl
                        · rfl
                        · simp [pC, Value.oneCell']
                        intro V5 h5 g5
                        have hs2 := Lib.hid h5
                        have hg2 := Lib.hid g5
                        have c13y := (World.cell?_of_block (w := V2) (w' := V5) (g5.block b (by have := hbb.out.size; have := lz1.out; omega) (fun e => nV (Option.some.inj e)))).trans c13z
                        clear h5 g5
                        refine hK.out _ _ ?_ (fun hHeld => ?_)
                        · exact c13y
                        clear hK K
                        refine wpAnyH_done (by kernel_rfl) ?_ _
                        go_wp2
                        go_meet
                        case rel => exact PcCut.one K.out Q.out hV hO.out hbb.out hs2.out hg2.out
    case neg =>
      have HY : Hid (∀ W ad, Below w.heap.size w W → ad = some ⟨b, off + hd, none⟩ → Bts W ad ds) := Lib.hid (fun W ad h e => by subst e; exact HDS.out.below h)
      have HMl : Hid (xs.length - hd = ds.length) := Lib.hid (by omega)
      have HCP2 : Hid (∀ c W, Below w.heap.size w W → Calls Try.prog 35 #[.slice (some ⟨b, off + hd, none⟩) (xs.length - hd) c] W fun e w' => ∃ da dc, e = .returned (.slice da ds.length dc) ∧ OwnSl W.heap.size da ds dc w' ∧ Below W.heap.size W w') := Lib.hid (fun c W h => by rw [HMl.out]; exact copied_one _ ds c W (HY.out W _ h rfl) hlen (fun e => by cases e))
      clear hdz hhz hcp
      refine wp_region_held_drew (S := fun W => W.cell? ⟨b, off + 13, none⟩ = some (.int .u8 fl)) (by kernel_rfl) c13 (fun hHeld => ?_)
      refine wpAnyH_take (i := 0) (oi := _) (v := ?_) rfl (by kernel_rfl) (by kernel_rfl) (by kernel_rfl) (fun _ _ _ h => h) (Or.inl ⟨by rfl, ?_⟩) (by assumption) ?_
      rotate_left
      · intro w hSw
        try dsimp only at hSw
        go_simp
        all_goals with_reducible rfl
      (try simp only [List.getElem_toArray]); (try simp only [List.getElem_cons_succ]); (try simp only [List.getElem_cons_zero]); try simp only [Act.put, List.setIfInBounds_toArray, List.set_cons_zero, List.set_cons_succ]
      refine wpAnyH_take (i := 1) (oi := _) (v := ?_) rfl (by kernel_rfl) (by kernel_rfl) (by kernel_rfl) (fun _ _ _ h => h) (Or.inl ⟨by rfl, ?_⟩) (by assumption) ?_
      rotate_left
      · intro w hSw
        try dsimp only at hSw
        go_simp
        all_goals with_reducible rfl
      (try simp only [List.getElem_toArray]); (try simp only [List.getElem_cons_succ]); (try simp only [List.getElem_cons_zero]); try simp only [Act.put, List.setIfInBounds_toArray, List.set_cons_zero, List.set_cons_succ]
      refine wpAnyH_take (i := 4) (oi := _) (v := ?_) rfl (by kernel_rfl) (by kernel_rfl) (by kernel_rfl) (fun _ _ _ h => h) (Or.inl ⟨by rfl, ?_⟩) (by assumption) ?_
      rotate_left
      · intro w hSw
        try dsimp only at hSw
        go_simp
        all_goals with_reducible rfl
      (try simp only [List.getElem_toArray]); (try simp only [List.getElem_cons_succ]); (try simp only [List.getElem_cons_zero]); try simp only [Act.put, List.setIfInBounds_toArray, List.set_cons_zero, List.set_cons_succ]
      refine wpAnyH_take (i := 5) (oi := _) (v := ?_) rfl (by kernel_rfl) (by kernel_rfl) (by kernel_rfl) (fun _ _ _ h => h) (Or.inl ⟨by rfl, ?_⟩) (by assumption) ?_
      rotate_left
      · intro w hSw
        try dsimp only at hSw
        go_simp
        all_goals with_reducible rfl
      (try simp only [List.getElem_toArray]); (try simp only [List.getElem_cons_succ]); (try simp only [List.getElem_cons_zero]); try simp only [Act.put, List.setIfInBounds_toArray, List.set_cons_zero, List.set_cons_succ]
      refine wpAnyH_take (i := 8) (oi := _) (v := ?_) rfl (by kernel_rfl) (by kernel_rfl) (by kernel_rfl) (fun _ _ _ h => h) (Or.inl ⟨by rfl, ?_⟩) (by assumption) ?_
      rotate_left
      · intro w hSw
        try dsimp only at hSw
        go_simp
        all_goals with_reducible rfl
      (try simp only [List.getElem_toArray]); (try simp only [List.getElem_cons_succ]); (try simp only [List.getElem_cons_zero]); try simp only [Act.put, List.setIfInBounds_toArray, List.set_cons_zero, List.set_cons_succ]
      refine wpAnyH_take (i := 9) (oi := _) (v := ?_) rfl (by kernel_rfl) (by kernel_rfl) (by kernel_rfl) (fun _ _ _ h => h) (Or.inl ⟨by rfl, ?_⟩) (by assumption) ?_
      rotate_left
      · intro w hSw
        try dsimp only at hSw
        go_simp
        all_goals with_reducible rfl
      (try simp only [List.getElem_toArray]); (try simp only [List.getElem_cons_succ]); (try simp only [List.getElem_cons_zero]); try simp only [Act.put, List.setIfInBounds_toArray, List.set_cons_zero, List.set_cons_succ]
      refine wpAnyH_take (i := 11) (oi := _) (v := ?_) rfl (by kernel_rfl) (by kernel_rfl) (by kernel_rfl) (fun _ _ _ h => h) (Or.inl ⟨by rfl, ?_⟩) (by assumption) ?_
      rotate_left
      · intro w hSw
        try dsimp only at hSw
        go_simp
        all_goals with_reducible rfl
      (try simp only [List.getElem_toArray]); (try simp only [List.getElem_cons_succ]); (try simp only [List.getElem_cons_zero]); try simp only [Act.put, List.setIfInBounds_toArray, List.set_cons_zero, List.set_cons_succ]
      refine wpAnyH_take (i := 12) (oi := _) (v := ?_) rfl (by kernel_rfl) (by kernel_rfl) (by kernel_rfl) (fun _ _ _ h => h) (Or.inl ⟨by rfl, ?_⟩) (by assumption) ?_
      rotate_left
      · intro w hSw
        try dsimp only at hSw
        go_simp
        all_goals with_reducible rfl
      (try simp only [List.getElem_toArray]); (try simp only [List.getElem_cons_succ]); (try simp only [List.getElem_cons_zero]); try simp only [Act.put, List.setIfInBounds_toArray, List.set_cons_zero, List.set_cons_succ]
      refine wpAnyH_take (i := 14) (oi := _) (v := ?_) rfl (by kernel_rfl) (by kernel_rfl) (by kernel_rfl) (fun _ _ _ h => h) (Or.inl ⟨by rfl, ?_⟩) (by assumption) ?_
      rotate_left
      · intro w hSw
        try dsimp only at hSw
        go_simp
        all_goals with_reducible rfl
      (try simp only [List.getElem_toArray]); (try simp only [List.getElem_cons_succ]); (try simp only [List.getElem_cons_zero]); try simp only [Act.put, List.setIfInBounds_toArray, List.set_cons_zero, List.set_cons_succ]
      refine wpAnyH_take (i := 15) (oi := _) (v := ?_) rfl (by kernel_rfl) (by kernel_rfl) (by kernel_rfl) (fun _ _ _ h => h) (Or.inl ⟨by rfl, ?_⟩) (by assumption) ?_
      rotate_left
      · intro w hSw
        try dsimp only at hSw
        go_simp
        all_goals with_reducible rfl
      (try simp only [List.getElem_toArray]); (try simp only [List.getElem_cons_succ]); (try simp only [List.getElem_cons_zero]); try simp only [Act.put, List.setIfInBounds_toArray, List.set_cons_zero, List.set_cons_succ]
      refine wpAnyH_take (i := 16) (oi := _) (v := ?_) rfl (by kernel_rfl) (by kernel_rfl) (by kernel_rfl) (fun _ _ _ h => h) (Or.inl ⟨by rfl, ?_⟩) (by assumption) ?_
      rotate_left
      · intro w hSw
        try dsimp only at hSw
        go_simp
        all_goals with_reducible rfl
      (try simp only [List.getElem_toArray]); (try simp only [List.getElem_cons_succ]); (try simp only [List.getElem_cons_zero]); try simp only [Act.put, List.setIfInBounds_toArray, List.set_cons_zero, List.set_cons_succ]
      refine wpAnyH_take (i := 17) (oi := _) (v := ?_) rfl (by kernel_rfl) (by kernel_rfl) (by kernel_rfl) (fun _ _ _ h => h) (Or.inl ⟨by rfl, ?_⟩) (by assumption) ?_
      rotate_left
      · intro w hSw
        try dsimp only at hSw
        go_simp
        all_goals with_reducible rfl
      (try simp only [List.getElem_toArray]); (try simp only [List.getElem_cons_succ]); (try simp only [List.getElem_cons_zero]); try simp only [Act.put, List.setIfInBounds_toArray, List.set_cons_zero, List.set_cons_succ]
      refine wpAnyH_take (i := 18) (oi := _) (v := ?_) rfl (by kernel_rfl) (by kernel_rfl) (by kernel_rfl) (fun _ _ _ h => h) (Or.inl ⟨by rfl, ?_⟩) (by assumption) ?_
      rotate_left
      · intro w hSw
        try dsimp only at hSw
        go_simp
        all_goals with_reducible rfl
      (try simp only [List.getElem_toArray]); (try simp only [List.getElem_cons_succ]); (try simp only [List.getElem_cons_zero]); try simp only [Act.put, List.setIfInBounds_toArray, List.set_cons_zero, List.set_cons_succ]
      refine wpAnyH_take (i := 21) (oi := _) (v := ?_) rfl (by kernel_rfl) (by kernel_rfl) (by kernel_rfl) (fun _ _ _ h => h) (Or.inl ⟨by rfl, ?_⟩) (by assumption) ?_
      rotate_left
      · intro w hSw
        try dsimp only at hSw
        go_simp
        all_goals with_reducible rfl
      (try simp only [List.getElem_toArray]); (try simp only [List.getElem_cons_succ]); (try simp only [List.getElem_cons_zero]); try simp only [Act.put, List.setIfInBounds_toArray, List.set_cons_zero, List.set_cons_succ]
      refine wpAnyH_take (i := 22) (oi := _) (v := ?_) rfl (by kernel_rfl) (by kernel_rfl) (by kernel_rfl) (fun _ _ _ h => h) (Or.inl ⟨by rfl, ?_⟩) (by assumption) ?_
      rotate_left
      · intro w hSw
        try dsimp only at hSw
        go_simp
        all_goals with_reducible rfl
      (try simp only [List.getElem_toArray]); (try simp only [List.getElem_cons_succ]); (try simp only [List.getElem_cons_zero]); try simp only [Act.put, List.setIfInBounds_toArray, List.set_cons_zero, List.set_cons_succ]
      refine wpAnyH_take (i := 25) (oi := _) (v := ?_) rfl (by kernel_rfl) (by kernel_rfl) (by kernel_rfl) (fun _ _ _ h => h) (Or.inl ⟨by rfl, ?_⟩) (by assumption) ?_
      rotate_left
      · intro w hSw
        try dsimp only at hSw
        go_simp
        all_goals with_reducible rfl
      (try simp only [List.getElem_toArray]); (try simp only [List.getElem_cons_succ]); (try simp only [List.getElem_cons_zero]); try simp only [Act.put, List.setIfInBounds_toArray, List.set_cons_zero, List.set_cons_succ]
      refine wpAnyH_take (i := 26) (oi := _) (v := ?_) rfl (by kernel_rfl) (by kernel_rfl) (by kernel_rfl) (fun _ _ _ h => h) (Or.inl ⟨by rfl, ?_⟩) (by assumption) ?_
      rotate_left
      · intro w hSw
        try dsimp only at hSw
        go_simp
        all_goals with_reducible rfl
      (try simp only [List.getElem_toArray]); (try simp only [List.getElem_cons_succ]); (try simp only [List.getElem_cons_zero]); try simp only [Act.put, List.setIfInBounds_toArray, List.set_cons_zero, List.set_cons_succ]
      refine wpAnyH_take (i := 27) (oi := _) (v := ?_) rfl (by kernel_rfl) (by kernel_rfl) (by kernel_rfl) (fun _ _ _ h => h) (Or.inl ⟨by rfl, ?_⟩) (by assumption) ?_
      rotate_left
      · intro w hSw
        try dsimp only at hSw
        go_simp
        all_goals with_reducible rfl
      (try simp only [List.getElem_toArray]); (try simp only [List.getElem_cons_succ]); (try simp only [List.getElem_cons_zero]); try simp only [Act.put, List.setIfInBounds_toArray, List.set_cons_zero, List.set_cons_succ]
      refine wpAnyH_ready (rs := [2, 30]) (by kernel_rfl) (by simp) ?_
      refine (AllReadyH.cons (o := _) rfl (fun K hK => ?_) (AllReadyH.cons (o := _) rfl (fun K hK => ?_) AllReadyH.nil))
      · (try simp only [List.getElem_toArray]); (try simp only [List.getElem_cons_succ]); (try simp only [List.getElem_cons_zero])
        go_simp
        go_at_call 34
        (with_reducible refine (HnA.out _ _ (by first | exact q0.out | exact q1.out)).mono ?_)
        rintro e w' ⟨rfl, rfl⟩
        try dsimp only
        refine hK.out _ _ ?_ (fun hHeld => ?_)
        · first | exact c13 | exact c13z | exact c13a | exact c13b | go_keep
        clear hK K
        (try simp only [List.getElem_toArray]); (try simp only [List.getElem_cons_succ]); (try simp only [List.getElem_cons_zero]); try simp only [Act.put, List.setIfInBounds_toArray, List.set_cons_zero, List.set_cons_succ]
        refine wpAnyH_take (i := 3) (oi := _) (v := ?_) rfl (by kernel_rfl) (by kernel_rfl) (by kernel_rfl) (fun _ _ _ h => h) (Or.inl ⟨by rfl, ?_⟩) (by assumption) ?_
        rotate_left
        · intro w hSw
          try dsimp only at hSw
          go_simp
          all_goals with_reducible rfl
        (try simp only [List.getElem_toArray]); (try simp only [List.getElem_cons_succ]); (try simp only [List.getElem_cons_zero]); try simp only [Act.put, List.setIfInBounds_toArray, List.set_cons_zero, List.set_cons_succ]
        refine wpAnyH_ready (rs := [6, 30]) (by kernel_rfl) (by simp) ?_
        refine (AllReadyH.cons (o := _) rfl (fun K hK => ?_) (AllReadyH.cons (o := _) rfl (fun K hK => ?_) AllReadyH.nil))
        · (try simp only [List.getElem_toArray]); (try simp only [List.getElem_cons_succ]); (try simp only [List.getElem_cons_zero])
          go_simp
          go_at_call 34
          (with_reducible refine (HnB.out _ _ (by first | exact q0.out | exact q1.out)).mono ?_)
          rintro e w' ⟨rfl, rfl⟩
          try dsimp only
          refine hK.out _ _ ?_ (fun hHeld => ?_)
          · first | exact c13 | exact c13z | exact c13a | exact c13b | go_keep
          clear hK K
          (try simp only [List.getElem_toArray]); (try simp only [List.getElem_cons_succ]); (try simp only [List.getElem_cons_zero]); try simp only [Act.put, List.setIfInBounds_toArray, List.set_cons_zero, List.set_cons_succ]
          refine wpAnyH_take (i := 7) (oi := _) (v := ?_) rfl (by kernel_rfl) (by kernel_rfl) (by kernel_rfl) (fun _ _ _ h => h) (Or.inl ⟨by rfl, ?_⟩) (by assumption) ?_
          rotate_left
          · intro w hSw
            try dsimp only at hSw
            go_simp
            all_goals with_reducible rfl
          (try simp only [List.getElem_toArray]); (try simp only [List.getElem_cons_succ]); (try simp only [List.getElem_cons_zero]); try simp only [Act.put, List.setIfInBounds_toArray, List.set_cons_zero, List.set_cons_succ]
          refine wpAnyH_ready (rs := [10, 30]) (by kernel_rfl) (by simp) ?_
          refine (AllReadyH.cons (o := _) rfl (fun K hK => ?_) (AllReadyH.cons (o := _) rfl (fun K hK => ?_) AllReadyH.nil))
          · (try simp only [List.getElem_toArray]); (try simp only [List.getElem_cons_succ]); (try simp only [List.getElem_cons_zero])
            go_simp
            go_at_call 34
            (with_reducible refine (HnC.out _ _ (by first | exact q0.out | exact q1.out)).mono ?_)
            rintro e w' ⟨rfl, rfl⟩
            try dsimp only
            refine hK.out _ _ ?_ (fun hHeld => ?_)
            · first | exact c13 | exact c13z | exact c13a | exact c13b | go_keep
            clear hK K
            (try simp only [List.getElem_toArray]); (try simp only [List.getElem_cons_succ]); (try simp only [List.getElem_cons_zero]); try simp only [Act.put, List.setIfInBounds_toArray, List.set_cons_zero, List.set_cons_succ]
            refine wpAnyH_ready (rs := [13, 30]) (by kernel_rfl) (by simp) ?_
            refine (AllReadyH.cons (o := _) rfl (fun K hK => ?_) (AllReadyH.cons (o := _) rfl (fun K hK => ?_) AllReadyH.nil))
            · (try simp only [List.getElem_toArray]); (try simp only [List.getElem_cons_succ]); (try simp only [List.getElem_cons_zero])
              go_simp
              go_at_call 34
              (with_reducible refine (HnD.out _ _ (by first | exact q0.out | exact q1.out)).mono ?_)
              rintro e w' ⟨rfl, rfl⟩
              try dsimp only
              refine hK.out _ _ ?_ (fun hHeld => ?_)
              · first | exact c13 | exact c13z | exact c13a | exact c13b | go_keep
              clear hK K
              (try simp only [List.getElem_toArray]); (try simp only [List.getElem_cons_succ]); (try simp only [List.getElem_cons_zero]); try simp only [Act.put, List.setIfInBounds_toArray, List.set_cons_zero, List.set_cons_succ]
              refine wpAnyH_ready (rs := [19, 30]) (by kernel_rfl) (by simp) ?_
              refine (AllReadyH.cons (o := _) rfl (fun K hK => ?_) (AllReadyH.cons (o := _) rfl (fun K hK => ?_) AllReadyH.nil))
              · (try simp only [List.getElem_toArray]); (try simp only [List.getElem_cons_succ]); (try simp only [List.getElem_cons_zero])
                go_simp
                go_at_call 34
                (with_reducible refine (HnE.out _ _ (by first | exact q0.out | exact q1.out)).mono ?_)
                rintro e w' ⟨rfl, rfl⟩
                try dsimp only
                refine hK.out _ _ ?_ (fun hHeld => ?_)
                · first | exact c13 | exact c13z | exact c13a | exact c13b | go_keep
                clear hK K
                (try simp only [List.getElem_toArray]); (try simp only [List.getElem_cons_succ]); (try simp only [List.getElem_cons_zero]); try simp only [Act.put, List.setIfInBounds_toArray, List.set_cons_zero, List.set_cons_succ]
                refine wpAnyH_take (i := 20) (oi := _) (v := ?_) rfl (by kernel_rfl) (by kernel_rfl) (by kernel_rfl) (fun _ _ _ h => h) (Or.inl ⟨by rfl, ?_⟩) (by assumption) ?_
                rotate_left
                · intro w hSw
                  try dsimp only at hSw
                  go_simp
                  all_goals with_reducible rfl
                (try simp only [List.getElem_toArray]); (try simp only [List.getElem_cons_succ]); (try simp only [List.getElem_cons_zero]); try simp only [Act.put, List.setIfInBounds_toArray, List.set_cons_zero, List.set_cons_succ]
                refine wpAnyH_ready (rs := [23, 30]) (by kernel_rfl) (by simp) ?_
                refine (AllReadyH.cons (o := _) rfl (fun K hK => ?_) (AllReadyH.cons (o := _) rfl (fun K hK => ?_) AllReadyH.nil))
                · (try simp only [List.getElem_toArray]); (try simp only [List.getElem_cons_succ]); (try simp only [List.getElem_cons_zero])
                  go_simp
                  go_at_call 34
                  (with_reducible refine (HnF.out _ _ (by first | exact q0.out | exact q1.out)).mono ?_)
                  rintro e w' ⟨rfl, rfl⟩
                  try dsimp only
                  refine hK.out _ _ ?_ (fun hHeld => ?_)
                  · first | exact c13 | exact c13z | exact c13a | exact c13b | go_keep
                  clear hK K
                  (try simp only [List.getElem_toArray]); (try simp only [List.getElem_cons_succ]); (try simp only [List.getElem_cons_zero]); try simp only [Act.put, List.setIfInBounds_toArray, List.set_cons_zero, List.set_cons_succ]
                  refine wpAnyH_take (i := 24) (oi := _) (v := ?_) rfl (by kernel_rfl) (by kernel_rfl) (by kernel_rfl) (fun _ _ _ h => h) (Or.inl ⟨by rfl, ?_⟩) (by assumption) ?_
                  rotate_left
                  · intro w hSw
                    try dsimp only at hSw
                    go_simp
                    all_goals with_reducible rfl
                  (try simp only [List.getElem_toArray]); (try simp only [List.getElem_cons_succ]); (try simp only [List.getElem_cons_zero]); try simp only [Act.put, List.setIfInBounds_toArray, List.set_cons_zero, List.set_cons_succ]
                  refine wpAnyH_ready (rs := [28, 30]) (by kernel_rfl) (by simp) ?_
                  refine (AllReadyH.cons (o := _) rfl (fun K hK => ?_) (AllReadyH.cons (o := _) rfl (fun K hK => ?_) AllReadyH.nil))
                  · (try simp only [List.getElem_toArray]); (try simp only [List.getElem_cons_succ]); (try simp only [List.getElem_cons_zero])
                    go_simp
                    go_at_call 35
                    refine (HCP2.out _ _ (by first | exact q0.out | exact q1.out)).mono ?_
                    rintro e V2 ⟨da, dc, rfl, O, bb⟩
                    try dsimp only
                    have c13z := (bb.cell (p := ⟨b, off + 13, none⟩) c13l0.out).trans c13d
                    have hO := Lib.hid O
                    have hbb := Lib.hid bb
                    clear O bb
                    refine hK.out _ _ ?_ (fun hHeld => ?_)
                    · first | exact c13 | exact c13z | exact c13a | exact c13b | go_keep
                    clear hK K
                    (try simp only [List.getElem_toArray]); (try simp only [List.getElem_cons_succ]); (try simp only [List.getElem_cons_zero]); try simp only [Act.put, List.setIfInBounds_toArray, List.set_cons_zero, List.set_cons_succ]
                    refine wpAnyH_take (i := 29) (oi := _) (v := ?_) rfl (by kernel_rfl) (by kernel_rfl) (by kernel_rfl) (fun _ _ _ h => h) (Or.inl ⟨by rfl, ?_⟩) (by assumption) ?_
                    rotate_left
                    · intro w hSw
                      try dsimp only at hSw
                      go_simp
                      all_goals with_reducible rfl
                    (try simp only [List.getElem_toArray]); (try simp only [List.getElem_cons_succ]); (try simp only [List.getElem_cons_zero]); try simp only [Act.put, List.setIfInBounds_toArray, List.set_cons_zero, List.set_cons_succ]
                    refine wpAnyH_ready (rs := [30]) (by kernel_rfl) (by simp) ?_
                    refine (AllReadyH.cons (o := _) rfl (fun K hK => ?_) AllReadyH.nil)
                    · (try simp only [List.getElem_toArray]); (try simp only [List.getElem_cons_succ]); (try simp only [List.getElem_cons_zero])
                      go_simp
                      refine hK.out _ _ ?_ (fun hHeld => ?_)
                      · first | exact c13z | go_keep
                      clear hK K
                      (try simp only [List.getElem_toArray]); (try simp only [List.getElem_cons_succ]); (try simp only [List.getElem_cons_zero]); try simp only [Act.put, List.setIfInBounds_toArray, List.set_cons_zero, List.set_cons_succ]
                      have K2 := Lib.hid (blk_new V2 (.cells #[.int .u16 0, .int .u16 0, .int .u32 0, .int .u32 0, .int .u8 0, .int .u16 0, .int .u16 0, .int .i64 0, .bool false, .int .i64 0, .bool false, .slice none 0 0, .bool false, .int .u32 0, .int .u32 0, .slice none 0 0] 27))
                      refine wpAnyH_ready (rs := [31]) (by kernel_rfl) (by simp) ?_
                      refine (AllReadyH.cons (o := _) rfl (fun K hK => ?_) AllReadyH.nil)
                      · have c13w := (World.cell?_of_block (w := V2) (w' := V2.alloc (.cells #[.int .u16 0, .int .u16 0, .int .u32 0, .int .u32 0, .int .u8 0, .int .u16 0, .int .u16 0, .int .i64 0, .bool false, .int .i64 0, .bool false, .slice none 0 0, .bool false, .int .u32 0, .int .u32 0, .slice none 0 0] 27)) (Below.heap_alloc V2 _ b (by have := hbb.out.size; have := c13l0.out; omega))).trans c13z
                        refine step_store_tcp ?_ (.tmp 9) (.tmp 73) ?_ V2.heap.size _ (pC sp dp sq ak fl wn ur (.slice da ds.length dc) (.slice none 0 0) tOpt0) ?_ ?_ K2.out ?_ ?_ ?_ ?_
                        · rfl
                        · rfl
                        · rfl
                        · rfl
                        · rfl
                        · rfl
                        · simp [pC, Value.oneCell']
                        intro V5 h5 g5
                        have hs2 := Lib.hid h5
                        have hg2 := Lib.hid g5
                        have c13y := (World.cell?_of_block (w := (V2.alloc (.cells #[.int .u16 0, .int .u16 0, .int .u32 0, .int .u32 0, .int .u8 0, .int .u16 0, .int .u16 0, .int .i64 0, .bool false, .int .i64 0, .bool false, .slice none 0 0, .bool false, .int .u32 0, .int .u32 0, .slice none 0 0] 27))) (w' := V5) (g5.block b (by rw [World.size_alloc]; have := hbb.out.size; have := c13l0.out; omega) (fun e => (fun e => by have := hbb.out.size; have := c13l0.out; omega) (Option.some.inj e)))).trans c13w
                        clear h5 g5
                        refine hK.out _ _ ?_ (fun hHeld => ?_)
                        · exact c13y
                        clear hK K
                        refine wpAnyH_done (by kernel_rfl) ?_ _
                        go_wp2
                        go_meet
                        case rel => exact PcCut.two K.out Q.out hV hO.out hbb.out hs2.out hg2.out
                  · (try simp only [List.getElem_toArray]); (try simp only [List.getElem_cons_succ]); (try simp only [List.getElem_cons_zero])
                    go_simp
                    refine hK.out _ _ ?_ (fun hHeld => ?_)
                    · exact c13a
                    clear hK K
                    (try simp only [List.getElem_toArray]); (try simp only [List.getElem_cons_succ]); (try simp only [List.getElem_cons_zero]); try simp only [Act.put, List.setIfInBounds_toArray, List.set_cons_zero, List.set_cons_succ]
                    refine wpAnyH_ready (rs := [28]) (by kernel_rfl) (by simp) ?_
                    refine (AllReadyH.cons (o := _) rfl (fun K hK => ?_) AllReadyH.nil)
                    · (try simp only [List.getElem_toArray]); (try simp only [List.getElem_cons_succ]); (try simp only [List.getElem_cons_zero])
                      go_simp
                      go_at_call 35
                      refine (HCP2.out _ _ (by first | exact q0.out | exact q1.out)).mono ?_
                      rintro e V2 ⟨da, dc, rfl, O, bb⟩
                      try dsimp only
                      have c13z := (bb.cell (p := ⟨b, off + 13, none⟩) c13l1.out).trans c13a
                      have hO := Lib.hid O
                      have hbb := Lib.hid bb
                      clear O bb
                      refine hK.out _ _ ?_ (fun hHeld => ?_)
                      · first | exact c13 | exact c13z | exact c13a | exact c13b | go_keep
                      clear hK K
                      (try simp only [List.getElem_toArray]); (try simp only [List.getElem_cons_succ]); (try simp only [List.getElem_cons_zero]); try simp only [Act.put, List.setIfInBounds_toArray, List.set_cons_zero, List.set_cons_succ]
                      have K2 := Lib.hid ((hbb.out.block V.heap.size lz1.out).trans (blk_new V (.cells #[.int .u16 0, .int .u16 0, .int .u32 0, .int .u32 0, .int .u8 0, .int .u16 0, .int .u16 0, .int .i64 0, .bool false, .int .i64 0, .bool false, .slice none 0 0, .bool false, .int .u32 0, .int .u32 0, .slice none 0 0] 27)))
                      refine wpAnyH_take (i := 29) (oi := _) (v := ?_) rfl (by kernel_rfl) (by kernel_rfl) (by kernel_rfl) (fun _ _ _ h => h) (Or.inl ⟨by rfl, ?_⟩) (by assumption) ?_
                      rotate_left
                      · intro w hSw
                        try dsimp only at hSw
                        go_simp
                        all_goals with_reducible rfl
                      (try simp only [List.getElem_toArray]); (try simp only [List.getElem_cons_succ]); (try simp only [List.getElem_cons_zero]); try simp only [Act.put, List.setIfInBounds_toArray, List.set_cons_zero, List.set_cons_succ]
                      refine wpAnyH_ready (rs := [31]) (by kernel_rfl) (by simp) ?_
                      refine (AllReadyH.cons (o := _) rfl (fun K hK => ?_) AllReadyH.nil)
                      · refine step_store_tcp ?_ (.tmp 9) (.tmp 73) ?_ V.heap.size _ (pC sp dp sq ak fl wn ur (.slice da ds.length dc) (.slice none 0 0) tOpt0) ?_ ?_ K2.out ?_ ?_ ?_ ?_
                        · rfl
                        · rfl
                        · rfl
                        · rfl
                        · rfl
                        · rfl
                        · simp [pC, Value.oneCell']
                        intro V5 h5 g5
                        have hs2 := Lib.hid h5
                        have hg2 := Lib.hid g5
                        have c13y := (World.cell?_of_block (w := V2) (w' := V5) (g5.block b (by have := hbb.out.size; have := lz1.out; omega) (fun e => nV (Option.some.inj e)))).trans c13z
                        clear h5 g5
                        refine hK.out _ _ ?_ (fun hHeld => ?_)
                        · exact c13y
                        clear hK K
                        refine wpAnyH_done (by kernel_rfl) ?_ _
                        go_wp2
                        go_meet
                        case rel => exact PcCut.one K.out Q.out hV hO.out hbb.out hs2.out hg2.out
                · (try simp only [List.getElem_toArray]); (try simp only [List.getElem_cons_succ]); (try simp only [List.getElem_cons_zero])
                  go_simp
                  refine hK.out _ _ ?_ (fun hHeld => ?_)
                  · exact c13a
                  clear hK K
                  (try simp only [List.getElem_toArray]); (try simp only [List.getElem_cons_succ]); (try simp only [List.getElem_cons_zero]); try simp only [Act.put, List.setIfInBounds_toArray, List.set_cons_zero, List.set_cons_succ]
                  refine wpAnyH_ready (rs := [23]) (by kernel_rfl) (by simp) ?_
                  refine (AllReadyH.cons (o := _) rfl (fun K hK => ?_) AllReadyH.nil)
                  · (try simp only [List.getElem_toArray]); (try simp only [List.getElem_cons_succ]); (try simp only [List.getElem_cons_zero])
                    go_simp
                    go_at_call 34
                    (with_reducible refine (HnF.out _ _ (by first | exact q0.out | exact q1.out)).mono ?_)
                    rintro e w' ⟨rfl, rfl⟩
                    try dsimp only
                    refine hK.out _ _ ?_ (fun hHeld => ?_)
                    · first | exact c13 | exact c13z | exact c13a | exact c13b | go_keep
                    clear hK K
                    (try simp only [List.getElem_toArray]); (try simp only [List.getElem_cons_succ]); (try simp only [List.getElem_cons_zero]); try simp only [Act.put, List.setIfInBounds_toArray, List.set_cons_zero, List.set_cons_succ]
                    refine wpAnyH_take (i := 24) (oi := _) (v := ?_) rfl (by kernel_rfl) (by kernel_rfl) (by kernel_rfl) (fun _ _ _ h => h) (Or.inl ⟨by rfl, ?_⟩) (by assumption) ?_
                    rotate_left
                    · intro w hSw
                      try dsimp only at hSw
                      go_simp
                      all_goals with_reducible rfl
                    (try simp only [List.getElem_toArray]); (try simp only [List.getElem_cons_succ]); (try simp only [List.getElem_cons_zero]); try simp only [Act.put, List.setIfInBounds_toArray, List.set_cons_zero, List.set_cons_succ]
                    refine wpAnyH_ready (rs := [28]) (by kernel_rfl) (by simp) ?_
                    refine (AllReadyH.cons (o := _) rfl (fun K hK => ?_) AllReadyH.nil)
                    · (try simp only [List.getElem_toArray]); (try simp only [List.getElem_cons_succ]); (try simp only [List.getElem_cons_zero])
                      go_simp
                      go_at_call 35
                      refine (HCP2.out _ _ (by first | exact q0.out | exact q1.out)).mono ?_
                      rintro e V2 ⟨da, dc, rfl, O, bb⟩
                      try dsimp only
                      have c13z := (bb.cell (p := ⟨b, off + 13, none⟩) c13l1.out).trans c13a
                      have hO := Lib.hid O
                      have hbb := Lib.hid bb
                      clear O bb
                      refine hK.out _ _ ?_ (fun hHeld => ?_)
                      · first | exact c13 | exact c13z | exact c13a | exact c13b | go_keep
                      clear hK K
                      (try simp only [List.getElem_toArray]); (try simp only [List.getElem_cons_succ]); (try simp only [List.getElem_cons_zero]); try simp only [Act.put, List.setIfInBounds_toArray, List.set_cons_zero, List.set_cons_succ]
                      have K2 := Lib.hid ((hbb.out.block V.heap.size lz1.out).trans (blk_new V (.cells #[.int .u16 0, .int .u16 0, .int .u32 0, .int .u32 0, .int .u8 0, .int .u16 0, .int .u16 0, .int .i64 0, .bool false, .int .i64 0, .bool false, .slice none 0 0, .bool false, .int .u32 0, .int .u32 0, .slice none 0 0] 27)))
                      refine wpAnyH_take (i := 29) (oi := _) (v := ?_) rfl (by kernel_rfl) (by kernel_rfl) (by kernel_rfl) (fun _ _ _ h => h) (Or.inl ⟨by rfl, ?_⟩) (by assumption) ?_
                      rotate_left
                      · intro w hSw
                        try dsimp only at hSw
                        go_simp
                        all_goals with_reducible rfl
                      (try simp only [List.getElem_toArray]); (try simp only [List.getElem_cons_succ]); (try simp only [List.getElem_cons_zero]); try simp only [Act.put, List.setIfInBounds_toArray, List.set_cons_zero, List.set_cons_succ]
                      refine wpAnyH_ready (rs := [31]) (by kernel_rfl) (by simp) ?_
                      refine (AllReadyH.cons (o := _) rfl (fun K hK => ?_) AllReadyH.nil)
                      · refine step_store_tcp ?_ (.tmp 9) (.tmp 73) ?_ V.heap.size _ (pC sp dp sq ak fl wn ur (.slice da ds.length dc) (.slice none 0 0) tOpt0) ?_ ?_ K2.out ?_ ?_ ?_ ?_
                        · rfl
                        · rfl
                        · rfl
                        · rfl
                        · rfl
                        · rfl
                        · simp [pC, Value.oneCell']
                        intro V5 h5 g5
                        have hs2 := Lib.hid h5
                        have hg2 := Lib.hid g5
                        have c13y := (World.cell?_of_block (w := V2) (w' := V5) (g5.block b (by have := hbb.out.size; have := lz1.out; omega) (fun e => nV (Option.some.inj e)))).trans c13z
                        clear h5 g5
                        refine hK.out _ _ ?_ (fun hHeld => ?_)
                        · exact c13y
                        clear hK K
                        refine wpAnyH_done (by kernel_rfl) ?_ _
                        go_wp2
                        go_meet
                        case rel => exact PcCut.one K.out Q.out hV hO.out hbb.out hs2.out hg2.out
              · (try simp only [List.getElem_toArray]); (try simp only [List.getElem_cons_succ]); (try simp only [List.getElem_cons_zero])
                go_simp
                refine hK.out _ _ ?_ (fun hHeld => ?_)
                · exact c13a
                clear hK K
                (try simp only [List.getElem_toArray]); (try simp only [List.getElem_cons_succ]); (try simp only [List.getElem_cons_zero]); try simp only [Act.put, List.setIfInBounds_toArray, List.set_cons_zero, List.set_cons_succ]
                refine wpAnyH_ready (rs := [19]) (by kernel_rfl) (by simp) ?_
                refine (AllReadyH.cons (o := _) rfl (fun K hK => ?_) AllReadyH.nil)
                · (try simp only [List.getElem_toArray]); (try simp only [List.getElem_cons_succ]); (try simp only [List.getElem_cons_zero])
                  go_simp
                  go_at_call 34
                  (with_reducible refine (HnE.out _ _ (by first | exact q0.out | exact q1.out)).mono ?_)
                  rintro e w' ⟨rfl, rfl⟩
                  try dsimp only
                  refine hK.out _ _ ?_ (fun hHeld => ?_)
                  · first | exact c13 | exact c13z | exact c13a | exact c13b | go_keep
                  clear hK K
                  (try simp only [List.getElem_toArray]); (try simp only [List.getElem_cons_succ]); (try simp only [List.getElem_cons_zero]); try simp only [Act.put, List.setIfInBounds_toArray, List.set_cons_zero, List.set_cons_succ]
                  refine wpAnyH_take (i := 20) (oi := _) (v := ?_) rfl (by kernel_rfl) (by kernel_rfl) (by kernel_rfl) (fun _ _ _ h => h) (Or.inl ⟨by rfl, ?_⟩) (by assumption) ?_
                  rotate_left
                  · intro w hSw
                    try dsimp only at hSw
                    go_simp
                    all_goals with_reducible rfl
                  (try simp only [List.getElem_toArray]); (try simp only [List.getElem_cons_succ]); (try simp only [List.getElem_cons_zero]); try simp only [Act.put, List.setIfInBounds_toArray, List.set_cons_zero, List.set_cons_succ]
                  refine wpAnyH_ready (rs := [23]) (by kernel_rfl) (by simp) ?_
                  refine (AllReadyH.cons (o := _) rfl (fun K hK => ?_) AllReadyH.nil)
                  · (try simp only [List.getElem_toArray]); (try simp only [List.getElem_cons_succ]); (try simp only [List.getElem_cons_zero])
                    go_simp
                    go_at_call 34
                    (with_reducible refine (HnF.out _ _ (by first | exact q0.out | exact q1.out)).mono ?_)
                    rintro e w' ⟨rfl, rfl⟩
                    try dsimp only
                    refine hK.out _ _ ?_ (fun hHeld => ?_)
                    · first | exact c13 | exact c13z | exact c13a | exact c13b | go_keep
                    clear hK K
                    (try simp only [List.getElem_toArray]); (try simp only [List.getElem_cons_succ]); (try simp only [List.getElem_cons_zero]); try simp only [Act.put, List.setIfInBounds_toArray, List.set_cons_zero, List.set_cons_succ]
                    refine wpAnyH_take (i := 24) (oi := _) (v := ?_) rfl (by kernel_rfl) (by kernel_rfl) (by kernel_rfl) (fun _ _ _ h => h) (Or.inl ⟨by rfl, ?_⟩) (by assumption) ?_
                    rotate_left
                    · intro w hSw
                      try dsimp only at hSw
                      go_simp
                      all_goals with_reducible rfl
                    (try simp only [List.getElem_toArray]); (try simp only [List.getElem_cons_succ]); (try simp only [List.getElem_cons_zero]); try simp only [Act.put, List.setIfInBounds_toArray, List.set_cons_zero, List.set_cons_succ]
                    refine wpAnyH_ready (rs := [28]) (by kernel_rfl) (by simp) ?_
                    refine (AllReadyH.cons (o := _) rfl (fun K hK => ?_) AllReadyH.nil)
                    · (try simp only [List.getElem_toArray]); (try simp only [List.getElem_cons_succ]); (try simp only [List.getElem_cons_zero])
                      go_simp
                      go_at_call 35
                      refine (HCP2.out _ _ (by first | exact q0.out | exact q1.out)).mono ?_
                      rintro e V2 ⟨da, dc, rfl, O, bb⟩
                      try dsimp only
                      have c13z := (bb.cell (p := ⟨b, off + 13, none⟩) c13l1.out).trans c13a
                      have hO := Lib.hid O
                      have hbb := Lib.hid bb
                      clear O bb
                      refine hK.out _ _ ?_ (fun hHeld => ?_)
                      · first | exact c13 | exact c13z | exact c13a | exact c13b | go_keep
                      clear hK K
                      (try simp only [List.getElem_toArray]); (try simp only [List.getElem_cons_succ]); (try simp only [List.getElem_cons_zero]); try simp only [Act.put, List.setIfInBounds_toArray, List.set_cons_zero, List.set_cons_succ]
                      have K2 := Lib.hid ((hbb.out.block V.heap.size lz1.out).trans (blk_new V (.cells #[.int .u16 0, .int .u16 0, .int .u32 0, .int .u32 0, .int .u8 0, .int .u16 0, .int .u16 0, .int .i64 0, .bool false, .int .i64 0, .bool false, .slice none 0 0, .bool false, .int .u32 0, .int .u32 0, .slice none 0 0] 27)))
                      refine wpAnyH_take (i := 29) (oi := _) (v := ?_) rfl (by kernel_rfl) (by kernel_rfl) (by kernel_rfl) (fun _ _ _ h => h) (Or.inl ⟨by rfl, ?_⟩) (by assumption) ?_
                      rotate_left
                      · intro w hSw
                        try dsimp only at hSw
                        go_simp
                        all_goals with_reducible rfl
                      (try simp only [List.getElem_toArray]); (try simp only [List.getElem_cons_succ]); (try simp only [List.getElem_cons_zero]); try simp only [Act.put, List.setIfInBounds_toArray, List.set_cons_zero, List.set_cons_succ]
                      refine wpAnyH_ready (rs := [31]) (by kernel_rfl) (by simp) ?_
                      refine (AllReadyH.cons (o := _) rfl (fun K hK => ?_) AllReadyH.nil)
                      · refine step_store_tcp ?_ (.tmp 9) (.tmp 73) ?_ V.heap.size _ (pC sp dp sq ak fl wn ur (.slice da ds.length dc) (.slice none 0 0) tOpt0) ?_ ?_ K2.out ?_ ?_ ?_ ?_
                        · rfl
                        · rfl
                        · rfl
                        · rfl
                        · rfl
                        · rfl
                        · simp [pC, Value.oneCell']
                        intro V5 h5 g5
                        have hs2 := Lib.hid h5
                        have hg2 := Lib.hid g5
                        have c13y := (World.cell?_of_block (w := V2) (w' := V5) (g5.block b (by have := hbb.out.size; have := lz1.out; omega) (fun e => nV (Option.some.inj e)))).trans c13z
                        clear h5 g5
                        refine hK.out _ _ ?_ (fun hHeld => ?_)
                        · exact c13y
                        clear hK K
                        refine wpAnyH_done (by kernel_rfl) ?_ _
                        go_wp2
                        go_meet
                        case rel => exact PcCut.one K.out Q.out hV hO.out hbb.out hs2.out hg2.out
            · (try simp only [List.getElem_toArray]); (try simp only [List.getElem_cons_succ]); (try simp only [List.getElem_cons_zero])
              go_simp
              refine hK.out _ _ ?_ (fun hHeld => ?_)
              · exact c13a
              clear hK K
              (try simp only [List.getElem_toArray]); (try simp only [List.getElem_cons_succ]); (try simp only [List.getElem_cons_zero]); try simp only [Act.put, List.setIfInBounds_toArray, List.set_cons_zero, List.set_cons_succ]
              refine wpAnyH_ready (rs := [13]) (by kernel_rfl) (by simp) ?_
              refine (AllReadyH.cons (o := _) rfl (fun K hK => ?_) AllReadyH.nil)
              · (try simp only [List.getElem_toArray]); (try simp only [List.getElem_cons_succ]); (try simp only [List.getElem_cons_zero])
                go_simp
                go_at_call 34
                (with_reducible refine (HnD.out _ _ (by first | exact q0.out | exact q1.out)).mono ?_)
                rintro e w' ⟨rfl, rfl⟩
                try dsimp only
                refine hK.out _ _ ?_ (fun hHeld => ?_)
                · first | exact c13 | exact c13z | exact c13a | exact c13b | go_keep
                clear hK K
                (try simp only [List.getElem_toArray]); (try simp only [List.getElem_cons_succ]); (try simp only [List.getElem_cons_zero]); try simp only [Act.put, List.setIfInBounds_toArray, List.set_cons_zero, List.set_cons_succ]
                refine wpAnyH_ready (rs := [19]) (by kernel_rfl) (by simp) ?_
                refine (AllReadyH.cons (o := _) rfl (fun K hK => ?_) AllReadyH.nil)
                · (try simp only [List.getElem_toArray]); (try simp only [List.getElem_cons_succ]); (try simp only [List.getElem_cons_zero])
                  go_simp
                  go_at_call 34
                  (with_reducible refine (HnE.out _ _ (by first | exact q0.out | exact q1.out)).mono ?_)
                  rintro e w' ⟨rfl, rfl⟩
                  try dsimp only
                  refine hK.out _ _ ?_ (fun hHeld => ?_)
                  · first | exact c13 | exact c13z | exact c13a | exact c13b | go_keep
                  clear hK K
                  (try simp only [List.getElem_toArray]); (try simp only [List.getElem_cons_succ]); (try simp only [List.getElem_cons_zero]); try simp only [Act.put, List.setIfInBounds_toArray, List.set_cons_zero, List.set_cons_succ]
                  refine wpAnyH_take (i := 20) (oi := _) (v := ?_) rfl (by kernel_rfl) (by kernel_rfl) (by kernel_rfl) (fun _ _ _ h => h) (Or.inl ⟨by rfl, ?_⟩) (by assumption) ?_
                  rotate_left
                  · intro w hSw
                    try dsimp only at hSw
                    go_simp
                    all_goals with_reducible rfl
                  (try simp only [List.getElem_toArray]); (try simp only [List.getElem_cons_succ]); (try simp only [List.getElem_cons_zero]); try simp only [Act.put, List.setIfInBounds_toArray, List.set_cons_zero, List.set_cons_succ]
                  refine wpAnyH_ready (rs := [23]) (by kernel_rfl) (by simp) ?_
                  refine (AllReadyH.cons (o := _) rfl (fun K hK => ?_) AllReadyH.nil)
                  · (try simp only [List.getElem_toArray]); (try simp only [List.getElem_cons_succ]); (try simp only [List.getElem_cons_zero])
                    go_simp
                    go_at_call 34
                    (with_reducible refine (HnF.out _ _ (by first | exact q0.out | exact q1.out)).mono ?_)
                    rintro e w' ⟨rfl, rfl⟩
                    try dsimp only
                    refine hK.out _ _ ?_ (fun hHeld => ?_)
                    · first | exact c13 | exact c13z | exact c13a | exact c13b | go_keep
                    clear hK K
                    (try simp only [List.getElem_toArray]); (try simp only [List.getElem_cons_succ]); (try simp only [List.getElem_cons_zero]); try simp only [Act.put, List.setIfInBounds_toArray, List.set_cons_zero, List.set_cons_succ]
                    refine wpAnyH_take (i := 24) (oi := _) (v := ?_) rfl (by kernel_rfl) (by kernel_rfl) (by kernel_rfl) (fun _ _ _ h => h) (Or.inl ⟨by rfl, ?_⟩) (by assumption) ?_
                    rotate_left
                    · intro w hSw
                      try dsimp only at hSw
                      go_simp
                      all_goals with_reducible rfl
                    (try simp only [List.getElem_toArray]); (try simp only [List.getElem_cons_succ]); (try simp only [List.getElem_cons_zero]); try simp only [Act.put, List.setIfInBounds_toArray, List.set_cons_zero, List.set_cons_succ]
                    refine wpAnyH_ready (rs := [28]) (by kernel_rfl) (by simp) ?_
                    refine (AllReadyH.cons (o := _) rfl (fun K hK => ?_) AllReadyH.nil)
                    · (try simp only [List.getElem_toArray]); (try simp only [List.getElem_cons_succ]); (try simp only [List.getElem_cons_zero])
                      go_simp
                      go_at_call 35
                      refine (HCP2.out _ _ (by first | exact q0.out | exact q1.out)).mono ?_
                      rintro e V2 ⟨da, dc, rfl, O, bb⟩
                      try dsimp only
                      have c13z := (bb.cell (p := ⟨b, off + 13, none⟩) c13l1.out).trans c13a
                      have hO := Lib.hid O
                      have hbb := Lib.hid bb
                      clear O bb
                      refine hK.out _ _ ?_ (fun hHeld => ?_)
                      · first | exact c13 | exact c13z | exact c13a | exact c13b | go_keep
                      clear hK K
                      (try simp only [List.getElem_toArray]); (try simp only [List.getElem_cons_succ]); (try simp only [List.getElem_cons_zero]); try simp only [Act.put, List.setIfInBounds_toArray, List.set_cons_zero, List.set_cons_succ]
                      have K2 := Lib.hid ((hbb.out.block V.heap.size lz1.out).trans (blk_new V (.cells #[.int .u16 0, .int .u16 0, .int .u32 0, .int .u32 0, .int .u8 0, .int .u16 0, .int .u16 0, .int .i64 0, .bool false, .int .i64 0, .bool false, .slice none 0 0, .bool false, .int .u32 0, .int .u32 0, .slice none 0 0] 27)))
                      refine wpAnyH_take (i := 29) (oi := _) (v := ?_) rfl (by kernel_rfl) (by kernel_rfl) (by kernel_rfl) (fun _ _ _ h => h) (Or.inl ⟨by rfl, ?_⟩) (by assumption) ?_
                      rotate_left
                      · intro w hSw
                        try dsimp only at hSw
                        go_simp
                        all_goals with_reducible rfl
                      (try simp only [List.getElem_toArray]); (try simp only [List.getElem_cons_succ]); (try simp only [List.getElem_cons_zero]); try simp only [Act.put, List.setIfInBounds_toArray, List.set_cons_zero, List.set_cons_succ]
                      refine wpAnyH_ready (rs := [31]) (by kernel_rfl) (by simp) ?_
                      refine (AllReadyH.cons (o := _) rfl (fun K hK => ?_) AllReadyH.nil)
                      · refine step_store_tcp ?_ (.tmp 9) (.tmp 73) ?_ V.heap.size _ (pC sp dp sq ak fl wn ur (.slice da ds.length dc) (.slice none 0 0) tOpt0) ?_ ?_ K2.out ?_ ?_ ?_ ?_
                        · rfl
                        · rfl
                        · rfl
                        · rfl
                        · rfl
                        · rfl
                        · simp [pC, Value.oneCell']
                        intro V5 h5 g5
                        have hs2 := Lib.hid h5
                        have hg2 := Lib.hid g5
                        have c13y := (World.cell?_of_block (w := V2) (w' := V5) (g5.block b (by have := hbb.out.size; have := lz1.out; omega) (fun e => nV (Option.some.inj e)))).trans c13z
                        clear h5 g5
                        refine hK.out _ _ ?_ (fun hHeld => ?_)
                        · exact c13y
                        clear hK K
                        refine wpAnyH_done (by kernel_rfl) ?_ _
                        go_wp2
                        go_meet
                        case rel => exact PcCut.one K.out Q.out hV hO.out hbb.out hs2.out hg2.out
          · (try simp only [List.getElem_toArray]); (try simp only [List.getElem_cons_succ]); (try simp only [List.getElem_cons_zero])
            go_simp
            refine hK.out _ _ ?_ (fun hHeld => ?_)
            · exact c13a
            clear hK K
            (try simp only [List.getElem_toArray]); (try simp only [List.getElem_cons_succ]); (try simp only [List.getElem_cons_zero]); try simp only [Act.put, List.setIfInBounds_toArray, List.set_cons_zero, List.set_cons_succ]
            refine wpAnyH_ready (rs := [10]) (by kernel_rfl) (by simp) ?_
            refine (AllReadyH.cons (o := _) rfl (fun K hK => ?_) AllReadyH.nil)
            · (try simp only [List.getElem_toArray]); (try simp only [List.getElem_cons_succ]); (try simp only [List.getElem_cons_zero])
              go_simp
              go_at_call 34
              (with_reducible refine (HnC.out _ _ (by first | exact q0.out | exact q1.out)).mono ?_)
              rintro e w' ⟨rfl, rfl⟩
              try dsimp only
              refine hK.out _ _ ?_ (fun hHeld => ?_)
              · first | exact c13 | exact c13z | exact c13a | exact c13b | go_keep
              clear hK K
              (try simp only [List.getElem_toArray]); (try simp only [List.getElem_cons_succ]); (try simp only [List.getElem_cons_zero]); try simp only [Act.put, List.setIfInBounds_toArray, List.set_cons_zero, List.set_cons_succ]
              refine wpAnyH_ready (rs := [13]) (by kernel_rfl) (by simp) ?_
              refine (AllReadyH.cons (o := _) rfl (fun K hK => ?_) AllReadyH.nil)
              · (try simp only [List.getElem_toArray]); (try simp only [List.getElem_cons_succ]); (try simp only [List.getElem_cons_zero])
                go_simp
                go_at_call 34
                (with_reducible refine (HnD.out _ _ (by first | exact q0.out | exact q1.out)).mono ?_)
                rintro e w' ⟨rfl, rfl⟩
                try dsimp only
                refine hK.out _ _ ?_ (fun hHeld => ?_)
                · first | exact c13 | exact c13z | exact c13a | exact c13b | go_keep
                clear hK K
                (try simp only [List.getElem_toArray]); (try simp only [List.getElem_cons_succ]); (try simp only [List.getElem_cons_zero]); try simp only [Act.put, List.setIfInBounds_toArray, List.set_cons_zero, List.set_cons_succ]
                refine wpAnyH_ready (rs := [19]) (by kernel_rfl) (by simp) ?_
                refine (AllReadyH.cons (o := _) rfl (fun K hK => ?_) AllReadyH.nil)
                · (try simp only [List.getElem_toArray]); (try simp only [List.getElem_cons_succ]); (try simp only [List.getElem_cons_zero])
                  go_simp
                  go_at_call 34
                  (with_reducible refine (HnE.out _ _ (by first | exact q0.out | exact q1.out)).mono ?_)
                  rintro e w' ⟨rfl, rfl⟩
                  try dsimp only
                  refine hK.out _ _ ?_ (fun hHeld => ?_)
                  · first | exact c13 | exact c13z | exact c13a | exact c13b | go_keep
                  clear hK K
                  (try simp only [List.getElem_toArray]); (try simp only [List.getElem_cons_succ]); (try simp only [List.getElem_cons_zero]); try simp only [Act.put, List.setIfInBounds_toArray, List.set_cons_zero, List.set_cons_succ]
                  refine wpAnyH_take (i := 20) (oi := _) (v := ?_) rfl (by kernel_rfl) (by kernel_rfl) (by kernel_rfl) (fun _ _ _ h => h) (Or.inl ⟨by rfl, ?_⟩) (by assumption) ?_
                  rotate_left
                  · intro w hSw
                    try dsimp only at hSw
                    go_simp
                    all_goals with_reducible rfl
                  (try simp only [List.getElem_toArray]); (try simp only [List.getElem_cons_succ]); (try simp only [List.getElem_cons_zero]); try simp only [Act.put, List.setIfInBounds_toArray, List.set_cons_zero, List.set_cons_succ]
                  refine wpAnyH_ready (rs := [23]) (by kernel_rfl) (by simp) ?_
                  refine (AllReadyH.cons (o := _) rfl (fun K hK => ?_) AllReadyH.nil)
                  · (try simp only [List.getElem_toArray]); (try simp only [List.getElem_cons_succ]); (try simp only [List.getElem_cons_zero])
                    go_simp
                    go_at_call 34
                    (with_reducible refine (HnF.out _ _ (by first | exact q0.out | exact q1.out)).mono ?_)
                    rintro e w' ⟨rfl, rfl⟩
                    try dsimp only
                    refine hK.out _ _ ?_ (fun hHeld => ?_)
                    · first | exact c13 | exact c13z | exact c13a | exact c13b | go_keep
                    clear hK K
                    (try simp only [List.getElem_toArray]); (try simp only [List.getElem_cons_succ]); (try simp only [List.getElem_cons_zero]); try simp only [Act.put, List.setIfInBounds_toArray, List.set_cons_zero, List.set_cons_succ]
                    refine wpAnyH_take (i := 24) (oi := _) (v := ?_) rfl (by kernel_rfl) (by kernel_rfl) (by kernel_rfl) (fun _ _ _ h => h) (Or.inl ⟨by rfl, ?_⟩) (by assumption) ?_
                    rotate_left
                    · intro w hSw
                      try dsimp only at hSw
                      go_simp
                      all_goals with_reducible rfl
                    (try simp only [List.getElem_toArray]); (try simp only [List.getElem_cons_succ]); (try simp only [List.getElem_cons_zero]); try simp only [Act.put, List.setIfInBounds_toArray, List.set_cons_zero, List.set_cons_succ]
                    refine wpAnyH_ready (rs := [28]) (by kernel_rfl) (by simp) ?_
                    refine (AllReadyH.cons (o := _) rfl (fun K hK => ?_) AllReadyH.nil)
                    · (try simp only [List.getElem_toArray]); (try simp only [List.getElem_cons_succ]); (try simp only [List.getElem_cons_zero])
                      go_simp
                      go_at_call 35
                      refine (HCP2.out _ _ (by first | exact q0.out | exact q1.out)).mono ?_
                      rintro e V2 ⟨da, dc, rfl, O, bb⟩
                      try dsimp only
                      have c13z := (bb.cell (p := ⟨b, off + 13, none⟩) c13l1.out).trans c13a
                      have hO := Lib.hid O
                      have hbb := Lib.hid bb
                      clear O bb
                      refine hK.out _ _ ?_ (fun hHeld => ?_)
                      · first | exact c13 | exact c13z | exact c13a | exact c13b | go_keep
                      clear hK K
                      (try simp only [List.getElem_toArray]); (try simp only [List.getElem_cons_succ]); (try simp only [List.getElem_cons_zero]); try simp only [Act.put, List.setIfInBounds_toArray, List.set_cons_zero, List.set_cons_succ]
                      have K2 := Lib.hid ((hbb.out.block V.heap.size lz1.out).trans (blk_new V (.cells #[.int .u16 0, .int .u16 0, .int .u32 0, .int .u32 0, .int .u8 0, .int .u16 0, .int .u16 0, .int .i64 0, .bool false, .int .i64 0, .bool false, .slice none 0 0, .bool false, .int .u32 0, .int .u32 0, .slice none 0 0] 27)))
                      refine wpAnyH_take (i := 29) (oi := _) (v := ?_) rfl (by kernel_rfl) (by kernel_rfl) (by kernel_rfl) (fun _ _ _ h => h) (Or.inl ⟨by rfl, ?_⟩) (by assumption) ?_
                      rotate_left
                      · intro w hSw
                        try dsimp only at hSw
                        go_simp
                        all_goals with_reducible rfl
                      (try simp only [List.getElem_toArray]); (try simp only [List.getElem_cons_succ]); (try simp only [List.getElem_cons_zero]); try simp only [Act.put, List.setIfInBounds_toArray, List.set_cons_zero, List.set_cons_succ]
                      refine wpAnyH_ready (rs := [31]) (by kernel_rfl) (by simp) ?_
                      refine (AllReadyH.cons (o := _) rfl (fun K hK => ?_) AllReadyH.nil)
                      · refine step_store_tcp ?_ (.tmp 9) (.tmp 73) ?_ V.heap.size _ (pC sp dp sq ak fl wn ur (.slice da ds.length dc) (.slice none 0 0) tOpt0) ?_ ?_ K2.out ?_ ?_ ?_ ?_
                        · rfl
                        · rfl
                        · rfl
                        · rfl
                        · rfl
                        · rfl
                        · simp [pC, Value.oneCell']
                        intro V5 h5 g5
                        have hs2 := Lib.hid h5
                        have hg2 := Lib.hid g5
                        have c13y := (World.cell?_of_block (w := V2) (w' := V5) (g5.block b (by have := hbb.out.size; have := lz1.out; omega) (fun e => nV (Option.some.inj e)))).trans c13z
                        clear h5 g5
                        refine hK.out _ _ ?_ (fun hHeld => ?_)
                        · exact c13y
                        clear hK K
                        refine wpAnyH_done (by kernel_rfl) ?_ _
                        go_wp2
                        go_meet
                        case rel => exact PcCut.one K.out Q.out hV hO.out hbb.out hs2.out hg2.out
        · (try simp only [List.getElem_toArray]); (try simp only [List.getElem_cons_succ]); (try simp only [List.getElem_cons_zero])
          go_simp
          refine hK.out _ _ ?_ (fun hHeld => ?_)
          · exact c13a
          clear hK K
          (try simp only [List.getElem_toArray]); (try simp only [List.getElem_cons_succ]); (try simp only [List.getElem_cons_zero]); try simp only [Act.put, List.setIfInBounds_toArray, List.set_cons_zero, List.set_cons_succ]
          refine wpAnyH_ready (rs := [6]) (by kernel_rfl) (by simp) ?_
          refine (AllReadyH.cons (o := _) rfl (fun K hK => ?_) AllReadyH.nil)
          · (try simp only [List.getElem_toArray]); (try simp only [List.getElem_cons_succ]); (try simp only [List.getElem_cons_zero])
            go_simp
            go_at_call 34
            (with_reducible refine (HnB.out _ _ (by first | exact q0.out | exact q1.out)).mono ?_)
            rintro e w' ⟨rfl, rfl⟩
            try dsimp only
            refine hK.out _ _ ?_ (fun hHeld => ?_)
            · first | exact c13 | exact c13z | exact c13a | exact c13b | go_keep
            clear hK K
            (try simp only [List.getElem_toArray]); (try simp only [List.getElem_cons_succ]); (try simp only [List.getElem_cons_zero]); try simp only [Act.put, List.setIfInBounds_toArray, List.set_cons_zero, List.set_cons_succ]
            refine wpAnyH_take (i := 7) (oi := _) (v := ?_) rfl (by kernel_rfl) (by kernel_rfl) (by kernel_rfl) (fun _ _ _ h => h) (Or.inl ⟨by rfl, ?_⟩) (by assumption) ?_
            rotate_left
            · intro w hSw
              try dsimp only at hSw
              go_simp
              all_goals with_reducible rfl
            (try simp only [List.getElem_toArray]); (try simp only [List.getElem_cons_succ]); (try simp only [List.getElem_cons_zero]); try simp only [Act.put, List.setIfInBounds_toArray, List.set_cons_zero, List.set_cons_succ]
            refine wpAnyH_ready (rs := [10]) (by kernel_rfl) (by simp) ?_
            refine (AllReadyH.cons (o := _) rfl (fun K hK => ?_) AllReadyH.nil)
            · (try simp only [List.getElem_toArray]); (try simp only [List.getElem_cons_succ]); (try simp only [List.getElem_cons_zero])
              go_simp
              go_at_call 34
              (with_reducible refine (HnC.out _ _ (by first | exact q0.out | exact q1.out)).mono ?_)
              rintro e w' ⟨rfl, rfl⟩
              try dsimp only
              refine hK.out _ _ ?_ (fun hHeld => ?_)
              · first | exact c13 | exact c13z | exact c13a | exact c13b | go_keep
              clear hK K
              (try simp only [List.getElem_toArray]); (try simp only [List.getElem_cons_succ]); (try simp only [List.getElem_cons_zero]); try simp only [Act.put, List.setIfInBounds_toArray, List.set_cons_zero, List.set_cons_succ]
              refine wpAnyH_ready (rs := [13]) (by kernel_rfl) (by simp) ?_
              refine (AllReadyH.cons (o := _) rfl (fun K hK => ?_) AllReadyH.nil)
              · (try simp only [List.getElem_toArray]); (try simp only [List.getElem_cons_succ]); (try simp only [List.getElem_cons_zero])
                go_simp
                go_at_call 34
                (with_reducible refine (HnD.out _ _ (by first | exact q0.out | exact q1.out)).mono ?_)
                rintro e w' ⟨rfl, rfl⟩
                try dsimp only
                refine hK.out _ _ ?_ (fun hHeld => ?_)
                · first | exact c13 | exact c13z | exact c13a | exact c13b | go_keep
                clear hK K
                (try simp only [List.getElem_toArray]); (try simp only [List.getElem_cons_succ]); (try simp only [List.getElem_cons_zero]); try simp only [Act.put, List.setIfInBounds_toArray, List.set_cons_zero, List.set_cons_succ]
                refine wpAnyH_ready (rs := [19]) (by kernel_rfl) (by simp) ?_
                refine (AllReadyH.cons (o := _) rfl (fun K hK => ?_) AllReadyH.nil)
                · (try simp only [List.getElem_toArray]); (try simp only [List.getElem_cons_succ]); (try simp only [List.getElem_cons_zero])
                  go_simp
                  go_at_call 34
                  (with_reducible refine (HnE.out _ _ (by first | exact q0.out | exact q1.out)).mono ?_)
                  rintro e w' ⟨rfl, rfl⟩
                  try dsimp only
                  refine hK.out _ _ ?_ (fun hHeld => ?_)
                  · first | exact c13 | exact c13z | exact c13a | exact c13b | go_keep
                  clear hK K
                  (try simp only [List.getElem_toArray]); (try simp only [List.getElem_cons_succ]); (try simp only [List.getElem_cons_zero]); try simp only [Act.put, List.setIfInBounds_toArray, List.set_cons_zero, List.set_cons_succ]
                  refine wpAnyH_take (i := 20) (oi := _) (v := ?_) rfl (by kernel_rfl) (by kernel_rfl) (by kernel_rfl) (fun _ _ _ h => h) (Or.inl ⟨by rfl, ?_⟩) (by assumption) ?_
                  rotate_left
                  · intro w hSw
                    try dsimp only at hSw
                    go_simp
                    all_goals with_reducible rfl
                  (try simp only [List.getElem_toArray]); (try simp only [List.getElem_cons_succ]); (try simp only [List.getElem_cons_zero]); try simp only [Act.put, List.setIfInBounds_toArray, List.set_cons_zero, List.set_cons_succ]
                  refine wpAnyH_ready (rs := [23]) (by kernel_rfl) (by simp) ?_
                  refine (AllReadyH.cons (o := _) rfl (fun K hK => ?_) AllReadyH.nil)
                  · (try simp only [List.getElem_toArray]); (try simp only [List.getElem_cons_succ]); (try simp only [List.getElem_cons_zero])
                    go_simp
                    go_at_call 34
                    (with_reducible refine (HnF.out _ _ (by first | exact q0.out | exact q1.out)).mono ?_)
                    rintro e w' ⟨rfl, rfl⟩
                    try dsimp only
                    refine hK.out _ _ ?_ (fun hHeld => ?_)
                    · first | exact c13 | exact c13z | exact c13a | exact c13b | go_keep
                    clear hK K
                    (try simp only [List.getElem_toArray]); (try simp only [List.getElem_cons_succ]); (try simp only [List.getElem_cons_zero]); try simp only [Act.put, List.setIfInBounds_toArray, List.set_cons_zero, List.set_cons_succ]
                    refine wpAnyH_take (i := 24) (oi := _) (v := ?_) rfl (by kernel_rfl) (by kernel_rfl) (by kernel_rfl) (fun _ _ _ h => h) (Or.inl ⟨by rfl, ?_⟩) (by assumption) ?_
                    rotate_left
                    · intro w hSw
                      try dsimp only at hSw
                      go_simp
                      all_goals with_reducible rfl
                    (try simp only [List.getElem_toArray]); (try simp only [List.getElem_cons_succ]); (try simp only [List.getElem_cons_zero]); try simp only [Act.put, List.setIfInBounds_toArray, List.set_cons_zero, List.set_cons_succ]
                    refine wpAnyH_ready (rs := [28]) (by kernel_rfl) (by simp) ?_
                    refine (AllReadyH.cons (o := _) rfl (fun K hK => ?_) AllReadyH.nil)
                    · (try simp only [List.getElem_toArray]); (try simp only [List.getElem_cons_succ]); (try simp only [List.getElem_cons_zero])
                      go_simp
                      go_at_call 35
                      refine (HCP2.out _ _ (by first | exact q0.out | exact q1.out)).mono ?_
                      rintro e V2 ⟨da, dc, rfl, O, bb⟩
                      try dsimp only
                      have c13z := (bb.cell (p := ⟨b, off + 13, none⟩) c13l1.out).trans c13a
                      have hO := Lib.hid O
                      have hbb := Lib.hid bb
                      clear O bb
                      refine hK.out _ _ ?_ (fun hHeld => ?_)
                      · first | exact c13 | exact c13z | exact c13a | exact c13b | go_keep
                      clear hK K
                      (try simp only [List.getElem_toArray]); (try simp only [List.getElem_cons_succ]); (try simp only [List.getElem_cons_zero]); try simp only [Act.put, List.setIfInBounds_toArray, List.set_cons_zero, List.set_cons_succ]
                      have K2 := Lib.hid ((hbb.out.block V.heap.size lz1.out).trans (blk_new V (.cells #[.int .u16 0, .int .u16 0, .int .u32 0, .int .u32 0, .int .u8 0, .int .u16 0, .int .u16 0, .int .i64 0, .bool false, .int .i64 0, .bool false, .slice none 0 0, .bool false, .int .u32 0, .int .u32 0, .slice none 0 0] 27)))
                      refine wpAnyH_take (i := 29) (oi := _) (v := ?_) rfl (by kernel_rfl) (by kernel_rfl) (by kernel_rfl) (fun _ _ _ h => h) (Or.inl ⟨by rfl, ?_⟩) (by assumption) ?_
                      rotate_left
                      · intro w hSw
                        try dsimp only at hSw
                        go_simp
                        all_goals with_reducible rfl
                      (try simp only [List.getElem_toArray]); (try simp only [List.getElem_cons_succ]); (try simp only [List.getElem_cons_zero]); try simp only [Act.put, List.setIfInBounds_toArray, List.set_cons_zero, List.set_cons_succ]
                      refine wpAnyH_ready (rs := [31]) (by kernel_rfl) (by simp) ?_
                      refine (AllReadyH.cons (o := _) rfl (fun K hK => ?_) AllReadyH.nil)
                      · refine step_store_tcp ?_ (.tmp 9) (.tmp 73) ?_ V.heap.size _ (pC sp dp sq ak fl wn ur (.slice da ds.length dc) (.slice none 0 0) tOpt0) ?_ ?_ K2.out ?_ ?_ ?_ ?_
                        · rfl
                        · rfl
                        · rfl
                        · rfl
                        · rfl
                        · rfl
                        · simp [pC, Value.oneCell']
                        intro V5 h5 g5
                        have hs2 := Lib.hid h5
                        have hg2 := Lib.hid g5
                        have c13y := (World.cell?_of_block (w := V2) (w' := V5) (g5.block b (by have := hbb.out.size; have := lz1.out; omega) (fun e => nV (Option.some.inj e)))).trans c13z
                        clear h5 g5
                        refine hK.out _ _ ?_ (fun hHeld => ?_)
                        · exact c13y
                        clear hK K
                        refine wpAnyH_done (by kernel_rfl) ?_ _
                        go_wp2
                        go_meet
                        case rel => exact PcCut.one K.out Q.out hV hO.out hbb.out hs2.out hg2.out
      · (try simp only [List.getElem_toArray]); (try simp only [List.getElem_cons_succ]); (try simp only [List.getElem_cons_zero])
        go_simp
        refine hK.out _ _ ?_ (fun hHeld => ?_)
        · exact c13a
        clear hK K
        (try simp only [List.getElem_toArray]); (try simp only [List.getElem_cons_succ]); (try simp only [List.getElem_cons_zero]); try simp only [Act.put, List.setIfInBounds_toArray, List.set_cons_zero, List.set_cons_succ]
        refine wpAnyH_ready (rs := [2]) (by kernel_rfl) (by simp) ?_
        refine (AllReadyH.cons (o := _) rfl (fun K hK => ?_) AllReadyH.nil)
        · (try simp only [List.getElem_toArray]); (try simp only [List.getElem_cons_succ]); (try simp only [List.getElem_cons_zero])
          go_simp
          go_at_call 34
          (with_reducible refine (HnA.out _ _ (by first | exact q0.out | exact q1.out)).mono ?_)
          rintro e w' ⟨rfl, rfl⟩
          try dsimp only
          refine hK.out _ _ ?_ (fun hHeld => ?_)
          · first | exact c13 | exact c13z | exact c13a | exact c13b | go_keep
          clear hK K
          (try simp only [List.getElem_toArray]); (try simp only [List.getElem_cons_succ]); (try simp only [List.getElem_cons_zero]); try simp only [Act.put, List.setIfInBounds_toArray, List.set_cons_zero, List.set_cons_succ]
          refine wpAnyH_take (i := 3) (oi := _) (v := ?_) rfl (by kernel_rfl) (by kernel_rfl) (by kernel_rfl) (fun _ _ _ h => h) (Or.inl ⟨by rfl, ?_⟩) (by assumption) ?_
          rotate_left
          · intro w hSw
            try dsimp only at hSw
            go_simp
            all_goals with_reducible rfl
          (try simp only [List.getElem_toArray]); (try simp only [List.getElem_cons_succ]); (try simp only [List.getElem_cons_zero]); try simp only [Act.put, List.setIfInBounds_toArray, List.set_cons_zero, List.set_cons_succ]
          refine wpAnyH_ready (rs := [6]) (by kernel_rfl) (by simp) ?_
          refine (AllReadyH.cons (o := _) rfl (fun K hK => ?_) AllReadyH.nil)
          · (try simp only [List.getElem_toArray]); (try simp only [List.getElem_cons_succ]); (try simp only [List.getElem_cons_zero])
            go_simp
            go_at_call 34
            (with_reducible refine (HnB.out _ _ (by first | exact q0.out | exact q1.out)).mono ?_)
            rintro e w' ⟨rfl, rfl⟩
            try dsimp only
            refine hK.out _ _ ?_ (fun hHeld => ?_)
            · first | exact c13 | exact c13z | exact c13a | exact c13b | go_keep
            clear hK K
            (try simp only [List.getElem_toArray]); (try simp only [List.getElem_cons_succ]); (try simp only [List.getElem_cons_zero]); try simp only [Act.put, List.setIfInBounds_toArray, List.set_cons_zero, List.set_cons_succ]
            refine wpAnyH_take (i := 7) (oi := _) (v := ?_) rfl (by kernel_rfl) (by kernel_rfl) (by kernel_rfl) (fun _ _ _ h => h) (Or.inl ⟨by rfl, ?_⟩) (by assumption) ?_
            rotate_left
            · intro w hSw
              try dsimp only at hSw
              go_simp
              all_goals with_reducible rfl
            (try simp only [List.getElem_toArray]); (try simp only [List.getElem_cons_succ]); (try simp only [List.getElem_cons_zero]); try simp only [Act.put, List.setIfInBounds_toArray, List.set_cons_zero, List.set_cons_succ]
            refine wpAnyH_ready (rs := [10]) (by kernel_rfl) (by simp) ?_
            refine (AllReadyH.cons (o := _) rfl (fun K hK => ?_) AllReadyH.nil)
            · (try simp only [List.getElem_toArray]); (try simp only [List.getElem_cons_succ]); (try simp only [List.getElem_cons_zero])
              go_simp
              go_at_call 34
              (with_reducible refine (HnC.out _ _ (by first | exact q0.out | exact q1.out)).mono ?_)
              rintro e w' ⟨rfl, rfl⟩
              try dsimp only
              refine hK.out _ _ ?_ (fun hHeld => ?_)
              · first | exact c13 | exact c13z | exact c13a | exact c13b | go_keep
              clear hK K
              (try simp only [List.getElem_toArray]); (try simp only [List.getElem_cons_succ]); (try simp only [List.getElem_cons_zero]); try simp only [Act.put, List.setIfInBounds_toArray, List.set_cons_zero, List.set_cons_succ]
              refine wpAnyH_ready (rs := [13]) (by kernel_rfl) (by simp) ?_
              refine (AllReadyH.cons (o := _) rfl (fun K hK => ?_) AllReadyH.nil)
              · (try simp only [List.getElem_toArray]); (try simp only [List.getElem_cons_succ]); (try simp only [List.getElem_cons_zero])
                go_simp
                go_at_call 34
                (with_reducible refine (HnD.out _ _ (by first | exact q0.out | exact q1.out)).mono ?_)
                rintro e w' ⟨rfl, rfl⟩
                try dsimp only
                refine hK.out _ _ ?_ (fun hHeld => ?_)
                · first | exact c13 | exact c13z | exact c13a | exact c13b | go_keep
                clear hK K
                (try simp only [List.getElem_toArray]); (try simp only [List.getElem_cons_succ]); (try simp only [List.getElem_cons_zero]); try simp only [Act.put, List.setIfInBounds_toArray, List.set_cons_zero, List.set_cons_succ]
                refine wpAnyH_ready (rs := [19]) (by kernel_rfl) (by simp) ?_
                refine (AllReadyH.cons (o := _) rfl (fun K hK => ?_) AllReadyH.nil)
                · (try simp only [List.getElem_toArray]); (try simp only [List.getElem_cons_succ]); (try simp only [List.getElem_cons_zero])
                  go_simp
                  go_at_call 34
                  (with_reducible refine (HnE.out _ _ (by first | exact q0.out | exact q1.out)).mono ?_)
                  rintro e w' ⟨rfl, rfl⟩
                  try dsimp only
                  refine hK.out _ _ ?_ (fun hHeld => ?_)
                  · first | exact c13 | exact c13z | exact c13a | exact c13b | go_keep
                  clear hK K
                  (try simp only [List.getElem_toArray]); (try simp only [List.getElem_cons_succ]); (try simp only [List.getElem_cons_zero]); try simp only [Act.put, List.setIfInBounds_toArray, List.set_cons_zero, List.set_cons_succ]
                  refine wpAnyH_take (i := 20) (oi := _) (v := ?_) rfl (by kernel_rfl) (by kernel_rfl) (by kernel_rfl) (fun _ _ _ h => h) (Or.inl ⟨by rfl, ?_⟩) (by assumption) ?_
                  rotate_left
                  · intro w hSw
                    try dsimp only at hSw
                    go_simp
                    all_goals with_reducible rfl
                  (try simp only [List.getElem_toArray]); (try simp only [List.getElem_cons_succ]); (try simp only [List.getElem_cons_zero]); try simp only [Act.put, List.setIfInBounds_toArray, List.set_cons_zero, List.set_cons_succ]
                  refine wpAnyH_ready (rs := [23]) (by kernel_rfl) (by simp) ?_
                  refine (AllReadyH.cons (o := _) rfl (fun K hK => ?_) AllReadyH.nil)
                  · (try simp only [List.getElem_toArray]); (try simp only [List.getElem_cons_succ]); (try simp only [List.getElem_cons_zero])
                    go_simp
                    go_at_call 34
                    (with_reducible refine (HnF.out _ _ (by first | exact q0.out | exact q1.out)).mono ?_)
                    rintro e w' ⟨rfl, rfl⟩
                    try dsimp only
                    refine hK.out _ _ ?_ (fun hHeld => ?_)
                    · first | exact c13 | exact c13z | exact c13a | exact c13b | go_keep
                    clear hK K
                    (try simp only [List.getElem_toArray]); (try simp only [List.getElem_cons_succ]); (try simp only [List.getElem_cons_zero]); try simp only [Act.put, List.setIfInBounds_toArray, List.set_cons_zero, List.set_cons_succ]
                    refine wpAnyH_take (i := 24) (oi := _) (v := ?_) rfl (by kernel_rfl) (by kernel_rfl) (by kernel_rfl) (fun _ _ _ h => h) (Or.inl ⟨by rfl, ?_⟩) (by assumption) ?_
                    rotate_left
                    · intro w hSw
                      try dsimp only at hSw
                      go_simp
                      all_goals with_reducible rfl
                    (try simp only [List.getElem_toArray]); (try simp only [List.getElem_cons_succ]); (try simp only [List.getElem_cons_zero]); try simp only [Act.put, List.setIfInBounds_toArray, List.set_cons_zero, List.set_cons_succ]
                    refine wpAnyH_ready (rs := [28]) (by kernel_rfl) (by simp) ?_
                    refine (AllReadyH.cons (o := _) rfl (fun K hK => ?_) AllReadyH.nil)
                    · (try simp only [List.getElem_toArray]); (try simp only [List.getElem_cons_succ]); (try simp only [List.getElem_cons_zero])
                      go_simp
                      go_at_call 35
                      refine (HCP2.out _ _ (by first | exact q0.out | exact q1.out)).mono ?_
                      rintro e V2 ⟨da, dc, rfl, O, bb⟩
                      try dsimp only
                      have c13z := (bb.cell (p := ⟨b, off + 13, none⟩) c13l1.out).trans c13a
                      have hO := Lib.hid O
                      have hbb := Lib.hid bb
                      clear O bb
                      refine hK.out _ _ ?_ (fun hHeld => ?_)
                      · first | exact c13 | exact c13z | exact c13a | exact c13b | go_keep
                      clear hK K
                      (try simp only [List.getElem_toArray]); (try simp only [List.getElem_cons_succ]); (try simp only [List.getElem_cons_zero]); try simp only [Act.put, List.setIfInBounds_toArray, List.set_cons_zero, List.set_cons_succ]
                      have K2 := Lib.hid ((hbb.out.block V.heap.size lz1.out).trans (blk_new V (.cells #[.int .u16 0, .int .u16 0, .int .u32 0, .int .u32 0, .int .u8 0, .int .u16 0, .int .u16 0, .int .i64 0, .bool false, .int .i64 0, .bool false, .slice none 0 0, .bool false, .int .u32 0, .int .u32 0, .slice none 0 0] 27)))
                      refine wpAnyH_take (i := 29) (oi := _) (v := ?_) rfl (by kernel_rfl) (by kernel_rfl) (by kernel_rfl) (fun _ _ _ h => h) (Or.inl ⟨by rfl, ?_⟩) (by assumption) ?_
                      rotate_left
                      · intro w hSw
                        try dsimp only at hSw
                        go_simp
                        all_goals with_reducible rfl
                      (try simp only [List.getElem_toArray]); (try simp only [List.getElem_cons_succ]); (try simp only [List.getElem_cons_zero]); try simp only [Act.put, List.setIfInBounds_toArray, List.set_cons_zero, List.set_cons_succ]
                      refine wpAnyH_ready (rs := [31]) (by kernel_rfl) (by simp) ?_
                      refine (AllReadyH.cons (o := _) rfl (fun K hK => ?_) AllReadyH.nil)
                      · refine step_store_tcp ?_ (.tmp 9) (.tmp 73) ?_ V.heap.size _ (pC sp dp sq ak fl wn ur (.slice da ds.length dc) (.slice none 0 0) tOpt0) ?_ ?_ K2.out ?_ ?_ ?_ ?_
                        · rfl
                        · rfl
                        · rfl
                        · rfl
                        · rfl
                        · rfl
                        · simp [pC, Value.oneCell']
                        intro V5 h5 g5
                        have hs2 := Lib.hid h5
                        have hg2 := Lib.hid g5
                        have c13y := (World.cell?_of_block (w := V2) (w' := V5) (g5.block b (by have := hbb.out.size; have := lz1.out; omega) (fun e => nV (Option.some.inj e)))).trans c13z
                        clear h5 g5
                        refine hK.out _ _ ?_ (fun hHeld => ?_)
                        · exact c13y
                        clear hK K
                        refine wpAnyH_done (by kernel_rfl) ?_ _
                        go_wp2
                        go_meet
                        case rel => exact PcCut.one K.out Q.out hV hO.out hbb.out hs2.out hg2.out
  case rest =>
    obtain ⟨gs, da, dc, rfl, hT, hgs, hO, hda, hK, hB⟩ := hcut
    have hgl : gs < wc.heap.size := (Array.getElem?_eq_some_iff.1 hT).1
    have hws : w.heap.size < wc.heap.size := (Array.getElem?_eq_some_iff.1 hK).1
    have hol' := HOL.out
    have hhd' := HHD.out
    have hbs : ∀ ad : Option Addr, (20 < hd → ad = some ⟨b, off + 20, none⟩) → Bts wc.drew ad os := fun ad h => by
      by_cases h0 : 20 < hd
      · rw [h h0]; exact HOS.out.below hB.drew
      · rw [List.eq_nil_of_length_eq_zero (show os.length = 0 by omega)]; exact Bts.nil wc.drew ad
    have hrd : ∀ (ad : Option Addr) (c2 : Nat), (20 < hd → ad = some ⟨b, off + 20, none⟩) → hd - 20 ≤ c2 → Calls Try.prog 36 #[.agg (pC sp dp sq ak fl wn ur (.slice da ds.length dc) (.slice none 0 0) tOpt0), .slice ad (hd - 20) c2] wc.drew fun e w' => ∃ cs er, e = .returned (.tuple #[.agg cs, .int .i64 er]) ∧ Below wc.heap.size wc w' ∧ cs.size = 16 ∧ cs.all (·.oneCell') = true ∧ ((tOpts (os.length + 1) os [] tOpt0 = none ∧ er = 51) ∨ ∃ s va vc, tOpts (os.length + 1) os [] tOpt0 = some s ∧ er = 0 ∧ cs = pC sp dp sq ak fl wn ur (.slice da ds.length dc) (.slice va s.bs.length vc) s ∧ OwnR 68 2 BC5 wc.heap.size va s.bs vc w') := fun ad c2 h1 h2 => by
      rw [← hol']
      refine (rread_any sp dp sq ak fl wn ur da ds.length dc ad os c2 wc.drew (hbs ad h1) (by omega) (by omega)).mono ?_
      rintro e w' ⟨B, ⟨hs, ag, rfl, h16, h1c⟩ | ⟨s, va, vc, hs, rfl, OB⟩⟩
      · exact ⟨ag, 51, rfl, Below.of_drew B, h16, h1c, .inl ⟨hs, rfl⟩⟩
      · exact ⟨_, 0, rfl, Below.of_drew B, rfl, by simp [pC, Value.oneCell'], .inr ⟨s, va, vc, hs, rfl, rfl, OB⟩⟩
    have HRD := Lib.hid hrd
    have HT := Lib.hid (show TcpAt wc.drew gs _ from hT)
    have HK := Lib.hid hK
    have HO := Lib.hid hO
    have HDA := Lib.hid hda
    have HB := Lib.hid hB
    have HGL := Lib.hid hgl
    have HWS := Lib.hid hws
    have HGS := Lib.hid hgs
    have HH := Lib.hid hhd'.1
    clear hT hK hO hda hB hbs hrd hol' hhd' hgl hws hgs
    by_cases z20 : cap = 20
    case' pos =>
      have HZ : Hid (hd = 20) := Lib.hid (by have := HHD.out; omega)
      obtain rfl := HZ.out
      subst z20
    all_goals
      go_upto_region 11 with (fail)
      refine wp_region_held_drew (S := fun _ => True) (by kernel_rfl) trivial (fun hHeld => ?_)
      refine wpAnyH_take (i := 1) (oi := _) (v := ?_) rfl (by kernel_rfl) (by kernel_rfl) (by kernel_rfl) (fun _ _ _ h => h) (Or.inl ⟨by rfl, ?_⟩) (by assumption) ?_
      rotate_left
      · intro w hSw
        try dsimp only at hSw
        go_simp
        all_goals with_reducible rfl
      (try simp only [List.getElem_toArray]); (try simp only [List.getElem_cons_succ]); (try simp only [List.getElem_cons_zero]); try simp only [Act.put, List.setIfInBounds_toArray, List.set_cons_zero, List.set_cons_succ]
      refine wpAnyH_take (i := 2) (oi := _) (v := ?_) rfl (by kernel_rfl) (by kernel_rfl) (by kernel_rfl) (fun _ _ _ h => h) (Or.inl ⟨by rfl, ?_⟩) (by assumption) ?_
      rotate_left
      · intro w hSw
        try dsimp only at hSw
        go_simp
        all_goals with_reducible rfl
      (try simp only [List.getElem_toArray]); (try simp only [List.getElem_cons_succ]); (try simp only [List.getElem_cons_zero]); try simp only [Act.put, List.setIfInBounds_toArray, List.set_cons_zero, List.set_cons_succ]
      refine wpAnyH_take (i := 3) (oi := _) (v := ?_) rfl (by kernel_rfl) (by kernel_rfl) (by kernel_rfl) (fun _ _ _ h => h) (Or.inl ⟨by rfl, ?_⟩) (by assumption) ?_
      rotate_left
      · intro w hSw
        try dsimp only at hSw
        go_simp
        all_goals with_reducible rfl
      (try simp only [List.getElem_toArray]); (try simp only [List.getElem_cons_succ]); (try simp only [List.getElem_cons_zero]); try simp only [Act.put, List.setIfInBounds_toArray, List.set_cons_zero, List.set_cons_succ]
      refine wpAnyH_ready (rs := [0]) (by kernel_rfl) (by simp) ?_
      refine (AllReadyH.cons (o := _) rfl (fun K hK => ?_) AllReadyH.nil)
      · refine step_load_tcp rfl (.tmp 9) rfl gs rfl _ HT.out rfl ?_
        refine hK.out _ _ ?_ (fun hHeld => ?_)
        · trivial
        clear hK K
        (try simp only [List.getElem_toArray]); (try simp only [List.getElem_cons_succ]); (try simp only [List.getElem_cons_zero]); try simp only [Act.put, List.setIfInBounds_toArray, List.set_cons_zero, List.set_cons_succ]
        refine wpAnyH_ready (rs := [4]) (by kernel_rfl) (by simp) ?_
        refine (AllReadyH.cons (o := _) rfl (fun K hK => ?_) AllReadyH.nil)
        · (try simp only [List.getElem_toArray]); (try simp only [List.getElem_cons_succ]); (try simp only [List.getElem_cons_zero])
          go_simp
          go_at_call 36
          refine (HRD.out _ _ (by first | exact fun _ => rfl | exact fun h => absurd h (by omega)) (by have := HCP.out; have := HHD.out; omega)).mono ?_
          rintro e V3 ⟨cs, er, rfl, hb3, h16, h1c, hout⟩
          try dsimp only
          have K2 := Lib.hid (show TcpAt V3 gs _ from (hb3.block gs HGL.out).trans HT.out)
          have HB3 := Lib.hid hb3
          have H16 := Lib.hid h16
          have H1c := Lib.hid h1c
          have HOUT := Lib.hid hout
          clear hb3 h16 h1c hout
          refine hK.out _ _ ?_ (fun hHeld => ?_)
          · trivial
          clear hK K
          (try simp only [List.getElem_toArray]); (try simp only [List.getElem_cons_succ]); (try simp only [List.getElem_cons_zero]); try simp only [Act.put, List.setIfInBounds_toArray, List.set_cons_zero, List.set_cons_succ]
          refine wpAnyH_take (i := 5) (oi := _) (v := ?_) rfl (by kernel_rfl) (by kernel_rfl) (by kernel_rfl) (fun _ _ _ h => h) (Or.inl ⟨by rfl, ?_⟩) (by assumption) ?_
          rotate_left
          · intro w hSw
            try dsimp only at hSw
            go_simp
            all_goals with_reducible rfl
          (try simp only [List.getElem_toArray]); (try simp only [List.getElem_cons_succ]); (try simp only [List.getElem_cons_zero]); try simp only [Act.put, List.setIfInBounds_toArray, List.set_cons_zero, List.set_cons_succ]
          refine wpAnyH_take (i := 6) (oi := _) (v := ?_) rfl (by kernel_rfl) (by kernel_rfl) (by kernel_rfl) (fun _ _ _ h => h) (Or.inl ⟨by rfl, ?_⟩) (by assumption) ?_
          rotate_left
          · intro w hSw
            try dsimp only at hSw
            go_simp
            all_goals with_reducible rfl
          (try simp only [List.getElem_toArray]); (try simp only [List.getElem_cons_succ]); (try simp only [List.getElem_cons_zero]); try simp only [Act.put, List.setIfInBounds_toArray, List.set_cons_zero, List.set_cons_succ]
          refine wpAnyH_take (i := 7) (oi := _) (v := ?_) rfl (by kernel_rfl) (by kernel_rfl) (by kernel_rfl) (fun _ _ _ h => h) (Or.inl ⟨by rfl, ?_⟩) (by assumption) ?_
          rotate_left
          · intro w hSw
            try dsimp only at hSw
            go_simp
            all_goals with_reducible rfl
          (try simp only [List.getElem_toArray]); (try simp only [List.getElem_cons_succ]); (try simp only [List.getElem_cons_zero]); try simp only [Act.put, List.setIfInBounds_toArray, List.set_cons_zero, List.set_cons_succ]
          refine wpAnyH_ready (rs := [8]) (by kernel_rfl) (by simp) ?_
          refine (AllReadyH.cons (o := _) rfl (fun K hK => ?_) AllReadyH.nil)
          · refine step_store_tcp rfl (.tmp 9) (.tmp 80) rfl gs _ cs rfl rfl K2.out rfl H16.out H1c.out ?_
            intro V5 h5 g5
            have hs2 := Lib.hid h5
            have hg2 := Lib.hid g5
            clear h5 g5
            refine hK.out _ _ ?_ (fun hHeld => ?_)
            · trivial
            clear hK K
            (try simp only [List.getElem_toArray]); (try simp only [List.getElem_cons_succ]); (try simp only [List.getElem_cons_zero]); try simp only [Act.put, List.setIfInBounds_toArray, List.set_cons_zero, List.set_cons_succ]
            refine wpAnyH_take (i := 9) (oi := _) (v := ?_) rfl (by kernel_rfl) (by kernel_rfl) (by kernel_rfl) (fun _ _ _ h => h) (Or.inl ⟨by rfl, ?_⟩) (by assumption) ?_
            rotate_left
            · intro w hSw
              try dsimp only at hSw
              go_simp
              all_goals with_reducible rfl
            (try simp only [List.getElem_toArray]); (try simp only [List.getElem_cons_succ]); (try simp only [List.getElem_cons_zero]); try simp only [Act.put, List.setIfInBounds_toArray, List.set_cons_zero, List.set_cons_succ]
            refine wpAnyH_done (by kernel_rfl) ?_ _
            try dsimp only
            have hsz3 := HB3.out.size
            have hK5 : TcpAt V5 w.heap.size tcpZ := (hg2.out.block _ (Nat.lt_of_lt_of_le HWS.out hsz3) (fun e => by have := Option.some.inj e; have := HGS.out; omega)).trans ((HB3.out.block _ HWS.out).trans HK.out)
            have hO5 : OwnSl (w.heap.size + 1) da ds dc V5 := HO.out.same (fun g e => (hg2.out.block g (Nat.lt_of_lt_of_le (HDA.out g e).2 hsz3) (fun e' => (HDA.out g e).1 (Option.some.inj e'))).trans (HB3.out.block g (HDA.out g e).2))
            have hB5 : Below w.heap.size w V5 := (HB.out.trans (HB3.out.mono (Nat.le_of_lt HWS.out))).grown hg2.out (by have := HWS.out; omega) (fun j e => by cases e; exact Nat.le_of_lt HGS.out)
            have HK5 := Lib.hid hK5
            have HO5 := Lib.hid hO5
            have HB5 := Lib.hid hB5
            have hws5 : w.heap.size < V5.heap.size := (Array.getElem?_eq_some_iff.1 hK5).1
            have HOUT' := HOUT.out
            clear hK5 hO5 hB5 hsz3 HRD HDA HK HO HT
            rcases HOUT' with ⟨hs, rfl⟩ | ⟨s, va, vc, hs, rfl, rfl, OB⟩
            · have HSS := Lib.hid hs
              clear hs
              go_wp2_with ((with_reducible show wpList _ _ _ _ _ _); refine wpList_store_tcp rfl (.tmp 6) (.tmp 84) rfl w.heap.size _ _ rfl rfl HK5.out rfl rfl (by simp [Value.oneCell']) ?_; intro V6 hs6 hg6; have K6 := Lib.hid hs6; have G6 := Lib.hid hg6; clear hs6 hg6)
              exact bodyPost_ret (results_tcp rfl _ _ w.heap.size _ _ rfl rfl K6.out rfl) rfl ⟨HB5.out.grown G6.out HB5.out.size (fun j e => by cases e; exact Nat.le_refl _), .inl ⟨HSS.out, rfl⟩⟩
            · have HSS := Lib.hid hs
              have OB5 := Lib.hid (OB.grown hg2.out (fun g e => fun h => by have := (OB.ownB g (by rw [e]; rfl)).1; have := HGL.out; cases h; omega))
              clear hs OB
              go_wp2_with (first
                | ((with_reducible show wpList _ _ _ _ _ _); refine wpList_load_tcp rfl (.tmp 9) rfl gs rfl _ hs2.out rfl ?_)
                | ((with_reducible show wpList _ _ _ _ _ _); refine wpList_store_tcp rfl (.tmp 6) (.tmp 86) rfl w.heap.size _ (pC sp dp sq ak fl wn ur (.slice da ds.length dc) (.slice va s.bs.length vc) s) rfl rfl HK5.out rfl rfl (by simp [pC, Value.oneCell']) ?_; intro V6 hs6 hg6; have K6 := Lib.hid hs6; have G6 := Lib.hid hg6; clear hs6 hg6))
              exact bodyPost_ret (results_tcp rfl _ _ w.heap.size _ _ rfl rfl K6.out rfl) rfl ⟨HB5.out.grown G6.out HB5.out.size (fun j e => by cases e; exact Nat.le_refl _), .inr ⟨s, va, vc, da, dc, HSS.out, rfl, HO5.out.kept G6.out (Nat.lt_succ_self _), (OB5.out.grown G6.out (fun g e => fun h => by have := (OB5.out.ownB g (by rw [e]; rfl)).1; have := HWS.out; cases h; omega)).mono HWS.out⟩⟩
end Go.Proofs.Ytgmgoilleakdcaa
