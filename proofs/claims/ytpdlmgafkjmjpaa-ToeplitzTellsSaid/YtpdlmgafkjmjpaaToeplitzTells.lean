/- For every key, input, table, hash, addresses and ports: the hash, the shard, the check and the tuple are as the document's own answers; what is handed in stays. No condition. -/
import Derived.Test.YtpdlmgafkjmjpaaRows
import Derived.Test.YtpdlmgafkjmjpaaAlive7
import Derived.Test.YtpdlmgafkjmjpaaToRefP
import Derived.Test.YtpdlmgafkjmjpaaGPlain
import Derived.Test.YtpdlmgafkjmjpaaGInts
import Derived.Test.YtpdlmgafkjmjpaaGFrame
import Derived.ProofKit
import Derived.OpenShut
import Derived.ShutString
import Derived.ChangeOld
import Derived.SizedLaws
namespace Go.Proofs.Ytpdlmgafkjmjpaa.toeplitzTells
open Go.ChangeShapes Go.WideShapes Go.ChangeAt Go.RowKit Go.Proofs.Ytpdlmgafkjmjpaa.law7
open Go.ChangeMaps (open_string shut_string)

set_option maxRecDepth 100000 in
set_option maxHeartbeats 4000000 in
theorem walk (ka : Option Addr) (ks : List Nat) (kc : Nat) (xa : Option Addr) (xs : List Nat) (xc : Nat) (ta : Option Addr) (ts : List Int) (tc : Nat) (hh src dst ports : Nat) (w : World)
    (hk : Bts w ka ks) (hkc : ka = none → kc = 0) (hl10 : ks.length ≤ 140737488351232) (hx : Bts w xa xs) (hxc : xa = none → xc = 0) (hl20 : xs.length ≤ 140737488351232) (ht : Its w ta ts) (htc : ta = none → tc = 0) (hl3 : ts.length ≤ 17592186043904)
    (hhh : hh < 4294967296) (hsrc : src < 4294967296) (hdst : dst < 4294967296) (hports : ports < 4294967296) :
    Calls Try.prog 11 #[.slice ka ks.length kc, .slice xa xs.length xc, .slice ta ts.length tc, .int .u32 hh, .int .u32 src, .int .u32 dst, .int .u32 ports] w fun e w' => e = .returned (.bool true) ∧ Below w.heap.size w w' := by
  have hl1 : ks.length ≤ 140737488355328 := by omega
  have hl2 : xs.length ≤ 140737488355328 := by omega
  have hl4 : xs.length ≤ 9223372036854775807 := by omega
  have hl5 : ts.length ≤ 9223372036854775807 := by omega
  have e1 : IntKind.u16.wrap (ports : Int) = ((ports % 65536 : Nat) : Int) := by rw [IntKind.wrap_u16]; omega
  have e2 : (ports : Int) / 65536 = ((ports / 65536 : Nat) : Int) := rfl
  have hp1 : ports % 65536 < 65536 := by omega
  have hp2 : ports / 65536 < 65536 := by omega
  generalize ports % 65536 = p1 at e1 hp1
  generalize ports / 65536 = p2 at e2 hp2
  have e3 : IntKind.u16.wrap (p2 : Int) = (p2 : Int) := by rw [IntKind.wrap_u16]; omega
  have q_0 := Below.refl w.heap.size w
  have K_0 := Lib.hid (hk)
  have X_0 := Lib.hid (hx)
  have T_0 := Lib.hid (ht)
  clear hk hx ht
  have HK := Lib.hid hkc
  have HX := Lib.hid hxc
  have HT := Lib.hid htc
  clear hkc hxc htc
  go_enter Try.func11, Try.ntmps11
  go_wp2_with fail
  refine (copy_one ka ks kc _ K_0.out hl1 HK.out).mono ?_
  rintro e V1 ⟨oa, oc, rfl, O, b⟩
  have K_1 := Lib.hid (K_0.out.below b)
  have X_1 := Lib.hid (X_0.out.below b)
  have T_1 := Lib.hid (T_0.out.below b)
  have q_1 := q_0.trans (b.mono q_0.size)
  clear K_0 X_0 T_0 q_0
  have O_1 := Lib.hid (O)
  clear b
  clear O
  have oc1 := O_1.out.capLe
  go_wp2_with fail
  refine (copy_one xa xs xc _ X_1.out hl2 HX.out).mono ?_
  rintro e V2 ⟨pa, pc, rfl, P, b⟩
  have K_2 := Lib.hid (K_1.out.below b)
  have X_2 := Lib.hid (X_1.out.below b)
  have T_2 := Lib.hid (T_1.out.below b)
  have O_2 := Lib.hid (O_1.out.below b)
  have q_2 := q_1.trans (b.mono q_1.size)
  clear K_1 X_1 T_1 O_1 q_1
  have P_2 := Lib.hid (P)
  clear b
  clear P
  go_wp2_with fail
  refine (copy_ints ta ts tc _ T_2.out hl3 HT.out).mono ?_
  rintro e V3 ⟨ua, uc, rfl, U, b⟩
  have K_3 := Lib.hid (K_2.out.below b)
  have X_3 := Lib.hid (X_2.out.below b)
  have T_3 := Lib.hid (T_2.out.below b)
  have O_3 := Lib.hid (O_2.out.below b)
  have P_3 := Lib.hid (P_2.out.below b)
  have q_3 := q_2.trans (b.mono q_2.size)
  clear K_2 X_2 T_2 O_2 P_2 q_2
  have U_3 := Lib.hid (U)
  clear b
  clear U
  go_wp2_with fail
  have hoc : oc ≤ 9223372036854775807 := by have := oc1.2; unfold maxLen at this; omega
  refine (hash_all oa ks oc pa xs pc _ O_3.out.bts P_3.out.bts oc1.1 hoc hl4).mono ?_
  rintro e V4 ⟨rfl, b⟩
  have K_4 := Lib.hid (K_3.out.below b)
  have X_4 := Lib.hid (X_3.out.below b)
  have T_4 := Lib.hid (T_3.out.below b)
  have O_4 := Lib.hid (O_3.out.below b)
  have P_4 := Lib.hid (P_3.out.below b)
  have U_4 := Lib.hid (U_3.out.below b)
  have q_4 := q_3.trans (b.mono q_3.size)
  clear K_3 X_3 T_3 O_3 P_3 U_3 q_3
  clear b
  go_wp2_with fail
  refine (refhash_all ka ks kc xa xs xc _ K_4.out X_4.out).mono ?_
  rintro e V5 ⟨rfl, b⟩
  have K_5 := Lib.hid (K_4.out.below b)
  have X_5 := Lib.hid (X_4.out.below b)
  have T_5 := Lib.hid (T_4.out.below b)
  have O_5 := Lib.hid (O_4.out.below b)
  have P_5 := Lib.hid (P_4.out.below b)
  have U_5 := Lib.hid (U_4.out.below b)
  have q_5 := q_4.trans (b.mono q_4.size)
  clear K_4 X_4 T_4 O_4 P_4 U_4 q_4
  clear b
  go_wp2_with fail
  refine (shard_any ua ts uc hh _ U_5.out hl5 hhh).mono ?_
  rintro e w' ⟨rfl, rfl⟩
  go_wp2_with fail
  refine (refsh_any ta ts tc hh _ T_5.out hl5 hhh).mono ?_
  rintro e V6 ⟨rfl, b⟩
  have K_6 := Lib.hid (K_5.out.below b)
  have X_6 := Lib.hid (X_5.out.below b)
  have T_6 := Lib.hid (T_5.out.below b)
  have O_6 := Lib.hid (O_5.out.below b)
  have P_6 := Lib.hid (P_5.out.below b)
  have U_6 := Lib.hid (U_5.out.below b)
  have q_6 := q_5.trans (b.mono q_5.size)
  clear K_5 X_5 T_5 O_5 P_5 U_5 q_5
  clear b
  go_wp2_with fail
  refine (num_any _ _).mono ?_
  rintro e w' ⟨rfl, rfl⟩
  go_wp2_with fail
  refine (num_any _ _).mono ?_
  rintro e w' ⟨rfl, rfl⟩
  go_wp2_with fail
  refine (checkT_any oa ks oc ua ts uc _ U_6.out hl5).mono ?_
  rintro e w' ⟨rfl, rfl⟩
  go_wp2_with fail
  refine (num_any _ _).mono ?_
  rintro e w' ⟨rfl, rfl⟩
  go_wp2_with fail
  refine (refck_any ka ks kc ta ts tc _ T_6.out hl5).mono ?_
  rintro e V7 ⟨rfl, b⟩
  have K_7 := Lib.hid (K_6.out.below b)
  have X_7 := Lib.hid (X_6.out.below b)
  have T_7 := Lib.hid (T_6.out.below b)
  have O_7 := Lib.hid (O_6.out.below b)
  have P_7 := Lib.hid (P_6.out.below b)
  have U_7 := Lib.hid (U_6.out.below b)
  have q_7 := q_6.trans (b.mono q_6.size)
  clear K_6 X_6 T_6 O_6 P_6 U_6 q_6
  clear b
  go_wp2_with fail
  refine (tuple_any src dst p1 p2 hsrc hdst hp1 hp2 _).mono ?_
  rintro e V8 ⟨g1, c1, rfl, G, b⟩
  have K_8 := Lib.hid (K_7.out.below b)
  have X_8 := Lib.hid (X_7.out.below b)
  have T_8 := Lib.hid (T_7.out.below b)
  have O_8 := Lib.hid (O_7.out.below b)
  have P_8 := Lib.hid (P_7.out.below b)
  have U_8 := Lib.hid (U_7.out.below b)
  have q_8 := q_7.trans (b.mono q_7.size)
  clear K_7 X_7 T_7 O_7 P_7 U_7 q_7
  have G_8 := Lib.hid (G)
  clear b
  clear G
  go_wp2_with fail
  refine (reftuple_any src dst p1 p2 hsrc hdst hp1 hp2 _).mono ?_
  rintro e V9 ⟨g2, c2, rfl, F, b⟩
  have K_9 := Lib.hid (K_8.out.below b)
  have X_9 := Lib.hid (X_8.out.below b)
  have T_9 := Lib.hid (T_8.out.below b)
  have O_9 := Lib.hid (O_8.out.below b)
  have P_9 := Lib.hid (P_8.out.below b)
  have U_9 := Lib.hid (U_8.out.below b)
  have G_9 := Lib.hid (G_8.out.below b)
  have q_9 := q_8.trans (b.mono q_8.size)
  clear K_8 X_8 T_8 O_8 P_8 U_8 G_8 q_8
  have F_9 := Lib.hid (F)
  clear b
  clear F
  have st := same_one (some ⟨g1, 0, none⟩) (some ⟨g2, 0, none⟩) (tup src dst p1 p2) (tup src dst p1 p2) c1 c2 _ G_9.out.bts F_9.out.bts (by rw [tup_len]; omega) (by rw [tup_len]; omega) rfl
  rw [tup_len] at st
  have ST := Lib.hid st
  clear st
  go_wp2_with fail
  refine (ST.out).mono ?_
  rintro e V10 ⟨rfl, b⟩
  have K_10 := Lib.hid (K_9.out.below b)
  have X_10 := Lib.hid (X_9.out.below b)
  have T_10 := Lib.hid (T_9.out.below b)
  have O_10 := Lib.hid (O_9.out.below b)
  have P_10 := Lib.hid (P_9.out.below b)
  have U_10 := Lib.hid (U_9.out.below b)
  have q_10 := q_9.trans (b.mono q_9.size)
  clear K_9 X_9 T_9 O_9 P_9 U_9 G_9 F_9 q_9
  clear b
  clear ST
  go_wp2_with fail
  refine (same_one oa ka ks ks oc kc _ O_10.out.bts K_10.out hl1 hl1 rfl).mono ?_
  rintro e V11 ⟨rfl, b⟩
  have K_11 := Lib.hid (K_10.out.below b)
  have X_11 := Lib.hid (X_10.out.below b)
  have T_11 := Lib.hid (T_10.out.below b)
  have O_11 := Lib.hid (O_10.out.below b)
  have P_11 := Lib.hid (P_10.out.below b)
  have U_11 := Lib.hid (U_10.out.below b)
  have q_11 := q_10.trans (b.mono q_10.size)
  clear K_10 X_10 T_10 O_10 P_10 U_10 q_10
  clear b
  go_wp2_with fail
  refine (same_one pa xa xs xs pc xc _ P_11.out.bts X_11.out hl2 hl2 rfl).mono ?_
  rintro e V12 ⟨rfl, b⟩
  have K_12 := Lib.hid (K_11.out.below b)
  have X_12 := Lib.hid (X_11.out.below b)
  have T_12 := Lib.hid (T_11.out.below b)
  have O_12 := Lib.hid (O_11.out.below b)
  have P_12 := Lib.hid (P_11.out.below b)
  have U_12 := Lib.hid (U_11.out.below b)
  have q_12 := q_11.trans (b.mono q_11.size)
  clear K_11 X_11 T_11 O_11 P_11 U_11 q_11
  clear b
  go_wp2_with fail
  refine (same_ints ua ta ts uc tc _ U_12.out T_12.out hl3).mono ?_
  rintro e V13 ⟨rfl, b⟩
  have q_13 := q_12.trans (b.mono q_12.size)
  clear K_12 X_12 T_12 O_12 P_12 U_12 q_12
  clear b
  go_wp2_with fail
  refine (alive_any _).mono ?_
  rintro e V14 ⟨rfl, b⟩
  have q_14 := q_13.trans (b.mono q_13.size)
  clear q_13
  clear b
  go_wp2
  go_ret
  exact ⟨rfl, q_14⟩

theorem own : ownKnob Try.prog.godebug = none := by kernel_rfl
theorem laidOut : laidOutB Try.prog = true := by kernel_rfl

set_option maxRecDepth 100000 in
set_option maxHeartbeats 2000000 in
theorem lifted (os : Os) (started : os.Started) (H : Type) (enc : TypeId × Value → H) :
    ReturnsInHanded {} Try.checked os 11 .any (Rows.toeplitzTellsSpec.pre6 enc Try.prog Try.f11 Rows.toeplitzTellsRow.domain false) (Rows.toeplitzTellsSpec.post enc Try.prog Try.f11 false true false false) := by
  refine returnsInHanded_of_change_sized (C := Try.checked) own started (by kernel_rfl) Try.func11
    (ChangeSpec.witness6 (enc := enc) (C := Try.checked) false ⟨#[], #[.slice none 0 0, .slice none 0 0, .slice none 0 0, .int .u32 0, .int .u32 0, .int .u32 0, .int .u32 0], []⟩ 8 (by kernel_rfl) (by kernel_rfl) (by kernel_rfl) (by kernel_rfl)) ?_
  intro W base args ds gs before hval0 hW hcnd hsz0 _
  have hval : ∀ (j : Nat) t v, Try.f11.params[j]? = some t → args[j]? = some v → Value.okWide Try.prog W .any base t v := hval0
  have hsz : (DataW.weightsEach Try.prog (Try.f11.params.toList ++ Rows.toeplitzTellsSpec.plain.varTypes Try.prog) (ds ++ gs)).all (· ≤ reachBytes) = true := hsz0
  have hW' := hW
  obtain ⟨p, q, hA0, hV, rfl, hfz, hnd⟩ := hW
  have hA : DataW.TrodAll enc Try.prog W 0 (fun _ => true) true Try.f11.params.toList args.toList ds p := hA0
  rw [Try.params11] at hA hval hsz
  obtain ⟨v0, vs0, d0, ds0, p0, q0, hargs, rfl, rfl, h0, r0⟩ := trodAll_cons hA
  obtain ⟨v1, vs1, d1, ds1, p1, q1, rfl, rfl, rfl, h1, r1⟩ := trodAll_cons r0
  obtain ⟨v2, vs2, d2, ds2, p2, q2, rfl, rfl, rfl, h2, r2⟩ := trodAll_cons r1
  obtain ⟨v3, vs3, d3, ds3, p3, q3, rfl, rfl, rfl, h3, r3⟩ := trodAll_cons r2
  obtain ⟨v4, vs4, d4, ds4, p4, q4, rfl, rfl, rfl, h4, r4⟩ := trodAll_cons r3
  obtain ⟨v5, vs5, d5, ds5, p5, q5, rfl, rfl, rfl, h5, r5⟩ := trodAll_cons r4
  obtain ⟨v6, vs6, d6, ds6, p6, q6, rfl, rfl, rfl, h6, r6⟩ := trodAll_cons r5
  obtain ⟨rfl, rfl, rfl⟩ := trodAll_nil r6
  obtain rfl : args = #[v0, v1, v2, v3, v4, v5, v6] := by cases args; simp_all
  obtain ⟨rfl, rfl⟩ := trodVars_none hV
  obtain ⟨a0, len0, cap0, rfl⟩ := okWide_slice Try.underlying22 (hval 0 22 v0 rfl rfl)
  have k0 := h0
  have lt0 : ∀ x ∈ p0, x.block < W.heap.size := by obtain ⟨m, hm⟩ := k0; exact DataW.trod_lt m _ _ _ hm
  obtain ⟨a1, len1, cap1, rfl⟩ := okWide_slice Try.underlying22 (hval 1 22 v1 rfl rfl)
  have k1 := h1
  have lt1 : ∀ x ∈ p1, x.block < W.heap.size := by obtain ⟨m, hm⟩ := k1; exact DataW.trod_lt m _ _ _ hm
  obtain ⟨a2, len2, cap2, rfl⟩ := okWide_slice Try.underlying63 (hval 2 63 v2 rfl rfl)
  have k2 := h2
  have lt2 : ∀ x ∈ p2, x.block < W.heap.size := by obtain ⟨m, hm⟩ := k2; exact DataW.trod_lt m _ _ _ hm
  obtain ⟨a3, rfl, rfl, rfl, w3⟩ := open_int Try.underlying25 (hval 3 25 v3 rfl rfl) h3
  obtain ⟨a4, rfl, rfl, rfl, w4⟩ := open_int Try.underlying25 (hval 4 25 v4 rfl rfl) h4
  obtain ⟨a5, rfl, rfl, rfl, w5⟩ := open_int Try.underlying25 (hval 5 25 v5 rfl rfl) h5
  obtain ⟨a6, rfl, rfl, rfl, w6⟩ := open_int Try.underlying25 (hval 6 25 v6 rfl rfl) h6
  obtain ⟨xs0, hxl0, hbt0, hcap0, hre0⟩ : ∃ xs : List Nat, xs.length = len0 ∧ Bts W a0 xs ∧ (a0 = none → cap0 = 0) ∧ xs.length ≤ 140737488351232 := by
    obtain ⟨fuel, hf⟩ := h0
    rcases open_ints Try.underlying22 Try.underlying5 (by kernel_rfl) hf with ⟨hcs, _⟩ | ⟨x, l, c, zs, hcs, _, hl, hm, hz, hd, hcell, hwz⟩
    · simp [Value.cells] at hcs
      obtain ⟨rfl, rfl, rfl⟩ := hcs
      exact ⟨[], rfl, ⟨(fun x h => by cases h), .inl rfl⟩, fun _ => rfl, by simp⟩
    · simp [Value.cells] at hcs
      obtain ⟨rfl, rfl, rfl⟩ := hcs
      have hz' : zs.length = cap0 := by simpa using hz
      obtain ⟨xs, h1, h2⟩ := bts_of_ints hl hz' hcell hwz
      have hd' := (Prod.mk.inj hd).1
      have hw := sized_slice hsz (j := 0) (t := 22) (e := 5) rfl (by rw [hd']; rfl) Try.underlying22
      rw [bytes5] at hw
      simp only [lits, List.length_map, List.length_take, List.length_drop, reachBytes] at hw
      exact ⟨xs, h1, h2, (fun h => by cases h), by omega⟩
  obtain ⟨xs1, hxl1, hbt1, hcap1, hre1⟩ : ∃ xs : List Nat, xs.length = len1 ∧ Bts W a1 xs ∧ (a1 = none → cap1 = 0) ∧ xs.length ≤ 140737488351232 := by
    obtain ⟨fuel, hf⟩ := h1
    rcases open_ints Try.underlying22 Try.underlying5 (by kernel_rfl) hf with ⟨hcs, _⟩ | ⟨x, l, c, zs, hcs, _, hl, hm, hz, hd, hcell, hwz⟩
    · simp [Value.cells] at hcs
      obtain ⟨rfl, rfl, rfl⟩ := hcs
      exact ⟨[], rfl, ⟨(fun x h => by cases h), .inl rfl⟩, fun _ => rfl, by simp⟩
    · simp [Value.cells] at hcs
      obtain ⟨rfl, rfl, rfl⟩ := hcs
      have hz' : zs.length = cap1 := by simpa using hz
      obtain ⟨xs, h1, h2⟩ := bts_of_ints hl hz' hcell hwz
      have hd' := (Prod.mk.inj hd).1
      have hw := sized_slice hsz (j := 1) (t := 22) (e := 5) rfl (by rw [hd']; rfl) Try.underlying22
      rw [bytes5] at hw
      simp only [lits, List.length_map, List.length_take, List.length_drop, reachBytes] at hw
      exact ⟨xs, h1, h2, (fun h => by cases h), by omega⟩
  obtain ⟨xs2, hxl2, hbt2, hcap2, hre2⟩ : ∃ xs : List Int, xs.length = len2 ∧ Its W a2 xs ∧ (a2 = none → cap2 = 0) ∧ xs.length ≤ 17592186043904 := by
    obtain ⟨fuel, hf⟩ := h2
    rcases open_ints Try.underlying63 Try.underlying3 (by kernel_rfl) hf with ⟨hcs, _⟩ | ⟨x, l, c, zs, hcs, _, hl, hm, hz, hd, hcell, hwz⟩
    · simp [Value.cells] at hcs
      obtain ⟨rfl, rfl, rfl⟩ := hcs
      exact ⟨[], rfl, ⟨(fun x h => by cases h), .inl rfl⟩, fun _ => rfl, by simp⟩
    · simp [Value.cells] at hcs
      obtain ⟨rfl, rfl, rfl⟩ := hcs
      have hz' : zs.length = cap2 := by simpa using hz
      obtain ⟨xs, h1, h2⟩ := its_of_ints hl hz' hcell hwz
      have hd' := (Prod.mk.inj hd).1
      have hw := sized_slice hsz (j := 2) (t := 63) (e := 3) rfl (by rw [hd']; rfl) Try.underlying63
      rw [bytes8] at hw
      simp only [lits, List.length_map, List.length_take, List.length_drop, reachBytes] at hw
      exact ⟨xs, h1, h2, (fun h => by cases h), by omega⟩
  clear hA0 hval0 hsz hsz0
  subst hxl0
  subst hxl1
  subst hxl2
  obtain ⟨n3, rfl, hn3⟩ := nat_of_u32 w3
  obtain ⟨n4, rfl, hn4⟩ := nat_of_u32 w4
  obtain ⟨n5, rfl, hn5⟩ := nat_of_u32 w5
  obtain ⟨n6, rfl, hn6⟩ := nat_of_u32 w6
  refine (walk a0 xs0 cap0 a1 xs1 cap1 a2 xs2 cap2 n3 n4 n5 n6 W hbt0 hcap0 hre0 hbt1 hcap1 hre1 hbt2 hcap2 hre2 hn3 hn4 hn5 hn6).mono fun e W' ⟨he, bel⟩ => ?_
  subst he
  exact ⟨_, rfl, _, _, _, [], _, [], hW', trodAll_mk1 (shut_bool Try.underlying4 _), (trodAll_cons_mk (Below.trod laidOut (by kernel_rfl) (of_decide_eq_true (by kernel_rfl)) k0 bel lt0) (trodAll_cons_mk (Below.trod laidOut (by kernel_rfl) (of_decide_eq_true (by kernel_rfl)) k1 bel lt1) (trodAll_cons_mk (Below.trod laidOut (by kernel_rfl) (of_decide_eq_true (by kernel_rfl)) k2 bel lt2) (trodAll_cons_mk (shut_int Try.underlying25 w3) (trodAll_cons_mk (shut_int Try.underlying25 w4) (trodAll_cons_mk (shut_int Try.underlying25 w5) (trodAll_cons_mk (shut_int Try.underlying25 w6) trodAll_mk0))))))), rfl, bel.frame _, fun h => by cases h⟩

theorem over : Rows.toeplitzTellsRow.holds Try.pinned (OpenSpec.ofChange Rows.toeplitzTellsSpec) :=
  OpenClaim.holds_of_wide 11 Try.f11 rfl rfl rfl rfl rfl rfl rfl ⟨rfl, rfl, rfl, rfl, rfl⟩ rfl rfl rfl rfl rfl (by kernel_rfl) Try.func11 (by kernel_rfl)
    (of_decide_eq_true (by kernel_rfl)) (by unfold Func.isWrapper; first | (rw [if_pos (by decide +kernel)]; kernel_rfl) | (rw [if_neg (by decide +kernel)]; exact ⟨rfl, rfl⟩))
    (fun os started H enc _ => lifted os started H enc)

end Go.Proofs.Ytpdlmgafkjmjpaa.toeplitzTells
namespace Go.Proofs.Ytpdlmgafkjmjpaa
/-- The statement. -/
theorem toeplitzTells_holds : Rows.ToeplitzTellsSaid := toeplitzTells.over
#print axioms toeplitzTells_holds
end Go.Proofs.Ytpdlmgafkjmjpaa
