/- For every list of pairs, round and rate: the filter behind the pair is the page's; what is handed in stays. No condition. -/
import Derived.Test.YtokoogohdfepiaaRows
import Derived.Test.YtokoogohdfepiaaBbQ
import Derived.Test.YtokoogohdfepiaaGPair23
import Derived.Test.YtokoogohdfepiaaGAgg
import Derived.Deep.DeepCutAuto
import Derived.RegionTactic
import Derived.Deep.RegionHeld3
import Derived.ProofKit
import Derived.OpenShut
import Derived.ChangeOld
import Derived.SizedLaws
namespace Go.Proofs.Ytokoogohdfepiaa.bbrFilters
open Go.ChangeShapes Go.WideShapes Go.ChangeAt Go.RowKit Go.Deep Go.Proofs.Ytokoogohdfepiaa

theorem fL_len (l : List Pair23) (R r : Int) : (fL l R r).length ≤ 1000 := by
  by_cases hv : FV l
  · by_cases ho : FOk l R r
    · rw [(f_ok hv ho).2]
      have h1 : (left R r l).length ≤ 10 := Nat.le_trans (List.length_filter_le _ _) hv.1
      unfold filt
      split
      · omega
      · rw [List.length_append]; simp; omega
    · rw [(f_rng hv ho).2]; simp
  · rw [(f_bad hv).2]; simp

set_option maxRecDepth 100000 in
set_option maxHeartbeats 1000000 in
theorem walk (la : Option Addr) (l : List Pair23) (lc : Nat) (R r : Int) (w : World) (ht : Sts 2 Pair23.cells Pair23.ok w la l) (_hlc : la = none → lc = 0) (_hl0 : l.length ≤ 8796093021952) (_r0 : -9223372036854775808 ≤ R) (_r1 : R ≤ 9223372036854775807) (_r2 : -9223372036854775808 ≤ r) (_r3 : r ≤ 9223372036854775807) :
    Calls Try.prog 3 #[.slice la l.length lc, .int .i64 R, .int .i64 r] w fun e w' => e = .returned (.bool true) ∧ Below w.heap.size w w' := by
  have _hll : l.length ≤ 8796093022207 := by omega
  have HT := Lib.hid ht.weak
  have HM := Lib.hid (fL_len l R r)
  clear ht
  have HP := Lib.hid (pfilter_any R r)
  have HR := Lib.hid (rFilter_any R r)
  obtain ⟨m, hm⟩ : ∃ m, fL l R r = m := ⟨_, rfl⟩
  obtain ⟨z, hz⟩ : ∃ z, fE l R r = z := ⟨_, rfl⟩
  have HMM := Lib.hid hm
  have HZZ := Lib.hid hz
  rw [hm] at HM
  clear hm hz
  go_enter Try.func3, Try.ntmps3
  go_wp2_with fail
  refine (pairs_any la l lc _ HT.out _hll).mono ?_
  rintro e V1 ⟨⟨a1, c1, rfl, O⟩, b⟩
  have O1 := Lib.hid O
  have T1 := Lib.hid (HT.out.belowT b)
  have Q1 := Lib.hid b
  clear O b HT
  go_wp2_with fail
  have hp := HP.out a1 l c1 V1 (O1.out.sts encP) O1.out.nilcap _hll
  rw [HMM.out, HZZ.out] at hp
  refine hp.mono ?_
  clear hp
  rintro e V2 ⟨⟨a2, c2, rfl, O⟩, b⟩
  have O2 := Lib.hid (O.sts encP)
  have S2 := Lib.hid ((O1.out.sts encP).belowT b)
  have T2 := Lib.hid (T1.out.belowT b)
  have Q2 := Lib.hid (Q1.out.trans (b.mono Q1.out.size))
  clear O b O1 T1 Q1
  go_wp2_with fail
  have hp := HR.out la l lc V2 T2.out _hll
  rw [HMM.out, HZZ.out] at hp
  refine hp.mono ?_
  clear hp
  rintro e V3 ⟨⟨a3, c3, rfl, O⟩, b⟩
  have O3 := Lib.hid (O.sts encP)
  have P3 := Lib.hid (O2.out.belowT b)
  have S3 := Lib.hid (S2.out.belowT b)
  have T3 := Lib.hid (T2.out.belowT b)
  have Q3 := Lib.hid (Q2.out.trans (b.mono Q2.out.size))
  clear O b O2 S2 T2 Q2
  go_wp2_with fail
  refine (samePairs_one a2 a3 m c2 c3 V3 P3.out O3.out (by have := HM.out; omega)).mono ?_
  rintro e V4 ⟨rfl, b⟩
  have S4 := Lib.hid (S3.out.belowT b)
  have T4 := Lib.hid (T3.out.belowT b)
  have Q4 := Lib.hid (Q3.out.trans (b.mono Q3.out.size))
  clear b S3 T3 Q3 P3 O3
  go_wp2_with fail
  refine (num_any _ _).mono ?_
  rintro e w' ⟨rfl, rfl⟩
  go_wp2_with fail
  refine (samePairs_one a1 la l c1 lc V4 S4.out T4.out _hll).mono ?_
  rintro e V5 ⟨rfl, b⟩
  have Q5 := Lib.hid (Q4.out.trans (b.mono Q4.out.size))
  clear b S4 T4 Q4
  go_wp2_with fail
  refine (alive_any V5).mono ?_
  rintro e V6 ⟨rfl, b⟩
  have Q6 := Lib.hid (Q5.out.trans (b.mono Q5.out.size))
  clear b Q5
  go_wp2
  go_ret
  exact ⟨rfl, Q6.out⟩

theorem own : ownKnob Try.prog.godebug = none := by kernel_rfl
theorem laidOut : laidOutB Try.prog = true := by kernel_rfl

set_option maxRecDepth 100000 in
set_option maxHeartbeats 2000000 in
theorem lifted (os : Os) (started : os.Started) (H : Type) (enc : TypeId × Value → H) :
    ReturnsInHanded {} Try.checked os 3 .any (Rows.bbrFiltersSpec.pre6 enc Try.prog Try.f3 Rows.bbrFiltersRow.domain false) (Rows.bbrFiltersSpec.post enc Try.prog Try.f3 false true false false) := by
  refine returnsInHanded_of_change_sized (C := Try.checked) own started (by kernel_rfl) Try.func3
    (ChangeSpec.witness6 (enc := enc) (C := Try.checked) false ⟨#[], #[.slice none 0 0, .int .i64 0, .int .i64 0], []⟩ 8 (by kernel_rfl) (by kernel_rfl) (by kernel_rfl) (by kernel_rfl)) ?_
  intro W base args ds gs before hval0 hW hcnd hsz0 _
  have hval : ∀ (j : Nat) t v, Try.f3.params[j]? = some t → args[j]? = some v → Value.okWide Try.prog W .any base t v := hval0
  have hsz : (DataW.weightsEach Try.prog (Try.f3.params.toList ++ Rows.bbrFiltersSpec.plain.varTypes Try.prog) (ds ++ gs)).all (· ≤ reachBytes) = true := hsz0
  have hW' := hW
  obtain ⟨p, q, hA0, hV, rfl, hfz, hnd⟩ := hW
  have hA : DataW.TrodAll enc Try.prog W 0 (fun _ => true) true Try.f3.params.toList args.toList ds p := hA0
  rw [Try.params3] at hA hval hsz
  obtain ⟨v0, vs0, d0, ds0, p0, q0, hargs, rfl, rfl, h0, r0⟩ := trodAll_cons hA
  obtain ⟨v1, vs1, d1, ds1, p1, q1, rfl, rfl, rfl, h1, r1⟩ := trodAll_cons r0
  obtain ⟨v2, vs2, d2, ds2, p2, q2, rfl, rfl, rfl, h2, r2⟩ := trodAll_cons r1
  obtain ⟨rfl, rfl, rfl⟩ := trodAll_nil r2
  obtain rfl : args = #[v0, v1, v2] := by cases args; simp_all
  obtain ⟨rfl, rfl⟩ := trodVars_none hV
  obtain ⟨a0, len0, cap0, rfl⟩ := okWide_slice Try.underlying22 (hval 0 22 v0 rfl rfl)
  have k0 := h0
  have lt0 : ∀ x ∈ p0, x.block < W.heap.size := by obtain ⟨m, hm⟩ := k0; exact DataW.trod_lt m _ _ _ hm
  obtain ⟨a1, rfl, rfl, rfl, w1⟩ := open_int Try.underlying3 (hval 1 3 v1 rfl rfl) h1
  obtain ⟨a2, rfl, rfl, rfl, w2⟩ := open_int Try.underlying3 (hval 2 3 v2 rfl rfl) h2
  obtain ⟨xs0, hxl0, hbt0, hcap0, hre0⟩ : ∃ xs : List Pair23, xs.length = len0 ∧ Sts 2 Pair23.cells Pair23.ok W a0 xs ∧ (a0 = none → cap0 = 0) ∧ xs.length ≤ 8796093021952 := by
    obtain ⟨fuel, hf⟩ := h0
    obtain ⟨x, rs, c, hv, hs, hnc, _, hq⟩ := open_Pair23s (c := .slice a0 len0 cap0) hf
    simp only [Value.slice.injEq] at hv
    obtain ⟨rfl, rfl, rfl⟩ := hv
    have hw := sts_reach Try.underlying22 hq (fun n hn => by simpa using List.all_eq_true.1 hsz _ (DataW.weights_mem_each (j := 0) (t := 22) rfl rfl n hn))
    rw [show Try.prog.bytesOf 58 = 16 from by kernel_rfl] at hw
    simp only [reachBytes] at hw
    exact ⟨rs, rfl, hs, hnc, by omega⟩
  clear hA0 hval0 hsz hsz0
  subst hxl0
  obtain ⟨lo1, hi1⟩ := bounds_i64 w1
  obtain ⟨lo2, hi2⟩ := bounds_i64 w2
  refine (walk a0 xs0 cap0 a1 a2 W hbt0 hcap0 hre0 lo1 hi1 lo2 hi2).mono fun e W' ⟨he, bel⟩ => ?_
  subst he
  exact ⟨_, rfl, _, _, _, [], _, [], hW', trodAll_mk1 (shut_bool Try.underlying4 _), (trodAll_cons_mk (Below.trod laidOut (by kernel_rfl) (of_decide_eq_true (by kernel_rfl)) k0 bel lt0) (trodAll_cons_mk (shut_int Try.underlying3 w1) (trodAll_cons_mk (shut_int Try.underlying3 w2) trodAll_mk0))), rfl, bel.frame _, fun h => by cases h⟩

theorem over : Rows.bbrFiltersRow.holds Try.pinned (OpenSpec.ofChange Rows.bbrFiltersSpec) :=
  OpenClaim.holds_of_wide 3 Try.f3 rfl rfl rfl rfl rfl rfl rfl ⟨rfl, rfl, rfl, rfl, rfl⟩ rfl rfl rfl rfl rfl (by kernel_rfl) Try.func3 (by kernel_rfl)
    (of_decide_eq_true (by kernel_rfl)) (by unfold Func.isWrapper; first | (rw [if_pos (by decide +kernel)]; kernel_rfl) | (rw [if_neg (by decide +kernel)]; exact ⟨rfl, rfl⟩))
    (fun os started H enc _ => lifted os started H enc)

end Go.Proofs.Ytokoogohdfepiaa.bbrFilters
namespace Go.Proofs.Ytokoogohdfepiaa
/-- The statement. -/
theorem bbrFilters_holds : Rows.BbrFiltersSaid := bbrFilters.over
#print axioms bbrFilters_holds
end Go.Proofs.Ytokoogohdfepiaa
