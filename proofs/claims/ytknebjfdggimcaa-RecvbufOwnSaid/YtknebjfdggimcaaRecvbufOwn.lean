/- For every first number and every octets: refused calls change nothing; buffers that no call made answer as such. No condition. -/
import Derived.Test.YtknebjfdggimcaaRows
import Derived.Test.YtknebjfdggimcaaRvO
import Derived.Test.YtknebjfdggimcaaGFrame
import Derived.Test.YtknebjfdggimcaaGAgg
import Derived.Deep.DeepCutAuto
import Derived.RegionTactic
import Derived.Deep.RegionHeld3
import Derived.ProofKit
import Derived.OpenShut
import Derived.ChangeOld
import Derived.SizedLaws
namespace Go.Proofs.Ytknebjfdggimcaa.recvbufOwn
open Go.ChangeShapes Go.WideShapes Go.ChangeAt Go.RowKit Go.Deep Go.Proofs.Ytknebjfdggimcaa.Rv

set_option maxRecDepth 100000 in
set_option maxHeartbeats 4000000 in
theorem walk (next : Nat) (a : Option Addr) (xs : List Nat) (cap : Nat) (w : World) (hf : next < 4294967296) (hx : Bts w a xs) (hn : a = none → cap = 0) (hcap : xs.length ≤ cap ∧ cap ≤ maxLen) (hl : xs.length ≤ 140737488351232) :
    Calls Try.prog 6 #[.int .u32 next, .slice a xs.length cap] w fun e w' => e = .returned (.bool true) ∧ Below w.heap.size w w' := by
  have HX := Lib.hid hx
  have HXW : Hid (∀ b o, a = some ⟨b, o, none⟩ → xs ≠ [] → b < w.heap.size) := Lib.hid (fun b o e hne => by
    obtain ⟨b', o', e', hb, _⟩ := hx.isSome (List.length_pos_iff.2 hne)
    rw [e] at e'; cases e'; exact hb)
  have HN := Lib.hid hn
  have HC := Lib.hid hcap
  clear hx hn hcap
  go_enter Try.func6, Try.ntmps6
  go_upto_region 4 with (first
    | (go_at_call 26; refine (alive_any _).mono ?_; rintro e V1 ⟨rfl, b⟩; have Q1 := Lib.hid b; clear b)
    | fail)
  have ba := (Below.refl V1.heap.size V1).alloc (Nat.le_refl _) (.cells #[.slice none 0 0, .int .i64 0, .int .i64 0, .int .u32 0, .slice none 0 0, .int .i64 0] 70)
  have BZ := Lib.hid (blk_new V1 (.cells #[.slice none 0 0, .int .i64 0, .int .i64 0, .int .u32 0, .slice none 0 0, .int .i64 0] 70))
  have Q2 := Lib.hid (Q1.out.trans (ba.mono Q1.out.size))
  clear ba
  go_upto_region 6 with (first
    | (go_at_call 27; (with_reducible refine (nothing_nil _).mono ?_); rintro e w' ⟨rfl, rfl⟩)
    | (go_at_call 27; (with_reducible refine (nothing_zero V1.heap.size _ BZ.out).mono ?_); rintro e w' ⟨rfl, rfl⟩)
    | fail)
  clear BZ Q1
  generalize V1.alloc (.cells #[.slice none 0 0, .int .i64 0, .int .i64 0, .int .u32 0, .slice none 0 0, .int .i64 0] 70) = V2 at Q2 ⊢
  go_upto_region 9 with (first
    | (go_at_call 7; refine (new_ok 50 next _ (by decide) (by decide)).mono ?_; rintro e V3 ⟨g, rfl, hgl, hgv, r3, b3⟩; have R3 := Lib.hid r3; have Q3 := Lib.hid (Q2.out.trans (b3.mono Q2.out.size)); clear r3 b3)
    | (go_at_call 9; refine (num_any _ _).mono ?_; rintro e w' ⟨rfl, rfl⟩)
    | fail)
  have hs2 := Q2.out.size
  have K3 := new_okF (n := 50) (nx := next) (by decide) (by decide) hf
  have IN := insert_ok V2.heap.size g V2.heap.size 0 none (newF 50 next) next a cap xs V3 K3 R3.out (HX.out.below Q3.out) HC.out.1 HN.out hf (by omega) (by omega) (fun b o e hne => by have := HXW.out b o e hne; exact ⟨by omega, by omega⟩)
  by_cases h5 : xs.length ≤ 65535
  case neg =>
    rw [ins_tooLong next xs h5] at IN
    have HIN := Lib.hid IN
    have d5 : (65535 : Int) < (xs.length : Int) := by omega
    clear IN K3
    go_wp2_with (first
      | (go_at_call 11; refine HIN.out.mono ?_; rintro e V4 ⟨rfl, p4, c4, r4, t4, k4⟩; have T4 := Lib.hid t4; clear r4 t4 k4)
      | (go_at_call 9; refine (num_any _ _).mono ?_; rintro e w' ⟨rfl, rfl⟩)
      | fail)
    go_ret
    exact ⟨rfl, Q3.out.trans ((T4.out.below (B := V2.heap.size) (by omega) (fun k h => by rcases h with h | h | h; omega; omega; cases h)).mono (by omega))⟩
  case pos =>
    obtain ⟨f1, f2, f3, f4⟩ := ins_first next xs h5
    generalize insF (newF 50 next) next xs = J at IN f1 f2 f3 f4
    obtain ⟨S, m, er⟩ := J
    dsimp only at IN f1 f2 f3 f4
    subst f2
    have HIN := Lib.hid IN
    have hmin : min (50 : Int) (xs.length : Int) = (m : Int) := by omega
    have hmin2 : min 50 xs.length = m := f1.symm
    have hm50 : m ≤ 50 := by omega
    have hSr : S.ready = m := by omega
    have HSR := Lib.hid hSr
    have HSZ := Lib.hid f4
    have Wm : IntKind.i64.wrap ((50 : Int) - (m : Int)) = ((50 - m : Nat) : Int) := by rw [IntWalk.i64_in _ ⟨by omega, by omega⟩]; omega
    obtain ⟨wm, hwm⟩ : ∃ z, 50 - m = z := ⟨_, rfl⟩
    rw [hwm] at Wm
    have HWM := Lib.hid hwm
    clear IN K3 f1 f3 f4 hSr hwm
    go_upto_region 12 with (first
      | (go_at_call 11; refine HIN.out.mono ?_; rintro e V4 ⟨rfl, p4, c4, r4, t4, k4⟩; have R4 := Lib.hid r4; have T4 := Lib.hid t4; clear r4 t4 k4)
      | (go_at_call 9; refine (num_any _ _).mono ?_; rintro e w' ⟨rfl, rfl⟩)
      | fail)
    have hb4 := R4.out.blk
    unfold bcs at hb4
    rw [HSR.out, HSZ.out] at hb4
    have HB4 := Lib.hid hb4
    clear hb4
    go_wp2_with (first
      | (go_at_call 14; refine (read_neg g V2.heap.size 50 S.start m S.next p4 S.parts.length c4 S.count (-1) _ HB4.out (by decide)).mono ?_; rintro e w' ⟨rfl, rfl⟩)
      | (go_at_call 17; refine (grow_less g V2.heap.size 50 S.start m S.next p4 S.parts.length c4 S.count 49 _ HB4.out (by decide)).mono ?_; rintro e w' ⟨rfl, rfl⟩)
      | (go_at_call 9; refine (num_any _ _).mono ?_; rintro e w' ⟨rfl, rfl⟩)
      | (go_at_call 20; refine (ready_ok g V2.heap.size 50 S.start m S.next p4 S.parts.length c4 S.count _ HB4.out).mono ?_; rintro e w' ⟨rfl, rfl⟩)
      | (go_at_call 21; refine (window_ok g V2.heap.size 50 S.start m S.next p4 S.parts.length c4 S.count _ HB4.out wm (by have := HWM.out; omega) (by decide)).mono ?_; rintro e V5 ⟨rfl, b5⟩; have B5 := Lib.hid b5; clear b5)
      | fail)
    go_ret
    have q4 : Below w.heap.size w V4 := Q3.out.trans ((T4.out.below (B := V2.heap.size) (by omega) (fun k h => by rcases h with h | h | h; omega; omega; cases h)).mono (by omega))
    exact ⟨rfl, q4.trans (B5.out.mono q4.size)⟩

theorem own : ownKnob Try.prog.godebug = none := by kernel_rfl
theorem laidOut : laidOutB Try.prog = true := by kernel_rfl

set_option maxRecDepth 100000 in
set_option maxHeartbeats 2000000 in
theorem lifted (os : Os) (started : os.Started) (H : Type) (enc : TypeId × Value → H) :
    ReturnsInHanded {} Try.checked os 6 .any (Rows.recvbufOwnSpec.pre6 enc Try.prog Try.f6 Rows.recvbufOwnRow.domain false) (Rows.recvbufOwnSpec.post enc Try.prog Try.f6 false true false false) := by
  refine returnsInHanded_of_change_sized (C := Try.checked) own started (by kernel_rfl) Try.func6
    (ChangeSpec.witness6 (enc := enc) (C := Try.checked) false ⟨#[], #[.int .u32 0, .slice none 0 0], []⟩ 8 (by kernel_rfl) (by kernel_rfl) (by kernel_rfl) (by kernel_rfl)) ?_
  intro W base args ds gs before hval0 hW hcnd hsz0 _
  have hval : ∀ (j : Nat) t v, Try.f6.params[j]? = some t → args[j]? = some v → Value.okWide Try.prog W .any base t v := hval0
  have hsz : (DataW.weightsEach Try.prog (Try.f6.params.toList ++ Rows.recvbufOwnSpec.plain.varTypes Try.prog) (ds ++ gs)).all (· ≤ reachBytes) = true := hsz0
  have hW' := hW
  obtain ⟨p, q, hA0, hV, rfl, hfz, hnd⟩ := hW
  have hA : DataW.TrodAll enc Try.prog W 0 (fun _ => true) true Try.f6.params.toList args.toList ds p := hA0
  rw [Try.params6] at hA hval hsz
  obtain ⟨v0, vs0, d0, ds0, p0, q0, hargs, rfl, rfl, h0, r0⟩ := trodAll_cons hA
  obtain ⟨v1, vs1, d1, ds1, p1, q1, rfl, rfl, rfl, h1, r1⟩ := trodAll_cons r0
  obtain ⟨rfl, rfl, rfl⟩ := trodAll_nil r1
  obtain rfl : args = #[v0, v1] := by cases args; simp_all
  obtain ⟨rfl, rfl⟩ := trodVars_none hV
  obtain ⟨a0, rfl, rfl, rfl, w0⟩ := open_int Try.underlying22 (hval 0 22 v0 rfl rfl) h0
  obtain ⟨a1, len1, cap1, rfl⟩ := okWide_slice Try.underlying32 (hval 1 32 v1 rfl rfl)
  have k1 := h1
  have lt1 : ∀ x ∈ p1, x.block < W.heap.size := by obtain ⟨m, hm⟩ := k1; exact DataW.trod_lt m _ _ _ hm
  obtain ⟨xs1, hxl1, hbt1, hcap1, hlc1, hre1⟩ : ∃ xs : List Nat, xs.length = len1 ∧ Bts W a1 xs ∧ (a1 = none → cap1 = 0) ∧ (xs.length ≤ cap1 ∧ cap1 ≤ maxLen) ∧ xs.length ≤ 140737488351232 := by
    obtain ⟨fuel, hf⟩ := h1
    rcases open_ints Try.underlying32 Try.underlying5 (by kernel_rfl) hf with ⟨hcs, _⟩ | ⟨x, l, c, zs, hcs, _, hl, hm, hz, hd, hcell, hwz⟩
    · simp [Value.cells] at hcs
      obtain ⟨rfl, rfl, rfl⟩ := hcs
      exact ⟨[], rfl, ⟨(fun x h => by cases h), .inl rfl⟩, fun _ => rfl, ⟨Nat.le_refl _, Nat.zero_le _⟩, by simp⟩
    · simp [Value.cells] at hcs
      obtain ⟨rfl, rfl, rfl⟩ := hcs
      have hz' : zs.length = cap1 := by simpa using hz
      obtain ⟨xs, h1, h2⟩ := bts_of_ints hl hz' hcell hwz
      have hd' := (Prod.mk.inj hd).1
      have hw := sized_slice hsz (j := 1) (t := 32) (e := 5) rfl (by rw [hd']; rfl) Try.underlying32
      rw [bytes5] at hw
      simp only [lits, List.length_map, List.length_take, List.length_drop, reachBytes] at hw
      exact ⟨xs, h1, h2, (fun h => by cases h), ⟨by omega, hm⟩, by omega⟩
  clear hA0 hval0 hsz hsz0
  obtain ⟨n0, rfl, hn0⟩ := nat_of_u32 w0
  subst hxl1
  refine (walk n0 a1 xs1 cap1 W hn0 hbt1 hcap1 hlc1 hre1).mono fun e W' ⟨he, bel⟩ => ?_
  subst he
  exact ⟨_, rfl, _, _, _, [], _, [], hW', trodAll_mk1 (shut_bool Try.underlying4 _), (trodAll_cons_mk (shut_int Try.underlying22 w0) (trodAll_cons_mk (Below.trod laidOut (by kernel_rfl) (of_decide_eq_true (by kernel_rfl)) k1 bel lt1) trodAll_mk0)), rfl, bel.frame _, fun h => by cases h⟩

theorem over : Rows.recvbufOwnRow.holds Try.pinned (OpenSpec.ofChange Rows.recvbufOwnSpec) :=
  OpenClaim.holds_of_wide 6 Try.f6 rfl rfl rfl rfl rfl rfl rfl ⟨rfl, rfl, rfl, rfl, rfl⟩ rfl rfl rfl rfl rfl (by kernel_rfl) Try.func6 (by kernel_rfl)
    (of_decide_eq_true (by kernel_rfl)) (by unfold Func.isWrapper; first | (rw [if_pos (by decide +kernel)]; kernel_rfl) | (rw [if_neg (by decide +kernel)]; exact ⟨rfl, rfl⟩))
    (fun os started H enc _ => lifted os started H enc)

end Go.Proofs.Ytknebjfdggimcaa.recvbufOwn
namespace Go.Proofs.Ytknebjfdggimcaa
/-- The statement. -/
theorem recvbufOwn_holds : Rows.RecvbufOwnSaid := recvbufOwn.over
#print axioms recvbufOwn_holds
end Go.Proofs.Ytknebjfdggimcaa
