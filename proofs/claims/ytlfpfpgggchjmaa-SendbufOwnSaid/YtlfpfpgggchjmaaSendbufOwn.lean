/- For every first number and every octets: refused calls change nothing; buffers that no call made answer as such. No condition. -/
import Derived.Test.YtlfpfpgggchjmaaRows
import Derived.Test.YtlfpfpgggchjmaaSbO
import Derived.Test.YtlfpfpgggchjmaaGFrame
import Derived.Test.YtlfpfpgggchjmaaGAgg
import Derived.Deep.DeepCutAuto
import Derived.RegionTactic
import Derived.Deep.RegionHeld3
import Derived.ProofKit
import Derived.OpenShut
import Derived.ChangeOld
import Derived.SizedLaws
namespace Go.Proofs.Ytlfpfpgggchjmaa.sendbufOwn
open Go.ChangeShapes Go.WideShapes Go.ChangeAt Go.RowKit Go.Deep Go.Proofs.Ytlfpfpgggchjmaa.Sb

theorem new_100 (un : Int) (w : World) : Calls Try.prog 14 #[.int .i64 100, .int .u32 un] w fun e w' => (∃ g, e = .returned (.tuple #[.pointer (some ⟨g, 0, none⟩), .int .i64 0]) ∧ w.heap.size < g ∧ w'.heap[g]? = some (.cells #[.slice (some ⟨w.heap.size, 0, none⟩) 100 100, .int .i64 0, .int .i64 0, .int .u32 un] 62 (0, 0)) ∧ OwnSl w.heap.size (some ⟨w.heap.size, 0, none⟩) (List.replicate 100 0) 100 w') ∧ Below w.heap.size w w' :=
  new_ok 100 un w (by decide) (by decide)
theorem write_0 (g G n : Nat) (st ct un : Int) (a : Option Addr) (c : Nat) (w : World) (hB : w.heap[g]? = some (.cells #[.slice (some ⟨G, 0, none⟩) n n, .int .i64 st, .int .i64 ct, .int .u32 un] 62 (0, 0))) : Calls Try.prog 18 #[.pointer (some ⟨g, 0, none⟩), .slice a ([] : List Nat).length c] w fun e w' => e = .returned (.tuple #[.int .i64 0, .int .i64 0]) ∧ w = w' := write_none g G n st ct un a c w hB
set_option maxRecDepth 100000 in
set_option maxHeartbeats 2000000 in
theorem walk0 (fi : Int) (a : Option Addr) (xs : List Nat) (cap : Nat) (w : World) (hf : 0 ≤ fi ∧ fi < 4294967296) (hx : Bts w a xs) (hcap : xs.length ≤ cap ∧ cap ≤ maxLen) (hlx : xs.length ≤ 140737488351232) (hdw0 : ∀ b o, a = some ⟨b, o, none⟩ → 0 < xs.length → b < w.heap.size) :
    Calls Try.prog 6 #[.int .u32 fi, .slice a xs.length cap] w fun e w' => e = .returned (.bool true) ∧ Below w.heap.size w w' := by
  obtain ⟨f0, f1⟩ := hf
  have HX := Lib.hid hx
  go_enter Try.func6, Try.ntmps6
  go_wp2_with fail
  refine (alive_any _).mono ?_
  rintro e V1 ⟨rfl, b⟩
  have X1 := Lib.hid (HX.out.below b)
  have Q1 := Lib.hid b
  clear b HX hx
  go_wp2_with fail
  refine (nothing_nil _).mono ?_
  rintro e w' ⟨rfl, rfl⟩
  go_wp2_with fail
  have bz := blk_new V1 (.cells #[.slice none 0 0, .int .i64 0, .int .i64 0, .int .u32 0] 62)
  have ba := (Below.refl V1.heap.size V1).alloc (Nat.le_refl _) (.cells #[.slice none 0 0, .int .i64 0, .int .i64 0, .int .u32 0] 62)
  have X2 := Lib.hid (X1.out.below ba)
  have Q2 := Lib.hid (Q1.out.trans (ba.mono Q1.out.size))
  refine (nothing_zero V1.heap.size _ bz).mono ?_
  rintro e w' ⟨rfl, rfl⟩
  clear bz ba X1 Q1
  generalize V1.alloc (.cells #[.slice none 0 0, .int .i64 0, .int .i64 0, .int .u32 0] 62) = V2 at X2 Q2 ⊢
  go_wp2_with fail
  refine (new_100 fi V2).mono ?_
  rintro e V3 ⟨⟨g, rfl, hg, hB, hO⟩, b⟩
  have B3 := Lib.hid hB
  have O3 := Lib.hid hO
  have X3 := Lib.hid (X2.out.below b)
  have Q3 := Lib.hid (Q2.out.trans (b.mono Q2.out.size))
  have hsz2 := Q2.out.size
  clear hB hO b X2
  go_wp2_with fail
  refine (num_any _ _).mono ?_
  rintro e w' ⟨rfl, rfl⟩
  by_cases hlen : xs.length = 0
  case pos =>
    obtain rfl : xs = [] := List.eq_nil_of_length_eq_zero hlen
    obtain ⟨mi, hmi⟩ : ∃ z : Int, 0 = z := ⟨_, rfl⟩
    have mi0 : 0 ≤ mi := by omega
    have mi1 : mi ≤ 100 := by omega
    go_wp2_with fail
    refine (write_0 g V2.heap.size 100 0 0 fi a cap _ B3.out).mono ?_
    rintro e w' ⟨rfl, rfl⟩
    have B4 : Hid (V3.heap[g]? = some (.cells #[.slice (some ⟨V2.heap.size, 0, none⟩) 100 100, .int .i64 0, .int .i64 mi, .int .u32 fi] 62 (0, 0))) := Lib.hid (by rw [← hmi]; exact B3.out)
    have Q4 := Lib.hid Q3.out
    rw [hmi]
    clear B3 Q3 O3 X3 hlen hmi
    have Wm : IntKind.u32.wrap mi = mi := by rw [IntKind.wrap_u32]; omega
    obtain ⟨fe, h1⟩ : ∃ z, (fi + mi) % 4294967296 = z := ⟨_, rfl⟩
    obtain ⟨fx, h2⟩ : ∃ z, (fe + 1) % 4294967296 = z := ⟨_, rfl⟩
    obtain ⟨fp, h3⟩ : ∃ z, (fi - 1) % 4294967296 = z := ⟨_, rfl⟩
    have F1 : IntKind.u32.wrap (fi + mi) = fe := by rw [IntKind.wrap_u32]; exact h1
    have F2 : IntKind.u32.wrap (fe + 1) = fx := by rw [IntKind.wrap_u32]; exact h2
    have F3 : IntKind.u32.wrap (fi - 1) = fp := by rw [IntKind.wrap_u32]; exact h3
    obtain ⟨m2, hm2⟩ : ∃ z, mi + 1 = z := ⟨_, rfl⟩
    have D1 : Hid (df fx fi = m2) := Lib.hid (by unfold df; omega)
    have D2 : Hid (df fp fi = 4294967295) := Lib.hid (by unfold df; omega)
    have HE : Hid ((fi + mi % 4294967296) % 4294967296 = fe) := Lib.hid (by omega)
    have k1 : ¬ m2 ≤ mi := by omega
    have k2 : ¬ (4294967295 : Int) ≤ mi := by omega
    have K1 := Lib.hid k1
    have K2 := Lib.hid k2
    clear k1 k2 hm2 h1 h2 h3
    go_wp2_with fail
    refine (ack_seq g V2.heap.size 100 0 mi fi fx m2 _ B4.out D1.out (by have := K1.out; omega)).mono ?_
    rintro e V5 ⟨rfl, hB, hG⟩
    have B5 := Lib.hid hB
    have Q5 := Lib.hid (Q4.out.grown hG Q4.out.size (fun j e => by cases e; omega))
    clear hB hG B4 Q4
    go_wp2_with fail
    refine (slice_seq g V2.heap.size 100 0 mi fi fp 1 4294967295 _ B5.out (by decide) D2.out (by have := K2.out; omega)).mono ?_
    rintro e V6 ⟨rfl, b⟩
    have B6 := Lib.hid ((b.block g (blk_lt B5.out)).trans B5.out)
    have Q6 := Lib.hid (Q5.out.trans (b.mono Q5.out.size))
    clear b B5 Q5
    go_wp2_with fail
    refine (slice_rng g V2.heap.size 100 0 mi fi fi (-1) _ B6.out (by decide)).mono ?_
    rintro e w' ⟨rfl, rfl⟩
    go_wp2_with fail
    refine (num_any _ _).mono ?_
    rintro e w' ⟨rfl, rfl⟩
    go_wp2_with fail
    refine (num_any _ _).mono ?_
    rintro e w' ⟨rfl, rfl⟩
    go_wp2_with fail
    refine (num_any _ _).mono ?_
    rintro e w' ⟨rfl, rfl⟩
    go_wp2_with fail
    refine (una_ok g V2.heap.size 100 0 mi fi _ B6.out).mono ?_
    rintro e w' ⟨rfl, rfl⟩
    go_wp2_with fail
    refine (end_ok g V2.heap.size 100 0 mi fi fe _ B6.out HE.out).mono ?_
    rintro e V7 ⟨rfl, b⟩
    have Q7 := Q6.out.trans (b.mono Q6.out.size)
    go_wp2
    go_ret
    exact ⟨rfl, Q7⟩
  case neg =>
    obtain ⟨db, off, rfl, hdb, _⟩ := X3.out.isSome (by omega)
    obtain ⟨m, hm⟩ : ∃ m, min xs.length 100 = m := ⟨_, rfl⟩
    have hdw : db < w.heap.size := hdw0 _ _ rfl (by omega)
    go_wp2_with fail
    refine (write_ok V2.heap.size g V2.heap.size 100 0 0 m 0 fi (List.replicate 100 0) xs db off cap _ B3.out O3.out (by simp) X3.out (by omega) (by omega) (by omega) (by decide) (by decide) (by decide) (by decide) (by omega) hcap.1 (by omega) (by omega) (by decide)).mono ?_
    rintro e V4 ⟨rfl, hB, _, b⟩
    obtain ⟨mi, hmi⟩ : ∃ z : Int, (m : Int) = z := ⟨_, rfl⟩
    have mi0 : 0 ≤ mi := by omega
    have mi1 : mi ≤ 100 := by omega
    have B4 : Hid (V4.heap[g]? = some (.cells #[.slice (some ⟨V2.heap.size, 0, none⟩) 100 100, .int .i64 0, .int .i64 mi, .int .u32 fi] 62 (0, 0))) := Lib.hid (by rw [← hmi]; rw [Nat.zero_add] at hB; exact hB)
    have Q4 := Lib.hid (Q3.out.trans (b.mono hsz2))
    rw [hmi]
    clear B3 Q3 O3 X3 hlen hmi hB b hm hdb hdw
    have Wm : IntKind.u32.wrap mi = mi := by rw [IntKind.wrap_u32]; omega
    obtain ⟨fe, h1⟩ : ∃ z, (fi + mi) % 4294967296 = z := ⟨_, rfl⟩
    obtain ⟨fx, h2⟩ : ∃ z, (fe + 1) % 4294967296 = z := ⟨_, rfl⟩
    obtain ⟨fp, h3⟩ : ∃ z, (fi - 1) % 4294967296 = z := ⟨_, rfl⟩
    have F1 : IntKind.u32.wrap (fi + mi) = fe := by rw [IntKind.wrap_u32]; exact h1
    have F2 : IntKind.u32.wrap (fe + 1) = fx := by rw [IntKind.wrap_u32]; exact h2
    have F3 : IntKind.u32.wrap (fi - 1) = fp := by rw [IntKind.wrap_u32]; exact h3
    obtain ⟨m2, hm2⟩ : ∃ z, mi + 1 = z := ⟨_, rfl⟩
    have D1 : Hid (df fx fi = m2) := Lib.hid (by unfold df; omega)
    have D2 : Hid (df fp fi = 4294967295) := Lib.hid (by unfold df; omega)
    have HE : Hid ((fi + mi % 4294967296) % 4294967296 = fe) := Lib.hid (by omega)
    have k1 : ¬ m2 ≤ mi := by omega
    have k2 : ¬ (4294967295 : Int) ≤ mi := by omega
    have K1 := Lib.hid k1
    have K2 := Lib.hid k2
    clear k1 k2 hm2 h1 h2 h3
    go_wp2_with fail
    refine (ack_seq g V2.heap.size 100 0 mi fi fx m2 _ B4.out D1.out (by have := K1.out; omega)).mono ?_
    rintro e V5 ⟨rfl, hB, hG⟩
    have B5 := Lib.hid hB
    have Q5 := Lib.hid (Q4.out.grown hG Q4.out.size (fun j e => by cases e; omega))
    clear hB hG B4 Q4
    go_wp2_with fail
    refine (slice_seq g V2.heap.size 100 0 mi fi fp 1 4294967295 _ B5.out (by decide) D2.out (by have := K2.out; omega)).mono ?_
    rintro e V6 ⟨rfl, b⟩
    have B6 := Lib.hid ((b.block g (blk_lt B5.out)).trans B5.out)
    have Q6 := Lib.hid (Q5.out.trans (b.mono Q5.out.size))
    clear b B5 Q5
    go_wp2_with fail
    refine (slice_rng g V2.heap.size 100 0 mi fi fi (-1) _ B6.out (by decide)).mono ?_
    rintro e w' ⟨rfl, rfl⟩
    go_wp2_with fail
    refine (num_any _ _).mono ?_
    rintro e w' ⟨rfl, rfl⟩
    go_wp2_with fail
    refine (num_any _ _).mono ?_
    rintro e w' ⟨rfl, rfl⟩
    go_wp2_with fail
    refine (num_any _ _).mono ?_
    rintro e w' ⟨rfl, rfl⟩
    go_wp2_with fail
    refine (una_ok g V2.heap.size 100 0 mi fi _ B6.out).mono ?_
    rintro e w' ⟨rfl, rfl⟩
    go_wp2_with fail
    refine (end_ok g V2.heap.size 100 0 mi fi fe _ B6.out HE.out).mono ?_
    rintro e V7 ⟨rfl, b⟩
    have Q7 := Q6.out.trans (b.mono Q6.out.size)
    go_wp2
    go_ret
    exact ⟨rfl, Q7⟩

theorem walk (first : Nat) (a : Option Addr) (xs : List Nat) (cap : Nat) (w : World) (hf : first < 4294967296) (hx : Bts w a xs) (_hn : a = none → cap = 0) (hcap : xs.length ≤ cap ∧ cap ≤ maxLen) (hl : xs.length ≤ 140737488351232) :
    Calls Try.prog 6 #[.int .u32 first, .slice a xs.length cap] w fun e w' => e = .returned (.bool true) ∧ Below w.heap.size w w' :=
  walk0 first a xs cap w ⟨by omega, by omega⟩ hx hcap hl (fun b o e hl => by
    obtain ⟨b', o', e', hb, _⟩ := hx.isSome (by omega)
    rw [e] at e'; injection e' with e'; injection e' with e1 e2; omega)

theorem own : ownKnob Try.prog.godebug = none := by kernel_rfl
theorem laidOut : laidOutB Try.prog = true := by kernel_rfl

set_option maxRecDepth 100000 in
set_option maxHeartbeats 2000000 in
theorem lifted (os : Os) (started : os.Started) (H : Type) (enc : TypeId × Value → H) :
    ReturnsInHanded {} Try.checked os 6 .any (Rows.sendbufOwnSpec.pre6 enc Try.prog Try.f6 Rows.sendbufOwnRow.domain false) (Rows.sendbufOwnSpec.post enc Try.prog Try.f6 false true false false) := by
  refine returnsInHanded_of_change_sized (C := Try.checked) own started (by kernel_rfl) Try.func6
    (ChangeSpec.witness6 (enc := enc) (C := Try.checked) false ⟨#[], #[.int .u32 0, .slice none 0 0], []⟩ 8 (by kernel_rfl) (by kernel_rfl) (by kernel_rfl) (by kernel_rfl)) ?_
  intro W base args ds gs before hval0 hW hcnd hsz0 _
  have hval : ∀ (j : Nat) t v, Try.f6.params[j]? = some t → args[j]? = some v → Value.okWide Try.prog W .any base t v := hval0
  have hsz : (DataW.weightsEach Try.prog (Try.f6.params.toList ++ Rows.sendbufOwnSpec.plain.varTypes Try.prog) (ds ++ gs)).all (· ≤ reachBytes) = true := hsz0
  have hW' := hW
  obtain ⟨p, q, hA0, hV, rfl, hfz, hnd⟩ := hW
  have hA : DataW.TrodAll enc Try.prog W 0 (fun _ => true) true Try.f6.params.toList args.toList ds p := hA0
  rw [Try.params6] at hA hval hsz
  obtain ⟨v0, vs0, d0, ds0, p0, q0, hargs, rfl, rfl, h0, r0⟩ := trodAll_cons hA
  obtain ⟨v1, vs1, d1, ds1, p1, q1, rfl, rfl, rfl, h1, r1⟩ := trodAll_cons r0
  obtain ⟨rfl, rfl, rfl⟩ := trodAll_nil r1
  obtain rfl : args = #[v0, v1] := by cases args; simp_all
  obtain ⟨rfl, rfl⟩ := trodVars_none hV
  obtain ⟨a0, rfl, rfl, rfl, w0⟩ := open_int Try.underlying22 (hval 0 22 v0 rfl rfl) h0
  obtain ⟨a1, len1, cap1, rfl⟩ := okWide_slice Try.underlying36 (hval 1 36 v1 rfl rfl)
  have k1 := h1
  have lt1 : ∀ x ∈ p1, x.block < W.heap.size := by obtain ⟨m, hm⟩ := k1; exact DataW.trod_lt m _ _ _ hm
  obtain ⟨xs1, hxl1, hbt1, hcap1, hlc1, hre1⟩ : ∃ xs : List Nat, xs.length = len1 ∧ Bts W a1 xs ∧ (a1 = none → cap1 = 0) ∧ (xs.length ≤ cap1 ∧ cap1 ≤ maxLen) ∧ xs.length ≤ 140737488351232 := by
    obtain ⟨fuel, hf⟩ := h1
    rcases open_ints Try.underlying36 Try.underlying5 (by kernel_rfl) hf with ⟨hcs, _⟩ | ⟨x, l, c, zs, hcs, _, hl, hm, hz, hd, hcell, hwz⟩
    · simp [Value.cells] at hcs
      obtain ⟨rfl, rfl, rfl⟩ := hcs
      exact ⟨[], rfl, ⟨(fun x h => by cases h), .inl rfl⟩, fun _ => rfl, ⟨Nat.le_refl _, Nat.zero_le _⟩, by simp⟩
    · simp [Value.cells] at hcs
      obtain ⟨rfl, rfl, rfl⟩ := hcs
      have hz' : zs.length = cap1 := by simpa using hz
      obtain ⟨xs, h1, h2⟩ := bts_of_ints hl hz' hcell hwz
      have hd' := (Prod.mk.inj hd).1
      have hw := sized_slice hsz (j := 1) (t := 36) (e := 5) rfl (by rw [hd']; rfl) Try.underlying36
      rw [bytes5] at hw
      simp only [lits, List.length_map, List.length_take, List.length_drop, reachBytes] at hw
      exact ⟨xs, h1, h2, (fun h => by cases h), ⟨by omega, hm⟩, by omega⟩
  clear hA0 hval0 hsz hsz0
  obtain ⟨n0, rfl, hn0⟩ := nat_of_u32 w0
  subst hxl1
  refine (walk n0 a1 xs1 cap1 W hn0 hbt1 hcap1 hlc1 hre1).mono fun e W' ⟨he, bel⟩ => ?_
  subst he
  exact ⟨_, rfl, _, _, _, [], _, [], hW', trodAll_mk1 (shut_bool Try.underlying4 _), (trodAll_cons_mk (shut_int Try.underlying22 w0) (trodAll_cons_mk (Below.trod laidOut (by kernel_rfl) (of_decide_eq_true (by kernel_rfl)) k1 bel lt1) trodAll_mk0)), rfl, bel.frame _, fun h => by cases h⟩

theorem over : Rows.sendbufOwnRow.holds Try.pinned (OpenSpec.ofChange Rows.sendbufOwnSpec) :=
  OpenClaim.holds_of_wide 6 Try.f6 rfl rfl rfl rfl rfl rfl rfl ⟨rfl, rfl, rfl, rfl, rfl⟩ rfl rfl rfl rfl rfl (by kernel_rfl) Try.func6 (by kernel_rfl)
    (of_decide_eq_true (by kernel_rfl)) (by unfold Func.isWrapper; first | (rw [if_pos (by decide +kernel)]; kernel_rfl) | (rw [if_neg (by decide +kernel)]; exact ⟨rfl, rfl⟩))
    (fun os started H enc _ => lifted os started H enc)

end Go.Proofs.Ytlfpfpgggchjmaa.sendbufOwn
namespace Go.Proofs.Ytlfpfpgggchjmaa
/-- The statement. -/
theorem sendbufOwn_holds : Rows.SendbufOwnSaid := sendbufOwn.over
#print axioms sendbufOwn_holds
end Go.Proofs.Ytlfpfpgggchjmaa
