/- For every list of octets and all numbers, sums, checksums, updates and the sums of addresses are as the document's own answers; the octets stay. No condition. -/
import Derived.Test.YteoejlclddkcfaaRows
import Derived.Test.YteoejlclddkcfaaSumAlive
import Derived.Test.YteoejlclddkcfaaSumRef
import Derived.Test.YteoejlclddkcfaaGPlain
import Derived.Test.YteoejlclddkcfaaGFrame
import Derived.ProofKit
import Derived.OpenShut
import Derived.ShutString
import Derived.ChangeOld
import Derived.SizedLaws
namespace Go.Proofs.Yteoejlclddkcfaa.checksumTells
open Go.ChangeShapes Go.WideShapes Go.ChangeAt Go.RowKit
open Go.ChangeMaps (open_string shut_string)

set_option maxRecDepth 100000 in
set_option maxHeartbeats 2000000 in
theorem walk (a : Option Addr) (xs : List Nat) (cap : Nat) (x y z s d : Nat) (w : World) (hx : Bts w a xs) (hcap : a = none → cap = 0) (hl : xs.length ≤ 140737488351232) (hx1 : x < 65536) (hy1 : y < 65536) (hz1 : z < 65536) (hs1 : s < 4294967296) (hd1 : d < 4294967296) :
    Calls Try.prog 3 #[.slice a xs.length cap, .int .u16 x, .int .u16 y, .int .u16 z, .int .u32 s, .int .u32 d] w fun e w' => e = .returned (.bool true) ∧ Below w.heap.size w w' := by
  have hl2 : xs.length ≤ 140737488355328 := by omega
  have k0 := Lib.hid (copy_one a xs cap w hx hl2 hcap)
  have c1 : ∀ (a : Option Addr) (cap : Nat) (W : World), Bts W a xs → Calls Try.prog 9 #[.slice a xs.length cap] W fun e W' => e = .returned (.int .u16 (Mt.sumO xs : Nat)) ∧ Below W.heap.size W W' := fun a cap W h => sum_any a xs cap W h hl2
  have c2 : ∀ (a : Option Addr) (cap : Nat) (W : World), Bts W a xs → Calls Try.prog 10 #[.slice a xs.length cap] W fun e W' => e = .returned (.int .u16 (Mt.sumO xs : Nat)) ∧ W = W' := fun a cap W h => refsum_any a xs cap W h hl2
  have c3 : ∀ (a : Option Addr) (cap : Nat) (W : World), Bts W a xs → Calls Try.prog 11 #[.slice a xs.length cap] W fun e W' => e = .returned (.int .u16 (65535 - Mt.sumO xs : Nat)) ∧ Below W.heap.size W W' := fun a cap W h => check_any a xs cap W h hl2
  have c4 : ∀ (a : Option Addr) (cap : Nat) (W : World), Bts W a xs → Calls Try.prog 12 #[.slice a xs.length cap] W fun e W' => e = .returned (.int .u16 (65535 - Mt.sumO xs : Nat)) ∧ W = W' := fun a cap W h => refcheck_any a xs cap W h hl2
  have c5 : ∀ (a : Option Addr) (cap : Nat) (W : World), Bts W a xs → Calls Try.prog 13 #[.slice a xs.length cap] W fun e W' => e = .returned (.bool (decide (Mt.sumO xs = 65535))) ∧ Below W.heap.size W W' := fun a cap W h => right_any a xs cap W h hl2
  have c6 : ∀ (a : Option Addr) (cap : Nat) (W : World), Bts W a xs → Calls Try.prog 14 #[.slice a xs.length cap] W fun e W' => e = .returned (.bool (decide (Mt.sumO xs = 65535))) ∧ W = W' := fun a cap W h => refright_any a xs cap W h hl2
  have c7 := add_any x y (by omega) (by omega)
  have c8 := refadd_any x y (by omega) (by omega)
  have c9 := update_any x y z (by omega) (by omega) (by omega)
  have c10 := refupdate_any x y z (by omega) (by omega) (by omega)
  have hzz : z % 256 < 256 := by omega
  have c11 := fun n => pseudo_any s d (z % 256) n hs1 hd1 hzz
  have c12 := fun n => refpseudo_any s d (z % 256) n hs1 hd1 hzz
  have ez : IntKind.u8.wrap (z : Int) = ((z % 256 : Nat) : Int) := by rw [IntKind.wrap_u8']; omega
  generalize z % 256 = p at c11 c12 ez hzz
  generalize 65535 - Mt.sumO xs = C at c3 c4
  generalize decide (Mt.sumO xs = 65535) = B at c5 c6
  generalize Mt.sumO xs = S at c1 c2
  generalize 65535 - Mt.addw (Mt.addw (65535 - x) (65535 - y)) z = U at c9 c10
  generalize Mt.addw x y = A at c7 c8
  have C1 := Lib.hid c1
  have C2 := Lib.hid c2
  have C3 := Lib.hid c3
  have C4 := Lib.hid c4
  have C5 := Lib.hid c5
  have C6 := Lib.hid c6
  have C7 := Lib.hid c7
  have C8 := Lib.hid c8
  have C9 := Lib.hid c9
  have C10 := Lib.hid c10
  have C11 := Lib.hid c11
  have C12 := Lib.hid c12
  have X0 := Lib.hid hx
  clear c1 c2 c3 c4 c5 c6 c7 c8 c9 c10 c11 c12 hx hcap
  have eS : ((S : Int) != (S : Int)) = false := by simp
  have eC : ((C : Int) != (C : Int)) = false := by simp
  have eB : (B != B) = false := by simp
  go_enter Try.func3, Try.ntmps3
  go_wp2_with fail
  refine k0.out.mono ?_
  rintro e w1 ⟨oa, oc, rfl, O, b1⟩
  have O1 := Lib.hid O.bts
  have X1 := Lib.hid (X0.out.below b1)
  clear O X0 k0
  go_wp2_with fail
  refine (C1.out _ _ _ O1.out).mono ?_
  rintro e w2 ⟨rfl, b2⟩
  have O2 := Lib.hid (O1.out.below b2)
  have X2 := Lib.hid (X1.out.below b2)
  have q2 := b1.trans (b2.mono b1.size)
  clear O1 X1 C1 b1 b2
  go_wp2_with fail
  refine (C2.out _ _ _ X2.out).mono ?_
  rintro e w' ⟨rfl, rfl⟩
  go_wp2_with fail
  refine (C3.out _ _ _ O2.out).mono ?_
  rintro e w3 ⟨rfl, b3⟩
  have O3 := Lib.hid (O2.out.below b3)
  have X3 := Lib.hid (X2.out.below b3)
  have q3 := q2.trans (b3.mono q2.size)
  clear O2 X2 C2 C3 b3 q2
  go_wp2_with fail
  refine (C4.out _ _ _ X3.out).mono ?_
  rintro e w' ⟨rfl, rfl⟩
  go_wp2_with fail
  refine (C5.out _ _ _ O3.out).mono ?_
  rintro e w4 ⟨rfl, b4⟩
  have O4 := Lib.hid (O3.out.below b4)
  have X4 := Lib.hid (X3.out.below b4)
  have q4 := q3.trans (b4.mono q3.size)
  clear O3 X3 C4 C5 b4 q3
  go_wp2_with fail
  refine (C6.out _ _ _ X4.out).mono ?_
  rintro e w' ⟨rfl, rfl⟩
  clear C6
  go_wp2_with fail
  refine (C7.out _).mono ?_
  rintro e w5 ⟨rfl, b5⟩
  have O5 := Lib.hid (O4.out.below b5)
  have X5 := Lib.hid (X4.out.below b5)
  have q5 := q4.trans (b5.mono q4.size)
  clear O4 X4 C7 b5 q4
  go_wp2_with fail
  refine (C8.out _).mono ?_
  rintro e w' ⟨rfl, rfl⟩
  clear C8
  go_wp2_with fail
  refine (C9.out _).mono ?_
  rintro e w6 ⟨rfl, b6⟩
  have O6 := Lib.hid (O5.out.below b6)
  have X6 := Lib.hid (X5.out.below b6)
  have q6 := q5.trans (b6.mono q5.size)
  clear O5 X5 C9 b6 q5
  go_wp2_with fail
  refine (C10.out _).mono ?_
  rintro e w' ⟨rfl, rfl⟩
  clear C10
  go_wp2_with fail
  refine (C11.out _ _).mono ?_
  rintro e w7 ⟨rfl, b7⟩
  have O7 := Lib.hid (O6.out.below b7)
  have X7 := Lib.hid (X6.out.below b7)
  have q7 := q6.trans (b7.mono q6.size)
  clear O6 X6 C11 b7 q6
  go_wp2_with fail
  refine (C12.out _ _).mono ?_
  rintro e w8 ⟨rfl, b8⟩
  have O8 := Lib.hid (O7.out.below b8)
  have X8 := Lib.hid (X7.out.below b8)
  have q8 := q7.trans (b8.mono q7.size)
  clear O7 X7 C12 b8 q7
  have s1 := Lib.hid (same_one oa a xs xs oc cap w8 O8.out X8.out hl2 hl2 rfl)
  go_wp2_with fail
  refine s1.out.mono ?_
  rintro e w9 ⟨rfl, b9⟩
  have q9 := q8.trans (b9.mono q8.size)
  clear s1 O8 X8 b9 q8
  go_wp2_with fail
  refine (alive_any _).mono ?_
  rintro e w10 ⟨rfl, b10⟩
  have q10 := q9.trans (b10.mono q9.size)
  clear b10 q9
  go_wp2
  go_ret
  exact ⟨rfl, q10⟩

theorem own : ownKnob Try.prog.godebug = none := by kernel_rfl
theorem laidOut : laidOutB Try.prog = true := by kernel_rfl

set_option maxRecDepth 100000 in
theorem lifted (os : Os) (started : os.Started) (H : Type) (enc : TypeId × Value → H) :
    ReturnsInHanded {} Try.checked os 3 .any (Rows.checksumTellsSpec.pre6 enc Try.prog Try.f3 Rows.checksumTellsRow.domain false) (Rows.checksumTellsSpec.post enc Try.prog Try.f3 false true false false) := by
  refine returnsInHanded_of_change_sized (C := Try.checked) own started (by kernel_rfl) Try.func3
    (ChangeSpec.witness6 (enc := enc) (C := Try.checked) false ⟨#[], #[.slice none 0 0, .int .u16 0, .int .u16 0, .int .u16 0, .int .u32 0, .int .u32 0], []⟩ 8 (by kernel_rfl) (by kernel_rfl) (by kernel_rfl) (by kernel_rfl)) ?_
  intro W base args ds gs before hval0 hW hcnd hsz0 _
  have hval : ∀ (j : Nat) t v, Try.f3.params[j]? = some t → args[j]? = some v → Value.okWide Try.prog W .any base t v := hval0
  have hsz : (DataW.weightsEach Try.prog (Try.f3.params.toList ++ Rows.checksumTellsSpec.plain.varTypes Try.prog) (ds ++ gs)).all (· ≤ reachBytes) = true := hsz0
  have hW' := hW
  obtain ⟨p, q, hA0, hV, rfl, hfz, hnd⟩ := hW
  have hA : DataW.TrodAll enc Try.prog W 0 (fun _ => true) true Try.f3.params.toList args.toList ds p := hA0
  rw [Try.params3] at hA hval hsz
  obtain ⟨v0, vs0, d0, ds0, p0, q0, hargs, rfl, rfl, h0, r0⟩ := trodAll_cons hA
  obtain ⟨v1, vs1, d1, ds1, p1, q1, rfl, rfl, rfl, h1, r1⟩ := trodAll_cons r0
  obtain ⟨v2, vs2, d2, ds2, p2, q2, rfl, rfl, rfl, h2, r2⟩ := trodAll_cons r1
  obtain ⟨v3, vs3, d3, ds3, p3, q3, rfl, rfl, rfl, h3, r3⟩ := trodAll_cons r2
  obtain ⟨v4, vs4, d4, ds4, p4, q4, rfl, rfl, rfl, h4, r4⟩ := trodAll_cons r3
  obtain ⟨v5, vs5, d5, ds5, p5, q5, rfl, rfl, rfl, h5, r5⟩ := trodAll_cons r4
  obtain ⟨rfl, rfl, rfl⟩ := trodAll_nil r5
  obtain rfl : args = #[v0, v1, v2, v3, v4, v5] := by cases args; simp_all
  obtain ⟨rfl, rfl⟩ := trodVars_none hV
  obtain ⟨a0, len0, cap0, rfl⟩ := okWide_slice Try.underlying22 (hval 0 22 v0 rfl rfl)
  have k0 := h0
  have lt0 : ∀ x ∈ p0, x.block < W.heap.size := by obtain ⟨m, hm⟩ := k0; exact DataW.trod_lt m _ _ _ hm
  obtain ⟨a1, rfl, rfl, rfl, w1⟩ := open_int Try.underlying23 (hval 1 23 v1 rfl rfl) h1
  obtain ⟨a2, rfl, rfl, rfl, w2⟩ := open_int Try.underlying23 (hval 2 23 v2 rfl rfl) h2
  obtain ⟨a3, rfl, rfl, rfl, w3⟩ := open_int Try.underlying23 (hval 3 23 v3 rfl rfl) h3
  obtain ⟨a4, rfl, rfl, rfl, w4⟩ := open_int Try.underlying24 (hval 4 24 v4 rfl rfl) h4
  obtain ⟨a5, rfl, rfl, rfl, w5⟩ := open_int Try.underlying24 (hval 5 24 v5 rfl rfl) h5
  obtain ⟨xs0, hxl0, hbt0, hcap0, hre0⟩ : ∃ xs : List Nat, xs.length = len0 ∧ Bts W a0 xs ∧ (a0 = none → cap0 = 0) ∧ xs.length ≤ 140737488351232 := by
    obtain ⟨fuel, hf⟩ := h0
    rcases open_ints Try.underlying22 Try.underlying5 (by kernel_rfl) hf with ⟨hcs, _⟩ | ⟨x, l, c, zs, hcs, _, hl, hm, hz, hd, hcell, hwz⟩
    · simp [Value.cells] at hcs
      obtain ⟨rfl, rfl, rfl⟩ := hcs
      exact ⟨[], rfl, ⟨(fun x h => by cases h), .inl rfl⟩, fun _ => rfl, by simp⟩
    · simp [Value.cells] at hcs
      obtain ⟨rfl, rfl, rfl⟩ := hcs
      have hz' : zs.length = cap0 := by simpa using hz
      obtain ⟨xs, h1, h2⟩ := bts_of_ints hl hz' hcell hwz
      have hd' := (Prod.mk.inj hd).1
      have hw := sized_slice hsz (j := 0) (t := 22) (e := 5) rfl (by rw [hd']; rfl) Try.underlying22
      rw [bytes5] at hw
      simp only [lits, List.length_map, List.length_take, List.length_drop, reachBytes] at hw
      exact ⟨xs, h1, h2, (fun h => by cases h), by omega⟩
  clear hA0 hval0 hsz hsz0
  subst hxl0
  obtain ⟨n1, rfl, hn1⟩ := nat_of_u16 w1
  obtain ⟨n2, rfl, hn2⟩ := nat_of_u16 w2
  obtain ⟨n3, rfl, hn3⟩ := nat_of_u16 w3
  obtain ⟨n4, rfl, hn4⟩ := nat_of_u32 w4
  obtain ⟨n5, rfl, hn5⟩ := nat_of_u32 w5
  refine (walk a0 xs0 cap0 n1 n2 n3 n4 n5 W hbt0 hcap0 hre0 hn1 hn2 hn3 hn4 hn5).mono fun e W' ⟨he, bel⟩ => ?_
  subst he
  exact ⟨_, rfl, _, _, _, [], _, [], hW', trodAll_mk1 (shut_bool Try.underlying4 _), (trodAll_cons_mk (Below.trod laidOut (by kernel_rfl) (of_decide_eq_true (by kernel_rfl)) k0 bel lt0) (trodAll_cons_mk (shut_int Try.underlying23 w1) (trodAll_cons_mk (shut_int Try.underlying23 w2) (trodAll_cons_mk (shut_int Try.underlying23 w3) (trodAll_cons_mk (shut_int Try.underlying24 w4) (trodAll_cons_mk (shut_int Try.underlying24 w5) trodAll_mk0)))))), rfl, bel.frame _, fun h => by cases h⟩

theorem over : Rows.checksumTellsRow.holds Try.pinned (OpenSpec.ofChange Rows.checksumTellsSpec) :=
  OpenClaim.holds_of_wide 3 Try.f3 rfl rfl rfl rfl rfl rfl rfl ⟨rfl, rfl, rfl, rfl, rfl⟩ rfl rfl rfl rfl rfl (by kernel_rfl) Try.func3 (by kernel_rfl)
    (of_decide_eq_true (by kernel_rfl)) (by unfold Func.isWrapper; first | (rw [if_pos (by decide +kernel)]; kernel_rfl) | (rw [if_neg (by decide +kernel)]; exact ⟨rfl, rfl⟩))
    (fun os started H enc _ => lifted os started H enc)

end Go.Proofs.Yteoejlclddkcfaa.checksumTells
namespace Go.Proofs.Yteoejlclddkcfaa
/-- The statement. -/
theorem checksumTells_holds : Rows.ChecksumTellsSaid := checksumTells.over
#print axioms checksumTells_holds
end Go.Proofs.Yteoejlclddkcfaa
