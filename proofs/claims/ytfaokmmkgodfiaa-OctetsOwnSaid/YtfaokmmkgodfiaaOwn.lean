/- For every number and text, the answers of Put and Unhex are the caller's own: spoiling a second answer leaves the first. No condition. -/
import Derived.Test.YtfaokmmkgodfiaaRows
import Derived.Test.YtfaokmmkgodfiaaSlices
import Derived.ProofKit
import Derived.OpenShut
import Derived.ShutString
import Derived.ChangeOld
import Derived.SizedLaws
namespace Go.Proofs.Ytfaokmmkgodfiaa.octetsOwn
open Go.ChangeShapes Go.WideShapes Go.ChangeAt Go.RowKit
open Go.ChangeMaps (open_string shut_string)

theorem putL_len (n : Nat) (size : Int) : (putL n size).length ≤ 8 := by
  unfold putL
  split
  · rename_i h
    obtain ⟨k, rfl, _, h2, _⟩ := h
    rw [Mt.octs_length]; exact h2
  · simp

theorem unhexL_len (s : ByteArray) : (unhexL s).length ≤ s.size := by
  unfold unhexL
  split
  · rw [unhexed_length]; omega
  · simp

theorem own : ownKnob Try.prog.godebug = none := by kernel_rfl

set_option maxHeartbeats 2000000 in
theorem walk (n : Nat) (s : ByteArray) (hn : n < 18446744073709551616) (hs : s.size ≤ 140737488351232) (w : World) :
    Calls Try.prog 5 #[.int .u64 n, .string s] w fun e w' => e = .returned (.bool true) ∧ Below w.heap.size w w' := by
  obtain ⟨L, hL⟩ : ∃ L, putL n 8 = L := ⟨_, rfl⟩
  obtain ⟨E, hE⟩ : ∃ E, putE n 8 = E := ⟨_, rfl⟩
  obtain ⟨M, hM⟩ : ∃ M, unhexL s = M := ⟨_, rfl⟩
  obtain ⟨F, hF⟩ : ∃ F, unhexE s = F := ⟨_, rfl⟩
  obtain ⟨G, hG⟩ : ∃ G, unhexP s = G := ⟨_, rfl⟩
  have hLl := putL_len n 8
  have hMl := unhexL_len s
  have hput := put_one n 8 hn (by omega) (by omega)
  have hunh := unhex_one s (by omega)
  rw [hL] at hLl
  rw [hM] at hMl
  rw [hL, hE] at hput
  rw [hM, hF, hG] at hunh
  have Hput := Lib.hid hput
  have Hunh := Lib.hid hunh
  clear hL hE hM hF hG hput hunh
  have hLl2 : L.length ≤ 140737488355328 := by omega
  have hMl2 : M.length ≤ 140737488355328 := by omega
  clear hLl hMl
  go_enter Try.func5, Try.ntmps5
  go_wp2_with fail
  refine (alive_any _).mono ?_
  rintro e w1 ⟨rfl, b1⟩
  go_wp2_with fail
  refine (Hput.out _).mono ?_
  rintro e w2 ⟨xa, xc, rfl, X, b2⟩
  have HX := Lib.hid X; clear X
  go_wp2_with fail
  refine (Hunh.out _).mono ?_
  rintro e w3 ⟨ya, yc, rfl, Y, b3⟩
  have HX3 := Lib.hid (HX.out.below b3).bts
  have hxn := HX.out.nilcap
  have hyn := Y.nilcap
  have HY := Lib.hid Y
  have hcopy1 := Lib.hid (copy_one xa L xc w3 HX3.out hLl2 hxn)
  clear Y hxn HX
  have Hyn := Lib.hid hyn; clear hyn
  go_wp2_with fail
  refine hcopy1.out.mono ?_
  rintro e w4 ⟨aa, ac, rfl, A, b4⟩
  have HX4 := Lib.hid (HX3.out.below b4)
  have HA := Lib.hid A
  have HY4 := Lib.hid (HY.out.bts.below b4)
  have hcopy2 := Lib.hid (copy_one ya M yc w4 HY4.out hMl2 Hyn.out)
  clear A HX3 HY hcopy1
  go_wp2_with fail
  refine hcopy2.out.mono ?_
  rintro e w5 ⟨ba, bc, rfl, B, b5⟩
  have HX5 := Lib.hid (HX4.out.below b5)
  have HY5 := Lib.hid (HY4.out.below b5)
  have HA5 := Lib.hid (HA.out.bts.below b5)
  have HB5 := Lib.hid B.bts
  clear B HX4 HY4 HA hcopy2 Hyn
  have q5 : Below w.heap.size w w5 := (((b1.trans (b2.mono b1.size)).trans (b3.mono (Nat.le_trans b1.size b2.size))).trans (b4.mono (Nat.le_trans (Nat.le_trans b1.size b2.size) b3.size))).trans (b5.mono (Nat.le_trans (Nat.le_trans (Nat.le_trans b1.size b2.size) b3.size) b4.size))
  clear b1 b2 b3 b4 b5
  go_wp2_with fail
  refine (Hput.out _).mono ?_
  rintro e w6 ⟨ua, uc, rfl, U, b6⟩
  have HU := Lib.hid U; clear U
  go_wp2_with fail
  refine (Hunh.out _).mono ?_
  rintro e w7 ⟨va, vc, rfl, V, b7⟩
  have HU7 := Lib.hid (HU.out.below b7)
  have HV7 := Lib.hid V
  have hub : ∀ g, ua = some ⟨g, 0, none⟩ → g < w6.heap.size := by
    intro g hg
    obtain ⟨_, ⟨h, _⟩ | ⟨g', h, _, hr⟩⟩ := HU.out
    · rw [h] at hg; cases hg
    · rw [h] at hg; cases hg
      exact (hr.lt g rfl).2
  have b67 : Below w5.heap.size w5 w7 := b6.trans (b7.mono b6.size)
  have hsp1 := Lib.hid (spoil_one w5.heap.size w6.heap.size ua L uc w7 HU7.out hub hLl2)
  clear V HU hub
  go_wp2_with fail
  refine hsp1.out.mono ?_
  rintro e w8 ⟨⟨_, rfl⟩, b8, k8⟩
  have HV8 := Lib.hid (k8 _ _ _ HV7.out)
  have hvb : ∀ g, va = some ⟨g, 0, none⟩ → g < w7.heap.size := by
    intro g hg
    obtain ⟨_, ⟨h, _⟩ | ⟨g', h, _, hr⟩⟩ := HV7.out
    · rw [h] at hg; cases hg
    · rw [h] at hg; cases hg
      exact (hr.lt g rfl).2
  have hsp2 := Lib.hid (spoil_one w6.heap.size w7.heap.size va M vc w8 HV8.out hvb hMl2)
  have b58 : Below w5.heap.size w5 w8 := b67.trans b8
  clear k8 hvb HV7 HU7 hsp1 b67 b8
  go_wp2_with fail
  refine hsp2.out.mono ?_
  rintro e w9 ⟨⟨_, rfl⟩, b9, _⟩
  have b59 : Below w5.heap.size w5 w9 := b58.trans (b9.mono b6.size)
  have HX9 := Lib.hid (HX5.out.below b59)
  have HY9 := Lib.hid (HY5.out.below b59)
  have HA9 := Lib.hid (HA5.out.below b59)
  have HB9 := Lib.hid (HB5.out.below b59)
  have q9 : Below w.heap.size w w9 := q5.trans (b59.mono q5.size)
  have hs1 := Lib.hid (same_one xa aa L L xc ac w9 HX9.out HA9.out hLl2 hLl2 rfl)
  clear HX5 HY5 HA5 HB5 hsp2 HV8 b58 b59 b9 b6 q5
  go_wp2_with fail
  refine hs1.out.mono ?_
  rintro e w10 ⟨rfl, b10⟩
  have hs2 := Lib.hid (same_one ya ba M M yc bc w10 (HY9.out.below b10) (HB9.out.below b10) hMl2 hMl2 rfl)
  have q10 : Below w.heap.size w w10 := q9.trans (b10.mono q9.size)
  clear HX9 HA9 HY9 HB9 hs1 b10 q9
  go_wp2_with fail
  refine hs2.out.mono ?_
  rintro e w11 ⟨rfl, b11⟩
  have q11 : Below w.heap.size w w11 := q10.trans (b11.mono q10.size)
  clear hs2 b11 q10
  go_wp2
  go_ret
  exact ⟨rfl, q11⟩
theorem int_of_wf {a : Int} (h : (Lit.int .u64 a).wf = true) : ∃ n : Nat, a = n ∧ n < 18446744073709551616 := by
  have hb := bounds_u64 h
  exact ⟨a.toNat, by omega, by omega⟩

set_option maxRecDepth 100000 in
theorem lifted (os : Os) (started : os.Started) (H : Type) (enc : TypeId × Value → H) :
    ReturnsInHanded {} Try.checked os 5 .any (Rows.octetsOwnSpec.pre6 enc Try.prog Try.f5 Rows.octetsOwnRow.domain false) (Rows.octetsOwnSpec.post enc Try.prog Try.f5 false true false false) := by
  refine returnsInHanded_of_change_sized (C := Try.checked) own started (by kernel_rfl) Try.func5
    (ChangeSpec.witness6 (enc := enc) (C := Try.checked) false ⟨#[], #[.int .u64 0, .string ByteArray.empty], []⟩ 8 (by kernel_rfl) (by kernel_rfl) (by kernel_rfl) (by kernel_rfl)) ?_
  intro W base args ds gs before hval0 hW hcnd hsz0 _
  have hval : ∀ (j : Nat) t v, Try.f5.params[j]? = some t → args[j]? = some v → Value.okWide Try.prog W .any base t v := hval0
  have hsz : (DataW.weightsEach Try.prog (Try.f5.params.toList ++ Rows.octetsOwnSpec.plain.varTypes Try.prog) (ds ++ gs)).all (· ≤ reachBytes) = true := hsz0
  have hW' := hW
  obtain ⟨p, q, hA0, hV, rfl, hfz, hnd⟩ := hW
  have hA : DataW.TrodAll enc Try.prog W 0 (fun _ => true) true Try.f5.params.toList args.toList ds p := hA0
  rw [Try.params5] at hA hval hsz
  obtain ⟨v0, vs0, d0, ds0, p0, q0, hargs, rfl, rfl, h0, r0⟩ := trodAll_cons hA
  obtain ⟨v1, vs1, d1, ds1, p1, q1, rfl, rfl, rfl, h1, r1⟩ := trodAll_cons r0
  obtain ⟨rfl, rfl, rfl⟩ := trodAll_nil r1
  obtain rfl : args = #[v0, v1] := by cases args; simp_all
  obtain ⟨rfl, rfl⟩ := trodVars_none hV
  obtain ⟨a0, rfl, rfl, rfl, w0⟩ := open_int Try.underlying22 (hval 0 22 v0 rfl rfl) h0
  obtain ⟨a1, rfl, rfl, rfl, w1⟩ := open_string Try.underlying9 (hval 1 9 v1 rfl rfl) h1
  have hreach : a1.data.toList.length ≤ reachBytes := sized_string hsz (j := 1) (t := 9) rfl rfl
  have hs : a1.size ≤ 140737488351232 := by
    have e : a1.data.toList.length = a1.size := by simp
    rw [e] at hreach; exact hreach
  clear hA0 hval0 hsz hsz0 hreach
  obtain ⟨n, rfl, hn⟩ := int_of_wf w0
  refine (walk n a1 hn hs W).mono fun e W' ⟨he, bel⟩ => ?_
  subst he
  exact ⟨_, rfl, _, _, _, [], _, [], hW', trodAll_mk1 (shut_bool Try.underlying4 _), (trodAll_cons_mk (shut_int Try.underlying22 w0) (trodAll_cons_mk (shut_string Try.underlying9 w1) trodAll_mk0)), rfl, bel.frame _, fun h => by cases h⟩

theorem over : Rows.octetsOwnRow.holds Try.pinned (OpenSpec.ofChange Rows.octetsOwnSpec) :=
  OpenClaim.holds_of_wide 5 Try.f5 rfl rfl rfl rfl rfl rfl rfl ⟨rfl, rfl, rfl, rfl, rfl⟩ rfl rfl rfl rfl rfl (by kernel_rfl) Try.func5 (by kernel_rfl)
    (of_decide_eq_true (by kernel_rfl)) (by unfold Func.isWrapper; first | (rw [if_pos (by decide +kernel)]; kernel_rfl) | (rw [if_neg (by decide +kernel)]; exact ⟨rfl, rfl⟩))
    (fun os started H enc _ => lifted os started H enc)

end Go.Proofs.Ytfaokmmkgodfiaa.octetsOwn
namespace Go.Proofs.Ytfaokmmkgodfiaa
/-- The statement. -/
theorem octetsOwn_holds : Rows.OctetsOwnSaid := octetsOwn.over
#print axioms octetsOwn_holds
end Go.Proofs.Ytfaokmmkgodfiaa
