/- For every list of octets, every place and every turn: octets with their checksum in them are right, and with one octet turned into another one they are not. No condition. -/
import Derived.Test.YteoejlclddkcfaaRows
import Derived.Test.YteoejlclddkcfaaSumAlive
import Derived.Test.YteoejlclddkcfaaGFrame
import Derived.Test.YteoejlclddkcfaaGAppend
import Derived.ProofKit
import Derived.OpenShut
import Derived.ShutString
import Derived.ChangeOld
import Derived.SizedLaws
namespace Go.Proofs.Yteoejlclddkcfaa.checksumFinds
open Go.ChangeShapes Go.WideShapes Go.ChangeAt Go.RowKit
open Go.ChangeMaps (open_string shut_string)

set_option maxRecDepth 100000 in
set_option maxHeartbeats 4000000 in
theorem walk (a : Option Addr) (xs : List Nat) (cap : Nat) (at0 : Int) (turn : Nat) (w : World) (hx : Bts w a xs) (hcap : a = none → cap = 0) (hl : xs.length ≤ 140737488351232) (_ : -9223372036854775808 ≤ at0) (_ : at0 ≤ 9223372036854775807) (ht : turn < 256) :
    Calls Try.prog 5 #[.slice a xs.length cap, .int .i64 at0, .int .u8 turn] w fun e w' => e = .returned (.bool true) ∧ Below w.heap.size w w' := by
  have X0 := Lib.hid hx
  have HC := Lib.hid hcap
  clear hx hcap
  go_enter Try.func5, Try.ntmps5
  go_wp2_with fail
  refine (alive_any _).mono ?_
  rintro e w1 ⟨rfl, b1⟩
  have q2 := b1.alloc b1.size (.cells #[.int .u8 0, .int .u8 0] 5)
  have O2 : Hid (OwnSl w.heap.size (some ⟨w1.heap.size, 0, none⟩) [0, 0] 2 (w1.alloc (.cells #[.int .u8 0, .int .u8 0] 5))) := Lib.hid ((own_new w1 [0, 0] (by decide) (by unfold maxLen; simp)).mono b1.size)
  have X2 := Lib.hid (X0.out.below q2)
  clear b1
  go_wp2_with (at_builtin; refine wpList_append_bts rfl _ _ rfl w.heap.size O2.out X2.out HC.out rfl rfl (by simp; omega) q2.size ?_; intro ca cc w3 Z bz; obtain ⟨cs, hz⟩ : ∃ cs, [0, 0] ++ xs = cs := ⟨_, rfl⟩; rw [hz] at Z ⊢; have HZ := Lib.hid Z; have Hz := Lib.hid hz; clear Z hz O2 X2)
  have q3 := q2.trans bz
  have hn : cs.length = xs.length + 2 := by rw [← Hz.out]; simp
  have hn2 : cs.length ≤ 140737488355328 := by omega
  have h2 : 2 ≤ cs.length := by omega
  have Hn := Lib.hid hn
  clear q2 bz hn
  obtain ⟨g, rfl, hgB, hg3⟩ := HZ.out.isSome (by omega)
  have hK := check_any _ cs cc w3 HZ.out.bts hn2
  obtain ⟨K, hKe⟩ : ∃ K, 65535 - Mt.sumO cs = K := ⟨_, rfl⟩
  rw [hKe] at hK
  have hKl : K ≤ 65535 := by omega
  have HKe := Lib.hid hKe
  clear hKe
  refine hK.mono ?_
  rintro e w4 ⟨rfl, b4⟩
  have q4 := q3.trans (b4.mono q3.size)
  have Z4 := Lib.hid (HZ.out.below b4)
  have hg4 : g < w4.heap.size := by have := b4.size; omega
  have e1 : IntKind.u8.wrap (K : Int) = ((K % 256 : Nat) : Int) := by rw [IntKind.wrap_u8']; omega
  have e2 : (K : Int) / 256 = ((K / 256 : Nat) : Int) := rfl
  have k1 : K / 256 < 256 := by omega
  have k2 : K % 256 < 256 := by omega
  have T := (Z4.out.store 0 (K / 256) k1).store 1 (K % 256) k2
  have hc0 := Z4.out.cellAt 0 (by omega)
  have hc1 := Z4.out.cellAt 1 (by omega)
  have hf0 := Z4.out.frozenAt 0
  have hf1 := Z4.out.frozenAt 1
  have hR : (cs.set 0 (K / 256)).set 1 (K % 256) = K / 256 :: K % 256 :: xs := by rw [← Hz.out]; rfl
  rw [hR] at T
  have hone := Mt.sum_right xs X0.out.1 K (by rw [← HKe.out, ← Hz.out]; rfl)
  obtain ⟨ds, hds⟩ : ∃ ds, K / 256 :: K % 256 :: xs = ds := ⟨_, rfl⟩
  rw [hds] at T hone
  have hdl : cs.length = ds.length := by rw [← hds, Hn.out]; rfl
  have q5 := (q4.setCell (p := ⟨g, 0, none⟩) hgB (.int .u8 (K / 256 : Nat))).setCell (p := ⟨g, 1, none⟩) hgB (.int .u8 (K % 256 : Nat))
  have HT := Lib.hid T
  have Hone := Lib.hid hone
  generalize K / 256 = kh at HT q5 e2 k1
  generalize K % 256 = kl at HT q5 e1 k2
  rw [hdl] at h2 hn2 ⊢
  generalize cs.getD 0 0 = o0 at hc0
  generalize cs.getD 1 0 = o1 at hc1
  clear hR hds hdl T hone hK HZ Hz Hn HKe Z4 q3 b4 q4
  go_wp2_with fail
  generalize (w4.setCell ⟨g, 0, none⟩ (.int .u8 (kh : Nat))).setCell ⟨g, 1, none⟩ (.int .u8 (kl : Nat)) = W at HT q5 ⊢
  clear hc0 hc1 hf0 hf1 hg3 hg4 e1 e2 k1 k2
  have X5 := Lib.hid (X0.out.below q5)
  go_loop [9, 10] (fun z i => ∃ (k : Nat) (t : Bool), k ≤ xs.length ∧ i = .int .i64 k ∧ z = .bool t) (fun _ i => xs.length - (intOf i).toNat)
  case atStart => exact ⟨0, true, by omega, rfl, rfl⟩
  case round =>
    obtain ⟨k, t, hk, rfl, rfl⟩ := hrel
    by_cases hlt : k < xs.length
    · obtain ⟨b, off, rfl, hb, hc⟩ : ∃ b off, a = some ⟨b, off, none⟩ ∧ b < W.heap.size ∧ ∀ i, i < xs.length → W.cell? ⟨b, off + i, none⟩ = some (.int .u8 (xs.getD i 0 : Nat)) := by
        rcases X5.out.2 with h | h
        · subst h; simp at hlt
        · exact h
      have hc1 := hc k hlt
      generalize xs.getD k 0 = x at hc1
      clear hc
      cases t with
      | false =>
        go_wp2
        go_round
        case rel => exact ⟨k + 1, false, by omega, by go_num, rfl⟩
        case measure => simp [intOf]; omega
      | true =>
        go_wp2
        go_round
        case rel => exact ⟨k + 1, _, by omega, by go_num, rfl⟩
        case measure => simp [intOf]; omega
    · obtain rfl : k = xs.length := by omega
      clear X5 X0 HC
      have hr := right_any (some ⟨g, 0, none⟩) ds cc W HT.out.bts hn2
      rw [decide_eq_true Hone.out] at hr
      have HR := Lib.hid hr
      clear hr
      go_wp2_with fail
      refine HR.out.mono ?_
      rintro e W6 ⟨rfl, b6⟩
      have q6 := q5.trans (b6.mono q5.size)
      have H6 := Lib.hid (HT.out.below b6)
      clear HT HR b6 q5
      by_cases h0 : turn = 0
      · subst h0
        go_wp2
        go_ret
        exact ⟨rfl, q6⟩
      · have ht0 : ((turn : Int) == 0) = false := by rw [beq_eq_false_iff_ne]; omega
        cases t with
        | true =>
          go_wp2
          go_ret
          exact ⟨rfl, q6⟩
        | false =>
          obtain ⟨n, hn⟩ : ∃ n, ds.length = n := ⟨_, rfl⟩
          have hn3 : (0 : Int) < n := by omega
          have t1 := Int.tmod_lt_of_pos at0 hn3
          have t2 : -(n : Int) < at0.tmod n := by
            have := Int.lt_tmod_of_pos at0 hn3
            exact this
          obtain ⟨j, hj⟩ : ∃ j : Nat, (at0.tmod n + n) % n = (j : Int) := ⟨((at0.tmod n + n) % n).toNat, by have := Int.emod_nonneg (at0.tmod n + n) (by omega : (n : Int) ≠ 0); omega⟩
          have hjn : j < n := by have := Int.emod_lt_of_pos (at0.tmod n + n) hn3; omega
          have hc1 := H6.out.cellAt j (by omega)
          have hf1 := H6.out.frozenAt j
          have hx1 := Mt.getD_lt ds H6.out.1 j
          have hxr := u8_xor_nat (ds.getD j 0) turn hx1 ht
          have hx2 : ds.getD j 0 ^^^ turn < 256 := Nat.xor_lt_two_pow (n := 8) (by omega) (by omega)
          have hne : ds.getD j 0 ^^^ turn ≠ ds.getD j 0 := by
            intro h
            have h2 : ds.getD j 0 ^^^ (ds.getD j 0 ^^^ turn) = ds.getD j 0 ^^^ ds.getD j 0 := by rw [h]
            rw [← Nat.xor_assoc, Nat.xor_self, Nat.zero_xor] at h2
            exact h0 h2
          have T := H6.out.store j _ hx2
          have hz := Mt.sum_told ds H6.out.1 Hone.out j _ (by omega) hx2 hne
          have q7 := q6.setCell (p := ⟨g, j, none⟩) hgB (.int .u8 (ds.getD j 0 ^^^ turn : Nat))
          have hl2 : (ds.set j (ds.getD j 0 ^^^ turn)).length = n := by rw [List.length_set]; exact hn
          clear hne
          generalize ds.getD j 0 ^^^ turn = v at hxr hx2 T hz q7 hl2
          generalize ds.getD j 0 = o at hc1 hx1 hxr
          have hr := right_any (some ⟨g, 0, none⟩) (ds.set j v) cc _ T.bts (by omega)
          rw [decide_eq_false hz, hl2] at hr
          have HR := Lib.hid hr
          have Hj := Lib.hid hj
          rw [hn] at h2 hn2 ⊢
          have hg6 : g < W6.heap.size := (H6.out.row.2.lt g rfl).2
          clear hr hl2 hz T H6 Hone hn
          go_wp2_with fail
          refine HR.out.mono ?_
          rintro e W7 ⟨rfl, b7⟩
          have q8 := q7.trans (b7.mono q7.size)
          go_wp2
          go_ret
          exact ⟨rfl, q8⟩

theorem own : ownKnob Try.prog.godebug = none := by kernel_rfl
theorem laidOut : laidOutB Try.prog = true := by kernel_rfl

set_option maxRecDepth 100000 in
theorem lifted (os : Os) (started : os.Started) (H : Type) (enc : TypeId × Value → H) :
    ReturnsInHanded {} Try.checked os 5 .any (Rows.checksumFindsSpec.pre6 enc Try.prog Try.f5 Rows.checksumFindsRow.domain false) (Rows.checksumFindsSpec.post enc Try.prog Try.f5 false true false false) := by
  refine returnsInHanded_of_change_sized (C := Try.checked) own started (by kernel_rfl) Try.func5
    (ChangeSpec.witness6 (enc := enc) (C := Try.checked) false ⟨#[], #[.slice none 0 0, .int .i64 0, .int .u8 0], []⟩ 8 (by kernel_rfl) (by kernel_rfl) (by kernel_rfl) (by kernel_rfl)) ?_
  intro W base args ds gs before hval0 hW hcnd hsz0 _
  have hval : ∀ (j : Nat) t v, Try.f5.params[j]? = some t → args[j]? = some v → Value.okWide Try.prog W .any base t v := hval0
  have hsz : (DataW.weightsEach Try.prog (Try.f5.params.toList ++ Rows.checksumFindsSpec.plain.varTypes Try.prog) (ds ++ gs)).all (· ≤ reachBytes) = true := hsz0
  have hW' := hW
  obtain ⟨p, q, hA0, hV, rfl, hfz, hnd⟩ := hW
  have hA : DataW.TrodAll enc Try.prog W 0 (fun _ => true) true Try.f5.params.toList args.toList ds p := hA0
  rw [Try.params5] at hA hval hsz
  obtain ⟨v0, vs0, d0, ds0, p0, q0, hargs, rfl, rfl, h0, r0⟩ := trodAll_cons hA
  obtain ⟨v1, vs1, d1, ds1, p1, q1, rfl, rfl, rfl, h1, r1⟩ := trodAll_cons r0
  obtain ⟨v2, vs2, d2, ds2, p2, q2, rfl, rfl, rfl, h2, r2⟩ := trodAll_cons r1
  obtain ⟨rfl, rfl, rfl⟩ := trodAll_nil r2
  obtain rfl : args = #[v0, v1, v2] := by cases args; simp_all
  obtain ⟨rfl, rfl⟩ := trodVars_none hV
  obtain ⟨a0, len0, cap0, rfl⟩ := okWide_slice Try.underlying22 (hval 0 22 v0 rfl rfl)
  have k0 := h0
  have lt0 : ∀ x ∈ p0, x.block < W.heap.size := by obtain ⟨m, hm⟩ := k0; exact DataW.trod_lt m _ _ _ hm
  obtain ⟨a1, rfl, rfl, rfl, w1⟩ := open_int Try.underlying3 (hval 1 3 v1 rfl rfl) h1
  obtain ⟨a2, rfl, rfl, rfl, w2⟩ := open_int Try.underlying5 (hval 2 5 v2 rfl rfl) h2
  obtain ⟨xs0, hxl0, hbt0, hcap0, hre0⟩ : ∃ xs : List Nat, xs.length = len0 ∧ Bts W a0 xs ∧ (a0 = none → cap0 = 0) ∧ xs.length ≤ 140737488351232 := by
    obtain ⟨fuel, hf⟩ := h0
    rcases open_ints Try.underlying22 Try.underlying5 (by kernel_rfl) hf with ⟨hcs, _⟩ | ⟨x, l, c, zs, hcs, _, hl, hm, hz, hd, hcell, hwz⟩
    · simp [Value.cells] at hcs
      obtain ⟨rfl, rfl, rfl⟩ := hcs
      exact ⟨[], rfl, ⟨(fun x h => by cases h), .inl rfl⟩, fun _ => rfl, by simp⟩
    · simp [Value.cells] at hcs
      obtain ⟨rfl, rfl, rfl⟩ := hcs
      have hz' : zs.length = cap0 := by simpa using hz
      obtain ⟨xs, h1, h2⟩ := bts_of_ints hl hz' hcell hwz
      have hd' := (Prod.mk.inj hd).1
      have hw := sized_slice hsz (j := 0) (t := 22) (e := 5) rfl (by rw [hd']; rfl) Try.underlying22
      rw [bytes5] at hw
      simp only [lits, List.length_map, List.length_take, List.length_drop, reachBytes] at hw
      exact ⟨xs, h1, h2, (fun h => by cases h), by omega⟩
  clear hA0 hval0 hsz hsz0
  subst hxl0
  obtain ⟨lo1, hi1⟩ := bounds_i64 w1
  obtain ⟨n2, rfl, hn2⟩ := nat_of_u8 w2
  refine (walk a0 xs0 cap0 a1 n2 W hbt0 hcap0 hre0 lo1 hi1 hn2).mono fun e W' ⟨he, bel⟩ => ?_
  subst he
  exact ⟨_, rfl, _, _, _, [], _, [], hW', trodAll_mk1 (shut_bool Try.underlying4 _), (trodAll_cons_mk (Below.trod laidOut (by kernel_rfl) (of_decide_eq_true (by kernel_rfl)) k0 bel lt0) (trodAll_cons_mk (shut_int Try.underlying3 w1) (trodAll_cons_mk (shut_int Try.underlying5 w2) trodAll_mk0))), rfl, bel.frame _, fun h => by cases h⟩

theorem over : Rows.checksumFindsRow.holds Try.pinned (OpenSpec.ofChange Rows.checksumFindsSpec) :=
  OpenClaim.holds_of_wide 5 Try.f5 rfl rfl rfl rfl rfl rfl rfl ⟨rfl, rfl, rfl, rfl, rfl⟩ rfl rfl rfl rfl rfl (by kernel_rfl) Try.func5 (by kernel_rfl)
    (of_decide_eq_true (by kernel_rfl)) (by unfold Func.isWrapper; first | (rw [if_pos (by decide +kernel)]; kernel_rfl) | (rw [if_neg (by decide +kernel)]; exact ⟨rfl, rfl⟩))
    (fun os started H enc _ => lifted os started H enc)

end Go.Proofs.Yteoejlclddkcfaa.checksumFinds
namespace Go.Proofs.Yteoejlclddkcfaa
/-- The statement. -/
theorem checksumFinds_holds : Rows.ChecksumFindsSaid := checksumFinds.over
#print axioms checksumFinds_holds
end Go.Proofs.Yteoejlclddkcfaa
