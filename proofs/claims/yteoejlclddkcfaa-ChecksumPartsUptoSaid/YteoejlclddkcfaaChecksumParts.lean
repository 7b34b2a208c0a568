/- Where the arguments hold at most 1048576 values: the Sum of two texts, one behind the other, is their Sums, added, if the first one's length is even. -/
import Derived.Test.YteoejlclddkcfaaRows
import Derived.Test.YteoejlclddkcfaaSumAlive
import Derived.Test.YteoejlclddkcfaaGPlain
import Derived.Test.YteoejlclddkcfaaGFrame
import Derived.Test.YteoejlclddkcfaaGAppend
import Derived.ProofKit
import Derived.OpenShut
import Derived.ShutString
import Derived.ChangeOld
import Derived.JoinedCond
namespace Go.Proofs.Yteoejlclddkcfaa.checksumParts
open Go.ChangeShapes Go.WideShapes Go.ChangeAt Go.RowKit
open Go.ChangeMaps (open_string shut_string)

set_option maxRecDepth 100000 in
set_option maxHeartbeats 2000000 in
theorem walk (a : Option Addr) (xs : List Nat) (cap : Nat) (b : Option Addr) (ys : List Nat) (dap : Nat) (w : World) (hx : Bts w a xs) (hcap : a = none → cap = 0) (hl : xs.length ≤ 1048576) (hy : Bts w b ys) (hdap : b = none → dap = 0) (hm : ys.length ≤ 1048576) :
    Calls Try.prog 4 #[.slice a xs.length cap, .slice b ys.length dap] w fun e w' => e = .returned (.bool true) ∧ Below w.heap.size w w' := by
  have X0 := Lib.hid hx
  have Y0 := Lib.hid hy
  have HC := Lib.hid hcap
  have HD := Lib.hid hdap
  clear hx hy hcap hdap
  go_enter Try.func4, Try.ntmps4
  go_wp2_with fail
  refine (alive_any _).mono ?_
  rintro e w1 ⟨rfl, b1⟩
  by_cases hodd : xs.length % 2 = 1
  case' pos =>
    have ht : ((xs.length : Int) % 2 == 1) = true := by rw [beq_iff_eq]; omega
    go_wp2_with fail
    refine (copy_one a xs cap w1 (X0.out.below b1) (by omega) HC.out).mono ?_
    rintro e w2 ⟨ca, cc, rfl, O, b2⟩
    have q2 := b1.trans (b2.mono b1.size)
    have bn := (Below.refl _ w2).alloc (Nat.le_refl _) (.cells #[.int .u8 0] 5)
    have q3 := q2.alloc q2.size (.cells #[.int .u8 0] 5)
    have O2 := Lib.hid ((O.below bn).mono b1.size)
    have S2 := Lib.hid (bts_new w2 [0] 5 (by intro x hx; simp at hx; omega))
    clear O b1 b2 q2 bn
    go_wp2_with (at_builtin; refine wpList_append_bts rfl _ _ rfl w.heap.size O2.out S2.out (fun h => by cases h) rfl rfl (by simp; omega) q3.size ?_; intro za zc w3 Z bz; obtain ⟨zs, hz⟩ : ∃ zs, xs ++ [0] = zs := ⟨_, rfl⟩; rw [hz] at Z ⊢; have HZ := Lib.hid Z; have Hz := Lib.hid hz; clear Z hz O2 S2)
    have q := q3.trans bz
    have Z := Lib.hid HZ.out.bts
    have zcap := Lib.hid HZ.out.nilcap
    have zl : zs.length ≤ 1048577 := by rw [← Hz.out, List.length_append]; simp; omega
    have zev : zs.length % 2 = 0 := by rw [← Hz.out, List.length_append]; simp; omega
    clear q3 bz HZ Hz
  case' neg =>
    have ht : ((xs.length : Int) % 2 == 1) = false := by rw [beq_eq_false_iff_ne]; omega
    go_wp2_with fail
    have q := b1
    have Z := Lib.hid (X0.out.below b1)
    have zcap := HC
    have zl : xs.length ≤ 1048577 := by omega
    have zev : xs.length % 2 = 0 := by omega
    obtain ⟨w3, rfl⟩ : ∃ w3, w3 = w1 := ⟨_, rfl⟩
    obtain ⟨za, rfl⟩ : ∃ za, za = a := ⟨_, rfl⟩
    obtain ⟨zs, rfl⟩ : ∃ zs, zs = xs := ⟨_, rfl⟩
    obtain ⟨zc, rfl⟩ : ∃ zc, zc = cap := ⟨_, rfl⟩
  all_goals
    have S1 := Mt.sumO_append zs ys Z.out.1 Y0.out.1 zev
    have L1 := Mt.sumO_le zs Z.out.1
    have L2 := Mt.sumO_le ys Y0.out.1
    have HS1 := Lib.hid S1; clear S1
    refine (copy_one za zs zc w3 Z.out (by omega) zcap.out).mono ?_
    rintro e w4 ⟨oa, oc, rfl, O, b4⟩
    have q4 := q.trans (b4.mono q.size)
    have O4 := Lib.hid O
    have Y4 := Lib.hid (Y0.out.below q4)
    clear O
    go_wp2_with (at_builtin; refine wpList_append_bts rfl _ _ rfl w3.heap.size O4.out Y4.out HD.out rfl rfl (by omega) b4.size ?_; intro ta tc w5 T bt; obtain ⟨ts, ht⟩ : ∃ ts, zs ++ ys = ts := ⟨_, rfl⟩; rw [ht] at T ⊢; have HT := Lib.hid T; have Ht := Lib.hid ht; clear T ht O4 Y4)
    have q5 := q4.trans (bt.mono q.size)
    have Z5 := Lib.hid (Z.out.below (b4.trans bt))
    have Y5 := Lib.hid (Y0.out.below q5)
    have tl : ts.length ≤ 140737488355328 := by rw [← Ht.out, List.length_append]; omega
    have hs := HS1.out
    rw [Ht.out] at hs
    clear q q4 b4 bt HS1 Ht zev zcap
    have K1 := Lib.hid (sum_any ta ts tc w5 HT.out.bts tl)
    obtain ⟨R, hR⟩ : ∃ R, Mt.sumO ts = R := ⟨_, rfl⟩
    rw [hR] at K1 hs
    clear hR HT
    refine K1.out.mono ?_
    rintro e w6 ⟨rfl, b6⟩
    have Z6 := Lib.hid (Z5.out.below b6)
    have Y6 := Lib.hid (Y5.out.below b6)
    have q6 := q5.trans (b6.mono q5.size)
    clear K1 Z5 Y5 b6 q5
    have K2 := Lib.hid (sum_any za zs zc w6 Z6.out (by omega))
    have K3 := fun W h => sum_any b ys dap W h (by omega)
    generalize Mt.sumO zs = M at K2 hs L1
    generalize Mt.sumO ys = N at K3 hs L2
    have HK3 := Lib.hid K3
    have Hs := Lib.hid hs
    clear K3 hs
    go_wp2_with fail
    refine K2.out.mono ?_
    rintro e w7 ⟨rfl, b7⟩
    have Y7 := Lib.hid (Y6.out.below b7)
    have q7 := q6.trans (b7.mono q6.size)
    clear K2 Y6 b7 q6 Z6
    go_wp2_with fail
    refine (HK3.out _ Y7.out).mono ?_
    rintro e w8 ⟨rfl, b8⟩
    have q8 := q7.trans (b8.mono q7.size)
    clear HK3 Y7 b8 q7
    go_wp2_with fail
    refine (add_any M N L1 L2 _).mono ?_
    rintro e w9 ⟨rfl, b9⟩
    have q9 := q8.trans (b9.mono q8.size)
    rw [← Hs.out]
    clear Hs b9 q8
    go_wp2
    go_ret
    exact ⟨rfl, q9⟩

/-- A list of numbers holds as many values as it is long. -/
theorem bulk_lits {H : Type} (k : IntKind) (zs : List Int) : Rows.uptoBulkAll (lits (H := H) k zs) = zs.length := by
  induction zs with
  | nil => simp [lits, Rows.uptoBulkAll]
  | cons z zs ih =>
    have e : lits (H := H) k (z :: zs) = .lit (.int k z) :: lits k zs := rfl
    rw [e]
    simp only [Rows.uptoBulkAll, Rows.uptoBulk, ih, List.length_cons]
    omega

theorem own : ownKnob Try.prog.godebug = none := by kernel_rfl
theorem laidOut : laidOutB Try.prog = true := by kernel_rfl

set_option maxRecDepth 100000 in
theorem contract (H : Type) (enc : TypeId × Value → H) (W : World) (base : Nat) (args : Array Value) (ds gs : List (DataW H)) (before : List MemPlace)
    (hval0 : ∀ (j : Nat) t v, Try.f4.params[j]? = some t → args[j]? = some v → Value.okWide Try.prog W .any base t v)
    (hW : DataW.Whole enc Try.prog Try.f4.params.toList Rows.checksumPartsSpec.vars false W args.toList ds gs before) (hk : Rows.uptoSmall H (ds ++ gs) = true) :
    Calls Try.prog 4 args W fun e W' => ∃ v, e = .returned v ∧ Rows.checksumPartsSpec.post enc Try.prog Try.f4 false true false false W args v W' := by
  have hval : ∀ (j : Nat) t v, Try.f4.params[j]? = some t → args[j]? = some v → Value.okWide Try.prog W .any base t v := hval0
  have hW' := hW
  obtain ⟨p, q, hA0, hV, rfl, hfz, hnd⟩ := hW
  have hA : DataW.TrodAll enc Try.prog W 0 (fun _ => true) true Try.f4.params.toList args.toList ds p := hA0
  rw [Try.params4] at hA hval
  obtain ⟨v0, vs0, d0, ds0, p0, q0, hargs, rfl, rfl, h0, r0⟩ := trodAll_cons hA
  obtain ⟨v1, vs1, d1, ds1, p1, q1, rfl, rfl, rfl, h1, r1⟩ := trodAll_cons r0
  obtain ⟨rfl, rfl, rfl⟩ := trodAll_nil r1
  obtain rfl : args = #[v0, v1] := by cases args; simp_all
  obtain ⟨rfl, rfl⟩ := trodVars_none hV
  obtain ⟨a0, len0, cap0, rfl⟩ := okWide_slice Try.underlying22 (hval 0 22 v0 rfl rfl)
  have k0 := h0
  have lt0 : ∀ x ∈ p0, x.block < W.heap.size := by obtain ⟨m, hm⟩ := k0; exact DataW.trod_lt m _ _ _ hm
  obtain ⟨a1, len1, cap1, rfl⟩ := okWide_slice Try.underlying22 (hval 1 22 v1 rfl rfl)
  have k1 := h1
  have lt1 : ∀ x ∈ p1, x.block < W.heap.size := by obtain ⟨m, hm⟩ := k1; exact DataW.trod_lt m _ _ _ hm
  have hbulk := of_decide_eq_true hk
  simp only [List.append_nil, Rows.uptoBulkAll] at hbulk
  obtain ⟨xs0, hxl0, hbt0, hcap0, hre0⟩ : ∃ xs : List Nat, xs.length = len0 ∧ Bts W a0 xs ∧ (a0 = none → cap0 = 0) ∧ xs.length ≤ 1048576 := by
    obtain ⟨fuel, hf⟩ := h0
    rcases open_ints Try.underlying22 Try.underlying5 (by kernel_rfl) hf with ⟨hcs, _⟩ | ⟨x, l, c, zs, hcs, _, hl, hm, hz, hd, hcell, hwz⟩
    · simp [Value.cells] at hcs
      obtain ⟨rfl, rfl, rfl⟩ := hcs
      exact ⟨[], rfl, ⟨(fun x h => by cases h), .inl rfl⟩, fun _ => rfl, by simp⟩
    · simp [Value.cells] at hcs
      obtain ⟨rfl, rfl, rfl⟩ := hcs
      have hz' : zs.length = cap0 := by simpa using hz
      obtain ⟨xs, h1, h2⟩ := bts_of_ints hl hz' hcell hwz
      have hd' := (Prod.mk.inj hd).1
      rw [hd'] at hbulk
      simp only [Rows.uptoBulk, bulk_lits, List.length_take, List.length_drop] at hbulk
      refine ⟨xs, h1, h2, (fun h => by cases h), ?_⟩
      omega
  obtain ⟨xs1, hxl1, hbt1, hcap1, hre1⟩ : ∃ xs : List Nat, xs.length = len1 ∧ Bts W a1 xs ∧ (a1 = none → cap1 = 0) ∧ xs.length ≤ 1048576 := by
    obtain ⟨fuel, hf⟩ := h1
    rcases open_ints Try.underlying22 Try.underlying5 (by kernel_rfl) hf with ⟨hcs, _⟩ | ⟨x, l, c, zs, hcs, _, hl, hm, hz, hd, hcell, hwz⟩
    · simp [Value.cells] at hcs
      obtain ⟨rfl, rfl, rfl⟩ := hcs
      exact ⟨[], rfl, ⟨(fun x h => by cases h), .inl rfl⟩, fun _ => rfl, by simp⟩
    · simp [Value.cells] at hcs
      obtain ⟨rfl, rfl, rfl⟩ := hcs
      have hz' : zs.length = cap1 := by simpa using hz
      obtain ⟨xs, h1, h2⟩ := bts_of_ints hl hz' hcell hwz
      have hd' := (Prod.mk.inj hd).1
      rw [hd'] at hbulk
      simp only [Rows.uptoBulk, bulk_lits, List.length_take, List.length_drop] at hbulk
      refine ⟨xs, h1, h2, (fun h => by cases h), ?_⟩
      omega
  clear hA0
  subst hxl0
  subst hxl1
  refine (walk a0 xs0 cap0 a1 xs1 cap1 W hbt0 hcap0 hre0 hbt1 hcap1 hre1).mono fun e W' ⟨he, bel⟩ => ?_
  subst he
  exact ⟨_, rfl, _, _, _, [], _, [], hW', trodAll_mk1 (shut_bool Try.underlying4 _), (trodAll_cons_mk (Below.trod laidOut (by kernel_rfl) (of_decide_eq_true (by kernel_rfl)) k0 bel lt0) (trodAll_cons_mk (Below.trod laidOut (by kernel_rfl) (of_decide_eq_true (by kernel_rfl)) k1 bel lt1) trodAll_mk0)), rfl, bel.frame _, fun h => by cases h⟩

set_option maxRecDepth 100000 in
theorem lifted (os : Os) (started : os.Started) (H : Type) (enc : TypeId × Value → H) (F : Stop.Interp) :
    ReturnsInHanded {} Try.checked os 4 .any ((Rows.OpenSpec.upto Rows.checksumPartsSpec).pre6 enc Try.prog Try.f4 Rows.checksumPartsUptoRow.domain false) (((Rows.OpenSpec.upto Rows.checksumPartsSpec).at F).post enc Try.prog Try.f4 false true false false) := by
  refine returnsInHanded_of_cond (C := Try.checked) (s := Rows.OpenSpec.upto Rows.checksumPartsSpec) (k := Rows.uptoSmall) rfl own started (by kernel_rfl) Try.func4
    (OpenSpec.witness (enc := enc) (C := Try.checked) (s := Rows.OpenSpec.upto Rows.checksumPartsSpec) (k := Rows.uptoSmall) rfl false ⟨#[], #[.slice none 0 0, .slice none 0 0], []⟩ 8 (by kernel_rfl) (by kernel_rfl) (by kernel_rfl)
      (x := ([.nil, .nil], [], [])) (by kernel_rfl) rfl (by kernel_rfl)) ?_
  intro W base args ds gs before hval hW _ hk _
  exact contract H enc W base args ds gs before hval hW hk

theorem over : Rows.checksumPartsUptoRow.holds Try.pinned (Rows.OpenSpec.upto Rows.checksumPartsSpec) :=
  OpenClaim.holds_of_cond 4 Try.f4 rfl rfl rfl rfl rfl rfl rfl ⟨rfl, rfl, rfl, rfl, rfl⟩ rfl rfl rfl rfl rfl (by kernel_rfl) Try.func4 (by kernel_rfl)
    (of_decide_eq_true (by kernel_rfl)) (by unfold Func.isWrapper; first | (rw [if_pos (by decide +kernel)]; kernel_rfl) | (rw [if_neg (by decide +kernel)]; exact ⟨rfl, rfl⟩))
    (fun os started H enc _ F => lifted os started H enc F)

end Go.Proofs.Yteoejlclddkcfaa.checksumParts
namespace Go.Proofs.Yteoejlclddkcfaa
/-- The statement. -/
theorem checksumParts_holds : Rows.ChecksumPartsUptoSaid := checksumParts.over
#print axioms checksumParts_holds
end Go.Proofs.Yteoejlclddkcfaa
