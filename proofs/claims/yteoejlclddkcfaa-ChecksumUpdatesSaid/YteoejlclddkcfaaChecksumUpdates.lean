/- For every list of octets, every place and every word: where two octets change, the checksum brought up to date is right, without all the others (or all are 0). No condition. -/
import Derived.Test.YteoejlclddkcfaaRows
import Derived.Test.YteoejlclddkcfaaSumAlive
import Derived.Test.YteoejlclddkcfaaGFrame
import Derived.Test.YteoejlclddkcfaaGAppend
import Derived.Deep.QuietTactic
import Derived.BigQuiet
import Derived.WalkSmall
import Derived.ProofKit
import Derived.OpenShut
import Derived.ShutString
import Derived.ChangeOld
import Derived.SizedLaws
namespace Go.Proofs.Yteoejlclddkcfaa.checksumUpdates
open Go.ChangeShapes Go.WideShapes Go.ChangeAt Go.RowKit
open Go.ChangeMaps (open_string shut_string)

/-- If all behind the checksum is 0, the loop has found it so. -/
def AllZero (ds : List Nat) (t : Bool) : Prop := (∀ i, ds.getD (i + 2) 0 = 0) → t = true

set_option maxRecDepth 100000 in
set_option maxHeartbeats 4000000 in
theorem walk (a : Option Addr) (xs : List Nat) (cap : Nat) (at0 : Int) (f : Nat) (w : World) (hx : Bts w a xs) (hcap : a = none → cap = 0) (hl : xs.length ≤ 140737488351232) (_ : -9223372036854775808 ≤ at0) (_ : at0 ≤ 9223372036854775807) (hf : f < 65536) :
    Calls Try.prog 6 #[.slice a xs.length cap, .int .i64 at0, .int .u16 f] w fun e w' => e = .returned (.bool true) ∧ Below w.heap.size w w' := by
  have X0 := Lib.hid hx
  have HC := Lib.hid hcap
  clear hx hcap
  go_enter Try.func6, Try.ntmps6
  go_wp2_with fail
  refine (alive_any _).mono ?_
  rintro e w1 ⟨rfl, b1⟩
  have q2 := b1.alloc b1.size (.cells #[.int .u8 0, .int .u8 0, .int .u8 7, .int .u8 7] 5)
  have O2 : Hid (OwnSl w.heap.size (some ⟨w1.heap.size, 0, none⟩) [0, 0, 7, 7] 4 (w1.alloc (.cells #[.int .u8 0, .int .u8 0, .int .u8 7, .int .u8 7] 5))) := Lib.hid ((own_new w1 [0, 0, 7, 7] (by decide) (by unfold maxLen; simp)).mono b1.size)
  have X2 := Lib.hid (X0.out.below q2)
  clear b1
  by_cases hodd : xs.length % 2 = 1
  case' pos =>
    go_wp2_with (first | (at_builtin; refine wpList_append_bts rfl _ _ rfl w.heap.size O2.out X2.out HC.out rfl rfl (by simp; omega) q2.size ?_; intro ca cc w3 Z bz; obtain ⟨cs, hz⟩ : ∃ cs, [0, 0, 7, 7] ++ xs = cs := ⟨_, rfl⟩; rw [hz] at Z ⊢; have HZ := Lib.hid Z; have Hz := Lib.hid hz; have ht : ((cs.length : Int) % 2 == 1) = true := by { rw [beq_iff_eq, ← hz, List.length_append]; simp; omega }; clear Z hz O2 X2; have q3 := (q2.trans bz).alloc (q2.trans bz).size (.cells #[.int .u8 0] 5); have O3 := Lib.hid (HZ.out.alloc (.cells #[.int .u8 0] 5)); have S3 := Lib.hid (bts_new w3 [0] 5 (by simp))) | (at_builtin; refine wpList_append_bts rfl _ _ rfl w.heap.size O3.out S3.out (fun h => by cases h) rfl rfl (by rw [← Hz.out, List.length_append]; simp; omega) q3.size ?_; intro za zc w4 Z bz4; obtain ⟨zs, hz⟩ : ∃ zs, cs ++ [0] = zs := ⟨_, rfl⟩; rw [hz] at Z ⊢; have HW := Lib.hid Z; have Hw := Lib.hid hz; clear Z hz O3 S3))
    have q4 := q3.trans bz4
    have hr : Hid (∃ r h, zs = 0 :: 0 :: r ∧ r.length = 2 * h ∧ 1 ≤ h ∧ h ≤ 70368744177663) := Lib.hid ⟨7 :: 7 :: (xs ++ [0]), (xs.length + 1) / 2 + 1, by rw [← Hw.out, ← Hz.out]; rfl, by simp; omega, by omega, by omega⟩
    clear Hw Hz HZ ht q3 q2 bz bz4
  case' neg =>
    go_wp2_with (at_builtin; refine wpList_append_bts rfl _ _ rfl w.heap.size O2.out X2.out HC.out rfl rfl (by simp; omega) q2.size ?_; intro za zc w4 Z bz; obtain ⟨zs, hz⟩ : ∃ zs, [0, 0, 7, 7] ++ xs = zs := ⟨_, rfl⟩; rw [hz] at Z ⊢; have HW := Lib.hid Z; have Hz := Lib.hid hz; have ht : ((zs.length : Int) % 2 == 1) = false := by { rw [beq_eq_false_iff_ne, ← hz, List.length_append]; simp; omega }; clear Z hz O2 X2)
    have q4 := q2.trans bz
    have hr : Hid (∃ r h, zs = 0 :: 0 :: r ∧ r.length = 2 * h ∧ 1 ≤ h ∧ h ≤ 70368744177663) := Lib.hid ⟨7 :: 7 :: xs, xs.length / 2 + 1, by rw [← Hz.out]; rfl, by simp; omega, by omega, by omega⟩
    clear Hz ht q2 bz
  all_goals
    clear X0 HC hodd hl
    obtain ⟨r, h, hzr, hrl, h1, hh⟩ := hr.out
    clear hr
    obtain ⟨n, hn⟩ : ∃ n, zs.length = n := ⟨_, rfl⟩
    have hnh : n = 2 * h + 2 := by rw [← hn, hzr]; simp; omega
    have hxr : ∀ x ∈ r, x < 256 := fun x hx => HW.out.1 x (by rw [hzr]; simp [hx])
    obtain ⟨g, rfl, hgB, hg4⟩ := HW.out.isSome (by rw [hn]; omega)
    have hK := check_any _ zs zc w4 HW.out.bts (by omega)
    rw [hn] at hK ⊢
    obtain ⟨K, hKe⟩ : ∃ K, 65535 - Mt.sumO zs = K := ⟨_, rfl⟩
    rw [hKe] at hK
    have hKl : K ≤ 65535 := by omega
    have HKe := Lib.hid hKe
    have HKK := Lib.hid hK
    clear hKe hK
    have hd0 : (0 : Int) < h := by omega
    have dv : (n : Int) / 2 - 1 = (h : Int) := by omega
    have dv0 : ((h : Int) == 0) = false := by rw [beq_eq_false_iff_ne]; omega
    have t1 := Int.tmod_lt_of_pos at0 hd0
    have t2 : -(h : Int) < at0.tmod h := Int.lt_tmod_of_pos at0 hd0
    obtain ⟨j, hj⟩ : ∃ j : Nat, (at0.tmod h + (n : Int) / 2 - 1) % h = (j : Int) := ⟨((at0.tmod h + (n : Int) / 2 - 1) % h).toNat, by have := Int.emod_nonneg (at0.tmod h + (n : Int) / 2 - 1) (by omega : (h : Int) ≠ 0); omega⟩
    have hjn : j < h := by have := Int.emod_lt_of_pos (at0.tmod h + (n : Int) / 2 - 1) hd0; omega
    have hn2 : 4 ≤ n := by omega
    have hn3 : n ≤ 140737488355328 := by omega
    have hj2 : 2 + 2 * (j : Int) + 1 < n := by omega
    have Hnh := Lib.hid hnh
    have Hn := Lib.hid hn
    clear hnh hn
    refine HKK.out.mono ?_
    rintro e w5 ⟨rfl, b5⟩
    have q5 := q4.trans (b5.mono q4.size)
    have H5 := Lib.hid (HW.out.below b5)
    have hg5 : g < w5.heap.size := by have := b5.size; omega
    clear HW HKK q4 b5 hg4
    obtain ⟨p, hp⟩ : ∃ p : Nat, 2 + 2 * j = p := ⟨_, rfl⟩
    have hpi : 2 + 2 * (j : Int) = (p : Int) := by omega
    have hpn : p + 1 < n := by omega
    have hc0 := H5.out.cellAt p (by rw [Hn.out]; omega)
    have hc1 := H5.out.cellAt (p + 1) (by rw [Hn.out]; omega)
    have hf0 := H5.out.frozenAt p
    have hf1 := H5.out.frozenAt (p + 1)
    have o0 := Mt.getD_lt zs H5.out.1 p
    have o1 := Mt.getD_lt zs H5.out.1 (p + 1)
    have hwd : Mt.wd r j = zs.getD p 0 * 256 + zs.getD (p + 1) 0 := by
      rw [hzr, ← hp, show 2 + 2 * j = 2 * j + 1 + 1 by omega]; rfl
    generalize zs.getD p 0 = x0 at hc0 o0 hwd
    generalize zs.getD (p + 1) 0 = x1 at hc1 o1 hwd
    have hor := or_low16 x0 x1 o0 o1
    have hwl := Mt.wd_lt r hxr j
    rw [← hwd] at hor
    generalize hW0 : Mt.wd r j = W0 at hor hwl
    have HW0 := Lib.hid hW0
    have Hp := Lib.hid hp
    have Hzr := Lib.hid hzr
    have Hxr := Lib.hid hxr
    have Hrl := Lib.hid hrl
    clear hwd hW0 hp hzr hxr hrl
    go_wp2_with fail
    have a1 : (p : Int) < n := by omega
    have a2 : (p : Int) + 1 < n := by omega
    have a3 : IntKind.i64.wrap ((p : Int) + 1) = (p : Int) + 1 := IntWalk.i64_in _ (by omega)
    have a4 : (0 : Int) ≤ (p : Int) + 1 := by omega
    have a5 : ((p : Int) + 1).toNat = p + 1 := by omega
    clear hj dv t1 t2 hj2 hpi hf0 hf1
    go_quiet (fail)
    clear hc0 hc1 o0 o1
    have bq : Below w5.heap.size w5 (w5.drewN nq) := below_drewN (Below.refl _ _) nq
    have q6 := q5.trans (bq.mono q5.size)
    have H6 := Lib.hid (H5.out.below bq)
    generalize w5.drewN nq = W6 at bq q6 H6 ⊢
    have hg6 : g < W6.heap.size := by have := bq.size; omega
    have hc0 := H6.out.cellAt p (by rw [Hn.out]; omega)
    have hc1 := H6.out.cellAt (p + 1) (by rw [Hn.out]; omega)
    have hf0 := H6.out.frozenAt p
    have hf1 := H6.out.frozenAt (p + 1)
    generalize zs.getD p 0 = y0 at hc0
    generalize zs.getD (p + 1) 0 = y1 at hc1
    have e1 : IntKind.u8.wrap (f : Int) = ((f % 256 : Nat) : Int) := by rw [IntKind.wrap_u8']; omega
    have e2 : (f : Int) / 256 = ((f / 256 : Nat) : Int) := rfl
    have k1 : f / 256 < 256 := by omega
    have k2 : f % 256 < 256 := by omega
    have T := (H6.out.store p (f / 256) k1).store (p + 1) (f % 256) k2
    have q7 := (q6.setCell (p := ⟨g, p, none⟩) hgB (.int .u8 (f / 256 : Nat))).setCell (p := ⟨g, p + 1, none⟩) hgB (.int .u8 (f % 256 : Nat))
    obtain ⟨ys, hys⟩ : ∃ ys, (r.set (2 * j) (f / 256)).set (2 * j + 1) (f % 256) = ys := ⟨_, rfl⟩
    have hset : (zs.set p (f / 256)).set (p + 1) (f % 256) = 0 :: 0 :: ys := by
      rw [← hys, Hzr.out, ← Hp.out, show 2 + 2 * j = 2 * j + 1 + 1 by omega]; rfl
    rw [hset] at T
    have hyl : ys.length = 2 * h := by rw [← hys, List.length_set, List.length_set, Hrl.out]
    have hup := fun N hN => Mt.sum_update r Hxr.out j f K N (by rw [Hrl.out]; omega) hf (by rw [← HKe.out, Hzr.out]) hN ys hys.symm
    have hU := update_any K W0 f hKl (by omega) (by omega)
    rw [HW0.out] at hup
    have hNle : ∀ N, N = 65535 - Mt.addw (Mt.addw (65535 - K) (65535 - W0)) f → N ≤ 65535 := by intro N h; omega
    obtain ⟨N, hN⟩ : ∃ N, 65535 - Mt.addw (Mt.addw (65535 - K) (65535 - W0)) f = N := ⟨_, rfl⟩
    have hN1 := hNle N hN.symm
    have hup2 := Lib.hid (hup N hN.symm)
    rw [hN] at hU
    have HU := Lib.hid (hU ((W6.setCell ⟨g, p, none⟩ (.int .u8 (f / 256 : Nat))).setCell ⟨g, p + 1, none⟩ (.int .u8 (f % 256 : Nat))))
    have HT := Lib.hid T
    have Hyl := Lib.hid hyl
    generalize f / 256 = fh at HT q7 e2 k1 HU
    generalize f % 256 = fl at HT q7 e1 k2 HU
    clear T hyl hup hU hNle hN hset hys bq q6 H6 H5 HW0 HKe Hzr Hxr Hrl Hp hor q5 hg5
    go_wp2_with fail
    refine HU.out.mono ?_
    rintro e w8 ⟨rfl, b8⟩
    have H8 := Lib.hid (HT.out.below b8)
    have q8 := q7.trans (b8.mono q7.size)
    have hg8 : g < w8.heap.size := by have := (H8.out.row.2.lt g rfl).2; omega
    have hlen : (0 :: 0 :: ys).length = n := by have := Hnh.out; have := Hyl.out; simp; omega
    have Hlen := Lib.hid hlen
    clear HT HU b8 hlen q7 hc0 hc1 hf0 hf1 e1 e2 k1 k2 hg6 a1 a2 a3 a4 a5 hpn
    have hc0 := H8.out.cellAt 0 (by simp)
    have hc1 := H8.out.cellAt 1 (by simp)
    have hf0 := H8.out.frozenAt 0
    have hf1 := H8.out.frozenAt 1
    generalize (0 :: 0 :: ys).getD 0 0 = z0 at hc0
    generalize (0 :: 0 :: ys).getD 1 0 = z1 at hc1
    have e1 : IntKind.u8.wrap (N : Int) = ((N % 256 : Nat) : Int) := by rw [IntKind.wrap_u8']; omega
    have e2 : (N : Int) / 256 = ((N / 256 : Nat) : Int) := rfl
    have k1 : N / 256 < 256 := by omega
    have k2 : N % 256 < 256 := by omega
    have T : OwnSl w.heap.size (some ⟨g, 0, none⟩) (N / 256 :: N % 256 :: ys) zc ((w8.setCell ⟨g, 0, none⟩ (.int .u8 (N / 256 : Nat))).setCell ⟨g, 1, none⟩ (.int .u8 (N % 256 : Nat))) := (H8.out.store 0 (N / 256) k1).store 1 (N % 256) k2
    have q9 := (q8.setCell (p := ⟨g, 0, none⟩) hgB (.int .u8 (N / 256 : Nat))).setCell (p := ⟨g, 1, none⟩) hgB (.int .u8 (N % 256 : Nat))
    have hlen : (N / 256 :: N % 256 :: ys).length = n := by have := Hlen.out; simpa using this
    obtain ⟨ds, hds⟩ : ∃ ds, N / 256 :: N % 256 :: ys = ds := ⟨_, rfl⟩
    have hall : (∀ i, ys.getD i 0 = 0) → ∀ i, ds.getD (i + 2) 0 = 0 := by intro h i; rw [← hds]; simpa using h i
    have hup := hup2.out
    rw [hds] at T hlen hup
    have HT := Lib.hid T
    have Hds := Lib.hid hlen
    have HUp := Lib.hid (hup.imp id hall)
    generalize N / 256 = nh at HT q9 e2 k1
    generalize N % 256 = nl at HT q9 e1 k2
    clear T hlen hds hall hup hup2 Hlen H8 Hyl q8
    go_wp2_with fail
    generalize (w8.setCell ⟨g, 0, none⟩ (.int .u8 (nh : Nat))).setCell ⟨g, 1, none⟩ (.int .u8 (nl : Nat)) = W at HT q9 ⊢
    clear hc0 hc1 hf0 hf1 e1 e2 k1 k2 hg8
    go_loop [11, 12] (fun z i => ∃ (k : Nat) (t : Bool), 2 ≤ k ∧ k ≤ n ∧ i = .int .i64 k ∧ z = .bool t ∧ AllZero ds t) (fun _ i => n - (intOf i).toNat)
    case atStart => exact ⟨2, true, by omega, by omega, rfl, rfl, fun _ => rfl⟩
    case round =>
      obtain ⟨k, t, hk2, hk, rfl, rfl, hz⟩ := hrel
      by_cases hlt : k < n
      · have hc := HT.out.cellAt k (by rw [Hds.out]; omega)
        have hz2 : ds.getD k 0 ≠ 0 → ∀ t, AllZero ds t := fun hne t hall => by
          have := hall (k - 2)
          rw [show k - 2 + 2 = k by omega] at this
          exact absurd this hne
        generalize ds.getD k 0 = x at hc hz2
        have Hz := Lib.hid hz
        have Hz2 := Lib.hid hz2
        clear hz hz2
        cases t with
        | false =>
          go_wp2
          go_round
          case rel => exact ⟨k + 1, false, by omega, by omega, by go_num, rfl, Hz.out⟩
          case measure => simp [intOf]; omega
        | true =>
          by_cases hx0 : x = 0
          · have hxb : ((x : Int) == 0) = true := by rw [beq_iff_eq]; omega
            go_wp2
            go_round
            case rel => exact ⟨k + 1, true, by omega, by omega, by go_num, rfl, fun _ => rfl⟩
            case measure => simp [intOf]; omega
          · have hxb : ((x : Int) == 0) = false := by rw [beq_eq_false_iff_ne]; omega
            go_wp2
            go_round
            case rel => exact ⟨k + 1, false, by omega, by omega, by go_num, rfl, Hz2.out hx0 _⟩
            case measure => simp [intOf]; omega
      · obtain rfl : k = n := by omega
        have hr := right_any (some ⟨g, 0, none⟩) ds zc W HT.out.bts (by rw [Hds.out]; omega)
        rw [Hds.out] at hr
        have hor : decide (Mt.sumO ds = 65535) = true ∨ t = true := HUp.out.imp (fun h => decide_eq_true h) hz
        generalize decide (Mt.sumO ds = 65535) = rt at hr hor
        have HR := Lib.hid hr
        clear hr hz HT HUp
        go_wp2_with fail
        refine HR.out.mono ?_
        rintro e W9 ⟨rfl, b9⟩
        have q10 := q9.trans (b9.mono q9.size)
        clear HR
        rcases hor with rfl | rfl
        · go_wp2
          go_ret
          exact ⟨rfl, q10⟩
        · cases rt
          all_goals
            go_wp2
            go_ret
            exact ⟨rfl, q10⟩

theorem own : ownKnob Try.prog.godebug = none := by kernel_rfl
theorem laidOut : laidOutB Try.prog = true := by kernel_rfl

set_option maxRecDepth 100000 in
theorem lifted (os : Os) (started : os.Started) (H : Type) (enc : TypeId × Value → H) :
    ReturnsInHanded {} Try.checked os 6 .any (Rows.checksumUpdatesSpec.pre6 enc Try.prog Try.f6 Rows.checksumUpdatesRow.domain false) (Rows.checksumUpdatesSpec.post enc Try.prog Try.f6 false true false false) := by
  refine returnsInHanded_of_change_sized (C := Try.checked) own started (by kernel_rfl) Try.func6
    (ChangeSpec.witness6 (enc := enc) (C := Try.checked) false ⟨#[], #[.slice none 0 0, .int .i64 0, .int .u16 0], []⟩ 8 (by kernel_rfl) (by kernel_rfl) (by kernel_rfl) (by kernel_rfl)) ?_
  intro W base args ds gs before hval0 hW hcnd hsz0 _
  have hval : ∀ (j : Nat) t v, Try.f6.params[j]? = some t → args[j]? = some v → Value.okWide Try.prog W .any base t v := hval0
  have hsz : (DataW.weightsEach Try.prog (Try.f6.params.toList ++ Rows.checksumUpdatesSpec.plain.varTypes Try.prog) (ds ++ gs)).all (· ≤ reachBytes) = true := hsz0
  have hW' := hW
  obtain ⟨p, q, hA0, hV, rfl, hfz, hnd⟩ := hW
  have hA : DataW.TrodAll enc Try.prog W 0 (fun _ => true) true Try.f6.params.toList args.toList ds p := hA0
  rw [Try.params6] at hA hval hsz
  obtain ⟨v0, vs0, d0, ds0, p0, q0, hargs, rfl, rfl, h0, r0⟩ := trodAll_cons hA
  obtain ⟨v1, vs1, d1, ds1, p1, q1, rfl, rfl, rfl, h1, r1⟩ := trodAll_cons r0
  obtain ⟨v2, vs2, d2, ds2, p2, q2, rfl, rfl, rfl, h2, r2⟩ := trodAll_cons r1
  obtain ⟨rfl, rfl, rfl⟩ := trodAll_nil r2
  obtain rfl : args = #[v0, v1, v2] := by cases args; simp_all
  obtain ⟨rfl, rfl⟩ := trodVars_none hV
  obtain ⟨a0, len0, cap0, rfl⟩ := okWide_slice Try.underlying22 (hval 0 22 v0 rfl rfl)
  have k0 := h0
  have lt0 : ∀ x ∈ p0, x.block < W.heap.size := by obtain ⟨m, hm⟩ := k0; exact DataW.trod_lt m _ _ _ hm
  obtain ⟨a1, rfl, rfl, rfl, w1⟩ := open_int Try.underlying3 (hval 1 3 v1 rfl rfl) h1
  obtain ⟨a2, rfl, rfl, rfl, w2⟩ := open_int Try.underlying23 (hval 2 23 v2 rfl rfl) h2
  obtain ⟨xs0, hxl0, hbt0, hcap0, hre0⟩ : ∃ xs : List Nat, xs.length = len0 ∧ Bts W a0 xs ∧ (a0 = none → cap0 = 0) ∧ xs.length ≤ 140737488351232 := by
    obtain ⟨fuel, hf⟩ := h0
    rcases open_ints Try.underlying22 Try.underlying5 (by kernel_rfl) hf with ⟨hcs, _⟩ | ⟨x, l, c, zs, hcs, _, hl, hm, hz, hd, hcell, hwz⟩
    · simp [Value.cells] at hcs
      obtain ⟨rfl, rfl, rfl⟩ := hcs
      exact ⟨[], rfl, ⟨(fun x h => by cases h), .inl rfl⟩, fun _ => rfl, by simp⟩
    · simp [Value.cells] at hcs
      obtain ⟨rfl, rfl, rfl⟩ := hcs
      have hz' : zs.length = cap0 := by simpa using hz
      obtain ⟨xs, h1, h2⟩ := bts_of_ints hl hz' hcell hwz
      have hd' := (Prod.mk.inj hd).1
      have hw := sized_slice hsz (j := 0) (t := 22) (e := 5) rfl (by rw [hd']; rfl) Try.underlying22
      rw [bytes5] at hw
      simp only [lits, List.length_map, List.length_take, List.length_drop, reachBytes] at hw
      exact ⟨xs, h1, h2, (fun h => by cases h), by omega⟩
  clear hA0 hval0 hsz hsz0
  subst hxl0
  obtain ⟨lo1, hi1⟩ := bounds_i64 w1
  obtain ⟨n2, rfl, hn2⟩ := nat_of_u16 w2
  refine (walk a0 xs0 cap0 a1 n2 W hbt0 hcap0 hre0 lo1 hi1 hn2).mono fun e W' ⟨he, bel⟩ => ?_
  subst he
  exact ⟨_, rfl, _, _, _, [], _, [], hW', trodAll_mk1 (shut_bool Try.underlying4 _), (trodAll_cons_mk (Below.trod laidOut (by kernel_rfl) (of_decide_eq_true (by kernel_rfl)) k0 bel lt0) (trodAll_cons_mk (shut_int Try.underlying3 w1) (trodAll_cons_mk (shut_int Try.underlying23 w2) trodAll_mk0))), rfl, bel.frame _, fun h => by cases h⟩

theorem over : Rows.checksumUpdatesRow.holds Try.pinned (OpenSpec.ofChange Rows.checksumUpdatesSpec) :=
  OpenClaim.holds_of_wide 6 Try.f6 rfl rfl rfl rfl rfl rfl rfl ⟨rfl, rfl, rfl, rfl, rfl⟩ rfl rfl rfl rfl rfl (by kernel_rfl) Try.func6 (by kernel_rfl)
    (of_decide_eq_true (by kernel_rfl)) (by unfold Func.isWrapper; first | (rw [if_pos (by decide +kernel)]; kernel_rfl) | (rw [if_neg (by decide +kernel)]; exact ⟨rfl, rfl⟩))
    (fun os started H enc _ => lifted os started H enc)

end Go.Proofs.Yteoejlclddkcfaa.checksumUpdates
namespace Go.Proofs.Yteoejlclddkcfaa
/-- The statement. -/
theorem checksumUpdates_holds : Rows.ChecksumUpdatesSaid := checksumUpdates.over
#print axioms checksumUpdates_holds
end Go.Proofs.Yteoejlclddkcfaa
