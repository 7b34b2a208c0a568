/- For every number, size and list of octets, what Put, Decimal and Hex write is read back by Get, ParseInt and Unhex. No condition. -/
import Derived.Test.YtfaokmmkgodfiaaRows
import Derived.Test.YtfaokmmkgodfiaaBackMath
import Derived.Test.YtfaokmmkgodfiaaFrame
import Derived.ProofKit
import Derived.OpenShut
import Derived.ShutString
import Derived.ChangeOld
import Derived.SizedLaws
namespace Go.Proofs.Ytfaokmmkgodfiaa.octetsBack
open Go.ChangeShapes Go.WideShapes Go.ChangeAt Go.RowKit
open Go.ChangeMaps (open_string shut_string)

theorem own : ownKnob Try.prog.godebug = none := by kernel_rfl
theorem laidOut : laidOutB Try.prog = true := by kernel_rfl

theorem parse_dec (m : Int) (h1 : -9223372036854775808 ≤ m) (h2 : m ≤ 9223372036854775807) (w : World) :
    Calls Try.prog 11 #[.string (strO (Mt.dec m))] w fun e w' => e = .returned (.tuple #[.int .i64 m, .int .i64 0]) ∧ Below w.heap.size w w' := by
  have hl : (Mt.dec m).length ≤ 9223372036854775807 := by
    unfold Mt.dec Mt.sgn Mt.decN
    rw [List.length_append, Mt.digs_length]
    have : Mt.dwidF 19 m.natAbs ≤ 64 := Mt.wid_le (b := 10) (n := m.natAbs) (by omega) (by omega) (Mt.dwidF_is 19 m.natAbs (by omega)).2.2
    split <;> simp <;> omega
  refine (parse_any _ w (by rw [strO_size]; exact hl)).mono ?_
  rintro e w' ⟨he, hb⟩
  rw [parsed_dec m h1 h2, if_pos rfl] at he
  exact ⟨he, hb⟩

theorem unhex_of_hex (xs : List Nat) (hx : ∀ x ∈ xs, x < 256) (hl : xs.length ≤ 140737488351232) (w : World) :
    Calls Try.prog 13 #[.string (strO (hexO xs))] w fun e w' => ∃ a cap p, e = .returned (.tuple #[.slice a xs.length cap, .int .i64 0, .int .i64 p]) ∧ OwnSl w.heap.size a xs cap w' ∧ Below w.heap.size w w' := by
  obtain ⟨h1, h2⟩ := unhex_hex xs hx
  refine (unhex_one (strO (hexO xs)) (by rw [strO_size, hexO_length]; omega) w).mono ?_
  rintro e w' ⟨a, cap, rfl, ho, hb⟩
  rw [h1, h2] at *
  exact ⟨a, cap, _, rfl, ho, hb⟩

set_option maxHeartbeats 2000000 in
theorem walk (n : Nat) (size m : Int) (a : Option Addr) (xs : List Nat) (cap : Nat) (w : World) (hn : n < 18446744073709551616) (hs0 : -9223372036854775808 ≤ size) (hs1 : size ≤ 9223372036854775807) (hm0 : -9223372036854775808 ≤ m) (hm1 : m ≤ 9223372036854775807)
    (hx : Bts w a xs) (hl : xs.length ≤ 140737488351232) :
    Calls Try.prog 4 #[.int .u64 n, .int .i64 size, .int .i64 m, .slice a xs.length cap] w fun e w' => e = .returned (.bool true) ∧ Below w.heap.size w w' := by
  have Hx := Lib.hid hx; clear hx
  go_enter Try.func4, Try.ntmps4
  go_wp2_with fail
  refine (alive_any _).mono ?_
  rintro e w1 ⟨rfl, b1⟩
  have Hx1 := Lib.hid (Hx.out.below b1)
  go_wp2_with fail
  refine (decimal_any m hm0 hm1 _).mono ?_
  rintro e w2 ⟨rfl, b2⟩
  have Hx2 := Lib.hid (Hx1.out.below b2)
  have q2 := b1.trans (b2.mono b1.size)
  clear Hx1 b1 b2
  go_wp2_with fail
  refine (parse_dec m hm0 hm1 _).mono ?_
  rintro e w3 ⟨rfl, b3⟩
  have Hx3 := Lib.hid (Hx2.out.below b3)
  have q3 := q2.trans (b3.mono q2.size)
  clear Hx2 b3 q2
  go_wp2_with fail
  have hhex := Lib.hid (hex_any a xs cap w3 Hx3.out hl)
  refine hhex.out.mono ?_
  rintro e w4 ⟨rfl, b4⟩
  have Hx4 := Lib.hid (Hx3.out.below b4)
  have q4 := q3.trans (b4.mono q3.size)
  clear Hx3 b4 q3 hhex
  go_wp2_with fail
  have hun := Lib.hid (unhex_of_hex xs Hx4.out.1 hl w4)
  refine hun.out.mono ?_
  rintro e w5 ⟨da, dc, p, rfl, D, b5⟩
  have Hx5 := Lib.hid (Hx4.out.below b5)
  have HD := Lib.hid D.bts
  have q5 := q4.trans (b5.mono q4.size)
  clear Hx4 b5 q4 hun D
  have mm : (m != m) = false := by simp
  have hsame := Lib.hid (same_one da a xs xs dc cap w5 HD.out Hx5.out (by omega) (by omega) rfl)
  go_wp2_with (first | (go_at_call 16; refine (num_any _ _).mono ?_; rintro e w' ⟨rfl, rfl⟩) | (go_at_call 15; refine hsame.out.mono ?_; rintro e w6 ⟨rfl, b6⟩) | fail)
  have q6 := q5.trans (b6.mono q5.size)
  clear hsame HD Hx5 b6 q5 mm Hx
  by_cases hf : fits n size
  · obtain ⟨k, rfl, k1, k2, k3⟩ := hf
    have hput : Calls Try.prog 7 #[.int .u64 n, .int .i64 k] w6 fun e w' => ∃ g cap, e = .returned (.tuple #[.slice (some ⟨g, 0, none⟩) (Mt.octs n k).length cap, .int .i64 0]) ∧ Bts w' (some ⟨g, 0, none⟩) (Mt.octs n k) ∧ Below w6.heap.size w6 w' := by
      refine (put_any n k hn hs0 hs1 w6).mono ?_
      rintro e w' (⟨k', hk', _, _, _, g, cap, hg, rfl, hrow, hb⟩ | ⟨hno, _⟩)
      · obtain rfl : k = k' := by omega
        have e3 : (Mt.octs n k).length = k := Mt.octs_length n k
        refine ⟨g, cap, by rw [e3], row_bts (B := w6.heap.size) (cap := cap) (by rw [e3]; exact hrow) (octs_lt n k), hb⟩
      · exact absurd ⟨k, rfl, k1, k2, k3⟩ hno
    have hlen : (Mt.octs n k).length = k := Mt.octs_length n k
    have hnum : Mt.numOf (Mt.octs n k) = n := num_octs k n k3
    obtain ⟨L, hL⟩ : ∃ L, Mt.octs n k = L := ⟨_, rfl⟩
    rw [hL] at hput hlen hnum
    have hget : ∀ (a : Option Addr) (cap : Nat) (W : World), Bts W a L → Calls Try.prog 9 #[.slice a L.length cap] W fun e w' => e = .returned (.tuple #[.int .u64 n, .int .i64 0]) ∧ W = w' := by
      intro a cap W hb
      refine (get_any a L cap W hb (by omega)).mono ?_
      rintro e w' ⟨rfl, rfl⟩
      rw [if_pos ⟨by omega, by omega⟩, hnum]
      exact ⟨rfl, rfl⟩
    have Hput := Lib.hid hput
    have Hget := Lib.hid hget
    have Hlen := Lib.hid hlen
    have k4 : L.length ≤ 8 := by omega
    clear hput hget hlen hnum hL k3
    refine Hput.out.mono ?_
    rintro e w7 ⟨g, gc, rfl, G, b7⟩
    have HG := Lib.hid G
    have q7 := q6.trans (b7.mono q6.size)
    clear G b7 q6 Hput
    have Hg := Lib.hid (Hget.out (some ⟨g, 0, none⟩) gc w7 HG.out)
    have nn : ((n : Int) == (n : Int)) = true := by simp
    have kk : ((L.length : Int) == (k : Int)) = true := by rw [Hlen.out]; simp
    go_wp2_with (first | (go_at_call 16; refine (num_any _ _).mono ?_; rintro e w' ⟨rfl, rfl⟩) | (go_at_call 9; refine Hg.out.mono ?_; rintro e w' ⟨rfl, rfl⟩) | fail)
    go_ret
    exact ⟨rfl, q7⟩
  · have hput : Calls Try.prog 7 #[.int .u64 n, .int .i64 size] w6 fun e w' => e = .returned (.tuple #[.slice none 0 0, .int .i64 4]) ∧ w6 = w' := by
      refine (put_any n size hn hs0 hs1 w6).mono ?_
      rintro e w' (⟨k, rfl, h1, h2, h3, _⟩ | ⟨hno, rfl, rfl⟩)
      · exact absurd ⟨k, rfl, h1, h2, h3⟩ hf
      · exact ⟨rfl, rfl⟩
    have Hput := Lib.hid hput
    clear hput hf
    refine Hput.out.mono ?_
    rintro e w7 ⟨rfl, rfl⟩
    go_wp2_with (first | (go_at_call 16; refine (num_any _ _).mono ?_; rintro e w' ⟨rfl, rfl⟩) | fail)
    go_ret
    exact ⟨rfl, q6⟩
set_option maxRecDepth 100000 in
theorem lifted (os : Os) (started : os.Started) (H : Type) (enc : TypeId × Value → H) :
    ReturnsInHanded {} Try.checked os 4 .any (Rows.octetsBackSpec.pre6 enc Try.prog Try.f4 Rows.octetsBackRow.domain false) (Rows.octetsBackSpec.post enc Try.prog Try.f4 false true false false) := by
  refine returnsInHanded_of_change_sized (C := Try.checked) own started (by kernel_rfl) Try.func4
    (ChangeSpec.witness6 (enc := enc) (C := Try.checked) false ⟨#[], #[.int .u64 0, .int .i64 0, .int .i64 0, .slice none 0 0], []⟩ 8 (by kernel_rfl) (by kernel_rfl) (by kernel_rfl) (by kernel_rfl)) ?_
  intro W base args ds gs before hval0 hW hcnd hsz0 _
  have hval : ∀ (j : Nat) t v, Try.f4.params[j]? = some t → args[j]? = some v → Value.okWide Try.prog W .any base t v := hval0
  have hsz : (DataW.weightsEach Try.prog (Try.f4.params.toList ++ Rows.octetsBackSpec.plain.varTypes Try.prog) (ds ++ gs)).all (· ≤ reachBytes) = true := hsz0
  have hW' := hW
  obtain ⟨p, q, hA0, hV, rfl, hfz, hnd⟩ := hW
  have hA : DataW.TrodAll enc Try.prog W 0 (fun _ => true) true Try.f4.params.toList args.toList ds p := hA0
  rw [Try.params4] at hA hval hsz
  obtain ⟨v0, vs0, d0, ds0, p0, q0, hargs, rfl, rfl, h0, r0⟩ := trodAll_cons hA
  obtain ⟨v1, vs1, d1, ds1, p1, q1, rfl, rfl, rfl, h1, r1⟩ := trodAll_cons r0
  obtain ⟨v2, vs2, d2, ds2, p2, q2, rfl, rfl, rfl, h2, r2⟩ := trodAll_cons r1
  obtain ⟨v3, vs3, d3, ds3, p3, q3, rfl, rfl, rfl, h3, r3⟩ := trodAll_cons r2
  obtain ⟨rfl, rfl, rfl⟩ := trodAll_nil r3
  obtain rfl : args = #[v0, v1, v2, v3] := by cases args; simp_all
  obtain ⟨rfl, rfl⟩ := trodVars_none hV
  obtain ⟨a0, rfl, rfl, rfl, w0⟩ := open_int Try.underlying22 (hval 0 22 v0 rfl rfl) h0
  obtain ⟨a1, rfl, rfl, rfl, w1⟩ := open_int Try.underlying3 (hval 1 3 v1 rfl rfl) h1
  obtain ⟨a2, rfl, rfl, rfl, w2⟩ := open_int Try.underlying3 (hval 2 3 v2 rfl rfl) h2
  obtain ⟨a3, len3, cap3, rfl⟩ := okWide_slice Try.underlying23 (hval 3 23 v3 rfl rfl)
  have k3 := h3
  have lt3 : ∀ x ∈ p3, x.block < W.heap.size := by obtain ⟨m, hm⟩ := k3; exact DataW.trod_lt m _ _ _ hm
  obtain ⟨xs, hxl, hbt, hre⟩ : ∃ xs : List Nat, xs.length = len3 ∧ Bts W a3 xs ∧ xs.length ≤ 140737488351232 := by
    obtain ⟨fuel, hf⟩ := h3
    rcases open_ints Try.underlying23 Try.underlying5 (by kernel_rfl) hf with ⟨hcs, _⟩ | ⟨x, l, c, zs, hcs, _, hl, hm, hz, hd, hcell, hwz⟩
    · simp [Value.cells] at hcs
      obtain ⟨rfl, rfl, rfl⟩ := hcs
      exact ⟨[], rfl, ⟨(fun x h => by cases h), .inl rfl⟩, by simp⟩
    · simp [Value.cells] at hcs
      obtain ⟨rfl, rfl, rfl⟩ := hcs
      have hz' : zs.length = cap3 := by simpa using hz
      obtain ⟨xs, h1, h2⟩ := bts_of_ints hl hz' hcell hwz
      have hd' := (Prod.mk.inj hd).1
      have hw := sized_slice hsz (j := 3) (t := 23) (e := 5) rfl (by rw [hd']; rfl) Try.underlying23
      rw [bytes5] at hw
      simp only [lits, List.length_map, List.length_take, List.length_drop, reachBytes] at hw
      exact ⟨xs, h1, h2, by omega⟩
  clear hA0 hval0 hsz hsz0
  obtain ⟨n, rfl, hn⟩ := nat_of_u64 w0
  obtain ⟨s0, s1⟩ := bounds_i64 w1
  obtain ⟨m0, m1⟩ := bounds_i64 w2
  subst hxl
  refine (walk n a1 a2 a3 xs cap3 W hn s0 s1 m0 m1 hbt hre).mono fun e W' ⟨he, bel⟩ => ?_
  subst he
  exact ⟨_, rfl, _, _, _, [], _, [], hW', trodAll_mk1 (shut_bool Try.underlying4 _), (trodAll_cons_mk (shut_int Try.underlying22 w0) (trodAll_cons_mk (shut_int Try.underlying3 w1) (trodAll_cons_mk (shut_int Try.underlying3 w2) (trodAll_cons_mk (Below.trod laidOut (by kernel_rfl) (of_decide_eq_true (by kernel_rfl)) k3 bel lt3) trodAll_mk0)))), rfl, bel.frame _, fun h => by cases h⟩

theorem over : Rows.octetsBackRow.holds Try.pinned (OpenSpec.ofChange Rows.octetsBackSpec) :=
  OpenClaim.holds_of_wide 4 Try.f4 rfl rfl rfl rfl rfl rfl rfl ⟨rfl, rfl, rfl, rfl, rfl⟩ rfl rfl rfl rfl rfl (by kernel_rfl) Try.func4 (by kernel_rfl)
    (of_decide_eq_true (by kernel_rfl)) (by unfold Func.isWrapper; first | (rw [if_pos (by decide +kernel)]; kernel_rfl) | (rw [if_neg (by decide +kernel)]; exact ⟨rfl, rfl⟩))
    (fun os started H enc _ => lifted os started H enc)

end Go.Proofs.Ytfaokmmkgodfiaa.octetsBack
namespace Go.Proofs.Ytfaokmmkgodfiaa
/-- The statement. -/
theorem octetsBack_holds : Rows.OctetsBackSaid := octetsBack.over
#print axioms octetsBack_holds
end Go.Proofs.Ytfaokmmkgodfiaa
