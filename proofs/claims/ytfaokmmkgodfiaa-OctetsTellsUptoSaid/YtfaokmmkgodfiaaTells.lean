/- Where the arguments hold at most 1048576 values and letters: numbers as octets and digits, octets as hexadecimal digits, and any octets and texts read as such, are as the document's own answers. -/
import Derived.Test.YtfaokmmkgodfiaaRows
import Derived.Test.YtfaokmmkgodfiaaRefParseW
import Derived.Test.YtfaokmmkgodfiaaRefHex
import Derived.Test.YtfaokmmkgodfiaaRefUnhex
import Derived.Test.YtfaokmmkgodfiaaFrame
import Derived.ShutString
import Derived.ChangeOld
import Derived.JoinedCond
namespace Go.Proofs.Ytfaokmmkgodfiaa.octetsTells
open Go.ChangeShapes Go.WideShapes Go.ChangeAt Go.RowKit
open Go.ChangeMaps (open_string shut_string)

theorem own : ownKnob Try.prog.godebug = none := by kernel_rfl
theorem laidOut : laidOutB Try.prog = true := by kernel_rfl

theorem refput_one (n : Nat) (size : Int) (hn : n < 18446744073709551616) (hs0 : -9223372036854775808 ≤ size) (hs1 : size ≤ 9223372036854775807) (w : World) :
    Calls Try.prog 8 #[.int .u64 n, .int .i64 size] w fun e w' => ∃ a cap, e = .returned (.tuple #[.slice a (putL n size).length cap, .int .i64 (putE n size)]) ∧ Bts w' a (putL n size) ∧ Below w.heap.size w w' := by
  by_cases hf : fits n size
  · have hf' := hf
    obtain ⟨k, rfl, h1, h2, h3⟩ := hf
    have e1 : putL n (k : Int) = Mt.octs n k := by unfold putL; rw [if_pos hf']; rfl
    have e2 : putE n (k : Int) = 0 := by unfold putE; rw [if_pos hf']
    have e3 : (Mt.octs n k).length = k := Mt.octs_length n k
    refine (refput_yes n k h1 h2 h3 w).mono ?_
    rintro e w' ⟨rfl, hr, hb⟩
    refine ⟨some ⟨w.heap.size, 0, none⟩, k, by rw [e1, e2, e3], ?_, hb⟩
    rw [e1]
    exact row_bts (B := w.heap.size) (cap := k) (by rw [e3]; exact hr) (octs_lt n k)
  · have e1 : putL n size = [] := by unfold putL; rw [if_neg hf]
    have e2 : putE n size = 4 := by unfold putE; rw [if_neg hf]
    refine (refput_no n size hn hs0 hs1 hf w).mono ?_
    rintro e w' ⟨rfl, rfl⟩
    refine ⟨none, 0, by rw [e1, e2]; rfl, ⟨?_, .inl e1⟩, Below.refl _ _⟩
    rw [e1]; intro x hx; cases hx

/-- Get's number, and its error number. -/
def getV (xs : List Nat) : Nat := if 1 ≤ xs.length ∧ xs.length ≤ 8 then Mt.numOf xs else 0
def getE (xs : List Nat) : Int := if 1 ≤ xs.length ∧ xs.length ≤ 8 then 0 else 3

theorem get_form {xs : List Nat} {w w' : World} {e : Ending} (h : GetAns xs w e w') : e = .returned (.tuple #[.int .u64 (getV xs), .int .i64 (getE xs)]) ∧ w = w' := by
  obtain ⟨h1, h2⟩ := h
  refine ⟨?_, h2⟩
  unfold getV getE
  by_cases c : 1 ≤ xs.length ∧ xs.length ≤ 8
  · rw [if_pos c] at h1; rw [if_pos c, if_pos c]; exact h1
  · rw [if_neg c] at h1; rw [if_neg c, if_neg c]; exact h1

open Classical in
/-- ParseInt's number, and its error number. -/
noncomputable def parV (s : ByteArray) : Int := if strO (Mt.dec (parsed s)) = s then parsed s else 0
open Classical in
noncomputable def parE (s : ByteArray) : Int := if strO (Mt.dec (parsed s)) = s then 0 else 11

theorem par_form {s : ByteArray} {w w' : World} {e : Ending} (h : ParseAns s w e w') : e = .returned (.tuple #[.int .i64 (parV s), .int .i64 (parE s)]) ∧ Below w.heap.size w w' := by
  obtain ⟨h1, h2⟩ := h
  refine ⟨?_, h2⟩
  unfold parV parE
  by_cases c : strO (Mt.dec (parsed s)) = s
  · rw [if_pos c] at h1; rw [if_pos c, if_pos c]; exact h1
  · rw [if_neg c] at h1; rw [if_neg c, if_neg c]; exact h1

theorem putL_len (n : Nat) (size : Int) : (putL n size).length ≤ 8 := by
  unfold putL
  split
  · rename_i h
    obtain ⟨k, rfl, _, h2, _⟩ := h
    rw [Mt.octs_length]; exact h2
  · simp

theorem unhexL_len (s : ByteArray) : (unhexL s).length ≤ s.size := by
  unfold unhexL
  split
  · rw [unhexed_length]; omega
  · simp

set_option maxRecDepth 100000 in
set_option maxHeartbeats 4000000 in
theorem walk (n : Nat) (size m : Int) (a : Option Addr) (xs : List Nat) (cap : Nat) (s t : ByteArray) (w : World) (hn : n < 18446744073709551616) (hs0 : -9223372036854775808 ≤ size) (hs1 : size ≤ 9223372036854775807) (hm0 : -9223372036854775808 ≤ m) (hm1 : m ≤ 9223372036854775807)
    (hx : Bts w a xs) (hcap : a = none → cap = 0) (hl : xs.length ≤ 1048576) (hs : s.size ≤ 1048576) (ht : t.size ≤ 1048576) :
    Calls Try.prog 3 #[.int .u64 n, .int .i64 size, .slice a xs.length cap, .int .i64 m, .string s, .string t] w fun e w' => e = .returned (.bool true) ∧ Below w.heap.size w w' := by
  obtain ⟨L, hL⟩ : ∃ L, putL n size = L := ⟨_, rfl⟩
  obtain ⟨E, hE⟩ : ∃ E, putE n size = E := ⟨_, rfl⟩
  obtain ⟨M, hM⟩ : ∃ M, unhexL t = M := ⟨_, rfl⟩
  obtain ⟨F, hF⟩ : ∃ F, unhexE t = F := ⟨_, rfl⟩
  obtain ⟨G, hG⟩ : ∃ G, unhexP t = G := ⟨_, rfl⟩
  obtain ⟨V, hV⟩ : ∃ V, getV xs = V := ⟨_, rfl⟩
  obtain ⟨D, hD⟩ : ∃ D, getE xs = D := ⟨_, rfl⟩
  obtain ⟨P, hP⟩ : ∃ P, parV s = P := ⟨_, rfl⟩
  obtain ⟨Q, hQ⟩ : ∃ Q, parE s = Q := ⟨_, rfl⟩
  obtain ⟨S, hS⟩ : ∃ S, strO (Mt.dec m) = S := ⟨_, rfl⟩
  obtain ⟨T, hT⟩ : ∃ T, strO (hexO xs) = T := ⟨_, rfl⟩
  have hLl := putL_len n size
  have hMl := unhexL_len t
  have c1 := put_one n size hn hs0 hs1
  have c2 := refput_one n size hn hs0 hs1
  have c3 : ∀ (a : Option Addr) (cap : Nat) (W : World), Bts W a xs → Calls Try.prog 9 #[.slice a xs.length cap] W fun e w' => e = .returned (.tuple #[.int .u64 (getV xs), .int .i64 (getE xs)]) ∧ W = w' := fun a cap W hb => (get_any a xs cap W hb (by omega)).mono fun e w' h => get_form h
  have c4 : ∀ (a : Option Addr) (cap : Nat) (W : World), Bts W a xs → Calls Try.prog 10 #[.slice a xs.length cap] W fun e w' => e = .returned (.tuple #[.int .u64 (getV xs), .int .i64 (getE xs)]) ∧ W = w' := fun a cap W hb => (refget_any a xs cap W hb (by omega)).mono fun e w' h => get_form h
  have c5 : ∀ W, Calls Try.prog 11 #[.string s] W fun e w' => e = .returned (.tuple #[.int .i64 (parV s), .int .i64 (parE s)]) ∧ Below W.heap.size W w' := fun W => (parse_any s W (by omega)).mono fun e w' h => par_form h
  have c6 : ∀ W, Calls Try.prog 12 #[.string s] W fun e w' => e = .returned (.tuple #[.int .i64 (parV s), .int .i64 (parE s)]) ∧ Below W.heap.size W w' := fun W => by
    by_cases h : hasMinus s = true
    · exact (refparse_minus s W hs h).mono fun e w' h => par_form h
    · exact (refparse_plain s W hs h).mono fun e w' h => par_form h
  have c7 := unhex_one t (by omega)
  have c8 : ∀ W, Calls Try.prog 14 #[.string t] W fun e w' => ∃ a cap, e = .returned (.tuple #[.slice a (unhexL t).length cap, .int .i64 (unhexE t), .int .i64 (unhexP t)]) ∧ Bts w' a (unhexL t) ∧ Below W.heap.size W w' := fun W => refunhex_any t W ht
  have c9 := decimal_any m hm0 hm1
  have c10 := refdec_any m hm0 hm1
  have c11 : ∀ (a : Option Addr) (cap : Nat) (W : World), Bts W a xs → Calls Try.prog 19 #[.slice a xs.length cap] W fun e w' => e = .returned (.string (strO (hexO xs))) ∧ Below W.heap.size W w' := fun a cap W hb => hex_any a xs cap W hb (by omega)
  have c12 : ∀ (a : Option Addr) (cap : Nat) (W : World), Bts W a xs → Calls Try.prog 20 #[.slice a xs.length cap] W fun e w' => e = .returned (.string (strO (hexO xs))) ∧ Below W.heap.size W w' := fun a cap W hb => refhex_any a xs cap W hb hl
  rw [hL] at hLl
  rw [hM] at hMl
  rw [hL, hE] at c1 c2
  rw [hV, hD] at c3 c4
  rw [hP, hQ] at c5 c6
  rw [hM, hF, hG] at c7 c8
  rw [hS] at c9 c10
  rw [hT] at c11 c12
  have C1 := Lib.hid c1
  have C2 := Lib.hid c2
  have C3 := Lib.hid c3
  have C4 := Lib.hid c4
  have C5 := Lib.hid c5
  have C6 := Lib.hid c6
  have C7 := Lib.hid c7
  have C8 := Lib.hid c8
  have C9 := Lib.hid c9
  have C10 := Lib.hid c10
  have C11 := Lib.hid c11
  have C12 := Lib.hid c12
  have X0 := Lib.hid hx
  have Hcap := Lib.hid hcap
  have hLl2 : L.length ≤ 140737488355328 := by omega
  have hMl2 : M.length ≤ 140737488355328 := by omega
  have hXl2 : xs.length ≤ 140737488355328 := by omega
  clear c1 c2 c3 c4 c5 c6 c7 c8 c9 c10 c11 c12 hL hE hM hF hG hV hD hP hQ hS hT hLl hMl hx hcap
  have k0 := Lib.hid (copy_one a xs cap w X0.out hXl2 Hcap.out)
  go_enter Try.func3, Try.ntmps3
  go_wp2_with fail
  refine k0.out.mono ?_
  rintro e w1 ⟨oa, oc, rfl, O, b1⟩
  have O1 := Lib.hid O.bts
  have X1 := Lib.hid (X0.out.below b1)
  clear O X0 k0 Hcap
  go_wp2_with fail
  refine (C1.out _).mono ?_
  rintro e w2 ⟨xa, xc, rfl, Y, b2⟩
  have Y2 := Lib.hid Y.bts
  have O2 := Lib.hid (O1.out.below b2)
  have X2 := Lib.hid (X1.out.below b2)
  have q2 := b1.trans (b2.mono b1.size)
  clear Y O1 X1 C1 b1 b2
  go_wp2_with fail
  refine (C2.out _).mono ?_
  rintro e w3 ⟨ya, yc, rfl, Z, b3⟩
  have Z3 := Lib.hid Z
  have Y3 := Lib.hid (Y2.out.below b3)
  have O3 := Lib.hid (O2.out.below b3)
  have X3 := Lib.hid (X2.out.below b3)
  have q3 := q2.trans (b3.mono q2.size)
  clear Z Y2 O2 X2 C2 b3 q2
  go_wp2_with fail
  refine (C3.out _ _ _ O3.out).mono ?_
  rintro e w' ⟨rfl, rfl⟩
  go_wp2_with fail
  refine (C4.out _ _ _ X3.out).mono ?_
  rintro e w' ⟨rfl, rfl⟩
  clear C3 C4
  go_wp2_with fail
  refine (C5.out _).mono ?_
  rintro e w4 ⟨rfl, b4⟩
  have Z4 := Lib.hid (Z3.out.below b4)
  have Y4 := Lib.hid (Y3.out.below b4)
  have O4 := Lib.hid (O3.out.below b4)
  have X4 := Lib.hid (X3.out.below b4)
  have q4 := q3.trans (b4.mono q3.size)
  clear Z3 Y3 O3 X3 C5 b4 q3
  go_wp2_with fail
  refine (C6.out _).mono ?_
  rintro e w5 ⟨rfl, b5⟩
  have Z5 := Lib.hid (Z4.out.below b5)
  have Y5 := Lib.hid (Y4.out.below b5)
  have O5 := Lib.hid (O4.out.below b5)
  have X5 := Lib.hid (X4.out.below b5)
  have q5 := q4.trans (b5.mono q4.size)
  clear Z4 Y4 O4 X4 C6 b5 q4
  go_wp2_with fail
  refine (C7.out _).mono ?_
  rintro e w6 ⟨pa, pc, rfl, R, b6⟩
  have R6 := Lib.hid R.bts
  have Z6 := Lib.hid (Z5.out.below b6)
  have Y6 := Lib.hid (Y5.out.below b6)
  have O6 := Lib.hid (O5.out.below b6)
  have X6 := Lib.hid (X5.out.below b6)
  have q6 := q5.trans (b6.mono q5.size)
  clear R Z5 Y5 O5 X5 C7 b6 q5
  go_wp2_with fail
  refine (C8.out _).mono ?_
  rintro e w7 ⟨qa, qc, rfl, U, b7⟩
  have U7 := Lib.hid U
  have R7 := Lib.hid (R6.out.below b7)
  have Z7 := Lib.hid (Z6.out.below b7)
  have Y7 := Lib.hid (Y6.out.below b7)
  have O7 := Lib.hid (O6.out.below b7)
  have X7 := Lib.hid (X6.out.below b7)
  have q7 := q6.trans (b7.mono q6.size)
  clear U R6 Z6 Y6 O6 X6 C8 b7 q6
  have eE : (E != E) = false := by simp
  have eV : ((V : Int) != (V : Int)) = false := by simp
  have eD : (D != D) = false := by simp
  have eP : (P != P) = false := by simp
  have eQ : (Q != Q) = false := by simp
  have eF : (F != F) = false := by simp
  have eG : ((G : Int) != (G : Int)) = false := by simp
  have s1 := Lib.hid (same_one xa ya L L xc yc w7 Y7.out Z7.out hLl2 hLl2 rfl)
  go_wp2_with fail
  refine s1.out.mono ?_
  rintro e w8 ⟨rfl, b8⟩
  have U8 := Lib.hid (U7.out.below b8)
  have R8 := Lib.hid (R7.out.below b8)
  have O8 := Lib.hid (O7.out.below b8)
  have X8 := Lib.hid (X7.out.below b8)
  have q8 := q7.trans (b8.mono q7.size)
  clear s1 U7 R7 Z7 Y7 O7 X7 b8 q7
  have s2 := Lib.hid (same_one pa qa M M pc qc w8 R8.out U8.out hMl2 hMl2 rfl)
  go_wp2_with (first | (go_at_call 16; refine (num_any _ _).mono ?_; rintro e w' ⟨rfl, rfl⟩) | fail)
  refine s2.out.mono ?_
  rintro e w9 ⟨rfl, b9⟩
  have O9 := Lib.hid (O8.out.below b9)
  have X9 := Lib.hid (X8.out.below b9)
  have q9 := q8.trans (b9.mono q8.size)
  clear s2 U8 R8 O8 X8 b9 q8
  go_wp2_with (first | (go_at_call 16; refine (num_any _ _).mono ?_; rintro e w' ⟨rfl, rfl⟩) | fail)
  refine (C9.out _).mono ?_
  rintro e w10 ⟨rfl, b10⟩
  have O10 := Lib.hid (O9.out.below b10)
  have X10 := Lib.hid (X9.out.below b10)
  have q10 := q9.trans (b10.mono q9.size)
  clear C9 O9 X9 b10 q9
  go_wp2_with fail
  refine (C10.out _).mono ?_
  rintro e w11 ⟨rfl, b11⟩
  have O11 := Lib.hid (O10.out.below b11)
  have X11 := Lib.hid (X10.out.below b11)
  have q11 := q10.trans (b11.mono q10.size)
  clear C10 O10 X10 b11 q10
  go_wp2_with fail
  refine (C11.out _ _ _ O11.out).mono ?_
  rintro e w12 ⟨rfl, b12⟩
  have O12 := Lib.hid (O11.out.below b12)
  have X12 := Lib.hid (X11.out.below b12)
  have q12 := q11.trans (b12.mono q11.size)
  clear C11 O11 X11 b12 q11
  go_wp2_with fail
  refine (C12.out _ _ _ X12.out).mono ?_
  rintro e w13 ⟨rfl, b13⟩
  have O13 := Lib.hid (O12.out.below b13)
  have X13 := Lib.hid (X12.out.below b13)
  have q13 := q12.trans (b13.mono q12.size)
  clear C12 O12 X12 b13 q12
  have s3 := Lib.hid (same_one oa a xs xs oc cap w13 O13.out X13.out hXl2 hXl2 rfl)
  go_wp2_with fail
  refine s3.out.mono ?_
  rintro e w14 ⟨rfl, b14⟩
  have q14 := q13.trans (b14.mono q13.size)
  clear s3 O13 X13 b14 q13
  go_wp2_with fail
  refine (alive_any _).mono ?_
  rintro e w15 ⟨rfl, b15⟩
  have q15 := q14.trans (b15.mono q14.size)
  clear b15 q14
  go_wp2
  go_ret
  exact ⟨rfl, q15⟩

/-- A list of numbers holds as many values as it is long. -/
theorem bulk_lits {H : Type} (k : IntKind) (zs : List Int) : Rows.uptoBulkAll (lits (H := H) k zs) = zs.length := by
  induction zs with
  | nil => simp [lits, Rows.uptoBulkAll]
  | cons z zs ih =>
    have e : lits (H := H) k (z :: zs) = .lit (.int k z) :: lits k zs := rfl
    rw [e]
    simp only [Rows.uptoBulkAll, Rows.uptoBulk, ih, List.length_cons]
    omega

set_option maxRecDepth 100000 in
theorem contract (H : Type) (enc : TypeId × Value → H) (W : World) (base : Nat) (args : Array Value) (ds gs : List (DataW H)) (before : List MemPlace)
    (hval0 : ∀ (j : Nat) t v, Try.f3.params[j]? = some t → args[j]? = some v → Value.okWide Try.prog W .any base t v)
    (hW : DataW.Whole enc Try.prog Try.f3.params.toList Rows.octetsTellsSpec.vars false W args.toList ds gs before) (hk : Rows.uptoSmall H (ds ++ gs) = true) :
    Calls Try.prog 3 args W fun e W' => ∃ v, e = .returned v ∧ Rows.octetsTellsSpec.post enc Try.prog Try.f3 false true false false W args v W' := by
  have hval : ∀ (j : Nat) t v, Try.f3.params[j]? = some t → args[j]? = some v → Value.okWide Try.prog W .any base t v := hval0
  have hW' := hW
  obtain ⟨p, q, hA0, hV, rfl, hfz, hnd⟩ := hW
  have hA : DataW.TrodAll enc Try.prog W 0 (fun _ => true) true Try.f3.params.toList args.toList ds p := hA0
  rw [Try.params3] at hA hval
  obtain ⟨v0, vs0, d0, ds0, p0, q0, hargs, rfl, rfl, h0, r0⟩ := trodAll_cons hA
  obtain ⟨v1, vs1, d1, ds1, p1, q1, rfl, rfl, rfl, h1, r1⟩ := trodAll_cons r0
  obtain ⟨v2, vs2, d2, ds2, p2, q2, rfl, rfl, rfl, h2, r2⟩ := trodAll_cons r1
  obtain ⟨v3, vs3, d3, ds3, p3, q3, rfl, rfl, rfl, h3, r3⟩ := trodAll_cons r2
  obtain ⟨v4, vs4, d4, ds4, p4, q4, rfl, rfl, rfl, h4, r4⟩ := trodAll_cons r3
  obtain ⟨v5, vs5, d5, ds5, p5, q5, rfl, rfl, rfl, h5, r5⟩ := trodAll_cons r4
  obtain ⟨rfl, rfl, rfl⟩ := trodAll_nil r5
  obtain rfl : args = #[v0, v1, v2, v3, v4, v5] := by cases args; simp_all
  obtain ⟨rfl, rfl⟩ := trodVars_none hV
  obtain ⟨a0, rfl, rfl, rfl, w0⟩ := open_int Try.underlying22 (hval 0 22 v0 rfl rfl) h0
  obtain ⟨a1, rfl, rfl, rfl, w1⟩ := open_int Try.underlying3 (hval 1 3 v1 rfl rfl) h1
  obtain ⟨a2, len2, cap2, rfl⟩ := okWide_slice Try.underlying23 (hval 2 23 v2 rfl rfl)
  have k2 := h2
  have lt2 : ∀ x ∈ p2, x.block < W.heap.size := by obtain ⟨m, hm⟩ := k2; exact DataW.trod_lt m _ _ _ hm
  obtain ⟨a3, rfl, rfl, rfl, w3⟩ := open_int Try.underlying3 (hval 3 3 v3 rfl rfl) h3
  obtain ⟨a4, rfl, rfl, rfl, w4⟩ := open_string Try.underlying9 (hval 4 9 v4 rfl rfl) h4
  obtain ⟨a5, rfl, rfl, rfl, w5⟩ := open_string Try.underlying9 (hval 5 9 v5 rfl rfl) h5
  have hbulk := of_decide_eq_true hk
  simp only [List.append_nil, Rows.uptoBulkAll, Rows.uptoBulk] at hbulk
  have e4 : a4.data.toList.length = a4.size := by simp
  have e5 : a5.data.toList.length = a5.size := by simp
  rw [e4, e5] at hbulk
  obtain ⟨xs, hxl, hbt, hcap, hre⟩ : ∃ xs : List Nat, xs.length = len2 ∧ Bts W a2 xs ∧ (a2 = none → cap2 = 0) ∧ xs.length ≤ 1048576 := by
    obtain ⟨fuel, hf⟩ := h2
    rcases open_ints Try.underlying23 Try.underlying5 (by kernel_rfl) hf with ⟨hcs, _⟩ | ⟨x, l, c, zs, hcs, _, hl, hm, hz, hd, hcell, hwz⟩
    · simp [Value.cells] at hcs
      obtain ⟨rfl, rfl, rfl⟩ := hcs
      exact ⟨[], rfl, ⟨(fun x h => by cases h), .inl rfl⟩, fun _ => rfl, by simp⟩
    · simp [Value.cells] at hcs
      obtain ⟨rfl, rfl, rfl⟩ := hcs
      have hz' : zs.length = cap2 := by simpa using hz
      obtain ⟨xs, h1, h2⟩ := bts_of_ints hl hz' hcell hwz
      have hd' := (Prod.mk.inj hd).1
      rw [hd'] at hbulk
      simp only [Rows.uptoBulk, bulk_lits, List.length_take, List.length_drop] at hbulk
      refine ⟨xs, h1, h2, (fun h => by cases h), ?_⟩
      omega
  clear hA0
  obtain ⟨n, rfl, hn⟩ := nat_of_u64 w0
  obtain ⟨s0, s1⟩ := bounds_i64 w1
  obtain ⟨m0, m1⟩ := bounds_i64 w3
  subst hxl
  refine (walk n a1 a3 a2 xs cap2 a4 a5 W hn s0 s1 m0 m1 hbt hcap hre (by omega) (by omega)).mono fun e W' ⟨he, bel⟩ => ?_
  subst he
  exact ⟨_, rfl, _, _, _, [], _, [], hW', trodAll_mk1 (shut_bool Try.underlying4 _), (trodAll_cons_mk (shut_int Try.underlying22 w0) (trodAll_cons_mk (shut_int Try.underlying3 w1) (trodAll_cons_mk (Below.trod laidOut (by kernel_rfl) (of_decide_eq_true (by kernel_rfl)) k2 bel lt2) (trodAll_cons_mk (shut_int Try.underlying3 w3) (trodAll_cons_mk (shut_string Try.underlying9 w4) (trodAll_cons_mk (shut_string Try.underlying9 w5) trodAll_mk0)))))), rfl, bel.frame _, fun h => by cases h⟩

set_option maxRecDepth 100000 in
theorem lifted (os : Os) (started : os.Started) (H : Type) (enc : TypeId × Value → H) (F : Stop.Interp) :
    ReturnsInHanded {} Try.checked os 3 .any ((Rows.OpenSpec.upto Rows.octetsTellsSpec).pre6 enc Try.prog Try.f3 Rows.octetsTellsUptoRow.domain false) (((Rows.OpenSpec.upto Rows.octetsTellsSpec).at F).post enc Try.prog Try.f3 false true false false) := by
  refine returnsInHanded_of_cond (C := Try.checked) (s := Rows.OpenSpec.upto Rows.octetsTellsSpec) (k := Rows.uptoSmall) rfl own started (by kernel_rfl) Try.func3
    (OpenSpec.witness (enc := enc) (C := Try.checked) (s := Rows.OpenSpec.upto Rows.octetsTellsSpec) (k := Rows.uptoSmall) rfl false ⟨#[], #[.int .u64 0, .int .i64 0, .slice none 0 0, .int .i64 0, .string .empty, .string .empty], []⟩ 8 (by kernel_rfl) (by kernel_rfl) (by kernel_rfl)
      (x := ([.lit (.int .u64 0), .lit (.int .i64 0), .nil, .lit (.int .i64 0), .lit (.string []), .lit (.string [])], [], [])) (by kernel_rfl) rfl (by kernel_rfl)) ?_
  intro W base args ds gs before hval hW _ hk _
  exact contract H enc W base args ds gs before hval hW hk

theorem over : Rows.octetsTellsUptoRow.holds Try.pinned (Rows.OpenSpec.upto Rows.octetsTellsSpec) :=
  OpenClaim.holds_of_cond 3 Try.f3 rfl rfl rfl rfl rfl rfl rfl ⟨rfl, rfl, rfl, rfl, rfl⟩ rfl rfl rfl rfl rfl (by kernel_rfl) Try.func3 (by kernel_rfl)
    (of_decide_eq_true (by kernel_rfl)) (by unfold Func.isWrapper; first | (rw [if_pos (by decide +kernel)]; kernel_rfl) | (rw [if_neg (by decide +kernel)]; exact ⟨rfl, rfl⟩))
    (fun os started H enc _ F => lifted os started H enc F)

end Go.Proofs.Ytfaokmmkgodfiaa.octetsTells
namespace Go.Proofs.Ytfaokmmkgodfiaa
/-- The statement. -/
theorem octetsTells_holds : Rows.OctetsTellsUptoSaid := octetsTells.over
#print axioms octetsTells_holds
end Go.Proofs.Ytfaokmmkgodfiaa
