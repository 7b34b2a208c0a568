/- Routes: Ask at one key. -/
import Derived.Test.YtinlacdngojlaaaRcPut
namespace Go.Proofs.Ytinlacdngojlaaa
open Go.RowKit Go.Maps Go.Proofs.Ytinlacdngojlaaa.Rt Go.Sort Go.BigFrame

theorem CaAt.setNow {gc gk gw ip : Nat} {now : Int} {K : Option (Int × Int)} {Q : Option Nat} {W : World} (h : CaAt gc gk gw ip now K Q W) (n : Int) :
    CaAt gc gk gw ip n K Q (W.setCell ⟨gc, 2, none⟩ (.int .i64 n)) ∧ Turns (fun q => q = gc) W (W.setCell ⟨gc, 2, none⟩ (.int .i64 n)) := by
  have hs := blk_set h.blk 2 (.int .i64 n)
  simp only [List.setIfInBounds_toArray, List.set_cons_zero, List.set_cons_succ] at hs
  have ht : Turns (fun q => q = gc) W (W.setCell ⟨gc, 2, none⟩ (.int .i64 n)) := Turns.set (S := fun q => q = gc) (Turns.refl _ _) rfl _ _
  exact ⟨⟨hs, h.kn.moved (ht.block _ h.kn.lt (fun e => h.kn.neCells h.blk e.symm)), h.wt.moved (ht.block _ h.wt.lt (fun e => h.wt.neCells h.blk e.symm)), h.ne⟩, ht⟩
def cutF (F : List Txt) : List Txt := if F.length = 4 then F.drop 1 else F
def FirstAns (gc gk gw ip : Nat) (n : Int) (fxs : List Nat) (W : World) (e : Ending) (w' : World) : Prop :=
  e = .returned (.tuple #[.int .u64 0, .bool false, .bool true, .int .i64 0]) ∧ (∃ gq a cap oa oc, W.heap.size ≤ gq ∧ CaAt gc gk gw ip n none (some gq) w' ∧ QAt (gq + 1) gq n a [⟨oa, fxs, oc⟩] cap w') ∧ Turns (fun q => q = gc ∨ q = gw) W w'
def MoreAns (gc gk gw ip P gq : Nat) (n : Int) (a : Option Addr) (F : List Txt) (fxs : List Nat) (W : World) (e : Ending) (w' : World) : Prop :=
  e = .returned (.tuple #[.int .u64 0, .bool false, .bool false, .int .i64 0]) ∧ (∃ a' cap' oa oc, CaAt gc gk gw ip n none (some gq) w' ∧ QAt P gq n a' (cutF F ++ [⟨oa, fxs, oc⟩]) cap' w' ∧ (∀ g, a' = some ⟨g, 0, none⟩ → a = some ⟨g, 0, none⟩ ∨ W.heap.size ≤ g) ∧ (∀ b o, oa = some ⟨b, o, none⟩ → W.heap.size ≤ b)) ∧ Turns (fun q => q = gc ∨ PutS gq a q) W w'
set_option maxRecDepth 100000 in
set_option maxHeartbeats 2000000 in
theorem ask_long {gc gk gw ip : Nat} {now : Int} {QQ : Option Nat} (n : Int) (fa : Option Addr) (fxs : List Nat) (fcap : Nat) (W : World) (h : CaAt gc gk gw ip now none QQ W) (h1 : now ≤ n) (h2 : n ≤ 100) (hfl : 65535 < fxs.length) :
    Calls Try.prog 17 #[.pointer (some ⟨gc, 0, none⟩), .int .u32 (ip : Nat), .slice fa fxs.length fcap, .int .i64 n] W fun e w' => e = .returned (.tuple #[.int .u64 0, .bool false, .bool false, .int .i64 5]) ∧ W = w' := by
  have HC := Lib.hid h
  clear h
  go_enter Try.func17, Try.ntmps17
  go_wp2_with fail
  refine (check_any n _ HC.out h1 h2).mono ?_
  rintro e w' ⟨rfl, rfl⟩
  have j1 : ((fxs.length : Int) > 65535) := by omega
  go_wp2
  refine bodyPost_ret (v := .tuple #[.int .u64 0, .bool false, .bool false, .int .i64 5]) (by simp [results, Try.results17, go_sem]) rfl ?_
  exact ⟨rfl, rfl⟩
set_option maxRecDepth 100000 in
set_option maxHeartbeats 2000000 in
theorem ask_first {gc gk gw ip : Nat} {now : Int} (n : Int) (fa : Option Addr) (fxs : List Nat) (fcap : Nat) (W : World) (h : CaAt gc gk gw ip now none none W) (hip : ip < 4294967296) (h1 : now ≤ n) (h2 : n ≤ 100) (hfl : fxs.length ≤ 65535) (hY : Bts W fa fxs) (hfc : fa = none → fcap = 0) (HYC : ∀ b o, fa = some ⟨b, o, none⟩ → 0 < fxs.length → ¬ b = gc) (HYW : ∀ b o, fa = some ⟨b, o, none⟩ → 0 < fxs.length → ¬ b = gw) :
    Calls Try.prog 17 #[.pointer (some ⟨gc, 0, none⟩), .int .u32 (ip : Nat), .slice fa fxs.length fcap, .int .i64 n] W (FirstAns gc gk gw ip n fxs W) := by
  have HC := Lib.hid h
  have HY := Lib.hid hY
  clear h hY
  go_enter Try.func17, Try.ntmps17
  go_wp2_with fail
  refine (check_any n _ HC.out h1 h2).mono ?_
  rintro e w' ⟨rfl, rfl⟩
  have j1 : ¬ ((fxs.length : Int) > 65535) := by omega
  have c2 := blk_cell HC.out.blk 2
  have q2 := blk_free HC.out.blk 2
  go_upto_region 7 with fail
  obtain ⟨s1, s2⟩ := HC.out.setNow n
  have C1 := Lib.hid s1
  have Y1 := Lib.hid (bts_turnedN HY.out s2 HYC)
  have T1 := Lib.hid s2
  clear c2 q2 s1 s2
  generalize W.setCell ⟨gc, 2, none⟩ (.int .i64 n) = W1 at C1 T1 Y1 ⊢
  go_wp2_with fail
  refine (find_no n _ C1.out hip).mono ?_
  rintro e W2 ⟨rfl, b⟩
  have C2 := Lib.hid (C1.out.below b)
  have Y2 := Lib.hid (Y1.out.below b)
  have T2 := Lib.hid (T1.out.andBelow b)
  clear b C1 T1 Y1
  have c4 := blk_cell C2.out.blk 4
  have LK := q_miss C2.out.wt hip
  have LN : ∀ ty, (Builtin.len_ #[72] ty #[.map (some gw)]).run Try.prog W2 = .ok (.int .i64 0) W2 := fun ty => C2.out.wt.len Try.underlying72 ty
  go_upto_region 15 with fail
  clear LK LN c4
  have ba := (Below.refl W2.heap.size W2).alloc (Nat.le_refl _) (.cells #[.slice none 0 0, .int .i64 0] 79)
  have XQ := blk_new W2 (.cells #[.slice none 0 0, .int .i64 0] 79)
  have C3 := Lib.hid (C2.out.below ba)
  have Y3 := Lib.hid (Y2.out.below ba)
  have T3 := Lib.hid (T2.out.andBelow ba)
  have hsz : (W2.alloc (.cells #[.slice none 0 0, .int .i64 0] 79)).heap.size = W2.heap.size + 1 := by simp
  have hgc := blk_lt C2.out.blk
  have hgk := C2.out.kn.lt
  have hgw := C2.out.wt.lt
  clear C2 Y2 ba
  have hs2 := T2.out.size
  clear T2
  obtain ⟨gq, hgq⟩ : ∃ z, W2.heap.size = z := ⟨_, rfl⟩
  rw [hgq] at XQ hsz hgc hgk hgw hs2 ⊢
  generalize W2.alloc (.cells #[.slice none 0 0, .int .i64 0] 79) = X at XQ C3 Y3 T3 hsz ⊢
  clear hgq
  have c4 := blk_cell C3.out.blk 4
  obtain ⟨Z, hrun, hm, hg⟩ := C3.out.wt.put Try.underlying72 hip (q_mk gq)
  have tz : Turns (fun q => q = gc ∨ q = gw) X Z := .of_grown (fun q e => .inr (Option.some.inj e).symm) hg
  have C4 : Hid (CaAt gc gk gw ip n none (some gq) Z) := Lib.hid ⟨(hg.block gc (blk_lt C3.out.blk) (fun e => C3.out.wt.neCells C3.out.blk (Option.some.inj e))).trans C3.out.blk, C3.out.kn.moved (hg.block gk C3.out.kn.lt (fun e => C3.out.ne (Option.some.inj e))), hm, C3.out.ne⟩
  have Q4 : Hid (QAt (gq + 1) gq 0 none [] 0 Z) := Lib.hid ⟨(hg.block gq (by omega) (fun e => by have := Option.some.inj e; omega)).trans XQ, ownR_nil _ _ _ _ _, Nat.lt_succ_self _, fun f hf => (by cases hf), fun f hf => (by cases hf)⟩
  have Y4 := Lib.hid (bts_turnedN Y3.out tz (fun b o e hl => by rintro (h | h); exact HYC b o e hl h; exact HYW b o e hl h))
  have T4 := Lib.hid ((T3.out.mono (fun _ h => .inl h)).trans tz)
  have hs4 := tz.size
  clear hm hg tz XQ
  go_wp2_with fail
  refine (put_lt (gq + 1) gq 0 none [] 0 fa fxs fcap Z Q4.out (by omega) (by simp) Y4.out hfc hfl).mono ?_
  rintro e V ⟨rfl, ⟨a5, c5, oa, oc, Q, hA, hO⟩, tp⟩
  have hs5 := tp.size
  have C5 := Lib.hid (C4.out.turned tp (by rintro (e | e); omega; cases e) (by rintro (e | e); omega; cases e) (by rintro (e | e); omega; cases e))
  have Q5 := Lib.hid Q
  have T5 : Hid (Turns (fun q => q = gc ∨ q = gw ∨ q = gq) W V) := Lib.hid ((T4.out.mono (fun _ h => h.elim .inl (fun h => .inr (.inl h)))).trans (tp.mono (fun q h => .inr (.inr (by rcases h with h | h; exact h; cases h)))))
  clear hrun c4 Q hA hO tp C3 Y3 T3 C4 Q4 Y4 T4
  go_upto_region 17 with fail
  have c1 := blk_cell C5.out.blk 1
  have p1 := blk_cell Q5.out.blk 1
  go_quiet (fail)
  have b6 := below_drewN (Below.refl V.heap.size V) nq
  have C6 := Lib.hid (C5.out.below b6)
  have Q6 := Lib.hid (Q5.out.below b6)
  have T6 := Lib.hid (T5.out.andBelow b6)
  clear b6 c1 p1 C5 Q5 T5
  generalize V.drewN nq = V6 at C6 Q6 T6 ⊢
  have p1 := blk_cell Q6.out.blk 1
  have f1 := blk_free Q6.out.blk 1
  have SQ := blk_set Q6.out.blk 1 (.int .i64 n)
  simp only [List.setIfInBounds_toArray, List.set_cons_zero, List.set_cons_succ] at SQ
  have ts : Turns (fun q => q = gq) V6 (V6.setCell ⟨gq, 1, none⟩ (.int .i64 n)) := Turns.set (S := fun q => q = gq) (Turns.refl _ _) rfl _ _
  have C7 := Lib.hid (C6.out.turned ts (by omega) (by omega) (by omega))
  have Q7 : Hid (QAt (gq + 1) gq n a5 [⟨oa, fxs, oc⟩] c5 (V6.setCell ⟨gq, 1, none⟩ (.int .i64 n))) := Lib.hid ⟨SQ, Q6.out.own.turned ts (fun g e => by have := (Q6.out.own.ownB g (by rw [e]; rfl)).1; omega), Q6.out.lt, fun f hf => bts_turnedN (Q6.out.fr f hf) ts (fun b o e hl => by have := (Q6.out.dj f hf b o e hl).1; omega), Q6.out.dj⟩
  have T7 := Lib.hid (T6.out.set (.inr (.inr rfl)) 1 (.int .i64 n))
  clear ts SQ
  go_wp2
  refine bodyPost_ret (v := .tuple #[.int .u64 0, .bool false, .bool true, .int .i64 0]) (by simp [results, Try.results17, go_sem]) rfl ?_
  exact ⟨rfl, ⟨gq, a5, c5, oa, oc, hs2, C7.out, Q7.out⟩, ⟨T7.out.os, T7.out.tape, T7.out.output, T7.out.size, fun k hk hS => T7.out.block k hk (by rintro (e | e | e); exact hS (.inl e); exact hS (.inr e); omega)⟩⟩
set_option maxRecDepth 100000 in
set_option maxHeartbeats 2000000 in
theorem put_any (P gq : Nat) (asked : Int) (a : Option Addr) (F : List Txt) (cap : Nat) (fa : Option Addr) (fxs : List Nat) (fcap : Nat) (W : World) (h : QAt P gq asked a F cap W) (hP : P ≤ W.heap.size) (hF : F.length ≤ 4) (hY : Bts W fa fxs) (hfc : fa = none → fcap = 0) (hfl : fxs.length ≤ 65535) (HYD : ∀ b o, fa = some ⟨b, o, none⟩ → 0 < fxs.length → ¬ PutS gq a b) :
    Calls Try.prog 26 #[.pointer (some ⟨gq, 0, none⟩), .slice fa fxs.length fcap] W (PutAns P gq asked a (cutF F) fxs W) := by
  by_cases h4 : F.length = 4
  · obtain ⟨f0, f1, f2, f3, rfl⟩ : ∃ f0 f1 f2 f3, F = [f0, f1, f2, f3] := by
      match F, h4 with
      | [a, b, c, d], _ => exact ⟨_, _, _, _, rfl⟩
    have e : cutF [f0, f1, f2, f3] = [f1, f2, f3] := rfl
    rw [e]
    exact put_four P gq asked a f0 f1 f2 f3 cap fa fxs fcap W h hP hY hfc hfl HYD
  · have e : cutF F = F := if_neg h4
    rw [e]
    exact put_lt P gq asked a F cap fa fxs fcap W h hP (by omega) hY hfc hfl
set_option maxRecDepth 100000 in
set_option maxHeartbeats 2000000 in
theorem ask_more {gc gk gw ip P gq B0 : Nat} {now : Int} {a : Option Addr} {F : List Txt} {cap : Nat} (n : Int) (fa : Option Addr) (fxs : List Nat) (fcap : Nat) (W : World) (h : CaAt gc gk gw ip now none (some gq) W) (hip : ip < 4294967296) (h1 : now ≤ n) (h2 : n ≤ 100) (hfl : fxs.length ≤ 65535) (hY : Bts W fa fxs) (hfc : fa = none → fcap = 0) (hq : QAt P gq n a F cap W) (hP : P ≤ W.heap.size) (hF : F.length ≤ 4) (o1 : gc < gq) (o2 : gk < gq) (o3 : gw < gq) (o4 : B0 ≤ gc) (HB0 : ∀ b o, fa = some ⟨b, o, none⟩ → 0 < fxs.length → b < B0) :
    Calls Try.prog 17 #[.pointer (some ⟨gc, 0, none⟩), .int .u32 (ip : Nat), .slice fa fxs.length fcap, .int .i64 n] W (MoreAns gc gk gw ip P gq n a F fxs W) := by
  have HC := Lib.hid h
  have HY := Lib.hid hY
  have HQ := Lib.hid hq
  clear h hY hq
  go_enter Try.func17, Try.ntmps17
  go_wp2_with fail
  refine (check_any n _ HC.out h1 h2).mono ?_
  rintro e w' ⟨rfl, rfl⟩
  have j1 : ¬ ((fxs.length : Int) > 65535) := by omega
  have c2 := blk_cell HC.out.blk 2
  have q2 := blk_free HC.out.blk 2
  go_upto_region 7 with fail
  obtain ⟨s1, s2⟩ := HC.out.setNow n
  have C1 := Lib.hid s1
  have Y1 := Lib.hid (bts_turnedN HY.out s2 (fun b o e hl => by have := HB0 b o e hl; omega))
  have T1 := Lib.hid s2
  have Q1 := Lib.hid (HQ.out.turned s2 (by omega) (fun g e => by have := (HQ.out.own.ownB g (by rw [e]; rfl)).1; have := HQ.out.lt; omega) (fun f hf b o e hl => by have := (HQ.out.dj f hf b o e hl).1; have := HQ.out.lt; omega))
  clear c2 q2 s1 s2
  generalize W.setCell ⟨gc, 2, none⟩ (.int .i64 n) = W1 at C1 T1 Y1 Q1 ⊢
  go_wp2_with fail
  refine (find_no n _ C1.out hip).mono ?_
  rintro e W2 ⟨rfl, b⟩
  have C2 := Lib.hid (C1.out.below b)
  have Y2 := Lib.hid (Y1.out.below b)
  have T2 := Lib.hid (T1.out.andBelow b)
  have Q2 := Lib.hid (Q1.out.below b)
  clear Q1
  clear b C1 T1 Y1
  have c4 := blk_cell C2.out.blk 4
  have LK := q_hit (g := gq) C2.out.wt hip
  have hs2 := T2.out.size
  go_wp2_with fail
  refine (put_any P gq n a F cap fa fxs fcap W2 Q2.out (by omega) hF Y2.out hfc hfl (fun b o e hl => by
    have h1 := HB0 b o e hl
    rintro (h | h)
    · omega
    · have := (Q2.out.own.ownB b (by rw [h]; rfl)).1; have := Q2.out.lt; omega)).mono ?_
  rintro e V ⟨rfl, ⟨a5, c5, oa, oc, Q, hA, hO⟩, tp⟩
  have low : ∀ q, q < gq → ¬ PutS gq a q := fun q hq => by
    rintro (h | h)
    · omega
    · have := (Q2.out.own.ownB q (by rw [h]; rfl)).1; have := Q2.out.lt; omega
  have C5 := Lib.hid (C2.out.turned tp (low _ o1) (low _ o2) (low _ o3))
  have Q5 := Lib.hid Q
  have T5 : Hid (Turns (fun q => q = gc ∨ PutS gq a q) W V) := Lib.hid ((T2.out.mono (fun _ h => .inl h)).trans (tp.mono (fun _ h => .inr h)))
  have HA := Lib.hid hA
  have HO := Lib.hid hO
  clear LK c4 Q hA hO tp C2 Q2 Y2 T2 low HQ HC HY
  go_upto_region 17 with fail
  have c1 := blk_cell C5.out.blk 1
  have p1 := blk_cell Q5.out.blk 1
  have j3 : IntKind.i64.wrap (n - n) = 0 := by rw [Int.sub_self]; rfl
  go_quiet (fail)
  have b6 := below_drewN (Below.refl V.heap.size V) nq
  have C6 := Lib.hid (C5.out.below b6)
  have Q6 := Lib.hid (Q5.out.below b6)
  have T6 := Lib.hid (T5.out.andBelow b6)
  clear b6 c1 p1 C5 Q5 T5
  generalize V.drewN nq = V6 at C6 Q6 T6 ⊢
  go_wp2
  refine bodyPost_ret (v := .tuple #[.int .u64 0, .bool false, .bool false, .int .i64 0]) (by simp [results, Try.results17, go_sem]) rfl ?_
  exact ⟨rfl, ⟨a5, c5, oa, oc, C6.out, Q6.out, fun g e => (HA.out g e).imp id (fun h => by omega), fun b o e => by have := HO.out b o e; omega⟩, T6.out⟩
end Go.Proofs.Ytinlacdngojlaaa
