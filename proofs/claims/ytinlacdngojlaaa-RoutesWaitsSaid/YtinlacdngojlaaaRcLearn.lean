/- Routes: Learn at one key. -/
import Derived.Test.YtinlacdngojlaaaRcAsk
namespace Go.Proofs.Ytinlacdngojlaaa
open Go.RowKit Go.Maps Go.Proofs.Ytinlacdngojlaaa.Rt Go.Sort Go.BigFrame

set_option maxRecDepth 100000 in
set_option maxHeartbeats 2000000 in
theorem learn_again {gc gk gw ip : Nat} {now m0 t0 : Int} (mac n : Int) (W : World) (h : CaAt gc gk gw ip now (some (m0, t0)) none W) (hip : ip < 4294967296) (h1 : now ≤ n) (h2 : n ≤ 100) (hm : mac ≤ 281474976710655) :
    Calls Try.prog 18 #[.pointer (some ⟨gc, 0, none⟩), .int .u32 (ip : Nat), .int .u64 mac, .int .i64 n] W fun e w' => e = .returned (.tuple #[.slice none 0 0, .int .i64 0]) ∧ CaAt gc gk gw ip n (some (mac, n)) none w' ∧ Turns (fun q => q = gc ∨ q = gk ∨ q = gw) W w' := by
  have HC := Lib.hid h
  clear h
  go_enter Try.func18, Try.ntmps18
  go_wp2_with fail
  refine (check_any n _ HC.out h1 h2).mono ?_
  rintro e w' ⟨rfl, rfl⟩
  have j1 : ¬ (mac > 281474976710655) := by omega
  have c2 := blk_cell HC.out.blk 2
  have q2 := blk_free HC.out.blk 2
  go_upto_region 7 with fail
  obtain ⟨s1, s2⟩ := HC.out.setNow n
  have C1 := Lib.hid s1
  have T1 := Lib.hid s2
  clear c2 q2 s1 s2
  generalize W.setCell ⟨gc, 2, none⟩ (.int .i64 n) = W1 at C1 T1 ⊢
  have c3 := blk_cell C1.out.blk 3
  have LK := nb_hit (p := (m0, t0)) C1.out.kn hip
  dsimp only at LK
  go_upto_region 8 with fail
  have b := (Below.refl W1.heap.size W1).alloc (Nat.le_refl _) (.cells #[.int .u64 m0, .int .i64 t0] 82)
  have C2 := Lib.hid (C1.out.below b)
  have T2 := Lib.hid (T1.out.andBelow b)
  clear LK c3 b C1 T1
  generalize W1.alloc (.cells #[.int .u64 m0, .int .i64 t0] 82) = W2 at C2 T2 ⊢
  have c3 := blk_cell C2.out.blk 3
  obtain ⟨Z, hrun, hm', hg⟩ := C2.out.kn.put Try.underlying71 hip (nb_mk mac n)
  have tz : Turns (fun q => q = gc ∨ q = gk ∨ q = gw) W2 Z := .of_grown (fun q e => .inr (.inl (Option.some.inj e).symm)) hg
  have C3 : Hid (CaAt gc gk gw ip n (some (mac, n)) none Z) := Lib.hid ⟨(hg.block gc (blk_lt C2.out.blk) (fun e => C2.out.kn.neCells C2.out.blk (Option.some.inj e))).trans C2.out.blk, hm', C2.out.wt.moved (hg.block gw C2.out.wt.lt (fun e => C2.out.ne (Option.some.inj e).symm)), C2.out.ne⟩
  have T3 := Lib.hid ((T2.out.mono (fun _ h => Or.inl h)).trans tz)
  go_upto_region 11 with fail
  clear hrun hm' hg tz c3 C2 T2
  have c4 := blk_cell C3.out.blk 4
  have LQ := q_miss C3.out.wt hip
  go_wp2
  go_ret2
  exact ⟨rfl, C3.out, T3.out⟩
set_option maxRecDepth 100000 in
set_option maxHeartbeats 2000000 in
theorem learn_first {gc gk gw ip P gq : Nat} {now asked : Int} {a : Option Addr} {F : List Txt} {cap : Nat} (mac n : Int) (W : World) (h : CaAt gc gk gw ip now none (some gq) W) (hip : ip < 4294967296) (h1 : now ≤ n) (h2 : n ≤ 100) (hm : mac ≤ 281474976710655) (hq : QAt P gq asked a F cap W) (o1 : gc < gq) (o2 : gk < gq) (o3 : gw < gq) :
    Calls Try.prog 18 #[.pointer (some ⟨gc, 0, none⟩), .int .u32 (ip : Nat), .int .u64 mac, .int .i64 n] W fun e w' => e = .returned (.tuple #[.slice a F.length cap, .int .i64 0]) ∧ CaAt gc gk gw ip n (some (mac, n)) none w' ∧ QAt P gq asked a F cap w' ∧ Turns (fun q => q = gc ∨ q = gk ∨ q = gw) W w' := by
  have HC := Lib.hid h
  have HQ := Lib.hid hq
  clear h hq
  go_enter Try.func18, Try.ntmps18
  go_wp2_with fail
  refine (check_any n _ HC.out h1 h2).mono ?_
  rintro e w' ⟨rfl, rfl⟩
  have j1 : ¬ (mac > 281474976710655) := by omega
  have c2 := blk_cell HC.out.blk 2
  have q2 := blk_free HC.out.blk 2
  go_upto_region 7 with fail
  obtain ⟨s1, s2⟩ := HC.out.setNow n
  have C1 := Lib.hid s1
  have T1 := Lib.hid s2
  clear c2 q2 s1 s2
  generalize W.setCell ⟨gc, 2, none⟩ (.int .i64 n) = W1 at C1 T1 ⊢
  have c3 := blk_cell C1.out.blk 3
  have LK := nb_miss C1.out.kn hip
  go_upto_region 8 with fail
  have b := (Below.refl W1.heap.size W1).alloc (Nat.le_refl _) (.cells #[.int .u64 0, .int .i64 0] 82)
  have C2 := Lib.hid (C1.out.below b)
  have T2 := Lib.hid (T1.out.andBelow b)
  clear LK c3 b C1 T1
  generalize W1.alloc (.cells #[.int .u64 0, .int .i64 0] 82) = W2 at C2 T2 ⊢
  have c3 := blk_cell C2.out.blk 3
  have LN : ∀ ty, (Builtin.len_ #[71] ty #[.map (some gk)]).run Try.prog W2 = .ok (.int .i64 0) W2 := fun ty => C2.out.kn.len Try.underlying71 ty
  obtain ⟨Z, hrun, hm', hg⟩ := C2.out.kn.put Try.underlying71 hip (nb_mk mac n)
  have tz : Turns (fun q => q = gc ∨ q = gk ∨ q = gw) W2 Z := .of_grown (fun q e => .inr (.inl (Option.some.inj e).symm)) hg
  have C3 : Hid (CaAt gc gk gw ip n (some (mac, n)) (some gq) Z) := Lib.hid ⟨(hg.block gc (blk_lt C2.out.blk) (fun e => C2.out.kn.neCells C2.out.blk (Option.some.inj e))).trans C2.out.blk, hm', C2.out.wt.moved (hg.block gw C2.out.wt.lt (fun e => C2.out.ne (Option.some.inj e).symm)), C2.out.ne⟩
  have T3 := Lib.hid ((T2.out.mono (fun _ h => Or.inl h)).trans tz)
  go_upto_region 11 with fail
  clear LN hrun hm' hg tz c3 C2 T2
  have c4 := blk_cell C3.out.blk 4
  have LQ := q_hit (g := gq) C3.out.wt hip
  obtain ⟨Z2, hrun, hm', hg⟩ := C3.out.wt.del Try.underlying72 hip 0
  have tz : Turns (fun q => q = gc ∨ q = gk ∨ q = gw) Z Z2 := .of_grown (fun q e => .inr (.inr (Option.some.inj e).symm)) hg
  have C4 : Hid (CaAt gc gk gw ip n (some (mac, n)) none Z2) := Lib.hid ⟨(hg.block gc (blk_lt C3.out.blk) (fun e => C3.out.wt.neCells C3.out.blk (Option.some.inj e))).trans C3.out.blk, C3.out.kn.moved (hg.block gk C3.out.kn.lt (fun e => C3.out.ne (Option.some.inj e))), hm', C3.out.ne⟩
  have T4 := T3.out.trans tz
  have low : ∀ q, gq ≤ q → ¬ (q = gc ∨ q = gk ∨ q = gw) := fun q h e => by omega
  have Q4 : QAt P gq asked a F cap Z2 := HQ.out.turned T4 (low _ (Nat.le_refl _)) (fun g e => low _ (by have := (HQ.out.own.ownB g (by rw [e]; rfl)).1; have := HQ.out.lt; omega)) (fun f hf b o e hl => low _ (by have := (HQ.out.dj f hf b o e hl).1; have := HQ.out.lt; omega))
  have p0 := blk_cell Q4.blk 0
  have HQ4 := Lib.hid Q4
  have HT4 := Lib.hid T4
  clear Q4 T4 tz hg low hm'
  go_wp2
  go_ret2
  exact ⟨rfl, C4.out, HQ4.out, HT4.out⟩
set_option maxRecDepth 100000 in
set_option maxHeartbeats 2000000 in
theorem learn_empty {gc gk gw ip : Nat} {now : Int} (mac n : Int) (W : World) (h : CaAt gc gk gw ip now none none W) (hip : ip < 4294967296) (h1 : now ≤ n) (h2 : n ≤ 100) (hm : mac ≤ 281474976710655) :
    Calls Try.prog 18 #[.pointer (some ⟨gc, 0, none⟩), .int .u32 (ip : Nat), .int .u64 mac, .int .i64 n] W fun e w' => e = .returned (.tuple #[.slice none 0 0, .int .i64 0]) ∧ CaAt gc gk gw ip n (some (mac, n)) none w' ∧ Turns (fun q => q = gc ∨ q = gk ∨ q = gw) W w' := by
  have HC := Lib.hid h
  clear h
  go_enter Try.func18, Try.ntmps18
  go_wp2_with fail
  refine (check_any n _ HC.out h1 h2).mono ?_
  rintro e w' ⟨rfl, rfl⟩
  have j1 : ¬ (mac > 281474976710655) := by omega
  have c2 := blk_cell HC.out.blk 2
  have q2 := blk_free HC.out.blk 2
  go_upto_region 7 with fail
  obtain ⟨s1, s2⟩ := HC.out.setNow n
  have C1 := Lib.hid s1
  have T1 := Lib.hid s2
  clear c2 q2 s1 s2
  generalize W.setCell ⟨gc, 2, none⟩ (.int .i64 n) = W1 at C1 T1 ⊢
  have c3 := blk_cell C1.out.blk 3
  have LK := nb_miss C1.out.kn hip
  go_upto_region 8 with fail
  have b := (Below.refl W1.heap.size W1).alloc (Nat.le_refl _) (.cells #[.int .u64 0, .int .i64 0] 82)
  have C2 := Lib.hid (C1.out.below b)
  have T2 := Lib.hid (T1.out.andBelow b)
  clear LK c3 b C1 T1
  generalize W1.alloc (.cells #[.int .u64 0, .int .i64 0] 82) = W2 at C2 T2 ⊢
  have c3 := blk_cell C2.out.blk 3
  have LN : ∀ ty, (Builtin.len_ #[71] ty #[.map (some gk)]).run Try.prog W2 = .ok (.int .i64 0) W2 := fun ty => C2.out.kn.len Try.underlying71 ty
  obtain ⟨Z, hrun, hm', hg⟩ := C2.out.kn.put Try.underlying71 hip (nb_mk mac n)
  have tz : Turns (fun q => q = gc ∨ q = gk ∨ q = gw) W2 Z := .of_grown (fun q e => .inr (.inl (Option.some.inj e).symm)) hg
  have C3 : Hid (CaAt gc gk gw ip n (some (mac, n)) none Z) := Lib.hid ⟨(hg.block gc (blk_lt C2.out.blk) (fun e => C2.out.kn.neCells C2.out.blk (Option.some.inj e))).trans C2.out.blk, hm', C2.out.wt.moved (hg.block gw C2.out.wt.lt (fun e => C2.out.ne (Option.some.inj e).symm)), C2.out.ne⟩
  have T3 := Lib.hid ((T2.out.mono (fun _ h => Or.inl h)).trans tz)
  go_upto_region 11 with fail
  clear LN hrun hm' hg tz c3 C2 T2
  have c4 := blk_cell C3.out.blk 4
  have LQ := q_miss C3.out.wt hip
  go_wp2
  go_ret2
  exact ⟨rfl, C3.out, T3.out⟩
end Go.Proofs.Ytinlacdngojlaaa
