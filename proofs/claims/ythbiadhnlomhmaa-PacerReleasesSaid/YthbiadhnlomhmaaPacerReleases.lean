/- For any packets that are pushed into a pacer and any steps of the clock: each that waits is released once, not ahead of its departure, in the order of departures. No condition. -/
import Derived.Test.YthbiadhnlomhmaaRows
import Derived.Test.YthbiadhnlomhmaaPhI
import Derived.Test.YthbiadhnlomhmaaGAgg
import Derived.Deep.DeepCutAuto
import Derived.RegionTactic
import Derived.Deep.RegionHeld3
import Derived.Lib.MinMax
import Derived.ProofKit
import Derived.OpenShut
import Derived.ChangeOld
import Derived.SizedLaws
namespace Go.Proofs.Ythbiadhnlomhmaa.pacerReleases
open Go.ChangeShapes Go.WideShapes Go.ChangeAt Go.RowKit Go.Deep Go.Proofs.Ythbiadhnlomhmaa.Ph Go.Proofs.Ythbiadhnlomhmaa.Pc

theorem heap_range (k : Nat) : Heap (List.range k).length (List.range k) := fun j h0 hj => by
  rw [List.length_range] at hj
  unfold at0
  simp only [List.getD_eq_getElem?_getD]
  rw [List.getElem?_range (by omega), List.getElem?_range hj]
  show (j - 1) / 2 ≤ j
  omega
theorem disj_app2 {n : Nat} {a a' b : Option Addr} (h : Disj a b) (ha : ∀ g, a' = some ⟨g, 0, none⟩ → a = some ⟨g, 0, none⟩ ∨ n ≤ g) (hb : ∀ g, b = some ⟨g, 0, none⟩ → g < n) : Disj a' b := by
  intro g e1 e2
  rcases ha g e1 with h1 | h1
  · exact h g h1 e2
  · have := hb g e2; omega
theorem turned_two {a aa : Option Addr} {p ac : Nat} {xs : List Int} {W W' : World} (OA : OwnR 3 1 IC (p + 1) aa xs ac W) (DJ : Disj aa a) (T : Turns (fun b => b = p ∨ a = some ⟨b, 0, none⟩) W W') : OwnR 3 1 IC (p + 1) aa xs ac W' := by
  refine OA.turned T ?_
  intro g e h
  have h1 := (OA.ownB g (by rw [e]; rfl)).1
  rcases h with h2 | h2
  · omega
  · exact DJ g e h2
theorem below_two {a : Option Addr} {p N : Nat} {w W W' : World} (Q : Below N w W) (T : Turns (fun b => b = p ∨ a = some ⟨b, 0, none⟩) W W') (hN : N ≤ W.heap.size) (hn : N ≤ p) (ha : ∀ g, a = some ⟨g, 0, none⟩ → p + 1 ≤ g) : Below N w W' := by
  refine Q.trans (T.below hN ?_)
  rintro b (h1 | h1)
  · omega
  · have := ha b h1; omega
theorem plen_any (g : Nat) (x1 x2 x3 : Value) (a : Option Addr) (n cap : Nat) (w : World) (h : w.heap[g]? = some (.cells #[.bool true, x1, x2, x3, .slice a n cap] 47 (0, 0))) : Calls Try.prog 11 #[.pointer (some ⟨g, 0, none⟩)] w fun e w' => e = .returned (.int .i64 n) ∧ w = w' := by
  have c4 := blk_cell h 4
  go_enter Try.func11, Try.ntmps11
  go_wp2
  go_ret
  exact ⟨rfl, rfl⟩
theorem low_keep {a : Option Addr} {p lb j n : Nat} {v : Value} {W W' : World} (ht : Turns (fun b => b = p ∨ a = some ⟨b, 0, none⟩) W W') (hl : lb < n) (hn : n ≤ p) (ha : ∀ g, a = some ⟨g, 0, none⟩ → p + 1 ≤ g) (h : W.cell? ⟨lb, j, none⟩ = some v) : W'.cell? ⟨lb, j, none⟩ = some v := by
  have hlt : lb < W.heap.size := World.block_lt_of_cell? _ _ h
  refine (World.cell?_of_block (ht.block lb hlt ?_)).trans h
  rintro (h1 | h1)
  · omega
  · have := ha lb h1; omega

set_option linter.unusedSimpArgs false in
set_option maxRecDepth 100000 in
set_option maxHeartbeats 2000000 in
theorem walk (la : Option Addr) (ls : List Step14) (lc : Nat) (st : Int) (w : World)
    (hl : Sts 6 Step14.cells Step14.ok w la ls) (_ : la = none → lc = 0) (hll : ls.length ≤ 2932031007317) (_ : -9223372036854775808 ≤ st) (_ : st ≤ 9223372036854775807) :
    Calls Try.prog 4 #[.slice la ls.length lc, .int .i64 st] w fun e w' => e = .returned (.bool true) ∧ Below w.heap.size w w' := by
  have HL := Lib.hid hl
  have HLL := Lib.hid hll
  clear hl hll
  go_enter Try.func4, Try.ntmps4
  go_upto_region 4 with (first
    | (go_at_call 5; refine (alive_any _).mono ?_; rintro e V1 ⟨rfl, b⟩; have Q1 := Lib.hid b; clear b)
    | (go_at_call 8; refine (pnew_ok _).mono ?_; rintro e V2 ⟨rfl, rfl⟩)
    | fail)
  have b2 := (Below.refl V1.heap.size V1).alloc (Nat.le_refl _) (.cells #[.bool true, .int .i64 0, .int .i64 0, .int .i64 0, .slice none 0 0] 47)
  have H2 := Lib.hid (blk_new V1 (.cells #[.bool true, .int .i64 0, .int .i64 0, .int .i64 0, .slice none 0 0] 47))
  have Q2 := Lib.hid (Q1.out.trans (b2.mono Q1.out.size))
  have PW : Hid (w.heap.size ≤ V1.heap.size) := Lib.hid Q1.out.size
  clear b2 Q1
  generalize V1.alloc (.cells #[.bool true, .int .i64 0, .int .i64 0, .int .i64 0, .slice none 0 0] 47) = V2 at H2 Q2 ⊢
  generalize V1.heap.size = p at H2 PW ⊢
  have r0 := nz_in st (show (0 : Int) < 40 by omega)
  obtain ⟨r1, hr1⟩ : ∃ z, st.tmod 40 = z := ⟨_, rfl⟩
  obtain ⟨r2, hr2⟩ : ∃ z, nz st 40 = z := ⟨_, rfl⟩
  have hr2' : (r1 + 40).tmod 40 = r2 := by rw [← hr2, ← hr1]; rfl
  rw [hr1, hr2] at r0
  obtain ⟨s, hs⟩ : ∃ s : Nat, 1 + r2 = (s : Int) := ⟨(1 + r2).toNat, by omega⟩
  have hs40 : 1 ≤ s ∧ s ≤ 40 := by omega
  have W1 : IntKind.i64.wrap (st.tmod 40) = r1 := by rw [hr1]; exact IntWalk.i64_in _ ⟨by omega, by omega⟩
  have W2 : IntKind.i64.wrap (r1 + 40) = r1 + 40 := IntWalk.i64_in _ ⟨by omega, by omega⟩
  have W3 : IntKind.i64.wrap ((r1 + 40).tmod 40) = r2 := by rw [hr2']; exact IntWalk.i64_in _ ⟨by omega, by omega⟩
  have W4 : IntKind.i64.wrap (1 + r2) = (s : Int) := by rw [hs]; exact IntWalk.i64_in _ ⟨by omega, by omega⟩
  go_upto_region 8 with fail
  have HS40 := Lib.hid hs40
  clear W1 W2 W3 W4 r0 hr1 hr2 hr2' hs hs40
  obtain ⟨n, hn⟩ : ∃ n, min ls.length 60 = n := ⟨_, rfl⟩
  have HN := Lib.hid (show n ≤ ls.length ∧ n ≤ 60 ∧ (n < ls.length → n = 60) by omega)
  clear hn
  go_wp2
  go_loopw [6, 7] (fun av iv wr => ∃ (k : Nat) (aa : Option Addr) (ac : Nat) (a : Option Addr) (cap : Nat), k ≤ n ∧ iv = .int .i64 k ∧ av = .slice aa k ac ∧ OwnR 3 1 IC (p + 1) aa (deps ls k) ac wr ∧ wr.heap[p]? = some (.cells #[.bool true, .int .i64 (depV ls k), .int .i64 0, .int .i64 (k : Nat), .slice a k cap] 47 (0, 0)) ∧ OwnR 51 3 (PKC (depV ls)) (p + 1) a (List.range k) cap wr ∧ Disj aa a ∧ Below w.heap.size w wr ∧ p < wr.heap.size) (fun _ iv _ => n - (intOf iv).toNat)
  case atStart => exact ⟨0, none, 0, none, 0, by omega, rfl, rfl, ownR_nil _ _ _ _ _, H2.out, ownR_nil _ _ _ _ _, Disj.nil _, Q2.out, blk_lt H2.out⟩
  case round =>
    obtain ⟨k, aa, ac, a, cap, hkn, rfl, rfl, h1, h2, h3, h4, h5, h6⟩ := hrel
    have OA := Lib.hid h1
    have HB := Lib.hid h2
    have OP := Lib.hid h3
    have DJ := Lib.hid h4
    have QW := Lib.hid h5
    have PLT := Lib.hid h6
    clear h1 h2 h3 h4 h5 h6
    by_cases hlt : k < n
    · have hn3 := HN.out
      obtain ⟨x, hx⟩ : ∃ x, ls[k]? = some x := ⟨_, List.getElem?_eq_getElem (by omega)⟩
      obtain ⟨_, lb, lo, rfl, hlb, hcell⟩ := HL.out.at hx
      have cs2 := (QW.out.cell (p := ⟨lb, lo + k * 6 + 2, none⟩) hlb).trans (hcell 2 (.int .i64 x.sz) rfl)
      have cs3 := (QW.out.cell (p := ⟨lb, lo + k * 6 + 3, none⟩) hlb).trans (hcell 3 (.int .i64 x.rate) rfl)
      have LLB := Lib.hid hlb
      have i1 : (k : Int) < (ls.length : Int) := by omega
      have i1n : k < ls.length := by omega
      have i1d : decide ((k : Int) < (ls.length : Int)) = true := decide_eq_true i1
      have i1e : decide (k < ls.length) = true := decide_eq_true i1n
      have i2 : (k : Int) < 60 := by omega
      have i2n : k < 60 := by omega
      have i2e : decide (k < 60) = true := decide_eq_true i2n
      obtain ⟨hE, hN1, hT⟩ := dep_push hx i2n
      have hlen : (deps ls k).length = k := deps_len ls k
      have HXK := Lib.hid hx
      clear hcell hx
      go_upto_region 11 with fail
      clear i1d i1e i2e
      have s0 := nz_in x.sz (show (0 : Int) < 1500 by omega)
      have t0 := nz_in x.rate (show (0 : Int) < 100000 by omega)
      obtain ⟨s1, hs1⟩ : ∃ z, x.sz.tmod 1500 = z := ⟨_, rfl⟩
      obtain ⟨s2, hs2⟩ : ∃ z, nz x.sz 1500 = z := ⟨_, rfl⟩
      have hs2' : (s1 + 1500).tmod 1500 = s2 := by rw [← hs2, ← hs1]; rfl
      obtain ⟨t1, ht1⟩ : ∃ z, x.rate.tmod 100000 = z := ⟨_, rfl⟩
      obtain ⟨t2, ht2⟩ : ∃ z, nz x.rate 100000 = z := ⟨_, rfl⟩
      have ht2' : (t1 + 100000).tmod 100000 = t2 := by rw [← ht2, ← ht1]; rfl
      rw [hs1, hs2] at s0
      rw [ht1, ht2] at t0
      have hsz : 1 + s2 = szV x := by unfold szV; rw [hs2]
      have hrt : 1000 + t2 = rtV x := by unfold rtV; rw [ht2]
      have hsb := szV_in x
      have hrb := rtV_in x
      generalize szV x = z at hE hN1 hT hsz hsb
      generalize rtV x = r at hE hN1 hT hrt hrb
      have hu : (k : Int) = ((deps ls k).length : Int) := by rw [hlen]
      have OPD := Lib.hid (OP.out.below (Below.refl wr.heap.size wr).drew)
      have HPU := Lib.hid (ppush_ok (depV ls) (depV_mono ls) (p + 1) p (depV ls k) 0 a (List.range k) cap k z r 0 0 (depV ls (k + 1)) wr.drew (show wr.drew.heap[p]? = _ by rw [List.length_range]; exact HB.out) (Nat.lt_succ_self p) (show p + 1 ≤ wr.drew.heap.size from PLT.out) OPD.out (by rw [List.length_range]; omega) (by omega) (fun y hy => by have := List.mem_range.1 hy; omega) (heap_range k) hE hN1 hT (Int.le_refl 0))
      have WZ : Hid (IntKind.i64.wrap (1 + (IntKind.i64.wrap (x.sz.tmod 1500 + 1500)).tmod 1500) = z) := Lib.hid (by
        rw [hs1, IntWalk.i64_in (s1 + 1500) ⟨by omega, by omega⟩, hs2', hsz]
        exact IntWalk.i64_in _ ⟨by omega, by omega⟩)
      have WR : Hid (IntKind.i64.wrap (1000 + (IntKind.i64.wrap (x.rate.tmod 100000 + 100000)).tmod 100000) = r) := Lib.hid (by
        rw [ht1, IntWalk.i64_in (t1 + 100000) ⟨by omega, by omega⟩, ht2', hrt]
        exact IntWalk.i64_in _ ⟨by omega, by omega⟩)
      clear hE hN1 hT hs1 hs2 hs2' ht1 ht2 ht2' hsz hrt hsb hrb s0 t0 hu hn3
      refine wp_region_held_drew (S := fun W' => (W'.cell? ⟨lb, lo + k * 6 + 2, none⟩ = some (.int .i64 x.sz) ∧ W'.cell? ⟨lb, lo + k * 6 + 3, none⟩ = some (.int .i64 x.rate))) (by kernel_rfl) ⟨cs2, cs3⟩ (fun hHeld => ?_)
      refine wpAnyH_take (i := 0) (oi := _) (v := ?_) rfl (by kernel_rfl) (by kernel_rfl) (by kernel_rfl) (fun _ _ _ h => h) (Or.inl ⟨by rfl, ?_⟩) (by assumption) ?_
      rotate_left
      · intro w5 hSw
        clear hSw
        go_simp
        all_goals with_reducible rfl
      (try simp only [List.getElem_toArray]); (try simp only [List.getElem_cons_succ]); (try simp only [List.getElem_cons_zero]); try simp only [Act.put, List.setIfInBounds_toArray, List.set_cons_zero, List.set_cons_succ]
      refine wpAnyH_take (i := 1) (oi := _) (v := ?_) rfl (by kernel_rfl) (by kernel_rfl) (by kernel_rfl) (fun _ _ _ h => h) (Or.inl ⟨by rfl, ?_⟩) (by assumption) ?_
      rotate_left
      · intro w5 hSw
        clear hSw
        go_simp
        all_goals with_reducible rfl
      (try simp only [List.getElem_toArray]); (try simp only [List.getElem_cons_succ]); (try simp only [List.getElem_cons_zero]); try simp only [Act.put, List.setIfInBounds_toArray, List.set_cons_zero, List.set_cons_succ]
      refine wpAnyH_take (i := 2) (oi := _) (v := ?_) rfl (by kernel_rfl) (by kernel_rfl) (by kernel_rfl) (fun _ _ _ h => h) (Or.inl ⟨by rfl, ?_⟩) (by assumption) ?_
      rotate_left
      · intro w5 hSw
        clear hSw
        go_simp
        all_goals with_reducible rfl
      (try simp only [List.getElem_toArray]); (try simp only [List.getElem_cons_succ]); (try simp only [List.getElem_cons_zero]); try simp only [Act.put, List.setIfInBounds_toArray, List.set_cons_zero, List.set_cons_succ]
      refine wpAnyH_take (i := 3) (oi := _) (v := ?_) rfl (by kernel_rfl) (by kernel_rfl) (by kernel_rfl) (fun _ _ _ h => h) (Or.inl ⟨by rfl, ?_⟩) (by assumption) ?_
      rotate_left
      · intro w5 hSw
        clear hSw
        go_simp
        all_goals with_reducible rfl
      (try simp only [List.getElem_toArray]); (try simp only [List.getElem_cons_succ]); (try simp only [List.getElem_cons_zero]); try simp only [Act.put, List.setIfInBounds_toArray, List.set_cons_zero, List.set_cons_succ]
      refine wpAnyH_take (i := 4) (oi := _) (v := ?_) rfl (by kernel_rfl) (by kernel_rfl) (by kernel_rfl) (fun _ _ _ h => h) (Or.inl ⟨by rfl, ?_⟩) (by assumption) ?_
      rotate_left
      · intro w5 hSw
        clear hSw
        go_simp
        all_goals with_reducible rfl
      (try simp only [List.getElem_toArray]); (try simp only [List.getElem_cons_succ]); (try simp only [List.getElem_cons_zero]); try simp only [Act.put, List.setIfInBounds_toArray, List.set_cons_zero, List.set_cons_succ]
      refine wpAnyH_take (i := 5) (oi := _) (v := ?_) rfl (by kernel_rfl) (by kernel_rfl) (by kernel_rfl) (fun _ _ _ h => h) (Or.inl ⟨by rfl, ?_⟩) (by assumption) ?_
      rotate_left
      · intro w5 hSw
        clear hSw
        go_simp
        all_goals with_reducible rfl
      (try simp only [List.getElem_toArray]); (try simp only [List.getElem_cons_succ]); (try simp only [List.getElem_cons_zero]); try simp only [Act.put, List.setIfInBounds_toArray, List.set_cons_zero, List.set_cons_succ]
      refine wpAnyH_take (i := 6) (oi := _) (v := ?_) rfl (by kernel_rfl) (by kernel_rfl) (by kernel_rfl) (fun _ _ _ h => h) (Or.inl ⟨by rfl, ?_⟩) (by assumption) ?_
      rotate_left
      · intro w5 hSw
        clear hSw
        go_simp
        all_goals with_reducible rfl
      (try simp only [List.getElem_toArray]); (try simp only [List.getElem_cons_succ]); (try simp only [List.getElem_cons_zero]); try simp only [Act.put, List.setIfInBounds_toArray, List.set_cons_zero, List.set_cons_succ]
      refine wpAnyH_take (i := 7) (oi := _) (v := ?_) rfl (by kernel_rfl) (by kernel_rfl) (by kernel_rfl) (fun _ _ _ h => h) (Or.inl ⟨by rfl, ?_⟩) (by assumption) ?_
      rotate_left
      · intro w5 hSw
        have t0 := hSw.1
        clear hSw
        go_simp
        all_goals with_reducible rfl
      (try simp only [List.getElem_toArray]); (try simp only [List.getElem_cons_succ]); (try simp only [List.getElem_cons_zero]); try simp only [Act.put, List.setIfInBounds_toArray, List.set_cons_zero, List.set_cons_succ]
      refine wpAnyH_take (i := 8) (oi := _) (v := ?_) rfl (by kernel_rfl) (by kernel_rfl) (by kernel_rfl) (fun _ _ _ h => h) (Or.inl ⟨by rfl, ?_⟩) (by assumption) ?_
      rotate_left
      · intro w5 hSw
        clear hSw
        go_simp
        all_goals with_reducible rfl
      (try simp only [List.getElem_toArray]); (try simp only [List.getElem_cons_succ]); (try simp only [List.getElem_cons_zero]); try simp only [Act.put, List.setIfInBounds_toArray, List.set_cons_zero, List.set_cons_succ]
      refine wpAnyH_take (i := 9) (oi := _) (v := ?_) rfl (by kernel_rfl) (by kernel_rfl) (by kernel_rfl) (fun _ _ _ h => h) (Or.inl ⟨by rfl, ?_⟩) (by assumption) ?_
      rotate_left
      · intro w5 hSw
        clear hSw
        go_simp
        all_goals with_reducible rfl
      (try simp only [List.getElem_toArray]); (try simp only [List.getElem_cons_succ]); (try simp only [List.getElem_cons_zero]); try simp only [Act.put, List.setIfInBounds_toArray, List.set_cons_zero, List.set_cons_succ]
      refine wpAnyH_take (i := 10) (oi := _) (v := ?_) rfl (by kernel_rfl) (by kernel_rfl) (by kernel_rfl) (fun _ _ _ h => h) (Or.inl ⟨by rfl, ?_⟩) (by assumption) ?_
      rotate_left
      · intro w5 hSw
        clear hSw
        go_simp
        all_goals with_reducible rfl
      (try simp only [List.getElem_toArray]); (try simp only [List.getElem_cons_succ]); (try simp only [List.getElem_cons_zero]); try simp only [Act.put, List.setIfInBounds_toArray, List.set_cons_zero, List.set_cons_succ]
      refine wpAnyH_take (i := 11) (oi := _) (v := ?_) rfl (by kernel_rfl) (by kernel_rfl) (by kernel_rfl) (fun _ _ _ h => h) (Or.inl ⟨by rfl, ?_⟩) (by assumption) ?_
      rotate_left
      · intro w5 hSw
        clear hSw
        go_simp
        all_goals with_reducible rfl
      (try simp only [List.getElem_toArray]); (try simp only [List.getElem_cons_succ]); (try simp only [List.getElem_cons_zero]); try simp only [Act.put, List.setIfInBounds_toArray, List.set_cons_zero, List.set_cons_succ]
      refine wpAnyH_take (i := 12) (oi := _) (v := ?_) rfl (by kernel_rfl) (by kernel_rfl) (by kernel_rfl) (fun _ _ _ h => h) (Or.inl ⟨by rfl, ?_⟩) (by assumption) ?_
      rotate_left
      · intro w5 hSw
        clear hSw
        go_simp
        all_goals with_reducible rfl
      (try simp only [List.getElem_toArray]); (try simp only [List.getElem_cons_succ]); (try simp only [List.getElem_cons_zero]); try simp only [Act.put, List.setIfInBounds_toArray, List.set_cons_zero, List.set_cons_succ]
      refine wpAnyH_take (i := 13) (oi := _) (v := ?_) rfl (by kernel_rfl) (by kernel_rfl) (by kernel_rfl) (fun _ _ _ h => h) (Or.inl ⟨by rfl, ?_⟩) (by assumption) ?_
      rotate_left
      · intro w5 hSw
        clear hSw
        go_simp
        all_goals with_reducible rfl
      (try simp only [List.getElem_toArray]); (try simp only [List.getElem_cons_succ]); (try simp only [List.getElem_cons_zero]); try simp only [Act.put, List.setIfInBounds_toArray, List.set_cons_zero, List.set_cons_succ]
      refine wpAnyH_take (i := 14) (oi := _) (v := ?_) rfl (by kernel_rfl) (by kernel_rfl) (by kernel_rfl) (fun _ _ _ h => h) (Or.inl ⟨by rfl, ?_⟩) (by assumption) ?_
      rotate_left
      · intro w5 hSw
        clear hSw
        go_simp
        all_goals with_reducible rfl
      (try simp only [List.getElem_toArray]); (try simp only [List.getElem_cons_succ]); (try simp only [List.getElem_cons_zero]); try simp only [Act.put, List.setIfInBounds_toArray, List.set_cons_zero, List.set_cons_succ]
      refine wpAnyH_take (i := 15) (oi := _) (v := ?_) rfl (by kernel_rfl) (by kernel_rfl) (by kernel_rfl) (fun _ _ _ h => h) (Or.inl ⟨by rfl, ?_⟩) (by assumption) ?_
      rotate_left
      · intro w5 hSw
        clear hSw
        go_simp
        all_goals with_reducible rfl
      (try simp only [List.getElem_toArray]); (try simp only [List.getElem_cons_succ]); (try simp only [List.getElem_cons_zero]); try simp only [Act.put, List.setIfInBounds_toArray, List.set_cons_zero, List.set_cons_succ]
      refine wpAnyH_take (i := 16) (oi := _) (v := ?_) rfl (by kernel_rfl) (by kernel_rfl) (by kernel_rfl) (fun _ _ _ h => h) (Or.inl ⟨by rfl, ?_⟩) (by assumption) ?_
      rotate_left
      · intro w5 hSw
        have t0 := hSw.2
        clear hSw
        go_simp
        all_goals with_reducible rfl
      (try simp only [List.getElem_toArray]); (try simp only [List.getElem_cons_succ]); (try simp only [List.getElem_cons_zero]); try simp only [Act.put, List.setIfInBounds_toArray, List.set_cons_zero, List.set_cons_succ]
      refine wpAnyH_take (i := 17) (oi := _) (v := ?_) rfl (by kernel_rfl) (by kernel_rfl) (by kernel_rfl) (fun _ _ _ h => h) (Or.inl ⟨by rfl, ?_⟩) (by assumption) ?_
      rotate_left
      · intro w5 hSw
        clear hSw
        go_simp
        all_goals with_reducible rfl
      (try simp only [List.getElem_toArray]); (try simp only [List.getElem_cons_succ]); (try simp only [List.getElem_cons_zero]); try simp only [Act.put, List.setIfInBounds_toArray, List.set_cons_zero, List.set_cons_succ]
      refine wpAnyH_take (i := 18) (oi := _) (v := ?_) rfl (by kernel_rfl) (by kernel_rfl) (by kernel_rfl) (fun _ _ _ h => h) (Or.inl ⟨by rfl, ?_⟩) (by assumption) ?_
      rotate_left
      · intro w5 hSw
        clear hSw
        go_simp
        all_goals with_reducible rfl
      (try simp only [List.getElem_toArray]); (try simp only [List.getElem_cons_succ]); (try simp only [List.getElem_cons_zero]); try simp only [Act.put, List.setIfInBounds_toArray, List.set_cons_zero, List.set_cons_succ]
      refine wpAnyH_take (i := 19) (oi := _) (v := ?_) rfl (by kernel_rfl) (by kernel_rfl) (by kernel_rfl) (fun _ _ _ h => h) (Or.inl ⟨by rfl, ?_⟩) (by assumption) ?_
      rotate_left
      · intro w5 hSw
        clear hSw
        go_simp
        all_goals with_reducible rfl
      (try simp only [List.getElem_toArray]); (try simp only [List.getElem_cons_succ]); (try simp only [List.getElem_cons_zero]); try simp only [Act.put, List.setIfInBounds_toArray, List.set_cons_zero, List.set_cons_succ]
      refine wpAnyH_take (i := 20) (oi := _) (v := ?_) rfl (by kernel_rfl) (by kernel_rfl) (by kernel_rfl) (fun _ _ _ h => h) (Or.inl ⟨by rfl, ?_⟩) (by assumption) ?_
      rotate_left
      · intro w5 hSw
        clear hSw
        go_simp
        all_goals with_reducible rfl
      (try simp only [List.getElem_toArray]); (try simp only [List.getElem_cons_succ]); (try simp only [List.getElem_cons_zero]); try simp only [Act.put, List.setIfInBounds_toArray, List.set_cons_zero, List.set_cons_succ]
      refine wpAnyH_ready (rs := [21]) (by kernel_rfl) (by simp) ?_
      refine (AllReadyH.cons (o := _) rfl (fun K hK => ?_) AllReadyH.nil)
      · (try simp only [List.getElem_toArray]); (try simp only [List.getElem_cons_succ]); (try simp only [List.getElem_cons_zero])
        go_simp
        rw [WZ.out, WR.out]
        go_at_call 9
        refine HPU.out.mono ?_
        rintro e V5 ⟨rfl, ⟨a', cap', hb5, o5, a5, t5⟩, h5⟩
        try dsimp only
        have HB5 := Lib.hid hb5
        have OP5 := Lib.hid o5
        have A5 := Lib.hid a5
        have T5 := Lib.hid t5
        clear hb5 o5 a5 t5 h5
        refine hK.out _ _ ?_ (fun hHeld => ?_)
        · exact ⟨low_keep T5.out LLB.out PW.out (fun g e => (OPD.out.ownB g (by rw [e]; rfl)).1) hHeld.1, low_keep T5.out LLB.out PW.out (fun g e => (OPD.out.ownB g (by rw [e]; rfl)).1) hHeld.2⟩
        clear hK K
        (try simp only [List.getElem_toArray]); (try simp only [List.getElem_cons_succ]); (try simp only [List.getElem_cons_zero]); try simp only [Act.put, List.setIfInBounds_toArray, List.set_cons_zero, List.set_cons_succ]
        refine wpAnyH_take (i := 22) (oi := _) (v := ?_) rfl (by kernel_rfl) (by kernel_rfl) (by kernel_rfl) (fun _ _ _ h => h) (Or.inl ⟨by rfl, ?_⟩) (by assumption) ?_
        rotate_left
        · intro w5 hSw
          clear hSw
          go_simp
          all_goals with_reducible rfl
        (try simp only [List.getElem_toArray]); (try simp only [List.getElem_cons_succ]); (try simp only [List.getElem_cons_zero]); try simp only [Act.put, List.setIfInBounds_toArray, List.set_cons_zero, List.set_cons_succ]
        refine wpAnyH_take (i := 23) (oi := _) (v := ?_) rfl (by kernel_rfl) (by kernel_rfl) (by kernel_rfl) (fun _ _ _ h => h) (Or.inl ⟨by rfl, ?_⟩) (by assumption) ?_
        rotate_left
        · intro w5 hSw
          clear hSw
          go_simp
          all_goals with_reducible rfl
        (try simp only [List.getElem_toArray]); (try simp only [List.getElem_cons_succ]); (try simp only [List.getElem_cons_zero]); try simp only [Act.put, List.setIfInBounds_toArray, List.set_cons_zero, List.set_cons_succ]
        refine wpAnyH_take (i := 24) (oi := _) (v := ?_) rfl (by kernel_rfl) (by kernel_rfl) (by kernel_rfl) (fun _ _ _ h => h) (Or.inl ⟨by rfl, ?_⟩) (by assumption) ?_
        rotate_left
        · intro w5 hSw
          clear hSw
          go_simp
          all_goals with_reducible rfl
        (try simp only [List.getElem_toArray]); (try simp only [List.getElem_cons_succ]); (try simp only [List.getElem_cons_zero]); try simp only [Act.put, List.setIfInBounds_toArray, List.set_cons_zero, List.set_cons_succ]
        refine wpAnyH_take (i := 25) (oi := _) (v := ?_) rfl (by kernel_rfl) (by kernel_rfl) (by kernel_rfl) (fun _ _ _ h => h) (Or.inl ⟨by rfl, ?_⟩) (by assumption) ?_
        rotate_left
        · intro w5 hSw
          clear hSw
          go_simp
          all_goals with_reducible rfl
        (try simp only [List.getElem_toArray]); (try simp only [List.getElem_cons_succ]); (try simp only [List.getElem_cons_zero]); try simp only [Act.put, List.setIfInBounds_toArray, List.set_cons_zero, List.set_cons_succ]
        refine wpAnyH_take (i := 26) (oi := _) (v := ?_) rfl (by kernel_rfl) (by kernel_rfl) (by kernel_rfl) (fun _ _ _ h => h) (Or.inl ⟨by rfl, ?_⟩) (by assumption) ?_
        rotate_left
        · intro w5 hSw
          clear hSw
          go_simp
          all_goals with_reducible rfl
        (try simp only [List.getElem_toArray]); (try simp only [List.getElem_cons_succ]); (try simp only [List.getElem_cons_zero]); try simp only [Act.put, List.setIfInBounds_toArray, List.set_cons_zero, List.set_cons_succ]
        refine wpAnyH_done (by kernel_rfl) ?_ _
        have T6 : Hid (Turns (fun b => b = p ∨ a = some ⟨b, 0, none⟩) wr V5) := Lib.hid ((Turns.of_below _ (Below.refl wr.heap.size wr).drew).trans T5.out)
        have OA6 := Lib.hid (turned_two OA.out DJ.out T6.out)
        have DJ6 : Hid (Disj aa a') := Lib.hid (disj_app2 (n := wr.heap.size) DJ.out.symm (fun g e => A5.out g e) (fun g e => OA.out.ltB g e)).symm
        have QW6 := Lib.hid (below_two QW.out T6.out (by have := PLT.out; have := PW.out; omega) PW.out (fun g e => (OP.out.ownB g (by rw [e]; rfl)).1))
        have P6 := Lib.hid (Nat.lt_of_lt_of_le PLT.out T6.out.size)
        clear cs2 cs3 WZ WR HPU OPD T5 A5 OA DJ T6
        have BA := Lib.hid ((Below.refl V5.heap.size V5).alloc (Nat.le_refl _) (.cells #[.int .i64 (depV ls k)] 3))
        have hs5 := BA.out.size
        go_wp2_with (first
          | (go_at_call 7; refine (num_any _ _).mono ?_; rintro e w' ⟨rfl, rfl⟩)
          | ((with_reducible show wpList _ _ _ _ _ _); refine wpList_append_rA rfl elemI encI (.tmp 63) (.tmp 65) rfl (p + 1) (a := aa) (xs := deps ls k) (ys := [depV ls k]) (cap := ac) (dap := 1) (n := 1) rfl (OA6.out.below BA.out) (sts_new encI V5 [depV ls k] 3 (0, 0)) (by rw [hlen]; rfl) rfl (by rw [hlen]; simp only [List.length_cons, List.length_nil]; omega) (by rw [hlen]; unfold maxLen; simp only [List.length_cons, List.length_nil]; omega) (by have := P6.out; omega) ?_; intro a7 c7 V7 o7 b7 g7 at7; have O7 := Lib.hid o7; have B7 := Lib.hid b7; have G7 := Lib.hid g7; have A7 := Lib.hid at7; clear o7 b7 g7 at7)
          | fail)
        have hl7 : (deps ls k ++ [depV ls k]).length = k + 1 := by rw [List.length_append, hlen]; rfl
        go_roundw
        case rel =>
          have hown : ∀ g, (Value.slice aa (deps ls k).length ac).ownBlock = some g → aa = some ⟨g, 0, none⟩ := OA6.out.ownEq
          have hdj7 : ∀ g, a' = some ⟨g, 0, none⟩ → g < V5.heap.size ∧ aa ≠ some ⟨g, 0, none⟩ := fun g e => ⟨OP5.out.ltB g e, fun e2 => DJ6.out g e2 e⟩
          have HB7 := (G7.out.block p (blk_lt ((BA.out.block p (blk_lt HB5.out)).trans HB5.out)) (fun e => by have h1 := (OA6.out.ownB p e.symm).1; omega)).trans ((BA.out.block p (blk_lt HB5.out)).trans HB5.out)
          have OP7 := (OP5.out.below BA.out).grown G7.out (fun g e e2 => (hdj7 g e).2 (hown g e2.symm))
          refine ⟨k + 1, a7, c7, a', cap', by omega, by go_num, rfl, by rw [deps_succ]; exact O7.out, ?_, by rw [List.range_succ]; exact OP7, ?_, ?_, ?_⟩
          · rw [List.length_append, List.length_range] at HB7
            exact HB7
          · refine disj_app (w := V5.alloc (.cells #[.int .i64 (depV ls k)] 3)) DJ6.out (fun g e => A7.out g e) (fun g e => by have := (hdj7 g e).1; omega)
          · exact QW6.out.trans ((BA.out.mono QW6.out.size).trans (B7.out.mono (by have := PW.out; omega)))
          · exact Nat.lt_of_lt_of_le P6.out (Nat.le_trans hs5 B7.out.size)
        case measure => simp [intOf]; omega
    · have hk60 : Hid (k ≤ 60) := Lib.hid (by have := HN.out; omega)
      by_cases hg : k < ls.length
      · have g1 : (k : Int) < (ls.length : Int) := by omega
        have g2 : ¬ (k : Int) < 60 := by have := HN.out; omega
        obtain ⟨M, hM⟩ : ∃ M : Nat, M = 100040 := ⟨_, rfl⟩
        have HM := Lib.hid hM
        clear hM
        go_wp2
        go_loopw [10, 11] (fun tv uv wy => ∃ (t u : Nat) (nw : Int) (zs : List Nat), tv = .int .i64 t ∧ uv = .int .i64 u ∧ t ≤ k ∧ nw ≤ u ∧ u ≤ M ∧ (t = k ∨ (u : Int) < s ∨ (u : Int) - s < depV ls t) ∧ wy.heap[p]? = some (.cells #[.bool true, .int .i64 (depV ls k), .int .i64 nw, .int .i64 (k : Nat), .slice a zs.length cap] 47 (0, 0)) ∧ OwnR 51 3 (PKC (depV ls)) (p + 1) a zs cap wy ∧ zs.Perm (List.range' t (k - t)) ∧ Heap zs.length zs ∧ OwnR 3 1 IC (p + 1) aa (deps ls k) ac wy ∧ Below w.heap.size w wy ∧ p < wy.heap.size) (fun _ uv _ => M - (intOf uv).toNat)
        case atStart => exact ⟨0, 0, 0, List.range k, rfl, rfl, by omega, by omega, by omega, Or.inr (Or.inl (by have := HS40.out; omega)), by rw [List.length_range]; exact HB.out, OP.out, by rw [Nat.sub_zero, List.range_eq_range'], heap_range k, OA.out, QW.out, PLT.out⟩
        case round =>
          clear HB OP OA QW PLT
          obtain ⟨t, u, nw, zs, rfl, rfl, htk, hnu, hub, hor, h1, h2, h3, h4, h5, h6, h7⟩ := hrel
          have HOR := Lib.hid hor
          have HB := Lib.hid h1
          have OP := Lib.hid h2
          have HPM := Lib.hid h3
          have HH := Lib.hid h4
          have OA := Lib.hid h5
          have QW := Lib.hid h6
          have PLT := Lib.hid h7
          clear hor h1 h2 h3 h4 h5 h6 h7
          have j1 : ((u : Int) < 100000 ∧ t < k) ∨ (t = k ∧ (u : Int) < 100000) ∨ (t = k ∧ ¬ (u : Int) < 100000) := by
            have h1 := HOR.out
            have h2 := (depV_bd ls t).2
            have h3 := HS40.out
            have h4 := hk60.out
            omega
          rcases j1 with ⟨j1, j2⟩ | ⟨rfl, j1⟩ | ⟨rfl, j1⟩
          · have j2i : (t : Int) < (k : Int) := by omega
            have HPR := Lib.hid (prel_ok (depV ls) (depV_mono ls) (p + 1) p (depV ls k) nw (k : Nat) a zs cap t (k - t) u wr HB.out (Nat.lt_succ_self p) OP.out (by have := hk60.out; omega) HH.out HPM.out ⟨hnu, by have := HM.out; omega⟩)
            go_wp2_with (first
              | (go_at_call 10; refine HPR.out.mono ?_; rintro e V5 ⟨m, oa, oc, z5, m5, d5, x5, rfl, o5, b5, q5, y5, r5, t5⟩; try dsimp only)
              | (go_at_call 7; refine (num_any _ _).mono ?_; rintro e w' ⟨rfl, rfl⟩)
              | fail)
            have OO := Lib.hid o5
            have HB5 := Lib.hid b5
            have OP5 := Lib.hid q5
            have HH5 := Lib.hid y5
            have HP5 := Lib.hid r5
            have M5 := Lib.hid (And.intro m5 (And.intro d5 x5))
            have OA5 := Lib.hid (turned_two OA.out DJ.out t5)
            have QW5 := Lib.hid (below_two QW.out t5 (by have := PLT.out; have := PW.out; omega) PW.out (fun g e => (OP.out.ownB g (by rw [e]; rfl)).1))
            have PL5 := Lib.hid (Nat.lt_of_lt_of_le PLT.out t5.size)
            clear o5 b5 q5 y5 r5 m5 d5 x5 t5 HPR HB OP HH HPM QW PLT OA
            have hM := HM.out
            have UB := Lib.hid (show u ≤ 100040 by omega)
            clear hM hub
            go_loop [10, 14] (fun xv iv => ∃ (x i : Nat), x = t + i ∧ i ≤ m ∧ xv = .int .i64 x ∧ iv = .int .i64 i) (fun _ iv => m - (intOf iv).toNat)
            case atStart => exact ⟨t, 0, rfl, by omega, rfl, rfl⟩
            case round =>
              obtain ⟨x, i, hxi, him, rfl, rfl⟩ := hrel
              by_cases hlt3 : i < m
              · obtain ⟨g1, rfl, _, _⟩ := OO.out.isSome (by rw [told_len]; omega)
                obtain ⟨g2, rfl, _, _⟩ := OA5.out.isSome (by rw [deps_len]; omega)
                have hm5 := M5.out.1
                have l1 : V5.cell? ⟨g1, i, none⟩ = some (.int .i64 x) := by
                  have := OO.out.cellI i (by rw [told_len]; exact hlt3)
                  rw [told_at hlt3] at this
                  rw [hxi]; exact this
                have l2 : V5.cell? ⟨g2, x, none⟩ = some (.int .i64 (depV ls x)) := by
                  have := OA5.out.cellI x (by rw [deps_len]; omega)
                  rwa [deps_at ls (by omega)] at this
                have e1 : ¬ (u : Int) < depV ls x := by have := M5.out.2.1 i hlt3; rw [← hxi] at this; omega
                have e2 : (u : Int) < s ∨ (u : Int) - s < depV ls x := by
                  have h1 := HOR.out
                  have h2 := depV_mono ls t x (by omega)
                  omega
                have e3 := depV_bd ls x
                generalize depV ls x = dx at l2 e1 e2 e3
                have HX := Lib.hid hxi
                have k1 : (i : Int) < (m : Int) := by omega
                have k2 : (x : Int) < (k : Int) := by omega
                have k3 : x < k := by omega
                have b1 : x < 60 := by have := hk60.out; omega
                have b2 : i < 60 := by have := hk60.out; omega
                have hs := HS40.out
                clear hm5 hxi htk hnu him
                by_cases hus : (u : Int) < s
                case' pos =>
                  have hus2 : ¬ (s : Int) ≤ (u : Int) := by omega
                  clear e2 e3
                case' neg =>
                  obtain ⟨dd, hdd⟩ : ∃ z : Int, (u : Int) - s = z := ⟨_, rfl⟩
                  have hus2 : (s : Int) ≤ (u : Int) := by omega
                  have e4 : ¬ dx ≤ dd := by omega
                  have hub := UB.out
                  have ws : IntKind.i64.wrap ((u : Int) - s) = dd := by rw [← hdd]; exact IntWalk.i64_in _ ⟨by omega, by omega⟩
                  clear hdd hub
                  clear e2 e3
                all_goals
                  go_wp2
                  go_round
                  have hxi := HX.out
                  case rel => exact ⟨x + 1, i + 1, by omega, by omega, by go_num, by go_num⟩
                  case measure => simp [intOf]; omega
              · obtain rfl : i = m := by omega
                obtain ⟨v, hv⟩ : ∃ v, u + s = v := ⟨_, rfl⟩
                have hs := HS40.out
                have hub := UB.out
                have wv : IntKind.i64.wrap ((u : Int) + s) = (v : Int) := by rw [← hv]; exact IntWalk.i64_in _ ⟨by omega, by omega⟩
                have hm5 := M5.out.1
                have HP6 : Hid (z5.Perm (List.range' x (k - x))) := Lib.hid (by
                  have := HP5.out
                  have e : k - t - i = k - x := by omega
                  rwa [← hxi, e] at this)
                have HX6 : Hid (x = k ∨ (u : Int) < depV ls x) := Lib.hid (by have := M5.out.2.2; rw [← hxi] at this; omega)
                go_wp2
                go_roundw
                case rel => exact ⟨x, v, u, z5, rfl, rfl, by omega, by omega, by have := HM.out; omega, by have := HX6.out; omega, HB5.out, OP5.out, HP6.out, HH5.out, OA5.out, QW5.out, PL5.out⟩
                case measure => have := HM.out; simp [intOf]; omega
          all_goals
            obtain rfl : zs = [] := by
              have := HPM.out.length_eq
              rw [List.length_range', Nat.sub_self] at this
              exact List.eq_nil_of_length_eq_zero this
            go_wp2_with (first
              | (go_at_call 11; refine (plen_any p _ _ _ _ _ _ _ HB.out).mono ?_; rintro e w' ⟨rfl, rfl⟩)
              | fail)
            go_ret
            exact ⟨rfl, QW.out⟩
      · have g1 : ¬ (k : Int) < (ls.length : Int) := by omega
        obtain ⟨M, hM⟩ : ∃ M : Nat, M = 100040 := ⟨_, rfl⟩
        have HM := Lib.hid hM
        clear hM
        go_wp2
        go_loopw [10, 11] (fun tv uv wy => ∃ (t u : Nat) (nw : Int) (zs : List Nat), tv = .int .i64 t ∧ uv = .int .i64 u ∧ t ≤ k ∧ nw ≤ u ∧ u ≤ M ∧ (t = k ∨ (u : Int) < s ∨ (u : Int) - s < depV ls t) ∧ wy.heap[p]? = some (.cells #[.bool true, .int .i64 (depV ls k), .int .i64 nw, .int .i64 (k : Nat), .slice a zs.length cap] 47 (0, 0)) ∧ OwnR 51 3 (PKC (depV ls)) (p + 1) a zs cap wy ∧ zs.Perm (List.range' t (k - t)) ∧ Heap zs.length zs ∧ OwnR 3 1 IC (p + 1) aa (deps ls k) ac wy ∧ Below w.heap.size w wy ∧ p < wy.heap.size) (fun _ uv _ => M - (intOf uv).toNat)
        case atStart => exact ⟨0, 0, 0, List.range k, rfl, rfl, by omega, by omega, by omega, Or.inr (Or.inl (by have := HS40.out; omega)), by rw [List.length_range]; exact HB.out, OP.out, by rw [Nat.sub_zero, List.range_eq_range'], heap_range k, OA.out, QW.out, PLT.out⟩
        case round =>
          clear HB OP OA QW PLT
          obtain ⟨t, u, nw, zs, rfl, rfl, htk, hnu, hub, hor, h1, h2, h3, h4, h5, h6, h7⟩ := hrel
          have HOR := Lib.hid hor
          have HB := Lib.hid h1
          have OP := Lib.hid h2
          have HPM := Lib.hid h3
          have HH := Lib.hid h4
          have OA := Lib.hid h5
          have QW := Lib.hid h6
          have PLT := Lib.hid h7
          clear hor h1 h2 h3 h4 h5 h6 h7
          have j1 : ((u : Int) < 100000 ∧ t < k) ∨ (t = k ∧ (u : Int) < 100000) ∨ (t = k ∧ ¬ (u : Int) < 100000) := by
            have h1 := HOR.out
            have h2 := (depV_bd ls t).2
            have h3 := HS40.out
            have h4 := hk60.out
            omega
          rcases j1 with ⟨j1, j2⟩ | ⟨rfl, j1⟩ | ⟨rfl, j1⟩
          · have j2i : (t : Int) < (k : Int) := by omega
            have HPR := Lib.hid (prel_ok (depV ls) (depV_mono ls) (p + 1) p (depV ls k) nw (k : Nat) a zs cap t (k - t) u wr HB.out (Nat.lt_succ_self p) OP.out (by have := hk60.out; omega) HH.out HPM.out ⟨hnu, by have := HM.out; omega⟩)
            go_wp2_with (first
              | (go_at_call 10; refine HPR.out.mono ?_; rintro e V5 ⟨m, oa, oc, z5, m5, d5, x5, rfl, o5, b5, q5, y5, r5, t5⟩; try dsimp only)
              | (go_at_call 7; refine (num_any _ _).mono ?_; rintro e w' ⟨rfl, rfl⟩)
              | fail)
            have OO := Lib.hid o5
            have HB5 := Lib.hid b5
            have OP5 := Lib.hid q5
            have HH5 := Lib.hid y5
            have HP5 := Lib.hid r5
            have M5 := Lib.hid (And.intro m5 (And.intro d5 x5))
            have OA5 := Lib.hid (turned_two OA.out DJ.out t5)
            have QW5 := Lib.hid (below_two QW.out t5 (by have := PLT.out; have := PW.out; omega) PW.out (fun g e => (OP.out.ownB g (by rw [e]; rfl)).1))
            have PL5 := Lib.hid (Nat.lt_of_lt_of_le PLT.out t5.size)
            clear o5 b5 q5 y5 r5 m5 d5 x5 t5 HPR HB OP HH HPM QW PLT OA
            have hM := HM.out
            have UB := Lib.hid (show u ≤ 100040 by omega)
            clear hM hub
            go_loop [10, 14] (fun xv iv => ∃ (x i : Nat), x = t + i ∧ i ≤ m ∧ xv = .int .i64 x ∧ iv = .int .i64 i) (fun _ iv => m - (intOf iv).toNat)
            case atStart => exact ⟨t, 0, rfl, by omega, rfl, rfl⟩
            case round =>
              obtain ⟨x, i, hxi, him, rfl, rfl⟩ := hrel
              by_cases hlt3 : i < m
              · obtain ⟨g1, rfl, _, _⟩ := OO.out.isSome (by rw [told_len]; omega)
                obtain ⟨g2, rfl, _, _⟩ := OA5.out.isSome (by rw [deps_len]; omega)
                have hm5 := M5.out.1
                have l1 : V5.cell? ⟨g1, i, none⟩ = some (.int .i64 x) := by
                  have := OO.out.cellI i (by rw [told_len]; exact hlt3)
                  rw [told_at hlt3] at this
                  rw [hxi]; exact this
                have l2 : V5.cell? ⟨g2, x, none⟩ = some (.int .i64 (depV ls x)) := by
                  have := OA5.out.cellI x (by rw [deps_len]; omega)
                  rwa [deps_at ls (by omega)] at this
                have e1 : ¬ (u : Int) < depV ls x := by have := M5.out.2.1 i hlt3; rw [← hxi] at this; omega
                have e2 : (u : Int) < s ∨ (u : Int) - s < depV ls x := by
                  have h1 := HOR.out
                  have h2 := depV_mono ls t x (by omega)
                  omega
                have e3 := depV_bd ls x
                generalize depV ls x = dx at l2 e1 e2 e3
                have HX := Lib.hid hxi
                have k1 : (i : Int) < (m : Int) := by omega
                have k2 : (x : Int) < (k : Int) := by omega
                have k3 : x < k := by omega
                have b1 : x < 60 := by have := hk60.out; omega
                have b2 : i < 60 := by have := hk60.out; omega
                have hs := HS40.out
                clear hm5 hxi htk hnu him
                by_cases hus : (u : Int) < s
                case' pos =>
                  have hus2 : ¬ (s : Int) ≤ (u : Int) := by omega
                  clear e2 e3
                case' neg =>
                  obtain ⟨dd, hdd⟩ : ∃ z : Int, (u : Int) - s = z := ⟨_, rfl⟩
                  have hus2 : (s : Int) ≤ (u : Int) := by omega
                  have e4 : ¬ dx ≤ dd := by omega
                  have hub := UB.out
                  have ws : IntKind.i64.wrap ((u : Int) - s) = dd := by rw [← hdd]; exact IntWalk.i64_in _ ⟨by omega, by omega⟩
                  clear hdd hub
                  clear e2 e3
                all_goals
                  go_wp2
                  go_round
                  have hxi := HX.out
                  case rel => exact ⟨x + 1, i + 1, by omega, by omega, by go_num, by go_num⟩
                  case measure => simp [intOf]; omega
              · obtain rfl : i = m := by omega
                obtain ⟨v, hv⟩ : ∃ v, u + s = v := ⟨_, rfl⟩
                have hs := HS40.out
                have hub := UB.out
                have wv : IntKind.i64.wrap ((u : Int) + s) = (v : Int) := by rw [← hv]; exact IntWalk.i64_in _ ⟨by omega, by omega⟩
                have hm5 := M5.out.1
                have HP6 : Hid (z5.Perm (List.range' x (k - x))) := Lib.hid (by
                  have := HP5.out
                  have e : k - t - i = k - x := by omega
                  rwa [← hxi, e] at this)
                have HX6 : Hid (x = k ∨ (u : Int) < depV ls x) := Lib.hid (by have := M5.out.2.2; rw [← hxi] at this; omega)
                go_wp2
                go_roundw
                case rel => exact ⟨x, v, u, z5, rfl, rfl, by omega, by omega, by have := HM.out; omega, by have := HX6.out; omega, HB5.out, OP5.out, HP6.out, HH5.out, OA5.out, QW5.out, PL5.out⟩
                case measure => have := HM.out; simp [intOf]; omega
          all_goals
            obtain rfl : zs = [] := by
              have := HPM.out.length_eq
              rw [List.length_range', Nat.sub_self] at this
              exact List.eq_nil_of_length_eq_zero this
            go_wp2_with (first
              | (go_at_call 11; refine (plen_any p _ _ _ _ _ _ _ HB.out).mono ?_; rintro e w' ⟨rfl, rfl⟩)
              | fail)
            go_ret
            exact ⟨rfl, QW.out⟩

theorem own : ownKnob Try.prog.godebug = none := by kernel_rfl
theorem laidOut : laidOutB Try.prog = true := by kernel_rfl

set_option maxRecDepth 100000 in
set_option maxHeartbeats 2000000 in
theorem lifted (os : Os) (started : os.Started) (H : Type) (enc : TypeId × Value → H) :
    ReturnsInHanded {} Try.checked os 4 .any (Rows.pacerReleasesSpec.pre6 enc Try.prog Try.f4 Rows.pacerReleasesRow.domain false) (Rows.pacerReleasesSpec.post enc Try.prog Try.f4 false true false false) := by
  refine returnsInHanded_of_change_sized (C := Try.checked) own started (by kernel_rfl) Try.func4
    (ChangeSpec.witness6 (enc := enc) (C := Try.checked) false ⟨#[], #[.slice none 0 0, .int .i64 0], []⟩ 8 (by kernel_rfl) (by kernel_rfl) (by kernel_rfl) (by kernel_rfl)) ?_
  intro W base args ds gs before hval0 hW hcnd hsz0 _
  have hval : ∀ (j : Nat) t v, Try.f4.params[j]? = some t → args[j]? = some v → Value.okWide Try.prog W .any base t v := hval0
  have hsz : (DataW.weightsEach Try.prog (Try.f4.params.toList ++ Rows.pacerReleasesSpec.plain.varTypes Try.prog) (ds ++ gs)).all (· ≤ reachBytes) = true := hsz0
  have hW' := hW
  obtain ⟨p, q, hA0, hV, rfl, hfz, hnd⟩ := hW
  have hA : DataW.TrodAll enc Try.prog W 0 (fun _ => true) true Try.f4.params.toList args.toList ds p := hA0
  rw [Try.params4] at hA hval hsz
  obtain ⟨v0, vs0, d0, ds0, p0, q0, hargs, rfl, rfl, h0, r0⟩ := trodAll_cons hA
  obtain ⟨v1, vs1, d1, ds1, p1, q1, rfl, rfl, rfl, h1, r1⟩ := trodAll_cons r0
  obtain ⟨rfl, rfl, rfl⟩ := trodAll_nil r1
  obtain rfl : args = #[v0, v1] := by cases args; simp_all
  obtain ⟨rfl, rfl⟩ := trodVars_none hV
  obtain ⟨a0, len0, cap0, rfl⟩ := okWide_slice Try.underlying31 (hval 0 31 v0 rfl rfl)
  have k0 := h0
  have lt0 : ∀ x ∈ p0, x.block < W.heap.size := by obtain ⟨m, hm⟩ := k0; exact DataW.trod_lt m _ _ _ hm
  obtain ⟨a1, rfl, rfl, rfl, w1⟩ := open_int Try.underlying3 (hval 1 3 v1 rfl rfl) h1
  obtain ⟨xs0, hxl0, hbt0, hcap0, hre0⟩ : ∃ xs : List Step14, xs.length = len0 ∧ Sts 6 Step14.cells Step14.ok W a0 xs ∧ (a0 = none → cap0 = 0) ∧ xs.length ≤ 2932031007317 := by
    obtain ⟨fuel, hf⟩ := h0
    obtain ⟨x, rs, c, hv, hs, hnc, hlc, hq⟩ := open_Step14s (c := .slice a0 len0 cap0) hf
    simp only [Value.slice.injEq] at hv
    obtain ⟨rfl, rfl, rfl⟩ := hv
    have hw := sts_reach Try.underlying31 hq (fun n hn => by simpa using List.all_eq_true.1 hsz _ (DataW.weights_mem_each (j := 0) (t := 31) rfl rfl n hn))
    rw [show Try.prog.bytesOf 37 = 48 from by kernel_rfl] at hw
    simp only [reachBytes] at hw
    exact ⟨rs, rfl, hs, hnc, by omega⟩
  clear hA0 hval0 hsz hsz0
  subst hxl0
  obtain ⟨lo1, hi1⟩ := bounds_i64 w1
  refine (walk a0 xs0 cap0 a1 W hbt0 hcap0 hre0 lo1 hi1).mono fun e W' ⟨he, bel⟩ => ?_
  subst he
  exact ⟨_, rfl, _, _, _, [], _, [], hW', trodAll_mk1 (shut_bool Try.underlying4 _), (trodAll_cons_mk (Below.trod laidOut (by kernel_rfl) (of_decide_eq_true (by kernel_rfl)) k0 bel lt0) (trodAll_cons_mk (shut_int Try.underlying3 w1) trodAll_mk0)), rfl, bel.frame _, fun h => by cases h⟩

theorem over : Rows.pacerReleasesRow.holds Try.pinned (OpenSpec.ofChange Rows.pacerReleasesSpec) :=
  OpenClaim.holds_of_wide 4 Try.f4 rfl rfl rfl rfl rfl rfl rfl ⟨rfl, rfl, rfl, rfl, rfl⟩ rfl rfl rfl rfl rfl (by kernel_rfl) Try.func4 (by kernel_rfl)
    (of_decide_eq_true (by kernel_rfl)) (by unfold Func.isWrapper; first | (rw [if_pos (by decide +kernel)]; kernel_rfl) | (rw [if_neg (by decide +kernel)]; exact ⟨rfl, rfl⟩))
    (fun os started H enc _ => lifted os started H enc)

end Go.Proofs.Ythbiadhnlomhmaa.pacerReleases
namespace Go.Proofs.Ythbiadhnlomhmaa
/-- The statement. -/
theorem pacerReleases_holds : Rows.PacerReleasesSaid := pacerReleases.over
#print axioms pacerReleases_holds
end Go.Proofs.Ythbiadhnlomhmaa
