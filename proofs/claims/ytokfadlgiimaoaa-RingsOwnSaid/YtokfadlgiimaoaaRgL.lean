/- A card: Take and Len of a queue. -/
import Derived.Test.YtokfadlgiimaoaaRgD
namespace Go.Proofs.Ytokfadlgiimaoaa
open Go.RowKit Go.Sort

set_option maxRecDepth 100000 in
set_option maxHeartbeats 1000000 in
theorem has_yes (g sz q : Nat) (cs : Array Value) (t : TypeId) (w : World) (hg : w.heap[g]? = some (.cells cs t (0, 0))) (h2 : cs[2]? = some (.int .i64 (sz : Nat))) (hz : 1 ≤ sz) (hq : q < 16) :
    Calls Try.prog 35 #[.pointer (some ⟨g, 0, none⟩), .int .i64 (q : Nat)] w fun e w' => e = .returned (.bool true) ∧ w = w' := by
  have HM := Lib.hid (made_yes g sz cs t w hg h2 hz)
  have i0 : (0 : Int) ≤ (q : Int) := by omega
  have i1 : (q : Int) < 16 := by omega
  have i1n : decide (q < 16) = true := decide_eq_true hq
  clear hg h2 hq
  go_enter Try.func35, Try.ntmps35
  go_wp2_with (first
    | (go_at_call 33; refine HM.out.mono ?_; rintro e w' ⟨rfl, rfl⟩)
    | fail)
  go_ret
  exact ⟨by first | rfl | (simp [i1n]), rfl⟩

set_option maxRecDepth 100000 in
set_option maxHeartbeats 1000000 in
theorem len_ok (g B sz : Nat) (ev now free : Int) (K : Keys) (fs : Nat → List Fr) (own : Nat → Prop) (q : Nat) (w : World) (h : CardS w g B sz ev now free K fs own) (hq : q < 16) :
    Calls Try.prog 14 #[.pointer (some ⟨g, 0, none⟩), .int .i64 (q : Nat)] w fun e w' => e = .returned (.int .i64 ((fs q).length : Nat)) ∧ w = w' := by
  obtain ⟨cs, rs, h, ho⟩ := h
  obtain ⟨h0, h1, h2, h3, h4, h5, h6⟩ := h.R.ring q (by omega)
  have hlen : (rs q).q.length = (fs q).length := by rw [h.R.que q (by omega), List.length_map]
  have c3 : w.cell? ⟨g, 4 + q * 4 + 3, none⟩ = some (.int .i64 ((fs q).length : Nat)) := (blk_cell h.R.blk (4 + q * 4 + 3)).trans (by rw [← hlen, ← h3, Nat.mul_comm q 4])
  have HM := Lib.hid (has_yes g sz q cs _ w h.R.blk h.c2 h.R.szl.1 hq)
  have i0 : ¬ (q : Int) < 0 := by omega
  have i1 : (q : Int) < 16 := by omega
  clear h h0 h1 h2 h3 h4 h5 h6 hlen ho
  go_enter Try.func14, Try.ntmps14
  go_wp2_with (first
    | (go_at_call 35; refine HM.out.mono ?_; rintro e w' ⟨rfl, rfl⟩)
    | fail)
  go_ret
  exact ⟨rfl, rfl⟩

set_option maxRecDepth 100000 in
set_option maxHeartbeats 1000000 in
theorem take_no (g B sz : Nat) (ev now free : Int) (K : Keys) (fs : Nat → List Fr) (own : Nat → Prop) (q : Nat) (w : World) (h : CardS w g B sz ev now free K fs own) (hq : q < 16) (he : fs q = []) :
    Calls Try.prog 15 #[.pointer (some ⟨g, 0, none⟩), .int .i64 (q : Nat)] w fun e w' => e = .returned (.tuple #[.slice none 0 0, .bool false]) ∧ Below w.heap.size w w' := by
  obtain ⟨cs, rs, h, ho⟩ := h
  have HM := Lib.hid (has_yes g sz q cs _ w h.R.blk h.c2 h.R.szl.1 hq)
  have HT := card_empty q (by omega) w h.R he
  rw [show 4 + 4 * q = 4 + q * 4 by omega] at HT
  have HT' := Lib.hid HT
  have i0 : ¬ (q : Int) < 0 := by omega
  have i1 : (q : Int) < 16 := by omega
  clear h HT he ho
  go_enter Try.func15, Try.ntmps15
  go_wp2_with (first
    | (go_at_call 35; refine HM.out.mono ?_; rintro e w' ⟨rfl, rfl⟩)
    | (go_at_call 36; refine HT'.out.mono ?_; rintro e V2 ⟨rfl, b⟩; have E2 := Lib.hid b; clear b)
    | fail)
  go_ret2
  exact ⟨rfl, E2.out⟩

set_option maxRecDepth 100000 in
set_option maxHeartbeats 2000000 in
theorem take_ok (g B sz : Nat) (ev now free : Int) (K : Keys) (fs : Nat → List Fr) (own : Nat → Prop) (q : Nat) (x : Fr) (l : List Fr) (w : World) (h : CardS w g B sz ev now free K fs own) (hq : q < 16) (hl : fs q = x :: l) (hB : B ≤ w.heap.size) :
    Calls Try.prog 15 #[.pointer (some ⟨g, 0, none⟩), .int .i64 (q : Nat)] w fun e w' => e = .returned (.tuple #[sv x.1, .bool true]) ∧ (∃ own' : Nat → Prop, CardS w' g B sz ev now free K (upd fs q l) own' ∧ (∀ b, own' b → own b ∨ w.heap.size ≤ b)) ∧ (Bts w' x.1.1 x.2 ∧ x.1.2.1 = x.2.length ∧ ∀ b off, x.1.1 = some ⟨b, off, none⟩ → ¬ own b ∧ b < w.heap.size) ∧ Stay w w' own ∧ Below B w w' := by
  obtain ⟨cs, rs, h, ho⟩ := h
  have HM := Lib.hid (has_yes g sz q cs _ w h.R.blk h.c2 h.R.szl.1 hq)
  have HFR := Lib.hid (h.R.fr q (by omega) x (by rw [hl]; exact List.mem_cons_self))
  have HT := card_take q (by omega) x l w h.R hl hB
  rw [show 4 + 4 * q = 4 + q * 4 by omega] at HT
  have HT' := Lib.hid HT
  have H := Lib.hid h
  have HO := Lib.hid ho
  have HQ := Lib.hid hq
  have i0 : ¬ (q : Int) < 0 := by omega
  have i1 : (q : Int) < 16 := by omega
  clear h HT hl ho hq
  obtain ⟨⟨xa, xn, xc⟩, ys⟩ := x
  go_enter Try.func15, Try.ntmps15
  go_wp2_with (first
    | (go_at_call 35; refine HM.out.mono ?_; rintro e w' ⟨rfl, rfl⟩)
    | (go_at_call 36; refine HT'.out.mono ?_; rintro e V2 ⟨rfl, ⟨cs', rs', r1, r2, r3⟩, r4, r5⟩; have C2 := Lib.hid (H.out.step q (by have := HQ.out; omega) r1 (fun i hi => r2 i (by omega)) r3 r4); have HR := Lib.hid r3; have HS := Lib.hid (r4.stay HO.out); have HW := Lib.hid r5; clear r1 r2 r3 r4 r5)
    | fail)
  go_ret2
  have hno : ∀ b off, xa = some ⟨b, off, none⟩ → ¬ own b := fun b off e hn => by
    rcases (HO.out b).1 hn with h1 | ⟨i, hi, h1⟩
    · exact (HFR.out.2.2.2 b off e).2.1 h1
    · exact (HFR.out.2.2.2 b off e).2.2 i hi h1
  refine ⟨rfl, ⟨Owns g rs', ⟨cs', rs', C2.out, fun _ => Iff.rfl⟩, fun b hb => ?_⟩, ⟨HS.out.bts HFR.out.1 hno, HFR.out.2.1, fun b off e => ⟨hno b off e, (HFR.out.2.2.2 b off e).1⟩⟩, HS.out, HW.out⟩
  rcases owns_step HR.out b hb with h1 | h1
  · exact .inl ((HO.out b).2 h1)
  · exact .inr h1
end Go.Proofs.Ytokfadlgiimaoaa
