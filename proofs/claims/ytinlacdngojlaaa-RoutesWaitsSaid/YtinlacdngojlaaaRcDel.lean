/- Routes: slices.Delete of the first of four. -/
import Derived.Test.YtinlacdngojlaaaRcBase
import Derived.Test.YtinlacdngojlaaaGTxts
namespace Go.Proofs.Ytinlacdngojlaaa
open Go.RowKit Go.Maps Go.Proofs.Ytinlacdngojlaaa.Rt Go.Sort Go.BigFrame

theorem encT : Enc 1 Txt.cells := ⟨fun _ => rfl, fun x u hu => by
  simp only [Txt.cells, List.mem_cons, List.not_mem_nil, or_false] at hu
  subst hu; rfl, by decide⟩
theorem elemT : Elem 50 56 (.slice none 0 0) 1 24 := ⟨Try.underlying50, by kernel_rfl, rfl, by decide⟩
theorem take4 {α : Type} {l : List α} {a b c d : α} (h : l.take 4 = [a, b, c, d]) : ∃ r, l = a :: b :: c :: d :: r := by
  match l, h with
  | a' :: b' :: c' :: d' :: r, h => simp at h; obtain ⟨rfl, rfl, rfl, rfl⟩ := h; exact ⟨r, rfl⟩
theorem clr_any {V : World} {g c : Nat} {v : Value} {ty : TypeId} (hc : V.cell? ⟨g, 3, none⟩ = some v) (hf : V.frozen? ⟨g, 3, none⟩ = false) :
    (Builtin.clear_ #[50] ty #[.slice (some ⟨g, 3, none⟩) 1 c]).run Try.prog V = .ok (.tuple #[]) (V.setCell ⟨g, 3, none⟩ (.slice none 0 0)) := by
  simp [Builtin.clear_, run_underlying Try.underlying50, Builtin.zeroCells, Value.cells, storeCells, go_sem, hc, hf]

set_option maxRecDepth 100000 in
set_option maxHeartbeats 1000000 in
theorem delete_any (B gr : Nat) (f0 f1 f2 f3 : Txt) (cap : Nat) (w : World) (O : OwnR 56 1 Txt.cells B (some ⟨gr, 0, none⟩) [f0, f1, f2, f3] cap w) :
    Calls Try.prog 29 #[.slice (some ⟨gr, 0, none⟩) 4 cap, .int .i64 0, .int .i64 1] w fun e w' => e = .returned (.slice (some ⟨gr, 0, none⟩) 3 cap) ∧ OwnR 56 1 Txt.cells B (some ⟨gr, 0, none⟩) [f1, f2, f3] cap w' ∧ w.grownBy w' (some gr) := by
  rcases O with ⟨h, _⟩ | ⟨g, e, hB, hlen, ⟨h, _⟩ | ⟨g', cap', cur, e', hB', hb, h4, hcap, hsz, htk⟩⟩
  · cases h
  · cases h
  simp only [Value.slice.injEq, Option.some.injEq, Addr.mk.injEq] at e e' h4
  obtain ⟨⟨rfl, _, _⟩, _, rfl⟩ := e'
  obtain ⟨rfl, _, _⟩ := e
  have h4' : 4 ≤ cap := h4
  have htk' : cur.toList.take 4 = [.slice f0.a f0.xs.length f0.c, .slice f1.a f1.xs.length f1.c, .slice f2.a f2.xs.length f2.c, .slice f3.a f3.xs.length f3.c] := htk
  obtain ⟨r, hr⟩ := take4 htk'
  obtain ⟨cur⟩ := cur
  simp only at hr
  subst hr
  have HB := Lib.hid hb
  have c0 := blk_cell hb 0
  have c1 := blk_cell hb 1
  have c2 := blk_cell hb 2
  have c3 := blk_cell hb 3
  have q0 := blk_free hb 0
  have q1 := blk_free hb 1
  have q2 := blk_free hb 2
  have q3 := blk_free hb 3
  have k1 : (1 : Int) ≤ (cap : Int) := by omega
  have k4 : (4 : Int) ≤ (cap : Int) := by omega
  have k5 : 3 ≤ cap := by omega
  clear hb htk htk' hlen h4
  go_enter Try.func29, Try.ntmps29
  go_upto_region 5 with fail
  go_still_tail 6, (by kernel_rfl)
  go_upto_region 6 with fail
  have s1 := blk_set (blk_set (blk_set HB.out 0 (.slice f1.a f1.xs.length f1.c)) 1 (.slice f2.a f2.xs.length f2.c)) 2 (.slice f3.a f3.xs.length f3.c)
  simp only [List.setIfInBounds_toArray, List.set_cons_zero, List.set_cons_succ] at s1
  have HV := Lib.hid (blk_drew s1)
  have G1 : w.grownBy (((w.setCell ⟨gr, 0, none⟩ (.slice f1.a f1.xs.length f1.c)).setCell ⟨gr, 1, none⟩ (.slice f2.a f2.xs.length f2.c)).setCell ⟨gr, 2, none⟩ (.slice f3.a f3.xs.length f3.c)).drew (some gr) :=
    gr_trans (gr_trans (gr_trans (gr_set _ _ _ _) (gr_set _ _ _ _)) (gr_set _ _ _ _)) (grown_of_below (Below.refl _ _).drew _)
  have HG := Lib.hid G1
  clear s1 G1 c0 c1 c2 c3 q0 q1 q2 q3
  generalize (((w.setCell ⟨gr, 0, none⟩ (.slice f1.a f1.xs.length f1.c)).setCell ⟨gr, 1, none⟩ (.slice f2.a f2.xs.length f2.c)).setCell ⟨gr, 2, none⟩ (.slice f3.a f3.xs.length f3.c)).drew = V at HV HG ⊢
  have CL : ∀ c, (Builtin.clear_ #[50] 0 #[.slice (some ⟨gr, 3, none⟩) 1 c]).run Try.prog V = .ok (.tuple #[]) (V.setCell ⟨gr, 3, none⟩ (.slice none 0 0)) := fun c => clr_any (blk_cell HV.out 3) (blk_free HV.out 3)
  go_wp2
  go_ret
  have s2 := blk_set HV.out 3 (.slice none 0 0)
  simp only [List.setIfInBounds_toArray, List.set_cons_zero, List.set_cons_succ] at s2
  refine ⟨rfl, .inr ⟨gr, rfl, hB, rfl, .inr ⟨gr, cap, _, rfl, hB, s2, by omega, hcap, ?_, rfl⟩⟩, gr_trans HG.out (gr_set _ _ _ _)⟩
  simpa using hsz
end Go.Proofs.Ytinlacdngojlaaa
