/- Hystart: the page's example. -/
import Derived.Test.YtfmjlcnpabpheaaHyRo
import Derived.Deep.RegionHeld3
namespace Go.Proofs.Ytfmjlcnpabpheaa
open Go.RowKit Go.Proofs.Ytfmjlcnpabpheaa.Hy

theorem fld (t : HS) (w : World) : (Instr.field 24 (.agg #[.int .i64 t.p, .bool t.hl, .bool t.hn, .int .i64 t.la, .int .i64 t.no, .int .i64 t.sa, .int .i64 t.ba, .int .i64 t.ro]) 0).run Try.prog w = .ok (.int .i64 t.p) w := by
  simp [Instr.field, asAgg, run_underlying Try.underlying24, go_sem]
theorem rounds_1 (t : HS) (_ht : rs [100] = t) (w : World) : Calls Try.prog 15 #[.slice (some ⟨w.heap.size, 0, none⟩) 1 1] (w.alloc (.cells #[.int .i64 100] 3)) fun e w' => e = .returned (.agg #[.int .i64 t.p, .bool t.hl, .bool t.hn, .int .i64 t.la, .int .i64 t.no, .int .i64 t.sa, .int .i64 t.ba, .int .i64 t.ro]) ∧ Below w.heap.size w w' := by
  subst _ht
  have b0 := (Below.refl w.heap.size w).alloc (Nat.le_refl _) (.cells #[.int .i64 100] 3)
  refine (rounds_any _ [100] 1 (w.alloc (.cells #[.int .i64 100] 3)) (its_new w [100] 3 (by decide)) (by decide)).mono ?_
  rintro e w' ⟨rfl, b⟩
  exact ⟨rfl, below_after b0 b⟩
theorem rounds_2 (t : HS) (_ht : rs [100, 111] = t) (w : World) : Calls Try.prog 15 #[.slice (some ⟨w.heap.size, 0, none⟩) 2 2] (w.alloc (.cells #[.int .i64 100, .int .i64 111] 3)) fun e w' => e = .returned (.agg #[.int .i64 t.p, .bool t.hl, .bool t.hn, .int .i64 t.la, .int .i64 t.no, .int .i64 t.sa, .int .i64 t.ba, .int .i64 t.ro]) ∧ Below w.heap.size w w' := by
  subst _ht
  have b0 := (Below.refl w.heap.size w).alloc (Nat.le_refl _) (.cells #[.int .i64 100, .int .i64 111] 3)
  refine (rounds_any _ [100, 111] 2 (w.alloc (.cells #[.int .i64 100, .int .i64 111] 3)) (its_new w [100, 111] 3 (by decide)) (by decide)).mono ?_
  rintro e w' ⟨rfl, b⟩
  exact ⟨rfl, below_after b0 b⟩
theorem rounds_3 (t : HS) (_ht : rs [100, 112] = t) (w : World) : Calls Try.prog 15 #[.slice (some ⟨w.heap.size, 0, none⟩) 2 2] (w.alloc (.cells #[.int .i64 100, .int .i64 112] 3)) fun e w' => e = .returned (.agg #[.int .i64 t.p, .bool t.hl, .bool t.hn, .int .i64 t.la, .int .i64 t.no, .int .i64 t.sa, .int .i64 t.ba, .int .i64 t.ro]) ∧ Below w.heap.size w w' := by
  subst _ht
  have b0 := (Below.refl w.heap.size w).alloc (Nat.le_refl _) (.cells #[.int .i64 100, .int .i64 112] 3)
  refine (rounds_any _ [100, 112] 2 (w.alloc (.cells #[.int .i64 100, .int .i64 112] 3)) (its_new w [100, 112] 3 (by decide)) (by decide)).mono ?_
  rintro e w' ⟨rfl, b⟩
  exact ⟨rfl, below_after b0 b⟩
theorem rounds_4 (t : HS) (_ht : rs [100, 112, 130, 130, 130, 130, 130] = t) (w : World) : Calls Try.prog 15 #[.slice (some ⟨w.heap.size, 0, none⟩) 7 7] (w.alloc (.cells #[.int .i64 100, .int .i64 112, .int .i64 130, .int .i64 130, .int .i64 130, .int .i64 130, .int .i64 130] 3)) fun e w' => e = .returned (.agg #[.int .i64 t.p, .bool t.hl, .bool t.hn, .int .i64 t.la, .int .i64 t.no, .int .i64 t.sa, .int .i64 t.ba, .int .i64 t.ro]) ∧ Below w.heap.size w w' := by
  subst _ht
  have b0 := (Below.refl w.heap.size w).alloc (Nat.le_refl _) (.cells #[.int .i64 100, .int .i64 112, .int .i64 130, .int .i64 130, .int .i64 130, .int .i64 130, .int .i64 130] 3)
  refine (rounds_any _ [100, 112, 130, 130, 130, 130, 130] 7 (w.alloc (.cells #[.int .i64 100, .int .i64 112, .int .i64 130, .int .i64 130, .int .i64 130, .int .i64 130, .int .i64 130] 3)) (its_new w [100, 112, 130, 130, 130, 130, 130] 3 (by decide)) (by decide)).mono ?_
  rintro e w' ⟨rfl, b⟩
  exact ⟨rfl, below_after b0 b⟩
set_option maxHeartbeats 2000000 in
theorem alive_any  (w : World)  :
    Calls Try.prog 14 #[] w fun e w' => e = .returned (.bool true) ∧ Below w.heap.size w w' := by
  have q_0 := Below.refl w.heap.size w
  obtain ⟨t1, h1⟩ : ∃ t, rs [100] = t := ⟨_, rfl⟩
  have p1 : t1.p = 0 := by rw [← h1]; exact ex1
  have H1 := Lib.hid h1
  clear h1
  obtain ⟨t2, h2⟩ : ∃ t, rs [100, 111] = t := ⟨_, rfl⟩
  have p2 : t2.p = 0 := by rw [← h2]; exact ex2
  have H2 := Lib.hid h2
  clear h2
  obtain ⟨t3, h3⟩ : ∃ t, rs [100, 112] = t := ⟨_, rfl⟩
  have p3 : t3.p = 1 := by rw [← h3]; exact ex3
  have H3 := Lib.hid h3
  clear h3
  obtain ⟨t4, h4⟩ : ∃ t, rs [100, 112, 130, 130, 130, 130, 130] = t := ⟨_, rfl⟩
  have p4 : t4.p = 2 := by rw [← h4]; exact ex4
  have H4 := Lib.hid h4
  clear h4
  have F1 := fld t1
  simp only [p1] at F1
  have F2 := fld t2
  simp only [p2] at F2
  have F3 := fld t3
  simp only [p3] at F3
  have F4 := fld t4
  simp only [p4] at F4
  go_enter Try.func14, Try.ntmps14
  go_wp2_with fail
  refine (rounds_1 t1 H1.out w).mono ?_
  rintro e V1 ⟨rfl, b⟩
  have q_1 := q_0.trans (b.mono q_0.size)
  clear q_0
  clear b
  go_wp2_with fail
  refine (rounds_2 t2 H2.out V1).mono ?_
  rintro e V2 ⟨rfl, b⟩
  have q_2 := q_1.trans (b.mono q_1.size)
  clear q_1
  clear b
  go_wp2_with fail
  refine (rounds_3 t3 H3.out V2).mono ?_
  rintro e V3 ⟨rfl, b⟩
  have q_3 := q_2.trans (b.mono q_2.size)
  clear q_2
  clear b
  go_wp2_with fail
  refine (rounds_4 t4 H4.out V3).mono ?_
  rintro e V4 ⟨rfl, b⟩
  have q_4 := q_3.trans (b.mono q_3.size)
  clear q_3
  clear b
  go_wp2
  go_ret
  exact ⟨rfl, q_4⟩

end Go.Proofs.Ytfmjlcnpabpheaa
