/- Sendbuf: the page's example. -/
import Derived.Test.YtfdaenogefodhaaSbE
import Derived.Laws.BytesArg
import Derived.Lib.SlBytesConst
namespace Go.Proofs.Ytfdaenogefodhaa
open Go.RowKit Go.Proofs.Ytfdaenogefodhaa.Sb

theorem num_any (n : Int) (w : World) : Calls Try.prog 16 #[.int .i64 n] w fun e w' => e = .returned (.int .i64 n) ∧ w = w' := by
  go_enter Try.func16, Try.ntmps16
  go_wp2
  go_ret
  exact ⟨rfl, rfl⟩
def Sb.Bx (w : World) (g G : Nat) (st ct : Int) (un : Int) : Prop := w.heap[g]? = some (.cells #[.slice (some ⟨G, 0, none⟩) 4 4, .int .i64 st, .int .i64 ct, .int .u32 un] 62 (0, 0))
theorem ex_new (w : World) : Calls Try.prog 14 #[.int .i64 4, .int .u32 4294967295] w fun e w' => (∃ g, e = .returned (.tuple #[.pointer (some ⟨g, 0, none⟩), .int .i64 0]) ∧ w.heap.size < g ∧ Bx w' g w.heap.size 0 0 4294967295 ∧ OwnSl w.heap.size (some ⟨w.heap.size, 0, none⟩) [0, 0, 0, 0] 4 w') ∧ Below w.heap.size w w' :=
  new_ok 4 4294967295 w (by decide) (by decide)
theorem ex_write (B g G db : Nat) (w : World) (hB : Bx w g G 0 0 4294967295) (O : OwnSl B (some ⟨G, 0, none⟩) [0, 0, 0, 0] 4 w) (X : Bts w (some ⟨db, 0, none⟩) [97, 98, 99, 100, 101]) (hX : db ≠ G) (hBg : B ≤ g) (hgG : g ≠ G) (dc : Nat) (hdc : 5 ≤ dc) : Calls Try.prog 18 #[.pointer (some ⟨g, 0, none⟩), .slice (some ⟨db, 0, none⟩) 5 dc] w fun e w' => e = .returned (.tuple #[.int .i64 4, .int .i64 0]) ∧ Bx w' g G 0 4 4294967295 ∧ OwnSl B (some ⟨G, 0, none⟩) [97, 98, 99, 100] 4 w' ∧ Below B w w' :=
  write_ok B g G 4 0 0 4 0 4294967295 [0, 0, 0, 0] [97, 98, 99, 100, 101] db 0 dc w hB O rfl X hX hBg hgG (by decide) (by decide) (by decide) (by decide) (by decide) hdc (by decide) (by decide) (by decide)
theorem ex_slice (B g G : Nat) (w : World) (hB : Bx w g G 0 4 4294967295) (O : OwnSl B (some ⟨G, 0, none⟩) [97, 98, 99, 100] 4 w) : Calls Try.prog 21 #[.pointer (some ⟨g, 0, none⟩), .int .u32 0, .int .i64 2] w fun e w' => (∃ a, e = .returned (.tuple #[.slice a 2 2, .int .i64 0]) ∧ OwnSl w.heap.size a [98, 99] 2 w') ∧ Below w.heap.size w w' :=
  slice_ok B g G 4 0 4 1 2 1 4294967295 0 2 [97, 98, 99, 100] w hB O rfl (by decide) (by decide) (by decide) (by decide) (by decide) (by decide) (by decide) (by decide) (by decide)
theorem ex_ack (g G : Nat) (w : World) (hB : Bx w g G 0 4 4294967295) : Calls Try.prog 24 #[.pointer (some ⟨g, 0, none⟩), .int .u32 1] w fun e w' => e = .returned (.tuple #[.int .i64 2, .int .i64 0]) ∧ Bx w' g G 2 2 1 ∧ w.grownBy w' (some g) :=
  ack_ok g G 4 0 4 4294967295 1 2 2 w hB (by decide) (by decide) (by decide) (by decide) (by decide) (by decide) (by decide) (by decide) (by decide)
theorem ex_una (g G : Nat) (w : World) (hB : Bx w g G 2 2 1) : Calls Try.prog 26 #[.pointer (some ⟨g, 0, none⟩)] w fun e w' => e = .returned (.int .u32 1) ∧ w = w' := una_ok g G 4 2 2 1 w hB
theorem ex_room (g G : Nat) (w : World) (hB : Bx w g G 2 2 1) : Calls Try.prog 29 #[.pointer (some ⟨g, 0, none⟩)] w fun e w' => e = .returned (.int .i64 2) ∧ Below w.heap.size w w' := room_ok g G 4 2 2 1 w hB (by decide) (by decide) (by decide)
theorem Bts.cellOf {w : World} {b off : Nat} {xs : List Nat} (h : Bts w (some ⟨b, off, none⟩) xs) (i : Nat) (hi : i < xs.length) : w.cell? ⟨b, off + i, none⟩ = some (.int .u8 (xs.getD i 0 : Nat)) := by
  rcases h.2 with h0 | ⟨b', off', e, hb, hc⟩
  · rw [h0] at hi; cases hi
  · obtain ⟨rfl, rfl⟩ : b = b' ∧ off = off' := by injection e with e; injection e with e1 e2; exact ⟨e1, e2⟩
    exact hc i hi
theorem bts_mark5 (w : World) : Bts (w.alloc (.cells #[.int .u8 97, .int .u8 98, .int .u8 99, .int .u8 100, .int .u8 101] 5 (5, 6))) (some ⟨w.heap.size, 0, none⟩) [97, 98, 99, 100, 101] := by
  refine ⟨by decide, .inr ⟨w.heap.size, 0, rfl, by simp, fun i hi => ?_⟩⟩
  rw [Nat.zero_add]
  unfold World.cell?
  rw [blk_new]
  match i, hi with
  | 0, _ => rfl
  | 1, _ => rfl
  | 2, _ => rfl
  | 3, _ => rfl
  | 4, _ => rfl
set_option maxHeartbeats 1000000 in
theorem alive_any (w : World) : Calls Try.prog 13 #[] w fun e w' => e = .returned (.bool true) ∧ Below w.heap.size w w' := by
  have Q0 := Lib.hid (Below.refl w.heap.size w)
  have cv := fun (W : World) (C : Array Value) (n c : Nat) => Lib.run_convert_bytes_const (P := Try.prog) W 36 5 C n c Try.underlying36 Try.underlying5
  go_enter Try.func13, Try.ntmps13
  go_wp2_with fail
  refine (ex_new _).mono ?_
  rintro e V1 ⟨⟨g, rfl, hgl, hB, hO⟩, b⟩
  have B1 := Lib.hid hB
  have O1 := Lib.hid hO
  have Q1 := Lib.hid b
  have hsz := b.size
  have gz1 := blk_lt hB
  clear hB hO b Q0
  go_wp2_with fail
  refine (num_any _ _).mono ?_
  rintro e w' ⟨rfl, rfl⟩
  go_wp2_with fail
  have ba := (Below.refl V1.heap.size V1).alloc (Nat.le_refl _) (.cells #[.int .u8 97, .int .u8 98, .int .u8 99, .int .u8 100, .int .u8 101] 5 (5, 6))
  have B2 := Lib.hid ((ba.block g gz1).trans B1.out)
  have O2 := Lib.hid (O1.out.below ba)
  have X2 := Lib.hid (bts_mark5 V1)
  have Q2 := Lib.hid (Q1.out.trans (ba.mono Q1.out.size))
  clear ba B1 O1 Q1
  refine (ex_write w.heap.size g w.heap.size V1.heap.size _ B2.out O2.out X2.out (by omega) (by omega) (by omega) 5 (Nat.le_refl _)).mono ?_
  rintro e V3 ⟨rfl, hB, hO, b⟩
  have B3 := Lib.hid hB
  have O3 := Lib.hid hO
  have Q3 := Lib.hid (Q2.out.trans b)
  clear hB hO b B2 O2 X2 Q2
  go_wp2_with fail
  refine (ex_slice w.heap.size g w.heap.size _ B3.out O3.out).mono ?_
  rintro e V4 ⟨⟨a, rfl, hO⟩, b⟩
  have B4 := Lib.hid ((b.block g (blk_lt B3.out)).trans B3.out)
  have X4 : Hid (Bts V4 a [98, 99]) := Lib.hid hO.bts
  have Hg : Hid (∀ b' o', a = some ⟨b', o', none⟩ → b' ≠ g) := Lib.hid (by
    intro b' o' ha he
    rcases hO.2 with ⟨h1, _⟩ | ⟨g', h1, h2, _⟩
    · rw [ha] at h1; cases h1
    · rw [ha] at h1; injection h1 with h1; injection h1 with h3; have := blk_lt B3.out; omega)
  have Q4 := Lib.hid (Q3.out.trans (b.mono Q3.out.size))
  clear hO b B3 O3 Q3
  go_wp2_with fail
  refine (ex_ack g w.heap.size _ B4.out).mono ?_
  rintro e V5 ⟨rfl, hB, hG⟩
  obtain ⟨b', o', ha, _, _⟩ := X4.out.isSome (by decide)
  subst ha
  have hne := Hg.out b' o' rfl
  have B5 := Lib.hid hB
  have X5 : Hid (Bts V5 (some ⟨b', o', none⟩) [98, 99]) := Lib.hid (Bts.grown X4.out hG hne)
  have Q5 := Lib.hid (Q4.out.grown hG Q4.out.size (fun j e => by cases e; omega))
  clear hB hG B4 X4 Q4 Hg
  have c0 := X5.out.cellOf 0 (by decide)
  have c1 := X5.out.cellOf 1 (by decide)
  have ec : (convert 36 9 (.slice (some ⟨b', o', none⟩) 2 2)).run Try.prog V5 = .ok (.string { data := #[98, 99] }) V5 := by
    have h := run_convert_bytes_arg (P := Try.prog) V5 36 5 Try.underlying36 Try.underlying5 b' o' 2 2 [98, 99] rfl (fun i hi => by
      match i, hi with
      | 0, _ => exact c0
      | 1, _ => exact c1) 9 Try.underlying9
    exact h
  go_wp2_with fail
  refine (num_any _ _).mono ?_
  rintro e w' ⟨rfl, rfl⟩
  go_wp2_with fail
  refine (num_any _ _).mono ?_
  rintro e w' ⟨rfl, rfl⟩
  go_wp2_with fail
  refine (num_any _ _).mono ?_
  rintro e w' ⟨rfl, rfl⟩
  go_wp2_with fail
  refine (ex_una g w.heap.size _ B5.out).mono ?_
  rintro e w' ⟨rfl, rfl⟩
  go_wp2_with fail
  refine (ex_room g w.heap.size _ B5.out).mono ?_
  rintro e V6 ⟨rfl, b⟩
  have Q6 := Q5.out.trans (b.mono Q5.out.size)
  go_wp2
  go_ret
  exact ⟨rfl, Q6⟩
end Go.Proofs.Ytfdaenogefodhaa
