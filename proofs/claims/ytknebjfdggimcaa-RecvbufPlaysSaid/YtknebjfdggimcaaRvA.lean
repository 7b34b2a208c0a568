/- Recvbuf: the page's example. -/
import Derived.Test.YtknebjfdggimcaaRvSb
import Derived.Laws.BytesArg
import Derived.Lib.SlBytesConst
namespace Go.Proofs.Ytknebjfdggimcaa
open Go.RowKit Go.Proofs.Ytknebjfdggimcaa.Rv

theorem num_any (n : Int) (w : World) : Calls Try.prog 9 #[.int .i64 n] w fun e w' => e = .returned (.int .i64 n) ∧ w = w' := by
  go_enter Try.func9, Try.ntmps9
  go_wp2
  go_ret
  exact ⟨rfl, rfl⟩
theorem Bts.cellOf {w : World} {b off : Nat} {xs : List Nat} (h : Bts w (some ⟨b, off, none⟩) xs) (i : Nat) (hi : i < xs.length) : w.cell? ⟨b, off + i, none⟩ = some (.int .u8 (xs.getD i 0 : Nat)) := by
  rcases h.2 with h0 | ⟨b', off', e, hb, hc⟩
  · rw [h0] at hi; cases hi
  · obtain ⟨rfl, rfl⟩ : b = b' ∧ off = off' := by injection e with e; injection e with e1 e2; exact ⟨e1, e2⟩
    exact hc i hi
theorem bts_two (w : World) (x y : Nat) (hx : x < 256) (hy : y < 256) (fr : Nat × Nat) : Bts (w.alloc (.cells #[.int .u8 (x : Nat), .int .u8 (y : Nat)] 5 fr)) (some ⟨w.heap.size, 0, none⟩) [x, y] := by
  refine ⟨fun z hz => by simp at hz; omega, .inr ⟨w.heap.size, 0, rfl, by simp, fun i hi => ?_⟩⟩
  rw [Nat.zero_add]
  unfold World.cell?
  rw [heap_alloc_new]
  match i, hi with
  | 0, _ => rfl
  | 1, _ => rfl
theorem bts_one (w : World) (x : Nat) (hx : x < 256) (fr : Nat × Nat) : Bts (w.alloc (.cells #[.int .u8 (x : Nat)] 5 fr)) (some ⟨w.heap.size, 0, none⟩) [x] := by
  refine ⟨fun z hz => by simp at hz; omega, .inr ⟨w.heap.size, 0, rfl, by simp, fun i hi => ?_⟩⟩
  rw [Nat.zero_add]
  unfold World.cell?
  rw [heap_alloc_new]
  match i, hi with
  | 0, _ => rfl
def ex1 : St := ⟨10, [0, 0, 99, 100, 0, 0, 0, 0, 0, 0], 0, 0, 0, [(2, 4, 1)], 1⟩
def ex2 : St := ⟨10, [0, 0, 99, 100, 0, 102, 0, 0, 0, 0], 0, 0, 0, [(2, 4, 1), (5, 6, 2)], 2⟩
def ex3 : St := ⟨10, [97, 98, 99, 100, 0, 102, 0, 0, 0, 0], 0, 4, 4, [(1, 2, 2)], 2⟩
theorem ex1_of : insF (newF 10 0) 2 [99, 100] = (ex1, 0, 0) := by rfl
theorem ex2_of : insF ex1 5 [102] = (ex2, 0, 0) := by rfl
theorem ex3_of : insF ex2 0 [97, 98] = (ex3, 4, 0) := by rfl
theorem ex1_ok : Ok ex1 := ⟨by decide, by decide, by rfl, by decide, by decide, by decide, ⟨by simp [ex1], by simp [ex1, win]⟩, by decide, by decide⟩
theorem ex2_ok : Ok ex2 := ⟨by decide, by decide, by rfl, by decide, by decide, by decide, ⟨by simp [ex2], by simp [ex2, win]⟩, by decide, by decide⟩
theorem ex3_ok : Ok ex3 := ⟨by decide, by decide, by rfl, by decide, by decide, by decide, ⟨by simp [ex3], by simp [ex3, win]⟩, by decide, by decide⟩
theorem ex_bks {sl : List Pt} (h1 : sl.Perm ex2.parts) (h2 : rising sl) : bks ex2 sl = [(5, 6), (2, 4)] := by
  have hl : sl.length = 2 := h1.length_eq
  match sl, hl with
  | [x, y], _ =>
    have hx : x ∈ ex2.parts := h1.mem_iff.1 (by simp)
    have hy : y ∈ ex2.parts := h1.mem_iff.1 (by simp)
    have hr : y.2.2 ≤ x.2.2 := by
      unfold rising at h2
      simpa using h2
    have ha : (2, 4, 1) ∈ [x, y] := h1.mem_iff.2 (by simp [ex2])
    have hb : (5, 6, 2) ∈ [x, y] := h1.mem_iff.2 (by simp [ex2])
    simp only [ex2, List.mem_cons, List.not_mem_nil, or_false] at hx hy ha hb
    rcases hx with rfl | rfl <;> rcases hy with rfl | rfl <;> simp at ha hb hr <;> rfl
theorem ex_cut : cutF ex3.ring 10 0 4 = [97, 98, 99, 100] := by rfl
theorem Bts.ltb {w : World} {b o x : Nat} {xs : List Nat} (h : Bts w (some ⟨b, o, none⟩) (x :: xs)) : b < w.heap.size := by
  rcases h.2 with h0 | ⟨b', o', e, hb, _⟩
  · cases h0
  · cases e; exact hb
set_option maxRecDepth 100000 in
set_option maxHeartbeats 2000000 in
theorem alive_any (w : World) : Calls Try.prog 26 #[] w fun e w' => e = .returned (.bool true) ∧ Below w.heap.size w w' := by
  have cv := fun (W : World) (C : Array Value) (n c : Nat) => Lib.run_convert_bytes_const (P := Try.prog) W 32 5 C n c Try.underlying32 Try.underlying5
  go_enter Try.func26, Try.ntmps26
  go_upto_region 4 with (first
    | (go_at_call 7; refine (new_ok 10 0 _ (by decide) (by decide)).mono ?_; rintro e V1 ⟨g, rfl, hgl, hgv, r1, b1⟩; have R0 := Lib.hid r1; have Q1 := Lib.hid b1; clear r1 b1)
    | (go_at_call 9; refine (num_any _ _).mono ?_; rintro e w' ⟨rfl, rfl⟩)
    | fail)
  obtain ⟨p1, hp1⟩ : ∃ z : Option Addr, none = z := ⟨_, rfl⟩
  obtain ⟨d1, hd1⟩ : ∃ z, 0 = z := ⟨_, rfl⟩
  have R1 : Hid (RvAt w.heap.size g w.heap.size p1 d1 (newF 10 0) V1) := Lib.hid (by rw [← hd1, ← hp1]; exact R0.out)
  clear hp1 hd1 R0
  have ba := (Below.refl V1.heap.size V1).alloc (Nat.le_refl _) (.cells #[.int .u8 99, .int .u8 100] 5 (2, 3))
  have RB := R1.out
  have XB : Bts (V1.alloc (.cells #[.int .u8 99, .int .u8 100] 5 (2, 3))) (some ⟨V1.heap.size, 0, none⟩) [99, 100] := bts_two V1 99 100 (by decide) (by decide) (2, 3)
  have hgz := blk_lt RB.blk
  have RA : RvAt w.heap.size g w.heap.size p1 d1 (newF 10 0) (V1.alloc (.cells #[.int .u8 99, .int .u8 100] 5 (2, 3))) := ⟨(ba.block _ hgz).trans RB.blk, RB.ring.below ba, RB.own.below ba, RB.gG, RB.pg, RB.pG, RB.Bg⟩
  have hbz : V1.heap.size < (V1.alloc (.cells #[.int .u8 99, .int .u8 100] 5 (2, 3))).heap.size := by simp
  have IN := insert_ok w.heap.size g w.heap.size d1 p1 (newF 10 0) 2 (some ⟨V1.heap.size, 0, none⟩) 2 [99, 100] _ (new_okF (by decide) (by decide) (by decide)) RA XB (Nat.le_refl _) (fun e => by cases e) (by decide) (by omega) (by omega) (fun b o e _ => by cases e; exact ⟨by omega, by omega⟩)
  rw [ex1_of] at IN
  have HIN := Lib.hid IN
  have HTA := Lib.hid (Turns.of_below (IS g w.heap.size p1) ba)
  clear ba RB XB RA IN hbz
  go_upto_region 5 with (first
    | (go_at_call 11; refine HIN.out.mono ?_; rintro e V2 ⟨rfl, p2, d2, r2, t2, k2⟩; have R2 := Lib.hid r2; have T2 := Lib.hid (HTA.out.trans t2); have hs2 := (HTA.out.trans t2).size; clear r2 t2 k2)
    | fail)
  clear HIN HTA
  have ba := (Below.refl V2.heap.size V2).alloc (Nat.le_refl _) (.cells #[.int .u8 102] 5 (1, 2))
  have RB := R2.out
  have XB : Bts (V2.alloc (.cells #[.int .u8 102] 5 (1, 2))) (some ⟨V2.heap.size, 0, none⟩) [102] := bts_one V2 102 (by decide) (1, 2)
  have hgz := blk_lt RB.blk
  have RA : RvAt w.heap.size g w.heap.size p2 d2 ex1 (V2.alloc (.cells #[.int .u8 102] 5 (1, 2))) := ⟨(ba.block _ hgz).trans RB.blk, RB.ring.below ba, RB.own.below ba, RB.gG, RB.pg, RB.pG, RB.Bg⟩
  have hbz : V2.heap.size < (V2.alloc (.cells #[.int .u8 102] 5 (1, 2))).heap.size := by simp
  have IN := insert_ok w.heap.size g w.heap.size d2 p2 ex1 5 (some ⟨V2.heap.size, 0, none⟩) 1 [102] _ ex1_ok RA XB (Nat.le_refl _) (fun e => by cases e) (by decide) (by omega) (by omega) (fun b o e _ => by cases e; exact ⟨by omega, by omega⟩)
  rw [ex2_of] at IN
  have HIN := Lib.hid IN
  have HTA := Lib.hid (Turns.of_below (IS g w.heap.size p2) ba)
  clear ba RB XB RA IN hbz
  go_upto_region 6 with (first
    | (go_at_call 11; refine HIN.out.mono ?_; rintro e V3 ⟨rfl, p3, d3, r3, t3, k3⟩; have R3 := Lib.hid r3; have T3 := Lib.hid (HTA.out.trans t3); have hs3 := (HTA.out.trans t3).size; clear r3 t3 k3)
    | fail)
  clear HIN HTA
  obtain ⟨sl, hpm, hri, hbl⟩ := blocks_ok w.heap.size g w.heap.size d3 p3 ex2 V3 ex2_ok R3.out
  rw [ex_bks hpm hri] at hbl
  have HBL := Lib.hid hbl
  clear hbl hpm hri
  go_upto_region 7 with (first
    | (go_at_call 24; refine HBL.out.mono ?_; rintro e V4 ⟨ba, bc, rfl, ob, b4⟩; have OB := Lib.hid ob; have Q4 := Lib.hid b4; clear ob b4)
    | fail)
  have R4 : Hid (RvAt w.heap.size g w.heap.size p3 d3 ex2 V4) := Lib.hid ⟨(Q4.out.block _ (blk_lt R3.out.blk)).trans R3.out.blk, R3.out.ring.below Q4.out, R3.out.own.below Q4.out, R3.out.gG, R3.out.pg, R3.out.pG, R3.out.Bg⟩
  have hs4 := Q4.out.size
  have hpl3 : ∀ k, p3 = some ⟨k, 0, none⟩ → k < V3.heap.size := fun k e => R3.out.own.ltB k e
  clear HBL
  have ba := (Below.refl V4.heap.size V4).alloc (Nat.le_refl _) (.cells #[.int .u8 97, .int .u8 98] 5 (2, 3))
  have RB := R4.out
  have XB : Bts (V4.alloc (.cells #[.int .u8 97, .int .u8 98] 5 (2, 3))) (some ⟨V4.heap.size, 0, none⟩) [97, 98] := bts_two V4 97 98 (by decide) (by decide) (2, 3)
  have hgz := blk_lt RB.blk
  have RA : RvAt w.heap.size g w.heap.size p3 d3 ex2 (V4.alloc (.cells #[.int .u8 97, .int .u8 98] 5 (2, 3))) := ⟨(ba.block _ hgz).trans RB.blk, RB.ring.below ba, RB.own.below ba, RB.gG, RB.pg, RB.pG, RB.Bg⟩
  have hbz : V4.heap.size < (V4.alloc (.cells #[.int .u8 97, .int .u8 98] 5 (2, 3))).heap.size := by simp
  have IN := insert_ok w.heap.size g w.heap.size d3 p3 ex2 0 (some ⟨V4.heap.size, 0, none⟩) 2 [97, 98] _ ex2_ok RA XB (Nat.le_refl _) (fun e => by cases e) (by decide) (by omega) (by omega) (fun b o e _ => by cases e; exact ⟨by omega, by omega⟩)
  rw [ex3_of] at IN
  have HIN := Lib.hid IN
  have HTA := Lib.hid (Turns.of_below (IS g w.heap.size p3) ba)
  clear ba RB XB RA IN hbz
  go_upto_region 8 with (first
    | (go_at_call 11; refine HIN.out.mono ?_; rintro e V5 ⟨rfl, p5, d5, r5, t5, k5⟩; have R5 := Lib.hid r5; have T5 := Lib.hid (HTA.out.trans t5); have hs5 := (HTA.out.trans t5).size; clear r5 t5 k5)
    | fail)
  clear HIN HTA
  have hbB : ∀ b o, ba = some ⟨b, o, none⟩ → V3.heap.size ≤ b := fun b o e => by
    rcases OB.out with ⟨h, _⟩ | ⟨q, h, h1, _⟩
    · rw [h] at e; cases e
    · rw [h] at e; cases e; exact h1
  have SB5 : Hid (Sts 2 BC Tr V5 ba [(5, 6), (2, 4)]) := Lib.hid ((OB.out.sts encB).turned T5.out (fun b o e => by
    have h1 := hbB b o e
    rintro (h | h | h)
    · omega
    · omega
    · have := hpl3 b h; omega))
  have RD := Lib.hid (read_at w.heap.size g w.heap.size d5 4 p5 ex3 9 V5 ex3_ok R5.out (by omega) (by decide) (by decide))
  go_upto_region 9 with (first
    | (go_at_call 14; refine RD.out.mono ?_; rintro e V6 ⟨⟨xa, rfl, ox⟩, _, g6⟩; have OX := Lib.hid ox; have G6 := Lib.hid g6; clear ox g6)
    | fail)
  have SB6 : Hid (Sts 2 BC Tr V6 ba [(5, 6), (2, 4)]) := Lib.hid (SB5.out.turned (Turns.of_grown (S := fun k => k = g) (fun k e => by cases e; rfl) G6.out) (fun b o e h => by have h1 := hbB b o e; omega))
  have hox : Bts V6 xa [97, 98, 99, 100] := OX.out.bts
  obtain ⟨xb, xo, hxa⟩ := hox.addr (by decide)
  subst hxa
  have HX6 := Lib.hid hox
  have hs6 := G6.out.size
  have BI : ∀ (p : Option Addr) (d : Nat) (s : St) (W W' : World), RvAt w.heap.size g w.heap.size p d s W → w.heap.size ≤ W.heap.size → Turns (IS g w.heap.size p) W W' → Below w.heap.size W W' := fun p d s W W' R h T => T.below h (fun k h => by
    rcases h with h | h | h
    · omega
    · omega
    · exact (R.own.ownB k (by rw [h]; rfl)).1)
  have QQ : Below w.heap.size w V6 := (((Q1.out.trans (BI p1 d1 _ _ _ R1.out (by omega) T2.out)).trans (BI p2 d2 _ _ _ R2.out (by omega) T3.out)).trans (Q4.out.mono (by omega))).trans ((BI p3 d3 _ _ _ R4.out (by omega) T5.out).trans ((Turns.of_grown (S := fun k => k = g) (fun k e => by cases e; rfl) G6.out).below (by omega) (fun k h => by omega)))
  have HQ := Lib.hid QQ
  clear QQ hox BI
  have c0 := HX6.out.cellOf 0 (by decide)
  have c1 := HX6.out.cellOf 1 (by decide)
  have c2 := HX6.out.cellOf 2 (by decide)
  have c3 := HX6.out.cellOf 3 (by decide)
  have bL := (Below.refl V6.heap.size V6).alloc (Nat.le_refl _) (.cells #[.int .u32 5, .int .u32 6, .int .u32 2, .int .u32 4] 65)
  have SL : Sts 2 BC Tr (V6.alloc (.cells #[.int .u32 5, .int .u32 6, .int .u32 2, .int .u32 4] 65)) (some ⟨V6.heap.size, 0, none⟩) [(5, 6), (2, 4)] := sts_new encB V6 [(5, 6), (2, 4)] 65 (0, 0)
  have SM := Lib.hid (sameBlocks_one ba (some ⟨V6.heap.size, 0, none⟩) [(5, 6), (2, 4)] [(5, 6), (2, 4)] bc 2 _ (sts_blk (SB6.out.belowT bL) (by unfold small2; decide)) (sts_blk SL (by unfold small2; decide)) (by decide) (by decide) rfl)
  have HBL := Lib.hid bL
  have d0 := (bL.cell (p := ⟨xb, xo + 0, none⟩) (HX6.out.ltb)).trans c0
  have d1' := (bL.cell (p := ⟨xb, xo + 1, none⟩) (HX6.out.ltb)).trans c1
  have d2' := (bL.cell (p := ⟨xb, xo + 2, none⟩) (HX6.out.ltb)).trans c2
  have d3' := (bL.cell (p := ⟨xb, xo + 3, none⟩) (HX6.out.ltb)).trans c3
  have hlb : xb < (V6.alloc (.cells #[.int .u32 5, .int .u32 6, .int .u32 2, .int .u32 4] 65)).heap.size := Nat.lt_of_lt_of_le HX6.out.ltb bL.size
  have ec : ∀ W, Below (V6.alloc (.cells #[.int .u32 5, .int .u32 6, .int .u32 2, .int .u32 4] 65)).heap.size (V6.alloc (.cells #[.int .u32 5, .int .u32 6, .int .u32 2, .int .u32 4] 65)) W → (convert 32 9 (.slice (some ⟨xb, xo, none⟩) 4 4)).run Try.prog W = .ok (.string { data := #[97, 98, 99, 100] }) W := fun W bW => by
    have h := run_convert_bytes_arg (P := Try.prog) W 32 5 Try.underlying32 Try.underlying5 xb xo 4 4 [97, 98, 99, 100] rfl (fun i hi => by
      match i, hi with
      | 0, _ => exact (bW.cell (p := ⟨xb, xo + 0, none⟩) hlb).trans d0
      | 1, _ => exact (bW.cell (p := ⟨xb, xo + 1, none⟩) hlb).trans d1'
      | 2, _ => exact (bW.cell (p := ⟨xb, xo + 2, none⟩) hlb).trans d2'
      | 3, _ => exact (bW.cell (p := ⟨xb, xo + 3, none⟩) hlb).trans d3') 9 Try.underlying9
    exact h
  have EC := Lib.hid ec
  clear c0 c1 c2 c3 d0 d1' d2' d3' bL SL ec
  go_wp2_with (first
    | (go_at_call 9; refine (num_any _ _).mono ?_; rintro e w' ⟨rfl, rfl⟩)
    | (go_at_call 23; refine SM.out.mono ?_; rintro e V7 ⟨rfl, b7⟩; have B7 := Lib.hid b7; have ec7 := EC.out V7 b7; clear b7)
    | fail)
  go_ret
  exact ⟨rfl, HQ.out.trans ((HBL.out.mono HQ.out.size).trans (B7.out.mono (Nat.le_trans HQ.out.size HBL.out.size)))⟩
end Go.Proofs.Ytknebjfdggimcaa
