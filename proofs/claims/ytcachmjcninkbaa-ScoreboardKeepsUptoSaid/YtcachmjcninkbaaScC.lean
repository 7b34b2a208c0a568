/- Scoreboard: places, spans, what may be, what is lost. -/
import Derived.Test.YtcachmjcninkbaaScM
import Derived.Test.YtcachmjcninkbaaGOwn
import Derived.Test.YtcachmjcninkbaaGMid
import Derived.LoopTactic
import Derived.Deep.DeepCutAuto
import Derived.BigQuiet
import Derived.RegionTactic
import Derived.Deep.RegionHeld3
import Derived.Lib.MinMax
import Derived.ProofKit
namespace Go.Proofs.Ytcachmjcninkbaa
open Go.RowKit

def SC (x : Nat × Nat) : List Value := [.int .i64 (x.1 : Nat), .int .i64 (x.2 : Nat)]
def BC (x : Nat × Nat) : List Value := [.int .u32 (x.1 : Nat), .int .u32 (x.2 : Nat)]
theorem encS : Enc 2 SC := ⟨fun _ => rfl, fun x u hu => by
  simp only [SC, List.mem_cons, List.not_mem_nil, or_false] at hu
  rcases hu with rfl | rfl <;> rfl, by decide⟩
theorem encB : Enc 2 BC := ⟨fun _ => rfl, fun x u hu => by
  simp only [BC, List.mem_cons, List.not_mem_nil, or_false] at hu
  rcases hu with rfl | rfl <;> rfl, by decide⟩
theorem elemS : Elem 90 76 (.agg #[.int .i64 0, .int .i64 0]) 2 16 := ⟨Try.underlying90, by kernel_rfl, rfl, by decide⟩
theorem elemBk : Elem 23 38 (.agg #[.int .u32 0, .int .u32 0]) 2 8 := ⟨Try.underlying23, by kernel_rfl, rfl, by decide⟩
theorem rowSp : Row 76 2 := ⟨⟨_, Try.underlying76, rfl⟩, by kernel_rfl⟩
theorem rowBk : Row 38 2 := ⟨⟨_, Try.underlying38, rfl⟩, by kernel_rfl⟩
theorem rowH : Row 78 4 := ⟨⟨_, Try.underlying78, rfl⟩, by kernel_rfl⟩
def small2 (l : List (Nat × Nat)) : Prop := ∀ x ∈ l, x.1 < 4294967296 ∧ x.2 < 4294967296
/-- Two cells at a place. -/
theorem s_at {w : World} {b off : Nat} {l : List (Nat × Nat)} (h : Sts 2 SC Tr w (some ⟨b, off, none⟩) l) {i : Nat} {p : Nat × Nat} (hi : l[i]? = some p) : b < w.heap.size ∧ w.cell? ⟨b, off + i * 2, none⟩ = some (.int .i64 (p.1 : Nat)) ∧ w.cell? ⟨b, off + i * 2 + 1, none⟩ = some (.int .i64 (p.2 : Nat)) := by
  obtain ⟨b', off', e, hb, h2⟩ := h.isSomeT (by have := (List.getElem?_eq_some_iff.1 hi).1; omega)
  cases e
  exact ⟨hb, h2 i p hi 0 _ rfl, h2 i p hi 1 _ rfl⟩
theorem b_at {w : World} {b off : Nat} {l : List (Nat × Nat)} (h : Sts 2 BC Tr w (some ⟨b, off, none⟩) l) {i : Nat} {p : Nat × Nat} (hi : l[i]? = some p) : b < w.heap.size ∧ w.cell? ⟨b, off + i * 2, none⟩ = some (.int .u32 (p.1 : Nat)) ∧ w.cell? ⟨b, off + i * 2 + 1, none⟩ = some (.int .u32 (p.2 : Nat)) := by
  obtain ⟨b', off', e, hb, h2⟩ := h.isSomeT (by have := (List.getElem?_eq_some_iff.1 hi).1; omega)
  cases e
  exact ⟨hb, h2 i p hi 0 _ rfl, h2 i p hi 1 _ rfl⟩
theorem u32_i64 {k : Nat} (h : k < 4294967296) : IntKind.i64.wrap (k : Int) = (k : Int) := IntWalk.i64_in _ ⟨by omega, by omega⟩

set_option maxRecDepth 100000 in
set_option maxHeartbeats 400000 in
theorem place_any (una nxt high : Nat) (a : Option Addr) (n c x : Nat) (w : World) (hu : una < 4294967296) :
    Calls Try.prog 34 #[.agg #[.int .u32 (una : Nat), .int .u32 (nxt : Nat), .int .u32 (high : Nat), .slice a n c], .int .u32 (x : Nat)] w fun e w' => e = .returned (.int .i64 (pl una x : Nat)) ∧ Below w.heap.size w w' := by
  have w1 := pl_wrap (x := x) hu
  have w2 := u32_i64 (pl_lt una x)
  obtain ⟨p, hp⟩ : ∃ p, pl una x = p := ⟨_, rfl⟩
  rw [hp] at w1 w2 ⊢
  go_enter Try.func34, Try.ntmps34
  go_wp2
  go_ret
  exact ⟨rfl, (Below.refl _ _).alloc (Nat.le_refl _) _⟩
theorem three (w : World) (a b c : Obj) : (((w.alloc a).alloc b).alloc c).heap[w.heap.size]? = some a ∧ (((w.alloc a).alloc b).alloc c).heap[w.heap.size + 1]? = some b ∧ (((w.alloc a).alloc b).alloc c).heap[w.heap.size + 1 + 1]? = some c ∧ (((w.alloc a).alloc b).alloc c).heap.size = w.heap.size + 1 + 1 + 1 ∧ Below w.heap.size w (((w.alloc a).alloc b).alloc c) := by
  have b1 := (Below.refl w.heap.size w).alloc (Nat.le_refl _) a
  have b2 := b1.alloc b1.size b
  refine ⟨?_, ?_, ?_, ?_, b2.alloc b2.size c⟩
  · show (((w.heap.push a).push b).push c)[w.heap.size]? = some a
    (repeat rw [Array.getElem?_push]); simp only [Array.size_push]; (repeat (first | rw [if_pos (by omega)] | rw [if_neg (by omega)] | rw [if_pos trivial]))
  · show (((w.heap.push a).push b).push c)[w.heap.size + 1]? = some b
    (repeat rw [Array.getElem?_push]); simp only [Array.size_push]; (repeat (first | rw [if_pos (by omega)] | rw [if_neg (by omega)] | rw [if_pos trivial]))
  · show (((w.heap.push a).push b).push c)[w.heap.size + 1 + 1]? = some c
    (repeat rw [Array.getElem?_push]); simp only [Array.size_push]; (repeat (first | rw [if_pos (by omega)] | rw [if_neg (by omega)] | rw [if_pos trivial]))
  · show (((w.heap.push a).push b).push c).size = _
    simp

set_option maxRecDepth 100000 in
set_option maxHeartbeats 1000000 in
theorem spanOf_any (una nxt high : Nat) (a : Option Addr) (n c x y : Nat) (w : World) (hu : una < 4294967296) :
    Calls Try.prog 46 #[.agg #[.int .u32 (una : Nat), .int .u32 (nxt : Nat), .int .u32 (high : Nat), .slice a n c], .agg #[.int .u32 (x : Nat), .int .u32 (y : Nat)]] w fun e w' => e = .returned (.agg #[.int .i64 (pl una x : Nat), .int .i64 (pl una y : Nat)]) ∧ Below w.heap.size w w' := by
  go_enter Try.func46, Try.ntmps46
  go_upto_region 1 with fail
  obtain ⟨x1, x2, x3, x4, x5⟩ := three w (.cells #[.int .u32 (una : Nat), .int .u32 (nxt : Nat), .int .u32 (high : Nat), .slice a n c] 26) (.cells #[.int .u32 (x : Nat), .int .u32 (y : Nat)] 38) (.cells #[.int .i64 0, .int .i64 0] 76)
  have S0 := Lib.hid x1
  have B0 := Lib.hid x2
  have Z0 := Lib.hid x3
  have N0 := Lib.hid x4
  have Q0 := Lib.hid x5
  clear x1 x2 x3 x4 x5
  generalize ((w.alloc (.cells #[.int .u32 (una : Nat), .int .u32 (nxt : Nat), .int .u32 (high : Nat), .slice a n c] 26)).alloc (.cells #[.int .u32 (x : Nat), .int .u32 (y : Nat)] 38)).alloc (.cells #[.int .i64 0, .int .i64 0] 76) = V0 at S0 B0 Z0 N0 Q0 ⊢
  have hz0 : w.heap.size + 1 + 1 < V0.heap.size := blk_lt Z0.out
  refine wp_region_held_drew (S := fun W => Below (w.heap.size + 1 + 1) V0 W) (by kernel_rfl) (Below.refl _ _).drew (fun hHeld => ?_)
  refine wpAnyH_take (i := 0) (oi := _) (v := ?_) rfl (by kernel_rfl) (by kernel_rfl) (by kernel_rfl) (fun _ _ _ h => h) (Or.inl ⟨by rfl, ?_⟩) (by assumption) ?_
  rotate_left
  · intro w5 hSw
    have hB : Below (w.heap.size + 1 + 1) V0 w5 := hSw
    clear hSw
    have c0 := blk_cell ((hB.block _ (by omega)).trans S0.out) 0
    have c1 := blk_cell ((hB.block _ (by omega)).trans S0.out) 1
    have c2 := blk_cell ((hB.block _ (by omega)).trans S0.out) 2
    have c3 := blk_cell ((hB.block _ (by omega)).trans S0.out) 3
    clear hB
    go_simp
    all_goals with_reducible rfl
  (try simp only [List.getElem_toArray]); (try simp only [List.getElem_cons_succ]); (try simp only [List.getElem_cons_zero]); try simp only [Act.put, List.setIfInBounds_toArray, List.set_cons_zero, List.set_cons_succ]
  refine wpAnyH_take (i := 1) (oi := _) (v := ?_) rfl (by kernel_rfl) (by kernel_rfl) (by kernel_rfl) (fun _ _ _ h => h) (Or.inl ⟨by rfl, ?_⟩) (by assumption) ?_
  rotate_left
  · intro w5 hSw
    clear hSw
    go_simp
    all_goals with_reducible rfl
  (try simp only [List.getElem_toArray]); (try simp only [List.getElem_cons_succ]); (try simp only [List.getElem_cons_zero]); try simp only [Act.put, List.setIfInBounds_toArray, List.set_cons_zero, List.set_cons_succ]
  refine wpAnyH_take (i := 2) (oi := _) (v := ?_) rfl (by kernel_rfl) (by kernel_rfl) (by kernel_rfl) (fun _ _ _ h => h) (Or.inl ⟨by rfl, ?_⟩) (by assumption) ?_
  rotate_left
  · intro w5 hSw
    have hB : Below (w.heap.size + 1 + 1) V0 w5 := hSw
    clear hSw
    have c0 := blk_cell ((hB.block _ (by omega)).trans B0.out) 0
    have c1 := blk_cell ((hB.block _ (by omega)).trans B0.out) 1
    clear hB
    go_simp
    all_goals with_reducible rfl
  (try simp only [List.getElem_toArray]); (try simp only [List.getElem_cons_succ]); (try simp only [List.getElem_cons_zero]); try simp only [Act.put, List.setIfInBounds_toArray, List.set_cons_zero, List.set_cons_succ]
  refine wpAnyH_take (i := 4) (oi := _) (v := ?_) rfl (by kernel_rfl) (by kernel_rfl) (by kernel_rfl) (fun _ _ _ h => h) (Or.inl ⟨by rfl, ?_⟩) (by assumption) ?_
  rotate_left
  · intro w5 hSw
    have hB : Below (w.heap.size + 1 + 1) V0 w5 := hSw
    clear hSw
    have c0 := blk_cell ((hB.block _ (by omega)).trans S0.out) 0
    have c1 := blk_cell ((hB.block _ (by omega)).trans S0.out) 1
    have c2 := blk_cell ((hB.block _ (by omega)).trans S0.out) 2
    have c3 := blk_cell ((hB.block _ (by omega)).trans S0.out) 3
    clear hB
    go_simp
    all_goals with_reducible rfl
  (try simp only [List.getElem_toArray]); (try simp only [List.getElem_cons_succ]); (try simp only [List.getElem_cons_zero]); try simp only [Act.put, List.setIfInBounds_toArray, List.set_cons_zero, List.set_cons_succ]
  refine wpAnyH_take (i := 5) (oi := _) (v := ?_) rfl (by kernel_rfl) (by kernel_rfl) (by kernel_rfl) (fun _ _ _ h => h) (Or.inl ⟨by rfl, ?_⟩) (by assumption) ?_
  rotate_left
  · intro w5 hSw
    clear hSw
    go_simp
    all_goals with_reducible rfl
  (try simp only [List.getElem_toArray]); (try simp only [List.getElem_cons_succ]); (try simp only [List.getElem_cons_zero]); try simp only [Act.put, List.setIfInBounds_toArray, List.set_cons_zero, List.set_cons_succ]
  refine wpAnyH_take (i := 6) (oi := _) (v := ?_) rfl (by kernel_rfl) (by kernel_rfl) (by kernel_rfl) (fun _ _ _ h => h) (Or.inl ⟨by rfl, ?_⟩) (by assumption) ?_
  rotate_left
  · intro w5 hSw
    have hB : Below (w.heap.size + 1 + 1) V0 w5 := hSw
    clear hSw
    have c0 := blk_cell ((hB.block _ (by omega)).trans B0.out) 0
    have c1 := blk_cell ((hB.block _ (by omega)).trans B0.out) 1
    clear hB
    go_simp
    all_goals with_reducible rfl
  (try simp only [List.getElem_toArray]); (try simp only [List.getElem_cons_succ]); (try simp only [List.getElem_cons_zero]); try simp only [Act.put, List.setIfInBounds_toArray, List.set_cons_zero, List.set_cons_succ]
  refine wpAnyH_ready (rs := [3]) (by kernel_rfl) (by simp) ?_
  refine (AllReadyH.cons (o := _) rfl (fun K hK => ?_) AllReadyH.nil)
  · (try simp only [List.getElem_toArray]); (try simp only [List.getElem_cons_succ]); (try simp only [List.getElem_cons_zero])
    go_simp
    go_at_call 34
    (with_reducible refine (place_any una nxt high a n c x _ hu).mono ?_)
    rintro e5 W2 ⟨rfl, hb⟩
    have HW2 := Lib.hid (((Below.refl V0.heap.size V0).drew).trans hb)
    clear hb
    try dsimp only
    refine hK.out _ _ ?_ (fun hHeld => ?_)
    · exact HW2.out.mono (by omega)
    clear hK K
    (try simp only [List.getElem_toArray]); (try simp only [List.getElem_cons_succ]); (try simp only [List.getElem_cons_zero]); try simp only [Act.put, List.setIfInBounds_toArray, List.set_cons_zero, List.set_cons_succ]
    refine wpAnyH_ready (rs := [7]) (by kernel_rfl) (by simp) ?_
    refine (AllReadyH.cons (o := _) rfl (fun K hK => ?_) AllReadyH.nil)
    · (try simp only [List.getElem_toArray]); (try simp only [List.getElem_cons_succ]); (try simp only [List.getElem_cons_zero])
      go_simp
      go_at_call 34
      (with_reducible refine (place_any una nxt high a n c y _ hu).mono ?_)
      rintro e5 W3 ⟨rfl, hb⟩
      have HW3 := Lib.hid (HW2.out.trans (hb.mono HW2.out.size))
      clear hb
      try dsimp only
      refine hK.out _ _ ?_ (fun hHeld => ?_)
      · exact HW3.out.mono (by omega)
      clear hK K
      (try simp only [List.getElem_toArray]); (try simp only [List.getElem_cons_succ]); (try simp only [List.getElem_cons_zero]); try simp only [Act.put, List.setIfInBounds_toArray, List.set_cons_zero, List.set_cons_succ]
      refine wpAnyH_take (i := 8) (oi := _) (v := ?_) rfl (by kernel_rfl) (by kernel_rfl) (by kernel_rfl) (fun _ _ _ h => h) (Or.inl ⟨by rfl, ?_⟩) (by assumption) ?_
      rotate_left
      · intro w5 hSw
        clear hSw
        go_simp
        all_goals with_reducible rfl
      (try simp only [List.getElem_toArray]); (try simp only [List.getElem_cons_succ]); (try simp only [List.getElem_cons_zero]); try simp only [Act.put, List.setIfInBounds_toArray, List.set_cons_zero, List.set_cons_succ]
      have ZB := Lib.hid ((HW3.out.block _ (blk_lt Z0.out)).trans Z0.out)
      refine wpAnyH_ready (rs := [9]) (by kernel_rfl) (by simp) ?_
      refine (AllReadyH.cons (o := _) rfl (fun K hK => ?_) AllReadyH.nil)
      · refine step_store_blk rowSp (t := 76) ?_ (.tmp 4) (.tmp 13) ?_ (w.heap.size + 1 + 1) #[.int .i64 0, .int .i64 0] #[.int .i64 (pl una x : Nat), .int .i64 (pl una y : Nat)] ?_ ?_ ZB.out rfl rfl (by simp [Value.oneCell']) ?_
        · rfl
        · rfl
        · rfl
        · rfl
        intro V5 hb5 hg5
        refine hK.out _ _ ?_ (fun hHeld => ?_)
        · exact (HW3.out.mono (by omega)).grown hg5 (by have := HW3.out.size; have := blk_lt Z0.out; omega) (fun k e => by have := Option.some.inj e; omega)
        clear hK K
        have ZB5 := Lib.hid hb5
        have Q5 := Lib.hid ((Q0.out.trans (HW3.out.mono Q0.out.size)).grown hg5 (by have := HW3.out.size; have := Q0.out.size; omega) (fun k e => by have := Option.some.inj e; omega))
        clear hb5 hg5
        refine wpAnyH_done (by kernel_rfl) ?_ _
        go_wp2_with fail
        refine bodyPost_ret (results_c rowSp rfl _ _ (w.heap.size + 1 + 1) _ rfl ZB5.out rfl) rfl ⟨rfl, ?_⟩
        exact Q5.out

set_option maxRecDepth 100000 in
set_option maxHeartbeats 1000000 in
theorem spans_any (una nxt high : Nat) (a : Option Addr) (bs : List (Nat × Nat)) (c : Nat) (w : World) (hu : una < 4294967296) (h : Sts 2 BC Tr w a bs) (hl : bs.length ≤ 1024) :
    Calls Try.prog 48 #[.agg #[.int .u32 (una : Nat), .int .u32 (nxt : Nat), .int .u32 (high : Nat), .slice a bs.length c]] w fun e w' => (∃ a' c', e = .returned (.slice a' bs.length c') ∧ OwnR 76 2 SC w.heap.size a' (sps una bs) c' w') ∧ Below w.heap.size w w' := by
  have HL := Lib.hid h
  clear h
  go_enter Try.func48, Try.ntmps48
  go_upto_region 2 with fail
  have Q0 := Lib.hid ((Below.refl w.heap.size w).alloc (Nat.le_refl _) (.cells #[.int .u32 (una : Nat), .int .u32 (nxt : Nat), .int .u32 (high : Nat), .slice a bs.length c] 26))
  have S0 := Lib.hid (blk_new w (.cells #[.int .u32 (una : Nat), .int .u32 (nxt : Nat), .int .u32 (high : Nat), .slice a bs.length c] 26))
  have hz0 : w.heap.size < (w.alloc (.cells #[.int .u32 (una : Nat), .int .u32 (nxt : Nat), .int .u32 (high : Nat), .slice a bs.length c] 26)).heap.size := by simp
  generalize w.alloc (.cells #[.int .u32 (una : Nat), .int .u32 (nxt : Nat), .int .u32 (high : Nat), .slice a bs.length c] 26) = V0 at Q0 S0 hz0 ⊢
  have c3 := blk_cell S0.out 3
  go_wp2_with fail
  clear c3
  go_loopw [3, 9] (fun sv iv wr => ∃ (i : Nat) (p : Option Addr) (d : Nat), i ≤ bs.length ∧ iv = .int .i64 i ∧ sv = .slice p (sps una (bs.take i)).length d ∧ OwnR 76 2 SC (w.heap.size + 1) p (sps una (bs.take i)) d wr ∧ wr.heap[w.heap.size]? = some (.cells #[.int .u32 (una : Nat), .int .u32 (nxt : Nat), .int .u32 (high : Nat), .slice a bs.length c] 26 (0, 0)) ∧ Below w.heap.size w wr) (fun _ iv _ => bs.length - (intOf iv).toNat)
  case atStart => exact ⟨0, none, 0, by omega, rfl, rfl, ownR_nil _ _ _ _ _, S0.out, Q0.out⟩
  case round =>
    obtain ⟨i, p, d, hi, rfl, rfl, hO, hS, hq⟩ := hrel
    have OR := Lib.hid hO
    have SR := Lib.hid hS
    have QR := Lib.hid hq
    have hgr := blk_lt hS
    clear hO hS hq Q0 S0
    by_cases hlt : i < bs.length
    case neg =>
      obtain rfl : i = bs.length := by omega
      rw [List.take_length] at OR ⊢
      go_wp2
      go_ret
      exact ⟨⟨p, d, by rw [sps_len]; rfl, OR.out.mono (by omega)⟩, QR.out⟩
    case pos =>
      have i1 : (i : Int) < (bs.length : Int) := by omega
      obtain ⟨x, hx⟩ : ∃ x, bs[i]? = some x := ⟨_, List.getElem?_eq_getElem hlt⟩
      obtain ⟨g, o, rfl, _, _⟩ := HL.out.isSomeT (by omega)
      obtain ⟨hg, p0, p1⟩ := b_at HL.out hx
      have m0 := (QR.out.cell (p := ⟨g, o + i * 2, none⟩) hg).trans p0
      have m1 := (QR.out.cell (p := ⟨g, o + i * 2 + 1, none⟩) hg).trans p1
      have hnx : sps una (bs.take (i + 1)) = sps una (bs.take i) ++ [(pl una x.1, pl una x.2)] := by rw [List.take_add_one, hx]; simp [sps]
      have HNX := Lib.hid hnx
      have hln : (sps una (bs.take i)).length ≤ 1024 := by rw [sps_len, List.length_take]; omega
      clear p0 p1 hx hnx
      go_upto_region 5 with fail
      have hb1 := (Below.refl wr.heap.size wr).alloc (Nat.le_refl _) (.cells #[.int .u32 (x.1 : Nat), .int .u32 (x.2 : Nat)] 38)
      have X1 := Lib.hid (blk_new wr (.cells #[.int .u32 (x.1 : Nat), .int .u32 (x.2 : Nat)] 38))
      have S1 := Lib.hid ((hb1.block _ hgr).trans SR.out)
      have O1 := Lib.hid (OR.out.below hb1)
      have Q1 := Lib.hid (QR.out.trans (hb1.mono QR.out.size))
      have hw1 : wr.heap.size < (wr.alloc (.cells #[.int .u32 (x.1 : Nat), .int .u32 (x.2 : Nat)] 38)).heap.size := by simp
      clear hb1 m0 m1 SR OR QR
      generalize wr.alloc (.cells #[.int .u32 (x.1 : Nat), .int .u32 (x.2 : Nat)] 38) = V1 at X1 S1 O1 Q1 hw1 ⊢
      have c0 := blk_cell S1.out 0
      have c1 := blk_cell S1.out 1
      have c2 := blk_cell S1.out 2
      have c3 := blk_cell S1.out 3
      have k0 := blk_cell X1.out 0
      have k1 := blk_cell X1.out 1
      go_wp2_with fail
      refine (spanOf_any una nxt high (some ⟨g, o, none⟩) bs.length c x.1 x.2 V1 hu).mono ?_
      rintro e V2 ⟨rfl, hB2⟩
      have S2 := Lib.hid ((hB2.block _ (blk_lt S1.out)).trans S1.out)
      have O2 := Lib.hid (O1.out.below hB2)
      have Q2 := Lib.hid (Q1.out.trans (hB2.mono Q1.out.size))
      have hz2 : w.heap.size + 1 ≤ V2.heap.size := by have := hB2.size; have := blk_lt S1.out; omega
      have BAL := Lib.hid ((Below.refl V2.heap.size V2).alloc (Nat.le_refl _) (.cells #[.int .i64 (pl una x.1 : Nat), .int .i64 (pl una x.2 : Nat)] 76))
      clear hB2 c0 c1 c2 c3 k0 k1 S1 O1 Q1
      go_wp2_with (first
        | ((with_reducible show wpList _ _ _ _ _ _); refine wpList_append_r (w := V2.alloc (.cells #[.int .i64 (pl una x.1 : Nat), .int .i64 (pl una x.2 : Nat)] 76)) (t := 90) (e := 76) (z := .agg #[.int .i64 0, .int .i64 0]) (m := 2) (bz := 16) (cells := SC) (xs := sps una (bs.take i)) (ys := [(pl una x.1, pl una x.2)]) (cap := d) (dap := 1) (n := 1) (a := p) (b := some ⟨V2.heap.size, 0, none⟩) rfl elemS encS (.tmp 13) (.tmp 17) rfl (w.heap.size + 1) rfl ?_ ?_ ?_ ?_ ?_ ?_ ?_ ?_ ?_; exact O2.out.below BAL.out; exact sts_new encS V2 [(pl una x.1, pl una x.2)] 76 (0, 0); (intro e; cases e); rfl; rfl; (simp only [List.length_cons, List.length_nil]; omega); (unfold maxLen; simp only [List.length_cons, List.length_nil]; omega); (have := BAL.out.size; omega); intro a5 c5 V5 O5 b5 g5; have O5h := Lib.hid O5; have B5h := Lib.hid b5; have S5 := Lib.hid ((b5.block _ (by omega)).trans ((BAL.out.block _ (blk_lt S2.out)).trans S2.out)); clear O5 b5 g5)
        | fail)
      go_roundw
      case rel => exact ⟨i + 1, a5, c5, by omega, by go_num, by rw [HNX.out]; (first | rfl | (rw [List.length_append]; rfl)), by rw [HNX.out]; exact O5h.out, S5.out, (Q2.out.trans (BAL.out.mono Q2.out.size)).trans (B5h.out.mono (by omega))⟩
      case measure => simp [intOf]; omega
end Go.Proofs.Ytcachmjcninkbaa
