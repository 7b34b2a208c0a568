/- Routes: a queue of frames; put. -/
import Derived.Test.YtinlacdngojlaaaRcDel
import Derived.Test.YtinlacdngojlaaaGTurnsB
namespace Go.Proofs.Ytinlacdngojlaaa
open Go.RowKit Go.Maps Go.Proofs.Ytinlacdngojlaaa.Rt Go.Sort Go.BigFrame

section
variable {α : Type} {m : Nat} {cells : α → List Value} {w : World}
theorem step_append_rA {ops : Array Oper} {o : Oper} {act : Act} {K : Act → World → Prop} {Q : Exit → Act → World → Prop} {E0 : Prop} {t e : TypeId} {z : Value} {bz : Nat} (hgd : o.guard = none) (L : Elem t e z m bz) (E : Enc m cells) (s x : Operand)
    (ho : o.op = .call { callee := .builtin .append, args := #[s, x], argTypes := #[t, t] }) (B : Nat) {a : Option Addr} {ad : Addr} {xs ys : List α} {cap dap n : Nat} (hn : n = ys.length)
    (O : OwnR e m cells B a xs cap w) (Y : Sts m cells Tr w (some ad) ys) (hs : act.eval s = .slice a xs.length cap) (hx : act.eval x = .slice (some ad) n dap)
    (hlen : (xs.length + ys.length) * bz ≤ 140737488355328) (hml : xs.length + ys.length ≤ maxLen) (hB : B ≤ w.heap.size)
    (h : ∀ a' cap' w', OwnR e m cells B a' (xs ++ ys) cap' w' → Below B w w' → w.grownBy w' (Value.slice a xs.length cap).ownBlock → (∀ g, a' = some ⟨g, 0, none⟩ → a = some ⟨g, 0, none⟩ ∨ g = w.heap.size) → K (act.put o.dst (.slice a' (xs ++ ys).length cap')) w') : if Region.wanted o (yielded ops act.tmps) = true then Oper.wp Try.prog o act w K Q else E0 := by
  have hw : Region.wanted o (yielded ops act.tmps) = true := by simp [Region.wanted, hgd]
  rw [if_pos hw]
  subst hn
  obtain ⟨i0, hi, hz0, hz1, hz2⟩ := info_parts L.inf
  obtain ⟨v', w', hr, hown, hgrow, _, hat⟩ := run_append_own_at (P := Try.prog) w B t o.type e i0 z m bz L.und hi hz0 hz1 hz2 L.zs L.pos _ _ _ O.rowAny ad ys.length dap (ys.flatMap cells) (flat_len E ys) (Y.srcF E) (flat_one E ys) hml hlen hB
  unfold Oper.wp execOp
  simp only [ho, resolve, invoke, builtin, Sem.run_bind, Sem.run_pure, Result.andThen_ok, List.map_toArray, List.map_cons, List.map_nil, hs, hx, hr]
  rw [← List.flatMap_append, ← List.length_append] at hown
  obtain ⟨a', cap', rfl, O'⟩ := OwnR.of_row hown
  refine h a' cap' w' O' ((Below.refl _ _).grown hgrow hB (fun k e => (O.ownB k e).1)) hgrow ?_
  intro g hg
  subst hg
  rcases hat with h1 | h1
  · left
    rcases O with ⟨rfl, _, _⟩ | ⟨g2, rfl, _, _⟩
    · cases h1
    · have e : some g = some g2 := h1
      rw [Option.some.inj e]
  · right
    have e : some g = some w.heap.size := h1
    exact Option.some.inj e
end
/-- Octets. -/
def U8C (x : Nat) : List Value := [.int .u8 (x : Nat)]
theorem encU : Enc 1 U8C := ⟨fun _ => rfl, fun x u hu => by
  simp only [U8C, List.mem_cons, List.not_mem_nil, or_false] at hu
  subst hu; rfl, by decide⟩
theorem elemU : Elem 56 5 (.int .u8 0) 1 1 := ⟨Try.underlying56, by kernel_rfl, rfl, by decide⟩
theorem bts_sts {w : World} {a : Option Addr} {xs : List Nat} (h : Bts w a xs) : Sts 1 U8C Tr w a xs := by
  refine ⟨fun _ _ => trivial, ?_⟩
  rcases h.2 with h0 | ⟨b, off, e, hb, hc⟩
  · exact .inl h0
  · refine .inr ⟨b, off, e, hb, fun i r hi j v hv => ?_⟩
    obtain ⟨hlt, he⟩ := List.getElem?_eq_some_iff.1 hi
    match j, hv with
    | 0, hv =>
      simp [U8C] at hv
      subst hv
      have := hc i hlt
      rw [List.getD_eq_getElem?_getD, hi] at this
      rw [Nat.mul_one]
      exact this
    | j + 1, hv => simp [U8C] at hv
theorem sts_bts {w : World} {a : Option Addr} {xs : List Nat} (hx : ∀ x ∈ xs, x < 256) (h : Sts 1 U8C Tr w a xs) : Bts w a xs := by
  refine ⟨hx, ?_⟩
  rcases h.2 with h0 | ⟨b, off, e, hb, hc⟩
  · exact .inl h0
  · refine .inr ⟨b, off, e, hb, fun i hi => ?_⟩
    have := hc i _ (List.getElem?_eq_getElem hi) 0 _ rfl
    rw [Nat.mul_one] at this
    rw [List.getD_eq_getElem?_getD, List.getElem?_eq_getElem hi]
    exact this
/-- A queue in block gq: its frames, each with octets of its own, all from block P on. -/
structure QAt (P gq : Nat) (asked : Int) (a : Option Addr) (F : List Txt) (cap : Nat) (W : World) : Prop where
  blk : W.heap[gq]? = some (.cells #[.slice a F.length cap, .int .i64 asked] 79 (0, 0))
  own : OwnR 56 1 Txt.cells P a F cap W
  lt : gq < P
  fr : ∀ f ∈ F, Bts W f.a f.xs
  dj : ∀ f ∈ F, ∀ b o, f.a = some ⟨b, o, none⟩ → 0 < f.xs.length → P ≤ b ∧ ∀ g, a = some ⟨g, 0, none⟩ → b ≠ g
theorem bts_turnedN {S : Nat → Prop} {w w' : World} {a : Option Addr} {xs : List Nat} (Y : Bts w a xs) (h : Turns S w w') (hS : ∀ b o, a = some ⟨b, o, none⟩ → 0 < xs.length → ¬ S b) : Bts w' a xs := by
  by_cases h0 : 0 < xs.length
  · exact Y.turned h (fun b o e => hS b o e h0)
  · obtain rfl : xs = [] := List.eq_nil_of_length_eq_zero (by omega)
    exact Bts.nil _ _
theorem QAt.turned {P gq : Nat} {asked : Int} {a : Option Addr} {F : List Txt} {cap : Nat} {W W' : World} {S : Nat → Prop} (h : QAt P gq asked a F cap W) (ht : Turns S W W') (h1 : ¬ S gq) (h2 : ∀ g, a = some ⟨g, 0, none⟩ → ¬ S g) (h3 : ∀ f ∈ F, ∀ b o, f.a = some ⟨b, o, none⟩ → 0 < f.xs.length → ¬ S b) : QAt P gq asked a F cap W' :=
  ⟨ht.blk h.blk h1, h.own.turned ht h2, h.lt, fun f hf => bts_turnedN (h.fr f hf) ht (h3 f hf), h.dj⟩
theorem QAt.below {P gq : Nat} {asked : Int} {a : Option Addr} {F : List Txt} {cap : Nat} {W W' : World} (h : QAt P gq asked a F cap W) (hb : Below W.heap.size W W') : QAt P gq asked a F cap W' :=
  h.turned (S := fun _ => False) (.of_below _ hb) id (fun _ _ => id) (fun _ _ _ _ _ _ => id)
/-- What is turned by a put. -/
def PutS (gq : Nat) (a : Option Addr) (q : Nat) : Prop := q = gq ∨ a = some ⟨q, 0, none⟩
def PutAns (P gq : Nat) (asked : Int) (a : Option Addr) (F : List Txt) (fxs : List Nat) (W : World) (e : Ending) (w' : World) : Prop :=
  e = .returned (.tuple #[]) ∧ (∃ a' cap' oa oc, QAt P gq asked a' (F ++ [⟨oa, fxs, oc⟩]) cap' w' ∧ (∀ g, a' = some ⟨g, 0, none⟩ → a = some ⟨g, 0, none⟩ ∨ W.heap.size ≤ g) ∧ (∀ b o, oa = some ⟨b, o, none⟩ → W.heap.size ≤ b)) ∧ Turns (PutS gq a) W w'

set_option maxRecDepth 100000 in
set_option maxHeartbeats 2000000 in
theorem put_lt (P gq : Nat) (asked : Int) (a : Option Addr) (F : List Txt) (cap : Nat) (fa : Option Addr) (fxs : List Nat) (fcap : Nat) (W : World) (h : QAt P gq asked a F cap W) (hP : P ≤ W.heap.size) (hF : F.length < 4) (hY : Bts W fa fxs) (hfc : fa = none → fcap = 0) (hfl : fxs.length ≤ 65535) :
    Calls Try.prog 26 #[.pointer (some ⟨gq, 0, none⟩), .slice fa fxs.length fcap] W (PutAns P gq asked a F fxs W) := by
  have HQ := Lib.hid h
  have Y := Lib.hid hY
  have PRE := Turns.refl (PutS gq a) W
  have t0 := blk_cell h.blk 0
  have j1 : ¬ ((F.length : Int) = 4) := by omega
  have j2 : ((F.length : Int) == 4) = false := by rw [beq_eq_false_iff_ne]; exact j1
  clear h hY
  go_enter Try.func26, Try.ntmps26
  have hs0 := PRE.size
  go_upto_region 2 with fail
  refine wp_region_until (S := fun W' => (W'.heap[gq]? = some (.cells #[.slice a F.length cap, .int .i64 asked] 79 (0, 0)))) 11 (by kernel_rfl) (blk_drew HQ.out.blk) (fun hHeld => ?_)
  refine wpAnyU_take (i := 0) (oi := _) (v := ?_) rfl (by kernel_rfl) (by kernel_rfl) (by kernel_rfl) (by kernel_rfl) (fun _ _ _ h => h) (Or.inl ⟨by rfl, ?_⟩) (by assumption) ?_
  rotate_left
  · intro w5 hSw
    clear hSw
    go_simp
    all_goals with_reducible rfl
  (try simp only [List.getElem_toArray]); (try simp only [List.getElem_cons_succ]); (try simp only [List.getElem_cons_zero]); try simp only [Act.put, List.setIfInBounds_toArray, List.set_cons_zero, List.set_cons_succ]
  refine wpAnyU_take (i := 1) (oi := _) (v := ?_) rfl (by kernel_rfl) (by kernel_rfl) (by kernel_rfl) (by kernel_rfl) (fun _ _ _ h => h) (Or.inl ⟨by rfl, ?_⟩) (by assumption) ?_
  rotate_left
  · intro w5 hSw
    clear hSw
    go_simp
    all_goals with_reducible rfl
  (try simp only [List.getElem_toArray]); (try simp only [List.getElem_cons_succ]); (try simp only [List.getElem_cons_zero]); try simp only [Act.put, List.setIfInBounds_toArray, List.set_cons_zero, List.set_cons_succ]
  refine wpAnyU_take (i := 2) (oi := _) (v := ?_) rfl (by kernel_rfl) (by kernel_rfl) (by kernel_rfl) (by kernel_rfl) (fun _ _ _ h => h) (Or.inl ⟨by rfl, ?_⟩) (by assumption) ?_
  rotate_left
  · intro w5 hSw
    clear hSw
    go_simp
    all_goals with_reducible rfl
  (try simp only [List.getElem_toArray]); (try simp only [List.getElem_cons_succ]); (try simp only [List.getElem_cons_zero]); try simp only [Act.put, List.setIfInBounds_toArray, List.set_cons_zero, List.set_cons_succ]
  refine wpAnyU_take (i := 3) (oi := _) (v := ?_) rfl (by kernel_rfl) (by kernel_rfl) (by kernel_rfl) (by kernel_rfl) (fun _ _ _ h => h) (Or.inl ⟨by rfl, ?_⟩) (by assumption) ?_
  rotate_left
  · intro w5 hSw
    clear hSw
    go_simp
    all_goals with_reducible rfl
  (try simp only [List.getElem_toArray]); (try simp only [List.getElem_cons_succ]); (try simp only [List.getElem_cons_zero]); try simp only [Act.put, List.setIfInBounds_toArray, List.set_cons_zero, List.set_cons_succ]
  refine wpAnyU_take (i := 4) (oi := _) (v := ?_) rfl (by kernel_rfl) (by kernel_rfl) (by kernel_rfl) (by kernel_rfl) (fun _ _ _ h => h) (Or.inl ⟨by rfl, ?_⟩) (by assumption) ?_
  rotate_left
  · intro w5 hSw
    have t0 := blk_cell hSw 0
    clear hSw
    go_simp
    all_goals with_reducible rfl
  (try simp only [List.getElem_toArray]); (try simp only [List.getElem_cons_succ]); (try simp only [List.getElem_cons_zero]); try simp only [Act.put, List.setIfInBounds_toArray, List.set_cons_zero, List.set_cons_succ]
  refine wpAnyU_take (i := 5) (oi := _) (v := ?_) rfl (by kernel_rfl) (by kernel_rfl) (by kernel_rfl) (by kernel_rfl) (fun _ _ _ h => h) (Or.inl ⟨by rfl, ?_⟩) (by assumption) ?_
  rotate_left
  · intro w5 hSw
    clear hSw
    go_simp
    all_goals with_reducible rfl
  (try simp only [List.getElem_toArray]); (try simp only [List.getElem_cons_succ]); (try simp only [List.getElem_cons_zero]); try simp only [Act.put, List.setIfInBounds_toArray, List.set_cons_zero, List.set_cons_succ]
  obtain ⟨V3, hV3⟩ : ∃ V, (W).drew = V := ⟨_, rfl⟩
  have bD := (Below.refl (W).heap.size (W)).drew
  rw [hV3] at hHeld bD ⊢
  clear hV3
  have O3 := Lib.hid (HQ.out.own.below bD)
  have Y3 := Lib.hid (Y.out.below bD)
  have hs3 := bD.size
  have BD := Lib.hid bD
  clear bD
  refine wpAnyU_one (i := 6) (by kernel_rfl) rfl (fun K hK => ?_)
  (try simp only [List.getElem_toArray]); (try simp only [List.getElem_cons_succ]); (try simp only [List.getElem_cons_zero])
  refine step_append_r (act := ⟨_, _⟩) (w := V3) (t := 56) (e := 5) (z := .int .u8 0) (m := 1) (bz := 1) (cells := U8C) (xs := ([] : List Nat)) (ys := fxs) (cap := 0) (dap := fcap) (n := fxs.length) (a := none) (b := fa) ?_ elemU encU (.const (.slice none 0 0)) (.tmp 23) ?_ V3.heap.size ?_ (ownR_nil _ _ _ _ _) (bts_sts Y3.out) hfc ?_ ?_ (by simp only [List.length_nil]; omega) (by unfold maxLen; simp only [List.length_nil]; omega) (Nat.le_refl _) ?_
  · rfl
  · rfl
  · rfl
  · rfl
  · rfl
  intro oa oc V4 O4 b4 g4
  have O4h : Hid (OwnR 5 1 U8C V3.heap.size oa fxs oc V4) := Lib.hid O4
  have B4h := Lib.hid b4
  have hs4 := b4.size
  clear O4 b4 g4
  simp only [List.nil_append]
  refine hK.out _ _ ((B4h.out.block gq (blk_lt hHeld)).trans hHeld) (fun hHeld => ?_)
  clear hK K
  try simp only [Act.put, List.setIfInBounds_toArray, List.set_cons_zero, List.set_cons_succ]
  have BA := Lib.hid ((Below.refl V4.heap.size V4).alloc (Nat.le_refl _) (.cells #[.slice oa fxs.length oc] 56))
  have hs5 := BA.out.size
  refine wpAnyU_one (i := 7) (by kernel_rfl) rfl (fun K hK => ?_)
  (try simp only [List.getElem_toArray]); (try simp only [List.getElem_cons_succ]); (try simp only [List.getElem_cons_zero])
  go_simp
  refine hK.out _ _ ((BA.out.block gq (blk_lt hHeld)).trans hHeld) (fun hHeld => ?_)
  clear hK K
  try simp only [Act.put, List.setIfInBounds_toArray, List.set_cons_zero, List.set_cons_succ]
  refine wpAnyU_one (i := 8) (by kernel_rfl) rfl (fun K hK => ?_)
  (try simp only [List.getElem_toArray]); (try simp only [List.getElem_cons_succ]); (try simp only [List.getElem_cons_zero])
  refine step_append_rA (act := ⟨_, _⟩) (w := V4.alloc (.cells #[.slice oa fxs.length oc] 56)) (t := 50) (e := 56) (z := .slice none 0 0) (m := 1) (bz := 24) (cells := Txt.cells) (xs := F) (ys := [⟨oa, fxs, oc⟩]) (cap := cap) (dap := 1) (n := 1) (a := a) (ad := ⟨V4.heap.size, 0, none⟩) ?_ elemT encT (.tmp 22) (.tmp 25) ?_ P ?_ ((O3.out.below B4h.out).below BA.out) (sts_new encT V4 [⟨oa, fxs, oc⟩] 56 (0, 0)) ?_ ?_ (by simp only [List.length_cons, List.length_nil]; omega) (by unfold maxLen; simp only [List.length_cons, List.length_nil]; omega) (by omega) ?_
  · rfl
  · rfl
  · rfl
  · rfl
  · rfl
  intro a5 c5 V5 O5 b5 g5 at5
  have O5h := Lib.hid O5
  have B5h := Lib.hid b5
  have G5h := Lib.hid g5
  have A5h := Lib.hid at5
  have hs6 := b5.size
  clear O5 b5 g5 at5
  refine hK.out _ _ ((G5h.out.block gq (blk_lt hHeld) (fun e => by have h1 := (O3.out.ownB gq e.symm).1; have h2 := HQ.out.lt; omega)).trans hHeld) (fun hHeld => ?_)
  clear hK K
  try simp only [Act.put, List.setIfInBounds_toArray, List.set_cons_zero, List.set_cons_succ]
  generalize hL2 : F ++ [(⟨oa, fxs, oc⟩ : Txt)] = L2 at O5h ⊢
  have HL2 := Lib.hid hL2
  clear hL2
  refine wpAnyU_one (i := 9) (by kernel_rfl) rfl (fun K hK => ?_)
  (try simp only [List.getElem_toArray]); (try simp only [List.getElem_cons_succ]); (try simp only [List.getElem_cons_zero])
  go_simp
  refine hK.out _ _ hHeld (fun hHeld => ?_)
  clear hK K
  try simp only [Act.put, List.setIfInBounds_toArray, List.set_cons_zero, List.set_cons_succ]
  refine wpAnyU_take (i := 10) (oi := _) (v := ?_) rfl (by kernel_rfl) (by kernel_rfl) (by kernel_rfl) (by kernel_rfl) (fun _ _ _ h => h) (Or.inl ⟨by rfl, ?_⟩) (by assumption) ?_
  rotate_left
  · intro w5 hSw
    clear hSw
    go_simp
    all_goals with_reducible rfl
  (try simp only [List.getElem_toArray]); (try simp only [List.getElem_cons_succ]); (try simp only [List.getElem_cons_zero]); try simp only [Act.put, List.setIfInBounds_toArray, List.set_cons_zero, List.set_cons_succ]
  have t0 := blk_cell hHeld 0
  have f0 := blk_free hHeld 0
  have SF := blk_set hHeld 0 (.slice a5 L2.length c5)
  simp only [List.setIfInBounds_toArray, List.set_cons_zero] at SF
  have GF := gr_set V5 gq 0 (.slice a5 L2.length c5)
  refine wpAnyU_last (by kernel_rfl) rfl (fun K hK => ?_)
  (try simp only [List.getElem_toArray]); (try simp only [List.getElem_cons_succ]); (try simp only [List.getElem_cons_zero])
  go_simp
  refine hK.out _ _ ?_
  clear hK K
  (try simp only [List.getElem_toArray]); (try simp only [List.getElem_cons_succ]); (try simp only [List.getElem_cons_zero]); try simp only [Act.put, List.setIfInBounds_toArray, List.set_cons_zero, List.set_cons_succ]
  refine wpAnyU_done (by kernel_rfl) ?_ _
  have SF2 := Lib.hid SF
  have GF2 := Lib.hid GF
  clear SF GF t0 f0
  go_wp2
  refine bodyPost_ret (v := .tuple #[]) (by simp [results, Try.results26, go_sem]) rfl ?_
  have TA : Turns (PutS gq a) V3 V5 := ((Turns.of_below _ B4h.out).andBelow BA.out).trans (.of_grown (fun q e => .inr (HQ.out.own.ownEq q e)) G5h.out)
  have TB := TA.grown (.inl rfl) GF2.out
  have QO : OwnR 56 1 Txt.cells P a5 L2 c5 _ := O5h.out.grown GF2.out (fun g e e2 => by have h1 := (O5h.out.ownB g (by rw [e]; rfl)).1; have h2 := HQ.out.lt; have := Option.some.inj e2; omega)
  have hof : ∀ b o, oa = some ⟨b, o, none⟩ → V3.heap.size ≤ b := fun b o e => by
    rcases O4h.out with ⟨e1, _⟩ | ⟨g2, e1, h1, _⟩
    · rw [e] at e1; cases e1
    · rw [e] at e1; cases e1; exact h1
  refine ⟨rfl, ⟨a5, c5, oa, oc, ?_, fun g e => (A5h.out g e).imp id (fun h => by omega), fun b o e => by have := hof b o e; omega⟩, PRE.trans ((Turns.of_below _ BD.out).trans TB)⟩
  rw [HL2.out]
  refine ⟨SF2.out, QO, HQ.out.lt, fun f hf => ?_, fun f hf => ?_⟩
  · rw [← HL2.out] at hf
    rcases List.mem_append.1 hf with hf | hf
    · exact bts_turnedN ((HQ.out.fr f hf).below BD.out) TB (fun b o e hl => by
        have h1 := HQ.out.dj f hf b o e hl
        rintro (rfl | h2)
        · have := HQ.out.lt; omega
        · exact h1.2 b h2 rfl)
    · obtain rfl := List.mem_singleton.1 hf
      have h0 : Bts V4 oa fxs := sts_bts Y.out.1 (O4h.out.sts encU)
      refine bts_turnedN h0 (((Turns.of_below _ BA.out).trans (.of_grown (fun q e => .inr (HQ.out.own.ownEq q e)) G5h.out)).grown (S := PutS gq a) (.inl rfl) GF2.out) (fun b o e hl => ?_)
      have h1 := hof b o e
      rintro (rfl | h2)
      · have := blk_lt HQ.out.blk; omega
      · have := HQ.out.own.ltB b h2; omega
  · rw [← HL2.out] at hf
    intro b o e hl
    rcases List.mem_append.1 hf with hf | hf
    · have h1 := HQ.out.dj f hf b o e hl
      refine ⟨h1.1, fun g hg => ?_⟩
      rcases A5h.out g hg with h2 | h2
      · exact h1.2 g h2
      · obtain ⟨b2, o2, e2, hb2, _⟩ := (HQ.out.fr f hf).isSome hl
        rw [e] at e2; cases e2; omega
    · obtain rfl := List.mem_singleton.1 hf
      have h1 := hof b o e
      refine ⟨by omega, fun g hg => ?_⟩
      have hb4 : b < V4.heap.size := by
        rcases O4h.out with ⟨e1, _⟩ | ⟨g2, e1, _, h3⟩
        · have : oa = none := e1; rw [this] at e; cases e
        · have e3 : oa = some ⟨b, o, none⟩ := e; exact O4h.out.ltB b (by rw [e3] at e1 ⊢; cases e1; rfl)
      rcases A5h.out g hg with h2 | h2
      · have := HQ.out.own.ltB g h2; omega
      · simp at h2; omega

set_option maxRecDepth 100000 in
set_option maxHeartbeats 2000000 in
theorem put_four (P gq : Nat) (asked : Int) (a : Option Addr) (f0 f1 f2 f3 : Txt) (cap : Nat) (fa : Option Addr) (fxs : List Nat) (fcap : Nat) (W : World) (h : QAt P gq asked a [f0, f1, f2, f3] cap W) (hP : P ≤ W.heap.size) (hY : Bts W fa fxs) (hfc : fa = none → fcap = 0) (hfl : fxs.length ≤ 65535) (HYD : ∀ b o, fa = some ⟨b, o, none⟩ → 0 < fxs.length → ¬ PutS gq a b) :
    Calls Try.prog 26 #[.pointer (some ⟨gq, 0, none⟩), .slice fa fxs.length fcap] W (PutAns P gq asked a [f1, f2, f3] fxs W) := by
  obtain ⟨gr, rfl, hgr, _⟩ := h.own.isSome (by simp)
  have t0 : W.cell? ⟨gq, 0, none⟩ = some (.slice (some ⟨gr, 0, none⟩) 4 cap) := blk_cell h.blk 0
  have HQ0 := Lib.hid h
  have Y0 := Lib.hid hY
  clear h hY
  go_enter Try.func26, Try.ntmps26
  go_wp2_with fail
  refine (delete_any P gr f0 f1 f2 f3 cap _ HQ0.out.own).mono ?_
  rintro e V ⟨rfl, O, G⟩
  have hne : gq ≠ gr := by have := HQ0.out.lt; omega
  have XV := (G.block gq (blk_lt HQ0.out.blk) (fun e => hne (Option.some.inj e))).trans HQ0.out.blk
  have f0' := blk_free XV 0
  have t1 := blk_cell XV 0
  have SX := blk_set XV 0 (.slice (some ⟨gr, 0, none⟩) 3 cap)
  simp only [List.setIfInBounds_toArray, List.set_cons_zero] at SX
  have GX := gr_set V gq 0 (.slice (some ⟨gr, 0, none⟩) 3 cap)
  have PRE : Turns (PutS gq (some ⟨gr, 0, none⟩)) W (V.setCell ⟨gq, 0, none⟩ (.slice (some ⟨gr, 0, none⟩) 3 cap)) := (Turns.of_grown (fun q e => .inr (by rw [Option.some.inj e])) G).grown (.inl rfl) GX
  have HQ : Hid (QAt P gq asked (some ⟨gr, 0, none⟩) [f1, f2, f3] cap (V.setCell ⟨gq, 0, none⟩ (.slice (some ⟨gr, 0, none⟩) 3 cap))) := Lib.hid ⟨SX, O.grown GX (fun g e e2 => by cases e; exact hne (Option.some.inj e2).symm), HQ0.out.lt, fun f hf => bts_turnedN (HQ0.out.fr f (List.mem_cons_of_mem _ hf)) PRE (fun b o e hl => by
    have h1 := HQ0.out.dj f (List.mem_cons_of_mem _ hf) b o e hl
    rintro (rfl | h2)
    · have := HQ0.out.lt; omega
    · exact h1.2 b h2 rfl), fun f hf => HQ0.out.dj f (List.mem_cons_of_mem _ hf)⟩
  have Y : Hid (Bts (V.setCell ⟨gq, 0, none⟩ (.slice (some ⟨gr, 0, none⟩) 3 cap)) fa fxs) := Lib.hid (bts_turnedN Y0.out PRE HYD)
  have PRE := PRE
  have HPRE := Lib.hid PRE
  clear XV SX GX O G HQ0 Y0 t0
  go_upto_region 2 with fail
  clear t1 f0'
  have PRE := HPRE.out
  generalize V.setCell ⟨gq, 0, none⟩ (.slice (some ⟨gr, 0, none⟩) 3 cap) = X at HQ Y PRE HPRE ⊢
  have hP2 : P ≤ X.heap.size := by have := PRE.size; omega
  clear HPRE hne
  obtain ⟨F, hF⟩ : ∃ z, [f1, f2, f3] = z := ⟨_, rfl⟩
  obtain ⟨a, ha⟩ : ∃ z, (some ⟨gr, 0, none⟩ : Option Addr) = z := ⟨_, rfl⟩
  rw [hF] at HQ ⊢
  rw [ha] at HQ PRE ⊢
  have hF3 : F.length < 4 := by rw [← hF]; simp
  clear hF ha
  have hs0 := PRE.size
  refine wp_region_until (S := fun W' => (W'.heap[gq]? = some (.cells #[.slice a F.length cap, .int .i64 asked] 79 (0, 0)))) 11 (by kernel_rfl) (blk_drew HQ.out.blk) (fun hHeld => ?_)
  refine wpAnyU_take (i := 0) (oi := _) (v := ?_) rfl (by kernel_rfl) (by kernel_rfl) (by kernel_rfl) (by kernel_rfl) (fun _ _ _ h => h) (Or.inl ⟨by rfl, ?_⟩) (by assumption) ?_
  rotate_left
  · intro w5 hSw
    clear hSw
    go_simp
    all_goals with_reducible rfl
  (try simp only [List.getElem_toArray]); (try simp only [List.getElem_cons_succ]); (try simp only [List.getElem_cons_zero]); try simp only [Act.put, List.setIfInBounds_toArray, List.set_cons_zero, List.set_cons_succ]
  refine wpAnyU_take (i := 1) (oi := _) (v := ?_) rfl (by kernel_rfl) (by kernel_rfl) (by kernel_rfl) (by kernel_rfl) (fun _ _ _ h => h) (Or.inl ⟨by rfl, ?_⟩) (by assumption) ?_
  rotate_left
  · intro w5 hSw
    clear hSw
    go_simp
    all_goals with_reducible rfl
  (try simp only [List.getElem_toArray]); (try simp only [List.getElem_cons_succ]); (try simp only [List.getElem_cons_zero]); try simp only [Act.put, List.setIfInBounds_toArray, List.set_cons_zero, List.set_cons_succ]
  refine wpAnyU_take (i := 2) (oi := _) (v := ?_) rfl (by kernel_rfl) (by kernel_rfl) (by kernel_rfl) (by kernel_rfl) (fun _ _ _ h => h) (Or.inl ⟨by rfl, ?_⟩) (by assumption) ?_
  rotate_left
  · intro w5 hSw
    clear hSw
    go_simp
    all_goals with_reducible rfl
  (try simp only [List.getElem_toArray]); (try simp only [List.getElem_cons_succ]); (try simp only [List.getElem_cons_zero]); try simp only [Act.put, List.setIfInBounds_toArray, List.set_cons_zero, List.set_cons_succ]
  refine wpAnyU_take (i := 3) (oi := _) (v := ?_) rfl (by kernel_rfl) (by kernel_rfl) (by kernel_rfl) (by kernel_rfl) (fun _ _ _ h => h) (Or.inl ⟨by rfl, ?_⟩) (by assumption) ?_
  rotate_left
  · intro w5 hSw
    clear hSw
    go_simp
    all_goals with_reducible rfl
  (try simp only [List.getElem_toArray]); (try simp only [List.getElem_cons_succ]); (try simp only [List.getElem_cons_zero]); try simp only [Act.put, List.setIfInBounds_toArray, List.set_cons_zero, List.set_cons_succ]
  refine wpAnyU_take (i := 4) (oi := _) (v := ?_) rfl (by kernel_rfl) (by kernel_rfl) (by kernel_rfl) (by kernel_rfl) (fun _ _ _ h => h) (Or.inl ⟨by rfl, ?_⟩) (by assumption) ?_
  rotate_left
  · intro w5 hSw
    have t0 := blk_cell hSw 0
    clear hSw
    go_simp
    all_goals with_reducible rfl
  (try simp only [List.getElem_toArray]); (try simp only [List.getElem_cons_succ]); (try simp only [List.getElem_cons_zero]); try simp only [Act.put, List.setIfInBounds_toArray, List.set_cons_zero, List.set_cons_succ]
  refine wpAnyU_take (i := 5) (oi := _) (v := ?_) rfl (by kernel_rfl) (by kernel_rfl) (by kernel_rfl) (by kernel_rfl) (fun _ _ _ h => h) (Or.inl ⟨by rfl, ?_⟩) (by assumption) ?_
  rotate_left
  · intro w5 hSw
    clear hSw
    go_simp
    all_goals with_reducible rfl
  (try simp only [List.getElem_toArray]); (try simp only [List.getElem_cons_succ]); (try simp only [List.getElem_cons_zero]); try simp only [Act.put, List.setIfInBounds_toArray, List.set_cons_zero, List.set_cons_succ]
  obtain ⟨V3, hV3⟩ : ∃ V, (X).drew = V := ⟨_, rfl⟩
  have bD := (Below.refl (X).heap.size (X)).drew
  rw [hV3] at hHeld bD ⊢
  clear hV3
  have O3 := Lib.hid (HQ.out.own.below bD)
  have Y3 := Lib.hid (Y.out.below bD)
  have hs3 := bD.size
  have BD := Lib.hid bD
  clear bD
  refine wpAnyU_one (i := 6) (by kernel_rfl) rfl (fun K hK => ?_)
  (try simp only [List.getElem_toArray]); (try simp only [List.getElem_cons_succ]); (try simp only [List.getElem_cons_zero])
  refine step_append_r (act := ⟨_, _⟩) (w := V3) (t := 56) (e := 5) (z := .int .u8 0) (m := 1) (bz := 1) (cells := U8C) (xs := ([] : List Nat)) (ys := fxs) (cap := 0) (dap := fcap) (n := fxs.length) (a := none) (b := fa) ?_ elemU encU (.const (.slice none 0 0)) (.tmp 23) ?_ V3.heap.size ?_ (ownR_nil _ _ _ _ _) (bts_sts Y3.out) hfc ?_ ?_ (by simp only [List.length_nil]; omega) (by unfold maxLen; simp only [List.length_nil]; omega) (Nat.le_refl _) ?_
  · rfl
  · rfl
  · rfl
  · rfl
  · rfl
  intro oa oc V4 O4 b4 g4
  have O4h : Hid (OwnR 5 1 U8C V3.heap.size oa fxs oc V4) := Lib.hid O4
  have B4h := Lib.hid b4
  have hs4 := b4.size
  clear O4 b4 g4
  simp only [List.nil_append]
  refine hK.out _ _ ((B4h.out.block gq (blk_lt hHeld)).trans hHeld) (fun hHeld => ?_)
  clear hK K
  try simp only [Act.put, List.setIfInBounds_toArray, List.set_cons_zero, List.set_cons_succ]
  have BA := Lib.hid ((Below.refl V4.heap.size V4).alloc (Nat.le_refl _) (.cells #[.slice oa fxs.length oc] 56))
  have hs5 := BA.out.size
  refine wpAnyU_one (i := 7) (by kernel_rfl) rfl (fun K hK => ?_)
  (try simp only [List.getElem_toArray]); (try simp only [List.getElem_cons_succ]); (try simp only [List.getElem_cons_zero])
  go_simp
  refine hK.out _ _ ((BA.out.block gq (blk_lt hHeld)).trans hHeld) (fun hHeld => ?_)
  clear hK K
  try simp only [Act.put, List.setIfInBounds_toArray, List.set_cons_zero, List.set_cons_succ]
  refine wpAnyU_one (i := 8) (by kernel_rfl) rfl (fun K hK => ?_)
  (try simp only [List.getElem_toArray]); (try simp only [List.getElem_cons_succ]); (try simp only [List.getElem_cons_zero])
  refine step_append_rA (act := ⟨_, _⟩) (w := V4.alloc (.cells #[.slice oa fxs.length oc] 56)) (t := 50) (e := 56) (z := .slice none 0 0) (m := 1) (bz := 24) (cells := Txt.cells) (xs := F) (ys := [⟨oa, fxs, oc⟩]) (cap := cap) (dap := 1) (n := 1) (a := a) (ad := ⟨V4.heap.size, 0, none⟩) ?_ elemT encT (.tmp 22) (.tmp 25) ?_ P ?_ ((O3.out.below B4h.out).below BA.out) (sts_new encT V4 [⟨oa, fxs, oc⟩] 56 (0, 0)) ?_ ?_ (by simp only [List.length_cons, List.length_nil]; omega) (by unfold maxLen; simp only [List.length_cons, List.length_nil]; omega) (by omega) ?_
  · rfl
  · rfl
  · rfl
  · rfl
  · rfl
  intro a5 c5 V5 O5 b5 g5 at5
  have O5h := Lib.hid O5
  have B5h := Lib.hid b5
  have G5h := Lib.hid g5
  have A5h := Lib.hid at5
  have hs6 := b5.size
  clear O5 b5 g5 at5
  refine hK.out _ _ ((G5h.out.block gq (blk_lt hHeld) (fun e => by have h1 := (O3.out.ownB gq e.symm).1; have h2 := HQ.out.lt; omega)).trans hHeld) (fun hHeld => ?_)
  clear hK K
  try simp only [Act.put, List.setIfInBounds_toArray, List.set_cons_zero, List.set_cons_succ]
  generalize hL2 : F ++ [(⟨oa, fxs, oc⟩ : Txt)] = L2 at O5h ⊢
  have HL2 := Lib.hid hL2
  clear hL2
  refine wpAnyU_one (i := 9) (by kernel_rfl) rfl (fun K hK => ?_)
  (try simp only [List.getElem_toArray]); (try simp only [List.getElem_cons_succ]); (try simp only [List.getElem_cons_zero])
  go_simp
  refine hK.out _ _ hHeld (fun hHeld => ?_)
  clear hK K
  try simp only [Act.put, List.setIfInBounds_toArray, List.set_cons_zero, List.set_cons_succ]
  refine wpAnyU_take (i := 10) (oi := _) (v := ?_) rfl (by kernel_rfl) (by kernel_rfl) (by kernel_rfl) (by kernel_rfl) (fun _ _ _ h => h) (Or.inl ⟨by rfl, ?_⟩) (by assumption) ?_
  rotate_left
  · intro w5 hSw
    clear hSw
    go_simp
    all_goals with_reducible rfl
  (try simp only [List.getElem_toArray]); (try simp only [List.getElem_cons_succ]); (try simp only [List.getElem_cons_zero]); try simp only [Act.put, List.setIfInBounds_toArray, List.set_cons_zero, List.set_cons_succ]
  have t0 := blk_cell hHeld 0
  have f0 := blk_free hHeld 0
  have SF := blk_set hHeld 0 (.slice a5 L2.length c5)
  simp only [List.setIfInBounds_toArray, List.set_cons_zero] at SF
  have GF := gr_set V5 gq 0 (.slice a5 L2.length c5)
  refine wpAnyU_last (by kernel_rfl) rfl (fun K hK => ?_)
  (try simp only [List.getElem_toArray]); (try simp only [List.getElem_cons_succ]); (try simp only [List.getElem_cons_zero])
  go_simp
  refine hK.out _ _ ?_
  clear hK K
  (try simp only [List.getElem_toArray]); (try simp only [List.getElem_cons_succ]); (try simp only [List.getElem_cons_zero]); try simp only [Act.put, List.setIfInBounds_toArray, List.set_cons_zero, List.set_cons_succ]
  refine wpAnyU_done (by kernel_rfl) ?_ _
  have SF2 := Lib.hid SF
  have GF2 := Lib.hid GF
  clear SF GF t0 f0
  go_wp2
  refine bodyPost_ret (v := .tuple #[]) (by simp [results, Try.results26, go_sem]) rfl ?_
  have TA : Turns (PutS gq a) V3 V5 := ((Turns.of_below _ B4h.out).andBelow BA.out).trans (.of_grown (fun q e => .inr (HQ.out.own.ownEq q e)) G5h.out)
  have TB := TA.grown (.inl rfl) GF2.out
  have QO : OwnR 56 1 Txt.cells P a5 L2 c5 _ := O5h.out.grown GF2.out (fun g e e2 => by have h1 := (O5h.out.ownB g (by rw [e]; rfl)).1; have h2 := HQ.out.lt; have := Option.some.inj e2; omega)
  have hof : ∀ b o, oa = some ⟨b, o, none⟩ → V3.heap.size ≤ b := fun b o e => by
    rcases O4h.out with ⟨e1, _⟩ | ⟨g2, e1, h1, _⟩
    · rw [e] at e1; cases e1
    · rw [e] at e1; cases e1; exact h1
  refine ⟨rfl, ⟨a5, c5, oa, oc, ?_, fun g e => (A5h.out g e).imp id (fun h => by omega), fun b o e => by have := hof b o e; omega⟩, PRE.trans ((Turns.of_below _ BD.out).trans TB)⟩
  rw [HL2.out]
  refine ⟨SF2.out, QO, HQ.out.lt, fun f hf => ?_, fun f hf => ?_⟩
  · rw [← HL2.out] at hf
    rcases List.mem_append.1 hf with hf | hf
    · exact bts_turnedN ((HQ.out.fr f hf).below BD.out) TB (fun b o e hl => by
        have h1 := HQ.out.dj f hf b o e hl
        rintro (rfl | h2)
        · have := HQ.out.lt; omega
        · exact h1.2 b h2 rfl)
    · obtain rfl := List.mem_singleton.1 hf
      have h0 : Bts V4 oa fxs := sts_bts Y.out.1 (O4h.out.sts encU)
      refine bts_turnedN h0 (((Turns.of_below _ BA.out).trans (.of_grown (fun q e => .inr (HQ.out.own.ownEq q e)) G5h.out)).grown (S := PutS gq a) (.inl rfl) GF2.out) (fun b o e hl => ?_)
      have h1 := hof b o e
      rintro (rfl | h2)
      · have := blk_lt HQ.out.blk; omega
      · have := HQ.out.own.ltB b h2; omega
  · rw [← HL2.out] at hf
    intro b o e hl
    rcases List.mem_append.1 hf with hf | hf
    · have h1 := HQ.out.dj f hf b o e hl
      refine ⟨h1.1, fun g hg => ?_⟩
      rcases A5h.out g hg with h2 | h2
      · exact h1.2 g h2
      · obtain ⟨b2, o2, e2, hb2, _⟩ := (HQ.out.fr f hf).isSome hl
        rw [e] at e2; cases e2; omega
    · obtain rfl := List.mem_singleton.1 hf
      have h1 := hof b o e
      refine ⟨by omega, fun g hg => ?_⟩
      have hb4 : b < V4.heap.size := by
        rcases O4h.out with ⟨e1, _⟩ | ⟨g2, e1, _, h3⟩
        · have : oa = none := e1; rw [this] at e; cases e
        · have e3 : oa = some ⟨b, o, none⟩ := e; exact O4h.out.ltB b (by rw [e3] at e1 ⊢; cases e1; rfl)
      rcases A5h.out g hg with h2 | h2
      · have := HQ.out.own.ltB g h2; omega
      · simp at h2; omega
end Go.Proofs.Ytinlacdngojlaaa
