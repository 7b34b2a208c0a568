/- The page's example of layer 8. -/
import Derived.Test.YtokfadlgiimaoaaRgF
import Derived.Test.YtokfadlgiimaoaaRgG
import Derived.Laws.BytesArg
import Derived.Lib.SlBytesConst
namespace Go.Proofs.Ytokfadlgiimaoaa
open Go.RowKit Go.Sort

theorem num_any (n : Int) (w : World) : Calls Try.prog 10 #[.int .i64 n] w fun e w' => e = .returned (.int .i64 n) ∧ w = w' := by
  go_enter Try.func10, Try.ntmps10
  go_wp2
  go_ret
  exact ⟨rfl, rfl⟩

theorem step_make {P : Program} {w : World} {ops : Array Oper} {o : Oper} {a : Act} {K : Act → World → Prop} {Q : Exit → Act → World → Prop} {E : Prop} (hgd : o.guard = none) (l c : Operand) (t : TypeId) (hop : o.op = Op.makeSlice t l c)
    (base : Nat) (e : TypeId) (i : TypeInfo) (z : Value) (size : Nat) (h1 : P.underlying t = some (.slice e)) (h2 : P.info? e = some i) (h3 : i.zero = some z) (h4 : i.size = size)
    (kl kc : IntKind) (L C : Int) (n : Nat) (hl : a.eval l = .int kl L) (hc : a.eval c = .int kc C) (hL : L = (n : Int)) (hC : C = (n : Int)) (b2 : i.bytes * n ≤ 281474976710656) (b3 : n ≤ maxLen) (b4 : base ≤ w.heap.size)
    (h : ∀ w', w'.ownsRow base e size (.slice (some ⟨w.heap.size, 0, none⟩) n n) n (madeCells z.cells (n * size)).toList → w.grownBy w' none → K (a.put o.dst (.slice (some ⟨w.heap.size, 0, none⟩) n n)) w') : if Region.wanted o (yielded ops a.tmps) = true then Oper.wp P o a w K Q else E := by
  rw [if_pos (by simp [Region.wanted, hgd])]
  obtain ⟨w', hrun, r1, r2⟩ := run_make_full (P := P) w base t e i z size h1 h2 h3 h4 kl kc n b2 b3 b4
  subst hL
  subst hC
  unfold Oper.wp
  simp [execOp, hop, hl, hc, hrun, Result.andThen]
  exact h w' r1 r2

theorem infoI8 : (Try.prog.info? 3).map (fun i => (i.zero, i.size, i.bytes)) = some (some (.int .i64 0), 1, 8) := by kernel_rfl
theorem bts_made {w w' : World} {B n : Nat} (hB : B ≤ w.heap.size) (h : w'.ownsRow B 5 1 (.slice (some ⟨w.heap.size, 0, none⟩) n n) n (madeCells (Value.int .u8 0).cells (n * 1)).toList) : OwnSl B (some ⟨w.heap.size, 0, none⟩) (List.replicate n 0) n w' := by
  rw [made_list _ rfl, Nat.mul_one] at h
  refine ⟨fun x hx => by rw [List.eq_of_mem_replicate hx]; omega, .inr ⟨w.heap.size, rfl, hB, ?_⟩⟩
  rw [List.length_replicate, List.map_replicate]
  exact h
theorem its_made {w w' : World} {B n : Nat} (hB : B ≤ w.heap.size) (h : w'.ownsRow B 3 1 (.slice (some ⟨w.heap.size, 0, none⟩) n n) n (madeCells (Value.int .i64 0).cells (n * 1)).toList) : OwnR 3 1 IC B (some ⟨w.heap.size, 0, none⟩) (List.replicate n 0) n w' := by
  rw [made_list _ rfl, Nat.mul_one] at h
  refine .inr ⟨w.heap.size, rfl, hB, ?_⟩
  rw [List.length_replicate]
  have e : (List.replicate n (0 : Int)).flatMap IC = List.replicate n (Value.int .i64 0) := by
    induction n with
    | zero => rfl
    | succ n ih => rw [List.replicate_succ, List.flatMap_cons, List.replicate_succ]; simp only [IC, List.singleton_append, List.cons.injEq, true_and]; clear ih h; induction n with
      | zero => rfl
      | succ n ih => rw [List.replicate_succ, List.flatMap_cons, List.replicate_succ, ih]; rfl
  rw [e]
  exact h
theorem bts_mark1 (w : World) (x : Nat) (hx : x < 256) : Bts (w.alloc (.cells #[.int .u8 (x : Nat)] 5 (1, 2))) (some ⟨w.heap.size, 0, none⟩) [x] := by
  refine ⟨by simpa using hx, .inr ⟨w.heap.size, 0, rfl, by simp, fun i hi => ?_⟩⟩
  obtain rfl : i = 0 := by simpa using hi
  rw [Nat.zero_add]
  unfold World.cell?
  rw [blk_new]
  rfl

/-- A slice that lies apart from a card. -/
def Apart (W : World) (own : Nat → Prop) (a : Option Addr) : Prop := ∀ b off, a = some ⟨b, off, none⟩ → ¬ own b ∧ b < W.heap.size
theorem Apart.step {W W' : World} {own own' : Nat → Prop} {a : Option Addr} (h : Apart W own a) (hs : W.heap.size ≤ W'.heap.size) (ho : ∀ b, own' b → own b ∨ W.heap.size ≤ b) : Apart W' own' a := fun b off e => by
  obtain ⟨h1, h2⟩ := h b off e
  refine ⟨fun h3 => ?_, by omega⟩
  rcases ho b h3 with h4 | h4
  · exact h1 h4
  · omega
theorem Apart.bts {W W' : World} {own : Nat → Prop} {a : Option Addr} {ys : List Nat} (h : Apart W own a) (hs : Stay W W' own) (hb : Bts W a ys) : Bts W' a ys := hs.bts hb fun b off e => (h b off e).1
theorem one_string {W : World} {b o c x : Nat} (h : Bts W (some ⟨b, o, none⟩) [x]) : (convert 22 9 (.slice (some ⟨b, o, none⟩) 1 c)).run Try.prog W = .ok (.string { data := #[UInt8.ofNat x] }) W := by
  have c0 : W.cell? ⟨b, o + 0, none⟩ = some (.int .u8 (x : Nat)) := by
    rcases h.2 with h0 | ⟨b', o', e, _, hc⟩
    · cases h0
    · cases e; exact hc 0 (by simp)
  have h := run_convert_bytes_arg (P := Try.prog) W 22 5 Try.underlying22 Try.underlying5 b o 1 c [x] rfl (fun i hi => by
    obtain rfl : i = 0 := by simpa using hi
    exact c0) 9 Try.underlying9
  exact h

set_option maxRecDepth 100000 in
set_option maxHeartbeats 4000000 in
theorem alive_any (w : World) : Calls Try.prog 11 #[] w fun e w' => e = .returned (.bool true) ∧ Below w.heap.size w w' := by
  obtain ⟨iB, hiB, hzB0, hzB1, hzB2⟩ := info_parts info5
  obtain ⟨iI, hiI, hzI0, hzI1, hzI2⟩ := info_parts infoI8
  have HzB := Lib.hid hzB2
  have HzI := Lib.hid hzI2
  have hck : chkE (List.replicate 40 0) (List.replicate 128 0) ((1 : Nat) : Int) 10 = 0 := by decide
  have HCK := Lib.hid hck
  clear hck
  go_enter Try.func11, Try.ntmps11
  go_upto_region 1 with fail
  go_cut [1, 2] from 18 to 24 (fun (v1 v2 : Value) wx => ∃ g K own B, v1 = .pointer (some ⟨g, 0, none⟩) ∧ v2 = .int .i64 0 ∧ w.heap.size ≤ B ∧ B ≤ wx.heap.size ∧ CardS wx g B 1 10 0 0 K (fun _ => []) own ∧ Below w.heap.size w wx)
  case first =>
    refine wp_region_held_drew (S := fun _ => True) (by kernel_rfl) trivial (fun hHeld => ?_)
    refine wpAnyH_ready (rs := [0, 1]) (by kernel_rfl) (by simp) ?_
    refine (AllReadyH.cons (o := _) rfl (fun K hK => ?_) (AllReadyH.cons (o := _) rfl (fun K hK => ?_) AllReadyH.nil))
    · refine step_make rfl (.const (.int .i64 40)) (.const (.int .i64 40)) 22 rfl w.drew.heap.size 5 iB (.int .u8 0) 1 Try.underlying22 hiB hzB0 hzB1 .i64 .i64 _ _ 40 (by rfl) (by rfl) rfl rfl (by rw [HzB.out]; omega) (by unfold maxLen; omega) (Nat.le_refl _) ?_
      intro VB hown hgr
      have bB := Lib.hid ((Below.refl w.drew.heap.size w.drew).grown hgr (Nat.le_refl _) (fun k e => by cases e))
      have KB := Lib.hid (bts_made (Nat.le_refl _) hown).bts
      clear hown hgr
      refine hK.out _ _ ?_ (fun hHeld => ?_)
      · trivial
      clear hK K
      (try simp only [List.getElem_toArray]); (try simp only [List.getElem_cons_succ]); (try simp only [List.getElem_cons_zero]); try simp only [Act.put, List.setIfInBounds_toArray, List.set_cons_zero, List.set_cons_succ]
      refine wpAnyH_ready (rs := [1]) (by kernel_rfl) (by simp) ?_
      refine (AllReadyH.cons (o := _) rfl (fun K hK => ?_) AllReadyH.nil)
      · refine step_make rfl (.const (.int .i64 128)) (.const (.int .i64 128)) 23 rfl VB.heap.size 3 iI (.int .i64 0) 1 Try.underlying23 hiI hzI0 hzI1 .i64 .i64 _ _ 128 (by rfl) (by rfl) rfl rfl (by rw [HzI.out]; omega) (by unfold maxLen; omega) (Nat.le_refl _) ?_
        intro VI hown hgr
        have bI := Lib.hid ((Below.refl VB.heap.size VB).grown hgr (Nat.le_refl _) (fun k e => by cases e))
        have KI := Lib.hid ((its_made (Nat.le_refl _) hown).its (fun t ht => by rw [List.eq_of_mem_replicate ht]; omega))
        have KB2 := Lib.hid (KB.out.below bI.out)
        clear hown hgr
        refine hK.out _ _ ?_ (fun hHeld => ?_)
        · trivial
        clear hK K
        (try simp only [List.getElem_toArray]); (try simp only [List.getElem_cons_succ]); (try simp only [List.getElem_cons_zero]); try simp only [Act.put, List.setIfInBounds_toArray, List.set_cons_zero, List.set_cons_succ]
        refine wpAnyH_take (i := 2) (oi := _) (v := ?_) rfl (by kernel_rfl) (by kernel_rfl) (by kernel_rfl) (fun _ _ _ h => h) (Or.inl ⟨by rfl, ?_⟩) (by assumption) ?_
        rotate_left
        · intro w hSw
          try dsimp only at hSw
          go_simp
          all_goals with_reducible rfl
        (try simp only [List.getElem_toArray]); (try simp only [List.getElem_cons_succ]); (try simp only [List.getElem_cons_zero]); try simp only [Act.put, List.setIfInBounds_toArray, List.set_cons_zero, List.set_cons_succ]
        refine wpAnyH_ready (rs := [3]) (by kernel_rfl) (by simp) ?_
        refine (AllReadyH.cons (o := _) rfl (fun K hK => ?_) AllReadyH.nil)
        · (try simp only [List.getElem_toArray]); (try simp only [List.getElem_cons_succ]); (try simp only [List.getElem_cons_zero])
          go_simp
          go_at_call 12
          have HNW := new_ok (some ⟨w.drew.heap.size, 0, none⟩) (List.replicate 40 0) 40 (some ⟨VB.heap.size, 0, none⟩) (List.replicate 128 0) 128 1 10 VI KB2.out (fun e => by cases e) KI.out (fun e => by cases e) (by simp) (by simp) ⟨by omega, by omega⟩ HCK.out
          rw [List.length_replicate, List.length_replicate] at HNW
          refine HNW.mono ?_
          rintro e VN ⟨⟨g, KY, own, rfl, hC, hO, _, _, _, _⟩, b⟩
          try dsimp only
          have HC := Lib.hid hC
          have QN := Lib.hid (((Below.refl w.heap.size w).drew.trans (bB.out.trans (bI.out.mono bB.out.size))).trans (b.mono ((Below.refl w.heap.size w).drew.trans (bB.out.trans (bI.out.mono bB.out.size))).size))
          have hsz := Nat.le_trans (Nat.le_refl VI.heap.size) b.size
          clear hC hO b
          refine hK.out _ _ ?_ (fun hHeld => ?_)
          · trivial
          clear hK K
          (try simp only [List.getElem_toArray]); (try simp only [List.getElem_cons_succ]); (try simp only [List.getElem_cons_zero]); try simp only [Act.put, List.setIfInBounds_toArray, List.set_cons_zero, List.set_cons_succ]
          refine wpAnyH_take (i := 4) (oi := _) (v := ?_) rfl (by kernel_rfl) (by kernel_rfl) (by kernel_rfl) (fun _ _ _ h => h) (Or.inl ⟨by rfl, ?_⟩) (by assumption) ?_
          rotate_left
          · intro w hSw
            try dsimp only at hSw
            go_simp
            all_goals with_reducible rfl
          (try simp only [List.getElem_toArray]); (try simp only [List.getElem_cons_succ]); (try simp only [List.getElem_cons_zero]); try simp only [Act.put, List.setIfInBounds_toArray, List.set_cons_zero, List.set_cons_succ]
          refine wpAnyH_take (i := 5) (oi := _) (v := ?_) rfl (by kernel_rfl) (by kernel_rfl) (by kernel_rfl) (fun _ _ _ h => h) (Or.inl ⟨by rfl, ?_⟩) (by assumption) ?_
          rotate_left
          · intro w hSw
            try dsimp only at hSw
            go_simp
            all_goals with_reducible rfl
          (try simp only [List.getElem_toArray]); (try simp only [List.getElem_cons_succ]); (try simp only [List.getElem_cons_zero]); try simp only [Act.put, List.setIfInBounds_toArray, List.set_cons_zero, List.set_cons_succ]
          refine wpAnyH_take (i := 6) (oi := _) (v := ?_) rfl (by kernel_rfl) (by kernel_rfl) (by kernel_rfl) (fun _ _ _ h => h) (Or.inl ⟨by rfl, ?_⟩) (by assumption) ?_
          rotate_left
          · intro w hSw
            try dsimp only at hSw
            go_simp
            all_goals with_reducible rfl
          (try simp only [List.getElem_toArray]); (try simp only [List.getElem_cons_succ]); (try simp only [List.getElem_cons_zero]); try simp only [Act.put, List.setIfInBounds_toArray, List.set_cons_zero, List.set_cons_succ]
          refine wpAnyH_take (i := 7) (oi := _) (v := ?_) rfl (by kernel_rfl) (by kernel_rfl) (by kernel_rfl) (fun _ _ _ h => h) (Or.inl ⟨by rfl, ?_⟩) (by assumption) ?_
          rotate_left
          · intro w hSw
            try dsimp only at hSw
            go_simp
            all_goals with_reducible rfl
          (try simp only [List.getElem_toArray]); (try simp only [List.getElem_cons_succ]); (try simp only [List.getElem_cons_zero]); try simp only [Act.put, List.setIfInBounds_toArray, List.set_cons_zero, List.set_cons_succ]
          refine wpAnyH_take (i := 8) (oi := _) (v := ?_) rfl (by kernel_rfl) (by kernel_rfl) (by kernel_rfl) (fun _ _ _ h => h) (Or.inl ⟨by rfl, ?_⟩) (by assumption) ?_
          rotate_left
          · intro w hSw
            try dsimp only at hSw
            go_simp
            all_goals with_reducible rfl
          (try simp only [List.getElem_toArray]); (try simp only [List.getElem_cons_succ]); (try simp only [List.getElem_cons_zero]); try simp only [Act.put, List.setIfInBounds_toArray, List.set_cons_zero, List.set_cons_succ]
          refine wpAnyH_done (by kernel_rfl) ?_ _
          go_wp2_with fail
          go_meet
          exact ⟨g, KY, own, VI.heap.size, rfl, rfl, ((Below.refl w.heap.size w).drew.trans (bB.out.trans (bI.out.mono bB.out.size))).size, hsz, HC.out, QN.out⟩
    · refine step_make rfl (.const (.int .i64 128)) (.const (.int .i64 128)) 23 rfl w.drew.heap.size 3 iI (.int .i64 0) 1 Try.underlying23 hiI hzI0 hzI1 .i64 .i64 _ _ 128 (by rfl) (by rfl) rfl rfl (by rw [HzI.out]; omega) (by unfold maxLen; omega) (Nat.le_refl _) ?_
      intro VI hown hgr
      have bI := Lib.hid ((Below.refl w.drew.heap.size w.drew).grown hgr (Nat.le_refl _) (fun k e => by cases e))
      have KI := Lib.hid ((its_made (Nat.le_refl _) hown).its (fun t ht => by rw [List.eq_of_mem_replicate ht]; omega))
      clear hown hgr
      refine hK.out _ _ ?_ (fun hHeld => ?_)
      · trivial
      clear hK K
      (try simp only [List.getElem_toArray]); (try simp only [List.getElem_cons_succ]); (try simp only [List.getElem_cons_zero]); try simp only [Act.put, List.setIfInBounds_toArray, List.set_cons_zero, List.set_cons_succ]
      refine wpAnyH_ready (rs := [0]) (by kernel_rfl) (by simp) ?_
      refine (AllReadyH.cons (o := _) rfl (fun K hK => ?_) AllReadyH.nil)
      · refine step_make rfl (.const (.int .i64 40)) (.const (.int .i64 40)) 22 rfl VI.heap.size 5 iB (.int .u8 0) 1 Try.underlying22 hiB hzB0 hzB1 .i64 .i64 _ _ 40 (by rfl) (by rfl) rfl rfl (by rw [HzB.out]; omega) (by unfold maxLen; omega) (Nat.le_refl _) ?_
        intro VB hown hgr
        have bB := Lib.hid ((Below.refl VI.heap.size VI).grown hgr (Nat.le_refl _) (fun k e => by cases e))
        have KB := Lib.hid (bts_made (Nat.le_refl _) hown).bts
        have KI2 := Lib.hid (KI.out.below bB.out)
        clear hown hgr
        refine hK.out _ _ ?_ (fun hHeld => ?_)
        · trivial
        clear hK K
        (try simp only [List.getElem_toArray]); (try simp only [List.getElem_cons_succ]); (try simp only [List.getElem_cons_zero]); try simp only [Act.put, List.setIfInBounds_toArray, List.set_cons_zero, List.set_cons_succ]
        refine wpAnyH_take (i := 2) (oi := _) (v := ?_) rfl (by kernel_rfl) (by kernel_rfl) (by kernel_rfl) (fun _ _ _ h => h) (Or.inl ⟨by rfl, ?_⟩) (by assumption) ?_
        rotate_left
        · intro w hSw
          try dsimp only at hSw
          go_simp
          all_goals with_reducible rfl
        (try simp only [List.getElem_toArray]); (try simp only [List.getElem_cons_succ]); (try simp only [List.getElem_cons_zero]); try simp only [Act.put, List.setIfInBounds_toArray, List.set_cons_zero, List.set_cons_succ]
        refine wpAnyH_ready (rs := [3]) (by kernel_rfl) (by simp) ?_
        refine (AllReadyH.cons (o := _) rfl (fun K hK => ?_) AllReadyH.nil)
        · (try simp only [List.getElem_toArray]); (try simp only [List.getElem_cons_succ]); (try simp only [List.getElem_cons_zero])
          go_simp
          go_at_call 12
          have HNW := new_ok (some ⟨VI.heap.size, 0, none⟩) (List.replicate 40 0) 40 (some ⟨w.drew.heap.size, 0, none⟩) (List.replicate 128 0) 128 1 10 VB KB.out (fun e => by cases e) KI2.out (fun e => by cases e) (by simp) (by simp) ⟨by omega, by omega⟩ HCK.out
          rw [List.length_replicate, List.length_replicate] at HNW
          refine HNW.mono ?_
          rintro e VN ⟨⟨g, KY, own, rfl, hC, hO, _, _, _, _⟩, b⟩
          try dsimp only
          have HC := Lib.hid hC
          have QN := Lib.hid (((Below.refl w.heap.size w).drew.trans (bI.out.trans (bB.out.mono bI.out.size))).trans (b.mono ((Below.refl w.heap.size w).drew.trans (bI.out.trans (bB.out.mono bI.out.size))).size))
          have hsz := Nat.le_trans (Nat.le_refl VB.heap.size) b.size
          clear hC hO b
          refine hK.out _ _ ?_ (fun hHeld => ?_)
          · trivial
          clear hK K
          (try simp only [List.getElem_toArray]); (try simp only [List.getElem_cons_succ]); (try simp only [List.getElem_cons_zero]); try simp only [Act.put, List.setIfInBounds_toArray, List.set_cons_zero, List.set_cons_succ]
          refine wpAnyH_take (i := 4) (oi := _) (v := ?_) rfl (by kernel_rfl) (by kernel_rfl) (by kernel_rfl) (fun _ _ _ h => h) (Or.inl ⟨by rfl, ?_⟩) (by assumption) ?_
          rotate_left
          · intro w hSw
            try dsimp only at hSw
            go_simp
            all_goals with_reducible rfl
          (try simp only [List.getElem_toArray]); (try simp only [List.getElem_cons_succ]); (try simp only [List.getElem_cons_zero]); try simp only [Act.put, List.setIfInBounds_toArray, List.set_cons_zero, List.set_cons_succ]
          refine wpAnyH_take (i := 5) (oi := _) (v := ?_) rfl (by kernel_rfl) (by kernel_rfl) (by kernel_rfl) (fun _ _ _ h => h) (Or.inl ⟨by rfl, ?_⟩) (by assumption) ?_
          rotate_left
          · intro w hSw
            try dsimp only at hSw
            go_simp
            all_goals with_reducible rfl
          (try simp only [List.getElem_toArray]); (try simp only [List.getElem_cons_succ]); (try simp only [List.getElem_cons_zero]); try simp only [Act.put, List.setIfInBounds_toArray, List.set_cons_zero, List.set_cons_succ]
          refine wpAnyH_take (i := 6) (oi := _) (v := ?_) rfl (by kernel_rfl) (by kernel_rfl) (by kernel_rfl) (fun _ _ _ h => h) (Or.inl ⟨by rfl, ?_⟩) (by assumption) ?_
          rotate_left
          · intro w hSw
            try dsimp only at hSw
            go_simp
            all_goals with_reducible rfl
          (try simp only [List.getElem_toArray]); (try simp only [List.getElem_cons_succ]); (try simp only [List.getElem_cons_zero]); try simp only [Act.put, List.setIfInBounds_toArray, List.set_cons_zero, List.set_cons_succ]
          refine wpAnyH_take (i := 7) (oi := _) (v := ?_) rfl (by kernel_rfl) (by kernel_rfl) (by kernel_rfl) (fun _ _ _ h => h) (Or.inl ⟨by rfl, ?_⟩) (by assumption) ?_
          rotate_left
          · intro w hSw
            try dsimp only at hSw
            go_simp
            all_goals with_reducible rfl
          (try simp only [List.getElem_toArray]); (try simp only [List.getElem_cons_succ]); (try simp only [List.getElem_cons_zero]); try simp only [Act.put, List.setIfInBounds_toArray, List.set_cons_zero, List.set_cons_succ]
          refine wpAnyH_take (i := 8) (oi := _) (v := ?_) rfl (by kernel_rfl) (by kernel_rfl) (by kernel_rfl) (fun _ _ _ h => h) (Or.inl ⟨by rfl, ?_⟩) (by assumption) ?_
          rotate_left
          · intro w hSw
            try dsimp only at hSw
            go_simp
            all_goals with_reducible rfl
          (try simp only [List.getElem_toArray]); (try simp only [List.getElem_cons_succ]); (try simp only [List.getElem_cons_zero]); try simp only [Act.put, List.setIfInBounds_toArray, List.set_cons_zero, List.set_cons_succ]
          refine wpAnyH_done (by kernel_rfl) ?_ _
          go_wp2_with fail
          go_meet
          exact ⟨g, KY, own, VB.heap.size, rfl, rfl, ((Below.refl w.heap.size w).drew.trans (bI.out.trans (bB.out.mono bI.out.size))).size, hsz, HC.out, QN.out⟩
  case rest =>
    obtain ⟨g, K, own, B, rfl, rfl, hwB, hBV, hC, hQ⟩ := hcut
    have C1 := Lib.hid hC
    have Q1 := Lib.hid hQ
    have HWB := Lib.hid hwB
    have HB1 := Lib.hid hBV
    have cv := fun (W : World) (C : Array Value) (n c : Nat) => Lib.run_convert_bytes_const (P := Try.prog) W 22 5 C n c Try.underlying22 Try.underlying5
    clear hC hQ hwB hBV
    go_upto_region 4 with (first
      | (go_at_call 10; refine (num_any _ _).mono ?_; rintro e w' ⟨rfl, rfl⟩)
      | fail)
    obtain ⟨V0, hV0⟩ : ∃ V, V = wc := ⟨_, rfl⟩
    subst hV0
    have F0 : Hid ((fun _ : Nat => ([] : List Fr)) 0 = [] ∧ (fun _ : Nat => ([] : List Fr)) 16 = []) := Lib.hid ⟨rfl, rfl⟩
    generalize (fun _ : Nat => ([] : List Fr)) = fs0 at C1 F0
    have bm := (Below.refl V0.heap.size V0).alloc (Nat.le_refl _) (.cells #[.int .u8 97] 5 (1, 2))
    have XM := Lib.hid (show Bts (V0.alloc (.cells #[.int .u8 97] 5 (1, 2))) (some ⟨V0.heap.size, 0, none⟩) [97] from bts_mark1 V0 97 (by omega))
    have CM := Lib.hid (C1.out.below bm)
    have QM := Lib.hid (Q1.out.trans (bm.mono Q1.out.size))
    have HBM := Lib.hid (Nat.le_trans HB1.out bm.size)
    have SM := Lib.hid bm
    clear bm
    go_upto_region 5 with (first
      | (go_at_call 13; refine (recv_ok g B 1 10 0 0 K fs0 own (some ⟨V0.heap.size, 0, none⟩) [97] _ 0 _ CM.out HBM.out XM.out (fun e => by cases e) (by simp) (by omega) (by rw [F0.out.1]; simp) (fun W _ _ => qof_short _ rfl _ [97] _ W (by simp))).mono ?_; rintro e V2 ⟨rfl, ⟨x1, own2, hx, hC, hO⟩, hS, hW⟩; have C2 := Lib.hid hC; have Q2 := Lib.hid (QM.out.trans (hW.mono HWB.out)); have HB2 := Lib.hid (Nat.le_trans HBM.out hS.1); clear hC hO hS hW hx)
      | fail)
    clear CM QM HBM SM XM C1 Q1 HB1
    have F2 : Hid ((upd fs0 0 (fs0 0 ++ [x1])) 0 = [x1] ∧ (upd fs0 0 (fs0 0 ++ [x1])) 16 = []) := Lib.hid ⟨by rw [upd_at, F0.out.1]; rfl, by rw [upd_ne _ _ (by omega)]; exact F0.out.2⟩
    generalize upd fs0 0 (fs0 0 ++ [x1]) = fs2 at C2 F2
    clear F0
    have bm := (Below.refl V2.heap.size V2).alloc (Nat.le_refl _) (.cells #[.int .u8 98] 5 (1, 2))
    have XM := Lib.hid (show Bts (V2.alloc (.cells #[.int .u8 98] 5 (1, 2))) (some ⟨V2.heap.size, 0, none⟩) [98] from bts_mark1 V2 98 (by omega))
    have CM := Lib.hid (C2.out.below bm)
    have QM := Lib.hid (Q2.out.trans (bm.mono Q2.out.size))
    have HBM := Lib.hid (Nat.le_trans HB2.out bm.size)
    have SM := Lib.hid bm
    clear bm
    go_upto_region 6 with (first
      | (go_at_call 13; refine (recv_full g B 1 10 0 0 K fs2 own2 (some ⟨V2.heap.size, 0, none⟩) [98] _ 0 _ CM.out HBM.out XM.out (fun e => by cases e) (by simp) (by omega) (by rw [F2.out.1]; rfl) (fun W _ _ => qof_short _ rfl _ [98] _ W (by simp))).mono ?_; rintro e V3 ⟨rfl, hC, hS, hW⟩; have C3 := Lib.hid hC; have Q3 := Lib.hid (QM.out.trans (hW.mono HWB.out)); have HB3 := Lib.hid (Nat.le_trans HBM.out hS.1); clear hC hS hW)
      | fail)
    clear CM QM HBM SM XM C2 Q2 HB2
    have bm := (Below.refl V3.heap.size V3).alloc (Nat.le_refl _) (.cells #[.int .u8 120] 5 (1, 2))
    have XM := Lib.hid (show Bts (V3.alloc (.cells #[.int .u8 120] 5 (1, 2))) (some ⟨V3.heap.size, 0, none⟩) [120] from bts_mark1 V3 120 (by omega))
    have CM := Lib.hid (C3.out.below bm)
    have QM := Lib.hid (Q3.out.trans (bm.mono Q3.out.size))
    have HBM := Lib.hid (Nat.le_trans HB3.out bm.size)
    have SM := Lib.hid bm
    clear bm
    go_upto_region 7 with (first
      | (go_at_call 17; refine (send_ok g B 1 10 0 0 K fs2 own2 (some ⟨V3.heap.size, 0, none⟩) [120] _ _ CM.out HBM.out XM.out (fun e => by cases e) (by simp) (by rw [F2.out.2]; simp)).mono ?_; rintro e V4 ⟨rfl, ⟨x4, own4, hx, hC, hO⟩, hS, hW⟩; have C4 := Lib.hid hC; have Q4 := Lib.hid (QM.out.trans (hW.mono HWB.out)); have HB4 := Lib.hid (Nat.le_trans HBM.out hS.1); have HX4 := Lib.hid hx; clear hC hO hS hW hx)
      | fail)
    clear CM QM HBM SM XM C3 Q3 HB3
    have F4 : Hid ((upd fs2 16 (fs2 16 ++ [x4])) 16 = [x4]) := Lib.hid (by rw [upd_at, F2.out.2]; rfl)
    generalize upd fs2 16 (fs2 16 ++ [x4]) = fs4 at C4 F4
    clear F2
    go_upto_region 8 with (first
      | (go_at_call 18; refine (emit_out g B 1 10 0 0 0 K fs4 own4 x4 [] _ C4.out ⟨by omega, by omega⟩ (by omega) ⟨by omega, by omega⟩ (by omega) F4.out HB4.out).mono ?_; rintro e V5 ⟨rfl, ⟨own5, hC, hO⟩, ⟨hb, hn, hp⟩, hS, hW⟩; have C5 := Lib.hid hC; have Q5 := Lib.hid (Q4.out.trans (hW.mono HWB.out)); have HB5 := Lib.hid (Nat.le_trans HB4.out hS.1); have X5 := Lib.hid (show Bts V5 x4.1.1 [120] by rw [← HX4.out]; exact hb); have N5 := Lib.hid (show x4.1.2.1 = 1 by rw [hn, HX4.out]; rfl); have P5 := Lib.hid ((show Apart V4 own4 x4.1.1 from hp).step hS.1 hO); clear hC hO hS hW hb hn hp)
      | fail)
    clear C4 Q4 HB4 HX4
    have F5 : Hid ((upd fs4 16 []) 16 = []) := Lib.hid (upd_at _ _ _)
    generalize upd fs4 16 [] = fs5 at C5 F5
    clear F4
    obtain ⟨⟨xa, xn, xc⟩, xl⟩ := x4
    have e5 := N5.out
    dsimp only at e5
    subst e5
    unfold sv
    dsimp only
    clear N5
    have X5 : Hid (Bts V5 xa [120]) := X5
    have P5 : Hid (Apart V5 own5 xa) := P5
    obtain ⟨xb, xo, rfl, _, _⟩ := X5.out.isSome (by simp)
    have bm := (Below.refl V5.heap.size V5).alloc (Nat.le_refl _) (.cells #[.int .u8 121] 5 (1, 2))
    have XM := Lib.hid (show Bts (V5.alloc (.cells #[.int .u8 121] 5 (1, 2))) (some ⟨V5.heap.size, 0, none⟩) [121] from bts_mark1 V5 121 (by omega))
    have CM := Lib.hid (C5.out.below bm)
    have QM := Lib.hid (Q5.out.trans (bm.mono Q5.out.size))
    have HBM := Lib.hid (Nat.le_trans HB5.out bm.size)
    have SM := Lib.hid bm
    clear bm
    have XX := Lib.hid (X5.out.below SM.out)
    have PX := Lib.hid (P5.out.step SM.out.size (fun _ h => .inl h))
    go_upto_region 9 with (first
      | (go_at_call 17; refine (send_ok g B 1 10 0 10 K fs5 own5 (some ⟨V5.heap.size, 0, none⟩) [121] _ _ CM.out HBM.out XM.out (fun e => by cases e) (by simp) (by rw [F5.out]; simp)).mono ?_; rintro e V6 ⟨rfl, ⟨y6, own6, hx, hC, hO⟩, hS, hW⟩; have C6 := Lib.hid hC; have Q6 := Lib.hid (QM.out.trans (hW.mono HWB.out)); have HB6 := Lib.hid (Nat.le_trans HBM.out hS.1); have HY6 := Lib.hid hx; have X6 := Lib.hid (PX.out.bts hS XX.out); have P6 := Lib.hid (PX.out.step hS.1 hO); clear hC hO hS hW hx)
      | fail)
    clear CM QM HBM SM XM C5 Q5 HB5 XX PX X5 P5
    have F6 : Hid ((upd fs5 16 (fs5 16 ++ [y6])) 16 = [y6]) := Lib.hid (by rw [upd_at, F5.out]; rfl)
    generalize upd fs5 16 (fs5 16 ++ [y6]) = fs6 at C6 F6
    clear F5
    go_upto_region 10 with (first
      | (go_at_call 18; refine (emit_wait g B 1 10 0 10 9 K fs6 own6 _ C6.out ⟨by omega, by omega⟩ (.inl (by omega)) HB6.out).mono ?_; rintro e V7 ⟨rfl, hC, hS, hW⟩; have C7 := Lib.hid hC; have Q7 := Lib.hid (Q6.out.trans (hW.mono HWB.out)); have HB7 := Lib.hid (Nat.le_trans HB6.out hS.1); have X7 := Lib.hid (P6.out.bts hS X6.out); have P7 := Lib.hid (P6.out.step hS.1 (fun _ h => .inl h)); clear hC hS hW)
      | fail)
    clear C6 Q6 HB6 X6 P6
    go_upto_region 11 with (first
      | (go_at_call 18; refine (emit_out g B 1 10 9 10 10 K fs6 own6 y6 [] _ C7.out ⟨by omega, by omega⟩ (by omega) ⟨by omega, by omega⟩ (by omega) F6.out HB7.out).mono ?_; rintro e V8 ⟨rfl, ⟨own8, hC, hO⟩, ⟨hb, hn, hp⟩, hS, hW⟩; have Q8 := Lib.hid (Q7.out.trans (hW.mono HWB.out)); have Y8 := Lib.hid (show Bts V8 y6.1.1 [121] by rw [← HY6.out]; exact hb); have N8 := Lib.hid (show y6.1.2.1 = 1 by rw [hn, HY6.out]; rfl); have X8 := Lib.hid (P7.out.bts hS X7.out); clear hC hO hS hW hb hn hp)
      | fail)
    clear C7 Q7 HB7 X7 P7 HY6 F6
    obtain ⟨⟨ya, yn, yc⟩, yl⟩ := y6
    have e8 := N8.out
    dsimp only at e8
    subst e8
    unfold sv
    dsimp only
    clear N8
    have Y8 : Hid (Bts V8 ya [121]) := Y8
    obtain ⟨yb, yo, rfl, _, _⟩ := Y8.out.isSome (by simp)
    have ec := one_string (c := xc) X8.out
    have ed := one_string (c := yc) Y8.out
    go_wp2_with (first
      | (go_at_call 10; refine (num_any _ _).mono ?_; rintro e w' ⟨rfl, rfl⟩)
      | fail)
    go_ret
    exact ⟨rfl, Q8.out⟩
end Go.Proofs.Ytokfadlgiimaoaa
