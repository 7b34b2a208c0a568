/- Codel: Dequeue by one word: what it tells of any queue and state. -/
import Derived.Test.YteflbfmkbkhimaaCkO
import Derived.Deep.RegionHeld3
namespace Go.Proofs.Yteflbfmkbkhimaa
open Go.RowKit Go.Proofs.Yteflbfmkbkhimaa.Cd

theorem rowS : Row 28 6 := ⟨⟨_, Try.underlying28, rfl⟩, by kernel_rfl⟩
theorem rowR : Row 32 8 := ⟨⟨_, Try.underlying32, rfl⟩, by kernel_rfl⟩
theorem four (w : World) (a b c d : Obj) : ((((w.alloc a).alloc b).alloc c).alloc d).heap[w.heap.size]? = some a ∧ ((((w.alloc a).alloc b).alloc c).alloc d).heap[w.heap.size + 1]? = some b ∧ ((((w.alloc a).alloc b).alloc c).alloc d).heap[w.heap.size + 1 + 1]? = some c ∧ ((((w.alloc a).alloc b).alloc c).alloc d).heap[w.heap.size + 1 + 1 + 1]? = some d ∧ ((((w.alloc a).alloc b).alloc c).alloc d).heap.size = w.heap.size + 1 + 1 + 1 + 1 ∧ Below w.heap.size w ((((w.alloc a).alloc b).alloc c).alloc d) := by
  obtain ⟨h1, h2, h3, h4, h5, h6⟩ := allocs4 w a b c d rfl
  have b1 := (Below.refl w.heap.size w).alloc (Nat.le_refl _) a
  have b2 := b1.alloc b1.size b
  have b3 := b2.alloc b2.size c
  exact ⟨h1, h2, h3, h4, h5, b3.alloc b3.size d⟩
/-- What Dequeue tells. -/
def DQ (l : List Pkt) (tg mtu now : Int) (B : Nat) (z : Ending) (w : World) : Prop :=
  (∃ E : Int, E ≠ 0 ∧ z = .returned (.tuple #[.agg #[.bool false, .int .i64 0, .bool false, .int .i64 0, .int .i64 0, .int .i64 0], .agg #[.bool false, .int .i64 0, .int .i64 0, .bool false, .int .i64 0, .bool false, .slice none 0 0, .int .i64 0], .int .i64 E])) ∨ ∃ t : Tn, TK l t ∧ (PkV l ∧ 0 ≤ now ∧ now ≤ 2199023255552) ∧ (t.tg = tg ∧ t.mtu = mtu ∧ t.now = now) ∧ OwnR 30 4 KC B t.da t.dl t.dc w ∧ z = .returned (.tuple #[.agg #[.bool t.above, .int .i64 t.aboveAt, .bool t.dropping, .int .i64 t.nx, .int .i64 t.cn, .int .i64 t.la], .agg #[.bool t.has, .int .i64 t.out.tick, .int .i64 t.out.sz, .bool t.out.ect, .int .i64 t.out.id, .bool t.marked, .slice t.da t.dl.length t.dc, .int .i64 t.ql.length], .int .i64 0])

set_option maxRecDepth 100000 in
set_option maxHeartbeats 2000000 in
theorem dequeue_any (tg iv mtu : Int) (sa : Bool) (sb : Int) (sd : Bool) (sn sc sl : Int) (a : Option Addr) (l : List Pkt) (cap : Nat) (now : Int) (w : World) (h : Sts 4 KC Tr w a l) (hcap : l.length ≤ cap ∧ cap ≤ maxLen) (hl : l.length ≤ 4398046510976) :
    Calls Try.prog 7 #[.agg #[.int .i64 tg, .int .i64 iv, .int .i64 mtu], .agg #[.bool sa, .int .i64 sb, .bool sd, .int .i64 sn, .int .i64 sc, .int .i64 sl], .slice a l.length cap, .int .i64 now] w fun z w' => DQ l tg mtu now w.heap.size z w' ∧ Below w.heap.size w w' := by
  have HL := Lib.hid h
  have HCP := Lib.hid hcap
  clear h hcap
  go_enter Try.func7, Try.ntmps7
  go_upto_region 1 with fail
  obtain ⟨x1, x2, x3, x4, x5, x6⟩ := four w (.cells #[.int .i64 tg, .int .i64 iv, .int .i64 mtu] 36) (.cells #[.bool sa, .int .i64 sb, .bool sd, .int .i64 sn, .int .i64 sc, .int .i64 sl] 28) (.cells #[.bool false, .int .i64 0, .bool false, .int .i64 0, .int .i64 0, .int .i64 0] 28) (.cells #[.bool false, .int .i64 0, .int .i64 0, .bool false, .int .i64 0, .bool false, .slice none 0 0, .int .i64 0] 32)
  have P0 := Lib.hid x1
  have S0 := Lib.hid x2
  have R0 := Lib.hid x3
  have U0 := Lib.hid x4
  have N0 := Lib.hid x5
  have Q0 := Lib.hid x6
  clear x1 x2 x3 x4 x5 x6
  generalize (((w.alloc (.cells #[.int .i64 tg, .int .i64 iv, .int .i64 mtu] 36)).alloc (.cells #[.bool sa, .int .i64 sb, .bool sd, .int .i64 sn, .int .i64 sc, .int .i64 sl] 28)).alloc (.cells #[.bool false, .int .i64 0, .bool false, .int .i64 0, .int .i64 0, .int .i64 0] 28)).alloc (.cells #[.bool false, .int .i64 0, .int .i64 0, .bool false, .int .i64 0, .bool false, .slice none 0 0, .int .i64 0] 32) = V0 at P0 S0 R0 U0 N0 Q0 ⊢
  obtain ⟨E, hE⟩ : ∃ E, pE tg iv mtu = E := ⟨_, rfl⟩
  have HE := Lib.hid hE
  have p0 := blk_cell P0.out 0
  have p1 := blk_cell P0.out 1
  have p2 := blk_cell P0.out 2
  go_wp2_with fail
  refine (pcheck tg iv mtu E HE.out _).mono ?_
  rintro e V1 ⟨rfl, hB1⟩
  have X1 := Lib.hid hB1
  clear p0 p1 p2 hB1 hE
  by_cases hPV : PV tg iv mtu
  case neg =>
    have hE2 : E = 121 := by rw [← HE.out]; exact if_neg hPV
    have hne : E ≠ 0 := by omega
    subst hE2
    have RB := (X1.out.block (w.heap.size + 1 + 1) (by have := N0.out; omega)).trans R0.out
    have UB := (X1.out.block (w.heap.size + 1 + 1 + 1) (by have := N0.out; omega)).trans U0.out
    have hsz : w.heap.size + 1 + 1 + 1 < V1.heap.size := blk_lt UB
    have RBH := Lib.hid RB
    have UBH := Lib.hid UB
    clear RB UB
    go_wp2_with (first
      | ((with_reducible show wpList _ _ _ _ _ _); refine wpList_store_blk rowS (t := 28) rfl (.tmp 8) (.tmp 17) rfl (w.heap.size + 1 + 1) #[.bool false, .int .i64 0, .bool false, .int .i64 0, .int .i64 0, .int .i64 0] #[.bool false, .int .i64 0, .bool false, .int .i64 0, .int .i64 0, .int .i64 0] rfl rfl RBH.out rfl rfl (by simp [Value.oneCell']) ?_; intro V5 hb5 hg5; have RB5 := Lib.hid hb5; have UB5 := Lib.hid ((hg5.block (w.heap.size + 1 + 1 + 1) (by omega) (fun e => by have := Option.some.inj e; omega)).trans UBH.out); have HG5 := Lib.hid hg5; clear hb5 hg5)
      | ((with_reducible show wpList _ _ _ _ _ _); refine wpList_store_blk rowR (t := 32) rfl (.tmp 9) (.tmp 18) rfl (w.heap.size + 1 + 1 + 1) #[.bool false, .int .i64 0, .int .i64 0, .bool false, .int .i64 0, .bool false, .slice none 0 0, .int .i64 0] #[.bool false, .int .i64 0, .int .i64 0, .bool false, .int .i64 0, .bool false, .slice none 0 0, .int .i64 0] rfl rfl UB5.out rfl rfl (by simp [Value.oneCell']) ?_; intro V6 hb6 hg6; have UB6 := Lib.hid hb6; have RB6 := Lib.hid ((hg6.block (w.heap.size + 1 + 1) (blk_lt RB5.out) (fun e => by have := Option.some.inj e; omega)).trans RB5.out); have HG6 := Lib.hid hg6; clear hb6 hg6)
      | fail)
    refine bodyPost_ret (results_cct rowS rowR rfl _ _ (w.heap.size + 1 + 1) (w.heap.size + 1 + 1 + 1) _ _ (.int .i64 121) rfl rfl rfl RB6.out rfl UB6.out rfl) rfl ?_
    refine ⟨.inl ⟨121, (by decide), rfl⟩, ?_⟩
    have b5 := (Q0.out.trans (X1.out.mono Q0.out.size)).grown HG5.out (by omega) (fun k e => by have := Option.some.inj e; omega)
    exact b5.grown HG6.out (by have := HG5.out.size; omega) (fun k e => by have := Option.some.inj e; omega)
  case pos =>
  have hE2 : E = 0 := by rw [← HE.out]; exact if_pos hPV
  subst hE2
  have HPV := Lib.hid hPV
  clear hPV
  have SB := (X1.out.block (w.heap.size + 1) (by have := N0.out; omega)).trans S0.out
  have s0 := blk_cell SB 0
  have s1 := blk_cell SB 1
  have s2 := blk_cell SB 2
  have s3 := blk_cell SB 3
  have s4 := blk_cell SB 4
  have s5 := blk_cell SB 5
  have L1 := Lib.hid (Sts.belowT HL.out (Q0.out.trans (X1.out.mono Q0.out.size)))
  clear SB
  go_wp2_with fail
  refine (mayBe_any sa sb sd sn sc sl a l cap now V1 L1.out hl).mono ?_
  rintro e V2 ⟨⟨b, rfl, hb⟩, hB2⟩
  have X2 := Lib.hid (X1.out.trans (hB2.mono X1.out.size))
  have HB := Lib.hid hb
  have L2 := Lib.hid (Sts.belowT L1.out hB2)
  clear hb hB2 L1 s0 s1 s2 s3 s4 s5
  cases b
  case false =>
    have RB := (X2.out.block (w.heap.size + 1 + 1) (by have := N0.out; omega)).trans R0.out
    have UB := (X2.out.block (w.heap.size + 1 + 1 + 1) (by have := N0.out; omega)).trans U0.out
    have hsz : w.heap.size + 1 + 1 + 1 < V2.heap.size := blk_lt UB
    have RBH := Lib.hid RB
    have UBH := Lib.hid UB
    clear RB UB
    go_wp2_with (first
      | ((with_reducible show wpList _ _ _ _ _ _); refine wpList_store_blk rowS (t := 28) rfl (.tmp 8) (.tmp 25) rfl (w.heap.size + 1 + 1) #[.bool false, .int .i64 0, .bool false, .int .i64 0, .int .i64 0, .int .i64 0] #[.bool false, .int .i64 0, .bool false, .int .i64 0, .int .i64 0, .int .i64 0] rfl rfl RBH.out rfl rfl (by simp [Value.oneCell']) ?_; intro V5 hb5 hg5; have RB5 := Lib.hid hb5; have UB5 := Lib.hid ((hg5.block (w.heap.size + 1 + 1 + 1) (by omega) (fun e => by have := Option.some.inj e; omega)).trans UBH.out); have HG5 := Lib.hid hg5; clear hb5 hg5)
      | ((with_reducible show wpList _ _ _ _ _ _); refine wpList_store_blk rowR (t := 32) rfl (.tmp 9) (.tmp 26) rfl (w.heap.size + 1 + 1 + 1) #[.bool false, .int .i64 0, .int .i64 0, .bool false, .int .i64 0, .bool false, .slice none 0 0, .int .i64 0] #[.bool false, .int .i64 0, .int .i64 0, .bool false, .int .i64 0, .bool false, .slice none 0 0, .int .i64 0] rfl rfl UB5.out rfl rfl (by simp [Value.oneCell']) ?_; intro V6 hb6 hg6; have UB6 := Lib.hid hb6; have RB6 := Lib.hid ((hg6.block (w.heap.size + 1 + 1) (blk_lt RB5.out) (fun e => by have := Option.some.inj e; omega)).trans RB5.out); have HG6 := Lib.hid hg6; clear hb6 hg6)
      | fail)
    refine bodyPost_ret (results_cct rowS rowR rfl _ _ (w.heap.size + 1 + 1) (w.heap.size + 1 + 1 + 1) _ _ (.int .i64 4) rfl rfl rfl RB6.out rfl UB6.out rfl) rfl ?_
    refine ⟨.inl ⟨4, by decide, rfl⟩, ?_⟩
    have b5 := (Q0.out.trans (X2.out.mono Q0.out.size)).grown HG5.out (by omega) (fun k e => by have := Option.some.inj e; omega)
    exact b5.grown HG6.out (by have := HG5.out.size; omega) (fun k e => by have := Option.some.inj e; omega)
  case true =>
  obtain ⟨hv, ⟨hn1, hn2, hn3⟩, hn4, hn5⟩ := HB.out rfl
  have HV := Lib.hid hv
  clear hv HB
  have hz2 : w.heap.size + 1 + 1 + 1 + 1 ≤ V2.heap.size := by have := X2.out.size; have := N0.out; omega
  have HOC := Lib.hid (fun (W : World) (hW : Below V2.heap.size V2 W) => octets_any a l cap W (Sts.belowT L2.out hW) HV.out hl)
  go_upto_region 6 with fail
  go_cut [12] (fun (pv : Value) (wx : World) => ∃ gt, pv = .pointer (some ⟨gt, 0, none⟩) ∧ V2.heap.size ≤ gt ∧ wx.heap[gt]? = some (.cells #[.int .i64 (⟨tg, iv, mtu, sa, sb, sd, sn, sc, sl, false, pk0, false, none, [], 0, 0, a, l, cap, sumS l, now, false⟩ : Tn).tg, .int .i64 (⟨tg, iv, mtu, sa, sb, sd, sn, sc, sl, false, pk0, false, none, [], 0, 0, a, l, cap, sumS l, now, false⟩ : Tn).iv, .int .i64 (⟨tg, iv, mtu, sa, sb, sd, sn, sc, sl, false, pk0, false, none, [], 0, 0, a, l, cap, sumS l, now, false⟩ : Tn).mtu, .bool (⟨tg, iv, mtu, sa, sb, sd, sn, sc, sl, false, pk0, false, none, [], 0, 0, a, l, cap, sumS l, now, false⟩ : Tn).above, .int .i64 (⟨tg, iv, mtu, sa, sb, sd, sn, sc, sl, false, pk0, false, none, [], 0, 0, a, l, cap, sumS l, now, false⟩ : Tn).aboveAt, .bool (⟨tg, iv, mtu, sa, sb, sd, sn, sc, sl, false, pk0, false, none, [], 0, 0, a, l, cap, sumS l, now, false⟩ : Tn).dropping, .int .i64 (⟨tg, iv, mtu, sa, sb, sd, sn, sc, sl, false, pk0, false, none, [], 0, 0, a, l, cap, sumS l, now, false⟩ : Tn).nx, .int .i64 (⟨tg, iv, mtu, sa, sb, sd, sn, sc, sl, false, pk0, false, none, [], 0, 0, a, l, cap, sumS l, now, false⟩ : Tn).cn, .int .i64 (⟨tg, iv, mtu, sa, sb, sd, sn, sc, sl, false, pk0, false, none, [], 0, 0, a, l, cap, sumS l, now, false⟩ : Tn).la, .bool (⟨tg, iv, mtu, sa, sb, sd, sn, sc, sl, false, pk0, false, none, [], 0, 0, a, l, cap, sumS l, now, false⟩ : Tn).has, .int .i64 (⟨tg, iv, mtu, sa, sb, sd, sn, sc, sl, false, pk0, false, none, [], 0, 0, a, l, cap, sumS l, now, false⟩ : Tn).out.tick, .int .i64 (⟨tg, iv, mtu, sa, sb, sd, sn, sc, sl, false, pk0, false, none, [], 0, 0, a, l, cap, sumS l, now, false⟩ : Tn).out.sz, .bool (⟨tg, iv, mtu, sa, sb, sd, sn, sc, sl, false, pk0, false, none, [], 0, 0, a, l, cap, sumS l, now, false⟩ : Tn).out.ect, .int .i64 (⟨tg, iv, mtu, sa, sb, sd, sn, sc, sl, false, pk0, false, none, [], 0, 0, a, l, cap, sumS l, now, false⟩ : Tn).out.id, .bool (⟨tg, iv, mtu, sa, sb, sd, sn, sc, sl, false, pk0, false, none, [], 0, 0, a, l, cap, sumS l, now, false⟩ : Tn).marked, .slice (⟨tg, iv, mtu, sa, sb, sd, sn, sc, sl, false, pk0, false, none, [], 0, 0, a, l, cap, sumS l, now, false⟩ : Tn).da (⟨tg, iv, mtu, sa, sb, sd, sn, sc, sl, false, pk0, false, none, [], 0, 0, a, l, cap, sumS l, now, false⟩ : Tn).dl.length (⟨tg, iv, mtu, sa, sb, sd, sn, sc, sl, false, pk0, false, none, [], 0, 0, a, l, cap, sumS l, now, false⟩ : Tn).dc, .int .i64 (⟨tg, iv, mtu, sa, sb, sd, sn, sc, sl, false, pk0, false, none, [], 0, 0, a, l, cap, sumS l, now, false⟩ : Tn).left, .slice (⟨tg, iv, mtu, sa, sb, sd, sn, sc, sl, false, pk0, false, none, [], 0, 0, a, l, cap, sumS l, now, false⟩ : Tn).qa (⟨tg, iv, mtu, sa, sb, sd, sn, sc, sl, false, pk0, false, none, [], 0, 0, a, l, cap, sumS l, now, false⟩ : Tn).ql.length (⟨tg, iv, mtu, sa, sb, sd, sn, sc, sl, false, pk0, false, none, [], 0, 0, a, l, cap, sumS l, now, false⟩ : Tn).qc, .int .i64 (⟨tg, iv, mtu, sa, sb, sd, sn, sc, sl, false, pk0, false, none, [], 0, 0, a, l, cap, sumS l, now, false⟩ : Tn).oc, .int .i64 (⟨tg, iv, mtu, sa, sb, sd, sn, sc, sl, false, pk0, false, none, [], 0, 0, a, l, cap, sumS l, now, false⟩ : Tn).now, .bool (⟨tg, iv, mtu, sa, sb, sd, sn, sc, sl, false, pk0, false, none, [], 0, 0, a, l, cap, sumS l, now, false⟩ : Tn).ripe] 50 (0, 0)) ∧ Below V2.heap.size V2 wx)
  case first =>
    have PB2 := Lib.hid ((X2.out.block w.heap.size (by have := N0.out; omega)).trans P0.out)
    have SB2 := Lib.hid ((X2.out.block (w.heap.size + 1) (by have := N0.out; omega)).trans S0.out)
    refine wp_region_held_drew (S := fun W => Below V2.heap.size V2 W) (by kernel_rfl) (Below.refl _ _).drew (fun hHeld => ?_)
    refine wpAnyH_take (i := 0) (oi := _) (v := ?_) rfl (by kernel_rfl) (by kernel_rfl) (by kernel_rfl) (fun _ _ _ h => h) (Or.inl ⟨by rfl, ?_⟩) (by assumption) ?_
    rotate_left
    · intro w5 hSw
      have hB : Below V2.heap.size V2 w5 := hSw
      clear hSw
      have c0 := blk_cell ((hB.block _ (blk_lt PB2.out)).trans PB2.out) 0
      have c1 := blk_cell ((hB.block _ (blk_lt PB2.out)).trans PB2.out) 1
      have c2 := blk_cell ((hB.block _ (blk_lt PB2.out)).trans PB2.out) 2
      clear hB
      go_simp
      all_goals with_reducible rfl
    (try simp only [List.getElem_toArray]); (try simp only [List.getElem_cons_succ]); (try simp only [List.getElem_cons_zero]); try simp only [Act.put, List.setIfInBounds_toArray, List.set_cons_zero, List.set_cons_succ]
    refine wpAnyH_take (i := 1) (oi := _) (v := ?_) rfl (by kernel_rfl) (by kernel_rfl) (by kernel_rfl) (fun _ _ _ h => h) (Or.inl ⟨by rfl, ?_⟩) (by assumption) ?_
    rotate_left
    · intro w5 hSw
      have hB : Below V2.heap.size V2 w5 := hSw
      clear hSw
      have c0 := blk_cell ((hB.block _ (blk_lt SB2.out)).trans SB2.out) 0
      have c1 := blk_cell ((hB.block _ (blk_lt SB2.out)).trans SB2.out) 1
      have c2 := blk_cell ((hB.block _ (blk_lt SB2.out)).trans SB2.out) 2
      have c3 := blk_cell ((hB.block _ (blk_lt SB2.out)).trans SB2.out) 3
      have c4 := blk_cell ((hB.block _ (blk_lt SB2.out)).trans SB2.out) 4
      have c5 := blk_cell ((hB.block _ (blk_lt SB2.out)).trans SB2.out) 5
      clear hB
      go_simp
      all_goals with_reducible rfl
    (try simp only [List.getElem_toArray]); (try simp only [List.getElem_cons_succ]); (try simp only [List.getElem_cons_zero]); try simp only [Act.put, List.setIfInBounds_toArray, List.set_cons_zero, List.set_cons_succ]
    refine wpAnyH_take (i := 2) (oi := _) (v := ?_) rfl (by kernel_rfl) (by kernel_rfl) (by kernel_rfl) (fun _ _ _ h => h) (Or.inl ⟨by rfl, ?_⟩) (by assumption) ?_
    rotate_left
    · intro w5 hSw
      clear hSw
      go_simp
      all_goals with_reducible rfl
    (try simp only [List.getElem_toArray]); (try simp only [List.getElem_cons_succ]); (try simp only [List.getElem_cons_zero]); try simp only [Act.put, List.setIfInBounds_toArray, List.set_cons_zero, List.set_cons_succ]
    refine wpAnyH_take (i := 3) (oi := _) (v := ?_) rfl (by kernel_rfl) (by kernel_rfl) (by kernel_rfl) (fun _ _ _ h => h) (Or.inl ⟨by rfl, ?_⟩) (by assumption) ?_
    rotate_left
    · intro w5 hSw
      clear hSw
      go_simp
      all_goals with_reducible rfl
    (try simp only [List.getElem_toArray]); (try simp only [List.getElem_cons_succ]); (try simp only [List.getElem_cons_zero]); try simp only [Act.put, List.setIfInBounds_toArray, List.set_cons_zero, List.set_cons_succ]
    refine wpAnyH_take (i := 5) (oi := _) (v := ?_) rfl (by kernel_rfl) (by kernel_rfl) (by kernel_rfl) (fun _ _ _ h => h) (Or.inl ⟨by rfl, ?_⟩) (by assumption) ?_
    rotate_left
    · intro w5 hSw
      clear hSw
      go_simp
      all_goals with_reducible rfl
    (try simp only [List.getElem_toArray]); (try simp only [List.getElem_cons_succ]); (try simp only [List.getElem_cons_zero]); try simp only [Act.put, List.setIfInBounds_toArray, List.set_cons_zero, List.set_cons_succ]
    refine wpAnyH_ready (rs := [4]) (by kernel_rfl) (by simp) ?_
    refine (AllReadyH.cons (o := _) rfl (fun K hK => ?_) AllReadyH.nil)
    · (try simp only [List.getElem_toArray]); (try simp only [List.getElem_cons_succ]); (try simp only [List.getElem_cons_zero])
      go_simp
      go_at_call 15
      (with_reducible refine (HOC.out _ hHeld).mono ?_)
      rintro e5 W2 ⟨rfl, hb⟩
      have HB2 := Lib.hid ((show Below V2.heap.size V2 _ from hHeld).trans (hb.mono (show Below V2.heap.size V2 _ from hHeld).size))
      try dsimp only
      refine hK.out _ _ ?_ (fun hHeld => ?_)
      · exact HB2.out
      clear hK K
      (try simp only [List.getElem_toArray]); (try simp only [List.getElem_cons_succ]); (try simp only [List.getElem_cons_zero]); try simp only [Act.put, List.setIfInBounds_toArray, List.set_cons_zero, List.set_cons_succ]
      refine wpAnyH_take (i := 6) (oi := _) (v := ?_) rfl (by kernel_rfl) (by kernel_rfl) (by kernel_rfl) (fun _ _ _ h => h) (Or.inl ⟨by rfl, ?_⟩) (by assumption) ?_
      rotate_left
      · intro w5 hSw
        clear hSw
        go_simp
        all_goals with_reducible rfl
      (try simp only [List.getElem_toArray]); (try simp only [List.getElem_cons_succ]); (try simp only [List.getElem_cons_zero]); try simp only [Act.put, List.setIfInBounds_toArray, List.set_cons_zero, List.set_cons_succ]
      refine wpAnyH_ready (rs := [7]) (by kernel_rfl) (by simp) ?_
      refine (AllReadyH.cons (o := _) rfl (fun K hK => ?_) AllReadyH.nil)
      · (try simp only [List.getElem_toArray]); (try simp only [List.getElem_cons_succ]); (try simp only [List.getElem_cons_zero])
        go_simp
        refine hK.out _ _ ?_ (fun hHeld => ?_)
        · exact HB2.out.alloc HB2.out.size _
        clear hK K
        (try simp only [List.getElem_toArray]); (try simp only [List.getElem_cons_succ]); (try simp only [List.getElem_cons_zero]); try simp only [Act.put, List.setIfInBounds_toArray, List.set_cons_zero, List.set_cons_succ]
        refine wpAnyH_ready (rs := [8]) (by kernel_rfl) (by simp) ?_
        refine (AllReadyH.cons (o := _) rfl (fun K hK => ?_) AllReadyH.nil)
        · (try simp only [List.getElem_toArray]); (try simp only [List.getElem_cons_succ]); (try simp only [List.getElem_cons_zero])
          go_simp
          refine hK.out _ _ ?_ (fun hHeld => ?_)
          · exact HB2.out.alloc HB2.out.size _
          clear hK K
          (try simp only [List.getElem_toArray]); (try simp only [List.getElem_cons_succ]); (try simp only [List.getElem_cons_zero]); try simp only [Act.put, List.setIfInBounds_toArray, List.set_cons_zero, List.set_cons_succ]
          refine wpAnyH_done (by kernel_rfl) ?_ _
          go_wp2_with fail
          go_meet
          exact ⟨_, rfl, HB2.out.size, blk_new W2 _, HB2.out.alloc HB2.out.size _⟩
  case rest =>
  obtain ⟨gt, rfl, hgt, hS, hB⟩ := hcut
  obtain ⟨V3, hVV⟩ : ∃ V, V = wc := ⟨_, rfl⟩
  subst hVV
  have S3 := Lib.hid hS
  have X3 := Lib.hid (X2.out.trans (hB.mono X2.out.size))
  have hT : TG gt V3 (⟨tg, iv, mtu, sa, sb, sd, sn, sc, sl, false, pk0, false, none, [], 0, 0, a, l, cap, sumS l, now, false⟩ : Tn) := ⟨Sts.belowT L2.out hB, (fun b o e el => by
        obtain ⟨b', o', e', hb', _⟩ := L2.out.isSomeT (List.length_pos_iff.2 el)
        have e2 : a = some ⟨b, o, none⟩ := e
        rw [e'] at e2
        have e3 := congrArg (fun x => x.block) (Option.some.inj e2)
        dsimp only at e3
        omega), HCP.out, HV.out, ownR_nil _ _ _ _ _, hn1, ⟨HPV.out.2.1.1, HPV.out.2.1.2⟩, rfl⟩
  have T3 := Lib.hid hT
  clear hT hS hB HOC L2
  have hg3 := blk_lt S3.out
  go_wp2_with fail
  refine (take_tg (⟨tg, iv, mtu, sa, sb, sd, sn, sc, sl, false, pk0, false, none, [], 0, 0, a, l, cap, sumS l, now, false⟩ : Tn) gt V3 S3.out T3.out hl).mono ?_
  rintro e V4 ⟨rfl, h1, h2, h3⟩
  have hk : TK l (takeF (⟨tg, iv, mtu, sa, sb, sd, sn, sc, sl, false, pk0, false, none, [], 0, 0, a, l, cap, sumS l, now, false⟩ : Tn)) := takeF_tk rfl rfl (fun i x hx => by simp at hx) rfl
  obtain ⟨k1, k2, k3, k4, k5, k6, k7, k8, _, _, _, _, k13⟩ := takeF_keep (⟨tg, iv, mtu, sa, sb, sd, sn, sc, sl, false, pk0, false, none, [], 0, 0, a, l, cap, sumS l, now, false⟩ : Tn)
  obtain ⟨t1, ht1⟩ : ∃ t, takeF (⟨tg, iv, mtu, sa, sb, sd, sn, sc, sl, false, pk0, false, none, [], 0, 0, a, l, cap, sumS l, now, false⟩ : Tn) = t := ⟨_, rfl⟩
  rw [ht1] at h1 h2 hk k1 k2 k3 k4 k5 k6 k7 k8 k13
  have S4 := Lib.hid h1
  have T4 := Lib.hid h2
  have K4 := Lib.hid hk
  have E4 : Hid (t1.tg = tg ∧ t1.mtu = mtu ∧ t1.now = now) := Lib.hid ⟨k1, k3, k13⟩
  have N4 : Hid (NB t1) := Lib.hid ⟨by rw [k5]; exact ⟨hn3.1, by show sn ≤ 4398046511104; omega⟩, by rw [k6]; exact hn4, by rw [k7]; exact hn5⟩
  have M4 : Hid (t1.marked = false) := Lib.hid k8
  have hsz4 := h3.size
  have X4 := Lib.hid (X3.out.grown h3 (by have := X3.out.size; omega) (fun k e => by have := Option.some.inj e; have := X2.out.size; omega))
  clear h1 h2 h3 hk k1 k2 k3 k4 k5 k6 k7 k8 k13 ht1 S3 T3 X3
  have hg4 := blk_lt S4.out
  have hz4 : w.heap.size + 1 + 1 + 1 + 1 ≤ gt := by omega
  obtain ⟨db, hdb⟩ : ∃ b, t1.dropping = b := ⟨_, rfl⟩
  have c5 : V4.cell? ⟨gt, 5, none⟩ = some (.bool db) := (blk_cell S4.out 5).trans (congrArg (fun z => some (Value.bool z)) hdb)
  have HDB := Lib.hid hdb
  clear hdb
  go_upto_if 41 with fail
  clear c5
  go_cut [] (fun (wx : World) => ∃ u : Tn, wx.heap[gt]? = some (.cells #[.int .i64 u.tg, .int .i64 u.iv, .int .i64 u.mtu, .bool u.above, .int .i64 u.aboveAt, .bool u.dropping, .int .i64 u.nx, .int .i64 u.cn, .int .i64 u.la, .bool u.has, .int .i64 u.out.tick, .int .i64 u.out.sz, .bool u.out.ect, .int .i64 u.out.id, .bool u.marked, .slice u.da u.dl.length u.dc, .int .i64 u.left, .slice u.qa u.ql.length u.qc, .int .i64 u.oc, .int .i64 u.now, .bool u.ripe] 50 (0, 0)) ∧ TG gt wx u ∧ TK l u ∧ (u.tg = tg ∧ u.mtu = mtu ∧ u.now = now) ∧ Below V0.heap.size V0 wx)
  case first =>
    have hV0 : V0.heap.size ≤ gt := by have := X2.out.size; omega
    cases db
    case true =>
      go_wp2_with fail
      refine (goOn_any l t1 gt V4 S4.out T4.out K4.out N4.out hl).mono ?_
      rintro e V5 ⟨rfl, u, h1, h2, h3, h4, h5⟩
      have S5 := Lib.hid (And.intro h1 (And.intro h2 (And.intro h3 (And.intro (show u.tg = tg ∧ u.mtu = mtu ∧ u.now = now from ⟨h4.1.trans E4.out.1, h4.2.1.trans E4.out.2.1, h4.2.2.trans E4.out.2.2⟩) (X4.out.trans (h5.mono hV0))))))
      clear h1 h2 h3 h4 h5
      go_wp2_with fail
      go_meet
      exact ⟨u, S5.out⟩
    case false =>
      obtain ⟨rb, hrb⟩ : ∃ b, t1.ripe = b := ⟨_, rfl⟩
      have c20 : V4.cell? ⟨gt, 20, none⟩ = some (.bool rb) := (blk_cell S4.out 20).trans (congrArg (fun z => some (Value.bool z)) hrb)
      have HRB := Lib.hid hrb
      clear hrb
      cases rb
      · go_wp2_with fail
        go_meet
        exact ⟨t1, S4.out, T4.out, K4.out, E4.out, X4.out⟩
      · go_wp2_with fail
        refine (begin_any l t1 gt V4 S4.out T4.out K4.out N4.out HRB.out M4.out hl).mono ?_
        rintro e V5 ⟨rfl, u, h1, h2, h3, h4, h5⟩
        have S5 := Lib.hid (And.intro h1 (And.intro h2 (And.intro h3 (And.intro (show u.tg = tg ∧ u.mtu = mtu ∧ u.now = now from ⟨h4.1.trans E4.out.1, h4.2.1.trans E4.out.2.1, h4.2.2.trans E4.out.2.2⟩) (X4.out.trans (h5.mono hV0))))))
        clear h1 h2 h3 h4 h5
        go_wp2_with fail
        go_meet
        exact ⟨u, S5.out⟩
  case rest =>
  obtain ⟨u, hS, hT, hK, hE, hB⟩ := hcut
  obtain ⟨V5, hVV⟩ : ∃ V, V = wc := ⟨_, rfl⟩
  subst hVV
  have S5 := Lib.hid hS
  have T5 := Lib.hid hT
  have K5 := Lib.hid hK
  have E5 := Lib.hid hE
  have X5 := Lib.hid hB
  have hg5 := blk_lt hS
  clear hS hT hK hE hB S4 T4 K4 E4 X4 N4 M4 HDB
  have c16 := blk_cell S5.out 16
  have c17 := blk_cell S5.out 17
  have f16 := blk_free S5.out 16
  have SF := blk_set S5.out 16 (.int .i64 u.ql.length)
  simp only [List.setIfInBounds_toArray, List.set_cons_zero, List.set_cons_succ] at SF
  have SFG : (V5).grownBy ((V5).setCell ⟨gt, 16, none⟩ (.int .i64 u.ql.length)) (some gt) := gr_set _ gt 16 _
  have S6 := Lib.hid SF
  have O6 := Lib.hid (T5.out.grown SFG).O
  have hV0 : V0.heap.size ≤ gt := by have := X2.out.size; omega
  have X6 := Lib.hid (X5.out.grown SFG (by have := X5.out.size; omega) (fun k e => by have := Option.some.inj e; omega))
  clear SF SFG
  go_upto_region 13 with fail
  clear c16 c17 f16 S5 T5 X5
  generalize V5.setCell ⟨gt, 16, none⟩ (.int .i64 u.ql.length) = V6 at S6 O6 X6 ⊢
  have RB := Lib.hid ((X6.out.block (w.heap.size + 1 + 1) (by have := N0.out; omega)).trans R0.out)
  have UB := Lib.hid ((X6.out.block (w.heap.size + 1 + 1 + 1) (by have := N0.out; omega)).trans U0.out)
  have O7 := Lib.hid (O6.out.below (Below.refl V6.heap.size V6).drew)
  have X7 := Lib.hid X6.out.drew
  have hsz7 : w.heap.size + 1 + 1 + 1 < V6.drew.heap.size := blk_lt UB.out
  refine wp_region_held_drew (S := fun W => W.heap[gt]? = some (.cells #[.int .i64 u.tg, .int .i64 u.iv, .int .i64 u.mtu, .bool u.above, .int .i64 u.aboveAt, .bool u.dropping, .int .i64 u.nx, .int .i64 u.cn, .int .i64 u.la, .bool u.has, .int .i64 u.out.tick, .int .i64 u.out.sz, .bool u.out.ect, .int .i64 u.out.id, .bool u.marked, .slice u.da u.dl.length u.dc, .int .i64 u.ql.length, .slice u.qa u.ql.length u.qc, .int .i64 u.oc, .int .i64 u.now, .bool u.ripe] 50 (0, 0))) (by kernel_rfl) (blk_drew S6.out) (fun hHeld => ?_)
  refine wpAnyH_take (i := 0) (oi := _) (v := ?_) rfl (by kernel_rfl) (by kernel_rfl) (by kernel_rfl) (fun _ _ _ h => h) (Or.inl ⟨by rfl, ?_⟩) (by assumption) ?_
  rotate_left
  · intro w5 hSw
    clear hSw
    go_simp
    all_goals with_reducible rfl
  (try simp only [List.getElem_toArray]); (try simp only [List.getElem_cons_succ]); (try simp only [List.getElem_cons_zero]); try simp only [Act.put, List.setIfInBounds_toArray, List.set_cons_zero, List.set_cons_succ]
  refine wpAnyH_take (i := 1) (oi := _) (v := ?_) rfl (by kernel_rfl) (by kernel_rfl) (by kernel_rfl) (fun _ _ _ h => h) (Or.inl ⟨by rfl, ?_⟩) (by assumption) ?_
  rotate_left
  · intro w5 hSw
    clear hSw
    go_simp
    all_goals with_reducible rfl
  (try simp only [List.getElem_toArray]); (try simp only [List.getElem_cons_succ]); (try simp only [List.getElem_cons_zero]); try simp only [Act.put, List.setIfInBounds_toArray, List.set_cons_zero, List.set_cons_succ]
  refine wpAnyH_take (i := 2) (oi := _) (v := ?_) rfl (by kernel_rfl) (by kernel_rfl) (by kernel_rfl) (fun _ _ _ h => h) (Or.inl ⟨by rfl, ?_⟩) (by assumption) ?_
  rotate_left
  · intro w5 hSw
    clear hSw
    go_simp
    all_goals with_reducible rfl
  (try simp only [List.getElem_toArray]); (try simp only [List.getElem_cons_succ]); (try simp only [List.getElem_cons_zero]); try simp only [Act.put, List.setIfInBounds_toArray, List.set_cons_zero, List.set_cons_succ]
  refine wpAnyH_take (i := 3) (oi := _) (v := ?_) rfl (by kernel_rfl) (by kernel_rfl) (by kernel_rfl) (fun _ _ _ h => h) (Or.inl ⟨by rfl, ?_⟩) (by assumption) ?_
  rotate_left
  · intro w5 hSw
    have hB : w5.heap[gt]? = some (.cells #[.int .i64 u.tg, .int .i64 u.iv, .int .i64 u.mtu, .bool u.above, .int .i64 u.aboveAt, .bool u.dropping, .int .i64 u.nx, .int .i64 u.cn, .int .i64 u.la, .bool u.has, .int .i64 u.out.tick, .int .i64 u.out.sz, .bool u.out.ect, .int .i64 u.out.id, .bool u.marked, .slice u.da u.dl.length u.dc, .int .i64 u.ql.length, .slice u.qa u.ql.length u.qc, .int .i64 u.oc, .int .i64 u.now, .bool u.ripe] 50 (0, 0)) := hSw
    clear hSw
    have c3 := blk_cell hB 3
    have c4 := blk_cell hB 4
    have c5 := blk_cell hB 5
    have c6 := blk_cell hB 6
    have c7 := blk_cell hB 7
    have c8 := blk_cell hB 8
    clear hB
    go_simp
    all_goals with_reducible rfl
  (try simp only [List.getElem_toArray]); (try simp only [List.getElem_cons_succ]); (try simp only [List.getElem_cons_zero]); try simp only [Act.put, List.setIfInBounds_toArray, List.set_cons_zero, List.set_cons_succ]
  refine wpAnyH_take (i := 4) (oi := _) (v := ?_) rfl (by kernel_rfl) (by kernel_rfl) (by kernel_rfl) (fun _ _ _ h => h) (Or.inl ⟨by rfl, ?_⟩) (by assumption) ?_
  rotate_left
  · intro w5 hSw
    clear hSw
    go_simp
    all_goals with_reducible rfl
  (try simp only [List.getElem_toArray]); (try simp only [List.getElem_cons_succ]); (try simp only [List.getElem_cons_zero]); try simp only [Act.put, List.setIfInBounds_toArray, List.set_cons_zero, List.set_cons_succ]
  refine wpAnyH_take (i := 5) (oi := _) (v := ?_) rfl (by kernel_rfl) (by kernel_rfl) (by kernel_rfl) (fun _ _ _ h => h) (Or.inl ⟨by rfl, ?_⟩) (by assumption) ?_
  rotate_left
  · intro w5 hSw
    clear hSw
    go_simp
    all_goals with_reducible rfl
  (try simp only [List.getElem_toArray]); (try simp only [List.getElem_cons_succ]); (try simp only [List.getElem_cons_zero]); try simp only [Act.put, List.setIfInBounds_toArray, List.set_cons_zero, List.set_cons_succ]
  refine wpAnyH_take (i := 6) (oi := _) (v := ?_) rfl (by kernel_rfl) (by kernel_rfl) (by kernel_rfl) (fun _ _ _ h => h) (Or.inl ⟨by rfl, ?_⟩) (by assumption) ?_
  rotate_left
  · intro w5 hSw
    clear hSw
    go_simp
    all_goals with_reducible rfl
  (try simp only [List.getElem_toArray]); (try simp only [List.getElem_cons_succ]); (try simp only [List.getElem_cons_zero]); try simp only [Act.put, List.setIfInBounds_toArray, List.set_cons_zero, List.set_cons_succ]
  refine wpAnyH_take (i := 7) (oi := _) (v := ?_) rfl (by kernel_rfl) (by kernel_rfl) (by kernel_rfl) (fun _ _ _ h => h) (Or.inl ⟨by rfl, ?_⟩) (by assumption) ?_
  rotate_left
  · intro w5 hSw
    have hB : w5.heap[gt]? = some (.cells #[.int .i64 u.tg, .int .i64 u.iv, .int .i64 u.mtu, .bool u.above, .int .i64 u.aboveAt, .bool u.dropping, .int .i64 u.nx, .int .i64 u.cn, .int .i64 u.la, .bool u.has, .int .i64 u.out.tick, .int .i64 u.out.sz, .bool u.out.ect, .int .i64 u.out.id, .bool u.marked, .slice u.da u.dl.length u.dc, .int .i64 u.ql.length, .slice u.qa u.ql.length u.qc, .int .i64 u.oc, .int .i64 u.now, .bool u.ripe] 50 (0, 0)) := hSw
    clear hSw
    have c9 := blk_cell hB 9
    have c10 := blk_cell hB 10
    have c11 := blk_cell hB 11
    have c12 := blk_cell hB 12
    have c13 := blk_cell hB 13
    have c14 := blk_cell hB 14
    have c15 := blk_cell hB 15
    have c16 := blk_cell hB 16
    clear hB
    go_simp
    all_goals with_reducible rfl
  (try simp only [List.getElem_toArray]); (try simp only [List.getElem_cons_succ]); (try simp only [List.getElem_cons_zero]); try simp only [Act.put, List.setIfInBounds_toArray, List.set_cons_zero, List.set_cons_succ]
  refine wpAnyH_ready (rs := [8]) (by kernel_rfl) (by simp) ?_
  refine (AllReadyH.cons (o := _) rfl (fun K hK => ?_) AllReadyH.nil)
  · refine step_store_blk rowS (t := 28) ?_ (.tmp 8) (.tmp 62) ?_ (w.heap.size + 1 + 1) #[.bool false, .int .i64 0, .bool false, .int .i64 0, .int .i64 0, .int .i64 0] #[.bool u.above, .int .i64 u.aboveAt, .bool u.dropping, .int .i64 u.nx, .int .i64 u.cn, .int .i64 u.la] ?_ ?_ (blk_drew RB.out) rfl rfl (by simp [Value.oneCell']) ?_
    · rfl
    · rfl
    · rfl
    · rfl
    intro V8 hb8 hg8
    refine hK.out _ _ ?_ (fun hHeld => ?_)
    · exact (hg8.block gt (blk_lt hHeld) (fun e => by have := Option.some.inj e; omega)).trans hHeld
    clear hK K
    (try simp only [List.getElem_toArray]); (try simp only [List.getElem_cons_succ]); (try simp only [List.getElem_cons_zero]); try simp only [Act.put]
    have RB8 := Lib.hid hb8
    have UB8 := Lib.hid ((hg8.block (w.heap.size + 1 + 1 + 1) (by omega) (fun e => by have := Option.some.inj e; omega)).trans (blk_drew UB.out))
    have HG8 := Lib.hid hg8
    clear hb8 hg8
    refine wpAnyH_ready (rs := [9]) (by kernel_rfl) (by simp) ?_
    refine (AllReadyH.cons (o := _) rfl (fun K hK => ?_) AllReadyH.nil)
    · refine step_store_blk rowR (t := 32) ?_ (.tmp 9) (.tmp 66) ?_ (w.heap.size + 1 + 1 + 1) #[.bool false, .int .i64 0, .int .i64 0, .bool false, .int .i64 0, .bool false, .slice none 0 0, .int .i64 0] #[.bool u.has, .int .i64 u.out.tick, .int .i64 u.out.sz, .bool u.out.ect, .int .i64 u.out.id, .bool u.marked, .slice u.da u.dl.length u.dc, .int .i64 u.ql.length] ?_ ?_ UB8.out rfl rfl (by simp [Value.oneCell']) ?_
      · rfl
      · rfl
      · rfl
      · rfl
      intro V9 hb9 hg9
      refine hK.out _ _ ?_ (fun hHeld => ?_)
      · exact (hg9.block gt (blk_lt hHeld) (fun e => by have := Option.some.inj e; omega)).trans hHeld
      clear hK K
      (try simp only [List.getElem_toArray]); (try simp only [List.getElem_cons_succ]); (try simp only [List.getElem_cons_zero]); try simp only [Act.put]
      have UB9 := Lib.hid hb9
      have RB9 := Lib.hid ((hg9.block (w.heap.size + 1 + 1) (blk_lt RB8.out) (fun e => by have := Option.some.inj e; omega)).trans RB8.out)
      have HG9 := Lib.hid hg9
      clear hb9 hg9
      refine wpAnyH_ready (rs := [10]) (by kernel_rfl) (by simp) ?_
      refine (AllReadyH.cons (o := _) rfl (fun K hK => ?_) AllReadyH.nil)
      · (try simp only [List.getElem_toArray]); (try simp only [List.getElem_cons_succ]); (try simp only [List.getElem_cons_zero])
        go_simp
        refine hK.out _ _ ?_ (fun hHeld => ?_)
        · exact hHeld
        clear hK K
        (try simp only [List.getElem_toArray]); (try simp only [List.getElem_cons_succ]); (try simp only [List.getElem_cons_zero]); try simp only [Act.put, List.setIfInBounds_toArray, List.set_cons_zero, List.set_cons_succ]
        refine wpAnyH_done (by kernel_rfl) ?_ _
        go_wp2_with fail
        refine bodyPost_ret (results_cct rowS rowR rfl _ _ (w.heap.size + 1 + 1) (w.heap.size + 1 + 1 + 1) _ _ (.int .i64 0) rfl rfl rfl RB9.out rfl UB9.out rfl) rfl ?_
        have o1 := O7.out.ownB
        have o8 := O7.out.grown HG8.out (fun k e => by intro e2; have := (o1 k (by rw [e]; rfl)).1; have := Option.some.inj e2; omega)
        have o2 := o8.ownB
        have o9 := o8.grown HG9.out (fun k e => by intro e2; have := (o2 k (by rw [e]; rfl)).1; have := Option.some.inj e2; omega)
        refine ⟨.inr ⟨u, K5.out, ⟨HV.out, hn1⟩, E5.out, o9.mono (by omega), rfl⟩, ?_⟩
        have b5 := (Q0.out.trans (X7.out.mono Q0.out.size)).grown HG8.out (by omega) (fun k e => by have := Option.some.inj e; omega)
        exact b5.grown HG9.out (by have := HG8.out.size; omega) (fun k e => by have := Option.some.inj e; omega)
end Go.Proofs.Yteflbfmkbkhimaa
