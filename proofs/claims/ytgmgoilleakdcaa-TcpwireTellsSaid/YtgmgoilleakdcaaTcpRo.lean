/- What the document's Build gives of a segment that may be. -/
import Derived.Test.YtgmgoilleakdcaaTcpRp
import Derived.Test.YtgmgoilleakdcaaTcpB
import Derived.Test.YtgmgoilleakdcaaGOcts
import Derived.Deep.RegionHeld3
import Derived.Deep.CutRange
namespace Go.Proofs.Ytgmgoilleakdcaa
open Go.RowKit

theorem two_set (P r : List Nat) (x y : Nat) (h : P.length = 16) : ((P ++ [0, 0] ++ r).set 16 x).set 17 y = P ++ [x, y] ++ r := by
  rw [List.append_assoc, List.append_assoc, List.set_append_right _ _ (by omega), List.set_append_right _ _ (by omega), h]
  rfl
theorem octs_two (C : Nat) (h : C < 65536) : Mt.octs C 2 = [C / 256, C % 256] := by
  simp [Mt.octs, List.range_succ]
  omega
theorem tc_sets {sp dp sq ak q fl wn C ur : Nat} {L ds : List Nat} {A : Nat → List Nat} (h9 : A 9 = tcpHd sp dp sq ak q fl wn 0 ur ++ L ++ ds) (h10 : A 10 = tcpHd sp dp sq ak q fl wn C ur ++ L ++ ds) (hC : C < 65536) : ((A 9).set 16 (C / 256)).set 17 (C % 256) = A 10 := by
  have h := two_set (Mt.octs sp 2 ++ Mt.octs dp 2 ++ Mt.octs sq 4 ++ Mt.octs ak 4 ++ [q, fl] ++ Mt.octs wn 2) (Mt.octs ur 2 ++ L ++ ds) (C / 256) (C % 256) (by simp [Mt.octs_length])
  rw [h9, h10]
  simp only [tcpHd, octs_two C hC, octs_two 0 (by omega), List.append_assoc] at h ⊢
  exact h

theorem step_append_to {w : World} {ops : Array Oper} {o : Oper} {act : Act} {K : Act → World → Prop} {Q : Exit → Act → World → Prop} {E : Prop} (hgd : o.guard = none) (s x : Operand)
    (ho : o.op = .call { callee := .builtin .append, args := #[s, x], argTypes := #[25, 25] }) (B : Nat) {a b : Option Addr} {xs ys zs : List Nat} {cap dap n m : Nat} (e : xs ++ ys = zs) (en : n = xs.length) (em : m = ys.length)
    (O : OwnSl B a xs cap w) (Y : Bts w b ys) (hd : b = none → dap = 0) (hs : act.eval s = .slice a n cap) (hx : act.eval x = .slice b m dap)
    (hlen : xs.length + ys.length ≤ 65535) (hB : B ≤ w.heap.size)
    (h : ∀ a' cap' w', OwnSl B a' zs cap' w' → Below B w w' → K (act.put o.dst (.slice a' zs.length cap')) w') : if Region.wanted o (yielded ops act.tmps) = true then Oper.wp Try.prog o act w K Q else E := by
  subst e; subst en; subst em
  exact step_append_bts hgd s x ho B O Y hd hs hx (by omega) hB h

theorem wpList_append_toN {w : World} {ops : Array Oper} {rest : List Oper} {o : Oper} {act : Act} {Q : Exit → Act → World → Prop} (hgd : o.guard = none) (s x : Operand)
    (ho : o.op = .call { callee := .builtin .append, args := #[s, x], argTypes := #[25, 25] }) (B : Nat) {a b : Option Addr} {xs ys zs : List Nat} {cap dap n m : Nat} (e : xs ++ ys = zs) (en : n = xs.length) (em : m = ys.length)
    (O : OwnSl B a xs cap w) (Y : Bts w b ys) (hd : b = none → dap = 0) (hs : act.eval s = .slice a n cap) (hx : act.eval x = .slice b m dap)
    (hlen : xs.length + ys.length ≤ 65535) (hB : B ≤ w.heap.size)
    (h : ∀ a' cap' w', OwnSl B a' zs cap' w' → Below B w w' → wpList Try.prog ops Q rest (act.put o.dst (.slice a' zs.length cap')) w') : wpList Try.prog ops Q (o :: rest) act w := by
  subst e; subst en; subst em
  exact wpList_append_bts hgd s x ho B O Y hd hs hx (by omega) hB h

theorem oct2_slB (n : Nat) (w : World) : Calls Try.prog 28 #[.int .u64 n, .int .i64 2] w fun e w' => e = .returned (.slice (some ⟨w.heap.size, 0, none⟩) 2 2) ∧ OwnSl w.heap.size (some ⟨w.heap.size, 0, none⟩) (Mt.octs n 2) 2 w' ∧ Below w.heap.size w w' := oct_sl n 2 (by omega) w

set_option linter.unusedSimpArgs false in
set_option maxRecDepth 100000 in
set_option maxHeartbeats 8000000 in
theorem rB_core (sp dp sq ak fl wn ur mss : Nat) (hs : Bool) (sc : Nat) (sk : Bool) (ba : Option Addr) (bs : List (Nat × Nat)) (bc : Nat) (ht : Bool) (tv te : Nat) (da : Option Addr) (ds : List Nat) (dc : Nat) (src dst : Nat) (w : World) (N p q n C R : Nat) (L : List Nat) (A : Nat → List Nat) (hL : TcLists sp dp sq ak n fl wn C ur L ds A) (h10 : ((A 9).set 16 (C / 256)).set 17 (C % 256) = A 10) (hL4 : L.length ≤ 40) (hN : N = 20 + L.length + ds.length) (hNu : N ≤ 65535) (hp : L.length / 4 = p) (hq : 5 + p = q) (hn : n = q * 16) (hC : C = 65535 - R) (hR : R ≤ 65535)
    (hck : ∀ W, Bts W da ds → Blk W ba bs → Calls Try.prog 16 #[.agg (tcpV sp dp sq ak fl wn ur mss hs sc sk ba bs.length bc ht tv te da ds.length dc)] W fun e w' => e = .returned (.int .i64 0) ∧ Below W.heap.size W w')
    (hop : ∀ W, Bts W da ds → Blk W ba bs → Calls Try.prog 27 #[.agg (tcpV sp dp sq ak fl wn ur mss hs sc sk ba bs.length bc ht tv te da ds.length dc)] W fun e w' => (∃ a cap, e = .returned (.slice a L.length cap) ∧ OwnSl (W.heap.size + 1) a L cap w') ∧ Below W.heap.size W w')
    (hsum : ∀ g c W, Bts W (some ⟨g, 0, none⟩) (A 9) → Calls Try.prog 29 #[.slice (some ⟨g, 0, none⟩) N c, .int .u32 (src : Nat), .int .u32 (dst : Nat)] W fun e W' => e = .returned (.int .u16 (R : Nat)) ∧ Below W.heap.size W W')
    (hsp : sp < 65536) (hdp : dp < 65536) (hsq : sq < 4294967296) (hak : ak < 4294967296) (hfl : fl < 256) (hwn : wn < 65536) (hur : ur < 65536) (hx : Bts w da ds) (hdn : da = none → dc = 0) (hy : Blk w ba bs) :
    Calls Try.prog 9 #[.agg (tcpV sp dp sq ak fl wn ur mss hs sc sk ba bs.length bc ht tv te da ds.length dc), .int .u32 (src : Nat), .int .u32 (dst : Nat)] w fun e w' => ∃ g cap', e = .returned (.tuple #[.slice (some ⟨g, 0, none⟩) N cap', .int .i64 0]) ∧ OwnSl (w.heap.size + 1) (some ⟨g, 0, none⟩) (A 10) cap' w' ∧ Below w.heap.size w w' := by
  have HL := Lib.hid hL
  have H10 := Lib.hid h10
  have Hop := Lib.hid hop
  have Hsum := Lib.hid hsum
  have X0 := Lib.hid hx
  have Y0 := Lib.hid hy
  have HDN := Lib.hid hdn
  have xq : (L.length : Int) / 4 = (p : Int) := by omega
  have x5 : (5 : Int) + (p : Int) = (q : Int) := by omega
  have q16 : q < 16 := by omega
  have xn : (q : Int) * 16 = (n : Int) := by omega
  have n256 : n < 256 := by omega
  have xn8 : IntKind.u8.wrap (n : Int) = (n : Int) := IntWalk.u8_in _ (by omega)
  have xsp : IntKind.u64.wrap (sp : Int) = (sp : Int) := IntWalk.u64_in _ (by omega)
  have xdp : IntKind.u64.wrap (dp : Int) = (dp : Int) := IntWalk.u64_in _ (by omega)
  have xsq : IntKind.u64.wrap (sq : Int) = (sq : Int) := IntWalk.u64_in _ (by omega)
  have xak : IntKind.u64.wrap (ak : Int) = (ak : Int) := IntWalk.u64_in _ (by omega)
  have xwn : IntKind.u64.wrap (wn : Int) = (wn : Int) := IntWalk.u64_in _ (by omega)
  have xur : IntKind.u64.wrap (ur : Int) = (ur : Int) := IntWalk.u64_in _ (by omega)
  have xC : IntKind.u16.wrap (65535 - (R : Int)) = (C : Int) := by rw [show (65535 : Int) - (R : Int) = (C : Int) from by omega]; exact IntWalk.u16_in _ (by omega)
  have hN2 := Lib.hid (show 20 ≤ N ∧ N ≤ 65535 by omega)
  have hL2 := Lib.hid (show 20 + L.length ≤ N ∧ 20 + L.length + ds.length = N ∧ L.length ≤ 40 by omega)
  have hC2 : C ≤ 65535 := by omega
  have hml : maxLen = 9223372036854775807 := by rfl
  have bn := blk_new w (.cells (tcpV sp dp sq ak fl wn ur mss hs sc sk ba bs.length bc ht tv te da ds.length dc) 27)
  have hsz : (w.alloc (.cells (tcpV sp dp sq ak fl wn ur mss hs sc sk ba bs.length bc ht tv te da ds.length dc) 27)).heap.size = w.heap.size + 1 := by rw [World.size_alloc]
  have bw := (Below.refl _ w).alloc (Nat.le_refl _) (.cells (tcpV sp dp sq ak fl wn ur mss hs sc sk ba bs.length bc ht tv te da ds.length dc) 27)
  have KC := Lib.hid (hck _ (X0.out.below bw) (Y0.out.below bw))
  have K0 := Lib.hid bn
  have HS := Lib.hid hsz
  have Q0 := Lib.hid bw
  have HQ := Lib.hid (And.intro xq (And.intro x5 xn))
  have HC := Lib.hid (And.intro xC hn)
  have HXS := Lib.hid (And.intro xsp (And.intro xdp (And.intro xsq (And.intro xak (And.intro xwn xur)))))
  clear bn hsz bw hck hL h10 hop hsum hx hy hdn hN hNu hp hq hn hC hR hL4 xq x5 xn xC xsp xdp xsq xak xwn xur
  unfold tcpV at *
  go_enter Try.func9, Try.ntmps9
  go_upto_region 4 with (first
    | (go_at_call 16; with_reducible refine KC.out.mono ?_; rintro e V0 ⟨rfl, b0⟩; have k := (b0.block w.heap.size (by rw [HS.out]; exact Nat.lt_succ_self _)).trans K0.out; have K1 := Lib.hid (show TcpAt V0 w.heap.size _ from k); have Q1 := Lib.hid (Q0.out.trans (b0.mono Q0.out.size)); have S1 : w.heap.size + 1 ≤ V0.heap.size := (by have h := b0.size; rw [HS.out] at h; exact h); have KO := Lib.hid (Hop.out V0 (X0.out.below Q1.out) (Y0.out.below Q1.out)); clear k b0 Q0 K0 HS KC)
    | fail)
  go_upto_region 5 with (first
    | ((with_reducible show wpList _ _ _ _ _ _); refine wpList_load_tcp rfl (.tmp 3) rfl w.heap.size rfl _ K1.out rfl ?_)
    | (go_at_call 27; with_reducible refine KO.out.mono ?_; rintro e V1 ⟨⟨la, lc, rfl, OL⟩, b⟩; have hw0 : w.heap.size < V0.heap.size := (by omega); have K2 := Lib.hid ((b.block w.heap.size hw0).trans K1.out); have Q2 := Lib.hid (Q1.out.trans (b.mono (Nat.le_of_lt hw0))); have S2 : w.heap.size < V1.heap.size := Nat.lt_of_lt_of_le hw0 b.size; have X1 := Lib.hid (X0.out.below Q2.out); have L1 := Lib.hid (And.intro OL.bts OL.nilcap); clear b OL KO K1 Q1 S1 hw0)
    | fail)
  have e01 : Mt.octs sp 2 ++ Mt.octs dp 2 = A 1 := by rw [← HL.out.e1, ← HL.out.e0, List.nil_append]
  go_cut [10] from 19 (fun (v : Value) wc => ∃ a c, v = .slice a (A 1).length c ∧ OwnSl V1.heap.size a (A 1) c wc ∧ Below V1.heap.size V1 wc)
  case first =>
    have RD := Lib.hid (Below.refl V1.heap.size V1).drew
    have kd := (RD.out.block _ S2).trans K2.out
    have cd0 := blk_cell kd 0
    have cd1 := blk_cell kd 1
    clear kd
    refine wp_region_held_drew (S := fun W => W.cell? ⟨w.heap.size, 0, none⟩ = some (.int .u16 (sp : Nat)) ∧ W.cell? ⟨w.heap.size, 1, none⟩ = some (.int .u16 (dp : Nat))) (by kernel_rfl) ⟨cd0, cd1⟩ (fun hHeld => ?_)
    refine wpAnyH_take (i := 0) (oi := _) (v := ?_) rfl (by kernel_rfl) (by kernel_rfl) (by kernel_rfl) (fun _ _ _ h => h) (Or.inl ⟨by rfl, ?_⟩) (by assumption) ?_
    rotate_left
    · intro w hSw
      try dsimp only at hSw
      go_simp
      all_goals with_reducible rfl
    (try simp only [List.getElem_toArray]); (try simp only [List.getElem_cons_succ]); (try simp only [List.getElem_cons_zero]); try simp only [Act.put, List.setIfInBounds_toArray, List.set_cons_zero, List.set_cons_succ]
    refine wpAnyH_take (i := 1) (oi := _) (v := ?_) rfl (by kernel_rfl) (by kernel_rfl) (by kernel_rfl) (fun _ _ _ h => h) (Or.inl ⟨by rfl, ?_⟩) (by assumption) ?_
    rotate_left
    · intro w hSw
      try dsimp only at hSw
      go_simp
      all_goals with_reducible rfl
    (try simp only [List.getElem_toArray]); (try simp only [List.getElem_cons_succ]); (try simp only [List.getElem_cons_zero]); try simp only [Act.put, List.setIfInBounds_toArray, List.set_cons_zero, List.set_cons_succ]
    refine wpAnyH_take (i := 2) (oi := _) (v := ?_) rfl (by kernel_rfl) (by kernel_rfl) (by kernel_rfl) (fun _ _ _ h => h) (Or.inl ⟨by rfl, ?_⟩) (by assumption) ?_
    rotate_left
    · intro w hSw
      try dsimp only at hSw
      go_simp
      all_goals with_reducible rfl
    (try simp only [List.getElem_toArray]); (try simp only [List.getElem_cons_succ]); (try simp only [List.getElem_cons_zero]); try simp only [Act.put, List.setIfInBounds_toArray, List.set_cons_zero, List.set_cons_succ]
    refine wpAnyH_take (i := 4) (oi := _) (v := ?_) rfl (by kernel_rfl) (by kernel_rfl) (by kernel_rfl) (fun _ _ _ h => h) (Or.inl ⟨by rfl, ?_⟩) (by assumption) ?_
    rotate_left
    · intro w hSw
      try dsimp only at hSw
      go_simp
      all_goals with_reducible rfl
    (try simp only [List.getElem_toArray]); (try simp only [List.getElem_cons_succ]); (try simp only [List.getElem_cons_zero]); try simp only [Act.put, List.setIfInBounds_toArray, List.set_cons_zero, List.set_cons_succ]
    refine wpAnyH_take (i := 5) (oi := _) (v := ?_) rfl (by kernel_rfl) (by kernel_rfl) (by kernel_rfl) (fun _ _ _ h => h) (Or.inl ⟨by rfl, ?_⟩) (by assumption) ?_
    rotate_left
    · intro w hSw
      try dsimp only at hSw
      go_simp
      all_goals with_reducible rfl
    (try simp only [List.getElem_toArray]); (try simp only [List.getElem_cons_succ]); (try simp only [List.getElem_cons_zero]); try simp only [Act.put, List.setIfInBounds_toArray, List.set_cons_zero, List.set_cons_succ]
    refine wpAnyH_take (i := 6) (oi := _) (v := ?_) rfl (by kernel_rfl) (by kernel_rfl) (by kernel_rfl) (fun _ _ _ h => h) (Or.inl ⟨by rfl, ?_⟩) (by assumption) ?_
    rotate_left
    · intro w hSw
      try dsimp only at hSw
      go_simp
      all_goals with_reducible rfl
    (try simp only [List.getElem_toArray]); (try simp only [List.getElem_cons_succ]); (try simp only [List.getElem_cons_zero]); try simp only [Act.put, List.setIfInBounds_toArray, List.set_cons_zero, List.set_cons_succ]
    refine wpAnyH_ready (rs := [3]) (by kernel_rfl) (by simp) ?_
    refine (AllReadyH.cons (o := _) rfl (fun K hK => ?_) AllReadyH.nil)
    · (try simp only [List.getElem_toArray]); (try simp only [List.getElem_cons_succ]); (try simp only [List.getElem_cons_zero])
      go_simp
      rw [HXS.out.1]
      go_at_call 28
      refine (oct2_slB sp _).mono ?_
      rintro e V2 ⟨rfl, Y, b⟩
      try dsimp only
      have O2 := Lib.hid (Y.mono (show V1.heap.size ≤ V1.drew.heap.size from Nat.le_refl _))
      have R2 := Lib.hid (RD.out.trans (b.mono RD.out.size))
      have z2 := Nat.le_trans RD.out.size b.size
      clear Y b
      refine hK.out _ _ ?_ (fun hHeld => ?_)
      · have kk := (R2.out.block _ S2).trans K2.out
        exact ⟨blk_cell kk 0, blk_cell kk 1⟩
      clear hK K
      (try simp only [List.getElem_toArray]); (try simp only [List.getElem_cons_succ]); (try simp only [List.getElem_cons_zero]); try simp only [Act.put, List.setIfInBounds_toArray, List.set_cons_zero, List.set_cons_succ]
      refine wpAnyH_ready (rs := [7]) (by kernel_rfl) (by simp) ?_
      refine (AllReadyH.cons (o := _) rfl (fun K hK => ?_) AllReadyH.nil)
      · (try simp only [List.getElem_toArray]); (try simp only [List.getElem_cons_succ]); (try simp only [List.getElem_cons_zero])
        go_simp
        rw [HXS.out.2.1]
        go_at_call 28
        refine (oct2_slB dp _).mono ?_
        rintro e V3 ⟨rfl, Y, b⟩
        try dsimp only
        have O3 := Lib.hid (O2.out.below b)
        have Y3 := Lib.hid Y.bts
        have R3 := Lib.hid (R2.out.trans (b.mono R2.out.size))
        have z3 := Nat.le_trans z2 b.size
        clear Y b R2 O2 z2
        refine hK.out _ _ ?_ (fun hHeld => ?_)
        · have kk := (R3.out.block _ S2).trans K2.out
          exact ⟨blk_cell kk 0, blk_cell kk 1⟩
        clear hK K
        (try simp only [List.getElem_toArray]); (try simp only [List.getElem_cons_succ]); (try simp only [List.getElem_cons_zero]); try simp only [Act.put, List.setIfInBounds_toArray, List.set_cons_zero, List.set_cons_succ]
        refine wpAnyH_ready (rs := [8]) (by kernel_rfl) (by simp) ?_
        refine (AllReadyH.cons (o := _) rfl (fun K hK => ?_) AllReadyH.nil)
        · refine step_append_to rfl (.tmp 22) (.tmp 26) rfl V1.heap.size e01 (by rw [Mt.octs_length]) (by rw [Mt.octs_length]) O3.out Y3.out (fun h => by cases h) (by rfl) (by rfl) (by rw [Mt.octs_length, Mt.octs_length]; omega) z3 ?_
          intro a4 d4 V4 O b
          have O4 := Lib.hid O
          have R4 := Lib.hid (R3.out.trans b)
          clear O b R3 O3 Y3 z3
          refine hK.out _ _ ?_ (fun hHeld => ?_)
          · have kk := (R4.out.block _ S2).trans K2.out
            exact ⟨blk_cell kk 0, blk_cell kk 1⟩
          clear hK K
          (try simp only [List.getElem_toArray]); (try simp only [List.getElem_cons_succ]); (try simp only [List.getElem_cons_zero]); try simp only [Act.put, List.setIfInBounds_toArray, List.set_cons_zero, List.set_cons_succ]
          refine wpAnyH_take (i := 9) (oi := _) (v := ?_) rfl (by kernel_rfl) (by kernel_rfl) (by kernel_rfl) (fun _ _ _ h => h) (Or.inl ⟨by rfl, ?_⟩) (by assumption) ?_
          rotate_left
          · intro w hSw
            try dsimp only at hSw
            go_simp
            all_goals with_reducible rfl
          (try simp only [List.getElem_toArray]); (try simp only [List.getElem_cons_succ]); (try simp only [List.getElem_cons_zero]); try simp only [Act.put, List.setIfInBounds_toArray, List.set_cons_zero, List.set_cons_succ]
          refine wpAnyH_done (by kernel_rfl) ?_ _
          go_wp2_with fail
          go_meet
          exact ⟨a4, d4, by first | rfl | (with_unfolding_all rfl), O4.out, R4.out⟩
  case rest =>
    obtain ⟨a1, d1, rfl, O, b⟩ := hcut
    have O1 := Lib.hid O
    have R1 := Lib.hid b
    have z1 := b.size
    have xsq := HXS.out.2.2.1
    have xak := HXS.out.2.2.2.1
    have xwn := HXS.out.2.2.2.2.1
    have xur := HXS.out.2.2.2.2.2
    have xq := HQ.out.1
    have x5 := HQ.out.2.1
    have xn := HQ.out.2.2
    have K3 := Lib.hid ((b.block _ S2).trans K2.out)
    have c2 := blk_cell K3.out 2
    clear O b e01
    go_upto_region 7 with (first
      | (go_at_call 28; with_reducible refine (oct4_sl sq _).mono ?_; rintro e U2 ⟨rfl, Y, b⟩; have P2 := Lib.hid (O1.out.below b); have Y2 := Lib.hid Y.bts; have Q2r := Lib.hid (R1.out.trans (b.mono R1.out.size)); have y2 := Nat.le_trans z1 b.size; clear Y b)
      | (at_builtin; refine wpList_append_toN rfl _ _ rfl V1.heap.size HL.out.e2 rfl (Mt.octs_length _ _).symm P2.out Y2.out (fun h => by cases h) rfl rfl (by rw [Mt.octs_length]; have := HL.out.l 1 (by omega); omega) y2 ?_; intro a2 d2 W2 O b; have O2 := Lib.hid O; have R2 := Lib.hid (Q2r.out.trans b); have z2 := Nat.le_trans y2 b.size; clear c2; have kk := (R2.out.block _ S2).trans K2.out; have c3 := blk_cell kk 3;  clear O b kk P2 Y2 Q2r y2 O1 R1 z1)
      | fail)
    go_upto_region 8 with (first
      | (go_at_call 28; with_reducible refine (oct4_sl ak _).mono ?_; rintro e U3 ⟨rfl, Y, b⟩; have P3 := Lib.hid (O2.out.below b); have Y3 := Lib.hid Y.bts; have Q3r := Lib.hid (R2.out.trans (b.mono R2.out.size)); have y3 := Nat.le_trans z2 b.size; clear Y b)
      | (at_builtin; refine wpList_append_toN rfl _ _ rfl V1.heap.size HL.out.e3 rfl (Mt.octs_length _ _).symm P3.out Y3.out (fun h => by cases h) rfl rfl (by rw [Mt.octs_length]; have := HL.out.l 2 (by omega); omega) y3 ?_; intro a3 d3 W3 O b; have O3 := Lib.hid O; have R3 := Lib.hid (Q3r.out.trans b); have z3 := Nat.le_trans y3 b.size; clear c3; have kk := (R3.out.block _ S2).trans K2.out; have c4 := blk_cell kk 4;  clear O b kk P3 Y3 Q3r y3 O2 R2 z2)
      | fail)
    have N4 := Lib.hid (O3.out.alloc (.cells ([n, fl].map (fun x : Nat => Value.int .u8 (x : Nat))).toArray 5))
    have Y4 := Lib.hid (bts_new W3 [n, fl] 5 (by intro x hx; simp at hx; omega))
    have b4 := Lib.hid ((Below.refl V1.heap.size W3).alloc z3 (.cells ([n, fl].map (fun x : Nat => Value.int .u8 (x : Nat))).toArray 5))
    have hl4 : (A 3).length + ([n, fl] : List Nat).length ≤ 65535 := by have := HL.out.l 3 (by omega); simp; omega
    have el4 : A 3 ++ [n, fl] = A 4 := HL.out.e4
    go_upto_region 9 with (first
      | (at_builtin; refine wpList_append_toN rfl _ _ rfl V1.heap.size el4 rfl rfl N4.out Y4.out (fun h => by cases h) rfl rfl hl4 (Nat.le_trans z3 b4.out.size) ?_; intro a4 d4 W4 O b; have O4 := Lib.hid O; have R4 := Lib.hid (R3.out.trans (b4.out.trans b)); have z4 := Nat.le_trans (Nat.le_trans z3 b4.out.size) b.size; have kk := (R4.out.block _ S2).trans K2.out; clear c4; have c5 := blk_cell kk 5;  clear O b kk N4 Y4 b4 hl4 O3 R3 z3)
      | fail)
    go_upto_region 10 with (first
      | (go_at_call 28; with_reducible refine (oct2_slB wn _).mono ?_; rintro e U5 ⟨rfl, Y, b⟩; have P5 := Lib.hid (O4.out.below b); have Y5 := Lib.hid Y.bts; have Q5r := Lib.hid (R4.out.trans (b.mono R4.out.size)); have y5 := Nat.le_trans z4 b.size; clear Y b)
      | (at_builtin; refine wpList_append_toN rfl _ _ rfl V1.heap.size HL.out.e5 rfl (Mt.octs_length _ _).symm P5.out Y5.out (fun h => by cases h) rfl rfl (by rw [Mt.octs_length]; have := HL.out.l 4 (by omega); omega) y5 ?_; intro a5 d5 W5 O b; have O5 := Lib.hid O; have R5 := Lib.hid (Q5r.out.trans b); have z5 := Nat.le_trans y5 b.size; clear c5; have kk := (R5.out.block _ S2).trans K2.out;  clear O b kk P5 Y5 Q5r y5 O4 R4 z4)
      | fail)
    have N6 := Lib.hid (O5.out.alloc (.cells ([0, 0].map (fun x : Nat => Value.int .u8 (x : Nat))).toArray 5))
    have Y6 := Lib.hid (bts_new W5 [0, 0] 5 (by intro x hx; simp at hx; omega))
    have b6 := Lib.hid ((Below.refl V1.heap.size W5).alloc z5 (.cells ([0, 0].map (fun x : Nat => Value.int .u8 (x : Nat))).toArray 5))
    have hl6 : (A 5).length + ([0, 0] : List Nat).length ≤ 65535 := by have := HL.out.l 5 (by omega); simp; omega
    have el6 : A 5 ++ [0, 0] = A 6 := by rw [← HL.out.e6, octs_two 0 (by omega)]
    go_upto_region 11 with (first
      | (at_builtin; refine wpList_append_toN rfl _ _ rfl V1.heap.size el6 rfl rfl N6.out Y6.out (fun h => by cases h) rfl rfl hl6 (Nat.le_trans z5 b6.out.size) ?_; intro a6 d6 W6 O b; have O6 := Lib.hid O; have R6 := Lib.hid (R5.out.trans (b6.out.trans b)); have z6 := Nat.le_trans (Nat.le_trans z5 b6.out.size) b.size; have kk := (R6.out.block _ S2).trans K2.out;  have c6 := blk_cell kk 6;  clear O b kk N6 Y6 b6 hl6 O5 R5 z5)
      | fail)
    go_upto_region 12 with (first
      | (go_at_call 28; with_reducible refine (oct2_slB ur _).mono ?_; rintro e U7 ⟨rfl, Y, b⟩; have P7 := Lib.hid (O6.out.below b); have Y7 := Lib.hid Y.bts; have Q7r := Lib.hid (R6.out.trans (b.mono R6.out.size)); have y7 := Nat.le_trans z6 b.size; clear Y b)
      | (at_builtin; refine wpList_append_toN rfl _ _ rfl V1.heap.size HL.out.e7 rfl (Mt.octs_length _ _).symm P7.out Y7.out (fun h => by cases h) rfl rfl (by rw [Mt.octs_length]; have := HL.out.l 6 (by omega); omega) y7 ?_; intro a7 d7 W7 O b; have O7 := Lib.hid O; have R7 := Lib.hid (Q7r.out.trans b); have z7 := Nat.le_trans y7 b.size; clear c6; have kk := (R7.out.block _ S2).trans K2.out;  clear O b kk P7 Y7 Q7r y7 O6 R6 z6)
      | fail)
    go_cut [10] from 66 (fun (v : Value) wc => ∃ a c, v = .slice a (A 9).length c ∧ OwnSl V1.heap.size a (A 9) c wc ∧ Below V1.heap.size V1 wc)
    case first =>
      have RD := Lib.hid (R7.out.drew)
      have O8d := Lib.hid (O7.out.below (Below.refl W7.heap.size W7).drew)
      have L8 := Lib.hid (L1.out.1.below RD.out)
      have z8 := RD.out.size
      have cd15 := blk_cell ((RD.out.block _ S2).trans K2.out) 15
      refine wp_region_held_drew (S := fun W => W.cell? ⟨w.heap.size, 15, none⟩ = some (.slice da ds.length dc)) (by kernel_rfl) cd15 (fun hHeld => ?_)
      refine wpAnyH_take (i := 0) (oi := _) (v := ?_) rfl (by kernel_rfl) (by kernel_rfl) (by kernel_rfl) (fun _ _ _ h => h) (Or.inl ⟨by rfl, ?_⟩) (by assumption) ?_
      rotate_left
      · intro w hSw
        try dsimp only at hSw
        go_simp
        all_goals with_reducible rfl
      (try simp only [List.getElem_toArray]); (try simp only [List.getElem_cons_succ]); (try simp only [List.getElem_cons_zero]); try simp only [Act.put, List.setIfInBounds_toArray, List.set_cons_zero, List.set_cons_succ]
      refine wpAnyH_take (i := 1) (oi := _) (v := ?_) rfl (by kernel_rfl) (by kernel_rfl) (by kernel_rfl) (fun _ _ _ h => h) (Or.inl ⟨by rfl, ?_⟩) (by assumption) ?_
      rotate_left
      · intro w hSw
        try dsimp only at hSw
        go_simp
        all_goals with_reducible rfl
      (try simp only [List.getElem_toArray]); (try simp only [List.getElem_cons_succ]); (try simp only [List.getElem_cons_zero]); try simp only [Act.put, List.setIfInBounds_toArray, List.set_cons_zero, List.set_cons_succ]
      refine wpAnyH_take (i := 3) (oi := _) (v := ?_) rfl (by kernel_rfl) (by kernel_rfl) (by kernel_rfl) (fun _ _ _ h => h) (Or.inl ⟨by rfl, ?_⟩) (by assumption) ?_
      rotate_left
      · intro w hSw
        try dsimp only at hSw
        go_simp
        all_goals with_reducible rfl
      (try simp only [List.getElem_toArray]); (try simp only [List.getElem_cons_succ]); (try simp only [List.getElem_cons_zero]); try simp only [Act.put, List.setIfInBounds_toArray, List.set_cons_zero, List.set_cons_succ]
      refine wpAnyH_take (i := 4) (oi := _) (v := ?_) rfl (by kernel_rfl) (by kernel_rfl) (by kernel_rfl) (fun _ _ _ h => h) (Or.inl ⟨by rfl, ?_⟩) (by assumption) ?_
      rotate_left
      · intro w hSw
        try dsimp only at hSw
        go_simp
        all_goals with_reducible rfl
      (try simp only [List.getElem_toArray]); (try simp only [List.getElem_cons_succ]); (try simp only [List.getElem_cons_zero]); try simp only [Act.put, List.setIfInBounds_toArray, List.set_cons_zero, List.set_cons_succ]
      refine wpAnyH_ready (rs := [2]) (by kernel_rfl) (by simp) ?_
      refine (AllReadyH.cons (o := _) rfl (fun K hK => ?_) AllReadyH.nil)
      · refine step_append_to rfl (.tmp 66) (.tmp 67) rfl V1.heap.size HL.out.e8 rfl rfl O8d.out L8.out L1.out.2 (by rfl) (by rfl) (by have := HL.out.l 7 (by omega); have := hL2.out; omega) z8 ?_
        intro a8 d8 W8 O b
        have O8 := Lib.hid O
        have R8 := Lib.hid (RD.out.trans b)
        have z9 := Nat.le_trans z8 b.size
        have X8 := Lib.hid (X1.out.below R8.out)
        clear O b
        refine hK.out _ _ ?_ (fun hHeld => ?_)
        · exact blk_cell ((R8.out.block _ S2).trans K2.out) 15
        clear hK K
        (try simp only [List.getElem_toArray]); (try simp only [List.getElem_cons_succ]); (try simp only [List.getElem_cons_zero]); try simp only [Act.put, List.setIfInBounds_toArray, List.set_cons_zero, List.set_cons_succ]
        refine wpAnyH_ready (rs := [5]) (by kernel_rfl) (by simp) ?_
        refine (AllReadyH.cons (o := _) rfl (fun K hK => ?_) AllReadyH.nil)
        · refine step_append_to rfl (.tmp 68) (.tmp 70) rfl V1.heap.size HL.out.e9 rfl rfl O8.out X8.out HDN.out (by rfl) (by rfl) (by have := HL.out.l8; have := hL2.out; have := hN2.out; omega) z9 ?_
          intro a9 d9 W9 O b
          have O9 := Lib.hid O
          have R9 := Lib.hid (R8.out.trans b)
          clear O b
          refine hK.out _ _ ?_ (fun hHeld => ?_)
          · exact blk_cell ((R9.out.block _ S2).trans K2.out) 15
          clear hK K
          (try simp only [List.getElem_toArray]); (try simp only [List.getElem_cons_succ]); (try simp only [List.getElem_cons_zero]); try simp only [Act.put, List.setIfInBounds_toArray, List.set_cons_zero, List.set_cons_succ]
          refine wpAnyH_take (i := 6) (oi := _) (v := ?_) rfl (by kernel_rfl) (by kernel_rfl) (by kernel_rfl) (fun _ _ _ h => h) (Or.inl ⟨by rfl, ?_⟩) (by assumption) ?_
          rotate_left
          · intro w hSw
            try dsimp only at hSw
            go_simp
            all_goals with_reducible rfl
          (try simp only [List.getElem_toArray]); (try simp only [List.getElem_cons_succ]); (try simp only [List.getElem_cons_zero]); try simp only [Act.put, List.setIfInBounds_toArray, List.set_cons_zero, List.set_cons_succ]
          refine wpAnyH_done (by kernel_rfl) ?_ _
          go_wp2_with fail
          go_meet
          exact ⟨a9, d9, by first | rfl | (with_unfolding_all rfl), O9.out, R9.out⟩
    case rest =>
      clear O7 R7 z7
      obtain ⟨a9, d9, rfl, O, b⟩ := hcut
      have hl9 : (A 9).length = N := by have h := HL.out.l9; have := hL2.out; omega
      obtain ⟨g, rfl, hgB, hgl⟩ := O.isSome (by have := hN2.out; omega)
      have O9 := Lib.hid O
      have R9 := Lib.hid b
      have y16 : (16 : Int) < (N : Int) := by have := hN2.out; omega
      have y17 : (17 : Int) < (N : Int) := by have := hN2.out; omega
      have xC := HC.out.1
      have SM := Lib.hid (fun c => Hsum.out g c wc O.bts)
      rw [hl9]
      have HL9 := Lib.hid hl9
      clear O b hl9
      go_upto_region 14 with (first
        | (go_at_call 29; with_reducible refine (SM.out _).mono ?_; rintro e V10 ⟨rfl, b⟩; have O10 := Lib.hid (O9.out.below b); have R10 := Lib.hid (R9.out.trans (b.mono R9.out.size)); clear b)
        | fail)
      have c16 := O10.out.cellAt 16 (by rw [HL9.out]; omega)
      have f16 := O10.out.frozenAt 16
      have c17 := O10.out.cellAt 17 (by rw [HL9.out]; omega)
      have f17 := O10.out.frozenAt 17
      have C1 : ((C / 256 : Nat) : Int) = (C : Int) / 256 := by omega
      have C2 : ((C % 256 : Nat) : Int) = (C : Int) % 256 := by omega
      have HC1 := Lib.hid C1
      have HC2 := Lib.hid C2
      clear C1 C2
      go_upto_region 15 with fail
      have O11 := Lib.hid ((O10.out.store 16 (C / 256) (by omega)).store 17 (C % 256) (by omega))
      rw [H10.out, HC1.out, HC2.out] at O11
      have R11 := Lib.hid ((R10.out.setCell (p := ⟨g, 16, none⟩) hgB (.int .u8 ((C : Int) / 256))).setCell (p := ⟨g, 17, none⟩) hgB (.int .u8 ((C : Int) % 256)))
      have QF := Lib.hid (Q2.out.trans (R11.out.mono (Nat.le_of_lt S2)))
      have OF := Lib.hid (O11.out.mono (show w.heap.size + 1 ≤ V1.heap.size from S2))
      clear c16 f16 c17 f17
      generalize (V10.setCell ⟨g, 16, none⟩ (.int .u8 ((C : Int) / 256))).setCell ⟨g, 17, none⟩ (.int .u8 ((C : Int) % 256)) = VF at QF OF ⊢
      go_wp2
      go_ret2
      exact ⟨g, d9, rfl, OF.out, QF.out⟩

theorem rB_ok (sp dp sq ak fl wn ur mss : Nat) (hs : Bool) (sc : Nat) (sk : Bool) (ba : Option Addr) (bs : List (Nat × Nat)) (bc : Nat) (ht : Bool) (tv te : Nat) (da : Option Addr) (ds : List Nat) (dc : Nat) (src dst : Nat) (w : World) (hm : TcpMay mss hs sc sk bs ht tv te ds.length) (hsp : sp < 65536) (hdp : dp < 65536) (hsq : sq < 4294967296) (hak : ak < 4294967296) (hfl : fl < 256) (hwn : wn < 65536) (hur : ur < 65536) (htv : tv < 4294967296) (hte : te < 4294967296) (hsrc : src < 4294967296) (hdst : dst < 4294967296) (hx : Bts w da ds) (hdn : da = none → dc = 0) (hy : Blk w ba bs) :
    Calls Try.prog 9 #[.agg (tcpV sp dp sq ak fl wn ur mss hs sc sk ba bs.length bc ht tv te da ds.length dc), .int .u32 (src : Nat), .int .u32 (dst : Nat)] w fun e w' => ∃ g cap', e = .returned (.tuple #[.slice (some ⟨g, 0, none⟩) (20 + (laidO mss hs sc sk bs ht tv te).length + ds.length) cap', .int .i64 0]) ∧ OwnSl (w.heap.size + 1) (some ⟨g, 0, none⟩) (tcpO sp dp sq ak fl wn ur mss hs sc sk bs ht tv te ds src dst) cap' w' ∧ Below w.heap.size w w' := by
  have h0 := hm
  obtain ⟨h1, h2, h3, h4, h5, h6, h7⟩ := hm
  have hlt := tcpW_lt sp dp sq ak fl wn 0 ur mss hs sc sk bs ht tv te ds h6 hfl h2 h5 hx.1
  have hR := tcpSum_le _ hlt src dst hsrc hdst
  obtain ⟨A, hL, e9, e10⟩ := tc_lists sp dp sq ak ((20 + (laidO mss hs sc sk bs ht tv te).length) / 4 * 16) fl wn (65535 - tcpSum (tcpW sp dp sq ak fl wn 0 ur mss hs sc sk bs ht tv te ds) src dst) ur (laidO mss hs sc sk bs ht tv te) ds
  have h := rB_core sp dp sq ak fl wn ur mss hs sc sk ba bs bc ht tv te da ds dc src dst w (20 + (laidO mss hs sc sk bs ht tv te).length + ds.length) ((laidO mss hs sc sk bs ht tv te).length / 4) ((20 + (laidO mss hs sc sk bs ht tv te).length) / 4) ((20 + (laidO mss hs sc sk bs ht tv te).length) / 4 * 16) (65535 - tcpSum (tcpW sp dp sq ak fl wn 0 ur mss hs sc sk bs ht tv te ds) src dst) (tcpSum (tcpW sp dp sq ak fl wn 0 ur mss hs sc sk bs ht tv te ds) src dst) (laidO mss hs sc sk bs ht tv te) A hL (tc_sets e9 e10 (by omega)) h6 rfl (by omega) rfl (by omega) rfl rfl hR
    (fun W _ hb => rcheck_ok sp dp sq ak fl wn ur mss hs sc sk ba bs bc ht tv te da ds.length dc W htv hte hb ⟨h1, h2, h3, h4, h5, h6, by omega⟩)
    (fun W _ hb => roptions_any sp dp sq ak fl wn ur mss hs sc sk ba bs bc ht tv te da ds.length dc W h1 h2 htv hte h5 hb)
    (fun g c W hb => by
      have h := rwhole_any (some ⟨g, 0, none⟩) (A 9) c src dst W hb (by rw [hL.l9]; omega) hsrc hdst
      rw [show (A 9).length = 20 + (laidO mss hs sc sk bs ht tv te).length + ds.length from hL.l9, e9] at h
      exact h)
    hsp hdp hsq hak hfl hwn hur hx hdn hy
  rw [e10] at h
  exact h
end Go.Proofs.Ytgmgoilleakdcaa
