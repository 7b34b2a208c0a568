/- What tcpwire.Build gives of a segment that may be. -/
import Derived.Test.YtgmgoilleakdcaaTcpC
import Derived.Test.YtgmgoilleakdcaaGCopyB
import Derived.Deep.RegionHeld3
namespace Go.Proofs.Ytgmgoilleakdcaa
open Go.RowKit

/-- The head of a segment: C is what stands in the checksum's place. -/
def tcpHd (sp dp sq ak q fl wn C ur : Nat) : List Nat := Mt.octs sp 2 ++ Mt.octs dp 2 ++ Mt.octs sq 4 ++ Mt.octs ak 4 ++ [q, fl] ++ Mt.octs wn 2 ++ Mt.octs C 2 ++ Mt.octs ur 2

/-- What has been laid, step by step. -/
structure TcLists (sp dp sq ak q fl wn C ur : Nat) (L ds : List Nat) (A : Nat → List Nat) : Prop where
  e0 : [] ++ Mt.octs sp 2 = A 0
  e1 : A 0 ++ Mt.octs dp 2 = A 1
  e2 : A 1 ++ Mt.octs sq 4 = A 2
  e3 : A 2 ++ Mt.octs ak 4 = A 3
  e4 : A 3 ++ [q, fl] = A 4
  e5 : A 4 ++ Mt.octs wn 2 = A 5
  e6 : A 5 ++ Mt.octs 0 2 = A 6
  e7 : A 6 ++ Mt.octs ur 2 = A 7
  e8 : A 7 ++ L = A 8
  e9 : A 8 ++ ds = A 9
  e10 : splice (A 9) 16 (Mt.octs C 2) = A 10
  l : ∀ i, i < 8 → (A i).length ≤ 20
  l8 : (A 8).length = 20 + L.length
  l9 : (A 9).length = 20 + L.length + ds.length

theorem tc_lists (sp dp sq ak q fl wn C ur : Nat) (L ds : List Nat) : ∃ A, TcLists sp dp sq ak q fl wn C ur L ds A ∧ A 9 = tcpHd sp dp sq ak q fl wn 0 ur ++ L ++ ds ∧ A 10 = tcpHd sp dp sq ak q fl wn C ur ++ L ++ ds := by
  let A : Nat → List Nat := fun i => match i with
    | 0 => [] ++ Mt.octs sp 2
    | 1 => [] ++ Mt.octs sp 2 ++ Mt.octs dp 2
    | 2 => [] ++ Mt.octs sp 2 ++ Mt.octs dp 2 ++ Mt.octs sq 4
    | 3 => [] ++ Mt.octs sp 2 ++ Mt.octs dp 2 ++ Mt.octs sq 4 ++ Mt.octs ak 4
    | 4 => [] ++ Mt.octs sp 2 ++ Mt.octs dp 2 ++ Mt.octs sq 4 ++ Mt.octs ak 4 ++ [q, fl]
    | 5 => [] ++ Mt.octs sp 2 ++ Mt.octs dp 2 ++ Mt.octs sq 4 ++ Mt.octs ak 4 ++ [q, fl] ++ Mt.octs wn 2
    | 6 => [] ++ Mt.octs sp 2 ++ Mt.octs dp 2 ++ Mt.octs sq 4 ++ Mt.octs ak 4 ++ [q, fl] ++ Mt.octs wn 2 ++ Mt.octs 0 2
    | 7 => [] ++ Mt.octs sp 2 ++ Mt.octs dp 2 ++ Mt.octs sq 4 ++ Mt.octs ak 4 ++ [q, fl] ++ Mt.octs wn 2 ++ Mt.octs 0 2 ++ Mt.octs ur 2
    | 8 => [] ++ Mt.octs sp 2 ++ Mt.octs dp 2 ++ Mt.octs sq 4 ++ Mt.octs ak 4 ++ [q, fl] ++ Mt.octs wn 2 ++ Mt.octs 0 2 ++ Mt.octs ur 2 ++ L
    | 9 => [] ++ Mt.octs sp 2 ++ Mt.octs dp 2 ++ Mt.octs sq 4 ++ Mt.octs ak 4 ++ [q, fl] ++ Mt.octs wn 2 ++ Mt.octs 0 2 ++ Mt.octs ur 2 ++ L ++ ds
    | _ => splice ([] ++ Mt.octs sp 2 ++ Mt.octs dp 2 ++ Mt.octs sq 4 ++ Mt.octs ak 4 ++ [q, fl] ++ Mt.octs wn 2 ++ Mt.octs 0 2 ++ Mt.octs ur 2 ++ L ++ ds) 16 (Mt.octs C 2)
  refine ⟨A, ⟨rfl, rfl, rfl, rfl, rfl, rfl, rfl, rfl, rfl, rfl, rfl, ?_, ?_, ?_⟩, ?_, ?_⟩
  · intro i hi
    obtain rfl | rfl | rfl | rfl | rfl | rfl | rfl | rfl : i = 0 ∨ i = 1 ∨ i = 2 ∨ i = 3 ∨ i = 4 ∨ i = 5 ∨ i = 6 ∨ i = 7 := by omega
    all_goals
      show List.length (_ ++ _) ≤ 20
      simp [Mt.octs_length]
  · show List.length (_ ++ _) = _
    simp [Mt.octs_length]; omega
  · show List.length (_ ++ _) = _
    simp [Mt.octs_length]; omega
  · show _ ++ _ = _
    simp [tcpHd]
  · show splice _ _ _ = _
    have h := splice_app (Mt.octs sp 2 ++ Mt.octs dp 2 ++ Mt.octs sq 4 ++ Mt.octs ak 4 ++ [q, fl] ++ Mt.octs wn 2) (Mt.octs 0 2 ++ (Mt.octs ur 2 ++ L ++ ds)) (Mt.octs C 2) 16 (by simp [Mt.octs_length])
    have hd : (Mt.octs 0 2 ++ (Mt.octs ur 2 ++ L ++ ds)).drop (Mt.octs C 2).length = Mt.octs ur 2 ++ L ++ ds := by
      have e : (Mt.octs C 2).length = (Mt.octs 0 2).length := by rw [Mt.octs_length, Mt.octs_length]
      rw [e, List.drop_left]
    rw [hd] at h
    simp only [tcpHd, List.nil_append, List.append_assoc] at h ⊢
    exact h

theorem put_to (B cap n k : Nat) (a : Option Addr) (xs ys : List Nat) (w : World) (e : xs ++ Mt.octs n k = ys) (O : OwnSl B a xs cap w) (hlo : 1 ≤ k) (hhi : k ≤ 8) (hn : n < 18446744073709551616) (hnk : n < 256 ^ k) (hB : B ≤ w.heap.size) (hl : xs.length ≤ 20) :
    Calls Try.prog 25 #[.slice a xs.length cap, .int .u64 n, .int .i64 k] w fun e w' => ∃ a' cap', e = .returned (.slice a' ys.length cap') ∧ OwnSl B a' ys cap' w' ∧ Below B w w' := by
  subst e
  exact puts_tcpwire B cap n k a xs w O hlo hhi hn hnk hB (by omega)

theorem wpList_append_to {w : World} {ops : Array Oper} {rest : List Oper} {o : Oper} {act : Act} {Q : Exit → Act → World → Prop} (hgd : o.guard = none) (s x : Operand)
    (ho : o.op = .call { callee := .builtin .append, args := #[s, x], argTypes := #[25, 25] }) (B : Nat) {a b : Option Addr} {xs ys zs : List Nat} {cap dap : Nat} (e : xs ++ ys = zs)
    (O : OwnSl B a xs cap w) (Y : Bts w b ys) (hd : b = none → dap = 0) (hs : act.eval s = .slice a xs.length cap) (hx : act.eval x = .slice b ys.length dap)
    (hlen : xs.length + ys.length ≤ 65535) (hB : B ≤ w.heap.size)
    (h : ∀ a' cap' w', OwnSl B a' zs cap' w' → Below B w w' → wpList Try.prog ops Q rest (act.put o.dst (.slice a' zs.length cap')) w') : wpList Try.prog ops Q (o :: rest) act w := by
  subst e
  exact wpList_append_bts hgd s x ho B O Y hd hs hx (by omega) hB h

set_option maxRecDepth 100000 in
set_option maxHeartbeats 8000000 in
theorem tcpB_core (sp dp sq ak fl wn ur mss : Nat) (hs : Bool) (sc : Nat) (sk : Bool) (ba : Option Addr) (bs : List (Nat × Nat)) (bc : Nat) (ht : Bool) (tv te : Nat) (da : Option Addr) (ds : List Nat) (dc : Nat) (src dst : Nat) (w : World) (H N q n C R : Nat) (L : List Nat) (A : Nat → List Nat) (hL : TcLists sp dp sq ak n fl wn C ur L ds A) (hH : H = 20 + L.length) (hN : N = H + ds.length) (hNu : N ≤ 65535) (hHu : H ≤ 60) (hq : H / 4 = q) (hn : n = q * 16) (hC : C = 65535 - R) (hR : R ≤ 65535)
    (hck : ∀ W, Bts W da ds → Blk W ba bs → Calls Try.prog 15 #[.agg (tcpV sp dp sq ak fl wn ur mss hs sc sk ba bs.length bc ht tv te da ds.length dc)] W fun e w' => e = .returned (.int .i64 0) ∧ Below W.heap.size W w')
    (hop : ∀ W, Bts W da ds → Blk W ba bs → Calls Try.prog 24 #[.agg (tcpV sp dp sq ak fl wn ur mss hs sc sk ba bs.length bc ht tv te da ds.length dc)] W fun e w' => (∃ a cap, e = .returned (.slice a L.length cap) ∧ OwnSl (W.heap.size + 1) a L cap w') ∧ Below W.heap.size W w')
    (hsum : ∀ g c W, Bts W (some ⟨g, 0, none⟩) (A 9) → Calls Try.prog 26 #[.slice (some ⟨g, 0, none⟩) (A 9).length c, .int .u32 src, .int .u32 dst] W fun e W' => e = .returned (.int .u16 (R : Nat)) ∧ Below W.heap.size W W')
    (hsp : sp < 65536) (hdp : dp < 65536) (hsq : sq < 4294967296) (hak : ak < 4294967296) (hfl : fl < 256) (hwn : wn < 65536) (hur : ur < 65536) (hx : Bts w da ds) (hdn : da = none → dc = 0) (hy : Blk w ba bs) :
    Calls Try.prog 8 #[.agg (tcpV sp dp sq ak fl wn ur mss hs sc sk ba bs.length bc ht tv te da ds.length dc), .int .u32 src, .int .u32 dst] w fun e w' => ∃ g cap', e = .returned (.tuple #[.slice (some ⟨g, 0, none⟩) N cap', .int .i64 0]) ∧ OwnSl (w.heap.size + 1) (some ⟨g, 0, none⟩) (A 10) cap' w' ∧ Below w.heap.size w w' := by
  have HL := Lib.hid hL
  have Hck := Lib.hid hck
  have Hop := Lib.hid hop
  have Hsum := Lib.hid hsum
  have X0 := Lib.hid hx
  have Y0 := Lib.hid hy
  have HC := Lib.hid hC
  have HDN := Lib.hid hdn
  have HH := Lib.hid (And.intro hH hN)
  have xH : (L.length : Int) + 20 = ((H : Nat) : Int) := by omega
  have xH' : (20 : Int) + (L.length : Int) = ((H : Nat) : Int) := by omega
  have xN : (H : Int) + (ds.length : Int) = ((N : Nat) : Int) := by omega
  have XH := Lib.hid (And.intro xH (And.intro xH' xN))
  have xq : (H : Int) / 4 = (q : Int) := by omega
  have xq8 : IntKind.u8.wrap (q : Int) = (q : Int) := IntWalk.u8_in _ (by omega)
  have q16 : q < 16 := by omega
  have xn : (q : Int) * 16 = (n : Int) := by omega
  have xn8 : IntKind.u8.wrap (n : Int) = (n : Int) := IntWalk.u8_in _ (by omega)
  have xsp : IntKind.u64.wrap (sp : Int) = (sp : Int) := IntWalk.u64_in _ (by omega)
  have xdp : IntKind.u64.wrap (dp : Int) = (dp : Int) := IntWalk.u64_in _ (by omega)
  have xsq : IntKind.u64.wrap (sq : Int) = (sq : Int) := IntWalk.u64_in _ (by omega)
  have xak : IntKind.u64.wrap (ak : Int) = (ak : Int) := IntWalk.u64_in _ (by omega)
  have xwn : IntKind.u64.wrap (wn : Int) = (wn : Int) := IntWalk.u64_in _ (by omega)
  have xur : IntKind.u64.wrap (ur : Int) = (ur : Int) := IntWalk.u64_in _ (by omega)
  have xC : IntKind.u64.wrap (C : Int) = (C : Int) := IntWalk.u64_in _ (by omega)
  have xr := xor_full R hR
  rw [← hC] at xr
  have b2 : ∀ v : Nat, v < 65536 → v < 18446744073709551616 ∧ v < 256 ^ 2 := fun v h => ⟨by omega, by simpa using h⟩
  have b4 : ∀ v : Nat, v < 4294967296 → v < 18446744073709551616 ∧ v < 256 ^ 4 := fun v h => ⟨by omega, by simpa using h⟩
  have psp := Lib.hid (b2 sp hsp)
  have pdp := Lib.hid (b2 dp hdp)
  have psq := Lib.hid (b4 sq hsq)
  have pak := Lib.hid (b4 ak hak)
  have pwn := Lib.hid (b2 wn hwn)
  have pur := Lib.hid (b2 ur hur)
  have pC := Lib.hid (b2 C (by omega))
  have p0 := Lib.hid (b2 0 (by omega))
  have n256 : n < 256 := by omega
  have i16 : (16 : Int) ≤ (N : Int) := by omega
  have z16 : ¬ N = 16 := by omega
  have hN2 := Lib.hid (show 20 ≤ N ∧ N ≤ 65535 by omega)
  have hL2 := Lib.hid (show 20 + L.length ≤ N ∧ 20 + L.length + ds.length = N by omega)
  clear b2 b4 hdn hL hck hop hsum hx hy hH hN hq hn hC xH xH' xN hR
  have bn := blk_new w (.cells (tcpV sp dp sq ak fl wn ur mss hs sc sk ba bs.length bc ht tv te da ds.length dc) 27)
  have hsz : (w.alloc (.cells (tcpV sp dp sq ak fl wn ur mss hs sc sk ba bs.length bc ht tv te da ds.length dc) 27)).heap.size = w.heap.size + 1 := by rw [World.size_alloc]
  have bw := (Below.refl _ w).alloc (Nat.le_refl _) (.cells (tcpV sp dp sq ak fl wn ur mss hs sc sk ba bs.length bc ht tv te da ds.length dc) 27)
  obtain ⟨i0, hi, hz0, hz1, hz2⟩ := info_parts info5
  have Hz := Lib.hid hz2
  have KC := Lib.hid (Hck.out _ (X0.out.below bw) (Y0.out.below bw))
  have K0 := Lib.hid bn
  have HS := Lib.hid hsz
  have Q0 := Lib.hid bw
  have ne1 : w.heap.size + 1 ≠ w.heap.size := by omega
  have ne2 : w.heap.size ≠ w.heap.size + 1 := by omega
  clear bn hsz bw Hck
  unfold tcpV at *
  go_enter Try.func8, Try.ntmps8
  go_wp2_with fail
  refine KC.out.mono ?_
  rintro e V0 ⟨rfl, b0⟩
  have k := (b0.block w.heap.size (by rw [HS.out]; exact Nat.lt_succ_self _)).trans K0.out
  have K1 := Lib.hid k
  have Q1 := Lib.hid (Q0.out.trans (b0.mono Q0.out.size))
  have S1 : w.heap.size + 1 ≤ V0.heap.size := by have h := b0.size; rw [HS.out] at h; exact h
  have c0 := blk_cell k 0
  have c1 := blk_cell k 1
  have c2 := blk_cell k 2
  have c3 := blk_cell k 3
  have c4 := blk_cell k 4
  have c5 := blk_cell k 5
  have c6 := blk_cell k 6
  have c7 := blk_cell k 7
  have c8 := blk_cell k 8
  have c9 := blk_cell k 9
  have c10 := blk_cell k 10
  have c11 := blk_cell k 11
  have c12 := blk_cell k 12
  have c13 := blk_cell k 13
  have c14 := blk_cell k 14
  have c15 := blk_cell k 15
  have KO := Lib.hid (Hop.out V0 (X0.out.below Q1.out) (Y0.out.below Q1.out))
  clear k b0 Q0 K0 HS KC
  go_wp2_with fail
  refine KO.out.mono ?_
  rintro e V1 ⟨⟨la, lc, rfl, OL⟩, b⟩
  have hw0 : w.heap.size < V0.heap.size := by omega
  have K2 := Lib.hid ((b.block w.heap.size hw0).trans K1.out)
  have Q2 := Lib.hid (Q1.out.trans (b.mono (Nat.le_of_lt hw0)))
  have S2 : w.heap.size < V1.heap.size := Nat.lt_of_lt_of_le hw0 b.size
  have X1 := Lib.hid (X0.out.below Q2.out)
  have L1 := Lib.hid (And.intro OL.bts OL.nilcap)
  have xH := XH.out.1
  have xH' := XH.out.2.1
  have xN := XH.out.2.2
  have c15' := blk_cell K2.out 15
  have lA0 : ([] : List Nat).length ≤ 20 := by simp
  clear c0 c1 c2 c3 c4 c5 c6 c7 c8 c9 c10 c11 c12 c13 c14 c15 b OL KO K1 Q1 S1 hw0
  go_wp2_with (at_make; refine wpList_make_own _ rfl _ _ 25 rfl V1.heap.size 5 i0 (.int .u8 0) 1 Try.underlying25 hi hz0 hz1 .i64 .i64 _ N rfl rfl (by first | rfl | omega) (by rw [Hz.out]; have := hN2.out; omega) (by unfold maxLen; have := hN2.out; omega) (Nat.le_refl _) ?_; intro V2 hown hgrow; have b := (Below.refl V1.heap.size _).grown hgrow (Nat.le_refl _) (fun k e => by cases e); have O0 : Hid (OwnSl V1.heap.size (some ⟨V1.heap.size, 0, none⟩) [] N V2) := Lib.hid ⟨(fun x h => by cases h), .inr ⟨V1.heap.size, rfl, Nat.le_refl _, hown⟩⟩; have R2 := Lib.hid b; have c0 := blk_cell ((b.block _ S2).trans K2.out) 0; have z2 := b.size; clear b hown hgrow c15')
  refine (put_to V1.heap.size N sp 2 (some ⟨V1.heap.size, 0, none⟩) [] (A 0) V2 HL.out.e0 O0.out (by omega) (by omega) psp.out.1 psp.out.2 z2 lA0).mono ?_
  rintro e V3 ⟨a1, d1, rfl, O, b⟩
  have O1 := Lib.hid O
  have R3 := Lib.hid (R2.out.trans b)
  have z3 := Nat.le_trans z2 b.size
  clear O b O0 R2 c0
  have c1 := blk_cell ((R3.out.block _ S2).trans K2.out) 1
  go_wp2_with fail
  refine (put_to V1.heap.size d1 dp 2 a1 (A 0) (A 1) V3 HL.out.e1 O1.out (by omega) (by omega) pdp.out.1 pdp.out.2 z3 (HL.out.l 0 (by omega))).mono ?_
  rintro e V4 ⟨a2, d2, rfl, O, b⟩
  have O2 := Lib.hid O
  have R4 := Lib.hid (R3.out.trans b)
  have z4 := Nat.le_trans z3 b.size
  clear O b O1 R3 c1
  have c2 := blk_cell ((R4.out.block _ S2).trans K2.out) 2
  go_wp2_with fail
  refine (put_to V1.heap.size d2 sq 4 a2 (A 1) (A 2) V4 HL.out.e2 O2.out (by omega) (by omega) psq.out.1 psq.out.2 z4 (HL.out.l 1 (by omega))).mono ?_
  rintro e V5 ⟨a3, d3, rfl, O, b⟩
  have O3 := Lib.hid O
  have R5 := Lib.hid (R4.out.trans b)
  have z5 := Nat.le_trans z4 b.size
  clear O b O2 R4 c2
  have c3 := blk_cell ((R5.out.block _ S2).trans K2.out) 3
  go_wp2_with fail
  refine (put_to V1.heap.size d3 ak 4 a3 (A 2) (A 3) V5 HL.out.e3 O3.out (by omega) (by omega) pak.out.1 pak.out.2 z5 (HL.out.l 2 (by omega))).mono ?_
  rintro e V6 ⟨a4, d4, rfl, O, b⟩
  have O4 := Lib.hid O
  have R6 := Lib.hid (R5.out.trans b)
  have z6 := Nat.le_trans z5 b.size
  clear O b O3 R5 c3
  have c4 := blk_cell ((R6.out.block _ S2).trans K2.out) 4
  have Y6 := Lib.hid (bts_new V6 [n, fl] 5 (by intro x hx; simp at hx; omega))
  have N6 := Lib.hid (O4.out.alloc (.cells ([n, fl].map (fun x : Nat => Value.int .u8 (x : Nat))).toArray 5))
  have ba6 := Lib.hid ((Below.refl V1.heap.size V6).alloc z6 (.cells ([n, fl].map (fun x : Nat => Value.int .u8 (x : Nat))).toArray 5))
  have hl6 : (A 3).length + [n, fl].length ≤ 65535 := by have := HL.out.l 3 (by omega); simp; omega
  clear O4
  go_wp2_with (at_builtin; refine wpList_append_to rfl _ _ rfl V1.heap.size HL.out.e4 N6.out Y6.out (fun h => by cases h) rfl rfl hl6 (Nat.le_trans z6 ba6.out.size) ?_; intro a5 d5 V7 O b; have O5 := Lib.hid O; have R7 := Lib.hid (R6.out.trans (ba6.out.trans b)); have z7 := Nat.le_trans (Nat.le_trans z6 ba6.out.size) b.size; have c5 := blk_cell ((R7.out.block _ S2).trans K2.out) 5; clear O b c4 N6 Y6 ba6 R6 z6 hl6)
  refine (put_to V1.heap.size d5 wn 2 a5 (A 4) (A 5) V7 HL.out.e5 O5.out (by omega) (by omega) pwn.out.1 pwn.out.2 z7 (HL.out.l 4 (by omega))).mono ?_
  rintro e V8 ⟨a6, d6, rfl, O, b⟩
  have O6 := Lib.hid O
  have R8 := Lib.hid (R7.out.trans b)
  have z8 := Nat.le_trans z7 b.size
  clear O b O5 R7 c5
  have c6 := blk_cell ((R8.out.block _ S2).trans K2.out) 6
  go_wp2_with fail
  refine (put_to V1.heap.size d6 0 2 a6 (A 5) (A 6) V8 HL.out.e6 O6.out (by omega) (by omega) p0.out.1 p0.out.2 z8 (HL.out.l 5 (by omega))).mono ?_
  rintro e V9 ⟨a7, d7, rfl, O, b⟩
  have O7 := Lib.hid O
  have R9 := Lib.hid (R8.out.trans b)
  have z9 := Nat.le_trans z8 b.size
  clear O b O6 R8 c6
  have c6 := blk_cell ((R9.out.block _ S2).trans K2.out) 6
  go_wp2_with fail
  refine (put_to V1.heap.size d7 ur 2 a7 (A 6) (A 7) V9 HL.out.e7 O7.out (by omega) (by omega) pur.out.1 pur.out.2 z9 (HL.out.l 6 (by omega))).mono ?_
  rintro e V10 ⟨a8, d8, rfl, O, b⟩
  have O8 := Lib.hid O
  have R10 := Lib.hid (R9.out.trans b)
  have z10 := Nat.le_trans z9 b.size
  clear O b O7 R9 c6
  have c15 := blk_cell ((R10.out.block _ S2).trans K2.out) 15
  have LL := Lib.hid (L1.out.1.below (Below.refl _ _))
  have L10 := Lib.hid (show Bts V10 la L from L1.out.1.below R10.out)
  have hl10 : (A 7).length + L.length ≤ 65535 := by have := HL.out.l 7 (by omega); have := hL2.out; have := hN2.out; omega
  have hl11 : (A 8).length + ds.length ≤ 65535 := by have h := HL.out.l8; have := hL2.out; have := hN2.out; omega
  go_wp2_with (first | (at_builtin; refine wpList_append_to rfl (.tmp 69) (.tmp 70) rfl V1.heap.size HL.out.e8 O8.out L10.out L1.out.2 rfl rfl hl10 z10 ?_; intro a9 d9 V11 O b; have O9 := Lib.hid O; have R11 := Lib.hid (R10.out.trans b); have z11 := Nat.le_trans z10 b.size; have c15' := blk_cell ((R11.out.block _ S2).trans K2.out) 15; have X11 := Lib.hid (X1.out.below R11.out); clear O b c15 O8 R10 z10 hl10 L10) | (at_builtin; refine wpList_append_to rfl (.tmp 72) (.tmp 74) rfl V1.heap.size HL.out.e9 O9.out X11.out HDN.out rfl rfl hl11 z11 ?_; intro a10 d10 V12 O b; have hl9 : (A 9).length = N := (by have h := HL.out.l9; have := hL2.out; omega); obtain ⟨g, hg, hgB, hgl⟩ := O.isSome (by have := hN2.out; omega); subst hg; have O10 := Lib.hid O; have R12 := Lib.hid (R11.out.trans b); have z12 := Nat.le_trans z11 b.size; have hcap := O.capLe; rw [hl9] at hcap; obtain ⟨hca, hcb⟩ := hcap; unfold maxLen at hcb; have i16d : (16 : Int) ≤ (d10 : Int) := (by omega); clear O b c15' O9 R11 z11 hl11 X11))
  have hs2 : Hid (∀ c W, Bts W (some ⟨g, 0, none⟩) (A 9) → Calls Try.prog 26 #[.slice (some ⟨g, 0, none⟩) N c, .int .u32 src, .int .u32 dst] W fun e W' => e = .returned (.int .u16 (R : Nat)) ∧ Below W.heap.size W W') := Lib.hid (fun c W h => hl9 ▸ Hsum.out g c W h)
  obtain ⟨cs, hcs⟩ : ∃ cs, Mt.octs C 2 = cs := ⟨_, rfl⟩
  have he10 := HL.out.e10
  rw [hcs] at he10
  have hcl : cs.length = 2 := by rw [← hcs, Mt.octs_length]
  have HE := Lib.hid he10
  have xe : IntKind.u64.wrap (bits .xor .u16 (if IntKind.u16.signed = true then -1 else IntKind.u16.max) (R : Int)) = (C : Int) := by rw [if_neg (by decide), xr, xC]
  have hp2 : Hid (∀ W, Calls Try.prog 25 #[.slice none 0 0, .int .u64 (IntKind.u64.wrap (bits .xor .u16 (if IntKind.u16.signed = true then -1 else IntKind.u16.max) (R : Int))), .int .i64 2] W fun e w' => ∃ a cap', e = .returned (.slice a 2 cap') ∧ OwnSl W.heap.size a cs cap' w' ∧ Below W.heap.size W w') := Lib.hid (fun W => xe.symm ▸ hcl ▸ put_to W.heap.size 0 C 2 none [] cs W (by rw [List.nil_append]; exact hcs) (own_nil _ _) (by omega) (by omega) pC.out.1 pC.out.2 (Nat.le_refl _) (by simp))
  have hle : cs.length ≤ N - 16 := by rw [hcl]; have := hN2.out; omega
  have hfit : 16 + cs.length ≤ (A 9).length := by rw [hcl, hl9]; have := hN2.out; omega
  have D12 := Lib.hid (O10.out.below (Below.refl V12.heap.size V12).drew)
  have RD := Lib.hid (R12.out.drew)
  have hcl2 := Lib.hid hcl.symm
  have HB := Lib.hid D12.out.bts
  clear hcl he10 hcs O10 R12 xe
  go_region_held3 (fun _ => True) (first | trivial | go_keep) (first
    | (go_at_call 26; (with_reducible refine (hs2.out _ _ HB.out).mono ?_); rintro e V13 ⟨rfl, b⟩; have O11 := Lib.hid (D12.out.below b); have R13 := Lib.hid (RD.out.trans (b.mono RD.out.size)); clear b)
    | (go_at_call 25; (with_reducible refine (hp2.out _).mono ?_); rintro e V14 ⟨pa, pc, rfl, P, b⟩; have O12 := Lib.hid (O11.out.below b); have R14 := Lib.hid (R13.out.trans (b.mono R13.out.size)); have HP := Lib.hid P.bts; clear b P)
    | (refine step_copy_bts rfl _ _ rfl V1.heap.size g 16 _ _ _ rfl rfl hcl2.out hle O12.out HP.out (fun _ => rfl) hfit ?_; intro V15 O gg; have b := O12.out.belowOf gg; rw [HE.out] at O; have O13 := Lib.hid (O.mono (show w.heap.size + 1 ≤ V1.heap.size from S2)); have R15 := Lib.hid (Q2.out.trans ((R14.out.trans b).mono (Nat.le_of_lt S2))); clear b O gg))
  go_wp2
  go_ret2
  exact ⟨_, _, rfl, O13.out, R15.out⟩
theorem tcpHd_len (sp dp sq ak q fl wn C ur : Nat) : (tcpHd sp dp sq ak q fl wn C ur).length = 20 := by simp [tcpHd, Mt.octs_length]

theorem tcpHd_lt (sp dp sq ak q fl wn C ur : Nat) (hq : q < 256) (hf : fl < 256) : ∀ x ∈ tcpHd sp dp sq ak q fl wn C ur, x < 256 := by
  intro x hx
  simp only [tcpHd, List.mem_append, List.mem_cons, List.not_mem_nil, or_false] at hx
  rcases hx with ((((((h | h) | h) | h) | h) | h) | h) | h
  · exact octs_lt _ _ x h
  · exact octs_lt _ _ x h
  · exact octs_lt _ _ x h
  · exact octs_lt _ _ x h
  · omega
  · exact octs_lt _ _ x h
  · exact octs_lt _ _ x h
  · exact octs_lt _ _ x h

/-- The octets of a segment with C in the checksum's place. -/
def tcpW (sp dp sq ak fl wn C ur mss : Nat) (hs : Bool) (sc : Nat) (sk : Bool) (bs : List (Nat × Nat)) (ht : Bool) (tv te : Nat) (ds : List Nat) : List Nat :=
  tcpHd sp dp sq ak ((20 + (laidO mss hs sc sk bs ht tv te).length) / 4 * 16) fl wn C ur ++ laidO mss hs sc sk bs ht tv te ++ ds

/-- The octets of a segment, its checksum among them. -/
def tcpO (sp dp sq ak fl wn ur mss : Nat) (hs : Bool) (sc : Nat) (sk : Bool) (bs : List (Nat × Nat)) (ht : Bool) (tv te : Nat) (ds : List Nat) (src dst : Nat) : List Nat :=
  tcpW sp dp sq ak fl wn (65535 - tcpSum (tcpW sp dp sq ak fl wn 0 ur mss hs sc sk bs ht tv te ds) src dst) ur mss hs sc sk bs ht tv te ds

theorem oBlks_lt (bs : List (Nat × Nat)) : ∀ x ∈ (bs.map oBlk).flatten, x < 256 := by
  intro x hx
  obtain ⟨l, hl, hx⟩ := List.mem_flatten.1 hx
  obtain ⟨p, _, rfl⟩ := List.mem_map.1 hl
  rcases List.mem_append.1 hx with h | h <;> exact octs_lt _ _ x h

theorem laidO_lt (mss : Nat) (hs : Bool) (sc : Nat) (sk : Bool) (bs : List (Nat × Nat)) (ht : Bool) (tv te : Nat) (hsc : sc < 256) (hb : bs.length ≤ 4) : ∀ x ∈ laidO mss hs sc sk bs ht tv te, x < 256 := by
  intro x hx
  simp only [laidO, List.mem_append] at hx
  rcases hx with ((((h | h) | h) | h) | h) | h
  · unfold oMss at h; split at h
    · cases h
    · rcases List.mem_append.1 h with h | h
      · simp at h; omega
      · exact octs_lt _ _ x h
  · unfold oScale at h; split at h
    · simp at h; omega
    · cases h
  · unfold oSok at h; split at h
    · simp at h; omega
    · cases h
  · unfold oTs at h; split at h
    · rcases List.mem_append.1 h with h | h
      · rcases List.mem_append.1 h with h | h
        · simp at h; omega
        · exact octs_lt _ _ x h
      · exact octs_lt _ _ x h
    · cases h
  · unfold oHead at h; split at h
    · cases h
    · simp at h; omega
  · exact oBlks_lt bs x h

theorem tcpW_lt (sp dp sq ak fl wn C ur mss : Nat) (hs : Bool) (sc : Nat) (sk : Bool) (bs : List (Nat × Nat)) (ht : Bool) (tv te : Nat) (ds : List Nat) (hl : (laidO mss hs sc sk bs ht tv te).length ≤ 40) (hf : fl < 256) (hsc : sc < 256) (hb : bs.length ≤ 4) (hd : ∀ x ∈ ds, x < 256) : ∀ x ∈ tcpW sp dp sq ak fl wn C ur mss hs sc sk bs ht tv te ds, x < 256 := by
  intro x hx
  simp only [tcpW, List.mem_append] at hx
  rcases hx with (h | h) | h
  · exact tcpHd_lt _ _ _ _ _ _ _ _ _ (by omega) hf x h
  · exact laidO_lt _ _ _ _ _ _ _ _ hsc hb x h
  · exact hd x h

theorem tcpW_len (sp dp sq ak fl wn C ur mss : Nat) (hs : Bool) (sc : Nat) (sk : Bool) (bs : List (Nat × Nat)) (ht : Bool) (tv te : Nat) (ds : List Nat) : (tcpW sp dp sq ak fl wn C ur mss hs sc sk bs ht tv te ds).length = 20 + (laidO mss hs sc sk bs ht tv te).length + ds.length := by
  simp only [tcpW, List.length_append, tcpHd_len]

theorem tcpB_ok (sp dp sq ak fl wn ur mss : Nat) (hs : Bool) (sc : Nat) (sk : Bool) (ba : Option Addr) (bs : List (Nat × Nat)) (bc : Nat) (ht : Bool) (tv te : Nat) (da : Option Addr) (ds : List Nat) (dc : Nat) (src dst : Nat) (w : World) (hm : TcpMay mss hs sc sk bs ht tv te ds.length) (hsp : sp < 65536) (hdp : dp < 65536) (hsq : sq < 4294967296) (hak : ak < 4294967296) (hfl : fl < 256) (hwn : wn < 65536) (hur : ur < 65536) (htv : tv < 4294967296) (hte : te < 4294967296) (hsrc : src < 4294967296) (hdst : dst < 4294967296) (hx : Bts w da ds) (hdn : da = none → dc = 0) (hy : Blk w ba bs) :
    Calls Try.prog 8 #[.agg (tcpV sp dp sq ak fl wn ur mss hs sc sk ba bs.length bc ht tv te da ds.length dc), .int .u32 src, .int .u32 dst] w fun e w' => ∃ g cap', e = .returned (.tuple #[.slice (some ⟨g, 0, none⟩) (20 + (laidO mss hs sc sk bs ht tv te).length + ds.length) cap', .int .i64 0]) ∧ OwnSl (w.heap.size + 1) (some ⟨g, 0, none⟩) (tcpO sp dp sq ak fl wn ur mss hs sc sk bs ht tv te ds src dst) cap' w' ∧ Below w.heap.size w w' := by
  have h0 := hm
  obtain ⟨h1, h2, h3, h4, h5, h6, h7⟩ := hm
  have hlt := tcpW_lt sp dp sq ak fl wn 0 ur mss hs sc sk bs ht tv te ds h6 hfl h2 h5 hx.1
  have hR := tcpSum_le _ hlt src dst hsrc hdst
  obtain ⟨A, hL, e9, e10⟩ := tc_lists sp dp sq ak ((20 + (laidO mss hs sc sk bs ht tv te).length) / 4 * 16) fl wn (65535 - tcpSum (tcpW sp dp sq ak fl wn 0 ur mss hs sc sk bs ht tv te ds) src dst) ur (laidO mss hs sc sk bs ht tv te) ds
  have h := tcpB_core sp dp sq ak fl wn ur mss hs sc sk ba bs bc ht tv te da ds dc src dst w (20 + (laidO mss hs sc sk bs ht tv te).length) (20 + (laidO mss hs sc sk bs ht tv te).length + ds.length) ((20 + (laidO mss hs sc sk bs ht tv te).length) / 4) ((20 + (laidO mss hs sc sk bs ht tv te).length) / 4 * 16) (65535 - tcpSum (tcpW sp dp sq ak fl wn 0 ur mss hs sc sk bs ht tv te ds) src dst) (tcpSum (tcpW sp dp sq ak fl wn 0 ur mss hs sc sk bs ht tv te ds) src dst) (laidO mss hs sc sk bs ht tv te) A hL rfl rfl (by omega) (by omega) rfl rfl rfl hR
    (fun W _ hb => tcheck_ok sp dp sq ak fl wn ur mss hs sc sk ba bs bc ht tv te da ds.length dc W htv hte hb h0)
    (fun W _ hb => options_any sp dp sq ak fl wn ur mss hs sc sk ba bs bc ht tv te da ds.length dc W h1 h2 htv hte h5 hb)
    (fun g c W hb => by
      have h := tsum_any (some ⟨g, 0, none⟩) (A 9) c src dst W hb (by rw [hL.l9]; omega) hsrc hdst
      rw [e9] at h ⊢
      exact h)
    hsp hdp hsq hak hfl hwn hur hx hdn hy
  rw [e10] at h
  exact h
end Go.Proofs.Ytgmgoilleakdcaa
