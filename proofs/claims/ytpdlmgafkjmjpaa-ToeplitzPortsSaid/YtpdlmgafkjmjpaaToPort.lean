/- The port that is chosen for a shard. -/
import Derived.Test.YtpdlmgafkjmjpaaToPortA
namespace Go.Proofs.Ytpdlmgafkjmjpaa
open Go.RowKit Go.Shelf

attribute [local go_sem] Oper.semAt_some

set_option maxRecDepth 100000 in
set_option maxHeartbeats 8000000 in
theorem port_ok (kb koff : Nat) (ks : List Nat) (kc : Nat) (ta : Option Addr) (ts : List Int) (tc : Nat) (loc rem rp : Nat) (shard : Int) (frm : Nat) (w : World)
    (hk : Bts w (some ⟨kb, koff, none⟩) ks) (h40 : ks.length = 40) (hkc : ks.length ≤ kc) (hkm : kc ≤ 9223372036854775807) (ht : Its w ta ts) (hl : ts.length ≤ 9223372036854775807) (hck : ctE ts = 0) (hs0 : 0 ≤ shard) (hs16 : shard < 16) (hf : 32768 ≤ frm) (hf2 : frm < 65536)
    (hloc : loc < 4294967296) (hrem : rem < 4294967296) (hrp : rp < 65536) (o : Option Nat) (ho : portF (hitp ks ts loc rem rp shard) frm 32768 = o) :
    Calls Try.prog 51 #[.slice (some ⟨kb, koff, none⟩) ks.length kc, .slice ta ts.length tc, .int .u32 loc, .int .u32 rem, .int .u16 rp, .int .i64 shard, .int .u16 frm] w fun e w' => e = .returned (.tuple #[.int .u16 (portV o frm : Nat), .int .i64 (portE o)]) ∧ Below w.heap.size w w' := by
  have HPO := Lib.hid ho
  clear ho
  have hmx : Try.prog.follows .mixedOrders = true := by kernel_rfl
  have hc := fun W hb => checkT_any (some ⟨kb, koff, none⟩) ks kc ta ts tc W (ht.below (w' := W) hb) hl
  have hck2 : ckE ks ts = 0 := by unfold ckE; rw [if_pos h40, hck]
  have hW := fun W hb => wordsOf_any kb koff kc ks W (hk.below (w' := W) hb) h40 (by omega) hkm
  have hS := fun W => isShard_any shard W
  have h128 := (ctE_zero hck).1
  rw [decide_eq_true ⟨hs0, hs16⟩] at hS
  rw [hck2] at hc
  rw [h40] at hc ⊢
  unfold toW at hW
  obtain ⟨tb, toff, rfl, htb, htc⟩ := ht.isSome (by omega)
  rw [h128] at hc htc ⊢
  have HC := Lib.hid hc
  have HW := Lib.hid hW
  have HS := Lib.hid hS
  have HTC := Lib.hid htc
  obtain ⟨fi, hfe⟩ : ∃ fi : Int, (frm : Int) = fi := ⟨_, rfl⟩
  have hfi : 32768 ≤ fi := by omega
  have hfi2 : fi < 65536 := by omega
  rw [hfe]
  have HFE := Lib.hid hfe
  clear hfe
  have HF := Lib.hid hf
  have HF2 := Lib.hid hf2
  clear hc hW hS hk hf hf2 ht htc hck hck2 h40 h128 hkc hl
  refine (callsIn_wide (n := 5)).1 ?_
  refine callsIn_of_wp_marks Try.func51 rfl trivial ?_ rfl
  simp only [Try.ntmps51, List.size_toArray, List.length_cons, List.length_nil, Nat.reduceAdd, Nat.reduceSub, Array.replicate_succ, Array.replicate_zero, List.push_toArray, List.append_toArray, List.nil_append, List.cons_append]
  gi_wp2_with (fail)
  refine ⟨trivial, ?_⟩
  obtain ⟨W0, hW0⟩ : ∃ W0, (((((((w.alloc (.cells #[.slice (some ⟨tb, toff, none⟩) 128 tc] 63)).alloc (.cells #[.int .u32 loc] 25)).alloc (.cells #[.int .u32 rem] 25)).alloc (.cells #[.int .u16 rp] 24)).alloc (.cells #[.int .i64 shard] 3)).alloc (.cells #[.int .u16 0] 24)).alloc (.cells #[.int .i64 0] 28)) = W0 := ⟨_, rfl⟩
  have F0 : Below w.heap.size w W0 ∧ W0.heap.size = w.heap.size + 7 ∧ Boxed W0 w.heap.size 63 (.slice (some ⟨tb, toff, none⟩) 128 tc) ∧ Boxed W0 (w.heap.size + 1) 25 (.int .u32 loc) ∧ Boxed W0 (w.heap.size + 1 + 1) 25 (.int .u32 rem) ∧ Boxed W0 (w.heap.size + 1 + 1 + 1) 24 (.int .u16 rp) ∧ Boxed W0 (w.heap.size + 1 + 1 + 1 + 1) 3 (.int .i64 shard) ∧ Boxed W0 (w.heap.size + 1 + 1 + 1 + 1 + 1) 24 (.int .u16 0) ∧ Boxed W0 (w.heap.size + 1 + 1 + 1 + 1 + 1 + 1) 28 (.int .i64 0) := by
    rw [← hW0]
    refine ⟨?_, by simp, ?_, ?_, ?_, ?_, ?_, ?_, ?_⟩
    · exact (((((((Below.refl _ _).alloc (Nat.le_refl _) _).alloc (by simp) _).alloc (by simp; omega) _).alloc (by simp; omega) _).alloc (by simp; omega) _).alloc (by simp; omega) _).alloc (by simp; omega) _
    · exact ((((((Boxed.new w _ _).alloc _).alloc _).alloc _).alloc _).alloc _).alloc _
    · have h := (((((Boxed.new (w.alloc (.cells #[.slice (some ⟨tb, toff, none⟩) 128 tc] 63)) 25 (.int .u32 loc)).alloc (.cells #[.int .u32 rem] 25)).alloc (.cells #[.int .u16 rp] 24)).alloc (.cells #[.int .i64 shard] 3)).alloc (.cells #[.int .u16 0] 24)).alloc (.cells #[.int .i64 0] 28)
      simpa only [World.size_alloc] using h
    · have h := ((((Boxed.new ((w.alloc (.cells #[.slice (some ⟨tb, toff, none⟩) 128 tc] 63)).alloc (.cells #[.int .u32 loc] 25)) 25 (.int .u32 rem)).alloc (.cells #[.int .u16 rp] 24)).alloc (.cells #[.int .i64 shard] 3)).alloc (.cells #[.int .u16 0] 24)).alloc (.cells #[.int .i64 0] 28)
      simpa only [World.size_alloc] using h
    · have h := (((Boxed.new (((w.alloc (.cells #[.slice (some ⟨tb, toff, none⟩) 128 tc] 63)).alloc (.cells #[.int .u32 loc] 25)).alloc (.cells #[.int .u32 rem] 25)) 24 (.int .u16 rp)).alloc (.cells #[.int .i64 shard] 3)).alloc (.cells #[.int .u16 0] 24)).alloc (.cells #[.int .i64 0] 28)
      simpa only [World.size_alloc] using h
    · have h := ((Boxed.new ((((w.alloc (.cells #[.slice (some ⟨tb, toff, none⟩) 128 tc] 63)).alloc (.cells #[.int .u32 loc] 25)).alloc (.cells #[.int .u32 rem] 25)).alloc (.cells #[.int .u16 rp] 24)) 3 (.int .i64 shard)).alloc (.cells #[.int .u16 0] 24)).alloc (.cells #[.int .i64 0] 28)
      simpa only [World.size_alloc] using h
    · have h := (Boxed.new (((((w.alloc (.cells #[.slice (some ⟨tb, toff, none⟩) 128 tc] 63)).alloc (.cells #[.int .u32 loc] 25)).alloc (.cells #[.int .u32 rem] 25)).alloc (.cells #[.int .u16 rp] 24)).alloc (.cells #[.int .i64 shard] 3)) 24 (.int .u16 0)).alloc (.cells #[.int .i64 0] 28)
      simpa only [World.size_alloc] using h
    · have h := Boxed.new ((((((w.alloc (.cells #[.slice (some ⟨tb, toff, none⟩) 128 tc] 63)).alloc (.cells #[.int .u32 loc] 25)).alloc (.cells #[.int .u32 rem] 25)).alloc (.cells #[.int .u16 rp] 24)).alloc (.cells #[.int .i64 shard] 3)).alloc (.cells #[.int .u16 0] 24)) 28 (.int .i64 0)
      simpa only [World.size_alloc] using h
  rw [hW0]
  clear hW0
  obtain ⟨b0, sz0, x0, x1, x2, x3, x4, x5, x6⟩ := F0
  have c4 := x4.cell
  refine (callsIn_wide.2 (HC.out _ b0)).mono ?_
  rintro e w' ⟨rfl, rfl⟩
  gi_wp2_with (fail)
  refine ⟨trivial, ?_⟩
  refine (callsIn_wide.2 (HS.out _)).mono ?_
  rintro e w' ⟨rfl, rfl⟩
  gi_wp2_with (fail)
  refine ⟨trivial, ?_⟩
  refine (callsIn_wide.2 (HW.out _ b0)).mono ?_
  rintro e w1 ⟨rfl, b1⟩
  have n0 := x0.lt
  have q1 := b0.trans (b1.mono b0.size)
  have s1 := b1.size
  have x0 : Boxed w1 w.heap.size 63 (.slice (some ⟨tb, toff, none⟩) 128 tc) := (b1.block _ x0.lt).trans x0
  have x1 : Boxed w1 (w.heap.size + 1) 25 (.int .u32 loc) := (b1.block _ x1.lt).trans x1
  have x2 : Boxed w1 (w.heap.size + 1 + 1) 25 (.int .u32 rem) := (b1.block _ x2.lt).trans x2
  have x3 : Boxed w1 (w.heap.size + 1 + 1 + 1) 24 (.int .u16 rp) := (b1.block _ x3.lt).trans x3
  have x4 : Boxed w1 (w.heap.size + 1 + 1 + 1 + 1) 3 (.int .i64 shard) := (b1.block _ x4.lt).trans x4
  have x5 : Boxed w1 (w.heap.size + 1 + 1 + 1 + 1 + 1) 24 (.int .u16 0) := (b1.block _ x5.lt).trans x5
  have x6 : Boxed w1 (w.heap.size + 1 + 1 + 1 + 1 + 1 + 1) 28 (.int .i64 0) := (b1.block _ x6.lt).trans x6
  have hsz : w.heap.size + 7 ≤ w1.heap.size := by omega
  clear b0 b1 sz0 n0 s1 HC HW HS c4
  gi_wp2_with (fail)
  refine ⟨trivial, ?_⟩
  rw [← HFE.out]
  refine (ports_any _ _ _).mono ?_
  rintro e w2 ⟨rfl, rfl⟩
  gi_wp2_with (fail)
  have hlit : (#[Value.int IntKind.u32 (tw ks 0 32 : Nat), Value.int IntKind.u32 (tw ks 32 32 : Nat), Value.int IntKind.u32 (tw ks 64 32 : Nat), Value.int IntKind.u32 (tw ks 96 32 : Nat), Value.int IntKind.u32 (tw ks 128 32 : Nat), Value.int IntKind.u32 (tw ks 160 32 : Nat), Value.int IntKind.u32 (tw ks 192 32 : Nat), Value.int IntKind.u32 (tw ks 224 32 : Nat), Value.int IntKind.u32 (tw ks 256 32 : Nat), Value.int IntKind.u32 (tw ks 288 32 : Nat)] : Array Value) = toW ks := rfl
  rw [hlit]
  clear hlit
  obtain ⟨W1, hW1⟩ : ∃ W1, ((w1.alloc (.cells (toW ks) 109)).alloc (.cells #[.int .u16 frm] 24)) = W1 := ⟨_, rfl⟩
  have y0 : Boxed W1 w.heap.size 63 (.slice (some ⟨tb, toff, none⟩) 128 tc) := by rw [← hW1]; exact (x0.alloc _).alloc _
  have y1 : Boxed W1 (w.heap.size + 1) 25 (.int .u32 loc) := by rw [← hW1]; exact (x1.alloc _).alloc _
  have y2 : Boxed W1 (w.heap.size + 1 + 1) 25 (.int .u32 rem) := by rw [← hW1]; exact (x2.alloc _).alloc _
  have y3 : Boxed W1 (w.heap.size + 1 + 1 + 1) 24 (.int .u16 rp) := by rw [← hW1]; exact (x3.alloc _).alloc _
  have y4 : Boxed W1 (w.heap.size + 1 + 1 + 1 + 1) 3 (.int .i64 shard) := by rw [← hW1]; exact (x4.alloc _).alloc _
  have y5 : Boxed W1 (w.heap.size + 1 + 1 + 1 + 1 + 1) 24 (.int .u16 0) := by rw [← hW1]; exact (x5.alloc _).alloc _
  have y6 : Boxed W1 (w.heap.size + 1 + 1 + 1 + 1 + 1 + 1) 28 (.int .i64 0) := by rw [← hW1]; exact (x6.alloc _).alloc _
  have yw : W1.heap[w1.heap.size]? = some (.cells (toW ks) 109 (0, 0)) := by rw [← hW1]; exact (Below.heap_alloc _ _ _ (by simp)).trans (blk_new w1 _)
  have yf : Boxed W1 (w1.heap.size + 1) 24 (.int .u16 frm) := by
    have h := Boxed.new (w1.alloc (.cells (toW ks) 109)) 24 (.int .u16 frm)
    rw [World.size_alloc, hW1] at h; exact h
  have szW : W1.heap.size = w1.heap.size + 2 := by rw [← hW1]; simp
  have qW : Below w.heap.size w W1 := by rw [← hW1]; exact (q1.alloc q1.size _).alloc (by have := q1.size; simp; omega) _
  rw [hW1]
  have CL : ∀ W, Below W1.heap.size W1 W → W.cell? ⟨w.heap.size, 0, none⟩ = some (.slice (some ⟨tb, toff, none⟩) 128 tc) ∧ W.cell? ⟨w.heap.size + 1, 0, none⟩ = some (.int .u32 loc) ∧ W.cell? ⟨w.heap.size + 1 + 1, 0, none⟩ = some (.int .u32 rem) ∧ W.cell? ⟨w.heap.size + 1 + 1 + 1, 0, none⟩ = some (.int .u16 rp) ∧ W.cell? ⟨w.heap.size + 1 + 1 + 1 + 1, 0, none⟩ = some (.int .i64 shard) := fun W h =>
    ⟨(h.cell (p := ⟨_, 0, none⟩) y0.lt).trans y0.cell, (h.cell (p := ⟨_, 0, none⟩) y1.lt).trans y1.cell, (h.cell (p := ⟨_, 0, none⟩) y2.lt).trans y2.cell, (h.cell (p := ⟨_, 0, none⟩) y3.lt).trans y3.cell, (h.cell (p := ⟨_, 0, none⟩) y4.lt).trans y4.cell⟩
  have RB : ∀ W, Below W1.heap.size W1 W → Boxed W (w.heap.size + 1 + 1 + 1 + 1 + 1) 24 (.int .u16 0) ∧ Boxed W (w.heap.size + 1 + 1 + 1 + 1 + 1 + 1) 28 (.int .i64 0) := fun W h => ⟨(h.block _ y5.lt).trans y5, (h.block _ y6.lt).trans y6⟩
  have TC : ∀ W, Below W1.heap.size W1 W → ∀ i, i < 128 → W.cell? ⟨tb, toff + i, none⟩ = some (.int .i64 (ts.getD i 0)) := fun W h i hi => (h.cell (p := ⟨tb, toff + i, none⟩) (by show tb < _; have := qW.size; omega)).trans ((qW.cell (p := ⟨tb, toff + i, none⟩) htb).trans (HTC.out i hi))
  have TN : ∀ W, Below W1.heap.size W1 W → Ten W w1.heap.size ks := fun W h => ten_of ((h.block _ (by omega)).trans yw)
  have HCL := Lib.hid CL
  have HRB := Lib.hid RB
  have HTB := Lib.hid TC
  have HTN := Lib.hid TN
  clear hW1 x0 x1 x2 x3 x4 x5 x6 y0 y1 y2 y3 y4 y5 y6 yw CL RB TC TN HTC htb q1
  obtain ⟨N, hN, HSS⟩ : ∃ N, Hid (N = 32768) ∧ SeqStopsK Fence.wide 4 Try.prog 98 #[.pointer (some ⟨w1.heap.size + 1, 0, none⟩)] (fun x : Prt => #[Value.int .u16 (x.1 : Nat)]) (KeepP W1.heap.size (w1.heap.size + 1)) (fun ys => ys = prL frm) (fun pre => pre <+: prL frm) N W1 :=
    ⟨_, Lib.hid rfl, ports_stops 4 (by omega) W1.heap.size (w1.heap.size + 1) frm HF.out HF2.out W1 (Nat.le_refl _) (by omega) yf.cell⟩
  have kput := KeepP.put (n₀ := W1.heap.size) (B := w1.heap.size + 1) (w := W1) (by omega) (Nat.le_refl _)
  refine wpIn_rangeFunc_ownG rfl (by omega) (gf := 98) (lb := #[.pointer (some ⟨w1.heap.size + 1, 0, none⟩)]) rfl trivial (enters_of Try.func98 (by kernel_rfl) rfl)
    HSS (fun h k => KeepP.trans h k) kput (Below.refl _ _) (fun _ => rfl)
    (fun pre W => PortI W1 (hitp ks ts loc rem rp shard) pre W)
    (fun c pre W => PortX w (w.heap.size + 1 + 1 + 1 + 1 + 1) (w.heap.size + 1 + 1 + 1 + 1 + 1 + 1) (hitp ks ts loc rem rp shard) c pre W)
    (PortI.own W1 _)
    (fun c => PortX.own w _ _ W1.heap.size _ c qW.size)
    ⟨(fun y h => by cases h), Below.refl _ _⟩
    (fun x => { tmps := #[.slice (some ⟨kb, koff, none⟩) 40 kc, .slice (some ⟨tb, toff, none⟩) 128 tc, .int .u32 loc, .int .u32 rem, .int .u16 rp, .int .i64 shard, .int .u16 frm, undef, .pointer (some ⟨w.heap.size, 0, none⟩), .pointer (some ⟨w.heap.size + 1, 0, none⟩), .pointer (some ⟨w.heap.size + 1 + 1, 0, none⟩), .pointer (some ⟨w.heap.size + 1 + 1 + 1, 0, none⟩), .pointer (some ⟨w.heap.size + 1 + 1 + 1 + 1, 0, none⟩), undef, .pointer (some ⟨w.heap.size + 1 + 1 + 1 + 1 + 1, 0, none⟩), .pointer (some ⟨w.heap.size + 1 + 1 + 1 + 1 + 1 + 1, 0, none⟩), .int .i64 0, .pointer (some ⟨w1.heap.size, 0, none⟩), .int .u16 (x.1 : Nat), undef, .slice (some ⟨kb, koff, none⟩) 40 kc, .slice (some ⟨tb, toff, none⟩) 128 tc, .int .i64 0, .int .i64 0, .bool false, undef, .int .i64 shard, .bool true, .bool false, .bool false, .int .u16 frm, .bool (decide ((frm : Int) < 32768)), .bool (decide ((frm : Int) < 32768)), .slice (some ⟨kb, koff, none⟩) 40 kc, .agg (toW ks), .int .u16 frm, .func (.func 98) #[] #[.pointer (some ⟨w1.heap.size + 1, 0, none⟩)], .int .u16 (x.1 : Nat), undef, undef, undef, undef, undef, undef, undef, undef, undef, undef, undef, undef, undef, undef, undef], defers := [] }) ?assign ?body ?done ?stop
  case assign =>
    intro l x W K hK
    gi_wp2
    exact hK
  case body =>
    rintro l pre x W ⟨hno, hB⟩ -
    have hx16 := x.2
    have HNO := Lib.hid hno
    have hsW := hB.size
    have TU := fun V => tuple_any rem loc rp x.1 hrem hloc hrp hx16 V
    have HH := fun g c V (h : Bts V (some ⟨g, 0, none⟩) (tup rem loc rp x.1)) => hash_any (some ⟨g, 0, none⟩) (tup rem loc rp x.1) c ks V h (by rw [tup_len]; omega)
    have htl := tup_len rem loc rp x.1
    rw [htl] at HH
    unfold toW at HH
    have HTU := Lib.hid TU
    have HHH := Lib.hid HH
    obtain ⟨ct, cl, cr, cp, cs⟩ := HCL.out W hB
    obtain ⟨r0, r1, r2, r3, r4, r5, r6, r7, r8, r9⟩ := HTN.out W hB
    have HBW := Lib.hid hB
    have HSW := Lib.hid hsW
    clear TU HH hno htl hB hsW x0 x1 x2 x3 x4 x5 x6
    gi_wp2_with (fail)
    gi_cut [19] from 53 (fun (v : Value) Wc => v = .int .u32 (th ks (tup rem loc rp x.1) (8 * 12) : Nat) ∧ Below W.heap.size W Wc)
    case first =>
      gi_region_with_o (first
        | (refine ⟨trivial, ?_⟩; gi_at_call 47; refine (CallsIn.inRound l (callsIn_wide.2 (HTU.out _))).mono ?_; rintro e v1 ⟨g, c, rfl, O, b⟩; have O1 := Lib.hid O.bts; have hb1 := Lib.hid ((Below.refl W.heap.size W).drew.trans b); have hb2 := Lib.hid (HBW.out.trans (hb1.out.mono HSW.out)); obtain ⟨s0, s1, s2, s3, s4, s5, s6, s7, s8, s9⟩ := HTN.out v1 hb2.out; clear O b)
        | (refine ⟨trivial, ?_⟩; gi_at_call 77; refine (CallsIn.inRound l (callsIn_wide.2 (HHH.out g c _ O1.out))).mono ?_; rintro e v2 ⟨rfl, b⟩; have hb3 := Lib.hid (hb1.out.trans (b.mono hb1.out.size)); clear b))
      all_goals
        gi_wp2
        gi_meet
        case rel => exact ⟨rfl, hb3.out⟩
    case rest =>
      obtain ⟨rfl, hbc⟩ := hcut
      have hB2 := HBW.out.trans (hbc.mono HSW.out)
      have hbX : Below W.heap.size W wc.drew := hbc.trans (Below.refl _ _).drew
      have hBX : Below W1.heap.size W1 wc.drew := hB2.trans (Below.refl _ _).drew
      have KF : KeepsFrom W1.heap.size W wc.drew := ⟨hbX.size, fun k o _ hk _ => (hbX.block k (Array.getElem?_eq_some_iff.1 hk).1).trans hk⟩
      have KP : KeepP W1.heap.size (w1.heap.size + 1) W wc.drew := ⟨hbX.block _ (by have := HSW.out; omega), hbX.mono HSW.out⟩
      obtain ⟨z5, z6⟩ := HRB.out _ hBX
      obtain ⟨ct, cl, cr, cp, cs⟩ := HCL.out wc hB2
      have hlt := th_lt ks (tup rem loc rp x.1) (8 * 12)
      have hhit : hitp ks ts loc rem rp shard x.1 = (ts.getD (th ks (tup rem loc rp x.1) (8 * 12) % 128) 0 == shard) := rfl
      generalize th ks (tup rem loc rp x.1) (8 * 12) = H at hlt hhit ⊢
      obtain ⟨m, hm⟩ : ∃ m, H % 128 = m := ⟨_, rfl⟩
      rw [hm] at hhit
      have hm1 : (H : Int) % 128 = (m : Int) := by omega
      have hm4 : (H : Int).tmod 128 = (m : Int) := by rw [Int.tmod_eq_emod_of_nonneg (by omega)]; exact hm1
      have hm5 : IntKind.u32.wrap (m : Int) = (m : Int) := by rw [IntKind.wrap_u32]; omega
      have hm6 : (0 : Int) ≤ (m : Int) := by omega
      have hm2 : m < 128 := by omega
      have hm3 : (m : Int) < 128 := by omega
      have hct := HTB.out wc hB2 m hm2
      generalize ts.getD m 0 = t at hct hhit
      have HHT := Lib.hid hhit
      have HKF := Lib.hid KF
      have HKW := Lib.hid (KF : KeepsFrom W1.heap.size W wc.drew)
      have hwX : Below w.heap.size w wc.drew := qW.trans (hBX.mono qW.size)
      have HBS := Lib.hid (((hwX.setCell (p := ⟨w.heap.size + 1 + 1 + 1 + 1 + 1, 0, none⟩) (show w.heap.size ≤ w.heap.size + 1 + 1 + 1 + 1 + 1 by omega) (.int .u16 (x.1 : Nat))).setCell (p := ⟨w.heap.size + 1 + 1 + 1 + 1 + 1 + 1, 0, none⟩) (show w.heap.size ≤ w.heap.size + 1 + 1 + 1 + 1 + 1 + 1 by omega) (.int .i64 0)))
      clear hwX
      have HKP := Lib.hid KP
      have HBX := Lib.hid hBX
      have HZ5 := Lib.hid z5
      have HZ6 := Lib.hid z6
      have g5 : wc.cell? ⟨w.heap.size + 1 + 1 + 1 + 1 + 1, 0, none⟩ = some (.int .u16 0) := (HRB.out wc hB2).1.cell
      have g6 : wc.cell? ⟨w.heap.size + 1 + 1 + 1 + 1 + 1 + 1, 0, none⟩ = some (.int .i64 0) := (HRB.out wc hB2).2.cell
      have f5 : wc.frozen? ⟨w.heap.size + 1 + 1 + 1 + 1 + 1, 0, none⟩ = false := (HRB.out wc hB2).1.frozen
      have f6 : wc.frozen? ⟨w.heap.size + 1 + 1 + 1 + 1 + 1 + 1, 0, none⟩ = false := (HRB.out wc hB2).2.frozen
      clear hhit KF KP hbX hBX hB2 hbc hlt z5 z6 hm cl cr cp r0 r1 r2 r3 r4 r5 r6 r7 r8 r9
      by_cases hts : t = shard
      · subst hts
        have hit : hitp ks ts loc rem rp t x.1 = true := by rw [HHT.out]; simp
        have HIT := Lib.hid hit
        clear hit HHT
        gi_wp2_with (fail)
        gi_region_with_o (fail)
        all_goals
          gi_wp2
          refine ⟨HKW.out.trans (((KeepsOthers.setCell _ _ _).trans (KeepsOthers.setCell _ _ _)).from _), ⟨⟨rfl, pre, x, rfl, HNO.out, HIT.out⟩, ?_, ?_, HBS.out⟩⟩
          · rw [lastP_snoc]; exact (HZ5.out.set (.int .u16 (x.1 : Nat))).other (by omega) (.int .i64 0)
          · exact (HZ6.out.other (by omega) (.int .u16 (x.1 : Nat))).set (.int .i64 0)
      · have hne : (t == shard) = false := by rw [beq_eq_false_iff_ne]; exact hts
        have hit : hitp ks ts loc rem rp shard x.1 = false := by rw [HHT.out]; exact hne
        have HIT := Lib.hid hit
        clear hit HHT g5 g6 f5 f6
        gi_wp2_with (fail)
        gi_region_with_o (fail)
        all_goals
          gi_wp2
          exact ⟨HKF.out, HKP.out, ⟨fun y hy => by
            rcases List.mem_append.1 hy with h | h
            · exact HNO.out y h
            · rw [List.mem_singleton.1 h]; exact HIT.out, HBX.out⟩⟩
  case done =>
    rintro D ys W hD rfl ⟨hno, hB⟩ hK
    obtain ⟨z5, z6⟩ := HRB.out W hB
    have g5 := z5.cell
    have g6 := z6.cell
    have f5 := z5.frozen
    have f6 := z6.frozen
    have HNO := Lib.hid hno
    have HB := Lib.hid hB
    clear hno hB kput HSS
    gi_wp2
    have e5 := (z5.set (.int .u16 0)).other (B' := w.heap.size + 1 + 1 + 1 + 1 + 1 + 1) (by omega) (.int .i64 71)
    have e6 := (z6.other (B' := w.heap.size + 1 + 1 + 1 + 1 + 1) (by omega) (.int .u16 0)).set (.int .i64 71)
    have hK2 := ((KeepsOthers.setCell W ⟨w.heap.size + 1 + 1 + 1 + 1 + 1, 0, none⟩ (.int .u16 0)).trans (KeepsOthers.setCell _ ⟨w.heap.size + 1 + 1 + 1 + 1 + 1 + 1, 0, none⟩ (.int .i64 71))).same D _ hK rfl
    have hwX : Below w.heap.size w W := qW.trans (HB.out.mono qW.size)
    have hBS := ((hwX.setCell (p := ⟨w.heap.size + 1 + 1 + 1 + 1 + 1, 0, none⟩) (show w.heap.size ≤ w.heap.size + 1 + 1 + 1 + 1 + 1 by omega) (.int .u16 0)).setCell (p := ⟨w.heap.size + 1 + 1 + 1 + 1 + 1 + 1, 0, none⟩) (show w.heap.size ≤ w.heap.size + 1 + 1 + 1 + 1 + 1 + 1 by omega) (.int .i64 71))
    have c5 := cell_kept e5.cell (grownBy_putObj' _ D (.deferred none)) (fun r e => by cases e; exact ⟨_, hK2, rfl⟩)
    have c6 := cell_kept e6.cell (grownBy_putObj' _ D (.deferred none)) (fun r e => by cases e; exact ⟨_, hK2, rfl⟩)
    have hend := hBS.trans (belowK_b (w := w) (Nat.le_refl _) _ D _ (.deferred none) (by have := qW.size; omega) hK2 rfl rfl)
    have ha : o = none := by rw [← HPO.out]; exact port_none _ frm _ HNO.out
    refine ⟨by simp, .inl ⟨_, _, rfl, run_takeDeferred hK2, ?_⟩⟩
    refine ⟨.tuple #[.int .u16 0, .int .i64 71], ?_, by rw [ha]; rfl, hend⟩
    clear e5 e6 hBS hwX hend
    simp only [results, Try.f51]
    go_simp
  case stop =>
    rintro D c pre W hD hp ⟨⟨rfl, p0, x, rfl, hno, hit⟩, z5, z6, hB⟩ hK
    rw [lastP_snoc] at z5
    have HP := Lib.hid hp
    have HNO := Lib.hid hno
    have HIT := Lib.hid hit
    have HB := Lib.hid hB
    clear hno hB hp hit kput HSS
    gi_wp2
    have c5 := cell_kept z5.cell (grownBy_putObj' _ D (.deferred none)) (fun r e => by cases e; exact ⟨_, hK, rfl⟩)
    have c6 := cell_kept z6.cell (grownBy_putObj' _ D (.deferred none)) (fun r e => by cases e; exact ⟨_, hK, rfl⟩)
    have hend := HB.out.trans (belowK_b (w := w) (Nat.le_refl _) W D _ (.deferred none) (by have := qW.size; omega) hK rfl rfl)
    obtain ⟨ha, hv⟩ := port_some _ frm _ p0 x HP.out HNO.out HIT.out
    rw [HPO.out] at ha
    refine ⟨by simp, .inl ⟨_, _, rfl, run_takeDeferred hK, ?_⟩⟩
    refine ⟨.tuple #[.int .u16 (x.1 : Nat), .int .i64 0], ?_, by rw [ha]; show _ = Ending.returned (.tuple #[.int .u16 (tport frm p0.length : Nat), .int .i64 0]); rw [hv], hend⟩
    clear hend ha hv
    simp only [results, Try.f51]
    go_simp
end Go.Proofs.Ytpdlmgafkjmjpaa
