/- What tcpwire.Parse gives where the checksum is right. -/
import Derived.Test.YtgmgoilleakdcaaTcpP0
import Derived.Test.YtgmgoilleakdcaaGAppendG
import Derived.Test.YtgmgoilleakdcaaGBtw
import Derived.Deep.RegionHeld3
import Derived.Deep.DeepCutAuto
namespace Go.Proofs.Ytgmgoilleakdcaa
open Go.RowKit Go.Maps

/-- What lies beside the segment that is being read: its data, the box of the result. -/
def PcH (B gr gm gs : Nat) (da : Option Addr) (ds : List Nat) (dc : Nat) (W : World) : Prop := OwnSl B da ds dc W ∧ (∀ g, da = some ⟨g, 0, none⟩ → g ≠ gm ∧ g ≠ gs ∧ g < W.heap.size) ∧ TcpAt W gr tcpZ ∧ gr ≠ gm ∧ gr ≠ gs

theorem OwnSl.same {B cap : Nat} {a : Option Addr} {xs : List Nat} {w w' : World} (h : OwnSl B a xs cap w) (hb : ∀ g, a = some ⟨g, 0, none⟩ → w'.heap[g]? = w.heap[g]?) : OwnSl B a xs cap w' := by
  obtain ⟨hx, h0 | ⟨g, rfl, hB, hr⟩⟩ := h
  · exact ⟨hx, .inl h0⟩
  · refine ⟨hx, .inr ⟨g, rfl, hB, hr.1, ?_⟩⟩
    rcases hr.2 with h0 | ⟨g', cap', cur, e, h1, h2, h3⟩
    · exact .inl h0
    · have e1 : g = g' := by injection e with e1; injection e1 with e1; injection e1
      subst e1
      exact .inr ⟨g, cap', cur, e, h1, (hb g rfl).trans h2, h3⟩

theorem PcH.kept {B gr gm gs : Nat} {da : Option Addr} {ds : List Nat} {dc : Nat} (W W' : World) (h : PcH B gr gm gs da ds dc W) (k : Kept2 W W' gm gs) : PcH B gr gm gs da ds dc W' := by
  obtain ⟨h1, h2, h3, h4, h5⟩ := h
  refine ⟨h1.same (fun g e => ?_), fun g e => ⟨(h2 g e).1, (h2 g e).2.1, Nat.lt_of_lt_of_le (h2 g e).2.2 k.2.2.2.1⟩, (k.2.2.2.2 gr (Array.getElem?_eq_some_iff.1 h3).1 h4 h5).trans h3, h4, h5⟩
  exact k.2.2.2.2 g (h2 g e).2.2 (h2 g e).1 (h2 g e).2.1

theorem own_one {W : World} {B size k : Nat} {t : TypeId} {v : Value} {xs : List Value} (h : W.ownsRow B t size v k xs) : v.oneCell' = true := by
  rcases h.2 with ⟨rfl, _⟩ | ⟨g, cap, cur, rfl, _⟩ <;> rfl

/-- The segment has been laid, but for its options. -/
def PcCut (w : World) (sp dp sq ak fl wn ur : Nat) (ds : List Nat) (v : Value) (Wc : World) : Prop :=
  ∃ gs da dc, v = .pointer (some ⟨gs, 0, none⟩) ∧ TcpAt Wc gs (pC sp dp sq ak fl wn ur (.slice da ds.length dc) (.slice none 0 0) tOpt0) ∧ w.heap.size < gs ∧ OwnSl (w.heap.size + 1) da ds dc Wc ∧ (∀ g, da = some ⟨g, 0, none⟩ → g ≠ gs ∧ g < Wc.heap.size) ∧ TcpAt Wc w.heap.size tcpZ ∧ Below w.heap.size w Wc

theorem PcCut.one {w V V2 V5 : World} {sp dp sq ak fl wn ur : Nat} {ds : List Nat} {da : Option Addr} {dc : Nat} {o : Obj} (K : TcpAt V w.heap.size tcpZ) (Q : Below w.heap.size w V) (hV : w.heap.size < V.heap.size) (O : OwnSl (V.alloc o).drew.heap.size da ds dc V2) (bb : Below (V.alloc o).drew.heap.size (V.alloc o).drew V2)
    (h : TcpAt V5 V.heap.size (pC sp dp sq ak fl wn ur (.slice da ds.length dc) (.slice none 0 0) tOpt0)) (hg : V2.grownBy V5 (some V.heap.size)) : PcCut w sp dp sq ak fl wn ur ds (.pointer (some ⟨V.heap.size, 0, none⟩)) V5 := by
  have hsz : (V.alloc o).drew.heap.size = V.heap.size + 1 := World.size_alloc V o
  rw [hsz] at O bb
  have h2 := bb.size
  have ha : (V.alloc o).heap.size = V.heap.size + 1 := World.size_alloc V o
  refine ⟨V.heap.size, da, dc, rfl, h, hV, (O.kept hg (by omega)).mono (by omega), fun g e => ?_, ?_, ?_⟩
  · subst e
    have h1 := O.row
    have h3 := O.blkLt g rfl
    exact ⟨by omega, Nat.lt_of_lt_of_le h3 hg.size⟩
  · refine (hg.block _ ?_ (fun e => by have := Option.some.inj e; omega)).trans ((bb.block _ (by omega)).trans ((Below.heap_alloc V o _ hV).trans K))
    have : (V.alloc o).drew.heap.size ≤ V2.heap.size := h2
    omega
  · refine (((Q.alloc (Nat.le_of_lt hV) o).drew).trans (bb.mono (by omega))).grown hg ?_ (fun j e => by cases e; omega)
    have : (V.alloc o).drew.heap.size ≤ V2.heap.size := h2
    omega

theorem PcCut.two {w V V2 V5 : World} {sp dp sq ak fl wn ur : Nat} {ds : List Nat} {da : Option Addr} {dc : Nat} {o : Obj} (K : TcpAt V w.heap.size tcpZ) (Q : Below w.heap.size w V) (hV : w.heap.size < V.heap.size) (O : OwnSl V.drew.heap.size da ds dc V2) (bb : Below V.drew.heap.size V.drew V2)
    (h : TcpAt V5 V2.heap.size (pC sp dp sq ak fl wn ur (.slice da ds.length dc) (.slice none 0 0) tOpt0)) (hg : (V2.alloc o).grownBy V5 (some V2.heap.size)) : PcCut w sp dp sq ak fl wn ur ds (.pointer (some ⟨V2.heap.size, 0, none⟩)) V5 := by
  have h2 : V.heap.size ≤ V2.heap.size := bb.size
  have ha : (V2.alloc o).heap.size = V2.heap.size + 1 := World.size_alloc V2 o
  have hz := hg.size
  refine ⟨V2.heap.size, da, dc, rfl, h, by omega, (O.same (fun g e => ?_)).mono hV, fun g e => ?_, ?_, ?_⟩
  · have h3 := O.blkLt g e
    exact (hg.block g (by omega) (fun e => by have := Option.some.inj e; omega)).trans (Below.heap_alloc V2 o g h3)
  · have h3 := O.blkLt g e
    exact ⟨by omega, by omega⟩
  · exact (hg.block _ (by omega) (fun e => by have := Option.some.inj e; omega)).trans ((Below.heap_alloc V2 o _ (by omega)).trans ((bb.block _ hV).trans K))
  · exact ((Q.drew.trans (bb.mono (Nat.le_of_lt hV))).alloc (by omega) o).grown hg (by omega) (fun j e => by cases e; omega)

set_option maxRecDepth 100000 in
set_option maxHeartbeats 8000000 in
theorem tcpP_core (b off : Nat) (xs : List Nat) (cap src dst : Nat) (w : World) (x12 fl q hd sp dp sq ak wn ur : Nat) (hb : b < w.heap.size) (hl20 : 20 ≤ xs.length) (hlm : xs.length ≤ 65535) (hcp : xs.length ≤ cap) (c12 : w.cell? ⟨b, off + 12, none⟩ = some (.int .u8 (x12 : Nat))) (c13 : w.cell? ⟨b, off + 13, none⟩ = some (.int .u8 (fl : Nat))) (hx : x12 < 256) (hq : x12 / 16 = q) (hhd : 4 * q = hd) (h20 : 20 ≤ hd) (hle : hd ≤ xs.length)
    (hsum : ∀ W, Below w.heap.size w W → Calls Try.prog 26 #[.slice (some ⟨b, off, none⟩) xs.length cap, .int .u32 src, .int .u32 dst] W fun e W' => e = .returned (.int .u16 65535) ∧ Below W.heap.size W W')
    (nA : ∀ c W, Below w.heap.size w W → Calls Try.prog 30 #[.slice (some ⟨b, off, none⟩) 2 c] W fun e w' => e = .returned (.int .u64 (sp : Nat)) ∧ W = w') (hsp : sp < 65536)
    (nB : ∀ c W, Below w.heap.size w W → Calls Try.prog 30 #[.slice (some ⟨b, off + 2, none⟩) 2 c] W fun e w' => e = .returned (.int .u64 (dp : Nat)) ∧ W = w') (hdp : dp < 65536)
    (nC : ∀ c W, Below w.heap.size w W → Calls Try.prog 30 #[.slice (some ⟨b, off + 4, none⟩) 4 c] W fun e w' => e = .returned (.int .u64 (sq : Nat)) ∧ W = w') (hsq : sq < 4294967296)
    (nD : ∀ c W, Below w.heap.size w W → Calls Try.prog 30 #[.slice (some ⟨b, off + 8, none⟩) 4 c] W fun e w' => e = .returned (.int .u64 (ak : Nat)) ∧ W = w') (hak : ak < 4294967296)
    (nE : ∀ c W, Below w.heap.size w W → Calls Try.prog 30 #[.slice (some ⟨b, off + 14, none⟩) 2 c] W fun e w' => e = .returned (.int .u64 (wn : Nat)) ∧ W = w') (hwn : wn < 65536)
    (nF : ∀ c W, Below w.heap.size w W → Calls Try.prog 30 #[.slice (some ⟨b, off + 18, none⟩) 2 c] W fun e w' => e = .returned (.int .u64 (ur : Nat)) ∧ W = w') (hur : ur < 65536)
    (ds os : List Nat) (hds : Bts w (some ⟨b, off + hd, none⟩) ds) (hdl : ds.length = xs.length - hd) (hos : Bts w (some ⟨b, off + 20, none⟩) os) (hol : os.length = hd - 20) :
    Calls Try.prog 10 #[.slice (some ⟨b, off, none⟩) xs.length cap, .int .u32 src, .int .u32 dst] w fun e w' => Below w.heap.size w w' ∧ ((tOpts (os.length + 1) os [] tOpt0 = none ∧ e = .returned (.tuple #[.agg tcpZ, .int .i64 51])) ∨
      (∃ s v da dc, tOpts (os.length + 1) os [] tOpt0 = some s ∧ e = .returned (.tuple #[.agg (pC sp dp sq ak fl wn ur (.slice da ds.length dc) v s), .int .i64 0]) ∧ OwnSl (w.heap.size + 1) da ds dc w' ∧ w'.ownsRow w.heap.size 68 2 v s.bs.length (blkCells s.bs))) := by
  have i1 : ¬ (xs.length : Int) < 20 := by omega
  have i2 : ¬ (65535 : Int) < (xs.length : Int) := by omega
  have i12 : (12 : Int) < (xs.length : Int) := by omega
  have i13 : (13 : Int) < (xs.length : Int) := by omega
  have xq : (x12 : Int) / 16 = (q : Int) := by omega
  have xw : IntKind.i64.wrap (q : Int) = (q : Int) := IntWalk.i64_in _ (by omega)
  have xh : (4 : Int) * (q : Int) = (hd : Int) := by omega
  have xw2 : IntKind.i64.wrap (hd : Int) = (hd : Int) := IntWalk.i64_in _ (by omega)
  have nb : b ≠ w.heap.size := by omega
  have t1 : ¬ (hd : Int) < 20 := by omega
  have t2 : ¬ (xs.length : Int) < (hd : Int) := by omega
  have ysp : IntKind.u16.wrap (sp : Int) = (sp : Int) := IntWalk.u16_in _ (by omega)
  have HnA := Lib.hid nA
  have ydp : IntKind.u16.wrap (dp : Int) = (dp : Int) := IntWalk.u16_in _ (by omega)
  have HnB := Lib.hid nB
  have ysq : IntKind.u32.wrap (sq : Int) = (sq : Int) := IntWalk.u32_in _ (by omega)
  have HnC := Lib.hid nC
  have yak : IntKind.u32.wrap (ak : Int) = (ak : Int) := IntWalk.u32_in _ (by omega)
  have HnD := Lib.hid nD
  have ywn : IntKind.u16.wrap (wn : Int) = (wn : Int) := IntWalk.u16_in _ (by omega)
  have HnE := Lib.hid nE
  have yur : IntKind.u16.wrap (ur : Int) = (ur : Int) := IntWalk.u16_in _ (by omega)
  have HnF := Lib.hid nF
  have k2 : (2 : Int) ≤ (cap : Int) := by omega
  have k4 : (4 : Int) ≤ (cap : Int) := by omega
  have k8 : (8 : Int) ≤ (cap : Int) := by omega
  have k12 : (12 : Int) ≤ (cap : Int) := by omega
  have k14 : (14 : Int) ≤ (cap : Int) := by omega
  have k16 : (16 : Int) ≤ (cap : Int) := by omega
  have k18 : (18 : Int) ≤ (cap : Int) := by omega
  have k20 : (20 : Int) ≤ (cap : Int) := by omega
  have z2 : ¬ cap = 2 := by omega
  have z4 : ¬ cap = 4 := by omega
  have z8 : ¬ cap = 8 := by omega
  have z14 : ¬ cap = 14 := by omega
  have z18 : ¬ cap = 18 := by omega
  have kh : (hd : Int) ≤ (cap : Int) := by omega
  have kl : (20 : Int) ≤ (hd : Int) := by omega
  have bn := blk_new w (.cells tcpZ 27)
  have bw := (Below.refl _ w).alloc (Nat.le_refl _) (.cells tcpZ 27)
  have HS := Lib.hid (hsum _ bw)
  have BN := Lib.hid bn
  have BW := Lib.hid bw
  have hsz : w.heap.size < (w.alloc (.cells tcpZ 27)).heap.size := by rw [World.size_alloc]; exact Nat.lt_succ_self _
  have HSZ := Lib.hid hsz
  have C13 := Lib.hid c13
  have HDS := Lib.hid hds
  have HDL := Lib.hid hdl
  have HOS := Lib.hid hos
  have HOL := Lib.hid hol
  have HCP := Lib.hid hcp
  have HHD := Lib.hid (And.intro h20 (And.intro hle hlm))
  clear hq hhd hle h20 hl20 hlm hx hsum bn bw hsz c13 hds hdl hos hol nA nB nC nD nE nF hsp hdp hsq hak hwn hur
  unfold tcpZ at HS BN BW HSZ
  go_enter Try.func10, Try.ntmps10
  go_wp2_with fail
  refine HS.out.mono ?_
  rintro e V ⟨rfl, b1⟩
  have K := Lib.hid ((b1.block w.heap.size HSZ.out).trans BN.out)
  have Q := Lib.hid (BW.out.trans (b1.mono (Nat.le_of_lt HSZ.out)))
  have hV : w.heap.size < V.heap.size := Nat.lt_of_lt_of_le HSZ.out b1.size
  clear b1 BW BN HS HSZ
  have c13 := (Q.out.cell (p := ⟨b, off + 13, none⟩) hb).trans C13.out
  have nV : b ≠ V.heap.size := by omega
  have gV := World.new_ne V ⟨b, off + 13, none⟩ c13
  have q0 := Lib.hid Q.out.drew
  have q1 := Lib.hid ((Q.out.alloc (Nat.le_of_lt hV) (.cells tcpZ 27)).drew)
  unfold tcpZ at q1
  have c13l0 := Lib.hid (show b < V.drew.heap.size from Nat.lt_trans hb hV)
  have c13l1 := Lib.hid (show b < (V.alloc (.cells tcpZ 27)).drew.heap.size by show b < (V.alloc _).heap.size; rw [World.size_alloc]; omega)
  unfold tcpZ at c13l1
  have hlen : ds.length ≤ 140737488355328 := by have := HDL.out; have := HHD.out; omega
  clear c12
  go_upto_region 10 with (fail)
  go_cut [9] from 12 (fun (v : Value) Wc => PcCut w sp dp sq ak fl wn ur ds v Wc)
  case first =>
    have hdz := HDL.out
    have hhz := HHD.out
    have c13d : V.drew.cell? ⟨b, off + 13, none⟩ = some (.int .u8 fl) := c13
    have c13a : (V.alloc (.cells #[.int .u16 0, .int .u16 0, .int .u32 0, .int .u32 0, .int .u8 0, .int .u16 0, .int .u16 0, .int .i64 0, .bool false, .int .i64 0, .bool false, .slice none 0 0, .bool false, .int .u32 0, .int .u32 0, .slice none 0 0] 27)).drew.cell? ⟨b, off + 13, none⟩ = some (.int .u8 fl) := (World.cell?_of_block (w := V) (Below.heap_alloc V _ b (Nat.lt_trans hb hV))).trans c13
    have lz1 := Lib.hid (show V.heap.size < (V.alloc (.cells #[.int .u16 0, .int .u16 0, .int .u32 0, .int .u32 0, .int .u8 0, .int .u16 0, .int .u16 0, .int .i64 0, .bool false, .int .i64 0, .bool false, .slice none 0 0, .bool false, .int .u32 0, .int .u32 0, .slice none 0 0] 27)).drew.heap.size by show V.heap.size < (V.alloc _).heap.size; rw [World.size_alloc]; exact Nat.lt_succ_self _)
    by_cases z : cap = hd
    case pos =>
      have hxl : xs.length = hd := by omega
      have HY : Hid (∀ W (ad : Option Addr), Below w.heap.size w W → ad = ad → Bts W ad ds) := Lib.hid (fun W ad _ _ => by rw [List.eq_nil_of_length_eq_zero (show ds.length = 0 by omega)]; exact Bts.nil _ _)
      have HMl : Hid (xs.length - hd = ds.length) := Lib.hid (by omega)
      subst z
      clear hxl hdz hhz hcp
      refine wp_region_held_drew (S := fun W => W.cell? ⟨b, off + 13, none⟩ = some (.int .u8 fl)) (by kernel_rfl) c13 (fun hHeld => ?_)
      refine wpAnyH_take (i := 0) (oi := _) (v := ?_) rfl (by kernel_rfl) (by kernel_rfl) (by kernel_rfl) (fun _ _ _ h => h) (Or.inl ⟨by rfl, ?_⟩) (by assumption) ?_
      rotate_left
      · intro w hSw
        try dsimp only at hSw
        go_simp
        all_goals with_reducible rfl
      (try simp only [List.getElem_toArray]); (try simp only [List.getElem_cons_succ]); (try simp only [List.getElem_cons_zero]); try simp only [Act.put, List.setIfInBounds_toArray, List.set_cons_zero, List.set_cons_succ]
      refine wpAnyH_take (i := 1) (oi := _) (v := ?_) rfl (by kernel_rfl) (by kernel_rfl) (by kernel_rfl) (fun _ _ _ h => h) (Or.inl ⟨by rfl, ?_⟩) (by assumption) ?_
      rotate_left
      · intro w hSw
        try dsimp only at hSw
        go_simp
        all_goals with_reducible rfl
      (try simp only [List.getElem_toArray]); (try simp only [List.getElem_cons_succ]); (try simp only [List.getElem_cons_zero]); try simp only [Act.put, List.setIfInBounds_toArray, List.set_cons_zero, List.set_cons_succ]
      refine wpAnyH_take (i := 4) (oi := _) (v := ?_) rfl (by kernel_rfl) (by kernel_rfl) (by kernel_rfl) (fun _ _ _ h => h) (Or.inl ⟨by rfl, ?_⟩) (by assumption) ?_
      rotate_left
      · intro w hSw
        try dsimp only at hSw
        go_simp
        all_goals with_reducible rfl
      (try simp only [List.getElem_toArray]); (try simp only [List.getElem_cons_succ]); (try simp only [List.getElem_cons_zero]); try simp only [Act.put, List.setIfInBounds_toArray, List.set_cons_zero, List.set_cons_succ]
      refine wpAnyH_take (i := 5) (oi := _) (v := ?_) rfl (by kernel_rfl) (by kernel_rfl) (by kernel_rfl) (fun _ _ _ h => h) (Or.inl ⟨by rfl, ?_⟩) (by assumption) ?_
      rotate_left
      · intro w hSw
        try dsimp only at hSw
        go_simp
        all_goals with_reducible rfl
      (try simp only [List.getElem_toArray]); (try simp only [List.getElem_cons_succ]); (try simp only [List.getElem_cons_zero]); try simp only [Act.put, List.setIfInBounds_toArray, List.set_cons_zero, List.set_cons_succ]
      refine wpAnyH_take (i := 8) (oi := _) (v := ?_) rfl (by kernel_rfl) (by kernel_rfl) (by kernel_rfl) (fun _ _ _ h => h) (Or.inl ⟨by rfl, ?_⟩) (by assumption) ?_
      rotate_left
      · intro w hSw
        try dsimp only at hSw
        go_simp
        all_goals with_reducible rfl
      (try simp only [List.getElem_toArray]); (try simp only [List.getElem_cons_succ]); (try simp only [List.getElem_cons_zero]); try simp only [Act.put, List.setIfInBounds_toArray, List.set_cons_zero, List.set_cons_succ]
      refine wpAnyH_take (i := 9) (oi := _) (v := ?_) rfl (by kernel_rfl) (by kernel_rfl) (by kernel_rfl) (fun _ _ _ h => h) (Or.inl ⟨by rfl, ?_⟩) (by assumption) ?_
      rotate_left
      · intro w hSw
        try dsimp only at hSw
        go_simp
        all_goals with_reducible rfl
      (try simp only [List.getElem_toArray]); (try simp only [List.getElem_cons_succ]); (try simp only [List.getElem_cons_zero]); try simp only [Act.put, List.setIfInBounds_toArray, List.set_cons_zero, List.set_cons_succ]
      refine wpAnyH_take (i := 12) (oi := _) (v := ?_) rfl (by kernel_rfl) (by kernel_rfl) (by kernel_rfl) (fun _ _ _ h => h) (Or.inl ⟨by rfl, ?_⟩) (by assumption) ?_
      rotate_left
      · intro w hSw
        try dsimp only at hSw
        go_simp
        all_goals with_reducible rfl
      (try simp only [List.getElem_toArray]); (try simp only [List.getElem_cons_succ]); (try simp only [List.getElem_cons_zero]); try simp only [Act.put, List.setIfInBounds_toArray, List.set_cons_zero, List.set_cons_succ]
      refine wpAnyH_take (i := 13) (oi := _) (v := ?_) rfl (by kernel_rfl) (by kernel_rfl) (by kernel_rfl) (fun _ _ _ h => h) (Or.inl ⟨by rfl, ?_⟩) (by assumption) ?_
      rotate_left
      · intro w hSw
        try dsimp only at hSw
        go_simp
        all_goals with_reducible rfl
      (try simp only [List.getElem_toArray]); (try simp only [List.getElem_cons_succ]); (try simp only [List.getElem_cons_zero]); try simp only [Act.put, List.setIfInBounds_toArray, List.set_cons_zero, List.set_cons_succ]
      refine wpAnyH_take (i := 16) (oi := _) (v := ?_) rfl (by kernel_rfl) (by kernel_rfl) (by kernel_rfl) (fun _ _ _ h => h) (Or.inl ⟨by rfl, ?_⟩) (by assumption) ?_
      rotate_left
      · intro w hSw
        try dsimp only at hSw
        go_simp
        all_goals with_reducible rfl
      (try simp only [List.getElem_toArray]); (try simp only [List.getElem_cons_succ]); (try simp only [List.getElem_cons_zero]); try simp only [Act.put, List.setIfInBounds_toArray, List.set_cons_zero, List.set_cons_succ]
      refine wpAnyH_take (i := 17) (oi := _) (v := ?_) rfl (by kernel_rfl) (by kernel_rfl) (by kernel_rfl) (fun _ _ _ h => h) (Or.inl ⟨by rfl, ?_⟩) (by assumption) ?_
      rotate_left
      · intro w hSw
        try dsimp only at hSw
        go_simp
        all_goals with_reducible rfl
      (try simp only [List.getElem_toArray]); (try simp only [List.getElem_cons_succ]); (try simp only [List.getElem_cons_zero]); try simp only [Act.put, List.setIfInBounds_toArray, List.set_cons_zero, List.set_cons_succ]
      refine wpAnyH_take (i := 18) (oi := _) (v := ?_) rfl (by kernel_rfl) (by kernel_rfl) (by kernel_rfl) (fun _ _ _ h => h) (Or.inl ⟨by rfl, ?_⟩) (by assumption) ?_
      rotate_left
      · intro w hSw
        try dsimp only at hSw
        go_simp
        all_goals with_reducible rfl
      (try simp only [List.getElem_toArray]); (try simp only [List.getElem_cons_succ]); (try simp only [List.getElem_cons_zero]); try simp only [Act.put, List.setIfInBounds_toArray, List.set_cons_zero, List.set_cons_succ]
      refine wpAnyH_take (i := 19) (oi := _) (v := ?_) rfl (by kernel_rfl) (by kernel_rfl) (by kernel_rfl) (fun _ _ _ h => h) (Or.inl ⟨by rfl, ?_⟩) (by assumption) ?_
      rotate_left
      · intro w hSw
        try dsimp only at hSw
        go_simp
        all_goals with_reducible rfl
      (try simp only [List.getElem_toArray]); (try simp only [List.getElem_cons_succ]); (try simp only [List.getElem_cons_zero]); try simp only [Act.put, List.setIfInBounds_toArray, List.set_cons_zero, List.set_cons_succ]
      refine wpAnyH_take (i := 20) (oi := _) (v := ?_) rfl (by kernel_rfl) (by kernel_rfl) (by kernel_rfl) (fun _ _ _ h => h) (Or.inl ⟨by rfl, ?_⟩) (by assumption) ?_
      rotate_left
      · intro w hSw
        try dsimp only at hSw
        go_simp
        all_goals with_reducible rfl
      (try simp only [List.getElem_toArray]); (try simp only [List.getElem_cons_succ]); (try simp only [List.getElem_cons_zero]); try simp only [Act.put, List.setIfInBounds_toArray, List.set_cons_zero, List.set_cons_succ]
      refine wpAnyH_take (i := 23) (oi := _) (v := ?_) rfl (by kernel_rfl) (by kernel_rfl) (by kernel_rfl) (fun _ _ _ h => h) (Or.inl ⟨by rfl, ?_⟩) (by assumption) ?_
      rotate_left
      · intro w hSw
        try dsimp only at hSw
        go_simp
        all_goals with_reducible rfl
      (try simp only [List.getElem_toArray]); (try simp only [List.getElem_cons_succ]); (try simp only [List.getElem_cons_zero]); try simp only [Act.put, List.setIfInBounds_toArray, List.set_cons_zero, List.set_cons_succ]
      refine wpAnyH_take (i := 24) (oi := _) (v := ?_) rfl (by kernel_rfl) (by kernel_rfl) (by kernel_rfl) (fun _ _ _ h => h) (Or.inl ⟨by rfl, ?_⟩) (by assumption) ?_
      rotate_left
      · intro w hSw
        try dsimp only at hSw
        go_simp
        all_goals with_reducible rfl
      (try simp only [List.getElem_toArray]); (try simp only [List.getElem_cons_succ]); (try simp only [List.getElem_cons_zero]); try simp only [Act.put, List.setIfInBounds_toArray, List.set_cons_zero, List.set_cons_succ]
      refine wpAnyH_take (i := 27) (oi := _) (v := ?_) rfl (by kernel_rfl) (by kernel_rfl) (by kernel_rfl) (fun _ _ _ h => h) (Or.inl ⟨by rfl, ?_⟩) (by assumption) ?_
      rotate_left
      · intro w hSw
        try dsimp only at hSw
        go_simp
        all_goals with_reducible rfl
      (try simp only [List.getElem_toArray]); (try simp only [List.getElem_cons_succ]); (try simp only [List.getElem_cons_zero]); try simp only [Act.put, List.setIfInBounds_toArray, List.set_cons_zero, List.set_cons_succ]
      refine wpAnyH_take (i := 28) (oi := _) (v := ?_) rfl (by kernel_rfl) (by kernel_rfl) (by kernel_rfl) (fun _ _ _ h => h) (Or.inl ⟨by rfl, ?_⟩) (by assumption) ?_
      rotate_left
      · intro w hSw
        try dsimp only at hSw
        go_simp
        all_goals with_reducible rfl
      (try simp only [List.getElem_toArray]); (try simp only [List.getElem_cons_succ]); (try simp only [List.getElem_cons_zero]); try simp only [Act.put, List.setIfInBounds_toArray, List.set_cons_zero, List.set_cons_succ]
      refine wpAnyH_take (i := 29) (oi := _) (v := ?_) rfl (by kernel_rfl) (by kernel_rfl) (by kernel_rfl) (fun _ _ _ h => h) (Or.inl ⟨by rfl, ?_⟩) (by assumption) ?_
      rotate_left
      · intro w hSw
        try dsimp only at hSw
        go_simp
        all_goals with_reducible rfl
      (try simp only [List.getElem_toArray]); (try simp only [List.getElem_cons_succ]); (try simp only [List.getElem_cons_zero]); try simp only [Act.put, List.setIfInBounds_toArray, List.set_cons_zero, List.set_cons_succ]
      refine wpAnyH_ready (rs := [2, 32]) (by kernel_rfl) (by simp) ?_
      refine (AllReadyH.cons (o := _) rfl (fun K hK => ?_) (AllReadyH.cons (o := _) rfl (fun K hK => ?_) AllReadyH.nil))
      · (try simp only [List.getElem_toArray]); (try simp only [List.getElem_cons_succ]); (try simp only [List.getElem_cons_zero])
        go_simp
        go_at_call 30
        (with_reducible refine (HnA.out _ _ (by first | exact q0.out | exact q1.out)).mono ?_)
        rintro e w' ⟨rfl, rfl⟩
        try dsimp only
        refine hK.out _ _ ?_ (fun hHeld => ?_)
        · first | exact c13 | exact c13z | exact c13a | exact c13b | go_keep
        clear hK K
        (try simp only [List.getElem_toArray]); (try simp only [List.getElem_cons_succ]); (try simp only [List.getElem_cons_zero]); try simp only [Act.put, List.setIfInBounds_toArray, List.set_cons_zero, List.set_cons_succ]
        refine wpAnyH_take (i := 3) (oi := _) (v := ?_) rfl (by kernel_rfl) (by kernel_rfl) (by kernel_rfl) (fun _ _ _ h => h) (Or.inl ⟨by rfl, ?_⟩) (by assumption) ?_
        rotate_left
        · intro w hSw
          try dsimp only at hSw
          go_simp
          all_goals with_reducible rfl
        (try simp only [List.getElem_toArray]); (try simp only [List.getElem_cons_succ]); (try simp only [List.getElem_cons_zero]); try simp only [Act.put, List.setIfInBounds_toArray, List.set_cons_zero, List.set_cons_succ]
        refine wpAnyH_ready (rs := [6, 32]) (by kernel_rfl) (by simp) ?_
        refine (AllReadyH.cons (o := _) rfl (fun K hK => ?_) (AllReadyH.cons (o := _) rfl (fun K hK => ?_) AllReadyH.nil))
        · (try simp only [List.getElem_toArray]); (try simp only [List.getElem_cons_succ]); (try simp only [List.getElem_cons_zero])
          go_simp
          go_at_call 30
          (with_reducible refine (HnB.out _ _ (by first | exact q0.out | exact q1.out)).mono ?_)
          rintro e w' ⟨rfl, rfl⟩
          try dsimp only
          refine hK.out _ _ ?_ (fun hHeld => ?_)
          · first | exact c13 | exact c13z | exact c13a | exact c13b | go_keep
          clear hK K
          (try simp only [List.getElem_toArray]); (try simp only [List.getElem_cons_succ]); (try simp only [List.getElem_cons_zero]); try simp only [Act.put, List.setIfInBounds_toArray, List.set_cons_zero, List.set_cons_succ]
          refine wpAnyH_take (i := 7) (oi := _) (v := ?_) rfl (by kernel_rfl) (by kernel_rfl) (by kernel_rfl) (fun _ _ _ h => h) (Or.inl ⟨by rfl, ?_⟩) (by assumption) ?_
          rotate_left
          · intro w hSw
            try dsimp only at hSw
            go_simp
            all_goals with_reducible rfl
          (try simp only [List.getElem_toArray]); (try simp only [List.getElem_cons_succ]); (try simp only [List.getElem_cons_zero]); try simp only [Act.put, List.setIfInBounds_toArray, List.set_cons_zero, List.set_cons_succ]
          refine wpAnyH_ready (rs := [10, 32]) (by kernel_rfl) (by simp) ?_
          refine (AllReadyH.cons (o := _) rfl (fun K hK => ?_) (AllReadyH.cons (o := _) rfl (fun K hK => ?_) AllReadyH.nil))
          · (try simp only [List.getElem_toArray]); (try simp only [List.getElem_cons_succ]); (try simp only [List.getElem_cons_zero])
            go_simp
            go_at_call 30
            (with_reducible refine (HnC.out _ _ (by first | exact q0.out | exact q1.out)).mono ?_)
            rintro e w' ⟨rfl, rfl⟩
            try dsimp only
            refine hK.out _ _ ?_ (fun hHeld => ?_)
            · first | exact c13 | exact c13z | exact c13a | exact c13b | go_keep
            clear hK K
            (try simp only [List.getElem_toArray]); (try simp only [List.getElem_cons_succ]); (try simp only [List.getElem_cons_zero]); try simp only [Act.put, List.setIfInBounds_toArray, List.set_cons_zero, List.set_cons_succ]
            refine wpAnyH_take (i := 11) (oi := _) (v := ?_) rfl (by kernel_rfl) (by kernel_rfl) (by kernel_rfl) (fun _ _ _ h => h) (Or.inl ⟨by rfl, ?_⟩) (by assumption) ?_
            rotate_left
            · intro w hSw
              try dsimp only at hSw
              go_simp
              all_goals with_reducible rfl
            (try simp only [List.getElem_toArray]); (try simp only [List.getElem_cons_succ]); (try simp only [List.getElem_cons_zero]); try simp only [Act.put, List.setIfInBounds_toArray, List.set_cons_zero, List.set_cons_succ]
            refine wpAnyH_ready (rs := [14, 32]) (by kernel_rfl) (by simp) ?_
            refine (AllReadyH.cons (o := _) rfl (fun K hK => ?_) (AllReadyH.cons (o := _) rfl (fun K hK => ?_) AllReadyH.nil))
            · (try simp only [List.getElem_toArray]); (try simp only [List.getElem_cons_succ]); (try simp only [List.getElem_cons_zero])
              go_simp
              go_at_call 30
              (with_reducible refine (HnD.out _ _ (by first | exact q0.out | exact q1.out)).mono ?_)
              rintro e w' ⟨rfl, rfl⟩
              try dsimp only
              refine hK.out _ _ ?_ (fun hHeld => ?_)
              · first | exact c13 | exact c13z | exact c13a | exact c13b | go_keep
              clear hK K
              (try simp only [List.getElem_toArray]); (try simp only [List.getElem_cons_succ]); (try simp only [List.getElem_cons_zero]); try simp only [Act.put, List.setIfInBounds_toArray, List.set_cons_zero, List.set_cons_succ]
              refine wpAnyH_take (i := 15) (oi := _) (v := ?_) rfl (by kernel_rfl) (by kernel_rfl) (by kernel_rfl) (fun _ _ _ h => h) (Or.inl ⟨by rfl, ?_⟩) (by assumption) ?_
              rotate_left
              · intro w hSw
                try dsimp only at hSw
                go_simp
                all_goals with_reducible rfl
              (try simp only [List.getElem_toArray]); (try simp only [List.getElem_cons_succ]); (try simp only [List.getElem_cons_zero]); try simp only [Act.put, List.setIfInBounds_toArray, List.set_cons_zero, List.set_cons_succ]
              refine wpAnyH_ready (rs := [21, 32]) (by kernel_rfl) (by simp) ?_
              refine (AllReadyH.cons (o := _) rfl (fun K hK => ?_) (AllReadyH.cons (o := _) rfl (fun K hK => ?_) AllReadyH.nil))
              · (try simp only [List.getElem_toArray]); (try simp only [List.getElem_cons_succ]); (try simp only [List.getElem_cons_zero])
                go_simp
                go_at_call 30
                (with_reducible refine (HnE.out _ _ (by first | exact q0.out | exact q1.out)).mono ?_)
                rintro e w' ⟨rfl, rfl⟩
                try dsimp only
                refine hK.out _ _ ?_ (fun hHeld => ?_)
                · first | exact c13 | exact c13z | exact c13a | exact c13b | go_keep
                clear hK K
                (try simp only [List.getElem_toArray]); (try simp only [List.getElem_cons_succ]); (try simp only [List.getElem_cons_zero]); try simp only [Act.put, List.setIfInBounds_toArray, List.set_cons_zero, List.set_cons_succ]
                refine wpAnyH_take (i := 22) (oi := _) (v := ?_) rfl (by kernel_rfl) (by kernel_rfl) (by kernel_rfl) (fun _ _ _ h => h) (Or.inl ⟨by rfl, ?_⟩) (by assumption) ?_
                rotate_left
                · intro w hSw
                  try dsimp only at hSw
                  go_simp
                  all_goals with_reducible rfl
                (try simp only [List.getElem_toArray]); (try simp only [List.getElem_cons_succ]); (try simp only [List.getElem_cons_zero]); try simp only [Act.put, List.setIfInBounds_toArray, List.set_cons_zero, List.set_cons_succ]
                refine wpAnyH_ready (rs := [25, 32]) (by kernel_rfl) (by simp) ?_
                refine (AllReadyH.cons (o := _) rfl (fun K hK => ?_) (AllReadyH.cons (o := _) rfl (fun K hK => ?_) AllReadyH.nil))
                · (try simp only [List.getElem_toArray]); (try simp only [List.getElem_cons_succ]); (try simp only [List.getElem_cons_zero])
                  go_simp
                  go_at_call 30
                  (with_reducible refine (HnF.out _ _ (by first | exact q0.out | exact q1.out)).mono ?_)
                  rintro e w' ⟨rfl, rfl⟩
                  try dsimp only
                  refine hK.out _ _ ?_ (fun hHeld => ?_)
                  · first | exact c13 | exact c13z | exact c13a | exact c13b | go_keep
                  clear hK K
                  (try simp only [List.getElem_toArray]); (try simp only [List.getElem_cons_succ]); (try simp only [List.getElem_cons_zero]); try simp only [Act.put, List.setIfInBounds_toArray, List.set_cons_zero, List.set_cons_succ]
                  refine wpAnyH_take (i := 26) (oi := _) (v := ?_) rfl (by kernel_rfl) (by kernel_rfl) (by kernel_rfl) (fun _ _ _ h => h) (Or.inl ⟨by rfl, ?_⟩) (by assumption) ?_
                  rotate_left
                  · intro w hSw
                    try dsimp only at hSw
                    go_simp
                    all_goals with_reducible rfl
                  (try simp only [List.getElem_toArray]); (try simp only [List.getElem_cons_succ]); (try simp only [List.getElem_cons_zero]); try simp only [Act.put, List.setIfInBounds_toArray, List.set_cons_zero, List.set_cons_succ]
                  refine wpAnyH_ready (rs := [30, 32]) (by kernel_rfl) (by simp) ?_
                  refine (AllReadyH.cons (o := _) rfl (fun K hK => ?_) (AllReadyH.cons (o := _) rfl (fun K hK => ?_) AllReadyH.nil))
                  · refine step_append_new rfl _ _ rfl _ HMl.out (HY.out _ _ q0.out rfl) (fun h => by cases h) rfl rfl hlen (Nat.le_refl _) ?_
                    intro da dc V2 O bb
                    have c13z := (bb.cell (p := ⟨b, off + 13, none⟩) c13l0.out).trans c13d
                    have hO := Lib.hid O
                    have hbb := Lib.hid bb
                    clear O bb
                    refine hK.out _ _ ?_ (fun hHeld => ?_)
                    · first | exact c13 | exact c13z | exact c13a | exact c13b | go_keep
                    clear hK K
                    (try simp only [List.getElem_toArray]); (try simp only [List.getElem_cons_succ]); (try simp only [List.getElem_cons_zero]); try simp only [Act.put, List.setIfInBounds_toArray, List.set_cons_zero, List.set_cons_succ]
                    refine wpAnyH_take (i := 31) (oi := _) (v := ?_) rfl (by kernel_rfl) (by kernel_rfl) (by kernel_rfl) (fun _ _ _ h => h) (Or.inl ⟨by rfl, ?_⟩) (by assumption) ?_
                    rotate_left
                    · intro w hSw
                      try dsimp only at hSw
                      go_simp
                      all_goals with_reducible rfl
                    (try simp only [List.getElem_toArray]); (try simp only [List.getElem_cons_succ]); (try simp only [List.getElem_cons_zero]); try simp only [Act.put, List.setIfInBounds_toArray, List.set_cons_zero, List.set_cons_succ]
                    refine wpAnyH_ready (rs := [32]) (by kernel_rfl) (by simp) ?_
                    refine (AllReadyH.cons (o := _) rfl (fun K hK => ?_) AllReadyH.nil)
                    · (try simp only [List.getElem_toArray]); (try simp only [List.getElem_cons_succ]); (try simp only [List.getElem_cons_zero])
                      go_simp
                      refine hK.out _ _ ?_ (fun hHeld => ?_)
                      · first | exact c13z | go_keep
                      clear hK K
                      (try simp only [List.getElem_toArray]); (try simp only [List.getElem_cons_succ]); (try simp only [List.getElem_cons_zero]); try simp only [Act.put, List.setIfInBounds_toArray, List.set_cons_zero, List.set_cons_succ]
                      have K2 := Lib.hid (blk_new V2 (.cells #[.int .u16 0, .int .u16 0, .int .u32 0, .int .u32 0, .int .u8 0, .int .u16 0, .int .u16 0, .int .i64 0, .bool false, .int .i64 0, .bool false, .slice none 0 0, .bool false, .int .u32 0, .int .u32 0, .slice none 0 0] 27))
                      refine wpAnyH_ready (rs := [33]) (by kernel_rfl) (by simp) ?_
                      refine (AllReadyH.cons (o := _) rfl (fun K hK => ?_) AllReadyH.nil)
                      · have c13w := (World.cell?_of_block (w := V2) (w' := V2.alloc (.cells #[.int .u16 0, .int .u16 0, .int .u32 0, .int .u32 0, .int .u8 0, .int .u16 0, .int .u16 0, .int .i64 0, .bool false, .int .i64 0, .bool false, .slice none 0 0, .bool false, .int .u32 0, .int .u32 0, .slice none 0 0] 27)) (Below.heap_alloc V2 _ b (by have := hbb.out.size; have := c13l0.out; omega))).trans c13z
                        refine step_store_tcp ?_ (.tmp 9) (.tmp 72) ?_ V2.heap.size _ (pC sp dp sq ak fl wn ur (.slice da ds.length dc) (.slice none 0 0) tOpt0) ?_ ?_ K2.out ?_ ?_ ?_ ?_
                        · rfl
                        · rfl
                        · rfl
                        · rfl
                        · rfl
                        · rfl
                        · simp [pC, Value.oneCell']
                        intro V5 h5 g5
                        have hs2 := Lib.hid h5
                        have hg2 := Lib.hid g5
                        have c13y := (World.cell?_of_block (w := (V2.alloc (.cells #[.int .u16 0, .int .u16 0, .int .u32 0, .int .u32 0, .int .u8 0, .int .u16 0, .int .u16 0, .int .i64 0, .bool false, .int .i64 0, .bool false, .slice none 0 0, .bool false, .int .u32 0, .int .u32 0, .slice none 0 0] 27))) (w' := V5) (g5.block b (by rw [World.size_alloc]; have := hbb.out.size; have := c13l0.out; omega) (fun e => (fun e => by have := hbb.out.size; have := c13l0.out; omega) (Option.some.inj e)))).trans c13w
                        clear h5 g5
                        refine hK.out _ _ ?_ (fun hHeld => ?_)
                        · exact c13y
                        clear hK K
                        refine wpAnyH_done (by kernel_rfl) ?_ _
                        go_wp2
                        go_meet
                        case rel => exact PcCut.two K.out Q.out hV hO.out hbb.out hs2.out hg2.out
                  · (try simp only [List.getElem_toArray]); (try simp only [List.getElem_cons_succ]); (try simp only [List.getElem_cons_zero])
                    go_simp
                    refine hK.out _ _ ?_ (fun hHeld => ?_)
                    · exact c13a
                    clear hK K
                    (try simp only [List.getElem_toArray]); (try simp only [List.getElem_cons_succ]); (try simp only [List.getElem_cons_zero]); try simp only [Act.put, List.setIfInBounds_toArray, List.set_cons_zero, List.set_cons_succ]
                    refine wpAnyH_ready (rs := [30]) (by kernel_rfl) (by simp) ?_
                    refine (AllReadyH.cons (o := _) rfl (fun K hK => ?_) AllReadyH.nil)
                    · refine step_append_new rfl _ _ rfl _ HMl.out (HY.out _ _ q1.out rfl) (fun h => by cases h) rfl rfl hlen (Nat.le_refl _) ?_
                      intro da dc V2 O bb
                      have c13z := (bb.cell (p := ⟨b, off + 13, none⟩) c13l1.out).trans c13a
                      have hO := Lib.hid O
                      have hbb := Lib.hid bb
                      clear O bb
                      refine hK.out _ _ ?_ (fun hHeld => ?_)
                      · first | exact c13 | exact c13z | exact c13a | exact c13b | go_keep
                      clear hK K
                      (try simp only [List.getElem_toArray]); (try simp only [List.getElem_cons_succ]); (try simp only [List.getElem_cons_zero]); try simp only [Act.put, List.setIfInBounds_toArray, List.set_cons_zero, List.set_cons_succ]
                      have K2 := Lib.hid ((hbb.out.block V.heap.size lz1.out).trans (blk_new V (.cells #[.int .u16 0, .int .u16 0, .int .u32 0, .int .u32 0, .int .u8 0, .int .u16 0, .int .u16 0, .int .i64 0, .bool false, .int .i64 0, .bool false, .slice none 0 0, .bool false, .int .u32 0, .int .u32 0, .slice none 0 0] 27)))
                      refine wpAnyH_take (i := 31) (oi := _) (v := ?_) rfl (by kernel_rfl) (by kernel_rfl) (by kernel_rfl) (fun _ _ _ h => h) (Or.inl ⟨by rfl, ?_⟩) (by assumption) ?_
                      rotate_left
                      · intro w hSw
                        try dsimp only at hSw
                        go_simp
                        all_goals with_reducible rfl
                      (try simp only [List.getElem_toArray]); (try simp only [List.getElem_cons_succ]); (try simp only [List.getElem_cons_zero]); try simp only [Act.put, List.setIfInBounds_toArray, List.set_cons_zero, List.set_cons_succ]
                      refine wpAnyH_ready (rs := [33]) (by kernel_rfl) (by simp) ?_
                      refine (AllReadyH.cons (o := _) rfl (fun K hK => ?_) AllReadyH.nil)
                      · refine step_store_tcp ?_ (.tmp 9) (.tmp 72) ?_ V.heap.size _ (pC sp dp sq ak fl wn ur (.slice da ds.length dc) (.slice none 0 0) tOpt0) ?_ ?_ K2.out ?_ ?_ ?_ ?_
                        · rfl
                        · rfl
                        · rfl
                        · rfl
                        · rfl
                        · rfl
                        · simp [pC, Value.oneCell']
                        intro V5 h5 g5
                        have hs2 := Lib.hid h5
                        have hg2 := Lib.hid g5
                        have c13y := (World.cell?_of_block (w := V2) (w' := V5) (g5.block b (by have := hbb.out.size; have := lz1.out; omega) (fun e => nV (Option.some.inj e)))).trans c13z
                        clear h5 g5
                        refine hK.out _ _ ?_ (fun hHeld => ?_)
                        · exact c13y
                        clear hK K
                        refine wpAnyH_done (by kernel_rfl) ?_ _
                        go_wp2
                        go_meet
                        case rel => exact PcCut.one K.out Q.out hV hO.out hbb.out hs2.out hg2.out
                · (try simp only [List.getElem_toArray]); (try simp only [List.getElem_cons_succ]); (try simp only [List.getElem_cons_zero])
                  go_simp
                  refine hK.out _ _ ?_ (fun hHeld => ?_)
                  · exact c13a
                  clear hK K
                  (try simp only [List.getElem_toArray]); (try simp only [List.getElem_cons_succ]); (try simp only [List.getElem_cons_zero]); try simp only [Act.put, List.setIfInBounds_toArray, List.set_cons_zero, List.set_cons_succ]
                  refine wpAnyH_ready (rs := [25]) (by kernel_rfl) (by simp) ?_
                  refine (AllReadyH.cons (o := _) rfl (fun K hK => ?_) AllReadyH.nil)
                  · (try simp only [List.getElem_toArray]); (try simp only [List.getElem_cons_succ]); (try simp only [List.getElem_cons_zero])
                    go_simp
                    go_at_call 30
                    (with_reducible refine (HnF.out _ _ (by first | exact q0.out | exact q1.out)).mono ?_)
                    rintro e w' ⟨rfl, rfl⟩
                    try dsimp only
                    refine hK.out _ _ ?_ (fun hHeld => ?_)
                    · first | exact c13 | exact c13z | exact c13a | exact c13b | go_keep
                    clear hK K
                    (try simp only [List.getElem_toArray]); (try simp only [List.getElem_cons_succ]); (try simp only [List.getElem_cons_zero]); try simp only [Act.put, List.setIfInBounds_toArray, List.set_cons_zero, List.set_cons_succ]
                    refine wpAnyH_take (i := 26) (oi := _) (v := ?_) rfl (by kernel_rfl) (by kernel_rfl) (by kernel_rfl) (fun _ _ _ h => h) (Or.inl ⟨by rfl, ?_⟩) (by assumption) ?_
                    rotate_left
                    · intro w hSw
                      try dsimp only at hSw
                      go_simp
                      all_goals with_reducible rfl
                    (try simp only [List.getElem_toArray]); (try simp only [List.getElem_cons_succ]); (try simp only [List.getElem_cons_zero]); try simp only [Act.put, List.setIfInBounds_toArray, List.set_cons_zero, List.set_cons_succ]
                    refine wpAnyH_ready (rs := [30]) (by kernel_rfl) (by simp) ?_
                    refine (AllReadyH.cons (o := _) rfl (fun K hK => ?_) AllReadyH.nil)
                    · refine step_append_new rfl _ _ rfl _ HMl.out (HY.out _ _ q1.out rfl) (fun h => by cases h) rfl rfl hlen (Nat.le_refl _) ?_
                      intro da dc V2 O bb
                      have c13z := (bb.cell (p := ⟨b, off + 13, none⟩) c13l1.out).trans c13a
                      have hO := Lib.hid O
                      have hbb := Lib.hid bb
                      clear O bb
                      refine hK.out _ _ ?_ (fun hHeld => ?_)
                      · first | exact c13 | exact c13z | exact c13a | exact c13b | go_keep
                      clear hK K
                      (try simp only [List.getElem_toArray]); (try simp only [List.getElem_cons_succ]); (try simp only [List.getElem_cons_zero]); try simp only [Act.put, List.setIfInBounds_toArray, List.set_cons_zero, List.set_cons_succ]
                      have K2 := Lib.hid ((hbb.out.block V.heap.size lz1.out).trans (blk_new V (.cells #[.int .u16 0, .int .u16 0, .int .u32 0, .int .u32 0, .int .u8 0, .int .u16 0, .int .u16 0, .int .i64 0, .bool false, .int .i64 0, .bool false, .slice none 0 0, .bool false, .int .u32 0, .int .u32 0, .slice none 0 0] 27)))
                      refine wpAnyH_take (i := 31) (oi := _) (v := ?_) rfl (by kernel_rfl) (by kernel_rfl) (by kernel_rfl) (fun _ _ _ h => h) (Or.inl ⟨by rfl, ?_⟩) (by assumption) ?_
                      rotate_left
                      · intro w hSw
                        try dsimp only at hSw
                        go_simp
                        all_goals with_reducible rfl
                      (try simp only [List.getElem_toArray]); (try simp only [List.getElem_cons_succ]); (try simp only [List.getElem_cons_zero]); try simp only [Act.put, List.setIfInBounds_toArray, List.set_cons_zero, List.set_cons_succ]
                      refine wpAnyH_ready (rs := [33]) (by kernel_rfl) (by simp) ?_
                      refine (AllReadyH.cons (o := _) rfl (fun K hK => ?_) AllReadyH.nil)
                      · refine step_store_tcp ?_ (.tmp 9) (.tmp 72) ?_ V.heap.size _ (pC sp dp sq ak fl wn ur (.slice da ds.length dc) (.slice none 0 0) tOpt0) ?_ ?_ K2.out ?_ ?_ ?_ ?_
                        · rfl
                        · rfl
                        · rfl
                        · rfl
                        · rfl
                        · rfl
                        · simp [pC, Value.oneCell']
                        intro V5 h5 g5
                        have hs2 := Lib.hid h5
                        have hg2 := Lib.hid g5
                        have c13y := (World.cell?_of_block (w := V2) (w' := V5) (g5.block b (by have := hbb.out.size; have := lz1.out; omega) (fun e => nV (Option.some.inj e)))).trans c13z
                        clear h5 g5
                        refine hK.out _ _ ?_ (fun hHeld => ?_)
                        · exact c13y
                        clear hK K
                        refine wpAnyH_done (by kernel_rfl) ?_ _
                        go_wp2
                        go_meet
                        case rel => exact PcCut.one K.out Q.out hV hO.out hbb.out hs2.out hg2.out
              · (try simp only [List.getElem_toArray]); (try simp only [List.getElem_cons_succ]); (try simp only [List.getElem_cons_zero])
                go_simp
                refine hK.out _ _ ?_ (fun hHeld => ?_)
                · exact c13a
                clear hK K
                (try simp only [List.getElem_toArray]); (try simp only [List.getElem_cons_succ]); (try simp only [List.getElem_cons_zero]); try simp only [Act.put, List.setIfInBounds_toArray, List.set_cons_zero, List.set_cons_succ]
                refine wpAnyH_ready (rs := [21]) (by kernel_rfl) (by simp) ?_
                refine (AllReadyH.cons (o := _) rfl (fun K hK => ?_) AllReadyH.nil)
                · (try simp only [List.getElem_toArray]); (try simp only [List.getElem_cons_succ]); (try simp only [List.getElem_cons_zero])
                  go_simp
                  go_at_call 30
                  (with_reducible refine (HnE.out _ _ (by first | exact q0.out | exact q1.out)).mono ?_)
                  rintro e w' ⟨rfl, rfl⟩
                  try dsimp only
                  refine hK.out _ _ ?_ (fun hHeld => ?_)
                  · first | exact c13 | exact c13z | exact c13a | exact c13b | go_keep
                  clear hK K
                  (try simp only [List.getElem_toArray]); (try simp only [List.getElem_cons_succ]); (try simp only [List.getElem_cons_zero]); try simp only [Act.put, List.setIfInBounds_toArray, List.set_cons_zero, List.set_cons_succ]
                  refine wpAnyH_take (i := 22) (oi := _) (v := ?_) rfl (by kernel_rfl) (by kernel_rfl) (by kernel_rfl) (fun _ _ _ h => h) (Or.inl ⟨by rfl, ?_⟩) (by assumption) ?_
                  rotate_left
                  · intro w hSw
                    try dsimp only at hSw
                    go_simp
                    all_goals with_reducible rfl
                  (try simp only [List.getElem_toArray]); (try simp only [List.getElem_cons_succ]); (try simp only [List.getElem_cons_zero]); try simp only [Act.put, List.setIfInBounds_toArray, List.set_cons_zero, List.set_cons_succ]
                  refine wpAnyH_ready (rs := [25]) (by kernel_rfl) (by simp) ?_
                  refine (AllReadyH.cons (o := _) rfl (fun K hK => ?_) AllReadyH.nil)
                  · (try simp only [List.getElem_toArray]); (try simp only [List.getElem_cons_succ]); (try simp only [List.getElem_cons_zero])
                    go_simp
                    go_at_call 30
                    (with_reducible refine (HnF.out _ _ (by first | exact q0.out | exact q1.out)).mono ?_)
                    rintro e w' ⟨rfl, rfl⟩
                    try dsimp only
                    refine hK.out _ _ ?_ (fun hHeld => ?_)
                    · first | exact c13 | exact c13z | exact c13a | exact c13b | go_keep
                    clear hK K
                    (try simp only [List.getElem_toArray]); (try simp only [List.getElem_cons_succ]); (try simp only [List.getElem_cons_zero]); try simp only [Act.put, List.setIfInBounds_toArray, List.set_cons_zero, List.set_cons_succ]
                    refine wpAnyH_take (i := 26) (oi := _) (v := ?_) rfl (by kernel_rfl) (by kernel_rfl) (by kernel_rfl) (fun _ _ _ h => h) (Or.inl ⟨by rfl, ?_⟩) (by assumption) ?_
                    rotate_left
                    · intro w hSw
                      try dsimp only at hSw
                      go_simp
                      all_goals with_reducible rfl
                    (try simp only [List.getElem_toArray]); (try simp only [List.getElem_cons_succ]); (try simp only [List.getElem_cons_zero]); try simp only [Act.put, List.setIfInBounds_toArray, List.set_cons_zero, List.set_cons_succ]
                    refine wpAnyH_ready (rs := [30]) (by kernel_rfl) (by simp) ?_
                    refine (AllReadyH.cons (o := _) rfl (fun K hK => ?_) AllReadyH.nil)
                    · refine step_append_new rfl _ _ rfl _ HMl.out (HY.out _ _ q1.out rfl) (fun h => by cases h) rfl rfl hlen (Nat.le_refl _) ?_
                      intro da dc V2 O bb
                      have c13z := (bb.cell (p := ⟨b, off + 13, none⟩) c13l1.out).trans c13a
                      have hO := Lib.hid O
                      have hbb := Lib.hid bb
                      clear O bb
                      refine hK.out _ _ ?_ (fun hHeld => ?_)
                      · first | exact c13 | exact c13z | exact c13a | exact c13b | go_keep
                      clear hK K
                      (try simp only [List.getElem_toArray]); (try simp only [List.getElem_cons_succ]); (try simp only [List.getElem_cons_zero]); try simp only [Act.put, List.setIfInBounds_toArray, List.set_cons_zero, List.set_cons_succ]
                      have K2 := Lib.hid ((hbb.out.block V.heap.size lz1.out).trans (blk_new V (.cells #[.int .u16 0, .int .u16 0, .int .u32 0, .int .u32 0, .int .u8 0, .int .u16 0, .int .u16 0, .int .i64 0, .bool false, .int .i64 0, .bool false, .slice none 0 0, .bool false, .int .u32 0, .int .u32 0, .slice none 0 0] 27)))
                      refine wpAnyH_take (i := 31) (oi := _) (v := ?_) rfl (by kernel_rfl) (by kernel_rfl) (by kernel_rfl) (fun _ _ _ h => h) (Or.inl ⟨by rfl, ?_⟩) (by assumption) ?_
                      rotate_left
                      · intro w hSw
                        try dsimp only at hSw
                        go_simp
                        all_goals with_reducible rfl
                      (try simp only [List.getElem_toArray]); (try simp only [List.getElem_cons_succ]); (try simp only [List.getElem_cons_zero]); try simp only [Act.put, List.setIfInBounds_toArray, List.set_cons_zero, List.set_cons_succ]
                      refine wpAnyH_ready (rs := [33]) (by kernel_rfl) (by simp) ?_
                      refine (AllReadyH.cons (o := _) rfl (fun K hK => ?_) AllReadyH.nil)
                      · refine step_store_tcp ?_ (.tmp 9) (.tmp 72) ?_ V.heap.size _ (pC sp dp sq ak fl wn ur (.slice da ds.length dc) (.slice none 0 0) tOpt0) ?_ ?_ K2.out ?_ ?_ ?_ ?_
                        · rfl
                        · rfl
                        · rfl
                        · rfl
                        · rfl
                        · rfl
                        · simp [pC, Value.oneCell']
                        intro V5 h5 g5
                        have hs2 := Lib.hid h5
                        have hg2 := Lib.hid g5
                        have c13y := (World.cell?_of_block (w := V2) (w' := V5) (g5.block b (by have := hbb.out.size; have := lz1.out; omega) (fun e => nV (Option.some.inj e)))).trans c13z
                        clear h5 g5
                        refine hK.out _ _ ?_ (fun hHeld => ?_)
                        · exact c13y
                        clear hK K
                        refine wpAnyH_done (by kernel_rfl) ?_ _
                        go_wp2
                        go_meet
                        case rel => exact PcCut.one K.out Q.out hV hO.out hbb.out hs2.out hg2.out
            · (try simp only [List.getElem_toArray]); (try simp only [List.getElem_cons_succ]); (try simp only [List.getElem_cons_zero])
              go_simp
              refine hK.out _ _ ?_ (fun hHeld => ?_)
              · exact c13a
              clear hK K
              (try simp only [List.getElem_toArray]); (try simp only [List.getElem_cons_succ]); (try simp only [List.getElem_cons_zero]); try simp only [Act.put, List.setIfInBounds_toArray, List.set_cons_zero, List.set_cons_succ]
              refine wpAnyH_ready (rs := [14]) (by kernel_rfl) (by simp) ?_
              refine (AllReadyH.cons (o := _) rfl (fun K hK => ?_) AllReadyH.nil)
              · (try simp only [List.getElem_toArray]); (try simp only [List.getElem_cons_succ]); (try simp only [List.getElem_cons_zero])
                go_simp
                go_at_call 30
                (with_reducible refine (HnD.out _ _ (by first | exact q0.out | exact q1.out)).mono ?_)
                rintro e w' ⟨rfl, rfl⟩
                try dsimp only
                refine hK.out _ _ ?_ (fun hHeld => ?_)
                · first | exact c13 | exact c13z | exact c13a | exact c13b | go_keep
                clear hK K
                (try simp only [List.getElem_toArray]); (try simp only [List.getElem_cons_succ]); (try simp only [List.getElem_cons_zero]); try simp only [Act.put, List.setIfInBounds_toArray, List.set_cons_zero, List.set_cons_succ]
                refine wpAnyH_take (i := 15) (oi := _) (v := ?_) rfl (by kernel_rfl) (by kernel_rfl) (by kernel_rfl) (fun _ _ _ h => h) (Or.inl ⟨by rfl, ?_⟩) (by assumption) ?_
                rotate_left
                · intro w hSw
                  try dsimp only at hSw
                  go_simp
                  all_goals with_reducible rfl
                (try simp only [List.getElem_toArray]); (try simp only [List.getElem_cons_succ]); (try simp only [List.getElem_cons_zero]); try simp only [Act.put, List.setIfInBounds_toArray, List.set_cons_zero, List.set_cons_succ]
                refine wpAnyH_ready (rs := [21]) (by kernel_rfl) (by simp) ?_
                refine (AllReadyH.cons (o := _) rfl (fun K hK => ?_) AllReadyH.nil)
                · (try simp only [List.getElem_toArray]); (try simp only [List.getElem_cons_succ]); (try simp only [List.getElem_cons_zero])
                  go_simp
                  go_at_call 30
                  (with_reducible refine (HnE.out _ _ (by first | exact q0.out | exact q1.out)).mono ?_)
                  rintro e w' ⟨rfl, rfl⟩
                  try dsimp only
                  refine hK.out _ _ ?_ (fun hHeld => ?_)
                  · first | exact c13 | exact c13z | exact c13a | exact c13b | go_keep
                  clear hK K
                  (try simp only [List.getElem_toArray]); (try simp only [List.getElem_cons_succ]); (try simp only [List.getElem_cons_zero]); try simp only [Act.put, List.setIfInBounds_toArray, List.set_cons_zero, List.set_cons_succ]
                  refine wpAnyH_take (i := 22) (oi := _) (v := ?_) rfl (by kernel_rfl) (by kernel_rfl) (by kernel_rfl) (fun _ _ _ h => h) (Or.inl ⟨by rfl, ?_⟩) (by assumption) ?_
                  rotate_left
                  · intro w hSw
                    try dsimp only at hSw
                    go_simp
                    all_goals with_reducible rfl
                  (try simp only [List.getElem_toArray]); (try simp only [List.getElem_cons_succ]); (try simp only [List.getElem_cons_zero]); try simp only [Act.put, List.setIfInBounds_toArray, List.set_cons_zero, List.set_cons_succ]
                  refine wpAnyH_ready (rs := [25]) (by kernel_rfl) (by simp) ?_
                  refine (AllReadyH.cons (o := _) rfl (fun K hK => ?_) AllReadyH.nil)
                  · (try simp only [List.getElem_toArray]); (try simp only [List.getElem_cons_succ]); (try simp only [List.getElem_cons_zero])
                    go_simp
                    go_at_call 30
                    (with_reducible refine (HnF.out _ _ (by first | exact q0.out | exact q1.out)).mono ?_)
                    rintro e w' ⟨rfl, rfl⟩
                    try dsimp only
                    refine hK.out _ _ ?_ (fun hHeld => ?_)
                    · first | exact c13 | exact c13z | exact c13a | exact c13b | go_keep
                    clear hK K
                    (try simp only [List.getElem_toArray]); (try simp only [List.getElem_cons_succ]); (try simp only [List.getElem_cons_zero]); try simp only [Act.put, List.setIfInBounds_toArray, List.set_cons_zero, List.set_cons_succ]
                    refine wpAnyH_take (i := 26) (oi := _) (v := ?_) rfl (by kernel_rfl) (by kernel_rfl) (by kernel_rfl) (fun _ _ _ h => h) (Or.inl ⟨by rfl, ?_⟩) (by assumption) ?_
                    rotate_left
                    · intro w hSw
                      try dsimp only at hSw
                      go_simp
                      all_goals with_reducible rfl
                    (try simp only [List.getElem_toArray]); (try simp only [List.getElem_cons_succ]); (try simp only [List.getElem_cons_zero]); try simp only [Act.put, List.setIfInBounds_toArray, List.set_cons_zero, List.set_cons_succ]
                    refine wpAnyH_ready (rs := [30]) (by kernel_rfl) (by simp) ?_
                    refine (AllReadyH.cons (o := _) rfl (fun K hK => ?_) AllReadyH.nil)
                    · refine step_append_new rfl _ _ rfl _ HMl.out (HY.out _ _ q1.out rfl) (fun h => by cases h) rfl rfl hlen (Nat.le_refl _) ?_
                      intro da dc V2 O bb
                      have c13z := (bb.cell (p := ⟨b, off + 13, none⟩) c13l1.out).trans c13a
                      have hO := Lib.hid O
                      have hbb := Lib.hid bb
                      clear O bb
                      refine hK.out _ _ ?_ (fun hHeld => ?_)
                      · first | exact c13 | exact c13z | exact c13a | exact c13b | go_keep
                      clear hK K
                      (try simp only [List.getElem_toArray]); (try simp only [List.getElem_cons_succ]); (try simp only [List.getElem_cons_zero]); try simp only [Act.put, List.setIfInBounds_toArray, List.set_cons_zero, List.set_cons_succ]
                      have K2 := Lib.hid ((hbb.out.block V.heap.size lz1.out).trans (blk_new V (.cells #[.int .u16 0, .int .u16 0, .int .u32 0, .int .u32 0, .int .u8 0, .int .u16 0, .int .u16 0, .int .i64 0, .bool false, .int .i64 0, .bool false, .slice none 0 0, .bool false, .int .u32 0, .int .u32 0, .slice none 0 0] 27)))
                      refine wpAnyH_take (i := 31) (oi := _) (v := ?_) rfl (by kernel_rfl) (by kernel_rfl) (by kernel_rfl) (fun _ _ _ h => h) (Or.inl ⟨by rfl, ?_⟩) (by assumption) ?_
                      rotate_left
                      · intro w hSw
                        try dsimp only at hSw
                        go_simp
                        all_goals with_reducible rfl
                      (try simp only [List.getElem_toArray]); (try simp only [List.getElem_cons_succ]); (try simp only [List.getElem_cons_zero]); try simp only [Act.put, List.setIfInBounds_toArray, List.set_cons_zero, List.set_cons_succ]
                      refine wpAnyH_ready (rs := [33]) (by kernel_rfl) (by simp) ?_
                      refine (AllReadyH.cons (o := _) rfl (fun K hK => ?_) AllReadyH.nil)
                      · refine step_store_tcp ?_ (.tmp 9) (.tmp 72) ?_ V.heap.size _ (pC sp dp sq ak fl wn ur (.slice da ds.length dc) (.slice none 0 0) tOpt0) ?_ ?_ K2.out ?_ ?_ ?_ ?_
                        · rfl
                        · rfl
                        · rfl
                        · rfl
                        · rfl
                        · rfl
                        · simp [pC, Value.oneCell']
                        intro V5 h5 g5
                        have hs2 := Lib.hid h5
                        have hg2 := Lib.hid g5
                        have c13y := (World.cell?_of_block (w := V2) (w' := V5) (g5.block b (by have := hbb.out.size; have := lz1.out; omega) (fun e => nV (Option.some.inj e)))).trans c13z
                        clear h5 g5
                        refine hK.out _ _ ?_ (fun hHeld => ?_)
                        · exact c13y
                        clear hK K
                        refine wpAnyH_done (by kernel_rfl) ?_ _
                        go_wp2
                        go_meet
                        case rel => exact PcCut.one K.out Q.out hV hO.out hbb.out hs2.out hg2.out
          · (try simp only [List.getElem_toArray]); (try simp only [List.getElem_cons_succ]); (try simp only [List.getElem_cons_zero])
            go_simp
            refine hK.out _ _ ?_ (fun hHeld => ?_)
            · exact c13a
            clear hK K
            (try simp only [List.getElem_toArray]); (try simp only [List.getElem_cons_succ]); (try simp only [List.getElem_cons_zero]); try simp only [Act.put, List.setIfInBounds_toArray, List.set_cons_zero, List.set_cons_succ]
            refine wpAnyH_ready (rs := [10]) (by kernel_rfl) (by simp) ?_
            refine (AllReadyH.cons (o := _) rfl (fun K hK => ?_) AllReadyH.nil)
            · (try simp only [List.getElem_toArray]); (try simp only [List.getElem_cons_succ]); (try simp only [List.getElem_cons_zero])
              go_simp
              go_at_call 30
              (with_reducible refine (HnC.out _ _ (by first | exact q0.out | exact q1.out)).mono ?_)
              rintro e w' ⟨rfl, rfl⟩
              try dsimp only
              refine hK.out _ _ ?_ (fun hHeld => ?_)
              · first | exact c13 | exact c13z | exact c13a | exact c13b | go_keep
              clear hK K
              (try simp only [List.getElem_toArray]); (try simp only [List.getElem_cons_succ]); (try simp only [List.getElem_cons_zero]); try simp only [Act.put, List.setIfInBounds_toArray, List.set_cons_zero, List.set_cons_succ]
              refine wpAnyH_take (i := 11) (oi := _) (v := ?_) rfl (by kernel_rfl) (by kernel_rfl) (by kernel_rfl) (fun _ _ _ h => h) (Or.inl ⟨by rfl, ?_⟩) (by assumption) ?_
              rotate_left
              · intro w hSw
                try dsimp only at hSw
                go_simp
                all_goals with_reducible rfl
              (try simp only [List.getElem_toArray]); (try simp only [List.getElem_cons_succ]); (try simp only [List.getElem_cons_zero]); try simp only [Act.put, List.setIfInBounds_toArray, List.set_cons_zero, List.set_cons_succ]
              refine wpAnyH_ready (rs := [14]) (by kernel_rfl) (by simp) ?_
              refine (AllReadyH.cons (o := _) rfl (fun K hK => ?_) AllReadyH.nil)
              · (try simp only [List.getElem_toArray]); (try simp only [List.getElem_cons_succ]); (try simp only [List.getElem_cons_zero])
                go_simp
                go_at_call 30
                (with_reducible refine (HnD.out _ _ (by first | exact q0.out | exact q1.out)).mono ?_)
                rintro e w' ⟨rfl, rfl⟩
                try dsimp only
                refine hK.out _ _ ?_ (fun hHeld => ?_)
                · first | exact c13 | exact c13z | exact c13a | exact c13b | go_keep
                clear hK K
                (try simp only [List.getElem_toArray]); (try simp only [List.getElem_cons_succ]); (try simp only [List.getElem_cons_zero]); try simp only [Act.put, List.setIfInBounds_toArray, List.set_cons_zero, List.set_cons_succ]
                refine wpAnyH_take (i := 15) (oi := _) (v := ?_) rfl (by kernel_rfl) (by kernel_rfl) (by kernel_rfl) (fun _ _ _ h => h) (Or.inl ⟨by rfl, ?_⟩) (by assumption) ?_
                rotate_left
                · intro w hSw
                  try dsimp only at hSw
                  go_simp
                  all_goals with_reducible rfl
                (try simp only [List.getElem_toArray]); (try simp only [List.getElem_cons_succ]); (try simp only [List.getElem_cons_zero]); try simp only [Act.put, List.setIfInBounds_toArray, List.set_cons_zero, List.set_cons_succ]
                refine wpAnyH_ready (rs := [21]) (by kernel_rfl) (by simp) ?_
                refine (AllReadyH.cons (o := _) rfl (fun K hK => ?_) AllReadyH.nil)
                · (try simp only [List.getElem_toArray]); (try simp only [List.getElem_cons_succ]); (try simp only [List.getElem_cons_zero])
                  go_simp
                  go_at_call 30
                  (with_reducible refine (HnE.out _ _ (by first | exact q0.out | exact q1.out)).mono ?_)
                  rintro e w' ⟨rfl, rfl⟩
                  try dsimp only
                  refine hK.out _ _ ?_ (fun hHeld => ?_)
                  · first | exact c13 | exact c13z | exact c13a | exact c13b | go_keep
                  clear hK K
                  (try simp only [List.getElem_toArray]); (try simp only [List.getElem_cons_succ]); (try simp only [List.getElem_cons_zero]); try simp only [Act.put, List.setIfInBounds_toArray, List.set_cons_zero, List.set_cons_succ]
                  refine wpAnyH_take (i := 22) (oi := _) (v := ?_) rfl (by kernel_rfl) (by kernel_rfl) (by kernel_rfl) (fun _ _ _ h => h) (Or.inl ⟨by rfl, ?_⟩) (by assumption) ?_
                  rotate_left
                  · intro w hSw
                    try dsimp only at hSw
                    go_simp
                    all_goals with_reducible rfl
                  (try simp only [List.getElem_toArray]); (try simp only [List.getElem_cons_succ]); (try simp only [List.getElem_cons_zero]); try simp only [Act.put, List.setIfInBounds_toArray, List.set_cons_zero, List.set_cons_succ]
                  refine wpAnyH_ready (rs := [25]) (by kernel_rfl) (by simp) ?_
                  refine (AllReadyH.cons (o := _) rfl (fun K hK => ?_) AllReadyH.nil)
                  · (try simp only [List.getElem_toArray]); (try simp only [List.getElem_cons_succ]); (try simp only [List.getElem_cons_zero])
                    go_simp
                    go_at_call 30
                    (with_reducible refine (HnF.out _ _ (by first | exact q0.out | exact q1.out)).mono ?_)
                    rintro e w' ⟨rfl, rfl⟩
                    try dsimp only
                    refine hK.out _ _ ?_ (fun hHeld => ?_)
                    · first | exact c13 | exact c13z | exact c13a | exact c13b | go_keep
                    clear hK K
                    (try simp only [List.getElem_toArray]); (try simp only [List.getElem_cons_succ]); (try simp only [List.getElem_cons_zero]); try simp only [Act.put, List.setIfInBounds_toArray, List.set_cons_zero, List.set_cons_succ]
                    refine wpAnyH_take (i := 26) (oi := _) (v := ?_) rfl (by kernel_rfl) (by kernel_rfl) (by kernel_rfl) (fun _ _ _ h => h) (Or.inl ⟨by rfl, ?_⟩) (by assumption) ?_
                    rotate_left
                    · intro w hSw
                      try dsimp only at hSw
                      go_simp
                      all_goals with_reducible rfl
                    (try simp only [List.getElem_toArray]); (try simp only [List.getElem_cons_succ]); (try simp only [List.getElem_cons_zero]); try simp only [Act.put, List.setIfInBounds_toArray, List.set_cons_zero, List.set_cons_succ]
                    refine wpAnyH_ready (rs := [30]) (by kernel_rfl) (by simp) ?_
                    refine (AllReadyH.cons (o := _) rfl (fun K hK => ?_) AllReadyH.nil)
                    · refine step_append_new rfl _ _ rfl _ HMl.out (HY.out _ _ q1.out rfl) (fun h => by cases h) rfl rfl hlen (Nat.le_refl _) ?_
                      intro da dc V2 O bb
                      have c13z := (bb.cell (p := ⟨b, off + 13, none⟩) c13l1.out).trans c13a
                      have hO := Lib.hid O
                      have hbb := Lib.hid bb
                      clear O bb
                      refine hK.out _ _ ?_ (fun hHeld => ?_)
                      · first | exact c13 | exact c13z | exact c13a | exact c13b | go_keep
                      clear hK K
                      (try simp only [List.getElem_toArray]); (try simp only [List.getElem_cons_succ]); (try simp only [List.getElem_cons_zero]); try simp only [Act.put, List.setIfInBounds_toArray, List.set_cons_zero, List.set_cons_succ]
                      have K2 := Lib.hid ((hbb.out.block V.heap.size lz1.out).trans (blk_new V (.cells #[.int .u16 0, .int .u16 0, .int .u32 0, .int .u32 0, .int .u8 0, .int .u16 0, .int .u16 0, .int .i64 0, .bool false, .int .i64 0, .bool false, .slice none 0 0, .bool false, .int .u32 0, .int .u32 0, .slice none 0 0] 27)))
                      refine wpAnyH_take (i := 31) (oi := _) (v := ?_) rfl (by kernel_rfl) (by kernel_rfl) (by kernel_rfl) (fun _ _ _ h => h) (Or.inl ⟨by rfl, ?_⟩) (by assumption) ?_
                      rotate_left
                      · intro w hSw
                        try dsimp only at hSw
                        go_simp
                        all_goals with_reducible rfl
                      (try simp only [List.getElem_toArray]); (try simp only [List.getElem_cons_succ]); (try simp only [List.getElem_cons_zero]); try simp only [Act.put, List.setIfInBounds_toArray, List.set_cons_zero, List.set_cons_succ]
                      refine wpAnyH_ready (rs := [33]) (by kernel_rfl) (by simp) ?_
                      refine (AllReadyH.cons (o := _) rfl (fun K hK => ?_) AllReadyH.nil)
                      · refine step_store_tcp ?_ (.tmp 9) (.tmp 72) ?_ V.heap.size _ (pC sp dp sq ak fl wn ur (.slice da ds.length dc) (.slice none 0 0) tOpt0) ?_ ?_ K2.out ?_ ?_ ?_ ?_
                        · rfl
                        · rfl
                        · rfl
                        · rfl
                        · rfl
                        · rfl
                        · simp [pC, Value.oneCell']
                        intro V5 h5 g5
                        have hs2 := Lib.hid h5
                        have hg2 := Lib.hid g5
                        have c13y := (World.cell?_of_block (w := V2) (w' := V5) (g5.block b (by have := hbb.out.size; have := lz1.out; omega) (fun e => nV (Option.some.inj e)))).trans c13z
                        clear h5 g5
                        refine hK.out _ _ ?_ (fun hHeld => ?_)
                        · exact c13y
                        clear hK K
                        refine wpAnyH_done (by kernel_rfl) ?_ _
                        go_wp2
                        go_meet
                        case rel => exact PcCut.one K.out Q.out hV hO.out hbb.out hs2.out hg2.out
        · (try simp only [List.getElem_toArray]); (try simp only [List.getElem_cons_succ]); (try simp only [List.getElem_cons_zero])
          go_simp
          refine hK.out _ _ ?_ (fun hHeld => ?_)
          · exact c13a
          clear hK K
          (try simp only [List.getElem_toArray]); (try simp only [List.getElem_cons_succ]); (try simp only [List.getElem_cons_zero]); try simp only [Act.put, List.setIfInBounds_toArray, List.set_cons_zero, List.set_cons_succ]
          refine wpAnyH_ready (rs := [6]) (by kernel_rfl) (by simp) ?_
          refine (AllReadyH.cons (o := _) rfl (fun K hK => ?_) AllReadyH.nil)
          · (try simp only [List.getElem_toArray]); (try simp only [List.getElem_cons_succ]); (try simp only [List.getElem_cons_zero])
            go_simp
            go_at_call 30
            (with_reducible refine (HnB.out _ _ (by first | exact q0.out | exact q1.out)).mono ?_)
            rintro e w' ⟨rfl, rfl⟩
            try dsimp only
            refine hK.out _ _ ?_ (fun hHeld => ?_)
            · first | exact c13 | exact c13z | exact c13a | exact c13b | go_keep
            clear hK K
            (try simp only [List.getElem_toArray]); (try simp only [List.getElem_cons_succ]); (try simp only [List.getElem_cons_zero]); try simp only [Act.put, List.setIfInBounds_toArray, List.set_cons_zero, List.set_cons_succ]
            refine wpAnyH_take (i := 7) (oi := _) (v := ?_) rfl (by kernel_rfl) (by kernel_rfl) (by kernel_rfl) (fun _ _ _ h => h) (Or.inl ⟨by rfl, ?_⟩) (by assumption) ?_
            rotate_left
            · intro w hSw
              try dsimp only at hSw
              go_simp
              all_goals with_reducible rfl
            (try simp only [List.getElem_toArray]); (try simp only [List.getElem_cons_succ]); (try simp only [List.getElem_cons_zero]); try simp only [Act.put, List.setIfInBounds_toArray, List.set_cons_zero, List.set_cons_succ]
            refine wpAnyH_ready (rs := [10]) (by kernel_rfl) (by simp) ?_
            refine (AllReadyH.cons (o := _) rfl (fun K hK => ?_) AllReadyH.nil)
            · (try simp only [List.getElem_toArray]); (try simp only [List.getElem_cons_succ]); (try simp only [List.getElem_cons_zero])
              go_simp
              go_at_call 30
              (with_reducible refine (HnC.out _ _ (by first | exact q0.out | exact q1.out)).mono ?_)
              rintro e w' ⟨rfl, rfl⟩
              try dsimp only
              refine hK.out _ _ ?_ (fun hHeld => ?_)
              · first | exact c13 | exact c13z | exact c13a | exact c13b | go_keep
              clear hK K
              (try simp only [List.getElem_toArray]); (try simp only [List.getElem_cons_succ]); (try simp only [List.getElem_cons_zero]); try simp only [Act.put, List.setIfInBounds_toArray, List.set_cons_zero, List.set_cons_succ]
              refine wpAnyH_take (i := 11) (oi := _) (v := ?_) rfl (by kernel_rfl) (by kernel_rfl) (by kernel_rfl) (fun _ _ _ h => h) (Or.inl ⟨by rfl, ?_⟩) (by assumption) ?_
              rotate_left
              · intro w hSw
                try dsimp only at hSw
                go_simp
                all_goals with_reducible rfl
              (try simp only [List.getElem_toArray]); (try simp only [List.getElem_cons_succ]); (try simp only [List.getElem_cons_zero]); try simp only [Act.put, List.setIfInBounds_toArray, List.set_cons_zero, List.set_cons_succ]
              refine wpAnyH_ready (rs := [14]) (by kernel_rfl) (by simp) ?_
              refine (AllReadyH.cons (o := _) rfl (fun K hK => ?_) AllReadyH.nil)
              · (try simp only [List.getElem_toArray]); (try simp only [List.getElem_cons_succ]); (try simp only [List.getElem_cons_zero])
                go_simp
                go_at_call 30
                (with_reducible refine (HnD.out _ _ (by first | exact q0.out | exact q1.out)).mono ?_)
                rintro e w' ⟨rfl, rfl⟩
                try dsimp only
                refine hK.out _ _ ?_ (fun hHeld => ?_)
                · first | exact c13 | exact c13z | exact c13a | exact c13b | go_keep
                clear hK K
                (try simp only [List.getElem_toArray]); (try simp only [List.getElem_cons_succ]); (try simp only [List.getElem_cons_zero]); try simp only [Act.put, List.setIfInBounds_toArray, List.set_cons_zero, List.set_cons_succ]
                refine wpAnyH_take (i := 15) (oi := _) (v := ?_) rfl (by kernel_rfl) (by kernel_rfl) (by kernel_rfl) (fun _ _ _ h => h) (Or.inl ⟨by rfl, ?_⟩) (by assumption) ?_
                rotate_left
                · intro w hSw
                  try dsimp only at hSw
                  go_simp
                  all_goals with_reducible rfl
                (try simp only [List.getElem_toArray]); (try simp only [List.getElem_cons_succ]); (try simp only [List.getElem_cons_zero]); try simp only [Act.put, List.setIfInBounds_toArray, List.set_cons_zero, List.set_cons_succ]
                refine wpAnyH_ready (rs := [21]) (by kernel_rfl) (by simp) ?_
                refine (AllReadyH.cons (o := _) rfl (fun K hK => ?_) AllReadyH.nil)
                · (try simp only [List.getElem_toArray]); (try simp only [List.getElem_cons_succ]); (try simp only [List.getElem_cons_zero])
                  go_simp
                  go_at_call 30
                  (with_reducible refine (HnE.out _ _ (by first | exact q0.out | exact q1.out)).mono ?_)
                  rintro e w' ⟨rfl, rfl⟩
                  try dsimp only
                  refine hK.out _ _ ?_ (fun hHeld => ?_)
                  · first | exact c13 | exact c13z | exact c13a | exact c13b | go_keep
                  clear hK K
                  (try simp only [List.getElem_toArray]); (try simp only [List.getElem_cons_succ]); (try simp only [List.getElem_cons_zero]); try simp only [Act.put, List.setIfInBounds_toArray, List.set_cons_zero, List.set_cons_succ]
                  refine wpAnyH_take (i := 22) (oi := _) (v := ?_) rfl (by kernel_rfl) (by kernel_rfl) (by kernel_rfl) (fun _ _ _ h => h) (Or.inl ⟨by rfl, ?_⟩) (by assumption) ?_
                  rotate_left
                  · intro w hSw
                    try dsimp only at hSw
                    go_simp
                    all_goals with_reducible rfl
                  (try simp only [List.getElem_toArray]); (try simp only [List.getElem_cons_succ]); (try simp only [List.getElem_cons_zero]); try simp only [Act.put, List.setIfInBounds_toArray, List.set_cons_zero, List.set_cons_succ]
                  refine wpAnyH_ready (rs := [25]) (by kernel_rfl) (by simp) ?_
                  refine (AllReadyH.cons (o := _) rfl (fun K hK => ?_) AllReadyH.nil)
                  · (try simp only [List.getElem_toArray]); (try simp only [List.getElem_cons_succ]); (try simp only [List.getElem_cons_zero])
                    go_simp
                    go_at_call 30
                    (with_reducible refine (HnF.out _ _ (by first | exact q0.out | exact q1.out)).mono ?_)
                    rintro e w' ⟨rfl, rfl⟩
                    try dsimp only
                    refine hK.out _ _ ?_ (fun hHeld => ?_)
                    · first | exact c13 | exact c13z | exact c13a | exact c13b | go_keep
                    clear hK K
                    (try simp only [List.getElem_toArray]); (try simp only [List.getElem_cons_succ]); (try simp only [List.getElem_cons_zero]); try simp only [Act.put, List.setIfInBounds_toArray, List.set_cons_zero, List.set_cons_succ]
                    refine wpAnyH_take (i := 26) (oi := _) (v := ?_) rfl (by kernel_rfl) (by kernel_rfl) (by kernel_rfl) (fun _ _ _ h => h) (Or.inl ⟨by rfl, ?_⟩) (by assumption) ?_
                    rotate_left
                    · intro w hSw
                      try dsimp only at hSw
                      go_simp
                      all_goals with_reducible rfl
                    (try simp only [List.getElem_toArray]); (try simp only [List.getElem_cons_succ]); (try simp only [List.getElem_cons_zero]); try simp only [Act.put, List.setIfInBounds_toArray, List.set_cons_zero, List.set_cons_succ]
                    refine wpAnyH_ready (rs := [30]) (by kernel_rfl) (by simp) ?_
                    refine (AllReadyH.cons (o := _) rfl (fun K hK => ?_) AllReadyH.nil)
                    · refine step_append_new rfl _ _ rfl _ HMl.out (HY.out _ _ q1.out rfl) (fun h => by cases h) rfl rfl hlen (Nat.le_refl _) ?_
                      intro da dc V2 O bb
                      have c13z := (bb.cell (p := ⟨b, off + 13, none⟩) c13l1.out).trans c13a
                      have hO := Lib.hid O
                      have hbb := Lib.hid bb
                      clear O bb
                      refine hK.out _ _ ?_ (fun hHeld => ?_)
                      · first | exact c13 | exact c13z | exact c13a | exact c13b | go_keep
                      clear hK K
                      (try simp only [List.getElem_toArray]); (try simp only [List.getElem_cons_succ]); (try simp only [List.getElem_cons_zero]); try simp only [Act.put, List.setIfInBounds_toArray, List.set_cons_zero, List.set_cons_succ]
                      have K2 := Lib.hid ((hbb.out.block V.heap.size lz1.out).trans (blk_new V (.cells #[.int .u16 0, .int .u16 0, .int .u32 0, .int .u32 0, .int .u8 0, .int .u16 0, .int .u16 0, .int .i64 0, .bool false, .int .i64 0, .bool false, .slice none 0 0, .bool false, .int .u32 0, .int .u32 0, .slice none 0 0] 27)))
                      refine wpAnyH_take (i := 31) (oi := _) (v := ?_) rfl (by kernel_rfl) (by kernel_rfl) (by kernel_rfl) (fun _ _ _ h => h) (Or.inl ⟨by rfl, ?_⟩) (by assumption) ?_
                      rotate_left
                      · intro w hSw
                        try dsimp only at hSw
                        go_simp
                        all_goals with_reducible rfl
                      (try simp only [List.getElem_toArray]); (try simp only [List.getElem_cons_succ]); (try simp only [List.getElem_cons_zero]); try simp only [Act.put, List.setIfInBounds_toArray, List.set_cons_zero, List.set_cons_succ]
                      refine wpAnyH_ready (rs := [33]) (by kernel_rfl) (by simp) ?_
                      refine (AllReadyH.cons (o := _) rfl (fun K hK => ?_) AllReadyH.nil)
                      · refine step_store_tcp ?_ (.tmp 9) (.tmp 72) ?_ V.heap.size _ (pC sp dp sq ak fl wn ur (.slice da ds.length dc) (.slice none 0 0) tOpt0) ?_ ?_ K2.out ?_ ?_ ?_ ?_
                        · rfl
                        · rfl
                        · rfl
                        · rfl
                        · rfl
                        · rfl
                        · simp [pC, Value.oneCell']
                        intro V5 h5 g5
                        have hs2 := Lib.hid h5
                        have hg2 := Lib.hid g5
                        have c13y := (World.cell?_of_block (w := V2) (w' := V5) (g5.block b (by have := hbb.out.size; have := lz1.out; omega) (fun e => nV (Option.some.inj e)))).trans c13z
                        clear h5 g5
                        refine hK.out _ _ ?_ (fun hHeld => ?_)
                        · exact c13y
                        clear hK K
                        refine wpAnyH_done (by kernel_rfl) ?_ _
                        go_wp2
                        go_meet
                        case rel => exact PcCut.one K.out Q.out hV hO.out hbb.out hs2.out hg2.out
      · (try simp only [List.getElem_toArray]); (try simp only [List.getElem_cons_succ]); (try simp only [List.getElem_cons_zero])
        go_simp
        refine hK.out _ _ ?_ (fun hHeld => ?_)
        · exact c13a
        clear hK K
        (try simp only [List.getElem_toArray]); (try simp only [List.getElem_cons_succ]); (try simp only [List.getElem_cons_zero]); try simp only [Act.put, List.setIfInBounds_toArray, List.set_cons_zero, List.set_cons_succ]
        refine wpAnyH_ready (rs := [2]) (by kernel_rfl) (by simp) ?_
        refine (AllReadyH.cons (o := _) rfl (fun K hK => ?_) AllReadyH.nil)
        · (try simp only [List.getElem_toArray]); (try simp only [List.getElem_cons_succ]); (try simp only [List.getElem_cons_zero])
          go_simp
          go_at_call 30
          (with_reducible refine (HnA.out _ _ (by first | exact q0.out | exact q1.out)).mono ?_)
          rintro e w' ⟨rfl, rfl⟩
          try dsimp only
          refine hK.out _ _ ?_ (fun hHeld => ?_)
          · first | exact c13 | exact c13z | exact c13a | exact c13b | go_keep
          clear hK K
          (try simp only [List.getElem_toArray]); (try simp only [List.getElem_cons_succ]); (try simp only [List.getElem_cons_zero]); try simp only [Act.put, List.setIfInBounds_toArray, List.set_cons_zero, List.set_cons_succ]
          refine wpAnyH_take (i := 3) (oi := _) (v := ?_) rfl (by kernel_rfl) (by kernel_rfl) (by kernel_rfl) (fun _ _ _ h => h) (Or.inl ⟨by rfl, ?_⟩) (by assumption) ?_
          rotate_left
          · intro w hSw
            try dsimp only at hSw
            go_simp
            all_goals with_reducible rfl
          (try simp only [List.getElem_toArray]); (try simp only [List.getElem_cons_succ]); (try simp only [List.getElem_cons_zero]); try simp only [Act.put, List.setIfInBounds_toArray, List.set_cons_zero, List.set_cons_succ]
          refine wpAnyH_ready (rs := [6]) (by kernel_rfl) (by simp) ?_
          refine (AllReadyH.cons (o := _) rfl (fun K hK => ?_) AllReadyH.nil)
          · (try simp only [List.getElem_toArray]); (try simp only [List.getElem_cons_succ]); (try simp only [List.getElem_cons_zero])
            go_simp
            go_at_call 30
            (with_reducible refine (HnB.out _ _ (by first | exact q0.out | exact q1.out)).mono ?_)
            rintro e w' ⟨rfl, rfl⟩
            try dsimp only
            refine hK.out _ _ ?_ (fun hHeld => ?_)
            · first | exact c13 | exact c13z | exact c13a | exact c13b | go_keep
            clear hK K
            (try simp only [List.getElem_toArray]); (try simp only [List.getElem_cons_succ]); (try simp only [List.getElem_cons_zero]); try simp only [Act.put, List.setIfInBounds_toArray, List.set_cons_zero, List.set_cons_succ]
            refine wpAnyH_take (i := 7) (oi := _) (v := ?_) rfl (by kernel_rfl) (by kernel_rfl) (by kernel_rfl) (fun _ _ _ h => h) (Or.inl ⟨by rfl, ?_⟩) (by assumption) ?_
            rotate_left
            · intro w hSw
              try dsimp only at hSw
              go_simp
              all_goals with_reducible rfl
            (try simp only [List.getElem_toArray]); (try simp only [List.getElem_cons_succ]); (try simp only [List.getElem_cons_zero]); try simp only [Act.put, List.setIfInBounds_toArray, List.set_cons_zero, List.set_cons_succ]
            refine wpAnyH_ready (rs := [10]) (by kernel_rfl) (by simp) ?_
            refine (AllReadyH.cons (o := _) rfl (fun K hK => ?_) AllReadyH.nil)
            · (try simp only [List.getElem_toArray]); (try simp only [List.getElem_cons_succ]); (try simp only [List.getElem_cons_zero])
              go_simp
              go_at_call 30
              (with_reducible refine (HnC.out _ _ (by first | exact q0.out | exact q1.out)).mono ?_)
              rintro e w' ⟨rfl, rfl⟩
              try dsimp only
              refine hK.out _ _ ?_ (fun hHeld => ?_)
              · first | exact c13 | exact c13z | exact c13a | exact c13b | go_keep
              clear hK K
              (try simp only [List.getElem_toArray]); (try simp only [List.getElem_cons_succ]); (try simp only [List.getElem_cons_zero]); try simp only [Act.put, List.setIfInBounds_toArray, List.set_cons_zero, List.set_cons_succ]
              refine wpAnyH_take (i := 11) (oi := _) (v := ?_) rfl (by kernel_rfl) (by kernel_rfl) (by kernel_rfl) (fun _ _ _ h => h) (Or.inl ⟨by rfl, ?_⟩) (by assumption) ?_
              rotate_left
              · intro w hSw
                try dsimp only at hSw
                go_simp
                all_goals with_reducible rfl
              (try simp only [List.getElem_toArray]); (try simp only [List.getElem_cons_succ]); (try simp only [List.getElem_cons_zero]); try simp only [Act.put, List.setIfInBounds_toArray, List.set_cons_zero, List.set_cons_succ]
              refine wpAnyH_ready (rs := [14]) (by kernel_rfl) (by simp) ?_
              refine (AllReadyH.cons (o := _) rfl (fun K hK => ?_) AllReadyH.nil)
              · (try simp only [List.getElem_toArray]); (try simp only [List.getElem_cons_succ]); (try simp only [List.getElem_cons_zero])
                go_simp
                go_at_call 30
                (with_reducible refine (HnD.out _ _ (by first | exact q0.out | exact q1.out)).mono ?_)
                rintro e w' ⟨rfl, rfl⟩
                try dsimp only
                refine hK.out _ _ ?_ (fun hHeld => ?_)
                · first | exact c13 | exact c13z | exact c13a | exact c13b | go_keep
                clear hK K
                (try simp only [List.getElem_toArray]); (try simp only [List.getElem_cons_succ]); (try simp only [List.getElem_cons_zero]); try simp only [Act.put, List.setIfInBounds_toArray, List.set_cons_zero, List.set_cons_succ]
                refine wpAnyH_take (i := 15) (oi := _) (v := ?_) rfl (by kernel_rfl) (by kernel_rfl) (by kernel_rfl) (fun _ _ _ h => h) (Or.inl ⟨by rfl, ?_⟩) (by assumption) ?_
                rotate_left
                · intro w hSw
                  try dsimp only at hSw
                  go_simp
                  all_goals with_reducible rfl
                (try simp only [List.getElem_toArray]); (try simp only [List.getElem_cons_succ]); (try simp only [List.getElem_cons_zero]); try simp only [Act.put, List.setIfInBounds_toArray, List.set_cons_zero, List.set_cons_succ]
                refine wpAnyH_ready (rs := [21]) (by kernel_rfl) (by simp) ?_
                refine (AllReadyH.cons (o := _) rfl (fun K hK => ?_) AllReadyH.nil)
                · (try simp only [List.getElem_toArray]); (try simp only [List.getElem_cons_succ]); (try simp only [List.getElem_cons_zero])
                  go_simp
                  go_at_call 30
                  (with_reducible refine (HnE.out _ _ (by first | exact q0.out | exact q1.out)).mono ?_)
                  rintro e w' ⟨rfl, rfl⟩
                  try dsimp only
                  refine hK.out _ _ ?_ (fun hHeld => ?_)
                  · first | exact c13 | exact c13z | exact c13a | exact c13b | go_keep
                  clear hK K
                  (try simp only [List.getElem_toArray]); (try simp only [List.getElem_cons_succ]); (try simp only [List.getElem_cons_zero]); try simp only [Act.put, List.setIfInBounds_toArray, List.set_cons_zero, List.set_cons_succ]
                  refine wpAnyH_take (i := 22) (oi := _) (v := ?_) rfl (by kernel_rfl) (by kernel_rfl) (by kernel_rfl) (fun _ _ _ h => h) (Or.inl ⟨by rfl, ?_⟩) (by assumption) ?_
                  rotate_left
                  · intro w hSw
                    try dsimp only at hSw
                    go_simp
                    all_goals with_reducible rfl
                  (try simp only [List.getElem_toArray]); (try simp only [List.getElem_cons_succ]); (try simp only [List.getElem_cons_zero]); try simp only [Act.put, List.setIfInBounds_toArray, List.set_cons_zero, List.set_cons_succ]
                  refine wpAnyH_ready (rs := [25]) (by kernel_rfl) (by simp) ?_
                  refine (AllReadyH.cons (o := _) rfl (fun K hK => ?_) AllReadyH.nil)
                  · (try simp only [List.getElem_toArray]); (try simp only [List.getElem_cons_succ]); (try simp only [List.getElem_cons_zero])
                    go_simp
                    go_at_call 30
                    (with_reducible refine (HnF.out _ _ (by first | exact q0.out | exact q1.out)).mono ?_)
                    rintro e w' ⟨rfl, rfl⟩
                    try dsimp only
                    refine hK.out _ _ ?_ (fun hHeld => ?_)
                    · first | exact c13 | exact c13z | exact c13a | exact c13b | go_keep
                    clear hK K
                    (try simp only [List.getElem_toArray]); (try simp only [List.getElem_cons_succ]); (try simp only [List.getElem_cons_zero]); try simp only [Act.put, List.setIfInBounds_toArray, List.set_cons_zero, List.set_cons_succ]
                    refine wpAnyH_take (i := 26) (oi := _) (v := ?_) rfl (by kernel_rfl) (by kernel_rfl) (by kernel_rfl) (fun _ _ _ h => h) (Or.inl ⟨by rfl, ?_⟩) (by assumption) ?_
                    rotate_left
                    · intro w hSw
                      try dsimp only at hSw
                      go_simp
                      all_goals with_reducible rfl
                    (try simp only [List.getElem_toArray]); (try simp only [List.getElem_cons_succ]); (try simp only [List.getElem_cons_zero]); try simp only [Act.put, List.setIfInBounds_toArray, List.set_cons_zero, List.set_cons_succ]
                    refine wpAnyH_ready (rs := [30]) (by kernel_rfl) (by simp) ?_
                    refine (AllReadyH.cons (o := _) rfl (fun K hK => ?_) AllReadyH.nil)
                    · refine step_append_new rfl _ _ rfl _ HMl.out (HY.out _ _ q1.out rfl) (fun h => by cases h) rfl rfl hlen (Nat.le_refl _) ?_
                      intro da dc V2 O bb
                      have c13z := (bb.cell (p := ⟨b, off + 13, none⟩) c13l1.out).trans c13a
                      have hO := Lib.hid O
                      have hbb := Lib.hid bb
                      clear O bb
                      refine hK.out _ _ ?_ (fun hHeld => ?_)
                      · first | exact c13 | exact c13z | exact c13a | exact c13b | go_keep
                      clear hK K
                      (try simp only [List.getElem_toArray]); (try simp only [List.getElem_cons_succ]); (try simp only [List.getElem_cons_zero]); try simp only [Act.put, List.setIfInBounds_toArray, List.set_cons_zero, List.set_cons_succ]
                      have K2 := Lib.hid ((hbb.out.block V.heap.size lz1.out).trans (blk_new V (.cells #[.int .u16 0, .int .u16 0, .int .u32 0, .int .u32 0, .int .u8 0, .int .u16 0, .int .u16 0, .int .i64 0, .bool false, .int .i64 0, .bool false, .slice none 0 0, .bool false, .int .u32 0, .int .u32 0, .slice none 0 0] 27)))
                      refine wpAnyH_take (i := 31) (oi := _) (v := ?_) rfl (by kernel_rfl) (by kernel_rfl) (by kernel_rfl) (fun _ _ _ h => h) (Or.inl ⟨by rfl, ?_⟩) (by assumption) ?_
                      rotate_left
                      · intro w hSw
                        try dsimp only at hSw
                        go_simp
                        all_goals with_reducible rfl
                      (try simp only [List.getElem_toArray]); (try simp only [List.getElem_cons_succ]); (try simp only [List.getElem_cons_zero]); try simp only [Act.put, List.setIfInBounds_toArray, List.set_cons_zero, List.set_cons_succ]
                      refine wpAnyH_ready (rs := [33]) (by kernel_rfl) (by simp) ?_
                      refine (AllReadyH.cons (o := _) rfl (fun K hK => ?_) AllReadyH.nil)
                      · refine step_store_tcp ?_ (.tmp 9) (.tmp 72) ?_ V.heap.size _ (pC sp dp sq ak fl wn ur (.slice da ds.length dc) (.slice none 0 0) tOpt0) ?_ ?_ K2.out ?_ ?_ ?_ ?_
                        · rfl
                        · rfl
                        · rfl
                        · rfl
                        · rfl
                        · rfl
                        · simp [pC, Value.oneCell']
                        intro V5 h5 g5
                        have hs2 := Lib.hid h5
                        have hg2 := Lib.hid g5
                        have c13y := (World.cell?_of_block (w := V2) (w' := V5) (g5.block b (by have := hbb.out.size; have := lz1.out; omega) (fun e => nV (Option.some.inj e)))).trans c13z
                        clear h5 g5
                        refine hK.out _ _ ?_ (fun hHeld => ?_)
                        · exact c13y
                        clear hK K
                        refine wpAnyH_done (by kernel_rfl) ?_ _
                        go_wp2
                        go_meet
                        case rel => exact PcCut.one K.out Q.out hV hO.out hbb.out hs2.out hg2.out
    case neg =>
      have HY : Hid (∀ W ad, Below w.heap.size w W → ad = some ⟨b, off + hd, none⟩ → Bts W ad ds) := Lib.hid (fun W ad h e => by subst e; exact HDS.out.below h)
      have HMl : Hid (xs.length - hd = ds.length) := Lib.hid (by omega)
      clear hdz hhz hcp
      refine wp_region_held_drew (S := fun W => W.cell? ⟨b, off + 13, none⟩ = some (.int .u8 fl)) (by kernel_rfl) c13 (fun hHeld => ?_)
      refine wpAnyH_take (i := 0) (oi := _) (v := ?_) rfl (by kernel_rfl) (by kernel_rfl) (by kernel_rfl) (fun _ _ _ h => h) (Or.inl ⟨by rfl, ?_⟩) (by assumption) ?_
      rotate_left
      · intro w hSw
        try dsimp only at hSw
        go_simp
        all_goals with_reducible rfl
      (try simp only [List.getElem_toArray]); (try simp only [List.getElem_cons_succ]); (try simp only [List.getElem_cons_zero]); try simp only [Act.put, List.setIfInBounds_toArray, List.set_cons_zero, List.set_cons_succ]
      refine wpAnyH_take (i := 1) (oi := _) (v := ?_) rfl (by kernel_rfl) (by kernel_rfl) (by kernel_rfl) (fun _ _ _ h => h) (Or.inl ⟨by rfl, ?_⟩) (by assumption) ?_
      rotate_left
      · intro w hSw
        try dsimp only at hSw
        go_simp
        all_goals with_reducible rfl
      (try simp only [List.getElem_toArray]); (try simp only [List.getElem_cons_succ]); (try simp only [List.getElem_cons_zero]); try simp only [Act.put, List.setIfInBounds_toArray, List.set_cons_zero, List.set_cons_succ]
      refine wpAnyH_take (i := 4) (oi := _) (v := ?_) rfl (by kernel_rfl) (by kernel_rfl) (by kernel_rfl) (fun _ _ _ h => h) (Or.inl ⟨by rfl, ?_⟩) (by assumption) ?_
      rotate_left
      · intro w hSw
        try dsimp only at hSw
        go_simp
        all_goals with_reducible rfl
      (try simp only [List.getElem_toArray]); (try simp only [List.getElem_cons_succ]); (try simp only [List.getElem_cons_zero]); try simp only [Act.put, List.setIfInBounds_toArray, List.set_cons_zero, List.set_cons_succ]
      refine wpAnyH_take (i := 5) (oi := _) (v := ?_) rfl (by kernel_rfl) (by kernel_rfl) (by kernel_rfl) (fun _ _ _ h => h) (Or.inl ⟨by rfl, ?_⟩) (by assumption) ?_
      rotate_left
      · intro w hSw
        try dsimp only at hSw
        go_simp
        all_goals with_reducible rfl
      (try simp only [List.getElem_toArray]); (try simp only [List.getElem_cons_succ]); (try simp only [List.getElem_cons_zero]); try simp only [Act.put, List.setIfInBounds_toArray, List.set_cons_zero, List.set_cons_succ]
      refine wpAnyH_take (i := 8) (oi := _) (v := ?_) rfl (by kernel_rfl) (by kernel_rfl) (by kernel_rfl) (fun _ _ _ h => h) (Or.inl ⟨by rfl, ?_⟩) (by assumption) ?_
      rotate_left
      · intro w hSw
        try dsimp only at hSw
        go_simp
        all_goals with_reducible rfl
      (try simp only [List.getElem_toArray]); (try simp only [List.getElem_cons_succ]); (try simp only [List.getElem_cons_zero]); try simp only [Act.put, List.setIfInBounds_toArray, List.set_cons_zero, List.set_cons_succ]
      refine wpAnyH_take (i := 9) (oi := _) (v := ?_) rfl (by kernel_rfl) (by kernel_rfl) (by kernel_rfl) (fun _ _ _ h => h) (Or.inl ⟨by rfl, ?_⟩) (by assumption) ?_
      rotate_left
      · intro w hSw
        try dsimp only at hSw
        go_simp
        all_goals with_reducible rfl
      (try simp only [List.getElem_toArray]); (try simp only [List.getElem_cons_succ]); (try simp only [List.getElem_cons_zero]); try simp only [Act.put, List.setIfInBounds_toArray, List.set_cons_zero, List.set_cons_succ]
      refine wpAnyH_take (i := 12) (oi := _) (v := ?_) rfl (by kernel_rfl) (by kernel_rfl) (by kernel_rfl) (fun _ _ _ h => h) (Or.inl ⟨by rfl, ?_⟩) (by assumption) ?_
      rotate_left
      · intro w hSw
        try dsimp only at hSw
        go_simp
        all_goals with_reducible rfl
      (try simp only [List.getElem_toArray]); (try simp only [List.getElem_cons_succ]); (try simp only [List.getElem_cons_zero]); try simp only [Act.put, List.setIfInBounds_toArray, List.set_cons_zero, List.set_cons_succ]
      refine wpAnyH_take (i := 13) (oi := _) (v := ?_) rfl (by kernel_rfl) (by kernel_rfl) (by kernel_rfl) (fun _ _ _ h => h) (Or.inl ⟨by rfl, ?_⟩) (by assumption) ?_
      rotate_left
      · intro w hSw
        try dsimp only at hSw
        go_simp
        all_goals with_reducible rfl
      (try simp only [List.getElem_toArray]); (try simp only [List.getElem_cons_succ]); (try simp only [List.getElem_cons_zero]); try simp only [Act.put, List.setIfInBounds_toArray, List.set_cons_zero, List.set_cons_succ]
      refine wpAnyH_take (i := 16) (oi := _) (v := ?_) rfl (by kernel_rfl) (by kernel_rfl) (by kernel_rfl) (fun _ _ _ h => h) (Or.inl ⟨by rfl, ?_⟩) (by assumption) ?_
      rotate_left
      · intro w hSw
        try dsimp only at hSw
        go_simp
        all_goals with_reducible rfl
      (try simp only [List.getElem_toArray]); (try simp only [List.getElem_cons_succ]); (try simp only [List.getElem_cons_zero]); try simp only [Act.put, List.setIfInBounds_toArray, List.set_cons_zero, List.set_cons_succ]
      refine wpAnyH_take (i := 17) (oi := _) (v := ?_) rfl (by kernel_rfl) (by kernel_rfl) (by kernel_rfl) (fun _ _ _ h => h) (Or.inl ⟨by rfl, ?_⟩) (by assumption) ?_
      rotate_left
      · intro w hSw
        try dsimp only at hSw
        go_simp
        all_goals with_reducible rfl
      (try simp only [List.getElem_toArray]); (try simp only [List.getElem_cons_succ]); (try simp only [List.getElem_cons_zero]); try simp only [Act.put, List.setIfInBounds_toArray, List.set_cons_zero, List.set_cons_succ]
      refine wpAnyH_take (i := 18) (oi := _) (v := ?_) rfl (by kernel_rfl) (by kernel_rfl) (by kernel_rfl) (fun _ _ _ h => h) (Or.inl ⟨by rfl, ?_⟩) (by assumption) ?_
      rotate_left
      · intro w hSw
        try dsimp only at hSw
        go_simp
        all_goals with_reducible rfl
      (try simp only [List.getElem_toArray]); (try simp only [List.getElem_cons_succ]); (try simp only [List.getElem_cons_zero]); try simp only [Act.put, List.setIfInBounds_toArray, List.set_cons_zero, List.set_cons_succ]
      refine wpAnyH_take (i := 19) (oi := _) (v := ?_) rfl (by kernel_rfl) (by kernel_rfl) (by kernel_rfl) (fun _ _ _ h => h) (Or.inl ⟨by rfl, ?_⟩) (by assumption) ?_
      rotate_left
      · intro w hSw
        try dsimp only at hSw
        go_simp
        all_goals with_reducible rfl
      (try simp only [List.getElem_toArray]); (try simp only [List.getElem_cons_succ]); (try simp only [List.getElem_cons_zero]); try simp only [Act.put, List.setIfInBounds_toArray, List.set_cons_zero, List.set_cons_succ]
      refine wpAnyH_take (i := 20) (oi := _) (v := ?_) rfl (by kernel_rfl) (by kernel_rfl) (by kernel_rfl) (fun _ _ _ h => h) (Or.inl ⟨by rfl, ?_⟩) (by assumption) ?_
      rotate_left
      · intro w hSw
        try dsimp only at hSw
        go_simp
        all_goals with_reducible rfl
      (try simp only [List.getElem_toArray]); (try simp only [List.getElem_cons_succ]); (try simp only [List.getElem_cons_zero]); try simp only [Act.put, List.setIfInBounds_toArray, List.set_cons_zero, List.set_cons_succ]
      refine wpAnyH_take (i := 23) (oi := _) (v := ?_) rfl (by kernel_rfl) (by kernel_rfl) (by kernel_rfl) (fun _ _ _ h => h) (Or.inl ⟨by rfl, ?_⟩) (by assumption) ?_
      rotate_left
      · intro w hSw
        try dsimp only at hSw
        go_simp
        all_goals with_reducible rfl
      (try simp only [List.getElem_toArray]); (try simp only [List.getElem_cons_succ]); (try simp only [List.getElem_cons_zero]); try simp only [Act.put, List.setIfInBounds_toArray, List.set_cons_zero, List.set_cons_succ]
      refine wpAnyH_take (i := 24) (oi := _) (v := ?_) rfl (by kernel_rfl) (by kernel_rfl) (by kernel_rfl) (fun _ _ _ h => h) (Or.inl ⟨by rfl, ?_⟩) (by assumption) ?_
      rotate_left
      · intro w hSw
        try dsimp only at hSw
        go_simp
        all_goals with_reducible rfl
      (try simp only [List.getElem_toArray]); (try simp only [List.getElem_cons_succ]); (try simp only [List.getElem_cons_zero]); try simp only [Act.put, List.setIfInBounds_toArray, List.set_cons_zero, List.set_cons_succ]
      refine wpAnyH_take (i := 27) (oi := _) (v := ?_) rfl (by kernel_rfl) (by kernel_rfl) (by kernel_rfl) (fun _ _ _ h => h) (Or.inl ⟨by rfl, ?_⟩) (by assumption) ?_
      rotate_left
      · intro w hSw
        try dsimp only at hSw
        go_simp
        all_goals with_reducible rfl
      (try simp only [List.getElem_toArray]); (try simp only [List.getElem_cons_succ]); (try simp only [List.getElem_cons_zero]); try simp only [Act.put, List.setIfInBounds_toArray, List.set_cons_zero, List.set_cons_succ]
      refine wpAnyH_take (i := 28) (oi := _) (v := ?_) rfl (by kernel_rfl) (by kernel_rfl) (by kernel_rfl) (fun _ _ _ h => h) (Or.inl ⟨by rfl, ?_⟩) (by assumption) ?_
      rotate_left
      · intro w hSw
        try dsimp only at hSw
        go_simp
        all_goals with_reducible rfl
      (try simp only [List.getElem_toArray]); (try simp only [List.getElem_cons_succ]); (try simp only [List.getElem_cons_zero]); try simp only [Act.put, List.setIfInBounds_toArray, List.set_cons_zero, List.set_cons_succ]
      refine wpAnyH_take (i := 29) (oi := _) (v := ?_) rfl (by kernel_rfl) (by kernel_rfl) (by kernel_rfl) (fun _ _ _ h => h) (Or.inl ⟨by rfl, ?_⟩) (by assumption) ?_
      rotate_left
      · intro w hSw
        try dsimp only at hSw
        go_simp
        all_goals with_reducible rfl
      (try simp only [List.getElem_toArray]); (try simp only [List.getElem_cons_succ]); (try simp only [List.getElem_cons_zero]); try simp only [Act.put, List.setIfInBounds_toArray, List.set_cons_zero, List.set_cons_succ]
      refine wpAnyH_ready (rs := [2, 32]) (by kernel_rfl) (by simp) ?_
      refine (AllReadyH.cons (o := _) rfl (fun K hK => ?_) (AllReadyH.cons (o := _) rfl (fun K hK => ?_) AllReadyH.nil))
      · (try simp only [List.getElem_toArray]); (try simp only [List.getElem_cons_succ]); (try simp only [List.getElem_cons_zero])
        go_simp
        go_at_call 30
        (with_reducible refine (HnA.out _ _ (by first | exact q0.out | exact q1.out)).mono ?_)
        rintro e w' ⟨rfl, rfl⟩
        try dsimp only
        refine hK.out _ _ ?_ (fun hHeld => ?_)
        · first | exact c13 | exact c13z | exact c13a | exact c13b | go_keep
        clear hK K
        (try simp only [List.getElem_toArray]); (try simp only [List.getElem_cons_succ]); (try simp only [List.getElem_cons_zero]); try simp only [Act.put, List.setIfInBounds_toArray, List.set_cons_zero, List.set_cons_succ]
        refine wpAnyH_take (i := 3) (oi := _) (v := ?_) rfl (by kernel_rfl) (by kernel_rfl) (by kernel_rfl) (fun _ _ _ h => h) (Or.inl ⟨by rfl, ?_⟩) (by assumption) ?_
        rotate_left
        · intro w hSw
          try dsimp only at hSw
          go_simp
          all_goals with_reducible rfl
        (try simp only [List.getElem_toArray]); (try simp only [List.getElem_cons_succ]); (try simp only [List.getElem_cons_zero]); try simp only [Act.put, List.setIfInBounds_toArray, List.set_cons_zero, List.set_cons_succ]
        refine wpAnyH_ready (rs := [6, 32]) (by kernel_rfl) (by simp) ?_
        refine (AllReadyH.cons (o := _) rfl (fun K hK => ?_) (AllReadyH.cons (o := _) rfl (fun K hK => ?_) AllReadyH.nil))
        · (try simp only [List.getElem_toArray]); (try simp only [List.getElem_cons_succ]); (try simp only [List.getElem_cons_zero])
          go_simp
          go_at_call 30
          (with_reducible refine (HnB.out _ _ (by first | exact q0.out | exact q1.out)).mono ?_)
          rintro e w' ⟨rfl, rfl⟩
          try dsimp only
          refine hK.out _ _ ?_ (fun hHeld => ?_)
          · first | exact c13 | exact c13z | exact c13a | exact c13b | go_keep
          clear hK K
          (try simp only [List.getElem_toArray]); (try simp only [List.getElem_cons_succ]); (try simp only [List.getElem_cons_zero]); try simp only [Act.put, List.setIfInBounds_toArray, List.set_cons_zero, List.set_cons_succ]
          refine wpAnyH_take (i := 7) (oi := _) (v := ?_) rfl (by kernel_rfl) (by kernel_rfl) (by kernel_rfl) (fun _ _ _ h => h) (Or.inl ⟨by rfl, ?_⟩) (by assumption) ?_
          rotate_left
          · intro w hSw
            try dsimp only at hSw
            go_simp
            all_goals with_reducible rfl
          (try simp only [List.getElem_toArray]); (try simp only [List.getElem_cons_succ]); (try simp only [List.getElem_cons_zero]); try simp only [Act.put, List.setIfInBounds_toArray, List.set_cons_zero, List.set_cons_succ]
          refine wpAnyH_ready (rs := [10, 32]) (by kernel_rfl) (by simp) ?_
          refine (AllReadyH.cons (o := _) rfl (fun K hK => ?_) (AllReadyH.cons (o := _) rfl (fun K hK => ?_) AllReadyH.nil))
          · (try simp only [List.getElem_toArray]); (try simp only [List.getElem_cons_succ]); (try simp only [List.getElem_cons_zero])
            go_simp
            go_at_call 30
            (with_reducible refine (HnC.out _ _ (by first | exact q0.out | exact q1.out)).mono ?_)
            rintro e w' ⟨rfl, rfl⟩
            try dsimp only
            refine hK.out _ _ ?_ (fun hHeld => ?_)
            · first | exact c13 | exact c13z | exact c13a | exact c13b | go_keep
            clear hK K
            (try simp only [List.getElem_toArray]); (try simp only [List.getElem_cons_succ]); (try simp only [List.getElem_cons_zero]); try simp only [Act.put, List.setIfInBounds_toArray, List.set_cons_zero, List.set_cons_succ]
            refine wpAnyH_take (i := 11) (oi := _) (v := ?_) rfl (by kernel_rfl) (by kernel_rfl) (by kernel_rfl) (fun _ _ _ h => h) (Or.inl ⟨by rfl, ?_⟩) (by assumption) ?_
            rotate_left
            · intro w hSw
              try dsimp only at hSw
              go_simp
              all_goals with_reducible rfl
            (try simp only [List.getElem_toArray]); (try simp only [List.getElem_cons_succ]); (try simp only [List.getElem_cons_zero]); try simp only [Act.put, List.setIfInBounds_toArray, List.set_cons_zero, List.set_cons_succ]
            refine wpAnyH_ready (rs := [14, 32]) (by kernel_rfl) (by simp) ?_
            refine (AllReadyH.cons (o := _) rfl (fun K hK => ?_) (AllReadyH.cons (o := _) rfl (fun K hK => ?_) AllReadyH.nil))
            · (try simp only [List.getElem_toArray]); (try simp only [List.getElem_cons_succ]); (try simp only [List.getElem_cons_zero])
              go_simp
              go_at_call 30
              (with_reducible refine (HnD.out _ _ (by first | exact q0.out | exact q1.out)).mono ?_)
              rintro e w' ⟨rfl, rfl⟩
              try dsimp only
              refine hK.out _ _ ?_ (fun hHeld => ?_)
              · first | exact c13 | exact c13z | exact c13a | exact c13b | go_keep
              clear hK K
              (try simp only [List.getElem_toArray]); (try simp only [List.getElem_cons_succ]); (try simp only [List.getElem_cons_zero]); try simp only [Act.put, List.setIfInBounds_toArray, List.set_cons_zero, List.set_cons_succ]
              refine wpAnyH_take (i := 15) (oi := _) (v := ?_) rfl (by kernel_rfl) (by kernel_rfl) (by kernel_rfl) (fun _ _ _ h => h) (Or.inl ⟨by rfl, ?_⟩) (by assumption) ?_
              rotate_left
              · intro w hSw
                try dsimp only at hSw
                go_simp
                all_goals with_reducible rfl
              (try simp only [List.getElem_toArray]); (try simp only [List.getElem_cons_succ]); (try simp only [List.getElem_cons_zero]); try simp only [Act.put, List.setIfInBounds_toArray, List.set_cons_zero, List.set_cons_succ]
              refine wpAnyH_ready (rs := [21, 32]) (by kernel_rfl) (by simp) ?_
              refine (AllReadyH.cons (o := _) rfl (fun K hK => ?_) (AllReadyH.cons (o := _) rfl (fun K hK => ?_) AllReadyH.nil))
              · (try simp only [List.getElem_toArray]); (try simp only [List.getElem_cons_succ]); (try simp only [List.getElem_cons_zero])
                go_simp
                go_at_call 30
                (with_reducible refine (HnE.out _ _ (by first | exact q0.out | exact q1.out)).mono ?_)
                rintro e w' ⟨rfl, rfl⟩
                try dsimp only
                refine hK.out _ _ ?_ (fun hHeld => ?_)
                · first | exact c13 | exact c13z | exact c13a | exact c13b | go_keep
                clear hK K
                (try simp only [List.getElem_toArray]); (try simp only [List.getElem_cons_succ]); (try simp only [List.getElem_cons_zero]); try simp only [Act.put, List.setIfInBounds_toArray, List.set_cons_zero, List.set_cons_succ]
                refine wpAnyH_take (i := 22) (oi := _) (v := ?_) rfl (by kernel_rfl) (by kernel_rfl) (by kernel_rfl) (fun _ _ _ h => h) (Or.inl ⟨by rfl, ?_⟩) (by assumption) ?_
                rotate_left
                · intro w hSw
                  try dsimp only at hSw
                  go_simp
                  all_goals with_reducible rfl
                (try simp only [List.getElem_toArray]); (try simp only [List.getElem_cons_succ]); (try simp only [List.getElem_cons_zero]); try simp only [Act.put, List.setIfInBounds_toArray, List.set_cons_zero, List.set_cons_succ]
                refine wpAnyH_ready (rs := [25, 32]) (by kernel_rfl) (by simp) ?_
                refine (AllReadyH.cons (o := _) rfl (fun K hK => ?_) (AllReadyH.cons (o := _) rfl (fun K hK => ?_) AllReadyH.nil))
                · (try simp only [List.getElem_toArray]); (try simp only [List.getElem_cons_succ]); (try simp only [List.getElem_cons_zero])
                  go_simp
                  go_at_call 30
                  (with_reducible refine (HnF.out _ _ (by first | exact q0.out | exact q1.out)).mono ?_)
                  rintro e w' ⟨rfl, rfl⟩
                  try dsimp only
                  refine hK.out _ _ ?_ (fun hHeld => ?_)
                  · first | exact c13 | exact c13z | exact c13a | exact c13b | go_keep
                  clear hK K
                  (try simp only [List.getElem_toArray]); (try simp only [List.getElem_cons_succ]); (try simp only [List.getElem_cons_zero]); try simp only [Act.put, List.setIfInBounds_toArray, List.set_cons_zero, List.set_cons_succ]
                  refine wpAnyH_take (i := 26) (oi := _) (v := ?_) rfl (by kernel_rfl) (by kernel_rfl) (by kernel_rfl) (fun _ _ _ h => h) (Or.inl ⟨by rfl, ?_⟩) (by assumption) ?_
                  rotate_left
                  · intro w hSw
                    try dsimp only at hSw
                    go_simp
                    all_goals with_reducible rfl
                  (try simp only [List.getElem_toArray]); (try simp only [List.getElem_cons_succ]); (try simp only [List.getElem_cons_zero]); try simp only [Act.put, List.setIfInBounds_toArray, List.set_cons_zero, List.set_cons_succ]
                  refine wpAnyH_ready (rs := [30, 32]) (by kernel_rfl) (by simp) ?_
                  refine (AllReadyH.cons (o := _) rfl (fun K hK => ?_) (AllReadyH.cons (o := _) rfl (fun K hK => ?_) AllReadyH.nil))
                  · refine step_append_new rfl _ _ rfl _ HMl.out (HY.out _ _ q0.out rfl) (fun h => by cases h) rfl rfl hlen (Nat.le_refl _) ?_
                    intro da dc V2 O bb
                    have c13z := (bb.cell (p := ⟨b, off + 13, none⟩) c13l0.out).trans c13d
                    have hO := Lib.hid O
                    have hbb := Lib.hid bb
                    clear O bb
                    refine hK.out _ _ ?_ (fun hHeld => ?_)
                    · first | exact c13 | exact c13z | exact c13a | exact c13b | go_keep
                    clear hK K
                    (try simp only [List.getElem_toArray]); (try simp only [List.getElem_cons_succ]); (try simp only [List.getElem_cons_zero]); try simp only [Act.put, List.setIfInBounds_toArray, List.set_cons_zero, List.set_cons_succ]
                    refine wpAnyH_take (i := 31) (oi := _) (v := ?_) rfl (by kernel_rfl) (by kernel_rfl) (by kernel_rfl) (fun _ _ _ h => h) (Or.inl ⟨by rfl, ?_⟩) (by assumption) ?_
                    rotate_left
                    · intro w hSw
                      try dsimp only at hSw
                      go_simp
                      all_goals with_reducible rfl
                    (try simp only [List.getElem_toArray]); (try simp only [List.getElem_cons_succ]); (try simp only [List.getElem_cons_zero]); try simp only [Act.put, List.setIfInBounds_toArray, List.set_cons_zero, List.set_cons_succ]
                    refine wpAnyH_ready (rs := [32]) (by kernel_rfl) (by simp) ?_
                    refine (AllReadyH.cons (o := _) rfl (fun K hK => ?_) AllReadyH.nil)
                    · (try simp only [List.getElem_toArray]); (try simp only [List.getElem_cons_succ]); (try simp only [List.getElem_cons_zero])
                      go_simp
                      refine hK.out _ _ ?_ (fun hHeld => ?_)
                      · first | exact c13z | go_keep
                      clear hK K
                      (try simp only [List.getElem_toArray]); (try simp only [List.getElem_cons_succ]); (try simp only [List.getElem_cons_zero]); try simp only [Act.put, List.setIfInBounds_toArray, List.set_cons_zero, List.set_cons_succ]
                      have K2 := Lib.hid (blk_new V2 (.cells #[.int .u16 0, .int .u16 0, .int .u32 0, .int .u32 0, .int .u8 0, .int .u16 0, .int .u16 0, .int .i64 0, .bool false, .int .i64 0, .bool false, .slice none 0 0, .bool false, .int .u32 0, .int .u32 0, .slice none 0 0] 27))
                      refine wpAnyH_ready (rs := [33]) (by kernel_rfl) (by simp) ?_
                      refine (AllReadyH.cons (o := _) rfl (fun K hK => ?_) AllReadyH.nil)
                      · have c13w := (World.cell?_of_block (w := V2) (w' := V2.alloc (.cells #[.int .u16 0, .int .u16 0, .int .u32 0, .int .u32 0, .int .u8 0, .int .u16 0, .int .u16 0, .int .i64 0, .bool false, .int .i64 0, .bool false, .slice none 0 0, .bool false, .int .u32 0, .int .u32 0, .slice none 0 0] 27)) (Below.heap_alloc V2 _ b (by have := hbb.out.size; have := c13l0.out; omega))).trans c13z
                        refine step_store_tcp ?_ (.tmp 9) (.tmp 72) ?_ V2.heap.size _ (pC sp dp sq ak fl wn ur (.slice da ds.length dc) (.slice none 0 0) tOpt0) ?_ ?_ K2.out ?_ ?_ ?_ ?_
                        · rfl
                        · rfl
                        · rfl
                        · rfl
                        · rfl
                        · rfl
                        · simp [pC, Value.oneCell']
                        intro V5 h5 g5
                        have hs2 := Lib.hid h5
                        have hg2 := Lib.hid g5
                        have c13y := (World.cell?_of_block (w := (V2.alloc (.cells #[.int .u16 0, .int .u16 0, .int .u32 0, .int .u32 0, .int .u8 0, .int .u16 0, .int .u16 0, .int .i64 0, .bool false, .int .i64 0, .bool false, .slice none 0 0, .bool false, .int .u32 0, .int .u32 0, .slice none 0 0] 27))) (w' := V5) (g5.block b (by rw [World.size_alloc]; have := hbb.out.size; have := c13l0.out; omega) (fun e => (fun e => by have := hbb.out.size; have := c13l0.out; omega) (Option.some.inj e)))).trans c13w
                        clear h5 g5
                        refine hK.out _ _ ?_ (fun hHeld => ?_)
                        · exact c13y
                        clear hK K
                        refine wpAnyH_done (by kernel_rfl) ?_ _
                        go_wp2
                        go_meet
                        case rel => exact PcCut.two K.out Q.out hV hO.out hbb.out hs2.out hg2.out
                  · (try simp only [List.getElem_toArray]); (try simp only [List.getElem_cons_succ]); (try simp only [List.getElem_cons_zero])
                    go_simp
                    refine hK.out _ _ ?_ (fun hHeld => ?_)
                    · exact c13a
                    clear hK K
                    (try simp only [List.getElem_toArray]); (try simp only [List.getElem_cons_succ]); (try simp only [List.getElem_cons_zero]); try simp only [Act.put, List.setIfInBounds_toArray, List.set_cons_zero, List.set_cons_succ]
                    refine wpAnyH_ready (rs := [30]) (by kernel_rfl) (by simp) ?_
                    refine (AllReadyH.cons (o := _) rfl (fun K hK => ?_) AllReadyH.nil)
                    · refine step_append_new rfl _ _ rfl _ HMl.out (HY.out _ _ q1.out rfl) (fun h => by cases h) rfl rfl hlen (Nat.le_refl _) ?_
                      intro da dc V2 O bb
                      have c13z := (bb.cell (p := ⟨b, off + 13, none⟩) c13l1.out).trans c13a
                      have hO := Lib.hid O
                      have hbb := Lib.hid bb
                      clear O bb
                      refine hK.out _ _ ?_ (fun hHeld => ?_)
                      · first | exact c13 | exact c13z | exact c13a | exact c13b | go_keep
                      clear hK K
                      (try simp only [List.getElem_toArray]); (try simp only [List.getElem_cons_succ]); (try simp only [List.getElem_cons_zero]); try simp only [Act.put, List.setIfInBounds_toArray, List.set_cons_zero, List.set_cons_succ]
                      have K2 := Lib.hid ((hbb.out.block V.heap.size lz1.out).trans (blk_new V (.cells #[.int .u16 0, .int .u16 0, .int .u32 0, .int .u32 0, .int .u8 0, .int .u16 0, .int .u16 0, .int .i64 0, .bool false, .int .i64 0, .bool false, .slice none 0 0, .bool false, .int .u32 0, .int .u32 0, .slice none 0 0] 27)))
                      refine wpAnyH_take (i := 31) (oi := _) (v := ?_) rfl (by kernel_rfl) (by kernel_rfl) (by kernel_rfl) (fun _ _ _ h => h) (Or.inl ⟨by rfl, ?_⟩) (by assumption) ?_
                      rotate_left
                      · intro w hSw
                        try dsimp only at hSw
                        go_simp
                        all_goals with_reducible rfl
                      (try simp only [List.getElem_toArray]); (try simp only [List.getElem_cons_succ]); (try simp only [List.getElem_cons_zero]); try simp only [Act.put, List.setIfInBounds_toArray, List.set_cons_zero, List.set_cons_succ]
                      refine wpAnyH_ready (rs := [33]) (by kernel_rfl) (by simp) ?_
                      refine (AllReadyH.cons (o := _) rfl (fun K hK => ?_) AllReadyH.nil)
                      · refine step_store_tcp ?_ (.tmp 9) (.tmp 72) ?_ V.heap.size _ (pC sp dp sq ak fl wn ur (.slice da ds.length dc) (.slice none 0 0) tOpt0) ?_ ?_ K2.out ?_ ?_ ?_ ?_
                        · rfl
                        · rfl
                        · rfl
                        · rfl
                        · rfl
                        · rfl
                        · simp [pC, Value.oneCell']
                        intro V5 h5 g5
                        have hs2 := Lib.hid h5
                        have hg2 := Lib.hid g5
                        have c13y := (World.cell?_of_block (w := V2) (w' := V5) (g5.block b (by have := hbb.out.size; have := lz1.out; omega) (fun e => nV (Option.some.inj e)))).trans c13z
                        clear h5 g5
                        refine hK.out _ _ ?_ (fun hHeld => ?_)
                        · exact c13y
                        clear hK K
                        refine wpAnyH_done (by kernel_rfl) ?_ _
                        go_wp2
                        go_meet
                        case rel => exact PcCut.one K.out Q.out hV hO.out hbb.out hs2.out hg2.out
                · (try simp only [List.getElem_toArray]); (try simp only [List.getElem_cons_succ]); (try simp only [List.getElem_cons_zero])
                  go_simp
                  refine hK.out _ _ ?_ (fun hHeld => ?_)
                  · exact c13a
                  clear hK K
                  (try simp only [List.getElem_toArray]); (try simp only [List.getElem_cons_succ]); (try simp only [List.getElem_cons_zero]); try simp only [Act.put, List.setIfInBounds_toArray, List.set_cons_zero, List.set_cons_succ]
                  refine wpAnyH_ready (rs := [25]) (by kernel_rfl) (by simp) ?_
                  refine (AllReadyH.cons (o := _) rfl (fun K hK => ?_) AllReadyH.nil)
                  · (try simp only [List.getElem_toArray]); (try simp only [List.getElem_cons_succ]); (try simp only [List.getElem_cons_zero])
                    go_simp
                    go_at_call 30
                    (with_reducible refine (HnF.out _ _ (by first | exact q0.out | exact q1.out)).mono ?_)
                    rintro e w' ⟨rfl, rfl⟩
                    try dsimp only
                    refine hK.out _ _ ?_ (fun hHeld => ?_)
                    · first | exact c13 | exact c13z | exact c13a | exact c13b | go_keep
                    clear hK K
                    (try simp only [List.getElem_toArray]); (try simp only [List.getElem_cons_succ]); (try simp only [List.getElem_cons_zero]); try simp only [Act.put, List.setIfInBounds_toArray, List.set_cons_zero, List.set_cons_succ]
                    refine wpAnyH_take (i := 26) (oi := _) (v := ?_) rfl (by kernel_rfl) (by kernel_rfl) (by kernel_rfl) (fun _ _ _ h => h) (Or.inl ⟨by rfl, ?_⟩) (by assumption) ?_
                    rotate_left
                    · intro w hSw
                      try dsimp only at hSw
                      go_simp
                      all_goals with_reducible rfl
                    (try simp only [List.getElem_toArray]); (try simp only [List.getElem_cons_succ]); (try simp only [List.getElem_cons_zero]); try simp only [Act.put, List.setIfInBounds_toArray, List.set_cons_zero, List.set_cons_succ]
                    refine wpAnyH_ready (rs := [30]) (by kernel_rfl) (by simp) ?_
                    refine (AllReadyH.cons (o := _) rfl (fun K hK => ?_) AllReadyH.nil)
                    · refine step_append_new rfl _ _ rfl _ HMl.out (HY.out _ _ q1.out rfl) (fun h => by cases h) rfl rfl hlen (Nat.le_refl _) ?_
                      intro da dc V2 O bb
                      have c13z := (bb.cell (p := ⟨b, off + 13, none⟩) c13l1.out).trans c13a
                      have hO := Lib.hid O
                      have hbb := Lib.hid bb
                      clear O bb
                      refine hK.out _ _ ?_ (fun hHeld => ?_)
                      · first | exact c13 | exact c13z | exact c13a | exact c13b | go_keep
                      clear hK K
                      (try simp only [List.getElem_toArray]); (try simp only [List.getElem_cons_succ]); (try simp only [List.getElem_cons_zero]); try simp only [Act.put, List.setIfInBounds_toArray, List.set_cons_zero, List.set_cons_succ]
                      have K2 := Lib.hid ((hbb.out.block V.heap.size lz1.out).trans (blk_new V (.cells #[.int .u16 0, .int .u16 0, .int .u32 0, .int .u32 0, .int .u8 0, .int .u16 0, .int .u16 0, .int .i64 0, .bool false, .int .i64 0, .bool false, .slice none 0 0, .bool false, .int .u32 0, .int .u32 0, .slice none 0 0] 27)))
                      refine wpAnyH_take (i := 31) (oi := _) (v := ?_) rfl (by kernel_rfl) (by kernel_rfl) (by kernel_rfl) (fun _ _ _ h => h) (Or.inl ⟨by rfl, ?_⟩) (by assumption) ?_
                      rotate_left
                      · intro w hSw
                        try dsimp only at hSw
                        go_simp
                        all_goals with_reducible rfl
                      (try simp only [List.getElem_toArray]); (try simp only [List.getElem_cons_succ]); (try simp only [List.getElem_cons_zero]); try simp only [Act.put, List.setIfInBounds_toArray, List.set_cons_zero, List.set_cons_succ]
                      refine wpAnyH_ready (rs := [33]) (by kernel_rfl) (by simp) ?_
                      refine (AllReadyH.cons (o := _) rfl (fun K hK => ?_) AllReadyH.nil)
                      · refine step_store_tcp ?_ (.tmp 9) (.tmp 72) ?_ V.heap.size _ (pC sp dp sq ak fl wn ur (.slice da ds.length dc) (.slice none 0 0) tOpt0) ?_ ?_ K2.out ?_ ?_ ?_ ?_
                        · rfl
                        · rfl
                        · rfl
                        · rfl
                        · rfl
                        · rfl
                        · simp [pC, Value.oneCell']
                        intro V5 h5 g5
                        have hs2 := Lib.hid h5
                        have hg2 := Lib.hid g5
                        have c13y := (World.cell?_of_block (w := V2) (w' := V5) (g5.block b (by have := hbb.out.size; have := lz1.out; omega) (fun e => nV (Option.some.inj e)))).trans c13z
                        clear h5 g5
                        refine hK.out _ _ ?_ (fun hHeld => ?_)
                        · exact c13y
                        clear hK K
                        refine wpAnyH_done (by kernel_rfl) ?_ _
                        go_wp2
                        go_meet
                        case rel => exact PcCut.one K.out Q.out hV hO.out hbb.out hs2.out hg2.out
              · (try simp only [List.getElem_toArray]); (try simp only [List.getElem_cons_succ]); (try simp only [List.getElem_cons_zero])
                go_simp
                refine hK.out _ _ ?_ (fun hHeld => ?_)
                · exact c13a
                clear hK K
                (try simp only [List.getElem_toArray]); (try simp only [List.getElem_cons_succ]); (try simp only [List.getElem_cons_zero]); try simp only [Act.put, List.setIfInBounds_toArray, List.set_cons_zero, List.set_cons_succ]
                refine wpAnyH_ready (rs := [21]) (by kernel_rfl) (by simp) ?_
                refine (AllReadyH.cons (o := _) rfl (fun K hK => ?_) AllReadyH.nil)
                · (try simp only [List.getElem_toArray]); (try simp only [List.getElem_cons_succ]); (try simp only [List.getElem_cons_zero])
                  go_simp
                  go_at_call 30
                  (with_reducible refine (HnE.out _ _ (by first | exact q0.out | exact q1.out)).mono ?_)
                  rintro e w' ⟨rfl, rfl⟩
                  try dsimp only
                  refine hK.out _ _ ?_ (fun hHeld => ?_)
                  · first | exact c13 | exact c13z | exact c13a | exact c13b | go_keep
                  clear hK K
                  (try simp only [List.getElem_toArray]); (try simp only [List.getElem_cons_succ]); (try simp only [List.getElem_cons_zero]); try simp only [Act.put, List.setIfInBounds_toArray, List.set_cons_zero, List.set_cons_succ]
                  refine wpAnyH_take (i := 22) (oi := _) (v := ?_) rfl (by kernel_rfl) (by kernel_rfl) (by kernel_rfl) (fun _ _ _ h => h) (Or.inl ⟨by rfl, ?_⟩) (by assumption) ?_
                  rotate_left
                  · intro w hSw
                    try dsimp only at hSw
                    go_simp
                    all_goals with_reducible rfl
                  (try simp only [List.getElem_toArray]); (try simp only [List.getElem_cons_succ]); (try simp only [List.getElem_cons_zero]); try simp only [Act.put, List.setIfInBounds_toArray, List.set_cons_zero, List.set_cons_succ]
                  refine wpAnyH_ready (rs := [25]) (by kernel_rfl) (by simp) ?_
                  refine (AllReadyH.cons (o := _) rfl (fun K hK => ?_) AllReadyH.nil)
                  · (try simp only [List.getElem_toArray]); (try simp only [List.getElem_cons_succ]); (try simp only [List.getElem_cons_zero])
                    go_simp
                    go_at_call 30
                    (with_reducible refine (HnF.out _ _ (by first | exact q0.out | exact q1.out)).mono ?_)
                    rintro e w' ⟨rfl, rfl⟩
                    try dsimp only
                    refine hK.out _ _ ?_ (fun hHeld => ?_)
                    · first | exact c13 | exact c13z | exact c13a | exact c13b | go_keep
                    clear hK K
                    (try simp only [List.getElem_toArray]); (try simp only [List.getElem_cons_succ]); (try simp only [List.getElem_cons_zero]); try simp only [Act.put, List.setIfInBounds_toArray, List.set_cons_zero, List.set_cons_succ]
                    refine wpAnyH_take (i := 26) (oi := _) (v := ?_) rfl (by kernel_rfl) (by kernel_rfl) (by kernel_rfl) (fun _ _ _ h => h) (Or.inl ⟨by rfl, ?_⟩) (by assumption) ?_
                    rotate_left
                    · intro w hSw
                      try dsimp only at hSw
                      go_simp
                      all_goals with_reducible rfl
                    (try simp only [List.getElem_toArray]); (try simp only [List.getElem_cons_succ]); (try simp only [List.getElem_cons_zero]); try simp only [Act.put, List.setIfInBounds_toArray, List.set_cons_zero, List.set_cons_succ]
                    refine wpAnyH_ready (rs := [30]) (by kernel_rfl) (by simp) ?_
                    refine (AllReadyH.cons (o := _) rfl (fun K hK => ?_) AllReadyH.nil)
                    · refine step_append_new rfl _ _ rfl _ HMl.out (HY.out _ _ q1.out rfl) (fun h => by cases h) rfl rfl hlen (Nat.le_refl _) ?_
                      intro da dc V2 O bb
                      have c13z := (bb.cell (p := ⟨b, off + 13, none⟩) c13l1.out).trans c13a
                      have hO := Lib.hid O
                      have hbb := Lib.hid bb
                      clear O bb
                      refine hK.out _ _ ?_ (fun hHeld => ?_)
                      · first | exact c13 | exact c13z | exact c13a | exact c13b | go_keep
                      clear hK K
                      (try simp only [List.getElem_toArray]); (try simp only [List.getElem_cons_succ]); (try simp only [List.getElem_cons_zero]); try simp only [Act.put, List.setIfInBounds_toArray, List.set_cons_zero, List.set_cons_succ]
                      have K2 := Lib.hid ((hbb.out.block V.heap.size lz1.out).trans (blk_new V (.cells #[.int .u16 0, .int .u16 0, .int .u32 0, .int .u32 0, .int .u8 0, .int .u16 0, .int .u16 0, .int .i64 0, .bool false, .int .i64 0, .bool false, .slice none 0 0, .bool false, .int .u32 0, .int .u32 0, .slice none 0 0] 27)))
                      refine wpAnyH_take (i := 31) (oi := _) (v := ?_) rfl (by kernel_rfl) (by kernel_rfl) (by kernel_rfl) (fun _ _ _ h => h) (Or.inl ⟨by rfl, ?_⟩) (by assumption) ?_
                      rotate_left
                      · intro w hSw
                        try dsimp only at hSw
                        go_simp
                        all_goals with_reducible rfl
                      (try simp only [List.getElem_toArray]); (try simp only [List.getElem_cons_succ]); (try simp only [List.getElem_cons_zero]); try simp only [Act.put, List.setIfInBounds_toArray, List.set_cons_zero, List.set_cons_succ]
                      refine wpAnyH_ready (rs := [33]) (by kernel_rfl) (by simp) ?_
                      refine (AllReadyH.cons (o := _) rfl (fun K hK => ?_) AllReadyH.nil)
                      · refine step_store_tcp ?_ (.tmp 9) (.tmp 72) ?_ V.heap.size _ (pC sp dp sq ak fl wn ur (.slice da ds.length dc) (.slice none 0 0) tOpt0) ?_ ?_ K2.out ?_ ?_ ?_ ?_
                        · rfl
                        · rfl
                        · rfl
                        · rfl
                        · rfl
                        · rfl
                        · simp [pC, Value.oneCell']
                        intro V5 h5 g5
                        have hs2 := Lib.hid h5
                        have hg2 := Lib.hid g5
                        have c13y := (World.cell?_of_block (w := V2) (w' := V5) (g5.block b (by have := hbb.out.size; have := lz1.out; omega) (fun e => nV (Option.some.inj e)))).trans c13z
                        clear h5 g5
                        refine hK.out _ _ ?_ (fun hHeld => ?_)
                        · exact c13y
                        clear hK K
                        refine wpAnyH_done (by kernel_rfl) ?_ _
                        go_wp2
                        go_meet
                        case rel => exact PcCut.one K.out Q.out hV hO.out hbb.out hs2.out hg2.out
            · (try simp only [List.getElem_toArray]); (try simp only [List.getElem_cons_succ]); (try simp only [List.getElem_cons_zero])
              go_simp
              refine hK.out _ _ ?_ (fun hHeld => ?_)
              · exact c13a
              clear hK K
              (try simp only [List.getElem_toArray]); (try simp only [List.getElem_cons_succ]); (try simp only [List.getElem_cons_zero]); try simp only [Act.put, List.setIfInBounds_toArray, List.set_cons_zero, List.set_cons_succ]
              refine wpAnyH_ready (rs := [14]) (by kernel_rfl) (by simp) ?_
              refine (AllReadyH.cons (o := _) rfl (fun K hK => ?_) AllReadyH.nil)
              · (try simp only [List.getElem_toArray]); (try simp only [List.getElem_cons_succ]); (try simp only [List.getElem_cons_zero])
                go_simp
                go_at_call 30
                (with_reducible refine (HnD.out _ _ (by first | exact q0.out | exact q1.out)).mono ?_)
                rintro e w' ⟨rfl, rfl⟩
                try dsimp only
                refine hK.out _ _ ?_ (fun hHeld => ?_)
                · first | exact c13 | exact c13z | exact c13a | exact c13b | go_keep
                clear hK K
                (try simp only [List.getElem_toArray]); (try simp only [List.getElem_cons_succ]); (try simp only [List.getElem_cons_zero]); try simp only [Act.put, List.setIfInBounds_toArray, List.set_cons_zero, List.set_cons_succ]
                refine wpAnyH_take (i := 15) (oi := _) (v := ?_) rfl (by kernel_rfl) (by kernel_rfl) (by kernel_rfl) (fun _ _ _ h => h) (Or.inl ⟨by rfl, ?_⟩) (by assumption) ?_
                rotate_left
                · intro w hSw
                  try dsimp only at hSw
                  go_simp
                  all_goals with_reducible rfl
                (try simp only [List.getElem_toArray]); (try simp only [List.getElem_cons_succ]); (try simp only [List.getElem_cons_zero]); try simp only [Act.put, List.setIfInBounds_toArray, List.set_cons_zero, List.set_cons_succ]
                refine wpAnyH_ready (rs := [21]) (by kernel_rfl) (by simp) ?_
                refine (AllReadyH.cons (o := _) rfl (fun K hK => ?_) AllReadyH.nil)
                · (try simp only [List.getElem_toArray]); (try simp only [List.getElem_cons_succ]); (try simp only [List.getElem_cons_zero])
                  go_simp
                  go_at_call 30
                  (with_reducible refine (HnE.out _ _ (by first | exact q0.out | exact q1.out)).mono ?_)
                  rintro e w' ⟨rfl, rfl⟩
                  try dsimp only
                  refine hK.out _ _ ?_ (fun hHeld => ?_)
                  · first | exact c13 | exact c13z | exact c13a | exact c13b | go_keep
                  clear hK K
                  (try simp only [List.getElem_toArray]); (try simp only [List.getElem_cons_succ]); (try simp only [List.getElem_cons_zero]); try simp only [Act.put, List.setIfInBounds_toArray, List.set_cons_zero, List.set_cons_succ]
                  refine wpAnyH_take (i := 22) (oi := _) (v := ?_) rfl (by kernel_rfl) (by kernel_rfl) (by kernel_rfl) (fun _ _ _ h => h) (Or.inl ⟨by rfl, ?_⟩) (by assumption) ?_
                  rotate_left
                  · intro w hSw
                    try dsimp only at hSw
                    go_simp
                    all_goals with_reducible rfl
                  (try simp only [List.getElem_toArray]); (try simp only [List.getElem_cons_succ]); (try simp only [List.getElem_cons_zero]); try simp only [Act.put, List.setIfInBounds_toArray, List.set_cons_zero, List.set_cons_succ]
                  refine wpAnyH_ready (rs := [25]) (by kernel_rfl) (by simp) ?_
                  refine (AllReadyH.cons (o := _) rfl (fun K hK => ?_) AllReadyH.nil)
                  · (try simp only [List.getElem_toArray]); (try simp only [List.getElem_cons_succ]); (try simp only [List.getElem_cons_zero])
                    go_simp
                    go_at_call 30
                    (with_reducible refine (HnF.out _ _ (by first | exact q0.out | exact q1.out)).mono ?_)
                    rintro e w' ⟨rfl, rfl⟩
                    try dsimp only
                    refine hK.out _ _ ?_ (fun hHeld => ?_)
                    · first | exact c13 | exact c13z | exact c13a | exact c13b | go_keep
                    clear hK K
                    (try simp only [List.getElem_toArray]); (try simp only [List.getElem_cons_succ]); (try simp only [List.getElem_cons_zero]); try simp only [Act.put, List.setIfInBounds_toArray, List.set_cons_zero, List.set_cons_succ]
                    refine wpAnyH_take (i := 26) (oi := _) (v := ?_) rfl (by kernel_rfl) (by kernel_rfl) (by kernel_rfl) (fun _ _ _ h => h) (Or.inl ⟨by rfl, ?_⟩) (by assumption) ?_
                    rotate_left
                    · intro w hSw
                      try dsimp only at hSw
                      go_simp
                      all_goals with_reducible rfl
                    (try simp only [List.getElem_toArray]); (try simp only [List.getElem_cons_succ]); (try simp only [List.getElem_cons_zero]); try simp only [Act.put, List.setIfInBounds_toArray, List.set_cons_zero, List.set_cons_succ]
                    refine wpAnyH_ready (rs := [30]) (by kernel_rfl) (by simp) ?_
                    refine (AllReadyH.cons (o := _) rfl (fun K hK => ?_) AllReadyH.nil)
                    · refine step_append_new rfl _ _ rfl _ HMl.out (HY.out _ _ q1.out rfl) (fun h => by cases h) rfl rfl hlen (Nat.le_refl _) ?_
                      intro da dc V2 O bb
                      have c13z := (bb.cell (p := ⟨b, off + 13, none⟩) c13l1.out).trans c13a
                      have hO := Lib.hid O
                      have hbb := Lib.hid bb
                      clear O bb
                      refine hK.out _ _ ?_ (fun hHeld => ?_)
                      · first | exact c13 | exact c13z | exact c13a | exact c13b | go_keep
                      clear hK K
                      (try simp only [List.getElem_toArray]); (try simp only [List.getElem_cons_succ]); (try simp only [List.getElem_cons_zero]); try simp only [Act.put, List.setIfInBounds_toArray, List.set_cons_zero, List.set_cons_succ]
                      have K2 := Lib.hid ((hbb.out.block V.heap.size lz1.out).trans (blk_new V (.cells #[.int .u16 0, .int .u16 0, .int .u32 0, .int .u32 0, .int .u8 0, .int .u16 0, .int .u16 0, .int .i64 0, .bool false, .int .i64 0, .bool false, .slice none 0 0, .bool false, .int .u32 0, .int .u32 0, .slice none 0 0] 27)))
                      refine wpAnyH_take (i := 31) (oi := _) (v := ?_) rfl (by kernel_rfl) (by kernel_rfl) (by kernel_rfl) (fun _ _ _ h => h) (Or.inl ⟨by rfl, ?_⟩) (by assumption) ?_
                      rotate_left
                      · intro w hSw
                        try dsimp only at hSw
                        go_simp
                        all_goals with_reducible rfl
                      (try simp only [List.getElem_toArray]); (try simp only [List.getElem_cons_succ]); (try simp only [List.getElem_cons_zero]); try simp only [Act.put, List.setIfInBounds_toArray, List.set_cons_zero, List.set_cons_succ]
                      refine wpAnyH_ready (rs := [33]) (by kernel_rfl) (by simp) ?_
                      refine (AllReadyH.cons (o := _) rfl (fun K hK => ?_) AllReadyH.nil)
                      · refine step_store_tcp ?_ (.tmp 9) (.tmp 72) ?_ V.heap.size _ (pC sp dp sq ak fl wn ur (.slice da ds.length dc) (.slice none 0 0) tOpt0) ?_ ?_ K2.out ?_ ?_ ?_ ?_
                        · rfl
                        · rfl
                        · rfl
                        · rfl
                        · rfl
                        · rfl
                        · simp [pC, Value.oneCell']
                        intro V5 h5 g5
                        have hs2 := Lib.hid h5
                        have hg2 := Lib.hid g5
                        have c13y := (World.cell?_of_block (w := V2) (w' := V5) (g5.block b (by have := hbb.out.size; have := lz1.out; omega) (fun e => nV (Option.some.inj e)))).trans c13z
                        clear h5 g5
                        refine hK.out _ _ ?_ (fun hHeld => ?_)
                        · exact c13y
                        clear hK K
                        refine wpAnyH_done (by kernel_rfl) ?_ _
                        go_wp2
                        go_meet
                        case rel => exact PcCut.one K.out Q.out hV hO.out hbb.out hs2.out hg2.out
          · (try simp only [List.getElem_toArray]); (try simp only [List.getElem_cons_succ]); (try simp only [List.getElem_cons_zero])
            go_simp
            refine hK.out _ _ ?_ (fun hHeld => ?_)
            · exact c13a
            clear hK K
            (try simp only [List.getElem_toArray]); (try simp only [List.getElem_cons_succ]); (try simp only [List.getElem_cons_zero]); try simp only [Act.put, List.setIfInBounds_toArray, List.set_cons_zero, List.set_cons_succ]
            refine wpAnyH_ready (rs := [10]) (by kernel_rfl) (by simp) ?_
            refine (AllReadyH.cons (o := _) rfl (fun K hK => ?_) AllReadyH.nil)
            · (try simp only [List.getElem_toArray]); (try simp only [List.getElem_cons_succ]); (try simp only [List.getElem_cons_zero])
              go_simp
              go_at_call 30
              (with_reducible refine (HnC.out _ _ (by first | exact q0.out | exact q1.out)).mono ?_)
              rintro e w' ⟨rfl, rfl⟩
              try dsimp only
              refine hK.out _ _ ?_ (fun hHeld => ?_)
              · first | exact c13 | exact c13z | exact c13a | exact c13b | go_keep
              clear hK K
              (try simp only [List.getElem_toArray]); (try simp only [List.getElem_cons_succ]); (try simp only [List.getElem_cons_zero]); try simp only [Act.put, List.setIfInBounds_toArray, List.set_cons_zero, List.set_cons_succ]
              refine wpAnyH_take (i := 11) (oi := _) (v := ?_) rfl (by kernel_rfl) (by kernel_rfl) (by kernel_rfl) (fun _ _ _ h => h) (Or.inl ⟨by rfl, ?_⟩) (by assumption) ?_
              rotate_left
              · intro w hSw
                try dsimp only at hSw
                go_simp
                all_goals with_reducible rfl
              (try simp only [List.getElem_toArray]); (try simp only [List.getElem_cons_succ]); (try simp only [List.getElem_cons_zero]); try simp only [Act.put, List.setIfInBounds_toArray, List.set_cons_zero, List.set_cons_succ]
              refine wpAnyH_ready (rs := [14]) (by kernel_rfl) (by simp) ?_
              refine (AllReadyH.cons (o := _) rfl (fun K hK => ?_) AllReadyH.nil)
              · (try simp only [List.getElem_toArray]); (try simp only [List.getElem_cons_succ]); (try simp only [List.getElem_cons_zero])
                go_simp
                go_at_call 30
                (with_reducible refine (HnD.out _ _ (by first | exact q0.out | exact q1.out)).mono ?_)
                rintro e w' ⟨rfl, rfl⟩
                try dsimp only
                refine hK.out _ _ ?_ (fun hHeld => ?_)
                · first | exact c13 | exact c13z | exact c13a | exact c13b | go_keep
                clear hK K
                (try simp only [List.getElem_toArray]); (try simp only [List.getElem_cons_succ]); (try simp only [List.getElem_cons_zero]); try simp only [Act.put, List.setIfInBounds_toArray, List.set_cons_zero, List.set_cons_succ]
                refine wpAnyH_take (i := 15) (oi := _) (v := ?_) rfl (by kernel_rfl) (by kernel_rfl) (by kernel_rfl) (fun _ _ _ h => h) (Or.inl ⟨by rfl, ?_⟩) (by assumption) ?_
                rotate_left
                · intro w hSw
                  try dsimp only at hSw
                  go_simp
                  all_goals with_reducible rfl
                (try simp only [List.getElem_toArray]); (try simp only [List.getElem_cons_succ]); (try simp only [List.getElem_cons_zero]); try simp only [Act.put, List.setIfInBounds_toArray, List.set_cons_zero, List.set_cons_succ]
                refine wpAnyH_ready (rs := [21]) (by kernel_rfl) (by simp) ?_
                refine (AllReadyH.cons (o := _) rfl (fun K hK => ?_) AllReadyH.nil)
                · (try simp only [List.getElem_toArray]); (try simp only [List.getElem_cons_succ]); (try simp only [List.getElem_cons_zero])
                  go_simp
                  go_at_call 30
                  (with_reducible refine (HnE.out _ _ (by first | exact q0.out | exact q1.out)).mono ?_)
                  rintro e w' ⟨rfl, rfl⟩
                  try dsimp only
                  refine hK.out _ _ ?_ (fun hHeld => ?_)
                  · first | exact c13 | exact c13z | exact c13a | exact c13b | go_keep
                  clear hK K
                  (try simp only [List.getElem_toArray]); (try simp only [List.getElem_cons_succ]); (try simp only [List.getElem_cons_zero]); try simp only [Act.put, List.setIfInBounds_toArray, List.set_cons_zero, List.set_cons_succ]
                  refine wpAnyH_take (i := 22) (oi := _) (v := ?_) rfl (by kernel_rfl) (by kernel_rfl) (by kernel_rfl) (fun _ _ _ h => h) (Or.inl ⟨by rfl, ?_⟩) (by assumption) ?_
                  rotate_left
                  · intro w hSw
                    try dsimp only at hSw
                    go_simp
                    all_goals with_reducible rfl
                  (try simp only [List.getElem_toArray]); (try simp only [List.getElem_cons_succ]); (try simp only [List.getElem_cons_zero]); try simp only [Act.put, List.setIfInBounds_toArray, List.set_cons_zero, List.set_cons_succ]
                  refine wpAnyH_ready (rs := [25]) (by kernel_rfl) (by simp) ?_
                  refine (AllReadyH.cons (o := _) rfl (fun K hK => ?_) AllReadyH.nil)
                  · (try simp only [List.getElem_toArray]); (try simp only [List.getElem_cons_succ]); (try simp only [List.getElem_cons_zero])
                    go_simp
                    go_at_call 30
                    (with_reducible refine (HnF.out _ _ (by first | exact q0.out | exact q1.out)).mono ?_)
                    rintro e w' ⟨rfl, rfl⟩
                    try dsimp only
                    refine hK.out _ _ ?_ (fun hHeld => ?_)
                    · first | exact c13 | exact c13z | exact c13a | exact c13b | go_keep
                    clear hK K
                    (try simp only [List.getElem_toArray]); (try simp only [List.getElem_cons_succ]); (try simp only [List.getElem_cons_zero]); try simp only [Act.put, List.setIfInBounds_toArray, List.set_cons_zero, List.set_cons_succ]
                    refine wpAnyH_take (i := 26) (oi := _) (v := ?_) rfl (by kernel_rfl) (by kernel_rfl) (by kernel_rfl) (fun _ _ _ h => h) (Or.inl ⟨by rfl, ?_⟩) (by assumption) ?_
                    rotate_left
                    · intro w hSw
                      try dsimp only at hSw
                      go_simp
                      all_goals with_reducible rfl
                    (try simp only [List.getElem_toArray]); (try simp only [List.getElem_cons_succ]); (try simp only [List.getElem_cons_zero]); try simp only [Act.put, List.setIfInBounds_toArray, List.set_cons_zero, List.set_cons_succ]
                    refine wpAnyH_ready (rs := [30]) (by kernel_rfl) (by simp) ?_
                    refine (AllReadyH.cons (o := _) rfl (fun K hK => ?_) AllReadyH.nil)
                    · refine step_append_new rfl _ _ rfl _ HMl.out (HY.out _ _ q1.out rfl) (fun h => by cases h) rfl rfl hlen (Nat.le_refl _) ?_
                      intro da dc V2 O bb
                      have c13z := (bb.cell (p := ⟨b, off + 13, none⟩) c13l1.out).trans c13a
                      have hO := Lib.hid O
                      have hbb := Lib.hid bb
                      clear O bb
                      refine hK.out _ _ ?_ (fun hHeld => ?_)
                      · first | exact c13 | exact c13z | exact c13a | exact c13b | go_keep
                      clear hK K
                      (try simp only [List.getElem_toArray]); (try simp only [List.getElem_cons_succ]); (try simp only [List.getElem_cons_zero]); try simp only [Act.put, List.setIfInBounds_toArray, List.set_cons_zero, List.set_cons_succ]
                      have K2 := Lib.hid ((hbb.out.block V.heap.size lz1.out).trans (blk_new V (.cells #[.int .u16 0, .int .u16 0, .int .u32 0, .int .u32 0, .int .u8 0, .int .u16 0, .int .u16 0, .int .i64 0, .bool false, .int .i64 0, .bool false, .slice none 0 0, .bool false, .int .u32 0, .int .u32 0, .slice none 0 0] 27)))
                      refine wpAnyH_take (i := 31) (oi := _) (v := ?_) rfl (by kernel_rfl) (by kernel_rfl) (by kernel_rfl) (fun _ _ _ h => h) (Or.inl ⟨by rfl, ?_⟩) (by assumption) ?_
                      rotate_left
                      · intro w hSw
                        try dsimp only at hSw
                        go_simp
                        all_goals with_reducible rfl
                      (try simp only [List.getElem_toArray]); (try simp only [List.getElem_cons_succ]); (try simp only [List.getElem_cons_zero]); try simp only [Act.put, List.setIfInBounds_toArray, List.set_cons_zero, List.set_cons_succ]
                      refine wpAnyH_ready (rs := [33]) (by kernel_rfl) (by simp) ?_
                      refine (AllReadyH.cons (o := _) rfl (fun K hK => ?_) AllReadyH.nil)
                      · refine step_store_tcp ?_ (.tmp 9) (.tmp 72) ?_ V.heap.size _ (pC sp dp sq ak fl wn ur (.slice da ds.length dc) (.slice none 0 0) tOpt0) ?_ ?_ K2.out ?_ ?_ ?_ ?_
                        · rfl
                        · rfl
                        · rfl
                        · rfl
                        · rfl
                        · rfl
                        · simp [pC, Value.oneCell']
                        intro V5 h5 g5
                        have hs2 := Lib.hid h5
                        have hg2 := Lib.hid g5
                        have c13y := (World.cell?_of_block (w := V2) (w' := V5) (g5.block b (by have := hbb.out.size; have := lz1.out; omega) (fun e => nV (Option.some.inj e)))).trans c13z
                        clear h5 g5
                        refine hK.out _ _ ?_ (fun hHeld => ?_)
                        · exact c13y
                        clear hK K
                        refine wpAnyH_done (by kernel_rfl) ?_ _
                        go_wp2
                        go_meet
                        case rel => exact PcCut.one K.out Q.out hV hO.out hbb.out hs2.out hg2.out
        · (try simp only [List.getElem_toArray]); (try simp only [List.getElem_cons_succ]); (try simp only [List.getElem_cons_zero])
          go_simp
          refine hK.out _ _ ?_ (fun hHeld => ?_)
          · exact c13a
          clear hK K
          (try simp only [List.getElem_toArray]); (try simp only [List.getElem_cons_succ]); (try simp only [List.getElem_cons_zero]); try simp only [Act.put, List.setIfInBounds_toArray, List.set_cons_zero, List.set_cons_succ]
          refine wpAnyH_ready (rs := [6]) (by kernel_rfl) (by simp) ?_
          refine (AllReadyH.cons (o := _) rfl (fun K hK => ?_) AllReadyH.nil)
          · (try simp only [List.getElem_toArray]); (try simp only [List.getElem_cons_succ]); (try simp only [List.getElem_cons_zero])
            go_simp
            go_at_call 30
            (with_reducible refine (HnB.out _ _ (by first | exact q0.out | exact q1.out)).mono ?_)
            rintro e w' ⟨rfl, rfl⟩
            try dsimp only
            refine hK.out _ _ ?_ (fun hHeld => ?_)
            · first | exact c13 | exact c13z | exact c13a | exact c13b | go_keep
            clear hK K
            (try simp only [List.getElem_toArray]); (try simp only [List.getElem_cons_succ]); (try simp only [List.getElem_cons_zero]); try simp only [Act.put, List.setIfInBounds_toArray, List.set_cons_zero, List.set_cons_succ]
            refine wpAnyH_take (i := 7) (oi := _) (v := ?_) rfl (by kernel_rfl) (by kernel_rfl) (by kernel_rfl) (fun _ _ _ h => h) (Or.inl ⟨by rfl, ?_⟩) (by assumption) ?_
            rotate_left
            · intro w hSw
              try dsimp only at hSw
              go_simp
              all_goals with_reducible rfl
            (try simp only [List.getElem_toArray]); (try simp only [List.getElem_cons_succ]); (try simp only [List.getElem_cons_zero]); try simp only [Act.put, List.setIfInBounds_toArray, List.set_cons_zero, List.set_cons_succ]
            refine wpAnyH_ready (rs := [10]) (by kernel_rfl) (by simp) ?_
            refine (AllReadyH.cons (o := _) rfl (fun K hK => ?_) AllReadyH.nil)
            · (try simp only [List.getElem_toArray]); (try simp only [List.getElem_cons_succ]); (try simp only [List.getElem_cons_zero])
              go_simp
              go_at_call 30
              (with_reducible refine (HnC.out _ _ (by first | exact q0.out | exact q1.out)).mono ?_)
              rintro e w' ⟨rfl, rfl⟩
              try dsimp only
              refine hK.out _ _ ?_ (fun hHeld => ?_)
              · first | exact c13 | exact c13z | exact c13a | exact c13b | go_keep
              clear hK K
              (try simp only [List.getElem_toArray]); (try simp only [List.getElem_cons_succ]); (try simp only [List.getElem_cons_zero]); try simp only [Act.put, List.setIfInBounds_toArray, List.set_cons_zero, List.set_cons_succ]
              refine wpAnyH_take (i := 11) (oi := _) (v := ?_) rfl (by kernel_rfl) (by kernel_rfl) (by kernel_rfl) (fun _ _ _ h => h) (Or.inl ⟨by rfl, ?_⟩) (by assumption) ?_
              rotate_left
              · intro w hSw
                try dsimp only at hSw
                go_simp
                all_goals with_reducible rfl
              (try simp only [List.getElem_toArray]); (try simp only [List.getElem_cons_succ]); (try simp only [List.getElem_cons_zero]); try simp only [Act.put, List.setIfInBounds_toArray, List.set_cons_zero, List.set_cons_succ]
              refine wpAnyH_ready (rs := [14]) (by kernel_rfl) (by simp) ?_
              refine (AllReadyH.cons (o := _) rfl (fun K hK => ?_) AllReadyH.nil)
              · (try simp only [List.getElem_toArray]); (try simp only [List.getElem_cons_succ]); (try simp only [List.getElem_cons_zero])
                go_simp
                go_at_call 30
                (with_reducible refine (HnD.out _ _ (by first | exact q0.out | exact q1.out)).mono ?_)
                rintro e w' ⟨rfl, rfl⟩
                try dsimp only
                refine hK.out _ _ ?_ (fun hHeld => ?_)
                · first | exact c13 | exact c13z | exact c13a | exact c13b | go_keep
                clear hK K
                (try simp only [List.getElem_toArray]); (try simp only [List.getElem_cons_succ]); (try simp only [List.getElem_cons_zero]); try simp only [Act.put, List.setIfInBounds_toArray, List.set_cons_zero, List.set_cons_succ]
                refine wpAnyH_take (i := 15) (oi := _) (v := ?_) rfl (by kernel_rfl) (by kernel_rfl) (by kernel_rfl) (fun _ _ _ h => h) (Or.inl ⟨by rfl, ?_⟩) (by assumption) ?_
                rotate_left
                · intro w hSw
                  try dsimp only at hSw
                  go_simp
                  all_goals with_reducible rfl
                (try simp only [List.getElem_toArray]); (try simp only [List.getElem_cons_succ]); (try simp only [List.getElem_cons_zero]); try simp only [Act.put, List.setIfInBounds_toArray, List.set_cons_zero, List.set_cons_succ]
                refine wpAnyH_ready (rs := [21]) (by kernel_rfl) (by simp) ?_
                refine (AllReadyH.cons (o := _) rfl (fun K hK => ?_) AllReadyH.nil)
                · (try simp only [List.getElem_toArray]); (try simp only [List.getElem_cons_succ]); (try simp only [List.getElem_cons_zero])
                  go_simp
                  go_at_call 30
                  (with_reducible refine (HnE.out _ _ (by first | exact q0.out | exact q1.out)).mono ?_)
                  rintro e w' ⟨rfl, rfl⟩
                  try dsimp only
                  refine hK.out _ _ ?_ (fun hHeld => ?_)
                  · first | exact c13 | exact c13z | exact c13a | exact c13b | go_keep
                  clear hK K
                  (try simp only [List.getElem_toArray]); (try simp only [List.getElem_cons_succ]); (try simp only [List.getElem_cons_zero]); try simp only [Act.put, List.setIfInBounds_toArray, List.set_cons_zero, List.set_cons_succ]
                  refine wpAnyH_take (i := 22) (oi := _) (v := ?_) rfl (by kernel_rfl) (by kernel_rfl) (by kernel_rfl) (fun _ _ _ h => h) (Or.inl ⟨by rfl, ?_⟩) (by assumption) ?_
                  rotate_left
                  · intro w hSw
                    try dsimp only at hSw
                    go_simp
                    all_goals with_reducible rfl
                  (try simp only [List.getElem_toArray]); (try simp only [List.getElem_cons_succ]); (try simp only [List.getElem_cons_zero]); try simp only [Act.put, List.setIfInBounds_toArray, List.set_cons_zero, List.set_cons_succ]
                  refine wpAnyH_ready (rs := [25]) (by kernel_rfl) (by simp) ?_
                  refine (AllReadyH.cons (o := _) rfl (fun K hK => ?_) AllReadyH.nil)
                  · (try simp only [List.getElem_toArray]); (try simp only [List.getElem_cons_succ]); (try simp only [List.getElem_cons_zero])
                    go_simp
                    go_at_call 30
                    (with_reducible refine (HnF.out _ _ (by first | exact q0.out | exact q1.out)).mono ?_)
                    rintro e w' ⟨rfl, rfl⟩
                    try dsimp only
                    refine hK.out _ _ ?_ (fun hHeld => ?_)
                    · first | exact c13 | exact c13z | exact c13a | exact c13b | go_keep
                    clear hK K
                    (try simp only [List.getElem_toArray]); (try simp only [List.getElem_cons_succ]); (try simp only [List.getElem_cons_zero]); try simp only [Act.put, List.setIfInBounds_toArray, List.set_cons_zero, List.set_cons_succ]
                    refine wpAnyH_take (i := 26) (oi := _) (v := ?_) rfl (by kernel_rfl) (by kernel_rfl) (by kernel_rfl) (fun _ _ _ h => h) (Or.inl ⟨by rfl, ?_⟩) (by assumption) ?_
                    rotate_left
                    · intro w hSw
                      try dsimp only at hSw
                      go_simp
                      all_goals with_reducible rfl
                    (try simp only [List.getElem_toArray]); (try simp only [List.getElem_cons_succ]); (try simp only [List.getElem_cons_zero]); try simp only [Act.put, List.setIfInBounds_toArray, List.set_cons_zero, List.set_cons_succ]
                    refine wpAnyH_ready (rs := [30]) (by kernel_rfl) (by simp) ?_
                    refine (AllReadyH.cons (o := _) rfl (fun K hK => ?_) AllReadyH.nil)
                    · refine step_append_new rfl _ _ rfl _ HMl.out (HY.out _ _ q1.out rfl) (fun h => by cases h) rfl rfl hlen (Nat.le_refl _) ?_
                      intro da dc V2 O bb
                      have c13z := (bb.cell (p := ⟨b, off + 13, none⟩) c13l1.out).trans c13a
                      have hO := Lib.hid O
                      have hbb := Lib.hid bb
                      clear O bb
                      refine hK.out _ _ ?_ (fun hHeld => ?_)
                      · first | exact c13 | exact c13z | exact c13a | exact c13b | go_keep
                      clear hK K
                      (try simp only [List.getElem_toArray]); (try simp only [List.getElem_cons_succ]); (try simp only [List.getElem_cons_zero]); try simp only [Act.put, List.setIfInBounds_toArray, List.set_cons_zero, List.set_cons_succ]
                      have K2 := Lib.hid ((hbb.out.block V.heap.size lz1.out).trans (blk_new V (.cells #[.int .u16 0, .int .u16 0, .int .u32 0, .int .u32 0, .int .u8 0, .int .u16 0, .int .u16 0, .int .i64 0, .bool false, .int .i64 0, .bool false, .slice none 0 0, .bool false, .int .u32 0, .int .u32 0, .slice none 0 0] 27)))
                      refine wpAnyH_take (i := 31) (oi := _) (v := ?_) rfl (by kernel_rfl) (by kernel_rfl) (by kernel_rfl) (fun _ _ _ h => h) (Or.inl ⟨by rfl, ?_⟩) (by assumption) ?_
                      rotate_left
                      · intro w hSw
                        try dsimp only at hSw
                        go_simp
                        all_goals with_reducible rfl
                      (try simp only [List.getElem_toArray]); (try simp only [List.getElem_cons_succ]); (try simp only [List.getElem_cons_zero]); try simp only [Act.put, List.setIfInBounds_toArray, List.set_cons_zero, List.set_cons_succ]
                      refine wpAnyH_ready (rs := [33]) (by kernel_rfl) (by simp) ?_
                      refine (AllReadyH.cons (o := _) rfl (fun K hK => ?_) AllReadyH.nil)
                      · refine step_store_tcp ?_ (.tmp 9) (.tmp 72) ?_ V.heap.size _ (pC sp dp sq ak fl wn ur (.slice da ds.length dc) (.slice none 0 0) tOpt0) ?_ ?_ K2.out ?_ ?_ ?_ ?_
                        · rfl
                        · rfl
                        · rfl
                        · rfl
                        · rfl
                        · rfl
                        · simp [pC, Value.oneCell']
                        intro V5 h5 g5
                        have hs2 := Lib.hid h5
                        have hg2 := Lib.hid g5
                        have c13y := (World.cell?_of_block (w := V2) (w' := V5) (g5.block b (by have := hbb.out.size; have := lz1.out; omega) (fun e => nV (Option.some.inj e)))).trans c13z
                        clear h5 g5
                        refine hK.out _ _ ?_ (fun hHeld => ?_)
                        · exact c13y
                        clear hK K
                        refine wpAnyH_done (by kernel_rfl) ?_ _
                        go_wp2
                        go_meet
                        case rel => exact PcCut.one K.out Q.out hV hO.out hbb.out hs2.out hg2.out
      · (try simp only [List.getElem_toArray]); (try simp only [List.getElem_cons_succ]); (try simp only [List.getElem_cons_zero])
        go_simp
        refine hK.out _ _ ?_ (fun hHeld => ?_)
        · exact c13a
        clear hK K
        (try simp only [List.getElem_toArray]); (try simp only [List.getElem_cons_succ]); (try simp only [List.getElem_cons_zero]); try simp only [Act.put, List.setIfInBounds_toArray, List.set_cons_zero, List.set_cons_succ]
        refine wpAnyH_ready (rs := [2]) (by kernel_rfl) (by simp) ?_
        refine (AllReadyH.cons (o := _) rfl (fun K hK => ?_) AllReadyH.nil)
        · (try simp only [List.getElem_toArray]); (try simp only [List.getElem_cons_succ]); (try simp only [List.getElem_cons_zero])
          go_simp
          go_at_call 30
          (with_reducible refine (HnA.out _ _ (by first | exact q0.out | exact q1.out)).mono ?_)
          rintro e w' ⟨rfl, rfl⟩
          try dsimp only
          refine hK.out _ _ ?_ (fun hHeld => ?_)
          · first | exact c13 | exact c13z | exact c13a | exact c13b | go_keep
          clear hK K
          (try simp only [List.getElem_toArray]); (try simp only [List.getElem_cons_succ]); (try simp only [List.getElem_cons_zero]); try simp only [Act.put, List.setIfInBounds_toArray, List.set_cons_zero, List.set_cons_succ]
          refine wpAnyH_take (i := 3) (oi := _) (v := ?_) rfl (by kernel_rfl) (by kernel_rfl) (by kernel_rfl) (fun _ _ _ h => h) (Or.inl ⟨by rfl, ?_⟩) (by assumption) ?_
          rotate_left
          · intro w hSw
            try dsimp only at hSw
            go_simp
            all_goals with_reducible rfl
          (try simp only [List.getElem_toArray]); (try simp only [List.getElem_cons_succ]); (try simp only [List.getElem_cons_zero]); try simp only [Act.put, List.setIfInBounds_toArray, List.set_cons_zero, List.set_cons_succ]
          refine wpAnyH_ready (rs := [6]) (by kernel_rfl) (by simp) ?_
          refine (AllReadyH.cons (o := _) rfl (fun K hK => ?_) AllReadyH.nil)
          · (try simp only [List.getElem_toArray]); (try simp only [List.getElem_cons_succ]); (try simp only [List.getElem_cons_zero])
            go_simp
            go_at_call 30
            (with_reducible refine (HnB.out _ _ (by first | exact q0.out | exact q1.out)).mono ?_)
            rintro e w' ⟨rfl, rfl⟩
            try dsimp only
            refine hK.out _ _ ?_ (fun hHeld => ?_)
            · first | exact c13 | exact c13z | exact c13a | exact c13b | go_keep
            clear hK K
            (try simp only [List.getElem_toArray]); (try simp only [List.getElem_cons_succ]); (try simp only [List.getElem_cons_zero]); try simp only [Act.put, List.setIfInBounds_toArray, List.set_cons_zero, List.set_cons_succ]
            refine wpAnyH_take (i := 7) (oi := _) (v := ?_) rfl (by kernel_rfl) (by kernel_rfl) (by kernel_rfl) (fun _ _ _ h => h) (Or.inl ⟨by rfl, ?_⟩) (by assumption) ?_
            rotate_left
            · intro w hSw
              try dsimp only at hSw
              go_simp
              all_goals with_reducible rfl
            (try simp only [List.getElem_toArray]); (try simp only [List.getElem_cons_succ]); (try simp only [List.getElem_cons_zero]); try simp only [Act.put, List.setIfInBounds_toArray, List.set_cons_zero, List.set_cons_succ]
            refine wpAnyH_ready (rs := [10]) (by kernel_rfl) (by simp) ?_
            refine (AllReadyH.cons (o := _) rfl (fun K hK => ?_) AllReadyH.nil)
            · (try simp only [List.getElem_toArray]); (try simp only [List.getElem_cons_succ]); (try simp only [List.getElem_cons_zero])
              go_simp
              go_at_call 30
              (with_reducible refine (HnC.out _ _ (by first | exact q0.out | exact q1.out)).mono ?_)
              rintro e w' ⟨rfl, rfl⟩
              try dsimp only
              refine hK.out _ _ ?_ (fun hHeld => ?_)
              · first | exact c13 | exact c13z | exact c13a | exact c13b | go_keep
              clear hK K
              (try simp only [List.getElem_toArray]); (try simp only [List.getElem_cons_succ]); (try simp only [List.getElem_cons_zero]); try simp only [Act.put, List.setIfInBounds_toArray, List.set_cons_zero, List.set_cons_succ]
              refine wpAnyH_take (i := 11) (oi := _) (v := ?_) rfl (by kernel_rfl) (by kernel_rfl) (by kernel_rfl) (fun _ _ _ h => h) (Or.inl ⟨by rfl, ?_⟩) (by assumption) ?_
              rotate_left
              · intro w hSw
                try dsimp only at hSw
                go_simp
                all_goals with_reducible rfl
              (try simp only [List.getElem_toArray]); (try simp only [List.getElem_cons_succ]); (try simp only [List.getElem_cons_zero]); try simp only [Act.put, List.setIfInBounds_toArray, List.set_cons_zero, List.set_cons_succ]
              refine wpAnyH_ready (rs := [14]) (by kernel_rfl) (by simp) ?_
              refine (AllReadyH.cons (o := _) rfl (fun K hK => ?_) AllReadyH.nil)
              · (try simp only [List.getElem_toArray]); (try simp only [List.getElem_cons_succ]); (try simp only [List.getElem_cons_zero])
                go_simp
                go_at_call 30
                (with_reducible refine (HnD.out _ _ (by first | exact q0.out | exact q1.out)).mono ?_)
                rintro e w' ⟨rfl, rfl⟩
                try dsimp only
                refine hK.out _ _ ?_ (fun hHeld => ?_)
                · first | exact c13 | exact c13z | exact c13a | exact c13b | go_keep
                clear hK K
                (try simp only [List.getElem_toArray]); (try simp only [List.getElem_cons_succ]); (try simp only [List.getElem_cons_zero]); try simp only [Act.put, List.setIfInBounds_toArray, List.set_cons_zero, List.set_cons_succ]
                refine wpAnyH_take (i := 15) (oi := _) (v := ?_) rfl (by kernel_rfl) (by kernel_rfl) (by kernel_rfl) (fun _ _ _ h => h) (Or.inl ⟨by rfl, ?_⟩) (by assumption) ?_
                rotate_left
                · intro w hSw
                  try dsimp only at hSw
                  go_simp
                  all_goals with_reducible rfl
                (try simp only [List.getElem_toArray]); (try simp only [List.getElem_cons_succ]); (try simp only [List.getElem_cons_zero]); try simp only [Act.put, List.setIfInBounds_toArray, List.set_cons_zero, List.set_cons_succ]
                refine wpAnyH_ready (rs := [21]) (by kernel_rfl) (by simp) ?_
                refine (AllReadyH.cons (o := _) rfl (fun K hK => ?_) AllReadyH.nil)
                · (try simp only [List.getElem_toArray]); (try simp only [List.getElem_cons_succ]); (try simp only [List.getElem_cons_zero])
                  go_simp
                  go_at_call 30
                  (with_reducible refine (HnE.out _ _ (by first | exact q0.out | exact q1.out)).mono ?_)
                  rintro e w' ⟨rfl, rfl⟩
                  try dsimp only
                  refine hK.out _ _ ?_ (fun hHeld => ?_)
                  · first | exact c13 | exact c13z | exact c13a | exact c13b | go_keep
                  clear hK K
                  (try simp only [List.getElem_toArray]); (try simp only [List.getElem_cons_succ]); (try simp only [List.getElem_cons_zero]); try simp only [Act.put, List.setIfInBounds_toArray, List.set_cons_zero, List.set_cons_succ]
                  refine wpAnyH_take (i := 22) (oi := _) (v := ?_) rfl (by kernel_rfl) (by kernel_rfl) (by kernel_rfl) (fun _ _ _ h => h) (Or.inl ⟨by rfl, ?_⟩) (by assumption) ?_
                  rotate_left
                  · intro w hSw
                    try dsimp only at hSw
                    go_simp
                    all_goals with_reducible rfl
                  (try simp only [List.getElem_toArray]); (try simp only [List.getElem_cons_succ]); (try simp only [List.getElem_cons_zero]); try simp only [Act.put, List.setIfInBounds_toArray, List.set_cons_zero, List.set_cons_succ]
                  refine wpAnyH_ready (rs := [25]) (by kernel_rfl) (by simp) ?_
                  refine (AllReadyH.cons (o := _) rfl (fun K hK => ?_) AllReadyH.nil)
                  · (try simp only [List.getElem_toArray]); (try simp only [List.getElem_cons_succ]); (try simp only [List.getElem_cons_zero])
                    go_simp
                    go_at_call 30
                    (with_reducible refine (HnF.out _ _ (by first | exact q0.out | exact q1.out)).mono ?_)
                    rintro e w' ⟨rfl, rfl⟩
                    try dsimp only
                    refine hK.out _ _ ?_ (fun hHeld => ?_)
                    · first | exact c13 | exact c13z | exact c13a | exact c13b | go_keep
                    clear hK K
                    (try simp only [List.getElem_toArray]); (try simp only [List.getElem_cons_succ]); (try simp only [List.getElem_cons_zero]); try simp only [Act.put, List.setIfInBounds_toArray, List.set_cons_zero, List.set_cons_succ]
                    refine wpAnyH_take (i := 26) (oi := _) (v := ?_) rfl (by kernel_rfl) (by kernel_rfl) (by kernel_rfl) (fun _ _ _ h => h) (Or.inl ⟨by rfl, ?_⟩) (by assumption) ?_
                    rotate_left
                    · intro w hSw
                      try dsimp only at hSw
                      go_simp
                      all_goals with_reducible rfl
                    (try simp only [List.getElem_toArray]); (try simp only [List.getElem_cons_succ]); (try simp only [List.getElem_cons_zero]); try simp only [Act.put, List.setIfInBounds_toArray, List.set_cons_zero, List.set_cons_succ]
                    refine wpAnyH_ready (rs := [30]) (by kernel_rfl) (by simp) ?_
                    refine (AllReadyH.cons (o := _) rfl (fun K hK => ?_) AllReadyH.nil)
                    · refine step_append_new rfl _ _ rfl _ HMl.out (HY.out _ _ q1.out rfl) (fun h => by cases h) rfl rfl hlen (Nat.le_refl _) ?_
                      intro da dc V2 O bb
                      have c13z := (bb.cell (p := ⟨b, off + 13, none⟩) c13l1.out).trans c13a
                      have hO := Lib.hid O
                      have hbb := Lib.hid bb
                      clear O bb
                      refine hK.out _ _ ?_ (fun hHeld => ?_)
                      · first | exact c13 | exact c13z | exact c13a | exact c13b | go_keep
                      clear hK K
                      (try simp only [List.getElem_toArray]); (try simp only [List.getElem_cons_succ]); (try simp only [List.getElem_cons_zero]); try simp only [Act.put, List.setIfInBounds_toArray, List.set_cons_zero, List.set_cons_succ]
                      have K2 := Lib.hid ((hbb.out.block V.heap.size lz1.out).trans (blk_new V (.cells #[.int .u16 0, .int .u16 0, .int .u32 0, .int .u32 0, .int .u8 0, .int .u16 0, .int .u16 0, .int .i64 0, .bool false, .int .i64 0, .bool false, .slice none 0 0, .bool false, .int .u32 0, .int .u32 0, .slice none 0 0] 27)))
                      refine wpAnyH_take (i := 31) (oi := _) (v := ?_) rfl (by kernel_rfl) (by kernel_rfl) (by kernel_rfl) (fun _ _ _ h => h) (Or.inl ⟨by rfl, ?_⟩) (by assumption) ?_
                      rotate_left
                      · intro w hSw
                        try dsimp only at hSw
                        go_simp
                        all_goals with_reducible rfl
                      (try simp only [List.getElem_toArray]); (try simp only [List.getElem_cons_succ]); (try simp only [List.getElem_cons_zero]); try simp only [Act.put, List.setIfInBounds_toArray, List.set_cons_zero, List.set_cons_succ]
                      refine wpAnyH_ready (rs := [33]) (by kernel_rfl) (by simp) ?_
                      refine (AllReadyH.cons (o := _) rfl (fun K hK => ?_) AllReadyH.nil)
                      · refine step_store_tcp ?_ (.tmp 9) (.tmp 72) ?_ V.heap.size _ (pC sp dp sq ak fl wn ur (.slice da ds.length dc) (.slice none 0 0) tOpt0) ?_ ?_ K2.out ?_ ?_ ?_ ?_
                        · rfl
                        · rfl
                        · rfl
                        · rfl
                        · rfl
                        · rfl
                        · simp [pC, Value.oneCell']
                        intro V5 h5 g5
                        have hs2 := Lib.hid h5
                        have hg2 := Lib.hid g5
                        have c13y := (World.cell?_of_block (w := V2) (w' := V5) (g5.block b (by have := hbb.out.size; have := lz1.out; omega) (fun e => nV (Option.some.inj e)))).trans c13z
                        clear h5 g5
                        refine hK.out _ _ ?_ (fun hHeld => ?_)
                        · exact c13y
                        clear hK K
                        refine wpAnyH_done (by kernel_rfl) ?_ _
                        go_wp2
                        go_meet
                        case rel => exact PcCut.one K.out Q.out hV hO.out hbb.out hs2.out hg2.out
  case rest =>
    obtain ⟨gs, da, dc, rfl, hT, hgs, hO, hda, hK, hB⟩ := hcut
    obtain ⟨W2, hW2⟩ : ∃ W2, (wc.alloc (.map #[] 0)).alloc (.cells #[.map (some wc.heap.size)] 59) = W2 := ⟨_, rfl⟩
    have hgl : gs < wc.heap.size := (Array.getElem?_eq_some_iff.1 hT).1
    have hws : w.heap.size < wc.heap.size := (Array.getElem?_eq_some_iff.1 hK).1
    have sz1 : (wc.alloc (.map #[] 0)).heap.size = wc.heap.size + 1 := World.size_alloc _ _
    have hold : ∀ j, j < wc.heap.size → W2.heap[j]? = wc.heap[j]? := fun j hj => by
      rw [← hW2]; exact (Below.heap_alloc _ _ j (by omega)).trans (Below.heap_alloc wc _ j hj)
    have hmap : W2.ownsMap Try.prog 5 (plainElem (H := Unit) Try.prog 3) wc.heap.size 0 (.map []) := by
      rw [← hW2]; exact (World.ownsMap_made wc _ _ _).alloc _
    have hq : W2.heap[wc.heap.size + 1]? = some (.cells #[.map (some wc.heap.size)] 59 (0, 0)) := by
      rw [← hW2, ← sz1]; exact blk_new _ _
    have hB2 : Below w.heap.size w W2 := by
      rw [← hW2]; exact (hB.alloc (by omega) _).alloc (by omega) _
    have hI : PInv w (wc.heap.size + 1) wc.heap.size gs sp dp sq ak fl wn ur (.slice da ds.length dc) (PcH (w.heap.size + 1) w.heap.size wc.heap.size gs da ds dc) [] tOpt0 W2 := by
      refine ⟨⟨hq, _, hmap, fun k _ => rfl⟩, ⟨.slice none 0 0, (hold gs hgl).trans hT, World.ownsRow_nil _ _ _ _, fun _ => ⟨rfl, rfl⟩⟩, hB2, hO.same (fun g e => hold g (hda g e).2), fun g e => ⟨by have := (hda g e).2; omega, (hda g e).1, Nat.lt_of_lt_of_le (hda g e).2 (by have : W2.heap.size = wc.heap.size + 1 + 1 := (by rw [← hW2, World.size_alloc, sz1]); omega)⟩, (hold _ hws).trans hK, by omega, by omega⟩
    have hol' := HOL.out
    have hhd' := HHD.out
    have HW := Lib.hid (fun ad c2 (h1 : Bts w ad os) (h2 : os.length ≤ c2) => walk_any w (wc.heap.size + 1) wc.heap.size gs sp dp sq ak fl wn ur (.slice da ds.length dc) (PcH (w.heap.size + 1) w.heap.size wc.heap.size gs da ds dc) (fun W W' => PcH.kept W W') tOpt0 ad os c2 W2 hI (by omega) (by omega) (by omega) (by omega) h1 h2 (by omega))
    rw [hol'] at HW
    have hmm := @run_makeMap Try.prog
    have hbs : ∀ ad : Option Addr, (20 < hd → ad = some ⟨b, off + 20, none⟩) → Bts w ad os := fun ad h => by
      by_cases h0 : 20 < hd
      · rw [h h0]; exact HOS.out
      · rw [List.eq_nil_of_length_eq_zero (show os.length = 0 by omega)]; exact Bts.nil w ad
    have HBS := Lib.hid hbs
    have HWs := Lib.hid hws
    clear hT hO hda hK hB hold hmap hq hB2 hI hbs hgl hhd' hol'
    by_cases z20 : cap = 20
    case' pos =>
      have HZ : Hid (hd = 20) := Lib.hid (by have := HHD.out; omega)
      obtain rfl := HZ.out
      subst z20
    all_goals
      go_wp2_with fail
      refine (HW.out _ _ (HBS.out _ (by first | exact fun _ => rfl | exact fun h => absurd h (by omega))) (by have := HOL.out; have := HHD.out; omega)).mono ?_
      rintro e V3 ⟨ks, s, ⟨_, ⟨v, hT3, hr3, _⟩, hB3, hO3, hd3, hK3, hne1, hne2⟩, hcase⟩
      have HT3 := Lib.hid hT3
      have HR3 := Lib.hid hr3
      have HB3 := Lib.hid hB3
      have HO3 := Lib.hid hO3
      have HK3 := Lib.hid hK3
      clear hT3 hr3 hB3 hO3 hK3 hd3 hne1 hne2 HW HBS
      rcases hcase with ⟨hs, rfl⟩ | ⟨hs, rfl⟩
      · rw [← HOL.out] at hs
        have HSS := Lib.hid hs
        clear hs
        go_wp2_with (first
          | ((with_reducible show wpList _ _ _ _ _ _); refine wpList_load_tcp rfl (.tmp 9) rfl gs rfl _ HT3.out rfl ?_)
          | ((with_reducible show wpList _ _ _ _ _ _); refine wpList_store_tcp rfl (.tmp 6) (.tmp 83) rfl w.heap.size _ (pC sp dp sq ak fl wn ur (.slice da ds.length dc) v s) rfl rfl HK3.out rfl rfl (by simp [pC, Value.oneCell']; exact own_one HR3.out) ?_; intro V4 hs2 hg2; have K2 := Lib.hid hs2; have G2 := Lib.hid hg2; clear hs2 hg2))
        exact bodyPost_ret (results_tcp rfl _ _ w.heap.size _ _ rfl rfl K2.out rfl) rfl ⟨HB3.out.grown G2.out HB3.out.size (fun j e => by cases e; exact Nat.le_refl _), .inr ⟨s, v, da, dc, HSS.out, rfl, HO3.out.kept G2.out (Nat.lt_succ_self _), HR3.out.kept G2.out (.inr (tcp_not_row HK3.out HR3.out).symm)⟩⟩
      · rw [← HOL.out] at hs
        have HSS := Lib.hid hs
        clear hs
        go_wp2_with ((with_reducible show wpList _ _ _ _ _ _); refine wpList_store_tcp rfl (.tmp 6) (.tmp 81) rfl w.heap.size _ _ rfl rfl HK3.out rfl rfl (by simp [Value.oneCell']) ?_; intro V4 hs2 hg2; have K2 := Lib.hid hs2; have G2 := Lib.hid hg2; clear hs2 hg2)
        exact bodyPost_ret (results_tcp rfl _ _ w.heap.size _ _ rfl rfl K2.out rfl) rfl ⟨HB3.out.grown G2.out HB3.out.size (fun j e => by cases e; exact Nat.le_refl _), .inl ⟨HSS.out, rfl⟩⟩
end Go.Proofs.Ytgmgoilleakdcaa
