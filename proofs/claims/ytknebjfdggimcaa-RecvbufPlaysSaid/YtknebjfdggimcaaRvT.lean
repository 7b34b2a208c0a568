/- Recvbuf: Blocks. -/
import Derived.Test.YtknebjfdggimcaaRvNo
import Derived.Lib.SliceRun
namespace Go.Proofs.Ytknebjfdggimcaa
open Go.RowKit Go.Proofs.Ytknebjfdggimcaa.Rv

set_option maxRecDepth 100000 in
set_option maxHeartbeats 1000000 in
theorem clone_pt (a : Option Addr) (l : List Pt) (cap : Nat) (w : World) (h : Sts 3 PC Tr w a l) (hn : a = none → cap = 0) (hl : l.length ≤ 1000000) :
    Calls Try.prog 35 #[.slice a l.length cap] w fun e w' => (∃ a' c', e = .returned (.slice a' l.length c') ∧ OwnR 87 3 PC w.heap.size a' l c' w') ∧ Below w.heap.size w w' := by
  cases a with
  | none =>
    obtain rfl : l = [] := by rcases h.2 with h | ⟨_, _, h, _⟩
                              · exact h
                              · cases h
    obtain rfl := hn rfl
    clear h hn hl
    have hEq : ∀ W, (binOp .eql 68 (.slice none 0 0) (.slice none 0 0)).run Try.prog W = .ok (.bool true) W := fun W => Lib.run_eql_slice_nil W _ _ none 0 0 0 0 elemP.und
    go_enter Try.func35, Try.ntmps35
    go_wp2
    go_ret
    exact ⟨⟨none, 0, rfl, ownR_nil _ _ _ _ _⟩, Below.refl _ _⟩
  | some ad =>
    have bal : ∀ (W : World) (o : Obj), Below W.heap.size W (W.alloc o) := fun W o => (Below.refl W.heap.size W).alloc (Nat.le_refl _) o
    have HL := Lib.hid h
    clear h hn
    have hEq : ∀ W, (binOp .eql 68 (.slice (some ad) l.length cap) (.slice none 0 0)).run Try.prog W = .ok (.bool false) W := fun W => Lib.run_eql_slice_nil W _ _ (some ad) l.length cap 0 0 elemP.und
    go_enter Try.func35, Try.ntmps35
    go_wp2_with (first
      | (refine wpList_append_r (t := 68) (e := 87) (z := .agg #[.int .i64 0, .int .i64 0, .int .i64 0]) (m := 3) (bz := 24) (cells := PC) (xs := ([] : List Pt)) (ys := l) (cap := 0) (a := some ⟨w.heap.size, 0, none⟩) (b := some ad) (dap := cap) (n := l.length) rfl elemP encP (.tmp 5) (.tmp 6) rfl w.heap.size rfl ?_ ?_ ?_ ?_ ?_ ?_ ?_ ?_ ?_; exact ownR_new encP 87 w [] (by simp); exact HL.out.belowT (bal w _); (intro e; cases e); rfl; rfl; (simp only [List.length_nil]; omega); (unfold maxLen; simp only [List.length_nil]; omega); exact (bal w (.cells #[] 87)).size; intro a2 c2 W1 O1 b1 g1; have O2 := Lib.hid O1; have Q2 := Lib.hid ((bal w (.cells #[] 87)).trans b1); clear O1 b1 g1)
      | fail)
    go_ret
    exact ⟨⟨a2, c2, rfl, O2.out⟩, Q2.out⟩

/-- Any list of one's own sorted, nil too: the same answer wherever it lies. -/
theorem sort_all (B : Nat) (l : List Pt) (hl : l.length ≤ 4398046511104) :
    ∃ sl, sl.Perm l ∧ rising sl ∧ ∀ (a : Option Addr) (c : Nat) (W : World), OwnR 87 3 PC B a l c W → B ≤ W.heap.size → Calls Try.prog 36 #[.slice a l.length c, .func (.func 37) #[] #[]] W fun e w' => e = .returned (.tuple #[]) ∧ OwnR 87 3 PC B a sl c w' ∧ Below B W w' := by
  obtain ⟨sl, h1, h2, h3⟩ := sort_spd B l hl
  refine ⟨sl, h1, h2, fun a c W O hB => ?_⟩
  cases a with
  | none =>
    have hnil : l = [] ∧ c = 0 := by rcases O with ⟨_, h, h'⟩ | ⟨g, h, _⟩; exact ⟨h, h'⟩; cases h
    obtain ⟨rfl, rfl⟩ := hnil
    obtain rfl : sl = [] := by simpa using h1
    refine (sort_nil _ W).mono ?_
    rintro e w' ⟨rfl, rfl⟩
    exact ⟨rfl, O, Below.refl _ _⟩
  | some ad =>
    rcases O with ⟨h, _⟩ | ⟨g, h, hBg, hr⟩
    · cases h
    · cases h
      exact h3 g c W (.inr ⟨g, rfl, hBg, hr⟩) hBg (hr.lt g rfl).2
/-- Blocks, as they lie. -/
def BC (p : Nat × Nat) : List Value := [.int .u32 (p.1 : Nat), .int .u32 (p.2 : Nat)]
theorem encB : Enc 2 BC := ⟨fun _ => rfl, fun x u hu => by
  simp only [BC, List.mem_cons, List.not_mem_nil, or_false] at hu
  rcases hu with rfl | rfl <;> rfl, by decide⟩
theorem elemBk : Elem 54 65 (.agg #[.int .u32 0, .int .u32 0]) 2 8 := ⟨Try.underlying54, by kernel_rfl, rfl, by decide⟩
/-- A part as a block. -/
def bk (nx : Nat) (p : Pt) : Nat × Nat := ((nx + p.1) % 4294967296, (nx + p.2.1) % 4294967296)
def bks (s : St) (sl : List Pt) : List (Nat × Nat) := (sl.take 4).map (bk s.next)

set_option maxRecDepth 100000 in
set_option maxHeartbeats 2000000 in
/-- Blocks behind the sort. -/
theorem blocks_of (g G n st rd nx pc ct : Nat) (pa : Option Addr) (ps : List Pt) (w : World) (hB : w.heap[g]? = some (.cells #[.slice (some ⟨G, 0, none⟩) n n, .int .i64 (st : Nat), .int .i64 (rd : Nat), .int .u32 (nx : Nat), .slice pa ps.length pc, .int .i64 (ct : Nat)] 70 (0, 0)))
    (hS : Sts 3 PC Tr w pa ps) (hdn : pa = none → pc = 0) (hl : ps.length ≤ 2000) (hb : ∀ p ∈ ps, p.1 ≤ 1048576 ∧ p.2.1 ≤ 1048576) (sl : List Pt) (hp : sl.Perm ps)
    (hsort : ∀ (a : Option Addr) (c : Nat) (W : World), OwnR 87 3 PC w.heap.size a ps c W → w.heap.size ≤ W.heap.size → Calls Try.prog 36 #[.slice a ps.length c, .func (.func 37) #[] #[]] W fun e w' => e = .returned (.tuple #[]) ∧ OwnR 87 3 PC w.heap.size a sl c w' ∧ Below w.heap.size W w') :
    Calls Try.prog 24 #[.pointer (some ⟨g, 0, none⟩)] w fun e w' => ∃ a c, e = .returned (.slice a ((sl.take 4).map (bk nx)).length c) ∧ OwnR 65 2 BC w.heap.size a ((sl.take 4).map (bk nx)) c w' ∧ Below w.heap.size w w' := by
  have hsl : sl.length = ps.length := hp.length_eq
  have hbs : ∀ p ∈ sl, p.1 ≤ 1048576 ∧ p.2.1 ≤ 1048576 := fun p h => hb p (hp.mem_iff.1 h)
  have HB := Lib.hid hB
  have HC := Lib.hid (clone_pt pa ps pc w hS hdn (by omega))
  have HSO := Lib.hid hsort
  have HBS := Lib.hid hbs
  have HSL := Lib.hid hsl
  have gz := blk_lt hB
  have c4 := blk_cell hB 4
  obtain ⟨tk, htk⟩ : ∃ z, sl.take 4 = z := ⟨_, rfl⟩
  have HTK := Lib.hid htk
  rw [htk]
  obtain ⟨ml, hml⟩ : ∃ z, tk.map (bk nx) = z := ⟨_, rfl⟩
  have HML := Lib.hid hml
  rw [hml]
  clear hml
  obtain ⟨k, hk⟩ : ∃ k, min ps.length 4 = k := ⟨_, rfl⟩
  have hkl : tk.length = k := by rw [← htk, List.length_take, hsl]; omega
  have HKL := Lib.hid hkl
  have hmin : min (ps.length : Int) 4 = (k : Int) := by omega
  have hmin2 : min ps.length 4 = k := hk
  clear hB hS hsort hbs hsl hp htk hkl
  go_enter Try.func24, Try.ntmps24
  go_upto_region 5 with (first
    | (go_at_call 28; refine (made_yes g G n st rd nx pa ps.length pc ct _ HB.out).mono ?_; rintro e w' ⟨rfl, rfl⟩)
    | (go_at_call 35; refine HC.out.mono ?_; rintro e V1 ⟨⟨a1, c1, rfl, o1⟩, b1⟩; have O1 := Lib.hid o1; have Q1 := Lib.hid b1; clear o1 b1)
    | (go_at_call 36; refine (HSO.out a1 c1 V1 O1.out Q1.out.size).mono ?_; rintro e V2 ⟨rfl, o2, b2⟩; have O2 := Lib.hid o2; have Q2 := Lib.hid (Q1.out.trans b2); clear o2 b2)
    | fail)
  have hcap := O2.out.capLe
  rw [HSL.out] at hcap
  have i0 : (k : Int) ≤ (c1 : Int) := by omega
  have hkc : k ≤ c1 := by omega
  go_wp2_with fail
  clear hcap
  go_loopw [4, 23] (fun ov iv wr => ∃ (i : Nat) (p : Option Addr) (d : Nat), i ≤ k ∧ iv = .int .i64 i ∧ ov = .slice p ((tk.take i).map (bk nx)).length d ∧ OwnR 65 2 BC V2.heap.size p ((tk.take i).map (bk nx)) d wr ∧ Below V2.heap.size V2 wr) (fun _ iv _ => k - (intOf iv).toNat)
  case atStart => exact ⟨0, none, 0, by omega, rfl, rfl, ownR_nil _ _ _ _ _, Below.refl _ _⟩
  case round =>
    obtain ⟨i, p, d, hi, rfl, rfl, hO, hq0⟩ := hrel
    have BR := Lib.hid hq0
    have OR := Lib.hid hO
    clear hq0 hO
    by_cases hlt : i < k
    case neg =>
      obtain rfl : i = k := by omega
      have i1 : ¬ ((i : Int) < (i : Int)) := by omega
      have htt : tk.take i = tk := List.take_of_length_le (by rw [HKL.out]; exact Nat.le_refl _)
      rw [htt, HML.out] at OR ⊢
      clear htt
      go_wp2
      go_ret
      exact ⟨p, d, rfl, OR.out.mono Q2.out.size, Q2.out.trans (BR.out.mono Q2.out.size)⟩
    case pos =>
      have i1 : (i : Int) < (k : Int) := by omega
      obtain ⟨x, hx⟩ : ∃ x, tk[i]? = some x := ⟨_, List.getElem?_eq_getElem (by rw [HKL.out]; exact hlt)⟩
      have hxs : sl[i]? = some x := by rw [← HTK.out, List.getElem?_take] at hx; split at hx; exact hx; cases hx
      have hxb := HBS.out x (List.mem_of_getElem? hxs)
      obtain ⟨gs, ha1, hgB, hgl⟩ := O2.out.isSome (by have := (List.getElem?_eq_some_iff.1 hxs).1; omega)
      subst ha1
      obtain ⟨_, p0, p1, p2⟩ := pt_at (O2.out.sts encP) hxs
      simp only [Nat.zero_add] at p0 p1 p2
      have m0 := (BR.out.cell (p := ⟨gs, i * 3, none⟩) hgl).trans p0
      have m1 := (BR.out.cell (p := ⟨gs, i * 3 + 1, none⟩) hgl).trans p1
      have m2 := (BR.out.cell (p := ⟨gs, i * 3 + 2, none⟩) hgl).trans p2
      have hmp : (tk.take (i + 1)).map (bk nx) = (tk.take i).map (bk nx) ++ [bk nx x] := by rw [List.take_add_one, hx, List.map_append]; rfl
      have hil : ((tk.take i).map (bk nx)).length ≤ 4 := by rw [List.length_map, List.length_take, HKL.out]; omega
      generalize (tk.take i).map (bk nx) = out at OR hmp hil ⊢
      have HMP := Lib.hid hmp
      obtain ⟨xl, hxl⟩ : ∃ z, (nx + x.1) % 4294967296 = z := ⟨_, rfl⟩
      obtain ⟨xr, hxr⟩ : ∃ z, (nx + x.2.1) % 4294967296 = z := ⟨_, rfl⟩
      have HBK : Hid (bk nx x = (xl, xr)) := Lib.hid (by unfold bk; rw [hxl, hxr])
      have W1 : IntKind.u32.wrap (x.1 : Int) = (x.1 : Int) := by rw [IntKind.wrap_u32]; omega
      have W2 : IntKind.u32.wrap (x.2.1 : Int) = (x.2.1 : Int) := by rw [IntKind.wrap_u32]; omega
      have W3 : IntKind.u32.wrap ((nx : Int) + (x.1 : Int)) = (xl : Int) := by rw [IntKind.wrap_u32]; omega
      have W4 : IntKind.u32.wrap ((nx : Int) + (x.2.1 : Int)) = (xr : Int) := by rw [IntKind.wrap_u32]; omega
      have Wi : IntKind.i64.wrap ((i : Int) + 1) = ((i + 1 : Nat) : Int) := by rw [IntWalk.i64_in _ ⟨by omega, by omega⟩]; omega
      clear p0 p1 p2 hx hxs hmp hxl hxr
      go_upto_region 9 with fail
      have X2 := Lib.hid (blk_new wr (.cells #[.int .i64 (x.1 : Nat), .int .i64 (x.2.1 : Nat), .int .i64 (x.2.2 : Nat)] 87))
      have bA := (Below.refl wr.heap.size wr).alloc (Nat.le_refl _) (.cells #[.int .i64 (x.1 : Nat), .int .i64 (x.2.1 : Nat), .int .i64 (x.2.2 : Nat)] 87)
      have bD : Below wr.heap.size wr (wr.alloc (.cells #[.int .i64 (x.1 : Nat), .int .i64 (x.2.1 : Nat), .int .i64 (x.2.2 : Nat)] 87)).drew := bA.drew
      have O3 := Lib.hid (OR.out.below bD)
      have OB := Lib.hid (OR.out.ownB)
      have GR := Lib.hid ((bD.block _ (Nat.lt_of_lt_of_le (Nat.lt_of_lt_of_le gz Q2.out.size) BR.out.size)).trans ((BR.out.block _ (Nat.lt_of_lt_of_le gz Q2.out.size)).trans ((Q2.out.block _ gz).trans HB.out)))
      have X3 := Lib.hid (blk_drew X2.out)
      have QD := Lib.hid (BR.out.trans (bD.mono BR.out.size))
      have hVW := Lib.hid (Nat.le_trans BR.out.size bD.size)
      clear m0 m1 m2 bA bD
      generalize wr.alloc (.cells #[.int .i64 (x.1 : Nat), .int .i64 (x.2.1 : Nat), .int .i64 (x.2.2 : Nat)] 87) = V3 at X2 O3 GR X3 QD hVW ⊢
      have n3 := blk_cell GR.out 3
      have x0 := blk_cell X3.out 0
      have x1 := blk_cell X3.out 1
      have BAL := Lib.hid ((Below.refl V3.drew.heap.size V3.drew).alloc (Nat.le_refl _) (.cells #[.int .u32 (xl : Nat), .int .u32 (xr : Nat)] 65))
      have NS := Lib.hid (sts_new encB V3.drew [(xl, xr)] 65 (0, 0))
      have O4 := Lib.hid (O3.out.below BAL.out)
      have hl1 : (out.length + [(xl, xr)].length) * 8 ≤ 140737488355328 := by rw [List.length_singleton]; omega
      have hl2 : out.length + [(xl, xr)].length ≤ maxLen := by unfold maxLen; rw [List.length_singleton]; omega
      have HL1 := Lib.hid hl1
      have HL2 := Lib.hid hl2
      have hvb := Lib.hid (Nat.le_trans hVW.out BAL.out.size)
      clear hl1 hl2
      go_region_held3 (fun W => W.cell? ⟨g, 3, none⟩ = some (.int .u32 (nx : Nat)) ∧ W.cell? ⟨wr.heap.size, 0, none⟩ = some (.int .i64 (x.1 : Nat)) ∧ W.cell? ⟨wr.heap.size, 1, none⟩ = some (.int .i64 (x.2.1 : Nat))) (first | exact ⟨n3, x0, x1⟩ | (with_reducible exact KS.out) | exact ⟨(BAL.out.cell (p := ⟨g, 3, none⟩) (blk_lt GR.out)).trans n3, (BAL.out.cell (p := ⟨wr.heap.size, 0, none⟩) (blk_lt X3.out)).trans x0, (BAL.out.cell (p := ⟨wr.heap.size, 1, none⟩) (blk_lt X3.out)).trans x1⟩ | go_keep) (first
        | (refine step_append_r (act := ⟨_, _⟩) (w := V3.drew.alloc (.cells #[.int .u32 (xl : Nat), .int .u32 (xr : Nat)] 65)) (t := 54) (e := 65) (z := .agg #[.int .u32 0, .int .u32 0]) (m := 2) (bz := 8) (cells := BC) (xs := out) (ys := [(xl, xr)]) (cap := d) (a := p) (b := some ⟨V3.drew.heap.size, 0, none⟩) (dap := 1) (n := 1) rfl elemBk encB (.tmp 27) (.tmp 47) rfl V2.heap.size ?_ O4.out NS.out ?_ ?_ ?_ HL1.out HL2.out hvb.out ?_; rfl; (intro e; cases e); rfl; rfl; intro a5 c5 V5 o5 b5 g5; have O5 := Lib.hid o5; have B5 := Lib.hid b5; have KS : Hid (V5.cell? ⟨g, 3, none⟩ = some (.int .u32 (nx : Nat)) ∧ V5.cell? ⟨wr.heap.size, 0, none⟩ = some (.int .i64 (x.1 : Nat)) ∧ V5.cell? ⟨wr.heap.size, 1, none⟩ = some (.int .i64 (x.2.1 : Nat))) := Lib.hid (by
            have k1 := (BAL.out.block _ (blk_lt GR.out)).trans GR.out
            have k2 := (BAL.out.block _ (blk_lt X3.out)).trans X3.out
            have k3 := (g5.block _ (blk_lt k1) (fun e => by have := (OB.out g e.symm); have := Q2.out.size; omega)).trans k1
            have k4 := (g5.block _ (blk_lt k2) (fun e => by have := (OB.out wr.heap.size e.symm).2; omega)).trans k2
            exact ⟨blk_cell k3 3, blk_cell k4 0, blk_cell k4 1⟩); clear o5 b5 g5))
      have Q5 : Hid (Below V2.heap.size V2 V5) := Lib.hid ((QD.out.trans (BAL.out.mono hVW.out)).trans B5.out)
      go_wp2_with fail
      go_roundw
      case rel => exact ⟨i + 1, a5, c5, by omega, by go_num, by rw [HMP.out, HBK.out, List.length_append]; rfl, by rw [HMP.out, HBK.out]; exact O5.out, Q5.out⟩
      case measure => simp [intOf]; omega
/-- Blocks by one word: the four latest. -/
theorem blocks_ok (B g G pc : Nat) (pa : Option Addr) (s : St) (w : World) (K : Ok s) (R : RvAt B g G pa pc s w) :
    ∃ sl, sl.Perm s.parts ∧ rising sl ∧ Calls Try.prog 24 #[.pointer (some ⟨g, 0, none⟩)] w fun e w' => ∃ a c, e = .returned (.slice a (bks s sl).length c) ∧ OwnR 65 2 BC w.heap.size a (bks s sl) c w' ∧ Below w.heap.size w w' := by
  have hb : ∀ p ∈ s.parts, p.1 ≤ 1048576 ∧ p.2.1 ≤ 1048576 := fun p hp => by have h := K.wf.2 p hp; have hw : win s = s.sz - s.ready := rfl; have := K.sz1; omega
  have hpl := K.pl
  obtain ⟨sl, hp, hr, hs⟩ := sort_all w.heap.size s.parts (by omega)
  exact ⟨sl, hp, hr, blocks_of g G s.sz s.start s.ready s.next pc s.count pa s.parts w R.blk (R.own.sts encP) R.own.nilcap (by omega) hb sl hp (fun a c W O h => hs a c W O h)⟩
end Go.Proofs.Ytknebjfdggimcaa
