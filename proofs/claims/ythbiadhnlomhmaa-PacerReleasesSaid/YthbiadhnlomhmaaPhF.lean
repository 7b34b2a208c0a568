/- A heap of packets that wait: heap.Push of the greatest, heap.Pop. -/
import Derived.Test.YthbiadhnlomhmaaPhE
namespace Go.Proofs.Ythbiadhnlomhmaa
open Go.RowKit Go.Proofs.Ythbiadhnlomhmaa.Ph

theorem at0_take {xs : List Nat} {n k : Nat} (h : k < n) : at0 (xs.take n) k = at0 xs k := by
  unfold at0
  simp only [List.getD_eq_getElem?_getD]
  rw [List.getElem?_take_of_lt h]
theorem take_last {xs : List Nat} {n : Nat} (h : xs.length = n + 1) : xs.take n ++ [at0 xs n] = xs := by
  have h1 : xs.drop n = [at0 xs n] := by
    rw [List.drop_eq_getElem_cons (by omega), List.drop_eq_nil_of_le (by omega)]
    unfold at0
    rw [List.getD_eq_getElem?_getD, List.getElem?_eq_getElem (by omega)]
    rfl
  rw [← h1, List.take_append_drop]

set_option maxRecDepth 100000 in
set_option maxHeartbeats 1000000 in
theorem hpush_ok (D : Nat → Int) (hm : ∀ i j, i ≤ j → D i ≤ D j) (B p o : Nat) (cs : Array Value) (t : TypeId) (a : Option Addr) (xs : List Nat) (cap : Nat) (w : World) (hb : w.heap[p]? = some (.cells cs t (0, 0))) (hcs : cs[o]? = some (.slice a xs.length cap)) (hp : p < B) (hB : B ≤ w.heap.size) (h : OwnR 51 3 (PKC D) B a xs cap w) (v : Nat) (hl : xs.length < 4096) (hv : ∀ x ∈ xs, x ≤ v) (hh : Heap xs.length xs) :
    Calls Try.prog 12 #[hP p o, .iface 51 (.agg #[.int .i64 (v : Nat), .int .i64 (D v), .int .i64 (v : Nat)])] w fun e w' => e = .returned (.tuple #[]) ∧ (∃ a' cap', w'.heap[p]? = some (.cells (cs.setIfInBounds o (.slice a' (xs ++ [v]).length cap')) t (0, 0)) ∧ OwnR 51 3 (PKC D) B a' (xs ++ [v]) cap' w' ∧ (∀ k, a' = some ⟨k, 0, none⟩ → a = some ⟨k, 0, none⟩ ∨ w.heap.size ≤ k) ∧ Turns (fun b => b = p ∨ a = some ⟨b, 0, none⟩) w w') ∧ Heap (xs ++ [v]).length (xs ++ [v]) := by
  have HM := fun K => m_push K w p o
  have HW := Lib.hid (wpush_ok D B p o cs t a xs cap w hb hcs hp hB h v (by omega))
  have ho : o < cs.size := (Array.getElem?_eq_some_iff.1 hcs).1
  have HN : Hid (Heap (xs ++ [v]).length (xs ++ [v])) := Lib.hid (by rw [List.length_append]; exact hh.push rfl hv)
  have hlen : (xs ++ [v]).length = xs.length + 1 := by simp
  have W1 : IntKind.i64.wrap (((xs.length + 1 : Nat) : Int) - 1) = (xs.length : Int) := by rw [IntWalk.i64_in _ ⟨by omega, by omega⟩]; omega
  have W2 : IntKind.i64.wrap ((xs.length : Int) + 1 - 1) = (xs.length : Int) := by rw [IntWalk.i64_in _ ⟨by omega, by omega⟩]; omega
  have HLL := Lib.hid hl
  clear hb hcs h hv hh hB
  go_enter Try.func12, Try.ntmps12
  go_upto_region 1 with (first
    | (go_at_call 36; refine HW.out.mono ?_; rintro e V1 ⟨rfl, a', cap', hb1, O1, A1, T1⟩; have HB1 := Lib.hid hb1; have OO := Lib.hid O1; have AA := Lib.hid A1; have TT := Lib.hid T1; clear hb1 O1 A1 T1)
    | fail)
  have hc1 : V1.cell? ⟨p, o, none⟩ = some (.slice a' (xs.length + 1) cap') := by
    rw [blk_cell HB1.out o, Array.getElem?_setIfInBounds_self_of_lt ho, hlen]
  have HM1 := fun K => m_len K V1 p o _ hc1
  have hup := up_stay D hm p o a' (xs ++ [v]) cap' xs.length V1 (by rw [hlen]; exact hc1) (OO.out.sts (encP D)) hlen (by omega) (fun h0 => HN.out xs.length h0 (by rw [hlen]; omega))
  have HU := Lib.hid hup
  clear hup hc1 HM
  go_wp2_with (first
    | (go_at_call 32; refine (wlen_any _ _ _ _).mono ?_; rintro e w' ⟨rfl, rfl⟩)
    | (go_at_call 14; refine HU.out.mono ?_; rintro e V2 ⟨rfl, b⟩; have HB2 := Lib.hid ((b.block p (blk_lt HB1.out)).trans HB1.out); have O2 := Lib.hid (OO.out.below b); have T2 := Lib.hid (TT.out.andBelow b); clear b)
    | fail)
  go_end0
  exact ⟨rfl, ⟨a', cap', HB2.out, O2.out, AA.out, T2.out⟩, HN.out⟩

set_option maxRecDepth 100000 in
set_option maxHeartbeats 1000000 in
theorem hpop_ok (D : Nat → Int) (hm : ∀ i j, i ≤ j → D i ≤ D j) (B p o g : Nat) (cs : Array Value) (t : TypeId) (xs : List Nat) (cap n : Nat) (w : World) (hb : w.heap[p]? = some (.cells cs t (0, 0))) (hcs : cs[o]? = some (.slice (some ⟨g, 0, none⟩) xs.length cap)) (hp : p < B) (h : OwnR 51 3 (PKC D) B (some ⟨g, 0, none⟩) xs cap w) (hn : xs.length = n + 1) (hl : xs.length ≤ 4096) (hh : Heap (n + 1) xs) :
    Calls Try.prog 13 #[hP p o] w fun e w' => e = .returned (.iface 51 (.agg #[.int .i64 (at0 xs 0 : Nat), .int .i64 (D (at0 xs 0)), .int .i64 (at0 xs 0 : Nat)])) ∧ (∃ zs, w'.heap[p]? = some (.cells (cs.setIfInBounds o (.slice (some ⟨g, 0, none⟩) n cap)) t (0, 0)) ∧ OwnR 51 3 (PKC D) B (some ⟨g, 0, none⟩) zs cap w' ∧ zs.length = n ∧ Heap n zs ∧ (zs ++ [at0 xs 0]).Perm xs) ∧ Turns (fun b => b = p ∨ b = g) w w' := by
  have hpg : p ≠ g := by have := (h.ownB g rfl).1; omega
  have hc0 : w.cell? ⟨p, o, none⟩ = some (.slice (some ⟨g, 0, none⟩) xs.length cap) := (blk_cell hb o).trans hcs
  have HM1 := fun K => m_len K w p o _ hc0
  have HM2 := fun K => m_swap K w p o _ hc0
  have W1 : IntKind.i64.wrap ((xs.length : Int) - 1) = (n : Int) := by rw [IntWalk.i64_in _ ⟨by omega, by omega⟩]; omega
  have hsw := swap_any D B g xs cap 0 n w h (by omega) (by omega)
  rw [show (((0 : Nat) : Int)) = 0 from rfl] at hsw
  have HS := Lib.hid hsw
  have h0l : 0 < xs.length := by omega
  have hnl : n < xs.length := by omega
  have HX : Hid (HeapX n 0 (sw xs 0 n)) := Lib.hid (hh.top (Nat.le_succ n) (fun k h0 hk => by rw [sw_at h0l hnl, if_neg (by omega), if_neg (by omega)]))
  have HLast : Hid (at0 (sw xs 0 n) n = at0 xs 0) := Lib.hid (by rw [sw_at h0l hnl, if_pos rfl])
  have HPM := Lib.hid (sw_perm h0l hnl)
  have HHB := Lib.hid hb
  have HCS := Lib.hid hcs
  have HNN := Lib.hid hn
  clear hb hcs h hh hc0 hn hsw h0l hnl
  go_enter Try.func13, Try.ntmps13
  go_upto_region 3 with (first
    | (go_at_call 32; refine (wlen_any _ _ _ _).mono ?_; rintro e w' ⟨rfl, rfl⟩)
    | (go_at_call 34; refine HS.out.mono ?_; rintro e V1 ⟨rfl, o1, g1⟩; have O1 := Lib.hid o1; have G1 := Lib.hid g1; clear o1 g1)
    | fail)
  clear HM1 HM2 HS
  have HB1 := Lib.hid ((G1.out.block p (blk_lt HHB.out) (fun e => hpg (Option.some.inj e))).trans HHB.out)
  have HD := Lib.hid (down_ok D hm B p o g cs t (sw xs 0 n) cap n V1 HB1.out (by rw [sw_len]; exact HCS.out) hpg O1.out (by rw [sw_len, HNN.out]; omega) (by rw [sw_len]; exact hl) HX.out)
  go_upto_region 4 with (first
    | (go_at_call 15; refine HD.out.mono ?_; rintro e V2 ⟨⟨b0, rfl⟩, ⟨ys, o2, h2, p2, s2⟩, g2⟩; have O2 := Lib.hid o2; have H2 := Lib.hid h2; have P2 := Lib.hid (p2.trans HPM.out); have S2 := Lib.hid (s2 n (Nat.le_refl _)); have G2 := Lib.hid (gr_trans G1.out g2); clear o2 h2 p2 s2 g2)
    | fail)
  clear HD O1
  have HB2 := Lib.hid ((G2.out.block p (blk_lt HHB.out) (fun e => hpg (Option.some.inj e))).trans HHB.out)
  have hyl : ys.length = n + 1 := by rw [P2.out.length_eq]; exact HNN.out
  have HM3 := fun K => m_pop K V2 p o
  have HPO := Lib.hid (wpop_ok D B p o g cs t ys cap n V2 HB2.out (by rw [hyl, ← HNN.out]; exact HCS.out) hp O2.out hyl (by have := HNN.out; omega))
  rw [S2.out, HLast.out] at HPO
  have HYS := Lib.hid (take_last hyl)
  rw [S2.out, HLast.out] at HYS
  have HYL := Lib.hid hyl
  clear hyl
  go_wp2_with (first
    | (go_at_call 35; refine HPO.out.mono ?_; rintro e V3 ⟨rfl, hb3, o3, t3⟩; have HB3 := Lib.hid hb3; have O3 := Lib.hid o3; have T3 := Lib.hid t3; clear hb3 o3 t3)
    | fail)
  go_ret
  refine ⟨rfl, ⟨ys.take n, HB3.out, O3.out, by rw [List.length_take]; have := HYL.out; omega, fun k h0 hk => by rw [at0_take hk, at0_take (by omega)]; exact H2.out k h0 hk, by rw [HYS.out]; exact P2.out⟩, (Turns.of_grown (fun k e => .inr (Option.some.inj e).symm) G2.out).trans (T3.out.mono fun k e => .inl e)⟩
end Go.Proofs.Ythbiadhnlomhmaa
