/- Scoreboard: slices.Grow of nothing, slices.Concat. -/
import Derived.Test.YtcachmjcninkbaaScTo
import Derived.Shelf.Spec.SlicesGrow
import Derived.Shelf.Lay
import Derived.Ground.Names8Prog
namespace Go.Proofs
open Go.Shelf Go.RowKit Go.Lib Go.Sort
shelf_lay_g Lays8.n4 Nm8 4 at Try 60 as growSp
end Go.Proofs
namespace Go.Proofs.Ytcachmjcninkbaa
open Go.Shelf Go.RowKit Go.Sort

theorem zeroCells_len (z : Array Value) (n : Nat) : (Builtin.zeroCells z n).size = n * z.size := by simp [Builtin.zeroCells]
theorem grow_sp (n : Nat) (w : World) (hn : n ≤ 4398046511104) :
    Calls Try.prog 60 #[.slice none 0 0, .int .i64 (n : Nat)] w fun e w' => (∃ a c, e = .returned (.slice a 0 c) ∧ OwnR 76 2 SC w.heap.size a [] c w') ∧ Below w.heap.size w w' := by
  by_cases h0 : n = 0
  · subst h0
    have hcon := Any8.slices_Grow_room growSp none 0 0 0 w (by omega) (by omega) (by omega) (by omega)
    change Calls Try.prog 60 _ _ _ at hcon
    refine hcon.mono ?_
    rintro e w' ⟨rfl, rfl⟩
    exact ⟨⟨_, _, rfl, ownR_nil _ _ _ _ _⟩, Below.refl _ _⟩
  · obtain ⟨i0, hi, hz0, hz1, hz2⟩ := info_parts elemS.inf
    have hcon := Any8.slices_Grow_grow growSp i0 (.agg #[.int .i64 0, .int .i64 0]) hi hz0 (by rw [hz1]; decide) none 0 0 n [] w (by omega) (by omega) (by rw [hz2]; omega) (by omega) (by simp) (fun _ => rfl) (fun a h => by cases h)
    change Calls Try.prog 60 _ _ _ at hcon
    refine hcon.mono ?_
    rintro e w' ⟨rfl, rfl⟩
    have hG1 : 0 + n ≤ grownCap w (0 + n) 0 76 := grownCap_ge w _ _ _
    have hG2 : grownCap w (0 + n) 0 76 ≤ maxLen := grownCap_le_maxLen w (0 + n) 0 76 (by unfold maxLen; omega)
    refine ⟨⟨_, _, rfl, .inr ⟨w.heap.size, rfl, Nat.le_refl _, rfl, .inr ⟨w.heap.size, _, _, rfl, Nat.le_refl _, heap_alloc_new _ _, Nat.zero_le _, hG2, ?_, rfl⟩⟩⟩, (Below.refl _ _).drew.alloc (Nat.le_refl _) _⟩
    rw [Nat.zero_add] at hG1
    simp only [Array.size_append, zeroCells_len, Nat.zero_add]
    show _ = grownCap w n 0 76 * 2
    change 0 + (n - 0) * 2 + (grownCap w n 0 76 - n) * 2 = _
    omega

def LC (x : Option Addr × List (Nat × Nat) × Nat) : List Value := [.slice x.1 x.2.1.length x.2.2]
theorem encL : Enc 1 LC := ⟨fun _ => rfl, fun x u hu => by simp only [LC, List.mem_singleton] at hu; subst hu; rfl, by decide⟩
def cat (L : List (Option Addr × List (Nat × Nat) × Nat)) : List (Nat × Nat) := L.flatMap fun x => x.2.1
theorem cat_snoc (L : List (Option Addr × List (Nat × Nat) × Nat)) (x : Option Addr × List (Nat × Nat) × Nat) : cat (L ++ [x]) = cat L ++ x.2.1 := by unfold cat; rw [List.flatMap_append]; simp
theorem cat_take (L : List (Option Addr × List (Nat × Nat) × Nat)) (i : Nat) : (cat (L.take i)).length ≤ (cat L).length := by
  conv => rhs; rw [← List.take_append_drop i L]
  unfold cat
  rw [List.flatMap_append, List.length_append]
  omega
set_option maxRecDepth 100000 in
set_option maxHeartbeats 2000000 in
theorem concat_sp (a : Option Addr) (L : List (Option Addr × List (Nat × Nat) × Nat)) (cap : Nat) (w : World) (h : Sts 1 LC Tr w a L) (hS : ∀ x ∈ L, Sts 2 SC Tr w x.1 x.2.1 ∧ (x.1 = none → x.2.2 = 0)) (hl : L.length ≤ 1000000) (ht : (cat L).length ≤ 4398046511104) :
    Calls Try.prog 53 #[.slice a L.length cap] w fun e w' => (∃ a' c', e = .returned (.slice a' (cat L).length c') ∧ OwnR 76 2 SC w.heap.size a' (cat L) c' w') ∧ Below w.heap.size w w' := by
  have HL := Lib.hid h
  have HS := Lib.hid hS
  have HT := Lib.hid ht
  clear h hS ht
  go_enter Try.func53, Try.ntmps53
  go_wp2_with fail
  go_loopw [3, 11] (fun sv iv wr => ∃ (i n : Nat), i ≤ L.length ∧ iv = .int .i64 i ∧ sv = .int .i64 n ∧ Hid ((cat (L.take i)).length = n) ∧ Hid (wr = w)) (fun _ iv _ => L.length - (intOf iv).toNat)
  case atStart => exact ⟨0, 0, by omega, rfl, rfl, Lib.hid rfl, Lib.hid rfl⟩
  case round =>
    obtain ⟨i, n, hi, rfl, rfl, HN, hw⟩ := hrel
    have hw := hw.out.symm
    subst hw
    have hn : n ≤ 4398046511104 := by rw [← HN.out]; exact Nat.le_trans (cat_take L i) HT.out
    by_cases hlt : i < L.length
    case pos =>
      have i1 : (i : Int) < (L.length : Int) := by omega
      obtain ⟨x, hx⟩ : ∃ x, L[i]? = some x := ⟨_, List.getElem?_eq_getElem hlt⟩
      obtain ⟨g, o, rfl, hg, hc⟩ := HL.out.isSomeT (by omega)
      have m0 := hc i x hx 0 _ rfl
      rw [Nat.mul_one, Nat.add_zero] at m0
      have hxl : x.2.1.length ≤ 4398046511104 := by
        have h1 := cat_take L (i + 1)
        rw [List.take_add_one, hx] at h1
        have h2 : (cat (L.take i ++ [x])).length ≤ (cat L).length := h1
        rw [cat_snoc, List.length_append] at h2
        have := HT.out
        omega
      have HN2 : Hid ((cat (L.take (i + 1))).length = n + x.2.1.length) := Lib.hid (by rw [List.take_add_one, hx]; show (cat (L.take i ++ [x])).length = _; rw [cat_snoc, List.length_append, HN.out])
      have hn2 : n + x.2.1.length ≤ 4398046511104 := by rw [← HN2.out]; exact Nat.le_trans (cat_take L (i + 1)) HT.out
      have k1 : ¬ ((n : Int) + (x.2.1.length : Int) < 0) := by omega
      clear hx hc HN
      go_wp2_with fail
      go_roundw
      case rel => exact ⟨i + 1, n + x.2.1.length, by omega, by go_num, by go_num, HN2, Lib.hid (by trivial)⟩
      case measure => simp [intOf]; omega
    case neg =>
      obtain rfl : i = L.length := by omega
      have HN2 := HN.out
      rw [List.take_length] at HN2
      have HN3 := Lib.hid HN2
      clear HN2 HN
      go_wp2_with fail
      refine (grow_sp n w hn).mono ?_
      rintro e V1 ⟨⟨a1, c1, rfl, hO⟩, hB⟩
      have O1 := Lib.hid hO
      have Q1 := Lib.hid hB
      clear hO hB
      go_wp2_with fail
      go_loopw [6, 27] (fun sv iv wr => ∃ (i : Nat) (out : List (Nat × Nat)) (p : Option Addr) (k : Nat), i ≤ L.length ∧ iv = .int .i64 i ∧ sv = .slice p out.length k ∧ Hid (cat (L.take i) = out) ∧ OwnR 76 2 SC w.heap.size p out k wr ∧ Below w.heap.size w wr) (fun _ iv _ => L.length - (intOf iv).toNat)
      case atStart => exact ⟨0, [], a1, c1, by omega, rfl, rfl, Lib.hid rfl, O1.out, Q1.out⟩
      case round =>
        obtain ⟨i, out, p, k, hi, rfl, rfl, HOUT, hO, hq⟩ := hrel
        have OR := Lib.hid hO
        have QR := Lib.hid hq
        have hzr := hq.size
        clear hO hq
        by_cases hlt : i < L.length
        case neg =>
          obtain rfl : i = L.length := by omega
          have HO2 := HOUT.out
          rw [List.take_length] at HO2
          have HO3 := Lib.hid HO2
          clear HO2 HOUT
          go_wp2
          go_ret
          exact ⟨⟨p, k, by rw [HO3.out]; rfl, by rw [HO3.out]; exact OR.out⟩, QR.out⟩
        case pos =>
          have i1 : (i : Int) < (L.length : Int) := by omega
          obtain ⟨x, hx⟩ : ∃ x, L[i]? = some x := ⟨_, List.getElem?_eq_getElem hlt⟩
          obtain ⟨g, o, rfl, hg, hc⟩ := HL.out.isSomeT (by omega)
          have m1 := hc i x hx 0 _ rfl
          rw [Nat.mul_one, Nat.add_zero] at m1
          have m0 := (QR.out.cell (p := ⟨g, o + i, none⟩) hg).trans m1
          obtain ⟨y1, y2⟩ := HS.out x (List.mem_of_getElem? hx)
          have Y1 := Lib.hid (Sts.belowT y1 QR.out)
          have Y2 := Lib.hid y2
          have HN2 : Hid (cat (L.take (i + 1)) = out ++ x.2.1) := Lib.hid (by rw [List.take_add_one, hx]; show cat (L.take i ++ [x]) = _; rw [cat_snoc, HOUT.out])
          have hol : out.length + x.2.1.length ≤ 4398046511104 := by rw [← List.length_append, ← HN2.out]; exact Nat.le_trans (cat_take L (i + 1)) HT.out
          clear hx hc m1 y1 y2 HOUT
          go_wp2_with (first
            | ((with_reducible show wpList _ _ _ _ _ _); refine wpList_append_r (t := 90) (e := 76) (z := .agg #[.int .i64 0, .int .i64 0]) (m := 2) (bz := 16) (cells := SC) (xs := out) (ys := x.2.1) (cap := k) (dap := x.2.2) (n := x.2.1.length) (a := p) (b := x.1) rfl elemS encS (.tmp 31) (.tmp 32) rfl w.heap.size rfl ?_ ?_ ?_ ?_ ?_ ?_ ?_ ?_ ?_; exact OR.out; exact Y1.out; exact Y2.out; rfl; rfl; omega; (unfold maxLen; omega); exact QR.out.size; intro a5 c5 V5 O5 b5 g5; have O5h := Lib.hid O5; have B5h := Lib.hid b5; clear O5 b5 g5)
            | fail)
          go_roundw
          case rel => exact ⟨i + 1, _, a5, c5, by omega, by go_num, by rw [List.length_append], HN2, O5h.out, QR.out.trans B5h.out⟩
          case measure => simp [intOf]; omega
end Go.Proofs.Ytcachmjcninkbaa
