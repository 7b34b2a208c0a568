/- Bbr: the document's filter. -/
import Derived.Test.YtokoogohdfepiaaBbK
import Derived.Test.YtokoogohdfepiaaBbL
namespace Go.Proofs.Ytokoogohdfepiaa
open Go.RowKit

theorem filter_snoc (R r : Int) (l : List Pair23) (i : Nat) (p : Pair23) (hp : l[i]? = some p) : (l.take (i + 1)).filter (rk R r) = if rk R r p then (l.take i).filter (rk R r) ++ [p] else (l.take i).filter (rk R r) := by
  rw [List.take_add_one, hp, List.filter_append]
  cases h : rk R r p <;> simp [h]
theorem kept_snoc (R r : Int) (l : List Pair23) (i : Nat) (p : Pair23) (hp : l[i]? = some p) : (l.take (i + 1)).foldl (rkf R r) r = rkf R r ((l.take i).foldl (rkf R r) r) p := by
  rw [List.take_add_one, hp, List.foldl_append]; rfl

set_option maxRecDepth 100000 in
set_option maxHeartbeats 4000000 in
theorem rfilter_any (R r : Int) (a : Option Addr) (l : List Pair23) (cap : Nat) (w : World) (h : Sts 2 PC Tr w a l) (hv : FV l) (hR0 : 0 ≤ R) (hR1 : R ≤ 1099511627776) :
    Calls Try.prog 26 #[.slice a l.length cap, .int .i64 R, .int .i64 r] w fun e w' => (∃ a' c', e = .returned (.slice a' (rfilt R r l).length c') ∧ OwnR 58 2 PC w.heap.size a' (rfilt R r l) c' w') ∧ Below w.heap.size w w' := by
  have HL := Lib.hid h
  have HV := Lib.hid hv
  have hl := hv.1
  have bal : ∀ (W : World) (o : Obj), Below W.heap.size W (W.alloc o) := fun W o => (Below.refl W.heap.size W).alloc (Nat.le_refl _) o
  clear h hv
  go_enter Try.func26, Try.ntmps26
  go_wp2_with fail
  go_loopw [7, 8] (fun vo vi wr => ∃ (i : Nat) (a' : Option Addr) (c' : Nat) (L : List Pair23), i ≤ l.length ∧ vi = .int .i64 i ∧ Hid ((l.take i).filter (rk R r) = L) ∧ vo = .slice a' L.length c' ∧ OwnR 58 2 PC w.heap.size a' L c' wr ∧ Below w.heap.size w wr) (fun _ vi _ => l.length - (intOf vi).toNat)
  case atStart => exact ⟨0, none, 0, [], by omega, rfl, Lib.hid rfl, rfl, ownR_nil _ _ _ _ _, Below.refl _ _⟩
  case round =>
    obtain ⟨i, a', c', L, hi, rfl, HLL, rfl, hO, hq⟩ := hrel
    have OR := Lib.hid hO
    have QR := Lib.hid hq
    have hLn : L.length ≤ 10 := by rw [← HLL.out]; exact Nat.le_trans (List.length_filter_le _ _) (by rw [List.length_take]; omega)
    clear hO hq
    by_cases hlt : i < l.length
    case neg =>
      obtain rfl : i = l.length := by omega
      have hL := HLL.out
      rw [List.take_length] at hL
      have HF : Hid (∀ k, rkept R r l = k → rfilt R r l = L ++ [⟨R, k⟩]) := Lib.hid (fun k hk => by unfold rfilt; rw [hL, hk])
      clear HLL hL
      go_wp2_with fail
      go_loopw [9, 10] (fun vk vi wx => ∃ (i : Nat) (k : Int), i ≤ l.length ∧ vi = .int .i64 i ∧ vk = .int .i64 k ∧ Hid ((l.take i).foldl (rkf R r) r = k) ∧ wr = wx) (fun _ vi _ => l.length - (intOf vi).toNat)
      case atStart => exact ⟨0, r, by omega, rfl, rfl, Lib.hid rfl, rfl⟩
      case round =>
        obtain ⟨i, k, hi, rfl, rfl, HK, rfl⟩ := hrel
        by_cases hlt : i < l.length
        case neg =>
          obtain rfl : i = l.length := by omega
          have hK := HK.out
          rw [List.take_length] at hK
          have HE := Lib.hid (HF.out k hK)
          have ba := bal wr (.cells #[.int .i64 R, .int .i64 k] 58)
          have HLN := Lib.hid hLn
          clear hK HK HF hLn
          go_wp2_with (first
            | (refine wpList_append_rA (t := 22) (e := 58) (z := .agg #[.int .i64 0, .int .i64 0]) (m := 2) (bz := 16) (cells := PC) (xs := L) (ys := [⟨R, k⟩]) (cap := c') (a := a') (ad := ⟨wr.heap.size, 0, none⟩) (dap := 1) (n := 1) rfl elemR encP (.tmp 78) (.tmp 82) rfl w.heap.size rfl ?_ ?_ ?_ ?_ ?_ ?_ ?_ ?_; exact OR.out.below ba; exact sts_new encP wr [⟨R, k⟩] 58 (0, 0); rfl; rfl; (have := HLN.out; simp only [List.length_singleton]; omega); (have := HLN.out; unfold maxLen; simp only [List.length_singleton]; omega); exact Nat.le_trans QR.out.size ba.size; intro a5 c5 W5 O5 b5 g5 at5; have OF := Lib.hid O5; have QF := Lib.hid ((QR.out.trans (ba.mono QR.out.size)).trans b5); clear O5 b5 g5 at5)
            | fail)
          go_ret
          rw [HE.out]
          exact ⟨⟨_, _, by first | rfl | simp, OF.out⟩, QF.out⟩
        case pos =>
          have i1 : (i : Int) < (l.length : Int) := by omega
          obtain ⟨p, hp⟩ : ∃ p, l[i]? = some p := ⟨_, List.getElem?_eq_getElem hlt⟩
          have HPI := Lib.hid hp
          obtain ⟨g, o, rfl, _, _⟩ := HL.out.isSomeT (by omega)
          obtain ⟨hg, p0, p1⟩ := pair_at HL.out hp
          have m0 := (QR.out.cell (p := ⟨g, o + i * 2, none⟩) hg).trans p0
          have m1 := (QR.out.cell (p := ⟨g, o + i * 2 + 1, none⟩) hg).trans p1
          have HKS := Lib.hid (kept_snoc R r l i p hp)
          have HK2 : Hid (∀ k2, rkf R r k p = k2 → (l.take (i + 1)).foldl (rkf R r) r = k2) := Lib.hid (fun k2 hk2 => by rw [HKS.out, HK.out]; exact hk2)
          clear hp p0 p1 HKS
          obtain ⟨k2, HKE, hcs⟩ : ∃ k2, Hid ((l.take (i + 1)).foldl (rkf R r) r = k2) ∧ (((p.round == R) = true ∧ r < p.rate ∧ k2 = p.rate) ∨ ((p.round == R) = true ∧ ¬ r < p.rate ∧ k2 = k) ∨ ((p.round == R) = false ∧ k2 = k)) := by
            by_cases h1 : p.round = R
            · by_cases h2 : r < p.rate
              · exact ⟨p.rate, Lib.hid (HK2.out p.rate (if_pos ⟨h1, h2⟩)), Or.inl ⟨by rw [beq_iff_eq]; exact h1, h2, rfl⟩⟩
              · exact ⟨k, Lib.hid (HK2.out k (if_neg (fun e => h2 e.2))), Or.inr (Or.inl ⟨by rw [beq_iff_eq]; exact h1, h2, rfl⟩)⟩
            · exact ⟨k, Lib.hid (HK2.out k (if_neg (fun e => h1 e.1))), Or.inr (Or.inr ⟨by rw [beq_eq_false_iff_ne]; exact h1, rfl⟩)⟩
          clear HK2
          rcases hcs with ⟨hb1, h2, rfl⟩ | ⟨hb1, h2, rfl⟩ | ⟨hb1, rfl⟩
          all_goals
            go_wp2
            go_roundw
            case rel => exact ⟨i + 1, _, by omega, by go_num, rfl, HKE, by first | rfl | trivial⟩
            case measure => simp [intOf]; omega
    case pos =>
      have i1 : (i : Int) < (l.length : Int) := by omega
      obtain ⟨p, hp⟩ : ∃ p, l[i]? = some p := ⟨_, List.getElem?_eq_getElem hlt⟩
      have HPI := Lib.hid hp
      obtain ⟨g, o, rfl, _, _⟩ := HL.out.isSomeT (by omega)
      obtain ⟨hg, p0, p1⟩ := pair_at HL.out hp
      have m0 := (QR.out.cell (p := ⟨g, o + i * 2, none⟩) hg).trans p0
      have m1 := (QR.out.cell (p := ⟨g, o + i * 2 + 1, none⟩) hg).trans p1
      obtain ⟨⟨b0, b1⟩, _⟩ := (HV.out.2 i hlt p hp).1
      have HFS := Lib.hid (filter_snoc R r l i p hp)
      rw [HLL.out] at HFS
      clear hp p0 p1
      by_cases h1 : r < p.rate ∧ R - p.round < 10 ∧ p.round ≠ R
      case pos =>
        obtain ⟨h1, h2, h3⟩ := h1
        have hrk : rk R r p = true := by simp [rk, h1, h2, h3]
        have hb3 : (p.round != R) = true := by rw [bne_iff_ne]; exact h3
        have HF2 : Hid ((l.take (i + 1)).filter (rk R r) = L ++ [p]) := Lib.hid (by rw [HFS.out, if_pos hrk])
        have ba := bal wr (.cells #[.int .i64 p.round, .int .i64 p.rate] 58)
        have HLN := Lib.hid hLn
        clear hrk h3 HFS hLn
        go_wp2_with (first
          | (refine wpList_append_rA (t := 22) (e := 58) (z := .agg #[.int .i64 0, .int .i64 0]) (m := 2) (bz := 16) (cells := PC) (xs := L) (ys := [p]) (cap := c') (a := a') (ad := ⟨wr.heap.size, 0, none⟩) (dap := 1) (n := 1) rfl elemR encP (.tmp 43) (.tmp 48) rfl w.heap.size rfl ?_ ?_ ?_ ?_ ?_ ?_ ?_ ?_; exact OR.out.below ba; exact sts_new encP wr [p] 58 (0, 0); rfl; rfl; (have := HLN.out; simp only [List.length_singleton]; omega); (have := HLN.out; unfold maxLen; simp only [List.length_singleton]; omega); exact Nat.le_trans QR.out.size ba.size; intro a5 c5 W5 O5 b5 g5 at5; have OF := Lib.hid O5; have QF := Lib.hid ((QR.out.trans (ba.mono QR.out.size)).trans b5); clear O5 b5 g5 at5)
          | fail)
        go_roundw
        case rel => exact ⟨i + 1, a5, c5, L ++ [p], by omega, by go_num, HF2, by first | rfl | simp, OF.out, QF.out⟩
        case measure => simp [intOf]; omega
      case neg =>
        have hrk : ¬ rk R r p = true := by simp only [rk, Bool.and_eq_true, decide_eq_true_eq]; omega
        have HF2 : Hid ((l.take (i + 1)).filter (rk R r) = L) := Lib.hid (by rw [HFS.out, if_neg hrk])
        clear hrk HFS
        have hcs : (¬ r < p.rate) ∨ (r < p.rate ∧ ¬ R - p.round < 10) ∨ (r < p.rate ∧ R - p.round < 10 ∧ (p.round != R) = false) := by
          by_cases h2 : r < p.rate
          · by_cases h3 : R - p.round < 10
            · refine Or.inr (Or.inr ⟨h2, h3, ?_⟩)
              have h4 : p.round = R := by omega
              rw [h4]; simp
            · exact Or.inr (Or.inl ⟨h2, h3⟩)
          · exact Or.inl h2
        rcases hcs with h2 | ⟨h2, h3⟩ | ⟨h2, h3, hb3⟩
        all_goals
          clear h1
          go_wp2
          go_roundw
          case rel => exact ⟨i + 1, a', c', L, by omega, by go_num, HF2, rfl, OR.out, QR.out⟩
          case measure => simp [intOf]; omega
end Go.Proofs.Ytokoogohdfepiaa
