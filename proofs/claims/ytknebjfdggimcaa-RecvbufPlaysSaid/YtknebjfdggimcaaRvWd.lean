/- Recvbuf: the document's parts, as they lie; at. -/
import Derived.Test.YtknebjfdggimcaaRvW
namespace Go.Proofs.Ytknebjfdggimcaa
open Go.RowKit Go.Proofs.Ytknebjfdggimcaa.Rv

/-- A part of the document's: its offset; where its octets lie, which, the capacity; when one was added last. -/
abbrev DP := Nat × (Option Addr × List Nat × Nat) × Nat
def dpt (p : DP) : DPt := (p.1, p.2.1.2.1, p.2.2)
def DC (p : DP) : List Value := [.int .i64 (p.1 : Nat), .slice p.2.1.1 p.2.1.2.1.length p.2.1.2.2, .int .i64 (p.2.2 : Nat)]
theorem encD : Enc 3 DC := ⟨fun _ => rfl, fun x u hu => by
  simp only [DC, List.mem_cons, List.not_mem_nil, or_false] at hu
  rcases hu with rfl | rfl | rfl <;> rfl, by decide⟩
def DG (w : World) (p : DP) : Prop := Bts w p.2.1.1 p.2.1.2.1
theorem dp_at {w : World} {a : Option Addr} {i : Nat} {xs : List DP} {x : DP} (h : Sts 3 DC DG w a xs) (hi : xs[i]? = some x) :
    ∃ g o, a = some ⟨g, o, none⟩ ∧ g < w.heap.size ∧ w.cell? ⟨g, o + i * 3, none⟩ = some (.int .i64 (x.1 : Nat)) ∧ w.cell? ⟨g, o + i * 3 + 1, none⟩ = some (.slice x.2.1.1 x.2.1.2.1.length x.2.1.2.2) ∧ w.cell? ⟨g, o + i * 3 + 2, none⟩ = some (.int .i64 (x.2.2 : Nat)) ∧ Bts w x.2.1.1 x.2.1.2.1 := by
  obtain ⟨h1, h2 | ⟨b, off, rfl, hlt, hc⟩⟩ := h
  · subst h2; simp at hi
  · exact ⟨b, off, rfl, hlt, by have := hc i x hi 0 _ rfl; simpa using this, hc i x hi 1 _ rfl, hc i x hi 2 _ rfl, h1 x (List.mem_of_getElem? hi)⟩
theorem atF_cons (p : DPt) (ps : List DPt) (k : Nat) : atF (p :: ps) k = if p.1 ≤ k ∧ k < dend p then some (p.2.1.getD (k - p.1) 0) else atF ps k := rfl

set_option maxRecDepth 100000 in
set_option maxHeartbeats 1000000 in
theorem at_ok (a : Option Addr) (ac : Nat) (ps : List DP) (k : Nat) (w : World) (h : Sts 3 DC DG w a ps) (hn : ps.length ≤ 100000) (hk : k ≤ 4294967296) (hb : ∀ p ∈ ps, p.1 + p.2.1.2.1.length ≤ 4294967296) :
    Calls Try.prog 41 #[.slice a ps.length ac, .int .i64 (k : Nat)] w fun e w' => e = .returned (.tuple #[.int .u8 (((atF (ps.map dpt) k).getD 0 : Nat) : Int), .bool (atF (ps.map dpt) k).isSome]) ∧ Below w.heap.size w w' := by
  have HL := Lib.hid h
  have HB := Lib.hid hb
  clear h hb
  go_enter Try.func41, Try.ntmps41
  go_wp2_with fail
  go_loopw [6] (fun iv wr => ∃ i : Nat, i ≤ ps.length ∧ iv = .int .i64 i ∧ atF (ps.map dpt) k = atF ((ps.drop i).map dpt) k ∧ Below w.heap.size w wr) (fun iv _ => ps.length - (intOf iv).toNat)
  case atStart => exact ⟨0, by omega, rfl, by rw [List.drop_zero], Below.refl _ _⟩
  case round =>
    obtain ⟨i, hi, rfl, he, hq⟩ := hrel
    have QR := Lib.hid hq
    have HE := Lib.hid he
    clear hq he
    by_cases hlt : i < ps.length
    case neg =>
      have hit : i = ps.length := by omega
      have e0 : atF (ps.map dpt) k = none := by rw [HE.out, hit, List.drop_length]; rfl
      have k1 : decide ((i : Int) < (ps.length : Int)) = false := decide_eq_false (by omega)
      have E0 := Lib.hid e0
      clear e0 hit
      go_wp2_with fail
      go_ret2
      exact ⟨by rw [E0.out]; rfl, QR.out⟩
    case pos =>
      obtain ⟨x, hx⟩ : ∃ x, ps[i]? = some x := ⟨_, List.getElem?_eq_getElem hlt⟩
      obtain ⟨gp, op, rfl, hg, p0, p1, p2, hX⟩ := dp_at HL.out hx
      have hbx := HB.out x (List.mem_of_getElem? hx)
      have m0 := (QR.out.cell (p := ⟨gp, op + i * 3, none⟩) hg).trans p0
      have m1 := (QR.out.cell (p := ⟨gp, op + i * 3 + 1, none⟩) hg).trans p1
      have k1' : (i : Int) < (ps.length : Int) := by omega
      have k1 : decide ((i : Int) < (ps.length : Int)) = true := decide_eq_true k1'
      have k3 : decide (i < ps.length) = true := decide_eq_true hlt
      have hd : (ps.drop i).map dpt = dpt x :: (ps.drop (i + 1)).map dpt := by
        obtain ⟨h1, h2⟩ := List.getElem?_eq_some_iff.1 hx
        rw [List.drop_eq_getElem_cons h1, h2]; rfl
      have he2 : atF (ps.map dpt) k = if x.1 ≤ k ∧ k < x.1 + x.2.1.2.1.length then some (x.2.1.2.1.getD (k - x.1) 0) else atF ((ps.drop (i + 1)).map dpt) k := by
        rw [HE.out, hd, atF_cons]; rfl
      obtain ⟨en, hen⟩ : ∃ z, x.1 + x.2.1.2.1.length = z := ⟨_, rfl⟩
      have W0 : IntKind.i64.wrap ((x.1 : Int) + (x.2.1.2.1.length : Int)) = (en : Int) := by rw [IntWalk.i64_in _ ⟨by omega, by omega⟩]; omega
      have W : IntKind.i64.wrap ((i : Int) + 1) = ((i + 1 : Nat) : Int) := by rw [IntWalk.i64_in _ ⟨by omega, by omega⟩]; omega
      rw [hen] at he2
      have HE2 := Lib.hid he2
      have HX := Lib.hid hX
      have HEN := Lib.hid hen
      clear p0 p1 p2 he2 hd hX hen hx
      by_cases hc1 : x.1 ≤ k
      case neg =>
        have k2' : ¬ ((x.1 : Int) ≤ (k : Int)) := by omega
        have k2 : decide ((x.1 : Int) ≤ (k : Int)) = false := decide_eq_false k2'
        have k4 : decide (x.1 ≤ k) = false := decide_eq_false hc1
        go_wp2_with fail
        go_quiet (fail)
        have B6 := Lib.hid (below_drewN QR.out nq)
        go_wp2_with fail
        go_roundw
        case rel => exact ⟨i + 1, by omega, by go_num, by rw [HE2.out, if_neg (fun hh => hc1 hh.1)], B6.out⟩
        case measure => simp [intOf]; omega
      case pos =>
      have k2' : (x.1 : Int) ≤ (k : Int) := by omega
      have k2 : decide ((x.1 : Int) ≤ (k : Int)) = true := decide_eq_true k2'
      have k4 : decide (x.1 ≤ k) = true := decide_eq_true hc1
      by_cases hc2 : k < en
      case neg =>
        have k5' : ¬ ((k : Int) < (en : Int)) := by omega
        have k5 : decide ((k : Int) < (en : Int)) = false := decide_eq_false k5'
        have k6 : decide (k < en) = false := decide_eq_false hc2
        go_wp2_with fail
        go_quiet (fail)
        have B6 := Lib.hid (below_drewN QR.out nq)
        go_wp2_with fail
        go_roundw
        case rel => exact ⟨i + 1, by omega, by go_num, by rw [HE2.out, if_neg (fun hh => hc2 hh.2)], B6.out⟩
        case measure => simp [intOf]; omega
      case pos =>
        have k5' : (k : Int) < (en : Int) := by omega
        have k5 : decide ((k : Int) < (en : Int)) = true := decide_eq_true k5'
        have k6 : decide (k < en) = true := decide_eq_true hc2
        obtain ⟨bb, bo, hxa, hbl, hbc⟩ := HX.out.isSome (by have := HEN.out; omega)
        have hjl : k - x.1 < x.2.1.2.1.length := by have := HEN.out; omega
        have p3 := hbc (k - x.1) hjl
        have m3 := (QR.out.cell (p := ⟨bb, bo + (k - x.1), none⟩) hbl).trans p3
        obtain ⟨j, hj⟩ : ∃ z, k - x.1 = z := ⟨_, rfl⟩
        have WJ : IntKind.i64.wrap ((k : Int) - (x.1 : Int)) = (j : Int) := by rw [IntWalk.i64_in _ ⟨by omega, by omega⟩]; omega
        have E0 : Hid (atF (ps.map dpt) k = some (x.2.1.2.1.getD (k - x.1) 0)) := Lib.hid (by rw [HE2.out, if_pos ⟨hc1, hc2⟩])
        rw [hj] at hjl m3 E0
        obtain ⟨v, hv⟩ : ∃ v, x.2.1.2.1.getD j 0 = v := ⟨_, rfl⟩
        rw [hv] at m3 E0
        rw [hxa] at m1
        have hjl' : (j : Int) < (x.2.1.2.1.length : Int) := by omega
        have hjd : decide ((j : Int) < (x.2.1.2.1.length : Int)) = true := decide_eq_true hjl'
        have hjn : ¬ ((j : Int) < 0) := by omega
        clear hbc p3 hj hxa hv
        go_wp2_with fail
        go_quiet (fail)
        have B6 := Lib.hid (below_drewN QR.out nq)
        go_wp2_with fail
        go_quiet (fail)
        have B7 := Lib.hid (below_drewN B6.out nq)
        go_wp2_with fail
        go_ret2
        exact ⟨by rw [E0.out]; rfl, B7.out⟩
end Go.Proofs.Ytknebjfdggimcaa

namespace Go.Proofs.Ytknebjfdggimcaa
open Go.RowKit Go.Proofs.Ytknebjfdggimcaa.Rv

theorem dsts_below {w w' : World} {a : Option Addr} {ps : List DP} (h : Sts 3 DC DG w a ps) (hb : Below w.heap.size w w') : Sts 3 DC DG w' a ps :=
  Sts.below (fun _ hr => Bts.below hr hb) h hb
theorem adds_none {l : List DPt} {off : Nat} {d : List Nat} (h : ¬ Adds l off d) (i : Nat) (hi : i < d.length) : (atF l (off + i)).isSome = true := by
  cases e : atF l (off + i) with
  | none => exact absurd ⟨i, hi, e⟩ h
  | some c => rfl

set_option maxRecDepth 100000 in
set_option maxHeartbeats 1000000 in
theorem merged_no (a : Option Addr) (ac : Nat) (ps : List DP) (off : Nat) (da : Option Addr) (dc : Nat) (d : List Nat) (turn : Nat) (w : World) (h : Sts 3 DC DG w a ps) (hn : ps.length ≤ 100000) (hk : off + d.length ≤ 4294967296) (hb : ∀ p ∈ ps, p.1 + p.2.1.2.1.length ≤ 4294967296) (hA : ¬ Adds (ps.map dpt) off d) :
    Calls Try.prog 34 #[.slice a ps.length ac, .int .i64 (off : Nat), .slice da d.length dc, .int .i64 (turn : Nat)] w fun e w' => e = .returned (.tuple #[.slice a ps.length ac, .bool false]) ∧ Below w.heap.size w w' := by
  have HL := Lib.hid h
  have HB := Lib.hid hb
  have HA := Lib.hid (adds_none hA)
  clear h hb hA
  go_enter Try.func34, Try.ntmps34
  go_wp2_with fail
  go_loopw [10, 11] (fun i10 i11 wr => ∃ i : Nat, i ≤ d.length ∧ i10 = .bool false ∧ i11 = .int .i64 i ∧ Below w.heap.size w wr) (fun _ i11 _ => d.length - (intOf i11).toNat)
  case atStart => exact ⟨0, by omega, rfl, rfl, Below.refl _ _⟩
  case round =>
    obtain ⟨i, hi, rfl, rfl, hq⟩ := hrel
    have QR := Lib.hid hq
    clear hq
    by_cases hlt : i < d.length
    case neg =>
      have k1 : decide ((i : Int) < (d.length : Int)) = false := decide_eq_false (by omega)
      go_wp2_with fail
      go_ret2
      exact ⟨rfl, QR.out⟩
    case pos =>
      have k1' : (i : Int) < (d.length : Int) := by omega
      have k1 : decide ((i : Int) < (d.length : Int)) = true := decide_eq_true k1'
      have W0 : IntKind.i64.wrap ((off : Int) + (i : Int)) = ((off + i : Nat) : Int) := by rw [IntWalk.i64_in _ ⟨by omega, by omega⟩]; omega
      have W : IntKind.i64.wrap ((i : Int) + 1) = ((i + 1 : Nat) : Int) := by rw [IntWalk.i64_in _ ⟨by omega, by omega⟩]; omega
      go_wp2_with (first
        | (go_at_call 41; refine (at_ok a ac ps (off + i) _ (dsts_below HL.out QR.out) hn (by omega) HB.out).mono ?_; rintro e V3 ⟨rfl, hB⟩; rw [HA.out i hlt]; have B6 := Lib.hid (QR.out.trans (hB.mono QR.out.size)); clear hB)
        | fail)
      go_roundw
      case rel => exact ⟨i + 1, by omega, rfl, by go_num, B6.out⟩
      case measure => simp [intOf]; omega
end Go.Proofs.Ytknebjfdggimcaa

namespace Go.Proofs.Ytknebjfdggimcaa
open Go.RowKit Go.Proofs.Ytknebjfdggimcaa.Rv

/-- What the last loop has behind i parts. -/
def outN (lw hh : Nat) (q : DP) (ps : List DP) (i : Nat) : List DP × Bool := outF (·.1) lw hh q (ps.take i) ([], false)
theorem outN_step {lw hh : Nat} {q : DP} {ps : List DP} {i : Nat} {x : DP} (h : ps[i]? = some x) :
    outN lw hh q ps (i + 1) = if lw ≤ x.1 ∧ x.1 < hh then outN lw hh q ps i else if lw < x.1 ∧ (outN lw hh q ps i).2 = false then ((outN lw hh q ps i).1 ++ [q] ++ [x], true) else ((outN lw hh q ps i).1 ++ [x], (outN lw hh q ps i).2) := by
  unfold outN
  rw [List.take_add_one, h, Option.toList_some, outF_app, outF, outF]
theorem outF_map (lw hh : Nat) (q : DP) : ∀ (ps : List DP) (xs : List DP) (b : Bool), outF (·.1) lw hh (dpt q) (ps.map dpt) (xs.map dpt, b) = ((outF (·.1) lw hh q ps (xs, b)).1.map dpt, (outF (·.1) lw hh q ps (xs, b)).2)
  | [], _, _ => rfl
  | p :: ps, xs, b => by
    rw [List.map_cons, outF, outF]
    have e : (dpt p).1 = p.1 := rfl
    rw [e]
    by_cases h1 : lw ≤ p.1 ∧ p.1 < hh
    · rw [if_pos h1, if_pos h1]; exact outF_map lw hh q ps xs b
    · rw [if_neg h1, if_neg h1]
      by_cases h2 : lw < p.1 ∧ b = false
      · rw [if_pos (show lw < p.1 ∧ (xs.map dpt, b).2 = false from h2), if_pos (show lw < p.1 ∧ (xs, b).2 = false from h2)]
        have := outF_map lw hh q ps (xs ++ [q] ++ [p]) true
        simp only [List.map_append, List.map_cons, List.map_nil] at this
        exact this
      · rw [if_neg (show ¬ (lw < p.1 ∧ (xs.map dpt, b).2 = false) from h2), if_neg (show ¬ (lw < p.1 ∧ (xs, b).2 = false) from h2)]
        have := outF_map lw hh q ps (xs ++ [p]) b
        simp only [List.map_append, List.map_cons, List.map_nil] at this
        exact this
/-- The row that merged answers, as it lies. -/
def outD (lw hh : Nat) (q : DP) (ps : List DP) : List DP := if (outN lw hh q ps ps.length).2 then (outN lw hh q ps ps.length).1 else (outN lw hh q ps ps.length).1 ++ [q]
theorem outD_map {off : Nat} {d : List Nat} {turn : Nat} {ps : List DP} {q : DP} (hq : dpt q = newP (ps.map dpt) off d turn) : (outD (lowF (ps.map dpt) off d) (highF (ps.map dpt) off d) q ps).map dpt = mergF (ps.map dpt) off d turn := by
  unfold mergF outL outD outN
  rw [List.take_length, ← hq, show (([] : List DPt), false) = (([] : List DP).map dpt, false) from rfl, outF_map]
  split <;> simp
theorem outN_mem {lw hh : Nat} {q : DP} {ps : List DP} : ∀ i, ∀ x ∈ (outN lw hh q ps i).1, x = q ∨ x ∈ ps := by
  intro i
  induction i with
  | zero => intro x hx; unfold outN at hx; rw [List.take_zero, outF] at hx; exact absurd hx List.not_mem_nil
  | succ i ih =>
    intro x hx
    cases h : ps[i]? with
    | none =>
      have : outN lw hh q ps (i + 1) = outN lw hh q ps i := by unfold outN; rw [List.take_add_one, h]; simp
      rw [this] at hx; exact ih x hx
    | some y =>
      have hy := List.mem_of_getElem? h
      rw [outN_step h] at hx
      split at hx
      · exact ih x hx
      · split at hx
        · rcases List.mem_append.1 hx with h1 | h1
          · rcases List.mem_append.1 h1 with h2 | h2
            · exact ih x h2
            · simp at h2; exact .inl h2
          · simp at h1; subst h1; exact .inr hy
        · rcases List.mem_append.1 hx with h1 | h1
          · exact ih x h1
          · simp at h1; subst h1; exact .inr hy
theorem outD_mem {lw hh : Nat} {q : DP} {ps : List DP} : ∀ x ∈ outD lw hh q ps, x = q ∨ x ∈ ps := by
  intro x hx
  unfold outD at hx
  split at hx
  · exact outN_mem _ x hx
  · rcases List.mem_append.1 hx with h1 | h1
    · exact outN_mem _ x h1
    · simp at h1; exact .inl h1
theorem elemD : Elem 49 84 (.agg #[.int .i64 0, .slice none 0 0, .int .i64 0]) 3 40 := ⟨Try.underlying49, by kernel_rfl, rfl, by decide⟩
end Go.Proofs.Ytknebjfdggimcaa
