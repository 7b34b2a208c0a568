/- Codel: how many octets a queue has; what may be. -/
import Derived.Test.YteflbfmkbkhimaaCkH
import Derived.Test.YteflbfmkbkhimaaGMid
namespace Go.Proofs.Yteflbfmkbkhimaa
open Go.RowKit Go.Proofs.Yteflbfmkbkhimaa.Cd

theorem sumS_take {l : List Pkt} {i : Nat} {p : Pkt} (h : l[i]? = some p) : sumS (l.take (i + 1)) = sumS (l.take i) + p.sz := by
  rw [List.take_add_one, h]
  simp [sumS_app, sumS]
theorem pkv_take {l : List Pkt} (h : PkV l) (i : Nat) : PkV (l.take i) := fun x hx => h x (List.mem_of_mem_take hx)
theorem pkv_next {l : List Pkt} {i : Nat} {p : Pkt} (h : l[i]? = some p) (hp : PkV (l.take i)) (h1 : 0 ≤ p.tick ∧ p.tick ≤ 2199023255552) (h2 : 1 ≤ p.sz ∧ p.sz ≤ 65535) : PkV (l.take (i + 1)) := by
  intro x hx
  rw [List.take_add_one, h] at hx
  rcases List.mem_append.1 hx with hx | hx
  · exact hp x hx
  · simp at hx; subst hx; exact ⟨h1, h2⟩
set_option maxRecDepth 100000 in
set_option maxHeartbeats 1000000 in
theorem octets_any (a : Option Addr) (l : List Pkt) (cap : Nat) (w : World) (h : Sts 4 KC Tr w a l) (hv : PkV l) (hl : l.length ≤ 4398046510976) :
    Calls Try.prog 15 #[.slice a l.length cap] w fun e w' => e = .returned (.int .i64 (sumS l)) ∧ Below w.heap.size w w' := by
  have HL := Lib.hid h
  have HV := Lib.hid hv
  clear h hv
  go_enter Try.func15, Try.ntmps15
  go_wp2_with fail
  go_loopw [3, 8] (fun sv iv wr => ∃ i : Nat, i ≤ l.length ∧ Hid (sv = .int .i64 (sumS (l.take i))) ∧ iv = .int .i64 i ∧ Below w.heap.size w wr) (fun _ iv _ => l.length - (intOf iv).toNat)
  case atStart => exact ⟨0, by omega, Lib.hid rfl, rfl, Below.refl _ _⟩
  case round =>
    obtain ⟨i, hi, hsv, rfl, hq⟩ := hrel
    have QR := Lib.hid hq
    clear hq
    by_cases hlt : i < l.length
    case neg =>
      obtain rfl : i = l.length := by omega
      have h1 := hsv.out
      rw [List.take_length] at h1
      subst h1
      clear hsv
      go_wp2
      go_ret
      exact ⟨rfl, QR.out⟩
    case pos =>
      have i1 : (i : Int) < (l.length : Int) := by omega
      obtain ⟨p, hp⟩ : ∃ p, l[i]? = some p := ⟨_, List.getElem?_eq_getElem hlt⟩
      obtain ⟨g, o, rfl, _, _⟩ := HL.out.isSomeT (by omega)
      obtain ⟨hg, p0, p1, p2, p3⟩ := pk_at HL.out hp
      have m0 := (QR.out.cell (p := ⟨g, o + i * 4, none⟩) hg).trans p0
      have m1 := (QR.out.cell (p := ⟨g, o + i * 4 + 1, none⟩) hg).trans p1
      have m2 := (QR.out.cell (p := ⟨g, o + i * 4 + 2, none⟩) hg).trans p2
      have m3 := (QR.out.cell (p := ⟨g, o + i * 4 + 3, none⟩) hg).trans p3
      clear p0 p1 p2 p3
      have hb := sumS_bd (pkv_take HV.out i)
      have hz := (HV.out p (List.mem_of_getElem? hp)).2
      have hn := sumS_take hp
      have hlen : ((l.take i).length : Int) ≤ 4398046510976 := by rw [List.length_take]; omega
      have h1 := hsv.out
      obtain ⟨S, hS⟩ : ∃ S, sumS (l.take i) = S := ⟨_, rfl⟩
      rw [hS] at hb hn h1
      obtain ⟨z, hz2⟩ : ∃ z, p.sz = z := ⟨_, rfl⟩
      have HN : Hid (sumS (l.take (i + 1)) = S + p.sz) := Lib.hid hn
      have hb1 : 0 ≤ S := hb.1
      have hb2 : S ≤ 288225976106844258304 := by have := hb.2; omega
      have hb3 : S ≤ 288230376151711744 := by
        have := hb.2
        omega
      obtain ⟨z1, z2⟩ := hz
      subst h1
      clear hS hn hb hsv hlen hp hz2
      go_wp2_with fail
      go_roundw
      case rel => exact ⟨i + 1, by omega, Lib.hid (by rw [HN.out]), by go_num, by (repeat' (first | (with_reducible exact QR.out) | (with_reducible refine Below.alloc ?_ ?_ _) | (with_reducible refine Below.setCell ?_ ?_ _) | (with_reducible refine Below.drew ?_) | (with_reducible refine below_drewN ?_ _) | (have h9 := QR.out.size; omega) | (have h9 := QR.out.size; simp; omega)))⟩
      case measure => simp [intOf]; omega

set_option maxRecDepth 100000 in
set_option maxHeartbeats 1000000 in
theorem mayBe_any (sa : Bool) (sb : Int) (sd : Bool) (sn sc sl : Int) (a : Option Addr) (l : List Pkt) (cap : Nat) (now : Int) (w : World) (h : Sts 4 KC Tr w a l) (hl : l.length ≤ 4398046510976) :
    Calls Try.prog 14 #[.agg #[.bool sa, .int .i64 sb, .bool sd, .int .i64 sn, .int .i64 sc, .int .i64 sl], .slice a l.length cap, .int .i64 now] w fun e w' => (∃ b : Bool, e = .returned (.bool b) ∧ (b = true → PkV l ∧ ((0 ≤ now ∧ now ≤ 2199023255552) ∧ (0 ≤ sb ∧ sb ≤ 2199023255552) ∧ (0 ≤ sn ∧ sn ≤ 2199023255552)) ∧ ((0 ≤ sc ∧ sc ≤ 1073741824) ∧ (0 ≤ sl ∧ sl ≤ 1073741824)))) ∧ Below w.heap.size w w' := by
  have HL := Lib.hid h
  clear h
  go_enter Try.func14, Try.ntmps14
  go_wp2_with fail
  have Q0 := Lib.hid ((Below.refl w.heap.size w).alloc (Nat.le_refl _) (.cells #[.bool sa, .int .i64 sb, .bool sd, .int .i64 sn, .int .i64 sc, .int .i64 sl] 28))
  have S0 := Lib.hid (blk_new w (.cells #[.bool sa, .int .i64 sb, .bool sd, .int .i64 sn, .int .i64 sc, .int .i64 sl] 28))
  have hs0 : w.heap.size < (w.alloc (.cells #[.bool sa, .int .i64 sb, .bool sd, .int .i64 sn, .int .i64 sc, .int .i64 sl] 28)).heap.size := by simp
  generalize w.alloc (.cells #[.bool sa, .int .i64 sb, .bool sd, .int .i64 sn, .int .i64 sc, .int .i64 sl] 28) = V0 at Q0 S0 hs0 ⊢
  go_loopw [11] (fun iv wr => ∃ i : Nat, i ≤ l.length ∧ Hid (PkV (l.take i)) ∧ iv = .int .i64 i ∧ Below w.heap.size w wr ∧ Below V0.heap.size V0 wr) (fun iv _ => l.length - (intOf iv).toNat)
  case atStart => exact ⟨0, by omega, Lib.hid (fun x hx => by cases hx), rfl, Q0.out, Below.refl _ _⟩
  case round =>
    obtain ⟨i, hi, PV0, rfl, hq, hq2⟩ := hrel
    have QR := Lib.hid hq
    have Q2 := Lib.hid hq2
    clear hq hq2
    by_cases hlt : i < l.length
    case neg =>
      obtain rfl : i = l.length := by omega
      have HV : Hid (PkV l) := Lib.hid (by have := PV0.out; rwa [List.take_length] at this)
      have SR := Lib.hid ((Q2.out.block _ hs0).trans S0.out)
      have s1 := blk_cell SR.out 1
      have s3 := blk_cell SR.out 3
      have s4 := blk_cell SR.out 4
      have s5 := blk_cell SR.out 5
      have b1 := blk_lt SR.out
      by_cases hA : InR 0 2199023255552 [now, sb, sn]
      case neg =>
        have HA := Lib.hid hA
        clear hA
        go_wp2_with fail
        refine (wn_no 0 2199023255552 [now, sb, sn] _ _ _ _ _ _ rfl rfl (by first | simp | rfl) (by simp) HA.out).mono ?_
        rintro e w' ⟨rfl, rfl⟩
        go_wp2
        go_ret
        exact ⟨⟨false, rfl, fun e => absurd e (by decide)⟩, by (repeat' (first | (with_reducible exact QR.out) | (with_reducible refine Below.alloc ?_ ?_ _) | (with_reducible refine Below.setCell ?_ ?_ _) | (with_reducible refine Below.drew ?_) | (with_reducible refine below_drewN ?_ _) | (have h9 := QR.out.size; omega) | (have h9 := QR.out.size; simp; omega)))⟩
      case pos =>
        have HA := Lib.hid hA
        clear hA
        by_cases hB : InR 0 1073741824 [sc, sl]
        case neg =>
          have HB := Lib.hid hB
          clear hB
          go_wp2_with fail
          refine (wn_yes 0 2199023255552 [now, sb, sn] _ _ _ _ _ _ rfl rfl (by first | simp | rfl) (by simp) HA.out).mono ?_
          rintro e w' ⟨rfl, rfl⟩
          go_wp2_with fail
          refine (wn_no 0 1073741824 [sc, sl] _ _ _ _ _ _ rfl rfl (by first | simp | rfl) (by simp) HB.out).mono ?_
          rintro e w' ⟨rfl, rfl⟩
          go_wp2
          go_ret
          exact ⟨⟨false, rfl, fun e => absurd e (by decide)⟩, by (repeat' (first | (with_reducible exact QR.out) | (with_reducible refine Below.alloc ?_ ?_ _) | (with_reducible refine Below.setCell ?_ ?_ _) | (with_reducible refine Below.drew ?_) | (with_reducible refine below_drewN ?_ _) | (have h9 := QR.out.size; omega) | (have h9 := QR.out.size; simp; omega)))⟩
        case pos =>
          have HB := Lib.hid hB
          clear hB
          go_wp2_with fail
          refine (wn_yes 0 2199023255552 [now, sb, sn] _ _ _ _ _ _ rfl rfl (by first | simp | rfl) (by simp) HA.out).mono ?_
          rintro e w' ⟨rfl, rfl⟩
          go_wp2_with fail
          refine (wn_yes 0 1073741824 [sc, sl] _ _ _ _ _ _ rfl rfl (by first | simp | rfl) (by simp) HB.out).mono ?_
          rintro e w' ⟨rfl, rfl⟩
          go_wp2
          go_ret
          exact ⟨⟨true, rfl, fun _ => ⟨HV.out, inR3.1 HA.out, inR2.1 HB.out⟩⟩, by (repeat' (first | (with_reducible exact QR.out) | (with_reducible refine Below.alloc ?_ ?_ _) | (with_reducible refine Below.setCell ?_ ?_ _) | (with_reducible refine Below.drew ?_) | (with_reducible refine below_drewN ?_ _) | (have h9 := QR.out.size; omega) | (have h9 := QR.out.size; simp; omega)))⟩
    case pos =>
      have i1 : (i : Int) < (l.length : Int) := by omega
      obtain ⟨p, hp⟩ : ∃ p, l[i]? = some p := ⟨_, List.getElem?_eq_getElem hlt⟩
      obtain ⟨g, o, rfl, _, _⟩ := HL.out.isSomeT (by omega)
      obtain ⟨hg, p0, p1, p2, p3⟩ := pk_at HL.out hp
      have m0 := (QR.out.cell (p := ⟨g, o + i * 4, none⟩) hg).trans p0
      have m1 := (QR.out.cell (p := ⟨g, o + i * 4 + 1, none⟩) hg).trans p1
      have m2 := (QR.out.cell (p := ⟨g, o + i * 4 + 2, none⟩) hg).trans p2
      have m3 := (QR.out.cell (p := ⟨g, o + i * 4 + 3, none⟩) hg).trans p3
      clear p0 p1 p2 p3
      have HPN := Lib.hid (fun h1 h2 => pkv_next hp PV0.out h1 h2)
      clear hp PV0
      by_cases hA : InR 0 2199023255552 [p.tick]
      case neg =>
        have HA := Lib.hid hA
        clear hA
        go_wp2_with fail
        refine (wn_no 0 2199023255552 [p.tick] _ _ _ _ _ _ rfl rfl (by first | simp | rfl) (by simp) HA.out).mono ?_
        rintro e w' ⟨rfl, rfl⟩
        go_wp2
        go_ret
        exact ⟨⟨false, rfl, fun e => absurd e (by decide)⟩, by (repeat' (first | (with_reducible exact QR.out) | (with_reducible refine Below.alloc ?_ ?_ _) | (with_reducible refine Below.setCell ?_ ?_ _) | (with_reducible refine Below.drew ?_) | (with_reducible refine below_drewN ?_ _) | (have h9 := QR.out.size; omega) | (have h9 := QR.out.size; simp; omega)))⟩
      case pos =>
        have HA := Lib.hid hA
        clear hA
        by_cases hB : InR 1 65535 [p.sz]
        case neg =>
          have HB := Lib.hid hB
          clear hB
          go_wp2_with fail
          refine (wn_yes 0 2199023255552 [p.tick] _ _ _ _ _ _ rfl rfl (by first | simp | rfl) (by simp) HA.out).mono ?_
          rintro e w' ⟨rfl, rfl⟩
          go_wp2_with fail
          refine (wn_no 1 65535 [p.sz] _ _ _ _ _ _ rfl rfl (by first | simp | rfl) (by simp) HB.out).mono ?_
          rintro e w' ⟨rfl, rfl⟩
          go_wp2
          go_ret
          exact ⟨⟨false, rfl, fun e => absurd e (by decide)⟩, by (repeat' (first | (with_reducible exact QR.out) | (with_reducible refine Below.alloc ?_ ?_ _) | (with_reducible refine Below.setCell ?_ ?_ _) | (with_reducible refine Below.drew ?_) | (with_reducible refine below_drewN ?_ _) | (have h9 := QR.out.size; omega) | (have h9 := QR.out.size; simp; omega)))⟩
        case pos =>
          have HB := Lib.hid hB
          clear hB
          go_wp2_with fail
          refine (wn_yes 0 2199023255552 [p.tick] _ _ _ _ _ _ rfl rfl (by first | simp | rfl) (by simp) HA.out).mono ?_
          rintro e w' ⟨rfl, rfl⟩
          go_wp2_with fail
          refine (wn_yes 1 65535 [p.sz] _ _ _ _ _ _ rfl rfl (by first | simp | rfl) (by simp) HB.out).mono ?_
          rintro e w' ⟨rfl, rfl⟩
          go_wp2_with fail
          go_roundw
          case rel => exact ⟨i + 1, by omega, Lib.hid (HPN.out (inR1.1 HA.out) (inR1.1 HB.out)), by go_num, by (repeat' (first | (with_reducible exact QR.out) | (with_reducible refine Below.alloc ?_ ?_ _) | (with_reducible refine Below.setCell ?_ ?_ _) | (with_reducible refine Below.drew ?_) | (with_reducible refine below_drewN ?_ _) | (have h9 := QR.out.size; omega) | (have h9 := QR.out.size; simp; omega))), by (repeat' (first | (with_reducible exact Q2.out) | (with_reducible refine Below.alloc ?_ ?_ _) | (with_reducible refine Below.setCell ?_ ?_ _) | (with_reducible refine Below.drew ?_) | (with_reducible refine below_drewN ?_ _) | (have h9 := Q2.out.size; omega) | (have h9 := Q2.out.size; simp; omega)))⟩
          case measure => simp [intOf]; omega
end Go.Proofs.Yteflbfmkbkhimaa
