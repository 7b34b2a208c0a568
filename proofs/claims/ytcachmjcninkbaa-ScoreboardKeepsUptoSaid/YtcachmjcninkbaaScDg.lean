/- Scoreboard: slices.DeleteFunc over the closure, on a list of one's own. -/
import Derived.Test.YtcachmjcninkbaaScDf
namespace Go.Proofs.Ytcachmjcninkbaa
open Go.RowKit

set_option maxRecDepth 100000 in
set_option maxHeartbeats 4000000 in
theorem delete_any (ua : Nat) (gp B : Nat) (a : Option Addr) (l : List (Nat × Nat)) (cap : Nat) (w : World) (O : OwnR 76 2 SC B a l cap w) (hl : l.length ≤ 1000000) (hB : w.heap[gp]? = some (.cells #[.int .i64 (ua : Nat)] 3 (0, 0))) (hgB : gp < B) (hBw : B ≤ w.heap.size) :
    Calls Try.prog 49 #[.slice a l.length cap, .func (.func 51) #[] #[.pointer (some ⟨gp, 0, none⟩)]] w fun e w' => e = .returned (.slice a (left ua l).length cap) ∧ OwnR 76 2 SC B a (left ua l) cap w' ∧ Below B w w' := by
  have HO := Lib.hid O
  have HB := Lib.hid hB
  clear O hB
  go_enter Try.func49, Try.ntmps49
  go_wp2_with fail
  refine (index_any ua gp a l cap _ (HO.out.sts encS) hl HB.out).mono ?_
  rintro e V1 ⟨⟨k, rfl, hk⟩, b⟩
  have O1 := Lib.hid (HO.out.below b)
  have B1 := Lib.hid ((b.block gp (blk_lt HB.out)).trans HB.out)
  have Q1 := Lib.hid (b.mono hBw)
  have hB1 := Nat.le_trans hBw b.size
  clear b HO HB
  rcases hk with ⟨rfl, hall⟩ | ⟨kn, rfl, hkn, hk1, hk2⟩
  · have e := left_all hall
    have HE := Lib.hid e
    clear hall e
    go_wp2
    go_ret
    refine ⟨by rw [HE.out]; rfl, ?_, Q1.out⟩
    rw [HE.out]; exact O1.out
  · obtain ⟨g, rfl, hgB2, _⟩ := O1.out.isSome (by omega)
    have HD := Lib.hid (DInv.start hkn hk1 hk2)
    have hkm : ((kn : Int) == -1) = false := by rw [beq_eq_false_iff_ne]; omega
    clear hk1 hk2
    go_wp2_with fail
    go_loopw [5, 6] (fun vi vj wr => ∃ (i j : Nat) (ms : List (Nat × Nat)), vi = .int .i64 i ∧ vj = .int .i64 j ∧ Hid (DInv ua l ms i j) ∧ OwnR 76 2 SC B (some ⟨g, 0, none⟩) ms cap wr ∧ wr.heap[gp]? = some (.cells #[.int .i64 (ua : Nat)] 3 (0, 0)) ∧ B ≤ wr.heap.size ∧ Below B w wr) (fun _ vj _ => l.length - (intOf vj).toNat)
    case atStart => exact ⟨kn, kn + 1, l, rfl, by go_num, HD, O1.out, B1.out, hB1, Q1.out⟩
    case round =>
      obtain ⟨i, j, ms, rfl, rfl, HI, hO, hb, hBr, hq⟩ := hrel
      have OR := Lib.hid hO
      have BR := Lib.hid hb
      have QR := Lib.hid hq
      have hij := HI.out.lt
      have hjl := HI.out.le
      have hml := HI.out.len
      have hcap := hO.capLe
      clear hO hb hq O1 B1 Q1 HD hkm
      by_cases hlt : j < l.length
      case neg =>
        obtain rfl : j = l.length := by omega
        have hpre := HI.out.pre
        rw [List.take_length] at hpre
        have hlen : (left ua l).length = i := by rw [← hpre, List.length_take]; omega
        obtain ⟨W2, hcl, hO2, hg2⟩ := OR.out.cleared hml.symm hij
        have O2 := Lib.hid hO2
        have Q2 := Lib.hid (QR.out.trans ((Below.refl B wr).grown hg2 hBr (fun k e => by cases e; exact hgB2)))
        have HPRE := Lib.hid hpre
        have HLEN := Lib.hid hlen
        have k1 : ¬ cap = i := by omega
        have k2 : ¬ ((cap : Int) < (i : Int)) := by omega
        have k3 : ¬ ((l.length : Int) < (i : Int)) := by omega
        have hcl2 : ∀ ty, (Builtin.clear_ #[90] ty #[.slice (some ⟨g, i * 2, none⟩) (l.length - i) (cap - i)]).run Try.prog wr = .ok (.tuple #[]) W2 := fun ty => hcl ty _
        clear hO2 hg2 hpre hlen hcl hml
        go_wp2
        go_ret
        refine ⟨by rw [HLEN.out]; rfl, ?_, Q2.out⟩
        rw [← HPRE.out]; exact O2.out
      case pos =>
        have j1 : (j : Int) < (l.length : Int) := by omega
        obtain ⟨p, hp⟩ : ∃ p, l[j]? = some p := ⟨_, List.getElem?_eq_getElem hlt⟩
        have hpm : ms[j]? = some p := by rw [HI.out.suf j (Nat.le_refl _)]; exact hp
        obtain ⟨p', hpm'⟩ : ∃ p', ms[i]? = some p' := ⟨_, List.getElem?_eq_getElem (by omega)⟩
        have HP := Lib.hid hp
        obtain ⟨hg, p0, p1⟩ := s_at (OR.out.sts encS) hpm
        rw [Nat.zero_add] at p0 p1
        obtain ⟨b, hb⟩ : ∃ b, dl ua p = b := ⟨_, rfl⟩
        have HBB := Lib.hid hb
        have ba := (Below.refl wr.heap.size wr).alloc (Nat.le_refl _) (.cells #[.int .i64 (p.1 : Nat), .int .i64 (p.2 : Nat)] 76)
        have XB0 := blk_new wr (.cells #[.int .i64 (p.1 : Nat), .int .i64 (p.2 : Nat)] 76)
        have XB := Lib.hid XB0
        have O3 := Lib.hid (OR.out.below ba)
        have B3 := Lib.hid ((ba.block gp (blk_lt BR.out)).trans BR.out)
        have Q3 := Lib.hid (QR.out.trans (ba.mono hBr))
        have hB3 := Nat.le_trans hBr ba.size
        have HPM := Lib.hid hpm'
        have hsz : wr.heap.size < (wr.alloc (.cells #[.int .i64 (p.1 : Nat), .int .i64 (p.2 : Nat)] 76)).heap.size := by simp
        have x0 := blk_cell XB0 0
        have x1 := blk_cell XB0 1
        have hgne : Hid (wr.heap.size ≠ g) := Lib.hid (by omega)
        clear hp hb ba XB0 hpm hpm'
        go_wp2_with fail
        refine (cl_b ua p gp _ HBB.out B3.out).mono ?_
        rintro e V4 ⟨rfl, b4⟩
        have X4 := Lib.hid ((b4.block _ hsz).trans XB.out)
        have O4 := Lib.hid (O3.out.below b4)
        have B4 := Lib.hid ((b4.block gp (blk_lt B3.out)).trans B3.out)
        have Q4 := Lib.hid (Q3.out.trans (b4.mono hB3))
        have hB4 := Nat.le_trans hB3 b4.size
        clear b4 O3 B3 Q3 XB x0 x1 p0 p1
        cases b with
        | true =>
          go_wp2
          go_roundw
          case rel => exact ⟨i, j + 1, ms, rfl, by go_num, Lib.hid (HI.out.drop hlt HP.out HBB.out), O4.out, B4.out, hB4, Q4.out⟩
          case measure => simp [intOf]; omega
        | false =>
          have x0 := blk_cell X4.out 0
          have x1 := blk_cell X4.out 1
          obtain ⟨_, s0, s1⟩ := s_at (O4.out.sts encS) HPM.out
          rw [Nat.zero_add] at s0 s1
          have f0 := O4.out.frozenP (i * 2)
          have f1 := O4.out.frozenP (i * 2 + 1)
          have S5 := O4.out.setP i p (by omega)
          have O5 := Lib.hid S5.1
          have G5 := Lib.hid S5.2
          have i1 : (i : Int) < (l.length : Int) := by omega
          clear S5
          go_wp2
          go_roundw
          case rel => exact ⟨i + 1, j + 1, ms.set i p, by go_num, by go_num, Lib.hid (HI.out.keep hlt HP.out HBB.out), O5.out, (G5.out.block gp (blk_lt B4.out) (fun e => by have := Option.some.inj e; omega)).trans B4.out, Nat.le_trans hB4 G5.out.size, Q4.out.trans ((Below.refl B V4).grown G5.out hB4 (fun k e => by cases e; exact hgB2))⟩
          case measure => simp [intOf]; omega
end Go.Proofs.Ytcachmjcninkbaa
