/- Routes: the document's Next. -/
import Derived.Test.YtinlacdngojlaaaRtRd
namespace Go.Proofs.Ytinlacdngojlaaa
open Go.RowKit Go.Maps Go.Proofs.Ytinlacdngojlaaa.Rt Go.Sort Go.BigFrame

/-- The longest one's index so far. -/
def RB (L : List Route10) (ip i : Nat) (bi : Int) : Prop :=
  (bi = -1 ∧ ∀ r ∈ L.take i, ¬ (pre ip r.bits.toNat = r.net)) ∨ ∃ (j : Nat) (y : Route10), bi = (j : Int) ∧ L[j]? = some y ∧ pre ip y.bits.toNat = y.net ∧ ∀ x ∈ L.take i, pre ip x.bits.toNat = x.net → x.bits ≤ y.bits
theorem RB.zero (L : List Route10) (ip : Nat) : RB L ip 0 (-1) := .inl ⟨rfl, fun r hr => by simp at hr⟩
theorem mem_take_succ {L : List Route10} {i : Nat} {y r : Route10} (hy : L[i]? = some y) (h : r ∈ L.take (i + 1)) : r ∈ L.take i ∨ r = y := by
  rw [List.take_add_one, hy] at h
  rcases List.mem_append.1 h with h | h
  · exact .inl h
  · simp at h; exact .inr h
theorem RB.skip {L : List Route10} {ip i : Nat} {bi : Int} {y : Route10} (hy : L[i]? = some y) (h : RB L ip i bi) (hn : ¬ (pre ip y.bits.toNat = y.net)) : RB L ip (i + 1) bi := by
  rcases h with ⟨e, h⟩ | ⟨j, z, e, hz, hp, h⟩
  · exact .inl ⟨e, fun r hr => by rcases mem_take_succ hy hr with hr | rfl; exact h r hr; exact hn⟩
  · exact .inr ⟨j, z, e, hz, hp, fun r hr hq => by rcases mem_take_succ hy hr with hr | rfl; exact h r hr hq; exact absurd hq hn⟩
theorem RB.skipJ {L : List Route10} {ip i j : Nat} {y z : Route10} (hy : L[i]? = some y) (hz : L[j]? = some z) (hp : pre ip z.bits.toNat = z.net) (h : ∀ x ∈ L.take i, pre ip x.bits.toNat = x.net → x.bits ≤ z.bits) (hn : ¬ (y.bits > z.bits)) : RB L ip (i + 1) (j : Int) :=
  .inr ⟨j, z, rfl, hz, hp, fun r hr hq => by rcases mem_take_succ hy hr with hr | rfl; exact h r hr hq; omega⟩
theorem RB.take0 {L : List Route10} {ip i : Nat} {y : Route10} (hy : L[i]? = some y) (h : ∀ r ∈ L.take i, ¬ (pre ip r.bits.toNat = r.net)) (hp : pre ip y.bits.toNat = y.net) : RB L ip (i + 1) (i : Int) :=
  .inr ⟨i, y, rfl, hy, hp, fun r hr hq => by rcases mem_take_succ hy hr with hr | rfl; exact absurd hq (h r hr); omega⟩
theorem RB.takeJ {L : List Route10} {ip i : Nat} {y z : Route10} (hy : L[i]? = some y) (h : ∀ x ∈ L.take i, pre ip x.bits.toNat = x.net → x.bits ≤ z.bits) (hp : pre ip y.bits.toNat = y.net) (hn : y.bits > z.bits) : RB L ip (i + 1) (i : Int) :=
  .inr ⟨i, y, rfl, hy, hp, fun r hr hq => by rcases mem_take_succ hy hr with hr | rfl; have := h r hr hq; omega; omega⟩
set_option maxRecDepth 100000 in
set_option maxHeartbeats 2000000 in
theorem rnext_any (B gt : Nat) (p : Option Addr) (L : List Route10) (k : Nat) (ip : Nat) (W : World) (h : RTab B gt p L k W) (hg : RGood L) (hip : ip < 4294967296) (hL : L.length ≤ 256) :
    Calls Try.prog 13 #[.pointer (some ⟨gt, 0, none⟩), .int .u32 (ip : Nat)] W (NextAns L ip W) := by
  have HT := Lib.hid h
  have HG := Lib.hid hg
  clear h hg
  go_enter Try.func13, Try.ntmps13
  go_wp2_with fail
  go_loopw [6, 7] (fun bv iv wr => ∃ (i : Nat) (bi : Int), i ≤ L.length ∧ iv = .int .i64 i ∧ bv = .int .i64 bi ∧ Hid (RB L ip i bi) ∧ Below W.heap.size W wr) (fun _ iv _ => L.length - (intOf iv).toNat)
  case atStart => exact ⟨0, -1, by omega, rfl, rfl, Lib.hid (RB.zero _ _), Below.refl _ _⟩
  case round =>
    obtain ⟨i, bi, hi, rfl, rfl, HRB, hq⟩ := hrel
    have T2 := Lib.hid (HT.out.below hq)
    have HQ := Lib.hid hq
    clear hq
    have t0 := blk_cell T2.out.blk 0
    by_cases hlt : i < L.length
    case neg =>
      obtain rfl : i = L.length := by omega
      have j1 : ¬ ((L.length : Int) < (L.length : Int)) := by omega
      have hrb := HRB.out
      unfold RB at hrb
      rw [List.take_length] at hrb
      clear HRB
      rcases hrb with ⟨rfl, hno⟩ | ⟨j, z, rfl, hz, hp, hbst⟩
      · have HA := Lib.hid (nextAt_none L ip hno 33)
        clear hno
        go_wp2
        go_ret2
        exact ⟨by rw [HA.out]; rfl, HQ.out⟩
      · have hzm := List.mem_of_getElem? hz
        have HA := Lib.hid (nextAt_best HG.out ip z hzm hp hbst 33 (by have h9 := HG.out z hzm; omega))
        have hjl := (List.getElem?_eq_some_iff.1 hz).1
        obtain ⟨g7, rfl, hg7, _⟩ := T2.out.own.isSome (by omega)
        obtain ⟨_, n0, n1, n2⟩ := r_at (T2.out.own.sts encR) hz
        rw [Nat.zero_add] at n0 n1 n2
        have j2 : ¬ ((j : Int) < 0) := by omega
        have j3 : (j : Int) < (L.length : Int) := by omega
        clear hp hbst hz hzm
        by_cases h0 : z.gw = 0
        case' pos =>
          have v1 : ((z.gw : Int) == 0) = true := by rw [h0]; rfl
          have v2 : ((z.gw : Int) = 0) := by rw [h0]; rfl
        case' neg =>
          have v1 : ((z.gw : Int) == 0) = false := by rw [beq_eq_false_iff_ne]; omega
          have v2 : ¬ ((z.gw : Int) = 0) := by omega
        all_goals
          have H0 := Lib.hid h0
          clear h0
          go_wp2
          go_ret2
          refine ⟨?_, HQ.out⟩
          rw [HA.out]
          have h0 := H0.out
          simp [wayOf, errOf, h0]
    case pos =>
      have j1 : (i : Int) < (L.length : Int) := by omega
      obtain ⟨y, hy⟩ : ∃ y, L[i]? = some y := ⟨_, List.getElem?_eq_getElem hlt⟩
      have hym := HG.out y (List.mem_of_getElem? hy)
      obtain ⟨g7, rfl, hg7, _⟩ := T2.out.own.isSome (by omega)
      obtain ⟨_, m0, m1, m2⟩ := r_at (T2.out.own.sts encR) hy
      rw [Nat.zero_add] at m0 m1 m2
      obtain ⟨b, hyb⟩ : ∃ b : Nat, y.bits = b := ⟨y.bits.toNat, by omega⟩
      rw [hyb] at m1
      have hb : b ≤ 32 := by omega
      have PL := fun V => lead_any ip b V hip hb
      obtain ⟨pn, hpn⟩ : ∃ z, pre ip b = z := ⟨_, rfl⟩
      have hpy : pre ip y.bits.toNat = pn := by rw [hyb, ← hpn]; congr 1
      rw [hpn] at PL
      have HPL := Lib.hid PL
      have HPY := Lib.hid hpy
      have HY := Lib.hid hy
      have HYB := Lib.hid hyb
      clear PL hpy hpn hy hym m2
      by_cases hp : pn = y.net
      case neg =>
        have v1 : ((pn : Int) == (y.net : Int)) = false := by rw [beq_eq_false_iff_ne]; omega
        have v2 : ¬ ((pn : Int) = (y.net : Int)) := by omega
        have HP := Lib.hid hp
        clear hp hyb
        go_upto_region 5 with fail
        have qt0 := cell_regrown (show wr.cell? ⟨gt, 0, none⟩ = some (.slice (some ⟨g7, 0, none⟩) L.length k) from t0)
        have qm0 := cell_regrown (show wr.cell? ⟨g7, i * 3, none⟩ = some (.int .u32 (y.net : Nat)) from m0)
        have qm1 := cell_regrown (show wr.cell? ⟨g7, i * 3 + 1, none⟩ = some (.int .i64 (b : Nat)) from m1)
        have cL : ∀ d os, Calls Try.prog 23 #[.int .u32 (ip : Nat), .int .i64 (b : Nat)] (grow (redrawn wr d) os) fun e w'' => e = .returned (.int .u32 (pn : Nat)) ∧ ∃ p : Regrown, w'' = grow (redrawn wr p.d) p.os := fun d os => Calls.regrown_of ((HPL.out _).mono fun _ _ h => ⟨h.1, h.2 ▸ Below.refl _ _⟩)
        refine wp_region_quiet_below (by kernel_rfl) (by kernel_rfl) ?_
        repeat (go_big_quiet_step (first | (go_at_call 23; exact cL _ _)))
        refine wpQuiet_nil ?_
        intro _ hw'
        obtain ⟨⟨dq, osq⟩, hw''⟩ := hw'
        subst hw''
        have hB := below_regrown wr dq osq
        clear qt0 qm0 qm1 cL
        dsimp only
        generalize grow (redrawn wr dq) osq = V1 at hB ⊢
        have hB2 := Lib.hid (HQ.out.trans (hB.mono HQ.out.size))
        clear hB
        go_wp2_with fail
        go_roundw
        case rel => exact ⟨i + 1, bi, by omega, by go_num, by go_num, Lib.hid (HRB.out.skip HY.out (fun e => HP.out (HPY.out.symm.trans e))), hB2.out⟩
        case measure => simp [intOf]; omega
      case pos =>
      have v1 : ((pn : Int) == (y.net : Int)) = true := by rw [hp]; simp
      have v2 : ((pn : Int) = (y.net : Int)) := by omega
      have HP : Hid (pre ip y.bits.toNat = y.net) := Lib.hid (by rw [HPY.out, hp])
      clear hp hyb
      have hrb := HRB.out
      unfold RB at hrb
      clear HRB
      rcases hrb with ⟨rfl, hno⟩ | ⟨j, z, rfl, hz, hpz, hbst⟩
      · have HNO := Lib.hid hno
        have v3 : ((-1 : Int) < 0) := by omega
        clear hno
        go_upto_region 5 with fail
        have qt0 := cell_regrown (show wr.cell? ⟨gt, 0, none⟩ = some (.slice (some ⟨g7, 0, none⟩) L.length k) from t0)
        have qm0 := cell_regrown (show wr.cell? ⟨g7, i * 3, none⟩ = some (.int .u32 (y.net : Nat)) from m0)
        have qm1 := cell_regrown (show wr.cell? ⟨g7, i * 3 + 1, none⟩ = some (.int .i64 (b : Nat)) from m1)
        have cL : ∀ d os, Calls Try.prog 23 #[.int .u32 (ip : Nat), .int .i64 (b : Nat)] (grow (redrawn wr d) os) fun e w'' => e = .returned (.int .u32 (pn : Nat)) ∧ ∃ p : Regrown, w'' = grow (redrawn wr p.d) p.os := fun d os => Calls.regrown_of ((HPL.out _).mono fun _ _ h => ⟨h.1, h.2 ▸ Below.refl _ _⟩)
        refine wp_region_quiet_below (by kernel_rfl) (by kernel_rfl) ?_
        repeat (go_big_quiet_step (first | (go_at_call 23; exact cL _ _)))
        refine wpQuiet_nil ?_
        intro _ hw'
        obtain ⟨⟨dq, osq⟩, hw''⟩ := hw'
        subst hw''
        have hB := below_regrown wr dq osq
        clear qt0 qm0 qm1 cL
        dsimp only
        generalize grow (redrawn wr dq) osq = V1 at hB ⊢
        have hB2 := Lib.hid (HQ.out.trans (hB.mono HQ.out.size))
        clear hB
        go_wp2_with fail
        go_roundw
        case rel => exact ⟨i + 1, i, by omega, by go_num, by go_num, Lib.hid (RB.take0 HY.out HNO.out HP.out), hB2.out⟩
        case measure => simp [intOf]; omega
      · have hjl := (List.getElem?_eq_some_iff.1 hz).1
        obtain ⟨_, n0, n1, n2⟩ := r_at (T2.out.own.sts encR) hz
        rw [Nat.zero_add] at n0 n1 n2
        have v3 : ¬ ((j : Int) < 0) := by omega
        have j3 : (j : Int) < (L.length : Int) := by omega
        have HZ := Lib.hid hz
        have HPZ := Lib.hid hpz
        have HBS := Lib.hid hbst
        clear hz hpz hbst n0 n2
        by_cases hgt : z.bits < (b : Int)
        case pos =>
          have v4 : (b : Int) > z.bits := hgt
          have HGT : Hid (y.bits > z.bits) := Lib.hid (by rw [HYB.out]; exact hgt)
          go_upto_region 5 with fail
          have qt0 := cell_regrown (show wr.cell? ⟨gt, 0, none⟩ = some (.slice (some ⟨g7, 0, none⟩) L.length k) from t0)
          have qm0 := cell_regrown (show wr.cell? ⟨g7, i * 3, none⟩ = some (.int .u32 (y.net : Nat)) from m0)
          have qm1 := cell_regrown (show wr.cell? ⟨g7, i * 3 + 1, none⟩ = some (.int .i64 (b : Nat)) from m1)
          have qn1 := cell_regrown (show wr.cell? ⟨g7, j * 3 + 1, none⟩ = some (.int .i64 z.bits) from n1)
          have cL : ∀ d os, Calls Try.prog 23 #[.int .u32 (ip : Nat), .int .i64 (b : Nat)] (grow (redrawn wr d) os) fun e w'' => e = .returned (.int .u32 (pn : Nat)) ∧ ∃ p : Regrown, w'' = grow (redrawn wr p.d) p.os := fun d os => Calls.regrown_of ((HPL.out _).mono fun _ _ h => ⟨h.1, h.2 ▸ Below.refl _ _⟩)
          refine wp_region_quiet_below (by kernel_rfl) (by kernel_rfl) ?_
          repeat (go_big_quiet_step (first | (go_at_call 23; exact cL _ _)))
          refine wpQuiet_nil ?_
          intro _ hw'
          obtain ⟨⟨dq, osq⟩, hw''⟩ := hw'
          subst hw''
          have hB := below_regrown wr dq osq
          clear qt0 qm0 qm1 qn1 cL
          dsimp only
          generalize grow (redrawn wr dq) osq = V1 at hB ⊢
          have hB2 := Lib.hid (HQ.out.trans (hB.mono HQ.out.size))
          clear hB
          go_wp2_with fail
          go_roundw
          case rel => exact ⟨i + 1, i, by omega, by go_num, by go_num, Lib.hid (RB.takeJ HY.out HBS.out HP.out HGT.out), hB2.out⟩
          case measure => simp [intOf]; omega
        case neg =>
          have v4 : ¬ ((b : Int) > z.bits) := hgt
          have HGT : Hid (¬ (y.bits > z.bits)) := Lib.hid (by rw [HYB.out]; exact hgt)
          go_upto_region 5 with fail
          have qt0 := cell_regrown (show wr.cell? ⟨gt, 0, none⟩ = some (.slice (some ⟨g7, 0, none⟩) L.length k) from t0)
          have qm0 := cell_regrown (show wr.cell? ⟨g7, i * 3, none⟩ = some (.int .u32 (y.net : Nat)) from m0)
          have qm1 := cell_regrown (show wr.cell? ⟨g7, i * 3 + 1, none⟩ = some (.int .i64 (b : Nat)) from m1)
          have qn1 := cell_regrown (show wr.cell? ⟨g7, j * 3 + 1, none⟩ = some (.int .i64 z.bits) from n1)
          have cL : ∀ d os, Calls Try.prog 23 #[.int .u32 (ip : Nat), .int .i64 (b : Nat)] (grow (redrawn wr d) os) fun e w'' => e = .returned (.int .u32 (pn : Nat)) ∧ ∃ p : Regrown, w'' = grow (redrawn wr p.d) p.os := fun d os => Calls.regrown_of ((HPL.out _).mono fun _ _ h => ⟨h.1, h.2 ▸ Below.refl _ _⟩)
          refine wp_region_quiet_below (by kernel_rfl) (by kernel_rfl) ?_
          repeat (go_big_quiet_step (first | (go_at_call 23; exact cL _ _)))
          refine wpQuiet_nil ?_
          intro _ hw'
          obtain ⟨⟨dq, osq⟩, hw''⟩ := hw'
          subst hw''
          have hB := below_regrown wr dq osq
          clear qt0 qm0 qm1 qn1 cL
          dsimp only
          generalize grow (redrawn wr dq) osq = V1 at hB ⊢
          have hB2 := Lib.hid (HQ.out.trans (hB.mono HQ.out.size))
          clear hB
          go_wp2_with fail
          go_roundw
          case rel => exact ⟨i + 1, j, by omega, by go_num, by go_num, Lib.hid (RB.skipJ HY.out HZ.out HPZ.out HBS.out HGT.out), hB2.out⟩
          case measure => simp [intOf]; omega
end Go.Proofs.Ytinlacdngojlaaa
