/- For every segment's size and list of events: each, one behind the other, goes the page's way, and the states may be. No condition. -/
import Derived.Test.YtokoogohdfepiaaRows
import Derived.Test.YtokoogohdfepiaaBbS2
import Derived.Test.YtokoogohdfepiaaGEvent23
import Derived.Deep.DeepCutAuto
import Derived.RegionTactic
import Derived.ProofKit
import Derived.OpenShut
import Derived.ChangeOld
import Derived.SizedLaws
namespace Go.Proofs.Ytokoogohdfepiaa.bbrPlays
open Go.ChangeShapes Go.WideShapes Go.ChangeAt Go.RowKit Go.Deep Go.Proofs.Ytokoogohdfepiaa

theorem zsv : SV zS := ⟨by decide, by decide, v0, by decide, by decide, by decide, by decide, by decide, by decide, by decide⟩
theorem two (w : World) (a b : Obj) : ((w.alloc a).alloc b).heap[w.heap.size]? = some a ∧ ((w.alloc a).alloc b).heap[w.heap.size + 1]? = some b ∧ ((w.alloc a).alloc b).heap.size = w.heap.size + 1 + 1 := by
  refine ⟨?_, ?_, ?_⟩
  · show ((w.heap.push a).push b)[w.heap.size]? = some a
    (repeat rw [Array.getElem?_push]); simp only [Array.size_push]; (repeat (first | rw [if_pos (by omega)] | rw [if_neg (by omega)] | rw [if_pos trivial]))
  · show ((w.heap.push a).push b)[w.heap.size + 1]? = some b
    (repeat rw [Array.getElem?_push]); simp only [Array.size_push]; (repeat (first | rw [if_pos (by omega)] | rw [if_neg (by omega)] | rw [if_pos trivial]))
  · show ((w.heap.push a).push b).size = _
    simp

set_option maxRecDepth 100000 in
set_option maxHeartbeats 6000000 in
theorem walk (m : Int) (a : Option Addr) (rs : List Event23) (cap : Nat) (w : World) (_m0 : -9223372036854775808 ≤ m) (_m1 : m ≤ 9223372036854775807) (hx : Sts 7 Event23.cells Event23.ok w a rs) (_hn : a = none → cap = 0) (hre : rs.length ≤ 2932031007317) :
    Calls Try.prog 5 #[.int .i64 m, .slice a rs.length cap] w fun e w' => e = .returned (.bool true) ∧ Below w.heap.size w w' := by
  have HX := Lib.hid hx
  clear hx _m0 _m1 _hn
  go_enter Try.func5, Try.ntmps5
  go_upto_region 4 with fail
  have b1 := (Below.refl w.heap.size w).alloc (Nat.le_refl _) (.cells #[.int .i64 0, .slice none 0 0, .bool false, .int .i64 0, .int .i64 0, .bool false, .int .i64 0, .int .i64 0, .int .i64 0, .int .i64 0, .int .i64 0, .int .i64 0] 40)
  have Q0 := Lib.hid (b1.alloc b1.size (.cells #[.int .i64 0, .slice none 0 0, .bool false, .int .i64 0, .int .i64 0, .bool false, .int .i64 0, .int .i64 0, .int .i64 0, .int .i64 0, .int .i64 0, .int .i64 0] 42))
  obtain ⟨x1, x2, x3⟩ := two w (.cells #[.int .i64 0, .slice none 0 0, .bool false, .int .i64 0, .int .i64 0, .bool false, .int .i64 0, .int .i64 0, .int .i64 0, .int .i64 0, .int .i64 0, .int .i64 0] 40) (.cells #[.int .i64 0, .slice none 0 0, .bool false, .int .i64 0, .int .i64 0, .bool false, .int .i64 0, .int .i64 0, .int .i64 0, .int .i64 0, .int .i64 0, .int .i64 0] 42)
  have S0 := Lib.hid x1
  have T0 := Lib.hid x2
  clear b1 x1 x2 x3
  generalize (w.alloc (.cells #[.int .i64 0, .slice none 0 0, .bool false, .int .i64 0, .int .i64 0, .bool false, .int .i64 0, .int .i64 0, .int .i64 0, .int .i64 0, .int .i64 0, .int .i64 0] 40)).alloc (.cells #[.int .i64 0, .slice none 0 0, .bool false, .int .i64 0, .int .i64 0, .bool false, .int .i64 0, .int .i64 0, .int .i64 0, .int .i64 0, .int .i64 0, .int .i64 0] 42) = V0 at Q0 S0 T0 ⊢
  go_loopw [7] (fun iv wr => ∃ (i : Nat) (s : Bs) (a2 : Option Addr) (c2 : Nat), i ≤ rs.length ∧ iv = .int .i64 i ∧ Hid (SV s) ∧ OwnR 36 2 PC (w.heap.size + 2) s.ra s.rl s.rc wr ∧ OwnR 58 2 PC (w.heap.size + 2) a2 s.rl c2 wr ∧ wr.heap[w.heap.size]? = some (.cells #[.int .i64 s.phase, .slice s.ra s.rl.length s.rc, .bool s.hasRtt, .int .i64 s.rtt, .int .i64 s.rttAt, .bool s.full, .int .i64 s.fullRate, .int .i64 s.fullRounds, .int .i64 s.cycle, .int .i64 s.cycleAt, .int .i64 s.til, .int .i64 s.round] 40 (0, 0)) ∧ wr.heap[w.heap.size + 1]? = some (.cells #[.int .i64 s.phase, .slice a2 s.rl.length c2, .bool s.hasRtt, .int .i64 s.rtt, .int .i64 s.rttAt, .bool s.full, .int .i64 s.fullRate, .int .i64 s.fullRounds, .int .i64 s.cycle, .int .i64 s.cycleAt, .int .i64 s.til, .int .i64 s.round] 42 (0, 0)) ∧ Below w.heap.size w wr) (fun iv _ => rs.length - (intOf iv).toNat)
  case atStart => exact ⟨0, zS, none, 0, by omega, rfl, Lib.hid zsv, ownR_nil _ _ _ _ _, ownR_nil _ _ _ _ _, S0.out, T0.out, Q0.out⟩
  case round =>
    obtain ⟨i, s, a2, c2, hi, rfl, HV, hO, hP, hS, hT, hq⟩ := hrel
    have OR := Lib.hid hO
    have PR := Lib.hid hP
    have SR := Lib.hid hS
    have TR := Lib.hid hT
    have QR := Lib.hid hq
    clear hO hP hS hT hq Q0 S0 T0
    by_cases hlt : i < rs.length
    case neg =>
      have h2 : ¬ ((i : Int) < (rs.length : Int)) := by omega
      go_wp2_with fail
      refine (alive_any _).mono ?_
      rintro e V1 ⟨rfl, b⟩
      have QF := QR.out.trans (b.mono QR.out.size)
      clear b
      go_wp2
      go_ret
      exact ⟨rfl, QF⟩
    case pos =>
      have i1 : (i : Int) < (rs.length : Int) := by omega
      obtain ⟨xb, xo, rfl, hxb, hxc⟩ : ∃ b off, a = some ⟨b, off, none⟩ ∧ b < w.heap.size ∧ ∀ (i : Nat) (r : Event23), rs[i]? = some r → ∀ (j : Nat) (v : Value), (Event23.cells r)[j]? = some v → w.cell? ⟨b, off + i * 7 + j, none⟩ = some v := by
        rcases HX.out.2 with h | h
        · rw [h] at hlt; simp at hlt
        · exact h
      obtain ⟨r, hr⟩ : ∃ r, rs[i]? = some r := ⟨_, List.getElem?_eq_getElem hlt⟩
      have k0 : w.cell? ⟨xb, xo + i * 7, none⟩ = some (.int .i64 r.now) := hxc i r hr 0 _ rfl
      have k1 : w.cell? ⟨xb, xo + i * 7 + 1, none⟩ = some (.int .i64 r.round) := hxc i r hr 1 _ rfl
      have k2 : w.cell? ⟨xb, xo + i * 7 + 2, none⟩ = some (.int .i64 r.rate) := hxc i r hr 2 _ rfl
      have k3 : w.cell? ⟨xb, xo + i * 7 + 3, none⟩ = some (.int .i64 r.rtt) := hxc i r hr 3 _ rfl
      have k4 : w.cell? ⟨xb, xo + i * 7 + 4, none⟩ = some (.int .i64 r.flight) := hxc i r hr 4 _ rfl
      have k5 : w.cell? ⟨xb, xo + i * 7 + 5, none⟩ = some (.bool r.hasRate) := hxc i r hr 5 _ rfl
      have k6 : w.cell? ⟨xb, xo + i * 7 + 6, none⟩ = some (.bool r.hasRtt) := hxc i r hr 6 _ rfl
      have HK := Lib.hid (And.intro k0 (And.intro k1 (And.intro k2 (And.intro k3 (And.intro k4 (And.intro k5 k6))))))
      obtain ⟨b, hb⟩ : ∃ b : Bool, b = true ↔ OkE s m ⟨r.now, r.round, r.rate, r.rtt, r.flight, r.hasRate, r.hasRtt⟩ := by
        by_cases h : OkE s m ⟨r.now, r.round, r.rate, r.rtt, r.flight, r.hasRate, r.hasRtt⟩
        · exact ⟨true, fun _ => h, fun _ => rfl⟩
        · exact ⟨false, fun e => absurd e (by decide), fun e => absurd e h⟩
      have HB := Lib.hid hb
      obtain ⟨en, hen⟩ : ∃ en, enF b = en := ⟨_, rfl⟩
      have HEN := Lib.hid hen
      have hsz : w.heap.size + 2 ≤ wr.heap.size := by have := blk_lt TR.out; omega
      have HA := Lib.hid (fun (W : World) (hW : Below wr.heap.size wr W) => ack_b b s m ⟨r.now, r.round, r.rate, r.rtt, r.flight, r.hasRate, r.hasRtt⟩ W hb HV.out (Sts.belowT (OR.out.sts encP) hW) OR.out.nilcap)
      rw [hen] at HA
      clear k0 k1 k2 k3 k4 k5 k6 hxc hr hb hen
      go_upto_region 6 with fail
      go_cut [8, 9] (fun (p q : Value) (wx : World) => ∃ (gt : Nat) (t : Bs), Behind b s ⟨r.now, r.round, r.rate, r.rtt, r.flight, r.hasRate, r.hasRtt⟩ t ∧ p = .pointer (some ⟨gt, 0, none⟩) ∧ q = .int .i64 en ∧ wx.heap[gt]? = some (.cells #[.int .i64 t.phase, .slice t.ra t.rl.length t.rc, .bool t.hasRtt, .int .i64 t.rtt, .int .i64 t.rttAt, .bool t.full, .int .i64 t.fullRate, .int .i64 t.fullRounds, .int .i64 t.cycle, .int .i64 t.cycleAt, .int .i64 t.til, .int .i64 t.round] 40 (0, 0)) ∧ wr.heap.size ≤ gt ∧ Below wr.heap.size wr wx ∧ OwnR 36 2 PC wr.heap.size t.ra t.rl t.rc wx)
      case first =>
        refine wp_region_held_drew (S := fun W => Below wr.heap.size wr W) (by kernel_rfl) (Below.refl _ _).drew (fun hHeld => ?_)
        refine wpAnyH_take (i := 0) (oi := _) (v := ?_) rfl (by kernel_rfl) (by kernel_rfl) (by kernel_rfl) (fun _ _ _ h => h) (Or.inl ⟨by rfl, ?_⟩) (by assumption) ?_
        rotate_left
        · intro w5 hSw
          have hB : Below wr.heap.size wr w5 := hSw
          clear hSw
          have c0 := blk_cell ((hB.block _ (blk_lt SR.out)).trans SR.out) 0
          have c1 := blk_cell ((hB.block _ (blk_lt SR.out)).trans SR.out) 1
          have c2 := blk_cell ((hB.block _ (blk_lt SR.out)).trans SR.out) 2
          have c3 := blk_cell ((hB.block _ (blk_lt SR.out)).trans SR.out) 3
          have c4 := blk_cell ((hB.block _ (blk_lt SR.out)).trans SR.out) 4
          have c5 := blk_cell ((hB.block _ (blk_lt SR.out)).trans SR.out) 5
          have c6 := blk_cell ((hB.block _ (blk_lt SR.out)).trans SR.out) 6
          have c7 := blk_cell ((hB.block _ (blk_lt SR.out)).trans SR.out) 7
          have c8 := blk_cell ((hB.block _ (blk_lt SR.out)).trans SR.out) 8
          have c9 := blk_cell ((hB.block _ (blk_lt SR.out)).trans SR.out) 9
          have c10 := blk_cell ((hB.block _ (blk_lt SR.out)).trans SR.out) 10
          have c11 := blk_cell ((hB.block _ (blk_lt SR.out)).trans SR.out) 11
          clear hB
          go_simp
          all_goals with_reducible rfl
        (try simp only [List.getElem_toArray]); (try simp only [List.getElem_cons_succ]); (try simp only [List.getElem_cons_zero]); try simp only [Act.put, List.setIfInBounds_toArray, List.set_cons_zero, List.set_cons_succ]
        refine wpAnyH_take (i := 1) (oi := _) (v := ?_) rfl (by kernel_rfl) (by kernel_rfl) (by kernel_rfl) (fun _ _ _ h => h) (Or.inl ⟨by rfl, ?_⟩) (by assumption) ?_
        rotate_left
        · intro w5 hSw
          clear hSw
          go_simp
          all_goals with_reducible rfl
        (try simp only [List.getElem_toArray]); (try simp only [List.getElem_cons_succ]); (try simp only [List.getElem_cons_zero]); try simp only [Act.put, List.setIfInBounds_toArray, List.set_cons_zero, List.set_cons_succ]
        refine wpAnyH_take (i := 2) (oi := _) (v := ?_) rfl (by kernel_rfl) (by kernel_rfl) (by kernel_rfl) (fun _ _ _ h => h) (Or.inl ⟨by rfl, ?_⟩) (by assumption) ?_
        rotate_left
        · intro w5 hSw
          clear hSw
          go_simp
          all_goals with_reducible rfl
        (try simp only [List.getElem_toArray]); (try simp only [List.getElem_cons_succ]); (try simp only [List.getElem_cons_zero]); try simp only [Act.put, List.setIfInBounds_toArray, List.set_cons_zero, List.set_cons_succ]
        refine wpAnyH_take (i := 3) (oi := _) (v := ?_) rfl (by kernel_rfl) (by kernel_rfl) (by kernel_rfl) (fun _ _ _ h => h) (Or.inl ⟨by rfl, ?_⟩) (by assumption) ?_
        rotate_left
        · intro w5 hSw
          clear hSw
          go_simp
          all_goals with_reducible rfl
        (try simp only [List.getElem_toArray]); (try simp only [List.getElem_cons_succ]); (try simp only [List.getElem_cons_zero]); try simp only [Act.put, List.setIfInBounds_toArray, List.set_cons_zero, List.set_cons_succ]
        refine wpAnyH_take (i := 4) (oi := _) (v := ?_) rfl (by kernel_rfl) (by kernel_rfl) (by kernel_rfl) (fun _ _ _ h => h) (Or.inl ⟨by rfl, ?_⟩) (by assumption) ?_
        rotate_left
        · intro w5 hSw
          clear hSw
          go_simp
          all_goals with_reducible rfl
        (try simp only [List.getElem_toArray]); (try simp only [List.getElem_cons_succ]); (try simp only [List.getElem_cons_zero]); try simp only [Act.put, List.setIfInBounds_toArray, List.set_cons_zero, List.set_cons_succ]
        refine wpAnyH_take (i := 5) (oi := _) (v := ?_) rfl (by kernel_rfl) (by kernel_rfl) (by kernel_rfl) (fun _ _ _ h => h) (Or.inl ⟨by rfl, ?_⟩) (by assumption) ?_
        rotate_left
        · intro w5 hSw
          have hB : Below wr.heap.size wr w5 := hSw
          clear hSw
          obtain ⟨k0, k1, k2, k3, k4, k5, k6⟩ := HK.out
          have e0 : w5.cell? ⟨xb, xo + i * 7, none⟩ = some (.int .i64 r.now) := (hB.cell (p := ⟨xb, xo + i * 7, none⟩) (Nat.lt_of_lt_of_le hxb QR.out.size)).trans ((QR.out.cell (p := ⟨xb, xo + i * 7, none⟩) hxb).trans k0)
          have e1 : w5.cell? ⟨xb, xo + i * 7 + 1, none⟩ = some (.int .i64 r.round) := (hB.cell (p := ⟨xb, xo + i * 7 + 1, none⟩) (Nat.lt_of_lt_of_le hxb QR.out.size)).trans ((QR.out.cell (p := ⟨xb, xo + i * 7 + 1, none⟩) hxb).trans k1)
          have e2 : w5.cell? ⟨xb, xo + i * 7 + 2, none⟩ = some (.int .i64 r.rate) := (hB.cell (p := ⟨xb, xo + i * 7 + 2, none⟩) (Nat.lt_of_lt_of_le hxb QR.out.size)).trans ((QR.out.cell (p := ⟨xb, xo + i * 7 + 2, none⟩) hxb).trans k2)
          have e3 : w5.cell? ⟨xb, xo + i * 7 + 3, none⟩ = some (.int .i64 r.rtt) := (hB.cell (p := ⟨xb, xo + i * 7 + 3, none⟩) (Nat.lt_of_lt_of_le hxb QR.out.size)).trans ((QR.out.cell (p := ⟨xb, xo + i * 7 + 3, none⟩) hxb).trans k3)
          have e4 : w5.cell? ⟨xb, xo + i * 7 + 4, none⟩ = some (.int .i64 r.flight) := (hB.cell (p := ⟨xb, xo + i * 7 + 4, none⟩) (Nat.lt_of_lt_of_le hxb QR.out.size)).trans ((QR.out.cell (p := ⟨xb, xo + i * 7 + 4, none⟩) hxb).trans k4)
          have e5 : w5.cell? ⟨xb, xo + i * 7 + 5, none⟩ = some (.bool r.hasRate) := (hB.cell (p := ⟨xb, xo + i * 7 + 5, none⟩) (Nat.lt_of_lt_of_le hxb QR.out.size)).trans ((QR.out.cell (p := ⟨xb, xo + i * 7 + 5, none⟩) hxb).trans k5)
          have e6 : w5.cell? ⟨xb, xo + i * 7 + 6, none⟩ = some (.bool r.hasRtt) := (hB.cell (p := ⟨xb, xo + i * 7 + 6, none⟩) (Nat.lt_of_lt_of_le hxb QR.out.size)).trans ((QR.out.cell (p := ⟨xb, xo + i * 7 + 6, none⟩) hxb).trans k6)
          clear hB k0 k1 k2 k3 k4 k5 k6
          go_simp
          all_goals with_reducible rfl
        (try simp only [List.getElem_toArray]); (try simp only [List.getElem_cons_succ]); (try simp only [List.getElem_cons_zero]); try simp only [Act.put, List.setIfInBounds_toArray, List.set_cons_zero, List.set_cons_succ]
        refine wpAnyH_ready (rs := [6, 10]) (by kernel_rfl) (by simp) ?_
        refine (AllReadyH.cons (o := _) rfl (fun K hK => ?_) (AllReadyH.cons (o := _) rfl (fun K hK => ?_) AllReadyH.nil))
        · (try simp only [List.getElem_toArray]); (try simp only [List.getElem_cons_succ]); (try simp only [List.getElem_cons_zero])
          go_simp
          go_at_call 15
          (with_reducible refine (HA.out _ hHeld).mono ?_)
          rintro e5 W2 ⟨⟨t, hx, rfl, hO⟩, hb⟩
          have HB2 := Lib.hid ((show Below wr.heap.size wr _ from hHeld).trans (hb.mono (show Below wr.heap.size wr _ from hHeld).size))
          have HO := Lib.hid hO
          clear hb hO
          try dsimp only
          refine hK.out _ _ ?_ (fun hHeld => ?_)
          · exact HB2.out
          clear hK K
          (try simp only [List.getElem_toArray]); (try simp only [List.getElem_cons_succ]); (try simp only [List.getElem_cons_zero]); try simp only [Act.put, List.setIfInBounds_toArray, List.set_cons_zero, List.set_cons_succ]
          refine wpAnyH_take (i := 7) (oi := _) (v := ?_) rfl (by kernel_rfl) (by kernel_rfl) (by kernel_rfl) (fun _ _ _ h => h) (Or.inl ⟨by rfl, ?_⟩) (by assumption) ?_
          rotate_left
          · intro w hSw
            try dsimp only at hSw
            go_simp
            all_goals with_reducible rfl
          (try simp only [List.getElem_toArray]); (try simp only [List.getElem_cons_succ]); (try simp only [List.getElem_cons_zero]); try simp only [Act.put, List.setIfInBounds_toArray, List.set_cons_zero, List.set_cons_succ]
          refine wpAnyH_take (i := 8) (oi := _) (v := ?_) rfl (by kernel_rfl) (by kernel_rfl) (by kernel_rfl) (fun _ _ _ h => h) (Or.inl ⟨by rfl, ?_⟩) (by assumption) ?_
          rotate_left
          · intro w hSw
            try dsimp only at hSw
            go_simp
            all_goals with_reducible rfl
          (try simp only [List.getElem_toArray]); (try simp only [List.getElem_cons_succ]); (try simp only [List.getElem_cons_zero]); try simp only [Act.put, List.setIfInBounds_toArray, List.set_cons_zero, List.set_cons_succ]
          refine wpAnyH_take (i := 9) (oi := _) (v := ?_) rfl (by kernel_rfl) (by kernel_rfl) (by kernel_rfl) (fun _ _ _ h => h) (Or.inl ⟨by rfl, ?_⟩) (by assumption) ?_
          rotate_left
          · intro w hSw
            try dsimp only at hSw
            go_simp
            all_goals with_reducible rfl
          (try simp only [List.getElem_toArray]); (try simp only [List.getElem_cons_succ]); (try simp only [List.getElem_cons_zero]); try simp only [Act.put, List.setIfInBounds_toArray, List.set_cons_zero, List.set_cons_succ]
          refine wpAnyH_ready (rs := [10]) (by kernel_rfl) (by simp) ?_
          refine (AllReadyH.cons (o := _) rfl (fun K hK => ?_) AllReadyH.nil)
          · (try simp only [List.getElem_toArray]); (try simp only [List.getElem_cons_succ]); (try simp only [List.getElem_cons_zero])
            go_simp
            refine hK.out _ _ ?_ (fun hHeld => ?_)
            · exact HB2.out.alloc HB2.out.size _
            clear hK K
            (try simp only [List.getElem_toArray]); (try simp only [List.getElem_cons_succ]); (try simp only [List.getElem_cons_zero]); try simp only [Act.put, List.setIfInBounds_toArray, List.set_cons_zero, List.set_cons_succ]
            refine wpAnyH_ready (rs := [11]) (by kernel_rfl) (by simp) ?_
            refine (AllReadyH.cons (o := _) rfl (fun K hK => ?_) AllReadyH.nil)
            · (try simp only [List.getElem_toArray]); (try simp only [List.getElem_cons_succ]); (try simp only [List.getElem_cons_zero])
              go_simp
              refine hK.out _ _ ?_ (fun hHeld => ?_)
              · exact HB2.out.alloc HB2.out.size _
              clear hK K
              (try simp only [List.getElem_toArray]); (try simp only [List.getElem_cons_succ]); (try simp only [List.getElem_cons_zero]); try simp only [Act.put, List.setIfInBounds_toArray, List.set_cons_zero, List.set_cons_succ]
              refine wpAnyH_ready (rs := [12]) (by kernel_rfl) (by simp) ?_
              refine (AllReadyH.cons (o := _) rfl (fun K hK => ?_) AllReadyH.nil)
              · (try simp only [List.getElem_toArray]); (try simp only [List.getElem_cons_succ]); (try simp only [List.getElem_cons_zero])
                go_simp
                refine hK.out _ _ ?_ (fun hHeld => ?_)
                · exact HB2.out.alloc HB2.out.size _
                clear hK K
                (try simp only [List.getElem_toArray]); (try simp only [List.getElem_cons_succ]); (try simp only [List.getElem_cons_zero]); try simp only [Act.put, List.setIfInBounds_toArray, List.set_cons_zero, List.set_cons_succ]
                refine wpAnyH_done (by kernel_rfl) ?_ _
                go_wp2_with fail
                go_meet
                exact ⟨W2.heap.size, t, hx, rfl, rfl, blk_new W2 _, HB2.out.size, HB2.out.alloc HB2.out.size _, (HO.out.below ((Below.refl _ _).alloc (Nat.le_refl _) _)).mono (by first | exact Nat.le_refl _ | (show _ ≤ (Array.push _ _).size; simp))⟩
        · (try simp only [List.getElem_toArray]); (try simp only [List.getElem_cons_succ]); (try simp only [List.getElem_cons_zero])
          go_simp
          refine hK.out _ _ ?_ (fun hHeld => ?_)
          · exact ((Below.refl _ _).alloc (Nat.le_refl _) _).drew
          clear hK K
          (try simp only [List.getElem_toArray]); (try simp only [List.getElem_cons_succ]); (try simp only [List.getElem_cons_zero]); try simp only [Act.put, List.setIfInBounds_toArray, List.set_cons_zero, List.set_cons_succ]
          refine wpAnyH_ready (rs := [6]) (by kernel_rfl) (by simp) ?_
          refine (AllReadyH.cons (o := _) rfl (fun K hK => ?_) AllReadyH.nil)
          · (try simp only [List.getElem_toArray]); (try simp only [List.getElem_cons_succ]); (try simp only [List.getElem_cons_zero])
            go_simp
            go_at_call 15
            (with_reducible refine (HA.out _ hHeld).mono ?_)
            rintro e5 W2 ⟨⟨t, hx, rfl, hO⟩, hb⟩
            have HB2 := Lib.hid ((show Below wr.heap.size wr _ from hHeld).trans (hb.mono (show Below wr.heap.size wr _ from hHeld).size))
            have HO := Lib.hid hO
            have hbz := Lib.hid hb
            clear hb hO
            try dsimp only
            refine hK.out _ _ ?_ (fun hHeld => ?_)
            · exact HB2.out
            clear hK K
            (try simp only [List.getElem_toArray]); (try simp only [List.getElem_cons_succ]); (try simp only [List.getElem_cons_zero]); try simp only [Act.put, List.setIfInBounds_toArray, List.set_cons_zero, List.set_cons_succ]
            refine wpAnyH_take (i := 7) (oi := _) (v := ?_) rfl (by kernel_rfl) (by kernel_rfl) (by kernel_rfl) (fun _ _ _ h => h) (Or.inl ⟨by rfl, ?_⟩) (by assumption) ?_
            rotate_left
            · intro w hSw
              try dsimp only at hSw
              go_simp
              all_goals with_reducible rfl
            (try simp only [List.getElem_toArray]); (try simp only [List.getElem_cons_succ]); (try simp only [List.getElem_cons_zero]); try simp only [Act.put, List.setIfInBounds_toArray, List.set_cons_zero, List.set_cons_succ]
            refine wpAnyH_take (i := 8) (oi := _) (v := ?_) rfl (by kernel_rfl) (by kernel_rfl) (by kernel_rfl) (fun _ _ _ h => h) (Or.inl ⟨by rfl, ?_⟩) (by assumption) ?_
            rotate_left
            · intro w hSw
              try dsimp only at hSw
              go_simp
              all_goals with_reducible rfl
            (try simp only [List.getElem_toArray]); (try simp only [List.getElem_cons_succ]); (try simp only [List.getElem_cons_zero]); try simp only [Act.put, List.setIfInBounds_toArray, List.set_cons_zero, List.set_cons_succ]
            refine wpAnyH_take (i := 9) (oi := _) (v := ?_) rfl (by kernel_rfl) (by kernel_rfl) (by kernel_rfl) (fun _ _ _ h => h) (Or.inl ⟨by rfl, ?_⟩) (by assumption) ?_
            rotate_left
            · intro w hSw
              try dsimp only at hSw
              go_simp
              all_goals with_reducible rfl
            (try simp only [List.getElem_toArray]); (try simp only [List.getElem_cons_succ]); (try simp only [List.getElem_cons_zero]); try simp only [Act.put, List.setIfInBounds_toArray, List.set_cons_zero, List.set_cons_succ]
            have ZB := Lib.hid ((hbz.out.block _ (by simp)).trans (blk_drew (blk_new wr (.cells #[.int .i64 0, .slice none 0 0, .bool false, .int .i64 0, .int .i64 0, .bool false, .int .i64 0, .int .i64 0, .int .i64 0, .int .i64 0, .int .i64 0, .int .i64 0] 40))))
            have r0 := blk_cell ZB.out 0; have q0 := blk_free ZB.out 0
            have r1 := blk_cell ZB.out 1; have q1 := blk_free ZB.out 1
            have r2 := blk_cell ZB.out 2; have q2 := blk_free ZB.out 2
            have r3 := blk_cell ZB.out 3; have q3 := blk_free ZB.out 3
            have r4 := blk_cell ZB.out 4; have q4 := blk_free ZB.out 4
            have r5 := blk_cell ZB.out 5; have q5 := blk_free ZB.out 5
            have r6 := blk_cell ZB.out 6; have q6 := blk_free ZB.out 6
            have r7 := blk_cell ZB.out 7; have q7 := blk_free ZB.out 7
            have r8 := blk_cell ZB.out 8; have q8 := blk_free ZB.out 8
            have r9 := blk_cell ZB.out 9; have q9 := blk_free ZB.out 9
            have r10 := blk_cell ZB.out 10; have q10 := blk_free ZB.out 10
            have r11 := blk_cell ZB.out 11; have q11 := blk_free ZB.out 11
            refine wpAnyH_ready (rs := [11]) (by kernel_rfl) (by simp) ?_
            refine (AllReadyH.cons (o := _) rfl (fun K hK => ?_) AllReadyH.nil)
            · (try simp only [List.getElem_toArray]); (try simp only [List.getElem_cons_succ]); (try simp only [List.getElem_cons_zero])
              go_simp
              refine hK.out _ _ ?_ (fun hHeld => ?_)
              · have GW := (set12 W2 wr.heap.size 40 _ _ _ _ _ _ _ _ _ _ _ _ (.int .i64 t.phase) (.slice t.ra t.rl.length t.rc) (.bool t.hasRtt) (.int .i64 t.rtt) (.int .i64 t.rttAt) (.bool t.full) (.int .i64 t.fullRate) (.int .i64 t.fullRounds) (.int .i64 t.cycle) (.int .i64 t.cycleAt) (.int .i64 t.til) (.int .i64 t.round) ZB.out).2
                exact ⟨(GW.os).trans HB2.out.os, (GW.tape).trans HB2.out.tape, (GW.output).trans HB2.out.output, Nat.le_trans HB2.out.size GW.size, fun k hk => (GW.block k (Nat.lt_of_lt_of_le hk HB2.out.size) (fun e => by have := Option.some.inj e; omega)).trans (HB2.out.block k hk)⟩
              clear hK K
              (try simp only [List.getElem_toArray]); (try simp only [List.getElem_cons_succ]); (try simp only [List.getElem_cons_zero]); try simp only [Act.put, List.setIfInBounds_toArray, List.set_cons_zero, List.set_cons_succ]
              refine wpAnyH_ready (rs := [12]) (by kernel_rfl) (by simp) ?_
              refine (AllReadyH.cons (o := _) rfl (fun K hK => ?_) AllReadyH.nil)
              · (try simp only [List.getElem_toArray]); (try simp only [List.getElem_cons_succ]); (try simp only [List.getElem_cons_zero])
                go_simp
                refine hK.out _ _ ?_ (fun hHeld => ?_)
                · exact hHeld
                clear hK K
                (try simp only [List.getElem_toArray]); (try simp only [List.getElem_cons_succ]); (try simp only [List.getElem_cons_zero]); try simp only [Act.put, List.setIfInBounds_toArray, List.set_cons_zero, List.set_cons_succ]
                have SW := set12 W2 wr.heap.size 40 _ _ _ _ _ _ _ _ _ _ _ _ (.int .i64 t.phase) (.slice t.ra t.rl.length t.rc) (.bool t.hasRtt) (.int .i64 t.rtt) (.int .i64 t.rttAt) (.bool t.full) (.int .i64 t.fullRate) (.int .i64 t.fullRounds) (.int .i64 t.cycle) (.int .i64 t.cycleAt) (.int .i64 t.til) (.int .i64 t.round) ZB.out
                have hBX := hHeld
                refine wpAnyH_done (by kernel_rfl) ?_ _
                go_wp2_with fail
                go_meet
                exact ⟨wr.heap.size, t, hx, rfl, rfl, SW.1, Nat.le_refl _, hBX, (HO.out.grown SW.2 (fun g' e1 e2 => by have h2 := (HO.out.atB g' 0 e1).1; have h3 := Option.some.inj e2; rw [show ((wr.alloc (.cells #[.int .i64 0, .slice none 0 0, .bool false, .int .i64 0, .int .i64 0, .bool false, .int .i64 0, .int .i64 0, .int .i64 0, .int .i64 0, .int .i64 0, .int .i64 0] 40)).drew).heap.size = wr.heap.size + 1 by show ((wr.heap.push _)).size = _; simp] at h2; omega)).mono (by first | exact Nat.le_refl _ | (show _ ≤ (Array.push _ _).size; simp))⟩
      case rest =>
      obtain ⟨gt, t, hx, rfl, rfl, hS, hgt, hb, hO⟩ := hcut
      obtain ⟨V1, hVV⟩ : ∃ V, V = wc := ⟨_, rfl⟩
      subst hVV
      have S1 := Lib.hid ((hb.block _ (blk_lt SR.out)).trans SR.out)
      have T1 := Lib.hid ((hb.block _ (blk_lt TR.out)).trans TR.out)
      have G1 := Lib.hid hS
      have Q1 := Lib.hid (QR.out.trans (hb.mono QR.out.size))
      have O1 := Lib.hid (hO.mono hsz)
      have P1 := Lib.hid (PR.out.below hb)
      have X1 := Lib.hid (OR.out.below hb)
      have hgt2 : w.heap.size + 2 ≤ gt := by omega
      have BX := Lib.hid hx
      have HA2 := Lib.hid (fun (W : World) (hW : Below V1.heap.size V1 W) => rack_b b { s with ra := a2, rc := c2 } m ⟨r.now, r.round, r.rate, r.rtt, r.flight, r.hasRate, r.hasRtt⟩ W (show b = true ↔ OkE { s with ra := a2, rc := c2 } m ⟨r.now, r.round, r.rate, r.rtt, r.flight, r.hasRate, r.hasRtt⟩ from ⟨fun h => ⟨(HB.out.1 h).1, ⟨(HB.out.1 h).2.now, (HB.out.1 h).2.round, (HB.out.1 h).2.rate, (HB.out.1 h).2.rtt, (HB.out.1 h).2.flight, (HB.out.1 h).2.up, (HB.out.1 h).2.last⟩⟩, fun h => HB.out.2 ⟨h.1, ⟨h.2.now, h.2.round, h.2.rate, h.2.rtt, h.2.flight, h.2.up, h.2.last⟩⟩⟩) ⟨HV.out.phase, HV.out.cycle, HV.out.rates, HV.out.rtt, HV.out.rttAt, HV.out.fullRate, HV.out.fullRounds, HV.out.cycleAt, HV.out.til, HV.out.round⟩ (Sts.belowT (P1.out.sts encP) hW) P1.out.nilcap)
      rw [HEN.out] at HA2
      have hs1 : w.heap.size + 2 ≤ V1.heap.size := by have := hb.size; omega
      clear hS hb hO hx HA SR TR QR OR PR hgt hsz
      go_upto_region 7 with fail
      go_cut [10, 11] (fun (p q : Value) (wx : World) => ∃ (gu : Nat) (a3 : Option Addr) (cq : Nat), p = .pointer (some ⟨gu, 0, none⟩) ∧ q = .int .i64 en ∧ wx.heap[gu]? = some (.cells #[.int .i64 t.phase, .slice a3 t.rl.length cq, .bool t.hasRtt, .int .i64 t.rtt, .int .i64 t.rttAt, .bool t.full, .int .i64 t.fullRate, .int .i64 t.fullRounds, .int .i64 t.cycle, .int .i64 t.cycleAt, .int .i64 t.til, .int .i64 t.round] 42 (0, 0)) ∧ V1.heap.size ≤ gu ∧ Below V1.heap.size V1 wx ∧ OwnR 58 2 PC V1.heap.size a3 t.rl cq wx)
      case first =>
        refine wp_region_held_drew (S := fun W => Below V1.heap.size V1 W) (by kernel_rfl) (Below.refl _ _).drew (fun hHeld => ?_)
        refine wpAnyH_take (i := 0) (oi := _) (v := ?_) rfl (by kernel_rfl) (by kernel_rfl) (by kernel_rfl) (fun _ _ _ h => h) (Or.inl ⟨by rfl, ?_⟩) (by assumption) ?_
        rotate_left
        · intro w5 hSw
          have hB : Below V1.heap.size V1 w5 := hSw
          clear hSw
          have c0 := blk_cell ((hB.block _ (blk_lt T1.out)).trans T1.out) 0
          have c1 := blk_cell ((hB.block _ (blk_lt T1.out)).trans T1.out) 1
          have c2 := blk_cell ((hB.block _ (blk_lt T1.out)).trans T1.out) 2
          have c3 := blk_cell ((hB.block _ (blk_lt T1.out)).trans T1.out) 3
          have c4 := blk_cell ((hB.block _ (blk_lt T1.out)).trans T1.out) 4
          have c5 := blk_cell ((hB.block _ (blk_lt T1.out)).trans T1.out) 5
          have c6 := blk_cell ((hB.block _ (blk_lt T1.out)).trans T1.out) 6
          have c7 := blk_cell ((hB.block _ (blk_lt T1.out)).trans T1.out) 7
          have c8 := blk_cell ((hB.block _ (blk_lt T1.out)).trans T1.out) 8
          have c9 := blk_cell ((hB.block _ (blk_lt T1.out)).trans T1.out) 9
          have c10 := blk_cell ((hB.block _ (blk_lt T1.out)).trans T1.out) 10
          have c11 := blk_cell ((hB.block _ (blk_lt T1.out)).trans T1.out) 11
          clear hB
          go_simp
          all_goals with_reducible rfl
        (try simp only [List.getElem_toArray]); (try simp only [List.getElem_cons_succ]); (try simp only [List.getElem_cons_zero]); try simp only [Act.put, List.setIfInBounds_toArray, List.set_cons_zero, List.set_cons_succ]
        refine wpAnyH_take (i := 1) (oi := _) (v := ?_) rfl (by kernel_rfl) (by kernel_rfl) (by kernel_rfl) (fun _ _ _ h => h) (Or.inl ⟨by rfl, ?_⟩) (by assumption) ?_
        rotate_left
        · intro w5 hSw
          clear hSw
          go_simp
          all_goals with_reducible rfl
        (try simp only [List.getElem_toArray]); (try simp only [List.getElem_cons_succ]); (try simp only [List.getElem_cons_zero]); try simp only [Act.put, List.setIfInBounds_toArray, List.set_cons_zero, List.set_cons_succ]
        refine wpAnyH_take (i := 2) (oi := _) (v := ?_) rfl (by kernel_rfl) (by kernel_rfl) (by kernel_rfl) (fun _ _ _ h => h) (Or.inl ⟨by rfl, ?_⟩) (by assumption) ?_
        rotate_left
        · intro w5 hSw
          clear hSw
          go_simp
          all_goals with_reducible rfl
        (try simp only [List.getElem_toArray]); (try simp only [List.getElem_cons_succ]); (try simp only [List.getElem_cons_zero]); try simp only [Act.put, List.setIfInBounds_toArray, List.set_cons_zero, List.set_cons_succ]
        refine wpAnyH_take (i := 3) (oi := _) (v := ?_) rfl (by kernel_rfl) (by kernel_rfl) (by kernel_rfl) (fun _ _ _ h => h) (Or.inl ⟨by rfl, ?_⟩) (by assumption) ?_
        rotate_left
        · intro w5 hSw
          clear hSw
          go_simp
          all_goals with_reducible rfl
        (try simp only [List.getElem_toArray]); (try simp only [List.getElem_cons_succ]); (try simp only [List.getElem_cons_zero]); try simp only [Act.put, List.setIfInBounds_toArray, List.set_cons_zero, List.set_cons_succ]
        refine wpAnyH_take (i := 4) (oi := _) (v := ?_) rfl (by kernel_rfl) (by kernel_rfl) (by kernel_rfl) (fun _ _ _ h => h) (Or.inl ⟨by rfl, ?_⟩) (by assumption) ?_
        rotate_left
        · intro w5 hSw
          clear hSw
          go_simp
          all_goals with_reducible rfl
        (try simp only [List.getElem_toArray]); (try simp only [List.getElem_cons_succ]); (try simp only [List.getElem_cons_zero]); try simp only [Act.put, List.setIfInBounds_toArray, List.set_cons_zero, List.set_cons_succ]
        refine wpAnyH_take (i := 5) (oi := _) (v := ?_) rfl (by kernel_rfl) (by kernel_rfl) (by kernel_rfl) (fun _ _ _ h => h) (Or.inl ⟨by rfl, ?_⟩) (by assumption) ?_
        rotate_left
        · intro w5 hSw
          have hB : Below V1.heap.size V1 w5 := hSw
          clear hSw
          obtain ⟨k0, k1, k2, k3, k4, k5, k6⟩ := HK.out
          have e0 : w5.cell? ⟨xb, xo + i * 7, none⟩ = some (.int .i64 r.now) := (hB.cell (p := ⟨xb, xo + i * 7, none⟩) (Nat.lt_of_lt_of_le hxb Q1.out.size)).trans ((Q1.out.cell (p := ⟨xb, xo + i * 7, none⟩) hxb).trans k0)
          have e1 : w5.cell? ⟨xb, xo + i * 7 + 1, none⟩ = some (.int .i64 r.round) := (hB.cell (p := ⟨xb, xo + i * 7 + 1, none⟩) (Nat.lt_of_lt_of_le hxb Q1.out.size)).trans ((Q1.out.cell (p := ⟨xb, xo + i * 7 + 1, none⟩) hxb).trans k1)
          have e2 : w5.cell? ⟨xb, xo + i * 7 + 2, none⟩ = some (.int .i64 r.rate) := (hB.cell (p := ⟨xb, xo + i * 7 + 2, none⟩) (Nat.lt_of_lt_of_le hxb Q1.out.size)).trans ((Q1.out.cell (p := ⟨xb, xo + i * 7 + 2, none⟩) hxb).trans k2)
          have e3 : w5.cell? ⟨xb, xo + i * 7 + 3, none⟩ = some (.int .i64 r.rtt) := (hB.cell (p := ⟨xb, xo + i * 7 + 3, none⟩) (Nat.lt_of_lt_of_le hxb Q1.out.size)).trans ((Q1.out.cell (p := ⟨xb, xo + i * 7 + 3, none⟩) hxb).trans k3)
          have e4 : w5.cell? ⟨xb, xo + i * 7 + 4, none⟩ = some (.int .i64 r.flight) := (hB.cell (p := ⟨xb, xo + i * 7 + 4, none⟩) (Nat.lt_of_lt_of_le hxb Q1.out.size)).trans ((Q1.out.cell (p := ⟨xb, xo + i * 7 + 4, none⟩) hxb).trans k4)
          have e5 : w5.cell? ⟨xb, xo + i * 7 + 5, none⟩ = some (.bool r.hasRate) := (hB.cell (p := ⟨xb, xo + i * 7 + 5, none⟩) (Nat.lt_of_lt_of_le hxb Q1.out.size)).trans ((Q1.out.cell (p := ⟨xb, xo + i * 7 + 5, none⟩) hxb).trans k5)
          have e6 : w5.cell? ⟨xb, xo + i * 7 + 6, none⟩ = some (.bool r.hasRtt) := (hB.cell (p := ⟨xb, xo + i * 7 + 6, none⟩) (Nat.lt_of_lt_of_le hxb Q1.out.size)).trans ((Q1.out.cell (p := ⟨xb, xo + i * 7 + 6, none⟩) hxb).trans k6)
          clear hB k0 k1 k2 k3 k4 k5 k6
          go_simp
          all_goals with_reducible rfl
        (try simp only [List.getElem_toArray]); (try simp only [List.getElem_cons_succ]); (try simp only [List.getElem_cons_zero]); try simp only [Act.put, List.setIfInBounds_toArray, List.set_cons_zero, List.set_cons_succ]
        refine wpAnyH_ready (rs := [6, 10]) (by kernel_rfl) (by simp) ?_
        refine (AllReadyH.cons (o := _) rfl (fun K hK => ?_) (AllReadyH.cons (o := _) rfl (fun K hK => ?_) AllReadyH.nil))
        · (try simp only [List.getElem_toArray]); (try simp only [List.getElem_cons_succ]); (try simp only [List.getElem_cons_zero])
          go_simp
          go_at_call 16
          (with_reducible refine (HA2.out _ hHeld).mono ?_)
          rintro e5 W2 ⟨⟨u, hx, he, hO⟩, hb⟩
          have hu := behind_two BX.out hx
          obtain ⟨a3, cq, hu2⟩ : ∃ a3 cq, u = { t with ra := a3, rc := cq } := ⟨_, _, hu⟩
          subst hu2
          dsimp only at he hO
          subst he
          clear hu hx
          have HB2 := Lib.hid ((show Below V1.heap.size V1 _ from hHeld).trans (hb.mono (show Below V1.heap.size V1 _ from hHeld).size))
          have HO := Lib.hid hO
          clear hb hO
          try dsimp only
          refine hK.out _ _ ?_ (fun hHeld => ?_)
          · exact HB2.out
          clear hK K
          (try simp only [List.getElem_toArray]); (try simp only [List.getElem_cons_succ]); (try simp only [List.getElem_cons_zero]); try simp only [Act.put, List.setIfInBounds_toArray, List.set_cons_zero, List.set_cons_succ]
          refine wpAnyH_take (i := 7) (oi := _) (v := ?_) rfl (by kernel_rfl) (by kernel_rfl) (by kernel_rfl) (fun _ _ _ h => h) (Or.inl ⟨by rfl, ?_⟩) (by assumption) ?_
          rotate_left
          · intro w hSw
            try dsimp only at hSw
            go_simp
            all_goals with_reducible rfl
          (try simp only [List.getElem_toArray]); (try simp only [List.getElem_cons_succ]); (try simp only [List.getElem_cons_zero]); try simp only [Act.put, List.setIfInBounds_toArray, List.set_cons_zero, List.set_cons_succ]
          refine wpAnyH_take (i := 8) (oi := _) (v := ?_) rfl (by kernel_rfl) (by kernel_rfl) (by kernel_rfl) (fun _ _ _ h => h) (Or.inl ⟨by rfl, ?_⟩) (by assumption) ?_
          rotate_left
          · intro w hSw
            try dsimp only at hSw
            go_simp
            all_goals with_reducible rfl
          (try simp only [List.getElem_toArray]); (try simp only [List.getElem_cons_succ]); (try simp only [List.getElem_cons_zero]); try simp only [Act.put, List.setIfInBounds_toArray, List.set_cons_zero, List.set_cons_succ]
          refine wpAnyH_take (i := 9) (oi := _) (v := ?_) rfl (by kernel_rfl) (by kernel_rfl) (by kernel_rfl) (fun _ _ _ h => h) (Or.inl ⟨by rfl, ?_⟩) (by assumption) ?_
          rotate_left
          · intro w hSw
            try dsimp only at hSw
            go_simp
            all_goals with_reducible rfl
          (try simp only [List.getElem_toArray]); (try simp only [List.getElem_cons_succ]); (try simp only [List.getElem_cons_zero]); try simp only [Act.put, List.setIfInBounds_toArray, List.set_cons_zero, List.set_cons_succ]
          refine wpAnyH_ready (rs := [10]) (by kernel_rfl) (by simp) ?_
          refine (AllReadyH.cons (o := _) rfl (fun K hK => ?_) AllReadyH.nil)
          · (try simp only [List.getElem_toArray]); (try simp only [List.getElem_cons_succ]); (try simp only [List.getElem_cons_zero])
            go_simp
            refine hK.out _ _ ?_ (fun hHeld => ?_)
            · exact HB2.out.alloc HB2.out.size _
            clear hK K
            (try simp only [List.getElem_toArray]); (try simp only [List.getElem_cons_succ]); (try simp only [List.getElem_cons_zero]); try simp only [Act.put, List.setIfInBounds_toArray, List.set_cons_zero, List.set_cons_succ]
            refine wpAnyH_ready (rs := [11]) (by kernel_rfl) (by simp) ?_
            refine (AllReadyH.cons (o := _) rfl (fun K hK => ?_) AllReadyH.nil)
            · (try simp only [List.getElem_toArray]); (try simp only [List.getElem_cons_succ]); (try simp only [List.getElem_cons_zero])
              go_simp
              refine hK.out _ _ ?_ (fun hHeld => ?_)
              · exact HB2.out.alloc HB2.out.size _
              clear hK K
              (try simp only [List.getElem_toArray]); (try simp only [List.getElem_cons_succ]); (try simp only [List.getElem_cons_zero]); try simp only [Act.put, List.setIfInBounds_toArray, List.set_cons_zero, List.set_cons_succ]
              refine wpAnyH_ready (rs := [12]) (by kernel_rfl) (by simp) ?_
              refine (AllReadyH.cons (o := _) rfl (fun K hK => ?_) AllReadyH.nil)
              · (try simp only [List.getElem_toArray]); (try simp only [List.getElem_cons_succ]); (try simp only [List.getElem_cons_zero])
                go_simp
                refine hK.out _ _ ?_ (fun hHeld => ?_)
                · exact HB2.out.alloc HB2.out.size _
                clear hK K
                (try simp only [List.getElem_toArray]); (try simp only [List.getElem_cons_succ]); (try simp only [List.getElem_cons_zero]); try simp only [Act.put, List.setIfInBounds_toArray, List.set_cons_zero, List.set_cons_succ]
                refine wpAnyH_done (by kernel_rfl) ?_ _
                go_wp2_with fail
                go_meet
                exact ⟨W2.heap.size, a3, cq, rfl, rfl, blk_new W2 _, HB2.out.size, HB2.out.alloc HB2.out.size _, (HO.out.below ((Below.refl _ _).alloc (Nat.le_refl _) _)).mono (by first | exact Nat.le_refl _ | (show _ ≤ (Array.push _ _).size; simp))⟩
        · (try simp only [List.getElem_toArray]); (try simp only [List.getElem_cons_succ]); (try simp only [List.getElem_cons_zero])
          go_simp
          refine hK.out _ _ ?_ (fun hHeld => ?_)
          · exact ((Below.refl _ _).alloc (Nat.le_refl _) _).drew
          clear hK K
          (try simp only [List.getElem_toArray]); (try simp only [List.getElem_cons_succ]); (try simp only [List.getElem_cons_zero]); try simp only [Act.put, List.setIfInBounds_toArray, List.set_cons_zero, List.set_cons_succ]
          refine wpAnyH_ready (rs := [6]) (by kernel_rfl) (by simp) ?_
          refine (AllReadyH.cons (o := _) rfl (fun K hK => ?_) AllReadyH.nil)
          · (try simp only [List.getElem_toArray]); (try simp only [List.getElem_cons_succ]); (try simp only [List.getElem_cons_zero])
            go_simp
            go_at_call 16
            (with_reducible refine (HA2.out _ hHeld).mono ?_)
            rintro e5 W2 ⟨⟨u, hx, he, hO⟩, hb⟩
            have hu := behind_two BX.out hx
            obtain ⟨a3, cq, hu2⟩ : ∃ a3 cq, u = { t with ra := a3, rc := cq } := ⟨_, _, hu⟩
            subst hu2
            dsimp only at he hO
            subst he
            clear hu hx
            have HB2 := Lib.hid ((show Below V1.heap.size V1 _ from hHeld).trans (hb.mono (show Below V1.heap.size V1 _ from hHeld).size))
            have HO := Lib.hid hO
            have hbz := Lib.hid hb
            clear hb hO
            try dsimp only
            refine hK.out _ _ ?_ (fun hHeld => ?_)
            · exact HB2.out
            clear hK K
            (try simp only [List.getElem_toArray]); (try simp only [List.getElem_cons_succ]); (try simp only [List.getElem_cons_zero]); try simp only [Act.put, List.setIfInBounds_toArray, List.set_cons_zero, List.set_cons_succ]
            refine wpAnyH_take (i := 7) (oi := _) (v := ?_) rfl (by kernel_rfl) (by kernel_rfl) (by kernel_rfl) (fun _ _ _ h => h) (Or.inl ⟨by rfl, ?_⟩) (by assumption) ?_
            rotate_left
            · intro w hSw
              try dsimp only at hSw
              go_simp
              all_goals with_reducible rfl
            (try simp only [List.getElem_toArray]); (try simp only [List.getElem_cons_succ]); (try simp only [List.getElem_cons_zero]); try simp only [Act.put, List.setIfInBounds_toArray, List.set_cons_zero, List.set_cons_succ]
            refine wpAnyH_take (i := 8) (oi := _) (v := ?_) rfl (by kernel_rfl) (by kernel_rfl) (by kernel_rfl) (fun _ _ _ h => h) (Or.inl ⟨by rfl, ?_⟩) (by assumption) ?_
            rotate_left
            · intro w hSw
              try dsimp only at hSw
              go_simp
              all_goals with_reducible rfl
            (try simp only [List.getElem_toArray]); (try simp only [List.getElem_cons_succ]); (try simp only [List.getElem_cons_zero]); try simp only [Act.put, List.setIfInBounds_toArray, List.set_cons_zero, List.set_cons_succ]
            refine wpAnyH_take (i := 9) (oi := _) (v := ?_) rfl (by kernel_rfl) (by kernel_rfl) (by kernel_rfl) (fun _ _ _ h => h) (Or.inl ⟨by rfl, ?_⟩) (by assumption) ?_
            rotate_left
            · intro w hSw
              try dsimp only at hSw
              go_simp
              all_goals with_reducible rfl
            (try simp only [List.getElem_toArray]); (try simp only [List.getElem_cons_succ]); (try simp only [List.getElem_cons_zero]); try simp only [Act.put, List.setIfInBounds_toArray, List.set_cons_zero, List.set_cons_succ]
            have ZB := Lib.hid ((hbz.out.block _ (by simp)).trans (blk_drew (blk_new V1 (.cells #[.int .i64 0, .slice none 0 0, .bool false, .int .i64 0, .int .i64 0, .bool false, .int .i64 0, .int .i64 0, .int .i64 0, .int .i64 0, .int .i64 0, .int .i64 0] 42))))
            have r0 := blk_cell ZB.out 0; have q0 := blk_free ZB.out 0
            have r1 := blk_cell ZB.out 1; have q1 := blk_free ZB.out 1
            have r2 := blk_cell ZB.out 2; have q2 := blk_free ZB.out 2
            have r3 := blk_cell ZB.out 3; have q3 := blk_free ZB.out 3
            have r4 := blk_cell ZB.out 4; have q4 := blk_free ZB.out 4
            have r5 := blk_cell ZB.out 5; have q5 := blk_free ZB.out 5
            have r6 := blk_cell ZB.out 6; have q6 := blk_free ZB.out 6
            have r7 := blk_cell ZB.out 7; have q7 := blk_free ZB.out 7
            have r8 := blk_cell ZB.out 8; have q8 := blk_free ZB.out 8
            have r9 := blk_cell ZB.out 9; have q9 := blk_free ZB.out 9
            have r10 := blk_cell ZB.out 10; have q10 := blk_free ZB.out 10
            have r11 := blk_cell ZB.out 11; have q11 := blk_free ZB.out 11
            refine wpAnyH_ready (rs := [11]) (by kernel_rfl) (by simp) ?_
            refine (AllReadyH.cons (o := _) rfl (fun K hK => ?_) AllReadyH.nil)
            · (try simp only [List.getElem_toArray]); (try simp only [List.getElem_cons_succ]); (try simp only [List.getElem_cons_zero])
              go_simp
              refine hK.out _ _ ?_ (fun hHeld => ?_)
              · have GW := (set12 W2 V1.heap.size 42 _ _ _ _ _ _ _ _ _ _ _ _ (.int .i64 t.phase) (.slice a3 t.rl.length cq) (.bool t.hasRtt) (.int .i64 t.rtt) (.int .i64 t.rttAt) (.bool t.full) (.int .i64 t.fullRate) (.int .i64 t.fullRounds) (.int .i64 t.cycle) (.int .i64 t.cycleAt) (.int .i64 t.til) (.int .i64 t.round) ZB.out).2
                exact ⟨(GW.os).trans HB2.out.os, (GW.tape).trans HB2.out.tape, (GW.output).trans HB2.out.output, Nat.le_trans HB2.out.size GW.size, fun k hk => (GW.block k (Nat.lt_of_lt_of_le hk HB2.out.size) (fun e => by have := Option.some.inj e; omega)).trans (HB2.out.block k hk)⟩
              clear hK K
              (try simp only [List.getElem_toArray]); (try simp only [List.getElem_cons_succ]); (try simp only [List.getElem_cons_zero]); try simp only [Act.put, List.setIfInBounds_toArray, List.set_cons_zero, List.set_cons_succ]
              refine wpAnyH_ready (rs := [12]) (by kernel_rfl) (by simp) ?_
              refine (AllReadyH.cons (o := _) rfl (fun K hK => ?_) AllReadyH.nil)
              · (try simp only [List.getElem_toArray]); (try simp only [List.getElem_cons_succ]); (try simp only [List.getElem_cons_zero])
                go_simp
                refine hK.out _ _ ?_ (fun hHeld => ?_)
                · exact hHeld
                clear hK K
                (try simp only [List.getElem_toArray]); (try simp only [List.getElem_cons_succ]); (try simp only [List.getElem_cons_zero]); try simp only [Act.put, List.setIfInBounds_toArray, List.set_cons_zero, List.set_cons_succ]
                have SW := set12 W2 V1.heap.size 42 _ _ _ _ _ _ _ _ _ _ _ _ (.int .i64 t.phase) (.slice a3 t.rl.length cq) (.bool t.hasRtt) (.int .i64 t.rtt) (.int .i64 t.rttAt) (.bool t.full) (.int .i64 t.fullRate) (.int .i64 t.fullRounds) (.int .i64 t.cycle) (.int .i64 t.cycleAt) (.int .i64 t.til) (.int .i64 t.round) ZB.out
                have hBX := hHeld
                refine wpAnyH_done (by kernel_rfl) ?_ _
                go_wp2_with fail
                go_meet
                exact ⟨V1.heap.size, a3, cq, rfl, rfl, SW.1, Nat.le_refl _, hBX, (HO.out.grown SW.2 (fun g' e1 e2 => by have h2 := (HO.out.atB g' 0 e1).1; have h3 := Option.some.inj e2; rw [show ((V1.alloc (.cells #[.int .i64 0, .slice none 0 0, .bool false, .int .i64 0, .int .i64 0, .bool false, .int .i64 0, .int .i64 0, .int .i64 0, .int .i64 0, .int .i64 0, .int .i64 0] 42)).drew).heap.size = V1.heap.size + 1 by show ((V1.heap.push _)).size = _; simp] at h2; omega)).mono (by first | exact Nat.le_refl _ | (show _ ≤ (Array.push _ _).size; simp))⟩
      case rest =>
      obtain ⟨gu, a3, cq, rfl, rfl, hS, hgu, hb, hO⟩ := hcut
      obtain ⟨V2, hVV⟩ : ∃ V, V = wc := ⟨_, rfl⟩
      subst hVV
      have S2 := Lib.hid ((hb.block _ (blk_lt S1.out)).trans S1.out)
      have T2 := Lib.hid ((hb.block _ (blk_lt T1.out)).trans T1.out)
      have G2 := Lib.hid ((hb.block _ (blk_lt G1.out)).trans G1.out)
      have U2 := Lib.hid hS
      have Q2 := Lib.hid (Q1.out.trans (hb.mono Q1.out.size))
      have O2 := Lib.hid (O1.out.below hb)
      have P2 := Lib.hid (hO.mono hs1)
      have X2 := Lib.hid (X1.out.below hb)
      have Y2 := Lib.hid (P1.out.below hb)
      have hgu2 : w.heap.size + 2 ≤ gu := by omega
      have hne : gt ≠ gu := by have := blk_lt G1.out; omega
      have TL : Hid (t.rl.length ≤ 10) := Lib.hid (by
        rcases BX.out with ⟨h1, h2⟩ | ⟨h1, h2⟩
        · exact (Behind.sv (.inl ⟨h1, h2⟩) HV.out HB.out h1).rates.1
        · rw [h2]; decide)
      clear hS hb hO S1 T1 G1 Q1 O1 P1 HA2 hgu
      have c0 := blk_cell G2.out 0
      have d0 := blk_cell U2.out 0
      have c1 := blk_cell G2.out 1
      have d1 := blk_cell U2.out 1
      have c2 := blk_cell G2.out 2
      have d2 := blk_cell U2.out 2
      have c3 := blk_cell G2.out 3
      have d3 := blk_cell U2.out 3
      have c4 := blk_cell G2.out 4
      have d4 := blk_cell U2.out 4
      have c5 := blk_cell G2.out 5
      have d5 := blk_cell U2.out 5
      have c6 := blk_cell G2.out 6
      have d6 := blk_cell U2.out 6
      have c7 := blk_cell G2.out 7
      have d7 := blk_cell U2.out 7
      have c8 := blk_cell G2.out 8
      have d8 := blk_cell U2.out 8
      have c9 := blk_cell G2.out 9
      have d9 := blk_cell U2.out 9
      have c10 := blk_cell G2.out 10
      have d10 := blk_cell U2.out 10
      have c11 := blk_cell G2.out 11
      have d11 := blk_cell U2.out 11
      go_upto_region 8 with fail
      go_wp2_with fail
      refine (same_one t a3 cq V2 TL.out (O2.out.sts encP) (P2.out.sts encP)).mono ?_
      rintro e V3 ⟨rfl, b5⟩
      have S3 := Lib.hid ((b5.block _ (blk_lt S2.out)).trans S2.out)
      have T3 := Lib.hid ((b5.block _ (blk_lt T2.out)).trans T2.out)
      have G3 := Lib.hid ((b5.block _ (blk_lt G2.out)).trans G2.out)
      have U3 := Lib.hid ((b5.block _ (blk_lt U2.out)).trans U2.out)
      have Q3 := Lib.hid (Q2.out.trans (b5.mono Q2.out.size))
      have O3 := Lib.hid (O2.out.below b5)
      have P3 := Lib.hid (P2.out.below b5)
      have X3 := Lib.hid (X2.out.below b5)
      have Y3 := Lib.hid (Y2.out.below b5)
      clear b5 S2 T2 G2 U2 Q2 O2 P2 c0 d0 c1 d1 c2 d2 c3 d3 c4 d4 c5 d5 c6 d6 c7 d7 c8 d8 c9 d9 c10 d10 c11 d11
      go_upto_region 10 with (first | (go_at_call 13; refine (num_any _ _).mono ?_; rintro e w' ⟨rfl, rfl⟩))
      cases b with
      | false =>
        obtain rfl : en = 4 := HEN.out.symm
        go_wp2
        go_roundw
        case rel => exact ⟨i + 1, s, a2, c2, by omega, by go_num, HV, X3.out, Y3.out, S3.out, T3.out, Q3.out⟩
        case measure => simp [intOf]; omega
      | true =>
        obtain rfl : en = 0 := HEN.out.symm
        have TV : Hid (SV t) := Lib.hid (Behind.sv BX.out HV.out HB.out rfl)
        go_upto_region 11 with fail
        go_cut [] (fun (wx : World) => wx.heap[w.heap.size]? = some (.cells #[.int .i64 t.phase, .slice t.ra t.rl.length t.rc, .bool t.hasRtt, .int .i64 t.rtt, .int .i64 t.rttAt, .bool t.full, .int .i64 t.fullRate, .int .i64 t.fullRounds, .int .i64 t.cycle, .int .i64 t.cycleAt, .int .i64 t.til, .int .i64 t.round] 40 (0, 0)) ∧ wx.heap[w.heap.size + 1]? = some (.cells #[.int .i64 t.phase, .slice a3 t.rl.length cq, .bool t.hasRtt, .int .i64 t.rtt, .int .i64 t.rttAt, .bool t.full, .int .i64 t.fullRate, .int .i64 t.fullRounds, .int .i64 t.cycle, .int .i64 t.cycleAt, .int .i64 t.til, .int .i64 t.round] 42 (0, 0)) ∧ OwnR 36 2 PC (w.heap.size + 2) t.ra t.rl t.rc wx ∧ OwnR 58 2 PC (w.heap.size + 2) a3 t.rl cq wx ∧ Below w.heap.size w wx)
        case first =>
          refine wp_region_held_drew (S := fun W => W.heap[gt]? = some (.cells #[.int .i64 t.phase, .slice t.ra t.rl.length t.rc, .bool t.hasRtt, .int .i64 t.rtt, .int .i64 t.rttAt, .bool t.full, .int .i64 t.fullRate, .int .i64 t.fullRounds, .int .i64 t.cycle, .int .i64 t.cycleAt, .int .i64 t.til, .int .i64 t.round] 40 (0, 0)) ∧ W.heap[gu]? = some (.cells #[.int .i64 t.phase, .slice a3 t.rl.length cq, .bool t.hasRtt, .int .i64 t.rtt, .int .i64 t.rttAt, .bool t.full, .int .i64 t.fullRate, .int .i64 t.fullRounds, .int .i64 t.cycle, .int .i64 t.cycleAt, .int .i64 t.til, .int .i64 t.round] 42 (0, 0))) (by kernel_rfl) ⟨blk_drew G3.out, blk_drew U3.out⟩ (fun hHeld => ?_)
          refine wpAnyH_take (i := 0) (oi := _) (v := ?_) rfl (by kernel_rfl) (by kernel_rfl) (by kernel_rfl) (fun _ _ _ h => h) (Or.inl ⟨by rfl, ?_⟩) (by assumption) ?_
          rotate_left
          · intro w5 hSw
            have hB : w5.heap[gt]? = some (.cells #[.int .i64 t.phase, .slice t.ra t.rl.length t.rc, .bool t.hasRtt, .int .i64 t.rtt, .int .i64 t.rttAt, .bool t.full, .int .i64 t.fullRate, .int .i64 t.fullRounds, .int .i64 t.cycle, .int .i64 t.cycleAt, .int .i64 t.til, .int .i64 t.round] 40 (0, 0)) := hSw.1
            clear hSw
            have c0 := blk_cell hB 0
            have c1 := blk_cell hB 1
            have c2 := blk_cell hB 2
            have c3 := blk_cell hB 3
            have c4 := blk_cell hB 4
            have c5 := blk_cell hB 5
            have c6 := blk_cell hB 6
            have c7 := blk_cell hB 7
            have c8 := blk_cell hB 8
            have c9 := blk_cell hB 9
            have c10 := blk_cell hB 10
            have c11 := blk_cell hB 11
            clear hB
            go_simp
            all_goals with_reducible rfl
          (try simp only [List.getElem_toArray]); (try simp only [List.getElem_cons_succ]); (try simp only [List.getElem_cons_zero]); try simp only [Act.put, List.setIfInBounds_toArray, List.set_cons_zero, List.set_cons_succ]
          refine wpAnyH_take (i := 1) (oi := _) (v := ?_) rfl (by kernel_rfl) (by kernel_rfl) (by kernel_rfl) (fun _ _ _ h => h) (Or.inl ⟨by rfl, ?_⟩) (by assumption) ?_
          rotate_left
          · intro w5 hSw
            have hB : w5.heap[gu]? = some (.cells #[.int .i64 t.phase, .slice a3 t.rl.length cq, .bool t.hasRtt, .int .i64 t.rtt, .int .i64 t.rttAt, .bool t.full, .int .i64 t.fullRate, .int .i64 t.fullRounds, .int .i64 t.cycle, .int .i64 t.cycleAt, .int .i64 t.til, .int .i64 t.round] 42 (0, 0)) := hSw.2
            clear hSw
            have c0 := blk_cell hB 0
            have c1 := blk_cell hB 1
            have c2 := blk_cell hB 2
            have c3 := blk_cell hB 3
            have c4 := blk_cell hB 4
            have c5 := blk_cell hB 5
            have c6 := blk_cell hB 6
            have c7 := blk_cell hB 7
            have c8 := blk_cell hB 8
            have c9 := blk_cell hB 9
            have c10 := blk_cell hB 10
            have c11 := blk_cell hB 11
            clear hB
            go_simp
            all_goals with_reducible rfl
          (try simp only [List.getElem_toArray]); (try simp only [List.getElem_cons_succ]); (try simp only [List.getElem_cons_zero]); try simp only [Act.put, List.setIfInBounds_toArray, List.set_cons_zero, List.set_cons_succ]
          refine wpAnyH_ready (rs := [2]) (by kernel_rfl) (by simp) ?_
          refine (AllReadyH.cons (o := _) rfl (fun K hK => ?_) AllReadyH.nil)
          · have x0 := blk_cell S3.out 0; have xf0 := blk_free S3.out 0
            have x1 := blk_cell S3.out 1; have xf1 := blk_free S3.out 1
            have x2 := blk_cell S3.out 2; have xf2 := blk_free S3.out 2
            have x3 := blk_cell S3.out 3; have xf3 := blk_free S3.out 3
            have x4 := blk_cell S3.out 4; have xf4 := blk_free S3.out 4
            have x5 := blk_cell S3.out 5; have xf5 := blk_free S3.out 5
            have x6 := blk_cell S3.out 6; have xf6 := blk_free S3.out 6
            have x7 := blk_cell S3.out 7; have xf7 := blk_free S3.out 7
            have x8 := blk_cell S3.out 8; have xf8 := blk_free S3.out 8
            have x9 := blk_cell S3.out 9; have xf9 := blk_free S3.out 9
            have x10 := blk_cell S3.out 10; have xf10 := blk_free S3.out 10
            have x11 := blk_cell S3.out 11; have xf11 := blk_free S3.out 11
            (try simp only [List.getElem_toArray]); (try simp only [List.getElem_cons_succ]); (try simp only [List.getElem_cons_zero])
            go_simp
            refine hK.out _ _ ?_ (fun hHeld => ?_)
            · have GW := (set12 V3 (w.heap.size) 40 _ _ _ _ _ _ _ _ _ _ _ _ (.int .i64 t.phase) (.slice t.ra t.rl.length t.rc) (.bool t.hasRtt) (.int .i64 t.rtt) (.int .i64 t.rttAt) (.bool t.full) (.int .i64 t.fullRate) (.int .i64 t.fullRounds) (.int .i64 t.cycle) (.int .i64 t.cycleAt) (.int .i64 t.til) (.int .i64 t.round) S3.out).2
              exact ⟨blk_drew (gr_blk G3.out GW (by omega)), blk_drew (gr_blk U3.out GW (by omega))⟩
            clear hK K
            (try simp only [List.getElem_toArray]); (try simp only [List.getElem_cons_succ]); (try simp only [List.getElem_cons_zero]); try simp only [Act.put, List.setIfInBounds_toArray, List.set_cons_zero, List.set_cons_succ]
            obtain ⟨RW, GW⟩ := set12 V3 (w.heap.size) 40 _ _ _ _ _ _ _ _ _ _ _ _ (.int .i64 t.phase) (.slice t.ra t.rl.length t.rc) (.bool t.hasRtt) (.int .i64 t.rtt) (.int .i64 t.rttAt) (.bool t.full) (.int .i64 t.fullRate) (.int .i64 t.fullRounds) (.int .i64 t.cycle) (.int .i64 t.cycleAt) (.int .i64 t.til) (.int .i64 t.round) S3.out
            have X4 := Lib.hid RW
            have Y4 := Lib.hid (gr_blk T3.out GW (by omega))
            have G4 := Lib.hid (gr_blk G3.out GW (by omega))
            have U4 := Lib.hid (gr_blk U3.out GW (by omega))
            have O4 := Lib.hid (O3.out.grownN GW (by omega))
            have P4 := Lib.hid (P3.out.grownN GW (by omega))
            have Q4 := Lib.hid (below_gr3 Q3.out (by omega) GW)
            clear RW GW
            clear x0 xf0 x1 xf1 x2 xf2 x3 xf3 x4 xf4 x5 xf5 x6 xf6 x7 xf7 x8 xf8 x9 xf9 x10 xf10 x11 xf11
            generalize ((((((((((((V3).setCell ⟨w.heap.size, 0, none⟩ (.int .i64 t.phase)).setCell ⟨w.heap.size, 1, none⟩ (.slice t.ra t.rl.length t.rc)).setCell ⟨w.heap.size, 2, none⟩ (.bool t.hasRtt)).setCell ⟨w.heap.size, 3, none⟩ (.int .i64 t.rtt)).setCell ⟨w.heap.size, 4, none⟩ (.int .i64 t.rttAt)).setCell ⟨w.heap.size, 5, none⟩ (.bool t.full)).setCell ⟨w.heap.size, 6, none⟩ (.int .i64 t.fullRate)).setCell ⟨w.heap.size, 7, none⟩ (.int .i64 t.fullRounds)).setCell ⟨w.heap.size, 8, none⟩ (.int .i64 t.cycle)).setCell ⟨w.heap.size, 9, none⟩ (.int .i64 t.cycleAt)).setCell ⟨w.heap.size, 10, none⟩ (.int .i64 t.til)).setCell ⟨w.heap.size, 11, none⟩ (.int .i64 t.round) = V4 at X4 Y4 G4 U4 O4 P4 Q4 hHeld ⊢
            refine wpAnyH_ready (rs := [3]) (by kernel_rfl) (by simp) ?_
            refine (AllReadyH.cons (o := _) rfl (fun K hK => ?_) AllReadyH.nil)
            · have y0 := blk_cell Y4.out 0; have yf0 := blk_free Y4.out 0
              have y1 := blk_cell Y4.out 1; have yf1 := blk_free Y4.out 1
              have y2 := blk_cell Y4.out 2; have yf2 := blk_free Y4.out 2
              have y3 := blk_cell Y4.out 3; have yf3 := blk_free Y4.out 3
              have y4 := blk_cell Y4.out 4; have yf4 := blk_free Y4.out 4
              have y5 := blk_cell Y4.out 5; have yf5 := blk_free Y4.out 5
              have y6 := blk_cell Y4.out 6; have yf6 := blk_free Y4.out 6
              have y7 := blk_cell Y4.out 7; have yf7 := blk_free Y4.out 7
              have y8 := blk_cell Y4.out 8; have yf8 := blk_free Y4.out 8
              have y9 := blk_cell Y4.out 9; have yf9 := blk_free Y4.out 9
              have y10 := blk_cell Y4.out 10; have yf10 := blk_free Y4.out 10
              have y11 := blk_cell Y4.out 11; have yf11 := blk_free Y4.out 11
              (try simp only [List.getElem_toArray]); (try simp only [List.getElem_cons_succ]); (try simp only [List.getElem_cons_zero])
              go_simp
              refine hK.out _ _ ?_ (fun hHeld => ?_)
              · have GW := (set12 V4 (w.heap.size + 1) 42 _ _ _ _ _ _ _ _ _ _ _ _ (.int .i64 t.phase) (.slice a3 t.rl.length cq) (.bool t.hasRtt) (.int .i64 t.rtt) (.int .i64 t.rttAt) (.bool t.full) (.int .i64 t.fullRate) (.int .i64 t.fullRounds) (.int .i64 t.cycle) (.int .i64 t.cycleAt) (.int .i64 t.til) (.int .i64 t.round) Y4.out).2
                exact ⟨blk_drew (gr_blk G4.out GW (by omega)), blk_drew (gr_blk U4.out GW (by omega))⟩
              clear hK K
              (try simp only [List.getElem_toArray]); (try simp only [List.getElem_cons_succ]); (try simp only [List.getElem_cons_zero]); try simp only [Act.put, List.setIfInBounds_toArray, List.set_cons_zero, List.set_cons_succ]
              obtain ⟨RW, GW⟩ := set12 V4 (w.heap.size + 1) 42 _ _ _ _ _ _ _ _ _ _ _ _ (.int .i64 t.phase) (.slice a3 t.rl.length cq) (.bool t.hasRtt) (.int .i64 t.rtt) (.int .i64 t.rttAt) (.bool t.full) (.int .i64 t.fullRate) (.int .i64 t.fullRounds) (.int .i64 t.cycle) (.int .i64 t.cycleAt) (.int .i64 t.til) (.int .i64 t.round) Y4.out
              refine wpAnyH_done (by kernel_rfl) ?_ _
              go_wp2_with fail
              go_meet
              exact ⟨blk_drew (gr_blk X4.out GW (by omega)), blk_drew RW, (O4.out.grownN GW (by omega)).below (Below.refl _ _).drew, (P4.out.grownN GW (by omega)).below (Below.refl _ _).drew, (below_gr3 Q4.out (by omega) GW).drew⟩
        case rest =>
        obtain ⟨hS, hT, hO, hP, hq⟩ := hcut
        obtain ⟨V6, hVV⟩ : ∃ V, V = wc := ⟨_, rfl⟩
        subst hVV
        have S6 := Lib.hid hS
        have T6 := Lib.hid hT
        have O6 := Lib.hid hO
        have P6 := Lib.hid hP
        have Q6 := Lib.hid hq
        clear hS hT hO hP hq S3 T3 G3 U3 Q3 O3 P3
        have c0 := blk_cell S6.out 0
        have c1 := blk_cell S6.out 1
        have c2 := blk_cell S6.out 2
        have c3 := blk_cell S6.out 3
        have c4 := blk_cell S6.out 4
        have c5 := blk_cell S6.out 5
        have c6 := blk_cell S6.out 6
        have c7 := blk_cell S6.out 7
        have c8 := blk_cell S6.out 8
        have c9 := blk_cell S6.out 9
        have c10 := blk_cell S6.out 10
        have c11 := blk_cell S6.out 11
        go_wp2_with fail
        refine (chk_ok t V6 TV.out (O6.out.sts encP)).mono ?_
        rintro e V7 ⟨rfl, b5⟩
        have S7 := Lib.hid ((b5.block _ (blk_lt S6.out)).trans S6.out)
        have T7 := Lib.hid ((b5.block _ (blk_lt T6.out)).trans T6.out)
        have O7 := Lib.hid (O6.out.below b5)
        have P7 := Lib.hid (P6.out.below b5)
        have Q7 := Lib.hid (Q6.out.trans (b5.mono Q6.out.size))
        clear b5 S6 T6 O6 P6 Q6 c0 c1 c2 c3 c4 c5 c6 c7 c8 c9 c10 c11
        go_wp2_with fail
        refine (num_any _ _).mono ?_
        rintro e w' ⟨rfl, rfl⟩
        go_wp2
        go_roundw
        case rel => exact ⟨i + 1, t, a3, cq, by omega, by go_num, TV, O7.out, P7.out, S7.out, T7.out, Q7.out⟩
        case measure => simp [intOf]; omega

theorem own : ownKnob Try.prog.godebug = none := by kernel_rfl
theorem laidOut : laidOutB Try.prog = true := by kernel_rfl

set_option maxRecDepth 100000 in
set_option maxHeartbeats 2000000 in
theorem lifted (os : Os) (started : os.Started) (H : Type) (enc : TypeId × Value → H) :
    ReturnsInHanded {} Try.checked os 5 .any (Rows.bbrPlaysSpec.pre6 enc Try.prog Try.f5 Rows.bbrPlaysRow.domain false) (Rows.bbrPlaysSpec.post enc Try.prog Try.f5 false true false false) := by
  refine returnsInHanded_of_change_sized (C := Try.checked) own started (by kernel_rfl) Try.func5
    (ChangeSpec.witness6 (enc := enc) (C := Try.checked) false ⟨#[], #[.int .i64 0, .slice none 0 0], []⟩ 8 (by kernel_rfl) (by kernel_rfl) (by kernel_rfl) (by kernel_rfl)) ?_
  intro W base args ds gs before hval0 hW hcnd hsz0 _
  have hval : ∀ (j : Nat) t v, Try.f5.params[j]? = some t → args[j]? = some v → Value.okWide Try.prog W .any base t v := hval0
  have hsz : (DataW.weightsEach Try.prog (Try.f5.params.toList ++ Rows.bbrPlaysSpec.plain.varTypes Try.prog) (ds ++ gs)).all (· ≤ reachBytes) = true := hsz0
  have hW' := hW
  obtain ⟨p, q, hA0, hV, rfl, hfz, hnd⟩ := hW
  have hA : DataW.TrodAll enc Try.prog W 0 (fun _ => true) true Try.f5.params.toList args.toList ds p := hA0
  rw [Try.params5] at hA hval hsz
  obtain ⟨v0, vs0, d0, ds0, p0, q0, hargs, rfl, rfl, h0, r0⟩ := trodAll_cons hA
  obtain ⟨v1, vs1, d1, ds1, p1, q1, rfl, rfl, rfl, h1, r1⟩ := trodAll_cons r0
  obtain ⟨rfl, rfl, rfl⟩ := trodAll_nil r1
  obtain rfl : args = #[v0, v1] := by cases args; simp_all
  obtain ⟨rfl, rfl⟩ := trodVars_none hV
  obtain ⟨a0, rfl, rfl, rfl, w0⟩ := open_int Try.underlying3 (hval 0 3 v0 rfl rfl) h0
  obtain ⟨a1, len1, cap1, rfl⟩ := okWide_slice Try.underlying38 (hval 1 38 v1 rfl rfl)
  have k1 := h1
  have lt1 : ∀ x ∈ p1, x.block < W.heap.size := by obtain ⟨m, hm⟩ := k1; exact DataW.trod_lt m _ _ _ hm
  obtain ⟨xs1, hxl1, hbt1, hcap1, hre1⟩ : ∃ xs : List Event23, xs.length = len1 ∧ Sts 7 Event23.cells Event23.ok W a1 xs ∧ (a1 = none → cap1 = 0) ∧ xs.length ≤ 2932031007317 := by
    obtain ⟨fuel, hf⟩ := h1
    obtain ⟨x, rs, c, hv, hs, hnc, _, hq⟩ := open_Event23s (c := .slice a1 len1 cap1) hf
    simp only [Value.slice.injEq] at hv
    obtain ⟨rfl, rfl, rfl⟩ := hv
    have hw := sts_reach Try.underlying38 hq (fun n hn => by simpa using List.all_eq_true.1 hsz _ (DataW.weights_mem_each (j := 1) (t := 38) rfl rfl n hn))
    rw [show Try.prog.bytesOf 47 = 48 from by kernel_rfl] at hw
    simp only [reachBytes] at hw
    exact ⟨rs, rfl, hs, hnc, by omega⟩
  clear hA0 hval0 hsz hsz0
  obtain ⟨lo0, hi0⟩ := bounds_i64 w0
  subst hxl1
  refine (walk a0 a1 xs1 cap1 W lo0 hi0 hbt1 hcap1 hre1).mono fun e W' ⟨he, bel⟩ => ?_
  subst he
  exact ⟨_, rfl, _, _, _, [], _, [], hW', trodAll_mk1 (shut_bool Try.underlying4 _), (trodAll_cons_mk (shut_int Try.underlying3 w0) (trodAll_cons_mk (Below.trod laidOut (by kernel_rfl) (of_decide_eq_true (by kernel_rfl)) k1 bel lt1) trodAll_mk0)), rfl, bel.frame _, fun h => by cases h⟩

theorem over : Rows.bbrPlaysRow.holds Try.pinned (OpenSpec.ofChange Rows.bbrPlaysSpec) :=
  OpenClaim.holds_of_wide 5 Try.f5 rfl rfl rfl rfl rfl rfl rfl ⟨rfl, rfl, rfl, rfl, rfl⟩ rfl rfl rfl rfl rfl (by kernel_rfl) Try.func5 (by kernel_rfl)
    (of_decide_eq_true (by kernel_rfl)) (by unfold Func.isWrapper; first | (rw [if_pos (by decide +kernel)]; kernel_rfl) | (rw [if_neg (by decide +kernel)]; exact ⟨rfl, rfl⟩))
    (fun os started H enc _ => lifted os started H enc)

end Go.Proofs.Ytokoogohdfepiaa.bbrPlays
namespace Go.Proofs.Ytokoogohdfepiaa
/-- The statement. -/
theorem bbrPlays_holds : Rows.BbrPlaysSaid := bbrPlays.over
#print axioms bbrPlays_holds
end Go.Proofs.Ytokoogohdfepiaa
