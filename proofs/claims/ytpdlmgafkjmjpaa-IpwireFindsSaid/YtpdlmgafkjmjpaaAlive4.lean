/- The page's example of ipwire holds. -/
import Derived.Test.YtpdlmgafkjmjpaaIpAll
import Derived.Test.YtpdlmgafkjmjpaaIpBack
import Derived.Test.YtpdlmgafkjmjpaaIpB
import Derived.Test.YtpdlmgafkjmjpaaIcmpB
import Derived.Laws.BytesArg
import Derived.Lib.SlBytesConst
namespace Go.Proofs.Ytpdlmgafkjmjpaa.law4
open Go.RowKit

theorem num_any (e : Int) (w : World) : Calls Try.prog 18 #[.int .i64 e] w fun r w' => r = .returned (.int .i64 e) ∧ w = w' := by
  go_enter Try.func18, Try.ntmps18
  go_wp2
  go_ret
  exact ⟨rfl, rfl⟩

theorem bts_mark (w : World) : Bts (w.alloc (.cells #[.int .u8 104, .int .u8 105] 5 (2, 3))) (some ⟨w.heap.size, 0, none⟩) [104, 105] := by
  refine ⟨by decide, .inr ⟨w.heap.size, 0, rfl, by simp, fun i hi => ?_⟩⟩
  rw [Nat.zero_add]
  unfold World.cell?
  rw [heap_alloc_new]
  match i, hi with
  | 0, _ => rfl
  | 1, _ => rfl

set_option maxRecDepth 100000 in
set_option maxHeartbeats 2000000 in
theorem alive_any (w : World) : Calls Try.prog 16 #[] w fun e w' => e = .returned (.bool true) ∧ Below w.heap.size w w' := by
  have q_0 := Below.refl w.heap.size w
  obtain ⟨L, hL⟩ : ∃ L, ipO 0 0 false false 0 64 6 167772161 167772162 [] [104, 105] = L := ⟨_, rfl⟩
  have hm : IpMay ((0 : Nat) : Int) ([] : List Nat).length [104, 105].length := ⟨⟨by decide, by decide, by decide⟩, ⟨by decide, by decide⟩, by decide⟩
  have hb := ip_back 0 0 false false 0 64 6 167772161 167772162 [] [104, 105] [] hm (by decide) (by decide) (by decide) (by decide) (by decide) (by decide) (fun x h => by cases h)
  rw [List.append_nil, hL] at hb
  have hLl : L.length = 22 := by rw [← hL, ipO_len]; rfl
  have d0 : L.getD 0 0 = 69 := by rw [← hL]; rfl
  have d3 : L.getD 3 0 = 22 := by rw [← hL]; rfl
  have c1 : ∀ W g c, Bts W (some ⟨g, 0, none⟩) [104, 105] → Calls Try.prog 19 #[.agg #[.int .u8 0, .int .u16 0, .bool false, .bool false, .int .i64 0, .int .u8 64, .int .u8 6, .int .u32 167772161, .int .u32 167772162, .slice none 0 0, .slice (some ⟨g, 0, none⟩) 2 c]] W fun e w' => ∃ a' cap', e = .returned (.tuple #[.slice (some ⟨a', 0, none⟩) 22 cap', .int .i64 0]) ∧ OwnSl (W.heap.size + 1) (some ⟨a', 0, none⟩) L cap' w' ∧ Below W.heap.size W w' := fun W g c h => by
    have h1 := ipB_ok 0 0 false false 0 64 6 167772161 167772162 none [] 0 (some ⟨g, 0, none⟩) [104, 105] c W hm (by decide) (by decide) (by decide) (by decide) (by decide) (by decide) (Bts.nil _ _) h
    rw [hL] at h1
    exact h1
  have c2 : ∀ W g c, OwnSl (W.heap.size + 1) (some ⟨g, 0, none⟩) L c W ∨ Bts W (some ⟨g, 0, none⟩) L → L.length ≤ c → c ≤ maxLen → Calls Try.prog 17 #[.slice (some ⟨g, 0, none⟩) 22 c] W fun e w' => ∃ oa oc da dc, e = .returned (.tuple #[.agg #[.int .u8 0, .int .u16 0, .bool false, .bool false, .int .i64 0, .int .u8 64, .int .u8 6, .int .u32 167772161, .int .u32 167772162, .slice oa 0 oc, .slice da 2 dc], .int .i64 0]) ∧ OwnSl (W.heap.size + 1) da [104, 105] dc w' ∧ Below W.heap.size W w' := fun W g c h hc hmx => by
    have hbt : Bts W (some ⟨g, 0, none⟩) L := h.elim (fun h => h.bts) id
    have h1 := ipP_ok (some ⟨g, 0, none⟩) L c W hbt hc hmx (by rw [hLl]; decide) hb.ok
    rw [hb.tos, hb.id, hb.df, hb.mf, hb.off, hb.ttl, hb.proto, hb.src, hb.dst, hb.os, hb.ds, hLl] at h1
    refine h1.mono ?_
    rintro e w' ⟨oa, oc, da, dc, h2, _, h4, h5⟩
    exact ⟨oa, oc, da, dc, h2, h4, h5⟩
  have c3 : ∀ W : World, Calls Try.prog 53 #[.agg #[.int .u8 8, .int .u8 0, .int .u32 7, .slice none 0 0]] W fun e w' => ∃ g cap', e = .returned (.tuple #[.slice (some ⟨g, 0, none⟩) 8 cap', .int .i64 0]) ∧ Below W.heap.size W w' := fun W => by
    refine (icmpB_ok 8 0 7 none [] 0 W (by decide) (by decide) (by decide) (by decide) (Bts.nil _ _)).mono ?_
    rintro e w' ⟨g, cap', h1, _, h3⟩
    exact ⟨g, cap', h1, h3⟩
  have C1 := Lib.hid c1
  have C2 := Lib.hid c2
  have C3 := Lib.hid c3
  have HL := Lib.hid (And.intro hLl (And.intro d0 d3))
  clear c1 c2 c3 hm hb hL hLl d0 d3
  have cv := fun (W : World) (C : Array Value) (n c : Nat) => Lib.run_convert_bytes_const (P := Try.prog) W 22 5 C n c Try.underlying22 Try.underlying5
  have y0 := Lib.hid (bts_mark w)
  go_enter Try.func16, Try.ntmps16
  go_wp2_with fail
  have b : Below w.heap.size w (w.alloc (.cells #[.int .u8 104, .int .u8 105] 5 (2, 3))) := ((Below.refl _ w).alloc (Nat.le_refl _) (.cells #[.int .u8 104, .int .u8 105] 5 (2, 3)))
  have q_1 := q_0.trans (b.mono q_0.size)
  clear q_0
  clear b
  refine (C1.out _ _ _ y0.out).mono ?_
  rintro e V1 ⟨a1, k1, rfl, O, b⟩
  have q_2 := q_1.trans (b.mono q_1.size)
  clear q_1
  have P_2 := Lib.hid (O)
  clear b
  clear O C1 y0
  have pc := P_2.out.capLe
  go_wp2_with fail
  refine (C2.out _ _ _ (.inr P_2.out.bts) pc.1 pc.2).mono ?_
  rintro e V2 ⟨oa, oc, da, dc, rfl, O, b⟩
  have P_3 := Lib.hid (P_2.out.below b)
  have q_3 := q_2.trans (b.mono q_2.size)
  clear P_2 q_2
  have D_3 := Lib.hid (O)
  clear b
  clear O C2
  go_wp2_with fail
  have b : Below V2.heap.size V2 (V2.alloc (.cells #[.int .u8 0, .int .u16 0, .bool false, .bool false, .int .i64 0, .int .u8 64, .int .u8 6, .int .u32 167772161, .int .u32 167772162, .slice oa 0 oc, .slice da 2 dc] 27)) := ((Below.refl _ V2).alloc (Nat.le_refl _) (.cells #[.int .u8 0, .int .u16 0, .bool false, .bool false, .int .i64 0, .int .u8 64, .int .u8 6, .int .u32 167772161, .int .u32 167772162, .slice oa 0 oc, .slice da 2 dc] 27))
  have nb0 := blk_new V2 (.cells #[.int .u8 0, .int .u16 0, .bool false, .bool false, .int .i64 0, .int .u8 64, .int .u8 6, .int .u32 167772161, .int .u32 167772162, .slice oa 0 oc, .slice da 2 dc] 27)
  have nz0 : V2.heap.size < (V2.alloc (.cells #[.int .u8 0, .int .u16 0, .bool false, .bool false, .int .i64 0, .int .u8 64, .int .u8 6, .int .u32 167772161, .int .u32 167772162, .slice oa 0 oc, .slice da 2 dc] 27)).heap.size := by simp only [World.size_alloc]; omega
  have P_4 := Lib.hid (P_3.out.below b)
  have D_4 := Lib.hid (D_3.out.below b)
  have q_4 := q_3.trans (b.mono q_3.size)
  clear P_3 D_3 q_3
  clear b
  have S_4 := Lib.hid nb0
  have Sz_4 := nz0
  clear nb0 nz0
  have Sc7_4 := blk_cell S_4.out 7
  have Sc10_4 := blk_cell S_4.out 10
  generalize (V2.alloc (.cells #[.int .u8 0, .int .u16 0, .bool false, .bool false, .int .i64 0, .int .u8 64, .int .u8 6, .int .u32 167772161, .int .u32 167772162, .slice oa 0 oc, .slice da 2 dc] 27)) = V3 at q_4 P_4 D_4 S_4 Sz_4 Sc7_4 Sc10_4 ⊢
  refine (C3.out _).mono ?_
  rintro e V4 ⟨g3, k3, rfl, b⟩
  have P_5 := Lib.hid (P_4.out.below b)
  have D_5 := Lib.hid (D_4.out.below b)
  have S_5 := Lib.hid ((b.block _ Sz_4).trans S_4.out)
  have Sz_5 := Nat.lt_of_lt_of_le Sz_4 b.size
  have Sc7_5 := blk_cell S_5.out 7
  have Sc10_5 := blk_cell S_5.out 10
  have q_5 := q_4.trans (b.mono q_4.size)
  clear P_4 D_4 S_4 Sz_4 Sc7_4 Sc10_4 q_4
  clear b
  clear C3
  go_wp2_with fail
  refine (num_any _ _).mono ?_
  rintro e w' ⟨rfl, rfl⟩
  go_wp2_with fail
  refine (num_any _ _).mono ?_
  rintro e w' ⟨rfl, rfl⟩
  go_wp2_with fail
  refine (num_any _ _).mono ?_
  rintro e w' ⟨rfl, rfl⟩
  obtain ⟨g, rfl, _, _⟩ := D_5.out.isSome (by decide)
  have e0 : V4.cell? ⟨a1, 0, none⟩ = some (.int .u8 69) := by have h := P_5.out.cellAt 0 (by rw [HL.out.1]; decide); rw [HL.out.2.1] at h; exact h
  have e3 : V4.cell? ⟨a1, 3, none⟩ = some (.int .u8 22) := by have h := P_5.out.cellAt 3 (by rw [HL.out.1]; decide); rw [HL.out.2.2] at h; exact h
  have ec : (convert 22 9 (.slice (some ⟨g, 0, none⟩) 2 dc)).run Try.prog V4 = .ok (.string { data := #[104, 105] }) V4 := by
    have h := run_convert_bytes_arg (P := Try.prog) V4 22 5 Try.underlying22 Try.underlying5 g 0 2 dc [104, 105] rfl (fun i hi => by
      have h := D_5.out.cellAt i hi
      rw [Nat.zero_add]
      match i, hi with
      | 0, _ => exact h
      | 1, _ => exact h) 9 Try.underlying9
    exact h
  go_wp2
  go_ret
  exact ⟨rfl, q_5⟩
end Go.Proofs.Ytpdlmgafkjmjpaa.law4
