/- For every key, table, addresses, shard and first port: the answers to a port that was chosen for a shard come to that shard. No condition. -/
import Derived.Test.YtpdlmgafkjmjpaaRows
import Derived.Test.YtpdlmgafkjmjpaaAlive7
import Derived.Test.YtpdlmgafkjmjpaaToPortAll
import Derived.Test.YtpdlmgafkjmjpaaGStruct
import Derived.Test.YtpdlmgafkjmjpaaGFrame
import Derived.ProofKit
import Derived.OpenShut
import Derived.ShutString
import Derived.ChangeOld
import Derived.SizedLaws
namespace Go.Proofs.Ytpdlmgafkjmjpaa.toeplitzOwns
open Go.ChangeShapes Go.WideShapes Go.ChangeAt Go.RowKit Go.Proofs.Ytpdlmgafkjmjpaa.law7
open Go.ChangeMaps (open_string shut_string)

set_option maxRecDepth 100000 in
set_option maxHeartbeats 4000000 in
theorem walk (ka : Option Addr) (ks : List Nat) (kc : Nat) (ta : Option Addr) (ts : List Int) (tc : Nat) (loc rem rp : Nat) (shard : Int) (frm : Nat) (w : World)
    (hk : Bts w ka ks) (_ : ka = none → kc = 0) (hkl : ks.length ≤ kc ∧ kc ≤ maxLen) (_ : ks.length ≤ 140737488351232) (ht : Its w ta ts) (_ : ta = none → tc = 0) (hl3 : ts.length ≤ 17592186043904)
    (hloc : loc < 4294967296) (hrem : rem < 4294967296) (hrp : rp < 65536) (_ : -9223372036854775808 ≤ shard) (_ : shard ≤ 9223372036854775807) (hfrm : frm < 65536) :
    Calls Try.prog 14 #[.slice ka ks.length kc, .slice ta ts.length tc, .agg #[.int .u32 loc, .int .u32 rem, .int .u16 rp, .int .i64 shard, .int .u16 frm]] w fun e w' => e = .returned (.bool true) ∧ Below w.heap.size w w' := by
  have hl5 : ts.length ≤ 9223372036854775807 := by omega
  have hkm : kc ≤ 9223372036854775807 := by have := hkl.2; unfold maxLen at this; omega
  obtain ⟨o, ho⟩ : ∃ o, portF (hitp ks ts loc rem rp shard) frm 32768 = o := ⟨_, rfl⟩
  have hp := fun W h h' => port_all ka ks kc ta ts tc loc rem rp shard frm W h hkl.1 hkm h' hl5 hfrm hloc hrem hrp o ho
  by_cases hE : ptE ks ts shard frm o = 0
  · obtain ⟨hck, hV1, hV2, hV3⟩ := pt_owns ks ts loc rem rp shard frm o ho hE
    obtain ⟨h40, hct⟩ := ckE_zero hck
    rw [hE] at hp
    generalize ptV ks ts shard frm o = V at hp hV1 hV2 hV3
    have hh := fun W g c (h : Bts W ka ks) (h2 : Bts W (some ⟨g, 0, none⟩) (tup rem loc rp V)) => hash_all ka ks kc (some ⟨g, 0, none⟩) (tup rem loc rp V) c W h h2 hkl.1 hkm (by rw [tup_len]; omega)
    have e1 : thE ks (tup rem loc rp V) = 0 := thE_ok h40 (by rw [tup_len]; omega)
    have e2 : thV ks (tup rem loc rp V) = th ks (tup rem loc rp V) (8 * (tup rem loc rp V).length) := thV_ok h40 (by rw [tup_len]; omega)
    rw [e1, e2, tup_len] at hh
    have hlt := th_lt ks (tup rem loc rp V) (8 * 12)
    have hs := fun W (h : Its W ta ts) => shard_any ta ts tc (th ks (tup rem loc rp V) (8 * 12)) W h hl5 hlt
    have e3 : shV ts (th ks (tup rem loc rp V) (8 * 12)) = shard := by unfold shV; rw [if_pos hct]; exact hV3
    rw [e3, hct] at hs
    generalize th ks (tup rem loc rp V) (8 * 12) = H at hh hs
    have HP := Lib.hid hp
    have HH := Lib.hid hh
    have HS := Lib.hid hs
    have hV4 : (32768 : Int) ≤ (V : Int) := by omega
    clear hp hh hs ho hE hck h40 hct e1 e2 e3 hlt hV3 hV1
    have q_0 := Below.refl w.heap.size w
    have K_0 := Lib.hid (hk)
    have T_0 := Lib.hid (ht)
    clear hk ht
    go_enter Try.func14, Try.ntmps14
    go_wp2_with fail
    have b : Below w.heap.size w (w.alloc (.cells #[.int .u32 loc, .int .u32 rem, .int .u16 rp, .int .i64 shard, .int .u16 frm] 79)) := ((Below.refl _ w).alloc (Nat.le_refl _) (.cells #[.int .u32 loc, .int .u32 rem, .int .u16 rp, .int .i64 shard, .int .u16 frm] 79))
    have nb0 := blk_new w (.cells #[.int .u32 loc, .int .u32 rem, .int .u16 rp, .int .i64 shard, .int .u16 frm] 79)
    have nz0 : w.heap.size < (w.alloc (.cells #[.int .u32 loc, .int .u32 rem, .int .u16 rp, .int .i64 shard, .int .u16 frm] 79)).heap.size := by simp only [World.size_alloc]; omega
    have K_1 := Lib.hid (K_0.out.below b)
    have T_1 := Lib.hid (T_0.out.below b)
    have q_1 := q_0.trans (b.mono q_0.size)
    clear K_0 T_0 q_0
    clear b
    have S_1 := Lib.hid nb0
    have Sz_1 := nz0
    clear nb0 nz0
    have Sc0_1 := blk_cell S_1.out 0
    have Sc1_1 := blk_cell S_1.out 1
    have Sc2_1 := blk_cell S_1.out 2
    have Sc3_1 := blk_cell S_1.out 3
    have Sc4_1 := blk_cell S_1.out 4
    generalize (w.alloc (.cells #[.int .u32 loc, .int .u32 rem, .int .u16 rp, .int .i64 shard, .int .u16 frm] 79)) = V1 at q_1 K_1 T_1 S_1 Sz_1 Sc0_1 Sc1_1 Sc2_1 Sc3_1 Sc4_1 ⊢
    refine (alive_any _).mono ?_
    rintro e V2 ⟨rfl, b⟩
    have K_2 := Lib.hid (K_1.out.below b)
    have T_2 := Lib.hid (T_1.out.below b)
    have S_2 := Lib.hid ((b.block _ Sz_1).trans S_1.out)
    have Sz_2 := Nat.lt_of_lt_of_le Sz_1 b.size
    have Sc0_2 := blk_cell S_2.out 0
    have Sc1_2 := blk_cell S_2.out 1
    have Sc2_2 := blk_cell S_2.out 2
    have Sc3_2 := blk_cell S_2.out 3
    have Sc4_2 := blk_cell S_2.out 4
    have q_2 := q_1.trans (b.mono q_1.size)
    clear K_1 T_1 S_1 Sz_1 Sc0_1 Sc1_1 Sc2_1 Sc3_1 Sc4_1 q_1
    clear b
    go_wp2_with fail
    refine (HP.out _ K_2.out T_2.out).mono ?_
    rintro e V3 ⟨rfl, b⟩
    have K_3 := Lib.hid (K_2.out.below b)
    have T_3 := Lib.hid (T_2.out.below b)
    have S_3 := Lib.hid ((b.block _ Sz_2).trans S_2.out)
    have Sz_3 := Nat.lt_of_lt_of_le Sz_2 b.size
    have Sc0_3 := blk_cell S_3.out 0
    have Sc1_3 := blk_cell S_3.out 1
    have Sc2_3 := blk_cell S_3.out 2
    have Sc3_3 := blk_cell S_3.out 3
    have Sc4_3 := blk_cell S_3.out 4
    have q_3 := q_2.trans (b.mono q_2.size)
    clear K_2 T_2 S_2 Sz_2 Sc0_2 Sc1_2 Sc2_2 Sc3_2 Sc4_2 q_2
    clear b
    go_wp2_with fail
    refine (num_any _ _).mono ?_
    rintro e w' ⟨rfl, rfl⟩
    go_wp2_with fail
    refine (tuple_any rem loc rp V hrem hloc hrp hV2 _).mono ?_
    rintro e V4 ⟨g1, c1, rfl, G, b⟩
    have K_4 := Lib.hid (K_3.out.below b)
    have T_4 := Lib.hid (T_3.out.below b)
    have S_4 := Lib.hid ((b.block _ Sz_3).trans S_3.out)
    have Sz_4 := Nat.lt_of_lt_of_le Sz_3 b.size
    have Sc0_4 := blk_cell S_4.out 0
    have Sc1_4 := blk_cell S_4.out 1
    have Sc2_4 := blk_cell S_4.out 2
    have Sc3_4 := blk_cell S_4.out 3
    have Sc4_4 := blk_cell S_4.out 4
    have q_4 := q_3.trans (b.mono q_3.size)
    clear K_3 T_3 S_3 Sz_3 Sc0_3 Sc1_3 Sc2_3 Sc3_3 Sc4_3 q_3
    have G_4 := Lib.hid (G)
    clear b
    clear G
    go_wp2_with fail
    refine (HH.out _ g1 c1 K_4.out G_4.out.bts).mono ?_
    rintro e V5 ⟨rfl, b⟩
    have K_5 := Lib.hid (K_4.out.below b)
    have T_5 := Lib.hid (T_4.out.below b)
    have S_5 := Lib.hid ((b.block _ Sz_4).trans S_4.out)
    have Sz_5 := Nat.lt_of_lt_of_le Sz_4 b.size
    have Sc0_5 := blk_cell S_5.out 0
    have Sc1_5 := blk_cell S_5.out 1
    have Sc2_5 := blk_cell S_5.out 2
    have Sc3_5 := blk_cell S_5.out 3
    have Sc4_5 := blk_cell S_5.out 4
    have G_5 := Lib.hid (G_4.out.below b)
    have q_5 := q_4.trans (b.mono q_4.size)
    clear K_4 T_4 S_4 Sz_4 Sc0_4 Sc1_4 Sc2_4 Sc3_4 Sc4_4 G_4 q_4
    clear b
    go_wp2_with fail
    refine (HS.out _ T_5.out).mono ?_
    rintro e w' ⟨rfl, rfl⟩
    go_wp2_with fail
    refine (num_any _ _).mono ?_
    rintro e w' ⟨rfl, rfl⟩
    go_wp2_with fail
    refine (num_any _ _).mono ?_
    rintro e w' ⟨rfl, rfl⟩
    go_wp2
    go_ret
    exact ⟨rfl, q_5⟩
  · have hz := pt_zero ks ts shard frm o hE
    rw [hz] at hp
    generalize ptE ks ts shard frm o = E at hp hE
    have n1 : (E != 0) = true := by rw [bne_iff_ne]; exact hE
    have n2 : (E == 0) = false := by rw [beq_eq_false_iff_ne]; exact hE
    have HP := Lib.hid hp
    clear hp hz ho
    have q_0 := Below.refl w.heap.size w
    have K_0 := Lib.hid (hk)
    have T_0 := Lib.hid (ht)
    clear hk ht
    go_enter Try.func14, Try.ntmps14
    go_wp2_with fail
    have b : Below w.heap.size w (w.alloc (.cells #[.int .u32 loc, .int .u32 rem, .int .u16 rp, .int .i64 shard, .int .u16 frm] 79)) := ((Below.refl _ w).alloc (Nat.le_refl _) (.cells #[.int .u32 loc, .int .u32 rem, .int .u16 rp, .int .i64 shard, .int .u16 frm] 79))
    have nb0 := blk_new w (.cells #[.int .u32 loc, .int .u32 rem, .int .u16 rp, .int .i64 shard, .int .u16 frm] 79)
    have nz0 : w.heap.size < (w.alloc (.cells #[.int .u32 loc, .int .u32 rem, .int .u16 rp, .int .i64 shard, .int .u16 frm] 79)).heap.size := by simp only [World.size_alloc]; omega
    have K_1 := Lib.hid (K_0.out.below b)
    have T_1 := Lib.hid (T_0.out.below b)
    have q_1 := q_0.trans (b.mono q_0.size)
    clear K_0 T_0 q_0
    clear b
    have S_1 := Lib.hid nb0
    have Sz_1 := nz0
    clear nb0 nz0
    have Sc0_1 := blk_cell S_1.out 0
    have Sc1_1 := blk_cell S_1.out 1
    have Sc2_1 := blk_cell S_1.out 2
    have Sc3_1 := blk_cell S_1.out 3
    have Sc4_1 := blk_cell S_1.out 4
    generalize (w.alloc (.cells #[.int .u32 loc, .int .u32 rem, .int .u16 rp, .int .i64 shard, .int .u16 frm] 79)) = V1 at q_1 K_1 T_1 S_1 Sz_1 Sc0_1 Sc1_1 Sc2_1 Sc3_1 Sc4_1 ⊢
    refine (alive_any _).mono ?_
    rintro e V2 ⟨rfl, b⟩
    have K_2 := Lib.hid (K_1.out.below b)
    have T_2 := Lib.hid (T_1.out.below b)
    have S_2 := Lib.hid ((b.block _ Sz_1).trans S_1.out)
    have Sz_2 := Nat.lt_of_lt_of_le Sz_1 b.size
    have Sc0_2 := blk_cell S_2.out 0
    have Sc1_2 := blk_cell S_2.out 1
    have Sc2_2 := blk_cell S_2.out 2
    have Sc3_2 := blk_cell S_2.out 3
    have Sc4_2 := blk_cell S_2.out 4
    have q_2 := q_1.trans (b.mono q_1.size)
    clear K_1 T_1 S_1 Sz_1 Sc0_1 Sc1_1 Sc2_1 Sc3_1 Sc4_1 q_1
    clear b
    go_wp2_with fail
    refine (HP.out _ K_2.out T_2.out).mono ?_
    rintro e V3 ⟨rfl, b⟩
    have K_3 := Lib.hid (K_2.out.below b)
    have T_3 := Lib.hid (T_2.out.below b)
    have S_3 := Lib.hid ((b.block _ Sz_2).trans S_2.out)
    have Sz_3 := Nat.lt_of_lt_of_le Sz_2 b.size
    have Sc0_3 := blk_cell S_3.out 0
    have Sc1_3 := blk_cell S_3.out 1
    have Sc2_3 := blk_cell S_3.out 2
    have Sc3_3 := blk_cell S_3.out 3
    have Sc4_3 := blk_cell S_3.out 4
    have q_3 := q_2.trans (b.mono q_2.size)
    clear K_2 T_2 S_2 Sz_2 Sc0_2 Sc1_2 Sc2_2 Sc3_2 Sc4_2 q_2
    clear b
    go_wp2_with fail
    refine (num_any _ _).mono ?_
    rintro e w' ⟨rfl, rfl⟩
    go_wp2
    go_ret
    exact ⟨rfl, q_3⟩

theorem of_len5 {α : Type} (l : List α) (h : l.length = 5) : ∃ x0 x1 x2 x3 x4, l = [x0, x1, x2, x3, x4] := by
  match l, h with
  | [x0, x1, x2, x3, x4], _ => exact ⟨x0, x1, x2, x3, x4, rfl⟩
theorem own : ownKnob Try.prog.godebug = none := by kernel_rfl
theorem laidOut : laidOutB Try.prog = true := by kernel_rfl

set_option maxRecDepth 100000 in
set_option maxHeartbeats 2000000 in
theorem lifted (os : Os) (started : os.Started) (H : Type) (enc : TypeId × Value → H) :
    ReturnsInHanded {} Try.checked os 14 .any (Rows.toeplitzOwnsSpec.pre6 enc Try.prog Try.f14 Rows.toeplitzOwnsRow.domain false) (Rows.toeplitzOwnsSpec.post enc Try.prog Try.f14 false true false false) := by
  refine returnsInHanded_of_change_sized (C := Try.checked) own started (by kernel_rfl) Try.func14
    (ChangeSpec.witness6 (enc := enc) (C := Try.checked) false ⟨#[], #[.slice none 0 0, .slice none 0 0, .agg #[.int .u32 0, .int .u32 0, .int .u16 0, .int .i64 0, .int .u16 0]], []⟩ 8 (by kernel_rfl) (by kernel_rfl) (by kernel_rfl) (by kernel_rfl)) ?_
  intro W base args ds gs before hval0 hW hcnd hsz0 _
  have hval : ∀ (j : Nat) t v, Try.f14.params[j]? = some t → args[j]? = some v → Value.okWide Try.prog W .any base t v := hval0
  have hsz : (DataW.weightsEach Try.prog (Try.f14.params.toList ++ Rows.toeplitzOwnsSpec.plain.varTypes Try.prog) (ds ++ gs)).all (· ≤ reachBytes) = true := hsz0
  have hW' := hW
  obtain ⟨p, q, hA0, hV, rfl, hfz, hnd⟩ := hW
  have hA : DataW.TrodAll enc Try.prog W 0 (fun _ => true) true Try.f14.params.toList args.toList ds p := hA0
  rw [Try.params14] at hA hval hsz
  obtain ⟨v0, vs0, d0, ds0, p0, q0, hargs, rfl, rfl, h0, r0⟩ := trodAll_cons hA
  obtain ⟨v1, vs1, d1, ds1, p1, q1, rfl, rfl, rfl, h1, r1⟩ := trodAll_cons r0
  obtain ⟨v2, vs2, d2, ds2, p2, q2, rfl, rfl, rfl, h2, r2⟩ := trodAll_cons r1
  obtain ⟨rfl, rfl, rfl⟩ := trodAll_nil r2
  obtain rfl : args = #[v0, v1, v2] := by cases args; simp_all
  obtain ⟨rfl, rfl⟩ := trodVars_none hV
  obtain ⟨a0, len0, cap0, rfl⟩ := okWide_slice Try.underlying22 (hval 0 22 v0 rfl rfl)
  have k0 := h0
  have lt0 : ∀ x ∈ p0, x.block < W.heap.size := by obtain ⟨m, hm⟩ := k0; exact DataW.trod_lt m _ _ _ hm
  obtain ⟨a1, len1, cap1, rfl⟩ := okWide_slice Try.underlying63 (hval 1 63 v1 rfl rfl)
  have k1 := h1
  have lt1 : ∀ x ∈ p1, x.block < W.heap.size := by obtain ⟨m, hm⟩ := k1; exact DataW.trod_lt m _ _ _ hm
  have k2 := h2
  have lt2 : ∀ x ∈ p2, x.block < W.heap.size := by obtain ⟨m, hm⟩ := k2; exact DataW.trod_lt m _ _ _ hm
  obtain ⟨vs2', ys2', m2, rfl, lv2, ly2, hd2, F2⟩ := open_agg Try.underlying79 (by kernel_rfl) (by kernel_rfl) (hval 2 79 v2 rfl rfl) h2
  obtain ⟨c2_0, c2_1, c2_2, c2_3, c2_4, rfl⟩ := of_len5 _ lv2
  obtain ⟨y2_0, y2_1, y2_2, y2_3, y2_4, rfl⟩ := of_len5 _ ly2
  simp only [List.map_cons, List.map_nil] at hd2
  obtain ⟨_, _, e, g, t2_0⟩ := F2 0 _ rfl
  obtain rfl := Option.some.inj e; obtain rfl := Option.some.inj g; clear e g
  obtain ⟨z2_0, e, _, w2_0⟩ := DataW.trod_int Try.underlying25 t2_0
  obtain rfl := (List.cons.inj e).1; clear e
  obtain ⟨n2_0, rfl, hn2_0⟩ := nat_of_u32 w2_0
  obtain ⟨_, _, e, g, t2_1⟩ := F2 1 _ rfl
  obtain rfl := Option.some.inj e; obtain rfl := Option.some.inj g; clear e g
  obtain ⟨z2_1, e, _, w2_1⟩ := DataW.trod_int Try.underlying25 t2_1
  obtain rfl := (List.cons.inj e).1; clear e
  obtain ⟨n2_1, rfl, hn2_1⟩ := nat_of_u32 w2_1
  obtain ⟨_, _, e, g, t2_2⟩ := F2 2 _ rfl
  obtain rfl := Option.some.inj e; obtain rfl := Option.some.inj g; clear e g
  obtain ⟨z2_2, e, _, w2_2⟩ := DataW.trod_int Try.underlying24 t2_2
  obtain rfl := (List.cons.inj e).1; clear e
  obtain ⟨n2_2, rfl, hn2_2⟩ := nat_of_u16 w2_2
  obtain ⟨_, _, e, g, t2_3⟩ := F2 3 _ rfl
  obtain rfl := Option.some.inj e; obtain rfl := Option.some.inj g; clear e g
  obtain ⟨z2_3, e, _, w2_3⟩ := DataW.trod_int Try.underlying3 t2_3
  obtain rfl := (List.cons.inj e).1; clear e
  obtain ⟨lo2_3, hi2_3⟩ := bounds_i64 w2_3
  obtain ⟨_, _, e, g, t2_4⟩ := F2 4 _ rfl
  obtain rfl := Option.some.inj e; obtain rfl := Option.some.inj g; clear e g
  obtain ⟨z2_4, e, _, w2_4⟩ := DataW.trod_int Try.underlying24 t2_4
  obtain rfl := (List.cons.inj e).1; clear e
  obtain ⟨n2_4, rfl, hn2_4⟩ := nat_of_u16 w2_4
  obtain ⟨xs0, hxl0, hbt0, hcap0, hlc0, hre0⟩ : ∃ xs : List Nat, xs.length = len0 ∧ Bts W a0 xs ∧ (a0 = none → cap0 = 0) ∧ (xs.length ≤ cap0 ∧ cap0 ≤ maxLen) ∧ xs.length ≤ 140737488351232 := by
    obtain ⟨fuel, hf⟩ := h0
    rcases open_ints Try.underlying22 Try.underlying5 (by kernel_rfl) hf with ⟨hcs, _⟩ | ⟨x, l, c, zs, hcs, _, hl, hm, hz, hd, hcell, hwz⟩
    · simp [Value.cells] at hcs
      obtain ⟨rfl, rfl, rfl⟩ := hcs
      exact ⟨[], rfl, ⟨(fun x h => by cases h), .inl rfl⟩, fun _ => rfl, ⟨Nat.le_refl _, Nat.zero_le _⟩, by simp⟩
    · simp [Value.cells] at hcs
      obtain ⟨rfl, rfl, rfl⟩ := hcs
      have hz' : zs.length = cap0 := by simpa using hz
      obtain ⟨xs, h1, h2⟩ := bts_of_ints hl hz' hcell hwz
      have hd' := (Prod.mk.inj hd).1
      have hw := sized_slice hsz (j := 0) (t := 22) (e := 5) rfl (by rw [hd']; rfl) Try.underlying22
      rw [bytes5] at hw
      simp only [lits, List.length_map, List.length_take, List.length_drop, reachBytes] at hw
      exact ⟨xs, h1, h2, (fun h => by cases h), ⟨by omega, hm⟩, by omega⟩
  obtain ⟨xs1, hxl1, hbt1, hcap1, hre1⟩ : ∃ xs : List Int, xs.length = len1 ∧ Its W a1 xs ∧ (a1 = none → cap1 = 0) ∧ xs.length ≤ 17592186043904 := by
    obtain ⟨fuel, hf⟩ := h1
    rcases open_ints Try.underlying63 Try.underlying3 (by kernel_rfl) hf with ⟨hcs, _⟩ | ⟨x, l, c, zs, hcs, _, hl, hm, hz, hd, hcell, hwz⟩
    · simp [Value.cells] at hcs
      obtain ⟨rfl, rfl, rfl⟩ := hcs
      exact ⟨[], rfl, ⟨(fun x h => by cases h), .inl rfl⟩, fun _ => rfl, by simp⟩
    · simp [Value.cells] at hcs
      obtain ⟨rfl, rfl, rfl⟩ := hcs
      have hz' : zs.length = cap1 := by simpa using hz
      obtain ⟨xs, h1, h2⟩ := its_of_ints hl hz' hcell hwz
      have hd' := (Prod.mk.inj hd).1
      have hw := sized_slice hsz (j := 1) (t := 63) (e := 3) rfl (by rw [hd']; rfl) Try.underlying63
      rw [bytes8] at hw
      simp only [lits, List.length_map, List.length_take, List.length_drop, reachBytes] at hw
      exact ⟨xs, h1, h2, (fun h => by cases h), by omega⟩
  clear hA0 hval0 hsz hsz0
  subst hxl0
  subst hxl1
  refine (walk a0 xs0 cap0 a1 xs1 cap1 n2_0 n2_1 n2_2 z2_3 n2_4 W hbt0 hcap0 hlc0 hre0 hbt1 hcap1 hre1 hn2_0 hn2_1 hn2_2 lo2_3 hi2_3 hn2_4).mono fun e W' ⟨he, bel⟩ => ?_
  subst he
  exact ⟨_, rfl, _, _, _, [], _, [], hW', trodAll_mk1 (shut_bool Try.underlying4 _), (trodAll_cons_mk (Below.trod laidOut (by kernel_rfl) (of_decide_eq_true (by kernel_rfl)) k0 bel lt0) (trodAll_cons_mk (Below.trod laidOut (by kernel_rfl) (of_decide_eq_true (by kernel_rfl)) k1 bel lt1) (trodAll_cons_mk (Below.trod laidOut (by kernel_rfl) (of_decide_eq_true (by kernel_rfl)) k2 bel lt2) trodAll_mk0))), rfl, bel.frame _, fun h => by cases h⟩

theorem over : Rows.toeplitzOwnsRow.holds Try.pinned (OpenSpec.ofChange Rows.toeplitzOwnsSpec) :=
  OpenClaim.holds_of_wide 14 Try.f14 rfl rfl rfl rfl rfl rfl rfl ⟨rfl, rfl, rfl, rfl, rfl⟩ rfl rfl rfl rfl rfl (by kernel_rfl) Try.func14 (by kernel_rfl)
    (of_decide_eq_true (by kernel_rfl)) (by unfold Func.isWrapper; first | (rw [if_pos (by decide +kernel)]; kernel_rfl) | (rw [if_neg (by decide +kernel)]; exact ⟨rfl, rfl⟩))
    (fun os started H enc _ => lifted os started H enc)

end Go.Proofs.Ytpdlmgafkjmjpaa.toeplitzOwns
namespace Go.Proofs.Ytpdlmgafkjmjpaa
/-- The statement. -/
theorem toeplitzOwns_holds : Rows.ToeplitzOwnsSaid := toeplitzOwns.over
#print axioms toeplitzOwns_holds
end Go.Proofs.Ytpdlmgafkjmjpaa
