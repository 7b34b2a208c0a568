/- Tcpwire's document: all options. -/
import Derived.Test.YtgmgoilleakdcaaTcpRd
namespace Go.Proofs.Ytgmgoilleakdcaa
open Go.RowKit Go.Sort Go.BigFrame

theorem drop_getD (xs : List Nat) (i j : Nat) : (xs.drop i).getD j 0 = xs.getD (i + j) 0 := by
  simp [List.getD_eq_getElem?_getD, List.getElem?_drop]
theorem tO_step (xs : List Nat) (i f : Nat) (ks : List Nat) (s : TOpt) : tOpts (f + 1) (xs.drop i) ks s =
    if xs.length ≤ i then some s else if xs.getD i 0 = 0 then some s else if xs.getD i 0 = 1 then tOpts f (xs.drop (i + 1)) ks s else if xs.length ≤ i + 1 then none
    else if xs.getD (i + 1) 0 < 2 ∨ xs.length - i < xs.getD (i + 1) 0 ∨ tcpFits (xs.getD i 0) (xs.getD (i + 1) 0) = false then none
    else tOpts f (xs.drop (i + xs.getD (i + 1) 0)) (ks ++ [xs.getD i 0]) (if xs.getD i 0 ∈ ks then s else setO s (xs.getD i 0) (seg xs (i + 2) (xs.getD (i + 1) 0 - 2))) := by
  rw [tOpts_succ, drop_getD, drop_getD, Nat.add_zero, List.drop_drop, List.drop_drop, List.length_drop]
  have e : seg (xs.drop i) 2 (xs.getD (i + 1) 0 - 2) = seg xs (i + 2) (xs.getD (i + 1) 0 - 2) := by unfold seg; rw [List.drop_drop]
  rw [e]
  by_cases h1 : xs.length ≤ i
  · rw [if_pos (by omega), if_pos h1]
  · rw [if_neg (by omega), if_neg h1]
    by_cases h2 : xs.getD i 0 = 0
    · rw [if_pos h2, if_pos h2]
    · rw [if_neg h2, if_neg h2]
      by_cases h3 : xs.getD i 0 = 1
      · rw [if_pos h3, if_pos h3]
      · rw [if_neg h3, if_neg h3]
        by_cases h4 : xs.length ≤ i + 1
        · rw [if_pos (by omega), if_pos h4]
        · rw [if_neg (by omega), if_neg h4]
theorem bts_at {w : World} {b off : Nat} {xs : List Nat} {i : Nat} (h : Bts w (some ⟨b, off, none⟩) xs) (hi : i < xs.length) : w.cell? ⟨b, off + i, none⟩ = some (.int .u8 (xs.getD i 0 : Nat)) := by
  obtain ⟨b2, o2, e, _, hc⟩ := h.isSome (by omega)
  cases e
  exact hc i hi
def All1 (ag : Array Value) : Prop := ag.size = 16 ∧ ag.all (·.oneCell') = true
theorem pC_one (sp dp sq ak fl wn ur : Nat) (da : Option Addr) (dn dc : Nat) (va : Option Addr) (vn vc : Nat) (s : TOpt) : All1 (pC sp dp sq ak fl wn ur (.slice da dn dc) (.slice va vn vc) s) := ⟨rfl, by simp [pC, Value.oneCell']⟩
theorem zero76 (W : World) : (zeroValue 76).run Try.prog W = .ok (.agg (Array.replicate 256 (.bool false))) W := by
  have h : (Try.prog.info? 76).map (·.zero) = some (some (.agg (Array.replicate 256 (.bool false)))) := by kernel_rfl
  cases hi : Try.prog.info? 76 with
  | none => rw [hi] at h; cases h
  | some i =>
    rw [hi] at h
    have h2 : i.zero = some (.agg (Array.replicate 256 (.bool false))) := Option.some.inj h
    simp [zeroValue, typeInfo, hi, h2]
/-- The kinds that were. -/
def Seen (W : World) (g : Nat) (ks : List Nat) : Prop := ∃ cs, W.heap[g]? = some (.cells cs 76 (0, 0)) ∧ cs.size = 256 ∧ ∀ k, k < 256 → cs[k]? = some (.bool (decide (k ∈ ks)))
theorem seen_set {W : World} {g k : Nat} {ks : List Nat} {cs : Array Value} (h : W.heap[g]? = some (.cells cs 76 (0, 0))) (hz : cs.size = 256) (hc : ∀ j, j < 256 → cs[j]? = some (.bool (decide (j ∈ ks)))) (hk : k < 256) : Seen (W.setCell ⟨g, k, none⟩ (.bool true)) g (ks ++ [k]) := by
  refine ⟨_, blk_set h k (.bool true), by simp [hz], fun j hj => ?_⟩
  by_cases e : j = k
  · subst e
    rw [Array.getElem?_setIfInBounds_self_of_lt (by omega)]
    simp
  · rw [Array.getElem?_setIfInBounds_ne (fun e2 => e e2.symm), hc j hj]
    have : (j ∈ ks ++ [k]) ↔ j ∈ ks := by simp [e]
    simp [this]

set_option maxRecDepth 100000 in
set_option maxHeartbeats 4000000 in
theorem rread_any (sp dp sq ak fl wn ur : Nat) (da : Option Addr) (dn dc : Nat) (a : Option Addr) (xs : List Nat) (c : Nat) (w : World) (hx : Bts w a xs) (hl : xs.length ≤ 65535) (hc : xs.length ≤ c) :
    Calls Try.prog 36 #[.agg #[.int .u16 (sp : Nat), .int .u16 (dp : Nat), .int .u32 (sq : Nat), .int .u32 (ak : Nat), .int .u8 (fl : Nat), .int .u16 (wn : Nat), .int .u16 (ur : Nat), .int .i64 0, .bool false, .int .i64 0, .bool false, .slice none 0 0, .bool false, .int .u32 0, .int .u32 0, .slice da dn dc], .slice a xs.length c] w fun e w' => Below w.heap.size w w' ∧ ((tOpts (xs.length + 1) xs [] tOpt0 = none ∧ ∃ ag, e = .returned (.tuple #[.agg ag, .int .i64 51]) ∧ All1 ag) ∨ ∃ s va vc, tOpts (xs.length + 1) xs [] tOpt0 = some s ∧ e = .returned (.tuple #[.agg (pC sp dp sq ak fl wn ur (.slice da dn dc) (.slice va s.bs.length vc) s), .int .i64 0]) ∧ OwnR 68 2 BC5 w.heap.size va s.bs vc w') := by
  obtain ⟨R, hR⟩ : ∃ R, tOpts (xs.length + 1) xs [] tOpt0 = R := ⟨_, rfl⟩
  rw [hR]
  have HR := Lib.hid hR
  have z76 := zero76
  obtain ⟨gs, hgs⟩ : ∃ z, w.heap.size = z := ⟨_, rfl⟩
  have hs1 : (w.alloc (.cells #[.int .u16 (sp : Nat), .int .u16 (dp : Nat), .int .u32 (sq : Nat), .int .u32 (ak : Nat), .int .u8 (fl : Nat), .int .u16 (wn : Nat), .int .u16 (ur : Nat), .int .i64 0, .bool false, .int .i64 0, .bool false, .slice none 0 0, .bool false, .int .u32 0, .int .u32 0, .slice da dn dc] 27)).heap.size = gs + 1 := by simp [hgs]
  have hs2 : ((w.alloc (.cells #[.int .u16 (sp : Nat), .int .u16 (dp : Nat), .int .u32 (sq : Nat), .int .u32 (ak : Nat), .int .u8 (fl : Nat), .int .u16 (wn : Nat), .int .u16 (ur : Nat), .int .i64 0, .bool false, .int .i64 0, .bool false, .slice none 0 0, .bool false, .int .u32 0, .int .u32 0, .slice da dn dc] 27)).alloc (.cells #[.int .u16 0, .int .u16 0, .int .u32 0, .int .u32 0, .int .u8 0, .int .u16 0, .int .u16 0, .int .i64 0, .bool false, .int .i64 0, .bool false, .slice none 0 0, .bool false, .int .u32 0, .int .u32 0, .slice none 0 0] 27)).heap.size = gs + 1 + 1 := by simp [hgs]
  have b1 := (Below.refl w.heap.size w).alloc (Nat.le_refl _) (.cells #[.int .u16 (sp : Nat), .int .u16 (dp : Nat), .int .u32 (sq : Nat), .int .u32 (ak : Nat), .int .u8 (fl : Nat), .int .u16 (wn : Nat), .int .u16 (ur : Nat), .int .i64 0, .bool false, .int .i64 0, .bool false, .slice none 0 0, .bool false, .int .u32 0, .int .u32 0, .slice da dn dc] 27)
  have k1 := blk_new w (.cells #[.int .u16 (sp : Nat), .int .u16 (dp : Nat), .int .u32 (sq : Nat), .int .u32 (ak : Nat), .int .u8 (fl : Nat), .int .u16 (wn : Nat), .int .u16 (ur : Nat), .int .i64 0, .bool false, .int .i64 0, .bool false, .slice none 0 0, .bool false, .int .u32 0, .int .u32 0, .slice da dn dc] 27)
  have b2 := (Below.refl (w.alloc (.cells #[.int .u16 (sp : Nat), .int .u16 (dp : Nat), .int .u32 (sq : Nat), .int .u32 (ak : Nat), .int .u8 (fl : Nat), .int .u16 (wn : Nat), .int .u16 (ur : Nat), .int .i64 0, .bool false, .int .i64 0, .bool false, .slice none 0 0, .bool false, .int .u32 0, .int .u32 0, .slice da dn dc] 27)).heap.size (w.alloc (.cells #[.int .u16 (sp : Nat), .int .u16 (dp : Nat), .int .u32 (sq : Nat), .int .u32 (ak : Nat), .int .u8 (fl : Nat), .int .u16 (wn : Nat), .int .u16 (ur : Nat), .int .i64 0, .bool false, .int .i64 0, .bool false, .slice none 0 0, .bool false, .int .u32 0, .int .u32 0, .slice da dn dc] 27))).alloc (Nat.le_refl _) (.cells #[.int .u16 0, .int .u16 0, .int .u32 0, .int .u32 0, .int .u8 0, .int .u16 0, .int .u16 0, .int .i64 0, .bool false, .int .i64 0, .bool false, .slice none 0 0, .bool false, .int .u32 0, .int .u32 0, .slice none 0 0] 27)
  have k2 := blk_new (w.alloc (.cells #[.int .u16 (sp : Nat), .int .u16 (dp : Nat), .int .u32 (sq : Nat), .int .u32 (ak : Nat), .int .u8 (fl : Nat), .int .u16 (wn : Nat), .int .u16 (ur : Nat), .int .i64 0, .bool false, .int .i64 0, .bool false, .slice none 0 0, .bool false, .int .u32 0, .int .u32 0, .slice da dn dc] 27)) (.cells #[.int .u16 0, .int .u16 0, .int .u32 0, .int .u32 0, .int .u8 0, .int .u16 0, .int .u16 0, .int .i64 0, .bool false, .int .i64 0, .bool false, .slice none 0 0, .bool false, .int .u32 0, .int .u32 0, .slice none 0 0] 27)
  have b3 := (Below.refl ((w.alloc (.cells #[.int .u16 (sp : Nat), .int .u16 (dp : Nat), .int .u32 (sq : Nat), .int .u32 (ak : Nat), .int .u8 (fl : Nat), .int .u16 (wn : Nat), .int .u16 (ur : Nat), .int .i64 0, .bool false, .int .i64 0, .bool false, .slice none 0 0, .bool false, .int .u32 0, .int .u32 0, .slice da dn dc] 27)).alloc (.cells #[.int .u16 0, .int .u16 0, .int .u32 0, .int .u32 0, .int .u8 0, .int .u16 0, .int .u16 0, .int .i64 0, .bool false, .int .i64 0, .bool false, .slice none 0 0, .bool false, .int .u32 0, .int .u32 0, .slice none 0 0] 27)).heap.size ((w.alloc (.cells #[.int .u16 (sp : Nat), .int .u16 (dp : Nat), .int .u32 (sq : Nat), .int .u32 (ak : Nat), .int .u8 (fl : Nat), .int .u16 (wn : Nat), .int .u16 (ur : Nat), .int .i64 0, .bool false, .int .i64 0, .bool false, .slice none 0 0, .bool false, .int .u32 0, .int .u32 0, .slice da dn dc] 27)).alloc (.cells #[.int .u16 0, .int .u16 0, .int .u32 0, .int .u32 0, .int .u8 0, .int .u16 0, .int .u16 0, .int .i64 0, .bool false, .int .i64 0, .bool false, .slice none 0 0, .bool false, .int .u32 0, .int .u32 0, .slice none 0 0] 27))).alloc (Nat.le_refl _) (.cells (Array.replicate 256 (.bool false)) 76)
  have k3 := blk_new ((w.alloc (.cells #[.int .u16 (sp : Nat), .int .u16 (dp : Nat), .int .u32 (sq : Nat), .int .u32 (ak : Nat), .int .u8 (fl : Nat), .int .u16 (wn : Nat), .int .u16 (ur : Nat), .int .i64 0, .bool false, .int .i64 0, .bool false, .slice none 0 0, .bool false, .int .u32 0, .int .u32 0, .slice da dn dc] 27)).alloc (.cells #[.int .u16 0, .int .u16 0, .int .u32 0, .int .u32 0, .int .u8 0, .int .u16 0, .int .u16 0, .int .i64 0, .bool false, .int .i64 0, .bool false, .slice none 0 0, .bool false, .int .u32 0, .int .u32 0, .slice none 0 0] 27)) (.cells (Array.replicate 256 (.bool false)) 76)
  have k1' := (b2.block _ (blk_lt k1)).trans k1
  have k1'' := (b3.block _ (blk_lt k1')).trans k1'
  have k2' := (b3.block _ (blk_lt k2)).trans k2
  rw [hs1] at k2'
  rw [hs2] at k3
  rw [hgs] at k1''
  have Q0 := Lib.hid ((b1.trans (b2.mono b1.size)).trans (b3.mono (Nat.le_trans b1.size b2.size)))
  have K1 := Lib.hid k1''
  have K2 := Lib.hid k2'
  have K3 := Lib.hid k3
  have HX := Lib.hid hx
  have HR := Lib.hid hR
  clear hx b1 b2 b3 k1 k1' k1'' k2 k2' k3 hR
  go_enter Try.func36, Try.ntmps36
  go_upto_region 2 with fail
  generalize ((w.alloc (.cells #[.int .u16 (sp : Nat), .int .u16 (dp : Nat), .int .u32 (sq : Nat), .int .u32 (ak : Nat), .int .u8 (fl : Nat), .int .u16 (wn : Nat), .int .u16 (ur : Nat), .int .i64 0, .bool false, .int .i64 0, .bool false, .slice none 0 0, .bool false, .int .u32 0, .int .u32 0, .slice da dn dc] 27)).alloc (.cells #[.int .u16 0, .int .u16 0, .int .u32 0, .int .u32 0, .int .u8 0, .int .u16 0, .int .u16 0, .int .i64 0, .bool false, .int .i64 0, .bool false, .slice none 0 0, .bool false, .int .u32 0, .int .u32 0, .slice none 0 0] 27)).alloc (.cells (Array.replicate 256 (.bool false)) 76) = V0 at K1 K2 K3 Q0 ⊢
  clear z76 hs1 hs2
  have HGS := Lib.hid hgs
  have I3 : Hid (Seen V0 (gs + 1 + 1) []) := Lib.hid ⟨_, K3.out, by simp, fun k hk => by simp [hk]⟩
  have T1 : Hid (TcpAt V0 gs (pC sp dp sq ak fl wn ur (.slice da dn dc) (.slice none tOpt0.bs.length 0) tOpt0)) := Lib.hid K1.out
  have T2 : Hid (TcpAt V0 (gs + 1) #[.int .u16 0, .int .u16 0, .int .u32 0, .int .u32 0, .int .u8 0, .int .u16 0, .int .u16 0, .int .i64 0, .bool false, .int .i64 0, .bool false, .slice none 0 0, .bool false, .int .u32 0, .int .u32 0, .slice none 0 0]) := Lib.hid K2.out
  have hB0 : gs + 3 ≤ V0.heap.size := blk_lt K3.out
  have X0 := Lib.hid (HX.out.below Q0.out)
  clear K1 K2 K3 hgs
  go_wp2_with fail
  go_loopw [7] (fun v wr => ∃ (i : Nat) (ks : List Nat) (s : TOpt) (va : Option Addr) (vc f : Nat), i ≤ xs.length ∧ v = .int .i64 i ∧ tOpts (f + 1) (xs.drop i) ks s = R ∧ xs.length - i ≤ f ∧ TcpAt wr gs (pC sp dp sq ak fl wn ur (.slice da dn dc) (.slice va s.bs.length vc) s) ∧ TcpAt wr (gs + 1) #[.int .u16 0, .int .u16 0, .int .u32 0, .int .u32 0, .int .u8 0, .int .u16 0, .int .u16 0, .int .i64 0, .bool false, .int .i64 0, .bool false, .slice none 0 0, .bool false, .int .u32 0, .int .u32 0, .slice none 0 0] ∧ Seen wr (gs + 1 + 1) ks ∧ OwnR 68 2 BC5 (gs + 3) va s.bs vc wr ∧ (5 ∉ ks → s.bs = [] ∧ va = none ∧ vc = 0) ∧ Below w.heap.size w wr ∧ gs + 3 ≤ wr.heap.size) (fun v _ => xs.length - (intOf v).toNat)
  case atStart => exact ⟨0, [], tOpt0, none, 0, xs.length, by omega, rfl, by rw [List.drop_zero]; exact HR.out, by omega, T1.out, T2.out, I3.out, ownR_nil _ _ _ _ _, fun _ => ⟨rfl, rfl, rfl⟩, Q0.out, hB0⟩
  case round =>
    obtain ⟨i, ks, s, va, vc, f, hi, rfl, ht, hf, hT1, hT2, hS, hO, h5, hQ, hB⟩ := hrel
    have hts := tO_step xs i f ks s
    rw [ht] at hts
    have T1 := Lib.hid hT1
    have T2 := Lib.hid hT2
    have SR := Lib.hid hS
    have OR := Lib.hid hO
    have QR := Lib.hid hQ
    have H5 := Lib.hid h5
    have XR := Lib.hid (HX.out.below hQ)
    clear hT1 hT2 hS hO h5 hQ ht
    by_cases h0 : xs.length ≤ i
    case pos =>
      rw [if_pos h0] at hts
      have HRS := Lib.hid hts
      have e0 : ¬ ((i : Int) < (xs.length : Int)) := by omega
      clear hts h0
      go_wp2_with (first
        | ((with_reducible show wpList _ _ _ _ _ _); refine wpList_load_tcp rfl (.tmp 2) rfl gs rfl _ T1.out rfl ?_)
        | ((with_reducible show wpList _ _ _ _ _ _); refine wpList_store_tcp rfl (.tmp 4) (.tmp 87) rfl (gs + 1) _ (pC sp dp sq ak fl wn ur (.slice da dn dc) (.slice va s.bs.length vc) s) rfl rfl T2.out rfl rfl (by simp [pC, Value.oneCell']) ?_; intro VE hs2 hg2; have K2 := Lib.hid hs2; have G2 := Lib.hid hg2; clear hs2 hg2)
        | fail)
      refine bodyPost_ret (results_tcp2 rfl _ _ (gs + 1) _ _ rfl rfl K2.out rfl) rfl ⟨QR.out.grown G2.out QR.out.size (fun j e => by cases e; have := HGS.out; omega), .inr ?_⟩
      have hOE := (OR.out.grown G2.out (fun g' e1 e2 => by have h6 := Option.some.inj e2; have := (OR.out.ownB g' (by rw [e1]; rfl)).1; omega)).mono (show w.heap.size ≤ gs + 3 by have := HGS.out; omega)
      first | exact ⟨s, va, vc, HRS.out, rfl, hOE⟩ | exact ⟨s, HRS.out, va, vc, rfl, hOE⟩
    case neg =>
    rw [if_neg h0] at hts
    obtain ⟨bb, bo, rfl, hbl, hbc⟩ := XR.out.isSome (by omega)
    obtain ⟨k, hk⟩ : ∃ z, xs.getD i 0 = z := ⟨_, rfl⟩
    have m0 := hbc i (by omega)
    rw [hk] at m0 hts
    have hk8 : k < 256 := by rw [← hk]; exact Mt.getD_lt xs XR.out.1 i
    have e0 : (i : Int) < (xs.length : Int) := by omega
    have e0d : decide (i < xs.length) = true := decide_eq_true (by omega)
    have HK := Lib.hid hk
    clear hk
    by_cases h1 : k = 0
    case pos =>
      rw [if_pos h1] at hts
      have HRS := Lib.hid hts
      subst h1
      clear hts h0
      go_wp2_with (first
        | ((with_reducible show wpList _ _ _ _ _ _); refine wpList_load_tcp rfl (.tmp 2) rfl gs rfl _ T1.out rfl ?_)
        | ((with_reducible show wpList _ _ _ _ _ _); refine wpList_store_tcp rfl (.tmp 4) (.tmp 87) rfl (gs + 1) _ (pC sp dp sq ak fl wn ur (.slice da dn dc) (.slice va s.bs.length vc) s) rfl rfl T2.out rfl rfl (by simp [pC, Value.oneCell']) ?_; intro VE hs2 hg2; have K2 := Lib.hid hs2; have G2 := Lib.hid hg2; clear hs2 hg2)
        | fail)
      refine bodyPost_ret (results_tcp2 rfl _ _ (gs + 1) _ _ rfl rfl K2.out rfl) rfl ⟨QR.out.grown G2.out QR.out.size (fun j e => by cases e; have := HGS.out; omega), .inr ?_⟩
      have hOE := (OR.out.grown G2.out (fun g' e1 e2 => by have h6 := Option.some.inj e2; have := (OR.out.ownB g' (by rw [e1]; rfl)).1; omega)).mono (show w.heap.size ≤ gs + 3 by have := HGS.out; omega)
      first | exact ⟨s, va, vc, HRS.out, rfl, hOE⟩ | exact ⟨s, HRS.out, va, vc, rfl, hOE⟩
    case neg =>
    rw [if_neg h1] at hts
    have e1 : ((k : Int) != 0) = true := by simp; omega
    have e1' : ((k : Int) == 0) = false := by rw [beq_eq_false_iff_ne]; omega
    have W1 : IntKind.i64.wrap ((i : Int) + 1) = ((i + 1 : Nat) : Int) := by rw [IntWalk.i64_in _ ⟨by omega, by omega⟩]; omega
    obtain ⟨i1, hi1⟩ : ∃ z, i + 1 = z := ⟨_, rfl⟩
    rw [hi1] at W1 hts
    obtain ⟨f', rfl⟩ : ∃ z, f = z + 1 := ⟨f - 1, by omega⟩
    by_cases h2 : k = 1
    case pos =>
      rw [if_pos h2] at hts
      have HTS := Lib.hid hts
      have HI1 := Lib.hid hi1
      have HF := Lib.hid hf
      subst h2
      clear hts h1 e1 e1' hi1 hf
      go_wp2_with fail
      go_roundw
      case rel => exact ⟨i1, ks, s, va, vc, f', by have := HI1.out; omega, rfl, HTS.out.symm, by have := HI1.out; have := HF.out; omega, T1.out, T2.out, SR.out, OR.out, H5.out, QR.out, hB⟩
      case measure => have := HI1.out; simp [intOf]; omega
    case neg =>
    rw [if_neg h2] at hts
    have e2 : ((k : Int) == 1) = false := by rw [beq_eq_false_iff_ne]; omega
    by_cases h3 : xs.length ≤ i1
    case pos =>
      rw [if_pos h3] at hts
      have HRS := Lib.hid hts
      have e3 : (xs.length : Int) ≤ (i1 : Int) := by omega
      clear hts h0 h1 h2 hi1
      go_wp2_with (first
        | ((with_reducible show wpList _ _ _ _ _ _); refine wpList_load_tcp rfl (.tmp 2) rfl gs rfl _ T1.out rfl ?_)
        | ((with_reducible show wpList _ _ _ _ _ _); refine wpList_store_tcp rfl (.tmp 4) (.tmp 32) rfl (gs + 1) _ (pC sp dp sq ak fl wn ur (.slice da dn dc) (.slice va s.bs.length vc) s) rfl rfl T2.out rfl rfl (by simp [pC, Value.oneCell']) ?_; intro VE hs2 hg2; have K2 := Lib.hid hs2; have G2 := Lib.hid hg2; clear hs2 hg2)
        | fail)
      exact bodyPost_ret (results_tcp2 rfl _ _ (gs + 1) _ _ rfl rfl K2.out rfl) rfl ⟨QR.out.grown G2.out QR.out.size (fun j e => by cases e; have := HGS.out; omega), .inl ⟨HRS.out, _, rfl, pC_one sp dp sq ak fl wn ur da dn dc va s.bs.length vc s⟩⟩
    case neg =>
    rw [if_neg h3] at hts
    have e3 : ¬ ((xs.length : Int) ≤ (i1 : Int)) := by omega
    have e3' : (i1 : Int) < (xs.length : Int) := by omega
    obtain ⟨n, hn⟩ : ∃ z, xs.getD i1 0 = z := ⟨_, rfl⟩
    have m1 := hbc i1 (by omega)
    rw [hn] at m1 hts
    have hn8 : n < 256 := by rw [← hn]; exact Mt.getD_lt xs XR.out.1 i1
    have WN : IntKind.i64.wrap (n : Int) = (n : Int) := IntWalk.i64_in _ ⟨by omega, by omega⟩
    obtain ⟨lr, hlr⟩ : ∃ z, xs.length - i = z := ⟨_, rfl⟩
    have WL : IntKind.i64.wrap ((xs.length : Int) - (i : Int)) = (lr : Int) := by rw [IntWalk.i64_in _ ⟨by omega, by omega⟩]; omega
    rw [hlr] at hts
    have FT := Lib.hid (fun W => rfits_any k n W)
    have HI1 := Lib.hid hi1
    have HLR := Lib.hid hlr
    have HF := Lib.hid hf
    clear hbc hn hi1 hlr hf h0 h1 h2 h3
    by_cases h4 : n < 2
    case pos =>
      rw [if_pos (.inl h4)] at hts
      have HRS := Lib.hid hts
      have e4 : (n : Int) < 2 := by omega
      clear hts h4
      go_wp2_with (first
        | ((with_reducible show wpList _ _ _ _ _ _); refine wpList_load_tcp rfl (.tmp 2) rfl gs rfl _ T1.out rfl ?_)
        | ((with_reducible show wpList _ _ _ _ _ _); refine wpList_store_tcp rfl (.tmp 4) (.tmp 58) rfl (gs + 1) _ (pC sp dp sq ak fl wn ur (.slice da dn dc) (.slice va s.bs.length vc) s) rfl rfl T2.out rfl rfl (by simp [pC, Value.oneCell']) ?_; intro VE hs2 hg2; have K2 := Lib.hid hs2; have G2 := Lib.hid hg2; clear hs2 hg2)
        | fail)
      exact bodyPost_ret (results_tcp2 rfl _ _ (gs + 1) _ _ rfl rfl K2.out rfl) rfl ⟨QR.out.grown G2.out QR.out.size (fun j e => by cases e; have := HGS.out; omega), .inl ⟨HRS.out, _, rfl, pC_one sp dp sq ak fl wn ur da dn dc va s.bs.length vc s⟩⟩
    case neg =>
    have e4 : ¬ ((n : Int) < 2) := by omega
    by_cases h5 : lr < n
    case pos =>
      rw [if_pos (.inr (.inl h5))] at hts
      have HRS := Lib.hid hts
      have e5 : (lr : Int) < (n : Int) := by omega
      clear hts h4 h5
      go_wp2_with (first
        | ((with_reducible show wpList _ _ _ _ _ _); refine wpList_load_tcp rfl (.tmp 2) rfl gs rfl _ T1.out rfl ?_)
        | ((with_reducible show wpList _ _ _ _ _ _); refine wpList_store_tcp rfl (.tmp 4) (.tmp 58) rfl (gs + 1) _ (pC sp dp sq ak fl wn ur (.slice da dn dc) (.slice va s.bs.length vc) s) rfl rfl T2.out rfl rfl (by simp [pC, Value.oneCell']) ?_; intro VE hs2 hg2; have K2 := Lib.hid hs2; have G2 := Lib.hid hg2; clear hs2 hg2)
        | fail)
      exact bodyPost_ret (results_tcp2 rfl _ _ (gs + 1) _ _ rfl rfl K2.out rfl) rfl ⟨QR.out.grown G2.out QR.out.size (fun j e => by cases e; have := HGS.out; omega), .inl ⟨HRS.out, _, rfl, pC_one sp dp sq ak fl wn ur da dn dc va s.bs.length vc s⟩⟩
    case neg =>
    have e5 : ¬ ((lr : Int) < (n : Int)) := by omega
    cases h6 : tcpFits k n
    case false =>
      rw [if_pos (.inr (.inr h6))] at hts
      have HRS := Lib.hid hts
      rw [h6] at FT
      clear hts h4 h5 h6
      go_wp2_with (first
        | ((with_reducible show wpList _ _ _ _ _ _); refine wpList_load_tcp rfl (.tmp 2) rfl gs rfl _ T1.out rfl ?_)
        | ((with_reducible show wpList _ _ _ _ _ _); refine wpList_store_tcp rfl (.tmp 4) (.tmp 58) rfl (gs + 1) _ (pC sp dp sq ak fl wn ur (.slice da dn dc) (.slice va s.bs.length vc) s) rfl rfl T2.out rfl rfl (by simp [pC, Value.oneCell']) ?_; intro VE hs2 hg2; have K2 := Lib.hid hs2; have G2 := Lib.hid hg2; clear hs2 hg2)
        | (go_at_call 46; with_reducible refine (FT.out _).mono ?_; rintro e w' ⟨rfl, rfl⟩)
        | fail)
      exact bodyPost_ret (results_tcp2 rfl _ _ (gs + 1) _ _ rfl rfl K2.out rfl) rfl ⟨QR.out.grown G2.out QR.out.size (fun j e => by cases e; have := HGS.out; omega), .inl ⟨HRS.out, _, rfl, pC_one sp dp sq ak fl wn ur da dn dc va s.bs.length vc s⟩⟩
    case true =>
    rw [if_neg (by rintro (h | h | h); exact h4 h; exact h5 h; rw [h6] at h; cases h)] at hts
    have H6 := Lib.hid h6
    rw [h6] at FT
    clear h6
    obtain ⟨cs, hcs, hcz, hck⟩ := SR.out
    have q0 := (blk_cell hcs k).trans (hck k hk8)
    obtain ⟨ie, hie⟩ : ∃ z, i + n = z := ⟨_, rfl⟩
    have WE : IntKind.i64.wrap ((i : Int) + (n : Int)) = (ie : Int) := by rw [IntWalk.i64_in _ ⟨by omega, by omega⟩]; omega
    rw [hie] at hts
    have k256 : (k : Int) < 256 := by omega
    have HE := Lib.hid hie
    have HCK := Lib.hid (And.intro hcz hck)
    by_cases h7 : k ∈ ks
    case pos =>
      rw [if_pos h7] at hts
      have HTS := Lib.hid hts
      have q1 : wr.cell? ⟨gs + 1 + 1, k, none⟩ = some (.bool true) := by rw [q0]; simp [h7]
      have qf := blk_free hcs k
      have HCS := Lib.hid hcs
      have H7 := Lib.hid h7
      clear q0 hts hcs hcz hck h4 h5 hie h7
      go_upto_region 14 with (first
        | (go_at_call 46; with_reducible refine (FT.out _).mono ?_; rintro e w' ⟨rfl, rfl⟩)
        | fail)
      have gA := grown_set wr (gs + 1 + 1) k (.bool true)
      have S9 := Lib.hid (seen_set HCS.out HCK.out.1 HCK.out.2 hk8)
      have T1v := Lib.hid ((gA.block gs (blk_lt T1.out) (fun e => by have := Option.some.inj e; omega)).trans T1.out)
      have T2v := Lib.hid ((gA.block (gs + 1) (blk_lt T2.out) (fun e => by have := Option.some.inj e; omega)).trans T2.out)
      have OV := Lib.hid (OR.out.grown gA (fun g' e1 e2 => by have h6 := Option.some.inj e2; have := (OR.out.ownB g' (by rw [e1]; rfl)).1; omega))
      have QV := Lib.hid (QR.out.grown gA QR.out.size (fun j e => by cases e; have := HGS.out; omega))
      have BV := Lib.hid (Nat.le_trans hB gA.size)
      clear q1 qf gA
      generalize wr.setCell ⟨gs + 1 + 1, k, none⟩ (.bool true) = VF at S9 T1v T2v OV QV BV ⊢
      go_wp2_with fail
      go_roundw
      case rel => exact ⟨ie, ks ++ [k], s, va, vc, f', by have := HE.out; have := HLR.out; omega, rfl, HTS.out.symm, by have := HE.out; have := HLR.out; have := HF.out; omega, T1v.out, T2v.out, S9.out, OV.out, fun h => H5.out (fun h2 => h (List.mem_append_left _ h2)), QV.out, BV.out⟩
      case measure => have := HE.out; have := HLR.out; simp [intOf]; omega
    case neg =>
    rw [if_neg h7] at hts
    have HTS := Lib.hid hts
    have q1 : wr.cell? ⟨gs + 1 + 1, k, none⟩ = some (.bool false) := by rw [q0]; simp [h7]
    have HCS := Lib.hid hcs
    have H7 := Lib.hid h7
    obtain ⟨i2, hi2⟩ : ∃ z, i + 2 = z := ⟨_, rfl⟩
    have W2 : IntKind.i64.wrap ((i : Int) + 2) = (i2 : Int) := by rw [IntWalk.i64_in _ ⟨by omega, by omega⟩]; omega
    have hlr2 := HLR.out
    have g1 : (i2 : Int) ≤ (ie : Int) := by omega
    have g2 : (ie : Int) ≤ (c : Int) := by omega
    obtain ⟨yl, hyl⟩ : ∃ z, ie - i2 = z := ⟨_, rfl⟩
    obtain ⟨ys, hys⟩ : ∃ z, seg xs i2 (n - 2) = z := ⟨_, rfl⟩
    have hysl : ys.length = yl := by rw [← hys, seg_length xs i2 (n - 2) (by omega)]; omega
    have hyn : ys.length + 2 = n := by rw [hysl]; omega
    rw [hi2, hys] at HTS
    obtain ⟨TA, hTA⟩ : ∃ z : Option Addr, (if c = i2 then some ⟨bb, bo, none⟩ else some ⟨bb, bo + i2, none⟩) = z := ⟨_, rfl⟩
    have YB : Hid (Bts wr TA ys) := Lib.hid (by
      rw [← hTA]
      by_cases hcc : c = i2
      · rw [if_pos hcc]
        have : ys = [] := List.eq_nil_of_length_eq_zero (by omega)
        rw [this]; exact Bts.nil _ _
      · rw [if_neg hcc, ← hys]; exact XR.out.segOf i2 (n - 2) (by omega))
    have HYL := Lib.hid hysl
    have HYN := Lib.hid hyn
    have HYC := Lib.hid (show ys.length ≤ c - i2 by omega)
    clear q0 hts hcs hcz hck h4 h5 hie h7 hi2 hlr2 hys hysl hyn
    go_upto_region 12 with (first
      | (go_at_call 46; with_reducible refine (FT.out _).mono ?_; rintro e w' ⟨rfl, rfl⟩)
      | fail)
    refine wp_region_quiet_tail [0, 1, 2, 3, 4, 5, 6, 7, 8, 9, 10, 11] 12 [13] [_, _, _, _, _, _, _, _, _, _, _, _] [_, _] (by kernel_rfl) rfl rfl rfl (by kernel_rfl) ?_
    (try simp only [List.getElem_toArray]); (try simp only [List.getElem_cons_succ]); (try simp only [List.getElem_cons_zero])
    have qc0 := cell_regrown (show wr.cell? ⟨gs, 0, none⟩ = some (.int .u16 (sp : Nat)) from blk_cell T1.out 0)
    have qc1 := cell_regrown (show wr.cell? ⟨gs, 1, none⟩ = some (.int .u16 (dp : Nat)) from blk_cell T1.out 1)
    have qc2 := cell_regrown (show wr.cell? ⟨gs, 2, none⟩ = some (.int .u32 (sq : Nat)) from blk_cell T1.out 2)
    have qc3 := cell_regrown (show wr.cell? ⟨gs, 3, none⟩ = some (.int .u32 (ak : Nat)) from blk_cell T1.out 3)
    have qc4 := cell_regrown (show wr.cell? ⟨gs, 4, none⟩ = some (.int .u8 (fl : Nat)) from blk_cell T1.out 4)
    have qc5 := cell_regrown (show wr.cell? ⟨gs, 5, none⟩ = some (.int .u16 (wn : Nat)) from blk_cell T1.out 5)
    have qc6 := cell_regrown (show wr.cell? ⟨gs, 6, none⟩ = some (.int .u16 (ur : Nat)) from blk_cell T1.out 6)
    have qc7 := cell_regrown (show wr.cell? ⟨gs, 7, none⟩ = some (.int .i64 (s.mss : Nat)) from blk_cell T1.out 7)
    have qc8 := cell_regrown (show wr.cell? ⟨gs, 8, none⟩ = some (.bool s.hs) from blk_cell T1.out 8)
    have qc9 := cell_regrown (show wr.cell? ⟨gs, 9, none⟩ = some (.int .i64 (s.sc : Nat)) from blk_cell T1.out 9)
    have qc10 := cell_regrown (show wr.cell? ⟨gs, 10, none⟩ = some (.bool s.sk) from blk_cell T1.out 10)
    have qc11 := cell_regrown (show wr.cell? ⟨gs, 11, none⟩ = some (.slice va s.bs.length vc) from blk_cell T1.out 11)
    have qc12 := cell_regrown (show wr.cell? ⟨gs, 12, none⟩ = some (.bool s.ht) from blk_cell T1.out 12)
    have qc13 := cell_regrown (show wr.cell? ⟨gs, 13, none⟩ = some (.int .u32 (s.tv : Nat)) from blk_cell T1.out 13)
    have qc14 := cell_regrown (show wr.cell? ⟨gs, 14, none⟩ = some (.int .u32 (s.te : Nat)) from blk_cell T1.out 14)
    have qc15 := cell_regrown (show wr.cell? ⟨gs, 15, none⟩ = some (.slice da dn dc) from blk_cell T1.out 15)
    have qm := cell_regrown (show wr.cell? ⟨bb, bo + i, none⟩ = some (.int .u8 (k : Nat)) from m0)
    repeat (go_big_quiet_step (first | fail))
    refine wpQuiet_nil ?_
    intro _ hw'
    obtain ⟨⟨dq, osq⟩, hw''⟩ := hw'
    subst hw''
    have hBQ := below_regrown wr dq osq
    clear qc0 qc1 qc2 qc3 qc4 qc5 qc6 qc7 qc8 qc9 qc10 qc11 qc12 qc13 qc14 qc15 qm
    dsimp only
    have T1q := Lib.hid ((hBQ.block gs (blk_lt T1.out)).trans T1.out)
    have T2q := Lib.hid ((hBQ.block (gs + 1) (blk_lt T2.out)).trans T2.out)
    have HCSq := Lib.hid ((hBQ.block (gs + 1 + 1) (blk_lt HCS.out)).trans HCS.out)
    have OQ := Lib.hid (OR.out.below hBQ)
    have QQ := Lib.hid (QR.out.trans (hBQ.mono QR.out.size))
    have YQ := Lib.hid (YB.out.below hBQ)
    have hBq := Nat.le_trans hB hBQ.size
    generalize grow (redrawn wr dq) osq = VQ at T1q T2q HCSq OQ QQ YQ hBq ⊢
    have ro := rone_any sp dp sq ak fl wn ur da dn dc s va vc (gs + 3) k TA ys (c - i2) VQ YQ.out (by rw [HYN.out]; exact H6.out) (fun e => H5.out (by rw [← e]; exact H7.out)) OQ.out hBq HYC.out
    rw [HYL.out] at ro
    have RO := Lib.hid ro
    have HTA := Lib.hid hTA
    clear ro q1
    go_upto_region 13 with (first
      | (go_at_call 47; refine RO.out.mono ?_; rintro e V6 ⟨va', vc', rfl, o6, b6, hno⟩; have HNO := Lib.hid hno; have O6 := Lib.hid o6; have T1w := Lib.hid ((b6.block gs (blk_lt T1q.out)).trans T1q.out); have T2w := Lib.hid ((b6.block (gs + 1) (blk_lt T2q.out)).trans T2q.out); have HCSw := Lib.hid ((b6.block (gs + 1 + 1) (blk_lt HCSq.out)).trans HCSq.out); have Q6 := Lib.hid (QQ.out.trans (b6.mono QQ.out.size)); have hB6 := Nat.le_trans hBq b6.size; clear o6 b6 hno)
      | ((with_reducible show wpList _ _ _ _ _ _); refine wpList_store_tcp rfl (.tmp 2) (.tmp 78) rfl gs _ (pC sp dp sq ak fl wn ur (.slice da dn dc) (.slice va' (setO s k ys).bs.length vc') (setO s k ys)) rfl rfl T1w.out rfl rfl (by simp [pC, Value.oneCell']) ?_; intro V7 hs2 hg2; have T1x := Lib.hid hs2; have G2 := Lib.hid hg2; clear hs2 hg2)
      | fail)
    have T2x := Lib.hid ((G2.out.block (gs + 1) (blk_lt T2w.out) (fun e => by have := Option.some.inj e; omega)).trans T2w.out)
    have hcs7 := (G2.out.block (gs + 1 + 1) (blk_lt HCSw.out) (fun e => by have := Option.some.inj e; omega)).trans HCSw.out
    have HC7 := Lib.hid hcs7
    have O7 := Lib.hid (O6.out.grown G2.out (fun g' e1 e2 => by have h6 := Option.some.inj e2; have := (O6.out.ownB g' (by rw [e1]; rfl)).1; omega))
    have Q7 := Lib.hid (Q6.out.grown G2.out Q6.out.size (fun j e => by cases e; have := HGS.out; omega))
    have hB7 := Nat.le_trans hB6 G2.out.size
    have m0' := bts_at (i := i) (HX.out.below Q7.out) (by omega)
    rw [HK.out] at m0'
    have q1 := (blk_cell hcs7 k).trans (HCK.out.2 k hk8)
    have qf := blk_free hcs7 k
    clear hcs7 G2 T1w T2w HCSw O6 Q6 hB6
    go_upto_region 14 with fail
    have gA := grown_set V7 (gs + 1 + 1) k (.bool true)
    have S9 := Lib.hid (seen_set HC7.out HCK.out.1 HCK.out.2 hk8)
    have T1v := Lib.hid ((gA.block gs (blk_lt T1x.out) (fun e => by have := Option.some.inj e; omega)).trans T1x.out)
    have T2v := Lib.hid ((gA.block (gs + 1) (blk_lt T2x.out) (fun e => by have := Option.some.inj e; omega)).trans T2x.out)
    have OV := Lib.hid (O7.out.grown gA (fun g' e1 e2 => by have h6 := Option.some.inj e2; have := (O7.out.ownB g' (by rw [e1]; rfl)).1; omega))
    have QV := Lib.hid (Q7.out.grown gA Q7.out.size (fun j e => by cases e; have := HGS.out; omega))
    have BV := Lib.hid (Nat.le_trans hB7 gA.size)
    clear q1 qf gA m0'
    generalize V7.setCell ⟨gs + 1 + 1, k, none⟩ (.bool true) = VF at S9 T1v T2v OV QV BV ⊢
    go_wp2_with fail
    go_roundw
    case rel => exact ⟨ie, ks ++ [k], setO s k ys, va', vc', f', by have := HE.out; have := HLR.out; omega, rfl, HTS.out.symm, by have := HE.out; have := HLR.out; have := HF.out; omega, T1v.out, T2v.out, S9.out, OV.out, fun h => (by
      have hk5 : k ≠ 5 := fun e => h (by rw [e]; simp)
      have h5k : 5 ∉ ks := fun h2 => h (List.mem_append_left _ h2)
      obtain ⟨r1, r2, r3⟩ := H5.out h5k
      obtain ⟨e1, e2, e3⟩ := HNO.out hk5
      exact ⟨by rw [e3]; exact r1, by rw [e1]; exact r2, by rw [e2]; exact r3⟩), QV.out, BV.out⟩
    case measure => have := HE.out; have := HLR.out; simp [intOf]; omega
end Go.Proofs.Ytgmgoilleakdcaa
