/- Sendbuf: the document's own buffer. -/
import Derived.Test.YtfdaenogefodhaaSbK
import Derived.Test.YtfdaenogefodhaaGTail
import Derived.Deep.DeepCutAuto
import Derived.RegionTactic
import Derived.Deep.RegionHeld3
import Derived.Deep.RegionLaw
namespace Go.Proofs.Ytfdaenogefodhaa
open Go.RowKit Go.Proofs.Ytfdaenogefodhaa.Sb

/-- The document's buffer at block g: n octets at most, what it holds is xs. -/
def RbAt (C : Nat) (R : Nat → Prop) (g n : Nat) (un : Int) (xs : List Nat) (w : World) : Prop :=
  ∃ a cap, w.heap[g]? = some (.cells #[.int .i64 (n : Nat), .int .u32 un, .slice a xs.length cap] 54 (0, 0)) ∧ OwnT C a xs cap w ∧ ∀ k o, a = some ⟨k, o, none⟩ → R k
theorem RbAt.here {C : Nat} {R : Nat → Prop} {g n : Nat} {un : Int} {xs : List Nat} {w : World} (h : RbAt C R g n un xs w) : RbAt C (fun k => C ≤ k ∧ k < w.heap.size) g n un xs w := by
  obtain ⟨a, cap, hB, hO, _⟩ := h
  exact ⟨a, cap, hB, hO, fun k o e => hO.geB k o e⟩
theorem RbAt.turned {S R : Nat → Prop} {C g n : Nat} {un : Int} {xs : List Nat} {w w' : World} (h : RbAt C R g n un xs w) (ht : Turns S w w') (hg : ¬ S g) (hS : ∀ k, R k → ¬ S k) : RbAt C R g n un xs w' := by
  obtain ⟨a, cap, hB, hO, hR⟩ := h
  exact ⟨a, cap, ht.blk hB hg, hO.turned ht (fun k o e => hS k (hR k o e)), hR⟩
theorem RbAt.below {R : Nat → Prop} {C g n : Nat} {un : Int} {xs : List Nat} {w w' : World} (h : RbAt C R g n un xs w) (hb : Below w.heap.size w w') : RbAt C R g n un xs w' := by
  obtain ⟨a, cap, hB, hO, hR⟩ := h
  exact ⟨a, cap, (hb.block g (blk_lt hB)).trans hB, hO.below hb, hR⟩
theorem RbAt.glt {R : Nat → Prop} {C g n : Nat} {un : Int} {xs : List Nat} {w : World} (h : RbAt C R g n un xs w) : g < w.heap.size := by obtain ⟨a, cap, hB, _⟩ := h; exact blk_lt hB
theorem bts_slice {w : World} {a : Option Addr} {xs : List Nat} {cap : Nat} (h : Bts w a xs) (hc : xs.length ≤ cap) (d m : Nat) (hd : d ≤ xs.length) : Bts w (if cap = d then a else Option.map (fun x => x.add d) a) ((xs.drop d).take m) := by
  split
  · rw [List.drop_eq_nil_of_le (by omega), List.take_nil]; exact ⟨(fun x hx => absurd hx List.not_mem_nil), .inl rfl⟩
  · refine Bts.take ?_ m
    rcases h.2 with h0 | ⟨b, off, e, hb, hc2⟩
    · rw [h0, List.drop_nil]; exact ⟨(fun x hx => absurd hx List.not_mem_nil), .inl rfl⟩
    · subst e
      have e : Option.map (fun x : Addr => x.add d) (some ⟨b, off, none⟩) = some ⟨b, off + d, none⟩ := by simp only [Option.map_some]; unfold Addr.add; split <;> simp_all
      rw [e]; exact h.drop d

set_option maxHeartbeats 400000 in
theorem rnew_no (sz : Int) (un : Int) (w : World) (h : ¬ (1 ≤ sz ∧ sz ≤ 1048576)) :
    Calls Try.prog 15 #[.int .i64 sz, .int .u32 un] w fun e w' => e = .returned (.tuple #[.pointer none, .int .i64 4]) ∧ w = w' := by
  by_cases h1 : sz < 1
  case pos =>
    clear h
    go_enter Try.func15, Try.ntmps15
    go_wp2
    go_ret2
    exact ⟨rfl, rfl⟩
  case neg =>
    have h2 : 1048576 < sz := by omega
    clear h
    go_enter Try.func15, Try.ntmps15
    go_wp2
    go_ret2
    exact ⟨rfl, rfl⟩
set_option maxHeartbeats 400000 in
theorem rnew_ok (n : Nat) (un : Int) (w : World) (h0 : 1 ≤ n) (h1 : n ≤ 1048576) :
    Calls Try.prog 15 #[.int .i64 n, .int .u32 un] w fun e w' => e = .returned (.tuple #[.pointer (some ⟨w.heap.size, 0, none⟩), .int .i64 0]) ∧ w' = w.alloc (.cells #[.int .i64 n, .int .u32 un, .slice none 0 0] 54) := by
  have i1 : (1 : Int) ≤ (n : Int) := by omega
  have i2 : (n : Int) ≤ 1048576 := by omega
  go_enter Try.func15, Try.ntmps15
  go_wp2
  go_ret2
  exact ⟨rfl, rfl⟩

set_option maxRecDepth 100000 in
set_option maxHeartbeats 1000000 in
theorem rend_at {R : Nat → Prop} {C g n : Nat} {un y : Int} {xs : List Nat} (w : World) (h : RbAt C R g n un xs w) (hy : (un + (xs.length : Int) % 4294967296) % 4294967296 = y) :
    Calls Try.prog 28 #[.pointer (some ⟨g, 0, none⟩)] w fun e w' => e = .returned (.int .u32 y) ∧ Below w.heap.size w w' := by
  obtain ⟨a, cap, hB, _, _⟩ := h
  have c1 := blk_cell hB 1
  have c2 := blk_cell hB 2
  obtain ⟨m, hm⟩ : ∃ m, IntKind.u32.wrap (xs.length : Int) = m := ⟨_, rfl⟩
  have hw : IntKind.u32.wrap (un + m) = y := by rw [← hy, ← hm, IntKind.wrap_u32, IntKind.wrap_u32]
  clear hB hy
  go_enter Try.func28, Try.ntmps28
  go_wp2_with fail
  go_quiet (fail)
  go_wp2
  go_ret
  exact ⟨by simp, below_drewN (Below.refl _ _) _⟩
set_option maxRecDepth 100000 in
set_option maxHeartbeats 2000000 in
theorem rwrite_at {R : Nat → Prop} {C g n dc N E : Nat} {un : Int} {xs ds : List Nat} {b : Option Addr} (w : World) (h : RbAt C R g n un xs w) (hgC : g < C) (hC : C ≤ w.heap.size) (hn : n ≤ 1048576) (hxn : xs.length ≤ n) (X : Bts w b ds) (hd : b = none → dc = 0) (hdc : ds.length ≤ dc) (hdm : dc ≤ 9223372036854775807) (hN : min ds.length (n - xs.length) = N) (hE : (if ds.length = 0 then 0 else if N = 0 then 251 else 0) = E) :
    Calls Try.prog 19 #[.pointer (some ⟨g, 0, none⟩), .slice b ds.length dc] w fun e w' => e = .returned (.tuple #[.int .i64 (N : Nat), .int .i64 (E : Nat)]) ∧ RbAt C (fun k => (R k ∨ w.heap.size ≤ k) ∧ k < w'.heap.size) g n un (xs ++ ds.take N) w' ∧ Turns (fun k => k = g ∨ R k) w w' := by
  obtain ⟨a, cap, hB, hO, hR⟩ := h
  have HB := Lib.hid hB
  have HO := Lib.hid hO
  have HR := Lib.hid hR
  have HGE := Lib.hid hO.geB
  have c0 := blk_cell hB 0
  have c2 := blk_cell hB 2
  have gz := blk_lt hB
  clear hB hO hR
  go_enter Try.func19, Try.ntmps19
  go_wp2_with fail
  go_quiet (fail)
  have B1 : Hid ((w.drewN nq).heap[g]? = some (.cells #[.int .i64 (n : Nat), .int .u32 un, .slice a xs.length cap] 54 (0, 0))) := Lib.hid (blk_drewN HB.out nq)
  have O1 := Lib.hid (HO.out.below (below_drewN (Below.refl w.heap.size w) nq))
  have Q1 := Lib.hid (below_drewN (Below.refl w.heap.size w) nq)
  have X1 := Lib.hid ((X.below (below_drewN (Below.refl w.heap.size w) nq)).take N)
  clear HB HO c0 c2 X
  generalize w.drewN nq = V1 at B1 O1 Q1 X1 ⊢
  have hC1 : C ≤ V1.heap.size := Nat.le_trans hC Q1.out.size
  by_cases hF : 0 < ds.length ∧ n = xs.length
  case pos =>
    obtain ⟨hF1, hF2⟩ := hF
    rw [if_neg (by omega), if_pos (by omega)] at hE
    subst hE
    obtain rfl : N = 0 := by omega
    have k1 : (0 : Int) < (ds.length : Int) := by omega
    have k2 : ((n : Int) - (xs.length : Int)) = 0 := by omega
    go_wp2
    go_ret2
    exact ⟨rfl, ⟨a, cap, by simpa using B1.out, by simpa using O1.out, fun k o e => ⟨.inl (HR.out k o e), (O1.out.geB k o e).2⟩⟩, Turns.of_below _ Q1.out⟩
  case neg =>
    obtain rfl : E = 0 := by
      rw [← hE]; split
      · rfl
      · rw [if_neg (by omega)]
    clear hE
    have hzl : (ds.take N).length = N := by rw [List.length_take]; omega
    have hmin : min ((n : Int) - (xs.length : Int)) (ds.length : Int) = (N : Int) := by omega
    have hs2 : ¬ ((dc : Int) < (N : Int)) := by omega
    obtain ⟨zs, hzs⟩ : ∃ z, xs ++ ds.take N = z := ⟨_, rfl⟩
    have HZS := Lib.hid hzs
    have hlen : xs.length + (ds.take N).length ≤ 140737488355328 := by omega
    have b2 := blk_cell (blk_drew B1.out) 2
    have f2 := blk_free B1.out 2
    have hgT : ∀ W', Turns (fun k => ∃ o, a = some ⟨k, o, none⟩) V1.drew W' → W'.heap[g]? = some (.cells #[.int .i64 (n : Nat), .int .u32 un, .slice a xs.length cap] 54 (0, 0)) := fun W' ht => ht.blk (blk_drew B1.out) (fun ⟨o, e⟩ => by have := HGE.out g o e; omega)
    have HGT := Lib.hid hgT
    clear hgT
    have O2 := Lib.hid (O1.out.below (Below.refl _ _).drew)
    have X2 := Lib.hid (X1.out.below (Below.refl _ _).drew)
    have hkk : ¬ ((0 : Int) < (ds.length : Int)) ∨ ((0 : Int) < (ds.length : Int) ∧ ¬ ((n : Int) - (xs.length : Int) = 0)) := by omega
    have HCUT : True := trivial
    rcases hkk with k1 | ⟨k1, k2⟩
    all_goals
      go_upto_region 5 with fail
      go_wp2_with fail
      go_region_law (refine step_append_tail rfl (.tmp 33) (.tmp 36) rfl C hzl.symm HZS.out O2.out X2.out hd (by simp [Act.eval]) (by simp [Act.eval]) hlen hC1 ?_; intro a3 c3 V3 O3 T3 AT; have AT3 := Lib.hid AT; have B3 := Lib.hid (HGT.out V3 T3); have O3h := Lib.hid O3; have T3h := Lib.hid T3; have u2 := blk_cell B3.out 2; have uf := blk_free B3.out 2; clear O3 T3 AT)
      go_wp2
      go_ret2
      refine ⟨rfl, ⟨a3, c3, ?_, ?_, ?_⟩, ?_⟩
      · rw [HZS.out]; exact blk_set B3.out 2 _
      · rw [HZS.out]; exact O3h.out.turned (Turns.of_grown (S := fun k => k = g) (fun k e => by cases e; rfl) (gr_set V3 g 2 _)) (fun k o e e2 => by have := O3h.out.geB k o e; omega)
      · intro k o e
        have h1 := O3h.out.geB k o e
        have hsz : (V3.setCell ⟨g, 2, none⟩ (.slice a3 zs.length c3)).heap.size = V3.heap.size := by simp
        rw [hsz]
        rcases AT3.out k o e with ⟨o', e'⟩ | h2
        · exact ⟨.inl (HR.out k o' e'), h1.2⟩
        · exact ⟨.inr (by have := Q1.out.size; have h3 : k = V1.heap.size := h2; omega), h1.2⟩
      · exact (((Turns.of_below _ Q1.out).drew).trans (T3h.out.mono (fun k ⟨o, e⟩ => .inr (HR.out k o e)))).set (.inl rfl) 2 _
set_option maxRecDepth 100000 in
set_option maxHeartbeats 2000000 in
theorem rslice_at {R : Nat → Prop} {C g n m d : Nat} {un q k : Int} {xs : List Nat} (w : World) (h : RbAt C R g n un xs w) (hl : xs.length ≤ 1048576) (hk : 0 ≤ k) (hd : df q un = d) (hle : d ≤ xs.length) (hm : min k ((xs.length : Int) - (d : Int)) = (m : Int)) :
    Calls Try.prog 22 #[.pointer (some ⟨g, 0, none⟩), .int .u32 q, .int .i64 k] w fun e w' => (∃ a' c', e = .returned (.tuple #[.slice a' m c', .int .i64 0]) ∧ Bts w' a' ((xs.drop d).take m) ∧ m ≤ c') ∧ Below w.heap.size w w' := by
  obtain ⟨a, cap, hB, hO, hR⟩ := h
  have HO := Lib.hid hO
  have c1 := blk_cell hB 1
  have c2 := blk_cell hB 2
  have hcl := hO.capLe
  have hcm : cap ≤ 9223372036854775807 := hcl.2
  have W := df_wrap q un
  rw [hd] at W
  have k1 : ¬ (k < 0) := by omega
  have k2 : ¬ ((xs.length : Int) < (d : Int)) := by omega
  have k3 : ((d : Int) + (m : Int)) ≤ (xs.length : Int) := by omega
  have k4 : ¬ ((cap : Int) < (d : Int) + (m : Int)) := by omega
  clear hB hO hd
  go_enter Try.func22, Try.ntmps22
  go_wp2_with fail
  go_quiet (fail)
  go_wp2
  all_goals
    go_ret2
    have h := bts_slice (HO.out.bts.below (below_drewN (Below.refl w.heap.size w) nq)) hcl.1 d m hle
    first
    | (rw [if_pos (by assumption)] at h; exact ⟨⟨_, _, rfl, h, by omega⟩, below_drewN (Below.refl _ _) _⟩)
    | (rw [if_neg (by assumption)] at h; exact ⟨⟨_, _, rfl, h, by omega⟩, below_drewN (Below.refl _ _) _⟩)
theorem rslice_rng {R : Nat → Prop} {C g n : Nat} {un q k : Int} {xs : List Nat} (w : World) (h : RbAt C R g n un xs w) (hk : k < 0) :
    Calls Try.prog 22 #[.pointer (some ⟨g, 0, none⟩), .int .u32 q, .int .i64 k] w fun e w' => e = .returned (.tuple #[.slice none 0 0, .int .i64 4]) ∧ w = w' := by
  obtain ⟨a, cap, hB, hO, hR⟩ := h
  have c1 := blk_cell hB 1
  clear hB hO
  go_enter Try.func22, Try.ntmps22
  go_wp2
  go_ret2
  exact ⟨rfl, rfl⟩
theorem rslice_seq {R : Nat → Prop} {C g n : Nat} {un q k d : Int} {xs : List Nat} (w : World) (h : RbAt C R g n un xs w) (hk : 0 ≤ k) (hd : df q un = d) (hle : ¬ d ≤ xs.length) :
    Calls Try.prog 22 #[.pointer (some ⟨g, 0, none⟩), .int .u32 q, .int .i64 k] w fun e w' => e = .returned (.tuple #[.slice none 0 0, .int .i64 151]) ∧ w = w' := by
  obtain ⟨a, cap, hB, hO, hR⟩ := h
  have c1 := blk_cell hB 1
  have c2 := blk_cell hB 2
  have W := df_wrap q un
  rw [hd] at W
  have hb := df_bd q un
  rw [hd] at hb
  obtain ⟨hb0, hb1⟩ := hb
  have k1 : ¬ (k < 0) := by omega
  have k2 : (xs.length : Int) < d := by omega
  clear hB hO hd hle
  go_enter Try.func22, Try.ntmps22
  go_wp2
  go_ret2
  exact ⟨rfl, rfl⟩
set_option maxRecDepth 100000 in
set_option maxHeartbeats 2000000 in
theorem rack_no {R : Nat → Prop} {C g n : Nat} {un q d : Int} {xs : List Nat} (w : World) (h : RbAt C R g n un xs w) (hd : df q un = d) (hle : ¬ d ≤ xs.length) :
    Calls Try.prog 25 #[.pointer (some ⟨g, 0, none⟩), .int .u32 q] w fun e w' => e = .returned (.tuple #[.int .i64 0, .int .i64 151]) ∧ w = w' := by
  obtain ⟨a, cap, hB, hO, hR⟩ := h
  have c1 := blk_cell hB 1
  have c2 := blk_cell hB 2
  have W := df_wrap q un
  rw [hd] at W
  have hb := df_bd q un
  rw [hd] at hb
  obtain ⟨hb0, hb1⟩ := hb
  have k2 : (xs.length : Int) < d := by omega
  clear hB hO hd hle
  go_enter Try.func25, Try.ntmps25
  go_wp2
  go_ret2
  exact ⟨rfl, rfl⟩
set_option maxRecDepth 100000 in
set_option maxHeartbeats 2000000 in
theorem rack_at {R : Nat → Prop} {C g n d : Nat} {un q : Int} {xs : List Nat} (w : World) (h : RbAt C R g n un xs w) (hgC : g < C) (_hl : xs.length ≤ 1048576) (hd : df q un = d) (hle : d ≤ xs.length) :
    Calls Try.prog 25 #[.pointer (some ⟨g, 0, none⟩), .int .u32 q] w fun e w' => e = .returned (.tuple #[.int .i64 (d : Nat), .int .i64 0]) ∧ RbAt C R g n q (xs.drop d) w' ∧ Turns (fun k => k = g) w w' := by
  obtain ⟨a, cap, hB, hO, hR⟩ := h
  have HB := Lib.hid hB
  have HO := Lib.hid hO
  have c1 := blk_cell hB 1
  have c2 := blk_cell hB 2
  have f1 := blk_free hB 1
  have f2 := blk_free hB 2
  have hcl := hO.capLe
  have hcm : cap ≤ 9223372036854775807 := hcl.2
  have W := df_wrap q un
  rw [hd] at W
  have k2 : ¬ ((xs.length : Int) < (d : Int)) := by omega
  clear hB hO hd
  go_enter Try.func25, Try.ntmps25
  go_wp2
  all_goals
    go_ret2
    have hT : ∀ v v2, Turns (fun k => k = g) w ((w.setCell ⟨g, 2, none⟩ v).setCell ⟨g, 1, none⟩ v2) := fun v v2 => Turns.set (S := fun k => k = g) (Turns.set (S := fun k => k = g) (Turns.refl _ w) rfl 2 v) rfl 1 v2
    first
    | (have hcd : cap = d := by assumption
       refine ⟨rfl, ⟨a, 0, by rw [List.length_drop]; exact blk_set (blk_set HB.out 2 _) 1 _, ?_, hR⟩, hT _ _⟩
       rw [List.drop_eq_nil_of_le (by omega)]
       exact HO.out.none.turned (hT _ _) (fun k o e e2 => by have := HO.out.geB k o e; omega))
    | (have hcd : ¬ cap = d := by assumption
       refine ⟨rfl, ⟨Option.map (fun x => x.add d) a, cap - d, by rw [List.length_drop]; exact blk_set (blk_set HB.out 2 _) 1 _, (HO.out.drop d hle).turned (hT _ _) (fun k o e e2 => by have := (HO.out.drop d hle).geB k o e; omega), ?_⟩, hT _ _⟩
       intro k o e
       rcases HO.out.2 with ⟨rfl, _, _⟩ | ⟨g', off, cur, rfl, _⟩
       · cases e
       · have e2 : Option.map (fun x : Addr => x.add d) (some ⟨g', off, none⟩) = some ⟨g', off + d, none⟩ := by simp only [Option.map_some]; unfold Addr.add; split <;> simp_all
         rw [e2] at e
         cases e
         exact hR _ off rfl)
end Go.Proofs.Ytfdaenogefodhaa
