/- Recvbuf: the document's buffer as it lies: New, Window, Read, Grow. -/
import Derived.Test.YtknebjfdggimcaaRvWc
import Derived.Test.YtknebjfdggimcaaGTail
import Derived.Deep.DeepCutAuto
import Derived.RegionTactic
import Derived.Deep.RegionHeld3
import Derived.Deep.RegionLaw
import Derived.Deep.RegionWith
namespace Go.Proofs.Ytknebjfdggimcaa
open Go.RowKit Go.Proofs.Ytknebjfdggimcaa.Rv

/-- The document's buffer at block g: where what is ready lies, where its parts. -/
structure DA (C : Nat) (R : Nat → Prop) (g : Nat) (ra : Option Addr) (rc : Nat) (pa : Option Addr) (pc : Nat) (ps : List DP) (s : DSt) (w : World) : Prop where
  blk : w.heap[g]? = some (.cells #[.int .i64 (s.sz : Nat), .int .u32 (s.next : Nat), .slice ra s.ready.length rc, .slice pa ps.length pc, .int .i64 (s.turn : Nat)] 51 (0, 0))
  rdy : OwnT C ra s.ready rc w
  own : OwnR 84 3 DC C pa ps pc w
  oct : ∀ p ∈ ps, Bts w p.2.1.1 p.2.1.2.1
  map : ps.map dpt = s.parts
  gr : ∀ k o, ra = some ⟨k, o, none⟩ → k ≠ g
  gp : pa ≠ some ⟨g, 0, none⟩
  rp : ∀ k o, ra = some ⟨k, o, none⟩ → pa ≠ some ⟨k, 0, none⟩
  go : ∀ p ∈ ps, ∀ k o fr, p.2.1.1 = some ⟨k, o, fr⟩ → k ≠ g ∧ pa ≠ some ⟨k, 0, none⟩ ∧ ∀ o', ra ≠ some ⟨k, o', none⟩
  ig : R g
  ir : ∀ k o, ra = some ⟨k, o, none⟩ → R k
  ip : ∀ k, pa = some ⟨k, 0, none⟩ → R k
  io : ∀ p ∈ ps, ∀ k o fr, p.2.1.1 = some ⟨k, o, fr⟩ → R k
theorem DA.turned {S R : Nat → Prop} {C g rc pc : Nat} {ra pa : Option Addr} {ps : List DP} {s : DSt} {w w' : World} (h : DA C R g ra rc pa pc ps s w) (ht : Turns S w w') (hS : ∀ k, R k → ¬ S k) : DA C R g ra rc pa pc ps s w' :=
  ⟨ht.blk h.blk (hS g h.ig), h.rdy.turned ht (fun k o e => hS k (h.ir k o e)), h.own.turned ht (fun k e => hS k (h.ip k e)), fun p hp => (h.oct p hp).turned ht (fun k o e => hS k (h.io p hp k o none e)), h.map, h.gr, h.gp, h.rp, h.go, h.ig, h.ir, h.ip, h.io⟩
theorem DA.below {R : Nat → Prop} {C g rc pc : Nat} {ra pa : Option Addr} {ps : List DP} {s : DSt} {w w' : World} (h : DA C R g ra rc pa pc ps s w) (hb : Below w.heap.size w w') : DA C R g ra rc pa pc ps s w' :=
  ⟨(hb.block g (blk_lt h.blk)).trans h.blk, h.rdy.below hb, h.own.below hb, fun p hp => (h.oct p hp).below hb, h.map, h.gr, h.gp, h.rp, h.go, h.ig, h.ir, h.ip, h.io⟩
theorem DA.mono {R R' : Nat → Prop} {C g rc pc : Nat} {ra pa : Option Addr} {ps : List DP} {s : DSt} {w : World} (h : DA C R g ra rc pa pc ps s w) (hR : ∀ k, R k → R' k) : DA C R' g ra rc pa pc ps s w :=
  ⟨h.blk, h.rdy, h.own, h.oct, h.map, h.gr, h.gp, h.rp, h.go, hR _ h.ig, fun k o e => hR _ (h.ir k o e), fun k e => hR _ (h.ip k e), fun p hp k o fr e => hR _ (h.io p hp k o fr e)⟩

set_option maxHeartbeats 400000 in
theorem rnew_no (sz : Int) (un : Int) (w : World) (h : ¬ (1 ≤ sz ∧ sz ≤ 1048576)) :
    Calls Try.prog 8 #[.int .i64 sz, .int .u32 un] w fun e w' => e = .returned (.tuple #[.pointer none, .int .i64 4]) ∧ w = w' := by
  by_cases h1 : sz < 1
  case pos =>
    clear h
    go_enter Try.func8, Try.ntmps8
    go_wp2
    go_ret2
    exact ⟨rfl, rfl⟩
  case neg =>
    have h2 : 1048576 < sz := by omega
    clear h
    go_enter Try.func8, Try.ntmps8
    go_wp2
    go_ret2
    exact ⟨rfl, rfl⟩
set_option maxHeartbeats 400000 in
theorem rnew_ok (n : Nat) (un : Nat) (w : World) (h0 : 1 ≤ n) (h1 : n ≤ 1048576) :
    Calls Try.prog 8 #[.int .i64 n, .int .u32 (un : Nat)] w fun e w' => e = .returned (.tuple #[.pointer (some ⟨w.heap.size, 0, none⟩), .int .i64 0]) ∧ w' = w.alloc (.cells #[.int .i64 n, .int .u32 (un : Nat), .slice none 0 0, .slice none 0 0, .int .i64 0] 51) := by
  have i1 : (1 : Int) ≤ (n : Int) := by omega
  have i2 : (n : Int) ≤ 1048576 := by omega
  go_enter Try.func8, Try.ntmps8
  go_wp2
  go_ret2
  exact ⟨rfl, rfl⟩
theorem da_new (C n un : Nat) (w : World) : DA C (fun k => k = w.heap.size) w.heap.size none 0 none 0 [] ⟨n, un, [], [], 0⟩ (w.alloc (.cells #[.int .i64 n, .int .u32 (un : Nat), .slice none 0 0, .slice none 0 0, .int .i64 0] 51)) :=
  ⟨blk_new w _, ownT_nil _ _, ownR_nil _ _ _ _ _, (fun _ h => absurd h List.not_mem_nil), rfl, (fun _ _ e => by cases e), (fun e => by cases e), (fun _ _ e => by cases e), (fun _ h => absurd h List.not_mem_nil), rfl, (fun _ _ e => by cases e), (fun _ e => by cases e), fun _ h => absurd h List.not_mem_nil⟩

variable {R : Nat → Prop} {C g rc pc : Nat} {ra pa : Option Addr} {ps : List DP} {s : DSt}
set_option maxRecDepth 100000 in
set_option maxHeartbeats 1000000 in
theorem rwindow_at (w : World) (h : DA C R g ra rc pa pc ps s w) (h1 : s.sz ≤ 1048576) (h2 : s.ready.length ≤ s.sz) :
    Calls Try.prog 22 #[.pointer (some ⟨g, 0, none⟩)] w fun e w' => e = .returned (.int .i64 (s.sz - s.ready.length : Nat)) ∧ Below w.heap.size w w' := by
  have c0 := blk_cell h.blk 0
  have c2 := blk_cell h.blk 2
  have W : IntKind.i64.wrap ((s.sz : Int) - (s.ready.length : Int)) = ((s.sz - s.ready.length : Nat) : Int) := by rw [IntWalk.i64_in _ ⟨by omega, by omega⟩]; omega
  clear h
  go_enter Try.func22, Try.ntmps22
  go_wp2_with fail
  go_quiet (fail)
  go_wp2
  go_ret
  exact ⟨rfl, below_drewN (Below.refl _ _) _⟩

set_option maxHeartbeats 1000000 in
theorem rgrow_no (w : World) (h : DA C R g ra rc pa pc ps s w) (k : Int) (hk : ¬ ((s.sz : Int) ≤ k ∧ k ≤ 1048576)) :
    Calls Try.prog 18 #[.pointer (some ⟨g, 0, none⟩), .int .i64 k] w fun e w' => e = .returned (.int .i64 4) ∧ w = w' := by
  have c0 := blk_cell h.blk 0
  by_cases h1 : k < (s.sz : Int)
  case pos =>
    clear h hk
    go_enter Try.func18, Try.ntmps18
    go_wp2
    go_ret
    exact ⟨rfl, rfl⟩
  case neg =>
    have h2 : 1048576 < k := by omega
    clear h hk
    go_enter Try.func18, Try.ntmps18
    go_wp2
    go_ret
    exact ⟨rfl, rfl⟩
set_option maxHeartbeats 1000000 in
theorem rgrow_at (w : World) (h : DA C R g ra rc pa pc ps s w) (k : Nat) (h1 : s.sz ≤ k) (h2 : k ≤ 1048576) :
    Calls Try.prog 18 #[.pointer (some ⟨g, 0, none⟩), .int .i64 (k : Nat)] w fun e w' => e = .returned (.int .i64 0) ∧ DA C R g ra rc pa pc ps (dGrow s k) w' ∧ Turns R w w' := by
  have H := Lib.hid h
  have c0 := blk_cell h.blk 0
  have f0 := blk_free h.blk 0
  have i1 : ¬ ((k : Int) < (s.sz : Int)) := by omega
  have i2 : ¬ (1048576 < (k : Int)) := by omega
  clear h
  go_enter Try.func18, Try.ntmps18
  go_wp2
  go_ret
  have s9 := blk_set H.out.blk 0 (.int .i64 (k : Nat))
  have g6 := gr_set w g 0 (.int .i64 (k : Nat))
  have ht : Turns (fun z => z = g) w (w.setCell ⟨g, 0, none⟩ (.int .i64 (k : Nat))) := Turns.of_grown (fun z e => by cases e; rfl) g6
  refine ⟨rfl, ⟨s9, H.out.rdy.turned ht (fun z o e => H.out.gr z o e), H.out.own.turned ht (fun z e e2 => H.out.gp (by rw [e, e2])), fun p hp => (H.out.oct p hp).turned ht (fun z o e => (H.out.go p hp z o none e).1), H.out.map, H.out.gr, H.out.gp, H.out.rp, H.out.go, H.out.ig, H.out.ir, H.out.ip, H.out.io⟩, ht.mono (fun z e => by rw [e]; exact H.out.ig)⟩

set_option maxHeartbeats 1000000 in
theorem rread_no (k : Int) (w : World) (hk : k < 0) :
    Calls Try.prog 15 #[.pointer (some ⟨g, 0, none⟩), .int .i64 k] w fun e w' => e = .returned (.tuple #[.slice none 0 0, .int .i64 4]) ∧ w = w' := by
  go_enter Try.func15, Try.ntmps15
  go_wp2
  go_ret2
  exact ⟨rfl, rfl⟩
set_option maxRecDepth 100000 in
set_option maxHeartbeats 2000000 in
theorem rread_at (w : World) (h : DA C R g ra rc pa pc ps s w) (k : Int) (m : Nat) (hk : 0 ≤ k) (hm : min k (s.ready.length : Int) = (m : Int)) :
    Calls Try.prog 15 #[.pointer (some ⟨g, 0, none⟩), .int .i64 k] w fun e w' => (∃ a c, e = .returned (.tuple #[.slice a m c, .int .i64 0]) ∧ Bts w' a (s.ready.take m)) ∧ (∃ ra' rc', DA C R g ra' rc' pa pc ps (dRead s m) w') ∧ Turns R w w' := by
  have H := Lib.hid h
  have c2 := blk_cell h.blk 2
  have f2 := blk_free h.blk 2
  have hcl := h.rdy.capLe
  have hcm : rc ≤ 9223372036854775807 := hcl.2
  have k1 : ¬ (k < 0) := by omega
  have hmr : m ≤ s.ready.length := by omega
  have k2 : ¬ ((rc : Int) < (m : Int)) := by omega
  have k3 : ¬ ((s.ready.length : Int) < (m : Int)) := by omega
  clear h
  go_enter Try.func15, Try.ntmps15
  go_wp2_with fail
  all_goals
    go_ret2
    have hT : ∀ v, Turns (fun z => z = g) w (w.setCell ⟨g, 2, none⟩ v) := fun v => Turns.set (S := fun z => z = g) (Turns.refl _ w) rfl 2 v
    have hOut : ∀ v, Bts (w.setCell ⟨g, 2, none⟩ v) ra (s.ready.take m) := fun v => (H.out.rdy.bts.take m).turned (hT v) (fun z o e => H.out.gr z o e)
    have key : ∀ (ra' : Option Addr) (rc' : Nat), OwnT C ra' (s.ready.drop m) rc' w → (∀ z o, ra' = some ⟨z, o, none⟩ → ∃ o', ra = some ⟨z, o', none⟩) → DA C R g ra' rc' pa pc ps (dRead s m) (w.setCell ⟨g, 2, none⟩ (.slice ra' (s.ready.length - m) rc')) := fun ra' rc' hO hz =>
      ⟨by have h9 := blk_set H.out.blk 2 (.slice ra' (s.ready.length - m) rc'); show _ = some (Obj.cells #[Value.int .i64 (s.sz : Nat), Value.int .u32 (s.next : Nat), Value.slice ra' (s.ready.drop m).length rc', Value.slice pa ps.length pc, Value.int .i64 (s.turn : Nat)] 51 (0, 0)); rw [List.length_drop]; exact h9, hO.turned (hT _) (fun z o e => by obtain ⟨o', e'⟩ := hz z o e; exact H.out.gr z o' e'), H.out.own.turned (hT _) (fun z e e2 => H.out.gp (by rw [e, e2])), fun p hp => (H.out.oct p hp).turned (hT _) (fun z o e => (H.out.go p hp z o none e).1), H.out.map, fun z o e => (by obtain ⟨o', e'⟩ := hz z o e; exact H.out.gr z o' e'), H.out.gp, fun z o e => (by obtain ⟨o', e'⟩ := hz z o e; exact H.out.rp z o' e'), fun p hp z o fr e => ⟨(H.out.go p hp z o fr e).1, (H.out.go p hp z o fr e).2.1, fun o' e2 => by obtain ⟨o2, e3⟩ := hz z o' e2; exact (H.out.go p hp z o fr e).2.2 o2 e3⟩, H.out.ig, fun z o e => (by obtain ⟨o', e'⟩ := hz z o e; exact H.out.ir z o' e'), H.out.ip, H.out.io⟩
    first
    | (have hcd : rc = m := by assumption
       refine ⟨⟨ra, ⟨m, rfl⟩, hOut _⟩, ⟨ra, 0, key ra 0 ?_ (fun z o e => ⟨o, e⟩)⟩, (hT _).mono (fun z e => by rw [e]; exact H.out.ig)⟩
       rw [List.drop_eq_nil_of_le (by omega)]
       exact H.out.rdy.none)
    | (have hcd : ¬ rc = m := by assumption
       refine ⟨⟨ra, ⟨rc, rfl⟩, hOut _⟩, ⟨Option.map (fun x => x.add m) ra, rc - m, key _ _ (H.out.rdy.drop m hmr) ?_⟩, (hT _).mono (fun z e => by rw [e]; exact H.out.ig)⟩
       intro z o e
       rcases H.out.rdy.2 with ⟨rfl, _, _⟩ | ⟨g', off, cur, rfl, _⟩
       · cases e
       · have e2 : Option.map (fun x : Addr => x.add m) (some ⟨g', off, none⟩) = some ⟨g', off + m, none⟩ := by simp only [Option.map_some]; unfold Addr.add; split <;> simp_all
         rw [e2] at e
         cases e
         exact ⟨off, rfl⟩)
end Go.Proofs.Ytknebjfdggimcaa

namespace Go.Proofs.Ytknebjfdggimcaa
open Go.RowKit Go.Proofs.Ytknebjfdggimcaa.Rv

/-- Numbers of the document's buffer. -/
structure DN (s : DSt) (ps : List DP) : Prop where
  sz : s.sz ≤ 1048576
  rd : s.ready.length ≤ s.sz
  nx : s.next < 4294967296
  tn : s.turn ≤ 4611686018427387904
  pl : ps.length ≤ 2000
  pb : ∀ p ∈ ps, 0 < p.2.1.2.1.length ∧ p.1 + p.2.1.2.1.length ≤ 1048576
variable {R : Nat → Prop} {C g rc pc : Nat} {ra pa : Option Addr} {ps : List DP} {s : DSt}

theorem rmerged_no (w : World) (h : DA C R g ra rc pa pc ps s w) (N : DN s ps) (l m : Nat) (xa : Option Addr) (xc : Nat) (d : List Nat) (hm : d.length = m) (hk : l + d.length ≤ 1048576) (hA : ¬ Adds s.parts l d) :
    Calls Try.prog 34 #[.slice pa ps.length pc, .int .i64 (l : Nat), .slice xa m xc, .int .i64 (s.turn + 1 : Nat)] w fun e w' => e = .returned (.tuple #[.slice pa ps.length pc, .bool false]) ∧ Below w.heap.size w w' := by
  subst hm
  refine merged_no pa pc ps l xa xc d (s.turn + 1) w ⟨h.oct, (h.own.sts encD).2⟩ (by have := N.pl; omega) (by omega) (fun p hp => by have := (N.pb p hp).2; omega) (by rw [h.map]; exact hA)
theorem rmerged_yes (w : World) (h : DA C R g ra rc pa pc ps s w) (N : DN s ps) (l m : Nat) (xa : Option Addr) (xc : Nat) (d : List Nat) (X : Bts w xa d) (hm : d.length = m) (hk : l + d.length ≤ 1048576) (hA : Adds s.parts l d) (hlh : lowF s.parts l d ≤ highF s.parts l d) (hh2 : highF s.parts l d ≤ 1048576) (hcv : ∀ j, lowF s.parts l d ≤ j → j < highF s.parts l d → atF s.parts j = none → l ≤ j ∧ j < l + d.length) (p : DPt) (t : List DPt) (hM : mergF s.parts l d (s.turn + 1) = p :: t) :
    Calls Try.prog 34 #[.slice pa ps.length pc, .int .i64 (l : Nat), .slice xa m xc, .int .i64 (s.turn + 1 : Nat)] w fun e w' => ∃ (ga c' : Nat) (P : DP) (T : List DP), e = .returned (.tuple #[.slice (some ⟨ga, 0, none⟩) (T.length + 1) c', .bool true]) ∧ dpt P = p ∧ T.map dpt = t ∧ OwnR 84 3 DC w.heap.size (some ⟨ga, 0, none⟩) (P :: T) c' w' ∧ (∀ x ∈ P :: T, Bts w' x.2.1.1 x.2.1.2.1) ∧ (∀ x ∈ P :: T, ∀ k o fr, x.2.1.1 = some ⟨k, o, fr⟩ → (∃ y ∈ ps, y.2.1.1 = some ⟨k, o, fr⟩) ∨ (w.heap.size ≤ k ∧ k ≠ ga)) ∧ Below w.heap.size w w' := by
  subst hm
  have hmap := h.map
  rw [← hmap] at hA hlh hh2 hcv hM
  refine (merged_yes pa pc ps l xa xc d (s.turn + 1) w ⟨h.oct, (h.own.sts encD).2⟩ X (by have := N.pl; omega) (by omega) (fun p hp => by have := (N.pb p hp).2; omega) hA hlh (by omega) hcv).mono ?_
  rintro e w' ⟨a', c', b, bc, rfl, hO, hX, hb, hB⟩
  have hmap2 := outD_map (ps := ps) (qD_new ps l d (s.turn + 1) b bc)
  rw [hM] at hmap2
  have hmem : ∀ x ∈ outD (lowF (ps.map dpt) l d) (highF (ps.map dpt) l d) (qD ps l d (s.turn + 1) b bc) ps, x = qD ps l d (s.turn + 1) b bc ∨ x ∈ ps := outD_mem
  generalize outD (lowF (ps.map dpt) l d) (highF (ps.map dpt) l d) (qD ps l d (s.turn + 1) b bc) ps = ol at hO hmap2 hmem ⊢
  cases ol with
  | nil => cases hmap2
  | cons P T =>
    rw [List.map_cons] at hmap2
    obtain ⟨e1, e2⟩ := List.cons.inj hmap2
    obtain ⟨ga, rfl, hg1, hg2⟩ := hO.isSome (by simp)
    refine ⟨ga, c', P, T, by rw [List.length_cons], e1, e2, hO, ?_, ?_, hB⟩
    · intro x hx
      rcases hmem x hx with rfl | h1
      · exact hX
      · exact (h.oct x h1).below hB
    · intro x hx k o fr e
      rcases hmem x hx with rfl | h1
      · obtain ⟨h2, h3⟩ := hb k o fr e
        exact .inr ⟨h2, fun e3 => h3 (by rw [e3])⟩
      · exact .inl ⟨x, h1, e⟩
/-- A row's cells, one's own. -/
theorem OwnR.cells3 {e : TypeId} {B ga cap : Nat} {xs : List DP} {w : World} (h : OwnR e 3 DC B (some ⟨ga, 0, none⟩) xs cap w) : ∃ cs, w.heap[ga]? = some (.cells cs e (0, 0)) ∧ ∀ i x, xs[i]? = some x → ∀ j v, (DC x)[j]? = some v → cs[i * 3 + j]? = some v := by
  have hs := h.sts encD
  rcases h with ⟨h0, _⟩ | ⟨g, h0, hB, hr⟩
  · cases h0
  · cases h0
    rcases hr.2 with ⟨h1, _⟩ | ⟨g', cap', cur, e1, h1, h2, h3⟩
    · cases h1
    · cases e1
      refine ⟨cur, h2, fun i x hi j v hj => ?_⟩
      rcases hs.2 with h0 | ⟨b, off, e2, hb, hc⟩
      · rw [h0] at hi; simp at hi
      · cases e2
        have h5 := hc i x hi j v hj
        rw [Nat.zero_add] at h5
        rwa [blk_cell h2] at h5
set_option maxHeartbeats 1000000 in
theorem rins_long (w : World) (q : Nat) (da : Option Addr) (dc : Nat) (ds : List Nat) (hdl : 65535 < ds.length) :
    Calls Try.prog 12 #[.pointer (some ⟨g, 0, none⟩), .int .u32 (q : Nat), .slice da ds.length dc] w fun e w' => e = .returned (.tuple #[.int .i64 0, .int .i64 5]) ∧ w = w' := by
  have k1 : (65535 : Int) < (ds.length : Int) := by omega
  go_enter Try.func12, Try.ntmps12
  go_wp2
  go_ret2
  exact ⟨rfl, rfl⟩
set_option maxRecDepth 100000 in
set_option maxHeartbeats 1000000 in
theorem rins_past (w : World) (h : DA C R g ra rc pa pc ps s w) (N : DN s ps) (q : Nat) (hq : q < 4294967296) (da : Option Addr) (dc : Nat) (ds : List Nat) (hdl : ds.length ≤ 65535) (hA : s.sz - s.ready.length ≤ dist q s.next ∧ dist q s.next < 2147483648) :
    Calls Try.prog 12 #[.pointer (some ⟨g, 0, none⟩), .int .u32 (q : Nat), .slice da ds.length dc] w fun e w' => e = .returned (.tuple #[.int .i64 0, .int .i64 0]) ∧ Below w.heap.size w w' := by
  obtain ⟨x, hx⟩ : ∃ z, dist q s.next = z := ⟨_, rfl⟩
  have nx := N.nx
  have W1 : IntKind.u32.wrap ((q : Int) - (s.next : Int)) = (x : Int) := by rw [IntKind.wrap_u32]; unfold dist at hx; omega
  rw [hx] at hA
  have k0 : ¬ ((65535 : Int) < (ds.length : Int)) := by omega
  have c1 := blk_cell h.blk 1
  have HA := Lib.hid h
  obtain ⟨wn, hwn⟩ : ∃ z, s.sz - s.ready.length = z := ⟨_, rfl⟩
  have n1 := N.sz
  have n2 := N.rd
  clear h
  have W2 : IntKind.i32.wrap (x : Int) = (x : Int) := by rw [IntKind.wrap_i32]; omega
  have W3 : IntKind.i64.wrap (x : Int) = (x : Int) := IntWalk.i64_in _ ⟨by omega, by omega⟩
  have k1 : ¬ ((x : Int) < 0) := by omega
  rw [hwn] at hA
  have HW := Lib.hid hwn
  have k2 : (wn : Int) ≤ (x : Int) := by omega
  clear hwn hx
  go_enter Try.func12, Try.ntmps12
  go_wp2_with (first
    | (go_at_call 22; refine (rwindow_at _ (HA.out) N.sz N.rd).mono ?_; rintro e V1 ⟨rfl, b⟩; have Q1 := Lib.hid b; rw [HW.out]; clear b)
    | fail)
  go_ret2
  exact ⟨rfl, Q1.out⟩
set_option maxRecDepth 100000 in
set_option maxHeartbeats 1000000 in
theorem rins_behind0 (w : World) (h : DA C R g ra rc pa pc ps s w) (N : DN s ps) (q : Nat) (hq : q < 4294967296) (da : Option Addr) (dc : Nat) (ds : List Nat) (hdl : ds.length ≤ 65535) (hdc : ds.length ≤ dc) (hA : 2147483648 ≤ dist q s.next) (h0 : ds.length ≤ 4294967296 - dist q s.next ∨ s.sz - s.ready.length = 0) :
    Calls Try.prog 12 #[.pointer (some ⟨g, 0, none⟩), .int .u32 (q : Nat), .slice da ds.length dc] w fun e w' => e = .returned (.tuple #[.int .i64 0, .int .i64 0]) ∧ Below w.heap.size w w' := by
  obtain ⟨x, hx⟩ : ∃ z, dist q s.next = z := ⟨_, rfl⟩
  have nx := N.nx
  have W1 : IntKind.u32.wrap ((q : Int) - (s.next : Int)) = (x : Int) := by rw [IntKind.wrap_u32]; unfold dist at hx; omega
  rw [hx] at hA
  have k0 : ¬ ((65535 : Int) < (ds.length : Int)) := by omega
  have c1 := blk_cell h.blk 1
  have HA := Lib.hid h
  obtain ⟨wn, hwn⟩ : ∃ z, s.sz - s.ready.length = z := ⟨_, rfl⟩
  have n1 := N.sz
  have n2 := N.rd
  clear h
  obtain ⟨y, hy⟩ : ∃ y, 4294967296 - x = y := ⟨_, rfl⟩
  have hxb : x < 4294967296 := by rw [← hx]; exact Nat.mod_lt _ (by decide)
  have W2 : IntKind.i32.wrap (x : Int) = -(y : Int) := by rw [IntKind.wrap_i32]; omega
  have W3 : IntKind.i64.wrap (-(y : Int)) = -(y : Int) := IntWalk.i64_in _ ⟨by omega, by omega⟩
  have W4 : IntKind.i64.wrap (y : Int) = (y : Int) := IntWalk.i64_in _ ⟨by omega, by omega⟩
  have k1 : -(y : Int) < 0 := by omega
  have k1' : 0 < y := by omega
  have k1'' : (0 : Int) < (y : Int) := by omega
  obtain ⟨k, hk⟩ : ∃ k, min y ds.length = k := ⟨_, rfl⟩
  have hmin : min (y : Int) (ds.length : Int) = (k : Int) := by omega
  have k2 : ¬ ((dc : Int) < (k : Int)) := by omega
  have k3 : ¬ ((ds.length : Int) < (k : Int)) := by omega
  have k4 : (k : Int) ≤ (ds.length : Int) := by omega
  have k5 : (k : Int) ≤ (dc : Int) := by omega
  obtain ⟨m, hm⟩ : ∃ m, ds.length - k = m := ⟨_, rfl⟩
  rw [hx, hy, hwn] at h0
  have HW := Lib.hid hwn
  clear hwn hx
  by_cases hm0 : m = 0
  case pos =>
    subst hm0
    clear h0
    go_enter Try.func12, Try.ntmps12
    go_wp2_with fail
    all_goals
      go_ret2
      exact ⟨rfl, Below.refl _ _⟩
  case neg =>
    obtain rfl : wn = 0 := by omega
    have k6 : ((m : Int) == 0) = false := by rw [beq_eq_false_iff_ne]; omega
    clear h0
    go_enter Try.func12, Try.ntmps12
    go_wp2_with (first
      | (go_at_call 22; refine (rwindow_at _ (HA.out) N.sz N.rd).mono ?_; rintro e V1 ⟨rfl, b⟩; have Q1 := Lib.hid b; rw [HW.out]; clear b)
      | fail)
    all_goals
      go_ret2
      exact ⟨rfl, Q1.out⟩
end Go.Proofs.Ytknebjfdggimcaa
