/- What ipwire.BuildIcmp gives. -/
import Derived.Test.YtpdlmgafkjmjpaaIpC
import Derived.Test.YtpdlmgafkjmjpaaSum
import Derived.Deep.RegionHeld3
namespace Go.Proofs.Ytpdlmgafkjmjpaa
open Go.RowKit

/-- A message's octets. -/
def icmpHd (ty co c re : Nat) : List Nat := [ty, co] ++ Mt.octs c 2 ++ Mt.octs re 4
def icmpC (ty co re : Nat) (ds : List Nat) : Nat := 65535 - Mt.sumO (icmpHd ty co 0 re ++ ds)
def icmpO (ty co re : Nat) (ds : List Nat) : List Nat := icmpHd ty co (icmpC ty co re ds) re ++ ds

theorem icmp_splices (ty co re c : Nat) (ds : List Nat) (N : Nat) (hN : N = 8 + ds.length) :
    splice (splice (splice (((List.replicate N 0).set 0 ty).set 1 co) 4 (Mt.octs re 4)) 8 ds) 2 (Mt.octs c 2) = icmpHd ty co c re ++ ds
    ∧ splice (splice (((List.replicate N 0).set 0 ty).set 1 co) 4 (Mt.octs re 4)) 8 ds = icmpHd ty co 0 re ++ ds := by
  have e0 : List.replicate N 0 = [] ++ List.replicate N 0 := rfl
  have hr : ∀ k m, (List.replicate k (0 : Nat)).drop m = List.replicate (k - m) 0 := fun k m => by rw [List.drop_replicate]
  have o2 := fun a => Mt.octs_length a 2
  have o4 := fun a => Mt.octs_length a 4
  have key : splice (splice (((List.replicate N 0).set 0 ty).set 1 co) 4 (Mt.octs re 4)) 8 ds = icmpHd ty co 0 re ++ ds := by
    rw [set_splice _ 0 ty (by rw [List.length_replicate]; omega), e0, splice_at [] [ty] _ 0 1 rfl rfl, hr]
    rw [set_splice _ 1 co (by simp; omega), splice_at ([] ++ [ty]) [co] _ 1 1 rfl rfl, hr]
    have ez : List.replicate (N - 1 - 1) (0 : Nat) = Mt.octs 0 2 ++ List.replicate (N - 4) 0 := by
      have e1 : N - 1 - 1 = 2 + (N - 4) := by omega
      rw [e1, ← List.replicate_append_replicate]
      rfl
    rw [ez, ← List.append_assoc]
    rw [splice_at ([] ++ [ty] ++ [co] ++ Mt.octs 0 2) _ _ 4 4 (by simp [o2]) (o4 _), hr]
    rw [splice_at ([] ++ [ty] ++ [co] ++ Mt.octs 0 2 ++ Mt.octs re 4) _ _ 8 ds.length (by simp [o2, o4]) rfl, hr]
    have e9 : N - 4 - 4 - ds.length = 0 := by omega
    rw [e9]
    simp [icmpHd]
  refine ⟨?_, key⟩
  rw [key]
  have e : icmpHd ty co 0 re ++ ds = [ty, co] ++ (Mt.octs 0 2 ++ (Mt.octs re 4 ++ ds)) := by simp [icmpHd]
  rw [e, splice_at _ _ _ 2 2 rfl (o2 _), List.drop_left' (o2 0)]
  simp [icmpHd]

theorem icmpO_len (ty co re : Nat) (ds : List Nat) : (icmpO ty co re ds).length = 8 + ds.length := by
  simp [icmpO, icmpHd, Mt.octs_length]; omega

set_option maxRecDepth 100000 in
set_option maxHeartbeats 4000000 in
theorem icmpB_core (ty co re : Nat) (da : Option Addr) (ds : List Nat) (dc : Nat) (w : World) (N C : Nat) (A0 A1 A2 A3 A4 A5 : List Nat) (hN : N = 8 + ds.length) (hNu : N ≤ 65535) (hC : C < 65536)
    (e0 : List.replicate N 0 = A0) (e1 : A0.set 0 ty = A1) (e2 : A1.set 1 co = A2) (e3 : splice A2 4 (Mt.octs re 4) = A3) (e4 : splice A3 8 ds = A4) (e5 : splice A4 2 (Mt.octs C 2) = A5)
    (l0 : A0.length = N) (l2 : A2.length = N) (l3 : A3.length = N) (l4 : A4.length = N)
    (hsum : ∀ g c W, Bts W (some ⟨g, 0, none⟩) A4 → Calls Try.prog 59 #[.slice (some ⟨g, 0, none⟩) N c] W fun e W' => e = .returned (.int .u16 (C : Nat)) ∧ Below W.heap.size W W')
    (hty : ty < 256) (hco : co < 256) (hre : re < 4294967296) (hy : Bts w da ds) :
    Calls Try.prog 53 #[.agg #[.int .u8 ty, .int .u8 co, .int .u32 re, .slice da ds.length dc]] w fun e w' => ∃ g cap', e = .returned (.tuple #[.slice (some ⟨g, 0, none⟩) N cap', .int .i64 0]) ∧ OwnSl (w.heap.size + 1) (some ⟨g, 0, none⟩) A5 cap' w' ∧ Below w.heap.size w w' := by
  have Y0 := Lib.hid hy
  have Hsum := Lib.hid hsum
  have xN : (8 : Int) + (ds.length : Int) = ((N : Nat) : Int) := by omega
  have XN := Lib.hid xN
  have xre : IntKind.u64.wrap (re : Int) = (re : Int) := IntWalk.u64_in _ (by omega)
  have xC : IntKind.u64.wrap (C : Int) = (C : Int) := IntWalk.u64_in _ (by omega)
  have pre := Lib.hid (show re < 18446744073709551616 ∧ re < 256 ^ 4 from ⟨by omega, by simpa using hre⟩)
  have pC := Lib.hid (show C < 18446744073709551616 ∧ C < 256 ^ 2 from ⟨by omega, by simpa using hC⟩)
  have E := Lib.hid (And.intro e0 (And.intro e1 (And.intro e2 (And.intro e3 (And.intro e4 e5)))))
  have L := Lib.hid (And.intro l0 (And.intro l2 (And.intro l3 l4)))
  have hds := Lib.hid hN
  have dsl : ds.length ≤ 65527 := by omega
  have i2 : (2 : Int) ≤ (N : Int) := by omega
  have i4 : (4 : Int) ≤ (N : Int) := by omega
  have i8 : (8 : Int) ≤ (N : Int) := by omega
  have m0 : (0 : Int) < (N : Int) := by omega
  have m1 : (1 : Int) < (N : Int) := by omega
  have z2 : ¬ N = 2 := by omega
  have z4 : ¬ N = 4 := by omega
  clear hN hC hy hsum xN e0 e1 e2 e3 e4 e5 l0 l2 l3 l4
  have bn := blk_new w (.cells #[.int .u8 ty, .int .u8 co, .int .u32 re, .slice da ds.length dc] 89)
  have hsz : (w.alloc (.cells #[.int .u8 ty, .int .u8 co, .int .u32 re, .slice da ds.length dc] 89)).heap.size = w.heap.size + 1 := by rw [World.size_alloc]
  have bw := (Below.refl _ w).alloc (Nat.le_refl _) (.cells #[.int .u8 ty, .int .u8 co, .int .u32 re, .slice da ds.length dc] 89)
  obtain ⟨i0, hi, hz0, hz1, hz2⟩ := info_parts info5
  have Hz := Lib.hid hz2
  have K0 := Lib.hid bn
  have HS := Lib.hid hsz
  clear bn hsz
  have nG : w.heap.size + 1 ≠ w.heap.size := by omega
  have nG2 : w.heap.size ≠ w.heap.size + 1 := by omega
  go_enter Try.func53, Try.ntmps53
  go_wp2_with (at_make; refine wpList_make_full _ rfl _ _ 22 rfl (w.heap.size + 1) 5 i0 (.int .u8 0) 1 Try.underlying22 hi hz0 hz1 .i64 .i64 _ _ N rfl rfl XN.out XN.out (by rw [Hz.out]; omega) (by unfold maxLen; omega) (Nat.le_of_eq HS.out.symm) ?_; intro V1 hown hgrow; have b := (Below.refl (w.heap.size + 1) _).grown hgrow (Nat.le_of_eq HS.out.symm) (fun k e => by cases e); have k := (b.block w.heap.size (Nat.lt_succ_self _)).trans K0.out; have K1 := Lib.hid k; have r0 := blk_cell k 0; have r1 := blk_cell k 1; have Q1 := Lib.hid (bw.trans (b.mono (Nat.le_succ _))); rw [HS.out] at hown; have O := own_made hown (Nat.le_refl _); rw [E.out.1] at O; have O1 := Lib.hid O; have d0 := O.cellAt 0 (by rw [L.out.1]; omega); have f0 := O.frozenAt 0; have d1 := O.cellAt 1 (by rw [L.out.1]; omega); have f1 := O.frozenAt 1; clear k b O hown hgrow)
  have O := (O1.out.store 0 ty hty).store 1 co hco
  rw [E.out.2.1, E.out.2.2.1] at O
  have O2 := Lib.hid O
  have k := blk_other (blk_other K1.out nG (.int .u8 ty) (i := 0)) nG (.int .u8 co) (i := 1)
  have K2 := Lib.hid k
  have r2 := blk_cell k 2
  have Q2 := Lib.hid ((Q1.out.setCell (p := ⟨w.heap.size + 1, 0, none⟩) (Nat.le_succ _) (.int .u8 ty)).setCell (p := ⟨w.heap.size + 1, 1, none⟩) (Nat.le_succ _) (.int .u8 co))
  clear O k O1 K1 Q1 d0 d1 f0 f1 r0 r1 bw K0 HS
  generalize (V1.setCell ⟨w.heap.size + 1, 0, none⟩ (.int .u8 ty)).setCell ⟨w.heap.size + 1, 1, none⟩ (.int .u8 co) = V2 at O2 K2 Q2 r2 ⊢
  go_region_held3 (fun W => W.cell? ⟨w.heap.size, 2, none⟩ = some (.int .u32 re)) (first | go_keep) (first
    | (go_at_call 57; (with_reducible refine (layd_ipwire (w.heap.size + 1) (w.heap.size + 1) 4 N re 4 (N - 4) A2 A3 V2 O2.out (by omega) (by omega) pre.out.1 pre.out.2 (by rw [L.out.2.1]; omega) E.out.2.2.2.1).mono ?_); rintro e V3 ⟨⟨sv, rfl⟩, O, b⟩; have O3 := Lib.hid O; have k := (b.block w.heap.size (Nat.lt_succ_self _)).trans K2.out; have K3 := Lib.hid k; have u2 := blk_cell k 2; have r3 := blk_cell k 3; have Q3 := Lib.hid (Q2.out.trans (b.mono (Nat.le_succ _))); clear k b O))
  clear O2 K2 Q2 u2
  have Y3 := Lib.hid ((Y0.out.below Q3.out).below (Below.refl _ _).drew)
  have O3d := Lib.hid (O3.out.below (Below.refl _ _).drew)
  have hle : ds.length ≤ N - 8 := by have := hds.out; omega
  have hfit : 8 + ds.length ≤ A3.length := by rw [L.out.2.2.1]; have := hds.out; omega
  by_cases h8 : N = 8
  case' pos =>
    have hd0 : Hid (ds.length = 0) := Lib.hid (by have := hds.out; omega)
    subst h8
  all_goals
    go_wp2_with fail
    go_region_held3 (fun W => W.cell? ⟨w.heap.size, 3, none⟩ = some (.slice da ds.length dc)) (first | go_keep) (first
      | (refine step_copy_bts rfl _ _ rfl (w.heap.size + 1) (w.heap.size + 1) 8 _ _ _ rfl rfl rfl (by first | exact hle | (rw [hd0.out]; exact Nat.zero_le _)) O3d.out Y3.out (by first | exact (fun h => absurd hd0.out (Nat.ne_of_gt h)) | exact (fun _ => rfl)) hfit ?_; intro V4 O g; have b := O3d.out.belowOf g; rw [E.out.2.2.2.2.1] at O; have O4 := Lib.hid O; have k := (b.block w.heap.size (Nat.lt_succ_self _)).trans K3.out; have u3 := blk_cell k 3; have Q4 := Lib.hid (Q3.out.drew.trans (b.mono (Nat.le_succ _))); clear k b g O))
    go_wp2_with fail
    have B4 := Lib.hid ((O4.out.bts).below (Below.refl _ _).drew)
    go_region_held3 (fun _ => True) (first | trivial | go_keep) (first
      | (go_at_call 59; (with_reducible refine (Hsum.out _ _ _ B4.out).mono ?_); rintro e V5 ⟨rfl, b⟩; have O5 := Lib.hid ((O4.out.below (Below.refl _ _).drew).below b); have Q5 := Lib.hid (Q4.out.drew.trans (b.mono Q4.out.size)); clear b)
      | (go_at_call 57; (with_reducible refine (lay_ipwire (w.heap.size + 1) (w.heap.size + 1) 2 _ C 2 _ A4 V5 O5.out (by omega) (by omega) pC.out.1 pC.out.2 (by rw [L.out.2.2.2]; omega)).mono ?_); rintro e V6 ⟨⟨sv6, rfl⟩, O, g⟩; have b := O5.out.belowOf g; rw [E.out.2.2.2.2.2] at O; have O6 := Lib.hid O; have Q6 := Lib.hid (Q5.out.trans (b.mono (Nat.le_succ _))); clear b g O))
    go_wp2
    go_ret2
    exact ⟨_, _, rfl, O6.out, Q6.out⟩

theorem icmpB_ok (ty co re : Nat) (da : Option Addr) (ds : List Nat) (dc : Nat) (w : World) (hl : ds.length ≤ 65527) (hty : ty < 256) (hco : co < 256) (hre : re < 4294967296) (hy : Bts w da ds) :
    Calls Try.prog 53 #[.agg #[.int .u8 ty, .int .u8 co, .int .u32 re, .slice da ds.length dc]] w fun e w' => ∃ g cap', e = .returned (.tuple #[.slice (some ⟨g, 0, none⟩) (8 + ds.length) cap', .int .i64 0]) ∧ OwnSl (w.heap.size + 1) (some ⟨g, 0, none⟩) (icmpO ty co re ds) cap' w' ∧ Below w.heap.size w w' := by
  have hC : icmpC ty co re ds < 65536 := by unfold icmpC; exact Nat.lt_of_le_of_lt (Nat.sub_le _ _) (by decide)
  obtain ⟨fin, mid⟩ := icmp_splices ty co re (icmpC ty co re ds) ds (8 + ds.length) rfl
  obtain ⟨A0, e0⟩ : ∃ A, List.replicate (8 + ds.length) 0 = A := ⟨_, rfl⟩
  have l0 : A0.length = 8 + ds.length := by rw [← e0, List.length_replicate]
  obtain ⟨A1, e1⟩ : ∃ A, A0.set 0 ty = A := ⟨_, rfl⟩
  have l1 : A1.length = 8 + ds.length := by rw [← e1, List.length_set, l0]
  obtain ⟨A2, e2⟩ : ∃ A, A1.set 1 co = A := ⟨_, rfl⟩
  have l2 : A2.length = 8 + ds.length := by rw [← e2, List.length_set, l1]
  obtain ⟨A3, e3⟩ : ∃ A, splice A2 4 (Mt.octs re 4) = A := ⟨_, rfl⟩
  have l3 : A3.length = 8 + ds.length := by rw [← e3, length_splice _ _ _ (by rw [Mt.octs_length]; omega), l2]
  obtain ⟨A4, e4⟩ : ∃ A, splice A3 8 ds = A := ⟨_, rfl⟩
  have l4 : A4.length = 8 + ds.length := by rw [← e4, length_splice _ _ _ (by omega), l3]
  obtain ⟨A5, e5⟩ : ∃ A, splice A4 2 (Mt.octs (icmpC ty co re ds) 2) = A := ⟨_, rfl⟩
  rw [e0, e1, e2, e3, e4] at mid
  rw [e0, e1, e2, e3, e4, e5] at fin
  have h := icmpB_core ty co re da ds dc w (8 + ds.length) (icmpC ty co re ds) A0 A1 A2 A3 A4 A5 rfl (by omega) hC e0 e1 e2 e3 e4 e5 l0 l2 l3 l4
    (fun g c W hb => by
      have h := check_any (some ⟨g, 0, none⟩) A4 c W hb (by omega)
      rw [l4, mid] at h
      exact h) hty hco hre hy
  have hf : A5 = icmpO ty co re ds := fin
  rw [hf] at h
  exact h

/-- What is told of a message that is too long. -/
theorem icmpB_bad (ty co re : Nat) (da : Option Addr) (dn : Nat) (dc : Nat) (w : World) (hl : 65527 < dn) :
    Calls Try.prog 53 #[.agg #[.int .u8 ty, .int .u8 co, .int .u32 re, .slice da dn dc]] w fun e w' => e = .returned (.tuple #[.slice none 0 0, .int .i64 5]) ∧ Below w.heap.size w w' := by
  have bw := (Below.refl _ w).alloc (Nat.le_refl _) (.cells #[.int .u8 ty, .int .u8 co, .int .u32 re, .slice da dn dc] 89)
  go_enter Try.func53, Try.ntmps53
  go_wp2
  go_ret2
  exact ⟨rfl, bw⟩
end Go.Proofs.Ytpdlmgafkjmjpaa
