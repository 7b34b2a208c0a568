/- Packets that wait: how they lie, when each leaves; Len and Less. -/
import Derived.Test.YthbiadhnlomhmaaPhT
import Derived.Test.YthbiadhnlomhmaaPhM
import Derived.Test.YthbiadhnlomhmaaGSet
import Derived.Test.YthbiadhnlomhmaaGOwnA
namespace Go.Proofs.Ythbiadhnlomhmaa
open Go.RowKit Go.Proofs.Ythbiadhnlomhmaa.Ph

/-- A packet by its number. -/
abbrev PKC (D : Nat → Int) (k : Nat) : List Value := [.int .i64 (k : Nat), .int .i64 (D k), .int .i64 (k : Nat)]
theorem encP (D : Nat → Int) : Enc 3 (PKC D) := ⟨fun _ => rfl, fun x u hu => by
  simp only [PKC, List.mem_cons, List.not_mem_nil, or_false] at hu
  rcases hu with rfl | rfl | rfl <;> rfl, by decide⟩
theorem elemP : Elem 45 51 (.agg #[.int .i64 0, .int .i64 0, .int .i64 0]) 3 24 := ⟨Try.underlying45, by kernel_rfl, rfl, by decide⟩
theorem rowP : Row 51 3 := ⟨⟨_, Try.underlying51, rfl⟩, by kernel_rfl⟩
theorem pkt_at {D : Nat → Int} {w : World} {a : Option Addr} {xs : List Nat} (h : Sts 3 (PKC D) Tr w a xs) {i : Nat} (hi : i < xs.length) : ∃ b off, a = some ⟨b, off, none⟩ ∧ b < w.heap.size ∧ w.cell? ⟨b, off + i * 3, none⟩ = some (.int .i64 (at0 xs i : Nat)) ∧ w.cell? ⟨b, off + i * 3 + 1, none⟩ = some (.int .i64 (D (at0 xs i))) ∧ w.cell? ⟨b, off + i * 3 + 2, none⟩ = some (.int .i64 (at0 xs i : Nat)) := by
  obtain ⟨b, off, e, hb, h2⟩ := h.isSomeT (by omega)
  have hx : xs[i]? = some (at0 xs i) := by unfold at0; rw [List.getD_eq_getElem?_getD, List.getElem?_eq_getElem hi]; rfl
  exact ⟨b, off, e, hb, h2 i _ hx 0 _ rfl, h2 i _ hx 1 _ rfl, h2 i _ hx 2 _ rfl⟩

set_option maxHeartbeats 1000000 in
theorem wlen_any (a : Option Addr) (n c : Nat) (w : World) : Calls Try.prog 32 #[.slice a n c] w fun e w' => e = .returned (.int .i64 (n : Nat)) ∧ w = w' := by
  go_enter Try.func32, Try.ntmps32
  go_wp2
  go_ret
  exact ⟨rfl, rfl⟩

set_option maxRecDepth 100000 in
set_option maxHeartbeats 1000000 in
theorem less_any (D : Nat → Int) (hm : ∀ i j, i ≤ j → D i ≤ D j) (a : Option Addr) (xs : List Nat) (cap i j : Nat) (w : World) (h : Sts 3 (PKC D) Tr w a xs) (hi : i < xs.length) (hj : j < xs.length) :
    Calls Try.prog 33 #[.slice a xs.length cap, .int .i64 (i : Nat), .int .i64 (j : Nat)] w fun e w' => e = .returned (.bool (decide (at0 xs i < at0 xs j))) ∧ Below w.heap.size w w' := by
  obtain ⟨b, off, rfl, hb, _, c1, c2⟩ := pkt_at h hi
  obtain ⟨b', off', e, _, _, d1, d2⟩ := pkt_at h hj
  cases e
  generalize hx : at0 xs i = x at c1 c2 ⊢
  generalize hy : at0 xs j = y at d1 d2 ⊢
  have h1 := hm x y
  have h2 := hm y x
  generalize D x = dx at c1 h1 h2
  generalize D y = dy at d1 h1 h2
  have i1 : (i : Int) < (xs.length : Int) := by omega
  have i2 : (j : Int) < (xs.length : Int) := by omega
  have i0 : ¬ (i : Int) < 0 := by omega
  have i00 : ¬ (j : Int) < 0 := by omega
  by_cases hd : dx = dy
  · have e1 : (dx != dy) = false := by rw [hd]; simp
    have HV : Hid (decide ((x : Int) < (y : Int)) = decide (x < y)) := Lib.hid (by by_cases hxy : x < y <;> simp [hxy])
    clear h1 h2 hm h hx hy hd hb
    go_enter Try.func33, Try.ntmps33
    go_wp2
    go_quiet (fail)
    go_wp2
    go_quiet (fail)
    go_wp2
    go_ret
    exact ⟨by first | rfl | (rw [HV.out] <;> rfl), below_drewN (below_drewN (Below.refl _ _) _) _⟩
  · have e1 : (dx != dy) = true := by rw [bne_iff_ne]; exact hd
    have HV : Hid (decide (dx < dy) = decide (x < y)) := Lib.hid (by
      by_cases hxy : x < y
      · have := h1 (by omega)
        simp [hxy]; omega
      · have := h2 (by omega)
        simp [hxy]; omega)
    clear h1 h2 hm h hx hy hd hb
    go_enter Try.func33, Try.ntmps33
    go_wp2
    go_quiet (fail)
    go_wp2
    go_quiet (fail)
    go_wp2
    go_ret
    exact ⟨by first | rfl | (rw [HV.out] <;> rfl), below_drewN (below_drewN (Below.refl _ _) _) _⟩
end Go.Proofs.Ythbiadhnlomhmaa
