/- A heap of packets that wait: up where the last one stays; down. -/
import Derived.Test.YthbiadhnlomhmaaPhB
namespace Go.Proofs.Ythbiadhnlomhmaa
open Go.RowKit Go.Proofs.Ythbiadhnlomhmaa.Ph

abbrev hP (p o : Nat) : Value := .iface 49 (.pointer (some ⟨p, o, none⟩))
set_option maxRecDepth 100000 in
set_option maxHeartbeats 1000000 in
theorem up_stay (D : Nat → Int) (hm : ∀ i j, i ≤ j → D i ≤ D j) (p o : Nat) (a : Option Addr) (xs : List Nat) (cap n : Nat) (w : World) (hc : w.cell? ⟨p, o, none⟩ = some (.slice a xs.length cap)) (h : Sts 3 (PKC D) Tr w a xs) (hn : xs.length = n + 1) (hl : n ≤ 4096) (hh : 0 < n → at0 xs ((n - 1) / 2) ≤ at0 xs n) :
    Calls Try.prog 14 #[hP p o, .int .i64 (n : Nat)] w fun e w' => e = .returned (.tuple #[]) ∧ Below w.heap.size w w' := by
  have HM := fun K => m_less K w p o _ hc
  have HL := Lib.hid (less_any D hm a xs cap n ((n - 1) / 2) w h (by omega) (by omega))
  by_cases h0 : n = 0
  · have hq : ((n : Int) - 1).tdiv 2 = (n : Int) := by subst h0; decide
    have W1 : IntKind.i64.wrap ((n : Int) - 1) = (n : Int) - 1 := IntWalk.i64_in _ ⟨by omega, by omega⟩
    have W2 : IntKind.i64.wrap (n : Int) = (n : Int) := IntWalk.i64_in _ ⟨by omega, by omega⟩
    have e1 : ((n : Int) == (n : Int)) = true := beq_self_eq_true _
    clear h hn hh hm HL
    go_enter Try.func14, Try.ntmps14
    go_wp2
    go_loopw [1] (fun jv wr => jv = .int .i64 n ∧ wr = w) (fun _ _ => 1)
    case atStart => exact ⟨rfl, rfl⟩
    case round =>
      obtain ⟨rfl, rfl⟩ := hrel
      go_wp2
      go_end0
      exact ⟨rfl, Below.refl _ _⟩
  · have hq : ((n : Int) - 1).tdiv 2 = (((n - 1) / 2 : Nat) : Int) := by rw [Int.tdiv_eq_ediv_of_nonneg (by omega)]; omega
    have W1 : IntKind.i64.wrap ((n : Int) - 1) = (n : Int) - 1 := IntWalk.i64_in _ ⟨by omega, by omega⟩
    have e1 : ((((n - 1) / 2 : Nat) : Int) == (n : Int)) = false := by rw [beq_eq_false_iff_ne]; omega
    have hd : decide (at0 xs n < at0 xs ((n - 1) / 2)) = false := decide_eq_false (by have := hh (by omega); omega)
    rw [hd] at HL
    obtain ⟨q, hqe⟩ : ∃ q, (n - 1) / 2 = q := ⟨_, rfl⟩
    rw [hqe] at hq e1 HL
    have W2 : IntKind.i64.wrap (q : Int) = (q : Int) := IntWalk.i64_in _ ⟨by omega, by omega⟩
    clear h hn hh hm h0 hqe hl hd
    go_enter Try.func14, Try.ntmps14
    go_wp2
    go_loopw [1] (fun jv wr => jv = .int .i64 n ∧ wr = w) (fun _ _ => 1)
    case atStart => exact ⟨rfl, rfl⟩
    case round =>
      obtain ⟨rfl, rfl⟩ := hrel
      go_wp2_with (first
        | (go_at_call 33; refine HL.out.mono ?_; rintro e V1 ⟨rfl, b⟩; have E1 := Lib.hid b; clear b)
        | fail)
      go_end0
      exact ⟨rfl, E1.out⟩
end Go.Proofs.Ythbiadhnlomhmaa
