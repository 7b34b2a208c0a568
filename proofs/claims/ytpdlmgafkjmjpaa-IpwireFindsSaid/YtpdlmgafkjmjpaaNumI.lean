/- What the small functions of ipwire on numbers in octets answer. -/
import Derived.Test.YtpdlmgafkjmjpaaGPut
import Derived.Test.YtpdlmgafkjmjpaaGCopyB
import Derived.Test.YtpdlmgafkjmjpaaGAppend
namespace Go.Proofs.Ytpdlmgafkjmjpaa
open Go.RowKit

set_option maxRecDepth 100000 in
set_option maxHeartbeats 400000 in
/-- 'number': of one octet to eight. -/
theorem pnum_ipwire (a : Option Addr) (xs : List Nat) (cap : Nat) (w : World) (h : Bts w a xs) (hlo : 1 ≤ xs.length) (hhi : xs.length ≤ 8) :
    Calls Try.prog 54 #[.slice a xs.length cap] w fun e w' => e = .returned (.int .u64 (Mt.numOf xs : Nat)) ∧ w = w' := by
  have Hg := Lib.hid (get_ok a xs cap w h hlo hhi)
  clear h hlo hhi
  go_enter Try.func54, Try.ntmps54
  go_wp2_with fail
  refine Hg.out.mono ?_
  rintro e w' ⟨rfl, rfl⟩
  go_wp2
  go_ret
  exact ⟨rfl, rfl⟩

set_option maxRecDepth 100000 in
set_option maxHeartbeats 400000 in
/-- 'lay': a number in its place, in a list of one's own. -/
theorem lay_ipwire (B g off cap n k dcap : Nat) (xs : List Nat) (w : World) (O : OwnSl B (some ⟨g, 0, none⟩) xs cap w) (hlo : 1 ≤ k) (hhi : k ≤ 8) (hn : n < 18446744073709551616) (hnk : n < 256 ^ k) (hfit : off + k ≤ xs.length) :
    Calls Try.prog 57 #[.slice (some ⟨g, off, none⟩) k dcap, .int .u64 n] w fun e w' => (∃ v, e = .returned v) ∧ OwnSl B (some ⟨g, 0, none⟩) (splice xs off (Mt.octs n k)) cap w' ∧ w.grownBy w' (some g) := by
  have hp := fun W => put_ok n k hlo hhi hn hnk W
  have ol : (Mt.octs n k).length = k := Mt.octs_length n k
  generalize Mt.octs n k = ys at hp ol ⊢
  have Hp := Lib.hid hp
  have Ol := Lib.hid ol
  have HO := Lib.hid O
  clear hp ol O hnk
  go_enter Try.func57, Try.ntmps57
  go_wp2_with fail
  refine (Hp.out _).mono ?_
  rintro e w1 ⟨rfl, P, b1⟩
  have HP := Lib.hid P.bts
  have H1 := Lib.hid (HO.out.below b1)
  have q1 := Lib.hid b1
  clear P b1 Hp HO
  go_wp2_with (with_reducible refine wpList_copy_bts rfl (.tmp 13) (.tmp 14) rfl B g off k dcap cap rfl rfl Ol.out.symm (Nat.le_of_eq Ol.out) H1.out HP.out (fun _ => rfl) (by rw [Ol.out]; exact hfit) ?_; intro w2 Z b2; have HZ := Lib.hid Z; have q2 := Lib.hid (grown_of_below q1.out b2); clear Z b2)
  go_end0
  exact ⟨⟨_, rfl⟩, HZ.out, q2.out⟩

/-- The same behind a draw, and with what comes of it by name. -/
theorem layg_ipwire (B g off cap n k dcap : Nat) (xs ys : List Nat) (w : World) (O : OwnSl B (some ⟨g, 0, none⟩) xs cap w) (hlo : 1 ≤ k) (hhi : k ≤ 8) (hn : n < 18446744073709551616) (hnk : n < 256 ^ k) (hfit : off + k ≤ xs.length) (hy : splice xs off (Mt.octs n k) = ys) :
    Calls Try.prog 57 #[.slice (some ⟨g, off, none⟩) k dcap, .int .u64 n] w.drew fun e w' => (∃ v, e = .returned v) ∧ OwnSl B (some ⟨g, 0, none⟩) ys cap w' ∧ w.grownBy w' (some g) := by
  refine (lay_ipwire B g off cap n k dcap xs w.drew (O.below (Below.refl _ _).drew) hlo hhi hn hnk hfit).mono ?_
  rintro e w' ⟨h1, h2, h3⟩
  rw [hy] at h2
  exact ⟨h1, h2, grown_of_below (Below.refl _ _).drew h3⟩
theorem layd_ipwire (B g off cap n k dcap : Nat) (xs ys : List Nat) (w : World) (O : OwnSl B (some ⟨g, 0, none⟩) xs cap w) (hlo : 1 ≤ k) (hhi : k ≤ 8) (hn : n < 18446744073709551616) (hnk : n < 256 ^ k) (hfit : off + k ≤ xs.length) (hy : splice xs off (Mt.octs n k) = ys) :
    Calls Try.prog 57 #[.slice (some ⟨g, off, none⟩) k dcap, .int .u64 n] w.drew fun e w' => (∃ v, e = .returned v) ∧ OwnSl B (some ⟨g, 0, none⟩) ys cap w' ∧ Below B w w' := by
  refine (layg_ipwire B g off cap n k dcap xs ys w O hlo hhi hn hnk hfit hy).mono ?_
  rintro e w' ⟨h1, h2, h3⟩
  exact ⟨h1, h2, O.belowOf h3⟩
end Go.Proofs.Ytpdlmgafkjmjpaa
