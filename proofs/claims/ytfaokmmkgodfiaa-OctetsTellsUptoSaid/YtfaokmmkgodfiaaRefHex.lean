/- The document's hexadecimal digits are two small figures an octet, and are read back as Unhex reads them. -/
import Derived.Test.YtfaokmmkgodfiaaRefA
import Derived.Test.YtfaokmmkgodfiaaHex
import Derived.Maps.AppendAt
import Derived.StillTactics
import Derived.OwnWalk
import Derived.Laws.Pointers
import Derived.Deep.RegionHeld3
import Derived.Deep.AppendLies
namespace Go.Proofs.Ytfaokmmkgodfiaa
open Go.RowKit

set_option maxHeartbeats 1000000 in
theorem refhex_any (a : Option Addr) (xs : List Nat) (cap : Nat) (w : World) (hx : Bts w a xs) (hl : xs.length ≤ 1048576) :
    Calls Try.prog 20 #[.slice a xs.length cap] w fun e W' => e = .returned (.string (strO (hexO xs))) ∧ Below w.heap.size w W' := by
  obtain ⟨i0, hi, hz0, hz1, hz2⟩ := info_parts info5
  have hmx : Try.prog.follows .mixedOrders = true := by kernel_rfl
  have Hx := Lib.hid hx; clear hx
  go_enter Try.func20, Try.ntmps20
  go_wp2
  go_loopw [3, 4] (fun v i wr => ∃ k : Nat, k ≤ xs.length ∧ i = .int .i64 k ∧ wr.ownsRow w.heap.size 5 1 v (hexO (xs.take k)).length (cellsO (hexO (xs.take k))) ∧ Below w.heap.size w wr) (fun _ i _ => xs.length - (intOf i).toNat)
  case atStart => exact ⟨0, by omega, rfl, World.ownsRow_nil _ _ _ _, Below.refl _ _⟩
  case round =>
    obtain ⟨k, hk, rfl, hro, hbe⟩ := hrel
    by_cases hlt : k < xs.length
    · obtain ⟨b, off, rfl, hb, hcx⟩ : ∃ b off, a = some ⟨b, off, none⟩ ∧ b < w.heap.size ∧ ∀ i, i < xs.length → w.cell? ⟨b, off + i, none⟩ = some (.int .u8 (xs.getD i 0 : Nat)) := by
        rcases Hx.out.2 with h | h
        · subst h; simp at hlt
        · exact h
      have hca := (hbe.cell (p := ⟨b, off + k, none⟩) hb).trans (hcx k hlt)
      have hx256 := Hx.out.1 _ (Mt.getD_mem xs k hlt)
      have htk := Mt.take_snoc xs k hlt
      generalize xs.getD k 0 = x at hca hx256 htk
      have Htk := Lib.hid htk
      have i1 : (k : Int) < (xs.length : Int) := by omega
      clear htk hcx
      obtain ⟨d1, hd1⟩ : ∃ d1, x / 16 % 16 = d1 := ⟨_, rfl⟩
      obtain ⟨d2, hd2⟩ : ∃ d2, x % 16 = d2 := ⟨_, rfl⟩
      have hl1 : d1 < 16 := by omega
      have hl2 : d2 < 16 := by omega
      have e1 : (x : Int) / 16 = (d1 : Int) := by omega
      have e2 : bits .and .u8 (x : Int) 15 = (d2 : Int) := by
        rw [show (15 : Int) = ((15 : Nat) : Int) from rfl, u8_and_nat x 15 hx256 (by omega), ← hd2]
        have := Nat.and_two_pow_sub_one_eq_mod x 4
        exact congrArg Nat.cast this
      have hf1 : ∀ h, (({ data := #[48, 49, 50, 51, 52, 53, 54, 55, 56, 57, 97, 98, 99, 100, 101, 102] } : ByteArray)[d1]'h).toNat = (Mt.figO d1).1 := fun h => fig_all ⟨d1, hl1⟩
      have hf2 : ∀ h, (({ data := #[48, 49, 50, 51, 52, 53, 54, 55, 56, 57, 97, 98, 99, 100, 101, 102] } : ByteArray)[d2]'h).toNat = (Mt.figO d2).1 := fun h => fig_all ⟨d2, hl2⟩
      have hown := hro
      have hsz := hbe.size
      have hll : (hexO (xs.take k)).length = 2 * k := by rw [hexO_length, List.length_take]; omega
      obtain ⟨L, hL⟩ : ∃ L, (hexO (xs.take k)).length = L := ⟨_, rfl⟩
      have hL2 : L = 2 * k := by rw [← hL]; exact hll
      have hLb : L ≤ 2097152 := by omega
      rw [hL] at hown
      clear hro hll
      have ab : u3.ownBlock ≠ some b := fun h => by have := (hown.lt b h).1; omega
      have HL := Lib.hid hL
      have HL2 := Lib.hid hL2
      have Hd1 := Lib.hid hd1
      have Hd2 := Lib.hid hd2
      clear hL hL2 hd1 hd2
      go_wp2_with fail
      go_region_held3 (fun w' => w'.cell? ⟨b, off + k, none⟩ = some (.int .u8 x))
        (first
          | go_keep
          | (go_split_ands; rw [hgrow.cell_far _ (by simp; omega) (Ne.symm ab)]; assumption))
        ((refine step_append_lies _ (by rfl) _ _ _ (by rfl) w.heap.size 5 i0 _ 1 1 Try.underlying23 hi hz0 hz1 hz2 rfl (by omega) _ L _ (by rfl) ((hown.alloc _).drew)
            ⟨wr.heap.size, 0, none⟩ 2 2 [.int .u8 ((Mt.figO d1).1 : Nat), .int .u8 ((Mt.figO d2).1 : Nat)] (by rfl) (by rfl) (World.news_of_block (cs := #[.int .u8 ((Mt.figO d1).1 : Nat), .int .u8 ((Mt.figO d2).1 : Nat)]) (t := 5) (fr := (0, 0)) (heap_alloc_new wr _)) (by simp [Value.oneCell'])
            (by omega) (by unfold maxLen; omega) (by omega) (by simp; omega) (wr.heap.size + 1) (by simp) ?_; intro gg cap' w1 hown1 hgrow hat hlt3))
      all_goals
        have hnew : w1.ownsRow w.heap.size 5 1 (.slice (some ⟨gg, 0, none⟩) (L + 2) cap') (hexO (xs.take (k + 1))).length (cellsO (hexO (xs.take (k + 1)))) := by
          have e : hexO (xs.take (k + 1)) = hexO (xs.take k) ++ [Mt.figO d1, Mt.figO d2] := by
            rw [Htk.out, hexO_snoc]
            simp only [Mt.digs, Nat.pow_one, Nat.pow_zero, Nat.div_one]
            rw [Hd1.out, Hd2.out]
          have e2 : (hexO (xs.take (k + 1))).length = L + 2 := by rw [e, List.length_append, HL.out]; rfl
          rw [e2, e]
          simpa [cellsO] using hown1
        have hb1 : Below w.heap.size w w1 := by
          refine hbe.trans ((((Below.refl _ wr).alloc hsz _).drew).grown hgrow (by simp; omega) (fun j e => (hown.lt j e).1))
        have Hnew := Lib.hid hnew
        clear hnew hown1 hown hf1 hf2
        go_wp2
        go_roundw
        case rel => exact ⟨k + 1, by omega, by go_num, Hnew.out, hb1⟩
        case measure => simp [intOf]; omega
    · obtain rfl : k = xs.length := by omega
      rw [List.take_length] at hro
      by_cases h0 : xs = []
      · have hX : strO (hexO xs) = ByteArray.empty := by rw [h0]; rfl
        have hL0 : (hexO xs).length = 0 := by rw [h0]; rfl
        have HX := Lib.hid hX
        have hcv0 := run_convert_bytes_nil (P := Try.prog) wr 23 5 Try.underlying23 Try.underlying5 0 0 9 Try.underlying9
        rcases hro.2 with ⟨rfl, _⟩ | ⟨g, c, cur, rfl, _⟩
        · clear hro hX hL0 h0
          go_wp2
          go_ret
          exact ⟨by rw [HX.out]; rfl, hbe⟩
        · have hcv := run_text wr w.heap.size g c (hexO xs) hro
          rw [hL0] at hcv ⊢
          clear hro hX hL0 h0
          go_wp2
          go_ret
          exact ⟨rfl, hbe⟩
      · have hpos : 1 ≤ (hexO xs).length := by
          rw [hexO_length]
          rcases Nat.eq_zero_or_pos xs.length with h | h
          · exact absurd (List.eq_nil_of_length_eq_zero h) h0
          · omega
        obtain ⟨j, hj⟩ : ∃ j, (hexO xs).length = j + 1 := ⟨(hexO xs).length - 1, by omega⟩
        have hro' := hro
        rw [hj] at hro'
        obtain ⟨g, c, rfl⟩ := ownsRow_succ hro'
        rw [← hj] at hro
        have hcv := run_text wr w.heap.size g c (hexO xs) hro
        rw [hj] at hcv
        clear hro hro' hj hpos
        go_wp2
        go_ret
        exact ⟨rfl, hbe⟩
end Go.Proofs.Ytfaokmmkgodfiaa
