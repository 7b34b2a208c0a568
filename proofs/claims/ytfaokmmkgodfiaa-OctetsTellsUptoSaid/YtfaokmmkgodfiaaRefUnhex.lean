/- The document's Unhex answers the octets whose digits its text is, and else the place of the first byte that is none. -/
import Derived.Test.YtfaokmmkgodfiaaRefA
import Derived.Maps.AppendAt
import Derived.StillTactics
import Derived.OwnWalk
import Derived.Deep.RegionHeld3
import Derived.Deep.AppendLies
namespace Go.Proofs.Ytfaokmmkgodfiaa
open Go.RowKit

theorem valI_some {c v : Nat} (h : nib c = some v) : valI c = v := by unfold valI; rw [h]
theorem valI_none {c : Nat} (h : nib c = none) : valI c = -1 := by unfold valI; rw [h]

/-- The octets of the first so many pairs. -/
def pairs (s : ByteArray) (j : Nat) : List Nat := (List.range j).map fun i => (nib (byteAt s (2 * i))).getD 0 * 16 + (nib (byteAt s (2 * i + 1))).getD 0

theorem pairs_succ (s : ByteArray) (j : Nat) : pairs s (j + 1) = pairs s j ++ [(nib (byteAt s (2 * j))).getD 0 * 16 + (nib (byteAt s (2 * j + 1))).getD 0] := by
  unfold pairs
  rw [List.range_succ, List.map_append]
  rfl

theorem pairs_length (s : ByteArray) (j : Nat) : (pairs s j).length = j := by simp [pairs]

/-- What the document's Unhex answers. -/
def RefUnhexAns (s : ByteArray) (w : World) (e : Ending) (w' : World) : Prop := ∃ a cap, e = .returned (.tuple #[.slice a (unhexL s).length cap, .int .i64 (unhexE s), .int .i64 (unhexP s)]) ∧ Bts w' a (unhexL s) ∧ Below w.heap.size w w'

set_option maxHeartbeats 2000000 in
theorem refunhex_any (s : ByteArray) (w : World) (hs : s.size ≤ 1048576) :
    Calls Try.prog 14 #[.string s] w (RefUnhexAns s w) := by
  obtain ⟨i0, hi, hz0, hz1, hz2⟩ := info_parts info5
  have hmx : Try.prog.follows .mixedOrders = true := by kernel_rfl
  have hbyte := byteAt_eq s
  go_enter Try.func14, Try.ntmps14
  go_wp2
  go_loop [5] (fun i => ∃ k : Nat, k ≤ s.size ∧ i = .int .i64 k ∧ (∀ j, j < k → (nib (byteAt s j)).isSome = true)) (fun i => s.size - (intOf i).toNat)
  case atStart => exact ⟨0, by omega, rfl, fun j h => by omega⟩
  case round =>
    obtain ⟨k, hk, rfl, hall⟩ := hrel
    have Hall := Lib.hid hall; clear hall
    by_cases hlt : k < s.size
    · have hlt' := byteAt_lt s k
      obtain ⟨t, ht⟩ : ∃ t, nib (byteAt s k) = t := ⟨_, rfl⟩
      have hn := value_any (byteAt s k) (byteAt_lt s k) w
      have Ht := Lib.hid ht
      cases t with
      | none =>
        rw [valI_none ht] at hn
        have Hn := Lib.hid hn; clear hn ht
        go_wp2_with (go_at_call 28; refine Hn.out.mono ?_; rintro e w' ⟨rfl, rfl⟩)
        go_ret3
        have hno : ¬ allHex s := fun h => by have := h k hlt; rw [Ht.out] at this; cases this
        have e1 : unhexL s = [] := by unfold unhexL; rw [if_neg (fun h => hno h.1)]
        have e2 : unhexE s = 11 := by unfold unhexE; rw [if_neg hno]
        have e3 : unhexP s = k := by unfold unhexP; rw [if_neg hno]; exact firstBad_is s s.size 0 k (by omega) (by omega) (fun j _ h => Hall.out j h) Ht.out
        refine ⟨none, 0, by rw [e1, e2, e3]; rfl, ⟨?_, .inl e1⟩, Below.refl _ _⟩
        rw [e1]; intro x hx; cases hx
      | some v =>
        rw [valI_some ht] at hn
        have Hn := Lib.hid hn; clear hn ht
        go_wp2_with (go_at_call 28; refine Hn.out.mono ?_; rintro e w' ⟨rfl, rfl⟩)
        go_round
        case rel =>
          refine ⟨k + 1, by omega, by go_num, fun j hj => ?_⟩
          by_cases e : j = k
          · rw [e, Ht.out]; rfl
          · exact Hall.out j (by omega)
        case measure => simp [intOf]; omega
    · obtain rfl : k = s.size := by omega
      have hyes : allHex s := Hall.out
      have e3 : unhexP s = s.size := by unfold unhexP; rw [if_pos hyes]
      by_cases hodd : s.size % 2 = 1
      · have h1 : ((s.size : Int) % 2 == 1) = true := by rw [beq_iff_eq]; omega
        have e1 : unhexL s = [] := by unfold unhexL; rw [if_neg (fun h => by omega)]
        have e2 : unhexE s = 3 := by unfold unhexE; rw [if_pos hyes, if_neg (by omega)]
        have E1 := Lib.hid e1
        have E2 := Lib.hid e2
        have E3 := Lib.hid e3
        clear e1 e2 e3 hodd hyes
        go_wp2
        go_ret3
        refine ⟨none, 0, by rw [E1.out, E2.out, E3.out]; rfl, ⟨?_, .inl E1.out⟩, Below.refl _ _⟩
        rw [E1.out]; intro x hx; cases hx
      · have hev : s.size % 2 = 0 := by omega
        have h1 : ((s.size : Int) % 2 == 1) = false := by rw [beq_eq_false_iff_ne]; omega
        have e2 : unhexE s = 0 := by unfold unhexE; rw [if_pos hyes, if_pos hev]
        have e1 : unhexL s = pairs s (s.size / 2) := by unfold unhexL; rw [if_pos ⟨hyes, hev⟩]; rfl
        have hlt256 := unhexed_lt s hyes
        obtain ⟨h, hh⟩ : ∃ h, s.size = 2 * h := ⟨s.size / 2, by omega⟩
        have e1' : unhexL s = pairs s h := by rw [e1, hh]; congr 1; omega
        have hp256 : ∀ x ∈ pairs s h, x < 256 := by
          have : unhexed s = pairs s h := by show pairs s (s.size / 2) = _; rw [hh]; congr 1; omega
          rw [← this]; exact hlt256
        have hle2 : 2 * h ≤ s.size := by omega
        have E1 := Lib.hid e1'
        have E2 := Lib.hid e2
        have E3 := Lib.hid e3
        have Hh := Lib.hid hh
        have HP := Lib.hid hp256
        clear e1 e2 e3 e1' hodd hyes hh hev hlt256 hp256
        go_wp2
        go_loopw [6, 7] (fun v i wr => ∃ j : Nat, j ≤ h ∧ i = .int .i64 (2 * (j : Int)) ∧ wr.ownsRow w.heap.size 5 1 v j ((pairs s j).map fun x => Value.int .u8 (x : Nat)) ∧ Below w.heap.size w wr) (fun _ i _ => s.size - (intOf i).toNat)
        case atStart => exact ⟨0, by omega, rfl, World.ownsRow_nil _ _ _ _, Below.refl _ _⟩
        case round =>
          obtain ⟨j, hj, rfl, hro, hbe⟩ := hrel
          by_cases hlt2 : j < h
          · obtain ⟨x, hx⟩ : ∃ x, nib (byteAt s (2 * j)) = some x := Option.isSome_iff_exists.1 (Hall.out _ (by have := Hh.out; omega))
            obtain ⟨y, hy⟩ : ∃ y, nib (byteAt s (2 * j + 1)) = some y := Option.isSome_iff_exists.1 (Hall.out _ (by have := Hh.out; omega))
            have hx16 := nib_lt hx
            have hy16 := nib_lt hy
            have hsn := pairs_succ s j
            rw [hx, hy] at hsn
            simp only [Option.getD_some] at hsn
            have hn1 : ∀ W, Calls Try.prog 28 #[.int .u8 (byteAt s (2 * j))] W fun e w' => e = .returned (.int .i64 x) ∧ W = w' := by
              intro W
              have := value_any (byteAt s (2 * j)) (byteAt_lt s _) W
              rwa [valI_some hx] at this
            have hn2 : ∀ W, Calls Try.prog 28 #[.int .u8 (byteAt s (2 * j + 1))] W fun e w' => e = .returned (.int .i64 y) ∧ W = w' := by
              intro W
              have := value_any (byteAt s (2 * j + 1)) (byteAt_lt s _) W
              rwa [valI_some hy] at this
            have Hn1 := Lib.hid hn1
            have Hn2 := Lib.hid hn2
            have Hsn := Lib.hid hsn
            have z1 : (x : Int) * 16 + (y : Int) = ((x * 16 + y : Nat) : Int) := by omega
            have z2 : x * 16 + y < 256 := by omega
            have hsz := hbe.size
            have hjb : j ≤ 1048576 := by omega
            generalize x * 16 + y = z at z1 z2 Hsn
            have j1 : 2 * (j : Int) < (s.size : Int) := by omega
            have j2 : 2 * (j : Int) + 1 < (s.size : Int) := by have := Hh.out; omega
            have v1 : IntKind.i64.wrap ((x : Int) * 16) = (x : Int) * 16 := IntWalk.i64_in _ (by omega)
            have v2 : IntKind.i64.wrap (z : Int) = (z : Int) := IntWalk.i64_in _ (by omega)
            have v3 : IntKind.u8.wrap (z : Int) = (z : Int) := IntWalk.u8_in _ (by omega)
            have v4 : IntKind.i64.wrap (2 * (j : Int) + 1) = 2 * (j : Int) + 1 := IntWalk.i64_in _ (by omega)
            have v5 : 0 ≤ 2 * (j : Int) + 1 := by omega
            have v6 : (2 * (j : Int) + 1).toNat = 2 * j + 1 := by omega
            have v7 : (2 * (j : Int)).toNat = 2 * j := by omega
            have v8 : 0 ≤ 2 * (j : Int) := by omega
            have v9 : 2 * j < s.size := by omega
            have v10 : 2 * j + 1 < s.size := by omega
            clear hn1 hn2 hsn hx hy
            go_wp2_with fail
            go_region_held3 (fun _ => True)
              (first
                | trivial
                | go_keep)
              (first
                | (go_at_call 28; (with_reducible refine (Hn1.out _).mono ?_); rintro e w' ⟨rfl, rfl⟩)
                | (go_at_call 28; (with_reducible refine (Hn2.out _).mono ?_); rintro e w' ⟨rfl, rfl⟩)
                | (refine step_append_lies _ (by rfl) _ _ _ (by rfl) w.heap.size 5 i0 _ 1 1 Try.underlying23 hi hz0 hz1 hz2 rfl (by omega) _ j _ (by rfl) ((hro.alloc _).drew)
                    ⟨wr.heap.size, 0, none⟩ 1 1 [.int .u8 (z : Nat)] (by rfl) (by rfl) (World.news_of_block (cs := #[.int .u8 (z : Nat)]) (t := 5) (fr := (0, 0)) (heap_alloc_new wr _)) (by simp [Value.oneCell'])
                    (by omega) (by unfold maxLen; omega) (by omega) (by simp; omega) (wr.heap.size + 1) (by simp) ?_; intro gg cap' w1 hown1 hgrow hat hlt3))
            all_goals
              have hnew : w1.ownsRow w.heap.size 5 1 (.slice (some ⟨gg, 0, none⟩) (j + 1) cap') (j + 1) ((pairs s (j + 1)).map fun x => Value.int .u8 (x : Nat)) := by
                rw [Hsn.out, List.map_append]
                exact hown1
              have hb1 : Below w.heap.size w w1 := hbe.trans ((((Below.refl _ wr).alloc hsz _).drew).grown hgrow (by simp; omega) (fun j e => (hro.lt j e).1))
              have Hnew := Lib.hid hnew
              clear hnew hown1 hro hbyte v1 v2 v3 v4 v5 v6 v7 v8
              go_wp2
              go_roundw
              case rel => exact ⟨j + 1, by omega, congrArg (Value.int .i64) (by omega), Hnew.out, hb1⟩
              case measure => simp [intOf]; omega
          · obtain rfl : j = h := by omega
            have hnlt : ¬ 2 * (j : Int) < (s.size : Int) := by have := Hh.out; omega
            have hbts : ∃ a cap, u6 = .slice a j cap ∧ Bts wr a (pairs s j) := by
              have hpl := pairs_length s j
              rcases hro.2 with ⟨rfl, h0⟩ | ⟨g, c, cur, rfl, _⟩
              · subst h0
                exact ⟨none, 0, rfl, HP.out, .inl rfl⟩
              · exact ⟨some ⟨g, 0, none⟩, c, rfl, row_bts (B := w.heap.size) (cap := c) (by rw [hpl]; exact hro) HP.out⟩
            obtain ⟨a, c, rfl, hb⟩ := hbts
            have Hb := Lib.hid hb
            clear hb hro
            go_wp2
            go_ret3
            refine ⟨a, c, ?_, ?_, hbe⟩
            · rw [E1.out, E2.out, E3.out, pairs_length]; rfl
            · rw [E1.out]; exact Hb.out
end Go.Proofs.Ytfaokmmkgodfiaa
