/- Unhex answers the octets whose hexadecimal digits its text is, and else the place of the first byte that is none. -/
import Derived.Test.YtpdlmgafkjmjpaaGBts
import Derived.WalkSpells
import Derived.WalkLawsBesides
import Derived.PlainAid
import Derived.WalkSmall
import Derived.LoopN
namespace Go.Proofs.Ytpdlmgafkjmjpaa
open Go.RowKit

/-- What a hexadecimal digit stands for; none: no digit. -/
def nib (c : Nat) : Option Nat := if 48 ≤ c ∧ c ≤ 57 then some (c - 48) else if 97 ≤ c ∧ c ≤ 102 then some (c - 87) else if 65 ≤ c ∧ c ≤ 70 then some (c - 55) else none

set_option maxHeartbeats 400000 in
theorem nibble_any (c : Nat) (hc : c < 256) (w : World) :
    Calls Try.prog 97 #[.int .u8 c] w fun e w' => e = .returned (.tuple #[.int .u8 ((nib c).getD 0 : Nat), .bool (nib c).isSome]) ∧ w = w' := by
  by_cases h1 : 48 ≤ c <;> by_cases h2 : c ≤ 57 <;> by_cases h3 : 97 ≤ c <;> by_cases h4 : c ≤ 102 <;> by_cases h5 : 65 ≤ c <;> by_cases h6 : c ≤ 70
  all_goals first
    | (exfalso; omega)
    | (go_enter Try.func97, Try.ntmps97
       go_wp2
       go_ret2
       refine ⟨?_, rfl⟩
       simp [nib, h1, h2, h3, h4, h5, h6]
       try omega)

/-- The byte at a place of a text, as a number. -/
def byteAt (s : ByteArray) (k : Nat) : Nat := (s.data.toList.getD k 0).toNat

theorem byteAt_eq (s : ByteArray) (k : Nat) (h : k < s.size) : (s[k]'h).toNat = byteAt s k := by
  unfold byteAt
  rw [List.getD_eq_getElem?_getD, List.getElem?_eq_getElem (by simpa using h)]
  rfl

theorem byteAt_lt (s : ByteArray) (k : Nat) : byteAt s k < 256 := UInt8.toNat_lt _

/-- The octets that a text's digits stand for. -/
def unhexed (s : ByteArray) : List Nat := (List.range (s.size / 2)).map fun i => (nib (byteAt s (2 * i))).getD 0 * 16 + (nib (byteAt s (2 * i + 1))).getD 0

theorem nib_lt {c v : Nat} (h : nib c = some v) : v < 16 := by
  unfold nib at h
  split at h
  · simp at h; omega
  · split at h
    · simp at h; omega
    · split at h
      · simp at h; omega
      · cases h

theorem or_hex (x y : Nat) (hx : x < 16) (hy : y < 16) : bits .or .u8 ((x : Int) * 16) (y : Int) = ((x * 16 + y : Nat) : Int) := by
  rw [show (x : Int) * 16 = ((x * 16 : Nat) : Int) by omega, u8_or_nat _ _ (by omega) (by omega)]
  have h := Nat.shiftLeft_add_eq_or_of_lt (i := 4) (b := y) (by omega) x
  rw [Nat.shiftLeft_eq] at h
  rw [← h]

/-- What Unhex answers. -/
def UnhexAns (s : ByteArray) (w : World) (e : Ending) (w' : World) : Prop :=
  (∃ k : Nat, k < s.size ∧ (∀ j, j < k → (nib (byteAt s j)).isSome = true) ∧ nib (byteAt s k) = none ∧ e = .returned (.tuple #[.slice none 0 0, .int .i64 11, .int .i64 k]) ∧ w = w') ∨
  ((∀ j, j < s.size → (nib (byteAt s j)).isSome = true) ∧
    ((s.size % 2 = 1 ∧ e = .returned (.tuple #[.slice none 0 0, .int .i64 3, .int .i64 s.size]) ∧ w = w') ∨
     (s.size % 2 = 0 ∧ e = .returned (.tuple #[.slice (some ⟨w.heap.size, 0, none⟩) (s.size / 2) (s.size / 2), .int .i64 0, .int .i64 s.size]) ∧
        w'.ownsRow w.heap.size 5 1 (.slice (some ⟨w.heap.size, 0, none⟩) (s.size / 2) (s.size / 2)) (s.size / 2) ((unhexed s).map fun x => Value.int .u8 (x : Nat)) ∧ Below w.heap.size w w')))

set_option maxHeartbeats 2000000 in
theorem unhex_any (s : ByteArray) (w : World) (hs : s.size ≤ 281474976710656) :
    Calls Try.prog 82 #[.string s] w (UnhexAns s w) := by
  obtain ⟨i0, hi, hz0, hz1, hz2⟩ := info_parts info5
  have Hz := Lib.hid hz2
  have hbyte := byteAt_eq s
  go_enter Try.func82, Try.ntmps82
  go_wp2
  go_loop [16, 5, 6, 7] (fun i _ _ _ => ∃ k : Nat, k ≤ s.size ∧ i = .int .i64 k ∧ (∀ j, j < k → (nib (byteAt s j)).isSome = true)) (fun i _ _ _ => s.size - (intOf i).toNat)
  case atStart => exact ⟨0, by omega, rfl, fun j h => by omega⟩
  case round =>
    obtain ⟨k, hk, rfl, hall⟩ := hrel
    have Hall := Lib.hid hall; clear hall
    by_cases hlt : k < s.size
    · have hlt' := byteAt_lt s k
      obtain ⟨t, ht⟩ : ∃ t, nib (byteAt s k) = t := ⟨_, rfl⟩
      have hn := nibble_any (byteAt s k) (byteAt_lt s k) w
      rw [ht] at hn
      have Hn := Lib.hid hn; clear hn
      have Ht := Lib.hid ht; clear ht
      cases t with
      | none =>
        go_wp2_with (go_at_call 97; refine Hn.out.mono ?_; rintro e w' ⟨rfl, rfl⟩)
        go_ret3
        exact .inl ⟨k, hlt, Hall.out, Ht.out, rfl, rfl⟩
      | some v =>
        go_wp2_with (go_at_call 97; refine Hn.out.mono ?_; rintro e w' ⟨rfl, rfl⟩)
        go_round
        case rel =>
          refine ⟨k + 1, by omega, by go_num, fun j hj => ?_⟩
          by_cases e : j = k
          · rw [e, Ht.out]; rfl
          · exact Hall.out j (by omega)
        case measure => simp [intOf]; omega
    · obtain rfl : k = s.size := by omega
      by_cases hodd : s.size % 2 = 1
      · have h1 : ((s.size : Int) % 2 != 0) = true := by rw [bne_iff_ne]; omega
        have Ho := Lib.hid hodd; clear hodd
        go_wp2
        go_ret3
        exact .inr ⟨Hall.out, .inl ⟨Ho.out, rfl, rfl⟩⟩
      · have hev : s.size % 2 = 0 := by omega
        have h1 : ((s.size : Int) % 2 != 0) = false := by rw [bne_eq_false_iff_eq]; omega
        obtain ⟨h, hh⟩ : ∃ h, s.size / 2 = h := ⟨_, rfl⟩
        have h2 : (s.size : Int) / 2 = (h : Int) := by omega
        have hle : h ≤ 140737488355328 := by omega
        have hle2 : 2 * h ≤ s.size := by omega
        have Hev := Lib.hid hev; clear hev hodd
        have Hh := Lib.hid hh; clear hh
        go_wp2_with (at_make; refine wpList_make_full _ rfl _ _ 22 rfl w.heap.size 5 i0 (.int .u8 0) 1 Try.underlying22 hi hz0 hz1 .i64 .i64 _ _ h rfl rfl rfl rfl (by rw [Hz.out]; omega) (by unfold maxLen; omega) (Nat.le_refl _) ?_; intro w1 hown hgrow)
        go_loopw [42, 9, 10, 11, 12, 13] (fun i _ _ _ _ _ wr => ∃ j : Nat, j ≤ h ∧ i = .int .i64 j ∧ wr.ownsRow w.heap.size 5 1 (.slice (some ⟨w.heap.size, 0, none⟩) h h) h ((Mt.fill (fun i => (nib (byteAt s (2 * i))).getD 0 * 16 + (nib (byteAt s (2 * i + 1))).getD 0) h j).map fun x => Value.int .u8 (x : Nat)) ∧ Below w.heap.size w wr) (fun i _ _ _ _ _ _ => h - (intOf i).toNat)
        case atStart =>
          refine ⟨0, by omega, rfl, ?_, (Below.refl _ _).grown hgrow (Nat.le_refl _) (fun k e => by cases e)⟩
          rw [Mt.fill_zero, List.map_replicate]
          rw [made_list _ rfl, Nat.mul_one] at hown
          exact hown
        case round =>
          obtain ⟨j, hj, rfl, hro, hbe⟩ := hrel
          clear hown hgrow
          by_cases hlt2 : j < h
          · obtain ⟨x, hx⟩ : ∃ x, nib (byteAt s (2 * j)) = some x := Option.isSome_iff_exists.1 (Hall.out _ (by omega))
            obtain ⟨y, hy⟩ : ∃ y, nib (byteAt s (2 * j + 1)) = some y := Option.isSome_iff_exists.1 (Hall.out _ (by omega))
            have hx16 := nib_lt hx
            have hy16 := nib_lt hy
            have hn1 := nibble_any (byteAt s (2 * j)) (byteAt_lt s _) wr
            have hn2 := nibble_any (byteAt s (2 * j + 1)) (byteAt_lt s _) wr
            have hfz := hro.frozenAt j
            have hca : wr.cell? ⟨w.heap.size, j, none⟩ = some (.int .u8 ((Mt.fill (fun i => (nib (byteAt s (2 * i))).getD 0 * 16 + (nib (byteAt s (2 * i + 1))).getD 0) h j).getD j 0 : Nat)) := by
              have hl : j < (Mt.fill (fun i => (nib (byteAt s (2 * i))).getD 0 * 16 + (nib (byteAt s (2 * i + 1))).getD 0) h j).length := by rw [Mt.fill_length]; omega
              rw [hro.cellAt j (by omega), List.getElem?_map, List.getD_eq_getElem?_getD, List.getElem?_eq_getElem hl]
              rfl
            generalize (Mt.fill (fun i => (nib (byteAt s (2 * i))).getD 0 * 16 + (nib (byteAt s (2 * i + 1))).getD 0) h j).getD j 0 = old at hca
            have hst := hro.stored j (.int .u8 ((x * 16 + y : Nat) : Int))
            rw [Mt.map_set (fun x : Nat => Value.int .u8 (x : Int))] at hst
            have hset := Mt.fill_set (fun i => (nib (byteAt s (2 * i))).getD 0 * 16 + (nib (byteAt s (2 * i + 1))).getD 0) h j
            simp only [hx, hy, Option.getD_some] at hset
            rw [hset] at hst
            rw [hx] at hn1
            rw [hy] at hn2
            have hor := or_hex x y hx16 hy16
            have Hst := Lib.hid hst
            have Hn1 := Lib.hid hn1
            have Hn2 := Lib.hid hn2
            have hz : x * 16 + y < 256 := by omega
            generalize x * 16 + y = z at hor hz Hst
            clear hst hset hx hy hro hn1 hn2
            go_wp2_with fail
            refine Hn1.out.mono ?_
            rintro e w' ⟨rfl, rfl⟩
            go_wp2_with fail
            refine Hn2.out.mono ?_
            rintro e w' ⟨rfl, rfl⟩
            go_wp2
            go_roundw
            case rel => exact ⟨j + 1, by omega, by go_num, Hst.out.1, hbe.setCell (p := ⟨w.heap.size, j, none⟩) (Nat.le_refl _) _⟩
            case measure => simp [intOf]; omega
          · obtain rfl : j = h := by omega
            rw [Mt.fill_all] at hro
            have hu : unhexed s = (List.range j).map fun i => (nib (byteAt s (2 * i))).getD 0 * 16 + (nib (byteAt s (2 * i + 1))).getD 0 := by unfold unhexed; rw [Hh.out]
            rw [← hu] at hro
            have Hro := Lib.hid hro
            clear hro hu
            go_wp2
            go_ret3
            refine .inr ⟨Hall.out, .inr ⟨Hev.out, ?_⟩⟩
            rw [Hh.out]
            exact ⟨rfl, Hro.out, hbe⟩

/-- The example's key. -/
def exKey : List Nat := [109, 90, 86, 218, 37, 91, 14, 194, 65, 103, 37, 61, 67, 163, 143, 176, 208, 202, 43, 203, 174, 123, 48, 180, 119, 203, 45, 163, 128, 48, 242, 12, 106, 66, 183, 59, 190, 172, 1, 250]

theorem ex_all : ∀ j, j < 80 → (nib (byteAt { data := #[54, 100, 53, 97, 53, 54, 100, 97, 50, 53, 53, 98, 48, 101, 99, 50, 52, 49, 54, 55, 50, 53, 51, 100, 52, 51, 97, 51, 56, 102, 98, 48, 100, 48, 99, 97, 50, 98, 99, 98, 97, 101, 55, 98, 51, 48, 98, 52, 55, 55, 99, 98, 50, 100, 97, 51, 56, 48, 51, 48, 102, 50, 48, 99, 54, 97, 52, 50, 98, 55, 51, 98, 98, 101, 97, 99, 48, 49, 102, 97] } j)).isSome = true := by decide +kernel
theorem ex_unhexed : unhexed { data := #[54, 100, 53, 97, 53, 54, 100, 97, 50, 53, 53, 98, 48, 101, 99, 50, 52, 49, 54, 55, 50, 53, 51, 100, 52, 51, 97, 51, 56, 102, 98, 48, 100, 48, 99, 97, 50, 98, 99, 98, 97, 101, 55, 98, 51, 48, 98, 52, 55, 55, 99, 98, 50, 100, 97, 51, 56, 48, 51, 48, 102, 50, 48, 99, 54, 97, 52, 50, 98, 55, 51, 98, 98, 101, 97, 99, 48, 49, 102, 97] } = exKey := by decide +kernel
theorem ex_lt : ∀ x ∈ exKey, x < 256 := by decide +kernel

set_option maxHeartbeats 400000 in
theorem unhex_ex (w : World) : Calls Try.prog 82 #[.string { data := #[54, 100, 53, 97, 53, 54, 100, 97, 50, 53, 53, 98, 48, 101, 99, 50, 52, 49, 54, 55, 50, 53, 51, 100, 52, 51, 97, 51, 56, 102, 98, 48, 100, 48, 99, 97, 50, 98, 99, 98, 97, 101, 55, 98, 51, 48, 98, 52, 55, 55, 99, 98, 50, 100, 97, 51, 56, 48, 51, 48, 102, 50, 48, 99, 54, 97, 52, 50, 98, 55, 51, 98, 98, 101, 97, 99, 48, 49, 102, 97] }] w fun e w' =>
    e = .returned (.tuple #[.slice (some ⟨w.heap.size, 0, none⟩) 40 40, .int .i64 0, .int .i64 80]) ∧ OwnSl w.heap.size (some ⟨w.heap.size, 0, none⟩) exKey 40 w' ∧ Below w.heap.size w w' := by
  refine (unhex_any _ w (by show 80 ≤ _; omega)).mono ?_
  rintro e w' (⟨k, hk, _, hn, _⟩ | ⟨_, ⟨h, _⟩ | ⟨_, he, ho, hb⟩⟩)
  · have := ex_all k hk
    rw [hn] at this
    cases this
  · cases h
  · rw [ex_unhexed] at ho
    exact ⟨he, ⟨ex_lt, .inr ⟨_, rfl, Nat.le_refl _, ho⟩⟩, hb⟩
end Go.Proofs.Ytpdlmgafkjmjpaa
