/- For every list of octets: what is read as a packet is built again of what was read: the same octets, but for bit 15, a checksum of 0 or 65535, and what stands behind; what is no packet is read as none. No condition. -/
import Derived.Test.YtpdlmgafkjmjpaaRows
import Derived.Test.YtpdlmgafkjmjpaaAlive4
import Derived.ProofKit
import Derived.OpenShut
import Derived.ShutString
import Derived.ChangeOld
import Derived.SizedLaws
import Derived.Test.YtpdlmgafkjmjpaaGFrame
import Derived.Test.YtpdlmgafkjmjpaaIpAgm
import Derived.Deep.QuietTactic
import Derived.BigQuiet
namespace Go.Proofs.Ytpdlmgafkjmjpaa.ipwireAgain
open Go.ChangeShapes Go.WideShapes Go.ChangeAt Go.RowKit Go.Proofs.Ytpdlmgafkjmjpaa.law4
open Go.ChangeMaps (open_string shut_string)

set_option maxRecDepth 100000 in
set_option maxHeartbeats 4000000 in
theorem walk_may (a : Option Addr) (xs : List Nat) (cap : Nat) (w : World) (hx : Bts w a xs) (hl : xs.length ≤ cap ∧ cap ≤ maxLen) (hl2 : xs.length ≤ 140737488351232) (hk : IpPok xs) :
    Calls Try.prog 3 #[.slice a xs.length cap] w fun e w' => e = .returned (.bool true) ∧ Below w.heap.size w w' := by
  obtain ⟨ys, hys, hyl, hy20, hyx, hya, hmay⟩ := ip_again xs hx.1 hk
  have hos := seg_lt hx.1 20 (ipHead xs - 20)
  have hb : ∀ oa oc da dc W, Bts W oa (ipOs xs) → Bts W da (ipDs xs) → _ := fun oa oc da dc W h1 h2 => ipB_ok (xs.getD 1 0) (Mt.numOf (seg xs 4 2)) (ipDf xs) (ipMf xs) (ipOff xs) (xs.getD 8 0) (xs.getD 9 0) (Mt.numOf (seg xs 12 4)) (Mt.numOf (seg xs 16 4)) oa (ipOs xs) oc da (ipDs xs) dc W hmay (Mt.getD_lt xs hx.1 1) (seg_num_lt xs hx.1 4 2 (by have := hk.1; omega)) (Mt.getD_lt xs hx.1 8) (Mt.getD_lt xs hx.1 9) (seg_num_lt xs hx.1 12 4 (by have := hk.1; omega)) (seg_num_lt xs hx.1 16 4 (by have := hk.1; omega)) h1 h2
  have hp := fun W (h : Bts W a xs) => ipP_ok a xs cap W h hl.1 hl.2 (by omega) hk
  rw [hys] at hb
  have hb2 : ∀ oa oc da dc W, Bts W oa (ipOs xs) → Bts W da (ipDs xs) → Calls Try.prog 19 #[.agg #[.int .u8 (xs.getD 1 0 : Nat), .int .u16 (Mt.numOf (seg xs 4 2) : Nat), .bool (ipDf xs), .bool (ipMf xs), .int .i64 (ipOff xs : Nat), .int .u8 (xs.getD 8 0 : Nat), .int .u8 (xs.getD 9 0 : Nat), .int .u32 (Mt.numOf (seg xs 12 4) : Nat), .int .u32 (Mt.numOf (seg xs 16 4) : Nat), .slice oa (ipOs xs).length oc, .slice da (ipDs xs).length dc]] W fun e w' => ∃ g cap', e = .returned (.tuple #[.slice (some ⟨g, 0, none⟩) ys.length cap', .int .i64 0]) ∧ OwnSl (W.heap.size + 1) (some ⟨g, 0, none⟩) ys cap' w' ∧ Below W.heap.size W w' := fun oa oc da dc W h1 h2 => by
    have h := hb oa oc da dc W h1 h2
    rw [← ipO_len, hys] at h
    exact h
  unfold ipV at hp
  generalize xs.getD 1 0 = tos at hp hb2
  generalize Mt.numOf (seg xs 4 2) = id at hp hb2
  generalize ipDf xs = df at hp hb2
  generalize ipMf xs = mf at hp hb2
  generalize ipOff xs = off at hp hb2
  generalize xs.getD 8 0 = ttl at hp hb2
  generalize xs.getD 9 0 = proto at hp hb2
  generalize Mt.numOf (seg xs 12 4) = src at hp hb2
  generalize Mt.numOf (seg xs 16 4) = dst at hp hb2
  generalize ipOs xs = os at hp hb2
  generalize ipDs xs = ds at hp hb2
  have HP := Lib.hid hp
  have HB := Lib.hid hb2
  have HY := Lib.hid hya
  have h20 : 20 ≤ ys.length := by omega
  have hyx2 : ys.length ≤ xs.length := by omega
  clear hb hb2 hp hys hmay hk hos hya hyl hy20 hyx
  have q_0 := Below.refl w.heap.size w
  have X_0 := Lib.hid (hx)
  clear hx
  go_enter Try.func3, Try.ntmps3
  go_wp2_with fail
  refine (alive_any _).mono ?_
  rintro e V1 ⟨rfl, b⟩
  have X_1 := Lib.hid (X_0.out.below b)
  have q_1 := q_0.trans (b.mono q_0.size)
  clear X_0 q_0
  clear b
  go_wp2_with fail
  refine (HP.out _ X_1.out).mono ?_
  rintro e V2 ⟨xa, xc, ya, yc, rfl, U, Z, b⟩
  have X_2 := Lib.hid (X_1.out.below b)
  have q_2 := q_1.trans (b.mono q_1.size)
  clear X_1 q_1
  have U_2 := Lib.hid (U)
  have Z_2 := Lib.hid (Z)
  clear b
  clear U Z
  go_wp2_with fail
  have b : Below V2.heap.size V2 (V2.alloc (.cells #[.int .u8 tos, .int .u16 id, .bool df, .bool mf, .int .i64 off, .int .u8 ttl, .int .u8 proto, .int .u32 src, .int .u32 dst, .slice xa os.length xc, .slice ya ds.length yc] 27)) := ((Below.refl _ V2).alloc (Nat.le_refl _) (.cells #[.int .u8 tos, .int .u16 id, .bool df, .bool mf, .int .i64 off, .int .u8 ttl, .int .u8 proto, .int .u32 src, .int .u32 dst, .slice xa os.length xc, .slice ya ds.length yc] 27))
  have nb0 := blk_new V2 (.cells #[.int .u8 tos, .int .u16 id, .bool df, .bool mf, .int .i64 off, .int .u8 ttl, .int .u8 proto, .int .u32 src, .int .u32 dst, .slice xa os.length xc, .slice ya ds.length yc] 27)
  have nz0 : V2.heap.size < (V2.alloc (.cells #[.int .u8 tos, .int .u16 id, .bool df, .bool mf, .int .i64 off, .int .u8 ttl, .int .u8 proto, .int .u32 src, .int .u32 dst, .slice xa os.length xc, .slice ya ds.length yc] 27)).heap.size := by simp only [World.size_alloc]; omega
  have X_3 := Lib.hid (X_2.out.below b)
  have U_3 := Lib.hid (U_2.out.below b)
  have Z_3 := Lib.hid (Z_2.out.below b)
  have q_3 := q_2.trans (b.mono q_2.size)
  clear X_2 U_2 Z_2 q_2
  clear b
  have L_3 := Lib.hid nb0
  have Lz_3 := nz0
  clear nb0 nz0
  have Lc0_3 := blk_cell L_3.out 0
  have Lc1_3 := blk_cell L_3.out 1
  have Lc2_3 := blk_cell L_3.out 2
  have Lc3_3 := blk_cell L_3.out 3
  have Lc4_3 := blk_cell L_3.out 4
  have Lc5_3 := blk_cell L_3.out 5
  have Lc6_3 := blk_cell L_3.out 6
  have Lc7_3 := blk_cell L_3.out 7
  have Lc8_3 := blk_cell L_3.out 8
  have Lc9_3 := blk_cell L_3.out 9
  have Lc10_3 := blk_cell L_3.out 10
  generalize (V2.alloc (.cells #[.int .u8 tos, .int .u16 id, .bool df, .bool mf, .int .i64 off, .int .u8 ttl, .int .u8 proto, .int .u32 src, .int .u32 dst, .slice xa os.length xc, .slice ya ds.length yc] 27)) = V3 at q_3 X_3 U_3 Z_3 L_3 Lz_3 Lc0_3 Lc1_3 Lc2_3 Lc3_3 Lc4_3 Lc5_3 Lc6_3 Lc7_3 Lc8_3 Lc9_3 Lc10_3 ⊢
  refine (num_any _ _).mono ?_
  rintro e w' ⟨rfl, rfl⟩
  go_wp2_with fail
  refine (HB.out xa xc ya yc _ U_3.out.bts Z_3.out.bts).mono ?_
  rintro e V4 ⟨pg, pc, rfl, P, b⟩
  have X_4 := Lib.hid (X_3.out.below b)
  have q_4 := q_3.trans (b.mono q_3.size)
  clear X_3 U_3 Z_3 L_3 Lz_3 Lc0_3 Lc1_3 Lc2_3 Lc3_3 Lc4_3 Lc5_3 Lc6_3 Lc7_3 Lc8_3 Lc9_3 Lc10_3 q_3
  have P_4 := Lib.hid (P)
  clear b
  clear P
  go_wp2_with fail
  refine (num_any _ _).mono ?_
  rintro e w' ⟨rfl, rfl⟩
  have hle : (ys.length : Int) ≤ (xs.length : Int) := by omega
  go_wp2_with fail
  obtain ⟨b0, o0, rfl, hb0, hcell⟩ := X_4.out.isSome (by omega)
  have c6 := hcell 6 (by omega)
  have c10 := hcell 10 (by omega)
  have c11 := hcell 11 (by omega)
  have hO : ipOdd xs ↔ (128 ≤ xs.getD 6 0 ∨ (xs.getD 10 0 = xs.getD 11 0 ∧ (xs.getD 10 0 = 0 ∨ xs.getD 10 0 = 255))) := Iff.rfl
  generalize xs.getD 6 0 = x6 at c6 hO
  generalize xs.getD 10 0 = x10 at c10 hO
  generalize xs.getD 11 0 = x11 at c11 hO
  have l6 : (6 : Int) < (xs.length : Int) := by omega
  have l10 : (10 : Int) < (xs.length : Int) := by omega
  have l11 : (11 : Int) < (xs.length : Int) := by omega
  by_cases h6 : 128 ≤ x6
  · have hodd : ipOdd xs := hO.2 (.inl h6)
    have HOd := Lib.hid hodd
    have i6 : (128 : Int) ≤ (x6 : Int) := by omega
    clear hO hodd
    go_quiet (fail)
    have q9 := below_drewN q_4 nq
    have P9 := Lib.hid (P_4.out.below (below_drewN (Below.refl _ _) nq))
    have X9 := Lib.hid (X_4.out.below (below_drewN (Below.refl _ _) nq))
    generalize V4.drewN nq = V9 at q9 P9 X9 ⊢
    clear hcell c6 c10 c11 q_4 P_4 X_4
    go_wp2
    go_loopw [8] (fun c wr => ∃ k : Nat, k ≤ ys.length ∧ c = .int .i64 k ∧ ∃ q, wr = V9.drewN q) (fun c _ => ys.length - (intOf c).toNat)
    case atStart => exact ⟨0, by omega, rfl, 0, rfl⟩
    case round =>
      obtain ⟨k, hk, rfl, q, rfl⟩ := hrel
      by_cases hlt : k < ys.length
      · have g1 : V9.cell? ⟨pg, k, none⟩ = some (.int .u8 (ys.getD k 0 : Nat)) := P9.out.cellAt k hlt
        have g2 : V9.cell? ⟨b0, o0 + k, none⟩ = some (.int .u8 (xs.getD k 0 : Nat)) := by
          obtain ⟨b1, o1, e1, _, hc1⟩ := X9.out.isSome (by omega)
          cases e1
          exact hc1 k (by omega)
        have hh := HY.out k hlt
        have n1 : (k : Int) < (xs.length : Int) := by omega
        have n2 : (k : Int) < (ys.length : Int) := by omega
        generalize ys.getD k 0 = y at g1 hh
        generalize xs.getD k 0 = x at g2 hh
        by_cases hxy : y = x
        · subst hxy
          clear hh
          go_wp2
          go_quiet (fail)
          go_wp2
          go_roundw
          case rel => exact ⟨k + 1, by omega, by go_num, _, rfl⟩
          case measure => simp [intOf]; omega
        · have hne : ((y : Int) != (x : Int)) = true := by rw [bne_iff_ne]; omega
          have hne2 : ((y : Int) == (x : Int)) = false := by rw [beq_eq_false_iff_ne]; omega
          rcases hh with hh | ⟨_, rfl | rfl | rfl⟩
          · exact absurd hh hxy
          · go_wp2
            go_quiet (fail)
            go_wp2
            go_roundw
            case rel => exact ⟨6 + 1, by omega, by go_num, _, rfl⟩
            case measure => simp [intOf]; omega
          · go_wp2
            go_quiet (fail)
            go_wp2
            go_roundw
            case rel => exact ⟨10 + 1, by omega, by go_num, _, rfl⟩
            case measure => simp [intOf]; omega
          · go_wp2
            go_quiet (fail)
            go_wp2
            go_roundw
            case rel => exact ⟨11 + 1, by omega, by go_num, _, rfl⟩
            case measure => simp [intOf]; omega
      · obtain rfl : k = ys.length := by omega
        go_wp2
        go_ret
        exact ⟨rfl, below_drewN q9 _⟩
  · have i6 : ¬ (128 : Int) ≤ (x6 : Int) := by omega
    by_cases hx : x10 = x11
    · subst hx
      by_cases hx0 : x10 = 0
      · have hodd : ipOdd xs := hO.2 (.inr ⟨rfl, .inl hx0⟩)
        have HOd := Lib.hid hodd
        subst hx0
        clear hO hodd
        go_quiet (fail)
        have q9 := below_drewN q_4 nq
        have P9 := Lib.hid (P_4.out.below (below_drewN (Below.refl _ _) nq))
        have X9 := Lib.hid (X_4.out.below (below_drewN (Below.refl _ _) nq))
        generalize V4.drewN nq = V9 at q9 P9 X9 ⊢
        clear hcell c6 c10 c11 q_4 P_4 X_4
        go_wp2
        go_loopw [8] (fun c wr => ∃ k : Nat, k ≤ ys.length ∧ c = .int .i64 k ∧ ∃ q, wr = V9.drewN q) (fun c _ => ys.length - (intOf c).toNat)
        case atStart => exact ⟨0, by omega, rfl, 0, rfl⟩
        case round =>
          obtain ⟨k, hk, rfl, q, rfl⟩ := hrel
          by_cases hlt : k < ys.length
          · have g1 : V9.cell? ⟨pg, k, none⟩ = some (.int .u8 (ys.getD k 0 : Nat)) := P9.out.cellAt k hlt
            have g2 : V9.cell? ⟨b0, o0 + k, none⟩ = some (.int .u8 (xs.getD k 0 : Nat)) := by
              obtain ⟨b1, o1, e1, _, hc1⟩ := X9.out.isSome (by omega)
              cases e1
              exact hc1 k (by omega)
            have hh := HY.out k hlt
            have n1 : (k : Int) < (xs.length : Int) := by omega
            have n2 : (k : Int) < (ys.length : Int) := by omega
            generalize ys.getD k 0 = y at g1 hh
            generalize xs.getD k 0 = x at g2 hh
            by_cases hxy : y = x
            · subst hxy
              clear hh
              go_wp2
              go_quiet (fail)
              go_wp2
              go_roundw
              case rel => exact ⟨k + 1, by omega, by go_num, _, rfl⟩
              case measure => simp [intOf]; omega
            · have hne : ((y : Int) != (x : Int)) = true := by rw [bne_iff_ne]; omega
              have hne2 : ((y : Int) == (x : Int)) = false := by rw [beq_eq_false_iff_ne]; omega
              rcases hh with hh | ⟨_, rfl | rfl | rfl⟩
              · exact absurd hh hxy
              · go_wp2
                go_quiet (fail)
                go_wp2
                go_roundw
                case rel => exact ⟨6 + 1, by omega, by go_num, _, rfl⟩
                case measure => simp [intOf]; omega
              · go_wp2
                go_quiet (fail)
                go_wp2
                go_roundw
                case rel => exact ⟨10 + 1, by omega, by go_num, _, rfl⟩
                case measure => simp [intOf]; omega
              · go_wp2
                go_quiet (fail)
                go_wp2
                go_roundw
                case rel => exact ⟨11 + 1, by omega, by go_num, _, rfl⟩
                case measure => simp [intOf]; omega
          · obtain rfl : k = ys.length := by omega
            go_wp2
            go_ret
            exact ⟨rfl, below_drewN q9 _⟩
      · have e0 : ((x10 : Int) == 0) = false := by rw [beq_eq_false_iff_ne]; omega
        by_cases hx2 : x10 = 255
        · have hodd : ipOdd xs := hO.2 (.inr ⟨rfl, .inr hx2⟩)
          have HOd := Lib.hid hodd
          subst hx2
          clear hO hodd
          go_quiet (fail)
          have q9 := below_drewN q_4 nq
          have P9 := Lib.hid (P_4.out.below (below_drewN (Below.refl _ _) nq))
          have X9 := Lib.hid (X_4.out.below (below_drewN (Below.refl _ _) nq))
          generalize V4.drewN nq = V9 at q9 P9 X9 ⊢
          clear hcell c6 c10 c11 q_4 P_4 X_4
          go_wp2
          go_loopw [8] (fun c wr => ∃ k : Nat, k ≤ ys.length ∧ c = .int .i64 k ∧ ∃ q, wr = V9.drewN q) (fun c _ => ys.length - (intOf c).toNat)
          case atStart => exact ⟨0, by omega, rfl, 0, rfl⟩
          case round =>
            obtain ⟨k, hk, rfl, q, rfl⟩ := hrel
            by_cases hlt : k < ys.length
            · have g1 : V9.cell? ⟨pg, k, none⟩ = some (.int .u8 (ys.getD k 0 : Nat)) := P9.out.cellAt k hlt
              have g2 : V9.cell? ⟨b0, o0 + k, none⟩ = some (.int .u8 (xs.getD k 0 : Nat)) := by
                obtain ⟨b1, o1, e1, _, hc1⟩ := X9.out.isSome (by omega)
                cases e1
                exact hc1 k (by omega)
              have hh := HY.out k hlt
              have n1 : (k : Int) < (xs.length : Int) := by omega
              have n2 : (k : Int) < (ys.length : Int) := by omega
              generalize ys.getD k 0 = y at g1 hh
              generalize xs.getD k 0 = x at g2 hh
              by_cases hxy : y = x
              · subst hxy
                clear hh
                go_wp2
                go_quiet (fail)
                go_wp2
                go_roundw
                case rel => exact ⟨k + 1, by omega, by go_num, _, rfl⟩
                case measure => simp [intOf]; omega
              · have hne : ((y : Int) != (x : Int)) = true := by rw [bne_iff_ne]; omega
                have hne2 : ((y : Int) == (x : Int)) = false := by rw [beq_eq_false_iff_ne]; omega
                rcases hh with hh | ⟨_, rfl | rfl | rfl⟩
                · exact absurd hh hxy
                · go_wp2
                  go_quiet (fail)
                  go_wp2
                  go_roundw
                  case rel => exact ⟨6 + 1, by omega, by go_num, _, rfl⟩
                  case measure => simp [intOf]; omega
                · go_wp2
                  go_quiet (fail)
                  go_wp2
                  go_roundw
                  case rel => exact ⟨10 + 1, by omega, by go_num, _, rfl⟩
                  case measure => simp [intOf]; omega
                · go_wp2
                  go_quiet (fail)
                  go_wp2
                  go_roundw
                  case rel => exact ⟨11 + 1, by omega, by go_num, _, rfl⟩
                  case measure => simp [intOf]; omega
            · obtain rfl : k = ys.length := by omega
              go_wp2
              go_ret
              exact ⟨rfl, below_drewN q9 _⟩
        · have e2 : ((x10 : Int) == 255) = false := by rw [beq_eq_false_iff_ne]; omega
          have hodd : ¬ ipOdd xs := fun h => by have := hO.1 h; omega
          have HOd := Lib.hid hodd
          clear hO hodd
          go_quiet (fail)
          have q9 := below_drewN q_4 nq
          have P9 := Lib.hid (P_4.out.below (below_drewN (Below.refl _ _) nq))
          have X9 := Lib.hid (X_4.out.below (below_drewN (Below.refl _ _) nq))
          generalize V4.drewN nq = V9 at q9 P9 X9 ⊢
          clear hcell c6 c10 c11 q_4 P_4 X_4
          go_wp2
          go_loopw [8] (fun c wr => ∃ k : Nat, k ≤ ys.length ∧ c = .int .i64 k ∧ ∃ q, wr = V9.drewN q) (fun c _ => ys.length - (intOf c).toNat)
          case atStart => exact ⟨0, by omega, rfl, 0, rfl⟩
          case round =>
            obtain ⟨k, hk, rfl, q, rfl⟩ := hrel
            by_cases hlt : k < ys.length
            · have g1 : V9.cell? ⟨pg, k, none⟩ = some (.int .u8 (ys.getD k 0 : Nat)) := P9.out.cellAt k hlt
              have g2 : V9.cell? ⟨b0, o0 + k, none⟩ = some (.int .u8 (xs.getD k 0 : Nat)) := by
                obtain ⟨b1, o1, e1, _, hc1⟩ := X9.out.isSome (by omega)
                cases e1
                exact hc1 k (by omega)
              have hh := HY.out k hlt
              have n1 : (k : Int) < (xs.length : Int) := by omega
              have n2 : (k : Int) < (ys.length : Int) := by omega
              generalize ys.getD k 0 = y at g1 hh
              generalize xs.getD k 0 = x at g2 hh
              have hxy : y = x := by
                rcases hh with hh | ⟨ho, _⟩
                · exact hh
                · exact absurd ho HOd.out
              subst hxy
              clear hh
              go_wp2
              go_quiet (fail)
              go_wp2
              go_roundw
              case rel => exact ⟨k + 1, by omega, by go_num, _, rfl⟩
              case measure => simp [intOf]; omega
            · obtain rfl : k = ys.length := by omega
              go_wp2
              go_ret
              exact ⟨rfl, below_drewN q9 _⟩
    · have e2 : ((x10 : Int) == (x11 : Int)) = false := by rw [beq_eq_false_iff_ne]; omega
      have hodd : ¬ ipOdd xs := fun h => by have := hO.1 h; omega
      have HOd := Lib.hid hodd
      clear hO hodd
      go_quiet (fail)
      have q9 := below_drewN q_4 nq
      have P9 := Lib.hid (P_4.out.below (below_drewN (Below.refl _ _) nq))
      have X9 := Lib.hid (X_4.out.below (below_drewN (Below.refl _ _) nq))
      generalize V4.drewN nq = V9 at q9 P9 X9 ⊢
      clear hcell c6 c10 c11 q_4 P_4 X_4
      go_wp2
      go_loopw [8] (fun c wr => ∃ k : Nat, k ≤ ys.length ∧ c = .int .i64 k ∧ ∃ q, wr = V9.drewN q) (fun c _ => ys.length - (intOf c).toNat)
      case atStart => exact ⟨0, by omega, rfl, 0, rfl⟩
      case round =>
        obtain ⟨k, hk, rfl, q, rfl⟩ := hrel
        by_cases hlt : k < ys.length
        · have g1 : V9.cell? ⟨pg, k, none⟩ = some (.int .u8 (ys.getD k 0 : Nat)) := P9.out.cellAt k hlt
          have g2 : V9.cell? ⟨b0, o0 + k, none⟩ = some (.int .u8 (xs.getD k 0 : Nat)) := by
            obtain ⟨b1, o1, e1, _, hc1⟩ := X9.out.isSome (by omega)
            cases e1
            exact hc1 k (by omega)
          have hh := HY.out k hlt
          have n1 : (k : Int) < (xs.length : Int) := by omega
          have n2 : (k : Int) < (ys.length : Int) := by omega
          generalize ys.getD k 0 = y at g1 hh
          generalize xs.getD k 0 = x at g2 hh
          have hxy : y = x := by
            rcases hh with hh | ⟨ho, _⟩
            · exact hh
            · exact absurd ho HOd.out
          subst hxy
          clear hh
          go_wp2
          go_quiet (fail)
          go_wp2
          go_roundw
          case rel => exact ⟨k + 1, by omega, by go_num, _, rfl⟩
          case measure => simp [intOf]; omega
        · obtain rfl : k = ys.length := by omega
          go_wp2
          go_ret
          exact ⟨rfl, below_drewN q9 _⟩

set_option maxRecDepth 100000 in
set_option maxHeartbeats 2000000 in
theorem walk_no (a : Option Addr) (xs : List Nat) (cap : Nat) (w : World) (hx : Bts w a xs) (hl : xs.length ≤ cap ∧ cap ≤ maxLen) (hl2 : xs.length ≤ 140737488351232) (hk : ¬ IpPok xs) :
    Calls Try.prog 3 #[.slice a xs.length cap] w fun e w' => e = .returned (.bool true) ∧ Below w.heap.size w w' := by
  have hp := fun W (h : Bts W a xs) => ipP_bad a xs cap W h hl.1 hl.2 (by omega) hk
  have HP := Lib.hid hp
  clear hp hk
  have q_0 := Below.refl w.heap.size w
  have X_0 := Lib.hid (hx)
  clear hx
  go_enter Try.func3, Try.ntmps3
  go_wp2_with fail
  refine (alive_any _).mono ?_
  rintro e V1 ⟨rfl, b⟩
  have X_1 := Lib.hid (X_0.out.below b)
  have q_1 := q_0.trans (b.mono q_0.size)
  clear X_0 q_0
  clear b
  go_wp2_with fail
  refine (HP.out _ X_1.out).mono ?_
  rintro e V2 ⟨n, hn, rfl, b⟩
  have X_2 := Lib.hid (X_1.out.below b)
  have q_2 := q_1.trans (b.mono q_1.size)
  clear X_1 q_1
  clear b
  go_wp2_with fail
  have b : Below V2.heap.size V2 (V2.alloc (.cells #[.int .u8 0, .int .u16 0, .bool false, .bool false, .int .i64 0, .int .u8 0, .int .u8 0, .int .u32 0, .int .u32 0, .slice none 0 0, .slice none 0 0] 27)) := ((Below.refl _ V2).alloc (Nat.le_refl _) (.cells #[.int .u8 0, .int .u16 0, .bool false, .bool false, .int .i64 0, .int .u8 0, .int .u8 0, .int .u32 0, .int .u32 0, .slice none 0 0, .slice none 0 0] 27))
  have nb0 := blk_new V2 (.cells #[.int .u8 0, .int .u16 0, .bool false, .bool false, .int .i64 0, .int .u8 0, .int .u8 0, .int .u32 0, .int .u32 0, .slice none 0 0, .slice none 0 0] 27)
  have nz0 : V2.heap.size < (V2.alloc (.cells #[.int .u8 0, .int .u16 0, .bool false, .bool false, .int .i64 0, .int .u8 0, .int .u8 0, .int .u32 0, .int .u32 0, .slice none 0 0, .slice none 0 0] 27)).heap.size := by simp only [World.size_alloc]; omega
  have X_3 := Lib.hid (X_2.out.below b)
  have q_3 := q_2.trans (b.mono q_2.size)
  clear X_2 q_2
  clear b
  have L_3 := Lib.hid nb0
  have Lz_3 := nz0
  clear nb0 nz0
  have Lc0_3 := blk_cell L_3.out 0
  have Lc1_3 := blk_cell L_3.out 1
  have Lc2_3 := blk_cell L_3.out 2
  have Lc3_3 := blk_cell L_3.out 3
  have Lc4_3 := blk_cell L_3.out 4
  have Lc5_3 := blk_cell L_3.out 5
  have Lc6_3 := blk_cell L_3.out 6
  have Lc7_3 := blk_cell L_3.out 7
  have Lc8_3 := blk_cell L_3.out 8
  have Lc9_3 := blk_cell L_3.out 9
  have Lc10_3 := blk_cell L_3.out 10
  generalize (V2.alloc (.cells #[.int .u8 0, .int .u16 0, .bool false, .bool false, .int .i64 0, .int .u8 0, .int .u8 0, .int .u32 0, .int .u32 0, .slice none 0 0, .slice none 0 0] 27)) = V3 at q_3 X_3 L_3 Lz_3 Lc0_3 Lc1_3 Lc2_3 Lc3_3 Lc4_3 Lc5_3 Lc6_3 Lc7_3 Lc8_3 Lc9_3 Lc10_3 ⊢
  refine (num_any _ _).mono ?_
  rintro e w' ⟨rfl, rfl⟩
  have hn1 : (n != 0) = true := by simp [hn]
  have hn2 : (n == 0) = false := by simp [hn]
  go_wp2
  go_ret
  exact ⟨rfl, q_3⟩

theorem walk (a : Option Addr) (xs : List Nat) (cap : Nat) (w : World)
    (hx : Bts w a xs) (_ : a = none → cap = 0) (hl : xs.length ≤ cap ∧ cap ≤ maxLen) (hl2 : xs.length ≤ 140737488351232) :
    Calls Try.prog 3 #[.slice a xs.length cap] w fun e w' => e = .returned (.bool true) ∧ Below w.heap.size w w' := by
  by_cases h : IpPok xs
  · exact walk_may a xs cap w hx hl hl2 h
  · exact walk_no a xs cap w hx hl hl2 h

theorem own : ownKnob Try.prog.godebug = none := by kernel_rfl
theorem laidOut : laidOutB Try.prog = true := by kernel_rfl

set_option maxRecDepth 100000 in
set_option maxHeartbeats 2000000 in
theorem lifted (os : Os) (started : os.Started) (H : Type) (enc : TypeId × Value → H) :
    ReturnsInHanded {} Try.checked os 3 .any (Rows.ipwireAgainSpec.pre6 enc Try.prog Try.f3 Rows.ipwireAgainRow.domain false) (Rows.ipwireAgainSpec.post enc Try.prog Try.f3 false true false false) := by
  refine returnsInHanded_of_change_sized (C := Try.checked) own started (by kernel_rfl) Try.func3
    (ChangeSpec.witness6 (enc := enc) (C := Try.checked) false ⟨#[], #[.slice none 0 0], []⟩ 8 (by kernel_rfl) (by kernel_rfl) (by kernel_rfl) (by kernel_rfl)) ?_
  intro W base args ds gs before hval0 hW hcnd hsz0 _
  have hval : ∀ (j : Nat) t v, Try.f3.params[j]? = some t → args[j]? = some v → Value.okWide Try.prog W .any base t v := hval0
  have hsz : (DataW.weightsEach Try.prog (Try.f3.params.toList ++ Rows.ipwireAgainSpec.plain.varTypes Try.prog) (ds ++ gs)).all (· ≤ reachBytes) = true := hsz0
  have hW' := hW
  obtain ⟨p, q, hA0, hV, rfl, hfz, hnd⟩ := hW
  have hA : DataW.TrodAll enc Try.prog W 0 (fun _ => true) true Try.f3.params.toList args.toList ds p := hA0
  rw [Try.params3] at hA hval hsz
  obtain ⟨v0, vs0, d0, ds0, p0, q0, hargs, rfl, rfl, h0, r0⟩ := trodAll_cons hA
  obtain ⟨rfl, rfl, rfl⟩ := trodAll_nil r0
  obtain rfl : args = #[v0] := by cases args; simp_all
  obtain ⟨rfl, rfl⟩ := trodVars_none hV
  obtain ⟨a0, len0, cap0, rfl⟩ := okWide_slice Try.underlying22 (hval 0 22 v0 rfl rfl)
  have k0 := h0
  have lt0 : ∀ x ∈ p0, x.block < W.heap.size := by obtain ⟨m, hm⟩ := k0; exact DataW.trod_lt m _ _ _ hm
  obtain ⟨xs0, hxl0, hbt0, hcap0, hlc0, hre0⟩ : ∃ xs : List Nat, xs.length = len0 ∧ Bts W a0 xs ∧ (a0 = none → cap0 = 0) ∧ (xs.length ≤ cap0 ∧ cap0 ≤ maxLen) ∧ xs.length ≤ 140737488351232 := by
    obtain ⟨fuel, hf⟩ := h0
    rcases open_ints Try.underlying22 Try.underlying5 (by kernel_rfl) hf with ⟨hcs, _⟩ | ⟨x, l, c, zs, hcs, _, hl, hm, hz, hd, hcell, hwz⟩
    · simp [Value.cells] at hcs
      obtain ⟨rfl, rfl, rfl⟩ := hcs
      exact ⟨[], rfl, ⟨(fun x h => by cases h), .inl rfl⟩, fun _ => rfl, ⟨Nat.le_refl _, Nat.zero_le _⟩, by simp⟩
    · simp [Value.cells] at hcs
      obtain ⟨rfl, rfl, rfl⟩ := hcs
      have hz' : zs.length = cap0 := by simpa using hz
      obtain ⟨xs, h1, h2⟩ := bts_of_ints hl hz' hcell hwz
      have hd' := (Prod.mk.inj hd).1
      have hw := sized_slice hsz (j := 0) (t := 22) (e := 5) rfl (by rw [hd']; rfl) Try.underlying22
      rw [bytes5] at hw
      simp only [lits, List.length_map, List.length_take, List.length_drop, reachBytes] at hw
      exact ⟨xs, h1, h2, (fun h => by cases h), ⟨by omega, hm⟩, by omega⟩
  clear hA0 hval0 hsz hsz0
  subst hxl0
  refine (walk a0 xs0 cap0 W hbt0 hcap0 hlc0 hre0).mono fun e W' ⟨he, bel⟩ => ?_
  subst he
  exact ⟨_, rfl, _, _, _, [], _, [], hW', trodAll_mk1 (shut_bool Try.underlying4 _), (trodAll_cons_mk (Below.trod laidOut (by kernel_rfl) (of_decide_eq_true (by kernel_rfl)) k0 bel lt0) trodAll_mk0), rfl, bel.frame _, fun h => by cases h⟩

theorem over : Rows.ipwireAgainRow.holds Try.pinned (OpenSpec.ofChange Rows.ipwireAgainSpec) :=
  OpenClaim.holds_of_wide 3 Try.f3 rfl rfl rfl rfl rfl rfl rfl ⟨rfl, rfl, rfl, rfl, rfl⟩ rfl rfl rfl rfl rfl (by kernel_rfl) Try.func3 (by kernel_rfl)
    (of_decide_eq_true (by kernel_rfl)) (by unfold Func.isWrapper; first | (rw [if_pos (by decide +kernel)]; kernel_rfl) | (rw [if_neg (by decide +kernel)]; exact ⟨rfl, rfl⟩))
    (fun os started H enc _ => lifted os started H enc)

end Go.Proofs.Ytpdlmgafkjmjpaa.ipwireAgain
namespace Go.Proofs.Ytpdlmgafkjmjpaa
/-- The statement. -/
theorem ipwireAgain_holds : Rows.IpwireAgainSaid := ipwireAgain.over
#print axioms ipwireAgain_holds
end Go.Proofs.Ytpdlmgafkjmjpaa
