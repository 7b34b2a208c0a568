/- For every key and every two inputs: the hash of their exclusive or, bit by bit, is the exclusive or of their hashes. No condition. -/
import Derived.Test.YtpdlmgafkjmjpaaRows
import Derived.Test.YtpdlmgafkjmjpaaAlive7
import Derived.Test.YtpdlmgafkjmjpaaToCalls
import Derived.Test.YtpdlmgafkjmjpaaGAppend
import Derived.Test.YtpdlmgafkjmjpaaGFrame
import Derived.ProofKit
import Derived.OpenShut
import Derived.ShutString
import Derived.ChangeOld
import Derived.SizedLaws
namespace Go.Proofs.Ytpdlmgafkjmjpaa.toeplitzLinear
open Go.ChangeShapes Go.WideShapes Go.ChangeAt Go.RowKit Go.Proofs.Ytpdlmgafkjmjpaa.law7
open Go.ChangeMaps (open_string shut_string)

theorem _root_.Go.Proofs.Ytpdlmgafkjmjpaa.Bts.takeN {w : World} {a : Option Addr} {xs : List Nat} (h : Bts w a xs) (n : Nat) : Bts w a (xs.take n) := by
  refine ⟨fun x hx => h.1 x (List.mem_of_mem_take hx), ?_⟩
  rcases h.2 with rfl | ⟨b, off, rfl, hb, hc⟩
  · exact .inl (by simp)
  · refine .inr ⟨b, off, rfl, hb, fun i hi => ?_⟩
    rw [List.length_take] at hi
    rw [hc i (by omega), List.getD_eq_getElem?_getD, List.getD_eq_getElem?_getD, List.getElem?_take_of_lt (by omega)]

theorem thE_len {ks xs ys : List Nat} (h : xs.length = ys.length) : thE ks xs = thE ks ys := by unfold thE; rw [h]

theorem thV_xor (ks xs ys zs : List Nat) (n : Nat) (hx : xs.length = n) (hy : ys.length = n) (hz : zs.length = n) (h : ∀ i, i < n → zs.getD i 0 = xs.getD i 0 ^^^ ys.getD i 0) : thV ks zs = thV ks xs ^^^ thV ks ys := by
  unfold thV
  rw [hx, hy, hz]
  split
  · exact th_xor ks xs ys zs n h (8 * n) (Nat.le_refl _)
  · rfl

set_option maxRecDepth 100000 in
set_option maxHeartbeats 4000000 in
theorem walk (ka : Option Addr) (ks : List Nat) (kc : Nat) (aa : Option Addr) (xs : List Nat) (ac : Nat) (ba : Option Addr) (ys : List Nat) (bc : Nat) (w : World)
    (hk : Bts w ka ks) (_ : ka = none → kc = 0) (hkl : ks.length ≤ kc ∧ kc ≤ maxLen) (_ : ks.length ≤ 140737488351232) (hx : Bts w aa xs) (hac : aa = none → ac = 0) (hal : xs.length ≤ ac ∧ ac ≤ maxLen) (hl2 : xs.length ≤ 140737488351232) (hy : Bts w ba ys) (hbc : ba = none → bc = 0) (hbl : ys.length ≤ bc ∧ bc ≤ maxLen) (hl3 : ys.length ≤ 140737488351232) :
    Calls Try.prog 13 #[.slice ka ks.length kc, .slice aa xs.length ac, .slice ba ys.length bc] w fun e w' => e = .returned (.bool true) ∧ Below w.heap.size w w' := by
  have K0 := Lib.hid hk
  have X0 := Lib.hid hx
  have Y0 := Lib.hid hy
  clear hk hx hy
  go_enter Try.func13, Try.ntmps13
  go_wp2_with fail
  refine (alive_any _).mono ?_
  rintro e V1 ⟨rfl, q1⟩
  by_cases h1 : 36 < xs.length ∧ 36 < ys.length
  · have m1 : ¬ (xs.length : Int) < 36 := by omega
    have m2 : ¬ (ys.length : Int) < 36 := by omega
    have m3 : ¬ (xs.length : Int) ≤ 36 := by omega
    have m4 : ¬ (ys.length : Int) ≤ 36 := by omega
    have h1 := Lib.hid h1
    go_wp2_with fail
    have hn1 : 36 ≤ xs.length := by have := h1.out; omega
    have hn2 : 36 ≤ ys.length := by have := h1.out; omega
    have hn3 : 36 ≤ 36 := by omega
    go_loopw [8, 9] (fun c i wr => ∃ (k : Nat) (ca : Option Addr) (cs : List Nat) (cc : Nat), k ≤ 36 ∧ i = .int .i64 k ∧ c = .slice ca k cc ∧ cs.length = k ∧ OwnSl V1.heap.size ca cs cc wr ∧ (∀ i, i < k → cs.getD i 0 = xs.getD i 0 ^^^ ys.getD i 0) ∧ Below V1.heap.size V1 wr) (fun _ i _ => 36 - (intOf i).toNat)
    case atStart => exact ⟨0, none, [], 0, by omega, rfl, rfl, rfl, own_nil _ _, fun i h => by omega, Below.refl _ _⟩
    case round =>
      obtain ⟨k, ca, cs, cc, hk, rfl, rfl, hcl, hO, hcs, hb⟩ := hrel
      have q2 := q1.trans (hb.mono q1.size)
      have HO := Lib.hid hO
      have HCS := Lib.hid hcs
      have HCL := Lib.hid hcl
      clear hO hcs hcl
      by_cases hlt : k < 36
      · obtain ⟨b1, o1, rfl, lt1, hc1⟩ := (X0.out.below q1).isSome (by omega)
        obtain ⟨b2, o2, rfl, lt2, hc2⟩ := (Y0.out.below q1).isSome (by omega)
        have f1 := hc1 k (by omega)
        have f2 := hc2 k (by omega)
        have g1 := (hb.cell (p := ⟨b1, o1 + k, none⟩) lt1).trans f1
        have g2 := (hb.cell (p := ⟨b2, o2 + k, none⟩) lt2).trans f2
        have l1 := X0.out.1 _ (Mt.getD_mem xs k (by omega))
        have l2 := Y0.out.1 _ (Mt.getD_mem ys k (by omega))
        obtain ⟨x, hx⟩ : ∃ x, xs.getD k 0 = x := ⟨_, rfl⟩
        obtain ⟨y, hy⟩ : ∃ y, ys.getD k 0 = y := ⟨_, rfl⟩
        rw [hx] at g1 f1 l1
        rw [hy] at g2 f2 l2
        have hxr := u8_xor_nat x y l1 l2
        have hz : x ^^^ y < 256 := Nat.xor_lt_two_pow (n := 8) l1 l2
        obtain ⟨z, hze⟩ : ∃ z, x ^^^ y = z := ⟨_, rfl⟩
        rw [hze] at hxr hz
        have hnew : ∀ i, i < k + 1 → (cs ++ [z]).getD i 0 = xs.getD i 0 ^^^ ys.getD i 0 := fun i hi => by
          by_cases e : i < k
          · rw [← HCS.out i e, List.getD_eq_getElem?_getD, List.getElem?_append_left (by rw [HCL.out]; exact e), ← List.getD_eq_getElem?_getD]
          · obtain rfl : i = k := by omega
            rw [hx, hy, hze, List.getD_eq_getElem?_getD, List.getElem?_append_right (by rw [HCL.out]; omega), HCL.out, Nat.sub_self]
            rfl
        have HN := Lib.hid hnew
        have bt := bts_new wr [z] 5 (by intro t ht; rw [List.mem_singleton] at ht; omega)
        have ba := (Below.refl wr.heap.size wr).alloc (Nat.le_refl _) (.cells ([z].map (fun x => Value.int .u8 (x : Nat))).toArray 5)
        have P := Lib.hid ((HO.out.below ba).below (Below.refl _ _).drew)
        have Y := Lib.hid (bt.below (Below.refl _ _).drew)
        have hbd : Below V1.heap.size V1 _ := hb.trans ((ba.mono hb.size).trans ((Below.refl _ _).drew))
        have hsz := hbd.size
        have HB := Lib.hid hbd
        have k1 : (k : Int) < (xs.length : Int) := by omega
        have k2 : (k : Int) < (ys.length : Int) := by omega
        have hcl := HCL.out
        subst hcl
        have F1 := Lib.hid f1
        have F2 := Lib.hid f2
        clear f1 f2 hc1 hc2 hx hy hze hnew bt ba hbd HCS HO
        go_wp2_with fail
        go_region_held3 (fun W => W.cell? ⟨b1, o1 + cs.length, none⟩ = some (.int .u8 (x : Nat)) ∧ W.cell? ⟨b2, o2 + cs.length, none⟩ = some (.int .u8 (y : Nat))) (first | exact ⟨g1, g2⟩ | exact ⟨i1, i2⟩ | go_keep) (first
          | (refine step_append_bts (by rfl) _ _ (by rfl) V1.heap.size P.out Y.out (fun h => by cases h) (by rfl) (by rfl) (by simp; omega) hsz ?_; intro a3 c3 w3 Z b3; have O3 := Lib.hid Z; have q3 := Lib.hid (HB.out.trans b3); have i1 := (q3.out.cell (p := ⟨b1, o1 + cs.length, none⟩) lt1).trans F1.out; have i2 := (q3.out.cell (p := ⟨b2, o2 + cs.length, none⟩) lt2).trans F2.out; clear Z b3))
        have hl1 : (cs ++ [z]).length = cs.length + 1 := by simp
        rw [hl1]
        have HL1 := Lib.hid hl1
        clear hl1 g1 g2 i1 i2
        go_wp2
        go_roundw
        case rel => exact ⟨cs.length + 1, a3, cs ++ [z], c3, by omega, by go_num, rfl, HL1.out, O3.out, HN.out, q3.out⟩
        case measure => simp [intOf]; omega
      · obtain rfl : k = 36 := by omega
        have t1 : (xs.take (36)).length = 36 := by rw [List.length_take]; omega
        have t2 : (ys.take (36)).length = 36 := by rw [List.length_take]; omega
        have gx : ∀ i, i < 36 → (xs.take (36)).getD i 0 = xs.getD i 0 := fun i hi => by rw [List.getD_eq_getElem?_getD, List.getD_eq_getElem?_getD, List.getElem?_take_of_lt hi]
        have gy : ∀ i, i < 36 → (ys.take (36)).getD i 0 = ys.getD i 0 := fun i hi => by rw [List.getD_eq_getElem?_getD, List.getD_eq_getElem?_getD, List.getElem?_take_of_lt hi]
        have hv := thV_xor ks (xs.take (36)) (ys.take (36)) cs (36) t1 t2 HCL.out (fun i hi => by rw [HCS.out i hi, gx i hi, gy i hi])
        have hx := fun W hw => hash_all ka ks kc aa (xs.take (36)) ac W (K0.out.below (w' := W) hw) ((X0.out.below hw).takeN (36)) hkl.1 (by have := hkl.2; unfold maxLen at this; omega) (by omega)
        have hy := fun W hw => hash_all ka ks kc ba (ys.take (36)) bc W (K0.out.below (w' := W) hw) ((Y0.out.below hw).takeN (36)) hkl.1 (by have := hkl.2; unfold maxLen at this; omega) (by omega)
        have hz := fun W hw (hc : Bts W ca cs) => hash_all ka ks kc ca cs cc W (K0.out.below (w' := W) hw) hc hkl.1 (by have := hkl.2; unfold maxLen at this; omega) (by have := HCL.out; omega)
        have e1 : thE ks (ys.take (36)) = thE ks (xs.take (36)) := thE_len (by rw [t1, t2])
        have e2 : thE ks cs = thE ks (xs.take (36)) := thE_len (by rw [t1, HCL.out])
        have hxr := u32_xor_nat (thV ks (xs.take (36))) (thV ks (ys.take (36))) (thV_lt _ _) (thV_lt _ _)
        rw [← hv] at hxr
        rw [t1] at hx
        rw [t2, e1] at hy
        rw [HCL.out, e2] at hz
        generalize thE ks (xs.take (36)) = E at hx hy hz
        generalize thV ks (xs.take (36)) = VX at hx hxr
        generalize thV ks (ys.take (36)) = VY at hy hxr
        generalize thV ks cs = VZ at hz hxr
        have HX := Lib.hid hx
        have HY := Lib.hid hy
        have HZ := Lib.hid hz
        have i1 : ((36 : Nat) : Int) ≤ (ac : Int) := by omega
        have i2 : ((36 : Nat) : Int) ≤ (bc : Int) := by omega
        clear hv hx hy hz t1 t2 gx gy e1 e2 HCS HCL X0 Y0 K0
        go_wp2_with fail
        refine (HX.out _ q2).mono ?_
        rintro e V3 ⟨rfl, b3⟩
        have q3 := q2.trans (b3.mono q2.size)
        have O3 := Lib.hid (HO.out.below b3)
        clear HX HO
        go_wp2_with fail
        refine (HY.out _ q3).mono ?_
        rintro e V4 ⟨rfl, b4⟩
        have q4 := q3.trans (b4.mono q3.size)
        have O4 := Lib.hid (O3.out.below b4)
        clear HY O3
        go_wp2_with fail
        refine (HZ.out _ q4 O4.out.bts).mono ?_
        rintro e V5 ⟨rfl, b5⟩
        have q5 := q4.trans (b5.mono q4.size)
        clear HZ O4
        by_cases hE : E = 0
        · subst hE
          go_wp2_with fail
          refine (num_any _ _).mono ?_
          rintro e V6 ⟨rfl, rfl⟩
          go_wp2
          go_ret
          exact ⟨rfl, q5⟩
        · have hE1 : (E != 0) = true := by rw [bne_iff_ne]; exact hE
          have hE2 : (E == 0) = false := by rw [beq_eq_false_iff_ne]; exact hE
          go_wp2_with fail
          refine (num_any _ _).mono ?_
          rintro e V6 ⟨rfl, rfl⟩
          go_wp2
          go_ret
          exact ⟨rfl, q5⟩
  · by_cases h2 : ys.length < xs.length
    · have m1 : (ys.length : Int) ≤ 36 := by omega
      go_wp2_with fail
      have hn1 : ys.length ≤ xs.length := by omega
      have hn2 : ys.length ≤ ys.length := by omega
      have hn3 : ys.length ≤ 36 := by omega
      go_loopw [8, 9] (fun c i wr => ∃ (k : Nat) (ca : Option Addr) (cs : List Nat) (cc : Nat), k ≤ ys.length ∧ i = .int .i64 k ∧ c = .slice ca k cc ∧ cs.length = k ∧ OwnSl V1.heap.size ca cs cc wr ∧ (∀ i, i < k → cs.getD i 0 = xs.getD i 0 ^^^ ys.getD i 0) ∧ Below V1.heap.size V1 wr) (fun _ i _ => ys.length - (intOf i).toNat)
      case atStart => exact ⟨0, none, [], 0, by omega, rfl, rfl, rfl, own_nil _ _, fun i h => by omega, Below.refl _ _⟩
      case round =>
        obtain ⟨k, ca, cs, cc, hk, rfl, rfl, hcl, hO, hcs, hb⟩ := hrel
        have q2 := q1.trans (hb.mono q1.size)
        have HO := Lib.hid hO
        have HCS := Lib.hid hcs
        have HCL := Lib.hid hcl
        clear hO hcs hcl
        by_cases hlt : k < ys.length
        · obtain ⟨b1, o1, rfl, lt1, hc1⟩ := (X0.out.below q1).isSome (by omega)
          obtain ⟨b2, o2, rfl, lt2, hc2⟩ := (Y0.out.below q1).isSome (by omega)
          have f1 := hc1 k (by omega)
          have f2 := hc2 k (by omega)
          have g1 := (hb.cell (p := ⟨b1, o1 + k, none⟩) lt1).trans f1
          have g2 := (hb.cell (p := ⟨b2, o2 + k, none⟩) lt2).trans f2
          have l1 := X0.out.1 _ (Mt.getD_mem xs k (by omega))
          have l2 := Y0.out.1 _ (Mt.getD_mem ys k (by omega))
          obtain ⟨x, hx⟩ : ∃ x, xs.getD k 0 = x := ⟨_, rfl⟩
          obtain ⟨y, hy⟩ : ∃ y, ys.getD k 0 = y := ⟨_, rfl⟩
          rw [hx] at g1 f1 l1
          rw [hy] at g2 f2 l2
          have hxr := u8_xor_nat x y l1 l2
          have hz : x ^^^ y < 256 := Nat.xor_lt_two_pow (n := 8) l1 l2
          obtain ⟨z, hze⟩ : ∃ z, x ^^^ y = z := ⟨_, rfl⟩
          rw [hze] at hxr hz
          have hnew : ∀ i, i < k + 1 → (cs ++ [z]).getD i 0 = xs.getD i 0 ^^^ ys.getD i 0 := fun i hi => by
            by_cases e : i < k
            · rw [← HCS.out i e, List.getD_eq_getElem?_getD, List.getElem?_append_left (by rw [HCL.out]; exact e), ← List.getD_eq_getElem?_getD]
            · obtain rfl : i = k := by omega
              rw [hx, hy, hze, List.getD_eq_getElem?_getD, List.getElem?_append_right (by rw [HCL.out]; omega), HCL.out, Nat.sub_self]
              rfl
          have HN := Lib.hid hnew
          have bt := bts_new wr [z] 5 (by intro t ht; rw [List.mem_singleton] at ht; omega)
          have ba := (Below.refl wr.heap.size wr).alloc (Nat.le_refl _) (.cells ([z].map (fun x => Value.int .u8 (x : Nat))).toArray 5)
          have P := Lib.hid ((HO.out.below ba).below (Below.refl _ _).drew)
          have Y := Lib.hid (bt.below (Below.refl _ _).drew)
          have hbd : Below V1.heap.size V1 _ := hb.trans ((ba.mono hb.size).trans ((Below.refl _ _).drew))
          have hsz := hbd.size
          have HB := Lib.hid hbd
          have k1 : (k : Int) < (xs.length : Int) := by omega
          have k2 : (k : Int) < (ys.length : Int) := by omega
          have hcl := HCL.out
          subst hcl
          have F1 := Lib.hid f1
          have F2 := Lib.hid f2
          clear f1 f2 hc1 hc2 hx hy hze hnew bt ba hbd HCS HO
          go_wp2_with fail
          go_region_held3 (fun W => W.cell? ⟨b1, o1 + cs.length, none⟩ = some (.int .u8 (x : Nat)) ∧ W.cell? ⟨b2, o2 + cs.length, none⟩ = some (.int .u8 (y : Nat))) (first | exact ⟨g1, g2⟩ | exact ⟨i1, i2⟩ | go_keep) (first
            | (refine step_append_bts (by rfl) _ _ (by rfl) V1.heap.size P.out Y.out (fun h => by cases h) (by rfl) (by rfl) (by simp; omega) hsz ?_; intro a3 c3 w3 Z b3; have O3 := Lib.hid Z; have q3 := Lib.hid (HB.out.trans b3); have i1 := (q3.out.cell (p := ⟨b1, o1 + cs.length, none⟩) lt1).trans F1.out; have i2 := (q3.out.cell (p := ⟨b2, o2 + cs.length, none⟩) lt2).trans F2.out; clear Z b3))
          have hl1 : (cs ++ [z]).length = cs.length + 1 := by simp
          rw [hl1]
          have HL1 := Lib.hid hl1
          clear hl1 g1 g2 i1 i2
          go_wp2
          go_roundw
          case rel => exact ⟨cs.length + 1, a3, cs ++ [z], c3, by omega, by go_num, rfl, HL1.out, O3.out, HN.out, q3.out⟩
          case measure => simp [intOf]; omega
        · obtain rfl : k = ys.length := by omega
          have t1 : (xs.take (ys.length)).length = ys.length := by rw [List.length_take]; omega
          have t2 : (ys.take (ys.length)).length = ys.length := by rw [List.length_take]; omega
          have gx : ∀ i, i < ys.length → (xs.take (ys.length)).getD i 0 = xs.getD i 0 := fun i hi => by rw [List.getD_eq_getElem?_getD, List.getD_eq_getElem?_getD, List.getElem?_take_of_lt hi]
          have gy : ∀ i, i < ys.length → (ys.take (ys.length)).getD i 0 = ys.getD i 0 := fun i hi => by rw [List.getD_eq_getElem?_getD, List.getD_eq_getElem?_getD, List.getElem?_take_of_lt hi]
          have hv := thV_xor ks (xs.take (ys.length)) (ys.take (ys.length)) cs (ys.length) t1 t2 HCL.out (fun i hi => by rw [HCS.out i hi, gx i hi, gy i hi])
          have hx := fun W hw => hash_all ka ks kc aa (xs.take (ys.length)) ac W (K0.out.below (w' := W) hw) ((X0.out.below hw).takeN (ys.length)) hkl.1 (by have := hkl.2; unfold maxLen at this; omega) (by omega)
          have hy := fun W hw => hash_all ka ks kc ba (ys.take (ys.length)) bc W (K0.out.below (w' := W) hw) ((Y0.out.below hw).takeN (ys.length)) hkl.1 (by have := hkl.2; unfold maxLen at this; omega) (by omega)
          have hz := fun W hw (hc : Bts W ca cs) => hash_all ka ks kc ca cs cc W (K0.out.below (w' := W) hw) hc hkl.1 (by have := hkl.2; unfold maxLen at this; omega) (by have := HCL.out; omega)
          have e1 : thE ks (ys.take (ys.length)) = thE ks (xs.take (ys.length)) := thE_len (by rw [t1, t2])
          have e2 : thE ks cs = thE ks (xs.take (ys.length)) := thE_len (by rw [t1, HCL.out])
          have hxr := u32_xor_nat (thV ks (xs.take (ys.length))) (thV ks (ys.take (ys.length))) (thV_lt _ _) (thV_lt _ _)
          rw [← hv] at hxr
          rw [t1] at hx
          rw [t2, e1] at hy
          rw [HCL.out, e2] at hz
          generalize thE ks (xs.take (ys.length)) = E at hx hy hz
          generalize thV ks (xs.take (ys.length)) = VX at hx hxr
          generalize thV ks (ys.take (ys.length)) = VY at hy hxr
          generalize thV ks cs = VZ at hz hxr
          have HX := Lib.hid hx
          have HY := Lib.hid hy
          have HZ := Lib.hid hz
          have i1 : ((ys.length : Nat) : Int) ≤ (ac : Int) := by omega
          have i2 : ((ys.length : Nat) : Int) ≤ (bc : Int) := by omega
          clear hv hx hy hz t1 t2 gx gy e1 e2 HCS HCL X0 Y0 K0
          go_wp2_with fail
          refine (HX.out _ q2).mono ?_
          rintro e V3 ⟨rfl, b3⟩
          have q3 := q2.trans (b3.mono q2.size)
          have O3 := Lib.hid (HO.out.below b3)
          clear HX HO
          go_wp2_with fail
          refine (HY.out _ q3).mono ?_
          rintro e V4 ⟨rfl, b4⟩
          have q4 := q3.trans (b4.mono q3.size)
          have O4 := Lib.hid (O3.out.below b4)
          clear HY O3
          go_wp2_with fail
          refine (HZ.out _ q4 O4.out.bts).mono ?_
          rintro e V5 ⟨rfl, b5⟩
          have q5 := q4.trans (b5.mono q4.size)
          clear HZ O4
          by_cases hE : E = 0
          · subst hE
            go_wp2_with fail
            refine (num_any _ _).mono ?_
            rintro e V6 ⟨rfl, rfl⟩
            go_wp2
            go_ret
            exact ⟨rfl, q5⟩
          · have hE1 : (E != 0) = true := by rw [bne_iff_ne]; exact hE
            have hE2 : (E == 0) = false := by rw [beq_eq_false_iff_ne]; exact hE
            go_wp2_with fail
            refine (num_any _ _).mono ?_
            rintro e V6 ⟨rfl, rfl⟩
            go_wp2
            go_ret
            exact ⟨rfl, q5⟩
    · have m1 : (xs.length : Int) ≤ 36 := by omega
      go_wp2_with fail
      have hn1 : xs.length ≤ xs.length := by omega
      have hn2 : xs.length ≤ ys.length := by omega
      have hn3 : xs.length ≤ 36 := by omega
      go_loopw [8, 9] (fun c i wr => ∃ (k : Nat) (ca : Option Addr) (cs : List Nat) (cc : Nat), k ≤ xs.length ∧ i = .int .i64 k ∧ c = .slice ca k cc ∧ cs.length = k ∧ OwnSl V1.heap.size ca cs cc wr ∧ (∀ i, i < k → cs.getD i 0 = xs.getD i 0 ^^^ ys.getD i 0) ∧ Below V1.heap.size V1 wr) (fun _ i _ => xs.length - (intOf i).toNat)
      case atStart => exact ⟨0, none, [], 0, by omega, rfl, rfl, rfl, own_nil _ _, fun i h => by omega, Below.refl _ _⟩
      case round =>
        obtain ⟨k, ca, cs, cc, hk, rfl, rfl, hcl, hO, hcs, hb⟩ := hrel
        have q2 := q1.trans (hb.mono q1.size)
        have HO := Lib.hid hO
        have HCS := Lib.hid hcs
        have HCL := Lib.hid hcl
        clear hO hcs hcl
        by_cases hlt : k < xs.length
        · obtain ⟨b1, o1, rfl, lt1, hc1⟩ := (X0.out.below q1).isSome (by omega)
          obtain ⟨b2, o2, rfl, lt2, hc2⟩ := (Y0.out.below q1).isSome (by omega)
          have f1 := hc1 k (by omega)
          have f2 := hc2 k (by omega)
          have g1 := (hb.cell (p := ⟨b1, o1 + k, none⟩) lt1).trans f1
          have g2 := (hb.cell (p := ⟨b2, o2 + k, none⟩) lt2).trans f2
          have l1 := X0.out.1 _ (Mt.getD_mem xs k (by omega))
          have l2 := Y0.out.1 _ (Mt.getD_mem ys k (by omega))
          obtain ⟨x, hx⟩ : ∃ x, xs.getD k 0 = x := ⟨_, rfl⟩
          obtain ⟨y, hy⟩ : ∃ y, ys.getD k 0 = y := ⟨_, rfl⟩
          rw [hx] at g1 f1 l1
          rw [hy] at g2 f2 l2
          have hxr := u8_xor_nat x y l1 l2
          have hz : x ^^^ y < 256 := Nat.xor_lt_two_pow (n := 8) l1 l2
          obtain ⟨z, hze⟩ : ∃ z, x ^^^ y = z := ⟨_, rfl⟩
          rw [hze] at hxr hz
          have hnew : ∀ i, i < k + 1 → (cs ++ [z]).getD i 0 = xs.getD i 0 ^^^ ys.getD i 0 := fun i hi => by
            by_cases e : i < k
            · rw [← HCS.out i e, List.getD_eq_getElem?_getD, List.getElem?_append_left (by rw [HCL.out]; exact e), ← List.getD_eq_getElem?_getD]
            · obtain rfl : i = k := by omega
              rw [hx, hy, hze, List.getD_eq_getElem?_getD, List.getElem?_append_right (by rw [HCL.out]; omega), HCL.out, Nat.sub_self]
              rfl
          have HN := Lib.hid hnew
          have bt := bts_new wr [z] 5 (by intro t ht; rw [List.mem_singleton] at ht; omega)
          have ba := (Below.refl wr.heap.size wr).alloc (Nat.le_refl _) (.cells ([z].map (fun x => Value.int .u8 (x : Nat))).toArray 5)
          have P := Lib.hid ((HO.out.below ba).below (Below.refl _ _).drew)
          have Y := Lib.hid (bt.below (Below.refl _ _).drew)
          have hbd : Below V1.heap.size V1 _ := hb.trans ((ba.mono hb.size).trans ((Below.refl _ _).drew))
          have hsz := hbd.size
          have HB := Lib.hid hbd
          have k1 : (k : Int) < (xs.length : Int) := by omega
          have k2 : (k : Int) < (ys.length : Int) := by omega
          have hcl := HCL.out
          subst hcl
          have F1 := Lib.hid f1
          have F2 := Lib.hid f2
          clear f1 f2 hc1 hc2 hx hy hze hnew bt ba hbd HCS HO
          go_wp2_with fail
          go_region_held3 (fun W => W.cell? ⟨b1, o1 + cs.length, none⟩ = some (.int .u8 (x : Nat)) ∧ W.cell? ⟨b2, o2 + cs.length, none⟩ = some (.int .u8 (y : Nat))) (first | exact ⟨g1, g2⟩ | exact ⟨i1, i2⟩ | go_keep) (first
            | (refine step_append_bts (by rfl) _ _ (by rfl) V1.heap.size P.out Y.out (fun h => by cases h) (by rfl) (by rfl) (by simp; omega) hsz ?_; intro a3 c3 w3 Z b3; have O3 := Lib.hid Z; have q3 := Lib.hid (HB.out.trans b3); have i1 := (q3.out.cell (p := ⟨b1, o1 + cs.length, none⟩) lt1).trans F1.out; have i2 := (q3.out.cell (p := ⟨b2, o2 + cs.length, none⟩) lt2).trans F2.out; clear Z b3))
          have hl1 : (cs ++ [z]).length = cs.length + 1 := by simp
          rw [hl1]
          have HL1 := Lib.hid hl1
          clear hl1 g1 g2 i1 i2
          go_wp2
          go_roundw
          case rel => exact ⟨cs.length + 1, a3, cs ++ [z], c3, by omega, by go_num, rfl, HL1.out, O3.out, HN.out, q3.out⟩
          case measure => simp [intOf]; omega
        · obtain rfl : k = xs.length := by omega
          have t1 : (xs.take (xs.length)).length = xs.length := by rw [List.length_take]; omega
          have t2 : (ys.take (xs.length)).length = xs.length := by rw [List.length_take]; omega
          have gx : ∀ i, i < xs.length → (xs.take (xs.length)).getD i 0 = xs.getD i 0 := fun i hi => by rw [List.getD_eq_getElem?_getD, List.getD_eq_getElem?_getD, List.getElem?_take_of_lt hi]
          have gy : ∀ i, i < xs.length → (ys.take (xs.length)).getD i 0 = ys.getD i 0 := fun i hi => by rw [List.getD_eq_getElem?_getD, List.getD_eq_getElem?_getD, List.getElem?_take_of_lt hi]
          have hv := thV_xor ks (xs.take (xs.length)) (ys.take (xs.length)) cs (xs.length) t1 t2 HCL.out (fun i hi => by rw [HCS.out i hi, gx i hi, gy i hi])
          have hx := fun W hw => hash_all ka ks kc aa (xs.take (xs.length)) ac W (K0.out.below (w' := W) hw) ((X0.out.below hw).takeN (xs.length)) hkl.1 (by have := hkl.2; unfold maxLen at this; omega) (by omega)
          have hy := fun W hw => hash_all ka ks kc ba (ys.take (xs.length)) bc W (K0.out.below (w' := W) hw) ((Y0.out.below hw).takeN (xs.length)) hkl.1 (by have := hkl.2; unfold maxLen at this; omega) (by omega)
          have hz := fun W hw (hc : Bts W ca cs) => hash_all ka ks kc ca cs cc W (K0.out.below (w' := W) hw) hc hkl.1 (by have := hkl.2; unfold maxLen at this; omega) (by have := HCL.out; omega)
          have e1 : thE ks (ys.take (xs.length)) = thE ks (xs.take (xs.length)) := thE_len (by rw [t1, t2])
          have e2 : thE ks cs = thE ks (xs.take (xs.length)) := thE_len (by rw [t1, HCL.out])
          have hxr := u32_xor_nat (thV ks (xs.take (xs.length))) (thV ks (ys.take (xs.length))) (thV_lt _ _) (thV_lt _ _)
          rw [← hv] at hxr
          rw [t1] at hx
          rw [t2, e1] at hy
          rw [HCL.out, e2] at hz
          generalize thE ks (xs.take (xs.length)) = E at hx hy hz
          generalize thV ks (xs.take (xs.length)) = VX at hx hxr
          generalize thV ks (ys.take (xs.length)) = VY at hy hxr
          generalize thV ks cs = VZ at hz hxr
          have HX := Lib.hid hx
          have HY := Lib.hid hy
          have HZ := Lib.hid hz
          have i1 : ((xs.length : Nat) : Int) ≤ (ac : Int) := by omega
          have i2 : ((xs.length : Nat) : Int) ≤ (bc : Int) := by omega
          clear hv hx hy hz t1 t2 gx gy e1 e2 HCS HCL X0 Y0 K0
          go_wp2_with fail
          refine (HX.out _ q2).mono ?_
          rintro e V3 ⟨rfl, b3⟩
          have q3 := q2.trans (b3.mono q2.size)
          have O3 := Lib.hid (HO.out.below b3)
          clear HX HO
          go_wp2_with fail
          refine (HY.out _ q3).mono ?_
          rintro e V4 ⟨rfl, b4⟩
          have q4 := q3.trans (b4.mono q3.size)
          have O4 := Lib.hid (O3.out.below b4)
          clear HY O3
          go_wp2_with fail
          refine (HZ.out _ q4 O4.out.bts).mono ?_
          rintro e V5 ⟨rfl, b5⟩
          have q5 := q4.trans (b5.mono q4.size)
          clear HZ O4
          by_cases hE : E = 0
          · subst hE
            go_wp2_with fail
            refine (num_any _ _).mono ?_
            rintro e V6 ⟨rfl, rfl⟩
            go_wp2
            go_ret
            exact ⟨rfl, q5⟩
          · have hE1 : (E != 0) = true := by rw [bne_iff_ne]; exact hE
            have hE2 : (E == 0) = false := by rw [beq_eq_false_iff_ne]; exact hE
            go_wp2_with fail
            refine (num_any _ _).mono ?_
            rintro e V6 ⟨rfl, rfl⟩
            go_wp2
            go_ret
            exact ⟨rfl, q5⟩

theorem own : ownKnob Try.prog.godebug = none := by kernel_rfl
theorem laidOut : laidOutB Try.prog = true := by kernel_rfl

set_option maxRecDepth 100000 in
set_option maxHeartbeats 2000000 in
theorem lifted (os : Os) (started : os.Started) (H : Type) (enc : TypeId × Value → H) :
    ReturnsInHanded {} Try.checked os 13 .any (Rows.toeplitzLinearSpec.pre6 enc Try.prog Try.f13 Rows.toeplitzLinearRow.domain false) (Rows.toeplitzLinearSpec.post enc Try.prog Try.f13 false true false false) := by
  refine returnsInHanded_of_change_sized (C := Try.checked) own started (by kernel_rfl) Try.func13
    (ChangeSpec.witness6 (enc := enc) (C := Try.checked) false ⟨#[], #[.slice none 0 0, .slice none 0 0, .slice none 0 0], []⟩ 8 (by kernel_rfl) (by kernel_rfl) (by kernel_rfl) (by kernel_rfl)) ?_
  intro W base args ds gs before hval0 hW hcnd hsz0 _
  have hval : ∀ (j : Nat) t v, Try.f13.params[j]? = some t → args[j]? = some v → Value.okWide Try.prog W .any base t v := hval0
  have hsz : (DataW.weightsEach Try.prog (Try.f13.params.toList ++ Rows.toeplitzLinearSpec.plain.varTypes Try.prog) (ds ++ gs)).all (· ≤ reachBytes) = true := hsz0
  have hW' := hW
  obtain ⟨p, q, hA0, hV, rfl, hfz, hnd⟩ := hW
  have hA : DataW.TrodAll enc Try.prog W 0 (fun _ => true) true Try.f13.params.toList args.toList ds p := hA0
  rw [Try.params13] at hA hval hsz
  obtain ⟨v0, vs0, d0, ds0, p0, q0, hargs, rfl, rfl, h0, r0⟩ := trodAll_cons hA
  obtain ⟨v1, vs1, d1, ds1, p1, q1, rfl, rfl, rfl, h1, r1⟩ := trodAll_cons r0
  obtain ⟨v2, vs2, d2, ds2, p2, q2, rfl, rfl, rfl, h2, r2⟩ := trodAll_cons r1
  obtain ⟨rfl, rfl, rfl⟩ := trodAll_nil r2
  obtain rfl : args = #[v0, v1, v2] := by cases args; simp_all
  obtain ⟨rfl, rfl⟩ := trodVars_none hV
  obtain ⟨a0, len0, cap0, rfl⟩ := okWide_slice Try.underlying22 (hval 0 22 v0 rfl rfl)
  have k0 := h0
  have lt0 : ∀ x ∈ p0, x.block < W.heap.size := by obtain ⟨m, hm⟩ := k0; exact DataW.trod_lt m _ _ _ hm
  obtain ⟨a1, len1, cap1, rfl⟩ := okWide_slice Try.underlying22 (hval 1 22 v1 rfl rfl)
  have k1 := h1
  have lt1 : ∀ x ∈ p1, x.block < W.heap.size := by obtain ⟨m, hm⟩ := k1; exact DataW.trod_lt m _ _ _ hm
  obtain ⟨a2, len2, cap2, rfl⟩ := okWide_slice Try.underlying22 (hval 2 22 v2 rfl rfl)
  have k2 := h2
  have lt2 : ∀ x ∈ p2, x.block < W.heap.size := by obtain ⟨m, hm⟩ := k2; exact DataW.trod_lt m _ _ _ hm
  obtain ⟨xs0, hxl0, hbt0, hcap0, hlc0, hre0⟩ : ∃ xs : List Nat, xs.length = len0 ∧ Bts W a0 xs ∧ (a0 = none → cap0 = 0) ∧ (xs.length ≤ cap0 ∧ cap0 ≤ maxLen) ∧ xs.length ≤ 140737488351232 := by
    obtain ⟨fuel, hf⟩ := h0
    rcases open_ints Try.underlying22 Try.underlying5 (by kernel_rfl) hf with ⟨hcs, _⟩ | ⟨x, l, c, zs, hcs, _, hl, hm, hz, hd, hcell, hwz⟩
    · simp [Value.cells] at hcs
      obtain ⟨rfl, rfl, rfl⟩ := hcs
      exact ⟨[], rfl, ⟨(fun x h => by cases h), .inl rfl⟩, fun _ => rfl, ⟨Nat.le_refl _, Nat.zero_le _⟩, by simp⟩
    · simp [Value.cells] at hcs
      obtain ⟨rfl, rfl, rfl⟩ := hcs
      have hz' : zs.length = cap0 := by simpa using hz
      obtain ⟨xs, h1, h2⟩ := bts_of_ints hl hz' hcell hwz
      have hd' := (Prod.mk.inj hd).1
      have hw := sized_slice hsz (j := 0) (t := 22) (e := 5) rfl (by rw [hd']; rfl) Try.underlying22
      rw [bytes5] at hw
      simp only [lits, List.length_map, List.length_take, List.length_drop, reachBytes] at hw
      exact ⟨xs, h1, h2, (fun h => by cases h), ⟨by omega, hm⟩, by omega⟩
  obtain ⟨xs1, hxl1, hbt1, hcap1, hlc1, hre1⟩ : ∃ xs : List Nat, xs.length = len1 ∧ Bts W a1 xs ∧ (a1 = none → cap1 = 0) ∧ (xs.length ≤ cap1 ∧ cap1 ≤ maxLen) ∧ xs.length ≤ 140737488351232 := by
    obtain ⟨fuel, hf⟩ := h1
    rcases open_ints Try.underlying22 Try.underlying5 (by kernel_rfl) hf with ⟨hcs, _⟩ | ⟨x, l, c, zs, hcs, _, hl, hm, hz, hd, hcell, hwz⟩
    · simp [Value.cells] at hcs
      obtain ⟨rfl, rfl, rfl⟩ := hcs
      exact ⟨[], rfl, ⟨(fun x h => by cases h), .inl rfl⟩, fun _ => rfl, ⟨Nat.le_refl _, Nat.zero_le _⟩, by simp⟩
    · simp [Value.cells] at hcs
      obtain ⟨rfl, rfl, rfl⟩ := hcs
      have hz' : zs.length = cap1 := by simpa using hz
      obtain ⟨xs, h1, h2⟩ := bts_of_ints hl hz' hcell hwz
      have hd' := (Prod.mk.inj hd).1
      have hw := sized_slice hsz (j := 1) (t := 22) (e := 5) rfl (by rw [hd']; rfl) Try.underlying22
      rw [bytes5] at hw
      simp only [lits, List.length_map, List.length_take, List.length_drop, reachBytes] at hw
      exact ⟨xs, h1, h2, (fun h => by cases h), ⟨by omega, hm⟩, by omega⟩
  obtain ⟨xs2, hxl2, hbt2, hcap2, hlc2, hre2⟩ : ∃ xs : List Nat, xs.length = len2 ∧ Bts W a2 xs ∧ (a2 = none → cap2 = 0) ∧ (xs.length ≤ cap2 ∧ cap2 ≤ maxLen) ∧ xs.length ≤ 140737488351232 := by
    obtain ⟨fuel, hf⟩ := h2
    rcases open_ints Try.underlying22 Try.underlying5 (by kernel_rfl) hf with ⟨hcs, _⟩ | ⟨x, l, c, zs, hcs, _, hl, hm, hz, hd, hcell, hwz⟩
    · simp [Value.cells] at hcs
      obtain ⟨rfl, rfl, rfl⟩ := hcs
      exact ⟨[], rfl, ⟨(fun x h => by cases h), .inl rfl⟩, fun _ => rfl, ⟨Nat.le_refl _, Nat.zero_le _⟩, by simp⟩
    · simp [Value.cells] at hcs
      obtain ⟨rfl, rfl, rfl⟩ := hcs
      have hz' : zs.length = cap2 := by simpa using hz
      obtain ⟨xs, h1, h2⟩ := bts_of_ints hl hz' hcell hwz
      have hd' := (Prod.mk.inj hd).1
      have hw := sized_slice hsz (j := 2) (t := 22) (e := 5) rfl (by rw [hd']; rfl) Try.underlying22
      rw [bytes5] at hw
      simp only [lits, List.length_map, List.length_take, List.length_drop, reachBytes] at hw
      exact ⟨xs, h1, h2, (fun h => by cases h), ⟨by omega, hm⟩, by omega⟩
  clear hA0 hval0 hsz hsz0
  subst hxl0
  subst hxl1
  subst hxl2
  refine (walk a0 xs0 cap0 a1 xs1 cap1 a2 xs2 cap2 W hbt0 hcap0 hlc0 hre0 hbt1 hcap1 hlc1 hre1 hbt2 hcap2 hlc2 hre2).mono fun e W' ⟨he, bel⟩ => ?_
  subst he
  exact ⟨_, rfl, _, _, _, [], _, [], hW', trodAll_mk1 (shut_bool Try.underlying4 _), (trodAll_cons_mk (Below.trod laidOut (by kernel_rfl) (of_decide_eq_true (by kernel_rfl)) k0 bel lt0) (trodAll_cons_mk (Below.trod laidOut (by kernel_rfl) (of_decide_eq_true (by kernel_rfl)) k1 bel lt1) (trodAll_cons_mk (Below.trod laidOut (by kernel_rfl) (of_decide_eq_true (by kernel_rfl)) k2 bel lt2) trodAll_mk0))), rfl, bel.frame _, fun h => by cases h⟩

theorem over : Rows.toeplitzLinearRow.holds Try.pinned (OpenSpec.ofChange Rows.toeplitzLinearSpec) :=
  OpenClaim.holds_of_wide 13 Try.f13 rfl rfl rfl rfl rfl rfl rfl ⟨rfl, rfl, rfl, rfl, rfl⟩ rfl rfl rfl rfl rfl (by kernel_rfl) Try.func13 (by kernel_rfl)
    (of_decide_eq_true (by kernel_rfl)) (by unfold Func.isWrapper; first | (rw [if_pos (by decide +kernel)]; kernel_rfl) | (rw [if_neg (by decide +kernel)]; exact ⟨rfl, rfl⟩))
    (fun os started H enc _ => lifted os started H enc)

end Go.Proofs.Ytpdlmgafkjmjpaa.toeplitzLinear
namespace Go.Proofs.Ytpdlmgafkjmjpaa
/-- The statement. -/
theorem toeplitzLinear_holds : Rows.ToeplitzLinearSaid := toeplitzLinear.over
#print axioms toeplitzLinear_holds
end Go.Proofs.Ytpdlmgafkjmjpaa
