/- For every address, MAC and list of frames: what waited is told once, in order, at most the last four. No condition. -/
import Derived.Test.YtinlacdngojlaaaRows
import Derived.Test.YtinlacdngojlaaaRcSame
import Derived.Deep.DeepCutAuto
import Derived.RegionTactic
import Derived.Deep.RegionHeld3
import Derived.ProofKit
import Derived.OpenShut
import Derived.ChangeOld
import Derived.SizedLaws
namespace Go.Proofs.Ytinlacdngojlaaa.routesWaits
open Go.ChangeShapes Go.WideShapes Go.ChangeAt Go.RowKit Go.Deep Go.Maps Go.Proofs.Ytinlacdngojlaaa.law10 Go.Proofs.Ytinlacdngojlaaa.Rt Go.Sort Go.BigFrame

/-- The last four. -/
def l4 (K : List (List Nat)) : List (List Nat) := K.drop (K.length - 4)
theorem l4_step {F : List Txt} {K : List (List Nat)} {x : List Nat} (h : F.map (·.xs) = l4 K) (f : Txt) (hf : f.xs = x) : (cutF F ++ [f]).map (·.xs) = l4 (K ++ [x]) := by
  have hl : F.length = K.length - (K.length - 4) := by
    have := congrArg List.length h
    simpa [l4] using this
  unfold cutF l4
  unfold l4 at h
  by_cases h4 : F.length = 4
  · rw [if_pos h4, List.map_append, List.map_drop, h, List.drop_drop, List.length_append, List.length_singleton, show K.length + 1 - 4 = K.length - 4 + 1 by omega, List.drop_append_of_le_length (by omega), List.map_singleton, hf]
  · rw [if_neg h4, List.map_append, h, List.length_append, List.length_singleton, show K.length + 1 - 4 = 0 by omega, show K.length - 4 = 0 by omega, List.map_singleton, hf]
    rfl
theorem cutF_mem {F : List Txt} {x : Txt} (h : x ∈ cutF F) : x ∈ F := by
  unfold cutF at h
  split at h
  · exact List.mem_of_mem_drop h
  · exact h
theorem l4_one (f : Txt) (x : List Nat) (hf : f.xs = x) : [f].map (·.xs) = l4 ([] ++ [x]) := by
  rw [List.map_singleton, hf]; rfl
theorem l4_len {F : List Txt} {K : List (List Nat)} (h : F.map (·.xs) = l4 K) : F.length ≤ 4 := by
  have := congrArg List.length h
  simp [l4] at this
  omega
/-- What waits, beside what the statement keeps. -/
structure QW (gc gk gw ip : Nat) (ka : Option Addr) (K : List Txt) (W : World) : Prop where
  ex : ∃ gq P a F cap, CaAt gc gk gw ip 5 none (some gq) W ∧ QAt P gq 5 a F cap W ∧ P ≤ W.heap.size ∧ (gc < gq ∧ gk < gq ∧ gw < gq) ∧ F.map (·.xs) = l4 (K.map (·.xs)) ∧ (∀ g2, ka = some ⟨g2, 0, none⟩ → g2 ≠ gq ∧ (∀ g, a = some ⟨g, 0, none⟩ → g ≠ g2) ∧ ∀ f ∈ F, ∀ b o, f.a = some ⟨b, o, none⟩ → 0 < f.xs.length → b ≠ g2)
def Wst (gc gk gw ip : Nat) (ka : Option Addr) (K : List Txt) (W : World) : Prop := (K = [] ∧ CaAt gc gk gw ip 0 none none W) ∨ (K ≠ [] ∧ QW gc gk gw ip ka K W)
set_option maxRecDepth 100000 in
set_option maxHeartbeats 8000000 in
theorem walk (ip mac : Nat) (la : Option Addr) (l : List Txt) (lc : Nat) (w : World) (hip : ip < 4294967296) (hmac : mac < 18446744073709551616) (hx : Sts 1 Txt.cells Txt.ok w la l) (_hnc : la = none → lc = 0) (hll : l.length ≤ 5864062014634) :
    Calls Try.prog 5 #[.int .u32 (ip : Nat), .int .u64 (mac : Nat), .slice la l.length lc] w fun e w' => e = .returned (.bool true) ∧ Below w.heap.size w w' := by
  have HX := Lib.hid hx
  clear hx
  go_enter Try.func5, Try.ntmps5
  go_wp2_with fail
  refine (alive_any _).mono ?_
  rintro e V0 ⟨rfl, b⟩
  have B0 := Lib.hid b
  clear b
  go_wp2_with fail
  refine (newCache_any ip _).mono ?_
  rintro e V1 ⟨gc, gk, gw, rfl, hgc, hgk, hgw, C, b⟩
  have C1 := Lib.hid C
  have hs0 := B0.out.size
  have Q1 := Lib.hid (B0.out.trans (b.mono B0.out.size))
  have lc1 := blk_lt C.blk
  have lc2 := C.kn.lt
  have lc3 := C.wt.lt
  clear C b B0
  by_cases hm : mac ≤ 281474976710655
  case neg =>
    have j1 : ((mac : Int) > 281474976710655) := by omega
    go_wp2_with fail
    refine (num_any _ _).mono ?_
    rintro e w' ⟨rfl, rfl⟩
    go_wp2
    go_ret
    exact ⟨rfl, Q1.out⟩
  case pos =>
  have j1 : ¬ ((mac : Int) > 281474976710655) := by omega
  go_wp2_with fail
  refine (num_any _ _).mono ?_
  rintro e w' ⟨rfl, rfl⟩
  go_wp2_with fail
  clear j1
  obtain ⟨B1, hB1⟩ : ∃ z, V1.heap.size = z := ⟨_, rfl⟩
  rw [hB1] at lc1 lc2 lc3
  have hwg : w.heap.size ≤ gc ∧ w.heap.size ≤ gk ∧ w.heap.size ≤ gw ∧ w.heap.size ≤ B1 := ⟨by omega, by omega, by omega, by have := Q1.out.size; omega⟩
  go_loopw [9, 10] (fun kv iv wr => ∃ (i : Nat) (ka : Option Addr) (K : List Txt) (kc : Nat), i ≤ l.length ∧ K.length ≤ i ∧ iv = .int .i64 i ∧ kv = .slice ka K.length kc ∧ OwnR 56 1 Txt.cells B1 ka K kc wr ∧ (∀ f ∈ K, Bts w f.a f.xs ∧ f.xs.length ≤ 65535) ∧ Wst gc gk gw ip ka K wr ∧ B1 ≤ wr.heap.size ∧ Below w.heap.size w wr) (fun _ iv _ => l.length - (intOf iv).toNat)
  case atStart => exact ⟨0, none, [], 0, by omega, by simp, rfl, rfl, ownR_nil _ _ _ _ _, (fun f hf => by cases hf), .inl ⟨rfl, C1.out⟩, by omega, Q1.out⟩
  case round =>
    obtain ⟨i, ka, K, kc, hi, hKi, rfl, rfl, hO, hK, hst, hB, hq⟩ := hrel
    have KO := Lib.hid hO
    have HK := Lib.hid hK
    have HQ := Lib.hid hq
    clear hO hK hq C1 Q1
    by_cases hlt : i < l.length
    case neg =>
      obtain rfl : i = l.length := by omega
      have j1 : ¬ ((l.length : Int) < (l.length : Int)) := by omega
      clear hB
      have mp : (mac : Int) ≤ 281474976710655 := by omega
      rcases hst with ⟨rfl, hC⟩ | ⟨hKne, ⟨gq, P, a, F, cap, hC, hQ, hP, ⟨o1, o2, o3⟩, hFK, hD⟩⟩
      · have HC := Lib.hid hC
        clear hC
        go_wp2_with fail
        refine (learn_empty (mac : Int) 6 _ HC.out hip (by omega) (by omega) mp).mono ?_
        rintro e Va ⟨rfl, hCa, ta⟩
        have HCa := Lib.hid hCa
        have Qa := Lib.hid (HQ.out.trans (ta.below HQ.out.size (fun q e => by rcases e with e | e | e <;> omega)))
        clear hCa ta HC HQ
        go_wp2_with fail
        refine (learn_again (mac : Int) 6 _ HCa.out hip (by omega) (by omega) mp).mono ?_
        rintro e Vb ⟨rfl, hCb, tb⟩
        have HCb := Lib.hid hCb
        have Qb := Lib.hid (Qa.out.trans (tb.below Qa.out.size (fun q e => by rcases e with e | e | e <;> omega)))
        clear hCb tb HCa Qa
        go_wp2_with fail
        refine (known_any (mac : Int) 6 _ HCb.out hip (by omega) (by omega)).mono ?_
        rintro e Vc ⟨rfl, b⟩
        have Qc := Lib.hid (Qb.out.trans (b.mono Qb.out.size))
        clear b HCb Qb
        go_wp2_with fail
        refine (num_any _ _).mono ?_
        rintro e w' ⟨rfl, rfl⟩
        go_wp2_with fail
        refine (num_any _ _).mono ?_
        rintro e w' ⟨rfl, rfl⟩
        go_wp2_with fail
        refine (lists_any none ka [] [] 0 kc _ (Sts.nil _ _) (Sts.nil _ _) (fun f hf => by cases hf) (fun f hf => by cases hf) (fun f hf => by cases hf) rfl (by simp)).mono ?_
        rintro e V9 ⟨rfl, b⟩
        have Q9 := Qc.out.trans (b.mono Qc.out.size)
        go_wp2
        go_ret
        exact ⟨rfl, Q9⟩
      · have HC := Lib.hid hC
        have HQ4 := Lib.hid hQ
        have hF4 := l4_len hFK
        have hFK0 := hFK
        unfold l4 at hFK0
        rw [List.length_map] at hFK0
        have HFK := Lib.hid hFK0
        clear hC hQ hD hFK hFK0
        by_cases h4 : 4 < K.length
        case pos =>
          have v4 : ((K.length : Int) > 4) := by omega
          obtain ⟨q, hq⟩ : ∃ q, K.length - 4 = q := ⟨_, rfl⟩
          have e4 : (K.length : Int) - 4 = (q : Int) := by omega
          obtain ⟨g2, rfl, _, _⟩ := KO.out.isSome (by omega)
          obtain ⟨hkc, hkm⟩ := KO.out.capLe
          have e5 : (q : Int) ≤ (K.length : Int) := by omega
          have e6 : (K.length : Int) ≤ (kc : Int) := by omega
          have e7 : ¬ (kc - q = 0) := by omega
          have HQ0 := Lib.hid hq
          unfold maxLen at hkm
          go_wp2_with fail
          refine (learn_first (mac : Int) 6 _ HC.out hip (by omega) (by omega) mp HQ4.out o1 o2 o3).mono ?_
          rintro e Va ⟨rfl, hCa, hQa, ta⟩
          have HCa := Lib.hid hCa
          have QA := Lib.hid hQa
          have KA := Lib.hid (KO.out.turned ta (fun g e => by have := (KO.out.ownB g (by rw [e]; rfl)).1; omega))
          have Qa := Lib.hid (HQ.out.trans (ta.below HQ.out.size (fun q e => by rcases e with e | e | e <;> omega)))
          clear hCa hQa ta HC HQ4 KO HQ
          go_wp2_with fail
          refine (learn_again (mac : Int) 6 _ HCa.out hip (by omega) (by omega) mp).mono ?_
          rintro e Vb ⟨rfl, hCb, tb⟩
          have HCb := Lib.hid hCb
          have Qb := Lib.hid (Qa.out.trans (tb.below Qa.out.size (fun q e => by rcases e with e | e | e <;> omega)))
          have QB' := Lib.hid (QA.out.turned tb (by omega) (fun g e => by have := (QA.out.own.ownB g (by rw [e]; rfl)).1; have := QA.out.lt; omega) (fun f hf b o e hl => by have := (QA.out.dj f hf b o e hl).1; have := QA.out.lt; omega))
          have KB' := Lib.hid (KA.out.turned tb (fun g e => by have := (KA.out.ownB g (by rw [e]; rfl)).1; omega))
          clear QA KA
          clear hCb tb HCa Qa
          go_wp2_with fail
          refine (known_any (mac : Int) 6 _ HCb.out hip (by omega) (by omega)).mono ?_
          rintro e Vc ⟨rfl, b⟩
          have Qc := Lib.hid (Qb.out.trans (b.mono Qb.out.size))
          have QC := Lib.hid (QB'.out.below b)
          have KC := Lib.hid (KB'.out.below b)
          clear QB' KB'
          clear b HCb Qb
          go_wp2_with fail
          refine (num_any _ _).mono ?_
          rintro e w' ⟨rfl, rfl⟩
          go_wp2_with fail
          refine (num_any _ _).mono ?_
          rintro e w' ⟨rfl, rfl⟩
          go_wp2_with fail
          have hdl : (K.drop q).length = K.length - q := List.length_drop
          have HSS := (KC.out.sts encT).dropT q
          rw [Nat.zero_add, Nat.mul_one] at HSS
          have HL9 := lists_any a (some ⟨g2, q, none⟩) F (K.drop q) cap (kc - q) Vc (QC.out.own.sts encT) HSS QC.out.fr (fun f hf => (HK.out f (List.mem_of_mem_drop hf)).1.below Qc.out) (fun f hf => (HK.out f (List.mem_of_mem_drop hf)).2) (by rw [HFK.out, HQ0.out, List.map_drop]) (by omega)
          rw [hdl] at HL9
          refine HL9.mono ?_
          rintro e V9 ⟨rfl, b⟩
          have Q9 := Qc.out.trans (b.mono Qc.out.size)
          go_wp2
          go_ret
          exact ⟨rfl, Q9⟩
        case neg =>
          have v4 : ¬ ((K.length : Int) > 4) := by omega
          go_wp2_with fail
          refine (learn_first (mac : Int) 6 _ HC.out hip (by omega) (by omega) mp HQ4.out o1 o2 o3).mono ?_
          rintro e Va ⟨rfl, hCa, hQa, ta⟩
          have HCa := Lib.hid hCa
          have QA := Lib.hid hQa
          have KA := Lib.hid (KO.out.turned ta (fun g e => by have := (KO.out.ownB g (by rw [e]; rfl)).1; omega))
          have Qa := Lib.hid (HQ.out.trans (ta.below HQ.out.size (fun q e => by rcases e with e | e | e <;> omega)))
          clear hCa hQa ta HC HQ4 KO HQ
          go_wp2_with fail
          refine (learn_again (mac : Int) 6 _ HCa.out hip (by omega) (by omega) mp).mono ?_
          rintro e Vb ⟨rfl, hCb, tb⟩
          have HCb := Lib.hid hCb
          have Qb := Lib.hid (Qa.out.trans (tb.below Qa.out.size (fun q e => by rcases e with e | e | e <;> omega)))
          have QB' := Lib.hid (QA.out.turned tb (by omega) (fun g e => by have := (QA.out.own.ownB g (by rw [e]; rfl)).1; have := QA.out.lt; omega) (fun f hf b o e hl => by have := (QA.out.dj f hf b o e hl).1; have := QA.out.lt; omega))
          have KB' := Lib.hid (KA.out.turned tb (fun g e => by have := (KA.out.ownB g (by rw [e]; rfl)).1; omega))
          clear QA KA
          clear hCb tb HCa Qa
          go_wp2_with fail
          refine (known_any (mac : Int) 6 _ HCb.out hip (by omega) (by omega)).mono ?_
          rintro e Vc ⟨rfl, b⟩
          have Qc := Lib.hid (Qb.out.trans (b.mono Qb.out.size))
          have QC := Lib.hid (QB'.out.below b)
          have KC := Lib.hid (KB'.out.below b)
          clear QB' KB'
          clear b HCb Qb
          go_wp2_with fail
          refine (num_any _ _).mono ?_
          rintro e w' ⟨rfl, rfl⟩
          go_wp2_with fail
          refine (num_any _ _).mono ?_
          rintro e w' ⟨rfl, rfl⟩
          go_wp2_with fail
          have HL9 := lists_any a ka F K cap kc Vc (QC.out.own.sts encT) (KC.out.sts encT) QC.out.fr (fun f hf => (HK.out f hf).1.below Qc.out) (fun f hf => (HK.out f hf).2) (by rw [HFK.out, show K.length - 4 = 0 by omega]; rfl) (by omega)
          refine HL9.mono ?_
          rintro e V9 ⟨rfl, b⟩
          have Q9 := Qc.out.trans (b.mono Qc.out.size)
          go_wp2
          go_ret
          exact ⟨rfl, Q9⟩
    case pos =>
      have i1 : (i : Int) < (l.length : Int) := by omega
      obtain ⟨f, hf⟩ : ∃ f, l[i]? = some f := ⟨_, List.getElem?_eq_getElem hlt⟩
      obtain ⟨hok, fb, fo, rfl, hfb, hfc⟩ := HX.out.at hf
      have HFC := Lib.hid hfc
      have Qk := HQ
      have x0 : wr.cell? ⟨fb, fo + i, none⟩ = some (.slice f.a f.xs.length f.c) := by
        have := (Qk.out.cell (p := ⟨fb, fo + i * 1 + 0, none⟩) hfb).trans (HFC.out 0 _ rfl)
        rwa [Nat.mul_one] at this
      obtain ⟨hY, hfn, hfl1, hfl2⟩ := hok
      have Y0 := Lib.hid hY
      have Y := Lib.hid (Y0.out.below HQ.out)
      have HFN := Lib.hid hfn
      have hbw : ∀ b o, f.a = some ⟨b, o, none⟩ → 0 < f.xs.length → b < w.heap.size := fun b o e hl => by
        obtain ⟨b2, o2, e2, h2, _⟩ := Y0.out.isSome hl
        rw [e] at e2; cases e2; exact h2
      have HBW := Lib.hid hbw
      clear hfc hf hY hfn hbw hfl1 hfl2
      by_cases hlong : 65535 < f.xs.length
      case pos =>
        have j2 : ((f.xs.length : Int) > 65535) := by omega
        obtain ⟨now, QQ, hC, hnow⟩ : ∃ (now : Int) (QQ : Option Nat), CaAt gc gk gw ip now none QQ wr ∧ now ≤ 5 := by
          rcases hst with ⟨_, h⟩ | ⟨_, ⟨gq, P, a, F, cap, h, _⟩⟩
          · exact ⟨0, none, h, by omega⟩
          · exact ⟨5, some gq, h, by omega⟩
        have HC := Lib.hid hC
        have HS := Lib.hid hst
        clear hC hst
        go_wp2_with fail
        refine (ask_long 5 f.a f.xs f.c _ HC.out hnow (by omega) hlong).mono ?_
        rintro e w' ⟨rfl, rfl⟩
        go_wp2_with fail
        refine (num_any _ _).mono ?_
        rintro e w' ⟨rfl, rfl⟩
        go_wp2_with fail
        go_roundw
        case rel => exact ⟨i + 1, ka, K, kc, by omega, by omega, by go_num, rfl, KO.out, HK.out, HS.out, hB, HQ.out⟩
        case measure => simp [intOf]; omega
      case neg =>
      have hfl : f.xs.length ≤ 65535 := by omega
      have j2 : ¬ ((f.xs.length : Int) > 65535) := by omega
      clear hlong
      have HK0 := Lib.hid (fun g (e : ka = some ⟨g, 0, none⟩) => KO.out.ltB g e)
      rcases hst with ⟨rfl, hC⟩ | ⟨hKne, ⟨gq, P, a, F, cap, hC, hQ, hP, ⟨o1, o2, o3⟩, hFK, hD⟩⟩
      · have HC := Lib.hid hC
        clear hC
        go_wp2_with fail
        refine (ask_first 5 f.a f.xs f.c _ HC.out hip (by omega) (by omega) hfl Y.out HFN.out (fun b o e hl => by have := HBW.out b o e hl; omega) (fun b o e hl => by have := HBW.out b o e hl; omega)).mono ?_
        rintro e Vk ⟨rfl, ⟨gq, a, cap, oa, oc, hgq, hC, hQ⟩, t⟩
        have hsk := t.size
        have HC5 := Lib.hid hC
        have HQ5 := Lib.hid hQ
        have KO : Hid (OwnR 56 1 Txt.cells B1 ka [] kc Vk) := Lib.hid (KO.out.turned t (fun g e => by have := (KO.out.ownB g (by rw [e]; rfl)).1; omega))
        have Qk := Lib.hid (HQ.out.trans (t.below HQ.out.size (fun q e => by omega)))
        have hkg : Hid (∀ g, ka = some ⟨g, 0, none⟩ → g < gq) := Lib.hid (fun g e => by
          have := HK0.out g e; omega)
        have HDK : Hid (∀ g2, ka = some ⟨g2, 0, none⟩ → g2 ≠ gq ∧ (∀ g, a = some ⟨g, 0, none⟩ → g ≠ g2) ∧ ∀ x ∈ [(⟨oa, f.xs, oc⟩ : Txt)], ∀ b o, x.a = some ⟨b, o, none⟩ → 0 < x.xs.length → b ≠ g2) := Lib.hid (fun g2 e => by
          have h0 := hkg.out g2 e
          refine ⟨by omega, fun g e2 => ?_, fun x hx b o e2 hl => ?_⟩
          · have := (HQ5.out.own.ownB g (by rw [e2]; rfl)).1; omega
          · have := (HQ5.out.dj x hx b o e2 hl).1; omega)
        have HL := Lib.hid (l4_one ⟨oa, f.xs, oc⟩ f.xs rfl)
        clear hC hQ t HC Y x0 HK0
        have x0 : Vk.cell? ⟨fb, fo + i, none⟩ = some (.slice f.a f.xs.length f.c) := by
          have := (Qk.out.cell (p := ⟨fb, fo + i * 1 + 0, none⟩) hfb).trans (HFC.out 0 _ rfl)
          rwa [Nat.mul_one] at this
        go_wp2_with fail
        refine (num_any _ _).mono ?_
        rintro e w' ⟨rfl, rfl⟩
        have BAK := Lib.hid ((Below.refl Vk.heap.size Vk).alloc (Nat.le_refl _) (.cells #[.slice f.a f.xs.length f.c] 56))
        go_wp2_with (first
          | ((with_reducible show wpList _ _ _ _ _ _); refine wpList_append_rA (w := Vk.alloc (.cells #[.slice f.a f.xs.length f.c] 56)) (t := 50) (e := 56) (z := .slice none 0 0) (m := 1) (bz := 24) (cells := Txt.cells) (xs := ([] : List Txt)) (ys := [f]) (cap := kc) (dap := 1) (n := 1) (a := ka) (ad := ⟨Vk.heap.size, 0, none⟩) rfl elemT encT (.tmp 80) (.tmp 85) rfl B1 rfl (KO.out.below BAK.out) (sts_new encT Vk [f] 56 (0, 0)) rfl rfl (by simp only [List.length_cons, List.length_nil]; omega) (by unfold maxLen; simp only [List.length_cons, List.length_nil]; omega) (by have := BAK.out.size; omega) ?_; intro a5 c5 V5 O5 b5 g5 at5; have O5h := Lib.hid O5; have B5h := Lib.hid b5; have G5h := Lib.hid g5; have A5h := Lib.hid at5; clear O5 b5 g5 at5)
          | fail)
        have hal : (Vk.alloc (.cells #[.slice f.a f.xs.length f.c] 56)).heap.size = Vk.heap.size + 1 := by simp
        have t5 : Turns (fun q => ka = some ⟨q, 0, none⟩) Vk V5 := (Turns.of_below _ BAK.out).trans (.of_grown (fun q e => KO.out.ownEq q e) G5h.out)
        have kB : ∀ g, ka = some ⟨g, 0, none⟩ → B1 ≤ g := fun g e => (KO.out.ownB g (by rw [e]; rfl)).1
        have C6 := Lib.hid (HC5.out.turned t5 (fun e => by have := kB _ e; omega) (fun e => by have := kB _ e; omega) (fun e => by have := kB _ e; omega))
        have Q6 := Lib.hid (HQ5.out.turned t5 (fun e => (HDK.out _ e).1 rfl) (fun g e e2 => (HDK.out g e2).2.1 g e rfl) (fun f hf b o e hl e2 => (HDK.out b e2).2.2 f hf b o e hl rfl))
        have B6 := Lib.hid (Qk.out.trans (t5.below Qk.out.size (fun q e => by have := kB _ e; omega)))
        have hgq2 := blk_lt HQ5.out.blk
        have hs5 := t5.size
        have HD2 : ∀ g2, a5 = some ⟨g2, 0, none⟩ → g2 ≠ gq ∧ (∀ g, a = some ⟨g, 0, none⟩ → g ≠ g2) ∧ ∀ x ∈ [(⟨oa, f.xs, oc⟩ : Txt)], ∀ b o, x.a = some ⟨b, o, none⟩ → 0 < x.xs.length → b ≠ g2 := fun g2 e => by
          rcases A5h.out g2 e with h | h
          · exact HDK.out g2 h
          · rw [hal] at h
            refine ⟨by omega, fun g e2 => ?_, fun x hf b o e2 hl => ?_⟩
            · have := HQ5.out.own.ltB g e2; omega
            · obtain ⟨b2, o2, e3, h3, _⟩ := (HQ5.out.fr x hf).isSome hl
              rw [e2] at e3; cases e3; omega
        have HKN : ∀ x ∈ ([] : List Txt) ++ [f], Bts w x.a x.xs ∧ x.xs.length ≤ 65535 := fun x hx => by
          rcases List.mem_append.1 hx with hx | hx
          · exact HK.out x hx
          · obtain rfl := List.mem_singleton.1 hx
            exact ⟨Y0.out, hfl⟩
        have HD3 := Lib.hid HD2
        have HKN2 := Lib.hid HKN
        clear t5 kB HD2 HKN
        go_roundw
        case rel => exact ⟨i + 1, a5, ([] : List Txt) ++ [f], c5, by omega, by simp only [List.length_append, List.length_singleton, List.length_nil]; omega, by go_num, by simp, O5h.out, HKN2.out, .inr ⟨by simp, ⟨⟨gq, gq + 1, a, [(⟨oa, f.xs, oc⟩ : Txt)], cap, C6.out, Q6.out, by omega, ⟨by omega, by omega, by omega⟩, HL.out.trans (congrArg l4 (by simp)), HD3.out⟩⟩⟩, by omega, B6.out⟩
        case measure => simp [intOf]; omega
      · have HD := Lib.hid hD
        have HC := Lib.hid hC
        have HQ4 := Lib.hid hQ
        have HFK := Lib.hid hFK
        have hF4 := l4_len hFK
        have hkl : 0 < K.length := List.length_pos_iff.2 hKne
        have j3 : ((K.length : Int) == 0) = false := by rw [beq_eq_false_iff_ne]; omega
        have j4 : ¬ ((K.length : Int) = 0) := by omega
        clear hC hQ hFK hD
        go_wp2_with fail
        refine (ask_more (B0 := w.heap.size) 5 f.a f.xs f.c _ HC.out hip (by omega) (by omega) hfl Y.out HFN.out HQ4.out hP hF4 o1 o2 o3 (by omega) HBW.out).mono ?_
        rintro e Vk ⟨rfl, ⟨a2, cap2, oa, oc, hC, hQ, hA, hO⟩, t⟩
        have hsk := t.size
        have HC5 := Lib.hid hC
        have HQ5 := Lib.hid hQ
        have hkd : ∀ g, ka = some ⟨g, 0, none⟩ → ¬ (g = gc ∨ PutS gq a g) := fun g e => by
          have h1 := (KO.out.ownB g (by rw [e]; rfl)).1
          have h2 := HD.out g e
          rintro (h | h | h)
          · omega
          · exact h2.1 h
          · exact h2.2.1 g h rfl
        have KO : Hid (OwnR 56 1 Txt.cells B1 ka K kc Vk) := Lib.hid (KO.out.turned t hkd)
        have Qk := Lib.hid (HQ.out.trans (t.below HQ.out.size (fun q e => by
          rcases e with e | e | e
          · omega
          · omega
          · have := (HQ4.out.own.ownB q (by rw [e]; rfl)).1; have := HQ4.out.lt; omega)))
        have HDK : Hid (∀ g2, ka = some ⟨g2, 0, none⟩ → g2 ≠ gq ∧ (∀ g, a2 = some ⟨g, 0, none⟩ → g ≠ g2) ∧ ∀ x ∈ cutF F ++ [⟨oa, f.xs, oc⟩], ∀ b o, x.a = some ⟨b, o, none⟩ → 0 < x.xs.length → b ≠ g2) := Lib.hid (fun g2 e => by
          have h0 := HK0.out g2 e
          obtain ⟨d1, d2, d3⟩ := HD.out g2 e
          refine ⟨d1, fun g e2 => ?_, fun x hx b o e2 hl => ?_⟩
          · rcases hA g e2 with h | h
            · exact d2 g h
            · omega
          · rcases List.mem_append.1 hx with hx | hx
            · exact d3 x (cutF_mem hx) b o e2 hl
            · obtain rfl := List.mem_singleton.1 hx
              have := hO b o e2; omega)
        have HL := Lib.hid (l4_step HFK.out ⟨oa, f.xs, oc⟩ rfl)
        clear hC hQ hA hO t HC HQ4 HD HFK Y x0 HK0 hkd
        have x0 : Vk.cell? ⟨fb, fo + i, none⟩ = some (.slice f.a f.xs.length f.c) := by
          have := (Qk.out.cell (p := ⟨fb, fo + i * 1 + 0, none⟩) hfb).trans (HFC.out 0 _ rfl)
          rwa [Nat.mul_one] at this
        go_wp2_with fail
        refine (num_any _ _).mono ?_
        rintro e w' ⟨rfl, rfl⟩
        have BAK := Lib.hid ((Below.refl Vk.heap.size Vk).alloc (Nat.le_refl _) (.cells #[.slice f.a f.xs.length f.c] 56))
        go_wp2_with (first
          | ((with_reducible show wpList _ _ _ _ _ _); refine wpList_append_rA (w := Vk.alloc (.cells #[.slice f.a f.xs.length f.c] 56)) (t := 50) (e := 56) (z := .slice none 0 0) (m := 1) (bz := 24) (cells := Txt.cells) (xs := K) (ys := [f]) (cap := kc) (dap := 1) (n := 1) (a := ka) (ad := ⟨Vk.heap.size, 0, none⟩) rfl elemT encT (.tmp 80) (.tmp 85) rfl B1 rfl (KO.out.below BAK.out) (sts_new encT Vk [f] 56 (0, 0)) rfl rfl (by simp only [List.length_cons, List.length_nil]; omega) (by unfold maxLen; simp only [List.length_cons, List.length_nil]; omega) (by have := BAK.out.size; omega) ?_; intro a5 c5 V5 O5 b5 g5 at5; have O5h := Lib.hid O5; have B5h := Lib.hid b5; have G5h := Lib.hid g5; have A5h := Lib.hid at5; clear O5 b5 g5 at5)
          | fail)
        have hal : (Vk.alloc (.cells #[.slice f.a f.xs.length f.c] 56)).heap.size = Vk.heap.size + 1 := by simp
        have t5 : Turns (fun q => ka = some ⟨q, 0, none⟩) Vk V5 := (Turns.of_below _ BAK.out).trans (.of_grown (fun q e => KO.out.ownEq q e) G5h.out)
        have kB : ∀ g, ka = some ⟨g, 0, none⟩ → B1 ≤ g := fun g e => (KO.out.ownB g (by rw [e]; rfl)).1
        have C6 := Lib.hid (HC5.out.turned t5 (fun e => by have := kB _ e; omega) (fun e => by have := kB _ e; omega) (fun e => by have := kB _ e; omega))
        have Q6 := Lib.hid (HQ5.out.turned t5 (fun e => (HDK.out _ e).1 rfl) (fun g e e2 => (HDK.out g e2).2.1 g e rfl) (fun f hf b o e hl e2 => (HDK.out b e2).2.2 f hf b o e hl rfl))
        have B6 := Lib.hid (Qk.out.trans (t5.below Qk.out.size (fun q e => by have := kB _ e; omega)))
        have hgq2 := blk_lt HQ5.out.blk
        have hs5 := t5.size
        have HD2 : ∀ g2, a5 = some ⟨g2, 0, none⟩ → g2 ≠ gq ∧ (∀ g, a2 = some ⟨g, 0, none⟩ → g ≠ g2) ∧ ∀ x ∈ (cutF F ++ [⟨oa, f.xs, oc⟩]), ∀ b o, x.a = some ⟨b, o, none⟩ → 0 < x.xs.length → b ≠ g2 := fun g2 e => by
          rcases A5h.out g2 e with h | h
          · exact HDK.out g2 h
          · rw [hal] at h
            refine ⟨by omega, fun g e2 => ?_, fun x hf b o e2 hl => ?_⟩
            · have := HQ5.out.own.ltB g e2; omega
            · obtain ⟨b2, o2, e3, h3, _⟩ := (HQ5.out.fr x hf).isSome hl
              rw [e2] at e3; cases e3; omega
        have HKN : ∀ x ∈ K ++ [f], Bts w x.a x.xs ∧ x.xs.length ≤ 65535 := fun x hx => by
          rcases List.mem_append.1 hx with hx | hx
          · exact HK.out x hx
          · obtain rfl := List.mem_singleton.1 hx
            exact ⟨Y0.out, hfl⟩
        have HD3 := Lib.hid HD2
        have HKN2 := Lib.hid HKN
        clear t5 kB HD2 HKN
        go_roundw
        case rel => exact ⟨i + 1, a5, K ++ [f], c5, by omega, by simp only [List.length_append, List.length_singleton]; omega, by go_num, by simp, O5h.out, HKN2.out, .inr ⟨by simp, ⟨⟨gq, P, a2, (cutF F ++ [⟨oa, f.xs, oc⟩]), cap2, C6.out, Q6.out, by omega, ⟨by omega, by omega, by omega⟩, HL.out.trans (congrArg l4 (by simp)), HD3.out⟩⟩⟩, by omega, B6.out⟩
        case measure => simp [intOf]; omega

theorem own : ownKnob Try.prog.godebug = none := by kernel_rfl
theorem laidOut : laidOutB Try.prog = true := by kernel_rfl

set_option maxRecDepth 100000 in
set_option maxHeartbeats 2000000 in
theorem lifted (os : Os) (started : os.Started) (H : Type) (enc : TypeId × Value → H) :
    ReturnsInHanded {} Try.checked os 5 .any (Rows.routesWaitsSpec.pre6 enc Try.prog Try.f5 Rows.routesWaitsRow.domain false) (Rows.routesWaitsSpec.post enc Try.prog Try.f5 false true false false) := by
  refine returnsInHanded_of_change_sized (C := Try.checked) own started (by kernel_rfl) Try.func5
    (ChangeSpec.witness6 (enc := enc) (C := Try.checked) false ⟨#[], #[.int .u32 0, .int .u64 0, .slice none 0 0], []⟩ 8 (by kernel_rfl) (by kernel_rfl) (by kernel_rfl) (by kernel_rfl)) ?_
  intro W base args ds gs before hval0 hW hcnd hsz0 _
  have hval : ∀ (j : Nat) t v, Try.f5.params[j]? = some t → args[j]? = some v → Value.okWide Try.prog W .any base t v := hval0
  have hsz : (DataW.weightsEach Try.prog (Try.f5.params.toList ++ Rows.routesWaitsSpec.plain.varTypes Try.prog) (ds ++ gs)).all (· ≤ reachBytes) = true := hsz0
  have hW' := hW
  obtain ⟨p, q, hA0, hV, rfl, hfz, hnd⟩ := hW
  have hA : DataW.TrodAll enc Try.prog W 0 (fun _ => true) true Try.f5.params.toList args.toList ds p := hA0
  rw [Try.params5] at hA hval hsz
  obtain ⟨v0, vs0, d0, ds0, p0, q0, hargs, rfl, rfl, h0, r0⟩ := trodAll_cons hA
  obtain ⟨v1, vs1, d1, ds1, p1, q1, rfl, rfl, rfl, h1, r1⟩ := trodAll_cons r0
  obtain ⟨v2, vs2, d2, ds2, p2, q2, rfl, rfl, rfl, h2, r2⟩ := trodAll_cons r1
  obtain ⟨rfl, rfl, rfl⟩ := trodAll_nil r2
  obtain rfl : args = #[v0, v1, v2] := by cases args; simp_all
  obtain ⟨rfl, rfl⟩ := trodVars_none hV
  obtain ⟨a0, rfl, rfl, rfl, w0⟩ := open_int Try.underlying29 (hval 0 29 v0 rfl rfl) h0
  obtain ⟨a1, rfl, rfl, rfl, w1⟩ := open_int Try.underlying48 (hval 1 48 v1 rfl rfl) h1
  obtain ⟨a2, len2, cap2, rfl⟩ := okWide_slice Try.underlying50 (hval 2 50 v2 rfl rfl)
  have k2 := h2
  have lt2 : ∀ x ∈ p2, x.block < W.heap.size := by obtain ⟨m, hm⟩ := k2; exact DataW.trod_lt m _ _ _ hm
  obtain ⟨xs2, hxl2, hbt2, hcap2, hre2⟩ : ∃ xs : List Txt, xs.length = len2 ∧ Sts 1 Txt.cells Txt.ok W a2 xs ∧ (a2 = none → cap2 = 0) ∧ xs.length ≤ 5864062014634 := by
    obtain ⟨fuel, hf⟩ := h2
    obtain ⟨x, rs, c, hv, hs, hnc, hlc, hq⟩ := open_Txts (c := .slice a2 len2 cap2) hf
    simp only [Value.slice.injEq] at hv
    obtain ⟨rfl, rfl, rfl⟩ := hv
    have hw := sts_reach Try.underlying50 hq (fun n hn => by simpa using List.all_eq_true.1 hsz _ (DataW.weights_mem_each (j := 2) (t := 50) rfl rfl n hn))
    rw [show Try.prog.bytesOf 56 = 24 from by kernel_rfl] at hw
    simp only [reachBytes] at hw
    exact ⟨rs, rfl, hs, hnc, by omega⟩
  clear hA0 hval0 hsz hsz0
  obtain ⟨n0, rfl, hn0⟩ := nat_of_u32 w0
  obtain ⟨n1, rfl, hn1⟩ := nat_of_u64 w1
  subst hxl2
  refine (walk n0 n1 a2 xs2 cap2 W hn0 hn1 hbt2 hcap2 hre2).mono fun e W' ⟨he, bel⟩ => ?_
  subst he
  exact ⟨_, rfl, _, _, _, [], _, [], hW', trodAll_mk1 (shut_bool Try.underlying4 _), (trodAll_cons_mk (shut_int Try.underlying29 w0) (trodAll_cons_mk (shut_int Try.underlying48 w1) (trodAll_cons_mk (Below.trod laidOut (by kernel_rfl) (of_decide_eq_true (by kernel_rfl)) k2 bel lt2) trodAll_mk0))), rfl, bel.frame _, fun h => by cases h⟩

theorem over : Rows.routesWaitsRow.holds Try.pinned (OpenSpec.ofChange Rows.routesWaitsSpec) :=
  OpenClaim.holds_of_wide 5 Try.f5 rfl rfl rfl rfl rfl rfl rfl ⟨rfl, rfl, rfl, rfl, rfl⟩ rfl rfl rfl rfl rfl (by kernel_rfl) Try.func5 (by kernel_rfl)
    (of_decide_eq_true (by kernel_rfl)) (by unfold Func.isWrapper; first | (rw [if_pos (by decide +kernel)]; kernel_rfl) | (rw [if_neg (by decide +kernel)]; exact ⟨rfl, rfl⟩))
    (fun os started H enc _ => lifted os started H enc)

end Go.Proofs.Ytinlacdngojlaaa.routesWaits
namespace Go.Proofs.Ytinlacdngojlaaa
/-- The statement. -/
theorem routesWaits_holds : Rows.RoutesWaitsSaid := routesWaits.over
#print axioms routesWaits_holds
end Go.Proofs.Ytinlacdngojlaaa
