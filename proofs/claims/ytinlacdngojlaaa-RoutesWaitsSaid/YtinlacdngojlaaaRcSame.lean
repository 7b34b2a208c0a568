/- Routes: two lists of lists of octets compared. -/
import Derived.Test.YtinlacdngojlaaaRcLearn
import Derived.Test.YtinlacdngojlaaaGSame
namespace Go.Proofs.Ytinlacdngojlaaa
open Go.RowKit Go.Maps Go.Proofs.Ytinlacdngojlaaa.Rt Go.Sort Go.BigFrame

theorem map_at {L M : List Txt} (h : L.map (·.xs) = M.map (·.xs)) {i : Nat} {f g : Txt} (hf : L[i]? = some f) (hg : M[i]? = some g) : f.xs = g.xs := by
  have h1 : (L.map (·.xs))[i]? = some f.xs := by rw [List.getElem?_map, hf]; rfl
  have h2 : (M.map (·.xs))[i]? = some g.xs := by rw [List.getElem?_map, hg]; rfl
  rw [h, h2] at h1
  exact (Option.some.inj h1).symm
set_option maxRecDepth 100000 in
set_option maxHeartbeats 2000000 in
theorem lists_any (a b : Option Addr) (L M : List Txt) (c d : Nat) (W : World) (hx : Sts 1 Txt.cells Tr W a L) (hy : Sts 1 Txt.cells Tr W b M) (hfx : ∀ f ∈ L, Bts W f.a f.xs) (hfy : ∀ f ∈ M, Bts W f.a f.xs) (hlx : ∀ f ∈ M, f.xs.length ≤ 65535) (heq : L.map (·.xs) = M.map (·.xs)) (hL : L.length ≤ 140737488355328) :
    Calls Try.prog 20 #[.slice a L.length c, .slice b M.length d] W fun e w' => e = .returned (.bool true) ∧ Below W.heap.size W w' := by
  have hlen : M.length = L.length := by
    have := congrArg List.length heq
    simpa using this.symm
  have HX := Lib.hid hx
  have HY := Lib.hid hy
  have HFX := Lib.hid hfx
  have HFY := Lib.hid hfy
  have HLX := Lib.hid hlx
  have HE := Lib.hid heq
  rw [hlen]
  have v0 : ((L.length : Int) != (L.length : Int)) = false := by simp
  clear hx hy hfx hfy hlx heq
  go_enter Try.func20, Try.ntmps20
  go_wp2_with fail
  go_loopw [5] (fun iv wr => ∃ i : Nat, i ≤ L.length ∧ iv = .int .i64 i ∧ Below W.heap.size W wr) (fun iv _ => L.length - (intOf iv).toNat)
  case atStart => exact ⟨0, by omega, rfl, Below.refl _ _⟩
  case round =>
    obtain ⟨i, hi, rfl, hq⟩ := hrel
    have HQ := Lib.hid hq
    clear hq
    by_cases hlt : i < L.length
    case neg =>
      obtain rfl : i = L.length := by omega
      have j1 : ¬ ((L.length : Int) < (L.length : Int)) := by omega
      go_wp2
      go_ret
      exact ⟨rfl, HQ.out⟩
    case pos =>
      have j1 : (i : Int) < (L.length : Int) := by omega
      obtain ⟨f, hf⟩ : ∃ f, L[i]? = some f := ⟨_, List.getElem?_eq_getElem hlt⟩
      obtain ⟨g, hg⟩ : ∃ g, M[i]? = some g := ⟨_, List.getElem?_eq_getElem (by omega)⟩
      obtain ⟨b1, o1, rfl, hb1, hc1⟩ := HX.out.isSomeT (by omega)
      obtain ⟨b2, o2, rfl, hb2, hc2⟩ := HY.out.isSomeT (by omega)
      have m0 : wr.cell? ⟨b1, o1 + i, none⟩ = some (.slice f.a f.xs.length f.c) := by
        have := (HQ.out.cell (p := ⟨b1, o1 + i * 1 + 0, none⟩) hb1).trans (hc1 i f hf 0 _ rfl)
        rwa [Nat.mul_one] at this
      have n0 : wr.cell? ⟨b2, o2 + i, none⟩ = some (.slice g.a g.xs.length g.c) := by
        have := (HQ.out.cell (p := ⟨b2, o2 + i * 1 + 0, none⟩) hb2).trans (hc2 i g hg 0 _ rfl)
        rwa [Nat.mul_one] at this
      have e1 := map_at HE.out hf hg
      have Y1 := Lib.hid ((HFX.out f (List.mem_of_getElem? hf)).below HQ.out)
      have Y2 := Lib.hid ((HFY.out g (List.mem_of_getElem? hg)).below HQ.out)
      have hl2 := HLX.out g (List.mem_of_getElem? hg)
      have HE1 := Lib.hid e1
      have hl1 : f.xs.length ≤ 65535 := by rw [e1]; exact hl2
      clear hc1 hc2 hf hg e1
      go_upto_region 6 with fail
      have qm0 := cell_regrown (show wr.cell? ⟨b1, o1 + i, none⟩ = some (.slice f.a f.xs.length f.c) from m0)
      have qn0 := cell_regrown (show wr.cell? ⟨b2, o2 + i, none⟩ = some (.slice g.a g.xs.length g.c) from n0)
      have cS : ∀ d os, Calls Try.prog 28 #[.slice f.a f.xs.length f.c, .slice g.a g.xs.length g.c] (grow (redrawn wr d) os) fun e w'' => e = .returned (.bool true) ∧ ∃ p : Regrown, w'' = grow (redrawn wr p.d) p.os := fun d os => Calls.regrown_of ((same_any f.a g.a f.xs g.xs f.c g.c _ (Y1.out.below (below_regrown wr d os)) (Y2.out.below (below_regrown wr d os)) (by omega) (by omega)).mono fun _ _ h => ⟨h.1.trans (by simp [HE1.out]), h.2⟩)
      refine wp_region_quiet_below (by kernel_rfl) (by kernel_rfl) ?_
      repeat (go_big_quiet_step (first | (go_at_call 28; exact cS _ _)))
      refine wpQuiet_nil ?_
      intro _ hw'
      obtain ⟨⟨dq, osq⟩, hw''⟩ := hw'
      subst hw''
      have hB := below_regrown wr dq osq
      clear qm0 qn0 cS
      dsimp only
      generalize grow (redrawn wr dq) osq = V1 at hB ⊢
      have hB2 := Lib.hid (HQ.out.trans (hB.mono HQ.out.size))
      clear hB
      go_wp2_with fail
      go_roundw
      case rel => exact ⟨i + 1, by omega, by go_num, hB2.out⟩
      case measure => simp [intOf]; omega
end Go.Proofs.Ytinlacdngojlaaa
