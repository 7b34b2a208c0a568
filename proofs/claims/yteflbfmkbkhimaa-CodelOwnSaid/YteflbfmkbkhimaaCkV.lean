/- Codel: 'take' by one word. -/
import Derived.Test.YteflbfmkbkhimaaCkT
import Derived.Test.YteflbfmkbkhimaaCkU
namespace Go.Proofs.Yteflbfmkbkhimaa
open Go.RowKit

set_option maxRecDepth 100000 in
theorem take_any (t : Tn) (g : Nat) (w : World) (hS : w.heap[g]? = some (.cells #[.int .i64 t.tg, .int .i64 t.iv, .int .i64 t.mtu, .bool t.above, .int .i64 t.aboveAt, .bool t.dropping, .int .i64 t.nx, .int .i64 t.cn, .int .i64 t.la, .bool t.has, .int .i64 t.out.tick, .int .i64 t.out.sz, .bool t.out.ect, .int .i64 t.out.id, .bool t.marked, .slice t.da t.dl.length t.dc, .int .i64 t.left, .slice t.qa t.ql.length t.qc, .int .i64 t.oc, .int .i64 t.now, .bool t.ripe] 50 (0, 0))) (hL : Sts 4 KC Tr w t.qa t.ql) (hv : PkV t.ql) (hcap : t.ql.length ≤ t.qc ∧ t.qc ≤ maxLen) (hbg : ∀ b o, t.qa = some ⟨b, o, none⟩ → t.ql ≠ [] → b ≠ g) (hn : 0 ≤ t.now ∧ t.now ≤ 2199023255552) (ho : t.oc = sumS t.ql) (hl : t.ql.length ≤ 8796093022207) (hiv : 0 ≤ t.iv ∧ t.iv ≤ 1073741824) :
    Calls Try.prog 16 #[.pointer (some ⟨g, 0, none⟩)] w fun z w' => z = .returned (.tuple #[]) ∧ w'.heap[g]? = some (.cells #[.int .i64 (takeF t).tg, .int .i64 (takeF t).iv, .int .i64 (takeF t).mtu, .bool (takeF t).above, .int .i64 (takeF t).aboveAt, .bool (takeF t).dropping, .int .i64 (takeF t).nx, .int .i64 (takeF t).cn, .int .i64 (takeF t).la, .bool (takeF t).has, .int .i64 (takeF t).out.tick, .int .i64 (takeF t).out.sz, .bool (takeF t).out.ect, .int .i64 (takeF t).out.id, .bool (takeF t).marked, .slice (takeF t).da (takeF t).dl.length (takeF t).dc, .int .i64 (takeF t).left, .slice (takeF t).qa (takeF t).ql.length (takeF t).qc, .int .i64 (takeF t).oc, .int .i64 (takeF t).now, .bool (takeF t).ripe] 50 (0, 0)) ∧ w.grownBy w' (some g) := by
  cases hq : t.ql with
  | nil => rw [takeF_nil hq]; exact tk_nil t g w hS hq
  | cons x r =>
    obtain ⟨b, o, hqa, _, _⟩ := hL.isSomeT (by rw [hq]; simp)
    have hx := hv x (by rw [hq]; exact List.mem_cons_self)
    have hr := sumS_bd (l := r) (fun y hy => hv y (by rw [hq]; exact List.mem_cons_of_mem _ hy))
    have ho2 : x.sz ≤ t.oc ∧ t.oc ≤ 1152921504606846976 := by
      have h2 : t.oc = x.sz + sumS r := by rw [ho, hq]; rfl
      have h3 : r.length ≤ 8796093022207 := by have := hl; rw [hq] at this; simp at this; omega
      omega
    by_cases h1 : t.now - x.tick < t.tg
    · exact tk_lt t g w hS x r hq b o hqa hL hcap (hbg b o hqa (by rw [hq]; simp)) hx hn ho2 hiv h1
    · by_cases h2 : t.oc - x.sz ≤ t.mtu
      · exact tk_le t g w hS x r hq b o hqa hL hcap (hbg b o hqa (by rw [hq]; simp)) hx hn ho2 hiv (by omega) h2
      · rcases (Bool.eq_false_or_eq_true t.above).symm with h3 | h3
        · exact tk_new t g w hS x r hq b o hqa hL hcap (hbg b o hqa (by rw [hq]; simp)) hx hn ho2 hiv (by omega) (by omega) h3
        · exact tk_old t g w hS x r hq b o hqa hL hcap (hbg b o hqa (by rw [hq]; simp)) hx hn ho2 hiv (by omega) (by omega) h3
end Go.Proofs.Yteflbfmkbkhimaa
