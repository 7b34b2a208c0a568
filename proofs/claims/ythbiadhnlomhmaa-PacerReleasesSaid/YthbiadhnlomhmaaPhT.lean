/- The methods of packets that wait, through an interface. -/
import Derived.Test.YthbiadhnlomhmaaPcE
import Derived.Handy
import Derived.Deep.MidRow
namespace Go.Proofs.Ythbiadhnlomhmaa
open Go.RowKit
theorem ld_wait (w : World) (p o : Nat) (v : Value) (h : w.cell? ⟨p, o, none⟩ = some v) : (loadVar 45 ⟨p, o, none⟩).run Try.prog w = .ok v w := by
  simp [loadVar, go_sem, h]
theorem m_row {T : TypeId} {name : String} {f : Nat} {ptr : Bool} (h : ((Try.prog.info? T).bind fun i => (i.methods.find? (·.name == name)).map fun m => (m.path, m.func)) = some (#[], some (f, ptr))) : ∃ i m, Try.prog.info? T = some i ∧ i.methods.find? (·.name == name) = some m ∧ m.path = #[] ∧ m.func = some (f, ptr) := by
  obtain ⟨i, hi, h2⟩ := Option.bind_eq_some_iff.1 h
  obtain ⟨m, hm, h3⟩ := Option.map_eq_some_iff.1 h2
  exact ⟨i, m, hi, hm, congrArg Prod.fst h3, congrArg Prod.snd h3⟩
theorem wrap_ok (w : World) (a : Addr) (nm : String) : (Builtin.ssaWrapNilChk_ #[49] 49 #[.pointer (some a), strVal "", strVal nm]).run Try.prog w = .ok (.pointer (some a)) w := by kernel_rfl
theorem m_val (K : Nat) (w : World) (p o : Nat) (v : Value) (name : String) (f : Nat) (hr : ((Try.prog.info? 49).bind fun i => (i.methods.find? (·.name == name)).map fun m => (m.path, m.func)) = some (#[], some (f, false))) (h : w.cell? ⟨p, o, none⟩ = some v) : (method (K + 1) 49 (.pointer (some ⟨p, o, none⟩)) name).run Try.prog w = .ok (f, v) w := by
  obtain ⟨i, m, h1, h2, h3, h4⟩ := m_row hr
  unfold method
  simp [typeInfo, h1, h2, h3, h4, follow, receiverAt, Place.get, run_underlying Try.underlying49, wrap_ok, ld_wait w p o v h, asAddr]
theorem m_ptr (K : Nat) (w : World) (p o : Nat) (name : String) (f : Nat) (hr : ((Try.prog.info? 49).bind fun i => (i.methods.find? (·.name == name)).map fun m => (m.path, m.func)) = some (#[], some (f, true))) : (method (K + 1) 49 (.pointer (some ⟨p, o, none⟩)) name).run Try.prog w = .ok (f, .pointer (some ⟨p, o, none⟩)) w := by
  obtain ⟨i, m, h1, h2, h3, h4⟩ := m_row hr
  unfold method
  simp [typeInfo, h1, h2, h3, h4, follow, receiverAt, Place.get, run_underlying Try.underlying49]
theorem m_len (K : Nat) (w : World) (p o : Nat) (v : Value) (h : w.cell? ⟨p, o, none⟩ = some v) : (method (K + 1) 49 (.pointer (some ⟨p, o, none⟩)) "Len").run Try.prog w = .ok (32, v) w := m_val K w p o v _ _ (by kernel_rfl) h
theorem m_less (K : Nat) (w : World) (p o : Nat) (v : Value) (h : w.cell? ⟨p, o, none⟩ = some v) : (method (K + 1) 49 (.pointer (some ⟨p, o, none⟩)) "Less").run Try.prog w = .ok (33, v) w := m_val K w p o v _ _ (by kernel_rfl) h
theorem m_swap (K : Nat) (w : World) (p o : Nat) (v : Value) (h : w.cell? ⟨p, o, none⟩ = some v) : (method (K + 1) 49 (.pointer (some ⟨p, o, none⟩)) "Swap").run Try.prog w = .ok (34, v) w := m_val K w p o v _ _ (by kernel_rfl) h
theorem m_pop (K : Nat) (w : World) (p o : Nat) : (method (K + 1) 49 (.pointer (some ⟨p, o, none⟩)) "Pop").run Try.prog w = .ok (35, .pointer (some ⟨p, o, none⟩)) w := m_ptr K w p o _ _ (by kernel_rfl)
theorem m_push (K : Nat) (w : World) (p o : Nat) : (method (K + 1) 49 (.pointer (some ⟨p, o, none⟩)) "Push").run Try.prog w = .ok (36, .pointer (some ⟨p, o, none⟩)) w := m_ptr K w p o _ _ (by kernel_rfl)
end Go.Proofs.Ythbiadhnlomhmaa
