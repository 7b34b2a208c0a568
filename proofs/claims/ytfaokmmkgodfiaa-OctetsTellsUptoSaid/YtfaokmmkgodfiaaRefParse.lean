/- The document's ParseInt answers as ParseInt does. -/
import Derived.Test.YtfaokmmkgodfiaaRefDec
import Derived.Test.YtfaokmmkgodfiaaRefA
import Derived.Test.YtfaokmmkgodfiaaBackMath
namespace Go.Proofs.Ytfaokmmkgodfiaa
open Go.RowKit

/-- Digits as a number. -/
def natF (l : List UInt8) : Nat := l.foldl (fun n b => 10 * n + (b.toNat - 48)) 0

theorem natF_snoc (l : List UInt8) (b : UInt8) : natF (l ++ [b]) = 10 * natF l + (b.toNat - 48) := by simp [natF]

theorem natF_digs (n : Nat) : ∀ (c : Nat) (acc : Nat), ((Mt.digs 10 n c).map fun x => UInt8.ofNat x.1).foldl (fun n b => 10 * n + (b.toNat - 48)) acc = acc * 10 ^ c + n % 10 ^ c := by
  intro c
  induction c with
  | zero => intro acc; simp [Mt.digs, Nat.mod_one]
  | succ c ih =>
    intro acc
    rw [Mt.digs, List.map_cons, List.foldl_cons, ih, oct_byte, figO_val _ (Nat.mod_lt _ (by omega))]
    have h := Nat.mod_mul (x := n) (a := 10 ^ c) (b := 10)
    rw [Nat.pow_succ, h]
    generalize n / 10 ^ c % 10 = q
    generalize n % 10 ^ c = r
    generalize 10 ^ c = p
    have e : 10 * acc + (48 + q - 48) = 10 * acc + q := by omega
    rw [e, Nat.add_mul, Nat.mul_comm p q, ← Nat.mul_assoc, Nat.mul_comm acc p, Nat.mul_assoc p, Nat.mul_comm p]
    rw [Nat.mul_comm acc 10]
    omega

theorem digs_digit (n : Nat) : ∀ (c : Nat) (x : Mt.Oct), x ∈ Mt.digs 10 n c → 48 ≤ x.1 ∧ x.1 ≤ 57 := by
  intro c
  induction c with
  | zero => intro x h; cases h
  | succ c ih =>
    intro x h
    rw [Mt.digs] at h
    rcases List.mem_cons.1 h with rfl | h
    · rw [figO_val _ (Nat.mod_lt _ (by omega))]
      have := Nat.mod_lt (n / 10 ^ c) (show 10 > 0 by omega)
      omega
    · exact ih x h

/-- What a decimal form tells of its text. -/
theorem dec_form (s : ByteArray) (p : Int) (h1 : -9223372036854775808 ≤ p) (h2 : p ≤ 9223372036854775807) (h : strO (Mt.dec p) = s) :
    (1 ≤ (restOf s).size ∧ (restOf s).size ≤ 19) ∧ (∀ i, i < (restOf s).size → 48 ≤ byteAt (restOf s) i ∧ byteAt (restOf s) i ≤ 57) ∧ natF (restOf s).data.toList = p.natAbs ∧ (hasMinus s = true ↔ p < 0) := by
  have key : (restOf s).data.toList = (Mt.decN p.natAbs).map (fun x => UInt8.ofNat x.1) ∧ (hasMinus s = true ↔ p < 0) := by
    subst h
    by_cases hn : p < 0
    · have hd : Mt.dec p = Mt.minus :: Mt.decN p.natAbs := by unfold Mt.dec Mt.sgn; rw [if_pos hn]; rfl
      have hm : hasMinus (strO (Mt.dec p)) = true := by
        rw [hasMinus_data, strO_data, hd]; rfl
      exact ⟨by rw [rest_minus _ hm, strO_data, hd, List.map_cons, List.drop_one, List.tail_cons], ⟨fun _ => hn, fun _ => hm⟩⟩
    · have hd : Mt.dec p = Mt.decN p.natAbs := by unfold Mt.dec Mt.sgn; rw [if_neg hn]; rfl
      have hm : ¬ hasMinus (strO (Mt.dec p)) = true := by
        rw [hasMinus_data, strO_data, hd]
        obtain ⟨d, l, h10, hl⟩ := decN_cons p.natAbs
        rw [hl, List.map_cons]
        simp only [List.take_succ_cons, List.take_zero, beq_iff_eq, List.cons.injEq, and_true]
        intro h
        have := congrArg UInt8.toNat h
        rw [oct_byte, figO_val d h10] at this
        simp at this
        omega
      exact ⟨by rw [rest_plain _ hm, strO_data, hd], ⟨fun h => absurd h hm, fun h => absurd h hn⟩⟩
  obtain ⟨k1, k2⟩ := key
  have hw := Mt.dwidF_is 19 p.natAbs (by omega)
  have hsz : (restOf s).size = Mt.dwidF 19 p.natAbs := by
    have := congrArg List.length k1
    rw [List.length_map, Mt.decN, Mt.digs_length] at this
    rw [← this]; simp
  refine ⟨⟨by rw [hsz]; exact hw.1, ?_⟩, ?_, ?_, k2⟩
  · rw [hsz]
    rcases hw.2.2 with h | h
    · omega
    · rcases Nat.lt_or_ge (Mt.dwidF 19 p.natAbs) 20 with h3 | h3
      · omega
      · have := Nat.pow_le_pow_right (show 0 < 10 by omega) (show 19 ≤ Mt.dwidF 19 p.natAbs - 1 by omega)
        omega
  · intro i hi
    unfold byteAt
    rw [k1, List.getD_eq_getElem?_getD, List.getElem?_map]
    have hil : i < (Mt.decN p.natAbs).length := by rw [Mt.decN, Mt.digs_length, ← hsz]; exact hi
    rw [List.getElem?_eq_getElem hil]
    show 48 ≤ (UInt8.ofNat ((Mt.decN p.natAbs)[i]).1).toNat ∧ (UInt8.ofNat ((Mt.decN p.natAbs)[i]).1).toNat ≤ 57
    rw [oct_byte]
    exact digs_digit _ _ _ (List.getElem_mem hil)
  · rw [k1]
    unfold natF Mt.decN
    rw [natF_digs, Nat.mod_eq_of_lt hw.2.1]
    omega

/-- What the loop's tests and the switch tell: where they fail the text is no decimal form. -/
def Form (s : ByteArray) : Prop := strO (Mt.dec (parsed s)) = s

theorem ans_err (s : ByteArray) (w w' : World) (h : ¬ Form s) (hb : Below w.heap.size w w') : ParseAns s w (.returned (.tuple #[.int .i64 0, .int .i64 11])) w' := by
  unfold Form at h
  refine ⟨?_, hb⟩
  rw [if_neg h]

theorem ans_ok (s : ByteArray) (n : Int) (w w' : World) (h1 : -9223372036854775808 ≤ n) (h2 : n ≤ 9223372036854775807) (h : strO (Mt.dec n) = s) (hb : Below w.heap.size w w') : ParseAns s w (.returned (.tuple #[.int .i64 n, .int .i64 0])) w' := by
  have hp : parsed s = n := by rw [← h]; exact parsed_dec n h1 h2
  refine ⟨?_, hb⟩
  rw [hp, if_pos h]

theorem hasMinus_byte (s : ByteArray) : hasMinus s = true ↔ 1 ≤ s.size ∧ byteAt s 0 = 45 := by
  rw [hasMinus_data]
  have hsz : s.size = s.data.toList.length := by simp
  unfold byteAt
  rw [hsz]
  cases hl : s.data.toList with
  | nil => simp
  | cons b l =>
    simp only [List.take_succ_cons, List.take_zero, beq_iff_eq, List.cons.injEq, and_true, List.length_cons, List.getD_cons_zero]
    constructor
    · rintro rfl; exact ⟨by omega, rfl⟩
    · rintro ⟨_, h⟩
      exact UInt8.toNat_inj.1 (by simpa using h)

theorem rest_byte_minus (s : ByteArray) (h : hasMinus s = true) (i : Nat) : byteAt (restOf s) i = byteAt s (i + 1) := by
  unfold byteAt
  rw [rest_minus s h, List.getD_eq_getElem?_getD, List.getD_eq_getElem?_getD, List.getElem?_drop, Nat.add_comm]

theorem rest_size_minus (s : ByteArray) (h : hasMinus s = true) : (restOf s).size + 1 = s.size := by
  have h1 := ((hasMinus_byte s).1 h).1
  have h2 : (restOf s).size = (restOf s).data.toList.length := by simp
  rw [h2, rest_minus s h, List.length_drop]
  simp
  omega
end Go.Proofs.Ytfaokmmkgodfiaa
