/- IP's octets as lists: plain facts. -/
import Derived.Test.YtokfadlgiimaoaaNumI
import Derived.Test.YtokfadlgiimaoaaSumMath
namespace Go.Proofs.Ytokfadlgiimaoaa
open Go.RowKit

/-- The 20 octets that every header has. -/
def ipHd (n tos len id fw ttl proto c src dst : Nat) : List Nat := [n, tos] ++ Mt.octs len 2 ++ Mt.octs id 2 ++ Mt.octs fw 2 ++ [ttl, proto] ++ Mt.octs c 2 ++ Mt.octs src 4 ++ Mt.octs dst 4

theorem ipHd_len (n tos len id fw ttl proto c src dst : Nat) : (ipHd n tos len id fw ttl proto c src dst).length = 20 := by simp [ipHd, Mt.octs_length]

/-- The two octets of a fragment. -/
def ipFw (off : Nat) (df mf : Bool) : Nat := off / 8 + (if df then 16384 else 0) + (if mf then 8192 else 0)

/-- The checksum. -/
def ipC (tos id : Nat) (df mf : Bool) (off ttl proto src dst : Nat) (os : List Nat) (dn : Nat) : Nat :=
  65535 - Mt.sumO (ipHd (69 + os.length / 4) tos (20 + os.length + dn) id (ipFw off df mf) ttl proto 0 src dst ++ os)

/-- A packet's header, and its octets. -/
def ipH (tos id : Nat) (df mf : Bool) (off ttl proto src dst : Nat) (os : List Nat) (dn : Nat) : List Nat :=
  ipHd (69 + os.length / 4) tos (20 + os.length + dn) id (ipFw off df mf) ttl proto (ipC tos id df mf off ttl proto src dst os dn) src dst ++ os
def ipO (tos id : Nat) (df mf : Bool) (off ttl proto src dst : Nat) (os ds : List Nat) : List Nat := ipH tos id df mf off ttl proto src dst os ds.length ++ ds

theorem ipO_len (tos id : Nat) (df mf : Bool) (off ttl proto src dst : Nat) (os ds : List Nat) : (ipO tos id df mf off ttl proto src dst os ds).length = 20 + os.length + ds.length := by
  simp [ipO, ipH, ipHd_len]; omega

theorem set_splice (xs : List Nat) (i v : Nat) (h : i < xs.length) : xs.set i v = splice xs i [v] := by
  unfold splice
  rw [List.length_singleton, List.set_eq_take_append_cons_drop, if_pos h]
  rfl

theorem splice_at (P cs R : List Nat) (off n : Nat) (hP : P.length = off) (hc : cs.length = n) : splice (P ++ R) off cs = P ++ cs ++ R.drop n := by
  rw [splice_app P R cs off hP, hc]

/-- What Build lays, one thing behind the other. -/
theorem ip_splices (n tos len id fw ttl proto src dst c : Nat) (os ds : List Nat) (N : Nat) (hN : N = 20 + os.length + ds.length) :
    splice (splice (splice (splice (splice (((splice (splice (splice (((List.replicate N 0).set 0 n).set 1 tos) 2 (Mt.octs len 2)) 4 (Mt.octs id 2)) 6 (Mt.octs fw 2)).set 8 ttl).set 9 proto) 12 (Mt.octs src 4)) 16 (Mt.octs dst 4)) 20 os) (20 + os.length) ds) 10 (Mt.octs c 2) = ipHd n tos len id fw ttl proto c src dst ++ os ++ ds
    ∧ splice (splice (splice (splice (((splice (splice (splice (((List.replicate N 0).set 0 n).set 1 tos) 2 (Mt.octs len 2)) 4 (Mt.octs id 2)) 6 (Mt.octs fw 2)).set 8 ttl).set 9 proto) 12 (Mt.octs src 4)) 16 (Mt.octs dst 4)) 20 os) (20 + os.length) ds = ipHd n tos len id fw ttl proto 0 src dst ++ os ++ ds := by
  have e0 : List.replicate N 0 = [] ++ List.replicate N 0 := rfl
  have hr : ∀ k m, (List.replicate k (0 : Nat)).drop m = List.replicate (k - m) 0 := fun k m => by rw [List.drop_replicate]
  have o2 := fun a => Mt.octs_length a 2
  have o4 := fun a => Mt.octs_length a 4
  have key : splice (splice (splice (splice (((splice (splice (splice (((List.replicate N 0).set 0 n).set 1 tos) 2 (Mt.octs len 2)) 4 (Mt.octs id 2)) 6 (Mt.octs fw 2)).set 8 ttl).set 9 proto) 12 (Mt.octs src 4)) 16 (Mt.octs dst 4)) 20 os) (20 + os.length) ds = ipHd n tos len id fw ttl proto 0 src dst ++ os ++ ds := by
    rw [set_splice _ 0 n (by rw [List.length_replicate]; omega), e0, splice_at [] [n] _ 0 1 rfl rfl, hr]
    rw [set_splice _ 1 tos (by simp; omega), splice_at ([] ++ [n]) [tos] _ 1 1 rfl rfl, hr]
    rw [splice_at ([] ++ [n] ++ [tos]) _ _ 2 2 rfl (o2 _), hr]
    rw [splice_at ([] ++ [n] ++ [tos] ++ Mt.octs len 2) _ _ 4 2 (by simp [o2]) (o2 _), hr]
    rw [splice_at ([] ++ [n] ++ [tos] ++ Mt.octs len 2 ++ Mt.octs id 2) _ _ 6 2 (by simp [o2]) (o2 _), hr]
    rw [set_splice _ 8 ttl (by simp [o2]; omega), splice_at ([] ++ [n] ++ [tos] ++ Mt.octs len 2 ++ Mt.octs id 2 ++ Mt.octs fw 2) [ttl] _ 8 1 (by simp [o2]) rfl, hr]
    rw [set_splice _ 9 proto (by simp [o2]; omega), splice_at ([] ++ [n] ++ [tos] ++ Mt.octs len 2 ++ Mt.octs id 2 ++ Mt.octs fw 2 ++ [ttl]) [proto] _ 9 1 (by simp [o2]) rfl, hr]
    have ez : List.replicate (N - 1 - 1 - 2 - 2 - 2 - 1 - 1) (0 : Nat) = Mt.octs 0 2 ++ List.replicate (N - 12) 0 := by
      have e1 : N - 1 - 1 - 2 - 2 - 2 - 1 - 1 = 2 + (N - 12) := by omega
      rw [e1, ← List.replicate_append_replicate]
      rfl
    rw [ez, ← List.append_assoc]
    rw [splice_at ([] ++ [n] ++ [tos] ++ Mt.octs len 2 ++ Mt.octs id 2 ++ Mt.octs fw 2 ++ [ttl] ++ [proto] ++ Mt.octs 0 2) _ _ 12 4 (by simp [o2]) (o4 _), hr]
    rw [splice_at ([] ++ [n] ++ [tos] ++ Mt.octs len 2 ++ Mt.octs id 2 ++ Mt.octs fw 2 ++ [ttl] ++ [proto] ++ Mt.octs 0 2 ++ Mt.octs src 4) _ _ 16 4 (by simp [o2, o4]) (o4 _), hr]
    rw [splice_at ([] ++ [n] ++ [tos] ++ Mt.octs len 2 ++ Mt.octs id 2 ++ Mt.octs fw 2 ++ [ttl] ++ [proto] ++ Mt.octs 0 2 ++ Mt.octs src 4 ++ Mt.octs dst 4) _ _ 20 os.length (by simp [o2, o4]) rfl, hr]
    rw [splice_at ([] ++ [n] ++ [tos] ++ Mt.octs len 2 ++ Mt.octs id 2 ++ Mt.octs fw 2 ++ [ttl] ++ [proto] ++ Mt.octs 0 2 ++ Mt.octs src 4 ++ Mt.octs dst 4 ++ os) _ _ (20 + os.length) ds.length (by simp [o2, o4]; omega) rfl, hr]
    have e9 : N - 12 - 4 - 4 - os.length - ds.length = 0 := by omega
    rw [e9]
    simp [ipHd]
  refine ⟨?_, key⟩
  rw [key]
  have e : ipHd n tos len id fw ttl proto 0 src dst ++ os ++ ds = ([n, tos] ++ Mt.octs len 2 ++ Mt.octs id 2 ++ Mt.octs fw 2 ++ [ttl, proto]) ++ (Mt.octs 0 2 ++ (Mt.octs src 4 ++ Mt.octs dst 4 ++ os ++ ds)) := by
    simp [ipHd]
  rw [e, splice_at _ _ _ 10 2 (by simp [o2]) (o2 _), List.drop_left' (o2 0)]
  simp [ipHd]

/-- The lists that Build goes through. -/
structure IpLists (n tos len id fw ttl proto src dst c : Nat) (os ds : List Nat) (N H : Nat) (A : Nat → List Nat) : Prop where
  l : ∀ i, i ≤ 12 → (A i).length = N
  e0 : List.replicate N 0 = A 0
  e1 : (A 0).set 0 n = A 1
  e2 : (A 1).set 1 tos = A 2
  e3 : splice (A 2) 2 (Mt.octs len 2) = A 3
  e4 : splice (A 3) 4 (Mt.octs id 2) = A 4
  e5 : splice (A 4) 6 (Mt.octs fw 2) = A 5
  e6 : (A 5).set 8 ttl = A 6
  e7 : (A 6).set 9 proto = A 7
  e8 : splice (A 7) 12 (Mt.octs src 4) = A 8
  e9 : splice (A 8) 16 (Mt.octs dst 4) = A 9
  e10 : splice (A 9) 20 os = A 10
  e11 : splice (A 10) H ds = A 11
  e12 : splice (A 11) 10 (Mt.octs c 2) = A 12
  fin : A 12 = ipHd n tos len id fw ttl proto c src dst ++ os ++ ds
  mid : (A 11).take H = ipHd n tos len id fw ttl proto 0 src dst ++ os

/-- Thirteen lists, by their number. -/
def pick13 (a0 a1 a2 a3 a4 a5 a6 a7 a8 a9 a10 a11 a12 : List Nat) (i : Nat) : List Nat :=
  match i with
  | 0 => a0
  | 1 => a1
  | 2 => a2
  | 3 => a3
  | 4 => a4
  | 5 => a5
  | 6 => a6
  | 7 => a7
  | 8 => a8
  | 9 => a9
  | 10 => a10
  | 11 => a11
  | 12 => a12
  | _ => []

theorem ip_lists (n tos len id fw ttl proto src dst c : Nat) (os ds : List Nat) (N H : Nat) (hH : H = 20 + os.length) (hN : N = H + ds.length) : ∃ A, IpLists n tos len id fw ttl proto src dst c os ds N H A := by
  subst hH
  have o2 := fun a => Mt.octs_length a 2
  have o4 := fun a => Mt.octs_length a 4
  have sp : ∀ (L cs : List Nat) (off m : Nat), L.length = N → cs.length = m → off + m ≤ N → (splice L off cs).length = N := fun L cs off m h1 h2 h3 => by rw [length_splice _ _ _ (by omega), h1]
  obtain ⟨fin, mid⟩ := ip_splices n tos len id fw ttl proto src dst c os ds N (by omega)
  obtain ⟨A0, e0⟩ : ∃ A, List.replicate N 0 = A := ⟨_, rfl⟩
  rw [e0] at fin mid
  have l0 : A0.length = N := by rw [← e0]; exact List.length_replicate
  obtain ⟨A1, e1⟩ : ∃ A, A0.set 0 n = A := ⟨_, rfl⟩
  rw [e1] at fin mid
  have l1 : A1.length = N := by rw [← e1, List.length_set]; exact l0
  obtain ⟨A2, e2⟩ : ∃ A, A1.set 1 tos = A := ⟨_, rfl⟩
  rw [e2] at fin mid
  have l2 : A2.length = N := by rw [← e2, List.length_set]; exact l1
  obtain ⟨A3, e3⟩ : ∃ A, splice A2 2 (Mt.octs len 2) = A := ⟨_, rfl⟩
  rw [e3] at fin mid
  have l3 : A3.length = N := by rw [← e3]; exact sp _ _ 2 2 l2 (o2 _) (by omega)
  obtain ⟨A4, e4⟩ : ∃ A, splice A3 4 (Mt.octs id 2) = A := ⟨_, rfl⟩
  rw [e4] at fin mid
  have l4 : A4.length = N := by rw [← e4]; exact sp _ _ 4 2 l3 (o2 _) (by omega)
  obtain ⟨A5, e5⟩ : ∃ A, splice A4 6 (Mt.octs fw 2) = A := ⟨_, rfl⟩
  rw [e5] at fin mid
  have l5 : A5.length = N := by rw [← e5]; exact sp _ _ 6 2 l4 (o2 _) (by omega)
  obtain ⟨A6, e6⟩ : ∃ A, A5.set 8 ttl = A := ⟨_, rfl⟩
  rw [e6] at fin mid
  have l6 : A6.length = N := by rw [← e6, List.length_set]; exact l5
  obtain ⟨A7, e7⟩ : ∃ A, A6.set 9 proto = A := ⟨_, rfl⟩
  rw [e7] at fin mid
  have l7 : A7.length = N := by rw [← e7, List.length_set]; exact l6
  obtain ⟨A8, e8⟩ : ∃ A, splice A7 12 (Mt.octs src 4) = A := ⟨_, rfl⟩
  rw [e8] at fin mid
  have l8 : A8.length = N := by rw [← e8]; exact sp _ _ 12 4 l7 (o4 _) (by omega)
  obtain ⟨A9, e9⟩ : ∃ A, splice A8 16 (Mt.octs dst 4) = A := ⟨_, rfl⟩
  rw [e9] at fin mid
  have l9 : A9.length = N := by rw [← e9]; exact sp _ _ 16 4 l8 (o4 _) (by omega)
  obtain ⟨A10, e10⟩ : ∃ A, splice A9 20 os = A := ⟨_, rfl⟩
  rw [e10] at fin mid
  have l10 : A10.length = N := by rw [← e10]; exact sp _ _ 20 os.length l9 rfl (by omega)
  obtain ⟨A11, e11⟩ : ∃ A, splice A10 (20 + os.length) ds = A := ⟨_, rfl⟩
  rw [e11] at fin mid
  have l11 : A11.length = N := by rw [← e11]; exact sp _ _ (20 + os.length) ds.length l10 rfl (by omega)
  obtain ⟨A12, e12⟩ : ∃ A, splice A11 10 (Mt.octs c 2) = A := ⟨_, rfl⟩
  rw [e12] at fin
  have l12 : A12.length = N := by rw [← e12]; exact sp _ _ 10 2 l11 (o2 _) (by omega)
  refine ⟨pick13 A0 A1 A2 A3 A4 A5 A6 A7 A8 A9 A10 A11 A12, ?_, e0, e1, e2, e3, e4, e5, e6, e7, e8, e9, e10, e11, e12, fin, ?_⟩
  · intro i hi
    match i, hi with
    | 0, _ => exact l0
    | 1, _ => exact l1
    | 2, _ => exact l2
    | 3, _ => exact l3
    | 4, _ => exact l4
    | 5, _ => exact l5
    | 6, _ => exact l6
    | 7, _ => exact l7
    | 8, _ => exact l8
    | 9, _ => exact l9
    | 10, _ => exact l10
    | 11, _ => exact l11
    | 12, _ => exact l12
  · show A11.take _ = _
    rw [mid]
    exact List.take_left' (by rw [List.length_append, ipHd_len])

theorem or_hi (x : Nat) (h : x < 16) : bits .or .u8 (64 : Int) (x : Int) = ((64 + x : Nat) : Int) := by
  have h2 := u8_or_nat 64 x (by omega) (by omega)
  rw [nat_join 6 64 x (by decide) (by omega)] at h2
  exact h2

theorem or_df (x : Nat) (h : x < 16384) : bits .or .u64 (x : Int) (16384 : Int) = ((x + 16384 : Nat) : Int) := by
  have h2 := u64_or_nat x 16384 (by omega) (by omega)
  rw [Nat.or_comm, nat_join 14 16384 x (by decide) (by omega), Nat.add_comm] at h2
  exact h2

theorem or_mf (x : Nat) (h : x < 8192) : bits .or .u64 (x : Int) (8192 : Int) = ((x + 8192 : Nat) : Int) := by
  have h2 := u64_or_nat x 8192 (by omega) (by omega)
  rw [Nat.or_comm, nat_join 13 8192 x (by decide) (by omega), Nat.add_comm] at h2
  exact h2

set_option maxRecDepth 100000 in
theorem or_dfmf (x : Nat) (h : x < 8192) : bits .or .u64 ((x : Int) + 16384) (8192 : Int) = ((x + 16384 + 8192 : Nat) : Int) := by
  have h2 := u64_or_nat (x + 16384) 8192 (by omega) (by omega)
  have e1 : x + 16384 = 16384 ||| x := by rw [nat_join 14 16384 x (by decide) (by omega)]; omega
  have e2 : 8192 ||| x = x + 8192 := by rw [nat_join 13 8192 x (by decide) (by omega)]; omega
  have e3 : 16384 ||| (x + 8192) = x + 16384 + 8192 := by rw [nat_join 14 16384 (x + 8192) (by decide) (by omega)]; omega
  have e4 : (x + 16384) ||| 8192 = x + 16384 + 8192 := by
    rw [e1, Nat.or_assoc, Nat.or_comm x 8192, e2, e3]; omega
  rw [e4] at h2
  exact h2
end Go.Proofs.Ytokfadlgiimaoaa
