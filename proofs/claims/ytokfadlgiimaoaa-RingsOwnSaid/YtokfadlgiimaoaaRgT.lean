/- The document's reader of packets: lengths that may be. -/
import Derived.Test.YtokfadlgiimaoaaRgQ
import Derived.Test.YtokfadlgiimaoaaGMid
import Derived.Test.YtokfadlgiimaoaaEthAll
import Derived.Deep.RegionHeld3
namespace Go.Proofs.Ytokfadlgiimaoaa
open Go.RowKit Go.Sort
theorem copied_n (a : Option Addr) (os : List Nat) (n c : Nat) (W : World) (h : Bts W a os) (hn : os.length = n) (hl : os.length ≤ 140737488355328) (hc : a = none → c = 0) :
    Calls Try.prog 47 #[.slice a n c] W fun e w' => ∃ a' cap', e = .returned (.slice a' n cap') ∧ OwnSl W.heap.size a' os cap' w' ∧ Below W.heap.size W w' := by
  subst hn
  exact copied_one a os c W h hl hc
theorem ownAt {B : Nat} {a : Option Addr} {ys : List Nat} {c : Nat} {W : World} (O : OwnSl B a ys c W) (g : Nat) (e : a = some ⟨g, 0, none⟩) : B ≤ g := by
  obtain ⟨_, ⟨h1, _⟩ | ⟨g', h1, h2, _⟩⟩ := O
  · rw [h1] at e; cases e
  · rw [h1] at e; cases e; exact h2
theorem and_i64 (n m : Nat) (hn : n < 65536) (hm : m < 65536) : bits .and .i64 (n : Int) (m : Int) = ((n &&& m : Nat) : Int) := by
  show IntKind.i64.wrap ((BitVec.ofInt 64 (n : Int) &&& BitVec.ofInt 64 (m : Int)).toNat : Int) = _
  rw [BitVec.toNat_and, ofInt_nat64 _ hn, ofInt_nat64 _ hm]
  have : n &&& m ≤ n := Nat.and_le_left
  exact IntWalk.i64_in _ ⟨by omega, by omega⟩
/-- Is the bit of more fragments set? -/
def mfV (F : Nat) : Bool := ((F &&& 8192 : Nat) : Int) != 0
theorem mf_v (F : Nat) (h : F < 65536) : (bits .and .i64 ((F : Int) / 8192) 1 == 1) = mfV F := by
  have e : (F : Int) / 8192 = ((F / 8192 : Nat) : Int) := by omega
  have e1 := and_i64 (F / 8192) 1 (by omega) (by omega)
  rw [e, show (1 : Int) = ((1 : Nat) : Int) from rfl, e1, Nat.and_one_is_mod]
  unfold mfV
  have e2 : F &&& 8192 = if F / 8192 % 2 = 1 then 8192 else 0 := by
    apply Nat.eq_of_testBit_eq
    intro i
    rw [Nat.testBit_and, show (8192 : Nat) = 2 ^ 13 from rfl, Nat.testBit_two_pow]
    by_cases h2 : F / 2 ^ 13 % 2 = 1
    · rw [if_pos h2, Nat.testBit_two_pow]
      by_cases hi : 13 = i
      · subst hi; simp [Nat.testBit_eq_decide_div_mod_eq, h2]
      · simp [hi]
    · rw [if_neg h2, Nat.zero_testBit]
      by_cases hi : 13 = i
      · subst hi; simp [Nat.testBit_eq_decide_div_mod_eq, h2]
      · simp [hi]
  rw [e2]
  rcases Nat.mod_two_eq_zero_or_one (F / 8192) with h2 | h2 <;> rw [h2] <;> rfl
theorem off_v (F : Nat) (h : F < 65536) : IntKind.i64.wrap (bits .and .i64 (F : Int) 8191 * 8) = ((F % 8192 * 8 : Nat) : Int) := by
  have e1 := and_i64 F 8191 h (by omega)
  have e2 : F &&& 8191 = F % 8192 := Nat.and_two_pow_sub_one_eq_mod F 13
  rw [show (8191 : Int) = ((8191 : Nat) : Int) from rfl, e1, e2, IntWalk.i64_in _ ⟨by omega, by omega⟩]
  omega
/-- What the document's reader tells of a packet's octets. -/
def RIpOk (x1 x8 x9 FR SR DS : Nat) (os ds : List Nat) (w : World) (e : Ending) (w' : World) : Prop := ∃ (idn : Int) (df : Bool) (oa : Option Addr) (oc : Nat) (da : Option Addr) (dc : Nat), e = .returned (.tuple #[.agg #[.int .u8 (x1 : Nat), .int .u16 idn, .bool df, .bool (mfV FR), .int .i64 ((FR % 8192 * 8 : Nat) : Int), .int .u8 (x8 : Nat), .int .u8 (x9 : Nat), .int .u32 (SR : Nat), .int .u32 (DS : Nat), .slice oa os.length oc, .slice da ds.length dc], .int .i64 0]) ∧ OwnSl w.heap.size da ds dc w' ∧ Below w.heap.size w w'
theorem w_i64 {z : Int} (h1 : -1000000000 < z) (h2 : z < 1000000000) : IntKind.i64.wrap z = z := IntWalk.i64_in _ ⟨by omega, by omega⟩
theorem w_64n (x : Nat) (h : x < 65536) : wrap64 (x : Int) = (x : Int) := IntWalk.wrap64_in _ (by omega)
theorem rowIP : Row 72 11 := ⟨⟨_, Try.underlying72, rfl⟩, by kernel_rfl⟩

set_option maxRecDepth 100000 in
set_option maxHeartbeats 4000000 in
theorem refip_sum (b off : Nat) (xs : List Nat) (cap : Nat) (w : World) (x0 x2 x3 hd T : Nat) (hb : b < w.heap.size) (hl20 : 20 ≤ xs.length) (c0 : w.cell? ⟨b, off, none⟩ = some (.int .u8 (x0 : Nat))) (c2 : w.cell? ⟨b, off + 2, none⟩ = some (.int .u8 (x2 : Nat))) (c3 : w.cell? ⟨b, off + 3, none⟩ = some (.int .u8 (x3 : Nat))) (h0 : x0 < 256) (h2 : x2 < 256) (h3 : x3 < 256) (hv : x0 / 16 = 4) (hhd : x0 % 16 * 4 = hd) (hT : x2 * 256 + x3 = T) (hg : 20 ≤ hd ∧ hd ≤ xs.length ∧ hd ≤ T ∧ T ≤ xs.length) (hcap : xs.length ≤ cap) (hR : ∀ W, Below w.heap.size w W → Calls Try.prog 48 #[.slice (some ⟨b, off, none⟩) hd cap] W fun e w' => e = .returned (.bool false) ∧ W = w') :
    Calls Try.prog 28 #[.slice (some ⟨b, off, none⟩) xs.length cap] w (RIpBad w) := by
  have HT5 := Lib.hid (show T ≤ 65535 by omega)
  have e1 : ((x0 : Int) / 16 != 4) = false := by rw [bne_eq_false_iff_eq]; omega
  have m0 : (0 : Int) < (xs.length : Int) := by omega
  have m2 : (2 : Int) < (xs.length : Int) := by omega
  have m3 : (3 : Int) < (xs.length : Int) := by omega
  have i20 : ¬ (xs.length : Int) < 20 := by omega
  have W2 : IntKind.i64.wrap ((x2 : Int) * 256) = (x2 : Int) * 256 := IntWalk.i64_in _ ⟨by omega, by omega⟩
  have W3 : wrap64 (x3 : Int) = (x3 : Int) := IntWalk.wrap64_in _ (by omega)
  have W4 : bits .or .i64 ((x2 : Int) * 256) (x3 : Int) = (T : Int) := or_two x2 x3 T h2 h3 hT
  have W5 : (x0 : Int) % 16 * 4 = (hd : Int) := by omega
  have HG := Lib.hid hg
  have HL := Lib.hid hl20
  have HR := Lib.hid hR
  have HC := Lib.hid hcap
  have nb : b ≠ w.heap.size := by omega
  have ba := (Below.refl w.heap.size w).alloc (Nat.le_refl _) (.cells #[.int .u8 0, .int .u16 0, .bool false, .bool false, .int .i64 0, .int .u8 0, .int .u8 0, .int .u32 0, .int .u32 0, .slice none 0 0, .slice none 0 0] 72)
  have c0 := (ba.cell (p := ⟨b, off, none⟩) hb).trans c0
  have c2 := (ba.cell (p := ⟨b, off + 2, none⟩) hb).trans c2
  have c3 := (ba.cell (p := ⟨b, off + 3, none⟩) hb).trans c3
  have R1 := Lib.hid (blk_new w (.cells #[.int .u8 0, .int .u16 0, .bool false, .bool false, .int .i64 0, .int .u8 0, .int .u8 0, .int .u32 0, .int .u32 0, .slice none 0 0, .slice none 0 0] 72))
  have BA := Lib.hid ba
  clear hv hl20 ba hhd hT hg hR hcap
  go_enter Try.func28, Try.ntmps28
  go_upto_region 3 with fail
  generalize w.alloc (.cells #[.int .u8 0, .int .u16 0, .bool false, .bool false, .int .i64 0, .int .u8 0, .int .u8 0, .int .u32 0, .int .u32 0, .slice none 0 0, .slice none 0 0] 72) = V1 at c0 c2 c3 R1 BA ⊢
  go_upto_region 4 with fail
  go_cut [5] from 9 (fun (v : Value) wx => v = .int .i64 (T : Nat) ∧ Below V1.heap.size V1 wx)
  case first =>
    go_quiet (fail)
    go_wp2_with fail
    go_meet
    exact ⟨by first | rfl | (rw [W3, W4]), below_drewN (Below.refl _ _) nq⟩
  case rest =>
    obtain ⟨rfl, D⟩ := hcut
    have R2 := Lib.hid ((D.block w.heap.size (blk_lt R1.out)).trans R1.out)
    have E2 := Lib.hid (BA.out.trans (D.mono BA.out.size))
    have d0 := (D.cell (p := ⟨b, off, none⟩) (Nat.lt_of_lt_of_le hb BA.out.size)).trans c0
    clear D R1 BA c0 c2 c3 W2 W3 W4
    go_upto_region 7 with fail
    have hg := HG.out
    have q1 : ¬ (hd : Int) < 20 := by omega
    have q1n : ¬ hd < 20 := by omega
    have q1d : decide ((hd : Int) < 20) = false := decide_eq_false q1
    have q1e : decide (hd < 20) = false := decide_eq_false q1n
    have q2 : ¬ (xs.length : Int) < (hd : Int) := by omega
    have q2n : ¬ xs.length < hd := by omega
    have q2d : decide ((xs.length : Int) < (hd : Int)) = false := decide_eq_false q2
    have q2e : decide (xs.length < hd) = false := decide_eq_false q2n
    have q3 : ¬ (T : Int) < (hd : Int) := by omega
    have q3n : ¬ T < hd := by omega
    have q3d : decide ((T : Int) < (hd : Int)) = false := decide_eq_false q3
    have q3e : decide (T < hd) = false := decide_eq_false q3n
    have q4 : ¬ (xs.length : Int) < (T : Int) := by omega
    have q4n : ¬ xs.length < T := by omega
    have q4d : decide ((xs.length : Int) < (T : Int)) = false := decide_eq_false q4
    have q4e : decide (xs.length < T) = false := decide_eq_false q4n
    clear hg
    go_cut [36] from 30 (fun (v : Value) wx => v = .bool false ∧ wx = wc)
    case first =>
      go_wp2_with fail
      go_meet
      exact ⟨rfl, rfl⟩
    case rest =>
      obtain ⟨rfl, rfl⟩ := hcut
      clear q1 q1n q1d q1e q2 q2n q2d q2e q3 q3n q3d q3e q4 q4n q4d q4e
      have k2 : (hd : Int) ≤ (cap : Int) := by have := HG.out; have := HC.out; omega
      have k0 : ¬ (hd : Int) < 0 := by omega
      have HRW := Lib.hid (HR.out _ E2.out)
      go_upto_region 10 with (first
        | (go_at_call 48; refine HRW.out.mono ?_; rintro e w' ⟨rfl, rfl⟩)
        | fail)
      have g0 := blk_cell R2.out 0
      have f0 := blk_free R2.out 0
      have g1 := blk_cell R2.out 1
      have f1 := blk_free R2.out 1
      have g2 := blk_cell R2.out 2
      have f2 := blk_free R2.out 2
      have g3 := blk_cell R2.out 3
      have f3 := blk_free R2.out 3
      have g4 := blk_cell R2.out 4
      have f4 := blk_free R2.out 4
      have g5 := blk_cell R2.out 5
      have f5 := blk_free R2.out 5
      have g6 := blk_cell R2.out 6
      have f6 := blk_free R2.out 6
      have g7 := blk_cell R2.out 7
      have f7 := blk_free R2.out 7
      have g8 := blk_cell R2.out 8
      have f8 := blk_free R2.out 8
      have g9 := blk_cell R2.out 9
      have f9 := blk_free R2.out 9
      have g10 := blk_cell R2.out 10
      have f10 := blk_free R2.out 10
      go_wp2
      refine bodyPost_ret (results_ip8 rfl _ _ w.heap.size _ _ rfl rfl (show _ = some (Obj.cells #[.int .u8 0, .int .u16 0, .bool false, .bool false, .int .i64 0, .int .u8 0, .int .u8 0, .int .u32 0, .int .u32 0, .slice none 0 0, .slice none 0 0] _ _) from (blk_set (blk_set (blk_set (blk_set (blk_set (blk_set (blk_set (blk_set (blk_set (blk_set (blk_set R2.out 0 _) 1 _) 2 _) 3 _) 4 _) 5 _) 6 _) 7 _) 8 _) 9 _) 10 _)) rfl) rfl ?_
      exact ⟨21, by decide, rfl, by
        (repeat' (first | (with_reducible exact E2.out) | (with_reducible refine Below.setCell ?_ ?_ _) | exact Nat.le_refl _))⟩

set_option maxRecDepth 100000 in
set_option maxHeartbeats 4000000 in
theorem refip_good (b off : Nat) (xs : List Nat) (cap : Nat) (w : World) (x0 x2 x3 hd T : Nat) (hb : b < w.heap.size) (hl20 : 20 ≤ xs.length) (c0 : w.cell? ⟨b, off, none⟩ = some (.int .u8 (x0 : Nat))) (c2 : w.cell? ⟨b, off + 2, none⟩ = some (.int .u8 (x2 : Nat))) (c3 : w.cell? ⟨b, off + 3, none⟩ = some (.int .u8 (x3 : Nat))) (h0 : x0 < 256) (h2 : x2 < 256) (h3 : x3 < 256) (hv : x0 / 16 = 4) (hhd : x0 % 16 * 4 = hd) (hT : x2 * 256 + x3 = T) (hg : 20 ≤ hd ∧ hd ≤ xs.length ∧ hd ≤ T ∧ T ≤ xs.length) (hcap : xs.length ≤ cap) (x1 x4 x5 x6 x7 x8 x9 FR SR DS : Nat) (c1 : w.cell? ⟨b, off + 1, none⟩ = some (.int .u8 (x1 : Nat))) (c4 : w.cell? ⟨b, off + 4, none⟩ = some (.int .u8 (x4 : Nat))) (c5 : w.cell? ⟨b, off + 5, none⟩ = some (.int .u8 (x5 : Nat))) (c6 : w.cell? ⟨b, off + 6, none⟩ = some (.int .u8 (x6 : Nat))) (c7 : w.cell? ⟨b, off + 7, none⟩ = some (.int .u8 (x7 : Nat))) (c8 : w.cell? ⟨b, off + 8, none⟩ = some (.int .u8 (x8 : Nat))) (c9 : w.cell? ⟨b, off + 9, none⟩ = some (.int .u8 (x9 : Nat))) (hx : x4 < 256 ∧ x5 < 256 ∧ x6 < 256 ∧ x7 < 256) (hF : x6 * 256 + x7 = FR) (hs : SR < 4294967296) (hds : DS < 4294967296) (hR : ∀ W, Below w.heap.size w W → Calls Try.prog 48 #[.slice (some ⟨b, off, none⟩) hd cap] W fun e w' => e = .returned (.bool true) ∧ W = w') (hN1 : ∀ W, Below w.heap.size w W → Calls Try.prog 46 #[.slice (some ⟨b, off + 12, none⟩) 4 (cap - 12)] W fun e w' => e = .returned (.int .u64 (SR : Nat)) ∧ W = w') (hN2 : ∀ W, Below w.heap.size w W → Calls Try.prog 46 #[.slice (some ⟨b, off + 16, none⟩) 4 (cap - 16)] W fun e w' => e = .returned (.int .u64 (DS : Nat)) ∧ W = w') (os ds : List Nat) (hol : os.length = hd - 20) (hdl : ds.length = T - hd) (hO : ∀ W, Below w.heap.size w W → Bts W (if cap = 20 then some ⟨b, off, none⟩ else some ⟨b, off + 20, none⟩) os) (hD : ∀ W, Below w.heap.size w W → Bts W (if cap = hd then some ⟨b, off, none⟩ else some ⟨b, off + hd, none⟩) ds) :
    Calls Try.prog 28 #[.slice (some ⟨b, off, none⟩) xs.length cap] w (RIpOk x1 x8 x9 FR SR DS os ds w) := by
  have HX := Lib.hid hx
  have HF := Lib.hid hF
  have HS := Lib.hid (And.intro hs hds)
  have HN1 := Lib.hid hN1
  have HN2 := Lib.hid hN2
  have HO := Lib.hid hO
  have HD := Lib.hid hD
  have HOL := Lib.hid hol
  have HDL := Lib.hid hdl
  have HCE := Lib.hid (And.intro c1 (And.intro c4 (And.intro c5 (And.intro c8 c9))))
  have HC67 := Lib.hid (And.intro c6 c7)
  clear hx hF hs hds hN1 hN2 hO hD hol hdl c1 c4 c5 c6 c7 c8 c9
  have HT5 := Lib.hid (show T ≤ 65535 by omega)
  have e1 : ((x0 : Int) / 16 != 4) = false := by rw [bne_eq_false_iff_eq]; omega
  have m0 : (0 : Int) < (xs.length : Int) := by omega
  have m2 : (2 : Int) < (xs.length : Int) := by omega
  have m3 : (3 : Int) < (xs.length : Int) := by omega
  have i20 : ¬ (xs.length : Int) < 20 := by omega
  have W2 : IntKind.i64.wrap ((x2 : Int) * 256) = (x2 : Int) * 256 := IntWalk.i64_in _ ⟨by omega, by omega⟩
  have W3 : wrap64 (x3 : Int) = (x3 : Int) := IntWalk.wrap64_in _ (by omega)
  have W4 : bits .or .i64 ((x2 : Int) * 256) (x3 : Int) = (T : Int) := or_two x2 x3 T h2 h3 hT
  have W5 : (x0 : Int) % 16 * 4 = (hd : Int) := by omega
  have HG := Lib.hid hg
  have HL := Lib.hid hl20
  have HR := Lib.hid hR
  have HC := Lib.hid hcap
  have nb : b ≠ w.heap.size := by omega
  have ba := (Below.refl w.heap.size w).alloc (Nat.le_refl _) (.cells #[.int .u8 0, .int .u16 0, .bool false, .bool false, .int .i64 0, .int .u8 0, .int .u8 0, .int .u32 0, .int .u32 0, .slice none 0 0, .slice none 0 0] 72)
  have c0 := (ba.cell (p := ⟨b, off, none⟩) hb).trans c0
  have c2 := (ba.cell (p := ⟨b, off + 2, none⟩) hb).trans c2
  have c3 := (ba.cell (p := ⟨b, off + 3, none⟩) hb).trans c3
  have R1 := Lib.hid (blk_new w (.cells #[.int .u8 0, .int .u16 0, .bool false, .bool false, .int .i64 0, .int .u8 0, .int .u8 0, .int .u32 0, .int .u32 0, .slice none 0 0, .slice none 0 0] 72))
  have BA := Lib.hid ba
  clear hv hl20 ba hhd hT hg hR hcap
  go_enter Try.func28, Try.ntmps28
  go_upto_region 3 with fail
  generalize w.alloc (.cells #[.int .u8 0, .int .u16 0, .bool false, .bool false, .int .i64 0, .int .u8 0, .int .u8 0, .int .u32 0, .int .u32 0, .slice none 0 0, .slice none 0 0] 72) = V1 at c0 c2 c3 R1 BA ⊢
  go_upto_region 4 with fail
  go_cut [5] from 9 (fun (v : Value) wx => v = .int .i64 (T : Nat) ∧ Below V1.heap.size V1 wx)
  case first =>
    go_quiet (fail)
    go_wp2_with fail
    go_meet
    exact ⟨by first | rfl | (rw [W3, W4]), below_drewN (Below.refl _ _) nq⟩
  case rest =>
    obtain ⟨rfl, D⟩ := hcut
    have R2 := Lib.hid ((D.block w.heap.size (blk_lt R1.out)).trans R1.out)
    have E2 := Lib.hid (BA.out.trans (D.mono BA.out.size))
    have d0 := (D.cell (p := ⟨b, off, none⟩) (Nat.lt_of_lt_of_le hb BA.out.size)).trans c0
    clear D R1 BA c0 c2 c3 W2 W3 W4
    go_upto_region 7 with fail
    have hg := HG.out
    have q1 : ¬ (hd : Int) < 20 := by omega
    have q1n : ¬ hd < 20 := by omega
    have q1d : decide ((hd : Int) < 20) = false := decide_eq_false q1
    have q1e : decide (hd < 20) = false := decide_eq_false q1n
    have q2 : ¬ (xs.length : Int) < (hd : Int) := by omega
    have q2n : ¬ xs.length < hd := by omega
    have q2d : decide ((xs.length : Int) < (hd : Int)) = false := decide_eq_false q2
    have q2e : decide (xs.length < hd) = false := decide_eq_false q2n
    have q3 : ¬ (T : Int) < (hd : Int) := by omega
    have q3n : ¬ T < hd := by omega
    have q3d : decide ((T : Int) < (hd : Int)) = false := decide_eq_false q3
    have q3e : decide (T < hd) = false := decide_eq_false q3n
    have q4 : ¬ (xs.length : Int) < (T : Int) := by omega
    have q4n : ¬ xs.length < T := by omega
    have q4d : decide ((xs.length : Int) < (T : Int)) = false := decide_eq_false q4
    have q4e : decide (xs.length < T) = false := decide_eq_false q4n
    clear hg
    go_cut [36] from 30 (fun (v : Value) wx => v = .bool false ∧ wx = wc)
    case first =>
      go_wp2_with fail
      go_meet
      exact ⟨rfl, rfl⟩
    case rest =>
      obtain ⟨rfl, rfl⟩ := hcut
      clear q1 q1n q1d q1e q2 q2n q2d q2e q3 q3n q3d q3e q4 q4n q4d q4e
      have k2 : (hd : Int) ≤ (cap : Int) := by have := HG.out; have := HC.out; omega
      have k0 : ¬ (hd : Int) < 0 := by omega
      have HRW := Lib.hid (HR.out _ E2.out)
      go_upto_region 11 with (first
        | (go_at_call 48; refine HRW.out.mono ?_; rintro e w' ⟨rfl, rfl⟩)
        | fail)
      have hx := HX.out
      have m6 : (6 : Int) < (xs.length : Int) := by omega
      have m7 : (7 : Int) < (xs.length : Int) := by omega
      have W2 : IntKind.i64.wrap ((x6 : Int) * 256) = (x6 : Int) * 256 := w_i64 (by omega) (by omega)
      have W3 : wrap64 (x7 : Int) = (x7 : Int) := w_64n x7 (by omega)
      have W0 : wrap64 (x6 : Int) = (x6 : Int) := w_64n x6 (by omega)
      have W0b := W2
      have W4 : bits .or .i64 ((x6 : Int) * 256) (x7 : Int) = (FR : Int) := or_two x6 x7 FR hx.2.2.1 hx.2.2.2 HF.out
      have c6 := (E2.out.cell (p := ⟨b, off + 6, none⟩) hb).trans HC67.out.1
      have c7 := (E2.out.cell (p := ⟨b, off + 7, none⟩) hb).trans HC67.out.2
      clear hx
      obtain ⟨wq, hwq⟩ : ∃ z, wc = z := ⟨_, rfl⟩
      rw [hwq] at E2 R2 c6 c7 ⊢
      clear hwq
      go_cut [6] from 30 (fun (v : Value) wx => v = .int .i64 (FR : Nat) ∧ Below wq.heap.size wq wx)
      case first =>
        go_quiet (fail)
        go_wp2_with fail
        go_meet
        exact ⟨by first | rfl | (rw [W3, W4]) | (simp only [W0, W0b, W3, W4]), below_drewN (Below.refl _ _) nq⟩
      case rest =>
        obtain ⟨rfl, D⟩ := hcut
        have R3 := Lib.hid ((D.block w.heap.size (blk_lt R2.out)).trans R2.out)
        have E3 := Lib.hid (E2.out.trans (D.mono E2.out.size))
        clear D R2 E2 c6 c7 W0 W0b W2 W3 W4 m6 m7
        have hcap := HC.out
        have HN1W := Lib.hid (HN1.out _ E3.out)
        have HN2W := Lib.hid (HN2.out _ E3.out)
        have l12 : (12 : Int) ≤ (cap : Int) := by omega
        have l16 : (16 : Int) ≤ (cap : Int) := by omega
        have l20 : (20 : Int) ≤ (cap : Int) := by omega
        have n12 : ¬ cap = 12 := by omega
        have n16 : ¬ cap = 16 := by omega
        go_upto_region 14 with (first
          | (go_at_call 46; with_reducible refine HN1W.out.mono ?_; rintro e w' ⟨rfl, rfl⟩)
          | (go_at_call 46; with_reducible refine HN2W.out.mono ?_; rintro e w' ⟨rfl, rfl⟩)
          | fail)
        have hs := HS.out
        have hg := HG.out
        have hx := HX.out
        have p1 : (1 : Int) < (xs.length : Int) := by omega
        have p4 : (4 : Int) < (xs.length : Int) := by omega
        have p5 : (5 : Int) < (xs.length : Int) := by omega
        have p8 : (8 : Int) < (xs.length : Int) := by omega
        have p9 : (9 : Int) < (xs.length : Int) := by omega
        have k20 : (20 : Int) ≤ (hd : Int) := by omega
        have kT : (hd : Int) ≤ (T : Int) := by omega
        have kc : (T : Int) ≤ (cap : Int) := by have := HC.out; omega
        have WS : IntKind.u32.wrap (SR : Int) = (SR : Int) := IntWalk.u32_in _ (by omega)
        have WD : IntKind.u32.wrap (DS : Int) = (DS : Int) := IntWalk.u32_in _ (by omega)
        have W2 : IntKind.i64.wrap ((x4 : Int) * 256) = (x4 : Int) * 256 := w_i64 (by omega) (by omega)
        clear hs hg hx
        refine wp_region_held_drew (S := fun W' => (W'.cell? ⟨b, off + 1, none⟩ = some (.int .u8 (x1 : Nat)) ∧ W'.cell? ⟨b, off + 4, none⟩ = some (.int .u8 (x4 : Nat)) ∧ W'.cell? ⟨b, off + 5, none⟩ = some (.int .u8 (x5 : Nat)) ∧ W'.cell? ⟨b, off + 8, none⟩ = some (.int .u8 (x8 : Nat)) ∧ W'.cell? ⟨b, off + 9, none⟩ = some (.int .u8 (x9 : Nat)))) (by kernel_rfl) ?_ (fun hHeld => ?_)
        · have D := E3.out.drew
          have h := HCE.out
          exact ⟨(D.cell (p := ⟨b, off + 1, none⟩) hb).trans h.1, (D.cell (p := ⟨b, off + 4, none⟩) hb).trans h.2.1, (D.cell (p := ⟨b, off + 5, none⟩) hb).trans h.2.2.1, (D.cell (p := ⟨b, off + 8, none⟩) hb).trans h.2.2.2.1, (D.cell (p := ⟨b, off + 9, none⟩) hb).trans h.2.2.2.2⟩
        refine wpAnyH_take (i := 0) (oi := _) (v := ?_) rfl (by kernel_rfl) (by kernel_rfl) (by kernel_rfl) (fun _ _ _ h => h) (Or.inl ⟨by rfl, ?_⟩) (by assumption) ?_
        rotate_left
        · intro w5 hSw
          clear hSw
          go_simp
          all_goals with_reducible rfl
        (try simp only [List.getElem_toArray]); (try simp only [List.getElem_cons_succ]); (try simp only [List.getElem_cons_zero]); try simp only [Act.put, List.setIfInBounds_toArray, List.set_cons_zero, List.set_cons_succ]
        refine wpAnyH_take (i := 1) (oi := _) (v := ?_) rfl (by kernel_rfl) (by kernel_rfl) (by kernel_rfl) (fun _ _ _ h => h) (Or.inl ⟨by rfl, ?_⟩) (by assumption) ?_
        rotate_left
        · intro w5 hSw
          clear hSw
          go_simp
          all_goals with_reducible rfl
        (try simp only [List.getElem_toArray]); (try simp only [List.getElem_cons_succ]); (try simp only [List.getElem_cons_zero]); try simp only [Act.put, List.setIfInBounds_toArray, List.set_cons_zero, List.set_cons_succ]
        refine wpAnyH_take (i := 2) (oi := _) (v := ?_) rfl (by kernel_rfl) (by kernel_rfl) (by kernel_rfl) (fun _ _ _ h => h) (Or.inl ⟨by rfl, ?_⟩) (by assumption) ?_
        rotate_left
        · intro w5 hSw
          have t0 := hSw.1
          clear hSw
          go_simp
          all_goals with_reducible rfl
        (try simp only [List.getElem_toArray]); (try simp only [List.getElem_cons_succ]); (try simp only [List.getElem_cons_zero]); try simp only [Act.put, List.setIfInBounds_toArray, List.set_cons_zero, List.set_cons_succ]
        refine wpAnyH_take (i := 3) (oi := _) (v := ?_) rfl (by kernel_rfl) (by kernel_rfl) (by kernel_rfl) (fun _ _ _ h => h) (Or.inl ⟨by rfl, ?_⟩) (by assumption) ?_
        rotate_left
        · intro w5 hSw
          clear hSw
          go_simp
          all_goals with_reducible rfl
        (try simp only [List.getElem_toArray]); (try simp only [List.getElem_cons_succ]); (try simp only [List.getElem_cons_zero]); try simp only [Act.put, List.setIfInBounds_toArray, List.set_cons_zero, List.set_cons_succ]
        refine wpAnyH_take (i := 4) (oi := _) (v := ?_) rfl (by kernel_rfl) (by kernel_rfl) (by kernel_rfl) (fun _ _ _ h => h) (Or.inl ⟨by rfl, ?_⟩) (by assumption) ?_
        rotate_left
        · intro w5 hSw
          clear hSw
          go_simp
          all_goals with_reducible rfl
        (try simp only [List.getElem_toArray]); (try simp only [List.getElem_cons_succ]); (try simp only [List.getElem_cons_zero]); try simp only [Act.put, List.setIfInBounds_toArray, List.set_cons_zero, List.set_cons_succ]
        refine wpAnyH_take (i := 5) (oi := _) (v := ?_) rfl (by kernel_rfl) (by kernel_rfl) (by kernel_rfl) (fun _ _ _ h => h) (Or.inl ⟨by rfl, ?_⟩) (by assumption) ?_
        rotate_left
        · intro w5 hSw
          have t0 := hSw.2.1
          clear hSw
          go_simp
          all_goals with_reducible rfl
        (try simp only [List.getElem_toArray]); (try simp only [List.getElem_cons_succ]); (try simp only [List.getElem_cons_zero]); try simp only [Act.put, List.setIfInBounds_toArray, List.set_cons_zero, List.set_cons_succ]
        refine wpAnyH_take (i := 6) (oi := _) (v := ?_) rfl (by kernel_rfl) (by kernel_rfl) (by kernel_rfl) (fun _ _ _ h => h) (Or.inl ⟨by rfl, ?_⟩) (by assumption) ?_
        rotate_left
        · intro w5 hSw
          clear hSw
          go_simp
          all_goals with_reducible rfl
        (try simp only [List.getElem_toArray]); (try simp only [List.getElem_cons_succ]); (try simp only [List.getElem_cons_zero]); try simp only [Act.put, List.setIfInBounds_toArray, List.set_cons_zero, List.set_cons_succ]
        refine wpAnyH_take (i := 7) (oi := _) (v := ?_) rfl (by kernel_rfl) (by kernel_rfl) (by kernel_rfl) (fun _ _ _ h => h) (Or.inl ⟨by rfl, ?_⟩) (by assumption) ?_
        rotate_left
        · intro w5 hSw
          clear hSw
          go_simp
          all_goals with_reducible rfl
        (try simp only [List.getElem_toArray]); (try simp only [List.getElem_cons_succ]); (try simp only [List.getElem_cons_zero]); try simp only [Act.put, List.setIfInBounds_toArray, List.set_cons_zero, List.set_cons_succ]
        refine wpAnyH_take (i := 8) (oi := _) (v := ?_) rfl (by kernel_rfl) (by kernel_rfl) (by kernel_rfl) (fun _ _ _ h => h) (Or.inl ⟨by rfl, ?_⟩) (by assumption) ?_
        rotate_left
        · intro w5 hSw
          clear hSw
          go_simp
          all_goals with_reducible rfl
        (try simp only [List.getElem_toArray]); (try simp only [List.getElem_cons_succ]); (try simp only [List.getElem_cons_zero]); try simp only [Act.put, List.setIfInBounds_toArray, List.set_cons_zero, List.set_cons_succ]
        refine wpAnyH_take (i := 9) (oi := _) (v := ?_) rfl (by kernel_rfl) (by kernel_rfl) (by kernel_rfl) (fun _ _ _ h => h) (Or.inl ⟨by rfl, ?_⟩) (by assumption) ?_
        rotate_left
        · intro w5 hSw
          clear hSw
          go_simp
          all_goals with_reducible rfl
        (try simp only [List.getElem_toArray]); (try simp only [List.getElem_cons_succ]); (try simp only [List.getElem_cons_zero]); try simp only [Act.put, List.setIfInBounds_toArray, List.set_cons_zero, List.set_cons_succ]
        refine wpAnyH_take (i := 10) (oi := _) (v := ?_) rfl (by kernel_rfl) (by kernel_rfl) (by kernel_rfl) (fun _ _ _ h => h) (Or.inl ⟨by rfl, ?_⟩) (by assumption) ?_
        rotate_left
        · intro w5 hSw
          have t0 := hSw.2.2.1
          clear hSw
          go_simp
          all_goals with_reducible rfl
        (try simp only [List.getElem_toArray]); (try simp only [List.getElem_cons_succ]); (try simp only [List.getElem_cons_zero]); try simp only [Act.put, List.setIfInBounds_toArray, List.set_cons_zero, List.set_cons_succ]
        refine wpAnyH_take (i := 11) (oi := _) (v := ?_) rfl (by kernel_rfl) (by kernel_rfl) (by kernel_rfl) (fun _ _ _ h => h) (Or.inl ⟨by rfl, ?_⟩) (by assumption) ?_
        rotate_left
        · intro w5 hSw
          clear hSw
          go_simp
          all_goals with_reducible rfl
        (try simp only [List.getElem_toArray]); (try simp only [List.getElem_cons_succ]); (try simp only [List.getElem_cons_zero]); try simp only [Act.put, List.setIfInBounds_toArray, List.set_cons_zero, List.set_cons_succ]
        refine wpAnyH_take (i := 12) (oi := _) (v := ?_) rfl (by kernel_rfl) (by kernel_rfl) (by kernel_rfl) (fun _ _ _ h => h) (Or.inl ⟨by rfl, ?_⟩) (by assumption) ?_
        rotate_left
        · intro w5 hSw
          clear hSw
          go_simp
          all_goals with_reducible rfl
        (try simp only [List.getElem_toArray]); (try simp only [List.getElem_cons_succ]); (try simp only [List.getElem_cons_zero]); try simp only [Act.put, List.setIfInBounds_toArray, List.set_cons_zero, List.set_cons_succ]
        refine wpAnyH_take (i := 13) (oi := _) (v := ?_) rfl (by kernel_rfl) (by kernel_rfl) (by kernel_rfl) (fun _ _ _ h => h) (Or.inl ⟨by rfl, ?_⟩) (by assumption) ?_
        rotate_left
        · intro w5 hSw
          clear hSw
          go_simp
          all_goals with_reducible rfl
        (try simp only [List.getElem_toArray]); (try simp only [List.getElem_cons_succ]); (try simp only [List.getElem_cons_zero]); try simp only [Act.put, List.setIfInBounds_toArray, List.set_cons_zero, List.set_cons_succ]
        refine wpAnyH_take (i := 14) (oi := _) (v := ?_) rfl (by kernel_rfl) (by kernel_rfl) (by kernel_rfl) (fun _ _ _ h => h) (Or.inl ⟨by rfl, ?_⟩) (by assumption) ?_
        rotate_left
        · intro w5 hSw
          clear hSw
          go_simp
          all_goals with_reducible rfl
        (try simp only [List.getElem_toArray]); (try simp only [List.getElem_cons_succ]); (try simp only [List.getElem_cons_zero]); try simp only [Act.put, List.setIfInBounds_toArray, List.set_cons_zero, List.set_cons_succ]
        refine wpAnyH_take (i := 15) (oi := _) (v := ?_) rfl (by kernel_rfl) (by kernel_rfl) (by kernel_rfl) (fun _ _ _ h => h) (Or.inl ⟨by rfl, ?_⟩) (by assumption) ?_
        rotate_left
        · intro w5 hSw
          clear hSw
          go_simp
          all_goals with_reducible rfl
        (try simp only [List.getElem_toArray]); (try simp only [List.getElem_cons_succ]); (try simp only [List.getElem_cons_zero]); try simp only [Act.put, List.setIfInBounds_toArray, List.set_cons_zero, List.set_cons_succ]
        refine wpAnyH_take (i := 16) (oi := _) (v := ?_) rfl (by kernel_rfl) (by kernel_rfl) (by kernel_rfl) (fun _ _ _ h => h) (Or.inl ⟨by rfl, ?_⟩) (by assumption) ?_
        rotate_left
        · intro w5 hSw
          clear hSw
          go_simp
          all_goals with_reducible rfl
        (try simp only [List.getElem_toArray]); (try simp only [List.getElem_cons_succ]); (try simp only [List.getElem_cons_zero]); try simp only [Act.put, List.setIfInBounds_toArray, List.set_cons_zero, List.set_cons_succ]
        refine wpAnyH_take (i := 17) (oi := _) (v := ?_) rfl (by kernel_rfl) (by kernel_rfl) (by kernel_rfl) (fun _ _ _ h => h) (Or.inl ⟨by rfl, ?_⟩) (by assumption) ?_
        rotate_left
        · intro w5 hSw
          clear hSw
          go_simp
          all_goals with_reducible rfl
        (try simp only [List.getElem_toArray]); (try simp only [List.getElem_cons_succ]); (try simp only [List.getElem_cons_zero]); try simp only [Act.put, List.setIfInBounds_toArray, List.set_cons_zero, List.set_cons_succ]
        refine wpAnyH_take (i := 18) (oi := _) (v := ?_) rfl (by kernel_rfl) (by kernel_rfl) (by kernel_rfl) (fun _ _ _ h => h) (Or.inl ⟨by rfl, ?_⟩) (by assumption) ?_
        rotate_left
        · intro w5 hSw
          clear hSw
          go_simp
          all_goals with_reducible rfl
        (try simp only [List.getElem_toArray]); (try simp only [List.getElem_cons_succ]); (try simp only [List.getElem_cons_zero]); try simp only [Act.put, List.setIfInBounds_toArray, List.set_cons_zero, List.set_cons_succ]
        refine wpAnyH_take (i := 19) (oi := _) (v := ?_) rfl (by kernel_rfl) (by kernel_rfl) (by kernel_rfl) (fun _ _ _ h => h) (Or.inl ⟨by rfl, ?_⟩) (by assumption) ?_
        rotate_left
        · intro w5 hSw
          clear hSw
          go_simp
          all_goals with_reducible rfl
        (try simp only [List.getElem_toArray]); (try simp only [List.getElem_cons_succ]); (try simp only [List.getElem_cons_zero]); try simp only [Act.put, List.setIfInBounds_toArray, List.set_cons_zero, List.set_cons_succ]
        refine wpAnyH_take (i := 20) (oi := _) (v := ?_) rfl (by kernel_rfl) (by kernel_rfl) (by kernel_rfl) (fun _ _ _ h => h) (Or.inl ⟨by rfl, ?_⟩) (by assumption) ?_
        rotate_left
        · intro w5 hSw
          clear hSw
          go_simp
          all_goals with_reducible rfl
        (try simp only [List.getElem_toArray]); (try simp only [List.getElem_cons_succ]); (try simp only [List.getElem_cons_zero]); try simp only [Act.put, List.setIfInBounds_toArray, List.set_cons_zero, List.set_cons_succ]
        refine wpAnyH_take (i := 21) (oi := _) (v := ?_) rfl (by kernel_rfl) (by kernel_rfl) (by kernel_rfl) (fun _ _ _ h => h) (Or.inl ⟨by rfl, ?_⟩) (by assumption) ?_
        rotate_left
        · intro w5 hSw
          clear hSw
          go_simp
          all_goals with_reducible rfl
        (try simp only [List.getElem_toArray]); (try simp only [List.getElem_cons_succ]); (try simp only [List.getElem_cons_zero]); try simp only [Act.put, List.setIfInBounds_toArray, List.set_cons_zero, List.set_cons_succ]
        refine wpAnyH_take (i := 22) (oi := _) (v := ?_) rfl (by kernel_rfl) (by kernel_rfl) (by kernel_rfl) (fun _ _ _ h => h) (Or.inl ⟨by rfl, ?_⟩) (by assumption) ?_
        rotate_left
        · intro w5 hSw
          clear hSw
          go_simp
          all_goals with_reducible rfl
        (try simp only [List.getElem_toArray]); (try simp only [List.getElem_cons_succ]); (try simp only [List.getElem_cons_zero]); try simp only [Act.put, List.setIfInBounds_toArray, List.set_cons_zero, List.set_cons_succ]
        refine wpAnyH_take (i := 23) (oi := _) (v := ?_) rfl (by kernel_rfl) (by kernel_rfl) (by kernel_rfl) (fun _ _ _ h => h) (Or.inl ⟨by rfl, ?_⟩) (by assumption) ?_
        rotate_left
        · intro w5 hSw
          clear hSw
          go_simp
          all_goals with_reducible rfl
        (try simp only [List.getElem_toArray]); (try simp only [List.getElem_cons_succ]); (try simp only [List.getElem_cons_zero]); try simp only [Act.put, List.setIfInBounds_toArray, List.set_cons_zero, List.set_cons_succ]
        refine wpAnyH_take (i := 24) (oi := _) (v := ?_) rfl (by kernel_rfl) (by kernel_rfl) (by kernel_rfl) (fun _ _ _ h => h) (Or.inl ⟨by rfl, ?_⟩) (by assumption) ?_
        rotate_left
        · intro w5 hSw
          clear hSw
          go_simp
          all_goals with_reducible rfl
        (try simp only [List.getElem_toArray]); (try simp only [List.getElem_cons_succ]); (try simp only [List.getElem_cons_zero]); try simp only [Act.put, List.setIfInBounds_toArray, List.set_cons_zero, List.set_cons_succ]
        refine wpAnyH_take (i := 25) (oi := _) (v := ?_) rfl (by kernel_rfl) (by kernel_rfl) (by kernel_rfl) (fun _ _ _ h => h) (Or.inl ⟨by rfl, ?_⟩) (by assumption) ?_
        rotate_left
        · intro w5 hSw
          clear hSw
          go_simp
          all_goals with_reducible rfl
        (try simp only [List.getElem_toArray]); (try simp only [List.getElem_cons_succ]); (try simp only [List.getElem_cons_zero]); try simp only [Act.put, List.setIfInBounds_toArray, List.set_cons_zero, List.set_cons_succ]
        refine wpAnyH_take (i := 26) (oi := _) (v := ?_) rfl (by kernel_rfl) (by kernel_rfl) (by kernel_rfl) (fun _ _ _ h => h) (Or.inl ⟨by rfl, ?_⟩) (by assumption) ?_
        rotate_left
        · intro w5 hSw
          clear hSw
          go_simp
          all_goals with_reducible rfl
        (try simp only [List.getElem_toArray]); (try simp only [List.getElem_cons_succ]); (try simp only [List.getElem_cons_zero]); try simp only [Act.put, List.setIfInBounds_toArray, List.set_cons_zero, List.set_cons_succ]
        refine wpAnyH_take (i := 27) (oi := _) (v := ?_) rfl (by kernel_rfl) (by kernel_rfl) (by kernel_rfl) (fun _ _ _ h => h) (Or.inl ⟨by rfl, ?_⟩) (by assumption) ?_
        rotate_left
        · intro w5 hSw
          have t0 := hSw.2.2.2.1
          clear hSw
          go_simp
          all_goals with_reducible rfl
        (try simp only [List.getElem_toArray]); (try simp only [List.getElem_cons_succ]); (try simp only [List.getElem_cons_zero]); try simp only [Act.put, List.setIfInBounds_toArray, List.set_cons_zero, List.set_cons_succ]
        refine wpAnyH_take (i := 28) (oi := _) (v := ?_) rfl (by kernel_rfl) (by kernel_rfl) (by kernel_rfl) (fun _ _ _ h => h) (Or.inl ⟨by rfl, ?_⟩) (by assumption) ?_
        rotate_left
        · intro w5 hSw
          clear hSw
          go_simp
          all_goals with_reducible rfl
        (try simp only [List.getElem_toArray]); (try simp only [List.getElem_cons_succ]); (try simp only [List.getElem_cons_zero]); try simp only [Act.put, List.setIfInBounds_toArray, List.set_cons_zero, List.set_cons_succ]
        refine wpAnyH_take (i := 29) (oi := _) (v := ?_) rfl (by kernel_rfl) (by kernel_rfl) (by kernel_rfl) (fun _ _ _ h => h) (Or.inl ⟨by rfl, ?_⟩) (by assumption) ?_
        rotate_left
        · intro w5 hSw
          clear hSw
          go_simp
          all_goals with_reducible rfl
        (try simp only [List.getElem_toArray]); (try simp only [List.getElem_cons_succ]); (try simp only [List.getElem_cons_zero]); try simp only [Act.put, List.setIfInBounds_toArray, List.set_cons_zero, List.set_cons_succ]
        refine wpAnyH_take (i := 30) (oi := _) (v := ?_) rfl (by kernel_rfl) (by kernel_rfl) (by kernel_rfl) (fun _ _ _ h => h) (Or.inl ⟨by rfl, ?_⟩) (by assumption) ?_
        rotate_left
        · intro w5 hSw
          have t0 := hSw.2.2.2.2
          clear hSw
          go_simp
          all_goals with_reducible rfl
        (try simp only [List.getElem_toArray]); (try simp only [List.getElem_cons_succ]); (try simp only [List.getElem_cons_zero]); try simp only [Act.put, List.setIfInBounds_toArray, List.set_cons_zero, List.set_cons_succ]
        refine wpAnyH_take (i := 31) (oi := _) (v := ?_) rfl (by kernel_rfl) (by kernel_rfl) (by kernel_rfl) (fun _ _ _ h => h) (Or.inl ⟨by rfl, ?_⟩) (by assumption) ?_
        rotate_left
        · intro w5 hSw
          clear hSw
          go_simp
          all_goals with_reducible rfl
        (try simp only [List.getElem_toArray]); (try simp only [List.getElem_cons_succ]); (try simp only [List.getElem_cons_zero]); try simp only [Act.put, List.setIfInBounds_toArray, List.set_cons_zero, List.set_cons_succ]
        refine wpAnyH_take (i := 32) (oi := _) (v := ?_) rfl (by kernel_rfl) (by kernel_rfl) (by kernel_rfl) (fun _ _ _ h => h) (Or.inl ⟨by rfl, ?_⟩) (by assumption) ?_
        rotate_left
        · intro w5 hSw
          clear hSw
          go_simp
          all_goals with_reducible rfl
        (try simp only [List.getElem_toArray]); (try simp only [List.getElem_cons_succ]); (try simp only [List.getElem_cons_zero]); try simp only [Act.put, List.setIfInBounds_toArray, List.set_cons_zero, List.set_cons_succ]
        refine wpAnyH_take (i := 33) (oi := _) (v := ?_) rfl (by kernel_rfl) (by kernel_rfl) (by kernel_rfl) (fun _ _ _ h => h) (Or.inl ⟨by rfl, ?_⟩) (by assumption) ?_
        rotate_left
        · intro w5 hSw
          clear hSw
          go_simp
          all_goals with_reducible rfl
        (try simp only [List.getElem_toArray]); (try simp only [List.getElem_cons_succ]); (try simp only [List.getElem_cons_zero]); try simp only [Act.put, List.setIfInBounds_toArray, List.set_cons_zero, List.set_cons_succ]
        refine wpAnyH_take (i := 34) (oi := _) (v := ?_) rfl (by kernel_rfl) (by kernel_rfl) (by kernel_rfl) (fun _ _ _ h => h) (Or.inl ⟨by rfl, ?_⟩) (by assumption) ?_
        rotate_left
        · intro w5 hSw
          clear hSw
          go_simp
          all_goals with_reducible rfl
        (try simp only [List.getElem_toArray]); (try simp only [List.getElem_cons_succ]); (try simp only [List.getElem_cons_zero]); try simp only [Act.put, List.setIfInBounds_toArray, List.set_cons_zero, List.set_cons_succ]
        refine wpAnyH_take (i := 35) (oi := _) (v := ?_) rfl (by kernel_rfl) (by kernel_rfl) (by kernel_rfl) (fun _ _ _ h => h) (Or.inl ⟨by rfl, ?_⟩) (by assumption) ?_
        rotate_left
        · intro w5 hSw
          clear hSw
          go_simp
          all_goals with_reducible rfl
        (try simp only [List.getElem_toArray]); (try simp only [List.getElem_cons_succ]); (try simp only [List.getElem_cons_zero]); try simp only [Act.put, List.setIfInBounds_toArray, List.set_cons_zero, List.set_cons_succ]
        refine wpAnyH_take (i := 36) (oi := _) (v := ?_) rfl (by kernel_rfl) (by kernel_rfl) (by kernel_rfl) (fun _ _ _ h => h) (Or.inl ⟨by rfl, ?_⟩) (by assumption) ?_
        rotate_left
        · intro w5 hSw
          clear hSw
          go_simp
          all_goals with_reducible rfl
        (try simp only [List.getElem_toArray]); (try simp only [List.getElem_cons_succ]); (try simp only [List.getElem_cons_zero]); try simp only [Act.put, List.setIfInBounds_toArray, List.set_cons_zero, List.set_cons_succ]
        refine wpAnyH_take (i := 37) (oi := _) (v := ?_) rfl (by kernel_rfl) (by kernel_rfl) (by kernel_rfl) (fun _ _ _ h => h) (Or.inl ⟨by rfl, ?_⟩) (by assumption) ?_
        rotate_left
        · intro w5 hSw
          clear hSw
          go_simp
          all_goals with_reducible rfl
        (try simp only [List.getElem_toArray]); (try simp only [List.getElem_cons_succ]); (try simp only [List.getElem_cons_zero]); try simp only [Act.put, List.setIfInBounds_toArray, List.set_cons_zero, List.set_cons_succ]
        obtain ⟨OAd, hOA⟩ : ∃ z, (if cap = 20 then some (⟨b, off, none⟩ : Addr) else some ⟨b, off + 20, none⟩) = z := ⟨_, rfl⟩
        rw [hOA]
        have HOA := Lib.hid hOA
        clear hOA
        refine wpAnyH_take (i := 39) (oi := _) (v := ?_) rfl (by kernel_rfl) (by kernel_rfl) (by kernel_rfl) (fun _ _ _ h => h) (Or.inl ⟨by rfl, ?_⟩) (by assumption) ?_
        rotate_left
        · intro w5 hSw
          clear hSw
          go_simp
          all_goals with_reducible rfl
        (try simp only [List.getElem_toArray]); (try simp only [List.getElem_cons_succ]); (try simp only [List.getElem_cons_zero]); try simp only [Act.put, List.setIfInBounds_toArray, List.set_cons_zero, List.set_cons_succ]
        refine wpAnyH_take (i := 40) (oi := _) (v := ?_) rfl (by kernel_rfl) (by kernel_rfl) (by kernel_rfl) (fun _ _ _ h => h) (Or.inl ⟨by rfl, ?_⟩) (by assumption) ?_
        rotate_left
        · intro w5 hSw
          clear hSw
          go_simp
          all_goals with_reducible rfl
        (try simp only [List.getElem_toArray]); (try simp only [List.getElem_cons_succ]); (try simp only [List.getElem_cons_zero]); try simp only [Act.put, List.setIfInBounds_toArray, List.set_cons_zero, List.set_cons_succ]
        refine wpAnyH_take (i := 41) (oi := _) (v := ?_) rfl (by kernel_rfl) (by kernel_rfl) (by kernel_rfl) (fun _ _ _ h => h) (Or.inl ⟨by rfl, ?_⟩) (by assumption) ?_
        rotate_left
        · intro w5 hSw
          clear hSw
          go_simp
          all_goals with_reducible rfl
        (try simp only [List.getElem_toArray]); (try simp only [List.getElem_cons_succ]); (try simp only [List.getElem_cons_zero]); try simp only [Act.put, List.setIfInBounds_toArray, List.set_cons_zero, List.set_cons_succ]
        refine wpAnyH_take (i := 42) (oi := _) (v := ?_) rfl (by kernel_rfl) (by kernel_rfl) (by kernel_rfl) (fun _ _ _ h => h) (Or.inl ⟨by rfl, ?_⟩) (by assumption) ?_
        rotate_left
        · intro w5 hSw
          clear hSw
          go_simp
          all_goals with_reducible rfl
        (try simp only [List.getElem_toArray]); (try simp only [List.getElem_cons_succ]); (try simp only [List.getElem_cons_zero]); try simp only [Act.put, List.setIfInBounds_toArray, List.set_cons_zero, List.set_cons_succ]
        obtain ⟨DAd, hDA⟩ : ∃ z, (if cap = hd then some (⟨b, off, none⟩ : Addr) else some ⟨b, off + hd, none⟩) = z := ⟨_, rfl⟩
        rw [hDA]
        have HDA := Lib.hid hDA
        clear hDA
        have R3d : Hid (wc.drew.heap[w.heap.size]? = some (.cells #[.int .u8 0, .int .u16 0, .bool false, .bool false, .int .i64 0, .int .u8 0, .int .u8 0, .int .u32 0, .int .u32 0, .slice none 0 0, .slice none 0 0] 72 (0, 0))) := Lib.hid R3.out
        have E3d := Lib.hid E3.out.drew
        have HO1 := Lib.hid (copied_n OAd os (hd - 20) (cap - 20) wc.drew (by rw [← HOA.out]; exact HO.out _ E3d.out) (by rw [HOL.out]) (by have := HG.out; have := HT5.out; rw [HOL.out]; omega) (fun e => by rw [← HOA.out] at e; split at e <;> cases e))
        refine wpAnyH_ready (rs := [38]) (by kernel_rfl) (by simp) ?_
        refine (AllReadyH.cons (o := _) rfl (fun K hK => ?_) AllReadyH.nil)
        · (try simp only [List.getElem_toArray]); (try simp only [List.getElem_cons_succ]); (try simp only [List.getElem_cons_zero])
          go_simp
          go_at_call 47
          with_reducible refine HO1.out.mono ?_
          rintro e V4 ⟨oa, oc, rfl, O, b4⟩
          try dsimp only
          have E4 := Lib.hid (E3d.out.trans (b4.mono E3d.out.size))
          have R4 := Lib.hid ((b4.block w.heap.size (blk_lt R3d.out)).trans R3d.out)
          have B4 := Lib.hid b4
          have z4 := Nat.lt_of_lt_of_le (blk_lt R3d.out) b4.size
          clear O b4
          refine hK.out _ _ ?_ (fun hHeld => ?_)
          · exact ⟨(B4.out.cell (p := ⟨b, off + 1, none⟩) (Nat.lt_of_lt_of_le hb (show w.heap.size ≤ wc.drew.heap.size from E3.out.size))).trans hHeld.1, (B4.out.cell (p := ⟨b, off + 4, none⟩) (Nat.lt_of_lt_of_le hb (show w.heap.size ≤ wc.drew.heap.size from E3.out.size))).trans hHeld.2.1, (B4.out.cell (p := ⟨b, off + 5, none⟩) (Nat.lt_of_lt_of_le hb (show w.heap.size ≤ wc.drew.heap.size from E3.out.size))).trans hHeld.2.2.1, (B4.out.cell (p := ⟨b, off + 8, none⟩) (Nat.lt_of_lt_of_le hb (show w.heap.size ≤ wc.drew.heap.size from E3.out.size))).trans hHeld.2.2.2.1, (B4.out.cell (p := ⟨b, off + 9, none⟩) (Nat.lt_of_lt_of_le hb (show w.heap.size ≤ wc.drew.heap.size from E3.out.size))).trans hHeld.2.2.2.2⟩
          clear hK K
          (try simp only [List.getElem_toArray]); (try simp only [List.getElem_cons_succ]); (try simp only [List.getElem_cons_zero]); try simp only [Act.put, List.setIfInBounds_toArray, List.set_cons_zero, List.set_cons_succ]
          have HD1 := Lib.hid (copied_n DAd ds (T - hd) (cap - hd) V4 (by rw [← HDA.out]; exact HD.out _ E4.out) (by rw [HDL.out]) (by have := HG.out; have := HT5.out; rw [HDL.out]; omega) (fun e => by rw [← HDA.out] at e; split at e <;> cases e))
          clear B4 HO1
          refine wpAnyH_ready (rs := [43]) (by kernel_rfl) (by simp) ?_
          refine (AllReadyH.cons (o := _) rfl (fun K hK => ?_) AllReadyH.nil)
          · (try simp only [List.getElem_toArray]); (try simp only [List.getElem_cons_succ]); (try simp only [List.getElem_cons_zero])
            go_simp
            go_at_call 47
            with_reducible refine HD1.out.mono ?_
            rintro e V5 ⟨da, dc, rfl, O, b5⟩
            try dsimp only
            have E5 := Lib.hid (E4.out.trans (b5.mono E4.out.size))
            have R5 := Lib.hid ((b5.block w.heap.size (blk_lt R4.out)).trans R4.out)
            have B5 := Lib.hid b5
            have O5 := Lib.hid O
            clear O b5
            refine hK.out _ _ ?_ (fun hHeld => ?_)
            · exact ⟨(B5.out.cell (p := ⟨b, off + 1, none⟩) (Nat.lt_of_lt_of_le hb E4.out.size)).trans hHeld.1, (B5.out.cell (p := ⟨b, off + 4, none⟩) (Nat.lt_of_lt_of_le hb E4.out.size)).trans hHeld.2.1, (B5.out.cell (p := ⟨b, off + 5, none⟩) (Nat.lt_of_lt_of_le hb E4.out.size)).trans hHeld.2.2.1, (B5.out.cell (p := ⟨b, off + 8, none⟩) (Nat.lt_of_lt_of_le hb E4.out.size)).trans hHeld.2.2.2.1, (B5.out.cell (p := ⟨b, off + 9, none⟩) (Nat.lt_of_lt_of_le hb E4.out.size)).trans hHeld.2.2.2.2⟩
            clear hK K
            (try simp only [List.getElem_toArray]); (try simp only [List.getElem_cons_succ]); (try simp only [List.getElem_cons_zero]); try simp only [Act.put, List.setIfInBounds_toArray, List.set_cons_zero, List.set_cons_succ]
            clear HD1
            refine wpAnyH_take (i := 44) (oi := _) (v := ?_) rfl (by kernel_rfl) (by kernel_rfl) (by kernel_rfl) (fun _ _ _ h => h) (Or.inl ⟨by rfl, ?_⟩) (by assumption) ?_
            rotate_left
            · intro w5 hSw
              clear hSw
              go_simp
              all_goals with_reducible rfl
            (try simp only [List.getElem_toArray]); (try simp only [List.getElem_cons_succ]); (try simp only [List.getElem_cons_zero]); try simp only [Act.put, List.setIfInBounds_toArray, List.set_cons_zero, List.set_cons_succ]
            refine wpAnyH_ready (rs := [45]) (by kernel_rfl) (by simp) ?_
            refine (AllReadyH.cons (o := _) rfl (fun K hK => ?_) AllReadyH.nil)
            · (try simp only [List.getElem_toArray]); (try simp only [List.getElem_cons_succ]); (try simp only [List.getElem_cons_zero])
              refine step_store_blk (a := ⟨_, _⟩) rowIP (t := 72) (w := V5) ?_ (.tmp 2) (.tmp 124) ?_ w.heap.size #[.int .u8 0, .int .u16 0, .bool false, .bool false, .int .i64 0, .int .u8 0, .int .u8 0, .int .u32 0, .int .u32 0, .slice none 0 0, .slice none 0 0] #[.int .u8 (x1 : Nat), .int .u16 (IntKind.u16.wrap (bits .or .i64 (IntKind.i64.wrap (IntKind.i64.wrap (x4 : Int) * 256)) (IntKind.i64.wrap (x5 : Int)))), .bool (bits .and .i64 ((FR : Int) / 16384) 1 == 1), .bool (bits .and .i64 ((FR : Int) / 8192) 1 == 1), .int .i64 (IntKind.i64.wrap (bits .and .i64 (FR : Int) 8191 * 8)), .int .u8 (x8 : Nat), .int .u8 (x9 : Nat), .int .u32 (SR : Nat), .int .u32 (DS : Nat), .slice oa (hd - 20) oc, .slice da (T - hd) dc] ?_ ?_ R5.out rfl rfl (by simp [Value.oneCell']) ?_
              · rfl
              · rfl
              · rfl
              · rfl
              intro V6 hb6 hg6
              have K6 := Lib.hid hb6
              have G6 := Lib.hid hg6
              clear hb6 hg6
              refine hK.out _ _ ?_ (fun hHeld => ?_)
              · have E6 := Below.grown E5.out G6.out E5.out.size (fun k e => by cases e; exact Nat.le_refl _)
                have h := HCE.out
                exact ⟨(E6.cell (p := ⟨b, off + 1, none⟩) hb).trans h.1, (E6.cell (p := ⟨b, off + 4, none⟩) hb).trans h.2.1, (E6.cell (p := ⟨b, off + 5, none⟩) hb).trans h.2.2.1, (E6.cell (p := ⟨b, off + 8, none⟩) hb).trans h.2.2.2.1, (E6.cell (p := ⟨b, off + 9, none⟩) hb).trans h.2.2.2.2⟩
              clear hK K
              try simp only [Act.put]
              refine wpAnyH_take (i := 46) (oi := _) (v := ?_) rfl (by kernel_rfl) (by kernel_rfl) (by kernel_rfl) (fun _ _ _ h => h) (Or.inl ⟨by rfl, ?_⟩) (by assumption) ?_
              rotate_left
              · intro w5 hSw
                clear hSw
                go_simp
                all_goals with_reducible rfl
              (try simp only [List.getElem_toArray]); (try simp only [List.getElem_cons_succ]); (try simp only [List.getElem_cons_zero]); try simp only [Act.put, List.setIfInBounds_toArray, List.set_cons_zero, List.set_cons_succ]
              refine wpAnyH_done (by kernel_rfl) ?_ _
              have E6 := Below.grown E5.out G6.out E5.out.size (fun k e => by cases e; exact Nat.le_refl _)
              have hfr : FR < 65536 := by have := HX.out; have := HF.out; omega
              have O6 : OwnSl w.heap.size da ds dc V6 := (O5.out.kept G6.out z4).mono (Nat.le_of_lt z4)
              go_wp2
              refine bodyPost_ret (results_ip8 rfl _ _ w.heap.size _ _ rfl rfl K6.out rfl) rfl ?_
              exact ⟨(IntKind.u16.wrap (bits .or .i64 (IntKind.i64.wrap (IntKind.i64.wrap (x4 : Int) * 256)) (IntKind.i64.wrap (x5 : Int)))), (bits .and .i64 ((FR : Int) / 16384) 1 == 1), oa, oc, da, dc, (by rw [← mf_v FR hfr, ← off_v FR hfr, HOL.out, HDL.out] <;> rfl), O6, E6⟩
end Go.Proofs.Ytokfadlgiimaoaa
