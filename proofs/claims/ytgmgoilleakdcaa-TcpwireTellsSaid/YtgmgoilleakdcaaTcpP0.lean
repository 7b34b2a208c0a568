/- What tcpwire.Parse tells of octets that are no segment, ahead of their options. -/
import Derived.Test.YtgmgoilleakdcaaTcpWk
import Derived.Test.YtgmgoilleakdcaaGTcpAt
namespace Go.Proofs.Ytgmgoilleakdcaa
open Go.RowKit

/-- No segment. -/
def tcpZ : Array Value := #[.int .u16 0, .int .u16 0, .int .u32 0, .int .u32 0, .int .u8 0, .int .u16 0, .int .u16 0, .int .i64 0, .bool false, .int .i64 0, .bool false, .slice none 0 0, .bool false, .int .u32 0, .int .u32 0, .slice none 0 0]

set_option maxRecDepth 100000 in
set_option maxHeartbeats 1000000 in
theorem tcpP_short (a : Option Addr) (xs : List Nat) (cap src dst : Nat) (w : World) (hl : xs.length < 20) :
    Calls Try.prog 10 #[.slice a xs.length cap, .int .u32 src, .int .u32 dst] w fun e w' => e = .returned (.tuple #[.agg tcpZ, .int .i64 8]) ∧ Below w.heap.size w w' := by
  have bw := (Below.refl _ w).alloc (Nat.le_refl _) (.cells tcpZ 27)
  have K := Lib.hid (blk_new w (.cells tcpZ 27))
  have Q := Lib.hid bw
  clear bw
  unfold tcpZ at K Q
  go_enter Try.func10, Try.ntmps10
  go_wp2_with ((with_reducible show wpList _ _ _ _ _ _); refine wpList_store_tcp rfl (.tmp 6) (.tmp 15) rfl w.heap.size _ _ rfl rfl K.out rfl rfl (by simp [Value.oneCell']) ?_; intro V2 hs2 hg2; have K2 := Lib.hid hs2; have Q2 := Lib.hid (Q.out.grown hg2 Q.out.size (fun j e => by cases e; exact Nat.le_refl _)); clear hs2 hg2)
  exact bodyPost_ret (results_tcp rfl _ _ w.heap.size _ _ rfl rfl K2.out rfl) rfl ⟨rfl, Q2.out⟩

set_option maxRecDepth 100000 in
set_option maxHeartbeats 1000000 in
theorem tcpP_long (a : Option Addr) (xs : List Nat) (cap src dst : Nat) (w : World) (hl : 65535 < xs.length) :
    Calls Try.prog 10 #[.slice a xs.length cap, .int .u32 src, .int .u32 dst] w fun e w' => e = .returned (.tuple #[.agg tcpZ, .int .i64 5]) ∧ Below w.heap.size w w' := by
  have i1 : ¬ (xs.length : Int) < 20 := by omega
  have i2 : (65535 : Int) < (xs.length : Int) := by omega
  clear hl
  have bw := (Below.refl _ w).alloc (Nat.le_refl _) (.cells tcpZ 27)
  have K := Lib.hid (blk_new w (.cells tcpZ 27))
  have Q := Lib.hid bw
  clear bw
  unfold tcpZ at K Q
  go_enter Try.func10, Try.ntmps10
  go_wp2_with ((with_reducible show wpList _ _ _ _ _ _); refine wpList_store_tcp rfl (.tmp 6) (.tmp 19) rfl w.heap.size _ _ rfl rfl K.out rfl rfl (by simp [Value.oneCell']) ?_; intro V2 hs2 hg2; have K2 := Lib.hid hs2; have Q2 := Lib.hid (Q.out.grown hg2 Q.out.size (fun j e => by cases e; exact Nat.le_refl _)); clear hs2 hg2)
  exact bodyPost_ret (results_tcp rfl _ _ w.heap.size _ _ rfl rfl K2.out rfl) rfl ⟨rfl, Q2.out⟩

set_option maxRecDepth 100000 in
set_option maxHeartbeats 2000000 in
theorem tcpP_head (b off : Nat) (xs : List Nat) (cap src dst : Nat) (w : World) (x12 q hd : Nat) (hb : b < w.heap.size) (hl20 : 20 ≤ xs.length) (hlm : xs.length ≤ 65535) (c12 : w.cell? ⟨b, off + 12, none⟩ = some (.int .u8 (x12 : Nat))) (hx : x12 < 256) (hq : x12 / 16 = q) (hhd : 4 * q = hd) (hbad : hd < 20 ∨ xs.length < hd) :
    Calls Try.prog 10 #[.slice (some ⟨b, off, none⟩) xs.length cap, .int .u32 src, .int .u32 dst] w fun e w' => e = .returned (.tuple #[.agg tcpZ, .int .i64 42]) ∧ Below w.heap.size w w' := by
  have i1 : ¬ (xs.length : Int) < 20 := by omega
  have i2 : ¬ (65535 : Int) < (xs.length : Int) := by omega
  have i12 : (12 : Int) < (xs.length : Int) := by omega
  have xq : (x12 : Int) / 16 = (q : Int) := by omega
  have xw : IntKind.i64.wrap (q : Int) = (q : Int) := IntWalk.i64_in _ (by omega)
  have xh : (4 : Int) * (q : Int) = (hd : Int) := by omega
  have xw2 : IntKind.i64.wrap (hd : Int) = (hd : Int) := IntWalk.i64_in _ (by omega)
  have nb : b ≠ w.heap.size := by omega
  by_cases h20 : hd < 20
  · have t1 : (hd : Int) < 20 := by omega
    clear hq hhd hbad h20 hl20 hlm hx
    have bw := (Below.refl _ w).alloc (Nat.le_refl _) (.cells tcpZ 27)
    have K := Lib.hid (blk_new w (.cells tcpZ 27))
    have Q := Lib.hid bw
    clear bw
    unfold tcpZ at K Q
    go_enter Try.func10, Try.ntmps10
    go_wp2_with ((with_reducible show wpList _ _ _ _ _ _); refine wpList_store_tcp rfl (.tmp 6) (.tmp 34) rfl w.heap.size _ _ rfl rfl K.out rfl rfl (by simp [Value.oneCell']) ?_; intro V2 hs2 hg2; have K2 := Lib.hid hs2; have Q2 := Lib.hid (Q.out.grown hg2 Q.out.size (fun j e => by cases e; exact Nat.le_refl _)); clear hs2 hg2)
    exact bodyPost_ret (results_tcp rfl _ _ w.heap.size _ _ rfl rfl K2.out rfl) rfl ⟨rfl, Q2.out⟩
  · have t1 : ¬ (hd : Int) < 20 := by omega
    have t2 : (xs.length : Int) < (hd : Int) := by omega
    clear hq hhd hbad h20 hl20 hlm hx
    have bw := (Below.refl _ w).alloc (Nat.le_refl _) (.cells tcpZ 27)
    have K := Lib.hid (blk_new w (.cells tcpZ 27))
    have Q := Lib.hid bw
    clear bw
    unfold tcpZ at K Q
    go_enter Try.func10, Try.ntmps10
    go_wp2_with ((with_reducible show wpList _ _ _ _ _ _); refine wpList_store_tcp rfl (.tmp 6) (.tmp 34) rfl w.heap.size _ _ rfl rfl K.out rfl rfl (by simp [Value.oneCell']) ?_; intro V2 hs2 hg2; have K2 := Lib.hid hs2; have Q2 := Lib.hid (Q.out.grown hg2 Q.out.size (fun j e => by cases e; exact Nat.le_refl _)); clear hs2 hg2)
    exact bodyPost_ret (results_tcp rfl _ _ w.heap.size _ _ rfl rfl K2.out rfl) rfl ⟨rfl, Q2.out⟩

set_option maxRecDepth 100000 in
set_option maxHeartbeats 4000000 in
theorem tcpP_sum (b off : Nat) (xs : List Nat) (cap src dst : Nat) (w : World) (x12 q hd R : Nat) (hb : b < w.heap.size) (hl20 : 20 ≤ xs.length) (hlm : xs.length ≤ 65535) (c12 : w.cell? ⟨b, off + 12, none⟩ = some (.int .u8 (x12 : Nat))) (hx : x12 < 256) (hq : x12 / 16 = q) (hhd : 4 * q = hd) (h20 : 20 ≤ hd) (hle : hd ≤ xs.length)
    (hsum : ∀ W, Below w.heap.size w W → Calls Try.prog 26 #[.slice (some ⟨b, off, none⟩) xs.length cap, .int .u32 src, .int .u32 dst] W fun e W' => e = .returned (.int .u16 (R : Nat)) ∧ Below W.heap.size W W') (hR : R ≠ 65535) :
    Calls Try.prog 10 #[.slice (some ⟨b, off, none⟩) xs.length cap, .int .u32 src, .int .u32 dst] w fun e w' => e = .returned (.tuple #[.agg tcpZ, .int .i64 21]) ∧ Below w.heap.size w w' := by
  have i1 : ¬ (xs.length : Int) < 20 := by omega
  have i2 : ¬ (65535 : Int) < (xs.length : Int) := by omega
  have i12 : (12 : Int) < (xs.length : Int) := by omega
  have xq : (x12 : Int) / 16 = (q : Int) := by omega
  have xw : IntKind.i64.wrap (q : Int) = (q : Int) := IntWalk.i64_in _ (by omega)
  have xh : (4 : Int) * (q : Int) = (hd : Int) := by omega
  have xw2 : IntKind.i64.wrap (hd : Int) = (hd : Int) := IntWalk.i64_in _ (by omega)
  have nb : b ≠ w.heap.size := by omega
  have t1 : ¬ (hd : Int) < 20 := by omega
  have t2 : ¬ (xs.length : Int) < (hd : Int) := by omega
  have r1 : ((R : Int) != 65535) = true := by rw [bne_iff_ne]; omega
  have bn := blk_new w (.cells tcpZ 27)
  have bw := (Below.refl _ w).alloc (Nat.le_refl _) (.cells tcpZ 27)
  have HS := Lib.hid (hsum _ bw)
  have BN := Lib.hid bn
  have BW := Lib.hid bw
  have hsz : w.heap.size < (w.alloc (.cells tcpZ 27)).heap.size := by rw [World.size_alloc]; exact Nat.lt_succ_self _
  have HSZ := Lib.hid hsz
  clear hq hhd hle h20 hl20 hlm hx hsum hR bn bw hsz
  unfold tcpZ at HS BN BW HSZ
  go_enter Try.func10, Try.ntmps10
  go_wp2_with fail
  refine HS.out.mono ?_
  rintro e V ⟨rfl, b1⟩
  have K := Lib.hid ((b1.block w.heap.size HSZ.out).trans BN.out)
  have Q := Lib.hid (BW.out.trans (b1.mono (Nat.le_of_lt HSZ.out)))
  clear b1 BW BN HS HSZ
  go_wp2_with ((with_reducible show wpList _ _ _ _ _ _); refine wpList_store_tcp rfl (.tmp 6) (.tmp 40) rfl w.heap.size _ _ rfl rfl K.out rfl rfl (by simp [Value.oneCell']) ?_; intro V2 hs2 hg2; have K2 := Lib.hid hs2; have Q2 := Lib.hid (Q.out.grown hg2 Q.out.size (fun j e => by cases e; exact Nat.le_refl _)); clear hs2 hg2)
  exact bodyPost_ret (results_tcp rfl _ _ w.heap.size _ _ rfl rfl K2.out rfl) rfl ⟨rfl, Q2.out⟩
end Go.Proofs.Ytgmgoilleakdcaa
