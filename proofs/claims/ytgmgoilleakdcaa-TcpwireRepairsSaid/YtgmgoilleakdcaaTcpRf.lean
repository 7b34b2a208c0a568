/- Tcpwire's document: whole; Parse of what is no segment. -/
import Derived.Test.YtgmgoilleakdcaaTcpRe
import Derived.Test.YtgmgoilleakdcaaSumRf
namespace Go.Proofs.Ytgmgoilleakdcaa
open Go.RowKit

set_option maxHeartbeats 1000000 in
theorem rwhole_any (a : Option Addr) (xs : List Nat) (cap src dst : Nat) (w : World) (h : Bts w a xs) (hl : xs.length ≤ 140737488355328) (hs : src < 4294967296) (hd : dst < 4294967296) :
    Calls Try.prog 29 #[.slice a xs.length cap, .int .u32 (src : Nat), .int .u32 (dst : Nat)] w fun e w' => e = .returned (.int .u16 (tcpSum xs src dst : Nat)) ∧ Below w.heap.size w w' := by
  have hS := Mt.sumO_le xs h.1
  have hP : Mt.tot (psW src dst 6 (xs.length : Nat)) ≤ 65535 := Mt.tot_le _ (psW_le src dst 6 _ hs hd (by omega))
  have RS := Lib.hid (refsum_any a xs cap w h hl)
  have RP : Hid (∀ W, Calls Try.prog 22 #[.int .u32 (src : Nat), .int .u32 (dst : Nat), .int .u8 6, .int .i64 (xs.length : Nat)] W fun e w' => e = .returned (.int .u16 (Mt.tot (psW src dst 6 (xs.length : Nat)) : Nat)) ∧ Below W.heap.size W w') := Lib.hid (fun W => refpseudo_any src dst 6 (xs.length : Nat) hs hd (by decide) W)
  have RA := Lib.hid (refadd_any _ _ hS hP)
  obtain ⟨ts, hts⟩ : ∃ z, tcpSum xs src dst = z := ⟨_, rfl⟩
  have hta : Mt.addw (Mt.sumO xs) (Mt.tot (psW src dst 6 (xs.length : Nat))) = ts := hts
  rw [hts]
  rw [hta] at RA
  obtain ⟨sm, hsm⟩ : ∃ z, Mt.sumO xs = z := ⟨_, rfl⟩
  obtain ⟨pm, hpm⟩ : ∃ z, Mt.tot (psW src dst 6 (xs.length : Nat)) = z := ⟨_, rfl⟩
  rw [hsm] at RS RA
  rw [hpm] at RP RA
  clear hta hts hsm hpm hS hP h
  go_enter Try.func29, Try.ntmps29
  go_wp2_with (first
    | (go_at_call 21; with_reducible refine RS.out.mono ?_; rintro e w' ⟨rfl, rfl⟩)
    | (go_at_call 22; with_reducible refine (RP.out _).mono ?_; rintro e V1 ⟨rfl, b⟩; have Q1 := Lib.hid b; clear b)
    | (go_at_call 20; with_reducible refine (RA.out _).mono ?_; rintro e w' ⟨rfl, rfl⟩)
    | fail)
  go_ret
  exact ⟨rfl, Q1.out⟩

set_option maxRecDepth 100000 in
set_option maxHeartbeats 1000000 in
theorem rtcpP_short (a : Option Addr) (xs : List Nat) (cap src dst : Nat) (w : World) (hl : xs.length < 20) :
    Calls Try.prog 11 #[.slice a xs.length cap, .int .u32 src, .int .u32 dst] w fun e w' => e = .returned (.tuple #[.agg tcpZ, .int .i64 8]) ∧ Below w.heap.size w w' := by
  have bw := (Below.refl _ w).alloc (Nat.le_refl _) (.cells tcpZ 27)
  have K := Lib.hid (blk_new w (.cells tcpZ 27))
  have Q := Lib.hid bw
  clear bw
  unfold tcpZ at K Q
  go_enter Try.func11, Try.ntmps11
  go_wp2_with ((with_reducible show wpList _ _ _ _ _ _); refine wpList_store_tcp rfl (.tmp 6) (.tmp 15) rfl w.heap.size _ _ rfl rfl K.out rfl rfl (by simp [Value.oneCell']) ?_; intro V2 hs2 hg2; have K2 := Lib.hid hs2; have Q2 := Lib.hid (Q.out.grown hg2 Q.out.size (fun j e => by cases e; exact Nat.le_refl _)); clear hs2 hg2)
  exact bodyPost_ret (results_tcp rfl _ _ w.heap.size _ _ rfl rfl K2.out rfl) rfl ⟨rfl, Q2.out⟩

set_option maxRecDepth 100000 in
set_option maxHeartbeats 1000000 in
theorem rtcpP_long (a : Option Addr) (xs : List Nat) (cap src dst : Nat) (w : World) (hl : 65535 < xs.length) :
    Calls Try.prog 11 #[.slice a xs.length cap, .int .u32 src, .int .u32 dst] w fun e w' => e = .returned (.tuple #[.agg tcpZ, .int .i64 5]) ∧ Below w.heap.size w w' := by
  have i1 : ¬ (xs.length : Int) < 20 := by omega
  have i2 : (65535 : Int) < (xs.length : Int) := by omega
  clear hl
  have bw := (Below.refl _ w).alloc (Nat.le_refl _) (.cells tcpZ 27)
  have K := Lib.hid (blk_new w (.cells tcpZ 27))
  have Q := Lib.hid bw
  clear bw
  unfold tcpZ at K Q
  go_enter Try.func11, Try.ntmps11
  go_wp2_with ((with_reducible show wpList _ _ _ _ _ _); refine wpList_store_tcp rfl (.tmp 6) (.tmp 20) rfl w.heap.size _ _ rfl rfl K.out rfl rfl (by simp [Value.oneCell']) ?_; intro V2 hs2 hg2; have K2 := Lib.hid hs2; have Q2 := Lib.hid (Q.out.grown hg2 Q.out.size (fun j e => by cases e; exact Nat.le_refl _)); clear hs2 hg2)
  exact bodyPost_ret (results_tcp rfl _ _ w.heap.size _ _ rfl rfl K2.out rfl) rfl ⟨rfl, Q2.out⟩

set_option maxRecDepth 100000 in
set_option maxHeartbeats 2000000 in
theorem rtcpP_head (b off : Nat) (xs : List Nat) (cap src dst : Nat) (w : World) (x12 q hd : Nat) (hb : b < w.heap.size) (hl20 : 20 ≤ xs.length) (hlm : xs.length ≤ 65535) (c12 : w.cell? ⟨b, off + 12, none⟩ = some (.int .u8 (x12 : Nat))) (hx : x12 < 256) (hq : x12 / 16 = q) (hhd : 4 * q = hd) (hbad : hd < 20 ∨ xs.length < hd) :
    Calls Try.prog 11 #[.slice (some ⟨b, off, none⟩) xs.length cap, .int .u32 src, .int .u32 dst] w fun e w' => e = .returned (.tuple #[.agg tcpZ, .int .i64 42]) ∧ Below w.heap.size w w' := by
  have i1 : ¬ (xs.length : Int) < 20 := by omega
  have i2 : ¬ (65535 : Int) < (xs.length : Int) := by omega
  have i12 : (12 : Int) < (xs.length : Int) := by omega
  have xq : (x12 : Int) / 16 = (q : Int) := by omega
  have xw : IntKind.i64.wrap (q : Int) = (q : Int) := IntWalk.i64_in _ (by omega)
  have xh : (q : Int) * 4 = (hd : Int) := by omega
  have xw2 : IntKind.i64.wrap (hd : Int) = (hd : Int) := IntWalk.i64_in _ (by omega)
  have nb : b ≠ w.heap.size := by omega
  by_cases h20 : hd < 20
  · have t1 : (hd : Int) < 20 := by omega
    clear hq hhd hbad h20 hl20 hlm hx
    have bw := (Below.refl _ w).alloc (Nat.le_refl _) (.cells tcpZ 27)
    have K := Lib.hid (blk_new w (.cells tcpZ 27))
    have Q := Lib.hid bw
    clear bw
    unfold tcpZ at K Q
    go_enter Try.func11, Try.ntmps11
    go_wp2_with ((with_reducible show wpList _ _ _ _ _ _); refine wpList_store_tcp rfl (.tmp 6) (.tmp 36) rfl w.heap.size _ _ rfl rfl K.out rfl rfl (by simp [Value.oneCell']) ?_; intro V2 hs2 hg2; have K2 := Lib.hid hs2; have Q2 := Lib.hid (Q.out.grown hg2 Q.out.size (fun j e => by cases e; exact Nat.le_refl _)); clear hs2 hg2)
    exact bodyPost_ret (results_tcp rfl _ _ w.heap.size _ _ rfl rfl K2.out rfl) rfl ⟨rfl, Q2.out⟩
  · have t1 : ¬ (hd : Int) < 20 := by omega
    have t2 : (xs.length : Int) < (hd : Int) := by omega
    clear hq hhd hbad h20 hl20 hlm hx
    have bw := (Below.refl _ w).alloc (Nat.le_refl _) (.cells tcpZ 27)
    have K := Lib.hid (blk_new w (.cells tcpZ 27))
    have Q := Lib.hid bw
    clear bw
    unfold tcpZ at K Q
    go_enter Try.func11, Try.ntmps11
    go_wp2_with ((with_reducible show wpList _ _ _ _ _ _); refine wpList_store_tcp rfl (.tmp 6) (.tmp 36) rfl w.heap.size _ _ rfl rfl K.out rfl rfl (by simp [Value.oneCell']) ?_; intro V2 hs2 hg2; have K2 := Lib.hid hs2; have Q2 := Lib.hid (Q.out.grown hg2 Q.out.size (fun j e => by cases e; exact Nat.le_refl _)); clear hs2 hg2)
    exact bodyPost_ret (results_tcp rfl _ _ w.heap.size _ _ rfl rfl K2.out rfl) rfl ⟨rfl, Q2.out⟩

set_option maxRecDepth 100000 in
set_option maxHeartbeats 4000000 in
theorem rtcpP_sum (b off : Nat) (xs : List Nat) (cap src dst : Nat) (w : World) (x12 q hd R : Nat) (hb : b < w.heap.size) (hl20 : 20 ≤ xs.length) (hlm : xs.length ≤ 65535) (c12 : w.cell? ⟨b, off + 12, none⟩ = some (.int .u8 (x12 : Nat))) (hx : x12 < 256) (hq : x12 / 16 = q) (hhd : 4 * q = hd) (h20 : 20 ≤ hd) (hle : hd ≤ xs.length)
    (hsum : ∀ W, Below w.heap.size w W → Calls Try.prog 29 #[.slice (some ⟨b, off, none⟩) xs.length cap, .int .u32 src, .int .u32 dst] W fun e W' => e = .returned (.int .u16 (R : Nat)) ∧ Below W.heap.size W W') (hR : R ≠ 65535) :
    Calls Try.prog 11 #[.slice (some ⟨b, off, none⟩) xs.length cap, .int .u32 src, .int .u32 dst] w fun e w' => e = .returned (.tuple #[.agg tcpZ, .int .i64 21]) ∧ Below w.heap.size w w' := by
  have i1 : ¬ (xs.length : Int) < 20 := by omega
  have i2 : ¬ (65535 : Int) < (xs.length : Int) := by omega
  have i12 : (12 : Int) < (xs.length : Int) := by omega
  have xq : (x12 : Int) / 16 = (q : Int) := by omega
  have xw : IntKind.i64.wrap (q : Int) = (q : Int) := IntWalk.i64_in _ (by omega)
  have xh : (q : Int) * 4 = (hd : Int) := by omega
  have xw2 : IntKind.i64.wrap (hd : Int) = (hd : Int) := IntWalk.i64_in _ (by omega)
  have nb : b ≠ w.heap.size := by omega
  have t1 : ¬ (hd : Int) < 20 := by omega
  have t2 : ¬ (xs.length : Int) < (hd : Int) := by omega
  have r1 : ((R : Int) != 65535) = true := by rw [bne_iff_ne]; omega
  have bn := blk_new w (.cells tcpZ 27)
  have bw := (Below.refl _ w).alloc (Nat.le_refl _) (.cells tcpZ 27)
  have HS := Lib.hid (hsum _ bw)
  have BN := Lib.hid bn
  have BW := Lib.hid bw
  have hsz : w.heap.size < (w.alloc (.cells tcpZ 27)).heap.size := by rw [World.size_alloc]; exact Nat.lt_succ_self _
  have HSZ := Lib.hid hsz
  clear hq hhd hle h20 hl20 hlm hx hsum hR bn bw hsz
  unfold tcpZ at HS BN BW HSZ
  go_enter Try.func11, Try.ntmps11
  go_wp2_with fail
  refine HS.out.mono ?_
  rintro e V ⟨rfl, b1⟩
  have K := Lib.hid ((b1.block w.heap.size HSZ.out).trans BN.out)
  have Q := Lib.hid (BW.out.trans (b1.mono (Nat.le_of_lt HSZ.out)))
  clear b1 BW BN HS HSZ
  go_wp2_with ((with_reducible show wpList _ _ _ _ _ _); refine wpList_store_tcp rfl (.tmp 6) (.tmp 43) rfl w.heap.size _ _ rfl rfl K.out rfl rfl (by simp [Value.oneCell']) ?_; intro V2 hs2 hg2; have K2 := Lib.hid hs2; have Q2 := Lib.hid (Q.out.grown hg2 Q.out.size (fun j e => by cases e; exact Nat.le_refl _)); clear hs2 hg2)
  exact bodyPost_ret (results_tcp rfl _ _ w.heap.size _ _ rfl rfl K2.out rfl) rfl ⟨rfl, Q2.out⟩
end Go.Proofs.Ytgmgoilleakdcaa
