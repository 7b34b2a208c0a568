/- For every size, first number, texts and acknowledgements, where they are together of bulk at most 1048576: what is sliced is what was written, by its numbers, whatever was acknowledged between. -/
import Derived.Test.YtfdaenogefodhaaRows
import Derived.Test.YtfdaenogefodhaaSbK
import Derived.Test.YtfdaenogefodhaaGTxts
import Derived.Test.YtfdaenogefodhaaQInts
import Derived.Test.YtfdaenogefodhaaGFrame
import Derived.Test.YtfdaenogefodhaaGAppend
import Derived.Test.YtfdaenogefodhaaGPlain
import Derived.Test.YtfdaenogefodhaaGAgg
import Derived.Deep.DeepCutAuto
import Derived.RegionTactic
import Derived.Deep.RegionHeld3
import Derived.ProofKit
import Derived.OpenShut
import Derived.ChangeOld
import Derived.SizedLaws
namespace Go.Proofs.Ytfdaenogefodhaa.sendbufKeeps
open Go.ChangeShapes Go.WideShapes Go.ChangeAt Go.RowKit Go.Deep Go.Proofs.Ytfdaenogefodhaa.Sb

set_option maxHeartbeats 400000 in
theorem new_no (sz : Int) (un : Int) (w : World) (h : ¬ (1 ≤ sz ∧ sz ≤ 1048576)) :
    Calls Try.prog 14 #[.int .i64 sz, .int .u32 un] w fun e w' => e = .returned (.tuple #[.pointer none, .int .i64 4]) ∧ w = w' := by
  by_cases h1 : sz < 1
  case pos =>
    clear h
    go_enter Try.func14, Try.ntmps14
    go_wp2
    go_ret2
    exact ⟨rfl, rfl⟩
  case neg =>
    have h2 : 1048576 < sz := by omega
    clear h
    go_enter Try.func14, Try.ntmps14
    go_wp2
    go_ret2
    exact ⟨rfl, rfl⟩
theorem wpList_append_btsN {w : World} {ops : Array Oper} {rest : List Oper} {o : Oper} {act : Act} {Q : Exit → Act → World → Prop} (hgd : o.guard = none) (s x : Operand)
    (ho : o.op = .call { callee := .builtin .append, args := #[s, x], argTypes := #[36, 36] }) (B : Nat) {a b : Option Addr} {xs ys zs : List Nat} {cap dap n : Nat} (hn : n = ys.length) (hz : xs ++ ys = zs)
    (O : OwnSl B a xs cap w) (Y : Bts w b ys) (hd : b = none → dap = 0) (hs : act.eval s = .slice a xs.length cap) (hx : act.eval x = .slice b n dap)
    (hlen : xs.length + ys.length ≤ 140737488355328) (hB : B ≤ w.heap.size)
    (h : ∀ a' cap' w', OwnSl B a' zs cap' w' → Below B w w' → wpList Try.prog ops Q rest (act.put o.dst (.slice a' zs.length cap')) w') : wpList Try.prog ops Q (o :: rest) act w := by
  subst hn hz
  exact wpList_append_bts hgd s x ho B O Y hd hs hx hlen hB h
theorem same_oneN (a c : Option Addr) (xs : List Nat) (m k cap dap : Nat) (w : World) (hm : m = xs.length) (hk : k = xs.length) (hx : Bts w a xs) (hy : Bts w c xs) (hxl : xs.length ≤ 140737488355328) :
    Calls Try.prog 23 #[.slice a m cap, .slice c k dap] w fun e w' => e = .returned (.bool true) ∧ Below w.heap.size w w' := by
  have := same_one a c xs xs cap dap w hx hy hxl hxl rfl
  rw [← hk] at this hm
  subst hm
  exact this
theorem BufAt.turned {B g G n : Nat} {un : Int} {xs : List Nat} {w w' : World} {S : Nat → Prop} (h : BufAt B g G n un xs w) (ht : Turns S w w') (hg : ¬ S g) (hG : ¬ S G) : BufAt B g G n un xs w' := by
  obtain ⟨st, rs, hB, hO, hH⟩ := h
  exact ⟨st, rs, ht.blk hB hg, hO.turned ht (fun k e => by cases e; exact hG), hH⟩
theorem Turns.ofBelow {C : Nat} {w w' : World} (h : Below C w w') : Turns (fun k => C ≤ k) w w' := ⟨h.os, h.tape, h.output, h.size, fun k _ hk => h.block k (by omega)⟩
theorem bts_mapadd {w : World} {a : Option Addr} {xs : List Nat} (h : Bts w a xs) (k : Nat) : Bts w (Option.map (fun x => x.add k) a) (xs.drop k) := by
  rcases h.2 with h0 | ⟨b, off, e, hb, hc⟩
  · rw [h0, List.drop_nil]; exact ⟨(fun x hx => absurd hx List.not_mem_nil), .inl rfl⟩
  · subst e
    have e : Option.map (fun x : Addr => x.add k) (some ⟨b, off, none⟩) = some ⟨b, off + k, none⟩ := by simp only [Option.map_some]; unfold Addr.add; split <;> simp_all
    rw [e]; exact h.drop k
/-- The numbers of an acknowledgement. -/
theorem ack_nums (ak A una : Int) (h0 : 0 ≤ una) (h1 : una ≤ A) (h2 : A ≤ 1099511627776) : ∃ t d : Int, ak.tmod (A - una + 1) = t ∧ -1099511627778 ≤ t ∧ t ≤ 1099511627778 ∧ (t + A - una + 1).tmod (A - una + 1) = d ∧ 0 ≤ d ∧ d ≤ A - una := by
  obtain ⟨M, hM⟩ : ∃ M, A - una + 1 = M := ⟨_, rfl⟩
  have hM0 : 0 < M := by omega
  have a1 : ak.tmod M < M := Int.tmod_lt_of_pos ak hM0
  have a2 : -M < ak.tmod M := by
    by_cases ha : 0 ≤ ak
    · have := Int.tmod_nonneg M ha
      omega
    · have e : ak.tmod M = -((-ak).tmod M) := by rw [Int.neg_tmod, Int.neg_neg]
      have := Int.tmod_lt_of_pos (-ak) hM0
      omega
  refine ⟨_, _, rfl, ?_, ?_, rfl, ?_, ?_⟩
  · rw [hM]; omega
  · rw [hM]; omega
  · rw [hM, show ak.tmod M + A - una + 1 = ak.tmod M + M by omega]
    exact Int.tmod_nonneg M (by omega)
  · rw [hM, show ak.tmod M + A - una + 1 = ak.tmod M + M by omega]
    have := Int.tmod_lt_of_pos (ak.tmod M + M) hM0
    omega
set_option maxRecDepth 100000 in
set_option maxHeartbeats 16000000 in
theorem walk (sz : Int) (first : Nat) (ta : Option Addr) (rs : List Txt) (tcap : Nat) (aa : Option Addr) (ks : List Int) (ca : Nat) (w : World) (_sl : -9223372036854775808 ≤ sz) (_sh : sz ≤ 9223372036854775807) (hf : first < 4294967296) (ht : Sts 1 Txt.cells Txt.ok w ta rs) (_htc : ta = none → tcap = 0) (htl : rs.length ≤ 1048576) (hk : Its w aa ks) (_hkc : aa = none → ca = 0) (hkl : ks.length ≤ 1048576) :
    Calls Try.prog 5 #[.int .i64 sz, .int .u32 first, .slice ta rs.length tcap, .slice aa ks.length ca] w fun e w' => e = .returned (.bool true) ∧ Below w.heap.size w w' := by
  obtain ⟨fi, hfi⟩ : ∃ z : Int, (first : Int) = z := ⟨_, rfl⟩
  have f0 : 0 ≤ fi := by omega
  have f1 : fi < 4294967296 := by omega
  rw [hfi]
  clear hfi hf
  have HT := Lib.hid ht
  have HK := Lib.hid hk
  go_enter Try.func5, Try.ntmps5
  go_wp2_with fail
  refine (alive_any _).mono ?_
  rintro e V1 ⟨rfl, b⟩
  have Q1 := Lib.hid b
  have HW1 := Lib.hid b.size
  clear b
  by_cases hsz : 1 ≤ sz ∧ sz ≤ 1048576
  case neg =>
    go_wp2_with fail
    refine (new_no sz fi _ hsz).mono ?_
    rintro e w' ⟨rfl, rfl⟩
    go_wp2_with fail
    refine (num_any _ _).mono ?_
    rintro e w' ⟨rfl, rfl⟩
    go_wp2
    go_ret
    exact ⟨rfl, Q1.out⟩
  case pos =>
    obtain ⟨n, rfl⟩ : ∃ n : Nat, sz = n := ⟨sz.toNat, by omega⟩
    have n0 : 1 ≤ n := by omega
    have n1 : n ≤ 1048576 := by omega
    go_wp2_with fail
    refine (new_ok n fi _ n0 n1).mono ?_
    rintro e V2 ⟨⟨g, rfl, hg, hB, hO⟩, b⟩
    have hok : BufOk V1.heap.size g V1.heap.size n := ⟨by omega, by omega, n0, n1⟩
    have B2 : Hid (BufAt V1.heap.size g V1.heap.size n fi [] V2) := Lib.hid ⟨0, List.replicate n 0, hB, hO, Holds.nil (by simp) (by omega)⟩
    have hgC : g < V2.heap.size := blk_lt hB
    have hGC : V1.heap.size < V2.heap.size := by omega
    have Q2 := Lib.hid (Q1.out.trans (b.mono Q1.out.size))
    clear hB hO b
    go_wp2_with fail
    refine (num_any _ _).mono ?_
    rintro e w' ⟨rfl, rfl⟩
    go_wp2_with fail
    go_loopw [11, 12, 13] (fun va vu vi wr => ∃ (i una : Nat) (all : List Nat) (a' : Option Addr) (cap' : Nat), i ≤ rs.length ∧ vi = .int .i64 i ∧ vu = .int .i64 una ∧ va = .slice a' all.length cap' ∧ una ≤ all.length ∧ all.length ≤ i * 1048576 ∧ BufAt V1.heap.size g V1.heap.size n (((fi + (una : Int)) % 4294967296)) (all.drop una) wr ∧ OwnSl V2.heap.size a' all cap' wr ∧ V2.heap.size ≤ wr.heap.size ∧ Below w.heap.size w wr) (fun _ _ vi _ => rs.length - (intOf vi).toNat)
    case atStart => exact ⟨0, 0, [], none, 0, by omega, rfl, rfl, rfl, by simp, by simp, by have h := B2.out; rw [show ((fi + ((0 : Nat) : Int)) % 4294967296) = fi by omega]; exact h, own_nil _ _, Nat.le_refl _, Q2.out⟩
    case round =>
      obtain ⟨i, una, all, a', cap', hi, rfl, rfl, rfl, hu, hal, hB, hA, hV2, hq⟩ := hrel
      have BR := Lib.hid hB
      have AR := Lib.hid hA
      have QR := Lib.hid hq
      clear hB hA hq B2 Q2 Q1
      by_cases hlt : i < rs.length
      case neg =>
        obtain rfl : i = rs.length := by omega
        go_wp2
        go_ret
        exact ⟨rfl, QR.out⟩
      case pos =>
        have i1 : (i : Int) < (rs.length : Int) := by omega
        obtain ⟨r, hr⟩ : ∃ r, rs[i]? = some r := ⟨_, List.getElem?_eq_getElem hlt⟩
        obtain ⟨hrok0, tb, toff, rfl, htb, htc0⟩ := HT.out.at hr
        obtain ⟨ra, ds, rc⟩ := r
        have hlr : ∀ b o, ra = some ⟨b, o, none⟩ → 0 < ds.length → b < w.heap.size := by
          intro b o e hl
          obtain ⟨b', o', e', hb, _⟩ := hrok0.1.isSome hl
          rw [e] at e'; injection e' with e'; injection e' with e1 e2; omega
        have HRN : Hid (ra = none → rc = 0) := Lib.hid hrok0.2.1
        have hrc : ds.length ≤ rc := hrok0.2.2.1
        have hrm : rc ≤ 9223372036854775807 := hrok0.2.2.2
        have HLR := Lib.hid hlr
        clear hlr
        have D0 : Hid (Bts w ra ds) := Lib.hid hrok0.1
        have T0 : Hid (w.cell? ⟨tb, toff + i, none⟩ = some (.slice ra ds.length rc)) := Lib.hid (by have := htc0 0 _ rfl; simpa using this)
        have c0 : wr.cell? ⟨tb, toff + i, none⟩ = some (.slice ra ds.length rc) := (QR.out.cell (p := ⟨tb, toff + i, none⟩) htb).trans T0.out
        have DR := Lib.hid (D0.out.below QR.out)
        clear hrok0 htc0 hr
        have hxl : (all.drop una).length = all.length - una := List.length_drop
        have hfit := BR.out.fit
        obtain ⟨N, hN⟩ : ∃ N, min ds.length (n - (all.drop una).length) = N := ⟨_, rfl⟩
        obtain ⟨E, hE⟩ : ∃ E, (if ds.length = 0 then 0 else if N = 0 then 251 else 0) = E := ⟨_, rfl⟩
        have hE2 : E = 0 ∨ E = 251 := by rw [← hE]; (repeat' split) <;> simp
        have hNd : N ≤ ds.length := by omega
        have hNn : N ≤ n := by omega
        go_wp2_with fail
        refine (write_at _ hok BR.out DR.out (fun b o e hl => by have := HLR.out b o e hl; have := HW1.out; omega) (by omega) hrc hN hE).mono ?_
        rintro e V4 ⟨rfl, hB4, ht4⟩
        have HSg : ∀ k, (k = g ∨ k = V1.heap.size) → w.heap.size ≤ k := by have := HW1.out; intro k hk; omega
        have HSG := Lib.hid HSg
        have b4 := Below.trans QR.out (Turns.below ht4 QR.out.size HSg)
        have B4 := Lib.hid hB4
        have A4 := Lib.hid (AR.out.turned ht4 (fun k e => by
          rcases AR.out.2 with ⟨e2, _⟩ | ⟨k2, e2, hk2, _⟩
          · rw [e] at e2; cases e2
          · rw [e] at e2; injection e2 with e2; injection e2 with e2; omega))
        have Q4 := Lib.hid b4
        have D4 := Lib.hid ((D0.out.below b4).take N)
        have c4 : V4.cell? ⟨tb, toff + i, none⟩ = some (.slice ra ds.length rc) := (b4.cell (p := ⟨tb, toff + i, none⟩) htb).trans T0.out
        have hC4 : V2.heap.size ≤ V4.heap.size := Nat.le_trans hV2 ht4.size
        clear hB4 ht4 b4 hV2 BR AR QR DR c0 hE hfit
        have hzl : (ds.take N).length = N := by rw [List.length_take]; omega
        obtain ⟨all2, hall2⟩ : ∃ z, all ++ ds.take N = z := ⟨_, rfl⟩
        have hl2 : all2.length = all.length + N := by rw [← hall2, List.length_append, hzl]
        have hd2 : all.drop una ++ ds.take N = all2.drop una := by rw [← hall2, List.drop_append_of_le_length hu]
        rw [hd2] at B4
        have s1 : ¬ ((ds.length : Int) < (N : Int)) := by omega
        have s2 : ¬ ((rc : Int) < (N : Int)) := by omega
        have s3 : ¬ ((N : Int) < 0) := by omega
        have hu2 : una ≤ all2.length := by omega
        have ha2 : all2.length ≤ (i + 1) * 1048576 := by omega
        have ha3 : (all2.length : Int) ≤ 1099511627776 := by omega
        have HALL := Lib.hid hall2
        clear hall2 hd2 hl2
        go_upto_region 12 with fail
        go_cut [72] (fun (cv : Value) wx => cv = .bool false ∧ V4 = wx)
        case first =>
          rcases hE2 with rfl | rfl
          all_goals
            go_wp2_with (first | (refine (num_any _ _).mono ?_; rintro e w' ⟨rfl, rfl⟩) | fail)
            go_meet
            exact ⟨by congr 1; simp <;> omega, rfl⟩
        case rest =>
          obtain ⟨rfl, rfl⟩ := hcut
          by_cases hA : i < ks.length ∧ una < all2.length
          case pos =>
            obtain ⟨hA1, hA2⟩ := hA
            have i2 : (i : Int) < (ks.length : Int) := by omega
            have i3 : (una : Int) < (all2.length : Int) := by omega
            obtain ⟨kb, koff, rfl, hkb, hkc⟩ : ∃ b off, aa = some ⟨b, off, none⟩ ∧ b < w.heap.size ∧ ∀ i, i < ks.length → w.cell? ⟨b, off + i, none⟩ = some (.int .i64 (ks.getD i 0)) := by
              rcases HK.out.2 with h | h
              · rw [h] at hA1; simp at hA1
              · exact h
            obtain ⟨ak, hak⟩ : ∃ z, ks.getD i 0 = z := ⟨_, rfl⟩
            have K0 : Hid (w.cell? ⟨kb, koff + i, none⟩ = some (.int .i64 ak)) := Lib.hid (by rw [← hak]; exact hkc i hA1)
            have c4k : V4.cell? ⟨kb, koff + i, none⟩ = some (.int .i64 ak) := (Q4.out.cell (p := ⟨kb, koff + i, none⟩) hkb).trans K0.out
            obtain ⟨t, d, e1, t0, t1, e2, d0, d1⟩ := ack_nums ak all2.length una (by omega) (by omega) (by omega)
            obtain ⟨una2, hun⟩ : ∃ z : Nat, (una : Int) + d = z := ⟨((una : Int) + d).toNat, by omega⟩
            have W0 : IntKind.i64.wrap ((una : Int) + d) = una2 := by rw [IntWalk.i64_in _ ⟨by omega, by omega⟩]; exact hun
            obtain ⟨c, hc⟩ : ∃ z, IntKind.u32.wrap (una2 : Int) = z := ⟨_, rfl⟩
            obtain ⟨q, hq⟩ : ∃ z, IntKind.u32.wrap (fi + c) = z := ⟨_, rfl⟩
            have hq2 : (fi + (una2 : Int)) % 4294967296 = q := by rw [← hq, ← hc, IntKind.wrap_u32, IntKind.wrap_u32]; omega
            have HQ := Lib.hid hq2
            obtain ⟨dn, hdn⟩ : ∃ z : Nat, una2 = una + z := ⟨una2 - una, by omega⟩
            have hfit4 := B4.out.fit
            have hdf : Hid (df q ((fi + (una : Int)) % 4294967296) = ((dn : Nat) : Int)) := Lib.hid (by unfold df; rw [List.length_drop] at hfit4; omega)
            have HDN := Lib.hid hdn
            clear hkc hak hq2 hfit4 hdn
            go_upto_region 16 with (first
              | (refine wpList_append_btsN rfl _ _ rfl V2.heap.size hzl.symm HALL.out A4.out D4.out HRN.out ?_ ?_ (by omega) hC4 ?_; rfl; rfl; intro a2 cap2 V5 O5 b5; have c5 : V5.cell? ⟨kb, koff + i, none⟩ = some (.int .i64 ak) := (b5.cell (p := ⟨kb, koff + i, none⟩) (Nat.lt_of_lt_of_le hkb (Nat.le_trans HW1.out (Nat.le_of_lt hGC)))).trans c4k; clear c4k; have OW := Lib.hid O5; have BW5 := Lib.hid (BufAt.turned B4.out (Turns.ofBelow b5) (Nat.not_le.2 hgC) (Nat.not_le.2 hGC)); have Q5 := Lib.hid (Q4.out.trans (b5.mono (Nat.le_of_lt (Nat.lt_of_le_of_lt HW1.out hGC)))); have hC5 := Nat.le_trans hC4 b5.size; clear O5 b5 A4 B4 D4 Q4 c4 hC4)
              | fail)
            have HBN := Lib.hid (And.intro n0 (And.intro n1 (And.intro hgC (And.intro hGC (And.intro hg (And.intro htl (And.intro hkl (And.intro hu (And.intro hal (And.intro hi (And.intro hu2 (And.intro ha2 (And.intro hzl (And.intro hNd (And.intro hNn (And.intro hxl (And.intro htb (And.intro hkb (And.intro hA1 (And.intro hA2 (And.intro hlt (And.intro hrc (And.intro hrm hun)))))))))))))))))))))))
            have ha0 : (0 : Int) ≤ una := by omega
            have hu1 : (una : Int) ≤ (all2.length : Int) := by omega
            have HOK := Lib.hid hok
            have HSZ := Lib.hid hsz
            have HW := Lib.hid (And.intro _sl _sh)
            clear n0 n1 hgC hGC hg htl hkl hu hal hi hu2 ha2 hzl hNd hNn hxl htb hkb hA1 hA2 hlt hrc hrm hun hok hsz _sl _sh i1 s1 s2 s3 i3 hN
            go_wp2_with fail
            obtain ⟨n0, n1, hgC, hGC, hg, htl, hkl, hu, hal, hi, hu2, ha2, hzl, hNd, hNn, hxl, htb, hkb, hA1, hA2, hlt, hrc, hrm, hun⟩ := HBN.out
            have hok := HOK.out
            refine (ack_at _ hok BW5.out hdf.out (by have := HDN.out; rw [List.length_drop]; omega)).mono ?_
            rintro e V6 ⟨rfl, hB6, ht6⟩
            have b6 := Turns.below ht6 Q5.out.size (HSG.out)
            have BW : Hid (BufAt V1.heap.size g V1.heap.size n q (all2.drop una2) V6) := Lib.hid (by rw [List.drop_drop, ← HDN.out] at hB6; exact hB6)
            have OW := Lib.hid (OwnSl.turned OW.out ht6 (fun k e => by
              rcases OW.out.2 with ⟨e2, _⟩ | ⟨k2, e2, hk2, _⟩
              · rw [e] at e2; cases e2
              · rw [e] at e2; injection e2 with e2; injection e2 with e2; omega))
            have QW := Lib.hid (Q5.out.trans b6)
            have hC6 := Nat.le_trans hC5 ht6.size
            clear hB6 b6 ht6 BW5 Q5 hC5 c5 hdf
            go_wp2_with fail
            refine (num_any _ _).mono ?_
            rintro e w' ⟨rfl, rfl⟩
            have hul : una2 ≤ all2.length := by have := HDN.out; omega
            have hdl : (all2.drop una2).length = all2.length - una2 := List.length_drop
            have hmm : min (all2.length : Int) (((all2.drop una2).length : Int) - ((0 : Nat) : Int)) = ((all2.length - una2 : Nat) : Int) := by omega
            have hfit := BW.out.fit
            go_wp2_with fail
            refine (slice_at _ hok BW.out (by omega) (show df q q = ((0 : Nat) : Int) from df_same q) (by omega) hmm).mono ?_
            rintro e V7 ⟨⟨a7, rfl, o7⟩, b⟩
            rw [List.drop_zero, List.take_of_length_le (by omega)] at o7
            have O7 := Lib.hid o7.bts
            have B7 := Lib.hid (BW.out.below b)
            have A7 := Lib.hid (OW.out.below b)
            have hV7 := b.size
            have Q7 := Lib.hid (QW.out.trans (b.mono QW.out.size))
            clear BW OW QW b o7
            go_wp2_with fail
            refine (num_any _ _).mono ?_
            rintro e w' ⟨rfl, rfl⟩
            have hcl := A7.out.capLe
            have s4 : ¬ ((all2.length : Int) < (una2 : Int)) := by omega
            have X7 := Lib.hid (bts_mapadd A7.out.bts una2)
            have HXL := Lib.hid hxl
            clear hxl
            go_wp2_with fail
            all_goals
              refine (same_oneN _ _ (all2.drop una2) _ _ _ _ _ (by omega) (by omega) O7.out (by first | exact X7.out | (rw [List.drop_eq_nil_of_le (by omega)]; exact ⟨(fun x hx => absurd hx List.not_mem_nil), .inl rfl⟩)) (by omega)).mono ?_
              rintro e V8 ⟨rfl, b⟩
              have B8 := Lib.hid (B7.out.below b)
              have A8 := Lib.hid (A7.out.below b)
              have hC8 := Nat.le_trans hC6 (Nat.le_trans hV7 b.size)
              have Q8 := Lib.hid (Q7.out.trans (b.mono Q7.out.size))
              have s5 : ¬ ((n : Int) < ((all2.length - una2 : Nat) : Int)) := by omega
              clear B7 A7 Q7 O7 X7 b
              go_wp2
              go_roundw
              case rel => exact ⟨i + 1, una2, all2, _, _, by omega, by go_num, rfl, rfl, hul, by omega, by rw [HQ.out]; exact B8.out, (by first | exact A8.out | exact (show cap2 = una2 by assumption) ▸ A8.out), hC8, Q8.out⟩
              case measure => simp [intOf]; omega
          case neg =>
            obtain ⟨c, hc⟩ : ∃ z, IntKind.u32.wrap (una : Int) = z := ⟨_, rfl⟩
            obtain ⟨q, hq⟩ : ∃ z, IntKind.u32.wrap (fi + c) = z := ⟨_, rfl⟩
            have hq2 : (fi + (una : Int)) % 4294967296 = q := by rw [← hq, ← hc, IntKind.wrap_u32, IntKind.wrap_u32]; omega
            have HQ := Lib.hid hq2
            rw [hq2] at B4
            clear hq2
            have hneg : ¬ ((i : Int) < (ks.length : Int)) ∨ ((i : Int) < (ks.length : Int) ∧ ¬ ((una : Int) < (all2.length : Int))) := by omega
            rcases hneg with i2 | ⟨i2, i3⟩
            all_goals
              go_upto_region 20 with (first
                | (refine wpList_append_btsN rfl _ _ rfl V2.heap.size hzl.symm HALL.out A4.out D4.out HRN.out ?_ ?_ (by omega) hC4 ?_; rfl; rfl; intro a2 cap2 V5 O5 b5; have OW := Lib.hid O5; have BW5 := Lib.hid (BufAt.turned B4.out (Turns.ofBelow b5) (Nat.not_le.2 hgC) (Nat.not_le.2 hGC)); have Q5 := Lib.hid (Q4.out.trans (b5.mono (Nat.le_of_lt (Nat.lt_of_le_of_lt HW1.out hGC)))); have hC5 := Nat.le_trans hC4 b5.size; clear O5 b5 A4 B4 D4 Q4 c4 hC4)
                | fail)
              have BW := BW5
              have QW := Q5
              have hC6 := hC5
              clear BW5 Q5 hC5
              have hul : una ≤ all2.length := hu2
              have hdl : (all2.drop una).length = all2.length - una := List.length_drop
              have hmm : min (all2.length : Int) (((all2.drop una).length : Int) - ((0 : Nat) : Int)) = ((all2.length - una : Nat) : Int) := by omega
              have hfit := BW.out.fit
              go_wp2_with fail
              refine (slice_at _ hok BW.out (by omega) (show df q q = ((0 : Nat) : Int) from df_same q) (by omega) hmm).mono ?_
              rintro e V7 ⟨⟨a7, rfl, o7⟩, b⟩
              rw [List.drop_zero, List.take_of_length_le (by omega)] at o7
              have O7 := Lib.hid o7.bts
              have B7 := Lib.hid (BW.out.below b)
              have A7 := Lib.hid (OW.out.below b)
              have hV7 := b.size
              have Q7 := Lib.hid (QW.out.trans (b.mono QW.out.size))
              clear BW OW QW b o7
              go_wp2_with fail
              refine (num_any _ _).mono ?_
              rintro e w' ⟨rfl, rfl⟩
              have hcl := A7.out.capLe
              have s4 : ¬ ((all2.length : Int) < (una : Int)) := by omega
              have X7 := Lib.hid (bts_mapadd A7.out.bts una)
              have HXL := Lib.hid hxl
              clear hxl
              go_wp2_with fail
              all_goals
                refine (same_oneN _ _ (all2.drop una) _ _ _ _ _ (by omega) (by omega) O7.out (by first | exact X7.out | (rw [List.drop_eq_nil_of_le (by omega)]; exact ⟨(fun x hx => absurd hx List.not_mem_nil), .inl rfl⟩)) (by omega)).mono ?_
                rintro e V8 ⟨rfl, b⟩
                have B8 := Lib.hid (B7.out.below b)
                have A8 := Lib.hid (A7.out.below b)
                have hC8 := Nat.le_trans hC6 (Nat.le_trans hV7 b.size)
                have Q8 := Lib.hid (Q7.out.trans (b.mono Q7.out.size))
                have s5 : ¬ ((n : Int) < ((all2.length - una : Nat) : Int)) := by omega
                clear B7 A7 Q7 O7 X7 b
                go_wp2
                go_roundw
                case rel => exact ⟨i + 1, una, all2, _, _, by omega, by go_num, rfl, rfl, hul, by omega, by rw [HQ.out]; exact B8.out, (by first | exact A8.out | exact (show cap2 = una by assumption) ▸ A8.out), hC8, Q8.out⟩
                case measure => simp [intOf]; omega

/-- A list of numbers holds as many values as it is long. -/
theorem bulk_lits {H : Type} (k : IntKind) (zs : List Int) : Rows.uptoBulkAll (lits (H := H) k zs) = zs.length := by
  induction zs with
  | nil => simp [lits, Rows.uptoBulkAll]
  | cons z zs ih =>
    have e : lits (H := H) k (z :: zs) = .lit (.int k z) :: lits k zs := rfl
    rw [e]
    simp only [Rows.uptoBulkAll, Rows.uptoBulk, ih, List.length_cons]
    omega

theorem bulk_lenA {H : Type} (es : List (DataW H)) : es.length ≤ Rows.uptoBulkAll es := by
  induction es with
  | nil => simp [Rows.uptoBulkAll]
  | cons d es ih =>
    have h1 : 1 ≤ Rows.uptoBulk d := by cases d <;> first | (simp [Rows.uptoBulk]; done) | (rename_i l; cases l <;> simp [Rows.uptoBulk])
    simp only [Rows.uptoBulkAll, List.length_cons]
    omega

theorem own : ownKnob Try.prog.godebug = none := by kernel_rfl
theorem laidOut : laidOutB Try.prog = true := by kernel_rfl

set_option maxRecDepth 100000 in
set_option maxHeartbeats 2000000 in
theorem contract (H : Type) (enc : TypeId × Value → H) (W : World) (base : Nat) (args : Array Value) (ds gs : List (DataW H)) (before : List MemPlace)
    (hval0 : ∀ (j : Nat) t v, Try.f5.params[j]? = some t → args[j]? = some v → Value.okWide Try.prog W .any base t v)
    (hW : DataW.Whole enc Try.prog Try.f5.params.toList Rows.sendbufKeepsSpec.vars false W args.toList ds gs before) (hk : Rows.uptoSmall H (ds ++ gs) = true) :
    Calls Try.prog 5 args W fun e W' => ∃ v, e = .returned v ∧ Rows.sendbufKeepsSpec.post enc Try.prog Try.f5 false true false false W args v W' := by
  have hval : ∀ (j : Nat) t v, Try.f5.params[j]? = some t → args[j]? = some v → Value.okWide Try.prog W .any base t v := hval0
  have hW' := hW
  obtain ⟨p, q, hA0, hV, rfl, hfz, hnd⟩ := hW
  have hA : DataW.TrodAll enc Try.prog W 0 (fun _ => true) true Try.f5.params.toList args.toList ds p := hA0
  rw [Try.params5] at hA hval
  obtain ⟨v0, vs0, d0, ds0, p0, q0, hargs, rfl, rfl, h0, r0⟩ := trodAll_cons hA
  obtain ⟨v1, vs1, d1, ds1, p1, q1, rfl, rfl, rfl, h1, r1⟩ := trodAll_cons r0
  obtain ⟨v2, vs2, d2, ds2, p2, q2, rfl, rfl, rfl, h2, r2⟩ := trodAll_cons r1
  obtain ⟨v3, vs3, d3, ds3, p3, q3, rfl, rfl, rfl, h3, r3⟩ := trodAll_cons r2
  obtain ⟨rfl, rfl, rfl⟩ := trodAll_nil r3
  obtain rfl : args = #[v0, v1, v2, v3] := by cases args; simp_all
  obtain ⟨rfl, rfl⟩ := trodVars_none hV
  obtain ⟨a0, rfl, rfl, rfl, w0⟩ := open_int Try.underlying3 (hval 0 3 v0 rfl rfl) h0
  obtain ⟨a1, rfl, rfl, rfl, w1⟩ := open_int Try.underlying22 (hval 1 22 v1 rfl rfl) h1
  obtain ⟨a2, len2, cap2, rfl⟩ := okWide_slice Try.underlying57 (hval 2 57 v2 rfl rfl)
  have k2 := h2
  have lt2 : ∀ x ∈ p2, x.block < W.heap.size := by obtain ⟨m, hm⟩ := k2; exact DataW.trod_lt m _ _ _ hm
  obtain ⟨a3, len3, cap3, rfl⟩ := okWide_slice Try.underlying58 (hval 3 58 v3 rfl rfl)
  have k3 := h3
  have lt3 : ∀ x ∈ p3, x.block < W.heap.size := by obtain ⟨m, hm⟩ := k3; exact DataW.trod_lt m _ _ _ hm
  have hbulk := of_decide_eq_true hk
  simp only [List.append_nil, Rows.uptoBulkAll, Rows.uptoBulk] at hbulk
  obtain ⟨xs2, hxl2, hbt2, hcap2, hre2⟩ : ∃ xs : List Txt, xs.length = len2 ∧ Sts 1 Txt.cells Txt.ok W a2 xs ∧ (a2 = none → cap2 = 0) ∧ xs.length ≤ 1048576 := by
    obtain ⟨fuel, hf⟩ := h2
    obtain ⟨x, rs, c, hv, hs, hnc, _, hq⟩ := open_Txts (c := .slice a2 len2 cap2) hf
    simp only [Value.slice.injEq] at hv
    obtain ⟨rfl, rfl, rfl⟩ := hv
    refine ⟨rs, rfl, hs, hnc, ?_⟩
    rcases hq with ⟨_, rfl⟩ | ⟨es, ws, e, hl⟩
    · simp
    · rw [show d2 = DataW.slice es ws from e] at hbulk
      simp only [Rows.uptoBulk] at hbulk
      have := bulk_lenA es
      omega
  obtain ⟨xs3, hxl3, hbt3, hcap3, hre3⟩ : ∃ xs : List Int, xs.length = len3 ∧ Its W a3 xs ∧ (a3 = none → cap3 = 0) ∧ xs.length ≤ 1048576 := by
    obtain ⟨fuel, hf⟩ := h3
    rcases open_ints Try.underlying58 Try.underlying3 (by kernel_rfl) hf with ⟨hcs, _⟩ | ⟨x, l, c, zs, hcs, _, hl, hm, hz, hd, hcell, hwz⟩
    · simp [Value.cells] at hcs
      obtain ⟨rfl, rfl, rfl⟩ := hcs
      exact ⟨[], rfl, ⟨(fun x h => by cases h), .inl rfl⟩, fun _ => rfl, by simp⟩
    · simp [Value.cells] at hcs
      obtain ⟨rfl, rfl, rfl⟩ := hcs
      have hz' : zs.length = cap3 := by simpa using hz
      obtain ⟨xs, h1, h2⟩ := its_of_ints hl hz' hcell hwz
      have hd' := (Prod.mk.inj hd).1
      rw [hd'] at hbulk
      simp only [Rows.uptoBulk, bulk_lits, List.length_take, List.length_drop] at hbulk
      exact ⟨xs, h1, h2, (fun h => by cases h), by omega⟩
  clear hA0
  obtain ⟨lo0, hi0⟩ := bounds_i64 w0
  obtain ⟨n1, rfl, hn1⟩ := nat_of_u32 w1
  subst hxl2
  subst hxl3
  refine (walk a0 n1 a2 xs2 cap2 a3 xs3 cap3 W lo0 hi0 hn1 hbt2 hcap2 hre2 hbt3 hcap3 hre3).mono fun e W' ⟨he, bel⟩ => ?_
  subst he
  exact ⟨_, rfl, _, _, _, [], _, [], hW', trodAll_mk1 (shut_bool Try.underlying4 _), (trodAll_cons_mk (shut_int Try.underlying3 w0) (trodAll_cons_mk (shut_int Try.underlying22 w1) (trodAll_cons_mk (Below.trod laidOut (by kernel_rfl) (of_decide_eq_true (by kernel_rfl)) k2 bel lt2) (trodAll_cons_mk (Below.trod laidOut (by kernel_rfl) (of_decide_eq_true (by kernel_rfl)) k3 bel lt3) trodAll_mk0)))), rfl, bel.frame _, fun h => by cases h⟩

set_option maxRecDepth 100000 in
theorem lifted (os : Os) (started : os.Started) (H : Type) (enc : TypeId × Value → H) (F : Stop.Interp) :
    ReturnsInHanded {} Try.checked os 5 .any ((Rows.OpenSpec.upto Rows.sendbufKeepsSpec).pre6 enc Try.prog Try.f5 Rows.sendbufKeepsUptoRow.domain false) (((Rows.OpenSpec.upto Rows.sendbufKeepsSpec).at F).post enc Try.prog Try.f5 false true false false) := by
  refine returnsInHanded_of_cond (C := Try.checked) (s := Rows.OpenSpec.upto Rows.sendbufKeepsSpec) (k := Rows.uptoSmall) rfl own started (by kernel_rfl) Try.func5
    (OpenSpec.witness (enc := enc) (C := Try.checked) (s := Rows.OpenSpec.upto Rows.sendbufKeepsSpec) (k := Rows.uptoSmall) rfl false ⟨#[], #[.int .i64 0, .int .u32 0, .slice none 0 0, .slice none 0 0], []⟩ 8 (by kernel_rfl) (by kernel_rfl) (by kernel_rfl)
      (x := ([.lit (.int .i64 0), .lit (.int .u32 0), .nil, .nil], [], [])) (by kernel_rfl) rfl (by kernel_rfl)) ?_
  intro W base args ds gs before hval hW _ hk _
  exact contract H enc W base args ds gs before hval hW hk

theorem over : Rows.sendbufKeepsUptoRow.holds Try.pinned (Rows.OpenSpec.upto Rows.sendbufKeepsSpec) :=
  OpenClaim.holds_of_cond 5 Try.f5 rfl rfl rfl rfl rfl rfl rfl ⟨rfl, rfl, rfl, rfl, rfl⟩ rfl rfl rfl rfl rfl (by kernel_rfl) Try.func5 (by kernel_rfl)
    (of_decide_eq_true (by kernel_rfl)) (by unfold Func.isWrapper; first | (rw [if_pos (by decide +kernel)]; kernel_rfl) | (rw [if_neg (by decide +kernel)]; exact ⟨rfl, rfl⟩))
    (fun os started H enc _ F => lifted os started H enc F)

end Go.Proofs.Ytfdaenogefodhaa.sendbufKeeps
namespace Go.Proofs.Ytfdaenogefodhaa
/-- The statement. -/
theorem sendbufKeeps_holds : Rows.SendbufKeepsUptoSaid := sendbufKeeps.over
#print axioms sendbufKeeps_holds
end Go.Proofs.Ytfdaenogefodhaa
