/- Scoreboard: Ack. -/
import Derived.Test.YtcachmjcninkbaaScTa
import Derived.Test.YtcachmjcninkbaaScCo
import Derived.Test.YtcachmjcninkbaaScI
import Derived.Test.YtcachmjcninkbaaGUntil
namespace Go.Proofs.Ytcachmjcninkbaa
open Go.RowKit Go.Sort Go.BigFrame

set_option maxRecDepth 100000 in
set_option maxHeartbeats 1000000 in
theorem octets_big (a : Option Addr) (l : List (Nat × Nat)) (cap : Nat) (w : World) (h : Sts 2 SC Tr w a l) (hv : small l) (hl : l.length ≤ 4096) :
    Calls Try.prog 55 #[.slice a l.length cap] w fun e w' => e = .returned (.int .i64 (oct l)) ∧ Below w.heap.size w w' := by
  have HL := Lib.hid h
  have HV := Lib.hid hv
  clear h hv
  go_enter Try.func55, Try.ntmps55
  go_wp2_with fail
  go_loopw [3, 8] (fun sv iv wr => ∃ i : Nat, i ≤ l.length ∧ Hid (sv = .int .i64 (oct (l.take i))) ∧ iv = .int .i64 i ∧ Below w.heap.size w wr) (fun _ iv _ => l.length - (intOf iv).toNat)
  case atStart => exact ⟨0, by omega, Lib.hid rfl, rfl, Below.refl _ _⟩
  case round =>
    obtain ⟨i, hi, hsv, rfl, hq⟩ := hrel
    have QR := Lib.hid hq
    clear hq
    by_cases hlt : i < l.length
    case neg =>
      obtain rfl : i = l.length := by omega
      have h1 := hsv.out
      rw [List.take_length] at h1
      subst h1
      clear hsv
      go_wp2
      go_ret
      exact ⟨rfl, QR.out⟩
    case pos =>
      have i1 : (i : Int) < (l.length : Int) := by omega
      obtain ⟨x, hx⟩ : ∃ x, l[i]? = some x := ⟨_, List.getElem?_eq_getElem hlt⟩
      obtain ⟨g, o, rfl, _, _⟩ := HL.out.isSomeT (by omega)
      obtain ⟨hg, p0, p1⟩ := s_at HL.out hx
      have m0 := (QR.out.cell (p := ⟨g, o + i * 2, none⟩) hg).trans p0
      have m1 := (QR.out.cell (p := ⟨g, o + i * 2 + 1, none⟩) hg).trans p1
      have hb := oct_bd (small_take HV.out i)
      have hz := HV.out x (List.mem_of_getElem? hx)
      have hlen : ((l.take i).length : Int) ≤ 4096 := by rw [List.length_take]; omega
      have hn : oct (l.take (i + 1)) = oct (l.take i) + ((x.2 : Int) - (x.1 : Int)) := by rw [List.take_add_one, hx]; exact oct_snoc _ _
      have h1 := hsv.out
      obtain ⟨S, hS⟩ : ∃ S, oct (l.take i) = S := ⟨_, rfl⟩
      rw [hS] at hb hn h1
      have HN := Lib.hid hn
      have hb1 : -17592186044416 ≤ S ∧ S ≤ 17592186044416 := by omega
      obtain ⟨b1, b2⟩ := hb1
      obtain ⟨z1, z2⟩ := hz
      subst h1
      clear hS hn hb hsv hlen p0 p1 hx
      go_wp2_with fail
      go_roundw
      case rel => exact ⟨i + 1, by omega, Lib.hid (by rw [HN.out]), by go_num, by (repeat' (first | (with_reducible exact QR.out) | (with_reducible refine Below.alloc ?_ ?_ _) | (with_reducible refine Below.setCell ?_ ?_ _) | (with_reducible refine Below.drew ?_) | (with_reducible refine below_drewN ?_ _) | (have h9 := QR.out.size; omega) | (have h9 := QR.out.size; simp; omega)))⟩
      case measure => simp [intOf]; omega

theorem spans_len (una nxt high : Nat) (a : Option Addr) (bs : List (Nat × Nat)) (c : Nat) (w : World) (hu : una < 4294967296) (h : Sts 2 BC Tr w a bs) (hl : bs.length ≤ 1024) :
    Calls Try.prog 48 #[.agg #[.int .u32 (una : Nat), .int .u32 (nxt : Nat), .int .u32 (high : Nat), .slice a bs.length c]] w fun e w' => (∃ a' c', e = .returned (.slice a' (sps una bs).length c') ∧ OwnR 76 2 SC w.heap.size a' (sps una bs) c' w') ∧ Below w.heap.size w w' := by
  refine (spans_any una nxt high a bs c w hu h hl).mono ?_
  rintro e w' ⟨⟨a', c', rfl, hO⟩, hB⟩
  exact ⟨⟨a', c', by rw [sps_len], hO⟩, hB⟩
theorem concat2 (a1 : Option Addr) (l1 : List (Nat × Nat)) (c1 : Nat) (a2 : Option Addr) (l2 : List (Nat × Nat)) (c2 : Nat) (w : World) (h1 : Sts 2 SC Tr w a1 l1) (n1 : a1 = none → c1 = 0) (h2 : Sts 2 SC Tr w a2 l2) (n2 : a2 = none → c2 = 0) (hl : l1.length + l2.length ≤ 4398046511104) :
    Calls Try.prog 53 #[.slice (some ⟨w.heap.size, 0, none⟩) 2 2] (w.alloc (.cells #[.slice a1 l1.length c1, .slice a2 l2.length c2] 90)) fun e w' => (∃ a' c', e = .returned (.slice a' (l1 ++ l2).length c') ∧ OwnR 76 2 SC w.heap.size a' (l1 ++ l2) c' w') ∧ Below w.heap.size w w' := by
  have hb := (Below.refl w.heap.size w).alloc (Nat.le_refl _) (.cells #[.slice a1 l1.length c1, .slice a2 l2.length c2] 90)
  have hc : cat [(a1, l1, c1), (a2, l2, c2)] = l1 ++ l2 := by simp [cat]
  have := concat_sp (some ⟨w.heap.size, 0, none⟩) [(a1, l1, c1), (a2, l2, c2)] 2 _ (sts_new encL w [(a1, l1, c1), (a2, l2, c2)] 90 (0, 0)) (fun x hx => by
    simp only [List.mem_cons, List.not_mem_nil, or_false] at hx
    rcases hx with rfl | rfl
    · exact ⟨Sts.belowT h1 hb, n1⟩
    · exact ⟨Sts.belowT h2 hb, n2⟩) (by simp) (by rw [hc, List.length_append]; exact hl)
  rw [hc] at this
  refine this.mono ?_
  rintro e w' ⟨⟨a', c', rfl, hO⟩, hB⟩
  exact ⟨⟨a', c', rfl, hO.mono hb.size⟩, hb.trans (hB.mono hb.size)⟩
theorem concat3 (a1 : Option Addr) (l1 : List (Nat × Nat)) (c1 : Nat) (a2 : Option Addr) (l2 : List (Nat × Nat)) (c2 : Nat) (x0 x1 : Nat) (w : World) (h1 : Sts 2 SC Tr w a1 l1) (n1 : a1 = none → c1 = 0) (h2 : Sts 2 SC Tr w a2 l2) (n2 : a2 = none → c2 = 0) (hl : l1.length + l2.length ≤ 4398046511000) :
    Calls Try.prog 53 #[.slice (some ⟨w.heap.size + 1, 0, none⟩) 3 3] ((w.alloc (.cells #[.int .i64 (x0 : Nat), .int .i64 (x1 : Nat)] 76)).alloc (.cells #[.slice a1 l1.length c1, .slice a2 l2.length c2, .slice (some ⟨w.heap.size, 0, none⟩) 1 1] 90)) fun e w' => (∃ a' c', e = .returned (.slice a' (l1 ++ l2 ++ [(x0, x1)]).length c') ∧ OwnR 76 2 SC w.heap.size a' (l1 ++ l2 ++ [(x0, x1)]) c' w') ∧ Below w.heap.size w w' := by
  have hb1 := (Below.refl w.heap.size w).alloc (Nat.le_refl _) (.cells #[.int .i64 (x0 : Nat), .int .i64 (x1 : Nat)] 76)
  have h3 := sts_new encS w [(x0, x1)] 76 (0, 0)
  change Sts 2 SC Tr (w.alloc (.cells #[.int .i64 (x0 : Nat), .int .i64 (x1 : Nat)] 76)) _ _ at h3
  have hz : (w.alloc (.cells #[.int .i64 (x0 : Nat), .int .i64 (x1 : Nat)] 76)).heap.size = w.heap.size + 1 := by simp
  have k1 := Sts.belowT h1 hb1
  have k2 := Sts.belowT h2 hb1
  generalize w.alloc (.cells #[.int .i64 (x0 : Nat), .int .i64 (x1 : Nat)] 76) = V at hb1 h3 hz k1 k2 ⊢
  have hb := (Below.refl V.heap.size V).alloc (Nat.le_refl _) (.cells #[.slice a1 l1.length c1, .slice a2 l2.length c2, .slice (some ⟨w.heap.size, 0, none⟩) 1 1] 90)
  have hc : cat [(a1, l1, c1), (a2, l2, c2), (some ⟨w.heap.size, 0, none⟩, [(x0, x1)], 1)] = l1 ++ l2 ++ [(x0, x1)] := by simp [cat]
  have := concat_sp (some ⟨V.heap.size, 0, none⟩) [(a1, l1, c1), (a2, l2, c2), (some ⟨w.heap.size, 0, none⟩, [(x0, x1)], 1)] 3 _ (sts_new encL V [(a1, l1, c1), (a2, l2, c2), (some ⟨w.heap.size, 0, none⟩, [(x0, x1)], 1)] 90 (0, 0)) (fun y hx => by
    simp only [List.mem_cons, List.not_mem_nil, or_false] at hx
    rcases hx with rfl | rfl | rfl
    · exact ⟨Sts.belowT k1 hb, n1⟩
    · exact ⟨Sts.belowT k2 hb, n2⟩
    · exact ⟨Sts.belowT h3 hb, fun h => by cases h⟩) (by simp) (by rw [hc, List.length_append, List.length_append]; simp; omega)
  rw [hc] at this
  rw [← hz]
  refine this.mono ?_
  rintro e w' ⟨⟨a', c', rfl, hO⟩, hB⟩
  have hle : w.heap.size ≤ V.heap.size := by omega
  exact ⟨⟨a', c', rfl, hO.mono (Nat.le_trans hle hb.size)⟩, hb1.trans ((hb.trans (hB.mono hb.size)).mono hle)⟩
theorem mrg_small {out : List (Nat × Nat)} {x : Nat × Nat} (h : small out) (hx : x.1 < 4294967296 ∧ x.2 < 4294967296) : small (mrg out x) := by
  unfold mrg
  split
  · intro y hy
    rcases List.mem_append.1 hy with hy | hy
    · exact h y hy
    · simp at hy; subst hy; exact hx
  · rename_i y hy
    have h1 := h y (List.mem_of_getElem? hy)
    split
    · intro z hz
      rcases List.mem_or_eq_of_mem_set hz with hz | rfl
      · exact h z hz
      · exact ⟨h1.1, by have := h1.2; have := hx.2; show max y.2 x.2 < _; omega⟩
    · intro z hz
      rcases List.mem_append.1 hz with hz | hz
      · exact h z hz
      · simp at hz; subst hz; exact hx
theorem fold_small : ∀ (l out : List (Nat × Nat)), small out → small l → small (l.foldl mrg out)
  | [], _, h, _ => h
  | x :: l, _, h, hl => fold_small l _ (mrg_small h (hl x (by simp))) (fun y hy => hl y (List.mem_cons_of_mem _ hy))
theorem tog_small {l : List (Nat × Nat)} (h : small l) : small (tog l) := fold_small l [] (fun _ h => by cases h) h
theorem tog_le (l : List (Nat × Nat)) : (tog l).length ≤ l.length := by
  have := tog_len l l.length
  rwa [List.take_length] at this
theorem left_sub {ua : Nat} {l : List (Nat × Nat)} (h : small l) : small (left ua l) := fun x hx => h x (List.mem_filter.1 hx).1
theorem left_le (ua : Nat) (l : List (Nat × Nat)) : (left ua l).length ≤ l.length := List.length_filter_le _ _
theorem small_app {l m : List (Nat × Nat)} (h : small l) (k : small m) : small (l ++ m) := fun x hx => (List.mem_append.1 hx).elim (h x) (k x)
theorem small_one {x y : Nat} (h : x < 4294967296) (k : y < 4294967296) : small [(x, y)] := fun z hz => by simp at hz; subst hz; exact ⟨h, k⟩
def blkU (una : Nat) (x : Nat × Nat) : Nat × Nat := ((una + x.1) % 4294967296, (una + x.2) % 4294967296)
/-- What an acknowledgement makes. -/
def AckIs (una nxt high : Nat) (bs : List (Nat × Nat)) (ack : Nat) (fs : List (Nat × Nat)) (E : Int) (u x hh : Nat) (l : List (Nat × Nat)) (n : Int) : Prop :=
  (okS una nxt high bs ≠ true ∧ E = 171 ∧ u = 0 ∧ x = 0 ∧ hh = 0 ∧ l = [] ∧ n = 0) ∨
  (okS una nxt high bs = true ∧ pl una nxt < pl una ack ∧ E = 151 ∧ u = 0 ∧ x = 0 ∧ hh = 0 ∧ l = [] ∧ n = 0) ∨
  (okS una nxt high bs = true ∧ pl una ack ≤ pl una nxt ∧ E = 0 ∧ u = ack ∧ x = nxt ∧ hh = (una + max (pl una high) (pl una ack)) % 4294967296 ∧ ∃ s1 s2 af : List (Nat × Nat), s1.Perm (left (pl una ack) (sps una bs) ++ frS una (pl una nxt) (pl una ack) fs) ∧ rising s1 ∧
    af = (if (tog s1).length ≤ 1024 then tog s1 else left (pl una ack) (sps una bs)) ∧ s2.Perm (sps una bs ++ af ++ [(0, pl una ack)]) ∧ rising s2 ∧ l = af.map (blkU una) ∧ n = oct (tog s2) - oct (sps una bs))
def AOut (una nxt high : Nat) (bs : List (Nat × Nat)) (ack : Nat) (fs : List (Nat × Nat)) (B : Nat) (e : Ending) (w' : World) : Prop :=
  ∃ (E : Int) (u x hh : Nat) (l : List (Nat × Nat)) (n : Int) (a' : Option Addr) (c' : Nat), e = .returned (.tuple #[.agg #[.int .u32 (u : Nat), .int .u32 (x : Nat), .int .u32 (hh : Nat), .slice a' l.length c'], .int .i64 n, .int .i64 E]) ∧ AckIs una nxt high bs ack fs E u x hh l n ∧ OwnR 38 2 BC B a' l c' w'
set_option maxRecDepth 100000 in
set_option maxHeartbeats 4000000 in
theorem ack_any (una nxt high : Nat) (a : Option Addr) (bs : List (Nat × Nat)) (c ack : Nat) (a2 : Option Addr) (fs : List (Nat × Nat)) (d : Nat) (w : World) (hu : una < 4294967296) (_hx : nxt < 4294967296) (h : Sts 2 BC Tr w a bs) (hlen : bs.length ≤ 35184372088832) (h2 : Sts 2 BC Tr w a2 fs) (hv : small2 fs) (hfl : fs.length ≤ 2199023255552) :
    Calls Try.prog 28 #[.agg #[.int .u32 (una : Nat), .int .u32 (nxt : Nat), .int .u32 (high : Nat), .slice a bs.length c], .int .u32 (ack : Nat), .slice a2 fs.length d] w fun e w' => AOut una nxt high bs ack fs w.heap.size e w' ∧ Below w.heap.size w w' := by
  have HL := Lib.hid h
  have HF := Lib.hid h2
  have PFR := fun V (h : Sts 2 BC Tr V a2 fs) => fresh_any una nxt high a bs c (pl una ack) a2 fs d V hu (pl_lt _ _) h hv (by omega)
  have PPA := fun V => place_any una nxt high a bs.length c ack V hu
  have PPN := fun V => place_any una nxt high a bs.length c nxt V hu
  have PPH := fun V => place_any una nxt high a bs.length c high V hu
  clear h h2
  go_enter Try.func28, Try.ntmps28
  go_upto_region 1 with fail
  obtain ⟨x1, x2, x3, x4⟩ := two_b w (.cells #[.int .u32 (una : Nat), .int .u32 (nxt : Nat), .int .u32 (high : Nat), .slice a bs.length c] 26) (.cells #[.int .u32 0, .int .u32 0, .int .u32 0, .slice none 0 0] 26)
  have S0 := Lib.hid x1
  have Z0 := Lib.hid x2
  have Q0 := Lib.hid x4
  clear x1 x2 x3 x4
  generalize (w.alloc (.cells #[.int .u32 (una : Nat), .int .u32 (nxt : Nat), .int .u32 (high : Nat), .slice a bs.length c] 26)).alloc (.cells #[.int .u32 0, .int .u32 0, .int .u32 0, .slice none 0 0] 26) = V0 at S0 Z0 Q0 ⊢
  have L0 := Lib.hid (Sts.belowT HL.out Q0.out)
  have F0 := Lib.hid (Sts.belowT HF.out Q0.out)
  obtain ⟨E0, hE0⟩ : ∃ E, chkE una nxt high bs = E := ⟨_, rfl⟩
  have HE0 := Lib.hid hE0
  clear hE0
  have c0 := blk_cell S0.out 0
  have c1 := blk_cell S0.out 1
  have c2 := blk_cell S0.out 2
  have c3 := blk_cell S0.out 3
  go_wp2_with fail
  refine (check_all una nxt high a bs c V0 hu L0.out hlen).mono ?_
  rintro e V1 ⟨rfl, hB⟩
  have S1 := Lib.hid ((hB.block _ (blk_lt S0.out)).trans S0.out)
  have Z1 := Lib.hid ((hB.block _ (blk_lt Z0.out)).trans Z0.out)
  have L1 := Lib.hid (Sts.belowT L0.out hB)
  have F1 := Lib.hid (Sts.belowT F0.out hB)
  have Q1 := Lib.hid (Q0.out.trans (hB.mono Q0.out.size))
  clear hB S0 Z0 L0 F0 Q0 c0 c1 c2 c3
  rw [HE0.out]
  by_cases hk : okS una nxt high bs = true
  case neg =>
    have hE : E0 = 171 := by rw [← HE0.out]; unfold chkE; rw [if_neg hk]
    subst hE
    have HK := Lib.hid hk
    clear hk
    have hz := blk_lt Z1.out
    go_wp2_with (first
      | ((with_reducible show wpList _ _ _ _ _ _); refine wpList_store_blk rowPS (t := 26) (w := V1) rfl (.tmp 6) (.tmp 22) rfl (w.heap.size + 1) #[.int .u32 0, .int .u32 0, .int .u32 0, .slice none 0 0] #[.int .u32 0, .int .u32 0, .int .u32 0, .slice none 0 0] rfl rfl Z1.out rfl rfl (by simp [Value.oneCell']) ?_; intro V7 hb7 hg7; have ZB7 := Lib.hid hb7; have Q7 := Lib.hid (Q1.out.grown hg7 (by have := Q1.out.size; omega) (fun k e => by have := Option.some.inj e; omega)); clear hb7 hg7)
      | fail)
    refine bodyPost_ret (results_ctt rowPS rfl _ _ (w.heap.size + 1) _ (.int .i64 0) (.int .i64 171) rfl rfl rfl ZB7.out rfl) rfl ⟨⟨171, 0, 0, 0, [], 0, none, 0, rfl, .inl ⟨HK.out, rfl, rfl, rfl, rfl, rfl, rfl⟩, ownR_nil _ _ _ _ _⟩, Q7.out⟩
  case pos =>
  have hE : E0 = 0 := by rw [← HE0.out]; unfold chkE; rw [if_pos hk]
  subst hE
  obtain ⟨k1, k2, k3, _⟩ := okS_iff.1 hk
  have HK := Lib.hid hk
  have HAI := Lib.hid (show ∀ E u x hh l n, AckIs una nxt high bs ack fs E u x hh l n ↔ AckIs una nxt high bs ack fs E u x hh l n from fun _ _ _ _ _ _ => Iff.rfl)
  obtain ⟨ua, hua⟩ : ∃ z, pl una ack = z := ⟨_, rfl⟩
  obtain ⟨st, hst⟩ : ∃ z, pl una nxt = z := ⟨_, rfl⟩
  obtain ⟨hi, hhi⟩ : ∃ z, pl una high = z := ⟨_, rfl⟩
  obtain ⟨fr, hfr⟩ : ∃ z, frS una st ua fs = z := ⟨_, rfl⟩
  obtain ⟨be, hbe⟩ : ∃ z, sps una bs = z := ⟨_, rfl⟩
  have hbl : be.length ≤ 1024 := by rw [← hbe, sps_len]; exact k3
  have hbs : small be := by rw [← hbe]; exact sps_small _ _
  have hfrl : fr.length ≤ 2199023255552 := by rw [← hfr]; exact Nat.le_trans (frS_len _ _ _ _) hfl
  have hfrs : small fr := by rw [← hfr]; exact sps_small _ _
  have hua1 : ua < 4294967296 := by rw [← hua]; exact pl_lt _ _
  have PSP := fun V (h : Sts 2 BC Tr V a bs) => spans_len una nxt high a bs c V hu h k3
  rw [hua] at PPA
  rw [hst] at PPN k1 k2
  rw [hhi] at PPH k2
  rw [hua, hst, hfr] at PFR
  rw [hbe] at PSP
  have HPSP := Lib.hid PSP
  have HPFR := Lib.hid PFR
  have HPPA := Lib.hid PPA
  have HPPN := Lib.hid PPN
  have HPPH := Lib.hid PPH
  have HUA := Lib.hid hua
  have HST := Lib.hid hst
  have HHI := Lib.hid hhi
  have HFR := Lib.hid hfr
  have HBE := Lib.hid hbe
  have HBS := Lib.hid hbs
  have HFRS := Lib.hid hfrs
  clear hk hua hst hhi hfr hbe hbs hfrs PSP PFR PPA PPN PPH HAI
  have c0 := blk_cell S1.out 0
  have c1 := blk_cell S1.out 1
  have c2 := blk_cell S1.out 2
  have c3 := blk_cell S1.out 3
  go_wp2_with fail
  refine (HPPA.out V1).mono ?_
  rintro e V2 ⟨rfl, hB⟩
  have S2 := Lib.hid ((hB.block _ (blk_lt S1.out)).trans S1.out)
  have Z2 := Lib.hid ((hB.block _ (blk_lt Z1.out)).trans Z1.out)
  have L2 := Lib.hid (Sts.belowT L1.out hB)
  have F2 := Lib.hid (Sts.belowT F1.out hB)
  have Q2 := Lib.hid (Q1.out.trans (hB.mono Q1.out.size))
  clear hB S1 Z1 L1 F1 Q1 c0 c1 c2 c3
  have hb9 := (Below.refl V2.heap.size V2).alloc (Nat.le_refl _) (.cells #[.int .i64 (ua : Nat)] 3)
  have U3 := Lib.hid (blk_new V2 (.cells #[.int .i64 (ua : Nat)] 3))
  have S3 := Lib.hid ((hb9.block _ (blk_lt S2.out)).trans S2.out)
  have Z3 := Lib.hid ((hb9.block _ (blk_lt Z2.out)).trans Z2.out)
  have L3 := Lib.hid (Sts.belowT L2.out hb9)
  have F3 := Lib.hid (Sts.belowT F2.out hb9)
  have Q3 := Lib.hid (Q2.out.trans (hb9.mono Q2.out.size))
  clear hb9 S2 Z2 L2 F2 Q2
  go_upto_region 5 with fail
  obtain ⟨gu, hgu⟩ : ∃ q, V2.heap.size = q := ⟨_, rfl⟩
  generalize V2.alloc (.cells #[.int .i64 (ua : Nat)] 3) = V3 at S3 Z3 L3 F3 U3 Q3 ⊢
  rw [hgu] at U3 ⊢
  clear hgu
  have c0 := blk_cell S3.out 0
  have c1 := blk_cell S3.out 1
  have c2 := blk_cell S3.out 2
  have c3 := blk_cell S3.out 3
  have u0 := blk_cell U3.out 0
  by_cases hgt : st < ua
  case pos =>
    have d1 : decide ((st : Int) < (ua : Int)) = true := decide_eq_true (by omega)
    have d2 : decide (st < ua) = true := decide_eq_true hgt
    have qc0 := cell_regrown (show V3.cell? ⟨w.heap.size, 0, none⟩ = some (.int .u32 (una : Nat)) from c0)
    have qc1 := cell_regrown (show V3.cell? ⟨w.heap.size, 1, none⟩ = some (.int .u32 (nxt : Nat)) from c1)
    have qc2 := cell_regrown (show V3.cell? ⟨w.heap.size, 2, none⟩ = some (.int .u32 (high : Nat)) from c2)
    have qc3 := cell_regrown (show V3.cell? ⟨w.heap.size, 3, none⟩ = some (.slice a bs.length c) from c3)
    have qu0 := cell_regrown (show V3.cell? ⟨gu, 0, none⟩ = some (.int .i64 (ua : Nat)) from u0)
    have cS : ∀ d os, Calls Try.prog 34 #[.agg #[.int .u32 (una : Nat), .int .u32 (nxt : Nat), .int .u32 (high : Nat), .slice a bs.length c], .int .u32 (nxt : Nat)] (grow (redrawn V3 d) os) fun e w'' => e = .returned (.int .i64 (st : Nat)) ∧ ∃ p : Regrown, w'' = grow (redrawn V3 p.d) p.os := fun d os => Calls.regrown_of (HPPN.out _)
    refine wp_region_quiet_below (by kernel_rfl) (by kernel_rfl) ?_
    repeat (go_big_quiet_step (first | (go_at_call 34; exact cS _ _)))
    refine wpQuiet_nil ?_
    intro _ hw'
    obtain ⟨⟨dq, osq⟩, hw''⟩ := hw'
    subst hw''
    have hB := below_regrown V3 dq osq
    clear qc0 qc1 qc2 qc3 qu0 cS
    dsimp only
    generalize grow (redrawn V3 dq) osq = V4 at hB ⊢
    have S4 := Lib.hid ((hB.block _ (blk_lt S3.out)).trans S3.out)
    have Z4 := Lib.hid ((hB.block _ (blk_lt Z3.out)).trans Z3.out)
    have Q4 := Lib.hid (Q3.out.trans (hB.mono Q3.out.size))
    clear hB c0 c1 c2 c3 u0
    have hz := blk_lt Z4.out
    go_wp2_with (first
      | ((with_reducible show wpList _ _ _ _ _ _); refine wpList_store_blk rowPS (t := 26) (w := V4) rfl (.tmp 6) (.tmp 33) rfl (w.heap.size + 1) #[.int .u32 0, .int .u32 0, .int .u32 0, .slice none 0 0] #[.int .u32 0, .int .u32 0, .int .u32 0, .slice none 0 0] rfl rfl Z4.out rfl rfl (by simp [Value.oneCell']) ?_; intro V7 hb7 hg7; have ZB7 := Lib.hid hb7; have Q7 := Lib.hid (Q4.out.grown hg7 (by have := Q4.out.size; omega) (fun k e => by have := Option.some.inj e; omega)); clear hb7 hg7)
      | fail)
    refine bodyPost_ret (results_ctt rowPS rfl _ _ (w.heap.size + 1) _ (.int .i64 0) (.int .i64 151) rfl rfl rfl ZB7.out rfl) rfl ⟨⟨151, 0, 0, 0, [], 0, none, 0, rfl, .inr (.inl ⟨HK.out, by rw [HST.out, HUA.out]; exact hgt, rfl, rfl, rfl, rfl, rfl, rfl⟩), ownR_nil _ _ _ _ _⟩, Q7.out⟩
  case neg =>
  have d1 : decide ((st : Int) < (ua : Int)) = false := decide_eq_false (by omega)
  have d2 : decide (st < ua) = false := decide_eq_false hgt
  have qc0 := cell_regrown (show V3.cell? ⟨w.heap.size, 0, none⟩ = some (.int .u32 (una : Nat)) from c0)
  have qc1 := cell_regrown (show V3.cell? ⟨w.heap.size, 1, none⟩ = some (.int .u32 (nxt : Nat)) from c1)
  have qc2 := cell_regrown (show V3.cell? ⟨w.heap.size, 2, none⟩ = some (.int .u32 (high : Nat)) from c2)
  have qc3 := cell_regrown (show V3.cell? ⟨w.heap.size, 3, none⟩ = some (.slice a bs.length c) from c3)
  have qu0 := cell_regrown (show V3.cell? ⟨gu, 0, none⟩ = some (.int .i64 (ua : Nat)) from u0)
  have cS : ∀ d os, Calls Try.prog 34 #[.agg #[.int .u32 (una : Nat), .int .u32 (nxt : Nat), .int .u32 (high : Nat), .slice a bs.length c], .int .u32 (nxt : Nat)] (grow (redrawn V3 d) os) fun e w'' => e = .returned (.int .i64 (st : Nat)) ∧ ∃ p : Regrown, w'' = grow (redrawn V3 p.d) p.os := fun d os => Calls.regrown_of (HPPN.out _)
  refine wp_region_quiet_below (by kernel_rfl) (by kernel_rfl) ?_
  repeat (go_big_quiet_step (first | (go_at_call 34; exact cS _ _)))
  refine wpQuiet_nil ?_
  intro _ hw'
  obtain ⟨⟨dq, osq⟩, hw''⟩ := hw'
  subst hw''
  have hB := below_regrown V3 dq osq
  clear qc0 qc1 qc2 qc3 qu0 cS
  dsimp only
  generalize grow (redrawn V3 dq) osq = V4 at hB ⊢
  have S4 := Lib.hid ((hB.block _ (blk_lt S3.out)).trans S3.out)
  have Z4 := Lib.hid ((hB.block _ (blk_lt Z3.out)).trans Z3.out)
  have U4 := Lib.hid ((hB.block _ (blk_lt U3.out)).trans U3.out)
  have L4 := Lib.hid (Sts.belowT L3.out hB)
  have F4 := Lib.hid (Sts.belowT F3.out hB)
  have Q4 := Lib.hid (Q3.out.trans (hB.mono Q3.out.size))
  clear hB S3 Z3 U3 L3 F3 Q3 c0 c1 c2 c3 u0
  have hgu := blk_lt U4.out
  clear d1 d2
  have c0 := blk_cell S4.out 0
  have c1 := blk_cell S4.out 1
  have c2 := blk_cell S4.out 2
  have c3 := blk_cell S4.out 3
  go_wp2_with fail
  refine (HPSP.out V4 L4.out).mono ?_
  rintro e V5 ⟨⟨aB, cB, rfl, hO⟩, hB⟩
  have S5 := Lib.hid ((hB.block _ (blk_lt S4.out)).trans S4.out)
  have Z5 := Lib.hid ((hB.block _ (blk_lt Z4.out)).trans Z4.out)
  have U5 := Lib.hid ((hB.block _ (blk_lt U4.out)).trans U4.out)
  have L5 := Lib.hid (Sts.belowT L4.out hB)
  have F5 := Lib.hid (Sts.belowT F4.out hB)
  have Q5 := Lib.hid (Q4.out.trans (hB.mono Q4.out.size))
  have B5 := Lib.hid (hO.sts encS)
  have HNB := Lib.hid hO.nilcap
  clear hO
  clear hB S4 Z4 U4 L4 F4 Q4 c0 c1 c2 c3
  go_wp2_with fail
  have hX := clone_sp aB be cB V5 B5.out HNB.out (by omega)
  refine hX.mono ?_
  clear hX
  rintro e W1 ⟨⟨a3, c3, rfl, hO⟩, hB1⟩
  go_wp2_with fail
  have hX := delete_any ua gu V5.heap.size a3 be c3 W1 hO (by omega) ((hB1.block _ (blk_lt U5.out)).trans U5.out) (blk_lt U5.out) hB1.size
  refine hX.mono ?_
  clear hX
  rintro e V6 ⟨rfl, hO2, hB2⟩
  have hB := hB1.trans hB2
  have S6 := Lib.hid ((hB.block _ (blk_lt S5.out)).trans S5.out)
  have Z6 := Lib.hid ((hB.block _ (blk_lt Z5.out)).trans Z5.out)
  have U6 := Lib.hid ((hB.block _ (blk_lt U5.out)).trans U5.out)
  have L6 := Lib.hid (Sts.belowT L5.out hB)
  have F6 := Lib.hid (Sts.belowT F5.out hB)
  have B6 := Lib.hid (Sts.belowT B5.out hB)
  have Q6 := Lib.hid (Q5.out.trans (hB.mono Q5.out.size))
  have T6 := Lib.hid (hO2.sts encS)
  have HNT := Lib.hid hO2.nilcap
  clear hO hO2
  clear hB S5 Z5 U5 L5 F5 B5 Q5
  clear hB1 hB2
  have hll : (left ua be).length ≤ 1024 := Nat.le_trans (left_le ua be) hbl
  have HLS := Lib.hid (left_sub (ua := ua) HBS.out)
  obtain ⟨lf, hlf⟩ : ∃ z, left ua be = z := ⟨_, rfl⟩
  rw [hlf] at T6 hll HLS
  simp only [hlf]
  have HLF := Lib.hid hlf
  clear hlf
  have c0 := blk_cell S6.out 0
  have c1 := blk_cell S6.out 1
  have c2 := blk_cell S6.out 2
  have c3 := blk_cell S6.out 3
  have u0 := blk_cell U6.out 0
  go_wp2_with fail
  refine (HPFR.out V6 F6.out).mono ?_
  rintro e V7 ⟨⟨a4, c4, rfl, hO⟩, hB⟩
  have S7 := Lib.hid ((hB.block _ (blk_lt S6.out)).trans S6.out)
  have Z7 := Lib.hid ((hB.block _ (blk_lt Z6.out)).trans Z6.out)
  have U7 := Lib.hid ((hB.block _ (blk_lt U6.out)).trans U6.out)
  have L7 := Lib.hid (Sts.belowT L6.out hB)
  have F7 := Lib.hid (Sts.belowT F6.out hB)
  have B7 := Lib.hid (Sts.belowT B6.out hB)
  have T7 := Lib.hid (Sts.belowT T6.out hB)
  have Q7 := Lib.hid (Q6.out.trans (hB.mono Q6.out.size))
  have R7 := Lib.hid (hO.sts encS)
  have HNR := Lib.hid hO.nilcap
  clear hO
  clear hB S6 Z6 U6 L6 F6 B6 T6 Q6 c0 c1 c2 c3 u0
  go_wp2_with fail
  have hX := concat2 a3 lf c3 a4 fr c4 V7 T7.out HNT.out R7.out HNR.out (by omega)
  refine hX.mono ?_
  clear hX
  rintro e W1 ⟨⟨a5, c5, rfl, hO⟩, hB1⟩
  obtain ⟨m1, hm1⟩ : ∃ z, lf ++ fr = z := ⟨_, rfl⟩
  have hml : m1.length ≤ 4398046511104 := by rw [← hm1, List.length_append]; omega
  have HMS : Hid (small m1) := Lib.hid (by rw [← hm1]; exact small_app HLS.out HFRS.out)
  rw [hm1] at hO
  simp only [hm1]
  have HM1 := Lib.hid hm1
  clear hm1
  go_wp2_with fail
  have hX := together_any V7.heap.size a5 m1 c5 W1 hO HMS.out hml hB1.size
  refine hX.mono ?_
  clear hX
  rintro e V8 ⟨s1, hp1, hr1, ⟨a6, c6, rfl, hO2⟩, hB2⟩
  have hB := hB1.trans hB2
  have S8 := Lib.hid ((hB.block _ (blk_lt S7.out)).trans S7.out)
  have Z8 := Lib.hid ((hB.block _ (blk_lt Z7.out)).trans Z7.out)
  have U8 := Lib.hid ((hB.block _ (blk_lt U7.out)).trans U7.out)
  have L8 := Lib.hid (Sts.belowT L7.out hB)
  have F8 := Lib.hid (Sts.belowT F7.out hB)
  have B8 := Lib.hid (Sts.belowT B7.out hB)
  have T8 := Lib.hid (Sts.belowT T7.out hB)
  have R8 := Lib.hid (Sts.belowT R7.out hB)
  have Q8 := Lib.hid (Q7.out.trans (hB.mono Q7.out.size))
  have M8 := Lib.hid (hO2.sts encS)
  have HNM := Lib.hid hO2.nilcap
  have HP1 := Lib.hid hp1
  have HR1 := Lib.hid hr1
  clear hO hO2 hp1 hr1
  clear hB S7 Z7 U7 L7 F7 B7 T7 R7 Q7
  clear hB1 hB2
  have htl : (tog s1).length ≤ 4398046511104 := Nat.le_trans (tog_le s1) (by rw [HP1.out.length_eq]; exact hml)
  have HTS := Lib.hid (tog_small (small_perm HP1.out HMS.out))
  obtain ⟨t1, ht1⟩ : ∃ z, tog s1 = z := ⟨_, rfl⟩
  rw [ht1] at M8 htl HTS
  simp only [ht1]
  have HT1 := Lib.hid ht1
  clear ht1
  go_upto_if 50 with fail
  go_cut [13] (fun (v : Value) (wx : World) => ∃ (af : List (Nat × Nat)) (a7 : Option Addr) (c7 : Nat), v = .slice a7 af.length c7 ∧ Hid (af = if t1.length ≤ 1024 then t1 else lf) ∧ Hid (small af) ∧ af.length ≤ 1024 ∧ Sts 2 SC Tr wx a7 af ∧ Hid (a7 = none → c7 = 0) ∧ V8 = wx)
  case first =>
    by_cases hle : t1.length ≤ 1024
    case pos =>
      have k5 : ¬ ((1024 : Int) < (t1.length : Int)) := by omega
      have k6 : decide (1024 < t1.length) = false := decide_eq_false (by omega)
      have k7 : decide ((1024 : Int) < (t1.length : Int)) = false := decide_eq_false k5
      go_wp2_with fail
      go_meet
      exact ⟨t1, a6, c6, rfl, Lib.hid (by rw [if_pos hle]), HTS, hle, M8.out, HNM, rfl⟩
    case neg =>
      have k5 : ((1024 : Int) < (t1.length : Int)) := by omega
      have k6 : decide (1024 < t1.length) = true := decide_eq_true (by omega)
      have k7 : decide ((1024 : Int) < (t1.length : Int)) = true := decide_eq_true k5
      go_wp2_with fail
      go_meet
      exact ⟨lf, a3, c3, rfl, Lib.hid (by rw [if_neg hle]), HLS, hll, T8.out, HNT, rfl⟩
  case rest =>
  obtain ⟨af, a7, c7, rfl, HAF, HAS, hal, hA, HNA, hV⟩ := hcut
  subst hV
  have A8 := Lib.hid hA
  clear hA
  have u0 := blk_cell U8.out 0
  go_wp2_with fail
  have hX := concat3 aB be cB a7 af c7 0 ua V8 B8.out HNB.out A8.out HNA.out (by omega)
  refine hX.mono ?_
  clear hX
  rintro e W1 ⟨⟨a8, c8, rfl, hO⟩, hB1⟩
  obtain ⟨m2, hm2⟩ : ∃ z, be ++ af ++ [(0, ua)] = z := ⟨_, rfl⟩
  have hml2 : m2.length ≤ 4398046511104 := by rw [← hm2, List.length_append, List.length_append]; simp only [List.length_cons, List.length_nil]; omega
  have HMS2 : Hid (small m2) := Lib.hid (by rw [← hm2]; exact small_app (small_app HBS.out HAS.out) (small_one (by omega) hua1))
  rw [hm2] at hO
  simp only [hm2]
  have HM2 := Lib.hid hm2
  clear hm2
  go_wp2_with fail
  have hX := together_any V8.heap.size a8 m2 c8 W1 hO HMS2.out hml2 hB1.size
  refine hX.mono ?_
  clear hX
  rintro e V9 ⟨s2, hp2, hr2, ⟨a9, c9, rfl, hO2⟩, hB2⟩
  have hB := hB1.trans hB2
  have S9 := Lib.hid ((hB.block _ (blk_lt S8.out)).trans S8.out)
  have Z9 := Lib.hid ((hB.block _ (blk_lt Z8.out)).trans Z8.out)
  have U9 := Lib.hid ((hB.block _ (blk_lt U8.out)).trans U8.out)
  have L9 := Lib.hid (Sts.belowT L8.out hB)
  have F9 := Lib.hid (Sts.belowT F8.out hB)
  have B9 := Lib.hid (Sts.belowT B8.out hB)
  have T9 := Lib.hid (Sts.belowT T8.out hB)
  have R9 := Lib.hid (Sts.belowT R8.out hB)
  have M9 := Lib.hid (Sts.belowT M8.out hB)
  have A9 := Lib.hid (Sts.belowT A8.out hB)
  have Q9 := Lib.hid (Q8.out.trans (hB.mono Q8.out.size))
  have K9 := Lib.hid (hO2.sts encS)
  have HP2 := Lib.hid hp2
  have HR2 := Lib.hid hr2
  clear hO hO2 hp2 hr2
  clear hB S8 Z8 U8 L8 F8 B8 T8 R8 M8 A8 Q8 u0
  clear hB1 hB2
  have hcl : (tog s2).length ≤ 4096 := Nat.le_trans (tog_le s2) (by rw [HP2.out.length_eq, ← HM2.out, List.length_append, List.length_append]; simp only [List.length_cons, List.length_nil]; omega)
  have HCS := Lib.hid (tog_small (small_perm HP2.out HMS2.out))
  obtain ⟨t2, ht2⟩ : ∃ z, tog s2 = z := ⟨_, rfl⟩
  rw [ht2] at K9 hcl HCS
  simp only [ht2]
  have HT2 := Lib.hid ht2
  clear ht2
  obtain ⟨X, hX⟩ : ∃ z, (una + max hi ua) % 4294967296 = z := ⟨_, rfl⟩
  obtain ⟨mx, hmx⟩ : ∃ z, max hi ua = z := ⟨_, rfl⟩
  rw [hmx] at hX
  have hmx1 : mx ≤ 1073741824 := by omega
  have e5 : max (hi : Int) (ua : Int) = ((mx : Nat) : Int) := by omega
  have w6 : IntKind.u32.wrap (mx : Int) = (mx : Int) := by rw [IntKind.wrap_u32]; omega
  have w7 : IntKind.u32.wrap ((una : Int) + (mx : Int)) = (X : Int) := by rw [IntKind.wrap_u32]; omega
  have HX := Lib.hid hX
  have HMX := Lib.hid hmx
  clear hX hmx
  go_upto_region 13 with fail
  have S_0 := S9
  have U_0 := U9
  have Sz_0 := blk_lt S_0.out
  have Uz_0 := blk_lt U_0.out
  have q_0 := Below.refl V9.heap.size V9
  have y := ((Below.refl V9.heap.size V9).alloc (Nat.le_refl _) (.cells #[.int .u32 0, .int .u32 0, .int .u32 0, .slice none 0 0] 26)).drew
  have SY := Lib.hid ((y.block _ Sz_0).trans S_0.out)
  have SYz := Nat.lt_of_lt_of_le Sz_0 y.size
  have SN : Hid (V9.heap.size ≠ w.heap.size) := Lib.hid (Nat.ne_of_gt Sz_0)
  have UY := Lib.hid ((y.block _ Uz_0).trans U_0.out)
  have UYz := Nat.lt_of_lt_of_le Uz_0 y.size
  have UN : Hid (V9.heap.size ≠ gu) := Lib.hid (Nat.ne_of_gt Uz_0)
  have XY := Lib.hid (blk_new V9 (.cells #[.int .u32 0, .int .u32 0, .int .u32 0, .slice none 0 0] 26))
  have cjD : Hid (V9.drew.cell? ⟨w.heap.size, 0, none⟩ = some (.int .u32 (una : Nat)) ∧ V9.drew.cell? ⟨w.heap.size, 1, none⟩ = some (.int .u32 (nxt : Nat)) ∧ V9.drew.cell? ⟨w.heap.size, 2, none⟩ = some (.int .u32 (high : Nat)) ∧ V9.drew.cell? ⟨w.heap.size, 3, none⟩ = some (.slice a bs.length c) ∧ V9.drew.cell? ⟨gu, 0, none⟩ = some (.int .i64 (ua : Nat))) := Lib.hid ⟨blk_cell S_0.out 0, blk_cell S_0.out 1, blk_cell S_0.out 2, blk_cell S_0.out 3, blk_cell U_0.out 0⟩
  have cjY : Hid ((V9.alloc (.cells #[.int .u32 0, .int .u32 0, .int .u32 0, .slice none 0 0] 26)).drew.cell? ⟨w.heap.size, 0, none⟩ = some (.int .u32 (una : Nat)) ∧ (V9.alloc (.cells #[.int .u32 0, .int .u32 0, .int .u32 0, .slice none 0 0] 26)).drew.cell? ⟨w.heap.size, 1, none⟩ = some (.int .u32 (nxt : Nat)) ∧ (V9.alloc (.cells #[.int .u32 0, .int .u32 0, .int .u32 0, .slice none 0 0] 26)).drew.cell? ⟨w.heap.size, 2, none⟩ = some (.int .u32 (high : Nat)) ∧ (V9.alloc (.cells #[.int .u32 0, .int .u32 0, .int .u32 0, .slice none 0 0] 26)).drew.cell? ⟨w.heap.size, 3, none⟩ = some (.slice a bs.length c) ∧ (V9.alloc (.cells #[.int .u32 0, .int .u32 0, .int .u32 0, .slice none 0 0] 26)).drew.cell? ⟨gu, 0, none⟩ = some (.int .i64 (ua : Nat))) := Lib.hid ⟨blk_cell SY.out 0, blk_cell SY.out 1, blk_cell SY.out 2, blk_cell SY.out 3, blk_cell UY.out 0⟩
  have qD := Lib.hid q_0.drew
  have qY := Lib.hid (q_0.trans (y.mono q_0.size))
  have HVL : Hid (V9.heap.size ≤ V9.heap.size) := Lib.hid q_0.size
  clear y
  go_wp2_with fail
  go_cut [15, 14] (fun (pt pe : Value) (wx : World) => BoxCut V9 (fun W' : World => W'.heap[w.heap.size]? = some (.cells #[.int .u32 (una : Nat), .int .u32 (nxt : Nat), .int .u32 (high : Nat), .slice a bs.length c] 26 (0, 0)) ∧ W'.heap[gu]? = some (.cells #[.int .i64 (ua : Nat)] 3 (0, 0))) #[.int .u32 (ack : Nat), .int .u32 (nxt : Nat), .int .u32 (X : Nat), .slice none 0 0] 26 ((.slice a9 t2.length c9)) V9 pt pe wx)
  case first =>
    go_region_held3 (fun W' => W'.cell? ⟨w.heap.size, 0, none⟩ = some (.int .u32 (una : Nat)) ∧ W'.cell? ⟨w.heap.size, 1, none⟩ = some (.int .u32 (nxt : Nat)) ∧ W'.cell? ⟨w.heap.size, 2, none⟩ = some (.int .u32 (high : Nat)) ∧ W'.cell? ⟨w.heap.size, 3, none⟩ = some (.slice a bs.length c) ∧ W'.cell? ⟨gu, 0, none⟩ = some (.int .i64 (ua : Nat))) (first | (with_reducible exact cjD.out) | (with_reducible exact cjY.out) | (with_reducible exact cjW.out) | (with_reducible exact cjA.out _) | (with_reducible exact cjX.out) | go_keep) (first
      | (go_at_call 34; (with_reducible refine (HPPH.out (V9.drew)).mono ?_); rintro e WX ⟨rfl, b⟩; have S1 := Lib.hid ((b.block _ Sz_0).trans S_0.out); have Sz1 := Nat.lt_of_lt_of_le Sz_0 b.size; have U1 := Lib.hid ((b.block _ Uz_0).trans U_0.out); have Uz1 := Nat.lt_of_lt_of_le Uz_0 b.size; have cjW : Hid (WX.cell? ⟨w.heap.size, 0, none⟩ = some (.int .u32 (una : Nat)) ∧ WX.cell? ⟨w.heap.size, 1, none⟩ = some (.int .u32 (nxt : Nat)) ∧ WX.cell? ⟨w.heap.size, 2, none⟩ = some (.int .u32 (high : Nat)) ∧ WX.cell? ⟨w.heap.size, 3, none⟩ = some (.slice a bs.length c) ∧ WX.cell? ⟨gu, 0, none⟩ = some (.int .i64 (ua : Nat))) := Lib.hid ⟨blk_cell S1.out 0, blk_cell S1.out 1, blk_cell S1.out 2, blk_cell S1.out 3, blk_cell U1.out 0⟩; have QW := Lib.hid (qD.out.trans (b.mono qD.out.size)); have VL1 := Lib.hid b.size; have cjA : Hid (∀ o : Obj, (WX.alloc o).cell? ⟨w.heap.size, 0, none⟩ = some (.int .u32 (una : Nat)) ∧ (WX.alloc o).cell? ⟨w.heap.size, 1, none⟩ = some (.int .u32 (nxt : Nat)) ∧ (WX.alloc o).cell? ⟨w.heap.size, 2, none⟩ = some (.int .u32 (high : Nat)) ∧ (WX.alloc o).cell? ⟨w.heap.size, 3, none⟩ = some (.slice a bs.length c) ∧ (WX.alloc o).cell? ⟨gu, 0, none⟩ = some (.int .i64 (ua : Nat))) := Lib.hid (fun o => by have ya := (Below.refl WX.heap.size WX).alloc (Nat.le_refl _) o; exact ⟨blk_cell ((ya.block _ Sz1).trans S1.out) 0, blk_cell ((ya.block _ Sz1).trans S1.out) 1, blk_cell ((ya.block _ Sz1).trans S1.out) 2, blk_cell ((ya.block _ Sz1).trans S1.out) 3, blk_cell ((ya.block _ Uz1).trans U1.out) 0⟩); clear b)
      | (go_at_call 34; (with_reducible refine (HPPH.out ((V9.alloc (.cells #[.int .u32 0, .int .u32 0, .int .u32 0, .slice none 0 0] 26)).drew)).mono ?_); rintro e WX ⟨rfl, b⟩; have S1 := Lib.hid ((b.block _ SYz).trans SY.out); have U1 := Lib.hid ((b.block _ UYz).trans UY.out); have X1 := Lib.hid ((b.block V9.heap.size (by simp)).trans XY.out); have cjW : Hid (WX.cell? ⟨w.heap.size, 0, none⟩ = some (.int .u32 (una : Nat)) ∧ WX.cell? ⟨w.heap.size, 1, none⟩ = some (.int .u32 (nxt : Nat)) ∧ WX.cell? ⟨w.heap.size, 2, none⟩ = some (.int .u32 (high : Nat)) ∧ WX.cell? ⟨w.heap.size, 3, none⟩ = some (.slice a bs.length c) ∧ WX.cell? ⟨gu, 0, none⟩ = some (.int .i64 (ua : Nat))) := Lib.hid ⟨blk_cell S1.out 0, blk_cell S1.out 1, blk_cell S1.out 2, blk_cell S1.out 3, blk_cell U1.out 0⟩; have QW := Lib.hid (qY.out.trans (b.mono qY.out.size)); have x0 := blk_free X1.out 0; have y0 := blk_cell X1.out 0; have x1 := blk_free X1.out 1; have y1 := blk_cell X1.out 1; have x2 := blk_free X1.out 2; have y2 := blk_cell X1.out 2; have x3 := blk_free X1.out 3; have y3 := blk_cell X1.out 3; have cjX : Hid (((((WX.setCell ⟨V9.heap.size, 0, none⟩ (.int .u32 (ack : Nat))).setCell ⟨V9.heap.size, 1, none⟩ (.int .u32 (nxt : Nat))).setCell ⟨V9.heap.size, 2, none⟩ (.int .u32 (X : Nat))).setCell ⟨V9.heap.size, 3, none⟩ (.slice none 0 0)).cell? ⟨w.heap.size, 0, none⟩ = some (.int .u32 (una : Nat)) ∧ ((((WX.setCell ⟨V9.heap.size, 0, none⟩ (.int .u32 (ack : Nat))).setCell ⟨V9.heap.size, 1, none⟩ (.int .u32 (nxt : Nat))).setCell ⟨V9.heap.size, 2, none⟩ (.int .u32 (X : Nat))).setCell ⟨V9.heap.size, 3, none⟩ (.slice none 0 0)).cell? ⟨w.heap.size, 1, none⟩ = some (.int .u32 (nxt : Nat)) ∧ ((((WX.setCell ⟨V9.heap.size, 0, none⟩ (.int .u32 (ack : Nat))).setCell ⟨V9.heap.size, 1, none⟩ (.int .u32 (nxt : Nat))).setCell ⟨V9.heap.size, 2, none⟩ (.int .u32 (X : Nat))).setCell ⟨V9.heap.size, 3, none⟩ (.slice none 0 0)).cell? ⟨w.heap.size, 2, none⟩ = some (.int .u32 (high : Nat)) ∧ ((((WX.setCell ⟨V9.heap.size, 0, none⟩ (.int .u32 (ack : Nat))).setCell ⟨V9.heap.size, 1, none⟩ (.int .u32 (nxt : Nat))).setCell ⟨V9.heap.size, 2, none⟩ (.int .u32 (X : Nat))).setCell ⟨V9.heap.size, 3, none⟩ (.slice none 0 0)).cell? ⟨w.heap.size, 3, none⟩ = some (.slice a bs.length c) ∧ ((((WX.setCell ⟨V9.heap.size, 0, none⟩ (.int .u32 (ack : Nat))).setCell ⟨V9.heap.size, 1, none⟩ (.int .u32 (nxt : Nat))).setCell ⟨V9.heap.size, 2, none⟩ (.int .u32 (X : Nat))).setCell ⟨V9.heap.size, 3, none⟩ (.slice none 0 0)).cell? ⟨gu, 0, none⟩ = some (.int .i64 (ua : Nat))) := Lib.hid ⟨blk_cell (blk_other (i := 3) (blk_other (i := 2) (blk_other (i := 1) (blk_other (i := 0) S1.out SN.out (.int .u32 (ack : Nat))) SN.out (.int .u32 (nxt : Nat))) SN.out (.int .u32 (X : Nat))) SN.out (.slice none 0 0)) 0, blk_cell (blk_other (i := 3) (blk_other (i := 2) (blk_other (i := 1) (blk_other (i := 0) S1.out SN.out (.int .u32 (ack : Nat))) SN.out (.int .u32 (nxt : Nat))) SN.out (.int .u32 (X : Nat))) SN.out (.slice none 0 0)) 1, blk_cell (blk_other (i := 3) (blk_other (i := 2) (blk_other (i := 1) (blk_other (i := 0) S1.out SN.out (.int .u32 (ack : Nat))) SN.out (.int .u32 (nxt : Nat))) SN.out (.int .u32 (X : Nat))) SN.out (.slice none 0 0)) 2, blk_cell (blk_other (i := 3) (blk_other (i := 2) (blk_other (i := 1) (blk_other (i := 0) S1.out SN.out (.int .u32 (ack : Nat))) SN.out (.int .u32 (nxt : Nat))) SN.out (.int .u32 (X : Nat))) SN.out (.slice none 0 0)) 3, blk_cell (blk_other (i := 3) (blk_other (i := 2) (blk_other (i := 1) (blk_other (i := 0) U1.out UN.out (.int .u32 (ack : Nat))) UN.out (.int .u32 (nxt : Nat))) UN.out (.int .u32 (X : Nat))) UN.out (.slice none 0 0)) 0⟩; clear b))
    all_goals
      go_wp2_with fail
      go_meet
      first
      | (have ya := (Below.refl WX.heap.size WX).alloc (Nat.le_refl _) (.cells #[.int .u32 (ack : Nat), .int .u32 (nxt : Nat), .int .u32 (X : Nat), .slice none 0 0] 26); exact ⟨_, rfl, rfl, ⟨(ya.block _ Sz1).trans S1.out, (ya.block _ Uz1).trans U1.out⟩, blk_new WX _, VL1.out, QW.out.alloc QW.out.size _⟩)
      | exact ⟨_, rfl, rfl, ⟨(blk_other (i := 3) (blk_other (i := 2) (blk_other (i := 1) (blk_other (i := 0) S1.out SN.out (.int .u32 (ack : Nat))) SN.out (.int .u32 (nxt : Nat))) SN.out (.int .u32 (X : Nat))) SN.out (.slice none 0 0)), (blk_other (i := 3) (blk_other (i := 2) (blk_other (i := 1) (blk_other (i := 0) U1.out UN.out (.int .u32 (ack : Nat))) UN.out (.int .u32 (nxt : Nat))) UN.out (.int .u32 (X : Nat))) UN.out (.slice none 0 0))⟩, (blk_set (blk_set (blk_set (blk_set X1.out 0 (.int .u32 (ack : Nat))) 1 (.int .u32 (nxt : Nat))) 2 (.int .u32 (X : Nat))) 3 (.slice none 0 0)), Nat.le_refl _, ((((QW.out.setCell (p := ⟨V9.heap.size, 0, none⟩) HVL.out (.int .u32 (ack : Nat))).setCell (p := ⟨V9.heap.size, 1, none⟩) HVL.out (.int .u32 (nxt : Nat))).setCell (p := ⟨V9.heap.size, 2, none⟩) HVL.out (.int .u32 (X : Nat))).setCell (p := ⟨V9.heap.size, 3, none⟩) HVL.out (.slice none 0 0))⟩
  case rest =>
    obtain ⟨gt, rfl, rfl, ⟨kS, kU⟩, kNew, gle, hq⟩ := hcut
    clear S_0 SY U_0 UY XY cjD cjY qD qY q_0
    have q_0 := hq
    have Sz_0 := blk_lt kS
    have Sne : gt ≠ w.heap.size := by have := SN.out; have := Sz_0; omega
    have Sne2 := Sne.symm
    have Uz_0 := blk_lt kU
    have Une : gt ≠ gu := by have := UN.out; have := Uz_0; omega
    have Une2 := Une.symm
    have gz := blk_lt kNew
    have S_0 := Lib.hid (kS)
    have Sc0_0 := blk_cell S_0.out 0
    have Sc1_0 := blk_cell S_0.out 1
    have Sc2_0 := blk_cell S_0.out 2
    have Sc3_0 := blk_cell S_0.out 3
    have U_0 := Lib.hid (kU)
    have Uc0_0 := blk_cell U_0.out 0
    clear kS kU hq
    obtain ⟨V10, hVV⟩ : ∃ V, V = wc := ⟨_, rfl⟩
    subst hVV
    have BQ := Lib.hid q_0
    have X10 := Lib.hid kNew
    clear q_0 kNew S_0 U_0 Sc0_0 Sc1_0 Sc2_0 Sc3_0 Uc0_0 e5 w6 w7
    have hN1 : w.heap.size + 1 < V9.heap.size := blk_lt Z9.out
    go_wp2_with fail
    go_loopw [76] (fun iv wr => ∃ (i : Nat) (out : List (Nat × Nat)) (p : Option Addr) (k : Nat), i ≤ af.length ∧ iv = .int .i64 i ∧ Hid ((af.take i).map (blkU una) = out) ∧ wr.heap[gt]? = some (.cells #[.int .u32 (ack : Nat), .int .u32 (nxt : Nat), .int .u32 (X : Nat), .slice p out.length k] 26 (0, 0)) ∧ OwnR 38 2 BC (gt + 1) p out k wr ∧ Below V9.heap.size V9 wr) (fun iv _ => af.length - (intOf iv).toNat)
    case atStart => exact ⟨0, [], none, 0, by omega, rfl, Lib.hid rfl, X10.out, ownR_nil _ _ _ _ _, BQ.out⟩
    case round =>
      obtain ⟨i, out, p, k, hi9, rfl, HOUT, hXb, hO, hq⟩ := hrel
      have XR := Lib.hid hXb
      have OR := Lib.hid hO
      have QR := Lib.hid hq
      have hgtr := blk_lt hXb
      have hzr := hq.size
      clear hXb hO hq X10 BQ
      have holn : out.length ≤ 1024 := by rw [← HOUT.out, List.length_map, List.length_take]; omega
      by_cases hlt : i < af.length
      case neg =>
        obtain rfl : i = af.length := by omega
        have HO2 := HOUT.out
        rw [List.take_length] at HO2
        have HO3 := Lib.hid HO2
        clear HO2 HOUT
        go_wp2_with fail
        have K2 := Lib.hid (Sts.belowT K9.out QR.out)
        have B2 := Lib.hid (Sts.belowT B9.out QR.out)
        have Z2 := Lib.hid ((QR.out.block _ (blk_lt Z9.out)).trans Z9.out)
        have Q2 := Lib.hid (Q9.out.trans (QR.out.mono Q9.out.size))
        have ob1 := oct_bd HCS.out
        have ob2 := oct_bd HBS.out
        obtain ⟨n1, hn1⟩ : ∃ z, oct t2 = z := ⟨_, rfl⟩
        obtain ⟨n2, hn2⟩ : ∃ z, oct be = z := ⟨_, rfl⟩
        rw [hn1] at ob1
        rw [hn2] at ob2
        have wn : IntKind.i64.wrap (n1 - n2) = n1 - n2 := IntWalk.i64_in _ ⟨by omega, by omega⟩
        have HC1 := Lib.hid (fun V (h : Sts 2 SC Tr V a9 t2) => octets_big a9 t2 c9 V h HCS.out hcl)
        have HC2 := Lib.hid (fun V (h : Sts 2 SC Tr V aB be) => octets_big aB be cB V h HBS.out (by omega))
        rw [hn1] at HC1
        rw [hn2] at HC2
        have HN1 := Lib.hid hn1
        have HN2 := Lib.hid hn2
        clear hn1 hn2 ob1 ob2
        refine wp_region_held_drew (S := fun W => W.heap[gt]? = some (.cells #[.int .u32 (ack : Nat), .int .u32 (nxt : Nat), .int .u32 (X : Nat), .slice p out.length k] 26 (0, 0))) (by kernel_rfl) (blk_drew XR.out) (fun hHeld => ?_)
        refine wpAnyH_take (i := 0) (oi := _) (v := ?_) rfl (by kernel_rfl) (by kernel_rfl) (by kernel_rfl) (fun _ _ _ h => h) (Or.inl ⟨by rfl, ?_⟩) (by assumption) ?_
        rotate_left
        · intro w5 hSw
          have c0 := blk_cell hSw 0
          have c1 := blk_cell hSw 1
          have c2 := blk_cell hSw 2
          have c3 := blk_cell hSw 3
          clear hSw
          go_simp
          all_goals with_reducible rfl
        (try simp only [List.getElem_toArray]); (try simp only [List.getElem_cons_succ]); (try simp only [List.getElem_cons_zero]); try simp only [Act.put, List.setIfInBounds_toArray, List.set_cons_zero, List.set_cons_succ]
        refine wpAnyH_take (i := 1) (oi := _) (v := ?_) rfl (by kernel_rfl) (by kernel_rfl) (by kernel_rfl) (fun _ _ _ h => h) (Or.inl ⟨by rfl, ?_⟩) (by assumption) ?_
        rotate_left
        · intro w5 hSw
          clear hSw
          go_simp
          all_goals with_reducible rfl
        (try simp only [List.getElem_toArray]); (try simp only [List.getElem_cons_succ]); (try simp only [List.getElem_cons_zero]); try simp only [Act.put, List.setIfInBounds_toArray, List.set_cons_zero, List.set_cons_succ]
        refine wpAnyH_take (i := 3) (oi := _) (v := ?_) rfl (by kernel_rfl) (by kernel_rfl) (by kernel_rfl) (fun _ _ _ h => h) (Or.inl ⟨by rfl, ?_⟩) (by assumption) ?_
        rotate_left
        · intro w5 hSw
          clear hSw
          go_simp
          all_goals with_reducible rfl
        (try simp only [List.getElem_toArray]); (try simp only [List.getElem_cons_succ]); (try simp only [List.getElem_cons_zero]); try simp only [Act.put, List.setIfInBounds_toArray, List.set_cons_zero, List.set_cons_succ]
        have KD := Lib.hid (Sts.belowT K2.out (Below.refl wr.heap.size wr).drew)
        have BD := Lib.hid (Sts.belowT B2.out (Below.refl wr.heap.size wr).drew)
        have ZD := Lib.hid (blk_drew Z2.out)
        have QD := Lib.hid Q2.out.drew
        have OD := Lib.hid (OR.out.below (Below.refl wr.heap.size wr).drew)
        refine wpAnyH_ready (rs := [2]) (by kernel_rfl) (by simp) ?_
        refine (AllReadyH.cons (o := _) rfl (fun K hK => ?_) AllReadyH.nil)
        · (try simp only [List.getElem_toArray]); (try simp only [List.getElem_cons_succ]); (try simp only [List.getElem_cons_zero])
          go_simp
          go_at_call 55
          refine (HC1.out _ KD.out).mono ?_
          rintro e5 W3 ⟨rfl, hb⟩
          have B3 := Lib.hid hb
          clear hb
          refine hK.out _ _ ?_ (fun hHeld => ?_)
          · exact (B3.out.block _ (blk_lt hHeld)).trans hHeld
          clear hK K
          (try simp only [List.getElem_toArray]); (try simp only [List.getElem_cons_succ]); (try simp only [List.getElem_cons_zero]); try simp only [Act.put, List.setIfInBounds_toArray, List.set_cons_zero, List.set_cons_succ]
          refine wpAnyH_ready (rs := [4]) (by kernel_rfl) (by simp) ?_
          refine (AllReadyH.cons (o := _) rfl (fun K hK => ?_) AllReadyH.nil)
          · (try simp only [List.getElem_toArray]); (try simp only [List.getElem_cons_succ]); (try simp only [List.getElem_cons_zero])
            go_simp
            go_at_call 55
            refine (HC2.out _ (Sts.belowT BD.out B3.out)).mono ?_
            rintro e6 W4 ⟨rfl, hb⟩
            have B4 := Lib.hid hb
            clear hb
            refine hK.out _ _ ?_ (fun hHeld => ?_)
            · exact (B4.out.block _ (blk_lt hHeld)).trans hHeld
            clear hK K
            (try simp only [List.getElem_toArray]); (try simp only [List.getElem_cons_succ]); (try simp only [List.getElem_cons_zero]); try simp only [Act.put, List.setIfInBounds_toArray, List.set_cons_zero, List.set_cons_succ]
            refine wpAnyH_take (i := 5) (oi := _) (v := ?_) rfl (by kernel_rfl) (by kernel_rfl) (by kernel_rfl) (fun _ _ _ h => h) (Or.inl ⟨by rfl, ?_⟩) (by assumption) ?_
            rotate_left
            · intro w5 hSw
              clear hSw
              go_simp
              all_goals with_reducible rfl
            (try simp only [List.getElem_toArray]); (try simp only [List.getElem_cons_succ]); (try simp only [List.getElem_cons_zero]); try simp only [Act.put, List.setIfInBounds_toArray, List.set_cons_zero, List.set_cons_succ]
            have Z4 := Lib.hid ((B4.out.block _ (blk_lt ((B3.out.block _ (blk_lt ZD.out)).trans ZD.out))).trans ((B3.out.block _ (blk_lt ZD.out)).trans ZD.out))
            have hzn : gt ≠ w.heap.size + 1 := by omega
            refine wpAnyH_ready (rs := [6]) (by kernel_rfl) (by simp) ?_
            refine (AllReadyH.cons (o := _) rfl (fun K hK => ?_) AllReadyH.nil)
            · (try simp only [List.getElem_toArray]); (try simp only [List.getElem_cons_succ]); (try simp only [List.getElem_cons_zero])
              refine step_store_blk (a := ⟨_, _⟩) rowPS (t := 26) (w := W4) ?_ (.tmp 6) (.tmp 89) ?_ (w.heap.size + 1) #[.int .u32 0, .int .u32 0, .int .u32 0, .slice none 0 0] #[.int .u32 (ack : Nat), .int .u32 (nxt : Nat), .int .u32 (X : Nat), .slice p out.length k] ?_ ?_ Z4.out rfl rfl (by simp [Value.oneCell']) ?_
              · rfl
              · rfl
              · rfl
              · rfl
              intro V7 hb7 hg7
              have ZB7 := Lib.hid hb7
              have G7 := Lib.hid hg7
              clear hb7 hg7
              refine hK.out _ _ ?_ (fun hHeld => ?_)
              · exact (G7.out.block gt (blk_lt hHeld) (fun e => by have := Option.some.inj e; omega)).trans hHeld
              clear hK K
              try simp only [Act.put]
              refine wpAnyH_ready (rs := [7]) (by kernel_rfl) (by simp) ?_
              refine (AllReadyH.cons (o := _) rfl (fun K hK => ?_) AllReadyH.nil)
              · (try simp only [List.getElem_toArray]); (try simp only [List.getElem_cons_succ]); (try simp only [List.getElem_cons_zero])
                go_simp
                refine hK.out _ _ ?_ (fun hHeld => ?_)
                · exact hHeld
                clear hK K
                (try simp only [List.getElem_toArray]); (try simp only [List.getElem_cons_succ]); (try simp only [List.getElem_cons_zero]); try simp only [Act.put, List.setIfInBounds_toArray, List.set_cons_zero, List.set_cons_succ]
                refine wpAnyH_ready (rs := [8]) (by kernel_rfl) (by simp) ?_
                refine (AllReadyH.cons (o := _) rfl (fun K hK => ?_) AllReadyH.nil)
                · (try simp only [List.getElem_toArray]); (try simp only [List.getElem_cons_succ]); (try simp only [List.getElem_cons_zero])
                  go_simp
                  refine hK.out _ _ ?_ (fun hHeld => ?_)
                  · exact hHeld
                  clear hK K
                  (try simp only [List.getElem_toArray]); (try simp only [List.getElem_cons_succ]); (try simp only [List.getElem_cons_zero]); try simp only [Act.put, List.setIfInBounds_toArray, List.set_cons_zero, List.set_cons_succ]
                  refine wpAnyH_done (by kernel_rfl) ?_ _
                  go_wp2_with fail
                  refine bodyPost_ret (results_ctt rowPS rfl _ _ (w.heap.size + 1) _ (.int .i64 (n1 - n2)) (.int .i64 0) rfl rfl rfl ZB7.out rfl) rfl ⟨⟨0, ack, nxt, X, out, n1 - n2, p, k, rfl, .inr (.inr ⟨HK.out, by rw [HUA.out, HST.out]; omega, rfl, rfl, rfl, by rw [HHI.out, HUA.out, HMX.out, HX.out], s1, s2, af, ?_, HR1.out, ?_, ?_, HR2.out, HO3.out.symm, ?_⟩), ?_⟩, ?_⟩
                  · rw [HUA.out, HST.out, HFR.out, HBE.out, HLF.out, HM1.out]; exact HP1.out
                  · rw [HUA.out, HBE.out, HLF.out, HT1.out]; exact HAF.out
                  · rw [HUA.out, HBE.out, HM2.out]; exact HP2.out
                  · rw [HT2.out, HBE.out, HN1.out, HN2.out]
                  · exact (((OD.out.below B3.out).below B4.out).grown G7.out (fun g e => by intro e2; have h1 := (OD.out.ownB g (by rw [e]; rfl)).1; have := Option.some.inj e2; omega)).mono (by omega)
                  · exact ((QD.out.trans (B3.out.mono QD.out.size)).trans (B4.out.mono (Nat.le_trans QD.out.size B3.out.size))).grown G7.out (by have := QD.out.size; have := B3.out.size; have := B4.out.size; omega) (fun k e => by have := Option.some.inj e; omega)
      case pos =>
        have i1 : (i : Int) < (af.length : Int) := by omega
        obtain ⟨x, hx⟩ : ∃ x, af[i]? = some x := ⟨_, List.getElem?_eq_getElem hlt⟩
        obtain ⟨hx1, hx2⟩ := HAS.out x (List.mem_of_getElem? hx)
        obtain ⟨g7, o7, rfl, _, _⟩ := A9.out.isSomeT (by omega)
        obtain ⟨hg, p0, p1⟩ := s_at A9.out hx
        have m0 := (QR.out.cell (p := ⟨g7, o7 + i * 2, none⟩) hg).trans p0
        have m1 := (QR.out.cell (p := ⟨g7, o7 + i * 2 + 1, none⟩) hg).trans p1
        have HNX : Hid ((af.take (i + 1)).map (blkU una) = out ++ [blkU una x]) := Lib.hid (by rw [List.take_add_one, hx]; show ((af.take i ++ [x]).map (blkU una)) = _; rw [List.map_append, HOUT.out]; rfl)
        obtain ⟨xl, hxl⟩ : ∃ z, x.1 = z := ⟨_, rfl⟩
        obtain ⟨xr, hxr⟩ : ∃ z, x.2 = z := ⟨_, rfl⟩
        have hbx : blkU una x = ((una + xl) % 4294967296, (una + xr) % 4294967296) := by unfold blkU; rw [hxl, hxr]
        rw [hxl] at m0 hx1
        rw [hxr] at m1 hx2
        rw [hbx] at HNX
        have HBLK := Lib.hid (fun V => block_any una nxt high a bs.length c xl xr V hx1 hx2)
        obtain ⟨yl, hyl⟩ : ∃ z, (una + xl) % 4294967296 = z := ⟨_, rfl⟩
        obtain ⟨yr, hyr⟩ : ∃ z, (una + xr) % 4294967296 = z := ⟨_, rfl⟩
        rw [hyl, hyr] at HBLK HNX
        clear hxl hxr hbx hx p0 p1 HOUT hyl hyr
        have hb1 := (Below.refl wr.heap.size wr).alloc (Nat.le_refl _) (.cells #[.int .i64 (xl : Nat), .int .i64 (xr : Nat)] 76)
        have T2 := Lib.hid (blk_new wr (.cells #[.int .i64 (xl : Nat), .int .i64 (xr : Nat)] 76))
        have X2 := Lib.hid ((hb1.block _ hgtr).trans XR.out)
        have O2 := Lib.hid (OR.out.below hb1)
        have Q2 := Lib.hid (QR.out.trans (hb1.mono hzr))
        have S2 := Lib.hid ((Q2.out.block _ (by omega)).trans S9.out)
        have hrow := Lib.hid (fun q (e : (Value.slice p out.length k).ownBlock = some q) => (OR.out.ownB q e).2)
        clear hb1 OR QR XR
        go_upto_region 17 with fail
        have hgT : wr.heap.size < (wr.alloc (.cells #[.int .i64 (xl : Nat), .int .i64 (xr : Nat)] 76)).heap.size := by simp
        obtain ⟨gT, hgT2⟩ : ∃ q, wr.heap.size = q := ⟨_, rfl⟩
        generalize wr.alloc (.cells #[.int .i64 (xl : Nat), .int .i64 (xr : Nat)] 76) = V2 at T2 X2 O2 Q2 S2 hgT ⊢
        rw [hgT2] at T2 hrow hgT hgtr hzr ⊢
        clear hgT2 m0 m1
        refine wp_region_until (S := fun W => (W.heap[gt]? = some (.cells #[.int .u32 (ack : Nat), .int .u32 (nxt : Nat), .int .u32 (X : Nat), .slice p out.length k] 26 (0, 0)) ∧ W.heap[w.heap.size]? = some (.cells #[.int .u32 (una : Nat), .int .u32 (nxt : Nat), .int .u32 (high : Nat), .slice a bs.length c] 26 (0, 0)) ∧ W.heap[gT]? = some (.cells #[.int .i64 (xl : Nat), .int .i64 (xr : Nat)] 76 (0, 0)))) 8 (by kernel_rfl) ⟨blk_drew X2.out, blk_drew S2.out, blk_drew T2.out⟩ (fun hHeld => ?_)
        refine wpAnyU_take (i := 0) (oi := _) (v := ?_) rfl (by kernel_rfl) (by kernel_rfl) (by kernel_rfl) (by kernel_rfl) (fun _ _ _ h => h) (Or.inl ⟨by rfl, ?_⟩) (by assumption) ?_
        rotate_left
        · intro w5 hSw
          clear hSw
          go_simp
          all_goals with_reducible rfl
        (try simp only [List.getElem_toArray]); (try simp only [List.getElem_cons_succ]); (try simp only [List.getElem_cons_zero]); try simp only [Act.put, List.setIfInBounds_toArray, List.set_cons_zero, List.set_cons_succ]
        refine wpAnyU_take (i := 1) (oi := _) (v := ?_) rfl (by kernel_rfl) (by kernel_rfl) (by kernel_rfl) (by kernel_rfl) (fun _ _ _ h => h) (Or.inl ⟨by rfl, ?_⟩) (by assumption) ?_
        rotate_left
        · intro w5 hSw
          have c3 := blk_cell hSw.1 3
          clear hSw
          go_simp
          all_goals with_reducible rfl
        (try simp only [List.getElem_toArray]); (try simp only [List.getElem_cons_succ]); (try simp only [List.getElem_cons_zero]); try simp only [Act.put, List.setIfInBounds_toArray, List.set_cons_zero, List.set_cons_succ]
        refine wpAnyU_take (i := 2) (oi := _) (v := ?_) rfl (by kernel_rfl) (by kernel_rfl) (by kernel_rfl) (by kernel_rfl) (fun _ _ _ h => h) (Or.inl ⟨by rfl, ?_⟩) (by assumption) ?_
        rotate_left
        · intro w5 hSw
          have c0 := blk_cell hSw.2.1 0
          have c1 := blk_cell hSw.2.1 1
          have c2 := blk_cell hSw.2.1 2
          have c3 := blk_cell hSw.2.1 3
          clear hSw
          go_simp
          all_goals with_reducible rfl
        (try simp only [List.getElem_toArray]); (try simp only [List.getElem_cons_succ]); (try simp only [List.getElem_cons_zero]); try simp only [Act.put, List.setIfInBounds_toArray, List.set_cons_zero, List.set_cons_succ]
        refine wpAnyU_take (i := 3) (oi := _) (v := ?_) rfl (by kernel_rfl) (by kernel_rfl) (by kernel_rfl) (by kernel_rfl) (fun _ _ _ h => h) (Or.inl ⟨by rfl, ?_⟩) (by assumption) ?_
        rotate_left
        · intro w5 hSw
          have c0 := blk_cell hSw.2.2 0
          have c1 := blk_cell hSw.2.2 1
          clear hSw
          go_simp
          all_goals with_reducible rfl
        (try simp only [List.getElem_toArray]); (try simp only [List.getElem_cons_succ]); (try simp only [List.getElem_cons_zero]); try simp only [Act.put, List.setIfInBounds_toArray, List.set_cons_zero, List.set_cons_succ]
        have QD := Lib.hid Q2.out.drew
        have OD := Lib.hid (O2.out.below (Below.refl V2.heap.size V2).drew)
        have hsD : V2.drew.heap.size = V2.heap.size := rfl
        refine wpAnyU_one (i := 4) (by kernel_rfl) rfl (fun K hK => ?_)
        (try simp only [List.getElem_toArray]); (try simp only [List.getElem_cons_succ]); (try simp only [List.getElem_cons_zero])
        go_simp
        go_at_call 45
        refine (HBLK.out _).mono ?_
        rintro e5 W3 ⟨rfl, hb⟩
        have B3 := Lib.hid hb
        clear hb
        dsimp only
        refine hK.out _ _ ⟨(B3.out.block _ (blk_lt hHeld.1)).trans hHeld.1, (B3.out.block _ (blk_lt hHeld.2.1)).trans hHeld.2.1, (B3.out.block _ (blk_lt hHeld.2.2)).trans hHeld.2.2⟩ (fun hHeld => ?_)
        clear hK K
        (try simp only [List.getElem_toArray]); (try simp only [List.getElem_cons_succ]); (try simp only [List.getElem_cons_zero]); try simp only [Act.put, List.setIfInBounds_toArray, List.set_cons_zero, List.set_cons_succ]
        have O3 := Lib.hid (OD.out.below B3.out)
        have Q3 := Lib.hid (QD.out.trans (B3.out.mono QD.out.size))
        have hgT3 : gT < W3.heap.size := blk_lt hHeld.2.2
        have BAL := Lib.hid ((Below.refl W3.heap.size W3).alloc (Nat.le_refl _) (.cells #[.int .u32 (yl : Nat), .int .u32 (yr : Nat)] 38))
        refine wpAnyU_one (i := 5) (by kernel_rfl) rfl (fun K hK => ?_)
        (try simp only [List.getElem_toArray]); (try simp only [List.getElem_cons_succ]); (try simp only [List.getElem_cons_zero])
        go_simp
        refine hK.out _ _ ⟨(BAL.out.block _ (blk_lt hHeld.1)).trans hHeld.1, (BAL.out.block _ (blk_lt hHeld.2.1)).trans hHeld.2.1, (BAL.out.block _ (blk_lt hHeld.2.2)).trans hHeld.2.2⟩ (fun hHeld => ?_)
        clear hK K
        (try simp only [List.getElem_toArray]); (try simp only [List.getElem_cons_succ]); (try simp only [List.getElem_cons_zero]); try simp only [Act.put, List.setIfInBounds_toArray, List.set_cons_zero, List.set_cons_succ]
        have hW3 := BAL.out.size
        refine wpAnyU_one (i := 6) (by kernel_rfl) rfl (fun K hK => ?_)
        (try simp only [List.getElem_toArray]); (try simp only [List.getElem_cons_succ]); (try simp only [List.getElem_cons_zero])
        refine step_append_r (act := ⟨_, _⟩) (w := W3.alloc (.cells #[.int .u32 (yl : Nat), .int .u32 (yr : Nat)] 38)) (t := 23) (e := 38) (z := .agg #[.int .u32 0, .int .u32 0]) (m := 2) (bz := 8) (cells := BC) (xs := out) (ys := [(yl, yr)]) (cap := k) (dap := 1) (n := 1) (a := p) (b := some ⟨W3.heap.size, 0, none⟩) ?_ elemBk encB (.tmp 81) (.tmp 85) ?_ (gt + 1) ?_ (O3.out.below BAL.out) (sts_new encB W3 [(yl, yr)] 38 (0, 0)) (fun e => by cases e) ?_ ?_ (by simp only [List.length_cons, List.length_nil]; omega) (by unfold maxLen; simp only [List.length_cons, List.length_nil]; omega) (by omega) ?_
        · rfl
        · rfl
        · rfl
        · rfl
        · rfl
        intro a5 c5 V5 O5 b5 g5
        have O5h := Lib.hid O5
        have B5h := Lib.hid b5
        have G5h := Lib.hid g5
        clear O5 b5 g5
        refine hK.out _ _ ⟨(B5h.out.block gt (by omega)).trans hHeld.1, (B5h.out.block _ (by omega)).trans hHeld.2.1, (G5h.out.block gT (blk_lt hHeld.2.2) (fun e => absurd (hrow.out gT e.symm) (Nat.lt_irrefl _))).trans hHeld.2.2⟩ (fun hHeld => ?_)
        clear hK K
        try simp only [Act.put, List.setIfInBounds_toArray, List.set_cons_zero, List.set_cons_succ]
        generalize out ++ [(yl, yr)] = out2 at O5h HNX ⊢
        refine wpAnyU_take (i := 7) (oi := _) (v := ?_) rfl (by kernel_rfl) (by kernel_rfl) (by kernel_rfl) (by kernel_rfl) (fun _ _ _ h => h) (Or.inl ⟨by rfl, ?_⟩) (by assumption) ?_
        rotate_left
        · intro w5 hSw
          clear hSw
          go_simp
          all_goals with_reducible rfl
        (try simp only [List.getElem_toArray]); (try simp only [List.getElem_cons_succ]); (try simp only [List.getElem_cons_zero]); try simp only [Act.put, List.setIfInBounds_toArray, List.set_cons_zero, List.set_cons_succ]
        have x3 := blk_cell hHeld.1 3
        have f3 := blk_free hHeld.1 3
        have SF := blk_set hHeld.1 3 (.slice a5 out2.length c5)
        simp only [List.setIfInBounds_toArray, List.set_cons_zero, List.set_cons_succ] at SF
        have GF := gr_set V5 gt 3 (.slice a5 out2.length c5)
        refine wpAnyU_last (by kernel_rfl) rfl (fun K hK => ?_)
        (try simp only [List.getElem_toArray]); (try simp only [List.getElem_cons_succ]); (try simp only [List.getElem_cons_zero])
        go_simp
        refine hK.out _ _ ?_
        clear hK K
        (try simp only [List.getElem_toArray]); (try simp only [List.getElem_cons_succ]); (try simp only [List.getElem_cons_zero]); try simp only [Act.put, List.setIfInBounds_toArray, List.set_cons_zero, List.set_cons_succ]
        refine wpAnyU_done (by kernel_rfl) ?_ _
        have XN := Lib.hid SF
        have ON := Lib.hid (O5h.out.grown GF (fun g e => by intro e2; have h1 := (O5h.out.ownB g (by rw [e]; rfl)).1; have := Option.some.inj e2; omega))
        have QN := Lib.hid (((Q3.out.trans (BAL.out.mono Q3.out.size)).trans (B5h.out.mono (by omega))).grown GF (by have := Q3.out.size; have := BAL.out.size; have := B5h.out.size; omega) (fun k e => by have := Option.some.inj e; omega))
        clear SF GF x3 f3
        go_wp2_with fail
        go_roundw
        case rel => exact ⟨i + 1, _, a5, c5, by omega, by go_num, HNX, XN.out, ON.out, QN.out⟩
        case measure => simp [intOf]; omega
end Go.Proofs.Ytcachmjcninkbaa
