/- Recvbuf: clip. -/
import Derived.Test.YtknebjfdggimcaaRvC
namespace Go.Proofs.Ytknebjfdggimcaa
open Go.RowKit Go.Proofs.Ytknebjfdggimcaa.Rv

/-- A slice that holds D, of what a held. -/
def SlOf (w : World) (a : Option Addr) (a' : Option Addr) (c' : Nat) (D : List Nat) : Prop :=
  Bts w a' D ∧ D.length ≤ c' ∧ (a' = none → c' = 0) ∧ (D ≠ [] → ∃ b o o', a = some ⟨b, o, none⟩ ∧ a' = some ⟨b, o', none⟩)
theorem SlOf.below {w w' : World} {a a' : Option Addr} {c' : Nat} {D : List Nat} (h : SlOf w a a' c' D) (hb : Below w.heap.size w w') : SlOf w' a a' c' D := ⟨h.1.below hb, h.2.1, h.2.2.1, h.2.2.2⟩
theorem Bts.drop {w : World} {b off : Nat} {xs : List Nat} (h : Bts w (some ⟨b, off, none⟩) xs) (k : Nat) : Bts w (some ⟨b, off + k, none⟩) (xs.drop k) := by
  refine ⟨fun x hx => h.1 x (List.mem_of_mem_drop hx), ?_⟩
  rcases h.2 with h0 | ⟨b', off', e, hb, hc⟩
  · left; rw [h0]; exact List.drop_nil
  · obtain ⟨rfl, rfl⟩ : b = b' ∧ off = off' := by injection e with e; injection e with e1 e2; exact ⟨e1, e2⟩
    refine .inr ⟨b, off + k, rfl, hb, fun i hi => ?_⟩
    rw [List.length_drop] at hi
    rw [Nat.add_assoc, hc (k + i) (by omega)]
    congr 3
    simp [List.getD_eq_getElem?_getD]
theorem OwnSl.far {B g G : Nat} {xs : List Nat} {cap : Nat} {w w' : World} (h : OwnSl B (some ⟨G, 0, none⟩) xs cap w) (hg : w.grownBy w' (some g)) (hne : g ≠ G) : OwnSl B (some ⟨G, 0, none⟩) xs cap w' := by
  obtain ⟨hx, h0 | ⟨b, e, hB, hr⟩⟩ := h
  · exact ⟨hx, .inl h0⟩
  · cases e
    exact ⟨hx, .inr ⟨_, rfl, hB, hr.kept hg (.inr (by simp [Value.ownBlock]; omega))⟩⟩
theorem Bts.addr {w : World} {a : Option Addr} {xs : List Nat} (h : Bts w a xs) (hne : xs ≠ []) : ∃ b o, a = some ⟨b, o, none⟩ := by
  rcases h.2 with h0 | ⟨b, o, e, _⟩
  · exact absurd h0 hne
  · exact ⟨b, o, e⟩
theorem dist_wrap {a b : Nat} (ha : a < 4294967296) (hb : b < 4294967296) : IntKind.u32.wrap ((a : Int) - (b : Int)) = ((dist a b : Nat) : Int) := by
  rw [IntKind.wrap_u32]; unfold dist; omega
set_option maxRecDepth 100000 in
set_option maxHeartbeats 1000000 in
theorem clip_in (g G n st rd nx : Nat) (pa : Option Addr) (pl pc ct : Nat) (q : Nat) (a : Option Addr) (dc : Nat) (ds : List Nat) (w : World) (hB : w.heap[g]? = some (.cells #[.slice (some ⟨G, 0, none⟩) n n, .int .i64 (st : Nat), .int .i64 (rd : Nat), .int .u32 (nx : Nat), .slice pa pl pc, .int .i64 (ct : Nat)] 70 (0, 0))) (X : Bts w a ds) (hdc : ds.length ≤ dc) (hdn : a = none → dc = 0) (wi : Nat) (hw : rd + wi = n) (hn : n ≤ 1048576) (hq : q < 4294967296) (hnx : nx < 4294967296)  (hd : dist q nx < wi) :
    Calls Try.prog 29 #[.pointer (some ⟨g, 0, none⟩), .int .u32 (q : Nat), .slice a ds.length dc] w fun e w' => ∃ a' c', e = .returned (.tuple #[.int .i64 ((dist q nx : Nat) : Int), .slice a' (ds.take (wi - dist q nx)).length c']) ∧ SlOf w' a a' c' (ds.take (wi - dist q nx)) ∧ Below w.heap.size w w' := by
  have W1 := dist_wrap hq hnx
  have hdd : dist q nx < 4294967296 := by unfold dist; omega
  generalize dist q nx = dd at hd W1 hdd ⊢
  obtain ⟨dl, hdle⟩ : ∃ dl, ds.length = dl := ⟨_, rfl⟩
  obtain ⟨D, hD⟩ : ∃ D, ds.take (wi - dd) = D := ⟨_, rfl⟩
  obtain ⟨k, hk⟩ : ∃ k, D.length = k := ⟨_, rfl⟩
  have hk2 : k = min dl (wi - dd) := by rw [← hk, ← hD, List.length_take, hdle]; exact Nat.min_comm _ _
  have HX := Lib.hid (by have := X.take (wi - dd); rwa [hD] at this : Bts w a D)
  have HA : Hid (D ≠ [] → ∃ b o o', a = some ⟨b, o, none⟩ ∧ a = some ⟨b, o', none⟩) := Lib.hid (fun hne => by
    obtain ⟨b, o, e⟩ := X.addr (by intro e; rw [← hD, e] at hne; exact hne List.take_nil)
    exact ⟨b, o, o, e, e⟩)
  have HB := Lib.hid hB
  have HK := Lib.hid hk
  have HDN := Lib.hid hdn
  rw [hD, hdle, hk]
  rw [hdle] at hdc
  have c3 := blk_cell hB 3
  have gz := blk_lt hB
  clear X hD hk hB hdle hdn
  have d1 : ¬ ((wi : Int) ≤ (dd : Int)) := by omega
  have W2 : IntKind.i64.wrap ((wi : Int) - (dd : Int)) = ((wi - dd : Nat) : Int) := by rw [IntWalk.i64_in _ ⟨by omega, by omega⟩]; omega
  have W3 : IntKind.i64.wrap (dd : Int) = (dd : Int) := IntWalk.i64_in _ ⟨by omega, by omega⟩
  obtain ⟨wd, hwd⟩ : ∃ wd, wi - dd = wd := ⟨_, rfl⟩
  rw [hwd] at W2
  have hmi : min (dl : Int) (wd : Int) = (k : Int) := by omega
  have hmi2 : min dl wd = k := by omega
  have k1 : (k : Int) ≤ (dc : Int) := by omega
  have k2 : k ≤ dc := by omega
  clear hk2 hwd
  go_enter Try.func29, Try.ntmps29
  go_upto_region 2 with fail
  go_wp2_with (first
    | (go_at_call 21; refine (window_ok g G n st rd nx pa pl pc ct _ HB.out wi hw hn).mono ?_; rintro e V1 ⟨rfl, b⟩; have B1 := Lib.hid ((b.block _ gz).trans HB.out); have Q1 := Lib.hid b; clear b)
    | fail)
  have B2 : Hid (V1.drew.heap[g]? = some (.cells #[.slice (some ⟨G, 0, none⟩) n n, .int .i64 (st : Nat), .int .i64 (rd : Nat), .int .u32 (nx : Nat), .slice pa pl pc, .int .i64 (ct : Nat)] 70 (0, 0))) := Lib.hid (blk_drew B1.out)
  have gz2 : g < V1.drew.heap.size := Nat.lt_of_lt_of_le gz Q1.out.size
  go_region_held3 (fun _ => True) (first | trivial | go_keep) (first
    | (go_at_call 21; refine (window_ok g G n st rd nx pa pl pc ct _ B2.out wi hw hn).mono ?_; rintro e V3 ⟨rfl, b⟩; have B3 := Lib.hid b; clear b))
  go_wp2
  go_ret2
  have qq : Below w.heap.size w V3 := Q1.out.drew.trans (B3.out.mono Q1.out.size)
  exact ⟨a, dc, rfl, ⟨HX.out.below qq, by rw [HK.out]; exact k2, HDN.out, HA.out⟩, qq⟩
set_option maxRecDepth 100000 in
set_option maxHeartbeats 1000000 in
theorem clip_out (g G n st rd nx : Nat) (pa : Option Addr) (pl pc ct : Nat) (q : Nat) (a : Option Addr) (dc : Nat) (ds : List Nat) (w : World) (hB : w.heap[g]? = some (.cells #[.slice (some ⟨G, 0, none⟩) n n, .int .i64 (st : Nat), .int .i64 (rd : Nat), .int .u32 (nx : Nat), .slice pa pl pc, .int .i64 (ct : Nat)] 70 (0, 0))) (X : Bts w a ds) (hdc : ds.length ≤ dc) (hdn : a = none → dc = 0) (wi : Nat) (hw : rd + wi = n) (hn : n ≤ 1048576) (hq : q < 4294967296) (hnx : nx < 4294967296)  (hd : wi ≤ dist q nx) :
    Calls Try.prog 29 #[.pointer (some ⟨g, 0, none⟩), .int .u32 (q : Nat), .slice a ds.length dc] w fun e w' => ∃ a' c', e = .returned (.tuple #[.int .i64 ((0 : Nat) : Int), .slice a' ((ds.drop (min (dist nx q) ds.length)).take wi).length c']) ∧ SlOf w' a a' c' ((ds.drop (min (dist nx q) ds.length)).take wi) ∧ Below w.heap.size w w' := by
  have W9 := dist_wrap hnx hq
  have hah : dist nx q < 4294967296 := by unfold dist; omega
  generalize dist nx q = ah at W9 hah ⊢
  have W1 := dist_wrap hq hnx
  have hdd : dist q nx < 4294967296 := by unfold dist; omega
  generalize dist q nx = dd at hd W1 hdd ⊢
  obtain ⟨dl, hdle⟩ : ∃ dl, ds.length = dl := ⟨_, rfl⟩
  obtain ⟨m, hm⟩ : ∃ m, min ah ds.length = m := ⟨_, rfl⟩
  rw [hm]
  obtain ⟨D, hD⟩ : ∃ D, (ds.drop m).take wi = D := ⟨_, rfl⟩
  obtain ⟨k, hk⟩ : ∃ k, D.length = k := ⟨_, rfl⟩
  have hk2 : k = min (dl - m) wi := by rw [← hk, ← hD, List.length_take, List.length_drop, hdle]; exact Nat.min_comm _ _
  have HB := Lib.hid hB
  have HK := Lib.hid hk
  have HX0 := Lib.hid X
  have HDN := Lib.hid hdn
  have HD := Lib.hid hD
  rw [hD, hdle, hk]
  rw [hdle] at hdc hm
  have c3 := blk_cell hB 3
  have gz := blk_lt hB
  have hdlh := Lib.hid hdle
  clear X hD hk hB hdle hdn
  have d1 : ((wi : Int) ≤ (dd : Int)) := by omega
  have hmI : min (ah : Int) (dl : Int) = (m : Int) := by omega
  have W3 : IntKind.i64.wrap (dd : Int) = (dd : Int) := IntWalk.i64_in _ ⟨by omega, by omega⟩
  have W4 : IntKind.i64.wrap (ah : Int) = (ah : Int) := IntWalk.i64_in _ ⟨by omega, by omega⟩
  have W5 : IntKind.i64.wrap ((wi : Int) - 0) = (wi : Int) := by rw [IntWalk.i64_in _ ⟨by omega, by omega⟩]; omega
  have W6 : IntKind.i64.wrap (wi : Int) = (wi : Int) := IntWalk.i64_in _ ⟨by omega, by omega⟩
  obtain ⟨dm, hdm⟩ : ∃ dm, dl - m = dm := ⟨_, rfl⟩
  obtain ⟨cm, hcm⟩ : ∃ cm, dc - m = cm := ⟨_, rfl⟩
  have hmi : min (dm : Int) (wi : Int) = (k : Int) := by omega
  have hmi2 : min dm wi = k := by omega
  have k1 : (k : Int) ≤ (cm : Int) := by omega
  have k2 : k ≤ cm := by omega
  have k3 : (m : Int) ≤ (dl : Int) := by omega
  have hmdc : m ≤ dc := by omega
  obtain ⟨a2, ha2⟩ : ∃ a2, (if dc = m then a else Option.map (fun x => x.add m) a) = a2 := ⟨_, rfl⟩
  have hX2 : Bts w a2 (ds.drop m) ∧ (ds.drop m ≠ [] → ∃ b o o', a = some ⟨b, o, none⟩ ∧ a2 = some ⟨b, o', none⟩) := by
    rw [← ha2]
    by_cases hne : ds.drop m = []
    · rw [hne]; exact ⟨⟨fun x hx => absurd hx List.not_mem_nil, .inl rfl⟩, fun h => absurd rfl h⟩
    · have hdl0 : m < ds.length := by
        rcases Nat.lt_or_ge m ds.length with h | h
        · exact h
        · exact absurd (List.drop_eq_nil_of_le h) hne
      obtain ⟨b, o, rfl⟩ := HX0.out.addr (by intro e; rw [e] at hdl0; simp at hdl0)
      rw [if_neg (by rw [hdlh.out] at hdl0; omega)]
      have e : Option.map (fun x : Addr => x.add m) (some ⟨b, o, none⟩) = some ⟨b, o + m, none⟩ := by simp [Addr.add]
      rw [e]
      exact ⟨HX0.out.drop m, fun _ => ⟨b, o, o + m, rfl, rfl⟩⟩
  have HX : Hid (Bts w a2 D) := Lib.hid (by rw [← HD.out]; exact hX2.1.take wi)
  have HA : Hid (D ≠ [] → ∃ b o o', a = some ⟨b, o, none⟩ ∧ a2 = some ⟨b, o', none⟩) := Lib.hid (fun hne => hX2.2 (by intro e; rw [← HD.out, e] at hne; exact hne List.take_nil))
  have HN2 : Hid (a2 = none → cm = 0) := Lib.hid (fun e => by
    rw [← ha2] at e
    by_cases h : dc = m
    · omega
    · rw [if_neg h] at e
      cases a with
      | none => have := HDN.out rfl; omega
      | some x => cases e)
  clear hX2
  have HM := Lib.hid hm
  have HCM := Lib.hid hcm
  clear hk2 hm
  go_enter Try.func29, Try.ntmps29
  go_upto_region 2 with fail
  go_upto_region 4 with (first
    | (go_at_call 21; refine (window_ok g G n st rd nx pa pl pc ct _ HB.out wi hw hn).mono ?_; rintro e V1 ⟨rfl, b⟩; have B1 := Lib.hid ((b.block _ gz).trans HB.out); have Q1 := Lib.hid b; clear b; have c3 := blk_cell B1.out 3)
    | fail)
  have B2 : Hid (V1.drew.heap[g]? = some (.cells #[.slice (some ⟨G, 0, none⟩) n n, .int .i64 (st : Nat), .int .i64 (rd : Nat), .int .u32 (nx : Nat), .slice pa pl pc, .int .i64 (ct : Nat)] 70 (0, 0))) := Lib.hid (blk_drew B1.out)
  have gz2 : g < V1.drew.heap.size := Nat.lt_of_lt_of_le gz Q1.out.size
  go_region_held3 (fun _ => True) (first | trivial | go_keep) (first | fail)
  have B2' : Hid (V1.drew.drew.heap[g]? = some (.cells #[.slice (some ⟨G, 0, none⟩) n n, .int .i64 (st : Nat), .int .i64 (rd : Nat), .int .u32 (nx : Nat), .slice pa pl pc, .int .i64 (ct : Nat)] 70 (0, 0))) := Lib.hid (blk_drew B2.out)
  have gz3 : g < V1.drew.drew.heap.size := gz2
  go_upto_region 5 with fail
  go_region_held3 (fun _ => True) (first | trivial | go_keep) (first
    | (go_at_call 21; refine (window_ok g G n st rd nx pa pl pc ct _ B2'.out wi hw hn).mono ?_; rintro e V3 ⟨rfl, b⟩; have B3 := Lib.hid b; clear b))
  go_wp2
  go_ret2
  have qq : Below w.heap.size w V3 := Q1.out.drew.drew.trans (B3.out.mono Q1.out.size)
  exact ⟨a2, cm, rfl, ⟨HX.out.below qq, by rw [HK.out]; exact k2, HN2.out, HA.out⟩, qq⟩
end Go.Proofs.Ytknebjfdggimcaa
