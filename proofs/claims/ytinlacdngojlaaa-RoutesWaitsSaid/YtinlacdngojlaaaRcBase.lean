/- Routes: the cache at one key: what its maps hold; NewCache, check, find, Known. -/
import Derived.Test.YtinlacdngojlaaaRtN
namespace Go.Proofs.Ytinlacdngojlaaa
open Go.RowKit Go.Maps Go.Proofs.Ytinlacdngojlaaa.Rt Go.Sort Go.BigFrame

/-- How a neighbour reads; how a queue's pointer reads. -/
def nbElem (v : Value) : Option (DataW Unit × List MemPlace) :=
  match v with
  | .agg cs => match cs.toList with
    | [.int .u64 m, .int .i64 t] => some (.agg [.lit (.int .u64 m), .lit (.int .i64 t)], [])
    | _ => none
  | _ => none
def nbD (p : Int × Int) : DataW Unit := .agg [.lit (.int .u64 p.1), .lit (.int .i64 p.2)]
theorem nb_mk (m t : Int) : nbElem (.agg #[.int .u64 m, .int .i64 t]) = some (nbD (m, t), []) := rfl
theorem nb_inv {v : Value} {m t : Int} {ps : List MemPlace} (h : nbElem v = some (nbD (m, t), ps)) : v = .agg #[.int .u64 m, .int .i64 t] := by
  unfold nbElem at h
  split at h
  · rename_i cs
    split at h
    · rename_i m' t' hcs
      simp only [nbD, Option.some.injEq, Prod.mk.injEq, DataW.agg.injEq, List.cons.injEq, DataW.lit.injEq, Lit.int.injEq, true_and, and_true] at h
      obtain ⟨⟨rfl, rfl⟩, _⟩ := h
      obtain ⟨l⟩ := cs
      simp only at hcs
      rw [hcs]
    · cases h
  · cases h
def qElem (v : Value) : Option (DataW Unit × List MemPlace) :=
  match v with
  | .pointer none => some (.nil, [])
  | .pointer (some ⟨g, 0, none⟩) => some (.lit (.int .i64 g), [])
  | _ => none
def qD (g : Nat) : DataW Unit := .lit (.int .i64 g)
theorem q_mk (g : Nat) : qElem (.pointer (some ⟨g, 0, none⟩)) = some (qD g, []) := rfl
theorem q_inv {v : Value} {g : Nat} {ps : List MemPlace} (h : qElem v = some (qD g, ps)) : v = .pointer (some ⟨g, 0, none⟩) := by
  unfold qElem at h
  split at h
  · simp [qD] at h
  · rename_i g'
    simp only [qD, Option.some.injEq, Prod.mk.injEq, DataW.lit.injEq, Lit.int.injEq, true_and] at h
    have : g' = g := by omega
    rw [this]
  · cases h
theorem q_nil {v : Value} {ps : List MemPlace} (h : qElem v = some (.nil, ps)) : v = .pointer none := by
  unfold qElem at h
  split at h
  · rfl
  · simp at h
  · cases h

theorem ip_law : Keyed Try.prog 29 := int_keyed Try.underlying29
def ipKey (ip : Nat) : Lit := .int .u32 (ip : Nat)
theorem ip_key (ip : Nat) (h : ip < 4294967296) : keyOf Try.prog 29 (.int .u32 (ip : Nat)) = some (ipKey ip) := keyOf_int_mk Try.underlying29 (by simp [Lit.wf, IntKind.min, IntKind.max, IntKind.signed, IntKind.bits]; omega)
/-- A map that has nothing, or this alone, at this key. -/
def OneD (D : DataW Unit) (kl : Lit) (o : Option (DataW Unit)) : Prop := Maps.size D = (if o.isSome then 1 else 0) ∧ Maps.has D kl = o.isSome ∧ ∀ d z, o = some d → D.atKey kl z = d
theorem oneD_nil (kl : Lit) : OneD (.map []) kl none := ⟨rfl, rfl, fun _ _ h => by cases h⟩
theorem oneD_put {D : DataW Unit} {kl : Lit} {o : Option (DataW Unit)} (h : OneD D kl o) (hD : Tidy D) (hk : WideAt.IsKeyLit kl) (d : DataW Unit) : OneD (D.put kl d) kl (some d) := by
  refine ⟨?_, ?_, fun d' z e => ?_⟩
  · rw [size_put hD, h.2.1, h.1]
    cases o <;> rfl
  · rw [has_put_same hD.isMap hk]; rfl
  · obtain rfl := Option.some.inj e
    exact atKey_put_same hD.isMap hk _ _
theorem oneD_del {D : DataW Unit} {kl : Lit} {o : Option (DataW Unit)} (h : OneD D kl o) (hD : Tidy D) : OneD (D.del kl) kl none := by
  refine ⟨?_, has_del_same, fun _ _ e => by cases e⟩
  have h1 := size_del (k := kl) hD
  rw [h.2.1, h.1] at h1
  cases o <;> simp at h1 ⊢ <;> omega
def MapAt (W : World) (R : Value → Option (DataW Unit × List MemPlace)) (b ip : Nat) (o : Option (DataW Unit)) : Prop := ∃ D, W.ownsMap Try.prog 29 R b 1 D ∧ OneD D (ipKey ip) o
section
variable {W W' : World} {R : Value → Option (DataW Unit × List MemPlace)} {b ip : Nat} {o : Option (DataW Unit)}
theorem MapAt.moved (h : MapAt W R b ip o) (hb : W'.heap[b]? = W.heap[b]?) : MapAt W' R b ip o := by
  obtain ⟨D, ⟨es, cl, h2, hr⟩, hT⟩ := h
  exact ⟨D, ⟨es, cl, hb.trans h2, hr⟩, hT⟩
theorem MapAt.lt (h : MapAt W R b ip o) : b < W.heap.size := by
  obtain ⟨D, ⟨es, cl, h2, hr⟩, hT⟩ := h
  exact (Array.getElem?_eq_some_iff.1 h2).1
theorem MapAt.neCells (h : MapAt W R b ip o) {g : Nat} {cs : Array Value} {t : TypeId} {f : Nat × Nat} (hg : W.heap[g]? = some (.cells cs t f)) : g ≠ b := by
  obtain ⟨D, ⟨es, cl, h2, hr⟩, hT⟩ := h
  rintro rfl
  cases hg.symm.trans h2
theorem MapAt.put {t e : TypeId} (h : MapAt W R b ip o) (ht : Try.prog.underlying t = some (.map 29 e)) (hip : ip < 4294967296) {val : Value} {d : DataW Unit} (hv : R val = some (d, [])) :
    ∃ w', (Instr.mapUpdate t (.map (some b)) (.int .u32 (ip : Nat)) val).run Try.prog W = .ok () w' ∧ MapAt w' R b ip (some d) ∧ W.grownBy w' (some b) := by
  obtain ⟨D, hO, hT⟩ := h
  obtain ⟨w', h1, h2, h3⟩ := hO.store ip_law ht (by unfold maxLen; omega) (ip_key ip hip) hv
  have hT2 := oneD_put hT (hO.tidy ip_law) (ip_law.key (ip_key ip hip)) d
  refine ⟨w', h1, ⟨_, ?_, hT2⟩, h3.grown⟩
  have := tight h2
  rw [hT2.1] at this
  exact this
theorem MapAt.del {t e : TypeId} (h : MapAt W R b ip o) (ht : Try.prog.underlying t = some (.map 29 e)) (hip : ip < 4294967296) (ty : TypeId) :
    ∃ w', (Builtin.delete_ #[t, 29] ty #[.map (some b), .int .u32 (ip : Nat)]).run Try.prog W = .ok (.tuple #[]) w' ∧ MapAt w' R b ip none ∧ W.grownBy w' (some b) := by
  obtain ⟨D, hO, hT⟩ := h
  obtain ⟨w', h1, h2, h3⟩ := hO.drop ip_law ht (ip_key ip hip) ty
  exact ⟨w', h1, ⟨_, h2, oneD_del hT (hO.tidy ip_law)⟩, h3.grown⟩
theorem MapAt.len {t e : TypeId} (h : MapAt W R b ip o) (ht : Try.prog.underlying t = some (.map 29 e)) (ty : TypeId) : (Builtin.len_ #[t] ty #[.map (some b)]).run Try.prog W = .ok (.int .i64 ((if o.isSome then 1 else 0 : Nat) : Int)) W := by
  obtain ⟨D, hO, hT⟩ := h
  rw [hO.len ht ty, hT.1]
end
theorem nb_zero (w : World) : (zeroValue 82).run Try.prog w = .ok (.agg #[.int .u64 0, .int .i64 0]) w := by kernel_rfl
theorem q_zero (w : World) : (zeroValue 76).run Try.prog w = .ok (.pointer none) w := by kernel_rfl
theorem nb_miss {W : World} {b ip : Nat} (h : MapAt W nbElem b ip none) (hip : ip < 4294967296) : (Instr.lookup 71 (.map (some b)) (.int .u32 (ip : Nat)) true).run Try.prog W = .ok (.tuple #[.agg #[.int .u64 0, .int .i64 0], .bool false]) W := by
  obtain ⟨D, hO, hT⟩ := h
  obtain ⟨v, ps, hrun, hv⟩ := hO.look_ok ip_law Try.underlying71 (nb_zero W) (nb_mk 0 0) (ip_key ip hip)
  have hn : Maps.has D (ipKey ip) = false := hT.2.1
  rw [atKey_of_not_has hn] at hv
  rw [nb_inv hv, hn] at hrun
  exact hrun
theorem nb_hit {W : World} {b ip : Nat} {p : Int × Int} (h : MapAt W nbElem b ip (some (nbD p))) (hip : ip < 4294967296) : (Instr.lookup 71 (.map (some b)) (.int .u32 (ip : Nat)) true).run Try.prog W = .ok (.tuple #[.agg #[.int .u64 p.1, .int .i64 p.2], .bool true]) W := by
  obtain ⟨D, hO, hT⟩ := h
  obtain ⟨v, ps, hrun, hv⟩ := hO.look_ok ip_law Try.underlying71 (nb_zero W) (nb_mk 0 0) (ip_key ip hip)
  have hn : Maps.has D (ipKey ip) = true := hT.2.1
  rw [hT.2.2 _ _ rfl] at hv
  rw [nb_inv (m := p.1) (t := p.2) hv, hn] at hrun
  exact hrun
theorem q_miss {W : World} {b ip : Nat} (h : MapAt W qElem b ip none) (hip : ip < 4294967296) : (Instr.lookup 72 (.map (some b)) (.int .u32 (ip : Nat)) true).run Try.prog W = .ok (.tuple #[.pointer none, .bool false]) W := by
  obtain ⟨D, hO, hT⟩ := h
  obtain ⟨v, ps, hrun, hv⟩ := hO.look_ok (zd := .nil) (zp := []) ip_law Try.underlying72 (q_zero W) rfl (ip_key ip hip)
  have hn : Maps.has D (ipKey ip) = false := hT.2.1
  rw [atKey_of_not_has hn] at hv
  rw [q_nil hv, hn] at hrun
  exact hrun
theorem q_hit {W : World} {b ip g : Nat} (h : MapAt W qElem b ip (some (qD g))) (hip : ip < 4294967296) : (Instr.lookup 72 (.map (some b)) (.int .u32 (ip : Nat)) true).run Try.prog W = .ok (.tuple #[.pointer (some ⟨g, 0, none⟩), .bool true]) W := by
  obtain ⟨D, hO, hT⟩ := h
  obtain ⟨v, ps, hrun, hv⟩ := hO.look_ok (zd := .nil) (zp := []) ip_law Try.underlying72 (q_zero W) rfl (ip_key ip hip)
  have hn : Maps.has D (ipKey ip) = true := hT.2.1
  rw [hT.2.2 _ _ rfl] at hv
  rw [q_inv hv, hn] at hrun
  exact hrun

/-- A cache in block gc, its maps in gk and gw; at this key K is known, queue Q waits, and nothing else stands there. -/
structure CaAt (gc gk gw ip : Nat) (now : Int) (K : Option (Int × Int)) (Q : Option Nat) (W : World) : Prop where
  blk : W.heap[gc]? = some (.cells #[.int .i64 100, .int .i64 10, .int .i64 now, .map (some gk), .map (some gw)] 74 (0, 0))
  kn : MapAt W nbElem gk ip (K.map nbD)
  wt : MapAt W qElem gw ip (Q.map qD)
  ne : gk ≠ gw
theorem CaAt.turned {gc gk gw ip : Nat} {now : Int} {K : Option (Int × Int)} {Q : Option Nat} {W W' : World} {S : Nat → Prop} (h : CaAt gc gk gw ip now K Q W) (ht : Turns S W W') (h1 : ¬ S gc) (h2 : ¬ S gk) (h3 : ¬ S gw) : CaAt gc gk gw ip now K Q W' :=
  ⟨ht.blk h.blk h1, h.kn.moved (ht.block _ h.kn.lt h2), h.wt.moved (ht.block _ h.wt.lt h3), h.ne⟩
theorem CaAt.below {gc gk gw ip : Nat} {now : Int} {K : Option (Int × Int)} {Q : Option Nat} {W W' : World} (h : CaAt gc gk gw ip now K Q W) (hb : Below W.heap.size W W') : CaAt gc gk gw ip now K Q W' :=
  h.turned (S := fun _ => False) (.of_below _ hb) id id id

def NewC (ip : Nat) (w : World) (e : Ending) (w' : World) : Prop := ∃ gc gk gw, e = .returned (.tuple #[.pointer (some ⟨gc, 0, none⟩), .int .i64 0]) ∧ w.heap.size ≤ gc ∧ w.heap.size ≤ gk ∧ w.heap.size ≤ gw ∧ CaAt gc gk gw ip 0 none none w' ∧ Below w.heap.size w w'
set_option maxRecDepth 100000 in
set_option maxHeartbeats 400000 in
theorem newCache_any (ip : Nat) (w : World) : Calls Try.prog 16 #[.int .i64 100, .int .i64 10] w (NewC ip w) := by
  have hmm := @run_makeMap Try.prog
  go_enter Try.func16, Try.ntmps16
  go_wp2
  go_ret2
  have h1 := World.ownsMap_made (H := Unit) w Try.prog 29 nbElem
  have h2 := (World.ownsMap_made (H := Unit) (w.alloc (.map #[] 0)) Try.prog 29 qElem)
  have h3 := ((h1.alloc (.map #[] 0)).alloc (.cells #[.int .i64 100, .int .i64 10, .int .i64 0, .map (some w.heap.size), .map (some (w.heap.size + 1))] 74)).mono (show 0 ≤ 1 by omega)
  have h4 := (h2.alloc (.cells #[.int .i64 100, .int .i64 10, .int .i64 0, .map (some w.heap.size), .map (some (w.heap.size + 1))] 74)).mono (show 0 ≤ 1 by omega)
  have h5 := blk_new ((w.alloc (.map #[] 0)).alloc (.map #[] 0)) (.cells #[.int .i64 100, .int .i64 10, .int .i64 0, .map (some w.heap.size), .map (some (w.heap.size + 1))] 74)
  simp only [World.size_alloc] at h4 h5
  exact ⟨w.heap.size + 1 + 1, w.heap.size, w.heap.size + 1, rfl, by omega, by omega, by omega, ⟨h5, ⟨_, h3, oneD_nil _⟩, ⟨_, h4, oneD_nil _⟩, by omega⟩, (((Below.refl _ _).alloc (Nat.le_refl _) _).alloc (by simp) _).alloc (by simp; omega) _⟩

set_option maxRecDepth 100000 in
set_option maxHeartbeats 400000 in
theorem check_any {gc gk gw ip : Nat} {now : Int} {K : Option (Int × Int)} {Q : Option Nat} (n : Int) (w : World) (h : CaAt gc gk gw ip now K Q w) (h1 : now ≤ n) (h2 : n ≤ 100) :
    Calls Try.prog 24 #[.pointer (some ⟨gc, 0, none⟩), .int .i64 n] w fun e w' => e = .returned (.int .i64 0) ∧ w = w' := by
  have c0 := blk_cell h.blk 0
  have c2 := blk_cell h.blk 2
  have c3 := blk_cell h.blk 3
  have qT : ∀ (w : World) (r : Option Nat), (binOp .eql 71 (.map r) (.map none)).run Try.prog w = .ok (.bool (r.isNone)) w := fun w r => run_eql_map_nil w _ _ _ r Try.underlying71
  have j1 : ¬ (n < now) := by omega
  have j2 : ¬ (n > 1099511627776) := by omega
  clear h h1 h2
  go_enter Try.func24, Try.ntmps24
  go_wp2
  go_ret
  exact ⟨rfl, rfl⟩

set_option maxRecDepth 100000 in
set_option maxHeartbeats 400000 in
theorem find_no {gc gk gw ip : Nat} {now : Int} {Q : Option Nat} (n : Int) (w : World) (h : CaAt gc gk gw ip now none Q w) (hip : ip < 4294967296) :
    Calls Try.prog 25 #[.pointer (some ⟨gc, 0, none⟩), .int .u32 (ip : Nat), .int .i64 n] w fun e w' => e = .returned (.tuple #[.int .u64 0, .bool false]) ∧ Below w.heap.size w w' := by
  have c3 := blk_cell h.blk 3
  have LK := nb_miss h.kn hip
  clear h
  go_enter Try.func25, Try.ntmps25
  go_upto_region 2 with fail
  clear LK
  have b0 := (Below.refl w.heap.size w).alloc (Nat.le_refl _) (.cells #[.int .u64 0, .int .i64 0] 82)
  have B0 := Lib.hid b0
  clear b0
  go_quiet (fail)
  go_wp2
  go_ret2
  exact ⟨rfl, below_drewN B0.out _⟩
set_option maxRecDepth 100000 in
set_option maxHeartbeats 400000 in
theorem find_yes {gc gk gw ip : Nat} {now : Int} {Q : Option Nat} (m n : Int) (w : World) (h : CaAt gc gk gw ip now (some (m, n)) Q w) (hip : ip < 4294967296) :
    Calls Try.prog 25 #[.pointer (some ⟨gc, 0, none⟩), .int .u32 (ip : Nat), .int .i64 n] w fun e w' => e = .returned (.tuple #[.int .u64 m, .bool true]) ∧ Below w.heap.size w w' := by
  have c3 := blk_cell h.blk 3
  have LK := nb_hit (p := (m, n)) h.kn hip
  dsimp only at LK
  have b0 := (Below.refl w.heap.size w).alloc (Nat.le_refl _) (.cells #[.int .u64 m, .int .i64 n] 82)
  have CX := Lib.hid (h.below b0)
  have PX := Lib.hid (blk_new w (.cells #[.int .u64 m, .int .i64 n] 82))
  have B0 := Lib.hid b0
  clear h b0
  go_enter Try.func25, Try.ntmps25
  go_upto_region 2 with fail
  clear LK c3
  generalize w.alloc (.cells #[.int .u64 m, .int .i64 n] 82) = X at CX PX B0 ⊢
  have c0 := blk_cell CX.out.blk 0
  have p0 := blk_cell PX.out 0
  have p1 := blk_cell PX.out 1
  have j1 : IntKind.i64.wrap (n - n) = 0 := by rw [Int.sub_self]; rfl
  go_quiet (fail)
  go_wp2
  go_ret2
  exact ⟨rfl, below_drewN B0.out _⟩
set_option maxRecDepth 100000 in
set_option maxHeartbeats 400000 in
theorem known_any {gc gk gw ip : Nat} {now : Int} {Q : Option Nat} (m n : Int) (w : World) (h : CaAt gc gk gw ip now (some (m, n)) Q w) (hip : ip < 4294967296) (h1 : now ≤ n) (h2 : n ≤ 100) :
    Calls Try.prog 19 #[.pointer (some ⟨gc, 0, none⟩), .int .u32 (ip : Nat), .int .i64 n] w fun e w' => e = .returned (.tuple #[.int .u64 m, .bool true]) ∧ Below w.heap.size w w' := by
  have HC := Lib.hid h
  clear h
  go_enter Try.func19, Try.ntmps19
  go_wp2_with fail
  refine (check_any n _ HC.out h1 h2).mono ?_
  rintro e w' ⟨rfl, rfl⟩
  go_wp2_with fail
  refine (find_yes m n _ HC.out hip).mono ?_
  rintro e w' ⟨rfl, b⟩
  go_wp2
  go_ret2
  exact ⟨rfl, b⟩
end Go.Proofs.Ytinlacdngojlaaa
