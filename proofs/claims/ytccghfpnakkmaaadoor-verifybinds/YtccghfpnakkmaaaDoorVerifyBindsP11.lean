/- Texts of VerifyBinds, one behind the other: ProofCells, VerifyMap. -/
import Derived.Great.BuildSlice
import Derived.ChangeKeysEq
import Derived.Deep.RegionHeld3
import Derived.Deep.MidRow
import Derived.Deep.CutRange
import Derived.Test.YtccghfpnakkmaaaDoorVerifyBindsP6
import Derived.Test.YtccghfpnakkmaaaDoorVerifyBindsP10
/- Hashes as cells: held against each other, put behind a list, a list of one; a row whose block stays. -/
namespace Go.Proofs.YtccghfpnakkmaaaDoor
open Go.RowKit
set_option maxRecDepth 100000

theorem own_heap {w w' : World} {B : Nat} {t : TypeId} {s : Nat} {v : Value} {n : Nat} {xs : List Value} (h : w.ownsRow B t s v n xs) (hk : ∀ k, v.ownBlock = some k → w'.heap[k]? = w.heap[k]?) : w'.ownsRow B t s v n xs := by
  refine ⟨h.1, ?_⟩
  rcases h.2 with h | ⟨g, cap, cur, rfl, hb, hg, r⟩
  · exact .inl h
  · exact .inr ⟨g, cap, cur, rfl, hb, by rw [hk g rfl]; exact hg, r⟩
def ZND : List Int := List.replicate 32 0
/-- a hash that is zero, cell by cell. -/
abbrev ZARR : Array Value := #[.int .u8 0, .int .u8 0, .int .u8 0, .int .u8 0, .int .u8 0, .int .u8 0, .int .u8 0, .int .u8 0, .int .u8 0, .int .u8 0, .int .u8 0, .int .u8 0, .int .u8 0, .int .u8 0, .int .u8 0, .int .u8 0, .int .u8 0, .int .u8 0, .int .u8 0, .int .u8 0, .int .u8 0, .int .u8 0, .int .u8 0, .int .u8 0, .int .u8 0, .int .u8 0, .int .u8 0, .int .u8 0, .int .u8 0, .int .u8 0, .int .u8 0, .int .u8 0]
theorem ZARR_eq : (CELLS ZND).toArray = ZARR := rfl
theorem results_hash {fn : Func} {p q : Tmp} {ty : TypeId} (h : fn.results = #[.cell p ty, .tmp q]) (tmps : Array Value) (w : World) (g : Nat) (t : TypeId) (cs : Array Value) (fr : Nat × Nat) (k : Nat) (el : TypeId)
    (hp : tmps.getD p undef = .pointer (some ⟨g, 0, none⟩)) (hg : w.heap[g]? = some (.cells cs t fr)) (v : Value) (hq : tmps.getD q undef = v)
    (hu : Tryd.prog.underlying ty = some (.array k el)) (hi : (Tryd.prog.info? ty).map (·.size) = some cs.size) :
    (results fn tmps).run Tryd.prog w = .ok (.tuple #[.agg cs, v]) w := by
  have hp' : tmps[p]?.getD undef = .pointer (some ⟨g, 0, none⟩) := by simpa using hp
  have hq' : tmps[q]?.getD undef = v := by simpa using hq
  simp [results, h, hp', hq', asAddr, run_loadVar_row w g t ty cs fr (.array k el) hg hu rfl hi]
theorem info_hashv : (Tryd.prog.info? 24).map (fun i => (i.zero, i.size, i.bytes)) = some (some (.agg ZARR), 32, 32) := by kernel_rfl
theorem app_hash {ops : Array Oper} {rest : List Oper} {o : Oper} {a : Act} {Q : Exit → Act → World → Prop} (w : World) (hgd : o.guard = none) (s x : Operand)
    (ho : o.op = .call { callee := .builtin .append, args := #[s, x], argTypes := #[32, 32] })
    (base : Nat) (v : Value) (n : Nat) (xs : List Value) (hs : a.eval s = v) (hown : w.ownsRow base 24 32 v n xs)
    (b c : Nat) (y : List Int) (hl : y.length = 32) (hx : a.eval x = .slice (some ⟨b, 0, none⟩) 1 c) (hc : Has w b (CELLS y).toArray 24)
    (hb : n ≤ 1000) (hbase : base ≤ w.heap.size)
    (h : ∀ g cap w', w'.ownsRow base 24 32 (.slice (some ⟨g, 0, none⟩) (n + 1) cap) (n + 1) (xs ++ CELLS y) → w.grownBy w' v.ownBlock → (v.ownBlock = some g ∨ g = w.heap.size) → g < w'.heap.size → wpList Tryd.prog ops Q rest (a.put o.dst (.slice (some ⟨g, 0, none⟩) (n + 1) cap)) w') : wpList Tryd.prog ops Q (o :: rest) a w := by
  obtain ⟨i, hi, hz, hs1, hby⟩ := info_parts info_hashv
  refine wpList_append_lies w hgd s x 32 ho base 24 i (.agg ZARR) 32 32 Tryd.underlying32 hi hz hs1 hby rfl (by decide) v n xs hs hown ⟨b, 0, none⟩ 1 c (CELLS y) hx (by rw [CELLS, List.length_map, hl]) ?_ (CELLS_one y) (by decide) (by simp only [maxLen]; omega) (by omega) hbase w.heap.size rfl h
  intro j u hj
  rw [addr_add, Nat.zero_add, hc.cell, List.getElem?_toArray]
  exact hj
/-- a list of one aggregate. -/
theorem build_one {ops : Array Oper} {rest : List Oper} {o : Oper} {a : Act} {Q : Exit → Act → World → Prop} (w : World) (hg : o.guard = none) (t e : TypeId) (x : Operand) (ho : o.op = .buildSlice t 1 #[(0, x)]) (C : Array Value) (hx : a.eval x = .agg C) (n : Nat) (z : Value) (by' : Nat)
    (hu : Tryd.prog.underlying t = some (.slice e)) (hi : (Tryd.prog.info? e).map (fun i => (i.zero, i.size, i.bytes)) = some (some z, n, by')) (hC : C.size = n) (hz : z.cells.size = n) (hn : 0 < n) (hs : n ≤ 1000)
    (h : wpList Tryd.prog ops Q rest (a.put o.dst (.slice (some ⟨w.heap.size, 0, none⟩) 1 1)) (w.alloc (.cells C e))) : wpList Tryd.prog ops Q (o :: rest) a w := by
  obtain ⟨i, hie, hz', hs1, _⟩ := info_parts hi
  refine wpList_buildSlice hg t e 1 _ ho C i z hu hie hz' (by rw [hs1]; omega) (by rw [hs1]; omega) ?_ h
  have := Great.fill_whole (s := n) hn [.agg C] ((Array.range (1 * i.size)).map (z.cells[· % z.cells.size]!)) (fun v hv => by simp at hv; subst hv; exact hC) (by simp [hs1])
  simp [Value.cells] at this
  rw [hs1]
  simp [hx]
  rw [hs1] at this
  exact this
theorem items_cells (d : Nat) (h g : List Int) (hh : h.length = 32) (hg : g.length = 32) (w : World) : ∀ is : List Nat, (∀ i ∈ is, i < 32) → (Op.eqItems (d + 1) 5 1 (CELLS h).toArray (CELLS g).toArray is).run Tryd.prog w = .ok (is.all fun i => h.getD i 0 == g.getD i 0) w
  | [], _ => by simp [Op.eqItems]
  | i :: is, hi => by
    have hp : Tryd.prog.plainKey 5 = true := by kernel_rfl
    have hi32 : i < 32 := hi i (by simp)
    have h1 := run_part_plain (P := Tryd.prog) w hp (show (CELLS h).toArray[i]? = some (.int .u8 (h.getD i 0)) by rw [List.getElem?_toArray, CELLS_get h i (by omega)])
    have h2 := run_part_plain (P := Tryd.prog) w hp (show (CELLS g).toArray[i]? = some (.int .u8 (g.getD i 0)) by rw [List.getElem?_toArray, CELLS_get g i (by omega)])
    have h3 := run_equalIn_int (P := Tryd.prog) w d 5 .u8 .u8 (h.getD i 0) (g.getD i 0) Tryd.underlying5
    have ih := items_cells d h g hh hg w is (fun j hj => hi j (by simp [hj]))
    rw [Op.eqItems, Nat.mul_one]
    simp only [Sem.run_bind, h1, h2, h3, Result.andThen_ok]
    by_cases e : h.getD i 0 = g.getD i 0
    · have e2 : (h.getD i 0 == g.getD i 0) = true := by simpa using e
      rw [List.all_cons, e2, Bool.true_and, if_neg (by simp)]
      exact ih
    · have e2 : (h.getD i 0 == g.getD i 0) = false := by simpa using e
      rw [List.all_cons, e2]
      simp
theorem equal_cells (h g : List Int) (hh : h.length = 32) (hg : g.length = 32) (w : World) : (Op.equalIn 10000 24 (.agg (CELLS h).toArray) (.agg (CELLS g).toArray)).run Tryd.prog w = .ok ((List.range 32).all fun i => h.getD i 0 == g.getD i 0) w := by
  obtain ⟨i8, hi, _⟩ := Option.map_eq_some_iff.1 info_u8
  rw [run_equalIn_array (P := Tryd.prog) w 9999 (CELLS h).toArray (CELLS g).toArray Tryd.underlying24 hi]
  have hc : Tryd.prog.cellsOf 5 = 1 := by kernel_rfl
  rw [hc]
  exact items_cells 9998 h g hh hg w _ (fun i hi => by simpa using hi)
theorem neq_cells (h : List Int) (hh : h.length = 32) (x y : Operand) (w : World) : (do eqGuard .neq 24 x y (.agg (CELLS h).toArray) (.agg (CELLS h).toArray); binOp .neq 24 (.agg (CELLS h).toArray) (.agg (CELLS h).toArray) : Sem Value).run Tryd.prog w = .ok (.bool false) w := by
  simp only [Sem.run_bind, run_eqGuard_agg (P := Tryd.prog) w .neq 24 x y _ _ (by kernel_rfl), Result.andThen_ok, run_neq_struct, equal_cells h h hh hh]
  simp
theorem all_cells {h g : List Int} (hh : h.length = 32) (hg : g.length = 32) : ((List.range 32).all fun i => h.getD i 0 == g.getD i 0) = decide (h = g) := by
  by_cases e : h = g
  · subst e
    simp
  · rw [decide_eq_false e, Bool.eq_false_iff]
    intro hx
    rw [List.all_eq_true] at hx
    apply e
    apply List.ext_getElem (by omega)
    intro i h1 h2
    have := hx i (by simp; omega)
    simpa [List.getD, h1, h2] using this
theorem equal_hashes {h g : List Int} (hh : h.length = 32) (hg : g.length = 32) (w : World) : (Op.equalIn 10000 24 (.agg (CELLS h).toArray) (.agg (CELLS g).toArray)).run Tryd.prog w = .ok (decide (h = g)) w := by
  rw [equal_cells h g hh hg, all_cells hh hg]
theorem neq_hashes {h g : List Int} (hh : h.length = 32) (hg : g.length = 32) (x y : Operand) (w : World) : (do eqGuard .neq 24 x y (.agg (CELLS h).toArray) (.agg (CELLS g).toArray); binOp .neq 24 (.agg (CELLS h).toArray) (.agg (CELLS g).toArray) : Sem Value).run Tryd.prog w = .ok (.bool (!decide (h = g))) w := by
  simp only [Sem.run_bind, run_eqGuard_agg (P := Tryd.prog) w .neq 24 x y _ _ (by kernel_rfl), Result.andThen_ok, run_neq_struct, equal_hashes hh hg]
theorem eql_hashes {h g : List Int} (hh : h.length = 32) (hg : g.length = 32) (x y : Operand) (w : World) : (do eqGuard .eql 24 x y (.agg (CELLS h).toArray) (.agg (CELLS g).toArray); binOp .eql 24 (.agg (CELLS h).toArray) (.agg (CELLS g).toArray) : Sem Value).run Tryd.prog w = .ok (.bool (decide (h = g))) w := by
  simp only [Sem.run_bind, run_eqGuard_agg (P := Tryd.prog) w .eql 24 x y _ _ (by kernel_rfl), Result.andThen_ok, run_eql_struct, equal_hashes hh hg]
theorem info_hashn : (Tryd.prog.info? 24).map (fun i => (i.size, i.bytes, i.zero.isSome)) = some (32, 32, true) := by kernel_rfl
theorem make_nodes (N : Nat) (hN : N ≤ 1000) (w : World) : ∃ cur : Array Value, cur.size = N * 32 ∧ (Instr.makeSlice 32 (.int .i64 0) (.int .i64 (N : Int))).run Tryd.prog w = .ok (.slice (some ⟨w.heap.size, 0, none⟩) 0 N) (w.alloc (.cells cur 24)) := by
  obtain ⟨i, hi, h⟩ := Option.map_eq_some_iff.1 info_hashn
  simp only [Prod.mk.injEq] at h
  obtain ⟨h1, h2, h3⟩ := h
  obtain ⟨z, hz⟩ := Option.isSome_iff_exists.1 h3
  have h := run_make (P := Tryd.prog) w 32 24 i z Tryd.underlying32 hi hz .i64 .i64 0 N (by omega) (by omega) (by rw [h2]; omega) (by omega)
  refine ⟨madeCells z.cells (N * i.size), ?_, ?_⟩
  · rw [size_madeCells, h1]
  · simpa using h
end Go.Proofs.YtccghfpnakkmaaaDoor

/- A map from spots to hashes, made by the call. -/
namespace Go.Proofs.YtccghfpnakkmaaaDoor
open Go.RowKit Go.Maps
set_option maxRecDepth 100000

/-- how a value reads: as itself. -/
def RV (v : Value) : Option (DataW Value × List MemPlace) := some (.held v, [])
theorem zeroHash (w : World) : (zeroValue 24).run Tryd.prog w = .ok (.agg ZARR) w := by kernel_rfl
/-- block b is a map that holds the hash M h k at each spot (h, k): zero where it has none. -/
def SMAP (w : World) (b n : Nat) (M : Nat → Nat → List Int) : Prop := ∃ D : DataW Value, w.ownsMap Tryd.prog 108 RV b n D ∧ ∀ h k, h < 256 → k < 2 ^ 64 → D.atKey (KL h k) (.held (.agg ZARR)) = .held (.agg (CELLS (M h k)).toArray)
/-- one more. -/
def MPUT (M : Nat → Nat → List Int) (h k : Nat) (x : List Int) : Nat → Nat → List Int := fun h' k' => if h' = h ∧ k' = k then x else M h' k'
theorem MPUT_at (M : Nat → Nat → List Int) (h k : Nat) (x : List Int) : MPUT M h k x h k = x := by simp [MPUT]
theorem MPUT_other (M : Nat → Nat → List Int) {h k h' k' : Nat} (x : List Int) (e : ¬ (h' = h ∧ k' = k)) : MPUT M h k x h' k' = M h' k' := by unfold MPUT; rw [if_neg e]
theorem SMAP.made (w : World) : SMAP (w.alloc (.map #[] 0)) w.heap.size 0 (fun _ _ => ZND) := ⟨_, World.ownsMap_made w _ _ _, fun h k _ _ => by simp [DataW.atKey]; rfl⟩
theorem SMAP.lt {w : World} {b n : Nat} {M : Nat → Nat → List Int} (h : SMAP w b n M) : b < w.heap.size := let ⟨_, h1, _⟩ := h; h1.lt
theorem SMAP.at {w w' : World} {b n : Nat} {M : Nat → Nat → List Int} (h : SMAP w b n M) (hb : w'.heap[b]? = w.heap[b]?) : SMAP w' b n M := by
  obtain ⟨D, ⟨es, clock, h1, r⟩, h2⟩ := h
  exact ⟨D, ⟨es, clock, hb.trans h1, r⟩, h2⟩
theorem SMAP.below {w w' : World} {b n : Nat} {M : Nat → Nat → List Int} (h : SMAP w b n M) (hb : Below w.heap.size w w') : SMAP w' b n M := h.at (hb.block b h.lt)
theorem SMAP.look {w : World} {b n : Nat} {M : Nat → Nat → List Int} (hM : SMAP w b n M) {h k : Nat} (hh : h < 256) (hk : k < 2 ^ 64) : (Instr.lookup 104 (.map (some b)) (SPOT h k) false).run Tryd.prog w = .ok (.agg (CELLS (M h k)).toArray) w := by
  obtain ⟨D, h1, h2⟩ := hM
  obtain ⟨v, ps, r1, r2⟩ := h1.lookup law Tryd.underlying104 (zeroHash w) (show RV (.agg ZARR) = some (.held (.agg ZARR), []) from rfl) (key_ok hh hk)
  rw [h2 h k hh hk] at r2
  have e : v = .agg (CELLS (M h k)).toArray := by
    simp only [RV, Option.some.injEq, Prod.mk.injEq, DataW.held.injEq] at r2
    exact r2.1
  rw [r1, e]
theorem SMAP.store {w : World} {b n : Nat} {M : Nat → Nat → List Int} (hM : SMAP w b n M) (hn : n ≤ 100000) {h k : Nat} (hh : h < 256) (hk : k < 2 ^ 64) (x : List Int) : ∃ w', (Instr.mapUpdate 104 (.map (some b)) (SPOT h k) (.agg (CELLS x).toArray)).run Tryd.prog w = .ok () w' ∧ SMAP w' b (n + 1) (MPUT M h k x) ∧ w.grownBy w' (some b) := by
  obtain ⟨D, h1, h2⟩ := hM
  obtain ⟨w', r1, r2, r3⟩ := h1.update law Tryd.underlying104 (by unfold maxLen; omega) (key_ok hh hk) (show RV (.agg (CELLS x).toArray) = some (.held (.agg (CELLS x).toArray), []) from rfl)
  refine ⟨w', r1, ⟨_, r2, fun h' k' hh' hk' => ?_⟩, r3⟩
  have hkey : WideAt.IsKeyLit (KL h k) := law.key (key_ok hh hk)
  by_cases e : KL h' k' = KL h k
  · obtain ⟨rfl, rfl⟩ := KL_inj hh' hk' hh hk e
    rw [Maps.atKey_put_same h1.isMap hkey, MPUT_at]
  · rw [Maps.atKey_put_other e, MPUT_other _ _ (fun e2 => e (by rw [e2.1, e2.2])), h2 h' k' hh' hk']
end Go.Proofs.YtccghfpnakkmaaaDoor
