/- Texts of ClashPeaks, one behind the other: ProofFlats, ProofMarked, PosForestMap, VerifyMap, VerifyRegions, HashPlain. -/
import Derived.Maps.OwnSet
import Derived.DeepKeys4
import Derived.WalkKit
import Derived.WalkLawsBesides
import Derived.OpenShut
import Derived.Laws.BitsAllLaws
import Derived.Test.YtbmjoiiagldklaaDoorClashPeaksP5
import Derived.Test.YtbmjoiiagldklaaDoorClashPeaksP6
/- Lists of hashes and of bytes that lie somewhere: what a row of one's own, a block, a cut of them give. -/
namespace Go.Proofs.YtbmjoiiagldklaaDoor
open Go.RowKit
set_option maxRecDepth 100000

theorem range_below {w w' : World} {g o : Nat} {cs : List Value} (h : w.rangeAt g o cs) (hb : Below w.heap.size w w') (hg : g < w.heap.size) : w'.rangeAt g o cs := fun j v hv => (hb.cell (p := ⟨g, o + j, none⟩) hg).trans (h j v hv)
theorem Flat.other {w : World} {b o n : Nat} {l : List Int} (h : Flat w (some ⟨b, o, none⟩) n l) {a : Addr} (ha : b ≠ a.block) (u : Value) : Flat (w.setCell a u) (some ⟨b, o, none⟩) n l :=
  ⟨h.1, fun hn => by
    obtain ⟨b', o', e, hl, hc⟩ := h.2.1 hn
    cases e
    exact ⟨b, o, rfl, Nat.lt_of_lt_of_le hl (KeepsWalks.setCell w a u).size, fun j hj => (World.cell?_setCell_other w _ _ u (fun e => ha (congrArg Addr.block e).symm)).trans (hc j hj)⟩, h.2.2⟩
theorem own_flat {w : World} {B n : Nat} {a : Option Addr} {c : Nat} {l : List Int} (h : w.ownsRow B 26 32 (.slice a n c) n (CELLS l)) (hr : ∀ x ∈ l, 0 ≤ x ∧ x ≤ 255) : Flat w a n l := by
  have hl : l.length = 32 * n := by have := h.1; simpa [CELLS, Nat.mul_comm] using this
  refine ⟨hl, fun hn => ?_, hr⟩
  rcases h.2 with ⟨e, h0⟩ | ⟨g, cap, cur, e, _, hg, _⟩
  · omega
  · cases e
    refine ⟨g, 0, rfl, (Array.getElem?_eq_some_iff.1 hg).1, fun j hj => ?_⟩
    have := h.cellAt j (by omega)
    rw [Nat.zero_add, this, CELLS_get l j (by omega)]
theorem Bytes.take {w : World} {a : Option Addr} {n : Nat} {l : List Int} (h : Bytes w a n l) {m : Nat} (hm : m ≤ n) : Bytes w a m (l.take m) := by
  refine ⟨by rw [List.length_take, h.1]; omega, fun h0 => ?_, fun x hx => h.2.2 x (List.mem_of_mem_take hx)⟩
  obtain ⟨b, o, e, hb, hc⟩ := h.2.1 (by omega)
  refine ⟨b, o, e, hb, fun i hi => ?_⟩
  rw [hc i (by omega), List.getD_eq_getElem?_getD, List.getD_eq_getElem?_getD, List.getElem?_take, if_pos hi]
end Go.Proofs.YtbmjoiiagldklaaDoor

/- A list of hashes of one's own that is written over with a mark. -/
namespace Go.Proofs.YtbmjoiiagldklaaDoor
open Go.RowKit
set_option maxRecDepth 100000

end Go.Proofs.YtbmjoiiagldklaaDoor

/- A map from spots to places, made by the call. -/
namespace Go.Proofs.YtbmjoiiagldklaaDoor
open Go.RowKit Go.Maps
set_option maxRecDepth 100000

theorem laidOutP : laidOutB Tryd.prog = true := by kernel_rfl
theorem rowSpot : (88 : TypeId) < Tryd.prog.types.size := of_decide_eq_true (by kernel_rfl)
theorem wideSpot : (match Tryd.prog.underlying 88 with | some (.array _ _) | some (.struct _) => true | _ => false) = true := by rw [Tryd.underlying88]
theorem law : Keyed Tryd.prog 88 := Keyed.of_law (deep_law_laid laidOutP (m := 2) (by omega) rowSpot (by kernel_rfl) wideSpot)
/-- what a spot reads as, as a key. -/
def KL (h k : Nat) : Lit := .string (keyBytes [.int .u8 (h : Int), .int .u64 (k : Int)])
theorem key_ok {h k : Nat} (hh : h < 256) (hk : k < 2 ^ 64) : keyOf Tryd.prog 88 (SPOT h k) = some (KL h k) := by
  have w0 : (Lit.int .u8 (h : Int)).wf = true := WalkArith.wf_u8 (by omega)
  have w1 : (Lit.int .u64 (k : Int)).wf = true := WalkArith.wf_u64 (by omega)
  have c3 : Tryd.prog.cellsOf 88 = 2 := by kernel_rfl
  have c1 : Tryd.prog.cellsOf 5 = 1 := by kernel_rfl
  have c2 : Tryd.prog.cellsOf 22 = 1 := by kernel_rfl
  have ht : Tryd.prog.keyType 88 = true := by kernel_rfl
  have hf : (SPOT h k).formed Tryd.prog 88 = true := by simp [Value.formed, Tryd.underlying88, c3]
  obtain ⟨m, hm⟩ : ∃ m, Tryd.prog.types.size = m + 1 := ⟨Tryd.prog.types.size - 1, (Nat.succ_pred_eq_of_pos (Nat.lt_of_le_of_lt (Nat.zero_le _) rowSpot)).symm⟩
  unfold keyOf
  simp only [Tryd.underlying88, ht, hf, hm]
  simp [Program.keyLits, Tryd.underlying88, Tryd.underlying5, Tryd.underlying22, c1, c2, c3, Value.cells, w0, w1, KL]
theorem KL_inj {h k h' k' : Nat} (hh : h < 256) (hk : k < 2 ^ 64) (hh' : h' < 256) (hk' : k' < 2 ^ 64) (e : KL h k = KL h' k') : h = h' ∧ k = k' := by
  have h1 := key_ok hh hk
  have h2 := key_ok hh' hk'
  rw [← e] at h2
  have := law.inj h1 h2
  simp at this
  omega
/-- a number as a datum. -/
abbrev U64 (n : Nat) : DataW Unit := .lit (.int .u64 (n : Int))
/-- the map holds just the nodes ahead of m, each with its place. -/
def MapOk (D : DataW Unit) (m : Nat) : Prop := ∀ h k, h < 256 → k < 2 ^ 64 → (Maps.has D (KL h k) = true ↔ Node h k ∧ PLC h k < m) ∧ (Node h k → PLC h k < m → D.atKey (KL h k) (U64 0) = U64 (PLC h k))
theorem Node.small {h k : Nat} (a : Node h k) : h < 256 ∧ k < 2 ^ 64 := ⟨by have := a.1; omega, by have := a.index_lt; omega⟩
theorem MapOk.put {D : DataW Unit} {m h k : Nat} (hD : Maps.IsMap D) (hM : MapOk D m) (hN : Node h k) (hp : PLC h k = m) : MapOk (D.put (KL h k) (U64 m)) (m + 1) := by
  intro h' k' hh' hk'
  obtain ⟨hh, hk⟩ := hN.small
  have hkey : WideAt.IsKeyLit (KL h k) := law.key (key_ok hh hk)
  by_cases e : KL h' k' = KL h k
  · obtain ⟨rfl, rfl⟩ := KL_inj hh' hk' hh hk e
    exact ⟨⟨fun _ => ⟨hN, by omega⟩, fun _ => Maps.has_put_same hD hkey _⟩, fun _ _ => by rw [Maps.atKey_put_same hD hkey, hp]⟩
  · have hne : ∀ _ : Node h' k', PLC h' k' ≠ m := fun hN' e2 => e (by obtain ⟨rfl, rfl⟩ := hN'.one hN (by omega); rfl)
    rw [Maps.has_put_other e, Maps.atKey_put_other e]
    obtain ⟨a, b⟩ := hM h' k' hh' hk'
    refine ⟨⟨fun h => ?_, fun h => ?_⟩, fun h1 h2 => b h1 (by have := hne h1; omega)⟩
    · have := a.1 h
      exact ⟨this.1, by omega⟩
    · exact a.2 ⟨h.1, by have := hne h.1; omega⟩
/-- block b is such a map. -/
def Placed (w : World) (b m : Nat) : Prop := ∃ D : DataW Unit, w.ownsMap Tryd.prog 88 (plainElem Tryd.prog 22) b m D ∧ MapOk D m
theorem Placed.kept {w w' : World} {b m : Nat} {row : Option Nat} (h : Placed w b m) (hg : w.grownBy w' row) (hne : some b ≠ row) : Placed w' b m := let ⟨D, h1, h2⟩ := h; ⟨D, h1.kept hg hne, h2⟩
theorem Placed.lt {w : World} {b m : Nat} (h : Placed w b m) : b < w.heap.size := let ⟨_, h1, _⟩ := h; h1.lt
theorem Placed.below {w w' : World} {b m : Nat} (h : Placed w b m) (hb : Below w.heap.size w w') : Placed w' b m := by
  have hlt := h.lt
  obtain ⟨D, ⟨es, clock, h1, r⟩, h2⟩ := h
  exact ⟨D, ⟨es, clock, (hb.block b hlt).trans h1, r⟩, h2⟩
theorem Placed.alloc {w : World} {b m : Nat} (h : Placed w b m) (o : Obj) : Placed (w.alloc o) b m := h.below ((Below.refl _ _).alloc (Nat.le_refl _) _)
theorem Placed.setCell {w : World} {b m : Nat} (h : Placed w b m) {a : Addr} (ha : b ≠ a.block) (u : Value) : Placed (w.setCell a u) b m := let ⟨D, h1, h2⟩ := h; ⟨D, h1.setCell ha u, h2⟩
end Go.Proofs.YtbmjoiiagldklaaDoor

/- A map from spots to hashes, made by the call. -/
namespace Go.Proofs.YtbmjoiiagldklaaDoor
open Go.RowKit Go.Maps
set_option maxRecDepth 100000

/-- how a value reads: as itself. -/
def RV (v : Value) : Option (DataW Value × List MemPlace) := some (.held v, [])
theorem zeroHash (w : World) : (zeroValue 26).run Tryd.prog w = .ok (.agg ZARR) w := by kernel_rfl
/-- block b is a map that holds the hash M h k at each spot (h, k): zero where it has none. -/
def SMAP (w : World) (b n : Nat) (M : Nat → Nat → List Int) : Prop := ∃ D : DataW Value, w.ownsMap Tryd.prog 88 RV b n D ∧ ∀ h k, h < 256 → k < 2 ^ 64 → D.atKey (KL h k) (.held (.agg ZARR)) = .held (.agg (CELLS (M h k)).toArray)
/-- one more. -/
def MPUT (M : Nat → Nat → List Int) (h k : Nat) (x : List Int) : Nat → Nat → List Int := fun h' k' => if h' = h ∧ k' = k then x else M h' k'
theorem MPUT_at (M : Nat → Nat → List Int) (h k : Nat) (x : List Int) : MPUT M h k x h k = x := by simp [MPUT]
theorem MPUT_other (M : Nat → Nat → List Int) {h k h' k' : Nat} (x : List Int) (e : ¬ (h' = h ∧ k' = k)) : MPUT M h k x h' k' = M h' k' := by unfold MPUT; rw [if_neg e]
theorem SMAP.lt {w : World} {b n : Nat} {M : Nat → Nat → List Int} (h : SMAP w b n M) : b < w.heap.size := let ⟨_, h1, _⟩ := h; h1.lt
theorem SMAP.at {w w' : World} {b n : Nat} {M : Nat → Nat → List Int} (h : SMAP w b n M) (hb : w'.heap[b]? = w.heap[b]?) : SMAP w' b n M := by
  obtain ⟨D, ⟨es, clock, h1, r⟩, h2⟩ := h
  exact ⟨D, ⟨es, clock, hb.trans h1, r⟩, h2⟩
theorem SMAP.below {w w' : World} {b n : Nat} {M : Nat → Nat → List Int} (h : SMAP w b n M) (hb : Below w.heap.size w w') : SMAP w' b n M := h.at (hb.block b h.lt)
theorem SMAP.look {w : World} {b n : Nat} {M : Nat → Nat → List Int} (hM : SMAP w b n M) {h k : Nat} (hh : h < 256) (hk : k < 2 ^ 64) : (Instr.lookup 111 (.map (some b)) (SPOT h k) false).run Tryd.prog w = .ok (.agg (CELLS (M h k)).toArray) w := by
  obtain ⟨D, h1, h2⟩ := hM
  obtain ⟨v, ps, r1, r2⟩ := h1.lookup law Tryd.underlying111 (zeroHash w) (show RV (.agg ZARR) = some (.held (.agg ZARR), []) from rfl) (key_ok hh hk)
  rw [h2 h k hh hk] at r2
  have e : v = .agg (CELLS (M h k)).toArray := by
    simp only [RV, Option.some.injEq, Prod.mk.injEq, DataW.held.injEq] at r2
    exact r2.1
  rw [r1, e]
theorem SMAP.store {w : World} {b n : Nat} {M : Nat → Nat → List Int} (hM : SMAP w b n M) (hn : n ≤ 100000) {h k : Nat} (hh : h < 256) (hk : k < 2 ^ 64) (x : List Int) : ∃ w', (Instr.mapUpdate 111 (.map (some b)) (SPOT h k) (.agg (CELLS x).toArray)).run Tryd.prog w = .ok () w' ∧ SMAP w' b (n + 1) (MPUT M h k x) ∧ w.grownBy w' (some b) := by
  obtain ⟨D, h1, h2⟩ := hM
  obtain ⟨w', r1, r2, r3⟩ := h1.update law Tryd.underlying111 (by unfold maxLen; omega) (key_ok hh hk) (show RV (.agg (CELLS x).toArray) = some (.held (.agg (CELLS x).toArray), []) from rfl)
  refine ⟨w', r1, ⟨_, r2, fun h' k' hh' hk' => ?_⟩, r3⟩
  have hkey : WideAt.IsKeyLit (KL h k) := law.key (key_ok hh hk)
  by_cases e : KL h' k' = KL h k
  · obtain ⟨rfl, rfl⟩ := KL_inj hh' hk' hh hk e
    rw [Maps.atKey_put_same h1.isMap hkey, MPUT_at]
  · rw [Maps.atKey_put_other e, MPUT_other _ _ (fun e2 => e (by rw [e2.1, e2.2])), h2 h' k' hh' hk']
end Go.Proofs.YtbmjoiiagldklaaDoor

/- The regions of package verify that draw their order. -/
namespace Go.Proofs.YtbmjoiiagldklaaDoor
open Go.RowKit
set_option maxRecDepth 100000

theorem store_row32 {w : World} {g : Nat} {x y : List Int} (h : Has w g (CELLS x).toArray 26) (hx : x.length = 32) (hy : y.length = 32) : (Instr.storeAt 26 (.pointer (some ⟨g, 0, none⟩)) (.agg (CELLS y).toArray)).run Tryd.prog w = .ok () (w.setRow g (CELLS y).toArray) := by
  simp only [Instr.storeAt, Instr.sureAddr, Sem.run_bind, Sem.run_pure, Result.andThen]
  exact run_storeVar_row w g 26 26 (CELLS x).toArray (CELLS y).toArray h (info_arr hy) (by simp [CELLS, hx, hy]) (cells_one y)
def VFOPS : Array Oper := #[{ dst := some 25, op := Op.move (Operand.tmp 0), type := 3, pos := "grow.go:30", after := #[], guard := none }, { dst := some 26, op := Op.move (Operand.tmp 1), type := 23, pos := "grow.go:30", after := #[], guard := none }, { dst := some 27, op := Op.move (Operand.tmp 7), type := 3, pos := "grow.go:30", after := #[], guard := none }, { dst := some 28, op := Op.indexAddr 23 (Operand.tmp 26) (Operand.tmp 27), type := 0, pos := "grow.go:30", after := #[{ on := 1, ground := Ground.data }, { on := 2, ground := Ground.data }], guard := none }, { dst := some 29, op := Op.load 26 (Operand.tmp 28), type := 26, pos := "grow.go:30", after := #[{ on := 3, ground := Ground.data }], guard := none }, { dst := some 30, op := Op.load 26 (Operand.tmp 6), type := 26, pos := "grow.go:30", after := #[], guard := none }, { dst := some 31, op := Op.call { callee := Callee.value (Operand.func 76), args := #[Operand.tmp 25, Operand.tmp 29, Operand.tmp 30], argTypes := #[3, 26, 26] }, type := 26, pos := "grow.go:30", after := #[{ on := 0, ground := Ground.data }, { on := 4, ground := Ground.data }, { on := 5, ground := Ground.data }], guard := none }, { dst := none, op := Op.store 26 (Operand.tmp 6) (Operand.tmp 31), type := 0, pos := "grow.go:30", after := #[{ on := 6, ground := Ground.data }, { on := 6, ground := Ground.chain }, { on := 0, ground := Ground.phase }, { on := 1, ground := Ground.phase }, { on := 2, ground := Ground.phase }, { on := 3, ground := Ground.phase }, { on := 4, ground := Ground.phase }, { on := 5, ground := Ground.phase }, { on := 6, ground := Ground.phase }], guard := none }]
set_option maxHeartbeats 2000000 in
theorem folded_region {Q : Exit → Act → World → Prop} (u2 u3 u4 u5 u8 u9 u10 u11 u12 u13 u14 u15 u16 u17 u18 u19 u20 u21 u22 u23 u24 u25 u26 u27 u28 u29 u30 u31 u32 : Value) (W : World) (b6 gn o n c i : Nat) (d : Int) (L R Y : List Int) (hL : L.length = 32) (hR : R.length = 32) (hY : Y.length = 32) (b1 : (i : Int) < (n : Int)) (hLr : W.drew.rangeAt gn (o + i * 32) (CELLS L)) (hRr : W.drew.rangeAt b6 0 (CELLS R)) (T : World → Prop) (cF : Calls Tryd.prog 76 #[.int .i64 d, .agg (CELLS L).toArray, .agg (CELLS R).toArray] W.drew fun e w' => ∃ X, e = .returned X ∧ (X = .agg (CELLS Y).toArray ∧ Has w' b6 (CELLS R).toArray 26 ∧ T w')) (hQ : ∀ c (a : Act) (t : Tmp) (v : Value) w, Q (.panic c) (a.put (some t) v) w → Q (.panic c) a w)
    (h : ∀ (X : Value) (w' : World), (X = .agg (CELLS Y).toArray ∧ Has w' b6 (CELLS R).toArray 26 ∧ T w') → Q .normal { tmps := #[.int .i64 d, .slice (some ⟨gn, o, none⟩) n c, u2, u3, u4, u5, .pointer (some ⟨b6, 0, none⟩), .int .i64 (i : Int), u8, u9, u10, u11, u12, u13, u14, u15, u16, u17, u18, u19, u20, u21, u22, u23, u24, .int .i64 d, .slice (some ⟨gn, o, none⟩) n c, .int .i64 (i : Int), .pointer (some ⟨gn, o + i * 32, none⟩), .agg (CELLS L).toArray, .agg (CELLS R).toArray, X, u32], defers := [] } (World.setRow w' b6 (CELLS Y).toArray)) : (Code.region 8 VFOPS true).wp Tryd.prog Q { tmps := #[.int .i64 d, .slice (some ⟨gn, o, none⟩) n c, u2, u3, u4, u5, .pointer (some ⟨b6, 0, none⟩), .int .i64 (i : Int), u8, u9, u10, u11, u12, u13, u14, u15, u16, u17, u18, u19, u20, u21, u22, u23, u24, u25, u26, u27, u28, u29, u30, u31, u32], defers := [] } W := by
  have kX : ∀ (X : Value) (w' : World), (X = .agg (CELLS Y).toArray ∧ Has w' b6 (CELLS R).toArray 26 ∧ T w') → wpAny Tryd.prog .any VFOPS Q 1 #[true, true, true, true, true, true, true, false] { tmps := #[.int .i64 d, .slice (some ⟨gn, o, none⟩) n c, u2, u3, u4, u5, .pointer (some ⟨b6, 0, none⟩), .int .i64 (i : Int), u8, u9, u10, u11, u12, u13, u14, u15, u16, u17, u18, u19, u20, u21, u22, u23, u24, .int .i64 d, .slice (some ⟨gn, o, none⟩) n c, .int .i64 (i : Int), .pointer (some ⟨gn, o + i * 32, none⟩), .agg (CELLS L).toArray, .agg (CELLS R).toArray, X, u32], defers := [] } w' := fun X w' hX => by
    have z : wpAny Tryd.prog .any VFOPS Q 0 #[true, true, true, true, true, true, true, true] { tmps := #[.int .i64 d, .slice (some ⟨gn, o, none⟩) n c, u2, u3, u4, u5, .pointer (some ⟨b6, 0, none⟩), .int .i64 (i : Int), u8, u9, u10, u11, u12, u13, u14, u15, u16, u17, u18, u19, u20, u21, u22, u23, u24, .int .i64 d, .slice (some ⟨gn, o, none⟩) n c, .int .i64 (i : Int), .pointer (some ⟨gn, o + i * 32, none⟩), .agg (CELLS L).toArray, .agg (CELLS R).toArray, X, u32], defers := [] } (World.setRow w' b6 (CELLS Y).toArray) := wpAny_done (by kernel_rfl) (h X w' hX) _
    have z7 : wpAny Tryd.prog .any VFOPS Q 1 #[true, true, true, true, true, true, true, false] { tmps := #[.int .i64 d, .slice (some ⟨gn, o, none⟩) n c, u2, u3, u4, u5, .pointer (some ⟨b6, 0, none⟩), .int .i64 (i : Int), u8, u9, u10, u11, u12, u13, u14, u15, u16, u17, u18, u19, u20, u21, u22, u23, u24, .int .i64 d, .slice (some ⟨gn, o, none⟩) n c, .int .i64 (i : Int), .pointer (some ⟨gn, o + i * 32, none⟩), .agg (CELLS L).toArray, .agg (CELLS R).toArray, X, u32], defers := [] } w' := by
      refine wpAny_ready (rs := [7]) (by kernel_rfl) (by simp) ?_
      exact AllReady.cons (o := { dst := none, op := Op.store 26 (Operand.tmp 6) (Operand.tmp 31), type := 0, pos := "grow.go:30", after := #[{ on := 6, ground := Ground.data }, { on := 6, ground := Ground.chain }, { on := 0, ground := Ground.phase }, { on := 1, ground := Ground.phase }, { on := 2, ground := Ground.phase }, { on := 3, ground := Ground.phase }, { on := 4, ground := Ground.phase }, { on := 5, ground := Ground.phase }, { on := 6, ground := Ground.phase }], guard := none }) rfl (fun K hK => step_skip rfl (run_skip (by obtain ⟨rfl, hb, _⟩ := hX; exact store_row32 hb hR hY)) (hK _ _ z)) AllReady.nil
    exact z7
  have s4_5 : wpAny Tryd.prog .any VFOPS Q 2 #[true, true, true, true, true, true, false, false] { tmps := #[.int .i64 d, .slice (some ⟨gn, o, none⟩) n c, u2, u3, u4, u5, .pointer (some ⟨b6, 0, none⟩), .int .i64 (i : Int), u8, u9, u10, u11, u12, u13, u14, u15, u16, u17, u18, u19, u20, u21, u22, u23, u24, .int .i64 d, .slice (some ⟨gn, o, none⟩) n c, .int .i64 (i : Int), .pointer (some ⟨gn, o + i * 32, none⟩), .agg (CELLS L).toArray, .agg (CELLS R).toArray, u31, u32], defers := [] } W.drew := by
    refine wpAny_ready (rs := [6]) (by kernel_rfl) (by simp) ?_
    refine AllReady.cons (o := { dst := some 31, op := Op.call { callee := Callee.value (Operand.func 76), args := #[Operand.tmp 25, Operand.tmp 29, Operand.tmp 30], argTypes := #[3, 26, 26] }, type := 26, pos := "grow.go:30", after := #[{ on := 0, ground := Ground.data }, { on := 4, ground := Ground.data }, { on := 5, ground := Ground.data }], guard := none }) rfl (fun K hK => ?_) ?_
    · rw [if_pos (by rfl)]
      go_simp
      refine (cF).mono ?_
      rintro e w' ⟨X, rfl, hX⟩
      exact hK _ _ (kX X w' hX)
    exact AllReady.nil
  have s5 : wpAny Tryd.prog .any VFOPS Q 3 #[true, true, true, true, false, true, false, false] { tmps := #[.int .i64 d, .slice (some ⟨gn, o, none⟩) n c, u2, u3, u4, u5, .pointer (some ⟨b6, 0, none⟩), .int .i64 (i : Int), u8, u9, u10, u11, u12, u13, u14, u15, u16, u17, u18, u19, u20, u21, u22, u23, u24, .int .i64 d, .slice (some ⟨gn, o, none⟩) n c, .int .i64 (i : Int), .pointer (some ⟨gn, o + i * 32, none⟩), u29, .agg (CELLS R).toArray, u31, u32], defers := [] } W.drew := by
    refine wpAny_ready (rs := [4]) (by kernel_rfl) (by simp) ?_
    refine AllReady.cons (o := { dst := some 29, op := Op.load 26 (Operand.tmp 28), type := 26, pos := "grow.go:30", after := #[{ on := 3, ground := Ground.data }], guard := none }) rfl (fun K hK => step_val (v := .agg (CELLS L).toArray) rfl (run_value (run_loadAt_mid (P := Tryd.prog) _ gn (o + i * 32) 26 _ _ hLr Tryd.underlying26 rfl (info_cells hL))) (hK _ _ s4_5)) ?_
    exact AllReady.nil
  have s4 : wpAny Tryd.prog .any VFOPS Q 3 #[true, true, true, true, true, false, false, false] { tmps := #[.int .i64 d, .slice (some ⟨gn, o, none⟩) n c, u2, u3, u4, u5, .pointer (some ⟨b6, 0, none⟩), .int .i64 (i : Int), u8, u9, u10, u11, u12, u13, u14, u15, u16, u17, u18, u19, u20, u21, u22, u23, u24, .int .i64 d, .slice (some ⟨gn, o, none⟩) n c, .int .i64 (i : Int), .pointer (some ⟨gn, o + i * 32, none⟩), .agg (CELLS L).toArray, u30, u31, u32], defers := [] } W.drew := by
    refine wpAny_ready (rs := [5]) (by kernel_rfl) (by simp) ?_
    refine AllReady.cons (o := { dst := some 30, op := Op.load 26 (Operand.tmp 6), type := 26, pos := "grow.go:30", after := #[], guard := none }) rfl (fun K hK => step_val (v := .agg (CELLS R).toArray) rfl (run_value (run_loadAt_mid (P := Tryd.prog) _ b6 0 26 _ _ hRr Tryd.underlying26 rfl (info_cells hR))) (hK _ _ s4_5)) ?_
    exact AllReady.nil
  have s : wpAny Tryd.prog .any VFOPS Q 4 #[true, true, true, true, false, false, false, false] { tmps := #[.int .i64 d, .slice (some ⟨gn, o, none⟩) n c, u2, u3, u4, u5, .pointer (some ⟨b6, 0, none⟩), .int .i64 (i : Int), u8, u9, u10, u11, u12, u13, u14, u15, u16, u17, u18, u19, u20, u21, u22, u23, u24, .int .i64 d, .slice (some ⟨gn, o, none⟩) n c, .int .i64 (i : Int), .pointer (some ⟨gn, o + i * 32, none⟩), u29, u30, u31, u32], defers := [] } W.drew := by
    refine wpAny_ready (rs := [4, 5]) (by kernel_rfl) (by simp) ?_
    refine AllReady.cons (o := { dst := some 29, op := Op.load 26 (Operand.tmp 28), type := 26, pos := "grow.go:30", after := #[{ on := 3, ground := Ground.data }], guard := none }) rfl (fun K hK => step_val (v := .agg (CELLS L).toArray) rfl (run_value (run_loadAt_mid (P := Tryd.prog) _ gn (o + i * 32) 26 _ _ hLr Tryd.underlying26 rfl (info_cells hL))) (hK _ _ s4)) ?_
    refine AllReady.cons (o := { dst := some 30, op := Op.load 26 (Operand.tmp 6), type := 26, pos := "grow.go:30", after := #[], guard := none }) rfl (fun K hK => step_val (v := .agg (CELLS R).toArray) rfl (run_value (run_loadAt_mid (P := Tryd.prog) _ b6 0 26 _ _ hRr Tryd.underlying26 rfl (info_cells hR))) (hK _ _ s5)) ?_
    exact AllReady.nil
  have t3 : wpAny Tryd.prog .any VFOPS Q 5 #[true, true, true, false, false, false, false, false] { tmps := #[.int .i64 d, .slice (some ⟨gn, o, none⟩) n c, u2, u3, u4, u5, .pointer (some ⟨b6, 0, none⟩), .int .i64 (i : Int), u8, u9, u10, u11, u12, u13, u14, u15, u16, u17, u18, u19, u20, u21, u22, u23, u24, .int .i64 d, .slice (some ⟨gn, o, none⟩) n c, .int .i64 (i : Int), u28, u29, u30, u31, u32], defers := [] } W.drew :=
    wpAny_take (i := 3) (oi := { dst := some 28, op := Op.indexAddr 23 (Operand.tmp 26) (Operand.tmp 27), type := 0, pos := "grow.go:30", after := #[{ on := 1, ground := Ground.data }, { on := 2, ground := Ground.data }], guard := none }) (v := .pointer (some ⟨gn, o + i * 32, none⟩)) rfl (by kernel_rfl) (by kernel_rfl) (by kernel_rfl) (fun _ _ _ h => hQ _ _ _ _ _ h) (Or.inl ⟨by rfl, fun W => by go_simp⟩) s
  have t2 : wpAny Tryd.prog .any VFOPS Q 6 #[true, true, false, false, false, false, false, false] { tmps := #[.int .i64 d, .slice (some ⟨gn, o, none⟩) n c, u2, u3, u4, u5, .pointer (some ⟨b6, 0, none⟩), .int .i64 (i : Int), u8, u9, u10, u11, u12, u13, u14, u15, u16, u17, u18, u19, u20, u21, u22, u23, u24, .int .i64 d, .slice (some ⟨gn, o, none⟩) n c, u27, u28, u29, u30, u31, u32], defers := [] } W.drew :=
    wpAny_take (i := 2) (oi := { dst := some 27, op := Op.move (Operand.tmp 7), type := 3, pos := "grow.go:30", after := #[], guard := none }) (v := .int .i64 (i : Int)) rfl (by kernel_rfl) (by kernel_rfl) (by kernel_rfl) (fun _ _ _ h => hQ _ _ _ _ _ h) (Or.inl ⟨by rfl, fun W => by go_simp⟩) t3
  have t1 : wpAny Tryd.prog .any VFOPS Q 7 #[true, false, false, false, false, false, false, false] { tmps := #[.int .i64 d, .slice (some ⟨gn, o, none⟩) n c, u2, u3, u4, u5, .pointer (some ⟨b6, 0, none⟩), .int .i64 (i : Int), u8, u9, u10, u11, u12, u13, u14, u15, u16, u17, u18, u19, u20, u21, u22, u23, u24, .int .i64 d, u26, u27, u28, u29, u30, u31, u32], defers := [] } W.drew :=
    wpAny_take (i := 1) (oi := { dst := some 26, op := Op.move (Operand.tmp 1), type := 23, pos := "grow.go:30", after := #[], guard := none }) (v := .slice (some ⟨gn, o, none⟩) n c) rfl (by kernel_rfl) (by kernel_rfl) (by kernel_rfl) (fun _ _ _ h => hQ _ _ _ _ _ h) (Or.inl ⟨by rfl, fun W => by go_simp⟩) t2
  have t0 : wpAny Tryd.prog .any VFOPS Q 8 #[false, false, false, false, false, false, false, false] { tmps := #[.int .i64 d, .slice (some ⟨gn, o, none⟩) n c, u2, u3, u4, u5, .pointer (some ⟨b6, 0, none⟩), .int .i64 (i : Int), u8, u9, u10, u11, u12, u13, u14, u15, u16, u17, u18, u19, u20, u21, u22, u23, u24, u25, u26, u27, u28, u29, u30, u31, u32], defers := [] } W.drew :=
    wpAny_take (i := 0) (oi := { dst := some 25, op := Op.move (Operand.tmp 0), type := 3, pos := "grow.go:30", after := #[], guard := none }) (v := .int .i64 d) rfl (by kernel_rfl) (by kernel_rfl) (by kernel_rfl) (fun _ _ _ h => hQ _ _ _ _ _ h) (Or.inl ⟨by rfl, fun W => by go_simp⟩) t1
  refine wp_region_any (by kernel_rfl) ?_
  exact t0
end Go.Proofs.YtbmjoiiagldklaaDoor

/- One step of the hash, plainly: words of 32 bits as numbers; no Go in sight. -/
namespace Go.Proofs.YtbmjoiiagldklaaDoor.HX
open Go.RowKit

/-- x turned right by n bits. -/
def ROTR (n x : Nat) : Nat := x / 2 ^ n + x % 2 ^ n * 2 ^ (32 - n)
theorem ROTR_lt {n x : Nat} (hn : n ≤ 32) (hx : x < 2 ^ 32) : ROTR n x < 2 ^ 32 := by
  unfold ROTR
  have h1 : (2 : Nat) ^ 32 = 2 ^ n * 2 ^ (32 - n) := by rw [← Nat.pow_add]; congr 1; omega
  have h2 : x / 2 ^ n < 2 ^ (32 - n) := by
    apply Nat.div_lt_of_lt_mul
    rw [← h1]; exact hx
  have h3 : x % 2 ^ n + 1 ≤ 2 ^ n := Nat.mod_lt _ (Nat.two_pow_pos n)
  have h4 := Nat.mul_le_mul_right (2 ^ (32 - n)) h3
  rw [Nat.add_mul, Nat.one_mul, ← h1] at h4
  omega
theorem rot_or {n x : Nat} (hn : n ≤ 32) (hx : x < 2 ^ 32) : x * 2 ^ (32 - n) % 2 ^ 32 ||| x / 2 ^ n = ROTR n x := by
  have h1 : (2 : Nat) ^ 32 = 2 ^ n * 2 ^ (32 - n) := by rw [← Nat.pow_add]; congr 1; omega
  have h2 : x / 2 ^ n < 2 ^ (32 - n) := by
    apply Nat.div_lt_of_lt_mul
    rw [← h1]; exact hx
  have h3 : x * 2 ^ (32 - n) % 2 ^ 32 = x % 2 ^ n * 2 ^ (32 - n) := by
    rw [h1, Nat.mul_mod_mul_right]
  rw [h3, nat_join (32 - n) _ _ (Nat.mul_mod_left _ _) h2]
  unfold ROTR
  omega
def MIX (i j k x : Nat) : Nat := ROTR i x ^^^ ROTR j x ^^^ ROTR k x
def SPILL (i j k x : Nat) : Nat := ROTR i x ^^^ ROTR j x ^^^ x / 2 ^ k
def CHO (x y z : Nat) : Nat := (x &&& y) ^^^ ((4294967295 - x) &&& z)
def MAJ (x y z : Nat) : Nat := (x &&& y) ^^^ (x &&& z) ^^^ (y &&& z)
theorem MIX_lt {i j k x : Nat} (hi : i ≤ 32) (hj : j ≤ 32) (hk : k ≤ 32) (hx : x < 2 ^ 32) : MIX i j k x < 2 ^ 32 := Nat.xor_lt_two_pow (Nat.xor_lt_two_pow (ROTR_lt hi hx) (ROTR_lt hj hx)) (ROTR_lt hk hx)
theorem SPILL_lt {i j k x : Nat} (hi : i ≤ 32) (hj : j ≤ 32) (hx : x < 2 ^ 32) : SPILL i j k x < 2 ^ 32 := Nat.xor_lt_two_pow (Nat.xor_lt_two_pow (ROTR_lt hi hx) (ROTR_lt hj hx)) (Nat.lt_of_le_of_lt (Nat.div_le_self _ _) hx)
theorem CHO_lt {x y z : Nat} (hx : x < 2 ^ 32) (hz : z < 2 ^ 32) : CHO x y z < 2 ^ 32 := Nat.xor_lt_two_pow (Nat.lt_of_le_of_lt Nat.and_le_left hx) (Nat.lt_of_le_of_lt Nat.and_le_right hz)
theorem MAJ_lt {x y z : Nat} (hx : x < 2 ^ 32) (hy : y < 2 ^ 32) : MAJ x y z < 2 ^ 32 := Nat.xor_lt_two_pow (Nat.xor_lt_two_pow (Nat.lt_of_le_of_lt Nat.and_le_left hx) (Nat.lt_of_le_of_lt Nat.and_le_left hx)) (Nat.lt_of_le_of_lt Nat.and_le_left hy)

/-- the word in the four bytes from o on, the highest first. -/
def WORDAT (s : Nat → Nat) (o : Nat) : Nat := s o * 16777216 + s (o + 1) * 65536 + s (o + 2) * 256 + s (o + 3)
theorem WORDAT_lt {s : Nat → Nat} (o : Nat) (h : ∀ i, s i < 256) : WORDAT s o < 2 ^ 32 := by
  have h0 := h o; have h1 := h (o + 1); have h2 := h (o + 2); have h3 := h (o + 3)
  unfold WORDAT
  omega
/-- the words of a block, and the k that follow first. -/
def SCHL (b : Nat → Nat) : Nat → Nat → Nat
  | 0, t => if t < 16 then WORDAT b (4 * t) else 0
  | k + 1, t => if t = 16 + k then (SPILL 17 19 10 (SCHL b k (14 + k)) + SCHL b k (9 + k) + SPILL 7 18 3 (SCHL b k (1 + k)) + SCHL b k k) % 4294967296 else SCHL b k t
def SCH (b : Nat → Nat) : Nat → Nat := SCHL b 48
theorem SCHL_lt {b : Nat → Nat} (h : ∀ i, b i < 256) : ∀ k t, SCHL b k t < 2 ^ 32
  | 0, t => by
    unfold SCHL
    split
    · exact WORDAT_lt _ h
    · decide
  | k + 1, t => by
    unfold SCHL
    split
    · exact Nat.mod_lt _ (by decide)
    · exact SCHL_lt h k t
theorem SCHL_stays (b : Nat → Nat) (k : Nat) : ∀ m t, t < 16 + k → SCHL b (k + m) t = SCHL b k t
  | 0, _, _ => rfl
  | m + 1, t, h => by
    show SCHL b (k + m + 1) t = _
    rw [SCHL, if_neg (by omega)]
    exact SCHL_stays b k m t h
theorem SCH_first (b : Nat → Nat) (t : Nat) (h : t < 16) : SCH b t = WORDAT b (4 * t) := by
  have := SCHL_stays b 0 48 t (by omega)
  rw [Nat.zero_add] at this
  show SCHL b 48 t = _
  rw [this, SCHL, if_pos h]
theorem SCH_next (b : Nat → Nat) (k : Nat) (h : k < 48) : SCH b (16 + k) = (SPILL 17 19 10 (SCH b (14 + k)) + SCH b (9 + k) + SPILL 7 18 3 (SCH b (1 + k)) + SCH b k) % 4294967296 := by
  have e : ∀ t, t < 16 + k → SCH b t = SCHL b k t := fun t ht => by
    have := SCHL_stays b k (48 - k) t ht
    rw [show k + (48 - k) = 48 by omega] at this
    exact this
  have e1 : SCH b (16 + k) = SCHL b (k + 1) (16 + k) := by
    have := SCHL_stays b (k + 1) (48 - (k + 1)) (16 + k) (by omega)
    rw [show k + 1 + (48 - (k + 1)) = 48 by omega] at this
    exact this
  rw [e1, SCHL, if_pos rfl, e _ (by omega), e _ (by omega), e _ (by omega), e _ (by omega)]

/-- the round constants. -/
def KLIST : List Nat := [1116352408, 1899447441, 3049323471, 3921009573, 961987163, 1508970993, 2453635748, 2870763221, 3624381080, 310598401, 607225278, 1426881987, 1925078388, 2162078206, 2614888103, 3248222580, 3835390401, 4022224774, 264347078, 604807628, 770255983, 1249150122, 1555081692, 1996064986, 2554220882, 2821834349, 2952996808, 3210313671, 3336571891, 3584528711, 113926993, 338241895, 666307205, 773529912, 1294757372, 1396182291, 1695183700, 1986661051, 2177026350, 2456956037, 2730485921, 2820302411, 3259730800, 3345764771, 3516065817, 3600352804, 4094571909, 275423344, 430227734, 506948616, 659060556, 883997877, 958139571, 1322822218, 1537002063, 1747873779, 1955562222, 2024104815, 2227730452, 2361852424, 2428436474, 2756734187, 3204031479, 3329325298]
def KC (t : Nat) : Nat := KLIST.getD t 0
theorem KC_lt (t : Nat) : KC t < 2 ^ 32 := by
  by_cases h : t < 64
  · have : ∀ i, i < 64 → KC i < 2 ^ 32 := by decide
    exact this t h
  · have : KLIST.length = 64 := rfl
    unfold KC
    rw [List.getD_eq_getElem?_getD, List.getElem?_eq_none (by omega)]
    decide
/-- eight words. -/
structure ST where
  a : Nat
  b : Nat
  c : Nat
  d : Nat
  e : Nat
  f : Nat
  g : Nat
  h : Nat
def T1 (k x : Nat) (s : ST) : Nat := (s.h + MIX 6 11 25 s.e + CHO s.e s.f s.g + k + x) % 4294967296
def T2 (s : ST) : Nat := (MIX 2 13 22 s.a + MAJ s.a s.b s.c) % 4294967296
def RND (k x : Nat) (s : ST) : ST := { a := (T1 k x s + T2 s) % 4294967296, b := s.a, c := s.b, d := s.c, e := (s.d + T1 k x s) % 4294967296, f := s.e, g := s.f, h := s.g }
def Small (s : ST) : Prop := s.a < 2 ^ 32 ∧ s.b < 2 ^ 32 ∧ s.c < 2 ^ 32 ∧ s.d < 2 ^ 32 ∧ s.e < 2 ^ 32 ∧ s.f < 2 ^ 32 ∧ s.g < 2 ^ 32 ∧ s.h < 2 ^ 32
theorem Small.rnd {s : ST} (h : Small s) (k x : Nat) : Small (RND k x s) := by
  obtain ⟨h1, h2, h3, h4, h5, h6, h7, h8⟩ := h
  exact ⟨Nat.mod_lt _ (by decide), h1, h2, h3, Nat.mod_lt _ (by decide), h5, h6, h7⟩
def RUN (x : Nat → Nat) (s : ST) : Nat → ST
  | 0 => s
  | t + 1 => RND (KC t) (x t) (RUN x s t)
theorem RUN_small (x : Nat → Nat) {s : ST} (h : Small s) : ∀ t, Small (RUN x s t)
  | 0 => h
  | t + 1 => (RUN_small x h t).rnd _ _
/-- the words of a state. -/
def STOF (s : Nat → Nat) : ST := { a := WORDAT s 0, b := WORDAT s 4, c := WORDAT s 8, d := WORDAT s 12, e := WORDAT s 16, f := WORDAT s 20, g := WORDAT s 24, h := WORDAT s 28 }
theorem STOF_small {s : Nat → Nat} (h : ∀ i, s i < 256) : Small (STOF s) :=
  ⟨WORDAT_lt _ h, WORDAT_lt _ h, WORDAT_lt _ h, WORDAT_lt _ h, WORDAT_lt _ h, WORDAT_lt _ h, WORDAT_lt _ h, WORDAT_lt _ h⟩
/-- the i-th of eight words. -/
def ST.at (s : ST) : Nat → Nat
  | 0 => s.a
  | 1 => s.b
  | 2 => s.c
  | 3 => s.d
  | 4 => s.e
  | 5 => s.f
  | 6 => s.g
  | 7 => s.h
  | _ => 0
/-- the words behind one step. -/
def OUTW (s b : Nat → Nat) (i : Nat) : Nat := (WORDAT s (4 * i) + (RUN (SCH b) (STOF s) 64).at i) % 4294967296
/-- the i-th byte of words, of each the highest first. -/
def BYTEW (x : Nat → Nat) (i : Nat) : Nat := x (i / 4) / 2 ^ (24 - 8 * (i % 4)) % 256
def WID (w : Int) : Nat := (min (max w 1) 32).toNat
def NARROW (w : Int) (s : Nat → Nat) (i : Nat) : Nat := if i < WID w then s i else 0
/-- one step of the hash. -/
def COMP (w : Int) (s b : Nat → Nat) : Nat → Nat := NARROW w (BYTEW (OUTW s b))
theorem BYTEW_lt (x : Nat → Nat) (i : Nat) : BYTEW x i < 256 := Nat.mod_lt _ (by decide)
theorem NARROW_lt {w : Int} {s : Nat → Nat} (h : ∀ i, s i < 256) (i : Nat) : NARROW w s i < 256 := by
  unfold NARROW
  split
  · exact h i
  · decide
theorem COMP_lt (w : Int) (s b : Nat → Nat) (i : Nat) : COMP w s b i < 256 := NARROW_lt (BYTEW_lt _) i
theorem WID_bounds (w : Int) : 1 ≤ WID w ∧ WID w ≤ 32 := by unfold WID; omega
end Go.Proofs.YtbmjoiiagldklaaDoor.HX
