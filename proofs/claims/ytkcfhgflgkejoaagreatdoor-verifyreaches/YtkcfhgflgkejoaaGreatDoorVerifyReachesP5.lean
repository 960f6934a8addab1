/- Texts of VerifyReaches, one behind the other: PosSpotRow, PosHas, PosForestMap, NumSlice, NumByteCalls, NumAppend, NumShortCalls. -/
import Derived.Test.YtkcfhgflgkejoaaGreatDoorProg
import Derived.WalkKit
import Derived.WalkLawsBesides
import Derived.Deep.WholeRow
import Derived.Deep.LoopGhost
import Derived.Laws.ResultCell
import Derived.Laws.Rows
import Derived.Laws.Tables
import Derived.Maps.OwnSet
import Derived.DeepKeys4
import Derived.Deep.OwnRows
import Derived.Deep.QuietTactic
import Derived.BigQuiet
import Derived.Deep.AppendLies
import Derived.Laws.AppendOwnNone
import Derived.Test.YtkcfhgflgkejoaaGreatDoorVerifyReachesP1
import Derived.Test.YtkcfhgflgkejoaaGreatDoorVerifyReachesP4
/- Lists of spots of one's own. -/
namespace Go.Proofs.YtkcfhgflgkejoaaGreatDoor
open Go.RowKit

/-- spots as cells. -/
def SCELLS (l : List (Nat × Nat)) : List Value := l.flatMap fun x => [Value.int .u8 (x.1 : Int), Value.int .u64 (x.2 : Int)]
theorem SCELLS_snoc (l : List (Nat × Nat)) (h k : Nat) : SCELLS (l ++ [(h, k)]) = SCELLS l ++ [Value.int .u8 (h : Int), Value.int .u64 (k : Int)] := by simp [SCELLS]
theorem SCELLS_at : ∀ (l : List (Nat × Nat)) (j h k : Nat), l[j]? = some (h, k) → (SCELLS l)[j * 2]? = some (.int .u8 (h : Int)) ∧ (SCELLS l)[j * 2 + 1]? = some (.int .u64 (k : Int))
  | [], j, h, k, e => by simp at e
  | x :: l, 0, h, k, e => by
    simp at e
    subst e
    simp [SCELLS]
  | x :: l, j + 1, h, k, e => by
    have := SCELLS_at l j h k (by simpa using e)
    have e1 : (j + 1) * 2 = j * 2 + 1 + 1 := by omega
    simp only [SCELLS, List.flatMap_cons, List.cons_append, List.nil_append, e1, List.getElem?_cons_succ]
    exact this
theorem info_spot : (Tryz.prog.info? 64).map (fun i => (i.zero, i.size, i.bytes)) = some (some (.agg #[.int .u8 0, .int .u64 0]), 2, 16) := by kernel_rfl
theorem app_spot {ops : Array Oper} {rest : List Oper} {o : Oper} {a : Act} {Q : Exit → Act → World → Prop} (w : World) (hgd : o.guard = none) (s x : Operand)
    (ho : o.op = .call { callee := .builtin .append, args := #[s, x], argTypes := #[58, 58] })
    (base : Nat) (v : Value) (n : Nat) (xs : List (Nat × Nat)) (hs : a.eval s = v) (hown : w.ownsRow base 64 2 v n (SCELLS xs))
    (b c : Nat) (h k : Nat) (hx : a.eval x = .slice (some ⟨b, 0, none⟩) 1 c) (hc0 : w.cell? ⟨b, 0, none⟩ = some (.int .u8 (h : Int))) (hc1 : w.cell? ⟨b, 1, none⟩ = some (.int .u64 (k : Int)))
    (hb : n ≤ 1000) (hbase : base ≤ w.heap.size)
    (hh : ∀ g cap w', w'.ownsRow base 64 2 (.slice (some ⟨g, 0, none⟩) (n + 1) cap) (n + 1) (SCELLS (xs ++ [(h, k)])) → w.grownBy w' v.ownBlock → g < w'.heap.size → wpList Tryz.prog ops Q rest (a.put o.dst (.slice (some ⟨g, 0, none⟩) (n + 1) cap)) w') : wpList Tryz.prog ops Q (o :: rest) a w := by
  obtain ⟨i, hi, hz, hs1, hby⟩ := info_parts info_spot
  refine wpList_append_lies w hgd s x 58 ho base 64 i _ 2 16 Tryz.underlying58 hi hz hs1 hby rfl (by decide) v n (SCELLS xs) hs hown ⟨b, 0, none⟩ 1 c [.int .u8 (h : Int), .int .u64 (k : Int)] hx rfl ?_ (fun u hu => by simp at hu; rcases hu with rfl | rfl <;> rfl) (by decide) (by simp only [maxLen]; omega) (by omega) hbase w.heap.size rfl ?_
  · intro j u hj
    match j, hj with
    | 0, hj =>
      simp only [List.getElem?_cons_zero, Option.some.injEq] at hj
      subst hj
      exact hc0
    | 1, hj =>
      simp only [List.getElem?_cons_succ, List.getElem?_cons_zero, Option.some.injEq] at hj
      subst hj
      exact hc1
    | j + 2, hj => simp at hj
  · intro g cap w' h1 h2 _ h4
    rw [← SCELLS_snoc] at h1
    exact hh g cap w' h1 h2 h4
/-- a list of spots lies there. -/
def Spots (w : World) (a : Option Addr) (l : List (Nat × Nat)) : Prop := 0 < l.length → ∃ g, a = some ⟨g, 0, none⟩ ∧ g < w.heap.size ∧ ∀ (j h k : Nat), l[j]? = some (h, k) → w.cell? ⟨g, j * 2, none⟩ = some (.int .u8 (h : Int)) ∧ w.cell? ⟨g, j * 2 + 1, none⟩ = some (.int .u64 (k : Int))
theorem Spots.below {w w' : World} {a : Option Addr} {l : List (Nat × Nat)} (h : Spots w a l) (hb : Below w.heap.size w w') : Spots w' a l := fun h0 => by
  obtain ⟨g, e, hg, hc⟩ := h h0
  exact ⟨g, e, Nat.lt_of_lt_of_le hg hb.size, fun j x y he => ⟨(hb.cell (p := ⟨g, j * 2, none⟩) hg).trans (hc j x y he).1, (hb.cell (p := ⟨g, j * 2 + 1, none⟩) hg).trans (hc j x y he).2⟩⟩
theorem spots_own {w : World} {base n : Nat} {v : Value} {l : List (Nat × Nat)} (hl : l.length = n) (h : w.ownsRow base 64 2 v n (SCELLS l)) : ∃ a cap, v = .slice a n cap ∧ Spots w a l := by
  rcases h.2 with ⟨rfl, h0⟩ | ⟨g, cap, cur, rfl, hb, hg, r⟩
  · subst h0
    exact ⟨none, 0, rfl, fun h => by omega⟩
  · refine ⟨_, cap, rfl, fun h0 => ⟨g, rfl, ?_, fun j x y he => ?_⟩⟩
    · exact (Array.getElem?_eq_some_iff.1 hg).1
    · have hj : j < n := by rw [← hl]; exact (List.getElem?_eq_some_iff.1 he).1
      have h1 := SCELLS_at l j x y he
      exact ⟨(h.cellAt (j * 2) (by omega)).trans h1.1, (h.cellAt (j * 2 + 1) (by omega)).trans h1.2⟩
theorem own_below {w w' : World} {base : Nat} {t : TypeId} {s : Nat} {v : Value} {n : Nat} {xs : List Value} (h : w.ownsRow base t s v n xs) (hb : Below w.heap.size w w') : w'.ownsRow base t s v n xs := by
  refine ⟨h.1, h.2.imp id ?_⟩
  rintro ⟨g, c, cur, a, b, r, rest⟩
  exact ⟨g, c, cur, a, b, (hb.block g (Array.getElem?_eq_some_iff.1 r).1).trans r, rest⟩
end Go.Proofs.YtkcfhgflgkejoaaGreatDoor

/- Blocks of one's own in a world that is a variable. -/
namespace Go.Proofs.YtkcfhgflgkejoaaGreatDoor
open Go.RowKit

/-- the block g holds the cells c. -/
def Has (w : World) (g : Nat) (c : Array Value) (t : TypeId) : Prop := w.heap[g]? = some (.cells c t)
theorem Has.cell {w : World} {g : Nat} {c : Array Value} {t : TypeId} (h : Has w g c t) (i : Nat) : w.cell? ⟨g, i, none⟩ = c[i]? := cell_of_row w g i c t _ h
theorem Has.lt {w : World} {g : Nat} {c : Array Value} {t : TypeId} (h : Has w g c t) : g < w.heap.size := (Array.getElem?_eq_some_iff.1 h).1
theorem Has.frozen {w : World} {g : Nat} {c : Array Value} {t : TypeId} (h : Has w g c t) (i : Nat) : w.frozen? ⟨g, i, none⟩ = false := by
  have e : w.heap[g]? = some (.cells c t) := h
  simp [World.frozen?, e]
theorem Has.set {w : World} {g : Nat} {c : Array Value} {t : TypeId} (h : Has w g c t) (i : Nat) (v : Value) : Has (w.setCell ⟨g, i, none⟩ v) g (c.setIfInBounds i v) t := by
  have e : w.heap[g]? = some (.cells c t) := h
  unfold Has
  rw [setCell_eq_setRow w g i c t _ v e, setRow_heap w g c _ t _ e]
theorem Has.other {w : World} {g : Nat} {c : Array Value} {t : TypeId} (h : Has w g c t) {a : Addr} (ha : g ≠ a.block) (v : Value) : Has (w.setCell a v) g c t := by
  have e : w.heap[g]? = some (.cells c t) := h
  unfold Has
  rw [Below.heap_setCell w a v g ha, e]
theorem Has.below {B : Nat} {w w' : World} {g : Nat} {c : Array Value} {t : TypeId} (h : Has w g c t) (hb : Below B w w') (hg : g < B) : Has w' g c t := (hb.block g hg).trans h
theorem Has.keep {w w' : World} {g : Nat} {c : Array Value} {t : TypeId} (h : Has w g c t) (hb : Below w.heap.size w w') : Has w' g c t := h.below hb h.lt
theorem Has.alloc {w : World} {g : Nat} {c : Array Value} {t : TypeId} (h : Has w g c t) (o : Obj) : Has (w.alloc o) g c t := by
  have e : w.heap[g]? = some (.cells c t) := h
  unfold Has
  rw [Below.heap_alloc w o g h.lt, e]
theorem Has.new (w : World) (c : Array Value) (t : TypeId) : Has (w.alloc (.cells c t)) w.heap.size c t := heap_alloc_new w _
theorem Has.at (w : World) (c : Array Value) (t : TypeId) {g : Nat} (hg : g = w.heap.size) : Has (w.alloc (.cells c t)) g c t := by subst hg; exact Has.new w c t
theorem Has.row {w : World} {g : Nat} {c : Array Value} {t : TypeId} (h : Has w g c t) (c' : Array Value) : Has (w.setRow g c') g c' t := setRow_heap w g c c' t _ h
theorem Has.row_other {w : World} {g k : Nat} {c : Array Value} {t : TypeId} (h : Has w g c t) (hk : g ≠ k) (c' : Array Value) : Has (w.setRow k c') g c t := by
  have e : w.heap[g]? = some (.cells c t) := h
  unfold Has
  rw [setRow_other w k g c' hk, e]
theorem Has.drewN {w : World} {g : Nat} {c : Array Value} {t : TypeId} (h : Has w g c t) (n : Nat) : Has (w.drewN n) g c t := h
theorem set_off {w : World} {b i j : Nat} (h : i ≠ j) (v : Value) : (w.setCell ⟨b, i, none⟩ v).cell? ⟨b, j, none⟩ = w.cell? ⟨b, j, none⟩ := World.cell?_setCell_other w _ _ v (fun e => h (congrArg Addr.off e))
theorem below_row {B g : Nat} {w0 w : World} (hb : Below B w0 w) (hBg : B ≤ g) (cs : Array Value) : Below B w0 (w.setRow g cs) :=
  ⟨hb.os, hb.tape, hb.output, by have := hb.size; simpa [World.setRow] using this, fun k hk => by rw [setRow_other w g k cs (by omega)]; exact hb.block k hk⟩
end Go.Proofs.YtkcfhgflgkejoaaGreatDoor

/- A map from spots to places, made by the call. -/
namespace Go.Proofs.YtkcfhgflgkejoaaGreatDoor
open Go.RowKit Go.Maps
set_option maxRecDepth 100000

theorem laidOutP : laidOutB Tryz.prog = true := by kernel_rfl
theorem rowSpot : (64 : TypeId) < Tryz.prog.types.size := of_decide_eq_true (by kernel_rfl)
theorem wideSpot : (match Tryz.prog.underlying 64 with | some (.array _ _) | some (.struct _) => true | _ => false) = true := by rw [Tryz.underlying64]
theorem law : Keyed Tryz.prog 64 := Keyed.of_law (deep_law_laid laidOutP (m := 2) (by omega) rowSpot (by kernel_rfl) wideSpot)
/-- what a spot reads as, as a key. -/
def KL (h k : Nat) : Lit := .string (keyBytes [.int .u8 (h : Int), .int .u64 (k : Int)])
theorem key_ok {h k : Nat} (hh : h < 256) (hk : k < 2 ^ 64) : keyOf Tryz.prog 64 (SPOT h k) = some (KL h k) := by
  have w0 : (Lit.int .u8 (h : Int)).wf = true := WalkArith.wf_u8 (by omega)
  have w1 : (Lit.int .u64 (k : Int)).wf = true := WalkArith.wf_u64 (by omega)
  have c3 : Tryz.prog.cellsOf 64 = 2 := by kernel_rfl
  have c1 : Tryz.prog.cellsOf 5 = 1 := by kernel_rfl
  have c2 : Tryz.prog.cellsOf 24 = 1 := by kernel_rfl
  have ht : Tryz.prog.keyType 64 = true := by kernel_rfl
  have hf : (SPOT h k).formed Tryz.prog 64 = true := by simp [Value.formed, Tryz.underlying64, c3]
  obtain ⟨m, hm⟩ : ∃ m, Tryz.prog.types.size = m + 1 := ⟨Tryz.prog.types.size - 1, (Nat.succ_pred_eq_of_pos (Nat.lt_of_le_of_lt (Nat.zero_le _) rowSpot)).symm⟩
  unfold keyOf
  simp only [Tryz.underlying64, ht, hf, hm]
  simp [Program.keyLits, Tryz.underlying64, Tryz.underlying5, Tryz.underlying24, c1, c2, c3, Value.cells, w0, w1, KL]
theorem KL_inj {h k h' k' : Nat} (hh : h < 256) (hk : k < 2 ^ 64) (hh' : h' < 256) (hk' : k' < 2 ^ 64) (e : KL h k = KL h' k') : h = h' ∧ k = k' := by
  have h1 := key_ok hh hk
  have h2 := key_ok hh' hk'
  rw [← e] at h2
  have := law.inj h1 h2
  simp at this
  omega
/-- a number as a datum. -/
abbrev U64 (n : Nat) : DataW Unit := .lit (.int .u64 (n : Int))
/-- the map holds just the nodes ahead of m, each with its place. -/
def MapOk (D : DataW Unit) (m : Nat) : Prop := ∀ h k, h < 256 → k < 2 ^ 64 → (Maps.has D (KL h k) = true ↔ Node h k ∧ PLC h k < m) ∧ (Node h k → PLC h k < m → D.atKey (KL h k) (U64 0) = U64 (PLC h k))
theorem MapOk.none : MapOk (.map []) 0 := fun h k _ _ => ⟨⟨fun e => by simp [Maps.has] at e, fun e => by omega⟩, fun _ e => by omega⟩
theorem Node.small {h k : Nat} (a : Node h k) : h < 256 ∧ k < 2 ^ 64 := ⟨by have := a.1; omega, by have := a.index_lt; omega⟩
theorem MapOk.put {D : DataW Unit} {m h k : Nat} (hD : Maps.IsMap D) (hM : MapOk D m) (hN : Node h k) (hp : PLC h k = m) : MapOk (D.put (KL h k) (U64 m)) (m + 1) := by
  intro h' k' hh' hk'
  obtain ⟨hh, hk⟩ := hN.small
  have hkey : WideAt.IsKeyLit (KL h k) := law.key (key_ok hh hk)
  by_cases e : KL h' k' = KL h k
  · obtain ⟨rfl, rfl⟩ := KL_inj hh' hk' hh hk e
    exact ⟨⟨fun _ => ⟨hN, by omega⟩, fun _ => Maps.has_put_same hD hkey _⟩, fun _ _ => by rw [Maps.atKey_put_same hD hkey, hp]⟩
  · have hne : ∀ _ : Node h' k', PLC h' k' ≠ m := fun hN' e2 => e (by obtain ⟨rfl, rfl⟩ := hN'.one hN (by omega); rfl)
    rw [Maps.has_put_other e, Maps.atKey_put_other e]
    obtain ⟨a, b⟩ := hM h' k' hh' hk'
    refine ⟨⟨fun h => ?_, fun h => ?_⟩, fun h1 h2 => b h1 (by have := hne h1; omega)⟩
    · have := a.1 h
      exact ⟨this.1, by omega⟩
    · exact a.2 ⟨h.1, by have := hne h.1; omega⟩
/-- block b is such a map. -/
def Placed (w : World) (b m : Nat) : Prop := ∃ D : DataW Unit, w.ownsMap Tryz.prog 64 (plainElem Tryz.prog 24) b m D ∧ MapOk D m
theorem Placed.made (w : World) : Placed (w.alloc (.map #[] 0)) w.heap.size 0 := ⟨_, World.ownsMap_made w _ _ _, MapOk.none⟩
theorem Placed.kept {w w' : World} {b m : Nat} {row : Option Nat} (h : Placed w b m) (hg : w.grownBy w' row) (hne : some b ≠ row) : Placed w' b m := let ⟨D, h1, h2⟩ := h; ⟨D, h1.kept hg hne, h2⟩
theorem Placed.lt {w : World} {b m : Nat} (h : Placed w b m) : b < w.heap.size := let ⟨_, h1, _⟩ := h; h1.lt
theorem Placed.below {w w' : World} {b m : Nat} (h : Placed w b m) (hb : Below w.heap.size w w') : Placed w' b m := by
  have hlt := h.lt
  obtain ⟨D, ⟨es, clock, h1, r⟩, h2⟩ := h
  exact ⟨D, ⟨es, clock, (hb.block b hlt).trans h1, r⟩, h2⟩
theorem Placed.alloc {w : World} {b m : Nat} (h : Placed w b m) (o : Obj) : Placed (w.alloc o) b m := h.below ((Below.refl _ _).alloc (Nat.le_refl _) _)
theorem Placed.setCell {w : World} {b m : Nat} (h : Placed w b m) {a : Addr} (ha : b ≠ a.block) (u : Value) : Placed (w.setCell a u) b m := let ⟨D, h1, h2⟩ := h; ⟨D, h1.setCell ha u, h2⟩
end Go.Proofs.YtkcfhgflgkejoaaGreatDoor

/- Slices of bytes: rows of cells by a function; what a slice reads as. -/
namespace Go.Proofs.YtkcfhgflgkejoaaGreatDoor
open Go.RowKit

/-- n cells, each a byte. -/
def BARR (n : Nat) (f : Nat → Int) : Array Value := ((List.range n).map fun i => Value.int .u8 (f i)).toArray
theorem BARR_size (n : Nat) (f : Nat → Int) : (BARR n f).size = n := by simp [BARR]
theorem BARR_get (n : Nat) (f : Nat → Int) (i : Nat) (h : i < n) : (BARR n f)[i]? = some (.int .u8 (f i)) := by simp [BARR, h]
theorem BARR_ext {n : Nat} {f g : Nat → Int} (h : ∀ i, i < n → f i = g i) : BARR n f = BARR n g := by
  unfold BARR
  congr 1
  apply List.map_congr_left
  intro i hi
  rw [h i (by simpa using hi)]
theorem BARR_set (n : Nat) (f : Nat → Int) (i : Nat) (v : Int) : (BARR n f).setIfInBounds i (.int .u8 v) = BARR n fun j => if j = i then v else f j := by
  apply Array.ext_getElem?
  intro j
  by_cases hj : j < n
  · rw [BARR_get _ _ j hj, Array.getElem?_setIfInBounds]
    by_cases h : i = j
    · subst h
      simp [BARR_size, hj]
    · have h' : ¬ j = i := fun e => h e.symm
      simp [h, h', BARR_get _ _ j hj]
  · rw [Array.getElem?_eq_none (by simp [BARR_size]; omega), Array.getElem?_eq_none (by simp [BARR_size]; omega)]
theorem BARR_made (n : Nat) : madeCells #[Value.int .u8 0] n = BARR n fun _ => 0 := by
  apply Array.ext_getElem?
  intro j
  by_cases hj : j < n
  · rw [BARR_get _ _ j hj]
    simp [madeCells, hj, Nat.mod_one]
  · rw [Array.getElem?_eq_none (by simp [madeCells]; omega), Array.getElem?_eq_none (by simp [BARR_size]; omega)]
theorem info_u8 : (Tryz.prog.info? 5).map (fun i => (i.zero, i.size, i.bytes)) = some (some (.int .u8 0), 1, 1) := by kernel_rfl
theorem make_bytes (n : Nat) (hn : n ≤ 1000000) (w : World) : (Instr.makeSlice 25 (.int .i64 (n : Int)) (.int .i64 (n : Int))).run Tryz.prog w = .ok (.slice (some ⟨w.heap.size, 0, none⟩) n n) (w.alloc (.cells (BARR n fun _ => 0) 5)) := by
  rw [run_make_row' 25 5 (.int .u8 0) 1 Tryz.underlying25 info_u8 rfl .i64 .i64 n (by omega) (by omega) w, BARR_made]

/-- a slice that came in: nil, or a row of cells, each a byte. -/
def IsRow (k : IntKind) (w : World) (a : Option Addr) (len cap : Nat) (zs : List Int) : Prop :=
  (a = none ∧ len = 0 ∧ cap = 0 ∧ zs = []) ∨
  ∃ x, a = some x ∧ len ≤ cap ∧ cap ≤ maxLen ∧ zs.length = cap ∧ (∀ i, i < zs.length → w.cell? (x.add i) = some (.int k (zs.getD i 0))) ∧ ∀ n ∈ zs, (Lit.int k n).wf = true

/-- a slice of n bytes reads as l. -/
def Bytes (w : World) (a : Option Addr) (n : Nat) (l : List Int) : Prop :=
  l.length = n ∧ (0 < n → ∃ b off, a = some ⟨b, off, none⟩ ∧ b < w.heap.size ∧ ∀ i, i < n → w.cell? ⟨b, off + i, none⟩ = some (.int .u8 (l.getD i 0))) ∧ ∀ x ∈ l, 0 ≤ x ∧ x ≤ 255
theorem Bytes.below {w w' : World} {a : Option Addr} {n : Nat} {l : List Int} (h : Bytes w a n l) (hb : Below w.heap.size w w') : Bytes w' a n l :=
  ⟨h.1, fun hn => by
    obtain ⟨b, off, e, hl, hc⟩ := h.2.1 hn
    exact ⟨b, off, e, Nat.lt_of_lt_of_le hl hb.size, fun i hi => (hb.cell (by exact hl)).trans (hc i hi)⟩, h.2.2⟩
theorem Bytes.get {w : World} {a : Option Addr} {n : Nat} {l : List Int} (h : Bytes w a n l) (i : Nat) : 0 ≤ l.getD i 0 ∧ l.getD i 0 ≤ 255 := by
  by_cases hi : i < l.length
  · rw [List.getD_eq_getElem?_getD, List.getElem?_eq_getElem hi]
    exact h.2.2 _ (List.getElem_mem hi)
  · rw [List.getD_eq_getElem?_getD, List.getElem?_eq_none (by omega)]
    simp
theorem addr_add (b off i : Nat) : (⟨b, off, none⟩ : Addr).add i = ⟨b, off + i, none⟩ := by unfold Addr.add; split <;> simp_all
theorem IsRow.bytes {w : World} {a : Option Addr} {n c : Nat} {zs : List Int} (h : IsRow .u8 w a n c zs) : Bytes w a n (zs.take n) := by
  rcases h with ⟨rfl, rfl, rfl, rfl⟩ | ⟨x, rfl, hl, _, hz, hcell, hwf⟩
  · exact ⟨rfl, fun h => by omega, fun x hx => by simp at hx⟩
  · refine ⟨by simp [hz, hl], fun hn => ?_, fun y hy => ?_⟩
    · obtain ⟨b, off, spot⟩ := x
      have hc := hcell 0 (by omega)
      have hspot : spot = none := by simpa [Addr.add] using World.cell?_spot hc
      subst hspot
      refine ⟨b, off, rfl, block_lt_of_cell (by simpa [Addr.add] using hc), fun i hi => ?_⟩
      have := hcell i (by omega)
      rw [addr_add] at this
      rw [this]
      congr 2
      simp [List.getD_eq_getElem?_getD, hi]
    · have := bounds_u8 (hwf y (List.mem_of_mem_take hy))
      exact this

end Go.Proofs.YtkcfhgflgkejoaaGreatDoor

/- What FromBig and Big of package num and the law's same answer. -/
namespace Go.Proofs.YtkcfhgflgkejoaaGreatDoor
open Go.RowKit

/-- an array that is filled from 0 on. -/
theorem bfill_put {F f : Nat → Int} {i : Nat} {v : Int} (A : ∀ j, f j = if j < i then F j else 0) (hv : v = F i) : ∀ j, (if j = i then v else f j) = if j < i + 1 then F j else 0 := fun j => by
  by_cases e : j = i
  · subst e
    simp [hv]
  · rw [if_neg e, A j]
    by_cases e2 : j < i
    · rw [if_pos e2, if_pos (by omega)]
    · rw [if_neg e2, if_neg (by omega)]
theorem big_raw (x : Int) (n : Nat) (F : Nat → Int) (hn : (n : Int) ≤ 8) (w : World) (c : ∀ w, Calls Tryz.prog 119 #[.int .u64 x, .int .i64 (8 * (n : Int))] w fun e w' => e = .returned (.int .u64 0) ∧ w = w')
    (ci : ∀ i : Nat, i < n → ∃ s : Int, Aside (s % 256 = F i) ∧ ∀ w, Calls Tryz.prog 119 #[.int .u64 x, .int .i64 (8 * ((n : Int) - 1 - (i : Int)))] w fun e w' => e = .returned (.int .u64 s) ∧ w = w') :
    Calls Tryz.prog 112 #[.int .u64 x, .int .i64 (n : Int)] w fun e w' => e = .returned (.tuple #[.slice (some ⟨w.heap.size, 0, none⟩) n n, .int .i64 0]) ∧ w.alloc (.cells (BARR n F) 5) = w' := by
  have hmk := make_bytes n (by omega)
  have CI : Aside (∀ i : Nat, i < n → ∃ s : Int, Aside (s % 256 = F i) ∧ ∀ w, Calls Tryz.prog 119 #[.int .u64 x, .int .i64 (8 * ((n : Int) - 1 - (i : Int)))] w fun e w' => e = .returned (.int .u64 s) ∧ w = w') := ci
  clear ci
  go_enter Tryz.func112, Tryz.ntmps112
  go_wp2_with fail
  refine (c _).mono ?_
  rintro e w' ⟨rfl, rfl⟩
  go_wp2
  go_loopg [23] n (fun g s23 wx => ∃ (i : Nat) (f : Nat → Int), i + g = n ∧ Aside (∀ j, f j = if j < i then F j else 0) ∧ s23 = .int .i64 i ∧ wx = w.alloc (.cells (BARR n f) 5))
  case atStart => exact ⟨0, fun _ => 0, by omega, fun j => by simp, rfl, rfl⟩
  case round =>
    obtain ⟨i, f, hig, A, rfl, rfl⟩ := hrel
    cases gk with
    | zero =>
      obtain rfl : i = n := by omega
      have hf : BARR i f = BARR i F := BARR_ext fun j hj => by rw [A.out j, if_pos hj]
      rw [hf]
      clear hf A
      go_wp2
      go_ret2
      exact ⟨rfl, rfl⟩
    | succ g =>
      have hi : (i : Int) < (n : Int) := by omega
      have hc : (BARR n f)[i]? = some (.int .u8 (f i)) := BARR_get n f i (by omega)
      have hs : ∀ v, (BARR n f).setIfInBounds i (.int .u8 v) = BARR n (fun j => if j = i then v else f j) := fun v => BARR_set n f i v
      obtain ⟨s, hsF, cs⟩ := CI.out i (by omega)
      go_wp2_with fail
      refine (cs _).mono ?_
      rintro e w' ⟨rfl, rfl⟩
      go_wp2
      go_roundg g
      case measure => omega
      case rel => exact ⟨i + 1, _, by omega, bfill_put A.out hsF.out, by go_num, rfl⟩
/-- the i-th of n bytes of x, the highest first. -/
def BYTE (X n : Nat) : Nat → Int := fun i => ((X / 2 ^ (8 * (n - 1 - i)) % 256 : Nat) : Int)
theorem big_ok (X n : Nat) (hX : X < 2 ^ 64) (hn : n ≤ 8) (h : X / 2 ^ (8 * n) = 0) (w : World) :
    Calls Tryz.prog 112 #[.int .u64 (X : Int), .int .i64 (n : Int)] w fun e w' => e = .returned (.tuple #[.slice (some ⟨w.heap.size, 0, none⟩) n n, .int .i64 0]) ∧ w.alloc (.cells (BARR n (BYTE X n)) 5) = w' := by
  refine big_raw X n (BYTE X n) (by omega) w (fun w => ?_) (fun i hi => ?_)
  · have k := shr_ok X (8 * (n : Int)) hX (by omega) (by omega) w
    have hs : SHR X (8 * (n : Int)) = 0 := by
      unfold SHR
      rw [if_neg (by omega), show (8 * (n : Int)).toNat = 8 * n by omega, h]
    rw [hs] at k
    exact k
  · refine ⟨(SHR X (8 * ((n : Int) - 1 - (i : Int))) : Nat), ?_, fun w => shr_ok X _ hX (by omega) (by omega) w⟩
    unfold SHR BYTE Aside
    rw [if_neg (by omega), show (8 * ((n : Int) - 1 - (i : Int))).toNat = 8 * (n - 1 - i) by omega]
    simp
end Go.Proofs.YtkcfhgflgkejoaaGreatDoor

/- append of bytes onto a row of the call's own. -/
namespace Go.Proofs.YtkcfhgflgkejoaaGreatDoor
open Go.RowKit

/-- bytes as cells. -/
def CELLS (l : List Int) : List Value := l.map (Value.int .u8)
theorem CELLS_append (a b : List Int) : CELLS (a ++ b) = CELLS a ++ CELLS b := by simp [CELLS]
theorem CELLS_get (l : List Int) (i : Nat) (h : i < l.length) : (CELLS l)[i]? = some (.int .u8 (l.getD i 0)) := by
  simp [CELLS, h, List.getD_eq_getElem?_getD]
theorem CELLS_one (l : List Int) : ∀ u ∈ CELLS l, u.oneCell' = true := fun u hu => by
  simp [CELLS] at hu
  obtain ⟨x, _, rfl⟩ := hu
  rfl
theorem info_parts_u8 : ∃ i, Tryz.prog.info? 5 = some i ∧ i.zero = some (.int .u8 0) ∧ i.size = 1 ∧ i.bytes = 1 := by
  obtain ⟨i, hi, h⟩ := Option.map_eq_some_iff.1 info_u8
  simp only [Prod.mk.injEq] at h
  exact ⟨i, hi, h.1, h.2.1, h.2.2⟩

theorem app_u8 {ops : Array Oper} {rest : List Oper} {o : Oper} {a : Act} {Q : Exit → Act → World → Prop} (w : World) (hgd : o.guard = none) (s x : Operand)
    (ho : o.op = .call { callee := .builtin .append, args := #[s, x], argTypes := #[25, 25] })
    (base : Nat) (v : Value) (n : Nat) (xs : List Int) (hs : a.eval s = v) (hown : w.ownsRow base 5 1 v n (CELLS xs))
    (b off m c : Nat) (l : List Int) (hx : a.eval x = .slice (some ⟨b, off, none⟩) m c) (hB : Bytes w (some ⟨b, off, none⟩) m l)
    (hm : 0 < m) (hb : n + m ≤ 140737488355328) (hbase : base ≤ w.heap.size)
    (h : ∀ g cap w', w'.ownsRow base 5 1 (.slice (some ⟨g, 0, none⟩) (n + m) cap) (n + m) (CELLS (xs ++ l)) → w.grownBy w' v.ownBlock → g < w'.heap.size → wpList Tryz.prog ops Q rest (a.put o.dst (.slice (some ⟨g, 0, none⟩) (n + m) cap)) w') : wpList Tryz.prog ops Q (o :: rest) a w := by
  obtain ⟨i, hi, hz, hs1, hby⟩ := info_parts_u8
  obtain ⟨b', off', e, _, hc⟩ := hB.2.1 hm
  simp only [Option.some.injEq, Addr.mk.injEq] at e
  obtain ⟨rfl, rfl, _⟩ := e
  refine wpList_append_lies w hgd s x 25 ho base 5 i (.int .u8 0) 1 1 Tryz.underlying25 hi hz hs1 hby rfl (by decide) v n (CELLS xs) hs hown ⟨b, off, none⟩ m c (CELLS l) hx (by simp [CELLS, hB.1]) ?_ (CELLS_one l) hm (by simp only [maxLen]; omega) (by omega) hbase w.heap.size rfl ?_
  · intro j u hj
    have hjl : j < l.length := by
      have := (List.getElem?_eq_some_iff.1 hj).1
      simpa [CELLS] using this
    rw [CELLS_get l j hjl] at hj
    rw [addr_add, hc j (by rw [← hB.1]; exact hjl)]
    exact hj
  · intro g cap w' h1 h2 _ h4
    rw [← CELLS_append] at h1
    exact h g cap w' h1 h2 h4

theorem grown_refl (w : World) (row : Option Nat) : w.grownBy w row := ⟨rfl, rfl, rfl, Nat.le_refl _, fun _ _ _ => rfl⟩
/-- nothing is appended. -/
theorem app_zero {ops : Array Oper} {rest : List Oper} {o : Oper} {a : Act} {Q : Exit → Act → World → Prop} (w : World) (hgd : o.guard = none) (s x : Operand)
    (ho : o.op = .call { callee := .builtin .append, args := #[s, x], argTypes := #[25, 25] })
    (base : Nat) (v : Value) (n : Nat) (xs : List Int) (hs : a.eval s = v) (hown : w.ownsRow base 5 1 v n (CELLS xs))
    (ao : Option Addr) (c : Nat) (hx : a.eval x = .slice ao 0 c) (hc : ao = none → c = 0) (hn : n ≤ 140737488355328) (hbase : base ≤ w.heap.size)
    (h : ∀ a' c' w', w'.ownsRow base 5 1 (.slice a' n c') n (CELLS xs) → w.grownBy w' v.ownBlock → wpList Tryz.prog ops Q rest (a.put o.dst (.slice a' n c')) w') : wpList Tryz.prog ops Q (o :: rest) a w := by
  obtain ⟨i, hi, hz, hs1, hby⟩ := info_parts_u8
  have form : ∀ (v' : Value) (w' : World), w'.ownsRow base 5 1 v' n (CELLS xs) → ∃ a' c', v' = .slice a' n c' := fun v' w' h => by
    rcases h.2 with ⟨rfl, rfl⟩ | ⟨g, cap, cur, rfl, _⟩
    · exact ⟨none, 0, rfl⟩
    · exact ⟨_, cap, rfl⟩
  cases ao with
  | none =>
    obtain rfl := hc rfl
    refine wpList_append_own_none hgd s x 25 ho base 5 i 1 Tryz.underlying25 hi v n (CELLS xs) hs hown hx ?_
    obtain ⟨a', c', rfl⟩ := form v w hown
    exact h a' c' w hown (grown_refl _ _)
  | some ad =>
    refine wpList_append_own w hgd s x 25 ho base 5 i (.int .u8 0) 1 1 Tryz.underlying25 hi hz hs1 hby rfl (by decide) v n (CELLS xs) hs hown ad 0 c [] hx rfl (fun j u hj => by simp at hj) (fun u hu => by simp at hu) (by simp only [maxLen]; omega) (by omega) hbase ?_
    intro v' w' h1 h2 _
    simp only [Nat.add_zero, List.append_nil] at h1
    obtain ⟨a', c', rfl⟩ := form v' w' h1
    exact h a' c' w' h1 h2

/-- what is owned reads so. -/
theorem own_bytes {w : World} {base g n cap : Nat} {l : List Int} (h : w.ownsRow base 5 1 (.slice (some ⟨g, 0, none⟩) n cap) n (CELLS l)) (hg : g < w.heap.size) (hl : ∀ x ∈ l, 0 ≤ x ∧ x ≤ 255) : Bytes w (some ⟨g, 0, none⟩) n l := by
  have hlen : l.length = n := by have := h.1; simpa [CELLS] using this
  refine ⟨hlen, fun _ => ⟨g, 0, rfl, hg, fun i hi => ?_⟩, hl⟩
  rw [Nat.zero_add, h.cellAt i (by omega), CELLS_get l i (by omega)]
theorem own_empty (w : World) (base : Nat) (hb : base ≤ w.heap.size) : (w.alloc (.cells #[] 5)).ownsRow base 5 1 (.slice (some ⟨w.heap.size, 0, none⟩) 0 0) 0 (CELLS []) :=
  World.ownsRow_lit w #[] 0 hb (by simp [maxLen]) rfl
theorem row_bytes (w : World) (n : Nat) (f : Nat → Int) (l : List Int) (hl : l.length = n) (hf : ∀ i, i < n → f i = l.getD i 0) (hr : ∀ x ∈ l, 0 ≤ x ∧ x ≤ 255) : Bytes (w.alloc (.cells (BARR n f) 5)) (some ⟨w.heap.size, 0, none⟩) n l := by
  refine ⟨hl, fun _ => ⟨w.heap.size, 0, rfl, by simp, fun i hi => ?_⟩, hr⟩
  rw [Nat.zero_add, World.cell?_alloc_at _ _ _ _ rfl, BARR_get n f i hi, hf i hi]

theorem own_bytes_any {w : World} {base n c : Nat} {a : Option Addr} {l : List Int} (h : w.ownsRow base 5 1 (.slice a n c) n (CELLS l)) (hl : ∀ x ∈ l, 0 ≤ x ∧ x ≤ 255) : Bytes w a n l ∧ n ≤ c := by
  rcases h.2 with ⟨hv, hn⟩ | ⟨g, cap, cur, hv, _, hg, hc, _⟩
  · simp only [Value.slice.injEq] at hv
    obtain ⟨rfl, rfl, rfl⟩ := hv
    have : l = [] := by have := h.1; simpa [CELLS] using this
    subst this
    exact ⟨⟨rfl, fun h => by omega, fun x hx => by simp at hx⟩, Nat.le_refl _⟩
  · simp only [Value.slice.injEq] at hv
    obtain ⟨rfl, _, rfl⟩ := hv
    exact ⟨own_bytes h (Array.getElem?_eq_some_iff.1 hg).1 hl, hc⟩
/-- bytes are appended, or none. -/
theorem app_any {ops : Array Oper} {rest : List Oper} {o : Oper} {a : Act} {Q : Exit → Act → World → Prop} (w : World) (hgd : o.guard = none) (s x : Operand)
    (ho : o.op = .call { callee := .builtin .append, args := #[s, x], argTypes := #[25, 25] })
    (base : Nat) (v : Value) (n : Nat) (xs : List Int) (hs : a.eval s = v) (hown : w.ownsRow base 5 1 v n (CELLS xs))
    (ao : Option Addr) (m c : Nat) (l : List Int) (hx : a.eval x = .slice ao m c) (hB : Bytes w ao m l) (hc : ao = none → c = 0)
    (N : Nat) (L : List Int) (hN : n + m = N) (hL : xs ++ l = L) (hb : N ≤ 140737488355328) (hbase : base ≤ w.heap.size)
    (h : ∀ a' c' w', w'.ownsRow base 5 1 (.slice a' N c') N (CELLS L) → w.grownBy w' v.ownBlock → wpList Tryz.prog ops Q rest (a.put o.dst (.slice a' N c')) w') : wpList Tryz.prog ops Q (o :: rest) a w := by
  subst hN hL
  rcases Nat.eq_zero_or_pos m with hm | hm
  · subst hm
    have hl : l = [] := by have := hB.1; simpa using this
    subst hl
    refine app_zero w hgd s x ho base v n xs hs hown ao c hx hc (by omega) hbase ?_
    simpa using h
  · obtain ⟨b, off, rfl, _, _⟩ := hB.2.1 hm
    refine app_u8 w hgd s x ho base v n xs hs hown b off m c l hx hB hm hb hbase ?_
    intro g cap w' h1 h2 _
    exact h _ cap w' h1 h2

/-! bytes and their number -/
end Go.Proofs.YtkcfhgflgkejoaaGreatDoor

/- What Short of package num answers. -/
namespace Go.Proofs.YtkcfhgflgkejoaaGreatDoor
open Go.RowKit

/-- the j lowest groups of 7 bits, 128 added to each. -/
def GROUPS (X j : Nat) : List Int := (List.range j).map fun i => ((X / 128 ^ i % 128 + 128 : Nat) : Int)
theorem GROUPS_succ (X j : Nat) : GROUPS X (j + 1) = GROUPS X j ++ [((X / 128 ^ j % 128 + 128 : Nat) : Int)] := by simp [GROUPS, List.range_succ]
theorem GROUPS_length (X j : Nat) : (GROUPS X j).length = j := by simp [GROUPS]
/-- how many groups but the last one X has. -/
def TOPG (X : Nat) : Nat → Nat
  | 0 => 0
  | k + 1 => if X < 128 then 0 else TOPG (X / 128) k + 1
def NTOP (X : Nat) : Nat := TOPG X 9
/-- X in groups of 7 bits, the lowest first. -/
def SHORT (X : Nat) : List Int := GROUPS X (NTOP X) ++ [((X / 128 ^ NTOP X : Nat) : Int)]
theorem SHORT_length (X : Nat) : (SHORT X).length = NTOP X + 1 := by simp [SHORT, GROUPS_length]
theorem TOPG_le : ∀ (k X : Nat), TOPG X k ≤ k
  | 0, _ => Nat.le_refl _
  | k + 1, X => by
    unfold TOPG
    split
    · omega
    · have := TOPG_le k (X / 128)
      omega
theorem TOPG_below : ∀ (k X j : Nat), j < TOPG X k → 128 ≤ X / 128 ^ j
  | 0, _, _, h => by simp [TOPG] at h
  | k + 1, X, j, h => by
    unfold TOPG at h
    split at h
    · omega
    · cases j with
      | zero => simp; omega
      | succ j =>
        have := TOPG_below k (X / 128) j (by omega)
        rw [Nat.div_div_eq_div_mul, Nat.mul_comm, ← Nat.pow_succ] at this
        exact this
theorem TOPG_at : ∀ (k X : Nat), X < 128 ^ (k + 1) → X / 128 ^ TOPG X k < 128
  | 0, X, h => by simpa [TOPG] using h
  | k + 1, X, h => by
    unfold TOPG
    split
    · simpa using ‹X < 128›
    · have := TOPG_at k (X / 128) (by rw [Nat.pow_succ] at h; exact Nat.div_lt_of_lt_mul (by omega))
      rw [Nat.div_div_eq_div_mul, Nat.mul_comm, ← Nat.pow_succ] at this
      exact this
theorem NTOP_le (X : Nat) : NTOP X ≤ 9 := TOPG_le 9 X
theorem NTOP_at {X : Nat} (hX : X < 2 ^ 64) : X / 128 ^ NTOP X < 128 := TOPG_at 9 X (Nat.lt_of_lt_of_le hX (by decide))
theorem NTOP_eq {X : Nat} (hX : X < 2 ^ 64) {j : Nat} (hj : ∀ i, i < j → 128 ≤ X / 128 ^ i) (h : X / 128 ^ j < 128) : NTOP X = j := by
  rcases Nat.lt_trichotomy (NTOP X) j with h1 | h1 | h1
  · have := hj _ h1
    have := NTOP_at hX
    omega
  · exact h1
  · have := TOPG_below 9 X j h1
    omega
theorem div_anti (X : Nat) {i j : Nat} (h : i ≤ j) : X / 128 ^ j ≤ X / 128 ^ i := Nat.div_le_div_left (Nat.pow_le_pow_right (by decide) h) (Nat.pow_pos (by decide))
theorem GROUPS_range (X j : Nat) : ∀ x ∈ GROUPS X j, 0 ≤ x ∧ x ≤ 255 := fun x hx => by
  simp only [GROUPS, List.mem_map] at hx
  obtain ⟨i, _, rfl⟩ := hx
  omega
theorem SHORT_range {X : Nat} (hX : X < 2 ^ 64) : ∀ x ∈ SHORT X, 0 ≤ x ∧ x ≤ 255 := fun x hx => by
  simp only [SHORT, List.mem_append, List.mem_singleton] at hx
  rcases hx with hx | rfl
  · exact GROUPS_range X _ x hx
  · have := NTOP_at hX
    generalize X / 128 ^ NTOP X = y at *
    omega

theorem one_bytes (w : World) (v : Int) (h0 : 0 ≤ v) (h1 : v ≤ 255) : Bytes (w.alloc (.cells #[.int .u8 v] 5)) (some ⟨w.heap.size, 0, none⟩) 1 [v] := by
  refine ⟨rfl, fun _ => ⟨w.heap.size, 0, rfl, by simp, fun i hi => ?_⟩, fun x hx => by simp at hx; omega⟩
  obtain rfl : i = 0 := by omega
  rw [Nat.zero_add, World.cell?_alloc_at _ _ _ _ rfl]
  rfl
end Go.Proofs.YtkcfhgflgkejoaaGreatDoor
