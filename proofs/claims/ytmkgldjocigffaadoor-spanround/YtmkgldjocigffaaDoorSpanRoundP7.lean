/- Texts of SpanRound, one behind the other: ProofLong, ProofDecodePlain, ProofInTurn, ProofSteps, ManySearch, ManyPlain, ManySplit, ManyRise, ManyReader, CutRefSpan, ProofRefPlaces, ProofLists, RegionSteps, ProofCells. -/
import Derived.BigQuiet
import Derived.Deep.Cut
import Derived.WalkLawsBesides
import Derived.Test.YtmkgldjocigffaaDoorProg
import Derived.WalkKit
import Derived.Deep.RegionHeld3
import Derived.Deep.CutRange
import Derived.Deep.MidRow
import Derived.Great.BuildSlice
import Derived.ChangeKeysEq
import Derived.Test.YtmkgldjocigffaaDoorSpanRoundP6
/- A number in front of bytes. -/
namespace Go.Proofs.YtmkgldjocigffaaDoor
open Go.RowKit

/-- a number in front of bytes: it, how many bytes it has, or what is wrong. -/
def LNG (t : List Int) : Int × Int × Int := LG t t.length 10 0 0
theorem LNG_back {t : List Int} (hr : ∀ x ∈ t, 0 ≤ x ∧ x ≤ 255) (h : (LNG t).2.2 = 0) : ∃ Z m : Nat, Z < 2 ^ 64 ∧ 1 ≤ m ∧ m ≤ t.length ∧ LNG t = ((Z : Int), (m : Int), 0) ∧ SHORT Z = t.take m := by
  have hr' : ∀ i, 0 ≤ t.getD i 0 ∧ t.getD i 0 ≤ 255 := fun i => by
    by_cases hi : i < t.length
    · rw [List.getD_eq_getElem?_getD, List.getElem?_eq_getElem hi]
      exact hr _ (List.getElem_mem hi)
    · rw [List.getD_eq_getElem?_getD, List.getElem?_eq_none (by omega)]
      simp
  obtain ⟨Z, m, h1, h2, h3, h4, h5, h6⟩ := LG_back (l := t) rfl hr' h
  exact ⟨Z, m + 1, h1, by omega, by omega, by unfold LNG; rw [h4]; simp, h6⟩
theorem LNG_SHORT {X : Nat} (hX : X < 2 ^ 64) (more : List Int) : LNG (SHORT X ++ more) = ((X : Int), ((NTOP X + 1 : Nat) : Int), 0) := by
  unfold LNG
  rw [LG_SHORT hX more _ (by rw [List.length_append, SHORT_length])]
  simp
end Go.Proofs.YtmkgldjocigffaaDoor

/- What Decode and DecodePrefix answer, of any bytes. -/
namespace Go.Proofs.YtmkgldjocigffaaDoor
open Go.RowKit

end Go.Proofs.YtmkgldjocigffaaDoor

/- Part by part: what inTurn answers, of the parts of either reader. -/
namespace Go.Proofs.YtmkgldjocigffaaDoor
open Go.RowKit
set_option maxRecDepth 100000

end Go.Proofs.YtmkgldjocigffaaDoor

/- What a reader has behind each part. -/
namespace Go.Proofs.YtmkgldjocigffaaDoor
open Go.RowKit
set_option maxRecDepth 100000

/-- a reader's cells: what is left, two numbers, the nodes. -/
def RCELLS (v : Value) (X Y : Nat) (nv : Value) : Array Value := #[v, .int .u64 (X : Int), .int .u64 (Y : Int), nv]
/-- the reader and the list of its parts lie there; what was there before is as it was. -/
structure FRM (w0 w : World) (rb gl : Nat) (t : TypeId) (v : Value) (X Y : Nat) (nv : Value) (fl : Array Value) (tf : TypeId) : Prop where
  bel : Below w0.heap.size w0 w
  rd : Has w rb (RCELLS v X Y nv) t
  fl : Has w gl fl tf
  ne : gl ≠ rb
  lb : w0.heap.size ≤ rb
  lg : w0.heap.size ≤ gl
/-- the bytes that are left lie there. -/
def SRC (w0 : World) (a : Option Addr) (c : Nat) (t : List Int) : Prop := Bytes w0 a t.length t ∧ t.length ≤ c ∧ t.length ≤ 1000000
theorem FRM.drew {w0 w : World} {rb gl : Nat} {t : TypeId} {v : Value} {X Y : Nat} {nv : Value} {fl : Array Value} {tf : TypeId} (h : FRM w0 w rb gl t v X Y nv fl tf) : FRM w0 w.drew rb gl t v X Y nv fl tf := ⟨h.bel.drew, h.rd, h.fl, h.ne, h.lb, h.lg⟩
theorem FRM.keep {w0 w w' : World} {rb gl : Nat} {t : TypeId} {v : Value} {X Y : Nat} {nv : Value} {fl : Array Value} {tf : TypeId} (h : FRM w0 w rb gl t v X Y nv fl tf) (hb : Below w.heap.size w w') : FRM w0 w' rb gl t v X Y nv fl tf := ⟨h.bel.trans (hb.mono h.bel.size), h.rd.keep hb, h.fl.keep hb, h.ne, h.lb, h.lg⟩
theorem FRM.rest {w0 w : World} {rb gl : Nat} {t : TypeId} {v : Value} {X Y : Nat} {nv : Value} {fl : Array Value} {tf : TypeId} (h : FRM w0 w rb gl t v X Y nv fl tf) (v' : Value) : FRM w0 (w.setCell ⟨rb, 0, none⟩ v') rb gl t v' X Y nv fl tf :=
  ⟨h.bel.setCell (p := ⟨rb, 0, none⟩) h.lb _, h.rd.set 0 v', h.fl.other (a := ⟨rb, 0, none⟩) h.ne _, h.ne, h.lb, h.lg⟩
theorem SRC.drop {w0 : World} {b off c : Nat} {t : List Int} (h : SRC w0 (some ⟨b, off, none⟩) c t) (k : Nat) (hk : k ≤ t.length) : SRC w0 (REST b off c k) (c - k) (t.drop k) := by
  obtain ⟨h1, h2, h3⟩ := h
  have := h1.behind k hk h2
  refine ⟨?_, by rw [List.length_drop]; omega, by rw [List.length_drop]; omega⟩
  rw [List.length_drop]
  exact this
theorem SRC.addr {w0 : World} {a : Option Addr} {c : Nat} {t : List Int} (h : SRC w0 a c t) (h0 : 0 < t.length) : ∃ b off, a = some ⟨b, off, none⟩ ∧ b < w0.heap.size ∧ ∀ i, i < t.length → w0.cell? ⟨b, off + i, none⟩ = some (.int .u8 (t.getD i 0)) := h.1.2.1 h0
end Go.Proofs.YtmkgldjocigffaaDoor

/- A list of numbers that lies there; slices.BinarySearch over a rising one. -/
namespace Go.Proofs.YtmkgldjocigffaaDoor
open Go.RowKit
set_option maxRecDepth 100000

/-- numbers that lie there, at any place of a block. -/
def NUML (w : World) (a : Option Addr) (L : List Nat) : Prop := 0 < L.length → ∃ b o, a = some ⟨b, o, none⟩ ∧ b < w.heap.size ∧ ∀ i x, L[i]? = some x → w.cell? ⟨b, o + i, none⟩ = some (.int .u64 ((x : Nat) : Int))
theorem NUML.below {w w' : World} {a : Option Addr} {L : List Nat} {B : Nat} (h : NUML w a L) (hb : Below B w w') (hB : ∀ x, a = some x → x.block < B) : NUML w' a L := fun h0 => by
  obtain ⟨b, o, e, hl, hc⟩ := h h0
  have h1 : b < B := hB _ e
  exact ⟨b, o, e, by have := hb.size; omega, fun i x hx => (hb.cell (p := ⟨b, o + i, none⟩) h1).trans (hc i x hx)⟩
/-- each one above the one ahead. -/
def RISES (L : List Nat) : Prop := ∀ (i j x y : Nat), i < j → L[i]? = some x → L[j]? = some y → x < y
/-- k of them are below t. -/
structure RANKS (L : List Nat) (t k : Nat) : Prop where
  le : k ≤ L.length
  lo : ∀ i x, i < k → L[i]? = some x → x < t
  hi : ∀ i x, k ≤ i → L[i]? = some x → t ≤ x
end Go.Proofs.YtmkgldjocigffaaDoor

/- Which nodes leaves need: plain. -/
namespace Go.Proofs.YtmkgldjocigffaaDoor
set_option maxRecDepth 100000

/-- the places that the leaves L under the k-th node of height h need, rising. -/
def NEED : Nat → Nat → List Nat → List Nat
  | h, k, [] => [PLC h k]
  | 0, _, _ :: _ => []
  | h + 1, k, x :: l => NEED h (2 * k) ((x :: l).filter fun y => decide (y < (2 * k + 1) * 2 ^ h)) ++ NEED h (2 * k + 1) ((x :: l).filter fun y => !decide (y < (2 * k + 1) * 2 ^ h))
theorem NEED_nil (h k : Nat) : NEED h k [] = [PLC h k] := by cases h <;> rfl
theorem NEED_node (h k x : Nat) (l : List Nat) : NEED (h + 1) k (x :: l) = NEED h (2 * k) ((x :: l).filter fun y => decide (y < (2 * k + 1) * 2 ^ h)) ++ NEED h (2 * k + 1) ((x :: l).filter fun y => !decide (y < (2 * k + 1) * 2 ^ h)) := rfl
/-- the first r of a rising list are those below t. -/
theorem RANKS.take : ∀ {L : List Nat} {t r : Nat}, RANKS L t r → L.take r = L.filter fun y => decide (y < t)
  | [], t, r, _ => by simp
  | x :: l, t, 0, h => by
    rw [List.take_zero]
    symm
    rw [List.filter_eq_nil_iff]
    intro y hy
    obtain ⟨i, hi⟩ := List.getElem?_of_mem hy
    have := h.hi i y (Nat.zero_le _) hi
    simp
    omega
  | x :: l, t, r + 1, h => by
    have hx : x < t := h.lo 0 x (by omega) rfl
    have h' : RANKS l t r := ⟨by have := h.le; simp at this; omega, fun i y hi hy => h.lo (i + 1) y (by omega) (by simpa using hy), fun i y hi hy => h.hi (i + 1) y (by omega) (by simpa using hy)⟩
    rw [List.take_succ_cons, List.filter_cons_of_pos (by simpa using hx), h'.take]
theorem RANKS.drop : ∀ {L : List Nat} {t r : Nat}, RANKS L t r → L.drop r = L.filter fun y => !decide (y < t)
  | [], t, r, _ => by simp
  | x :: l, t, 0, h => by
    rw [List.drop_zero]
    symm
    rw [List.filter_eq_self]
    intro y hy
    obtain ⟨i, hi⟩ := List.getElem?_of_mem hy
    have := h.hi i y (Nat.zero_le _) hi
    simp
    omega
  | x :: l, t, r + 1, h => by
    have hx : x < t := h.lo 0 x (by omega) rfl
    have h' : RANKS l t r := ⟨by have := h.le; simp at this; omega, fun i y hi hy => h.lo (i + 1) y (by omega) (by simpa using hy), fun i y hi hy => h.hi (i + 1) y (by omega) (by simpa using hy)⟩
    rw [List.drop_succ_cons, List.filter_cons_of_neg (by simpa using hx), h'.drop]
theorem RISES.take {L : List Nat} (h : RISES L) (r : Nat) : RISES (L.take r) := fun i j x y hij hx hy => by
  rw [List.getElem?_take] at hx hy
  split at hx
  · split at hy
    · exact h i j x y hij hx hy
    · cases hy
  · cases hx
theorem RISES.drop {L : List Nat} (h : RISES L) (r : Nat) : RISES (L.drop r) := fun i j x y hij hx hy => by
  rw [List.getElem?_drop] at hx hy
  exact h (r + i) (r + j) x y (by omega) hx hy
/-- the peaks' leaves, one peak behind the other. -/
def NEEDS : List (Nat × Nat) → List Nat → List Nat
  | [], _ => []
  | (h, k) :: ps, L => NEED h k (L.filter fun y => decide (y < (k + 1) * 2 ^ h)) ++ NEEDS ps (L.filter fun y => !decide (y < (k + 1) * 2 ^ h))
end Go.Proofs.YtmkgldjocigffaaDoor

/- What split of package many answers. -/
namespace Go.Proofs.YtmkgldjocigffaaDoor
open Go.RowKit
set_option maxRecDepth 100000

/-- what split answers. -/
structure SPLIT (w w' : World) (a : Option Addr) (n c : Nat) (L : List Nat) (t r : Nat) (a' : Option Addr) : Prop where
  rank : RANKS L t r
  lies : NUML w a' (L.drop r)
  nil : a' = none → c - r = 0
  block : ∀ x, a' = some x → ∃ y, a = some y ∧ x.block = y.block
  spot : ∀ x, a' = some x → x.spot = none
  below : Below w.heap.size w w'
end Go.Proofs.YtmkgldjocigffaaDoor

/- mustRise of package many: it gives up where leaves are not those of n, or do not rise. -/
namespace Go.Proofs.YtmkgldjocigffaaDoor
open Go.RowKit
set_option maxRecDepth 100000

end Go.Proofs.YtmkgldjocigffaaDoor

/- The reader of package many: a number, the mark, the end. -/
namespace Go.Proofs.YtmkgldjocigffaaDoor
open Go.RowKit
set_option maxRecDepth 100000

/-- but for the block rb, what was there is as it was. -/
structure STAY (w w' : World) (rb : Nat) : Prop where
  kp : ∀ k, k < w.heap.size → k ≠ rb → w'.heap[k]? = w.heap[k]?
  bl : Below rb w w'
theorem STAY.refl (w : World) (rb : Nat) : STAY w w rb := ⟨fun _ _ _ => rfl, Below.refl _ _⟩
theorem STAY.trans {w w' w'' : World} {rb : Nat} (h : STAY w w' rb) (h' : STAY w' w'' rb) : STAY w w'' rb := ⟨fun k hk hne => (h'.kp k (Nat.lt_of_lt_of_le hk h.bl.size) hne).trans (h.kp k hk hne), h.bl.trans h'.bl⟩
theorem STAY.set (w : World) (rb i : Nat) (v : Value) : STAY w (w.setCell ⟨rb, i, none⟩ v) rb := ⟨fun k _ hne => Below.heap_setCell w ⟨rb, i, none⟩ v k hne, (Below.refl _ _).setCell (p := ⟨rb, i, none⟩) (Nat.le_refl _) _⟩
theorem STAY.of {w w' : World} {rb : Nat} (h : Below w.heap.size w w') (hr : rb ≤ w.heap.size) : STAY w w' rb := ⟨fun k hk _ => h.block k hk, h.mono hr⟩
theorem STAY.has {w w' : World} {rb g : Nat} {c : Array Value} {t : TypeId} (h : STAY w w' rb) (hg : Has w g c t) (hne : g ≠ rb) : Has w' g c t := (h.kp g hg.lt hne).trans hg
/-! the mark -/
/-! the size, the end -/
end Go.Proofs.YtmkgldjocigffaaDoor

/- What the document's Span answers. -/
namespace Go.Proofs.YtmkgldjocigffaaDoor
open Go.RowKit

end Go.Proofs.YtmkgldjocigffaaDoor

/- What the document's Places and PrefixPlaces answer; two lists of numbers that read the same or not. -/
namespace Go.Proofs.YtmkgldjocigffaaDoor
open Go.RowKit
set_option maxRecDepth 100000

end Go.Proofs.YtmkgldjocigffaaDoor

/- Two lists of numbers that read the same; a list written over and grown; does it have the mark alone? -/
namespace Go.Proofs.YtmkgldjocigffaaDoor
open Go.RowKit
set_option maxRecDepth 100000

end Go.Proofs.YtmkgldjocigffaaDoor

/- Steps of a region that draws its order, one operation at a time. -/
namespace Go.Proofs.YtmkgldjocigffaaDoor
open Go.RowKit
set_option maxRecDepth 100000

theorem step_skip {ops : Array Oper} {o : Oper} {a : Act} {w w' : World} {K : Act → World → Prop} {Q : Exit → Act → World → Prop} {E : Prop} (hg : o.guard = none)
    (hrun : (execOp a.eval o).run Tryd.prog w = .ok .skip w') (h : K (a.put o.dst undef) w') : if Region.wanted o (yielded ops a.tmps) = true then Oper.wp Tryd.prog o a w K Q else E := by
  have hw : Region.wanted o (yielded ops a.tmps) = true := by simp [Region.wanted, hg]
  rw [if_pos hw]
  unfold Oper.wp
  rw [hrun]
  exact h
theorem run_skip {s : Sem Unit} {w w' : World} (h : s.run Tryd.prog w = .ok () w') : (do s; pure Next.skip : Sem Next).run Tryd.prog w = .ok .skip w' := by
  simp [h]
theorem run_value {s : Sem Value} {w w' : World} {v : Value} (h : s.run Tryd.prog w = .ok v w') : (do pure (Next.value (← s)) : Sem Next).run Tryd.prog w = .ok (.value v) w' := by
  simp [h, Result.andThen]
end Go.Proofs.YtmkgldjocigffaaDoor

/- Hashes as cells: held against each other, put behind a list, a list of one; a row whose block stays. -/
namespace Go.Proofs.YtmkgldjocigffaaDoor
open Go.RowKit
set_option maxRecDepth 100000

theorem own_heap {w w' : World} {B : Nat} {t : TypeId} {s : Nat} {v : Value} {n : Nat} {xs : List Value} (h : w.ownsRow B t s v n xs) (hk : ∀ k, v.ownBlock = some k → w'.heap[k]? = w.heap[k]?) : w'.ownsRow B t s v n xs := by
  refine ⟨h.1, ?_⟩
  rcases h.2 with h | ⟨g, cap, cur, rfl, hb, hg, r⟩
  · exact .inl h
  · exact .inr ⟨g, cap, cur, rfl, hb, by rw [hk g rfl]; exact hg, r⟩
/-- a hash that is zero, cell by cell. -/
abbrev ZARR : Array Value := #[.int .u8 0, .int .u8 0, .int .u8 0, .int .u8 0, .int .u8 0, .int .u8 0, .int .u8 0, .int .u8 0, .int .u8 0, .int .u8 0, .int .u8 0, .int .u8 0, .int .u8 0, .int .u8 0, .int .u8 0, .int .u8 0, .int .u8 0, .int .u8 0, .int .u8 0, .int .u8 0, .int .u8 0, .int .u8 0, .int .u8 0, .int .u8 0, .int .u8 0, .int .u8 0, .int .u8 0, .int .u8 0, .int .u8 0, .int .u8 0, .int .u8 0, .int .u8 0]
theorem info_hashv : (Tryd.prog.info? 60).map (fun i => (i.zero, i.size, i.bytes)) = some (some (.agg ZARR), 32, 32) := by kernel_rfl
theorem app_hashm {ops : Array Oper} {rest : List Oper} {o : Oper} {a : Act} {Q : Exit → Act → World → Prop} (w : World) (hgd : o.guard = none) (s x : Operand)
    (ho : o.op = .call { callee := .builtin .append, args := #[s, x], argTypes := #[35, 35] })
    (base : Nat) (v : Value) (n : Nat) (xs : List Value) (hs : a.eval s = v) (hown : w.ownsRow base 60 32 v n xs)
    (b c : Nat) (y : List Int) (hl : y.length = 32) (hx : a.eval x = .slice (some ⟨b, 0, none⟩) 1 c) (hc : Has w b (CELLS y).toArray 60)
    (hb : n ≤ 100000) (hbase : base ≤ w.heap.size)
    (h : ∀ g cap w', w'.ownsRow base 60 32 (.slice (some ⟨g, 0, none⟩) (n + 1) cap) (n + 1) (xs ++ CELLS y) → w.grownBy w' v.ownBlock → (v.ownBlock = some g ∨ g = w.heap.size) → g < w'.heap.size → wpList Tryd.prog ops Q rest (a.put o.dst (.slice (some ⟨g, 0, none⟩) (n + 1) cap)) w') : wpList Tryd.prog ops Q (o :: rest) a w := by
  obtain ⟨i, hi, hz, hs1, hby⟩ := info_parts info_hashv
  refine wpList_append_lies w hgd s x 35 ho base 60 i (.agg ZARR) 32 32 Tryd.underlying35 hi hz hs1 hby rfl (by decide) v n xs hs hown ⟨b, 0, none⟩ 1 c (CELLS y) hx (by rw [CELLS, List.length_map, hl]) ?_ (CELLS_one y) (by decide) (by simp only [maxLen]; omega) (by omega) hbase w.heap.size rfl h
  intro j u hj
  rw [addr_add, Nat.zero_add, hc.cell, List.getElem?_toArray]
  exact hj
theorem app_hash {ops : Array Oper} {rest : List Oper} {o : Oper} {a : Act} {Q : Exit → Act → World → Prop} (w : World) (hgd : o.guard = none) (s x : Operand)
    (ho : o.op = .call { callee := .builtin .append, args := #[s, x], argTypes := #[35, 35] })
    (base : Nat) (v : Value) (n : Nat) (xs : List Value) (hs : a.eval s = v) (hown : w.ownsRow base 60 32 v n xs)
    (b c : Nat) (y : List Int) (hl : y.length = 32) (hx : a.eval x = .slice (some ⟨b, 0, none⟩) 1 c) (hc : Has w b (CELLS y).toArray 60)
    (hb : n ≤ 1000) (hbase : base ≤ w.heap.size)
    (h : ∀ g cap w', w'.ownsRow base 60 32 (.slice (some ⟨g, 0, none⟩) (n + 1) cap) (n + 1) (xs ++ CELLS y) → w.grownBy w' v.ownBlock → (v.ownBlock = some g ∨ g = w.heap.size) → g < w'.heap.size → wpList Tryd.prog ops Q rest (a.put o.dst (.slice (some ⟨g, 0, none⟩) (n + 1) cap)) w') : wpList Tryd.prog ops Q (o :: rest) a w :=
  app_hashm w hgd s x ho base v n xs hs hown b c y hl hx hc (by omega) hbase h
/-- a list of one aggregate. -/
theorem build_one {ops : Array Oper} {rest : List Oper} {o : Oper} {a : Act} {Q : Exit → Act → World → Prop} (w : World) (hg : o.guard = none) (t e : TypeId) (x : Operand) (ho : o.op = .buildSlice t 1 #[(0, x)]) (C : Array Value) (hx : a.eval x = .agg C) (n : Nat) (z : Value) (by' : Nat)
    (hu : Tryd.prog.underlying t = some (.slice e)) (hi : (Tryd.prog.info? e).map (fun i => (i.zero, i.size, i.bytes)) = some (some z, n, by')) (hC : C.size = n) (hz : z.cells.size = n) (hn : 0 < n) (hs : n ≤ 1000)
    (h : wpList Tryd.prog ops Q rest (a.put o.dst (.slice (some ⟨w.heap.size, 0, none⟩) 1 1)) (w.alloc (.cells C e))) : wpList Tryd.prog ops Q (o :: rest) a w := by
  obtain ⟨i, hie, hz', hs1, _⟩ := info_parts hi
  refine wpList_buildSlice hg t e 1 _ ho C i z hu hie hz' (by rw [hs1]; omega) (by rw [hs1]; omega) ?_ h
  have := Great.fill_whole (s := n) hn [.agg C] ((Array.range (1 * i.size)).map (z.cells[· % z.cells.size]!)) (fun v hv => by simp at hv; subst hv; exact hC) (by simp [hs1])
  simp [Value.cells] at this
  rw [hs1]
  simp [hx]
  rw [hs1] at this
  exact this
theorem items_cells (d : Nat) (h g : List Int) (hh : h.length = 32) (hg : g.length = 32) (w : World) : ∀ is : List Nat, (∀ i ∈ is, i < 32) → (Op.eqItems (d + 1) 5 1 (CELLS h).toArray (CELLS g).toArray is).run Tryd.prog w = .ok (is.all fun i => h.getD i 0 == g.getD i 0) w
  | [], _ => by simp [Op.eqItems]
  | i :: is, hi => by
    have hp : Tryd.prog.plainKey 5 = true := by kernel_rfl
    have hi32 : i < 32 := hi i (by simp)
    have h1 := run_part_plain (P := Tryd.prog) w hp (show (CELLS h).toArray[i]? = some (.int .u8 (h.getD i 0)) by rw [List.getElem?_toArray, CELLS_get h i (by omega)])
    have h2 := run_part_plain (P := Tryd.prog) w hp (show (CELLS g).toArray[i]? = some (.int .u8 (g.getD i 0)) by rw [List.getElem?_toArray, CELLS_get g i (by omega)])
    have h3 := run_equalIn_int (P := Tryd.prog) w d 5 .u8 .u8 (h.getD i 0) (g.getD i 0) Tryd.underlying5
    have ih := items_cells d h g hh hg w is (fun j hj => hi j (by simp [hj]))
    rw [Op.eqItems, Nat.mul_one]
    simp only [Sem.run_bind, h1, h2, h3, Result.andThen_ok]
    by_cases e : h.getD i 0 = g.getD i 0
    · have e2 : (h.getD i 0 == g.getD i 0) = true := by simpa using e
      rw [List.all_cons, e2, Bool.true_and, if_neg (by simp)]
      exact ih
    · have e2 : (h.getD i 0 == g.getD i 0) = false := by simpa using e
      rw [List.all_cons, e2]
      simp
theorem equal_cells (h g : List Int) (hh : h.length = 32) (hg : g.length = 32) (w : World) : (Op.equalIn 10000 60 (.agg (CELLS h).toArray) (.agg (CELLS g).toArray)).run Tryd.prog w = .ok ((List.range 32).all fun i => h.getD i 0 == g.getD i 0) w := by
  obtain ⟨i8, hi, _⟩ := Option.map_eq_some_iff.1 info_u8
  rw [run_equalIn_array (P := Tryd.prog) w 9999 (CELLS h).toArray (CELLS g).toArray Tryd.underlying60 hi]
  have hc : Tryd.prog.cellsOf 5 = 1 := by kernel_rfl
  rw [hc]
  exact items_cells 9998 h g hh hg w _ (fun i hi => by simpa using hi)
theorem all_cells {h g : List Int} (hh : h.length = 32) (hg : g.length = 32) : ((List.range 32).all fun i => h.getD i 0 == g.getD i 0) = decide (h = g) := by
  by_cases e : h = g
  · subst e
    simp
  · rw [decide_eq_false e, Bool.eq_false_iff]
    intro hx
    rw [List.all_eq_true] at hx
    apply e
    apply List.ext_getElem (by omega)
    intro i h1 h2
    have := hx i (by simp; omega)
    simpa [List.getD, h1, h2] using this
theorem equal_hashes {h g : List Int} (hh : h.length = 32) (hg : g.length = 32) (w : World) : (Op.equalIn 10000 60 (.agg (CELLS h).toArray) (.agg (CELLS g).toArray)).run Tryd.prog w = .ok (decide (h = g)) w := by
  rw [equal_cells h g hh hg, all_cells hh hg]
theorem neq_hashes {h g : List Int} (hh : h.length = 32) (hg : g.length = 32) (x y : Operand) (w : World) : (do eqGuard .neq 60 x y (.agg (CELLS h).toArray) (.agg (CELLS g).toArray); binOp .neq 60 (.agg (CELLS h).toArray) (.agg (CELLS g).toArray) : Sem Value).run Tryd.prog w = .ok (.bool (!decide (h = g))) w := by
  simp only [Sem.run_bind, run_eqGuard_agg (P := Tryd.prog) w .neq 60 x y _ _ (by kernel_rfl), Result.andThen_ok, run_neq_struct, equal_hashes hh hg]
end Go.Proofs.YtmkgldjocigffaaDoor
