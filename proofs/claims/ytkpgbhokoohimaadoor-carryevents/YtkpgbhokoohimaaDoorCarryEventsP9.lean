/- Texts of CarryEvents, one behind the other: CarryState, CarryEqual, PosForestMap, VerifyMap. -/
import Derived.Maps.OwnSet
import Derived.DeepKeys4
import Derived.Test.YtkpgbhokoohimaaDoorCarryEventsP6
import Derived.Test.YtkpgbhokoohimaaDoorCarryEventsP7
import Derived.Test.YtkpgbhokoohimaaDoorCarryEventsP8
/- What a carry is in memory; what a step of it leaves alone. -/
namespace Go.Proofs.YtkpgbhokoohimaaDoor
open Go.RowKit
set_option maxRecDepth 100000

/-- all blocks that were there are as they were, but those of A. -/
structure KEPT (A : Nat → Prop) (w w' : World) : Prop where
  os : w'.os = w.os
  tape : w'.tape = w.tape
  output : w'.output = w.output
  size : w.heap.size ≤ w'.heap.size
  block : ∀ k,k < w.heap.size → ¬ A k → w'.heap[k]? = w.heap[k]?
theorem KEPT.refl (A : Nat → Prop) (w : World) : KEPT A w w := ⟨rfl,rfl,rfl,Nat.le_refl _,fun _ _ _ => rfl⟩
theorem KEPT.trans {A A' : Nat → Prop} {w w' w'' : World} (h : KEPT A w w') (h' : KEPT A' w' w'') (hA : ∀ k,A' k → A k ∨ w.heap.size ≤ k) : KEPT A w w'' :=
  ⟨h'.os.trans h.os,h'.tape.trans h.tape,h'.output.trans h.output,Nat.le_trans h.size h'.size,fun k hk hn => (h'.block k (Nat.lt_of_lt_of_le hk h.size) (fun ha => (hA k ha).elim hn (fun h1 => by omega))).trans (h.block k hk hn)⟩
theorem KEPT.mono {A A' : Nat → Prop} {w w' : World} (h : KEPT A w w') (hA : ∀ k,A k → A' k) : KEPT A' w w' := ⟨h.os,h.tape,h.output,h.size,fun k hk hn => h.block k hk fun ha => hn (hA k ha)⟩
theorem KEPT.of_below {A : Nat → Prop} {w w' : World} (h : Below w.heap.size w w') : KEPT A w w' := ⟨h.os,h.tape,h.output,h.size,fun k hk _ => h.block k hk⟩
theorem KEPT.of_grown {A : Nat → Prop} {w w' : World} {r : Option Nat} (h : w.grownBy w' r) (hA : ∀ k,r = some k → A k) : KEPT A w w' := ⟨h.os,h.tape,h.output,h.size,fun k hk hn => h.block k hk fun e => hn (hA k e.symm)⟩
theorem KEPT.of_set {A : Nat → Prop} (w : World) (a : Addr) (v : Value) (h : A a.block) : KEPT A w (w.setCell a v) := by
  have hb := (Below.refl 0 w).setCell (p := a) (Nat.zero_le _) v
  refine ⟨hb.os,hb.tape,hb.output,hb.size,fun k _ hn => Below.heap_setCell w a v k (fun e => hn (by rw [e]; exact h))⟩
theorem KEPT.below {A : Nat → Prop} {w w' : World} {B : Nat} (h : KEPT A w w') (hA : ∀ k,A k → B ≤ k) (hB : B ≤ w.heap.size) : Below B w w' := ⟨h.os,h.tape,h.output,h.size,fun k hk => h.block k (by omega) (fun ha => by have := hA k ha; omega)⟩
theorem KEPT.has {A : Nat → Prop} {w w' : World} (h : KEPT A w w') {b : Nat} {C : Array Value} {t : TypeId} (hh : Has w b C t) (hb : ¬ A b) : Has w' b C t := (h.block b hh.lt hb).trans hh
theorem KEPT.own {A : Nat → Prop} {w w' : World} (h : KEPT A w w') {B s n : Nat} {t : TypeId} {v : Value} {xs : List Value} (ho : w.ownsRow B t s v n xs) (hb : ∀ k,v.ownBlock = some k → ¬ A k) : w'.ownsRow B t s v n xs := own_heap ho fun k e => h.block k (ho.lt k e).2 (hb k e)
/-- an event as a value. -/
def EVT (X : Nat) (leaf : List Int) (v : Value) : Array Value := (.int .u64 (X : Int) :: (CELLS leaf ++ [v])).toArray
/-- a carry's cells. -/
def CRR (d : Int) (S : Nat) (pv : Value) (leaf : List Int) (I : Nat) (lv : Value) : Array Value := (.int .i64 d :: .int .u64 (S : Int) :: pv :: (CELLS leaf ++ [.int .u64 (I : Int),lv])).toArray
theorem EVT_at {w : World} {b X : Nat} {leaf : List Int} {v : Value} (h : Has w b (EVT X leaf v) 27) (hl : leaf.length = 32) : w.cell? ⟨b,0,none⟩ = some (.int .u64 (X : Int)) ∧ w.rangeAt b 1 (CELLS leaf) ∧ w.cell? ⟨b,33,none⟩ = some v := by
  have h32 : (CELLS leaf).length = 32 := by simp [CELLS,hl]
  refine ⟨(h.cell 0).trans (by simp [EVT]),fun j u hu => ?_,(h.cell 33).trans ?_⟩
  · have hj : j < 32 := by have := (List.getElem?_eq_some_iff.1 hu).1; omega
    rw [h.cell (1 + j)]
    simp only [EVT,List.getElem?_toArray,Nat.add_comm 1 j,List.getElem?_cons_succ]
    rw [List.getElem?_append_left (by omega)]
    exact hu
  · simp only [EVT,List.getElem?_toArray]
    rw [List.getElem?_cons_succ,List.getElem?_append_right (by omega),h32]
    rfl
theorem CRR_at {w : World} {b S I : Nat} {d : Int} {leaf : List Int} {pv lv : Value} (h : Has w b (CRR d S pv leaf I lv) 71) (hl : leaf.length = 32) : w.cell? ⟨b,0,none⟩ = some (.int .i64 d) ∧ w.cell? ⟨b,1,none⟩ = some (.int .u64 (S : Int)) ∧ w.cell? ⟨b,2,none⟩ = some pv ∧ w.rangeAt b 3 (CELLS leaf) ∧ w.cell? ⟨b,35,none⟩ = some (.int .u64 (I : Int)) ∧ w.cell? ⟨b,36,none⟩ = some lv := by
  have h32 : (CELLS leaf).length = 32 := by simp [CELLS,hl]
  refine ⟨(h.cell 0).trans (by simp [CRR]),(h.cell 1).trans (by simp [CRR]),(h.cell 2).trans (by simp [CRR]),fun j u hu => ?_,(h.cell 35).trans ?_,(h.cell 36).trans ?_⟩
  · have hj : j < 32 := by have := (List.getElem?_eq_some_iff.1 hu).1; omega
    rw [h.cell (3 + j)]
    simp only [CRR,List.getElem?_toArray,Nat.add_comm 3 j,List.getElem?_cons_succ]
    rw [List.getElem?_append_left (by omega)]
    exact hu
  · simp only [CRR,List.getElem?_toArray]
    rw [List.getElem?_cons_succ,List.getElem?_cons_succ,List.getElem?_cons_succ,List.getElem?_append_right (by omega),h32]
    rfl
  · simp only [CRR,List.getElem?_toArray]
    rw [List.getElem?_cons_succ,List.getElem?_cons_succ,List.getElem?_cons_succ,List.getElem?_append_right (by omega),h32]
    rfl
theorem CRR_set1 (d : Int) (S S' : Nat) (pv : Value) (leaf : List Int) (I : Nat) (lv : Value) : (CRR d S pv leaf I lv).setIfInBounds 1 (.int .u64 (S' : Int)) = CRR d S' pv leaf I lv := by simp [CRR]
theorem CRR_set2 (d : Int) (S : Nat) (pv pv' : Value) (leaf : List Int) (I : Nat) (lv : Value) : (CRR d S pv leaf I lv).setIfInBounds 2 pv' = CRR d S pv' leaf I lv := by simp [CRR]
theorem CRR_set36 (d : Int) (S : Nat) (pv lv lv' : Value) (leaf : List Int) (hl : leaf.length = 32) (I : Nat) : (CRR d S pv leaf I lv).setIfInBounds 36 lv' = CRR d S pv leaf I lv' := by
  have h32 : (CELLS leaf).length = 32 := by simp [CELLS,hl]
  simp only [CRR,List.setIfInBounds_toArray,List.set_cons_succ]
  rw [List.set_append_right _ _ (by omega),h32]
  rfl
/-- a carry lies there: its cells, its peaks, its path, each in a block of its own. -/
structure CARRY (w : World) (B b : Nat) (d : Int) (S I : Nat) (leaf : List Int) (pv : Value) (np : Nat) (P : List Int) (lv : Value) (nl : Nat) (L : List Int) : Prop where
  has : Has w b (CRR d S pv leaf I lv) 71
  peaks : w.ownsRow B 24 32 pv np (CELLS P)
  path : w.ownsRow B 24 32 lv nl (CELLS L)
  at0 : B ≤ b
  ap1 : ∀ k,pv.ownBlock = some k → k ≠ b
  ap2 : ∀ k,lv.ownBlock = some k → k ≠ b
  ap3 : ∀ k,pv.ownBlock = some k → lv.ownBlock ≠ some k
  len : leaf.length = 32
/-- the blocks of a carry. -/
def CFT (b : Nat) (pv lv : Value) (k : Nat) : Prop := k = b ∨ pv.ownBlock = some k ∨ lv.ownBlock = some k
theorem CARRY.keep {A : Nat → Prop} {w w' : World} {B b : Nat} {d : Int} {S I : Nat} {leaf : List Int} {pv : Value} {np : Nat} {P : List Int} {lv : Value} {nl : Nat} {L : List Int} (h : CARRY w B b d S I leaf pv np P lv nl L) (hk : KEPT A w w') (hA : ∀ k,CFT b pv lv k → ¬ A k) : CARRY w' B b d S I leaf pv np P lv nl L :=
  ⟨hk.has h.has (hA b (.inl rfl)),hk.own h.peaks fun k e => hA k (.inr (.inl e)),hk.own h.path fun k e => hA k (.inr (.inr e)),h.at0,h.ap1,h.ap2,h.ap3,h.len⟩
theorem CARRY.below {w w' : World} {B b : Nat} {d : Int} {S I : Nat} {leaf : List Int} {pv : Value} {np : Nat} {P : List Int} {lv : Value} {nl : Nat} {L : List Int} (h : CARRY w B b d S I leaf pv np P lv nl L) (hb : Below w.heap.size w w') : CARRY w' B b d S I leaf pv np P lv nl L := h.keep (A := fun _ => False) (KEPT.of_below hb) fun _ _ h => h
end Go.Proofs.YtkpgbhokoohimaaDoor

/- slices.Equal of hashes. -/
namespace Go.Proofs.YtkpgbhokoohimaaDoor
open Go.RowKit
set_option maxRecDepth 100000

def EQOPS : Array Oper := #[{ dst := some 16,op := Op.move (Operand.tmp 0),type := 25,pos := "slices.go:25",after := #[],guard := none },{ dst := some 17,op := Op.move (Operand.tmp 5),type := 3,pos := "slices.go:25",after := #[],guard := none },{ dst := some 18,op := Op.indexAddr 25 (Operand.tmp 16) (Operand.tmp 17),type := 0,pos := "slices.go:25",after := #[{ on := 0,ground := Ground.data },{ on := 1,ground := Ground.data }],guard := none },{ dst := some 19,op := Op.load 24 (Operand.tmp 18),type := 24,pos := "slices.go:25",after := #[{ on := 2,ground := Ground.data }],guard := none },{ dst := some 20,op := Op.move (Operand.tmp 1),type := 25,pos := "slices.go:25",after := #[],guard := none },{ dst := some 21,op := Op.move (Operand.tmp 5),type := 3,pos := "slices.go:25",after := #[],guard := none },{ dst := some 22,op := Op.indexAddr 25 (Operand.tmp 20) (Operand.tmp 21),type := 0,pos := "slices.go:25",after := #[{ on := 4,ground := Ground.data },{ on := 5,ground := Ground.data }],guard := none },{ dst := some 23,op := Op.load 24 (Operand.tmp 22),type := 24,pos := "slices.go:25",after := #[{ on := 6,ground := Ground.data }],guard := none },{ dst := some 24,op := Op.binOp BinOp.neq 24 (Operand.tmp 19) (Operand.tmp 23) 24,type := 4,pos := "slices.go:25",after := #[{ on := 3,ground := Ground.data },{ on := 7,ground := Ground.data }],guard := none }]
set_option maxHeartbeats 2000000 in
theorem equal_region {Q : Exit → Act → World → Prop} (u2 u3 u4 u6 u7 u8 u9 u10 u11 u12 u13 u14 u15 u16 u17 u18 u19 u20 u21 u22 u23 u24 u25 : Value) (W : World) (w0 : World) (ba oa n ca bb ob m cb i : Nat) (H K : List Int) (hH : H.length = 32) (hK : K.length = 32) (b1 : (i : Int) < (n : Int)) (b2 : (i : Int) < (m : Int)) (hS : (fun W : World => W.rangeAt ba (oa + i * 32) (CELLS H) ∧ W.rangeAt bb (ob + i * 32) (CELLS K) ∧ Below w0.heap.size w0 W) W) (hQ : ∀ c (a : Act) (t : Tmp) (v : Value) w,Q (.panic c) (a.put (some t) v) w → Q (.panic c) a w)
    (h : ∀ w,(fun W : World => W.rangeAt ba (oa + i * 32) (CELLS H) ∧ W.rangeAt bb (ob + i * 32) (CELLS K) ∧ Below w0.heap.size w0 W) w → Q .normal { tmps := #[.slice (some ⟨ba,oa,none⟩) n ca,.slice (some ⟨bb,ob,none⟩) m cb,u2,u3,u4,.int .i64 (i : Int),u6,u7,u8,u9,u10,u11,u12,u13,u14,u15,.slice (some ⟨ba,oa,none⟩) n ca,.int .i64 (i : Int),.pointer (some ⟨ba,oa + i * 32,none⟩),.agg (CELLS H).toArray,.slice (some ⟨bb,ob,none⟩) m cb,.int .i64 (i : Int),.pointer (some ⟨bb,ob + i * 32,none⟩),.agg (CELLS K).toArray,.bool (!decide (H = K)),u25],defers := [] } w) : (Code.region 6 EQOPS true).wp Tryd.prog Q { tmps := #[.slice (some ⟨ba,oa,none⟩) n ca,.slice (some ⟨bb,ob,none⟩) m cb,u2,u3,u4,.int .i64 (i : Int),u6,u7,u8,u9,u10,u11,u12,u13,u14,u15,u16,u17,u18,u19,u20,u21,u22,u23,u24,u25],defers := [] } W := by
  have hs0 : (fun W : World => W.rangeAt ba (oa + i * 32) (CELLS H) ∧ W.rangeAt bb (ob + i * 32) (CELLS K) ∧ Below w0.heap.size w0 W) W.drew := ⟨hS.1,hS.2.1,hS.2.2.drew⟩
  have k0 : ∀ w,(fun W : World => W.rangeAt ba (oa + i * 32) (CELLS H) ∧ W.rangeAt bb (ob + i * 32) (CELLS K) ∧ Below w0.heap.size w0 W) w → wpAnyH Tryd.prog .any EQOPS Q (fun W : World => W.rangeAt ba (oa + i * 32) (CELLS H) ∧ W.rangeAt bb (ob + i * 32) (CELLS K) ∧ Below w0.heap.size w0 W) 9 #[false,false,false,false,false,false,false,false,false] { tmps := #[.slice (some ⟨ba,oa,none⟩) n ca,.slice (some ⟨bb,ob,none⟩) m cb,u2,u3,u4,.int .i64 (i : Int),u6,u7,u8,u9,u10,u11,u12,u13,u14,u15,u16,u17,u18,u19,u20,u21,u22,u23,u24,u25],defers := [] } w := fun w hw => by
    have hww : (fun W : World => W.rangeAt ba (oa + i * 32) (CELLS H) ∧ W.rangeAt bb (ob + i * 32) (CELLS K) ∧ Below w0.heap.size w0 W) w := hw
    have last : wpAnyH Tryd.prog .any EQOPS Q (fun W : World => W.rangeAt ba (oa + i * 32) (CELLS H) ∧ W.rangeAt bb (ob + i * 32) (CELLS K) ∧ Below w0.heap.size w0 W) 0 #[true,true,true,true,true,true,true,true,true] { tmps := #[.slice (some ⟨ba,oa,none⟩) n ca,.slice (some ⟨bb,ob,none⟩) m cb,u2,u3,u4,.int .i64 (i : Int),u6,u7,u8,u9,u10,u11,u12,u13,u14,u15,.slice (some ⟨ba,oa,none⟩) n ca,.int .i64 (i : Int),.pointer (some ⟨ba,oa + i * 32,none⟩),.agg (CELLS H).toArray,.slice (some ⟨bb,ob,none⟩) m cb,.int .i64 (i : Int),.pointer (some ⟨bb,ob + i * 32,none⟩),.agg (CELLS K).toArray,.bool (!decide (H = K)),u25],defers := [] } w := wpAnyH_done (by kernel_rfl) (h w hw) _
    have t8 : wpAnyH Tryd.prog .any EQOPS Q (fun W : World => W.rangeAt ba (oa + i * 32) (CELLS H) ∧ W.rangeAt bb (ob + i * 32) (CELLS K) ∧ Below w0.heap.size w0 W) 1 #[true,true,true,true,true,true,true,true,false] { tmps := #[.slice (some ⟨ba,oa,none⟩) n ca,.slice (some ⟨bb,ob,none⟩) m cb,u2,u3,u4,.int .i64 (i : Int),u6,u7,u8,u9,u10,u11,u12,u13,u14,u15,.slice (some ⟨ba,oa,none⟩) n ca,.int .i64 (i : Int),.pointer (some ⟨ba,oa + i * 32,none⟩),.agg (CELLS H).toArray,.slice (some ⟨bb,ob,none⟩) m cb,.int .i64 (i : Int),.pointer (some ⟨bb,ob + i * 32,none⟩),.agg (CELLS K).toArray,u24,u25],defers := [] } w :=
      wpAnyH_take (i := 8) (oi := { dst := some 24,op := Op.binOp BinOp.neq 24 (Operand.tmp 19) (Operand.tmp 23) 24,type := 4,pos := "slices.go:25",after := #[{ on := 3,ground := Ground.data },{ on := 7,ground := Ground.data }],guard := none }) (v := .bool (!decide (H = K))) rfl (by kernel_rfl) (by kernel_rfl) (by kernel_rfl) (fun _ _ _ h => hQ _ _ _ _ _ h) (Yields.yieldsIf (Or.inl ⟨by rfl,fun W => run_value (neq_hashes hH hK _ _ W)⟩)) hww last
    have t7 : wpAnyH Tryd.prog .any EQOPS Q (fun W : World => W.rangeAt ba (oa + i * 32) (CELLS H) ∧ W.rangeAt bb (ob + i * 32) (CELLS K) ∧ Below w0.heap.size w0 W) 2 #[true,true,true,true,true,true,true,false,false] { tmps := #[.slice (some ⟨ba,oa,none⟩) n ca,.slice (some ⟨bb,ob,none⟩) m cb,u2,u3,u4,.int .i64 (i : Int),u6,u7,u8,u9,u10,u11,u12,u13,u14,u15,.slice (some ⟨ba,oa,none⟩) n ca,.int .i64 (i : Int),.pointer (some ⟨ba,oa + i * 32,none⟩),.agg (CELLS H).toArray,.slice (some ⟨bb,ob,none⟩) m cb,.int .i64 (i : Int),.pointer (some ⟨bb,ob + i * 32,none⟩),u23,u24,u25],defers := [] } w :=
      wpAnyH_take (i := 7) (oi := { dst := some 23,op := Op.load 24 (Operand.tmp 22),type := 24,pos := "slices.go:25",after := #[{ on := 6,ground := Ground.data }],guard := none }) (v := .agg (CELLS K).toArray) rfl (by kernel_rfl) (by kernel_rfl) (by kernel_rfl) (fun _ _ _ h => hQ _ _ _ _ _ h) (yieldsIf_load_mid (by rfl) 24 (.tmp 22) rfl bb (ob + i * 32) rfl (CELLS K) _ (fun w h => h.2.1) Tryd.underlying24 rfl (info_cells hK)) hww t8
    have t6 : wpAnyH Tryd.prog .any EQOPS Q (fun W : World => W.rangeAt ba (oa + i * 32) (CELLS H) ∧ W.rangeAt bb (ob + i * 32) (CELLS K) ∧ Below w0.heap.size w0 W) 3 #[true,true,true,true,true,true,false,false,false] { tmps := #[.slice (some ⟨ba,oa,none⟩) n ca,.slice (some ⟨bb,ob,none⟩) m cb,u2,u3,u4,.int .i64 (i : Int),u6,u7,u8,u9,u10,u11,u12,u13,u14,u15,.slice (some ⟨ba,oa,none⟩) n ca,.int .i64 (i : Int),.pointer (some ⟨ba,oa + i * 32,none⟩),.agg (CELLS H).toArray,.slice (some ⟨bb,ob,none⟩) m cb,.int .i64 (i : Int),u22,u23,u24,u25],defers := [] } w :=
      wpAnyH_take (i := 6) (oi := { dst := some 22,op := Op.indexAddr 25 (Operand.tmp 20) (Operand.tmp 21),type := 0,pos := "slices.go:25",after := #[{ on := 4,ground := Ground.data },{ on := 5,ground := Ground.data }],guard := none }) (v := .pointer (some ⟨bb,ob + i * 32,none⟩)) rfl (by kernel_rfl) (by kernel_rfl) (by kernel_rfl) (fun _ _ _ h => hQ _ _ _ _ _ h) (Yields.yieldsIf (Or.inl ⟨by rfl,fun W => by go_simp⟩)) hww t7
    have t5 : wpAnyH Tryd.prog .any EQOPS Q (fun W : World => W.rangeAt ba (oa + i * 32) (CELLS H) ∧ W.rangeAt bb (ob + i * 32) (CELLS K) ∧ Below w0.heap.size w0 W) 4 #[true,true,true,true,true,false,false,false,false] { tmps := #[.slice (some ⟨ba,oa,none⟩) n ca,.slice (some ⟨bb,ob,none⟩) m cb,u2,u3,u4,.int .i64 (i : Int),u6,u7,u8,u9,u10,u11,u12,u13,u14,u15,.slice (some ⟨ba,oa,none⟩) n ca,.int .i64 (i : Int),.pointer (some ⟨ba,oa + i * 32,none⟩),.agg (CELLS H).toArray,.slice (some ⟨bb,ob,none⟩) m cb,u21,u22,u23,u24,u25],defers := [] } w :=
      wpAnyH_take (i := 5) (oi := { dst := some 21,op := Op.move (Operand.tmp 5),type := 3,pos := "slices.go:25",after := #[],guard := none }) (v := .int .i64 (i : Int)) rfl (by kernel_rfl) (by kernel_rfl) (by kernel_rfl) (fun _ _ _ h => hQ _ _ _ _ _ h) (Yields.yieldsIf (Or.inl ⟨by rfl,fun W => by go_simp⟩)) hww t6
    have t4 : wpAnyH Tryd.prog .any EQOPS Q (fun W : World => W.rangeAt ba (oa + i * 32) (CELLS H) ∧ W.rangeAt bb (ob + i * 32) (CELLS K) ∧ Below w0.heap.size w0 W) 5 #[true,true,true,true,false,false,false,false,false] { tmps := #[.slice (some ⟨ba,oa,none⟩) n ca,.slice (some ⟨bb,ob,none⟩) m cb,u2,u3,u4,.int .i64 (i : Int),u6,u7,u8,u9,u10,u11,u12,u13,u14,u15,.slice (some ⟨ba,oa,none⟩) n ca,.int .i64 (i : Int),.pointer (some ⟨ba,oa + i * 32,none⟩),.agg (CELLS H).toArray,u20,u21,u22,u23,u24,u25],defers := [] } w :=
      wpAnyH_take (i := 4) (oi := { dst := some 20,op := Op.move (Operand.tmp 1),type := 25,pos := "slices.go:25",after := #[],guard := none }) (v := .slice (some ⟨bb,ob,none⟩) m cb) rfl (by kernel_rfl) (by kernel_rfl) (by kernel_rfl) (fun _ _ _ h => hQ _ _ _ _ _ h) (Yields.yieldsIf (Or.inl ⟨by rfl,fun W => by go_simp⟩)) hww t5
    have t3 : wpAnyH Tryd.prog .any EQOPS Q (fun W : World => W.rangeAt ba (oa + i * 32) (CELLS H) ∧ W.rangeAt bb (ob + i * 32) (CELLS K) ∧ Below w0.heap.size w0 W) 6 #[true,true,true,false,false,false,false,false,false] { tmps := #[.slice (some ⟨ba,oa,none⟩) n ca,.slice (some ⟨bb,ob,none⟩) m cb,u2,u3,u4,.int .i64 (i : Int),u6,u7,u8,u9,u10,u11,u12,u13,u14,u15,.slice (some ⟨ba,oa,none⟩) n ca,.int .i64 (i : Int),.pointer (some ⟨ba,oa + i * 32,none⟩),u19,u20,u21,u22,u23,u24,u25],defers := [] } w :=
      wpAnyH_take (i := 3) (oi := { dst := some 19,op := Op.load 24 (Operand.tmp 18),type := 24,pos := "slices.go:25",after := #[{ on := 2,ground := Ground.data }],guard := none }) (v := .agg (CELLS H).toArray) rfl (by kernel_rfl) (by kernel_rfl) (by kernel_rfl) (fun _ _ _ h => hQ _ _ _ _ _ h) (yieldsIf_load_mid (by rfl) 24 (.tmp 18) rfl ba (oa + i * 32) rfl (CELLS H) _ (fun w h => h.1) Tryd.underlying24 rfl (info_cells hH)) hww t4
    have t2 : wpAnyH Tryd.prog .any EQOPS Q (fun W : World => W.rangeAt ba (oa + i * 32) (CELLS H) ∧ W.rangeAt bb (ob + i * 32) (CELLS K) ∧ Below w0.heap.size w0 W) 7 #[true,true,false,false,false,false,false,false,false] { tmps := #[.slice (some ⟨ba,oa,none⟩) n ca,.slice (some ⟨bb,ob,none⟩) m cb,u2,u3,u4,.int .i64 (i : Int),u6,u7,u8,u9,u10,u11,u12,u13,u14,u15,.slice (some ⟨ba,oa,none⟩) n ca,.int .i64 (i : Int),u18,u19,u20,u21,u22,u23,u24,u25],defers := [] } w :=
      wpAnyH_take (i := 2) (oi := { dst := some 18,op := Op.indexAddr 25 (Operand.tmp 16) (Operand.tmp 17),type := 0,pos := "slices.go:25",after := #[{ on := 0,ground := Ground.data },{ on := 1,ground := Ground.data }],guard := none }) (v := .pointer (some ⟨ba,oa + i * 32,none⟩)) rfl (by kernel_rfl) (by kernel_rfl) (by kernel_rfl) (fun _ _ _ h => hQ _ _ _ _ _ h) (Yields.yieldsIf (Or.inl ⟨by rfl,fun W => by go_simp⟩)) hww t3
    have t1 : wpAnyH Tryd.prog .any EQOPS Q (fun W : World => W.rangeAt ba (oa + i * 32) (CELLS H) ∧ W.rangeAt bb (ob + i * 32) (CELLS K) ∧ Below w0.heap.size w0 W) 8 #[true,false,false,false,false,false,false,false,false] { tmps := #[.slice (some ⟨ba,oa,none⟩) n ca,.slice (some ⟨bb,ob,none⟩) m cb,u2,u3,u4,.int .i64 (i : Int),u6,u7,u8,u9,u10,u11,u12,u13,u14,u15,.slice (some ⟨ba,oa,none⟩) n ca,u17,u18,u19,u20,u21,u22,u23,u24,u25],defers := [] } w :=
      wpAnyH_take (i := 1) (oi := { dst := some 17,op := Op.move (Operand.tmp 5),type := 3,pos := "slices.go:25",after := #[],guard := none }) (v := .int .i64 (i : Int)) rfl (by kernel_rfl) (by kernel_rfl) (by kernel_rfl) (fun _ _ _ h => hQ _ _ _ _ _ h) (Yields.yieldsIf (Or.inl ⟨by rfl,fun W => by go_simp⟩)) hww t2
    have t0 : wpAnyH Tryd.prog .any EQOPS Q (fun W : World => W.rangeAt ba (oa + i * 32) (CELLS H) ∧ W.rangeAt bb (ob + i * 32) (CELLS K) ∧ Below w0.heap.size w0 W) 9 #[false,false,false,false,false,false,false,false,false] { tmps := #[.slice (some ⟨ba,oa,none⟩) n ca,.slice (some ⟨bb,ob,none⟩) m cb,u2,u3,u4,.int .i64 (i : Int),u6,u7,u8,u9,u10,u11,u12,u13,u14,u15,u16,u17,u18,u19,u20,u21,u22,u23,u24,u25],defers := [] } w :=
      wpAnyH_take (i := 0) (oi := { dst := some 16,op := Op.move (Operand.tmp 0),type := 25,pos := "slices.go:25",after := #[],guard := none }) (v := .slice (some ⟨ba,oa,none⟩) n ca) rfl (by kernel_rfl) (by kernel_rfl) (by kernel_rfl) (fun _ _ _ h => hQ _ _ _ _ _ h) (Yields.yieldsIf (Or.inl ⟨by rfl,fun W => by go_simp⟩)) hww t1
    exact t0
  exact wp_region_held_drew (S := (fun W : World => W.rangeAt ba (oa + i * 32) (CELLS H) ∧ W.rangeAt bb (ob + i * 32) (CELLS K) ∧ Below w0.heap.size w0 W)) (by kernel_rfl) hs0 (fun _ => k0 _ hs0)
set_option maxHeartbeats 1000000 in
theorem equalhashes_ok (a b : Option Addr) (n m ca cb : Nat) (l k : List Int) (w : World) (hA : Flat w a n l) (hB : Flat w b m k) (hn : n ≤ 1000000) :
    Calls Tryd.prog 44 #[.slice a n ca,.slice b m cb] w fun e w' => e = .returned (.bool (decide (l = k))) ∧ Below w.heap.size w w' := by
  by_cases hnm : n = m
  · subst hnm
    rcases Nat.eq_zero_or_pos n with h | h
    · subst h
      have hd : decide (l = k) = true := by
        rw [List.eq_nil_of_length_eq_zero hA.1,List.eq_nil_of_length_eq_zero hB.1]
        rfl
      rw [hd]
      clear hA hB hd
      go_enter Tryd.func44,Tryd.ntmps44
      go_wp2
      refine wp_loop_rounds 1 ?_
      rw [rounds_succ]
      go_wp2
      go_ret
      exact ⟨rfl,Below.refl _ _⟩
    · obtain ⟨ba,oa,rfl,la,hca⟩ := hA.2.1 h
      obtain ⟨bb,ob,rfl,lb,hcb⟩ := hB.2.1 h
      have HC : Aside (Flat w (some ⟨ba,oa,none⟩) n l ∧ Flat w (some ⟨bb,ob,none⟩) n k ∧ n ≤ 1000000) := ⟨hA,hB,hn⟩
      clear hA hB hca hcb la lb hn
      obtain ⟨D,hD⟩ : ∃ D,D = decide (l = k) := ⟨_,rfl⟩
      rw [← hD]
      have HD : Aside (D = decide (l = k)) := hD
      clear hD
      go_enter Tryd.func44,Tryd.ntmps44
      go_wp2
      go_loopg [13] n (fun g s13 wx => ∃ i : Nat,s13 = .int .i64 i ∧ Aside (i + g = n ∧ Below w.heap.size w wx ∧ ∀ j,j < i → HSH l j = HSH k j))
      case atStart => exact ⟨0,rfl,by omega,Below.refl _ _,fun j hj => by omega⟩
      case round =>
        obtain ⟨i,rfl,A⟩ := hrel
        cases gk with
        | zero =>
          obtain rfl : i = n := by have := A.out.1; omega
          have hlt : ¬ (i : Int) < (i : Int) := by omega
          have hd : Aside (D = true) := by
            show D = true
            rw [HD.out,decide_eq_true_iff]
            exact hsh_ext HC.out.1.1 HC.out.2.1.1 A.out.2.2
          clear HD HC
          go_wp2
          go_ret
          exact ⟨by rw [hd.out]; rfl,A.out.2.1⟩
        | succ g =>
          obtain ⟨hig,hbel,hbef⟩ := A.out
          have hlt : (i : Int) < (n : Int) := by omega
          have r1 := (HC.out.1.below hbel).at (show i < n by omega)
          have r2 := (HC.out.2.1.below hbel).at (show i < n by omega)
          have l1 := HSH_length HC.out.1.1 (show i < n by omega)
          have l2 := HSH_length HC.out.2.1.1 (show i < n by omega)
          have E1 : Aside (wrap64 ((i : Int) + 1) = ((i + 1 : Nat) : Int)) := by have := HC.out.2.2; show wrap64 ((i : Int) + 1) = ((i + 1 : Nat) : Int); unfold wrap64; omega
          by_cases he : HSH l i = HSH k i
          · have B : Aside (i + 1 + g = n ∧ ∀ j,j < i + 1 → HSH l j = HSH k j) := ⟨by omega,fun j hj => by
              by_cases e : j = i
              · rw [e]; exact he
              · exact hbef j (by omega)⟩
            have hdf : (!decide (HSH l i = HSH k i)) = false := by rw [he]; simp
            have Z : Aside (Below w.heap.size w wr) := hbel
            clear he hig hbel hbef A HD HC
            generalize HSH l i = H at *
            generalize HSH k i = K at *
            go_upto_region 6 with fail
            refine equal_region _ _ _ _ _ _ _ _ _ _ _ _ _ _ _ _ _ _ _ _ _ _ _ _ w ba oa n ca bb ob n cb i H K l1 l2 hlt hlt ⟨r1,r2,Z.out⟩ (fun _ _ _ _ _ h => h) ?_
            rintro w1 ⟨_,_,q3⟩
            rw [hdf]
            clear r1 r2 l1 l2 hdf
            have Z2 : Aside (Below w.heap.size w w1) := q3
            clear q3 Z
            have e1 := E1.out
            go_wp2
            go_roundg g
            case measure => exact Nat.lt_succ_self _
            case rel => exact ⟨i + 1,by first | rfl | (rw [E1.out]),B.out.1,Z2.out,B.out.2⟩
          · have hd : Aside (D = false) := by
              show D = false
              rw [HD.out,decide_eq_false_iff_not]
              intro e
              rw [e] at he
              exact he rfl
            have hdf : (!decide (HSH l i = HSH k i)) = true := by simp [he]
            have Z : Aside (Below w.heap.size w wr) := hbel
            clear he hig hbel hbef A HD HC E1
            generalize HSH l i = H at *
            generalize HSH k i = K at *
            go_upto_region 6 with fail
            refine equal_region _ _ _ _ _ _ _ _ _ _ _ _ _ _ _ _ _ _ _ _ _ _ _ _ w ba oa n ca bb ob n cb i H K l1 l2 hlt hlt ⟨r1,r2,Z.out⟩ (fun _ _ _ _ _ h => h) ?_
            rintro w1 ⟨_,_,q3⟩
            rw [hdf]
            clear r1 r2 l1 l2 hdf
            have Z2 : Aside (Below w.heap.size w w1) := q3
            clear q3 Z
            go_wp2
            go_ret
            exact ⟨by rw [hd.out]; rfl,Z2.out⟩
  · have hne : ¬ (n : Int) = (m : Int) := by omega
    have hd : decide (l = k) = false := by
      rw [decide_eq_false_iff_not]
      intro e
      rw [e] at hA
      have := hA.1.symm.trans hB.1
      omega
    rw [hd]
    clear hA hB hd
    go_enter Tryd.func44,Tryd.ntmps44
    go_wp2
    go_ret
    exact ⟨rfl,Below.refl _ _⟩
end Go.Proofs.YtkpgbhokoohimaaDoor

/- A map from spots to places, made by the call. -/
namespace Go.Proofs.YtkpgbhokoohimaaDoor
open Go.RowKit Go.Maps
set_option maxRecDepth 100000

theorem laidOutP : laidOutB Tryd.prog = true := by kernel_rfl
theorem rowSpot : (63 : TypeId) < Tryd.prog.types.size := of_decide_eq_true (by kernel_rfl)
theorem wideSpot : (match Tryd.prog.underlying 63 with | some (.array _ _) | some (.struct _) => true | _ => false) = true := by rw [Tryd.underlying63]
theorem law : Keyed Tryd.prog 63 := Keyed.of_law (deep_law_laid laidOutP (m := 2) (by omega) rowSpot (by kernel_rfl) wideSpot)
/-- what a spot reads as, as a key. -/
def KL (h k : Nat) : Lit := .string (keyBytes [.int .u8 (h : Int),.int .u64 (k : Int)])
theorem key_ok {h k : Nat} (hh : h < 256) (hk : k < 2 ^ 64) : keyOf Tryd.prog 63 (SPOT h k) = some (KL h k) := by
  have w0 : (Lit.int .u8 (h : Int)).wf = true := WalkArith.wf_u8 (by omega)
  have w1 : (Lit.int .u64 (k : Int)).wf = true := WalkArith.wf_u64 (by omega)
  have c3 : Tryd.prog.cellsOf 63 = 2 := by kernel_rfl
  have c1 : Tryd.prog.cellsOf 5 = 1 := by kernel_rfl
  have c2 : Tryd.prog.cellsOf 22 = 1 := by kernel_rfl
  have ht : Tryd.prog.keyType 63 = true := by kernel_rfl
  have hf : (SPOT h k).formed Tryd.prog 63 = true := by simp [Value.formed,Tryd.underlying63,c3]
  obtain ⟨m,hm⟩ : ∃ m,Tryd.prog.types.size = m + 1 := ⟨Tryd.prog.types.size - 1,(Nat.succ_pred_eq_of_pos (Nat.lt_of_le_of_lt (Nat.zero_le _) rowSpot)).symm⟩
  unfold keyOf
  simp only [Tryd.underlying63,ht,hf,hm]
  simp [Program.keyLits,Tryd.underlying63,Tryd.underlying5,Tryd.underlying22,c1,c2,c3,Value.cells,w0,w1,KL]
theorem KL_inj {h k h' k' : Nat} (hh : h < 256) (hk : k < 2 ^ 64) (hh' : h' < 256) (hk' : k' < 2 ^ 64) (e : KL h k = KL h' k') : h = h' ∧ k = k' := by
  have h1 := key_ok hh hk
  have h2 := key_ok hh' hk'
  rw [← e] at h2
  have := law.inj h1 h2
  simp at this
  omega
/-- a number as a datum. -/
abbrev U64 (n : Nat) : DataW Unit := .lit (.int .u64 (n : Int))
/-- the map holds just the nodes ahead of m, each with its place. -/
def MapOk (D : DataW Unit) (m : Nat) : Prop := ∀ h k,h < 256 → k < 2 ^ 64 → (Maps.has D (KL h k) = true ↔ Node h k ∧ PLC h k < m) ∧ (Node h k → PLC h k < m → D.atKey (KL h k) (U64 0) = U64 (PLC h k))
theorem MapOk.none : MapOk (.map []) 0 := fun h k _ _ => ⟨⟨fun e => by simp [Maps.has] at e,fun e => by omega⟩,fun _ e => by omega⟩
theorem Node.small {h k : Nat} (a : Node h k) : h < 256 ∧ k < 2 ^ 64 := ⟨by have := a.1; omega,by have := a.index_lt; omega⟩
theorem MapOk.put {D : DataW Unit} {m h k : Nat} (hD : Maps.IsMap D) (hM : MapOk D m) (hN : Node h k) (hp : PLC h k = m) : MapOk (D.put (KL h k) (U64 m)) (m + 1) := by
  intro h' k' hh' hk'
  obtain ⟨hh,hk⟩ := hN.small
  have hkey : WideAt.IsKeyLit (KL h k) := law.key (key_ok hh hk)
  by_cases e : KL h' k' = KL h k
  · obtain ⟨rfl,rfl⟩ := KL_inj hh' hk' hh hk e
    exact ⟨⟨fun _ => ⟨hN,by omega⟩,fun _ => Maps.has_put_same hD hkey _⟩,fun _ _ => by rw [Maps.atKey_put_same hD hkey,hp]⟩
  · have hne : ∀ _ : Node h' k',PLC h' k' ≠ m := fun hN' e2 => e (by obtain ⟨rfl,rfl⟩ := hN'.one hN (by omega); rfl)
    rw [Maps.has_put_other e,Maps.atKey_put_other e]
    obtain ⟨a,b⟩ := hM h' k' hh' hk'
    refine ⟨⟨fun h => ?_,fun h => ?_⟩,fun h1 h2 => b h1 (by have := hne h1; omega)⟩
    · have := a.1 h
      exact ⟨this.1,by omega⟩
    · exact a.2 ⟨h.1,by have := hne h.1; omega⟩
/-- block b is such a map. -/
def Placed (w : World) (b m : Nat) : Prop := ∃ D : DataW Unit,w.ownsMap Tryd.prog 63 (plainElem Tryd.prog 22) b m D ∧ MapOk D m
theorem Placed.made (w : World) : Placed (w.alloc (.map #[] 0)) w.heap.size 0 := ⟨_,World.ownsMap_made w _ _ _,MapOk.none⟩
theorem Placed.kept {w w' : World} {b m : Nat} {row : Option Nat} (h : Placed w b m) (hg : w.grownBy w' row) (hne : some b ≠ row) : Placed w' b m := let ⟨D,h1,h2⟩ := h; ⟨D,h1.kept hg hne,h2⟩
theorem Placed.lt {w : World} {b m : Nat} (h : Placed w b m) : b < w.heap.size := let ⟨_,h1,_⟩ := h; h1.lt
theorem Placed.below {w w' : World} {b m : Nat} (h : Placed w b m) (hb : Below w.heap.size w w') : Placed w' b m := by
  have hlt := h.lt
  obtain ⟨D,⟨es,clock,h1,r⟩,h2⟩ := h
  exact ⟨D,⟨es,clock,(hb.block b hlt).trans h1,r⟩,h2⟩
theorem Placed.alloc {w : World} {b m : Nat} (h : Placed w b m) (o : Obj) : Placed (w.alloc o) b m := h.below ((Below.refl _ _).alloc (Nat.le_refl _) _)
theorem Placed.setCell {w : World} {b m : Nat} (h : Placed w b m) {a : Addr} (ha : b ≠ a.block) (u : Value) : Placed (w.setCell a u) b m := let ⟨D,h1,h2⟩ := h; ⟨D,h1.setCell ha u,h2⟩
end Go.Proofs.YtkpgbhokoohimaaDoor

/- A map from spots to hashes, made by the call. -/
namespace Go.Proofs.YtkpgbhokoohimaaDoor
open Go.RowKit Go.Maps
set_option maxRecDepth 100000

/-- how a value reads: as itself. -/
def RV (v : Value) : Option (DataW Value × List MemPlace) := some (.held v, [])
theorem zeroHash (w : World) : (zeroValue 24).run Tryd.prog w = .ok (.agg ZARR) w := by kernel_rfl
/-- block b is a map that holds the hash M h k at each spot (h, k): zero where it has none. -/
def SMAP (w : World) (b n : Nat) (M : Nat → Nat → List Int) : Prop := ∃ D : DataW Value,w.ownsMap Tryd.prog 63 RV b n D ∧ ∀ h k,h < 256 → k < 2 ^ 64 → D.atKey (KL h k) (.held (.agg ZARR)) = .held (.agg (CELLS (M h k)).toArray)
/-- one more. -/
def MPUT (M : Nat → Nat → List Int) (h k : Nat) (x : List Int) : Nat → Nat → List Int := fun h' k' => if h' = h ∧ k' = k then x else M h' k'
theorem MPUT_at (M : Nat → Nat → List Int) (h k : Nat) (x : List Int) : MPUT M h k x h k = x := by simp [MPUT]
theorem MPUT_other (M : Nat → Nat → List Int) {h k h' k' : Nat} (x : List Int) (e : ¬ (h' = h ∧ k' = k)) : MPUT M h k x h' k' = M h' k' := by unfold MPUT; rw [if_neg e]
theorem SMAP.made (w : World) : SMAP (w.alloc (.map #[] 0)) w.heap.size 0 (fun _ _ => ZND) := ⟨_,World.ownsMap_made w _ _ _,fun h k _ _ => by simp [DataW.atKey]; rfl⟩
theorem SMAP.lt {w : World} {b n : Nat} {M : Nat → Nat → List Int} (h : SMAP w b n M) : b < w.heap.size := let ⟨_,h1,_⟩ := h; h1.lt
theorem SMAP.at {w w' : World} {b n : Nat} {M : Nat → Nat → List Int} (h : SMAP w b n M) (hb : w'.heap[b]? = w.heap[b]?) : SMAP w' b n M := by
  obtain ⟨D,⟨es,clock,h1,r⟩,h2⟩ := h
  exact ⟨D,⟨es,clock,hb.trans h1,r⟩,h2⟩
theorem SMAP.below {w w' : World} {b n : Nat} {M : Nat → Nat → List Int} (h : SMAP w b n M) (hb : Below w.heap.size w w') : SMAP w' b n M := h.at (hb.block b h.lt)
theorem SMAP.look {w : World} {b n : Nat} {M : Nat → Nat → List Int} (hM : SMAP w b n M) {h k : Nat} (hh : h < 256) (hk : k < 2 ^ 64) : (Instr.lookup 87 (.map (some b)) (SPOT h k) false).run Tryd.prog w = .ok (.agg (CELLS (M h k)).toArray) w := by
  obtain ⟨D,h1,h2⟩ := hM
  obtain ⟨v,ps,r1,r2⟩ := h1.lookup law Tryd.underlying87 (zeroHash w) (show RV (.agg ZARR) = some (.held (.agg ZARR), []) from rfl) (key_ok hh hk)
  rw [h2 h k hh hk] at r2
  have e : v = .agg (CELLS (M h k)).toArray := by
    simp only [RV,Option.some.injEq,Prod.mk.injEq,DataW.held.injEq] at r2
    exact r2.1
  rw [r1,e]
theorem SMAP.store {w : World} {b n : Nat} {M : Nat → Nat → List Int} (hM : SMAP w b n M) (hn : n ≤ 100000) {h k : Nat} (hh : h < 256) (hk : k < 2 ^ 64) (x : List Int) : ∃ w',(Instr.mapUpdate 87 (.map (some b)) (SPOT h k) (.agg (CELLS x).toArray)).run Tryd.prog w = .ok () w' ∧ SMAP w' b (n + 1) (MPUT M h k x) ∧ w.grownBy w' (some b) := by
  obtain ⟨D,h1,h2⟩ := hM
  obtain ⟨w',r1,r2,r3⟩ := h1.update law Tryd.underlying87 (by unfold maxLen; omega) (key_ok hh hk) (show RV (.agg (CELLS x).toArray) = some (.held (.agg (CELLS x).toArray), []) from rfl)
  refine ⟨w',r1,⟨_,r2,fun h' k' hh' hk' => ?_⟩,r3⟩
  have hkey : WideAt.IsKeyLit (KL h k) := law.key (key_ok hh hk)
  by_cases e : KL h' k' = KL h k
  · obtain ⟨rfl,rfl⟩ := KL_inj hh' hk' hh hk e
    rw [Maps.atKey_put_same h1.isMap hkey,MPUT_at]
  · rw [Maps.atKey_put_other e,MPUT_other _ _ (fun e2 => e (by rw [e2.1,e2.2])),h2 h' k' hh' hk']
end Go.Proofs.YtkpgbhokoohimaaDoor
