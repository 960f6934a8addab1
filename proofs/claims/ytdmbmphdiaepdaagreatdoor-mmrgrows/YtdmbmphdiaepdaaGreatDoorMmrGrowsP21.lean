/- Texts of MmrGrows, one behind the other: PosKin, PosPlace, PosOk, MmrCalls, MmrTree, RegionSteps, StepLists. -/
import Derived.Deep.QuietTactic
import Derived.BigQuiet
import Derived.Deep.RegionHeld3
import Derived.Test.YtdmbmphdiaepdaaGreatDoorProg
import Derived.WalkKit
import Derived.WalkLawsBesides
import Derived.Deep.CutRange
import Derived.Deep.MidRow
import Derived.Deep.AppendLies
import Derived.Test.YtdmbmphdiaepdaaGreatDoorMmrGrowsP8
import Derived.Test.YtdmbmphdiaepdaaGreatDoorMmrGrowsP18
import Derived.Test.YtdmbmphdiaepdaaGreatDoorMmrGrowsP20
/- What Index, Leaves, Parent, Sibling, Kids, Right, Under and Since answer. -/
namespace Go.Proofs.YtdmbmphdiaepdaaGreatDoor
open Go.RowKit

/-- Spot answers so at p. -/
def SpotAt (p : Int) (h k : Nat) (ok : Bool) : Prop := ∀ w, Calls Tryz.prog 51 #[.int .u64 p] w fun e w' => e = .returned (.tuple #[SPOT h k, .bool ok]) ∧ Below w.heap.size w w'
theorem SpotAt.node {h k : Nat} (hN : Node h k) : SpotAt ((PLC h k : Nat) : Int) h k true := fun w => spot_ok h k hN w
theorem SpotAt.out {p : Int} (hp : 9223372036854775807 ≤ p) : SpotAt p 0 0 false := fun w => spot_not p hp w

theorem sibling_raw (p : Int) (h k : Nat) (b : Bool) (r : Int) (w : World) (hh : ((h : Int) == 62) = false) (hm : wrap64 (h : Int) = (h : Int)) (ha : (bits .and .u64 (k : Int) 1 == 1) = b) (cs : SpotAt p h k true)
    (co : ∀ w, Calls Tryz.prog 52 #[.int .u64 p, .int .i64 (h : Int), .bool b] w fun e w' => e = .returned (.int .u64 r) ∧ w = w') :
    Calls Tryz.prog 33 #[.int .u64 p] w fun e w' => e = .returned (.tuple #[.int .u64 r, .bool true]) ∧ Below w.heap.size w w' := by
  have cs := cs w
  go_enter Tryz.func33, Tryz.ntmps33
  go_wp2_with fail
  refine cs.mono ?_
  rintro e w1 ⟨rfl, hb⟩
  clear cs
  have R : Aside (Below w.heap.size w w1) := hb
  clear hb
  go_wp2_with fail
  refine (co _).mono ?_
  rintro e w2 ⟨rfl, rfl⟩
  clear co
  go_wp2
  go_ret2
  exact ⟨rfl, R.out.alloc R.out.size _⟩
theorem sibling_top (p : Int) (k : Nat) (w : World) (cs : SpotAt p 62 k true) : Calls Tryz.prog 33 #[.int .u64 p] w fun e w' => e = .returned (.tuple #[.int .u64 0, .bool false]) ∧ Below w.heap.size w w' := by
  have cs := cs w
  go_enter Tryz.func33, Tryz.ntmps33
  go_wp2_with fail
  refine cs.mono ?_
  rintro e w1 ⟨rfl, hb⟩
  clear cs
  have R : Aside (Below w.heap.size w w1) := hb
  clear hb
  go_wp2
  go_ret2
  exact ⟨rfl, R.out.alloc R.out.size _⟩
theorem sibling_not (p : Int) (h k : Nat) (w : World) (cs : SpotAt p h k false) : Calls Tryz.prog 33 #[.int .u64 p] w fun e w' => e = .returned (.tuple #[.int .u64 0, .bool false]) ∧ Below w.heap.size w w' := by
  have cs := cs w
  go_enter Tryz.func33, Tryz.ntmps33
  go_wp2_with fail
  refine cs.mono ?_
  rintro e w1 ⟨rfl, hb⟩
  clear cs
  have R : Aside (Below w.heap.size w w1) := hb
  clear hb
  go_wp2
  go_ret2
  exact ⟨rfl, R.out.alloc R.out.size _⟩
theorem right_raw (p : Int) (h k : Nat) (b : Bool) (w : World) (ha : (bits .and .u64 (k : Int) 1 == 1) = b) (cs : SpotAt p h k true) :
    Calls Tryz.prog 32 #[.int .u64 p] w fun e w' => e = .returned (.bool b) ∧ Below w.heap.size w w' := by
  have cs := cs w
  go_enter Tryz.func32, Tryz.ntmps32
  go_wp2_with fail
  refine cs.mono ?_
  rintro e w1 ⟨rfl, hb⟩
  clear cs
  have R : Aside (Below w.heap.size w w1) := hb
  clear hb
  go_wp2
  go_ret
  exact ⟨rfl, R.out.alloc R.out.size _⟩
theorem right_not (p : Int) (h k : Nat) (w : World) (cs : SpotAt p h k false) : Calls Tryz.prog 32 #[.int .u64 p] w fun e w' => e = .returned (.bool false) ∧ Below w.heap.size w w' := by
  have cs := cs w
  go_enter Tryz.func32, Tryz.ntmps32
  go_wp2_with fail
  refine cs.mono ?_
  rintro e w1 ⟨rfl, hb⟩
  clear cs
  have R : Aside (Below w.heap.size w w1) := hb
  clear hb
  go_wp2
  go_ret
  exact ⟨rfl, R.out.alloc R.out.size _⟩
end Go.Proofs.YtdmbmphdiaepdaaGreatDoor

/- What Place answers. -/
namespace Go.Proofs.YtdmbmphdiaepdaaGreatDoor
open Go.RowKit

theorem quiet_eq {P : Program} {f : FuncId} {args : Array Value} {w : World} {n : Nat} {v : Value}
    (h : Calls P f args (w.drewN n) fun e w' => e = .returned v ∧ w.drewN n = w') : Calls P f args (w.drewN n) fun e w'' => e = .returned v ∧ ∃ m, w'' = w.drewN m :=
  h.mono fun _ _ ⟨he, hm⟩ => ⟨he, n, hm.symm⟩
end Go.Proofs.YtdmbmphdiaepdaaGreatDoor

/- What the functions of package pos answer, node by node. -/
namespace Go.Proofs.YtdmbmphdiaepdaaGreatDoor
open Go.RowKit

theorem and_one (k : Nat) (hk : k < 2 ^ 64) : bits .and .u64 (k : Int) 1 = ((k % 2 : Nat) : Int) := by
  have : bits .and .u64 (k : Int) ((1 : Nat) : Int) = ((k &&& 1 : Nat) : Int) := and_eq hk (by decide)
  rw [Nat.and_one_is_mod] at this
  exact this
theorem odd_eq (k : Nat) (hk : k < 2 ^ 64) : (bits .and .u64 (k : Int) 1 == 1) = decide (k % 2 = 1) := by
  rw [and_one k hk, Bool.eq_iff_iff]
  simp
  omega
theorem shift_eq (a h : Nat) (hh : h ≤ 62) (hl : a * 2 ^ h < 2 ^ 64) : IntKind.u64.wrap ((a : Int) * 2 ^ min h 64) = ((a * 2 ^ h : Nat) : Int) := by
  rw [show min h 64 = h by omega, mul_cast, Nat.mod_eq_of_lt hl]
theorem MASK_pow {h : Nat} (hh : h ≤ 62) : MASK (62 - (h : Int)) = 2 ^ (62 - h) - 1 := by
  unfold MASK
  rw [show min (62 - (h : Int)).toNat 64 = 62 - h by omega]
theorem PLC_parent (h k : Nat) : PLC (h + 1) (k / 2) = if k % 2 = 1 then PLC h k + 1 else PLC h k + TREE h + 1 := by
  split
  · have := PLC_up_right h (k / 2)
    rw [show 2 * (k / 2) + 1 = k by omega] at this
    exact this
  · have := PLC_up_left h (k / 2)
    rw [show 2 * (k / 2) = k by omega] at this
    have h3 := two_le h
    unfold TREE
    omega
theorem PLC_sibling (h k : Nat) : PLC h (SIB k) = if k % 2 = 1 then PLC h k - TREE h else PLC h k + TREE h := by
  unfold SIB
  split
  · have := PLC_sib h (k / 2)
    rw [show 2 * (k / 2) + 1 = k by omega, show 2 * (k / 2) = k - 1 by omega] at this
    omega
  · have := PLC_sib h (k / 2)
    rw [show 2 * (k / 2) = k by omega] at this
    omega
theorem tree_le_right {h k : Nat} (hk : k % 2 = 1) : TREE h ≤ PLC h k := by
  have := PLC_sib h (k / 2)
  rw [show 2 * (k / 2) + 1 = k by omega] at this
  omega
theorem beside_ok (h k : Nat) (hN : Node h k) (hh : h < 62) (w : World) : Calls Tryz.prog 52 #[.int .u64 ((PLC h k : Nat) : Int), .int .i64 (h : Int), .bool (decide (k % 2 = 1))] w fun e w' => e = .returned (.int .u64 ((PLC h (SIB k) : Nat) : Int)) ∧ w = w' := by
  have h0 := hN.lt
  have h1 := (hN.sib hh).lt
  have h2 := PLC_sibling h k
  by_cases hk : k % 2 = 1
  · rw [if_pos hk] at h2
    rw [decide_eq_true hk]
    have h3 := tree_le_right (h := h) hk
    have := beside_right (PLC h k : Nat) (h : Int) (TREE h : Nat) w (fun w => tree_ok h (by omega) w)
    rw [show IntKind.u64.wrap (((PLC h k : Nat) : Int) - ((TREE h : Nat) : Int)) = ((PLC h (SIB k) : Nat) : Int) by rw [wrapU]; omega] at this
    exact this
  · rw [if_neg hk] at h2
    rw [decide_eq_false hk]
    have := beside_left (PLC h k : Nat) (h : Int) (TREE h : Nat) w (fun w => tree_ok h (by omega) w)
    rw [show IntKind.u64.wrap (((PLC h k : Nat) : Int) + ((TREE h : Nat) : Int)) = ((PLC h (SIB k) : Nat) : Int) by rw [wrapU]; omega] at this
    exact this
theorem sibling_ok (h k : Nat) (hN : Node h k) (hh : h < 62) (w : World) : Calls Tryz.prog 33 #[.int .u64 ((PLC h k : Nat) : Int)] w fun e w' => e = .returned (.tuple #[.int .u64 ((PLC h (SIB k) : Nat) : Int), .bool true]) ∧ Below w.heap.size w w' :=
  sibling_raw _ h k (decide (k % 2 = 1)) _ w (by simp; omega) (by unfold wrap64; omega) (odd_eq k (by have := hN.index_lt; omega)) (.node hN) (fun w => beside_ok h k hN hh w)
theorem Node.kid {h k : Nat} (a : Node (h + 1) k) : Node h (2 * k) ∧ Node h (2 * k + 1) := by
  have h1 := a.1
  have h2 := a.2
  have e : 2 ^ (62 - h) = 2 ^ (62 - (h + 1)) * 2 := by rw [← Nat.pow_succ]; congr 1; omega
  exact ⟨⟨by omega, by rw [e]; omega⟩, ⟨by omega, by rw [e]; omega⟩⟩
theorem right_ok (h k : Nat) (hN : Node h k) (w : World) : Calls Tryz.prog 32 #[.int .u64 ((PLC h k : Nat) : Int)] w fun e w' => e = .returned (.bool (decide (k % 2 = 1))) ∧ Below w.heap.size w w' :=
  right_raw _ h k _ w (odd_eq k (by have := hN.index_lt; omega)) (.node hN)
end Go.Proofs.YtdmbmphdiaepdaaGreatDoor

/- A tree's small calls: left, Node, New. -/
namespace Go.Proofs.YtdmbmphdiaepdaaGreatDoor.HX
open Go.RowKit
set_option maxRecDepth 100000

theorem results_cell {fn : Func} {p : Tmp} {ty : TypeId} (h : fn.results = #[.cell p ty]) (tmps : Array Value) (w : World) (g : Nat) (t : TypeId) (cs : Array Value) (fr : Nat × Nat) (k : Nat) (el : TypeId)
    (hp : tmps.getD p undef = .pointer (some ⟨g, 0, none⟩)) (hg : w.heap[g]? = some (.cells cs t fr))
    (hu : Tryz.prog.underlying ty = some (.array k el)) (hi : (Tryz.prog.info? ty).map (·.size) = some cs.size) :
    (results fn tmps).run Tryz.prog w = .ok (.agg cs) w := by
  have hp' : tmps[p]?.getD undef = .pointer (some ⟨g, 0, none⟩) := by simpa using hp
  simp [results, h, hp', asAddr, run_loadVar_row w g t ty cs fr (.array k el) hg hu rfl hi]
set_option maxHeartbeats 1000000 in
theorem left_ok {w : World} {B g log len alive N : Nat} {C : CHUNKS} (hS : STORE w B g log len alive N C) (j k : Nat) (hN : Node j k) (hj : j < 62) (hs : PLC j (SIB k) < len) (L : Nat → Nat) (hL : AT C log (PLC j (SIB k)) = some L) :
    Calls Tryz.prog 43 #[.pointer (some ⟨g, 0, none⟩), .int .u64 ((PLC j k : Nat) : Int)] w fun e w' => e = .returned (.agg (UARR .u8 32 L)) ∧ Below w.heap.size w w' := by
  have hz := zeroHash
  obtain ⟨w0, hw0⟩ : ∃ w0, w.alloc (.cells (UARR .u8 32 fun _ => 0) 26) = w0 := ⟨_, rfl⟩
  have hb0 : Below w.heap.size w w0 := by rw [← hw0]; exact (Below.refl _ _).alloc (Nat.le_refl _) _
  have h40 : Has w0 w.heap.size (UARR .u8 32 fun _ => 0) 26 := by rw [← hw0]; exact Has.new w _ _
  have cs := sibling_ok j k hN hj w0
  have hp64 : PLC j (SIB k) < 2 ^ 64 := by have := hS.short; omega
  have cg := fun (W : World) (hb : Below w0.heap.size w0 W) => get_ok ((hS.below hb0).below hb) (PLC j (SIB k)) hp64
  have e1 : GOTH C log len (PLC j (SIB k)) = L := by unfold GOTH; rw [if_pos hs, hL]; rfl
  have e2 : GOT C log len (PLC j (SIB k)) = 0 := by unfold GOT; rw [if_pos hs, hL]; rfl
  rw [e1, e2] at cg
  clear hS hN hj hs hL e1 e2 hp64
  generalize PLC j (SIB k) = q at *
  generalize PLC j k = p at *
  go_enter Tryz.func43, Tryz.ntmps43
  go_wp2_with fail
  refine cs.mono ?_
  rintro e w1 ⟨rfl, hb1⟩
  clear cs
  go_wp2_with fail
  refine (cg w1 hb1).mono ?_
  rintro e w2 ⟨rfl, hb2⟩
  clear cg
  have hst := run_storeCells_new (P := Tryz.prog) w2 26 (UARR .u8 32 fun _ => 0) (UARR .u8 32 L) (info_HASH _) (by rw [UARR_size, UARR_size]) (UARR_one _ _ _)
  have hsu := UARR_size .u8 32 L
  obtain ⟨w3, hw3⟩ : ∃ w3, w2.alloc (.cells (UARR .u8 32 L) 26) = w3 := ⟨_, rfl⟩
  have hb12 : Below w0.heap.size w0 w2 := hb1.trans (hb2.mono hb1.size)
  have hb3 : Below w0.heap.size w0 w3 := by rw [← hw3]; exact hb12.alloc hb12.size _
  have hF3 : Has w3 w2.heap.size (UARR .u8 32 L) 26 := by rw [← hw3]; exact Has.new w2 _ _
  have h43 := h40.keep hb3
  have hb3' : Below w.heap.size w w3 := hb0.trans (hb3.mono hb0.size)
  have hst2 := store_cells32 h43 L
  go_wp2_with (first
    | (refine wpList_load_row rfl 26 (.tmp 7) rfl w2.heap.size rfl 26 (UARR .u8 32 L) (0, 0) _ hF3 Tryz.underlying26 rfl (info_HASH _) ?_)
    | fail)
  refine bodyPost_ret (v := .agg (UARR .u8 32 L)) ?_ rfl ⟨rfl, below_row hb3' (Nat.le_refl _) _⟩
  exact results_cell rfl _ _ w.heap.size 26 _ (0, 0) _ _ rfl (h43.row _) Tryz.underlying26 (info_HASH _)
set_option maxHeartbeats 1000000 in
theorem treenode_ok {w : World} {B g log len alive N : Nat} {C : CHUNKS} (hS : STORE w B g log len alive N C) (p : Nat) (hp : p < 2 ^ 64) :
    Calls Tryz.prog 24 #[.pointer (some ⟨g, 0, none⟩), .int .u64 (p : Int)] w fun e w' => e = .returned (.tuple #[.agg (UARR .u8 32 (GOTH C log len p)), .int .i64 (GOT C log len p)]) ∧ Below w.heap.size w w' := by
  have hz := zeroHash
  obtain ⟨w0, hw0⟩ : ∃ w0, w.alloc (.cells (UARR .u8 32 fun _ => 0) 26) = w0 := ⟨_, rfl⟩
  have hb0 : Below w.heap.size w w0 := by rw [← hw0]; exact (Below.refl _ _).alloc (Nat.le_refl _) _
  have h40 : Has w0 w.heap.size (UARR .u8 32 fun _ => 0) 26 := by rw [← hw0]; exact Has.new w _ _
  have cg := get_ok (hS.below hb0) p hp
  clear hS
  generalize GOTH C log len p = L at *
  generalize GOT C log len p = E at *
  go_enter Tryz.func24, Tryz.ntmps24
  go_wp2_with fail
  refine cg.mono ?_
  rintro e w1 ⟨rfl, hb1⟩
  clear cg
  have h41 := h40.keep hb1
  have hst2 := store_cells32 h41 L
  have hb1' : Below w.heap.size w w1 := hb0.trans (hb1.mono hb0.size)
  have hsu := UARR_size .u8 32 L
  go_wp2
  refine bodyPost_ret (v := .tuple #[.agg (UARR .u8 32 L), .int .i64 E]) ?_ rfl ⟨rfl, below_row hb1' (Nat.le_refl _) _⟩
  exact results_hash rfl _ _ w.heap.size 26 _ (0, 0) _ _ rfl (h41.row _) _ rfl Tryz.underlying26 (info_HASH _)
end Go.Proofs.YtdmbmphdiaepdaaGreatDoor.HX

/- A tree as it lies in memory: its store, its width, its size; each node's hash. -/
namespace Go.Proofs.YtdmbmphdiaepdaaGreatDoor.HX
open Go.RowKit
set_option maxRecDepth 100000

/-- the tree at g has the leaves f, n of them. -/
structure FOREST (w : World) (B g : Nat) (d : Int) (log n : Nat) (C : CHUNKS) (f : Nat → Nat → Nat) : Prop where
  store : STORE w B g log (NODES n) (NODES n) (NODES n) C
  width : w.cell? ⟨g, 5, none⟩ = some (.int .i64 d)
  size : w.cell? ⟨g, 6, none⟩ = some (.int .u64 (n : Int))
  free : w.frozen? ⟨g, 6, none⟩ = false
  node : ∀ h k, (k + 1) * 2 ^ h ≤ n → AT C log (PLC h k) = some (VAL d f h k)
  byte : ∀ k, k < n → ∀ i, f k i < 256
  few : n ≤ 2 ^ 20
  base : B ≤ g
def TFRESH (d : Int) (log : Nat) : Array Value := #[.int .i64 (log : Int), .int .u64 0, .int .u64 0, .map none, .map none, .int .i64 d, .int .u64 0]
theorem FOREST.new {w : World} {B g : Nat} {d : Int} {log : Nat} (h : Has w g (TFRESH d log) 74) (hl : log ≤ 16) (hB : B ≤ g) (f : Nat → Nat → Nat) : FOREST w B g d log 0 (fun _ => none) f := by
  refine ⟨⟨hl, by decide, h.cell 0, h.cell 1, h.cell 2, fun i _ => h.frozen i, ⟨_, _, _, h, by decide, by decide, by decide⟩, ⟨none, h.cell 3, fun _ _ => rfl, fun b e => by cases e⟩, fun k gc rs e => (by cases e), fun k k' gc gc' rs rs' _ e => by cases e⟩, h.cell 5, h.cell 6, h.frozen 6, fun h k hk => ?_, fun k hk => by omega, by decide, hB⟩
  have := last_lt h k
  omega
theorem FOREST.below {w w' : World} {B g : Nat} {d : Int} {log n : Nat} {C : CHUNKS} {f : Nat → Nat → Nat} (h : FOREST w B g d log n C f) (hb : Below w.heap.size w w') : FOREST w' B g d log n C f := by
  have hg := h.store.lt
  refine ⟨h.store.below hb, (hb.cell (p := ⟨g, 5, none⟩) hg).trans h.width, (hb.cell (p := ⟨g, 6, none⟩) hg).trans h.size, ?_, h.node, h.byte, h.few, h.base⟩
  exact (World.frozen?_of_block (w := w) (by exact hb.block g hg)).trans h.free
set_option maxHeartbeats 1000000 in
theorem treenew_ok (d : Int) (log : Nat) (h : log ≤ 16) (w : World) : Calls Tryz.prog 21 #[.int .i64 d, .int .i64 (log : Int)] w fun e w' =>
    ∃ g, e = .returned (.tuple #[.pointer (some ⟨g, 0, none⟩), .int .i64 0]) ∧ w.heap.size ≤ g ∧ Has w' g (TFRESH d log) 74 ∧ Below w.heap.size w w' := by
  have cn := storenew_ok log h w
  obtain ⟨w1, hw1⟩ : ∃ w1, w.alloc (.cells (FRESH log) 72) = w1 := ⟨_, rfl⟩
  rw [hw1] at cn
  have hH : Has w1 w.heap.size (FRESH log) 72 := by rw [← hw1]; exact Has.new w _ _
  have hb : Below w.heap.size w w1 := by rw [← hw1]; exact (Below.refl _ _).alloc (Nat.le_refl _) _
  clear hw1
  go_enter Tryz.func21, Tryz.ntmps21
  go_wp2_with fail
  refine cn.mono ?_
  rintro e w2 ⟨rfl, rfl⟩
  clear cn
  have x0 := hH.cell 0
  have x1 := hH.cell 1
  have x2 := hH.cell 2
  have x3 := hH.cell 3
  have x4 := hH.cell 4
  go_wp2_with fail
  go_ret2
  exact ⟨_, rfl, hb.size, Has.new _ _ _, hb.alloc hb.size _⟩
end Go.Proofs.YtdmbmphdiaepdaaGreatDoor.HX

/- Steps of a region that draws its order, one operation at a time. -/
namespace Go.Proofs.YtdmbmphdiaepdaaGreatDoor
open Go.RowKit
set_option maxRecDepth 100000

theorem step_val {ops : Array Oper} {o : Oper} {a : Act} {w w' : World} {K : Act → World → Prop} {Q : Exit → Act → World → Prop} {E : Prop} {v : Value} (hg : o.guard = none)
    (hrun : (execOp a.eval o).run Tryz.prog w = .ok (.value v) w') (h : K (a.put o.dst v) w') : if Region.wanted o (yielded ops a.tmps) = true then Oper.wp Tryz.prog o a w K Q else E := by
  have hw : Region.wanted o (yielded ops a.tmps) = true := by simp [Region.wanted, hg]
  rw [if_pos hw]
  unfold Oper.wp
  rw [hrun]
  exact h
theorem step_skip {ops : Array Oper} {o : Oper} {a : Act} {w w' : World} {K : Act → World → Prop} {Q : Exit → Act → World → Prop} {E : Prop} (hg : o.guard = none)
    (hrun : (execOp a.eval o).run Tryz.prog w = .ok .skip w') (h : K (a.put o.dst undef) w') : if Region.wanted o (yielded ops a.tmps) = true then Oper.wp Tryz.prog o a w K Q else E := by
  have hw : Region.wanted o (yielded ops a.tmps) = true := by simp [Region.wanted, hg]
  rw [if_pos hw]
  unfold Oper.wp
  rw [hrun]
  exact h
theorem run_skip {s : Sem Unit} {w w' : World} (h : s.run Tryz.prog w = .ok () w') : (do s; pure Next.skip : Sem Next).run Tryz.prog w = .ok .skip w' := by
  simp [h]
theorem anyHone {ops : Array Oper} {Q : Exit → Act → World → Prop} {md : Region.Mode} {S : World → Prop} {fuel : Nat} {listed : Array Bool} {a : Act} {w : World} {o : Oper} (i : Nat) (hr : Region.ready md ops listed = [i]) (ho : ops[i]? = some o)
    (h : ∀ K' : Act → World → Prop, Shut (∀ a w, S w → (S w → wpAnyH Tryz.prog md ops Q S fuel (listed.setIfInBounds i true) a w) → K' a w) → if Region.wanted o (yielded ops a.tmps) = true then Oper.wp Tryz.prog o a w K' Q else K' (a.put o.dst undef) w) : wpAnyH Tryz.prog md ops Q S (fuel + 1) listed a w :=
  wpAnyH_ready hr (by simp) (AllReadyH.cons ho h AllReadyH.nil)
theorem run_value {s : Sem Value} {w w' : World} {v : Value} (h : s.run Tryz.prog w = .ok v w') : (do pure (Next.value (← s)) : Sem Next).run Tryz.prog w = .ok (.value v) w' := by
  simp [h, Result.andThen]
end Go.Proofs.YtdmbmphdiaepdaaGreatDoor

/- Laws of one operation, at a step of a region that draws its order. -/
namespace Go.Proofs.YtdmbmphdiaepdaaGreatDoor
open Go.RowKit
set_option maxRecDepth 100000

theorem wp_both {P : Program} {o : Oper} {a : Act} {w : World} {K K' : Act → World → Prop} {Q Q' : Exit → Act → World → Prop} (h : ∀ a w, K a w → K' a w) (hq : ∀ c a w, Q (.panic c) a w → Q' (.panic c) a w) (hl : LetsOut Q → LetsOut Q') (hh : o.wp P a w K Q) : o.wp P a w K' Q' := by
  unfold Oper.wp at *
  generalize (execOp a.eval o).run P w = r at *
  cases r with
  | ok n w' =>
    cases n <;> simp only [Oper.upon] at hh ⊢ <;>
      first
        | exact h _ _ hh
        | exact Calls.mono hh (fun e w'' he => by cases e <;> first | exact h _ _ he | exact hq _ _ _ he | exact hl he)
        | exact Rows.mono hh (fun _ _ he => h _ _ he)
  | halt x w' => cases x <;> simp only [Oper.upon] at hh ⊢ <;> first | exact hq _ _ _ hh | exact hh
/-- a law of one operation in a row serves at a step. -/
theorem step_of_list {P : Program} {ops : Array Oper} {o : Oper} {a : Act} {w : World} {K : Act → World → Prop} {Q : Exit → Act → World → Prop} {E : Prop} (hw : Region.wanted o (yielded ops a.tmps) = true)
    (h : wpList P ops (fun e a w => e = Exit.normal ∧ K a w) [o] a w) : if Region.wanted o (yielded ops a.tmps) = true then Oper.wp P o a w K Q else E := by
  rw [if_pos hw]
  unfold wpList at h
  rw [if_pos hw] at h
  rcases h with h | ⟨_, a', w', h', _⟩
  · exact wp_both (fun a w h => by unfold wpList at h; exact h.2) (fun c a w h => by cases h.1) (fun h => by obtain ⟨_, _, h, _⟩ := h; cases h) h
  · cases h'
/-- an operation that gives a value. -/
theorem step_valw {ops : Array Oper} {o : Oper} {a : Act} {w w' : World} {K : Act → World → Prop} {Q : Exit → Act → World → Prop} {E : Prop} {v : Value} (hw : Region.wanted o (yielded ops a.tmps) = true)
    (hrun : (execOp a.eval o).run Tryz.prog w = .ok (.value v) w') (h : K (a.put o.dst v) w') : if Region.wanted o (yielded ops a.tmps) = true then Oper.wp Tryz.prog o a w K Q else E := by
  rw [if_pos hw]
  unfold Oper.wp
  rw [hrun]
  exact h
/-- one element of one cell is appended. -/
theorem step_push {P : Program} {ops : Array Oper} {o : Oper} {a : Act} {K : Act → World → Prop} {Q : Exit → Act → World → Prop} {E : Prop} (w : World) (hgd : o.guard = none) (s x : Operand) (t e : TypeId) (z : Value) (bt : Nat)
    (ho : o.op = .call { callee := .builtin .append, args := #[s, x], argTypes := #[t, t] }) (hu : P.underlying t = some (.slice e)) (hi : (P.info? e).map (fun i => (i.zero, i.size, i.bytes)) = some (some z, 1, bt)) (hz : z.cells.size = 1) (hbt : bt ≤ 1000)
    (base : Nat) (v : Value) (n : Nat) (xs : List Value) (hs : a.eval s = v) (hown : w.ownsRow base e 1 v n xs)
    (b c : Nat) (u : Value) (hx : a.eval x = .slice (some ⟨b, 0, none⟩) 1 c) (hc0 : w.cell? ⟨b, 0, none⟩ = some u) (h1 : u.oneCell' = true) (hb : n ≤ 100000) (hbase : base ≤ w.heap.size)
    (hh : ∀ g cap w', w'.ownsRow base e 1 (.slice (some ⟨g, 0, none⟩) (n + 1) cap) (n + 1) (xs ++ [u]) → w.grownBy w' v.ownBlock → (v.ownBlock = some g ∨ g = w.heap.size) → g < w'.heap.size → K (a.put o.dst (.slice (some ⟨g, 0, none⟩) (n + 1) cap)) w') : if Region.wanted o (yielded ops a.tmps) = true then Oper.wp P o a w K Q else E := by
  obtain ⟨i, hi, h8⟩ := Option.map_eq_some_iff.1 hi
  simp only [Prod.mk.injEq] at h8
  have hbb : (n + 1) * bt ≤ 140737488355328 := Nat.le_trans (Nat.mul_le_mul (Nat.add_le_add_right hb 1) hbt) (by decide)
  refine step_append_lies w hgd s x t ho base e i z 1 bt hu hi h8.1 h8.2.1 h8.2.2 hz (by decide) v n xs hs hown ⟨b, 0, none⟩ 1 c [u] hx rfl ?_ (fun u2 hu => by simp at hu; subst hu; exact h1) (by decide) (by simp only [maxLen]; omega) hbb hbase w.heap.size rfl hh
  intro j u2 hj
  cases j with
  | zero =>
    simp only [List.getElem?_cons_zero, Option.some.injEq] at hj
    subst hj
    exact hc0
  | succ j => simp at hj
end Go.Proofs.YtdmbmphdiaepdaaGreatDoor
