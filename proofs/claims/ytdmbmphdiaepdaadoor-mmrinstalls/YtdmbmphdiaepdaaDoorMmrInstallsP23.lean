/- Texts of MmrInstalls, one behind the other: PosKin, PosPlace, PosOk, MmrCalls, MmrTree, MmrHeld, MmrFoldRegion. -/
import Derived.Deep.QuietTactic
import Derived.BigQuiet
import Derived.Deep.RegionHeld3
import Derived.Test.YtdmbmphdiaepdaaDoorMmrInstallsP8
import Derived.Test.YtdmbmphdiaepdaaDoorMmrInstallsP18
import Derived.Test.YtdmbmphdiaepdaaDoorMmrInstallsP19
import Derived.Test.YtdmbmphdiaepdaaDoorMmrInstallsP22
/- What Index, Leaves, Parent, Sibling, Kids, Right, Under and Since answer. -/
namespace Go.Proofs.YtdmbmphdiaepdaaDoor
open Go.RowKit

/-- Spot answers so at p. -/
def SpotAt (p : Int) (h k : Nat) (ok : Bool) : Prop := ∀ w, Calls Tryd.prog 31 #[.int .u64 p] w fun e w' => e = .returned (.tuple #[SPOT h k, .bool ok]) ∧ Below w.heap.size w w'
theorem SpotAt.node {h k : Nat} (hN : Node h k) : SpotAt ((PLC h k : Nat) : Int) h k true := fun w => spot_ok h k hN w
theorem SpotAt.out {p : Int} (hp : 9223372036854775807 ≤ p) : SpotAt p 0 0 false := fun w => spot_not p hp w

theorem sibling_raw (p : Int) (h k : Nat) (b : Bool) (r : Int) (w : World) (hh : ((h : Int) == 62) = false) (hm : wrap64 (h : Int) = (h : Int)) (ha : (bits .and .u64 (k : Int) 1 == 1) = b) (cs : SpotAt p h k true)
    (co : ∀ w, Calls Tryd.prog 49 #[.int .u64 p, .int .i64 (h : Int), .bool b] w fun e w' => e = .returned (.int .u64 r) ∧ w = w') :
    Calls Tryd.prog 34 #[.int .u64 p] w fun e w' => e = .returned (.tuple #[.int .u64 r, .bool true]) ∧ Below w.heap.size w w' := by
  have cs := cs w
  go_enter Tryd.func34, Tryd.ntmps34
  go_wp2_with fail
  refine cs.mono ?_
  rintro e w1 ⟨rfl, hb⟩
  clear cs
  have R : Aside (Below w.heap.size w w1) := hb
  clear hb
  go_wp2_with fail
  refine (co _).mono ?_
  rintro e w2 ⟨rfl, rfl⟩
  clear co
  go_wp2
  go_ret2
  exact ⟨rfl, R.out.alloc R.out.size _⟩
theorem sibling_top (p : Int) (k : Nat) (w : World) (cs : SpotAt p 62 k true) : Calls Tryd.prog 34 #[.int .u64 p] w fun e w' => e = .returned (.tuple #[.int .u64 0, .bool false]) ∧ Below w.heap.size w w' := by
  have cs := cs w
  go_enter Tryd.func34, Tryd.ntmps34
  go_wp2_with fail
  refine cs.mono ?_
  rintro e w1 ⟨rfl, hb⟩
  clear cs
  have R : Aside (Below w.heap.size w w1) := hb
  clear hb
  go_wp2
  go_ret2
  exact ⟨rfl, R.out.alloc R.out.size _⟩
theorem sibling_not (p : Int) (h k : Nat) (w : World) (cs : SpotAt p h k false) : Calls Tryd.prog 34 #[.int .u64 p] w fun e w' => e = .returned (.tuple #[.int .u64 0, .bool false]) ∧ Below w.heap.size w w' := by
  have cs := cs w
  go_enter Tryd.func34, Tryd.ntmps34
  go_wp2_with fail
  refine cs.mono ?_
  rintro e w1 ⟨rfl, hb⟩
  clear cs
  have R : Aside (Below w.heap.size w w1) := hb
  clear hb
  go_wp2
  go_ret2
  exact ⟨rfl, R.out.alloc R.out.size _⟩
theorem right_raw (p : Int) (h k : Nat) (b : Bool) (w : World) (ha : (bits .and .u64 (k : Int) 1 == 1) = b) (cs : SpotAt p h k true) :
    Calls Tryd.prog 20 #[.int .u64 p] w fun e w' => e = .returned (.bool b) ∧ Below w.heap.size w w' := by
  have cs := cs w
  go_enter Tryd.func20, Tryd.ntmps20
  go_wp2_with fail
  refine cs.mono ?_
  rintro e w1 ⟨rfl, hb⟩
  clear cs
  have R : Aside (Below w.heap.size w w1) := hb
  clear hb
  go_wp2
  go_ret
  exact ⟨rfl, R.out.alloc R.out.size _⟩
theorem right_not (p : Int) (h k : Nat) (w : World) (cs : SpotAt p h k false) : Calls Tryd.prog 20 #[.int .u64 p] w fun e w' => e = .returned (.bool false) ∧ Below w.heap.size w w' := by
  have cs := cs w
  go_enter Tryd.func20, Tryd.ntmps20
  go_wp2_with fail
  refine cs.mono ?_
  rintro e w1 ⟨rfl, hb⟩
  clear cs
  have R : Aside (Below w.heap.size w w1) := hb
  clear hb
  go_wp2
  go_ret
  exact ⟨rfl, R.out.alloc R.out.size _⟩
end Go.Proofs.YtdmbmphdiaepdaaDoor

/- What Place answers. -/
namespace Go.Proofs.YtdmbmphdiaepdaaDoor
open Go.RowKit

theorem quiet_eq {P : Program} {f : FuncId} {args : Array Value} {w : World} {n : Nat} {v : Value}
    (h : Calls P f args (w.drewN n) fun e w' => e = .returned v ∧ w.drewN n = w') : Calls P f args (w.drewN n) fun e w'' => e = .returned v ∧ ∃ m, w'' = w.drewN m :=
  h.mono fun _ _ ⟨he, hm⟩ => ⟨he, n, hm.symm⟩
end Go.Proofs.YtdmbmphdiaepdaaDoor

/- What the functions of package pos answer, node by node. -/
namespace Go.Proofs.YtdmbmphdiaepdaaDoor
open Go.RowKit

theorem and_one (k : Nat) (hk : k < 2 ^ 64) : bits .and .u64 (k : Int) 1 = ((k % 2 : Nat) : Int) := by
  have : bits .and .u64 (k : Int) ((1 : Nat) : Int) = ((k &&& 1 : Nat) : Int) := and_eq hk (by decide)
  rw [Nat.and_one_is_mod] at this
  exact this
theorem odd_eq (k : Nat) (hk : k < 2 ^ 64) : (bits .and .u64 (k : Int) 1 == 1) = decide (k % 2 = 1) := by
  rw [and_one k hk, Bool.eq_iff_iff]
  simp
  omega
theorem shift_eq (a h : Nat) (hh : h ≤ 62) (hl : a * 2 ^ h < 2 ^ 64) : IntKind.u64.wrap ((a : Int) * 2 ^ min h 64) = ((a * 2 ^ h : Nat) : Int) := by
  rw [show min h 64 = h by omega, mul_cast, Nat.mod_eq_of_lt hl]
theorem MASK_pow {h : Nat} (hh : h ≤ 62) : MASK (62 - (h : Int)) = 2 ^ (62 - h) - 1 := by
  unfold MASK
  rw [show min (62 - (h : Int)).toNat 64 = 62 - h by omega]
theorem PLC_parent (h k : Nat) : PLC (h + 1) (k / 2) = if k % 2 = 1 then PLC h k + 1 else PLC h k + TREE h + 1 := by
  split
  · have := PLC_up_right h (k / 2)
    rw [show 2 * (k / 2) + 1 = k by omega] at this
    exact this
  · have := PLC_up_left h (k / 2)
    rw [show 2 * (k / 2) = k by omega] at this
    have h3 := two_le h
    unfold TREE
    omega
theorem PLC_sibling (h k : Nat) : PLC h (SIB k) = if k % 2 = 1 then PLC h k - TREE h else PLC h k + TREE h := by
  unfold SIB
  split
  · have := PLC_sib h (k / 2)
    rw [show 2 * (k / 2) + 1 = k by omega, show 2 * (k / 2) = k - 1 by omega] at this
    omega
  · have := PLC_sib h (k / 2)
    rw [show 2 * (k / 2) = k by omega] at this
    omega
theorem tree_le_right {h k : Nat} (hk : k % 2 = 1) : TREE h ≤ PLC h k := by
  have := PLC_sib h (k / 2)
  rw [show 2 * (k / 2) + 1 = k by omega] at this
  omega
theorem beside_ok (h k : Nat) (hN : Node h k) (hh : h < 62) (w : World) : Calls Tryd.prog 49 #[.int .u64 ((PLC h k : Nat) : Int), .int .i64 (h : Int), .bool (decide (k % 2 = 1))] w fun e w' => e = .returned (.int .u64 ((PLC h (SIB k) : Nat) : Int)) ∧ w = w' := by
  have h0 := hN.lt
  have h1 := (hN.sib hh).lt
  have h2 := PLC_sibling h k
  by_cases hk : k % 2 = 1
  · rw [if_pos hk] at h2
    rw [decide_eq_true hk]
    have h3 := tree_le_right (h := h) hk
    have := beside_right (PLC h k : Nat) (h : Int) (TREE h : Nat) w (fun w => tree_ok h (by omega) w)
    rw [show IntKind.u64.wrap (((PLC h k : Nat) : Int) - ((TREE h : Nat) : Int)) = ((PLC h (SIB k) : Nat) : Int) by rw [wrapU]; omega] at this
    exact this
  · rw [if_neg hk] at h2
    rw [decide_eq_false hk]
    have := beside_left (PLC h k : Nat) (h : Int) (TREE h : Nat) w (fun w => tree_ok h (by omega) w)
    rw [show IntKind.u64.wrap (((PLC h k : Nat) : Int) + ((TREE h : Nat) : Int)) = ((PLC h (SIB k) : Nat) : Int) by rw [wrapU]; omega] at this
    exact this
theorem sibling_ok (h k : Nat) (hN : Node h k) (hh : h < 62) (w : World) : Calls Tryd.prog 34 #[.int .u64 ((PLC h k : Nat) : Int)] w fun e w' => e = .returned (.tuple #[.int .u64 ((PLC h (SIB k) : Nat) : Int), .bool true]) ∧ Below w.heap.size w w' :=
  sibling_raw _ h k (decide (k % 2 = 1)) _ w (by simp; omega) (by unfold wrap64; omega) (odd_eq k (by have := hN.index_lt; omega)) (.node hN) (fun w => beside_ok h k hN hh w)
theorem Node.kid {h k : Nat} (a : Node (h + 1) k) : Node h (2 * k) ∧ Node h (2 * k + 1) := by
  have h1 := a.1
  have h2 := a.2
  have e : 2 ^ (62 - h) = 2 ^ (62 - (h + 1)) * 2 := by rw [← Nat.pow_succ]; congr 1; omega
  exact ⟨⟨by omega, by rw [e]; omega⟩, ⟨by omega, by rw [e]; omega⟩⟩
theorem right_ok (h k : Nat) (hN : Node h k) (w : World) : Calls Tryd.prog 20 #[.int .u64 ((PLC h k : Nat) : Int)] w fun e w' => e = .returned (.bool (decide (k % 2 = 1))) ∧ Below w.heap.size w w' :=
  right_raw _ h k _ w (odd_eq k (by have := hN.index_lt; omega)) (.node hN)
end Go.Proofs.YtdmbmphdiaepdaaDoor

/- A tree's small calls: left, Node, New. -/
namespace Go.Proofs.YtdmbmphdiaepdaaDoor.HX
open Go.RowKit
set_option maxRecDepth 100000

theorem results_cell {fn : Func} {p : Tmp} {ty : TypeId} (h : fn.results = #[.cell p ty]) (tmps : Array Value) (w : World) (g : Nat) (t : TypeId) (cs : Array Value) (fr : Nat × Nat) (k : Nat) (el : TypeId)
    (hp : tmps.getD p undef = .pointer (some ⟨g, 0, none⟩)) (hg : w.heap[g]? = some (.cells cs t fr))
    (hu : Tryd.prog.underlying ty = some (.array k el)) (hi : (Tryd.prog.info? ty).map (·.size) = some cs.size) :
    (results fn tmps).run Tryd.prog w = .ok (.agg cs) w := by
  have hp' : tmps[p]?.getD undef = .pointer (some ⟨g, 0, none⟩) := by simpa using hp
  simp [results, h, hp', asAddr, run_loadVar_row w g t ty cs fr (.array k el) hg hu rfl hi]
set_option maxHeartbeats 1000000 in
theorem left_ok {w : World} {B g log len alive N : Nat} {C : CHUNKS} (hS : STORE w B g log len alive N C) (j k : Nat) (hN : Node j k) (hj : j < 62) (hs : PLC j (SIB k) < len) (L : Nat → Nat) (hL : AT C log (PLC j (SIB k)) = some L) :
    Calls Tryd.prog 22 #[.pointer (some ⟨g, 0, none⟩), .int .u64 ((PLC j k : Nat) : Int)] w fun e w' => e = .returned (.agg (UARR .u8 32 L)) ∧ Below w.heap.size w w' := by
  have hz := zeroHash
  obtain ⟨w0, hw0⟩ : ∃ w0, w.alloc (.cells (UARR .u8 32 fun _ => 0) 30) = w0 := ⟨_, rfl⟩
  have hb0 : Below w.heap.size w w0 := by rw [← hw0]; exact (Below.refl _ _).alloc (Nat.le_refl _) _
  have h40 : Has w0 w.heap.size (UARR .u8 32 fun _ => 0) 30 := by rw [← hw0]; exact Has.new w _ _
  have cs := sibling_ok j k hN hj w0
  have hp64 : PLC j (SIB k) < 2 ^ 64 := by have := hS.short; omega
  have cg := fun (W : World) (hb : Below w0.heap.size w0 W) => get_ok ((hS.below hb0).below hb) (PLC j (SIB k)) hp64
  have e1 : GOTH C log len (PLC j (SIB k)) = L := by unfold GOTH; rw [if_pos hs, hL]; rfl
  have e2 : GOT C log len (PLC j (SIB k)) = 0 := by unfold GOT; rw [if_pos hs, hL]; rfl
  rw [e1, e2] at cg
  clear hS hN hj hs hL e1 e2 hp64
  generalize PLC j (SIB k) = q at *
  generalize PLC j k = p at *
  go_enter Tryd.func22, Tryd.ntmps22
  go_wp2_with fail
  refine cs.mono ?_
  rintro e w1 ⟨rfl, hb1⟩
  clear cs
  go_wp2_with fail
  refine (cg w1 hb1).mono ?_
  rintro e w2 ⟨rfl, hb2⟩
  clear cg
  have hst := run_storeCells_new (P := Tryd.prog) w2 30 (UARR .u8 32 fun _ => 0) (UARR .u8 32 L) (info_HASH _) (by rw [UARR_size, UARR_size]) (UARR_one _ _ _)
  have hsu := UARR_size .u8 32 L
  obtain ⟨w3, hw3⟩ : ∃ w3, w2.alloc (.cells (UARR .u8 32 L) 30) = w3 := ⟨_, rfl⟩
  have hb12 : Below w0.heap.size w0 w2 := hb1.trans (hb2.mono hb1.size)
  have hb3 : Below w0.heap.size w0 w3 := by rw [← hw3]; exact hb12.alloc hb12.size _
  have hF3 : Has w3 w2.heap.size (UARR .u8 32 L) 30 := by rw [← hw3]; exact Has.new w2 _ _
  have h43 := h40.keep hb3
  have hb3' : Below w.heap.size w w3 := hb0.trans (hb3.mono hb0.size)
  have hst2 := store_cells32 h43 L
  go_wp2_with (first
    | (refine wpList_load_row rfl 30 (.tmp 7) rfl w2.heap.size rfl 30 (UARR .u8 32 L) (0, 0) _ hF3 Tryd.underlying30 rfl (info_HASH _) ?_)
    | fail)
  refine bodyPost_ret (v := .agg (UARR .u8 32 L)) ?_ rfl ⟨rfl, below_row hb3' (Nat.le_refl _) _⟩
  exact results_cell rfl _ _ w.heap.size 30 _ (0, 0) _ _ rfl (h43.row _) Tryd.underlying30 (info_HASH _)
set_option maxHeartbeats 1000000 in
theorem treenode_ok {w : World} {B g log len alive N : Nat} {C : CHUNKS} (hS : STORE w B g log len alive N C) (p : Nat) (hp : p < 2 ^ 64) :
    Calls Tryd.prog 6 #[.pointer (some ⟨g, 0, none⟩), .int .u64 (p : Int)] w fun e w' => e = .returned (.tuple #[.agg (UARR .u8 32 (GOTH C log len p)), .int .i64 (GOT C log len p)]) ∧ Below w.heap.size w w' := by
  have hz := zeroHash
  obtain ⟨w0, hw0⟩ : ∃ w0, w.alloc (.cells (UARR .u8 32 fun _ => 0) 30) = w0 := ⟨_, rfl⟩
  have hb0 : Below w.heap.size w w0 := by rw [← hw0]; exact (Below.refl _ _).alloc (Nat.le_refl _) _
  have h40 : Has w0 w.heap.size (UARR .u8 32 fun _ => 0) 30 := by rw [← hw0]; exact Has.new w _ _
  have cg := get_ok (hS.below hb0) p hp
  clear hS
  generalize GOTH C log len p = L at *
  generalize GOT C log len p = E at *
  go_enter Tryd.func6, Tryd.ntmps6
  go_wp2_with fail
  refine cg.mono ?_
  rintro e w1 ⟨rfl, hb1⟩
  clear cg
  have h41 := h40.keep hb1
  have hst2 := store_cells32 h41 L
  have hb1' : Below w.heap.size w w1 := hb0.trans (hb1.mono hb0.size)
  have hsu := UARR_size .u8 32 L
  go_wp2
  refine bodyPost_ret (v := .tuple #[.agg (UARR .u8 32 L), .int .i64 E]) ?_ rfl ⟨rfl, below_row hb1' (Nat.le_refl _) _⟩
  exact results_hash rfl _ _ w.heap.size 30 _ (0, 0) _ _ rfl (h41.row _) _ rfl Tryd.underlying30 (info_HASH _)
end Go.Proofs.YtdmbmphdiaepdaaDoor.HX

/- A tree as it lies in memory: its store, its width, its size; each node's hash. -/
namespace Go.Proofs.YtdmbmphdiaepdaaDoor.HX
open Go.RowKit
set_option maxRecDepth 100000

/-- the tree at g has the leaves f, n of them. -/
structure FOREST (w : World) (B g : Nat) (d : Int) (log n : Nat) (C : CHUNKS) (f : Nat → Nat → Nat) : Prop where
  store : STORE w B g log (NODES n) (NODES n) (NODES n) C
  width : w.cell? ⟨g, 5, none⟩ = some (.int .i64 d)
  size : w.cell? ⟨g, 6, none⟩ = some (.int .u64 (n : Int))
  free : w.frozen? ⟨g, 6, none⟩ = false
  node : ∀ h k, (k + 1) * 2 ^ h ≤ n → AT C log (PLC h k) = some (VAL d f h k)
  byte : ∀ k, k < n → ∀ i, f k i < 256
  few : n ≤ 2 ^ 20
  base : B ≤ g
def TFRESH (d : Int) (log : Nat) : Array Value := #[.int .i64 (log : Int), .int .u64 0, .int .u64 0, .map none, .map none, .int .i64 d, .int .u64 0]
theorem FOREST.new {w : World} {B g : Nat} {d : Int} {log : Nat} (h : Has w g (TFRESH d log) 51) (hl : log ≤ 16) (hB : B ≤ g) (f : Nat → Nat → Nat) : FOREST w B g d log 0 (fun _ => none) f := by
  refine ⟨⟨hl, by decide, h.cell 0, h.cell 1, h.cell 2, fun i _ => h.frozen i, ⟨_, _, _, h, by decide, by decide, by decide⟩, ⟨none, h.cell 3, fun _ _ => rfl, fun b e => by cases e⟩, fun k gc rs e => (by cases e), fun k k' gc gc' rs rs' _ e => by cases e⟩, h.cell 5, h.cell 6, h.frozen 6, fun h k hk => ?_, fun k hk => by omega, by decide, hB⟩
  have := last_lt h k
  omega
theorem FOREST.below {w w' : World} {B g : Nat} {d : Int} {log n : Nat} {C : CHUNKS} {f : Nat → Nat → Nat} (h : FOREST w B g d log n C f) (hb : Below w.heap.size w w') : FOREST w' B g d log n C f := by
  have hg := h.store.lt
  refine ⟨h.store.below hb, (hb.cell (p := ⟨g, 5, none⟩) hg).trans h.width, (hb.cell (p := ⟨g, 6, none⟩) hg).trans h.size, ?_, h.node, h.byte, h.few, h.base⟩
  exact (World.frozen?_of_block (w := w) (by exact hb.block g hg)).trans h.free
set_option maxHeartbeats 1000000 in
theorem treenew_ok (d : Int) (log : Nat) (h : log ≤ 16) (w : World) : Calls Tryd.prog 15 #[.int .i64 d, .int .i64 (log : Int)] w fun e w' =>
    ∃ g, e = .returned (.tuple #[.pointer (some ⟨g, 0, none⟩), .int .i64 0]) ∧ w.heap.size ≤ g ∧ Has w' g (TFRESH d log) 51 ∧ Below w.heap.size w w' := by
  have cn := storenew_ok log h w
  obtain ⟨w1, hw1⟩ : ∃ w1, w.alloc (.cells (FRESH log) 49) = w1 := ⟨_, rfl⟩
  rw [hw1] at cn
  have hH : Has w1 w.heap.size (FRESH log) 49 := by rw [← hw1]; exact Has.new w _ _
  have hb : Below w.heap.size w w1 := by rw [← hw1]; exact (Below.refl _ _).alloc (Nat.le_refl _) _
  clear hw1
  go_enter Tryd.func15, Tryd.ntmps15
  go_wp2_with fail
  refine cn.mono ?_
  rintro e w2 ⟨rfl, rfl⟩
  clear cn
  have x0 := hH.cell 0
  have x1 := hH.cell 1
  have x2 := hH.cell 2
  have x3 := hH.cell 3
  have x4 := hH.cell 4
  go_wp2_with fail
  go_ret2
  exact ⟨_, rfl, hb.size, Has.new _ _ _, hb.alloc hb.size _⟩
end Go.Proofs.YtdmbmphdiaepdaaDoor.HX

/- A store, a tree whose blocks are as they were; two trees that have no block in common. -/
namespace Go.Proofs.YtdmbmphdiaepdaaDoor.HX
open Go.RowKit
set_option maxRecDepth 100000

/-- all blocks of the store are as they were. -/
theorem STORE.held {w w' : World} {B g log len alive N : Nat} {C : CHUNKS} (hS : STORE w B g log len alive N C) (hg : w'.heap[g]? = w.heap[g]?) (hblk : ∀ x, FOOT w g C x → w'.heap[x]? = w.heap[x]?) : STORE w' B g log len alive N C ∧ (∀ x, FOOT w' g C x → FOOT w g C x) ∧ ∀ i, w'.cell? ⟨g, i, none⟩ = w.cell? ⟨g, i, none⟩ := by
  have cell : ∀ i, w'.cell? ⟨g, i, none⟩ = w.cell? ⟨g, i, none⟩ := fun i => World.cell?_of_block (w := w) (by exact hg)
  have hch : ∀ k gc rk, C k = some (gc, rk) → w'.heap[gc]? = w.heap[gc]? ∧ (∀ v x, w.cell? ⟨gc, 0, none⟩ = some v → v.ownBlock = some x → w'.heap[x]? = w.heap[x]?) ∧ ∀ r ∈ rk, w'.heap[r.gh]? = w.heap[r.gh]? := fun k gc rk e =>
    ⟨hblk _ (.inr ⟨k, gc, rk, e, .inl rfl⟩), fun v x hv hx => hblk _ (.inr ⟨k, gc, rk, e, .inr (.inl ⟨v, hv, hx⟩)⟩), fun r hr => hblk _ (.inr ⟨k, gc, rk, e, .inr (.inr ⟨r, hr, rfl⟩)⟩)⟩
  have hcc : ∀ k gc rk, C k = some (gc, rk) → w'.cell? ⟨gc, 0, none⟩ = w.cell? ⟨gc, 0, none⟩ := fun k gc rk e => World.cell?_of_block (w := w) (by exact (hch k gc rk e).1)
  refine ⟨⟨hS.small, hS.short, (cell 0).trans hS.c0, (cell 1).trans hS.c1, (cell 2).trans hS.c2, fun i hi => ?_, ?_, ?_, ?_, ?_⟩, fun x h => ?_, cell⟩
  · have := hS.live i hi
    unfold World.frozen? at this ⊢
    rw [show w'.heap[g]? = w.heap[g]? from hg]
    exact this
  · obtain ⟨cs, t, fr, k1, k2⟩ := hS.kind
    exact ⟨cs, t, fr, hg.trans k1, k2⟩
  · obtain ⟨mv, m1, m2, m3⟩ := hS.map
    refine ⟨mv, (cell 3).trans m1, m2, fun x e => ?_⟩
    obtain ⟨c1, n, c2, c3⟩ := m3 x e
    refine ⟨c1, n, c2, c3.at (hblk x (.inl (by rw [m1, e])))⟩
  · intro k gc rk e
    obtain ⟨b1, b2, b3⟩ := hS.chunk k gc rk e
    obtain ⟨d1, d2, d3⟩ := hch k gc rk e
    exact ⟨b1, b2.at d1 d2 d3, b3⟩
  · intro k k' gc gc' rs rs' hne e e'
    obtain ⟨o1, o2, o3⟩ := hS.one k k' gc gc' rs rs' hne e e'
    exact ⟨o1, o2, fun v v' hv hv' => o3 v v' (by rw [← hcc k gc rs e]; exact hv) (by rw [← hcc k' gc' rs' e']; exact hv')⟩
  · rcases h with h | ⟨k, gc, rs, e, h⟩
    · left; rw [← cell 3]; exact h
    · refine .inr ⟨k, gc, rs, e, ?_⟩
      rcases h with h | ⟨v, hv, h⟩ | h
      · exact .inl h
      · exact .inr (.inl ⟨v, by rw [← hcc k gc rs e]; exact hv, h⟩)
      · exact .inr (.inr h)
theorem FOREST.held {w w' : World} {B g : Nat} {d : Int} {log n : Nat} {C : CHUNKS} {f : Nat → Nat → Nat} (h : FOREST w B g d log n C f) (hg : w'.heap[g]? = w.heap[g]?) (hblk : ∀ x, FOOT w g C x → w'.heap[x]? = w.heap[x]?) : FOREST w' B g d log n C f ∧ ∀ x, FOOT w' g C x → FOOT w g C x := by
  obtain ⟨s1, s2, s3⟩ := h.store.held hg hblk
  exact ⟨⟨s1, (s3 5).trans h.width, (s3 6).trans h.size, s1.live 6 (by decide), h.node, h.byte, h.few, h.base⟩, s2⟩
/-- two trees without a common block. -/
def APART (w : World) (g : Nat) (C : CHUNKS) (g' : Nat) (C' : CHUNKS) : Prop := ∀ x, (x = g ∨ FOOT w g C x) → (x = g' ∨ FOOT w g' C' x) → False
theorem APART.symm {w : World} {g g' : Nat} {C C' : CHUNKS} (h : APART w g C g' C') : APART w g' C' g C := fun x a b => h x b a
/-- something is done to the one: the other is as it was. -/
theorem FOREST.beside {w w' : World} {B' g g' : Nat} {d' : Int} {log' n' : Nat} {C C' D : CHUNKS} {f' : Nat → Nat → Nat} (h' : FOREST w B' g' d' log' n' C' f') (ha : APART w g C g' C') (hst : TSTEP w w' g C D) : FOREST w' B' g' d' log' n' C' f' ∧ APART w' g D g' C' := by
  have hg' : g' < w.heap.size := h'.store.lt
  have one : ∀ x, x < w.heap.size → (x = g' ∨ FOOT w g' C' x) → w'.heap[x]? = w.heap[x]? := fun x hx hf => hst.same x hx (fun e => ha x (.inl e) hf) (fun e => ha x (.inr e) hf)
  obtain ⟨k1, k2⟩ := h'.held (one g' hg' (.inl rfl)) (fun x hf => one x (h'.store.foot_lt hf) (.inr hf))
  refine ⟨k1, fun x hx hx' => ?_⟩
  have hx2 : x = g' ∨ FOOT w g' C' x := hx'.imp id (k2 x)
  have hlt : x < w.heap.size := by
    rcases hx2 with rfl | hf
    · exact hg'
    · exact h'.store.foot_lt hf
  rcases hx with e | hf
  · exact ha x (.inl e) hx2
  · rcases hst.foot x hf with h1 | h1
    · exact ha x (.inr h1) hx2
    · omega
theorem APART.below {w w' : World} {B B' g g' : Nat} {d d' : Int} {log log' n n' : Nat} {C C' : CHUNKS} {f f' : Nat → Nat → Nat} (ha : APART w g C g' C') (h : FOREST w B g d log n C f) (h' : FOREST w B' g' d' log' n' C' f') (hb : Below w.heap.size w w') : APART w' g C g' C' := fun x hx hx' =>
  ha x (hx.imp id (h.store.foot_below hb)) (hx'.imp id (h'.store.foot_below hb))
/-- a tree that was made later. -/
theorem APART.later {w w' : World} {B g g' : Nat} {d : Int} {log n : Nat} {C C' : CHUNKS} {f : Nat → Nat → Nat} (h : FOREST w B g d log n C f) (hb : Below w.heap.size w w') (hg' : w.heap.size ≤ g') (hf' : ∀ x, x < w.heap.size → ¬ FOOT w' g' C' x) : APART w' g C g' C' := fun x hx hx' => by
  have h1 : x < w.heap.size := by
    rcases hx with rfl | hf
    · exact h.store.lt
    · exact h.store.foot_lt (h.store.foot_below hb hf)
  rcases hx' with rfl | hf
  · omega
  · exact hf' x h1 hf
end Go.Proofs.YtdmbmphdiaepdaaDoor.HX

/- The region of folded of package mmr that draws its order. -/
namespace Go.Proofs.YtdmbmphdiaepdaaDoor.HX
open Go.RowKit
set_option maxRecDepth 100000

def MF8OPS : Array Oper := #[{ dst := some 25, op := Op.move (Operand.tmp 0), type := 3, pos := "grow.go:30", after := #[], guard := none }, { dst := some 26, op := Op.move (Operand.tmp 1), type := 22, pos := "grow.go:30", after := #[], guard := none }, { dst := some 27, op := Op.move (Operand.tmp 7), type := 3, pos := "grow.go:30", after := #[], guard := none }, { dst := some 28, op := Op.indexAddr 22 (Operand.tmp 26) (Operand.tmp 27), type := 0, pos := "grow.go:30", after := #[{ on := 1, ground := Ground.data }, { on := 2, ground := Ground.data }], guard := none }, { dst := some 29, op := Op.load 30 (Operand.tmp 28), type := 30, pos := "grow.go:30", after := #[{ on := 3, ground := Ground.data }], guard := none }, { dst := some 30, op := Op.load 30 (Operand.tmp 6), type := 30, pos := "grow.go:30", after := #[], guard := none }, { dst := some 31, op := Op.call { callee := Callee.value (Operand.func 26), args := #[Operand.tmp 25, Operand.tmp 29, Operand.tmp 30], argTypes := #[3, 30, 30] }, type := 30, pos := "grow.go:30", after := #[{ on := 0, ground := Ground.data }, { on := 4, ground := Ground.data }, { on := 5, ground := Ground.data }], guard := none }, { dst := none, op := Op.store 30 (Operand.tmp 6) (Operand.tmp 31), type := 0, pos := "grow.go:30", after := #[{ on := 6, ground := Ground.data }, { on := 6, ground := Ground.chain }, { on := 0, ground := Ground.phase }, { on := 1, ground := Ground.phase }, { on := 2, ground := Ground.phase }, { on := 3, ground := Ground.phase }, { on := 4, ground := Ground.phase }, { on := 5, ground := Ground.phase }, { on := 6, ground := Ground.phase }], guard := none }]
set_option maxHeartbeats 2000000 in
theorem folded_next {Q : Exit → Act → World → Prop} {u2 u3 u4 u5 u8 u9 u10 u11 u12 u13 u14 u15 u16 u17 u18 u19 u20 u21 u22 u23 u24 u25 u26 u27 u28 u29 u30 u31 u32 : Value} (W : World) (gn o n c b q : Nat) (d : Int) (l x y : Nat → Nat) (hq : (q : Int) < (n : Int)) (I : World → Prop) (h0 : I W.drew) (hI : ∀ w, I w → w.rangeAt gn (o + q * 32) (ULIST .u8 32 l) ∧ Has w b (UARR .u8 32 x) 30) (hRow : ∀ w, I w → (w.setRow b (UARR .u8 32 y)).rangeAt gn (o + q * 32) (ULIST .u8 32 l))
    (c1 : ∀ w, I w → Calls Tryd.prog 26 #[.int .i64 d, .agg (UARR .u8 32 l), .agg (UARR .u8 32 x)] w fun e w' => e = .returned (.agg (UARR .u8 32 y)) ∧ I w') (hQ : ∀ c (a : Act) (t : Tmp) (v : Value) w, Q (.panic c) (a.put (some t) v) w → Q (.panic c) a w)
    (hfin : ∀ (w : World), (∃ w0 : World, I w0 ∧ w = w0.setRow b (UARR .u8 32 y)) → Q .normal { tmps := #[.int .i64 d, .slice (some ⟨gn, o, none⟩) n c, u2, u3, u4, u5, .pointer (some ⟨b, 0, none⟩), .int .i64 (q : Int), u8, u9, u10, u11, u12, u13, u14, u15, u16, u17, u18, u19, u20, u21, u22, u23, u24, .int .i64 d, .slice (some ⟨gn, o, none⟩) n c, .int .i64 (q : Int), .pointer (some ⟨gn, (o + q * 32), none⟩), .agg (UARR .u8 32 l), .agg (UARR .u8 32 x), .agg (UARR .u8 32 y), u32], defers := [] } w) : (Code.region 8 MF8OPS true).wp Tryd.prog Q { tmps := #[.int .i64 d, .slice (some ⟨gn, o, none⟩) n c, u2, u3, u4, u5, .pointer (some ⟨b, 0, none⟩), .int .i64 (q : Int), u8, u9, u10, u11, u12, u13, u14, u15, u16, u17, u18, u19, u20, u21, u22, u23, u24, u25, u26, u27, u28, u29, u30, u31, u32], defers := [] } W := by
  have k5_6_7 : ∀ (w : World), (∃ w0 : World, I w0 ∧ w = w0.setRow b (UARR .u8 32 y)) → wpAnyH Tryd.prog .any MF8OPS Q (fun w : World => w.rangeAt gn (o + q * 32) (ULIST .u8 32 l)) 0 #[true, true, true, true, true, true, true, true] { tmps := #[.int .i64 d, .slice (some ⟨gn, o, none⟩) n c, u2, u3, u4, u5, .pointer (some ⟨b, 0, none⟩), .int .i64 (q : Int), u8, u9, u10, u11, u12, u13, u14, u15, u16, u17, u18, u19, u20, u21, u22, u23, u24, .int .i64 d, .slice (some ⟨gn, o, none⟩) n c, .int .i64 (q : Int), .pointer (some ⟨gn, (o + q * 32), none⟩), .agg (UARR .u8 32 l), .agg (UARR .u8 32 x), .agg (UARR .u8 32 y), u32], defers := [] } w := fun  w hp => by
    exact wpAnyH_done (by kernel_rfl) (hfin  w hp) _
  have k5_6 : ∀ (w : World), (I w) → wpAnyH Tryd.prog .any MF8OPS Q (fun w : World => w.rangeAt gn (o + q * 32) (ULIST .u8 32 l)) 1 #[true, true, true, true, true, true, true, false] { tmps := #[.int .i64 d, .slice (some ⟨gn, o, none⟩) n c, u2, u3, u4, u5, .pointer (some ⟨b, 0, none⟩), .int .i64 (q : Int), u8, u9, u10, u11, u12, u13, u14, u15, u16, u17, u18, u19, u20, u21, u22, u23, u24, .int .i64 d, .slice (some ⟨gn, o, none⟩) n c, .int .i64 (q : Int), .pointer (some ⟨gn, (o + q * 32), none⟩), .agg (UARR .u8 32 l), .agg (UARR .u8 32 x), .agg (UARR .u8 32 y), u32], defers := [] } w := fun  w hp => by
    refine wpAnyH_ready (rs := [7]) (by kernel_rfl) (by simp) ?_
    refine AllReadyH.cons (o := { dst := none, op := Op.store 30 (Operand.tmp 6) (Operand.tmp 31), type := 0, pos := "grow.go:30", after := #[{ on := 6, ground := Ground.data }, { on := 6, ground := Ground.chain }, { on := 0, ground := Ground.phase }, { on := 1, ground := Ground.phase }, { on := 2, ground := Ground.phase }, { on := 3, ground := Ground.phase }, { on := 4, ground := Ground.phase }, { on := 5, ground := Ground.phase }, { on := 6, ground := Ground.phase }], guard := none }) rfl (fun K hK => ?_) ?_
    · exact step_skip rfl (run_skip (store_hash (hI _ hp).2 y)) (have hp : (fun (w : World) => (∃ w0 : World, I w0 ∧ w = w0.setRow b (UARR .u8 32 y)))  _ := ⟨w, hp, rfl⟩; hK.out _ _ ((by obtain ⟨w0, h1, h2⟩ := hp; (first | rw [h2] | skip); exact hRow _ h1)) (fun _ => k5_6_7  _ hp))
    exact AllReadyH.nil
  have k5 : ∀ (w : World), (I w) → wpAnyH Tryd.prog .any MF8OPS Q (fun w : World => w.rangeAt gn (o + q * 32) (ULIST .u8 32 l)) 2 #[true, true, true, true, true, true, false, false] { tmps := #[.int .i64 d, .slice (some ⟨gn, o, none⟩) n c, u2, u3, u4, u5, .pointer (some ⟨b, 0, none⟩), .int .i64 (q : Int), u8, u9, u10, u11, u12, u13, u14, u15, u16, u17, u18, u19, u20, u21, u22, u23, u24, .int .i64 d, .slice (some ⟨gn, o, none⟩) n c, .int .i64 (q : Int), .pointer (some ⟨gn, (o + q * 32), none⟩), .agg (UARR .u8 32 l), .agg (UARR .u8 32 x), u31, u32], defers := [] } w := fun  w hp => by
    refine wpAnyH_ready (rs := [6]) (by kernel_rfl) (by simp) ?_
    refine AllReadyH.cons (o := { dst := some 31, op := Op.call { callee := Callee.value (Operand.func 26), args := #[Operand.tmp 25, Operand.tmp 29, Operand.tmp 30], argTypes := #[3, 30, 30] }, type := 30, pos := "grow.go:30", after := #[{ on := 0, ground := Ground.data }, { on := 4, ground := Ground.data }, { on := 5, ground := Ground.data }], guard := none }) rfl (fun K hK => ?_) ?_
    · rw [if_pos (by rfl)]
      go_simp
      refine (show Calls _ _ _ w (fun e w' => e = .returned (.agg (UARR .u8 32 y)) ∧ (I w')) from c1 w hp).mono ?_
      rintro e w' ⟨rfl, hp⟩
      exact hK.out _ _ ((hI _ hp).1) (fun _ => k5_6  w' hp)
    exact AllReadyH.nil
  have k : ∀ (w : World), (I w) → wpAnyH Tryd.prog .any MF8OPS Q (fun w : World => w.rangeAt gn (o + q * 32) (ULIST .u8 32 l)) 3 #[true, true, true, true, true, false, false, false] { tmps := #[.int .i64 d, .slice (some ⟨gn, o, none⟩) n c, u2, u3, u4, u5, .pointer (some ⟨b, 0, none⟩), .int .i64 (q : Int), u8, u9, u10, u11, u12, u13, u14, u15, u16, u17, u18, u19, u20, u21, u22, u23, u24, .int .i64 d, .slice (some ⟨gn, o, none⟩) n c, .int .i64 (q : Int), .pointer (some ⟨gn, (o + q * 32), none⟩), .agg (UARR .u8 32 l), u30, u31, u32], defers := [] } w := fun  w hp => by
    refine wpAnyH_ready (rs := [5]) (by kernel_rfl) (by simp) ?_
    refine AllReadyH.cons (o := { dst := some 30, op := Op.load 30 (Operand.tmp 6), type := 30, pos := "grow.go:30", after := #[], guard := none }) rfl (fun K hK => ?_) ?_
    · exact step_load rfl 30 (.tmp 6) rfl b 0 rfl (ULIST .u8 32 x) _ (hI _ hp).2.whole Tryd.underlying30 rfl (by rw [ULIST_length]; exact info_hash) (have hp : (fun (w : World) => (I w))  w := hp; hK.out _ _ ((hI _ hp).1) (fun _ => k5  _ hp))
    exact AllReadyH.nil
  have hp := h0
  have hww : (fun w : World => w.rangeAt gn (o + q * 32) (ULIST .u8 32 l)) W.drew := (hI _ hp).1
  have last := k W.drew hp
  have z : wpAnyH Tryd.prog .any MF8OPS Q (fun w : World => w.rangeAt gn (o + q * 32) (ULIST .u8 32 l)) 8 #[false, false, false, false, false, false, false, false] { tmps := #[.int .i64 d, .slice (some ⟨gn, o, none⟩) n c, u2, u3, u4, u5, .pointer (some ⟨b, 0, none⟩), .int .i64 (q : Int), u8, u9, u10, u11, u12, u13, u14, u15, u16, u17, u18, u19, u20, u21, u22, u23, u24, u25, u26, u27, u28, u29, u30, u31, u32], defers := [] } W.drew := by
    have t4 : wpAnyH Tryd.prog .any MF8OPS Q (fun w : World => w.rangeAt gn (o + q * 32) (ULIST .u8 32 l)) 4 #[true, true, true, true, false, false, false, false] { tmps := #[.int .i64 d, .slice (some ⟨gn, o, none⟩) n c, u2, u3, u4, u5, .pointer (some ⟨b, 0, none⟩), .int .i64 (q : Int), u8, u9, u10, u11, u12, u13, u14, u15, u16, u17, u18, u19, u20, u21, u22, u23, u24, .int .i64 d, .slice (some ⟨gn, o, none⟩) n c, .int .i64 (q : Int), .pointer (some ⟨gn, (o + q * 32), none⟩), u29, u30, u31, u32], defers := [] } W.drew :=
      wpAnyH_take (i := 4) (oi := { dst := some 29, op := Op.load 30 (Operand.tmp 28), type := 30, pos := "grow.go:30", after := #[{ on := 3, ground := Ground.data }], guard := none }) (v := .agg (UARR .u8 32 l)) rfl (by kernel_rfl) (by kernel_rfl) (by kernel_rfl) (fun _ _ _ h => hQ _ _ _ _ _ h) (yieldsIf_load_mid (by rfl) 30 (.tmp 28) rfl gn (o + q * 32) rfl (ULIST .u8 32 l) _ (fun w h => h) Tryd.underlying30 rfl (by rw [ULIST_length]; exact info_hash)) hww last
    have t3 : wpAnyH Tryd.prog .any MF8OPS Q (fun w : World => w.rangeAt gn (o + q * 32) (ULIST .u8 32 l)) 5 #[true, true, true, false, false, false, false, false] { tmps := #[.int .i64 d, .slice (some ⟨gn, o, none⟩) n c, u2, u3, u4, u5, .pointer (some ⟨b, 0, none⟩), .int .i64 (q : Int), u8, u9, u10, u11, u12, u13, u14, u15, u16, u17, u18, u19, u20, u21, u22, u23, u24, .int .i64 d, .slice (some ⟨gn, o, none⟩) n c, .int .i64 (q : Int), u28, u29, u30, u31, u32], defers := [] } W.drew :=
      wpAnyH_take (i := 3) (oi := { dst := some 28, op := Op.indexAddr 22 (Operand.tmp 26) (Operand.tmp 27), type := 0, pos := "grow.go:30", after := #[{ on := 1, ground := Ground.data }, { on := 2, ground := Ground.data }], guard := none }) (v := .pointer (some ⟨gn, (o + q * 32), none⟩)) rfl (by kernel_rfl) (by kernel_rfl) (by kernel_rfl) (fun _ _ _ h => hQ _ _ _ _ _ h) (Yields.yieldsIf (Or.inl ⟨by rfl, fun W => by go_simp⟩)) hww t4
    have t2 : wpAnyH Tryd.prog .any MF8OPS Q (fun w : World => w.rangeAt gn (o + q * 32) (ULIST .u8 32 l)) 6 #[true, true, false, false, false, false, false, false] { tmps := #[.int .i64 d, .slice (some ⟨gn, o, none⟩) n c, u2, u3, u4, u5, .pointer (some ⟨b, 0, none⟩), .int .i64 (q : Int), u8, u9, u10, u11, u12, u13, u14, u15, u16, u17, u18, u19, u20, u21, u22, u23, u24, .int .i64 d, .slice (some ⟨gn, o, none⟩) n c, u27, u28, u29, u30, u31, u32], defers := [] } W.drew :=
      wpAnyH_take (i := 2) (oi := { dst := some 27, op := Op.move (Operand.tmp 7), type := 3, pos := "grow.go:30", after := #[], guard := none }) (v := .int .i64 (q : Int)) rfl (by kernel_rfl) (by kernel_rfl) (by kernel_rfl) (fun _ _ _ h => hQ _ _ _ _ _ h) (Yields.yieldsIf (Or.inl ⟨by rfl, fun W => by go_simp⟩)) hww t3
    have t1 : wpAnyH Tryd.prog .any MF8OPS Q (fun w : World => w.rangeAt gn (o + q * 32) (ULIST .u8 32 l)) 7 #[true, false, false, false, false, false, false, false] { tmps := #[.int .i64 d, .slice (some ⟨gn, o, none⟩) n c, u2, u3, u4, u5, .pointer (some ⟨b, 0, none⟩), .int .i64 (q : Int), u8, u9, u10, u11, u12, u13, u14, u15, u16, u17, u18, u19, u20, u21, u22, u23, u24, .int .i64 d, u26, u27, u28, u29, u30, u31, u32], defers := [] } W.drew :=
      wpAnyH_take (i := 1) (oi := { dst := some 26, op := Op.move (Operand.tmp 1), type := 22, pos := "grow.go:30", after := #[], guard := none }) (v := .slice (some ⟨gn, o, none⟩) n c) rfl (by kernel_rfl) (by kernel_rfl) (by kernel_rfl) (fun _ _ _ h => hQ _ _ _ _ _ h) (Yields.yieldsIf (Or.inl ⟨by rfl, fun W => by go_simp⟩)) hww t2
    have t0 : wpAnyH Tryd.prog .any MF8OPS Q (fun w : World => w.rangeAt gn (o + q * 32) (ULIST .u8 32 l)) 8 #[false, false, false, false, false, false, false, false] { tmps := #[.int .i64 d, .slice (some ⟨gn, o, none⟩) n c, u2, u3, u4, u5, .pointer (some ⟨b, 0, none⟩), .int .i64 (q : Int), u8, u9, u10, u11, u12, u13, u14, u15, u16, u17, u18, u19, u20, u21, u22, u23, u24, u25, u26, u27, u28, u29, u30, u31, u32], defers := [] } W.drew :=
      wpAnyH_take (i := 0) (oi := { dst := some 25, op := Op.move (Operand.tmp 0), type := 3, pos := "grow.go:30", after := #[], guard := none }) (v := .int .i64 d) rfl (by kernel_rfl) (by kernel_rfl) (by kernel_rfl) (fun _ _ _ h => hQ _ _ _ _ _ h) (Yields.yieldsIf (Or.inl ⟨by rfl, fun W => by go_simp⟩)) hww t1
    exact t0
  exact wp_region_held_drew (S := (fun w : World => w.rangeAt gn (o + q * 32) (ULIST .u8 32 l))) (by kernel_rfl) hww (fun _ => z)
end Go.Proofs.YtdmbmphdiaepdaaDoor.HX
