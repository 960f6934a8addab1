/- Texts of MmrBags, one behind the other: PosKin, PosPlace, PosOk, MmrCalls, MmrBag, MmrTree, PosBackward. -/
import Derived.Deep.QuietTactic
import Derived.BigQuiet
import Derived.Deep.RegionHeld3
import Derived.RangeFuncBox
import Derived.RangeFuncLeaves
import Derived.RangeFuncCalls
import Derived.Shelf.Abstract
import Derived.Shelf.RegionOpen
import Derived.WalkKit
import Derived.OwnWalkIn
import Derived.TacticsInMore
import Derived.LoopNIn
import Derived.LoopIn
import Derived.Maps.AppendAt
import Derived.Test.YtdmbmphdiaepdaaGreatDoorMmrBagsP8
import Derived.Test.YtdmbmphdiaepdaaGreatDoorMmrBagsP9
import Derived.Test.YtdmbmphdiaepdaaGreatDoorMmrBagsP18
import Derived.Test.YtdmbmphdiaepdaaGreatDoorMmrBagsP20
import Derived.Test.YtdmbmphdiaepdaaGreatDoorMmrBagsP22
/- What Index, Leaves, Parent, Sibling, Kids, Right, Under and Since answer. -/
namespace Go.Proofs.YtdmbmphdiaepdaaGreatDoor
open Go.RowKit

/-- Spot answers so at p. -/
def SpotAt (p : Int) (h k : Nat) (ok : Bool) : Prop := ∀ w, Calls Tryz.prog 51 #[.int .u64 p] w fun e w' => e = .returned (.tuple #[SPOT h k, .bool ok]) ∧ Below w.heap.size w w'
theorem SpotAt.node {h k : Nat} (hN : Node h k) : SpotAt ((PLC h k : Nat) : Int) h k true := fun w => spot_ok h k hN w
theorem SpotAt.out {p : Int} (hp : 9223372036854775807 ≤ p) : SpotAt p 0 0 false := fun w => spot_not p hp w

theorem sibling_raw (p : Int) (h k : Nat) (b : Bool) (r : Int) (w : World) (hh : ((h : Int) == 62) = false) (hm : wrap64 (h : Int) = (h : Int)) (ha : (bits .and .u64 (k : Int) 1 == 1) = b) (cs : SpotAt p h k true)
    (co : ∀ w, Calls Tryz.prog 52 #[.int .u64 p, .int .i64 (h : Int), .bool b] w fun e w' => e = .returned (.int .u64 r) ∧ w = w') :
    Calls Tryz.prog 33 #[.int .u64 p] w fun e w' => e = .returned (.tuple #[.int .u64 r, .bool true]) ∧ Below w.heap.size w w' := by
  have cs := cs w
  go_enter Tryz.func33, Tryz.ntmps33
  go_wp2_with fail
  refine cs.mono ?_
  rintro e w1 ⟨rfl, hb⟩
  clear cs
  have R : Aside (Below w.heap.size w w1) := hb
  clear hb
  go_wp2_with fail
  refine (co _).mono ?_
  rintro e w2 ⟨rfl, rfl⟩
  clear co
  go_wp2
  go_ret2
  exact ⟨rfl, R.out.alloc R.out.size _⟩
theorem sibling_top (p : Int) (k : Nat) (w : World) (cs : SpotAt p 62 k true) : Calls Tryz.prog 33 #[.int .u64 p] w fun e w' => e = .returned (.tuple #[.int .u64 0, .bool false]) ∧ Below w.heap.size w w' := by
  have cs := cs w
  go_enter Tryz.func33, Tryz.ntmps33
  go_wp2_with fail
  refine cs.mono ?_
  rintro e w1 ⟨rfl, hb⟩
  clear cs
  have R : Aside (Below w.heap.size w w1) := hb
  clear hb
  go_wp2
  go_ret2
  exact ⟨rfl, R.out.alloc R.out.size _⟩
theorem sibling_not (p : Int) (h k : Nat) (w : World) (cs : SpotAt p h k false) : Calls Tryz.prog 33 #[.int .u64 p] w fun e w' => e = .returned (.tuple #[.int .u64 0, .bool false]) ∧ Below w.heap.size w w' := by
  have cs := cs w
  go_enter Tryz.func33, Tryz.ntmps33
  go_wp2_with fail
  refine cs.mono ?_
  rintro e w1 ⟨rfl, hb⟩
  clear cs
  have R : Aside (Below w.heap.size w w1) := hb
  clear hb
  go_wp2
  go_ret2
  exact ⟨rfl, R.out.alloc R.out.size _⟩
theorem right_raw (p : Int) (h k : Nat) (b : Bool) (w : World) (ha : (bits .and .u64 (k : Int) 1 == 1) = b) (cs : SpotAt p h k true) :
    Calls Tryz.prog 32 #[.int .u64 p] w fun e w' => e = .returned (.bool b) ∧ Below w.heap.size w w' := by
  have cs := cs w
  go_enter Tryz.func32, Tryz.ntmps32
  go_wp2_with fail
  refine cs.mono ?_
  rintro e w1 ⟨rfl, hb⟩
  clear cs
  have R : Aside (Below w.heap.size w w1) := hb
  clear hb
  go_wp2
  go_ret
  exact ⟨rfl, R.out.alloc R.out.size _⟩
theorem right_not (p : Int) (h k : Nat) (w : World) (cs : SpotAt p h k false) : Calls Tryz.prog 32 #[.int .u64 p] w fun e w' => e = .returned (.bool false) ∧ Below w.heap.size w w' := by
  have cs := cs w
  go_enter Tryz.func32, Tryz.ntmps32
  go_wp2_with fail
  refine cs.mono ?_
  rintro e w1 ⟨rfl, hb⟩
  clear cs
  have R : Aside (Below w.heap.size w w1) := hb
  clear hb
  go_wp2
  go_ret
  exact ⟨rfl, R.out.alloc R.out.size _⟩
end Go.Proofs.YtdmbmphdiaepdaaGreatDoor

/- What Place answers. -/
namespace Go.Proofs.YtdmbmphdiaepdaaGreatDoor
open Go.RowKit

theorem quiet_eq {P : Program} {f : FuncId} {args : Array Value} {w : World} {n : Nat} {v : Value}
    (h : Calls P f args (w.drewN n) fun e w' => e = .returned v ∧ w.drewN n = w') : Calls P f args (w.drewN n) fun e w'' => e = .returned v ∧ ∃ m, w'' = w.drewN m :=
  h.mono fun _ _ ⟨he, hm⟩ => ⟨he, n, hm.symm⟩
end Go.Proofs.YtdmbmphdiaepdaaGreatDoor

/- What the functions of package pos answer, node by node. -/
namespace Go.Proofs.YtdmbmphdiaepdaaGreatDoor
open Go.RowKit

theorem and_one (k : Nat) (hk : k < 2 ^ 64) : bits .and .u64 (k : Int) 1 = ((k % 2 : Nat) : Int) := by
  have : bits .and .u64 (k : Int) ((1 : Nat) : Int) = ((k &&& 1 : Nat) : Int) := and_eq hk (by decide)
  rw [Nat.and_one_is_mod] at this
  exact this
theorem odd_eq (k : Nat) (hk : k < 2 ^ 64) : (bits .and .u64 (k : Int) 1 == 1) = decide (k % 2 = 1) := by
  rw [and_one k hk, Bool.eq_iff_iff]
  simp
  omega
theorem shift_eq (a h : Nat) (hh : h ≤ 62) (hl : a * 2 ^ h < 2 ^ 64) : IntKind.u64.wrap ((a : Int) * 2 ^ min h 64) = ((a * 2 ^ h : Nat) : Int) := by
  rw [show min h 64 = h by omega, mul_cast, Nat.mod_eq_of_lt hl]
theorem MASK_pow {h : Nat} (hh : h ≤ 62) : MASK (62 - (h : Int)) = 2 ^ (62 - h) - 1 := by
  unfold MASK
  rw [show min (62 - (h : Int)).toNat 64 = 62 - h by omega]
theorem PLC_parent (h k : Nat) : PLC (h + 1) (k / 2) = if k % 2 = 1 then PLC h k + 1 else PLC h k + TREE h + 1 := by
  split
  · have := PLC_up_right h (k / 2)
    rw [show 2 * (k / 2) + 1 = k by omega] at this
    exact this
  · have := PLC_up_left h (k / 2)
    rw [show 2 * (k / 2) = k by omega] at this
    have h3 := two_le h
    unfold TREE
    omega
theorem PLC_sibling (h k : Nat) : PLC h (SIB k) = if k % 2 = 1 then PLC h k - TREE h else PLC h k + TREE h := by
  unfold SIB
  split
  · have := PLC_sib h (k / 2)
    rw [show 2 * (k / 2) + 1 = k by omega, show 2 * (k / 2) = k - 1 by omega] at this
    omega
  · have := PLC_sib h (k / 2)
    rw [show 2 * (k / 2) = k by omega] at this
    omega
theorem tree_le_right {h k : Nat} (hk : k % 2 = 1) : TREE h ≤ PLC h k := by
  have := PLC_sib h (k / 2)
  rw [show 2 * (k / 2) + 1 = k by omega] at this
  omega
theorem beside_ok (h k : Nat) (hN : Node h k) (hh : h < 62) (w : World) : Calls Tryz.prog 52 #[.int .u64 ((PLC h k : Nat) : Int), .int .i64 (h : Int), .bool (decide (k % 2 = 1))] w fun e w' => e = .returned (.int .u64 ((PLC h (SIB k) : Nat) : Int)) ∧ w = w' := by
  have h0 := hN.lt
  have h1 := (hN.sib hh).lt
  have h2 := PLC_sibling h k
  by_cases hk : k % 2 = 1
  · rw [if_pos hk] at h2
    rw [decide_eq_true hk]
    have h3 := tree_le_right (h := h) hk
    have := beside_right (PLC h k : Nat) (h : Int) (TREE h : Nat) w (fun w => tree_ok h (by omega) w)
    rw [show IntKind.u64.wrap (((PLC h k : Nat) : Int) - ((TREE h : Nat) : Int)) = ((PLC h (SIB k) : Nat) : Int) by rw [wrapU]; omega] at this
    exact this
  · rw [if_neg hk] at h2
    rw [decide_eq_false hk]
    have := beside_left (PLC h k : Nat) (h : Int) (TREE h : Nat) w (fun w => tree_ok h (by omega) w)
    rw [show IntKind.u64.wrap (((PLC h k : Nat) : Int) + ((TREE h : Nat) : Int)) = ((PLC h (SIB k) : Nat) : Int) by rw [wrapU]; omega] at this
    exact this
theorem sibling_ok (h k : Nat) (hN : Node h k) (hh : h < 62) (w : World) : Calls Tryz.prog 33 #[.int .u64 ((PLC h k : Nat) : Int)] w fun e w' => e = .returned (.tuple #[.int .u64 ((PLC h (SIB k) : Nat) : Int), .bool true]) ∧ Below w.heap.size w w' :=
  sibling_raw _ h k (decide (k % 2 = 1)) _ w (by simp; omega) (by unfold wrap64; omega) (odd_eq k (by have := hN.index_lt; omega)) (.node hN) (fun w => beside_ok h k hN hh w)
theorem Node.kid {h k : Nat} (a : Node (h + 1) k) : Node h (2 * k) ∧ Node h (2 * k + 1) := by
  have h1 := a.1
  have h2 := a.2
  have e : 2 ^ (62 - h) = 2 ^ (62 - (h + 1)) * 2 := by rw [← Nat.pow_succ]; congr 1; omega
  exact ⟨⟨by omega, by rw [e]; omega⟩, ⟨by omega, by rw [e]; omega⟩⟩
theorem right_ok (h k : Nat) (hN : Node h k) (w : World) : Calls Tryz.prog 32 #[.int .u64 ((PLC h k : Nat) : Int)] w fun e w' => e = .returned (.bool (decide (k % 2 = 1))) ∧ Below w.heap.size w w' :=
  right_raw _ h k _ w (odd_eq k (by have := hN.index_lt; omega)) (.node hN)
end Go.Proofs.YtdmbmphdiaepdaaGreatDoor

/- A tree's small calls: left, Node, New. -/
namespace Go.Proofs.YtdmbmphdiaepdaaGreatDoor.HX
open Go.RowKit
set_option maxRecDepth 100000

theorem results_cell {fn : Func} {p : Tmp} {ty : TypeId} (h : fn.results = #[.cell p ty]) (tmps : Array Value) (w : World) (g : Nat) (t : TypeId) (cs : Array Value) (fr : Nat × Nat) (k : Nat) (el : TypeId)
    (hp : tmps.getD p undef = .pointer (some ⟨g, 0, none⟩)) (hg : w.heap[g]? = some (.cells cs t fr))
    (hu : Tryz.prog.underlying ty = some (.array k el)) (hi : (Tryz.prog.info? ty).map (·.size) = some cs.size) :
    (results fn tmps).run Tryz.prog w = .ok (.agg cs) w := by
  have hp' : tmps[p]?.getD undef = .pointer (some ⟨g, 0, none⟩) := by simpa using hp
  simp [results, h, hp', asAddr, run_loadVar_row w g t ty cs fr (.array k el) hg hu rfl hi]
set_option maxHeartbeats 1000000 in
theorem left_ok {w : World} {B g log len alive N : Nat} {C : CHUNKS} (hS : STORE w B g log len alive N C) (j k : Nat) (hN : Node j k) (hj : j < 62) (hs : PLC j (SIB k) < len) (L : Nat → Nat) (hL : AT C log (PLC j (SIB k)) = some L) :
    Calls Tryz.prog 43 #[.pointer (some ⟨g, 0, none⟩), .int .u64 ((PLC j k : Nat) : Int)] w fun e w' => e = .returned (.agg (UARR .u8 32 L)) ∧ Below w.heap.size w w' := by
  have hz := zeroHash
  obtain ⟨w0, hw0⟩ : ∃ w0, w.alloc (.cells (UARR .u8 32 fun _ => 0) 26) = w0 := ⟨_, rfl⟩
  have hb0 : Below w.heap.size w w0 := by rw [← hw0]; exact (Below.refl _ _).alloc (Nat.le_refl _) _
  have h40 : Has w0 w.heap.size (UARR .u8 32 fun _ => 0) 26 := by rw [← hw0]; exact Has.new w _ _
  have cs := sibling_ok j k hN hj w0
  have hp64 : PLC j (SIB k) < 2 ^ 64 := by have := hS.short; omega
  have cg := fun (W : World) (hb : Below w0.heap.size w0 W) => get_ok ((hS.below hb0).below hb) (PLC j (SIB k)) hp64
  have e1 : GOTH C log len (PLC j (SIB k)) = L := by unfold GOTH; rw [if_pos hs, hL]; rfl
  have e2 : GOT C log len (PLC j (SIB k)) = 0 := by unfold GOT; rw [if_pos hs, hL]; rfl
  rw [e1, e2] at cg
  clear hS hN hj hs hL e1 e2 hp64
  generalize PLC j (SIB k) = q at *
  generalize PLC j k = p at *
  go_enter Tryz.func43, Tryz.ntmps43
  go_wp2_with fail
  refine cs.mono ?_
  rintro e w1 ⟨rfl, hb1⟩
  clear cs
  go_wp2_with fail
  refine (cg w1 hb1).mono ?_
  rintro e w2 ⟨rfl, hb2⟩
  clear cg
  have hst := run_storeCells_new (P := Tryz.prog) w2 26 (UARR .u8 32 fun _ => 0) (UARR .u8 32 L) (info_HASH _) (by rw [UARR_size, UARR_size]) (UARR_one _ _ _)
  have hsu := UARR_size .u8 32 L
  obtain ⟨w3, hw3⟩ : ∃ w3, w2.alloc (.cells (UARR .u8 32 L) 26) = w3 := ⟨_, rfl⟩
  have hb12 : Below w0.heap.size w0 w2 := hb1.trans (hb2.mono hb1.size)
  have hb3 : Below w0.heap.size w0 w3 := by rw [← hw3]; exact hb12.alloc hb12.size _
  have hF3 : Has w3 w2.heap.size (UARR .u8 32 L) 26 := by rw [← hw3]; exact Has.new w2 _ _
  have h43 := h40.keep hb3
  have hb3' : Below w.heap.size w w3 := hb0.trans (hb3.mono hb0.size)
  have hst2 := store_cells32 h43 L
  go_wp2_with (first
    | (refine wpList_load_row rfl 26 (.tmp 7) rfl w2.heap.size rfl 26 (UARR .u8 32 L) (0, 0) _ hF3 Tryz.underlying26 rfl (info_HASH _) ?_)
    | fail)
  refine bodyPost_ret (v := .agg (UARR .u8 32 L)) ?_ rfl ⟨rfl, below_row hb3' (Nat.le_refl _) _⟩
  exact results_cell rfl _ _ w.heap.size 26 _ (0, 0) _ _ rfl (h43.row _) Tryz.underlying26 (info_HASH _)
set_option maxHeartbeats 1000000 in
theorem treenode_ok {w : World} {B g log len alive N : Nat} {C : CHUNKS} (hS : STORE w B g log len alive N C) (p : Nat) (hp : p < 2 ^ 64) :
    Calls Tryz.prog 24 #[.pointer (some ⟨g, 0, none⟩), .int .u64 (p : Int)] w fun e w' => e = .returned (.tuple #[.agg (UARR .u8 32 (GOTH C log len p)), .int .i64 (GOT C log len p)]) ∧ Below w.heap.size w w' := by
  have hz := zeroHash
  obtain ⟨w0, hw0⟩ : ∃ w0, w.alloc (.cells (UARR .u8 32 fun _ => 0) 26) = w0 := ⟨_, rfl⟩
  have hb0 : Below w.heap.size w w0 := by rw [← hw0]; exact (Below.refl _ _).alloc (Nat.le_refl _) _
  have h40 : Has w0 w.heap.size (UARR .u8 32 fun _ => 0) 26 := by rw [← hw0]; exact Has.new w _ _
  have cg := get_ok (hS.below hb0) p hp
  clear hS
  generalize GOTH C log len p = L at *
  generalize GOT C log len p = E at *
  go_enter Tryz.func24, Tryz.ntmps24
  go_wp2_with fail
  refine cg.mono ?_
  rintro e w1 ⟨rfl, hb1⟩
  clear cg
  have h41 := h40.keep hb1
  have hst2 := store_cells32 h41 L
  have hb1' : Below w.heap.size w w1 := hb0.trans (hb1.mono hb0.size)
  have hsu := UARR_size .u8 32 L
  go_wp2
  refine bodyPost_ret (v := .tuple #[.agg (UARR .u8 32 L), .int .i64 E]) ?_ rfl ⟨rfl, below_row hb1' (Nat.le_refl _) _⟩
  exact results_hash rfl _ _ w.heap.size 26 _ (0, 0) _ _ rfl (h41.row _) _ rfl Tryz.underlying26 (info_HASH _)
end Go.Proofs.YtdmbmphdiaepdaaGreatDoor.HX

/- folded and Bag of package mmr, hashes as functions. -/
namespace Go.Proofs.YtdmbmphdiaepdaaGreatDoor.HX
open Go.RowKit
set_option maxRecDepth 100000

/-- a slice of hashes lies there. -/
def HASHES (w : World) (a : Option Addr) (n : Nat) (hs : Nat → Nat → Nat) : Prop := 0 < n → ∃ b o, a = some ⟨b, o, none⟩ ∧ b < w.heap.size ∧ ∀ i, i < n → w.rangeAt b (o + i * 32) (ULIST .u8 32 (hs i))
theorem HASHES.below {w w' : World} {a : Option Addr} {n : Nat} {hs : Nat → Nat → Nat} (h : HASHES w a n hs) (hb : Below w.heap.size w w') : HASHES w' a n hs := fun hn => by
  obtain ⟨b, o, e, hl, hc⟩ := h hn
  exact ⟨b, o, e, Nat.lt_of_lt_of_le hl hb.size, fun i hi => range_below (hc i hi) hb hl⟩
def FOLDF (d : Int) (l r : Nat → Nat) : Nat → Nat := HASHOF d (2 :: ((List.range 32).map l ++ (List.range 32).map r))
def ROOTF (d : Int) (n : Nat) (r : Nat → Nat) : Nat → Nat := HASHOF d (3 :: (BE8 n ++ (List.range 32).map r))
theorem FOLDF_lt (d : Int) (l r : Nat → Nat) (i : Nat) : FOLDF d l r i < 256 := STATE_lt d _ _ i
theorem ROOTF_lt (d : Int) (n : Nat) (r : Nat → Nat) (i : Nat) : ROOTF d n r i < 256 := STATE_lt d _ _ i
/-- the last one, and k more of n folded into it. -/
def FAF (d : Int) (hs : Nat → Nat → Nat) (n : Nat) : Nat → Nat → Nat
  | 0 => hs (n - 1)
  | k + 1 => FOLDF d (hs (n - 2 - k)) (FAF d hs n k)
def FLDF (d : Int) (hs : Nat → Nat → Nat) (n : Nat) : Nat → Nat := if n = 0 then fun _ => 0 else FAF d hs n (n - 1)
theorem FAF_lt {d : Int} {hs : Nat → Nat → Nat} {n : Nat} (hb : ∀ i, i < n → ∀ j, hs i j < 256) (hn : 0 < n) : ∀ k j, FAF d hs n k j < 256
  | 0, j => hb _ (by omega) j
  | k + 1, j => FOLDF_lt _ _ _ j
theorem FLDF_lt {d : Int} {hs : Nat → Nat → Nat} {n : Nat} (hb : ∀ i, i < n → ∀ j, hs i j < 256) (j : Nat) : FLDF d hs n j < 256 := by
  unfold FLDF
  split
  · show (0 : Nat) < 256
    decide
  · exact FAF_lt hb (by omega) _ j
set_option maxHeartbeats 4000000 in
theorem foldedf_ok (d : Int) (a : Option Addr) (n c : Nat) (hn : n ≤ 1000) (hs : Nat → Nat → Nat) (w : World) (hH : HASHES w a n hs) (h8 : ∀ i, i < n → ∀ j, hs i j < 256) (hX : Tabled w) :
    Calls Tryz.prog 20 #[.int .i64 d, .slice a n c] w fun e w' => e = .returned (.agg (UARR .u8 32 (FLDF d hs n))) ∧ Below w.heap.size w w' := by
  have hz := zeroHash
  have hbn := buildHash
  obtain ⟨w0, hw0⟩ : ∃ w0, w.alloc (.cells (UARR .u8 32 fun _ => 0) 26) = w0 := ⟨_, rfl⟩
  have hb0 : Below w.heap.size w w0 := by rw [← hw0]; exact (Below.refl _ _).alloc (Nat.le_refl _) _
  have h40 : Has w0 w.heap.size (UARR .u8 32 fun _ => 0) 26 := by rw [← hw0]; exact Has.new w _ _
  by_cases h0 : n = 0
  · subst h0
    have e : FLDF d hs 0 = fun _ => 0 := rfl
    rw [e]
    clear hH hX hn e h8
    have hst2 := store_cells32 h40 (fun _ => 0)
    have hsu := UARR_size .u8 32 (fun _ => 0)
    go_enter Tryz.func20, Tryz.ntmps20
    go_wp2
    refine bodyPost_ret (v := .agg (UARR .u8 32 fun _ => 0)) (results_cell rfl _ _ w.heap.size 26 _ (0, 0) _ _ rfl (h40.row _) Tryz.underlying26 (info_HASH _)) rfl ⟨rfl, below_row hb0 (Nat.le_refl _) _⟩
  · obtain ⟨m, hm⟩ : ∃ m, n = m + 1 := ⟨n - 1, by omega⟩
    obtain ⟨gn, o, rfl, hgn, hcn⟩ := hH (by omega)
    have hz0 : ((n : Int) == 0) = false := beq_eq_false_iff_ne.2 (by omega)
    have e1 : wrap64 ((n : Int) - 1) = (m : Int) := by unfold wrap64; omega
    have hml : (m : Int) < (n : Int) := by omega
    have e : FLDF d hs n = FAF d hs n m := by unfold FLDF; rw [if_neg h0, show n - 1 = m by omega]
    rw [e]
    have hat : w0.rangeAt gn (o + m * 32) (ULIST .u8 32 (FAF d hs n 0)) := by
      have h2 : FAF d hs n 0 = hs m := by rw [FAF, show n - 1 = m by omega]
      rw [h2]
      exact range_below (hcn m (by omega)) hb0 hgn
    have HA : Aside (n = m + 1 ∧ n ≤ 1000 ∧ (∀ i, i < n → w.rangeAt gn (o + i * 32) (ULIST .u8 32 (hs i))) ∧ Tabled w ∧ gn < w.heap.size ∧ (∀ k j, FAF d hs n k j < 256) ∧ (∀ i, i < n → ∀ j, hs i j < 256)) := ⟨hm, hn, hcn, hX, hgn, FAF_lt h8 (by omega), h8⟩
    clear hm hn hX hgn hcn h0 e hH h8
    generalize hA0 : FAF d hs n 0 = A0 at *
    have hst := run_storeCells_new (P := Tryz.prog) w0 26 (UARR .u8 32 fun _ => 0) (UARR .u8 32 A0) (info_HASH _) (by rw [UARR_size, UARR_size]) (UARR_one _ _ _)
    have hsu := UARR_size .u8 32 A0
    go_enter Tryz.func20, Tryz.ntmps20
    go_wp2_with (first
      | (refine wpList_load_mid rfl 26 (.tmp 17) rfl gn (o + m * 32) rfl (ULIST .u8 32 A0) _ hat Tryz.underlying26 rfl (by rw [ULIST_length]; exact info_hash) ?_; rw [← UARR_list]))
    have R1 : Aside (Below w.heap.size w (w0.alloc (.cells (UARR .u8 32 A0) 26)) ∧ Has (w0.alloc (.cells (UARR .u8 32 A0) 26)) w.heap.size (UARR .u8 32 fun _ => 0) 26 ∧ Has (w0.alloc (.cells (UARR .u8 32 A0) 26)) w0.heap.size (UARR .u8 32 (FAF d hs n 0)) 26 ∧ w.heap.size < w0.heap.size) := ⟨hb0.alloc hb0.size _, h40.alloc _, by rw [hA0]; exact Has.new _ _ _, h40.lt⟩
    clear hat hst hsu hA0 hw0 hb0 h40
    generalize w0.alloc (.cells (UARR .u8 32 A0) 26) = W1 at *
    generalize w0.heap.size = b6 at *
    clear w0
    have K : Aside (w.heap.size < b6) := R1.out.2.2.2
    have E0 : Aside (wrap64 ((m : Int) - 1) = (m : Int) - 1) := by have := HA.out.1; have := HA.out.2.1; show wrap64 ((m : Int) - 1) = (m : Int) - 1; unfold wrap64; omega
    go_loopg [7] m (fun q s7 wx => ∃ x : Int, s7 = .int .i64 x ∧ Aside (q ≤ m ∧ x = (q : Int) - 1 ∧ Below w.heap.size w wx ∧ Has wx w.heap.size (UARR .u8 32 fun _ => 0) 26 ∧ Has wx b6 (UARR .u8 32 (FAF d hs n (m - q))) 26))
    case atStart => exact ⟨_, rfl, Nat.le_refl _, E0.out, R1.out.1, R1.out.2.1, by rw [Nat.sub_self]; exact R1.out.2.2.1⟩
    case round =>
      obtain ⟨x, rfl, A⟩ := hrel
      clear R1 E0 e1
      cases gk with
      | zero =>
        obtain rfl : x = -1 := by have := A.out.2.1; omega
        have hH4 := A.out.2.2.2.1
        have hH6 : Has wr b6 (UARR .u8 32 (FAF d hs n m)) 26 := A.out.2.2.2.2
        have hb := A.out.2.2.1
        clear A HA
        generalize hY0 : FAF d hs n m = Y at *
        have hst2 := store_cells32 hH4 Y
        have hsu := UARR_size .u8 32 Y
        go_wp2_with (first
          | (refine wpList_load_row rfl 26 (.tmp 6) rfl b6 rfl 26 (UARR .u8 32 Y) (0, 0) _ hH6 Tryz.underlying26 rfl (info_HASH _) ?_)
          | fail)
        refine bodyPost_ret (v := .agg (UARR .u8 32 Y)) (results_cell rfl _ _ w.heap.size 26 _ (0, 0) _ _ rfl (hH4.row _) Tryz.underlying26 (info_HASH _)) rfl ⟨by rw [hY0], below_row hb (Nat.le_refl _) _⟩
      | succ q =>
        obtain rfl : x = (q : Int) := by have := A.out.2.1; omega
        have hq0 : (0 : Int) ≤ (q : Int) := by omega
        obtain ⟨h1, h2, h3, h4, h5, h6, h7⟩ := HA.out
        have hqm : q + 1 ≤ m := A.out.1
        have hb1 : (q : Int) < (n : Int) := by omega
        have eY : FAF d hs n (m - q) = FOLDF d (hs q) (FAF d hs n (m - (q + 1))) := by
          rw [show m - q = (m - (q + 1)) + 1 by omega, FAF, show n - 2 - (m - (q + 1)) = q by omega]
        have hr := h6 (m - (q + 1))
        have hl := h7 q (by omega)
        have hE1 : Aside (wrap64 ((q : Int) - 1) = (q : Int) - 1) := by show wrap64 ((q : Int) - 1) = (q : Int) - 1; unfold wrap64; omega
        have hb := A.out.2.2.1
        have H2 : Aside (w.rangeAt gn (o + q * 32) (ULIST .u8 32 (hs q)) ∧ gn < w.heap.size ∧ Tabled w ∧ (∀ j, hs q j < 256) ∧ (∀ j, FAF d hs n (m - (q + 1)) j < 256) ∧ FAF d hs n (m - q) = FOLDF d (hs q) (FAF d hs n (m - (q + 1))) ∧ Below w.heap.size w wr ∧ Has wr w.heap.size (UARR .u8 32 fun _ => 0) 26 ∧ Has wr b6 (UARR .u8 32 (FAF d hs n (m - (q + 1)))) 26 ∧ q ≤ m) := ⟨h3 q (by omega), h5, h4, hl, hr, eY, hb, A.out.2.2.2.1, A.out.2.2.2.2, by omega⟩
        clear h1 h2 h3 h4 h5 h6 h7 eY hb hr hl A HA hqm
        go_upto_region 8 with fail
        refine folded_next wr gn o n c b6 q d (hs q) (FAF d hs n (m - (q + 1))) (FAF d hs n (m - q)) hb1 (fun V => Below wr.heap.size wr V) (Below.refl _ _).drew (fun V hV => ?_) (fun V hV => ?_) (fun V hV => ?_) (fun _ _ _ _ _ h => h) ?_
        · exact ⟨range_below (range_below H2.out.1 H2.out.2.2.2.2.2.2.1 H2.out.2.1) hV (Nat.lt_of_lt_of_le H2.out.2.1 H2.out.2.2.2.2.2.2.1.size), H2.out.2.2.2.2.2.2.2.2.1.keep hV⟩
        · have hV2 : Below w.heap.size w V := H2.out.2.2.2.2.2.2.1.trans (hV.mono H2.out.2.2.2.2.2.2.1.size)
          exact range_below H2.out.1 (below_row hV2 (Nat.le_of_lt K.out) _) H2.out.2.1
        · have hV2 : Below w.heap.size w V := H2.out.2.2.2.2.2.2.1.trans (hV.mono H2.out.2.2.2.2.2.2.1.size)
          refine (fold_ok d (hs q) (FAF d hs n (m - (q + 1))) H2.out.2.2.2.1 H2.out.2.2.2.2.1 V (H2.out.2.2.1.below hV2)).mono ?_
          rintro e V' ⟨rfl, hb⟩
          exact ⟨by rw [H2.out.2.2.2.2.2.1]; rfl, hV.trans (hb.mono hV.size)⟩
        · intro W3 hW3
          obtain ⟨w0', hw0', hW3⟩ := hW3
          have Z : Aside (q ≤ m ∧ Below w.heap.size w W3 ∧ Has W3 w.heap.size (UARR .u8 32 fun _ => 0) 26 ∧ Has W3 b6 (UARR .u8 32 (FAF d hs n (m - q))) 26) := by
            have hV2 : Below w.heap.size w w0' := H2.out.2.2.2.2.2.2.1.trans (hw0'.mono H2.out.2.2.2.2.2.2.1.size)
            rw [hW3]
            exact ⟨H2.out.2.2.2.2.2.2.2.2.2, below_row hV2 (Nat.le_of_lt K.out) _, (H2.out.2.2.2.2.2.2.2.1.keep hw0').row_other (by have := K.out; omega) _, (H2.out.2.2.2.2.2.2.2.2.1.keep hw0').row _⟩
          clear hW3 hw0' H2
          have e1 := hE1.out
          go_wp2
          go_roundg q
          case measure => exact Nat.lt_succ_self _
          case rel => exact ⟨_, rfl, Z.out.1, by first | rfl | exact hE1.out, Z.out.2⟩
end Go.Proofs.YtdmbmphdiaepdaaGreatDoor.HX

/- A tree as it lies in memory: its store, its width, its size; each node's hash. -/
namespace Go.Proofs.YtdmbmphdiaepdaaGreatDoor.HX
open Go.RowKit
set_option maxRecDepth 100000

/-- the tree at g has the leaves f, n of them. -/
structure FOREST (w : World) (B g : Nat) (d : Int) (log n : Nat) (C : CHUNKS) (f : Nat → Nat → Nat) : Prop where
  store : STORE w B g log (NODES n) (NODES n) (NODES n) C
  width : w.cell? ⟨g, 5, none⟩ = some (.int .i64 d)
  size : w.cell? ⟨g, 6, none⟩ = some (.int .u64 (n : Int))
  free : w.frozen? ⟨g, 6, none⟩ = false
  node : ∀ h k, (k + 1) * 2 ^ h ≤ n → AT C log (PLC h k) = some (VAL d f h k)
  byte : ∀ k, k < n → ∀ i, f k i < 256
  few : n ≤ 2 ^ 20
  base : B ≤ g
def TFRESH (d : Int) (log : Nat) : Array Value := #[.int .i64 (log : Int), .int .u64 0, .int .u64 0, .map none, .map none, .int .i64 d, .int .u64 0]
theorem FOREST.new {w : World} {B g : Nat} {d : Int} {log : Nat} (h : Has w g (TFRESH d log) 74) (hl : log ≤ 16) (hB : B ≤ g) (f : Nat → Nat → Nat) : FOREST w B g d log 0 (fun _ => none) f := by
  refine ⟨⟨hl, by decide, h.cell 0, h.cell 1, h.cell 2, fun i _ => h.frozen i, ⟨_, _, _, h, by decide, by decide, by decide⟩, ⟨none, h.cell 3, fun _ _ => rfl, fun b e => by cases e⟩, fun k gc rs e => (by cases e), fun k k' gc gc' rs rs' _ e => by cases e⟩, h.cell 5, h.cell 6, h.frozen 6, fun h k hk => ?_, fun k hk => by omega, by decide, hB⟩
  have := last_lt h k
  omega
theorem FOREST.below {w w' : World} {B g : Nat} {d : Int} {log n : Nat} {C : CHUNKS} {f : Nat → Nat → Nat} (h : FOREST w B g d log n C f) (hb : Below w.heap.size w w') : FOREST w' B g d log n C f := by
  have hg := h.store.lt
  refine ⟨h.store.below hb, (hb.cell (p := ⟨g, 5, none⟩) hg).trans h.width, (hb.cell (p := ⟨g, 6, none⟩) hg).trans h.size, ?_, h.node, h.byte, h.few, h.base⟩
  exact (World.frozen?_of_block (w := w) (by exact hb.block g hg)).trans h.free
set_option maxHeartbeats 1000000 in
theorem treenew_ok (d : Int) (log : Nat) (h : log ≤ 16) (w : World) : Calls Tryz.prog 21 #[.int .i64 d, .int .i64 (log : Int)] w fun e w' =>
    ∃ g, e = .returned (.tuple #[.pointer (some ⟨g, 0, none⟩), .int .i64 0]) ∧ w.heap.size ≤ g ∧ Has w' g (TFRESH d log) 74 ∧ Below w.heap.size w w' := by
  have cn := storenew_ok log h w
  obtain ⟨w1, hw1⟩ : ∃ w1, w.alloc (.cells (FRESH log) 72) = w1 := ⟨_, rfl⟩
  rw [hw1] at cn
  have hH : Has w1 w.heap.size (FRESH log) 72 := by rw [← hw1]; exact Has.new w _ _
  have hb : Below w.heap.size w w1 := by rw [← hw1]; exact (Below.refl _ _).alloc (Nat.le_refl _) _
  clear hw1
  go_enter Tryz.func21, Tryz.ntmps21
  go_wp2_with fail
  refine cn.mono ?_
  rintro e w2 ⟨rfl, rfl⟩
  clear cn
  have x0 := hH.cell 0
  have x1 := hH.cell 1
  have x2 := hH.cell 2
  have x3 := hH.cell 3
  have x4 := hH.cell 4
  go_wp2_with fail
  go_ret2
  exact ⟨_, rfl, hb.size, Has.new _ _ _, hb.alloc hb.size _⟩
end Go.Proofs.YtdmbmphdiaepdaaGreatDoor.HX

/- slices.Backward over a list of heights: the heights come from the last to the first. -/
namespace Go.Proofs.YtdmbmphdiaepdaaGreatDoor
open Go.RowKit Go.Shelf

attribute [local go_sem] Oper.semAt_some

/-- what has come when k rounds are over. -/
def UPTO {α : Type} (f : Nat → α) (k : Nat) : List α := (List.range k).map f
theorem UPTO_succ {α : Type} (f : Nat → α) (k : Nat) : UPTO f (k + 1) = UPTO f k ++ [f k] := by simp [UPTO, List.range_succ]
theorem UPTO_length {α : Type} (f : Nat → α) (k : Nat) : (UPTO f k).length = k := by simp [UPTO]

/-- what a round keeps: what lies below n₀, and the list's own box. -/
def KB (n₀ Bs : Nat) (A B : World) : Prop := Below n₀ A B ∧ B.cell? ⟨Bs, 0, none⟩ = A.cell? ⟨Bs, 0, none⟩
theorem KB.t {n₀ Bs : Nat} {A B C : World} (h : KB n₀ Bs A B) (k : KB n₀ Bs B C) : KB n₀ Bs A C := ⟨h.1.trans k.1, k.2.trans h.2⟩
theorem KB.b {n₀ Bs : Nat} {w : World} (hn : n₀ ≤ w.heap.size) (hB : Bs < w.heap.size) (W : World) (l : Nat) (o o' : Obj) (hl : w.heap.size ≤ l) (h : W.heap[l]? = some o) (h1 : o.isCells = false) (h2 : o.isWalk = false) : KB n₀ Bs W (W.putObj l o') :=
  ⟨belowK_b hn W l o o' hl h h1 h2, (belowK_b (Nat.le_refl w.heap.size) W l o o' hl h h1 h2).cell (p := ⟨Bs, 0, none⟩) hB⟩

/-- the pair that comes in round j: the index, and the height there. -/
def BACK (len : Nat) (f : Nat → Fin 64) (j : Nat) : Nat × Fin 64 := (len - 1 - j, f (len - 1 - j))

set_option maxRecDepth 100000 in
set_option maxHeartbeats 2000000 in
theorem backward1_in (F : Fence) (n : Nat) (hF : F.fn 103) (hro : F.round = none) (hn : 1 ≤ n) (l Bs n₀ b len cap : Nat) (f : Nat → Fin 64) (hreach : len ≤ 64) (hb : b < n₀) (J Jx : List (Nat × Fin 64) → World → Prop)
    (hY : ∀ pre x W, J pre W → pre.length < len → YieldAt F (n - 1) Tryz.prog l #[.int .i64 (x.1 : Int), .int .i64 (x.2.val : Int)] W fun e W' =>
      (e = .returned (.bool true) ∧ J (pre ++ [x]) W' ∧ KB n₀ Bs W W') ∨ (e = .returned (.bool false) ∧ Jx (pre ++ [x]) W'))
    (W : World) (hBs : W.cell? ⟨Bs, 0, none⟩ = some (.slice (some ⟨b, 0, none⟩) len cap)) (hc : ∀ j, j < len → W.cell? ⟨b, j, none⟩ = some (.int .i64 ((f j).val : Int))) (h0 : J [] W) :
    CallsIn F n Tryz.prog 103 #[.func (.yield l) #[] #[], .pointer (some ⟨Bs, 0, none⟩)] W fun e W' => (∃ v, e = .returned v) ∧
      ((∃ ys, ys = UPTO (BACK len f) len ∧ J ys W') ∨ (∃ pre, (∃ k, k ≤ len ∧ pre = UPTO (BACK len f) k) ∧ Jx pre W')) := by
  refine callsIn_of_wp Tryz.func103 rfl hF ?_ hro
  simp only [Tryz.ntmps103, List.size_toArray, List.length_cons, List.length_nil, Nat.reduceAdd, Nat.reduceSub, Array.replicate_succ, Array.replicate_zero, List.push_toArray, List.append_toArray, List.nil_append, List.cons_append]
  have e1 : wrap64 ((len : Int) - 1) = (len : Int) - 1 := by unfold wrap64; omega
  gi_wp2
  gi_loopw [3] (fun i wr => ∃ k : Nat, k ≤ len ∧ i = .int .i64 ((len : Int) - 1 - (k : Int)) ∧ J (UPTO (BACK len f) k) wr ∧ KB n₀ Bs W wr)
    (fun i _ => (intOf i + 1).toNat)
  case atStart => exact ⟨0, Nat.zero_le _, by simp, h0, Below.refl _ _, rfl⟩
  case round =>
    obtain ⟨k, hk, rfl, hJs, hnx⟩ := hrel
    by_cases hlt : k < len
    · obtain ⟨j, hj⟩ : ∃ j : Nat, (len : Int) - 1 - (k : Int) = (j : Int) := ⟨len - 1 - k, by omega⟩
      have hjl : j < len := by omega
      have hbk : BACK len f k = (j, f j) := by
        unfold BACK
        rw [show len - 1 - k = j by omega]
      have hcx : wr.cell? ⟨b, j, none⟩ = some (.int .i64 ((f j).val : Int)) := (hnx.1.cell (p := ⟨b, j, none⟩) hb).trans (hc j hjl)
      have hcs : wr.cell? ⟨Bs, 0, none⟩ = some (.slice (some ⟨b, 0, none⟩) len cap) := hnx.2.trans hBs
      obtain ⟨fn, tmps, assign, body, hy, hR⟩ := hY _ (j, f j) wr hJs (by rw [UPTO_length]; exact hlt)
      dsimp only at hy
      rw [hj]
      have e2 : wrap64 ((j : Int) - 1) = (j : Int) - 1 := by unfold wrap64; omega
      have hJ' : Aside ((len : Int) - 1 - (k : Int) = (j : Int)) := hj
      have hjl' : (j : Int) < (len : Int) := by omega
      clear hj
      gi_wp2
      refine hR.mono ?_
      rintro e W3 (⟨rfl, hJ3, hk3⟩ | ⟨rfl, hJx3⟩)
      · gi_wp2
        go_roundw
        case rel => exact ⟨k + 1, by omega, by have := hJ'.out; congr 1; omega, by rw [UPTO_succ, hbk]; exact hJ3, hnx.t hk3⟩
        case measure => simp [intOf]
      · gi_wp2
        refine bodyPost_ret (results_none rfl _ _ _) rfl ?_
        exact ⟨⟨_, rfl⟩, .inr ⟨_, ⟨k + 1, by omega, by rw [UPTO_succ, hbk]⟩, hJx3⟩⟩
    · obtain rfl : k = len := by omega
      rw [show (k : Int) - 1 - (k : Int) = -1 by omega]
      gi_wp2
      go_end0
      exact ⟨⟨_, rfl⟩, .inl ⟨_, rfl, hJs⟩⟩

set_option maxHeartbeats 1000000 in
theorem backward_in (F : Fence) (n : Nat) (hF : F.fn 76) (hro : F.round = none) (a : Option Addr) (len cap : Nat) (w : World) :
    CallsIn F n Tryz.prog 76 #[.slice a len cap] w fun e w' => e = .returned (.func (.func 103) #[] #[.pointer (some ⟨w.heap.size, 0, none⟩)]) ∧ w' = w.alloc (.cells #[.slice a len cap] 113) := by
  refine callsIn_of_wp Tryz.func76 rfl hF ?_ hro
  simp only [Tryz.ntmps76, List.size_toArray, List.length_cons, List.length_nil, Nat.reduceAdd, Nat.reduceSub, Array.replicate_succ, Array.replicate_zero, List.push_toArray, List.append_toArray, List.nil_append, List.cons_append]
  gi_wp2
  go_ret
  exact ⟨rfl, rfl⟩

theorem backward_stops (F : Fence) (n : Nat) (hF : F.fn 103) (hro : F.round = none) (hn : 1 ≤ n) (Bs n₀ b len cap : Nat) (f : Nat → Fin 64) (hreach : len ≤ 64) (hb : b < n₀) (w : World) (hBs : Bs < w.heap.size) (hn₀ : n₀ ≤ w.heap.size)
    (hc : w.cell? ⟨Bs, 0, none⟩ = some (.slice (some ⟨b, 0, none⟩) len cap)) (hI : ∀ j, j < len → w.cell? ⟨b, j, none⟩ = some (.int .i64 ((f j).val : Int))) :
    SeqStopsK F n Tryz.prog 103 #[.pointer (some ⟨Bs, 0, none⟩)] (fun x : Nat × Fin 64 => #[Value.int .i64 (x.1 : Int), Value.int .i64 (x.2.val : Int)]) (KB n₀ Bs) (fun ys => ys = UPTO (BACK len f) len)
      (fun pre => ∃ k, k ≤ len ∧ pre = UPTO (BACK len f) k) len w := fun l J Jx W hW _ _ hY h0 =>
  backward1_in F n hF hro hn l Bs n₀ b len cap f hreach hb J Jx hY W ((hW.cell (p := ⟨Bs, 0, none⟩) hBs).trans hc) (fun j hj => (hW.cell (p := ⟨b, j, none⟩) (by show b < _; omega)).trans (hI j hj)) h0
end Go.Proofs.YtdmbmphdiaepdaaGreatDoor
