/- Texts of VerifyClimbs, one behind the other: VerifyCount, VerifyUnder, VerifyRooted, ProofReaders, ProofInTurn, ProofSteps. -/
import Derived.Test.YtfgbojbhheokjaaGreatDoorVerifyClimbsP19
import Derived.Test.YtfgbojbhheokjaaGreatDoorVerifyClimbsP30
import Derived.Test.YtfgbojbhheokjaaGreatDoorVerifyClimbsP33
/- What Bag of package mmr answers where the number of peaks is another one. -/
namespace Go.Proofs.YtfgbojbhheokjaaGreatDoor
open Go.RowKit
set_option maxRecDepth 100000

/-- what Bag answers: an error and a hash. -/
def BAGA (d : Int) (n k : Nat) (l : List Int) : Int × List Int :=
  if 4611686018427387904 < n then (30, ZND) else if k ≠ PC n then (70, ZND) else (0, ROOTH d n (FLD d l k))
theorem BAGA_is {d : Int} {n k : Nat} {l : List Int} : IsH (BAGA d n k l).2 := by
  unfold BAGA
  split
  · exact ZND_is
  · split
    · exact ZND_is
    · exact ROOTH_is _ _ _
theorem results_two {fn : Func} {p q : Tmp} {ty : TypeId} (h : fn.results = #[.cell p ty, .tmp q]) (tmps : Array Value) (w : World) (g : Nat) (t : TypeId) (cs : Array Value) (fr : Nat × Nat) (k : Nat) (el : TypeId) (v : Value)
    (hp : tmps.getD p undef = .pointer (some ⟨g, 0, none⟩)) (hv : tmps.getD q undef = v) (hg : w.heap[g]? = some (.cells cs t fr))
    (hu : Tryz.prog.underlying ty = some (.array k el)) (hi : (Tryz.prog.info? ty).map (·.size) = some cs.size) :
    (results fn tmps).run Tryz.prog w = .ok (.tuple #[.agg cs, v]) w := by
  have hp' : tmps[p]?.getD undef = .pointer (some ⟨g, 0, none⟩) := by simpa using hp
  have hv' : tmps[q]?.getD undef = v := by simpa using hv
  simp [results, h, hp', hv', asAddr, run_loadVar_row w g t ty cs fr (.array k el) hg hu rfl hi]
set_option maxHeartbeats 4000000 in
theorem bag_count (d : Int) (n : Nat) (hn : n < 2 ^ 64) (a : Option Addr) (k c : Nat) (w : World) (h1' : ¬ (4611686018427387904 : Int) < (n : Int)) (h2 : ¬ k = POP n) :
    Calls Tryz.prog 60 #[.int .i64 d, .int .u64 (n : Int), .slice a k c] w fun e w' => e = .returned (.tuple #[.agg (CELLS ZND).toArray, .int .i64 70]) ∧ Below w.heap.size w w' := by
  have R0 : Aside (Below w.heap.size w (w.alloc (.cells ZARR 23)) ∧ Has (w.alloc (.cells ZARR 23)) w.heap.size (CELLS ZND).toArray 23) := ⟨(Below.refl _ _).alloc (Nat.le_refl _) _, by rw [ZARR_eq]; exact Has.new _ _ _⟩
  have cO := onescount_ok n hn (w.alloc (.cells ZARR 23))
  generalize POP n = pp at *
  have e2 : ¬ (k : Int) = (pp : Int) := by omega
  clear hn
  go_enter Tryz.func60, Tryz.ntmps60
  go_upto_region 3 with fail
  rw [show (#[.int .u8 0, .int .u8 0, .int .u8 0, .int .u8 0, .int .u8 0, .int .u8 0, .int .u8 0, .int .u8 0, .int .u8 0, .int .u8 0, .int .u8 0, .int .u8 0, .int .u8 0, .int .u8 0, .int .u8 0, .int .u8 0, .int .u8 0, .int .u8 0, .int .u8 0, .int .u8 0, .int .u8 0, .int .u8 0, .int .u8 0, .int .u8 0, .int .u8 0, .int .u8 0, .int .u8 0, .int .u8 0, .int .u8 0, .int .u8 0, .int .u8 0, .int .u8 0] : Array Value) = ZARR from rfl]
  generalize w.alloc (.cells ZARR 23) = W0 at *
  go_wp2_with fail
  refine cO.mono ?_
  rintro e w1 ⟨rfl, rfl⟩
  clear cO
  go_upto_region 4 with fail
  go_wp2_with (rw [show (#[.int .u8 0, .int .u8 0, .int .u8 0, .int .u8 0, .int .u8 0, .int .u8 0, .int .u8 0, .int .u8 0, .int .u8 0, .int .u8 0, .int .u8 0, .int .u8 0, .int .u8 0, .int .u8 0, .int .u8 0, .int .u8 0, .int .u8 0, .int .u8 0, .int .u8 0, .int .u8 0, .int .u8 0, .int .u8 0, .int .u8 0, .int .u8 0, .int .u8 0, .int .u8 0, .int .u8 0, .int .u8 0, .int .u8 0, .int .u8 0, .int .u8 0, .int .u8 0] : Array Value) = (CELLS ZND).toArray from rfl]; refine wpList_store_row rfl 23 (.tmp 6) (.tmp 16) rfl _ _ rfl rfl 23 _ R0.out.2 (info_arr rfl) rfl (cells_one ZND) ?_)
  refine bodyPost_ret (v := .tuple #[.agg (CELLS ZND).toArray, .int .i64 70]) (results_two rfl _ _ w.heap.size 23 _ (0, 0) _ _ _ rfl rfl (Has.row R0.out.2 _) Tryz.underlying23 (info_arr rfl)) rfl ⟨rfl, below_row R0.out.1 (Nat.le_refl _) _⟩
end Go.Proofs.YtfgbojbhheokjaaGreatDoor

/- What Bag of package mmr and under of package verify answer. -/
namespace Go.Proofs.YtfgbojbhheokjaaGreatDoor
open Go.RowKit
set_option maxRecDepth 100000

set_option maxHeartbeats 4000000 in
theorem bag_ok (d : Int) (n : Nat) (hn : n < 2 ^ 64) (a : Option Addr) (k c : Nat) (l : List Int) (w : World) (hF : Flat w a k l) (hX : HX.Tabled w) :
    Calls Tryz.prog 60 #[.int .i64 d, .int .u64 (n : Int), .slice a k c] w fun e w' => e = .returned (.tuple #[.agg (CELLS (BAGA d n k l).2).toArray, .int .i64 (BAGA d n k l).1]) ∧ Below w.heap.size w w' := by
  have R0 : Aside (Below w.heap.size w (w.alloc (.cells ZARR 23)) ∧ Has (w.alloc (.cells ZARR 23)) w.heap.size (CELLS ZND).toArray 23) := ⟨(Below.refl _ _).alloc (Nat.le_refl _) _, by rw [ZARR_eq]; exact Has.new _ _ _⟩
  have HA : Aside (Flat w a k l ∧ HX.Tabled w ∧ n < 2 ^ 64) := ⟨hF, hX, hn⟩
  clear hF hX
  by_cases h1 : 4611686018427387904 < n
  · have e : BAGA d n k l = (30, ZND) := if_pos h1
    rw [e]
    have h1' : (4611686018427387904 : Int) < (n : Int) := by omega
    clear e HA hn
    go_enter Tryz.func60, Tryz.ntmps60
    go_upto_region 2 with fail
    rw [show (#[.int .u8 0, .int .u8 0, .int .u8 0, .int .u8 0, .int .u8 0, .int .u8 0, .int .u8 0, .int .u8 0, .int .u8 0, .int .u8 0, .int .u8 0, .int .u8 0, .int .u8 0, .int .u8 0, .int .u8 0, .int .u8 0, .int .u8 0, .int .u8 0, .int .u8 0, .int .u8 0, .int .u8 0, .int .u8 0, .int .u8 0, .int .u8 0, .int .u8 0, .int .u8 0, .int .u8 0, .int .u8 0, .int .u8 0, .int .u8 0, .int .u8 0, .int .u8 0] : Array Value) = ZARR from rfl]
    generalize w.alloc (.cells ZARR 23) = W0 at *
    go_wp2_with (rw [show (#[.int .u8 0, .int .u8 0, .int .u8 0, .int .u8 0, .int .u8 0, .int .u8 0, .int .u8 0, .int .u8 0, .int .u8 0, .int .u8 0, .int .u8 0, .int .u8 0, .int .u8 0, .int .u8 0, .int .u8 0, .int .u8 0, .int .u8 0, .int .u8 0, .int .u8 0, .int .u8 0, .int .u8 0, .int .u8 0, .int .u8 0, .int .u8 0, .int .u8 0, .int .u8 0, .int .u8 0, .int .u8 0, .int .u8 0, .int .u8 0, .int .u8 0, .int .u8 0] : Array Value) = (CELLS ZND).toArray from rfl]; refine wpList_store_row rfl 23 (.tmp 6) (.tmp 10) rfl _ _ rfl rfl 23 _ R0.out.2 (info_arr rfl) rfl (cells_one ZND) ?_)
    refine bodyPost_ret (v := .tuple #[.agg (CELLS ZND).toArray, .int .i64 30]) (results_two rfl _ _ w.heap.size 23 _ (0, 0) _ _ _ rfl rfl (Has.row R0.out.2 _) Tryz.underlying23 (info_arr rfl)) rfl ⟨rfl, below_row R0.out.1 (Nat.le_refl _) _⟩
  have h1' : ¬ (4611686018427387904 : Int) < (n : Int) := by omega
  have hpop := POP_PC hn
  by_cases h2 : k = PC n
  · have e : BAGA d n k l = (0, ROOTH d n (FLD d l k)) := by unfold BAGA; rw [if_neg h1, if_neg (by simpa using h2)]
    rw [e]
    have hk : Aside (k ≤ 64) := by have := PC_lt_pow 64 n hn; show k ≤ 64; omega
    have e2 : (k : Int) = ((POP n : Nat) : Int) := by rw [hpop, h2]
    clear e h2 hpop h1
    go_enter Tryz.func60, Tryz.ntmps60
    go_upto_region 3 with fail
    rw [show (#[.int .u8 0, .int .u8 0, .int .u8 0, .int .u8 0, .int .u8 0, .int .u8 0, .int .u8 0, .int .u8 0, .int .u8 0, .int .u8 0, .int .u8 0, .int .u8 0, .int .u8 0, .int .u8 0, .int .u8 0, .int .u8 0, .int .u8 0, .int .u8 0, .int .u8 0, .int .u8 0, .int .u8 0, .int .u8 0, .int .u8 0, .int .u8 0, .int .u8 0, .int .u8 0, .int .u8 0, .int .u8 0, .int .u8 0, .int .u8 0, .int .u8 0, .int .u8 0] : Array Value) = ZARR from rfl]
    generalize w.alloc (.cells ZARR 23) = W0 at *
    go_wp2_with fail
    refine (onescount_ok n hn W0).mono ?_
    rintro e w1 ⟨rfl, rfl⟩
    go_wp2_with fail
    refine (folded_ok d a k c (by have := hk.out; omega) l W0 (HA.out.1.below R0.out.1) (HA.out.2.1.below R0.out.1)).mono ?_
    rintro e w1 ⟨rfl, hb⟩
    have R1 : Aside (Below w.heap.size w w1 ∧ Has w1 w.heap.size (CELLS ZND).toArray 23) := ⟨R0.out.1.trans (hb.mono R0.out.1.size), R0.out.2.keep hb⟩
    clear hb R0
    have hI := FLD_is (d := d) HA.out.1.1 HA.out.1.2.2
    go_wp2_with fail
    refine (rooth_ok d n hn (FLD d l k) hI w1 (HA.out.2.1.below R1.out.1)).mono ?_
    rintro e w2 ⟨rfl, hb⟩
    have R2 : Aside (Below w.heap.size w w2 ∧ Has w2 w.heap.size (CELLS ZND).toArray 23) := ⟨R1.out.1.trans (hb.mono R1.out.1.size), R1.out.2.keep hb⟩
    clear hb R1 hI
    have y32 := (ROOTH_is d n (FLD d l k)).1
    generalize hY : ROOTH d n (FLD d l k) = Y at *
    go_wp2_with (refine wpList_store_row rfl 23 (.tmp 6) (.tmp 22) rfl _ _ rfl rfl 23 _ R2.out.2 (info_arr y32) (by simp [CELLS, y32]; rfl) (cells_one Y) ?_)
    refine bodyPost_ret (v := .tuple #[.agg (CELLS Y).toArray, .int .i64 0]) (results_two rfl _ _ w.heap.size 23 _ (0, 0) _ _ _ rfl rfl (Has.row R2.out.2 _) Tryz.underlying23 (info_arr y32)) rfl ⟨by rw [hY], below_row R2.out.1 (Nat.le_refl _) _⟩
  · have e : BAGA d n k l = (70, ZND) := by unfold BAGA; rw [if_neg h1, if_pos h2]
    rw [e]
    exact bag_count d n hn a k c w h1' (by rw [hpop]; exact h2)
end Go.Proofs.YtfgbojbhheokjaaGreatDoor

/- What under of package verify answers. -/
namespace Go.Proofs.YtfgbojbhheokjaaGreatDoor
open Go.RowKit
set_option maxRecDepth 100000

theorem equalh {a b : List Int} (ha : IsH a) (hb : IsH b) (w : World) : (Op.equalIn 10000 23 (.agg (CELLS a).toArray) (.agg (CELLS b).toArray)).run Tryz.prog w = .ok (decide (a = b)) w := by
  rw [cells_uarr ha, cells_uarr hb, HX.equal_hash]
  congr 1
  by_cases e : a = b
  · subst e
    simp
  · rw [decide_eq_false e]
    refine Bool.eq_false_iff.2 fun h => e ?_
    have h' : ∀ i ∈ List.range 32, FNC a i = FNC b i := fun i hi => by simpa using List.all_eq_true.1 h i hi
    have h2 : LST (FNC a) = LST (FNC b) := by
      unfold LST
      exact List.map_congr_left fun i hi => by rw [h' i hi]
    rwa [LST_FNC ha, LST_FNC hb] at h2
/-- a load of a whole row where a guard is met. -/
theorem load_row_if {ops : Array Oper} {rest : List Oper} {o : Oper} {a : Act} {w : World} {Q : Exit → Act → World → Prop} (hw : Region.wanted o (yielded ops a.tmps) = true) (ty : TypeId) (x : Operand) (ho : o.op = .load ty x) (n : Nat) (e : TypeId)
    (b : Nat) (hx : a.eval x = .pointer (some ⟨b, 0, none⟩)) (t : TypeId) (cs : Array Value) (fr : Nat × Nat) (hb : w.heap[b]? = some (.cells cs t fr)) (hu : Tryz.prog.underlying ty = some (.array n e)) (hi : (Tryz.prog.info? ty).map (·.size) = some cs.size)
    (h : wpList Tryz.prog ops Q rest (a.put o.dst (.agg cs)) w) : wpList Tryz.prog ops Q (o :: rest) a w := by
  simp only [wpList]
  rw [if_pos hw]
  exact .inl (wp_load_row ty x ho b hx t cs fr (.array n e) hb hu rfl hi h)
/-- what under answers. -/
def UNDA (d : Int) (n k : Nat) (l root : List Int) : Int := if (BAGA d n k l).1 = 0 ∧ (BAGA d n k l).2 = root then 0 else 80
set_option maxHeartbeats 4000000 in
theorem rooted_ok (d : Int) (n : Nat) (hn : n < 2 ^ 64) (a : Option Addr) (k c : Nat) (l root : List Int) (hroot : IsH root) (w : World) (hF : Flat w a k l) (hX : HX.Tabled w) :
    Calls Tryz.prog 32 #[.int .i64 d, .int .u64 (n : Int), .slice a k c, .agg (CELLS root).toArray] w fun e w' => e = .returned (.int .i64 (UNDA d n k l root)) ∧ Below w.heap.size w w' := by
  have R0 : Aside (Below w.heap.size w (w.alloc (.cells (CELLS root).toArray 23)) ∧ Has (w.alloc (.cells (CELLS root).toArray 23)) w.heap.size (CELLS root).toArray 23) := ⟨(Below.refl _ _).alloc (Nat.le_refl _) _, Has.new _ _ _⟩
  have cB := bag_ok d n hn a k c l (w.alloc (.cells (CELLS root).toArray 23)) (hF.below R0.out.1) (hX.below R0.out.1)
  have hI := BAGA_is (d := d) (n := n) (k := k) (l := l)
  have r32 := hroot.1
  have y32 := hI.1
  clear hF hX hn
  have HU : Aside (UNDA d n k l root = if (BAGA d n k l).1 = 0 ∧ (BAGA d n k l).2 = root then 0 else 80) := rfl
  generalize UNDA d n k l root = U at *
  generalize BAGA d n k l = B at *
  obtain ⟨E, Y⟩ := B
  dsimp only at *
  have HV : Aside ((E = 0 → Y = root → U = 0) ∧ (¬ Y = root → U = 80) ∧ (¬ E = 0 → U = 80)) := ⟨fun h1 h2 => HU.out.trans (if_pos ⟨h1, h2⟩), fun h => HU.out.trans (if_neg fun g => h g.2), fun h => HU.out.trans (if_neg fun g => h g.1)⟩
  clear HU
  go_enter Tryz.func32, Tryz.ntmps32
  go_upto_region 1 with fail
  generalize w.alloc (.cells (CELLS root).toArray 23) = W0 at *
  go_wp2_with fail
  refine cB.mono ?_
  rintro e w1 ⟨rfl, hb⟩
  clear cB
  have R1 : Aside (Below w.heap.size w (w1.alloc (.cells (CELLS Y).toArray 23)) ∧ Has (w1.alloc (.cells (CELLS Y).toArray 23)) w.heap.size (CELLS root).toArray 23 ∧ Has (w1.alloc (.cells (CELLS Y).toArray 23)) w1.heap.size (CELLS Y).toArray 23) := ⟨(R0.out.1.trans (hb.mono R0.out.1.size)).alloc (R0.out.1.trans (hb.mono R0.out.1.size)).size _, (R0.out.2.keep hb).alloc _, Has.new _ _ _⟩
  clear hb R0
  go_upto_region 2 with (first
    | (refine wpList_store_row rfl 23 (.tmp 9) (.tmp 16) rfl _ _ rfl rfl 23 _ (Has.new w1 _ _) (info_arr y32) (by simp [CELLS, y32]) (cells_one Y) ?_; rw [World.setRow_alloc_new])
    | fail)
  generalize w1.alloc (.cells (CELLS Y).toArray 23) = W1 at *
  generalize w1.heap.size = b9 at *
  clear w1 W0
  have hb := R1.out.1
  have h7 := R1.out.2.1
  have h9 := R1.out.2.2
  clear R1
  by_cases hE : E = 0
  · subst hE
    have hq := equalh hI hroot
    by_cases hY : Y = root
    · have HY : Aside (Y = root) := hY
      rw [decide_eq_true hY] at hq
      clear hI hroot hY
      go_wp2_with (first
        | (refine load_row_if (by rfl) 23 (.tmp 9) rfl 32 5 b9 rfl 23 (CELLS Y).toArray (0, 0) h9 Tryz.underlying23 (info_arr y32) ?_)
        | (refine load_row_if (by rfl) 23 (.tmp 7) rfl 32 5 w.heap.size rfl 23 (CELLS root).toArray (0, 0) h7 Tryz.underlying23 (info_arr r32) ?_)
        | fail)
      go_ret
      exact ⟨by rw [HV.out.1 (by simp) HY.out]; rfl, hb⟩
    · have HY : Aside (¬ Y = root) := hY
      rw [decide_eq_false hY] at hq
      clear hI hroot hY
      go_wp2_with (first
        | (refine load_row_if (by rfl) 23 (.tmp 9) rfl 32 5 b9 rfl 23 (CELLS Y).toArray (0, 0) h9 Tryz.underlying23 (info_arr y32) ?_)
        | (refine load_row_if (by rfl) 23 (.tmp 7) rfl 32 5 w.heap.size rfl 23 (CELLS root).toArray (0, 0) h7 Tryz.underlying23 (info_arr r32) ?_)
        | fail)
      go_ret
      exact ⟨by rw [HV.out.2.1 HY.out]; rfl, hb⟩
  · have HE : Aside (¬ E = 0) := hE
    clear hI hroot h7 h9
    go_wp2_with fail
    go_ret
    exact ⟨by rw [HV.out.2.2 HE.out]; rfl, hb⟩
end Go.Proofs.YtfgbojbhheokjaaGreatDoor

/- What the parts of the two readers of package proof answer. -/
namespace Go.Proofs.YtfgbojbhheokjaaGreatDoor
open Go.RowKit
set_option maxRecDepth 100000

theorem mkind_ok (rb : Nat) (w : World) (E : Int) (D : World → Prop) (c : Calls Tryz.prog 76 #[.pointer (some ⟨rb, 0, none⟩), .int .u8 77] w fun e w' => e = .returned (.int .i64 E) ∧ D w') :
    Calls Tryz.prog 56 #[.pointer (some ⟨rb, 0, none⟩)] w fun e w' => e = .returned (.int .i64 E) ∧ D w' := by
  go_enter Tryz.func56, Tryz.ntmps56
  go_wp2_with fail
  refine c.mono ?_
  rintro e w' ⟨rfl, h⟩
  clear c
  go_wp2
  go_ret
  exact ⟨rfl, h⟩
theorem mindex_ok (rb : Nat) (w : World) (E : Int) (D : World → Prop) (c : Calls Tryz.prog 77 #[.pointer (some ⟨rb, 0, none⟩), .pointer (some ⟨rb, 2, none⟩)] w.drew fun e w' => e = .returned (.int .i64 E) ∧ D w') :
    Calls Tryz.prog 58 #[.pointer (some ⟨rb, 0, none⟩)] w fun e w' => e = .returned (.int .i64 E) ∧ D w' := by
  go_enter Tryz.func58, Tryz.ntmps58
  go_wp2
  go_region_with ((go_at_call 77; refine c.mono ?_; rintro e w' ⟨rfl, h⟩))
  all_goals go_wp2
  all_goals go_ret
  all_goals exact ⟨rfl, h⟩
theorem msize_err (rb : Nat) (w : World) (E : Int) (hE : ¬ E = 0) (D : World → Prop) (c : Calls Tryz.prog 77 #[.pointer (some ⟨rb, 0, none⟩), .pointer (some ⟨rb, 1, none⟩)] w.drew fun e w' => e = .returned (.int .i64 E) ∧ D w') :
    Calls Tryz.prog 57 #[.pointer (some ⟨rb, 0, none⟩)] w fun e w' => e = .returned (.int .i64 E) ∧ D w' := by
  have hE' : (E == 0) = false := by simp [hE]
  go_enter Tryz.func57, Tryz.ntmps57
  go_wp2
  go_region_with ((go_at_call 77; refine c.mono ?_; rintro e w' ⟨rfl, h⟩))
  all_goals go_wp2
  all_goals go_ret
  all_goals exact ⟨rfl, h⟩
theorem msize_big (rb : Nat) (w : World) (X : Int) (hX : 4611686018427387904 < X) (D : World → Prop) (c : Calls Tryz.prog 77 #[.pointer (some ⟨rb, 0, none⟩), .pointer (some ⟨rb, 1, none⟩)] w.drew fun e w' => e = .returned (.int .i64 0) ∧ w'.cell? ⟨rb, 1, none⟩ = some (.int .u64 X) ∧ D w') :
    Calls Tryz.prog 57 #[.pointer (some ⟨rb, 0, none⟩)] w fun e w' => e = .returned (.int .i64 30) ∧ D w' := by
  go_enter Tryz.func57, Tryz.ntmps57
  go_wp2
  go_region_with ((go_at_call 77; refine c.mono ?_; rintro e w' ⟨rfl, hc, h⟩))
  all_goals go_wp2
  all_goals go_ret
  all_goals exact ⟨rfl, h⟩
theorem msize_ok (rb : Nat) (w : World) (X : Int) (hX : ¬ 4611686018427387904 < X) (D : World → Prop) (c : Calls Tryz.prog 77 #[.pointer (some ⟨rb, 0, none⟩), .pointer (some ⟨rb, 1, none⟩)] w.drew fun e w' => e = .returned (.int .i64 0) ∧ w'.cell? ⟨rb, 1, none⟩ = some (.int .u64 X) ∧ D w') :
    Calls Tryz.prog 57 #[.pointer (some ⟨rb, 0, none⟩)] w fun e w' => e = .returned (.int .i64 0) ∧ D w' := by
  go_enter Tryz.func57, Tryz.ntmps57
  go_wp2
  go_region_with ((go_at_call 77; refine c.mono ?_; rintro e w' ⟨rfl, hc, h⟩))
  all_goals go_wp2
  all_goals go_ret
  all_goals exact ⟨rfl, h⟩
set_option maxHeartbeats 4000000 in
theorem mnodes_err (rb : Nat) (w : World) (X Y E : Int) (hE : ¬ E = 0) (D : World → Prop) (h1 : w.cell? ⟨rb, 1, none⟩ = some (.int .u64 X)) (h2 : w.cell? ⟨rb, 2, none⟩ = some (.int .u64 Y))
    (c : Calls Tryz.prog 21 #[.int .u64 Y, .int .u64 X] w.drew fun e w' => ∃ v, e = .returned (.tuple #[v, .int .i64 E]) ∧ D w') :
    Calls Tryz.prog 59 #[.pointer (some ⟨rb, 0, none⟩)] w fun e w' => e = .returned (.int .i64 E) ∧ D w' := by
  have hE' : (E != 0) = true := by simp [hE]
  have d1 : w.drew.cell? ⟨rb, 1, none⟩ = some (.int .u64 X) := h1
  have d2 : w.drew.cell? ⟨rb, 2, none⟩ = some (.int .u64 Y) := h2
  go_enter Tryz.func59, Tryz.ntmps59
  go_wp2
  go_region_with ((go_at_call 21; refine c.mono ?_; rintro e w' ⟨v, rfl, h⟩))
  all_goals go_wp2
  all_goals go_ret
  all_goals exact ⟨rfl, h⟩
set_option maxHeartbeats 4000000 in
theorem mnodes_ok (rb : Nat) (w : World) (X Y E : Int) (N : Nat) (D : World → Prop) (h1 : w.cell? ⟨rb, 1, none⟩ = some (.int .u64 X)) (h2 : w.cell? ⟨rb, 2, none⟩ = some (.int .u64 Y))
    (c : Calls Tryz.prog 21 #[.int .u64 Y, .int .u64 X] w.drew fun e w' => ∃ a cap, e = .returned (.tuple #[.slice a N cap, .int .i64 0]) ∧ Calls Tryz.prog 78 #[.pointer (some ⟨rb, 0, none⟩), .pointer (some ⟨rb, 3, none⟩), .int .i64 (N : Int)] w'.drew fun e w2 => e = .returned (.int .i64 E) ∧ D w2) :
    Calls Tryz.prog 59 #[.pointer (some ⟨rb, 0, none⟩)] w fun e w' => e = .returned (.int .i64 E) ∧ D w' := by
  have d1 : w.drew.cell? ⟨rb, 1, none⟩ = some (.int .u64 X) := h1
  have d2 : w.drew.cell? ⟨rb, 2, none⟩ = some (.int .u64 Y) := h2
  go_enter Tryz.func59, Tryz.ntmps59
  go_wp2
  go_region_with ((go_at_call 21; refine c.mono ?_; rintro e w' ⟨a, cap, rfl, h⟩))
  all_goals go_wp2
  all_goals go_region_with ((go_at_call 78; refine h.mono ?_; rintro e w2 ⟨rfl, h⟩))
  all_goals go_wp2
  all_goals go_ret
  all_goals exact ⟨rfl, h⟩
end Go.Proofs.YtfgbojbhheokjaaGreatDoor

/- Part by part: what inTurn answers, of the parts of either reader. -/
namespace Go.Proofs.YtfgbojbhheokjaaGreatDoor
open Go.RowKit
set_option maxRecDepth 100000

/-- a part was read, and P holds; or it was refused, and Fin holds. -/
def STP (P : World → Prop) (Fin : Int → World → Prop) (e : Ending) (w' : World) : Prop := ∃ E : Int, e = .returned (.int .i64 E) ∧ (E = 0 → P w') ∧ (E ≠ 0 → Fin E w')
set_option maxHeartbeats 2000000 in
theorem memberinturn_ok (rb gl : Nat) (PP : Nat → World → Prop) (Fin : Int → World → Prop)
    (hc0 : ∀ W, PP 0 W → W.cell? ⟨gl, 0, none⟩ = some (.func (.func 56) #[.pointer (some ⟨rb, 0, none⟩)] #[]))
    (hc1 : ∀ W, PP 1 W → W.cell? ⟨gl, 1, none⟩ = some (.func (.func 57) #[.pointer (some ⟨rb, 0, none⟩)] #[]))
    (hc2 : ∀ W, PP 2 W → W.cell? ⟨gl, 2, none⟩ = some (.func (.func 58) #[.pointer (some ⟨rb, 0, none⟩)] #[]))
    (hc3 : ∀ W, PP 3 W → W.cell? ⟨gl, 3, none⟩ = some (.func (.func 59) #[.pointer (some ⟨rb, 0, none⟩)] #[]))
    (hd0 : ∀ W, PP 0 W → Calls Tryz.prog 56 #[.pointer (some ⟨rb, 0, none⟩)] W (STP (PP 1) Fin))
    (hd1 : ∀ W, PP 1 W → Calls Tryz.prog 57 #[.pointer (some ⟨rb, 0, none⟩)] W (STP (PP 2) Fin))
    (hd2 : ∀ W, PP 2 W → Calls Tryz.prog 58 #[.pointer (some ⟨rb, 0, none⟩)] W (STP (PP 3) Fin))
    (hd3 : ∀ W, PP 3 W → Calls Tryz.prog 59 #[.pointer (some ⟨rb, 0, none⟩)] W (STP (PP 4) Fin))
    (w : World) (h : PP 0 w) : Calls Tryz.prog 55 #[.slice (some ⟨gl, 0, none⟩) 4 4] w (STP (PP 4) Fin) := by
  have C0 : Aside (∀ W, PP 0 W → W.cell? ⟨gl, 0, none⟩ = some (.func (.func 56) #[.pointer (some ⟨rb, 0, none⟩)] #[])) := hc0
  have D0 : Aside (∀ W, PP 0 W → Calls Tryz.prog 56 #[.pointer (some ⟨rb, 0, none⟩)] W (STP (PP 1) Fin)) := hd0
  have C1 : Aside (∀ W, PP 1 W → W.cell? ⟨gl, 1, none⟩ = some (.func (.func 57) #[.pointer (some ⟨rb, 0, none⟩)] #[])) := hc1
  have D1 : Aside (∀ W, PP 1 W → Calls Tryz.prog 57 #[.pointer (some ⟨rb, 0, none⟩)] W (STP (PP 2) Fin)) := hd1
  have C2 : Aside (∀ W, PP 2 W → W.cell? ⟨gl, 2, none⟩ = some (.func (.func 58) #[.pointer (some ⟨rb, 0, none⟩)] #[])) := hc2
  have D2 : Aside (∀ W, PP 2 W → Calls Tryz.prog 58 #[.pointer (some ⟨rb, 0, none⟩)] W (STP (PP 3) Fin)) := hd2
  have C3 : Aside (∀ W, PP 3 W → W.cell? ⟨gl, 3, none⟩ = some (.func (.func 59) #[.pointer (some ⟨rb, 0, none⟩)] #[])) := hc3
  have D3 : Aside (∀ W, PP 3 W → Calls Tryz.prog 59 #[.pointer (some ⟨rb, 0, none⟩)] W (STP (PP 4) Fin)) := hd3
  have H0 : Aside (PP 0 w) := h
  clear hc0 hc1 hc2 hc3 hd0 hd1 hd2 hd3 h
  go_enter Tryz.func55, Tryz.ntmps55
  go_wp2
  go_loopg [8] 4 (fun q s8 wx => ∃ k : Nat, s8 = .int .i64 (k : Int) ∧ Aside (k + q = 4 ∧ PP k wx))
  case atStart => exact ⟨0, rfl, by omega, H0.out⟩
  case round =>
    obtain ⟨k, rfl, A⟩ := hrel
    cases gk with
    | zero =>
      obtain rfl : k = 4 := by have := A.out.1; omega
      have R : Aside (PP 4 wr) := A.out.2
      clear A C0 C1 C2 C3 D0 D1 D2 D3 H0
      go_wp2
      go_ret
      exact ⟨0, rfl, fun _ => R.out, fun h => absurd rfl h⟩
    | succ q =>
      have hk : k = 0 ∨ k = 1 ∨ k = 2 ∨ k = 3 := by have := A.out.1; omega
      rcases hk with rfl | rfl | rfl | rfl
      · have hc := C0.out wr A.out.2
        have hd := D0.out wr A.out.2
        have R : Aside (0 + 1 + q = 4) := by have := A.out.1; show 0 + 1 + q = 4; omega
        clear A C0 C1 C2 C3 D0 D1 D2 D3 H0
        go_wp2_with fail
        refine hd.mono ?_
        rintro e w1 ⟨E, rfl, h1, h2⟩
        clear hd hc
        by_cases hE : E = 0
        · subst hE
          have S : Aside (PP (0 + 1) w1) := h1 rfl
          clear h1 h2
          go_wp2
          go_roundg q
          case measure => exact Nat.lt_succ_self _
          case rel => exact ⟨0 + 1, rfl, R.out, S.out⟩
        · have hE' : (E != 0) = true := by simp [hE]
          have S : Aside (¬ E = 0 ∧ Fin E w1) := ⟨hE, h2 hE⟩
          clear h1 h2 hE
          go_wp2
          go_ret
          exact ⟨E, rfl, fun h => absurd h S.out.1, fun _ => S.out.2⟩
      · have hc := C1.out wr A.out.2
        have hd := D1.out wr A.out.2
        have R : Aside (1 + 1 + q = 4) := by have := A.out.1; show 1 + 1 + q = 4; omega
        clear A C0 C1 C2 C3 D0 D1 D2 D3 H0
        go_wp2_with fail
        refine hd.mono ?_
        rintro e w1 ⟨E, rfl, h1, h2⟩
        clear hd hc
        by_cases hE : E = 0
        · subst hE
          have S : Aside (PP (1 + 1) w1) := h1 rfl
          clear h1 h2
          go_wp2
          go_roundg q
          case measure => exact Nat.lt_succ_self _
          case rel => exact ⟨1 + 1, rfl, R.out, S.out⟩
        · have hE' : (E != 0) = true := by simp [hE]
          have S : Aside (¬ E = 0 ∧ Fin E w1) := ⟨hE, h2 hE⟩
          clear h1 h2 hE
          go_wp2
          go_ret
          exact ⟨E, rfl, fun h => absurd h S.out.1, fun _ => S.out.2⟩
      · have hc := C2.out wr A.out.2
        have hd := D2.out wr A.out.2
        have R : Aside (2 + 1 + q = 4) := by have := A.out.1; show 2 + 1 + q = 4; omega
        clear A C0 C1 C2 C3 D0 D1 D2 D3 H0
        go_wp2_with fail
        refine hd.mono ?_
        rintro e w1 ⟨E, rfl, h1, h2⟩
        clear hd hc
        by_cases hE : E = 0
        · subst hE
          have S : Aside (PP (2 + 1) w1) := h1 rfl
          clear h1 h2
          go_wp2
          go_roundg q
          case measure => exact Nat.lt_succ_self _
          case rel => exact ⟨2 + 1, rfl, R.out, S.out⟩
        · have hE' : (E != 0) = true := by simp [hE]
          have S : Aside (¬ E = 0 ∧ Fin E w1) := ⟨hE, h2 hE⟩
          clear h1 h2 hE
          go_wp2
          go_ret
          exact ⟨E, rfl, fun h => absurd h S.out.1, fun _ => S.out.2⟩
      · have hc := C3.out wr A.out.2
        have hd := D3.out wr A.out.2
        have R : Aside (3 + 1 + q = 4) := by have := A.out.1; show 3 + 1 + q = 4; omega
        clear A C0 C1 C2 C3 D0 D1 D2 D3 H0
        go_wp2_with fail
        refine hd.mono ?_
        rintro e w1 ⟨E, rfl, h1, h2⟩
        clear hd hc
        by_cases hE : E = 0
        · subst hE
          have S : Aside (PP (3 + 1) w1) := h1 rfl
          clear h1 h2
          go_wp2
          go_roundg q
          case measure => exact Nat.lt_succ_self _
          case rel => exact ⟨3 + 1, rfl, R.out, S.out⟩
        · have hE' : (E != 0) = true := by simp [hE]
          have S : Aside (¬ E = 0 ∧ Fin E w1) := ⟨hE, h2 hE⟩
          clear h1 h2 hE
          go_wp2
          go_ret
          exact ⟨E, rfl, fun h => absurd h S.out.1, fun _ => S.out.2⟩
end Go.Proofs.YtfgbojbhheokjaaGreatDoor

/- What a reader has behind each part. -/
namespace Go.Proofs.YtfgbojbhheokjaaGreatDoor
open Go.RowKit
set_option maxRecDepth 100000

/-- a reader's cells: what is left, two numbers, the nodes. -/
def RCELLS (v : Value) (X Y : Nat) (nv : Value) : Array Value := #[v, .int .u64 (X : Int), .int .u64 (Y : Int), nv]
/-- the reader and the list of its parts lie there; what was there before is as it was. -/
structure FRM (w0 w : World) (rb gl : Nat) (t : TypeId) (v : Value) (X Y : Nat) (nv : Value) (fl : Array Value) (tf : TypeId) : Prop where
  bel : Below w0.heap.size w0 w
  rd : Has w rb (RCELLS v X Y nv) t
  fl : Has w gl fl tf
  ne : gl ≠ rb
  lb : w0.heap.size ≤ rb
  lg : w0.heap.size ≤ gl
/-- the bytes that are left lie there. -/
def SRC (w0 : World) (a : Option Addr) (c : Nat) (t : List Int) : Prop := Bytes w0 a t.length t ∧ t.length ≤ c ∧ t.length ≤ 1000000
theorem FRM.drew {w0 w : World} {rb gl : Nat} {t : TypeId} {v : Value} {X Y : Nat} {nv : Value} {fl : Array Value} {tf : TypeId} (h : FRM w0 w rb gl t v X Y nv fl tf) : FRM w0 w.drew rb gl t v X Y nv fl tf := ⟨h.bel.drew, h.rd, h.fl, h.ne, h.lb, h.lg⟩
theorem FRM.keep {w0 w w' : World} {rb gl : Nat} {t : TypeId} {v : Value} {X Y : Nat} {nv : Value} {fl : Array Value} {tf : TypeId} (h : FRM w0 w rb gl t v X Y nv fl tf) (hb : Below w.heap.size w w') : FRM w0 w' rb gl t v X Y nv fl tf := ⟨h.bel.trans (hb.mono h.bel.size), h.rd.keep hb, h.fl.keep hb, h.ne, h.lb, h.lg⟩
theorem FRM.rest {w0 w : World} {rb gl : Nat} {t : TypeId} {v : Value} {X Y : Nat} {nv : Value} {fl : Array Value} {tf : TypeId} (h : FRM w0 w rb gl t v X Y nv fl tf) (v' : Value) : FRM w0 (w.setCell ⟨rb, 0, none⟩ v') rb gl t v' X Y nv fl tf :=
  ⟨h.bel.setCell (p := ⟨rb, 0, none⟩) h.lb _, h.rd.set 0 v', h.fl.other (a := ⟨rb, 0, none⟩) h.ne _, h.ne, h.lb, h.lg⟩
theorem FRM.first {w0 w : World} {rb gl : Nat} {t : TypeId} {v : Value} {X Y : Nat} {nv : Value} {fl : Array Value} {tf : TypeId} (h : FRM w0 w rb gl t v X Y nv fl tf) (Z : Nat) : FRM w0 (w.setCell ⟨rb, 1, none⟩ (.int .u64 (Z : Int))) rb gl t v Z Y nv fl tf :=
  ⟨h.bel.setCell (p := ⟨rb, 1, none⟩) h.lb _, h.rd.set 1 _, h.fl.other (a := ⟨rb, 1, none⟩) h.ne _, h.ne, h.lb, h.lg⟩
theorem FRM.second {w0 w : World} {rb gl : Nat} {t : TypeId} {v : Value} {X Y : Nat} {nv : Value} {fl : Array Value} {tf : TypeId} (h : FRM w0 w rb gl t v X Y nv fl tf) (Z : Nat) : FRM w0 (w.setCell ⟨rb, 2, none⟩ (.int .u64 (Z : Int))) rb gl t v X Z nv fl tf :=
  ⟨h.bel.setCell (p := ⟨rb, 2, none⟩) h.lb _, h.rd.set 2 _, h.fl.other (a := ⟨rb, 2, none⟩) h.ne _, h.ne, h.lb, h.lg⟩
theorem FRM.nodes {w0 w : World} {rb gl : Nat} {t : TypeId} {v : Value} {X Y : Nat} {nv : Value} {fl : Array Value} {tf : TypeId} (h : FRM w0 w rb gl t v X Y nv fl tf) (nv' : Value) : FRM w0 (w.setCell ⟨rb, 3, none⟩ nv') rb gl t v X Y nv' fl tf :=
  ⟨h.bel.setCell (p := ⟨rb, 3, none⟩) h.lb _, h.rd.set 3 _, h.fl.other (a := ⟨rb, 3, none⟩) h.ne _, h.ne, h.lb, h.lg⟩
theorem SRC.drop {w0 : World} {b off c : Nat} {t : List Int} (h : SRC w0 (some ⟨b, off, none⟩) c t) (k : Nat) (hk : k ≤ t.length) : SRC w0 (REST b off c k) (c - k) (t.drop k) := by
  obtain ⟨h1, h2, h3⟩ := h
  have := h1.behind k hk h2
  refine ⟨?_, by rw [List.length_drop]; omega, by rw [List.length_drop]; omega⟩
  rw [List.length_drop]
  exact this
theorem SRC.addr {w0 : World} {a : Option Addr} {c : Nat} {t : List Int} (h : SRC w0 a c t) (h0 : 0 < t.length) : ∃ b off, a = some ⟨b, off, none⟩ ∧ b < w0.heap.size ∧ ∀ i, i < t.length → w0.cell? ⟨b, off + i, none⟩ = some (.int .u8 (t.getD i 0)) := h.1.2.1 h0
/-- a number is refused. -/
theorem step_bad {w0 w : World} {rb gl : Nat} {t : TypeId} {X Y : Nat} {nv : Value} {fl : Array Value} {tf : TypeId} {a : Option Addr} {c : Nat} {l : List Int} (F : FRM w0 w rb gl t (.slice a l.length c) X Y nv fl tf) (S : SRC w0 a c l) (f : Nat) (hl : (LNG l).2.2 ≠ 0) :
    Calls Tryz.prog 77 #[.pointer (some ⟨rb, 0, none⟩), .pointer (some ⟨rb, f, none⟩)] w.drew fun e w' => e = .returned (.int .i64 (LNG l).2.2) ∧ Below w0.heap.size w0 w' := by
  have cl := long_ok a l.length c l w.drew ((S.1.below F.bel).below ((Below.refl _ _).drew)) S.2.1 (by have := S.2.2; omega)
  refine (number_err rb f _ _ _ _ w.drew hl (F.drew.rd.cell 0) cl).mono ?_
  rintro e w' ⟨rfl, rfl⟩
  exact ⟨rfl, F.drew.bel⟩
/-- the first number is read. -/
theorem step_first {w0 w : World} {rb gl : Nat} {t : TypeId} {X Y : Nat} {nv : Value} {fl : Array Value} {tf : TypeId} {a : Option Addr} {c : Nat} {l : List Int} (F : FRM w0 w rb gl t (.slice a l.length c) X Y nv fl tf) (S : SRC w0 a c l) (hl : (LNG l).2.2 = 0) :
    ∃ (Z m : Nat) (a' : Option Addr) (c' : Nat), Z < 2 ^ 64 ∧ LNG l = ((Z : Int), (m : Int), 0) ∧ SRC w0 a' c' (l.drop m) ∧ Calls Tryz.prog 77 #[.pointer (some ⟨rb, 0, none⟩), .pointer (some ⟨rb, 1, none⟩)] w.drew fun e w' => e = .returned (.int .i64 0) ∧ FRM w0 w' rb gl t (.slice a' (l.drop m).length c') Z Y nv fl tf := by
  obtain ⟨Z, m, h1, h2, h3, h4, h5⟩ := LNG_back S.1.2.2 hl
  obtain ⟨b, off, rfl, hb, hcs⟩ := S.addr (by omega)
  have cl := long_ok (some ⟨b, off, none⟩) l.length c l w.drew ((S.1.below F.bel).below ((Below.refl _ _).drew)) S.2.1 (by have := S.2.2; omega)
  rw [show LG l l.length 10 0 0 = LNG l from rfl, h4] at cl
  refine ⟨Z, m, _, _, h1, h4, S.drop m h3, (number_ok rb 1 (by decide) (Z : Int) b off l.length c m h3 S.2.1 _ w.drew (F.drew.rd.cell 0) (F.drew.rd.cell 1) (F.drew.rd.frozen 0) (F.drew.rd.frozen 1) cl).mono ?_⟩
  rintro e w' ⟨rfl, rfl⟩
  refine ⟨rfl, ?_⟩
  rw [List.length_drop]
  exact ((F.drew.drew).first Z).rest _
/-- the second number is read. -/
theorem step_second {w0 w : World} {rb gl : Nat} {t : TypeId} {X Y : Nat} {nv : Value} {fl : Array Value} {tf : TypeId} {a : Option Addr} {c : Nat} {l : List Int} (F : FRM w0 w rb gl t (.slice a l.length c) X Y nv fl tf) (S : SRC w0 a c l) (hl : (LNG l).2.2 = 0) :
    ∃ (Z m : Nat) (a' : Option Addr) (c' : Nat), Z < 2 ^ 64 ∧ LNG l = ((Z : Int), (m : Int), 0) ∧ SRC w0 a' c' (l.drop m) ∧ Calls Tryz.prog 77 #[.pointer (some ⟨rb, 0, none⟩), .pointer (some ⟨rb, 2, none⟩)] w.drew fun e w' => e = .returned (.int .i64 0) ∧ FRM w0 w' rb gl t (.slice a' (l.drop m).length c') X Z nv fl tf := by
  obtain ⟨Z, m, h1, h2, h3, h4, h5⟩ := LNG_back S.1.2.2 hl
  obtain ⟨b, off, rfl, hb, hcs⟩ := S.addr (by omega)
  have cl := long_ok (some ⟨b, off, none⟩) l.length c l w.drew ((S.1.below F.bel).below ((Below.refl _ _).drew)) S.2.1 (by have := S.2.2; omega)
  rw [show LG l l.length 10 0 0 = LNG l from rfl, h4] at cl
  refine ⟨Z, m, _, _, h1, h4, S.drop m h3, (number_ok rb 2 (by decide) (Z : Int) b off l.length c m h3 S.2.1 _ w.drew (F.drew.rd.cell 0) (F.drew.rd.cell 2) (F.drew.rd.frozen 0) (F.drew.rd.frozen 2) cl).mono ?_⟩
  rintro e w' ⟨rfl, rfl⟩
  refine ⟨rfl, ?_⟩
  rw [List.length_drop]
  exact ((F.drew.drew).second Z).rest _
/-- the mark. -/
theorem step_mark {w0 w : World} {rb gl : Nat} {t : TypeId} {X Y : Nat} {nv : Value} {fl : Array Value} {tf : TypeId} {a : Option Addr} {c : Nat} {l : List Int} (F : FRM w0 w rb gl t (.slice a l.length c) X Y nv fl tf) (S : SRC w0 a c l) (K : Int) :
    (l.length = 0 ∧ Calls Tryz.prog 76 #[.pointer (some ⟨rb, 0, none⟩), .int .u8 K] w fun e w' => e = .returned (.int .i64 11) ∧ w = w') ∨
    (¬ l.length = 0 ∧ l.getD 0 0 ≠ K ∧ Calls Tryz.prog 76 #[.pointer (some ⟨rb, 0, none⟩), .int .u8 K] w fun e w' => e = .returned (.int .i64 14) ∧ w = w') ∨
    (¬ l.length = 0 ∧ l.getD 0 0 = K ∧ ∃ a' c', SRC w0 a' c' (l.drop 1) ∧ Calls Tryz.prog 76 #[.pointer (some ⟨rb, 0, none⟩), .int .u8 K] w fun e w' => e = .returned (.int .i64 0) ∧ FRM w0 w' rb gl t (.slice a' (l.drop 1).length c') X Y nv fl tf) := by
  by_cases h0 : l.length = 0
  · refine .inl ⟨h0, ?_⟩
    have hc := F.rd.cell 0
    rw [show (RCELLS (.slice a l.length c) X Y nv)[0]? = some (.slice a l.length c) from rfl, h0] at hc
    exact mark_none rb K a c w hc
  · obtain ⟨b, off, rfl, hb, hcs⟩ := S.addr (by omega)
    have hx : w.cell? ⟨b, off, none⟩ = some (.int .u8 (l.getD 0 0)) := by
      have := hcs 0 (by omega)
      rw [Nat.add_zero] at this
      exact (F.bel.cell (p := ⟨b, off, none⟩) hb).trans this
    have hc := F.rd.cell 0
    rw [show (RCELLS (.slice (some ⟨b, off, none⟩) l.length c) X Y nv)[0]? = some (.slice (some ⟨b, off, none⟩) l.length c) from rfl] at hc
    by_cases hK : l.getD 0 0 = K
    · refine .inr (.inr ⟨h0, hK, _, _, S.drop 1 (by omega), ?_⟩)
      obtain ⟨n, hn⟩ : ∃ n, l.length = n + 1 := ⟨l.length - 1, by omega⟩
      rw [hn] at hc
      refine (mark_ok rb K b off n c (by have := S.2.1; omega) w hc (F.rd.frozen 0) (by rw [← hK]; exact hx)).mono ?_
      rintro e w' ⟨rfl, rfl⟩
      refine ⟨rfl, ?_⟩
      rw [List.length_drop, hn, Nat.add_sub_cancel]
      exact F.rest _
    · exact .inr (.inl ⟨h0, hK, mark_other rb K _ b off l.length c w hK (by omega) hc hx⟩)
/-- the nodes are read. -/
theorem step_nodes {w0 w : World} {rb gl : Nat} {t : TypeId} {X Y : Nat} {nv : Value} {fl : Array Value} {tf : TypeId} {a : Option Addr} {c : Nat} {l : List Int} (F : FRM w0 w rb gl t (.slice a l.length c) X Y nv fl tf) (S : SRC w0 a c l) (N : Nat) (hN : N ≤ 1000) :
    (l.length < 32 * N ∧ Calls Tryz.prog 78 #[.pointer (some ⟨rb, 0, none⟩), .pointer (some ⟨rb, 3, none⟩), .int .i64 (N : Int)] w fun e w' => e = .returned (.int .i64 11) ∧ w = w') ∨
    (¬ l.length < 32 * N ∧ 32 * N < l.length ∧ Calls Tryz.prog 78 #[.pointer (some ⟨rb, 0, none⟩), .pointer (some ⟨rb, 3, none⟩), .int .i64 (N : Int)] w fun e w' => e = .returned (.int .i64 13) ∧ w = w') ∨
    (l.length = 32 * N ∧ Calls Tryz.prog 78 #[.pointer (some ⟨rb, 0, none⟩), .pointer (some ⟨rb, 3, none⟩), .int .i64 (N : Int)] w fun e w' => e = .returned (.int .i64 0) ∧ ∃ g, FRM w0 w' rb gl t (.slice a l.length c) X Y (.slice (some ⟨g, 0, none⟩) N N) fl tf ∧ Has w' g (CELLS l).toArray 23 ∧ w0.heap.size ≤ g ∧ g ≠ rb ∧ g ≠ gl) := by
  have hc := F.rd.cell 0
  rw [show (RCELLS (.slice a l.length c) X Y nv)[0]? = some (.slice a l.length c) from rfl] at hc
  rcases Nat.lt_trichotomy l.length (32 * N) with h | h | h
  · exact .inl ⟨h, hashes_cut rb 3 N l.length c a hN h w hc⟩
  · refine .inr (.inr ⟨h, ?_⟩)
    have hb := S.1.below F.bel
    rw [h] at hb hc
    refine (hashes_ok rb 3 N c a hN l w hb (by have := S.2.1; omega) F.rd.lt hc _ (F.rd.cell 3) (F.rd.frozen 3)).mono ?_
    rintro e w' ⟨rfl, wx, hbx, hsz, hh, rfl⟩
    have hrb := F.rd.lt
    have hgl := F.fl.lt
    refine ⟨rfl, w.heap.size, ((F.keep hbx).nodes _), hh.other (a := ⟨rb, 3, none⟩) (by show w.heap.size ≠ rb; omega) _, F.bel.size, by omega, by omega⟩
  · exact .inr (.inl ⟨by omega, h, hashes_tail rb 3 N l.length c a hN h w hc⟩)
end Go.Proofs.YtfgbojbhheokjaaGreatDoor
