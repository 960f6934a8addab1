/- Texts of MmrGrows, one behind the other: MmrAwake, MmrOldState, MmrListed, MmrRow, MmrGrow. -/
import Derived.Test.YtdmbmphdiaepdaaGreatDoorMmrGrowsP9
import Derived.Test.YtdmbmphdiaepdaaGreatDoorMmrGrowsP23
import Derived.Test.YtdmbmphdiaepdaaGreatDoorMmrGrowsP25
import Derived.Test.YtdmbmphdiaepdaaGreatDoorMmrGrowsP26
/- massiflaw6.awake. -/
namespace Go.Proofs.YtdmbmphdiaepdaaGreatDoor.HX
open Go.RowKit
set_option maxRecDepth 100000

/-- a hash with this first byte, noughts behind it. -/
def HB (x : Nat) : Nat → Nat := fun i => if i = 0 then x else 0
theorem HB_lt (x : Nat) (h : x < 256) : ∀ i, HB x i < 256 := fun i => by unfold HB; split <;> omega
theorem build1 : (UARR .u8 32 fun _ => 0).setIfInBounds 0 (.int .u8 1) = UARR .u8 32 (HB 1) := UARR_set .u8 32 (fun _ => 0) 0 1
theorem build2 : (UARR .u8 32 fun _ => 0).setIfInBounds 0 (.int .u8 2) = UARR .u8 32 (HB 2) := UARR_set .u8 32 (fun _ => 0) 0 2
theorem build3 : (UARR .u8 32 fun _ => 0).setIfInBounds 0 (.int .u8 3) = UARR .u8 32 (HB 3) := UARR_set .u8 32 (fun _ => 0) 0 3
/-- a load of a whole row where a guard is met. -/
theorem wpList_load_row_if {ops : Array Oper} {rest : List Oper} {o : Oper} {a : Act} {w : World} {Q : Exit → Act → World → Prop} (hw : Region.wanted o (yielded ops a.tmps) = true) (ty : TypeId) (x : Operand) (ho : o.op = .load ty x) (n : Nat) (e : TypeId)
    (b : Nat) (hx : a.eval x = .pointer (some ⟨b, 0, none⟩)) (t : TypeId) (cs : Array Value) (fr : Nat × Nat) (hb : w.heap[b]? = some (.cells cs t fr)) (hu : Tryz.prog.underlying ty = some (.array n e)) (hi : (Tryz.prog.info? ty).map (·.size) = some cs.size)
    (h : wpList Tryz.prog ops Q rest (a.put o.dst (.agg cs)) w) : wpList Tryz.prog ops Q (o :: rest) a w := by
  simp only [wpList]
  rw [if_pos hw]
  exact .inl (wp_load_row ty x ho b hx t cs fr (.array n e) hb hu rfl hi h)
/-- a tree, and three hashes beside it. -/
structure AW (w wx : World) (B g : Nat) (log n : Nat) (C : CHUNKS) (f : Nat → Nat → Nat) (d : Int) (b3 b4 b5 : Nat) (x y z : Nat → Nat) : Prop where
  tree : FOREST wx B g d log n C f
  h3 : Has wx b3 (UARR .u8 32 x) 26
  h4 : Has wx b4 (UARR .u8 32 y) 26
  h5 : Has wx b5 (UARR .u8 32 z) 26
  off : ¬ FOOT wx g C b3 ∧ ¬ FOOT wx g C b4 ∧ ¬ FOOT wx g C b5
  below : Below B w wx
theorem FOREST.ne {w : World} {B g : Nat} {d : Int} {log n b : Nat} {C : CHUNKS} {f : Nat → Nat → Nat} (h : FOREST w B g d log n C f) {c : Array Value} (hb : Has w b c 26) : b ≠ g := fun e => by
  obtain ⟨cs, t, fr, k1, _, _, k4⟩ := h.store.kind
  unfold Has at hb
  rw [e, k1] at hb
  cases Option.some.inj hb
  exact k4 rfl
theorem AW.next {w wx w' : World} {B g : Nat} {log n : Nat} {C : CHUNKS} {f : Nat → Nat → Nat} {d : Int} {b3 b4 b5 : Nat} {x y z u : Nat → Nat} (h : AW w wx B g log n C f d b3 b4 b5 x y z) (hA : APPENDED wx B g d log n C f u w') : ∃ C', AW w w' B g log (n + 1) C' (LEAFS f n u) d b3 b4 b5 x y z := by
  obtain ⟨C', a1, a2, a3⟩ := hA
  have key : ∀ {b : Nat} {c : Array Value}, Has wx b c 26 → ¬ FOOT wx g C b → Has w' b c 26 ∧ ¬ FOOT w' g C' b := fun {b c} hb hf => by
    refine ⟨(a2.same b hb.lt (h.tree.ne hb) hf).trans hb, fun hf' => ?_⟩
    rcases a2.foot b hf' with h1 | h1
    · exact hf h1
    · have := hb.lt
      omega
  exact ⟨C', a1, (key h.h3 h.off.1).1, (key h.h4 h.off.2.1).1, (key h.h5 h.off.2.2).1, ⟨(key h.h3 h.off.1).2, (key h.h4 h.off.2.1).2, (key h.h5 h.off.2.2).2⟩, h.below.trans a3⟩
theorem AW.keep {w wx w' : World} {B g : Nat} {log n : Nat} {C : CHUNKS} {f : Nat → Nat → Nat} {d : Int} {b3 b4 b5 : Nat} {x y z : Nat → Nat} (h : AW w wx B g log n C f d b3 b4 b5 x y z) (hB : B ≤ wx.heap.size) (hb : Below wx.heap.size wx w') : AW w w' B g log n C f d b3 b4 b5 x y z :=
  ⟨h.tree.below hb, h.h3.keep hb, h.h4.keep hb, h.h5.keep hb, ⟨fun hf => h.off.1 (h.tree.store.foot_below hb hf), fun hf => h.off.2.1 (h.tree.store.foot_below hb hf), fun hf => h.off.2.2 (h.tree.store.foot_below hb hf)⟩, h.below.trans (hb.mono hB)⟩
theorem hs3 : HS 0 3 = [1, 0] := by decide
theorem pkv3 (d : Int) (f : Nat → Nat → Nat) : PKV d f 3 = [NODEF d (f 0) (f 1), f 2] := by
  unfold PKV
  rw [hs3]
  rfl
theorem pc3 : PC 3 = 2 := by decide
theorem rootof3 (d : Int) (f : Nat → Nat → Nat) : ROOTOF d f 3 = ROOTF d 3 (FOLDF d (NODEF d (f 0) (f 1)) (f 2)) := by
  unfold ROOTOF
  rw [pkv3, pc3]
  rfl
theorem own_two {w : World} {B : Nat} {v : Value} {p c : Nat → Nat} (h : w.ownsRow B 26 32 v 2 (HL [p, c])) : ∃ gl cl, v = .slice (some ⟨gl, 0, none⟩) 2 cl ∧ gl < w.heap.size ∧ w.rangeAt gl 0 (ULIST .u8 32 p) ∧ w.rangeAt gl 32 (ULIST .u8 32 c) := by
  obtain ⟨a, cl, rfl, hH⟩ := own_hashes h rfl
  rcases h.2 with ⟨e, h0⟩ | ⟨g, cap, cur, e, _, hg, _⟩
  · cases h0
  · simp only [Value.slice.injEq] at e
    obtain ⟨rfl, _, rfl⟩ := e
    obtain ⟨b, o, e2, hl, hr⟩ := hH (by decide)
    cases e2
    exact ⟨g, cl, rfl, hl, hr 0 (by decide), hr 1 (by decide)⟩
theorem FOREST.second {w : World} {B g : Nat} {d : Int} {log : Nat} {C : CHUNKS} {f : Nat → Nat → Nat} (h : FOREST w B g d log 3 C f) : GOTH C log (NODES 3) 2 = NODEF d (f 0) (f 1) ∧ GOT C log (NODES 3) 2 = 0 := by
  have h1 : AT C log 2 = some (NODEF d (f 0) (f 1)) := h.node 1 0 (by decide)
  have h2 : 2 < NODES 3 := by decide
  unfold GOTH GOT
  rw [if_pos h2, if_pos h2, h1]
  exact ⟨rfl, rfl⟩
set_option maxHeartbeats 4000000 in
theorem awake6_ok (w : World) (hT : Go.Proofs.YtdmbmphdiaepdaaGreatDoor.Tabled w) (hX : Tabled w) : Calls Tryz.prog 10 #[] w fun e w' => e = .returned (.bool true) ∧ Below w.heap.size w w' := by
  have cn := treenew_ok 32 2 (by decide) w
  have k1 := build1
  have k2 := build2
  have k3 := build3
  have hz := zeroHash
  have hsu0 := UARR_size .u8 32 (fun _ => 0)
  have HT : Aside (Go.Proofs.YtdmbmphdiaepdaaGreatDoor.Tabled w ∧ Tabled w) := ⟨hT, hX⟩
  clear hT hX
  go_enter Tryz.func10, Tryz.ntmps10
  go_wp2_with fail
  refine cn.mono ?_
  rintro e w1 ⟨g, rfl, hg, hH, hb1⟩
  clear cn
  have A1 : Aside (w.heap.size ≤ g ∧ Has w1 g (TFRESH 32 2) 74 ∧ Below w.heap.size w w1) := ⟨hg, hH, hb1⟩
  clear hg hH hb1
  go_upto_region 4 with fail
  obtain ⟨Wa, hWa⟩ : ∃ Wa, ((w1.alloc (.cells (UARR .u8 32 fun _ => 0) 26)).alloc (.cells (UARR .u8 32 fun _ => 0) 26)).alloc (.cells (UARR .u8 32 fun _ => 0) 26) = Wa := ⟨_, rfl⟩
  have hba : Below w1.heap.size w1 Wa := by rw [← hWa]; exact (((Below.refl _ _).alloc (Nat.le_refl _) _).alloc (by simp) _).alloc (by simp; omega) _
  have ha3 : Has Wa w1.heap.size (UARR .u8 32 fun _ => 0) 26 := by rw [← hWa]; exact ((Has.new w1 _ _).alloc _).alloc _
  have ha4 : Has Wa (w1.heap.size + 1) (UARR .u8 32 fun _ => 0) 26 := by rw [← hWa]; exact (Has.at _ _ _ (by simp)).alloc _
  have ha5 : Has Wa (w1.heap.size + 1 + 1) (UARR .u8 32 fun _ => 0) 26 := by rw [← hWa]; exact Has.at _ _ _ (by simp)
  have hb4 : Has (Wa.setRow w1.heap.size (UARR .u8 32 (HB 1))) (w1.heap.size + 1) (UARR .u8 32 fun _ => 0) 26 := ha4.row_other (by omega) _
  have hb5 : Has ((Wa.setRow w1.heap.size (UARR .u8 32 (HB 1))).setRow (w1.heap.size + 1) (UARR .u8 32 (HB 2))) (w1.heap.size + 1 + 1) (UARR .u8 32 fun _ => 0) 26 := (ha5.row_other (by omega) _).row_other (by omega) _
  obtain ⟨Wd, hWd⟩ : ∃ Wd, ((Wa.setRow w1.heap.size (UARR .u8 32 (HB 1))).setRow (w1.heap.size + 1) (UARR .u8 32 (HB 2))).setRow (w1.heap.size + 1 + 1) (UARR .u8 32 (HB 3)) = Wd := ⟨_, rfl⟩
  have hbd : Below w1.heap.size w1 Wd := by rw [← hWd]; exact below_row (below_row (below_row hba (Nat.le_refl _) _) (by omega) _) (by omega) _
  have hd3 : Has Wd w1.heap.size (UARR .u8 32 (HB 1)) 26 := by rw [← hWd]; exact ((ha3.row _).row_other (by omega) _).row_other (by omega) _
  have hd4 : Has Wd (w1.heap.size + 1) (UARR .u8 32 (HB 2)) 26 := by rw [← hWd]; exact (hb4.row _).row_other (by omega) _
  have hd5 : Has Wd (w1.heap.size + 1 + 1) (UARR .u8 32 (HB 3)) 26 := by rw [← hWd]; exact hb5.row _
  have hW0 : AW w Wd w.heap.size g 2 0 (fun _ => none) (fun _ _ => 0) 32 w1.heap.size (w1.heap.size + 1) (w1.heap.size + 1 + 1) (HB 1) (HB 2) (HB 3) := by
    have hn := FOREST.new (B := w.heap.size) (A1.out.2.1.keep hbd) (by decide) A1.out.1 (fun _ _ => 0)
    have hn1 := FOREST.new (B := w.heap.size) A1.out.2.1 (by decide) A1.out.1 (fun _ _ => 0)
    have off : ∀ b, w1.heap.size ≤ b → ¬ FOOT Wd g (fun _ => none) b := fun b hb hf => by
      have := hn1.store.foot_lt (hn1.store.foot_below hbd hf)
      omega
    exact ⟨hn, hd3, hd4, hd5, ⟨off _ (by omega), off _ (by omega), off _ (by omega)⟩, A1.out.2.2.trans (hbd.mono A1.out.2.2.size)⟩
  have hsz : w.heap.size ≤ Wd.heap.size := hW0.below.size
  have A2 : Aside (AW w Wd w.heap.size g 2 0 (fun _ => none) (fun _ _ => 0) 32 w1.heap.size (w1.heap.size + 1) (w1.heap.size + 1 + 1) (HB 1) (HB 2) (HB 3)) := hW0
  clear hba hbd ha5 hd4 hd5 hW0
  go_wp2_with (first
    | (refine wpList_store_row rfl 26 (.tmp 3) (.tmp 20) rfl _ _ rfl rfl 26 (UARR .u8 32 fun _ => 0) ha3 (info_HASH _) (by rw [UARR_size, UARR_size]) (UARR_one _ _ _) ?_)
    | (refine wpList_store_row rfl 26 (.tmp 4) (.tmp 21) rfl _ _ rfl rfl 26 (UARR .u8 32 fun _ => 0) hb4 (info_HASH _) (by rw [UARR_size, UARR_size]) (UARR_one _ _ _) ?_)
    | (refine wpList_store_row rfl 26 (.tmp 5) (.tmp 22) rfl _ _ rfl rfl 26 (UARR .u8 32 fun _ => 0) hb5 (info_HASH _) (by rw [UARR_size, UARR_size]) (UARR_one _ _ _) ?_; rw [hWd])
    | (refine wpList_load_row rfl 26 (.tmp 3) rfl w1.heap.size rfl 26 (UARR .u8 32 (HB 1)) (0, 0) _ hd3 Tryz.underlying26 rfl (info_HASH _) ?_))
  clear hb4 hb5 ha3 ha4 hWa hWd k1 k2 k3 hsu0
  have hg3 : Has Wd w1.heap.size (UARR .u8 32 (HB 1)) 26 := hd3
  clear hd3 hg3 hsz
  generalize w1.heap.size + 1 + 1 = b5 at *
  generalize w1.heap.size + 1 = b4 at *
  generalize w1.heap.size = b3 at *
  have GB : Aside (1 < w.heap.size ∧ 0 < w.heap.size) := ⟨HT.out.2.2.2, by have := HT.out.2.2.2; omega⟩
  have tab : Aside (∀ W, Below w.heap.size w W → Go.Proofs.YtdmbmphdiaepdaaGreatDoor.Tabled W ∧ Tabled W) := fun W hb => ⟨HT.out.1.below GB.out.2 hb, HT.out.2.below hb⟩
  have nx : Aside (∀ (W : World) (n : Nat) (C : CHUNKS) (f : Nat → Nat → Nat) (u : Nat → Nat), AW w W w.heap.size g 2 n C f 32 b3 b4 b5 (HB 1) (HB 2) (HB 3) → n < 5 → (∀ i, u i < 256) → Calls Tryz.prog 22 #[.pointer (some ⟨g, 0, none⟩), .agg (UARR .u8 32 u)] W fun e w' => e = .returned (.int .u64 (n : Int)) ∧ ∃ C', AW w w' w.heap.size g 2 (n + 1) C' (LEAFS f n u) 32 b3 b4 b5 (HB 1) (HB 2) (HB 3)) := fun W n C f u hA hn hu => by
    refine (append_ok hA.tree u hu (by omega) (tab.out W hA.below).2 GB.out.1 hA.below.size).mono ?_
    rintro e w' ⟨rfl, hP⟩
    exact ⟨rfl, hA.next hP⟩
  refine (nx.out Wd 0 _ _ (HB 1) A2.out (by decide) (HB_lt 1 (by decide))).mono ?_
  rintro e w5 ⟨rfl, C5, hA5⟩
  have A5 : Aside (AW w w5 w.heap.size g 2 (0 + 1) C5 (LEAFS (fun _ _ => 0) 0 (HB 1)) 32 b3 b4 b5 (HB 1) (HB 2) (HB 3)) := hA5
  clear hA5 A2
  go_wp2_with (first | (refine wpList_load_row_if (by rfl) 26 (.tmp 4) rfl 32 _ b4 rfl 26 (UARR .u8 32 (HB 2)) (0, 0) A5.out.h4 Tryz.underlying26 (info_HASH _) ?_))
  refine (nx.out w5 (0 + 1) _ _ (HB 2) A5.out (by decide) (HB_lt 2 (by decide))).mono ?_
  rintro e w6 ⟨rfl, C6, hA6⟩
  have A6 : Aside (AW w w6 w.heap.size g 2 (0 + 1 + 1) C6 (LEAFS (LEAFS (fun _ _ => 0) 0 (HB 1)) (0 + 1) (HB 2)) 32 b3 b4 b5 (HB 1) (HB 2) (HB 3)) := hA6
  clear hA6 A5
  go_wp2_with (first | (refine wpList_load_row_if (by rfl) 26 (.tmp 5) rfl 32 _ b5 rfl 26 (UARR .u8 32 (HB 3)) (0, 0) A6.out.h5 Tryz.underlying26 (info_HASH _) ?_))
  refine (nx.out w6 (0 + 1 + 1) _ _ (HB 3) A6.out (by decide) (HB_lt 3 (by decide))).mono ?_
  rintro e w7 ⟨rfl, C7, hA7⟩
  obtain ⟨f, hf⟩ : ∃ f, LEAFS (LEAFS (LEAFS (fun _ _ => 0) 0 (HB 1)) (0 + 1) (HB 2)) (0 + 1 + 1) (HB 3) = f := ⟨_, rfl⟩
  rw [hf] at hA7
  have F : Aside (f 0 = HB 1 ∧ f 1 = HB 2 ∧ f 2 = HB 3) := by rw [← hf]; exact ⟨rfl, rfl, rfl⟩
  have A7 : Aside (AW w w7 w.heap.size g 2 3 C7 f 32 b3 b4 b5 (HB 1) (HB 2) (HB 3)) := hA7
  clear hA7 A6 nx hf
  have cp := peaks_of A7.out.tree (tab.out w7 A7.out.below).1
  rw [pkv3, pc3] at cp
  have hsec := A7.out.tree.second
  have hroot := rootof3 32 f
  have hnode := fun (W : World) (hX : Tabled W) => node_ok 32 (HB 1) (HB 2) (HB_lt 1 (by decide)) (HB_lt 2 (by decide)) W hX
  have eN : NODEF 32 (f 0) (f 1) = HASHOF 32 (1 :: ((List.range 32).map (HB 1) ++ (List.range 32).map (HB 2))) := by rw [F.out.1, F.out.2.1]; rfl
  rw [← eN] at hnode
  rw [F.out.2.2] at cp hroot
  have hP8 : ∀ i, NODEF 32 (f 0) (f 1) i < 256 := NODEF_lt 32 _ _
  clear eN F
  generalize NODEF 32 (f 0) (f 1) = P at *
  go_wp2_with fail
  refine cp.mono ?_
  rintro e w8 ⟨v, rfl, hown, hb8⟩
  clear cp
  obtain ⟨gl, cl, rfl, hgl, hl0, hl1⟩ := own_two hown
  have hsz7 := A7.out.below.size
  have A8 : Aside (AW w w8 w.heap.size g 2 3 C7 f 32 b3 b4 b5 (HB 1) (HB 2) (HB 3) ∧ gl < w8.heap.size ∧ w8.rangeAt gl 0 (ULIST .u8 32 P) ∧ w8.rangeAt gl 32 (ULIST .u8 32 (HB 3)) ∧ ROOTOF 32 f 3 = ROOTF 32 3 (FOLDF 32 P (HB 3)) ∧ (∀ i, P i < 256)) := ⟨A7.out.keep hsz7 hb8, hgl, hl0, hl1, hroot, hP8⟩
  have cg := treenode_ok A8.out.1.tree.store 2 (by decide)
  rw [hsec.1, hsec.2] at cg
  clear hown hb8 hgl hl0 hl1 hsz7 hsec hroot A7 hP8
  go_wp2_with fail
  refine cg.mono ?_
  rintro e w9 ⟨rfl, hb9⟩
  clear cg
  have hsz8 := A8.out.1.below.size
  have hst := run_storeCells_new (P := Tryz.prog) w9 26 (UARR .u8 32 fun _ => 0) (UARR .u8 32 P) (info_HASH _) (by rw [UARR_size, UARR_size]) (UARR_one _ _ _)
  have hsu := UARR_size .u8 32 P
  obtain ⟨wA, hwA⟩ : ∃ wA, w9.alloc (.cells (UARR .u8 32 P) 26) = wA := ⟨_, rfl⟩
  have hbA : Below w8.heap.size w8 wA := by rw [← hwA]; exact hb9.alloc hb9.size _
  have h7A : Has wA w9.heap.size (UARR .u8 32 P) 26 := by rw [← hwA]; exact Has.new _ _ _
  have A9 : Aside (AW w wA w.heap.size g 2 3 C7 f 32 b3 b4 b5 (HB 1) (HB 2) (HB 3) ∧ gl < wA.heap.size ∧ wA.rangeAt gl 0 (ULIST .u8 32 P) ∧ wA.rangeAt gl 32 (ULIST .u8 32 (HB 3)) ∧ Has wA w9.heap.size (UARR .u8 32 P) 26) := ⟨A8.out.1.keep hsz8 hbA, Nat.lt_of_lt_of_le A8.out.2.1 hbA.size, range_below A8.out.2.2.1 hbA A8.out.2.1, range_below A8.out.2.2.2.1 hbA A8.out.2.1, h7A⟩
  clear hb9 hbA h7A hsz8
  have h3A := A9.out.1.h3
  have h4A := A9.out.1.h4
  go_wp2_with (first
    | (refine wpList_load_row rfl 26 (.tmp 3) rfl b3 rfl 26 (UARR .u8 32 (HB 1)) (0, 0) _ h3A Tryz.underlying26 rfl (info_HASH _) ?_)
    | (refine wpList_load_row rfl 26 (.tmp 4) rfl b4 rfl 26 (UARR .u8 32 (HB 2)) (0, 0) _ h4A Tryz.underlying26 rfl (info_HASH _) ?_))
  refine (hnode _ (tab.out _ A9.out.1.below).2).mono ?_
  rintro e wB ⟨rfl, hbB⟩
  clear hnode hst hwA h3A h4A
  generalize w9.heap.size = b7 at *
  have hszA := A9.out.1.below.size
  have hst := run_storeCells_new (P := Tryz.prog) wB 26 (UARR .u8 32 fun _ => 0) (UARR .u8 32 P) (info_HASH _) (by rw [UARR_size, UARR_size]) (UARR_one _ _ _)
  obtain ⟨wC, hwC⟩ : ∃ wC, wB.alloc (.cells (UARR .u8 32 P) 26) = wC := ⟨_, rfl⟩
  have hbC : Below wA.heap.size wA wC := by rw [← hwC]; exact hbB.alloc hbB.size _
  have h9C : Has wC wB.heap.size (UARR .u8 32 P) 26 := by rw [← hwC]; exact Has.new _ _ _
  have AC : Aside (AW w wC w.heap.size g 2 3 C7 f 32 b3 b4 b5 (HB 1) (HB 2) (HB 3) ∧ gl < wC.heap.size ∧ wC.rangeAt gl 0 (ULIST .u8 32 P) ∧ wC.rangeAt gl 32 (ULIST .u8 32 (HB 3)) ∧ Has wC b7 (UARR .u8 32 P) 26 ∧ Has wC wB.heap.size (UARR .u8 32 P) 26) := ⟨A9.out.1.keep hszA hbC, Nat.lt_of_lt_of_le A9.out.2.1 hbC.size, range_below A9.out.2.2.1 hbC A9.out.2.1, range_below A9.out.2.2.2.1 hbC A9.out.2.1, A9.out.2.2.2.2.keep hbC, h9C⟩
  clear hbB hbC h9C hszA A9
  go_upto_region 10 with fail
  clear hst hwC
  generalize wB.heap.size = b9 at *
  have hszC := AC.out.1.below.size
  have st : Aside (∀ W, Below wC.heap.size wC W → AW w W w.heap.size g 2 3 C7 f 32 b3 b4 b5 (HB 1) (HB 2) (HB 3)) := fun W hb => AC.out.1.keep hszC hb
  refine awake10 wC g gl cl b5 b7 b9 P (HB 3) (ROOTOF 32 f 3) (FOLDF 32 P (HB 3)) (fun W => Below wC.heap.size wC W) (Below.refl _ _).drew (fun W hb => ?_) (equal_same _) (equal_same _) (equal_same _) (fun W hb => ?_) (fun W hb => ?_) (fun W hb => ?_) (fun W hb => ?_) (fun _ _ _ _ _ h => h) ?_
  · exact ⟨range_below AC.out.2.2.1 hb AC.out.2.1, range_below AC.out.2.2.2.1 hb AC.out.2.1, (AC.out.2.2.2.2.2.keep hb).whole, (st.out W hb).h5.whole, (AC.out.2.2.2.2.1.keep hb).whole⟩
  · refine (size_of (st.out W hb).tree).mono ?_
    rintro e W' ⟨rfl, rfl⟩
    exact ⟨rfl, hb⟩
  · refine (root_of (st.out W hb).tree (tab.out W (st.out W hb).below).1 (tab.out W (st.out W hb).below).2).mono ?_
    rintro e W' ⟨rfl, hb'⟩
    exact ⟨rfl, hb.trans (hb'.mono hb.size)⟩
  · refine (fold_ok 32 P (HB 3) A8.out.2.2.2.2.2 (HB_lt 3 (by decide)) W (tab.out W (st.out W hb).below).2).mono ?_
    rintro e W' ⟨rfl, hb'⟩
    exact ⟨rfl, hb.trans (hb'.mono hb.size)⟩
  · refine (root_ok 32 3 (by decide) (FOLDF 32 P (HB 3)) (FOLDF_lt 32 _ _) W (tab.out W (st.out W hb).below).2).mono ?_
    rintro e W' ⟨rfl, hb'⟩
    exact ⟨by rw [A8.out.2.2.2.2.1]; rfl, hb.trans (hb'.mono hb.size)⟩
  · intro W hb
    have hfin := (st.out W hb).below
    clear hb st AC A8 tab GB HT A1
    go_wp2_with fail
    go_ret
    exact ⟨rfl, hfin⟩
end Go.Proofs.YtdmbmphdiaepdaaGreatDoor.HX

/- A tree and a list of its earlier roots. -/
namespace Go.Proofs.YtdmbmphdiaepdaaGreatDoor.HX
open Go.RowKit
set_option maxRecDepth 100000

theorem PKV_congr {d : Int} {f g : Nat → Nat → Nat} {n m : Nat} (hfg : ∀ k, k < n → f k = g k) (hm : m ≤ n) : PKV d f m = PKV d g m := by
  unfold PKV
  refine List.map_congr_left fun h hh => ?_
  have hb := (HS_set_of 0 h (by decide) hh).2.2
  exact VAL_congr hfg h _ (Nat.le_trans (peak_span hb) hm)
theorem ROOTOF_congr {d : Int} {f g : Nat → Nat → Nat} {n m : Nat} (hfg : ∀ k, k < n → f k = g k) (hm : m ≤ n) : ROOTOF d f m = ROOTOF d g m := by
  unfold ROOTOF
  rw [PKV_congr hfg hm]
theorem FOREST.congr {w : World} {B g : Nat} {d : Int} {log n : Nat} {C : CHUNKS} {f f' : Nat → Nat → Nat} (h : FOREST w B g d log n C f) (he : ∀ k, k < n → f k = f' k) : FOREST w B g d log n C f' :=
  ⟨h.store, h.width, h.size, h.free, fun h1 k hk => by rw [h.node h1 k hk, VAL_congr he h1 k hk], fun k hk i => by rw [← he k hk]; exact h.byte k hk i, h.few, h.base⟩
/-- one block that is none of the tree's has been written, and there may be new ones. -/
theorem FOREST.aside {w w' : World} {B g : Nat} {d : Int} {log n b : Nat} {C : CHUNKS} {f : Nat → Nat → Nat} (h : FOREST w B g d log n C f) (hblk : ∀ x, x < w.heap.size → x ≠ b → w'.heap[x]? = w.heap[x]?) (hb : ¬ FOOT w g C b) (hbg : g ≠ b) : FOREST w' B g d log n C f ∧ ∀ x, FOOT w' g C x → FOOT w g C x := by
  obtain ⟨s1, s2, s3⟩ := h.store.same hblk hb hbg
  exact ⟨⟨s1, (s3 5).trans h.width, (s3 6).trans h.size, s1.live 6 (by decide), h.node, h.byte, h.few, h.base⟩, s2⟩
/-- the first k roots. -/
def RTS (d : Int) (hs : Nat → Nat → Nat) (k : Nat) : List (Nat → Nat) := (List.range k).map (ROOTOF d hs)
theorem RTS_snoc (d : Int) (hs : Nat → Nat → Nat) (k : Nat) : RTS d hs (k + 1) = RTS d hs k ++ [ROOTOF d hs k] := by simp [RTS, List.range_succ]
theorem RTS_length (d : Int) (hs : Nat → Nat → Nat) (k : Nat) : (RTS d hs k).length = k := by simp [RTS]
theorem RTS_get (d : Int) (hs : Nat → Nat → Nat) {k i : Nat} (h : i < k) : (RTS d hs k).getD i (fun _ => 0) = ROOTOF d hs i := by
  rw [List.getD_eq_getElem?_getD, RTS, List.getElem?_map, List.getElem?_range h]
  rfl
/-- a tree of i leaves, a list of its first k roots. -/
structure ROOTS (w wx : World) (B g : Nat) (d : Int) (i k : Nat) (C : CHUNKS) (hs : Nat → Nat → Nat) (v : Value) : Prop where
  tree : FOREST wx B g d 0 i C hs
  own : wx.ownsRow B 26 32 v k (HL (RTS d hs k))
  off : ∀ b, v.ownBlock = some b → ¬ FOOT wx g C b ∧ b ≠ g
  below : Below B w wx
theorem ROOTS.keep {w wx w' : World} {B g : Nat} {d : Int} {i k : Nat} {C : CHUNKS} {hs : Nat → Nat → Nat} {v : Value} (h : ROOTS w wx B g d i k C hs v) (hB : B ≤ wx.heap.size) (hb : Below wx.heap.size wx w') : ROOTS w w' B g d i k C hs v :=
  ⟨h.tree.below hb, own_keep h.own hb, fun b e => ⟨fun hf => (h.off b e).1 (h.tree.store.foot_below hb hf), (h.off b e).2⟩, h.below.trans (hb.mono hB)⟩
theorem ROOTS.appended {w wx w' : World} {B g : Nat} {d : Int} {i k : Nat} {C : CHUNKS} {hs : Nat → Nat → Nat} {v : Value} (h : ROOTS w wx B g d i k C hs v) (hA : APPENDED wx B g d 0 i C hs (hs i) w') : ∃ C', ROOTS w w' B g d (i + 1) k C' hs v := by
  obtain ⟨C', a1, a2, a3⟩ := hA
  refine ⟨C', a1.congr fun k hk => ?_, ?_, fun b e => ⟨fun hf => ?_, (h.off b e).2⟩, h.below.trans a3⟩
  · unfold LEAFS
    split
    · rename_i e; rw [e]
    · rfl
  · refine ⟨h.own.1, h.own.2.imp id ?_⟩
    rintro ⟨g', c, cur, rfl, b, r, rest⟩
    exact ⟨g', c, cur, rfl, b, (a2.same g' (Array.getElem?_eq_some_iff.1 r).1 (h.off g' rfl).2 (h.off g' rfl).1).trans r, rest⟩
  · rcases a2.foot b hf with h1 | h1
    · exact (h.off b e).1 h1
    · have := (h.own.lt b e).2
      omega
theorem ROOTS.push {w wx w' : World} {B g : Nat} {d : Int} {i k g6 c6 : Nat} {C : CHUNKS} {hs : Nat → Nat → Nat} {v : Value} (h : ROOTS w wx B g d i k C hs v) (hB : B ≤ wx.heap.size) (hk : 0 < k) (hown : w'.ownsRow B 26 32 (.slice (some ⟨g6, 0, none⟩) (k + 1) c6) (k + 1) (HL (RTS d hs k) ++ ULIST .u8 32 (ROOTOF d hs k))) (hgrow : wx.grownBy w' v.ownBlock) (hat : v.ownBlock = some g6 ∨ g6 = wx.heap.size) :
    ROOTS w w' B g d i (k + 1) C hs (.slice (some ⟨g6, 0, none⟩) (k + 1) c6) := by
  obtain ⟨b, hb⟩ : ∃ b, v.ownBlock = some b := by
    rcases h.own.2 with ⟨_, h0⟩ | ⟨g', c, cur, rfl, _⟩
    · omega
    · exact ⟨g', rfl⟩
  rw [hb] at hgrow hat
  obtain ⟨f1, f2⟩ := h.tree.aside (fun x hx hne => hgrow.block x hx (fun e => hne (Option.some.inj e))) (h.off b hb).1 (fun e => (h.off b hb).2 e.symm)
  have hgl := h.tree.store.lt
  refine ⟨f1, by rw [RTS_snoc, HL_snoc']; exact hown, fun x e => ?_, h.below.grown hgrow hB (fun x e => by cases e; exact (h.own.lt b hb).1)⟩
  have hx : g6 = x := by simpa [Value.ownBlock] using e
  subst hx
  rcases hat with e2 | e2
  · have e3 : b = g6 := Option.some.inj e2
    subst e3
    exact ⟨fun hf => (h.off b hb).1 (f2 b hf), (h.off b hb).2⟩
  · refine ⟨fun hf => ?_, by omega⟩
    have := h.tree.store.foot_lt (f2 g6 hf)
    omega
/-- where the k-th root lies. -/
theorem ROOTS.at {w wx : World} {B g : Nat} {d : Int} {i k j gl cl : Nat} {C : CHUNKS} {hs : Nat → Nat → Nat} (h : ROOTS w wx B g d i k C hs (.slice (some ⟨gl, 0, none⟩) k cl)) (hj : j < k) : wx.rangeAt gl (j * 32) (ULIST .u8 32 (ROOTOF d hs j)) ∧ gl < wx.heap.size := by
  obtain ⟨a, c, e, hH⟩ := own_hashes h.own (RTS_length d hs k)
  cases e
  obtain ⟨b, o, e, hl, hr⟩ := hH (by omega)
  cases e
  have h1 := hr j hj
  dsimp only at h1
  rw [RTS_get d hs hj, Nat.zero_add] at h1
  exact ⟨h1, hl⟩
end Go.Proofs.YtdmbmphdiaepdaaGreatDoor.HX

/- A tree and a list of its leaves' hashes beside it. -/
namespace Go.Proofs.YtdmbmphdiaepdaaGreatDoor.HX
open Go.RowKit
set_option maxRecDepth 100000

def FSTS (hs : Nat → Nat → Nat) (k : Nat) : List (Nat → Nat) := (List.range k).map hs
theorem FSTS_snoc (hs : Nat → Nat → Nat) (k : Nat) : FSTS hs (k + 1) = FSTS hs k ++ [hs k] := by simp [FSTS, List.range_succ]
theorem FSTS_length (hs : Nat → Nat → Nat) (k : Nat) : (FSTS hs k).length = k := by simp [FSTS]
theorem FSTS_get (hs : Nat → Nat → Nat) {k i : Nat} (h : i < k) : (FSTS hs k).getD i (fun _ => 0) = hs i := by
  rw [List.getD_eq_getElem?_getD, FSTS, List.getElem?_map, List.getElem?_range h]
  rfl
/-- a tree of i leaves, a list of the first k hashes. -/
structure LISTED (w wx : World) (B g : Nat) (d : Int) (log i k : Nat) (C : CHUNKS) (hs : Nat → Nat → Nat) (v : Value) : Prop where
  tree : FOREST wx B g d log i C hs
  own : wx.ownsRow B 26 32 v k (HL (FSTS hs k))
  off : ∀ b, v.ownBlock = some b → ¬ FOOT wx g C b ∧ b ≠ g
  below : Below B w wx
theorem LISTED.keep {w wx w' : World} {B g : Nat} {d : Int} {log i k : Nat} {C : CHUNKS} {hs : Nat → Nat → Nat} {v : Value} (h : LISTED w wx B g d log i k C hs v) (hB : B ≤ wx.heap.size) (hb : Below wx.heap.size wx w') : LISTED w w' B g d log i k C hs v :=
  ⟨h.tree.below hb, own_keep h.own hb, fun b e => ⟨fun hf => (h.off b e).1 (h.tree.store.foot_below hb hf), (h.off b e).2⟩, h.below.trans (hb.mono hB)⟩
theorem LISTED.appended {w wx w' : World} {B g : Nat} {d : Int} {log i k : Nat} {C : CHUNKS} {hs : Nat → Nat → Nat} {v : Value} (h : LISTED w wx B g d log i k C hs v) (hA : APPENDED wx B g d log i C hs (hs i) w') : ∃ C', LISTED w w' B g d log (i + 1) k C' hs v := by
  obtain ⟨C', a1, a2, a3⟩ := hA
  refine ⟨C', a1.congr fun k hk => ?_, ?_, fun b e => ⟨fun hf => ?_, (h.off b e).2⟩, h.below.trans a3⟩
  · unfold LEAFS
    split
    · rename_i e; rw [e]
    · rfl
  · refine ⟨h.own.1, h.own.2.imp id ?_⟩
    rintro ⟨g', c, cur, rfl, b, r, rest⟩
    exact ⟨g', c, cur, rfl, b, (a2.same g' (Array.getElem?_eq_some_iff.1 r).1 (h.off g' rfl).2 (h.off g' rfl).1).trans r, rest⟩
  · rcases a2.foot b hf with h1 | h1
    · exact (h.off b e).1 h1
    · have := (h.own.lt b e).2
      omega
theorem LISTED.push {w wx w' : World} {B g : Nat} {d : Int} {log i k g6 c6 : Nat} {C : CHUNKS} {hs : Nat → Nat → Nat} {v : Value} (h : LISTED w wx B g d log i k C hs v) (hB : B ≤ wx.heap.size) (hown : w'.ownsRow B 26 32 (.slice (some ⟨g6, 0, none⟩) (k + 1) c6) (k + 1) (HL (FSTS hs k) ++ ULIST .u8 32 (hs k))) (hgrow : wx.grownBy w' v.ownBlock) (hat : v.ownBlock = some g6 ∨ g6 = wx.heap.size) :
    LISTED w w' B g d log i (k + 1) C hs (.slice (some ⟨g6, 0, none⟩) (k + 1) c6) := by
  have hgl := h.tree.store.lt
  have key : FOREST w' B g d log i C hs ∧ ∀ x, FOOT w' g C x → FOOT wx g C x := by
    cases hb : v.ownBlock with
    | none =>
      rw [hb] at hgrow
      exact h.tree.aside (b := wx.heap.size) (fun x hx _ => hgrow.block x hx (fun e => by cases e)) (fun hf => Nat.lt_irrefl _ (h.tree.store.foot_lt hf)) (by omega)
    | some b =>
      rw [hb] at hgrow
      exact h.tree.aside (fun x hx hne => hgrow.block x hx (fun e => hne (Option.some.inj e))) (h.off b hb).1 (fun e => (h.off b hb).2 e.symm)
  refine ⟨key.1, by rw [FSTS_snoc, HL_snoc']; exact hown, fun x e => ?_, h.below.grown hgrow hB (fun x e => (h.own.lt x e).1)⟩
  have hx : g6 = x := by simpa [Value.ownBlock] using e
  subst hx
  rcases hat with e2 | e2
  · exact ⟨fun hf => (h.off g6 e2).1 (key.2 g6 hf), (h.off g6 e2).2⟩
  · refine ⟨fun hf => ?_, by omega⟩
    have := h.tree.store.foot_lt (key.2 g6 hf)
    omega
/-- the list, as a slice of hashes. -/
theorem LISTED.hashes {w wx : World} {B g : Nat} {d : Int} {log i k : Nat} {C : CHUNKS} {hs : Nat → Nat → Nat} {v : Value} (h : LISTED w wx B g d log i k C hs v) : ∃ a c, v = .slice a k c ∧ HASHES wx a k hs := by
  obtain ⟨a, c, e, hH⟩ := own_hashes h.own (FSTS_length hs k)
  refine ⟨a, c, e, fun hk => ?_⟩
  obtain ⟨b, o, e2, hl, hr⟩ := hH hk
  refine ⟨b, o, e2, hl, fun j hj => ?_⟩
  have h1 := hr j hj
  dsimp only at h1
  rwa [FSTS_get hs hj] at h1
end Go.Proofs.YtdmbmphdiaepdaaGreatDoor.HX

/- The same hashes in a list of their own that goes on behind them: massiflaw6's row. -/
namespace Go.Proofs.YtdmbmphdiaepdaaGreatDoor.HX
open Go.RowKit
set_option maxRecDepth 100000

theorem HL_FSTS_length (hs : Nat → Nat → Nat) : ∀ k, (HL (FSTS hs k)).length = 32 * k
  | 0 => rfl
  | k + 1 => by rw [FSTS_snoc, HL_snoc', List.length_append, HL_FSTS_length hs k, ULIST_length]; omega
theorem HL_FSTS_one (hs : Nat → Nat → Nat) : ∀ k, ∀ v ∈ HL (FSTS hs k), v.oneCell' = true
  | 0, v, h => by simp [FSTS, HL] at h
  | k + 1, v, h => by
    rw [FSTS_snoc, HL_snoc', List.mem_append] at h
    rcases h with h | h
    · exact HL_FSTS_one hs k v h
    · exact ULIST_one _ _ _ v h
/-- hashes that lie there, cell behind cell. -/
theorem hashes_range {w : World} {b o m : Nat} {hs : Nat → Nat → Nat} (h : ∀ i, i < m → w.rangeAt b (o + i * 32) (ULIST .u8 32 (hs i))) : ∀ k, k ≤ m → w.rangeAt b o (HL (FSTS hs k))
  | 0, _ => fun j v hv => by simp [FSTS, HL] at hv
  | k + 1, hk => fun j v hv => by
    rw [FSTS_snoc, HL_snoc'] at hv
    by_cases hj : j < 32 * k
    · rw [List.getElem?_append_left (by rw [HL_FSTS_length]; exact hj)] at hv
      exact hashes_range h k (by omega) j v hv
    · rw [List.getElem?_append_right (by rw [HL_FSTS_length]; omega), HL_FSTS_length] at hv
      have := h k (by omega) (j - 32 * k) v hv
      rwa [show o + k * 32 + (j - 32 * k) = o + j by omega] at this
/-- hashes are appended. -/
theorem app_hashesf {ops : Array Oper} {rest : List Oper} {o : Oper} {a : Act} {Q : Exit → Act → World → Prop} (w : World) (hgd : o.guard = none) (s x : Operand)
    (ho : o.op = .call { callee := .builtin .append, args := #[s, x], argTypes := #[23, 23] })
    (base : Nat) (v : Value) (n : Nat) (xs : List Value) (hs : a.eval s = v) (hown : w.ownsRow base 26 32 v n xs)
    (ad : Option Addr) (m c : Nat) (l : Nat → Nat → Nat) (hx : a.eval x = .slice ad m c) (hL : HASHES w ad m l) (hc : ad = none → c = 0) (hnone : ad = none → m = 0)
    (hb : n + m ≤ 100000) (hbase : base ≤ w.heap.size)
    (hh : ∀ a' c' w', w'.ownsRow base 26 32 (.slice a' (n + m) c') (n + m) (xs ++ HL (FSTS l m)) → w.grownBy w' v.ownBlock → wpList Tryz.prog ops Q rest (a.put o.dst (.slice a' (n + m) c')) w') : wpList Tryz.prog ops Q (o :: rest) a w := by
  obtain ⟨i, hi, hz, hs1, hby⟩ := info_parts info_hashT
  cases ad with
  | none =>
    obtain rfl := hc rfl
    obtain rfl := hnone rfl
    refine wpList_append_own_none hgd s x 23 ho base 26 i 32 Tryz.underlying23 hi v n xs hs hown hx ?_
    obtain ⟨a', c', rfl⟩ := own_shape hown
    have := hh a' c' w (by simpa [FSTS, HL] using hown) (grown_refl _ _)
    simpa using this
  | some ad =>
    have hcells : ∀ j u, (HL (FSTS l m))[j]? = some u → w.cell? (ad.add j) = some u := by
      intro j u hu
      have hj : j < 32 * m := by
        have := (List.getElem?_eq_some_iff.1 hu).1
        rwa [HL_FSTS_length] at this
      obtain ⟨g, o', e, _, hr⟩ := hL (by omega)
      cases e
      rw [Addr.add_mid]
      exact hashes_range hr m (Nat.le_refl _) j u hu
    refine wpList_append_own w hgd s x 23 ho base 26 i _ 32 32 Tryz.underlying23 hi hz hs1 hby (by simp [Value.cells, UARR_size]) (by decide) v n xs hs hown ad m c (HL (FSTS l m)) hx (by rw [HL_FSTS_length]; omega) hcells (HL_FSTS_one l m) (by simp only [maxLen]; omega) (by omega) hbase ?_
    intro v' w' h1 h2 _
    obtain ⟨a', c', rfl⟩ := own_shape h1
    exact hh a' c' w' h1 h2
/-- the mark behind a list of hashes. -/
def MRKF (i : Nat) : Nat := if i = 0 then 171 else 0
theorem MRKF_lt (i : Nat) : MRKF i < 256 := by unfold MRKF; split <;> omega
theorem MRKF_arr : UARR .u8 32 MRKF = #[.int .u8 171, .int .u8 0, .int .u8 0, .int .u8 0, .int .u8 0, .int .u8 0, .int .u8 0, .int .u8 0, .int .u8 0, .int .u8 0, .int .u8 0, .int .u8 0, .int .u8 0, .int .u8 0, .int .u8 0, .int .u8 0, .int .u8 0, .int .u8 0, .int .u8 0, .int .u8 0, .int .u8 0, .int .u8 0, .int .u8 0, .int .u8 0, .int .u8 0, .int .u8 0, .int .u8 0, .int .u8 0, .int .u8 0, .int .u8 0, .int .u8 0, .int .u8 0] := by rfl
theorem own_frontf {w : World} {base g n cap : Nat} {hs : Nat → Nat → Nat} {m : Nat → Nat} (h : w.ownsRow base 26 32 (.slice (some ⟨g, 0, none⟩) (n + 1) cap) (n + 1) (HL (FSTS hs n) ++ ULIST .u8 32 m)) : w.ownsRow base 26 32 (.slice (some ⟨g, 0, none⟩) n cap) n (HL (FSTS hs n)) ∧ n + 1 ≤ cap ∧ w.rangeAt g (n * 32) (ULIST .u8 32 m) ∧ g < w.heap.size := by
  have hr : w.rangeAt g (n * 32) (ULIST .u8 32 m) := by
    intro j v hv
    have hj : j < 32 := by
      have := (List.getElem?_eq_some_iff.1 hv).1
      rwa [ULIST_length] at this
    have := h.cellAt (n * 32 + j) (by omega)
    rw [this, List.getElem?_append_right (by rw [HL_FSTS_length]; omega), show n * 32 + j - (HL (FSTS hs n)).length = j by rw [HL_FSTS_length]; omega]
    exact hv
  rcases h.2 with ⟨e, _⟩ | ⟨g', cap', cur, e, hb, hg, h1, h2, h3, h4⟩
  · cases e
  · cases e
    refine ⟨⟨by rw [HL_FSTS_length, Nat.mul_comm], .inr ⟨g, cap, cur, rfl, hb, hg, by omega, h2, h3, ?_⟩⟩, h1, hr, (Array.getElem?_eq_some_iff.1 hg).1⟩
    have h5 := congrArg (List.take (n * 32)) h4
    rw [List.take_take, show min (n * 32) ((n + 1) * 32) = n * 32 by omega] at h5
    rw [h5, List.take_left' (by rw [HL_FSTS_length, Nat.mul_comm])]
/-- what row answers. -/
def ROWEDF (w : World) (n : Nat) (hs : Nat → Nat → Nat) (e : Ending) (w' : World) : Prop :=
  ∃ g cap, e = .returned (.slice (some ⟨g, 0, none⟩) n cap) ∧ w'.ownsRow w.heap.size 26 32 (.slice (some ⟨g, 0, none⟩) n cap) n (HL (FSTS hs n)) ∧ n + 1 ≤ cap ∧ w'.rangeAt g (n * 32) (ULIST .u8 32 MRKF) ∧ g < w'.heap.size ∧ Below w.heap.size w w'
theorem own_emptyh (w : World) : (w.alloc (.cells #[] 26)).ownsRow w.heap.size 26 32 (.slice (some ⟨w.heap.size, 0, none⟩) 0 0) 0 [] :=
  World.ownsRow_lit w #[] 0 (Nat.le_refl _) (by simp [maxLen]) rfl
set_option maxHeartbeats 1000000 in
theorem row6_ok (a : Option Addr) (n c : Nat) (hn : n ≤ 1000) (hc : a = none → c = 0 ∧ n = 0) (hs : Nat → Nat → Nat) (w : World) (hF : HASHES w a n hs) : Calls Tryz.prog 5 #[.slice a n c] w (ROWEDF w n hs) := by
  have HA : Aside (n ≤ 1000 ∧ (a = none → c = 0 ∧ n = 0) ∧ HASHES w a n hs) := ⟨hn, hc, hF⟩
  clear hn hc hF
  go_enter Tryz.func5, Tryz.ntmps5
  go_wp2_with (first
    | (at_builtin; refine app_hashesf _ rfl (.tmp 3) (.tmp 4) rfl w.heap.size (.slice (some ⟨w.heap.size, 0, none⟩) 0 0) 0 [] rfl (own_emptyh w) a n c hs rfl (HA.out.2.2.below ((Below.refl _ _).alloc (Nat.le_refl _) _)) (fun h => (HA.out.2.1 h).1) (fun h => (HA.out.2.1 h).2) (by have := HA.out.1; omega) (by simp) ?_; rw [Nat.zero_add, List.nil_append]; intro a1 c1 w1 hown1 hgrow1
       have R1 : Aside (w1.ownsRow w.heap.size 26 32 (.slice a1 n c1) n (HL (FSTS hs n)) ∧ Below w.heap.size w w1) := ⟨hown1, ((Below.refl _ w).alloc (Nat.le_refl _) _).grown hgrow1 (by simp) (fun k e => by cases e; exact Nat.le_refl _)⟩
       clear hown1 hgrow1)
    | (rw [← MRKF_arr]; refine build_hash _ rfl (.tmp 6) rfl MRKF rfl ?_)
    | (at_builtin; refine app_hashf _ rfl (.tmp 5) (.tmp 7) rfl w.heap.size (.slice a1 n c1) n (HL (FSTS hs n)) rfl (R1.out.1.alloc _) w1.heap.size 1 MRKF rfl (Has.new _ _ _) (by have := HA.out.1; omega) (by have := R1.out.2.size; simp; omega) ?_; intro g2 c2 w2 hown2 hgrow2 hat2 hg2
       obtain ⟨f1, f2, f3, f4⟩ := own_frontf hown2
       have hcap : (n : Int) ≤ (c2 : Int) := by omega
       have R2 : Aside (w2.ownsRow w.heap.size 26 32 (.slice (some ⟨g2, 0, none⟩) n c2) n (HL (FSTS hs n)) ∧ n + 1 ≤ c2 ∧ w2.rangeAt g2 (n * 32) (ULIST .u8 32 MRKF) ∧ g2 < w2.heap.size ∧ Below w.heap.size w w2) := ⟨f1, f2, f3, f4, (R1.out.2.alloc R1.out.2.size _).grown hgrow2 (by have := R1.out.2.size; simp; omega) (fun k e => (R1.out.1.lt k e).1)⟩
       clear hown2 hgrow2 hat2 hg2 f1 f2 f3 f4))
  go_ret
  exact ⟨_, _, rfl, R2.out⟩
end Go.Proofs.YtdmbmphdiaepdaaGreatDoor.HX

/- The perfect tree over hashes: mmr.Grow. -/
namespace Go.Proofs.YtdmbmphdiaepdaaGreatDoor.HX
open Go.RowKit
set_option maxRecDepth 100000

theorem onesw_ok (X : Nat) (hX : X < 2 ^ 64) (w : World) : Calls Tryz.prog 31 #[.int .u64 (X : Int)] w fun e w' => e = .returned (.int .i64 ((POP X : Nat) : Int)) ∧ w = w' := by
  have c := onescount_ok X hX w
  clear hX
  go_enter Tryz.func31, Tryz.ntmps31
  go_wp2_with fail
  refine c.mono ?_
  rintro e w' ⟨rfl, rfl⟩
  go_wp2
  go_ret
  exact ⟨rfl, rfl⟩
/-- a list in which n leaves have been laid. -/
structure GRWN (w wx : World) (d : Int) (n : Nat) (v : Value) (l : List (Nat → Nat)) (f : Nat → Nat → Nat) : Prop where
  own : wx.ownsRow w.heap.size 26 32 v (NODES n) (HL l)
  len : l.length = NODES n
  old : ∀ h k, (k + 1) * 2 ^ h ≤ n → l[PLC h k]? = some (VAL d f h k)
  below : Below w.heap.size w wx
/-- the leaf and j nodes above it have been laid. -/
structure GRWS (w wx : World) (d : Int) (n j : Nat) (v : Value) (l : List (Nat → Nat)) (f : Nat → Nat → Nat) : Prop where
  own : wx.ownsRow w.heap.size 26 32 v (NODES n + 1 + j) (HL l)
  len : l.length = NODES n + 1 + j
  old : ∀ h k, (k + 1) * 2 ^ h ≤ n → l[PLC h k]? = some (VAL d f h k)
  new : ∀ i, i ≤ j → l[NODES n + i]? = some (VAL d f i (n / 2 ^ i))
  ones : ONES n j
  below : Below w.heap.size w wx
theorem grws_first {w wx w' : World} {d : Int} {n : Nat} {v v' : Value} {l : List (Nat → Nat)} {f : Nat → Nat → Nat} (h : GRWN w wx d n v l f) (hown : w'.ownsRow w.heap.size 26 32 v' (NODES n + 1) (HL l ++ ULIST .u8 32 (f n))) (hb : Below w.heap.size w w') : GRWS w w' d n 0 v' (l ++ [f n]) f := by
  refine ⟨by rw [HL_snoc']; exact hown, by rw [List.length_append, h.len]; rfl, fun a k hk => ?_, fun i hi => ?_, fun i hi => by omega, hb⟩
  · rw [List.getElem?_append_left (by rw [h.len]; exact PLC_under hk)]
    exact h.old a k hk
  · obtain rfl : i = 0 := by omega
    rw [Nat.add_zero, ← h.len, List.getElem?_append_right (Nat.le_refl _), Nat.sub_self]
    simp [VAL]
theorem grws_next {w wx w' : World} {d : Int} {n j : Nat} {v v' : Value} {l : List (Nat → Nat)} {f : Nat → Nat → Nat} (h : GRWS w wx d n j v l f) (hj : n / 2 ^ j % 2 = 1) (hown : w'.ownsRow w.heap.size 26 32 v' (NODES n + 1 + j + 1) (HL l ++ ULIST .u8 32 (VAL d f (j + 1) (n / 2 ^ (j + 1))))) (hb : Below w.heap.size w w') : GRWS w w' d n (j + 1) v' (l ++ [VAL d f (j + 1) (n / 2 ^ (j + 1))]) f := by
  refine ⟨by rw [HL_snoc']; exact hown, by rw [List.length_append, h.len]; rfl, fun a k hk => ?_, fun i hi => ?_, h.ones.next hj, hb⟩
  · rw [List.getElem?_append_left (by rw [h.len]; have := PLC_under hk; omega)]
    exact h.old a k hk
  · by_cases e : i = j + 1
    · subst e
      rw [show NODES n + (j + 1) = l.length by rw [h.len]; omega, List.getElem?_append_right (Nat.le_refl _), Nat.sub_self]
      rfl
    · rw [List.getElem?_append_left (by rw [h.len]; omega)]
      exact h.new i (by omega)
theorem grws_last {w wx : World} {d : Int} {n j : Nat} {v : Value} {l : List (Nat → Nat)} {f : Nat → Nat → Nat} (h : GRWS w wx d n j v l f) (hj : n / 2 ^ j % 2 = 0) : GRWN w wx d (n + 1) v l f := by
  have e := h.ones.nodes hj
  refine ⟨by rw [e, show NODES n + j + 1 = NODES n + 1 + j by omega]; exact h.own, by rw [h.len, e]; omega, fun a k hk => ?_, h.below⟩
  by_cases hk2 : (k + 1) * 2 ^ a ≤ n
  · exact h.old a k hk2
  · obtain ⟨e1, o1⟩ := ONES.of_span (n := n) (h := a) (k := k) (by omega)
    have ha : a ≤ j := by
      rcases Nat.lt_or_ge j a with hlt | hge
      · have := o1 j hlt
        omega
      · exact hge
    rw [e1, o1.place]
    exact h.new a ha
end Go.Proofs.YtdmbmphdiaepdaaGreatDoor.HX
