/- Texts of MmrData, one behind the other: MmrAwake, MmrOldState, MmrListed, MmrAdd. -/
import Derived.Test.YtcmjcchemlhejaaDoorMmrDataP23
import Derived.Test.YtcmjcchemlhejaaDoorMmrDataP25
import Derived.Test.YtcmjcchemlhejaaDoorMmrDataP26
/- massiflaw6.awake. -/
namespace Go.Proofs.YtcmjcchemlhejaaDoor.HX
open Go.RowKit
set_option maxRecDepth 100000

/-- a hash with this first byte, noughts behind it. -/
def HB (x : Nat) : Nat → Nat := fun i => if i = 0 then x else 0
theorem HB_lt (x : Nat) (h : x < 256) : ∀ i, HB x i < 256 := fun i => by unfold HB; split <;> omega
theorem build1 : (UARR .u8 32 fun _ => 0).setIfInBounds 0 (.int .u8 1) = UARR .u8 32 (HB 1) := UARR_set .u8 32 (fun _ => 0) 0 1
theorem build2 : (UARR .u8 32 fun _ => 0).setIfInBounds 0 (.int .u8 2) = UARR .u8 32 (HB 2) := UARR_set .u8 32 (fun _ => 0) 0 2
theorem build3 : (UARR .u8 32 fun _ => 0).setIfInBounds 0 (.int .u8 3) = UARR .u8 32 (HB 3) := UARR_set .u8 32 (fun _ => 0) 0 3
/-- a load of a whole row where a guard is met. -/
theorem wpList_load_row_if {ops : Array Oper} {rest : List Oper} {o : Oper} {a : Act} {w : World} {Q : Exit → Act → World → Prop} (hw : Region.wanted o (yielded ops a.tmps) = true) (ty : TypeId) (x : Operand) (ho : o.op = .load ty x) (n : Nat) (e : TypeId)
    (b : Nat) (hx : a.eval x = .pointer (some ⟨b, 0, none⟩)) (t : TypeId) (cs : Array Value) (fr : Nat × Nat) (hb : w.heap[b]? = some (.cells cs t fr)) (hu : Tryd.prog.underlying ty = some (.array n e)) (hi : (Tryd.prog.info? ty).map (·.size) = some cs.size)
    (h : wpList Tryd.prog ops Q rest (a.put o.dst (.agg cs)) w) : wpList Tryd.prog ops Q (o :: rest) a w := by
  simp only [wpList]
  rw [if_pos hw]
  exact .inl (wp_load_row ty x ho b hx t cs fr (.array n e) hb hu rfl hi h)
/-- a tree, and three hashes beside it. -/
structure AW (w wx : World) (B g : Nat) (log n : Nat) (C : CHUNKS) (f : Nat → Nat → Nat) (d : Int) (b3 b4 b5 : Nat) (x y z : Nat → Nat) : Prop where
  tree : FOREST wx B g d log n C f
  h3 : Has wx b3 (UARR .u8 32 x) 30
  h4 : Has wx b4 (UARR .u8 32 y) 30
  h5 : Has wx b5 (UARR .u8 32 z) 30
  off : ¬ FOOT wx g C b3 ∧ ¬ FOOT wx g C b4 ∧ ¬ FOOT wx g C b5
  below : Below B w wx
theorem FOREST.ne {w : World} {B g : Nat} {d : Int} {log n b : Nat} {C : CHUNKS} {f : Nat → Nat → Nat} (h : FOREST w B g d log n C f) {c : Array Value} (hb : Has w b c 30) : b ≠ g := fun e => by
  obtain ⟨cs, t, fr, k1, _, _, k4⟩ := h.store.kind
  unfold Has at hb
  rw [e, k1] at hb
  cases Option.some.inj hb
  exact k4 rfl
theorem AW.next {w wx w' : World} {B g : Nat} {log n : Nat} {C : CHUNKS} {f : Nat → Nat → Nat} {d : Int} {b3 b4 b5 : Nat} {x y z u : Nat → Nat} (h : AW w wx B g log n C f d b3 b4 b5 x y z) (hA : APPENDED wx B g d log n C f u w') : ∃ C', AW w w' B g log (n + 1) C' (LEAFS f n u) d b3 b4 b5 x y z := by
  obtain ⟨C', a1, a2, a3⟩ := hA
  have key : ∀ {b : Nat} {c : Array Value}, Has wx b c 30 → ¬ FOOT wx g C b → Has w' b c 30 ∧ ¬ FOOT w' g C' b := fun {b c} hb hf => by
    refine ⟨(a2.same b hb.lt (h.tree.ne hb) hf).trans hb, fun hf' => ?_⟩
    rcases a2.foot b hf' with h1 | h1
    · exact hf h1
    · have := hb.lt
      omega
  exact ⟨C', a1, (key h.h3 h.off.1).1, (key h.h4 h.off.2.1).1, (key h.h5 h.off.2.2).1, ⟨(key h.h3 h.off.1).2, (key h.h4 h.off.2.1).2, (key h.h5 h.off.2.2).2⟩, h.below.trans a3⟩
theorem AW.keep {w wx w' : World} {B g : Nat} {log n : Nat} {C : CHUNKS} {f : Nat → Nat → Nat} {d : Int} {b3 b4 b5 : Nat} {x y z : Nat → Nat} (h : AW w wx B g log n C f d b3 b4 b5 x y z) (hB : B ≤ wx.heap.size) (hb : Below wx.heap.size wx w') : AW w w' B g log n C f d b3 b4 b5 x y z :=
  ⟨h.tree.below hb, h.h3.keep hb, h.h4.keep hb, h.h5.keep hb, ⟨fun hf => h.off.1 (h.tree.store.foot_below hb hf), fun hf => h.off.2.1 (h.tree.store.foot_below hb hf), fun hf => h.off.2.2 (h.tree.store.foot_below hb hf)⟩, h.below.trans (hb.mono hB)⟩
theorem hs3 : HS 0 3 = [1, 0] := by decide
theorem pkv3 (d : Int) (f : Nat → Nat → Nat) : PKV d f 3 = [NODEF d (f 0) (f 1), f 2] := by
  unfold PKV
  rw [hs3]
  rfl
theorem pc3 : PC 3 = 2 := by decide
theorem rootof3 (d : Int) (f : Nat → Nat → Nat) : ROOTOF d f 3 = ROOTF d 3 (FOLDF d (NODEF d (f 0) (f 1)) (f 2)) := by
  unfold ROOTOF
  rw [pkv3, pc3]
  rfl
theorem own_two {w : World} {B : Nat} {v : Value} {p c : Nat → Nat} (h : w.ownsRow B 30 32 v 2 (HL [p, c])) : ∃ gl cl, v = .slice (some ⟨gl, 0, none⟩) 2 cl ∧ gl < w.heap.size ∧ w.rangeAt gl 0 (ULIST .u8 32 p) ∧ w.rangeAt gl 32 (ULIST .u8 32 c) := by
  obtain ⟨a, cl, rfl, hH⟩ := own_hashes h rfl
  rcases h.2 with ⟨e, h0⟩ | ⟨g, cap, cur, e, _, hg, _⟩
  · cases h0
  · simp only [Value.slice.injEq] at e
    obtain ⟨rfl, _, rfl⟩ := e
    obtain ⟨b, o, e2, hl, hr⟩ := hH (by decide)
    cases e2
    exact ⟨g, cl, rfl, hl, hr 0 (by decide), hr 1 (by decide)⟩
theorem FOREST.second {w : World} {B g : Nat} {d : Int} {log : Nat} {C : CHUNKS} {f : Nat → Nat → Nat} (h : FOREST w B g d log 3 C f) : GOTH C log (NODES 3) 2 = NODEF d (f 0) (f 1) ∧ GOT C log (NODES 3) 2 = 0 := by
  have h1 : AT C log 2 = some (NODEF d (f 0) (f 1)) := h.node 1 0 (by decide)
  have h2 : 2 < NODES 3 := by decide
  unfold GOTH GOT
  rw [if_pos h2, if_pos h2, h1]
  exact ⟨rfl, rfl⟩
set_option maxHeartbeats 4000000 in
theorem awake6_ok (w : World) (hT : Go.Proofs.YtcmjcchemlhejaaDoor.Tabled w) (hX : Tabled w) : Calls Tryd.prog 20 #[] w fun e w' => e = .returned (.bool true) ∧ Below w.heap.size w w' := by
  have cn := treenew_ok 32 2 (by decide) w
  have k1 := build1
  have k2 := build2
  have k3 := build3
  have hz := zeroHash
  have hsu0 := UARR_size .u8 32 (fun _ => 0)
  have HT : Aside (Go.Proofs.YtcmjcchemlhejaaDoor.Tabled w ∧ Tabled w) := ⟨hT, hX⟩
  clear hT hX
  go_enter Tryd.func20, Tryd.ntmps20
  go_wp2_with fail
  refine cn.mono ?_
  rintro e w1 ⟨g, rfl, hg, hH, hb1⟩
  clear cn
  have A1 : Aside (w.heap.size ≤ g ∧ Has w1 g (TFRESH 32 2) 66 ∧ Below w.heap.size w w1) := ⟨hg, hH, hb1⟩
  clear hg hH hb1
  go_upto_region 4 with fail
  obtain ⟨Wa, hWa⟩ : ∃ Wa, ((w1.alloc (.cells (UARR .u8 32 fun _ => 0) 30)).alloc (.cells (UARR .u8 32 fun _ => 0) 30)).alloc (.cells (UARR .u8 32 fun _ => 0) 30) = Wa := ⟨_, rfl⟩
  have hba : Below w1.heap.size w1 Wa := by rw [← hWa]; exact (((Below.refl _ _).alloc (Nat.le_refl _) _).alloc (by simp) _).alloc (by simp; omega) _
  have ha3 : Has Wa w1.heap.size (UARR .u8 32 fun _ => 0) 30 := by rw [← hWa]; exact ((Has.new w1 _ _).alloc _).alloc _
  have ha4 : Has Wa (w1.heap.size + 1) (UARR .u8 32 fun _ => 0) 30 := by rw [← hWa]; exact (Has.at _ _ _ (by simp)).alloc _
  have ha5 : Has Wa (w1.heap.size + 1 + 1) (UARR .u8 32 fun _ => 0) 30 := by rw [← hWa]; exact Has.at _ _ _ (by simp)
  have hb4 : Has (Wa.setRow w1.heap.size (UARR .u8 32 (HB 1))) (w1.heap.size + 1) (UARR .u8 32 fun _ => 0) 30 := ha4.row_other (by omega) _
  have hb5 : Has ((Wa.setRow w1.heap.size (UARR .u8 32 (HB 1))).setRow (w1.heap.size + 1) (UARR .u8 32 (HB 2))) (w1.heap.size + 1 + 1) (UARR .u8 32 fun _ => 0) 30 := (ha5.row_other (by omega) _).row_other (by omega) _
  obtain ⟨Wd, hWd⟩ : ∃ Wd, ((Wa.setRow w1.heap.size (UARR .u8 32 (HB 1))).setRow (w1.heap.size + 1) (UARR .u8 32 (HB 2))).setRow (w1.heap.size + 1 + 1) (UARR .u8 32 (HB 3)) = Wd := ⟨_, rfl⟩
  have hbd : Below w1.heap.size w1 Wd := by rw [← hWd]; exact below_row (below_row (below_row hba (Nat.le_refl _) _) (by omega) _) (by omega) _
  have hd3 : Has Wd w1.heap.size (UARR .u8 32 (HB 1)) 30 := by rw [← hWd]; exact ((ha3.row _).row_other (by omega) _).row_other (by omega) _
  have hd4 : Has Wd (w1.heap.size + 1) (UARR .u8 32 (HB 2)) 30 := by rw [← hWd]; exact (hb4.row _).row_other (by omega) _
  have hd5 : Has Wd (w1.heap.size + 1 + 1) (UARR .u8 32 (HB 3)) 30 := by rw [← hWd]; exact hb5.row _
  have hW0 : AW w Wd w.heap.size g 2 0 (fun _ => none) (fun _ _ => 0) 32 w1.heap.size (w1.heap.size + 1) (w1.heap.size + 1 + 1) (HB 1) (HB 2) (HB 3) := by
    have hn := FOREST.new (B := w.heap.size) (A1.out.2.1.keep hbd) (by decide) A1.out.1 (fun _ _ => 0)
    have hn1 := FOREST.new (B := w.heap.size) A1.out.2.1 (by decide) A1.out.1 (fun _ _ => 0)
    have off : ∀ b, w1.heap.size ≤ b → ¬ FOOT Wd g (fun _ => none) b := fun b hb hf => by
      have := hn1.store.foot_lt (hn1.store.foot_below hbd hf)
      omega
    exact ⟨hn, hd3, hd4, hd5, ⟨off _ (by omega), off _ (by omega), off _ (by omega)⟩, A1.out.2.2.trans (hbd.mono A1.out.2.2.size)⟩
  have hsz : w.heap.size ≤ Wd.heap.size := hW0.below.size
  have A2 : Aside (AW w Wd w.heap.size g 2 0 (fun _ => none) (fun _ _ => 0) 32 w1.heap.size (w1.heap.size + 1) (w1.heap.size + 1 + 1) (HB 1) (HB 2) (HB 3)) := hW0
  clear hba hbd ha5 hd4 hd5 hW0
  go_wp2_with (first
    | (refine wpList_store_row rfl 30 (.tmp 3) (.tmp 20) rfl _ _ rfl rfl 30 (UARR .u8 32 fun _ => 0) ha3 (info_HASH _) (by rw [UARR_size, UARR_size]) (UARR_one _ _ _) ?_)
    | (refine wpList_store_row rfl 30 (.tmp 4) (.tmp 21) rfl _ _ rfl rfl 30 (UARR .u8 32 fun _ => 0) hb4 (info_HASH _) (by rw [UARR_size, UARR_size]) (UARR_one _ _ _) ?_)
    | (refine wpList_store_row rfl 30 (.tmp 5) (.tmp 22) rfl _ _ rfl rfl 30 (UARR .u8 32 fun _ => 0) hb5 (info_HASH _) (by rw [UARR_size, UARR_size]) (UARR_one _ _ _) ?_; rw [hWd])
    | (refine wpList_load_row rfl 30 (.tmp 3) rfl w1.heap.size rfl 30 (UARR .u8 32 (HB 1)) (0, 0) _ hd3 Tryd.underlying30 rfl (info_HASH _) ?_))
  clear hb4 hb5 ha3 ha4 hWa hWd k1 k2 k3 hsu0
  have hg3 : Has Wd w1.heap.size (UARR .u8 32 (HB 1)) 30 := hd3
  clear hd3 hg3 hsz
  generalize w1.heap.size + 1 + 1 = b5 at *
  generalize w1.heap.size + 1 = b4 at *
  generalize w1.heap.size = b3 at *
  have GB : Aside (1 < w.heap.size ∧ 0 < w.heap.size) := ⟨HT.out.2.2.2, by have := HT.out.2.2.2; omega⟩
  have tab : Aside (∀ W, Below w.heap.size w W → Go.Proofs.YtcmjcchemlhejaaDoor.Tabled W ∧ Tabled W) := fun W hb => ⟨HT.out.1.below GB.out.2 hb, HT.out.2.below hb⟩
  have nx : Aside (∀ (W : World) (n : Nat) (C : CHUNKS) (f : Nat → Nat → Nat) (u : Nat → Nat), AW w W w.heap.size g 2 n C f 32 b3 b4 b5 (HB 1) (HB 2) (HB 3) → n < 5 → (∀ i, u i < 256) → Calls Tryd.prog 22 #[.pointer (some ⟨g, 0, none⟩), .agg (UARR .u8 32 u)] W fun e w' => e = .returned (.int .u64 (n : Int)) ∧ ∃ C', AW w w' w.heap.size g 2 (n + 1) C' (LEAFS f n u) 32 b3 b4 b5 (HB 1) (HB 2) (HB 3)) := fun W n C f u hA hn hu => by
    refine (append_ok hA.tree u hu (by omega) (tab.out W hA.below).2 GB.out.1 hA.below.size).mono ?_
    rintro e w' ⟨rfl, hP⟩
    exact ⟨rfl, hA.next hP⟩
  refine (nx.out Wd 0 _ _ (HB 1) A2.out (by decide) (HB_lt 1 (by decide))).mono ?_
  rintro e w5 ⟨rfl, C5, hA5⟩
  have A5 : Aside (AW w w5 w.heap.size g 2 (0 + 1) C5 (LEAFS (fun _ _ => 0) 0 (HB 1)) 32 b3 b4 b5 (HB 1) (HB 2) (HB 3)) := hA5
  clear hA5 A2
  go_wp2_with (first | (refine wpList_load_row_if (by rfl) 30 (.tmp 4) rfl 32 _ b4 rfl 30 (UARR .u8 32 (HB 2)) (0, 0) A5.out.h4 Tryd.underlying30 (info_HASH _) ?_))
  refine (nx.out w5 (0 + 1) _ _ (HB 2) A5.out (by decide) (HB_lt 2 (by decide))).mono ?_
  rintro e w6 ⟨rfl, C6, hA6⟩
  have A6 : Aside (AW w w6 w.heap.size g 2 (0 + 1 + 1) C6 (LEAFS (LEAFS (fun _ _ => 0) 0 (HB 1)) (0 + 1) (HB 2)) 32 b3 b4 b5 (HB 1) (HB 2) (HB 3)) := hA6
  clear hA6 A5
  go_wp2_with (first | (refine wpList_load_row_if (by rfl) 30 (.tmp 5) rfl 32 _ b5 rfl 30 (UARR .u8 32 (HB 3)) (0, 0) A6.out.h5 Tryd.underlying30 (info_HASH _) ?_))
  refine (nx.out w6 (0 + 1 + 1) _ _ (HB 3) A6.out (by decide) (HB_lt 3 (by decide))).mono ?_
  rintro e w7 ⟨rfl, C7, hA7⟩
  obtain ⟨f, hf⟩ : ∃ f, LEAFS (LEAFS (LEAFS (fun _ _ => 0) 0 (HB 1)) (0 + 1) (HB 2)) (0 + 1 + 1) (HB 3) = f := ⟨_, rfl⟩
  rw [hf] at hA7
  have F : Aside (f 0 = HB 1 ∧ f 1 = HB 2 ∧ f 2 = HB 3) := by rw [← hf]; exact ⟨rfl, rfl, rfl⟩
  have A7 : Aside (AW w w7 w.heap.size g 2 3 C7 f 32 b3 b4 b5 (HB 1) (HB 2) (HB 3)) := hA7
  clear hA7 A6 nx hf
  have cp := peaks_of A7.out.tree (tab.out w7 A7.out.below).1
  rw [pkv3, pc3] at cp
  have hsec := A7.out.tree.second
  have hroot := rootof3 32 f
  have hnode := fun (W : World) (hX : Tabled W) => node_ok 32 (HB 1) (HB 2) (HB_lt 1 (by decide)) (HB_lt 2 (by decide)) W hX
  have eN : NODEF 32 (f 0) (f 1) = HASHOF 32 (1 :: ((List.range 32).map (HB 1) ++ (List.range 32).map (HB 2))) := by rw [F.out.1, F.out.2.1]; rfl
  rw [← eN] at hnode
  rw [F.out.2.2] at cp hroot
  have hP8 : ∀ i, NODEF 32 (f 0) (f 1) i < 256 := NODEF_lt 32 _ _
  clear eN F
  generalize NODEF 32 (f 0) (f 1) = P at *
  go_wp2_with fail
  refine cp.mono ?_
  rintro e w8 ⟨v, rfl, hown, hb8⟩
  clear cp
  obtain ⟨gl, cl, rfl, hgl, hl0, hl1⟩ := own_two hown
  have hsz7 := A7.out.below.size
  have A8 : Aside (AW w w8 w.heap.size g 2 3 C7 f 32 b3 b4 b5 (HB 1) (HB 2) (HB 3) ∧ gl < w8.heap.size ∧ w8.rangeAt gl 0 (ULIST .u8 32 P) ∧ w8.rangeAt gl 32 (ULIST .u8 32 (HB 3)) ∧ ROOTOF 32 f 3 = ROOTF 32 3 (FOLDF 32 P (HB 3)) ∧ (∀ i, P i < 256)) := ⟨A7.out.keep hsz7 hb8, hgl, hl0, hl1, hroot, hP8⟩
  have cg := treenode_ok A8.out.1.tree.store 2 (by decide)
  rw [hsec.1, hsec.2] at cg
  clear hown hb8 hgl hl0 hl1 hsz7 hsec hroot A7 hP8
  go_wp2_with fail
  refine cg.mono ?_
  rintro e w9 ⟨rfl, hb9⟩
  clear cg
  have hsz8 := A8.out.1.below.size
  have hst := run_storeCells_new (P := Tryd.prog) w9 30 (UARR .u8 32 fun _ => 0) (UARR .u8 32 P) (info_HASH _) (by rw [UARR_size, UARR_size]) (UARR_one _ _ _)
  have hsu := UARR_size .u8 32 P
  obtain ⟨wA, hwA⟩ : ∃ wA, w9.alloc (.cells (UARR .u8 32 P) 30) = wA := ⟨_, rfl⟩
  have hbA : Below w8.heap.size w8 wA := by rw [← hwA]; exact hb9.alloc hb9.size _
  have h7A : Has wA w9.heap.size (UARR .u8 32 P) 30 := by rw [← hwA]; exact Has.new _ _ _
  have A9 : Aside (AW w wA w.heap.size g 2 3 C7 f 32 b3 b4 b5 (HB 1) (HB 2) (HB 3) ∧ gl < wA.heap.size ∧ wA.rangeAt gl 0 (ULIST .u8 32 P) ∧ wA.rangeAt gl 32 (ULIST .u8 32 (HB 3)) ∧ Has wA w9.heap.size (UARR .u8 32 P) 30) := ⟨A8.out.1.keep hsz8 hbA, Nat.lt_of_lt_of_le A8.out.2.1 hbA.size, range_below A8.out.2.2.1 hbA A8.out.2.1, range_below A8.out.2.2.2.1 hbA A8.out.2.1, h7A⟩
  clear hb9 hbA h7A hsz8
  have h3A := A9.out.1.h3
  have h4A := A9.out.1.h4
  go_wp2_with (first
    | (refine wpList_load_row rfl 30 (.tmp 3) rfl b3 rfl 30 (UARR .u8 32 (HB 1)) (0, 0) _ h3A Tryd.underlying30 rfl (info_HASH _) ?_)
    | (refine wpList_load_row rfl 30 (.tmp 4) rfl b4 rfl 30 (UARR .u8 32 (HB 2)) (0, 0) _ h4A Tryd.underlying30 rfl (info_HASH _) ?_))
  refine (hnode _ (tab.out _ A9.out.1.below).2).mono ?_
  rintro e wB ⟨rfl, hbB⟩
  clear hnode hst hwA h3A h4A
  generalize w9.heap.size = b7 at *
  have hszA := A9.out.1.below.size
  have hst := run_storeCells_new (P := Tryd.prog) wB 30 (UARR .u8 32 fun _ => 0) (UARR .u8 32 P) (info_HASH _) (by rw [UARR_size, UARR_size]) (UARR_one _ _ _)
  obtain ⟨wC, hwC⟩ : ∃ wC, wB.alloc (.cells (UARR .u8 32 P) 30) = wC := ⟨_, rfl⟩
  have hbC : Below wA.heap.size wA wC := by rw [← hwC]; exact hbB.alloc hbB.size _
  have h9C : Has wC wB.heap.size (UARR .u8 32 P) 30 := by rw [← hwC]; exact Has.new _ _ _
  have AC : Aside (AW w wC w.heap.size g 2 3 C7 f 32 b3 b4 b5 (HB 1) (HB 2) (HB 3) ∧ gl < wC.heap.size ∧ wC.rangeAt gl 0 (ULIST .u8 32 P) ∧ wC.rangeAt gl 32 (ULIST .u8 32 (HB 3)) ∧ Has wC b7 (UARR .u8 32 P) 30 ∧ Has wC wB.heap.size (UARR .u8 32 P) 30) := ⟨A9.out.1.keep hszA hbC, Nat.lt_of_lt_of_le A9.out.2.1 hbC.size, range_below A9.out.2.2.1 hbC A9.out.2.1, range_below A9.out.2.2.2.1 hbC A9.out.2.1, A9.out.2.2.2.2.keep hbC, h9C⟩
  clear hbB hbC h9C hszA A9
  go_upto_region 10 with fail
  clear hst hwC
  generalize wB.heap.size = b9 at *
  have hszC := AC.out.1.below.size
  have st : Aside (∀ W, Below wC.heap.size wC W → AW w W w.heap.size g 2 3 C7 f 32 b3 b4 b5 (HB 1) (HB 2) (HB 3)) := fun W hb => AC.out.1.keep hszC hb
  refine awake10 wC g gl cl b5 b7 b9 P (HB 3) (ROOTOF 32 f 3) (FOLDF 32 P (HB 3)) (fun W => Below wC.heap.size wC W) (Below.refl _ _).drew (fun W hb => ?_) (equal_same _) (equal_same _) (equal_same _) (fun W hb => ?_) (fun W hb => ?_) (fun W hb => ?_) (fun W hb => ?_) (fun _ _ _ _ _ h => h) ?_
  · exact ⟨range_below AC.out.2.2.1 hb AC.out.2.1, range_below AC.out.2.2.2.1 hb AC.out.2.1, (AC.out.2.2.2.2.2.keep hb).whole, (st.out W hb).h5.whole, (AC.out.2.2.2.2.1.keep hb).whole⟩
  · refine (size_of (st.out W hb).tree).mono ?_
    rintro e W' ⟨rfl, rfl⟩
    exact ⟨rfl, hb⟩
  · refine (root_of (st.out W hb).tree (tab.out W (st.out W hb).below).1 (tab.out W (st.out W hb).below).2).mono ?_
    rintro e W' ⟨rfl, hb'⟩
    exact ⟨rfl, hb.trans (hb'.mono hb.size)⟩
  · refine (fold_ok 32 P (HB 3) A8.out.2.2.2.2.2 (HB_lt 3 (by decide)) W (tab.out W (st.out W hb).below).2).mono ?_
    rintro e W' ⟨rfl, hb'⟩
    exact ⟨rfl, hb.trans (hb'.mono hb.size)⟩
  · refine (root_ok 32 3 (by decide) (FOLDF 32 P (HB 3)) (FOLDF_lt 32 _ _) W (tab.out W (st.out W hb).below).2).mono ?_
    rintro e W' ⟨rfl, hb'⟩
    exact ⟨by rw [A8.out.2.2.2.2.1]; rfl, hb.trans (hb'.mono hb.size)⟩
  · intro W hb
    have hfin := (st.out W hb).below
    clear hb st AC A8 tab GB HT A1
    go_wp2_with fail
    go_ret
    exact ⟨rfl, hfin⟩
end Go.Proofs.YtcmjcchemlhejaaDoor.HX

/- A tree and a list of its earlier roots. -/
namespace Go.Proofs.YtcmjcchemlhejaaDoor.HX
open Go.RowKit
set_option maxRecDepth 100000

theorem PKV_congr {d : Int} {f g : Nat → Nat → Nat} {n m : Nat} (hfg : ∀ k, k < n → f k = g k) (hm : m ≤ n) : PKV d f m = PKV d g m := by
  unfold PKV
  refine List.map_congr_left fun h hh => ?_
  have hb := (HS_set_of 0 h (by decide) hh).2.2
  exact VAL_congr hfg h _ (Nat.le_trans (peak_span hb) hm)
theorem ROOTOF_congr {d : Int} {f g : Nat → Nat → Nat} {n m : Nat} (hfg : ∀ k, k < n → f k = g k) (hm : m ≤ n) : ROOTOF d f m = ROOTOF d g m := by
  unfold ROOTOF
  rw [PKV_congr hfg hm]
theorem FOREST.congr {w : World} {B g : Nat} {d : Int} {log n : Nat} {C : CHUNKS} {f f' : Nat → Nat → Nat} (h : FOREST w B g d log n C f) (he : ∀ k, k < n → f k = f' k) : FOREST w B g d log n C f' :=
  ⟨h.store, h.width, h.size, h.free, fun h1 k hk => by rw [h.node h1 k hk, VAL_congr he h1 k hk], fun k hk i => by rw [← he k hk]; exact h.byte k hk i, h.few, h.base⟩
/-- one block that is none of the tree's has been written, and there may be new ones. -/
theorem FOREST.aside {w w' : World} {B g : Nat} {d : Int} {log n b : Nat} {C : CHUNKS} {f : Nat → Nat → Nat} (h : FOREST w B g d log n C f) (hblk : ∀ x, x < w.heap.size → x ≠ b → w'.heap[x]? = w.heap[x]?) (hb : ¬ FOOT w g C b) (hbg : g ≠ b) : FOREST w' B g d log n C f ∧ ∀ x, FOOT w' g C x → FOOT w g C x := by
  obtain ⟨s1, s2, s3⟩ := h.store.same hblk hb hbg
  exact ⟨⟨s1, (s3 5).trans h.width, (s3 6).trans h.size, s1.live 6 (by decide), h.node, h.byte, h.few, h.base⟩, s2⟩
/-- the first k roots. -/
def RTS (d : Int) (hs : Nat → Nat → Nat) (k : Nat) : List (Nat → Nat) := (List.range k).map (ROOTOF d hs)
theorem RTS_snoc (d : Int) (hs : Nat → Nat → Nat) (k : Nat) : RTS d hs (k + 1) = RTS d hs k ++ [ROOTOF d hs k] := by simp [RTS, List.range_succ]
theorem RTS_length (d : Int) (hs : Nat → Nat → Nat) (k : Nat) : (RTS d hs k).length = k := by simp [RTS]
theorem RTS_get (d : Int) (hs : Nat → Nat → Nat) {k i : Nat} (h : i < k) : (RTS d hs k).getD i (fun _ => 0) = ROOTOF d hs i := by
  rw [List.getD_eq_getElem?_getD, RTS, List.getElem?_map, List.getElem?_range h]
  rfl
/-- a tree of i leaves, a list of its first k roots. -/
structure ROOTS (w wx : World) (B g : Nat) (d : Int) (i k : Nat) (C : CHUNKS) (hs : Nat → Nat → Nat) (v : Value) : Prop where
  tree : FOREST wx B g d 0 i C hs
  own : wx.ownsRow B 30 32 v k (HL (RTS d hs k))
  off : ∀ b, v.ownBlock = some b → ¬ FOOT wx g C b ∧ b ≠ g
  below : Below B w wx
theorem ROOTS.keep {w wx w' : World} {B g : Nat} {d : Int} {i k : Nat} {C : CHUNKS} {hs : Nat → Nat → Nat} {v : Value} (h : ROOTS w wx B g d i k C hs v) (hB : B ≤ wx.heap.size) (hb : Below wx.heap.size wx w') : ROOTS w w' B g d i k C hs v :=
  ⟨h.tree.below hb, own_keep h.own hb, fun b e => ⟨fun hf => (h.off b e).1 (h.tree.store.foot_below hb hf), (h.off b e).2⟩, h.below.trans (hb.mono hB)⟩
theorem ROOTS.appended {w wx w' : World} {B g : Nat} {d : Int} {i k : Nat} {C : CHUNKS} {hs : Nat → Nat → Nat} {v : Value} (h : ROOTS w wx B g d i k C hs v) (hA : APPENDED wx B g d 0 i C hs (hs i) w') : ∃ C', ROOTS w w' B g d (i + 1) k C' hs v := by
  obtain ⟨C', a1, a2, a3⟩ := hA
  refine ⟨C', a1.congr fun k hk => ?_, ?_, fun b e => ⟨fun hf => ?_, (h.off b e).2⟩, h.below.trans a3⟩
  · unfold LEAFS
    split
    · rename_i e; rw [e]
    · rfl
  · refine ⟨h.own.1, h.own.2.imp id ?_⟩
    rintro ⟨g', c, cur, rfl, b, r, rest⟩
    exact ⟨g', c, cur, rfl, b, (a2.same g' (Array.getElem?_eq_some_iff.1 r).1 (h.off g' rfl).2 (h.off g' rfl).1).trans r, rest⟩
  · rcases a2.foot b hf with h1 | h1
    · exact (h.off b e).1 h1
    · have := (h.own.lt b e).2
      omega
theorem ROOTS.push {w wx w' : World} {B g : Nat} {d : Int} {i k g6 c6 : Nat} {C : CHUNKS} {hs : Nat → Nat → Nat} {v : Value} (h : ROOTS w wx B g d i k C hs v) (hB : B ≤ wx.heap.size) (hk : 0 < k) (hown : w'.ownsRow B 30 32 (.slice (some ⟨g6, 0, none⟩) (k + 1) c6) (k + 1) (HL (RTS d hs k) ++ ULIST .u8 32 (ROOTOF d hs k))) (hgrow : wx.grownBy w' v.ownBlock) (hat : v.ownBlock = some g6 ∨ g6 = wx.heap.size) :
    ROOTS w w' B g d i (k + 1) C hs (.slice (some ⟨g6, 0, none⟩) (k + 1) c6) := by
  obtain ⟨b, hb⟩ : ∃ b, v.ownBlock = some b := by
    rcases h.own.2 with ⟨_, h0⟩ | ⟨g', c, cur, rfl, _⟩
    · omega
    · exact ⟨g', rfl⟩
  rw [hb] at hgrow hat
  obtain ⟨f1, f2⟩ := h.tree.aside (fun x hx hne => hgrow.block x hx (fun e => hne (Option.some.inj e))) (h.off b hb).1 (fun e => (h.off b hb).2 e.symm)
  have hgl := h.tree.store.lt
  refine ⟨f1, by rw [RTS_snoc, HL_snoc']; exact hown, fun x e => ?_, h.below.grown hgrow hB (fun x e => by cases e; exact (h.own.lt b hb).1)⟩
  have hx : g6 = x := by simpa [Value.ownBlock] using e
  subst hx
  rcases hat with e2 | e2
  · have e3 : b = g6 := Option.some.inj e2
    subst e3
    exact ⟨fun hf => (h.off b hb).1 (f2 b hf), (h.off b hb).2⟩
  · refine ⟨fun hf => ?_, by omega⟩
    have := h.tree.store.foot_lt (f2 g6 hf)
    omega
/-- where the k-th root lies. -/
theorem ROOTS.at {w wx : World} {B g : Nat} {d : Int} {i k j gl cl : Nat} {C : CHUNKS} {hs : Nat → Nat → Nat} (h : ROOTS w wx B g d i k C hs (.slice (some ⟨gl, 0, none⟩) k cl)) (hj : j < k) : wx.rangeAt gl (j * 32) (ULIST .u8 32 (ROOTOF d hs j)) ∧ gl < wx.heap.size := by
  obtain ⟨a, c, e, hH⟩ := own_hashes h.own (RTS_length d hs k)
  cases e
  obtain ⟨b, o, e, hl, hr⟩ := hH (by omega)
  cases e
  have h1 := hr j hj
  dsimp only at h1
  rw [RTS_get d hs hj, Nat.zero_add] at h1
  exact ⟨h1, hl⟩
end Go.Proofs.YtcmjcchemlhejaaDoor.HX

/- A tree and a list of its leaves' hashes beside it. -/
namespace Go.Proofs.YtcmjcchemlhejaaDoor.HX
open Go.RowKit
set_option maxRecDepth 100000

def FSTS (hs : Nat → Nat → Nat) (k : Nat) : List (Nat → Nat) := (List.range k).map hs
theorem FSTS_snoc (hs : Nat → Nat → Nat) (k : Nat) : FSTS hs (k + 1) = FSTS hs k ++ [hs k] := by simp [FSTS, List.range_succ]
theorem FSTS_length (hs : Nat → Nat → Nat) (k : Nat) : (FSTS hs k).length = k := by simp [FSTS]
theorem FSTS_get (hs : Nat → Nat → Nat) {k i : Nat} (h : i < k) : (FSTS hs k).getD i (fun _ => 0) = hs i := by
  rw [List.getD_eq_getElem?_getD, FSTS, List.getElem?_map, List.getElem?_range h]
  rfl
/-- a tree of i leaves, a list of the first k hashes. -/
structure LISTED (w wx : World) (B g : Nat) (d : Int) (log i k : Nat) (C : CHUNKS) (hs : Nat → Nat → Nat) (v : Value) : Prop where
  tree : FOREST wx B g d log i C hs
  own : wx.ownsRow B 30 32 v k (HL (FSTS hs k))
  off : ∀ b, v.ownBlock = some b → ¬ FOOT wx g C b ∧ b ≠ g
  below : Below B w wx
theorem LISTED.keep {w wx w' : World} {B g : Nat} {d : Int} {log i k : Nat} {C : CHUNKS} {hs : Nat → Nat → Nat} {v : Value} (h : LISTED w wx B g d log i k C hs v) (hB : B ≤ wx.heap.size) (hb : Below wx.heap.size wx w') : LISTED w w' B g d log i k C hs v :=
  ⟨h.tree.below hb, own_keep h.own hb, fun b e => ⟨fun hf => (h.off b e).1 (h.tree.store.foot_below hb hf), (h.off b e).2⟩, h.below.trans (hb.mono hB)⟩
theorem LISTED.appended {w wx w' : World} {B g : Nat} {d : Int} {log i k : Nat} {C : CHUNKS} {hs : Nat → Nat → Nat} {v : Value} (h : LISTED w wx B g d log i k C hs v) (hA : APPENDED wx B g d log i C hs (hs i) w') : ∃ C', LISTED w w' B g d log (i + 1) k C' hs v := by
  obtain ⟨C', a1, a2, a3⟩ := hA
  refine ⟨C', a1.congr fun k hk => ?_, ?_, fun b e => ⟨fun hf => ?_, (h.off b e).2⟩, h.below.trans a3⟩
  · unfold LEAFS
    split
    · rename_i e; rw [e]
    · rfl
  · refine ⟨h.own.1, h.own.2.imp id ?_⟩
    rintro ⟨g', c, cur, rfl, b, r, rest⟩
    exact ⟨g', c, cur, rfl, b, (a2.same g' (Array.getElem?_eq_some_iff.1 r).1 (h.off g' rfl).2 (h.off g' rfl).1).trans r, rest⟩
  · rcases a2.foot b hf with h1 | h1
    · exact (h.off b e).1 h1
    · have := (h.own.lt b e).2
      omega
theorem LISTED.push {w wx w' : World} {B g : Nat} {d : Int} {log i k g6 c6 : Nat} {C : CHUNKS} {hs : Nat → Nat → Nat} {v : Value} (h : LISTED w wx B g d log i k C hs v) (hB : B ≤ wx.heap.size) (hown : w'.ownsRow B 30 32 (.slice (some ⟨g6, 0, none⟩) (k + 1) c6) (k + 1) (HL (FSTS hs k) ++ ULIST .u8 32 (hs k))) (hgrow : wx.grownBy w' v.ownBlock) (hat : v.ownBlock = some g6 ∨ g6 = wx.heap.size) :
    LISTED w w' B g d log i (k + 1) C hs (.slice (some ⟨g6, 0, none⟩) (k + 1) c6) := by
  have hgl := h.tree.store.lt
  have key : FOREST w' B g d log i C hs ∧ ∀ x, FOOT w' g C x → FOOT wx g C x := by
    cases hb : v.ownBlock with
    | none =>
      rw [hb] at hgrow
      exact h.tree.aside (b := wx.heap.size) (fun x hx _ => hgrow.block x hx (fun e => by cases e)) (fun hf => Nat.lt_irrefl _ (h.tree.store.foot_lt hf)) (by omega)
    | some b =>
      rw [hb] at hgrow
      exact h.tree.aside (fun x hx hne => hgrow.block x hx (fun e => hne (Option.some.inj e))) (h.off b hb).1 (fun e => (h.off b hb).2 e.symm)
  refine ⟨key.1, by rw [FSTS_snoc, HL_snoc']; exact hown, fun x e => ?_, h.below.grown hgrow hB (fun x e => (h.own.lt x e).1)⟩
  have hx : g6 = x := by simpa [Value.ownBlock] using e
  subst hx
  rcases hat with e2 | e2
  · exact ⟨fun hf => (h.off g6 e2).1 (key.2 g6 hf), (h.off g6 e2).2⟩
  · refine ⟨fun hf => ?_, by omega⟩
    have := h.tree.store.foot_lt (key.2 g6 hf)
    omega
/-- the list, as a slice of hashes. -/
theorem LISTED.hashes {w wx : World} {B g : Nat} {d : Int} {log i k : Nat} {C : CHUNKS} {hs : Nat → Nat → Nat} {v : Value} (h : LISTED w wx B g d log i k C hs v) : ∃ a c, v = .slice a k c ∧ HASHES wx a k hs := by
  obtain ⟨a, c, e, hH⟩ := own_hashes h.own (FSTS_length hs k)
  refine ⟨a, c, e, fun hk => ?_⟩
  obtain ⟨b, o, e2, hl, hr⟩ := hH hk
  refine ⟨b, o, e2, hl, fun j hj => ?_⟩
  have h1 := hr j hj
  dsimp only at h1
  rwa [FSTS_get hs hj] at h1
end Go.Proofs.YtcmjcchemlhejaaDoor.HX

/- Add of package mmr. -/
namespace Go.Proofs.YtcmjcchemlhejaaDoor.HX
open Go.RowKit
set_option maxRecDepth 100000

/-- the hash of a leaf's data. -/
def LEAFF (d : Int) (l : List Nat) : Nat → Nat := HASHOF d (0 :: l)
theorem LEAFF_lt (d : Int) (l : List Nat) (i : Nat) : LEAFF d l i < 256 := STATE_lt d _ _ i
theorem APPENDED.after {w w1 w' : World} {B g : Nat} {d : Int} {log n : Nat} {C : CHUNKS} {f : Nat → Nat → Nat} {x : Nat → Nat} (hF : FOREST w B g d log n C f) (hB : B ≤ w.heap.size) (hb : Below w.heap.size w w1) (h : APPENDED w1 B g d log n C f x w') : APPENDED w B g d log n C f x w' := by
  obtain ⟨C', a1, a2, a3⟩ := h
  exact ⟨C', a1, (STEP.below hF.store hb).tree.trans a2, (hb.mono hB).trans a3⟩
set_option maxHeartbeats 2000000 in
theorem add_ok {w : World} {B g : Nat} {d : Int} {log n : Nat} {C : CHUNKS} {f : Nat → Nat → Nat} (hF : FOREST w B g d log n C f) (a : Option Addr) (m c : Nat) (l : List Nat) (hA : Text w a m l) (hc : a = none → c = 0) (hm : m < 4000) (hmc : m ≤ c) (hx : ∀ x, a = some x → x.block < w.heap.size) (hn : n < 2 ^ 20) (hT : Tabled w) (hGB : 1 < B) (hB : B ≤ w.heap.size) :
    Calls Tryd.prog 28 #[.pointer (some ⟨g, 0, none⟩), .slice a m c] w fun e w' => e = .returned (.int .u64 (n : Int)) ∧ APPENDED w B g d log n C f (LEAFF d l) w' := by
  have c5 := hF.width
  have cl := leaf_ok d a m c l w hA hc hm hmc hx hT
  have H : Aside (FOREST w B g d log n C f ∧ n < 2 ^ 20 ∧ Tabled w ∧ 1 < B ∧ B ≤ w.heap.size) := ⟨hF, hn, hT, hGB, hB⟩
  clear hF hA hc hm hmc hx hn hT hGB hB
  go_enter Tryd.func28, Tryd.ntmps28
  go_wp2_with fail
  refine cl.mono ?_
  rintro e w1 ⟨rfl, hb1⟩
  clear cl
  have ca := append_ok (H.out.1.below hb1) (LEAFF d l) (LEAFF_lt d l) H.out.2.1 (H.out.2.2.1.below hb1) H.out.2.2.2.1 (Nat.le_trans H.out.2.2.2.2 hb1.size)
  have R : Aside (∀ w', APPENDED w1 B g d log n C f (LEAFF d l) w' → APPENDED w B g d log n C f (LEAFF d l) w') := fun w' h => h.after H.out.1 H.out.2.2.2.2 hb1
  clear hb1
  go_wp2_with fail
  refine ca.mono ?_
  rintro e w2 ⟨rfl, hP⟩
  have hfin := R.out _ hP
  clear hP ca R
  go_wp2_with fail
  go_ret
  exact ⟨rfl, hfin⟩
end Go.Proofs.YtcmjcchemlhejaaDoor.HX
