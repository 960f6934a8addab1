/- The law HashMarks returns true. -/
import Derived.Test.YtgmoebopnmaebabDoorHashRootText
import Derived.Test.YtgmoebopnmaebabDoorHashSame
import Derived.Test.YtgmoebopnmaebabDoorHashWidthsWalk
import Derived.Test.YtgmoebopnmaebabDoorHashMarksPlain
import Derived.Deep.RegionHeld3
namespace Go.Proofs.YtgmoebopnmaebabDoor
open Go.RowKit
set_option maxRecDepth 100000

/-- four blocks that are there. -/
def FOURIN (g0 g1 g2 g3 : Nat) (W : World) : Prop := g0 < W.heap.size ∧ g1 < W.heap.size ∧ g2 < W.heap.size ∧ g3 < W.heap.size
theorem FOURIN.mono {g0 g1 g2 g3 : Nat} {W W' : World} (h : FOURIN g0 g1 g2 g3 W) (hs : W.heap.size ≤ W'.heap.size) : FOURIN g0 g1 g2 g3 W' :=
  ⟨Nat.lt_of_lt_of_le h.1 hs, Nat.lt_of_lt_of_le h.2.1 hs, Nat.lt_of_lt_of_le h.2.2.1 hs, Nat.lt_of_lt_of_le h.2.2.2 hs⟩
theorem four_below {g0 g1 g2 g3 : Nat} {x0 x1 x2 x3 : List Value} {W W' V : World} (h : W.rangeAt g0 0 x0 ∧ W.rangeAt g1 0 x1 ∧ W.rangeAt g2 0 x2 ∧ W.rangeAt g3 0 x3) (hb : Below V.heap.size W W') (hg : FOURIN g0 g1 g2 g3 V) : W'.rangeAt g0 0 x0 ∧ W'.rangeAt g1 0 x1 ∧ W'.rangeAt g2 0 x2 ∧ W'.rangeAt g3 0 x3 :=
  ⟨range_below h.1 hb hg.1, range_below h.2.1 hb hg.2.1, range_below h.2.2.1 hb hg.2.2.1, range_below h.2.2.2 hb hg.2.2.2⟩
theorem same_is {P : Program} {f : Nat} {args : Array Value} {W : World} {v x : Bool} (hv : v = x) (h : Calls P f args W fun e w' => e = .returned (.bool v) ∧ Below W.heap.size W w' ∧ w'.heap.size = W.heap.size) : Calls P f args W fun e w' => e = .returned (.bool x) ∧ Below W.heap.size W w' := by
  subst hv
  exact h.mono fun e w' h => ⟨h.1, h.2.1⟩
theorem small_cons {x : Nat} {l : List Nat} (hx : x < 256) (h : Small8 l) : Small8 (x :: l) := fun y hy => by
  rcases List.mem_cons.1 hy with rfl | hy
  · exact hx
  · exact h y hy
theorem small_append {l k : List Nat} (h1 : Small8 l) (h2 : Small8 k) : Small8 (l ++ k) := fun y hy => by
  rcases List.mem_append.1 hy with hy | hy
  · exact h1 y hy
  · exact h2 y hy
theorem small_map {f : Nat → Nat} (h : ∀ i, f i < 256) : Small8 ((List.range 32).map f) := fun y hy => by
  obtain ⟨i, _, rfl⟩ := List.mem_map.1 hy
  exact h i
set_option maxHeartbeats 2000000 in
theorem marks_walk (u v : Option Addr) (p q cp cq : Nat) (lp lq : List Nat) (a b c d : Nat → Nat) (n m : Nat) (ha : ∀ i, a i < 256) (hb : ∀ i, b i < 256) (hc : ∀ i, c i < 256) (hd : ∀ i, d i < 256) (hn : n < 2 ^ 64) (hm : m < 2 ^ 64) (w : World) (hT : Tabled w)
    (hP : Text w u p lp) (hQ : Text w v q lq) (hu : u = none → cp = 0) (hv : v = none → cq = 0) (hp : ¬ 3000 < (p : Int)) (hq : ¬ 3000 < (q : Int)) :
    Calls Tryd.prog 5 #[.slice u p cp, .slice v q cq, .agg (UARR .u8 32 a), .agg (UARR .u8 32 b), .agg (UARR .u8 32 c), .agg (UARR .u8 32 d), .int .u64 (n : Int), .int .u64 (m : Int)] w fun e w' => e = .returned (.bool true) ∧ Below w.heap.size w w' := by
  have H : Aside (Text w u p lp ∧ (u = none → cp = 0) ∧ (∀ i, a i < 256) ∧ (∀ i, b i < 256) ∧ n < 2 ^ 64 ∧ m < 2 ^ 64 ∧ (∀ i, c i < 256) ∧ (∀ i, d i < 256) ∧ Text w v q lq ∧ (v = none → cq = 0) ∧ Tabled w) := ⟨hP, hu, ha, hb, hn, hm, hc, hd, hQ, hv, hT⟩
  clear hP hu ha hb hn hm hc hd hQ hv hT
  go_enter Tryd.func5, Tryd.ntmps5
  go_wp2_with fail
  have U : Aside (Below w.heap.size w ((((w.alloc (.cells (UARR .u8 32 a) 24)).alloc (.cells (UARR .u8 32 b) 24)).alloc (.cells (UARR .u8 32 c) 24)).alloc (.cells (UARR .u8 32 d) 24)) ∧ Has ((((w.alloc (.cells (UARR .u8 32 a) 24)).alloc (.cells (UARR .u8 32 b) 24)).alloc (.cells (UARR .u8 32 c) 24)).alloc (.cells (UARR .u8 32 d) 24)) w.heap.size (UARR .u8 32 a) 24 ∧ Has ((((w.alloc (.cells (UARR .u8 32 a) 24)).alloc (.cells (UARR .u8 32 b) 24)).alloc (.cells (UARR .u8 32 c) 24)).alloc (.cells (UARR .u8 32 d) 24)) (w.heap.size + 1) (UARR .u8 32 b) 24 ∧ Has ((((w.alloc (.cells (UARR .u8 32 a) 24)).alloc (.cells (UARR .u8 32 b) 24)).alloc (.cells (UARR .u8 32 c) 24)).alloc (.cells (UARR .u8 32 d) 24)) (w.heap.size + 1 + 1) (UARR .u8 32 c) 24 ∧ Has ((((w.alloc (.cells (UARR .u8 32 a) 24)).alloc (.cells (UARR .u8 32 b) 24)).alloc (.cells (UARR .u8 32 c) 24)).alloc (.cells (UARR .u8 32 d) 24)) (w.heap.size + 1 + 1 + 1) (UARR .u8 32 d) 24) :=
    ⟨((((Below.refl _ _).alloc (Nat.le_refl _) _).alloc (by simp) _).alloc (by simp; omega) _).alloc (by simp; omega) _, (((Has.new w _ _).alloc _).alloc _).alloc _, ((Has.at _ _ _ (by simp)).alloc _).alloc _, (Has.at _ _ _ (by simp)).alloc _, Has.at _ _ _ (by simp)⟩
  generalize (((w.alloc (.cells (UARR .u8 32 a) 24)).alloc (.cells (UARR .u8 32 b) 24)).alloc (.cells (UARR .u8 32 c) 24)).alloc (.cells (UARR .u8 32 d) 24) = w0 at *
  generalize hg0 : w.heap.size = g0 at *
  generalize hg1 : g0 + 1 = g1 at *
  generalize hg2 : g1 + 1 = g2 at *
  generalize hg3 : g2 + 1 = g3 at *
  obtain ⟨u1, u2, u3, u4, u5⟩ := U.out
  have hS : w0.drew.rangeAt g0 0 (ULIST .u8 32 a) ∧ w0.drew.rangeAt g1 0 (ULIST .u8 32 b) ∧ w0.drew.rangeAt g2 0 (ULIST .u8 32 c) ∧ w0.drew.rangeAt g3 0 (ULIST .u8 32 d) := ⟨u2.whole, u3.whole, u4.whole, u5.whole⟩
  have G : Aside (FOURIN g0 g1 g2 g3 w0) := ⟨u2.lt, u3.lt, u4.lt, u5.lt⟩
  have HB0 : Aside (Below w.heap.size w w0) := by rw [hg0]; exact u1
  clear u1 u2 u3 u4 u5 U
  have hi : ∀ f : Nat → Nat, (Tryd.prog.info? 24).map (·.size) = some (ULIST .u8 32 f).length := fun f => by rw [ULIST_length]; exact info_hash
  have k1 := row_ok u p cp lp w0.drew (H.out.1.below HB0.out.drew) H.out.2.1 (by omega)
  have c5 : ∀ W : World, Calls Tryd.prog 15 #[.agg (ULIST .u8 32 a).toArray, .agg (ULIST .u8 32 b).toArray] W _ := fun W => nodetext_ok a b H.out.2.2.1 H.out.2.2.2.1 W
  have c8 : ∀ W : World, Calls Tryd.prog 16 #[.agg (ULIST .u8 32 a).toArray, .agg (ULIST .u8 32 b).toArray] W _ := fun W => foldtext_ok a b H.out.2.2.1 H.out.2.2.2.1 W
  have c11 : ∀ W : World, Calls Tryd.prog 17 #[.int .u64 (n : Int), .agg (ULIST .u8 32 a).toArray] W _ := fun W => roottext_ok n H.out.2.2.2.2.1 a H.out.2.2.1 W
  refine wp_region_held_drew (S := fun W : World => W.rangeAt g0 0 (ULIST .u8 32 a) ∧ W.rangeAt g1 0 (ULIST .u8 32 b) ∧ W.rangeAt g2 0 (ULIST .u8 32 c) ∧ W.rangeAt g3 0 (ULIST .u8 32 d)) (by kernel_rfl) hS (fun hHeld => ?_)
  change wpAnyH _ _ _ _ _ 14 (Array.replicate 14 false) _ (World.drew _)
  refine wpAnyH_take (i := 0) (oi := { dst := some 28, op := Op.move (Operand.tmp 0), type := 22, pos := "outright.go:79", after := #[], guard := none }) (v := .slice u p cp) rfl (by kernel_rfl) (by kernel_rfl) (by kernel_rfl) (fun _ _ _ h => h) (Or.inl ⟨by rfl, fun w hSw => by go_simp⟩) (by assumption) ?_
  simp only [Act.put, List.setIfInBounds_toArray, List.set_cons_zero, List.set_cons_succ]
  refine wpAnyH_take (i := 3) (oi := { dst := some 31, op := Op.load 24 (Operand.tmp 10), type := 24, pos := "outright.go:79", after := #[], guard := none }) (v := .agg (ULIST .u8 32 a).toArray) rfl (by kernel_rfl) (by kernel_rfl) (by kernel_rfl) (fun _ _ _ h => h) (yieldsIf_load_mid (by rfl) _ _ rfl _ _ rfl (ULIST .u8 32 a) _ (fun w h => h.1) Tryd.underlying24 rfl (hi a)) (by assumption) ?_
  simp only [Act.put, List.setIfInBounds_toArray, List.set_cons_zero, List.set_cons_succ]
  refine wpAnyH_take (i := 4) (oi := { dst := some 32, op := Op.load 24 (Operand.tmp 11), type := 24, pos := "outright.go:79", after := #[], guard := none }) (v := .agg (ULIST .u8 32 b).toArray) rfl (by kernel_rfl) (by kernel_rfl) (by kernel_rfl) (fun _ _ _ h => h) (yieldsIf_load_mid (by rfl) _ _ rfl _ _ rfl (ULIST .u8 32 b) _ (fun w h => h.2.1) Tryd.underlying24 rfl (hi b)) (by assumption) ?_
  simp only [Act.put, List.setIfInBounds_toArray, List.set_cons_zero, List.set_cons_succ]
  refine wpAnyH_take (i := 6) (oi := { dst := some 34, op := Op.load 24 (Operand.tmp 10), type := 24, pos := "outright.go:79", after := #[], guard := none }) (v := .agg (ULIST .u8 32 a).toArray) rfl (by kernel_rfl) (by kernel_rfl) (by kernel_rfl) (fun _ _ _ h => h) (yieldsIf_load_mid (by rfl) _ _ rfl _ _ rfl (ULIST .u8 32 a) _ (fun w h => h.1) Tryd.underlying24 rfl (hi a)) (by assumption) ?_
  simp only [Act.put, List.setIfInBounds_toArray, List.set_cons_zero, List.set_cons_succ]
  refine wpAnyH_take (i := 7) (oi := { dst := some 35, op := Op.load 24 (Operand.tmp 11), type := 24, pos := "outright.go:79", after := #[], guard := none }) (v := .agg (ULIST .u8 32 b).toArray) rfl (by kernel_rfl) (by kernel_rfl) (by kernel_rfl) (fun _ _ _ h => h) (yieldsIf_load_mid (by rfl) _ _ rfl _ _ rfl (ULIST .u8 32 b) _ (fun w h => h.2.1) Tryd.underlying24 rfl (hi b)) (by assumption) ?_
  simp only [Act.put, List.setIfInBounds_toArray, List.set_cons_zero, List.set_cons_succ]
  refine wpAnyH_take (i := 9) (oi := { dst := some 37, op := Op.move (Operand.tmp 6), type := 37, pos := "outright.go:79", after := #[], guard := none }) (v := .int .u64 (n : Int)) rfl (by kernel_rfl) (by kernel_rfl) (by kernel_rfl) (fun _ _ _ h => h) (Or.inl ⟨by rfl, fun w hSw => by go_simp⟩) (by assumption) ?_
  simp only [Act.put, List.setIfInBounds_toArray, List.set_cons_zero, List.set_cons_succ]
  refine wpAnyH_take (i := 10) (oi := { dst := some 38, op := Op.load 24 (Operand.tmp 10), type := 24, pos := "outright.go:79", after := #[], guard := none }) (v := .agg (ULIST .u8 32 a).toArray) rfl (by kernel_rfl) (by kernel_rfl) (by kernel_rfl) (fun _ _ _ h => h) (yieldsIf_load_mid (by rfl) _ _ rfl _ _ rfl (ULIST .u8 32 a) _ (fun w h => h.1) Tryd.underlying24 rfl (hi a)) (by assumption) ?_
  simp only [Act.put, List.setIfInBounds_toArray, List.set_cons_zero, List.set_cons_succ]
  refine wpAnyH_ready (rs := [1]) (by kernel_rfl) (by simp) ?_
  refine AllReadyH.cons (o := { dst := some 29, op := Op.call { callee := Callee.value (Operand.func 7), args := #[Operand.tmp 28], argTypes := #[22] }, type := 22, pos := "outright.go:79", after := #[{ on := 0, ground := Ground.data }], guard := none }) rfl (fun K hK => ?_) AllReadyH.nil
  rw [if_pos (by rfl)]
  go_simp
  refine (k1).mono ?_
  rintro e w1 ⟨a1, c1, rfl, t1, l1, x1, b1⟩
  have q1 := four_below hS b1 G.out
  have V1 : Aside (Text w1 a1 p lp ∧ p ≤ c1 ∧ (∀ x, a1 = some x → w0.heap.size ≤ x.block ∧ x.block < w1.heap.size) ∧ (a1 = none → c1 = 0) ∧ Below w0.heap.size w0.drew w1) := ⟨t1.front, by omega, x1, fun e => (by have h := t1.2.1 (by omega); rw [e] at h; obtain ⟨_, _, h, _⟩ := h; cases h), b1⟩
  clear t1 l1 x1 b1
  refine hK.out _ _ (by assumption) (fun hHeld => ?_)
  clear hK K
  refine wpAnyH_ready (rs := [2]) (by kernel_rfl) (by simp) ?_
  refine AllReadyH.cons (o := { dst := some 30, op := Op.call { callee := Callee.value (Operand.func 14), args := #[Operand.tmp 29], argTypes := #[22] }, type := 22, pos := "outright.go:79", after := #[{ on := 1, ground := Ground.data }, { on := 1, ground := Ground.chain }], guard := none }) rfl (fun K hK => ?_) AllReadyH.nil
  rw [if_pos (by rfl)]
  go_simp
  refine (leaftext_ok a1 p c1 lp w1 V1.out.1 V1.out.2.2.2.1 (by omega) V1.out.2.1 (fun x e => (V1.out.2.2.1 x e).2)).mono ?_
  rintro e w2 ⟨a2, c2, rfl, o2, b2⟩
  have q2 := four_below q1 b2 (G.out.mono V1.out.2.2.2.2.size)
  have V2 : Aside (w2.ownsRow w1.heap.size 5 1 (.slice a2 (p + 1) c2) (p + 1) (CELLS (INTS (0 :: lp))) ∧ Below w1.heap.size w1 w2 ∧ FOURIN g0 g1 g2 g3 w2) := ⟨o2, b2, (G.out.mono V1.out.2.2.2.2.size).mono b2.size⟩
  clear o2 b2
  refine hK.out _ _ (by assumption) (fun hHeld => ?_)
  clear hK K
  refine wpAnyH_ready (rs := [5]) (by kernel_rfl) (by simp) ?_
  refine AllReadyH.cons (o := { dst := some 33, op := Op.call { callee := Callee.value (Operand.func 15), args := #[Operand.tmp 31, Operand.tmp 32], argTypes := #[24, 24] }, type := 22, pos := "outright.go:79", after := #[{ on := 3, ground := Ground.data }, { on := 4, ground := Ground.data }, { on := 2, ground := Ground.chain }], guard := none }) rfl (fun K hK => ?_) AllReadyH.nil
  rw [if_pos (by rfl)]
  go_simp
  refine (c5 w2).mono ?_
  rintro e w3 ⟨a3, c3, rfl, o3, b3⟩
  have q3 := four_below q2 b3 V2.out.2.2
  have V3 : Aside (w3.ownsRow w2.heap.size 5 1 (.slice a3 65 c3) 65 (CELLS (INTS (1 :: ((List.range 32).map a ++ (List.range 32).map b)))) ∧ Below w2.heap.size w2 w3 ∧ FOURIN g0 g1 g2 g3 w3) := ⟨o3, b3, V2.out.2.2.mono b3.size⟩
  clear o3 b3
  refine hK.out _ _ (by assumption) (fun hHeld => ?_)
  clear hK K
  refine wpAnyH_ready (rs := [8]) (by kernel_rfl) (by simp) ?_
  refine AllReadyH.cons (o := { dst := some 36, op := Op.call { callee := Callee.value (Operand.func 16), args := #[Operand.tmp 34, Operand.tmp 35], argTypes := #[24, 24] }, type := 22, pos := "outright.go:79", after := #[{ on := 6, ground := Ground.data }, { on := 7, ground := Ground.data }, { on := 5, ground := Ground.chain }], guard := none }) rfl (fun K hK => ?_) AllReadyH.nil
  rw [if_pos (by rfl)]
  go_simp
  refine (c8 w3).mono ?_
  rintro e w4 ⟨a4, c4, rfl, o4, b4⟩
  have q4 := four_below q3 b4 V3.out.2.2
  have V4 : Aside (w4.ownsRow w3.heap.size 5 1 (.slice a4 65 c4) 65 (CELLS (INTS (2 :: ((List.range 32).map a ++ (List.range 32).map b)))) ∧ Below w3.heap.size w3 w4 ∧ FOURIN g0 g1 g2 g3 w4) := ⟨o4, b4, V3.out.2.2.mono b4.size⟩
  clear o4 b4
  refine hK.out _ _ (by assumption) (fun hHeld => ?_)
  clear hK K
  refine wpAnyH_ready (rs := [11]) (by kernel_rfl) (by simp) ?_
  refine AllReadyH.cons (o := { dst := some 39, op := Op.call { callee := Callee.value (Operand.func 17), args := #[Operand.tmp 37, Operand.tmp 38], argTypes := #[37, 24] }, type := 22, pos := "outright.go:79", after := #[{ on := 9, ground := Ground.data }, { on := 10, ground := Ground.data }, { on := 8, ground := Ground.chain }], guard := none }) rfl (fun K hK => ?_) AllReadyH.nil
  rw [if_pos (by rfl)]
  go_simp
  refine (c11 w4).mono ?_
  rintro e w5 ⟨a5, c5', rfl, o5, b5⟩
  have q5 := four_below q4 b5 V4.out.2.2
  have V5 : Aside (w5.ownsRow w4.heap.size 5 1 (.slice a5 41 c5') 41 (CELLS (INTS (3 :: (BE8 n ++ (List.range 32).map a)))) ∧ Below w4.heap.size w4 w5 ∧ FOURIN g0 g1 g2 g3 w5) := ⟨o5, b5, V4.out.2.2.mono b5.size⟩
  clear o5 b5
  refine hK.out _ _ (by assumption) (fun hHeld => ?_)
  clear hK K
  refine wpAnyH_ready (rs := [12]) (by kernel_rfl) (by simp) ?_
  refine AllReadyH.cons (o := { dst := some 40, op := Op.buildSlice 32 4 #[(0, Operand.tmp 30), (1, Operand.tmp 33), (2, Operand.tmp 36), (3, Operand.tmp 39)], type := 32, pos := "outright.go:79", after := #[{ on := 2, ground := Ground.data }, { on := 5, ground := Ground.data }, { on := 8, ground := Ground.data }, { on := 11, ground := Ground.data }], guard := none }) rfl (fun K hK => ?_) AllReadyH.nil
  rw [if_pos (by rfl)]
  go_simp
  have q6 := four_below q5 ((Below.refl _ w5).alloc (Nat.le_refl _) (.cells #[.slice a2 (p + 1) c2, .slice a3 65 c3, .slice a4 65 c4, .slice a5 41 c5'] 22)) V5.out.2.2
  refine hK.out _ _ (by assumption) (fun hHeld => ?_)
  clear hK K
  refine wpAnyH_take (i := 13) (oi := { dst := some 17, op := Op.assign (Operand.tmp 40), type := 32, pos := "outright.go:79", after := #[{ on := 12, ground := Ground.data }, { on := 11, ground := Ground.chain }, { on := 0, ground := Ground.phase }, { on := 1, ground := Ground.phase }, { on := 2, ground := Ground.phase }, { on := 3, ground := Ground.phase }, { on := 4, ground := Ground.phase }, { on := 5, ground := Ground.phase }, { on := 6, ground := Ground.phase }, { on := 7, ground := Ground.phase }, { on := 8, ground := Ground.phase }, { on := 9, ground := Ground.phase }, { on := 10, ground := Ground.phase }, { on := 11, ground := Ground.phase }, { on := 12, ground := Ground.phase }], guard := none }) (v := .slice (some ⟨w5.heap.size, 0, none⟩) 4 4) rfl (by kernel_rfl) (by kernel_rfl) (by kernel_rfl) (fun _ _ _ h => h) (Or.inl ⟨by rfl, fun w hSw => by go_simp⟩) (by assumption) ?_
  simp only [Act.put, List.setIfInBounds_toArray, List.set_cons_zero, List.set_cons_succ]
  refine wpAnyH_done (by kernel_rfl) ?_ _
  have hT2 : Text w2 a2 (p + 1) (0 :: lp) := Text.of_bytes (own_bytes_any V2.out.1 (INTS_bounds (small_cons (by decide) H.out.1.2.2))).1
  have hT3 : Text w3 a3 65 (1 :: ((List.range 32).map a ++ (List.range 32).map b)) := Text.of_bytes (own_bytes_any V3.out.1 (INTS_bounds (small_cons (by decide) (small_append (small_map H.out.2.2.1) (small_map H.out.2.2.2.1))))).1
  have hT4 : Text w4 a4 65 (2 :: ((List.range 32).map a ++ (List.range 32).map b)) := Text.of_bytes (own_bytes_any V4.out.1 (INTS_bounds (small_cons (by decide) (small_append (small_map H.out.2.2.1) (small_map H.out.2.2.2.1))))).1
  have hT5 : Text w5 a5 41 (3 :: (BE8 n ++ (List.range 32).map a)) := Text.of_bytes (own_bytes_any V5.out.1 (INTS_bounds (small_cons (by decide) (small_append (BE8_small n) (small_map H.out.2.2.1))))).1
  have b6 : Below w5.heap.size w5 (w5.alloc (.cells #[.slice a2 (p + 1) c2, .slice a3 65 c3, .slice a4 65 c4, .slice a5 41 c5'] 22)) := (Below.refl _ w5).alloc (Nat.le_refl _) _
  have hc6 : ∀ i, (w5.alloc (.cells #[.slice a2 (p + 1) c2, .slice a3 65 c3, .slice a4 65 c4, .slice a5 41 c5'] 22)).cell? ⟨w5.heap.size, i, none⟩ = #[.slice a2 (p + 1) c2, .slice a3 65 c3, .slice a4 65 c4, .slice a5 41 c5'][i]? := fun i => World.cell?_alloc_at _ _ _ _ rfl
  have Z : Aside (Below w.heap.size w (w5.alloc (.cells #[.slice a2 (p + 1) c2, .slice a3 65 c3, .slice a4 65 c4, .slice a5 41 c5'] 22)) ∧ FOURIN g0 g1 g2 g3 (w5.alloc (.cells #[.slice a2 (p + 1) c2, .slice a3 65 c3, .slice a4 65 c4, .slice a5 41 c5'] 22)) ∧ w5.heap.size < (w5.alloc (.cells #[.slice a2 (p + 1) c2, .slice a3 65 c3, .slice a4 65 c4, .slice a5 41 c5'] 22)).heap.size ∧ ∀ i, i < 4 → ∃ A N C l, (w5.alloc (.cells #[.slice a2 (p + 1) c2, .slice a3 65 c3, .slice a4 65 c4, .slice a5 41 c5'] 22)).cell? ⟨w5.heap.size, i, none⟩ = some (.slice A N C) ∧ Text (w5.alloc (.cells #[.slice a2 (p + 1) c2, .slice a3 65 c3, .slice a4 65 c4, .slice a5 41 c5'] 22)) A N (i :: l) ∧ N < 5000) := by
    have s1 := V1.out.2.2.2.2
    have s0 : Below w.heap.size w w1 := HB0.out.drew.trans (s1.mono HB0.out.size)
    have s2 := s0.trans (V2.out.2.1.mono s0.size)
    have s3 := s2.trans (V3.out.2.1.mono s2.size)
    have s4 := s3.trans (V4.out.2.1.mono s3.size)
    have s5 := s4.trans (V5.out.2.1.mono s4.size)
    refine ⟨s5.trans (b6.mono s5.size), V5.out.2.2.mono b6.size, by simp, fun i hi => ?_⟩
    have h4 : i = 0 ∨ i = 1 ∨ i = 2 ∨ i = 3 := by omega
    rcases h4 with rfl | rfl | rfl | rfl
    · exact ⟨a2, p + 1, c2, lp, hc6 0, (((hT2.below V3.out.2.1).below V4.out.2.1).below V5.out.2.1).below b6, by omega⟩
    · exact ⟨a3, 65, c3, _, hc6 1, ((hT3.below V4.out.2.1).below V5.out.2.1).below b6, by omega⟩
    · exact ⟨a4, 65, c4, _, hc6 2, (hT4.below V5.out.2.1).below b6, by omega⟩
    · exact ⟨a5, 41, c5', _, hc6 3, hT5.below b6, by omega⟩
  clear hT2 hT3 hT4 hT5 b6 hc6 V1 V2 V3 V4 V5 q1 q2 q3 q4 q5 hHeld k1 c5 c8 c11 hS G HB0
  generalize w5.alloc (.cells #[.slice a2 (p + 1) c2, .slice a3 65 c3, .slice a4 65 c4, .slice a5 41 c5'] 22) = w6 at *
  generalize w5.heap.size = gl at *
  go_wp2_with fail
  go_loopg [18] 4 (fun r s18 wx => ∃ i : Nat, i + r = 4 ∧ s18 = .int .i64 i ∧ Aside (Below w6.heap.size w6 wx))
  case atStart => exact ⟨0, by omega, rfl, Below.refl _ _⟩
  case round =>
    obtain ⟨i, hir, rfl, A⟩ := hrel
    cases gk with
    | zero =>
      obtain rfl : i = 4 := by omega
      go_wp2_with fail
      have q7 : wr.drew.rangeAt g0 0 (ULIST .u8 32 a) ∧ wr.drew.rangeAt g1 0 (ULIST .u8 32 b) ∧ wr.drew.rangeAt g2 0 (ULIST .u8 32 c) ∧ wr.drew.rangeAt g3 0 (ULIST .u8 32 d) := four_below q6 A.out.drew Z.out.2.1
      have hS := q7
      have F0 : Aside (FOURIN g0 g1 g2 g3 wr) := Z.out.2.1.mono A.out.size
      have P0 : Aside (Below w.heap.size w wr) := Z.out.1.trans (A.out.mono Z.out.1.size)
      have nab : ∀ W : World, Calls Tryd.prog 15 #[.agg (ULIST .u8 32 a).toArray, .agg (ULIST .u8 32 b).toArray] W _ := fun W => nodetext_ok a b H.out.2.2.1 H.out.2.2.2.1 W
      have ncd : ∀ W : World, Calls Tryd.prog 15 #[.agg (ULIST .u8 32 c).toArray, .agg (ULIST .u8 32 d).toArray] W _ := fun W => nodetext_ok c d H.out.2.2.2.2.2.2.1 H.out.2.2.2.2.2.2.2.1 W
      have fab : ∀ W : World, Calls Tryd.prog 16 #[.agg (ULIST .u8 32 a).toArray, .agg (ULIST .u8 32 b).toArray] W _ := fun W => foldtext_ok a b H.out.2.2.1 H.out.2.2.2.1 W
      have fcd : ∀ W : World, Calls Tryd.prog 16 #[.agg (ULIST .u8 32 c).toArray, .agg (ULIST .u8 32 d).toArray] W _ := fun W => foldtext_ok c d H.out.2.2.2.2.2.2.1 H.out.2.2.2.2.2.2.2.1 W
      have rna : ∀ W : World, Calls Tryd.prog 17 #[.int .u64 (n : Int), .agg (ULIST .u8 32 a).toArray] W _ := fun W => roottext_ok n H.out.2.2.2.2.1 a H.out.2.2.1 W
      have rmc : ∀ W : World, Calls Tryd.prog 17 #[.int .u64 (m : Int), .agg (ULIST .u8 32 c).toArray] W _ := fun W => roottext_ok m H.out.2.2.2.2.2.1 c H.out.2.2.2.2.2.2.1 W
      have hsm_nab : Small8 (1 :: ((List.range 32).map a ++ (List.range 32).map b)) := small_cons (by decide) (small_append (small_map H.out.2.2.1) (small_map H.out.2.2.2.1))
      have hsm_ncd : Small8 (1 :: ((List.range 32).map c ++ (List.range 32).map d)) := small_cons (by decide) (small_append (small_map H.out.2.2.2.2.2.2.1) (small_map H.out.2.2.2.2.2.2.2.1))
      have hsm_fab : Small8 (2 :: ((List.range 32).map a ++ (List.range 32).map b)) := small_cons (by decide) (small_append (small_map H.out.2.2.1) (small_map H.out.2.2.2.1))
      have hsm_fcd : Small8 (2 :: ((List.range 32).map c ++ (List.range 32).map d)) := small_cons (by decide) (small_append (small_map H.out.2.2.2.2.2.2.1) (small_map H.out.2.2.2.2.2.2.2.1))
      have hsm_rna : Small8 (3 :: (BE8 n ++ (List.range 32).map a)) := small_cons (by decide) (small_append (BE8_small n) (small_map H.out.2.2.1))
      have hsm_rmc : Small8 (3 :: (BE8 m ++ (List.range 32).map c)) := small_cons (by decide) (small_append (BE8_small m) (small_map H.out.2.2.2.2.2.2.1))
      obtain ⟨X, hX0⟩ : ∃ X, decide (lp = lq) = X := ⟨_, rfl⟩
      have hX : Aside (decide (lp = lq) = X) := hX0
      clear hX0
      have heq : ∀ (f g : Nat → Nat) (w : World), (Op.equalIn 10000 24 (.agg (ULIST .u8 32 f).toArray) (.agg (ULIST .u8 32 g).toArray)).run Tryd.prog w = .ok ((List.range 32).all fun i => f i == g i) w := fun f g w => equal_hash f g w
      have hac := heq a c
      have hbd := heq b d
      clear heq
      obtain ⟨e1, he1⟩ : ∃ e1, ((List.range 32).all fun i => a i == c i) = e1 := ⟨_, rfl⟩
      obtain ⟨e2, he2⟩ : ∃ e2, ((List.range 32).all fun i => b i == d i) = e2 := ⟨_, rfl⟩
      have hN : Aside (∀ o : Nat, decide (o :: ((List.range 32).map a ++ (List.range 32).map b) = o :: ((List.range 32).map c ++ (List.range 32).map d)) = (e1 && e2)) := fun o => by rw [pair_same, he1, he2]
      have hR : Aside (decide (3 :: (BE8 n ++ (List.range 32).map a) = 3 :: (BE8 m ++ (List.range 32).map c)) = (decide ((n : Int) = (m : Int)) && e1)) := by
        show decide _ = _
        rw [root_same n m H.out.2.2.2.2.1 H.out.2.2.2.2.2.1, he1]
      rw [he1] at hac
      rw [he2] at hbd
      clear he1 he2 q6 q7
      by_cases hnm : (n : Int) = (m : Int)
      · cases e1 with
        | true =>
          have hnm2 : n = m := by omega
          subst hnm2
          clear hnm
          have hN : Aside (∀ o : Nat, decide (o :: ((List.range 32).map a ++ (List.range 32).map b) = o :: ((List.range 32).map c ++ (List.range 32).map d)) = e2) := fun o => (hN.out o).trans (by simp)
          have hR : Aside (decide (3 :: (BE8 n ++ (List.range 32).map a) = 3 :: (BE8 n ++ (List.range 32).map c)) = true) := hR.out.trans (by simp)
          refine wp_region_held_drew (S := fun W : World => W.rangeAt g0 0 (ULIST .u8 32 a) ∧ W.rangeAt g1 0 (ULIST .u8 32 b) ∧ W.rangeAt g2 0 (ULIST .u8 32 c) ∧ W.rangeAt g3 0 (ULIST .u8 32 d)) (by kernel_rfl) hS (fun hHeld => ?_)
          change wpAnyH _ _ _ _ _ 69 (Array.replicate 69 false) _ (World.drew _)
          refine wpAnyH_take (i := 0) (oi := { dst := some 59, op := Op.move (Operand.tmp 0), type := 22, pos := "outright.go:87", after := #[], guard := none }) (v := .slice u p cp) rfl (by kernel_rfl) (by kernel_rfl) (by kernel_rfl) (fun _ _ _ h => h) (Or.inl ⟨by rfl, fun w hSw => by go_simp⟩) (by assumption) ?_
          simp only [Act.put, List.setIfInBounds_toArray, List.set_cons_zero, List.set_cons_succ]
          refine wpAnyH_take (i := 3) (oi := { dst := some 62, op := Op.move (Operand.tmp 1), type := 22, pos := "outright.go:87", after := #[], guard := none }) (v := .slice v q cq) rfl (by kernel_rfl) (by kernel_rfl) (by kernel_rfl) (fun _ _ _ h => h) (Or.inl ⟨by rfl, fun w hSw => by go_simp⟩) (by assumption) ?_
          simp only [Act.put, List.setIfInBounds_toArray, List.set_cons_zero, List.set_cons_succ]
          refine wpAnyH_take (i := 7) (oi := { dst := some 66, op := Op.move (Operand.tmp 0), type := 22, pos := "outright.go:87", after := #[], guard := none }) (v := .slice u p cp) rfl (by kernel_rfl) (by kernel_rfl) (by kernel_rfl) (fun _ _ _ h => h) (Or.inl ⟨by rfl, fun w hSw => by go_simp⟩) (by assumption) ?_
          simp only [Act.put, List.setIfInBounds_toArray, List.set_cons_zero, List.set_cons_succ]
          refine wpAnyH_take (i := 8) (oi := { dst := some 67, op := Op.move (Operand.tmp 1), type := 22, pos := "outright.go:87", after := #[], guard := none }) (v := .slice v q cq) rfl (by kernel_rfl) (by kernel_rfl) (by kernel_rfl) (fun _ _ _ h => h) (Or.inl ⟨by rfl, fun w hSw => by go_simp⟩) (by assumption) ?_
          simp only [Act.put, List.setIfInBounds_toArray, List.set_cons_zero, List.set_cons_succ]
          refine wpAnyH_ready (rs := [1]) (by kernel_rfl) (by simp) ?_
          refine AllReadyH.cons (o := { dst := some 60, op := Op.call { callee := Callee.value (Operand.func 7), args := #[Operand.tmp 59], argTypes := #[22] }, type := 22, pos := "outright.go:87", after := #[{ on := 0, ground := Ground.data }], guard := none }) rfl (fun K hK => ?_) AllReadyH.nil
          rw [if_pos (by rfl)]
          go_simp
          refine (row_ok u p cp lp wr.drew (H.out.1.below P0.out.drew) H.out.2.1 (by omega)).mono ?_
          rintro e x1 ⟨ra1, rc1, rfl, t1, l1, z1, h1⟩
          have qq1 := four_below hS h1 F0.out
          have F1 : Aside (FOURIN g0 g1 g2 g3 x1) := F0.out.mono h1.size
          have P1 : Aside (Below w.heap.size w x1) := P0.out.drew.trans (h1.mono P0.out.size)
          have R1 : Aside (Text x1 ra1 p lp ∧ p ≤ rc1 ∧ (∀ x, ra1 = some x → x.block < x1.heap.size) ∧ (ra1 = none → rc1 = 0)) := ⟨t1.front, by omega, fun x e => (z1 x e).2, fun e => (by have h := t1.2.1 (by omega); rw [e] at h; obtain ⟨_, _, h, _⟩ := h; cases h)⟩
          clear t1 l1 z1 h1
          refine hK.out _ _ (by assumption) (fun hHeld => ?_)
          clear hK K
          refine wpAnyH_ready (rs := [2]) (by kernel_rfl) (by simp) ?_
          refine AllReadyH.cons (o := { dst := some 61, op := Op.call { callee := Callee.value (Operand.func 14), args := #[Operand.tmp 60], argTypes := #[22] }, type := 22, pos := "outright.go:87", after := #[{ on := 1, ground := Ground.data }, { on := 1, ground := Ground.chain }], guard := none }) rfl (fun K hK => ?_) AllReadyH.nil
          rw [if_pos (by rfl)]
          go_simp
          refine (leaftext_ok ra1 p rc1 lp x1 R1.out.1 R1.out.2.2.2 (by omega) R1.out.2.1 R1.out.2.2.1).mono ?_
          rintro e x2 ⟨ra2, rc2, rfl, o2, h2⟩
          have qq2 := four_below qq1 h2 F1.out
          have F2 : Aside (FOURIN g0 g1 g2 g3 x2) := F1.out.mono h2.size
          have P2 : Aside (Below w.heap.size w x2) := P1.out.trans (h2.mono P1.out.size)
          have Tx2 : Aside (Text x2 ra2 (p + 1) (0 :: lp) ∧ Below x1.heap.size x1 x2) := ⟨Text.of_bytes (own_bytes_any o2 (INTS_bounds (small_cons (by decide) H.out.1.2.2))).1, h2⟩
          clear o2 h2
          refine hK.out _ _ (by assumption) (fun hHeld => ?_)
          clear hK K
          refine wpAnyH_ready (rs := [4]) (by kernel_rfl) (by simp) ?_
          refine AllReadyH.cons (o := { dst := some 63, op := Op.call { callee := Callee.value (Operand.func 7), args := #[Operand.tmp 62], argTypes := #[22] }, type := 22, pos := "outright.go:87", after := #[{ on := 3, ground := Ground.data }, { on := 2, ground := Ground.chain }], guard := none }) rfl (fun K hK => ?_) AllReadyH.nil
          rw [if_pos (by rfl)]
          go_simp
          refine (row_ok v q cq lq x2 (H.out.2.2.2.2.2.2.2.2.1.below P2.out) H.out.2.2.2.2.2.2.2.2.2.1 (by omega)).mono ?_
          rintro e x3 ⟨ra3, rc3, rfl, t3, l3, z3, h3⟩
          have qq3 := four_below qq2 h3 F2.out
          have F3 : Aside (FOURIN g0 g1 g2 g3 x3) := F2.out.mono h3.size
          have P3 : Aside (Below w.heap.size w x3) := P2.out.trans (h3.mono P2.out.size)
          have R3 : Aside (Text x3 ra3 q lq ∧ q ≤ rc3 ∧ (∀ x, ra3 = some x → x.block < x3.heap.size) ∧ (ra3 = none → rc3 = 0)) := ⟨t3.front, by omega, fun x e => (z3 x e).2, fun e => (by have h := t3.2.1 (by omega); rw [e] at h; obtain ⟨_, _, h, _⟩ := h; cases h)⟩
          have BR3 : Aside (Below x2.heap.size x2 x3) := h3
          clear t3 l3 z3 h3
          refine hK.out _ _ (by assumption) (fun hHeld => ?_)
          clear hK K
          refine wpAnyH_ready (rs := [5]) (by kernel_rfl) (by simp) ?_
          refine AllReadyH.cons (o := { dst := some 64, op := Op.call { callee := Callee.value (Operand.func 14), args := #[Operand.tmp 63], argTypes := #[22] }, type := 22, pos := "outright.go:87", after := #[{ on := 4, ground := Ground.data }, { on := 4, ground := Ground.chain }], guard := none }) rfl (fun K hK => ?_) AllReadyH.nil
          rw [if_pos (by rfl)]
          go_simp
          refine (leaftext_ok ra3 q rc3 lq x3 R3.out.1 R3.out.2.2.2 (by omega) R3.out.2.1 R3.out.2.2.1).mono ?_
          rintro e x4 ⟨ra4, rc4, rfl, o4, h4⟩
          have qq4 := four_below qq3 h4 F3.out
          have F4 : Aside (FOURIN g0 g1 g2 g3 x4) := F3.out.mono h4.size
          have P4 : Aside (Below w.heap.size w x4) := P3.out.trans (h4.mono P3.out.size)
          have Tx4 : Aside (Text x4 ra4 (q + 1) (0 :: lq) ∧ Below x3.heap.size x3 x4) := ⟨Text.of_bytes (own_bytes_any o4 (INTS_bounds (small_cons (by decide) H.out.2.2.2.2.2.2.2.2.1.2.2))).1, h4⟩
          clear o4 h4
          refine hK.out _ _ (by assumption) (fun hHeld => ?_)
          clear hK K
          refine wpAnyH_ready (rs := [6]) (by kernel_rfl) (by simp) ?_
          refine AllReadyH.cons (o := { dst := some 65, op := Op.call { callee := Callee.value (Operand.func 18), args := #[Operand.tmp 61, Operand.tmp 64], argTypes := #[22, 22] }, type := 4, pos := "outright.go:87", after := #[{ on := 2, ground := Ground.data }, { on := 5, ground := Ground.data }, { on := 5, ground := Ground.chain }], guard := none }) rfl (fun K hK => ?_) AllReadyH.nil
          rw [if_pos (by rfl)]
          go_simp
          refine (same_is ((leaf_same lp lq).trans hX.out) (same_ok ra2 ra4 (p + 1) (q + 1) rc2 rc4 (0 :: lp) (0 :: lq) x4 ((Tx2.out.1.below BR3.out).below Tx4.out.2) Tx4.out.1 (by omega))).mono ?_
          rintro e x5 ⟨rfl, h5⟩
          have qq5 := four_below qq4 h5 F4.out
          have F5 : Aside (FOURIN g0 g1 g2 g3 x5) := F4.out.mono h5.size
          have P5 : Aside (Below w.heap.size w x5) := P4.out.trans (h5.mono P4.out.size)
          have Bx5 : Aside (Below x4.heap.size x4 x5) := h5
          clear h5
          refine hK.out _ _ (by assumption) (fun hHeld => ?_)
          clear hK K
          refine wpAnyH_ready (rs := [9]) (by kernel_rfl) (by simp) ?_
          refine AllReadyH.cons (o := { dst := some 68, op := Op.call { callee := Callee.value (Operand.func 18), args := #[Operand.tmp 66, Operand.tmp 67], argTypes := #[22, 22] }, type := 4, pos := "outright.go:87", after := #[{ on := 7, ground := Ground.data }, { on := 8, ground := Ground.data }, { on := 6, ground := Ground.chain }], guard := none }) rfl (fun K hK => ?_) AllReadyH.nil
          rw [if_pos (by rfl)]
          go_simp
          refine (same_is hX.out (same_ok u v p q cp cq lp lq x5 (H.out.1.below P5.out) (H.out.2.2.2.2.2.2.2.2.1.below P5.out) (by omega))).mono ?_
          rintro e x6 ⟨rfl, h6⟩
          have qq6 := four_below qq5 h6 F5.out
          have F6 : Aside (FOURIN g0 g1 g2 g3 x6) := F5.out.mono h6.size
          have P6 : Aside (Below w.heap.size w x6) := P5.out.trans (h6.mono P5.out.size)
          clear h6
          refine hK.out _ _ (by assumption) (fun hHeld => ?_)
          clear hK K
          refine wpAnyH_take (i := 10) (oi := { dst := some 69, op := Op.binOp BinOp.eql 4 (Operand.tmp 65) (Operand.tmp 68) 4, type := 4, pos := "outright.go:87", after := #[{ on := 6, ground := Ground.data }, { on := 9, ground := Ground.data }], guard := none }) (v := .bool true) rfl (by kernel_rfl) (by kernel_rfl) (by kernel_rfl) (fun _ _ _ h => h) (Or.inl ⟨by rfl, fun w hSw => by go_simp⟩) (by assumption) ?_
          simp only [Act.put, List.setIfInBounds_toArray, List.set_cons_zero, List.set_cons_succ]
          refine wpAnyH_take (i := 11) (oi := { dst := some 70, op := Op.move (Operand.tmp 69), type := 4, pos := "outright.go:87", after := #[{ on := 10, ground := Ground.data }, { on := 9, ground := Ground.chain }], guard := none }) (v := .bool true) rfl (by kernel_rfl) (by kernel_rfl) (by kernel_rfl) (fun _ _ _ h => h) (Or.inl ⟨by rfl, fun w hSw => by go_simp⟩) (by assumption) ?_
          simp only [Act.put, List.setIfInBounds_toArray, List.set_cons_zero, List.set_cons_succ]
          refine wpAnyH_take (i := 12) (oi := { dst := some 71, op := Op.load 24 (Operand.tmp 10), type := 24, pos := "outright.go:87", after := #[{ on := 11, ground := Ground.guard }], guard := some (11, true) }) (v := .agg (ULIST .u8 32 a).toArray) rfl (by kernel_rfl) (by kernel_rfl) (by kernel_rfl) (fun _ _ _ h => h) (yieldsIf_load_mid (by rfl) _ _ rfl _ _ rfl (ULIST .u8 32 a) _ (fun w h => h.1) Tryd.underlying24 rfl (hi a)) (by assumption) ?_
          simp only [Act.put, List.setIfInBounds_toArray, List.set_cons_zero, List.set_cons_succ]
          refine wpAnyH_take (i := 13) (oi := { dst := some 72, op := Op.load 24 (Operand.tmp 11), type := 24, pos := "outright.go:87", after := #[{ on := 11, ground := Ground.guard }], guard := some (11, true) }) (v := .agg (ULIST .u8 32 b).toArray) rfl (by kernel_rfl) (by kernel_rfl) (by kernel_rfl) (fun _ _ _ h => h) (yieldsIf_load_mid (by rfl) _ _ rfl _ _ rfl (ULIST .u8 32 b) _ (fun w h => h.2.1) Tryd.underlying24 rfl (hi b)) (by assumption) ?_
          simp only [Act.put, List.setIfInBounds_toArray, List.set_cons_zero, List.set_cons_succ]
          refine wpAnyH_take (i := 15) (oi := { dst := some 74, op := Op.load 24 (Operand.tmp 12), type := 24, pos := "outright.go:87", after := #[{ on := 11, ground := Ground.guard }], guard := some (11, true) }) (v := .agg (ULIST .u8 32 c).toArray) rfl (by kernel_rfl) (by kernel_rfl) (by kernel_rfl) (fun _ _ _ h => h) (yieldsIf_load_mid (by rfl) _ _ rfl _ _ rfl (ULIST .u8 32 c) _ (fun w h => h.2.2.1) Tryd.underlying24 rfl (hi c)) (by assumption) ?_
          simp only [Act.put, List.setIfInBounds_toArray, List.set_cons_zero, List.set_cons_succ]
          refine wpAnyH_take (i := 16) (oi := { dst := some 75, op := Op.load 24 (Operand.tmp 13), type := 24, pos := "outright.go:87", after := #[{ on := 11, ground := Ground.guard }], guard := some (11, true) }) (v := .agg (ULIST .u8 32 d).toArray) rfl (by kernel_rfl) (by kernel_rfl) (by kernel_rfl) (fun _ _ _ h => h) (yieldsIf_load_mid (by rfl) _ _ rfl _ _ rfl (ULIST .u8 32 d) _ (fun w h => h.2.2.2) Tryd.underlying24 rfl (hi d)) (by assumption) ?_
          simp only [Act.put, List.setIfInBounds_toArray, List.set_cons_zero, List.set_cons_succ]
          refine wpAnyH_take (i := 19) (oi := { dst := some 78, op := Op.load 24 (Operand.tmp 10), type := 24, pos := "outright.go:87", after := #[{ on := 11, ground := Ground.guard }], guard := some (11, true) }) (v := .agg (ULIST .u8 32 a).toArray) rfl (by kernel_rfl) (by kernel_rfl) (by kernel_rfl) (fun _ _ _ h => h) (yieldsIf_load_mid (by rfl) _ _ rfl _ _ rfl (ULIST .u8 32 a) _ (fun w h => h.1) Tryd.underlying24 rfl (hi a)) (by assumption) ?_
          simp only [Act.put, List.setIfInBounds_toArray, List.set_cons_zero, List.set_cons_succ]
          refine wpAnyH_take (i := 20) (oi := { dst := some 79, op := Op.load 24 (Operand.tmp 12), type := 24, pos := "outright.go:87", after := #[{ on := 11, ground := Ground.guard }], guard := some (11, true) }) (v := .agg (ULIST .u8 32 c).toArray) rfl (by kernel_rfl) (by kernel_rfl) (by kernel_rfl) (fun _ _ _ h => h) (yieldsIf_load_mid (by rfl) _ _ rfl _ _ rfl (ULIST .u8 32 c) _ (fun w h => h.2.2.1) Tryd.underlying24 rfl (hi c)) (by assumption) ?_
          simp only [Act.put, List.setIfInBounds_toArray, List.set_cons_zero, List.set_cons_succ]
          refine wpAnyH_take (i := 21) (oi := { dst := some 80, op := Op.binOp BinOp.eql 24 (Operand.tmp 78) (Operand.tmp 79) 24, type := 4, pos := "outright.go:87", after := #[{ on := 19, ground := Ground.data }, { on := 20, ground := Ground.data }, { on := 11, ground := Ground.guard }], guard := some (11, true) }) (v := .bool true) rfl (by kernel_rfl) (by kernel_rfl) (by kernel_rfl) (fun _ _ _ h => h) (Or.inl ⟨by rfl, fun w hSw => by go_simp⟩) (by assumption) ?_
          simp only [Act.put, List.setIfInBounds_toArray, List.set_cons_zero, List.set_cons_succ]
          refine wpAnyH_ready (rs := [14]) (by kernel_rfl) (by simp) ?_
          refine AllReadyH.cons (o := { dst := some 73, op := Op.call { callee := Callee.value (Operand.func 15), args := #[Operand.tmp 71, Operand.tmp 72], argTypes := #[24, 24] }, type := 22, pos := "outright.go:87", after := #[{ on := 12, ground := Ground.data }, { on := 13, ground := Ground.data }, { on := 11, ground := Ground.chain }, { on := 11, ground := Ground.guard }], guard := some (11, true) }) rfl (fun K hK => ?_) AllReadyH.nil
          rw [if_pos (by rfl)]
          go_simp
          refine (nab x6).mono ?_
          rintro e x7 ⟨ra7, rc7, rfl, o7, h7⟩
          have qq7 := four_below qq6 h7 F6.out
          have F7 : Aside (FOURIN g0 g1 g2 g3 x7) := F6.out.mono h7.size
          have P7 : Aside (Below w.heap.size w x7) := P6.out.trans (h7.mono P6.out.size)
          have Tx7 : Aside (Text x7 ra7 65 (1 :: ((List.range 32).map a ++ (List.range 32).map b)) ∧ Below x6.heap.size x6 x7) := ⟨Text.of_bytes (own_bytes_any o7 (INTS_bounds (hsm_nab))).1, h7⟩
          clear o7 h7
          refine hK.out _ _ (by assumption) (fun hHeld => ?_)
          clear hK K
          refine wpAnyH_ready (rs := [17]) (by kernel_rfl) (by simp) ?_
          refine AllReadyH.cons (o := { dst := some 76, op := Op.call { callee := Callee.value (Operand.func 15), args := #[Operand.tmp 74, Operand.tmp 75], argTypes := #[24, 24] }, type := 22, pos := "outright.go:87", after := #[{ on := 15, ground := Ground.data }, { on := 16, ground := Ground.data }, { on := 14, ground := Ground.chain }, { on := 11, ground := Ground.guard }], guard := some (11, true) }) rfl (fun K hK => ?_) AllReadyH.nil
          rw [if_pos (by rfl)]
          go_simp
          refine (ncd x7).mono ?_
          rintro e x8 ⟨ra8, rc8, rfl, o8, h8⟩
          have qq8 := four_below qq7 h8 F7.out
          have F8 : Aside (FOURIN g0 g1 g2 g3 x8) := F7.out.mono h8.size
          have P8 : Aside (Below w.heap.size w x8) := P7.out.trans (h8.mono P7.out.size)
          have Tx8 : Aside (Text x8 ra8 65 (1 :: ((List.range 32).map c ++ (List.range 32).map d)) ∧ Below x7.heap.size x7 x8) := ⟨Text.of_bytes (own_bytes_any o8 (INTS_bounds (hsm_ncd))).1, h8⟩
          clear o8 h8
          refine hK.out _ _ (by assumption) (fun hHeld => ?_)
          clear hK K
          refine wpAnyH_ready (rs := [18]) (by kernel_rfl) (by simp) ?_
          refine AllReadyH.cons (o := { dst := some 77, op := Op.call { callee := Callee.value (Operand.func 18), args := #[Operand.tmp 73, Operand.tmp 76], argTypes := #[22, 22] }, type := 4, pos := "outright.go:87", after := #[{ on := 14, ground := Ground.data }, { on := 17, ground := Ground.data }, { on := 17, ground := Ground.chain }, { on := 11, ground := Ground.guard }], guard := some (11, true) }) rfl (fun K hK => ?_) AllReadyH.nil
          rw [if_pos (by rfl)]
          go_simp
          refine (same_is (hN.out 1) (same_ok ra7 ra8 65 65 rc7 rc8 (1 :: ((List.range 32).map a ++ (List.range 32).map b)) (1 :: ((List.range 32).map c ++ (List.range 32).map d)) x8 (Tx7.out.1.below Tx8.out.2) Tx8.out.1 (by omega))).mono ?_
          rintro e x9 ⟨rfl, h9⟩
          have qq9 := four_below qq8 h9 F8.out
          have F9 : Aside (FOURIN g0 g1 g2 g3 x9) := F8.out.mono h9.size
          have P9 : Aside (Below w.heap.size w x9) := P8.out.trans (h9.mono P8.out.size)
          have Bx9 : Aside (Below x8.heap.size x8 x9) := h9
          clear h9
          refine hK.out _ _ (by assumption) (fun hHeld => ?_)
          clear hK K
          refine wpAnyH_take (i := 22) (oi := { dst := some 81, op := Op.move (Operand.tmp 80), type := 4, pos := "outright.go:87", after := #[{ on := 21, ground := Ground.data }, { on := 18, ground := Ground.chain }, { on := 11, ground := Ground.guard }], guard := some (11, true) }) (v := .bool true) rfl (by kernel_rfl) (by kernel_rfl) (by kernel_rfl) (fun _ _ _ h => h) (Or.inl ⟨by rfl, fun w hSw => by go_simp⟩) (by assumption) ?_
          simp only [Act.put, List.setIfInBounds_toArray, List.set_cons_zero, List.set_cons_succ]
          refine wpAnyH_take (i := 23) (oi := { dst := some 82, op := Op.load 24 (Operand.tmp 11), type := 24, pos := "outright.go:87", after := #[{ on := 22, ground := Ground.guard }], guard := some (22, true) }) (v := .agg (ULIST .u8 32 b).toArray) rfl (by kernel_rfl) (by kernel_rfl) (by kernel_rfl) (fun _ _ _ h => h) (yieldsIf_load_mid (by rfl) _ _ rfl _ _ rfl (ULIST .u8 32 b) _ (fun w h => h.2.1) Tryd.underlying24 rfl (hi b)) (by assumption) ?_
          simp only [Act.put, List.setIfInBounds_toArray, List.set_cons_zero, List.set_cons_succ]
          refine wpAnyH_take (i := 24) (oi := { dst := some 83, op := Op.load 24 (Operand.tmp 13), type := 24, pos := "outright.go:87", after := #[{ on := 22, ground := Ground.guard }], guard := some (22, true) }) (v := .agg (ULIST .u8 32 d).toArray) rfl (by kernel_rfl) (by kernel_rfl) (by kernel_rfl) (fun _ _ _ h => h) (yieldsIf_load_mid (by rfl) _ _ rfl _ _ rfl (ULIST .u8 32 d) _ (fun w h => h.2.2.2) Tryd.underlying24 rfl (hi d)) (by assumption) ?_
          simp only [Act.put, List.setIfInBounds_toArray, List.set_cons_zero, List.set_cons_succ]
          refine wpAnyH_take (i := 25) (oi := { dst := some 84, op := Op.binOp BinOp.eql 24 (Operand.tmp 82) (Operand.tmp 83) 24, type := 4, pos := "outright.go:87", after := #[{ on := 23, ground := Ground.data }, { on := 24, ground := Ground.data }, { on := 22, ground := Ground.guard }], guard := some (22, true) }) (v := .bool e2) rfl (by kernel_rfl) (by kernel_rfl) (by kernel_rfl) (fun _ _ _ h => h) (Or.inl ⟨by rfl, fun w hSw => by go_simp⟩) (by assumption) ?_
          simp only [Act.put, List.setIfInBounds_toArray, List.set_cons_zero, List.set_cons_succ]
          refine wpAnyH_take (i := 26) (oi := { dst := some 85, op := Op.pick (Operand.tmp 81) (Operand.tmp 84) (Operand.const (Value.bool false)), type := 4, pos := "outright.go:87", after := #[{ on := 22, ground := Ground.data }, { on := 25, ground := Ground.data }, { on := 11, ground := Ground.guard }], guard := some (11, true) }) (v := .bool e2) rfl (by kernel_rfl) (by kernel_rfl) (by kernel_rfl) (fun _ _ _ h => h) (Or.inl ⟨by rfl, fun w hSw => by go_simp⟩) (by assumption) ?_
          simp only [Act.put, List.setIfInBounds_toArray, List.set_cons_zero, List.set_cons_succ]
          refine wpAnyH_take (i := 27) (oi := { dst := some 86, op := Op.binOp BinOp.eql 4 (Operand.tmp 77) (Operand.tmp 85) 4, type := 4, pos := "outright.go:87", after := #[{ on := 18, ground := Ground.data }, { on := 26, ground := Ground.data }, { on := 11, ground := Ground.guard }], guard := some (11, true) }) (v := .bool true) rfl (by kernel_rfl) (by kernel_rfl) (by kernel_rfl) (fun _ _ _ h => h) (Or.inl ⟨by rfl, fun w hSw => by go_simp⟩) (by assumption) ?_
          simp only [Act.put, List.setIfInBounds_toArray, List.set_cons_zero, List.set_cons_succ]
          refine wpAnyH_take (i := 28) (oi := { dst := some 87, op := Op.pick (Operand.tmp 70) (Operand.tmp 86) (Operand.const (Value.bool false)), type := 4, pos := "outright.go:87", after := #[{ on := 11, ground := Ground.data }, { on := 27, ground := Ground.data }], guard := none }) (v := .bool true) rfl (by kernel_rfl) (by kernel_rfl) (by kernel_rfl) (fun _ _ _ h => h) (Or.inl ⟨by rfl, fun w hSw => by go_simp⟩) (by assumption) ?_
          simp only [Act.put, List.setIfInBounds_toArray, List.set_cons_zero, List.set_cons_succ]
          refine wpAnyH_take (i := 29) (oi := { dst := some 88, op := Op.move (Operand.tmp 87), type := 4, pos := "outright.go:87", after := #[{ on := 28, ground := Ground.data }, { on := 22, ground := Ground.chain }], guard := none }) (v := .bool true) rfl (by kernel_rfl) (by kernel_rfl) (by kernel_rfl) (fun _ _ _ h => h) (Or.inl ⟨by rfl, fun w hSw => by go_simp⟩) (by assumption) ?_
          simp only [Act.put, List.setIfInBounds_toArray, List.set_cons_zero, List.set_cons_succ]
          refine wpAnyH_take (i := 30) (oi := { dst := some 89, op := Op.load 24 (Operand.tmp 10), type := 24, pos := "outright.go:87", after := #[{ on := 29, ground := Ground.guard }], guard := some (29, true) }) (v := .agg (ULIST .u8 32 a).toArray) rfl (by kernel_rfl) (by kernel_rfl) (by kernel_rfl) (fun _ _ _ h => h) (yieldsIf_load_mid (by rfl) _ _ rfl _ _ rfl (ULIST .u8 32 a) _ (fun w h => h.1) Tryd.underlying24 rfl (hi a)) (by assumption) ?_
          simp only [Act.put, List.setIfInBounds_toArray, List.set_cons_zero, List.set_cons_succ]
          refine wpAnyH_take (i := 31) (oi := { dst := some 90, op := Op.load 24 (Operand.tmp 11), type := 24, pos := "outright.go:87", after := #[{ on := 29, ground := Ground.guard }], guard := some (29, true) }) (v := .agg (ULIST .u8 32 b).toArray) rfl (by kernel_rfl) (by kernel_rfl) (by kernel_rfl) (fun _ _ _ h => h) (yieldsIf_load_mid (by rfl) _ _ rfl _ _ rfl (ULIST .u8 32 b) _ (fun w h => h.2.1) Tryd.underlying24 rfl (hi b)) (by assumption) ?_
          simp only [Act.put, List.setIfInBounds_toArray, List.set_cons_zero, List.set_cons_succ]
          refine wpAnyH_take (i := 33) (oi := { dst := some 92, op := Op.load 24 (Operand.tmp 12), type := 24, pos := "outright.go:87", after := #[{ on := 29, ground := Ground.guard }], guard := some (29, true) }) (v := .agg (ULIST .u8 32 c).toArray) rfl (by kernel_rfl) (by kernel_rfl) (by kernel_rfl) (fun _ _ _ h => h) (yieldsIf_load_mid (by rfl) _ _ rfl _ _ rfl (ULIST .u8 32 c) _ (fun w h => h.2.2.1) Tryd.underlying24 rfl (hi c)) (by assumption) ?_
          simp only [Act.put, List.setIfInBounds_toArray, List.set_cons_zero, List.set_cons_succ]
          refine wpAnyH_take (i := 34) (oi := { dst := some 93, op := Op.load 24 (Operand.tmp 13), type := 24, pos := "outright.go:87", after := #[{ on := 29, ground := Ground.guard }], guard := some (29, true) }) (v := .agg (ULIST .u8 32 d).toArray) rfl (by kernel_rfl) (by kernel_rfl) (by kernel_rfl) (fun _ _ _ h => h) (yieldsIf_load_mid (by rfl) _ _ rfl _ _ rfl (ULIST .u8 32 d) _ (fun w h => h.2.2.2) Tryd.underlying24 rfl (hi d)) (by assumption) ?_
          simp only [Act.put, List.setIfInBounds_toArray, List.set_cons_zero, List.set_cons_succ]
          refine wpAnyH_take (i := 37) (oi := { dst := some 96, op := Op.load 24 (Operand.tmp 10), type := 24, pos := "outright.go:87", after := #[{ on := 29, ground := Ground.guard }], guard := some (29, true) }) (v := .agg (ULIST .u8 32 a).toArray) rfl (by kernel_rfl) (by kernel_rfl) (by kernel_rfl) (fun _ _ _ h => h) (yieldsIf_load_mid (by rfl) _ _ rfl _ _ rfl (ULIST .u8 32 a) _ (fun w h => h.1) Tryd.underlying24 rfl (hi a)) (by assumption) ?_
          simp only [Act.put, List.setIfInBounds_toArray, List.set_cons_zero, List.set_cons_succ]
          refine wpAnyH_take (i := 38) (oi := { dst := some 97, op := Op.load 24 (Operand.tmp 12), type := 24, pos := "outright.go:87", after := #[{ on := 29, ground := Ground.guard }], guard := some (29, true) }) (v := .agg (ULIST .u8 32 c).toArray) rfl (by kernel_rfl) (by kernel_rfl) (by kernel_rfl) (fun _ _ _ h => h) (yieldsIf_load_mid (by rfl) _ _ rfl _ _ rfl (ULIST .u8 32 c) _ (fun w h => h.2.2.1) Tryd.underlying24 rfl (hi c)) (by assumption) ?_
          simp only [Act.put, List.setIfInBounds_toArray, List.set_cons_zero, List.set_cons_succ]
          refine wpAnyH_take (i := 39) (oi := { dst := some 98, op := Op.binOp BinOp.eql 24 (Operand.tmp 96) (Operand.tmp 97) 24, type := 4, pos := "outright.go:87", after := #[{ on := 37, ground := Ground.data }, { on := 38, ground := Ground.data }, { on := 29, ground := Ground.guard }], guard := some (29, true) }) (v := .bool true) rfl (by kernel_rfl) (by kernel_rfl) (by kernel_rfl) (fun _ _ _ h => h) (Or.inl ⟨by rfl, fun w hSw => by go_simp⟩) (by assumption) ?_
          simp only [Act.put, List.setIfInBounds_toArray, List.set_cons_zero, List.set_cons_succ]
          refine wpAnyH_ready (rs := [32]) (by kernel_rfl) (by simp) ?_
          refine AllReadyH.cons (o := { dst := some 91, op := Op.call { callee := Callee.value (Operand.func 16), args := #[Operand.tmp 89, Operand.tmp 90], argTypes := #[24, 24] }, type := 22, pos := "outright.go:87", after := #[{ on := 30, ground := Ground.data }, { on := 31, ground := Ground.data }, { on := 29, ground := Ground.chain }, { on := 29, ground := Ground.guard }], guard := some (29, true) }) rfl (fun K hK => ?_) AllReadyH.nil
          rw [if_pos (by rfl)]
          go_simp
          refine (fab x9).mono ?_
          rintro e x10 ⟨ra10, rc10, rfl, o10, h10⟩
          have qq10 := four_below qq9 h10 F9.out
          have F10 : Aside (FOURIN g0 g1 g2 g3 x10) := F9.out.mono h10.size
          have P10 : Aside (Below w.heap.size w x10) := P9.out.trans (h10.mono P9.out.size)
          have Tx10 : Aside (Text x10 ra10 65 (2 :: ((List.range 32).map a ++ (List.range 32).map b)) ∧ Below x9.heap.size x9 x10) := ⟨Text.of_bytes (own_bytes_any o10 (INTS_bounds (hsm_fab))).1, h10⟩
          clear o10 h10
          refine hK.out _ _ (by assumption) (fun hHeld => ?_)
          clear hK K
          refine wpAnyH_ready (rs := [35]) (by kernel_rfl) (by simp) ?_
          refine AllReadyH.cons (o := { dst := some 94, op := Op.call { callee := Callee.value (Operand.func 16), args := #[Operand.tmp 92, Operand.tmp 93], argTypes := #[24, 24] }, type := 22, pos := "outright.go:87", after := #[{ on := 33, ground := Ground.data }, { on := 34, ground := Ground.data }, { on := 32, ground := Ground.chain }, { on := 29, ground := Ground.guard }], guard := some (29, true) }) rfl (fun K hK => ?_) AllReadyH.nil
          rw [if_pos (by rfl)]
          go_simp
          refine (fcd x10).mono ?_
          rintro e x11 ⟨ra11, rc11, rfl, o11, h11⟩
          have qq11 := four_below qq10 h11 F10.out
          have F11 : Aside (FOURIN g0 g1 g2 g3 x11) := F10.out.mono h11.size
          have P11 : Aside (Below w.heap.size w x11) := P10.out.trans (h11.mono P10.out.size)
          have Tx11 : Aside (Text x11 ra11 65 (2 :: ((List.range 32).map c ++ (List.range 32).map d)) ∧ Below x10.heap.size x10 x11) := ⟨Text.of_bytes (own_bytes_any o11 (INTS_bounds (hsm_fcd))).1, h11⟩
          clear o11 h11
          refine hK.out _ _ (by assumption) (fun hHeld => ?_)
          clear hK K
          refine wpAnyH_ready (rs := [36]) (by kernel_rfl) (by simp) ?_
          refine AllReadyH.cons (o := { dst := some 95, op := Op.call { callee := Callee.value (Operand.func 18), args := #[Operand.tmp 91, Operand.tmp 94], argTypes := #[22, 22] }, type := 4, pos := "outright.go:87", after := #[{ on := 32, ground := Ground.data }, { on := 35, ground := Ground.data }, { on := 35, ground := Ground.chain }, { on := 29, ground := Ground.guard }], guard := some (29, true) }) rfl (fun K hK => ?_) AllReadyH.nil
          rw [if_pos (by rfl)]
          go_simp
          refine (same_is (hN.out 2) (same_ok ra10 ra11 65 65 rc10 rc11 (2 :: ((List.range 32).map a ++ (List.range 32).map b)) (2 :: ((List.range 32).map c ++ (List.range 32).map d)) x11 (Tx10.out.1.below Tx11.out.2) Tx11.out.1 (by omega))).mono ?_
          rintro e x12 ⟨rfl, h12⟩
          have qq12 := four_below qq11 h12 F11.out
          have F12 : Aside (FOURIN g0 g1 g2 g3 x12) := F11.out.mono h12.size
          have P12 : Aside (Below w.heap.size w x12) := P11.out.trans (h12.mono P11.out.size)
          have Bx12 : Aside (Below x11.heap.size x11 x12) := h12
          clear h12
          refine hK.out _ _ (by assumption) (fun hHeld => ?_)
          clear hK K
          refine wpAnyH_take (i := 40) (oi := { dst := some 99, op := Op.move (Operand.tmp 98), type := 4, pos := "outright.go:87", after := #[{ on := 39, ground := Ground.data }, { on := 36, ground := Ground.chain }, { on := 29, ground := Ground.guard }], guard := some (29, true) }) (v := .bool true) rfl (by kernel_rfl) (by kernel_rfl) (by kernel_rfl) (fun _ _ _ h => h) (Or.inl ⟨by rfl, fun w hSw => by go_simp⟩) (by assumption) ?_
          simp only [Act.put, List.setIfInBounds_toArray, List.set_cons_zero, List.set_cons_succ]
          refine wpAnyH_take (i := 41) (oi := { dst := some 100, op := Op.load 24 (Operand.tmp 11), type := 24, pos := "outright.go:87", after := #[{ on := 40, ground := Ground.guard }], guard := some (40, true) }) (v := .agg (ULIST .u8 32 b).toArray) rfl (by kernel_rfl) (by kernel_rfl) (by kernel_rfl) (fun _ _ _ h => h) (yieldsIf_load_mid (by rfl) _ _ rfl _ _ rfl (ULIST .u8 32 b) _ (fun w h => h.2.1) Tryd.underlying24 rfl (hi b)) (by assumption) ?_
          simp only [Act.put, List.setIfInBounds_toArray, List.set_cons_zero, List.set_cons_succ]
          refine wpAnyH_take (i := 42) (oi := { dst := some 101, op := Op.load 24 (Operand.tmp 13), type := 24, pos := "outright.go:87", after := #[{ on := 40, ground := Ground.guard }], guard := some (40, true) }) (v := .agg (ULIST .u8 32 d).toArray) rfl (by kernel_rfl) (by kernel_rfl) (by kernel_rfl) (fun _ _ _ h => h) (yieldsIf_load_mid (by rfl) _ _ rfl _ _ rfl (ULIST .u8 32 d) _ (fun w h => h.2.2.2) Tryd.underlying24 rfl (hi d)) (by assumption) ?_
          simp only [Act.put, List.setIfInBounds_toArray, List.set_cons_zero, List.set_cons_succ]
          refine wpAnyH_take (i := 43) (oi := { dst := some 102, op := Op.binOp BinOp.eql 24 (Operand.tmp 100) (Operand.tmp 101) 24, type := 4, pos := "outright.go:87", after := #[{ on := 41, ground := Ground.data }, { on := 42, ground := Ground.data }, { on := 40, ground := Ground.guard }], guard := some (40, true) }) (v := .bool e2) rfl (by kernel_rfl) (by kernel_rfl) (by kernel_rfl) (fun _ _ _ h => h) (Or.inl ⟨by rfl, fun w hSw => by go_simp⟩) (by assumption) ?_
          simp only [Act.put, List.setIfInBounds_toArray, List.set_cons_zero, List.set_cons_succ]
          refine wpAnyH_take (i := 44) (oi := { dst := some 103, op := Op.pick (Operand.tmp 99) (Operand.tmp 102) (Operand.const (Value.bool false)), type := 4, pos := "outright.go:87", after := #[{ on := 40, ground := Ground.data }, { on := 43, ground := Ground.data }, { on := 29, ground := Ground.guard }], guard := some (29, true) }) (v := .bool e2) rfl (by kernel_rfl) (by kernel_rfl) (by kernel_rfl) (fun _ _ _ h => h) (Or.inl ⟨by rfl, fun w hSw => by go_simp⟩) (by assumption) ?_
          simp only [Act.put, List.setIfInBounds_toArray, List.set_cons_zero, List.set_cons_succ]
          refine wpAnyH_take (i := 45) (oi := { dst := some 104, op := Op.binOp BinOp.eql 4 (Operand.tmp 95) (Operand.tmp 103) 4, type := 4, pos := "outright.go:87", after := #[{ on := 36, ground := Ground.data }, { on := 44, ground := Ground.data }, { on := 29, ground := Ground.guard }], guard := some (29, true) }) (v := .bool true) rfl (by kernel_rfl) (by kernel_rfl) (by kernel_rfl) (fun _ _ _ h => h) (Or.inl ⟨by rfl, fun w hSw => by go_simp⟩) (by assumption) ?_
          simp only [Act.put, List.setIfInBounds_toArray, List.set_cons_zero, List.set_cons_succ]
          refine wpAnyH_take (i := 46) (oi := { dst := some 105, op := Op.pick (Operand.tmp 88) (Operand.tmp 104) (Operand.const (Value.bool false)), type := 4, pos := "outright.go:87", after := #[{ on := 29, ground := Ground.data }, { on := 45, ground := Ground.data }], guard := none }) (v := .bool true) rfl (by kernel_rfl) (by kernel_rfl) (by kernel_rfl) (fun _ _ _ h => h) (Or.inl ⟨by rfl, fun w hSw => by go_simp⟩) (by assumption) ?_
          simp only [Act.put, List.setIfInBounds_toArray, List.set_cons_zero, List.set_cons_succ]
          refine wpAnyH_take (i := 47) (oi := { dst := some 106, op := Op.move (Operand.tmp 105), type := 4, pos := "outright.go:87", after := #[{ on := 46, ground := Ground.data }, { on := 40, ground := Ground.chain }], guard := none }) (v := .bool true) rfl (by kernel_rfl) (by kernel_rfl) (by kernel_rfl) (fun _ _ _ h => h) (Or.inl ⟨by rfl, fun w hSw => by go_simp⟩) (by assumption) ?_
          simp only [Act.put, List.setIfInBounds_toArray, List.set_cons_zero, List.set_cons_succ]
          refine wpAnyH_take (i := 48) (oi := { dst := some 107, op := Op.move (Operand.tmp 6), type := 37, pos := "outright.go:87", after := #[{ on := 47, ground := Ground.guard }], guard := some (47, true) }) (v := .int .u64 (n : Int)) rfl (by kernel_rfl) (by kernel_rfl) (by kernel_rfl) (fun _ _ _ h => h) (Or.inl ⟨by rfl, fun w hSw => by go_simp⟩) (by assumption) ?_
          simp only [Act.put, List.setIfInBounds_toArray, List.set_cons_zero, List.set_cons_succ]
          refine wpAnyH_take (i := 49) (oi := { dst := some 108, op := Op.load 24 (Operand.tmp 10), type := 24, pos := "outright.go:87", after := #[{ on := 47, ground := Ground.guard }], guard := some (47, true) }) (v := .agg (ULIST .u8 32 a).toArray) rfl (by kernel_rfl) (by kernel_rfl) (by kernel_rfl) (fun _ _ _ h => h) (yieldsIf_load_mid (by rfl) _ _ rfl _ _ rfl (ULIST .u8 32 a) _ (fun w h => h.1) Tryd.underlying24 rfl (hi a)) (by assumption) ?_
          simp only [Act.put, List.setIfInBounds_toArray, List.set_cons_zero, List.set_cons_succ]
          refine wpAnyH_take (i := 51) (oi := { dst := some 110, op := Op.move (Operand.tmp 7), type := 37, pos := "outright.go:87", after := #[{ on := 47, ground := Ground.guard }], guard := some (47, true) }) (v := .int .u64 (n : Int)) rfl (by kernel_rfl) (by kernel_rfl) (by kernel_rfl) (fun _ _ _ h => h) (Or.inl ⟨by rfl, fun w hSw => by go_simp⟩) (by assumption) ?_
          simp only [Act.put, List.setIfInBounds_toArray, List.set_cons_zero, List.set_cons_succ]
          refine wpAnyH_take (i := 52) (oi := { dst := some 111, op := Op.load 24 (Operand.tmp 12), type := 24, pos := "outright.go:87", after := #[{ on := 47, ground := Ground.guard }], guard := some (47, true) }) (v := .agg (ULIST .u8 32 c).toArray) rfl (by kernel_rfl) (by kernel_rfl) (by kernel_rfl) (fun _ _ _ h => h) (yieldsIf_load_mid (by rfl) _ _ rfl _ _ rfl (ULIST .u8 32 c) _ (fun w h => h.2.2.1) Tryd.underlying24 rfl (hi c)) (by assumption) ?_
          simp only [Act.put, List.setIfInBounds_toArray, List.set_cons_zero, List.set_cons_succ]
          refine wpAnyH_take (i := 55) (oi := { dst := some 114, op := Op.move (Operand.tmp 6), type := 37, pos := "outright.go:87", after := #[{ on := 47, ground := Ground.guard }], guard := some (47, true) }) (v := .int .u64 (n : Int)) rfl (by kernel_rfl) (by kernel_rfl) (by kernel_rfl) (fun _ _ _ h => h) (Or.inl ⟨by rfl, fun w hSw => by go_simp⟩) (by assumption) ?_
          simp only [Act.put, List.setIfInBounds_toArray, List.set_cons_zero, List.set_cons_succ]
          refine wpAnyH_take (i := 56) (oi := { dst := some 115, op := Op.move (Operand.tmp 7), type := 37, pos := "outright.go:87", after := #[{ on := 47, ground := Ground.guard }], guard := some (47, true) }) (v := .int .u64 (n : Int)) rfl (by kernel_rfl) (by kernel_rfl) (by kernel_rfl) (fun _ _ _ h => h) (Or.inl ⟨by rfl, fun w hSw => by go_simp⟩) (by assumption) ?_
          simp only [Act.put, List.setIfInBounds_toArray, List.set_cons_zero, List.set_cons_succ]
          refine wpAnyH_take (i := 57) (oi := { dst := some 116, op := Op.binOp BinOp.eql 37 (Operand.tmp 114) (Operand.tmp 115) 37, type := 4, pos := "outright.go:87", after := #[{ on := 55, ground := Ground.data }, { on := 56, ground := Ground.data }, { on := 47, ground := Ground.guard }], guard := some (47, true) }) (v := .bool true) rfl (by kernel_rfl) (by kernel_rfl) (by kernel_rfl) (fun _ _ _ h => h) (Or.inl ⟨by rfl, fun w hSw => by go_simp⟩) (by assumption) ?_
          simp only [Act.put, List.setIfInBounds_toArray, List.set_cons_zero, List.set_cons_succ]
          refine wpAnyH_ready (rs := [50]) (by kernel_rfl) (by simp) ?_
          refine AllReadyH.cons (o := { dst := some 109, op := Op.call { callee := Callee.value (Operand.func 17), args := #[Operand.tmp 107, Operand.tmp 108], argTypes := #[37, 24] }, type := 22, pos := "outright.go:87", after := #[{ on := 48, ground := Ground.data }, { on := 49, ground := Ground.data }, { on := 47, ground := Ground.chain }, { on := 47, ground := Ground.guard }], guard := some (47, true) }) rfl (fun K hK => ?_) AllReadyH.nil
          rw [if_pos (by rfl)]
          go_simp
          refine (rna x12).mono ?_
          rintro e x13 ⟨ra13, rc13, rfl, o13, h13⟩
          have qq13 := four_below qq12 h13 F12.out
          have F13 : Aside (FOURIN g0 g1 g2 g3 x13) := F12.out.mono h13.size
          have P13 : Aside (Below w.heap.size w x13) := P12.out.trans (h13.mono P12.out.size)
          have Tx13 : Aside (Text x13 ra13 41 (3 :: (BE8 n ++ (List.range 32).map a)) ∧ Below x12.heap.size x12 x13) := ⟨Text.of_bytes (own_bytes_any o13 (INTS_bounds (hsm_rna))).1, h13⟩
          clear o13 h13
          refine hK.out _ _ (by assumption) (fun hHeld => ?_)
          clear hK K
          refine wpAnyH_ready (rs := [53]) (by kernel_rfl) (by simp) ?_
          refine AllReadyH.cons (o := { dst := some 112, op := Op.call { callee := Callee.value (Operand.func 17), args := #[Operand.tmp 110, Operand.tmp 111], argTypes := #[37, 24] }, type := 22, pos := "outright.go:87", after := #[{ on := 51, ground := Ground.data }, { on := 52, ground := Ground.data }, { on := 50, ground := Ground.chain }, { on := 47, ground := Ground.guard }], guard := some (47, true) }) rfl (fun K hK => ?_) AllReadyH.nil
          rw [if_pos (by rfl)]
          go_simp
          refine (rmc x13).mono ?_
          rintro e x14 ⟨ra14, rc14, rfl, o14, h14⟩
          have qq14 := four_below qq13 h14 F13.out
          have F14 : Aside (FOURIN g0 g1 g2 g3 x14) := F13.out.mono h14.size
          have P14 : Aside (Below w.heap.size w x14) := P13.out.trans (h14.mono P13.out.size)
          have Tx14 : Aside (Text x14 ra14 41 (3 :: (BE8 n ++ (List.range 32).map c)) ∧ Below x13.heap.size x13 x14) := ⟨Text.of_bytes (own_bytes_any o14 (INTS_bounds (hsm_rmc))).1, h14⟩
          clear o14 h14
          refine hK.out _ _ (by assumption) (fun hHeld => ?_)
          clear hK K
          refine wpAnyH_ready (rs := [54]) (by kernel_rfl) (by simp) ?_
          refine AllReadyH.cons (o := { dst := some 113, op := Op.call { callee := Callee.value (Operand.func 18), args := #[Operand.tmp 109, Operand.tmp 112], argTypes := #[22, 22] }, type := 4, pos := "outright.go:87", after := #[{ on := 50, ground := Ground.data }, { on := 53, ground := Ground.data }, { on := 53, ground := Ground.chain }, { on := 47, ground := Ground.guard }], guard := some (47, true) }) rfl (fun K hK => ?_) AllReadyH.nil
          rw [if_pos (by rfl)]
          go_simp
          refine (same_is (hR.out) (same_ok ra13 ra14 41 41 rc13 rc14 (3 :: (BE8 n ++ (List.range 32).map a)) (3 :: (BE8 n ++ (List.range 32).map c)) x14 (Tx13.out.1.below Tx14.out.2) Tx14.out.1 (by omega))).mono ?_
          rintro e x15 ⟨rfl, h15⟩
          have qq15 := four_below qq14 h15 F14.out
          have F15 : Aside (FOURIN g0 g1 g2 g3 x15) := F14.out.mono h15.size
          have P15 : Aside (Below w.heap.size w x15) := P14.out.trans (h15.mono P14.out.size)
          have Bx15 : Aside (Below x14.heap.size x14 x15) := h15
          clear h15
          refine hK.out _ _ (by assumption) (fun hHeld => ?_)
          clear hK K
          refine wpAnyH_take (i := 58) (oi := { dst := some 117, op := Op.move (Operand.tmp 116), type := 4, pos := "outright.go:87", after := #[{ on := 57, ground := Ground.data }, { on := 54, ground := Ground.chain }, { on := 47, ground := Ground.guard }], guard := some (47, true) }) (v := .bool true) rfl (by kernel_rfl) (by kernel_rfl) (by kernel_rfl) (fun _ _ _ h => h) (Or.inl ⟨by rfl, fun w hSw => by go_simp⟩) (by assumption) ?_
          simp only [Act.put, List.setIfInBounds_toArray, List.set_cons_zero, List.set_cons_succ]
          refine wpAnyH_take (i := 59) (oi := { dst := some 118, op := Op.load 24 (Operand.tmp 10), type := 24, pos := "outright.go:87", after := #[{ on := 58, ground := Ground.guard }], guard := some (58, true) }) (v := .agg (ULIST .u8 32 a).toArray) rfl (by kernel_rfl) (by kernel_rfl) (by kernel_rfl) (fun _ _ _ h => h) (yieldsIf_load_mid (by rfl) _ _ rfl _ _ rfl (ULIST .u8 32 a) _ (fun w h => h.1) Tryd.underlying24 rfl (hi a)) (by assumption) ?_
          simp only [Act.put, List.setIfInBounds_toArray, List.set_cons_zero, List.set_cons_succ]
          refine wpAnyH_take (i := 60) (oi := { dst := some 119, op := Op.load 24 (Operand.tmp 12), type := 24, pos := "outright.go:87", after := #[{ on := 58, ground := Ground.guard }], guard := some (58, true) }) (v := .agg (ULIST .u8 32 c).toArray) rfl (by kernel_rfl) (by kernel_rfl) (by kernel_rfl) (fun _ _ _ h => h) (yieldsIf_load_mid (by rfl) _ _ rfl _ _ rfl (ULIST .u8 32 c) _ (fun w h => h.2.2.1) Tryd.underlying24 rfl (hi c)) (by assumption) ?_
          simp only [Act.put, List.setIfInBounds_toArray, List.set_cons_zero, List.set_cons_succ]
          refine wpAnyH_take (i := 61) (oi := { dst := some 120, op := Op.binOp BinOp.eql 24 (Operand.tmp 118) (Operand.tmp 119) 24, type := 4, pos := "outright.go:87", after := #[{ on := 59, ground := Ground.data }, { on := 60, ground := Ground.data }, { on := 58, ground := Ground.guard }], guard := some (58, true) }) (v := .bool true) rfl (by kernel_rfl) (by kernel_rfl) (by kernel_rfl) (fun _ _ _ h => h) (Or.inl ⟨by rfl, fun w hSw => by go_simp⟩) (by assumption) ?_
          simp only [Act.put, List.setIfInBounds_toArray, List.set_cons_zero, List.set_cons_succ]
          refine wpAnyH_take (i := 62) (oi := { dst := some 121, op := Op.pick (Operand.tmp 117) (Operand.tmp 120) (Operand.const (Value.bool false)), type := 4, pos := "outright.go:87", after := #[{ on := 58, ground := Ground.data }, { on := 61, ground := Ground.data }, { on := 47, ground := Ground.guard }], guard := some (47, true) }) (v := .bool true) rfl (by kernel_rfl) (by kernel_rfl) (by kernel_rfl) (fun _ _ _ h => h) (Or.inl ⟨by rfl, fun w hSw => by go_simp⟩) (by assumption) ?_
          simp only [Act.put, List.setIfInBounds_toArray, List.set_cons_zero, List.set_cons_succ]
          refine wpAnyH_take (i := 63) (oi := { dst := some 122, op := Op.binOp BinOp.eql 4 (Operand.tmp 113) (Operand.tmp 121) 4, type := 4, pos := "outright.go:87", after := #[{ on := 54, ground := Ground.data }, { on := 62, ground := Ground.data }, { on := 47, ground := Ground.guard }], guard := some (47, true) }) (v := .bool true) rfl (by kernel_rfl) (by kernel_rfl) (by kernel_rfl) (fun _ _ _ h => h) (Or.inl ⟨by rfl, fun w hSw => by go_simp⟩) (by assumption) ?_
          simp only [Act.put, List.setIfInBounds_toArray, List.set_cons_zero, List.set_cons_succ]
          refine wpAnyH_take (i := 64) (oi := { dst := some 123, op := Op.pick (Operand.tmp 106) (Operand.tmp 122) (Operand.const (Value.bool false)), type := 4, pos := "outright.go:87", after := #[{ on := 47, ground := Ground.data }, { on := 63, ground := Ground.data }], guard := none }) (v := .bool true) rfl (by kernel_rfl) (by kernel_rfl) (by kernel_rfl) (fun _ _ _ h => h) (Or.inl ⟨by rfl, fun w hSw => by go_simp⟩) (by assumption) ?_
          simp only [Act.put, List.setIfInBounds_toArray, List.set_cons_zero, List.set_cons_succ]
          refine wpAnyH_take (i := 65) (oi := { dst := some 124, op := Op.move (Operand.tmp 123), type := 4, pos := "outright.go:87", after := #[{ on := 64, ground := Ground.data }, { on := 58, ground := Ground.chain }], guard := none }) (v := .bool true) rfl (by kernel_rfl) (by kernel_rfl) (by kernel_rfl) (fun _ _ _ h => h) (Or.inl ⟨by rfl, fun w hSw => by go_simp⟩) (by assumption) ?_
          simp only [Act.put, List.setIfInBounds_toArray, List.set_cons_zero, List.set_cons_succ]
          refine wpAnyH_ready (rs := [66]) (by kernel_rfl) (by simp) ?_
          refine AllReadyH.cons (o := { dst := some 125, op := Op.call { callee := Callee.value (Operand.func 9), args := #[], argTypes := #[] }, type := 4, pos := "outright.go:87", after := #[{ on := 65, ground := Ground.chain }, { on := 65, ground := Ground.guard }], guard := some (65, true) }) rfl (fun K hK => ?_) AllReadyH.nil
          rw [if_pos (by rfl)]
          go_simp
          refine (awake_ok x15 (H.out.2.2.2.2.2.2.2.2.2.2.below P15.out)).mono ?_
          rintro e x16 ⟨rfl, h16⟩
          have qq16 := four_below qq15 h16 F15.out
          have F16 : Aside (FOURIN g0 g1 g2 g3 x16) := F15.out.mono h16.size
          have P16 : Aside (Below w.heap.size w x16) := P15.out.trans (h16.mono P15.out.size)
          clear h16
          refine hK.out _ _ (by assumption) (fun hHeld => ?_)
          clear hK K
          refine wpAnyH_take (i := 67) (oi := { dst := some 126, op := Op.pick (Operand.tmp 124) (Operand.tmp 125) (Operand.const (Value.bool false)), type := 4, pos := "outright.go:87", after := #[{ on := 65, ground := Ground.data }, { on := 66, ground := Ground.data }], guard := none }) (v := .bool true) rfl (by kernel_rfl) (by kernel_rfl) (by kernel_rfl) (fun _ _ _ h => h) (Or.inl ⟨by rfl, fun w hSw => by go_simp⟩) (by assumption) ?_
          simp only [Act.put, List.setIfInBounds_toArray, List.set_cons_zero, List.set_cons_succ]
          refine wpAnyH_take (i := 68) (oi := { dst := some 16, op := Op.assign (Operand.tmp 126), type := 4, pos := "outright.go:87", after := #[{ on := 67, ground := Ground.data }, { on := 66, ground := Ground.chain }, { on := 0, ground := Ground.phase }, { on := 1, ground := Ground.phase }, { on := 2, ground := Ground.phase }, { on := 3, ground := Ground.phase }, { on := 4, ground := Ground.phase }, { on := 5, ground := Ground.phase }, { on := 6, ground := Ground.phase }, { on := 7, ground := Ground.phase }, { on := 8, ground := Ground.phase }, { on := 9, ground := Ground.phase }, { on := 10, ground := Ground.phase }, { on := 11, ground := Ground.phase }, { on := 12, ground := Ground.phase }, { on := 13, ground := Ground.phase }, { on := 14, ground := Ground.phase }, { on := 15, ground := Ground.phase }, { on := 16, ground := Ground.phase }, { on := 17, ground := Ground.phase }, { on := 18, ground := Ground.phase }, { on := 19, ground := Ground.phase }, { on := 20, ground := Ground.phase }, { on := 21, ground := Ground.phase }, { on := 22, ground := Ground.phase }, { on := 23, ground := Ground.phase }, { on := 24, ground := Ground.phase }, { on := 25, ground := Ground.phase }, { on := 26, ground := Ground.phase }, { on := 27, ground := Ground.phase }, { on := 28, ground := Ground.phase }, { on := 29, ground := Ground.phase }, { on := 30, ground := Ground.phase }, { on := 31, ground := Ground.phase }, { on := 32, ground := Ground.phase }, { on := 33, ground := Ground.phase }, { on := 34, ground := Ground.phase }, { on := 35, ground := Ground.phase }, { on := 36, ground := Ground.phase }, { on := 37, ground := Ground.phase }, { on := 38, ground := Ground.phase }, { on := 39, ground := Ground.phase }, { on := 40, ground := Ground.phase }, { on := 41, ground := Ground.phase }, { on := 42, ground := Ground.phase }, { on := 43, ground := Ground.phase }, { on := 44, ground := Ground.phase }, { on := 45, ground := Ground.phase }, { on := 46, ground := Ground.phase }, { on := 47, ground := Ground.phase }, { on := 48, ground := Ground.phase }, { on := 49, ground := Ground.phase }, { on := 50, ground := Ground.phase }, { on := 51, ground := Ground.phase }, { on := 52, ground := Ground.phase }, { on := 53, ground := Ground.phase }, { on := 54, ground := Ground.phase }, { on := 55, ground := Ground.phase }, { on := 56, ground := Ground.phase }, { on := 57, ground := Ground.phase }, { on := 58, ground := Ground.phase }, { on := 59, ground := Ground.phase }, { on := 60, ground := Ground.phase }, { on := 61, ground := Ground.phase }, { on := 62, ground := Ground.phase }, { on := 63, ground := Ground.phase }, { on := 64, ground := Ground.phase }, { on := 65, ground := Ground.phase }, { on := 66, ground := Ground.phase }, { on := 67, ground := Ground.phase }], guard := none }) (v := .bool true) rfl (by kernel_rfl) (by kernel_rfl) (by kernel_rfl) (fun _ _ _ h => h) (Or.inl ⟨by rfl, fun w hSw => by go_simp⟩) (by assumption) ?_
          simp only [Act.put, List.setIfInBounds_toArray, List.set_cons_zero, List.set_cons_succ]
          refine wpAnyH_done (by kernel_rfl) ?_ _
          have HE := P16
          go_wp2
          go_ret
          first | exact ⟨rfl, HE.out⟩ | exact ⟨rfl, by rw [← hg0]; exact HE.out⟩
        | false =>
          have hnm2 : n = m := by omega
          subst hnm2
          clear hnm
          have hN : Aside (∀ o : Nat, decide (o :: ((List.range 32).map a ++ (List.range 32).map b) = o :: ((List.range 32).map c ++ (List.range 32).map d)) = false) := fun o => (hN.out o).trans (by simp)
          have hR : Aside (decide (3 :: (BE8 n ++ (List.range 32).map a) = 3 :: (BE8 n ++ (List.range 32).map c)) = false) := hR.out.trans (by simp)
          refine wp_region_held_drew (S := fun W : World => W.rangeAt g0 0 (ULIST .u8 32 a) ∧ W.rangeAt g1 0 (ULIST .u8 32 b) ∧ W.rangeAt g2 0 (ULIST .u8 32 c) ∧ W.rangeAt g3 0 (ULIST .u8 32 d)) (by kernel_rfl) hS (fun hHeld => ?_)
          change wpAnyH _ _ _ _ _ 69 (Array.replicate 69 false) _ (World.drew _)
          refine wpAnyH_take (i := 0) (oi := { dst := some 59, op := Op.move (Operand.tmp 0), type := 22, pos := "outright.go:87", after := #[], guard := none }) (v := .slice u p cp) rfl (by kernel_rfl) (by kernel_rfl) (by kernel_rfl) (fun _ _ _ h => h) (Or.inl ⟨by rfl, fun w hSw => by go_simp⟩) (by assumption) ?_
          simp only [Act.put, List.setIfInBounds_toArray, List.set_cons_zero, List.set_cons_succ]
          refine wpAnyH_take (i := 3) (oi := { dst := some 62, op := Op.move (Operand.tmp 1), type := 22, pos := "outright.go:87", after := #[], guard := none }) (v := .slice v q cq) rfl (by kernel_rfl) (by kernel_rfl) (by kernel_rfl) (fun _ _ _ h => h) (Or.inl ⟨by rfl, fun w hSw => by go_simp⟩) (by assumption) ?_
          simp only [Act.put, List.setIfInBounds_toArray, List.set_cons_zero, List.set_cons_succ]
          refine wpAnyH_take (i := 7) (oi := { dst := some 66, op := Op.move (Operand.tmp 0), type := 22, pos := "outright.go:87", after := #[], guard := none }) (v := .slice u p cp) rfl (by kernel_rfl) (by kernel_rfl) (by kernel_rfl) (fun _ _ _ h => h) (Or.inl ⟨by rfl, fun w hSw => by go_simp⟩) (by assumption) ?_
          simp only [Act.put, List.setIfInBounds_toArray, List.set_cons_zero, List.set_cons_succ]
          refine wpAnyH_take (i := 8) (oi := { dst := some 67, op := Op.move (Operand.tmp 1), type := 22, pos := "outright.go:87", after := #[], guard := none }) (v := .slice v q cq) rfl (by kernel_rfl) (by kernel_rfl) (by kernel_rfl) (fun _ _ _ h => h) (Or.inl ⟨by rfl, fun w hSw => by go_simp⟩) (by assumption) ?_
          simp only [Act.put, List.setIfInBounds_toArray, List.set_cons_zero, List.set_cons_succ]
          refine wpAnyH_ready (rs := [1]) (by kernel_rfl) (by simp) ?_
          refine AllReadyH.cons (o := { dst := some 60, op := Op.call { callee := Callee.value (Operand.func 7), args := #[Operand.tmp 59], argTypes := #[22] }, type := 22, pos := "outright.go:87", after := #[{ on := 0, ground := Ground.data }], guard := none }) rfl (fun K hK => ?_) AllReadyH.nil
          rw [if_pos (by rfl)]
          go_simp
          refine (row_ok u p cp lp wr.drew (H.out.1.below P0.out.drew) H.out.2.1 (by omega)).mono ?_
          rintro e x1 ⟨ra1, rc1, rfl, t1, l1, z1, h1⟩
          have qq1 := four_below hS h1 F0.out
          have F1 : Aside (FOURIN g0 g1 g2 g3 x1) := F0.out.mono h1.size
          have P1 : Aside (Below w.heap.size w x1) := P0.out.drew.trans (h1.mono P0.out.size)
          have R1 : Aside (Text x1 ra1 p lp ∧ p ≤ rc1 ∧ (∀ x, ra1 = some x → x.block < x1.heap.size) ∧ (ra1 = none → rc1 = 0)) := ⟨t1.front, by omega, fun x e => (z1 x e).2, fun e => (by have h := t1.2.1 (by omega); rw [e] at h; obtain ⟨_, _, h, _⟩ := h; cases h)⟩
          clear t1 l1 z1 h1
          refine hK.out _ _ (by assumption) (fun hHeld => ?_)
          clear hK K
          refine wpAnyH_ready (rs := [2]) (by kernel_rfl) (by simp) ?_
          refine AllReadyH.cons (o := { dst := some 61, op := Op.call { callee := Callee.value (Operand.func 14), args := #[Operand.tmp 60], argTypes := #[22] }, type := 22, pos := "outright.go:87", after := #[{ on := 1, ground := Ground.data }, { on := 1, ground := Ground.chain }], guard := none }) rfl (fun K hK => ?_) AllReadyH.nil
          rw [if_pos (by rfl)]
          go_simp
          refine (leaftext_ok ra1 p rc1 lp x1 R1.out.1 R1.out.2.2.2 (by omega) R1.out.2.1 R1.out.2.2.1).mono ?_
          rintro e x2 ⟨ra2, rc2, rfl, o2, h2⟩
          have qq2 := four_below qq1 h2 F1.out
          have F2 : Aside (FOURIN g0 g1 g2 g3 x2) := F1.out.mono h2.size
          have P2 : Aside (Below w.heap.size w x2) := P1.out.trans (h2.mono P1.out.size)
          have Tx2 : Aside (Text x2 ra2 (p + 1) (0 :: lp) ∧ Below x1.heap.size x1 x2) := ⟨Text.of_bytes (own_bytes_any o2 (INTS_bounds (small_cons (by decide) H.out.1.2.2))).1, h2⟩
          clear o2 h2
          refine hK.out _ _ (by assumption) (fun hHeld => ?_)
          clear hK K
          refine wpAnyH_ready (rs := [4]) (by kernel_rfl) (by simp) ?_
          refine AllReadyH.cons (o := { dst := some 63, op := Op.call { callee := Callee.value (Operand.func 7), args := #[Operand.tmp 62], argTypes := #[22] }, type := 22, pos := "outright.go:87", after := #[{ on := 3, ground := Ground.data }, { on := 2, ground := Ground.chain }], guard := none }) rfl (fun K hK => ?_) AllReadyH.nil
          rw [if_pos (by rfl)]
          go_simp
          refine (row_ok v q cq lq x2 (H.out.2.2.2.2.2.2.2.2.1.below P2.out) H.out.2.2.2.2.2.2.2.2.2.1 (by omega)).mono ?_
          rintro e x3 ⟨ra3, rc3, rfl, t3, l3, z3, h3⟩
          have qq3 := four_below qq2 h3 F2.out
          have F3 : Aside (FOURIN g0 g1 g2 g3 x3) := F2.out.mono h3.size
          have P3 : Aside (Below w.heap.size w x3) := P2.out.trans (h3.mono P2.out.size)
          have R3 : Aside (Text x3 ra3 q lq ∧ q ≤ rc3 ∧ (∀ x, ra3 = some x → x.block < x3.heap.size) ∧ (ra3 = none → rc3 = 0)) := ⟨t3.front, by omega, fun x e => (z3 x e).2, fun e => (by have h := t3.2.1 (by omega); rw [e] at h; obtain ⟨_, _, h, _⟩ := h; cases h)⟩
          have BR3 : Aside (Below x2.heap.size x2 x3) := h3
          clear t3 l3 z3 h3
          refine hK.out _ _ (by assumption) (fun hHeld => ?_)
          clear hK K
          refine wpAnyH_ready (rs := [5]) (by kernel_rfl) (by simp) ?_
          refine AllReadyH.cons (o := { dst := some 64, op := Op.call { callee := Callee.value (Operand.func 14), args := #[Operand.tmp 63], argTypes := #[22] }, type := 22, pos := "outright.go:87", after := #[{ on := 4, ground := Ground.data }, { on := 4, ground := Ground.chain }], guard := none }) rfl (fun K hK => ?_) AllReadyH.nil
          rw [if_pos (by rfl)]
          go_simp
          refine (leaftext_ok ra3 q rc3 lq x3 R3.out.1 R3.out.2.2.2 (by omega) R3.out.2.1 R3.out.2.2.1).mono ?_
          rintro e x4 ⟨ra4, rc4, rfl, o4, h4⟩
          have qq4 := four_below qq3 h4 F3.out
          have F4 : Aside (FOURIN g0 g1 g2 g3 x4) := F3.out.mono h4.size
          have P4 : Aside (Below w.heap.size w x4) := P3.out.trans (h4.mono P3.out.size)
          have Tx4 : Aside (Text x4 ra4 (q + 1) (0 :: lq) ∧ Below x3.heap.size x3 x4) := ⟨Text.of_bytes (own_bytes_any o4 (INTS_bounds (small_cons (by decide) H.out.2.2.2.2.2.2.2.2.1.2.2))).1, h4⟩
          clear o4 h4
          refine hK.out _ _ (by assumption) (fun hHeld => ?_)
          clear hK K
          refine wpAnyH_ready (rs := [6]) (by kernel_rfl) (by simp) ?_
          refine AllReadyH.cons (o := { dst := some 65, op := Op.call { callee := Callee.value (Operand.func 18), args := #[Operand.tmp 61, Operand.tmp 64], argTypes := #[22, 22] }, type := 4, pos := "outright.go:87", after := #[{ on := 2, ground := Ground.data }, { on := 5, ground := Ground.data }, { on := 5, ground := Ground.chain }], guard := none }) rfl (fun K hK => ?_) AllReadyH.nil
          rw [if_pos (by rfl)]
          go_simp
          refine (same_is ((leaf_same lp lq).trans hX.out) (same_ok ra2 ra4 (p + 1) (q + 1) rc2 rc4 (0 :: lp) (0 :: lq) x4 ((Tx2.out.1.below BR3.out).below Tx4.out.2) Tx4.out.1 (by omega))).mono ?_
          rintro e x5 ⟨rfl, h5⟩
          have qq5 := four_below qq4 h5 F4.out
          have F5 : Aside (FOURIN g0 g1 g2 g3 x5) := F4.out.mono h5.size
          have P5 : Aside (Below w.heap.size w x5) := P4.out.trans (h5.mono P4.out.size)
          have Bx5 : Aside (Below x4.heap.size x4 x5) := h5
          clear h5
          refine hK.out _ _ (by assumption) (fun hHeld => ?_)
          clear hK K
          refine wpAnyH_ready (rs := [9]) (by kernel_rfl) (by simp) ?_
          refine AllReadyH.cons (o := { dst := some 68, op := Op.call { callee := Callee.value (Operand.func 18), args := #[Operand.tmp 66, Operand.tmp 67], argTypes := #[22, 22] }, type := 4, pos := "outright.go:87", after := #[{ on := 7, ground := Ground.data }, { on := 8, ground := Ground.data }, { on := 6, ground := Ground.chain }], guard := none }) rfl (fun K hK => ?_) AllReadyH.nil
          rw [if_pos (by rfl)]
          go_simp
          refine (same_is hX.out (same_ok u v p q cp cq lp lq x5 (H.out.1.below P5.out) (H.out.2.2.2.2.2.2.2.2.1.below P5.out) (by omega))).mono ?_
          rintro e x6 ⟨rfl, h6⟩
          have qq6 := four_below qq5 h6 F5.out
          have F6 : Aside (FOURIN g0 g1 g2 g3 x6) := F5.out.mono h6.size
          have P6 : Aside (Below w.heap.size w x6) := P5.out.trans (h6.mono P5.out.size)
          clear h6
          refine hK.out _ _ (by assumption) (fun hHeld => ?_)
          clear hK K
          refine wpAnyH_take (i := 10) (oi := { dst := some 69, op := Op.binOp BinOp.eql 4 (Operand.tmp 65) (Operand.tmp 68) 4, type := 4, pos := "outright.go:87", after := #[{ on := 6, ground := Ground.data }, { on := 9, ground := Ground.data }], guard := none }) (v := .bool true) rfl (by kernel_rfl) (by kernel_rfl) (by kernel_rfl) (fun _ _ _ h => h) (Or.inl ⟨by rfl, fun w hSw => by go_simp⟩) (by assumption) ?_
          simp only [Act.put, List.setIfInBounds_toArray, List.set_cons_zero, List.set_cons_succ]
          refine wpAnyH_take (i := 11) (oi := { dst := some 70, op := Op.move (Operand.tmp 69), type := 4, pos := "outright.go:87", after := #[{ on := 10, ground := Ground.data }, { on := 9, ground := Ground.chain }], guard := none }) (v := .bool true) rfl (by kernel_rfl) (by kernel_rfl) (by kernel_rfl) (fun _ _ _ h => h) (Or.inl ⟨by rfl, fun w hSw => by go_simp⟩) (by assumption) ?_
          simp only [Act.put, List.setIfInBounds_toArray, List.set_cons_zero, List.set_cons_succ]
          refine wpAnyH_take (i := 12) (oi := { dst := some 71, op := Op.load 24 (Operand.tmp 10), type := 24, pos := "outright.go:87", after := #[{ on := 11, ground := Ground.guard }], guard := some (11, true) }) (v := .agg (ULIST .u8 32 a).toArray) rfl (by kernel_rfl) (by kernel_rfl) (by kernel_rfl) (fun _ _ _ h => h) (yieldsIf_load_mid (by rfl) _ _ rfl _ _ rfl (ULIST .u8 32 a) _ (fun w h => h.1) Tryd.underlying24 rfl (hi a)) (by assumption) ?_
          simp only [Act.put, List.setIfInBounds_toArray, List.set_cons_zero, List.set_cons_succ]
          refine wpAnyH_take (i := 13) (oi := { dst := some 72, op := Op.load 24 (Operand.tmp 11), type := 24, pos := "outright.go:87", after := #[{ on := 11, ground := Ground.guard }], guard := some (11, true) }) (v := .agg (ULIST .u8 32 b).toArray) rfl (by kernel_rfl) (by kernel_rfl) (by kernel_rfl) (fun _ _ _ h => h) (yieldsIf_load_mid (by rfl) _ _ rfl _ _ rfl (ULIST .u8 32 b) _ (fun w h => h.2.1) Tryd.underlying24 rfl (hi b)) (by assumption) ?_
          simp only [Act.put, List.setIfInBounds_toArray, List.set_cons_zero, List.set_cons_succ]
          refine wpAnyH_take (i := 15) (oi := { dst := some 74, op := Op.load 24 (Operand.tmp 12), type := 24, pos := "outright.go:87", after := #[{ on := 11, ground := Ground.guard }], guard := some (11, true) }) (v := .agg (ULIST .u8 32 c).toArray) rfl (by kernel_rfl) (by kernel_rfl) (by kernel_rfl) (fun _ _ _ h => h) (yieldsIf_load_mid (by rfl) _ _ rfl _ _ rfl (ULIST .u8 32 c) _ (fun w h => h.2.2.1) Tryd.underlying24 rfl (hi c)) (by assumption) ?_
          simp only [Act.put, List.setIfInBounds_toArray, List.set_cons_zero, List.set_cons_succ]
          refine wpAnyH_take (i := 16) (oi := { dst := some 75, op := Op.load 24 (Operand.tmp 13), type := 24, pos := "outright.go:87", after := #[{ on := 11, ground := Ground.guard }], guard := some (11, true) }) (v := .agg (ULIST .u8 32 d).toArray) rfl (by kernel_rfl) (by kernel_rfl) (by kernel_rfl) (fun _ _ _ h => h) (yieldsIf_load_mid (by rfl) _ _ rfl _ _ rfl (ULIST .u8 32 d) _ (fun w h => h.2.2.2) Tryd.underlying24 rfl (hi d)) (by assumption) ?_
          simp only [Act.put, List.setIfInBounds_toArray, List.set_cons_zero, List.set_cons_succ]
          refine wpAnyH_take (i := 19) (oi := { dst := some 78, op := Op.load 24 (Operand.tmp 10), type := 24, pos := "outright.go:87", after := #[{ on := 11, ground := Ground.guard }], guard := some (11, true) }) (v := .agg (ULIST .u8 32 a).toArray) rfl (by kernel_rfl) (by kernel_rfl) (by kernel_rfl) (fun _ _ _ h => h) (yieldsIf_load_mid (by rfl) _ _ rfl _ _ rfl (ULIST .u8 32 a) _ (fun w h => h.1) Tryd.underlying24 rfl (hi a)) (by assumption) ?_
          simp only [Act.put, List.setIfInBounds_toArray, List.set_cons_zero, List.set_cons_succ]
          refine wpAnyH_take (i := 20) (oi := { dst := some 79, op := Op.load 24 (Operand.tmp 12), type := 24, pos := "outright.go:87", after := #[{ on := 11, ground := Ground.guard }], guard := some (11, true) }) (v := .agg (ULIST .u8 32 c).toArray) rfl (by kernel_rfl) (by kernel_rfl) (by kernel_rfl) (fun _ _ _ h => h) (yieldsIf_load_mid (by rfl) _ _ rfl _ _ rfl (ULIST .u8 32 c) _ (fun w h => h.2.2.1) Tryd.underlying24 rfl (hi c)) (by assumption) ?_
          simp only [Act.put, List.setIfInBounds_toArray, List.set_cons_zero, List.set_cons_succ]
          refine wpAnyH_take (i := 21) (oi := { dst := some 80, op := Op.binOp BinOp.eql 24 (Operand.tmp 78) (Operand.tmp 79) 24, type := 4, pos := "outright.go:87", after := #[{ on := 19, ground := Ground.data }, { on := 20, ground := Ground.data }, { on := 11, ground := Ground.guard }], guard := some (11, true) }) (v := .bool false) rfl (by kernel_rfl) (by kernel_rfl) (by kernel_rfl) (fun _ _ _ h => h) (Or.inl ⟨by rfl, fun w hSw => by go_simp⟩) (by assumption) ?_
          simp only [Act.put, List.setIfInBounds_toArray, List.set_cons_zero, List.set_cons_succ]
          refine wpAnyH_ready (rs := [14]) (by kernel_rfl) (by simp) ?_
          refine AllReadyH.cons (o := { dst := some 73, op := Op.call { callee := Callee.value (Operand.func 15), args := #[Operand.tmp 71, Operand.tmp 72], argTypes := #[24, 24] }, type := 22, pos := "outright.go:87", after := #[{ on := 12, ground := Ground.data }, { on := 13, ground := Ground.data }, { on := 11, ground := Ground.chain }, { on := 11, ground := Ground.guard }], guard := some (11, true) }) rfl (fun K hK => ?_) AllReadyH.nil
          rw [if_pos (by rfl)]
          go_simp
          refine (nab x6).mono ?_
          rintro e x7 ⟨ra7, rc7, rfl, o7, h7⟩
          have qq7 := four_below qq6 h7 F6.out
          have F7 : Aside (FOURIN g0 g1 g2 g3 x7) := F6.out.mono h7.size
          have P7 : Aside (Below w.heap.size w x7) := P6.out.trans (h7.mono P6.out.size)
          have Tx7 : Aside (Text x7 ra7 65 (1 :: ((List.range 32).map a ++ (List.range 32).map b)) ∧ Below x6.heap.size x6 x7) := ⟨Text.of_bytes (own_bytes_any o7 (INTS_bounds (hsm_nab))).1, h7⟩
          clear o7 h7
          refine hK.out _ _ (by assumption) (fun hHeld => ?_)
          clear hK K
          refine wpAnyH_ready (rs := [17]) (by kernel_rfl) (by simp) ?_
          refine AllReadyH.cons (o := { dst := some 76, op := Op.call { callee := Callee.value (Operand.func 15), args := #[Operand.tmp 74, Operand.tmp 75], argTypes := #[24, 24] }, type := 22, pos := "outright.go:87", after := #[{ on := 15, ground := Ground.data }, { on := 16, ground := Ground.data }, { on := 14, ground := Ground.chain }, { on := 11, ground := Ground.guard }], guard := some (11, true) }) rfl (fun K hK => ?_) AllReadyH.nil
          rw [if_pos (by rfl)]
          go_simp
          refine (ncd x7).mono ?_
          rintro e x8 ⟨ra8, rc8, rfl, o8, h8⟩
          have qq8 := four_below qq7 h8 F7.out
          have F8 : Aside (FOURIN g0 g1 g2 g3 x8) := F7.out.mono h8.size
          have P8 : Aside (Below w.heap.size w x8) := P7.out.trans (h8.mono P7.out.size)
          have Tx8 : Aside (Text x8 ra8 65 (1 :: ((List.range 32).map c ++ (List.range 32).map d)) ∧ Below x7.heap.size x7 x8) := ⟨Text.of_bytes (own_bytes_any o8 (INTS_bounds (hsm_ncd))).1, h8⟩
          clear o8 h8
          refine hK.out _ _ (by assumption) (fun hHeld => ?_)
          clear hK K
          refine wpAnyH_ready (rs := [18]) (by kernel_rfl) (by simp) ?_
          refine AllReadyH.cons (o := { dst := some 77, op := Op.call { callee := Callee.value (Operand.func 18), args := #[Operand.tmp 73, Operand.tmp 76], argTypes := #[22, 22] }, type := 4, pos := "outright.go:87", after := #[{ on := 14, ground := Ground.data }, { on := 17, ground := Ground.data }, { on := 17, ground := Ground.chain }, { on := 11, ground := Ground.guard }], guard := some (11, true) }) rfl (fun K hK => ?_) AllReadyH.nil
          rw [if_pos (by rfl)]
          go_simp
          refine (same_is (hN.out 1) (same_ok ra7 ra8 65 65 rc7 rc8 (1 :: ((List.range 32).map a ++ (List.range 32).map b)) (1 :: ((List.range 32).map c ++ (List.range 32).map d)) x8 (Tx7.out.1.below Tx8.out.2) Tx8.out.1 (by omega))).mono ?_
          rintro e x9 ⟨rfl, h9⟩
          have qq9 := four_below qq8 h9 F8.out
          have F9 : Aside (FOURIN g0 g1 g2 g3 x9) := F8.out.mono h9.size
          have P9 : Aside (Below w.heap.size w x9) := P8.out.trans (h9.mono P8.out.size)
          have Bx9 : Aside (Below x8.heap.size x8 x9) := h9
          clear h9
          refine hK.out _ _ (by assumption) (fun hHeld => ?_)
          clear hK K
          refine wpAnyH_take (i := 22) (oi := { dst := some 81, op := Op.move (Operand.tmp 80), type := 4, pos := "outright.go:87", after := #[{ on := 21, ground := Ground.data }, { on := 18, ground := Ground.chain }, { on := 11, ground := Ground.guard }], guard := some (11, true) }) (v := .bool false) rfl (by kernel_rfl) (by kernel_rfl) (by kernel_rfl) (fun _ _ _ h => h) (Or.inl ⟨by rfl, fun w hSw => by go_simp⟩) (by assumption) ?_
          simp only [Act.put, List.setIfInBounds_toArray, List.set_cons_zero, List.set_cons_succ]
          refine wpAnyH_take (i := 23) (oi := { dst := some 82, op := Op.load 24 (Operand.tmp 11), type := 24, pos := "outright.go:87", after := #[{ on := 22, ground := Ground.guard }], guard := some (22, true) }) (v := undef) rfl (by kernel_rfl) (by kernel_rfl) (by kernel_rfl) (fun _ _ _ h => h) (Or.inr ⟨by rfl, rfl⟩) (by assumption) ?_
          simp only [Act.put, List.setIfInBounds_toArray, List.set_cons_zero, List.set_cons_succ]
          refine wpAnyH_take (i := 24) (oi := { dst := some 83, op := Op.load 24 (Operand.tmp 13), type := 24, pos := "outright.go:87", after := #[{ on := 22, ground := Ground.guard }], guard := some (22, true) }) (v := undef) rfl (by kernel_rfl) (by kernel_rfl) (by kernel_rfl) (fun _ _ _ h => h) (Or.inr ⟨by rfl, rfl⟩) (by assumption) ?_
          simp only [Act.put, List.setIfInBounds_toArray, List.set_cons_zero, List.set_cons_succ]
          refine wpAnyH_take (i := 25) (oi := { dst := some 84, op := Op.binOp BinOp.eql 24 (Operand.tmp 82) (Operand.tmp 83) 24, type := 4, pos := "outright.go:87", after := #[{ on := 23, ground := Ground.data }, { on := 24, ground := Ground.data }, { on := 22, ground := Ground.guard }], guard := some (22, true) }) (v := undef) rfl (by kernel_rfl) (by kernel_rfl) (by kernel_rfl) (fun _ _ _ h => h) (Or.inr ⟨by rfl, rfl⟩) (by assumption) ?_
          simp only [Act.put, List.setIfInBounds_toArray, List.set_cons_zero, List.set_cons_succ]
          refine wpAnyH_take (i := 26) (oi := { dst := some 85, op := Op.pick (Operand.tmp 81) (Operand.tmp 84) (Operand.const (Value.bool false)), type := 4, pos := "outright.go:87", after := #[{ on := 22, ground := Ground.data }, { on := 25, ground := Ground.data }, { on := 11, ground := Ground.guard }], guard := some (11, true) }) (v := .bool false) rfl (by kernel_rfl) (by kernel_rfl) (by kernel_rfl) (fun _ _ _ h => h) (Or.inl ⟨by rfl, fun w hSw => by go_simp⟩) (by assumption) ?_
          simp only [Act.put, List.setIfInBounds_toArray, List.set_cons_zero, List.set_cons_succ]
          refine wpAnyH_take (i := 27) (oi := { dst := some 86, op := Op.binOp BinOp.eql 4 (Operand.tmp 77) (Operand.tmp 85) 4, type := 4, pos := "outright.go:87", after := #[{ on := 18, ground := Ground.data }, { on := 26, ground := Ground.data }, { on := 11, ground := Ground.guard }], guard := some (11, true) }) (v := .bool true) rfl (by kernel_rfl) (by kernel_rfl) (by kernel_rfl) (fun _ _ _ h => h) (Or.inl ⟨by rfl, fun w hSw => by go_simp⟩) (by assumption) ?_
          simp only [Act.put, List.setIfInBounds_toArray, List.set_cons_zero, List.set_cons_succ]
          refine wpAnyH_take (i := 28) (oi := { dst := some 87, op := Op.pick (Operand.tmp 70) (Operand.tmp 86) (Operand.const (Value.bool false)), type := 4, pos := "outright.go:87", after := #[{ on := 11, ground := Ground.data }, { on := 27, ground := Ground.data }], guard := none }) (v := .bool true) rfl (by kernel_rfl) (by kernel_rfl) (by kernel_rfl) (fun _ _ _ h => h) (Or.inl ⟨by rfl, fun w hSw => by go_simp⟩) (by assumption) ?_
          simp only [Act.put, List.setIfInBounds_toArray, List.set_cons_zero, List.set_cons_succ]
          refine wpAnyH_take (i := 29) (oi := { dst := some 88, op := Op.move (Operand.tmp 87), type := 4, pos := "outright.go:87", after := #[{ on := 28, ground := Ground.data }, { on := 22, ground := Ground.chain }], guard := none }) (v := .bool true) rfl (by kernel_rfl) (by kernel_rfl) (by kernel_rfl) (fun _ _ _ h => h) (Or.inl ⟨by rfl, fun w hSw => by go_simp⟩) (by assumption) ?_
          simp only [Act.put, List.setIfInBounds_toArray, List.set_cons_zero, List.set_cons_succ]
          refine wpAnyH_take (i := 30) (oi := { dst := some 89, op := Op.load 24 (Operand.tmp 10), type := 24, pos := "outright.go:87", after := #[{ on := 29, ground := Ground.guard }], guard := some (29, true) }) (v := .agg (ULIST .u8 32 a).toArray) rfl (by kernel_rfl) (by kernel_rfl) (by kernel_rfl) (fun _ _ _ h => h) (yieldsIf_load_mid (by rfl) _ _ rfl _ _ rfl (ULIST .u8 32 a) _ (fun w h => h.1) Tryd.underlying24 rfl (hi a)) (by assumption) ?_
          simp only [Act.put, List.setIfInBounds_toArray, List.set_cons_zero, List.set_cons_succ]
          refine wpAnyH_take (i := 31) (oi := { dst := some 90, op := Op.load 24 (Operand.tmp 11), type := 24, pos := "outright.go:87", after := #[{ on := 29, ground := Ground.guard }], guard := some (29, true) }) (v := .agg (ULIST .u8 32 b).toArray) rfl (by kernel_rfl) (by kernel_rfl) (by kernel_rfl) (fun _ _ _ h => h) (yieldsIf_load_mid (by rfl) _ _ rfl _ _ rfl (ULIST .u8 32 b) _ (fun w h => h.2.1) Tryd.underlying24 rfl (hi b)) (by assumption) ?_
          simp only [Act.put, List.setIfInBounds_toArray, List.set_cons_zero, List.set_cons_succ]
          refine wpAnyH_take (i := 33) (oi := { dst := some 92, op := Op.load 24 (Operand.tmp 12), type := 24, pos := "outright.go:87", after := #[{ on := 29, ground := Ground.guard }], guard := some (29, true) }) (v := .agg (ULIST .u8 32 c).toArray) rfl (by kernel_rfl) (by kernel_rfl) (by kernel_rfl) (fun _ _ _ h => h) (yieldsIf_load_mid (by rfl) _ _ rfl _ _ rfl (ULIST .u8 32 c) _ (fun w h => h.2.2.1) Tryd.underlying24 rfl (hi c)) (by assumption) ?_
          simp only [Act.put, List.setIfInBounds_toArray, List.set_cons_zero, List.set_cons_succ]
          refine wpAnyH_take (i := 34) (oi := { dst := some 93, op := Op.load 24 (Operand.tmp 13), type := 24, pos := "outright.go:87", after := #[{ on := 29, ground := Ground.guard }], guard := some (29, true) }) (v := .agg (ULIST .u8 32 d).toArray) rfl (by kernel_rfl) (by kernel_rfl) (by kernel_rfl) (fun _ _ _ h => h) (yieldsIf_load_mid (by rfl) _ _ rfl _ _ rfl (ULIST .u8 32 d) _ (fun w h => h.2.2.2) Tryd.underlying24 rfl (hi d)) (by assumption) ?_
          simp only [Act.put, List.setIfInBounds_toArray, List.set_cons_zero, List.set_cons_succ]
          refine wpAnyH_take (i := 37) (oi := { dst := some 96, op := Op.load 24 (Operand.tmp 10), type := 24, pos := "outright.go:87", after := #[{ on := 29, ground := Ground.guard }], guard := some (29, true) }) (v := .agg (ULIST .u8 32 a).toArray) rfl (by kernel_rfl) (by kernel_rfl) (by kernel_rfl) (fun _ _ _ h => h) (yieldsIf_load_mid (by rfl) _ _ rfl _ _ rfl (ULIST .u8 32 a) _ (fun w h => h.1) Tryd.underlying24 rfl (hi a)) (by assumption) ?_
          simp only [Act.put, List.setIfInBounds_toArray, List.set_cons_zero, List.set_cons_succ]
          refine wpAnyH_take (i := 38) (oi := { dst := some 97, op := Op.load 24 (Operand.tmp 12), type := 24, pos := "outright.go:87", after := #[{ on := 29, ground := Ground.guard }], guard := some (29, true) }) (v := .agg (ULIST .u8 32 c).toArray) rfl (by kernel_rfl) (by kernel_rfl) (by kernel_rfl) (fun _ _ _ h => h) (yieldsIf_load_mid (by rfl) _ _ rfl _ _ rfl (ULIST .u8 32 c) _ (fun w h => h.2.2.1) Tryd.underlying24 rfl (hi c)) (by assumption) ?_
          simp only [Act.put, List.setIfInBounds_toArray, List.set_cons_zero, List.set_cons_succ]
          refine wpAnyH_take (i := 39) (oi := { dst := some 98, op := Op.binOp BinOp.eql 24 (Operand.tmp 96) (Operand.tmp 97) 24, type := 4, pos := "outright.go:87", after := #[{ on := 37, ground := Ground.data }, { on := 38, ground := Ground.data }, { on := 29, ground := Ground.guard }], guard := some (29, true) }) (v := .bool false) rfl (by kernel_rfl) (by kernel_rfl) (by kernel_rfl) (fun _ _ _ h => h) (Or.inl ⟨by rfl, fun w hSw => by go_simp⟩) (by assumption) ?_
          simp only [Act.put, List.setIfInBounds_toArray, List.set_cons_zero, List.set_cons_succ]
          refine wpAnyH_ready (rs := [32]) (by kernel_rfl) (by simp) ?_
          refine AllReadyH.cons (o := { dst := some 91, op := Op.call { callee := Callee.value (Operand.func 16), args := #[Operand.tmp 89, Operand.tmp 90], argTypes := #[24, 24] }, type := 22, pos := "outright.go:87", after := #[{ on := 30, ground := Ground.data }, { on := 31, ground := Ground.data }, { on := 29, ground := Ground.chain }, { on := 29, ground := Ground.guard }], guard := some (29, true) }) rfl (fun K hK => ?_) AllReadyH.nil
          rw [if_pos (by rfl)]
          go_simp
          refine (fab x9).mono ?_
          rintro e x10 ⟨ra10, rc10, rfl, o10, h10⟩
          have qq10 := four_below qq9 h10 F9.out
          have F10 : Aside (FOURIN g0 g1 g2 g3 x10) := F9.out.mono h10.size
          have P10 : Aside (Below w.heap.size w x10) := P9.out.trans (h10.mono P9.out.size)
          have Tx10 : Aside (Text x10 ra10 65 (2 :: ((List.range 32).map a ++ (List.range 32).map b)) ∧ Below x9.heap.size x9 x10) := ⟨Text.of_bytes (own_bytes_any o10 (INTS_bounds (hsm_fab))).1, h10⟩
          clear o10 h10
          refine hK.out _ _ (by assumption) (fun hHeld => ?_)
          clear hK K
          refine wpAnyH_ready (rs := [35]) (by kernel_rfl) (by simp) ?_
          refine AllReadyH.cons (o := { dst := some 94, op := Op.call { callee := Callee.value (Operand.func 16), args := #[Operand.tmp 92, Operand.tmp 93], argTypes := #[24, 24] }, type := 22, pos := "outright.go:87", after := #[{ on := 33, ground := Ground.data }, { on := 34, ground := Ground.data }, { on := 32, ground := Ground.chain }, { on := 29, ground := Ground.guard }], guard := some (29, true) }) rfl (fun K hK => ?_) AllReadyH.nil
          rw [if_pos (by rfl)]
          go_simp
          refine (fcd x10).mono ?_
          rintro e x11 ⟨ra11, rc11, rfl, o11, h11⟩
          have qq11 := four_below qq10 h11 F10.out
          have F11 : Aside (FOURIN g0 g1 g2 g3 x11) := F10.out.mono h11.size
          have P11 : Aside (Below w.heap.size w x11) := P10.out.trans (h11.mono P10.out.size)
          have Tx11 : Aside (Text x11 ra11 65 (2 :: ((List.range 32).map c ++ (List.range 32).map d)) ∧ Below x10.heap.size x10 x11) := ⟨Text.of_bytes (own_bytes_any o11 (INTS_bounds (hsm_fcd))).1, h11⟩
          clear o11 h11
          refine hK.out _ _ (by assumption) (fun hHeld => ?_)
          clear hK K
          refine wpAnyH_ready (rs := [36]) (by kernel_rfl) (by simp) ?_
          refine AllReadyH.cons (o := { dst := some 95, op := Op.call { callee := Callee.value (Operand.func 18), args := #[Operand.tmp 91, Operand.tmp 94], argTypes := #[22, 22] }, type := 4, pos := "outright.go:87", after := #[{ on := 32, ground := Ground.data }, { on := 35, ground := Ground.data }, { on := 35, ground := Ground.chain }, { on := 29, ground := Ground.guard }], guard := some (29, true) }) rfl (fun K hK => ?_) AllReadyH.nil
          rw [if_pos (by rfl)]
          go_simp
          refine (same_is (hN.out 2) (same_ok ra10 ra11 65 65 rc10 rc11 (2 :: ((List.range 32).map a ++ (List.range 32).map b)) (2 :: ((List.range 32).map c ++ (List.range 32).map d)) x11 (Tx10.out.1.below Tx11.out.2) Tx11.out.1 (by omega))).mono ?_
          rintro e x12 ⟨rfl, h12⟩
          have qq12 := four_below qq11 h12 F11.out
          have F12 : Aside (FOURIN g0 g1 g2 g3 x12) := F11.out.mono h12.size
          have P12 : Aside (Below w.heap.size w x12) := P11.out.trans (h12.mono P11.out.size)
          have Bx12 : Aside (Below x11.heap.size x11 x12) := h12
          clear h12
          refine hK.out _ _ (by assumption) (fun hHeld => ?_)
          clear hK K
          refine wpAnyH_take (i := 40) (oi := { dst := some 99, op := Op.move (Operand.tmp 98), type := 4, pos := "outright.go:87", after := #[{ on := 39, ground := Ground.data }, { on := 36, ground := Ground.chain }, { on := 29, ground := Ground.guard }], guard := some (29, true) }) (v := .bool false) rfl (by kernel_rfl) (by kernel_rfl) (by kernel_rfl) (fun _ _ _ h => h) (Or.inl ⟨by rfl, fun w hSw => by go_simp⟩) (by assumption) ?_
          simp only [Act.put, List.setIfInBounds_toArray, List.set_cons_zero, List.set_cons_succ]
          refine wpAnyH_take (i := 41) (oi := { dst := some 100, op := Op.load 24 (Operand.tmp 11), type := 24, pos := "outright.go:87", after := #[{ on := 40, ground := Ground.guard }], guard := some (40, true) }) (v := undef) rfl (by kernel_rfl) (by kernel_rfl) (by kernel_rfl) (fun _ _ _ h => h) (Or.inr ⟨by rfl, rfl⟩) (by assumption) ?_
          simp only [Act.put, List.setIfInBounds_toArray, List.set_cons_zero, List.set_cons_succ]
          refine wpAnyH_take (i := 42) (oi := { dst := some 101, op := Op.load 24 (Operand.tmp 13), type := 24, pos := "outright.go:87", after := #[{ on := 40, ground := Ground.guard }], guard := some (40, true) }) (v := undef) rfl (by kernel_rfl) (by kernel_rfl) (by kernel_rfl) (fun _ _ _ h => h) (Or.inr ⟨by rfl, rfl⟩) (by assumption) ?_
          simp only [Act.put, List.setIfInBounds_toArray, List.set_cons_zero, List.set_cons_succ]
          refine wpAnyH_take (i := 43) (oi := { dst := some 102, op := Op.binOp BinOp.eql 24 (Operand.tmp 100) (Operand.tmp 101) 24, type := 4, pos := "outright.go:87", after := #[{ on := 41, ground := Ground.data }, { on := 42, ground := Ground.data }, { on := 40, ground := Ground.guard }], guard := some (40, true) }) (v := undef) rfl (by kernel_rfl) (by kernel_rfl) (by kernel_rfl) (fun _ _ _ h => h) (Or.inr ⟨by rfl, rfl⟩) (by assumption) ?_
          simp only [Act.put, List.setIfInBounds_toArray, List.set_cons_zero, List.set_cons_succ]
          refine wpAnyH_take (i := 44) (oi := { dst := some 103, op := Op.pick (Operand.tmp 99) (Operand.tmp 102) (Operand.const (Value.bool false)), type := 4, pos := "outright.go:87", after := #[{ on := 40, ground := Ground.data }, { on := 43, ground := Ground.data }, { on := 29, ground := Ground.guard }], guard := some (29, true) }) (v := .bool false) rfl (by kernel_rfl) (by kernel_rfl) (by kernel_rfl) (fun _ _ _ h => h) (Or.inl ⟨by rfl, fun w hSw => by go_simp⟩) (by assumption) ?_
          simp only [Act.put, List.setIfInBounds_toArray, List.set_cons_zero, List.set_cons_succ]
          refine wpAnyH_take (i := 45) (oi := { dst := some 104, op := Op.binOp BinOp.eql 4 (Operand.tmp 95) (Operand.tmp 103) 4, type := 4, pos := "outright.go:87", after := #[{ on := 36, ground := Ground.data }, { on := 44, ground := Ground.data }, { on := 29, ground := Ground.guard }], guard := some (29, true) }) (v := .bool true) rfl (by kernel_rfl) (by kernel_rfl) (by kernel_rfl) (fun _ _ _ h => h) (Or.inl ⟨by rfl, fun w hSw => by go_simp⟩) (by assumption) ?_
          simp only [Act.put, List.setIfInBounds_toArray, List.set_cons_zero, List.set_cons_succ]
          refine wpAnyH_take (i := 46) (oi := { dst := some 105, op := Op.pick (Operand.tmp 88) (Operand.tmp 104) (Operand.const (Value.bool false)), type := 4, pos := "outright.go:87", after := #[{ on := 29, ground := Ground.data }, { on := 45, ground := Ground.data }], guard := none }) (v := .bool true) rfl (by kernel_rfl) (by kernel_rfl) (by kernel_rfl) (fun _ _ _ h => h) (Or.inl ⟨by rfl, fun w hSw => by go_simp⟩) (by assumption) ?_
          simp only [Act.put, List.setIfInBounds_toArray, List.set_cons_zero, List.set_cons_succ]
          refine wpAnyH_take (i := 47) (oi := { dst := some 106, op := Op.move (Operand.tmp 105), type := 4, pos := "outright.go:87", after := #[{ on := 46, ground := Ground.data }, { on := 40, ground := Ground.chain }], guard := none }) (v := .bool true) rfl (by kernel_rfl) (by kernel_rfl) (by kernel_rfl) (fun _ _ _ h => h) (Or.inl ⟨by rfl, fun w hSw => by go_simp⟩) (by assumption) ?_
          simp only [Act.put, List.setIfInBounds_toArray, List.set_cons_zero, List.set_cons_succ]
          refine wpAnyH_take (i := 48) (oi := { dst := some 107, op := Op.move (Operand.tmp 6), type := 37, pos := "outright.go:87", after := #[{ on := 47, ground := Ground.guard }], guard := some (47, true) }) (v := .int .u64 (n : Int)) rfl (by kernel_rfl) (by kernel_rfl) (by kernel_rfl) (fun _ _ _ h => h) (Or.inl ⟨by rfl, fun w hSw => by go_simp⟩) (by assumption) ?_
          simp only [Act.put, List.setIfInBounds_toArray, List.set_cons_zero, List.set_cons_succ]
          refine wpAnyH_take (i := 49) (oi := { dst := some 108, op := Op.load 24 (Operand.tmp 10), type := 24, pos := "outright.go:87", after := #[{ on := 47, ground := Ground.guard }], guard := some (47, true) }) (v := .agg (ULIST .u8 32 a).toArray) rfl (by kernel_rfl) (by kernel_rfl) (by kernel_rfl) (fun _ _ _ h => h) (yieldsIf_load_mid (by rfl) _ _ rfl _ _ rfl (ULIST .u8 32 a) _ (fun w h => h.1) Tryd.underlying24 rfl (hi a)) (by assumption) ?_
          simp only [Act.put, List.setIfInBounds_toArray, List.set_cons_zero, List.set_cons_succ]
          refine wpAnyH_take (i := 51) (oi := { dst := some 110, op := Op.move (Operand.tmp 7), type := 37, pos := "outright.go:87", after := #[{ on := 47, ground := Ground.guard }], guard := some (47, true) }) (v := .int .u64 (n : Int)) rfl (by kernel_rfl) (by kernel_rfl) (by kernel_rfl) (fun _ _ _ h => h) (Or.inl ⟨by rfl, fun w hSw => by go_simp⟩) (by assumption) ?_
          simp only [Act.put, List.setIfInBounds_toArray, List.set_cons_zero, List.set_cons_succ]
          refine wpAnyH_take (i := 52) (oi := { dst := some 111, op := Op.load 24 (Operand.tmp 12), type := 24, pos := "outright.go:87", after := #[{ on := 47, ground := Ground.guard }], guard := some (47, true) }) (v := .agg (ULIST .u8 32 c).toArray) rfl (by kernel_rfl) (by kernel_rfl) (by kernel_rfl) (fun _ _ _ h => h) (yieldsIf_load_mid (by rfl) _ _ rfl _ _ rfl (ULIST .u8 32 c) _ (fun w h => h.2.2.1) Tryd.underlying24 rfl (hi c)) (by assumption) ?_
          simp only [Act.put, List.setIfInBounds_toArray, List.set_cons_zero, List.set_cons_succ]
          refine wpAnyH_take (i := 55) (oi := { dst := some 114, op := Op.move (Operand.tmp 6), type := 37, pos := "outright.go:87", after := #[{ on := 47, ground := Ground.guard }], guard := some (47, true) }) (v := .int .u64 (n : Int)) rfl (by kernel_rfl) (by kernel_rfl) (by kernel_rfl) (fun _ _ _ h => h) (Or.inl ⟨by rfl, fun w hSw => by go_simp⟩) (by assumption) ?_
          simp only [Act.put, List.setIfInBounds_toArray, List.set_cons_zero, List.set_cons_succ]
          refine wpAnyH_take (i := 56) (oi := { dst := some 115, op := Op.move (Operand.tmp 7), type := 37, pos := "outright.go:87", after := #[{ on := 47, ground := Ground.guard }], guard := some (47, true) }) (v := .int .u64 (n : Int)) rfl (by kernel_rfl) (by kernel_rfl) (by kernel_rfl) (fun _ _ _ h => h) (Or.inl ⟨by rfl, fun w hSw => by go_simp⟩) (by assumption) ?_
          simp only [Act.put, List.setIfInBounds_toArray, List.set_cons_zero, List.set_cons_succ]
          refine wpAnyH_take (i := 57) (oi := { dst := some 116, op := Op.binOp BinOp.eql 37 (Operand.tmp 114) (Operand.tmp 115) 37, type := 4, pos := "outright.go:87", after := #[{ on := 55, ground := Ground.data }, { on := 56, ground := Ground.data }, { on := 47, ground := Ground.guard }], guard := some (47, true) }) (v := .bool true) rfl (by kernel_rfl) (by kernel_rfl) (by kernel_rfl) (fun _ _ _ h => h) (Or.inl ⟨by rfl, fun w hSw => by go_simp⟩) (by assumption) ?_
          simp only [Act.put, List.setIfInBounds_toArray, List.set_cons_zero, List.set_cons_succ]
          refine wpAnyH_ready (rs := [50]) (by kernel_rfl) (by simp) ?_
          refine AllReadyH.cons (o := { dst := some 109, op := Op.call { callee := Callee.value (Operand.func 17), args := #[Operand.tmp 107, Operand.tmp 108], argTypes := #[37, 24] }, type := 22, pos := "outright.go:87", after := #[{ on := 48, ground := Ground.data }, { on := 49, ground := Ground.data }, { on := 47, ground := Ground.chain }, { on := 47, ground := Ground.guard }], guard := some (47, true) }) rfl (fun K hK => ?_) AllReadyH.nil
          rw [if_pos (by rfl)]
          go_simp
          refine (rna x12).mono ?_
          rintro e x13 ⟨ra13, rc13, rfl, o13, h13⟩
          have qq13 := four_below qq12 h13 F12.out
          have F13 : Aside (FOURIN g0 g1 g2 g3 x13) := F12.out.mono h13.size
          have P13 : Aside (Below w.heap.size w x13) := P12.out.trans (h13.mono P12.out.size)
          have Tx13 : Aside (Text x13 ra13 41 (3 :: (BE8 n ++ (List.range 32).map a)) ∧ Below x12.heap.size x12 x13) := ⟨Text.of_bytes (own_bytes_any o13 (INTS_bounds (hsm_rna))).1, h13⟩
          clear o13 h13
          refine hK.out _ _ (by assumption) (fun hHeld => ?_)
          clear hK K
          refine wpAnyH_ready (rs := [53]) (by kernel_rfl) (by simp) ?_
          refine AllReadyH.cons (o := { dst := some 112, op := Op.call { callee := Callee.value (Operand.func 17), args := #[Operand.tmp 110, Operand.tmp 111], argTypes := #[37, 24] }, type := 22, pos := "outright.go:87", after := #[{ on := 51, ground := Ground.data }, { on := 52, ground := Ground.data }, { on := 50, ground := Ground.chain }, { on := 47, ground := Ground.guard }], guard := some (47, true) }) rfl (fun K hK => ?_) AllReadyH.nil
          rw [if_pos (by rfl)]
          go_simp
          refine (rmc x13).mono ?_
          rintro e x14 ⟨ra14, rc14, rfl, o14, h14⟩
          have qq14 := four_below qq13 h14 F13.out
          have F14 : Aside (FOURIN g0 g1 g2 g3 x14) := F13.out.mono h14.size
          have P14 : Aside (Below w.heap.size w x14) := P13.out.trans (h14.mono P13.out.size)
          have Tx14 : Aside (Text x14 ra14 41 (3 :: (BE8 n ++ (List.range 32).map c)) ∧ Below x13.heap.size x13 x14) := ⟨Text.of_bytes (own_bytes_any o14 (INTS_bounds (hsm_rmc))).1, h14⟩
          clear o14 h14
          refine hK.out _ _ (by assumption) (fun hHeld => ?_)
          clear hK K
          refine wpAnyH_ready (rs := [54]) (by kernel_rfl) (by simp) ?_
          refine AllReadyH.cons (o := { dst := some 113, op := Op.call { callee := Callee.value (Operand.func 18), args := #[Operand.tmp 109, Operand.tmp 112], argTypes := #[22, 22] }, type := 4, pos := "outright.go:87", after := #[{ on := 50, ground := Ground.data }, { on := 53, ground := Ground.data }, { on := 53, ground := Ground.chain }, { on := 47, ground := Ground.guard }], guard := some (47, true) }) rfl (fun K hK => ?_) AllReadyH.nil
          rw [if_pos (by rfl)]
          go_simp
          refine (same_is (hR.out) (same_ok ra13 ra14 41 41 rc13 rc14 (3 :: (BE8 n ++ (List.range 32).map a)) (3 :: (BE8 n ++ (List.range 32).map c)) x14 (Tx13.out.1.below Tx14.out.2) Tx14.out.1 (by omega))).mono ?_
          rintro e x15 ⟨rfl, h15⟩
          have qq15 := four_below qq14 h15 F14.out
          have F15 : Aside (FOURIN g0 g1 g2 g3 x15) := F14.out.mono h15.size
          have P15 : Aside (Below w.heap.size w x15) := P14.out.trans (h15.mono P14.out.size)
          have Bx15 : Aside (Below x14.heap.size x14 x15) := h15
          clear h15
          refine hK.out _ _ (by assumption) (fun hHeld => ?_)
          clear hK K
          refine wpAnyH_take (i := 58) (oi := { dst := some 117, op := Op.move (Operand.tmp 116), type := 4, pos := "outright.go:87", after := #[{ on := 57, ground := Ground.data }, { on := 54, ground := Ground.chain }, { on := 47, ground := Ground.guard }], guard := some (47, true) }) (v := .bool true) rfl (by kernel_rfl) (by kernel_rfl) (by kernel_rfl) (fun _ _ _ h => h) (Or.inl ⟨by rfl, fun w hSw => by go_simp⟩) (by assumption) ?_
          simp only [Act.put, List.setIfInBounds_toArray, List.set_cons_zero, List.set_cons_succ]
          refine wpAnyH_take (i := 59) (oi := { dst := some 118, op := Op.load 24 (Operand.tmp 10), type := 24, pos := "outright.go:87", after := #[{ on := 58, ground := Ground.guard }], guard := some (58, true) }) (v := .agg (ULIST .u8 32 a).toArray) rfl (by kernel_rfl) (by kernel_rfl) (by kernel_rfl) (fun _ _ _ h => h) (yieldsIf_load_mid (by rfl) _ _ rfl _ _ rfl (ULIST .u8 32 a) _ (fun w h => h.1) Tryd.underlying24 rfl (hi a)) (by assumption) ?_
          simp only [Act.put, List.setIfInBounds_toArray, List.set_cons_zero, List.set_cons_succ]
          refine wpAnyH_take (i := 60) (oi := { dst := some 119, op := Op.load 24 (Operand.tmp 12), type := 24, pos := "outright.go:87", after := #[{ on := 58, ground := Ground.guard }], guard := some (58, true) }) (v := .agg (ULIST .u8 32 c).toArray) rfl (by kernel_rfl) (by kernel_rfl) (by kernel_rfl) (fun _ _ _ h => h) (yieldsIf_load_mid (by rfl) _ _ rfl _ _ rfl (ULIST .u8 32 c) _ (fun w h => h.2.2.1) Tryd.underlying24 rfl (hi c)) (by assumption) ?_
          simp only [Act.put, List.setIfInBounds_toArray, List.set_cons_zero, List.set_cons_succ]
          refine wpAnyH_take (i := 61) (oi := { dst := some 120, op := Op.binOp BinOp.eql 24 (Operand.tmp 118) (Operand.tmp 119) 24, type := 4, pos := "outright.go:87", after := #[{ on := 59, ground := Ground.data }, { on := 60, ground := Ground.data }, { on := 58, ground := Ground.guard }], guard := some (58, true) }) (v := .bool false) rfl (by kernel_rfl) (by kernel_rfl) (by kernel_rfl) (fun _ _ _ h => h) (Or.inl ⟨by rfl, fun w hSw => by go_simp⟩) (by assumption) ?_
          simp only [Act.put, List.setIfInBounds_toArray, List.set_cons_zero, List.set_cons_succ]
          refine wpAnyH_take (i := 62) (oi := { dst := some 121, op := Op.pick (Operand.tmp 117) (Operand.tmp 120) (Operand.const (Value.bool false)), type := 4, pos := "outright.go:87", after := #[{ on := 58, ground := Ground.data }, { on := 61, ground := Ground.data }, { on := 47, ground := Ground.guard }], guard := some (47, true) }) (v := .bool false) rfl (by kernel_rfl) (by kernel_rfl) (by kernel_rfl) (fun _ _ _ h => h) (Or.inl ⟨by rfl, fun w hSw => by go_simp⟩) (by assumption) ?_
          simp only [Act.put, List.setIfInBounds_toArray, List.set_cons_zero, List.set_cons_succ]
          refine wpAnyH_take (i := 63) (oi := { dst := some 122, op := Op.binOp BinOp.eql 4 (Operand.tmp 113) (Operand.tmp 121) 4, type := 4, pos := "outright.go:87", after := #[{ on := 54, ground := Ground.data }, { on := 62, ground := Ground.data }, { on := 47, ground := Ground.guard }], guard := some (47, true) }) (v := .bool true) rfl (by kernel_rfl) (by kernel_rfl) (by kernel_rfl) (fun _ _ _ h => h) (Or.inl ⟨by rfl, fun w hSw => by go_simp⟩) (by assumption) ?_
          simp only [Act.put, List.setIfInBounds_toArray, List.set_cons_zero, List.set_cons_succ]
          refine wpAnyH_take (i := 64) (oi := { dst := some 123, op := Op.pick (Operand.tmp 106) (Operand.tmp 122) (Operand.const (Value.bool false)), type := 4, pos := "outright.go:87", after := #[{ on := 47, ground := Ground.data }, { on := 63, ground := Ground.data }], guard := none }) (v := .bool true) rfl (by kernel_rfl) (by kernel_rfl) (by kernel_rfl) (fun _ _ _ h => h) (Or.inl ⟨by rfl, fun w hSw => by go_simp⟩) (by assumption) ?_
          simp only [Act.put, List.setIfInBounds_toArray, List.set_cons_zero, List.set_cons_succ]
          refine wpAnyH_take (i := 65) (oi := { dst := some 124, op := Op.move (Operand.tmp 123), type := 4, pos := "outright.go:87", after := #[{ on := 64, ground := Ground.data }, { on := 58, ground := Ground.chain }], guard := none }) (v := .bool true) rfl (by kernel_rfl) (by kernel_rfl) (by kernel_rfl) (fun _ _ _ h => h) (Or.inl ⟨by rfl, fun w hSw => by go_simp⟩) (by assumption) ?_
          simp only [Act.put, List.setIfInBounds_toArray, List.set_cons_zero, List.set_cons_succ]
          refine wpAnyH_ready (rs := [66]) (by kernel_rfl) (by simp) ?_
          refine AllReadyH.cons (o := { dst := some 125, op := Op.call { callee := Callee.value (Operand.func 9), args := #[], argTypes := #[] }, type := 4, pos := "outright.go:87", after := #[{ on := 65, ground := Ground.chain }, { on := 65, ground := Ground.guard }], guard := some (65, true) }) rfl (fun K hK => ?_) AllReadyH.nil
          rw [if_pos (by rfl)]
          go_simp
          refine (awake_ok x15 (H.out.2.2.2.2.2.2.2.2.2.2.below P15.out)).mono ?_
          rintro e x16 ⟨rfl, h16⟩
          have qq16 := four_below qq15 h16 F15.out
          have F16 : Aside (FOURIN g0 g1 g2 g3 x16) := F15.out.mono h16.size
          have P16 : Aside (Below w.heap.size w x16) := P15.out.trans (h16.mono P15.out.size)
          clear h16
          refine hK.out _ _ (by assumption) (fun hHeld => ?_)
          clear hK K
          refine wpAnyH_take (i := 67) (oi := { dst := some 126, op := Op.pick (Operand.tmp 124) (Operand.tmp 125) (Operand.const (Value.bool false)), type := 4, pos := "outright.go:87", after := #[{ on := 65, ground := Ground.data }, { on := 66, ground := Ground.data }], guard := none }) (v := .bool true) rfl (by kernel_rfl) (by kernel_rfl) (by kernel_rfl) (fun _ _ _ h => h) (Or.inl ⟨by rfl, fun w hSw => by go_simp⟩) (by assumption) ?_
          simp only [Act.put, List.setIfInBounds_toArray, List.set_cons_zero, List.set_cons_succ]
          refine wpAnyH_take (i := 68) (oi := { dst := some 16, op := Op.assign (Operand.tmp 126), type := 4, pos := "outright.go:87", after := #[{ on := 67, ground := Ground.data }, { on := 66, ground := Ground.chain }, { on := 0, ground := Ground.phase }, { on := 1, ground := Ground.phase }, { on := 2, ground := Ground.phase }, { on := 3, ground := Ground.phase }, { on := 4, ground := Ground.phase }, { on := 5, ground := Ground.phase }, { on := 6, ground := Ground.phase }, { on := 7, ground := Ground.phase }, { on := 8, ground := Ground.phase }, { on := 9, ground := Ground.phase }, { on := 10, ground := Ground.phase }, { on := 11, ground := Ground.phase }, { on := 12, ground := Ground.phase }, { on := 13, ground := Ground.phase }, { on := 14, ground := Ground.phase }, { on := 15, ground := Ground.phase }, { on := 16, ground := Ground.phase }, { on := 17, ground := Ground.phase }, { on := 18, ground := Ground.phase }, { on := 19, ground := Ground.phase }, { on := 20, ground := Ground.phase }, { on := 21, ground := Ground.phase }, { on := 22, ground := Ground.phase }, { on := 23, ground := Ground.phase }, { on := 24, ground := Ground.phase }, { on := 25, ground := Ground.phase }, { on := 26, ground := Ground.phase }, { on := 27, ground := Ground.phase }, { on := 28, ground := Ground.phase }, { on := 29, ground := Ground.phase }, { on := 30, ground := Ground.phase }, { on := 31, ground := Ground.phase }, { on := 32, ground := Ground.phase }, { on := 33, ground := Ground.phase }, { on := 34, ground := Ground.phase }, { on := 35, ground := Ground.phase }, { on := 36, ground := Ground.phase }, { on := 37, ground := Ground.phase }, { on := 38, ground := Ground.phase }, { on := 39, ground := Ground.phase }, { on := 40, ground := Ground.phase }, { on := 41, ground := Ground.phase }, { on := 42, ground := Ground.phase }, { on := 43, ground := Ground.phase }, { on := 44, ground := Ground.phase }, { on := 45, ground := Ground.phase }, { on := 46, ground := Ground.phase }, { on := 47, ground := Ground.phase }, { on := 48, ground := Ground.phase }, { on := 49, ground := Ground.phase }, { on := 50, ground := Ground.phase }, { on := 51, ground := Ground.phase }, { on := 52, ground := Ground.phase }, { on := 53, ground := Ground.phase }, { on := 54, ground := Ground.phase }, { on := 55, ground := Ground.phase }, { on := 56, ground := Ground.phase }, { on := 57, ground := Ground.phase }, { on := 58, ground := Ground.phase }, { on := 59, ground := Ground.phase }, { on := 60, ground := Ground.phase }, { on := 61, ground := Ground.phase }, { on := 62, ground := Ground.phase }, { on := 63, ground := Ground.phase }, { on := 64, ground := Ground.phase }, { on := 65, ground := Ground.phase }, { on := 66, ground := Ground.phase }, { on := 67, ground := Ground.phase }], guard := none }) (v := .bool true) rfl (by kernel_rfl) (by kernel_rfl) (by kernel_rfl) (fun _ _ _ h => h) (Or.inl ⟨by rfl, fun w hSw => by go_simp⟩) (by assumption) ?_
          simp only [Act.put, List.setIfInBounds_toArray, List.set_cons_zero, List.set_cons_succ]
          refine wpAnyH_done (by kernel_rfl) ?_ _
          have HE := P16
          go_wp2
          go_ret
          first | exact ⟨rfl, HE.out⟩ | exact ⟨rfl, by rw [← hg0]; exact HE.out⟩
      · cases e1 with
        | true =>
          have hN : Aside (∀ o : Nat, decide (o :: ((List.range 32).map a ++ (List.range 32).map b) = o :: ((List.range 32).map c ++ (List.range 32).map d)) = e2) := fun o => (hN.out o).trans (by simp)
          have hR : Aside (decide (3 :: (BE8 n ++ (List.range 32).map a) = 3 :: (BE8 m ++ (List.range 32).map c)) = false) := hR.out.trans (by simp [hnm])
          refine wp_region_held_drew (S := fun W : World => W.rangeAt g0 0 (ULIST .u8 32 a) ∧ W.rangeAt g1 0 (ULIST .u8 32 b) ∧ W.rangeAt g2 0 (ULIST .u8 32 c) ∧ W.rangeAt g3 0 (ULIST .u8 32 d)) (by kernel_rfl) hS (fun hHeld => ?_)
          change wpAnyH _ _ _ _ _ 69 (Array.replicate 69 false) _ (World.drew _)
          refine wpAnyH_take (i := 0) (oi := { dst := some 59, op := Op.move (Operand.tmp 0), type := 22, pos := "outright.go:87", after := #[], guard := none }) (v := .slice u p cp) rfl (by kernel_rfl) (by kernel_rfl) (by kernel_rfl) (fun _ _ _ h => h) (Or.inl ⟨by rfl, fun w hSw => by go_simp⟩) (by assumption) ?_
          simp only [Act.put, List.setIfInBounds_toArray, List.set_cons_zero, List.set_cons_succ]
          refine wpAnyH_take (i := 3) (oi := { dst := some 62, op := Op.move (Operand.tmp 1), type := 22, pos := "outright.go:87", after := #[], guard := none }) (v := .slice v q cq) rfl (by kernel_rfl) (by kernel_rfl) (by kernel_rfl) (fun _ _ _ h => h) (Or.inl ⟨by rfl, fun w hSw => by go_simp⟩) (by assumption) ?_
          simp only [Act.put, List.setIfInBounds_toArray, List.set_cons_zero, List.set_cons_succ]
          refine wpAnyH_take (i := 7) (oi := { dst := some 66, op := Op.move (Operand.tmp 0), type := 22, pos := "outright.go:87", after := #[], guard := none }) (v := .slice u p cp) rfl (by kernel_rfl) (by kernel_rfl) (by kernel_rfl) (fun _ _ _ h => h) (Or.inl ⟨by rfl, fun w hSw => by go_simp⟩) (by assumption) ?_
          simp only [Act.put, List.setIfInBounds_toArray, List.set_cons_zero, List.set_cons_succ]
          refine wpAnyH_take (i := 8) (oi := { dst := some 67, op := Op.move (Operand.tmp 1), type := 22, pos := "outright.go:87", after := #[], guard := none }) (v := .slice v q cq) rfl (by kernel_rfl) (by kernel_rfl) (by kernel_rfl) (fun _ _ _ h => h) (Or.inl ⟨by rfl, fun w hSw => by go_simp⟩) (by assumption) ?_
          simp only [Act.put, List.setIfInBounds_toArray, List.set_cons_zero, List.set_cons_succ]
          refine wpAnyH_ready (rs := [1]) (by kernel_rfl) (by simp) ?_
          refine AllReadyH.cons (o := { dst := some 60, op := Op.call { callee := Callee.value (Operand.func 7), args := #[Operand.tmp 59], argTypes := #[22] }, type := 22, pos := "outright.go:87", after := #[{ on := 0, ground := Ground.data }], guard := none }) rfl (fun K hK => ?_) AllReadyH.nil
          rw [if_pos (by rfl)]
          go_simp
          refine (row_ok u p cp lp wr.drew (H.out.1.below P0.out.drew) H.out.2.1 (by omega)).mono ?_
          rintro e x1 ⟨ra1, rc1, rfl, t1, l1, z1, h1⟩
          have qq1 := four_below hS h1 F0.out
          have F1 : Aside (FOURIN g0 g1 g2 g3 x1) := F0.out.mono h1.size
          have P1 : Aside (Below w.heap.size w x1) := P0.out.drew.trans (h1.mono P0.out.size)
          have R1 : Aside (Text x1 ra1 p lp ∧ p ≤ rc1 ∧ (∀ x, ra1 = some x → x.block < x1.heap.size) ∧ (ra1 = none → rc1 = 0)) := ⟨t1.front, by omega, fun x e => (z1 x e).2, fun e => (by have h := t1.2.1 (by omega); rw [e] at h; obtain ⟨_, _, h, _⟩ := h; cases h)⟩
          clear t1 l1 z1 h1
          refine hK.out _ _ (by assumption) (fun hHeld => ?_)
          clear hK K
          refine wpAnyH_ready (rs := [2]) (by kernel_rfl) (by simp) ?_
          refine AllReadyH.cons (o := { dst := some 61, op := Op.call { callee := Callee.value (Operand.func 14), args := #[Operand.tmp 60], argTypes := #[22] }, type := 22, pos := "outright.go:87", after := #[{ on := 1, ground := Ground.data }, { on := 1, ground := Ground.chain }], guard := none }) rfl (fun K hK => ?_) AllReadyH.nil
          rw [if_pos (by rfl)]
          go_simp
          refine (leaftext_ok ra1 p rc1 lp x1 R1.out.1 R1.out.2.2.2 (by omega) R1.out.2.1 R1.out.2.2.1).mono ?_
          rintro e x2 ⟨ra2, rc2, rfl, o2, h2⟩
          have qq2 := four_below qq1 h2 F1.out
          have F2 : Aside (FOURIN g0 g1 g2 g3 x2) := F1.out.mono h2.size
          have P2 : Aside (Below w.heap.size w x2) := P1.out.trans (h2.mono P1.out.size)
          have Tx2 : Aside (Text x2 ra2 (p + 1) (0 :: lp) ∧ Below x1.heap.size x1 x2) := ⟨Text.of_bytes (own_bytes_any o2 (INTS_bounds (small_cons (by decide) H.out.1.2.2))).1, h2⟩
          clear o2 h2
          refine hK.out _ _ (by assumption) (fun hHeld => ?_)
          clear hK K
          refine wpAnyH_ready (rs := [4]) (by kernel_rfl) (by simp) ?_
          refine AllReadyH.cons (o := { dst := some 63, op := Op.call { callee := Callee.value (Operand.func 7), args := #[Operand.tmp 62], argTypes := #[22] }, type := 22, pos := "outright.go:87", after := #[{ on := 3, ground := Ground.data }, { on := 2, ground := Ground.chain }], guard := none }) rfl (fun K hK => ?_) AllReadyH.nil
          rw [if_pos (by rfl)]
          go_simp
          refine (row_ok v q cq lq x2 (H.out.2.2.2.2.2.2.2.2.1.below P2.out) H.out.2.2.2.2.2.2.2.2.2.1 (by omega)).mono ?_
          rintro e x3 ⟨ra3, rc3, rfl, t3, l3, z3, h3⟩
          have qq3 := four_below qq2 h3 F2.out
          have F3 : Aside (FOURIN g0 g1 g2 g3 x3) := F2.out.mono h3.size
          have P3 : Aside (Below w.heap.size w x3) := P2.out.trans (h3.mono P2.out.size)
          have R3 : Aside (Text x3 ra3 q lq ∧ q ≤ rc3 ∧ (∀ x, ra3 = some x → x.block < x3.heap.size) ∧ (ra3 = none → rc3 = 0)) := ⟨t3.front, by omega, fun x e => (z3 x e).2, fun e => (by have h := t3.2.1 (by omega); rw [e] at h; obtain ⟨_, _, h, _⟩ := h; cases h)⟩
          have BR3 : Aside (Below x2.heap.size x2 x3) := h3
          clear t3 l3 z3 h3
          refine hK.out _ _ (by assumption) (fun hHeld => ?_)
          clear hK K
          refine wpAnyH_ready (rs := [5]) (by kernel_rfl) (by simp) ?_
          refine AllReadyH.cons (o := { dst := some 64, op := Op.call { callee := Callee.value (Operand.func 14), args := #[Operand.tmp 63], argTypes := #[22] }, type := 22, pos := "outright.go:87", after := #[{ on := 4, ground := Ground.data }, { on := 4, ground := Ground.chain }], guard := none }) rfl (fun K hK => ?_) AllReadyH.nil
          rw [if_pos (by rfl)]
          go_simp
          refine (leaftext_ok ra3 q rc3 lq x3 R3.out.1 R3.out.2.2.2 (by omega) R3.out.2.1 R3.out.2.2.1).mono ?_
          rintro e x4 ⟨ra4, rc4, rfl, o4, h4⟩
          have qq4 := four_below qq3 h4 F3.out
          have F4 : Aside (FOURIN g0 g1 g2 g3 x4) := F3.out.mono h4.size
          have P4 : Aside (Below w.heap.size w x4) := P3.out.trans (h4.mono P3.out.size)
          have Tx4 : Aside (Text x4 ra4 (q + 1) (0 :: lq) ∧ Below x3.heap.size x3 x4) := ⟨Text.of_bytes (own_bytes_any o4 (INTS_bounds (small_cons (by decide) H.out.2.2.2.2.2.2.2.2.1.2.2))).1, h4⟩
          clear o4 h4
          refine hK.out _ _ (by assumption) (fun hHeld => ?_)
          clear hK K
          refine wpAnyH_ready (rs := [6]) (by kernel_rfl) (by simp) ?_
          refine AllReadyH.cons (o := { dst := some 65, op := Op.call { callee := Callee.value (Operand.func 18), args := #[Operand.tmp 61, Operand.tmp 64], argTypes := #[22, 22] }, type := 4, pos := "outright.go:87", after := #[{ on := 2, ground := Ground.data }, { on := 5, ground := Ground.data }, { on := 5, ground := Ground.chain }], guard := none }) rfl (fun K hK => ?_) AllReadyH.nil
          rw [if_pos (by rfl)]
          go_simp
          refine (same_is ((leaf_same lp lq).trans hX.out) (same_ok ra2 ra4 (p + 1) (q + 1) rc2 rc4 (0 :: lp) (0 :: lq) x4 ((Tx2.out.1.below BR3.out).below Tx4.out.2) Tx4.out.1 (by omega))).mono ?_
          rintro e x5 ⟨rfl, h5⟩
          have qq5 := four_below qq4 h5 F4.out
          have F5 : Aside (FOURIN g0 g1 g2 g3 x5) := F4.out.mono h5.size
          have P5 : Aside (Below w.heap.size w x5) := P4.out.trans (h5.mono P4.out.size)
          have Bx5 : Aside (Below x4.heap.size x4 x5) := h5
          clear h5
          refine hK.out _ _ (by assumption) (fun hHeld => ?_)
          clear hK K
          refine wpAnyH_ready (rs := [9]) (by kernel_rfl) (by simp) ?_
          refine AllReadyH.cons (o := { dst := some 68, op := Op.call { callee := Callee.value (Operand.func 18), args := #[Operand.tmp 66, Operand.tmp 67], argTypes := #[22, 22] }, type := 4, pos := "outright.go:87", after := #[{ on := 7, ground := Ground.data }, { on := 8, ground := Ground.data }, { on := 6, ground := Ground.chain }], guard := none }) rfl (fun K hK => ?_) AllReadyH.nil
          rw [if_pos (by rfl)]
          go_simp
          refine (same_is hX.out (same_ok u v p q cp cq lp lq x5 (H.out.1.below P5.out) (H.out.2.2.2.2.2.2.2.2.1.below P5.out) (by omega))).mono ?_
          rintro e x6 ⟨rfl, h6⟩
          have qq6 := four_below qq5 h6 F5.out
          have F6 : Aside (FOURIN g0 g1 g2 g3 x6) := F5.out.mono h6.size
          have P6 : Aside (Below w.heap.size w x6) := P5.out.trans (h6.mono P5.out.size)
          clear h6
          refine hK.out _ _ (by assumption) (fun hHeld => ?_)
          clear hK K
          refine wpAnyH_take (i := 10) (oi := { dst := some 69, op := Op.binOp BinOp.eql 4 (Operand.tmp 65) (Operand.tmp 68) 4, type := 4, pos := "outright.go:87", after := #[{ on := 6, ground := Ground.data }, { on := 9, ground := Ground.data }], guard := none }) (v := .bool true) rfl (by kernel_rfl) (by kernel_rfl) (by kernel_rfl) (fun _ _ _ h => h) (Or.inl ⟨by rfl, fun w hSw => by go_simp⟩) (by assumption) ?_
          simp only [Act.put, List.setIfInBounds_toArray, List.set_cons_zero, List.set_cons_succ]
          refine wpAnyH_take (i := 11) (oi := { dst := some 70, op := Op.move (Operand.tmp 69), type := 4, pos := "outright.go:87", after := #[{ on := 10, ground := Ground.data }, { on := 9, ground := Ground.chain }], guard := none }) (v := .bool true) rfl (by kernel_rfl) (by kernel_rfl) (by kernel_rfl) (fun _ _ _ h => h) (Or.inl ⟨by rfl, fun w hSw => by go_simp⟩) (by assumption) ?_
          simp only [Act.put, List.setIfInBounds_toArray, List.set_cons_zero, List.set_cons_succ]
          refine wpAnyH_take (i := 12) (oi := { dst := some 71, op := Op.load 24 (Operand.tmp 10), type := 24, pos := "outright.go:87", after := #[{ on := 11, ground := Ground.guard }], guard := some (11, true) }) (v := .agg (ULIST .u8 32 a).toArray) rfl (by kernel_rfl) (by kernel_rfl) (by kernel_rfl) (fun _ _ _ h => h) (yieldsIf_load_mid (by rfl) _ _ rfl _ _ rfl (ULIST .u8 32 a) _ (fun w h => h.1) Tryd.underlying24 rfl (hi a)) (by assumption) ?_
          simp only [Act.put, List.setIfInBounds_toArray, List.set_cons_zero, List.set_cons_succ]
          refine wpAnyH_take (i := 13) (oi := { dst := some 72, op := Op.load 24 (Operand.tmp 11), type := 24, pos := "outright.go:87", after := #[{ on := 11, ground := Ground.guard }], guard := some (11, true) }) (v := .agg (ULIST .u8 32 b).toArray) rfl (by kernel_rfl) (by kernel_rfl) (by kernel_rfl) (fun _ _ _ h => h) (yieldsIf_load_mid (by rfl) _ _ rfl _ _ rfl (ULIST .u8 32 b) _ (fun w h => h.2.1) Tryd.underlying24 rfl (hi b)) (by assumption) ?_
          simp only [Act.put, List.setIfInBounds_toArray, List.set_cons_zero, List.set_cons_succ]
          refine wpAnyH_take (i := 15) (oi := { dst := some 74, op := Op.load 24 (Operand.tmp 12), type := 24, pos := "outright.go:87", after := #[{ on := 11, ground := Ground.guard }], guard := some (11, true) }) (v := .agg (ULIST .u8 32 c).toArray) rfl (by kernel_rfl) (by kernel_rfl) (by kernel_rfl) (fun _ _ _ h => h) (yieldsIf_load_mid (by rfl) _ _ rfl _ _ rfl (ULIST .u8 32 c) _ (fun w h => h.2.2.1) Tryd.underlying24 rfl (hi c)) (by assumption) ?_
          simp only [Act.put, List.setIfInBounds_toArray, List.set_cons_zero, List.set_cons_succ]
          refine wpAnyH_take (i := 16) (oi := { dst := some 75, op := Op.load 24 (Operand.tmp 13), type := 24, pos := "outright.go:87", after := #[{ on := 11, ground := Ground.guard }], guard := some (11, true) }) (v := .agg (ULIST .u8 32 d).toArray) rfl (by kernel_rfl) (by kernel_rfl) (by kernel_rfl) (fun _ _ _ h => h) (yieldsIf_load_mid (by rfl) _ _ rfl _ _ rfl (ULIST .u8 32 d) _ (fun w h => h.2.2.2) Tryd.underlying24 rfl (hi d)) (by assumption) ?_
          simp only [Act.put, List.setIfInBounds_toArray, List.set_cons_zero, List.set_cons_succ]
          refine wpAnyH_take (i := 19) (oi := { dst := some 78, op := Op.load 24 (Operand.tmp 10), type := 24, pos := "outright.go:87", after := #[{ on := 11, ground := Ground.guard }], guard := some (11, true) }) (v := .agg (ULIST .u8 32 a).toArray) rfl (by kernel_rfl) (by kernel_rfl) (by kernel_rfl) (fun _ _ _ h => h) (yieldsIf_load_mid (by rfl) _ _ rfl _ _ rfl (ULIST .u8 32 a) _ (fun w h => h.1) Tryd.underlying24 rfl (hi a)) (by assumption) ?_
          simp only [Act.put, List.setIfInBounds_toArray, List.set_cons_zero, List.set_cons_succ]
          refine wpAnyH_take (i := 20) (oi := { dst := some 79, op := Op.load 24 (Operand.tmp 12), type := 24, pos := "outright.go:87", after := #[{ on := 11, ground := Ground.guard }], guard := some (11, true) }) (v := .agg (ULIST .u8 32 c).toArray) rfl (by kernel_rfl) (by kernel_rfl) (by kernel_rfl) (fun _ _ _ h => h) (yieldsIf_load_mid (by rfl) _ _ rfl _ _ rfl (ULIST .u8 32 c) _ (fun w h => h.2.2.1) Tryd.underlying24 rfl (hi c)) (by assumption) ?_
          simp only [Act.put, List.setIfInBounds_toArray, List.set_cons_zero, List.set_cons_succ]
          refine wpAnyH_take (i := 21) (oi := { dst := some 80, op := Op.binOp BinOp.eql 24 (Operand.tmp 78) (Operand.tmp 79) 24, type := 4, pos := "outright.go:87", after := #[{ on := 19, ground := Ground.data }, { on := 20, ground := Ground.data }, { on := 11, ground := Ground.guard }], guard := some (11, true) }) (v := .bool true) rfl (by kernel_rfl) (by kernel_rfl) (by kernel_rfl) (fun _ _ _ h => h) (Or.inl ⟨by rfl, fun w hSw => by go_simp⟩) (by assumption) ?_
          simp only [Act.put, List.setIfInBounds_toArray, List.set_cons_zero, List.set_cons_succ]
          refine wpAnyH_ready (rs := [14]) (by kernel_rfl) (by simp) ?_
          refine AllReadyH.cons (o := { dst := some 73, op := Op.call { callee := Callee.value (Operand.func 15), args := #[Operand.tmp 71, Operand.tmp 72], argTypes := #[24, 24] }, type := 22, pos := "outright.go:87", after := #[{ on := 12, ground := Ground.data }, { on := 13, ground := Ground.data }, { on := 11, ground := Ground.chain }, { on := 11, ground := Ground.guard }], guard := some (11, true) }) rfl (fun K hK => ?_) AllReadyH.nil
          rw [if_pos (by rfl)]
          go_simp
          refine (nab x6).mono ?_
          rintro e x7 ⟨ra7, rc7, rfl, o7, h7⟩
          have qq7 := four_below qq6 h7 F6.out
          have F7 : Aside (FOURIN g0 g1 g2 g3 x7) := F6.out.mono h7.size
          have P7 : Aside (Below w.heap.size w x7) := P6.out.trans (h7.mono P6.out.size)
          have Tx7 : Aside (Text x7 ra7 65 (1 :: ((List.range 32).map a ++ (List.range 32).map b)) ∧ Below x6.heap.size x6 x7) := ⟨Text.of_bytes (own_bytes_any o7 (INTS_bounds (hsm_nab))).1, h7⟩
          clear o7 h7
          refine hK.out _ _ (by assumption) (fun hHeld => ?_)
          clear hK K
          refine wpAnyH_ready (rs := [17]) (by kernel_rfl) (by simp) ?_
          refine AllReadyH.cons (o := { dst := some 76, op := Op.call { callee := Callee.value (Operand.func 15), args := #[Operand.tmp 74, Operand.tmp 75], argTypes := #[24, 24] }, type := 22, pos := "outright.go:87", after := #[{ on := 15, ground := Ground.data }, { on := 16, ground := Ground.data }, { on := 14, ground := Ground.chain }, { on := 11, ground := Ground.guard }], guard := some (11, true) }) rfl (fun K hK => ?_) AllReadyH.nil
          rw [if_pos (by rfl)]
          go_simp
          refine (ncd x7).mono ?_
          rintro e x8 ⟨ra8, rc8, rfl, o8, h8⟩
          have qq8 := four_below qq7 h8 F7.out
          have F8 : Aside (FOURIN g0 g1 g2 g3 x8) := F7.out.mono h8.size
          have P8 : Aside (Below w.heap.size w x8) := P7.out.trans (h8.mono P7.out.size)
          have Tx8 : Aside (Text x8 ra8 65 (1 :: ((List.range 32).map c ++ (List.range 32).map d)) ∧ Below x7.heap.size x7 x8) := ⟨Text.of_bytes (own_bytes_any o8 (INTS_bounds (hsm_ncd))).1, h8⟩
          clear o8 h8
          refine hK.out _ _ (by assumption) (fun hHeld => ?_)
          clear hK K
          refine wpAnyH_ready (rs := [18]) (by kernel_rfl) (by simp) ?_
          refine AllReadyH.cons (o := { dst := some 77, op := Op.call { callee := Callee.value (Operand.func 18), args := #[Operand.tmp 73, Operand.tmp 76], argTypes := #[22, 22] }, type := 4, pos := "outright.go:87", after := #[{ on := 14, ground := Ground.data }, { on := 17, ground := Ground.data }, { on := 17, ground := Ground.chain }, { on := 11, ground := Ground.guard }], guard := some (11, true) }) rfl (fun K hK => ?_) AllReadyH.nil
          rw [if_pos (by rfl)]
          go_simp
          refine (same_is (hN.out 1) (same_ok ra7 ra8 65 65 rc7 rc8 (1 :: ((List.range 32).map a ++ (List.range 32).map b)) (1 :: ((List.range 32).map c ++ (List.range 32).map d)) x8 (Tx7.out.1.below Tx8.out.2) Tx8.out.1 (by omega))).mono ?_
          rintro e x9 ⟨rfl, h9⟩
          have qq9 := four_below qq8 h9 F8.out
          have F9 : Aside (FOURIN g0 g1 g2 g3 x9) := F8.out.mono h9.size
          have P9 : Aside (Below w.heap.size w x9) := P8.out.trans (h9.mono P8.out.size)
          have Bx9 : Aside (Below x8.heap.size x8 x9) := h9
          clear h9
          refine hK.out _ _ (by assumption) (fun hHeld => ?_)
          clear hK K
          refine wpAnyH_take (i := 22) (oi := { dst := some 81, op := Op.move (Operand.tmp 80), type := 4, pos := "outright.go:87", after := #[{ on := 21, ground := Ground.data }, { on := 18, ground := Ground.chain }, { on := 11, ground := Ground.guard }], guard := some (11, true) }) (v := .bool true) rfl (by kernel_rfl) (by kernel_rfl) (by kernel_rfl) (fun _ _ _ h => h) (Or.inl ⟨by rfl, fun w hSw => by go_simp⟩) (by assumption) ?_
          simp only [Act.put, List.setIfInBounds_toArray, List.set_cons_zero, List.set_cons_succ]
          refine wpAnyH_take (i := 23) (oi := { dst := some 82, op := Op.load 24 (Operand.tmp 11), type := 24, pos := "outright.go:87", after := #[{ on := 22, ground := Ground.guard }], guard := some (22, true) }) (v := .agg (ULIST .u8 32 b).toArray) rfl (by kernel_rfl) (by kernel_rfl) (by kernel_rfl) (fun _ _ _ h => h) (yieldsIf_load_mid (by rfl) _ _ rfl _ _ rfl (ULIST .u8 32 b) _ (fun w h => h.2.1) Tryd.underlying24 rfl (hi b)) (by assumption) ?_
          simp only [Act.put, List.setIfInBounds_toArray, List.set_cons_zero, List.set_cons_succ]
          refine wpAnyH_take (i := 24) (oi := { dst := some 83, op := Op.load 24 (Operand.tmp 13), type := 24, pos := "outright.go:87", after := #[{ on := 22, ground := Ground.guard }], guard := some (22, true) }) (v := .agg (ULIST .u8 32 d).toArray) rfl (by kernel_rfl) (by kernel_rfl) (by kernel_rfl) (fun _ _ _ h => h) (yieldsIf_load_mid (by rfl) _ _ rfl _ _ rfl (ULIST .u8 32 d) _ (fun w h => h.2.2.2) Tryd.underlying24 rfl (hi d)) (by assumption) ?_
          simp only [Act.put, List.setIfInBounds_toArray, List.set_cons_zero, List.set_cons_succ]
          refine wpAnyH_take (i := 25) (oi := { dst := some 84, op := Op.binOp BinOp.eql 24 (Operand.tmp 82) (Operand.tmp 83) 24, type := 4, pos := "outright.go:87", after := #[{ on := 23, ground := Ground.data }, { on := 24, ground := Ground.data }, { on := 22, ground := Ground.guard }], guard := some (22, true) }) (v := .bool e2) rfl (by kernel_rfl) (by kernel_rfl) (by kernel_rfl) (fun _ _ _ h => h) (Or.inl ⟨by rfl, fun w hSw => by go_simp⟩) (by assumption) ?_
          simp only [Act.put, List.setIfInBounds_toArray, List.set_cons_zero, List.set_cons_succ]
          refine wpAnyH_take (i := 26) (oi := { dst := some 85, op := Op.pick (Operand.tmp 81) (Operand.tmp 84) (Operand.const (Value.bool false)), type := 4, pos := "outright.go:87", after := #[{ on := 22, ground := Ground.data }, { on := 25, ground := Ground.data }, { on := 11, ground := Ground.guard }], guard := some (11, true) }) (v := .bool e2) rfl (by kernel_rfl) (by kernel_rfl) (by kernel_rfl) (fun _ _ _ h => h) (Or.inl ⟨by rfl, fun w hSw => by go_simp⟩) (by assumption) ?_
          simp only [Act.put, List.setIfInBounds_toArray, List.set_cons_zero, List.set_cons_succ]
          refine wpAnyH_take (i := 27) (oi := { dst := some 86, op := Op.binOp BinOp.eql 4 (Operand.tmp 77) (Operand.tmp 85) 4, type := 4, pos := "outright.go:87", after := #[{ on := 18, ground := Ground.data }, { on := 26, ground := Ground.data }, { on := 11, ground := Ground.guard }], guard := some (11, true) }) (v := .bool true) rfl (by kernel_rfl) (by kernel_rfl) (by kernel_rfl) (fun _ _ _ h => h) (Or.inl ⟨by rfl, fun w hSw => by go_simp⟩) (by assumption) ?_
          simp only [Act.put, List.setIfInBounds_toArray, List.set_cons_zero, List.set_cons_succ]
          refine wpAnyH_take (i := 28) (oi := { dst := some 87, op := Op.pick (Operand.tmp 70) (Operand.tmp 86) (Operand.const (Value.bool false)), type := 4, pos := "outright.go:87", after := #[{ on := 11, ground := Ground.data }, { on := 27, ground := Ground.data }], guard := none }) (v := .bool true) rfl (by kernel_rfl) (by kernel_rfl) (by kernel_rfl) (fun _ _ _ h => h) (Or.inl ⟨by rfl, fun w hSw => by go_simp⟩) (by assumption) ?_
          simp only [Act.put, List.setIfInBounds_toArray, List.set_cons_zero, List.set_cons_succ]
          refine wpAnyH_take (i := 29) (oi := { dst := some 88, op := Op.move (Operand.tmp 87), type := 4, pos := "outright.go:87", after := #[{ on := 28, ground := Ground.data }, { on := 22, ground := Ground.chain }], guard := none }) (v := .bool true) rfl (by kernel_rfl) (by kernel_rfl) (by kernel_rfl) (fun _ _ _ h => h) (Or.inl ⟨by rfl, fun w hSw => by go_simp⟩) (by assumption) ?_
          simp only [Act.put, List.setIfInBounds_toArray, List.set_cons_zero, List.set_cons_succ]
          refine wpAnyH_take (i := 30) (oi := { dst := some 89, op := Op.load 24 (Operand.tmp 10), type := 24, pos := "outright.go:87", after := #[{ on := 29, ground := Ground.guard }], guard := some (29, true) }) (v := .agg (ULIST .u8 32 a).toArray) rfl (by kernel_rfl) (by kernel_rfl) (by kernel_rfl) (fun _ _ _ h => h) (yieldsIf_load_mid (by rfl) _ _ rfl _ _ rfl (ULIST .u8 32 a) _ (fun w h => h.1) Tryd.underlying24 rfl (hi a)) (by assumption) ?_
          simp only [Act.put, List.setIfInBounds_toArray, List.set_cons_zero, List.set_cons_succ]
          refine wpAnyH_take (i := 31) (oi := { dst := some 90, op := Op.load 24 (Operand.tmp 11), type := 24, pos := "outright.go:87", after := #[{ on := 29, ground := Ground.guard }], guard := some (29, true) }) (v := .agg (ULIST .u8 32 b).toArray) rfl (by kernel_rfl) (by kernel_rfl) (by kernel_rfl) (fun _ _ _ h => h) (yieldsIf_load_mid (by rfl) _ _ rfl _ _ rfl (ULIST .u8 32 b) _ (fun w h => h.2.1) Tryd.underlying24 rfl (hi b)) (by assumption) ?_
          simp only [Act.put, List.setIfInBounds_toArray, List.set_cons_zero, List.set_cons_succ]
          refine wpAnyH_take (i := 33) (oi := { dst := some 92, op := Op.load 24 (Operand.tmp 12), type := 24, pos := "outright.go:87", after := #[{ on := 29, ground := Ground.guard }], guard := some (29, true) }) (v := .agg (ULIST .u8 32 c).toArray) rfl (by kernel_rfl) (by kernel_rfl) (by kernel_rfl) (fun _ _ _ h => h) (yieldsIf_load_mid (by rfl) _ _ rfl _ _ rfl (ULIST .u8 32 c) _ (fun w h => h.2.2.1) Tryd.underlying24 rfl (hi c)) (by assumption) ?_
          simp only [Act.put, List.setIfInBounds_toArray, List.set_cons_zero, List.set_cons_succ]
          refine wpAnyH_take (i := 34) (oi := { dst := some 93, op := Op.load 24 (Operand.tmp 13), type := 24, pos := "outright.go:87", after := #[{ on := 29, ground := Ground.guard }], guard := some (29, true) }) (v := .agg (ULIST .u8 32 d).toArray) rfl (by kernel_rfl) (by kernel_rfl) (by kernel_rfl) (fun _ _ _ h => h) (yieldsIf_load_mid (by rfl) _ _ rfl _ _ rfl (ULIST .u8 32 d) _ (fun w h => h.2.2.2) Tryd.underlying24 rfl (hi d)) (by assumption) ?_
          simp only [Act.put, List.setIfInBounds_toArray, List.set_cons_zero, List.set_cons_succ]
          refine wpAnyH_take (i := 37) (oi := { dst := some 96, op := Op.load 24 (Operand.tmp 10), type := 24, pos := "outright.go:87", after := #[{ on := 29, ground := Ground.guard }], guard := some (29, true) }) (v := .agg (ULIST .u8 32 a).toArray) rfl (by kernel_rfl) (by kernel_rfl) (by kernel_rfl) (fun _ _ _ h => h) (yieldsIf_load_mid (by rfl) _ _ rfl _ _ rfl (ULIST .u8 32 a) _ (fun w h => h.1) Tryd.underlying24 rfl (hi a)) (by assumption) ?_
          simp only [Act.put, List.setIfInBounds_toArray, List.set_cons_zero, List.set_cons_succ]
          refine wpAnyH_take (i := 38) (oi := { dst := some 97, op := Op.load 24 (Operand.tmp 12), type := 24, pos := "outright.go:87", after := #[{ on := 29, ground := Ground.guard }], guard := some (29, true) }) (v := .agg (ULIST .u8 32 c).toArray) rfl (by kernel_rfl) (by kernel_rfl) (by kernel_rfl) (fun _ _ _ h => h) (yieldsIf_load_mid (by rfl) _ _ rfl _ _ rfl (ULIST .u8 32 c) _ (fun w h => h.2.2.1) Tryd.underlying24 rfl (hi c)) (by assumption) ?_
          simp only [Act.put, List.setIfInBounds_toArray, List.set_cons_zero, List.set_cons_succ]
          refine wpAnyH_take (i := 39) (oi := { dst := some 98, op := Op.binOp BinOp.eql 24 (Operand.tmp 96) (Operand.tmp 97) 24, type := 4, pos := "outright.go:87", after := #[{ on := 37, ground := Ground.data }, { on := 38, ground := Ground.data }, { on := 29, ground := Ground.guard }], guard := some (29, true) }) (v := .bool true) rfl (by kernel_rfl) (by kernel_rfl) (by kernel_rfl) (fun _ _ _ h => h) (Or.inl ⟨by rfl, fun w hSw => by go_simp⟩) (by assumption) ?_
          simp only [Act.put, List.setIfInBounds_toArray, List.set_cons_zero, List.set_cons_succ]
          refine wpAnyH_ready (rs := [32]) (by kernel_rfl) (by simp) ?_
          refine AllReadyH.cons (o := { dst := some 91, op := Op.call { callee := Callee.value (Operand.func 16), args := #[Operand.tmp 89, Operand.tmp 90], argTypes := #[24, 24] }, type := 22, pos := "outright.go:87", after := #[{ on := 30, ground := Ground.data }, { on := 31, ground := Ground.data }, { on := 29, ground := Ground.chain }, { on := 29, ground := Ground.guard }], guard := some (29, true) }) rfl (fun K hK => ?_) AllReadyH.nil
          rw [if_pos (by rfl)]
          go_simp
          refine (fab x9).mono ?_
          rintro e x10 ⟨ra10, rc10, rfl, o10, h10⟩
          have qq10 := four_below qq9 h10 F9.out
          have F10 : Aside (FOURIN g0 g1 g2 g3 x10) := F9.out.mono h10.size
          have P10 : Aside (Below w.heap.size w x10) := P9.out.trans (h10.mono P9.out.size)
          have Tx10 : Aside (Text x10 ra10 65 (2 :: ((List.range 32).map a ++ (List.range 32).map b)) ∧ Below x9.heap.size x9 x10) := ⟨Text.of_bytes (own_bytes_any o10 (INTS_bounds (hsm_fab))).1, h10⟩
          clear o10 h10
          refine hK.out _ _ (by assumption) (fun hHeld => ?_)
          clear hK K
          refine wpAnyH_ready (rs := [35]) (by kernel_rfl) (by simp) ?_
          refine AllReadyH.cons (o := { dst := some 94, op := Op.call { callee := Callee.value (Operand.func 16), args := #[Operand.tmp 92, Operand.tmp 93], argTypes := #[24, 24] }, type := 22, pos := "outright.go:87", after := #[{ on := 33, ground := Ground.data }, { on := 34, ground := Ground.data }, { on := 32, ground := Ground.chain }, { on := 29, ground := Ground.guard }], guard := some (29, true) }) rfl (fun K hK => ?_) AllReadyH.nil
          rw [if_pos (by rfl)]
          go_simp
          refine (fcd x10).mono ?_
          rintro e x11 ⟨ra11, rc11, rfl, o11, h11⟩
          have qq11 := four_below qq10 h11 F10.out
          have F11 : Aside (FOURIN g0 g1 g2 g3 x11) := F10.out.mono h11.size
          have P11 : Aside (Below w.heap.size w x11) := P10.out.trans (h11.mono P10.out.size)
          have Tx11 : Aside (Text x11 ra11 65 (2 :: ((List.range 32).map c ++ (List.range 32).map d)) ∧ Below x10.heap.size x10 x11) := ⟨Text.of_bytes (own_bytes_any o11 (INTS_bounds (hsm_fcd))).1, h11⟩
          clear o11 h11
          refine hK.out _ _ (by assumption) (fun hHeld => ?_)
          clear hK K
          refine wpAnyH_ready (rs := [36]) (by kernel_rfl) (by simp) ?_
          refine AllReadyH.cons (o := { dst := some 95, op := Op.call { callee := Callee.value (Operand.func 18), args := #[Operand.tmp 91, Operand.tmp 94], argTypes := #[22, 22] }, type := 4, pos := "outright.go:87", after := #[{ on := 32, ground := Ground.data }, { on := 35, ground := Ground.data }, { on := 35, ground := Ground.chain }, { on := 29, ground := Ground.guard }], guard := some (29, true) }) rfl (fun K hK => ?_) AllReadyH.nil
          rw [if_pos (by rfl)]
          go_simp
          refine (same_is (hN.out 2) (same_ok ra10 ra11 65 65 rc10 rc11 (2 :: ((List.range 32).map a ++ (List.range 32).map b)) (2 :: ((List.range 32).map c ++ (List.range 32).map d)) x11 (Tx10.out.1.below Tx11.out.2) Tx11.out.1 (by omega))).mono ?_
          rintro e x12 ⟨rfl, h12⟩
          have qq12 := four_below qq11 h12 F11.out
          have F12 : Aside (FOURIN g0 g1 g2 g3 x12) := F11.out.mono h12.size
          have P12 : Aside (Below w.heap.size w x12) := P11.out.trans (h12.mono P11.out.size)
          have Bx12 : Aside (Below x11.heap.size x11 x12) := h12
          clear h12
          refine hK.out _ _ (by assumption) (fun hHeld => ?_)
          clear hK K
          refine wpAnyH_take (i := 40) (oi := { dst := some 99, op := Op.move (Operand.tmp 98), type := 4, pos := "outright.go:87", after := #[{ on := 39, ground := Ground.data }, { on := 36, ground := Ground.chain }, { on := 29, ground := Ground.guard }], guard := some (29, true) }) (v := .bool true) rfl (by kernel_rfl) (by kernel_rfl) (by kernel_rfl) (fun _ _ _ h => h) (Or.inl ⟨by rfl, fun w hSw => by go_simp⟩) (by assumption) ?_
          simp only [Act.put, List.setIfInBounds_toArray, List.set_cons_zero, List.set_cons_succ]
          refine wpAnyH_take (i := 41) (oi := { dst := some 100, op := Op.load 24 (Operand.tmp 11), type := 24, pos := "outright.go:87", after := #[{ on := 40, ground := Ground.guard }], guard := some (40, true) }) (v := .agg (ULIST .u8 32 b).toArray) rfl (by kernel_rfl) (by kernel_rfl) (by kernel_rfl) (fun _ _ _ h => h) (yieldsIf_load_mid (by rfl) _ _ rfl _ _ rfl (ULIST .u8 32 b) _ (fun w h => h.2.1) Tryd.underlying24 rfl (hi b)) (by assumption) ?_
          simp only [Act.put, List.setIfInBounds_toArray, List.set_cons_zero, List.set_cons_succ]
          refine wpAnyH_take (i := 42) (oi := { dst := some 101, op := Op.load 24 (Operand.tmp 13), type := 24, pos := "outright.go:87", after := #[{ on := 40, ground := Ground.guard }], guard := some (40, true) }) (v := .agg (ULIST .u8 32 d).toArray) rfl (by kernel_rfl) (by kernel_rfl) (by kernel_rfl) (fun _ _ _ h => h) (yieldsIf_load_mid (by rfl) _ _ rfl _ _ rfl (ULIST .u8 32 d) _ (fun w h => h.2.2.2) Tryd.underlying24 rfl (hi d)) (by assumption) ?_
          simp only [Act.put, List.setIfInBounds_toArray, List.set_cons_zero, List.set_cons_succ]
          refine wpAnyH_take (i := 43) (oi := { dst := some 102, op := Op.binOp BinOp.eql 24 (Operand.tmp 100) (Operand.tmp 101) 24, type := 4, pos := "outright.go:87", after := #[{ on := 41, ground := Ground.data }, { on := 42, ground := Ground.data }, { on := 40, ground := Ground.guard }], guard := some (40, true) }) (v := .bool e2) rfl (by kernel_rfl) (by kernel_rfl) (by kernel_rfl) (fun _ _ _ h => h) (Or.inl ⟨by rfl, fun w hSw => by go_simp⟩) (by assumption) ?_
          simp only [Act.put, List.setIfInBounds_toArray, List.set_cons_zero, List.set_cons_succ]
          refine wpAnyH_take (i := 44) (oi := { dst := some 103, op := Op.pick (Operand.tmp 99) (Operand.tmp 102) (Operand.const (Value.bool false)), type := 4, pos := "outright.go:87", after := #[{ on := 40, ground := Ground.data }, { on := 43, ground := Ground.data }, { on := 29, ground := Ground.guard }], guard := some (29, true) }) (v := .bool e2) rfl (by kernel_rfl) (by kernel_rfl) (by kernel_rfl) (fun _ _ _ h => h) (Or.inl ⟨by rfl, fun w hSw => by go_simp⟩) (by assumption) ?_
          simp only [Act.put, List.setIfInBounds_toArray, List.set_cons_zero, List.set_cons_succ]
          refine wpAnyH_take (i := 45) (oi := { dst := some 104, op := Op.binOp BinOp.eql 4 (Operand.tmp 95) (Operand.tmp 103) 4, type := 4, pos := "outright.go:87", after := #[{ on := 36, ground := Ground.data }, { on := 44, ground := Ground.data }, { on := 29, ground := Ground.guard }], guard := some (29, true) }) (v := .bool true) rfl (by kernel_rfl) (by kernel_rfl) (by kernel_rfl) (fun _ _ _ h => h) (Or.inl ⟨by rfl, fun w hSw => by go_simp⟩) (by assumption) ?_
          simp only [Act.put, List.setIfInBounds_toArray, List.set_cons_zero, List.set_cons_succ]
          refine wpAnyH_take (i := 46) (oi := { dst := some 105, op := Op.pick (Operand.tmp 88) (Operand.tmp 104) (Operand.const (Value.bool false)), type := 4, pos := "outright.go:87", after := #[{ on := 29, ground := Ground.data }, { on := 45, ground := Ground.data }], guard := none }) (v := .bool true) rfl (by kernel_rfl) (by kernel_rfl) (by kernel_rfl) (fun _ _ _ h => h) (Or.inl ⟨by rfl, fun w hSw => by go_simp⟩) (by assumption) ?_
          simp only [Act.put, List.setIfInBounds_toArray, List.set_cons_zero, List.set_cons_succ]
          refine wpAnyH_take (i := 47) (oi := { dst := some 106, op := Op.move (Operand.tmp 105), type := 4, pos := "outright.go:87", after := #[{ on := 46, ground := Ground.data }, { on := 40, ground := Ground.chain }], guard := none }) (v := .bool true) rfl (by kernel_rfl) (by kernel_rfl) (by kernel_rfl) (fun _ _ _ h => h) (Or.inl ⟨by rfl, fun w hSw => by go_simp⟩) (by assumption) ?_
          simp only [Act.put, List.setIfInBounds_toArray, List.set_cons_zero, List.set_cons_succ]
          refine wpAnyH_take (i := 48) (oi := { dst := some 107, op := Op.move (Operand.tmp 6), type := 37, pos := "outright.go:87", after := #[{ on := 47, ground := Ground.guard }], guard := some (47, true) }) (v := .int .u64 (n : Int)) rfl (by kernel_rfl) (by kernel_rfl) (by kernel_rfl) (fun _ _ _ h => h) (Or.inl ⟨by rfl, fun w hSw => by go_simp⟩) (by assumption) ?_
          simp only [Act.put, List.setIfInBounds_toArray, List.set_cons_zero, List.set_cons_succ]
          refine wpAnyH_take (i := 49) (oi := { dst := some 108, op := Op.load 24 (Operand.tmp 10), type := 24, pos := "outright.go:87", after := #[{ on := 47, ground := Ground.guard }], guard := some (47, true) }) (v := .agg (ULIST .u8 32 a).toArray) rfl (by kernel_rfl) (by kernel_rfl) (by kernel_rfl) (fun _ _ _ h => h) (yieldsIf_load_mid (by rfl) _ _ rfl _ _ rfl (ULIST .u8 32 a) _ (fun w h => h.1) Tryd.underlying24 rfl (hi a)) (by assumption) ?_
          simp only [Act.put, List.setIfInBounds_toArray, List.set_cons_zero, List.set_cons_succ]
          refine wpAnyH_take (i := 51) (oi := { dst := some 110, op := Op.move (Operand.tmp 7), type := 37, pos := "outright.go:87", after := #[{ on := 47, ground := Ground.guard }], guard := some (47, true) }) (v := .int .u64 (m : Int)) rfl (by kernel_rfl) (by kernel_rfl) (by kernel_rfl) (fun _ _ _ h => h) (Or.inl ⟨by rfl, fun w hSw => by go_simp⟩) (by assumption) ?_
          simp only [Act.put, List.setIfInBounds_toArray, List.set_cons_zero, List.set_cons_succ]
          refine wpAnyH_take (i := 52) (oi := { dst := some 111, op := Op.load 24 (Operand.tmp 12), type := 24, pos := "outright.go:87", after := #[{ on := 47, ground := Ground.guard }], guard := some (47, true) }) (v := .agg (ULIST .u8 32 c).toArray) rfl (by kernel_rfl) (by kernel_rfl) (by kernel_rfl) (fun _ _ _ h => h) (yieldsIf_load_mid (by rfl) _ _ rfl _ _ rfl (ULIST .u8 32 c) _ (fun w h => h.2.2.1) Tryd.underlying24 rfl (hi c)) (by assumption) ?_
          simp only [Act.put, List.setIfInBounds_toArray, List.set_cons_zero, List.set_cons_succ]
          refine wpAnyH_take (i := 55) (oi := { dst := some 114, op := Op.move (Operand.tmp 6), type := 37, pos := "outright.go:87", after := #[{ on := 47, ground := Ground.guard }], guard := some (47, true) }) (v := .int .u64 (n : Int)) rfl (by kernel_rfl) (by kernel_rfl) (by kernel_rfl) (fun _ _ _ h => h) (Or.inl ⟨by rfl, fun w hSw => by go_simp⟩) (by assumption) ?_
          simp only [Act.put, List.setIfInBounds_toArray, List.set_cons_zero, List.set_cons_succ]
          refine wpAnyH_take (i := 56) (oi := { dst := some 115, op := Op.move (Operand.tmp 7), type := 37, pos := "outright.go:87", after := #[{ on := 47, ground := Ground.guard }], guard := some (47, true) }) (v := .int .u64 (m : Int)) rfl (by kernel_rfl) (by kernel_rfl) (by kernel_rfl) (fun _ _ _ h => h) (Or.inl ⟨by rfl, fun w hSw => by go_simp⟩) (by assumption) ?_
          simp only [Act.put, List.setIfInBounds_toArray, List.set_cons_zero, List.set_cons_succ]
          refine wpAnyH_take (i := 57) (oi := { dst := some 116, op := Op.binOp BinOp.eql 37 (Operand.tmp 114) (Operand.tmp 115) 37, type := 4, pos := "outright.go:87", after := #[{ on := 55, ground := Ground.data }, { on := 56, ground := Ground.data }, { on := 47, ground := Ground.guard }], guard := some (47, true) }) (v := .bool false) rfl (by kernel_rfl) (by kernel_rfl) (by kernel_rfl) (fun _ _ _ h => h) (Or.inl ⟨by rfl, fun w hSw => by go_simp⟩) (by assumption) ?_
          simp only [Act.put, List.setIfInBounds_toArray, List.set_cons_zero, List.set_cons_succ]
          refine wpAnyH_ready (rs := [50]) (by kernel_rfl) (by simp) ?_
          refine AllReadyH.cons (o := { dst := some 109, op := Op.call { callee := Callee.value (Operand.func 17), args := #[Operand.tmp 107, Operand.tmp 108], argTypes := #[37, 24] }, type := 22, pos := "outright.go:87", after := #[{ on := 48, ground := Ground.data }, { on := 49, ground := Ground.data }, { on := 47, ground := Ground.chain }, { on := 47, ground := Ground.guard }], guard := some (47, true) }) rfl (fun K hK => ?_) AllReadyH.nil
          rw [if_pos (by rfl)]
          go_simp
          refine (rna x12).mono ?_
          rintro e x13 ⟨ra13, rc13, rfl, o13, h13⟩
          have qq13 := four_below qq12 h13 F12.out
          have F13 : Aside (FOURIN g0 g1 g2 g3 x13) := F12.out.mono h13.size
          have P13 : Aside (Below w.heap.size w x13) := P12.out.trans (h13.mono P12.out.size)
          have Tx13 : Aside (Text x13 ra13 41 (3 :: (BE8 n ++ (List.range 32).map a)) ∧ Below x12.heap.size x12 x13) := ⟨Text.of_bytes (own_bytes_any o13 (INTS_bounds (hsm_rna))).1, h13⟩
          clear o13 h13
          refine hK.out _ _ (by assumption) (fun hHeld => ?_)
          clear hK K
          refine wpAnyH_ready (rs := [53]) (by kernel_rfl) (by simp) ?_
          refine AllReadyH.cons (o := { dst := some 112, op := Op.call { callee := Callee.value (Operand.func 17), args := #[Operand.tmp 110, Operand.tmp 111], argTypes := #[37, 24] }, type := 22, pos := "outright.go:87", after := #[{ on := 51, ground := Ground.data }, { on := 52, ground := Ground.data }, { on := 50, ground := Ground.chain }, { on := 47, ground := Ground.guard }], guard := some (47, true) }) rfl (fun K hK => ?_) AllReadyH.nil
          rw [if_pos (by rfl)]
          go_simp
          refine (rmc x13).mono ?_
          rintro e x14 ⟨ra14, rc14, rfl, o14, h14⟩
          have qq14 := four_below qq13 h14 F13.out
          have F14 : Aside (FOURIN g0 g1 g2 g3 x14) := F13.out.mono h14.size
          have P14 : Aside (Below w.heap.size w x14) := P13.out.trans (h14.mono P13.out.size)
          have Tx14 : Aside (Text x14 ra14 41 (3 :: (BE8 m ++ (List.range 32).map c)) ∧ Below x13.heap.size x13 x14) := ⟨Text.of_bytes (own_bytes_any o14 (INTS_bounds (hsm_rmc))).1, h14⟩
          clear o14 h14
          refine hK.out _ _ (by assumption) (fun hHeld => ?_)
          clear hK K
          refine wpAnyH_ready (rs := [54]) (by kernel_rfl) (by simp) ?_
          refine AllReadyH.cons (o := { dst := some 113, op := Op.call { callee := Callee.value (Operand.func 18), args := #[Operand.tmp 109, Operand.tmp 112], argTypes := #[22, 22] }, type := 4, pos := "outright.go:87", after := #[{ on := 50, ground := Ground.data }, { on := 53, ground := Ground.data }, { on := 53, ground := Ground.chain }, { on := 47, ground := Ground.guard }], guard := some (47, true) }) rfl (fun K hK => ?_) AllReadyH.nil
          rw [if_pos (by rfl)]
          go_simp
          refine (same_is (hR.out) (same_ok ra13 ra14 41 41 rc13 rc14 (3 :: (BE8 n ++ (List.range 32).map a)) (3 :: (BE8 m ++ (List.range 32).map c)) x14 (Tx13.out.1.below Tx14.out.2) Tx14.out.1 (by omega))).mono ?_
          rintro e x15 ⟨rfl, h15⟩
          have qq15 := four_below qq14 h15 F14.out
          have F15 : Aside (FOURIN g0 g1 g2 g3 x15) := F14.out.mono h15.size
          have P15 : Aside (Below w.heap.size w x15) := P14.out.trans (h15.mono P14.out.size)
          have Bx15 : Aside (Below x14.heap.size x14 x15) := h15
          clear h15
          refine hK.out _ _ (by assumption) (fun hHeld => ?_)
          clear hK K
          refine wpAnyH_take (i := 58) (oi := { dst := some 117, op := Op.move (Operand.tmp 116), type := 4, pos := "outright.go:87", after := #[{ on := 57, ground := Ground.data }, { on := 54, ground := Ground.chain }, { on := 47, ground := Ground.guard }], guard := some (47, true) }) (v := .bool false) rfl (by kernel_rfl) (by kernel_rfl) (by kernel_rfl) (fun _ _ _ h => h) (Or.inl ⟨by rfl, fun w hSw => by go_simp⟩) (by assumption) ?_
          simp only [Act.put, List.setIfInBounds_toArray, List.set_cons_zero, List.set_cons_succ]
          refine wpAnyH_take (i := 59) (oi := { dst := some 118, op := Op.load 24 (Operand.tmp 10), type := 24, pos := "outright.go:87", after := #[{ on := 58, ground := Ground.guard }], guard := some (58, true) }) (v := undef) rfl (by kernel_rfl) (by kernel_rfl) (by kernel_rfl) (fun _ _ _ h => h) (Or.inr ⟨by rfl, rfl⟩) (by assumption) ?_
          simp only [Act.put, List.setIfInBounds_toArray, List.set_cons_zero, List.set_cons_succ]
          refine wpAnyH_take (i := 60) (oi := { dst := some 119, op := Op.load 24 (Operand.tmp 12), type := 24, pos := "outright.go:87", after := #[{ on := 58, ground := Ground.guard }], guard := some (58, true) }) (v := undef) rfl (by kernel_rfl) (by kernel_rfl) (by kernel_rfl) (fun _ _ _ h => h) (Or.inr ⟨by rfl, rfl⟩) (by assumption) ?_
          simp only [Act.put, List.setIfInBounds_toArray, List.set_cons_zero, List.set_cons_succ]
          refine wpAnyH_take (i := 61) (oi := { dst := some 120, op := Op.binOp BinOp.eql 24 (Operand.tmp 118) (Operand.tmp 119) 24, type := 4, pos := "outright.go:87", after := #[{ on := 59, ground := Ground.data }, { on := 60, ground := Ground.data }, { on := 58, ground := Ground.guard }], guard := some (58, true) }) (v := undef) rfl (by kernel_rfl) (by kernel_rfl) (by kernel_rfl) (fun _ _ _ h => h) (Or.inr ⟨by rfl, rfl⟩) (by assumption) ?_
          simp only [Act.put, List.setIfInBounds_toArray, List.set_cons_zero, List.set_cons_succ]
          refine wpAnyH_take (i := 62) (oi := { dst := some 121, op := Op.pick (Operand.tmp 117) (Operand.tmp 120) (Operand.const (Value.bool false)), type := 4, pos := "outright.go:87", after := #[{ on := 58, ground := Ground.data }, { on := 61, ground := Ground.data }, { on := 47, ground := Ground.guard }], guard := some (47, true) }) (v := .bool false) rfl (by kernel_rfl) (by kernel_rfl) (by kernel_rfl) (fun _ _ _ h => h) (Or.inl ⟨by rfl, fun w hSw => by go_simp⟩) (by assumption) ?_
          simp only [Act.put, List.setIfInBounds_toArray, List.set_cons_zero, List.set_cons_succ]
          refine wpAnyH_take (i := 63) (oi := { dst := some 122, op := Op.binOp BinOp.eql 4 (Operand.tmp 113) (Operand.tmp 121) 4, type := 4, pos := "outright.go:87", after := #[{ on := 54, ground := Ground.data }, { on := 62, ground := Ground.data }, { on := 47, ground := Ground.guard }], guard := some (47, true) }) (v := .bool true) rfl (by kernel_rfl) (by kernel_rfl) (by kernel_rfl) (fun _ _ _ h => h) (Or.inl ⟨by rfl, fun w hSw => by go_simp⟩) (by assumption) ?_
          simp only [Act.put, List.setIfInBounds_toArray, List.set_cons_zero, List.set_cons_succ]
          refine wpAnyH_take (i := 64) (oi := { dst := some 123, op := Op.pick (Operand.tmp 106) (Operand.tmp 122) (Operand.const (Value.bool false)), type := 4, pos := "outright.go:87", after := #[{ on := 47, ground := Ground.data }, { on := 63, ground := Ground.data }], guard := none }) (v := .bool true) rfl (by kernel_rfl) (by kernel_rfl) (by kernel_rfl) (fun _ _ _ h => h) (Or.inl ⟨by rfl, fun w hSw => by go_simp⟩) (by assumption) ?_
          simp only [Act.put, List.setIfInBounds_toArray, List.set_cons_zero, List.set_cons_succ]
          refine wpAnyH_take (i := 65) (oi := { dst := some 124, op := Op.move (Operand.tmp 123), type := 4, pos := "outright.go:87", after := #[{ on := 64, ground := Ground.data }, { on := 58, ground := Ground.chain }], guard := none }) (v := .bool true) rfl (by kernel_rfl) (by kernel_rfl) (by kernel_rfl) (fun _ _ _ h => h) (Or.inl ⟨by rfl, fun w hSw => by go_simp⟩) (by assumption) ?_
          simp only [Act.put, List.setIfInBounds_toArray, List.set_cons_zero, List.set_cons_succ]
          refine wpAnyH_ready (rs := [66]) (by kernel_rfl) (by simp) ?_
          refine AllReadyH.cons (o := { dst := some 125, op := Op.call { callee := Callee.value (Operand.func 9), args := #[], argTypes := #[] }, type := 4, pos := "outright.go:87", after := #[{ on := 65, ground := Ground.chain }, { on := 65, ground := Ground.guard }], guard := some (65, true) }) rfl (fun K hK => ?_) AllReadyH.nil
          rw [if_pos (by rfl)]
          go_simp
          refine (awake_ok x15 (H.out.2.2.2.2.2.2.2.2.2.2.below P15.out)).mono ?_
          rintro e x16 ⟨rfl, h16⟩
          have qq16 := four_below qq15 h16 F15.out
          have F16 : Aside (FOURIN g0 g1 g2 g3 x16) := F15.out.mono h16.size
          have P16 : Aside (Below w.heap.size w x16) := P15.out.trans (h16.mono P15.out.size)
          clear h16
          refine hK.out _ _ (by assumption) (fun hHeld => ?_)
          clear hK K
          refine wpAnyH_take (i := 67) (oi := { dst := some 126, op := Op.pick (Operand.tmp 124) (Operand.tmp 125) (Operand.const (Value.bool false)), type := 4, pos := "outright.go:87", after := #[{ on := 65, ground := Ground.data }, { on := 66, ground := Ground.data }], guard := none }) (v := .bool true) rfl (by kernel_rfl) (by kernel_rfl) (by kernel_rfl) (fun _ _ _ h => h) (Or.inl ⟨by rfl, fun w hSw => by go_simp⟩) (by assumption) ?_
          simp only [Act.put, List.setIfInBounds_toArray, List.set_cons_zero, List.set_cons_succ]
          refine wpAnyH_take (i := 68) (oi := { dst := some 16, op := Op.assign (Operand.tmp 126), type := 4, pos := "outright.go:87", after := #[{ on := 67, ground := Ground.data }, { on := 66, ground := Ground.chain }, { on := 0, ground := Ground.phase }, { on := 1, ground := Ground.phase }, { on := 2, ground := Ground.phase }, { on := 3, ground := Ground.phase }, { on := 4, ground := Ground.phase }, { on := 5, ground := Ground.phase }, { on := 6, ground := Ground.phase }, { on := 7, ground := Ground.phase }, { on := 8, ground := Ground.phase }, { on := 9, ground := Ground.phase }, { on := 10, ground := Ground.phase }, { on := 11, ground := Ground.phase }, { on := 12, ground := Ground.phase }, { on := 13, ground := Ground.phase }, { on := 14, ground := Ground.phase }, { on := 15, ground := Ground.phase }, { on := 16, ground := Ground.phase }, { on := 17, ground := Ground.phase }, { on := 18, ground := Ground.phase }, { on := 19, ground := Ground.phase }, { on := 20, ground := Ground.phase }, { on := 21, ground := Ground.phase }, { on := 22, ground := Ground.phase }, { on := 23, ground := Ground.phase }, { on := 24, ground := Ground.phase }, { on := 25, ground := Ground.phase }, { on := 26, ground := Ground.phase }, { on := 27, ground := Ground.phase }, { on := 28, ground := Ground.phase }, { on := 29, ground := Ground.phase }, { on := 30, ground := Ground.phase }, { on := 31, ground := Ground.phase }, { on := 32, ground := Ground.phase }, { on := 33, ground := Ground.phase }, { on := 34, ground := Ground.phase }, { on := 35, ground := Ground.phase }, { on := 36, ground := Ground.phase }, { on := 37, ground := Ground.phase }, { on := 38, ground := Ground.phase }, { on := 39, ground := Ground.phase }, { on := 40, ground := Ground.phase }, { on := 41, ground := Ground.phase }, { on := 42, ground := Ground.phase }, { on := 43, ground := Ground.phase }, { on := 44, ground := Ground.phase }, { on := 45, ground := Ground.phase }, { on := 46, ground := Ground.phase }, { on := 47, ground := Ground.phase }, { on := 48, ground := Ground.phase }, { on := 49, ground := Ground.phase }, { on := 50, ground := Ground.phase }, { on := 51, ground := Ground.phase }, { on := 52, ground := Ground.phase }, { on := 53, ground := Ground.phase }, { on := 54, ground := Ground.phase }, { on := 55, ground := Ground.phase }, { on := 56, ground := Ground.phase }, { on := 57, ground := Ground.phase }, { on := 58, ground := Ground.phase }, { on := 59, ground := Ground.phase }, { on := 60, ground := Ground.phase }, { on := 61, ground := Ground.phase }, { on := 62, ground := Ground.phase }, { on := 63, ground := Ground.phase }, { on := 64, ground := Ground.phase }, { on := 65, ground := Ground.phase }, { on := 66, ground := Ground.phase }, { on := 67, ground := Ground.phase }], guard := none }) (v := .bool true) rfl (by kernel_rfl) (by kernel_rfl) (by kernel_rfl) (fun _ _ _ h => h) (Or.inl ⟨by rfl, fun w hSw => by go_simp⟩) (by assumption) ?_
          simp only [Act.put, List.setIfInBounds_toArray, List.set_cons_zero, List.set_cons_succ]
          refine wpAnyH_done (by kernel_rfl) ?_ _
          have HE := P16
          go_wp2
          go_ret
          first | exact ⟨rfl, HE.out⟩ | exact ⟨rfl, by rw [← hg0]; exact HE.out⟩
        | false =>
          have hN : Aside (∀ o : Nat, decide (o :: ((List.range 32).map a ++ (List.range 32).map b) = o :: ((List.range 32).map c ++ (List.range 32).map d)) = false) := fun o => (hN.out o).trans (by simp)
          have hR : Aside (decide (3 :: (BE8 n ++ (List.range 32).map a) = 3 :: (BE8 m ++ (List.range 32).map c)) = false) := hR.out.trans (by simp)
          refine wp_region_held_drew (S := fun W : World => W.rangeAt g0 0 (ULIST .u8 32 a) ∧ W.rangeAt g1 0 (ULIST .u8 32 b) ∧ W.rangeAt g2 0 (ULIST .u8 32 c) ∧ W.rangeAt g3 0 (ULIST .u8 32 d)) (by kernel_rfl) hS (fun hHeld => ?_)
          change wpAnyH _ _ _ _ _ 69 (Array.replicate 69 false) _ (World.drew _)
          refine wpAnyH_take (i := 0) (oi := { dst := some 59, op := Op.move (Operand.tmp 0), type := 22, pos := "outright.go:87", after := #[], guard := none }) (v := .slice u p cp) rfl (by kernel_rfl) (by kernel_rfl) (by kernel_rfl) (fun _ _ _ h => h) (Or.inl ⟨by rfl, fun w hSw => by go_simp⟩) (by assumption) ?_
          simp only [Act.put, List.setIfInBounds_toArray, List.set_cons_zero, List.set_cons_succ]
          refine wpAnyH_take (i := 3) (oi := { dst := some 62, op := Op.move (Operand.tmp 1), type := 22, pos := "outright.go:87", after := #[], guard := none }) (v := .slice v q cq) rfl (by kernel_rfl) (by kernel_rfl) (by kernel_rfl) (fun _ _ _ h => h) (Or.inl ⟨by rfl, fun w hSw => by go_simp⟩) (by assumption) ?_
          simp only [Act.put, List.setIfInBounds_toArray, List.set_cons_zero, List.set_cons_succ]
          refine wpAnyH_take (i := 7) (oi := { dst := some 66, op := Op.move (Operand.tmp 0), type := 22, pos := "outright.go:87", after := #[], guard := none }) (v := .slice u p cp) rfl (by kernel_rfl) (by kernel_rfl) (by kernel_rfl) (fun _ _ _ h => h) (Or.inl ⟨by rfl, fun w hSw => by go_simp⟩) (by assumption) ?_
          simp only [Act.put, List.setIfInBounds_toArray, List.set_cons_zero, List.set_cons_succ]
          refine wpAnyH_take (i := 8) (oi := { dst := some 67, op := Op.move (Operand.tmp 1), type := 22, pos := "outright.go:87", after := #[], guard := none }) (v := .slice v q cq) rfl (by kernel_rfl) (by kernel_rfl) (by kernel_rfl) (fun _ _ _ h => h) (Or.inl ⟨by rfl, fun w hSw => by go_simp⟩) (by assumption) ?_
          simp only [Act.put, List.setIfInBounds_toArray, List.set_cons_zero, List.set_cons_succ]
          refine wpAnyH_ready (rs := [1]) (by kernel_rfl) (by simp) ?_
          refine AllReadyH.cons (o := { dst := some 60, op := Op.call { callee := Callee.value (Operand.func 7), args := #[Operand.tmp 59], argTypes := #[22] }, type := 22, pos := "outright.go:87", after := #[{ on := 0, ground := Ground.data }], guard := none }) rfl (fun K hK => ?_) AllReadyH.nil
          rw [if_pos (by rfl)]
          go_simp
          refine (row_ok u p cp lp wr.drew (H.out.1.below P0.out.drew) H.out.2.1 (by omega)).mono ?_
          rintro e x1 ⟨ra1, rc1, rfl, t1, l1, z1, h1⟩
          have qq1 := four_below hS h1 F0.out
          have F1 : Aside (FOURIN g0 g1 g2 g3 x1) := F0.out.mono h1.size
          have P1 : Aside (Below w.heap.size w x1) := P0.out.drew.trans (h1.mono P0.out.size)
          have R1 : Aside (Text x1 ra1 p lp ∧ p ≤ rc1 ∧ (∀ x, ra1 = some x → x.block < x1.heap.size) ∧ (ra1 = none → rc1 = 0)) := ⟨t1.front, by omega, fun x e => (z1 x e).2, fun e => (by have h := t1.2.1 (by omega); rw [e] at h; obtain ⟨_, _, h, _⟩ := h; cases h)⟩
          clear t1 l1 z1 h1
          refine hK.out _ _ (by assumption) (fun hHeld => ?_)
          clear hK K
          refine wpAnyH_ready (rs := [2]) (by kernel_rfl) (by simp) ?_
          refine AllReadyH.cons (o := { dst := some 61, op := Op.call { callee := Callee.value (Operand.func 14), args := #[Operand.tmp 60], argTypes := #[22] }, type := 22, pos := "outright.go:87", after := #[{ on := 1, ground := Ground.data }, { on := 1, ground := Ground.chain }], guard := none }) rfl (fun K hK => ?_) AllReadyH.nil
          rw [if_pos (by rfl)]
          go_simp
          refine (leaftext_ok ra1 p rc1 lp x1 R1.out.1 R1.out.2.2.2 (by omega) R1.out.2.1 R1.out.2.2.1).mono ?_
          rintro e x2 ⟨ra2, rc2, rfl, o2, h2⟩
          have qq2 := four_below qq1 h2 F1.out
          have F2 : Aside (FOURIN g0 g1 g2 g3 x2) := F1.out.mono h2.size
          have P2 : Aside (Below w.heap.size w x2) := P1.out.trans (h2.mono P1.out.size)
          have Tx2 : Aside (Text x2 ra2 (p + 1) (0 :: lp) ∧ Below x1.heap.size x1 x2) := ⟨Text.of_bytes (own_bytes_any o2 (INTS_bounds (small_cons (by decide) H.out.1.2.2))).1, h2⟩
          clear o2 h2
          refine hK.out _ _ (by assumption) (fun hHeld => ?_)
          clear hK K
          refine wpAnyH_ready (rs := [4]) (by kernel_rfl) (by simp) ?_
          refine AllReadyH.cons (o := { dst := some 63, op := Op.call { callee := Callee.value (Operand.func 7), args := #[Operand.tmp 62], argTypes := #[22] }, type := 22, pos := "outright.go:87", after := #[{ on := 3, ground := Ground.data }, { on := 2, ground := Ground.chain }], guard := none }) rfl (fun K hK => ?_) AllReadyH.nil
          rw [if_pos (by rfl)]
          go_simp
          refine (row_ok v q cq lq x2 (H.out.2.2.2.2.2.2.2.2.1.below P2.out) H.out.2.2.2.2.2.2.2.2.2.1 (by omega)).mono ?_
          rintro e x3 ⟨ra3, rc3, rfl, t3, l3, z3, h3⟩
          have qq3 := four_below qq2 h3 F2.out
          have F3 : Aside (FOURIN g0 g1 g2 g3 x3) := F2.out.mono h3.size
          have P3 : Aside (Below w.heap.size w x3) := P2.out.trans (h3.mono P2.out.size)
          have R3 : Aside (Text x3 ra3 q lq ∧ q ≤ rc3 ∧ (∀ x, ra3 = some x → x.block < x3.heap.size) ∧ (ra3 = none → rc3 = 0)) := ⟨t3.front, by omega, fun x e => (z3 x e).2, fun e => (by have h := t3.2.1 (by omega); rw [e] at h; obtain ⟨_, _, h, _⟩ := h; cases h)⟩
          have BR3 : Aside (Below x2.heap.size x2 x3) := h3
          clear t3 l3 z3 h3
          refine hK.out _ _ (by assumption) (fun hHeld => ?_)
          clear hK K
          refine wpAnyH_ready (rs := [5]) (by kernel_rfl) (by simp) ?_
          refine AllReadyH.cons (o := { dst := some 64, op := Op.call { callee := Callee.value (Operand.func 14), args := #[Operand.tmp 63], argTypes := #[22] }, type := 22, pos := "outright.go:87", after := #[{ on := 4, ground := Ground.data }, { on := 4, ground := Ground.chain }], guard := none }) rfl (fun K hK => ?_) AllReadyH.nil
          rw [if_pos (by rfl)]
          go_simp
          refine (leaftext_ok ra3 q rc3 lq x3 R3.out.1 R3.out.2.2.2 (by omega) R3.out.2.1 R3.out.2.2.1).mono ?_
          rintro e x4 ⟨ra4, rc4, rfl, o4, h4⟩
          have qq4 := four_below qq3 h4 F3.out
          have F4 : Aside (FOURIN g0 g1 g2 g3 x4) := F3.out.mono h4.size
          have P4 : Aside (Below w.heap.size w x4) := P3.out.trans (h4.mono P3.out.size)
          have Tx4 : Aside (Text x4 ra4 (q + 1) (0 :: lq) ∧ Below x3.heap.size x3 x4) := ⟨Text.of_bytes (own_bytes_any o4 (INTS_bounds (small_cons (by decide) H.out.2.2.2.2.2.2.2.2.1.2.2))).1, h4⟩
          clear o4 h4
          refine hK.out _ _ (by assumption) (fun hHeld => ?_)
          clear hK K
          refine wpAnyH_ready (rs := [6]) (by kernel_rfl) (by simp) ?_
          refine AllReadyH.cons (o := { dst := some 65, op := Op.call { callee := Callee.value (Operand.func 18), args := #[Operand.tmp 61, Operand.tmp 64], argTypes := #[22, 22] }, type := 4, pos := "outright.go:87", after := #[{ on := 2, ground := Ground.data }, { on := 5, ground := Ground.data }, { on := 5, ground := Ground.chain }], guard := none }) rfl (fun K hK => ?_) AllReadyH.nil
          rw [if_pos (by rfl)]
          go_simp
          refine (same_is ((leaf_same lp lq).trans hX.out) (same_ok ra2 ra4 (p + 1) (q + 1) rc2 rc4 (0 :: lp) (0 :: lq) x4 ((Tx2.out.1.below BR3.out).below Tx4.out.2) Tx4.out.1 (by omega))).mono ?_
          rintro e x5 ⟨rfl, h5⟩
          have qq5 := four_below qq4 h5 F4.out
          have F5 : Aside (FOURIN g0 g1 g2 g3 x5) := F4.out.mono h5.size
          have P5 : Aside (Below w.heap.size w x5) := P4.out.trans (h5.mono P4.out.size)
          have Bx5 : Aside (Below x4.heap.size x4 x5) := h5
          clear h5
          refine hK.out _ _ (by assumption) (fun hHeld => ?_)
          clear hK K
          refine wpAnyH_ready (rs := [9]) (by kernel_rfl) (by simp) ?_
          refine AllReadyH.cons (o := { dst := some 68, op := Op.call { callee := Callee.value (Operand.func 18), args := #[Operand.tmp 66, Operand.tmp 67], argTypes := #[22, 22] }, type := 4, pos := "outright.go:87", after := #[{ on := 7, ground := Ground.data }, { on := 8, ground := Ground.data }, { on := 6, ground := Ground.chain }], guard := none }) rfl (fun K hK => ?_) AllReadyH.nil
          rw [if_pos (by rfl)]
          go_simp
          refine (same_is hX.out (same_ok u v p q cp cq lp lq x5 (H.out.1.below P5.out) (H.out.2.2.2.2.2.2.2.2.1.below P5.out) (by omega))).mono ?_
          rintro e x6 ⟨rfl, h6⟩
          have qq6 := four_below qq5 h6 F5.out
          have F6 : Aside (FOURIN g0 g1 g2 g3 x6) := F5.out.mono h6.size
          have P6 : Aside (Below w.heap.size w x6) := P5.out.trans (h6.mono P5.out.size)
          clear h6
          refine hK.out _ _ (by assumption) (fun hHeld => ?_)
          clear hK K
          refine wpAnyH_take (i := 10) (oi := { dst := some 69, op := Op.binOp BinOp.eql 4 (Operand.tmp 65) (Operand.tmp 68) 4, type := 4, pos := "outright.go:87", after := #[{ on := 6, ground := Ground.data }, { on := 9, ground := Ground.data }], guard := none }) (v := .bool true) rfl (by kernel_rfl) (by kernel_rfl) (by kernel_rfl) (fun _ _ _ h => h) (Or.inl ⟨by rfl, fun w hSw => by go_simp⟩) (by assumption) ?_
          simp only [Act.put, List.setIfInBounds_toArray, List.set_cons_zero, List.set_cons_succ]
          refine wpAnyH_take (i := 11) (oi := { dst := some 70, op := Op.move (Operand.tmp 69), type := 4, pos := "outright.go:87", after := #[{ on := 10, ground := Ground.data }, { on := 9, ground := Ground.chain }], guard := none }) (v := .bool true) rfl (by kernel_rfl) (by kernel_rfl) (by kernel_rfl) (fun _ _ _ h => h) (Or.inl ⟨by rfl, fun w hSw => by go_simp⟩) (by assumption) ?_
          simp only [Act.put, List.setIfInBounds_toArray, List.set_cons_zero, List.set_cons_succ]
          refine wpAnyH_take (i := 12) (oi := { dst := some 71, op := Op.load 24 (Operand.tmp 10), type := 24, pos := "outright.go:87", after := #[{ on := 11, ground := Ground.guard }], guard := some (11, true) }) (v := .agg (ULIST .u8 32 a).toArray) rfl (by kernel_rfl) (by kernel_rfl) (by kernel_rfl) (fun _ _ _ h => h) (yieldsIf_load_mid (by rfl) _ _ rfl _ _ rfl (ULIST .u8 32 a) _ (fun w h => h.1) Tryd.underlying24 rfl (hi a)) (by assumption) ?_
          simp only [Act.put, List.setIfInBounds_toArray, List.set_cons_zero, List.set_cons_succ]
          refine wpAnyH_take (i := 13) (oi := { dst := some 72, op := Op.load 24 (Operand.tmp 11), type := 24, pos := "outright.go:87", after := #[{ on := 11, ground := Ground.guard }], guard := some (11, true) }) (v := .agg (ULIST .u8 32 b).toArray) rfl (by kernel_rfl) (by kernel_rfl) (by kernel_rfl) (fun _ _ _ h => h) (yieldsIf_load_mid (by rfl) _ _ rfl _ _ rfl (ULIST .u8 32 b) _ (fun w h => h.2.1) Tryd.underlying24 rfl (hi b)) (by assumption) ?_
          simp only [Act.put, List.setIfInBounds_toArray, List.set_cons_zero, List.set_cons_succ]
          refine wpAnyH_take (i := 15) (oi := { dst := some 74, op := Op.load 24 (Operand.tmp 12), type := 24, pos := "outright.go:87", after := #[{ on := 11, ground := Ground.guard }], guard := some (11, true) }) (v := .agg (ULIST .u8 32 c).toArray) rfl (by kernel_rfl) (by kernel_rfl) (by kernel_rfl) (fun _ _ _ h => h) (yieldsIf_load_mid (by rfl) _ _ rfl _ _ rfl (ULIST .u8 32 c) _ (fun w h => h.2.2.1) Tryd.underlying24 rfl (hi c)) (by assumption) ?_
          simp only [Act.put, List.setIfInBounds_toArray, List.set_cons_zero, List.set_cons_succ]
          refine wpAnyH_take (i := 16) (oi := { dst := some 75, op := Op.load 24 (Operand.tmp 13), type := 24, pos := "outright.go:87", after := #[{ on := 11, ground := Ground.guard }], guard := some (11, true) }) (v := .agg (ULIST .u8 32 d).toArray) rfl (by kernel_rfl) (by kernel_rfl) (by kernel_rfl) (fun _ _ _ h => h) (yieldsIf_load_mid (by rfl) _ _ rfl _ _ rfl (ULIST .u8 32 d) _ (fun w h => h.2.2.2) Tryd.underlying24 rfl (hi d)) (by assumption) ?_
          simp only [Act.put, List.setIfInBounds_toArray, List.set_cons_zero, List.set_cons_succ]
          refine wpAnyH_take (i := 19) (oi := { dst := some 78, op := Op.load 24 (Operand.tmp 10), type := 24, pos := "outright.go:87", after := #[{ on := 11, ground := Ground.guard }], guard := some (11, true) }) (v := .agg (ULIST .u8 32 a).toArray) rfl (by kernel_rfl) (by kernel_rfl) (by kernel_rfl) (fun _ _ _ h => h) (yieldsIf_load_mid (by rfl) _ _ rfl _ _ rfl (ULIST .u8 32 a) _ (fun w h => h.1) Tryd.underlying24 rfl (hi a)) (by assumption) ?_
          simp only [Act.put, List.setIfInBounds_toArray, List.set_cons_zero, List.set_cons_succ]
          refine wpAnyH_take (i := 20) (oi := { dst := some 79, op := Op.load 24 (Operand.tmp 12), type := 24, pos := "outright.go:87", after := #[{ on := 11, ground := Ground.guard }], guard := some (11, true) }) (v := .agg (ULIST .u8 32 c).toArray) rfl (by kernel_rfl) (by kernel_rfl) (by kernel_rfl) (fun _ _ _ h => h) (yieldsIf_load_mid (by rfl) _ _ rfl _ _ rfl (ULIST .u8 32 c) _ (fun w h => h.2.2.1) Tryd.underlying24 rfl (hi c)) (by assumption) ?_
          simp only [Act.put, List.setIfInBounds_toArray, List.set_cons_zero, List.set_cons_succ]
          refine wpAnyH_take (i := 21) (oi := { dst := some 80, op := Op.binOp BinOp.eql 24 (Operand.tmp 78) (Operand.tmp 79) 24, type := 4, pos := "outright.go:87", after := #[{ on := 19, ground := Ground.data }, { on := 20, ground := Ground.data }, { on := 11, ground := Ground.guard }], guard := some (11, true) }) (v := .bool false) rfl (by kernel_rfl) (by kernel_rfl) (by kernel_rfl) (fun _ _ _ h => h) (Or.inl ⟨by rfl, fun w hSw => by go_simp⟩) (by assumption) ?_
          simp only [Act.put, List.setIfInBounds_toArray, List.set_cons_zero, List.set_cons_succ]
          refine wpAnyH_ready (rs := [14]) (by kernel_rfl) (by simp) ?_
          refine AllReadyH.cons (o := { dst := some 73, op := Op.call { callee := Callee.value (Operand.func 15), args := #[Operand.tmp 71, Operand.tmp 72], argTypes := #[24, 24] }, type := 22, pos := "outright.go:87", after := #[{ on := 12, ground := Ground.data }, { on := 13, ground := Ground.data }, { on := 11, ground := Ground.chain }, { on := 11, ground := Ground.guard }], guard := some (11, true) }) rfl (fun K hK => ?_) AllReadyH.nil
          rw [if_pos (by rfl)]
          go_simp
          refine (nab x6).mono ?_
          rintro e x7 ⟨ra7, rc7, rfl, o7, h7⟩
          have qq7 := four_below qq6 h7 F6.out
          have F7 : Aside (FOURIN g0 g1 g2 g3 x7) := F6.out.mono h7.size
          have P7 : Aside (Below w.heap.size w x7) := P6.out.trans (h7.mono P6.out.size)
          have Tx7 : Aside (Text x7 ra7 65 (1 :: ((List.range 32).map a ++ (List.range 32).map b)) ∧ Below x6.heap.size x6 x7) := ⟨Text.of_bytes (own_bytes_any o7 (INTS_bounds (hsm_nab))).1, h7⟩
          clear o7 h7
          refine hK.out _ _ (by assumption) (fun hHeld => ?_)
          clear hK K
          refine wpAnyH_ready (rs := [17]) (by kernel_rfl) (by simp) ?_
          refine AllReadyH.cons (o := { dst := some 76, op := Op.call { callee := Callee.value (Operand.func 15), args := #[Operand.tmp 74, Operand.tmp 75], argTypes := #[24, 24] }, type := 22, pos := "outright.go:87", after := #[{ on := 15, ground := Ground.data }, { on := 16, ground := Ground.data }, { on := 14, ground := Ground.chain }, { on := 11, ground := Ground.guard }], guard := some (11, true) }) rfl (fun K hK => ?_) AllReadyH.nil
          rw [if_pos (by rfl)]
          go_simp
          refine (ncd x7).mono ?_
          rintro e x8 ⟨ra8, rc8, rfl, o8, h8⟩
          have qq8 := four_below qq7 h8 F7.out
          have F8 : Aside (FOURIN g0 g1 g2 g3 x8) := F7.out.mono h8.size
          have P8 : Aside (Below w.heap.size w x8) := P7.out.trans (h8.mono P7.out.size)
          have Tx8 : Aside (Text x8 ra8 65 (1 :: ((List.range 32).map c ++ (List.range 32).map d)) ∧ Below x7.heap.size x7 x8) := ⟨Text.of_bytes (own_bytes_any o8 (INTS_bounds (hsm_ncd))).1, h8⟩
          clear o8 h8
          refine hK.out _ _ (by assumption) (fun hHeld => ?_)
          clear hK K
          refine wpAnyH_ready (rs := [18]) (by kernel_rfl) (by simp) ?_
          refine AllReadyH.cons (o := { dst := some 77, op := Op.call { callee := Callee.value (Operand.func 18), args := #[Operand.tmp 73, Operand.tmp 76], argTypes := #[22, 22] }, type := 4, pos := "outright.go:87", after := #[{ on := 14, ground := Ground.data }, { on := 17, ground := Ground.data }, { on := 17, ground := Ground.chain }, { on := 11, ground := Ground.guard }], guard := some (11, true) }) rfl (fun K hK => ?_) AllReadyH.nil
          rw [if_pos (by rfl)]
          go_simp
          refine (same_is (hN.out 1) (same_ok ra7 ra8 65 65 rc7 rc8 (1 :: ((List.range 32).map a ++ (List.range 32).map b)) (1 :: ((List.range 32).map c ++ (List.range 32).map d)) x8 (Tx7.out.1.below Tx8.out.2) Tx8.out.1 (by omega))).mono ?_
          rintro e x9 ⟨rfl, h9⟩
          have qq9 := four_below qq8 h9 F8.out
          have F9 : Aside (FOURIN g0 g1 g2 g3 x9) := F8.out.mono h9.size
          have P9 : Aside (Below w.heap.size w x9) := P8.out.trans (h9.mono P8.out.size)
          have Bx9 : Aside (Below x8.heap.size x8 x9) := h9
          clear h9
          refine hK.out _ _ (by assumption) (fun hHeld => ?_)
          clear hK K
          refine wpAnyH_take (i := 22) (oi := { dst := some 81, op := Op.move (Operand.tmp 80), type := 4, pos := "outright.go:87", after := #[{ on := 21, ground := Ground.data }, { on := 18, ground := Ground.chain }, { on := 11, ground := Ground.guard }], guard := some (11, true) }) (v := .bool false) rfl (by kernel_rfl) (by kernel_rfl) (by kernel_rfl) (fun _ _ _ h => h) (Or.inl ⟨by rfl, fun w hSw => by go_simp⟩) (by assumption) ?_
          simp only [Act.put, List.setIfInBounds_toArray, List.set_cons_zero, List.set_cons_succ]
          refine wpAnyH_take (i := 23) (oi := { dst := some 82, op := Op.load 24 (Operand.tmp 11), type := 24, pos := "outright.go:87", after := #[{ on := 22, ground := Ground.guard }], guard := some (22, true) }) (v := undef) rfl (by kernel_rfl) (by kernel_rfl) (by kernel_rfl) (fun _ _ _ h => h) (Or.inr ⟨by rfl, rfl⟩) (by assumption) ?_
          simp only [Act.put, List.setIfInBounds_toArray, List.set_cons_zero, List.set_cons_succ]
          refine wpAnyH_take (i := 24) (oi := { dst := some 83, op := Op.load 24 (Operand.tmp 13), type := 24, pos := "outright.go:87", after := #[{ on := 22, ground := Ground.guard }], guard := some (22, true) }) (v := undef) rfl (by kernel_rfl) (by kernel_rfl) (by kernel_rfl) (fun _ _ _ h => h) (Or.inr ⟨by rfl, rfl⟩) (by assumption) ?_
          simp only [Act.put, List.setIfInBounds_toArray, List.set_cons_zero, List.set_cons_succ]
          refine wpAnyH_take (i := 25) (oi := { dst := some 84, op := Op.binOp BinOp.eql 24 (Operand.tmp 82) (Operand.tmp 83) 24, type := 4, pos := "outright.go:87", after := #[{ on := 23, ground := Ground.data }, { on := 24, ground := Ground.data }, { on := 22, ground := Ground.guard }], guard := some (22, true) }) (v := undef) rfl (by kernel_rfl) (by kernel_rfl) (by kernel_rfl) (fun _ _ _ h => h) (Or.inr ⟨by rfl, rfl⟩) (by assumption) ?_
          simp only [Act.put, List.setIfInBounds_toArray, List.set_cons_zero, List.set_cons_succ]
          refine wpAnyH_take (i := 26) (oi := { dst := some 85, op := Op.pick (Operand.tmp 81) (Operand.tmp 84) (Operand.const (Value.bool false)), type := 4, pos := "outright.go:87", after := #[{ on := 22, ground := Ground.data }, { on := 25, ground := Ground.data }, { on := 11, ground := Ground.guard }], guard := some (11, true) }) (v := .bool false) rfl (by kernel_rfl) (by kernel_rfl) (by kernel_rfl) (fun _ _ _ h => h) (Or.inl ⟨by rfl, fun w hSw => by go_simp⟩) (by assumption) ?_
          simp only [Act.put, List.setIfInBounds_toArray, List.set_cons_zero, List.set_cons_succ]
          refine wpAnyH_take (i := 27) (oi := { dst := some 86, op := Op.binOp BinOp.eql 4 (Operand.tmp 77) (Operand.tmp 85) 4, type := 4, pos := "outright.go:87", after := #[{ on := 18, ground := Ground.data }, { on := 26, ground := Ground.data }, { on := 11, ground := Ground.guard }], guard := some (11, true) }) (v := .bool true) rfl (by kernel_rfl) (by kernel_rfl) (by kernel_rfl) (fun _ _ _ h => h) (Or.inl ⟨by rfl, fun w hSw => by go_simp⟩) (by assumption) ?_
          simp only [Act.put, List.setIfInBounds_toArray, List.set_cons_zero, List.set_cons_succ]
          refine wpAnyH_take (i := 28) (oi := { dst := some 87, op := Op.pick (Operand.tmp 70) (Operand.tmp 86) (Operand.const (Value.bool false)), type := 4, pos := "outright.go:87", after := #[{ on := 11, ground := Ground.data }, { on := 27, ground := Ground.data }], guard := none }) (v := .bool true) rfl (by kernel_rfl) (by kernel_rfl) (by kernel_rfl) (fun _ _ _ h => h) (Or.inl ⟨by rfl, fun w hSw => by go_simp⟩) (by assumption) ?_
          simp only [Act.put, List.setIfInBounds_toArray, List.set_cons_zero, List.set_cons_succ]
          refine wpAnyH_take (i := 29) (oi := { dst := some 88, op := Op.move (Operand.tmp 87), type := 4, pos := "outright.go:87", after := #[{ on := 28, ground := Ground.data }, { on := 22, ground := Ground.chain }], guard := none }) (v := .bool true) rfl (by kernel_rfl) (by kernel_rfl) (by kernel_rfl) (fun _ _ _ h => h) (Or.inl ⟨by rfl, fun w hSw => by go_simp⟩) (by assumption) ?_
          simp only [Act.put, List.setIfInBounds_toArray, List.set_cons_zero, List.set_cons_succ]
          refine wpAnyH_take (i := 30) (oi := { dst := some 89, op := Op.load 24 (Operand.tmp 10), type := 24, pos := "outright.go:87", after := #[{ on := 29, ground := Ground.guard }], guard := some (29, true) }) (v := .agg (ULIST .u8 32 a).toArray) rfl (by kernel_rfl) (by kernel_rfl) (by kernel_rfl) (fun _ _ _ h => h) (yieldsIf_load_mid (by rfl) _ _ rfl _ _ rfl (ULIST .u8 32 a) _ (fun w h => h.1) Tryd.underlying24 rfl (hi a)) (by assumption) ?_
          simp only [Act.put, List.setIfInBounds_toArray, List.set_cons_zero, List.set_cons_succ]
          refine wpAnyH_take (i := 31) (oi := { dst := some 90, op := Op.load 24 (Operand.tmp 11), type := 24, pos := "outright.go:87", after := #[{ on := 29, ground := Ground.guard }], guard := some (29, true) }) (v := .agg (ULIST .u8 32 b).toArray) rfl (by kernel_rfl) (by kernel_rfl) (by kernel_rfl) (fun _ _ _ h => h) (yieldsIf_load_mid (by rfl) _ _ rfl _ _ rfl (ULIST .u8 32 b) _ (fun w h => h.2.1) Tryd.underlying24 rfl (hi b)) (by assumption) ?_
          simp only [Act.put, List.setIfInBounds_toArray, List.set_cons_zero, List.set_cons_succ]
          refine wpAnyH_take (i := 33) (oi := { dst := some 92, op := Op.load 24 (Operand.tmp 12), type := 24, pos := "outright.go:87", after := #[{ on := 29, ground := Ground.guard }], guard := some (29, true) }) (v := .agg (ULIST .u8 32 c).toArray) rfl (by kernel_rfl) (by kernel_rfl) (by kernel_rfl) (fun _ _ _ h => h) (yieldsIf_load_mid (by rfl) _ _ rfl _ _ rfl (ULIST .u8 32 c) _ (fun w h => h.2.2.1) Tryd.underlying24 rfl (hi c)) (by assumption) ?_
          simp only [Act.put, List.setIfInBounds_toArray, List.set_cons_zero, List.set_cons_succ]
          refine wpAnyH_take (i := 34) (oi := { dst := some 93, op := Op.load 24 (Operand.tmp 13), type := 24, pos := "outright.go:87", after := #[{ on := 29, ground := Ground.guard }], guard := some (29, true) }) (v := .agg (ULIST .u8 32 d).toArray) rfl (by kernel_rfl) (by kernel_rfl) (by kernel_rfl) (fun _ _ _ h => h) (yieldsIf_load_mid (by rfl) _ _ rfl _ _ rfl (ULIST .u8 32 d) _ (fun w h => h.2.2.2) Tryd.underlying24 rfl (hi d)) (by assumption) ?_
          simp only [Act.put, List.setIfInBounds_toArray, List.set_cons_zero, List.set_cons_succ]
          refine wpAnyH_take (i := 37) (oi := { dst := some 96, op := Op.load 24 (Operand.tmp 10), type := 24, pos := "outright.go:87", after := #[{ on := 29, ground := Ground.guard }], guard := some (29, true) }) (v := .agg (ULIST .u8 32 a).toArray) rfl (by kernel_rfl) (by kernel_rfl) (by kernel_rfl) (fun _ _ _ h => h) (yieldsIf_load_mid (by rfl) _ _ rfl _ _ rfl (ULIST .u8 32 a) _ (fun w h => h.1) Tryd.underlying24 rfl (hi a)) (by assumption) ?_
          simp only [Act.put, List.setIfInBounds_toArray, List.set_cons_zero, List.set_cons_succ]
          refine wpAnyH_take (i := 38) (oi := { dst := some 97, op := Op.load 24 (Operand.tmp 12), type := 24, pos := "outright.go:87", after := #[{ on := 29, ground := Ground.guard }], guard := some (29, true) }) (v := .agg (ULIST .u8 32 c).toArray) rfl (by kernel_rfl) (by kernel_rfl) (by kernel_rfl) (fun _ _ _ h => h) (yieldsIf_load_mid (by rfl) _ _ rfl _ _ rfl (ULIST .u8 32 c) _ (fun w h => h.2.2.1) Tryd.underlying24 rfl (hi c)) (by assumption) ?_
          simp only [Act.put, List.setIfInBounds_toArray, List.set_cons_zero, List.set_cons_succ]
          refine wpAnyH_take (i := 39) (oi := { dst := some 98, op := Op.binOp BinOp.eql 24 (Operand.tmp 96) (Operand.tmp 97) 24, type := 4, pos := "outright.go:87", after := #[{ on := 37, ground := Ground.data }, { on := 38, ground := Ground.data }, { on := 29, ground := Ground.guard }], guard := some (29, true) }) (v := .bool false) rfl (by kernel_rfl) (by kernel_rfl) (by kernel_rfl) (fun _ _ _ h => h) (Or.inl ⟨by rfl, fun w hSw => by go_simp⟩) (by assumption) ?_
          simp only [Act.put, List.setIfInBounds_toArray, List.set_cons_zero, List.set_cons_succ]
          refine wpAnyH_ready (rs := [32]) (by kernel_rfl) (by simp) ?_
          refine AllReadyH.cons (o := { dst := some 91, op := Op.call { callee := Callee.value (Operand.func 16), args := #[Operand.tmp 89, Operand.tmp 90], argTypes := #[24, 24] }, type := 22, pos := "outright.go:87", after := #[{ on := 30, ground := Ground.data }, { on := 31, ground := Ground.data }, { on := 29, ground := Ground.chain }, { on := 29, ground := Ground.guard }], guard := some (29, true) }) rfl (fun K hK => ?_) AllReadyH.nil
          rw [if_pos (by rfl)]
          go_simp
          refine (fab x9).mono ?_
          rintro e x10 ⟨ra10, rc10, rfl, o10, h10⟩
          have qq10 := four_below qq9 h10 F9.out
          have F10 : Aside (FOURIN g0 g1 g2 g3 x10) := F9.out.mono h10.size
          have P10 : Aside (Below w.heap.size w x10) := P9.out.trans (h10.mono P9.out.size)
          have Tx10 : Aside (Text x10 ra10 65 (2 :: ((List.range 32).map a ++ (List.range 32).map b)) ∧ Below x9.heap.size x9 x10) := ⟨Text.of_bytes (own_bytes_any o10 (INTS_bounds (hsm_fab))).1, h10⟩
          clear o10 h10
          refine hK.out _ _ (by assumption) (fun hHeld => ?_)
          clear hK K
          refine wpAnyH_ready (rs := [35]) (by kernel_rfl) (by simp) ?_
          refine AllReadyH.cons (o := { dst := some 94, op := Op.call { callee := Callee.value (Operand.func 16), args := #[Operand.tmp 92, Operand.tmp 93], argTypes := #[24, 24] }, type := 22, pos := "outright.go:87", after := #[{ on := 33, ground := Ground.data }, { on := 34, ground := Ground.data }, { on := 32, ground := Ground.chain }, { on := 29, ground := Ground.guard }], guard := some (29, true) }) rfl (fun K hK => ?_) AllReadyH.nil
          rw [if_pos (by rfl)]
          go_simp
          refine (fcd x10).mono ?_
          rintro e x11 ⟨ra11, rc11, rfl, o11, h11⟩
          have qq11 := four_below qq10 h11 F10.out
          have F11 : Aside (FOURIN g0 g1 g2 g3 x11) := F10.out.mono h11.size
          have P11 : Aside (Below w.heap.size w x11) := P10.out.trans (h11.mono P10.out.size)
          have Tx11 : Aside (Text x11 ra11 65 (2 :: ((List.range 32).map c ++ (List.range 32).map d)) ∧ Below x10.heap.size x10 x11) := ⟨Text.of_bytes (own_bytes_any o11 (INTS_bounds (hsm_fcd))).1, h11⟩
          clear o11 h11
          refine hK.out _ _ (by assumption) (fun hHeld => ?_)
          clear hK K
          refine wpAnyH_ready (rs := [36]) (by kernel_rfl) (by simp) ?_
          refine AllReadyH.cons (o := { dst := some 95, op := Op.call { callee := Callee.value (Operand.func 18), args := #[Operand.tmp 91, Operand.tmp 94], argTypes := #[22, 22] }, type := 4, pos := "outright.go:87", after := #[{ on := 32, ground := Ground.data }, { on := 35, ground := Ground.data }, { on := 35, ground := Ground.chain }, { on := 29, ground := Ground.guard }], guard := some (29, true) }) rfl (fun K hK => ?_) AllReadyH.nil
          rw [if_pos (by rfl)]
          go_simp
          refine (same_is (hN.out 2) (same_ok ra10 ra11 65 65 rc10 rc11 (2 :: ((List.range 32).map a ++ (List.range 32).map b)) (2 :: ((List.range 32).map c ++ (List.range 32).map d)) x11 (Tx10.out.1.below Tx11.out.2) Tx11.out.1 (by omega))).mono ?_
          rintro e x12 ⟨rfl, h12⟩
          have qq12 := four_below qq11 h12 F11.out
          have F12 : Aside (FOURIN g0 g1 g2 g3 x12) := F11.out.mono h12.size
          have P12 : Aside (Below w.heap.size w x12) := P11.out.trans (h12.mono P11.out.size)
          have Bx12 : Aside (Below x11.heap.size x11 x12) := h12
          clear h12
          refine hK.out _ _ (by assumption) (fun hHeld => ?_)
          clear hK K
          refine wpAnyH_take (i := 40) (oi := { dst := some 99, op := Op.move (Operand.tmp 98), type := 4, pos := "outright.go:87", after := #[{ on := 39, ground := Ground.data }, { on := 36, ground := Ground.chain }, { on := 29, ground := Ground.guard }], guard := some (29, true) }) (v := .bool false) rfl (by kernel_rfl) (by kernel_rfl) (by kernel_rfl) (fun _ _ _ h => h) (Or.inl ⟨by rfl, fun w hSw => by go_simp⟩) (by assumption) ?_
          simp only [Act.put, List.setIfInBounds_toArray, List.set_cons_zero, List.set_cons_succ]
          refine wpAnyH_take (i := 41) (oi := { dst := some 100, op := Op.load 24 (Operand.tmp 11), type := 24, pos := "outright.go:87", after := #[{ on := 40, ground := Ground.guard }], guard := some (40, true) }) (v := undef) rfl (by kernel_rfl) (by kernel_rfl) (by kernel_rfl) (fun _ _ _ h => h) (Or.inr ⟨by rfl, rfl⟩) (by assumption) ?_
          simp only [Act.put, List.setIfInBounds_toArray, List.set_cons_zero, List.set_cons_succ]
          refine wpAnyH_take (i := 42) (oi := { dst := some 101, op := Op.load 24 (Operand.tmp 13), type := 24, pos := "outright.go:87", after := #[{ on := 40, ground := Ground.guard }], guard := some (40, true) }) (v := undef) rfl (by kernel_rfl) (by kernel_rfl) (by kernel_rfl) (fun _ _ _ h => h) (Or.inr ⟨by rfl, rfl⟩) (by assumption) ?_
          simp only [Act.put, List.setIfInBounds_toArray, List.set_cons_zero, List.set_cons_succ]
          refine wpAnyH_take (i := 43) (oi := { dst := some 102, op := Op.binOp BinOp.eql 24 (Operand.tmp 100) (Operand.tmp 101) 24, type := 4, pos := "outright.go:87", after := #[{ on := 41, ground := Ground.data }, { on := 42, ground := Ground.data }, { on := 40, ground := Ground.guard }], guard := some (40, true) }) (v := undef) rfl (by kernel_rfl) (by kernel_rfl) (by kernel_rfl) (fun _ _ _ h => h) (Or.inr ⟨by rfl, rfl⟩) (by assumption) ?_
          simp only [Act.put, List.setIfInBounds_toArray, List.set_cons_zero, List.set_cons_succ]
          refine wpAnyH_take (i := 44) (oi := { dst := some 103, op := Op.pick (Operand.tmp 99) (Operand.tmp 102) (Operand.const (Value.bool false)), type := 4, pos := "outright.go:87", after := #[{ on := 40, ground := Ground.data }, { on := 43, ground := Ground.data }, { on := 29, ground := Ground.guard }], guard := some (29, true) }) (v := .bool false) rfl (by kernel_rfl) (by kernel_rfl) (by kernel_rfl) (fun _ _ _ h => h) (Or.inl ⟨by rfl, fun w hSw => by go_simp⟩) (by assumption) ?_
          simp only [Act.put, List.setIfInBounds_toArray, List.set_cons_zero, List.set_cons_succ]
          refine wpAnyH_take (i := 45) (oi := { dst := some 104, op := Op.binOp BinOp.eql 4 (Operand.tmp 95) (Operand.tmp 103) 4, type := 4, pos := "outright.go:87", after := #[{ on := 36, ground := Ground.data }, { on := 44, ground := Ground.data }, { on := 29, ground := Ground.guard }], guard := some (29, true) }) (v := .bool true) rfl (by kernel_rfl) (by kernel_rfl) (by kernel_rfl) (fun _ _ _ h => h) (Or.inl ⟨by rfl, fun w hSw => by go_simp⟩) (by assumption) ?_
          simp only [Act.put, List.setIfInBounds_toArray, List.set_cons_zero, List.set_cons_succ]
          refine wpAnyH_take (i := 46) (oi := { dst := some 105, op := Op.pick (Operand.tmp 88) (Operand.tmp 104) (Operand.const (Value.bool false)), type := 4, pos := "outright.go:87", after := #[{ on := 29, ground := Ground.data }, { on := 45, ground := Ground.data }], guard := none }) (v := .bool true) rfl (by kernel_rfl) (by kernel_rfl) (by kernel_rfl) (fun _ _ _ h => h) (Or.inl ⟨by rfl, fun w hSw => by go_simp⟩) (by assumption) ?_
          simp only [Act.put, List.setIfInBounds_toArray, List.set_cons_zero, List.set_cons_succ]
          refine wpAnyH_take (i := 47) (oi := { dst := some 106, op := Op.move (Operand.tmp 105), type := 4, pos := "outright.go:87", after := #[{ on := 46, ground := Ground.data }, { on := 40, ground := Ground.chain }], guard := none }) (v := .bool true) rfl (by kernel_rfl) (by kernel_rfl) (by kernel_rfl) (fun _ _ _ h => h) (Or.inl ⟨by rfl, fun w hSw => by go_simp⟩) (by assumption) ?_
          simp only [Act.put, List.setIfInBounds_toArray, List.set_cons_zero, List.set_cons_succ]
          refine wpAnyH_take (i := 48) (oi := { dst := some 107, op := Op.move (Operand.tmp 6), type := 37, pos := "outright.go:87", after := #[{ on := 47, ground := Ground.guard }], guard := some (47, true) }) (v := .int .u64 (n : Int)) rfl (by kernel_rfl) (by kernel_rfl) (by kernel_rfl) (fun _ _ _ h => h) (Or.inl ⟨by rfl, fun w hSw => by go_simp⟩) (by assumption) ?_
          simp only [Act.put, List.setIfInBounds_toArray, List.set_cons_zero, List.set_cons_succ]
          refine wpAnyH_take (i := 49) (oi := { dst := some 108, op := Op.load 24 (Operand.tmp 10), type := 24, pos := "outright.go:87", after := #[{ on := 47, ground := Ground.guard }], guard := some (47, true) }) (v := .agg (ULIST .u8 32 a).toArray) rfl (by kernel_rfl) (by kernel_rfl) (by kernel_rfl) (fun _ _ _ h => h) (yieldsIf_load_mid (by rfl) _ _ rfl _ _ rfl (ULIST .u8 32 a) _ (fun w h => h.1) Tryd.underlying24 rfl (hi a)) (by assumption) ?_
          simp only [Act.put, List.setIfInBounds_toArray, List.set_cons_zero, List.set_cons_succ]
          refine wpAnyH_take (i := 51) (oi := { dst := some 110, op := Op.move (Operand.tmp 7), type := 37, pos := "outright.go:87", after := #[{ on := 47, ground := Ground.guard }], guard := some (47, true) }) (v := .int .u64 (m : Int)) rfl (by kernel_rfl) (by kernel_rfl) (by kernel_rfl) (fun _ _ _ h => h) (Or.inl ⟨by rfl, fun w hSw => by go_simp⟩) (by assumption) ?_
          simp only [Act.put, List.setIfInBounds_toArray, List.set_cons_zero, List.set_cons_succ]
          refine wpAnyH_take (i := 52) (oi := { dst := some 111, op := Op.load 24 (Operand.tmp 12), type := 24, pos := "outright.go:87", after := #[{ on := 47, ground := Ground.guard }], guard := some (47, true) }) (v := .agg (ULIST .u8 32 c).toArray) rfl (by kernel_rfl) (by kernel_rfl) (by kernel_rfl) (fun _ _ _ h => h) (yieldsIf_load_mid (by rfl) _ _ rfl _ _ rfl (ULIST .u8 32 c) _ (fun w h => h.2.2.1) Tryd.underlying24 rfl (hi c)) (by assumption) ?_
          simp only [Act.put, List.setIfInBounds_toArray, List.set_cons_zero, List.set_cons_succ]
          refine wpAnyH_take (i := 55) (oi := { dst := some 114, op := Op.move (Operand.tmp 6), type := 37, pos := "outright.go:87", after := #[{ on := 47, ground := Ground.guard }], guard := some (47, true) }) (v := .int .u64 (n : Int)) rfl (by kernel_rfl) (by kernel_rfl) (by kernel_rfl) (fun _ _ _ h => h) (Or.inl ⟨by rfl, fun w hSw => by go_simp⟩) (by assumption) ?_
          simp only [Act.put, List.setIfInBounds_toArray, List.set_cons_zero, List.set_cons_succ]
          refine wpAnyH_take (i := 56) (oi := { dst := some 115, op := Op.move (Operand.tmp 7), type := 37, pos := "outright.go:87", after := #[{ on := 47, ground := Ground.guard }], guard := some (47, true) }) (v := .int .u64 (m : Int)) rfl (by kernel_rfl) (by kernel_rfl) (by kernel_rfl) (fun _ _ _ h => h) (Or.inl ⟨by rfl, fun w hSw => by go_simp⟩) (by assumption) ?_
          simp only [Act.put, List.setIfInBounds_toArray, List.set_cons_zero, List.set_cons_succ]
          refine wpAnyH_take (i := 57) (oi := { dst := some 116, op := Op.binOp BinOp.eql 37 (Operand.tmp 114) (Operand.tmp 115) 37, type := 4, pos := "outright.go:87", after := #[{ on := 55, ground := Ground.data }, { on := 56, ground := Ground.data }, { on := 47, ground := Ground.guard }], guard := some (47, true) }) (v := .bool false) rfl (by kernel_rfl) (by kernel_rfl) (by kernel_rfl) (fun _ _ _ h => h) (Or.inl ⟨by rfl, fun w hSw => by go_simp⟩) (by assumption) ?_
          simp only [Act.put, List.setIfInBounds_toArray, List.set_cons_zero, List.set_cons_succ]
          refine wpAnyH_ready (rs := [50]) (by kernel_rfl) (by simp) ?_
          refine AllReadyH.cons (o := { dst := some 109, op := Op.call { callee := Callee.value (Operand.func 17), args := #[Operand.tmp 107, Operand.tmp 108], argTypes := #[37, 24] }, type := 22, pos := "outright.go:87", after := #[{ on := 48, ground := Ground.data }, { on := 49, ground := Ground.data }, { on := 47, ground := Ground.chain }, { on := 47, ground := Ground.guard }], guard := some (47, true) }) rfl (fun K hK => ?_) AllReadyH.nil
          rw [if_pos (by rfl)]
          go_simp
          refine (rna x12).mono ?_
          rintro e x13 ⟨ra13, rc13, rfl, o13, h13⟩
          have qq13 := four_below qq12 h13 F12.out
          have F13 : Aside (FOURIN g0 g1 g2 g3 x13) := F12.out.mono h13.size
          have P13 : Aside (Below w.heap.size w x13) := P12.out.trans (h13.mono P12.out.size)
          have Tx13 : Aside (Text x13 ra13 41 (3 :: (BE8 n ++ (List.range 32).map a)) ∧ Below x12.heap.size x12 x13) := ⟨Text.of_bytes (own_bytes_any o13 (INTS_bounds (hsm_rna))).1, h13⟩
          clear o13 h13
          refine hK.out _ _ (by assumption) (fun hHeld => ?_)
          clear hK K
          refine wpAnyH_ready (rs := [53]) (by kernel_rfl) (by simp) ?_
          refine AllReadyH.cons (o := { dst := some 112, op := Op.call { callee := Callee.value (Operand.func 17), args := #[Operand.tmp 110, Operand.tmp 111], argTypes := #[37, 24] }, type := 22, pos := "outright.go:87", after := #[{ on := 51, ground := Ground.data }, { on := 52, ground := Ground.data }, { on := 50, ground := Ground.chain }, { on := 47, ground := Ground.guard }], guard := some (47, true) }) rfl (fun K hK => ?_) AllReadyH.nil
          rw [if_pos (by rfl)]
          go_simp
          refine (rmc x13).mono ?_
          rintro e x14 ⟨ra14, rc14, rfl, o14, h14⟩
          have qq14 := four_below qq13 h14 F13.out
          have F14 : Aside (FOURIN g0 g1 g2 g3 x14) := F13.out.mono h14.size
          have P14 : Aside (Below w.heap.size w x14) := P13.out.trans (h14.mono P13.out.size)
          have Tx14 : Aside (Text x14 ra14 41 (3 :: (BE8 m ++ (List.range 32).map c)) ∧ Below x13.heap.size x13 x14) := ⟨Text.of_bytes (own_bytes_any o14 (INTS_bounds (hsm_rmc))).1, h14⟩
          clear o14 h14
          refine hK.out _ _ (by assumption) (fun hHeld => ?_)
          clear hK K
          refine wpAnyH_ready (rs := [54]) (by kernel_rfl) (by simp) ?_
          refine AllReadyH.cons (o := { dst := some 113, op := Op.call { callee := Callee.value (Operand.func 18), args := #[Operand.tmp 109, Operand.tmp 112], argTypes := #[22, 22] }, type := 4, pos := "outright.go:87", after := #[{ on := 50, ground := Ground.data }, { on := 53, ground := Ground.data }, { on := 53, ground := Ground.chain }, { on := 47, ground := Ground.guard }], guard := some (47, true) }) rfl (fun K hK => ?_) AllReadyH.nil
          rw [if_pos (by rfl)]
          go_simp
          refine (same_is (hR.out) (same_ok ra13 ra14 41 41 rc13 rc14 (3 :: (BE8 n ++ (List.range 32).map a)) (3 :: (BE8 m ++ (List.range 32).map c)) x14 (Tx13.out.1.below Tx14.out.2) Tx14.out.1 (by omega))).mono ?_
          rintro e x15 ⟨rfl, h15⟩
          have qq15 := four_below qq14 h15 F14.out
          have F15 : Aside (FOURIN g0 g1 g2 g3 x15) := F14.out.mono h15.size
          have P15 : Aside (Below w.heap.size w x15) := P14.out.trans (h15.mono P14.out.size)
          have Bx15 : Aside (Below x14.heap.size x14 x15) := h15
          clear h15
          refine hK.out _ _ (by assumption) (fun hHeld => ?_)
          clear hK K
          refine wpAnyH_take (i := 58) (oi := { dst := some 117, op := Op.move (Operand.tmp 116), type := 4, pos := "outright.go:87", after := #[{ on := 57, ground := Ground.data }, { on := 54, ground := Ground.chain }, { on := 47, ground := Ground.guard }], guard := some (47, true) }) (v := .bool false) rfl (by kernel_rfl) (by kernel_rfl) (by kernel_rfl) (fun _ _ _ h => h) (Or.inl ⟨by rfl, fun w hSw => by go_simp⟩) (by assumption) ?_
          simp only [Act.put, List.setIfInBounds_toArray, List.set_cons_zero, List.set_cons_succ]
          refine wpAnyH_take (i := 59) (oi := { dst := some 118, op := Op.load 24 (Operand.tmp 10), type := 24, pos := "outright.go:87", after := #[{ on := 58, ground := Ground.guard }], guard := some (58, true) }) (v := undef) rfl (by kernel_rfl) (by kernel_rfl) (by kernel_rfl) (fun _ _ _ h => h) (Or.inr ⟨by rfl, rfl⟩) (by assumption) ?_
          simp only [Act.put, List.setIfInBounds_toArray, List.set_cons_zero, List.set_cons_succ]
          refine wpAnyH_take (i := 60) (oi := { dst := some 119, op := Op.load 24 (Operand.tmp 12), type := 24, pos := "outright.go:87", after := #[{ on := 58, ground := Ground.guard }], guard := some (58, true) }) (v := undef) rfl (by kernel_rfl) (by kernel_rfl) (by kernel_rfl) (fun _ _ _ h => h) (Or.inr ⟨by rfl, rfl⟩) (by assumption) ?_
          simp only [Act.put, List.setIfInBounds_toArray, List.set_cons_zero, List.set_cons_succ]
          refine wpAnyH_take (i := 61) (oi := { dst := some 120, op := Op.binOp BinOp.eql 24 (Operand.tmp 118) (Operand.tmp 119) 24, type := 4, pos := "outright.go:87", after := #[{ on := 59, ground := Ground.data }, { on := 60, ground := Ground.data }, { on := 58, ground := Ground.guard }], guard := some (58, true) }) (v := undef) rfl (by kernel_rfl) (by kernel_rfl) (by kernel_rfl) (fun _ _ _ h => h) (Or.inr ⟨by rfl, rfl⟩) (by assumption) ?_
          simp only [Act.put, List.setIfInBounds_toArray, List.set_cons_zero, List.set_cons_succ]
          refine wpAnyH_take (i := 62) (oi := { dst := some 121, op := Op.pick (Operand.tmp 117) (Operand.tmp 120) (Operand.const (Value.bool false)), type := 4, pos := "outright.go:87", after := #[{ on := 58, ground := Ground.data }, { on := 61, ground := Ground.data }, { on := 47, ground := Ground.guard }], guard := some (47, true) }) (v := .bool false) rfl (by kernel_rfl) (by kernel_rfl) (by kernel_rfl) (fun _ _ _ h => h) (Or.inl ⟨by rfl, fun w hSw => by go_simp⟩) (by assumption) ?_
          simp only [Act.put, List.setIfInBounds_toArray, List.set_cons_zero, List.set_cons_succ]
          refine wpAnyH_take (i := 63) (oi := { dst := some 122, op := Op.binOp BinOp.eql 4 (Operand.tmp 113) (Operand.tmp 121) 4, type := 4, pos := "outright.go:87", after := #[{ on := 54, ground := Ground.data }, { on := 62, ground := Ground.data }, { on := 47, ground := Ground.guard }], guard := some (47, true) }) (v := .bool true) rfl (by kernel_rfl) (by kernel_rfl) (by kernel_rfl) (fun _ _ _ h => h) (Or.inl ⟨by rfl, fun w hSw => by go_simp⟩) (by assumption) ?_
          simp only [Act.put, List.setIfInBounds_toArray, List.set_cons_zero, List.set_cons_succ]
          refine wpAnyH_take (i := 64) (oi := { dst := some 123, op := Op.pick (Operand.tmp 106) (Operand.tmp 122) (Operand.const (Value.bool false)), type := 4, pos := "outright.go:87", after := #[{ on := 47, ground := Ground.data }, { on := 63, ground := Ground.data }], guard := none }) (v := .bool true) rfl (by kernel_rfl) (by kernel_rfl) (by kernel_rfl) (fun _ _ _ h => h) (Or.inl ⟨by rfl, fun w hSw => by go_simp⟩) (by assumption) ?_
          simp only [Act.put, List.setIfInBounds_toArray, List.set_cons_zero, List.set_cons_succ]
          refine wpAnyH_take (i := 65) (oi := { dst := some 124, op := Op.move (Operand.tmp 123), type := 4, pos := "outright.go:87", after := #[{ on := 64, ground := Ground.data }, { on := 58, ground := Ground.chain }], guard := none }) (v := .bool true) rfl (by kernel_rfl) (by kernel_rfl) (by kernel_rfl) (fun _ _ _ h => h) (Or.inl ⟨by rfl, fun w hSw => by go_simp⟩) (by assumption) ?_
          simp only [Act.put, List.setIfInBounds_toArray, List.set_cons_zero, List.set_cons_succ]
          refine wpAnyH_ready (rs := [66]) (by kernel_rfl) (by simp) ?_
          refine AllReadyH.cons (o := { dst := some 125, op := Op.call { callee := Callee.value (Operand.func 9), args := #[], argTypes := #[] }, type := 4, pos := "outright.go:87", after := #[{ on := 65, ground := Ground.chain }, { on := 65, ground := Ground.guard }], guard := some (65, true) }) rfl (fun K hK => ?_) AllReadyH.nil
          rw [if_pos (by rfl)]
          go_simp
          refine (awake_ok x15 (H.out.2.2.2.2.2.2.2.2.2.2.below P15.out)).mono ?_
          rintro e x16 ⟨rfl, h16⟩
          have qq16 := four_below qq15 h16 F15.out
          have F16 : Aside (FOURIN g0 g1 g2 g3 x16) := F15.out.mono h16.size
          have P16 : Aside (Below w.heap.size w x16) := P15.out.trans (h16.mono P15.out.size)
          clear h16
          refine hK.out _ _ (by assumption) (fun hHeld => ?_)
          clear hK K
          refine wpAnyH_take (i := 67) (oi := { dst := some 126, op := Op.pick (Operand.tmp 124) (Operand.tmp 125) (Operand.const (Value.bool false)), type := 4, pos := "outright.go:87", after := #[{ on := 65, ground := Ground.data }, { on := 66, ground := Ground.data }], guard := none }) (v := .bool true) rfl (by kernel_rfl) (by kernel_rfl) (by kernel_rfl) (fun _ _ _ h => h) (Or.inl ⟨by rfl, fun w hSw => by go_simp⟩) (by assumption) ?_
          simp only [Act.put, List.setIfInBounds_toArray, List.set_cons_zero, List.set_cons_succ]
          refine wpAnyH_take (i := 68) (oi := { dst := some 16, op := Op.assign (Operand.tmp 126), type := 4, pos := "outright.go:87", after := #[{ on := 67, ground := Ground.data }, { on := 66, ground := Ground.chain }, { on := 0, ground := Ground.phase }, { on := 1, ground := Ground.phase }, { on := 2, ground := Ground.phase }, { on := 3, ground := Ground.phase }, { on := 4, ground := Ground.phase }, { on := 5, ground := Ground.phase }, { on := 6, ground := Ground.phase }, { on := 7, ground := Ground.phase }, { on := 8, ground := Ground.phase }, { on := 9, ground := Ground.phase }, { on := 10, ground := Ground.phase }, { on := 11, ground := Ground.phase }, { on := 12, ground := Ground.phase }, { on := 13, ground := Ground.phase }, { on := 14, ground := Ground.phase }, { on := 15, ground := Ground.phase }, { on := 16, ground := Ground.phase }, { on := 17, ground := Ground.phase }, { on := 18, ground := Ground.phase }, { on := 19, ground := Ground.phase }, { on := 20, ground := Ground.phase }, { on := 21, ground := Ground.phase }, { on := 22, ground := Ground.phase }, { on := 23, ground := Ground.phase }, { on := 24, ground := Ground.phase }, { on := 25, ground := Ground.phase }, { on := 26, ground := Ground.phase }, { on := 27, ground := Ground.phase }, { on := 28, ground := Ground.phase }, { on := 29, ground := Ground.phase }, { on := 30, ground := Ground.phase }, { on := 31, ground := Ground.phase }, { on := 32, ground := Ground.phase }, { on := 33, ground := Ground.phase }, { on := 34, ground := Ground.phase }, { on := 35, ground := Ground.phase }, { on := 36, ground := Ground.phase }, { on := 37, ground := Ground.phase }, { on := 38, ground := Ground.phase }, { on := 39, ground := Ground.phase }, { on := 40, ground := Ground.phase }, { on := 41, ground := Ground.phase }, { on := 42, ground := Ground.phase }, { on := 43, ground := Ground.phase }, { on := 44, ground := Ground.phase }, { on := 45, ground := Ground.phase }, { on := 46, ground := Ground.phase }, { on := 47, ground := Ground.phase }, { on := 48, ground := Ground.phase }, { on := 49, ground := Ground.phase }, { on := 50, ground := Ground.phase }, { on := 51, ground := Ground.phase }, { on := 52, ground := Ground.phase }, { on := 53, ground := Ground.phase }, { on := 54, ground := Ground.phase }, { on := 55, ground := Ground.phase }, { on := 56, ground := Ground.phase }, { on := 57, ground := Ground.phase }, { on := 58, ground := Ground.phase }, { on := 59, ground := Ground.phase }, { on := 60, ground := Ground.phase }, { on := 61, ground := Ground.phase }, { on := 62, ground := Ground.phase }, { on := 63, ground := Ground.phase }, { on := 64, ground := Ground.phase }, { on := 65, ground := Ground.phase }, { on := 66, ground := Ground.phase }, { on := 67, ground := Ground.phase }], guard := none }) (v := .bool true) rfl (by kernel_rfl) (by kernel_rfl) (by kernel_rfl) (fun _ _ _ h => h) (Or.inl ⟨by rfl, fun w hSw => by go_simp⟩) (by assumption) ?_
          simp only [Act.put, List.setIfInBounds_toArray, List.set_cons_zero, List.set_cons_succ]
          refine wpAnyH_done (by kernel_rfl) ?_ _
          have HE := P16
          go_wp2
          go_ret
          first | exact ⟨rfl, HE.out⟩ | exact ⟨rfl, by rw [← hg0]; exact HE.out⟩
    | succ r =>
      have hlt : (i : Int) < 4 := by omega
      obtain ⟨A1, N1, C1, l1, hc1, ht1, hn1⟩ := Z.out.2.2.2 i (by omega)
      generalize wr = wo at *
      go_wp2_with fail
      go_loopg [19] i (fun r2 s19 wx => ∃ k : Nat, k + r2 = i ∧ s19 = .int .i64 k ∧ Aside (Below w6.heap.size w6 wx))
      case atStart => exact ⟨0, by omega, rfl, A.out⟩
      case round =>
        obtain ⟨k, hkr, rfl, A2⟩ := hrel
        cases gk with
        | zero =>
          obtain rfl : k = i := by omega
          clear ht1
          go_wp2
          go_roundg r
          case measure => omega
          case rel => exact ⟨k + 1, by omega, by go_num, A2.out⟩
        | succ r2 =>
          have hlt2 : (k : Int) < (i : Int) := by omega
          have hlt4 : (k : Int) < 4 := by omega
          obtain ⟨A3, N3, C3, l3, hc3, ht3, hn3⟩ := Z.out.2.2.2 k (by omega)
          have cs : ∀ W : World, Below w6.heap.size w6 W → Calls Tryd.prog 18 #[.slice A1 N1 C1, .slice A3 N3 C3] W fun e w' => e = .returned (.bool false) ∧ Below W.heap.size W w' ∧ w'.heap.size = W.heap.size := fun W hW => by
            have h := same_ok A1 A3 N1 N3 C1 C3 (i :: l1) (k :: l3) W (ht1.below hW) (ht3.below hW) (by omega)
            rw [marks_part (by omega)] at h
            exact h
          have d1 : wr.cell? ⟨gl, i, none⟩ = some (.slice A1 N1 C1) := (A2.out.cell (by exact Z.out.2.2.1)).trans hc1
          have d3 : wr.cell? ⟨gl, k, none⟩ = some (.slice A3 N3 C3) := (A2.out.cell (by exact Z.out.2.2.1)).trans hc3
          have hgl : gl < wr.heap.size := Nat.lt_of_lt_of_le Z.out.2.2.1 A2.out.size
          have J : Aside (k + (r2 + 1) = i ∧ i + (r + 1) = 4) := ⟨hkr, hir⟩
          clear hc1 ht1 hn1 hc3 ht3 hn3 hkr
          go_wp2_with fail
          go_region_held3 (fun W : World => W.cell? ⟨gl, i, none⟩ = some (.slice A1 N1 C1) ∧ W.cell? ⟨gl, k, none⟩ = some (.slice A3 N3 C3)) (go_keep) (first | (go_at_call 18; refine (cs _ (by exact A2.out.drew)).mono ?_; rintro e w7 ⟨rfl, hb7, hs7⟩; have z1 := (hb7.cell (by exact hgl)).trans d1; have z3 := (hb7.cell (by exact hgl)).trans d3))
          have B : Aside (Below w6.heap.size w6 w7) := A2.out.drew.trans (hb7.mono A2.out.size)
          clear hb7 hs7 z1 z3 d1 d3 cs
          go_wp2
          go_roundg r2
          case measure => omega
          case rel => exact ⟨k + 1, by have := J.out; omega, by go_num, B.out⟩
end Go.Proofs.YtgmoebopnmaebabDoor
