/- Texts of CarryEvents, one behind the other: CarryBuilt. -/
import Derived.Test.YtkpgbhokoohimaaDoorCarryEventsP22
/- An event and a carry as they are built; how a carry begins. -/
namespace Go.Proofs.YtkpgbhokoohimaaDoor
open Go.RowKit
set_option maxRecDepth 100000

theorem list32 (l : List Int) (h : l.length = 32) : ∃ f : Nat → Int,l = (List.range 32).map f := by
  refine ⟨fun i => l.getD i 0,List.ext_getElem? fun i => ?_⟩
  by_cases hi : i < 32
  · simp [hi,h]
  · rw [List.getElem?_eq_none (by omega),List.getElem?_eq_none (by simp; omega)]
theorem built_event (X : Nat) (leaf : List Int) (hl : leaf.length = 32) (va : Option Addr) (vn vc : Nat) : Tryd.prog.built 27 [(0,.int .u64 (X : Int)),(1,.agg (CELLS leaf).toArray),(2,.slice va vn vc)] = some (EVT X leaf (.slice va vn vc)) := by
  obtain ⟨f,rfl⟩ := list32 leaf hl
  kernel_rfl
theorem built_carry (d : Int) (S : Nat) (pa : Option Addr) (pn pc : Nat) (leaf : List Int) (hl : leaf.length = 32) (I : Nat) (la : Option Addr) (ln lc : Nat) : Tryd.prog.built 71 [(0,.agg #[.int .i64 d,.int .u64 (S : Int),.slice pa pn pc]),(1,.agg (CELLS leaf).toArray),(2,.int .u64 (I : Int)),(3,.slice la ln lc)] = some (CRR d S (.slice pa pn pc) leaf I (.slice la ln lc)) := by
  obtain ⟨f,rfl⟩ := list32 leaf hl
  kernel_rfl
theorem build_event {ops : Array Oper} {rest : List Oper} {o : Oper} {a : Act} {w : World} {Q : Exit → Act → World → Prop} (hg : o.guard = none) (x y z : Operand) (ho : o.op = .build 27 #[(0,x),(1,y),(2,z)]) (X : Nat) (leaf : List Int) (hl : leaf.length = 32) (va : Option Addr) (vn vc : Nat) (hx : a.eval x = .int .u64 (X : Int)) (hy : a.eval y = .agg (CELLS leaf).toArray) (hz : a.eval z = .slice va vn vc)
    (h : wpList Tryd.prog ops Q rest (a.put o.dst (.agg (EVT X leaf (.slice va vn vc)))) w) : wpList Tryd.prog ops Q (o :: rest) a w := by
  have e : Tryd.prog.built 27 ((#[(0,x),(1,y),(2,z)] : Array (Nat × Operand)).map fun (i,x) => (i,a.eval x)).toList = some (EVT X leaf (.slice va vn vc)) := by
    simp only [List.map_toArray,List.map_cons,List.map_nil,hx,hy,hz]
    exact built_event X leaf hl va vn vc
  refine wpList_build hg 27 _ ho (by rw [e]; rfl) ?_
  rw [e]
  exact h
theorem build_carry {ops : Array Oper} {rest : List Oper} {o : Oper} {a : Act} {w : World} {Q : Exit → Act → World → Prop} (hg : o.guard = none) (x y z u : Operand) (ho : o.op = .build 71 #[(0,x),(1,y),(2,z),(3,u)]) (d : Int) (S I : Nat) (pa : Option Addr) (pn pc : Nat) (leaf : List Int) (hl : leaf.length = 32) (la : Option Addr) (ln lc : Nat) (hx : a.eval x = .agg #[.int .i64 d,.int .u64 (S : Int),.slice pa pn pc]) (hy : a.eval y = .agg (CELLS leaf).toArray) (hz : a.eval z = .int .u64 (I : Int)) (hu : a.eval u = .slice la ln lc)
    (h : wpList Tryd.prog ops Q rest (a.put o.dst (.agg (CRR d S (.slice pa pn pc) leaf I (.slice la ln lc)))) w) : wpList Tryd.prog ops Q (o :: rest) a w := by
  have e : Tryd.prog.built 71 ((#[(0,x),(1,y),(2,z),(3,u)] : Array (Nat × Operand)).map fun (i,x) => (i,a.eval x)).toList = some (CRR d S (.slice pa pn pc) leaf I (.slice la ln lc)) := by
    simp only [List.map_toArray,List.map_cons,List.map_nil,hx,hy,hz,hu]
    exact built_carry d S pa pn pc leaf hl I la ln lc
  refine wpList_build hg 71 _ ho (by rw [e]; rfl) ?_
  rw [e]
  exact h
/-- what New answers. -/
def NEWD (w : World) (E : Int) (d : Int) (S I : Nat) (leaf : List Int) (np : Nat) (P : List Int) (nl : Nat) (L : List Int) (e : Ending) (w' : World) : Prop :=
  Below w.heap.size w w' ∧ ((E ≠ 0 ∧ e = .returned (.tuple #[.pointer none,.int .i64 E])) ∨
    (E = 0 ∧ ∃ b a c a' c',e = .returned (.tuple #[.pointer (some ⟨b,0,none⟩),.int .i64 0]) ∧ CARRY w' w.heap.size b d S I leaf (.slice a np c) np P (.slice a' nl c') nl L))
set_option maxHeartbeats 4000000 in
theorem cnew_ok (d : Int) (leaf : List Int) (hleaf : IsH leaf) (S I : Nat) (a : Option Addr) (n c : Nat) (l : List Int) (hn : n ≤ 1000) (hnc : n ≤ c) (hc : a = none → c = 0) (w : World) (hF : Flat w a n l) (hT : Tabled w) (hX : HX.Tabled w) (h0 : 2 < w.heap.size)
    (hq : (CLA d leaf S I n l).1 = 0 → 1 ≤ (CLA d leaf S I n l).2.1 ∧ (CLA d leaf S I n l).2.1 ≤ n + 1) :
    Calls Tryd.prog 27 #[.int .i64 d,.agg (CELLS leaf).toArray,.agg #[.int .u64 (S : Int),.int .u64 (I : Int),.slice a n c]] w (NEWD w (CLA d leaf S I n l).1 d S I leaf (CLA d leaf S I n l).2.1 (CLA d leaf S I n l).2.2 (n + 1 - (CLA d leaf S I n l).2.1) (l.take (32 * (n + 1 - (CLA d leaf S I n l).2.1)))) := by
  have l32 := hleaf.1
  obtain ⟨W0,hW0⟩ : ∃ W0,(w.alloc (.cells (CELLS leaf).toArray 24)).alloc (.cells #[.int .u64 (S : Int),.int .u64 (I : Int),.slice a n c] 56) = W0 := ⟨_,rfl⟩
  obtain ⟨bl,hbl⟩ : ∃ bl,w.heap.size = bl := ⟨_,rfl⟩
  have R0 : Aside (Below w.heap.size w W0 ∧ Has W0 bl (CELLS leaf).toArray 24 ∧ Has W0 (bl + 1) #[.int .u64 (S : Int),.int .u64 (I : Int),.slice a n c] 56 ∧ w.heap.size = bl) := by
    rw [← hW0, ← hbl]
    exact ⟨((Below.refl _ _).alloc (Nat.le_refl _) _).alloc (by simp) _,(Has.new _ _ _).alloc _,Has.at _ _ _ (by simp),rfl⟩
  have cC := cclimb_ok d leaf hleaf S I a n c l hn hnc hc W0 (hF.below R0.out.1) (hT.below (by omega) R0.out.1) (hX.below R0.out.1) (Nat.lt_of_lt_of_le h0 R0.out.1.size) hq
  generalize CLA d leaf S I n l = C at *
  obtain ⟨CE,CN,CL⟩ := C
  dsimp only at *
  generalize n + 1 - CN = K at *
  generalize l.take (32 * K) = L at *
  clear hn hnc hc hF hT hX h0 hleaf hq
  have h4 := R0.out.2.1
  have y0 : W0.cell? ⟨bl + 1,0,none⟩ = some (.int .u64 (S : Int)) := R0.out.2.2.1.cell 0
  have y1 : W0.cell? ⟨bl + 1,1,none⟩ = some (.int .u64 (I : Int)) := R0.out.2.2.1.cell 1
  have y2 : W0.cell? ⟨bl + 1,2,none⟩ = some (.slice a n c) := R0.out.2.2.1.cell 2
  go_enter Tryd.func27,Tryd.ntmps27
  go_upto_region 1 with fail
  clear hW0 hbl
  go_wp2_with (first
    | (refine wpList_load_row rfl 24 (.tmp 4) rfl bl rfl 24 (CELLS leaf).toArray (0,0) _ h4 Tryd.underlying24 rfl (info_arr l32) ?_)
    | fail)
  refine cC.mono ?_
  rintro e w1 ⟨hb,h⟩
  have R1 : Aside (Below W0.heap.size W0 w1 ∧ Below w.heap.size w w1) := ⟨hb,R0.out.1.trans (hb.mono R0.out.1.size)⟩
  clear hb cC h4 y0 y1 y2
  rcases h with ⟨hE,rfl⟩ | ⟨rfl,a1,c1,a2,c2,rfl,o1,o2,hap⟩
  · have hE' : (CE != 0) = true := by simp [hE]
    have HE : Aside (CE ≠ 0 ∧ Below w.heap.size w w1) := ⟨hE,R1.out.2⟩
    clear hE R1 R0
    go_wp2_with fail
    refine bodyPost_ret (v := .tuple #[.pointer none,.int .i64 CE]) ?_ rfl ⟨HE.out.2,.inl ⟨HE.out.1,rfl⟩⟩
    simp [results,Tryd.f27,go_sem]
  · have R2 : Aside (w1.ownsRow W0.heap.size 24 32 (.slice a1 CN c1) CN (CELLS CL) ∧ w1.ownsRow W0.heap.size 24 32 (.slice a2 K c2) K (CELLS L) ∧ ∀ k,(Value.slice a1 CN c1).ownBlock = some k → (Value.slice a2 K c2).ownBlock ≠ some k) := ⟨o1,o2,hap⟩
    have h4 : Has w1 bl (CELLS leaf).toArray 24 := R0.out.2.1.keep R1.out.1
    have y0 : w1.cell? ⟨bl + 1,0,none⟩ = some (.int .u64 (S : Int)) := (R0.out.2.2.1.keep R1.out.1).cell 0
    have y1 : w1.cell? ⟨bl + 1,1,none⟩ = some (.int .u64 (I : Int)) := (R0.out.2.2.1.keep R1.out.1).cell 1
    clear o1 o2 hap
    go_upto_region 5 with fail
    obtain ⟨fb,hfb⟩ : ∃ fb,fb = w1.heap.size := ⟨_,rfl⟩
    have hb3 : Below w1.heap.size w1 (w1.alloc (.cells #[.int .i64 d,.int .u64 (S : Int),.slice a1 CN c1] 69)) := (Below.refl _ _).alloc (Nat.le_refl _) _
    have hf : Has (w1.alloc (.cells #[.int .i64 d,.int .u64 (S : Int),.slice a1 CN c1] 69)) fb #[.int .i64 d,.int .u64 (S : Int),.slice a1 CN c1] 69 := Has.at _ _ _ hfb
    rw [← hfb]
    generalize w1.alloc (.cells #[.int .i64 d,.int .u64 (S : Int),.slice a1 CN c1] 69) = w3 at *
    have h4' : Has w3 bl (CELLS leaf).toArray 24 := h4.keep hb3
    have x1 : w3.cell? ⟨bl + 1,1,none⟩ = some (.int .u64 (I : Int)) := (hb3.cell (p := ⟨bl + 1,1,none⟩) (World.block_lt_of_cell? w1 _ y1)).trans y1
    have g0 : w3.cell? ⟨fb,0,none⟩ = some (.int .i64 d) := hf.cell 0
    have g1 : w3.cell? ⟨fb,1,none⟩ = some (.int .u64 (S : Int)) := hf.cell 1
    have g2 : w3.cell? ⟨fb,2,none⟩ = some (.slice a1 CN c1) := hf.cell 2
    obtain ⟨b,hbb⟩ : ∃ b,b = w3.heap.size := ⟨_,rfl⟩
    have FN : Aside (Below w.heap.size w (w3.alloc (.cells (CRR d S (.slice a1 CN c1) leaf I (.slice a2 K c2)) 71)) ∧ CARRY (w3.alloc (.cells (CRR d S (.slice a1 CN c1) leaf I (.slice a2 K c2)) 71)) w.heap.size b d S I leaf (.slice a1 CN c1) CN CL (.slice a2 K c2) K L) := by
      obtain ⟨r1,r2⟩ := R1.out
      obtain ⟨s1,s2,s3⟩ := R2.out
      have h1 := r2.trans (hb3.mono r2.size)
      have h2 := h1.size
      have h3 := own_below s1 hb3
      have h4 := own_below s2 hb3
      refine ⟨h1.alloc h2 _,⟨Has.at _ _ _ hbb,own_mono (h3.alloc _) R0.out.1.size,own_mono (h4.alloc _) R0.out.1.size,by omega,fun k e q => ?_,fun k e q => ?_,s3,l32⟩⟩
      · have := (h3.lt k e).2
        omega
      · have := (h4.lt k e).2
        omega
    clear R0 R1 R2 hb3 hf h4 y0 y1 hfb
    go_wp2_with (first
      | (refine wpList_load_row rfl 24 (.tmp 4) rfl bl rfl 24 (CELLS leaf).toArray (0,0) _ h4' Tryd.underlying24 rfl (info_arr l32) ?_)
      | (refine build_carry rfl (.tmp 28) (.tmp 29) (.tmp 31) (.tmp 32) rfl d S I a1 CN c1 leaf l32 a2 K c2 rfl rfl rfl rfl ?_)
      | fail)
    rw [← hbb]
    refine bodyPost_ret (v := .tuple #[.pointer (some ⟨b,0,none⟩),.int .i64 0]) ?_ rfl ⟨FN.out.1,.inr ⟨rfl,b,a1,c1,a2,c2,rfl,FN.out.2⟩⟩
    simp [results,Tryd.f27,go_sem]
end Go.Proofs.YtkpgbhokoohimaaDoor
