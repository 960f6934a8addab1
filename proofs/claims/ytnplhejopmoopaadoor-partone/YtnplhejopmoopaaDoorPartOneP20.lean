/- Texts of PartOne, one behind the other: PartSource, PartParting, CutPlain, PosCoversPlain, CutTopsPlain. -/
import Derived.Test.YtnplhejopmoopaaDoorPartOneP19
/- Two sources: what they tell, and what they do to the world when they are asked. -/
namespace Go.Proofs.YtnplhejopmoopaaDoor
open Go.RowKit
set_option maxRecDepth 100000

/-- two sources: the function that answers, where they lie, what they tell of a place, which places may be asked for, which blocks are theirs, what holds behind what they were asked. -/
structure SRCD where
  fn : Nat
  ga : Nat
  gb : Nat
  A : Nat → Nat → Nat
  B : Nat → Nat → Nat
  EA : Nat → Int
  EB : Nat → Int
  V : Nat → Prop
  FT : World → Nat → Prop
  P : List Nat → List Nat → World → Prop
/-- none of their blocks is written. -/
structure OFF (FT : World → Nat → Prop) (w w' : World) : Prop where
  os : w'.os = w.os
  tape : w'.tape = w.tape
  output : w'.output = w.output
  size : w.heap.size ≤ w'.heap.size
  block : ∀ k, FT w k → w'.heap[k]? = w.heap[k]?
/-- their blocks alone are written. -/
structure KEP (FT : World → Nat → Prop) (w w' : World) : Prop where
  size : w.heap.size ≤ w'.heap.size
  block : ∀ k, k < w.heap.size → ¬ FT w k → w'.heap[k]? = w.heap[k]?
  foot : ∀ k, FT w' k → FT w k ∨ w.heap.size ≤ k
structure PSRC (s : SRCD) : Prop where
  one : ∀ LA LB w p, s.V p → LA.length ≤ 130 → s.P LA LB w → Calls Tryd.prog s.fn #[.pointer (some ⟨s.ga, 0, none⟩), .int .u64 (p : Int)] w fun e w' => e = .returned (.tuple #[.agg (HX.UARR .u8 32 (s.A p)), .int .i64 (s.EA p)]) ∧ s.P (LA ++ [p]) LB w' ∧ KEP s.FT w w'
  two : ∀ LA LB w p, s.V p → LB.length ≤ 130 → s.EA p = 0 → s.P (LA ++ [p]) LB w → Calls Tryd.prog s.fn #[.pointer (some ⟨s.gb, 0, none⟩), .int .u64 (p : Int)] w fun e w' => e = .returned (.tuple #[.agg (HX.UARR .u8 32 (s.B p)), .int .i64 (s.EB p)]) ∧ s.P (LA ++ [p]) (LB ++ [p]) w' ∧ KEP s.FT w w'
  off : ∀ LA LB w w', s.P LA LB w → OFF s.FT w w' → s.P LA LB w' ∧ ∀ k, s.FT w' k → s.FT w k
  lt : ∀ LA LB w k, s.P LA LB w → s.FT w k → k < w.heap.size
theorem OFF.alloc {FT : World → Nat → Prop} {w : World} (hlt : ∀ k, FT w k → k < w.heap.size) (o : Obj) : OFF FT w (w.alloc o) := by
  have hb : Below w.heap.size w (w.alloc o) := (Below.refl _ _).alloc (Nat.le_refl _) o
  exact ⟨hb.os, hb.tape, hb.output, hb.size, fun k hk => hb.block k (hlt k hk)⟩
theorem OFF.set {FT : World → Nat → Prop} {w : World} {b : Nat} (hb : ¬ FT w b) (o : Nat) (v : Value) : OFF FT w (w.setCell ⟨b, o, none⟩ v) := by
  refine ⟨rfl, rfl, rfl, by simp [World.setCell], fun k hk => ?_⟩
  refine Below.heap_setCell w ⟨b, o, none⟩ v k (fun e => hb ?_)
  have e' : k = b := e
  rwa [e'] at hk
theorem OFF.row {FT : World → Nat → Prop} {w : World} {b : Nat} (hb : ¬ FT w b) (c : Array Value) : OFF FT w (w.setRow b c) := by
  refine ⟨rfl, rfl, rfl, by simp [World.setRow], fun k hk => ?_⟩
  refine setRow_other w b k c (fun e => hb ?_)
  rwa [e] at hk
theorem OFF.drewN {FT : World → Nat → Prop} {w : World} (n : Nat) : OFF FT w (w.drewN n) := ⟨rfl, rfl, rfl, Nat.le_refl _, fun _ _ => rfl⟩
theorem Has.keeps {FT : World → Nat → Prop} {w w' : World} {b : Nat} {c : Array Value} {t : TypeId} (h : Has w b c t) (hk : KEP FT w w') (hb : ¬ FT w b) : Has w' b c t := (hk.block b h.lt hb).trans h
/-- how it stands while the two are asked for one place: w0 is the world ahead of it; b1 counts, b2 and b3 have the two, bx and its neighbour what they told. -/
structure LOC (s : SRCD) (vt : TypeId) (w0 : World) (b1 b2 b3 : Nat) (LA LB : List Nat) (q : Nat) (X Y : Nat → Nat) (w : World) : Prop where
  st : s.P LA LB w
  size : w0.heap.size + 2 ≤ w.heap.size
  c1 : Has w b1 #[.int .i64 (q : Int)] 3
  c2 : Has w b2 #[.iface vt (.pointer (some ⟨s.ga, 0, none⟩))] 63
  c3 : Has w b3 #[.iface vt (.pointer (some ⟨s.gb, 0, none⟩))] 63
  cx : Has w w0.heap.size (HX.UARR .u8 32 X) 27
  cy : Has w (w0.heap.size + 1) (HX.UARR .u8 32 Y) 27
  keep : ∀ k, k < w0.heap.size → ¬ s.FT w0 k → k ≠ b1 → w.heap[k]? = w0.heap[k]?
  foot : ∀ k, s.FT w k → s.FT w0 k ∨ w0.heap.size + 2 ≤ k
/-- the blocks b1, b2, b3 are there and the sources' are others. -/
structure LOB (s : SRCD) (w0 : World) (b1 b2 b3 : Nat) : Prop where
  f1 : ¬ s.FT w0 b1
  f2 : ¬ s.FT w0 b2
  f3 : ¬ s.FT w0 b3
  l1 : b1 < w0.heap.size
  l2 : b2 < w0.heap.size
  l3 : b3 < w0.heap.size
  n2 : b1 ≠ b2
  n3 : b1 ≠ b3
  lt : ∀ k, s.FT w0 k → k < w0.heap.size
theorem LOC.not {s : SRCD} {vt : TypeId} {w0 w : World} {b1 b2 b3 : Nat} {LA LB : List Nat} {q : Nat} {X Y : Nat → Nat} (h : LOC s vt w0 b1 b2 b3 LA LB q X Y w) (o : LOB s w0 b1 b2 b3) : ¬ s.FT w b1 ∧ ¬ s.FT w b2 ∧ ¬ s.FT w b3 ∧ ¬ s.FT w w0.heap.size ∧ ¬ s.FT w (w0.heap.size + 1) := by
  have l1 := o.l1
  have l2 := o.l2
  have l3 := o.l3
  refine ⟨fun e => ?_, fun e => ?_, fun e => ?_, fun e => ?_, fun e => ?_⟩
  · rcases h.foot _ e with h1 | h1
    · exact o.f1 h1
    · omega
  · rcases h.foot _ e with h1 | h1
    · exact o.f2 h1
    · omega
  · rcases h.foot _ e with h1 | h1
    · exact o.f3 h1
    · omega
  · rcases h.foot _ e with h1 | h1
    · have := o.lt _ h1
      omega
    · omega
  · rcases h.foot _ e with h1 | h1
    · have := o.lt _ h1
      omega
    · omega
theorem LOC.first {s : SRCD} (src : PSRC s) {vt : TypeId} {w0 : World} {b1 b2 b3 : Nat} {LA LB : List Nat} {q : Nat} (hP : s.P LA LB w0) (o : LOB s w0 b1 b2 b3) (c1 : Has w0 b1 #[.int .i64 (q : Int)] 3) (c2 : Has w0 b2 #[.iface vt (.pointer (some ⟨s.ga, 0, none⟩))] 63) (c3 : Has w0 b3 #[.iface vt (.pointer (some ⟨s.gb, 0, none⟩))] 63) :
    LOC s vt w0 b1 b2 b3 LA LB q (fun _ => 0) (fun _ => 0) ((w0.alloc (.cells (HX.UARR .u8 32 fun _ => 0) 27)).alloc (.cells (HX.UARR .u8 32 fun _ => 0) 27)) := by
  obtain ⟨p1, q1⟩ := src.off _ _ _ _ hP (OFF.alloc o.lt (.cells (HX.UARR .u8 32 fun _ => 0) 27))
  obtain ⟨p2, q2⟩ := src.off _ _ _ _ p1 (OFF.alloc (fun k hk => src.lt _ _ _ _ p1 hk) (.cells (HX.UARR .u8 32 fun _ => 0) 27))
  refine ⟨p2, by simp, (c1.alloc _).alloc _, (c2.alloc _).alloc _, (c3.alloc _).alloc _, (Has.new _ _ _).alloc _, Has.at _ _ _ (by simp), fun k hk _ _ => ?_, fun k hk => .inl (q1 k (q2 k hk))⟩
  rw [Below.heap_alloc _ _ k (by simp; omega), Below.heap_alloc _ _ k hk]
theorem LOC.count {s : SRCD} (src : PSRC s) {vt : TypeId} {w0 w : World} {b1 b2 b3 : Nat} {LA LB : List Nat} {q : Nat} {X Y : Nat → Nat} (h : LOC s vt w0 b1 b2 b3 LA LB q X Y w) (o : LOB s w0 b1 b2 b3) : LOC s vt w0 b1 b2 b3 LA LB (q + 1) X Y (w.setCell ⟨b1, 0, none⟩ (.int .i64 ((q + 1 : Nat) : Int))) := by
  obtain ⟨n1, n2, n3, nx, ny⟩ := h.not o
  have hO : OFF s.FT w (w.setCell ⟨b1, 0, none⟩ (.int .i64 ((q + 1 : Nat) : Int))) := OFF.set n1 0 _
  obtain ⟨p1, q1⟩ := src.off _ _ _ _ h.st hO
  have l1 := o.l1
  have hc := h.c1.set 0 (.int .i64 ((q + 1 : Nat) : Int))
  refine ⟨p1, Nat.le_trans h.size hO.size, hc, h.c2.other (fun e => o.n2 e.symm) _, h.c3.other (fun e => o.n3 e.symm) _, h.cx.other (by show _ ≠ b1; omega) _, h.cy.other (by show _ ≠ b1; omega) _, fun k hk hf hn => ?_, fun k hk => h.foot k (q1 k hk)⟩
  rw [Below.heap_setCell _ _ _ k hn]
  exact h.keep k hk hf hn
theorem LOC.putx {s : SRCD} (src : PSRC s) {vt : TypeId} {w0 w : World} {b1 b2 b3 : Nat} {LA LB : List Nat} {q : Nat} {X Y : Nat → Nat} (h : LOC s vt w0 b1 b2 b3 LA LB q X Y w) (o : LOB s w0 b1 b2 b3) (Z : Nat → Nat) : LOC s vt w0 b1 b2 b3 LA LB q Z Y (w.setRow w0.heap.size (HX.UARR .u8 32 Z)) := by
  obtain ⟨n1, n2, n3, nx, ny⟩ := h.not o
  have hO : OFF s.FT w (w.setRow w0.heap.size (HX.UARR .u8 32 Z)) := OFF.row nx _
  obtain ⟨p1, q1⟩ := src.off _ _ _ _ h.st hO
  have l1 := o.l1
  have l2 := o.l2
  have l3 := o.l3
  refine ⟨p1, Nat.le_trans h.size hO.size, h.c1.row_other (by omega) _, h.c2.row_other (by omega) _, h.c3.row_other (by omega) _, h.cx.row _, h.cy.row_other (by omega) _, fun k hk hf hn => ?_, fun k hk => h.foot k (q1 k hk)⟩
  rw [setRow_other _ _ k _ (by omega)]
  exact h.keep k hk hf hn
theorem LOC.puty {s : SRCD} (src : PSRC s) {vt : TypeId} {w0 w : World} {b1 b2 b3 : Nat} {LA LB : List Nat} {q : Nat} {X Y : Nat → Nat} (h : LOC s vt w0 b1 b2 b3 LA LB q X Y w) (o : LOB s w0 b1 b2 b3) (Z : Nat → Nat) : LOC s vt w0 b1 b2 b3 LA LB q X Z (w.setRow (w0.heap.size + 1) (HX.UARR .u8 32 Z)) := by
  obtain ⟨n1, n2, n3, nx, ny⟩ := h.not o
  have hO : OFF s.FT w (w.setRow (w0.heap.size + 1) (HX.UARR .u8 32 Z)) := OFF.row ny _
  obtain ⟨p1, q1⟩ := src.off _ _ _ _ h.st hO
  have l1 := o.l1
  have l2 := o.l2
  have l3 := o.l3
  refine ⟨p1, Nat.le_trans h.size hO.size, h.c1.row_other (by omega) _, h.c2.row_other (by omega) _, h.c3.row_other (by omega) _, h.cx.row_other (by omega) _, h.cy.row _, fun k hk hf hn => ?_, fun k hk => h.foot k (q1 k hk)⟩
  rw [setRow_other _ _ k _ (by omega)]
  exact h.keep k hk hf hn
theorem LOC.drewN {s : SRCD} (src : PSRC s) {vt : TypeId} {w0 w : World} {b1 b2 b3 : Nat} {LA LB : List Nat} {q : Nat} {X Y : Nat → Nat} (h : LOC s vt w0 b1 b2 b3 LA LB q X Y w) (n : Nat) : LOC s vt w0 b1 b2 b3 LA LB q X Y (w.drewN n) := by
  obtain ⟨p1, q1⟩ := src.off _ _ _ _ h.st (OFF.drewN n)
  exact ⟨p1, h.size, h.c1, h.c2, h.c3, h.cx, h.cy, h.keep, fun k hk => h.foot k (q1 k hk)⟩
theorem LOC.told {s : SRCD} {vt : TypeId} {w0 w w' : World} {b1 b2 b3 : Nat} {LA LB LA' LB' : List Nat} {q : Nat} {X Y : Nat → Nat} (h : LOC s vt w0 b1 b2 b3 LA LB q X Y w) (o : LOB s w0 b1 b2 b3) (hP : s.P LA' LB' w') (hk : KEP s.FT w w') : LOC s vt w0 b1 b2 b3 LA' LB' q X Y w' := by
  obtain ⟨n1, n2, n3, nx, ny⟩ := h.not o
  have hz := h.size
  refine ⟨hP, Nat.le_trans h.size hk.size, h.c1.keeps hk n1, h.c2.keeps hk n2, h.c3.keeps hk n3, h.cx.keeps hk nx, h.cy.keeps hk ny, fun k hk2 hf hn => ?_, fun k hk2 => ?_⟩
  · refine (hk.block k (by omega) fun e => ?_).trans (h.keep k hk2 hf hn)
    rcases h.foot k e with h1 | h1
    · exact hf h1
    · omega
  · rcases hk.foot k hk2 with h1 | h1
    · exact h.foot k h1
    · exact .inr (by omega)
/-- what asking both for a place answers. -/
def PASK (s : SRCD) (w0 : World) (b1 : Nat) (LA LB : List Nat) (q p : Nat) (e : Ending) (w : World) : Prop :=
  ∃ (X Y : Nat → Nat) (E : Int), e = .returned (.tuple #[.agg (HX.UARR .u8 32 X), .agg (HX.UARR .u8 32 Y), .int .i64 E]) ∧ Has w b1 #[.int .i64 ((q + 1 : Nat) : Int)] 3 ∧ w0.heap.size ≤ w.heap.size ∧ (∀ k, k < w0.heap.size → ¬ s.FT w0 k → k ≠ b1 → w.heap[k]? = w0.heap[k]?) ∧ (∀ k, s.FT w k → s.FT w0 k ∨ w0.heap.size ≤ k) ∧
    ((s.EA p ≠ 0 ∧ E = s.EA p ∧ s.P (LA ++ [p]) LB w) ∨ (s.EA p = 0 ∧ X = s.A p ∧ Y = s.B p ∧ E = s.EB p ∧ s.P (LA ++ [p]) (LB ++ [p]) w))
theorem LOC.done {s : SRCD} {vt : TypeId} {w0 w : World} {b1 b2 b3 : Nat} {LA LB LA' LB' : List Nat} {q p : Nat} {X Y : Nat → Nat} {E : Int} (h : LOC s vt w0 b1 b2 b3 LA' LB' (q + 1) X Y w) (hE : (s.EA p ≠ 0 ∧ E = s.EA p ∧ LA' = LA ++ [p] ∧ LB' = LB) ∨ (s.EA p = 0 ∧ X = s.A p ∧ Y = s.B p ∧ E = s.EB p ∧ LA' = LA ++ [p] ∧ LB' = LB ++ [p])) : PASK s w0 b1 LA LB q p (.returned (.tuple #[.agg (HX.UARR .u8 32 X), .agg (HX.UARR .u8 32 Y), .int .i64 E])) w := by
  have hz := h.size
  refine ⟨X, Y, E, rfl, h.c1, by omega, h.keep, fun k hk => (h.foot k hk).imp id (by omega), ?_⟩
  rcases hE with ⟨h1, h2, rfl, rfl⟩ | ⟨h1, h2, h3, h4, rfl, rfl⟩
  · exact .inl ⟨h1, h2, h.st⟩
  · exact .inr ⟨h1, h2, h3, h4, h.st⟩
end Go.Proofs.YtnplhejopmoopaaDoor

/- A parting as cells: built, stored, answered. -/
namespace Go.Proofs.YtnplhejopmoopaaDoor
open Go.RowKit
set_option maxRecDepth 100000

/-- an index, what the two told, how many were asked. -/
def PTG (k : Nat) (X Y : Nat → Nat) (q : Nat) : Array Value := #[.int .u64 (k : Int)] ++ HX.UARR .u8 32 X ++ HX.UARR .u8 32 Y ++ #[.int .i64 (q : Int)]
theorem PTG_size (k : Nat) (X Y : Nat → Nat) (q : Nat) : (PTG k X Y q).size = 66 := by simp [PTG, HX.UARR_size]
theorem PTG_one (k : Nat) (X Y : Nat → Nat) (q : Nat) : (PTG k X Y q).all (·.oneCell') = true := by
  rw [Array.all_eq_true_iff_forall_mem]
  intro v hv
  simp only [PTG, Array.mem_append, List.mem_toArray, List.mem_singleton] at hv
  rcases hv with ((rfl | h) | h) | rfl
  · rfl
  · exact Array.all_eq_true_iff_forall_mem.1 (HX.UARR_one .u8 32 X) v h
  · exact Array.all_eq_true_iff_forall_mem.1 (HX.UARR_one .u8 32 Y) v h
  · rfl
theorem info_part : (Tryd.prog.info? 29).map (·.size) = some 66 := by kernel_rfl
theorem zero_part : ∃ ZP : Array Value, PTG 0 (fun _ => 0) (fun _ => 0) 0 = ZP ∧ (∀ w, (zeroValue 29).run Tryd.prog w = .ok (.agg ZP) w) ∧ (∀ w, (Instr.build 29 #[]).run Tryd.prog w = .ok (.agg ZP) w) ∧ ZP.size = 66 ∧ ZP.all (·.oneCell') = true :=
  ⟨_, rfl, fun _ => by kernel_rfl, fun w => run_build (P := Tryd.prog) w 29 #[] _ (by kernel_rfl), PTG_size _ _ _ _, PTG_one _ _ _ _⟩
theorem built_part (k : Nat) (X Y : Nat → Nat) (q : Nat) : Tryd.prog.built 29 [(0, .int .u64 (k : Int)), (1, .agg (HX.UARR .u8 32 X)), (2, .agg (HX.UARR .u8 32 Y)), (3, .int .i64 (q : Int))] = some (PTG k X Y q) := by kernel_rfl
theorem build_part {ops : Array Oper} {rest : List Oper} {o : Oper} {a : Act} {w : World} {Q : Exit → Act → World → Prop} (hg : o.guard = none) (x y z u : Operand) (ho : o.op = .build 29 #[(0, x), (1, y), (2, z), (3, u)]) (k : Nat) (X Y : Nat → Nat) (q : Nat) (hx : a.eval x = .int .u64 (k : Int)) (hy : a.eval y = .agg (HX.UARR .u8 32 X)) (hz : a.eval z = .agg (HX.UARR .u8 32 Y)) (hu : a.eval u = .int .i64 (q : Int))
    (h : wpList Tryd.prog ops Q rest (a.put o.dst (.agg (PTG k X Y q))) w) : wpList Tryd.prog ops Q (o :: rest) a w := by
  have e : Tryd.prog.built 29 ((#[(0, x), (1, y), (2, z), (3, u)] : Array (Nat × Operand)).map fun (i, x) => (i, a.eval x)).toList = some (PTG k X Y q) := by
    simp only [List.map_toArray, List.map_cons, List.map_nil, hx, hy, hz, hu]
    exact built_part k X Y q
  refine wpList_build hg 29 _ ho (by rw [e]; rfl) ?_
  rw [e]
  exact h
theorem results_part {fn : Func} {p q : Tmp} {ty : TypeId} (h : fn.results = #[.cell p ty, .tmp q]) (tmps : Array Value) (w : World) (g : Nat) (t : TypeId) (cs : Array Value) (fr : Nat × Nat) (fs : Array Field)
    (hp : tmps.getD p undef = .pointer (some ⟨g, 0, none⟩)) (hg : w.heap[g]? = some (.cells cs t fr)) (v : Value) (hq : tmps.getD q undef = v)
    (hu : Tryd.prog.underlying ty = some (.struct fs)) (hi : (Tryd.prog.info? ty).map (·.size) = some cs.size) :
    (results fn tmps).run Tryd.prog w = .ok (.tuple #[.agg cs, v]) w := by
  have hp' : tmps[p]?.getD undef = .pointer (some ⟨g, 0, none⟩) := by simpa using hp
  have hq' : tmps[q]?.getD undef = v := by simpa using hq
  simp [results, h, hp', hq', asAddr, run_loadVar_row w g t ty cs fr (.struct fs) hg hu rfl hi]
theorem store_part {w : World} {g : Nat} {C D : Array Value} (h : Has w g C 29) (hC : C.size = 66) (hD : D.size = 66) (h1 : D.all (·.oneCell') = true) : (storeCells ⟨g, 0, none⟩ D.toList 0).run Tryd.prog w = .ok () (w.setRow g D) := by
  have := run_storeCells_from (P := Tryd.prog) g 29 D.toList 0 _ w h (by simp [hC, hD]) (fun v hv => by have := Array.all_eq_true_iff_forall_mem.1 h1 v (by simpa using hv); exact this)
  simpa using this
end Go.Proofs.YtnplhejopmoopaaDoor

/- Spans of leaves as perfect trees, in plain numbers. -/
namespace Go.Proofs.YtnplhejopmoopaaDoor

/-- a perfect tree of height h begins at a and does not reach beyond b. -/
abbrev Fit (a h b : Nat) : Prop := a % 2 ^ h = 0 ∧ a + 2 ^ h ≤ b
theorem Fit.down {a h b : Nat} (f : Fit a (h + 1) b) : Fit a h b := by
  have h1 : 2 ^ (h + 1) = 2 ^ h * 2 := Nat.pow_succ 2 h
  have h2 := f.2
  refine ⟨?_, by omega⟩
  have h3 := f.1
  have h4 : 2 ^ h ∣ 2 ^ (h + 1) := ⟨2, h1⟩
  exact Nat.mod_eq_zero_of_dvd (Nat.dvd_trans h4 (Nat.dvd_of_mod_eq_zero h3))
theorem Fit.le {a g b : Nat} : ∀ h, h ≤ g → Fit a g b → Fit a h b := by
  intro h hg f
  induction g with
  | zero => obtain rfl : h = 0 := by omega
            exact f
  | succ g ih =>
    rcases Nat.lt_or_ge h (g + 1) with h1 | h1
    · exact ih (by omega) f.down
    · obtain rfl : h = g + 1 := by omega
      exact f
theorem Fit.zero {a b : Nat} (h : a < b) : Fit a 0 b := ⟨Nat.mod_one a, by simp; omega⟩
/-- the greatest height up to f that fits. -/
def HTF : Nat → Nat → Nat → Nat
  | 0, _, _ => 0
  | f + 1, a, b => if Fit a (f + 1) b then f + 1 else HTF f a b
/-- the height of the greatest tree that begins at a and does not reach beyond b. -/
def HT (a b : Nat) : Nat := HTF 62 a b
theorem HTF_spec {a b : Nat} (hab : a < b) : ∀ f, ¬ Fit a (f + 1) b → HTF f a b ≤ f ∧ Fit a (HTF f a b) b ∧ ¬ Fit a (HTF f a b + 1) b := by
  intro f
  induction f with
  | zero => intro h; exact ⟨Nat.le_refl _, Fit.zero hab, h⟩
  | succ f ih =>
    intro h
    unfold HTF
    split
    · rename_i h1
      exact ⟨Nat.le_refl _, h1, h⟩
    · rename_i h1
      have := ih h1
      exact ⟨by omega, this.2⟩
theorem HT_spec {a b : Nat} (hab : a < b) (hb : b ≤ 4611686018427387904) : HT a b ≤ 62 ∧ Fit a (HT a b) b ∧ ¬ Fit a (HT a b + 1) b := by
  refine HTF_spec hab 62 ?_
  intro h
  have := h.2
  simp at this
  omega
theorem HT_only {a b h : Nat} (hab : a < b) (hb : b ≤ 4611686018427387904) (h1 : Fit a h b) (h2 : ¬ Fit a (h + 1) b) : h = HT a b := by
  obtain ⟨_, a1, a2⟩ := HT_spec hab hb
  rcases Nat.lt_trichotomy h (HT a b) with c | c | c
  · exact absurd (a1.le (h + 1) (by omega)) h2
  · exact c
  · exact absurd (h1.le (HT a b + 1) (by omega)) a2
def SPANF : Nat → Nat → Nat → List (Nat × Nat)
  | 0, _, _ => []
  | f + 1, a, b => if a < b then (HT a b, a / 2 ^ HT a b) :: SPANF f (a + 2 ^ HT a b) b else []
/-- the fewest spots over the leaves from a to b - 1. -/
def SPAN (a b : Nat) : List (Nat × Nat) := SPANF (b - a) a b
theorem SPANF_more : ∀ f g a b, b - a ≤ f → b - a ≤ g → SPANF f a b = SPANF g a b := by
  intro f
  induction f with
  | zero =>
    intro g a b h1 h2
    cases g with
    | zero => rfl
    | succ g => simp [SPANF]; omega
  | succ f ih =>
    intro g a b h1 h2
    cases g with
    | zero => simp [SPANF]; omega
    | succ g =>
      unfold SPANF
      have := Nat.two_pow_pos (HT a b)
      rw [ih g (a + 2 ^ HT a b) b (by omega) (by omega)]
theorem SPAN_end {a b : Nat} (h : b ≤ a) : SPAN a b = [] := by
  unfold SPAN
  rw [show b - a = 0 by omega]
  rfl
theorem SPAN_step {a b : Nat} (h : a < b) : SPAN a b = (HT a b, a / 2 ^ HT a b) :: SPAN (a + 2 ^ HT a b) b := by
  unfold SPAN
  obtain ⟨f, hf⟩ : ∃ f, b - a = f + 1 := ⟨b - a - 1, by omega⟩
  have := Nat.two_pow_pos (HT a b)
  rw [hf]
  show (if a < b then _ else _) = _
  rw [if_pos h]
  congr 1
  exact SPANF_more _ _ _ _ (by omega) (by omega)
/-- spots that lie over the leaves from a to b - 1, one behind the other. -/
def Tile : Nat → List (Nat × Nat) → Nat → Prop
  | a, [], b => a = b
  | a, s :: l, b => Node s.1 s.2 ∧ s.2 * 2 ^ s.1 = a ∧ Tile ((s.2 + 1) * 2 ^ s.1) l b
/-- two neighbours that are siblings. -/
abbrev Sibs (x y : Nat × Nat) : Prop := x.1 = y.1 ∧ x.2 % 2 = 0 ∧ y.2 = x.2 + 1
/-- no two neighbours are siblings. -/
def Irr : List (Nat × Nat) → Prop
  | [] => True
  | x :: l => (∀ y, l.head? = some y → ¬ Sibs x y) ∧ Irr l
theorem Fit.node {a h b : Nat} (f : Fit a h b) (hh : h ≤ 62) (hb : b ≤ 4611686018427387904) : Node h (a / 2 ^ h) ∧ a / 2 ^ h * 2 ^ h = a ∧ (a / 2 ^ h + 1) * 2 ^ h = a + 2 ^ h := by
  have h1 : a / 2 ^ h * 2 ^ h = a := Nat.div_mul_cancel (Nat.dvd_of_mod_eq_zero f.1)
  have h2 : (a / 2 ^ h + 1) * 2 ^ h = a + 2 ^ h := by rw [Nat.add_mul, Nat.one_mul, h1]
  refine ⟨⟨hh, ?_⟩, h1, h2⟩
  have h3 : (a / 2 ^ h + 1) * 2 ^ h ≤ 2 ^ (62 - h) * 2 ^ h := by
    rw [h2, ← Nat.pow_add, show 62 - h + h = 62 by omega]
    have := f.2
    simp
    omega
  exact Nat.le_of_mul_le_mul_right h3 (Nat.two_pow_pos h)
theorem pow_up (h : Nat) : 2 ^ (h + 1) = 2 * 2 ^ h := by rw [Nat.pow_succ, Nat.mul_comm]
theorem even_up {k h : Nat} : k * 2 ^ h % 2 ^ (h + 1) = 0 ↔ k % 2 = 0 := by
  rw [Nat.pow_succ, Nat.mul_comm (2 ^ h) 2, Nat.mul_mod_mul_right]
  have := Nat.two_pow_pos h
  constructor
  · intro e
    rcases Nat.mul_eq_zero.1 e with e | e
    · exact e
    · omega
  · intro e
    rw [e, Nat.zero_mul]
theorem Tile_span {b : Nat} (hb : b ≤ 4611686018427387904) : ∀ f a, b - a ≤ f → a ≤ b → Tile a (SPAN a b) b := by
  intro f
  induction f with
  | zero =>
    intro a h1 h2
    rw [SPAN_end (by omega)]
    exact (by omega : a = b)
  | succ f ih =>
    intro a h1 h2
    rcases Nat.lt_or_ge a b with h | h
    · obtain ⟨s1, s2, _⟩ := HT_spec h hb
      obtain ⟨n1, n2, n3⟩ := s2.node s1 hb
      rw [SPAN_step h]
      refine ⟨n1, n2, ?_⟩
      show Tile ((a / 2 ^ HT a b + 1) * 2 ^ HT a b) _ b
      rw [n3]
      have := Nat.two_pow_pos (HT a b)
      exact ih _ (by omega) s2.2
    · rw [SPAN_end h]
      exact (by omega : a = b)
theorem tile_span {a b : Nat} (hb : b ≤ 4611686018427387904) (h : a ≤ b) : Tile a (SPAN a b) b := Tile_span hb (b - a) a (Nat.le_refl _) h
theorem Tile.bound {l : List (Nat × Nat)} : ∀ {a b : Nat}, Tile a l b → a ≤ b ∧ (l ≠ [] → a < b ∧ b ≤ 4611686018427387904) := by
  induction l with
  | nil => intro a b h; exact ⟨by have : a = b := h; omega, fun h => absurd rfl h⟩
  | cons s l ih =>
    intro a b ⟨h1, h2, h3⟩
    have i := ih h3
    have := Nat.two_pow_pos s.1
    have e : (s.2 + 1) * 2 ^ s.1 = s.2 * 2 ^ s.1 + 2 ^ s.1 := by rw [Nat.add_mul, Nat.one_mul]
    refine ⟨by omega, fun _ => ⟨by omega, ?_⟩⟩
    cases l with
    | nil =>
      have h4 : (s.2 + 1) * 2 ^ s.1 = b := h3
      have := h1.span
      simp at this
      omega
    | cons t l => exact (i.2 (by simp)).2
theorem span_only {l : List (Nat × Nat)} : ∀ {a b : Nat}, Tile a l b → Irr l → l = SPAN a b := by
  induction l with
  | nil =>
    intro a b h _
    have : a = b := h
    rw [SPAN_end (by omega)]
  | cons s l ih =>
    intro a b ht hi
    obtain ⟨h1, h2, h3⟩ := ht
    obtain ⟨hab, hb⟩ := (Tile.bound (l := s :: l) ⟨h1, h2, h3⟩).2 (by simp)
    have e : (s.2 + 1) * 2 ^ s.1 = s.2 * 2 ^ s.1 + 2 ^ s.1 := by rw [Nat.add_mul, Nat.one_mul]
    have hl := ih h3 hi.2
    have hle := h3.bound.1
    have hpos := Nat.two_pow_pos s.1
    have hf : Fit a s.1 b := ⟨by rw [← h2]; exact Nat.mul_mod_left _ _, by omega⟩
    have hn : ¬ Fit a (s.1 + 1) b := by
      intro hf2
      have hk : s.2 % 2 = 0 := even_up.1 (by rw [h2]; exact hf2.1)
      have p2 := pow_up s.1
      have hf3 := hf2.2
      have hlt : (s.2 + 1) * 2 ^ s.1 < b := by omega
      have hF1 : Fit ((s.2 + 1) * 2 ^ s.1) s.1 b := ⟨Nat.mul_mod_left _ _, by omega⟩
      have hF2 : ¬ Fit ((s.2 + 1) * 2 ^ s.1) (s.1 + 1) b := by
        intro h
        have := even_up.1 h.1
        omega
      have hH := HT_only hlt hb hF1 hF2
      rw [SPAN_step hlt, ← hH, Nat.mul_div_cancel _ hpos] at hl
      refine hi.1 (s.1, s.2 + 1) (by rw [hl]; rfl) ⟨rfl, hk, rfl⟩
    have hH := HT_only hab hb hf hn
    rw [SPAN_step hab, ← hH, hl]
    congr 1
    · rw [← h2, Nat.mul_div_cancel _ hpos]
    · rw [e, h2]
theorem Tile.append {l m : List (Nat × Nat)} : ∀ {a b c : Nat}, Tile a l b → Tile b m c → Tile a (l ++ m) c := by
  induction l with
  | nil => intro a b c h h2; have : a = b := h; rw [this]; exact h2
  | cons s l ih => intro a b c ⟨h1, h2, h3⟩ h4; exact ⟨h1, h2, ih h3 h4⟩
theorem Tile.node {l : List (Nat × Nat)} : ∀ {a b i h k : Nat}, Tile a l b → l[i]? = some (h, k) → Node h k := by
  induction l with
  | nil => intro a b i h k _ e; simp at e
  | cons s l ih =>
    intro a b i h k ⟨h1, h2, h3⟩ e
    cases i with
    | zero => simp at e; subst e; exact h1
    | succ i => exact ih h3 (by simpa using e)
theorem Tile.one {s : Nat × Nat} {a b : Nat} : Tile a [s] b ↔ Node s.1 s.2 ∧ s.2 * 2 ^ s.1 = a ∧ (s.2 + 1) * 2 ^ s.1 = b := Iff.rfl
end Go.Proofs.YtnplhejopmoopaaDoor

/- The peaks of n leaves, one behind the other, in plain numbers. -/
namespace Go.Proofs.YtnplhejopmoopaaDoor

theorem PC_eq_zero {n : Nat} (h : PC n = 0) : n = 0 := by
  induction n using Nat.strongRecOn with
  | _ n ih =>
    by_cases h0 : n = 0
    · exact h0
    · rw [PC_step] at h
      have := ih (n / 2) (by omega) (by omega)
      omega
theorem PC_split (n a b : Nat) (hab : a ≤ b) : n / 2 ^ a = n / 2 ^ b * 2 ^ (b - a) + n / 2 ^ a % 2 ^ (b - a) ∧ PC (n / 2 ^ a) = PC (n / 2 ^ b) + PC (n / 2 ^ a % 2 ^ (b - a)) := by
  have e : n / 2 ^ b = n / 2 ^ a / 2 ^ (b - a) := by rw [Nat.div_div_eq_div_mul, ← Nat.pow_add, show a + (b - a) = b by omega]
  have h1 : n / 2 ^ a = n / 2 ^ b * 2 ^ (b - a) + n / 2 ^ a % 2 ^ (b - a) := by
    rw [e, Nat.mul_comm]
    exact (Nat.div_add_mod _ _).symm
  refine ⟨h1, ?_⟩
  have h2 := PC_add (b - a) (n / 2 ^ b) (n / 2 ^ a % 2 ^ (b - a)) (Nat.mod_lt _ (Nat.two_pow_pos _))
  rw [← h1] at h2
  exact h2
theorem PC_mono (n : Nat) {a b : Nat} (hab : a ≤ b) : PC (n / 2 ^ b) ≤ PC (n / 2 ^ a) := by
  have := (PC_split n a b hab).2
  omega
theorem trunc_eq (n : Nat) {a b : Nat} (hab : a ≤ b) (h : PC (n / 2 ^ a) = PC (n / 2 ^ b)) : n / 2 ^ a * 2 ^ a = n / 2 ^ b * 2 ^ b := by
  obtain ⟨h1, h2⟩ := PC_split n a b hab
  have h3 : n / 2 ^ a % 2 ^ (b - a) = 0 := PC_eq_zero (by omega)
  rw [h3, Nat.add_zero] at h1
  rw [h1, Nat.mul_assoc, ← Nat.pow_add, show b - a + a = b by omega]
theorem HS_index {n : Nat} (hn : n < 2 ^ 64) : ∀ h, h ≤ 64 → ∀ i, i < PC (n / 2 ^ h) → ∃ g, h ≤ g ∧ g < 64 ∧ (HS h n)[i]? = some g ∧ n / 2 ^ g % 2 = 1 ∧ i = PC (n / 2 ^ (g + 1)) := by
  have key : ∀ d h, h + d = 64 → ∀ i, i < PC (n / 2 ^ h) → ∃ g, h ≤ g ∧ g < 64 ∧ (HS h n)[i]? = some g ∧ n / 2 ^ g % 2 = 1 ∧ i = PC (n / 2 ^ (g + 1)) := by
    intro d
    induction d with
    | zero =>
      intro h e i hi
      obtain rfl : h = 64 := by omega
      rw [Nat.div_eq_of_lt hn, PC_zero] at hi
      omega
    | succ d ih =>
      intro h e i hi
      have hl := HS_length hn (h + 1) (by omega)
      have hs : PC (n / 2 ^ h) = n / 2 ^ h % 2 + PC (n / 2 ^ (h + 1)) := by rw [PC_step, half_pow]
      rcases Nat.lt_or_ge i (PC (n / 2 ^ (h + 1))) with h1 | h1
      · obtain ⟨g, a, b, c, r⟩ := ih (h + 1) (by omega) i h1
        refine ⟨g, by omega, b, ?_, r⟩
        by_cases hb : n / 2 ^ h % 2 = 1
        · rw [HS_set (by omega) hb, List.getElem?_append_left (by omega)]
          exact c
        · rw [HS_clear (by omega) hb]
          exact c
      · have hb : n / 2 ^ h % 2 = 1 := by omega
        have hi' : i = PC (n / 2 ^ (h + 1)) := by omega
        refine ⟨h, Nat.le_refl _, by omega, ?_, hb, hi'⟩
        rw [HS_set (by omega) hb, List.getElem?_append_right (by omega), hl, hi']
        simp
  intro h hh
  exact key (64 - h) h (by omega)
/-- the height of the peak i of n leaves; the leaves ahead of it. -/
def HGT (n i : Nat) : Nat := (HS 0 n).getD i 0
def AHEAD (n : Nat) : Nat → Nat
  | 0 => 0
  | i + 1 => n / 2 ^ HGT n i * 2 ^ HGT n i
theorem HGT_at {n i : Nat} (hn : n < 2 ^ 64) (hi : i < PC n) : (HS 0 n)[i]? = some (HGT n i) ∧ n / 2 ^ HGT n i % 2 = 1 ∧ i = PC (n / 2 ^ (HGT n i + 1)) := by
  obtain ⟨g, _, _, c, d, e⟩ := HS_index hn 0 (by omega) i (by rw [Nat.pow_zero, Nat.div_one]; exact hi)
  have hg : HGT n i = g := by unfold HGT; rw [List.getD_eq_getElem?_getD, c]; rfl
  rw [hg]
  exact ⟨c, d, e⟩
/-- the index of the peak i among the nodes of its height. -/
def KGT (n i : Nat) : Nat := 2 * (n / 2 ^ (HGT n i + 1))
theorem PEAKS_at {n i : Nat} (hn : n < 2 ^ 64) (hi : i < PC n) : (PEAKS n).getD i 0 = PLC (HGT n i) (KGT n i) := by
  unfold PEAKS
  rw [List.getD_eq_getElem?_getD, List.getElem?_map, (HGT_at hn hi).1]
  rfl
theorem PEAK_node {n i : Nat} (hn : n ≤ 4611686018427387904) (hi : i < PC n) : Node (HGT n i) (KGT n i) := Node.peak hn (HGT_at (by omega) hi).2.1
theorem PC_after {n i : Nat} (hn : n < 2 ^ 64) (hi : i < PC n) : PC (n / 2 ^ HGT n i) = i + 1 := by
  obtain ⟨_, h2, h3⟩ := HGT_at hn hi
  rw [PC_step, ← half_pow]
  omega
theorem HGT_falls {n i : Nat} (hn : n < 2 ^ 64) (hi : i + 1 < PC n) : HGT n (i + 1) < HGT n i := by
  have h1 := PC_after hn (i := i) (by omega)
  have h2 := (HGT_at hn hi).2.2
  rcases Nat.lt_or_ge (HGT n (i + 1)) (HGT n i) with h | h
  · exact h
  · have h3 := PC_mono n (a := HGT n i + 1) (b := HGT n (i + 1) + 1) (by omega)
    have h4 := (HGT_at hn (i := i) (by omega)).2.2
    omega
theorem AHEAD_from {n i : Nat} (hn : n < 2 ^ 64) (hi : i < PC n) : KGT n i * 2 ^ HGT n i = AHEAD n i := by
  have hk : KGT n i * 2 ^ HGT n i = n / 2 ^ (HGT n i + 1) * 2 ^ (HGT n i + 1) := double_pow _ _
  have h2 := (HGT_at hn hi).2.2
  cases i with
  | zero =>
    rw [hk, PC_eq_zero h2.symm, Nat.zero_mul]
    rfl
  | succ i =>
    have h1 := PC_after hn (i := i) (by omega)
    have h3 := HGT_falls hn hi
    rw [hk]
    exact trunc_eq n (by omega) (by omega)
theorem AHEAD_to {n i : Nat} (hn : n < 2 ^ 64) (hi : i < PC n) : (KGT n i + 1) * 2 ^ HGT n i = AHEAD n (i + 1) := by
  have := at_set (HGT_at hn hi).2.1
  show (2 * (n / 2 ^ (HGT n i + 1)) + 1) * 2 ^ HGT n i = n / 2 ^ HGT n i * 2 ^ HGT n i
  rw [← this]
theorem AHEAD_all {n : Nat} (hn : n < 2 ^ 64) : AHEAD n (PC n) = n := by
  cases h : PC n with
  | zero =>
    rw [PC_eq_zero h]
    rfl
  | succ i =>
    have h1 := PC_after hn (i := i) (by omega)
    have h2 := trunc_eq n (a := 0) (b := HGT n i) (by omega) (by rw [Nat.pow_zero, Nat.div_one]; omega)
    rw [Nat.pow_zero, Nat.div_one, Nat.mul_one] at h2
    exact h2.symm
end Go.Proofs.YtnplhejopmoopaaDoor

/- The spots of the peaks are the span of all leaves. -/
namespace Go.Proofs.YtnplhejopmoopaaDoor

/-- the peaks' spots from the j-th on. -/
def PKS (n j c : Nat) : List (Nat × Nat) := (List.range' j c).map fun i => (HGT n i, KGT n i)
theorem PKS_step (n j c : Nat) : PKS n j (c + 1) = (HGT n j, KGT n j) :: PKS n (j + 1) c := by simp [PKS, List.range'_succ]
theorem PKS_at {n c i : Nat} (h : i < c) : (PKS n 0 c)[i]? = some (HGT n i, KGT n i) := by
  simp [PKS, h]
theorem PKS_tile {n : Nat} (hn : n ≤ 4611686018427387904) : ∀ c j, j + c = PC n → Tile (AHEAD n j) (PKS n j c) n ∧ Irr (PKS n j c) := by
  intro c
  induction c with
  | zero =>
    intro j e
    obtain rfl : j = PC n := by omega
    exact ⟨AHEAD_all (by omega), trivial⟩
  | succ c ih =>
    intro j e
    obtain ⟨i1, i2⟩ := ih (j + 1) (by omega)
    rw [PKS_step]
    refine ⟨⟨PEAK_node hn (by omega), AHEAD_from (by omega) (by omega), ?_⟩, ?_, i2⟩
    · show Tile ((KGT n j + 1) * 2 ^ HGT n j) _ n
      rw [AHEAD_to (by omega) (by omega)]
      exact i1
    · intro y hy ⟨h1, _, _⟩
      cases c with
      | zero => simp [PKS] at hy
      | succ c =>
        rw [PKS_step] at hy
        simp at hy
        subst hy
        have := HGT_falls (n := n) (i := j) (by omega) (by omega)
        dsimp only at h1
        omega
theorem SPAN_peaks {n : Nat} (hn : n ≤ 4611686018427387904) : SPAN 0 n = PKS n 0 (PC n) := by
  obtain ⟨h1, h2⟩ := PKS_tile hn (PC n) 0 (by omega)
  exact (span_only h1 h2).symm
theorem SPAN_zero_length {n : Nat} (hn : n ≤ 4611686018427387904) : (SPAN 0 n).length = PC n := by
  rw [SPAN_peaks hn]
  simp [PKS]
theorem SPAN_zero_at {n i : Nat} (hn : n ≤ 4611686018427387904) (hi : i < PC n) : (SPAN 0 n)[i]? = some (HGT n i, KGT n i) := by
  rw [SPAN_peaks hn]
  exact PKS_at hi
end Go.Proofs.YtnplhejopmoopaaDoor
