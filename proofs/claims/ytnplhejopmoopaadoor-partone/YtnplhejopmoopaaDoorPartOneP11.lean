/- Texts of PartOne, one behind the other: StoreStore, StoreInsert. -/
import Derived.Deep.AppendLies
import Derived.Test.YtnplhejopmoopaaDoorPartOneP10
/- A store in memory; Store.find, Get, Live. -/
namespace Go.Proofs.YtnplhejopmoopaaDoor.HX
open Go.RowKit Go.Maps
set_option maxRecDepth 100000

theorem look_nil {k : Nat} (hk : k < 2 ^ 64) (w : World) : (Instr.lookup 72 (.map none) (KEY k) true).run Tryd.prog w = .ok (.tuple #[.pointer none, .bool false]) w := by
  have hc := lawKey.check w true (keyk_ok hk)
  rcases lawKey.find w (keyk_ok hk) [] (fun e he => by cases he) with ⟨hf, _⟩ | ⟨j, e, _, he, _⟩
  · simp [Instr.lookup, run_underlying Tryd.underlying72, hc, hf]
  · simp at he
/-- which chunk a number has: its block and its rows. -/
abbrev CHUNKS := Nat → Option (Nat × List ROW)
/-- a store whose cells begin block g; its map, chunks, rows and hashes lie in blocks from B on. -/
structure STORE (w : World) (B g log len alive N : Nat) (C : CHUNKS) : Prop where
  small : log ≤ 16
  short : len < 2 ^ 40
  c0 : w.cell? ⟨g, 0, none⟩ = some (.int .i64 (log : Int))
  c1 : w.cell? ⟨g, 1, none⟩ = some (.int .u64 (len : Int))
  c2 : w.cell? ⟨g, 2, none⟩ = some (.int .u64 (alive : Int))
  live : ∀ i, i < 7 → w.frozen? ⟨g, i, none⟩ = false
  kind : ∃ cs t fr, w.heap[g]? = some (.cells cs t fr) ∧ t ≠ 115 ∧ t ≠ 124 ∧ t ≠ 27
  map : ∃ mv, w.cell? ⟨g, 3, none⟩ = some (.map mv) ∧ (mv = none → ∀ k, C k = none) ∧ ∀ b, mv = some b → B ≤ b ∧ ∃ n, n ≤ N ∧ ChunkMap w b n (fun k => (C k).map Prod.fst)
  chunk : ∀ k gc rs, C k = some (gc, rs) → k < 2 ^ 64 ∧ CHUNK w B gc rs ∧ ∀ r ∈ rs, ∀ j, j < 64 → r.live.testBit j = true → (r.num * 64 + j) / 2 ^ log = k ∧ r.num * 64 + j < len
  one : ∀ k k' gc gc' rs rs', k ≠ k' → C k = some (gc, rs) → C k' = some (gc', rs') → gc ≠ gc' ∧ (∀ r ∈ rs, ∀ r' ∈ rs', r.gh ≠ r'.gh) ∧ ∀ v v', w.cell? ⟨gc, 0, none⟩ = some v → w.cell? ⟨gc', 0, none⟩ = some v' → v.ownBlock = none ∨ v.ownBlock ≠ v'.ownBlock
/-- what a store has at the place p. -/
def AT (C : CHUNKS) (log p : Nat) : Option (Nat → Nat) := (C (p / 2 ^ log)).bind fun c => LOOK c.2 p
theorem CHUNK.below {w w' : World} {B g : Nat} {rs : List ROW} (h : CHUNK w B g rs) (hb : Below w.heap.size w w') : CHUNK w' B g rs := by
  obtain ⟨v, hv, ho⟩ := h.box
  have keep : ∀ {t : TypeId} {s n : Nat} {v : Value} {xs : List Value}, w.ownsRow B t s v n xs → w'.ownsRow B t s v n xs := fun h => ⟨h.1, h.2.imp id fun ⟨g, c, cur, a, b, r, rest⟩ => ⟨g, c, cur, a, b, (hb.block g (Array.getElem?_eq_some_iff.1 r).1).trans r, rest⟩⟩
  exact ⟨⟨v, hv.keep hb, keep ho⟩, h.far, h.few, h.rise, fun r hr => by obtain ⟨a, b, c, d, e⟩ := h.row r hr; exact ⟨a, b, c, d, keep e⟩, h.apart, h.lives⟩
theorem STORE.lt {w : World} {B g log len alive N : Nat} {C : CHUNKS} (h : STORE w B g log len alive N C) : g < w.heap.size := by
  obtain ⟨cs, t, fr, h1, _⟩ := h.kind
  exact (Array.getElem?_eq_some_iff.1 h1).1
theorem STORE.below {w w' : World} {B g log len alive N : Nat} {C : CHUNKS} (h : STORE w B g log len alive N C) (hb : Below w.heap.size w w') : STORE w' B g log len alive N C := by
  have hlt := h.lt
  have cell : ∀ i, w'.cell? ⟨g, i, none⟩ = w.cell? ⟨g, i, none⟩ := fun i => hb.cell (by exact hlt)
  refine ⟨h.small, h.short, (cell 0).trans h.c0, (cell 1).trans h.c1, (cell 2).trans h.c2, fun i hi => ?_, ?_, ?_, ?_, ?_⟩
  · have := h.live i hi
    unfold World.frozen? at this ⊢
    rw [hb.block g hlt]
    exact this
  · obtain ⟨cs, t, fr, h1, h2⟩ := h.kind
    exact ⟨cs, t, fr, (hb.block g hlt).trans h1, h2⟩
  · obtain ⟨mv, h1, h2, h3⟩ := h.map
    exact ⟨mv, (cell 3).trans h1, h2, fun b e => by obtain ⟨x, n, y, z⟩ := h3 b e; exact ⟨x, n, y, z.below hb⟩⟩
  · intro k gc rs e
    obtain ⟨a, b, c⟩ := h.chunk k gc rs e
    exact ⟨a, b.below hb, c⟩
  · intro k k' gc gc' rs rs' hne e e'
    obtain ⟨a, b, c⟩ := h.one k k' gc gc' rs rs' hne e e'
    refine ⟨a, b, fun v v' hv hv' => c v v' ?_ ?_⟩
    · obtain ⟨x, hx, _⟩ := (h.chunk k gc rs e).2.1.box
      rw [← hv]
      exact (hb.cell (by exact hx.lt)).symm
    · obtain ⟨x, hx, _⟩ := (h.chunk k' gc' rs' e').2.1.box
      rw [← hv']
      exact (hb.cell (by exact hx.lt)).symm
theorem STORE.key {w : World} {B g log len alive N : Nat} {C : CHUNKS} (h : STORE w B g log len alive N C) (p : Nat) (W : World) (hW : Below w.heap.size w W) : Calls Tryd.prog 59 #[.pointer (some ⟨g, 0, none⟩), .int .u64 (p : Int)] W fun e w' => e = .returned (KEY (p / 2 ^ log)) ∧ Below w.heap.size w w' := by
  have hs := h.small
  have e : (p : Int) / 2 ^ min (log : Int).toNat 64 = ((p / 2 ^ log : Nat) : Int) := by
    rw [show min (log : Int).toNat 64 = log by omega]
    norm_cast
  exact (chunkof_raw g (p : Int) (log : Int) _ (by omega) W ((h.below hW).c0) e).mono fun e w' ⟨h1, h2⟩ => ⟨h1, hW.trans (h2.mono hW.size)⟩
/-- what is looked up. -/
theorem STORE.looked {w : World} {B g log len alive N : Nat} {C : CHUNKS} (h : STORE w B g log len alive N C) (k : Nat) (hk : k < 2 ^ 64) : ∃ mv v, (∀ W, Below w.heap.size w W → W.cell? ⟨g, 3, none⟩ = some mv) ∧ (∀ W, Below w.heap.size w W → (Instr.lookup 72 mv (KEY k) true).run Tryd.prog W = .ok (.tuple #[v, .bool (C k).isSome]) W) ∧ ∀ gc rs, C k = some (gc, rs) → v = .pointer (some ⟨gc, 0, none⟩) := by
  obtain ⟨mv, h1, h2, h3⟩ := h.map
  have hlt := h.lt
  cases mv with
  | none =>
    have hc := h2 rfl k
    refine ⟨.map none, .pointer none, fun W hW => (hW.cell (by exact hlt)).trans h1, fun W _ => ?_, fun gc rs e => by rw [hc] at e; cases e⟩
    rw [hc]
    exact look_nil hk W
  | some b =>
    obtain ⟨hb, n, hn, hm⟩ := h3 b rfl
    obtain ⟨v, hv, hg, hz⟩ := hm.look hk
    refine ⟨.map (some b), v, fun W hW => (hW.cell (by exact hlt)).trans h1, fun W hW => ?_, fun gc rs e => hg gc (by rw [e]; rfl)⟩
    obtain ⟨v', hv', hg', hz'⟩ := (hm.below hW).look hk
    have e1 : ((C k).map Prod.fst).isSome = (C k).isSome := by cases C k <;> rfl
    cases hc : C k with
    | none =>
      rw [hz' (by rw [hc]; rfl), e1, hc] at hv'
      rw [hz (by rw [hc]; rfl)]
      exact hv'
    | some c =>
      have e2 := hg c.1 (by rw [hc]; rfl)
      have e3 := hg' c.1 (by rw [hc]; rfl)
      rw [e3, e1, hc] at hv'
      rw [e2]
      exact hv'
def F1OPS : Array Oper := #[{ dst := some 9, op := Op.move (Operand.tmp 0), type := 89, pos := "store.go:187", after := #[], guard := none }, { dst := some 10, op := Op.nilCheck (Operand.tmp 9), type := 0, pos := "store.go:187", after := #[{ on := 0, ground := Ground.data }], guard := none }, { dst := some 11, op := Op.fieldAddr 75 (Operand.tmp 10) 3, type := 0, pos := "store.go:187", after := #[{ on := 1, ground := Ground.data }], guard := none }, { dst := some 12, op := Op.load 72 (Operand.tmp 11), type := 72, pos := "store.go:187", after := #[{ on := 2, ground := Ground.data }], guard := none }, { dst := some 13, op := Op.move (Operand.tmp 0), type := 89, pos := "store.go:187", after := #[], guard := none }, { dst := some 14, op := Op.move (Operand.tmp 1), type := 25, pos := "store.go:187", after := #[], guard := none }, { dst := some 15, op := Op.call { callee := Callee.value (Operand.func 59), args := #[Operand.tmp 13, Operand.tmp 14], argTypes := #[89, 25] }, type := 109, pos := "store.go:187", after := #[{ on := 4, ground := Ground.data }, { on := 5, ground := Ground.data }], guard := none }, { dst := some 16, op := Op.lookup 72 (Operand.tmp 12) (Operand.tmp 15) true, type := 107, pos := "store.go:187", after := #[{ on := 3, ground := Ground.data }, { on := 6, ground := Ground.data }], guard := none }, { dst := some 8, op := Op.move (Operand.tmp 16), type := 107, pos := "store.go:187", after := #[{ on := 7, ground := Ground.data }], guard := none }, { dst := some 17, op := Op.extract (Operand.tmp 8) 0, type := 106, pos := "store.go:187", after := #[{ on := 8, ground := Ground.data }], guard := none }, { dst := some 18, op := Op.extract (Operand.tmp 8) 1, type := 4, pos := "store.go:187", after := #[{ on := 8, ground := Ground.data }, { on := 11, ground := Ground.gcOnly Departure.lateStores }], guard := none }, { dst := some 6, op := Op.assign (Operand.tmp 17), type := 106, pos := "store.go:187", after := #[{ on := 9, ground := Ground.data }, { on := 6, ground := Ground.chain }, { on := 0, ground := Ground.phase }, { on := 1, ground := Ground.phase }, { on := 2, ground := Ground.phase }, { on := 3, ground := Ground.phase }, { on := 4, ground := Ground.phase }, { on := 5, ground := Ground.phase }, { on := 6, ground := Ground.phase }, { on := 7, ground := Ground.phase }, { on := 8, ground := Ground.phase }, { on := 9, ground := Ground.phase }, { on := 10, ground := Ground.textOnly Departure.lateStores }], guard := none }, { dst := some 7, op := Op.assign (Operand.tmp 18), type := 4, pos := "store.go:187", after := #[{ on := 10, ground := Ground.data }, { on := 11, ground := Ground.chain }, { on := 0, ground := Ground.phase }, { on := 1, ground := Ground.phase }, { on := 2, ground := Ground.phase }, { on := 3, ground := Ground.phase }, { on := 4, ground := Ground.phase }, { on := 5, ground := Ground.phase }, { on := 6, ground := Ground.phase }, { on := 7, ground := Ground.phase }, { on := 8, ground := Ground.phase }, { on := 9, ground := Ground.phase }, { on := 10, ground := Ground.phase }, { on := 11, ground := Ground.phase }], guard := none }]
set_option maxHeartbeats 2000000 in
theorem find1 {Q : Exit → Act → World → Prop} (u2 u3 u4 u5 u6 u7 u8 u9 u10 u11 u12 u13 u14 u15 u16 u17 u18 u19 u20 u21 u22 u23 u24 u25 u26 : Value) (W : World) (g p k : Nat) (mv v : Value) (b : Bool) (h3 : ∀ w, Below W.heap.size W w → w.cell? ⟨g, 3, none⟩ = some mv) (hlook : ∀ w, Below W.heap.size W w → (Instr.lookup 72 mv (KEY k) true).run Tryd.prog w = .ok (.tuple #[v, .bool b]) w) (cK : ∀ w, Below W.heap.size W w → Calls Tryd.prog 59 #[.pointer (some ⟨g, 0, none⟩), .int .u64 (p : Int)] w fun e w' => e = .returned (KEY k) ∧ Below W.heap.size W w') (hQ : ∀ c (a : Act) (t : Tmp) (v : Value) w, Q (.panic c) (a.put (some t) v) w → Q (.panic c) a w)
    (h : ∀ w, (fun w => Below W.heap.size W w) w → Q .normal { tmps := #[.pointer (some ⟨g, 0, none⟩), .int .u64 (p : Int), u2, u3, u4, u5, v, .bool b, .tuple #[v, .bool b], .pointer (some ⟨g, 0, none⟩), .pointer (some ⟨g, 0, none⟩), .pointer (some ⟨g, 3, none⟩), mv, .pointer (some ⟨g, 0, none⟩), .int .u64 (p : Int), KEY k, .tuple #[v, .bool b], v, .bool b, u19, u20, u21, u22, u23, u24, u25, u26], defers := [] } w) : (Code.region 1 F1OPS true).wp Tryd.prog Q { tmps := #[.pointer (some ⟨g, 0, none⟩), .int .u64 (p : Int), u2, u3, u4, u5, u6, u7, u8, u9, u10, u11, u12, u13, u14, u15, u16, u17, u18, u19, u20, u21, u22, u23, u24, u25, u26], defers := [] } W := by
  have hs0 : (fun w => Below W.heap.size W w) W.drew := (Below.refl _ _).drew
  have k1 : ∀ w, (fun w => Below W.heap.size W w) w → wpAnyH Tryd.prog .any F1OPS Q (fun w => Below W.heap.size W w) 6 #[true, true, true, true, true, true, true, false, false, false, false, false, false] { tmps := #[.pointer (some ⟨g, 0, none⟩), .int .u64 (p : Int), u2, u3, u4, u5, u6, u7, u8, .pointer (some ⟨g, 0, none⟩), .pointer (some ⟨g, 0, none⟩), .pointer (some ⟨g, 3, none⟩), mv, .pointer (some ⟨g, 0, none⟩), .int .u64 (p : Int), KEY k, u16, u17, u18, u19, u20, u21, u22, u23, u24, u25, u26], defers := [] } w := fun w hw => by
    have hww : (fun w => Below W.heap.size W w) w := hw
    have last : wpAnyH Tryd.prog .any F1OPS Q (fun w => Below W.heap.size W w) 0 #[true, true, true, true, true, true, true, true, true, true, true, true, true] { tmps := #[.pointer (some ⟨g, 0, none⟩), .int .u64 (p : Int), u2, u3, u4, u5, v, .bool b, .tuple #[v, .bool b], .pointer (some ⟨g, 0, none⟩), .pointer (some ⟨g, 0, none⟩), .pointer (some ⟨g, 3, none⟩), mv, .pointer (some ⟨g, 0, none⟩), .int .u64 (p : Int), KEY k, .tuple #[v, .bool b], v, .bool b, u19, u20, u21, u22, u23, u24, u25, u26], defers := [] } w := wpAnyH_done (by kernel_rfl) (h w hw) _
    have t12 : wpAnyH Tryd.prog .any F1OPS Q (fun w => Below W.heap.size W w) 1 #[true, true, true, true, true, true, true, true, true, true, true, true, false] { tmps := #[.pointer (some ⟨g, 0, none⟩), .int .u64 (p : Int), u2, u3, u4, u5, v, u7, .tuple #[v, .bool b], .pointer (some ⟨g, 0, none⟩), .pointer (some ⟨g, 0, none⟩), .pointer (some ⟨g, 3, none⟩), mv, .pointer (some ⟨g, 0, none⟩), .int .u64 (p : Int), KEY k, .tuple #[v, .bool b], v, .bool b, u19, u20, u21, u22, u23, u24, u25, u26], defers := [] } w :=
      wpAnyH_take (i := 12) (oi := { dst := some 7, op := Op.assign (Operand.tmp 18), type := 4, pos := "store.go:187", after := #[{ on := 10, ground := Ground.data }, { on := 11, ground := Ground.chain }, { on := 0, ground := Ground.phase }, { on := 1, ground := Ground.phase }, { on := 2, ground := Ground.phase }, { on := 3, ground := Ground.phase }, { on := 4, ground := Ground.phase }, { on := 5, ground := Ground.phase }, { on := 6, ground := Ground.phase }, { on := 7, ground := Ground.phase }, { on := 8, ground := Ground.phase }, { on := 9, ground := Ground.phase }, { on := 10, ground := Ground.phase }, { on := 11, ground := Ground.phase }], guard := none }) (v := .bool b) rfl (by kernel_rfl) (by kernel_rfl) (by kernel_rfl) (fun _ _ _ h => hQ _ _ _ _ _ h) (Yields.yieldsIf (Or.inl ⟨by rfl, fun W => by go_simp⟩)) hww last
    have t11 : wpAnyH Tryd.prog .any F1OPS Q (fun w => Below W.heap.size W w) 2 #[true, true, true, true, true, true, true, true, true, true, true, false, false] { tmps := #[.pointer (some ⟨g, 0, none⟩), .int .u64 (p : Int), u2, u3, u4, u5, u6, u7, .tuple #[v, .bool b], .pointer (some ⟨g, 0, none⟩), .pointer (some ⟨g, 0, none⟩), .pointer (some ⟨g, 3, none⟩), mv, .pointer (some ⟨g, 0, none⟩), .int .u64 (p : Int), KEY k, .tuple #[v, .bool b], v, .bool b, u19, u20, u21, u22, u23, u24, u25, u26], defers := [] } w :=
      wpAnyH_take (i := 11) (oi := { dst := some 6, op := Op.assign (Operand.tmp 17), type := 106, pos := "store.go:187", after := #[{ on := 9, ground := Ground.data }, { on := 6, ground := Ground.chain }, { on := 0, ground := Ground.phase }, { on := 1, ground := Ground.phase }, { on := 2, ground := Ground.phase }, { on := 3, ground := Ground.phase }, { on := 4, ground := Ground.phase }, { on := 5, ground := Ground.phase }, { on := 6, ground := Ground.phase }, { on := 7, ground := Ground.phase }, { on := 8, ground := Ground.phase }, { on := 9, ground := Ground.phase }, { on := 10, ground := Ground.textOnly Departure.lateStores }], guard := none }) (v := v) rfl (by kernel_rfl) (by kernel_rfl) (by kernel_rfl) (fun _ _ _ h => hQ _ _ _ _ _ h) (Yields.yieldsIf (Or.inl ⟨by rfl, fun W => by go_simp⟩)) hww t12
    have t10 : wpAnyH Tryd.prog .any F1OPS Q (fun w => Below W.heap.size W w) 3 #[true, true, true, true, true, true, true, true, true, true, false, false, false] { tmps := #[.pointer (some ⟨g, 0, none⟩), .int .u64 (p : Int), u2, u3, u4, u5, u6, u7, .tuple #[v, .bool b], .pointer (some ⟨g, 0, none⟩), .pointer (some ⟨g, 0, none⟩), .pointer (some ⟨g, 3, none⟩), mv, .pointer (some ⟨g, 0, none⟩), .int .u64 (p : Int), KEY k, .tuple #[v, .bool b], v, u18, u19, u20, u21, u22, u23, u24, u25, u26], defers := [] } w :=
      wpAnyH_take (i := 10) (oi := { dst := some 18, op := Op.extract (Operand.tmp 8) 1, type := 4, pos := "store.go:187", after := #[{ on := 8, ground := Ground.data }, { on := 11, ground := Ground.gcOnly Departure.lateStores }], guard := none }) (v := .bool b) rfl (by kernel_rfl) (by kernel_rfl) (by kernel_rfl) (fun _ _ _ h => hQ _ _ _ _ _ h) (Yields.yieldsIf (Or.inl ⟨by rfl, fun W => by go_simp⟩)) hww t11
    have t9 : wpAnyH Tryd.prog .any F1OPS Q (fun w => Below W.heap.size W w) 4 #[true, true, true, true, true, true, true, true, true, false, false, false, false] { tmps := #[.pointer (some ⟨g, 0, none⟩), .int .u64 (p : Int), u2, u3, u4, u5, u6, u7, .tuple #[v, .bool b], .pointer (some ⟨g, 0, none⟩), .pointer (some ⟨g, 0, none⟩), .pointer (some ⟨g, 3, none⟩), mv, .pointer (some ⟨g, 0, none⟩), .int .u64 (p : Int), KEY k, .tuple #[v, .bool b], u17, u18, u19, u20, u21, u22, u23, u24, u25, u26], defers := [] } w :=
      wpAnyH_take (i := 9) (oi := { dst := some 17, op := Op.extract (Operand.tmp 8) 0, type := 106, pos := "store.go:187", after := #[{ on := 8, ground := Ground.data }], guard := none }) (v := v) rfl (by kernel_rfl) (by kernel_rfl) (by kernel_rfl) (fun _ _ _ h => hQ _ _ _ _ _ h) (Yields.yieldsIf (Or.inl ⟨by rfl, fun W => by go_simp⟩)) hww t10
    have t8 : wpAnyH Tryd.prog .any F1OPS Q (fun w => Below W.heap.size W w) 5 #[true, true, true, true, true, true, true, true, false, false, false, false, false] { tmps := #[.pointer (some ⟨g, 0, none⟩), .int .u64 (p : Int), u2, u3, u4, u5, u6, u7, u8, .pointer (some ⟨g, 0, none⟩), .pointer (some ⟨g, 0, none⟩), .pointer (some ⟨g, 3, none⟩), mv, .pointer (some ⟨g, 0, none⟩), .int .u64 (p : Int), KEY k, .tuple #[v, .bool b], u17, u18, u19, u20, u21, u22, u23, u24, u25, u26], defers := [] } w :=
      wpAnyH_take (i := 8) (oi := { dst := some 8, op := Op.move (Operand.tmp 16), type := 107, pos := "store.go:187", after := #[{ on := 7, ground := Ground.data }], guard := none }) (v := .tuple #[v, .bool b]) rfl (by kernel_rfl) (by kernel_rfl) (by kernel_rfl) (fun _ _ _ h => hQ _ _ _ _ _ h) (Yields.yieldsIf (Or.inl ⟨by rfl, fun W => by go_simp⟩)) hww t9
    have t7 : wpAnyH Tryd.prog .any F1OPS Q (fun w => Below W.heap.size W w) 6 #[true, true, true, true, true, true, true, false, false, false, false, false, false] { tmps := #[.pointer (some ⟨g, 0, none⟩), .int .u64 (p : Int), u2, u3, u4, u5, u6, u7, u8, .pointer (some ⟨g, 0, none⟩), .pointer (some ⟨g, 0, none⟩), .pointer (some ⟨g, 3, none⟩), mv, .pointer (some ⟨g, 0, none⟩), .int .u64 (p : Int), KEY k, u16, u17, u18, u19, u20, u21, u22, u23, u24, u25, u26], defers := [] } w :=
      wpAnyH_take (i := 7) (oi := { dst := some 16, op := Op.lookup 72 (Operand.tmp 12) (Operand.tmp 15) true, type := 107, pos := "store.go:187", after := #[{ on := 3, ground := Ground.data }, { on := 6, ground := Ground.data }], guard := none }) (v := .tuple #[v, .bool b]) rfl (by kernel_rfl) (by kernel_rfl) (by kernel_rfl) (fun _ _ _ h => hQ _ _ _ _ _ h) (Or.inl ⟨by rfl, fun w hw => run_value (hlook w hw)⟩) hww t8
    exact t7
  have k0 : ∀ w, (fun w => Below W.heap.size W w) w → wpAnyH Tryd.prog .any F1OPS Q (fun w => Below W.heap.size W w) 13 #[false, false, false, false, false, false, false, false, false, false, false, false, false] { tmps := #[.pointer (some ⟨g, 0, none⟩), .int .u64 (p : Int), u2, u3, u4, u5, u6, u7, u8, u9, u10, u11, u12, u13, u14, u15, u16, u17, u18, u19, u20, u21, u22, u23, u24, u25, u26], defers := [] } w := fun w hw => by
    have hww : (fun w => Below W.heap.size W w) w := hw
    have last : wpAnyH Tryd.prog .any F1OPS Q (fun w => Below W.heap.size W w) 7 #[true, true, true, true, true, true, false, false, false, false, false, false, false] { tmps := #[.pointer (some ⟨g, 0, none⟩), .int .u64 (p : Int), u2, u3, u4, u5, u6, u7, u8, .pointer (some ⟨g, 0, none⟩), .pointer (some ⟨g, 0, none⟩), .pointer (some ⟨g, 3, none⟩), mv, .pointer (some ⟨g, 0, none⟩), .int .u64 (p : Int), u15, u16, u17, u18, u19, u20, u21, u22, u23, u24, u25, u26], defers := [] } w := by
      refine anyHone (o := { dst := some 15, op := Op.call { callee := Callee.value (Operand.func 59), args := #[Operand.tmp 13, Operand.tmp 14], argTypes := #[89, 25] }, type := 109, pos := "store.go:187", after := #[{ on := 4, ground := Ground.data }, { on := 5, ground := Ground.data }], guard := none }) 6 (by kernel_rfl) rfl (fun K hK => ?_)
      rw [if_pos (by rfl)]
      go_simp
      refine (cK _ hww).mono ?_
      rintro e w' ⟨rfl, hs'⟩
      exact hK.out _ _ hs' (fun h => k1 w' h)
    have t5 : wpAnyH Tryd.prog .any F1OPS Q (fun w => Below W.heap.size W w) 8 #[true, true, true, true, true, false, false, false, false, false, false, false, false] { tmps := #[.pointer (some ⟨g, 0, none⟩), .int .u64 (p : Int), u2, u3, u4, u5, u6, u7, u8, .pointer (some ⟨g, 0, none⟩), .pointer (some ⟨g, 0, none⟩), .pointer (some ⟨g, 3, none⟩), mv, .pointer (some ⟨g, 0, none⟩), u14, u15, u16, u17, u18, u19, u20, u21, u22, u23, u24, u25, u26], defers := [] } w :=
      wpAnyH_take (i := 5) (oi := { dst := some 14, op := Op.move (Operand.tmp 1), type := 25, pos := "store.go:187", after := #[], guard := none }) (v := .int .u64 (p : Int)) rfl (by kernel_rfl) (by kernel_rfl) (by kernel_rfl) (fun _ _ _ h => hQ _ _ _ _ _ h) (Yields.yieldsIf (Or.inl ⟨by rfl, fun W => by go_simp⟩)) hww last
    have t4 : wpAnyH Tryd.prog .any F1OPS Q (fun w => Below W.heap.size W w) 9 #[true, true, true, true, false, false, false, false, false, false, false, false, false] { tmps := #[.pointer (some ⟨g, 0, none⟩), .int .u64 (p : Int), u2, u3, u4, u5, u6, u7, u8, .pointer (some ⟨g, 0, none⟩), .pointer (some ⟨g, 0, none⟩), .pointer (some ⟨g, 3, none⟩), mv, u13, u14, u15, u16, u17, u18, u19, u20, u21, u22, u23, u24, u25, u26], defers := [] } w :=
      wpAnyH_take (i := 4) (oi := { dst := some 13, op := Op.move (Operand.tmp 0), type := 89, pos := "store.go:187", after := #[], guard := none }) (v := .pointer (some ⟨g, 0, none⟩)) rfl (by kernel_rfl) (by kernel_rfl) (by kernel_rfl) (fun _ _ _ h => hQ _ _ _ _ _ h) (Yields.yieldsIf (Or.inl ⟨by rfl, fun W => by go_simp⟩)) hww t5
    have t3 : wpAnyH Tryd.prog .any F1OPS Q (fun w => Below W.heap.size W w) 10 #[true, true, true, false, false, false, false, false, false, false, false, false, false] { tmps := #[.pointer (some ⟨g, 0, none⟩), .int .u64 (p : Int), u2, u3, u4, u5, u6, u7, u8, .pointer (some ⟨g, 0, none⟩), .pointer (some ⟨g, 0, none⟩), .pointer (some ⟨g, 3, none⟩), u12, u13, u14, u15, u16, u17, u18, u19, u20, u21, u22, u23, u24, u25, u26], defers := [] } w :=
      wpAnyH_take (i := 3) (oi := { dst := some 12, op := Op.load 72 (Operand.tmp 11), type := 72, pos := "store.go:187", after := #[{ on := 2, ground := Ground.data }], guard := none }) (v := mv) rfl (by kernel_rfl) (by kernel_rfl) (by kernel_rfl) (fun _ _ _ h => hQ _ _ _ _ _ h) (Or.inl ⟨by rfl, fun w hw => by have hx := h3 w hw; go_simp⟩) hww t4
    have t2 : wpAnyH Tryd.prog .any F1OPS Q (fun w => Below W.heap.size W w) 11 #[true, true, false, false, false, false, false, false, false, false, false, false, false] { tmps := #[.pointer (some ⟨g, 0, none⟩), .int .u64 (p : Int), u2, u3, u4, u5, u6, u7, u8, .pointer (some ⟨g, 0, none⟩), .pointer (some ⟨g, 0, none⟩), u11, u12, u13, u14, u15, u16, u17, u18, u19, u20, u21, u22, u23, u24, u25, u26], defers := [] } w :=
      wpAnyH_take (i := 2) (oi := { dst := some 11, op := Op.fieldAddr 75 (Operand.tmp 10) 3, type := 0, pos := "store.go:187", after := #[{ on := 1, ground := Ground.data }], guard := none }) (v := .pointer (some ⟨g, 3, none⟩)) rfl (by kernel_rfl) (by kernel_rfl) (by kernel_rfl) (fun _ _ _ h => hQ _ _ _ _ _ h) (Yields.yieldsIf (Or.inl ⟨by rfl, fun W => by go_simp⟩)) hww t3
    have t1 : wpAnyH Tryd.prog .any F1OPS Q (fun w => Below W.heap.size W w) 12 #[true, false, false, false, false, false, false, false, false, false, false, false, false] { tmps := #[.pointer (some ⟨g, 0, none⟩), .int .u64 (p : Int), u2, u3, u4, u5, u6, u7, u8, .pointer (some ⟨g, 0, none⟩), u10, u11, u12, u13, u14, u15, u16, u17, u18, u19, u20, u21, u22, u23, u24, u25, u26], defers := [] } w :=
      wpAnyH_take (i := 1) (oi := { dst := some 10, op := Op.nilCheck (Operand.tmp 9), type := 0, pos := "store.go:187", after := #[{ on := 0, ground := Ground.data }], guard := none }) (v := .pointer (some ⟨g, 0, none⟩)) rfl (by kernel_rfl) (by kernel_rfl) (by kernel_rfl) (fun _ _ _ h => hQ _ _ _ _ _ h) (Yields.yieldsIf (Or.inl ⟨by rfl, fun W => by go_simp⟩)) hww t2
    have t0 : wpAnyH Tryd.prog .any F1OPS Q (fun w => Below W.heap.size W w) 13 #[false, false, false, false, false, false, false, false, false, false, false, false, false] { tmps := #[.pointer (some ⟨g, 0, none⟩), .int .u64 (p : Int), u2, u3, u4, u5, u6, u7, u8, u9, u10, u11, u12, u13, u14, u15, u16, u17, u18, u19, u20, u21, u22, u23, u24, u25, u26], defers := [] } w :=
      wpAnyH_take (i := 0) (oi := { dst := some 9, op := Op.move (Operand.tmp 0), type := 89, pos := "store.go:187", after := #[], guard := none }) (v := .pointer (some ⟨g, 0, none⟩)) rfl (by kernel_rfl) (by kernel_rfl) (by kernel_rfl) (fun _ _ _ h => hQ _ _ _ _ _ h) (Yields.yieldsIf (Or.inl ⟨by rfl, fun W => by go_simp⟩)) hww t1
    exact t0
  exact wp_region_held_drew (S := (fun w => Below W.heap.size W w)) (by kernel_rfl) hs0 (fun _ => k0 _ hs0)
set_option maxHeartbeats 1000000 in
theorem storefind_ok {w : World} {B g log len alive N : Nat} {C : CHUNKS} (hS : STORE w B g log len alive N C) (p : Nat) (hp : p < 2 ^ 64) : Calls Tryd.prog 46 #[.pointer (some ⟨g, 0, none⟩), .int .u64 (p : Int)] w fun e w' =>
    e = .returned (.tuple #[.agg (UARR .u8 32 (HASH0 (AT C log p))), .bool (AT C log p).isSome]) ∧ Below w.heap.size w w' := by
  have hz := zeroHash
  have hbn := buildHash
  obtain ⟨w0, hw0⟩ : ∃ w0, w.alloc (.cells (UARR .u8 32 fun _ => 0) 27) = w0 := ⟨_, rfl⟩
  have hb0 : Below w.heap.size w w0 := by rw [← hw0]; exact (Below.refl _ _).alloc (Nat.le_refl _) _
  have h40 : Has w0 w.heap.size (UARR .u8 32 fun _ => 0) 27 := by rw [← hw0]; exact Has.new w _ _
  have hS0 := hS.below hb0
  have hk : p / 2 ^ log < 2 ^ 64 := Nat.lt_of_le_of_lt (Nat.div_le_self _ _) hp
  obtain ⟨mv, v, l1, l2, l3⟩ := hS0.looked (p / 2 ^ log) hk
  have l4 := hS0.key p
  have H : Aside (STORE w0 B g log len alive N C ∧ p < 2 ^ 64) := ⟨hS0, hp⟩
  clear hS hS0 hp
  obtain ⟨K, hK⟩ : ∃ K, p / 2 ^ log = K := ⟨_, rfl⟩
  rw [hK] at hk l2 l3 l4
  have HK : Aside (AT C log p = (C K).bind fun c => LOOK c.2 p) := by rw [← hK]; exact rfl
  clear hK
  go_enter Tryd.func46, Tryd.ntmps46
  go_upto_region 1 with fail
  refine find1 _ _ _ _ _ _ _ _ _ _ _ _ _ _ _ _ _ _ _ _ _ _ _ _ _ w0 g p K mv v (C K).isSome l1 l2 l4 (fun _ _ _ _ _ h => h) ?_
  intro w1 hb1
  clear l1 l2 l4
  have h41 := h40.keep hb1
  have hb1' : Below w.heap.size w w1 := hb0.trans (hb1.mono hb0.size)
  cases hc : C K with
  | none =>
    have E : Aside (AT C log p = none) := by rw [HK.out, hc]; exact rfl
    have hstr := store_cells32 h41 (fun _ => 0)
    clear hc l3
    go_wp2
    refine bodyPost_ret (v := .tuple #[.agg (UARR .u8 32 fun _ => 0), .bool false]) ?_ rfl ⟨by rw [E.out]; rfl, below_row hb1' (Nat.le_refl _) _⟩
    exact results_hash rfl _ _ w.heap.size 27 _ (0, 0) _ _ rfl (h41.row _) _ rfl Tryd.underlying27 (info_HASH _)
  | some c =>
    obtain ⟨gc, rs⟩ := c
    have hv := l3 gc rs hc
    subst hv
    have E : Aside (AT C log p = LOOK rs p) := by rw [HK.out, hc]; exact rfl
    have cg := chunkget_ok B gc p rs H.out.2 w1 ((H.out.1.chunk K gc rs hc).2.1.below hb1)
    clear hc l3
    go_wp2_with fail
    refine cg.mono ?_
    rintro e w2 ⟨rfl, hb2⟩
    clear cg
    have h42 := h41.keep hb2
    have hstr := store_cells32 h42 (HASH0 (LOOK rs p))
    have hsu := UARR_size .u8 32 (HASH0 (LOOK rs p))
    generalize hF : HASH0 (LOOK rs p) = F at *
    generalize hO : (LOOK rs p).isSome = O at *
    have HF : Aside (HASH0 (LOOK rs p) = F ∧ (LOOK rs p).isSome = O) := ⟨hF, hO⟩
    clear hF hO
    go_wp2
    refine bodyPost_ret (v := .tuple #[.agg (UARR .u8 32 F), .bool O]) ?_ rfl ⟨by rw [E.out, HF.out.1, HF.out.2], below_row (hb1'.trans (hb2.mono hb1'.size)) (Nat.le_refl _) _⟩
    exact results_hash rfl _ _ w.heap.size 27 _ (0, 0) _ _ rfl (h42.row _) _ rfl Tryd.underlying27 (info_HASH _)
/-- what Get says of a place. -/
def GOT (C : CHUNKS) (log len p : Nat) : Int := if p < len then (if (AT C log p).isSome then 0 else 50) else 31
def GOTH (C : CHUNKS) (log len p : Nat) : Nat → Nat := if p < len then HASH0 (AT C log p) else fun _ => 0
set_option maxHeartbeats 1000000 in
theorem get_ok {w : World} {B g log len alive N : Nat} {C : CHUNKS} (hS : STORE w B g log len alive N C) (p : Nat) (hp : p < 2 ^ 64) : Calls Tryd.prog 29 #[.pointer (some ⟨g, 0, none⟩), .int .u64 (p : Int)] w fun e w' =>
    e = .returned (.tuple #[.agg (UARR .u8 32 (GOTH C log len p)), .int .i64 (GOT C log len p)]) ∧ Below w.heap.size w w' := by
  have hz := zeroHash
  have hbn := buildHash
  obtain ⟨w0, hw0⟩ : ∃ w0, w.alloc (.cells (UARR .u8 32 fun _ => 0) 27) = w0 := ⟨_, rfl⟩
  have hb0 : Below w.heap.size w w0 := by rw [← hw0]; exact (Below.refl _ _).alloc (Nat.le_refl _) _
  have h40 : Has w0 w.heap.size (UARR .u8 32 fun _ => 0) 27 := by rw [← hw0]; exact Has.new w _ _
  have hS0 := hS.below hb0
  have c1 := hS0.c1
  by_cases hlt : p < len
  · have hge : ¬ (len : Int) ≤ (p : Int) := by omega
    have cf := storefind_ok hS0 p hp
    have E : Aside (GOTH C log len p = HASH0 (AT C log p) ∧ GOT C log len p = if (AT C log p).isSome then 0 else 50) := by
      unfold GOTH GOT
      rw [if_pos hlt, if_pos hlt]
      exact ⟨rfl, rfl⟩
    have hnone : Aside ((AT C log p).isSome = false → HASH0 (AT C log p) = fun _ => 0) := fun h => by
      cases hx : AT C log p with
      | none => rfl
      | some x => rw [hx] at h; cases h
    clear hS hS0 hlt
    generalize (AT C log p).isSome = O at *
    generalize HASH0 (AT C log p) = F at *
    go_enter Tryd.func29, Tryd.ntmps29
    go_wp2_with fail
    refine cf.mono ?_
    rintro e w1 ⟨rfl, hb1⟩
    clear cf
    have hst := run_storeCells_new (P := Tryd.prog) w1 27 (UARR .u8 32 fun _ => 0) (UARR .u8 32 F) (info_HASH _) (by rw [UARR_size, UARR_size]) (UARR_one _ _ _)
    have hsu := UARR_size .u8 32 F
    obtain ⟨w2, hw2⟩ : ∃ w2, w1.alloc (.cells (UARR .u8 32 F) 27) = w2 := ⟨_, rfl⟩
    have hb2 : Below w0.heap.size w0 w2 := by rw [← hw2]; exact hb1.alloc hb1.size _
    have hF2 : Has w2 w1.heap.size (UARR .u8 32 F) 27 := by rw [← hw2]; exact Has.new w1 _ _
    have h42 := h40.keep hb2
    have hb2' : Below w.heap.size w w2 := hb0.trans (hb2.mono hb0.size)
    cases O with
    | false =>
      have hst2 := store_cells32 h42 (fun _ => 0)
      have HN : Aside (F = fun _ => 0) := hnone.out rfl
      clear hnone
      go_wp2
      refine bodyPost_ret (v := .tuple #[.agg (UARR .u8 32 fun _ => 0), .int .i64 50]) ?_ rfl ⟨by rw [E.out.1, E.out.2, HN.out]; rfl, below_row hb2' (Nat.le_refl _) _⟩
      exact results_hash rfl _ _ w.heap.size 27 _ (0, 0) _ _ rfl (h42.row _) _ rfl Tryd.underlying27 (info_HASH _)
    | true =>
      have hst2 := store_cells32 h42 F
      go_wp2_with (first
        | (refine wpList_load_row rfl 27 (.tmp 6) rfl w1.heap.size rfl 27 (UARR .u8 32 F) (0, 0) _ hF2 Tryd.underlying27 rfl (info_HASH _) ?_)
        | fail)
      refine bodyPost_ret (v := .tuple #[.agg (UARR .u8 32 F), .int .i64 0]) ?_ rfl ⟨by rw [E.out.1, E.out.2]; rfl, below_row hb2' (Nat.le_refl _) _⟩
      exact results_hash rfl _ _ w.heap.size 27 _ (0, 0) _ _ rfl (h42.row _) _ rfl Tryd.underlying27 (info_HASH _)
  · have hge : (len : Int) ≤ (p : Int) := by omega
    have E : Aside (GOTH C log len p = (fun _ => 0) ∧ GOT C log len p = 31) := by
      unfold GOTH GOT
      rw [if_neg hlt, if_neg hlt]
      exact ⟨rfl, rfl⟩
    have hst2 := store_cells32 h40 (fun _ => 0)
    clear hS hS0 hlt
    go_enter Tryd.func29, Tryd.ntmps29
    go_wp2
    refine bodyPost_ret (v := .tuple #[.agg (UARR .u8 32 fun _ => 0), .int .i64 31]) ?_ rfl ⟨by rw [E.out.1, E.out.2], below_row hb0 (Nat.le_refl _) _⟩
    exact results_hash rfl _ _ w.heap.size 27 _ (0, 0) _ _ rfl (h40.row _) _ rfl Tryd.underlying27 (info_HASH _)
end Go.Proofs.YtnplhejopmoopaaDoor.HX

/- slices.Insert at the end of a list of one's own: of hashes, of rows. -/
namespace Go.Proofs.YtnplhejopmoopaaDoor.HX
open Go.RowKit
set_option maxRecDepth 100000

theorem info_hashT : (Tryd.prog.info? 27).map (fun i => (i.zero, i.size, i.bytes)) = some (some (.agg (UARR .u8 32 fun _ => 0)), 32, 32) := by kernel_rfl
theorem info_rowT : (Tryd.prog.info? 124).map (fun i => (i.zero, i.size, i.bytes)) = some (some (.agg #[.int .u64 0, .int .u64 0, .slice none 0 0]), 3, 40) := by kernel_rfl
theorem own_shape {w : World} {B n s : Nat} {t : TypeId} {v : Value} {xs : List Value} (h : w.ownsRow B t s v n xs) : ∃ a cap, v = .slice a n cap := by
  rcases h.2 with ⟨rfl, rfl⟩ | ⟨g, cap, cur, rfl, _⟩
  · exact ⟨none, 0, rfl⟩
  · exact ⟨_, cap, rfl⟩
set_option maxHeartbeats 1000000 in
theorem inserth_ok (B ga n : Nat) (v : Value) (xs : List Value) (h : Nat → Nat) (w : World) (hown : w.ownsRow B 27 32 v n xs) (hB : B ≤ w.heap.size) (hn : n ≤ 1000) (hga : Has w ga (UARR .u8 32 h) 27) : Calls Tryd.prog 76 #[v, .int .i64 (n : Int), .slice (some ⟨ga, 0, none⟩) 1 1] w fun e w' =>
    ∃ g cap, e = .returned (.slice (some ⟨g, 0, none⟩) (n + 1) cap) ∧ w'.ownsRow B 27 32 (.slice (some ⟨g, 0, none⟩) (n + 1) cap) (n + 1) (xs ++ ULIST .u8 32 h) ∧ w.grownBy w' v.ownBlock ∧ (v.ownBlock = some g ∨ g = w.heap.size) := by
  obtain ⟨i, hi, hz, hs1, hby⟩ := info_parts info_hashT
  obtain ⟨a, cap0, rfl⟩ := own_shape hown
  obtain ⟨X, hX⟩ : ∃ X, ∀ w, (Instr.slice 44 (.slice a n cap0) (some (.int .i64 (n : Int))) none none).run Tryd.prog w = .ok X w := ⟨_, fun w => (run_slice_l (P := Tryd.prog) w 44 a n cap0 (by kernel_rfl) .i64 (n : Int) (by omega) (by omega)).trans (by simp [go_sem]; rfl)⟩
  have H : Aside (w.ownsRow B 27 32 (.slice a n cap0) n xs ∧ B ≤ w.heap.size ∧ n ≤ 1000 ∧ Has w ga (UARR .u8 32 h) 27) := ⟨hown, hB, hn, hga⟩
  clear hown hB hn hga
  go_enter Tryd.func76, Tryd.ntmps76
  go_wp2_with (at_builtin; refine wpList_append_lies w rfl (.tmp 23) (.tmp 24) 44 rfl B 27 i _ 32 32 Tryd.underlying44 hi hz hs1 hby (by simp [Value.cells, UARR_size]) (by decide) (.slice a n cap0) n xs rfl H.out.1 ⟨ga, 0, none⟩ 1 1 (ULIST .u8 32 h) rfl (by rw [ULIST_length]) (fun j u hj => by rw [Addr.add_mid, H.out.2.2.2.cell, Nat.zero_add, UARR_list, List.getElem?_toArray]; exact hj) (ULIST_one _ _ _) (by decide) (by simp only [maxLen]; have := H.out.2.2.1; omega) (by have := H.out.2.2.1; omega) H.out.2.1 w.heap.size rfl ?_; intro g cap w' r1 r2 r3 r4)
  go_ret
  exact ⟨g, cap, rfl, r1, r2, r3⟩
/-- a row without hashes, as cells. -/
def RQL (q : Nat) : List Value := [.int .u64 (q : Int), .int .u64 0, .slice none 0 0]
def RQ (q : Nat) : Array Value := (RQL q).toArray
theorem RQL_one (q : Nat) : ∀ u ∈ RQL q, u.oneCell' = true := fun u hu => by
  simp [RQL] at hu
  rcases hu with rfl | rfl | rfl <;> rfl
set_option maxHeartbeats 1000000 in
theorem insertr_ok (B ga n : Nat) (v : Value) (xs : List Value) (q : Nat) (w : World) (hown : w.ownsRow B 124 3 v n xs) (hB : B ≤ w.heap.size) (hn : n ≤ 2 ^ 40) (hga : Has w ga (RQ q) 124) : Calls Tryd.prog 74 #[v, .int .i64 (n : Int), .slice (some ⟨ga, 0, none⟩) 1 1] w fun e w' =>
    ∃ g cap, e = .returned (.slice (some ⟨g, 0, none⟩) (n + 1) cap) ∧ w'.ownsRow B 124 3 (.slice (some ⟨g, 0, none⟩) (n + 1) cap) (n + 1) (xs ++ RQL q) ∧ w.grownBy w' v.ownBlock ∧ (v.ownBlock = some g ∨ g = w.heap.size) := by
  obtain ⟨i, hi, hz, hs1, hby⟩ := info_parts info_rowT
  obtain ⟨a, cap0, rfl⟩ := own_shape hown
  obtain ⟨X, hX⟩ : ∃ X, ∀ w, (Instr.slice 113 (.slice a n cap0) (some (.int .i64 (n : Int))) none none).run Tryd.prog w = .ok X w := ⟨_, fun w => (run_slice_l (P := Tryd.prog) w 113 a n cap0 (by kernel_rfl) .i64 (n : Int) (by omega) (by omega)).trans (by simp [go_sem]; rfl)⟩
  have H : Aside (w.ownsRow B 124 3 (.slice a n cap0) n xs ∧ B ≤ w.heap.size ∧ n ≤ 2 ^ 40 ∧ Has w ga (RQ q) 124) := ⟨hown, hB, hn, hga⟩
  clear hown hB hn hga
  go_enter Tryd.func74, Tryd.ntmps74
  go_wp2_with (at_builtin; refine wpList_append_lies w rfl (.tmp 23) (.tmp 24) 113 rfl B 124 i _ 3 40 Tryd.underlying113 hi hz hs1 hby (by simp [Value.cells]) (by decide) (.slice a n cap0) n xs rfl H.out.1 ⟨ga, 0, none⟩ 1 1 (RQL q) rfl rfl (fun j u hj => by rw [Addr.add_mid, H.out.2.2.2.cell, Nat.zero_add, RQ, List.getElem?_toArray]; exact hj) (RQL_one q) (by decide) (by simp only [maxLen]; have := H.out.2.2.1; omega) (by have := H.out.2.2.1; omega) H.out.2.1 w.heap.size rfl ?_; intro g cap w' r1 r2 r3 r4)
  go_ret
  exact ⟨g, cap, rfl, r1, r2, r3⟩
end Go.Proofs.YtnplhejopmoopaaDoor.HX
