/- Texts of FindParts, one behind the other: FindState, CarryBuiltPlain. -/
import Derived.Test.YtlbcnaenhghieaaFindPartsP2
/- A find lies there; an entry more; what a step leaves alone. -/
namespace Go.Proofs.Ytlbcnaenhghieaa
open Go.RowKit Go.Maps
set_option maxRecDepth 100000

theorem u64f {n : Nat} (h : n < 2 ^ 62) : IntKind.u64.wrap (n : Int) = (n : Int) := by
  simp [IntKind.wrap, IntKind.signed, IntKind.bits]
  omega
/-- the entry of a leaf: its hash, and the index before. -/
def ENT (f : Nat → List Int) (i : Nat) : List Value := CELLS (f i) ++ [.int .i64 (LSTI f i (f i))]
/-- the first n entries. -/
def ECS (f : Nat → List Int) : Nat → List Value
  | 0 => []
  | n + 1 => ECS f n ++ ENT f n
theorem ENT_length {f : Nat → List Int} {i : Nat} (h : FISH (f i)) : (ENT f i).length = 33 := by simp [ENT, CELLS, h.1]
theorem ENT_one (f : Nat → List Int) (i : Nat) : ∀ v ∈ ENT f i, v.oneCell' = true := fun v hv => by
  rcases List.mem_append.1 hv with h | h
  · exact CELLS_one _ v h
  · simp only [List.mem_singleton] at h
    subst h
    rfl
theorem ECS_length {f : Nat → List Int} : ∀ {n : Nat}, (∀ i, i < n → FISH (f i)) → (ECS f n).length = n * 33
  | 0, _ => rfl
  | n + 1, h => by rw [ECS, List.length_append, ECS_length fun i hi => h i (by omega), ENT_length (h n (by omega))]; omega
theorem ECS_at {f : Nat → List Int} : ∀ {n i : Nat}, (∀ j, j < n → FISH (f j)) → i < n → ∀ j, j < 33 → (ECS f n)[i * 33 + j]? = (ENT f i)[j]?
  | 0, i, _, hi, _, _ => by omega
  | n + 1, i, h, hi, j, hj => by
    have hl := ECS_length (f := f) (n := n) fun k hk => h k (by omega)
    rw [ECS]
    by_cases e : i = n
    · subst e
      rw [List.getElem?_append_right (by omega)]
      congr 1
      omega
    · rw [List.getElem?_append_left (by omega)]
      exact ECS_at (fun k hk => h k (by omega)) (by omega) j hj
theorem info_entry : (Try.prog.info? 55).map (fun i => (i.zero, i.size, i.bytes)) = some (some (.agg (ZARR ++ #[.int .i64 0])), 33, 40) := by kernel_rfl
theorem info_ent' {f : Nat → List Int} {i : Nat} (h : FISH (f i)) : (Try.prog.info? 55).map (·.size) = some (ENT f i).toArray.size := by
  rw [List.size_toArray, ENT_length h]
  kernel_rfl
/-- a list of entries grows. -/
theorem app_entry {ops : Array Oper} {rest : List Oper} {o : Oper} {a : Act} {Q : Exit → Act → World → Prop} (w : World) (hgd : o.guard = none) (s x : Operand)
    (ho : o.op = .call { callee := .builtin .append, args := #[s, x], argTypes := #[49, 49] })
    (base : Nat) (v : Value) (n : Nat) (xs : List Value) (hs : a.eval s = v) (hown : w.ownsRow base 55 33 v n xs)
    (b m c : Nat) (ys : List Value) (hl : ys.length = m * 33) (h1 : ∀ u ∈ ys, u.oneCell' = true) (hx : a.eval x = .slice (some ⟨b, 0, none⟩) m c) (hc : w.rangeAt b 0 ys) (hm : 0 < m)
    (hb : n + m ≤ 1000000) (hbase : base ≤ w.heap.size)
    (h : ∀ g cap w', w'.ownsRow base 55 33 (.slice (some ⟨g, 0, none⟩) (n + m) cap) (n + m) (xs ++ ys) → w.grownBy w' v.ownBlock → (v.ownBlock = some g ∨ g = w.heap.size) → g < w'.heap.size → wpList Try.prog ops Q rest (a.put o.dst (.slice (some ⟨g, 0, none⟩) (n + m) cap)) w') : wpList Try.prog ops Q (o :: rest) a w := by
  obtain ⟨i, hi, hz, hs1, hby⟩ := info_parts info_entry
  refine wpList_append_lies w hgd s x 49 ho base 55 i _ 33 40 Try.underlying49 hi hz hs1 hby rfl (by decide) v n xs hs hown ⟨b, 0, none⟩ m c ys hx hl ?_ h1 hm (by simp only [maxLen]; omega) (by omega) hbase w.heap.size rfl h
  intro j u hj
  rw [addr_add]
  exact hc j u hj
/-- a find lies there. -/
structure FIND (w : World) (B p : Nat) (v : Value) (m : Option Nat) (f : Nat → List Int) (n : Nat) : Prop where
  box : Has w p #[v, .map m] 52
  own : w.ownsRow B 55 33 v n (ECS f n)
  map : (m = none ∧ v = .slice none 0 0 ∧ n = 0) ∨ ∃ b, m = some b ∧ B ≤ b ∧ FMAP w b f n
  is : ∀ i, i < n → FISH (f i)
  base : B ≤ p
/-- the blocks of a find. -/
def FFT (p : Nat) (v : Value) (m : Option Nat) (k : Nat) : Prop := k = p ∨ v.ownBlock = some k ∨ m = some k
/-- what a step of a find leaves alone. -/
structure FSTP (w w' : World) (p : Nat) (v : Value) (m : Option Nat) (v' : Value) (m' : Option Nat) : Prop where
  os : w'.os = w.os
  tape : w'.tape = w.tape
  output : w'.output = w.output
  size : w.heap.size ≤ w'.heap.size
  block : ∀ k, k < w.heap.size → ¬ FFT p v m k → w'.heap[k]? = w.heap[k]?
  foot : ∀ k, FFT p v' m' k → FFT p v m k ∨ w.heap.size ≤ k
theorem FSTP.trans {w w' w'' : World} {p : Nat} {v v' v'' : Value} {m m' m'' : Option Nat} (h : FSTP w w' p v m v' m') (k : FSTP w' w'' p v' m' v'' m'') : FSTP w w'' p v m v'' m'' := by
  refine ⟨k.os.trans h.os, k.tape.trans h.tape, k.output.trans h.output, Nat.le_trans h.size k.size, fun i h1 h2 => (k.block i (Nat.lt_of_lt_of_le h1 h.size) (fun e => ?_)).trans (h.block i h1 h2), fun i e => ?_⟩
  · rcases h.foot i e with c | c
    · exact h2 c
    · omega
  · rcases k.foot i e with c | c
    · exact h.foot i c
    · exact .inr (Nat.le_trans h.size c)
theorem FSTP.of_below {w w' : World} {p : Nat} {v : Value} {m : Option Nat} (h : Below w.heap.size w w') : FSTP w w' p v m v m := ⟨h.os, h.tape, h.output, h.size, fun k h1 _ => h.block k h1, fun _ e => .inl e⟩
theorem FIND.lt {w : World} {B p n : Nat} {v : Value} {m : Option Nat} {f : Nat → List Int} (H : FIND w B p v m f n) : ∀ k, FFT p v m k → B ≤ k ∧ k < w.heap.size := by
  rintro k (rfl | h | h)
  · exact ⟨H.base, H.box.lt⟩
  · exact H.own.lt k h
  · rcases H.map with ⟨e, _⟩ | ⟨b, e, h1, h2⟩
    · rw [e] at h; cases h
    · rw [e] at h
      cases h
      exact ⟨h1, h2.lt⟩
theorem FIND.at {w w' : World} {B p n : Nat} {v : Value} {m : Option Nat} {f : Nat → List Int} (H : FIND w B p v m f n) (hk : ∀ k, FFT p v m k → w'.heap[k]? = w.heap[k]?) : FIND w' B p v m f n := by
  refine ⟨(hk p (.inl rfl)).trans H.box, own_heap H.own fun k e => hk k (.inr (.inl e)), ?_, H.is, H.base⟩
  rcases H.map with h | ⟨b, e, h1, h2⟩
  · exact .inl h
  · exact .inr ⟨b, e, h1, h2.at (hk b (.inr (.inr e)))⟩
theorem FIND.keep {w w' : World} {B p n : Nat} {v : Value} {m : Option Nat} {f : Nat → List Int} (H : FIND w B p v m f n) (hb : Below w.heap.size w w') : FIND w' B p v m f n := H.at fun k e => hb.block k (H.lt k e).2
/-- the three blocks of a find are three. -/
theorem FIND.apart {w : World} {B p n : Nat} {v : Value} {m : Option Nat} {f : Nat → List Int} (H : FIND w B p v m f n) : v.ownBlock ≠ some p ∧ m ≠ some p ∧ ∀ k, v.ownBlock = some k → m ≠ some k := by
  have hb := H.box
  refine ⟨fun e => ?_, fun e => ?_, fun k e1 e2 => ?_⟩
  · rcases H.own.2 with ⟨rfl, _⟩ | ⟨g, cap, cur, rfl, _, h, _⟩
    · cases e
    · simp only [Value.ownBlock, Option.some.injEq] at e
      subst e
      unfold Has at hb
      rw [h] at hb
      simp at hb
  · rcases H.map with ⟨rfl, _⟩ | ⟨b, rfl, _, _, ⟨es, clock, h, _⟩, _⟩
    · cases e
    · cases e
      unfold Has at hb
      rw [h] at hb
      simp at hb
  · rcases H.map with ⟨rfl, _⟩ | ⟨b, rfl, _, _, ⟨es, clock, h, _⟩, _⟩
    · cases e2
    · cases e2
      rcases H.own.2 with ⟨rfl, _⟩ | ⟨g, cap, cur, rfl, _, h', _⟩
      · cases e1
      · simp only [Value.ownBlock, Option.some.injEq] at e1
        subst e1
        rw [h] at h'
        cases h'
theorem FIND.slice {w : World} {B p n : Nat} {v : Value} {m : Option Nat} {f : Nat → List Int} (H : FIND w B p v m f n) : ∃ a c, v = .slice a n c ∧ n ≤ c ∧ (0 < n → ∃ g, a = some ⟨g, 0, none⟩ ∧ B ≤ g ∧ g < w.heap.size) := by
  rcases H.own.2 with ⟨rfl, rfl⟩ | ⟨g, cap, cur, rfl, hB, h, hc, _⟩
  · exact ⟨none, 0, rfl, Nat.le_refl _, fun h => by omega⟩
  · exact ⟨_, cap, rfl, hc, fun _ => ⟨g, rfl, hB, (Array.getElem?_eq_some_iff.1 h).1⟩⟩
/-- an entry of the list. -/
theorem FIND.entry {w : World} {B p n g c : Nat} {m : Option Nat} {f : Nat → List Int} (H : FIND w B p (.slice (some ⟨g, 0, none⟩) n c) m f n) {i : Nat} (hi : i < n) : w.rangeAt g (i * 33) (ENT f i) := by
  intro j u hj
  have hj2 : j < 33 := by
    have := (List.getElem?_eq_some_iff.1 hj).1
    rwa [ENT_length (H.is i hi)] at this
  rw [H.own.cellAt _ (by have : i * 33 + 33 ≤ n * 33 := by omega
                         omega), ECS_at H.is hi j hj2]
  exact hj
theorem FIND.hash {w : World} {B p n g c : Nat} {m : Option Nat} {f : Nat → List Int} (H : FIND w B p (.slice (some ⟨g, 0, none⟩) n c) m f n) {i : Nat} (hi : i < n) : w.rangeAt g (i * 33) (CELLS (f i)) := by
  intro j u hj
  refine H.entry hi j u ?_
  have := (List.getElem?_eq_some_iff.1 hj).1
  rw [ENT, List.getElem?_append_left this]
  exact hj
theorem FIND.before {w : World} {B p n g c : Nat} {m : Option Nat} {f : Nat → List Int} (H : FIND w B p (.slice (some ⟨g, 0, none⟩) n c) m f n) {i : Nat} (hi : i < n) : w.cell? ⟨g, i * 33 + 32, none⟩ = some (.int .i64 (LSTI f i (f i))) := by
  refine H.entry hi 32 _ ?_
  have hl : (CELLS (f i)).length = 32 := by simp [CELLS, (H.is i hi).1]
  rw [ENT, List.getElem?_append_right (by omega), hl]
  rfl
set_option maxHeartbeats 1000000 in
/-- a new one. -/
theorem find_new (f : Nat → List Int) (w : World) : Calls Try.prog 5 #[] w fun e w' => e = .returned (.pointer (some ⟨w.heap.size, 0, none⟩)) ∧ FIND w' w.heap.size w.heap.size (.slice none 0 0) none f 0 ∧ Below w.heap.size w w' := by
  go_enter Try.func5, Try.ntmps5
  go_wp2
  go_ret
  exact ⟨rfl, ⟨Has.new _ _ _, World.ownsRow_nil _ _ _ _, .inl ⟨rfl, rfl, rfl⟩, fun i hi => by omega, Nat.le_refl _⟩, (Below.refl _ _).alloc (Nat.le_refl _) _⟩
set_option maxHeartbeats 1000000 in
/-- how many. -/
theorem find_size {w : World} {B p n : Nat} {v : Value} {m : Option Nat} {f : Nat → List Int} (H : FIND w B p v m f n) (hn : n ≤ 1000000) : Calls Try.prog 18 #[.pointer (some ⟨p, 0, none⟩)] w fun e w' => e = .returned (.int .u64 (n : Int)) ∧ w = w' := by
  obtain ⟨a, c, rfl, _⟩ := H.slice
  have x0 := H.box.cell 0
  have hw : IntKind.u64.wrap (n : Int) = (n : Int) := u64f (by omega)
  clear H
  go_enter Try.func18, Try.ntmps18
  go_wp2
  go_ret
  simp
set_option maxHeartbeats 1000000 in
/-- how many unlike ones. -/
theorem find_unlike {w : World} {B p n : Nat} {v : Value} {m : Option Nat} {f : Nat → List Int} (H : FIND w B p v m f n) : Calls Try.prog 17 #[.pointer (some ⟨p, 0, none⟩)] w fun e w' => e = .returned (.int .i64 (UNL f n : Nat)) ∧ w = w' := by
  have x1 := H.box.cell 1
  have hl : ∀ ty, (Builtin.len_ #[50] ty #[.map m]).run Try.prog w = .ok (.int .i64 (UNL f n : Nat)) w := fun ty => by
    rcases H.map with ⟨rfl, _, rfl⟩ | ⟨b, rfl, _, hm⟩
    · simp [Builtin.len_, run_underlying Try.underlying50, UNL, goInt]
    · exact hm.count ty
  clear H
  go_enter Try.func17, Try.ntmps17
  go_wp2
  go_ret
  simp
end Go.Proofs.Ytlbcnaenhghieaa

/- A list of 32 numbers by a function. -/
namespace Go.Proofs.Ytlbcnaenhghieaa
theorem list32p (l : List Int) (h : l.length = 32) : ∃ f : Nat → Int, l = (List.range 32).map f := by
  refine ⟨fun i => l.getD i 0, List.ext_getElem? fun i => ?_⟩
  by_cases hi : i < 32
  · simp [hi, h]
  · rw [List.getElem?_eq_none (by omega), List.getElem?_eq_none (by simp; omega)]
end Go.Proofs.Ytlbcnaenhghieaa
