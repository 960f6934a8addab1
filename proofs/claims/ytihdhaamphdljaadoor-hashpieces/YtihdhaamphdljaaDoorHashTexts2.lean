/- A list of texts of one's own. -/
import Derived.Test.YtihdhaamphdljaaDoorHashTurn
namespace Go.Proofs.YtihdhaamphdljaaDoor
open Go.RowKit

theorem TURN.length {i : Nat} {gs hs : List GP} (h : TURN i gs hs) : (JOIN (GPARTS hs)).length = (JOIN (GPARTS gs)).length := by
  have e : hs.map (fun p => p.l.length) = gs.map (fun p => p.l.length) := by
    apply List.ext_getElem?
    intro m
    rw [List.getElem?_map, List.getElem?_map]
    cases hm : gs[m]? with
    | none =>
      rw [List.getElem?_eq_none_iff] at hm
      rw [List.getElem?_eq_none (by have := h.1; omega)]
    | some p =>
      rw [h.2 m p hm]
      by_cases hi : m < i <;> simp [hi]
  have f : ∀ xs : List GP, (JOIN (GPARTS xs)).length = (xs.map (fun p => p.l.length)).sum := fun xs => by
    simp [JOIN, GPARTS, List.length_flatten, Function.comp_def]
  rw [f, f, e]
/-- parts as cells. -/
def TCELLS (ps : List PART) : List Value := ps.map fun p => Value.slice p.a p.n p.c
theorem TCELLS_snoc (ps : List PART) (p : PART) : TCELLS (ps ++ [p]) = TCELLS ps ++ [.slice p.a p.n p.c] := by simp [TCELLS]
structure TEXTS (w : World) (B : Nat) (s : Value) (ts : List PART) : Prop where
  own : w.ownsRow B 23 1 s ts.length (TCELLS ts)
  row : ∀ p ∈ ts, w.ownsRow B 5 1 (.slice p.a p.n p.c) p.n (BY p.l) ∧ Small8 p.l
  far : ∀ p ∈ ts, ∀ x, p.a = some x → s.ownBlock ≠ some x.block
theorem TEXTS.start (w : World) (B : Nat) : TEXTS w B (.slice none 0 0) [] :=
  ⟨⟨rfl, .inl ⟨rfl, rfl⟩⟩, fun p h => by simp at h, fun p h => by simp at h⟩
theorem TEXTS.push {w w2 w3 : World} {B : Nat} {s : Value} {ts : List PART} {a : Option Addr} {n c g' cap : Nat} {l : List Nat} {o : Obj} (h : TEXTS w B s ts) (hB : B ≤ w.heap.size) (hb : Below w.heap.size w w2)
    (hr : w2.ownsRow w.heap.size 5 1 (.slice a n c) n (BY l)) (hl : Small8 l) (hg : (w2.alloc o).grownBy w3 s.ownBlock)
    (hown : w3.ownsRow B 23 1 (.slice (some ⟨g', 0, none⟩) (ts.length + 1) cap) (ts.length + 1) (TCELLS (ts ++ [⟨a, n, c, l⟩]))) (hat : s.ownBlock = some g' ∨ g' = w2.heap.size + 1) : TEXTS w3 B (.slice (some ⟨g', 0, none⟩) (ts.length + 1) cap) (ts ++ [⟨a, n, c, l⟩]) := by
  have hs := hb.size
  have ho : ∀ k, s.ownBlock = some k → k < w.heap.size := fun k e => (h.own.lt k e).2
  refine ⟨by simpa using hown, fun p hp => ?_, fun p hp x hx e => ?_⟩
  · rcases List.mem_append.1 hp with hp | hp
    · refine ⟨((own_keep (h.row p hp).1 hb).alloc o).kept hg ?_, (h.row p hp).2⟩
      cases ha : p.a with
      | none => exact .inl rfl
      | some x => exact .inr fun e => h.far p hp x ha e.symm
    · obtain rfl := List.mem_singleton.1 hp
      refine ⟨((own_mono hr hB).alloc o).kept hg ?_, hl⟩
      cases ha : a with
      | none => exact .inl rfl
      | some x =>
        refine .inr fun e => ?_
        subst ha
        have h1 := (hr.lt x.block rfl).1
        have h2 := ho x.block e.symm
        omega
  · simp only [Value.ownBlock, Option.some.injEq] at e
    rcases List.mem_append.1 hp with hp | hp
    · have h1 := ((h.row p hp).1.lt x.block (by rw [hx]; rfl)).2
      rcases hat with e2 | e2
      · exact h.far p hp x hx (by rw [e2, e])
      · omega
    · obtain rfl := List.mem_singleton.1 hp
      obtain rfl : a = some x := hx
      have h1 := hr.lt x.block rfl
      rcases hat with e2 | e2
      · have h2 := ho _ e2
        omega
      · omega
theorem TEXTS.parts {w : World} {B cap : Nat} {a : Option Addr} {ts : List PART} {k : Nat} (h : TEXTS w B (.slice a k cap) ts) (hk : ts.length = k) : Parts w a k ts ∧ ∀ p ∈ ts, p.a = none → p.c = 0 := by
  refine ⟨⟨hk, fun h0 => ?_, fun p hp => ?_⟩, fun p hp => own_nil (h.row p hp).1⟩
  · obtain ⟨g, c2, hv, -, hg⟩ := h.own.form (by omega)
    simp only [Value.slice.injEq] at hv
    refine ⟨g, 0, hv.1, hg, fun i p hp => ?_⟩
    have hi : i < ts.length := (List.getElem?_eq_some_iff.1 hp).1
    have ho := h.own
    rw [hv.1, hk] at ho
    rw [Nat.zero_add, ho.cellAt i (by omega)]
    simp [TCELLS, hp]
  · obtain ⟨h1, h2⟩ := h.row p hp
    exact ⟨own_text h1 h2, (own_bytes_any h1 (INTS_bounds h2)).2, fun x hx => (h1.lt x.block (by rw [hx]; rfl)).2⟩
/-- append of one text. -/
theorem app_text {ops : Array Oper} {rest : List Oper} {o : Oper} {a : Act} {Q : Exit → Act → World → Prop} (w : World) (p : PART) (hgd : o.guard = none) (s x : Operand)
    (ho : o.op = .call { callee := .builtin .append, args := #[s, x], argTypes := #[29, 29] })
    (base : Nat) (v : Value) (n : Nat) (ts : List PART) (hs : a.eval s = v) (hown : w.ownsRow base 23 1 v n (TCELLS ts))
    (hx : a.eval x = .slice (some ⟨w.heap.size, 0, none⟩) 1 1) (hb : n ≤ 2 ^ 20) (hbase : base ≤ w.heap.size)
    (h : ∀ g cap w', w'.ownsRow base 23 1 (.slice (some ⟨g, 0, none⟩) (n + 1) cap) (n + 1) (TCELLS (ts ++ [p])) → (w.alloc (.cells #[.slice p.a p.n p.c] 23)).grownBy w' v.ownBlock → (v.ownBlock = some g ∨ g = w.heap.size + 1) → wpList Tryd.prog ops Q rest (a.put o.dst (.slice (some ⟨g, 0, none⟩) (n + 1) cap)) w') : wpList Tryd.prog ops Q (o :: rest) a (w.alloc (.cells #[.slice p.a p.n p.c] 23)) := by
  obtain ⟨i, hi, hz, hs1, hby⟩ := info_parts info_part
  refine wpList_append_lies _ hgd s x 29 ho base 23 i (.slice none 0 0) 1 24 Tryd.underlying29 hi hz hs1 hby rfl (by decide) v n (TCELLS ts) hs (hown.alloc _) ⟨w.heap.size, 0, none⟩ 1 1 [.slice p.a p.n p.c] hx rfl ?_ (fun u hu => by simp at hu; subst hu; rfl) (by decide) (by simp only [maxLen]; omega) (by omega) (by simp; omega) (w.heap.size + 1) (by simp) ?_
  · intro j u hj
    cases j with
    | zero =>
      simp only [List.getElem?_cons_zero, Option.some.injEq] at hj
      subst hj
      rw [addr_add, World.cell?_alloc_at _ _ _ _ rfl]
      rfl
    | succ j => simp at hj
  · intro g cap w' h1 h2 h3 _
    rw [← TCELLS_snoc] at h1
    exact h g cap w' h1 h2 h3
end Go.Proofs.YtihdhaamphdljaaDoor
