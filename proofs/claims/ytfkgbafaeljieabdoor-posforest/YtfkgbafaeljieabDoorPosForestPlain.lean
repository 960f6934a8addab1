/- A forest, made node by node: what stands in the list, in plain numbers. -/
import Derived.Test.YtfkgbafaeljieabDoorPosForestMap
namespace Go.Proofs.YtfkgbafaeljieabDoor
open Go.RowKit

/-- the spots of the first m places. -/
def SPL (sp : Nat → Nat × Nat) (m : Nat) : List (Nat × Nat) := (List.range m).map sp
theorem SPL_length (sp : Nat → Nat × Nat) (m : Nat) : (SPL sp m).length = m := by simp [SPL]
theorem SPL_succ (sp : Nat → Nat × Nat) (m : Nat) : SPL sp (m + 1) = SPL sp m ++ [sp m] := by simp [SPL, List.range_succ]
theorem SPL_at (sp : Nat → Nat × Nat) {m p : Nat} (h : p < m) : (SPL sp m)[p]? = some (sp p) := by simp [SPL, h]
/-- sp tells what stands at each place. -/
def Tells (sp : Nat → Nat × Nat) : Prop := ∀ p, p < 9223372036854775807 → Node (sp p).1 (sp p).2 ∧ PLC (sp p).1 (sp p).2 = p
theorem tells : ∃ sp, Tells sp := by
  refine ⟨fun p => if h : p < 9223372036854775807 then ((Node.of h).choose, (Node.of h).choose_spec.choose) else (0, 0), fun p hp => ?_⟩
  simp only [dif_pos hp]
  have := (Node.of hp).choose_spec.choose_spec
  exact ⟨this.1, this.2.symm⟩
theorem Tells.at {sp : Nat → Nat × Nat} (h : Tells sp) {x y : Nat} (hN : Node x y) : sp (PLC x y) = (x, y) := by
  obtain ⟨a, b⟩ := h (PLC x y) hN.lt
  have := a.one hN b
  exact Prod.ext this.1 this.2
/-- the node that is made next: of height j, all of its leaves are there with the leaf i. -/
structure Next (i j k : Nat) : Prop where
  at' : k = i / 2 ^ j
  last : i + 1 = (k + 1) * 2 ^ j
theorem Next.start (i : Nat) : Next i 0 i := ⟨by simp, by simp⟩
theorem Next.up {i j k : Nat} (h : Next i j k) (hk : k % 2 = 1) : Next i (j + 1) (k / 2) := by
  refine ⟨by rw [half_pow, ← h.at'], ?_⟩
  rw [h.last, ← double_pow]
  congr 1
  omega
theorem Next.count {i j k : Nat} (h : Next i j k) (hk : k % 2 = 0) : NODES (i + 1) = PLC j k + 1 := by
  have h1 := NODES_add (i + 1)
  have h2 := PLC_eq j k
  have h6 : PC (i + 1) = PC (k / 2) + 1 := by rw [h.last, PC_shift, show k + 1 = 2 * (k / 2) + 1 by omega, PC_odd]
  have h3 : PC k = PC (k / 2) := by
    conv => lhs; rw [show k = 2 * (k / 2) by omega]
    exact PC_even _
  have h4 : 2 ^ (j + 1) * (k + 1) = 2 * (i + 1) := by
    rw [h.last, Nat.pow_succ, Nat.mul_comm (2 ^ j) 2, Nat.mul_assoc, Nat.mul_comm (2 ^ j)]
  omega
theorem Next.small {i j k : Nat} (h : Next i j k) (hi : i < 300) : j ≤ 8 ∧ Node j k ∧ PLC j k < 1000 ∧ k ≤ i := by
  have hk : 1 * 2 ^ j ≤ (k + 1) * 2 ^ j := Nat.mul_le_mul_right _ (by omega)
  have hj : j ≤ 8 := by
    rcases Nat.lt_or_ge 8 j with h1 | h1
    · have : 2 ^ 9 ≤ 2 ^ j := Nat.pow_le_pow_right (by decide) h1
      have := h.last
      omega
    · exact h1
  have hN : Node j k := by
    have := Node.over (i := i) (by omega) j (by omega)
    rw [← h.at'] at this
    exact this
  have h2 := PLC_last j k
  rw [← h.last, Nat.add_sub_cancel] at h2
  have h3 := NODES_add i
  refine ⟨hj, hN, by omega, ?_⟩
  rw [h.at']
  exact Nat.div_le_self _ _
theorem app_spot_more {ops : Array Oper} {rest : List Oper} {o : Oper} {a : Act} {Q : Exit → Act → World → Prop} (w : World) (hgd : o.guard = none) (s x : Operand)
    (ho : o.op = .call { callee := .builtin .append, args := #[s, x], argTypes := #[22, 22] })
    (base : Nat) (v : Value) (n : Nat) (xs : List (Nat × Nat)) (hs : a.eval s = v) (hown : w.ownsRow base 26 2 v n (SCELLS xs))
    (b c : Nat) (h k : Nat) (hx : a.eval x = .slice (some ⟨b, 0, none⟩) 1 c) (hc0 : w.cell? ⟨b, 0, none⟩ = some (.int .u8 (h : Int))) (hc1 : w.cell? ⟨b, 1, none⟩ = some (.int .u64 (k : Int)))
    (hb : n ≤ 1000) (hbase : base ≤ w.heap.size)
    (hh : ∀ g cap w', w'.ownsRow base 26 2 (.slice (some ⟨g, 0, none⟩) (n + 1) cap) (n + 1) (SCELLS (xs ++ [(h, k)])) → w.grownBy w' v.ownBlock → (v.ownBlock = some g ∨ g = w.heap.size) → wpList Tryd.prog ops Q rest (a.put o.dst (.slice (some ⟨g, 0, none⟩) (n + 1) cap)) w') : wpList Tryd.prog ops Q (o :: rest) a w := by
  obtain ⟨i, hi, hz, hs1, hby⟩ := info_parts info_spot
  refine wpList_append_lies w hgd s x 22 ho base 26 i _ 2 16 Tryd.underlying22 hi hz hs1 hby rfl (by decide) v n (SCELLS xs) hs hown ⟨b, 0, none⟩ 1 c [.int .u8 (h : Int), .int .u64 (k : Int)] hx rfl ?_ (fun u hu => by simp at hu; rcases hu with rfl | rfl <;> rfl) (by decide) (by simp only [maxLen]; omega) (by omega) hbase w.heap.size rfl ?_
  · intro j u hj
    match j, hj with
    | 0, hj =>
      simp only [List.getElem?_cons_zero, Option.some.injEq] at hj
      subst hj
      exact hc0
    | 1, hj =>
      simp only [List.getElem?_cons_succ, List.getElem?_cons_zero, Option.some.injEq] at hj
      subst hj
      exact hc1
    | j + 2, hj => simp at hj
  · intro g cap w' h1 h2 h3 _
    rw [← SCELLS_snoc] at h1
    exact hh g cap w' h1 h2 h3
theorem Has.grown {w w' : World} {g : Nat} {c : Array Value} {t : TypeId} {row : Option Nat} (h : Has w g c t) (hg : w.grownBy w' row) (hne : row ≠ some g) : Has w' g c t := by
  obtain ⟨_, _, _, _, hk⟩ := hg
  exact (hk g h.lt (fun e => hne e.symm)).trans h
theorem grown_set (W : World) (b j : Nat) (v : Value) : W.grownBy (W.setCell ⟨b, j, none⟩ v) (some b) :=
  ⟨rfl, rfl, rfl, (KeepsWalks.setCell W _ v).size, fun k _ hk => Below.heap_setCell _ _ _ k (fun e => hk (by rw [e]))⟩
/-- the making, so far. -/
structure FI (w : World) (sp : Nat → Nat × Nat) (mb sb : Nat) (v : Value) (m j k : Nat) (wx : World) : Prop where
  row : wx.ownsRow w.heap.size 26 2 v m (SCELLS (SPL sp m))
  off : ∀ g, v.ownBlock = some g → g ≠ sb
  map : Placed wx mb m
  has : Has wx sb #[.int .u8 (j : Int), .int .u64 (k : Int)] 26
  bel : Below w.heap.size w wx
  om : w.heap.size ≤ mb
  os : w.heap.size ≤ sb
theorem Placed.not_has {w : World} {b m g : Nat} {c : Array Value} {t : TypeId} (h : Placed w b m) (hg : Has w g c t) : b ≠ g := by
  intro e
  subst e
  obtain ⟨D, ⟨es, clock, h1, _⟩, _⟩ := h
  have h2 : w.heap[b]? = some (.cells c t) := hg
  rw [h1] at h2
  cases h2
theorem Placed.not_row {w : World} {b m base n g : Nat} {v : Value} {xs : List Value} {t : TypeId} {s : Nat} (h : Placed w b m) (hr : w.ownsRow base t s v n xs) (hv : v.ownBlock = some g) : b ≠ g := by
  intro e
  subst e
  obtain ⟨D, ⟨es, clock, h1, _⟩, _⟩ := h
  rcases hr.2 with ⟨rfl, _⟩ | ⟨g', cap, cur, rfl, _, hg, _⟩
  · cases hv
  · simp [Value.ownBlock] at hv
    subst hv
    rw [h1] at hg
    cases hg
end Go.Proofs.YtfkgbafaeljieabDoor
