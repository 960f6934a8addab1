/- Four lists of spots of one's own, none of which shares a block with another. -/
import Derived.Test.YthogidnbjdmaaaaDoorCutLists
import Derived.Test.YthogidnbjdmaaaaDoorCutRefSpan
import Derived.Test.YthogidnbjdmaaaaDoorCutRefJoins
import Derived.Test.YthogidnbjdmaaaaDoorCutAwake
import Derived.Deep.QuietTactic
import Derived.BigQuiet
namespace Go.Proofs.YthogidnbjdmaaaaDoor
open Go.RowKit

theorem own_mono_s {w : World} {base base' : Nat} {t : TypeId} {s : Nat} {v : Value} {n : Nat} {xs : List Value} (h : w.ownsRow base t s v n xs) (hb : base' ≤ base) : w.ownsRow base' t s v n xs :=
  ⟨h.1, h.2.imp id fun ⟨g, c, cur, a, b, r⟩ => ⟨g, c, cur, a, Nat.le_trans hb b, r⟩⟩
/-- a list's form. -/
theorem sown_slice {w : World} {B n : Nat} {v : Value} {xs : List Value} (h : w.ownsRow B 28 2 v n xs) : ∃ a cap, v = .slice a n cap ∧ (0 < n → ∃ g, a = some ⟨g, 0, none⟩ ∧ g < w.heap.size ∧ B ≤ g) := by
  rcases h.2 with ⟨rfl, h0⟩ | ⟨g, cap, cur, rfl, hb, hg, r⟩
  · subst h0
    exact ⟨none, 0, rfl, fun h => by omega⟩
  · exact ⟨_, cap, rfl, fun _ => ⟨g, rfl, (Array.getElem?_eq_some_iff.1 hg).1, hb⟩⟩
theorem app_spot_at {ops : Array Oper} {rest : List Oper} {o : Oper} {a : Act} {Q : Exit → Act → World → Prop} (w : World) (hgd : o.guard = none) (s x : Operand)
    (ho : o.op = .call { callee := .builtin .append, args := #[s, x], argTypes := #[23, 23] })
    (base : Nat) (v : Value) (n : Nat) (xs : List Value) (hs : a.eval s = v) (hown : w.ownsRow base 28 2 v n xs)
    (b c : Nat) (h k : Int) (hx : a.eval x = .slice (some ⟨b, 0, none⟩) 1 c) (hc0 : w.cell? ⟨b, 0, none⟩ = some (.int .u8 h)) (hc1 : w.cell? ⟨b, 1, none⟩ = some (.int .u64 k))
    (hb : n ≤ 1000) (hbase : base ≤ w.heap.size)
    (hh : ∀ g cap w', w'.ownsRow base 28 2 (.slice (some ⟨g, 0, none⟩) (n + 1) cap) (n + 1) (xs ++ [.int .u8 h, .int .u64 k]) → w.grownBy w' v.ownBlock → (v.ownBlock = some g ∨ g = w.heap.size) → g < w'.heap.size → wpList Tryd.prog ops Q rest (a.put o.dst (.slice (some ⟨g, 0, none⟩) (n + 1) cap)) w') : wpList Tryd.prog ops Q (o :: rest) a w := by
  obtain ⟨i, hi, hz, hs1, hby⟩ := info_parts info_spot
  refine wpList_append_lies w hgd s x 23 ho base 28 i _ 2 16 Tryd.underlying23 hi hz hs1 hby rfl (by decide) v n xs hs hown ⟨b, 0, none⟩ 1 c [.int .u8 h, .int .u64 k] hx rfl ?_ (fun u hu => by simp at hu; rcases hu with rfl | rfl <;> rfl) (by decide) (by simp only [maxLen]; omega) (by omega) hbase w.heap.size rfl hh
  intro j u hj
  match j, hj with
  | 0, hj =>
    simp only [List.getElem?_cons_zero, Option.some.injEq] at hj
    subst hj
    exact hc0
  | 1, hj =>
    simp only [List.getElem?_cons_succ, List.getElem?_cons_zero, Option.some.injEq] at hj
    subst hj
    exact hc1
  | j + 2, hj => simp at hj
/-- four lists of one's own: no two in one block, none in a block of K. -/
structure Quad (w : World) (B : Nat) (K : Nat → Prop) (v : Nat → Value) (n : Nat → Nat) (xs : Nat → List Value) : Prop where
  row : ∀ x, x < 4 → w.ownsRow B 28 2 (v x) (n x) (xs x)
  apart : ∀ x y, x < 4 → y < 4 → x ≠ y → ∀ g, (v x).ownBlock = some g → (v y).ownBlock ≠ some g
  off : ∀ x, x < 4 → ∀ g, (v x).ownBlock = some g → ¬ K g
/-- a function that is another one at one place. -/
def UPS {α : Type} (f : Nat → α) (x : Nat) (a : α) : Nat → α := fun z => if z = x then a else f z
theorem UPS_at {α : Type} (f : Nat → α) (x : Nat) (a : α) : UPS f x a x = a := by simp [UPS]
theorem UPS_other {α : Type} (f : Nat → α) {x z : Nat} (a : α) (h : z ≠ x) : UPS f x a z = f z := by simp [UPS, h]
theorem Quad.alloc {w : World} {B : Nat} {K : Nat → Prop} {v : Nat → Value} {n : Nat → Nat} {xs : Nat → List Value} (h : Quad w B K v n xs) (o : Obj) : Quad (w.alloc o) B K v n xs := ⟨fun x hx => (h.row x hx).alloc o, h.apart, h.off⟩
theorem Quad.more {w : World} {B : Nat} {K K' : Nat → Prop} {v : Nat → Value} {n : Nat → Nat} {xs : Nat → List Value} (h : Quad w B K v n xs) (hK : ∀ g, g < w.heap.size → K' g → K g) : Quad w B K' v n xs :=
  ⟨h.row, h.apart, fun x hx g hg hk => h.off x hx g hg (hK g ((h.row x hx).lt g hg).2 hk)⟩
theorem Quad.below {w w' : World} {B : Nat} {K : Nat → Prop} {v : Nat → Value} {n : Nat → Nat} {xs : Nat → List Value} (h : Quad w B K v n xs) (hb : Below w.heap.size w w') : Quad w' B K v n xs := ⟨fun x hx => own_below (h.row x hx) hb, h.apart, h.off⟩
/-- what is stored into a block of K. -/
theorem Quad.other {w : World} {B : Nat} {K : Nat → Prop} {v : Nat → Value} {n : Nat → Nat} {xs : Nat → List Value} (h : Quad w B K v n xs) {b : Nat} (hb : K b) (j : Nat) (u : Value) : Quad (w.setCell ⟨b, j, none⟩ u) B K v n xs :=
  ⟨fun x hx => (h.row x hx).kept (grown_cell w b j u) (.inr fun e => h.off x hx b e hb), h.apart, h.off⟩
/-- what is stored into one of the four. -/
theorem Quad.store {w : World} {B : Nat} {K : Nat → Prop} {v : Nat → Value} {n : Nat → Nat} {xs : Nat → List Value} (h : Quad w B K v n xs) {x g m cap : Nat} (hx : x < 4) (hv : v x = .slice (some ⟨g, 0, none⟩) m cap) (j : Nat) (u : Value) :
    Quad (w.setCell ⟨g, j, none⟩ u) B K v n (UPS xs x ((xs x).set j u)) := by
  refine ⟨fun z hz => ?_, h.apart, h.off⟩
  by_cases e : z = x
  · subst e
    have hr := h.row z hz
    rw [hv] at hr ⊢
    have hm : m = n z := by
      rcases hr.2 with ⟨e, _⟩ | ⟨_, _, _, e, _⟩
      · simp at e
      · simp at e
        omega
    subst hm
    rw [UPS_at]
    exact (hr.stored j u).1
  · rw [UPS_other xs _ e]
    refine (h.row z hz).kept (grown_cell w g j u) (.inr fun e2 => ?_)
    exact h.apart x z hx hz (fun e3 => e e3.symm) g (by rw [hv]; rfl) e2
/-- one of the four is appended to. -/
theorem Quad.app {w w' : World} {B : Nat} {K : Nat → Prop} {v : Nat → Value} {n : Nat → Nat} {xs : Nat → List Value} (h : Quad w B K v n xs) {x g cap : Nat} {us : List Value} (hx : x < 4) (hK : ∀ k, K k → k < w.heap.size)
    (hown : w'.ownsRow B 28 2 (.slice (some ⟨g, 0, none⟩) (n x + 1) cap) (n x + 1) (xs x ++ us)) (hgrow : w.grownBy w' (v x).ownBlock) (hg : (v x).ownBlock = some g ∨ g = w.heap.size) :
    Quad w' B K (UPS v x (.slice (some ⟨g, 0, none⟩) (n x + 1) cap)) (UPS n x (n x + 1)) (UPS xs x (xs x ++ us)) := by
  refine ⟨fun z hz => ?_, fun y z hy hz hne k hk => ?_, fun z hz k hk => ?_⟩
  · by_cases e : z = x
    · subst e
      rw [UPS_at, UPS_at, UPS_at]
      exact hown
    · rw [UPS_other v _ e, UPS_other n _ e, UPS_other xs _ e]
      refine (h.row z hz).kept hgrow ?_
      cases hb : (v z).ownBlock with
      | none => exact .inl rfl
      | some k => exact .inr fun e2 => h.apart z x hz hx e k hb e2.symm
  · by_cases ey : y = x
    · subst ey
      rw [UPS_at] at hk
      have hkg : g = k := by simpa [Value.ownBlock] using hk
      subst hkg
      rw [UPS_other v _ (fun e => hne e.symm)]
      intro e2
      rcases hg with hg | hg
      · exact h.apart y z hx hz hne g hg e2
      · have := ((h.row z hz).lt g e2).2
        omega
    · rw [UPS_other v _ ey] at hk
      by_cases ez : z = x
      · subst ez
        rw [UPS_at]
        intro e2
        have hkg : g = k := by simpa [Value.ownBlock] using e2
        subst hkg
        rcases hg with hg | hg
        · exact h.apart y z hy hz hne g hk hg
        · have := ((h.row y hy).lt g hk).2
          omega
      · rw [UPS_other v _ ez]
        exact h.apart y z hy hz hne k hk
  · by_cases ez : z = x
    · subst ez
      rw [UPS_at] at hk
      have hkg : g = k := by simpa [Value.ownBlock] using hk
      subst hkg
      rcases hg with hg | hg
      · exact h.off z hz g hg
      · intro hkk
        have := hK g hkk
        omega
    · rw [UPS_other v _ ez] at hk
      exact h.off z hz k hk
theorem Has.grownS {w w' : World} {g : Nat} {c : Array Value} {t : TypeId} {row : Option Nat} (h : Has w g c t) (hg : w.grownBy w' row) (hne : row ≠ some g) : Has w' g c t := by
  obtain ⟨_, _, _, _, hk⟩ := hg
  exact (hk g h.lt (fun e => hne e.symm)).trans h
/-- the four as they come: each in a world of its own. -/
theorem Quad.of {w : World} {B b1 b2 b3 b4 : Nat} {K : Nat → Prop} {v0 v1 v2 v3 : Value} {n m : Nat} {xs ys : List Value} (h0 : w.ownsRow B 28 2 v0 n xs) (h1 : w.ownsRow b1 28 2 v1 n xs) (h2 : w.ownsRow b2 28 2 v2 m ys) (h3 : w.ownsRow b3 28 2 v3 m ys)
    (l0 : ∀ k, v0.ownBlock = some k → k < b1) (l1 : ∀ k, v1.ownBlock = some k → k < b2) (l2 : ∀ k, v2.ownBlock = some k → k < b3) (l3 : ∀ k, v3.ownBlock = some k → k < b4) (o1 : B ≤ b1) (o2 : b1 ≤ b2) (o3 : b2 ≤ b3) (o4 : b3 ≤ b4) (hK : ∀ k, K k → b4 ≤ k) :
    ∃ (V : Nat → Value) (N : Nat → Nat) (XS : Nat → List Value), Quad w B K V N XS ∧ V 0 = v0 ∧ V 1 = v1 ∧ V 2 = v2 ∧ V 3 = v3 ∧ (∀ x, x < 4 → N x = n ∨ N x = m) := by
  have key : ∀ x, x < 4 → x = 0 ∨ x = 1 ∨ x = 2 ∨ x = 3 := fun x hx => by omega
  have bnd : ∀ x, x < 4 → ∀ k, ((if x = 0 then v0 else if x = 1 then v1 else if x = 2 then v2 else v3 : Value)).ownBlock = some k → (if x = 0 then B else if x = 1 then b1 else if x = 2 then b2 else b3) ≤ k ∧ k < (if x = 0 then b1 else if x = 1 then b2 else if x = 2 then b3 else b4) := fun x hx k hk => by
    rcases key x hx with rfl | rfl | rfl | rfl
    · exact ⟨(h0.lt k hk).1, l0 k hk⟩
    · exact ⟨(h1.lt k hk).1, l1 k hk⟩
    · exact ⟨(h2.lt k hk).1, l2 k hk⟩
    · exact ⟨(h3.lt k hk).1, l3 k hk⟩
  refine ⟨fun x => if x = 0 then v0 else if x = 1 then v1 else if x = 2 then v2 else v3, fun x => if x < 2 then n else m, fun x => if x < 2 then xs else ys, ⟨fun x hx => ?_, fun x y hx hy hne k hk hk2 => ?_, fun x hx k hk hkk => ?_⟩, rfl, rfl, rfl, rfl, fun x hx => ?_⟩
  · rcases key x hx with rfl | rfl | rfl | rfl
    · exact h0
    · exact own_mono_s h1 o1
    · exact own_mono_s h2 (Nat.le_trans o1 o2)
    · exact own_mono_s h3 (Nat.le_trans o1 (Nat.le_trans o2 o3))
  · have hx' := bnd x hx k hk
    have hy' := bnd y hy k hk2
    rcases key x hx with rfl | rfl | rfl | rfl <;> rcases key y hy with rfl | rfl | rfl | rfl <;> simp at hx' hy' hne <;> omega
  · have hx' := bnd x hx k hk
    have := hK k hkk
    rcases key x hx with rfl | rfl | rfl | rfl <;> simp at hx' <;> omega
  · rcases key x hx with rfl | rfl | rfl | rfl <;> simp
end Go.Proofs.YthogidnbjdmaaaaDoor
