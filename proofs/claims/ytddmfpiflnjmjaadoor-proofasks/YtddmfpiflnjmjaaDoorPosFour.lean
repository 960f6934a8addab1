/- Two lists that read the same; four lists of one's own, none of which shares a block with another. -/
import Derived.Test.YtddmfpiflnjmjaaDoorPosRefPath
import Derived.Test.YtddmfpiflnjmjaaDoorPosAwake
import Derived.Deep.QuietTactic
import Derived.BigQuiet
namespace Go.Proofs.YtddmfpiflnjmjaaDoor
open Go.RowKit

/-- a list of numbers lies there. -/
def Nums (w : World) (v : Value) (l : List Nat) : Prop := ∃ a cap, v = .slice a l.length cap ∧ (0 < l.length → ∃ g, a = some ⟨g, 0, none⟩ ∧ g < w.heap.size ∧ ∀ (j : Nat), j < l.length → w.cell? ⟨g, j, none⟩ = some (.int .u64 ((l.getD j 0 : Nat) : Int)))
theorem Nums.below {w w' : World} {v : Value} {l : List Nat} {B : Nat} (h : Nums w v l) (hb : Below B w w') (hB : w.heap.size ≤ B) : Nums w' v l := by
  obtain ⟨a, cap, rfl, h⟩ := h
  refine ⟨a, cap, rfl, fun h0 => ?_⟩
  obtain ⟨g, e, hg, hc⟩ := h h0
  exact ⟨g, e, Nat.lt_of_lt_of_le hg hb.size, fun j hj => (hb.cell (p := ⟨g, j, none⟩) (Nat.lt_of_lt_of_le hg hB)).trans (hc j hj)⟩
theorem nums_own {w : World} {base : Nat} {v : Value} {l : List Nat} (h : w.ownsRow base 22 1 v l.length (UCELLS l)) : Nums w v l := by
  rcases h.2 with ⟨rfl, h0⟩ | ⟨g, cap, cur, rfl, hb, hg, r⟩
  · rw [List.length_eq_zero_iff] at h0
    subst h0
    exact ⟨none, 0, rfl, fun h => absurd h (by simp)⟩
  · exact ⟨_, cap, rfl, fun h0 => ⟨g, rfl, (Array.getElem?_eq_some_iff.1 hg).1, fun j hj => row_at h j hj⟩⟩
/-- four lists of one's own: no two in one block, none in a block of K. -/
structure Four (w : World) (B : Nat) (K : Nat → Prop) (v : Nat → Value) (n : Nat → Nat) (xs : Nat → List Value) : Prop where
  row : ∀ x, x < 4 → w.ownsRow B 22 1 (v x) (n x) (xs x)
  apart : ∀ x y, x < 4 → y < 4 → x ≠ y → ∀ g, (v x).ownBlock = some g → (v y).ownBlock ≠ some g
  off : ∀ x, x < 4 → ∀ g, (v x).ownBlock = some g → ¬ K g
/-- a function that is another one at one place. -/
def UPD {α : Type} (f : Nat → α) (x : Nat) (a : α) : Nat → α := fun z => if z = x then a else f z
theorem UPD_at {α : Type} (f : Nat → α) (x : Nat) (a : α) : UPD f x a x = a := by simp [UPD]
theorem UPD_other {α : Type} (f : Nat → α) {x z : Nat} (a : α) (h : z ≠ x) : UPD f x a z = f z := by simp [UPD, h]
theorem Four.alloc {w : World} {B : Nat} {K : Nat → Prop} {v : Nat → Value} {n : Nat → Nat} {xs : Nat → List Value} (h : Four w B K v n xs) (o : Obj) : Four (w.alloc o) B K v n xs := ⟨fun x hx => (h.row x hx).alloc o, h.apart, h.off⟩
theorem Four.more {w : World} {B : Nat} {K K' : Nat → Prop} {v : Nat → Value} {n : Nat → Nat} {xs : Nat → List Value} (h : Four w B K v n xs) (hK : ∀ g, g < w.heap.size → K' g → K g) : Four w B K' v n xs :=
  ⟨h.row, h.apart, fun x hx g hg hk => h.off x hx g hg (hK g ((h.row x hx).lt g hg).2 hk)⟩
theorem Four.below {w w' : World} {B : Nat} {K : Nat → Prop} {v : Nat → Value} {n : Nat → Nat} {xs : Nat → List Value} (h : Four w B K v n xs) (hb : Below w.heap.size w w') : Four w' B K v n xs := ⟨fun x hx => own_below (h.row x hx) hb, h.apart, h.off⟩
theorem grown_set (W : World) (b j : Nat) (v : Value) : W.grownBy (W.setCell ⟨b, j, none⟩ v) (some b) :=
  ⟨rfl, rfl, rfl, (KeepsWalks.setCell W _ v).size, fun k _ hk => Below.heap_setCell _ _ _ k (fun e => hk (by rw [e]))⟩
/-- what is stored into a block of K. -/
theorem Four.other {w : World} {B : Nat} {K : Nat → Prop} {v : Nat → Value} {n : Nat → Nat} {xs : Nat → List Value} (h : Four w B K v n xs) {b : Nat} (hb : K b) (j : Nat) (u : Value) : Four (w.setCell ⟨b, j, none⟩ u) B K v n xs :=
  ⟨fun x hx => (h.row x hx).kept (grown_set w b j u) (.inr fun e => h.off x hx b e hb), h.apart, h.off⟩
/-- what is stored into one of the four. -/
theorem Four.store {w : World} {B : Nat} {K : Nat → Prop} {v : Nat → Value} {n : Nat → Nat} {xs : Nat → List Value} (h : Four w B K v n xs) {x g m cap : Nat} (hx : x < 4) (hv : v x = .slice (some ⟨g, 0, none⟩) m cap) (j : Nat) (u : Value) :
    Four (w.setCell ⟨g, j, none⟩ u) B K v n (UPD xs x ((xs x).set j u)) := by
  refine ⟨fun z hz => ?_, h.apart, h.off⟩
  by_cases e : z = x
  · subst e
    have hr := h.row z hz
    rw [hv] at hr ⊢
    have hm : m = n z := by
      rcases hr.2 with ⟨e, _⟩ | ⟨_, _, _, e, _⟩
      · simp at e
      · simp at e
        omega
    subst hm
    rw [UPD_at]
    exact (hr.stored j u).1
  · rw [UPD_other xs _ e]
    refine (h.row z hz).kept (grown_set w g j u) (.inr fun e2 => ?_)
    exact h.apart x z hx hz (fun e3 => e e3.symm) g (by rw [hv]; rfl) e2
/-- one of the four is appended to. -/
theorem Four.app {w w' : World} {B : Nat} {K : Nat → Prop} {v : Nat → Value} {n : Nat → Nat} {xs : Nat → List Value} (h : Four w B K v n xs) {x g cap : Nat} {u : Value} (hx : x < 4) (hK : ∀ k, K k → k < w.heap.size)
    (hown : w'.ownsRow B 22 1 (.slice (some ⟨g, 0, none⟩) (n x + 1) cap) (n x + 1) (xs x ++ [u])) (hgrow : w.grownBy w' (v x).ownBlock) (hg : (v x).ownBlock = some g ∨ g = w.heap.size) :
    Four w' B K (UPD v x (.slice (some ⟨g, 0, none⟩) (n x + 1) cap)) (UPD n x (n x + 1)) (UPD xs x (xs x ++ [u])) := by
  refine ⟨fun z hz => ?_, fun y z hy hz hne k hk => ?_, fun z hz k hk => ?_⟩
  · by_cases e : z = x
    · subst e
      rw [UPD_at, UPD_at, UPD_at]
      exact hown
    · rw [UPD_other v _ e, UPD_other n _ e, UPD_other xs _ e]
      refine (h.row z hz).kept hgrow ?_
      cases hb : (v z).ownBlock with
      | none => exact .inl rfl
      | some k => exact .inr fun e2 => h.apart z x hz hx e k hb e2.symm
  · by_cases ey : y = x
    · subst ey
      rw [UPD_at] at hk
      have hkg : g = k := by simpa [Value.ownBlock] using hk
      subst hkg
      rw [UPD_other v _ (fun e => hne e.symm)]
      intro e2
      rcases hg with hg | hg
      · exact h.apart y z hx hz hne g hg e2
      · have := ((h.row z hz).lt g e2).2
        omega
    · rw [UPD_other v _ ey] at hk
      by_cases ez : z = x
      · subst ez
        rw [UPD_at]
        intro e2
        have hkg : g = k := by simpa [Value.ownBlock] using e2
        subst hkg
        rcases hg with hg | hg
        · exact h.apart y z hy hz hne g hk hg
        · have := ((h.row y hy).lt g hk).2
          omega
      · rw [UPD_other v _ ez]
        exact h.apart y z hy hz hne k hk
  · by_cases ez : z = x
    · subst ez
      rw [UPD_at] at hk
      have hkg : g = k := by simpa [Value.ownBlock] using hk
      subst hkg
      rcases hg with hg | hg
      · exact h.off z hz g hg
      · intro hkk
        have := hK g hkk
        omega
    · rw [UPD_other v _ ez] at hk
      exact h.off z hz k hk
/-- a list's form. -/
theorem own_slice {w : World} {B n : Nat} {v : Value} {xs : List Value} (h : w.ownsRow B 22 1 v n xs) : ∃ a cap, v = .slice a n cap ∧ (0 < n → ∃ g, a = some ⟨g, 0, none⟩ ∧ g < w.heap.size ∧ B ≤ g) := by
  rcases h.2 with ⟨rfl, h0⟩ | ⟨g, cap, cur, rfl, hb, hg, r⟩
  · subst h0
    exact ⟨none, 0, rfl, fun h => by omega⟩
  · exact ⟨_, cap, rfl, fun _ => ⟨g, rfl, (Array.getElem?_eq_some_iff.1 hg).1, hb⟩⟩
theorem app_more {ops : Array Oper} {rest : List Oper} {o : Oper} {a : Act} {Q : Exit → Act → World → Prop} (w : World) (hgd : o.guard = none) (s x : Operand)
    (ho : o.op = .call { callee := .builtin .append, args := #[s, x], argTypes := #[23, 23] })
    (base : Nat) (v : Value) (n : Nat) (xs : List Value) (hs : a.eval s = v) (hown : w.ownsRow base 22 1 v n xs)
    (b c : Nat) (y : Int) (hx : a.eval x = .slice (some ⟨b, 0, none⟩) 1 c) (hc : w.cell? ⟨b, 0, none⟩ = some (.int .u64 y))
    (hb : n ≤ 1000) (hbase : base ≤ w.heap.size)
    (h : ∀ g cap w', w'.ownsRow base 22 1 (.slice (some ⟨g, 0, none⟩) (n + 1) cap) (n + 1) (xs ++ [.int .u64 y]) → w.grownBy w' v.ownBlock → (v.ownBlock = some g ∨ g = w.heap.size) → g < w'.heap.size → wpList Tryd.prog ops Q rest (a.put o.dst (.slice (some ⟨g, 0, none⟩) (n + 1) cap)) w') : wpList Tryd.prog ops Q (o :: rest) a w := by
  obtain ⟨i, hi, hz, hs1, hby⟩ := info_parts info_u64
  refine wpList_append_lies w hgd s x 23 ho base 22 i (.int .u64 0) 1 8 Tryd.underlying23 hi hz hs1 hby rfl (by decide) v n xs hs hown ⟨b, 0, none⟩ 1 c [.int .u64 y] hx rfl ?_ (fun u hu => by simp at hu; subst hu; rfl) (by decide) (by simp only [maxLen]; omega) (by omega) hbase w.heap.size rfl h
  intro j u hj
  cases j with
  | zero =>
    simp only [List.getElem?_cons_zero, Option.some.injEq] at hj
    subst hj
    exact hc
  | succ j => simp at hj
theorem Has.grown {w w' : World} {g : Nat} {c : Array Value} {t : TypeId} {row : Option Nat} (h : Has w g c t) (hg : w.grownBy w' row) (hne : row ≠ some g) : Has w' g c t := by
  obtain ⟨_, _, _, _, hk⟩ := hg
  exact (hk g h.lt (fun e => hne e.symm)).trans h
/-- the four as they come: each in a world of its own. -/
theorem Four.of {w : World} {B b1 b2 b3 b4 : Nat} {K : Nat → Prop} {v0 v1 v2 v3 : Value} {n m : Nat} {xs ys : List Value} (h0 : w.ownsRow B 22 1 v0 n xs) (h1 : w.ownsRow b1 22 1 v1 n xs) (h2 : w.ownsRow b2 22 1 v2 m ys) (h3 : w.ownsRow b3 22 1 v3 m ys)
    (l0 : ∀ k, v0.ownBlock = some k → k < b1) (l1 : ∀ k, v1.ownBlock = some k → k < b2) (l2 : ∀ k, v2.ownBlock = some k → k < b3) (l3 : ∀ k, v3.ownBlock = some k → k < b4) (o1 : B ≤ b1) (o2 : b1 ≤ b2) (o3 : b2 ≤ b3) (o4 : b3 ≤ b4) (hK : ∀ k, K k → b4 ≤ k) :
    ∃ (V : Nat → Value) (N : Nat → Nat) (XS : Nat → List Value), Four w B K V N XS ∧ V 0 = v0 ∧ V 1 = v1 ∧ V 2 = v2 ∧ V 3 = v3 ∧ (∀ x, x < 4 → N x = n ∨ N x = m) := by
  have key : ∀ x, x < 4 → x = 0 ∨ x = 1 ∨ x = 2 ∨ x = 3 := fun x hx => by omega
  have bnd : ∀ x, x < 4 → ∀ k, ((if x = 0 then v0 else if x = 1 then v1 else if x = 2 then v2 else v3 : Value)).ownBlock = some k → (if x = 0 then B else if x = 1 then b1 else if x = 2 then b2 else b3) ≤ k ∧ k < (if x = 0 then b1 else if x = 1 then b2 else if x = 2 then b3 else b4) := fun x hx k hk => by
    rcases key x hx with rfl | rfl | rfl | rfl
    · exact ⟨(h0.lt k hk).1, l0 k hk⟩
    · exact ⟨(h1.lt k hk).1, l1 k hk⟩
    · exact ⟨(h2.lt k hk).1, l2 k hk⟩
    · exact ⟨(h3.lt k hk).1, l3 k hk⟩
  refine ⟨fun x => if x = 0 then v0 else if x = 1 then v1 else if x = 2 then v2 else v3, fun x => if x < 2 then n else m, fun x => if x < 2 then xs else ys, ⟨fun x hx => ?_, fun x y hx hy hne k hk hk2 => ?_, fun x hx k hk hkk => ?_⟩, rfl, rfl, rfl, rfl, fun x hx => ?_⟩
  · rcases key x hx with rfl | rfl | rfl | rfl
    · exact h0
    · exact own_mono h1 o1
    · exact own_mono h2 (Nat.le_trans o1 o2)
    · exact own_mono h3 (Nat.le_trans o1 (Nat.le_trans o2 o3))
  · have hx' := bnd x hx k hk
    have hy' := bnd y hy k hk2
    rcases key x hx with rfl | rfl | rfl | rfl <;> rcases key y hy with rfl | rfl | rfl | rfl <;> simp at hx' hy' hne <;> omega
  · have hx' := bnd x hx k hk
    have := hK k hkk
    rcases key x hx with rfl | rfl | rfl | rfl <;> simp at hx' <;> omega
  · rcases key x hx with rfl | rfl | rfl | rfl <;> simp
end Go.Proofs.YtddmfpiflnjmjaaDoor
