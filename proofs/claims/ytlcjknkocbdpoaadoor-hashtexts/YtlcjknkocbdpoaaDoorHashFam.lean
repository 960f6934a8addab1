/- Lists of bytes of one's own, none of which shares a block with another. -/
import Derived.Test.YtlcjknkocbdpoaaDoorHashSumTexts
import Derived.Test.YtlcjknkocbdpoaaDoorHashGiven
namespace Go.Proofs.YtlcjknkocbdpoaaDoor
open Go.RowKit

/-- some lists of one's own: no two in one block, none in a block of K. -/
structure Fam (w : World) (B M : Nat) (K : Nat → Prop) (v : Nat → Value) (n : Nat → Nat) (xs : Nat → List Value) : Prop where
  row : ∀ x, x < M → w.ownsRow B 5 1 (v x) (n x) (xs x)
  apart : ∀ x y, x < M → y < M → x ≠ y → ∀ g, (v x).ownBlock = some g → (v y).ownBlock ≠ some g
  off : ∀ x, x < M → ∀ g, (v x).ownBlock = some g → ¬ K g
/-- a function that is another one at one place. -/
def UPF {α : Type} (f : Nat → α) (x : Nat) (a : α) : Nat → α := fun z => if z = x then a else f z
theorem UPF_at {α : Type} (f : Nat → α) (x : Nat) (a : α) : UPF f x a x = a := by simp [UPF]
theorem UPF_other {α : Type} (f : Nat → α) {x z : Nat} (a : α) (h : z ≠ x) : UPF f x a z = f z := by simp [UPF, h]
theorem Fam.alloc {w : World} {B M : Nat} {K : Nat → Prop} {v : Nat → Value} {n : Nat → Nat} {xs : Nat → List Value} (h : Fam w B M K v n xs) (o : Obj) : Fam (w.alloc o) B M K v n xs := ⟨fun x hx => (h.row x hx).alloc o, h.apart, h.off⟩
theorem Fam.more {w : World} {B M : Nat} {K K' : Nat → Prop} {v : Nat → Value} {n : Nat → Nat} {xs : Nat → List Value} (h : Fam w B M K v n xs) (hK : ∀ g, g < w.heap.size → K' g → K g) : Fam w B M K' v n xs :=
  ⟨h.row, h.apart, fun x hx g hg hk => h.off x hx g hg (hK g ((h.row x hx).lt g hg).2 hk)⟩
theorem Fam.below {w w' : World} {B M : Nat} {K : Nat → Prop} {v : Nat → Value} {n : Nat → Nat} {xs : Nat → List Value} (h : Fam w B M K v n xs) (hb : Below w.heap.size w w') : Fam w' B M K v n xs := ⟨fun x hx => own_keep (h.row x hx) hb, h.apart, h.off⟩
/-- what is stored into a block of K. -/
theorem Fam.other {w : World} {B M : Nat} {K : Nat → Prop} {v : Nat → Value} {n : Nat → Nat} {xs : Nat → List Value} (h : Fam w B M K v n xs) {b : Nat} (hb : K b) (j : Nat) (u : Value) : Fam (w.setCell ⟨b, j, none⟩ u) B M K v n xs :=
  ⟨fun x hx => (h.row x hx).kept (grown_set w b j u) (.inr fun e => h.off x hx b e hb), h.apart, h.off⟩
/-- what is stored into one of them. -/
theorem Fam.store {w : World} {B M : Nat} {K : Nat → Prop} {v : Nat → Value} {n : Nat → Nat} {xs : Nat → List Value} (h : Fam w B M K v n xs) {x g m cap : Nat} (hx : x < M) (hv : v x = .slice (some ⟨g, 0, none⟩) m cap) (j : Nat) (u : Value) :
    Fam (w.setCell ⟨g, j, none⟩ u) B M K v n (UPF xs x ((xs x).set j u)) := by
  refine ⟨fun z hz => ?_, h.apart, h.off⟩
  by_cases e : z = x
  · subst e
    have hr := h.row z hz
    rw [hv] at hr ⊢
    have hm : m = n z := by
      rcases hr.2 with ⟨e, _⟩ | ⟨_, _, _, e, _⟩
      · simp at e
      · simp at e
        omega
    subst hm
    rw [UPF_at]
    exact (hr.stored j u).1
  · rw [UPF_other xs _ e]
    refine (h.row z hz).kept (grown_set w g j u) (.inr fun e2 => ?_)
    exact h.apart x z hx hz (fun e3 => e e3.symm) g (by rw [hv]; rfl) e2
/-- one of them is appended to. -/
theorem Fam.app {w w' : World} {B M : Nat} {K : Nat → Prop} {v : Nat → Value} {n : Nat → Nat} {xs : Nat → List Value} (h : Fam w B M K v n xs) {x g cap : Nat} {us : List Value} (hx : x < M) (hK : ∀ k, K k → k < w.heap.size)
    (hown : w'.ownsRow B 5 1 (.slice (some ⟨g, 0, none⟩) (n x + 1) cap) (n x + 1) (xs x ++ us)) (hgrow : w.grownBy w' (v x).ownBlock) (hg : (v x).ownBlock = some g ∨ g = w.heap.size) :
    Fam w' B M K (UPF v x (.slice (some ⟨g, 0, none⟩) (n x + 1) cap)) (UPF n x (n x + 1)) (UPF xs x (xs x ++ us)) := by
  refine ⟨fun z hz => ?_, fun y z hy hz hne k hk => ?_, fun z hz k hk => ?_⟩
  · by_cases e : z = x
    · subst e
      rw [UPF_at, UPF_at, UPF_at]
      exact hown
    · rw [UPF_other v _ e, UPF_other n _ e, UPF_other xs _ e]
      refine (h.row z hz).kept hgrow ?_
      cases hb : (v z).ownBlock with
      | none => exact .inl rfl
      | some k => exact .inr fun e2 => h.apart z x hz hx e k hb e2.symm
  · by_cases ey : y = x
    · subst ey
      rw [UPF_at] at hk
      have hkg : g = k := by simpa [Value.ownBlock] using hk
      subst hkg
      rw [UPF_other v _ (fun e => hne e.symm)]
      intro e2
      rcases hg with hg | hg
      · exact h.apart y z hx hz hne g hg e2
      · have := ((h.row z hz).lt g e2).2
        omega
    · rw [UPF_other v _ ey] at hk
      by_cases ez : z = x
      · subst ez
        rw [UPF_at]
        intro e2
        have hkg : g = k := by simpa [Value.ownBlock] using e2
        subst hkg
        rcases hg with hg | hg
        · exact h.apart y z hy hz hne g hk hg
        · have := ((h.row y hy).lt g hk).2
          omega
      · rw [UPF_other v _ ez]
        exact h.apart y z hy hz hne k hk
  · by_cases ez : z = x
    · subst ez
      rw [UPF_at] at hk
      have hkg : g = k := by simpa [Value.ownBlock] using hk
      subst hkg
      rcases hg with hg | hg
      · exact h.off z hz g hg
      · intro hkk
        have := hK g hkk
        omega
    · rw [UPF_other v _ ez] at hk
      exact h.off z hz k hk
theorem Has.grownF {w w' : World} {g : Nat} {c : Array Value} {t : TypeId} {row : Option Nat} (h : Has w g c t) (hg : w.grownBy w' row) (hne : row ≠ some g) : Has w' g c t := by
  obtain ⟨_, _, _, _, hk⟩ := hg
  exact (hk g h.lt (fun e => hne e.symm)).trans h
theorem Fam.none (w : World) (B : Nat) (K : Nat → Prop) (v : Nat → Value) (n : Nat → Nat) (xs : Nat → List Value) : Fam w B 0 K v n xs := ⟨fun x hx => by omega, fun x y hx => by omega, fun x hx => by omega⟩
theorem Fam.snoc {w w' : World} {B M : Nat} {K : Nat → Prop} {v : Nat → Value} {n : Nat → Nat} {xs : Nat → List Value} {u : Value} {m : Nat} {ys : List Value} (h : Fam w B M K v n xs) (hb : Below w.heap.size w w') (hB : B ≤ w.heap.size) (hK : ∀ k, K k → k < w.heap.size) (hr : w'.ownsRow w.heap.size 5 1 u m ys) :
    Fam w' B (M + 1) K (UPF v M u) (UPF n M m) (UPF xs M ys) := by
  have key : ∀ x, x < M + 1 → x = M ∨ x < M := fun x hx => by omega
  refine ⟨fun x hx => ?_, fun x y hx hy hne k hk hk2 => ?_, fun x hx k hk hkk => ?_⟩
  · rcases key x hx with rfl | hx
    · rw [UPF_at, UPF_at, UPF_at]
      exact own_mono hr hB
    · rw [UPF_other _ _ (by omega), UPF_other _ _ (by omega), UPF_other _ _ (by omega)]
      exact own_keep (h.row x hx) hb
  · rcases key x hx with rfl | hx <;> rcases key y hy with rfl | hy
    · exact hne rfl
    · rw [UPF_at] at hk
      rw [UPF_other _ _ (by omega)] at hk2
      have i1 := (hr.lt k hk).1
      have i2 := ((h.row y hy).lt k hk2).2
      omega
    · rw [UPF_at] at hk2
      rw [UPF_other _ _ (by omega)] at hk
      have i1 := (hr.lt k hk2).1
      have i2 := ((h.row x hx).lt k hk).2
      omega
    · rw [UPF_other _ _ (by omega)] at hk hk2
      exact h.apart x y hx hy hne k hk hk2
  · rcases key x hx with rfl | hx
    · rw [UPF_at] at hk
      have i1 := (hr.lt k hk).1
      have i2 := hK k hkk
      omega
    · rw [UPF_other _ _ (by omega)] at hk
      exact h.off x hx k hk hkk
end Go.Proofs.YtlcjknkocbdpoaaDoor
