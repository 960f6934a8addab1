/- What joined and narrow of package hash answer. -/
import Derived.Test.YtkmcmngdainofaaHashArr
import Derived.Lib.SliceRun
namespace Go.Proofs.Ytkmcmngdainofaa
open Go.RowKit

theorem zero32 : (#[.int .u8 0, .int .u8 0, .int .u8 0, .int .u8 0, .int .u8 0, .int .u8 0, .int .u8 0, .int .u8 0, .int .u8 0, .int .u8 0, .int .u8 0, .int .u8 0, .int .u8 0, .int .u8 0, .int .u8 0, .int .u8 0, .int .u8 0, .int .u8 0, .int .u8 0, .int .u8 0, .int .u8 0, .int .u8 0, .int .u8 0, .int .u8 0, .int .u8 0, .int .u8 0, .int .u8 0, .int .u8 0, .int .u8 0, .int .u8 0, .int .u8 0, .int .u8 0] : Array Value) = UARR .u8 32 fun _ => 0 := rfl
theorem BYTEW_at (x : Nat → Nat) (i r : Nat) (hr : r < 4) : BYTEW x (4 * i + r) = x i / 2 ^ (24 - 8 * r) % 256 := by
  unfold BYTEW
  rw [show (4 * i + r) / 4 = i by omega, show (4 * i + r) % 4 = r by omega]
/-- cells that are written one behind the other. -/
theorem Has.cells {k : IntKind} {n g : Nat} {t : TypeId} : ∀ (vs : List Nat) (o : Nat) (f : Nat → Nat) (w : World), Has w g (UARR k n f) t →
    Has (w.setCells g o (vs.map fun v => Value.int k ((v : Nat) : Int))) g (UARR k n fun j => if o ≤ j ∧ j < o + vs.length then vs.getD (j - o) 0 else f j) t
  | [], o, f, w, h => by
    have e : (UARR k n fun j => if o ≤ j ∧ j < o + ([] : List Nat).length then ([] : List Nat).getD (j - o) 0 else f j) = UARR k n f := UARR_ext fun j _ => if_neg (by rw [List.length_nil]; omega)
    rw [e]
    exact h
  | v :: vs, o, f, w, h => by
    have h1 := Has.cells vs (o + 1) _ _ (UARR_set k n f o v ▸ h.set o (.int k (v : Int)))
    have e : (UARR k n fun j => if o + 1 ≤ j ∧ j < o + 1 + vs.length then vs.getD (j - (o + 1)) 0 else if j = o then v else f j) = UARR k n fun j => if o ≤ j ∧ j < o + (v :: vs).length then (v :: vs).getD (j - o) 0 else f j := UARR_ext fun j _ => by
      rw [List.length_cons]
      by_cases e : j = o
      · subst e
        rw [if_neg (by omega), if_pos rfl, if_pos (by omega), Nat.sub_self]
        rfl
      · rw [if_neg e]
        by_cases e2 : o + 1 ≤ j ∧ j < o + 1 + vs.length
        · rw [if_pos e2, if_pos (by omega)]
          obtain ⟨q, hq⟩ : ∃ q, j - o = q + 1 := ⟨j - o - 1, by omega⟩
          rw [hq, show j - (o + 1) = q by omega]
          rfl
        · rw [if_neg e2, if_neg (by omega)]
    rw [e] at h1
    exact h1
theorem Has.cells_other {g b : Nat} {t : TypeId} {c : Array Value} (hb : g ≠ b) : ∀ (vs : List Value) (o : Nat) (w : World), Has w g c t → Has (w.setCells b o vs) g c t
  | [], _, _, h => h
  | _ :: vs, o, _, h => Has.cells_other hb vs (o + 1) _ (h.other (by exact hb) _)
theorem below_cells {B b : Nat} {w0 : World} (hB : B ≤ b) : ∀ (vs : List Value) (o : Nat) (w : World), Below B w0 w → Below B w0 (w.setCells b o vs)
  | [], _, _, h => h
  | _ :: vs, o, _, h => below_cells hB vs (o + 1) _ (h.setCell (by exact hB) _)
theorem size_cells {b : Nat} : ∀ (vs : List Value) (o : Nat) (w : World), (w.setCells b o vs).heap.size = w.heap.size
  | [], _, _ => rfl
  | _ :: vs, o, _ => (size_cells vs (o + 1) _).trans (by simp [World.setCell])
theorem NARROW_whole {w : Int} (h : WID w = 32) (s : Nat → Nat) : UARR .u8 32 (NARROW w s) = UARR .u8 32 s := UARR_ext fun j hj => by unfold NARROW; rw [if_pos (by omega)]
end Go.Proofs.Ytkmcmngdainofaa
