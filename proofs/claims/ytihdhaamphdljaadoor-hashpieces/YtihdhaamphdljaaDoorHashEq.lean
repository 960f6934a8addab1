/- Two arrays held against each other. -/
import Derived.Test.YtihdhaamphdljaaDoorHashSums
import Derived.ChangeKeysEq
namespace Go.Proofs.YtihdhaamphdljaaDoor
open Go.RowKit
set_option maxRecDepth 100000

theorem Has.whole {w : World} {g : Nat} {F : Nat → Nat} {k : IntKind} {n : Nat} {t : TypeId} (h : Has w g (UARR k n F) t) : w.rangeAt g 0 (ULIST k n F) := fun j v hv => by
  have hj : j < n := by have := (List.getElem?_eq_some_iff.1 hv).1; rw [ULIST_length] at this; exact this
  rw [ULIST_get _ _ _ _ hj] at hv
  rw [Nat.zero_add, h.cell, UARR_get _ _ _ _ hj, hv]
theorem range_below {B : Nat} {w w' : World} {g o : Nat} {cs : List Value} (h : w.rangeAt g o cs) (hb : Below B w w') (hg : g < B) : w'.rangeAt g o cs := fun j v hv => (hb.cell (by exact hg)).trans (h j v hv)
theorem items_u8 (d n : Nat) (F G : Nat → Nat) (w : World) : ∀ is : List Nat, (∀ i ∈ is, i < n) → (Op.eqItems (d + 1) 5 1 (UARR .u8 n F) (UARR .u8 n G) is).run Tryd.prog w = .ok (is.all fun i => F i == G i) w
  | [], _ => by simp [Op.eqItems]
  | i :: is, h => by
    have hp : Tryd.prog.plainKey 5 = true := by kernel_rfl
    have hi : i < n := h i (by simp)
    have h1 := run_part_plain (P := Tryd.prog) w hp (UARR_get .u8 n F i hi)
    have h2 := run_part_plain (P := Tryd.prog) w hp (UARR_get .u8 n G i hi)
    have h3 := run_equalIn_int (P := Tryd.prog) w d 5 .u8 .u8 (F i : Nat) (G i : Nat) Tryd.underlying5
    have ih := items_u8 d n F G w is (fun j hj => h j (by simp [hj]))
    rw [Op.eqItems, Nat.mul_one]
    simp only [Sem.run_bind, h1, h2, h3, Result.andThen_ok]
    by_cases e : F i = G i
    · simp [e, ih]
    · have e2 : ((F i : Int) == (G i : Int)) = false := by simp; omega
      simp [e2, e]
theorem equal_hash (F G : Nat → Nat) (w : World) : (Op.equalIn 10000 35 (.agg (UARR .u8 32 F)) (.agg (UARR .u8 32 G))).run Tryd.prog w = .ok ((List.range 32).all fun i => F i == G i) w := by
  obtain ⟨i8, hi, _⟩ := Option.map_eq_some_iff.1 info_u8
  rw [run_equalIn_array (P := Tryd.prog) w 9999 (UARR .u8 32 F) (UARR .u8 32 G) Tryd.underlying35 hi]
  have hc : Tryd.prog.cellsOf 5 = 1 := by kernel_rfl
  rw [hc]
  exact items_u8 9998 32 F G w _ (fun i hi => by simpa using hi)
theorem equal_same (F : Nat → Nat) (w : World) : (Op.equalIn 10000 35 (.agg (UARR .u8 32 F)) (.agg (UARR .u8 32 F))).run Tryd.prog w = .ok true w := by
  rw [equal_hash]
  congr 1
  simp
end Go.Proofs.YtihdhaamphdljaaDoor
