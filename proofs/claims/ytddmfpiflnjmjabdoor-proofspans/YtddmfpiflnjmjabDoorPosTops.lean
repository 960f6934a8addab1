/- What the document's Tops gives: the spots of the peaks. -/
import Derived.Test.YtddmfpiflnjmjabDoorPosRefKin
import Derived.Test.YtddmfpiflnjmjabDoorPosSpotRow
namespace Go.Proofs.YtddmfpiflnjmjabDoor
open Go.RowKit

/-- the spots of the peaks of n leaves whose height is at least h. -/
def TOPS (h n : Nat) : List (Nat × Nat) := (HS h n).map fun g => (g, 2 * (n / 2 ^ (g + 1)))
theorem TOPS_set {h n : Nat} (hh : h < 64) (hb : n / 2 ^ h % 2 = 1) : TOPS h n = TOPS (h + 1) n ++ [(h, 2 * (n / 2 ^ (h + 1)))] := by
  unfold TOPS
  rw [HS_set hh hb, List.map_append]
  rfl
theorem TOPS_clear {h n : Nat} (hh : h < 64) (hb : ¬ n / 2 ^ h % 2 = 1) : TOPS h n = TOPS (h + 1) n := by
  unfold TOPS
  rw [HS_clear hh hb]
theorem TOPS_length {n : Nat} (hn : n < 2 ^ 64) (h : Nat) (hh : h ≤ 64) : (TOPS h n).length = PC (n / 2 ^ h) := by
  unfold TOPS
  rw [List.length_map]
  exact HS_length hn h hh
/-- one height of Tops. -/
theorem tops_plain {n h at' r : Nat} (ha : at' = n / 2 ^ (h + 1) * 2 ^ (h + 1)) (hr : r = n - at') : at' ≤ n ∧ (2 ^ h ≤ r ↔ n / 2 ^ h % 2 = 1) ∧ at' / 2 ^ h = 2 * (n / 2 ^ (h + 1)) ∧ (n / 2 ^ h % 2 = 1 → at' + 2 ^ h = n / 2 ^ h * 2 ^ h) ∧ (¬ n / 2 ^ h % 2 = 1 → at' = n / 2 ^ h * 2 ^ h) := by
  have hp := Nat.two_pow_pos h
  have e1 : at' = 2 * (n / 2 ^ (h + 1)) * 2 ^ h := by rw [ha, double_pow]
  have hd := Nat.div_add_mod n (2 ^ h)
  have hm := Nat.mod_lt n hp
  rw [Nat.mul_comm] at hd
  have hq : at' / 2 ^ h = 2 * (n / 2 ^ (h + 1)) := by rw [e1, Nat.mul_div_cancel _ hp]
  by_cases hb : n / 2 ^ h % 2 = 1
  · have h2 := at_set hb
    have e2 : n / 2 ^ h * 2 ^ h = at' + 2 ^ h := by rw [h2, Nat.add_mul, Nat.one_mul, ← e1]
    exact ⟨by omega, ⟨fun _ => hb, fun _ => by omega⟩, hq, fun _ => e2.symm, fun h => absurd hb h⟩
  · have h2 := at_clear hb
    have e2 : n / 2 ^ h * 2 ^ h = at' := by rw [h2, ← e1]
    exact ⟨by omega, ⟨fun _ => by omega, fun h => absurd h hb⟩, hq, fun h => absurd h hb, fun _ => e2.symm⟩
end Go.Proofs.YtddmfpiflnjmjabDoor
