/- What FromBig and Big of package num and the law's same answer. -/
import Derived.Test.YtddmfpiflnjmjaaDoorNumCalls
import Derived.Test.YtddmfpiflnjmjaaDoorNumSlice
namespace Go.Proofs.YtddmfpiflnjmjaaDoor
open Go.RowKit

theorem or_byte {x c : Int} (h0 : 0 ≤ x) (h1 : x < 2 ^ 56) (c0 : 0 ≤ c) (c1 : c ≤ 255) : bits .or .u64 (IntKind.u64.wrap (x * 256)) (IntKind.u64.wrap c) = x * 256 + c := by
  obtain ⟨X, rfl⟩ : ∃ X : Nat, x = (X : Int) := ⟨x.toNat, by omega⟩
  obtain ⟨C, rfl⟩ : ∃ C : Nat, c = (C : Int) := ⟨c.toNat, by omega⟩
  have e1 : IntKind.u64.wrap ((X : Int) * 256) = ((X * 256 : Nat) : Int) := by rw [wrapU]; omega
  have e2 : IntKind.u64.wrap (C : Int) = (C : Int) := by rw [wrapU]; omega
  rw [e1, e2, or_eq (by omega) (by omega), nat_join 8 (X * 256) C (by omega) (by omega)]
  simp

theorem take_next (l : List Int) (k : Nat) (hk : k < l.length) : l.take (k + 1) = l.take k ++ [l.getD k 0] := by
  rw [List.take_add_one, List.getElem?_eq_getElem hk]
  simp [List.getD_eq_getElem?_getD, hk]
theorem frombig_step {w : World} {a : Option Addr} {n k : Nat} {l : List Int} {x v : Int} (hB : Bytes w a n l) (hn : n ≤ 8) (hk : k < n) (hx : x = BIGV (l.take k)) (hv : l.getD k 0 = v) :
    bits .or .u64 (IntKind.u64.wrap (x * 256)) (IntKind.u64.wrap v) = BIGV (l.take (k + 1)) := by
  have hb := BIGV_bounds (l.take k) (fun y hy => hB.2.2 y (List.mem_of_mem_take hy))
  have hl : (l.take k).length = k := by rw [List.length_take, hB.1]; omega
  rw [hl] at hb
  have hp : (256 : Int) ^ k ≤ 72057594037927936 := by
    have h7 := Nat.pow_le_pow_right (n := 256) (by decide) (show k ≤ 7 by omega)
    have e : ((256 ^ k : Nat) : Int) = 256 ^ k := by rw [Int.natCast_pow]; rfl
    omega
  have hg := hB.get k
  rw [hv] at hg
  rw [hx, or_byte hb.1 (by omega) hg.1 hg.2, take_next l k (by rw [hB.1]; exact hk), BIGV_snoc, hv]
/-- an array that is filled from 0 on. -/
theorem bfill_put {F f : Nat → Int} {i : Nat} {v : Int} (A : ∀ j, f j = if j < i then F j else 0) (hv : v = F i) : ∀ j, (if j = i then v else f j) = if j < i + 1 then F j else 0 := fun j => by
  by_cases e : j = i
  · subst e
    simp [hv]
  · rw [if_neg e, A j]
    by_cases e2 : j < i
    · rw [if_pos e2, if_pos (by omega)]
    · rw [if_neg e2, if_neg (by omega)]
/-- the i-th of n bytes of x, the highest first. -/
def BYTE (X n : Nat) : Nat → Int := fun i => ((X / 2 ^ (8 * (n - 1 - i)) % 256 : Nat) : Int)
end Go.Proofs.YtddmfpiflnjmjaaDoor
