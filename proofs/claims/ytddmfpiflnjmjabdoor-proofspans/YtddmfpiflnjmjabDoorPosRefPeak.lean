/- What the document's Peak gives. -/
import Derived.Test.YtddmfpiflnjmjabDoorPosRefPeaks
import Derived.Test.YtddmfpiflnjmjabDoorPosCoversPlain
namespace Go.Proofs.YtddmfpiflnjmjabDoor
open Go.RowKit

theorem wr_id {x : Nat} (h : x < 2 ^ 64) : IntKind.u64.wrap (x : Int) = (x : Int) := by
  rw [wrapU]
  omega
theorem TOPS_at {n j : Nat} (hn : n < 2 ^ 64) (hj : j < PC n) : (TOPS 0 n)[j]? = some (HGT n j, KGT n j) := by
  unfold TOPS
  rw [List.getElem?_map, (HGT_at hn hj).1]
  rfl
theorem HGT_KTH {i n : Nat} (hi : i < n) (hn : n ≤ 4611686018427387904) : HGT n (KTH i n) = RISE i n := by
  unfold HGT
  rw [List.getD_eq_getElem?_getD, KTH_at hi hn]
  rfl
/-- ahead of its peak no peak is over the leaf. -/
theorem ahead_not {i n k : Nat} (hi : i < n) (hn : n ≤ 4611686018427387904) (hk : k < KTH i n) : i / 2 ^ HGT n k ≠ KGT n k := by
  have hK := KTH_lt hi hn
  obtain ⟨_, h62, hb, hq, _⟩ := RISE_spec hi hn
  obtain ⟨_, h2, h3⟩ := HGT_at (n := n) (i := k) (by omega) (by omega)
  have hlt : RISE i n < HGT n k := by
    rcases Nat.lt_or_ge (RISE i n) (HGT n k) with h | h
    · exact h
    · have := PC_mono n (a := HGT n k + 1) (b := RISE i n + 1) (by omega)
      unfold KTH at hk
      omega
  have e : ∀ x : Nat, x / 2 ^ HGT n k = x / 2 ^ (RISE i n + 1) / 2 ^ (HGT n k - (RISE i n + 1)) := fun x => by rw [Nat.div_div_eq_div_mul, ← Nat.pow_add, show RISE i n + 1 + (HGT n k - (RISE i n + 1)) = HGT n k by omega]
  have h4 := at_set h2
  rw [e i, hq, ← e n, h4]
  unfold KGT
  omega
theorem at_peak {i n : Nat} (hi : i < n) (hn : n ≤ 4611686018427387904) : i / 2 ^ HGT n (KTH i n) = KGT n (KTH i n) := by
  unfold KGT
  rw [HGT_KTH hi hn]
  exact (RISE_spec hi hn).2.2.2.2
end Go.Proofs.YtddmfpiflnjmjabDoor
