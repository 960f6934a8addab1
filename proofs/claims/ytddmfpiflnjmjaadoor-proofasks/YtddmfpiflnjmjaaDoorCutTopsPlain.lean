/- The spots of the peaks are the span of all leaves. -/
import Derived.Test.YtddmfpiflnjmjaaDoorCutPlain
import Derived.Test.YtddmfpiflnjmjaaDoorPosCoversPlain
namespace Go.Proofs.YtddmfpiflnjmjaaDoor

/-- the peaks' spots from the j-th on. -/
def PKS (n j c : Nat) : List (Nat × Nat) := (List.range' j c).map fun i => (HGT n i, KGT n i)
theorem PKS_step (n j c : Nat) : PKS n j (c + 1) = (HGT n j, KGT n j) :: PKS n (j + 1) c := by simp [PKS, List.range'_succ]
theorem PKS_at {n c i : Nat} (h : i < c) : (PKS n 0 c)[i]? = some (HGT n i, KGT n i) := by
  simp [PKS, h]
theorem PKS_tile {n : Nat} (hn : n ≤ 4611686018427387904) : ∀ c j, j + c = PC n → Tile (AHEAD n j) (PKS n j c) n ∧ Irr (PKS n j c) := by
  intro c
  induction c with
  | zero =>
    intro j e
    obtain rfl : j = PC n := by omega
    exact ⟨AHEAD_all (by omega), trivial⟩
  | succ c ih =>
    intro j e
    obtain ⟨i1, i2⟩ := ih (j + 1) (by omega)
    rw [PKS_step]
    refine ⟨⟨PEAK_node hn (by omega), AHEAD_from (by omega) (by omega), ?_⟩, ?_, i2⟩
    · show Tile ((KGT n j + 1) * 2 ^ HGT n j) _ n
      rw [AHEAD_to (by omega) (by omega)]
      exact i1
    · intro y hy ⟨h1, _, _⟩
      cases c with
      | zero => simp [PKS] at hy
      | succ c =>
        rw [PKS_step] at hy
        simp at hy
        subst hy
        have := HGT_falls (n := n) (i := j) (by omega) (by omega)
        dsimp only at h1
        omega
theorem SPAN_peaks {n : Nat} (hn : n ≤ 4611686018427387904) : SPAN 0 n = PKS n 0 (PC n) := by
  obtain ⟨h1, h2⟩ := PKS_tile hn (PC n) 0 (by omega)
  exact (span_only h1 h2).symm
theorem SPAN_zero_length {n : Nat} (hn : n ≤ 4611686018427387904) : (SPAN 0 n).length = PC n := by
  rw [SPAN_peaks hn]
  simp [PKS]
theorem SPAN_zero_at {n i : Nat} (hn : n ≤ 4611686018427387904) (hi : i < PC n) : (SPAN 0 n)[i]? = some (HGT n i, KGT n i) := by
  rw [SPAN_peaks hn]
  exact PKS_at hi
end Go.Proofs.YtddmfpiflnjmjaaDoor
