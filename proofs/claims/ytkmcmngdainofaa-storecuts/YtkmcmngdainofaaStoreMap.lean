/- The map from keys to chunks: which block the chunk of a number is in. -/
import Derived.Maps.OwnSet
import Derived.DeepKeys4
import Derived.Test.YtkmcmngdainofaaStoreFind
namespace Go.Proofs.Ytkmcmngdainofaa
open Go.RowKit Go.Maps
set_option maxRecDepth 100000

theorem laidOutP : laidOutB Try.prog = true := by kernel_rfl
theorem rowKey : (51 : TypeId) < Try.prog.types.size := of_decide_eq_true (by kernel_rfl)
theorem wideKey : (match Try.prog.underlying 51 with | some (.array _ _) | some (.struct _) => true | _ => false) = true := by rw [Try.underlying51]
theorem lawKey : Keyed Try.prog 51 := Keyed.of_law (deep_law_laid laidOutP (m := 2) (by omega) rowKey (by kernel_rfl) wideKey)
/-- a key as a value. -/
abbrev KEY (k : Nat) : Value := .agg #[.int .u64 (k : Int)]
/-- what a key reads as. -/
def KK (k : Nat) : Lit := .string (keyBytes [.int .u64 (k : Int)])
theorem keyk_ok {k : Nat} (hk : k < 2 ^ 64) : keyOf Try.prog 51 (KEY k) = some (KK k) := by
  have w1 : (Lit.int .u64 (k : Int)).wf = true := WalkArith.wf_u64 (by omega)
  have c3 : Try.prog.cellsOf 51 = 1 := by kernel_rfl
  have c2 : Try.prog.cellsOf 29 = 1 := by kernel_rfl
  have ht : Try.prog.keyType 51 = true := by kernel_rfl
  have hf : (KEY k).formed Try.prog 51 = true := by simp [Value.formed, Try.underlying51, c3]
  obtain ⟨m, hm⟩ : ∃ m, Try.prog.types.size = m + 1 := ⟨Try.prog.types.size - 1, (Nat.succ_pred_eq_of_pos (Nat.lt_of_le_of_lt (Nat.zero_le _) rowKey)).symm⟩
  unfold keyOf
  simp only [Try.underlying51, ht, hf, hm]
  simp [Program.keyLits, Try.underlying51, Try.underlying29, c2, c3, Value.cells, w1, KK]
theorem KK_inj {k k' : Nat} (hk : k < 2 ^ 64) (hk' : k' < 2 ^ 64) (e : KK k = KK k') : k = k' := by
  have h1 := keyk_ok hk
  have h2 := keyk_ok hk'
  rw [← e] at h2
  have := lawKey.inj h1 h2
  simp at this
  omega
/-- a number as a datum. -/
abbrev UD (n : Nat) : DataW Unit := .lit (.int .u64 (n : Int))
/-- how a pointer to a block reads: nil as 0, the block g as g + 1. -/
def PE : Value → Option (DataW Unit × List MemPlace)
  | .pointer none => some (UD 0, [])
  | .pointer (some ⟨g, 0, none⟩) => some (UD (g + 1), [])
  | _ => none
theorem PE_some {g : Nat} : PE (.pointer (some ⟨g, 0, none⟩)) = some (UD (g + 1), []) := rfl
theorem PE_inv {v : Value} {g : Nat} {ps : List MemPlace} (h : PE v = some (UD (g + 1), ps)) : v = .pointer (some ⟨g, 0, none⟩) := by
  unfold PE at h
  split at h
  · simp at h
    omega
  · simp at h
    obtain ⟨h, -⟩ := h
    rw [Int.ofNat.inj h]
  · cases h
theorem PE_zero {v : Value} {ps : List MemPlace} (h : PE v = some (UD 0, ps)) : v = .pointer none := by
  unfold PE at h
  split at h
  · rfl
  · simp at h
    omega
  · cases h
/-- the map has just the chunks of M. -/
def ChunkMap (w : World) (b n : Nat) (M : Nat → Option Nat) : Prop := ∃ D : DataW Unit, w.ownsMap Try.prog 51 PE b n D ∧ ∀ k, k < 2 ^ 64 → (Maps.has D (KK k) = (M k).isSome) ∧ ∀ g, M k = some g → D.atKey (KK k) (UD 0) = UD (g + 1)
theorem ChunkMap.made (w : World) : ChunkMap (w.alloc (.map #[] 0)) w.heap.size 0 (fun _ => none) := ⟨_, World.ownsMap_made w _ _ _, fun k _ => ⟨by simp [Maps.has], fun g h => by cases h⟩⟩
theorem ChunkMap.lt {w : World} {b n : Nat} {M : Nat → Option Nat} (h : ChunkMap w b n M) : b < w.heap.size := let ⟨_, h1, _⟩ := h; h1.lt
theorem ChunkMap.kept {w w' : World} {b n : Nat} {M : Nat → Option Nat} {row : Option Nat} (h : ChunkMap w b n M) (hg : w.grownBy w' row) (hne : some b ≠ row) : ChunkMap w' b n M := let ⟨D, h1, h2⟩ := h; ⟨D, h1.kept hg hne, h2⟩
theorem ChunkMap.at {w w' : World} {b n : Nat} {M : Nat → Option Nat} (h : ChunkMap w b n M) (hb : w'.heap[b]? = w.heap[b]?) : ChunkMap w' b n M := by
  obtain ⟨D, ⟨es, clock, h1, r⟩, h2⟩ := h
  exact ⟨D, ⟨es, clock, hb.trans h1, r⟩, h2⟩
theorem ChunkMap.below {w w' : World} {b n : Nat} {M : Nat → Option Nat} (h : ChunkMap w b n M) (hb : Below w.heap.size w w') : ChunkMap w' b n M := h.at (hb.block b h.lt)
theorem ChunkMap.setCell {w : World} {b n : Nat} {M : Nat → Option Nat} (h : ChunkMap w b n M) {a : Addr} (ha : b ≠ a.block) (u : Value) : ChunkMap (w.setCell a u) b n M := let ⟨D, h1, h2⟩ := h; ⟨D, h1.setCell ha u, h2⟩
theorem zeroPtr (w : World) : (zeroValue 60).run Try.prog w = .ok (.pointer none) w := by kernel_rfl
/-- v, ok := m[k]. -/
theorem ChunkMap.look {w : World} {b n k : Nat} {M : Nat → Option Nat} (h : ChunkMap w b n M) (hk : k < 2 ^ 64) : ∃ v, (Instr.lookup 44 (.map (some b)) (KEY k) true).run Try.prog w = .ok (.tuple #[v, .bool (M k).isSome]) w ∧ (∀ g, M k = some g → v = .pointer (some ⟨g, 0, none⟩)) ∧ (M k = none → v = .pointer none) := by
  obtain ⟨D, h1, h2⟩ := h
  obtain ⟨v, ps, r1, r2⟩ := h1.look_ok lawKey Try.underlying44 (zeroPtr w) (show PE (.pointer none) = some (UD 0, []) from rfl) (keyk_ok hk)
  refine ⟨v, by rw [r1, (h2 k hk).1], fun g hg => ?_, fun hg => ?_⟩
  · rw [(h2 k hk).2 g hg] at r2
    exact PE_inv r2
  · have hn : Maps.has D (KK k) = false := by rw [(h2 k hk).1, hg]; rfl
    rw [Maps.atKey_of_not_has hn] at r2
    exact PE_zero r2
/-- m[k] of a key that is there. -/
theorem ChunkMap.get {w : World} {b n k g : Nat} {M : Nat → Option Nat} (h : ChunkMap w b n M) (hk : k < 2 ^ 64) (hg : M k = some g) : (Instr.lookup 44 (.map (some b)) (KEY k) false).run Try.prog w = .ok (.pointer (some ⟨g, 0, none⟩)) w := by
  obtain ⟨D, h1, h2⟩ := h
  obtain ⟨v, ps, r1, r2⟩ := h1.lookup lawKey Try.underlying44 (zeroPtr w) (show PE (.pointer none) = some (UD 0, []) from rfl) (keyk_ok hk)
  rw [(h2 k hk).2 g hg] at r2
  rw [r1, PE_inv r2]
/-- m[k] = c. -/
theorem ChunkMap.store {w : World} {b n k g : Nat} {M : Nat → Option Nat} (h : ChunkMap w b n M) (hn : n < 2 ^ 40) (hk : k < 2 ^ 64) : ∃ w', (Instr.mapUpdate 44 (.map (some b)) (KEY k) (.pointer (some ⟨g, 0, none⟩))).run Try.prog w = .ok () w' ∧ ChunkMap w' b (n + 1) (fun j => if j = k then some g else M j) ∧ w.grownBy w' (some b) := by
  obtain ⟨D, h1, h2⟩ := h
  obtain ⟨w', r1, r2, r3⟩ := h1.update lawKey Try.underlying44 (by unfold maxLen; omega) (keyk_ok hk) (PE_some (g := g))
  refine ⟨w', r1, ⟨_, r2, fun j hj => ?_⟩, r3⟩
  dsimp only
  have hkey : WideAt.IsKeyLit (KK k) := lawKey.key (keyk_ok hk)
  by_cases e : j = k
  · subst e
    rw [if_pos rfl]
    exact ⟨by rw [Maps.has_put_same h1.isMap hkey]; rfl, fun g' hg' => by cases hg'; rw [Maps.atKey_put_same h1.isMap hkey]⟩
  · rw [if_neg e, Maps.has_put_other (fun h => e (KK_inj hj hk h)), Maps.atKey_put_other (fun h => e (KK_inj hj hk h))]
    exact h2 j hj
end Go.Proofs.Ytkmcmngdainofaa
