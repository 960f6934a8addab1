/- The map from places to how many pins they have. -/
import Derived.Test.YtkmcmngdainofaaStorePush
namespace Go.Proofs.Ytkmcmngdainofaa
open Go.RowKit Go.Maps
set_option maxRecDepth 100000

theorem lawPin : Keyed Try.prog 29 := int_keyed Try.underlying29
/-- a place as a key. -/
abbrev PK (p : Nat) : Lit := .int .u64 (p : Int)
theorem pk_wf {p : Nat} (hp : p < 2 ^ 64) : (PK p).wf = true := WalkArith.wf_u64 (by omega)
theorem pk_ok {p : Nat} (hp : p < 2 ^ 64) : keyOf Try.prog 29 (.int .u64 (p : Int)) = some (PK p) := keyOf_int_mk Try.underlying29 (pk_wf hp)
theorem zeroInt (w : World) : (zeroValue 3).run Try.prog w = .ok (.int .i64 0) w := by kernel_rfl
/-- a count as a datum. -/
abbrev ID (n : Nat) : DataW Unit := .lit (.int .i64 (n : Int))
/-- the map has for each place how many pins it has, and none that has none. -/
def PinMap (w : World) (b n : Nat) (P : Nat → Nat) : Prop := ∃ D : DataW Unit, w.ownsMap Try.prog 29 (plainElem Try.prog 3) b n D ∧ ∀ p, p < 2 ^ 64 → (Maps.has D (PK p) = true ↔ P p ≠ 0) ∧ D.atKey (PK p) (ID 0) = ID (P p)
theorem PinMap.made (w : World) : PinMap (w.alloc (.map #[] 0)) w.heap.size 0 (fun _ => 0) := ⟨_, World.ownsMap_made w _ _ _, fun p _ => ⟨by simp [Maps.has], Maps.atKey_of_not_has (D := DataW.map []) (k := PK p) (by simp [Maps.has]) _⟩⟩
theorem PinMap.lt {w : World} {b n : Nat} {P : Nat → Nat} (h : PinMap w b n P) : b < w.heap.size := let ⟨_, h1, _⟩ := h; h1.lt
theorem PinMap.at {w w' : World} {b n : Nat} {P : Nat → Nat} (h : PinMap w b n P) (hb : w'.heap[b]? = w.heap[b]?) : PinMap w' b n P := by
  obtain ⟨D, ⟨es, clock, h1, r⟩, h2⟩ := h
  exact ⟨D, ⟨es, clock, hb.trans h1, r⟩, h2⟩
theorem PinMap.look {w : World} {b n p : Nat} {P : Nat → Nat} (h : PinMap w b n P) (hp : p < 2 ^ 64) : (Instr.lookup 45 (.map (some b)) (.int .u64 (p : Int)) false).run Try.prog w = .ok (.int .i64 ((P p : Nat) : Int)) w := by
  obtain ⟨D, h1, h2⟩ := h
  obtain ⟨c, r1, r2, _⟩ := h1.lookup_int lawPin Try.underlying45 Try.underlying3 (zeroInt w) (pk_ok hp)
  have := (h2 p hp).2
  rw [show (ID 0 : DataW Unit) = .lit (.int .i64 0) from rfl, r2] at this
  simp at this
  rw [r1, this]
theorem look_nopins {p : Nat} (hp : p < 2 ^ 64) (w : World) : (Instr.lookup 45 (.map none) (.int .u64 (p : Int)) false).run Try.prog w = .ok (.int .i64 0) w := by
  have hc := lawPin.check w true (pk_ok hp)
  rcases lawPin.find w (pk_ok hp) [] (fun e he => by cases he) with ⟨hf, _⟩ | ⟨j, e, _, he, _⟩
  · simp [Instr.lookup, run_underlying Try.underlying45, hc, hf]
  · simp at he
theorem PinMap.store {w : World} {b n p v : Nat} {P : Nat → Nat} (h : PinMap w b n P) (hn : n < 2 ^ 40) (hp : p < 2 ^ 64) (hv : v < 2 ^ 62) (hv0 : v ≠ 0) : ∃ w', (Instr.mapUpdate 45 (.map (some b)) (.int .u64 (p : Int)) (.int .i64 (v : Int))).run Try.prog w = .ok () w' ∧ PinMap w' b (n + 1) (fun j => if j = p then v else P j) ∧ w.grownBy w' (some b) := by
  obtain ⟨D, h1, h2⟩ := h
  obtain ⟨w', r1, r2, r3⟩ := h1.update lawPin Try.underlying45 (by unfold maxLen; omega) (pk_ok hp) (plainElem_int Try.underlying3 (WalkArith.wf_i64 (n := (v : Int)) (by omega)))
  refine ⟨w', r1, ⟨_, r2, fun j hj => ?_⟩, r3⟩
  dsimp only
  have hkey : WideAt.IsKeyLit (PK p) := lawPin.key (pk_ok hp)
  by_cases e : j = p
  · subst e
    rw [if_pos rfl]
    exact ⟨⟨fun _ => hv0, fun _ => Maps.has_put_same h1.isMap hkey _⟩, by rw [Maps.atKey_put_same h1.isMap hkey]⟩
  · have hne : PK j ≠ PK p := fun h => e (by simp at h; omega)
    rw [if_neg e, Maps.has_put_other hne, Maps.atKey_put_other hne]
    exact h2 j hj
theorem PinMap.drop {w : World} {b n p : Nat} {P : Nat → Nat} (h : PinMap w b n P) (hp : p < 2 ^ 64) (ty : TypeId) : ∃ w', (Builtin.delete_ #[45, 29] ty #[.map (some b), .int .u64 (p : Int)]).run Try.prog w = .ok (.tuple #[]) w' ∧ PinMap w' b n (fun j => if j = p then 0 else P j) ∧ w.mapTurned w' b := by
  obtain ⟨D, h1, h2⟩ := h
  obtain ⟨w', r1, r2, r3⟩ := h1.drop lawPin Try.underlying45 (pk_ok hp) ty
  refine ⟨w', r1, ⟨_, r2, fun j hj => ?_⟩, r3⟩
  dsimp only
  by_cases e : j = p
  · subst e
    rw [if_pos rfl]
    exact ⟨by rw [Maps.has_del_same]; simp, by rw [Maps.atKey_del_same]⟩
  · have hne : PK j ≠ PK p := fun h => e (by simp at h; omega)
    rw [if_neg e, Maps.has_del_other hne, Maps.atKey_del_other hne]
    exact h2 j hj
end Go.Proofs.Ytkmcmngdainofaa
