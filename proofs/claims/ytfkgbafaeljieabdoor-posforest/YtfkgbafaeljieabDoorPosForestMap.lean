/- A map from spots to places, made by the call. -/
import Derived.Test.YtfkgbafaeljieabDoorPosSpotRow
import Derived.Test.YtfkgbafaeljieabDoorPosHas
import Derived.Maps.OwnSet
import Derived.DeepKeys4
namespace Go.Proofs.YtfkgbafaeljieabDoor
open Go.RowKit Go.Maps

theorem laidOutP : laidOutB Tryd.prog = true := by kernel_rfl
theorem rowSpot : (26 : TypeId) < Tryd.prog.types.size := of_decide_eq_true (by kernel_rfl)
theorem wideSpot : (match Tryd.prog.underlying 26 with | some (.array _ _) | some (.struct _) => true | _ => false) = true := by rw [Tryd.underlying26]
theorem law : Keyed Tryd.prog 26 := Keyed.of_law (deep_law_laid laidOutP (m := 2) (by omega) rowSpot (by kernel_rfl) wideSpot)
theorem zeroE (w : World) : (zeroValue 24).run Tryd.prog w = .ok (.int .u64 0) w := by kernel_rfl
/-- what a spot reads as, as a key. -/
def KL (h k : Nat) : Lit := .string (keyBytes [.int .u8 (h : Int), .int .u64 (k : Int)])
theorem key_ok {h k : Nat} (hh : h < 256) (hk : k < 2 ^ 64) : keyOf Tryd.prog 26 (SPOT h k) = some (KL h k) := by
  have w0 : (Lit.int .u8 (h : Int)).wf = true := WalkArith.wf_u8 (by omega)
  have w1 : (Lit.int .u64 (k : Int)).wf = true := WalkArith.wf_u64 (by omega)
  have c3 : Tryd.prog.cellsOf 26 = 2 := by kernel_rfl
  have c1 : Tryd.prog.cellsOf 5 = 1 := by kernel_rfl
  have c2 : Tryd.prog.cellsOf 24 = 1 := by kernel_rfl
  have ht : Tryd.prog.keyType 26 = true := by kernel_rfl
  have hf : (SPOT h k).formed Tryd.prog 26 = true := by simp [Value.formed, Tryd.underlying26, c3]
  obtain ⟨m, hm⟩ : ∃ m, Tryd.prog.types.size = m + 1 := ⟨Tryd.prog.types.size - 1, (Nat.succ_pred_eq_of_pos (Nat.lt_of_le_of_lt (Nat.zero_le _) rowSpot)).symm⟩
  unfold keyOf
  simp only [Tryd.underlying26, ht, hf, hm]
  simp [Program.keyLits, Tryd.underlying26, Tryd.underlying5, Tryd.underlying24, c1, c2, c3, Value.cells, w0, w1, KL]
theorem KL_inj {h k h' k' : Nat} (hh : h < 256) (hk : k < 2 ^ 64) (hh' : h' < 256) (hk' : k' < 2 ^ 64) (e : KL h k = KL h' k') : h = h' ∧ k = k' := by
  have h1 := key_ok hh hk
  have h2 := key_ok hh' hk'
  rw [← e] at h2
  have := law.inj h1 h2
  simp at this
  omega
/-- a number as a datum. -/
abbrev U64 (n : Nat) : DataW Unit := .lit (.int .u64 (n : Int))
/-- the map holds just the nodes ahead of m, each with its place. -/
def MapOk (D : DataW Unit) (m : Nat) : Prop := ∀ h k, h < 256 → k < 2 ^ 64 → (Maps.has D (KL h k) = true ↔ Node h k ∧ PLC h k < m) ∧ (Node h k → PLC h k < m → D.atKey (KL h k) (U64 0) = U64 (PLC h k))
theorem MapOk.none : MapOk (.map []) 0 := fun h k _ _ => ⟨⟨fun e => by simp [Maps.has] at e, fun e => by omega⟩, fun _ e => by omega⟩
theorem Node.small {h k : Nat} (a : Node h k) : h < 256 ∧ k < 2 ^ 64 := ⟨by have := a.1; omega, by have := a.index_lt; omega⟩
theorem MapOk.put {D : DataW Unit} {m h k : Nat} (hD : Maps.IsMap D) (hM : MapOk D m) (hN : Node h k) (hp : PLC h k = m) : MapOk (D.put (KL h k) (U64 m)) (m + 1) := by
  intro h' k' hh' hk'
  obtain ⟨hh, hk⟩ := hN.small
  have hkey : WideAt.IsKeyLit (KL h k) := law.key (key_ok hh hk)
  by_cases e : KL h' k' = KL h k
  · obtain ⟨rfl, rfl⟩ := KL_inj hh' hk' hh hk e
    exact ⟨⟨fun _ => ⟨hN, by omega⟩, fun _ => Maps.has_put_same hD hkey _⟩, fun _ _ => by rw [Maps.atKey_put_same hD hkey, hp]⟩
  · have hne : ∀ _ : Node h' k', PLC h' k' ≠ m := fun hN' e2 => e (by obtain ⟨rfl, rfl⟩ := hN'.one hN (by omega); rfl)
    rw [Maps.has_put_other e, Maps.atKey_put_other e]
    obtain ⟨a, b⟩ := hM h' k' hh' hk'
    refine ⟨⟨fun h => ?_, fun h => ?_⟩, fun h1 h2 => b h1 (by have := hne h1; omega)⟩
    · have := a.1 h
      exact ⟨this.1, by omega⟩
    · exact a.2 ⟨h.1, by have := hne h.1; omega⟩
/-- block b is such a map. -/
def Placed (w : World) (b m : Nat) : Prop := ∃ D : DataW Unit, w.ownsMap Tryd.prog 26 (plainElem Tryd.prog 24) b m D ∧ MapOk D m
theorem Placed.made (w : World) : Placed (w.alloc (.map #[] 0)) w.heap.size 0 := ⟨_, World.ownsMap_made w _ _ _, MapOk.none⟩
theorem Placed.kept {w w' : World} {b m : Nat} {row : Option Nat} (h : Placed w b m) (hg : w.grownBy w' row) (hne : some b ≠ row) : Placed w' b m := let ⟨D, h1, h2⟩ := h; ⟨D, h1.kept hg hne, h2⟩
theorem Placed.lt {w : World} {b m : Nat} (h : Placed w b m) : b < w.heap.size := let ⟨_, h1, _⟩ := h; h1.lt
theorem Placed.below {w w' : World} {b m : Nat} (h : Placed w b m) (hb : Below w.heap.size w w') : Placed w' b m := by
  have hlt := h.lt
  obtain ⟨D, ⟨es, clock, h1, r⟩, h2⟩ := h
  exact ⟨D, ⟨es, clock, (hb.block b hlt).trans h1, r⟩, h2⟩
theorem Placed.alloc {w : World} {b m : Nat} (h : Placed w b m) (o : Obj) : Placed (w.alloc o) b m := h.below ((Below.refl _ _).alloc (Nat.le_refl _) _)
theorem Placed.setCell {w : World} {b m : Nat} (h : Placed w b m) {a : Addr} (ha : b ≠ a.block) (u : Value) : Placed (w.setCell a u) b m := let ⟨D, h1, h2⟩ := h; ⟨D, h1.setCell ha u, h2⟩
theorem Placed.store {w : World} {b m h k : Nat} (hP : Placed w b m) (hm : m ≤ 1000) (hN : Node h k) (hp : PLC h k = m) : ∃ w', (Instr.mapUpdate 23 (.map (some b)) (SPOT h k) (.int .u64 (m : Int))).run Tryd.prog w = .ok () w' ∧ Placed w' b (m + 1) ∧ w.grownBy w' (some b) := by
  obtain ⟨D, h1, h2⟩ := hP
  obtain ⟨hh, hk⟩ := hN.small
  obtain ⟨w', r1, r2, r3⟩ := h1.update law Tryd.underlying23 (by unfold maxLen; omega) (key_ok hh hk) (plainElem_int Tryd.underlying24 (WalkArith.wf_u64 (n := (m : Int)) (by omega)))
  exact ⟨w', r1, ⟨_, r2, h2.put h1.isMap hN hp⟩, r3⟩
theorem Placed.look {w : World} {b m h k : Nat} (hP : Placed w b m) (hN : Node h k) (hp : PLC h k < m) : (Instr.lookup 23 (.map (some b)) (SPOT h k) false).run Tryd.prog w = .ok (.int .u64 ((PLC h k : Nat) : Int)) w := by
  obtain ⟨D, h1, h2⟩ := hP
  obtain ⟨hh, hk⟩ := hN.small
  obtain ⟨c, r1, r2, _⟩ := h1.lookup_int law Tryd.underlying23 Tryd.underlying24 (zeroE w) (key_ok hh hk)
  have := (h2 h k hh hk).2 hN hp
  rw [show (U64 0 : DataW Unit) = .lit (.int .u64 0) from rfl, r2] at this
  simp at this
  rw [r1, this]
theorem Placed.look_ok {w : World} {b m h k : Nat} (hP : Placed w b m) (hN : Node h k) : ∃ c : Int, (Instr.lookup 23 (.map (some b)) (SPOT h k) true).run Tryd.prog w = .ok (.tuple #[.int .u64 c, .bool (decide (PLC h k < m))]) w ∧ (PLC h k < m → c = ((PLC h k : Nat) : Int)) := by
  obtain ⟨D, h1, h2⟩ := hP
  obtain ⟨hh, hk⟩ := hN.small
  obtain ⟨v, ps, r1, r2⟩ := h1.look_ok law Tryd.underlying23 (zeroE w) (plainElem_int Tryd.underlying24 (by decide)) (key_ok hh hk)
  obtain ⟨c, rfl, hc, _⟩ := plainElem_int_inv Tryd.underlying24 r2
  have hb : Maps.has D (KL h k) = decide (PLC h k < m) := by
    rw [Bool.eq_iff_iff, (h2 h k hh hk).1]
    simp [hN]
  refine ⟨c, by rw [r1, hb], fun hp => ?_⟩
  have := (h2 h k hh hk).2 hN hp
  simp only [Prod.mk.injEq] at hc
  rw [show (U64 0 : DataW Unit) = .lit (.int .u64 0) from rfl, hc.1] at this
  simpa using this
end Go.Proofs.YtfkgbafaeljieabDoor
