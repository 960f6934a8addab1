/- A store of which one chunk was thinned. -/
import Derived.Test.YtkmcmngdainofaaStoreChunkThin
import Derived.Test.YtkmcmngdainofaaStoreChange
namespace Go.Proofs.Ytkmcmngdainofaa
open Go.RowKit Go.Maps
set_option maxRecDepth 100000

theorem CTHIN.changes {w w' : World} {B gc gr gone n cap : Nat} {st : Nat → Nat} {rs : List ROW} (hC : CHUNK w B gc rs) (hbx : Has w gc #[.slice (some ⟨gr, 0, none⟩) n cap] 70) (h : CTHIN w B gc gr st rs gone w') : ∃ rs', CHGS w B gc rs rs' w' ∧ (∀ p, LOOK rs' p = if (st (p / 64)).testBit (p % 64) = true then LOOK rs p else none) ∧ gone + SUMP rs' = SUMP rs := by
  obtain ⟨L, h1, h2, h3, h4, h5, ⟨cap', h6⟩, h7, h8, -⟩ := h
  refine ⟨LVS L, ⟨h1, fun q hq j hj hb => ?_, h5, fun v v' hv hv' => ?_, h7, fun b hb n1 n2 _ => h8 b hb n1 (fun e => n2 _ (hbx.cell 0) (by rw [e]; rfl))⟩, LOOK_thin hC.rise h2 h3, h4⟩
  · obtain ⟨k, hk⟩ := List.getElem?_of_mem (List.mem_filter.1 hq).1
    have hkl : k < rs.length := by have := (List.getElem?_eq_some_iff.1 hk).1; omega
    obtain ⟨r', a1, a2⟩ := h3 k rs[k] (List.getElem?_eq_getElem hkl)
    rw [hk] at a1
    cases a1
    refine ⟨rs[k], List.getElem_mem _, a2.num.symm, ?_⟩
    rw [a2.live] at hb
    exact stay_bits hb
  · rw [hbx.cell 0] at hv
    rw [h6] at hv'
    cases Option.some.inj hv
    cases Option.some.inj hv'
    exact .inl rfl
/-- the places that stay, by their rows' bits. -/
theorem BLW_place (n p : Nat) : (BLW n (p / 64)).testBit (p % 64) = decide (p < n) := by
  rw [BLW_bit (Nat.mod_lt _ (by decide))]
  congr 1
  rw [show p / 64 * 64 + p % 64 = p by omega]
/-- one chunk is cut at n. -/
theorem STORE.thinned {W W' : World} {B g log len alive N K gc gr gone n cap m : Nat} (al : Nat) {C : CHUNKS} {rs : List ROW} (hS : STORE W B g log len alive N C) (hK : C K = some (gc, rs)) (hbx : Has W gc #[.slice (some ⟨gr, 0, none⟩) m cap] 70) (h : CTHIN W B gc gr (BLW n) rs gone W') :
    ∃ rs', STORE (W'.setCell ⟨g, 2, none⟩ (.int .u64 (al : Int))) B g log len al N (WITH C K gc rs') ∧ (∀ p, AT (WITH C K gc rs') log p = if p / 2 ^ log = K ∧ n ≤ p then none else AT C log p) ∧ gone + SUMP rs' = SUMP rs ∧ STEP0 W (W'.setCell ⟨g, 2, none⟩ (.int .u64 (al : Int))) g C (WITH C K gc rs') := by
  obtain ⟨rs', c1, c2, c3⟩ := h.changes (hS.chunk K gc rs hK).2.1 hbx
  obtain ⟨d1, d2, d3, d4, d5⟩ := hS.change al hK c1
  refine ⟨rs', d1, fun p => ?_, c3, ⟨d2, d3, d5, fun i hi => d4 i (by omega)⟩⟩
  unfold AT
  by_cases e : p / 2 ^ log = K
  · rw [e, WITH_at, hK]
    show LOOK rs' p = if K = K ∧ n ≤ p then none else LOOK rs p
    rw [c2, BLW_place]
    by_cases hp : p < n
    · rw [if_pos (by simp [hp]), if_neg (by omega)]
    · rw [if_neg (by simp [hp]), if_pos ⟨rfl, by omega⟩]
  · rw [WITH_ne e, if_neg (fun x => e x.1)]
end Go.Proofs.Ytkmcmngdainofaa
