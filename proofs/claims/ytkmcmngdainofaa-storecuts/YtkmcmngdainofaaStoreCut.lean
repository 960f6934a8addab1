/- Store.Cut of a store that has all its nodes. -/
import Derived.Test.YtkmcmngdainofaaStoreCutPlain
import Derived.Test.YtkmcmngdainofaaStoreHeld
import Derived.Maps.RangeWalk
import Derived.Laws.IdiomRangeMap
import Derived.BigQuiet
namespace Go.Proofs.Ytkmcmngdainofaa
open Go.RowKit Go.Maps
set_option maxRecDepth 100000

/-- the store while its chunks are thinned one by one: i of them are done. -/
def CUTI (w wx : World) (B g log len n N fi bn i : Nat) (kv : Value) (C : CHUNKS) : Prop := ∃ Ci al, STORE wx B g log len al N Ci ∧ ALV Ci log len al ∧ STEP w wx g C Ci ∧ (∀ p, AT Ci log p = if fi ≤ p / 2 ^ log ∧ p / 2 ^ log < fi + i ∧ n ≤ p then none else AT C log p) ∧ (∀ k, fi + i ≤ k → Ci k = C k) ∧ wx.cell? ⟨bn, 0, none⟩ = some (.int .u64 (n : Int)) ∧ ¬ FOOT wx g Ci bn ∧ bn ≠ g ∧ bn < wx.heap.size ∧ (∀ k, kv.ownBlock = some k → ¬ FOOT wx g Ci k ∧ k ≠ g ∧ k < wx.heap.size ∧ wx.heap[k]? = w.heap[k]?) ∧ OTO w wx
theorem CUTI.below {w wx w' : World} {B g log len n N fi bn i : Nat} {kv : Value} {C : CHUNKS} (h : CUTI w wx B g log len n N fi bn i kv C) (hb : Below wx.heap.size wx w') : CUTI w w' B g log len n N fi bn i kv C := by
  obtain ⟨Ci, al, h1, h2, h3, h4, h5, h6, h7, h8, h9, h10, h11⟩ := h
  refine ⟨Ci, al, h1.below hb, h2, h3.trans (STEP.below h1 hb), h4, h5, (hb.cell (p := ⟨bn, 0, none⟩) h9).trans h6, fun hf => h7 (h1.foot_below hb hf), h8, Nat.lt_of_lt_of_le h9 hb.size, fun k e => ?_, h11.trans (OTO.of_below hb)⟩
  obtain ⟨k1, k2, k3, k4⟩ := h10 k e
  exact ⟨fun hf => k1 (h1.foot_below hb hf), k2, Nat.lt_of_lt_of_le k3 hb.size, (hb.block k k3).trans k4⟩
/-- one chunk more. -/
theorem CUTI.next {w wx w' : World} {B g log len n N fi bn i : Nat} {kv : Value} {C Ci : CHUNKS} {al : Nat} {rs : List ROW} {gc : Nat} (h1 : STORE wx B g log len al N Ci) (h2 : ALV Ci log len al) (h3 : STEP w wx g C Ci) (h4 : ∀ p, AT Ci log p = if fi ≤ p / 2 ^ log ∧ p / 2 ^ log < fi + i ∧ n ≤ p then none else AT C log p) (h5 : ∀ k, fi + i ≤ k → Ci k = C k) (h6 : wx.cell? ⟨bn, 0, none⟩ = some (.int .u64 (n : Int))) (h7 : ¬ FOOT wx g Ci bn) (h8 : bn ≠ g) (h9 : bn < wx.heap.size) (h10 : ∀ k, kv.ownBlock = some k → ¬ FOOT wx g Ci k ∧ k ≠ g ∧ k < wx.heap.size ∧ wx.heap[k]? = w.heap[k]?) (h11 : OTO w wx)
    (hK : Ci (fi + i) = some (gc, rs)) (h : STHIN wx B g log len al N (fi + i) n Ci rs w') : CUTI w w' B g log len n N fi bn (i + 1) kv C := by
  obtain ⟨C', gone, rs', s1, s2, s3, s4, s5, s6, s7⟩ := h
  refine ⟨C', al - gone, s1, ALV.thin h1 s1 h2 hK s4 s5 (fun p hp => ?_), h3.trans s3, fun p => ?_, fun k hk => ?_, ?_, fun hf => ?_, h8, Nat.lt_of_lt_of_le h9 s3.size, fun k e => ?_, h11.trans s7⟩
  · rw [s2 p, if_neg (fun x => hp x.1)]
  · rw [s2 p, h4 p]
    by_cases e : p / 2 ^ log = fi + i ∧ n ≤ p
    · rw [if_pos e, if_pos ⟨by omega, by omega, e.2⟩]
    · rw [if_neg e]
      by_cases e2 : fi ≤ p / 2 ^ log ∧ p / 2 ^ log < fi + i ∧ n ≤ p
      · rw [if_pos e2, if_pos ⟨e2.1, by omega, e2.2.2⟩]
      · rw [if_neg e2, if_neg (fun x => by
          by_cases e3 : p / 2 ^ log = fi + i
          · exact e ⟨e3, x.2.2⟩
          · exact e2 ⟨x.1, by omega, x.2.2⟩)]
  · rw [s6 k (by omega), h5 k (by omega)]
  · exact (World.cell?_of_block (a := ⟨bn, 0, none⟩) (s3.same bn h9 h8 h7)).trans h6
  · rcases s3.foot bn hf with a | a
    · exact h7 a
    · omega
  · obtain ⟨k1, k2, k3, k4⟩ := h10 k e
    refine ⟨fun hf => ?_, k2, Nat.lt_of_lt_of_le k3 s3.size, (s3.same k k3 k2 k1).trans k4⟩
    rcases s3.foot k hf with a | a
    · exact k1 a
    · omega
/-- what Cut leaves where it goes through. -/
def CUTOK (w : World) (B g log n N : Nat) (C : CHUNKS) (w' : World) : Prop := ∃ C' al, STORE w' B g log n al N C' ∧ ALV C' log n al ∧ STEP w w' g C C' ∧ (∀ p, AT C' log p = if p < n then AT C log p else none) ∧ OTO w w'
theorem STEP.under {w w' : World} {B g log len alive N : Nat} {C C' : CHUNKS} (hS : STORE w B g log len alive N C) (hB : B ≤ g) (hBw : B ≤ w.heap.size) (h : STEP w w' g C C') (ho : OTO w w') : Below B w w' :=
  ⟨ho.1, ho.2.1, ho.2.2, h.size, fun b hb => h.same b (by omega) (by omega) (fun hf => by have := hS.foot_base hf; omega)⟩
/-- all chunks are thinned: the length is set back. -/
theorem CUTI.last {w wx : World} {B g log len n N fi la bn : Nat} {kv : Value} {C : CHUNKS} (h : CUTI w wx B g log len n N fi bn (la - fi + 1) kv C) (hS : STORE w B g log len len N C) (hn : n ≤ len) (hfi : n / 2 ^ log = fi) (hla : (len - 1) / 2 ^ log = la) (hfl : fi ≤ la) : wx.frozen? ⟨g, 1, none⟩ = false ∧ (∃ v, wx.cell? ⟨g, 1, none⟩ = some v) ∧ CUTOK w B g log n N C (wx.setCell ⟨g, 1, none⟩ (.int .u64 (n : Int))) := by
  obtain ⟨Ci, al, h1, h2, h3, h4, h5, h6, h7, h8, h9, h10, h11⟩ := h
  have hA : ∀ p, AT Ci log p = if p < n then AT C log p else none := fun p => by
    rw [h4 p]
    by_cases hp : p < n
    · rw [if_pos hp, if_neg (fun x => by omega)]
    · rw [if_neg hp]
      by_cases hl : len ≤ p
      · rw [hS.far hl]
        split <;> rfl
      · have e1 : fi ≤ p / 2 ^ log := by rw [← hfi]; exact Nat.div_le_div_right (by omega)
        have e2 : p / 2 ^ log ≤ la := by rw [← hla]; exact Nat.div_le_div_right (by omega)
        rw [if_pos ⟨e1, by omega, by omega⟩]
  have hnone : ∀ p, n ≤ p → AT Ci log p = none := fun p hp => by rw [hA p, if_neg (by omega)]
  obtain ⟨q1, q2⟩ := h1.relen n (by have := hS.short; omega) (h1.top_of hnone)
  exact ⟨h1.live 1 (by decide), ⟨_, h1.c1⟩, Ci, al, q1, h2.cut hn hnone, h3.trans q2, hA, h11.trans (OTO.cell _ _ _)⟩
end Go.Proofs.Ytkmcmngdainofaa
