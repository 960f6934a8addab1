/- What a move makes of the document's loom. -/
import Derived.Test.YtmgocdjmjnkbmaaLoomRefRegions
import Derived.Laws.AppendOwn
namespace Go.Proofs.Ytmgocdjmjnkbmaa
open Go.RowKit
set_option maxRecDepth 100000

theorem rgauge_eq {s : LM} {R : RR} (hr : REL s R) : CNT (fun i => decide (0 ≤ R.jb i) && !R.gn i) R.W = GAUGE s := by
  rw [hr.W]
  refine CNT_congr s.W (fun i hi => ?_)
  rcases hr.ws i hi with ⟨q1, q2⟩ | ⟨q1, q2, q3⟩ | ⟨q1, q2, q3⟩
  · rw [q1, q2]
    cases decide (0 ≤ R.jb i) <;> rfl
  · rw [q1, q2, q3]
    rfl
  · rw [q2, q3, ISB_of q1]
    simp
/-- the queue, or what was gathered, has grown; the loom has not heard of it yet. -/
theorem rhalf_q {w w1 w2 : World} {B r bw cw : Nat} {vq vg : Value} {R : RR} (h : RAFTER w B r bw cw vq vg vq vg R w1) (g2 n c2 j : Nat) (ho : w2.ownsRow B 3 1 (.slice (some ⟨g2, 0, none⟩) n c2) (R.qs ++ [j]).length (ICELLS (R.qs ++ [j]))) (hg : w1.grownBy w2 vq.ownBlock) (h2 : vq.ownBlock = some g2 ∨ g2 = w1.heap.size) : w2.cell? ⟨r, 4, none⟩ = some vq ∧ w2.frozen? ⟨r, 4, none⟩ = false ∧ RAFTER w B r bw cw vq vg (.slice (some ⟨g2, 0, none⟩) n c2) vg { R with qs := R.qs ++ [j] } (w2.setCell ⟨r, 4, none⟩ (.slice (some ⟨g2, 0, none⟩) n c2)) := by
  obtain ⟨h1, hs⟩ := h
  have hlt := h1.lt
  have hk : ∀ k, k < w1.heap.size → vq.ownBlock ≠ some k → w2.heap[k]? = w1.heap[k]? := fun k hk hv => hg.block k hk (fun e => hv e.symm)
  have e1 := hk r hlt.1 h1.qr
  have e2 := hk bw hlt.2 h1.qw
  have hrow : Has w2 r (RC R bw cw vq vg) 49 := e1.trans h1.row
  have hnr : g2 ≠ r := fun e => by
    rcases h2 with h2 | h2
    · exact h1.qr (e ▸ h2)
    · omega
  have hnw : g2 ≠ bw := fun e => by
    rcases h2 with h2 | h2
    · exact h1.qw (e ▸ h2)
    · omega
  have hng : vg.ownBlock ≠ some g2 := fun e => by
    rcases h2 with h2 | h2
    · exact h1.qg g2 h2 e
    · have := (own_lt h1.og e).2
      omega
  refine ⟨hrow.cell 4, hrow.frozen 4, ?_⟩
  generalize hv2 : Value.slice (some ⟨g2, 0, none⟩) n c2 = v2 at *
  have hob : v2.ownBlock = some g2 := by rw [← hv2]; rfl
  have hst : ∀ k, k ≠ r → (w2.setCell ⟨r, 4, none⟩ v2).heap[k]? = w2.heap[k]? := fun k hk => Below.heap_setCell _ _ _ k hk
  have f2 := (hst bw (fun e => h1.ne e.symm)).trans e2
  obtain ⟨c, hc⟩ := h1.wk
  have hgk : ∀ k, vg.ownBlock = some k → (w2.setCell ⟨r, 4, none⟩ v2).heap[k]? = w1.heap[k]? := fun k e => (hst k (fun e' => h1.gr (e' ▸ e))).trans (hk k (own_lt h1.og e).2 (fun e' => h1.qg k e' e))
  refine ⟨⟨hrow.set 4 v2, ⟨c, f2.trans hc⟩, fun i hi => (World.cell?_of_block (w := w1) f2).trans (h1.jb i hi), fun i hi => (World.cell?_of_block (w := w1) f2).trans (h1.gn i hi), own_turn ho (fun k e => hst k (fun e' => by rw [hob] at e; cases e; exact hnr e')), own_turn h1.og hgk, h1.ne, ?_, ?_, h1.gr, h1.gw, ?_, h1.br, h1.bb⟩, ?_⟩
  · rw [hob]
    exact fun e => hnr (Option.some.inj e)
  · rw [hob]
    exact fun e => hnw (Option.some.inj e)
  · intro k e
    rw [hob] at e
    cases e
    exact hng
  · refine ⟨hg.os.trans hs.os, hg.tape.trans hs.tape, hg.output.trans hs.output, Nat.le_trans hs.size (Nat.le_trans hg.size (by simp [World.setCell])), fun k hkw hf => ?_, fun k hf => ?_⟩
    · exact ((hst k (fun e => hf (.inl e))).trans (hk k (Nat.lt_of_lt_of_le hkw hs.size) (fun e => hf (.inr (.inr (.inl e)))))).trans (hs.block k hkw hf)
    · rcases hf with hf | hf | hf | hf
      · exact .inl (.inl hf)
      · exact .inl (.inr (.inl hf))
      · rw [hob] at hf
        cases hf
        rcases h2 with h2 | h2
        · exact .inl (.inr (.inr (.inl h2)))
        · exact .inr (by have := hs.size; omega)
      · exact .inl (.inr (.inr (.inr hf)))
theorem rhalf_g {w w1 w2 : World} {B r bw cw : Nat} {vq vg : Value} {R : RR} (h : RAFTER w B r bw cw vq vg vq vg R w1) (g2 n c2 j : Nat) (ho : w2.ownsRow B 3 1 (.slice (some ⟨g2, 0, none⟩) n c2) (R.got ++ [j]).length (ICELLS (R.got ++ [j]))) (hg : w1.grownBy w2 vg.ownBlock) (h2 : vg.ownBlock = some g2 ∨ g2 = w1.heap.size) : w2.cell? ⟨r, 8, none⟩ = some vg ∧ w2.frozen? ⟨r, 8, none⟩ = false ∧ RAFTER w B r bw cw vq vg vq (.slice (some ⟨g2, 0, none⟩) n c2) { R with got := R.got ++ [j] } (w2.setCell ⟨r, 8, none⟩ (.slice (some ⟨g2, 0, none⟩) n c2)) := by
  obtain ⟨h1, hs⟩ := h
  have hlt := h1.lt
  have hk : ∀ k, k < w1.heap.size → vg.ownBlock ≠ some k → w2.heap[k]? = w1.heap[k]? := fun k hk hv => hg.block k hk (fun e => hv e.symm)
  have e1 := hk r hlt.1 h1.gr
  have e2 := hk bw hlt.2 h1.gw
  have hrow : Has w2 r (RC R bw cw vq vg) 49 := e1.trans h1.row
  have hnr : g2 ≠ r := fun e => by
    rcases h2 with h2 | h2
    · exact h1.gr (e ▸ h2)
    · omega
  have hnw : g2 ≠ bw := fun e => by
    rcases h2 with h2 | h2
    · exact h1.gw (e ▸ h2)
    · omega
  have hng : vq.ownBlock ≠ some g2 := fun e => by
    rcases h2 with h2 | h2
    · exact h1.qg g2 e h2
    · have := (own_lt h1.oq e).2
      omega
  refine ⟨hrow.cell 8, hrow.frozen 8, ?_⟩
  generalize hv2 : Value.slice (some ⟨g2, 0, none⟩) n c2 = v2 at *
  have hob : v2.ownBlock = some g2 := by rw [← hv2]; rfl
  have hst : ∀ k, k ≠ r → (w2.setCell ⟨r, 8, none⟩ v2).heap[k]? = w2.heap[k]? := fun k hk => Below.heap_setCell _ _ _ k hk
  have f2 := (hst bw (fun e => h1.ne e.symm)).trans e2
  obtain ⟨c, hc⟩ := h1.wk
  have hgk : ∀ k, vq.ownBlock = some k → (w2.setCell ⟨r, 8, none⟩ v2).heap[k]? = w1.heap[k]? := fun k e => (hst k (fun e' => h1.qr (e' ▸ e))).trans (hk k (own_lt h1.oq e).2 (fun e' => h1.qg k e e'))
  refine ⟨⟨hrow.set 8 v2, ⟨c, f2.trans hc⟩, fun i hi => (World.cell?_of_block (w := w1) f2).trans (h1.jb i hi), fun i hi => (World.cell?_of_block (w := w1) f2).trans (h1.gn i hi), own_turn h1.oq hgk, own_turn ho (fun k e => hst k (fun e' => by rw [hob] at e; cases e; exact hnr e')), h1.ne, h1.qr, h1.qw, ?_, ?_, ?_, h1.br, h1.bb⟩, ?_⟩
  · rw [hob]
    exact fun e => hnr (Option.some.inj e)
  · rw [hob]
    exact fun e => hnw (Option.some.inj e)
  · intro k e e'
    rw [hob] at e'
    cases e'
    exact hng e
  · refine ⟨hg.os.trans hs.os, hg.tape.trans hs.tape, hg.output.trans hs.output, Nat.le_trans hs.size (Nat.le_trans hg.size (by simp [World.setCell])), fun k hkw hf => ?_, fun k hf => ?_⟩
    · exact ((hst k (fun e => hf (.inl e))).trans (hk k (Nat.lt_of_lt_of_le hkw hs.size) (fun e => hf (.inr (.inr (.inr e)))))).trans (hs.block k hkw hf)
    · rcases hf with hf | hf | hf | hf
      · exact .inl (.inl hf)
      · exact .inl (.inr (.inl hf))
      · exact .inl (.inr (.inr (.inl hf)))
      · rw [hob] at hf
        cases hf
        rcases h2 with h2 | h2
        · exact .inl (.inr (.inr (.inr h2)))
        · exact .inr (by have := hs.size; omega)
/-- the same, told of the loom t, one move counted. -/
abbrev REL1 (t : LM) (R : RR) : Prop := REL { t with made := t.made + 1 } R
end Go.Proofs.Ytmgocdjmjnkbmaa
