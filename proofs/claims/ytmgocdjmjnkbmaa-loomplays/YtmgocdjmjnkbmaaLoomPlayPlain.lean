/- A play of picks, in plain data. -/
import Derived.Test.YtmgocdjmjnkbmaaLoomRun
import Derived.Test.YtmgocdjmjnkbmaaLoomDoor
namespace Go.Proofs.Ytmgocdjmjnkbmaa
open Go.RowKit
set_option maxRecDepth 100000

/-- the cancel comes ahead of the move t, where t is c. -/
def CAT (c : Int) (t : Nat) (s : LM) : LM := if (t : Int) = c then CANC s else s
/-- which of L moves is picked at t. -/
def REM (x : Int) (L : Nat) : Nat := (if x.tmod (L : Int) < 0 then x.tmod (L : Int) + (L : Int) else x.tmod (L : Int)).toNat
def PICK (P : List Int) (t L : Nat) : Nat := match P[t]? with | none => 0 | some x => REM x L
/-- a loom s is played from t on: behind the play it is s', at t'. -/
inductive PLD (P : List Int) (c : Int) : Nat → LM → Nat → LM → Prop
  | stop (t : Nat) (s : LM) (h : MVS (CAT c t s) = []) : PLD P c t s t (CAT c t s)
  | step (t : Nat) (s : LM) (m : MV) (t' : Nat) (s' : LM) (hm : (MVS (CAT c t s))[PICK P t (MVS (CAT c t s)).length]? = some m) (h : PLD P c (t + 1) (DO (CAT c t s) m) t' s') : PLD P c t s t' s'
theorem PLD.one {P : List Int} {c : Int} {t : Nat} {s : LM} {t1 : Nat} {s1 : LM} (h : PLD P c t s t1 s1) : ∀ {t2 : Nat} {s2 : LM}, PLD P c t s t2 s2 → t1 = t2 ∧ s1 = s2 := by
  induction h with
  | stop t s h0 =>
    intro t2 s2 h2
    cases h2 with
    | stop => exact ⟨rfl, rfl⟩
    | step _ _ m _ _ hm => rw [h0] at hm; cases hm
  | step t s m t' s' hm h ih =>
    intro t2 s2 h2
    cases h2 with
    | stop _ _ h0 => rw [h0] at hm; cases hm
    | step _ _ m2 _ _ hm2 h3 =>
      rw [hm] at hm2
      cases hm2
      exact ih h3
theorem REM_lt (x : Int) (L : Nat) (h : 0 < L) : REM x L < L := by
  have := rem_range x L h
  unfold REM
  split <;> omega
theorem REM_neg {x : Int} {L : Nat} (h : 0 < L) (hn : x.tmod (L : Int) < 0) : ((REM x L : Nat) : Int) = x.tmod (L : Int) + (L : Int) := by
  have := rem_range x L h
  unfold REM
  rw [if_pos hn]
  omega
theorem REM_pos {x : Int} {L : Nat} (hn : ¬ x.tmod (L : Int) < 0) : ((REM x L : Nat) : Int) = x.tmod (L : Int) := by
  unfold REM
  rw [if_neg hn]
  omega
theorem PICK_lt (P : List Int) (t L : Nat) (h : 0 < L) : PICK P t L < L := by
  unfold PICK
  split
  · exact h
  · exact REM_lt _ _ h
theorem PICK_none {P : List Int} {t : Nat} (L : Nat) (h : P.length ≤ t) : PICK P t L = 0 := by
  unfold PICK
  rw [List.getElem?_eq_none h]
theorem PICK_some {P : List Int} {t : Nat} {x : Int} (L : Nat) (h : P[t]? = some x) : PICK P t L = REM x L := by
  unfold PICK
  rw [h]
theorem inv_cat {s : LM} (h : INV s) (c : Int) (t : Nat) : INV (CAT c t s) := by
  unfold CAT
  split
  · exact inv_canc h
  · exact h
theorem cat_same (s : LM) (c : Int) (t : Nat) : (CAT c t s).W = s.W ∧ (CAT c t s).jobs = s.jobs ∧ (CAT c t s).room = s.room ∧ (CAT c t s).made = s.made := by
  unfold CAT
  split <;> exact ⟨rfl, rfl, rfl, rfl⟩
theorem inv_made {s : LM} (h : INV s) (hW : s.W ≤ 64) (hj : s.jobs ≤ 65536) : s.made ≤ 196673 := by
  have := made_most h
  split at this <;> omega
theorem STEP.grew {g gw : Nat} {va va1 v v' : Value} {w w1 w2 : World} (h : STEP g gw va va1 w w1) (hg : GREW w1 w2 v v') (hv : ∀ k, v.ownBlock = some k → w.heap.size ≤ k) : STEP g gw va va1 w w2 :=
  ⟨hg.os.trans h.os, hg.tape.trans h.tape, hg.output.trans h.output, Nat.le_trans h.size hg.size, fun k hk hf => (hg.block k (Nat.lt_of_lt_of_le hk h.size) (fun e => by have := hv k e; omega)).trans (h.block k hk hf), h.new⟩
/-- a list of one's own, cut down to nothing. -/
theorem own_zero {w : World} {C n k : Nat} {t : TypeId} {z : Nat} {a : Option Addr} {xs : List Value} (h : w.ownsRow C t z (.slice a n k) n xs) : w.ownsRow C t z (.slice a 0 k) 0 [] := by
  refine ⟨by simp, ?_⟩
  rcases h.2 with ⟨e, rfl⟩ | ⟨g, cap, cur, e, hg, hh, hn, hm, hc, hx⟩
  · cases e
    exact .inl ⟨rfl, rfl⟩
  · cases e
    exact .inr ⟨g, k, cur, rfl, hg, hh, Nat.zero_le _, hm, hc, by simp⟩
/-- a list that came in is none of the loom's. -/
theorem INTL.step {g gw : Nat} {va va' : Value} {w w' : World} {a : Option Addr} {L : List Int} (h : INTL w a L) (hs : STEP g gw va va' w w') (hn : 0 < L.length → ∀ b o, a = some ⟨b, o, none⟩ → ¬ FOOT g gw va b) : INTL w' a L := fun h0 => by
  obtain ⟨b, o, e, hl, hc⟩ := h h0
  exact ⟨b, o, e, Nat.lt_of_lt_of_le hl hs.size, fun i x hx => (World.cell?_of_block (w := w) (hs.block b hl (hn h0 b o e))).trans (hc i x hx)⟩
theorem INTL.rstep {w w' : World} {a : Option Addr} {L : List Int} (h : INTL w a L) (hs : 0 < L.length → ∀ k, k < w.heap.size → (∀ o, a = some ⟨k, o, none⟩ → w'.heap[k]? = w.heap[k]?)) (hsz : w.heap.size ≤ w'.heap.size) : INTL w' a L := fun h0 => by
  obtain ⟨b, o, e, hl, hc⟩ := h h0
  exact ⟨b, o, e, Nat.lt_of_lt_of_le hl hsz, fun i x hx => (World.cell?_of_block (w := w) (hs h0 b hl o e)).trans (hc i x hx)⟩
theorem INTL.at {w : World} {a : Option Addr} {L : List Int} (h : INTL w a L) {i : Nat} {x : Int} (hx : L[i]? = some x) : ∃ b o, a = some ⟨b, o, none⟩ ∧ w.cell? ⟨b, o + i, none⟩ = some (.int .i64 x) := by
  have hi := (List.getElem?_eq_some_iff.1 hx).1
  obtain ⟨b, o, e, _, hc⟩ := h (by omega)
  exact ⟨b, o, e, hc i x hx⟩
theorem remainder_ok (x : Int) (L : Nat) (h0 : 0 < L) (h1 : L ≤ 100000) (w : World) : Calls Try.prog 23 #[.int .i64 x, .int .i64 (L : Int)] w fun e w' => e = .returned (.int .i64 (REM x L : Int)) ∧ w = w' := by
  have hr := rem_range x L h0
  have hL : ¬ (L : Int) = 0 := by omega
  by_cases hn : x.tmod (L : Int) < 0
  · rw [REM_neg h0 hn]
    go_enter Try.func23, Try.ntmps23
    go_wp2
    go_ret
    exact ⟨rfl, rfl⟩
  · rw [REM_pos hn]
    go_enter Try.func23, Try.ntmps23
    go_wp2
    go_ret
    exact ⟨rfl, rfl⟩
end Go.Proofs.Ytmgocdjmjnkbmaa
