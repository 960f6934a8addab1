/- The same numbers in a list of one's own that goes on behind them; a pair of looms, and such a list beside it. -/
import Derived.Test.YtmgocdjmjnkbmaaLoomPairs
import Derived.Test.YtmgocdjmjnkbmaaLoomPlay
import Derived.Test.YtmgocdjmjnkbmaaLoomRefPlay
import Derived.Laws.AppendOwnNone
namespace Go.Proofs.Ytmgocdjmjnkbmaa
open Go.RowKit
set_option maxRecDepth 100000

def ZCELLS (l : List Int) : List Value := l.map (.int .i64 ·)
theorem ZCELLS_length (l : List Int) : (ZCELLS l).length = l.length := by simp [ZCELLS]
/-- numbers are appended. -/
theorem app_zs {ops : Array Oper} {rest : List Oper} {o : Oper} {a : Act} {Q : Exit → Act → World → Prop} (w : World) (hgd : o.guard = none) (s x : Operand)
    (ho : o.op = .call { callee := .builtin .append, args := #[s, x], argTypes := #[22, 22] })
    (base : Nat) (v : Value) (n : Nat) (xs : List Value) (hs : a.eval s = v) (hown : w.ownsRow base 3 1 v n xs)
    (ad : Option Addr) (m c : Nat) (L : List Int) (hx : a.eval x = .slice ad m c) (hL : INTL w ad L) (hl : L.length = m) (hc : ad = none → c = 0)
    (hb : n + m ≤ 100000) (hbase : base ≤ w.heap.size)
    (hh : ∀ a' c' w', w'.ownsRow base 3 1 (.slice a' (n + m) c') (n + m) (xs ++ ZCELLS L) → w.grownBy w' v.ownBlock → wpList Try.prog ops Q rest (a.put o.dst (.slice a' (n + m) c')) w') : wpList Try.prog ops Q (o :: rest) a w := by
  obtain ⟨i, hi, hz, hs1, hby⟩ := info_parts info_int13
  cases ad with
  | none =>
    obtain rfl := hc rfl
    have hL0 : L = [] := by
      cases L with
      | nil => rfl
      | cons y l =>
        obtain ⟨b, o', e, _⟩ := hL (by simp)
        cases e
    subst hL0
    obtain rfl : m = 0 := by simpa using hl.symm
    refine wpList_append_own_none hgd s x 22 ho base 3 i 1 Try.underlying22 hi v n xs hs hown hx ?_
    obtain ⟨a', c', rfl, _⟩ := own_slice hown
    have := hh a' c' w (by simpa [ZCELLS] using hown) ⟨rfl, rfl, rfl, Nat.le_refl _, fun _ _ _ => rfl⟩
    simpa using this
  | some ad =>
    have hcells : ∀ j u, (ZCELLS L)[j]? = some u → w.cell? (ad.add j) = some u := by
      intro j u hu
      have hj : j < L.length := by have := (List.getElem?_eq_some_iff.1 hu).1; rwa [ZCELLS_length] at this
      obtain ⟨g, o', e, _, hr⟩ := hL (by omega)
      cases e
      rw [addr_add13, hr j _ (List.getElem?_eq_getElem hj)]
      rw [ZCELLS, List.getElem?_map, List.getElem?_eq_getElem hj] at hu
      exact hu
    refine wpList_append_own w hgd s x 22 ho base 3 i (.int .i64 0) 1 8 Try.underlying22 hi hz hs1 hby rfl (by decide) v n xs hs hown ad m c (ZCELLS L) hx (by rw [ZCELLS_length]; omega) hcells (fun u hu => by
      obtain ⟨y, _, rfl⟩ := List.mem_map.1 hu
      rfl) (by simp only [maxLen]; omega) (by omega) hbase ?_
    intro v' w' h1 h2 _
    obtain ⟨a', c', rfl, _⟩ := own_slice h1
    exact hh a' c' w' h1 h2
/-- the mark behind them. -/
theorem app_mark {ops : Array Oper} {rest : List Oper} {o : Oper} {a : Act} {Q : Exit → Act → World → Prop} (w : World) (hgd : o.guard = none) (s x : Operand)
    (ho : o.op = .call { callee := .builtin .append, args := #[s, x], argTypes := #[22, 22] })
    (base : Nat) (v : Value) (n : Nat) (xs : List Value) (hs : a.eval s = v) (hown : w.ownsRow base 3 1 v n xs)
    (b c : Nat) (m : Int) (hx : a.eval x = .slice (some ⟨b, 0, none⟩) 1 c) (hc0 : w.cell? ⟨b, 0, none⟩ = some (.int .i64 m))
    (hb : n ≤ 100000) (hbase : base ≤ w.heap.size)
    (hh : ∀ g cap w', w'.ownsRow base 3 1 (.slice (some ⟨g, 0, none⟩) (n + 1) cap) (n + 1) (xs ++ [.int .i64 m]) → w.grownBy w' v.ownBlock → (v.ownBlock = some g ∨ w.heap.size ≤ g) → wpList Try.prog ops Q rest (a.put o.dst (.slice (some ⟨g, 0, none⟩) (n + 1) cap)) w') : wpList Try.prog ops Q (o :: rest) a w := by
  obtain ⟨i, hi, hz, hs1, hby⟩ := info_parts info_int13
  refine wpList_append_lies w hgd s x 22 ho base 3 i _ 1 8 Try.underlying22 hi hz hs1 hby rfl (by decide) v n xs hs hown ⟨b, 0, none⟩ 1 c [.int .i64 m] hx rfl ?_ (fun u hu => by simp at hu; rw [hu]; rfl) (by decide) (by simp only [maxLen]; omega) (by omega) hbase w.heap.size rfl ?_
  · intro j u hj
    rw [addr_add13]
    match j, hj with
    | 0, hj =>
      simp only [List.getElem?_cons_zero, Option.some.injEq] at hj
      subst hj
      exact hc0
    | j + 1, hj => simp at hj
  · intro g cap w' h1 h2 h3 h4
    exact hh g cap w' h1 h2 (h3.imp id (fun e => by omega))
theorem own_noint (w : World) (C : Nat) (hC : C ≤ w.heap.size) : (w.alloc (.cells #[] 3)).ownsRow C 3 1 (.slice (some ⟨w.heap.size, 0, none⟩) 0 0) 0 [] :=
  World.ownsRow_lit w #[] 0 hC (by simp [maxLen]) rfl
/-- numbers in a list of one's own: they lie there, the mark behind them, room for it. -/
theorem own_marked {w : World} {base g n cap : Nat} {L : List Int} {x : Int} (hl : L.length = n) (h : w.ownsRow base 3 1 (.slice (some ⟨g, 0, none⟩) (n + 1) cap) (n + 1) (ZCELLS L ++ [.int .i64 x])) : base ≤ g ∧ n + 1 ≤ cap ∧ w.cell? ⟨g, n, none⟩ = some (.int .i64 x) ∧ g < w.heap.size ∧ ∀ i y, L[i]? = some y → w.cell? ⟨g, i, none⟩ = some (.int .i64 y) := by
  have hr : w.cell? ⟨g, n, none⟩ = some (.int .i64 x) := by
    rw [h.cellAt n (by omega), List.getElem?_append_right (by rw [ZCELLS_length]; omega), ZCELLS_length, hl, Nat.sub_self]
    rfl
  have hb := h.lt g rfl
  refine ⟨hb.1, ?_, hr, hb.2, fun i y hy => ?_⟩
  · rcases h.2 with ⟨e, _⟩ | ⟨g', cap', cur, e, _, _, h1, _⟩
    · cases e
    · cases e
      exact h1
  · have hi : i < L.length := (List.getElem?_eq_some_iff.1 hy).1
    rw [h.cellAt i (by omega), List.getElem?_append_left (by rw [ZCELLS_length]; exact hi), ZCELLS, List.getElem?_map, hy]
    rfl
/-- a pair of looms, and a block o of one's own at b beside it. -/
def KP (w0 : World) (g r b : Nat) (o : Obj) (s t : LM) (w : World) : Prop := ∃ F, PR w0.heap.size g r s t F w ∧ ¬ F b ∧ w.heap[b]? = some o ∧ Below w0.heap.size w0 w ∧ PINV s ∧ PINV t
theorem KP.below {w0 w : World} {g r b : Nat} {o : Obj} {s t : LM} (h : KP w0 g r b o s t w) : Below w0.heap.size w0 w := by
  obtain ⟨F, h1, h2, h3, h4, h5⟩ := h
  exact h4
theorem KP.obj {w0 w : World} {g r b : Nat} {o : Obj} {s t : LM} (h : KP w0 g r b o s t w) : w.heap[b]? = some o := by
  obtain ⟨F, h1, h2, h3, h4, h5⟩ := h
  exact h3
theorem KP.on {w0 w w' : World} {g r b : Nat} {o : Obj} {s t : LM} (h : KP w0 g r b o s t w) (hb : Below w.heap.size w w') : KP w0 g r b o s t w' := by
  obtain ⟨F, h1, h2, h3, h4, h5⟩ := h
  exact ⟨F, h1.turn (fun k hk => hb.block k (h1.lt hk).2), h2, (hb.block b (Array.getElem?_eq_some_iff.1 h3).1).trans h3, h4.trans (hb.mono h4.size), h5⟩
theorem KP.both {w0 w : World} {g r b : Nat} {o : Obj} {s t : LM} (h : KP w0 g r b o s t w) : BOTH w0 g r s t w := by
  obtain ⟨F, ⟨gw, va, bw, cw, vq, vg, R, a1, a2, a3, a4, a5⟩, h2, h3, h4, h5, h6⟩ := h
  exact ⟨⟨gw, va, bw, cw, vq, vg, R, a1, a2, a3, a4⟩, h4, h5.1, h5.2.1, h5.2.2, h6.1, h6.2.1, h6.2.2⟩
theorem KP.step {w0 w w' : World} {g r b : Nat} {o : Obj} {s t s1 t1 : LM} {F F1 : Nat → Prop} (h1 : PR w0.heap.size g r s t F w) (h2 : ¬ F b) (h3 : w.heap[b]? = some o) (h4 : Below w0.heap.size w0 w) (hp : PR w0.heap.size g r s1 t1 F1 w') (hs : PS F F1 w w') (p : PINV s1 ∧ PINV t1) : KP w0 g r b o s1 t1 w' := by
  have hlt := (Array.getElem?_eq_some_iff.1 h3).1
  refine ⟨F1, hp, fun e => ?_, (hs.block b hlt h2).trans h3, ⟨hs.os.trans h4.os, hs.tape.trans h4.tape, hs.output.trans h4.output, Nat.le_trans h4.size hs.size, fun k hk => (hs.block k (by have := h4.size; omega) (fun e => by have := (h1.lt e).1; omega)).trans (h4.block k hk)⟩, p⟩
  rcases hs.new b e with x | x
  · exact h2 x
  · omega
/-- both looms, and a list that was made beside them. -/
theorem kp_of {w0 w : World} {g r b : Nat} {o : Obj} {s t : LM} {w1 : World} (h : BOTH w0 g r s t w) (hb : Below w.heap.size w w1) (hlt : w.heap.size ≤ b) (ho : w1.heap[b]? = some o) : KP w0 g r b o s t w1 := by
  obtain ⟨gw, va, bw, cw, vq, vg, R, a1, a2, a3, a4⟩ := h.two
  refine ⟨fun k => FOOT g gw va k ∨ RFOOT r bw vq vg k, ⟨gw, va, bw, cw, vq, vg, R, a1.below hb, a2.below hb, a3, a4, fun k => Iff.rfl⟩, fun e => ?_, ho, h.below.trans (hb.mono h.below.size), ⟨h.inv, h.few, h.jobs⟩, ⟨h.inv', h.few', h.jobs'⟩⟩
  rcases e with e | e
  · have := (a1.foot_lt e).2
    omega
  · have := (a2.foot e).2
    omega
theorem k_lplay {w0 w : World} {g r b : Nat} {o : Obj} {s t : LM} (h : KP w0 g r b o s t w) (P : List Int) (p : Option Addr) (np cp : Nat) (c : Int) (hP : P.length = np) (hI : INTL w p P) (hw : ∀ x ∈ P, (Lit.int .i64 x).wf = true) (hf : 0 < P.length → ∀ b' o', p = some ⟨b', o', none⟩ → b' = b ∨ b' < w0.heap.size) : Calls Try.prog 8 #[.pointer (some ⟨g, 0, none⟩), .slice p np cp, .int .i64 c] w fun e w' => ∃ t' s', e = .returned (.int .i64 ((t' : Nat) : Int)) ∧ PLD P c 0 s t' s' ∧ KP w0 g r b o s' t w' := by
  obtain ⟨F, hpr, h2, h3, h4, hi, hi'⟩ := h
  have hpr' := hpr
  obtain ⟨gw, va, bw, cw, vq, vg, R, a1, a2, a3, a4, a5⟩ := hpr
  refine (play_ok a1 hi.1 hi.2.1.2 hi.2.2 P p np cp c hP hI hw (fun h0 b' o' e hk => ?_)).mono ?_
  · rcases hf h0 b' o' e with x | x
    · subst x
      exact h2 ((a5 b').2 (.inl hk))
    · have := (a1.foot_lt hk).1
      omega
  · rintro e w' ⟨t', s', va', rfl, q1, ha, q3, q4, q5, _⟩
    refine ⟨t', s', rfl, q1, KP.step hpr' h2 h3 h4 (F1 := fun k => FOOT g gw va' k ∨ RFOOT r bw vq vg k) ⟨gw, va', bw, cw, vq, vg, R, ha.1, a2.turn fun k hk => ha.2.block k (a2.foot hk).2 (fun e => a4 k e hk), a3, fun k hk hr => ?_, fun k => Iff.rfl⟩ ⟨ha.2.os, ha.2.tape, ha.2.output, ha.2.size, fun k hk hf => ha.2.block k hk (fun e => hf ((a5 k).2 (.inl e))), fun k hk => ?_⟩ ⟨⟨q3, by rw [q4]; exact hi.2.1, by rw [q5]; exact hi.2.2⟩, hi'⟩⟩
    · rcases ha.2.new k hk with e | e
      · exact a4 k e hr
      · have := (a2.foot hr).2
        omega
    · rcases hk with hk | hk
      · exact (ha.2.new k hk).imp (fun e => (a5 k).2 (.inl e)) id
      · exact .inl ((a5 k).2 (.inr hk))
theorem k_rplay {w0 w : World} {g r b : Nat} {o : Obj} {s t : LM} (h : KP w0 g r b o s t w) (P : List Int) (p : Option Addr) (np cp : Nat) (c : Int) (hP : P.length = np) (hI : INTL w p P) (hf : 0 < P.length → ∀ b' o', p = some ⟨b', o', none⟩ → b' = b ∨ b' < w0.heap.size) : Calls Try.prog 9 #[.pointer (some ⟨r, 0, none⟩), .slice p np cp, .int .i64 c] w fun e w' => ∃ t' s', e = .returned (.int .i64 ((t' : Nat) : Int)) ∧ PLD P c 0 t t' s' ∧ KP w0 g r b o s s' w' := by
  obtain ⟨F, hpr, h2, h3, h4, hi, hi'⟩ := h
  have hpr' := hpr
  obtain ⟨gw, va, bw, cw, vq, vg, R, a1, a2, a3, a4, a5⟩ := hpr
  refine (rplay_ok a2 a3 hi'.1 hi'.2.1.2 hi'.2.2 P p np cp c hP hI (fun h0 b' o' e hk => ?_)).mono ?_
  · rcases hf h0 b' o' e with x | x
    · subst x
      exact h2 ((a5 b').2 (.inr hk))
    · have := (a2.foot hk).1
      omega
  · rintro e w' ⟨t', s', vq', vg', R', rfl, q1, ha, hr', q3, q4, q5⟩
    refine ⟨t', s', rfl, q1, KP.step hpr' h2 h3 h4 (F1 := fun k => FOOT g gw va k ∨ RFOOT r bw vq' vg' k) ⟨gw, va, bw, cw, vq', vg', R', a1.turn (fun k hk => ha.2.block k (a1.foot_lt hk).2 (a4 k hk)), ha.1, hr', fun k hk hr => ?_, fun k => Iff.rfl⟩ ⟨ha.2.os, ha.2.tape, ha.2.output, ha.2.size, fun k hk hf => ha.2.block k hk (fun e => hf ((a5 k).2 (.inr e))), fun k hk => ?_⟩ ⟨hi, ⟨q3, by rw [q4]; exact hi'.2.1, by rw [q5]; exact hi'.2.2⟩⟩⟩
    · rcases ha.2.new k hr with e | e
      · exact a4 k hk e
      · have := (a1.foot_lt hk).2
        omega
    · rcases hk with hk | hk
      · exact .inl ((a5 k).2 (.inl hk))
      · exact (ha.2.new k hk).imp (fun e => (a5 k).2 (.inr e)) id
/-- a move, or none, of a pair. -/
theorem b_lmv {w0 w : World} {g r : Nat} {s t : LM} (h : BOTH w0 g r s t w) (x : Int) : Calls Try.prog 6 #[.pointer (some ⟨g, 0, none⟩), .int .i64 x] w fun e w' => e = .returned (.int .i64 (ER13 s x)) ∧ BOTH w0 g r (MV13 s x) t w' := by
  by_cases hx : 0 ≤ x ∧ x.toNat < (MVS s).length
  · have e1 : ER13 s x = 0 := if_pos hx
    have e2 : MV13 s x = DO s (MVS s)[x.toNat] := dif_pos hx
    have c := b_lmove h x.toNat _ (List.getElem?_eq_getElem hx.2)
    rw [Int.toNat_of_nonneg hx.1] at c
    rw [e1, e2]
    exact c
  · have e1 : ER13 s x = 130 := if_neg hx
    have e2 : MV13 s x = s := dif_neg hx
    rw [e1, e2]
    exact b_lmove_not h x (by omega)
theorem b_rmv {w0 w : World} {g r : Nat} {s t : LM} (h : BOTH w0 g r s t w) (x : Int) : Calls Try.prog 7 #[.pointer (some ⟨r, 0, none⟩), .int .i64 x] w fun e w' => e = .returned (.int .i64 (ER13 t x)) ∧ BOTH w0 g r s (MV13 t x) w' := by
  by_cases hx : 0 ≤ x ∧ x.toNat < (MVS t).length
  · have e1 : ER13 t x = 0 := if_pos hx
    have e2 : MV13 t x = DO t (MVS t)[x.toNat] := dif_pos hx
    have c := b_rmove h x.toNat _ (List.getElem?_eq_getElem hx.2)
    rw [Int.toNat_of_nonneg hx.1] at c
    rw [e1, e2]
    exact c
  · have e1 : ER13 t x = 130 := if_neg hx
    have e2 : MV13 t x = t := dif_neg hx
    rw [e1, e2]
    exact b_rmove_not h x (by omega)
/-- the numbers of P lie in the block b, the mark behind them. -/
def MARKED (w : World) (b : Nat) (P : List Int) : Prop := b < w.heap.size ∧ w.cell? ⟨b, P.length, none⟩ = some (.int .i64 171) ∧ ∀ i y, P[i]? = some y → w.cell? ⟨b, i, none⟩ = some (.int .i64 y)
theorem MARKED.of {w w' : World} {b : Nat} {P : List Int} (h : MARKED w b P) (hb : w'.heap[b]? = w.heap[b]?) : MARKED w' b P := by
  refine ⟨?_, (World.cell?_of_block (w := w) (a := ⟨b, P.length, none⟩) hb).trans h.2.1, fun i y hy => (World.cell?_of_block (w := w) (a := ⟨b, i, none⟩) hb).trans (h.2.2 i y hy)⟩
  rw [Array.getElem?_eq_getElem h.1] at hb
  exact (Array.getElem?_eq_some_iff.1 hb).1
theorem MARKED.intl {w : World} {b : Nat} {P : List Int} (h : MARKED w b P) : INTL w (some ⟨b, 0, none⟩) P := fun _ => ⟨b, 0, rfl, h.1, fun i x hx => by rw [Nat.zero_add]; exact h.2.2 i x hx⟩
/-- the cancel, or none. -/
def CE13 (s : LM) : Int := if s.canc = true then 130 else 0
theorem b_lc {w0 w : World} {g r : Nat} {s t : LM} (h : BOTH w0 g r s t w) : Calls Try.prog 12 #[.pointer (some ⟨g, 0, none⟩)] w fun e w' => e = .returned (.int .i64 (CE13 s)) ∧ BOTH w0 g r (CANC s) t w' := by
  by_cases hc : s.canc = true
  · have e1 : CE13 s = 130 := if_pos hc
    have e2 : CANC s = s := by show { s with canc := true } = s; rw [← hc]
    rw [e1, e2]
    exact b_lcancel_not h hc
  · have e1 : CE13 s = 0 := if_neg hc
    rw [e1]
    exact b_lcancel h (by cases h : s.canc <;> simp_all)
theorem b_rc {w0 w : World} {g r : Nat} {s t : LM} (h : BOTH w0 g r s t w) : Calls Try.prog 13 #[.pointer (some ⟨r, 0, none⟩)] w fun e w' => e = .returned (.int .i64 (CE13 t)) ∧ BOTH w0 g r s (CANC t) w' := by
  by_cases hc : t.canc = true
  · have e1 : CE13 t = 130 := if_pos hc
    have e2 : CANC t = t := by show { t with canc := true } = t; rw [← hc]
    rw [e1, e2]
    exact b_rcancel_not h hc
  · have e1 : CE13 t = 0 := if_neg hc
    rw [e1]
    exact b_rcancel h (by cases h : t.canc <;> simp_all)
end Go.Proofs.Ytmgocdjmjnkbmaa
