/- The law's alike. -/
import Derived.Test.YtmgocdjmjnkbmaaLoomFour
import Derived.Test.YtmgocdjmjnkbmaaLoomAlikeRegion
namespace Go.Proofs.Ytmgocdjmjnkbmaa
open Go.RowKit
set_option maxRecDepth 100000

theorem own_mlie {w : World} {C c : Nat} {a : Option Addr} {l : List MV} (h : w.ownsRow C 42 3 (.slice a l.length c) l.length (MCELLS l)) : MLIE w a l := fun i m hm => by
  obtain ⟨b, rfl, _, h2, h3, h4, h5⟩ := own_moves h rfl i m hm
  exact ⟨b, rfl, h3, h4, h5, h2⟩
theorem own_ilie {w : World} {C c : Nat} {a : Option Addr} {l : List Nat} (h : w.ownsRow C 3 1 (.slice a l.length c) l.length (ICELLS l)) : ILIE w a l := fun i m hm => by
  have hi : i < l.length := (List.getElem?_eq_some_iff.1 hm).1
  rcases h.2 with ⟨e, h0⟩ | ⟨b, c', cur, e, hb, hg, r⟩
  · omega
  · cases e
    refine ⟨b, rfl, (h.cellAt i (by omega)).trans ?_, (Array.getElem?_eq_some_iff.1 hg).1⟩
    simp [ICELLS, hm]
theorem MLIE.on {w w' : World} {a : Option Addr} {l : List MV} (h : MLIE w a l) (hb : Below w.heap.size w w') : MLIE w' a l := fun i m hm => by
  obtain ⟨b, e, h3, h4, h5, h2⟩ := h i m hm
  have hk := hb.block b h2
  exact ⟨b, e, (World.cell?_of_block (w := w) (a := ⟨b, _, none⟩) hk).trans h3, (World.cell?_of_block (w := w) (a := ⟨b, _, none⟩) hk).trans h4, (World.cell?_of_block (w := w) (a := ⟨b, _, none⟩) hk).trans h5, Nat.lt_of_lt_of_le h2 hb.size⟩
theorem ILIE.on {w w' : World} {a : Option Addr} {l : List Nat} (h : ILIE w a l) (hb : Below w.heap.size w w') : ILIE w' a l := fun i m hm => by
  obtain ⟨b, e, h3, h2⟩ := h i m hm
  have hk := hb.block b h2
  exact ⟨b, e, (World.cell?_of_block (w := w) (a := ⟨b, _, none⟩) hk).trans h3, Nat.lt_of_lt_of_le h2 hb.size⟩
/-- what is seen of both, in a world that keeps w1's. -/
structure SEEN (g r : Nat) (s : LM) (w1 : World) (wa va : Option Addr) (vc : Nat) : Prop where
  mv : ∀ w, Below w1.heap.size w1 w → Calls Try.prog 16 #[.pointer (some ⟨g, 0, none⟩)] w fun e w' => ∃ a c, e = .returned (.slice a (MVS s).length c) ∧ w'.ownsRow w.heap.size 42 3 (.slice a (MVS s).length c) (MVS s).length (MCELLS (MVS s)) ∧ Below w.heap.size w w'
  an : ∀ w, Below w1.heap.size w1 w → Calls Try.prog 24 #[.pointer (some ⟨g, 0, none⟩)] w fun e w' => ∃ a c, e = .returned (.slice a s.ans.length c) ∧ w'.ownsRow w.heap.size 3 1 (.slice a s.ans.length c) s.ans.length (ICELLS s.ans) ∧ Below w.heap.size w w'
  want : ∀ w, Below w1.heap.size w1 w → MLIE w wa (MVS s)
  got : ∀ w, Below w1.heap.size w1 w → ILIE w va s.ans
  c8 : ∀ w, Below w1.heap.size w1 w → w.cell? ⟨r, 8, none⟩ = some (.slice va s.ans.length vc)
  c9 : ∀ w, Below w1.heap.size w1 w → w.cell? ⟨r, 9, none⟩ = some (.int .i64 (OUTC s : Int))
  c11 : ∀ w, Below w1.heap.size w1 w → w.cell? ⟨r, 11, none⟩ = some (.int .i64 (s.made : Int))
  c12 : ∀ w, Below w1.heap.size w1 w → w.cell? ⟨r, 12, none⟩ = some (.int .i64 (s.top : Int))
  ga : ∀ w, Below w1.heap.size w1 w → Calls Try.prog 17 #[.pointer (some ⟨g, 0, none⟩)] w fun e w' => e = .returned (.int .i64 (GAUGE s : Int)) ∧ Below w1.heap.size w1 w'
  rga : ∀ w, Below w1.heap.size w1 w → Calls Try.prog 26 #[.pointer (some ⟨r, 0, none⟩)] w fun e w' => e = .returned (.int .i64 (GAUGE s : Int)) ∧ Below w1.heap.size w1 w'
  tp : ∀ w, Below w1.heap.size w1 w → Calls Try.prog 27 #[.pointer (some ⟨g, 0, none⟩)] w fun e w' => e = .returned (.int .i64 (s.top : Int)) ∧ Below w1.heap.size w1 w'
  md : ∀ w, Below w1.heap.size w1 w → Calls Try.prog 18 #[.pointer (some ⟨g, 0, none⟩)] w fun e w' => e = .returned (.int .i64 (s.made : Int)) ∧ Below w1.heap.size w1 w'
  gn : ∀ w, Below w1.heap.size w1 w → Calls Try.prog 28 #[.pointer (some ⟨g, 0, none⟩)] w fun e w' => e = .returned (.int .i64 (GONE s : Int)) ∧ Below w1.heap.size w1 w'
  rgn : ∀ w, Below w1.heap.size w1 w → Calls Try.prog 29 #[.pointer (some ⟨r, 0, none⟩)] w fun e w' => e = .returned (.int .i64 (GONE s : Int)) ∧ Below w1.heap.size w1 w'
  oc : ∀ w, Below w1.heap.size w1 w → Calls Try.prog 30 #[.pointer (some ⟨g, 0, none⟩)] w fun e w' => e = .returned (.int .i64 (OUTC s : Int)) ∧ Below w1.heap.size w1 w'
  fewm : (MVS s).length ≤ 1000
  fewa : s.ans.length ≤ 65536
theorem rel_gauge {s : LM} {R : RR} (hr : REL s R) : CNT (fun i => decide (0 ≤ R.jb i) && !R.gn i) R.W = GAUGE s := by
  rw [hr.W]
  unfold GAUGE
  refine CNT_congr _ ?_
  intro i hi
  unfold ISB
  rcases hr.ws i hi with ⟨e, g⟩ | ⟨e, g, j⟩ | ⟨e, g, j⟩
  · rw [g, e]; simp
  · rw [g, e, j]; simp
  · rw [g, j, decide_eq_true (by omega), decide_eq_true e]; rfl
theorem seen_both {w0 w w1 : World} {g r : Nat} {s : LM} {v : Value} (h : BOTH w0 g r s s w) (ho : w1.ownsRow w.heap.size 42 3 v (MVS s).length (MCELLS (MVS s))) (hb : Below w.heap.size w w1) : ∃ wa wc va vc, v = .slice wa (MVS s).length wc ∧ SEEN g r s w1 wa va vc := by
  obtain ⟨gw, va, bw, cw, vq, vg, R, h1, h2, h3, h4⟩ := (h.on hb).two
  obtain ⟨wa, wc, rfl, _⟩ := own_slice ho
  obtain ⟨ga, gc, e2, _⟩ := own_slice h2.og
  have hA := h.inv
  have hW := h.few.2
  refine ⟨wa, wc, ga, gc, rfl, ?_⟩
  have eg := h3.got
  have L : ∀ w', Below w1.heap.size w1 w' → LOOM w' w0.heap.size g gw va s := fun w' hb' => h1.below hb'
  have LR : ∀ w', Below w1.heap.size w1 w' → RLOOM w' w0.heap.size r bw cw vq vg R := fun w' hb' => h2.below hb'
  have hsm := hA.small hW h.jobs
  refine ⟨?_, ?_, ?_, ?_, ?_, ?_, ?_, ?_, ?_, ?_, ?_, ?_, ?_, ?_, ?_, ?_, ?_⟩
  · intro w' hb'
    refine (moves_ok (L w' hb') hW).mono ?_
    rintro e w2 ⟨v2, rfl, ho2, hb2⟩
    obtain ⟨a, c, rfl, _⟩ := own_slice ho2
    exact ⟨a, c, rfl, ho2, hb2⟩
  · intro w' hb'
    refine (answers_ok (L w' hb') ?_).mono ?_
    · have := hA.base.count
      have := hA.base.fed
      have := h.jobs
      omega
    rintro e w2 ⟨a, c, rfl, ho2, hb2⟩
    exact ⟨a, c, rfl, ho2, hb2⟩
  · intro w' hb'
    exact (own_mlie ho).on hb'
  · intro w' hb'
    have := h2.og
    rw [e2, eg] at this
    exact (own_ilie this).on hb'
  · intro w' hb'
    have := (LR w' hb').row.cell 8
    rw [e2, eg] at this
    exact this
  · intro w' hb'
    have := (LR w' hb').row.cell 9
    rw [← h3.out]
    exact this
  · intro w' hb'
    have := (LR w' hb').row.cell 11
    rw [← h3.count]
    exact this
  · intro w' hb'
    have := (LR w' hb').row.cell 12
    rw [← h3.top]
    exact this
  · intro w' hb'
    refine (gauge_ok (L w' hb') hW).mono ?_
    rintro e w2 ⟨rfl, hb2⟩
    exact ⟨rfl, hb'.trans (hb2.mono hb'.size)⟩
  · intro w' hb'
    refine (rgauge_ok (LR w' hb') (by rw [h3.W]; exact hW)).mono ?_
    rintro e w2 ⟨rfl, rfl⟩
    rw [rel_gauge h3]
    exact ⟨rfl, hb'⟩
  · intro w' hb'
    refine (top_ok (L w' hb')).mono ?_
    rintro e w2 ⟨rfl, rfl⟩
    exact ⟨rfl, hb'⟩
  · intro w' hb'
    refine (made_ok (L w' hb')).mono ?_
    rintro e w2 ⟨rfl, rfl⟩
    exact ⟨rfl, hb'⟩
  · intro w' hb'
    refine (gonecount_ok (L w' hb') hW).mono ?_
    rintro e w2 ⟨rfl, hb2⟩
    exact ⟨rfl, hb'.trans (hb2.mono hb'.size)⟩
  · intro w' hb'
    refine (rgone_ok (LR w' hb') h3 (by rw [h3.W]; exact hW)).mono ?_
    rintro e w2 ⟨rfl, rfl⟩
    exact ⟨rfl, hb'⟩
  · intro w' hb'
    refine (outcome_ok (L w' hb')).mono ?_
    rintro e w2 ⟨rfl, hb2⟩
    exact ⟨rfl, hb'.trans (hb2.mono hb'.size)⟩
  · have := MVS_length s
    omega
  · have := hA.base.count
    have := hA.base.fed
    have := h.jobs
    omega
theorem four_start {w1 w2 w3 w4 w5 : World} {a b c d : Value} {l : List MV} {z : List Nat} (h2 : w2.ownsRow w1.heap.size 42 3 a l.length (MCELLS l) ∧ Below w1.heap.size w1 w2) (h3 : w3.ownsRow w2.heap.size 42 3 b l.length (MCELLS l) ∧ Below w2.heap.size w2 w3) (h4 : w4.ownsRow w3.heap.size 3 1 c z.length (ICELLS z) ∧ Below w3.heap.size w3 w4) (h5 : w5.ownsRow w4.heap.size 3 1 d z.length (ICELLS z) ∧ Below w4.heap.size w4 w5) : FOUR w1 w5 a l b l c z d z := by
  have s1 := h2.2.size
  have s2 := h3.2.size
  have s3 := h4.2.size
  have s4 := h5.2.size
  have b35 : Below w3.heap.size w3 w5 := h4.2.trans (h5.2.mono s3)
  have b25 : Below w2.heap.size w2 w5 := h3.2.trans (b35.mono s2)
  refine ⟨own_turn h2.1 (fun k e => b25.block k (h2.1.lt k e).2), own_turn (own_base h3.1 s1) (fun k e => b35.block k (h3.1.lt k e).2), own_turn (own_base h4.1 (by omega)) (fun k e => h5.2.block k (h4.1.lt k e).2), own_base h5.1 (by omega), fun k e f => ?_, fun k e f => ?_, fun k e f => ?_, fun k e f => ?_, fun k e f => ?_, fun k e f => ?_, h2.2.trans (b25.mono s1)⟩
  · have := (h2.1.lt k e).2; have := (h3.1.lt k f).1; omega
  · have := (h2.1.lt k e).2; have := (h4.1.lt k f).1; omega
  · have := (h2.1.lt k e).2; have := (h5.1.lt k f).1; omega
  · have := (h3.1.lt k e).2; have := (h4.1.lt k f).1; omega
  · have := (h3.1.lt k e).2; have := (h5.1.lt k f).1; omega
  · have := (h4.1.lt k e).2; have := (h5.1.lt k f).1; omega
theorem FOUR.forma {w1 w : World} {a : Option Addr} {n c : Nat} {la : List MV} {b : Value} {lb : List MV} {x : Value} {lx : List Nat} {y : Value} {ly : List Nat} (h : FOUR w1 w (.slice a n c) la b lb x lx y ly) (hn : 0 < la.length) : ∃ g, a = some ⟨g, 0, none⟩ := by
  rcases h.ra.2 with ⟨_, h0⟩ | ⟨g, c', cur, e, _⟩
  · omega
  · cases e
    exact ⟨g, rfl⟩
theorem FOUR.formx {w1 w : World} {a : Value} {la : List MV} {b : Value} {lb : List MV} {x : Option Addr} {n c : Nat} {lx : List Nat} {y : Value} {ly : List Nat} (h : FOUR w1 w a la b lb (.slice x n c) lx y ly) (hn : 0 < lx.length) : ∃ g, x = some ⟨g, 0, none⟩ := by
  rcases h.rx.2 with ⟨_, h0⟩ | ⟨g, c', cur, e, _⟩
  · omega
  · cases e
    exact ⟨g, rfl⟩
theorem FOUR.cella {w1 w : World} {g n c : Nat} {la : List MV} {b : Value} {lb : List MV} {x : Value} {lx : List Nat} {y : Value} {ly : List Nat} (h : FOUR w1 w (.slice (some ⟨g, 0, none⟩) n c) la b lb x lx y ly) {i : Nat} {m : MV} (hm : la[i]? = some m) : w.cell? ⟨g, i * 3, none⟩ = some (.int .i64 (m.1 : Int)) ∧ w.cell? ⟨g, i * 3 + 1, none⟩ = some (.int .i64 m.2.1) ∧ w.cell? ⟨g, i * 3 + 2, none⟩ = some (.int .i64 (m.2.2 : Int)) ∧ ∀ j, w.frozen? ⟨g, j, none⟩ = false := by
  have hn : n = la.length := by
    obtain ⟨a', c', e, _⟩ := own_slice h.ra
    cases e
    rfl
  subst hn
  obtain ⟨b, e, _, _, h3, h4, h5⟩ := own_moves h.ra rfl i m hm
  cases e
  exact ⟨h3, h4, h5, fun j => h.ra.frozenAt j⟩
theorem FOUR.cellx {w1 w : World} {g n c : Nat} {a : Value} {la : List MV} {b : Value} {lb : List MV} {lx : List Nat} {y : Value} {ly : List Nat} (h : FOUR w1 w a la b lb (.slice (some ⟨g, 0, none⟩) n c) lx y ly) {i v : Nat} (hm : lx[i]? = some v) : w.cell? ⟨g, i, none⟩ = some (.int .i64 (v : Int)) ∧ w.frozen? ⟨g, i, none⟩ = false := by
  have hn : n = lx.length := by
    obtain ⟨a', c', e, _⟩ := own_slice h.rx
    cases e
    rfl
  subst hn
  obtain ⟨b, e, h3, _⟩ := own_ilie h.rx i v hm
  cases e
  exact ⟨h3, h.rx.frozenAt i⟩
theorem FOUR.appa {w1 w w' : World} {a : Option Addr} {g n c cap : Nat} {m : MV} {la : List MV} {b : Value} {lb : List MV} {x : Value} {lx : List Nat} {y : Value} {ly : List Nat} (h : FOUR w1 w (.slice a n c) la b lb x lx y ly) (hn : la.length = n) (ho : w'.ownsRow w1.heap.size 42 3 (.slice (some ⟨g, 0, none⟩) (n + 1) cap) (n + 1) (MCELLS (la ++ [m]))) (hg : w.grownBy w' (Value.slice a n c).ownBlock) (hat : (Value.slice a n c).ownBlock = some g ∨ w.heap.size ≤ g) : FOUR w1 w' (.slice (some ⟨g, 0, none⟩) (n + 1) cap) (la ++ [m]) b lb x lx y ly := by
  refine h.stepa ?_ hg (fun k e => by cases e; exact hat)
  rw [List.length_append, hn]
  exact ho
theorem FOUR.appx {w1 w w' : World} {x : Option Addr} {g n c cap m : Nat} {a : Value} {la : List MV} {b : Value} {lb : List MV} {lx : List Nat} {y : Value} {ly : List Nat} (h : FOUR w1 w a la b lb (.slice x n c) lx y ly) (hn : lx.length = n) (ho : w'.ownsRow w1.heap.size 3 1 (.slice (some ⟨g, 0, none⟩) (n + 1) cap) (n + 1) (ICELLS (lx ++ [m]))) (hg : w.grownBy w' (Value.slice x n c).ownBlock) (hat : (Value.slice x n c).ownBlock = some g ∨ w.heap.size ≤ g) : FOUR w1 w' a la b lb (.slice (some ⟨g, 0, none⟩) (n + 1) cap) (lx ++ [m]) y ly := by
  refine h.stepx ?_ hg (fun k e => by cases e; exact hat)
  rw [List.length_append, hn]
  exact ho
theorem FOUR.rowa {w1 w : World} {n : Nat} {a : Value} {la : List MV} {b : Value} {lb : List MV} {x : Value} {lx : List Nat} {y : Value} {ly : List Nat} (h : FOUR w1 w a la b lb x lx y ly) (hn : la.length = n) : w.ownsRow w1.heap.size 42 3 a n (MCELLS la) := hn ▸ h.ra
theorem FOUR.rowx {w1 w : World} {n : Nat} {a : Value} {la : List MV} {b : Value} {lb : List MV} {x : Value} {lx : List Nat} {y : Value} {ly : List Nat} (h : FOUR w1 w a la b lb x lx y ly) (hn : lx.length = n) : w.ownsRow w1.heap.size 3 1 x n (ICELLS lx) := hn ▸ h.rx
theorem app_first {α : Type} {l : List α} {n : Nat} {v : α} (hl : l.length = n) (h : ∀ t, t < n → l[t]? = some v) (t : Nat) (ht : t < n + 1) : (l ++ [v])[t]? = some v := by
  by_cases e : t < n
  · rw [List.getElem?_append_left (by omega)]
    exact h t e
  · have : t = l.length := by omega
    subst this
    simp
theorem set_first {l la lb : List MV} {i : Nat} {P : Prop} (h : P ∧ la.length = l.length ∧ lb.length = l.length ∧ ∀ t, t < i → la[t]? = some (0, 0, 201) ∧ lb[t]? = some (0, 0, 202)) (hi : i < l.length) (t : Nat) (ht : t < i + 1) : (la.set i (0, 0, 201))[t]? = some (0, 0, 201) ∧ (lb.set i (0, 0, 202))[t]? = some (0, 0, 202) := by
  by_cases e : t = i
  · subst e
    exact ⟨List.getElem?_set_self (by omega), List.getElem?_set_self (by omega)⟩
  · rw [List.getElem?_set_ne (fun h => e h.symm), List.getElem?_set_ne (fun h => e h.symm)]
    exact h.2.2.2 t (by omega)
theorem set_second {z lc ld : List Nat} {i : Nat} {P : Prop} (h : P ∧ lc.length = z.length ∧ ld.length = z.length ∧ ∀ t, t < i → lc[t]? = some 203 ∧ ld[t]? = some 204) (hi : i < z.length) (t : Nat) (ht : t < i + 1) : (lc.set i 203)[t]? = some 203 ∧ (ld.set i 204)[t]? = some 204 := by
  by_cases e : t = i
  · subst e
    exact ⟨List.getElem?_set_self (by omega), List.getElem?_set_self (by omega)⟩
  · rw [List.getElem?_set_ne (fun h => e h.symm), List.getElem?_set_ne (fun h => e h.symm)]
    exact h.2.2.2 t (by omega)
set_option maxHeartbeats 4000000 in
theorem alike_ok {w0 w : World} {g r : Nat} {s : LM} (h : BOTH w0 g r s s w) : Calls Try.prog 11 #[.pointer (some ⟨g, 0, none⟩), .pointer (some ⟨r, 0, none⟩)] w fun e w' => e = .returned (.bool true) ∧ Below w.heap.size w w' := by
  have c1 : Calls Try.prog 20 #[.pointer (some ⟨r, 0, none⟩)] w fun e w' => ∃ v', e = .returned v' ∧ w'.ownsRow w.heap.size 42 3 v' (MVS s).length (MCELLS (MVS s)) ∧ Below w.heap.size w w' := by
    obtain ⟨gw, va, bw, cw, vq, vg, R, h1, h2, h3, h4⟩ := h.two
    exact rmoves_ok h2 h3 h.inv h.few.2
  have HB : Aside (BOTH w0 g r s s w) := h
  clear h
  go_enter Try.func11, Try.ntmps11
  go_wp2_with fail
  refine c1.mono ?_
  rintro e w1 ⟨v, rfl, ho, hb⟩
  obtain ⟨wa, wc, va, vc, rfl, hS⟩ := seen_both HB.out ho hb
  have HS : Aside (SEEN g r s w1 wa va vc ∧ Below w.heap.size w w1) := ⟨hS, hb⟩
  have c2 := hS.mv w1 (Below.refl _ _)
  clear c1 HB ho hb hS
  obtain ⟨l, hl⟩ : ∃ l, l = MVS s := ⟨_, rfl⟩
  obtain ⟨z, hz⟩ : ∃ z, z = s.ans := ⟨_, rfl⟩
  have HL : Aside (l = MVS s ∧ z = s.ans) := ⟨hl, hz⟩
  rw [← hl] at c2 ⊢
  clear hl hz
  go_wp2_with fail
  refine c2.mono ?_
  rintro e w2 ⟨a, ca, rfl, o2, b2⟩
  have c3 := HS.out.1.mv w2 b2
  rw [← HL.out.1] at c3
  have H2 : Aside (w2.ownsRow w1.heap.size 42 3 (.slice a l.length ca) l.length (MCELLS l) ∧ Below w1.heap.size w1 w2) := ⟨o2, b2⟩
  clear c2 o2 b2
  go_wp2_with fail
  refine c3.mono ?_
  rintro e w3 ⟨b, cb, rfl, o3, b3⟩
  have B3 := H2.out.2.trans (b3.mono H2.out.2.size)
  have c4 := HS.out.1.an w3 B3
  rw [← HL.out.2] at c4
  have H3 : Aside (w3.ownsRow w2.heap.size 42 3 (.slice b l.length cb) l.length (MCELLS l) ∧ Below w2.heap.size w2 w3) := ⟨o3, b3⟩
  clear c3 o3 b3 B3
  go_wp2_with fail
  refine c4.mono ?_
  rintro e w4 ⟨c, cc, rfl, o4, b4⟩
  have B3 := H2.out.2.trans (H3.out.2.mono H2.out.2.size)
  have B4 := B3.trans (b4.mono B3.size)
  have c5 := HS.out.1.an w4 B4
  rw [← HL.out.2] at c5
  have H4 : Aside (w4.ownsRow w3.heap.size 3 1 (.slice c z.length cc) z.length (ICELLS z) ∧ Below w3.heap.size w3 w4) := ⟨o4, b4⟩
  clear c4 o4 b4 B3 B4
  go_wp2_with fail
  refine c5.mono ?_
  rintro e w5 ⟨d, cd, rfl, o5, b5⟩
  have F5 : Aside (FOUR w1 w5 (.slice a l.length ca) l (.slice b l.length cb) l (.slice c z.length cc) z (.slice d z.length cd) z) := four_start H2.out H3.out H4.out ⟨o5, b5⟩
  have HN : Aside (l.length ≤ 1000 ∧ z.length ≤ 65536) := by
    have := HS.out.1
    rw [HL.out.1, HL.out.2]
    exact ⟨this.fewm, this.fewa⟩
  clear c5 o5 b5 H2 H3 H4
  have W5 : Aside (∀ W, Below w1.heap.size w1 W → MLIE W wa l ∧ ILIE W va z ∧ W.cell? ⟨r, 8, none⟩ = some (.slice va z.length vc)) := by
    rw [HL.out.1, HL.out.2]
    exact fun W hb => ⟨HS.out.1.want W hb, HS.out.1.got W hb, HS.out.1.c8 W hb⟩
  have d1 := samemoves_ok a wa ca wc l (by have := HN.out.1; omega) w5 (own_mlie F5.out.ra) (W5.out w5 F5.out.bl).1
  obtain ⟨n, hn⟩ : ∃ n, l.length = n := ⟨_, rfl⟩
  obtain ⟨q, hq⟩ : ∃ q, z.length = q := ⟨_, rfl⟩
  have HQ : Aside (l.length = n ∧ z.length = q) := ⟨hn, hq⟩
  rw [hn] at d1
  rw [hn, hq]
  clear hn hq
  go_wp2_with fail
  refine d1.mono ?_
  rintro e w6 ⟨rfl, b6⟩
  have F6 : Aside (FOUR w1 w6 (.slice a l.length ca) l (.slice b l.length cb) l (.slice c z.length cc) z (.slice d z.length cd) z) := F5.out.on b6
  have d2 := samemoves_ok b wa cb wc l (by have := HN.out.1; omega) w6 (own_mlie F6.out.rb) (W5.out w6 F6.out.bl).1
  rw [HQ.out.1] at d2
  clear d1 b6 F5
  go_wp2_with fail
  refine d2.mono ?_
  rintro e w7 ⟨rfl, b7⟩
  have F7 : Aside (FOUR w1 w7 (.slice a l.length ca) l (.slice b l.length cb) l (.slice c z.length cc) z (.slice d z.length cd) z) := F6.out.on b7
  have d3 := samelist_ok c va cc vc z (by have := HN.out.2; omega) w7 (own_ilie F7.out.rx) (W5.out w7 F7.out.bl).2.1
  have e3 := (W5.out w7 F7.out.bl).2.2
  rw [HQ.out.2] at d3 e3
  clear d2 b7 F6
  go_wp2_with fail
  refine d3.mono ?_
  rintro e w8 ⟨rfl, b8⟩
  have F8 : Aside (FOUR w1 w8 (.slice a l.length ca) l (.slice b l.length cb) l (.slice c z.length cc) z (.slice d z.length cd) z) := F7.out.on b8
  have d4 := samelist_ok d va cd vc z (by have := HN.out.2; omega) w8 (own_ilie F8.out.ry) (W5.out w8 F8.out.bl).2.1
  have e4 := (W5.out w8 F8.out.bl).2.2
  rw [HQ.out.2] at d4 e4
  clear d3 b8 F7 e3
  go_wp2_with fail
  refine d4.mono ?_
  rintro e w9 ⟨rfl, b9⟩
  have F9 : Aside (FOUR w1 w9 (.slice a l.length ca) l (.slice b l.length cb) l (.slice c z.length cc) z (.slice d z.length cd) z) := F8.out.on b9
  clear d4 b9 F8 e4
  go_wp2_with fail
  go_loopg [10] n (fun k s10 wx => ∃ i : Nat, i + k = n ∧ s10 = .int .i64 (i : Int) ∧ Aside (∃ la lb, FOUR w1 wx (.slice a l.length ca) la (.slice b l.length cb) lb (.slice c z.length cc) z (.slice d z.length cd) z ∧ la.length = l.length ∧ lb.length = l.length ∧ ∀ t, t < i → la[t]? = some (0, 0, 201) ∧ lb[t]? = some (0, 0, 202)))
  case atStart => exact ⟨0, by omega, rfl, l, l, F9.out, rfl, rfl, fun t ht => by omega⟩
  case round =>
    obtain ⟨i, hi, rfl, A⟩ := hrel
    cases gk with
    | zero =>
      obtain rfl : i = n := by omega
      obtain ⟨la, lb, A'⟩ := A
      have FL : Aside (FOUR w1 wr (.slice a l.length ca) la (.slice b l.length cb) lb (.slice c z.length cc) z (.slice d z.length cd) z ∧ la.length = l.length ∧ lb.length = l.length ∧ ∀ t, t < i → la[t]? = some (0, 0, 201) ∧ lb[t]? = some (0, 0, 202)) := A'
      have hni : i ≤ 1000 := by have := HN.out.1; have := HQ.out.1; omega
      have hqi : q ≤ 65536 := by have := HN.out.2; have := HQ.out.2; omega
      clear A' F9 hi
      go_wp2_with fail
      go_loopg [11] q (fun k s11 wx => ∃ j : Nat, j + k = q ∧ s11 = .int .i64 (j : Int) ∧ Aside (∃ lc ld, FOUR w1 wx (.slice a l.length ca) la (.slice b l.length cb) lb (.slice c z.length cc) lc (.slice d z.length cd) ld ∧ lc.length = z.length ∧ ld.length = z.length ∧ ∀ t, t < j → lc[t]? = some 203 ∧ ld[t]? = some 204))
      case atStart => exact ⟨0, by omega, rfl, z, z, FL.out.1, rfl, rfl, fun t ht => by omega⟩
      case round =>
        obtain ⟨j, hj, rfl, A⟩ := hrel
        cases gk with
        | zero =>
          obtain rfl : j = q := by omega
          obtain ⟨lc, ld, A'⟩ := A
          have FM : Aside (FOUR w1 wr (.slice a i ca) la (.slice b i cb) lb (.slice c j cc) lc (.slice d j cd) ld ∧ la.length = i ∧ lb.length = i ∧ lc.length = j ∧ ld.length = j) := by
            have e1 := HQ.out.1
            have e2 := HQ.out.2
            have e3 := FL.out.2
            have e4 := A'.1
            rw [e1, e2] at e4
            exact ⟨e4, by omega, by omega, by omega, by omega⟩
          have GA : Aside (∀ t, t < i + 1 → (la ++ [(0, 0, 201)])[t]? = some (0, 0, 201) ∧ (lb ++ [(0, 0, 202)])[t]? = some (0, 0, 202)) := fun t ht => ⟨app_first FM.out.2.1 (fun t ht => (FL.out.2.2.2 t ht).1) t ht, app_first FM.out.2.2.1 (fun t ht => (FL.out.2.2.2 t ht).2) t ht⟩
          have GC : Aside (∀ t, t < j + 1 → (lc ++ [203])[t]? = some 203 ∧ (ld ++ [204])[t]? = some 204) := fun t ht => ⟨app_first FM.out.2.2.2.1 (fun t ht => (A'.2.2.2 t ht).1) t ht, app_first FM.out.2.2.2.2 (fun t ht => (A'.2.2.2 t ht).2) t ht⟩
          clear A' FL hj
          go_wp2_with (first
            | (at_builtin; refine app_move (wr.alloc (.cells #[.int .i64 0, .int .i64 0, .int .i64 201] 42)) rfl (.tmp 78) (.tmp 80) rfl w1.heap.size (.slice a i ca) i la rfl ((FM.out.1.alloc _).rowa FM.out.2.1) wr.heap.size 1 (0, 0, 201) rfl ((Has.new _ _ _).cell 0) ((Has.new _ _ _).cell 1) ((Has.new _ _ _).cell 2) (by omega) (FM.out.1.alloc _).bl.size ?_; intro g1 c1 wA z1 z2 _ z4; have FA : Aside (FOUR w1 wA (.slice (some ⟨g1, 0, none⟩) (i + 1) c1) (la ++ [(0, 0, 201)]) (.slice b i cb) lb (.slice c j cc) lc (.slice d j cd) ld) := (FM.out.1.alloc _).appa FM.out.2.1 z1 z2 z4; clear z1 z2 z4)
            | (at_builtin; refine app_move (wA.alloc (.cells #[.int .i64 0, .int .i64 0, .int .i64 202] 42)) rfl (.tmp 82) (.tmp 84) rfl w1.heap.size (.slice b i cb) i lb rfl ((FA.out.alloc _).swab.rowa FM.out.2.2.1) wA.heap.size 1 (0, 0, 202) rfl ((Has.new _ _ _).cell 0) ((Has.new _ _ _).cell 1) ((Has.new _ _ _).cell 2) (by omega) (FA.out.alloc _).bl.size ?_; intro g2 c2 wB z1 z2 _ z4; have FB : Aside (FOUR w1 wB (.slice (some ⟨g1, 0, none⟩) (i + 1) c1) (la ++ [(0, 0, 201)]) (.slice (some ⟨g2, 0, none⟩) (i + 1) c2) (lb ++ [(0, 0, 202)]) (.slice c j cc) lc (.slice d j cd) ld) := ((FA.out.alloc _).swab.appa FM.out.2.2.1 z1 z2 z4).swab; clear z1 z2 z4)
            | (at_builtin; refine app_int (wB.alloc (.cells #[.int .i64 203] 3)) rfl (.tmp 86) (.tmp 87) rfl w1.heap.size (.slice c j cc) j lc rfl ((FB.out.alloc _).rowx FM.out.2.2.2.1) wB.heap.size 1 203 rfl ((Has.new _ _ _).cell 0) (by omega) (FB.out.alloc _).bl.size ?_; intro g3 c3 wC z1 z2 z4; have FC : Aside (FOUR w1 wC (.slice (some ⟨g1, 0, none⟩) (i + 1) c1) (la ++ [(0, 0, 201)]) (.slice (some ⟨g2, 0, none⟩) (i + 1) c2) (lb ++ [(0, 0, 202)]) (.slice (some ⟨g3, 0, none⟩) (j + 1) c3) (lc ++ [203]) (.slice d j cd) ld) := (FB.out.alloc _).appx FM.out.2.2.2.1 z1 z2 z4; clear z1 z2 z4)
            | (at_builtin; refine app_int (wC.alloc (.cells #[.int .i64 204] 3)) rfl (.tmp 89) (.tmp 90) rfl w1.heap.size (.slice d j cd) j ld rfl ((FC.out.alloc _).swxy.rowx FM.out.2.2.2.2) wC.heap.size 1 204 rfl ((Has.new _ _ _).cell 0) (by omega) (FC.out.alloc _).bl.size ?_; intro g4 c4 wD z1 z2 z4; have FD : Aside (FOUR w1 wD (.slice (some ⟨g1, 0, none⟩) (i + 1) c1) (la ++ [(0, 0, 201)]) (.slice (some ⟨g2, 0, none⟩) (i + 1) c2) (lb ++ [(0, 0, 202)]) (.slice (some ⟨g3, 0, none⟩) (j + 1) c3) (lc ++ [203]) (.slice (some ⟨g4, 0, none⟩) (j + 1) c4) (ld ++ [204])) := ((FC.out.alloc _).swxy.appx FM.out.2.2.2.2 z1 z2 z4).swxy; clear z1 z2 z4))
          clear FA FB FC FM
          go_loopg [12] (i + 1) (fun k s12 wx => ∃ t : Nat, t + k = i + 1 ∧ s12 = .int .i64 (t : Int) ∧ wx = wD)
          case atStart => exact ⟨0, by omega, rfl, rfl⟩
          case round =>
            obtain ⟨t, ht, rfl, rfl⟩ := hrel
            cases gk with
            | zero =>
              obtain rfl : t = i + 1 := by omega
              have hcast : ((i + 1 : Nat) : Int) = (i : Int) + 1 := by omega
              clear ht
              go_wp2_with fail
              go_loopg [13] (j + 1) (fun k s13 wx => ∃ t : Nat, t + k = j + 1 ∧ s13 = .int .i64 (t : Int) ∧ wx = wr)
              case atStart => exact ⟨0, by omega, rfl, rfl⟩
              case round =>
                obtain ⟨t, ht, rfl, rfl⟩ := hrel
                cases gk with
                | zero =>
                  obtain rfl : t = j + 1 := by omega
                  clear ht
                  go_upto_region 26 with fail
                  have q1 : ∀ W, Below w1.heap.size w1 W → Calls Try.prog 16 #[.pointer (some ⟨g, 0, none⟩)] W fun e w' => ∃ a1 c1, e = .returned (.slice a1 i c1) ∧ (Below w1.heap.size w1 w' ∧ MLIE w' a1 l) := by
                    intro W hb
                    have h := HS.out.1.mv W hb
                    rw [← HL.out.1] at h
                    refine h.mono ?_
                    rintro e w' ⟨a1, c1, rfl, ho, hb2⟩
                    exact ⟨a1, c1, by rw [HQ.out.1], hb.trans (hb2.mono hb.size), own_mlie ho⟩
                  have q2 : ∀ a1 c1 W, (Below w1.heap.size w1 W ∧ MLIE W a1 l) → Calls Try.prog 25 #[.slice a1 i c1, .slice wa i wc] W fun e w' => e = .returned (.bool true) ∧ Below w1.heap.size w1 w' := by
                    intro a1 c1 W hp
                    have h := samemoves_ok a1 wa c1 wc l (by have := HN.out.1; omega) W hp.2 (W5.out W hp.1).1
                    rw [HQ.out.1] at h
                    refine h.mono ?_
                    rintro e w' ⟨rfl, hb2⟩
                    exact ⟨rfl, hp.1.trans (hb2.mono hp.1.size)⟩
                  have q3 : ∀ W, Below w1.heap.size w1 W → Calls Try.prog 24 #[.pointer (some ⟨g, 0, none⟩)] W fun e w' => ∃ a2 c2, e = .returned (.slice a2 j c2) ∧ (Below w1.heap.size w1 w' ∧ ILIE w' a2 z) := by
                    intro W hb
                    have h := HS.out.1.an W hb
                    rw [← HL.out.2] at h
                    refine h.mono ?_
                    rintro e w' ⟨a1, c1, rfl, ho, hb2⟩
                    exact ⟨a1, c1, by rw [HQ.out.2], hb.trans (hb2.mono hb.size), own_ilie ho⟩
                  have q4 : ∀ a2 c2 W, (Below w1.heap.size w1 W ∧ ILIE W a2 z) → Calls Try.prog 10 #[.slice a2 j c2, .slice va j vc] W fun e w' => e = .returned (.bool true) ∧ Below w1.heap.size w1 w' := by
                    intro a1 c1 W hp
                    have h := samelist_ok a1 va c1 vc z (by have := HN.out.2; omega) W hp.2 (W5.out W hp.1).2.1
                    rw [HQ.out.2] at h
                    refine h.mono ?_
                    rintro e w' ⟨rfl, hb2⟩
                    exact ⟨rfl, hp.1.trans (hb2.mono hp.1.size)⟩
                  have q0 : ∀ W, Below w1.heap.size w1 W → W.cell? ⟨r, 8, none⟩ = some (.slice va j vc) ∧ W.cell? ⟨r, 9, none⟩ = some (.int .i64 (OUTC s : Int)) ∧ W.cell? ⟨r, 11, none⟩ = some (.int .i64 (s.made : Int)) ∧ W.cell? ⟨r, 12, none⟩ = some (.int .i64 (s.top : Int)) := by
                    intro W hb
                    have h := (W5.out W hb).2.2
                    rw [HQ.out.2] at h
                    exact ⟨h, HS.out.1.c9 W hb, HS.out.1.c11 W hb, HS.out.1.c12 W hb⟩
                  refine alike26 _ g r i wc j vc (OUTC s) s.made s.top (GAUGE s) (GONE s) wa va (fun W => Below w1.heap.size w1 W) (fun a1 W => Below w1.heap.size w1 W ∧ MLIE W a1 l) (fun a2 W => Below w1.heap.size w1 W ∧ ILIE W a2 z) FD.out.bl.drew q0 (fun a W h => q0 W h.1) (fun a W h => q0 W h.1) q1 q2 q3 q4 HS.out.1.ga HS.out.1.rga HS.out.1.tp HS.out.1.md HS.out.1.gn HS.out.1.rgn HS.out.1.oc (fun _ _ _ _ _ h => h) ?_
                  intro a1 k1 a2 k2 wE hE
                  have HE : Aside (Below w.heap.size w wE) := HS.out.2.trans (hE.mono HS.out.2.size)
                  clear q1 q2 q3 q4 q0 hE
                  go_wp2
                  go_ret
                  exact ⟨rfl, HE.out⟩
                | succ gk =>
                  obtain ⟨t1, t2⟩ := GC.out t (by omega)
                  have y2 := (FD.out.cellx t1).1
                  have x2 := (FD.out.swxy.cellx t2).1
                  have hin : (t : Int) < ((j + 1 : Nat) : Int) := by omega
                  have ht2 : t ≤ 65536 := by omega
                  clear t1 t2
                  go_wp2_with fail
                  go_roundg gk
                  case measure => omega
                  case rel => exact ⟨t + 1, by omega, rfl, rfl⟩
            | succ gk =>
              obtain ⟨t1, t2⟩ := GA.out t (by omega)
              have y2 := (FD.out.cella t1).2.2.1
              have x2 := (FD.out.swab.cella t2).2.2.1
              have hin : (t : Int) < ((i + 1 : Nat) : Int) := by omega
              have ht2 : t ≤ 1000 := by omega
              clear t1 t2
              go_wp2_with fail
              go_roundg gk
              case measure => omega
              case rel => exact ⟨t + 1, by omega, rfl, rfl⟩
        | succ gk =>
          obtain ⟨lc, ld, A'⟩ := A
          have il : j < z.length := by rw [HQ.out.2]; omega
          obtain ⟨gc, rfl⟩ := A'.1.formx (by omega)
          obtain ⟨gd, rfl⟩ := A'.1.swxy.formx (by omega)
          have hin : (j : Int) < (q : Int) := by omega
          have A : Aside (FOUR w1 wr (.slice a l.length ca) la (.slice b l.length cb) lb (.slice (some ⟨gc, 0, none⟩) z.length cc) lc (.slice (some ⟨gd, 0, none⟩) z.length cd) ld ∧ lc.length = z.length ∧ ld.length = z.length ∧ ∀ t, t < j → lc[t]? = some 203 ∧ ld[t]? = some 204) := A'
          obtain ⟨ma, hma⟩ : ∃ m, lc[j]? = some m := ⟨_, List.getElem?_eq_getElem (show j < lc.length by omega)⟩
          obtain ⟨mb, hmb⟩ : ∃ m, ld[j]? = some m := ⟨_, List.getElem?_eq_getElem (show j < ld.length by omega)⟩
          obtain ⟨y0, y3⟩ := A'.1.cellx hma
          obtain ⟨x0, x3⟩ := A'.1.swxy.cellx hmb
          have hne : gc ≠ gd := fun e => A'.1.xy gc rfl (by rw [e]; rfl)
          have hne' : gd ≠ gc := fun e => hne e.symm
          have FA := (A'.1.setx j 203).swxy.setx j 204
          have HF : Aside (_ ∧ _) := ⟨FA.swxy, show j + 1 + gk = q by omega⟩
          clear A' hma hmb FA
          go_wp2_with fail
          go_roundg gk
          case measure => omega
          case rel => exact ⟨j + 1, HF.out.2, rfl, _, _, HF.out.1, by rw [List.length_set]; exact A.out.2.1, by rw [List.length_set]; exact A.out.2.2.1, fun t ht => set_second A.out il t ht⟩
    | succ gk =>
      obtain ⟨la, lb, A'⟩ := A
      have il : i < l.length := by rw [HQ.out.1]; omega
      obtain ⟨ga, rfl⟩ := A'.1.forma (by omega)
      obtain ⟨gb, rfl⟩ := A'.1.swab.forma (by omega)
      have hin : (i : Int) < (n : Int) := by omega
      have hi1000 : i < 1000 := by have := HN.out.1; omega
      have A : Aside (FOUR w1 wr (.slice (some ⟨ga, 0, none⟩) l.length ca) la (.slice (some ⟨gb, 0, none⟩) l.length cb) lb (.slice c z.length cc) z (.slice d z.length cd) z ∧ la.length = l.length ∧ lb.length = l.length ∧ ∀ t, t < i → la[t]? = some (0, 0, 201) ∧ lb[t]? = some (0, 0, 202)) := A'
      obtain ⟨ma, hma⟩ : ∃ m, la[i]? = some m := ⟨_, List.getElem?_eq_getElem (show i < la.length by omega)⟩
      obtain ⟨mb, hmb⟩ : ∃ m, lb[i]? = some m := ⟨_, List.getElem?_eq_getElem (show i < lb.length by omega)⟩
      obtain ⟨y0, y1, y2, y3⟩ := A'.1.cella hma
      have f0 := y3 (i * 3)
      have f1 := y3 (i * 3 + 1)
      have f2 := y3 (i * 3 + 2)
      obtain ⟨x0, x1, x2, x3⟩ := A'.1.swab.cella hmb
      have h0 := x3 (i * 3)
      have h1 := x3 (i * 3 + 1)
      have h2 := x3 (i * 3 + 2)
      have hne : ga ≠ gb := fun e => A'.1.ab ga rfl (by rw [e]; rfl)
      have hne' : gb ≠ ga := fun e => hne e.symm
      have FA := (A'.1.seta i (0, 0, 201) (by omega)).swab.seta i (0, 0, 202) (by omega)
      have HF : Aside (_ ∧ _) := ⟨FA.swab, show i + 1 + gk = n by omega⟩
      clear A' y3 hma hmb x3 FA
      go_wp2_with fail
      go_roundg gk
      case measure => omega
      case rel => exact ⟨i + 1, HF.out.2, rfl, _, _, HF.out.1, by rw [List.length_set]; exact A.out.2.1, by rw [List.length_set]; exact A.out.2.2.1, fun t ht => set_first A.out il t ht⟩
end Go.Proofs.Ytmgocdjmjnkbmaa
