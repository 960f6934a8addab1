/- Texts of CarryEvents, one behind the other: CarryLengthen, CarryOn, CarryTell. -/
import Derived.Test.YtkpgbhokoohimaaDoorCarryEventsP6
import Derived.Test.YtkpgbhokoohimaaDoorCarryEventsP20
/- How a path is lengthened. -/
namespace Go.Proofs.YtkpgbhokoohimaaDoor
open Go.RowKit
set_option maxRecDepth 100000

/-- hashes are put behind a row that lies somewhere, and where it then lies. -/
theorem app_hashesl {ops : Array Oper} {rest : List Oper} {o : Oper} {a : Act} {Q : Exit → Act → World → Prop} (w : World) (hgd : o.guard = none) (s x : Operand)
    (ho : o.op = .call { callee := .builtin .append,args := #[s,x],argTypes := #[25,25] })
    (base g n cap : Nat) (xs : List Value) (hs : a.eval s = .slice (some ⟨g,0,none⟩) n cap) (hown : w.ownsRow base 24 32 (.slice (some ⟨g,0,none⟩) n cap) n xs)
    (ad : Addr) (m c : Nat) (l : List Int) (hx : a.eval x = .slice (some ad) m c) (hL : Flat w (some ad) m l) (hb : n + m ≤ 100000) (hbase : base ≤ w.heap.size)
    (hh : ∀ g' c' w',w'.ownsRow base 24 32 (.slice (some ⟨g',0,none⟩) (n + m) c') (n + m) (xs ++ CELLS l) → w.grownBy w' (some g) → (g' = g ∨ g' = w.heap.size) → wpList Tryd.prog ops Q rest (a.put o.dst (.slice (some ⟨g',0,none⟩) (n + m) c')) w') : wpList Tryd.prog ops Q (o :: rest) a w := by
  obtain ⟨i,hi,hz,hs1,hby⟩ := info_parts info_hashv
  rcases Nat.eq_zero_or_pos m with hm | hm
  · subst hm
    have hl : l = [] := List.eq_nil_of_length_eq_zero hL.1
    subst hl
    refine wpList_plain hgd fun K hK => ?_
    have hrun := run_append_room_cells (P := Tryd.prog) (w := w) 25 o.type 24 i Tryd.underlying25 hi g 0 n cap ad 0 c [] (by simp) (fun j u hj => by simp at hj) (fun u hu => by simp at hu) (by have := (own_nil hown).1; omega) (fun j hj => by simp at hj) (fun j hj => by simp at hj)
    unfold Oper.wp
    simp [execOp,ho,resolve,invoke,builtin,hs,hx,hrun,Result.andThen]
    exact hK _ _ (hh g cap w (by simpa [CELLS] using hown) (grown_refl _ _) (.inl rfl))
  · refine wpList_append_lies w hgd s x 25 ho base 24 i (.agg ZARR) 32 32 Tryd.underlying25 hi hz hs1 hby rfl (by decide) _ n xs hs hown ad m c (CELLS l) hx (by rw [CELLS,List.length_map,hL.1,Nat.mul_comm]) ?_ (CELLS_one l) hm (by simp only [maxLen]; omega) (by omega) hbase w.heap.size rfl (fun g' c' w' h1 h2 h3 _ => hh g' c' w' h1 h2 (h3.imp (fun e => by simpa [Value.ownBlock] using e.symm) (fun e => e)))
    intro j u hu
    have hj : j < l.length := by
      have := (List.getElem?_eq_some_iff.1 hu).1
      simpa [CELLS] using this
    have hl := hL.1
    obtain ⟨g',o',e,_,hc'⟩ := hL.2.1 (by omega)
    cases e
    rw [addr_add,hc' j (by omega), ← hu,CELLS_get l j hj]
/-- how long a path is behind an append; the path. -/
def LGN (t nl : Nat) : Nat := if t ≤ nl then nl else t
def LGT (t nl : Nat) (L LR M : List Int) : List Int := if t ≤ nl then L else L ++ HSH M nl ++ LR.drop (32 * (nl + 1))
/-- what lengthen answers. -/
def LGTH (w : World) (B : Nat) (v : Value) (N : Nat) (L : List Int) (e : Ending) (w' : World) : Prop :=
  ∃ a2 c2,e = .returned (.slice a2 N c2) ∧ w'.ownsRow B 24 32 (.slice a2 N c2) N (CELLS L) ∧ KEPT (fun k => v.ownBlock = some k) w w' ∧ ∀ k,(Value.slice a2 N c2).ownBlock = some k → v.ownBlock = some k ∨ w.heap.size ≤ k
set_option maxHeartbeats 4000000 in
theorem lengthen_ok (B : Nat) (la : Option Addr) (t lc : Nat) (ma : Option Addr) (mc : Nat) (pa : Option Addr) (nl pc : Nat) (L LR M : List Int) (ht : t ≤ 64) (hnl : nl ≤ 64) (w : World) (hL : w.ownsRow B 24 32 (.slice pa nl pc) nl (CELLS L)) (hLR : w.ownsRow B 24 32 (.slice la t lc) t (CELLS LR)) (hM : w.ownsRow B 24 32 (.slice ma (t + 1) mc) (t + 1) (CELLS M)) (rL : ∀ x ∈ LR,0 ≤ x ∧ x ≤ 255) (hB : B ≤ w.heap.size) (hap : ∀ k,(Value.slice pa nl pc).ownBlock = some k → (Value.slice la t lc).ownBlock ≠ some k) :
    Calls Tryd.prog 39 #[.agg #[.slice la t lc,.slice ma (t + 1) mc],.slice pa nl pc] w (LGTH w B (.slice pa nl pc) (LGN t nl) (LGT t nl L LR M)) := by
  obtain ⟨W0,hW0⟩ : ∃ W0,w.alloc (.cells #[.slice la t lc,.slice ma (t + 1) mc] 73) = W0 := ⟨_,rfl⟩
  obtain ⟨bm,hbm⟩ : ∃ bm,w.heap.size = bm := ⟨_,rfl⟩
  have R0 : Aside (Below w.heap.size w W0 ∧ Has W0 bm #[.slice la t lc,.slice ma (t + 1) mc] 73 ∧ w.heap.size = bm) := by
    rw [← hW0, ← hbm]
    exact ⟨(Below.refl _ _).alloc (Nat.le_refl _) _,Has.new _ _ _,rfl⟩
  by_cases h : t ≤ nl
  · have e1 : LGN t nl = nl := if_pos h
    have e2 : LGT t nl L LR M = L := if_pos h
    rw [e1,e2]
    have i1 : (t : Int) ≤ (nl : Int) := by omega
    have FN : Aside (W0.ownsRow B 24 32 (.slice pa nl pc) nl (CELLS L) ∧ Below w.heap.size w W0) := ⟨own_below hL R0.out.1,R0.out.1⟩
    have x0 := R0.out.2.1.cell 0
    clear hL hLR hM rL hB hap h e1 e2 ht hnl
    go_enter Tryd.func39,Tryd.ntmps39
    go_upto_region 1 with fail
    clear hW0 hbm
    go_wp2_with fail
    go_ret
    exact ⟨pa,pc,rfl,FN.out.1,KEPT.of_below FN.out.2,fun k e => .inl e⟩
  · have e1 : LGN t nl = t := if_neg h
    have e2 : LGT t nl L LR M = L ++ HSH M nl ++ LR.drop (32 * (nl + 1)) := if_neg h
    rw [e1,e2]
    obtain ⟨Z,hZ⟩ : ∃ Z,L ++ HSH M nl ++ LR.drop (32 * (nl + 1)) = Z := ⟨_,rfl⟩
    rw [hZ]
    have HZ : Aside (L ++ HSH M nl ++ LR.drop (32 * (nl + 1)) = Z) := hZ
    clear hZ
    have i1 : ¬ (t : Int) ≤ (nl : Int) := by omega
    have lM : M.length = 32 * (t + 1) := by have := hM.1; simp [CELLS] at this; omega
    have lLR : LR.length = 32 * t := by have := hLR.1; simp [CELLS] at this; omega
    obtain ⟨gm,rfl⟩ : ∃ gm,ma = some ⟨gm,0,none⟩ := by
      rcases hM.2 with ⟨_,h0⟩ | ⟨g,_,_,e,_⟩
      · omega
      · cases e; exact ⟨g,rfl⟩
    obtain ⟨gl,rfl⟩ : ∃ gl,la = some ⟨gl,0,none⟩ := by
      rcases hLR.2 with ⟨_,h0⟩ | ⟨g,_,_,e,_⟩
      · omega
      · cases e; exact ⟨g,rfl⟩
    have hY := HSH_length lM (show nl < t + 1 by omega)
    have hat := own_hash (own_below hM R0.out.1) (i := nl) (by omega) lM
    have i2 : (nl : Int) < ((t + 1 : Nat) : Int) := by omega
    have e3 : wrap64 ((nl : Int) + 1) = ((nl + 1 : Nat) : Int) := by unfold wrap64; omega
    have HA : Aside (t ≤ 64 ∧ nl ≤ 64 ∧ nl + 1 ≤ t ∧ B ≤ w.heap.size ∧ (∀ x ∈ LR,0 ≤ x ∧ x ≤ 255) ∧ t ≤ lc ∧ ∀ k,(Value.slice pa nl pc).ownBlock = some k → (Value.slice (some ⟨gl,0,none⟩) t lc).ownBlock ≠ some k) := ⟨ht,hnl,by omega,hB,rL,(own_nil hLR).1,hap⟩
    have R1 : Aside (W0.ownsRow B 24 32 (.slice pa nl pc) nl (CELLS L) ∧ W0.ownsRow B 24 32 (.slice (some ⟨gl,0,none⟩) t lc) t (CELLS LR) ∧ (∀ k,(Value.slice pa nl pc).ownBlock = some k → k < w.heap.size)) := ⟨own_below hL R0.out.1,own_below hLR R0.out.1,fun k e => (hL.lt k e).2⟩
    have x0 := R0.out.2.1.cell 0
    have x1 := R0.out.2.1.cell 1
    clear hL hLR hM rL hB hap h e1 e2 lM lLR ht hnl
    generalize HSH M nl = Y at *
    go_enter Tryd.func39,Tryd.ntmps39
    go_upto_region 1 with fail
    clear hW0 hbm
    go_upto_region 5 with (first
      | (refine wpList_load_mid rfl 24 (.tmp 18) rfl gm (nl * 32) rfl (CELLS Y) _ hat Tryd.underlying24 rfl (info_cells hY) ?_)
      | (refine build_one _ rfl 25 24 (.tmp 19) rfl (CELLS Y).toArray rfl 32 _ _ Tryd.underlying25 info_hashv (by simp [CELLS,hY]) rfl (by decide) (by decide) ?_)
      | (at_builtin; refine app_hash _ rfl (.tmp 14) (.tmp 20) rfl B (.slice pa nl pc) nl (CELLS L) rfl (R1.out.1.alloc _) _ 1 Y hY rfl (Has.new _ _ _) (by have := HA.out; omega) (by have := HA.out.2.2.2.1; have := R0.out.1.size; simp; omega) ?_; intro g2 c2 w2 hown hgrow hat2 hg2))
    have R2 : Aside (w2.ownsRow B 24 32 (.slice (some ⟨g2,0,none⟩) (nl + 1) c2) (nl + 1) (CELLS (L ++ Y)) ∧ KEPT (fun k => (Value.slice pa nl pc).ownBlock = some k) w w2 ∧ ((Value.slice pa nl pc).ownBlock = some g2 ∨ w.heap.size ≤ g2) ∧ Has w2 bm #[.slice (some ⟨gl,0,none⟩) t lc,.slice (some ⟨gm,0,none⟩) (t + 1) mc] 73 ∧ w2.ownsRow B 24 32 (.slice (some ⟨gl,0,none⟩) t lc) t (CELLS LR)) := by
      have hb1 : Below w.heap.size w (W0.alloc (.cells (CELLS Y).toArray 24)) := R0.out.1.alloc R0.out.1.size _
      have hbl := R0.out.2.1.lt
      refine ⟨by rw [CELLS_append]; exact hown,(KEPT.of_below hb1).trans (A' := fun k => (Value.slice pa nl pc).ownBlock = some k) (KEPT.of_grown hgrow (fun k e => e)) (fun k e => .inl e), ?_,(hgrow.block bm (by simp; omega) (fun e => ?_)).trans (R0.out.2.1.alloc _),own_heap (R1.out.2.1.alloc _) fun k e => hgrow.block k ((R1.out.2.1.alloc _).lt k e).2 (fun e2 => HA.out.2.2.2.2.2.2 k e2.symm e)⟩
      · rcases hat2 with h | h
        · exact .inl h
        · exact .inr (by have := R0.out.1.size; simp at h; omega)
      · have h1 := R1.out.2.2 bm e.symm
        have h2 := R0.out.2.2
        omega
    clear hown hgrow hat2 hg2 hat x0 x1 R0 R1
    have x0 := R2.out.2.2.2.1.cell 0
    by_cases hlc : lc = nl + 1
    · have SF : Aside (Flat w2 (some ⟨gl,0,none⟩) (t - (nl + 1)) (LR.drop (32 * (nl + 1)))) := by
        have h := (own_flat R2.out.2.2.2.2 HA.out.2.2.2.2.1).behind (nl + 1) HA.out.2.2.1 HA.out.2.2.2.2.2.1
        rw [show SLA (some ⟨gl,0,none⟩) lc (nl + 1) = some ⟨gl,0,none⟩ by simp [SLA,hlc]] at h
        exact h
      go_wp2_with (at_builtin; refine app_hashesl _ rfl (.tmp 22) (.tmp 27) rfl B g2 (nl + 1) c2 (CELLS (L ++ Y)) rfl R2.out.1 ⟨gl,0,none⟩ (t - (nl + 1)) 0 (LR.drop (32 * (nl + 1))) rfl SF.out (by have := HA.out; omega) (by have := HA.out.2.2.2.1; have := R2.out.2.1.size; omega) ?_; rw [show nl + 1 + (t - (nl + 1)) = t by have := HA.out.2.2.1; omega]; intro g3 c3 w3 hown hgrow hat3)
      have FN : Aside (w3.ownsRow B 24 32 (.slice (some ⟨g3,0,none⟩) t c3) t (CELLS Z) ∧ KEPT (fun k => (Value.slice pa nl pc).ownBlock = some k) w w3 ∧ ∀ k,(Value.slice (some ⟨g3,0,none⟩) t c3).ownBlock = some k → (Value.slice pa nl pc).ownBlock = some k ∨ w.heap.size ≤ k) := by
        refine ⟨by rw [← HZ.out,CELLS_append]; exact hown,R2.out.2.1.trans (A' := fun k => k = g2) (KEPT.of_grown hgrow (fun k e => by simpa using e.symm)) (fun k e => ?_),fun k e => ?_⟩
        · subst e
          exact R2.out.2.2.1
        · have e3 : g3 = k := by simpa [Value.ownBlock] using e
          rw [← e3]
          rcases hat3 with h | h
          · rw [h]
            exact R2.out.2.2.1
          · exact .inr (by have := R2.out.2.1.size; omega)
      clear hown hgrow R2 HA x0 SF
      go_ret
      exact ⟨_,c3,rfl,FN.out⟩
    · have SF : Aside (Flat w2 (some ⟨gl,(nl + 1) * 32,none⟩) (t - (nl + 1)) (LR.drop (32 * (nl + 1)))) := by
        have h := (own_flat R2.out.2.2.2.2 HA.out.2.2.2.2.1).behind (nl + 1) HA.out.2.2.1 HA.out.2.2.2.2.2.1
        rw [show SLA (some ⟨gl,0,none⟩) lc (nl + 1) = some ⟨gl,(nl + 1) * 32,none⟩ by simp [SLA,hlc]] at h
        exact h
      go_wp2_with (at_builtin; refine app_hashesl _ rfl (.tmp 22) (.tmp 27) rfl B g2 (nl + 1) c2 (CELLS (L ++ Y)) rfl R2.out.1 ⟨gl,(nl + 1) * 32,none⟩ (t - (nl + 1)) (lc - (nl + 1)) (LR.drop (32 * (nl + 1))) rfl SF.out (by have := HA.out; omega) (by have := HA.out.2.2.2.1; have := R2.out.2.1.size; omega) ?_; rw [show nl + 1 + (t - (nl + 1)) = t by have := HA.out.2.2.1; omega]; intro g3 c3 w3 hown hgrow hat3)
      have FN : Aside (w3.ownsRow B 24 32 (.slice (some ⟨g3,0,none⟩) t c3) t (CELLS Z) ∧ KEPT (fun k => (Value.slice pa nl pc).ownBlock = some k) w w3 ∧ ∀ k,(Value.slice (some ⟨g3,0,none⟩) t c3).ownBlock = some k → (Value.slice pa nl pc).ownBlock = some k ∨ w.heap.size ≤ k) := by
        refine ⟨by rw [← HZ.out,CELLS_append]; exact hown,R2.out.2.1.trans (A' := fun k => k = g2) (KEPT.of_grown hgrow (fun k e => by simpa using e.symm)) (fun k e => ?_),fun k e => ?_⟩
        · subst e
          exact R2.out.2.2.1
        · have e3 : g3 = k := by simpa [Value.ownBlock] using e
          rw [← e3]
          rcases hat3 with h | h
          · rw [h]
            exact R2.out.2.2.1
          · exact .inr (by have := R2.out.2.1.size; omega)
      clear hown hgrow R2 HA x0 SF
      go_ret
      exact ⟨_,c3,rfl,FN.out⟩
end Go.Proofs.YtkpgbhokoohimaaDoor

/- What a carry does when it hears of an append. -/
namespace Go.Proofs.YtkpgbhokoohimaaDoor
open Go.RowKit
set_option maxRecDepth 100000

theorem EVT_range {w : World} {b : Nat} {C : Array Value} {t : TypeId} (h : Has w b C t) : w.rangeAt b 0 C.toList := fun j v hv => by rw [Nat.zero_add,h.cell, ← Array.getElem?_toList]; exact hv
theorem info_event (X : Nat) (leaf : List Int) (hl : leaf.length = 32) (v : Value) : (Tryd.prog.info? 27).map (·.size) = some (EVT X leaf v).toList.length := by
  rw [show (EVT X leaf v).toList.length = 34 by simp [EVT,CELLS,hl]]
  kernel_rfl
/-- what is told of the blocks: what On leaves alone. -/
def ONED (w : World) (B b : Nat) (d : Int) (S I : Nat) (leaf : List Int) (pv lv : Value) (st t nl : Nat) (P L H : List Int) (e : Ending) (w' : World) : Prop :=
  e = .returned (.int .i64 0) ∧ ∃ pv' lv',CARRY w' B b d (S + 1) I leaf pv' (st + 1) (P.take (32 * st) ++ MDF d H (REVH t (P.drop (32 * st))) t) lv' (LGN t nl) (LGT t nl L (REVH t (P.drop (32 * st))) (MDS d H (REVH t (P.drop (32 * st))) t)) ∧ KEPT (CFT b pv lv) w w' ∧ ∀ k,CFT b pv' lv' k → CFT b pv lv k ∨ w.heap.size ≤ k
set_option maxHeartbeats 4000000 in
theorem on_not (B b : Nat) (d : Int) (S I : Nat) (leaf : List Int) (pa : Option Addr) (np pc : Nat) (P : List Int) (lv : Value) (nl : Nat) (L : List Int) (X : Nat) (H : List Int) (hH : H.length = 32) (a : Option Addr) (n c : Nat) (l : List Int) (hn : n ≤ 1000000) (hPr : ∀ x ∈ P,0 ≤ x ∧ x ≤ 255) (w : World) (hC : CARRY w B b d S I leaf (.slice pa np pc) np P lv nl L) (hF : Flat w a n l) (hE : RFS S X l P ≠ 0) :
    Calls Tryd.prog 28 #[.pointer (some ⟨b,0,none⟩),.agg (EVT X H (.slice a n c))] w fun e w' => e = .returned (.int .i64 (RFS S X l P)) ∧ Below w.heap.size w w' := by
  obtain ⟨W0,hW0⟩ : ∃ W0,w.alloc (.cells (EVT X H (.slice a n c)) 27) = W0 := ⟨_,rfl⟩
  obtain ⟨be,hbe⟩ : ∃ be,w.heap.size = be := ⟨_,rfl⟩
  have R0 : Aside (Below w.heap.size w W0 ∧ Has W0 be (EVT X H (.slice a n c)) 27) := by
    rw [← hW0, ← hbe]
    exact ⟨(Below.refl _ _).alloc (Nat.le_refl _) _,Has.new _ _ _⟩
  have hI := info_event X H hH (.slice a n c)
  have SR : Aside (∀ W,Below W0.heap.size W0 W → W.rangeAt be 0 (EVT X H (.slice a n c)).toList) := fun W hb => EVT_range (R0.out.2.keep hb)
  have CR : Aside (∀ W,Below W0.heap.size W0 W → Calls Tryd.prog 37 #[.pointer (some ⟨b,0,none⟩),.agg (EVT X H (.slice a n c))] W fun e w' => e = .returned (.int .i64 (RFS S X l P)) ∧ Below W0.heap.size W0 w') := fun W hb => by
    have h := R0.out.1.trans (hb.mono R0.out.1.size)
    have hc := CRR_at (hC.has.keep h) hC.len
    exact (refuse_ok b S X H hH pa np pc P a n c l hn W hc.2.1 hc.2.2.1 ((own_flat hC.peaks hPr).below h) (hF.below h)).mono fun e w' z => ⟨z.1,hb.trans (z.2.mono hb.size)⟩
  have hne : ((RFS S X l P) == 0) = false := beq_eq_false_iff_ne.2 hE
  generalize RFS S X l P = E0 at *
  generalize EVT X H (.slice a n c) = V at *
  clear hC hF hE hH hn hPr
  go_enter Tryd.func28,Tryd.ntmps28
  go_upto_region 1 with fail
  clear hW0 hbe
  refine on1 _ b be V E0 hI (fun W => Below W0.heap.size W0 W) (fun W => Below W0.heap.size W0 W) (Below.refl _ _).drew SR.out SR.out CR.out (fun _ _ _ _ _ h => h) ?_
  intro w1 hb1
  have FN : Aside (Below w.heap.size w w1) := R0.out.1.trans (hb1.mono R0.out.1.size)
  clear hb1 R0 SR CR hI
  go_wp2_with fail
  go_ret
  exact ⟨rfl,FN.out⟩
/-- what lies there behind grow. -/
def GRWD (w : World) (B b : Nat) (d : Int) (S I : Nat) (leaf : List Int) (pv lv : Value) (st t nl : Nat) (P L LR M F : List Int) (mv : Array Value) (W : World) : Prop :=
  ∃ la' lc' ma mc pa' pc',mv = #[.slice la' t lc',.slice ma (t + 1) mc] ∧ Has W b (CRR d (S + 1) (.slice pa' (st + 1) pc') leaf I lv) 71 ∧ W.ownsRow B 24 32 lv nl (CELLS L) ∧ W.ownsRow B 24 32 (.slice la' t lc') t (CELLS LR) ∧ W.ownsRow B 24 32 (.slice ma (t + 1) mc) (t + 1) (CELLS M) ∧
    W.ownsRow B 24 32 (.slice pa' (st + 1) pc') (st + 1) (CELLS (P.take (32 * st) ++ F)) ∧ (∀ k,lv.ownBlock = some k → (Value.slice la' t lc').ownBlock ≠ some k) ∧ (∀ k,(Value.slice pa' (st + 1) pc').ownBlock = some k → k ≠ b ∧ lv.ownBlock ≠ some k ∧ (pv.ownBlock = some k ∨ w.heap.size ≤ k)) ∧ KEPT (fun k => k = b ∨ pv.ownBlock = some k) w W
theorem grown_facts {w W2 W : World} {B b : Nat} {d : Int} {S I : Nat} {leaf : List Int} {pv lv : Value} {np st t nl : Nat} {P L LR M F : List Int} {mv : Array Value} (hC : CARRY w B b d S I leaf pv np P lv nl L) (hB : B ≤ w.heap.size) (h2 : Below w.heap.size w W2) (h : GROWN W2 b B (CRR d S pv leaf I lv) S pv st t P LR M F (.returned (.agg mv)) W) : GRWD w B b d S I leaf pv lv st t nl P L LR M F mv W := by
  obtain ⟨la',lc',ma,mc,pa',pc',e,o1,o2,_,o3,hh,f1,_,hk⟩ := h
  have e' : mv = #[.slice la' t lc',.slice ma (t + 1) mc] := by injection e with e; injection e with e
  rw [CRR_set2,CRR_set1] at hh
  have hC2 := hC.below h2
  have l2 := hC2.path.lt
  have lb := hC2.has.lt
  have z := h2.size
  refine ⟨la',lc',ma,mc,pa',pc',e',hh,hk.own hC2.path (fun k ek hn => hn.elim (fun q => hC.ap2 k ek q) (fun q => hC.ap3 k q ek)),own_mono o1 (by omega),own_mono o2 (by omega),o3,fun k ek e1 => ?_,fun k ek => ⟨?_, ?_, ?_⟩,(KEPT.of_below h2).trans hk (fun k q => .inl q)⟩
  · have := (l2 k ek).2
    have := (o1.lt k e1).1
    omega
  · rcases f1 k ek with q | q
    · exact hC.ap1 k q
    · omega
  · rcases f1 k ek with q | q
    · exact hC.ap3 k q
    · intro q2
      have := (l2 k q2).2
      omega
  · exact (f1 k ek).imp id (fun q => by omega)
theorem on_fin {w W wx : World} {B b : Nat} {d : Int} {S I : Nat} {leaf : List Int} {pv lv : Value} {np st t nl n2 c2 : Nat} {a2 : Option Addr} {P L LR M F : List Int} {mv : Array Value} (hC : CARRY w B b d S I leaf pv np P lv nl L) (h : GRWD w B b d S I leaf pv lv st t nl P L LR M F mv W) (hl : LGTH W B lv (LGN t nl) (LGT t nl L LR M) (.returned (.slice a2 n2 c2)) wx) :
    ∃ pv' lv',CARRY (wx.setCell ⟨b,36,none⟩ (.slice a2 n2 c2)) B b d (S + 1) I leaf pv' (st + 1) (P.take (32 * st) ++ F) lv' (LGN t nl) (LGT t nl L LR M) ∧ KEPT (CFT b pv lv) w (wx.setCell ⟨b,36,none⟩ (.slice a2 n2 c2)) ∧ ∀ k,CFT b pv' lv' k → CFT b pv lv k ∨ w.heap.size ≤ k := by
  obtain ⟨la',lc',ma,mc,pa',pc',_,hh,oL,_,_,oP,_,fp,hk⟩ := h
  obtain ⟨a3,c3,e,o,hk2,f2⟩ := hl
  have e' : Value.slice a2 n2 c2 = .slice a3 (LGN t nl) c3 := by injection e
  rw [e']
  have z := hk.size
  have lb := hh.lt
  have ks : KEPT (fun k => k = b) wx (wx.setCell ⟨b,36,none⟩ (.slice a3 (LGN t nl) c3)) := KEPT.of_set wx _ _ rfl
  have lvb : ∀ k,(Value.slice a3 (LGN t nl) c3).ownBlock = some k → k ≠ b := fun k ek q => by
    rcases f2 k ek with r | r
    · exact hC.ap2 k r q
    · omega
  have hx : Has wx b (CRR d (S + 1) (.slice pa' (st + 1) pc') leaf I lv) 71 := hk2.has hh (fun q => hC.ap2 b q rfl)
  have hy := hx.set 36 (.slice a3 (LGN t nl) c3)
  rw [CRR_set36 _ _ _ _ _ _ hC.len] at hy
  refine ⟨_,_,⟨hy,ks.own (hk2.own oP (fun k ek => (fp k ek).2.1)) (fun k ek => (fp k ek).1),ks.own o lvb,hC.at0,fun k ek => (fp k ek).1,lvb,fun k ek e1 => ?_,hC.len⟩, ?_, ?_⟩
  · rcases f2 k e1 with r | r
    · exact (fp k ek).2.1 r
    · have := (oP.lt k ek).2
      omega
  · refine ((hk.mono (fun k q => ?_)).trans hk2 (fun k q => .inl (.inr (.inr q)))).trans ks (fun k q => .inl (.inl q))
    exact q.elim .inl (fun r => .inr (.inl r))
  · rintro k (q | q | q)
    · exact .inl (.inl q)
    · exact (fp k q).2.2.imp (fun r => .inr (.inl r)) id
    · exact (f2 k q).imp (fun r => .inr (.inr r)) (fun r => by omega)
set_option maxHeartbeats 8000000 in
theorem on_ok (B b : Nat) (d : Int) (S I : Nat) (leaf : List Int) (pa : Option Addr) (np pc st t : Nat) (P : List Int) (la : Option Addr) (nl lc : Nat) (L : List Int) (H : List Int) (hH : IsH H) (a : Option Addr) (n c : Nat) (hn : n ≤ 1000000) (hPr : ∀ x ∈ P,0 ≤ x ∧ x ≤ 255) (hnt : np = st + t) (hnp : np ≤ 64) (hnl : nl ≤ 64) (hS : S < 4611686018427387904) (w : World) (hC : CARRY w B b d S I leaf (.slice pa np pc) np P (.slice la nl lc) nl L) (hF : Flat w a n P) (hB : B ≤ w.heap.size)
    (hT : Tabled w) (hX : HX.Tabled w) (h0 : 2 < w.heap.size) (hlow : ∀ W,Tabled W → Calls Tryd.prog 45 #[.int .u64 ((18446744073709551615 - S : Nat) : Int)] W fun e w' => e = .returned (.int .i64 (t : Int)) ∧ W = w')
    (hrev : ∀ W BB a c X,X.length = 32 * t → W.ownsRow BB 24 32 (.slice a t c) t (CELLS X) → Calls Tryd.prog 46 #[.slice a t c] W fun e w' => e = .returned (.tuple #[]) ∧ w'.ownsRow BB 24 32 (.slice a t c) t (CELLS (REVH t X)) ∧ W.grownBy w' (Value.slice a t c).ownBlock) :
    Calls Tryd.prog 28 #[.pointer (some ⟨b,0,none⟩),.agg (EVT S H (.slice a n c))] w (ONED w B b d S I leaf (.slice pa np pc) (.slice la nl lc) st t nl P L H) := by
  obtain ⟨W0,hW0⟩ : ∃ W0,w.alloc (.cells (EVT S H (.slice a n c)) 27) = W0 := ⟨_,rfl⟩
  obtain ⟨be,hbe⟩ : ∃ be,w.heap.size = be := ⟨_,rfl⟩
  have R0 : Aside (Below w.heap.size w W0 ∧ Has W0 be (EVT S H (.slice a n c)) 27 ∧ w.heap.size = be) := by
    rw [← hW0, ← hbe]
    exact ⟨(Below.refl _ _).alloc (Nat.le_refl _) _,Has.new _ _ _,rfl⟩
  have hI := info_event S H hH.1 (.slice a n c)
  have hR0 : RFS S S P P = 0 := by unfold RFS; rw [if_neg (by simp),if_neg (by omega),if_neg (by simp)]
  have SR : Aside (∀ W,Below W0.heap.size W0 W → W.rangeAt be 0 (EVT S H (.slice a n c)).toList) := fun W hb => EVT_range (R0.out.2.1.keep hb)
  have SR1 : Aside (∀ W,Has W be (EVT S H (.slice a n c)) 27 → W.rangeAt be 1 (CELLS H)) := fun W hb => (EVT_at hb hH.1).2.1
  have CR : Aside (∀ W,Below W0.heap.size W0 W → Calls Tryd.prog 37 #[.pointer (some ⟨b,0,none⟩),.agg (EVT S H (.slice a n c))] W fun e w' => e = .returned (.int .i64 0) ∧ Below W0.heap.size W0 w') := fun W hb => by
    have h := R0.out.1.trans (hb.mono R0.out.1.size)
    have hc := CRR_at (hC.has.keep h) hC.len
    have := refuse_ok b S S H hH.1 pa np pc P a n c P hn W hc.2.1 hc.2.2.1 ((own_flat hC.peaks hPr).below h) (hF.below h)
    rw [hR0] at this
    exact this.mono fun e w' z => ⟨z.1,hb.trans (z.2.mono hb.size)⟩
  have CG : Aside (∀ W,Below W0.heap.size W0 W → Calls Tryd.prog 38 #[.pointer (some ⟨b,0,none⟩),.agg (CELLS H).toArray] W (GROWN W b B (CRR d S (.slice pa np pc) leaf I (.slice la nl lc)) S (.slice pa np pc) st t P (REVH t (P.drop (32 * st))) (MDS d H (REVH t (P.drop (32 * st))) t) (MDF d H (REVH t (P.drop (32 * st))) t))) := fun W hb => by
    have h := R0.out.1.trans (hb.mono R0.out.1.size)
    exact grow_ok d S b B (CRR d S (.slice pa np pc) leaf I (.slice la nl lc)) H hH pa np pc st t P hPr hnt hnp hS W (hC.has.keep h) (by simp [CRR]) (by simp [CRR]) (by simp [CRR]) (own_below hC.peaks h) (Nat.le_trans hB h.size) hC.ap1 (hT.below (by omega) h) (hX.below h) (Nat.lt_of_lt_of_le h0 h.size) hlow hrev
  have HA : Aside (IsH H ∧ np = st + t ∧ np ≤ 64 ∧ nl ≤ 64 ∧ B ≤ w.heap.size ∧ CARRY w B b d S I leaf (.slice pa np pc) np P (.slice la nl lc) nl L ∧ (∀ x ∈ REVH t (P.drop (32 * st)),0 ≤ x ∧ x ≤ 255)) := ⟨hH,hnt,hnp,hnl,hB,hC,fun x hx => by
    obtain ⟨i,_,hi⟩ := List.mem_flatMap.1 hx
    exact hPr x (List.mem_of_mem_drop (HSH_mem hi))⟩
  have lH := hH.1
  unfold ONED
  generalize REVH t (P.drop (32 * st)) = LR at *
  generalize MDS d H LR t = M at *
  generalize MDF d H LR t = F at *
  have HV : Aside (EVT S H (.slice a n c) = EVT S H (.slice a n c)) := rfl
  generalize EVT S H (.slice a n c) = V at *
  clear hC hF hH hn hPr hnt hnp hnl hS hB hT hX h0 hlow hrev hR0
  go_enter Tryd.func28,Tryd.ntmps28
  go_upto_region 1 with fail
  clear hW0 hbe
  refine on1 _ b be V 0 hI (fun W => Below W0.heap.size W0 W) (fun W => Below W0.heap.size W0 W) (Below.refl _ _).drew SR.out SR.out CR.out (fun _ _ _ _ _ h => h) ?_
  intro w1 hb1
  have R1 : Aside (Below W0.heap.size W0 w1 ∧ Below w.heap.size w w1 ∧ Has w1 be V 27) := ⟨hb1,R0.out.1.trans (hb1.mono R0.out.1.size),R0.out.2.1.keep hb1⟩
  clear hb1 SR CR hI
  go_upto_region 4 with fail
  have ne1 : be ≠ b := by have := HA.out.2.2.2.2.2.1.has.lt; have := R0.out.2.2; omega
  have NB : Aside (¬ (be = b ∨ (Value.slice pa np pc).ownBlock = some be) ∧ (Value.slice la nl lc).ownBlock ≠ some be) := by
    have h := HA.out.2.2.2.2.2.1
    have e := R0.out.2.2
    refine ⟨fun q => q.elim (fun q => ne1 q) (fun q => ?_),fun q => ?_⟩
    · have := (h.peaks.lt be q).2
      omega
    · have := (h.path.lt be q).2
      omega
  have VB : Aside (∀ mv W,GRWD w B b d S I leaf (.slice pa np pc) (.slice la nl lc) st t nl P L LR M F mv W ∧ Has W be V 27 → W.cell? ⟨b,36,none⟩ = some (.slice la nl lc)) := by
    rintro mv W ⟨⟨_,_,_,_,_,_,_,hh,_⟩,_⟩
    exact (CRR_at hh HA.out.2.2.2.2.2.1.len).2.2.2.2.2
  have VC : Aside (∀ mv a2 n2 c2 W,(∃ W3,(GRWD w B b d S I leaf (.slice pa np pc) (.slice la nl lc) st t nl P L LR M F mv W3 ∧ Has W3 be V 27) ∧ LGTH W3 B (.slice la nl lc) (LGN t nl) (LGT t nl L LR M) (.returned (.slice a2 n2 c2)) W) → Has W be V 27 ∧ W.cell? ⟨b,36,none⟩ = some (.slice la nl lc) ∧ W.frozen? ⟨b,36,none⟩ = false) := by
    rintro mv a2 n2 c2 W ⟨W3,⟨⟨_,_,_,_,_,_,_,hh,_⟩,hv⟩,⟨_,_,_,_,hk2,_⟩⟩
    have hx := hk2.has hh (fun q => HA.out.2.2.2.2.2.1.ap2 b q rfl)
    exact ⟨hk2.has hv NB.out.2,(CRR_at hx HA.out.2.2.2.2.2.1.len).2.2.2.2.2,hx.frozen 36⟩
  refine on4 _ b be H lH la nl lc ne1 (fun W => Below w1.heap.size w1 W) (fun mv W => GRWD w B b d S I leaf (.slice pa np pc) (.slice la nl lc) st t nl P L LR M F mv W ∧ Has W be V 27) (fun mv a2 n2 c2 W => ∃ W3,(GRWD w B b d S I leaf (.slice pa np pc) (.slice la nl lc) st t nl P L LR M F mv W3 ∧ Has W3 be V 27) ∧ LGTH W3 B (.slice la nl lc) (LGN t nl) (LGT t nl L LR M) (.returned (.slice a2 n2 c2)) W) (Below.refl _ _).drew (fun W hb => SR1.out W (R1.out.2.2.keep hb)) (fun mv W h => SR1.out W h.2) (fun mv a2 n2 c2 W h => SR1.out W (VC.out _ _ _ _ _ h).1) (fun W hb => ?_) (fun mv W h => VB.out mv W h) (fun mv a2 n2 c2 W h => (VC.out _ _ _ _ _ h).2) (fun W hb => ?_) (fun W mv h => ?_) (fun _ _ _ _ _ h => h) ?_
  · exact (CRR_at (HA.out.2.2.2.2.2.1.has.keep (R1.out.2.1.trans (hb.mono R1.out.2.1.size))) HA.out.2.2.2.2.2.1.len).2.2.2.2.2
  · have hz := R1.out.1.trans (hb.mono R1.out.1.size)
    refine (CG.out W hz).mono fun e w' h => ?_
    obtain ⟨x1,x2,x3,x4,_,_,e1,_⟩ := id h
    rw [e1] at h ⊢
    refine ⟨_,rfl,grown_facts HA.out.2.2.2.2.2.1 HA.out.2.2.2.2.1 (R1.out.2.1.trans (hb.mono R1.out.2.1.size)) h, ?_⟩
    obtain ⟨_,_,_,_,_,_,_,_,_,_,_,_,_,_,hk⟩ := h
    exact hk.has (R1.out.2.2.keep hb) NB.out.1
  · obtain ⟨⟨la',lc',ma,mc,pa',pc',e,hh,oL,o1,o2,oP,fL,fp,hk⟩,hv⟩ := id h
    subst e
    refine (lengthen_ok B la' t lc' ma mc la nl lc L LR M (by have := HA.out; omega) HA.out.2.2.2.1 W oL o1 o2 HA.out.2.2.2.2.2.2 (Nat.le_trans HA.out.2.2.2.2.1 hk.size) fL).mono fun e' w' h' => ?_
    obtain ⟨a2,c2,e1,_⟩ := id h'
    rw [e1] at h' ⊢
    exact ⟨_,_,_,rfl,W,h,h'⟩
  · rintro mv a2 n2 c2 w4 ⟨wx,⟨W3,⟨hg,_⟩,hl⟩,e4⟩
    have FN : Aside (∃ pv' lv',CARRY w4 B b d (S + 1) I leaf pv' (st + 1) (P.take (32 * st) ++ F) lv' (LGN t nl) (LGT t nl L LR M) ∧ KEPT (CFT b (.slice pa np pc) (.slice la nl lc)) w w4 ∧ ∀ k,CFT b pv' lv' k → CFT b (.slice pa np pc) (.slice la nl lc) k ∨ w.heap.size ≤ k) := by
      rw [e4]
      exact on_fin HA.out.2.2.2.2.2.1 hg hl
    clear e4 hg hl VB VC NB ne1 HA R0 R1 CG SR1
    go_wp2_with fail
    go_ret
    exact ⟨rfl,FN.out⟩
end Go.Proofs.YtkpgbhokoohimaaDoor

/- What a carry tells: its size, its peaks, its proof. -/
namespace Go.Proofs.YtkpgbhokoohimaaDoor
open Go.RowKit
set_option maxRecDepth 100000

theorem csize_ok (b S : Nat) (w : World) (h1 : w.cell? ⟨b,1,none⟩ = some (.int .u64 (S : Int))) : Calls Tryd.prog 31 #[.pointer (some ⟨b,0,none⟩)] w fun e w' => e = .returned (.int .u64 (S : Int)) ∧ w = w' := by
  go_enter Tryd.func31,Tryd.ntmps31
  go_wp2
  go_ret
  exact ⟨rfl,rfl⟩
theorem cpeaks12_ok (b : Nat) (pa : Option Addr) (np pc : Nat) (P : List Int) (hn : np ≤ 1000) (hc : pa = none → pc = 0) (w : World) (h2 : w.cell? ⟨b,2,none⟩ = some (.slice pa np pc)) (hF : Flat w pa np P) : Calls Tryd.prog 30 #[.pointer (some ⟨b,0,none⟩)] w (CLONED w np P) := by
  have C := clone_ok pa np pc hn hc P w hF
  clear hF hn hc
  go_enter Tryd.func30,Tryd.ntmps30
  go_wp2_with fail
  refine C.mono ?_
  rintro e w1 ⟨a,c,rfl,h⟩
  have H : Aside (w1.ownsRow w.heap.size 24 32 (.slice a np c) np (CELLS P) ∧ np ≤ c ∧ (a = none → c = 0) ∧ Below w.heap.size w w1) := h
  clear C h h2
  go_wp2
  go_ret
  exact ⟨a,c,rfl,H.out⟩
/-- the first j hashes without the k-th, and how many these are. -/
def WOT (k : Nat) (P : List Int) : Nat → List Int
  | 0 => []
  | j + 1 => if j = k then WOT k P j else WOT k P j ++ HSH P j
def WON (k : Nat) : Nat → Nat
  | 0 => 0
  | j + 1 => if j = k then WON k j else WON k j + 1
theorem WON_le (k : Nat) : ∀ j,WON k j ≤ j
  | 0 => Nat.le_refl _
  | j + 1 => by
    have := WON_le k j
    unfold WON
    split <;> omega
/-- what proof answers. -/
def PRFD (w : World) (S I N : Nat) (l : List Int) (e : Ending) (w' : World) : Prop :=
  ∃ a c,e = .returned (.agg #[.int .u64 (S : Int),.int .u64 (I : Int),.slice a N c]) ∧ w'.ownsRow w.heap.size 24 32 (.slice a N c) N (CELLS l) ∧ Below w.heap.size w w'
set_option maxHeartbeats 8000000 in
theorem fproof_ok (b B S I pg np pc : Nat) (P : List Int) (la : Option Addr) (nl lc : Nat) (L : List Int) (hI : I < S) (hS : S ≤ 4611686018427387904) (hnp : np ≤ 64) (hnl : nl ≤ 64) (hc : la = none → lc = 0) (w : World) (h1 : w.cell? ⟨b,1,none⟩ = some (.int .u64 (S : Int))) (h2 : w.cell? ⟨b,2,none⟩ = some (.slice (some ⟨pg,0,none⟩) np pc)) (hP : w.ownsRow B 24 32 (.slice (some ⟨pg,0,none⟩) np pc) np (CELLS P)) (hF : Flat w la nl L) :
    Calls Tryd.prog 40 #[.pointer (some ⟨b,0,none⟩),.int .u64 (I : Int),.slice la nl lc] w (PRFD w S I (nl + WON (KTH I S) np) (L ++ WOT (KTH I S) P np)) := by
  have lP : P.length = 32 * np := by have := hP.1; simp [CELLS] at this; omega
  have CP : Aside (∀ W,Calls Tryd.prog 48 #[.int .u64 (I : Int),.int .u64 (S : Int)] W fun e w' => e = .returned (.tuple #[.int .i64 ((KTH I S : Nat) : Int),.bool true]) ∧ W = w') := fun W => peak_ok I S hI hS W
  have HA : Aside (np ≤ 64 ∧ nl ≤ 64 ∧ P.length = 32 * np ∧ Flat w la nl L ∧ (la = none → lc = 0) ∧ w.ownsRow B 24 32 (.slice (some ⟨pg,0,none⟩) np pc) np (CELLS P) ∧ w.cell? ⟨b,1,none⟩ = some (.int .u64 (S : Int)) ∧ w.cell? ⟨b,2,none⟩ = some (.slice (some ⟨pg,0,none⟩) np pc) ∧ b < w.heap.size) := ⟨hnp,hnl,lP,hF,hc,hP,h1,h2,World.block_lt_of_cell? w _ h1⟩
  generalize KTH I S = K at *
  clear hnp hnl lP hF hc hP h1 h2 hI hS
  obtain ⟨W0,hW0⟩ : ∃ W0,w.alloc (.cells #[.int .u64 0,.int .u64 0,.slice none 0 0] 56) = W0 := ⟨_,rfl⟩
  obtain ⟨rb,hrb⟩ : ∃ rb,w.heap.size = rb := ⟨_,rfl⟩
  have R0 : Aside (Below w.heap.size w W0 ∧ Has W0 rb #[.int .u64 0,.int .u64 0,.slice none 0 0] 56 ∧ w.heap.size = rb) := by
    rw [← hW0, ← hrb]
    exact ⟨(Below.refl _ _).alloc (Nat.le_refl _) _,Has.new _ _ _,rfl⟩
  have KB : Aside (∀ W,Below W0.heap.size W0 W → Below w.heap.size w W ∧ W.cell? ⟨b,1,none⟩ = some (.int .u64 (S : Int)) ∧ W.cell? ⟨b,2,none⟩ = some (.slice (some ⟨pg,0,none⟩) np pc) ∧ W.ownsRow B 24 32 (.slice (some ⟨pg,0,none⟩) np pc) np (CELLS P) ∧ Has W rb #[.int .u64 0,.int .u64 0,.slice none 0 0] 56) := fun W hb => by
    obtain ⟨a1,a2,a3,a4,a5,a6,a7,a8,a9⟩ := HA.out
    have h := R0.out.1.trans (hb.mono R0.out.1.size)
    exact ⟨h,(h.cell (p := ⟨b,1,none⟩) a9).trans a7,(h.cell (p := ⟨b,2,none⟩) a9).trans a8,own_below a6 h,R0.out.2.1.keep hb⟩
  have CC : Aside (Calls Tryd.prog 41 #[.slice la nl lc] W0 (CLONED W0 nl L)) := clone_ok la nl lc (by have := HA.out; omega) HA.out.2.2.2.2.1 L W0 (HA.out.2.2.2.1.below R0.out.1)
  have cP := CP.out W0
  have y1 := (KB.out W0 (Below.refl _ _)).2.1
  go_enter Tryd.func40,Tryd.ntmps40
  go_wp2_with fail
  refine cP.mono ?_
  rintro e _ ⟨rfl,rfl⟩
  clear cP CP y1 hW0 hrb
  have cC := CC.out
  go_wp2_with fail
  refine cC.mono ?_
  rintro e w1 ⟨a1,c1,rfl,ho,_,_,hb⟩
  clear cC CC
  have R1 : Aside (w1.ownsRow W0.heap.size 24 32 (.slice a1 nl c1) nl (CELLS L) ∧ Below W0.heap.size W0 w1) := ⟨ho,hb⟩
  have y2 := (KB.out w1 hb).2.2.1
  clear ho hb
  go_wp2_with fail
  clear y2
  go_loopg [9,28] np (fun q s9 s28 wx => ∃ i : Nat,s28 = .int .i64 (i : Int) ∧ Aside (i + q = np ∧ wx.ownsRow W0.heap.size 24 32 s9 (nl + WON K i) (CELLS (L ++ WOT K P i)) ∧ Below W0.heap.size W0 wx))
  case atStart => exact ⟨0,rfl,by omega,by simpa [WON,WOT] using R1.out.1,R1.out.2⟩
  case round =>
    obtain ⟨i,rfl,A⟩ := hrel
    clear R1
    cases gk with
    | zero =>
      obtain rfl : i = np := by have := A.out.1; omega
      have hlt : ¬ (i : Int) < (i : Int) := by omega
      obtain ⟨ua,uc,hu,_,_⟩ := own_shapeh A.out.2.1
      subst hu
      obtain ⟨k1,y1,_,_,hH⟩ := KB.out wr A.out.2.2
      have x0 : wr.cell? ⟨rb,0,none⟩ = some (.int .u64 0) := hH.cell 0
      have x1 : wr.cell? ⟨rb,1,none⟩ = some (.int .u64 0) := hH.cell 1
      have x2 : wr.cell? ⟨rb,2,none⟩ = some (.slice none 0 0) := hH.cell 2
      have f0 := hH.frozen 0
      have f1 := hH.frozen 1
      have f2 := hH.frozen 2
      have R : Aside (Below w.heap.size w wr ∧ Has wr rb #[.int .u64 0,.int .u64 0,.slice none 0 0] 56 ∧ wr.ownsRow W0.heap.size 24 32 (.slice ua (nl + WON K i) uc) (nl + WON K i) (CELLS (L ++ WOT K P i)) ∧ w.heap.size = rb ∧ rb < W0.heap.size ∧ w.heap.size ≤ W0.heap.size) := ⟨k1,hH,A.out.2.1,R0.out.2.2,R0.out.2.1.lt,R0.out.1.size⟩
      clear A k1 hH KB R0 HA
      generalize nl + WON K i = N at *
      generalize L ++ WOT K P i = l at *
      go_wp2
      obtain ⟨r1,r2,r3,r4,r5,r6⟩ := R.out
      have hH := ((r2.set 0 (.int .u64 (S : Int))).set 1 (.int .u64 (I : Int))).set 2 (.slice ua N uc)
      have hb := ((r1.setCell (p := ⟨rb,0,none⟩) (Nat.le_of_eq r4) (.int .u64 (S : Int))).setCell (p := ⟨rb,1,none⟩) (Nat.le_of_eq r4) (.int .u64 (I : Int))).setCell (p := ⟨rb,2,none⟩) (Nat.le_of_eq r4) (.slice ua N uc)
      have hn : ∀ k,(Value.slice ua N uc).ownBlock = some k → ¬ k = rb := fun k e q => by have := (r3.lt k e).1; omega
      have hU := (KEPT.of_set (A := fun k => k = rb) _ ⟨rb,2,none⟩ (.slice ua N uc) rfl).own ((KEPT.of_set (A := fun k => k = rb) _ ⟨rb,1,none⟩ (.int .u64 (I : Int)) rfl).own ((KEPT.of_set (A := fun k => k = rb) wr ⟨rb,0,none⟩ (.int .u64 (S : Int)) rfl).own r3 hn) hn) hn
      clear x0 x1 x2 f0 f1 f2 y1 R r1 r2 r3
      generalize ((wr.setCell ⟨rb,0,none⟩ (.int .u64 (S : Int))).setCell ⟨rb,1,none⟩ (.int .u64 (I : Int))).setCell ⟨rb,2,none⟩ (.slice ua N uc) = wf at *
      have z0 : wf.cell? ⟨rb,0,none⟩ = some (.int .u64 (S : Int)) := hH.cell 0
      have z1 : wf.cell? ⟨rb,1,none⟩ = some (.int .u64 (I : Int)) := hH.cell 1
      have z2 : wf.cell? ⟨rb,2,none⟩ = some (.slice ua N uc) := hH.cell 2
      refine bodyPost_ret (v := .agg #[.int .u64 (S : Int),.int .u64 (I : Int),.slice ua N uc]) ?_ rfl ⟨ua,uc,rfl,own_mono hU r6,hb⟩
      simp [results,Tryd.f40,go_sem,z0,z1,z2]
    | succ q =>
      have hlt : (i : Int) < (np : Int) := by have := A.out.1; omega
      have hi : i < np := by have := A.out.1; omega
      have hL := HSH_length HA.out.2.2.1 hi
      have hat := own_hash (KB.out wr A.out.2.2).2.2.2.1 hi HA.out.2.2.1
      have E1 : Aside (wrap64 ((i : Int) + 1) = ((i + 1 : Nat) : Int)) := by have := HA.out.1; show wrap64 ((i : Int) + 1) = ((i + 1 : Nat) : Int); unfold wrap64; omega
      have W1 : Aside (i ≠ K → WON K (i + 1) = WON K i + 1 ∧ WOT K P (i + 1) = WOT K P i ++ HSH P i) := fun h => ⟨if_neg h,if_neg h⟩
      have W2 : Aside (i = K → WON K (i + 1) = WON K i ∧ WOT K P (i + 1) = WOT K P i) := fun h => ⟨if_pos h,if_pos h⟩
      have W3 : Aside (nl + WON K i ≤ 1000) := by show nl + WON K i ≤ 1000; have := HA.out; have := WON_le K i; omega
      generalize HSH P i = H at *
      go_upto_region 6 with (first
        | (refine wpList_load_mid rfl 24 (.tmp 31) rfl pg (i * 32) rfl (CELLS H) _ hat Tryd.underlying24 rfl (info_cells hL) ?_)
        | (refine wpList_store_row rfl 24 (.tmp 11) (.tmp 32) rfl _ _ rfl rfl 24 _ (Has.new wr _ _) (info_arr hL) (by simp [CELLS,hL]) (cells_one H) ?_; rw [World.setRow_alloc_new]))
      have R4 : Aside (i + 1 + q = np ∧ Below W0.heap.size W0 (wr.alloc (.cells (CELLS H).toArray 24)) ∧ (wr.alloc (.cells (CELLS H).toArray 24)).ownsRow W0.heap.size 24 32 u9 (nl + WON K i) (CELLS (L ++ WOT K P i))) := ⟨by have := A.out.1; omega,A.out.2.2.alloc A.out.2.2.size _,A.out.2.1.alloc _⟩
      have hH4 : Has (wr.alloc (.cells (CELLS H).toArray 24)) wr.heap.size (CELLS H).toArray 24 := Has.new _ _ _
      clear A hat hlt hi
      generalize wr.alloc (.cells (CELLS H).toArray 24) = w4 at *
      generalize wr.heap.size = bh at *
      by_cases hk : i = K
      · have hk' : ((i : Int) != (K : Int)) = false := by simp [hk]
        have Z : Aside (i + 1 + q = np ∧ w4.ownsRow W0.heap.size 24 32 u9 (nl + WON K (i + 1)) (CELLS (L ++ WOT K P (i + 1))) ∧ Below W0.heap.size W0 w4) := by
          rw [(W2.out hk).1,(W2.out hk).2]
          exact ⟨R4.out.1,R4.out.2.2,R4.out.2.1⟩
        clear hk R4 W1 W2 W3 hH4 hL
        have e1 := E1.out
        go_wp2_with fail
        go_roundg q
        case measure => exact Nat.lt_succ_self _
        case rel => exact ⟨i + 1,by first | rfl | (rw [E1.out]),Z.out⟩
      · have hk' : ((i : Int) != (K : Int)) = true := by simp; omega
        have W4 : Aside (WON K (i + 1) = WON K i + 1 ∧ WOT K P (i + 1) = WOT K P i ++ H) := W1.out hk
        clear hk W1 W2
        go_wp2_with (first
          | (refine wpList_load_row rfl 24 (.tmp 11) rfl bh rfl 24 (CELLS H).toArray (0,0) _ hH4 Tryd.underlying24 rfl (info_arr hL) ?_)
          | (refine build_one _ rfl 25 24 (.tmp 37) rfl (CELLS H).toArray rfl 32 _ _ Tryd.underlying25 info_hashv (by simp [CELLS,hL]) rfl (by decide) (by decide) ?_)
          | (at_builtin; refine app_hash _ rfl (.tmp 36) (.tmp 38) rfl W0.heap.size u9 (nl + WON K i) _ rfl (R4.out.2.2.alloc _) _ 1 H hL rfl (Has.new _ _ _) W3.out (by have := R4.out.2.1.size; simp; omega) ?_; intro g5 c5 w5 hown hgrow hat hg))
        have Z : Aside (i + 1 + q = np ∧ w5.ownsRow W0.heap.size 24 32 (.slice (some ⟨g5,0,none⟩) (nl + WON K i + 1) c5) (nl + WON K (i + 1)) (CELLS (L ++ WOT K P (i + 1))) ∧ Below W0.heap.size W0 w5) := by
          obtain ⟨r1,r2,r3⟩ := R4.out
          rw [W4.out.1,W4.out.2, ← Nat.add_assoc, ← List.append_assoc,CELLS_append]
          exact ⟨r1,hown,(r2.alloc r2.size _).grown hgrow (by have := r2.size; simp; omega) (fun k e => (r3.lt k e).1)⟩
        clear hown hgrow hat hg R4 W3 W4 hL hH4
        have e1 := E1.out
        go_wp2_with fail
        go_roundg q
        case measure => exact Nat.lt_succ_self _
        case rel => exact ⟨i + 1,by first | rfl | (rw [E1.out]),Z.out⟩
end Go.Proofs.YtkpgbhokoohimaaDoor
