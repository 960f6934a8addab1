/- Texts of CarryEvents, one behind the other: CarryMarks. -/
import Derived.ArgAppend
import Derived.Test.YtkpgbhokoohimaaDoorCarryEventsP27
import Derived.Test.YtkpgbhokoohimaaDoorCarryEventsP29
/- Are hashes, are bytes that were handed in as they were? Marks, over peaks that are an event's own. -/
namespace Go.Proofs.YtkpgbhokoohimaaDoor
open Go.RowKit
set_option maxRecDepth 100000

theorem plain_ifc {ops : Array Oper} {rest : List Oper} {o : Oper} {a : Act} {w w' : World} {Q : Exit → Act → World → Prop} {v : Value} (hw : Region.wanted o (yielded ops a.tmps) = true) (hrun : (execOp a.eval o).run Tryd.prog w = .ok (.value v) w') (h : wpList Tryd.prog ops Q rest (a.put o.dst v) w') : wpList Tryd.prog ops Q (o :: rest) a w := by
  simp only [wpList]
  rw [if_pos hw]
  refine .inl ?_
  unfold Oper.wp
  rw [hrun]
  exact h
set_option maxHeartbeats 1000000 in
theorem kept12_ok (g n cap : Nat) (y : Option Addr) (cy : Nat) (l : List Int) (hn : n ≤ 1000) (hc : n + 1 ≤ cap) (w : World) (hA : Flat w (some ⟨g,0,none⟩) n l) (hB : Flat w y n l) (hg : g < w.heap.size) (hm : w.rangeAt g (n * 32) (CELLS MRK)) :
    Calls Tryd.prog 8 #[.slice (some ⟨g,0,none⟩) n cap,.slice y n cy] w fun e w' => e = .returned (.bool true) ∧ Below w.heap.size w w' := by
  have cs := samehashes_ok (some ⟨g,0,none⟩) y n n cap cy l l w hA hB (by omega)
  rw [decide_eq_true rfl] at cs
  have e1 : wrap64 ((n : Int) + 1) = ((n + 1 : Nat) : Int) := by unfold wrap64; omega
  have k0 : ((n + 1 : Nat) : Int) ≤ (cap : Int) := by omega
  have k1 : (n : Int) + 1 ≤ (cap : Int) := by omega
  have k2 : (n : Int) < (n : Int) + 1 := by omega
  have HM : Aside (g < w.heap.size ∧ w.rangeAt g (n * 32) (CELLS MRK)) := ⟨hg,hm⟩
  have hnq : ∀ x y (W : World),(do eqGuard .eql 24 x y (.agg (CELLS MRK).toArray) (.agg (CELLS MRK).toArray); binOp .eql 24 (.agg (CELLS MRK).toArray) (.agg (CELLS MRK).toArray) : Sem Value).run Tryd.prog W = .ok (.bool true) W := fun x y W => by
    have := eql_hashes (h := MRK) (g := MRK) rfl rfl x y W
    rw [this]
    simp
  clear hn hA hB hg hm
  go_enter Tryd.func8,Tryd.ntmps8
  go_wp2_with fail
  refine cs.mono ?_
  rintro e w1 ⟨rfl,hb1⟩
  have hr1 : w1.rangeAt g (n * 32) (CELLS MRK) := range_below HM.out.2 hb1 HM.out.1
  have FN : Aside (Below w.heap.size w w1) := hb1
  clear cs hb1 HM
  go_wp2_with (first
    | (refine load_mid_ifc (by rfl) 24 (.tmp 16) rfl g (n * 32) rfl (CELLS MRK) _ hr1 Tryd.underlying24 rfl (info_cells rfl) ?_)
    | (rw [← MRK_arr]; refine plain_ifc (by rfl) (run_value (hnq _ _ _)) ?_))
  go_ret
  exact ⟨rfl,FN.out⟩
set_option maxHeartbeats 1000000 in
theorem still12_ok (g n cap : Nat) (y : Option Addr) (cy : Nat) (l : List Int) (hn : n ≤ 100000) (hc : n + 1 ≤ cap) (w : World) (hA : Bytes w (some ⟨g,0,none⟩) n l) (hB : Bytes w y n l) (hg : g < w.heap.size) (hm : w.cell? ⟨g,n,none⟩ = some (.int .u8 171)) :
    Calls Tryd.prog 13 #[.slice (some ⟨g,0,none⟩) n cap,.slice y n cy] w fun e w' => e = .returned (.bool true) ∧ Below w.heap.size w w' := by
  have cs := samebytes_ok (some ⟨g,0,none⟩) y n n cap cy l l w hA hB (by omega)
  rw [decide_eq_true rfl] at cs
  have e1 : wrap64 ((n : Int) + 1) = ((n + 1 : Nat) : Int) := by unfold wrap64; omega
  have k1 : (n : Int) + 1 ≤ (cap : Int) := by omega
  have k2 : (n : Int) < (n : Int) + 1 := by omega
  have HM : Aside (g < w.heap.size ∧ w.cell? ⟨g,n,none⟩ = some (.int .u8 171)) := ⟨hg,hm⟩
  clear hn hA hB hg hm
  go_enter Tryd.func13,Tryd.ntmps13
  go_wp2_with fail
  refine cs.mono ?_
  rintro e w1 ⟨rfl,hb1⟩
  have x0 : w1.cell? ⟨g,n,none⟩ = some (.int .u8 171) := (hb1.cell (p := ⟨g,n,none⟩) HM.out.1).trans HM.out.2
  have FN : Aside (Below w.heap.size w w1) := hb1
  clear cs hb1 HM
  go_wp2_with fail
  go_ret
  exact ⟨rfl,FN.out⟩
set_option maxHeartbeats 1000000 in
theorem all12_ok (B g n c : Nat) (m : Int) (hn : n ≤ 1000000) (w : World) (h : w.ownsRow B 24 32 (.slice (some ⟨g,0,none⟩) n c) n (CELLS (MKS m n))) : Calls Tryd.prog 15 #[.slice (some ⟨g,0,none⟩) n c,.int .u8 m] w fun e w' => e = .returned (.bool true) ∧ w = w' := by
  have HA : Aside (n ≤ 1000000 ∧ w.ownsRow B 24 32 (.slice (some ⟨g,0,none⟩) n c) n (CELLS (MKS m n))) := ⟨hn,h⟩
  clear hn h
  go_enter Tryd.func15,Tryd.ntmps15
  go_wp2
  go_loopg [5] n (fun q s5 wx => ∃ j : Nat,s5 = .int .i64 (j : Int) ∧ Aside (j + q = n) ∧ wx = w)
  case atStart => exact ⟨0,rfl,by show 0 + n = n; omega,rfl⟩
  case round =>
    obtain ⟨j,rfl,A,rfl⟩ := hrel
    cases gk with
    | zero =>
      obtain rfl : j = n := by have := A.out; omega
      have hlt : ¬ (j : Int) < (j : Int) := by omega
      clear A HA
      go_wp2
      go_ret
      exact ⟨rfl,rfl⟩
    | succ q =>
      have hj : j + 1 + q = n := by have := A.out; omega
      have hlt : (j : Int) < (n : Int) := by omega
      have hat : wr.rangeAt g (j * 32) (CELLS (MK m)) := fun i v hv => by
        have hi : i < 32 := (List.getElem?_eq_some_iff.1 hv).1
        have := HA.out.2.cellAt (j * 32 + i) (by omega)
        rw [this,CELLS_get _ _ (by rw [MKS_length]; omega),show j * 32 + i = 32 * j + i by omega, ← HSH_at hi,MKS_at m (by omega), ← hv,CELLS_get _ _ (by rw [MK_length]; exact hi)]
      have R : Aside (j + 1 + q = n) := hj
      have E1 : Aside (wrap64 ((j : Int) + 1) = ((j + 1 : Nat) : Int)) := by have := HA.out.1; show wrap64 ((j : Int) + 1) = ((j + 1 : Nat) : Int); unfold wrap64; omega
      have hnq : ∀ x y (W : World),(do eqGuard .neq 24 x y (.agg (CELLS (MK m)).toArray) (.agg (CELLS (MK m)).toArray); binOp .neq 24 (.agg (CELLS (MK m)).toArray) (.agg (CELLS (MK m)).toArray) : Sem Value).run Tryd.prog W = .ok (.bool false) W := fun x y W => neq_cells (MK m) (MK_length m) x y W
      clear hj A HA
      go_wp2_with (first
        | (refine wpList_load_mid rfl 24 (.tmp 14) rfl g (j * 32) rfl (CELLS (MK m)) _ hat Tryd.underlying24 rfl (info_cells (MK_length m)) ?_)
        | (rw [← MK_arr]; refine wpList_plain rfl (fun K hK => step_pure (run_value (hnq _ _ _)) (hK _ _ ?_))))
      have e1 := E1.out
      go_wp2
      go_roundg q
      case measure => exact Nat.lt_succ_self _
      case rel => exact ⟨j + 1,by first | rfl | (rw [E1.out]),R,rfl⟩
theorem off_sym12 {a b : Value} (h : ∀ g,a.ownBlock = some g → b.ownBlock ≠ some g) : ∀ g,b.ownBlock = some g → a.ownBlock ≠ some g := fun g e1 e2 => h g e2 e1
theorem own_off12 {w w' : World} {B s n : Nat} {t : TypeId} {v : Value} {xs : List Value} {r : Option Nat} (h : w.ownsRow B t s v n xs) (hg : w.grownBy w' r) (ho : ∀ g,r = some g → v.ownBlock ≠ some g) : w'.ownsRow B t s v n xs := own_heap h fun k e => hg.block k (h.lt k e).2 fun e2 => ho k e2.symm e
/-- two lists of bytes of one's own, neither in the other's block. -/
structure BPAIR (w0 w : World) (B : Nat) (a : Value) (na : Nat) (xa : List Value) (b : Value) (nb : Nat) (xb : List Value) : Prop where
  ra : w.ownsRow B 5 1 a na xa
  rb : w.ownsRow B 5 1 b nb xb
  ap : ∀ g,a.ownBlock = some g → b.ownBlock ≠ some g
  bl : Below B w0 w
  bs : B ≤ w0.heap.size
theorem BPAIR.swap {w0 w : World} {B : Nat} {a : Value} {na : Nat} {xa : List Value} {b : Value} {nb : Nat} {xb : List Value} (h : BPAIR w0 w B a na xa b nb xb) : BPAIR w0 w B b nb xb a na xa := ⟨h.rb,h.ra,off_sym12 h.ap,h.bl,h.bs⟩
theorem BPAIR.step {w0 w w' : World} {B : Nat} {a : Value} {na : Nat} {xa : List Value} {b : Value} {nb : Nat} {xb : List Value} (h : BPAIR w0 w B a na xa b nb xb) {a' : Value} {na' : Nat} {xa' : List Value} (hown : w'.ownsRow B 5 1 a' na' xa') (hg : w.grownBy w' a.ownBlock) (hat : ∀ g,a'.ownBlock = some g → a.ownBlock = some g ∨ w.heap.size ≤ g) : BPAIR w0 w' B a' na' xa' b nb xb := by
  refine ⟨hown,own_off12 h.rb hg h.ap,fun g e1 e2 => ?_,h.bl.grown hg (Nat.le_trans h.bs h.bl.size) (fun k e => (h.ra.lt k e).1),h.bs⟩
  rcases hat g e1 with h1 | h1
  · exact h.ap g h1 e2
  · have := (h.rb.lt g e2).2
    omega
theorem BPAIR.alloc {w0 w : World} {B : Nat} {a : Value} {na : Nat} {xa : List Value} {b : Value} {nb : Nat} {xb : List Value} (h : BPAIR w0 w B a na xa b nb xb) (o : Obj) : BPAIR w0 (w.alloc o) B a na xa b nb xb := ⟨h.ra.alloc o,h.rb.alloc o,h.ap,h.bl.alloc (Nat.le_trans h.bs h.bl.size) o,h.bs⟩
theorem own_put8 {w : World} {B g n c j : Nat} {xs : List Value} {v : Value} (h : w.ownsRow B 5 1 (.slice (some ⟨g,0,none⟩) n c) n xs) (hj : j < n) : (∃ u,w.cell? ⟨g,j,none⟩ = some u) ∧ w.frozen? ⟨g,j,none⟩ = false ∧ (w.setCell ⟨g,j,none⟩ v).ownsRow B 5 1 (.slice (some ⟨g,0,none⟩) n c) n (xs.set j v) ∧ w.grownBy (w.setCell ⟨g,j,none⟩ v) (Value.slice (some ⟨g,0,none⟩) n c).ownBlock := by
  refine ⟨?_,h.frozenAt j,(h.stored j v).1,(h.stored j v).2⟩
  have := h.cellAt j (by omega)
  obtain ⟨u,hu⟩ : ∃ u,xs[j]? = some u := ⟨_,List.getElem?_eq_getElem (by have := h.1; omega)⟩
  exact ⟨u,this.trans hu⟩
/-- one mark more behind a list that is full. -/
theorem app_full {ops : Array Oper} {rest : List Oper} {o : Oper} {a : Act} {Q : Exit → Act → World → Prop} (w : World) (hgd : o.guard = none) (s x : Operand)
    (ho : o.op = .call { callee := .builtin .append,args := #[s,x],argTypes := #[25,25] })
    (ao : Option Addr) (n : Nat) (olds : List Int) (hs : a.eval s = .slice ao n n) (hnone : ao = none → n = 0) (hlo : olds.length = 32 * n) (holds : 0 < n → ∃ b off,ao = some ⟨b,off,none⟩ ∧ w.rangeAt b off (CELLS olds))
    (b c : Nat) (y : List Int) (hl : y.length = 32) (hx : a.eval x = .slice (some ⟨b,0,none⟩) 1 c) (hc : Has w b (CELLS y).toArray 24) (hb : n ≤ 1000)
    (h : ∀ g cap w',w'.ownsRow w.heap.size 24 32 (.slice (some ⟨g,0,none⟩) (n + 1) cap) (n + 1) (CELLS (olds ++ y)) → w.grownBy w' none → wpList Tryd.prog ops Q rest (a.put o.dst (.slice (some ⟨g,0,none⟩) (n + 1) cap)) w') : wpList Tryd.prog ops Q (o :: rest) a w := by
  obtain ⟨i,hi,hz,hs1,hby⟩ := info_parts info_hashv
  refine wpList_append_grows w hgd s x 25 ho 24 i (.agg ZARR) 32 32 Tryd.underlying25 hi hz hs1 hby rfl (by decide) ao n n (CELLS olds) hs (fun e => ⟨hnone e,hnone e⟩) (by rw [CELLS,List.length_map,hlo]; omega) ?_ ⟨b,0,none⟩ 1 c (CELLS y) hx (by rw [CELLS,List.length_map,hl]) ?_ (CELLS_one y) (by omega) (by simp only [maxLen]; omega) (by omega) ?_
  · intro ad e j u hj
    have hj' : j < 32 * n := by have := (List.getElem?_eq_some_iff.1 hj).1; rw [CELLS,List.length_map,hlo] at this; exact this
    obtain ⟨b',off,e2,hr⟩ := holds (by omega)
    rw [e] at e2
    cases e2
    rw [addr_add]
    exact hr j u hj
  · intro j u hj
    rw [addr_add,Nat.zero_add,hc.cell,List.getElem?_toArray]
    exact hj
  · intro v' w' h1 h2
    obtain ⟨g,cap,rfl⟩ : ∃ g cap,v' = .slice (some ⟨g,0,none⟩) (n + 1) cap := by
      rcases h1.2 with ⟨_,h0⟩ | ⟨g,cap,cur,e,_⟩
      · omega
      · exact ⟨g,cap,e⟩
    rw [← CELLS_append] at h1
    exact h g cap w' h1 h2
theorem OVERW_app {H xs vs : List Value} {o : Nat} (hv : o + vs.length ≤ xs.length) : OVERW (H ++ xs) (H.length + o) vs = H ++ OVERW xs o vs := by
  rw [OVERW_eq vs (H ++ xs) (H.length + o) (by rw [List.length_append]; omega),OVERW_eq vs xs o hv,List.take_append,List.take_of_length_le (by omega),List.drop_append,List.drop_eq_nil_of_le (show H.length ≤ H.length + o + vs.length by omega)]
  rw [show H.length + o - H.length = o by omega,show H.length + o + vs.length - H.length = o + vs.length by omega]
  simp
/-- peaks of which the first j are marks. -/
structure MST (w : World) (B : Nat) (a : Option Addr) (n : Nat) (xs : List Int) (m : Int) (j : Nat) (wx : World) : Prop where
  kept : KEPT (fun k => 0 < n ∧ ∃ o,a = some ⟨k,o,none⟩) w wx
  row : 0 < n → ∃ b H,a = some ⟨b,32,none⟩ ∧ B ≤ b ∧ H.length = 32 ∧ wx.ownsRow B 24 32 (.slice (some ⟨b,0,none⟩) (n + 1) (n + 1)) (n + 1) (CELLS H ++ MKP (CELLS xs) m j)
theorem MPK.start {w : World} {B : Nat} {a : Option Addr} {n c : Nat} {xs : List Int} (h : MPK w B a n c xs) (hl : xs.length = 32 * n) (hn : n ≤ 900) (m : Int) : c = n ∧ MST w B a n xs m 0 w := by
  rcases h with ⟨rfl,rfl⟩ | ⟨h0,rfl,b,H,rfl,hB,hH,hh⟩
  · exact ⟨rfl,KEPT.refl _ _,fun h => absurd h (Nat.lt_irrefl _)⟩
  · have hlen : (CELLS (H ++ xs)).length = (c + 1) * 32 := by rw [CELLS,List.length_map,List.length_append,hH,hl]; omega
    refine ⟨rfl,KEPT.refl _ _,fun _ => ⟨b,H,rfl,hB,hH, ?_,.inr ⟨b,c + 1,(CELLS (H ++ xs)).toArray,rfl,hB,hh,Nat.le_refl _,by simp only [maxLen]; omega,by rw [List.size_toArray]; exact hlen, ?_⟩⟩⟩
    · rw [MKP_zero, ← CELLS_append]
      exact hlen
    · rw [MKP_zero, ← CELLS_append]
      exact List.take_of_length_le (by rw [hlen]; exact Nat.le_refl _)
set_option maxHeartbeats 2000000 in
theorem mark12_ok (B : Nat) (a : Option Addr) (n c : Nat) (xs : List Int) (m : Int) (hn : n ≤ 900) (hl : xs.length = 32 * n) (ha : a = none → n = 0) (w : World) (h : MPK w B a n c xs) : Calls Tryd.prog 14 #[.slice a n c,.int .u8 m] w fun e w' =>
    ∃ g cap,e = .returned (.slice (some ⟨g,0,none⟩) (n + 1 + 1) cap) ∧ w'.ownsRow w.heap.size 24 32 (.slice (some ⟨g,0,none⟩) (n + 1 + 1) cap) (n + 1 + 1) (CELLS (MKS m (n + 1 + 1))) ∧ KEPT (fun k => 0 < n ∧ ∃ o,a = some ⟨k,o,none⟩) w w' := by
  obtain ⟨rfl,hs⟩ := h.start hl hn m
  have HA : Aside (c ≤ 900 ∧ xs.length = 32 * c ∧ (a = none → c = 0)) := ⟨hn,hl,ha⟩
  have HS : Aside (MST w B a c xs m 0 w) := hs
  clear h hs hl hn ha
  go_enter Tryd.func14,Tryd.ntmps14
  go_wp2
  go_loopg [5] c (fun q s5 wx => ∃ j : Nat,s5 = .int .i64 (j : Int) ∧ Aside (j + q = c ∧ MST w B a c xs m j wx))
  case atStart => exact ⟨0,rfl,by omega,HS.out⟩
  case round =>
    obtain ⟨j,rfl,A⟩ := hrel
    clear HS
    cases gk with
    | zero =>
      obtain rfl : j = c := by have := A.out.1; omega
      have hlt : ¬ (j : Int) < (j : Int) := by omega
      have R : Aside (j ≤ 900 ∧ (a = none → j = 0) ∧ KEPT (fun k => 0 < j ∧ ∃ o,a = some ⟨k,o,none⟩) w wr ∧ (0 < j → ∃ b off,a = some ⟨b,off,none⟩ ∧ wr.rangeAt b off (CELLS (MKS m j)) ∧ b < wr.heap.size)) := by
        obtain ⟨_,h1⟩ := A.out
        obtain ⟨a1,a2,a3⟩ := HA.out
        refine ⟨a1,a3,h1.kept,fun h0 => ?_⟩
        obtain ⟨b,H,rfl,hB,hH,hr⟩ := h1.row h0
        refine ⟨b,32,rfl,fun i v hv => ?_,(hr.lt b rfl).2⟩
        rw [MKP_all (by rw [CELLS,List.length_map]; exact a2)] at hr
        have hi : i < 32 * j := by have := (List.getElem?_eq_some_iff.1 hv).1; rw [CELLS,List.length_map,MKS_length] at this; exact this
        have := hr.cellAt (32 + i) (by omega)
        have hHl : (CELLS H).length = 32 := by rw [CELLS,List.length_map]; exact hH
        rw [this,List.getElem?_append_right (by rw [hHl]; omega),hHl,show 32 + i - 32 = i by omega]
        exact hv
      clear A HA
      go_wp2_with (first
        | (rw [← MK_arr]; refine build_one _ rfl 25 24 (.tmp 19) rfl (CELLS (MK m)).toArray rfl 32 _ _ Tryd.underlying25 info_hashv (by rfl) rfl (by decide) (by decide) ?_)
        | (at_builtin; refine app_full _ rfl (.tmp 17) (.tmp 20) rfl a j (MKS m j) rfl R.out.2.1 (MKS_length m j) (fun h0 => by
             obtain ⟨b,off,e,hr,hb⟩ := R.out.2.2.2 h0
             exact ⟨b,off,e,range_below hr ((Below.refl _ _).alloc (Nat.le_refl _) _) hb⟩) wr.heap.size 1 (MK m) rfl rfl (Has.new _ _ _) (by have := R.out.1; omega) ?_; intro g1 q1 w1 hown1 hgrow1
           have S : Aside (w1.ownsRow w.heap.size 24 32 (.slice (some ⟨g1,0,none⟩) (j + 1) q1) (j + 1) (CELLS (MKS m (j + 1))) ∧ KEPT (fun k => 0 < j ∧ ∃ o,a = some ⟨k,o,none⟩) w w1 ∧ w.heap.size ≤ g1) := by
             have hk := R.out.2.2.1.size
             have hal : KEPT (fun k => 0 < j ∧ ∃ o,a = some ⟨k,o,none⟩) w w1 := (R.out.2.2.1.trans (KEPT.of_below (A := fun _ => False) ((Below.refl _ _).alloc (Nat.le_refl _) (.cells (CELLS (MK m)).toArray 24))) (fun _ h => absurd h id)).trans (KEPT.of_grown (A := fun _ => False) hgrow1 (fun _ e => by cases e)) (fun _ h => absurd h id)
             have hb1 := (hown1.lt g1 rfl).1
             have hsz : wr.heap.size ≤ (wr.alloc (.cells (CELLS (MK m)).toArray 24)).heap.size := by simp
             exact ⟨own_mono hown1 (Nat.le_trans hk hsz),hal,Nat.le_trans hk (Nat.le_trans hsz hb1)⟩
           clear hown1 hgrow1)
        | (rw [← MK_arr]; refine build_one _ rfl 25 24 (.tmp 23) rfl (CELLS (MK m)).toArray rfl 32 _ _ Tryd.underlying25 info_hashv (by rfl) rfl (by decide) (by decide) ?_)
        | (at_builtin; refine app_hash _ rfl (.tmp 21) (.tmp 24) rfl w.heap.size _ (j + 1) _ rfl (S.out.1.alloc _) w1.heap.size 1 (MK m) rfl rfl (Has.new _ _ _) (by have := R.out.1; omega) (by have h1 := S.out.2.1.size; simp; omega) ?_; intro g2 q2 w2 hown2 hgrow2 hat2 hg2))
      have S2 : Aside (w2.ownsRow w.heap.size 24 32 (.slice (some ⟨g2,0,none⟩) (j + 1 + 1) q2) (j + 1 + 1) (CELLS (MKS m (j + 1 + 1))) ∧ KEPT (fun k => 0 < j ∧ ∃ o,a = some ⟨k,o,none⟩) w w2) := by
        obtain ⟨s1,s2,s3⟩ := S.out
        refine ⟨?_,(s2.trans (KEPT.of_below (A := fun _ => False) ((Below.refl _ _).alloc (Nat.le_refl _) _)) (fun _ h => absurd h id)).trans (KEPT.of_grown (A := fun k => k = g1) hgrow2 (fun k e => by cases e; rfl)) (fun k h => by subst h; exact .inr s3)⟩
        rw [show MKS m (j + 1 + 1) = MKS m (j + 1) ++ MK m from rfl,CELLS_append]
        exact hown2
      clear hown2 hgrow2 hat2 hg2 S R
      go_wp2
      go_ret
      exact ⟨_,_,rfl,S2.out⟩
    | succ q =>
      obtain ⟨hj,hst⟩ := A.out
      obtain ⟨a1,a2,a3⟩ := HA.out
      have hlt : (j : Int) < (c : Int) := by omega
      obtain ⟨b,H,rfl,hB,hH,hown⟩ := hst.row (by omega)
      have hcl : (CELLS xs).length = 32 * c := by rw [CELLS,List.length_map]; exact a2
      have hHl : (CELLS H).length = 32 := by rw [CELLS,List.length_map]; exact hH
      have hth : wr.there b (32 + j * 32) (CELLS (MK m)).toArray.size := fun i hi => by
        have hi : i < 32 := hi
        refine ⟨?_,hown.frozenAt _⟩
        rw [hown.cellAt (32 + j * 32 + i) (by omega),List.getElem?_eq_getElem (by rw [List.length_append,hHl,MKP_length hcl (by omega)]; omega)]
        rfl
      have hov := own_over (CELLS (MK m)) _ (32 + j * 32) wr hown
      have he : OVERW (CELLS H ++ MKP (CELLS xs) m j) (32 + j * 32) (CELLS (MK m)) = CELLS H ++ MKP (CELLS xs) m (j + 1) := by
        have := OVERW_app (H := CELLS H) (xs := MKP (CELLS xs) m j) (vs := CELLS (MK m)) (o := j * 32) (by rw [MKP_length hcl (by omega),CELLS,List.length_map,MK_length]; omega)
        rw [hHl,MKP_next hcl (by omega)] at this
        exact this
      rw [he] at hov
      have R : Aside (j + 1 + q = c ∧ MST w B (some ⟨b,32,none⟩) c xs m (j + 1) (wr.setCells b (32 + j * 32) (CELLS (MK m)).toArray.toList)) := ⟨by omega,hst.kept.trans (KEPT.of_grown (A := fun k => k = b) hov.2 (fun k e => by cases e; rfl)) (fun k h => by subst h; exact .inl ⟨by omega,32,rfl⟩),fun _ => ⟨b,H,rfl,hB,hH,hov.1⟩⟩
      have E1 : Aside (wrap64 ((j : Int) + 1) = ((j + 1 : Nat) : Int)) := by show wrap64 ((j : Int) + 1) = ((j + 1 : Nat) : Int); unfold wrap64; omega
      clear hj hown a1 a2 a3 hst hov he A HA hB hH hcl hHl
      go_wp2_with (first
        | (rw [← MK_arr]; refine wpList_store_mid rfl 24 (.tmp 16) (.tmp 15) rfl b (32 + j * 32) (CELLS (MK m)).toArray rfl rfl hth (info_arr (MK_length m)) (cells_one (MK m)) ?_))
      generalize wr.setCells b (32 + j * 32) (CELLS (MK m)).toArray.toList = w2 at *
      have e1 := E1.out
      go_wp2
      go_roundg q
      case measure => exact Nat.lt_succ_self _
      case rel => exact ⟨j + 1,by first | rfl | (rw [E1.out]),R.out⟩
end Go.Proofs.YtkpgbhokoohimaaDoor
