/- Texts of CarryEvents, one behind the other: CarryPut, CarryRefEncode, CarryRefDecode. -/
import Derived.Test.YtkpgbhokoohimaaDoorCarryEventsP6
import Derived.Test.YtkpgbhokoohimaaDoorCarryEventsP25
import Derived.Test.YtkpgbhokoohimaaDoorCarryEventsP27
import Derived.Test.YtkpgbhokoohimaaDoorCarryEventsP29
import Derived.Test.YtkpgbhokoohimaaDoorCarryEventsP31
import Derived.Test.YtkpgbhokoohimaaDoorCarryEventsP32
/- massifref7.Put behind any list that is not the one that is put; the document's EncodeEvent. -/
namespace Go.Proofs.YtkpgbhokoohimaaDoor
open Go.RowKit
set_option maxRecDepth 100000

theorem own_slicec {w : World} {base s n : Nat} {t : TypeId} {v : Value} {xs : List Value} (h : w.ownsRow base t s v n xs) : ∃ a c,v = .slice a n c := by
  rcases h.2 with ⟨rfl,h0⟩ | ⟨g,cap,cur,rfl,_⟩
  · subst h0
    exact ⟨_,_,rfl⟩
  · exact ⟨_,_,rfl⟩
/-- a list v has become s: nothing else has turned. -/
structure PUTF (B : Nat) (w : World) (v : Value) (wx : World) (s : Value) : Prop where
  bl : Below B w wx
  gr : w.grownBy wx v.ownBlock
  at_ : ∀ k,s.ownBlock = some k → v.ownBlock = some k ∨ w.heap.size ≤ k
theorem PUTF.refl (B : Nat) (w : World) (v : Value) : PUTF B w v w v := ⟨Below.refl _ _,grown_refl _ _,fun _ e => .inl e⟩
theorem PUTF.step {B : Nat} {w wx w2 : World} {v s : Value} {n np g c : Nat} {xs : List Value} (h : PUTF B w v wx s) (hs : wx.ownsRow B 5 1 s n xs) (hB : B ≤ wx.heap.size) (o : Obj) (hg : (wx.alloc o).grownBy w2 s.ownBlock) (hat : s.ownBlock = some g ∨ g = (wx.alloc o).heap.size) : PUTF B w v w2 (.slice (some ⟨g,0,none⟩) np c) := by
  have hsz := h.bl.size
  refine ⟨(h.bl.alloc hB o).grown hg (by simp; omega) (fun k e => (hs.lt k e).1),grown_trans (grown_trans h.gr (grown_alloc _ _ _) (.inl rfl)) hg ?_,fun k e => ?_⟩
  · cases e : s.ownBlock with
    | none => exact .inr fun g e2 => by cases e2
    | some k =>
      rcases h.at_ k e with x | x
      · exact .inl x.symm
      · exact .inr fun g e2 => by cases e2; exact x
  · cases e
    rcases hat with x | x
    · exact h.at_ g x
    · refine .inr ?_
      rw [x]
      simp
      omega
/-- one byte of a list of one's own. -/
theorem app_byte12 {ops : Array Oper} {rest : List Oper} {o : Oper} {a : Act} {Q : Exit → Act → World → Prop} (w : World) (hgd : o.guard = none) (s x : Operand)
    (ho : o.op = .call { callee := .builtin .append,args := #[s,x],argTypes := #[28,28] })
    (base : Nat) (v : Value) (n : Nat) (xs : List Value) (hs : a.eval s = v) (hown : w.ownsRow base 5 1 v n xs)
    (b c : Nat) (y : Int) (hx : a.eval x = .slice (some ⟨b,0,none⟩) 1 c) (hc : w.cell? ⟨b,0,none⟩ = some (.int .u8 y))
    (hb : n ≤ 2 ^ 30) (hbase : base ≤ w.heap.size)
    (h : ∀ g cap w',w'.ownsRow base 5 1 (.slice (some ⟨g,0,none⟩) (n + 1) cap) (n + 1) (xs ++ [.int .u8 y]) → w.grownBy w' v.ownBlock → (v.ownBlock = some g ∨ g = w.heap.size) → g < w'.heap.size → wpList Tryd.prog ops Q rest (a.put o.dst (.slice (some ⟨g,0,none⟩) (n + 1) cap)) w') : wpList Tryd.prog ops Q (o :: rest) a w := by
  obtain ⟨i,hi,h8⟩ := Option.map_eq_some_iff.1 (show (Tryd.prog.info? 5).map (fun i => (i.zero,i.size,i.bytes)) = some (some (.int .u8 0),1,1) by kernel_rfl)
  simp only [Prod.mk.injEq] at h8
  refine wpList_append_lies w hgd s x 28 ho base 5 i (.int .u8 0) 1 1 Tryd.underlying28 hi h8.1 h8.2.1 h8.2.2 rfl (by decide) v n xs hs hown ⟨b,0,none⟩ 1 c [.int .u8 y] hx rfl ?_ (fun u hu => by simp at hu; subst hu; rfl) (by decide) (by simp only [maxLen]; omega) (by omega) hbase w.heap.size rfl h
  intro j u hj
  cases j with
  | zero =>
    simp only [List.getElem?_cons_zero,Option.some.injEq] at hj
    subst hj
    exact hc
  | succ j => simp at hj
set_option maxHeartbeats 2000000 in
theorem put12_ok (B : Nat) (v : Value) (np : Nat) (PRE : List Int) (hnp : np ≤ 1000000) (a : Option Addr) (n c : Nat) (hn : n ≤ 1000) (l : List Int) (w : World) (hB : B ≤ w.heap.size) (hv : w.ownsRow B 5 1 v np (CELLS PRE)) (hF : Flat w a n l) (hFa : 0 < n → ∀ b o,a = some ⟨b,o,none⟩ → v.ownBlock ≠ some b) :
    Calls Tryd.prog 19 #[v,.slice a n c] w fun e w' => ∃ v',e = .returned v' ∧ w'.ownsRow B 5 1 v' (np + 32 * n) (CELLS (PRE ++ l)) ∧ Below B w w' := by
  have HA : Aside (np ≤ 1000000 ∧ n ≤ 1000 ∧ l.length = 32 * n ∧ Flat w a n l ∧ (0 < n → ∀ b o,a = some ⟨b,o,none⟩ → v.ownBlock ≠ some b) ∧ B ≤ w.heap.size) := ⟨hnp,hn,hF.1,hF,hFa,hB⟩
  have V0 : Aside (w.ownsRow B 5 1 v np (CELLS PRE)) := hv
  clear hnp hn hF hFa hB hv
  go_enter Tryd.func19,Tryd.ntmps19
  go_wp2
  go_loopg [0,5] n (fun q s0 s5 wx => ∃ i : Nat,s5 = .int .i64 (i : Int) ∧ Aside (i + q = n ∧ wx.ownsRow B 5 1 s0 (np + 32 * i) (CELLS (PRE ++ l.take (32 * i))) ∧ PUTF B w v wx s0))
  case atStart => exact ⟨0,rfl,by omega,by simpa using V0.out,PUTF.refl _ _ _⟩
  case round =>
    obtain ⟨i,rfl,A⟩ := hrel
    clear V0
    cases gk with
    | zero =>
      obtain rfl : i = n := by have := A.out.1; omega
      have hlt : ¬ (i : Int) < (i : Int) := by omega
      have R : Aside (wr.ownsRow B 5 1 u0 (np + 32 * i) (CELLS (PRE ++ l)) ∧ PUTF B w v wr u0) := by
        have := A.out.2.1
        rw [List.take_of_length_le (by have := HA.out; omega)] at this
        exact ⟨this,A.out.2.2⟩
      clear A HA
      go_wp2
      go_ret
      exact ⟨_,rfl,R.out.1,R.out.2.bl⟩
    | succ q =>
      have hlt : (i : Int) < (n : Int) := by have := A.out.1; omega
      have R0 : Aside (i + 1 + q = n ∧ wr.ownsRow B 5 1 u0 (np + (32 * i + 0)) (CELLS (PRE ++ l.take (32 * i + 0))) ∧ PUTF B w v wr u0) := ⟨by have := A.out.1; omega,A.out.2.1,A.out.2.2⟩
      clear A
      go_wp2
      generalize wr = wo at *
      generalize u0 = vo at *
      go_loopg [0,6] 32 (fun p s0 s6 wx => ∃ k : Nat,s6 = .int .i64 (k : Int) ∧ Aside (k + p = 32 ∧ wx.ownsRow B 5 1 s0 (np + (32 * i + k)) (CELLS (PRE ++ l.take (32 * i + k))) ∧ PUTF B w v wx s0))
      case atStart => exact ⟨0,rfl,by omega,R0.out.2.1,R0.out.2.2⟩
      case round =>
        obtain ⟨k,rfl,A⟩ := hrel
        cases gk with
        | zero =>
          obtain rfl : k = 32 := by have := A.out.1; omega
          have hlt2 : ¬ (((32 : Nat) : Int)) < 32 := by omega
          have R : Aside (i + 1 + q = n ∧ wr.ownsRow B 5 1 u0 (np + 32 * (i + 1)) (CELLS (PRE ++ l.take (32 * (i + 1)))) ∧ PUTF B w v wr u0) := ⟨R0.out.1,by rw [show 32 * (i + 1) = 32 * i + 32 by omega]; exact A.out.2.1,A.out.2.2⟩
          have E1 : Aside (wrap64 ((i : Int) + 1) = ((i + 1 : Nat) : Int)) := by have := HA.out; show wrap64 ((i : Int) + 1) = ((i + 1 : Nat) : Int); unfold wrap64; omega
          clear A R0 HA
          have e1 := E1.out
          go_wp2
          go_roundg q
          case measure => exact Nat.lt_succ_self _
          case rel => exact ⟨i + 1,by first | rfl | (rw [E1.out]),R.out⟩
        | succ p =>
          obtain ⟨a1,a2,a3⟩ := A.out
          obtain ⟨h1,h2,h3,h4,h5,h6⟩ := HA.out
          have hiN : i < n := by have := R0.out.1; omega
          have hk : k < 32 := by omega
          have hlt2 : (k : Int) < 32 := by omega
          obtain ⟨b,o,rfl,hbl,hc⟩ := h4.2.1 (by omega)
          have hx : wr.cell? ⟨b,o + i * 32 + k,none⟩ = some (.int .u8 (l.getD (32 * i + k) 0)) := by
            rw [show o + i * 32 + k = o + (32 * i + k) by omega]
            exact (World.cell?_of_block (w := w) (a := ⟨b,o + (32 * i + k),none⟩) (a3.gr.block b hbl (fun e => h5 (by omega) b o rfl e.symm))).trans (hc _ (by omega))
          have hrng := h4.2.2 (l.getD (32 * i + k) 0) (by rw [List.getD_eq_getElem?_getD,List.getElem?_eq_getElem (by omega)]; exact List.getElem_mem _)
          have htk := take_more (l := l) (J := 32 * i + k) (by omega)
          have R : Aside (k + 1 + p = 32 ∧ np + (32 * i + k) + 1 ≤ 1073741824 ∧ wr.ownsRow B 5 1 u0 (np + (32 * i + k)) (CELLS (PRE ++ l.take (32 * i + k))) ∧ PUTF B w v wr u0 ∧ B ≤ wr.heap.size ∧ (0 ≤ l.getD (32 * i + k) 0 ∧ l.getD (32 * i + k) 0 ≤ 255) ∧ PRE ++ l.take (32 * i + (k + 1)) = PRE ++ l.take (32 * i + k) ++ [l.getD (32 * i + k) 0]) := ⟨by omega,by omega,a2,a3,Nat.le_trans h6 a3.bl.size,hrng,by rw [← Nat.add_assoc,htk,List.append_assoc]⟩
          have E1 : Aside (wrap64 ((k : Int) + 1) = ((k + 1 : Nat) : Int)) := by show wrap64 ((k : Int) + 1) = ((k + 1 : Nat) : Int); unfold wrap64; omega
          clear a1 a2 a3 h1 h2 h3 h4 h5 h6 hiN hk hbl hc hrng htk A R0 HA
          generalize l.getD (32 * i + k) 0 = x at *
          go_wp2_with (at_builtin; refine app_byte12 _ rfl (.tmp 17) (.tmp 24) rfl B u0 (np + (32 * i + k)) _ rfl (R.out.2.2.1.alloc _) wr.heap.size 1 x rfl ((Has.new _ _ _).cell 0) (by have := R.out.2.1; omega) (by have := R.out.2.2.2.2.1; simp; omega) ?_; intro g2 c2 w2 hown hgrow hg _)
          have R2 : Aside (k + 1 + p = 32 ∧ w2.ownsRow B 5 1 (.slice (some ⟨g2,0,none⟩) (np + (32 * i + k) + 1) c2) (np + (32 * i + (k + 1))) (CELLS (PRE ++ l.take (32 * i + (k + 1)))) ∧ PUTF B w v w2 (.slice (some ⟨g2,0,none⟩) (np + (32 * i + k) + 1) c2)) := by
            obtain ⟨r1,r2,r3,r4,r5,r6,r7⟩ := R.out
            refine ⟨r1,by rw [r7,show np + (32 * i + (k + 1)) = np + (32 * i + k) + 1 by omega,CELLS_append]; exact hown,r4.step r3 r5 _ hgrow hg⟩
          clear hown hgrow hg R hx
          have e1 := E1.out
          go_wp2
          go_roundg p
          case measure => exact Nat.lt_succ_self _
          case rel => exact ⟨k + 1,by first | rfl | (rw [E1.out]),R2.out⟩
end Go.Proofs.YtkpgbhokoohimaaDoor

/- The document's EncodeEvent. -/
namespace Go.Proofs.YtkpgbhokoohimaaDoor
open Go.RowKit
set_option maxRecDepth 100000

set_option maxHeartbeats 2000000 in
theorem rencodeevent_ok (X : Nat) (hX : X < 2 ^ 64) (leaf : List Int) (hleaf : IsH leaf) (a : Option Addr) (n c : Nat) (hn : n ≤ 1000) (l : List Int) (w : World) (hF : Flat w a n l) :
    Calls Tryd.prog 5 #[.agg (EVT X leaf (.slice a n c))] w (ANSB w (EVE X n leaf l)) := by
  obtain ⟨W0,hW0⟩ : ∃ W0,w.alloc (.cells (EVT X leaf (.slice a n c)) 27) = W0 := ⟨_,rfl⟩
  obtain ⟨be,hbe⟩ : ∃ be,w.heap.size = be := ⟨_,rfl⟩
  have R0 : Aside (Below w.heap.size w W0 ∧ Has W0 be (EVT X leaf (.slice a n c)) 27) := by
    rw [← hW0, ← hbe]
    exact ⟨(Below.refl _ _).alloc (Nat.le_refl _) _,Has.new _ _ _⟩
  have VE : Aside (∀ W,Below W0.heap.size W0 W → W.cell? ⟨be,33,none⟩ = some (.slice a n c) ∧ W.cell? ⟨be,0,none⟩ = some (.int .u64 (X : Int)) ∧ W.rangeAt be 1 (CELLS leaf) ∧ Below w.heap.size w W ∧ Flat W a n l) := fun W hb => by
    have h := R0.out.2.keep hb
    have h2 := EVT_at h hleaf.1
    have h3 := R0.out.1.trans (hb.mono R0.out.1.size)
    exact ⟨h2.2.2,h2.1,h2.2.1,h3,hF.below h3⟩
  have CO : Aside (¬ 4611686018427387904 ≤ X → ∀ W,Below W0.heap.size W0 W → Calls Tryd.prog 17 #[.int .u64 (X : Int)] W fun e w' => ∃ ta tc,e = .returned (.slice ta (POP X) tc) ∧ Below W0.heap.size W0 w') := fun h W hb => by
    rw [POP_PC hX]
    refine (tops_ok X (by omega) W).mono ?_
    rintro e w' ⟨v,rfl,ho,hb2⟩
    obtain ⟨ta,tc,rfl⟩ := own_slicec ho
    exact ⟨ta,tc,rfl,hb.trans (hb2.mono hb.size)⟩
  have CS := refshort_ok X hX
  have HV : Aside ((4611686018427387904 ≤ X → EVE X n leaf l = (30, [])) ∧ (¬ 4611686018427387904 ≤ X → n ≠ POP X → EVE X n leaf l = (70, [])) ∧ (¬ 4611686018427387904 ≤ X → n = POP X → EVE X n leaf l = (0, [69] ++ SHORT X ++ leaf ++ l))) := by
    unfold EVE
    exact ⟨fun h => if_pos h,fun h h2 => by rw [if_neg h,if_pos h2],fun h h2 => by rw [if_neg h,if_neg (by simpa using h2)]⟩
  have hl1 := SHORT_length X
  have h91 := NTOP_le X
  have hr1 := SHORT_range hX
  generalize EVE X n leaf l = V at *
  generalize SHORT X = SX at *
  have hn1 : 0 < NTOP X + 1 := by omega
  have hm1 : NTOP X + 1 ≤ 10 := by omega
  clear h91
  generalize NTOP X + 1 = nx at *
  have HA : Aside (Flat w a n l ∧ n ≤ 1000 ∧ SX.length = nx ∧ nx ≤ 10 ∧ (∀ x ∈ SX,0 ≤ x ∧ x ≤ 255) ∧ IsH leaf) := ⟨hF,hn,hl1,hm1,hr1,hleaf⟩
  have l32 := hleaf.1
  have y0 := (VE.out W0 (Below.refl _ _)).2.1
  clear hF hn hl1 hm1 hr1 hX hleaf
  generalize POP X = K at *
  generalize EVT X leaf (.slice a n c) = VV at *
  by_cases h1 : 4611686018427387904 ≤ X
  · have i1 : (4611686018427387904 : Int) ≤ (X : Int) := by omega
    have FN : Aside (V = (30, []) ∧ Below w.heap.size w W0) := ⟨HV.out.1 h1,R0.out.1⟩
    clear h1 HV R0 VE CO CS HA
    go_enter Tryd.func5,Tryd.ntmps5
    go_wp2
    go_ret2
    rw [FN.out.1]
    exact ⟨_,rfl,nil_bytes' _ _,FN.out.2⟩
  · have i1 : ¬ (4611686018427387904 : Int) ≤ (X : Int) := by omega
    go_enter Tryd.func5,Tryd.ntmps5
    go_upto_region 3 with fail
    clear hW0 hbe y0
    refine rencev3 _ be X K a n c _ rfl (fun W => Below W0.heap.size W0 W) (Below.refl _ _).drew (fun W hb => ⟨(VE.out W hb).1,(VE.out W hb).2.1⟩) (fun W hb => CO.out h1 W hb) (fun _ _ _ _ _ h => h) ?_
    intro ta tc w1 hb1
    by_cases h2 : n = K
    · have h2' : ((n : Int) != (K : Int)) = false := by simp [h2]
      have HN : Aside (V = (0, [69] ++ SX ++ leaf ++ l)) := HV.out.2.2 h1 h2
      rw [h2']
      clear h1 h2 h2' HV CO
      have y0 := (VE.out w1 hb1).2.1
      have R1 : Aside ((w1.alloc (.cells #[.int .u8 69] 5)).ownsRow W0.heap.size 5 1 (.slice (some ⟨w1.heap.size,0,none⟩) 1 1) 1 (CELLS [69]) ∧ Below W0.heap.size W0 (w1.alloc (.cells #[.int .u8 69] 5))) := ⟨own_mono (own_one w1 69) hb1.size,hb1.alloc hb1.size _⟩
      obtain ⟨g0,hg0⟩ : ∃ g0,w1.heap.size = g0 := ⟨_,rfl⟩
      have y0' := (VE.out _ R1.out.2).2.1
      rw [hg0] at R1
      clear hb1
      go_wp2_with fail
      clear hg0 y0 y0'
      generalize w1.alloc (.cells #[.int .u8 69] 5) = w2 at *
      refine (CS _).mono ?_
      rintro e w3 ⟨g,cap,rfl,hown,hg,hb⟩
      clear CS
      have R2 : Aside (w3.ownsRow W0.heap.size 5 1 (.slice (some ⟨g0,0,none⟩) 1 1) 1 (CELLS [69]) ∧ Below W0.heap.size W0 w3 ∧ Bytes w3 (some ⟨g,0,none⟩) nx SX) := ⟨own_below R1.out.1 hb,R1.out.2.trans (hb.mono R1.out.2.size),own_bytes hown hg HA.out.2.2.2.2.1⟩
      clear hown hg hb R1
      go_upto_region 6 with (at_builtin; refine app_u8 _ rfl (.tmp 16) (.tmp 19) rfl W0.heap.size _ 1 [69] rfl R2.out.1 g 0 nx cap SX rfl R2.out.2.2 hn1 (by have := HA.out.2.2.2.1; omega) R2.out.2.1.size ?_; intro g4 cap4 w4 hown hgrow hg)
      have R3 : Aside (w4.ownsRow W0.heap.size 5 1 (.slice (some ⟨g4,0,none⟩) (1 + nx) cap4) (1 + nx) (CELLS ([69] ++ SX)) ∧ Below W0.heap.size W0 w4) := ⟨hown,R2.out.2.1.grown hgrow R2.out.2.1.size (fun k e => (R2.out.1.lt k e).1)⟩
      clear hown hgrow hg R2
      have hLf := (VE.out w4 R3.out.2).2.2.1
      go_wp2_with (first
        | (refine wpList_load_mid rfl 24 (.tmp 22) rfl be 1 rfl (CELLS leaf) _ hLf Tryd.underlying24 rfl (info_cells l32) ?_)
        | (refine build_one _ rfl 25 24 (.tmp 23) rfl (CELLS leaf).toArray rfl 32 _ _ Tryd.underlying25 info_hashv (by simp [CELLS,l32]) rfl (by decide) (by decide) ?_))
      have R4 : Aside ((w4.alloc (.cells (CELLS leaf).toArray 24)).ownsRow W0.heap.size 5 1 (.slice (some ⟨g4,0,none⟩) (1 + nx) cap4) (1 + nx) (CELLS ([69] ++ SX)) ∧ Below W0.heap.size W0 (w4.alloc (.cells (CELLS leaf).toArray 24)) ∧ Flat (w4.alloc (.cells (CELLS leaf).toArray 24)) (some ⟨w4.heap.size,0,none⟩) 1 leaf ∧ g4 < w4.heap.size) := ⟨R3.out.1.alloc _,R3.out.2.alloc R3.out.2.size _,has_flat (Has.new _ _ _) (by rw [l32]) HA.out.2.2.2.2.2.2,(R3.out.1.lt g4 rfl).2⟩
      obtain ⟨g5,hg5⟩ : ∃ g5,w4.heap.size = g5 := ⟨_,rfl⟩
      rw [hg5] at R4 ⊢
      clear hLf R3 hg5
      generalize w4.alloc (.cells (CELLS leaf).toArray 24) = w5 at *
      have c1 := put12_ok W0.heap.size (.slice (some ⟨g4,0,none⟩) (1 + nx) cap4) (1 + nx) ([69] ++ SX) (by have := HA.out.2.2.2.1; omega) (some ⟨g5,0,none⟩) 1 1 (by decide) leaf w5 R4.out.2.1.size R4.out.1 R4.out.2.2.1 (fun _ b o e e2 => by cases e; cases e2; exact absurd R4.out.2.2.2 (Nat.lt_irrefl _))
      refine c1.mono ?_
      rintro e w6 ⟨v6,rfl,ho6,hb6⟩
      obtain ⟨a6,c6,rfl⟩ := own_slicec ho6
      have R6 : Aside (w6.ownsRow W0.heap.size 5 1 (.slice a6 (1 + nx + 32 * 1) c6) (1 + nx + 32 * 1) (CELLS ([69] ++ SX ++ leaf)) ∧ Below W0.heap.size W0 w6) := ⟨ho6,R4.out.2.1.trans hb6⟩
      clear c1 ho6 hb6 R4
      have y2 := (VE.out w6 R6.out.2).1
      have c2 := put_ok W0.heap.size (.slice a6 (1 + nx + 32 * 1) c6) (1 + nx + 32 * 1) ([69] ++ SX ++ leaf) (by have := HA.out.2.2.2.1; omega) a n c HA.out.2.1 l w6 R6.out.2.size R6.out.1 (VE.out w6 R6.out.2).2.2.2.2 (fun h0 b o e => by
        obtain ⟨b',o',e',hlt,_⟩ := HA.out.1.2.1 h0
        rw [e] at e'
        cases e'
        exact Nat.lt_of_lt_of_le hlt R0.out.1.size)
      go_wp2_with fail
      refine c2.mono ?_
      rintro e w7 ⟨v7,rfl,ho7,hb7⟩
      have R7 : Aside (w7.ownsRow w.heap.size 5 1 v7 ([69] ++ SX ++ leaf ++ l).length (CELLS ([69] ++ SX ++ leaf ++ l)) ∧ Below w.heap.size w w7) := by
        have := own_len ho7
        rw [← this] at ho7
        exact ⟨own_mono ho7 R0.out.1.size,(VE.out w7 (R6.out.2.trans hb7)).2.2.2.1⟩
      clear c2 ho7 hb7 R6 y2 VE R0 HA
      go_wp2
      go_ret2
      rw [HN.out]
      exact ⟨_,rfl,R7.out.1,R7.out.2⟩
    · have h2' : ((n : Int) != (K : Int)) = true := by simp; omega
      have FN : Aside (V = (70, []) ∧ Below w.heap.size w w1) := ⟨HV.out.2.1 h1 h2,(VE.out w1 hb1).2.2.2.1⟩
      rw [h2']
      clear h1 h2 h2' HV CO hb1 VE R0 HA
      go_wp2
      go_ret2
      rw [FN.out.1]
      exact ⟨_,rfl,nil_bytes' _ _,FN.out.2⟩
end Go.Proofs.YtkpgbhokoohimaaDoor

/- The document's DecodeEvent. -/
namespace Go.Proofs.YtkpgbhokoohimaaDoor
open Go.RowKit
set_option maxRecDepth 100000

/-- an event is answered, and an error; its peaks are new. -/
def ANSR (w : World) (A : EANS) (e : Ending) (w' : World) : Prop :=
  ∃ a c,e = .returned (.tuple #[.agg (EVT A.2.1 A.2.2.1 (.slice a A.2.2.2.1 c)),.int .i64 A.1]) ∧ Flat w' a A.2.2.2.1 A.2.2.2.2 ∧ (a = none → c = 0) ∧ Below w.heap.size w w' ∧ ∀ b o,a = some ⟨b,o,none⟩ → w.heap.size ≤ b
set_option maxHeartbeats 800000 in
theorem rdecodeevent_ok (a : Option Addr) (n c : Nat) (hc : n ≤ c) (hn : n ≤ 1000000) (l : List Int) (w : World) (hB : Bytes w a n l) :
    Calls Tryd.prog 10 #[.slice a n c] w (ANSR w (EVD l)) := by
  obtain ⟨ZE,eZ,hz,hbu,hi,hone⟩ := zero_event
  have HZ : Aside (EVT 0 ZND (.slice none 0 0) = ZE ∧ (∀ E w',Below w.heap.size w w' → ANSR w (EERR E) (.returned (.tuple #[.agg ZE,.int .i64 E])) w')) := ⟨eZ,fun E w' h => ⟨none,0,by rw [← eZ]; rfl,⟨rfl,fun h => absurd h (Nat.lt_irrefl 0),fun x hx => by simp [EERR] at hx⟩,fun _ => rfl,h,fun _ _ e => by cases e⟩⟩
  have HV : Aside ((l.length = 0 → EVD l = EERR 11) ∧ (¬ l.length = 0 → ¬ l.getD 0 0 = 69 → EVD l = EERR 14) ∧ (¬ l.length = 0 → l.getD 0 0 = 69 → EVD l = ED1 (l.drop 1))) := by
    unfold EVD
    exact ⟨fun h => if_pos h,fun h h2 => by rw [if_neg h,if_pos h2],fun h h2 => by rw [if_neg h,if_neg (by simpa using h2)]⟩
  generalize EVD l = V at *
  clear eZ
  have HA : Aside (n ≤ c ∧ n ≤ 1000000 ∧ Bytes w a n l) := ⟨hc,hn,hB⟩
  clear hc hn hB
  obtain ⟨W0,hW0⟩ : ∃ W0,w.alloc (.cells ZE 27) = W0 := ⟨_,rfl⟩
  obtain ⟨rs,hrs⟩ : ∃ rs,w.heap.size = rs := ⟨_,rfl⟩
  have R0 : Aside (Below w.heap.size w W0 ∧ Has W0 rs ZE 27 ∧ w.heap.size = rs) := by
    rw [← hW0, ← hrs]
    exact ⟨(Below.refl _ _).alloc (Nat.le_refl _) _,Has.new _ _ _,rfl⟩
  by_cases h0 : n = 0
  · subst h0
    have HE : Aside (V = EERR 11) := HV.out.1 HA.out.2.2.1
    have hH := R0.out.2.1
    go_enter Tryd.func10,Tryd.ntmps10
    go_wp2_with (refine wpList_store_row rfl 27 (.tmp 2) (.tmp 11) rfl rs ZE rfl rfl 27 ZE hH hi rfl hone ?_)
    refine bodyPost_ret (v := .tuple #[.agg ZE,.int .i64 11]) (results_event rfl _ _ rs 27 _ (0,0) _ rfl (Has.row hH ZE) _ rfl Tryd.underlying27 hi) rfl ?_
    rw [HE.out]
    exact HZ.out.2 _ _ (below_row R0.out.1 (Nat.le_of_eq R0.out.2.2) _)
  · obtain ⟨b,off,rfl,hbl,hcs⟩ := HA.out.2.2.2.1 (by omega)
    have hll : ¬ l.length = 0 := by rw [HA.out.2.2.1]; exact h0
    have hH := R0.out.2.1
    have hx0 : W0.cell? ⟨b,off,none⟩ = some (.int .u8 (l.getD 0 0)) := (R0.out.1.cell (p := ⟨b,off,none⟩) hbl).trans (hcs 0 (by omega))
    have i0 : ¬ (n : Int) = 0 := by omega
    have i1 : ¬ (n : Int) ≤ 0 := by omega
    by_cases hx : l.getD 0 0 = 69
    · have HV1 : Aside (V = ED1 (l.drop 1)) := HV.out.2.2 hll hx
      rw [hx] at hx0
      have hsl : ∀ w,(Instr.slice 28 (.slice (some ⟨b,off,none⟩) n c) (some (.int .i64 1)) none none).run Tryd.prog w = .ok (.slice (SLB (some ⟨b,off,none⟩) c 1) (n - 1) (c - 1)) w := slice_bytes b off n c 1 (by omega) HA.out.1
      have hlen : (l.drop 1).length = n - 1 := by rw [List.length_drop,HA.out.2.2.1]
      have hBt := (HA.out.2.2.below R0.out.1).past 1 (by omega) HA.out.1
      have cL := reflong_ok (SLB (some ⟨b,off,none⟩) c 1) (n - 1) (c - 1) (l.drop 1) W0 hBt (by have := HA.out.2.1; omega)
      rw [← hlen] at cL
      rw [show LG (l.drop 1) (l.drop 1).length 10 0 0 = LNG (l.drop 1) from rfl,hlen] at cL
      have HB := HA.out.2.2.2.2
      have HLB : Aside ((LNG (l.drop 1)).2.2 = 0 → ∃ Z m : Nat,Z < 2 ^ 64 ∧ 1 ≤ m ∧ m ≤ n - 1 ∧ LNG (l.drop 1) = ((Z : Int),(m : Int),0)) := fun h => by
        obtain ⟨Z,m,z1,z2,z3,z4,_⟩ := LNG_back (t := l.drop 1) (fun x hx => HB x (List.mem_of_mem_drop hx)) h
        exact ⟨Z,m,z1,z2,by rw [← hlen]; exact z3,z4⟩
      have HD1 : Aside (((LNG (l.drop 1)).2.2 ≠ 0 → V = EERR (LNG (l.drop 1)).2.2) ∧ ∀ Z m : Nat,LNG (l.drop 1) = ((Z : Int),(m : Int),0) → (4611686018427387904 ≤ Z → V = EERR 30) ∧ (¬ 4611686018427387904 ≤ Z → V = ED2 Z (l.drop (1 + m)))) := by
        rw [HV1.out]
        unfold ED1
        refine ⟨fun h => if_pos h,fun Z m h => ?_⟩
        rw [h,if_neg (by simp),Int.toNat_natCast,Int.toNat_natCast,List.drop_drop]
        exact ⟨fun h => if_pos h,fun h => if_neg h⟩
      clear HB hlen hBt HV1 HV hx hcs
      generalize hLN : LNG (l.drop 1) = LN at *
      clear hLN
      generalize SLB (some ⟨b,off,none⟩) c 1 = sa at *
      obtain ⟨L1,L2,L3⟩ := LN
      dsimp only at *
      go_enter Tryd.func10,Tryd.ntmps10
      go_wp2_with fail
      refine cL.mono ?_
      rintro e _ ⟨rfl,rfl⟩
      clear cL hx0 hsl
      by_cases hE : L3 = 0
      · subst hE
        obtain ⟨Z,m,z1,z2,z3,z4⟩ := HLB.out rfl
        obtain ⟨rfl,rfl,_⟩ : L1 = (Z : Int) ∧ L2 = (m : Int) ∧ True := by
          injection z4 with x1 x2
          injection x2 with x2 _
          exact ⟨x1,x2,trivial⟩
        by_cases hZ : 4611686018427387904 ≤ Z
        · have HE : Aside (V = EERR 30) := (HD1.out.2 Z m rfl).1 hZ
          have j1 : (4611686018427387904 : Int) ≤ (Z : Int) := by omega
          clear HD1 HLB hZ z4
          go_wp2_with (refine wpList_store_row rfl 27 (.tmp 2) (.tmp 30) rfl rs ZE rfl rfl 27 ZE hH hi rfl hone ?_)
          refine bodyPost_ret (v := .tuple #[.agg ZE,.int .i64 30]) (results_event rfl _ _ rs 27 _ (0,0) _ rfl (Has.row hH ZE) _ rfl Tryd.underlying27 hi) rfl ?_
          rw [HE.out]
          exact HZ.out.2 _ _ (below_row R0.out.1 (Nat.le_of_eq R0.out.2.2) _)
        · have HE2 : Aside (V = ED2 Z (l.drop (1 + m))) := (HD1.out.2 Z m rfl).2 hZ
          have HZ4 : Aside (Z < 4611686018427387904) := by
            show Z < 4611686018427387904
            omega
          have J1 : Aside (¬ (4611686018427387904 : Int) ≤ (Z : Int)) := by
            show ¬ (4611686018427387904 : Int) ≤ (Z : Int)
            omega
          have HZn : Aside (Z < 2 ^ 64 ∧ 1 ≤ m ∧ m ≤ n - 1) := ⟨z1,z2,z3⟩
          have HN0 : Aside (¬ n = 0 ∧ b < w.heap.size) := ⟨h0,hbl⟩
          clear HD1 HLB z4 hZ z1 z2 z3 h0 hll i0 i1 hbl
          go_upto_region 8 with fail
          obtain ⟨zz,hzz⟩ : ∃ zz : Int,(Z : Int) = zz := ⟨_,rfl⟩
          have j1 := J1.out
          rw [hzz] at j1 ⊢
          have HZZ : Aside ((Z : Int) = zz) := hzz
          clear J1 hzz
          go_upto_region 10 with fail
          rw [← HZZ.out]
          clear j1 HZZ
          obtain ⟨PN,hPN⟩ : ∃ PN,POP Z = PN := ⟨_,rfl⟩
          have hP64 : PN ≤ 64 := by rw [← hPN,POP_PC HZn.out.1]; exact PC_lt_pow 64 Z HZn.out.1
          have hlT : (l.drop (1 + m)).length = n - (1 + m) := by rw [List.length_drop,HA.out.2.2.1]
          have hBT := (HA.out.2.2.below R0.out.1).past (1 + m) (by have := HZn.out; have := HN0.out; omega) HA.out.1
          have hm1 : 1 + m ≤ n := by have := HZn.out; have := HN0.out; omega
          have hncc := HA.out.1
          have hn6 := HA.out.2.1
          have hK : IntKind.i64.wrap (1 + (m : Int)) = ((1 + m : Nat) : Int) := by rw [IntKind.wrap_i64]; omega
          have hN : IntKind.i64.wrap (1 + (PN : Int)) = ((1 + PN : Nat) : Int) := by rw [IntKind.wrap_i64]; omega
          have hsl := slice_bytes b off n c (1 + m) hm1 hncc
          have CO : ∀ W,Below W0.heap.size W0 W → Calls Tryd.prog 17 #[.int .u64 (Z : Int)] W fun e w' => ∃ ta tc,e = .returned (.slice ta PN tc) ∧ Below W0.heap.size W0 w' := fun W hb => by
            rw [← hPN,POP_PC HZn.out.1]
            refine (tops_ok Z (by have := HZ4.out; omega) W).mono ?_
            rintro e w' ⟨v,rfl,ho,hb2⟩
            obtain ⟨ta,tc,rfl⟩ := own_slicec ho
            exact ⟨ta,tc,rfl,hb.trans (hb2.mono hb.size)⟩
          have CT : ∀ W,Below W0.heap.size W0 W → Calls Tryd.prog 24 #[.slice (SLB (some ⟨b,off,none⟩) c (1 + m)) (n - (1 + m)) (c - (1 + m)),.int .i64 ((1 + PN : Nat) : Int)] W fun e w' => ∃ v,e = .returned (.tuple #[v,.int .i64 (TAKN (l.drop (1 + m)) (1 + PN)).1]) ∧ w'.ownsRow W.heap.size 24 32 v (TAKN (l.drop (1 + m)) (1 + PN)).2.1 (CELLS (TAKN (l.drop (1 + m)) (1 + PN)).2.2) ∧ Below W.heap.size W w' := fun W hb => take_ok _ _ _ (1 + PN) (by omega) (by omega) _ W (hBT.below hb)
          have HE3 : Aside ((n - (1 + m) < 32 * (1 + PN) → V = EERR 11) ∧ (32 * (1 + PN) < n - (1 + m) → V = EERR 13) ∧ (n - (1 + m) = 32 * (1 + PN) → V = (0,Z,(l.drop (1 + m)).take 32,PN,(l.drop (1 + m)).drop 32))) := by
            rw [HE2.out]
            unfold ED2
            rw [hPN,hlT]
            exact ⟨fun h => if_pos h,fun h => by rw [if_neg (by omega),if_pos h],fun h => by rw [if_neg (by omega),if_neg (by omega)]⟩
          by_cases hA : n - (1 + m) < 32 * (1 + PN)
          · have HE : Aside (V = EERR 11) := HE3.out.1 hA
            refine rdecev10 _ rs Z m (1 + m) (1 + PN) PN 11 (some ⟨b,off,none⟩) n c (SLB (some ⟨b,off,none⟩) c (1 + m)) (n - (1 + m)) (c - (1 + m)) hK hN hsl (fun W => Below W0.heap.size W0 W) (fun _ _ _ W => Below W0.heap.size W0 W) (Below.refl _ _).drew (fun _ _ _ _ h => h) CO (fun W hb => (CT W hb).mono fun e w' ⟨v,z1,z2,z3⟩ => by rw [show TAKN (l.drop (1 + m)) (1 + PN) = (11,0, []) by unfold TAKN; rw [hlT,if_pos hA]] at z1 z2; obtain ⟨va,vc,rfl⟩ := own_slicec z2; exact ⟨va,0,vc,z1,hb.trans (z3.mono hb.size)⟩) (fun _ _ _ _ _ h => h) ?_
            intro ta tc a2 n2 c2 w1 hb1
            have hH1 := R0.out.2.1.keep hb1
            have hbw := R0.out.1.trans (hb1.mono R0.out.1.size)
            clear hb1 HE3 hA CO CT hsl hN hK hncc hn6 hm1 hBT hlT hP64 hPN HE2 HZn HN0 hH
            go_wp2_with (refine wpList_store_row rfl 27 (.tmp 2) (.tmp 45) rfl rs ZE rfl rfl 27 ZE hH1 hi rfl hone ?_)
            refine bodyPost_ret (v := .tuple #[.agg ZE,.int .i64 11]) (results_event rfl _ _ rs 27 _ (0,0) _ rfl (Has.row hH1 ZE) _ rfl Tryd.underlying27 hi) rfl ?_
            rw [HE.out]
            exact HZ.out.2 _ _ (below_row hbw (Nat.le_of_eq R0.out.2.2) _)
          · by_cases hB : 32 * (1 + PN) < n - (1 + m)
            · have HE : Aside (V = EERR 13) := HE3.out.2.1 hB
              refine rdecev10 _ rs Z m (1 + m) (1 + PN) PN 13 (some ⟨b,off,none⟩) n c (SLB (some ⟨b,off,none⟩) c (1 + m)) (n - (1 + m)) (c - (1 + m)) hK hN hsl (fun W => Below W0.heap.size W0 W) (fun _ _ _ W => Below W0.heap.size W0 W) (Below.refl _ _).drew (fun _ _ _ _ h => h) CO (fun W hb => (CT W hb).mono fun e w' ⟨v,z1,z2,z3⟩ => by rw [show TAKN (l.drop (1 + m)) (1 + PN) = (13,0, []) by unfold TAKN; rw [hlT,if_neg hA,if_pos hB]] at z1 z2; obtain ⟨va,vc,rfl⟩ := own_slicec z2; exact ⟨va,0,vc,z1,hb.trans (z3.mono hb.size)⟩) (fun _ _ _ _ _ h => h) ?_
              intro ta tc a2 n2 c2 w1 hb1
              have hH1 := R0.out.2.1.keep hb1
              have hbw := R0.out.1.trans (hb1.mono R0.out.1.size)
              clear hb1 HE3 hA hB CO CT hsl hN hK hncc hn6 hm1 hBT hlT hP64 hPN HE2 HZn HN0 hH
              go_wp2_with (refine wpList_store_row rfl 27 (.tmp 2) (.tmp 45) rfl rs ZE rfl rfl 27 ZE hH1 hi rfl hone ?_)
              refine bodyPost_ret (v := .tuple #[.agg ZE,.int .i64 13]) (results_event rfl _ _ rs 27 _ (0,0) _ rfl (Has.row hH1 ZE) _ rfl Tryd.underlying27 hi) rfl ?_
              rw [HE.out]
              exact HZ.out.2 _ _ (below_row hbw (Nat.le_of_eq R0.out.2.2) _)
            · have hC : n - (1 + m) = 32 * (1 + PN) := by omega
              have HE : Aside (V = (0,Z,(l.drop (1 + m)).take 32,PN,(l.drop (1 + m)).drop 32)) := HE3.out.2.2 hC
              refine rdecev10 _ rs Z m (1 + m) (1 + PN) PN 0 (some ⟨b,off,none⟩) n c (SLB (some ⟨b,off,none⟩) c (1 + m)) (n - (1 + m)) (c - (1 + m)) hK hN hsl (fun W => Below W0.heap.size W0 W) (fun a2 n2 c2 W => ∃ g,a2 = some ⟨g,0,none⟩ ∧ n2 = 1 + PN ∧ W.ownsRow W0.heap.size 24 32 (.slice (some ⟨g,0,none⟩) (1 + PN) c2) (1 + PN) (CELLS (l.drop (1 + m))) ∧ W0.heap.size ≤ g ∧ Below W0.heap.size W0 W) (Below.refl _ _).drew (fun _ _ _ _ ⟨_,_,_,_,_,h⟩ => h) CO (fun W hb => ?_) (fun _ _ _ _ _ h => h) ?_
              · refine (CT W hb).mono ?_
                rintro e w' ⟨v,z1,z2,z3⟩
                rw [show TAKN (l.drop (1 + m)) (1 + PN) = (0,1 + PN,l.drop (1 + m)) by unfold TAKN; rw [hlT,if_neg hA,if_neg hB]] at z1 z2
                obtain ⟨g,gc,rfl⟩ : ∃ g gc,v = .slice (some ⟨g,0,none⟩) (1 + PN) gc := by
                  rcases z2.2 with ⟨_,h0⟩ | ⟨g,gc,cur,e,_⟩
                  · have h0 : 1 + PN = 0 := h0
                    omega
                  · exact ⟨g,gc,e⟩
                exact ⟨_,_,gc,z1,g,rfl,rfl,own_mono z2 hb.size,Nat.le_trans hb.size (z2.lt g rfl).1,hb.trans (z3.mono hb.size)⟩
              · rintro ta tc a2 n2 c2 w1 ⟨g,rfl,rfl,hg,hg0,hb1⟩
                have hH1 := R0.out.2.1.keep hb1
                have hbw := R0.out.1.trans (hb1.mono R0.out.1.size)
                have hr8 : ∀ x ∈ l.drop (1 + m),0 ≤ x ∧ x ≤ 255 := fun x hx => HA.out.2.2.2.2 x (List.mem_of_mem_drop hx)
                have hlT2 : (l.drop (1 + m)).length = 32 * (1 + PN) := hlT.trans hC
                have FT : Aside (w1.ownsRow W0.heap.size 24 32 (.slice (some ⟨g,0,none⟩) (1 + PN) c2) (1 + PN) (CELLS (l.drop (1 + m))) ∧ Below w.heap.size w w1 ∧ (∀ x ∈ l.drop (1 + m),0 ≤ x ∧ x ≤ 255) ∧ (l.drop (1 + m)).length = 32 * (1 + PN) ∧ W0.heap.size ≤ g ∧ Has w1 rs ZE 27 ∧ rs < W0.heap.size ∧ w.heap.size = rs) := ⟨hg,hbw,hr8,hlT2,hg0,hH1,R0.out.2.1.lt,R0.out.2.2⟩
                clear hb1 HE3 hA hB hC CO CT hsl hN hK hncc hn6 hm1 hBT hlT hP64 hPN HE2 HZn HN0 hH hg hg0 hH1 hbw hr8 hlT2 R0
                generalize l.drop (1 + m) = t at *
                clear hz hbu hone
                go_upto_region 13 with fail
                have lH : (t.take 32).length = 32 := by have := FT.out.2.2.2.1; rw [List.length_take]; omega
                have hcap : 1 + PN ≤ c2 := by
                  rcases FT.out.1.2 with ⟨e,_⟩ | ⟨_,_,_,e,_,_,h,_⟩
                  · cases e
                  · cases e
                    exact h
                have hsl := slice_hashes g 0 (1 + PN) c2 1 (by omega) hcap
                rw [show 1 + PN - 1 = PN by omega] at hsl
                have hold : ZE.size = (EVT Z (t.take 32) (.slice (SLA (some ⟨g,0,none⟩) c2 1) PN (c2 - 1))).size := by
                  rw [← HZ.out.1]
                  rw [show (EVT Z (t.take 32) (.slice (SLA (some ⟨g,0,none⟩) c2 1) PN (c2 - 1))).size = 34 by simp only [EVT,List.size_toArray,List.length_cons,List.length_append,CELLS,List.length_map,lH,List.length_nil]]
                  rfl
                have hrg : w1.rangeAt g 0 (CELLS (t.take 32)) := fun j v hv => by
                  have hj : j < 32 := by
                    have := (List.getElem?_eq_some_iff.1 hv).1
                    rw [CELLS,List.length_map,lH] at this
                    exact this
                  rw [Nat.zero_add,FT.out.1.cellAt j (by omega), ← hv]
                  simp only [CELLS,List.getElem?_map,List.getElem?_take]
                  rw [if_pos hj]
                refine rdecev13 _ rs Z g (1 + PN) c2 (t.take 32) lH (by omega) (SLA (some ⟨g,0,none⟩) c2 1) PN (c2 - 1) ZE hold (by have := FT.out; omega) hsl (fun W => Below w1.heap.size w1 W) (Below.refl _ _).drew (fun W hb => range_below hrg hb (FT.out.1.lt g rfl).2) (fun W hb => FT.out.2.2.2.2.2.1.keep hb) (fun _ _ _ _ _ h => h) ?_
                rintro w2 ⟨wx,hbx,e2⟩
                have hH2 : Has w2 rs (EVT Z (t.take 32) (.slice (SLA (some ⟨g,0,none⟩) c2 1) PN (c2 - 1))) 27 := by
                  rw [e2]
                  exact (FT.out.2.2.2.2.2.1.keep hbx).row _
                have FN : Aside (Flat w2 (SLA (some ⟨g,0,none⟩) c2 1) PN (t.drop 32) ∧ Below w.heap.size w w2 ∧ ∀ b o,SLA (some ⟨g,0,none⟩) c2 1 = some ⟨b,o,none⟩ → w.heap.size ≤ b) := by
                  obtain ⟨f1,f2,f3,f4,f5,f6,f7,f8⟩ := FT.out
                  have hg2 : w2.ownsRow W0.heap.size 24 32 (.slice (some ⟨g,0,none⟩) (1 + PN) c2) (1 + PN) (CELLS t) := by
                    rw [e2]
                    exact own_heap (own_below f1 hbx) (fun k e => setRow_other wx rs k _ (by have e : g = k := (by simpa [Value.ownBlock] using e); omega))
                  have h := (own_flat hg2 f3).behind (c := c2) 1 (by omega) hcap
                  rw [show 1 + PN - 1 = PN by omega] at h
                  rw [e2] at h ⊢
                  refine ⟨h,below_row (f2.trans (hbx.mono f2.size)) (Nat.le_of_eq f8) _,fun b' o' e' => ?_⟩
                  have hbg : g = b' := by
                    simp only [SLA] at e'
                    split at e' <;> simp at e' <;> exact e'.1
                  omega
                have hi2 := info_event' Z (t.take 32) lH (.slice (SLA (some ⟨g,0,none⟩) c2 1) PN (c2 - 1))
                clear e2 hbx hrg hold hsl hcap FT
                go_wp2_with fail
                refine bodyPost_ret (v := .tuple #[.agg (EVT Z (t.take 32) (.slice (SLA (some ⟨g,0,none⟩) c2 1) PN (c2 - 1))),.int .i64 0]) (results_event rfl _ _ rs 27 _ (0,0) _ rfl hH2 _ rfl Tryd.underlying27 hi2) rfl ?_
                rw [HE.out]
                exact ⟨_,_,rfl,FN.out.1,fun h => absurd h (by simp only [SLA]; split <;> simp),FN.out.2.1,FN.out.2.2⟩
      · have HE : Aside (V = EERR L3) := HD1.out.1 hE
        have hE' : (L3 != 0) = true := by simp [hE]
        clear HD1 HLB hE
        go_wp2_with (refine wpList_store_row rfl 27 (.tmp 2) (.tmp 26) rfl rs ZE rfl rfl 27 ZE hH hi rfl hone ?_)
        refine bodyPost_ret (v := .tuple #[.agg ZE,.int .i64 L3]) (results_event rfl _ _ rs 27 _ (0,0) _ rfl (Has.row hH ZE) _ rfl Tryd.underlying27 hi) rfl ?_
        rw [HE.out]
        exact HZ.out.2 _ _ (below_row R0.out.1 (Nat.le_of_eq R0.out.2.2) _)
    · have HE : Aside (V = EERR 14) := HV.out.2.1 hll hx
      have hx' : (l.getD 0 0 != 69) = true := by simpa using hx
      generalize l.getD 0 0 = x at *
      go_enter Tryd.func10,Tryd.ntmps10
      go_wp2_with (refine wpList_store_row rfl 27 (.tmp 2) (.tmp 16) rfl rs ZE rfl rfl 27 ZE hH hi rfl hone ?_)
      refine bodyPost_ret (v := .tuple #[.agg ZE,.int .i64 14]) (results_event rfl _ _ rs 27 _ (0,0) _ rfl (Has.row hH ZE) _ rfl Tryd.underlying27 hi) rfl ?_
      rw [HE.out]
      exact HZ.out.2 _ _ (below_row R0.out.1 (Nat.le_of_eq R0.out.2.2) _)
end Go.Proofs.YtkpgbhokoohimaaDoor
