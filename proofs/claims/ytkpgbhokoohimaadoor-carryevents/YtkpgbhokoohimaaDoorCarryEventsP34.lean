/- Texts of CarryEvents, one behind the other: CarryEventsWalk. -/
import Derived.Test.YtkpgbhokoohimaaDoorCarryEventsP29
import Derived.Test.YtkpgbhokoohimaaDoorCarryEventsP30
import Derived.Test.YtkpgbhokoohimaaDoorCarryEventsP33
/- The walk of CarryEvents. -/
namespace Go.Proofs.YtkpgbhokoohimaaDoor
open Go.RowKit
set_option maxRecDepth 100000

theorem OVER_grow12 {xs : List Value} {u : Value} {n : Nat} (hl : xs.length = n) : OVER xs u n ++ [u] = List.replicate (n + 1) u := by
  have := OVER_all xs u
  rw [hl] at this
  rw [this,List.replicate_succ']
theorem own_some12 {w : World} {B s n c : Nat} {t : TypeId} {a : Option Addr} {xs : List Value} (h : w.ownsRow B t s (.slice a n c) n xs) (hn : 0 < n) : ∃ g,a = some ⟨g,0,none⟩ := by
  rcases h.2 with ⟨e,h0⟩ | ⟨g,cap,cur,e,_⟩
  · omega
  · simp only [Value.slice.injEq] at e
    exact ⟨g,e.1⟩
/-- the first j bytes are one more. -/
def INC12 (l : List Int) (j : Nat) : List Value := (l.take j).map (fun x => Value.int .u8 ((x + 1) % 256)) ++ CELLS (l.drop j)
theorem INC12_zero (l : List Int) : INC12 l 0 = CELLS l := by simp [INC12]
theorem INC12_at {l : List Int} {j : Nat} {x : Int} (e : l[j]? = some x) : (INC12 l j)[j]? = some (.int .u8 x) ∧ (INC12 l j).set j (.int .u8 ((x + 1) % 256)) = INC12 l (j + 1) := by
  have hj : j < l.length := (List.getElem?_eq_some_iff.1 e).1
  have hl : ((l.take j).map (fun x => Value.int .u8 ((x + 1) % 256))).length = j := by simp; omega
  have hd : l.drop j = x :: l.drop (j + 1) := by
    rw [List.drop_eq_getElem_cons hj]
    congr 1
    have := List.getElem?_eq_getElem hj
    rw [this] at e
    simpa using e
  unfold INC12
  rw [hd]
  constructor
  · rw [List.getElem?_append_right (by omega),hl,Nat.sub_self]
    rfl
  · rw [List.set_append_right _ _ (by omega),hl,Nat.sub_self,List.take_add_one,e]
    simp [CELLS]
theorem EVD_sub (l : List Int) : (EVD l).2.2.2.2.length ≤ l.length := by
  unfold EVD
  split
  · exact Nat.zero_le _
  split
  · exact Nat.zero_le _
  unfold ED1
  split
  · exact Nat.zero_le _
  split
  · exact Nat.zero_le _
  unfold ED2
  split
  · exact Nat.zero_le _
  split
  · exact Nat.zero_le _
  show (List.drop 32 _).length ≤ _
  simp only [List.length_drop]
  omega
theorem MPK.keep {w w' : World} {B : Nat} {a : Option Addr} {n c : Nat} {xs : List Int} (h : MPK w B a n c xs) (hk : ∀ b o,a = some ⟨b,o,none⟩ → B ≤ b → b < w.heap.size → w'.heap[b]? = w.heap[b]?) : MPK w' B a n c xs := by
  rcases h with h | ⟨h0,h1,b,H,rfl,hB,hH,hh⟩
  · exact .inl h
  · exact .inr ⟨h0,h1,b,H,rfl,hB,hH,(hk b 32 rfl hB hh.lt).trans hh⟩
theorem MPK.at {w : World} {B : Nat} {a : Option Addr} {n c : Nat} {xs : List Int} (h : MPK w B a n c xs) : ∀ k,(0 < n ∧ ∃ o,a = some ⟨k,o,none⟩) → B ≤ k ∧ k < w.heap.size := by
  rintro k ⟨h0,o,e⟩
  rcases h with h | ⟨_,_,b,H,rfl,hB,_,hh⟩
  · omega
  · cases e
    exact ⟨hB,hh.lt⟩
theorem events_long (X : Nat) (leaf : List Int) (hl : leaf.length = 32) (a : Option Addr) (n c : Nat) (ba : Option Addr) (bn bc : Nat) (w : World) (h : ¬ (n ≤ 200 ∧ bn ≤ 6400)) :
    Calls Tryd.prog 3 #[.agg (EVT X leaf (.slice a n c)),.slice ba bn bc] w fun e w' => e = .returned (.bool true) ∧ Below w.heap.size w w' := by
  obtain ⟨W0,hW0⟩ : ∃ W0,w.alloc (.cells (EVT X leaf (.slice a n c)) 27) = W0 := ⟨_,rfl⟩
  obtain ⟨be,hbe⟩ : ∃ be,w.heap.size = be := ⟨_,rfl⟩
  have R0 : Aside (Below w.heap.size w W0) := by
    rw [← hW0]
    exact (Below.refl _ _).alloc (Nat.le_refl _) _
  have y2 : W0.cell? ⟨be,33,none⟩ = some (.slice a n c) := by
    have : Has W0 be (EVT X leaf (.slice a n c)) 27 := by
      rw [← hW0, ← hbe]
      exact Has.new _ _ _
    exact (EVT_at this hl).2.2
  generalize EVT X leaf (.slice a n c) = VE at *
  by_cases h1 : (200 : Int) < (n : Int)
  · clear h
    go_enter Tryd.func3,Tryd.ntmps3
    go_wp2_with fail
    go_ret
    exact ⟨rfl,by first | exact R0.out | (rw [← hbe]; exact R0.out)⟩
  · have h2 : (6400 : Int) < (bn : Int) := by omega
    clear h
    go_enter Tryd.func3,Tryd.ntmps3
    go_wp2_with fail
    go_ret
    exact ⟨rfl,by first | exact R0.out | (rw [← hbe]; exact R0.out)⟩
theorem MPK.none {w : World} {B : Nat} {a : Option Addr} {n c : Nat} {xs : List Int} (h : MPK w B a n c xs) : a = none → n = 0 := fun e => by
  rcases h with ⟨h,_⟩ | ⟨_,_,b,H,e2,_⟩
  · exact h
  · rw [e] at e2
    cases e2
theorem Flat.turn {w w' : World} {a : Option Addr} {n : Nat} {l : List Int} (h : Flat w a n l) (hs : w.heap.size ≤ w'.heap.size) (hk : 0 < n → ∀ b o,a = some ⟨b,o,none⟩ → b < w.heap.size → w'.heap[b]? = w.heap[b]?) : Flat w' a n l := by
  refine ⟨h.1,fun h0 => ?_,h.2.2⟩
  obtain ⟨b,o,e,hb,hc⟩ := h.2.1 h0
  exact ⟨b,o,e,Nat.lt_of_lt_of_le hb hs,fun j hj => (World.cell?_of_block (w := w) (a := ⟨b,o + j,none⟩) (hk h0 b o e hb)).trans (hc j hj)⟩
set_option maxHeartbeats 32000000 in
theorem events_core (X : Nat) (hX : X < 2 ^ 64) (leaf : List Int) (hleaf : IsH leaf) (a : Option Addr) (n c : Nat) (hc : a = none → c = 0) (l : List Int) (ba : Option Addr) (bn bc : Nat) (hbc : ba = none → bc = 0) (hbb : bn ≤ bc) (bl : List Int) (w : World) (hF : Flat w a n l) (hB : Bytes w ba bn bl)
    (hT : Tabled w) (hXT : HX.Tabled w) (h0 : 2 < w.heap.size) (s1 : n ≤ 200) (s2 : bn ≤ 6400) :
    Calls Tryd.prog 3 #[.agg (EVT X leaf (.slice a n c)),.slice ba bn bc] w fun e w' => e = .returned (.bool true) ∧ Below w.heap.size w w' := by
  obtain ⟨W0,hW0⟩ : ∃ W0,w.alloc (.cells (EVT X leaf (.slice a n c)) 27) = W0 := ⟨_,rfl⟩
  obtain ⟨be,hbe⟩ : ∃ be,w.heap.size = be := ⟨_,rfl⟩
  have R0 : Aside (Below w.heap.size w W0 ∧ Has W0 be (EVT X leaf (.slice a n c)) 27) := by
    rw [← hW0, ← hbe]
    exact ⟨(Below.refl _ _).alloc (Nat.le_refl _) _,Has.new _ _ _⟩
  have HA : Aside (X < 2 ^ 64 ∧ IsH leaf ∧ (a = none → c = 0) ∧ (ba = none → bc = 0) ∧ bn ≤ bc) := ⟨hX,hleaf,hc,hbc,hbb⟩
  have l32 := hleaf.1
  have AW : Aside (∀ W,Below W0.heap.size W0 W → Calls Tryd.prog 16 #[] W fun e w' => e = .returned (.bool true) ∧ Below w.heap.size w w') := fun W hb => by
    have h := R0.out.1.trans (hb.mono R0.out.1.size)
    exact (awake12_ok W (hT.below (by omega) h) (hXT.below h) (Nat.lt_of_lt_of_le h0 h.size)).mono fun e w' z => ⟨z.1,h.trans (z.2.mono h.size)⟩
  have KB : Aside (∀ W,Below W0.heap.size W0 W → Below w.heap.size w W ∧ Flat W a n l ∧ Bytes W ba bn bl ∧ Has W be (EVT X leaf (.slice a n c)) 27) := fun W hb => by
    have h := R0.out.1.trans (hb.mono R0.out.1.size)
    exact ⟨h,hF.below h,hB.below h,R0.out.2.keep hb⟩
  have HB : Aside (bl.length = bn ∧ (∀ x ∈ bl,0 ≤ x ∧ x ≤ 255) ∧ l.length = 32 * n ∧ ∀ x ∈ l,0 ≤ x ∧ x ≤ 255) := ⟨hB.1,hB.2.2,hF.1,hF.2.2⟩
  have y2 := (EVT_at R0.out.2 l32).2.2
  have S12 : Aside (n ≤ 200 ∧ bn ≤ 6400) := ⟨s1,s2⟩
  have i1 : ¬ (200 : Int) < (n : Int) := by omega
  have i2 : ¬ (6400 : Int) < (bn : Int) := by omega
  clear hX hleaf hc hbc hbb hF hB hT hXT h0 s1 s2
  obtain ⟨ZE,eZ,hz,hbu,hi,hone⟩ := zero_event
  have hev := fun (x : Nat) (lf : List Int) (hl : lf.length = 32) (v : Value) => info_event' x lf hl v
  have hsz : ∀ (x : Nat) (lf : List Int) (hl : lf.length = 32) (v : Value),ZE.size = (EVT x lf v).size := fun x lf hl v => by
    rw [← eZ,show (EVT x lf v).size = 34 by simp only [EVT,List.size_toArray,List.length_cons,List.length_append,CELLS,List.length_map,hl,List.length_nil]]
    rfl
  have HS : Aside ((∀ (x : Nat) (lf : List Int) (_ : lf.length = 32) (v : Value),ZE.size = (EVT x lf v).size) ∧ (∀ (x : Nat) (lf : List Int) (_ : lf.length = 32) (v : Value),(Tryd.prog.info? 27).map (·.size) = some (EVT x lf v).size)) := ⟨hsz,hev⟩
  clear eZ hbu hi hone hsz hev
  obtain ⟨VE,hVE⟩ : ∃ VE,EVT X leaf (.slice a n c) = VE := ⟨_,rfl⟩
  have HVE : Aside (EVT X leaf (.slice a n c) = VE ∧ ZE.size = VE.size ∧ (Tryd.prog.info? 27).map (·.size) = some VE.size ∧ VE.all (·.oneCell') = true) := ⟨hVE,by rw [← hVE]; exact HS.out.1 X leaf l32 _,by rw [← hVE]; exact HS.out.2 X leaf l32 _,by rw [← hVE]; exact event_one _ _ _ _ _⟩
  rw [hVE] at hW0 R0 KB ⊢
  clear hVE
  have hHe := R0.out.2
  have he1 := HVE.out.2.1
  have he2 := HVE.out.2.2.1
  have he3 := HVE.out.2.2.2
  go_enter Tryd.func3,Tryd.ntmps3
  go_upto_region 3 with fail
  clear hW0 hbe
  go_upto_region 4 with (first
    | (refine wpList_load_row rfl 27 (.tmp 2) rfl be rfl 27 VE (0,0) _ hHe Tryd.underlying27 rfl he2 ?_)
    | (refine wpList_store_row rfl 27 (.tmp 5) (.tmp 33) rfl _ VE rfl rfl 27 ZE (Has.new W0 _ _) he2 he1 he3 ?_; rw [World.setRow_alloc_new]))
  obtain ⟨b5,hb5⟩ : ∃ b5,W0.heap.size = b5 := ⟨_,rfl⟩
  have hb1 : Below W0.heap.size W0 (W0.alloc (.cells VE 27)) := (Below.refl _ _).alloc (Nat.le_refl _) _
  have hH5 : Has (W0.alloc (.cells VE 27)) b5 VE 27 := Has.at _ _ _ hb5.symm
  have HB5 : Aside (W0.heap.size = b5) := hb5
  rw [hb5]
  clear hb5 hHe he1
  generalize W0.alloc (.cells VE 27) = w1 at *
  have y3 : w1.cell? ⟨be,33,none⟩ = some (.slice a n c) := by
    have h := (KB.out w1 hb1).2.2.2
    rw [← HVE.out.1] at h
    exact (EVT_at h l32).2.2
  have cR : Aside (Calls Tryd.prog 4 #[.slice a n c] w1 (ROWED w1 n l)) := row12_ok a n c (by have := S12.out; omega) HA.out.2.2.1 l w1 (KB.out w1 hb1).2.1
  clear y2
  go_wp2_with fail
  refine cR.out.mono ?_
  rintro e w2 ⟨rg,rc,rfl,hro,hrc,hmk,hrg,hb2⟩
  clear cR y3
  have hH52 := hH5.keep hb2
  have y5 : w2.cell? ⟨b5,33,none⟩ = some (.slice a n c) := by
    rw [← HVE.out.1] at hH52
    exact (EVT_at hH52 l32).2.2
  have z5 := hH52.frozen 33
  obtain ⟨w3,hw3⟩ : ∃ w3,w2.setCell ⟨b5,33,none⟩ (.slice (some ⟨rg,0,none⟩) n rc) = w3 := ⟨_,rfl⟩
  obtain ⟨V3,hV3⟩ : ∃ V3,EVT X leaf (.slice (some ⟨rg,0,none⟩) n rc) = V3 := ⟨_,rfl⟩
  have HV3 : Aside (EVT X leaf (.slice (some ⟨rg,0,none⟩) n rc) = V3) := hV3
  have hw2 : (Tryd.prog.info? 27).map (·.size) = some V3.size := by rw [← hV3]; exact HS.out.2 _ _ l32 _
  have R3 : Aside (Below W0.heap.size W0 w3 ∧ Has w3 b5 V3 27 ∧ w3.ownsRow w1.heap.size 24 32 (.slice (some ⟨rg,0,none⟩) n rc) n (CELLS l) ∧ n + 1 ≤ rc ∧ w3.rangeAt rg (n * 32) (CELLS MRK) ∧ rg < w3.heap.size) := by
    have hh := hH52.set 33 (.slice (some ⟨rg,0,none⟩) n rc)
    rw [← HVE.out.1,EVT_set33 X leaf l32,hV3] at hh
    have hb02 := hb1.trans (hb2.mono hb1.size)
    have hne : rg ≠ b5 := by
      have := (hro.lt rg rfl).1
      have := hH5.lt
      omega
    rw [← hw3]
    refine ⟨hb02.setCell (p := ⟨b5,33,none⟩) (Nat.le_of_eq HB5.out) _,hh,(KEPT.of_set (A := fun k => k = b5) w2 ⟨b5,33,none⟩ _ rfl).own hro (fun k e q => ?_),hrc,range_keep hmk (Below.heap_setCell w2 ⟨b5,33,none⟩ _ rg hne),by simpa [World.setCell] using hrg⟩
    have := (hro.lt k e).1
    have := hH5.lt
    omega
  clear hro hrg hb2 hb1 hH5 hH52 hrc hmk hV3
  go_upto_region 5 with fail
  clear hw3 y5 z5
  have K3 : Aside (∀ W,Below w3.heap.size w3 W → Below W0.heap.size W0 W ∧ Has W be VE 27 ∧ Has W b5 V3 27 ∧ W.cell? ⟨be,33,none⟩ = some (.slice a n c) ∧ W.cell? ⟨b5,33,none⟩ = some (.slice (some ⟨rg,0,none⟩) n rc) ∧ Flat W (some ⟨rg,0,none⟩) n l ∧ Flat W a n l ∧ W.rangeAt rg (n * 32) (CELLS MRK) ∧ rg < W.heap.size) := fun W hb => by
    have h := R3.out.1.trans (hb.mono R3.out.1.size)
    have k1 := (KB.out W h).2.2.2
    have k2 := R3.out.2.1.keep hb
    have k3 := k1
    have k4 := k2
    rw [← HVE.out.1] at k3
    rw [← HV3.out] at k4
    exact ⟨h,k1,k2,(EVT_at k3 l32).2.2,(EVT_at k4 l32).2.2,(own_flat R3.out.2.2.1 HB.out.2.2.2).below hb,(KB.out W h).2.1,range_below R3.out.2.2.2.2.1 hb R3.out.2.2.2.2.2,Nat.lt_of_lt_of_le R3.out.2.2.2.2.2 hb.size⟩
  have MR := EVE_range HA.out.1 HA.out.2.1 HB.out.2.2.2 HB.out.2.2.1 (show n ≤ 1000 by have := S12.out; omega)
  have cr := rencodeevent_ok X HA.out.1 leaf HA.out.2.1 a n c (by have := S12.out; omega) l w3 (K3.out w3 (Below.refl _ _)).2.2.2.2.2.2.1
  rw [HVE.out.1] at cr
  have EN : Aside (∀ W,Below w3.heap.size w3 W → Calls Tryd.prog 6 #[.agg V3] W (ANSB W (EVE X n leaf l))) := fun W hb => by
    rw [← HV3.out]
    exact encodeevent_ok X HA.out.1 leaf HA.out.2.1 _ n rc (by have := S12.out; omega) l W (K3.out W hb).2.2.2.2.2.1
  have hH2 := (K3.out w3 (Below.refl _ _)).2.1
  generalize EVE X n leaf l = M at *
  obtain ⟨E,Z⟩ := M
  obtain ⟨zl,hzl⟩ : ∃ zl,Z.length = zl := ⟨_,rfl⟩
  unfold ANSB at cr EN
  dsimp only at cr EN MR
  rw [hzl] at cr EN MR
  have MZ : Aside (Z.length = zl ∧ (∀ x ∈ Z,0 ≤ x ∧ x ≤ 255) ∧ zl ≤ 1000000) := ⟨hzl,MR⟩
  clear hzl MR
  go_wp2_with (refine wpList_load_row rfl 27 (.tmp 2) rfl be rfl 27 VE (0,0) _ hH2 Tryd.underlying27 rfl he2 ?_)
  refine cr.mono ?_
  rintro e w4 ⟨v4,rfl,o4,hb4⟩
  obtain ⟨a4,c4,rfl⟩ := own_slicec o4
  have W4 : Aside (Below w3.heap.size w3 w4 ∧ w4.ownsRow w3.heap.size 5 1 (.slice a4 zl c4) zl (CELLS Z)) := ⟨hb4,o4⟩
  clear cr o4 hb4 hH2
  have hH5 := (K3.out w4 W4.out.1).2.2.1
  have ce1 := EN.out w4 W4.out.1
  go_wp2_with (refine wpList_load_row rfl 27 (.tmp 5) rfl b5 rfl 27 V3 (0,0) _ hH5 Tryd.underlying27 rfl hw2 ?_)
  refine ce1.mono ?_
  rintro e w5 ⟨v5,rfl,o5,hb5⟩
  obtain ⟨a5,c5,rfl⟩ := own_slicec o5
  have W5 : Aside (Below w3.heap.size w3 w5 ∧ Below w4.heap.size w4 w5 ∧ w5.ownsRow w4.heap.size 5 1 (.slice a5 zl c5) zl (CELLS Z)) := ⟨W4.out.1.trans (hb5.mono W4.out.1.size),hb5,o5⟩
  clear ce1 o5 hb5 hH5
  have hH5 := (K3.out w5 W5.out.1).2.2.1
  have ce2 := EN.out w5 W5.out.1
  go_wp2_with (refine wpList_load_row rfl 27 (.tmp 5) rfl b5 rfl 27 V3 (0,0) _ hH5 Tryd.underlying27 rfl hw2 ?_)
  refine ce2.mono ?_
  rintro e w6 ⟨v6,rfl,o6,hb6⟩
  obtain ⟨a6,c6,rfl⟩ := own_slicec o6
  have W6 : Aside (Below w3.heap.size w3 w6 ∧ Below w4.heap.size w4 w6 ∧ w6.ownsRow w4.heap.size 5 1 (.slice a5 zl c5) zl (CELLS Z) ∧ w6.ownsRow w4.heap.size 5 1 (.slice a6 zl c6) zl (CELLS Z) ∧ (∀ g,(Value.slice a5 zl c5).ownBlock = some g → (Value.slice a6 zl c6).ownBlock ≠ some g) ∧ w6.ownsRow w3.heap.size 5 1 (.slice a4 zl c4) zl (CELLS Z)) := by
    refine ⟨W5.out.1.trans (hb6.mono W5.out.1.size),W5.out.2.1.trans (hb6.mono W5.out.2.1.size),own_below W5.out.2.2 hb6,own_mono o6 W5.out.2.1.size,fun g e1 e2 => ?_,own_below (own_below W4.out.2 W5.out.2.1) hb6⟩
    have h1 := (W5.out.2.2.lt g e1).2
    have h2 := (o6.lt g e2).1
    omega
  clear ce2 o6 hb6 hH5 W5 EN
  have SB : Aside (∀ W av cv,Below w6.heap.size w6 W → Bytes W av zl Z → Calls Tryd.prog 7 #[.slice av zl cv,.slice a4 zl c4] W fun e w' => e = .returned (.bool true) ∧ Below W.heap.size W w') := fun W av cv hb h => by
    have h1 := samebytes_ok av a4 zl zl cv c4 Z Z W h (((own_bytes_any W6.out.2.2.2.2.2 MZ.out.2.1).1).below hb) (by have := MZ.out.2.2; omega)
    rw [decide_eq_true rfl] at h1
    exact h1
  have cs1 := SB.out w6 a5 c5 (Below.refl _ _) (own_bytes_any W6.out.2.2.1 MZ.out.2.1).1
  go_wp2_with fail
  refine cs1.mono ?_
  rintro e w7 ⟨rfl,hb7⟩
  have W7 : Aside (Below w6.heap.size w6 w7) := hb7
  clear cs1 hb7
  have cs2 := SB.out w7 a6 c6 W7.out ((own_bytes_any W6.out.2.2.2.1 MZ.out.2.1).1.below W7.out)
  go_wp2_with fail
  refine cs2.mono ?_
  rintro e w8 ⟨rfl,hb8⟩
  have W8 : Aside (Below w6.heap.size w6 w8 ∧ Below w3.heap.size w3 w8) := by
    have h1 : Below w6.heap.size w6 w8 := W7.out.trans (hb8.mono W7.out.size)
    exact ⟨h1,W6.out.1.trans (h1.mono W6.out.1.size)⟩
  clear cs2 hb8 W7 SB
  obtain ⟨_,_,_,z1,z2,kf1,kf2,kf3,kf4⟩ := K3.out w8 W8.out.2
  have ckp := kept12_ok rg n rc a c l (by have := S12.out; omega) R3.out.2.2.2.1 w8 kf1 kf2 kf4 kf3
  clear kf1 kf2 kf3 kf4
  go_wp2_with fail
  refine ckp.mono ?_
  rintro e w10 ⟨rfl,hb10⟩
  have PP : Aside (BPAIR w4 w10 w4.heap.size (.slice a5 zl c5) zl (CELLS Z) (.slice a6 zl c6) zl (CELLS Z) ∧ (CELLS Z).length = zl) := by
    have h1 : Below w6.heap.size w6 w10 := W8.out.1.trans (hb10.mono W8.out.1.size)
    refine ⟨⟨own_below W6.out.2.2.1 h1,own_below W6.out.2.2.2.1 h1,W6.out.2.2.2.2.1,W6.out.2.1.trans (h1.mono W6.out.2.1.size),Nat.le_refl _⟩,by rw [CELLS,List.length_map,MZ.out.1]⟩
  have B4 : Aside (Below W0.heap.size W0 w4) := (K3.out w4 W4.out.1).1
  have HZ : Aside (zl ≤ 1000000) := MZ.out.2.2
  clear ckp hb10 z1 z2 W8 W6 W4 R3 MZ K3 HB5 HV3 HVE
  go_wp2_with fail
  go_loopg [12] zl (fun q s12 wx => ∃ j : Nat,s12 = .int .i64 (j : Int) ∧ Aside (j + q = zl ∧ BPAIR w4 wx w4.heap.size (.slice a5 zl c5) zl (OVER (CELLS Z) (.int .u8 201) j) (.slice a6 zl c6) zl (OVER (CELLS Z) (.int .u8 202) j)))
  case atStart => exact ⟨0,rfl,by omega,by rw [OVER_zero,OVER_zero]; exact PP.out.1⟩
  case round =>
    obtain ⟨j,rfl,A⟩ := hrel
    cases gk with
    | succ q =>
      have hjn : j < zl := by have := A.out.1; omega
      have hlt : (j : Int) < (zl : Int) := by omega
      obtain ⟨ga,rfl⟩ := own_some12 A.out.2.ra (by omega)
      obtain ⟨gb,rfl⟩ := own_some12 A.out.2.rb (by omega)
      obtain ⟨⟨u1,y1⟩,f1,o1,r1⟩ := own_put8 (v := .int .u8 201) A.out.2.ra hjn
      have st1 := A.out.2.step o1 r1 (fun _ e => .inl e)
      obtain ⟨⟨u2,y2⟩,f2,o2,r2⟩ := own_put8 (v := .int .u8 202) st1.rb hjn
      have st2 := (st1.swap.step o2 r2 (fun _ e => .inl e)).swap
      have ej : wrap64 ((j : Int) + 1) = ((j + 1 : Nat) : Int) := by have := HZ.out; unfold wrap64; omega
      have S1 := OVER_next (u := .int .u8 201) (show j < (CELLS Z).length by have := PP.out.2; omega)
      have S2 := OVER_next (u := .int .u8 202) (show j < (CELLS Z).length by have := PP.out.2; omega)
      rw [S1,S2] at st2
      have ZZ : Aside (j + 1 + q = zl ∧ BPAIR w4 ((wr.setCell ⟨ga,j,none⟩ (.int .u8 201)).setCell ⟨gb,j,none⟩ (.int .u8 202)) w4.heap.size (.slice (some ⟨ga,0,none⟩) zl c5) zl (OVER (CELLS Z) (.int .u8 201) (j + 1)) (.slice (some ⟨gb,0,none⟩) zl c6) zl (OVER (CELLS Z) (.int .u8 202) (j + 1))) := ⟨by have := A.out.1; clear ej; omega,st2⟩
      clear A o1 r1 st1 o2 r2 st2 S1 S2 hjn
      go_wp2_with fail
      go_roundg q
      case measure => exact Nat.lt_succ_self _
      case rel => exact ⟨j + 1,by first | rfl | (rw [ej]),ZZ.out⟩
    | zero =>
      obtain rfl : j = zl := by have := A.out.1; omega
      have hlt : ¬ (j : Int) < (j : Int) := by omega
      have P1 : Aside (BPAIR w4 wr w4.heap.size (.slice a5 j c5) j (OVER (CELLS Z) (.int .u8 201) j) (.slice a6 j c6) j (OVER (CELLS Z) (.int .u8 202) j)) := A.out.2
      clear A
      go_wp2_with (first
        | (at_builtin; refine app_byte12 _ rfl (.tmp 93) (.tmp 94) rfl w4.heap.size (.slice a5 j c5) j _ rfl (P1.out.alloc _).ra wr.heap.size 1 201 rfl ((Has.new _ _ _).cell 0) (by have := HZ.out; omega) (by have := P1.out.bl.size; simp; omega) ?_; intro g11 c11 w11 ho11 hg11 hat11 hl11
           have P2 : Aside (BPAIR w4 w11 w4.heap.size (.slice (some ⟨g11,0,none⟩) (j + 1) c11) (j + 1) (List.replicate (j + 1) (.int .u8 201)) (.slice a6 j c6) j (OVER (CELLS Z) (.int .u8 202) j)) := by
             have h1 := (P1.out.alloc (.cells #[.int .u8 201] 5)).step ho11 hg11 (fun g e => by have e : g11 = g := (by simpa [Value.ownBlock] using e); subst e; exact hat11.imp id (fun e => Nat.le_of_eq e.symm))
             rw [OVER_grow12 PP.out.2] at h1
             exact h1
           clear ho11 hg11 hat11 hl11 P1)
        | (at_builtin; refine app_byte12 _ rfl (.tmp 96) (.tmp 97) rfl w4.heap.size (.slice a6 j c6) j _ rfl (P2.out.alloc _).rb w11.heap.size 1 202 rfl ((Has.new _ _ _).cell 0) (by have := HZ.out; omega) (by have := P2.out.bl.size; simp; omega) ?_; intro g12 c12 w12 ho12 hg12 hat12 hl12
           have P3 : Aside (BPAIR w4 w12 w4.heap.size (.slice (some ⟨g11,0,none⟩) (j + 1) c11) (j + 1) (List.replicate (j + 1) (.int .u8 201)) (.slice (some ⟨g12,0,none⟩) (j + 1) c12) (j + 1) (List.replicate (j + 1) (.int .u8 202))) := by
             have h1 := ((P2.out.alloc (.cells #[.int .u8 202] 5)).swap.step ho12 hg12 (fun g e => by have e : g12 = g := (by simpa [Value.ownBlock] using e); subst e; exact hat12.imp id (fun e => Nat.le_of_eq e.symm))).swap
             rw [OVER_grow12 PP.out.2] at h1
             exact h1
           clear ho12 hg12 hat12 hl12 P2))
      go_loopg [13] (j + 1) (fun q s13 wx => ∃ t : Nat,s13 = .int .i64 (t : Int) ∧ Aside (t + q = j + 1) ∧ wx = w12)
      case atStart => exact ⟨0,rfl,by show 0 + (j + 1) = j + 1; omega,rfl⟩
      case round =>
        obtain ⟨t,rfl,A,rfl⟩ := hrel
        cases gk with
        | succ q =>
          have hlt3 : (t : Int) < (j : Int) + 1 := by have := A.out; omega
          have hltn : t < j + 1 := by have := A.out; omega
          have z1 : wr.cell? ⟨g11,t,none⟩ = some (.int .u8 201) := by
            have := P3.out.ra.cellAt t (by omega)
            rw [this,List.getElem?_replicate,if_pos hltn]
          have z2 : wr.cell? ⟨g12,t,none⟩ = some (.int .u8 202) := by
            have := P3.out.rb.cellAt t (by omega)
            rw [this,List.getElem?_replicate,if_pos hltn]
          have et : wrap64 ((t : Int) + 1) = ((t + 1 : Nat) : Int) := by have := HZ.out; unfold wrap64; omega
          have ZZ : Aside (t + 1 + q = j + 1) := by have := A.out; show t + 1 + q = j + 1; clear et; omega
          clear A hltn
          go_wp2_with fail
          go_roundg q
          case measure => exact Nat.lt_succ_self _
          case rel => exact ⟨t + 1,by first | rfl | (rw [et]),ZZ.out,rfl⟩
        | zero =>
          have ht : (t : Int) = (j : Int) + 1 := by have := A.out; omega
          have hlt3 : ¬ (t : Int) < (j : Int) + 1 := by omega
          have hlt4 : ¬ t < j + 1 := by omega
          have WB : Aside (Below W0.heap.size W0 wr) := B4.out.trans (P3.out.bl.mono B4.out.size)
          clear A ht PP HZ P3 B4
          obtain ⟨wv,hwv⟩ : ∃ wv,wv = wr := ⟨_,rfl⟩
          rw [← hwv] at WB ⊢
          clear hwv
          have AL : Aside ((EVD bl).2.2.2.2.length ≤ 6400 ∧ (EVD bl).2.2.1.length = 32) := ⟨by have := EVD_sub bl; have := HB.out.1; have := S12.out.2; omega,EVD_leaf bl⟩
          have CQ : Aside (∀ W,Below W0.heap.size W0 W → Calls Tryd.prog 10 #[.slice ba bn bc] W (ANSR W (EVD bl))) := fun W hb => rdecodeevent_ok ba bn bc HA.out.2.2.2.2 (by have := S12.out.2; omega) bl W (KB.out W hb).2.2.1
          have ct := text12_ok ba bn bc (by have := S12.out; omega) HA.out.2.2.2.1 bl wv (KB.out wv WB.out).2.2.1
          go_wp2_with fail
          refine ct.mono ?_
          rintro e w20 ⟨gc,qc,rfl,o20,r20,mk20,lt20,hb20⟩
          have W20 : Aside (Below W0.heap.size W0 w20 ∧ w20.ownsRow wv.heap.size 5 1 (.slice (some ⟨gc,0,none⟩) bn qc) bn (CELLS bl) ∧ bn + 1 ≤ qc ∧ w20.cell? ⟨gc,bn,none⟩ = some (.int .u8 171) ∧ gc < w20.heap.size ∧ wv.heap.size ≤ gc) := ⟨WB.out.trans (hb20.mono WB.out.size),o20,r20,mk20,lt20,(o20.lt gc rfl).1⟩
          have WR : Aside (W0.heap.size ≤ wv.heap.size) := WB.out.size
          clear ct o20 r20 mk20 lt20 hb20 WB
          have DC : Aside (∀ W,Below w20.heap.size w20 W → Calls Tryd.prog 11 #[.slice (some ⟨gc,0,none⟩) bn qc] W (ANSP W (EVD bl))) := fun W hb => decodeevent_own (some ⟨gc,0,none⟩) bn qc (by have := W20.out.2.2.1; omega) (by have := S12.out.2; omega) bl W ((own_bytes W20.out.2.1 W20.out.2.2.2.2.1 HB.out.2.1).below hb)
          generalize EVD bl = A at *
          obtain ⟨E2,XX,LF,N,PK⟩ := A
          unfold ANSR at CQ
          unfold ANSP at DC
          dsimp only at CQ DC AL
          have DD : Aside (PK.length ≤ 6400 ∧ LF.length = 32) := AL
          clear AL
          have cq := CQ.out w20 W20.out.1
          go_wp2_with fail
          refine cq.mono ?_
          rintro e w21 ⟨aq,kq,rfl,fq,_,hb21,hq0⟩
          clear cq CQ
          obtain ⟨VU,hVU⟩ : ∃ VU,EVT XX LF (.slice aq N kq) = VU := ⟨_,rfl⟩
          have HVU : Aside (EVT XX LF (.slice aq N kq) = VU) := hVU
          have hu1 : ZE.size = VU.size := by rw [← hVU]; exact HS.out.1 _ _ DD.out.2 _
          have hu2 : (Tryd.prog.info? 27).map (·.size) = some VU.size := by rw [← hVU]; exact HS.out.2 _ _ DD.out.2 _
          have hu3 : VU.all (·.oneCell') = true := by rw [← hVU]; exact event_one _ _ _ _ _
          rw [hVU]
          clear hVU
          go_upto_region 22 with (refine wpList_store_row rfl 27 (.tmp 15) (.tmp 122) rfl _ VU rfl rfl 27 ZE (Has.new w21 _ _) hu2 hu1 hu3 ?_; rw [World.setRow_alloc_new])
          obtain ⟨bu,hbu⟩ : ∃ bu,w21.heap.size = bu := ⟨_,rfl⟩
          have Hbu : Aside (w21.heap.size = bu) := hbu
          have hbw22 : Below w21.heap.size w21 (w21.alloc (.cells VU 27)) := (Below.refl _ _).alloc (Nat.le_refl _) _
          have hHbu : Has (w21.alloc (.cells VU 27)) bu VU 27 := Has.at _ _ _ hbu.symm
          rw [hbu]
          clear hbu hu1 hu3
          generalize w21.alloc (.cells VU 27) = w22 at *
          have W22 : Aside (Below w20.heap.size w20 w22 ∧ Has w22 bu VU 27 ∧ Flat w22 aq N PK ∧ w20.heap.size ≤ bu ∧ N ≤ 200 ∧ ∀ b o,aq = some ⟨b,o,none⟩ → w20.heap.size ≤ b) := ⟨hb21.trans (hbw22.mono hb21.size),hHbu,fq.below hbw22,by rw [← Hbu.out]; exact hb21.size,by have := fq.1; have := DD.out.1; omega,hq0⟩
          clear fq hb21 hq0 hbw22 hHbu
          have cd1 := DC.out w22 W22.out.1
          go_wp2_with fail
          refine cd1.mono ?_
          rintro e w23 ⟨av,kv,rfl,fv,hvn,hb23,mv⟩
          clear cd1
          obtain ⟨VV,hVV⟩ : ∃ VV,EVT XX LF (.slice av N kv) = VV := ⟨_,rfl⟩
          have HVV : Aside (EVT XX LF (.slice av N kv) = VV) := hVV
          have hv1 : ZE.size = VV.size := by rw [← hVV]; exact HS.out.1 _ _ DD.out.2 _
          have hv2 : (Tryd.prog.info? 27).map (·.size) = some VV.size := by rw [← hVV]; exact HS.out.2 _ _ DD.out.2 _
          have hv3 : VV.all (·.oneCell') = true := by rw [← hVV]; exact event_one _ _ _ _ _
          rw [hVV]
          clear hVV
          go_upto_region 23 with (refine wpList_store_row rfl 27 (.tmp 17) (.tmp 127) rfl _ VV rfl rfl 27 ZE (Has.new w23 _ _) hv2 hv1 hv3 ?_; rw [World.setRow_alloc_new])
          obtain ⟨bv,hbv⟩ : ∃ bv,w23.heap.size = bv := ⟨_,rfl⟩
          have Hbv : Aside (w23.heap.size = bv) := hbv
          have hbw24 : Below w23.heap.size w23 (w23.alloc (.cells VV 27)) := (Below.refl _ _).alloc (Nat.le_refl _) _
          have hHbv : Has (w23.alloc (.cells VV 27)) bv VV 27 := Has.at _ _ _ hbv.symm
          rw [hbv]
          clear hbv hv1 hv3
          generalize w23.alloc (.cells VV 27) = w24 at *
          have W24 : Aside (Below w22.heap.size w22 w24 ∧ Has w24 bv VV 27 ∧ Flat w24 av N PK ∧ w22.heap.size ≤ bv ∧ MPK w24 w22.heap.size av N kv PK ∧ (av = none → N = 0) ∧ (∀ k,(0 < N ∧ ∃ o,av = some ⟨k,o,none⟩) → w22.heap.size ≤ k ∧ k < bv) ∧ bv < w24.heap.size) := ⟨hb23.trans (hbw24.mono hb23.size),hHbv,fv.below hbw24,by rw [← Hbv.out]; exact hb23.size,mv.keep (fun b o _ _ h => hbw24.block b h),mv.none,fun k hk => by rw [← Hbv.out]; exact mv.at k hk,hHbv.lt⟩
          clear fv hb23 mv hbw24 hHbv hvn
          have cd2 := DC.out w24 (W22.out.1.trans (W24.out.1.mono W22.out.1.size))
          go_wp2_with fail
          refine cd2.mono ?_
          rintro e w25 ⟨az,kz,rfl,fz,hzn,hb25,mz⟩
          clear cd2 DC
          obtain ⟨VZ,hVZ⟩ : ∃ VZ,EVT XX LF (.slice az N kz) = VZ := ⟨_,rfl⟩
          have HVZ : Aside (EVT XX LF (.slice az N kz) = VZ) := hVZ
          have hx1 : ZE.size = VZ.size := by rw [← hVZ]; exact HS.out.1 _ _ DD.out.2 _
          have hx2 : (Tryd.prog.info? 27).map (·.size) = some VZ.size := by rw [← hVZ]; exact HS.out.2 _ _ DD.out.2 _
          have hx3 : VZ.all (·.oneCell') = true := by rw [← hVZ]; exact event_one _ _ _ _ _
          rw [hVZ]
          clear hVZ
          go_upto_region 24 with (refine wpList_store_row rfl 27 (.tmp 19) (.tmp 132) rfl _ VZ rfl rfl 27 ZE (Has.new w25 _ _) hx2 hx1 hx3 ?_; rw [World.setRow_alloc_new])
          obtain ⟨bz,hbz⟩ : ∃ bz,w25.heap.size = bz := ⟨_,rfl⟩
          have Hbz : Aside (w25.heap.size = bz) := hbz
          have hbw26 : Below w25.heap.size w25 (w25.alloc (.cells VZ 27)) := (Below.refl _ _).alloc (Nat.le_refl _) _
          have hHbz : Has (w25.alloc (.cells VZ 27)) bz VZ 27 := Has.at _ _ _ hbz.symm
          rw [hbz]
          clear hbz hx1 hx3
          generalize w25.alloc (.cells VZ 27) = w26 at *
          have W26 : Aside (Below w24.heap.size w24 w26 ∧ Has w26 bz VZ 27 ∧ Flat w26 az N PK ∧ w24.heap.size ≤ bz ∧ MPK w26 w24.heap.size az N kz PK ∧ (az = none → N = 0) ∧ (∀ k,(0 < N ∧ ∃ o,az = some ⟨k,o,none⟩) → w24.heap.size ≤ k ∧ k < bz) ∧ bz < w26.heap.size) := ⟨hb25.trans (hbw26.mono hb25.size),hHbz,fz.below hbw26,by rw [← Hbz.out]; exact hb25.size,mz.keep (fun b o _ _ h => hbw26.block b h),mz.none,fun k hk => by rw [← Hbz.out]; exact mz.at k hk,hHbz.lt⟩
          clear fz hb25 mz hbw26 hHbz hzn
          have b2026 : Aside (Below w20.heap.size w20 w26 ∧ Below w22.heap.size w22 w26) := by
            have h1 := W24.out.1.trans (W26.out.1.mono W24.out.1.size)
            exact ⟨W22.out.1.trans (h1.mono W22.out.1.size),h1⟩
          have hu2' : (Tryd.prog.info? 27).map (·.size) = some VU.toList.length := by rw [Array.length_toList]; exact hu2
          have hv2' : (Tryd.prog.info? 27).map (·.size) = some VV.toList.length := by rw [Array.length_toList]; exact hv2
          have hx2' : (Tryd.prog.info? 27).map (·.size) = some VZ.toList.length := by rw [Array.length_toList]; exact hx2
          clear hu2 hv2 hx2
          have SE : Aside (∀ W a' c',Flat W a' N PK → Flat W aq N PK → Calls Tryd.prog 12 #[.agg (EVT XX LF (.slice a' N c')),.agg VU] W fun e w' => e = .returned (.bool true) ∧ Below W.heap.size W w') := fun W a' c' h1 h2 => by
            rw [← HVU.out]
            exact sameevents_ok XX LF DD.out.2 a' aq N c' kq PK W h1 h2 (by have := W22.out.2.2.2.2.1; omega)
          have r1 := EVT_range (W24.out.2.1.keep W26.out.1)
          have r2 := EVT_range (W22.out.2.1.keep b2026.out.2)
          have cs1 := SE.out w26 av kv (W24.out.2.2.1.below W26.out.1) (W22.out.2.2.1.below b2026.out.2)
          rw [HVV.out] at cs1
          go_wp2_with (first
            | (refine load_mid_ifc (by rfl) 27 (.tmp 17) rfl bv 0 rfl VV.toList _ r1 Tryd.underlying27 rfl hv2' ?_)
            | (refine load_mid_ifc (by rfl) 27 (.tmp 15) rfl bu 0 rfl VU.toList _ r2 Tryd.underlying27 rfl hu2' ?_)
            | fail)
          refine cs1.mono ?_
          rintro e w27 ⟨rfl,hb27⟩
          have B27 : Aside (Below w26.heap.size w26 w27) := hb27
          clear cs1 hb27 r1 r2
          have r1 := EVT_range (W26.out.2.1.keep B27.out)
          have r2 := EVT_range ((W22.out.2.1.keep b2026.out.2).keep B27.out)
          have cs2 := SE.out w27 az kz (W26.out.2.2.1.below B27.out) ((W22.out.2.2.1.below b2026.out.2).below B27.out)
          rw [HVZ.out] at cs2
          go_wp2_with (first
            | (refine load_mid_ifc (by rfl) 27 (.tmp 19) rfl bz 0 rfl VZ.toList _ r1 Tryd.underlying27 rfl hx2' ?_)
            | (refine load_mid_ifc (by rfl) 27 (.tmp 15) rfl bu 0 rfl VU.toList _ r2 Tryd.underlying27 rfl hu2' ?_)
            | fail)
          refine cs2.mono ?_
          rintro e w28 ⟨rfl,hb28⟩
          have B28 : Aside (Below w26.heap.size w26 w28 ∧ Below w20.heap.size w20 w28) := by
            have h1 : Below w26.heap.size w26 w28 := B27.out.trans (hb28.mono B27.out.size)
            exact ⟨h1,b2026.out.1.trans (h1.mono b2026.out.1.size)⟩
          clear cs2 hb28 B27 r1 r2
          have csl := still12_ok gc bn qc ba bc bl (by have := S12.out.2; omega) W20.out.2.2.1 w28 ((own_bytes W20.out.2.1 W20.out.2.2.2.2.1 HB.out.2.1).below B28.out.2) (KB.out w28 (W20.out.1.trans (B28.out.2.mono W20.out.1.size))).2.2.1 (Nat.lt_of_lt_of_le W20.out.2.2.2.2.1 B28.out.2.size) ((B28.out.2.cell (p := ⟨gc,bn,none⟩) W20.out.2.2.2.2.1).trans W20.out.2.2.2.1)
          go_wp2_with fail
          refine csl.mono ?_
          rintro e w29 ⟨rfl,hb29⟩
          have B29 : Aside (Below w26.heap.size w26 w29 ∧ Below w20.heap.size w20 w29) := ⟨B28.out.1.trans (hb29.mono B28.out.1.size),B28.out.2.trans (hb29.mono B28.out.2.size)⟩
          clear csl hb29 B28
          go_wp2_with fail
          go_loopg [21] bn (fun q s21 wx => ∃ t : Nat,s21 = .int .i64 (t : Int) ∧ Aside (t + q = bn ∧ wx.ownsRow wv.heap.size 5 1 (.slice (some ⟨gc,0,none⟩) bn qc) bn (INC12 bl t) ∧ w29.grownBy wx (some gc)))
          case atStart => exact ⟨0,rfl,by omega,by rw [INC12_zero]; exact own_below W20.out.2.1 B29.out.2,grown_refl _ _⟩
          case round =>
            obtain ⟨t,rfl,AA⟩ := hrel
            cases gk with
            | succ q =>
              have htk : t < bn := by have := AA.out.1; omega
              have hltk : (t : Int) < (bn : Int) := by omega
              obtain ⟨xb,exb⟩ : ∃ xb,bl[t]? = some xb := ⟨_,List.getElem?_eq_getElem (by have := HB.out.1; omega)⟩
              obtain ⟨n1,n2⟩ := INC12_at exb
              have hxb := HB.out.2.1 xb (List.mem_of_getElem? exb)
              have v0 := AA.out.2.1.cellAt t (by omega)
              rw [n1] at v0
              have v1 := AA.out.2.1.frozenAt t
              have ex1 : IntKind.u8.wrap (xb + 1) = (xb + 1) % 256 := rfl
              have et : wrap64 ((t : Int) + 1) = ((t + 1 : Nat) : Int) := by have := S12.out.2; unfold wrap64; omega
              obtain ⟨o1,r1⟩ := AA.out.2.1.stored t (.int .u8 ((xb + 1) % 256))
              rw [n2] at o1
              have ZZ : Aside (t + 1 + q = bn ∧ (wr.setCell ⟨gc,t,none⟩ (.int .u8 ((xb + 1) % 256))).ownsRow wv.heap.size 5 1 (.slice (some ⟨gc,0,none⟩) bn qc) bn (INC12 bl (t + 1)) ∧ w29.grownBy (wr.setCell ⟨gc,t,none⟩ (.int .u8 ((xb + 1) % 256))) (some gc)) := ⟨by have := AA.out.1; clear et; omega,o1,grown_trans AA.out.2.2 r1 (.inl rfl)⟩
              clear AA n1 n2 exb hxb o1 r1 htk
              generalize (xb + 1) % 256 = xc at *
              go_wp2_with fail
              go_roundg q
              case measure => exact Nat.lt_succ_self _
              case rel => exact ⟨t + 1,by first | rfl | (rw [et]),ZZ.out⟩
            | zero =>
              obtain rfl : t = bn := by have := AA.out.1; omega
              have hltk : ¬ (t : Int) < (t : Int) := by omega
              have KP : Aside (∀ g,g ≠ gc → g < w29.heap.size → wr.heap[g]? = w29.heap[g]?) := fun g hne hlt => AA.out.2.2.block g hlt (fun e => hne (by simpa using e))
              have sz : Aside (gc < w20.heap.size ∧ w20.heap.size ≤ w22.heap.size ∧ w22.heap.size ≤ w24.heap.size ∧ w24.heap.size ≤ w26.heap.size ∧ w26.heap.size ≤ w29.heap.size ∧ w29.heap.size ≤ wr.heap.size ∧ W0.heap.size ≤ gc) := ⟨W20.out.2.2.2.2.1,W22.out.1.size,W24.out.1.size,W26.out.1.size,B29.out.1.size,AA.out.2.2.size,Nat.le_trans WR.out W20.out.2.2.2.2.2⟩
              obtain ⟨q1,q2,q3,q4,q5,q6,q7⟩ := sz.out
              have B0 : Aside (Below W0.heap.size W0 wr) := by
                have h1 : Below W0.heap.size W0 w29 := W20.out.1.trans (B29.out.2.mono W20.out.1.size)
                have h2 : Below W0.heap.size w29 wr := (Below.refl _ w29).grown AA.out.2.2 (by omega) (fun k e => by have e : gc = k := (by simpa using e); omega)
                exact h1.trans h2
              have HH : ∀ {g : Nat} {C : Array Value} {tt : TypeId},Has w29 g C tt → g ≠ gc → Has wr g C tt := fun h hne => (KP.out _ hne h.lt).trans h
              have hqb := HH ((W22.out.2.1.keep b2026.out.2).keep B29.out.1) (by have := W22.out.2.2.2.1; omega)
              have hvb := HH ((W24.out.2.1.keep W26.out.1).keep B29.out.1) (by have := W24.out.2.2.2.1; omega)
              have hzb := HH (W26.out.2.1.keep B29.out.1) (by have := W26.out.2.2.2.1; omega)
              have fq : Flat wr aq N PK := ((W22.out.2.2.1.below b2026.out.2).below B29.out.1).turn q6 (fun _ b o e hb => KP.out b (by have := W22.out.2.2.2.2.2 b o e; omega) hb)
              have fv : Flat wr av N PK := ((W24.out.2.2.1.below W26.out.1).below B29.out.1).turn q6 (fun h0 b o e hb => KP.out b (by have := (W24.out.2.2.2.2.2.2.1 b ⟨h0,o,e⟩).1; omega) hb)
              have mv : MPK wr w22.heap.size av N kv PK := W24.out.2.2.2.2.1.keep (fun b o e hB hb => (KP.out b (by omega) (by omega)).trans ((B29.out.1.block b (by omega)).trans (W26.out.1.block b hb)))
              have mz : MPK wr w24.heap.size az N kz PK := W26.out.2.2.2.2.1.keep (fun b o e hB hb => (KP.out b (by omega) (by omega)).trans (B29.out.1.block b hb))
              have lz : Aside (PK.length = 32 * N ∧ N ≤ 200) := ⟨fv.1,W22.out.2.2.2.2.1⟩
              have PW : Aside (Has wr bv VV 27 ∧ Has wr bz VZ 27 ∧ MPK wr w22.heap.size av N kv PK ∧ MPK wr w24.heap.size az N kz PK) := ⟨hvb,hzb,mv,mz⟩
              have cs := SE.out wr av kv fv fq
              rw [HVV.out] at cs
              have r1 := EVT_range hvb
              have r2 := EVT_range hqb
              clear HH hqb hvb hzb fq fv mv mz q1 q2 q3 q4 q5 q6 q7 AA KP B29 b2026 SE
              go_wp2_with (first
                | (refine load_mid_ifc (by rfl) 27 (.tmp 17) rfl bv 0 rfl VV.toList _ r1 Tryd.underlying27 rfl hv2' ?_)
                | (refine load_mid_ifc (by rfl) 27 (.tmp 15) rfl bu 0 rfl VU.toList _ r2 Tryd.underlying27 rfl hu2' ?_)
                | fail)
              refine cs.mono ?_
              rintro e wm ⟨rfl,hbm⟩
              have WM : Aside (Below wr.heap.size wr wm) := hbm
              clear cs hbm r1 r2
              go_upto_region 32 with fail
              have PM : Aside (Has wm bv VV 27 ∧ Has wm bz VZ 27 ∧ MPK wm w22.heap.size av N kv PK ∧ MPK wm w24.heap.size az N kz PK ∧ wr.heap.size ≤ wm.heap.size ∧ Below W0.heap.size W0 wm) := ⟨PW.out.1.keep WM.out,PW.out.2.1.keep WM.out,PW.out.2.2.1.keep (fun b o _ _ h => WM.out.block b h),PW.out.2.2.2.keep (fun b o _ _ h => WM.out.block b h),WM.out.size,B0.out.trans (WM.out.mono B0.out.size)⟩
              have CV : Aside (∀ W : World,Has W bv VV 27 → Has W bz VZ 27 → W.cell? ⟨bv,33,none⟩ = some (.slice av N kv) ∧ W.cell? ⟨bz,33,none⟩ = some (.slice az N kz)) := fun W h1 h2 => by
                rw [← HVV.out] at h1
                rw [← HVZ.out] at h2
                exact ⟨(EVT_at h1 DD.out.2).2.2,(EVT_at h2 DD.out.2).2.2⟩
              have NA : Aside ((∀ k,(0 < N ∧ ∃ o,av = some ⟨k,o,none⟩) → W0.heap.size ≤ k ∧ k < bv ∧ k < bz ∧ k < w24.heap.size) ∧ (∀ k,(0 < N ∧ ∃ o,az = some ⟨k,o,none⟩) → W0.heap.size ≤ k ∧ w24.heap.size ≤ k ∧ bv < k ∧ k < bz) ∧ bz < wm.heap.size) := by
                have p1 := W24.out.2.2.2.2.2.2.2
                have p2 := W26.out.2.2.2.1
                have p3 := W26.out.2.2.2.2.2.2.2
                have p4 := PM.out.2.2.2.2.1
                obtain ⟨q1,q2,q3,q4,q5,q6,q7⟩ := sz.out
                refine ⟨fun k hk => ?_,fun k hk => ?_,by omega⟩
                · have := W24.out.2.2.2.2.2.2.1 k hk
                  omega
                · have := W26.out.2.2.2.2.2.2.1 k hk
                  omega
              refine cevents32 _ bv bz N av az kv kz (fun W => Below wm.heap.size wm W) (fun g1 q1 W => W.ownsRow wm.heap.size 24 32 (.slice (some ⟨g1,0,none⟩) (N + 1 + 1) q1) (N + 1 + 1) (CELLS (MKS 201 (N + 1 + 1))) ∧ KEPT (fun k => 0 < N ∧ ∃ o,av = some ⟨k,o,none⟩) wm W) (fun g1 q1 g2 q2 W => W.ownsRow wm.heap.size 24 32 (.slice (some ⟨g1,0,none⟩) (N + 1 + 1) q1) (N + 1 + 1) (CELLS (MKS 201 (N + 1 + 1))) ∧ W.ownsRow wm.heap.size 24 32 (.slice (some ⟨g2,0,none⟩) (N + 1 + 1) q2) (N + 1 + 1) (CELLS (MKS 202 (N + 1 + 1))) ∧ KEPT (fun k => (0 < N ∧ ∃ o,av = some ⟨k,o,none⟩) ∨ (0 < N ∧ ∃ o,az = some ⟨k,o,none⟩)) wm W) (Below.refl _ _).drew ?s0 ?s1 ?s2 ?c1 ?c2 (fun _ _ _ _ _ h => h) ?_
              case s0 => exact fun W hb => CV.out W (PM.out.1.keep hb) (PM.out.2.1.keep hb)
              case s1 => exact fun g1 q1 W h => CV.out W (h.2.has PM.out.1 (fun e => by have := NA.out.1 _ e; omega)) (h.2.has PM.out.2.1 (fun e => by have := NA.out.1 _ e; omega))
              case s2 => exact fun g1 q1 g2 q2 W h => CV.out W (h.2.2.has PM.out.1 (fun e => by
                  rcases e with e | e
                  · have := NA.out.1 _ e; omega
                  · have := NA.out.2.1 _ e; omega)) (h.2.2.has PM.out.2.1 (fun e => by
                  rcases e with e | e
                  · have := NA.out.1 _ e; omega
                  · have := NA.out.2.1 _ e; omega))
              case c1 =>
                intro W hb
                refine (mark12_ok w22.heap.size av N kv PK 201 (by have := lz.out.2; omega) lz.out.1 W24.out.2.2.2.2.2.1 W (PM.out.2.2.1.keep (fun b o _ _ h => hb.block b h))).mono ?_
                rintro e w' ⟨g,cap,rfl,ho,hk⟩
                exact ⟨g,cap,rfl,own_mono ho hb.size,(KEPT.of_below hb).trans hk (fun k h => .inl h)⟩
              case c2 =>
                rintro g1 q1 W ⟨ho1,hk1⟩
                have mz : MPK W w24.heap.size az N kz PK := PM.out.2.2.2.1.keep (fun b o e hB hb => hk1.block b hb (fun e2 => by have := NA.out.1 b e2; omega))
                refine (mark12_ok w24.heap.size az N kz PK 202 (by have := lz.out.2; omega) lz.out.1 W26.out.2.2.2.2.2.1 W mz).mono ?_
                rintro e w' ⟨g,cap,rfl,ho,hk⟩
                refine ⟨g,cap,rfl,hk.own ho1 (fun k e e2 => ?_),own_mono ho hk1.size,(hk1.mono (fun k h => .inl h)).trans hk (fun k h => .inl (.inr h))⟩
                have h1 := (ho1.lt k e).1
                have h2 := NA.out.2.1 k e2
                have h3 := NA.out.2.2
                omega
              rintro g1 q1 g2 q2 we ⟨ho1,ho2,hk⟩
              have B1 : Aside (Below W0.heap.size W0 we) := PM.out.2.2.2.2.2.trans (hk.below (fun k h => by
                rcases h with h | h
                · exact (NA.out.1 k h).1
                · exact (NA.out.2.1 k h).1) (by have := PM.out.2.2.2.2.2.size; omega))
              have ca := all12_ok wm.heap.size g1 (N + 1 + 1) q1 201 (by have := lz.out.2; omega) we ho1
              have cb := all12_ok wm.heap.size g2 (N + 1 + 1) q2 202 (by have := lz.out.2; omega) we ho2
              have cw := AW.out we B1.out
              clear ho1 ho2 hk NA CV PM PW WM lz sz B0 W26 W24 W22 W20 DD HVU HVV HVZ Hbu Hbv Hbz WR
              obtain ⟨n2,hn2⟩ : ∃ n2,N + 1 + 1 = n2 := ⟨_,rfl⟩
              rw [hn2] at ca cb ⊢
              clear hn2
              go_wp2_with fail
              refine ca.mono ?_
              rintro e _ ⟨rfl,rfl⟩
              clear ca
              go_wp2_with fail
              refine cb.mono ?_
              rintro e _ ⟨rfl,rfl⟩
              clear cb
              go_wp2_with fail
              refine cw.mono ?_
              rintro e w32 ⟨rfl,hb32⟩
              have W32 : Aside (Below w.heap.size w w32) := hb32
              clear cw hb32
              go_wp2_with fail
              go_ret
              exact ⟨rfl,W32.out⟩
theorem carryEvents_walk (X : Nat) (hX : X < 2 ^ 64) (leaf : List Int) (hleaf : IsH leaf) (a : Option Addr) (n c : Nat) (hc : a = none → c = 0) (l : List Int) (ba : Option Addr) (bn bc : Nat) (hbc : ba = none → bc = 0) (hbb : bn ≤ bc) (bl : List Int) (w : World) (hF : Flat w a n l) (hB : Bytes w ba bn bl)
    (hT : Tabled w) (hXT : HX.Tabled w) (h0 : 2 < w.heap.size) :
    Calls Tryd.prog 3 #[.agg (EVT X leaf (.slice a n c)),.slice ba bn bc] w fun e w' => e = .returned (.bool true) ∧ Below w.heap.size w w' := by
  by_cases h : n ≤ 200 ∧ bn ≤ 6400
  · exact events_core X hX leaf hleaf a n c hc l ba bn bc hbc hbb bl w hF hB hT hXT h0 h.1 h.2
  · exact events_long X leaf hleaf.1 a n c ba bn bc w h
end Go.Proofs.YtkpgbhokoohimaaDoor
