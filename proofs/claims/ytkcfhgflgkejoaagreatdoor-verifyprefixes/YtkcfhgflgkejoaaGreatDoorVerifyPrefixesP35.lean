/- Texts of VerifyPrefixes, one behind the other: ProofDecodeSteps, ProofDecode, ProofOwned. -/
import Derived.Test.YtkcfhgflgkejoaaGreatDoorVerifyPrefixesP17
import Derived.Test.YtkcfhgflgkejoaaGreatDoorVerifyPrefixesP27
import Derived.Test.YtkcfhgflgkejoaaGreatDoorVerifyPrefixesP34
/- What Decode and DecodePrefix of package proof answer, of any bytes. -/
namespace Go.Proofs.YtkcfhgflgkejoaaGreatDoor
open Go.RowKit
set_option maxRecDepth 100000

/-- what a reader has behind its first k parts, D being what is to be answered in the end. -/
def RPP (w0 : World) (rb gl : Nat) (t : TypeId) (fl : Array Value) (tf : TypeId) (K : Int) (chk : Nat → Bool) (PF : Nat → Nat → Int × List Nat) (D : DANS) : Nat → World → Prop
  | 0,w => ∃ a c l,FRM w0 w rb gl t (.slice a l.length c) 0 0 (.slice none 0 0) fl tf ∧ SRC w0 a c l ∧ D = DC0 K chk PF l
  | 1,w => ∃ a c l,FRM w0 w rb gl t (.slice a l.length c) 0 0 (.slice none 0 0) fl tf ∧ SRC w0 a c l ∧ D = DC1 chk PF l
  | 2,w => ∃ a c l X,FRM w0 w rb gl t (.slice a l.length c) X 0 (.slice none 0 0) fl tf ∧ SRC w0 a c l ∧ X < 2 ^ 64 ∧ D = DC2 PF X l
  | 3,w => ∃ a c l X Y,FRM w0 w rb gl t (.slice a l.length c) X Y (.slice none 0 0) fl tf ∧ SRC w0 a c l ∧ X < 2 ^ 64 ∧ Y < 2 ^ 64 ∧ D = DC3 PF X Y l
  | _,w => ∃ a c l X Y N g,FRM w0 w rb gl t (.slice a l.length c) X Y (.slice (some ⟨g,0,none⟩) N N) fl tf ∧ SRC w0 a c l ∧ X < 2 ^ 64 ∧ Y < 2 ^ 64 ∧ D = (0,X,Y,N,l) ∧ l.length = 32 * N ∧ Has w g (CELLS l).toArray 23 ∧ w0.heap.size ≤ g ∧ g ≠ rb ∧ g ≠ gl
/-- a part was refused. -/
def RFIN (w0 : World) (D : DANS) (E : Int) (w : World) : Prop := D = DERR E ∧ Below w0.heap.size w0 w
theorem stp_of {f : Nat} {args : Array Value} {w : World} {P : World → Prop} {Fin : Int → World → Prop} {E : Int} {C : World → Prop} (h : Calls Tryz.prog f args w fun e w' => e = .returned (.int .i64 E) ∧ C w') (h0 : E = 0 → ∀ w',C w' → P w') (h1 : E ≠ 0 → ∀ w',C w' → Fin E w') : Calls Tryz.prog f args w (STP P Fin) :=
  h.mono fun _ w' ⟨he,hc⟩ => ⟨E,he,fun e0 => h0 e0 w' hc,fun e1 => h1 e1 w' hc⟩
theorem pla_tab {w0 W : World} (hT : Tabled w0) (h0 : 0 < w0.heap.size) (h : Below w0.heap.size w0 W) : Tabled W ∧ 0 < W.heap.size := ⟨hT.below h0 h,Nat.lt_of_lt_of_le h0 h.size⟩
/-! member -/
theorem mstep0 {w0 : World} {rb gl : Nat} {t : TypeId} {fl : Array Value} {tf : TypeId} {chk : Nat → Bool} {PF : Nat → Nat → Int × List Nat} {D : DANS} (w : World) (h : RPP w0 rb gl t fl tf 77 chk PF D 0 w) :
    Calls Tryz.prog 50 #[.pointer (some ⟨rb,0,none⟩)] w (STP (RPP w0 rb gl t fl tf 77 chk PF D 1) (RFIN w0 D)) := by
  obtain ⟨a,c,l,F,S,hD⟩ := h
  rcases step_mark F S 77 with ⟨h1,c1⟩ | ⟨h1,h2,c1⟩ | ⟨h1,h2,a',c',S',c1⟩
  · refine stp_of (mkind_ok rb w 11 _ c1) (fun e => absurd e (by decide)) fun _ w' hw => ?_
    subst hw
    exact ⟨by rw [hD,DC0,if_pos h1],F.bel⟩
  · refine stp_of (mkind_ok rb w 14 _ c1) (fun e => absurd e (by decide)) fun _ w' hw => ?_
    subst hw
    exact ⟨by rw [hD,DC0,if_neg h1,if_pos h2],F.bel⟩
  · refine stp_of (mkind_ok rb w 0 _ c1) (fun _ w' hw => ⟨a',c',_,hw,S', ?_⟩) fun e => absurd rfl e
    rw [hD,DC0,if_neg h1,if_neg (by simpa using h2)]
theorem mstep1 {w0 : World} {rb gl : Nat} {t : TypeId} {fl : Array Value} {tf : TypeId} {PF : Nat → Nat → Int × List Nat} {D : DANS} (w : World) (h : RPP w0 rb gl t fl tf 77 TOOBIG PF D 1 w) :
    Calls Tryz.prog 51 #[.pointer (some ⟨rb,0,none⟩)] w (STP (RPP w0 rb gl t fl tf 77 TOOBIG PF D 2) (RFIN w0 D)) := by
  obtain ⟨a,c,l,F,S,hD⟩ := h
  by_cases hl : (LNG l).2.2 = 0
  · obtain ⟨Z,m,a',c',hZ,e1,S',c1⟩ := step_first F S hl
    have c2 : Calls Tryz.prog 82 #[.pointer (some ⟨rb,0,none⟩),.pointer (some ⟨rb,1,none⟩)] w.drew fun e w' => e = .returned (.int .i64 0) ∧ w'.cell? ⟨rb,1,none⟩ = some (.int .u64 (Z : Int)) ∧ FRM w0 w' rb gl t (.slice a' (l.drop m).length c') Z 0 (.slice none 0 0) fl tf := c1.mono fun e w' ⟨he,hw⟩ => ⟨he,hw.rd.cell 1,hw⟩
    unfold DC1 at hD
    rw [if_neg (by simpa using hl),e1] at hD
    have e2 : ((Z : Int)).toNat = Z := by omega
    have e3 : ((m : Int)).toNat = m := by omega
    simp only [e2,e3] at hD
    by_cases hb : 4611686018427387904 < Z
    · refine stp_of (msize_big rb w (Z : Int) (by omega) _ c2) (fun e => absurd e (by decide)) fun _ w' hw => ⟨?_,hw.bel⟩
      rw [hD,if_pos (by simpa [TOOBIG] using hb)]
    · refine stp_of (msize_ok rb w (Z : Int) (by omega) _ c2) (fun _ w' hw => ⟨a',c',_,Z,hw,S',hZ, ?_⟩) fun e => absurd rfl e
      rw [hD,if_neg (by simpa [TOOBIG] using hb)]
  · refine stp_of (msize_err rb w _ hl _ (step_bad F S 1 hl)) (fun e => absurd e hl) fun _ w' hw => ⟨?_,hw⟩
    rw [hD,DC1,if_pos hl]
theorem mstep2 {w0 : World} {rb gl : Nat} {t : TypeId} {fl : Array Value} {tf : TypeId} {chk : Nat → Bool} {PF : Nat → Nat → Int × List Nat} {D : DANS} (w : World) (h : RPP w0 rb gl t fl tf 77 chk PF D 2 w) :
    Calls Tryz.prog 52 #[.pointer (some ⟨rb,0,none⟩)] w (STP (RPP w0 rb gl t fl tf 77 chk PF D 3) (RFIN w0 D)) := by
  obtain ⟨a,c,l,X,F,S,hX,hD⟩ := h
  by_cases hl : (LNG l).2.2 = 0
  · obtain ⟨Z,m,a',c',hZ,e1,S',c1⟩ := step_second F S hl
    refine stp_of (mindex_ok rb w 0 _ c1) (fun _ w' hw => ⟨a',c',_,X,Z,hw,S',hX,hZ, ?_⟩) fun e => absurd rfl e
    rw [hD,DC2,if_neg (by simpa using hl),e1]
    rfl
  · refine stp_of (mindex_ok rb w _ _ (step_bad F S 2 hl)) (fun e => absurd e hl) fun _ w' hw => ⟨?_,hw⟩
    rw [hD,DC2,if_pos hl]
theorem mstep3 {w0 : World} {rb gl : Nat} {t : TypeId} {fl : Array Value} {tf : TypeId} {chk : Nat → Bool} {D : DANS} (hT : Tabled w0) (h0 : 0 < w0.heap.size) (w : World) (h : RPP w0 rb gl t fl tf 77 chk (fun S I => PLA I S) D 3 w) :
    Calls Tryz.prog 53 #[.pointer (some ⟨rb,0,none⟩)] w (STP (RPP w0 rb gl t fl tf 77 chk (fun S I => PLA I S) D 4) (RFIN w0 D)) := by
  obtain ⟨a,c,l,X,Y,F,S,hX,hY,hD⟩ := h
  obtain ⟨hT',h0'⟩ := pla_tab hT h0 F.drew.bel
  have cp := pla_ok Y X w.drew hT' h0'
  have hfew := PLA_few Y X
  have hPF : ((fun S I => PLA I S)) X Y = PLA Y X := rfl
  unfold DC3 at hD
  rw [hPF] at hD
  by_cases hE : (PLA Y X).1 = 0
  · rw [if_neg (by simpa using hE)] at hD
    rw [hE] at cp
    obtain ⟨N,hN⟩ : ∃ N,(PLA Y X).2.length = N := ⟨_,rfl⟩
    rw [hN] at cp hD hfew
    rcases Nat.lt_trichotomy l.length (32 * N) with h1 | h1 | h1
    · refine stp_of (mnodes_ok rb w X Y 11 N (fun w' => Below w0.heap.size w0 w') (F.rd.cell 1) (F.rd.cell 2) (cp.mono ?_)) (fun e => absurd e (by decide)) fun _ w' hw => ⟨by rw [hD,if_pos h1],hw⟩
      rintro e w1 ⟨v,rfl,hrow,hb⟩
      obtain ⟨av,cv,rfl,_⟩ := own_slice hrow
      have F1 := (F.drew.keep hb).drew
      refine ⟨av,cv,rfl, ?_⟩
      rcases step_nodes F1 S N (by omega) with ⟨_,c1⟩ | ⟨h2,_,_⟩ | ⟨h2,_⟩
      · exact c1.mono fun e w2 ⟨he,hw⟩ => ⟨he,by rw [← hw]; exact F1.bel⟩
      · omega
      · omega
    · refine stp_of (mnodes_ok rb w X Y 0 N (fun w' => ∃ g,FRM w0 w' rb gl t (.slice a l.length c) X Y (.slice (some ⟨g,0,none⟩) N N) fl tf ∧ Has w' g (CELLS l).toArray 23 ∧ w0.heap.size ≤ g ∧ g ≠ rb ∧ g ≠ gl) (F.rd.cell 1) (F.rd.cell 2) (cp.mono ?_)) (fun _ w' hw => ?_) fun e => absurd rfl e
      · rintro e w1 ⟨v,rfl,hrow,hb⟩
        obtain ⟨av,cv,rfl,_⟩ := own_slice hrow
        have F1 := (F.drew.keep hb).drew
        refine ⟨av,cv,rfl, ?_⟩
        rcases step_nodes F1 S N (by omega) with ⟨h2,_⟩ | ⟨h2,h3,_⟩ | ⟨_,c1⟩
        · omega
        · omega
        · exact c1
      · obtain ⟨g,F2,hg,hg1,hg2,hg3⟩ := hw
        refine ⟨a,c,l,X,Y,N,g,F2,S,hX,hY, ?_,h1,hg,hg1,hg2,hg3⟩
        rw [hD,if_neg (by omega),if_neg (by omega)]
    · refine stp_of (mnodes_ok rb w X Y 13 N (fun w' => Below w0.heap.size w0 w') (F.rd.cell 1) (F.rd.cell 2) (cp.mono ?_)) (fun e => absurd e (by decide)) fun _ w' hw => ⟨by rw [hD,if_neg (by omega),if_pos h1],hw⟩
      rintro e w1 ⟨v,rfl,hrow,hb⟩
      obtain ⟨av,cv,rfl,_⟩ := own_slice hrow
      have F1 := (F.drew.keep hb).drew
      refine ⟨av,cv,rfl, ?_⟩
      rcases step_nodes F1 S N (by omega) with ⟨h2,_⟩ | ⟨_,_,c1⟩ | ⟨h2,_⟩
      · omega
      · exact c1.mono fun e w2 ⟨he,hw⟩ => ⟨he,by rw [← hw]; exact F1.bel⟩
      · omega
  · refine stp_of (mnodes_err rb w X Y _ hE (fun w' => Below w0.heap.size w0 w') (F.rd.cell 1) (F.rd.cell 2) (cp.mono ?_)) (fun e => absurd e hE) fun _ w' hw => ⟨by rw [hD,if_pos hE],hw⟩
    rintro e w1 ⟨v,rfl,hrow,hb⟩
    exact ⟨v,rfl,F.drew.bel.trans (hb.mono F.drew.bel.size)⟩
/-! prefix -/
theorem pstep0 {w0 : World} {rb gl : Nat} {t : TypeId} {fl : Array Value} {tf : TypeId} {chk : Nat → Bool} {PF : Nat → Nat → Int × List Nat} {D : DANS} (w : World) (h : RPP w0 rb gl t fl tf 80 chk PF D 0 w) :
    Calls Tryz.prog 72 #[.pointer (some ⟨rb,0,none⟩)] w (STP (RPP w0 rb gl t fl tf 80 chk PF D 1) (RFIN w0 D)) := by
  obtain ⟨a,c,l,F,S,hD⟩ := h
  rcases step_mark F S 80 with ⟨h1,c1⟩ | ⟨h1,h2,c1⟩ | ⟨h1,h2,a',c',S',c1⟩
  · refine stp_of (pkind_ok rb w 11 _ c1) (fun e => absurd e (by decide)) fun _ w' hw => ?_
    subst hw
    exact ⟨by rw [hD,DC0,if_pos h1],F.bel⟩
  · refine stp_of (pkind_ok rb w 14 _ c1) (fun e => absurd e (by decide)) fun _ w' hw => ?_
    subst hw
    exact ⟨by rw [hD,DC0,if_neg h1,if_pos h2],F.bel⟩
  · refine stp_of (pkind_ok rb w 0 _ c1) (fun _ w' hw => ⟨a',c',_,hw,S', ?_⟩) fun e => absurd rfl e
    rw [hD,DC0,if_neg h1,if_neg (by simpa using h2)]
theorem pstep1 {w0 : World} {rb gl : Nat} {t : TypeId} {fl : Array Value} {tf : TypeId} {PF : Nat → Nat → Int × List Nat} {D : DANS} (w : World) (h : RPP w0 rb gl t fl tf 80 (fun _ => false) PF D 1 w) :
    Calls Tryz.prog 73 #[.pointer (some ⟨rb,0,none⟩)] w (STP (RPP w0 rb gl t fl tf 80 (fun _ => false) PF D 2) (RFIN w0 D)) := by
  obtain ⟨a,c,l,F,S,hD⟩ := h
  by_cases hl : (LNG l).2.2 = 0
  · obtain ⟨Z,m,a',c',hZ,e1,S',c1⟩ := step_first F S hl
    refine stp_of (pfrom_ok rb w 0 _ c1) (fun _ w' hw => ⟨a',c',_,Z,hw,S',hZ, ?_⟩) fun e => absurd rfl e
    rw [hD,DC1,if_neg (by simpa using hl),if_neg (by decide),e1]
    rfl
  · refine stp_of (pfrom_ok rb w _ _ (step_bad F S 1 hl)) (fun e => absurd e hl) fun _ w' hw => ⟨?_,hw⟩
    rw [hD,DC1,if_pos hl]
theorem pstep2 {w0 : World} {rb gl : Nat} {t : TypeId} {fl : Array Value} {tf : TypeId} {chk : Nat → Bool} {PF : Nat → Nat → Int × List Nat} {D : DANS} (w : World) (h : RPP w0 rb gl t fl tf 80 chk PF D 2 w) :
    Calls Tryz.prog 74 #[.pointer (some ⟨rb,0,none⟩)] w (STP (RPP w0 rb gl t fl tf 80 chk PF D 3) (RFIN w0 D)) := by
  obtain ⟨a,c,l,X,F,S,hX,hD⟩ := h
  by_cases hl : (LNG l).2.2 = 0
  · obtain ⟨Z,m,a',c',hZ,e1,S',c1⟩ := step_second F S hl
    refine stp_of (psize_ok rb w 0 _ c1) (fun _ w' hw => ⟨a',c',_,X,Z,hw,S',hX,hZ, ?_⟩) fun e => absurd rfl e
    rw [hD,DC2,if_neg (by simpa using hl),e1]
    rfl
  · refine stp_of (psize_ok rb w _ _ (step_bad F S 2 hl)) (fun e => absurd e hl) fun _ w' hw => ⟨?_,hw⟩
    rw [hD,DC2,if_pos hl]
theorem pstep3 {w0 : World} {rb gl : Nat} {t : TypeId} {fl : Array Value} {tf : TypeId} {chk : Nat → Bool} {D : DANS} (hT : Tabled w0) (h0 : 0 < w0.heap.size) (w : World) (h : RPP w0 rb gl t fl tf 80 chk PPA D 3 w) :
    Calls Tryz.prog 75 #[.pointer (some ⟨rb,0,none⟩)] w (STP (RPP w0 rb gl t fl tf 80 chk PPA D 4) (RFIN w0 D)) := by
  obtain ⟨a,c,l,X,Y,F,S,hX,hY,hD⟩ := h
  obtain ⟨hT',h0'⟩ := pla_tab hT h0 F.drew.bel
  have cp := ppa_ok X Y w.drew hT' h0'
  have hfew := PPA_few X Y
  have hPF : (PPA) X Y = PPA X Y := rfl
  unfold DC3 at hD
  rw [hPF] at hD
  by_cases hE : (PPA X Y).1 = 0
  · rw [if_neg (by simpa using hE)] at hD
    rw [hE] at cp
    obtain ⟨N,hN⟩ : ∃ N,(PPA X Y).2.length = N := ⟨_,rfl⟩
    rw [hN] at cp hD hfew
    rcases Nat.lt_trichotomy l.length (32 * N) with h1 | h1 | h1
    · refine stp_of (pnodes_ok rb w X Y 11 N (fun w' => Below w0.heap.size w0 w') (F.rd.cell 1) (F.rd.cell 2) (cp.mono ?_)) (fun e => absurd e (by decide)) fun _ w' hw => ⟨by rw [hD,if_pos h1],hw⟩
      rintro e w1 ⟨v,rfl,hrow,hb⟩
      obtain ⟨av,cv,rfl,_⟩ := own_slice hrow
      have F1 := (F.drew.keep hb).drew
      refine ⟨av,cv,rfl, ?_⟩
      rcases step_nodes F1 S N (by omega) with ⟨_,c1⟩ | ⟨h2,_,_⟩ | ⟨h2,_⟩
      · exact c1.mono fun e w2 ⟨he,hw⟩ => ⟨he,by rw [← hw]; exact F1.bel⟩
      · omega
      · omega
    · refine stp_of (pnodes_ok rb w X Y 0 N (fun w' => ∃ g,FRM w0 w' rb gl t (.slice a l.length c) X Y (.slice (some ⟨g,0,none⟩) N N) fl tf ∧ Has w' g (CELLS l).toArray 23 ∧ w0.heap.size ≤ g ∧ g ≠ rb ∧ g ≠ gl) (F.rd.cell 1) (F.rd.cell 2) (cp.mono ?_)) (fun _ w' hw => ?_) fun e => absurd rfl e
      · rintro e w1 ⟨v,rfl,hrow,hb⟩
        obtain ⟨av,cv,rfl,_⟩ := own_slice hrow
        have F1 := (F.drew.keep hb).drew
        refine ⟨av,cv,rfl, ?_⟩
        rcases step_nodes F1 S N (by omega) with ⟨h2,_⟩ | ⟨h2,h3,_⟩ | ⟨_,c1⟩
        · omega
        · omega
        · exact c1
      · obtain ⟨g,F2,hg,hg1,hg2,hg3⟩ := hw
        refine ⟨a,c,l,X,Y,N,g,F2,S,hX,hY, ?_,h1,hg,hg1,hg2,hg3⟩
        rw [hD,if_neg (by omega),if_neg (by omega)]
    · refine stp_of (pnodes_ok rb w X Y 13 N (fun w' => Below w0.heap.size w0 w') (F.rd.cell 1) (F.rd.cell 2) (cp.mono ?_)) (fun e => absurd e (by decide)) fun _ w' hw => ⟨by rw [hD,if_neg (by omega),if_pos h1],hw⟩
      rintro e w1 ⟨v,rfl,hrow,hb⟩
      obtain ⟨av,cv,rfl,_⟩ := own_slice hrow
      have F1 := (F.drew.keep hb).drew
      refine ⟨av,cv,rfl, ?_⟩
      rcases step_nodes F1 S N (by omega) with ⟨h2,_⟩ | ⟨_,_,c1⟩ | ⟨h2,_⟩
      · omega
      · exact c1.mono fun e w2 ⟨he,hw⟩ => ⟨he,by rw [← hw]; exact F1.bel⟩
      · omega
  · refine stp_of (pnodes_err rb w X Y _ hE (fun w' => Below w0.heap.size w0 w') (F.rd.cell 1) (F.rd.cell 2) (cp.mono ?_)) (fun e => absurd e hE) fun _ w' hw => ⟨by rw [hD,if_pos hE],hw⟩
    rintro e w1 ⟨v,rfl,hrow,hb⟩
    exact ⟨v,rfl,F.drew.bel.trans (hb.mono F.drew.bel.size)⟩
end Go.Proofs.YtkcfhgflgkejoaaGreatDoor

/- What Decode and DecodePrefix of package proof answer, of any bytes. -/
namespace Go.Proofs.YtkcfhgflgkejoaaGreatDoor
open Go.RowKit
set_option maxRecDepth 100000

/-- a proof is answered, its nodes in a block of their own; or an error, and all is zero. -/
def DECD (w : World) (D : DANS) (e : Ending) (w' : World) : Prop :=
  ∃ v,e = .returned (.tuple #[v,.int .i64 D.1]) ∧ Below w.heap.size w w' ∧ ((D.1 ≠ 0 ∧ v = .agg #[.int .u64 0,.int .u64 0,.slice none 0 0]) ∨ (D.1 = 0 ∧ D.2.1 < 2 ^ 64 ∧ D.2.2.1 < 2 ^ 64 ∧ D.2.2.2.2.length = 32 * D.2.2.2.1 ∧ (∀ x ∈ D.2.2.2.2,0 ≤ x ∧ x ≤ 255) ∧ ∃ g,v = .agg #[.int .u64 (D.2.1 : Int),.int .u64 (D.2.2.1 : Int),.slice (some ⟨g,0,none⟩) D.2.2.2.1 D.2.2.2.1] ∧ w.heap.size ≤ g ∧ Has w' g (CELLS D.2.2.2.2).toArray 23))
set_option maxHeartbeats 2000000 in
theorem decode_ok (a : Option Addr) (n c : Nat) (hn : n ≤ 1000000) (l : List Int) (w : World) (hB : Bytes w a n l) (hc : n ≤ c) (hT : Tabled w) (h0 : 0 < w.heap.size) :
    Calls Tryz.prog 23 #[.slice a n c] w (DECD w (DEC l)) := by
  have hln : l.length = n := hB.1
  obtain ⟨D,hD⟩ : ∃ D,DEC l = D := ⟨_,rfl⟩
  rw [hD]
  have hDD : D = DC0 77 TOOBIG (fun S I => PLA I S) l := hD.symm
  have HA : Aside (Bytes w a n l ∧ l.length = n ∧ n ≤ c ∧ n ≤ 1000000 ∧ D = DC0 77 TOOBIG (fun S I => PLA I S) l ∧ Tabled w ∧ 0 < w.heap.size) := ⟨hB,hln,hc,hn,hDD,hT,h0⟩
  clear hB hc hn hD hT h0 hln hDD
  go_enter Tryz.func23,Tryz.ntmps23
  go_wp2_with fail
  have hR := Has.new w #[.int .u64 0,.int .u64 0,.slice none 0 0] 46
  have hb0 : Below w.heap.size w (w.alloc (.cells #[.int .u64 0,.int .u64 0,.slice none 0 0] 46)) := (Below.refl _ _).alloc (Nat.le_refl _) _
  have hs0 : (w.alloc (.cells #[.int .u64 0,.int .u64 0,.slice none 0 0] 46)).heap.size = w.heap.size + 1 := by simp
  generalize w.alloc (.cells #[.int .u64 0,.int .u64 0,.slice none 0 0] 46) = w0 at *
  rw [← hs0]
  obtain ⟨b1,b2,b3,b4,b5,b6,b7⟩ := HA.out
  have hP0 : RPP w0 w0.heap.size (w0.heap.size + 1) 87 #[.func (.func 50) #[.pointer (some ⟨w0.heap.size,0,none⟩)] #[],.func (.func 51) #[.pointer (some ⟨w0.heap.size,0,none⟩)] #[],.func (.func 52) #[.pointer (some ⟨w0.heap.size,0,none⟩)] #[],.func (.func 53) #[.pointer (some ⟨w0.heap.size,0,none⟩)] #[]] 89 77 TOOBIG (fun S I => PLA I S) D 0
      ((w0.alloc (.cells #[.slice a n c,.int .u64 0,.int .u64 0,.slice none 0 0] 87)).alloc (.cells #[.func (.func 50) #[.pointer (some ⟨w0.heap.size,0,none⟩)] #[],.func (.func 51) #[.pointer (some ⟨w0.heap.size,0,none⟩)] #[],.func (.func 52) #[.pointer (some ⟨w0.heap.size,0,none⟩)] #[],.func (.func 53) #[.pointer (some ⟨w0.heap.size,0,none⟩)] #[]] 89)) := by
    refine ⟨a,c,l,⟨((Below.refl _ _).alloc (Nat.le_refl _) _).alloc (by simp) _, ?_, ?_,by omega,Nat.le_refl _,by omega⟩,⟨?_,by omega,by omega⟩,b5⟩
    · rw [b2]
      exact (Has.new w0 _ _).alloc _
    · exact Has.at _ _ _ (by simp)
    · rw [b2]
      exact b1.below hb0
  obtain ⟨hT0,h00⟩ := pla_tab b6 b7 hb0
  have key := memberinturn_ok w0.heap.size (w0.heap.size + 1) _ (RFIN w0 D)
    (fun W h => by obtain ⟨_,_,_,F,_⟩ := h; exact F.fl.cell 0) (fun W h => by obtain ⟨_,_,_,F,_⟩ := h; exact F.fl.cell 1) (fun W h => by obtain ⟨_,_,_,_,F,_⟩ := h; exact F.fl.cell 2) (fun W h => by obtain ⟨_,_,_,_,_,F,_⟩ := h; exact F.fl.cell 3)
    (fun W h => mstep0 W h) (fun W h => mstep1 W h) (fun W h => mstep2 W h) (fun W h => mstep3 hT0 h00 W h) _ hP0
  have R0 : Aside (Below w.heap.size w w0 ∧ Has w0 w.heap.size #[.int .u64 0,.int .u64 0,.slice none 0 0] 46 ∧ w0.heap.size = w.heap.size + 1) := ⟨hb0,hR,hs0⟩
  clear hP0 hT0 h00 b1 b2 b3 b4 b5 b6 b7 HA hR hb0 hs0
  refine key.mono ?_
  rintro e w1 ⟨E,rfl,h1,h2⟩
  clear key
  by_cases hE : E = 0
  · subst hE
    obtain ⟨a',c',l',X,Y,N,g,F,S,hX,hY,hD,hl,hg,hg1,hg2,hg3⟩ := h1 rfl
    obtain ⟨r1,r2,r3⟩ := R0.out
    have hH := r2.below F.bel (by omega)
    have x0 : w1.cell? ⟨w.heap.size,0,none⟩ = some (.int .u64 0) := hH.cell 0
    have x1 : w1.cell? ⟨w.heap.size,1,none⟩ = some (.int .u64 0) := hH.cell 1
    have x2 : w1.cell? ⟨w.heap.size,2,none⟩ = some (.slice none 0 0) := hH.cell 2
    have f0 := hH.frozen 0
    have f1 := hH.frozen 1
    have f2 := hH.frozen 2
    have y1 : w1.cell? ⟨w0.heap.size,1,none⟩ = some (.int .u64 (X : Int)) := F.rd.cell 1
    have y2 : w1.cell? ⟨w0.heap.size,2,none⟩ = some (.int .u64 (Y : Int)) := F.rd.cell 2
    have y3 : w1.cell? ⟨w0.heap.size,3,none⟩ = some (.slice (some ⟨g,0,none⟩) N N) := F.rd.cell 3
    have R : Aside (Below w.heap.size w w1 ∧ X < 2 ^ 64 ∧ Y < 2 ^ 64 ∧ D = (0,X,Y,N,l') ∧ l'.length = 32 * N ∧ (∀ x ∈ l',0 ≤ x ∧ x ≤ 255) ∧ Has w1 g (CELLS l').toArray 23 ∧ w0.heap.size ≤ g ∧ w0.heap.size = w.heap.size + 1 ∧ Has w1 w.heap.size #[.int .u64 0,.int .u64 0,.slice none 0 0] 46) := ⟨r1.trans (F.bel.mono r1.size),hX,hY,hD,hl,S.1.2.2,hg,hg1,r3,hH⟩
    clear h1 h2 F S hX hY hD hl hg hg1 hg2 hg3 r1 r2 r3 hH R0
    go_wp2
    obtain ⟨r1,r2,r3,r4,r5,r6,r7,r8,r9,r10⟩ := R.out
    have hH := ((r10.set 0 (.int .u64 (X : Int))).set 1 (.int .u64 (Y : Int))).set 2 (.slice (some ⟨g,0,none⟩) N N)
    have hg := ((r7.other (a := ⟨w.heap.size,0,none⟩) (by show g ≠ w.heap.size; omega) (.int .u64 (X : Int))).other (a := ⟨w.heap.size,1,none⟩) (by show g ≠ w.heap.size; omega) (.int .u64 (Y : Int))).other (a := ⟨w.heap.size,2,none⟩) (by show g ≠ w.heap.size; omega) (.slice (some ⟨g,0,none⟩) N N)
    have hb := ((r1.setCell (p := ⟨w.heap.size,0,none⟩) (Nat.le_refl _) (.int .u64 (X : Int))).setCell (p := ⟨w.heap.size,1,none⟩) (Nat.le_refl _) (.int .u64 (Y : Int))).setCell (p := ⟨w.heap.size,2,none⟩) (Nat.le_refl _) (.slice (some ⟨g,0,none⟩) N N)
    clear x0 x1 x2 f0 f1 f2 y1 y2 y3 R r1 r10 r7
    generalize ((w1.setCell ⟨w.heap.size,0,none⟩ (.int .u64 (X : Int))).setCell ⟨w.heap.size,1,none⟩ (.int .u64 (Y : Int))).setCell ⟨w.heap.size,2,none⟩ (.slice (some ⟨g,0,none⟩) N N) = wf at *
    have z0 : wf.cell? ⟨w.heap.size,0,none⟩ = some (.int .u64 (X : Int)) := hH.cell 0
    have z1 : wf.cell? ⟨w.heap.size,1,none⟩ = some (.int .u64 (Y : Int)) := hH.cell 1
    have z2 : wf.cell? ⟨w.heap.size,2,none⟩ = some (.slice (some ⟨g,0,none⟩) N N) := hH.cell 2
    rw [r4]
    refine bodyPost_ret (v := .tuple #[.agg #[.int .u64 (X : Int),.int .u64 (Y : Int),.slice (some ⟨g,0,none⟩) N N],.int .i64 0]) ?_ rfl ⟨_,rfl,hb,.inr ⟨rfl,r2,r3,r5,r6,g,rfl,by omega,hg⟩⟩
    simp [results,Tryz.f23,go_sem,z0,z1,z2]
  · have hE' : (E != 0) = true := by simp [hE]
    obtain ⟨hD,hbw⟩ := h2 hE
    obtain ⟨r1,r2,r3⟩ := R0.out
    have hH := r2.below hbw (by omega)
    have x0 : w1.cell? ⟨w.heap.size,0,none⟩ = some (.int .u64 0) := hH.cell 0
    have x1 : w1.cell? ⟨w.heap.size,1,none⟩ = some (.int .u64 0) := hH.cell 1
    have x2 : w1.cell? ⟨w.heap.size,2,none⟩ = some (.slice none 0 0) := hH.cell 2
    have f0 := hH.frozen 0
    have f1 := hH.frozen 1
    have f2 := hH.frozen 2
    have R : Aside (Below w.heap.size w w1 ∧ D = DERR E ∧ ¬ E = 0 ∧ Has w1 w.heap.size #[.int .u64 0,.int .u64 0,.slice none 0 0] 46) := ⟨r1.trans (hbw.mono r1.size),hD,hE,hH⟩
    clear h1 h2 hD hbw r1 r2 r3 hH R0 hE
    go_wp2
    obtain ⟨r1,r4,r2,r10⟩ := R.out
    have hH := ((r10.set 0 (.int .u64 0)).set 1 (.int .u64 0)).set 2 (.slice none 0 0)
    have hb := ((r1.setCell (p := ⟨w.heap.size,0,none⟩) (Nat.le_refl _) (.int .u64 0)).setCell (p := ⟨w.heap.size,1,none⟩) (Nat.le_refl _) (.int .u64 0)).setCell (p := ⟨w.heap.size,2,none⟩) (Nat.le_refl _) (.slice none 0 0)
    clear x0 x1 x2 f0 f1 f2 R r1 r10
    generalize ((w1.setCell ⟨w.heap.size,0,none⟩ (.int .u64 0)).setCell ⟨w.heap.size,1,none⟩ (.int .u64 0)).setCell ⟨w.heap.size,2,none⟩ (.slice none 0 0) = wf at *
    have z0 : wf.cell? ⟨w.heap.size,0,none⟩ = some (.int .u64 0) := hH.cell 0
    have z1 : wf.cell? ⟨w.heap.size,1,none⟩ = some (.int .u64 0) := hH.cell 1
    have z2 : wf.cell? ⟨w.heap.size,2,none⟩ = some (.slice none 0 0) := hH.cell 2
    rw [r4]
    refine bodyPost_ret (v := .tuple #[.agg #[.int .u64 0,.int .u64 0,.slice none 0 0],.int .i64 E]) ?_ rfl ⟨_,rfl,hb,.inl ⟨r2,rfl⟩⟩
    simp [results,Tryz.f23,go_sem,z0,z1,z2]
set_option maxHeartbeats 2000000 in
theorem decodeprefix_ok (a : Option Addr) (n c : Nat) (hn : n ≤ 1000000) (l : List Int) (w : World) (hB : Bytes w a n l) (hc : n ≤ c) (hT : Tabled w) (h0 : 0 < w.heap.size) :
    Calls Tryz.prog 40 #[.slice a n c] w (DECD w (DEX l)) := by
  have hln : l.length = n := hB.1
  obtain ⟨D,hD⟩ : ∃ D,DEX l = D := ⟨_,rfl⟩
  rw [hD]
  have hDD : D = DC0 80 (fun _ => false) PPA l := hD.symm
  have HA : Aside (Bytes w a n l ∧ l.length = n ∧ n ≤ c ∧ n ≤ 1000000 ∧ D = DC0 80 (fun _ => false) PPA l ∧ Tabled w ∧ 0 < w.heap.size) := ⟨hB,hln,hc,hn,hDD,hT,h0⟩
  clear hB hc hn hD hT h0 hln hDD
  go_enter Tryz.func40,Tryz.ntmps40
  go_wp2_with fail
  have hR := Has.new w #[.int .u64 0,.int .u64 0,.slice none 0 0] 34
  have hb0 : Below w.heap.size w (w.alloc (.cells #[.int .u64 0,.int .u64 0,.slice none 0 0] 34)) := (Below.refl _ _).alloc (Nat.le_refl _) _
  have hs0 : (w.alloc (.cells #[.int .u64 0,.int .u64 0,.slice none 0 0] 34)).heap.size = w.heap.size + 1 := by simp
  generalize w.alloc (.cells #[.int .u64 0,.int .u64 0,.slice none 0 0] 34) = w0 at *
  rw [← hs0]
  obtain ⟨b1,b2,b3,b4,b5,b6,b7⟩ := HA.out
  have hP0 : RPP w0 w0.heap.size (w0.heap.size + 1) 107 #[.func (.func 72) #[.pointer (some ⟨w0.heap.size,0,none⟩)] #[],.func (.func 73) #[.pointer (some ⟨w0.heap.size,0,none⟩)] #[],.func (.func 74) #[.pointer (some ⟨w0.heap.size,0,none⟩)] #[],.func (.func 75) #[.pointer (some ⟨w0.heap.size,0,none⟩)] #[]] 89 80 (fun _ => false) PPA D 0
      ((w0.alloc (.cells #[.slice a n c,.int .u64 0,.int .u64 0,.slice none 0 0] 107)).alloc (.cells #[.func (.func 72) #[.pointer (some ⟨w0.heap.size,0,none⟩)] #[],.func (.func 73) #[.pointer (some ⟨w0.heap.size,0,none⟩)] #[],.func (.func 74) #[.pointer (some ⟨w0.heap.size,0,none⟩)] #[],.func (.func 75) #[.pointer (some ⟨w0.heap.size,0,none⟩)] #[]] 89)) := by
    refine ⟨a,c,l,⟨((Below.refl _ _).alloc (Nat.le_refl _) _).alloc (by simp) _, ?_, ?_,by omega,Nat.le_refl _,by omega⟩,⟨?_,by omega,by omega⟩,b5⟩
    · rw [b2]
      exact (Has.new w0 _ _).alloc _
    · exact Has.at _ _ _ (by simp)
    · rw [b2]
      exact b1.below hb0
  obtain ⟨hT0,h00⟩ := pla_tab b6 b7 hb0
  have key := prefixinturn_ok w0.heap.size (w0.heap.size + 1) _ (RFIN w0 D)
    (fun W h => by obtain ⟨_,_,_,F,_⟩ := h; exact F.fl.cell 0) (fun W h => by obtain ⟨_,_,_,F,_⟩ := h; exact F.fl.cell 1) (fun W h => by obtain ⟨_,_,_,_,F,_⟩ := h; exact F.fl.cell 2) (fun W h => by obtain ⟨_,_,_,_,_,F,_⟩ := h; exact F.fl.cell 3)
    (fun W h => pstep0 W h) (fun W h => pstep1 W h) (fun W h => pstep2 W h) (fun W h => pstep3 hT0 h00 W h) _ hP0
  have R0 : Aside (Below w.heap.size w w0 ∧ Has w0 w.heap.size #[.int .u64 0,.int .u64 0,.slice none 0 0] 34 ∧ w0.heap.size = w.heap.size + 1) := ⟨hb0,hR,hs0⟩
  clear hP0 hT0 h00 b1 b2 b3 b4 b5 b6 b7 HA hR hb0 hs0
  refine key.mono ?_
  rintro e w1 ⟨E,rfl,h1,h2⟩
  clear key
  by_cases hE : E = 0
  · subst hE
    obtain ⟨a',c',l',X,Y,N,g,F,S,hX,hY,hD,hl,hg,hg1,hg2,hg3⟩ := h1 rfl
    obtain ⟨r1,r2,r3⟩ := R0.out
    have hH := r2.below F.bel (by omega)
    have x0 : w1.cell? ⟨w.heap.size,0,none⟩ = some (.int .u64 0) := hH.cell 0
    have x1 : w1.cell? ⟨w.heap.size,1,none⟩ = some (.int .u64 0) := hH.cell 1
    have x2 : w1.cell? ⟨w.heap.size,2,none⟩ = some (.slice none 0 0) := hH.cell 2
    have f0 := hH.frozen 0
    have f1 := hH.frozen 1
    have f2 := hH.frozen 2
    have y1 : w1.cell? ⟨w0.heap.size,1,none⟩ = some (.int .u64 (X : Int)) := F.rd.cell 1
    have y2 : w1.cell? ⟨w0.heap.size,2,none⟩ = some (.int .u64 (Y : Int)) := F.rd.cell 2
    have y3 : w1.cell? ⟨w0.heap.size,3,none⟩ = some (.slice (some ⟨g,0,none⟩) N N) := F.rd.cell 3
    have R : Aside (Below w.heap.size w w1 ∧ X < 2 ^ 64 ∧ Y < 2 ^ 64 ∧ D = (0,X,Y,N,l') ∧ l'.length = 32 * N ∧ (∀ x ∈ l',0 ≤ x ∧ x ≤ 255) ∧ Has w1 g (CELLS l').toArray 23 ∧ w0.heap.size ≤ g ∧ w0.heap.size = w.heap.size + 1 ∧ Has w1 w.heap.size #[.int .u64 0,.int .u64 0,.slice none 0 0] 34) := ⟨r1.trans (F.bel.mono r1.size),hX,hY,hD,hl,S.1.2.2,hg,hg1,r3,hH⟩
    clear h1 h2 F S hX hY hD hl hg hg1 hg2 hg3 r1 r2 r3 hH R0
    go_wp2
    obtain ⟨r1,r2,r3,r4,r5,r6,r7,r8,r9,r10⟩ := R.out
    have hH := ((r10.set 0 (.int .u64 (X : Int))).set 1 (.int .u64 (Y : Int))).set 2 (.slice (some ⟨g,0,none⟩) N N)
    have hg := ((r7.other (a := ⟨w.heap.size,0,none⟩) (by show g ≠ w.heap.size; omega) (.int .u64 (X : Int))).other (a := ⟨w.heap.size,1,none⟩) (by show g ≠ w.heap.size; omega) (.int .u64 (Y : Int))).other (a := ⟨w.heap.size,2,none⟩) (by show g ≠ w.heap.size; omega) (.slice (some ⟨g,0,none⟩) N N)
    have hb := ((r1.setCell (p := ⟨w.heap.size,0,none⟩) (Nat.le_refl _) (.int .u64 (X : Int))).setCell (p := ⟨w.heap.size,1,none⟩) (Nat.le_refl _) (.int .u64 (Y : Int))).setCell (p := ⟨w.heap.size,2,none⟩) (Nat.le_refl _) (.slice (some ⟨g,0,none⟩) N N)
    clear x0 x1 x2 f0 f1 f2 y1 y2 y3 R r1 r10 r7
    generalize ((w1.setCell ⟨w.heap.size,0,none⟩ (.int .u64 (X : Int))).setCell ⟨w.heap.size,1,none⟩ (.int .u64 (Y : Int))).setCell ⟨w.heap.size,2,none⟩ (.slice (some ⟨g,0,none⟩) N N) = wf at *
    have z0 : wf.cell? ⟨w.heap.size,0,none⟩ = some (.int .u64 (X : Int)) := hH.cell 0
    have z1 : wf.cell? ⟨w.heap.size,1,none⟩ = some (.int .u64 (Y : Int)) := hH.cell 1
    have z2 : wf.cell? ⟨w.heap.size,2,none⟩ = some (.slice (some ⟨g,0,none⟩) N N) := hH.cell 2
    rw [r4]
    refine bodyPost_ret (v := .tuple #[.agg #[.int .u64 (X : Int),.int .u64 (Y : Int),.slice (some ⟨g,0,none⟩) N N],.int .i64 0]) ?_ rfl ⟨_,rfl,hb,.inr ⟨rfl,r2,r3,r5,r6,g,rfl,by omega,hg⟩⟩
    simp [results,Tryz.f40,go_sem,z0,z1,z2]
  · have hE' : (E != 0) = true := by simp [hE]
    obtain ⟨hD,hbw⟩ := h2 hE
    obtain ⟨r1,r2,r3⟩ := R0.out
    have hH := r2.below hbw (by omega)
    have x0 : w1.cell? ⟨w.heap.size,0,none⟩ = some (.int .u64 0) := hH.cell 0
    have x1 : w1.cell? ⟨w.heap.size,1,none⟩ = some (.int .u64 0) := hH.cell 1
    have x2 : w1.cell? ⟨w.heap.size,2,none⟩ = some (.slice none 0 0) := hH.cell 2
    have f0 := hH.frozen 0
    have f1 := hH.frozen 1
    have f2 := hH.frozen 2
    have R : Aside (Below w.heap.size w w1 ∧ D = DERR E ∧ ¬ E = 0 ∧ Has w1 w.heap.size #[.int .u64 0,.int .u64 0,.slice none 0 0] 34) := ⟨r1.trans (hbw.mono r1.size),hD,hE,hH⟩
    clear h1 h2 hD hbw r1 r2 r3 hH R0 hE
    go_wp2
    obtain ⟨r1,r4,r2,r10⟩ := R.out
    have hH := ((r10.set 0 (.int .u64 0)).set 1 (.int .u64 0)).set 2 (.slice none 0 0)
    have hb := ((r1.setCell (p := ⟨w.heap.size,0,none⟩) (Nat.le_refl _) (.int .u64 0)).setCell (p := ⟨w.heap.size,1,none⟩) (Nat.le_refl _) (.int .u64 0)).setCell (p := ⟨w.heap.size,2,none⟩) (Nat.le_refl _) (.slice none 0 0)
    clear x0 x1 x2 f0 f1 f2 R r1 r10
    generalize ((w1.setCell ⟨w.heap.size,0,none⟩ (.int .u64 0)).setCell ⟨w.heap.size,1,none⟩ (.int .u64 0)).setCell ⟨w.heap.size,2,none⟩ (.slice none 0 0) = wf at *
    have z0 : wf.cell? ⟨w.heap.size,0,none⟩ = some (.int .u64 0) := hH.cell 0
    have z1 : wf.cell? ⟨w.heap.size,1,none⟩ = some (.int .u64 0) := hH.cell 1
    have z2 : wf.cell? ⟨w.heap.size,2,none⟩ = some (.slice none 0 0) := hH.cell 2
    rw [r4]
    refine bodyPost_ret (v := .tuple #[.agg #[.int .u64 0,.int .u64 0,.slice none 0 0],.int .i64 E]) ?_ rfl ⟨_,rfl,hb,.inl ⟨r2,rfl⟩⟩
    simp [results,Tryz.f40,go_sem,z0,z1,z2]
end Go.Proofs.YtkcfhgflgkejoaaGreatDoor

/- What is read stands in rows of one's own; families of such rows, none in another's block. -/
namespace Go.Proofs.YtkcfhgflgkejoaaGreatDoor
open Go.RowKit
set_option maxRecDepth 100000

theorem DC3_err (PF : Nat → Nat → Int × List Nat) (X Y : Nat) (t : List Int) : DC3 PF X Y t = DERR (DC3 PF X Y t).1 ∨ (DC3 PF X Y t).1 = 0 := by
  unfold DC3
  split
  · exact .inl rfl
  · split
    · exact .inl rfl
    · split
      · exact .inl rfl
      · exact .inr rfl
theorem DC2_err (PF : Nat → Nat → Int × List Nat) (X : Nat) (t : List Int) : DC2 PF X t = DERR (DC2 PF X t).1 ∨ (DC2 PF X t).1 = 0 := by
  unfold DC2
  split
  · exact .inl rfl
  · exact DC3_err _ _ _ _
theorem DC1_err (chk : Nat → Bool) (PF : Nat → Nat → Int × List Nat) (t : List Int) : DC1 chk PF t = DERR (DC1 chk PF t).1 ∨ (DC1 chk PF t).1 = 0 := by
  unfold DC1
  split
  · exact .inl rfl
  · split
    · exact .inl rfl
    · exact DC2_err _ _ _
theorem DC0_err {K : Int} {chk : Nat → Bool} {PF : Nat → Nat → Int × List Nat} {l : List Int} (h : (DC0 K chk PF l).1 ≠ 0) : DC0 K chk PF l = DERR (DC0 K chk PF l).1 := by
  have : DC0 K chk PF l = DERR (DC0 K chk PF l).1 ∨ (DC0 K chk PF l).1 = 0 := by
    unfold DC0
    split
    · exact .inl rfl
    · split
      · exact .inl rfl
      · exact DC1_err _ _ _
  rcases this with h1 | h1
  · exact h1
  · exact absurd h1 h
theorem own_of_has {w : World} {B g N : Nat} {l : List Int} (h : Has w g (CELLS l).toArray 23) (hl : l.length = 32 * N) (hB : B ≤ g) (hN : N ≤ 1000) : w.ownsRow B 23 32 (.slice (some ⟨g,0,none⟩) N N) N (CELLS l) := by
  refine ⟨by rw [CELLS,List.length_map,hl,Nat.mul_comm],.inr ⟨g,N,_,rfl,hB,h,Nat.le_refl _,by simp [maxLen]; omega, ?_, ?_⟩⟩
  · simp [CELLS,hl,Nat.mul_comm]
  · rw [List.take_of_length_le (by simp [CELLS,hl]; omega)]
/-- a proof is answered, its nodes in a row of one's own; or an error, and all is zero. -/
def DECO (w : World) (D : DANS) (e : Ending) (w' : World) : Prop :=
  ∃ a c,e = .returned (.tuple #[.agg #[.int .u64 (D.2.1 : Int),.int .u64 (D.2.2.1 : Int),.slice a D.2.2.2.1 c],.int .i64 D.1]) ∧ w'.ownsRow w.heap.size 23 32 (.slice a D.2.2.2.1 c) D.2.2.2.1 (CELLS D.2.2.2.2) ∧ (∀ x ∈ D.2.2.2.2,0 ≤ x ∧ x ≤ 255) ∧ Below w.heap.size w w'
theorem DECD.own {w w' : World} {K : Int} {chk : Nat → Bool} {PF : Nat → Nat → Int × List Nat} {l : List Int} {e : Ending} (h : DECD w (DC0 K chk PF l) e w') (hf : (DC0 K chk PF l).1 = 0 → (DC0 K chk PF l).2.2.2.1 ≤ 1000) : DECO w (DC0 K chk PF l) e w' := by
  obtain ⟨v,rfl,hb,h⟩ := h
  rcases h with ⟨hE,rfl⟩ | ⟨hE,h1,h2,h3,h4,g,rfl,hg,hh⟩
  · have hD := DC0_err hE
    rw [hD]
    refine ⟨none,0,rfl,World.ownsRow_nil _ _ _ _,by simp [DERR],hb⟩
  · exact ⟨_,_,rfl,own_of_has hh h3 hg (hf hE),h4,hb⟩
theorem DEC_few {l : List Int} (hr : ∀ x ∈ l,0 ≤ x ∧ x ≤ 255) (h : (DEC l).1 = 0) : (DEC l).2.2.2.1 ≤ 188 := by
  obtain ⟨E,S,I,N,t,hD⟩ : ∃ E S I N t,DEC l = (E,S,I,N,t) := ⟨_,_,_,_,_,rfl⟩
  rw [hD] at h ⊢
  obtain rfl : E = 0 := h
  obtain ⟨_,_,_,_,h5,_⟩ := DC_back hr hD
  have := PLA_few I S
  show N ≤ 188
  omega
theorem DEX_few {l : List Int} (hr : ∀ x ∈ l,0 ≤ x ∧ x ≤ 255) (h : (DEX l).1 = 0) : (DEX l).2.2.2.1 ≤ 188 := by
  obtain ⟨E,S,I,N,t,hD⟩ : ∃ E S I N t,DEX l = (E,S,I,N,t) := ⟨_,_,_,_,_,rfl⟩
  rw [hD] at h ⊢
  obtain rfl : E = 0 := h
  obtain ⟨_,_,_,_,h5,_⟩ := DC_back hr hD
  have := PPA_few S I
  show N ≤ 188
  omega
theorem decode_own (a : Option Addr) (n c : Nat) (hn : n ≤ 1000000) (l : List Int) (w : World) (hB : Bytes w a n l) (hc : n ≤ c) (hT : Tabled w) (h0 : 0 < w.heap.size) : Calls Tryz.prog 23 #[.slice a n c] w (DECO w (DEC l)) :=
  (decode_ok a n c hn l w hB hc hT h0).mono fun _ _ h => DECD.own h fun hE => Nat.le_trans (DEC_few hB.2.2 hE) (by decide)
theorem decodeprefix_own (a : Option Addr) (n c : Nat) (hn : n ≤ 1000000) (l : List Int) (w : World) (hB : Bytes w a n l) (hc : n ≤ c) (hT : Tabled w) (h0 : 0 < w.heap.size) : Calls Tryz.prog 40 #[.slice a n c] w (DECO w (DEX l)) :=
  (decodeprefix_ok a n c hn l w hB hc hT h0).mono fun _ _ h => DECD.own h fun hE => Nat.le_trans (DEX_few hB.2.2 hE) (by decide)
/-- M rows of one's own, of one kind, none in another's block, none in a block of K. -/
structure FAM (M : Nat) (t : TypeId) (s : Nat) (w : World) (B : Nat) (K : Nat → Prop) (v : Nat → Value) (n : Nat → Nat) (xs : Nat → List Value) : Prop where
  row : ∀ x,x < M → w.ownsRow B t s (v x) (n x) (xs x)
  apart : ∀ x y,x < M → y < M → x ≠ y → ∀ g,(v x).ownBlock = some g → (v y).ownBlock ≠ some g
  off : ∀ x,x < M → ∀ g,(v x).ownBlock = some g → ¬ K g
theorem FAM.below {M : Nat} {t : TypeId} {s : Nat} {w w' : World} {B : Nat} {K : Nat → Prop} {v : Nat → Value} {n : Nat → Nat} {xs : Nat → List Value} (h : FAM M t s w B K v n xs) (hb : Below w.heap.size w w') : FAM M t s w' B K v n xs := ⟨fun x hx => own_below (h.row x hx) hb,h.apart,h.off⟩
theorem FAM.heap {M : Nat} {t : TypeId} {s : Nat} {w w' : World} {B : Nat} {K : Nat → Prop} {v : Nat → Value} {n : Nat → Nat} {xs : Nat → List Value} (h : FAM M t s w B K v n xs) (hk : ∀ k,k < w.heap.size → ¬ K k → w'.heap[k]? = w.heap[k]?) : FAM M t s w' B K v n xs := ⟨fun x hx => own_heap (h.row x hx) fun k e => hk k ((h.row x hx).lt k e).2 (h.off x hx k e),h.apart,h.off⟩
end Go.Proofs.YtkcfhgflgkejoaaGreatDoor
