/- Texts of SpanPlaces, one behind the other: SpanPlacesWalk, PosDoor, ManyDoor. -/
import Derived.Test.YtmkgldjocigffaaDoorRows
import Derived.ProofKit
import Derived.LaidMore
import Derived.OpenShut
import Derived.Stop.Joined
import Derived.Test.YtmkgldjocigffaaDoorSpanPlacesP9
/- The law SpanPlaces returns true. -/
namespace Go.Proofs.YtmkgldjocigffaaDoor
open Go.RowKit
set_option maxRecDepth 100000

theorem SPA_few (F T N : Nat) : (SPA F T N).length ≤ 188 := by
  rcases SPE_cases F T N with ⟨_, e, _⟩ | ⟨_, e, _⟩ | ⟨_, e, h1, _, h3⟩
  · rw [e]; simp
  · rw [e]; simp
  · rw [e]; exact SPP_few h1 h3
set_option maxHeartbeats 8000000 in
theorem spanPlaces_core (F T N : Nat) (w : World) (hT : Tabled w) (h0 : 0 < w.heap.size) :
    Calls Tryd.prog 3 #[.int .u64 (F : Int), .int .u64 (T : Int), .int .u64 (N : Int)] w fun e w' => e = .returned (.bool true) ∧ Below w.heap.size w w' := by
  have tab : Aside (∀ W, Below w.heap.size w W → Tabled W ∧ 0 < W.heap.size) := fun W hb => ⟨hT.below h0 hb, by have := hb.size; omega⟩
  obtain ⟨E, hE⟩ : ∃ E, SPE F T N = E := ⟨_, rfl⟩
  obtain ⟨P, hP⟩ : ∃ P, SPA F T N = P := ⟨_, rfl⟩
  have hfew : P.length ≤ 188 := by rw [← hP]; exact SPA_few F T N
  have c1 := srefplaces_ok F T N w
  have CM : Aside (∀ W, Below w.heap.size w W → Calls Tryd.prog 8 #[.int .u64 (F : Int), .int .u64 (T : Int), .int .u64 (N : Int)] W (ANSP20 W E P)) := fun W hb => by
    rw [← hE, ← hP]
    exact spanplaces_ok F T N W (tab.out W hb).1 (tab.out W hb).2
  rw [hE, hP] at c1
  obtain ⟨m, hm⟩ : ∃ m, P.length = m := ⟨_, rfl⟩
  have HM : Aside (P.length = m ∧ m ≤ 188) := ⟨hm, by omega⟩
  unfold ANSP20 at c1 CM
  rw [hm] at c1 CM
  clear hT h0 hE hP hfew hm
  go_enter Tryd.func3, Tryd.ntmps3
  go_wp2_with fail
  refine c1.mono ?_
  rintro e w1 ⟨a1, k1, rfl, o1, hb1⟩
  have W1 : Aside (Below w.heap.size w w1 ∧ w1.ownsRow w.heap.size 22 1 (.slice a1 m k1) m (UCELLS P)) := ⟨hb1, o1⟩
  clear c1 o1 hb1
  have c2 := CM.out w1 W1.out.1
  go_wp2_with fail
  refine c2.mono ?_
  rintro e w2 ⟨a2, k2, rfl, o2, hb2⟩
  have W2 : Aside (Below w.heap.size w w2 ∧ Below w1.heap.size w1 w2 ∧ w2.ownsRow w1.heap.size 22 1 (.slice a2 m k2) m (UCELLS P)) := ⟨W1.out.1.trans (hb2.mono W1.out.1.size), hb2, o2⟩
  clear c2 o2 hb2
  have c3 := CM.out w2 W2.out.1
  go_wp2_with fail
  refine c3.mono ?_
  rintro e w3 ⟨a3, k3, rfl, o3, hb3⟩
  have W3 : Aside (DPAIR 22 1 w1 w3 w1.heap.size (.slice a2 m k2) m (UCELLS P) (.slice a3 m k3) m (UCELLS P) ∧ NUML w3 a1 P) := by
    have h1 : Below w1.heap.size w1 w3 := W2.out.2.1.trans (hb3.mono W2.out.2.1.size)
    refine ⟨⟨own_below W2.out.2.2 hb3, own_mono o3 W2.out.2.1.size, fun x e1 e2 => ?_, h1, Nat.le_refl _⟩, (own_lies W1.out.2 HM.out.1).keep h1⟩
    have h1 := (W2.out.2.2.lt x e1).2
    have h2 := (o3.lt x e2).1
    omega
  clear c3 o3 hb3 W2
  have c4 := samenuml_ok a2 a1 m k2 k1 P HM.out.1 (by have := HM.out.2; omega) w3 (own_lies W3.out.1.ra HM.out.1) W3.out.2
  go_wp2_with fail
  refine c4.mono ?_
  rintro e w4 ⟨rfl, hb4⟩
  have W4 : Aside (Below w3.heap.size w3 w4) := hb4
  clear c4 hb4
  have c5 := samenuml_ok a3 a1 m k3 k1 P HM.out.1 (by have := HM.out.2; omega) w4 ((own_lies W3.out.1.rb HM.out.1).keep W4.out) (W3.out.2.keep W4.out)
  go_wp2_with fail
  refine c5.mono ?_
  rintro e w5 ⟨rfl, hb5⟩
  have W5 : Aside (DPAIR 22 1 w1 w5 w1.heap.size (.slice a2 m k2) m (UCELLS P) (.slice a3 m k3) m (UCELLS P) ∧ (UCELLS P).length = m) := by
    have h1 : Below w3.heap.size w3 w5 := W4.out.trans (hb5.mono W4.out.size)
    exact ⟨⟨own_below W3.out.1.ra h1, own_below W3.out.1.rb h1, W3.out.1.ap, W3.out.1.bl.trans (h1.mono W3.out.1.bl.size), Nat.le_refl _⟩, by rw [UCELLS_length]; exact HM.out.1⟩
  clear c5 hb5 W3 W4
  go_wp2_with fail
  go_loopg [13] m (fun q s13 wx => ∃ j : Nat, s13 = .int .i64 (j : Int) ∧ Aside (j + q = m ∧ DPAIR 22 1 w1 wx w1.heap.size (.slice a2 m k2) m (OVER (UCELLS P) (.int .u64 201) j) (.slice a3 m k3) m (OVER (UCELLS P) (.int .u64 202) j)))
  case atStart => exact ⟨0, rfl, by omega, by rw [OVER_zero, OVER_zero]; exact W5.out.1⟩
  case round =>
    obtain ⟨j, rfl, A⟩ := hrel
    cases gk with
    | succ q =>
      have hjn : j < m := by have := A.out.1; omega
      have hlt : (j : Int) < (m : Int) := by omega
      obtain ⟨ga, rfl⟩ := own_some20 A.out.2.ra (by omega)
      obtain ⟨gb, rfl⟩ := own_some20 A.out.2.rb (by omega)
      obtain ⟨⟨u1, y1⟩, f1, o1, r1⟩ := own_putd (v := .int .u64 201) A.out.2.ra hjn
      have st1 := A.out.2.step o1 r1 (fun _ e => .inl e)
      obtain ⟨⟨u2, y2⟩, f2, o2, r2⟩ := own_putd (v := .int .u64 202) st1.rb hjn
      have st2 := (st1.swap.step o2 r2 (fun _ e => .inl e)).swap
      have ej : wrap64 ((j : Int) + 1) = ((j + 1 : Nat) : Int) := by have := HM.out.2; unfold wrap64; omega
      have S1 := OVER_next (u := .int .u64 201) (show j < (UCELLS P).length by have := W5.out.2; omega)
      have S2 := OVER_next (u := .int .u64 202) (show j < (UCELLS P).length by have := W5.out.2; omega)
      rw [S1, S2] at st2
      have ZZ : Aside (j + 1 + q = m ∧ DPAIR 22 1 w1 ((wr.setCell ⟨ga, j, none⟩ (.int .u64 201)).setCell ⟨gb, j, none⟩ (.int .u64 202)) w1.heap.size (.slice (some ⟨ga, 0, none⟩) m k2) m (OVER (UCELLS P) (.int .u64 201) (j + 1)) (.slice (some ⟨gb, 0, none⟩) m k3) m (OVER (UCELLS P) (.int .u64 202) (j + 1))) := ⟨by have := A.out.1; clear ej; omega, st2⟩
      clear A o1 r1 st1 o2 r2 st2 S1 S2 hjn
      go_wp2_with fail
      go_roundg q
      case measure => exact Nat.lt_succ_self _
      case rel => exact ⟨j + 1, by first | rfl | (rw [ej]), ZZ.out⟩
    | zero =>
      obtain rfl : j = m := by have := A.out.1; omega
      have hlt : ¬ (j : Int) < (j : Int) := by omega
      have P1 : Aside (DPAIR 22 1 w1 wr w1.heap.size (.slice a2 j k2) j (OVER (UCELLS P) (.int .u64 201) j) (.slice a3 j k3) j (OVER (UCELLS P) (.int .u64 202) j)) := A.out.2
      clear A
      go_wp2_with (first
        | (at_builtin; refine app_numd _ rfl (.tmp 70) (.tmp 71) rfl w1.heap.size (.slice a2 j k2) j _ rfl (P1.out.alloc _).ra wr.heap.size 1 201 rfl ((Has.new _ _ _).cell 0) (by have := HM.out.2; omega) (by have := P1.out.bl.size; simp; omega) ?_; intro g11 c11 w11 ho11 hg11 hat11 hl11
           have P2 : Aside (DPAIR 22 1 w1 w11 w1.heap.size (.slice (some ⟨g11, 0, none⟩) (j + 1) c11) (j + 1) (List.replicate (j + 1) (.int .u64 201)) (.slice a3 j k3) j (OVER (UCELLS P) (.int .u64 202) j)) := by
             have h1 := (P1.out.alloc (.cells #[.int .u64 201] 22)).step ho11 hg11 (fun g e => by have e : g11 = g := (by simpa [Value.ownBlock] using e); subst e; exact hat11.imp id (fun e => Nat.le_of_eq e.symm))
             rw [OVER_growd W5.out.2] at h1
             exact h1
           clear ho11 hg11 hat11 hl11 P1)
        | (at_builtin; refine app_numd _ rfl (.tmp 73) (.tmp 74) rfl w1.heap.size (.slice a3 j k3) j _ rfl (P2.out.alloc _).rb w11.heap.size 1 202 rfl ((Has.new _ _ _).cell 0) (by have := HM.out.2; omega) (by have := P2.out.bl.size; simp; omega) ?_; intro g12 c12 w12 ho12 hg12 hat12 hl12
           have P3 : Aside (DPAIR 22 1 w1 w12 w1.heap.size (.slice (some ⟨g11, 0, none⟩) (j + 1) c11) (j + 1) (List.replicate (j + 1) (.int .u64 201)) (.slice (some ⟨g12, 0, none⟩) (j + 1) c12) (j + 1) (List.replicate (j + 1) (.int .u64 202))) := by
             have h1 := ((P2.out.alloc (.cells #[.int .u64 202] 22)).swap.step ho12 hg12 (fun g e => by have e : g12 = g := (by simpa [Value.ownBlock] using e); subst e; exact hat12.imp id (fun e => Nat.le_of_eq e.symm))).swap
             rw [OVER_growd W5.out.2] at h1
             exact h1
           clear ho12 hg12 hat12 hl12 P2))
      go_loopg [14] (j + 1) (fun q s14 wx => ∃ t : Nat, s14 = .int .i64 (t : Int) ∧ Aside (t + q = j + 1) ∧ wx = w12)
      case atStart => exact ⟨0, rfl, by show 0 + (j + 1) = j + 1; omega, rfl⟩
      case round =>
        obtain ⟨t, rfl, A, rfl⟩ := hrel
        cases gk with
        | succ q =>
          have hlt3 : (t : Int) < (j : Int) + 1 := by have := A.out; omega
          have hltn : t < j + 1 := by have := A.out; omega
          have z1 : wr.cell? ⟨g11, t, none⟩ = some (.int .u64 201) := by
            have := P3.out.ra.cellAt t (by omega)
            rw [this, List.getElem?_replicate, if_pos hltn]
          have z2 : wr.cell? ⟨g12, t, none⟩ = some (.int .u64 202) := by
            have := P3.out.rb.cellAt t (by omega)
            rw [this, List.getElem?_replicate, if_pos hltn]
          have et : wrap64 ((t : Int) + 1) = ((t + 1 : Nat) : Int) := by have := HM.out.2; unfold wrap64; omega
          have ZZ : Aside (t + 1 + q = j + 1) := by have := A.out; show t + 1 + q = j + 1; clear et; omega
          clear A hltn
          go_wp2_with fail
          go_roundg q
          case measure => exact Nat.lt_succ_self _
          case rel => exact ⟨t + 1, by first | rfl | (rw [et]), ZZ.out, rfl⟩
        | zero =>
          have ht : (t : Int) = (j : Int) + 1 := by have := A.out; omega
          have hlt3 : ¬ (t : Int) < (j : Int) + 1 := by omega
          have hlt4 : ¬ t < j + 1 := by omega
          have WB : Aside (Below w.heap.size w wr ∧ NUML wr a1 P) := ⟨W1.out.1.trans (P3.out.bl.mono W1.out.1.size), (own_lies W1.out.2 HM.out.1).keep P3.out.bl⟩
          clear A ht P3 W5 W1
          have c20 := CM.out wr WB.out.1
          clear CM
          go_wp2_with fail
          refine c20.mono ?_
          rintro e w20 ⟨a20, k20, rfl, o20, hb20⟩
          have W20 : Aside (Below w.heap.size w w20 ∧ NUML w20 a1 P ∧ NUML w20 a20 P) := ⟨WB.out.1.trans (hb20.mono WB.out.1.size), WB.out.2.keep hb20, own_lies o20 HM.out.1⟩
          clear c20 o20 hb20 WB
          have c21 := samenuml_ok a20 a1 j k20 k1 P HM.out.1 (by have := HM.out.2; omega) w20 W20.out.2.2 W20.out.2.1
          go_wp2_with fail
          refine c21.mono ?_
          rintro e w21 ⟨rfl, hb21⟩
          have W21 : Aside (Below w.heap.size w w21) := W20.out.1.trans (hb21.mono W20.out.1.size)
          clear c21 hb21 W20
          have c22 := awake20_ok w21 (tab.out w21 W21.out).1 (tab.out w21 W21.out).2
          go_wp2_with fail
          refine c22.mono ?_
          rintro e w22 ⟨rfl, hb22⟩
          have FN : Aside (Below w.heap.size w w22) := W21.out.trans (hb22.mono W21.out.size)
          clear c22 hb22 W21 tab
          go_wp2_with fail
          go_ret
          exact ⟨rfl, FN.out⟩
theorem spanPlaces_walk (a0 a1 a2 : Int) (w0 : (Lit.int IntKind.u64 a0).wf = true) (w1 : (Lit.int IntKind.u64 a1).wf = true) (w2 : (Lit.int IntKind.u64 a2).wf = true) (w : World) (hT : Tabled w) (h0 : 0 < w.heap.size) :
    Calls Tryd.prog 3 #[.int .u64 a0, .int .u64 a1, .int .u64 a2] w fun e w' => e = .returned (.bool true) ∧ Below w.heap.size w w' := by
  have h0' := wf_u64 w0
  have h1' := wf_u64 w1
  have h2' := wf_u64 w2
  obtain ⟨F, rfl⟩ : ∃ k : Nat, a0 = (k : Int) := ⟨a0.toNat, by omega⟩
  obtain ⟨T, rfl⟩ : ∃ k : Nat, a1 = (k : Int) := ⟨a1.toNat, by omega⟩
  obtain ⟨N, rfl⟩ : ∃ k : Nat, a2 = (k : Int) := ⟨a2.toNat, by omega⟩
  exact spanPlaces_core F T N w hT h0
end Go.Proofs.YtmkgldjocigffaaDoor

/- What the card's row gives the walks of layer 3: spots that came in; the table of math/bits. -/
namespace Go.Proofs.YtmkgldjocigffaaDoor
open Go.ChangeShapes Go.WideShapes Go.ChangeAt Go.WideMaps Go.WideElems Go.RowKit
set_option maxRecDepth 100000

theorem own : ownKnob Tryd.prog.godebug = none := by kernel_rfl
theorem gTab : Tryd.prog.globalNamed "math/bits.deBruijn64tab" = some 0 := by kernel_rfl
theorem tTab : (Tryd.prog.globals[0]?).map (·.type) = some 103 := by kernel_rfl
theorem tabData {H : Type} : (Rows.laid_math_bits_deBruijn64tab : DataW H) = .agg (TAB.map fun n => .lit (.int .u8 (n : Nat))) := rfl
theorem of_laid {W : World} (h : laidMetH Tryd.prog [("math/bits.deBruijn64tab", Rows.laid_math_bits_deBruijn64tab)] W) : Tabled W ∧ 0 < W.heap.size := by
  rw [MakeChecks.laidMetH_plain _ _ _ (by kernel_rfl)] at h
  obtain ⟨ps, ⟨g0, t0, cs0, f0, p0, q0, hg0, ht0, hv0, hd0, _, _⟩, _, _⟩ := h
  obtain rfl := Option.some.inj (gTab.symm.trans hg0)
  obtain rfl := Option.some.inj (tTab.symm.trans ht0)
  obtain ⟨xs, m1, rfl, hx1, hlen, hn, hel⟩ := DataW.trod_array Tryd.underlying103 hd0
  have c5 : Tryd.prog.cellsOf 5 = 1 := by kernel_rfl
  simp only [Prod.mk.injEq] at hx1
  have hx := hx1.1
  rw [tabData] at hx
  simp only [DataW.agg.injEq] at hx
  have T : Tabled W := fun i hi => by
    have h0 := hel i hi
    have hi' : i < xs.length := by omega
    rw [List.getElem?_eq_getElem hi', c5, Nat.mul_one] at h0
    obtain ⟨k, e1, e2, _⟩ := DataW.trod_int Tryd.underlying5 h0
    have hk : (k : Int) = ((TAB.getD i 0 : Nat) : Int) := by
      have hz := congrArg (fun l => l[i]?) hx
      have hT : i < TAB.length := hi
      simp only [List.getElem?_map, List.getElem?_eq_getElem hi', List.getElem?_eq_getElem hT, Option.map_some, e2] at hz
      simp at hz
      rw [List.getD_eq_getElem?_getD, List.getElem?_eq_getElem hT]
      simpa using hz.symm
    have hv := World.var?_cell hg0 hv0 i
    rw [hv, ← hk]
    have := congrArg (fun l => l[0]?) e1
    simp at this
    simpa using this
  refine ⟨T, ?_⟩
  have := T 0 (by decide)
  exact Nat.lt_of_le_of_lt (Nat.zero_le _) (World.block_lt_of_cell? W _ this)
end Go.Proofs.YtmkgldjocigffaaDoor

/- What the card's row gives the walks of layer 10: a list of numbers that came in. -/
namespace Go.Proofs.YtmkgldjocigffaaDoor
open Go.ChangeShapes Go.WideShapes Go.ChangeAt Go.WideMaps Go.WideElems Go.RowKit
set_option maxRecDepth 100000

end Go.Proofs.YtmkgldjocigffaaDoor
