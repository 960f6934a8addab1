/- The walk of the law CutMade. -/
import Derived.Test.YtjlflmideajdjaaDoorCutMadeRow
import Derived.Test.YtjlflmideajdjaaDoorCutAwake
namespace Go.Proofs.YtjlflmideajdjaaDoor
open Go.RowKit

/-- the counts, and the lists that they are made by. -/
structure WI (w : World) (T : Nat) (base : Nat) (v : Value) (L : Nat) (l : List (Nat × Nat)) (wx : World) (f : Nat → Nat) : Prop where
  row : Has wx w.heap.size (MA T f) 3
  own : wx.ownsRow base 28 2 v L (SCELLS l)
  far : w.heap.size < base
  bel : Below w.heap.size w wx
theorem WI.bump {w : World} {T base L : Nat} {v : Value} {l : List (Nat × Nat)} {wx : World} {f : Nat → Nat} (h : WI w T base v L l wx f) (x : Nat) : WI w T base v L l (wx.setCell ⟨w.heap.size, x, none⟩ (.int .i64 ((f x + 1 : Nat) : Int))) (BUMP f x) := by
  refine ⟨?_, h.own.kept (grown_cell wx w.heap.size x _) (.inr fun e => ?_), h.far, h.bel.setCell (p := ⟨w.heap.size, x, none⟩) (Nat.le_refl _) _⟩
  · have := h.row.set x (.int .i64 ((f x + 1 : Nat) : Int))
    rw [MA_bump] at this
    exact this
  · have := (h.own.lt _ e).1
    have := h.far
    omega
theorem WI.below {w : World} {T base L : Nat} {v : Value} {l : List (Nat × Nat)} {wx W : World} {f : Nat → Nat} (h : WI w T base v L l wx f) (hb : Below wx.heap.size wx W) : WI w T base v L l W f :=
  ⟨h.row.keep hb, own_below h.own hb, h.far, h.bel.trans (hb.mono h.bel.size)⟩
theorem wrap_near (x : Int) (h0 : 0 ≤ x) (h1 : x < 2 ^ 40) : wrap64 x = x := by unfold wrap64; omega
theorem CS_le (l : List (Nat × Nat)) (q : Nat) : CS l q ≤ l.length := by
  induction l with
  | nil => exact Nat.le_refl _
  | cons s l ih =>
    unfold CS
    rw [List.length_cons]
    split <;> omega
theorem CJ_le (l : List (Nat × Nat)) (q : Nat) : CJ l q ≤ l.length := by
  induction l with
  | nil => exact Nat.le_refl _
  | cons s l ih =>
    unfold CJ
    rw [List.length_cons]
    split <;> omega
theorem NODES_small {n : Nat} (h : n ≤ 600) : NODES n ≤ 1200 := by
  have := NODES_add n
  omega
set_option maxRecDepth 100000 in
set_option maxHeartbeats 4000000 in
theorem made_ok (n k : Nat) (hn : n ≤ 300) (hk : k ≤ 300) (w : World) (hT : Tabled w) (h0 : 0 < w.heap.size) :
    Calls Tryd.prog 7 #[.int .i64 (n : Int), .int .i64 (k : Int)] w fun e w' => e = .returned (.bool true) ∧ Below w.heap.size w w' := by
  have hbm : n + k ≤ 4611686018427387904 := by omega
  obtain ⟨t, hLt, cj⟩ := joins_ok n k hbm
  have hfew := joins_few hbm (n + k - n) n t (Nat.le_refl _) (by omega) hLt
  have honce := made_once hbm (n + k - n) n t (Nat.le_refl _) (by omega) hLt
  rw [show n + k - n = k by omega] at hfew honce
  have cn1 := fun w => nodes_ok n (by omega) w
  have cn2 := fun w => nodes_ok (n + k) hbm w
  have cs := fun w hT h0 => span_ok n (n + k) (by omega) hbm w hT h0
  have cp := fun w hT h0 => peaks_ok n (by omega) w hT h0
  have htile := tile_span hbm (show n ≤ n + k by omega)
  have hsl := SPAN_length (a := n) hbm
  have hjl := JF_length n k (62 - t) (t + 1)
  have hf1 := NODES_le (show n ≤ n + k by omega)
  have hf2 := NODES_small (show n + k ≤ 600 by omega)
  obtain ⟨l, hl⟩ : ∃ l, SPAN n (n + k) = l := ⟨_, rfl⟩
  obtain ⟨J, hJ⟩ : ∃ J, JF n k (62 - t) (t + 1) = J := ⟨_, rfl⟩
  obtain ⟨L, hL⟩ : ∃ L, l.length = L := ⟨_, rfl⟩
  obtain ⟨G, hG⟩ : ∃ G, J.length = G := ⟨_, rfl⟩
  obtain ⟨fr, hfr⟩ : ∃ fr, NODES n = fr := ⟨_, rfl⟩
  obtain ⟨to, hto⟩ : ∃ to, NODES (n + k) = to := ⟨_, rfl⟩
  obtain ⟨m, hm⟩ : ∃ m, n + k = m := ⟨_, rfl⟩
  obtain ⟨T, hTT⟩ : ∃ T, to - fr = T := ⟨_, rfl⟩
  have hjp := fun i x y (e : J[i]? = some (x, y)) => JF_place (n := n) (k := k) (t := t) (i := i) (x := x) (y := y) (by omega) (by rw [hJ]; exact e)
  have hjr := fun i x y x' y' (e : J[i]? = some (x, y)) (e' : J[i + 1]? = some (x', y')) => JF_rises (n := n) (k := k) (f := 62 - t) (h := t + 1) (by rw [hJ]; exact e) (by rw [hJ]; exact e')
  rw [hm] at hto hl
  simp only [hm, hto, hfr, hl, hJ, hL, hG] at hjp hjr hsl hfew honce cn2 cs htile hf2 cn1 cj hjl
  have hft : fr ≤ to := by rw [← hfr, ← hto, ← hm]; exact hf1
  have H : Aside (Tabled w ∧ 0 < w.heap.size ∧ Tile n l m ∧ l.length = L ∧ L ≤ 124 ∧ J.length = G ∧ G ≤ 62 ∧ fr ≤ to ∧ to ≤ 1200 ∧ to - fr = T ∧ NODES n = fr ∧ NODES m = to ∧ n ≤ 300 ∧ m ≤ 600 ∧ G ≤ L + PC n) := ⟨hT, h0, htile, hL, hsl, hG, by omega, hft, hf2, hTT, hfr, hto, hn, by omega, hfew⟩
  have HJ : Aside ((∀ i x y, J[i]? = some (x, y) → Node x y ∧ fr ≤ PLC x y ∧ PLC x y < to) ∧ (∀ i x y x' y', J[i]? = some (x, y) → J[i + 1]? = some (x', y') → PLC x y < PLC x' y') ∧ (∀ q, fr ≤ q → q < to → CS l q + CJ J q = 1)) := ⟨hjp, hjr, honce⟩
  have g1 : ¬ (n : Int) < 0 := by omega
  have g2 : ¬ (300 : Int) < (n : Int) := by omega
  have g3 : ¬ (k : Int) < 0 := by omega
  have g4 : ¬ (300 : Int) < (k : Int) := by omega
  have v1 : IntKind.u64.wrap (n : Int) = (n : Int) := by rw [wrapU]; omega
  have v2 : IntKind.u64.wrap (m : Int) = (m : Int) := by rw [wrapU]; omega
  have v3 : IntKind.u64.wrap (k : Int) = (k : Int) := by rw [wrapU]; omega
  have v4 : IntKind.u64.wrap ((to : Int) - (fr : Int)) = (T : Int) := by rw [wrapU]; omega
  have v5 : (n : Int) + (k : Int) = (m : Int) := by omega
  have v6 : wrap64 (m : Int) = (m : Int) := by unfold wrap64; omega
  have hmk := make_made T (by omega)
  clear hT h0 htile hL hsl hG hft hf2 hTT hfr hto hn hk hfew hjp hjr honce hf1 hm hl hJ hbm hLt hjl
  go_enter Tryd.func7, Tryd.ntmps7
  go_wp2_with fail
  refine (cn1 _).mono ?_
  rintro e w' ⟨rfl, rfl⟩
  go_wp2_with fail
  refine (cn2 _).mono ?_
  rintro e w' ⟨rfl, rfl⟩
  go_wp2_with fail
  have hE : Below w.heap.size w (w.alloc (.cells (MA T fun _ => 0) 3)) := (Below.refl _ _).alloc (Nat.le_refl _) _
  refine (cs _ (H.out.1.below H.out.2.1 hE) (Nat.lt_of_lt_of_le H.out.2.1 hE.size)).mono ?_
  rintro e w2 ⟨v, rfl, hown, hb⟩
  obtain ⟨la, lc, rfl, hLl⟩ := lie_own H.out.2.2.2.1 hown
  have I0 : Aside (WI w T (w.heap.size + 1) (.slice la L lc) L l w2 (fun _ => 0)) := ⟨(Has.new w _ _).keep hb, by simpa using hown, Nat.lt_succ_self _, hE.trans (hb.mono hE.size)⟩
  clear hown hLl hb hE cs cn1 cn2 hmk
  go_wp2
  go_loopg [11] L (fun gg s11 wx => ∃ i : Nat, s11 = .int .i64 (i : Int) ∧ Aside (i + gg = L ∧ ∃ f, WI w T (w.heap.size + 1) (.slice la L lc) L l wx f ∧ ∀ x, f x = CS (l.take i) (fr + x)))
  case atStart => exact ⟨0, rfl, by omega, _, I0.out, fun x => rfl⟩
  case round =>
    obtain ⟨i, rfl, A⟩ := hrel
    obtain ⟨r1, f, r2, r3⟩ := A.out
    cases gk with
    | zero =>
      obtain rfl : i = L := by omega
      have hlt : ¬ (i : Int) < (i : Int) := by omega
      rw [List.take_of_length_le (by have := H.out.2.2.2.1; omega)] at r3
      have hbw := r2.bel
      have I1 : Aside (WI w T (w.heap.size + 1) (.slice la i lc) i l wr f ∧ ∀ x, f x = CS l (fr + x)) := ⟨r2, r3⟩
      have cj := cj wr (H.out.1.below H.out.2.1 hbw) (Nat.lt_of_lt_of_le H.out.2.1 hbw.size)
      clear r1 r2 r3 A hbw I0
      go_wp2_with fail
      refine cj.mono ?_
      rintro e w5 ⟨v5', rfl, hown5, hb5⟩
      clear cj
      obtain ⟨ja, jc, rfl, hLj⟩ := lie_own H.out.2.2.2.2.2.1 hown5
      have I2 : Aside (WI w T (w.heap.size + 1) (.slice ja G jc) G J w5 f ∧ ∀ x, f x = CS l (fr + x)) := ⟨⟨I1.out.1.row.keep hb5, own_mono hown5 I1.out.1.row.lt, Nat.lt_succ_self _, I1.out.1.bel.trans (hb5.mono I1.out.1.bel.size)⟩, I1.out.2⟩
      clear hown5 hb5 hLj I1
      go_wp2
      go_loopg [17, 18] G (fun gg s17 s18 wx => ∃ j last : Nat, s18 = .int .i64 (j : Int) ∧ s17 = .int .u64 (last : Int) ∧ Aside (j + gg = G ∧ (∀ j', j = j' + 1 → ∃ x y, J[j']? = some (x, y) ∧ last = PLC x y) ∧ ∃ f', WI w T (w.heap.size + 1) (.slice ja G jc) G J wx f' ∧ ∀ x, f' x = CS l (fr + x) + CJ (J.take j) (fr + x)))
      case atStart => exact ⟨0, 0, rfl, rfl, by omega, fun j' e => by omega, f, I2.out.1, fun x => by rw [I2.out.2]; rfl⟩
      case round =>
        obtain ⟨j, last, rfl, rfl, B⟩ := hrel
        obtain ⟨b1, b2, f', b3, b4⟩ := B.out
        cases gk with
        | zero =>
          obtain rfl : j = G := by omega
          have hlt : ¬ (j : Int) < (j : Int) := by omega
          rw [List.take_of_length_le (by have := H.out.2.2.2.2.2.1; omega)] at b4
          have I3 : Aside (WI w T (w.heap.size + 1) (.slice ja j jc) j J wr f' ∧ ∀ x, x < T → f' x = 1) := by
            refine ⟨b3, fun x hx => ?_⟩
            have hTT := H.out.2.2.2.2.2.2.2.2.2.1
            rw [b4]
            exact HJ.out.2.2 (fr + x) (by omega) (by omega)
          clear b1 b2 b3 b4 B I2
          go_wp2
          go_loopg [21] T (fun gg s21 wx => ∃ z : Nat, s21 = .int .i64 (z : Int) ∧ wx = wr ∧ z + gg = T)
          case atStart => exact ⟨0, rfl, rfl, by omega⟩
          case round =>
            obtain ⟨z, rfl, rfl, hz⟩ := hrel
            cases gk with
            | zero =>
              obtain rfl : z = T := by omega
              have hlt : ¬ (z : Int) < (z : Int) := by omega
              have hbw := I3.out.1.bel
              have cp := cp wr (H.out.1.below H.out.2.1 hbw) (Nat.lt_of_lt_of_le H.out.2.1 hbw.size)
              obtain ⟨P, hP⟩ : ∃ P, PC n = P := ⟨_, rfl⟩
              have hPle : P ≤ 300 := by rw [← hP]; exact Nat.le_trans (PC_le n) H.out.2.2.2.2.2.2.2.2.2.2.2.2.1
              have hfew : j ≤ i + P := by rw [← hP]; exact H.out.2.2.2.2.2.2.2.2.2.2.2.2.2.2
              have hi124 := H.out.2.2.2.2.1
              rw [hP] at cp
              have hle1 : (j : Int) ≤ (i : Int) + (P : Int) := by omega
              obtain ⟨S, hS⟩ : ∃ S, i + P = S := ⟨_, rfl⟩
              have hs1 : (i : Int) + (P : Int) = (S : Int) := by omega
              have hs2 : (j : Int) ≤ (S : Int) := by omega
              have hs3 : j ≤ S := by omega
              have hs4 : wrap64 (S : Int) = (S : Int) := wrap_near (S : Int) (by omega) (by omega)
              clear hPle hfew hi124 hP hz hle1 hS
              go_wp2_with fail
              refine cp.mono ?_
              rintro e w6 ⟨g6, c6, rfl, _, hb6⟩
              have hb6' := hbw.trans (hb6.mono hbw.size)
              clear cp
              go_wp2_with fail
              refine (cutawake_ok w6 (H.out.1.below H.out.2.1 hb6') (Nat.lt_of_lt_of_le H.out.2.1 hb6'.size)).mono ?_
              rintro e w7 ⟨rfl, hb7⟩
              go_wp2
              go_ret
              exact ⟨rfl, hb6'.trans (hb7.mono hb6'.size)⟩
            | succ gz =>
              have hlt : (z : Int) < (T : Int) := by omega
              have hzT : z < T := by omega
              have d4 : wr.cell? ⟨w.heap.size, z, none⟩ = some (.int .i64 1) := by
                have := (I3.out.1.row.cell z).trans (MA_get f' hzT)
                rw [I3.out.2 z hzT] at this
                exact this
              have HI : Aside (z + 1 + gz = T ∧ wrap64 ((z : Int) + 1) = ((z + 1 : Nat) : Int)) := ⟨by omega, wrap_succ z (by have := H.out.2.2.2.2.2.2.2.2.1; have := H.out.2.2.2.2.2.2.2.2.2.1; omega)⟩
              clear hz hzT
              go_wp2
              go_roundg gz
              case measure => exact Nat.lt_succ_self _
              case rel => exact ⟨z + 1, by first | rfl | rw [HI.out.2], rfl, HI.out.1⟩
        | succ gg =>
          have hlt : (j : Int) < (G : Int) := by omega
          have hGl := H.out.2.2.2.2.2.1
          obtain ⟨ad', cap', e, hLl⟩ := lie_own hGl b3.own
          cases e
          obtain ⟨g, o, rfl, hg, hc⟩ := hLl (by omega)
          obtain ⟨h, y, eh⟩ := at_lt (l := J) (i := j) (by omega)
          obtain ⟨x0, x1⟩ := hc j h y eh
          obtain ⟨tk1, tk2⟩ := take_at eh
          obtain ⟨hN, hp1, hp2⟩ := HJ.out.1 j h y eh
          have hpl := fun w => place_ok h y hN w
          have hlast : ∀ j', j = j' + 1 → last < PLC h y := fun j' e => by
            obtain ⟨x', y', e1, e2⟩ := b2 j' e
            rw [e2]
            exact HJ.out.2.1 j' x' y' h y e1 (by rw [← e]; exact eh)
          obtain ⟨p, hp⟩ : ∃ p, PLC h y = p := ⟨_, rfl⟩
          rw [hp] at hpl hp1 hp2 hlast
          have hT1 := H.out.2.2.2.2.2.2.2.2.1
          have hTT := H.out.2.2.2.2.2.2.2.2.2.1
          have m1 : ¬ p < fr := by omega
          have m2 : ¬ to ≤ p := by omega
          have m1' : ¬ (p : Int) < (fr : Int) := by omega
          have m2' : ¬ (to : Int) ≤ (p : Int) := by omega
          obtain ⟨x, hx⟩ : ∃ x, p - fr = x := ⟨_, rfl⟩
          have hxT : x < T := by omega
          have d1 : IntKind.u64.wrap ((p : Int) - (fr : Int)) = (x : Int) := by rw [wrapU]; omega
          have d2 : (0 : Int) ≤ (x : Int) := Int.natCast_nonneg x
          have d3 : (x : Int) < (T : Int) := Int.ofNat_lt.2 hxT
          have hz0 : (0 : Int) ≤ (j : Int) := Int.natCast_nonneg j
          have d6 : f' x ≤ 200 := by
            rw [b4]
            have h1 := CS_le l (fr + x)
            have h2 := CJ_le (J.take j) (fr + x)
            rw [List.length_take] at h2
            have h3 := H.out.2.2.2.1
            have h4 := H.out.2.2.2.2.1
            have h5 := H.out.2.2.2.2.2.2.1
            omega
          obtain ⟨c0, hc0⟩ : ∃ c0, f' x = c0 := ⟨_, rfl⟩
          obtain ⟨c1, hc1⟩ : ∃ c1, c0 + 1 = c1 := ⟨_, rfl⟩
          have hcase : (j = 0) ∨ (¬ j = 0 ∧ ¬ p ≤ last ∧ (0 : Int) < (j : Int) ∧ ¬ (p : Int) ≤ (last : Int)) := by
            by_cases h : j = 0
            · exact .inl h
            · have := hlast (j - 1) (by omega)
              exact .inr ⟨h, by omega, by omega, by omega⟩
          have D8 : Aside (wrap64 ((c0 : Int) + 1) = (c1 : Int)) := by rw [← hc1]; exact wrap_succ c0 (by omega)
          have HI : Aside (wrap64 ((j : Int) + 1) = ((j + 1 : Nat) : Int)) := wrap_succ j (by have := H.out.2.2.2.2.2.2.1; omega)
          have R : Aside (j + 1 + gg = G ∧ WI w T (w.heap.size + 1) (.slice (some ⟨g, o, none⟩) G jc) G J wr f' ∧ (∀ x, f' x = CS l (fr + x) + CJ (J.take j) (fr + x)) ∧ J.take (j + 1) = J.take j ++ [(h, y)] ∧ PLC h y = p ∧ fr + x = p ∧ x < T ∧ f' x = c0 ∧ c0 + 1 = c1 ∧ J[j]? = some (h, y)) := ⟨by omega, b3, b4, tk2, hp, by omega, hxT, hc0, hc1, eh⟩
          clear b1 b2 b3 b4 B hGl hLl hc eh tk1 tk2 hN hp1 hp2 hp hlast hT1 hTT hx hxT d6 hc0 hc1 I2
          rcases hcase with rfl | ⟨k0, k1, k2, k3⟩
          all_goals
            try simp only [Nat.zero_mul, Nat.add_zero] at x0 x1
            go_wp2_with fail
            refine (hpl _).mono ?_
            rintro e w6 ⟨rfl, hb6⟩
            have I6 : Aside (WI w T (w.heap.size + 1) (.slice (some ⟨g, o, none⟩) G jc) G J w6 f') := R.out.2.1.below hb6
            have d4 : w6.cell? ⟨w.heap.size, x, none⟩ = some (.int .i64 (c0 : Int)) := by
              have := (I6.out.row.cell x).trans (MA_get f' R.out.2.2.2.2.2.2.1)
              rw [R.out.2.2.2.2.2.2.2.1] at this
              exact this
            have d5 := I6.out.row.frozen x
            have d8 := D8.out
            clear hpl x0 x1 hb6
            go_wp2
            go_roundg gg
            case measure => exact Nat.lt_succ_self _
            case rel =>
              obtain ⟨r1, r2, r3, r4, r5, r6, r7, r8, r9, r10⟩ := R.out
              have hbm := I6.out.bump x
              rw [r8, r9] at hbm
              refine ⟨_, p, by first | rfl | rw [HI.out], rfl, r1, fun j' e => ?_, _, hbm, fun z => ?_⟩
              · obtain rfl : j' = _ := (Nat.succ.inj e).symm
                exact ⟨h, y, r10, r5.symm⟩
              · rw [r4, CJ_snoc]
                show (if z = x then f' z + 1 else f' z) = _ + (_ + if PLC h y = fr + z then 1 else 0)
                by_cases hz : z = x
                · rw [if_pos hz, if_pos (by rw [hz, r5, r6]), r3]
                  omega
                · rw [if_neg hz, if_neg (by rw [r5]; omega), r3]
                  omega
    | succ gg =>
      have hlt : (i : Int) < (L : Int) := by omega
      obtain ⟨c1, c2, c3, c4, c5, c6, c7, c8, c9, c10, c11, c12, c13, c14, c15⟩ := H.out
      obtain ⟨ad', cap', e, hLl⟩ := lie_own c4 r2.own
      cases e
      obtain ⟨g, o, rfl, hg, hc⟩ := hLl (by omega)
      obtain ⟨h, y, eh⟩ := at_lt (l := l) (i := i) (by omega)
      obtain ⟨x0, x1⟩ := hc i h y eh
      have hN := c3.node eh
      obtain ⟨tk1, tk2⟩ := take_at eh
      have hpl := fun w => place_ok h y hN w
      have htl := c3
      rw [tk1] at htl
      obtain ⟨cc, tt1, _, tt2, tt3⟩ := htl.split
      dsimp only at tt2
      have hb1 := tt1.bound.1
      have hb2 : (y + 1) * 2 ^ h ≤ m := tt3.bound.1
      have hpu := PLC_under hb2
      have hq0 := NODES_le (show n ≤ y * 2 ^ h by omega)
      have hpe : PLC h y = NODES (y * 2 ^ h) + (2 ^ (h + 1) - 2) := rfl
      have hp2 := two_le h
      have hsh := shift_eq 2 h hN.1 (by rw [← pow_up]; exact Nat.pow_lt_pow_right (by decide) (by have := hN.1; omega))
      rw [← pow_up] at hsh
      rw [c12] at hpu
      rw [c11] at hq0
      obtain ⟨p, hp⟩ : ∃ p, PLC h y = p := ⟨_, rfl⟩
      obtain ⟨q0, hq⟩ : ∃ q0, NODES (y * 2 ^ h) = q0 := ⟨_, rfl⟩
      obtain ⟨u1, hu1⟩ : ∃ u1, 2 ^ (h + 1) = u1 := ⟨_, rfl⟩
      rw [hp] at hpu hpe hpl
      rw [hq] at hq0 hpe
      rw [hu1] at hpe hp2 hsh
      obtain ⟨un, hun⟩ : ∃ un, u1 - 1 = un := ⟨_, rfl⟩
      obtain ⟨p1, hp1⟩ : ∃ p1, p + 1 = p1 := ⟨_, rfl⟩
      have w1' : IntKind.u64.wrap ((u1 : Int) - 1) = (un : Int) := by rw [wrapU]; omega
      have w2' : IntKind.u64.wrap ((p : Int) + 1) = (p1 : Int) := by rw [wrapU]; omega
      have w3' : IntKind.u64.wrap ((p1 : Int) - (un : Int)) = (q0 : Int) := by rw [wrapU]; omega
      have hsh' : IntKind.u64.wrap (2 * 2 ^ min h 64) = (u1 : Int) := hsh
      have hz0 : (0 : Int) ≤ (i : Int) := Int.natCast_nonneg i
      have hpt : ¬ to ≤ p := by omega
      have hpt' : ¬ (to : Int) ≤ (p : Int) := by omega
      have HW' : Aside (wrap64 ((i : Int) + 1) = ((i + 1 : Nat) : Int)) := wrap_succ i (by omega)
      have R : Aside (i + 1 + gg = L ∧ WI w T (w.heap.size + 1) (.slice (some ⟨g, o, none⟩) L lc) L l wr f ∧ (∀ x, f x = CS (l.take i) (fr + x)) ∧ l.take (i + 1) = l.take i ++ [(h, y)] ∧ PLC h y = p ∧ NODES (y * 2 ^ h) = q0 ∧ fr ≤ q0 ∧ q0 ≤ p ∧ p < to) := ⟨by omega, r2, r3, tk2, hp, hq, hq0, by omega, hpu⟩
      clear r1 r2 r3 A c1 c2 c3 c4 c5 c6 c7 c8 c9 c10 c11 c12 c13 c14 c15 hLl hc eh hN tk1 tk2 htl tt1 tt2 tt3 hb1 hb2 hpu hq0 hpe hp2 hsh hp hq hu1 hun hp1
      go_wp2_with fail
      refine (hpl _).mono ?_
      rintro e w4 ⟨rfl, hb4⟩
      have x0' : w4.cell? ⟨g, o + i * 2, none⟩ = some (.int .u8 (h : Int)) := (hb4.cell (p := ⟨g, o + i * 2, none⟩) hg).trans x0
      have I4 : Aside (WI w T (w.heap.size + 1) (.slice (some ⟨g, o, none⟩) L lc) L l w4 f) := R.out.2.1.below hb4
      clear hpl x0 x1 hb4
      go_wp2
      go_loopg [15] (p + 1 - q0) (fun gm s15 wx => ∃ q : Nat, s15 = .int .u64 (q : Int) ∧ Aside (q0 ≤ q ∧ q + gm = p + 1 ∧ ∃ f', WI w T (w.heap.size + 1) (.slice (some ⟨g, o, none⟩) L lc) L l wx f' ∧ ∀ x, f' x = CS (l.take i) (fr + x) + if q0 ≤ fr + x ∧ fr + x < q then 1 else 0))
      case atStart => exact ⟨q0, rfl, Nat.le_refl _, by have := R.out.2.2.2.2.2.2.2.1; omega, f, I4.out, fun x => by rw [R.out.2.2.1, if_neg (by omega)]; rfl⟩
      case round =>
        obtain ⟨q, rfl, B⟩ := hrel
        obtain ⟨b1, b2, f', b3, b4⟩ := B.out
        obtain ⟨r1, r2, r3, r4, r5, r6, r7, r8, r9⟩ := R.out
        cases gk with
        | zero =>
          have hle : ¬ q ≤ p := by omega
          have hle' : ¬ (q : Int) ≤ (p : Int) := by omega
          have V : Aside (WI w T (w.heap.size + 1) (.slice (some ⟨g, o, none⟩) L lc) L l wr f' ∧ ∀ x, f' x = CS (l.take (i + 1)) (fr + x)) := by
            refine ⟨b3, fun x => ?_⟩
            rw [b4, r4, CS_snoc]
            congr 1
            have hU : UND (h, y) (fr + x) ↔ (q0 ≤ fr + x ∧ fr + x ≤ p) := by
              rw [← r5, ← r6]
            by_cases hx : q0 ≤ fr + x ∧ fr + x < q
            · rw [if_pos hx, if_pos (hU.2 ⟨hx.1, by omega⟩)]
            · rw [if_neg hx, if_neg (fun c => hx ⟨(hU.1 c).1, by have := (hU.1 c).2; omega⟩)]
          clear b1 b2 b3 b4 B r1 r2 r3 r4 r5 r6 r7 r8 r9 x0'
          go_wp2
          go_roundg gg
          case measure => exact Nat.lt_succ_self _
          case rel => exact ⟨i + 1, by first | rfl | rw [HW'.out], R.out.1, f', V.out.1, V.out.2⟩
        | succ gm =>
          have hle : q ≤ p := by omega
          have hle' : (q : Int) ≤ (p : Int) := by omega
          have hfq : ¬ q < fr := by omega
          have hfq' : ¬ (q : Int) < (fr : Int) := by omega
          have hq18 : q < 2 ^ 60 := by have := H.out.2.2.2.2.2.2.2.2.1; omega
          obtain ⟨x, hx⟩ : ∃ x, q - fr = x := ⟨_, rfl⟩
          have hxT : x < T := by have := H.out.2.2.2.2.2.2.2.2.2.1; omega
          have d1 : IntKind.u64.wrap ((q : Int) - (fr : Int)) = (x : Int) := by rw [wrapU]; omega
          have d2 : (0 : Int) ≤ (x : Int) := Int.natCast_nonneg x
          have d3 : (x : Int) < (T : Int) := Int.ofNat_lt.2 hxT
          have d4 : wr.cell? ⟨w.heap.size, x, none⟩ = some (.int .i64 ((f' x : Nat) : Int)) := (b3.row.cell x).trans (MA_get f' hxT)
          have d5 := b3.row.frozen x
          have d6 : f' x ≤ 200 := by
            rw [b4]
            have := CS_le (l.take i) (fr + x)
            rw [List.length_take] at this
            have h2 := H.out.2.2.2.1
            have h3 := H.out.2.2.2.2.1
            split <;> omega
          obtain ⟨q1, hq1⟩ : ∃ q1, q + 1 = q1 := ⟨_, rfl⟩
          have d7 : IntKind.u64.wrap ((q : Int) + 1) = (q1 : Int) := by rw [wrapU]; omega
          obtain ⟨c0, hc0⟩ : ∃ c0, f' x = c0 := ⟨_, rfl⟩
          obtain ⟨c1, hc1⟩ : ∃ c1, c0 + 1 = c1 := ⟨_, rfl⟩
          have hbm := b3.bump x
          rw [hc0, hc1] at hbm
          rw [hc0] at d4
          have V : Aside (q0 ≤ q1 ∧ q1 + gm = p + 1 ∧ WI w T (w.heap.size + 1) (.slice (some ⟨g, o, none⟩) L lc) L l (wr.setCell ⟨w.heap.size, x, none⟩ (.int .i64 (c1 : Int))) (BUMP f' x) ∧ ∀ z, BUMP f' x z = CS (l.take i) (fr + z) + if q0 ≤ fr + z ∧ fr + z < q1 then 1 else 0) := by
            refine ⟨by omega, by omega, hbm, fun z => ?_⟩
            unfold BUMP
            by_cases hz : z = x
            · subst hz
              rw [if_pos rfl, b4, if_neg (by omega), if_pos ⟨by omega, by omega⟩]
            · rw [if_neg hz, b4]
              by_cases hz2 : q0 ≤ fr + z ∧ fr + z < q
              · rw [if_pos hz2, if_pos ⟨hz2.1, by omega⟩]
              · rw [if_neg hz2, if_neg (fun c => hz2 ⟨c.1, by omega⟩)]
          have d8 : wrap64 ((c0 : Int) + 1) = (c1 : Int) := by rw [← hc1]; exact wrap_succ c0 (by omega)
          clear b1 b2 b3 b4 B r1 r2 r3 r4 r5 r6 r7 r8 r9 x0' hx hxT d6 hq18 hq1 hc0 hc1 hbm
          go_wp2
          go_roundg gm
          case measure => exact Nat.lt_succ_self _
          case rel => exact ⟨q1, rfl, V.out.1, V.out.2.1, _, V.out.2.2.1, V.out.2.2.2⟩
set_option maxRecDepth 100000 in
theorem made_low (a b : Int) (h : a < 0) (w : World) : Calls Tryd.prog 7 #[.int .i64 a, .int .i64 b] w fun e w' => e = .returned (.bool true) ∧ Below w.heap.size w w' := by
  go_enter Tryd.func7, Tryd.ntmps7
  go_wp2
  go_ret
  exact ⟨rfl, Below.refl _ _⟩
set_option maxRecDepth 100000 in
theorem made_high (a b : Int) (h0 : ¬ a < 0) (h : 300 < a) (w : World) : Calls Tryd.prog 7 #[.int .i64 a, .int .i64 b] w fun e w' => e = .returned (.bool true) ∧ Below w.heap.size w w' := by
  go_enter Tryd.func7, Tryd.ntmps7
  go_wp2
  go_ret
  exact ⟨rfl, Below.refl _ _⟩
set_option maxRecDepth 100000 in
theorem made_low2 (a b : Int) (h0 : ¬ a < 0) (h1 : ¬ 300 < a) (h : b < 0) (w : World) : Calls Tryd.prog 7 #[.int .i64 a, .int .i64 b] w fun e w' => e = .returned (.bool true) ∧ Below w.heap.size w w' := by
  go_enter Tryd.func7, Tryd.ntmps7
  go_wp2
  go_ret
  exact ⟨rfl, Below.refl _ _⟩
set_option maxRecDepth 100000 in
theorem made_high2 (a b : Int) (h0 : ¬ a < 0) (h1 : ¬ 300 < a) (h2 : ¬ b < 0) (h : 300 < b) (w : World) : Calls Tryd.prog 7 #[.int .i64 a, .int .i64 b] w fun e w' => e = .returned (.bool true) ∧ Below w.heap.size w w' := by
  go_enter Tryd.func7, Tryd.ntmps7
  go_wp2
  go_ret
  exact ⟨rfl, Below.refl _ _⟩
theorem cutMade_walk (a0 a1 : Int) (w0 : (Lit.int .i64 a0).wf = true) (w1 : (Lit.int .i64 a1).wf = true) (w : World) (hT : Tabled w) (h0 : 0 < w.heap.size) :
    Calls Tryd.prog 7 #[.int .i64 a0, .int .i64 a1] w fun e w' => e = .returned (.bool true) ∧ Below w.heap.size w w' := by
  by_cases h1 : a0 < 0
  · exact made_low a0 a1 h1 w
  · by_cases h2 : 300 < a0
    · exact made_high a0 a1 h1 h2 w
    · by_cases h3 : a1 < 0
      · exact made_low2 a0 a1 h1 h2 h3 w
      · by_cases h4 : 300 < a1
        · exact made_high2 a0 a1 h1 h2 h3 h4 w
        · obtain ⟨n, rfl⟩ : ∃ X : Nat, a0 = (X : Int) := ⟨a0.toNat, by omega⟩
          obtain ⟨k, rfl⟩ : ∃ X : Nat, a1 = (X : Int) := ⟨a1.toNat, by omega⟩
          exact made_ok n k (by omega) (by omega) w hT h0
end Go.Proofs.YtjlflmideajdjaaDoor
