/- What the document's Merge answers. -/
import Derived.Test.YthogidnbjdmaaaaDoorCutRefOver
import Derived.Test.YthogidnbjdmaaaaDoorCutLists
import Derived.Test.YthogidnbjdmaaaaDoorCutBreaksWalk
import Derived.Deep.RegionHeld3
import Derived.Deep.CutRange
namespace Go.Proofs.YthogidnbjdmaaaaDoor
open Go.RowKit

theorem Irr_of {L : List (Nat × Nat)} : (∀ j x y, L[j]? = some x → L[j + 1]? = some y → ¬ Sibs x y) → Irr L := by
  induction L with
  | nil => intro _; trivial
  | cons s L ih =>
    intro h
    refine ⟨fun y hy => h 0 s y (by simp) ?_, ih fun j x y hx hy => h (j + 1) x y (by simpa using hx) (by simpa using hy)⟩
    rw [List.head?_eq_getElem?] at hy
    simpa using hy
/-- two neighbours that are siblings become their parent. -/
theorem Tile.joined {L : List (Nat × Nat)} {i h k a b : Nat} (ht : Tile a L b) (e : L[i]? = some (h, k)) (e' : L[i + 1]? = some (h, k + 1)) (hk : k % 2 = 0) : h < 62 ∧ Tile a ((L.take i ++ [(h + 1, k / 2)]) ++ L.drop (i + 2)) b ∧ ((L.take i ++ [(h + 1, k / 2)]) ++ L.drop (i + 2)).length + 1 = L.length := by
  obtain ⟨h1, e1⟩ := List.getElem?_eq_some_iff.1 e
  obtain ⟨h2, e2⟩ := List.getElem?_eq_some_iff.1 e'
  have hL : L = (L.take i ++ [(h, k), (h, k + 1)]) ++ L.drop (i + 2) := by
    have d1 : L.drop i = (h, k) :: L.drop (i + 1) := by rw [← e1, List.getElem_cons_drop]
    have d2 : L.drop (i + 1) = (h, k + 1) :: L.drop (i + 2) := by rw [← e2, List.getElem_cons_drop]
    rw [List.append_assoc, List.cons_append, List.cons_append, List.nil_append, ← d2, ← d1, List.take_append_drop]
  rw [hL] at ht
  obtain ⟨c, t1, t2⟩ := ht.split
  obtain ⟨d, t3, t4⟩ := t1.split
  obtain ⟨p1, p2⟩ := Tile.pair t4 hk
  refine ⟨p1, (t3.append p2).append t2, ?_⟩
  simp only [List.length_append, List.length_take, List.length_drop, List.length_cons, List.length_nil]
  omega
theorem lie_one (w : World) (a b : Nat) : Lie (w.alloc (.cells #[.int .u8 (a : Int), .int .u64 (b : Int)] 28)) (some ⟨w.heap.size, 0, none⟩) [(a, b)] := fun _ => by
  refine ⟨w.heap.size, 0, rfl, by simp, fun j x y e => ?_⟩
  have hH := Has.new w #[.int .u8 (a : Int), .int .u64 (b : Int)] 28
  match j, e with
  | 0, e =>
    simp at e
    obtain ⟨rfl, rfl⟩ := e
    exact ⟨hH.cell 0, hH.cell 1⟩
  | j + 1, e => simp at e
theorem mg_u8 (h H : Nat) (e : h + 1 = H) (hh : h < 62) : IntKind.u8.wrap ((h : Int) + 1) = (H : Int) ∧ ((h : Int) + 1) % 256 = (H : Int) := by
  rw [wrap8]
  omega
theorem mg_half (k K : Nat) (e : k / 2 = K) (hk : k < 2 ^ 62) : (k : Int) / 2 = (K : Int) ∧ Int.tdiv (k : Int) 2 = (K : Int) ∧ IntKind.u64.wrap (K : Int) = (K : Int) := by
  rw [Int.tdiv_eq_ediv_of_nonneg (by omega), wrapU]
  omega
theorem mg_two (i I : Nat) (e : i + 2 = I) (h : I ≤ 1000) : wrap64 ((i : Int) + 2) = (I : Int) := by unfold wrap64; omega
theorem mg_even (k : Nat) (h : k % 2 = 0) : ((k : Int) % 2 == 0) = true ∧ (Int.tmod (k : Int) 2 == 0) = true := by
  rw [Int.tmod_eq_emod_of_nonneg (by omega)]
  simp
  omega
theorem mg_odd (k : Nat) (h : ¬ k % 2 = 0) : ((k : Int) % 2 == 0) = false ∧ (Int.tmod (k : Int) 2 == 0) = false := by
  rw [Int.tmod_eq_emod_of_nonneg (by omega)]
  simp
  omega
theorem mg_next (i I M : Nat) (e : i + 1 = I) (h : i < M) (hM : M ≤ 1000) : wrap64 ((i : Int) + 1) = (I : Int) := by unfold wrap64; omega
theorem mg_ne (a b : Nat) (h : ¬ a = b) : ((a : Int) == (b : Int)) = false := by simp; omega
theorem mg_wr (k : Nat) (h : k < 2 ^ 62) : IntKind.u64.wrap ((k : Int) + 1) = ((k + 1 : Nat) : Int) := by rw [wrapU]; omega
theorem refmerge_none (cap : Nat) (a : Option Addr) (w : World) : Calls Tryd.prog 14 #[.slice a 0 cap] w fun e w' => e = .returned (.tuple #[.slice none 0 0, .bool true]) ∧ w = w' := by
  go_enter Tryd.func14, Tryd.ntmps14
  go_wp2
  go_ret2
  exact ⟨rfl, rfl⟩
theorem refmerge_not (n cap : Nat) (a : Option Addr) (l : List (Nat × Nat)) (hl : l.length = n) (hn : 0 < n) (hn2 : n < 2 ^ 40) (w : World) (hL : Lie w a l) (h256 : ∀ x ∈ l, x.1 < 256) (hno : ¬ ∃ x y, l ≠ [] ∧ Tile x l y) : Calls Tryd.prog 14 #[.slice a n cap] w fun e w' => e = .returned (.tuple #[.slice none 0 0, .bool false]) ∧ Below w.heap.size w w' := by
  have co := refover_some n cap a l hl hn hn2 w hL h256
  have h0 : l ≠ [] := by intro e; rw [e] at hl; simp at hl; omega
  have HN : Aside (l ≠ [] ∧ ¬ ∃ x y, l ≠ [] ∧ Tile x l y) := ⟨h0, hno⟩
  have hn0 : ((n : Int) == 0) = false := by simp; omega
  clear hl hn2 hL hno h0 h256
  go_enter Tryd.func14, Tryd.ntmps14
  go_wp2_with fail
  refine co.mono ?_
  rintro e w1 ⟨h | ⟨_, rfl⟩, hb⟩
  · obtain ⟨x, y, ht, rfl⟩ := h
    exact absurd ⟨x, y, HN.out.1, ht⟩ HN.out.2
  · clear co
    go_wp2
    go_ret2
    exact ⟨rfl, hb⟩
set_option maxRecDepth 100000 in
set_option maxHeartbeats 2000000 in
theorem refmerge_ok (n cap : Nat) (a : Option Addr) (l : List (Nat × Nat)) (A B : Nat) (hl : l.length = n) (hn : 0 < n) (hn2 : n ≤ 1000) (w : World) (hL : Lie w a l) (hc : a = none → cap = 0) (h256 : ∀ x ∈ l, x.1 < 256) (hT : Tile A l B) : Calls Tryd.prog 14 #[.slice a n cap] w fun e w' =>
    ∃ v, e = .returned (.tuple #[v, .bool true]) ∧ w'.ownsRow w.heap.size 28 2 v (SPAN A B).length (SCELLS (SPAN A B)) ∧ Below w.heap.size w w' := by
  have co := refover_some n cap a l hl hn (by omega) w hL h256
  have h0 : l ≠ [] := by intro e; rw [e] at hl; simp at hl; omega
  have HA : Aside (l.length = n ∧ n ≤ 1000 ∧ Tile A l B ∧ Lie w a l ∧ (a = none → cap = 0) ∧ 0 < n) := ⟨hl, hn2, hT, hL, hc, hn⟩
  have HN : Aside (l ≠ []) := h0
  have hn0 : ((n : Int) == 0) = false := by simp; omega
  clear hl hn2 hL hT h0 hc h256 hn
  go_enter Tryd.func14, Tryd.ntmps14
  go_wp2_with fail
  refine co.mono ?_
  rintro e w1 ⟨h | ⟨hno, rfl⟩, hb⟩
  rotate_left
  · exact absurd ⟨A, B, HN.out, HA.out.2.2.1⟩ hno
  obtain ⟨x, y, ht, rfl⟩ := h
  have B1 : Aside (Below w.heap.size w w1 ∧ Lie (w1.alloc (.cells #[] 28)) a l ∧ w.heap.size ≤ w1.heap.size) := ⟨hb, (HA.out.2.2.2.1.below hb).below ((Below.refl _ _).alloc (Nat.le_refl _) _), hb.size⟩
  clear co hb ht HN
  go_wp2_with (first | (at_builtin; refine app_spots _ rfl (.tmp 24) (.tmp 25) rfl w.heap.size _ 0 [] rfl (own_lit0 w1 _ B1.out.2.2) a n cap l HA.out.1 rfl B1.out.2.1 HA.out.2.2.2.2.1 (by have := HA.out.2.1; omega) (by have := B1.out.2.2; simp; omega) ?_; rw [Nat.zero_add, List.nil_append]; intro a4 c4 w4 hown4 hgrow4))
  have S0 : Aside (w4.ownsRow w.heap.size 28 2 (.slice a4 n c4) n (SCELLS l) ∧ Below w.heap.size w w4) := ⟨hown4, (B1.out.1.alloc B1.out.2.2 _).grown hgrow4 (by have := B1.out.2.2; simp; omega) (fun k e => by cases e; exact B1.out.2.2)⟩
  clear hown4 hgrow4 B1
  go_loopg [7, 8] (n + 1) (fun gg s7 s8 wx => ∃ (L : List (Nat × Nat)) (b : Bool), s8 = .bool b ∧ Aside ((if b = true then gg = L.length + 1 else gg = 0 ∧ Irr L) ∧ 0 < L.length ∧ L.length ≤ 1000 ∧ Tile A L B ∧ wx.ownsRow w.heap.size 28 2 s7 L.length (SCELLS L) ∧ Below w.heap.size w wx))
  case atStart =>
    obtain ⟨h1, h2, h3, h4, h5, h6⟩ := HA.out
    exact ⟨l, true, rfl, by rw [if_pos rfl, h1], by omega, by omega, h3, by rw [h1]; exact S0.out.1, S0.out.2⟩
  case round =>
    clear S0 HA hn0
    obtain ⟨L, b, rfl, I⟩ := hrel
    cases b with
    | false =>
      obtain ⟨i1, i2, i3, i4, i5, i6⟩ := I.out
      rw [if_neg (by simp)] at i1
      have e := span_only i4 i1.2
      subst e
      have R : Aside (wr.ownsRow w.heap.size 28 2 u7 (SPAN A B).length (SCELLS (SPAN A B)) ∧ Below w.heap.size w wr) := ⟨i5, i6⟩
      clear i1 i2 i3 i4 i5 i6 I
      go_wp2
      go_ret2
      exact ⟨u7, rfl, R.out⟩
    | true =>
      obtain ⟨M, hM⟩ : ∃ M, L.length = M := ⟨_, rfl⟩
      obtain ⟨g, cp, rfl, hcp⟩ : ∃ g cp, u7 = .slice (some ⟨g, 0, none⟩) M cp ∧ M ≤ cp := by
        obtain ⟨i1, i2, i3, i4, i5, i6⟩ := I.out
        obtain ⟨ad, c, e, h1, h2⟩ := own_shape i5
        obtain ⟨g, rfl, _⟩ := h2 i2
        rw [hM] at e h1
        exact ⟨g, c, e, h1⟩
      have J : Aside (gk = M + 1 ∧ 0 < M ∧ M ≤ 1000 ∧ Tile A L B ∧ L.length = M ∧ M ≤ cp) := by
        obtain ⟨i1, i2, i3, i4, i5, i6⟩ := I.out
        rw [if_pos rfl] at i1
        exact ⟨by omega, by omega, by omega, i4, hM, hcp⟩
      have J2 : Aside (wr.ownsRow w.heap.size 28 2 (.slice (some ⟨g, 0, none⟩) M cp) M (SCELLS L) ∧ Below w.heap.size w wr) := by
        obtain ⟨i1, i2, i3, i4, i5, i6⟩ := I.out
        rw [hM] at i5
        exact ⟨i5, i6⟩
      clear I hM hcp
      generalize hwo : wr = wo at *
      clear hwo
      go_wp2
      go_loopg [7, 8, 9] (M - 1) (fun gg s7 s8 s9 wx => ∃ i : Nat, s9 = .int .i64 (i : Int) ∧ s8 = .bool false ∧ s7 = .slice (some ⟨g, 0, none⟩) M cp ∧ Aside (i + 1 + gg = M ∧ (∀ j x y, j < i → L[j]? = some x → L[j + 1]? = some y → ¬ Sibs x y) ∧ wx.ownsRow w.heap.size 28 2 (.slice (some ⟨g, 0, none⟩) M cp) M (SCELLS L) ∧ Below w.heap.size w wx))
      case atStart => exact ⟨0, rfl, rfl, rfl, by have := J.out.2.1; omega, fun j x y h => by omega, J2.out⟩
      case round =>
        clear J2
        obtain ⟨i, rfl, rfl, rfl, I⟩ := hrel
        obtain ⟨I1, hI⟩ : ∃ I1, i + 1 = I1 := ⟨_, rfl⟩
        have HI : Aside (i + 1 = I1) := hI
        have HI1 : Aside (wrap64 ((i : Int) + 1) = (I1 : Int)) := mg_next i I1 M hI (by have := I.out.1; omega) J.out.2.2.1
        cases gk with
        | zero =>
          obtain ⟨j1, j2, j3, j4, j5, j6⟩ := J.out
          obtain ⟨i1, i2, i3, i4⟩ := I.out
          have hlt : ¬ (I1 : Int) < (M : Int) := by omega
          have hlt2 : ¬ I1 < M := by omega
          have R : Aside (Irr L ∧ 0 < L.length ∧ L.length ≤ 1000 ∧ Tile A L B ∧ wr.ownsRow w.heap.size 28 2 (.slice (some ⟨g, 0, none⟩) M cp) L.length (SCELLS L) ∧ Below w.heap.size w wr) := by
            refine ⟨Irr_of fun j x y hx hy => i2 j x y ?_ hx hy, by omega, by omega, j4, by rw [j5]; exact i3, i4⟩
            have := (List.getElem?_eq_some_iff.1 hy).1
            omega
          clear i1 i2 i3 i4 j1 j2 j3 j4 j5 j6 I hI
          have hi1 := HI1.out
          go_wp2
          go_roundg 0
          case measure => have := J.out.1; omega
          case rel => exact ⟨L, false, rfl, by rw [if_neg (by simp)]; exact ⟨rfl, R.out.1⟩, R.out.2⟩
        | succ gg =>
          obtain ⟨j1, j2, j3, j4, j5, j6⟩ := J.out
          obtain ⟨i1, i2, i3, i4⟩ := I.out
          have hlt : (I1 : Int) < (M : Int) := by omega
          have hlt0 : (0 : Int) ≤ (I1 : Int) := by omega
          have hlt2 : I1 < M := by omega
          have hlt3 : (i : Int) < (M : Int) := by omega
          obtain ⟨h1, k1, eh1⟩ := at_lt (l := L) (i := i) (by omega)
          obtain ⟨h2, k2, eh2⟩ := at_lt (l := L) (i := I1) (by omega)
          have s1 := SCELLS_at L i h1 k1 eh1
          have s2 := SCELLS_at L I1 h2 k2 eh2
          have y0 := (i3.cellAt (i * 2) (by omega)).trans s1.1
          have y1 := (i3.cellAt (i * 2 + 1) (by omega)).trans s1.2
          have y2 := (i3.cellAt (I1 * 2) (by omega)).trans s2.1
          have y3 := (i3.cellAt (I1 * 2 + 1) (by omega)).trans s2.2
          have n1 := j4.node eh1
          have n2 := j4.node eh2
          have hgl : g < wr.heap.size := World.block_lt_of_cell? wr _ y0
          have HW2 : Aside (IntKind.i64.wrap ((i : Int) + 1) = (I1 : Int)) := (IntWalk.i64_left _).trans HI1.out
          have k62 : k1 < 2 ^ 62 := n1.index_lt
          have hk62 := n1.1
          have HKW : Aside (IntKind.u64.wrap ((k1 : Int) + 1) = ((k1 + 1 : Nat) : Int)) := mg_wr k1 k62
          have K62 : Aside (k1 < 2 ^ 62) := k62
          have R : Aside (i + 1 + (gg + 1) = M ∧ (∀ j x y, j < i → L[j]? = some x → L[j + 1]? = some y → ¬ Sibs x y) ∧ wr.ownsRow w.heap.size 28 2 (.slice (some ⟨g, 0, none⟩) M cp) M (SCELLS L) ∧ Below w.heap.size w wr ∧ L[i]? = some (h1, k1) ∧ L[I1]? = some (h2, k2)) := ⟨i1, i2, i3, i4, eh1, eh2⟩
          clear s1 s2 i1 i2 i3 i4 j1 j2 j3 j4 j5 j6 eh1 eh2 n1 n2 k62 I hk62 hI
          have hi1 := HI1.out
          have hw2 := HW2.out
          go_upto_region 13 with fail
          go_cut [10, 11] from 28 to 83 (fun s10 s11 W => ∃ pa pb, s10 = .pointer (some ⟨pa, 0, none⟩) ∧ s11 = .pointer (some ⟨pb, 0, none⟩) ∧ Aside (W.ownsRow w.heap.size 28 2 (.slice (some ⟨g, 0, none⟩) M cp) M (SCELLS L) ∧ Below w.heap.size w W ∧ Has W pa #[.int .u8 (h1 : Int), .int .u64 (k1 : Int)] 28 ∧ Has W pb #[.int .u8 (h2 : Int), .int .u64 (k2 : Int)] 28))
          case first =>
            go_region_held3 (fun W : World => W.cell? ⟨g, i * 2, none⟩ = some (.int .u8 (h1 : Int)) ∧ W.cell? ⟨g, i * 2 + 1, none⟩ = some (.int .u64 (k1 : Int)) ∧ W.cell? ⟨g, I1 * 2, none⟩ = some (.int .u8 (h2 : Int)) ∧ W.cell? ⟨g, I1 * 2 + 1, none⟩ = some (.int .u64 (k2 : Int))) (go_keep) (fail)
            all_goals go_wp2_with fail
            all_goals go_meet
            all_goals first
              | exact ⟨_, _, rfl, rfl, own_below R.out.2.2.1 (((Below.refl _ _).alloc (Nat.le_refl _) _).alloc (by simp) _).drew, R.out.2.2.2.1.trans ((((Below.refl _ _).alloc (Nat.le_refl _) _).alloc (by simp) _).drew.mono R.out.2.2.2.1.size), (Has.new wr _ _).alloc _, Has.at _ _ _ (by simp)⟩
              | exact ⟨_, _, rfl, rfl, own_below R.out.2.2.1 (((Below.refl _ _).alloc (Nat.le_refl _) _).alloc (by simp) _).drew, R.out.2.2.2.1.trans ((((Below.refl _ _).alloc (Nat.le_refl _) _).alloc (by simp) _).drew.mono R.out.2.2.2.1.size), Has.at _ _ _ (by simp), (Has.new wr _ _).alloc _⟩
          case rest =>
            obtain ⟨pa, pb, rfl, rfl, F⟩ := hcut
            clear hi1 hw2
            generalize wc = W at *
            have z0 : W.cell? ⟨pa, 0, none⟩ = some (.int .u8 (h1 : Int)) := F.out.2.2.1.cell 0
            have z1 : W.cell? ⟨pa, 1, none⟩ = some (.int .u64 (k1 : Int)) := F.out.2.2.1.cell 1
            have z2 : W.cell? ⟨pb, 0, none⟩ = some (.int .u8 (h2 : Int)) := F.out.2.2.2.cell 0
            have z3 : W.cell? ⟨pb, 1, none⟩ = some (.int .u64 (k2 : Int)) := F.out.2.2.2.cell 1
            have PA : Aside (Has W pa #[.int .u8 (h1 : Int), .int .u64 (k1 : Int)] 28) := F.out.2.2.1
            have FF : Aside (W.ownsRow w.heap.size 28 2 (.slice (some ⟨g, 0, none⟩) M cp) M (SCELLS L) ∧ Below w.heap.size w W) := ⟨F.out.1, F.out.2.1⟩
            clear F
            have END : Aside (¬ Sibs (h1, k1) (h2, k2) → I1 + 1 + gg = M ∧ (∀ j x y, j < I1 → L[j]? = some x → L[j + 1]? = some y → ¬ Sibs x y) ∧ W.ownsRow w.heap.size 28 2 (.slice (some ⟨g, 0, none⟩) M cp) M (SCELLS L) ∧ Below w.heap.size w W) := by
              intro hs
              obtain ⟨q1, q2, q3, q4, q5, q6⟩ := R.out
              have hI := HI.out
              refine ⟨by omega, fun j x y hj hx hy => ?_, FF.out⟩
              rcases Nat.lt_or_ge j i with h | h
              · exact q2 j x y h hx hy
              · obtain rfl : j = i := by omega
                rw [hI] at hy
                rw [q5] at hx
                rw [q6] at hy
                cases hx
                cases hy
                exact hs
            clear y0 y1 y2 y3 hgl
            by_cases c1 : h1 = h2
            rotate_left
            · have f1 : ((h1 : Int) == (h2 : Int)) = false := mg_ne h1 h2 c1
              have E := END.out (fun hs => c1 hs.1)
              clear c1 END
              have EE : Aside (I1 + 1 + gg = M ∧ (∀ j x y, j < I1 → L[j]? = some x → L[j + 1]? = some y → ¬ Sibs x y) ∧ W.ownsRow w.heap.size 28 2 (.slice (some ⟨g, 0, none⟩) M cp) M (SCELLS L) ∧ Below w.heap.size w W) := E
              clear E
              have hi1 := HI1.out
              go_wp2
              go_roundg gg
              case measure => omega
              case rel => exact ⟨I1, by first | rfl | (rw [hi1]), rfl, rfl, EE.out⟩
            by_cases c2 : k1 % 2 = 0
            rotate_left
            · have f1 : ((h1 : Int) == (h2 : Int)) = true := by rw [c1]; simp
              obtain ⟨f2, f3⟩ := mg_odd k1 c2
              have E := END.out (fun hs => c2 hs.2.1)
              clear c1 c2 END
              have EE : Aside (I1 + 1 + gg = M ∧ (∀ j x y, j < I1 → L[j]? = some x → L[j + 1]? = some y → ¬ Sibs x y) ∧ W.ownsRow w.heap.size 28 2 (.slice (some ⟨g, 0, none⟩) M cp) M (SCELLS L) ∧ Below w.heap.size w W) := E
              clear E
              have hi1 := HI1.out
              go_wp2
              go_roundg gg
              case measure => omega
              case rel => exact ⟨I1, by first | rfl | (rw [hi1]), rfl, rfl, EE.out⟩
            by_cases c3 : k2 = k1 + 1
            rotate_left
            · have f1 : ((h1 : Int) == (h2 : Int)) = true := by rw [c1]; simp
              obtain ⟨f2, f3⟩ := mg_even k1 c2
              have f4 : ((k2 : Int) == (k1 : Int) + 1) = false := mg_ne k2 (k1 + 1) c3
              have f5 : ((k2 : Int) == ((k1 + 1 : Nat) : Int)) = false := mg_ne k2 (k1 + 1) c3
              have hkw := HKW.out
              have E := END.out (fun hs => c3 hs.2.2)
              clear c1 c2 c3 END
              have EE : Aside (I1 + 1 + gg = M ∧ (∀ j x y, j < I1 → L[j]? = some x → L[j + 1]? = some y → ¬ Sibs x y) ∧ W.ownsRow w.heap.size 28 2 (.slice (some ⟨g, 0, none⟩) M cp) M (SCELLS L) ∧ Below w.heap.size w W) := E
              clear E
              have hi1 := HI1.out
              go_wp2
              go_roundg gg
              case measure => omega
              case rel => exact ⟨I1, by first | rfl | (rw [hi1]), rfl, rfl, EE.out⟩
            subst c1 c3
            obtain ⟨H1, hH1⟩ : ∃ H1, h1 + 1 = H1 := ⟨_, rfl⟩
            obtain ⟨K1, hK1⟩ : ∃ K1, k1 / 2 = K1 := ⟨_, rfl⟩
            obtain ⟨I2, hI2⟩ : ∃ I2, i + 2 = I2 := ⟨_, rfl⟩
            have V : Aside (h1 < 62 ∧ Tile A ((L.take i ++ [(H1, K1)]) ++ L.drop I2) B ∧ ((L.take i ++ [(H1, K1)]) ++ L.drop I2).length + 1 = M ∧ (L.take i).length = i ∧ (L.drop I2).length = M - I2 ∧ I2 ≤ M ∧ i ≤ M ∧ M ≤ cp ∧ M ≤ 1000 ∧ I2 = i + 2 ∧ L.length = M) := by
              obtain ⟨j1, j2, j3, j4, j5, j6⟩ := J.out
              obtain ⟨q1, q2, q3, q4, q5, q6⟩ := R.out
              have hI := HI.out
              rw [← hI] at q6
              obtain ⟨t1, t2, t3⟩ := j4.joined q5 q6 c2
              rw [hH1, hK1, hI2] at t2 t3
              exact ⟨t1, t2, by omega, by rw [List.length_take]; omega, by rw [List.length_drop]; omega, by omega, by omega, j6, j3, hI2.symm, j5⟩
            have F6 : Aside (IntKind.u8.wrap ((h1 : Int) + 1) = (H1 : Int) ∧ ((h1 : Int) + 1) % 256 = (H1 : Int)) := mg_u8 h1 H1 hH1 V.out.1
            have F10 : Aside (wrap64 ((i : Int) + 2) = (I2 : Int)) := mg_two i I2 hI2 (by have h6 := V.out.2.2.2.2.2.1; have h9 := V.out.2.2.2.2.2.2.2.2.1; omega)
            obtain ⟨f2, f3⟩ := mg_even k1 c2
            obtain ⟨f8, f9, f14⟩ := mg_half k1 K1 hK1 K62.out
            have f11 : (I2 : Int) ≤ (M : Int) := by have := V.out.2.2.2.2.2.1; omega
            have f12 : (0 : Int) ≤ (I2 : Int) := by omega
            have f13 : (i : Int) ≤ (cp : Int) := by have h7 := V.out.2.2.2.2.2.2.1; have h8 := V.out.2.2.2.2.2.2.2.1; omega
            have hsl := slice_front (some ⟨g, 0, none⟩) M cp i (by have h7 := V.out.2.2.2.2.2.2.1; have h8 := V.out.2.2.2.2.2.2.2.1; omega)
            have LW : Aside (∀ W', Below W.heap.size W W' → Below w.heap.size w W' ∧ Lie W' (some ⟨g, 0, none⟩) (L.take i) ∧ Lie W' (some ⟨g, I2 * 2, none⟩) (L.drop I2) ∧ (cp = I2 → ∀ ad, Lie W' ad (L.drop I2))) := by
              intro W' hb
              obtain ⟨ad, cc, e, hL⟩ := lie_own V.out.2.2.2.2.2.2.2.2.2.2 FF.out.1
              cases e
              refine ⟨FF.out.2.trans (hb.mono FF.out.2.size), (hL.take i).below hb, (hL.drop).below hb, fun e ad h => ?_⟩
              rw [V.out.2.2.2.2.1] at h
              have h6 := V.out.2.2.2.2.2.1
              have h8 := V.out.2.2.2.2.2.2.2.1
              omega
            have WB : Aside (w.heap.size ≤ W.heap.size ∧ Below W.heap.size W (W.alloc (.cells #[] 28))) := ⟨FF.out.2.size, (Below.refl _ _).alloc (Nat.le_refl _) _⟩
            have NE : Aside ((Value.slice (some ⟨W.heap.size, 0, none⟩) 0 0).ownBlock ≠ some pa) := by have hlp := PA.out.lt; intro e; simp [Value.ownBlock] at e; omega
            clear END hH1 hK1 hI2
            have hcpc : (I2 = cp) ∨ (¬ cp = I2 ∧ ¬ I2 = cp) := by
              by_cases h : I2 = cp
              · exact .inl h
              · exact .inr ⟨fun e => h e.symm, h⟩
            have hi1 := HI1.out
            have hkw := HKW.out
            obtain ⟨f6, f7⟩ := F6.out
            have f10 := F10.out
            have N1 : Aside (0 + i ≤ 100000 ∧ i + 1 ≤ 100000 ∧ i + 1 + (M - I2) ≤ 100000) := by have h7 := V.out.2.2.2.2.2.2.1; have h9 := V.out.2.2.2.2.2.2.2.2.1; unfold Aside; clear hi1 hkw f6 f7 f10 f14; omega
            rcases hcpc with rfl | ⟨hc1, hc2⟩
            all_goals go_wp2_with (first
              | (at_builtin; refine app_spots _ rfl (.tmp 63) (.tmp 66) rfl W.heap.size (.slice (some ⟨W.heap.size, 0, none⟩) 0 0) 0 [] rfl (own_lit_at _ _ _ rfl (Nat.le_refl _)) (some ⟨g, 0, none⟩) i _ (L.take i) V.out.2.2.2.1 rfl (LW.out _ WB.out.2).2.1 (by simp) N1.out.1 (by simp) ?_; rw [Nat.zero_add, List.nil_append]; intro a9 c9 w9 hown9 hgrow9; have hH9 := (PA.out.alloc _).grew hgrow9 NE.out; have y2 : w9.cell? ⟨pa, 0, none⟩ = some (.int .u8 (h1 : Int)) := hH9.cell 0; have y3 : w9.cell? ⟨pa, 1, none⟩ = some (.int .u64 (k1 : Int)) := hH9.cell 1; have hb9 : Below W.heap.size W w9 := WB.out.2.grown hgrow9 WB.out.2.size (fun k e => by cases e; exact Nat.le_refl _); have O9 : Aside (Below W.heap.size W w9 ∧ w9.ownsRow W.heap.size 28 2 (.slice a9 i c9) i (SCELLS (L.take i))) := ⟨hb9, hown9⟩; clear hown9 hgrow9 hb9 hH9)
              | (at_builtin; refine app_spots _ rfl (.tmp 68) (.tmp 76) rfl W.heap.size _ i (L.take i) rfl (O9.out.2.alloc _) (some ⟨w9.heap.size, 0, none⟩) 1 1 [(H1, K1)] rfl rfl (lie_one w9 H1 K1) (by simp) N1.out.2.1 (Nat.le_trans O9.out.1.size (by simp)) ?_; intro a10 c10 w10 hown10 hgrow10; have hb10 : Below W.heap.size W w10 := (O9.out.1.alloc O9.out.1.size _).grown hgrow10 (Nat.le_trans O9.out.1.size (by simp)) (fun k e => (O9.out.2.lt k e).1); have O10 : Aside (Below W.heap.size W w10 ∧ w10.ownsRow W.heap.size 28 2 (.slice a10 (i + 1) c10) (i + 1) (SCELLS (L.take i ++ [(H1, K1)]))) := ⟨hb10, hown10⟩; clear hown10 hgrow10 hb10 y2 y3 O9)
              | (at_builtin; refine app_spots _ rfl (.tmp 78) (.tmp 82) rfl W.heap.size _ (i + 1) (L.take i ++ [(H1, K1)]) rfl O10.out.2 _ (M - I2) _ (L.drop I2) V.out.2.2.2.2.1 rfl (by first | exact (LW.out _ O10.out.1).2.2.1 | exact (LW.out _ O10.out.1).2.2.2 rfl _) (by simp) N1.out.2.2 O10.out.1.size ?_; intro a11 c11 w11 hown11 hgrow11))
            all_goals
              go_roundg M
              case measure => have := J.out.1; omega
              case rel =>
                have hb11 : Below W.heap.size W w11 := O10.out.1.grown hgrow11 O10.out.1.size (fun k e => (O10.out.2.lt k e).1)
                clear hi1 hkw f6 f7 f10 f14
                obtain ⟨v1, v2, v3, v4, v5, v6, v7, v8, v9, v10, v11⟩ := V.out
                have hl11 : ((L.take i ++ [(H1, K1)]) ++ L.drop I2).length = i + 1 + (M - I2) := by omega
                refine ⟨(L.take i ++ [(H1, K1)]) ++ L.drop I2, true, rfl, ?_⟩
                unfold Aside
                refine ⟨by rw [if_pos rfl]; omega, by omega, by omega, v2, ?_, (LW.out _ hb11).1⟩
                rw [hl11]
                exact own_mono hown11 WB.out.1
end Go.Proofs.YthogidnbjdmaaaaDoor
