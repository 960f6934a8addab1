/- Texts of ManyBytes, one behind the other: ManyRefUnder, ManyRefSpots. -/
import Derived.Laws.AppendOwnNone
import Derived.Test.YtmpaifkjlhodpaaDoorManyBytesP6
import Derived.Test.YtmpaifkjlhodpaaDoorManyBytesP7
import Derived.Test.YtmpaifkjlhodpaaDoorManyBytesP11
import Derived.Test.YtmpaifkjlhodpaaDoorManyBytesP14
import Derived.Test.YtmpaifkjlhodpaaDoorManyBytesP22
/- massifref10.under: the indices that stand under a spot. -/
namespace Go.Proofs.YtmpaifkjlhodpaaDoor
open Go.RowKit
set_option maxRecDepth 100000

theorem UND_snoc {h k j x : Nat} {L : List Nat} (e : L[j]? = some x) : UND h k (L.take (j + 1)) = UND h k (L.take j) ++ (if x / 2 ^ h = k then [x] else []) := by
  unfold UND
  rw [List.take_add_one, e, List.filter_append]
  congr 1
  by_cases hx : x / 2 ^ h = k <;> simp [hx]
set_option maxHeartbeats 2000000 in
theorem refund_ok (h k : Nat) (hh : h < 64) (L : List Nat) (a : Option Addr) (n c : Nat) (hl : L.length = n) (hn : n < 2 ^ 20) (hx : ∀ x ∈ L, x < 2 ^ 64) (w : World) (hL : NUML w a L) :
    Calls Tryd.prog 43 #[SPOT h k, .slice a n c] w fun e w' => ∃ a' c', e = .returned (.slice a' (UND h k L).length c') ∧ w'.ownsRow w.heap.size 23 1 (.slice a' (UND h k L).length c') (UND h k L).length (UCELLS (UND h k L)) ∧ Below w.heap.size w w' := by
  have cp := power_ok h hh
  have hm : wrap64 (h : Int) = (h : Int) := by unfold wrap64; omega
  obtain ⟨w1, e1⟩ : ∃ w1, w.alloc (.cells #[.int .u8 (h : Int), .int .u64 (k : Int)] 49) = w1 := ⟨_, rfl⟩
  have hB : Has w1 w.heap.size #[.int .u8 (h : Int), .int .u64 (k : Int)] 49 := by rw [← e1]; exact Has.new w _ _
  have hb1 : Below w.heap.size w w1 := by rw [← e1]; exact (Below.refl _ _).alloc (Nat.le_refl _) _
  have c0 := hB.cell 0
  obtain ⟨z, hz⟩ : ∃ z : Int, ((2 ^ h : Nat) : Int) = z := ⟨_, rfl⟩
  have hz1 : ¬ z = 0 := by have := Nat.two_pow_pos h; rw [← hz]; generalize 2 ^ h = y at *; omega
  have hz0 : (z == 0) = false := by simpa using hz1
  rw [hz] at cp
  have HA : Aside (L.length = n ∧ n < 2 ^ 20 ∧ (∀ x ∈ L, x < 2 ^ 64) ∧ NUML w a L ∧ Has w1 w.heap.size #[.int .u8 (h : Int), .int .u64 (k : Int)] 49 ∧ Below w.heap.size w w1 ∧ ((2 ^ h : Nat) : Int) = z) := ⟨hl, hn, hx, hL, hB, hb1, hz⟩
  clear hh hl hn hx hL hB hb1 hz
  go_enter Tryd.func43, Tryd.ntmps43
  go_wp2_with fail
  refine (cp _).mono ?_
  rintro e w' ⟨rfl, rfl⟩
  clear cp c0 hm
  go_wp2_with fail
  clear e1
  go_loopg [6, 7] n (fun q s6 s7 wx => ∃ (j : Nat) (v : Value), v = s6 ∧ s7 = .int .i64 (j : Int) ∧ Aside (j + q = n ∧ wx.ownsRow w1.heap.size 23 1 v (UND h k (L.take j)).length (UCELLS (UND h k (L.take j))) ∧ Below w1.heap.size w1 wx))
  case atStart => exact ⟨0, _, rfl, rfl, by omega, ⟨rfl, .inl ⟨rfl, rfl⟩⟩, Below.refl _ _⟩
  case round =>
    obtain ⟨j, v, rfl, rfl, A⟩ := hrel
    obtain ⟨av, cv, rfl⟩ := own_sliced A.out.2.1
    cases gk with
    | zero =>
      obtain rfl : j = n := by have := A.out.1; omega
      have hlt : ¬ (j : Int) < (j : Int) := by omega
      have FN : Aside (wr.ownsRow w.heap.size 23 1 (.slice av (UND h k L).length cv) (UND h k L).length (UCELLS (UND h k L)) ∧ Below w.heap.size w wr ∧ UND h k (L.take j) = UND h k L) := by
        obtain ⟨_, h2, h3⟩ := A.out
        have e : L.take j = L := List.take_of_length_le (by have := HA.out.1; omega)
        rw [e] at h2
        have hb := HA.out.2.2.2.2.2.1
        exact ⟨own_mono h2 hb.size, hb.trans (h3.mono hb.size), by rw [e]⟩
      clear A HA
      rw [FN.out.2.2]
      go_wp2_with fail
      go_ret
      exact ⟨_, _, rfl, FN.out.1, FN.out.2.1⟩
    | succ q =>
      have hjn : j < n := by have := A.out.1; omega
      have hlt : (j : Int) < (n : Int) := by omega
      obtain ⟨x, ex⟩ : ∃ x, L[j]? = some x := ⟨_, List.getElem?_eq_getElem (by have := HA.out.1; omega)⟩
      obtain ⟨b, o, rfl, hb, hcc⟩ := HA.out.2.2.2.1 (by have := HA.out.1; omega)
      have hb1 := HA.out.2.2.2.2.2.1
      have x0 : wr.cell? ⟨b, o + j, none⟩ = some (.int .u64 (x : Int)) := (A.out.2.2.cell (p := ⟨b, o + j, none⟩) (by have := hb1.size; show b < w1.heap.size; omega)).trans ((hb1.cell (p := ⟨b, o + j, none⟩) hb).trans (hcc j x ex))
      have x1 : wr.cell? ⟨w.heap.size, 1, none⟩ = some (.int .u64 (k : Int)) := (A.out.2.2.cell (p := ⟨w.heap.size, 1, none⟩) HA.out.2.2.2.2.1.lt).trans (HA.out.2.2.2.2.1.cell 1)
      have hx64 := HA.out.2.2.1 x (List.mem_of_getElem? ex)
      have hz := HA.out.2.2.2.2.2.2
      obtain ⟨t, ht⟩ : ∃ t : Int, ((x / 2 ^ h : Nat) : Int) = t := ⟨_, rfl⟩
      have ed : (x : Int) / z = t := by rw [← hz, ← ht]; exact (Int.natCast_ediv _ _).symm
      have ew : IntKind.u64.wrap t = t := by have := Nat.div_le_self x (2 ^ h); rw [← ht, wrapU]; generalize x / 2 ^ h = y at *; omega
      have ej : wrap64 ((j : Int) + 1) = ((j + 1 : Nat) : Int) := by have := HA.out.2.1; unfold wrap64; omega
      have hs := UND_snoc (h := h) (k := k) ex
      have hlen := und_length h k (L.take j)
      by_cases hxk : x / 2 ^ h = k
      · have hq : (t == (k : Int)) = true := by rw [← ht, hxk]; exact beq_self_eq_true _
        rw [if_pos hxk] at hs
        have R : Aside (j + 1 + q = n ∧ wr.ownsRow w1.heap.size 23 1 (.slice av (UND h k (L.take j)).length cv) (UND h k (L.take j)).length (UCELLS (UND h k (L.take j))) ∧ Below w1.heap.size w1 wr ∧ (UND h k (L.take j)).length ≤ 2 ^ 20 ∧ UND h k (L.take (j + 1)) = UND h k (L.take j) ++ [x]) := ⟨by have := A.out.1; clear ej ew; omega, A.out.2.1, A.out.2.2, by have := HA.out.2.1; rw [List.length_take] at hlen; clear ej ew; omega, hs⟩
        generalize UND h k (L.take j) = U at *
        generalize hU2 : UND h k (L.take (j + 1)) = U2 at *
        have HU2 : Aside (UND h k (L.take (j + 1)) = U2) := hU2
        generalize hu : U.length = u at *
        clear A hs hlen hcc hb hb1 hx64 hjn ex hxk hz hU2 ht
        go_wp2_with fail
        go_quiet (fail)
        have R1 : Aside (j + 1 + q = n ∧ (wr.drewN nq).ownsRow w1.heap.size 23 1 (.slice av u cv) u (UCELLS U) ∧ Below w1.heap.size w1 (wr.drewN nq) ∧ u ≤ 2 ^ 20 ∧ U2 = U ++ [x]) := ⟨R.out.1, R.out.2.1, below_drewN R.out.2.2.1 _, R.out.2.2.2⟩
        have y0 : (wr.drewN nq).cell? ⟨b, o + j, none⟩ = some (.int .u64 (x : Int)) := x0
        clear x0 x1 R
        generalize wr.drewN nq = w2 at *
        go_wp2_with (first
          | (at_builtin; refine app_num _ rfl (.tmp 27) (.tmp 32) rfl w1.heap.size (.slice av u cv) u U rfl (R1.out.2.1.alloc _) w2.heap.size 1 x rfl ((Has.new _ _ _).cell 0) (by have := R1.out.2.2.2.1; omega) (by have := R1.out.2.2.1.size; simp; omega) ?_; intro g3 c3 w3 hown hgrow hg
             have R2 : Aside (j + 1 + q = n ∧ w3.ownsRow w1.heap.size 23 1 (.slice (some ⟨g3, 0, none⟩) (u + 1) c3) (UND h k (L.take (j + 1))).length (UCELLS (UND h k (L.take (j + 1)))) ∧ Below w1.heap.size w1 w3) := by
               obtain ⟨r1, r2, r3, r4, r5⟩ := R1.out
               have e : (UND h k (L.take (j + 1))).length = u + 1 := by rw [HU2.out, r5, List.length_append, hu]; rfl
               refine ⟨r1, ?_, (r3.alloc r3.size _).grown hgrow (by have := r3.size; simp; omega) (fun k e => (r2.lt k e).1)⟩
               rw [e, HU2.out, r5]
               exact hown
             clear hown hgrow hg R1))
        go_roundg q
        case measure => exact Nat.lt_succ_self _
        case rel => exact ⟨j + 1, _, rfl, by first | rfl | (rw [ej]), R2.out⟩
      · have hq : (t == (k : Int)) = false := by rw [← ht]; generalize x / 2 ^ h = y at *; simp; omega
        rw [if_neg hxk, List.append_nil] at hs
        have R : Aside (j + 1 + q = n ∧ wr.ownsRow w1.heap.size 23 1 (.slice av (UND h k (L.take j)).length cv) (UND h k (L.take (j + 1))).length (UCELLS (UND h k (L.take (j + 1)))) ∧ Below w1.heap.size w1 wr) := ⟨by have := A.out.1; clear ej ew; omega, by rw [hs]; exact A.out.2.1, A.out.2.2⟩
        clear A hs hlen hcc hb hb1 hx64 hjn ex hxk hz ht
        go_wp2_with fail
        go_quiet (fail)
        have R1 : Aside (j + 1 + q = n ∧ (wr.drewN nq).ownsRow w1.heap.size 23 1 (.slice av (UND h k (L.take j)).length cv) (UND h k (L.take (j + 1))).length (UCELLS (UND h k (L.take (j + 1)))) ∧ Below w1.heap.size w1 (wr.drewN nq)) := ⟨R.out.1, R.out.2.1, below_drewN R.out.2.2 _⟩
        clear x0 x1 R
        generalize wr.drewN nq = w2 at *
        go_wp2_with fail
        go_roundg q
        case measure => exact Nat.lt_succ_self _
        case rel => exact ⟨j + 1, _, rfl, by first | rfl | (rw [ej]), R1.out⟩
end Go.Proofs.YtmpaifkjlhodpaaDoor

/- A list of spots is put behind another one. -/
namespace Go.Proofs.YtmpaifkjlhodpaaDoor
open Go.RowKit
set_option maxRecDepth 100000

theorem SCELLS_length (l : List (Nat × Nat)) : (SCELLS l).length = 2 * l.length := by
  unfold SCELLS
  induction l with
  | nil => rfl
  | cons x l ih => rw [List.flatMap_cons, List.length_append, ih]; simp; omega
theorem SCELLS_append (l k : List (Nat × Nat)) : SCELLS (l ++ k) = SCELLS l ++ SCELLS k := by unfold SCELLS; rw [List.flatMap_append]
theorem SCELLS_one (l : List (Nat × Nat)) : ∀ u ∈ SCELLS l, u.oneCell' = true := fun u hu => by
  unfold SCELLS at hu
  obtain ⟨x, _, hx⟩ := List.mem_flatMap.1 hu
  simp at hx
  rcases hx with rfl | rfl <;> rfl
theorem app_spotrow {ops : Array Oper} {rest : List Oper} {o : Oper} {a : Act} {Q : Exit → Act → World → Prop} (w : World) (hgd : o.guard = none) (s x : Operand)
    (ho : o.op = .call { callee := .builtin .append, args := #[s, x], argTypes := #[45, 45] })
    (base : Nat) (v : Value) (n : Nat) (xs : List (Nat × Nat)) (hs : a.eval s = v) (hown : w.ownsRow base 49 2 v n (SCELLS xs))
    (B : Nat) (ad : Option Addr) (m c : Nat) (l : List (Nat × Nat)) (hx : a.eval x = .slice ad m c) (hsrc : w.ownsRow B 49 2 (.slice ad m c) m (SCELLS l))
    (hb : n + m ≤ 2 ^ 26) (hbase : base ≤ w.heap.size)
    (hh : ∀ a' c' w', w'.ownsRow base 49 2 (.slice a' (n + m) c') (n + m) (SCELLS (xs ++ l)) → w.grownBy w' v.ownBlock → wpList Tryd.prog ops Q rest (a.put o.dst (.slice a' (n + m) c')) w') : wpList Tryd.prog ops Q (o :: rest) a w := by
  obtain ⟨i, hi, hz, hs1, hby⟩ := info_parts info_spot
  have hlm : (SCELLS l).length = m * 2 := hsrc.1
  cases ad with
  | none =>
    have h0 : m = 0 ∧ c = 0 := by
      rcases hsrc.2 with ⟨e, h0⟩ | ⟨_, _, _, e, _⟩
      · cases e; exact ⟨rfl, rfl⟩
      · cases e
    obtain ⟨rfl, rfl⟩ := h0
    have hl0 : l = [] := by
      cases l with
      | nil => rfl
      | cons y l => simp [SCELLS] at hlm
    subst hl0
    refine wpList_append_own_none hgd s x 45 ho base 49 i 2 Tryd.underlying45 hi v n (SCELLS xs) hs hown hx ?_
    obtain ⟨a', c', rfl⟩ := own_sliced hown
    have := hh a' c' w (by simpa using hown) ⟨rfl, rfl, rfl, Nat.le_refl _, fun _ _ _ => rfl⟩
    simpa using this
  | some ad =>
    obtain ⟨g, rfl⟩ : ∃ g, ad = ⟨g, 0, none⟩ := by
      rcases hsrc.2 with ⟨e, h0⟩ | ⟨g, _, _, e, _⟩
      · cases e
      · cases e; exact ⟨g, rfl⟩
    refine wpList_append_own w hgd s x 45 ho base 49 i _ 2 16 Tryd.underlying45 hi hz hs1 hby rfl (by decide) v n (SCELLS xs) hs hown ⟨g, 0, none⟩ m c (SCELLS l) hx hlm (fun j u hu => ?_) (SCELLS_one l) (by simp only [maxLen]; omega) (by omega) hbase ?_
    · have hj : j < m * 2 := by rw [← hlm]; exact (List.getElem?_eq_some_iff.1 hu).1
      rw [show (⟨g, 0, none⟩ : Addr).add j = ⟨g, j, none⟩ by unfold Addr.add; split <;> simp_all]
      exact (hsrc.cellAt j hj).trans hu
    · intro v' w' h1 h2 _
      obtain ⟨a', c', rfl⟩ := own_sliced h1
      rw [← SCELLS_append] at h1
      exact hh a' c' w' h1 h2
theorem own_nospot (w : World) : (w.alloc (.cells #[] 49)).ownsRow w.heap.size 49 2 (.slice (some ⟨w.heap.size, 0, none⟩) 0 0) 0 (SCELLS []) :=
  World.ownsRow_lit w #[] 0 (Nat.le_refl _) (by simp [maxLen]) rfl
theorem own_aspot (w : World) (h k : Nat) : (w.alloc (.cells #[.int .u8 (h : Int), .int .u64 (k : Int)] 49)).ownsRow w.heap.size 49 2 (.slice (some ⟨w.heap.size, 0, none⟩) 1 1) 1 (SCELLS [(h, k)]) :=
  World.ownsRow_lit w #[.int .u8 (h : Int), .int .u64 (k : Int)] 1 (Nat.le_refl _) (by simp [maxLen]) rfl
theorem own_hold {w w' : World} {B s n : Nat} {t : TypeId} {v : Value} {xs : List Value} (h : w.ownsRow B t s v n xs) (hk : ∀ k, v.ownBlock = some k → w'.heap[k]? = w.heap[k]?) : w'.ownsRow B t s v n xs := by
  refine ⟨h.1, ?_⟩
  rcases h.2 with h | ⟨g, cap, cur, rfl, hb, hg, r⟩
  · exact .inl h
  · exact .inr ⟨g, cap, cur, rfl, hb, by rw [hk g rfl]; exact hg, r⟩
end Go.Proofs.YtmpaifkjlhodpaaDoor
