/- What the law's own functions answer: same, row, marked; a list of spots is appended to another one. -/
import Derived.Test.YthogidnbjdmaaaaDoorCutMerge
import Derived.Deep.QuietTactic
import Derived.BigQuiet
import Derived.Laws.AppendOwnNone
namespace Go.Proofs.YthogidnbjdmaaaaDoor
open Go.RowKit

set_option maxHeartbeats 1000000 in
theorem same_ok (a b : Option Addr) (n ca cb : Nat) (l : List (Nat × Nat)) (hl : l.length = n) (hn : n < 2 ^ 40) (w : World) (hA : Lie w a l) (hB : Lie w b l) :
    Calls Tryd.prog 9 #[.slice a n ca, .slice b n cb] w fun e w' => e = .returned (.bool true) ∧ Below w.heap.size w w' := by
  rcases Nat.eq_zero_or_pos n with h | h
  · subst h
    clear hA hB hl
    go_enter Tryd.func9, Tryd.ntmps9
    go_wp2
    refine wp_loop_rounds 1 ?_
    rw [rounds_succ]
    go_wp2
    go_ret
    exact ⟨rfl, Below.refl _ _⟩
  · obtain ⟨ga, oa, rfl, la, hca⟩ := hA (by omega)
    obtain ⟨gb, ob, rfl, lb, hcb⟩ := hB (by omega)
    have HC : Aside ((∀ (j h k : Nat), l[j]? = some (h, k) → w.cell? ⟨ga, oa + j * 2, none⟩ = some (.int .u8 (h : Int)) ∧ w.cell? ⟨ga, oa + j * 2 + 1, none⟩ = some (.int .u64 (k : Int))) ∧ (∀ (j h k : Nat), l[j]? = some (h, k) → w.cell? ⟨gb, ob + j * 2, none⟩ = some (.int .u8 (h : Int)) ∧ w.cell? ⟨gb, ob + j * 2 + 1, none⟩ = some (.int .u64 (k : Int))) ∧ ga < w.heap.size ∧ gb < w.heap.size ∧ l.length = n ∧ n < 2 ^ 40) := ⟨hca, hcb, la, lb, hl, hn⟩
    clear hA hB hca hcb la lb hl hn
    go_enter Tryd.func9, Tryd.ntmps9
    go_wp2
    go_loopg [5] n (fun g s5 wx => ∃ k : Nat, k + g = n ∧ s5 = .int .i64 k ∧ Aside (Below w.heap.size w wx))
    case atStart => exact ⟨0, by omega, rfl, Below.refl _ _⟩
    case round =>
      obtain ⟨i, hkg, rfl, A⟩ := hrel
      cases gk with
      | zero =>
        obtain rfl : i = n := by omega
        go_wp2
        go_ret
        exact ⟨rfl, A.out⟩
      | succ g =>
        have hlt : (i : Int) < (n : Int) := by omega
        obtain ⟨c1, c2, c3, c4, c5, c6⟩ := HC.out
        obtain ⟨x, y, eh⟩ := at_lt (l := l) (i := i) (by omega)
        have h1 : wr.cell? ⟨ga, oa + i * 2, none⟩ = some (.int .u8 (x : Int)) := (A.out.cell (by exact c3)).trans (c1 i x y eh).1
        have h2 : wr.cell? ⟨ga, oa + i * 2 + 1, none⟩ = some (.int .u64 (y : Int)) := (A.out.cell (by exact c3)).trans (c1 i x y eh).2
        have h3 : wr.cell? ⟨gb, ob + i * 2, none⟩ = some (.int .u8 (x : Int)) := (A.out.cell (by exact c4)).trans (c2 i x y eh).1
        have h4 : wr.cell? ⟨gb, ob + i * 2 + 1, none⟩ = some (.int .u64 (y : Int)) := (A.out.cell (by exact c4)).trans (c2 i x y eh).2
        have hi1 : wrap64 ((i : Int) + 1) = ((i + 1 : Nat) : Int) := by unfold wrap64; omega
        clear c1 c2 c3 c4 c5 c6 eh
        go_wp2
        go_quiet (fail)
        go_wp2
        go_roundg g
        case measure => omega
        case rel => exact ⟨i + 1, by omega, by first | rfl | (rw [hi1]), below_drewN A.out _⟩
theorem SCELLS_append (l m : List (Nat × Nat)) : SCELLS (l ++ m) = SCELLS l ++ SCELLS m := by simp [SCELLS]
theorem SCELLS_length (l : List (Nat × Nat)) : (SCELLS l).length = l.length * 2 := by
  induction l with
  | nil => rfl
  | cons y st ih => simp only [SCELLS, List.flatMap_cons, List.length_append, List.length_cons, List.length_nil] at ih ⊢; omega
theorem SCELLS_one (l : List (Nat × Nat)) : ∀ u ∈ SCELLS l, u.oneCell' = true := by
  intro u hu
  obtain ⟨x, _, hx⟩ := List.mem_flatMap.1 hu
  simp at hx
  rcases hx with rfl | rfl <;> rfl
theorem addr_add (g o j : Nat) : (⟨g, o, none⟩ : Addr).add j = ⟨g, o + j, none⟩ := by
  by_cases h : j = 0 <;> simp [Addr.add, h]
theorem SCELLS_lie {w : World} {g o : Nat} {l : List (Nat × Nat)} (h : ∀ (j h k : Nat), l[j]? = some (h, k) → w.cell? ⟨g, o + j * 2, none⟩ = some (.int .u8 (h : Int)) ∧ w.cell? ⟨g, o + j * 2 + 1, none⟩ = some (.int .u64 (k : Int))) : ∀ j u, (SCELLS l)[j]? = some u → w.cell? ((⟨g, o, none⟩ : Addr).add j) = some u := by
  intro j u hu
  have hj : j < l.length * 2 := by
    have := (List.getElem?_eq_some_iff.1 hu).1
    rw [SCELLS_length] at this
    exact this
  obtain ⟨x, y, e⟩ := at_lt (l := l) (i := j / 2) (by omega)
  obtain ⟨h1, h2⟩ := SCELLS_at l (j / 2) x y e
  obtain ⟨h3, h4⟩ := h (j / 2) x y e
  rcases Nat.mod_two_eq_zero_or_one j with hm | hm
  · have ej : j / 2 * 2 = j := by omega
    rw [ej] at h1 h3
    rw [h1] at hu
    cases hu
    rw [addr_add]
    exact h3
  · have ej : j / 2 * 2 + 1 = j := by omega
    rw [ej] at h2
    rw [Nat.add_assoc, ej] at h4
    rw [h2] at hu
    cases hu
    rw [addr_add]
    exact h4
theorem grown_refl (w : World) (row : Option Nat) : w.grownBy w row := ⟨rfl, rfl, rfl, Nat.le_refl _, fun _ _ _ => rfl⟩
theorem app_spots {ops : Array Oper} {rest : List Oper} {o : Oper} {a : Act} {Q : Exit → Act → World → Prop} (w : World) (hgd : o.guard = none) (s x : Operand)
    (ho : o.op = .call { callee := .builtin .append, args := #[s, x], argTypes := #[23, 23] })
    (base : Nat) (v : Value) (n : Nat) (xs : List (Nat × Nat)) (hs : a.eval s = v) (hown : w.ownsRow base 28 2 v n (SCELLS xs))
    (ad : Option Addr) (m c : Nat) (l : List (Nat × Nat)) (hl : l.length = m) (hx : a.eval x = .slice ad m c) (hL : Lie w ad l) (hc : ad = none → c = 0)
    (hb : n + m ≤ 100000) (hbase : base ≤ w.heap.size)
    (hh : ∀ a' c' w', w'.ownsRow base 28 2 (.slice a' (n + m) c') (n + m) (SCELLS (xs ++ l)) → w.grownBy w' v.ownBlock → wpList Tryd.prog ops Q rest (a.put o.dst (.slice a' (n + m) c')) w') : wpList Tryd.prog ops Q (o :: rest) a w := by
  obtain ⟨i, hi, hz, hs1, hby⟩ := info_parts info_spot
  cases ad with
  | none =>
    obtain rfl := hc rfl
    have hl0 : l = [] := by
      rcases Nat.eq_zero_or_pos l.length with h | h
      · exact List.length_eq_zero_iff.1 h
      · obtain ⟨_, _, e, _⟩ := hL h
        cases e
    subst hl0
    obtain rfl : m = 0 := by simpa using hl.symm
    refine wpList_append_own_none hgd s x 23 ho base 28 i 2 Tryd.underlying23 hi v n (SCELLS xs) hs hown hx ?_
    obtain ⟨a', c', rfl, _, _⟩ := own_shape hown
    have := hh a' c' w (by simpa using hown) (grown_refl _ _)
    simpa using this
  | some ad =>
    have hcells : ∀ j u, (SCELLS l)[j]? = some u → w.cell? (ad.add j) = some u := by
      intro j u hu
      have h0 : 0 < l.length := by
        have := (List.getElem?_eq_some_iff.1 hu).1
        rw [SCELLS_length] at this
        omega
      obtain ⟨g, o', e, _, hc'⟩ := hL h0
      cases e
      exact SCELLS_lie hc' j u hu
    refine wpList_append_own w hgd s x 23 ho base 28 i _ 2 16 Tryd.underlying23 hi hz hs1 hby rfl (by decide) v n (SCELLS xs) hs hown ad m c (SCELLS l) hx (by rw [SCELLS_length, hl]) hcells (SCELLS_one l) (by simp only [maxLen]; omega) (by omega) hbase ?_
    intro v' w' h1 h2 _
    rw [← SCELLS_append] at h1
    obtain ⟨a', c', rfl, _, _⟩ := own_shape h1
    exact hh a' c' w' h1 h2
theorem own_lit0 (w : World) (base : Nat) (hb : base ≤ w.heap.size) : (w.alloc (.cells #[] 28)).ownsRow base 28 2 (.slice (some ⟨w.heap.size, 0, none⟩) 0 0) 0 (SCELLS []) :=
  World.ownsRow_lit w #[] 0 hb (by simp [maxLen]) rfl
theorem slice_front (a : Option Addr) (r c k : Nat) (hk : k ≤ c) (w : World) : (Instr.slice 23 (.slice a r c) none (some (.int .i64 (k : Int))) none).run Tryd.prog w = .ok (.slice a k c) w := by
  obtain ⟨i8, hi, h8⟩ := Option.map_eq_some_iff.1 info_spot
  simp only [Prod.mk.injEq] at h8
  have he : Tryd.prog.elem 23 = 28 := by kernel_rfl
  have hu : Tryd.prog.underlying 23 = some (.slice (Tryd.prog.elem 23)) := by kernel_rfl
  rw [run_slice_h (P := Tryd.prog) w 23 a r c hu .i64 (k : Int) (by omega) (by omega), he]
  cases a <;> simp [sizeOf, typeInfo, hi, h8.2.1, sliced, Addr.add]
theorem row_ok (a : Option Addr) (n c : Nat) (l : List (Nat × Nat)) (hl : l.length = n) (w : World) (hA : Lie w a l) (hc : a = none → c = 0) (hn : n ≤ 1000) : Calls Tryd.prog 11 #[.slice a n c] w fun e w' =>
    ∃ g c', e = .returned (.slice (some ⟨g, 0, none⟩) n c') ∧ n + 1 ≤ c' ∧ w'.ownsRow w.heap.size 28 2 (.slice (some ⟨g, 0, none⟩) (n + 1) c') (n + 1) (SCELLS (l ++ [(171, 0)])) ∧ Below w.heap.size w w' := by
  have H : Aside (Lie w a l ∧ (a = none → c = 0) ∧ n ≤ 1000 ∧ l.length = n) := ⟨hA, hc, hn, hl⟩
  clear hA hc hn hl
  have HE1 : Aside (Lie (w.alloc (.cells #[] 28)) a l) := H.out.1.below ((Below.refl _ _).alloc (Nat.le_refl _) _)
  have HE2 : Aside (∀ w4, (w.alloc (.cells #[] 28)).grownBy w4 (some w.heap.size) → Below w.heap.size w w4) := fun w4 h => ((Below.refl _ _).alloc (Nat.le_refl _) _).grown h (by simp) (fun k e => by cases e; exact Nat.le_refl _)
  go_enter Tryd.func11, Tryd.ntmps11
  go_wp2_with (first | (at_builtin; refine app_spots _ rfl (.tmp 3) (.tmp 4) rfl w.heap.size _ 0 [] rfl (own_lit0 w _ (Nat.le_refl _)) a n c l H.out.2.2.2 rfl HE1.out H.out.2.1 (by have := H.out.2.2.1; omega) (by simp) ?_; rw [Nat.zero_add, List.nil_append]; intro a4 c4 w4 hown4 hgrow4) | (at_builtin; refine app_spot _ rfl (.tmp 5) (.tmp 7) rfl w.heap.size (.slice a4 n c4) n l rfl (hown4.alloc _) w4.heap.size 1 171 0 rfl ((Has.at _ _ _ (by simp)).cell 0) ((Has.at _ _ _ (by simp)).cell 1) (by have := H.out.2.2.1; omega) (by have := (HE2.out _ hgrow4).size; simp; omega) ?_; intro g5 cap5 w5 hown5 hgrow5 hg5; have hcap5 := own_shape hown5; have hsl := slice_front (some ⟨g5, 0, none⟩) (n + 1) cap5 n (by obtain ⟨ad, cp, e, h, _⟩ := hcap5; cases e; omega)))
  have hb4 := HE2.out _ hgrow4
  have hb5 : Below w.heap.size w w5 := below_grown hb4 hgrow5 hown4
  obtain ⟨ad, cp, e, h, _⟩ := hcap5
  cases e
  go_ret
  exact ⟨g5, cap5, rfl, h, hown5, hb5⟩
theorem marked_ok (g n c : Nat) (l : List (Nat × Nat)) (hl : l.length = n) (hn : n ≤ 1000) (hc : n + 1 ≤ c) (base : Nat) (w : World) (h : w.ownsRow base 28 2 (.slice (some ⟨g, 0, none⟩) (n + 1) c) (n + 1) (SCELLS (l ++ [(171, 0)]))) : Calls Tryd.prog 16 #[.slice (some ⟨g, 0, none⟩) n c] w fun e w' => e = .returned (.bool true) ∧ Below w.heap.size w w' := by
  have hat := SCELLS_at (l ++ [(171, 0)]) n 171 0 (by rw [← hl]; simp)
  have h0 := (h.cellAt (n * 2) (by omega)).trans hat.1
  have h1 := (h.cellAt (n * 2 + 1) (by omega)).trans hat.2
  have hw : wrap64 ((n : Int) + 1) = ((n + 1 : Nat) : Int) := by unfold wrap64; omega
  have hsl := slice_front (some ⟨g, 0, none⟩) n c (n + 1) hc w
  have hb0 : (0 : Int) ≤ (n : Int) := Int.natCast_nonneg n
  have hb1 : (n : Int) < (n : Int) + 1 := Int.lt_succ (n : Int)
  clear h hat hl
  go_enter Tryd.func16, Tryd.ntmps16
  go_wp2
  go_ret
  exact ⟨rfl, Below.refl _ _⟩
end Go.Proofs.YthogidnbjdmaaaaDoor
