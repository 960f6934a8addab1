/- Texts of CarryRound, one behind the other: PosPeaksCall, PosPath, PosSpotRow, PosTops, PosRefPeaks, PosRefPeak, PosHas, PosRefPath, PosAwake, PosFour, CutCalls, CutHas, CutSpan, CutOver. -/
import Derived.RangeFuncNested
import Derived.Deep.AppendLies
import Derived.Test.YtannhflmnegpbaaDoorProg
import Derived.WalkKit
import Derived.WalkLawsBesides
import Derived.Deep.WholeRow
import Derived.Deep.LoopGhost
import Derived.Laws.ResultCell
import Derived.Laws.Rows
import Derived.Laws.Tables
import Derived.Deep.QuietTactic
import Derived.BigQuiet
import Derived.Test.YtannhflmnegpbaaDoorCarryRoundP4
import Derived.Test.YtannhflmnegpbaaDoorCarryRoundP5
/- What Peaks answers: the places of the peaks, in a list of its own. -/
namespace Go.Proofs.YtannhflmnegpbaaDoor
open Go.RowKit Go.Shelf

attribute [local go_sem] Oper.semAt_some

/-- numbers as cells. -/
def UCELLS (l : List Nat) : List Value := l.map fun (x : Nat) => Value.int .u64 (x : Int)
theorem UCELLS_snoc (l : List Nat) (x : Nat) : UCELLS (l ++ [x]) = UCELLS l ++ [.int .u64 (x : Int)] := by simp [UCELLS]
theorem info_u64 : (Tryd.prog.info? 22).map (fun i => (i.zero, i.size, i.bytes)) = some (some (.int .u64 0), 1, 8) := by kernel_rfl
theorem make_u64 (n : Nat) (hn : n ≤ 64) (w : World) : ∃ cur : Array Value, cur.size = n ∧ (Instr.makeSlice 83 (.int .i64 0) (.int .i64 (n : Int))).run Tryd.prog w = .ok (.slice (some ⟨w.heap.size, 0, none⟩) 0 n) (w.alloc (.cells cur 22)) := by
  obtain ⟨i, hi, hz, hs1, hby⟩ := info_parts info_u64
  have h := run_make (P := Tryd.prog) w 83 22 i (.int .u64 0) Tryd.underlying83 hi hz .i64 .i64 0 n (by omega) (by omega) (by rw [hby]; omega) (by omega)
  refine ⟨_, ?_, h⟩
  rw [size_madeCells, hs1]
  omega
/-- the heights that have come. -/
def HTS (pre : List (Nat × Fin 64)) : List Nat := pre.map fun x => x.2.val
theorem HTS_snoc (pre : List (Nat × Fin 64)) (x : Nat × Fin 64) : HTS (pre ++ [x]) = HTS pre ++ [x.2.val] := by simp [HTS]
theorem ST_length (l : List Nat) : (ST l).2.length = l.length := by
  have key : ∀ (l : List Nat) (s : Nat × List Nat), (l.foldl (fun s h => ((s.1 + TREE h) % 2 ^ 64, s.2 ++ [((s.1 + TREE h) % 2 ^ 64 + (2 ^ 64 - 1)) % 2 ^ 64])) s).2.length = s.2.length + l.length := by
    intro l
    induction l with
    | nil => intro s; simp
    | cons h l ih =>
      intro s
      rw [List.foldl_cons, ih]
      simp
      omega
  have := key l (0, [])
  simpa [ST] using this
theorem ST_lt (l : List Nat) : (ST l).1 < 2 ^ 64 := by
  rcases List.eq_nil_or_concat l with rfl | ⟨i, x, rfl⟩
  · simp [ST]
  · rw [List.concat_eq_append, ST_snoc]
    exact Nat.mod_lt _ (by decide)
theorem HTS_back (X : Nat) (f : Nat → Fin 64) (hf : ∀ j, j < POP X → (f j).val = PLACE X j) : HTS (UPTO (BACK (POP X) f) (POP X)) = (PLACES X).reverse := by
  apply List.ext_getElem?
  intro j
  by_cases hj : j < POP X
  · rw [List.getElem?_reverse (by rw [PLACES_length]; exact hj), PLACES_length, PLACE_at (by omega), ← hf _ (by omega)]
    simp [HTS, UPTO, BACK, hj]
  · rw [List.getElem?_eq_none (by simp [HTS, UPTO]; omega), List.getElem?_eq_none (by rw [List.length_reverse, PLACES_length]; omega)]

theorem own_mono {w : World} {base base' : Nat} {t : TypeId} {s : Nat} {v : Value} {n : Nat} {xs : List Value} (h : w.ownsRow base t s v n xs) (hb : base' ≤ base) : w.ownsRow base' t s v n xs :=
  ⟨h.1, h.2.imp id fun ⟨g, c, cur, a, b, r⟩ => ⟨g, c, cur, a, Nat.le_trans hb b, r⟩⟩
set_option maxRecDepth 100000 in
set_option maxHeartbeats 2000000 in
theorem peaks_ok (X : Nat) (hX : X ≤ 4611686018427387904) (w : World) (hT : Tabled w) (h0 : 0 < w.heap.size) : Calls Tryd.prog 59 #[.int .u64 (X : Int)] w fun e w' =>
    ∃ g cap, e = .returned (.slice (some ⟨g, 0, none⟩) (PC X) cap) ∧ w'.ownsRow w.heap.size 22 1 (.slice (some ⟨g, 0, none⟩) (PC X) cap) (PC X) (UCELLS (PEAKS X)) ∧ Below w.heap.size w w' := by
  obtain ⟨i0, hi, hz0, hz1, hz2⟩ := info_parts info_u64
  have cb := bits_ok X (by omega) w hT h0
  have hle := POP_le X
  obtain ⟨f, hf⟩ : ∃ f : Nat → Fin 64, ∀ j, j < POP X → (f j).val = PLACE X j := ⟨fun j => if h : j < POP X then ⟨PLACE X j, by have := PLACE_le h; omega⟩ else 0, fun j hj => by simp [hj]⟩
  have hba := HTS_back X f hf
  have hplc := fun (w' : World) (base g n cap : Nat) (h : w'.ownsRow base 3 1 (.slice (some ⟨g, 0, none⟩) n cap) n (ICELLS (PLACES X))) => places_at h
  have hpc : POP X = PC X := POP_PC (by omega)
  generalize POP X = p at *
  obtain ⟨L, hL⟩ : ∃ L, ICELLS (PLACES X) = L := ⟨_, rfl⟩
  simp only [hL] at hplc cb
  have HA : Aside (HTS (UPTO (BACK p f) p) = (PLACES X).reverse ∧ p = PC X ∧ X ≤ 4611686018427387904) := ⟨hba, hpc, hX⟩
  clear hba hpc hX hL hT h0
  have hd : ¬ (4611686018427387904 : Int) < (X : Int) := by have := HA.out.2.2; omega
  refine (callsIn_wide (n := 5)).1 ?_
  refine callsIn_of_wp_marks Tryd.func59 rfl trivial ?_ rfl
  simp only [Tryd.ntmps59, List.size_toArray, List.length_cons, List.length_nil, Nat.reduceAdd, Nat.reduceSub, Array.replicate_succ, Array.replicate_zero, List.push_toArray, List.append_toArray, List.nil_append, List.cons_append]
  gi_wp2_with fail
  refine ⟨trivial, (callsIn_wide.2 cb).mono ?_⟩
  rintro e w1 ⟨g, cap, rfl, hrow, hg, hb⟩
  clear cb
  obtain ⟨cur, hcs, hmk⟩ := make_u64 p hle w1
  gi_wp2_with fail
  refine ⟨trivial, (backward_in Fence.wide 4 trivial rfl _ _ _ _).mono ?_⟩
  rintro e w2 ⟨rfl, rfl⟩
  obtain ⟨s1, hs1⟩ : ∃ s1, w1.heap.size = s1 := ⟨_, rfl⟩
  have bO := Boxed.new (w1.alloc (.cells cur 22)) 83 (.slice (some ⟨w1.heap.size, 0, none⟩) 0 p)
  have bM := Boxed.new ((w1.alloc (.cells cur 22)).alloc (.cells #[.slice (some ⟨w1.heap.size, 0, none⟩) 0 p] 83)) 22 (.int .u64 0)
  have bN := Boxed.new (((w1.alloc (.cells cur 22)).alloc (.cells #[.slice (some ⟨w1.heap.size, 0, none⟩) 0 p] 83)).alloc (.cells #[.int .u64 0] 22)) 108 (.slice (some ⟨g, 0, none⟩) p cap)
  have hr0 : (w1.alloc (.cells cur 22)).ownsRow s1 22 1 (.slice (some ⟨s1, 0, none⟩) 0 p) 0 [] := by
    rw [← hs1]
    exact World.ownsRow_made w1 cur p (Nat.le_refl _) (by simp only [maxLen]; omega) (by rw [hcs]; omega)
  simp only [World.size_alloc, hs1] at bO bM bN ⊢
  have bO := (bO.alloc (.cells #[.int .u64 0] 22)).alloc (.cells #[.slice (some ⟨g, 0, none⟩) p cap] 108)
  have bM := bM.alloc (.cells #[.slice (some ⟨g, 0, none⟩) p cap] 108)
  have hr0 := ((hr0.alloc (.cells #[.slice (some ⟨s1, 0, none⟩) 0 p] 83)).alloc (.cells #[.int .u64 0] 22)).alloc (.cells #[.slice (some ⟨g, 0, none⟩) p cap] 108)
  have hB1 : Below s1 w1 ((((w1.alloc (.cells cur 22)).alloc (.cells #[.slice (some ⟨s1, 0, none⟩) 0 p] 83)).alloc (.cells #[.int .u64 0] 22)).alloc (.cells #[.slice (some ⟨g, 0, none⟩) p cap] 108)) :=
    ((((Below.refl _ w1).alloc (by omega) _).alloc (by simp; omega) _).alloc (by simp; omega) _).alloc (by simp; omega) _
  have hgs : g < s1 := by omega
  have hcg : ∀ j, j < p → w1.cell? ⟨g, j, none⟩ = some (.int .i64 ((f j).val : Int)) := fun j hj => by rw [hf j hj]; exact hplc _ _ _ _ _ hrow j hj
  have hsz : ((((w1.alloc (.cells cur 22)).alloc (.cells #[.slice (some ⟨s1, 0, none⟩) 0 p] 83)).alloc (.cells #[.int .u64 0] 22)).alloc (.cells #[.slice (some ⟨g, 0, none⟩) p cap] 108)).heap.size = s1 + 4 := by simp; omega
  obtain ⟨W0, hW0⟩ : ∃ W0, ((((w1.alloc (.cells cur 22)).alloc (.cells #[.slice (some ⟨s1, 0, none⟩) 0 p] 83)).alloc (.cells #[.int .u64 0] 22)).alloc (.cells #[.slice (some ⟨g, 0, none⟩) p cap] 108)) = W0 := ⟨_, rfl⟩
  rw [hW0] at bO bM bN hr0 hB1 hsz ⊢
  have hbw : Below w.heap.size w W0 := hb.trans (hB1.mono (by have := hb.size; omega))
  clear hW0
  gi_wp2_with fail
  refine wpIn_rangeFunc_ownG rfl (by omega) (gf := 76) (lb := #[.pointer (some ⟨s1 + 1 + 1 + 1, 0, none⟩)]) rfl trivial (enters_of Tryd.func76 (by kernel_rfl) rfl)
    (backward_stops Fence.wide (5 - 1) trivial rfl (by omega) (s1 + 1 + 1 + 1) s1 g p cap f hle hgs W0 (by omega) (by omega) bN.cell (fun j hj => (hB1.cell (p := ⟨g, j, none⟩) hgs).trans (hcg j hj)))
    KB.t (KB.b (by omega) (by omega)) (Below.refl _ _) (fun _ => rfl)
    (fun pre W => ((∃ v, Boxed W (s1 + 1) 83 v ∧ W.ownsRow s1 22 1 v pre.length (UCELLS (ST (HTS pre)).2) ∧ v = .slice (some ⟨s1, 0, none⟩) pre.length p) ∧ Boxed W (s1 + 1 + 1) 22 (.int .u64 ((ST (HTS pre)).1 : Int)) ∧ Boxed W (s1 + 1 + 1 + 1) 108 (.slice (some ⟨g, 0, none⟩) p cap)) ∧ Below w.heap.size w W)
    (fun _ _ _ => False)
    (OwnFrom.and (OwnFrom.and (Own.from (holdsRow_own s1 (s1 + 1) 83 22 1 (fun pre => pre.length) (fun pre => UCELLS (ST (HTS pre)).2) (fun pre v => v = .slice (some ⟨s1, 0, none⟩) pre.length p)) _) (OwnFrom.and (Own.from (boxed_own _ _ _) _) (Own.from (boxed_own _ _ _) _))) (ownFrom_below (Nat.le_refl _) (by have := hb.size; omega)))
    (fun _ _ _ _ _ hs _ _ => hs)
    ⟨⟨⟨_, bO, hr0, rfl⟩, bM, bN⟩, hbw⟩
    (fun x => { tmps := #[.int .u64 (X : Int), undef, .slice none 0 0, .slice (some ⟨g, 0, none⟩) p cap, .pointer (some ⟨s1 + 1, 0, none⟩), .pointer (some ⟨s1 + 1 + 1, 0, none⟩), undef, .int .i64 (x.2.val : Int), .int .u64 (X : Int), .bool false, .int .u64 (X : Int), .slice (some ⟨g, 0, none⟩) p cap, .slice (some ⟨g, 0, none⟩) p cap, .int .i64 (p : Int), .slice (some ⟨s1, 0, none⟩) 0 p, .slice (some ⟨g, 0, none⟩) p cap, .func (.func 76) #[] #[.pointer (some ⟨s1 + 1 + 1 + 1, 0, none⟩)], .int .i64 (x.1 : Int), .int .i64 (x.2.val : Int), undef, undef, undef, undef, undef, undef, undef, undef, undef, undef], defers := [] }) ?assign ?body ?done ?stop
  case assign =>
    intro l x W K hK
    gi_wp2
    exact hK
  case body =>
    rintro l pre x W ⟨⟨⟨v, bO, hrow, rfl⟩, bM, bN⟩, hB⟩ hlt
    have hsn := ST_snoc (HTS pre) x.2.val
    have hml := ST_lt (HTS pre)
    have hsl := ST_length (HTS pre)
    rw [show (HTS pre).length = pre.length by simp [HTS]] at hsl
    obtain ⟨m, hm⟩ : ∃ m, (ST (HTS pre)).1 = m := ⟨_, rfl⟩
    obtain ⟨ls, hls⟩ : ∃ ls, (ST (HTS pre)).2 = ls := ⟨_, rfl⟩
    have ct := fun w => tree_ok x.2.val (by omega) w
    obtain ⟨t, ht⟩ : ∃ t, TREE x.2.val = t := ⟨_, rfl⟩
    rw [hm, hls, ht] at hsn
    rw [hm] at hml bM
    rw [hls] at hsl hrow
    rw [ht] at ct
    obtain ⟨m2, hm2⟩ : ∃ m2, (m + t) % 2 ^ 64 = m2 := ⟨_, rfl⟩
    obtain ⟨q, hq⟩ : ∃ q, (m2 + (2 ^ 64 - 1)) % 2 ^ 64 = q := ⟨_, rfl⟩
    rw [hm2, hq] at hsn
    have e1 : IntKind.u64.wrap ((m : Int) + (t : Int)) = (m2 : Int) := by rw [wrapU]; omega
    have e2 : IntKind.u64.wrap ((m2 : Int) - 1) = (q : Int) := by rw [wrapU]; omega
    have R : Aside (ST (HTS (pre ++ [x])) = (m2, ls ++ [q]) ∧ ls.length = pre.length ∧ pre.length < p) := ⟨by rw [HTS_snoc]; exact hsn, hsl, hlt⟩
    clear hsn hml hsl hlt hm hls ht hm2 hq
    have hc4 := bO.cell
    have hc5 := bM.cell
    have hf5 := bM.frozen
    have hmx : Tryd.prog.follows .mixedOrders = true := by kernel_rfl
    clear hplc hf hcg hz0 hz2
    have hsW : s1 + 4 ≤ W.heap.size := by have := bN.lt; omega
    obtain ⟨W5, hW5⟩ : ∃ W5, (W.setCell ⟨s1 + 1 + 1, 0, none⟩ (.int .u64 (m2 : Int))).drew = W5 := ⟨_, rfl⟩
    have bO5 : Boxed W5 (s1 + 1) 83 (.slice (some ⟨s1, 0, none⟩) pre.length p) := by rw [← hW5]; exact bO.other (by omega) _
    have bM5 : Boxed W5 (s1 + 1 + 1) 22 (.int .u64 (m2 : Int)) := by rw [← hW5]; exact bM.set _
    have bN5 : Boxed W5 (s1 + 1 + 1 + 1) 108 (.slice (some ⟨g, 0, none⟩) p cap) := by rw [← hW5]; exact bN.other (by omega) _
    have hrow5 : W5.ownsRow s1 22 1 (.slice (some ⟨s1, 0, none⟩) pre.length p) pre.length (UCELLS ls) := by rw [← hW5]; exact (hrow.kept (grownBy_setCell' W (s1 + 1 + 1) (.int .u64 (m2 : Int))) (.inr (by simp [Value.ownBlock]; omega))).drew
    have hk5 : KeepsOthers W W5 := by rw [← hW5]; exact (KeepsOthers.setCell _ _ _).trans (KeepsOthers.drew _)
    have hb5 : Below s1 W W5 := by rw [← hW5]; exact ((Below.refl s1 W).setCell (p := ⟨s1 + 1 + 1, 0, none⟩) (by show s1 ≤ s1 + 1 + 1; omega) _).drew
    have hs5 : s1 + 4 ≤ W5.heap.size := by have := bN5.lt; omega
    have hcN : W.cell? ⟨s1 + 1 + 1 + 1, 0, none⟩ = some (.slice (some ⟨g, 0, none⟩) p cap) := bN.cell
    gi_wp2
    gi_region_with_o (refine ⟨trivial, ?_⟩; gi_at_call 71; refine (CallsIn.inRound l (callsIn_wide.2 (ct _))).mono ?_; rintro e w' ⟨rfl, rfl⟩)
    all_goals clear hc4 hc5 hf5 bO bM bN hrow ct
    all_goals have hc4 := bO5.cell
    all_goals have hc5 := bM5.cell
    all_goals gi_wp2_with (gi_at_builtin; refine wpListIn_append_fits _ rfl _ _ 83 rfl s1 22 i0 1 Tryd.underlying83 hi hz1 s1 pre.length p (UCELLS ls) rfl (hrow5.alloc _) ⟨W5.heap.size, 0, none⟩ 1 1 [.int .u64 (q : Int)] rfl rfl (cell_one_new _ _ _) (by simp [Value.oneCell']) (by have := R.out.2.2; omega) ?_; intro w1' hown' hgrow; obtain ⟨hv1, hv2, hr2, hk2, hb2⟩ := bO5.appended (by decide) hrow5 (by omega) (by omega) hown' hgrow; have hc1 := hv1.cell; have hf1 := hv1.frozen)
    all_goals have bN6 := ((bN5.alloc (.cells #[.int .u64 (q : Int)] 22)).kept hgrow (by simp; omega)).other (B' := s1 + 1) (by omega) (.slice (some ⟨s1, 0, none⟩) (pre.length + 1) p)
    all_goals have bM6 := ((bM5.alloc (.cells #[.int .u64 (q : Int)] 22)).kept hgrow (by simp; omega)).other (B' := s1 + 1) (by omega) (.slice (some ⟨s1, 0, none⟩) (pre.length + 1) p)
    all_goals obtain ⟨r1, r2, r3⟩ := R.out
    all_goals refine ⟨(hk5.trans hk2).from _, ⟨hb5.trans hb2, bN6.cell.trans hcN.symm⟩, ⟨⟨_, hv2, ?_, by simp⟩, ?_, bN6⟩, hB.trans ((hb5.trans hb2).mono (by have := hb.size; omega))⟩
    all_goals rw [r1]
    all_goals first | exact bM6 | (rw [UCELLS_snoc, List.length_append]; exact hr2)
  case done =>
    rintro D ys W hD hys ⟨⟨⟨v, bO, hrow, rfl⟩, bM, bN⟩, hB⟩ hK
    have hc := bO.cell
    gi_wp2
    refine ⟨by simp, .inl ⟨_, _, rfl, run_takeDeferred hK, ?_⟩⟩
    have hys' : ys = UPTO (BACK p f) p := hys
    subst hys'
    obtain ⟨a1, a2, a3⟩ := HA.out
    have hl : (UPTO (BACK p f) p).length = p := UPTO_length _ _
    rw [hl, a1, ← HS_zero, ST_all a3] at hrow
    refine ⟨_, results_tmp rfl _ _ _, s1, p, ?_, ?_, hB.trans (belowK_b (w := w) (Nat.le_refl _) W D _ _ (by have := hb.size; omega) hK rfl rfl)⟩
    · rw [← a2, hl]
      rfl
    · rw [← a2]
      exact ownsRow_putObj (own_mono hrow (by have := hb.size; omega)) _ hK rfl
  case stop =>
    rintro D c pre W _ _ h _
    exact h.elim
end Go.Proofs.YtannhflmnegpbaaDoor

/- What rise, Peak and Path answer. -/
namespace Go.Proofs.YtannhflmnegpbaaDoor
open Go.RowKit

theorem app_u64 {ops : Array Oper} {rest : List Oper} {o : Oper} {a : Act} {Q : Exit → Act → World → Prop} (w : World) (hgd : o.guard = none) (s x : Operand)
    (ho : o.op = .call { callee := .builtin .append, args := #[s, x], argTypes := #[83, 83] })
    (base : Nat) (v : Value) (n : Nat) (xs : List Nat) (hs : a.eval s = v) (hown : w.ownsRow base 22 1 v n (UCELLS xs))
    (b c : Nat) (y : Nat) (hx : a.eval x = .slice (some ⟨b, 0, none⟩) 1 c) (hc : w.cell? ⟨b, 0, none⟩ = some (.int .u64 (y : Int)))
    (hb : n ≤ 1000) (hbase : base ≤ w.heap.size)
    (h : ∀ g cap w', w'.ownsRow base 22 1 (.slice (some ⟨g, 0, none⟩) (n + 1) cap) (n + 1) (UCELLS (xs ++ [y])) → w.grownBy w' v.ownBlock → g < w'.heap.size → wpList Tryd.prog ops Q rest (a.put o.dst (.slice (some ⟨g, 0, none⟩) (n + 1) cap)) w') : wpList Tryd.prog ops Q (o :: rest) a w := by
  obtain ⟨i, hi, hz, hs1, hby⟩ := info_parts info_u64
  refine wpList_append_lies w hgd s x 83 ho base 22 i (.int .u64 0) 1 8 Tryd.underlying83 hi hz hs1 hby rfl (by decide) v n (UCELLS xs) hs hown ⟨b, 0, none⟩ 1 c [.int .u64 (y : Int)] hx rfl ?_ (fun u hu => by simp at hu; subst hu; rfl) (by decide) (by simp only [maxLen]; omega) (by omega) hbase w.heap.size rfl ?_
  · intro j u hj
    cases j with
    | zero =>
      simp only [List.getElem?_cons_zero, Option.some.injEq] at hj
      subst hj
      exact hc
    | succ j => simp at hj
  · intro g cap w' h1 h2 _ h4
    rw [← UCELLS_snoc] at h1
    exact h g cap w' h1 h2 h4

theorem rise_raw (i n x r : Int) (w : World) (hd : decide (4611686018427387904 < n) = false) (hi : decide (n ≤ i) = false) (hx : bits .xor .u64 i n = x) (c : ∀ w, Calls Tryd.prog 68 #[.int .u64 x] w fun e w' => e = .returned (.int .i64 r) ∧ w = w') :
    Calls Tryd.prog 58 #[.int .u64 i, .int .u64 n] w fun e w' => e = .returned (.tuple #[.int .i64 r, .bool true]) ∧ w = w' := by
  go_enter Tryd.func58, Tryd.ntmps58
  have hd' : ¬ 4611686018427387904 < n := by simpa using hd
  have hi' : ¬ n ≤ i := by simpa using hi
  go_wp2_with fail
  refine (c _).mono ?_
  rintro e w' ⟨rfl, rfl⟩
  go_wp2
  go_ret2
  exact ⟨rfl, rfl⟩
theorem rise_ok (i n : Nat) (hi : i < n) (hn : n ≤ 4611686018427387904) (w : World) : Calls Tryd.prog 58 #[.int .u64 (i : Int), .int .u64 (n : Int)] w fun e w' => e = .returned (.tuple #[.int .i64 ((RISE i n : Nat) : Int), .bool true]) ∧ w = w' := by
  have hX : i ^^^ n < 2 ^ 63 := Nat.xor_lt_two_pow (by omega) (by omega)
  have h1 := (RISE_spec hi hn).1
  refine rise_raw i n ((i ^^^ n : Nat) : Int) _ w (by simp; omega) (by simp; omega) (bits_xor_u64_nat i n (by omega) (by omega)) (fun w => ?_)
  have := high_ok (i ^^^ n) (by omega) w
  rw [show ((LEN (i ^^^ n) : Nat) : Int) - 1 = ((RISE i n : Nat) : Int) by unfold RISE; omega] at this
  exact this
theorem rise_not (i n : Int) (h : ¬ (i < n ∧ n ≤ 4611686018427387904)) (w : World) : Calls Tryd.prog 58 #[.int .u64 i, .int .u64 n] w fun e w' => e = .returned (.tuple #[.int .i64 0, .bool false]) ∧ w = w' := by
  by_cases hd : 4611686018427387904 < n
  · clear h
    go_enter Tryd.func58, Tryd.ntmps58
    go_wp2
    go_ret2
    exact ⟨rfl, rfl⟩
  · have hi : n ≤ i := by omega
    clear h
    go_enter Tryd.func58, Tryd.ntmps58
    go_wp2
    go_ret2
    exact ⟨rfl, rfl⟩
theorem peak_raw (i n r x y k : Int) (w : World) (h : Nat) (hr : r = (h : Int)) (e1 : n / 2 ^ min h 64 = x) (e2 : x / 2 = y) (c : ∀ w, Calls Tryd.prog 58 #[.int .u64 i, .int .u64 n] w fun e w' => e = .returned (.tuple #[.int .i64 r, .bool true]) ∧ w = w') (co : ∀ w, Calls Tryd.prog 21 #[.int .u64 y] w fun e w' => e = .returned (.int .i64 k) ∧ w = w') :
    Calls Tryd.prog 49 #[.int .u64 i, .int .u64 n] w fun e w' => e = .returned (.tuple #[.int .i64 k, .bool true]) ∧ w = w' := by
  subst hr
  go_enter Tryd.func49, Tryd.ntmps49
  go_wp2_with fail
  refine (c _).mono ?_
  rintro e w' ⟨rfl, rfl⟩
  clear c
  go_wp2_with fail
  refine (co _).mono ?_
  rintro e w' ⟨rfl, rfl⟩
  go_wp2
  go_ret2
  exact ⟨rfl, rfl⟩
theorem peak_ok (i n : Nat) (hi : i < n) (hn : n ≤ 4611686018427387904) (w : World) : Calls Tryd.prog 49 #[.int .u64 (i : Int), .int .u64 (n : Int)] w fun e w' => e = .returned (.tuple #[.int .i64 ((KTH i n : Nat) : Int), .bool true]) ∧ w = w' := by
  have h2 := (RISE_spec hi hn).2.1
  refine peak_raw i n _ ((n / 2 ^ RISE i n : Nat) : Int) ((n / 2 ^ (RISE i n + 1) : Nat) : Int) _ w (RISE i n) rfl ?_ ?_ (fun w => rise_ok i n hi hn w) (fun w => ?_)
  · rw [show min (RISE i n) 64 = RISE i n by omega, div_cast]
  · rw [half_pow]
    omega
  · have hl : n / 2 ^ (RISE i n + 1) < 2 ^ 64 := Nat.lt_of_le_of_lt (Nat.div_le_self _ _) (by omega)
    have := ones_ok (n / 2 ^ (RISE i n + 1)) hl w
    rw [POP_PC hl] at this
    exact this
theorem path_not (i n : Int) (h : ¬ (i < n ∧ n ≤ 4611686018427387904)) (w : World) : Calls Tryd.prog 52 #[.int .u64 i, .int .u64 n] w fun e w' => e = .returned (.tuple #[.slice none 0 0, .bool false]) ∧ w = w' := by
  have c := rise_not i n h
  clear h
  go_enter Tryd.func52, Tryd.ntmps52
  go_wp2_with fail
  refine (c _).mono ?_
  rintro e w' ⟨rfl, rfl⟩
  clear c
  go_wp2
  go_ret2
  exact ⟨rfl, rfl⟩
set_option maxHeartbeats 1000000 in
theorem path_ok (i n : Nat) (hi : i < n) (hn : n ≤ 4611686018427387904) (w : World) : Calls Tryd.prog 52 #[.int .u64 (i : Int), .int .u64 (n : Int)] w fun e w' =>
    ∃ g cap, e = .returned (.tuple #[.slice (some ⟨g, 0, none⟩) (RISE i n) cap, .bool true]) ∧ w'.ownsRow w.heap.size 22 1 (.slice (some ⟨g, 0, none⟩) (RISE i n) cap) (RISE i n) (UCELLS (WAY i (RISE i n))) ∧ g < w'.heap.size ∧ Below w.heap.size w w' := by
  have c1 := rise_ok i n hi hn
  have h62 := (RISE_spec hi hn).2.1
  have c2 := ahead_ok i (by omega)
  generalize RISE i n = H at *
  obtain ⟨cur, hcs, hmk⟩ := make_u64 H (by omega) w
  have HA : Aside (i < 4611686018427387904 ∧ H ≤ 62 ∧ cur.size = H) := ⟨by omega, h62, hcs⟩
  have hp : (NODES i : Nat) = PLC 0 (i / 2 ^ 0) := by rw [PLC_leaf, Nat.pow_zero, Nat.div_one]
  rw [hp] at c2
  clear hi hn h62 hcs hp
  go_enter Tryd.func52, Tryd.ntmps52
  go_wp2_with fail
  refine (c1 _).mono ?_
  rintro e w' ⟨rfl, rfl⟩
  clear c1
  go_wp2_with fail
  refine (c2 _).mono ?_
  rintro e w' ⟨rfl, rfl⟩
  clear c2
  go_wp2
  go_loopg [8, 9, 25] H (fun g s8 s9 s25 wx => ∃ j : Nat, s25 = .int .i64 (j : Int) ∧ s9 = .int .u64 ((PLC j (i / 2 ^ j) : Nat) : Int) ∧ Aside (j + g = H ∧ wx.ownsRow w.heap.size 22 1 s8 j (UCELLS (WAY i j)) ∧ (∃ b cap, s8 = .slice (some ⟨b, 0, none⟩) j cap ∧ b < wx.heap.size) ∧ Below w.heap.size w wx))
  case atStart => exact ⟨0, rfl, by rw [Nat.pow_zero, Nat.div_one], by omega, World.ownsRow_made w cur H (Nat.le_refl _) (by have := HA.out.2.1; simp only [maxLen]; omega) (by rw [HA.out.2.2]; omega), ⟨_, _, rfl, by simp⟩, (Below.refl _ _).alloc (Nat.le_refl _) _⟩
  case round =>
    obtain ⟨j, rfl, rfl, A⟩ := hrel
    clear hmk
    cases gk with
    | zero =>
      obtain ⟨hj, hown, ⟨b, cap, hs, hb⟩, hbel⟩ := A.out
      obtain rfl : j = H := by omega
      subst hs
      have hlt : ¬ (j : Int) < (j : Int) := by omega
      clear hj hown hb hbel HA
      go_wp2
      go_ret2
      obtain ⟨hj, hown, ⟨b', cap', hs, hb⟩, hbel⟩ := A.out
      cases hs
      exact ⟨b, cap, rfl, hown, hb, hbel⟩
    | succ g =>
      obtain ⟨hj, hown, ⟨b, cap, hs, hb⟩, hbel⟩ := A.out
      have hlt : (j : Int) < (H : Int) := by omega
      have h62 := HA.out.2.1
      have hN := Node.over HA.out.1 j (by omega)
      have cb := beside_ok j (i / 2 ^ j) hN (by omega)
      have co := over_ok j (i / 2 ^ j) hN (by omega)
      have hR : (bits .and .u64 ((i : Int) / 2 ^ min j 64) 1 == 1) = decide (i / 2 ^ j % 2 = 1) := by
        rw [show min j 64 = j by omega, div_cast]
        exact odd_eq _ (Nat.lt_of_le_of_lt (Nat.div_le_self _ _) (by have := HA.out.1; omega))
      have e1 : wrap64 ((j : Int) + 1) = ((j + 1 : Nat) : Int) := by unfold wrap64; omega
      have hj0 : ¬ (j : Int) < 0 := by omega
      rw [← half_pow] at co
      have hw := WAY_succ i j
      generalize hz : decide (i / 2 ^ j % 2 = 1) = z at *
      clear hz
      generalize PLC j (i / 2 ^ j) = x at *
      generalize PLC j (SIB (i / 2 ^ j)) = y at *
      generalize hv : PLC (j + 1) (i / 2 ^ (j + 1)) = v at *
      have R : Aside (j + 1 + g = H ∧ wr.ownsRow w.heap.size 22 1 u8 j (UCELLS (WAY i j)) ∧ Below w.heap.size w wr ∧ j ≤ 1000 ∧ WAY i (j + 1) = WAY i j ++ [y] ∧ PLC (j + 1) (i / 2 ^ (j + 1)) = v) := ⟨by omega, hown, hbel, by omega, hw, hv⟩
      clear A hj hown hs hb hbel h62 hN hw hv HA
      go_wp2_with fail
      refine (cb _).mono ?_
      rintro e w' ⟨rfl, rfl⟩
      clear cb
      go_wp2_with (at_builtin; refine app_u64 _ rfl (.tmp 33) (.tmp 38) rfl w.heap.size u8 j (WAY i j) rfl (R.out.2.1.alloc _) wr.heap.size 1 y rfl (by rw [World.cell?_alloc_at _ _ _ _ rfl]; rfl) R.out.2.2.2.1 (by have := R.out.2.2.1.size; simp; omega) ?_; intro g' cap w1 hown hgrow hg)
      obtain ⟨r1, r2, r3, r4, r5, r6⟩ := R.out
      have R2 : Aside (j + 1 + g = H ∧ w1.ownsRow w.heap.size 22 1 (.slice (some ⟨g', 0, none⟩) (j + 1) cap) (j + 1) (UCELLS (WAY i (j + 1))) ∧ g' < w1.heap.size ∧ Below w.heap.size w w1 ∧ PLC (j + 1) (i / 2 ^ (j + 1)) = v) := ⟨r1, by rw [r5]; exact hown, hg, (r3.alloc r3.size _).grown hgrow (by have := r3.size; simp; omega) (fun k e => (r2.lt k e).1), r6⟩
      clear hown hgrow hg R r1 r2 r3 r4 r5 r6
      refine (co _).mono ?_
      rintro e w' ⟨rfl, rfl⟩
      clear co
      go_wp2
      go_roundg g
      case measure => omega
      case rel =>
        obtain ⟨r1, r2, r3, r4, r6⟩ := R2.out
        exact ⟨j + 1, by first | rfl | (rw [e1]), by rw [r6], r1, r2, ⟨_, _, rfl, r3⟩, r4⟩
end Go.Proofs.YtannhflmnegpbaaDoor

/- Lists of spots of one's own. -/
namespace Go.Proofs.YtannhflmnegpbaaDoor
open Go.RowKit

/-- a list of spots lies there. -/
def Spots (w : World) (a : Option Addr) (l : List (Nat × Nat)) : Prop := 0 < l.length → ∃ g, a = some ⟨g, 0, none⟩ ∧ g < w.heap.size ∧ ∀ (j h k : Nat), l[j]? = some (h, k) → w.cell? ⟨g, j * 2, none⟩ = some (.int .u8 (h : Int)) ∧ w.cell? ⟨g, j * 2 + 1, none⟩ = some (.int .u64 (k : Int))
theorem Spots.below {w w' : World} {a : Option Addr} {l : List (Nat × Nat)} (h : Spots w a l) (hb : Below w.heap.size w w') : Spots w' a l := fun h0 => by
  obtain ⟨g, e, hg, hc⟩ := h h0
  exact ⟨g, e, Nat.lt_of_lt_of_le hg hb.size, fun j x y he => ⟨(hb.cell (p := ⟨g, j * 2, none⟩) hg).trans (hc j x y he).1, (hb.cell (p := ⟨g, j * 2 + 1, none⟩) hg).trans (hc j x y he).2⟩⟩
theorem own_below {w w' : World} {base : Nat} {t : TypeId} {s : Nat} {v : Value} {n : Nat} {xs : List Value} (h : w.ownsRow base t s v n xs) (hb : Below w.heap.size w w') : w'.ownsRow base t s v n xs := by
  refine ⟨h.1, h.2.imp id ?_⟩
  rintro ⟨g, c, cur, a, b, r, rest⟩
  exact ⟨g, c, cur, a, b, (hb.block g (Array.getElem?_eq_some_iff.1 r).1).trans r, rest⟩
end Go.Proofs.YtannhflmnegpbaaDoor

/- What the document's Tops gives: the spots of the peaks. -/
namespace Go.Proofs.YtannhflmnegpbaaDoor
open Go.RowKit

end Go.Proofs.YtannhflmnegpbaaDoor

/- What the document's Peaks gives. -/
namespace Go.Proofs.YtannhflmnegpbaaDoor
open Go.RowKit

end Go.Proofs.YtannhflmnegpbaaDoor

/- What the document's Peak gives. -/
namespace Go.Proofs.YtannhflmnegpbaaDoor
open Go.RowKit

end Go.Proofs.YtannhflmnegpbaaDoor

/- Blocks of one's own in a world that is a variable. -/
namespace Go.Proofs.YtannhflmnegpbaaDoor
open Go.RowKit

/-- the block g holds the cells c. -/
def Has (w : World) (g : Nat) (c : Array Value) (t : TypeId) : Prop := w.heap[g]? = some (.cells c t)
theorem Has.cell {w : World} {g : Nat} {c : Array Value} {t : TypeId} (h : Has w g c t) (i : Nat) : w.cell? ⟨g, i, none⟩ = c[i]? := cell_of_row w g i c t _ h
theorem Has.lt {w : World} {g : Nat} {c : Array Value} {t : TypeId} (h : Has w g c t) : g < w.heap.size := (Array.getElem?_eq_some_iff.1 h).1
theorem Has.frozen {w : World} {g : Nat} {c : Array Value} {t : TypeId} (h : Has w g c t) (i : Nat) : w.frozen? ⟨g, i, none⟩ = false := by
  have e : w.heap[g]? = some (.cells c t) := h
  simp [World.frozen?, e]
theorem Has.set {w : World} {g : Nat} {c : Array Value} {t : TypeId} (h : Has w g c t) (i : Nat) (v : Value) : Has (w.setCell ⟨g, i, none⟩ v) g (c.setIfInBounds i v) t := by
  have e : w.heap[g]? = some (.cells c t) := h
  unfold Has
  rw [setCell_eq_setRow w g i c t _ v e, setRow_heap w g c _ t _ e]
theorem Has.other {w : World} {g : Nat} {c : Array Value} {t : TypeId} (h : Has w g c t) {a : Addr} (ha : g ≠ a.block) (v : Value) : Has (w.setCell a v) g c t := by
  have e : w.heap[g]? = some (.cells c t) := h
  unfold Has
  rw [Below.heap_setCell w a v g ha, e]
theorem Has.below {B : Nat} {w w' : World} {g : Nat} {c : Array Value} {t : TypeId} (h : Has w g c t) (hb : Below B w w') (hg : g < B) : Has w' g c t := (hb.block g hg).trans h
theorem Has.keep {w w' : World} {g : Nat} {c : Array Value} {t : TypeId} (h : Has w g c t) (hb : Below w.heap.size w w') : Has w' g c t := h.below hb h.lt
theorem Has.alloc {w : World} {g : Nat} {c : Array Value} {t : TypeId} (h : Has w g c t) (o : Obj) : Has (w.alloc o) g c t := by
  have e : w.heap[g]? = some (.cells c t) := h
  unfold Has
  rw [Below.heap_alloc w o g h.lt, e]
theorem Has.new (w : World) (c : Array Value) (t : TypeId) : Has (w.alloc (.cells c t)) w.heap.size c t := heap_alloc_new w _
theorem Has.at (w : World) (c : Array Value) (t : TypeId) {g : Nat} (hg : g = w.heap.size) : Has (w.alloc (.cells c t)) g c t := by subst hg; exact Has.new w c t
theorem Has.row {w : World} {g : Nat} {c : Array Value} {t : TypeId} (h : Has w g c t) (c' : Array Value) : Has (w.setRow g c') g c' t := setRow_heap w g c c' t _ h
theorem Has.row_other {w : World} {g k : Nat} {c : Array Value} {t : TypeId} (h : Has w g c t) (hk : g ≠ k) (c' : Array Value) : Has (w.setRow k c') g c t := by
  have e : w.heap[g]? = some (.cells c t) := h
  unfold Has
  rw [setRow_other w k g c' hk, e]
theorem Has.drewN {w : World} {g : Nat} {c : Array Value} {t : TypeId} (h : Has w g c t) (n : Nat) : Has (w.drewN n) g c t := h
theorem set_off {w : World} {b i j : Nat} (h : i ≠ j) (v : Value) : (w.setCell ⟨b, i, none⟩ v).cell? ⟨b, j, none⟩ = w.cell? ⟨b, j, none⟩ := World.cell?_setCell_other w _ _ v (fun e => h (congrArg Addr.off e))
theorem below_row {B g : Nat} {w0 w : World} (hb : Below B w0 w) (hBg : B ≤ g) (cs : Array Value) : Below B w0 (w.setRow g cs) :=
  ⟨hb.os, hb.tape, hb.output, by have := hb.size; simpa [World.setRow] using this, fun k hk => by rw [setRow_other w g k cs (by omega)]; exact hb.block k hk⟩
end Go.Proofs.YtannhflmnegpbaaDoor

/- What the document's Path gives. -/
namespace Go.Proofs.YtannhflmnegpbaaDoor
open Go.RowKit

end Go.Proofs.YtannhflmnegpbaaDoor

/- awake answers true: the forest of seven leaves. -/
namespace Go.Proofs.YtannhflmnegpbaaDoor
open Go.RowKit

/-- a list of numbers, cell by cell. -/
theorem row_at {w : World} {base g n cap : Nat} {l : List Nat} (h : w.ownsRow base 22 1 (.slice (some ⟨g, 0, none⟩) n cap) n (UCELLS l)) (i : Nat) (hi : i < l.length) : w.cell? ⟨g, i, none⟩ = some (.int .u64 (l.getD i 0 : Nat)) := by
  have hlen : l.length = n := by have := h.1; simpa [UCELLS] using this
  rw [h.cellAt i (by omega)]
  unfold UCELLS
  rw [List.getElem?_map, List.getD_eq_getElem?_getD, List.getElem?_eq_getElem hi]
  rfl
end Go.Proofs.YtannhflmnegpbaaDoor

/- Two lists that read the same; four lists of one's own, none of which shares a block with another. -/
namespace Go.Proofs.YtannhflmnegpbaaDoor
open Go.RowKit

/-- a list of numbers lies there. -/
def Nums (w : World) (v : Value) (l : List Nat) : Prop := ∃ a cap, v = .slice a l.length cap ∧ (0 < l.length → ∃ g, a = some ⟨g, 0, none⟩ ∧ g < w.heap.size ∧ ∀ (j : Nat), j < l.length → w.cell? ⟨g, j, none⟩ = some (.int .u64 ((l.getD j 0 : Nat) : Int)))
theorem Nums.below {w w' : World} {v : Value} {l : List Nat} {B : Nat} (h : Nums w v l) (hb : Below B w w') (hB : w.heap.size ≤ B) : Nums w' v l := by
  obtain ⟨a, cap, rfl, h⟩ := h
  refine ⟨a, cap, rfl, fun h0 => ?_⟩
  obtain ⟨g, e, hg, hc⟩ := h h0
  exact ⟨g, e, Nat.lt_of_lt_of_le hg hb.size, fun j hj => (hb.cell (p := ⟨g, j, none⟩) (Nat.lt_of_lt_of_le hg hB)).trans (hc j hj)⟩
/-- four lists of one's own: no two in one block, none in a block of K. -/
structure Four (w : World) (B : Nat) (K : Nat → Prop) (v : Nat → Value) (n : Nat → Nat) (xs : Nat → List Value) : Prop where
  row : ∀ x, x < 4 → w.ownsRow B 22 1 (v x) (n x) (xs x)
  apart : ∀ x y, x < 4 → y < 4 → x ≠ y → ∀ g, (v x).ownBlock = some g → (v y).ownBlock ≠ some g
  off : ∀ x, x < 4 → ∀ g, (v x).ownBlock = some g → ¬ K g
/-- a function that is another one at one place. -/
def UPD {α : Type} (f : Nat → α) (x : Nat) (a : α) : Nat → α := fun z => if z = x then a else f z
theorem UPD_at {α : Type} (f : Nat → α) (x : Nat) (a : α) : UPD f x a x = a := by simp [UPD]
theorem UPD_other {α : Type} (f : Nat → α) {x z : Nat} (a : α) (h : z ≠ x) : UPD f x a z = f z := by simp [UPD, h]
theorem Four.alloc {w : World} {B : Nat} {K : Nat → Prop} {v : Nat → Value} {n : Nat → Nat} {xs : Nat → List Value} (h : Four w B K v n xs) (o : Obj) : Four (w.alloc o) B K v n xs := ⟨fun x hx => (h.row x hx).alloc o, h.apart, h.off⟩
theorem Four.below {w w' : World} {B : Nat} {K : Nat → Prop} {v : Nat → Value} {n : Nat → Nat} {xs : Nat → List Value} (h : Four w B K v n xs) (hb : Below w.heap.size w w') : Four w' B K v n xs := ⟨fun x hx => own_below (h.row x hx) hb, h.apart, h.off⟩
theorem grown_set (W : World) (b j : Nat) (v : Value) : W.grownBy (W.setCell ⟨b, j, none⟩ v) (some b) :=
  ⟨rfl, rfl, rfl, (KeepsWalks.setCell W _ v).size, fun k _ hk => Below.heap_setCell _ _ _ k (fun e => hk (by rw [e]))⟩
/-- what is stored into a block of K. -/
theorem Four.other {w : World} {B : Nat} {K : Nat → Prop} {v : Nat → Value} {n : Nat → Nat} {xs : Nat → List Value} (h : Four w B K v n xs) {b : Nat} (hb : K b) (j : Nat) (u : Value) : Four (w.setCell ⟨b, j, none⟩ u) B K v n xs :=
  ⟨fun x hx => (h.row x hx).kept (grown_set w b j u) (.inr fun e => h.off x hx b e hb), h.apart, h.off⟩
/-- what is stored into one of the four. -/
theorem Four.store {w : World} {B : Nat} {K : Nat → Prop} {v : Nat → Value} {n : Nat → Nat} {xs : Nat → List Value} (h : Four w B K v n xs) {x g m cap : Nat} (hx : x < 4) (hv : v x = .slice (some ⟨g, 0, none⟩) m cap) (j : Nat) (u : Value) :
    Four (w.setCell ⟨g, j, none⟩ u) B K v n (UPD xs x ((xs x).set j u)) := by
  refine ⟨fun z hz => ?_, h.apart, h.off⟩
  by_cases e : z = x
  · subst e
    have hr := h.row z hz
    rw [hv] at hr ⊢
    have hm : m = n z := by
      rcases hr.2 with ⟨e, _⟩ | ⟨_, _, _, e, _⟩
      · simp at e
      · simp at e
        omega
    subst hm
    rw [UPD_at]
    exact (hr.stored j u).1
  · rw [UPD_other xs _ e]
    refine (h.row z hz).kept (grown_set w g j u) (.inr fun e2 => ?_)
    exact h.apart x z hx hz (fun e3 => e e3.symm) g (by rw [hv]; rfl) e2
/-- a list's form. -/
theorem own_slice {w : World} {B n : Nat} {v : Value} {xs : List Value} (h : w.ownsRow B 22 1 v n xs) : ∃ a cap, v = .slice a n cap ∧ (0 < n → ∃ g, a = some ⟨g, 0, none⟩ ∧ g < w.heap.size ∧ B ≤ g) := by
  rcases h.2 with ⟨rfl, h0⟩ | ⟨g, cap, cur, rfl, hb, hg, r⟩
  · subst h0
    exact ⟨none, 0, rfl, fun h => by omega⟩
  · exact ⟨_, cap, rfl, fun _ => ⟨g, rfl, (Array.getElem?_eq_some_iff.1 hg).1, hb⟩⟩
theorem app_more {ops : Array Oper} {rest : List Oper} {o : Oper} {a : Act} {Q : Exit → Act → World → Prop} (w : World) (hgd : o.guard = none) (s x : Operand)
    (ho : o.op = .call { callee := .builtin .append, args := #[s, x], argTypes := #[83, 83] })
    (base : Nat) (v : Value) (n : Nat) (xs : List Value) (hs : a.eval s = v) (hown : w.ownsRow base 22 1 v n xs)
    (b c : Nat) (y : Int) (hx : a.eval x = .slice (some ⟨b, 0, none⟩) 1 c) (hc : w.cell? ⟨b, 0, none⟩ = some (.int .u64 y))
    (hb : n ≤ 1000) (hbase : base ≤ w.heap.size)
    (h : ∀ g cap w', w'.ownsRow base 22 1 (.slice (some ⟨g, 0, none⟩) (n + 1) cap) (n + 1) (xs ++ [.int .u64 y]) → w.grownBy w' v.ownBlock → (v.ownBlock = some g ∨ g = w.heap.size) → g < w'.heap.size → wpList Tryd.prog ops Q rest (a.put o.dst (.slice (some ⟨g, 0, none⟩) (n + 1) cap)) w') : wpList Tryd.prog ops Q (o :: rest) a w := by
  obtain ⟨i, hi, hz, hs1, hby⟩ := info_parts info_u64
  refine wpList_append_lies w hgd s x 83 ho base 22 i (.int .u64 0) 1 8 Tryd.underlying83 hi hz hs1 hby rfl (by decide) v n xs hs hown ⟨b, 0, none⟩ 1 c [.int .u64 y] hx rfl ?_ (fun u hu => by simp at hu; subst hu; rfl) (by decide) (by simp only [maxLen]; omega) (by omega) hbase w.heap.size rfl h
  intro j u hj
  cases j with
  | zero =>
    simp only [List.getElem?_cons_zero, Option.some.injEq] at hj
    subst hj
    exact hc
  | succ j => simp at hj
theorem Has.grown {w w' : World} {g : Nat} {c : Array Value} {t : TypeId} {row : Option Nat} (h : Has w g c t) (hg : w.grownBy w' row) (hne : row ≠ some g) : Has w' g c t := by
  obtain ⟨_, _, _, _, hk⟩ := hg
  exact (hk g h.lt (fun e => hne e.symm)).trans h
end Go.Proofs.YtannhflmnegpbaaDoor

/- What the small functions of package cut answer. -/
namespace Go.Proofs.YtannhflmnegpbaaDoor
open Go.RowKit

theorem low_nat (X : Nat) (hX : X < 2 ^ 64) : ∃ t : Nat, t ≤ 64 ∧ (X = 0 → t = 64) ∧ (∀ h, h ≤ 64 → (X % 2 ^ h = 0 ↔ h ≤ t)) ∧ ∀ w, Tabled w → Calls Tryd.prog 46 #[.int .u64 (X : Int)] w fun e w' => e = .returned (.int .i64 (t : Int)) ∧ w = w' := by
  by_cases h0 : X = 0
  · subst h0
    exact ⟨64, Nat.le_refl _, fun _ => rfl, fun h hh => by simp [hh], fun w _ => low_raw _ _ w (tz_zero w)⟩
  · obtain ⟨t, q, e⟩ := low_split X h0
    have ht := (neg_and hX e).2
    refine ⟨t, by omega, fun c => absurd c h0, ?_, fun w hT => low_raw _ _ w (tz_ok X t q hX e w hT)⟩
    intro h _
    constructor
    · intro hm
      rcases Nat.lt_or_ge t h with c | c
      · have h1 : 2 ^ (t + 1) ∣ 2 ^ h := Nat.pow_dvd_pow 2 c
        have h2 : X % 2 ^ (t + 1) = 0 := Nat.mod_eq_zero_of_dvd (Nat.dvd_trans h1 (Nat.dvd_of_mod_eq_zero hm))
        rw [e, Nat.mul_comm] at h2
        have := even_up.1 h2
        omega
      · exact c
    · intro hm
      have h1 : 2 ^ h ∣ 2 ^ t := Nat.pow_dvd_pow 2 hm
      exact Nat.mod_eq_zero_of_dvd (Nat.dvd_trans h1 ⟨_, e⟩)
end Go.Proofs.YtannhflmnegpbaaDoor

/- A block that stays while a list of one's own grows. -/
namespace Go.Proofs.YtannhflmnegpbaaDoor
open Go.RowKit

end Go.Proofs.YtannhflmnegpbaaDoor

/- What Span answers. -/
namespace Go.Proofs.YtannhflmnegpbaaDoor
open Go.RowKit

end Go.Proofs.YtannhflmnegpbaaDoor

/- What Over answers, of any list of spots. -/
namespace Go.Proofs.YtannhflmnegpbaaDoor
open Go.RowKit

/-- a list of spots lies there. -/
def Lie (w : World) (a : Option Addr) (l : List (Nat × Nat)) : Prop := 0 < l.length → ∃ g o, a = some ⟨g, o, none⟩ ∧ g < w.heap.size ∧ ∀ (j h k : Nat), l[j]? = some (h, k) → w.cell? ⟨g, o + j * 2, none⟩ = some (.int .u8 (h : Int)) ∧ w.cell? ⟨g, o + j * 2 + 1, none⟩ = some (.int .u64 (k : Int))
theorem Lie.below {w w' : World} {a : Option Addr} {l : List (Nat × Nat)} (h : Lie w a l) (hb : Below w.heap.size w w') : Lie w' a l := fun h0 => by
  obtain ⟨g, o, e, hg, hc⟩ := h h0
  exact ⟨g, o, e, Nat.lt_of_lt_of_le hg hb.size, fun j x y he => ⟨(hb.cell (p := ⟨g, o + j * 2, none⟩) hg).trans (hc j x y he).1, (hb.cell (p := ⟨g, o + j * 2 + 1, none⟩) hg).trans (hc j x y he).2⟩⟩
end Go.Proofs.YtannhflmnegpbaaDoor
