/- Texts of ManyClimbs, one behind the other: PosPeaksCall, PosKin, PosPlace, PosOk, ManySearch, ManyPlain. -/
import Derived.RangeFuncNested
import Derived.Deep.QuietTactic
import Derived.BigQuiet
import Derived.Deep.RegionHeld3
import Derived.Test.YtlicfinmibbpdaaGreatDoorManyClimbsP3
/- What Peaks answers: the places of the peaks, in a list of its own. -/
namespace Go.Proofs.YtlicfinmibbpdaaGreatDoor
open Go.RowKit Go.Shelf

attribute [local go_sem] Oper.semAt_some

/-- numbers as cells. -/
def UCELLS (l : List Nat) : List Value := l.map fun (x : Nat) => Value.int .u64 (x : Int)
theorem UCELLS_snoc (l : List Nat) (x : Nat) : UCELLS (l ++ [x]) = UCELLS l ++ [.int .u64 (x : Int)] := by simp [UCELLS]
theorem UCELLS_length (l : List Nat) : (UCELLS l).length = l.length := by simp [UCELLS]
theorem info_u64 : (Tryz.prog.info? 23).map (fun i => (i.zero, i.size, i.bytes)) = some (some (.int .u64 0), 1, 8) := by kernel_rfl
theorem make_u64 (n : Nat) (hn : n ≤ 64) (w : World) : ∃ cur : Array Value, cur.size = n ∧ (Instr.makeSlice 24 (.int .i64 0) (.int .i64 (n : Int))).run Tryz.prog w = .ok (.slice (some ⟨w.heap.size, 0, none⟩) 0 n) (w.alloc (.cells cur 23)) := by
  obtain ⟨i, hi, hz, hs1, hby⟩ := info_parts info_u64
  have h := run_make (P := Tryz.prog) w 24 23 i (.int .u64 0) Tryz.underlying24 hi hz .i64 .i64 0 n (by omega) (by omega) (by rw [hby]; omega) (by omega)
  refine ⟨_, ?_, h⟩
  rw [size_madeCells, hs1]
  omega
/-- the heights that have come. -/
def HTS (pre : List (Nat × Fin 64)) : List Nat := pre.map fun x => x.2.val
theorem HTS_snoc (pre : List (Nat × Fin 64)) (x : Nat × Fin 64) : HTS (pre ++ [x]) = HTS pre ++ [x.2.val] := by simp [HTS]
theorem ST_length (l : List Nat) : (ST l).2.length = l.length := by
  have key : ∀ (l : List Nat) (s : Nat × List Nat), (l.foldl (fun s h => ((s.1 + TREE h) % 2 ^ 64, s.2 ++ [((s.1 + TREE h) % 2 ^ 64 + (2 ^ 64 - 1)) % 2 ^ 64])) s).2.length = s.2.length + l.length := by
    intro l
    induction l with
    | nil => intro s; simp
    | cons h l ih =>
      intro s
      rw [List.foldl_cons, ih]
      simp
      omega
  have := key l (0, [])
  simpa [ST] using this
theorem ST_lt (l : List Nat) : (ST l).1 < 2 ^ 64 := by
  rcases List.eq_nil_or_concat l with rfl | ⟨i, x, rfl⟩
  · simp [ST]
  · rw [List.concat_eq_append, ST_snoc]
    exact Nat.mod_lt _ (by decide)
theorem HTS_back (X : Nat) (f : Nat → Fin 64) (hf : ∀ j, j < POP X → (f j).val = PLACE X j) : HTS (UPTO (BACK (POP X) f) (POP X)) = (PLACES X).reverse := by
  apply List.ext_getElem?
  intro j
  by_cases hj : j < POP X
  · rw [List.getElem?_reverse (by rw [PLACES_length]; exact hj), PLACES_length, PLACE_at (by omega), ← hf _ (by omega)]
    simp [HTS, UPTO, BACK, hj]
  · rw [List.getElem?_eq_none (by simp [HTS, UPTO]; omega), List.getElem?_eq_none (by rw [List.length_reverse, PLACES_length]; omega)]

theorem own_mono {w : World} {base base' : Nat} {t : TypeId} {s : Nat} {v : Value} {n : Nat} {xs : List Value} (h : w.ownsRow base t s v n xs) (hb : base' ≤ base) : w.ownsRow base' t s v n xs :=
  ⟨h.1, h.2.imp id fun ⟨g, c, cur, a, b, r⟩ => ⟨g, c, cur, a, Nat.le_trans hb b, r⟩⟩
set_option maxRecDepth 100000 in
set_option maxHeartbeats 2000000 in
theorem peaks_ok (X : Nat) (hX : X ≤ 4611686018427387904) (w : World) (hT : Tabled w) (h0 : 0 < w.heap.size) : Calls Tryz.prog 69 #[.int .u64 (X : Int)] w fun e w' =>
    ∃ g cap, e = .returned (.slice (some ⟨g, 0, none⟩) (PC X) cap) ∧ w'.ownsRow w.heap.size 23 1 (.slice (some ⟨g, 0, none⟩) (PC X) cap) (PC X) (UCELLS (PEAKS X)) ∧ Below w.heap.size w w' := by
  obtain ⟨i0, hi, hz0, hz1, hz2⟩ := info_parts info_u64
  have cb := bits_ok X (by omega) w hT h0
  have hle := POP_le X
  obtain ⟨f, hf⟩ : ∃ f : Nat → Fin 64, ∀ j, j < POP X → (f j).val = PLACE X j := ⟨fun j => if h : j < POP X then ⟨PLACE X j, by have := PLACE_le h; omega⟩ else 0, fun j hj => by simp [hj]⟩
  have hba := HTS_back X f hf
  have hplc := fun (w' : World) (base g n cap : Nat) (h : w'.ownsRow base 3 1 (.slice (some ⟨g, 0, none⟩) n cap) n (ICELLS (PLACES X))) => places_at h
  have hpc : POP X = PC X := POP_PC (by omega)
  generalize POP X = p at *
  obtain ⟨L, hL⟩ : ∃ L, ICELLS (PLACES X) = L := ⟨_, rfl⟩
  simp only [hL] at hplc cb
  have HA : Aside (HTS (UPTO (BACK p f) p) = (PLACES X).reverse ∧ p = PC X ∧ X ≤ 4611686018427387904) := ⟨hba, hpc, hX⟩
  clear hba hpc hX hL hT h0
  have hd : ¬ (4611686018427387904 : Int) < (X : Int) := by have := HA.out.2.2; omega
  refine (callsIn_wide (n := 5)).1 ?_
  refine callsIn_of_wp_marks Tryz.func69 rfl trivial ?_ rfl
  simp only [Tryz.ntmps69, List.size_toArray, List.length_cons, List.length_nil, Nat.reduceAdd, Nat.reduceSub, Array.replicate_succ, Array.replicate_zero, List.push_toArray, List.append_toArray, List.nil_append, List.cons_append]
  gi_wp2_with fail
  refine ⟨trivial, (callsIn_wide.2 cb).mono ?_⟩
  rintro e w1 ⟨g, cap, rfl, hrow, hg, hb⟩
  clear cb
  obtain ⟨cur, hcs, hmk⟩ := make_u64 p hle w1
  gi_wp2_with fail
  refine ⟨trivial, (backward_in Fence.wide 4 trivial rfl _ _ _ _).mono ?_⟩
  rintro e w2 ⟨rfl, rfl⟩
  obtain ⟨s1, hs1⟩ : ∃ s1, w1.heap.size = s1 := ⟨_, rfl⟩
  have bO := Boxed.new (w1.alloc (.cells cur 23)) 24 (.slice (some ⟨w1.heap.size, 0, none⟩) 0 p)
  have bM := Boxed.new ((w1.alloc (.cells cur 23)).alloc (.cells #[.slice (some ⟨w1.heap.size, 0, none⟩) 0 p] 24)) 23 (.int .u64 0)
  have bN := Boxed.new (((w1.alloc (.cells cur 23)).alloc (.cells #[.slice (some ⟨w1.heap.size, 0, none⟩) 0 p] 24)).alloc (.cells #[.int .u64 0] 23)) 142 (.slice (some ⟨g, 0, none⟩) p cap)
  have hr0 : (w1.alloc (.cells cur 23)).ownsRow s1 23 1 (.slice (some ⟨s1, 0, none⟩) 0 p) 0 [] := by
    rw [← hs1]
    exact World.ownsRow_made w1 cur p (Nat.le_refl _) (by simp only [maxLen]; omega) (by rw [hcs]; omega)
  simp only [World.size_alloc, hs1] at bO bM bN ⊢
  have bO := (bO.alloc (.cells #[.int .u64 0] 23)).alloc (.cells #[.slice (some ⟨g, 0, none⟩) p cap] 142)
  have bM := bM.alloc (.cells #[.slice (some ⟨g, 0, none⟩) p cap] 142)
  have hr0 := ((hr0.alloc (.cells #[.slice (some ⟨s1, 0, none⟩) 0 p] 24)).alloc (.cells #[.int .u64 0] 23)).alloc (.cells #[.slice (some ⟨g, 0, none⟩) p cap] 142)
  have hB1 : Below s1 w1 ((((w1.alloc (.cells cur 23)).alloc (.cells #[.slice (some ⟨s1, 0, none⟩) 0 p] 24)).alloc (.cells #[.int .u64 0] 23)).alloc (.cells #[.slice (some ⟨g, 0, none⟩) p cap] 142)) :=
    ((((Below.refl _ w1).alloc (by omega) _).alloc (by simp; omega) _).alloc (by simp; omega) _).alloc (by simp; omega) _
  have hgs : g < s1 := by omega
  have hcg : ∀ j, j < p → w1.cell? ⟨g, j, none⟩ = some (.int .i64 ((f j).val : Int)) := fun j hj => by rw [hf j hj]; exact hplc _ _ _ _ _ hrow j hj
  have hsz : ((((w1.alloc (.cells cur 23)).alloc (.cells #[.slice (some ⟨s1, 0, none⟩) 0 p] 24)).alloc (.cells #[.int .u64 0] 23)).alloc (.cells #[.slice (some ⟨g, 0, none⟩) p cap] 142)).heap.size = s1 + 4 := by simp; omega
  obtain ⟨W0, hW0⟩ : ∃ W0, ((((w1.alloc (.cells cur 23)).alloc (.cells #[.slice (some ⟨s1, 0, none⟩) 0 p] 24)).alloc (.cells #[.int .u64 0] 23)).alloc (.cells #[.slice (some ⟨g, 0, none⟩) p cap] 142)) = W0 := ⟨_, rfl⟩
  rw [hW0] at bO bM bN hr0 hB1 hsz ⊢
  have hbw : Below w.heap.size w W0 := hb.trans (hB1.mono (by have := hb.size; omega))
  clear hW0
  gi_wp2_with fail
  refine wpIn_rangeFunc_ownG rfl (by omega) (gf := 133) (lb := #[.pointer (some ⟨s1 + 1 + 1 + 1, 0, none⟩)]) rfl trivial (enters_of Tryz.func133 (by kernel_rfl) rfl)
    (backward_stops Fence.wide (5 - 1) trivial rfl (by omega) (s1 + 1 + 1 + 1) s1 g p cap f hle hgs W0 (by omega) (by omega) bN.cell (fun j hj => (hB1.cell (p := ⟨g, j, none⟩) hgs).trans (hcg j hj)))
    KB.t (KB.b (by omega) (by omega)) (Below.refl _ _) (fun _ => rfl)
    (fun pre W => ((∃ v, Boxed W (s1 + 1) 24 v ∧ W.ownsRow s1 23 1 v pre.length (UCELLS (ST (HTS pre)).2) ∧ v = .slice (some ⟨s1, 0, none⟩) pre.length p) ∧ Boxed W (s1 + 1 + 1) 23 (.int .u64 ((ST (HTS pre)).1 : Int)) ∧ Boxed W (s1 + 1 + 1 + 1) 142 (.slice (some ⟨g, 0, none⟩) p cap)) ∧ Below w.heap.size w W)
    (fun _ _ _ => False)
    (OwnFrom.and (OwnFrom.and (Own.from (holdsRow_own s1 (s1 + 1) 24 23 1 (fun pre => pre.length) (fun pre => UCELLS (ST (HTS pre)).2) (fun pre v => v = .slice (some ⟨s1, 0, none⟩) pre.length p)) _) (OwnFrom.and (Own.from (boxed_own _ _ _) _) (Own.from (boxed_own _ _ _) _))) (ownFrom_below (Nat.le_refl _) (by have := hb.size; omega)))
    (fun _ _ _ _ _ hs _ _ => hs)
    ⟨⟨⟨_, bO, hr0, rfl⟩, bM, bN⟩, hbw⟩
    (fun x => { tmps := #[.int .u64 (X : Int), undef, .slice none 0 0, .slice (some ⟨g, 0, none⟩) p cap, .pointer (some ⟨s1 + 1, 0, none⟩), .pointer (some ⟨s1 + 1 + 1, 0, none⟩), undef, .int .i64 (x.2.val : Int), .int .u64 (X : Int), .bool false, .int .u64 (X : Int), .slice (some ⟨g, 0, none⟩) p cap, .slice (some ⟨g, 0, none⟩) p cap, .int .i64 (p : Int), .slice (some ⟨s1, 0, none⟩) 0 p, .slice (some ⟨g, 0, none⟩) p cap, .func (.func 133) #[] #[.pointer (some ⟨s1 + 1 + 1 + 1, 0, none⟩)], .int .i64 (x.1 : Int), .int .i64 (x.2.val : Int), undef, undef, undef, undef, undef, undef, undef, undef, undef, undef], defers := [] }) ?assign ?body ?done ?stop
  case assign =>
    intro l x W K hK
    gi_wp2
    exact hK
  case body =>
    rintro l pre x W ⟨⟨⟨v, bO, hrow, rfl⟩, bM, bN⟩, hB⟩ hlt
    have hsn := ST_snoc (HTS pre) x.2.val
    have hml := ST_lt (HTS pre)
    have hsl := ST_length (HTS pre)
    rw [show (HTS pre).length = pre.length by simp [HTS]] at hsl
    obtain ⟨m, hm⟩ : ∃ m, (ST (HTS pre)).1 = m := ⟨_, rfl⟩
    obtain ⟨ls, hls⟩ : ∃ ls, (ST (HTS pre)).2 = ls := ⟨_, rfl⟩
    have ct := fun w => tree_ok x.2.val (by omega) w
    obtain ⟨t, ht⟩ : ∃ t, TREE x.2.val = t := ⟨_, rfl⟩
    rw [hm, hls, ht] at hsn
    rw [hm] at hml bM
    rw [hls] at hsl hrow
    rw [ht] at ct
    obtain ⟨m2, hm2⟩ : ∃ m2, (m + t) % 2 ^ 64 = m2 := ⟨_, rfl⟩
    obtain ⟨q, hq⟩ : ∃ q, (m2 + (2 ^ 64 - 1)) % 2 ^ 64 = q := ⟨_, rfl⟩
    rw [hm2, hq] at hsn
    have e1 : IntKind.u64.wrap ((m : Int) + (t : Int)) = (m2 : Int) := by rw [wrapU]; omega
    have e2 : IntKind.u64.wrap ((m2 : Int) - 1) = (q : Int) := by rw [wrapU]; omega
    have R : Aside (ST (HTS (pre ++ [x])) = (m2, ls ++ [q]) ∧ ls.length = pre.length ∧ pre.length < p) := ⟨by rw [HTS_snoc]; exact hsn, hsl, hlt⟩
    clear hsn hml hsl hlt hm hls ht hm2 hq
    have hc4 := bO.cell
    have hc5 := bM.cell
    have hf5 := bM.frozen
    have hmx : Tryz.prog.follows .mixedOrders = true := by kernel_rfl
    clear hplc hf hcg hz0 hz2
    have hsW : s1 + 4 ≤ W.heap.size := by have := bN.lt; omega
    obtain ⟨W5, hW5⟩ : ∃ W5, (W.setCell ⟨s1 + 1 + 1, 0, none⟩ (.int .u64 (m2 : Int))).drew = W5 := ⟨_, rfl⟩
    have bO5 : Boxed W5 (s1 + 1) 24 (.slice (some ⟨s1, 0, none⟩) pre.length p) := by rw [← hW5]; exact bO.other (by omega) _
    have bM5 : Boxed W5 (s1 + 1 + 1) 23 (.int .u64 (m2 : Int)) := by rw [← hW5]; exact bM.set _
    have bN5 : Boxed W5 (s1 + 1 + 1 + 1) 142 (.slice (some ⟨g, 0, none⟩) p cap) := by rw [← hW5]; exact bN.other (by omega) _
    have hrow5 : W5.ownsRow s1 23 1 (.slice (some ⟨s1, 0, none⟩) pre.length p) pre.length (UCELLS ls) := by rw [← hW5]; exact (hrow.kept (grownBy_setCell' W (s1 + 1 + 1) (.int .u64 (m2 : Int))) (.inr (by simp [Value.ownBlock]; omega))).drew
    have hk5 : KeepsOthers W W5 := by rw [← hW5]; exact (KeepsOthers.setCell _ _ _).trans (KeepsOthers.drew _)
    have hb5 : Below s1 W W5 := by rw [← hW5]; exact ((Below.refl s1 W).setCell (p := ⟨s1 + 1 + 1, 0, none⟩) (by show s1 ≤ s1 + 1 + 1; omega) _).drew
    have hs5 : s1 + 4 ≤ W5.heap.size := by have := bN5.lt; omega
    have hcN : W.cell? ⟨s1 + 1 + 1 + 1, 0, none⟩ = some (.slice (some ⟨g, 0, none⟩) p cap) := bN.cell
    gi_wp2
    gi_region_with_o (refine ⟨trivial, ?_⟩; gi_at_call 106; refine (CallsIn.inRound l (callsIn_wide.2 (ct _))).mono ?_; rintro e w' ⟨rfl, rfl⟩)
    all_goals clear hc4 hc5 hf5 bO bM bN hrow ct
    all_goals have hc4 := bO5.cell
    all_goals have hc5 := bM5.cell
    all_goals gi_wp2_with (gi_at_builtin; refine wpListIn_append_fits _ rfl _ _ 24 rfl s1 23 i0 1 Tryz.underlying24 hi hz1 s1 pre.length p (UCELLS ls) rfl (hrow5.alloc _) ⟨W5.heap.size, 0, none⟩ 1 1 [.int .u64 (q : Int)] rfl rfl (cell_one_new _ _ _) (by simp [Value.oneCell']) (by have := R.out.2.2; omega) ?_; intro w1' hown' hgrow; obtain ⟨hv1, hv2, hr2, hk2, hb2⟩ := bO5.appended (by decide) hrow5 (by omega) (by omega) hown' hgrow; have hc1 := hv1.cell; have hf1 := hv1.frozen)
    all_goals have bN6 := ((bN5.alloc (.cells #[.int .u64 (q : Int)] 23)).kept hgrow (by simp; omega)).other (B' := s1 + 1) (by omega) (.slice (some ⟨s1, 0, none⟩) (pre.length + 1) p)
    all_goals have bM6 := ((bM5.alloc (.cells #[.int .u64 (q : Int)] 23)).kept hgrow (by simp; omega)).other (B' := s1 + 1) (by omega) (.slice (some ⟨s1, 0, none⟩) (pre.length + 1) p)
    all_goals obtain ⟨r1, r2, r3⟩ := R.out
    all_goals refine ⟨(hk5.trans hk2).from _, ⟨hb5.trans hb2, bN6.cell.trans hcN.symm⟩, ⟨⟨_, hv2, ?_, by simp⟩, ?_, bN6⟩, hB.trans ((hb5.trans hb2).mono (by have := hb.size; omega))⟩
    all_goals rw [r1]
    all_goals first | exact bM6 | (rw [UCELLS_snoc, List.length_append]; exact hr2)
  case done =>
    rintro D ys W hD hys ⟨⟨⟨v, bO, hrow, rfl⟩, bM, bN⟩, hB⟩ hK
    have hc := bO.cell
    gi_wp2
    refine ⟨by simp, .inl ⟨_, _, rfl, run_takeDeferred hK, ?_⟩⟩
    have hys' : ys = UPTO (BACK p f) p := hys
    subst hys'
    obtain ⟨a1, a2, a3⟩ := HA.out
    have hl : (UPTO (BACK p f) p).length = p := UPTO_length _ _
    rw [hl, a1, ← HS_zero, ST_all a3] at hrow
    refine ⟨_, results_tmp rfl _ _ _, s1, p, ?_, ?_, hB.trans (belowK_b (w := w) (Nat.le_refl _) W D _ _ (by have := hb.size; omega) hK rfl rfl)⟩
    · rw [← a2, hl]
      rfl
    · rw [← a2]
      exact ownsRow_putObj (own_mono hrow (by have := hb.size; omega)) _ hK rfl
  case stop =>
    rintro D c pre W _ _ h _
    exact h.elim
end Go.Proofs.YtlicfinmibbpdaaGreatDoor

/- What Index, Leaves, Parent, Sibling, Kids, Right, Under and Since answer. -/
namespace Go.Proofs.YtlicfinmibbpdaaGreatDoor
open Go.RowKit

/-- Spot answers so at p. -/
def SpotAt (p : Int) (h k : Nat) (ok : Bool) : Prop := ∀ w, Calls Tryz.prog 83 #[.int .u64 p] w fun e w' => e = .returned (.tuple #[SPOT h k, .bool ok]) ∧ Below w.heap.size w w'
theorem SpotAt.node {h k : Nat} (hN : Node h k) : SpotAt ((PLC h k : Nat) : Int) h k true := fun w => spot_ok h k hN w
theorem SpotAt.out {p : Int} (hp : 9223372036854775807 ≤ p) : SpotAt p 0 0 false := fun w => spot_not p hp w

theorem under_raw (p : Int) (h k : Nat) (r s : Int) (w : World) (e0 : IntKind.u64.wrap ((k : Int) + 1) = (k : Int) + 1) (e1 : IntKind.u64.wrap ((k : Int) * 2 ^ min h 64) = r) (e2 : IntKind.u64.wrap (((k : Int) + 1) * 2 ^ min h 64) = s) (cs : SpotAt p h k true) :
    Calls Tryz.prog 107 #[.int .u64 p] w fun e w' => e = .returned (.tuple #[.int .u64 r, .int .u64 s, .bool true]) ∧ Below w.heap.size w w' := by
  have cs := cs w
  go_enter Tryz.func107, Tryz.ntmps107
  go_wp2_with fail
  refine cs.mono ?_
  rintro e w1 ⟨rfl, hb⟩
  clear cs
  have R : Aside (Below w.heap.size w w1) := hb
  clear hb
  go_wp2
  have hc0 : (w1.alloc (.cells #[.int .u8 (h : Int), .int .u64 (k : Int)] 67)).cell? ⟨w1.heap.size, 0, none⟩ = some (.int .u8 (h : Int)) := by simp
  have hc1 : (w1.alloc (.cells #[.int .u8 (h : Int), .int .u64 (k : Int)] 67)).cell? ⟨w1.heap.size, 1, none⟩ = some (.int .u64 (k : Int)) := by simp
  have R2 : Aside (Below w.heap.size w (w1.alloc (.cells #[.int .u8 (h : Int), .int .u64 (k : Int)] 67))) := R.out.alloc R.out.size _
  clear R
  generalize w1.alloc (.cells #[.int .u8 (h : Int), .int .u64 (k : Int)] 67) = W at *
  generalize w1.heap.size = b at *
  go_quiet (fail)
  go_wp2
  go_ret3
  exact ⟨rfl, below_drewN R2.out nq⟩
theorem kids_raw (p q : Int) (h g k : Nat) (r : Int) (w : World) (hh : ((h : Int) == 0) = false) (hm : wrap64 (h : Int) = (h : Int)) (hg : wrap64 ((h : Int) - 1) = (g : Int)) (hq : IntKind.u64.wrap (p - 1) = q) (cs : SpotAt p h k true)
    (co : ∀ w, Calls Tryz.prog 122 #[.int .u64 q, .int .i64 (g : Int), .bool true] w fun e w' => e = .returned (.int .u64 r) ∧ w = w') :
    Calls Tryz.prog 110 #[.int .u64 p] w fun e w' => e = .returned (.tuple #[.int .u64 r, .int .u64 q, .bool true]) ∧ Below w.heap.size w w' := by
  have cs := cs w
  go_enter Tryz.func110, Tryz.ntmps110
  go_wp2_with fail
  refine cs.mono ?_
  rintro e w1 ⟨rfl, hb⟩
  clear cs
  have R : Aside (Below w.heap.size w w1) := hb
  clear hb
  go_wp2_with fail
  refine (co _).mono ?_
  rintro e w2 ⟨rfl, rfl⟩
  clear co
  go_wp2
  go_ret3
  exact ⟨rfl, R.out.alloc R.out.size _⟩
theorem kids_leaf (p : Int) (k : Nat) (w : World) (cs : SpotAt p 0 k true) : Calls Tryz.prog 110 #[.int .u64 p] w fun e w' => e = .returned (.tuple #[.int .u64 0, .int .u64 0, .bool false]) ∧ Below w.heap.size w w' := by
  have cs := cs w
  go_enter Tryz.func110, Tryz.ntmps110
  go_wp2_with fail
  refine cs.mono ?_
  rintro e w1 ⟨rfl, hb⟩
  clear cs
  have R : Aside (Below w.heap.size w w1) := hb
  clear hb
  go_wp2
  go_ret3
  exact ⟨rfl, R.out.alloc R.out.size _⟩
theorem right_raw (p : Int) (h k : Nat) (b : Bool) (w : World) (ha : (bits .and .u64 (k : Int) 1 == 1) = b) (cs : SpotAt p h k true) :
    Calls Tryz.prog 46 #[.int .u64 p] w fun e w' => e = .returned (.bool b) ∧ Below w.heap.size w w' := by
  have cs := cs w
  go_enter Tryz.func46, Tryz.ntmps46
  go_wp2_with fail
  refine cs.mono ?_
  rintro e w1 ⟨rfl, hb⟩
  clear cs
  have R : Aside (Below w.heap.size w w1) := hb
  clear hb
  go_wp2
  go_ret
  exact ⟨rfl, R.out.alloc R.out.size _⟩
end Go.Proofs.YtlicfinmibbpdaaGreatDoor

/- What Place answers. -/
namespace Go.Proofs.YtlicfinmibbpdaaGreatDoor
open Go.RowKit

theorem quiet_eq {P : Program} {f : FuncId} {args : Array Value} {w : World} {n : Nat} {v : Value}
    (h : Calls P f args (w.drewN n) fun e w' => e = .returned v ∧ w.drewN n = w') : Calls P f args (w.drewN n) fun e w'' => e = .returned v ∧ ∃ m, w'' = w.drewN m :=
  h.mono fun _ _ ⟨he, hm⟩ => ⟨he, n, hm.symm⟩
end Go.Proofs.YtlicfinmibbpdaaGreatDoor

/- What the functions of package pos answer, node by node. -/
namespace Go.Proofs.YtlicfinmibbpdaaGreatDoor
open Go.RowKit

theorem and_one (k : Nat) (hk : k < 2 ^ 64) : bits .and .u64 (k : Int) 1 = ((k % 2 : Nat) : Int) := by
  have : bits .and .u64 (k : Int) ((1 : Nat) : Int) = ((k &&& 1 : Nat) : Int) := and_eq hk (by decide)
  rw [Nat.and_one_is_mod] at this
  exact this
theorem odd_eq (k : Nat) (hk : k < 2 ^ 64) : (bits .and .u64 (k : Int) 1 == 1) = decide (k % 2 = 1) := by
  rw [and_one k hk, Bool.eq_iff_iff]
  simp
  omega
theorem shift_eq (a h : Nat) (hh : h ≤ 62) (hl : a * 2 ^ h < 2 ^ 64) : IntKind.u64.wrap ((a : Int) * 2 ^ min h 64) = ((a * 2 ^ h : Nat) : Int) := by
  rw [show min h 64 = h by omega, mul_cast, Nat.mod_eq_of_lt hl]
theorem Node.kid {h k : Nat} (a : Node (h + 1) k) : Node h (2 * k) ∧ Node h (2 * k + 1) := by
  have h1 := a.1
  have h2 := a.2
  have e : 2 ^ (62 - h) = 2 ^ (62 - (h + 1)) * 2 := by rw [← Nat.pow_succ]; congr 1; omega
  exact ⟨⟨by omega, by rw [e]; omega⟩, ⟨by omega, by rw [e]; omega⟩⟩
theorem kids_ok (h k : Nat) (hN : Node (h + 1) k) (w : World) : Calls Tryz.prog 110 #[.int .u64 ((PLC (h + 1) k : Nat) : Int)] w fun e w' => e = .returned (.tuple #[.int .u64 ((PLC h (2 * k) : Nat) : Int), .int .u64 ((PLC h (2 * k + 1) : Nat) : Int), .bool true]) ∧ Below w.heap.size w w' := by
  have h1 := hN.1
  have h2 := PLC_up_right h k
  have h3 := PLC_sib h k
  have h4 := hN.lt
  refine kids_raw _ ((PLC h (2 * k + 1) : Nat) : Int) (h + 1) h k _ w (by simp; omega) (by unfold wrap64; omega) (by unfold wrap64; omega) (by rw [wrapU]; omega) (.node hN) (fun w => ?_)
  have := beside_right (PLC h (2 * k + 1) : Nat) (h : Int) (TREE h : Nat) w (fun w => tree_ok h (by omega) w)
  rw [show IntKind.u64.wrap (((PLC h (2 * k + 1) : Nat) : Int) - ((TREE h : Nat) : Int)) = ((PLC h (2 * k) : Nat) : Int) by rw [wrapU]; omega] at this
  exact this
theorem right_ok (h k : Nat) (hN : Node h k) (w : World) : Calls Tryz.prog 46 #[.int .u64 ((PLC h k : Nat) : Int)] w fun e w' => e = .returned (.bool (decide (k % 2 = 1))) ∧ Below w.heap.size w w' :=
  right_raw _ h k _ w (odd_eq k (by have := hN.index_lt; omega)) (.node hN)
theorem under_ok (h k : Nat) (hN : Node h k) (w : World) : Calls Tryz.prog 107 #[.int .u64 ((PLC h k : Nat) : Int)] w fun e w' => e = .returned (.tuple #[.int .u64 ((k * 2 ^ h : Nat) : Int), .int .u64 (((k + 1) * 2 ^ h : Nat) : Int), .bool true]) ∧ Below w.heap.size w w' := by
  have h1 := hN.1
  have h3 := hN.span
  have h4 := hN.index_lt
  have h5 : k * 2 ^ h ≤ (k + 1) * 2 ^ h := Nat.mul_le_mul_right _ (by omega)
  refine under_raw _ h k _ _ w (by rw [wrapU]; omega) (shift_eq k h h1 (by omega)) ?_ (.node hN)
  have := shift_eq (k + 1) h h1 (by omega)
  rw [show (((k + 1 : Nat)) : Int) = (k : Int) + 1 by omega] at this
  exact this
end Go.Proofs.YtlicfinmibbpdaaGreatDoor

/- A list of numbers that lies there; slices.BinarySearch over a rising one. -/
namespace Go.Proofs.YtlicfinmibbpdaaGreatDoor
open Go.RowKit
set_option maxRecDepth 100000

/-- numbers that lie there, at any place of a block. -/
def NUML (w : World) (a : Option Addr) (L : List Nat) : Prop := 0 < L.length → ∃ b o, a = some ⟨b, o, none⟩ ∧ b < w.heap.size ∧ ∀ i x, L[i]? = some x → w.cell? ⟨b, o + i, none⟩ = some (.int .u64 ((x : Nat) : Int))
theorem NUML.below {w w' : World} {a : Option Addr} {L : List Nat} {B : Nat} (h : NUML w a L) (hb : Below B w w') (hB : ∀ x, a = some x → x.block < B) : NUML w' a L := fun h0 => by
  obtain ⟨b, o, e, hl, hc⟩ := h h0
  have h1 : b < B := hB _ e
  exact ⟨b, o, e, by have := hb.size; omega, fun i x hx => (hb.cell (p := ⟨b, o + i, none⟩) h1).trans (hc i x hx)⟩
/-- each one above the one ahead. -/
def RISES (L : List Nat) : Prop := ∀ (i j x y : Nat), i < j → L[i]? = some x → L[j]? = some y → x < y
theorem mid_lt {i j : Nat} (h : i < j) : ∃ m, i ≤ m ∧ m < j ∧ m = (i + j) / 2 := ⟨(i + j) / 2, by omega, by omega, rfl⟩
theorem search_wraps (i j S m : Nat) (hj : j < 2 ^ 40) (hi : i < j) (hS : i + j = S) (hm : m = (i + j) / 2) : wrap64 ((i : Int) + (j : Int)) = (S : Int) ∧ IntKind.u64.wrap ((i : Int) + (j : Int)) = (S : Int) ∧ (S : Int) / 2 = (m : Int) ∧ wrap64 (m : Int) = (m : Int) ∧ wrap64 ((m : Int) + 1) = ((m + 1 : Nat) : Int) ∧ IntKind.u64.wrap (S : Int) = (S : Int) := by
  rw [wrapU, wrapU]
  unfold wrap64
  omega
theorem isnan_ok (x : Int) (w : World) : Calls Tryz.prog 136 #[.int .u64 x] w fun e w' => e = .returned (.bool false) ∧ w = w' := by
  go_enter Tryz.func136, Tryz.ntmps136
  go_wp2
  go_ret
  exact ⟨rfl, rfl⟩
theorem cmpnan_ok (x : Int) (w : World) : Calls Tryz.prog 155 #[.int .u64 x] w fun e w' => e = .returned (.bool false) ∧ w = w' := by
  go_enter Tryz.func155, Tryz.ntmps155
  go_wp2
  go_ret
  exact ⟨rfl, rfl⟩
theorem less_ok (x y : Nat) (w : World) : Calls Tryz.prog 135 #[.int .u64 (x : Int), .int .u64 (y : Int)] w fun e w' => e = .returned (.bool (decide (x < y))) ∧ w = w' := by
  have c := cmpnan_ok (x : Int) w
  go_enter Tryz.func135, Tryz.ntmps135
  go_wp2_with fail
  refine c.mono ?_
  rintro e w' ⟨rfl, rfl⟩
  clear c
  go_wp2_with fail
  go_ret
  exact ⟨rfl, rfl⟩
theorem less_yes (x y : Nat) (h : x < y) (w : World) : Calls Tryz.prog 135 #[.int .u64 (x : Int), .int .u64 (y : Int)] w fun e w' => e = .returned (.bool true) ∧ w = w' := by
  have := less_ok x y w
  rwa [decide_eq_true h] at this
theorem less_no (x y : Nat) (h : ¬ x < y) (w : World) : Calls Tryz.prog 135 #[.int .u64 (x : Int), .int .u64 (y : Int)] w fun e w' => e = .returned (.bool false) ∧ w = w' := by
  have := less_ok x y w
  rwa [decide_eq_false h] at this
/-- k of them are below t. -/
structure RANKS (L : List Nat) (t k : Nat) : Prop where
  le : k ≤ L.length
  lo : ∀ i x, i < k → L[i]? = some x → x < t
  hi : ∀ i x, k ≤ i → L[i]? = some x → t ≤ x
def SOUGHT (L : List Nat) (t : Nat) (w : World) (e : Ending) (w' : World) : Prop := ∃ (k : Nat) (b : Bool), e = .returned (.tuple #[.int .i64 (k : Int), .bool b]) ∧ RANKS L t k ∧ w = w'
set_option maxHeartbeats 1000000 in
theorem search_ok (a : Option Addr) (n cap : Nat) (L : List Nat) (t : Nat) (hl : L.length = n) (hn : n < 2 ^ 40) (hR : RISES L) (w : World) (hL : NUML w a L) : Calls Tryz.prog 108 #[.slice a n cap, .int .u64 (t : Int)] w fun e w' => SOUGHT L t w e w' := by
  have H : Aside (L.length = n ∧ n < 2 ^ 40 ∧ RISES L ∧ NUML w a L) := ⟨hl, hn, hR, hL⟩
  clear hl hn hR hL
  go_enter Tryz.func108, Tryz.ntmps108
  go_wp2
  go_loopg [7, 8] n (fun gg s7 s8 wx => ∃ i j : Nat, s7 = .int .i64 (i : Int) ∧ s8 = .int .i64 (j : Int) ∧ Aside (i + gg = j ∧ j ≤ n ∧ (∀ (k : Nat) (x : Nat), k < i → L[k]? = some x → x < t) ∧ (∀ (k : Nat) (x : Nat), j ≤ k → L[k]? = some x → t ≤ x)) ∧ wx = w)
  case atStart => exact ⟨0, n, rfl, rfl, ⟨by omega, Nat.le_refl _, fun k x h => by omega, fun k x h e => by have := (List.getElem?_eq_some_iff.1 e).1; have := H.out.1; omega⟩, rfl⟩
  case round =>
    obtain ⟨i, j, rfl, rfl, I, rfl⟩ := hrel
    cases gk with
    | zero =>
      obtain ⟨i1, i2, i3, i4⟩ := I.out
      obtain rfl : i = j := by omega
      have hlt : ¬ (i : Int) < (i : Int) := by omega
      rcases Nat.lt_or_ge i n with hin | hin
      · have hi2 : (i : Int) < (n : Int) := by omega
        have hi0 : (0 : Int) ≤ (i : Int) := by omega
        obtain ⟨h1, h2, h3, h4⟩ := H.out
        obtain ⟨x, ex⟩ : ∃ x, L[i]? = some x := ⟨_, List.getElem?_eq_getElem (by omega)⟩
        obtain ⟨g, o, rfl, hg, hc⟩ := h4 (by omega)
        have x0 := hc i x ex
        have cc := isnan_ok (x : Int)
        have R : Aside (RANKS L t i) := ⟨by omega, i3, i4⟩
        clear i1 i2 i3 i4 h1 h2 h3 h4 hc ex I H
        by_cases hx : x = t
        · subst hx
          go_wp2_with fail
          go_ret2
          exact ⟨i, _, rfl, R.out, rfl⟩
        · have hx' : ¬ (x : Int) = (t : Int) := by omega
          go_wp2_with fail
          refine (cc _).mono ?_
          rintro e w2 ⟨rfl, rfl⟩
          clear cc
          go_wp2_with fail
          go_ret2
          exact ⟨i, _, rfl, R.out, rfl⟩
      · have hi2 : ¬ (i : Int) < (n : Int) := by omega
        have R : Aside (RANKS L t i) := ⟨by have := H.out.1; omega, i3, i4⟩
        clear i1 i2 i3 i4 I H
        go_wp2
        go_ret2
        exact ⟨i, false, rfl, R.out, rfl⟩
    | succ gg =>
      obtain ⟨i1, i2, i3, i4⟩ := I.out
      have hij : (i : Int) < (j : Int) := by omega
      obtain ⟨h1, h2, h3, h4⟩ := H.out
      obtain ⟨m, m1, m2, m3⟩ := mid_lt (i := i) (j := j) (by omega)
      obtain ⟨S, hS⟩ : ∃ S, i + j = S := ⟨_, rfl⟩
      have HW : Aside _ := search_wraps i j S m (by omega) (by omega) hS m3
      clear hS
      have hm2 : (m : Int) < (n : Int) := by omega
      have hm0 : (0 : Int) ≤ (m : Int) := by omega
      obtain ⟨x, ex⟩ : ∃ x, L[m]? = some x := ⟨_, List.getElem?_eq_getElem (by omega)⟩
      obtain ⟨g, o, rfl, hg, hc⟩ := h4 (by omega)
      have x0 := hc m x ex
      have LO : Aside (x < t → ∀ (k : Nat) (y : Nat), k < m + 1 → L[k]? = some y → y < t) := fun h k y hk e => by
        rcases Nat.lt_or_ge k m with hkm | hkm
        · have := h3 k m y x hkm e ex
          omega
        · obtain rfl : k = m := by omega
          rw [ex] at e
          cases e
          exact h
      have HI : Aside (¬ x < t → ∀ (k : Nat) (y : Nat), m ≤ k → L[k]? = some y → t ≤ y) := fun h k y hk e => by
        rcases Nat.lt_or_ge m k with hkm | hkm
        · have := h3 m k x y hkm ex e
          omega
        · obtain rfl : k = m := by omega
          rw [ex] at e
          cases e
          omega
      have R : Aside (i ≤ m ∧ m < j ∧ j ≤ n ∧ i + (gg + 1) = j ∧ (∀ (k : Nat) (y : Nat), k < i → L[k]? = some y → y < t) ∧ (∀ (k : Nat) (y : Nat), j ≤ k → L[k]? = some y → t ≤ y)) := ⟨m1, m2, i2, i1, i3, i4⟩
      clear i1 i2 i3 i4 h1 h2 h3 h4 hc ex I m1 m2 m3
      obtain ⟨q1, q2, q3, q4, q5, q6⟩ := HW.out
      by_cases hlt : x < t
      · have cc := less_yes x t hlt
        have LL : Aside (∀ (k : Nat) (y : Nat), k < m + 1 → L[k]? = some y → y < t) := LO.out hlt
        clear hlt LO HI
        go_wp2_with fail
        refine (cc _).mono ?_
        rintro e w2 ⟨rfl, rfl⟩
        clear cc x0
        go_wp2
        go_roundg (j - (m + 1))
        case measure => have := R.out; clear q1 q2 q3 q4 q5 q6; omega
        case rel => exact ⟨m + 1, j, by first | rfl | (rw [q5]), rfl, ⟨by have := R.out; clear q1 q2 q3 q4 q5 q6; omega, R.out.2.2.1, LL.out, R.out.2.2.2.2.2⟩, rfl⟩
      · have cc := less_no x t hlt
        have LL : Aside (∀ (k : Nat) (y : Nat), m ≤ k → L[k]? = some y → t ≤ y) := HI.out hlt
        clear hlt LO HI
        go_wp2_with fail
        refine (cc _).mono ?_
        rintro e w2 ⟨rfl, rfl⟩
        clear cc x0
        go_wp2
        go_roundg (m - i)
        case measure => have := R.out; clear q1 q2 q3 q4 q5 q6; omega
        case rel => exact ⟨i, m, rfl, by first | rfl | (rw [q4]), ⟨by have := R.out; clear q1 q2 q3 q4 q5 q6; omega, by have := R.out; clear q1 q2 q3 q4 q5 q6; omega, R.out.2.2.2.2.1, LL.out⟩, rfl⟩
end Go.Proofs.YtlicfinmibbpdaaGreatDoor

/- Which nodes leaves need: plain. -/
namespace Go.Proofs.YtlicfinmibbpdaaGreatDoor
set_option maxRecDepth 100000

/-- the places that the leaves L under the k-th node of height h need, rising. -/
def NEED : Nat → Nat → List Nat → List Nat
  | h, k, [] => [PLC h k]
  | 0, _, _ :: _ => []
  | h + 1, k, x :: l => NEED h (2 * k) ((x :: l).filter fun y => decide (y < (2 * k + 1) * 2 ^ h)) ++ NEED h (2 * k + 1) ((x :: l).filter fun y => !decide (y < (2 * k + 1) * 2 ^ h))
theorem NEED_nil (h k : Nat) : NEED h k [] = [PLC h k] := by cases h <;> rfl
theorem NEED_node (h k x : Nat) (l : List Nat) : NEED (h + 1) k (x :: l) = NEED h (2 * k) ((x :: l).filter fun y => decide (y < (2 * k + 1) * 2 ^ h)) ++ NEED h (2 * k + 1) ((x :: l).filter fun y => !decide (y < (2 * k + 1) * 2 ^ h)) := rfl
/-- the first r of a rising list are those below t. -/
theorem RANKS.take : ∀ {L : List Nat} {t r : Nat}, RANKS L t r → L.take r = L.filter fun y => decide (y < t)
  | [], t, r, _ => by simp
  | x :: l, t, 0, h => by
    rw [List.take_zero]
    symm
    rw [List.filter_eq_nil_iff]
    intro y hy
    obtain ⟨i, hi⟩ := List.getElem?_of_mem hy
    have := h.hi i y (Nat.zero_le _) hi
    simp
    omega
  | x :: l, t, r + 1, h => by
    have hx : x < t := h.lo 0 x (by omega) rfl
    have h' : RANKS l t r := ⟨by have := h.le; simp at this; omega, fun i y hi hy => h.lo (i + 1) y (by omega) (by simpa using hy), fun i y hi hy => h.hi (i + 1) y (by omega) (by simpa using hy)⟩
    rw [List.take_succ_cons, List.filter_cons_of_pos (by simpa using hx), h'.take]
theorem RANKS.drop : ∀ {L : List Nat} {t r : Nat}, RANKS L t r → L.drop r = L.filter fun y => !decide (y < t)
  | [], t, r, _ => by simp
  | x :: l, t, 0, h => by
    rw [List.drop_zero]
    symm
    rw [List.filter_eq_self]
    intro y hy
    obtain ⟨i, hi⟩ := List.getElem?_of_mem hy
    have := h.hi i y (Nat.zero_le _) hi
    simp
    omega
  | x :: l, t, r + 1, h => by
    have hx : x < t := h.lo 0 x (by omega) rfl
    have h' : RANKS l t r := ⟨by have := h.le; simp at this; omega, fun i y hi hy => h.lo (i + 1) y (by omega) (by simpa using hy), fun i y hi hy => h.hi (i + 1) y (by omega) (by simpa using hy)⟩
    rw [List.drop_succ_cons, List.filter_cons_of_neg (by simpa using hx), h'.drop]
theorem RISES.take {L : List Nat} (h : RISES L) (r : Nat) : RISES (L.take r) := fun i j x y hij hx hy => by
  rw [List.getElem?_take] at hx hy
  split at hx
  · split at hy
    · exact h i j x y hij hx hy
    · cases hy
  · cases hx
theorem RISES.drop {L : List Nat} (h : RISES L) (r : Nat) : RISES (L.drop r) := fun i j x y hij hx hy => by
  rw [List.getElem?_drop] at hx hy
  exact h (r + i) (r + j) x y (by omega) hx hy
theorem NEED_take {h k r : Nat} {L : List Nat} (hL : L ≠ []) (hr : RANKS L ((2 * k + 1) * 2 ^ h) r) : NEED (h + 1) k L = NEED h (2 * k) (L.take r) ++ NEED h (2 * k + 1) (L.drop r) := by
  cases L with
  | nil => exact absurd rfl hL
  | cons x l => rw [NEED_node, hr.take, hr.drop]
/-- the peaks' leaves, one peak behind the other. -/
def NEEDS : List (Nat × Nat) → List Nat → List Nat
  | [], _ => []
  | (h, k) :: ps, L => NEED h k (L.filter fun y => decide (y < (k + 1) * 2 ^ h)) ++ NEEDS ps (L.filter fun y => !decide (y < (k + 1) * 2 ^ h))
theorem NEEDS_take {h k r : Nat} {L : List Nat} (ps : List (Nat × Nat)) (hr : RANKS L ((k + 1) * 2 ^ h) r) : NEEDS ((h, k) :: ps) L = NEED h k (L.take r) ++ NEEDS ps (L.drop r) := by
  rw [NEEDS, hr.take, hr.drop]
theorem filter_both (p : Nat → Bool) : ∀ l : List Nat, (l.filter p).length + (l.filter fun y => !p y).length = l.length
  | [] => rfl
  | x :: l => by
    have := filter_both p l
    cases h : p x <;> simp [List.filter, h] <;> omega
theorem NEED_bound : ∀ (h k : Nat) (L : List Nat), L ≠ [] → (NEED h k L).length ≤ L.length * h
  | _, _, [], hL => absurd rfl hL
  | 0, _, _ :: _, _ => by simp [NEED]
  | h + 1, k, x :: l, _ => by
    rw [NEED_node, List.length_append]
    generalize hA : ((x :: l).filter fun y => decide (y < (2 * k + 1) * 2 ^ h)) = A
    generalize hB : ((x :: l).filter fun y => !decide (y < (2 * k + 1) * 2 ^ h)) = B
    have hAB : A.length + B.length = (x :: l).length := by
      rw [← hA, ← hB]
      exact filter_both _ _
    have h1 : (NEED h (2 * k) A).length ≤ A.length * h + (if A.length = 0 then 1 else 0) := by
      cases A with
      | nil => rw [NEED_nil]; simp
      | cons y m => exact Nat.le_trans (NEED_bound h (2 * k) (y :: m) (by simp)) (Nat.le_add_right _ _)
    have h2 : (NEED h (2 * k + 1) B).length ≤ B.length * h + (if B.length = 0 then 1 else 0) := by
      cases B with
      | nil => rw [NEED_nil]; simp
      | cons y m => exact Nat.le_trans (NEED_bound h (2 * k + 1) (y :: m) (by simp)) (Nat.le_add_right _ _)
    have h3 : 0 < (x :: l).length := by simp
    have h4 : A.length * h + B.length * h = (x :: l).length * h := by rw [← Nat.add_mul, hAB]
    rw [Nat.mul_succ]
    generalize (NEED h (2 * k) A).length = u at *
    generalize (NEED h (2 * k + 1) B).length = v at *
    generalize A.length * h = p at *
    generalize B.length * h = q at *
    generalize (x :: l).length * h = s at *
    generalize (x :: l).length = m at *
    split at h1 <;> split at h2 <;> omega
theorem NEED_most (h k : Nat) (L : List Nat) : (NEED h k L).length ≤ L.length * h + 1 := by
  cases L with
  | nil => rw [NEED_nil]; simp
  | cons x l => exact Nat.le_trans (NEED_bound h k (x :: l) (by simp)) (Nat.le_add_right _ _)
end Go.Proofs.YtlicfinmibbpdaaGreatDoor
