/- Texts of PartOne, one behind the other: PartEq, PartMost, PartAwake, MmrOf21, PartTreesPlain, MmrListed, MmrRow, MmrMarked, MmrMarks. -/
import Derived.Laws.StructEq
import Derived.Deep.MidRow
import Derived.Test.YtnplhejopmoopaaDoorPartOneP27
/- A parting held against itself. -/
namespace Go.Proofs.YtnplhejopmoopaaDoor
open Go.RowKit
set_option maxRecDepth 100000

theorem eq_fields_same (d : Nat) (xs : Array Value) (w : World) : ∀ (fs : List Field) (ps : List (TypeId × Nat)), fs.map (fun f => (f.name == "_", f.type, f.offset)) = ps.map (fun p => (false, p.1, p.2)) →
    (∀ p ∈ ps, ∃ v, (part p.1 xs p.2).run Tryd.prog w = .ok v w ∧ (Op.equalIn d p.1 v v).run Tryd.prog w = .ok true w) →
    (Op.eqFields d xs xs fs).run Tryd.prog w = .ok true w
  | [], [], _, _ => by simp [Op.eqFields]
  | f :: fs, p :: ps, h, hp => by
    simp only [List.map_cons, List.cons.injEq, Prod.mk.injEq] at h
    obtain ⟨⟨h1, h2, h3⟩, h4⟩ := h
    obtain ⟨v, ha, hs⟩ := hp p (by simp)
    have ih := eq_fields_same d xs w fs ps h4 (fun q hq => hp q (by simp [hq]))
    have hn : f.name ≠ "_" := by simpa using h1
    rw [Op.eqFields, if_pos hn, h2, h3]
    simp [Sem.run_bind, ha, hs, ih]
  | [], _ :: _, h, _ => by simp at h
  | _ :: _, [], h, _ => by simp at h
theorem fields_part : (Tryd.prog.fieldsOf 29).toList.map (fun f => (f.name == "_", f.type, f.offset)) = [(false, 25, 0), (false, 27, 1), (false, 27, 33), (false, 3, 65)] := by kernel_rfl
theorem part_cells (k : Nat) (X Y : Nat → Nat) (q : Nat) : (PTG k X Y q)[0]? = some (.int .u64 (k : Int)) ∧ (PTG k X Y q).extract 1 33 = HX.UARR .u8 32 X ∧ (PTG k X Y q).extract 33 65 = HX.UARR .u8 32 Y ∧ (PTG k X Y q)[65]? = some (.int .i64 (q : Int)) := by
  refine ⟨?_, ?_, ?_, ?_⟩ <;> kernel_rfl
theorem equal_part (k : Nat) (X Y : Nat → Nat) (q : Nat) (w : World) : (Op.equalIn 10000 29 (.agg (PTG k X Y q)) (.agg (PTG k X Y q))).run Tryd.prog w = .ok true w := by
  obtain ⟨e1, e2, e3, e4⟩ := part_cells k X Y q
  have ah : (isAgg 27).run Tryd.prog w = .ok true w := by simp [go_sem]
  have eh : ∀ F : Nat → Nat, (Op.equalIn 9999 27 (.agg (HX.UARR .u8 32 F)) (.agg (HX.UARR .u8 32 F))).run Tryd.prog w = .ok true w := fun F => by
    obtain ⟨i8, hi, _⟩ := Option.map_eq_some_iff.1 info_u8
    rw [run_equalIn_array (P := Tryd.prog) w 9998 (HX.UARR .u8 32 F) (HX.UARR .u8 32 F) Tryd.underlying27 hi]
    have hc : Tryd.prog.cellsOf 5 = 1 := by kernel_rfl
    have ha : ((List.range 32).all fun i => F i == F i) = true := by simp
    rw [hc, HX.items_u8 9997 32 F F w _ (fun i hi => by simpa using hi), ha]
  generalize PTG k X Y q = C at *
  rw [run_equalIn_struct (P := Tryd.prog) w 9999 29 _ _ (by kernel_rfl) (by kernel_rfl)]
  refine eq_fields_same 9999 _ w _ [(25, 0), (27, 1), (27, 33), (3, 65)] fields_part fun p hp => ?_
  simp only [List.mem_cons, List.not_mem_nil, or_false] at hp
  rcases hp with rfl | rfl | rfl | rfl
  · refine ⟨_, run_part_plain (P := Tryd.prog) w (by kernel_rfl) e1, ?_⟩
    rw [run_equalIn_int (P := Tryd.prog) w 9998 25 .u64 .u64 _ _ Tryd.underlying25]
    simp
  · refine ⟨.agg (HX.UARR .u8 32 X), ?_, eh X⟩
    unfold part
    simp [ah, e2]
  · refine ⟨.agg (HX.UARR .u8 32 Y), ?_, eh Y⟩
    unfold part
    simp [ah, e3]
  · refine ⟨_, run_part_plain (P := Tryd.prog) w (by kernel_rfl) e4, ?_⟩
    rw [run_equalIn_int (P := Tryd.prog) w 9998 3 .i64 .i64 _ _ Tryd.underlying3]
    simp
theorem load_mid_if21 {ops : Array Oper} {rest : List Oper} {o : Oper} {a : Act} {w : World} {Q : Exit → Act → World → Prop} (hw : Region.wanted o (yielded ops a.tmps) = true) (ty : TypeId) (x : Operand) (ho : o.op = .load ty x)
    (b off : Nat) (hx : a.eval x = .pointer (some ⟨b, off, none⟩)) (cs : List Value) (d : TypeDesc) (hc : w.rangeAt b off cs) (hu : Tryd.prog.underlying ty = some d) (hd : d.isRow = true) (hi : (Tryd.prog.info? ty).map (·.size) = some cs.length)
    (h : wpList Tryd.prog ops Q rest (a.put o.dst (.agg cs.toArray)) w) : wpList Tryd.prog ops Q (o :: rest) a w := by
  simp only [wpList]
  rw [if_pos hw]
  exact .inl (wp_load_mid ty x ho b off hx cs d hc hu hd hi h)
theorem build_part_if {ops : Array Oper} {rest : List Oper} {o : Oper} {a : Act} {w : World} {Q : Exit → Act → World → Prop} (hw : Region.wanted o (yielded ops a.tmps) = true) (x y z u : Operand) (ho : o.op = .build 29 #[(0, x), (1, y), (2, z), (3, u)]) (k : Nat) (X Y : Nat → Nat) (q : Nat) (hx : a.eval x = .int .u64 (k : Int)) (hy : a.eval y = .agg (HX.UARR .u8 32 X)) (hz : a.eval z = .agg (HX.UARR .u8 32 Y)) (hu : a.eval u = .int .i64 (q : Int))
    (C : Array Value) (hC : PTG k X Y q = C) (h : wpList Tryd.prog ops Q rest (a.put o.dst (.agg C)) w) : wpList Tryd.prog ops Q (o :: rest) a w := by
  have e : Tryd.prog.built 29 ((#[(0, x), (1, y), (2, z), (3, u)] : Array (Nat × Operand)).map fun (i, x) => (i, a.eval x)).toList = some (PTG k X Y q) := by
    simp only [List.map_toArray, List.map_cons, List.map_nil, hx, hy, hz, hu]
    exact built_part k X Y q
  simp only [wpList]
  rw [if_pos hw]
  refine .inl (wp_build 29 _ ho (by rw [e]; rfl) ?_)
  rw [e]
  show wpList Tryd.prog ops Q rest (a.put o.dst (.agg (PTG k X Y q))) w
  rw [hC]
  exact h
theorem Has.part {w : World} {g : Nat} {C : Array Value} {t : TypeId} (h : Has w g C t) : w.rangeAt g 0 C.toList := fun j v hv => by
  rw [Nat.zero_add, h.cell, ← hv]
  simp
/-- a block is made for a parting, and it is laid down. -/
theorem part_put (w : World) (C D : Array Value) (hC : C.size = 66) (hD : D.size = 66) (h1 : D.all (·.oneCell') = true) : ∃ W : World, (storeCells ⟨w.heap.size, 0, none⟩ D.toList 0).run Tryd.prog (w.alloc (.cells C 29)) = .ok () W ∧ Has W w.heap.size D 29 ∧ Below w.heap.size w W := by
  have h := Has.new w C 29
  exact ⟨_, store_part h hC hD h1, h.row _, below_row ((Below.refl _ _).alloc (Nat.le_refl _) _) (Nat.le_refl _) _⟩
end Go.Proofs.YtnplhejopmoopaaDoor

/- part.Most. -/
namespace Go.Proofs.YtnplhejopmoopaaDoor
open Go.RowKit
set_option maxRecDepth 100000

set_option maxHeartbeats 1000000 in
theorem most_ok (n : Nat) (hn : n < 2 ^ 64) (w : World) : Calls Tryd.prog 9 #[.int .u64 (n : Int)] w fun e w' => e = .returned (.int .i64 ((MOSTP n : Nat) : Int)) ∧ w = w' := by
  have cl := len_ok n hn w
  by_cases h0 : n = 0
  · subst h0
    have e : MOSTP 0 = 0 := rfl
    rw [e]
    clear cl hn
    go_enter Tryd.func9, Tryd.ntmps9
    go_wp2
    go_ret
    exact ⟨rfl, rfl⟩
  · have h1 : ((n : Int) == 0) = false := beq_eq_false_iff_ne.2 (by omega)
    by_cases hb : 4611686018427387904 < n
    · have e : MOSTP n = 0 := by unfold MOSTP; rw [if_pos (.inr hb)]
      have h2 : (4611686018427387904 : Int) < (n : Int) := by omega
      rw [e]
      clear cl hn e hb
      go_enter Tryd.func9, Tryd.ntmps9
      go_wp2
      go_ret
      exact ⟨rfl, rfl⟩
    · have e : MOSTP n = 1 + 2 * (LEN n - 1) := by unfold MOSTP; rw [if_neg (by omega)]
      have h2 : ¬ (4611686018427387904 : Int) < (n : Int) := by omega
      have h3 := (LEN_span n hn h0).1
      have h4 : LEN n ≤ 64 := by
        have h5 := (LEN_span n hn h0).2.1
        rcases Nat.lt_or_ge 64 (LEN n) with h | h
        · have := Nat.pow_le_pow_right (n := 2) (by decide) (show 64 ≤ LEN n - 1 by omega)
          omega
        · exact h
      rw [e]
      clear e hb
      generalize LEN n = m at *
      have e1 : wrap64 ((m : Int) - 1) = ((m - 1 : Nat) : Int) := by unfold wrap64; omega
      obtain ⟨k, hk⟩ : ∃ k, m - 1 = k := ⟨_, rfl⟩
      rw [hk] at e1 ⊢
      have e2 : wrap64 (2 * (k : Int)) = 2 * (k : Int) := by unfold wrap64; omega
      have e3 : wrap64 (1 + 2 * (k : Int)) = ((1 + 2 * k : Nat) : Int) := by unfold wrap64; omega
      clear hk h3 h4 hn
      go_enter Tryd.func9, Tryd.ntmps9
      go_wp2_with fail
      refine cl.mono ?_
      rintro e w' ⟨rfl, rfl⟩
      go_wp2
      go_ret
      exact ⟨by first | rfl | simp [e3], rfl⟩
end Go.Proofs.YtnplhejopmoopaaDoor

/- massiflaw21's awake answers true. -/
namespace Go.Proofs.YtnplhejopmoopaaDoor
open Go.RowKit
set_option maxRecDepth 100000

theorem lfa_set (i : Nat) : (HX.UARR .u8 32 fun _ => 0).setIfInBounds 0 (.int .u8 (i : Int)) = HX.UARR .u8 32 (LFA i) := HX.UARR_set .u8 32 (fun _ => 0) 0 i
theorem lfb_set (i m : Nat) (h : i + i % 2 = m) : (HX.UARR .u8 32 fun _ => 0).setIfInBounds 0 (.int .u8 (m : Int)) = HX.UARR .u8 32 (LFB i) := by
  subst h
  exact HX.UARR_set .u8 32 (fun _ => 0) 0 (i + i % 2)
theorem LFA_lt {i : Nat} (h : i < 256) (j : Nat) : LFA i j < 256 := by
  unfold LFA
  split <;> omega
theorem LFB_lt {i : Nat} (h : i < 200) (j : Nat) : LFB i j < 256 := by
  unfold LFB
  split <;> omega
theorem TANS.leaf {fa fb : Nat → Nat → Nat} {o : POUT × List Nat × List Nat} {e : Ending} {k : Nat} {L : List Nat} (h : TANS fa fb o e) (ho : o = (.leaf k, L, L)) : e = .returned (.tuple #[.agg (PTG k (fa k) (fb k) L.length), .int .i64 0]) := by
  subst ho
  rcases h with ⟨h1, _⟩ | ⟨k', h1, h2⟩
  · cases h1
  · cases h1
    exact h2
theorem TANS.none {fa fb : Nat → Nat → Nat} {o : POUT × List Nat × List Nat} {e : Ending} (h : TANS fa fb o e) (ho : o.1 = .err 210) : e = .returned (.tuple #[.agg (PTG 0 (fun _ => 0) (fun _ => 0) 0), .int .i64 210]) := by
  rcases h with ⟨_, h2⟩ | ⟨k', h1, h2⟩
  · exact h2
  · cases h1.symm.trans ho
theorem awake_calls {w wx : World} {Bb ga gb : Nat} {C D : HX.CHUNKS} (T : TWOP w wx Bb ga gb 32 3 3 C D LFA LFB) (hT : Tabled wx) (N : Int) (hN : ((3 : Nat) : Int) = N) (ZP : Array Value) (hZ : PTG 0 (fun _ => 0) (fun _ => 0) 0 = ZP) (P1 : Array Value) (hP : PTG 1 (LFA 1) (LFB 1) 3 = P1) :
    (Calls Tryd.prog 7 #[.iface 45 (.pointer (some ⟨ga, 0, none⟩)), .iface 45 (.pointer (some ⟨gb, 0, none⟩)), .int .u64 N] wx fun e w' => e = .returned (.tuple #[.agg P1, .int .i64 0]) ∧ TWOP w w' Bb ga gb 32 3 3 C D LFA LFB ∧ Below wx.heap.size wx w') ∧
    (Calls Tryd.prog 7 #[.iface 45 (.pointer (some ⟨ga, 0, none⟩)), .iface 45 (.pointer (some ⟨ga, 0, none⟩)), .int .u64 N] wx fun e w' => e = .returned (.tuple #[.agg ZP, .int .i64 210]) ∧ TWOP w w' Bb ga gb 32 3 3 C D LFA LFB ∧ Below wx.heap.size wx w') := by
  obtain ⟨L, hL, hL3⟩ := awake_first T.fa T.fb
  subst hN hZ hP
  constructor
  · refine (tfirst_ok T.fa T.fb hT).mono fun e w' h => ⟨?_, T.keep h.2, h.2⟩
    rw [h.1.leaf hL, hL3]
  · exact (tfirst_ok T.fa T.fa hT).mono fun e w' h => ⟨h.1.none (PFST_self (tsame_self 3 C) 3), T.keep h.2, h.2⟩
set_option maxHeartbeats 4000000 in
theorem awake21_ok (w : World) (hT : Tabled w) (hX : HX.Tabled w) : Calls Tryd.prog 11 #[] w fun e w' => e = .returned (.bool true) ∧ Below w.heap.size w w' := by
  have cn := HX.treenew_ok 32 2 (by decide) w
  have HT : Aside (∀ W, Below w.heap.size w W → Tabled W ∧ HX.Tabled W) := fun W h => ⟨hT.below (by have := hX.2.2; omega) h, hX.below h⟩
  have GB : Aside (2 < w.heap.size) := hX.2.2
  have hz := HX.zeroHash
  clear hT hX
  go_enter Tryd.func11, Tryd.ntmps11
  go_wp2_with fail
  refine cn.mono ?_
  rintro e w1 ⟨ga, rfl, hg, hHf, hb1⟩
  clear cn
  have A1 : Aside (HX.FOREST w1 w.heap.size ga 32 2 0 (fun _ => none) LFA ∧ Below w.heap.size w w1) := ⟨HX.FOREST.new (B := w.heap.size) hHf (by decide) hg LFA, hb1⟩
  clear hg hHf hb1
  have cn := HX.treenew_ok 32 2 (by decide) w1
  go_wp2_with fail
  refine cn.mono ?_
  rintro e w2 ⟨gb, rfl, hg, hHf, hb2⟩
  clear cn
  have A2 : Aside (TWOP w w2 w1.heap.size ga gb 32 0 0 (fun _ => none) (fun _ => none) LFA LFB) := by
    refine ⟨A1.out.1.below hb2, HX.FOREST.new (B := w1.heap.size) hHf (by decide) hg LFB, ?_, A1.out.2.trans (hb2.mono A1.out.2.size), hb2.size, A1.out.2.size⟩
    refine HX.APART.later A1.out.1 hb2 hg fun b _ hf => ?_
    rcases hf with e | ⟨k, gc, rs, e, _⟩
    · rw [hHf.cell 3] at e
      cases e
    · cases e
  clear hg hHf hb2 A1
  generalize w1.heap.size = Bb at *
  go_wp2_with fail
  go_loopg [5] 3 (fun r s5 wx => ∃ (i : Nat) (C D : HX.CHUNKS), s5 = .int .i64 (i : Int) ∧ Aside (i + r = 3 ∧ TWOP w wx Bb ga gb 32 i i C D LFA LFB))
  case atStart => exact ⟨0, _, _, rfl, rfl, A2.out⟩
  case round =>
    obtain ⟨i, C, D, rfl, A⟩ := hrel
    clear A2
    cases gk with
    | zero =>
      obtain rfl : i = 3 := by have := A.out.1; omega
      obtain ⟨ZP, eZ, hzp, hbp, hZ66, hZ1⟩ := zero_part
      have SZ : Aside (PTG 0 (fun _ => 0) (fun _ => 0) 0 = ZP ∧ ZP.size = 66 ∧ ZP.all (·.oneCell') = true) := ⟨eZ, hZ66, hZ1⟩
      obtain ⟨P1, hP1⟩ : ∃ P1, PTG 1 (LFA 1) (LFB 1) 3 = P1 := ⟨_, rfl⟩
      have c1 := (awake_calls A.out.2 (HT.out wr A.out.2.bel).1 3 rfl ZP eZ P1 hP1).1
      clear eZ hZ1 A
      go_wp2_with fail
      refine c1.mono ?_
      rintro e w3 ⟨rfl, T3, -⟩
      clear c1
      obtain ⟨w4, hst, h6, hb4⟩ := part_put w3 ZP (PTG 1 (LFA 1) (LFB 1) 3) SZ.out.2.1 (PTG_size _ _ _ _) (PTG_one _ _ _ _)
      have hsz := PTG_size 1 (LFA 1) (LFB 1) 3
      have T4 := T3.keep hb4
      have c2 := (awake_calls T4 (HT.out w4 T4.bel).1 3 rfl ZP SZ.out.1 P1 hP1).2
      rw [hP1] at hst h6 hsz
      have B6 : Aside (Has w4 w3.heap.size P1 29) := h6
      clear T3 T4 h6 hb4
      go_wp2_with fail
      refine c2.mono ?_
      rintro e w5 ⟨rfl, T5, hb5⟩
      clear c2 hst
      obtain ⟨w6, hst, -, hb6⟩ := part_put w5 ZP ZP SZ.out.2.1 SZ.out.2.1 SZ.out.2.2
      have T6 := T5.keep hb6
      have h6 : Has w6 w3.heap.size P1 29 := (B6.out.keep hb5).keep hb6
      have hr := h6.part
      have HB : Aside (Below w.heap.size w w6) := T6.bel
      have c3 : Calls Tryd.prog 9 #[.int .u64 3] w6 fun e w' => e = .returned (.int .i64 3) ∧ w6 = w' := by
        have := most_ok 3 (by decide) w6
        rwa [show MOSTP 3 = 3 by decide] at this
      have ka : (HX.UARR .u8 32 fun _ => 0).setIfInBounds 0 (.int .u8 1) = HX.UARR .u8 32 (LFA 1) := lfa_set 1
      have kb : (HX.UARR .u8 32 fun _ => 0).setIfInBounds 0 (.int .u8 2) = HX.UARR .u8 32 (LFB 1) := lfb_set 1 2 rfl
      have kq : ∀ w, (Op.equalIn 10000 29 (.agg P1) (.agg P1)).run Tryd.prog w = .ok true w := fun w => by rw [← hP1]; exact equal_part _ _ _ _ w
      have hi : (Tryd.prog.info? 29).map (·.size) = some P1.toList.length := by rw [Array.length_toList, hsz]; exact info_part
      have HP1 : Aside (PTG 1 (LFA 1) (LFB 1) 3 = P1) := hP1
      clear T5 hb5 hb6 T6 h6 B6 hP1
      go_upto_region 12 with fail
      clear hst hzp hbp hZ66
      go_wp2_with (first
        | (refine load_mid_if21 (by rfl) 29 (.tmp 6) rfl w3.heap.size 0 rfl P1.toList _ hr Tryd.underlying29 rfl hi ?_; rw [Array.toArray_toList])
        | (refine build_part_if (by rfl) (.const (.int .u64 1)) (.tmp 69) (.tmp 70) (.const (.int .i64 3)) rfl 1 (LFA 1) (LFB 1) 3 rfl rfl rfl rfl P1 HP1.out ?_))
      refine c3.mono ?_
      rintro e w7 ⟨rfl, rfl⟩
      clear c3 kq
      go_wp2_with fail
      go_ret
      exact ⟨rfl, HB.out⟩
    | succ r =>
      have hi3 : i < 3 := by have := A.out.1; omega
      have cA := HX.append_ok A.out.2.fa (LFA i) (LFA_lt (by omega)) (by omega) (HT.out wr A.out.2.bel).2 GB.out A.out.2.bel.size
      have A3 : Aside (i + 1 + r = 3) := by have := A.out.1; show i + 1 + r = 3; omega
      have hcase : i = 0 ∨ i = 1 ∨ i = 2 := by omega
      clear hi3
      rcases hcase with rfl | rfl | rfl
      · have ka : (HX.UARR .u8 32 fun _ => 0).setIfInBounds 0 (.int .u8 0) = HX.UARR .u8 32 (LFA 0) := lfa_set 0
        go_wp2_with fail
        refine cA.mono ?_
        rintro e w3 ⟨rfl, ha⟩
        obtain ⟨C', T3⟩ := A.out.2.appa ha
        have T3' : Aside (TWOP w w3 Bb ga gb 32 1 0 C' D LFA LFB) := T3
        have cB := HX.append_ok T3.fb (LFB 0) (LFB_lt (by decide)) (by decide) (HT.out w3 T3.bel).2 (Nat.lt_of_lt_of_le GB.out T3.lo) T3.sz
        have kb : (HX.UARR .u8 32 fun _ => 0).setIfInBounds 0 (.int .u8 0) = HX.UARR .u8 32 (LFB 0) := lfb_set 0 0 rfl
        clear cA ha A T3 ka
        go_wp2_with fail
        refine cB.mono ?_
        rintro e w4 ⟨rfl, hb⟩
        obtain ⟨D', T4⟩ := T3'.out.appb hb
        have T4' : Aside (TWOP w w4 Bb ga gb 32 1 1 C' D' LFA LFB) := T4
        clear cB hb T3' T4 kb
        go_wp2_with fail
        go_roundg r
        case measure => exact Nat.lt_succ_self _
        case rel => exact ⟨1, C', D', rfl, A3.out, T4'.out⟩
      · have ka : (HX.UARR .u8 32 fun _ => 0).setIfInBounds 0 (.int .u8 1) = HX.UARR .u8 32 (LFA 1) := lfa_set 1
        go_wp2_with fail
        refine cA.mono ?_
        rintro e w3 ⟨rfl, ha⟩
        obtain ⟨C', T3⟩ := A.out.2.appa ha
        have T3' : Aside (TWOP w w3 Bb ga gb 32 2 1 C' D LFA LFB) := T3
        have cB := HX.append_ok T3.fb (LFB 1) (LFB_lt (by decide)) (by decide) (HT.out w3 T3.bel).2 (Nat.lt_of_lt_of_le GB.out T3.lo) T3.sz
        have kb : (HX.UARR .u8 32 fun _ => 0).setIfInBounds 0 (.int .u8 2) = HX.UARR .u8 32 (LFB 1) := lfb_set 1 2 rfl
        clear cA ha A T3 ka
        go_wp2_with fail
        refine cB.mono ?_
        rintro e w4 ⟨rfl, hb⟩
        obtain ⟨D', T4⟩ := T3'.out.appb hb
        have T4' : Aside (TWOP w w4 Bb ga gb 32 2 2 C' D' LFA LFB) := T4
        clear cB hb T3' T4 kb
        go_wp2_with fail
        go_roundg r
        case measure => exact Nat.lt_succ_self _
        case rel => exact ⟨2, C', D', rfl, A3.out, T4'.out⟩
      · have ka : (HX.UARR .u8 32 fun _ => 0).setIfInBounds 0 (.int .u8 2) = HX.UARR .u8 32 (LFA 2) := lfa_set 2
        go_wp2_with fail
        refine cA.mono ?_
        rintro e w3 ⟨rfl, ha⟩
        obtain ⟨C', T3⟩ := A.out.2.appa ha
        have T3' : Aside (TWOP w w3 Bb ga gb 32 3 2 C' D LFA LFB) := T3
        have cB := HX.append_ok T3.fb (LFB 2) (LFB_lt (by decide)) (by decide) (HT.out w3 T3.bel).2 (Nat.lt_of_lt_of_le GB.out T3.lo) T3.sz
        have kb : (HX.UARR .u8 32 fun _ => 0).setIfInBounds 0 (.int .u8 2) = HX.UARR .u8 32 (LFB 2) := lfb_set 2 2 rfl
        clear cA ha A T3 ka
        go_wp2_with fail
        refine cB.mono ?_
        rintro e w4 ⟨rfl, hb⟩
        obtain ⟨D', T4⟩ := T3'.out.appb hb
        have T4' : Aside (TWOP w w4 Bb ga gb 32 3 3 C' D' LFA LFB) := T4
        clear cB hb T3' T4 kb
        go_wp2_with fail
        go_roundg r
        case measure => exact Nat.lt_succ_self _
        case rel => exact ⟨3, C', D', rfl, A3.out, T4'.out⟩
end Go.Proofs.YtnplhejopmoopaaDoor

/- massiflaw21.of: the tree of some leaves. -/
namespace Go.Proofs.YtnplhejopmoopaaDoor.HX
open Go.RowKit
set_option maxRecDepth 100000

theorem u64_fit21 {n : Nat} (h : n < 2 ^ 40) : IntKind.u64.wrap (n : Int) = (n : Int) := by
  simp [IntKind.wrap, IntKind.signed, IntKind.bits]
  omega
set_option maxHeartbeats 2000000 in
theorem of21_ok (d : Int) (a : Option Addr) (n c : Nat) (hs : Nat → Nat → Nat) (w : World) (hn : n ≤ 2 ^ 19) (hH : HASHES w a n hs) (h8 : ∀ i, i < n → ∀ j, hs i j < 256) (hX : Tabled w) : Calls Tryd.prog 12 #[.int .i64 d, .slice a n c] w fun e w' =>
    ∃ g C, e = .returned (.pointer (some ⟨g, 0, none⟩)) ∧ FOREST w' w.heap.size g d 2 n C hs ∧ Below w.heap.size w w' ∧ (∀ b, b < w.heap.size → ¬ FOOT w' g C b) := by
  have cn := treenew_ok d 2 (by decide) w
  have GB : Aside (2 < w.heap.size) := hX.2.2
  have HA : Aside (HASHES w a n hs ∧ (∀ i, i < n → ∀ j, hs i j < 256) ∧ n ≤ 2 ^ 19) := ⟨hH, h8, hn⟩
  have tab : Aside (∀ W, Below w.heap.size w W → Tabled W) := fun W hb => hX.below hb
  clear hn hH h8 hX
  go_enter Tryd.func12, Tryd.ntmps12
  go_wp2_with fail
  refine cn.mono ?_
  rintro e w1 ⟨g, rfl, hg, hH, hb1⟩
  clear cn
  have hF1 := FOREST.new (B := w.heap.size) hH (by decide) hg hs
  have A1 : Aside (FOREST w1 w.heap.size g d 2 0 (fun _ => none) hs ∧ Below w.heap.size w w1 ∧ ∀ b, b < w.heap.size → ¬ FOOT w1 g (fun _ => none) b) := ⟨hF1, hb1, fun b _ hf => by
    rcases hf with e | ⟨k, gc, rs, e, _⟩
    · rw [hH.cell 3] at e
      cases e
    · cases e⟩
  clear hg hH hb1 hF1
  go_wp2_with fail
  go_loopg [7] n (fun r s7 wx => ∃ (i : Nat) (C : CHUNKS), s7 = .int .i64 (i : Int) ∧ Aside (i + r = n ∧ FOREST wx w.heap.size g d 2 i C hs ∧ Below w.heap.size w wx ∧ ∀ b, b < w.heap.size → ¬ FOOT wx g C b))
  case atStart => exact ⟨0, _, rfl, by omega, A1.out⟩
  case round =>
    obtain ⟨i, C, rfl, A⟩ := hrel
    clear A1
    cases gk with
    | zero =>
      obtain rfl : i = n := by have := A.out.1; omega
      have hlt : ¬ (i : Int) < (i : Int) := by omega
      go_wp2_with fail
      go_ret
      first | exact ⟨g, C, rfl, A.out.2⟩ | exact ⟨g, rfl, C, A.out.2⟩
    | succ r =>
      have hin : i < n := by have := A.out.1; omega
      have hlt : (i : Int) < (n : Int) := by omega
      have hi0 : ¬ (i : Int) < 0 := by omega
      obtain ⟨lb, lo, rfl, hlb, hlr⟩ := HA.out.1 (by omega)
      have hrg : wr.rangeAt lb (lo + i * 32) (ULIST .u8 32 (hs i)) := range_below (hlr i hin) A.out.2.2.1 hlb
      have cA := append_ok A.out.2.1 (hs i) (HA.out.2.1 i hin) (by have := HA.out.2.2; omega) (tab.out wr A.out.2.2.1) GB.out A.out.2.2.1.size
      have ei : wrap64 ((i : Int) + 1) = ((i + 1 : Nat) : Int) := by have := HA.out.2.2; unfold wrap64; omega
      have eu := u64_fit21 (n := i) (by have := HA.out.2.2; clear ei; omega)
      have A3 : Aside (i + 1 + r = n) := by have := A.out.1; show i + 1 + r = n; clear ei eu; omega
      clear hlr hin hlb
      go_wp2_with (refine wpList_load_mid rfl 27 (.tmp 28) rfl lb (lo + i * 32) rfl (ULIST .u8 32 (hs i)) _ hrg Tryd.underlying27 rfl (by rw [ULIST_length]; exact info_hash) ?_; rw [← UARR_list])
      refine cA.mono ?_
      rintro e w3 ⟨rfl, C', a1, a2, a3⟩
      have A4 : Aside (FOREST w3 w.heap.size g d 2 (i + 1) C' hs ∧ Below w.heap.size w w3 ∧ ∀ b, b < w.heap.size → ¬ FOOT w3 g C' b) := by
        refine ⟨a1.congr fun k hk => ?_, A.out.2.2.1.trans a3, fun b hb hf => ?_⟩
        · unfold LEAFS
          split
          · rename_i e; rw [e]
          · rfl
        · rcases a2.foot b hf with h1 | h1
          · exact A.out.2.2.2 b hb h1
          · have := A.out.2.2.1.size
            omega
      clear cA hrg a1 a2 a3 A
      go_wp2_with fail
      go_roundg r
      case measure => exact Nat.lt_succ_self _
      case rel => exact ⟨i + 1, C', by first | rfl | (rw [ei]), A3.out, A4.out⟩
end Go.Proofs.YtnplhejopmoopaaDoor.HX

/- What PartTrees wants of two trees, in plain words. -/
namespace Go.Proofs.YtnplhejopmoopaaDoor
open Go.RowKit
set_option maxRecDepth 100000

/-- what is told of two trees of n leaves: k, X, Y, q, an error; up to where the leaves are covered. -/
def PRESU (hs ms : Nat → Nat → Nat) (n k : Nat) (X Y : Nat → Nat) (q : Nat) (E : Int) (T : Nat) : Prop :=
  (E = 0 ∧ T = k ∧ k < n ∧ X = hs k ∧ Y = ms k ∧ ((List.range 32).all fun i => hs k i == ms k i) = false ∧ 0 < q ∧ q ≤ MOSTP n) ∨ (E = 210 ∧ k = 0 ∧ X = (fun _ => 0) ∧ Y = (fun _ => 0) ∧ q = 0 ∧ T = n)
theorem tans_all {w0 : World} {Ba ga Bb gb n : Nat} {d : Int} {Ca Cb : HX.CHUNKS} {fa fb : Nat → Nat → Nat} (hA : HX.FOREST w0 Ba ga d 2 n Ca fa) (hB : HX.FOREST w0 Bb gb d 2 n Cb fb) :
    ∃ k X Y q E T, (∀ e, TANS fa fb (PFST (fun _ => 0) (fun _ => 0) (TSAME n Ca Cb) n) e → e = .returned (.tuple #[.agg (PTG k X Y q), .int .i64 E])) ∧ (∀ e, TANS fb fa (PFST (fun _ => 0) (fun _ => 0) (TSAME n Cb Ca) n) e → e = .returned (.tuple #[.agg (PTG k Y X q), .int .i64 E])) ∧ PRESU fa fb n k X Y q E T ∧ PCOV (TSAME n Ca Cb) n T ∧ T ≤ n := by
  have hfew := hA.few
  have hn : n ≤ 4611686018427387904 := by omega
  rw [tsame_comm n Cb Ca]
  have hm := MOSTP_few (EA := fun _ => 0) (EB := fun _ => 0) (S := TSAME n Ca Cb) hn
  rcases PFST_tree (S := TSAME n Ca Cb) hn (tsame_up hA hB) with ⟨h1, h2, h3⟩ | ⟨k, h1, h2, h3, h4, h5, h6⟩
  · generalize PFST (fun _ => 0) (fun _ => 0) (TSAME n Ca Cb) n = o at *
    exact ⟨0, fun _ => 0, fun _ => 0, 0, 210, n, fun e he => he.none h1, fun e he => he.none h1, .inr ⟨rfl, rfl, rfl, rfl, rfl, rfl⟩, h2, Nat.le_refl _⟩
  · rw [tsame_leaf hA hB h2] at h3
    generalize PFST (fun _ => 0) (fun _ => 0) (TSAME n Ca Cb) n = o at *
    obtain ⟨o1, L, L'⟩ := o
    dsimp only at h1 h5 h6 hm
    subst h1 h5
    exact ⟨k, fa k, fb k, L.length, 0, k, fun e he => he.leaf rfl, fun e he => he.leaf rfl, .inl ⟨rfl, rfl, h2, rfl, rfl, h3, h6, hm⟩, h4, Nat.le_of_lt h2⟩
/-- two trees are made, one behind the other. -/
theorem TWOP.made {w w1 w2 : World} {ga gb : Nat} {d : Int} {n m : Nat} {C D : HX.CHUNKS} {hs ms : Nat → Nat → Nat} (h1 : HX.FOREST w1 w.heap.size ga d 2 n C hs) (b1 : Below w.heap.size w w1) (h2 : HX.FOREST w2 w1.heap.size gb d 2 m D ms) (b2 : Below w1.heap.size w1 w2) (hf : ∀ b, b < w1.heap.size → ¬ HX.FOOT w2 gb D b) : TWOP w w2 w1.heap.size ga gb d n m C D hs ms :=
  ⟨h1.below b2, h2, HX.APART.later h1 b2 h2.base hf, b1.trans (b2.mono b1.size), b2.size, b1.size⟩
theorem part_list (k : Nat) (X Y : Nat → Nat) (q : Nat) {w : World} {b : Nat} (h : Has w b (PTG k X Y q) 29) : w.cell? ⟨b, 0, none⟩ = some (.int .u64 (k : Int)) ∧ w.rangeAt b 1 (HX.ULIST .u8 32 X) ∧ w.rangeAt b 33 (HX.ULIST .u8 32 Y) ∧ w.cell? ⟨b, 65, none⟩ = some (.int .i64 (q : Int)) := by
  obtain ⟨e1, e2, e3, e4⟩ := part_cells k X Y q
  have hz := PTG_size k X Y q
  generalize PTG k X Y q = C at *
  have key : ∀ (o : Nat) (F : Nat → Nat), o + 32 ≤ 66 → C.extract o (o + 32) = HX.UARR .u8 32 F → w.rangeAt b o (HX.ULIST .u8 32 F) := fun o F ho e j v hv => by
    have hj : j < 32 := by have := (List.getElem?_eq_some_iff.1 hv).1; rwa [HX.ULIST_length] at this
    rw [h.cell, ← hv]
    have h2 := congrArg (fun a : Array Value => a[j]?) e
    simp only [Array.getElem?_extract, HX.UARR_list, List.getElem?_toArray] at h2
    rw [if_pos (by omega)] at h2
    exact h2
  exact ⟨(h.cell 0).trans e1, key 1 X (by omega) e2, key 33 Y (by omega) e3, (h.cell 65).trans e4⟩
end Go.Proofs.YtnplhejopmoopaaDoor

/- A tree and a list of its leaves' hashes beside it. -/
namespace Go.Proofs.YtnplhejopmoopaaDoor.HX
open Go.RowKit
set_option maxRecDepth 100000

def FSTS (hs : Nat → Nat → Nat) (k : Nat) : List (Nat → Nat) := (List.range k).map hs
theorem FSTS_snoc (hs : Nat → Nat → Nat) (k : Nat) : FSTS hs (k + 1) = FSTS hs k ++ [hs k] := by simp [FSTS, List.range_succ]
theorem FSTS_length (hs : Nat → Nat → Nat) (k : Nat) : (FSTS hs k).length = k := by simp [FSTS]
theorem FSTS_get (hs : Nat → Nat → Nat) {k i : Nat} (h : i < k) : (FSTS hs k).getD i (fun _ => 0) = hs i := by
  rw [List.getD_eq_getElem?_getD, FSTS, List.getElem?_map, List.getElem?_range h]
  rfl
/-- a tree of i leaves, a list of the first k hashes. -/
structure LISTED (w wx : World) (B g : Nat) (d : Int) (log i k : Nat) (C : CHUNKS) (hs : Nat → Nat → Nat) (v : Value) : Prop where
  tree : FOREST wx B g d log i C hs
  own : wx.ownsRow B 27 32 v k (HL (FSTS hs k))
  off : ∀ b, v.ownBlock = some b → ¬ FOOT wx g C b ∧ b ≠ g
  below : Below B w wx
theorem LISTED.keep {w wx w' : World} {B g : Nat} {d : Int} {log i k : Nat} {C : CHUNKS} {hs : Nat → Nat → Nat} {v : Value} (h : LISTED w wx B g d log i k C hs v) (hB : B ≤ wx.heap.size) (hb : Below wx.heap.size wx w') : LISTED w w' B g d log i k C hs v :=
  ⟨h.tree.below hb, own_keep h.own hb, fun b e => ⟨fun hf => (h.off b e).1 (h.tree.store.foot_below hb hf), (h.off b e).2⟩, h.below.trans (hb.mono hB)⟩
theorem LISTED.appended {w wx w' : World} {B g : Nat} {d : Int} {log i k : Nat} {C : CHUNKS} {hs : Nat → Nat → Nat} {v : Value} (h : LISTED w wx B g d log i k C hs v) (hA : APPENDED wx B g d log i C hs (hs i) w') : ∃ C', LISTED w w' B g d log (i + 1) k C' hs v := by
  obtain ⟨C', a1, a2, a3⟩ := hA
  refine ⟨C', a1.congr fun k hk => ?_, ?_, fun b e => ⟨fun hf => ?_, (h.off b e).2⟩, h.below.trans a3⟩
  · unfold LEAFS
    split
    · rename_i e; rw [e]
    · rfl
  · refine ⟨h.own.1, h.own.2.imp id ?_⟩
    rintro ⟨g', c, cur, rfl, b, r, rest⟩
    exact ⟨g', c, cur, rfl, b, (a2.same g' (Array.getElem?_eq_some_iff.1 r).1 (h.off g' rfl).2 (h.off g' rfl).1).trans r, rest⟩
  · rcases a2.foot b hf with h1 | h1
    · exact (h.off b e).1 h1
    · have := (h.own.lt b e).2
      omega
end Go.Proofs.YtnplhejopmoopaaDoor.HX

/- The same hashes in a list of their own that goes on behind them: massiflaw6's row. -/
namespace Go.Proofs.YtnplhejopmoopaaDoor.HX
open Go.RowKit
set_option maxRecDepth 100000

theorem HL_FSTS_length (hs : Nat → Nat → Nat) : ∀ k, (HL (FSTS hs k)).length = 32 * k
  | 0 => rfl
  | k + 1 => by rw [FSTS_snoc, HL_snoc', List.length_append, HL_FSTS_length hs k, ULIST_length]; omega
theorem HL_FSTS_one (hs : Nat → Nat → Nat) : ∀ k, ∀ v ∈ HL (FSTS hs k), v.oneCell' = true
  | 0, v, h => by simp [FSTS, HL] at h
  | k + 1, v, h => by
    rw [FSTS_snoc, HL_snoc', List.mem_append] at h
    rcases h with h | h
    · exact HL_FSTS_one hs k v h
    · exact ULIST_one _ _ _ v h
/-- hashes that lie there, cell behind cell. -/
theorem hashes_range {w : World} {b o m : Nat} {hs : Nat → Nat → Nat} (h : ∀ i, i < m → w.rangeAt b (o + i * 32) (ULIST .u8 32 (hs i))) : ∀ k, k ≤ m → w.rangeAt b o (HL (FSTS hs k))
  | 0, _ => fun j v hv => by simp [FSTS, HL] at hv
  | k + 1, hk => fun j v hv => by
    rw [FSTS_snoc, HL_snoc'] at hv
    by_cases hj : j < 32 * k
    · rw [List.getElem?_append_left (by rw [HL_FSTS_length]; exact hj)] at hv
      exact hashes_range h k (by omega) j v hv
    · rw [List.getElem?_append_right (by rw [HL_FSTS_length]; omega), HL_FSTS_length] at hv
      have := h k (by omega) (j - 32 * k) v hv
      rwa [show o + k * 32 + (j - 32 * k) = o + j by omega] at this
/-- hashes are appended. -/
theorem app_hashesf {ops : Array Oper} {rest : List Oper} {o : Oper} {a : Act} {Q : Exit → Act → World → Prop} (w : World) (hgd : o.guard = none) (s x : Operand)
    (ho : o.op = .call { callee := .builtin .append, args := #[s, x], argTypes := #[44, 44] })
    (base : Nat) (v : Value) (n : Nat) (xs : List Value) (hs : a.eval s = v) (hown : w.ownsRow base 27 32 v n xs)
    (ad : Option Addr) (m c : Nat) (l : Nat → Nat → Nat) (hx : a.eval x = .slice ad m c) (hL : HASHES w ad m l) (hc : ad = none → c = 0) (hnone : ad = none → m = 0)
    (hb : n + m ≤ 100000) (hbase : base ≤ w.heap.size)
    (hh : ∀ a' c' w', w'.ownsRow base 27 32 (.slice a' (n + m) c') (n + m) (xs ++ HL (FSTS l m)) → w.grownBy w' v.ownBlock → wpList Tryd.prog ops Q rest (a.put o.dst (.slice a' (n + m) c')) w') : wpList Tryd.prog ops Q (o :: rest) a w := by
  obtain ⟨i, hi, hz, hs1, hby⟩ := info_parts info_hashT
  cases ad with
  | none =>
    obtain rfl := hc rfl
    obtain rfl := hnone rfl
    refine wpList_append_own_none hgd s x 44 ho base 27 i 32 Tryd.underlying44 hi v n xs hs hown hx ?_
    obtain ⟨a', c', rfl⟩ := own_shape hown
    have := hh a' c' w (by simpa [FSTS, HL] using hown) (grown_refl _ _)
    simpa using this
  | some ad =>
    have hcells : ∀ j u, (HL (FSTS l m))[j]? = some u → w.cell? (ad.add j) = some u := by
      intro j u hu
      have hj : j < 32 * m := by
        have := (List.getElem?_eq_some_iff.1 hu).1
        rwa [HL_FSTS_length] at this
      obtain ⟨g, o', e, _, hr⟩ := hL (by omega)
      cases e
      rw [Addr.add_mid]
      exact hashes_range hr m (Nat.le_refl _) j u hu
    refine wpList_append_own w hgd s x 44 ho base 27 i _ 32 32 Tryd.underlying44 hi hz hs1 hby (by simp [Value.cells, UARR_size]) (by decide) v n xs hs hown ad m c (HL (FSTS l m)) hx (by rw [HL_FSTS_length]; omega) hcells (HL_FSTS_one l m) (by simp only [maxLen]; omega) (by omega) hbase ?_
    intro v' w' h1 h2 _
    obtain ⟨a', c', rfl⟩ := own_shape h1
    exact hh a' c' w' h1 h2
end Go.Proofs.YtnplhejopmoopaaDoor.HX

/- massiflaw6.marked; a list of hashes whose first bytes are counted up. -/
namespace Go.Proofs.YtnplhejopmoopaaDoor.HX
open Go.RowKit
set_option maxRecDepth 100000

theorem HLF_at (f : Nat → Nat → Nat) {n p : Nat} (hp : p < 32 * n) : (HL (FSTS f n))[p]? = some (.int .u8 ((f (p / 32) (p % 32) : Nat) : Int)) := by
  have h1 : (FSTS f n)[p / 32]? = some (f (p / 32)) := by
    rw [FSTS, List.getElem?_map, List.getElem?_range (by omega)]
    rfl
  have h2 := HL_get (FSTS f n) (p / 32) (p % 32) _ h1 (by omega)
  rwa [show p / 32 * 32 + p % 32 = p by omega] at h2
end Go.Proofs.YtnplhejopmoopaaDoor.HX

/- massiflaw6.mark and all: a list of hashes of one's own that is written over with a mark. -/
namespace Go.Proofs.YtnplhejopmoopaaDoor.HX
open Go.RowKit
set_option maxRecDepth 100000

theorem grown_trans {w w1 w2 : World} {r r' : Option Nat} (h : w.grownBy w1 r) (h' : w1.grownBy w2 r') (hr : r' = r ∨ ∀ g, r' = some g → w.heap.size ≤ g) : w.grownBy w2 r := by
  obtain ⟨a1, a2, a3, a4, a5⟩ := h
  obtain ⟨b1, b2, b3, b4, b5⟩ := h'
  refine ⟨by rw [b1, a1], by rw [b2, a2], by rw [b3, a3], Nat.le_trans a4 b4, fun k hk hne => ?_⟩
  rw [b5 k (by omega) (fun e => ?_), a5 k hk hne]
  rcases hr with hr | hr
  · exact hne (by rw [e, hr])
  · have := hr k e.symm
    omega
/-- values laid over a list, one behind the other, from o on. -/
def OVERW (xs : List Value) : Nat → List Value → List Value
  | _, [] => xs
  | o, v :: vs => OVERW (xs.set o v) (o + 1) vs
theorem OVERW_length : ∀ (vs xs : List Value) (o : Nat), (OVERW xs o vs).length = xs.length
  | [], _, _ => rfl
  | v :: vs, xs, o => by rw [OVERW, OVERW_length vs, List.length_set]
theorem OVERW_get : ∀ (vs xs : List Value) (o p : Nat), p < xs.length → (OVERW xs o vs)[p]? = if o ≤ p ∧ p < o + vs.length then vs[p - o]? else xs[p]?
  | [], xs, o, p, _ => by rw [OVERW, if_neg (by simp)]
  | v :: vs, xs, o, p, hp => by
    rw [OVERW, OVERW_get vs (xs.set o v) (o + 1) p (by rw [List.length_set]; exact hp)]
    by_cases h1 : p = o
    · subst h1
      rw [if_neg (by omega), if_pos ⟨Nat.le_refl _, by simp⟩, Nat.sub_self, List.getElem?_set_self hp]
      rfl
    · by_cases h2 : o ≤ p ∧ p < o + (v :: vs).length
      · have h3 : p < o + (vs.length + 1) := h2.2
        rw [if_pos ⟨by omega, by omega⟩, if_pos h2, show p - o = (p - (o + 1)) + 1 by omega, List.getElem?_cons_succ]
      · rw [if_neg (fun h => h2 ⟨by omega, by simp; omega⟩), if_neg h2, List.getElem?_set_ne (by omega)]
theorem own_over {B : Nat} {t : TypeId} {s g n c : Nat} : ∀ (vs xs : List Value) (o : Nat) (w : World), w.ownsRow B t s (.slice (some ⟨g, 0, none⟩) n c) n xs → (w.setCells g o vs).ownsRow B t s (.slice (some ⟨g, 0, none⟩) n c) n (OVERW xs o vs) ∧ w.grownBy (w.setCells g o vs) (some g)
  | [], xs, o, w, h => ⟨h, grown_refl _ _⟩
  | v :: vs, xs, o, w, h => by
    obtain ⟨h1, h2⟩ := h.stored o v
    obtain ⟨h3, h4⟩ := own_over vs _ (o + 1) _ h1
    exact ⟨h3, grown_trans h2 h4 (.inl rfl)⟩
theorem own_shapes {w : World} {B n : Nat} {v : Value} {xs : List Value} (h : w.ownsRow B 27 32 v n xs) : ∃ a c, v = .slice a n c ∧ (0 < n → ∃ g, a = some ⟨g, 0, none⟩) := by
  rcases h.2 with ⟨e, h0⟩ | ⟨g, cap, cur, e, _⟩
  · obtain ⟨a, c, rfl⟩ := own_shape h
    refine ⟨a, c, rfl, fun hn => ?_⟩
    simp only [Value.slice.injEq] at e
    omega
  · exact ⟨some ⟨g, 0, none⟩, cap, e, fun _ => ⟨g, rfl⟩⟩
end Go.Proofs.YtnplhejopmoopaaDoor.HX
