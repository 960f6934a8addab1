/- Texts of FindPlays, one behind the other: FindRefMore, FindRefCut, FindSame, FindCut. -/
import Derived.BigQuiet
import Derived.Deep.QuietTactic
import Derived.Test.YtlbcnaenhghieaaFindPlaysP9
/- The document's find: Leaf, Unlike, Twice, Cut. -/
namespace Go.Proofs.Ytlbcnaenhghieaa
open Go.RowKit
set_option maxRecDepth 100000

set_option maxHeartbeats 2000000 in
theorem find_rleaf_no {w : World} {B p n : Nat} {v : Value} {f : Nat → List Int} (H : RFIND w B p v f n) (hn : n < 100000) (i : Nat) (hi : n ≤ i) (_hi : i < 2 ^ 64) : Calls Try.prog 12 #[.pointer (some ⟨p, 0, none⟩), .int .u64 (i : Int)] w fun e w' => e = .returned (.tuple #[.agg ZARR, .int .i64 32]) ∧ Below w.heap.size w w' := by
  obtain ⟨a, c, rfl, -⟩ := H.slice
  have hz := zeroHashF
  obtain ⟨w0, hw0⟩ : ∃ w0, w.alloc (.cells ZARR 30) = w0 := ⟨_, rfl⟩
  have hb0 : Below w.heap.size w w0 := by rw [← hw0]; exact (Below.refl _ _).alloc (Nat.le_refl _) _
  have h40 : Has w0 w.heap.size (CELLS ZND).toArray 30 := by rw [← hw0]; exact Has.new w _ _
  have hst : (storeCells ⟨w.heap.size, 0, none⟩ ZARR.toList 0).run Try.prog w0 = .ok () (w0.setRow w.heap.size ZARR) := store_cellsF h40 (y := ZND) rfl rfl
  have hzs : ZARR.size = 32 := rfl
  have x0 := (H.keep hb0).box.cell 0
  have hge : (n : Int) ≤ (i : Int) := by omega
  have hnu : IntKind.u64.wrap (n : Int) = (n : Int) := u64f (by omega)
  have hbt : Try.prog.built 30 [] = some ZARR := by kernel_rfl
  rw [ZARR_eq] at h40
  have hzi : (Try.prog.info? 30).map (·.size) = some ZARR.size := by kernel_rfl
  generalize ZARR = Z at *
  clear H hn hi
  go_enter Try.func12, Try.ntmps12
  go_wp2
  refine bodyPost_ret (v := .tuple #[.agg Z, .int .i64 32]) ?_ rfl ⟨rfl, setrow_below hb0 (Nat.le_refl _)⟩
  exact results_hash rfl _ _ w.heap.size 30 _ (0, 0) _ _ rfl (h40.row _) _ rfl Try.underlying30 hzi
set_option maxHeartbeats 2000000 in
theorem find_rleaf_yes {w : World} {B p n : Nat} {v : Value} {f : Nat → List Int} (H : RFIND w B p v f n) (hn : n < 100000) (i : Nat) (hi : i < n) : Calls Try.prog 12 #[.pointer (some ⟨p, 0, none⟩), .int .u64 (i : Int)] w fun e w' => e = .returned (.tuple #[.agg (CELLS (f i)).toArray, .int .i64 0]) ∧ Below w.heap.size w w' := by
  obtain ⟨a, c, rfl, hc, hg⟩ := H.slice
  obtain ⟨g, rfl⟩ := hg (by omega)
  have hz := zeroHashF
  obtain ⟨w0, hw0⟩ : ∃ w0, w.alloc (.cells ZARR 30) = w0 := ⟨_, rfl⟩
  have hb0 : Below w.heap.size w w0 := by rw [← hw0]; exact (Below.refl _ _).alloc (Nat.le_refl _) _
  have h40 : Has w0 w.heap.size (CELLS ZND).toArray 30 := by rw [← hw0]; exact Has.new w _ _
  have H0 := H.keep hb0
  have L : Aside ((f i).length = 32) := (H.is i hi).1
  have hst := store_cellsF h40 (y := f i) rfl L.out
  have hzs : (CELLS (f i)).length = 32 := by simp [CELLS, L.out]
  have x0 := H0.box.cell 0
  have hh : w0.rangeAt g (i * 32) (CELLS (f i)) := H0.hash hi
  have hlt : (i : Int) < (n : Int) := by omega
  have hge : ¬ (n : Int) ≤ (i : Int) := by omega
  have hnu : IntKind.u64.wrap (n : Int) = (n : Int) := u64f (by omega)
  rw [ZARR_eq] at h40
  generalize f i = h at *
  generalize ZARR = Z at *
  clear H hn hi H0
  go_enter Try.func12, Try.ntmps12
  go_wp2_with (first
    | (refine wpList_load_mid rfl 30 (.tmp 20) rfl g (i * 32) rfl (CELLS h) _ hh Try.underlying30 rfl (info_cells L.out) ?_)
    | fail)
  refine bodyPost_ret (v := .tuple #[.agg (CELLS h).toArray, .int .i64 0]) ?_ rfl ⟨rfl, setrow_below hb0 (Nat.le_refl _)⟩
  exact results_hash rfl _ _ w.heap.size 30 _ (0, 0) _ _ rfl (h40.row _) _ rfl Try.underlying30 (by simpa using info_cells L.out)
/-- a hash of the list, its indices: the first. -/
theorem own_first {w : World} {B : Nat} {L : List Nat} {a : Option Addr} {c x : Nat} (h : w.ownsRow B 31 1 (.slice a L.length c) L.length (UCELLS L)) (hx : L[0]? = some x) : ∃ g, a = some ⟨g, 0, none⟩ ∧ w.cell? ⟨g, 0, none⟩ = some (.int .u64 (x : Int)) := by
  have hp : 0 < L.length := (List.getElem?_eq_some_iff.1 hx).1
  rcases h.2 with ⟨e, e0⟩ | ⟨g, cap, cur, e, _⟩
  · omega
  · cases e
    refine ⟨g, rfl, ?_⟩
    rw [h.cellAt 0 (by omega), UCELLS_get, hx]
    rfl
set_option maxHeartbeats 4000000 in
theorem find_runlike {w : World} {B p n : Nat} {v : Value} {f : Nat → List Int} (H : RFIND w B p v f n) (hn : n ≤ 100000) : Calls Try.prog 25 #[.pointer (some ⟨p, 0, none⟩)] w fun e w' => e = .returned (.int .i64 (UNL f n : Nat)) ∧ Below w.heap.size w w' := by
  obtain ⟨a, c, rfl, hac, hg⟩ := H.slice
  have HA : Aside (RFIND w B p (.slice a n c) f n ∧ n ≤ 100000 ∧ (0 < n → ∃ g, a = some ⟨g, 0, none⟩)) := ⟨H, hn, hg⟩
  clear H hn hg hac
  go_enter Try.func25, Try.ntmps25
  go_wp2_with fail
  go_loopg [3, 4] n (fun q s3 s4 wx => ∃ (i : Nat), s3 = .int .i64 (UNL f i : Nat) ∧ s4 = .int .i64 (i : Int) ∧ Aside (i + q = n ∧ Below w.heap.size w wx))
  case atStart => exact ⟨0, rfl, rfl, by omega, Below.refl _ _⟩
  case round =>
    obtain ⟨i, rfl, rfl, A⟩ := hrel
    have RF : RFIND wr B p (.slice a n c) f n := HA.out.1.keep A.out.2
    have x0 := RF.box.cell 0
    cases gk with
    | zero =>
      obtain rfl : i = n := A.out.1
      have hlt : ¬ (i : Int) < (i : Int) := by omega
      have Z : Aside (Below w.heap.size w wr) := A.out.2
      clear A RF HA
      go_wp2
      go_ret
      exact ⟨rfl, Z.out⟩
    | succ q =>
      have hin : i < n := by have := A.out.1; omega
      have hlt : (i : Int) < (n : Int) := by omega
      obtain ⟨g, rfl⟩ := HA.out.2.2 (by omega)
      have L : Aside ((f i).length = 32) := (RF.is i hin).1
      have hr := RF.hash hin
      have hat := find_rat RF HA.out.2.1 (RF.is i hin)
      have hfirst := ATS_first (f := f) hin
      obtain ⟨x, hx⟩ : ∃ x, (ATS f n (f i))[0]? = some x := ⟨_, List.getElem?_eq_getElem (ATS_pos hin)⟩
      have hkn1 : (0 : Int) < ((ATS f n (f i)).length : Int) := by have := ATS_pos (f := f) hin; omega
      have R : Aside (i + 1 + q = n ∧ Below w.heap.size w wr) := ⟨(Nat.add_right_comm i 1 q).trans A.out.1, A.out.2⟩
      have ei : wrap64 ((i : Int) + 1) = ((i + 1 : Nat) : Int) := by have := HA.out.2.1; unfold wrap64; omega
      have hiu : IntKind.u64.wrap (i : Int) = (i : Int) := u64f (by have := HA.out.2.1; omega)
      have hul : UNL f i ≤ 100000 := by have := UNL_le f i; have := HA.out.2.1; omega
      clear A RF hin
      go_wp2_with (first
        | (refine wpList_load_mid rfl 30 (.tmp 20) rfl g (i * 32) rfl (CELLS (f i)) _ hr Try.underlying30 rfl (info_cells L.out) ?_)
        | fail)
      refine hat.mono ?_
      rintro e w2 ⟨a2, c2, rfl, ho, hb2⟩
      obtain ⟨g2, rfl, cx⟩ := own_first ho hx
      have Z : Aside (Below w.heap.size w w2) := R.out.2.trans (hb2.mono R.out.2.size)
      have HQ : Aside (i + 1 + q = n) := R.out.1
      generalize (ATS f n (f i)).length = kn at *
      clear hat ho hb2 hr x0 R
      by_cases h1 : LSTI f i (f i) = -1
      · have e0 : x = i := by
          have := hfirst.2 h1
          rw [hx] at this
          exact Option.some.inj this
        have eq1 : ((x : Int) == (i : Int)) = true := by rw [beq_iff_eq]; omega
        have eu : wrap64 (((UNL f i : Nat) : Int) + 1) = ((UNL f (i + 1) : Nat) : Int) := by
          rw [UNL, if_pos h1]
          unfold wrap64
          omega
        clear hfirst hx
        go_wp2
        go_roundg q
        case measure => exact Nat.lt_succ_self _
        case rel => exact ⟨i + 1, by first | rfl | rw [eu] | (rw [UNL, if_pos h1]; rfl), by first | rfl | rw [ei], HQ.out, Z.out⟩
      · have e0 : x ≠ i := fun e => h1 (hfirst.1 (by rw [hx, e]))
        have eq1 : ((x : Int) == (i : Int)) = false := by rw [beq_eq_false_iff_ne]; omega
        have eu : UNL f (i + 1) = UNL f i := by rw [UNL, if_neg h1]; rfl
        clear hfirst hx
        go_wp2
        go_roundg q
        case measure => exact Nat.lt_succ_self _
        case rel => exact ⟨i + 1, by rw [eu], by first | rfl | rw [ei], HQ.out, Z.out⟩
set_option maxHeartbeats 4000000 in
theorem find_rtwice {w : World} {B p n : Nat} {v : Value} {f : Nat → List Int} (H : RFIND w B p v f n) (hn : n ≤ 100000) : Calls Try.prog 22 #[.pointer (some ⟨p, 0, none⟩)] w fun e w' => ∃ a c, e = .returned (.slice a (TWS f n n).length c) ∧ w'.ownsRow w.heap.size 30 32 (.slice a (TWS f n n).length c) (TWS f n n).length (CELLS (TWS f n n).flatten) ∧ Below w.heap.size w w' := by
  obtain ⟨a, c, rfl, hac, hg⟩ := H.slice
  have HA : Aside (RFIND w B p (.slice a n c) f n ∧ n ≤ 100000 ∧ (0 < n → ∃ g, a = some ⟨g, 0, none⟩)) := ⟨H, hn, hg⟩
  clear H hn hg hac
  go_enter Try.func22, Try.ntmps22
  go_wp2_with fail
  go_loopg [3, 4, 5] n (fun q s3 s4 _ wx => ∃ (i k : Nat) (oa : Option Addr) (oc : Nat), s3 = .slice oa k oc ∧ s4 = .int .i64 (i : Int) ∧ Aside (i + q = n ∧ FTW w wx f n i k oa oc))
  case atStart => exact ⟨0, 0, none, 0, rfl, rfl, by omega, rfl, Below.refl _ _, ⟨rfl, .inl ⟨rfl, rfl⟩⟩⟩
  case round =>
    obtain ⟨i, k, oa, oc, rfl, rfl, A⟩ := hrel
    have RF : RFIND wr B p (.slice a n c) f n := HA.out.1.keep A.out.2.bel
    have x0 := RF.box.cell 0
    cases gk with
    | zero =>
      obtain rfl : i = n := A.out.1
      have hlt : ¬ (i : Int) < (i : Int) := by omega
      have Z : Aside (k = (TWS f i i).length ∧ Below w.heap.size w wr ∧ wr.ownsRow w.heap.size 30 32 (.slice oa k oc) k (CELLS (TWS f i i).flatten)) := ⟨A.out.2.len, A.out.2.bel, A.out.2.own⟩
      clear A RF HA
      go_wp2
      go_ret
      obtain ⟨z1, z2, z3⟩ := Z.out
      subst z1
      exact ⟨oa, oc, rfl, z3, z2⟩
    | succ q =>
      have hin : i < n := by have := A.out.1; omega
      have hlt : (i : Int) < (n : Int) := by omega
      obtain ⟨g, rfl⟩ := HA.out.2.2 (by omega)
      have L : Aside ((f i).length = 32) := (RF.is i hin).1
      have hr := RF.hash hin
      have hat := find_rat RF HA.out.2.1 (RF.is i hin)
      have hfirst := ATS_first (f := f) hin
      have hmore := ATS_more (f := f) hin
      have hpos := ATS_pos (f := f) hin
      obtain ⟨x, hx⟩ : ∃ x, (ATS f n (f i))[0]? = some x := ⟨_, List.getElem?_eq_getElem hpos⟩
      have hkn1 : (0 : Int) < ((ATS f n (f i)).length : Int) := by omega
      have R : Aside (i + 1 + q = n ∧ FTW w wr f n i k oa oc ∧ RFIND wr B p (.slice (some ⟨g, 0, none⟩) n c) f n ∧ i < n ∧ k ≤ 100000) := ⟨(Nat.add_right_comm i 1 q).trans A.out.1, A.out.2, RF, hin, by have := A.out.2.len; have := TWS_length f n i; have := HA.out.2.1; omega⟩
      have ei : wrap64 ((i : Int) + 1) = ((i + 1 : Nat) : Int) := by have := HA.out.2.1; unfold wrap64; omega
      have hiu : IntKind.u64.wrap (i : Int) = (i : Int) := u64f (by have := HA.out.2.1; omega)
      clear A RF hin
      go_wp2_with (first
        | (refine wpList_load_mid rfl 30 (.tmp 21) rfl g (i * 32) rfl (CELLS (f i)) _ hr Try.underlying30 rfl (info_cells L.out) ?_)
        | fail)
      refine hat.mono ?_
      rintro e w2 ⟨a2, c2, rfl, ho, hb2⟩
      obtain ⟨g2, rfl, cx⟩ := own_first ho hx
      have T2 : FTW w w2 f n i k oa oc := R.out.2.1.below hb2
      have R2 : RFIND w2 B p (.slice (some ⟨g, 0, none⟩) n c) f n := R.out.2.2.1.keep hb2
      have x2 := R2.box.cell 0
      have hr2 : w2.rangeAt g (i * 32) (CELLS (f i)) := R2.hash R.out.2.2.2.1
      have HQ : Aside (i + 1 + q = n ∧ k ≤ 100000) := ⟨R.out.1, R.out.2.2.2.2⟩
      have TT : Aside (FTW w w2 f n i k oa oc) := T2
      generalize (ATS f n (f i)).length = kn at *
      clear hat ho hb2 hr x0 R T2 R2
      by_cases h1 : LSTI f i (f i) = -1
      · have e0 : x = i := by
          have := hfirst.2 h1
          rw [hx] at this
          exact Option.some.inj this
        have eq1 : ((x : Int) == (i : Int)) = true := by rw [beq_iff_eq]; omega
        by_cases h2 : 1 < kn
        · have h2' : (1 : Int) < (kn : Int) := by omega
          have hL : LSTI f n (f i) ≠ (i : Int) := (hmore h1).1 h2
          have hkl : k ≤ 100000 := HQ.out.2
          have hb2 := TT.out.bel.size
          clear hfirst hx hmore
          go_wp2_with (first
            | (refine wpList_load_mid rfl 30 (.tmp 41) rfl g (i * 32) rfl (CELLS (f i)) _ hr2 Try.underlying30 rfl (info_cells L.out) ?_)
            | (refine build_one _ rfl 26 30 (.tmp 42) rfl (CELLS (f i)).toArray rfl 32 _ _ Try.underlying26 info_hashv (by simp [CELLS, L.out]) rfl (by decide) (by decide) ?_)
            | (at_builtin; refine app_hashm _ rfl (.tmp 35) (.tmp 43) rfl w.heap.size (.slice oa k oc) k _ rfl (TT.out.own.alloc _) _ 1 (f i) L.out rfl (Has.new _ _ _) hkl (by simp; omega) ?_; intro g7 c7 w7 hown hgrow hat hg7)
            | fail)
          have Z : Aside (FTW w w7 f n (i + 1) (k + 1) (some ⟨g7, 0, none⟩) c7) := by
            have e : TWS f n (i + 1) = TWS f n i ++ [f i] := by rw [TWS, if_pos ⟨h1, hL⟩]
            refine ⟨by rw [e, List.length_append, ← TT.out.len]; rfl, (TT.out.bel.alloc hb2 _).grown hgrow (by simp; omega) (fun k e => (TT.out.own.lt k e).1), ?_⟩
            rw [e, List.flatten_append, CELLS_append]
            simp only [List.flatten_cons, List.flatten_nil, List.append_nil]
            exact hown
          clear hown hgrow hat hg7 TT
          go_wp2
          go_roundg q
          case measure => exact Nat.lt_succ_self _
          case rel => exact ⟨i + 1, k + 1, some ⟨g7, 0, none⟩, c7, rfl, by first | rfl | rw [ei], HQ.out.1, Z.out⟩
        · have h2' : ¬ (1 : Int) < (kn : Int) := by omega
          have Z : Aside (FTW w w2 f n (i + 1) k oa oc) := TT.out.skip (fun h => h2 ((hmore h1).2 h.2))
          clear hfirst hx hmore TT
          go_wp2
          go_roundg q
          case measure => exact Nat.lt_succ_self _
          case rel => exact ⟨i + 1, k, oa, oc, rfl, by first | rfl | rw [ei], HQ.out.1, Z.out⟩
      · have e0 : x ≠ i := fun e => h1 (hfirst.1 (by rw [hx, e]))
        have eq1 : ((x : Int) == (i : Int)) = false := by rw [beq_eq_false_iff_ne]; omega
        have Z : Aside (FTW w w2 f n (i + 1) k oa oc) := TT.out.skip (fun h => h1 h.1)
        clear hfirst hx hmore TT
        go_wp2
        go_roundg q
        case measure => exact Nat.lt_succ_self _
        case rel => exact ⟨i + 1, k, oa, oc, rfl, by first | rfl | rw [ei], HQ.out.1, Z.out⟩
end Go.Proofs.Ytlbcnaenhghieaa

/- The document's find: Cut. -/
namespace Go.Proofs.Ytlbcnaenhghieaa
open Go.RowKit
set_option maxRecDepth 100000

theorem flat_cutF {w : World} {a : Option Addr} {n : Nat} {l : List Int} (h : Flat w a n l) {m : Nat} (hm : m ≤ n) : Flat w a m (l.take (32 * m)) := by
  obtain ⟨h1, h2, h3⟩ := h
  refine ⟨by rw [List.length_take]; omega, fun h0 => ?_, fun x hx => h3 x (List.mem_of_mem_take hx)⟩
  obtain ⟨b, o, e, hb, hc⟩ := h2 (by omega)
  refine ⟨b, o, e, hb, fun j hj => ?_⟩
  rw [hc j (by omega), List.getD_eq_getElem?_getD, List.getD_eq_getElem?_getD, List.getElem?_take, if_pos hj]
set_option maxHeartbeats 2000000 in
theorem find_rcut_no {w : World} {B p n : Nat} {v : Value} {f : Nat → List Int} (H : RFIND w B p v f n) (hn : n < 100000) (k : Nat) (hk : n < k) : Calls Try.prog 15 #[.pointer (some ⟨p, 0, none⟩), .int .u64 (k : Int)] w fun e w' => e = .returned (.int .i64 30) ∧ w = w' := by
  obtain ⟨a, c, rfl, -⟩ := H.slice
  have x0 := H.box.cell 0
  have hnu : IntKind.u64.wrap (n : Int) = (n : Int) := u64f (by omega)
  have hgt : (n : Int) < (k : Int) := by omega
  clear H hn
  go_enter Try.func15, Try.ntmps15
  go_wp2
  go_ret
  exact ⟨rfl, rfl⟩
theorem RFIND.anew {w w1 : World} {B p n k : Nat} {v u : Value} {f : Nat → List Int} (H : RFIND w B p v f n) (hk : k ≤ n) (hb : Below w.heap.size w w1) (ho : w1.ownsRow w.heap.size 30 32 u k (CELLS (FLS f k))) : RFIND (w1.setCell ⟨p, 0, none⟩ u) B p u f k ∧ FSTP w (w1.setCell ⟨p, 0, none⟩ u) p v none u none := by
  have hl := H.box.lt
  have hB := H.base
  have hne : u.ownBlock ≠ some p := fun e => by have := (ho.lt p e).1; omega
  refine ⟨⟨(H.keep hb).box.set 0 _, own_heap (own_mono ho (by omega)) fun k e => Below.heap_setCell _ _ _ k (fun e2 => hne (by rw [e, e2])), fun i hi => H.is i (by omega), hB, hne⟩, ?_⟩
  refine ⟨hb.os, hb.tape, hb.output, by simpa using hb.size, fun k h1 h2 => (Below.heap_setCell _ _ _ k (fun e => h2 (.inl e))).trans (hb.block k h1), ?_⟩
  rintro k (e | e | e)
  · exact .inl (.inl e)
  · exact .inr (ho.lt k e).1
  · cases e
set_option maxHeartbeats 4000000 in
theorem find_rcut {w : World} {B p n : Nat} {v : Value} {f : Nat → List Int} (H : RFIND w B p v f n) (hn : n < 100000) (k : Nat) (hk : k ≤ n) : Calls Try.prog 15 #[.pointer (some ⟨p, 0, none⟩), .int .u64 (k : Int)] w fun e w' => ∃ v', e = .returned (.int .i64 0) ∧ RFIND w' B p v' f k ∧ FSTP w w' p v none v' none := by
  obtain ⟨a, c, rfl, hac, hg⟩ := H.slice
  have hb0 : Below w.heap.size w (w.alloc (.cells #[] 30)) := (Below.refl _ _).alloc (Nat.le_refl _) _
  have x0 := (H.keep hb0).box.cell 0
  have x00 := H.box.cell 0
  have hnu : IntKind.u64.wrap (n : Int) = (n : Int) := u64f (by omega)
  have hgt : ¬ (n : Int) < (k : Int) := by omega
  have hkc : (k : Int) ≤ (c : Int) := by omega
  have hnil : a = none → c = 0 := fun e => by
    rcases H.own.2 with ⟨e2, _⟩ | ⟨g, cap, cur, e2, _⟩
    · cases e2; rfl
    · cases e2; cases e
  have HA : Aside (RFIND w B p (.slice a n c) f n ∧ k ≤ n ∧ Flat w a k (FLS f k) ∧ k ≤ 100000) := ⟨H, hk, by
    have := flat_cutF H.flat hk
    rwa [FLS_take H.is hk] at this, by omega⟩
  clear H hn hk
  go_enter Try.func15, Try.ntmps15
  go_wp2_with (first
    | (at_builtin; refine app_hashes _ rfl (.tmp 14) (.tmp 20) rfl w.heap.size (.slice (some ⟨w.heap.size, 0, none⟩) 0 0) 0 [] rfl (own_empty32 w) a k c (FLS f k) rfl (HA.out.2.2.1.below hb0) hnil (by have := HA.out.2.2.2; omega) (by simp) ?_; rw [Nat.zero_add, List.nil_append]; intro a1 c1 w1 hown1 hgrow1; have R1 : Aside (w1.ownsRow w.heap.size 30 32 (.slice a1 k c1) k (CELLS (FLS f k)) ∧ Below w.heap.size w w1) := ⟨hown1, ((Below.refl _ w).alloc (Nat.le_refl _) _).grown hgrow1 (by simp) (fun k e => by cases e; exact Nat.le_refl _)⟩; have xx := (HA.out.1.keep R1.out.2).box.cell 0; have xf := (HA.out.1.keep R1.out.2).box.frozen 0; clear hown1 hgrow1)
    | fail)
  have Z := RFIND.anew HA.out.1 HA.out.2.1 R1.out.2 R1.out.1
  go_ret
  exact ⟨rfl, _, Z.1, Z.2⟩
end Go.Proofs.Ytlbcnaenhghieaa

/- Two lists of numbers that are held against a third, written over and grown. -/
namespace Go.Proofs.Ytlbcnaenhghieaa
open Go.RowKit
set_option maxRecDepth 100000

theorem app_numH {ops : Array Oper} {rest : List Oper} {o : Oper} {a : Act} {Q : Exit → Act → World → Prop} (w : World) (hgd : o.guard = none) (s x : Operand)
    (ho : o.op = .call { callee := .builtin .append, args := #[s, x], argTypes := #[36, 36] })
    (base : Nat) (v : Value) (n : Nat) (xs : List Nat) (hs : a.eval s = v) (hown : w.ownsRow base 31 1 v n (UCELLS xs))
    (b c : Nat) (y : Nat) (hx : a.eval x = .slice (some ⟨b, 0, none⟩) 1 c) (hc : w.cell? ⟨b, 0, none⟩ = some (.int .u64 (y : Int)))
    (hb : n ≤ 1000000) (hbase : base ≤ w.heap.size)
    (h : ∀ g cap w', w'.ownsRow base 31 1 (.slice (some ⟨g, 0, none⟩) (n + 1) cap) (n + 1) (UCELLS (xs ++ [y])) → w.grownBy w' v.ownBlock → (v.ownBlock = some g ∨ g = w.heap.size) → wpList Try.prog ops Q rest (a.put o.dst (.slice (some ⟨g, 0, none⟩) (n + 1) cap)) w') : wpList Try.prog ops Q (o :: rest) a w := by
  obtain ⟨i, hi, hz, hs1, hby⟩ := info_parts info_u64
  refine wpList_append_lies w hgd s x 36 ho base 31 i (.int .u64 0) 1 8 Try.underlying36 hi hz hs1 hby rfl (by decide) v n (UCELLS xs) hs hown ⟨b, 0, none⟩ 1 c [.int .u64 (y : Int)] hx rfl ?_ (fun u hu => by simp at hu; subst hu; rfl) (by decide) (by simp only [maxLen]; omega) (by omega) hbase w.heap.size rfl ?_
  · intro j u hj
    cases j with
    | zero =>
      simp only [List.getElem?_cons_zero, Option.some.injEq] at hj
      subst hj
      exact hc
    | succ j => simp at hj
  · intro g cap w' h1 h2 h3 _
    rw [← UCELLS_snoc] at h1
    exact h g cap w' h1 h2 h3
/-- the first i are written over. -/
def OVR (L : List Nat) (x i : Nat) : List Nat := (List.range L.length).map fun j => if j < i then x else L.getD j 0
theorem OVR_length (L : List Nat) (x i : Nat) : (OVR L x i).length = L.length := by simp [OVR]
theorem OVR_get {L : List Nat} {x i j : Nat} (h : j < L.length) : (OVR L x i)[j]? = some (if j < i then x else L.getD j 0) := by
  unfold OVR
  rw [List.getElem?_map, List.getElem?_range h]
  rfl
theorem OVR_zero (L : List Nat) (x : Nat) : OVR L x 0 = L := by
  apply List.ext_getElem?
  intro k
  by_cases h : k < L.length
  · rw [OVR_get h, if_neg (by omega), List.getElem?_eq_getElem h, List.getD_eq_getElem?_getD, List.getElem?_eq_getElem h]
    rfl
  · rw [List.getElem?_eq_none (by rw [OVR_length]; omega), List.getElem?_eq_none (by omega)]
theorem OVR_all (L : List Nat) (x : Nat) : OVR L x L.length = List.replicate L.length x := by
  apply List.ext_getElem?
  intro k
  by_cases h : k < L.length
  · rw [OVR_get h, if_pos h, List.getElem?_replicate, if_pos h]
  · rw [List.getElem?_eq_none (by rw [OVR_length]; omega), List.getElem?_eq_none (by simp; omega)]
theorem OVR_set {L : List Nat} {x i : Nat} (h : i < L.length) : (OVR L x i).set i x = OVR L x (i + 1) := by
  apply List.ext_getElem?
  intro k
  by_cases hk : k < L.length
  · rw [List.getElem?_set, OVR_get hk, OVR_get hk, OVR_length]
    by_cases e : i = k
    · subst e
      rw [if_pos rfl, if_pos h, if_pos (by omega)]
    · rw [if_neg e]
      by_cases c : k < i
      · rw [if_pos c, if_pos (by omega)]
      · rw [if_neg c, if_neg (by omega)]
  · rw [List.getElem?_eq_none (by simp [OVR_length]; omega), List.getElem?_eq_none (by rw [OVR_length]; omega)]
/-- two lists of one's own, apart. -/
structure TWN (w0 w : World) (S n : Nat) (va vb : Value) (xs ys : List Nat) : Prop where
  one : w.ownsRow S 31 1 va n (UCELLS xs)
  two : w.ownsRow S 31 1 vb n (UCELLS ys)
  ne : ∀ k, va.ownBlock = some k → vb.ownBlock ≠ some k
  bel : Below S w0 w
theorem TWN.put {w0 w : World} {S n ca cb ga gb j x y : Nat} {xs ys : List Nat} (h : TWN w0 w S n (.slice (some ⟨ga, 0, none⟩) n ca) (.slice (some ⟨gb, 0, none⟩) n cb) xs ys) : TWN w0 ((w.setCell ⟨ga, j, none⟩ (.int .u64 (x : Int))).setCell ⟨gb, j, none⟩ (.int .u64 (y : Int))) S n (.slice (some ⟨ga, 0, none⟩) n ca) (.slice (some ⟨gb, 0, none⟩) n cb) (xs.set j x) (ys.set j y) := by
  have hne : ga ≠ gb := fun e => h.ne ga rfl (by rw [e]; rfl)
  have hA : S ≤ ga := (h.one.lt ga rfl).1
  have hB : S ≤ gb := (h.two.lt gb rfl).1
  refine ⟨?_, ?_, h.ne, (h.bel.setCell hA _).setCell hB _⟩
  · refine ownsRow_setCell_other (a := ⟨gb, j, none⟩) ?_ (fun e => hne (by simpa [Value.ownBlock] using e)) _
    rw [← UCELLS_set]
    exact (h.one.stored j _).1
  · rw [← UCELLS_set]
    exact ((ownsRow_setCell_other (a := ⟨ga, j, none⟩) h.two (fun e => hne (by simpa [Value.ownBlock] using e.symm)) _).stored j _).1
theorem own_cell64 {w : World} {B n c g : Nat} {xs : List Nat} (h : w.ownsRow B 31 1 (.slice (some ⟨g, 0, none⟩) n c) n (UCELLS xs)) {j x : Nat} (hx : xs[j]? = some x) : w.cell? ⟨g, j, none⟩ = some (.int .u64 (x : Int)) := by
  have hl := h.1
  rw [UCELLS_length, Nat.mul_one] at hl
  have hj := (List.getElem?_eq_some_iff.1 hx).1
  rw [h.cellAt j (by omega), UCELLS_get, hx]
  rfl
theorem TWN.keep {w0 w w' : World} {S n : Nat} {va vb : Value} {xs ys : List Nat} (h : TWN w0 w S n va vb xs ys) (hS : S ≤ w.heap.size) (hb : Below w.heap.size w w') : TWN w0 w' S n va vb xs ys :=
  ⟨own_heap h.one fun k e => hb.block k (h.one.lt k e).2, own_heap h.two fun k e => hb.block k (h.two.lt k e).2, h.ne, h.bel.trans (hb.mono hS)⟩
theorem nums_own22 {w : World} {S n c : Nat} {a : Option Addr} {L : List Nat} (h : w.ownsRow S 31 1 (.slice a n c) n (UCELLS L)) : Nums w (.slice a n c) L := by
  have hl : L.length = n := by have := h.1; rw [UCELLS_length] at this; omega
  refine ⟨a, c, by rw [hl], fun h0 => ?_⟩
  rcases h.2 with ⟨e, e0⟩ | ⟨g, cap, cur, e, _, hg, _⟩
  · omega
  · cases e
    refine ⟨g, rfl, (Array.getElem?_eq_some_iff.1 hg).1, fun j hj => ?_⟩
    refine own_cell64 h ?_
    rw [List.getD_eq_getElem?_getD, List.getElem?_eq_getElem hj]
    rfl
theorem own_some {w : World} {S n c : Nat} {a : Option Addr} {xs : List Value} {t : TypeId} {s : Nat} (h : w.ownsRow S t s (.slice a n c) n xs) (hn : 0 < n) : ∃ g, a = some ⟨g, 0, none⟩ := by
  rcases h.2 with ⟨e, e0⟩ | ⟨g, cap, cur, e, _⟩
  · omega
  · cases e
    exact ⟨g, rfl⟩
/-- the first has grown. -/
structure TWG (w0 w : World) (S n g c : Nat) (vb : Value) (xs ys : List Nat) : Prop where
  one : w.ownsRow S 31 1 (.slice (some ⟨g, 0, none⟩) (n + 1) c) (n + 1) (UCELLS xs)
  two : w.ownsRow S 31 1 vb n (UCELLS ys)
  ne : vb.ownBlock ≠ some g
  bel : Below S w0 w
  size : S ≤ w.heap.size
theorem TWN.grow {w0 w w' : World} {S n x g c : Nat} {va vb : Value} {xs ys : List Nat} {o : Obj} (h : TWN w0 w S n va vb xs ys) (hS : S ≤ w.heap.size) (hown : w'.ownsRow S 31 1 (.slice (some ⟨g, 0, none⟩) (n + 1) c) (n + 1) (UCELLS (xs ++ [x]))) (hg : (w.alloc o).grownBy w' va.ownBlock) (hat : va.ownBlock = some g ∨ g = (w.alloc o).heap.size) : TWG w0 w' S n g c vb (xs ++ [x]) ys := by
  have hsz : (w.alloc o).heap.size = w.heap.size + 1 := by simp
  have hs2 := hg.size
  refine ⟨hown, own_heap (h.two.alloc o) fun k e => hg.block k (by have := (h.two.lt k e).2; omega) (fun e2 => h.ne k e2.symm e), fun e => ?_, (h.bel.alloc hS o).grown hg (by omega) (fun k e => (h.one.lt k e).1), by omega⟩
  rcases hat with c | c
  · exact h.ne g c e
  · have := (h.two.lt g e).2
    omega
theorem TWG.grow {w0 w w' : World} {S n x g c g' c' : Nat} {vb : Value} {xs ys : List Nat} {o : Obj} (h : TWG w0 w S n g c vb xs ys) (hown : w'.ownsRow S 31 1 (.slice (some ⟨g', 0, none⟩) (n + 1) c') (n + 1) (UCELLS (ys ++ [x]))) (hg : (w.alloc o).grownBy w' vb.ownBlock) : w'.ownsRow S 31 1 (.slice (some ⟨g, 0, none⟩) (n + 1) c) (n + 1) (UCELLS xs) ∧ w'.ownsRow S 31 1 (.slice (some ⟨g', 0, none⟩) (n + 1) c') (n + 1) (UCELLS (ys ++ [x])) ∧ Below S w0 w' := by
  have hsz : (w.alloc o).heap.size = w.heap.size + 1 := by simp
  have hs := h.size
  refine ⟨own_heap (h.one.alloc o) fun k e => hg.block k (by have := (h.one.lt k e).2; omega) (fun e2 => h.ne ?_), hown, (h.bel.alloc h.size o).grown hg (by omega) (fun k e => (h.two.lt k e).1)⟩
  rw [← e2, ← e]
  rfl
set_option maxHeartbeats 4000000 in
theorem same22_ok {w : World} {S n ca cb : Nat} {aa ab vw : Option Addr} {cw : Nat} {L : List Nat} (hw : Nums w (.slice vw n cw) L) (hT : TWN w w S n (.slice aa n ca) (.slice ab n cb) L L) (hn : n ≤ 1000) (hL : L.length = n) (hS : S ≤ w.heap.size) : Calls Try.prog 8 #[.slice aa n ca, .slice ab n cb, .slice vw n cw] w fun e w' => e = .returned (.bool true) ∧ Below S w w' := by
  have c1 := samenumbers_ok _ _ L w (by omega) (nums_own22 hT.one) hw
  have HA : Aside (TWN w w S n (.slice aa n ca) (.slice ab n cb) L L ∧ n ≤ 1000 ∧ L.length = n ∧ S ≤ w.heap.size ∧ Nums w (.slice vw n cw) L) := ⟨hT, hn, hL, hS, hw⟩
  clear hw hT hn hL hS
  go_enter Try.func8, Try.ntmps8
  go_wp2_with fail
  refine c1.mono ?_
  rintro e w1 ⟨rfl, hb1⟩
  have T1 := HA.out.1.keep HA.out.2.2.2.1 hb1
  have c2 := samenumbers_ok _ _ L w1 (by have := HA.out.2; omega) (nums_own22 T1.two) (HA.out.2.2.2.2.below hb1 (Nat.le_refl _))
  have A1 : Aside (TWN w w1 S n (.slice aa n ca) (.slice ab n cb) L L ∧ S ≤ w1.heap.size) := ⟨T1, Nat.le_trans HA.out.2.2.2.1 hb1.size⟩
  clear c1 hb1 T1
  go_wp2_with fail
  refine c2.mono ?_
  rintro e w2 ⟨rfl, hb2⟩
  have A2 : Aside (TWN w w2 S n (.slice aa n ca) (.slice ab n cb) L L ∧ S ≤ w2.heap.size) := ⟨A1.out.1.keep A1.out.2 hb2, Nat.le_trans A1.out.2 hb2.size⟩
  clear c2 hb2
  go_wp2_with fail
  go_loopg [7] n (fun q s7 wx => ∃ (i : Nat), s7 = .int .i64 (i : Int) ∧ Aside (i + q = n ∧ TWN w wx S n (.slice aa n ca) (.slice ab n cb) (OVR L 201 i) (OVR L 202 i) ∧ S ≤ wx.heap.size))
  case atStart => exact ⟨0, rfl, by omega, by rw [OVR_zero, OVR_zero]; exact A2.out.1, A2.out.2⟩
  case round =>
    obtain ⟨i, rfl, A⟩ := hrel
    cases gk with
    | succ q =>
      have hin : i < n := by have := A.out.1; omega
      have hlt : (i : Int) < (n : Int) := by omega
      obtain ⟨ga, rfl⟩ := own_some A.out.2.1.one (by omega)
      obtain ⟨gb, rfl⟩ := own_some A.out.2.1.two (by omega)
      have hne : ga ≠ gb := fun e => A.out.2.1.ne ga rfl (by rw [e]; rfl)
      have hil : i < L.length := by have := HA.out.2.2.1; omega
      have x0 := own_cell64 A.out.2.1.one (OVR_get (x := 201) (i := i) hil)
      have x1 := A.out.2.1.one.frozenAt i
      have y0' := own_cell64 A.out.2.1.two (OVR_get (x := 202) (i := i) hil)
      have hb : (wr.setCell ⟨ga, i, none⟩ (.int .u64 201)).heap[gb]? = wr.heap[gb]? := Below.heap_setCell _ _ _ gb (fun e => hne e.symm)
      have y0 : (wr.setCell ⟨ga, i, none⟩ (.int .u64 201)).cell? ⟨gb, i, none⟩ = some (.int .u64 ((if i < i then 202 else L.getD i 0 : Nat) : Int)) := (World.cell?_of_block (a := ⟨gb, i, none⟩) hb).trans y0'
      have y1 : (wr.setCell ⟨ga, i, none⟩ (.int .u64 201)).frozen? ⟨gb, i, none⟩ = false := (World.frozen?_of_block (a := ⟨gb, i, none⟩) hb).trans (A.out.2.1.two.frozenAt i)
      have ei : wrap64 ((i : Int) + 1) = ((i + 1 : Nat) : Int) := by have := HA.out.2.1; unfold wrap64; omega
      have Z : Aside (i + 1 + q = n ∧ TWN w ((wr.setCell ⟨ga, i, none⟩ (.int .u64 201)).setCell ⟨gb, i, none⟩ (.int .u64 202)) S n (.slice (some ⟨ga, 0, none⟩) n ca) (.slice (some ⟨gb, 0, none⟩) n cb) (OVR L 201 (i + 1)) (OVR L 202 (i + 1)) ∧ S ≤ ((wr.setCell ⟨ga, i, none⟩ (.int .u64 201)).setCell ⟨gb, i, none⟩ (.int .u64 202)).heap.size) := ⟨(Nat.add_right_comm i 1 q).trans A.out.1, by
        have := A.out.2.1.put (j := i) (x := 201) (y := 202)
        rw [OVR_set hil, OVR_set hil] at this
        exact this, by simpa using A.out.2.2⟩
      clear A hb y0' hin hil
      go_wp2
      go_roundg q
      case measure => exact Nat.lt_succ_self _
      case rel => exact ⟨i + 1, by first | rfl | rw [ei], Z.out⟩
    | zero =>
      obtain rfl : i = n := A.out.1
      have hlt : ¬ (i : Int) < (i : Int) := by omega
      have hLi := HA.out.2.2.1
      have A3 : Aside (TWN w wr S i (.slice aa i ca) (.slice ab i cb) (List.replicate i 201) (List.replicate i 202) ∧ S ≤ wr.heap.size ∧ i ≤ 1000) := ⟨by
        have := A.out.2.1
        have e1 := OVR_all L 201
        have e2 := OVR_all L 202
        rw [hLi] at e1 e2
        rw [e1, e2] at this
        exact this, A.out.2.2, HA.out.2.1⟩
      clear A HA A1 A2 hLi
      go_wp2_with (first
        | (at_builtin; refine app_numH _ rfl (.tmp 31) (.tmp 32) rfl S (.slice aa i ca) i (List.replicate i 201) rfl (A3.out.1.one.alloc _) wr.heap.size 1 201 rfl ((Has.new _ _ _).cell 0) (by have := A3.out.2.2; omega) (by have := A3.out.2.1; simp; omega) ?_; intro g3 c3 w3 hown hgrow hat; have A4 : Aside (TWG w w3 S i g3 c3 (.slice ab i cb) (List.replicate i 201 ++ [201]) (List.replicate i 202)) := A3.out.1.grow A3.out.2.1 hown hgrow hat; clear hown hgrow hat)
        | (at_builtin; refine app_numH _ rfl (.tmp 34) (.tmp 35) rfl S (.slice ab i cb) i (List.replicate i 202) rfl (A4.out.two.alloc _) w3.heap.size 1 202 rfl ((Has.new _ _ _).cell 0) (by have := A3.out.2.2; omega) (by have := A4.out.size; simp; omega) ?_; intro g5 c5 w5 hown hgrow hat; have A5 : Aside (w5.ownsRow S 31 1 (.slice (some ⟨g3, 0, none⟩) (i + 1) c3) (i + 1) (UCELLS (List.replicate i 201 ++ [201])) ∧ w5.ownsRow S 31 1 (.slice (some ⟨g5, 0, none⟩) (i + 1) c5) (i + 1) (UCELLS (List.replicate i 202 ++ [202])) ∧ Below S w w5) := A4.out.grow hown hgrow; clear hown hgrow hat)
        | fail)
      have hr1 : ∀ j, j < i + 1 → (List.replicate i 201 ++ [201])[j]? = some 201 := fun j hj => by
        rw [← List.replicate_succ', List.getElem?_replicate, if_pos hj]
      have hr2 : ∀ j, j < i + 1 → (List.replicate i 202 ++ [202])[j]? = some 202 := fun j hj => by
        rw [← List.replicate_succ', List.getElem?_replicate, if_pos hj]
      have CC : Aside ((∀ j, j < i + 1 → w5.cell? ⟨g3, j, none⟩ = some (.int .u64 201) ∧ w5.cell? ⟨g5, j, none⟩ = some (.int .u64 202)) ∧ Below S w w5 ∧ i ≤ 1000) := ⟨fun j hj => ⟨own_cell64 A5.out.1 (hr1 j hj), own_cell64 A5.out.2.1 (hr2 j hj)⟩, A5.out.2.2, A3.out.2.2⟩
      clear A3 A4 A5 hr1 hr2 hlt
      obtain ⟨m, hm⟩ : ∃ m, i + 1 = m := ⟨_, rfl⟩
      rw [hm] at CC ⊢
      have hm2 : Aside (i + 1 = m) := hm
      clear hm
      go_loopg [8] m (fun q s8 wx => ∃ (j : Nat), s8 = .int .i64 (j : Int) ∧ wx = w5 ∧ Aside (j + q = m))
      case atStart => exact ⟨0, rfl, rfl, by show 0 + m = m; omega⟩
      case round =>
        obtain ⟨j, rfl, rfl, A⟩ := hrel
        cases gk with
        | succ q =>
          have hjm : j < m := by have := A.out; omega
          have hlt : (j : Int) < (m : Int) := by omega
          obtain ⟨c1, c2⟩ := CC.out.1 j hjm
          have ej : wrap64 ((j : Int) + 1) = ((j + 1 : Nat) : Int) := by have := CC.out.2.2; have := hm2.out; unfold wrap64; omega
          have HQ : Aside (j + 1 + q = m) := (Nat.add_right_comm j 1 q).trans A.out
          clear A hjm
          go_wp2_with fail
          go_roundg q
          case measure => exact Nat.lt_succ_self _
          case rel => exact ⟨j + 1, by first | rfl | rw [ej], rfl, HQ.out⟩
        | zero =>
          obtain rfl : j = m := A.out
          have hlt : ¬ (j : Int) < (j : Int) := by omega
          have Z : Aside (Below S w wr) := CC.out.2.1
          clear CC A
          go_wp2
          go_ret
          exact ⟨rfl, Z.out⟩
end Go.Proofs.Ytlbcnaenhghieaa

/- Leaves are cut off. -/
namespace Go.Proofs.Ytlbcnaenhghieaa
open Go.RowKit Go.Maps
set_option maxRecDepth 100000

set_option maxHeartbeats 2000000 in
theorem find_cut_no {w : World} {B p n : Nat} {v : Value} {m : Option Nat} {f : Nat → List Int} (H : FIND w B p v m f n) (hn : n < 100000) (k : Nat) (hk : n < k) : Calls Try.prog 14 #[.pointer (some ⟨p, 0, none⟩), .int .u64 (k : Int)] w fun e w' => e = .returned (.int .i64 30) ∧ w = w' := by
  have hs := find_size H (by omega)
  have hgt : (n : Int) < (k : Int) := by omega
  clear H hn
  go_enter Try.func14, Try.ntmps14
  go_wp2_with fail
  refine hs.mono ?_
  rintro e w1 ⟨rfl, rfl⟩
  clear hs
  go_wp2
  go_ret
  exact ⟨rfl, rfl⟩
set_option maxHeartbeats 4000000 in
theorem find_cut {w : World} {B p n : Nat} {v : Value} {m : Option Nat} {f : Nat → List Int} (H : FIND w B p v m f n) (hn : n < 100000) (k : Nat) (hk : k ≤ n) : Calls Try.prog 14 #[.pointer (some ⟨p, 0, none⟩), .int .u64 (k : Int)] w fun e w' => ∃ v' m', e = .returned (.int .i64 0) ∧ FIND w' B p v' m' f k ∧ FSTP w w' p v m v' m' := by
  have hs := find_size H (by omega)
  have hgt : (decide (n < k)) = false := by rw [decide_eq_false_iff_not]; omega
  have hgt' : ¬ n < k := by omega
  have HA : Aside (FIND w B p v m f n ∧ n < 100000 ∧ k ≤ n) := ⟨H, hn, hk⟩
  clear H hn hk
  go_enter Try.func14, Try.ntmps14
  go_wp2_with fail
  refine hs.mono ?_
  rintro e w1 ⟨rfl, rfl⟩
  clear hs
  go_wp2_with fail
  clear hgt hgt'
  go_loopg [9] (n - k) (fun q _ wx => ∃ (j : Nat) (v1 : Value) (m1 : Option Nat), Aside (j = k + q ∧ j ≤ n ∧ FIND wx B p v1 m1 f j ∧ FSTP w wx p v m v1 m1))
  case atStart => exact ⟨n, v, m, by have := HA.out.2.2; omega, Nat.le_refl _, HA.out.1, FSTP.of_below (Below.refl _ _)⟩
  case round =>
    obtain ⟨j, v1, m1, A⟩ := hrel
    have hs := find_size A.out.2.2.1 (by have := A.out.2.1; have := HA.out.2.1; omega)
    cases gk with
    | succ q =>
      have hgt2 : (k : Int) < (j : Int) := by have := A.out.1; omega
      obtain ⟨i, hi⟩ : ∃ i, j = i + 1 := ⟨k + q, by have := A.out.1; omega⟩
      subst hi
      have hf := find_forget A.out.2.2.1 (by have := A.out.2.1; have := HA.out.2.1; omega)
      have R : Aside (i = k + q ∧ i ≤ n ∧ FSTP w wr p v m v1 m1) := ⟨by have := A.out.1; omega, by have := A.out.2.1; omega, A.out.2.2.2⟩
      clear A
      go_wp2_with fail
      refine hs.mono ?_
      rintro e w1 ⟨rfl, rfl⟩
      clear hs
      go_wp2_with fail
      refine hf.mono ?_
      rintro e w2 ⟨v2, m2, rfl, F2, S2⟩
      have Z : Aside (FIND w2 B p v2 m2 f i ∧ FSTP w w2 p v m v2 m2) := ⟨F2, R.out.2.2.trans S2⟩
      clear hf F2 S2
      go_wp2
      go_roundg q
      case measure => exact Nat.lt_succ_self _
      case rel => exact ⟨i, v2, m2, R.out.1, R.out.2.1, Z.out⟩
    | zero =>
      obtain rfl : j = k := A.out.1
      obtain ⟨a, c, rfl, hac, -⟩ := A.out.2.2.1.slice
      have x0 := A.out.2.2.1.box.cell 0
      have hkn : j ≤ 100000 := by have := A.out.2.1; have := HA.out.2.1; omega
      by_cases hc : (j : Int) < wrap64 ((c : Int) / 4)
      · obtain ⟨b, rfl⟩ : ∃ b, m1 = some b := by
          rcases A.out.2.2.1.map with ⟨_, e, _⟩ | ⟨b, e, _⟩
          · cases e
            exact absurd hc (by unfold wrap64; omega)
          · exact ⟨b, e⟩
        have SH : Aside (∀ nq, Calls Try.prog 27 #[.pointer (some ⟨p, 0, none⟩)] (wr.drewN nq) fun e w' => ∃ v' m', e = .returned (.tuple #[]) ∧ FIND w' B p v' m' f j ∧ FSTP w w' p v m v' m') := fun nq => (find_shrink (A.out.2.2.1.keep (below_drewN (Below.refl _ _) nq)) hkn).mono (by
          rintro e w' ⟨v', m', rfl, h1, h2⟩
          exact ⟨v', m', rfl, h1, (A.out.2.2.2.trans (FSTP.of_below (below_drewN (Below.refl _ _) nq))).trans h2⟩)
        clear A HA
        go_wp2_with fail
        refine hs.mono ?_
        rintro e w1 ⟨rfl, rfl⟩
        clear hs
        go_upto_region 5 with fail
        go_quiet (fail)
        have hsh := SH.out nq
        clear SH
        generalize wr.drewN nq = wq at *
        go_wp2_with fail
        refine hsh.mono ?_
        rintro e w3 ⟨v3, m3, rfl, F3, S3⟩
        have Z : Aside (FIND w3 B p v3 m3 f j ∧ FSTP w w3 p v m v3 m3) := ⟨F3, S3⟩
        clear hsh F3 S3
        go_wp2
        go_ret
        exact ⟨v3, m3, rfl, Z.out.1, Z.out.2⟩
      · have R : Aside (FIND wr B p (.slice a j c) m1 f j ∧ FSTP w wr p v m (.slice a j c) m1) := A.out.2.2
        clear A HA
        go_wp2_with fail
        refine hs.mono ?_
        rintro e w1 ⟨rfl, rfl⟩
        clear hs
        go_upto_region 5 with fail
        go_quiet (fail)
        have Z : Aside (FIND (wr.drewN nq) B p (.slice a j c) m1 f j ∧ FSTP w (wr.drewN nq) p v m (.slice a j c) m1) := ⟨R.out.1.keep (below_drewN (Below.refl _ _) nq), R.out.2.trans (FSTP.of_below (below_drewN (Below.refl _ _) nq))⟩
        clear R
        generalize wr.drewN nq = wq at *
        go_wp2
        go_ret
        exact ⟨_, m1, rfl, Z.out.1, Z.out.2⟩
end Go.Proofs.Ytlbcnaenhghieaa
